import Derived.Test.YtpljdjmpamjkhaaGreatDoorYas
import Derived.Test.YtpljdjmpamjkhaaGreatDoorYbr
import Derived.Test.YtpljdjmpamjkhaaGreatDoorYbq
import Derived.Test.YtpljdjmpamjkhaaGreatDoorYbj
set_option linter.unusedVariables false
set_option linter.unusedSimpArgs false
set_option maxRecDepth 100000
set_option maxHeartbeats 4000000
namespace Go.Proofs.YtpljdjmpamjkhaaGreatDoor
open Go.RowKit Go.Lib
def A9(l:List Fd)(j:Nat):Nat:=match l[j]? with
 | none=>0
 | some f=>f.2.2.1
def fvM(op:Nat)(c:Cl)(k:Nat):Int:=if op=5 then (if c.1=0 then 0 else 90) else if c.1=0 then 10 else if c.1≠k then 10 else if op=4/\k≠3 then 10 else 0
def GX(c:Cl):Int:=flt (c.1:Int) c.2.1 (am c.2.2)
def ffM(l:List Fd)(op f:Nat)(c:Cl)(n:Nat):Int:=if 0<n then 90 else match iG l f with
 | none=>81
 | some j=>if GX c=0 then fvM op c (A9 l j) else if GX c=1 then 90 else GX c
def fkM(op f:Nat)(c:Cl)(n:Nat):Int:=if f≠0 then 90 else if ¬ (c.1=0/\c.2.1=0/\(am c.2.2).toList.isEmpty=true) then 90 else if op=8/\n≠1 then 90 else 0
def nF(l:List Fd)(op f:Nat)(c:Cl)(n:Nat):Int:=if 1<=op/\op<=5 then ffM l op f c n else if 6<=op/\op<=8 then fkM op f c n else 90
 mutual
def mC(l:List Fd):PT->Int
 | .node op f c ks=>if nF l op f c ks.length≠0 then nF l op f c ks.length else firstAll l ks
def firstAll(l:List Fd):List PT->Int
 | []=>0
 | k::ks=>if mC l k≠0 then mC l k else firstAll l ks
 end
theorem Ba{l:List Fd}{ks:List PT}:firstAll l (ks.drop ks.length)=0:=by rw[jaE];simp only[firstAll]
theorem sO{w:World}{b off op f:Nat}{c:Cl}{kv:Value}(hn:gH w b off op f c kv)(k:Nat):Calls Tryz.prog 218 #[.pointer (some ⟨b,off,none⟩),.int .u8 (k:Int)] w fun e w'=>e=.returned (.int .i64 (fvM op c k))/\Below w.heap.size w w':=by
 obtain⟨dW,x0,x1,x2,x3,x4,x5⟩:=hn;unfold fvM;by_cases h5:op=5
 ·subst h5
  rw[if_pos rfl];by_cases h0:c.1=0
  ·rw[if_pos h0]
   have h0':((c.1:Int)==0)=true:=by rw[h0];rfl
   clear h0;go_enter Tryz.func218,Tryz.ntmps218
   go_wp2_with fail;go_ret
   exact⟨rfl,ZQ _ _⟩
  ·rw[if_neg h0]
   have h0':((c.1:Int)==0)=false:=Z1.2 (by omega);clear h0;go_enter Tryz.func218,Tryz.ntmps218
   go_wp2_with fail;go_ret
   exact⟨rfl,ZQ _ _⟩
 ·rw[if_neg h5]
  have n5:((op:Int)==5)=false:=Z1.2 (by omega);clear h5;by_cases h0:c.1=0
  ·rw[if_pos h0]
   have h0':((c.1:Int)==0)=true:=by rw[h0];rfl
   clear h0;go_enter Tryz.func218,Tryz.ntmps218
   go_wp2_with fail;go_ret
   exact⟨rfl,ZQ _ _⟩
  ·rw[if_neg h0]
   have h0':((c.1:Int)==0)=false:=Z1.2 (by omega);clear h0;by_cases hk:c.1≠k
   ·rw[if_pos hk]
    have hk':((c.1:Int) != (k:Int))=true:=by simp;omega
    clear hk;go_enter Tryz.func218,Tryz.ntmps218
    go_wp2_with fail;go_ret
    exact⟨rfl,ZQ _ _⟩
   ·rw[if_neg hk]
    have hk':((c.1:Int) != (k:Int))=false:=by simp;omega
    clear hk;by_cases h4:op=4
    ·subst h4
     by_cases h3:k=3
     ·subst h3
      rw[if_neg (by simp)];go_enter Tryz.func218,Tryz.ntmps218
      go_wp2_with fail;go_ret
      exact⟨rfl,ZQ _ _⟩
     ·rw[if_pos ⟨rfl,h3⟩]
      have h3':((k:Int) != 3)=true:=by simp;omega
      clear h3;go_enter Tryz.func218,Tryz.ntmps218
      go_wp2_with fail;go_ret
      exact⟨rfl,ZQ _ _⟩
    ·rw[if_neg (fun h=>h4 h.1)]
     have h4':((op:Int)==4)=false:=Z1.2 (by omega);clear h4;go_enter Tryz.func218,Tryz.ntmps218
     go_wp2_with fail;go_ret
     exact⟨rfl,ZQ _ _⟩
theorem sP{w:World}{b off op f si:Nat}{c:Cl}{a:Option Addr}{n cap:Nat}{fv:Value}{l:List Fd}(hn:gH w b off op f c (.slice a n cap))(hs:Sf w fv l)(jr:Okc c):Calls Tryz.prog 190 #[.pointer (some ⟨b,off,none⟩),.agg #[.int .u32 (si:Int),fv]] w fun e w'=>e=.returned (.int .i64 (ffM l op f c n))/\Below w.heap.size w w':=by
 obtain⟨fa,fcap,rfl,hfc,SV⟩:=hs.form;have aG:=ak w (.cells #[.int .u32 (si:Int),.slice fa l.length fcap] 25);have aQ:=ae aG;obtain⟨e0,e1⟩:=bE w (.int .u32 (si:Int)) (.slice fa l.length fcap) 25;have hz:w.heap.size<(w.alloc (.cells #[.int .u32 (si:Int),.slice fa l.length fcap] 25)).heap.size:=by rw[ZS];omega
 have HS:=ae (hs.kept aG);have HN:=ae (hn.kept aG);have HO:=ae jr;generalize hA:w.alloc (.cells #[.int .u32 (si:Int),.slice fa l.length fcap] 25)=A at *;clear aG hs hn jr;obtain⟨dW,x0,x1,x2,x3,x4,x5⟩:=HN.out
 have HD:Hid (ffM l op f c n=if 0<n then 90 else match iG l f with
  | none=>81
  | some j=>if GX c=0 then fvM op c (A9 l j) else if GX c=1 then 90 else GX c):=ae rfl
 generalize ffM l op f c n=R at *;by_cases qa:0<n
 ·rw[if_pos qa]at HD
  have hn0':(0:Int)<(n:Int):=by omega
  clear qa;go_enter Tryz.func190,Tryz.ntmps190
  go_wp2_with fail;go_ret
  rw[HD.out];exact⟨rfl,aQ.out⟩
 ·rw[if_neg qa]at HD
  obtain rfl:n=0:=by omega
  clear qa;have rH:=ae (fun(U:World) (hU:Below A.heap.size A U)=>se (HS.out.kept hU) si f);have Wj:∀ s:bL (fun x=>Below A.heap.size A x),s.w.cell? ⟨w.heap.size,0,none⟩=some (.int .u32 (si:Int)):=fun s=>(s.ok.cell (p:=⟨w.heap.size,0,none⟩) hz).trans e0
  have zV:∀ s:bL (fun x=>Below A.heap.size A x),s.w.cell? ⟨w.heap.size,1,none⟩=some (.slice fa l.length fcap):=fun s=>(s.ok.cell (p:=⟨w.heap.size,1,none⟩) hz).trans e1
  have Bq:∀ s:bL (fun x=>Below A.heap.size A x),s.w.cell? ⟨b,off+1,none⟩=some (.int .u32 (f:Int)):=fun s=>(s.ok.cell (p:=⟨b,off+1,none⟩) dW).trans x1
  haveI:Nonempty (bL (fun x=>Below A.heap.size A x)):=⟨bL.mk A (ZQ _ _)⟩
  go_enter Tryz.func190,Tryz.ntmps190
  go_wp2_with fail;refine cp (S:=fun x=>Below A.heap.size A x) (by kernel_rfl) (by kernel_rfl) (by first | exact(ZQ _ _).drew | (rw[hA];exact(ZQ _ _).drew)) ?_;repeat (go_big_quiet_step ((go_at_call 193;exact(rH.out _ (bL.ok _)).mono (fun e w' h=>⟨h.1,bL.mk w' (ai (bL.ok _) h.2),rfl⟩))))
  refine wpQuiet_nil ?_;rintro _ ⟨s2,rfl⟩;obtain⟨w2,pf⟩:∃ x,x=s2.w:=⟨_,rfl⟩;have aD:=s2.ok;rw[← pf]at aD ⊢;have aN:=ae aD;have gC:=ae (HS.out.kept aD);have EI:=ae (HN.out.kept aD);have g0:=(aD.cell (p:=⟨w.heap.size,0,none⟩) hz).trans e0;have g1:=(aD.cell (p:=⟨w.heap.size,1,none⟩) hz).trans e1;have bm:=Z9 hz aD.size;clear pf aD Wj zV Bq x0 x1 x2 x3 x4 x5 HN HS e0 e1 hz hA dW;obtain⟨dW,x0,x1,x2,x3,x4,x5⟩:=EI.out;cases hp:iG l f with
  | none =>
   rw[hp]at HD;simp only[Option.isSome_none,Option.getD_none];clear hp;go_wp2_with fail;go_ret
   rw[HD.out];exact⟨rfl,ai aQ.out aN.out⟩
  | some j =>
   rw[hp]at HD;have hj:=Nh hp;simp only[Option.isSome_some,Option.getD_some];clear hp;go_wp2_with fail;refine(PS HO.out _).mono ?_;rintro e w3 ⟨rfl,aP⟩;have bM:=ae (ai aN.out aP);have hN3:=EI.out.kept aP;have k0:=(aP.cell (p:=⟨w.heap.size,0,none⟩) bm).trans g0;have k1:=(aP.cell (p:=⟨w.heap.size,1,none⟩) bm).trans g1;obtain⟨gb,goff,rfl,Mu,y0,y1,y2,y3⟩:=(gC.out.kept aP).at hj;clear aP x0 x1 x2 x3 x4 x5 g0 g1 bm dW;have HN3:=ae hN3;clear hN3;have HKA:Hid (A9 l j=l[j].2.2.1):=ae (by unfold A9;rw[List.getElem?_eq_getElem hj]);have hj':(j:Int)<(l.length:Int):=by omega
   have HE:Hid (GX c=flt (c.1:Int) c.2.1 (am c.2.2)):=ae rfl;rw[HKA.out]at HD;generalize l[j].2.2.1=kd at *;obtain⟨fl,jM⟩:∃ fl,fl=flt (c.1:Int) c.2.1 (am c.2.2):=⟨_,rfl⟩;rw[← jM]at HE ⊢;rw[HE.out]at HD;clear jM HE HKA;by_cases h0:fl=0
   ·subst h0
    simp only[if_true]at HD;go_wp2_with fail;refine(sO HN3.out kd).mono ?_;rintro e w4 ⟨rfl,bv⟩;have b9:=ae (ai bM.out bv);clear bv;go_wp2_with fail;go_ret
    rw[HD.out];exact⟨rfl,ai aQ.out b9.out⟩
   ·have h0':(fl==0)=false:=Z1.2 h0
    simp only[if_neg h0]at HD;by_cases h1:fl=1
    ·subst h1
     simp only[if_true]at HD;clear h0;go_wp2_with fail;go_ret
     rw[HD.out];exact⟨rfl,ai aQ.out bM.out⟩
    ·have h1':(fl==1)=false:=Z1.2 h1
     simp only[if_neg h1]at HD;clear h0 h1;go_wp2_with fail;go_ret
     rw[HD.out];exact⟨rfl,ai aQ.out bM.out⟩
def D9(w:World)(t:PT)(m d:Nat)(e:Ending)(w':World):Prop:=(∃ n:Int,e=.returned (.int .i64 n)/\-1<=n/\n<100/\(∀ op f c,t=.node op f c []->0<m->0<d->n=(m:Int)-1))/\w'=w
def LW(w:World)(l:List Fd)(t:PT)(e:Ending)(w':World):Prop:=(∃ n:Int,e=.returned (.int .i64 n)/\(∀ op f c,t=.node op f c []->n=mC l t))/\Below w.heap.size w w'
def sId:ByteArray:=⟨#[105,100]⟩
def Vx:ByteArray:=⟨#[110,97,109,101]⟩
def fy:List Fd:=[(1,sId,1,true),(2,Vx,3,false)]
def rA1:Row:=[(1,1,[]),(3,0,[97])]
def rA2:Row:=[(1,2,[]),(0,0,[])]
def rA:List Row:=[rA1,rA2]
def pA:PT:=.node 1 1 (1,2,[]) []
theorem Um:chk 1 fy=0:=by decide +kernel
theorem fitA1:jE fy rA1=0:=by decide +kernel
theorem fitA2:jE fy rA2=0:=by decide +kernel
theorem JS{n:Int}(h:I64 n):aU (1,n,[]):=Or.inr (Or.inl ⟨n,rfl,h⟩)
theorem Un:aU (3,0,[97]):=Or.inr (Or.inr (Or.inr ⟨[97],rfl,by decide,fun x hx=>by simp at hx;omega⟩))
theorem Uo:aU (0,0,[]):=Or.inl rfl
theorem Xr:∀ c∈rA1,aU c:=fun c hc=>by
 rcases Z6.1 hc with rfl | hc
 ·exact JS ⟨by omega,by omega⟩
 ·obtain rfl:c=(3,0,[97]):=by simpa using hc
  exact Un
theorem Bc:∀ c∈rA2,aU c:=fun c hc=>by
 rcases Z6.1 hc with rfl | hc
 ·exact JS ⟨by omega,by omega⟩
 ·obtain rfl:c=(0,0,[]):=by simpa using hc
  exact Uo
theorem pb:jJ fy rA:=fun r hr=>by
 rcases Z6.1 hr with rfl | hr
 ·exact⟨fitA1,Xr⟩
 ·obtain rfl:r=rA2:=by simpa using hr
  exact⟨fitA2,Bc⟩
theorem okA:∀ f∈fy,Okf f:=fun f hf=>by
 rcases Z6.1 hf with rfl | hf
 ·exact⟨by decide,by decide⟩
 ·obtain rfl:f=(2,Vx,3,false):=by simpa using hf
  exact⟨by decide,by decide⟩
def bA:List Nat:=bK (et 1 fy rA 1)
theorem QW:bT 1 fy rA (1:Int)=(bA,0):=A7 (g:=1) okA (by omega) Um (by decide) (by omega) (by omega) pb
theorem Vy:jl bA=.ok (1,fy,1,[grp fy [rA1],grp fy [rA2]]):=A8 (g:=1) okA (by omega) (fun r hr=>(pb r hr).2) QW
theorem bsA:Bs bA:=(lX okA (by omega) Um (by decide) (by omega) (by omega) pb).2.seal
theorem Xs:5<bA.length/\bA.length<=70000:=by
 constructor
 ·unfold bA
  rw[jV];unfold et lQ;simp only[ZT,ZW,jad,le4];omega
 ·have:=wW okA (by omega) Um (show rA.length<=60 by decide) (by omega) (show 1<=64 by omega) pb
  unfold bA;omega
theorem turnA:jl (bA.set 5 (bA[5]'Xs.1 ^^^ 1))=.error 101:=by
 have h:=AJ (b:=et 1 fy rA 1) (j:=5) (y:=1) (lX okA (by omega) Um (by decide) (by omega) (by omega) pb).2 Xs.1 (by omega) (by omega);unfold jl;have e:ep (bA.set 5 (bA[5]'Xs.1 ^^^ 1))=none:=h;rw[e]
theorem Xt:mC fy pA=0:=by decide +kernel
theorem mayA1:W6 (oG fy (grp fy [rA1]).2 pA) 2=false:=by decide +kernel
theorem mayA2:W6 (oG fy (grp fy [rA2]).2 pA) 2=true:=by decide +kernel
theorem Xu:jk fy rA2 pA=2:=by decide +kernel
theorem Up{W:World}{q:Nat}{x y a b:Value}{t:TypeId}(h:W.heap[q]?=some (.cells #[x,y] t (0,0))):((W.setCell ⟨q,0,none⟩ a).setCell ⟨q,1,none⟩ b).heap[q]?=some (.cells #[a,b] t (0,0)):=by
 have h1:(W.setCell ⟨q,0,none⟩ a).heap[q]?=some (.cells #[a,y] t (0,0)):=by rw[cM h];rfl
 rw[cM h1];rfl
theorem Bd{w:World}{B fp id:Nat}{fv:Value}{gs:List Gr}{fs:List Fd}(h:Fil w B fp id fv gs)(hf:Sf w fv fs)(hl:fs.length<=1000) :
  Calls Tryz.prog 19 #[.pointer (some ⟨fp,0,none⟩)] w fun e w'=>(∃ v,e=.returned (.agg #[.int .u32 (id:Int),v])/\dR w' w.heap.size v fs)/\Below w.heap.size w w':=by
 obtain⟨gv,xs,h1,_,_,_⟩:=h;have EH:=(Array.getElem?_eq_some_iff.1 h1).1;obtain⟨fa,fc,rfl,_,_⟩:=hf.form;have aG:=ak w (.cells #[.int .u32 0,.slice none 0 0] 25);have hq:=heap_alloc_new w (.cells #[.int .u32 0,.slice none 0 0] 25);have hz:(w.alloc (.cells #[.int .u32 0,.slice none 0 0] 25)).heap.size=w.heap.size+1:=ZS _ _;generalize hA:w.alloc (.cells #[.int .u32 0,.slice none 0 0] 25)=A at *
 have HT:Hid (∀ U,Below A.heap.size A U->U.cell? ⟨fp,0,none⟩=some (.int .u32 (id:Int))/\U.cell? ⟨fp,1,none⟩=some (.slice fa fs.length fc)):=ae (fun U hU=>by
  have hfU:=(hU.block fp (by omega)).trans ((aG.block fp EH).trans h1);exact⟨by rw[ax hfU];rfl,by rw[ax hfU];rfl⟩)
 have HQ:Hid (∀ U,Below A.heap.size A U->U.heap[w.heap.size]?=some (.cells #[.int .u32 0,.slice none 0 0] 25 (0,0))):=ae (fun U hU=>(hU.block w.heap.size (by omega)).trans hq)
 have pe:Hid (∀ U,Below A.heap.size A U->Calls Tryz.prog 55 #[.slice fa fs.length fc] U fun e w'=>∃ a c,e=.returned (.slice a fs.length c)/\dR w' A.heap.size (.slice a fs.length c) fs/\Below A.heap.size A w'/\w'.frozen? ⟨w.heap.size,0,none⟩=false/\w'.frozen? ⟨w.heap.size,1,none⟩=false/\w'.cell? ⟨w.heap.size,0,none⟩=some (.int .u32 0)/\w'.cell? ⟨w.heap.size,1,none⟩=some (.slice none 0 0)):=ae (fun U hU=>by
  refine(Gg (hf.kept (aG.trans (hU.mono aG.size))|>.kept (ZQ _ _)) hl).mono ?_;rintro e w' ⟨⟨v,rfl,ho⟩,hb⟩;have hbU:=ai hU hb;have hqU:=HQ.out _ hbU;obtain⟨a,c,rfl,_,_⟩:=bF ho;exact⟨a,c,rfl,ho.low hU.size,hbU,by simp[World.frozen?,hqU],by simp[World.frozen?,hqU],by rw[ax hqU];rfl,by rw[ax hqU];rfl⟩)
 have aQ:=ae aG;have HZ:=ae hz;clear h1 hf aG hq hz;obtain⟨c0,c1⟩:=HT.out A (ZQ _ _);go_enter Tryz.func19,Tryz.ntmps19
 go_wp2_with fail;try rw[hA]
 clear hA;refine wp_region_noPanic ?_
 go_region_law (first
  | (go_simp;go_at_call 55;refine(pe.out _ ?_).mono ?_;exact below_drewN (ZQ A.heap.size A) _;rintro e w5 ⟨a5,c5,rfl,fT,bq,fr0,fr1,q0,q1⟩;obtain⟨d0,d1⟩:=HT.out w5 bq;have aR:=ae bq;have dH:=ae fT;clear bq fT;dsimp only)
  | fail)
 all_goals refine NoPanic.normal ?_
 all_goals go_wp2_with fail
 all_goals
  have js:=Up (a:=.int .u32 (id:Int)) (b:=.slice a5 fs.length c5) (HQ.out w5 aR.out)
  have zK:dR ((w5.setCell ⟨w.heap.size,0,none⟩ (.int .u32 (id:Int))).setCell ⟨w.heap.size,1,none⟩ (.slice a5 fs.length c5)) A.heap.size (.slice a5 fs.length c5) fs:=bX dH.out fun k hk=>by
   have kz:=(aL dH.out hk).1;have bm:=HZ.out;rw[Below.heap_setCell _ _ _ _ (by show k≠w.heap.size;omega),Below.heap_setCell _ _ _ _ (by show k≠w.heap.size;omega)]
  have dN:=((aQ.out.trans (aR.out.mono aQ.out.size)).setCell (p:=⟨w.heap.size,0,none⟩) (ZR _) (.int .u32 (id:Int))).setCell (p:=⟨w.heap.size,1,none⟩) (ZR _) (.slice a5 fs.length c5);have t0:((w5.setCell ⟨w.heap.size,0,none⟩ (.int .u32 (id:Int))).setCell ⟨w.heap.size,1,none⟩ (.slice a5 fs.length c5)).cell? ⟨w.heap.size,0,none⟩=some (.int .u32 (id:Int)):=by rw[ax js];rfl
  have t1:((w5.setCell ⟨w.heap.size,0,none⟩ (.int .u32 (id:Int))).setCell ⟨w.heap.size,1,none⟩ (.slice a5 fs.length c5)).cell? ⟨w.heap.size,1,none⟩=some (.slice a5 fs.length c5):=by rw[ax js];rfl
  generalize (w5.setCell ⟨w.heap.size,0,none⟩ (.int .u32 (id:Int))).setCell ⟨w.heap.size,1,none⟩ (.slice a5 fs.length c5)=FW at *;have hzw:w.heap.size<=A.heap.size:=by have:=HZ.out;omega
  refine bodyPost_ret (v:=.agg #[.int .u32 (id:Int),.slice a5 fs.length c5]) (by simp[results,Tryz.results19,go_sem,t0,t1]) rfl ⟨⟨_,rfl,zK.low hzw⟩,dN⟩
theorem LX(w:World):Calls Tryz.prog 35 #[] w fun e w'=>(∃ v',e=.returned (.agg #[.int .u32 1,v'])/\dR w' w.heap.size v' fy)/\Below w.heap.size w w':=by
 have HL:Hid (∀ W:World,dR (W.alloc (.cells #[.int .u32 1,.string ⟨#[105,100]⟩,.int .u8 1,.bool true,.int .u32 2,.string ⟨#[110,97,109,101]⟩,.int .u8 3,.bool false] 81)) W.heap.size (.slice (some ⟨W.heap.size,0,none⟩) 2 2) fy):=ae (fun W=>pJ W fy (by unfold maxLen;decide));have aG:=ak w (.cells #[.int .u32 0,.slice none 0 0] 25);have jq:(w.alloc (.cells #[.int .u32 0,.slice none 0 0] 25)).heap.size=w.heap.size+1:=ZS _ _;have rz:=ae jq;clear jq;go_enter Tryz.func35,Tryz.ntmps35
 go_wp2;refine bodyPost_ret (v:=.agg #[.int .u32 1,.slice (some ⟨w.heap.size+1,0,none⟩) 2 2]) (by simp[results,Tryz.results35,go_sem]) rfl ?_;refine⟨⟨_,rfl,?_⟩,?_⟩
 ·have h:=HL.out (w.alloc (.cells #[.int .u32 1,.slice (some ⟨w.heap.size+1,0,none⟩) 2 2] 25))
  rw[ZS]at h;exact h.low (by omega)
 ·exact((ZQ _ _).alloc (ZR _) _).alloc (by rw[ZS];omega) _
def QX(fs:List Fd)(t:PT)(r:Row):Bool:=jk fs r t==2
def mD(fs:List Fd)(t:PT)(rows:List Row):List Row:=rows.filter (QX fs t)
theorem LY{fs:List Fd}{t:PT}{rows:List Row}{k:Nat}(h:k<rows.length):mD fs t (rows.take (k+1))=mD fs t (rows.take k)++(if QX fs t rows[k]=true then [rows[k]] else []):=by
 unfold mD;rw[Z5 h,jbi];simp[jbt]
theorem wY(fs:List Fd)(t:PT)(rows:List Row):(mD fs t rows).length<=rows.length:=jbf _ _
theorem Be{w:World}{B fp id op f:Nat}{fv gv kv a b:Value}{fs:List Fd}{rows:List Row}{sts:List Stt}{c:Cl}{ks:List PT}(jN:w.heap[fp]?=some (.cells #[.int .u32 (id:Int),fv,gv] 105 (0,0)))(xB:Sf w fv fs)(hg:Gro w B (.agg #[a,b]) rows sts)
  (hk:sk w kv ks) (EJ:∀ U rv r,Below w.heap.size w U->Sv U rv (aI r)->(∀ x∈r,aU x)->Calls Tryz.prog 113 #[.agg #[.int .u8 (op:Int),.int .u32 (f:Int),.int .u8 (c.1:Int),.int .i64 c.2.1,.string (am c.2.2),kv],.agg #[.int .u32 (id:Int),fv],rv] U fun e w'=>e=.returned (.int .u8 (jk fs r (.node op f c ks):Int))/\Below U.heap.size U w') (hr:∀ r∈rows,r.length<=1000/\∀ x∈r,aU x) (hl:rows.length<=1000) :
  Calls Tryz.prog 67 #[.pointer (some ⟨fp,0,none⟩),.agg #[a,b],.agg #[.int .u8 (op:Int),.int .u32 (f:Int),.int .u8 (c.1:Int),.int .i64 c.2.1,.string (am c.2.2),kv]] w
   fun e w'=>(∃ v l,e=.returned v/\Ow w' w.heap.size v l/\l.map Prod.snd=mD fs (.node op f c ks) rows)/\Below w.heap.size w w':=by
 obtain⟨R,rfl,hR1,hR2,hR3,jO⟩:=hg.rows;obtain⟨fa,fc,rfl,_,_⟩:=xB.form;obtain⟨ka,kc,rfl,_,_⟩:=hk.form;have EH:=(Array.getElem?_eq_some_iff.1 jN).1;have aG:=ak w (.cells #[.slice (some ⟨R,0,none⟩) rows.length rows.length,b] 109);obtain⟨g0,g1⟩:=bE w (.slice (some ⟨R,0,none⟩) rows.length rows.length) b 109;have aD:=ak (w.alloc (.cells #[.slice (some ⟨R,0,none⟩) rows.length rows.length,b] 109)) (.cells #[.int .u8 (op:Int),.int .u32 (f:Int),.int .u8 (c.1:Int),.int .i64 c.2.1,.string (am c.2.2),.slice ka ks.length kc] 63);obtain⟨p0,p1,p2,p3,p4,p5⟩:=sp (w.alloc (.cells #[.slice (some ⟨R,0,none⟩) rows.length rows.length,b] 109)) (.int .u8 (op:Int)) (.int .u32 (f:Int)) (.int .u8 (c.1:Int)) (.int .i64 c.2.1) (.string (am c.2.2)) (.slice ka ks.length kc) 63;have cW:(w.alloc (.cells #[.slice (some ⟨R,0,none⟩) rows.length rows.length,b] 109)).heap.size=w.heap.size+1:=ZS _ _;have bm:((w.alloc (.cells #[.slice (some ⟨R,0,none⟩) rows.length rows.length,b] 109)).alloc (.cells #[.int .u8 (op:Int),.int .u32 (f:Int),.int .u8 (c.1:Int),.int .i64 c.2.1,.string (am c.2.2),.slice ka ks.length kc] 63)).heap.size=w.heap.size+2:=by rw[ZS,ZS]
 have g0':=(aD.cell (p:=⟨w.heap.size,0,none⟩) (by show w.heap.size<_;omega)).trans g0;rw[cW]at p0 p1 p2 p3 p4 p5;have kY:=ai aG aD;generalize hA:(w.alloc (.cells #[.slice (some ⟨R,0,none⟩) rows.length rows.length,b] 109)).alloc (.cells #[.int .u8 (op:Int),.int .u32 (f:Int),.int .u8 (c.1:Int),.int .i64 c.2.1,.string (am c.2.2),.slice ka ks.length kc] 63)=A at *
 have HT:Hid (∀ U,Below A.heap.size A U->U.cell? ⟨fp,0,none⟩=some (.int .u32 (id:Int))/\U.cell? ⟨fp,1,none⟩=some (.slice fa fs.length fc)/\U.cell? ⟨w.heap.size,0,none⟩=some (.slice (some ⟨R,0,none⟩) rows.length rows.length) /\
   U.cell? ⟨w.heap.size+1,0,none⟩=some (.int .u8 (op:Int))/\U.cell? ⟨w.heap.size+1,1,none⟩=some (.int .u32 (f:Int))/\U.cell? ⟨w.heap.size+1,2,none⟩=some (.int .u8 (c.1:Int))/\U.cell? ⟨w.heap.size+1,3,none⟩=some (.int .i64 c.2.1)/\U.cell? ⟨w.heap.size+1,4,none⟩=some (.string (am c.2.2))/\U.cell? ⟨w.heap.size+1,5,none⟩=some (.slice ka ks.length kc)):=ae (fun U hU=>by
  have hfU:=(hU.block fp (by omega)).trans ((kY.block fp EH).trans jN);refine⟨by rw[ax hfU];rfl,by rw[ax hfU];rfl,(hU.cell (p:=⟨w.heap.size,0,none⟩) (by show w.heap.size<_;omega)).trans g0',?_,?_,?_,?_,?_,?_⟩
  ·exact(hU.cell (p:=⟨w.heap.size+1,0,none⟩) (by show w.heap.size+1<_;omega)).trans p0
  ·exact(hU.cell (p:=⟨w.heap.size+1,1,none⟩) (by show w.heap.size+1<_;omega)).trans p1
  ·exact(hU.cell (p:=⟨w.heap.size+1,2,none⟩) (by show w.heap.size+1<_;omega)).trans p2
  ·exact(hU.cell (p:=⟨w.heap.size+1,3,none⟩) (by show w.heap.size+1<_;omega)).trans p3
  ·exact(hU.cell (p:=⟨w.heap.size+1,4,none⟩) (by show w.heap.size+1<_;omega)).trans p4
  ·exact(hU.cell (p:=⟨w.heap.size+1,5,none⟩) (by show w.heap.size+1<_;omega)).trans p5)
 have HROW:Hid (∀ U,Below A.heap.size A U->∀ i (h:i<rows.length),∃ ra rc,U.cell? ⟨R,i,none⟩=some (.slice ra rows[i].length rc)/\Sv U (.slice ra rows[i].length rc) (aI rows[i])/\rows[i].length<=1000/\∀ x∈rows[i],aU x):=ae (fun U hU i hi=>by
  obtain⟨rv,e1,e2⟩:=jO i hi;have fs':=e2.sv;obtain⟨ra,rc,rfl,_,_⟩:=fs'.form1;rw[aF]at *;have hbU:=kY.trans (hU.mono kY.size);exact⟨ra,rc,(hbU.cell (p:=⟨R,i,none⟩) hR2).trans e1,fs'.kept hbU,hr _ (ZV hi)⟩)
 have HEV:Hid (∀ U ra n rc r,Below A.heap.size A U->Sv U (.slice ra n rc) (aI r)->(∀ x∈r,aU x)->Calls Tryz.prog 113 #[.agg #[.int .u8 (op:Int),.int .u32 (f:Int),.int .u8 (c.1:Int),.int .i64 c.2.1,.string (am c.2.2),.slice ka ks.length kc],.agg #[.int .u32 (id:Int),.slice fa fs.length fc],.slice ra n rc] U
   fun e w'=>e=.returned (.int .u8 (jk fs r (.node op f c ks):Int))/\Below U.heap.size U w'):=ae (fun U ra n rc r hU hs Wi=>by
  have hbU:=kY.trans (hU.mono kY.size);exact EJ U _ r hbU hs Wi)
 have m9:=ae kY;have Zs:=ae (fun k (h:k<rows.length)=>LY (fs:=fs) (t:=.node op f c ks) h);have HHM:Hid (∀ r,QX fs (.node op f c ks) r=(jk fs r (.node op f c ks)==2)):=ae (fun r=>rfl);have HHL:=ae (fun k=>wY fs (.node op f c ks) (rows.take k));have M9:Hid (mD fs (.node op f c ks) (rows.take rows.length)=mD fs (.node op f c ks) rows):=ae (by rw[ZY]);generalize (PT.node op f c ks)=T at *;clear jN xB hg hk EJ hr jO aG aD g0 g1 p0 p1 p2 p3 p4 p5 g0' kY;obtain⟨c0,c1,c2,d0,d1,d2,d3,d4,d5⟩:=HT.out A (ZQ _ _);have J6:=ae bm;clear bm cW;generalize c.1=k0 at *;generalize c.2.1=k1 at *;generalize am c.2.2=k2 at *;go_enter Tryz.func67,Tryz.ntmps67
 go_wp2_with fail;try rw[hA]
 go_loopw [7,13] (fun o i wr=>∃(j:Nat) (l:List (Value×Row)),j<=rows.length/\i=.int .i64 (j:Int)/\Ow wr A.heap.size o l/\l.map Prod.snd=mD fs T (rows.take j)/\Below A.heap.size A wr) (fun _ i _=>rows.length-(intOf i).toNat)
 case atStart=>exact⟨0,[],by omega,rfl,Ow.nil _ _,rfl,ZQ _ _⟩
 case round =>
  obtain⟨j,l,hj,rfl,how,uJ,ay⟩:=hrel;have HO:=ae how;have HB:=ae ay;have sY:=ae uJ;have bO:=ay.size
  have zQ:l.length<=rows.length:=by
   have h1:=congrArg List.length uJ;have h2:=HHL.out j;rw[ZU]at h1;rw[ZX]at h2;omega
  clear how ay uJ;obtain⟨c0,c1,c2,d0,d1,d2,d3,d4,d5⟩:=HT.out wr HB.out;obtain⟨la,lc,rfl,VM,Bo,_⟩:=HO.out.form;by_cases aB:j<rows.length
  ·have hlt':(j:Int)<(rows.length:Int):=by omega
   obtain⟨ra,rc,dP,ib,ph,Wi⟩:=HROW.out wr HB.out j aB;have zL:=ae ib;have mV:=ae (Zs.out j aB);have YD:=ae (HHM.out rows[j])
   have YE:Hid (∀ U,Below wr.heap.size wr U->Calls Tryz.prog 113 #[.agg #[.int .u8 (op:Int),.int .u32 (f:Int),.int .u8 (k0:Int),.int .i64 k1,.string k2,.slice ka ks.length kc],.agg #[.int .u32 (id:Int),.slice fa fs.length fc],.slice ra rows[j].length rc] U
     fun e w'=>e=.returned (.int .u8 (jk fs rows[j] T:Int))/\Below wr.heap.size wr w'):=ae (fun U hU=>by
    refine(HEV.out U ra _ rc rows[j] (HB.out.trans (hU.mono bO)) (ib.kept hU) Wi).mono ?_;rintro e w' ⟨rfl,hb⟩;exact⟨rfl,ai hU hb⟩)
   obtain⟨E,hE⟩:∃ E,jk fs rows[j] T=E:=⟨_,rfl⟩;rw[hE]at YE YD;have U5:Hid (QX fs T rows[j]=(E==2)):=ae YD.out;clear hE YD ib Wi;generalize rows[j]=r at *;go_upto_region 5 with fail
   go_cut [24] from 32 (fun v wx=>v=.bool ((E:Int)==2)/\Below wr.heap.size wr wx)
   case first =>
    refine wp_region_noPanic ?_
    go_region_law (first
     | (go_simp;go_at_call 113;refine(YE.out _ ?_).mono ?_;exact below_drewN (ZQ wr.heap.size wr) _;rintro e w1 ⟨rfl,aG⟩;have aQ:=ae aG;clear aG;dsimp only)
     | fail)
    all_goals refine NoPanic.normal ?_
    all_goals go_wp2_with fail
    all_goals go_meet
    all_goals exact⟨rfl,aQ.out⟩
   case rest =>
   obtain⟨rfl,EK⟩:=hcut;obtain⟨w1,Zh⟩:∃ w1,w1=wc:=⟨_,rfl⟩;subst Zh;have aQ:=ae EK;clear EK;have HBW1:=ae (HB.out.trans (aQ.out.mono bO));have cW:=aQ.out.size;clear YE c0 c1 c2 d0 d1 d2 d3 d4 d5 dP;by_cases hE2:E=2
   ·have hEq:((E:Int)==2)=true:=by rw[hE2];rfl
    have YF:Hid (mD fs T (rows.take (j+1))=mD fs T (rows.take j)++[r]):=ae (by rw[mV.out,U5.out,hE2];rfl);have pe:=ae (pK (zL.out.kept aQ.out) ph);have fA:=ae (HO.out.kept aQ.out);clear mV U5 hE2 HO;go_wp2_with fail;refine pe.out.mono ?_;rintro e w2 ⟨⟨v2,rfl,fq⟩,aD⟩;have dr:=ae (fA.out.kept aD);have UP:=ae fq;have aN:=ae (HBW1.out.trans (aD.mono (by omega)));have bm:=aD.size;obtain⟨ra',rc',rfl,_,_⟩:=bF fq;have mP:=ae (aK w2 (.slice ra' r.length rc') 79);clear aD fq pe fA;go_wp2_with (first | (at_builtin;refine jB rfl _ _ rfl A.heap.size _ _ l [(.slice ra' r.length rc',r)] rfl (dr.out.kept (ak _ _)) rfl (A1 mP.out (by rw[ZS];omega)) ?c1 ?c2 ?c3 ?_))
    case c1 =>
     intro x hx;rw[jay.1 hx];exact(UP.out.kept (ak _ _)).of_le (by omega)
    case c2=>simp only[jan];omega
    case c3=>rw[ZS];omega
    intro v' w5 o5 b5;have dH:=ae o5;have aR:=ae ((aN.out.alloc (by omega) _).trans b5);clear o5 b5;go_wp2_with fail;go_roundw
    case rel=>exact⟨j+1,_,by omega,by go_num,dH.out,by rw[YF.out,Z8,sY.out];rfl,aR.out⟩
    case measure=>simp[intOf];omega
   ·have hEq:((E:Int)==2)=false:=by simp;omega
    have YF:Hid (mD fs T (rows.take (j+1))=mD fs T (rows.take j)):=ae (by
     have:(E==2)=false:=by simpa using hE2
     rw[mV.out,U5.out,this];simp)
    have fA:=ae (HO.out.kept aQ.out);clear mV U5 hE2 HO;go_wp2_with fail;go_roundw
    case rel=>exact⟨j+1,l,by omega,by go_num,fA.out,by rw[YF.out,sY.out],HBW1.out⟩
    case measure=>simp[intOf];omega
  ·obtain rfl:j=rows.length:=by omega
   have gJ:¬ ((rows.length:Nat):Int)<(rows.length:Int):=by omega
   have EG:Hid (l.map Prod.snd=mD fs T rows):=ae (sY.out.trans M9.out);go_wp2_with fail;go_ret
   have Ez:w.heap.size<=A.heap.size:=by have:=J6.out;omega
   first | exact⟨⟨_,_,rfl,HO.out.low Ez,EG.out⟩,ai m9.out HB.out⟩ | exact⟨⟨_,rfl,_,HO.out.low Ez,EG.out⟩,ai m9.out HB.out⟩
end Go.Proofs.YtpljdjmpamjkhaaGreatDoor
