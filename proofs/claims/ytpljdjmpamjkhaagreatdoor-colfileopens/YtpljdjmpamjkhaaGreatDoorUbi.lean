import Derived.Test.YtpljdjmpamjkhaaGreatDoorUbh
set_option linter.unusedVariables false
set_option linter.unusedSimpArgs false
set_option maxRecDepth 100000
set_option maxHeartbeats 4000000
namespace Go.Proofs.YtpljdjmpamjkhaaGreatDoor
open Go.RowKit Go.Lib
def YK(w:World)(b:List Nat)(e:Ending)(w':World):Prop :=
 ((∃ c,js b=.error c/\e=.returned (.tuple #[.pointer none,.int .i64 (c:Int)])) ∨
  ∃ id fs g gs fp fv,js b=.ok (id,fs,g,gs)/\e=.returned (.tuple #[.pointer (some ⟨fp,0,none⟩),.int .i64 0])/\Fil w' w.heap.size fp id fv gs/\dT w' w.heap.size fv fs)/\Below w.heap.size w w'
theorem mK{b t:List Nat}(h:et b=some t)(h8:Bs b):Bs t/\t.length<=b.length:=by
 unfold et at h;split at h
 ·cases h
  exact⟨h8.take _,by rw[jdo];omega⟩
 ·cases h
theorem pre3(t:List Nat):([67,70,49]:List Nat).isPrefixOf t=true↔t.take 3=[67,70,49]:=by
 constructor
 ·intro h
  obtain⟨r,rfl⟩:=jeu.1 h;rfl
 ·intro h
  exact jeu.2 ⟨t.drop 3,by rw[← h,jeD]⟩
theorem qj{w:World}(ht:Tab w){v:Value}{b:List Nat}(hs:Sv w v (aF .u8 b))(h8:Bs b)(hl:b.length<=80000000) :
  Calls Tryz.prog 17 #[v] w (YK w b):=by
 have HT:=ae ht;have HS:=ae hs;have H8:=ae h8;have HO:=ae (SX ht hs.toK h8 (by omega));obtain⟨a,cap,rfl,_,_⟩:=hs.form1;rw[ap]at *
 have HE:jfb (js b=match et b with
  | none=>.error 101
  | some t=>if t.take 3=[67,70,49] then (match iK (t.drop 3)with
    | none=>.error 102
    | some x=>if bU x.1 x.2.1 (bQ x.2.2.2) x.2.2.1=(b,0) then .ok x else .error 102) else .error 100):=ae rfl
 have Ci:=ae (fun t (h:et b=some t)=>mK h h8);unfold YK;generalize js b=OF at *;clear ht hs h8;cases CA:et b with
 | none =>
  rw[CA]at HE HO;clear CA Ci;go_enter Tryz.func17,Tryz.ntmps17
  go_wp2_with fail;refine HO.o.mono ?_;rintro e w1 ⟨⟨v1,rfl,o1⟩,aH⟩;have aR:=ae aH;clear o1 aH;simp only[Option.isSome];go_wp2_with fail;go_ret2
  exact⟨.inl ⟨101,HE.o,rfl⟩,aR.o⟩
 | some t =>
  obtain⟨t8,tl⟩:=Ci.o t CA;rw[CA]at HE HO;simp only at HE;clear CA Ci;have T8:=ae t8;go_enter Tryz.func17,Tryz.ntmps17
  go_wp2_with fail;refine HO.o.mono ?_;rintro e w1 ⟨⟨v1,rfl,o1⟩,aH⟩;simp only[Option.isSome,Option.getD]at *;have aR:=ae aH;have fC:=ae o1;obtain⟨a1,cap1,rfl,_,_⟩:=bG o1;have ie:=o1.sv;have yE:=o1.lt;have HWI:jfb (∀ i,(Value.slice a1 t.length cap1).ownBlock=some i->i<w1.heap.size):=ae (fun i hi=>(yE i hi).2);have aE:=dt w1 (.cells #[.int .u8 67,.int .u8 70,.int .u8 49] 5 (3,4));have xF:fL (w1.alloc (.cells #[.int .u8 67,.int .u8 70,.int .u8 49] 5 (3,4))) w1.heap.size (.slice (some ⟨w1.heap.size,0,none⟩) 3 3) [67,70,49]:=Or.inr ⟨rfl,_,rfl,jdh _,jdH _ _⟩;have UW:=ae (EK (ie.kept aE) xF.sv t8 (by intro x hx;simp at hx;omega));have aO:=ae (ai aR.o aE);have HTB2:=ae (HT.o.kept aO.o);have gE:=ae (HS.o.kept aO.o);have LM:jfb (∀ p,w1.heap.size<p->True):=ae (fun _ _=>trivial);have hsz2:w1.heap.size<=(w1.alloc (.cells #[.int .u8 67,.int .u8 70,.int .u8 49] 5 (3,4))).heap.size:=aE.size;have HSZ2:=ae hsz2
  have uL:(convert 30 30 (.slice (some ⟨w1.heap.size,0,none⟩) 3 3)).run Tryz.prog (w1.alloc (.cells #[.int .u8 67,.int .u8 70,.int .u8 49] 5))=.ok (.slice (some ⟨w1.heap.size,0,none⟩) 3 3) (w1.alloc (.cells #[.int .u8 67,.int .u8 70,.int .u8 49] 5 (3,4))) :=
   run_convert_bytes_const w1 30 5 #[.int .u8 67,.int .u8 70,.int .u8 49] 3 3 Tryz.underlying30 Tryz.underlying5
  clear aH o1 ie yE aE xF hsz2 t8 HO;go_wp2_with fail;refine UW.o.mono ?_;rintro e w3 ⟨⟨v3,rfl,ll,hw3⟩,rfl⟩;generalize w1.alloc (.cells #[.int .u8 67,.int .u8 70,.int .u8 49] 5 (3,4))=W2 at *;have yJ:jfb (nR W2.heap.size v3):=ae (hw3 W2.heap.size fun i hi=>jdD (HWI.o i hi) HSZ2.o);clear hw3 UW;by_cases hp:([67,70,49]:List Nat).isPrefixOf t=true
  ·have hp3:=(pre3 t).1 hp
   rw[jdf hp]at ll;rw[jdf hp3]at HE;rw[hp];have h38:Bs (t.drop 3):=fun x hx=>T8.o x (jeO hx)
   have h3l:(t.drop 3).length<=80000000:=by rw[jdN];omega
   have HRD:=ae (JM (b:=t.drop 3) ll h38 h3l yJ.o);have HWH:=ae (fun id g fs gs (h:iK (t.drop 3)=some (id,fs,g,gs))=>uf h38 h)
   obtain⟨va3,vn3,vc3,rfl⟩:∃ a n c,v3=.slice a n c:=by
    obtain⟨a,c,e,_⟩:=ll.form1;exact⟨_,_,_,e⟩
   clear hp hp3 ll h38 h3l;go_wp2_with fail;refine HRD.o.mono ?_;rintro e w4 ⟨⟨hrn,fp,g,rfl⟩ | ⟨id,fs,g,gs,fp,fv,Zp,rfl,uT,how⟩,bw⟩
   ·rw[hrn]at HE
    simp only at HE;have ce:=ae (ai aO.o bw);clear bw hrn HRD HWH;go_wp2_with fail;go_ret2
    exact⟨.inl ⟨102,HE.o,rfl⟩,ce.o⟩
   ·obtain⟨dR,na,ho,eS,gM,xH,dV,_⟩:=HWH.o _ _ _ _ Zp
    rw[Zp]at HE;simp only at HE;have jT:=(mH dR).2.1;have HSO:=ae (TN (g:=g) (HTB2.o.kept bw) (gE.o.kept bw) H8.o uT how.sf ho na (fun r hr=>⟨by rw[(dV r hr).1];omega,(dV r hr).2⟩) (by omega));obtain⟨D,hD⟩:∃ D,decide (bU id fs (bQ gs) (g:Int)=(b,0))=D:=⟨_,rfl⟩;rw[hD]at HSO;have HD:=ae hD;have ce:=ae (ai aO.o bw);have xN:=ae uT;have UY:=ae how;have Ke:=aO.o.size;clear bw Zp HRD HWH dR na ho eS gM xH dV hD uT how jT;go_wp2_with fail;refine HSO.o.mono ?_;rintro e w5 ⟨rfl,br⟩;have aS:=ae (ai ce.o br);have xU:=ae (xN.o.kept br);have dJ:=ae (UY.o.kept br);clear br xN UY HSO;cases D with
    | true =>
     have hw:=of_decide_eq_true HD.o;rw[jdf hw]at HE;clear hw HD;go_wp2_with fail;go_ret2
     exact⟨.inr ⟨id,fs,g,gs,fp,fv,HE.o,rfl,xU.o.low Ke,dJ.o.low Ke⟩,aS.o⟩
    | false =>
     have hw:=of_decide_eq_false HD.o;rw[jde hw]at HE;clear hw HD;go_wp2_with fail;go_ret2
     exact⟨.inl ⟨102,HE.o,rfl⟩,aS.o⟩
  ·have PQ:([67,70,49]:List Nat).isPrefixOf t=false:=Bool.eq_false_iff.2 hp
   rw[jde (fun e=>hp ((pre3 t).2 e))]at HE;rw[PQ];clear hp PQ ll;go_wp2_with fail;go_ret2
   exact⟨.inl ⟨100,HE.o,rfl⟩,aO.o⟩
theorem xy{w:World}{B fp id:Nat}{fv:Value}{gs:List Gr}(h:Fil w B fp id fv gs)(Co:(bQ gs).length<=100000) :
  Calls Tryz.prog 20 #[.pointer (some ⟨fp,0,none⟩)] w fun e w'=>e=.returned (.int .i64 ((bQ gs).length:Int))/\Below w.heap.size w w':=by
 obtain⟨gv,xs,h1,h2,h3,h4⟩:=h;obtain⟨ga,gc,rfl,hgc,hgm⟩:=bG h3;have c2:w.cell? ⟨fp,2,none⟩=some (.slice ga gs.length gc):=by rw[ay h1];rfl
 have HG:jfb (∀ k (hk:k<gs.length),∃ G R va vn vc,ga=some ⟨G,0,none⟩/\∀ W,Below w.heap.size w W->W.cell? ⟨G,k*2,none⟩=some (.slice (some ⟨R,0,none⟩) gs[k].1.length gs[k].1.length)/\W.cell? ⟨G,k*2+1,none⟩=some (.slice va vn vc)):=ae (fun k hk=>by
  obtain⟨a,b,e1,e2,e3⟩:=h4 k hk;obtain⟨R,rfl,g1,g2,⟨va,vn,vc,rfl⟩,g4⟩:=e3.rows;obtain⟨G,rfl,_,hG,ly⟩:=gZ h3 e1;obtain⟨_,e,_,_,kF⟩:=gZ h3 e2;cases e
  exact⟨G,R,va,vn,vc,rfl,fun W hb=>⟨(hb.cell (p:=⟨G,k*2,none⟩) hG).trans (by rw[jdP];exact ly),(hb.cell (p:=⟨G,k*2+1,none⟩) hG).trans (by rw[jdP k];exact kF)⟩⟩)
 have HT:=ae (fun j=>ff gs j);have rQ:=ae (fun j (h:j<gs.length)=>mh h);have HTA:jfb (bQ (gs.take gs.length)=bQ gs):=ae (by rw[jdp]);have PX:=ae Co;clear h1 h2 h3 h4 Co;go_enter Tryz.func20,Tryz.ntmps20
 go_wp2_with fail;go_loopw [3,11] (fun a i wr=>∃ k:Nat,i=.int .i64 (k:Int)/\k<=gs.length/\a=.int .i64 ((bQ (gs.take k)).length:Int)/\Below w.heap.size w wr) (fun _ i _=>gs.length-(intOf i).toNat)
 case atStart=>exact⟨0,rfl,by omega,rfl,jdg _ _⟩
 case round =>
  obtain⟨k,rfl,hk,rfl,az⟩:=hrel;have HB:=ae az;clear az;by_cases aC:k<gs.length
  ·obtain⟨G,R,va,vn,vc,rfl,hcells⟩:=HG.o k aC
   obtain⟨ca,cb⟩:=hcells wr HB.o;have hlt':(k:Int)<(gs.length:Int):=(by omega);have nr:=ae (HB.o.alloc HB.o.size (.cells #[.slice (some ⟨R,0,none⟩) gs[k].1.length gs[k].1.length,.slice va vn vc] 109));obtain⟨cg,_⟩:=bF wr (.slice (some ⟨R,0,none⟩) gs[k].1.length gs[k].1.length) (.slice va vn vc) 109;have Vb:=jdm List.length (rQ.o k aC);have pu:=HT.o (k+1);have htt:=PX.o;rw[jdj]at Vb;have Kj:IntKind.i64.wrap (((bQ (gs.take k)).length:Int)+(gs[k].1.length:Int))=((bQ (gs.take (k+1))).length:Int):=by rw[jdR];omega
   have KD:=ae (show ((bQ (gs.take (k+1))).length:Int)=((bQ (gs.take (k+1))).length:Int) from rfl);clear Vb pu htt hcells;go_wp2_with fail;go_roundw
   case rel=>exact⟨k+1,by go_num,by omega,rfl,nr.o⟩
   case measure=>simp[intOf];omega
  ·obtain rfl:k=gs.length:=by omega
   have gL:¬ ((gs.length:Nat):Int)<(gs.length:Int):=(by omega);have HTE:jfb ((bQ (gs.take gs.length)).length=(bQ gs).length):=ae (jdm List.length HTA.o);go_wp2_with fail;go_ret
   exact⟨by rw[← HTE.o];rfl,HB.o⟩
def BK(l:List Fd)(j:Nat):Nat:=match l[j]? with
 | none=>0
 | some f=>f.2.2.1
def fvM(op:Nat)(c:Cl)(k:Nat):Int:=if op=5 then (if c.1=0 then 0 else 90) else if c.1=0 then 10 else if c.1≠k then 10 else if op=4/\k≠3 then 10 else 0
def JQ(c:Cl):Int:=flt (c.1:Int) c.2.1 (am c.2.2)
def ffM(l:List Fd)(op f:Nat)(c:Cl)(n:Nat):Int:=if 0<n then 90 else match iI l f with
 | none=>81
 | some j=>if JQ c=0 then fvM op c (BK l j) else if JQ c=1 then 90 else JQ c
def fkM(op f:Nat)(c:Cl)(n:Nat):Int:=if f≠0 then 90 else if ¬ (c.1=0/\c.2.1=0/\(am c.2.2).toList.isEmpty=true) then 90 else if op=8/\n≠1 then 90 else 0
def nS(l:List Fd)(op f:Nat)(c:Cl)(n:Nat):Int:=if 1<=op/\op<=5 then ffM l op f c n else if 6<=op/\op<=8 then fkM op f c n else 90
 mutual
def mL(l:List Fd):PT->Int
 | .node op f c ks=>if nS l op f c ks.length≠0 then nS l op f c ks.length else firstAll l ks
def firstAll(l:List Fd):List PT->Int
 | []=>0
 | k::ks=>if mL l k≠0 then mL l k else firstAll l ks
 end
theorem BM{l:List Fd}{ks:List PT}:firstAll l (ks.drop ks.length)=0:=by rw[jeb];simp only[firstAll]
theorem tj{w:World}{b off op f:Nat}{c:Cl}{kv:Value}(hn:gJ w b off op f c kv)(k:Nat):Calls Tryz.prog 218 #[.pointer (some ⟨b,off,none⟩),.int .u8 (k:Int)] w fun e w'=>e=.returned (.int .i64 (fvM op c k))/\Below w.heap.size w w':=by
 obtain⟨dY,x0,x1,x2,x3,x4,x5⟩:=hn;unfold fvM;by_cases h5:op=5
 ·subst h5
  rw[jdf rfl];by_cases h0:c.1=0
  ·rw[jdf h0]
   have h0':((c.1:Int)==0)=true:=by rw[h0];rfl
   clear h0;go_enter Tryz.func218,Tryz.ntmps218
   go_wp2_with fail;go_ret
   exact⟨rfl,jdg _ _⟩
  ·rw[jde h0]
   have h0':((c.1:Int)==0)=false:=jdt.2 (by omega);clear h0;go_enter Tryz.func218,Tryz.ntmps218
   go_wp2_with fail;go_ret
   exact⟨rfl,jdg _ _⟩
 ·rw[jde h5]
  have n5:((op:Int)==5)=false:=jdt.2 (by omega);clear h5;by_cases h0:c.1=0
  ·rw[jdf h0]
   have h0':((c.1:Int)==0)=true:=by rw[h0];rfl
   clear h0;go_enter Tryz.func218,Tryz.ntmps218
   go_wp2_with fail;go_ret
   exact⟨rfl,jdg _ _⟩
  ·rw[jde h0]
   have h0':((c.1:Int)==0)=false:=jdt.2 (by omega);clear h0;by_cases hk:c.1≠k
   ·rw[jdf hk]
    have hk':((c.1:Int) != (k:Int))=true:=by simp;omega
    clear hk;go_enter Tryz.func218,Tryz.ntmps218
    go_wp2_with fail;go_ret
    exact⟨rfl,jdg _ _⟩
   ·rw[jde hk]
    have hk':((c.1:Int) != (k:Int))=false:=by simp;omega
    clear hk;by_cases h4:op=4
    ·subst h4
     by_cases h3:k=3
     ·subst h3
      rw[jde (by simp)];go_enter Tryz.func218,Tryz.ntmps218
      go_wp2_with fail;go_ret
      exact⟨rfl,jdg _ _⟩
     ·rw[jdf ⟨rfl,h3⟩]
      have h3':((k:Int) != 3)=true:=by simp;omega
      clear h3;go_enter Tryz.func218,Tryz.ntmps218
      go_wp2_with fail;go_ret
      exact⟨rfl,jdg _ _⟩
    ·rw[jde (fun h=>h4 h.1)]
     have h4':((op:Int)==4)=false:=jdt.2 (by omega);clear h4;go_enter Tryz.func218,Tryz.ntmps218
     go_wp2_with fail;go_ret
     exact⟨rfl,jdg _ _⟩
theorem tk{w:World}{b off op f si:Nat}{c:Cl}{a:Option Addr}{n cap:Nat}{fv:Value}{l:List Fd}(hn:gJ w b off op f c (.slice a n cap))(hs:Sf w fv l)(jy:Okc c):Calls Tryz.prog 190 #[.pointer (some ⟨b,off,none⟩),.agg #[.int .u32 (si:Int),fv]] w fun e w'=>e=.returned (.int .i64 (ffM l op f c n))/\Below w.heap.size w w':=by
 obtain⟨fa,fcap,rfl,hfc,VK⟩:=hs.form;have aH:=ak w (.cells #[.int .u32 (si:Int),.slice fa l.length fcap] 25);have aR:=ae aH;obtain⟨e0,e1⟩:=bF w (.int .u32 (si:Int)) (.slice fa l.length fcap) 25;have hz:w.heap.size<(w.alloc (.cells #[.int .u32 (si:Int),.slice fa l.length fcap] 25)).heap.size:=by rw[jdi];omega
 have HS:=ae (hs.kept aH);have HN:=ae (hn.kept aH);have HO:=ae jy;generalize hA:w.alloc (.cells #[.int .u32 (si:Int),.slice fa l.length fcap] 25)=A at *;clear aH hs hn jy;obtain⟨dY,x0,x1,x2,x3,x4,x5⟩:=HN.o
 have HD:jfb (ffM l op f c n=if 0<n then 90 else match iI l f with
  | none=>81
  | some j=>if JQ c=0 then fvM op c (BK l j) else if JQ c=1 then 90 else JQ c):=ae rfl
 generalize ffM l op f c n=R at *;by_cases qs:0<n
 ·rw[jdf qs]at HD
  have hn0':(0:Int)<(n:Int):=by omega
  clear qs;go_enter Tryz.func190,Tryz.ntmps190
  go_wp2_with fail;go_ret
  rw[HD.o];exact⟨rfl,aR.o⟩
 ·rw[jde qs]at HD
  obtain rfl:n=0:=by omega
  clear qs;have rZ:=ae (fun(U:World) (hU:Below A.heap.size A U)=>sN (HS.o.kept hU) si f);have ZG:∀ s:bM (fun x=>Below A.heap.size A x),s.w.cell? ⟨w.heap.size,0,none⟩=some (.int .u32 (si:Int)):=fun s=>(s.ok.cell (p:=⟨w.heap.size,0,none⟩) hz).trans e0
  have As:∀ s:bM (fun x=>Below A.heap.size A x),s.w.cell? ⟨w.heap.size,1,none⟩=some (.slice fa l.length fcap):=fun s=>(s.ok.cell (p:=⟨w.heap.size,1,none⟩) hz).trans e1
  have Cb:∀ s:bM (fun x=>Below A.heap.size A x),s.w.cell? ⟨b,off+1,none⟩=some (.int .u32 (f:Int)):=fun s=>(s.ok.cell (p:=⟨b,off+1,none⟩) dY).trans x1
  haveI:Nonempty (bM (fun x=>Below A.heap.size A x)):=⟨bM.mk A (jdg _ _)⟩
  go_enter Tryz.func190,Tryz.ntmps190
  go_wp2_with fail;refine cx (S:=fun x=>Below A.heap.size A x) (by kernel_rfl) (by kernel_rfl) (by first | exact(jdg _ _).drew | (rw[hA];exact(jdg _ _).drew)) ?_;repeat (go_big_quiet_step ((go_at_call 193;exact(rZ.o _ (bM.ok _)).mono (fun e w' h=>⟨h.1,bM.mk w' (ai (bM.ok _) h.2),rfl⟩))))
  refine wpQuiet_nil ?_;rintro _ ⟨s2,rfl⟩;obtain⟨w2,py⟩:∃ x,x=s2.w:=⟨_,rfl⟩;have aE:=s2.ok;rw[← py]at aE ⊢;have aO:=ae aE;have gE:=ae (HS.o.kept aE);have FO:=ae (HN.o.kept aE);have g0:=(aE.cell (p:=⟨w.heap.size,0,none⟩) hz).trans e0;have g1:=(aE.cell (p:=⟨w.heap.size,1,none⟩) hz).trans e1;have bn:=jdD hz aE.size;clear py aE ZG As Cb x0 x1 x2 x3 x4 x5 HN HS e0 e1 hz hA dY;obtain⟨dY,x0,x1,x2,x3,x4,x5⟩:=FO.o;cases hp:iI l f with
  | none =>
   rw[hp]at HD;simp only[Option.isSome_none,Option.getD_none];clear hp;go_wp2_with fail;go_ret
   rw[HD.o];exact⟨rfl,ai aR.o aO.o⟩
  | some j =>
   rw[hp]at HD;have hj:=Qy hp;simp only[Option.isSome_some,Option.getD_some];clear hp;go_wp2_with fail;refine(Sz HO.o _).mono ?_;rintro e w3 ⟨rfl,aQ⟩;have bN:=ae (ai aO.o aQ);have hN3:=FO.o.kept aQ;have k0:=(aQ.cell (p:=⟨w.heap.size,0,none⟩) bn).trans g0;have k1:=(aQ.cell (p:=⟨w.heap.size,1,none⟩) bn).trans g1;obtain⟨gb,goff,rfl,PA,y0,y1,y2,y3⟩:=(gE.o.kept aQ).at hj;clear aQ x0 x1 x2 x3 x4 x5 g0 g1 bn dY;have HN3:=ae hN3;clear hN3;have HKA:jfb (BK l j=l[j].2.2.1):=ae (by unfold BK;rw[List.getElem?_eq_getElem hj]);have hj':(j:Int)<(l.length:Int):=(by omega);have HE:jfb (JQ c=flt (c.1:Int) c.2.1 (am c.2.2)):=ae rfl;rw[HKA.o]at HD;generalize l[j].2.2.1=kd at *;obtain⟨fl,jT⟩:∃ fl,fl=flt (c.1:Int) c.2.1 (am c.2.2):=⟨_,rfl⟩;rw[← jT]at HE ⊢;rw[HE.o]at HD;clear jT HE HKA;by_cases h0:fl=0
   ·subst h0
    simp only[if_true]at HD;go_wp2_with fail;refine(tj HN3.o kd).mono ?_;rintro e w4 ⟨rfl,bw⟩;have ce:=ae (ai bN.o bw);clear bw;go_wp2_with fail;go_ret
    rw[HD.o];exact⟨rfl,ai aR.o ce.o⟩
   ·have h0':(fl==0)=false:=jdt.2 h0
    simp only[jde h0]at HD;by_cases h1:fl=1
    ·subst h1
     simp only[if_true]at HD;clear h0;go_wp2_with fail;go_ret
     rw[HD.o];exact⟨rfl,ai aR.o bN.o⟩
    ·have h1':(fl==1)=false:=jdt.2 h1
     simp only[jde h1]at HD;clear h0 h1;go_wp2_with fail;go_ret
     rw[HD.o];exact⟨rfl,ai aR.o bN.o⟩
def Ff(w:World)(t:PT)(m d:Nat)(e:Ending)(w':World):Prop:=(∃ n:Int,e=.returned (.int .i64 n)/\-1<=n/\n<100/\(∀ op f c,t=.node op f c []->0<m->0<d->n=(m:Int)-1))/\w'=w
def NW(w:World)(l:List Fd)(t:PT)(e:Ending)(w':World):Prop:=(∃ n:Int,e=.returned (.int .i64 n)/\(∀ op f c,t=.node op f c []->n=mL l t))/\Below w.heap.size w w'
def sId:ByteArray:=⟨#[105,100]⟩
def YL:ByteArray:=⟨#[110,97,109,101]⟩
def fB:List Fd:=[(1,sId,1,true),(2,YL,3,false)]
def rA1:Row:=[(1,1,[]),(3,0,[97])]
def rA2:Row:=[(1,2,[]),(0,0,[])]
def rA:List Row:=[rA1,rA2]
def pA:PT:=.node 1 1 (1,2,[]) []
theorem Xs:chk 1 fB=0:=by decide +kernel
theorem fitA1:jL fB rA1=0:=by decide +kernel
theorem fitA2:jL fB rA2=0:=by decide +kernel
theorem Lu{n:Int}(h:I64 n):aV (1,n,[]):=Or.inr (Or.inl ⟨n,rfl,h⟩)
theorem Xt:aV (3,0,[97]):=Or.inr (Or.inr (Or.inr ⟨[97],rfl,by decide,fun x hx=>by simp at hx;omega⟩))
theorem Xu:aV (0,0,[]):=Or.inl rfl
theorem jaP:∀ c∈rA1,aV c:=fun c hc=>by
 rcases jdz.1 hc with rfl | hc
 ·exact Lu ⟨by omega,by omega⟩
 ·obtain rfl:c=(3,0,[97]):=by simpa using hc
  exact Xt
theorem BN:∀ c∈rA2,aV c:=fun c hc=>by
 rcases jdz.1 hc with rfl | hc
 ·exact Lu ⟨by omega,by omega⟩
 ·obtain rfl:c=(0,0,[]):=by simpa using hc
  exact Xu
theorem pt:jQ fB rA:=fun r hr=>by
 rcases jdz.1 hr with rfl | hr
 ·exact⟨fitA1,jaP⟩
 ·obtain rfl:r=rA2:=by simpa using hr
  exact⟨fitA2,BN⟩
theorem okA:∀ f∈fB,Okf f:=fun f hf=>by
 rcases jdz.1 hf with rfl | hf
 ·exact⟨by decide,by decide⟩
 ·obtain rfl:f=(2,YL,3,false):=by simpa using hf
  exact⟨by decide,by decide⟩
def bA:List Nat:=bL (ex 1 fB rA 1)
theorem TO:bU 1 fB rA (1:Int)=(bA,0):=BI (g:=1) okA (by omega) Xs (by decide) (by omega) (by omega) pt
theorem YM:js bA=.ok (1,fB,1,[grp fB [rA1],grp fB [rA2]]):=BJ (g:=1) okA (by omega) (fun r hr=>(pt r hr).2) TO
theorem bsA:Bs bA:=(mf okA (by omega) Xs (by decide) (by omega) (by omega) pt).2.seal
theorem jaQ:5<bA.length/\bA.length<=70000:=by
 constructor
 ·unfold bA
  rw[kf];unfold ex lX;simp only[jdj,jdn,jdI,le4];omega
 ·have:=xx okA (by omega) Xs (show rA.length<=60 by decide) (by omega) (show 1<=64 by omega) pt
  unfold bA;omega
theorem turnA:js (bA.set 5 (bA[5]'jaQ.1 ^^^ 1))=.error 101:=by
 have h:=Bk (b:=ex 1 fB rA 1) (j:=5) (y:=1) (mf okA (by omega) Xs (by decide) (by omega) (by omega) pt).2 jaQ.1 (by omega) (by omega);unfold js;have e:et (bA.set 5 (bA[5]'jaQ.1 ^^^ 1))=none:=h;rw[e]
theorem jaR:mL fB pA=0:=by decide +kernel
theorem mayA1:jau (oU fB (grp fB [rA1]).2 pA) 2=false:=by decide +kernel
theorem mayA2:jau (oU fB (grp fB [rA2]).2 pA) 2=true:=by decide +kernel
theorem jaS:jr fB rA2 pA=2:=by decide +kernel
theorem Xv{W:World}{q:Nat}{x y a b:Value}{t:TypeId}(h:W.heap[q]?=some (.cells #[x,y] t (0,0))):((W.setCell ⟨q,0,none⟩ a).setCell ⟨q,1,none⟩ b).heap[q]?=some (.cells #[a,b] t (0,0)):=by
 have h1:(W.setCell ⟨q,0,none⟩ a).heap[q]?=some (.cells #[a,y] t (0,0)):=by rw[cO h];rfl
 rw[cO h1];rfl
theorem BO{w:World}{B fp id:Nat}{fv:Value}{gs:List Gr}{fs:List Fd}(h:Fil w B fp id fv gs)(hf:Sf w fv fs)(hl:fs.length<=1000) :
  Calls Tryz.prog 19 #[.pointer (some ⟨fp,0,none⟩)] w fun e w'=>(∃ v,e=.returned (.agg #[.int .u32 (id:Int),v])/\dT w' w.heap.size v fs)/\Below w.heap.size w w':=by
 obtain⟨gv,xs,h1,_,_,_⟩:=h;have FN:=(Array.getElem?_eq_some_iff.1 h1).1;obtain⟨fa,fc,rfl,_,_⟩:=hf.form;have aH:=ak w (.cells #[.int .u32 0,.slice none 0 0] 25);have hq:=jdH w (.cells #[.int .u32 0,.slice none 0 0] 25);have hz:(w.alloc (.cells #[.int .u32 0,.slice none 0 0] 25)).heap.size=w.heap.size+1:=jdi _ _;generalize hA:w.alloc (.cells #[.int .u32 0,.slice none 0 0] 25)=A at *
 have HT:jfb (∀ U,Below A.heap.size A U->U.cell? ⟨fp,0,none⟩=some (.int .u32 (id:Int))/\U.cell? ⟨fp,1,none⟩=some (.slice fa fs.length fc)):=ae (fun U hU=>by
  have hfU:=(hU.block fp (by omega)).trans ((aH.block fp FN).trans h1);exact⟨by rw[ay hfU];rfl,by rw[ay hfU];rfl⟩)
 have HQ:jfb (∀ U,Below A.heap.size A U->U.heap[w.heap.size]?=some (.cells #[.int .u32 0,.slice none 0 0] 25 (0,0))):=ae (fun U hU=>(hU.block w.heap.size (by omega)).trans hq)
 have pw:jfb (∀ U,Below A.heap.size A U->Calls Tryz.prog 55 #[.slice fa fs.length fc] U fun e w'=>∃ a c,e=.returned (.slice a fs.length c)/\dT w' A.heap.size (.slice a fs.length c) fs/\Below A.heap.size A w'/\w'.frozen? ⟨w.heap.size,0,none⟩=false/\w'.frozen? ⟨w.heap.size,1,none⟩=false/\w'.cell? ⟨w.heap.size,0,none⟩=some (.int .u32 0)/\w'.cell? ⟨w.heap.size,1,none⟩=some (.slice none 0 0)):=ae (fun U hU=>by
  refine(Jc (hf.kept (aH.trans (hU.mono aH.size))|>.kept (jdg _ _)) hl).mono ?_;rintro e w' ⟨⟨v,rfl,ho⟩,hb⟩;have hbU:=ai hU hb;have hqU:=HQ.o _ hbU;obtain⟨a,c,rfl,_,_⟩:=bG ho;exact⟨a,c,rfl,ho.low hU.size,hbU,by simp[World.frozen?,hqU],by simp[World.frozen?,hqU],by rw[ay hqU];rfl,by rw[ay hqU];rfl⟩)
 have aR:=ae aH;have HZ:=ae hz;clear h1 hf aH hq hz;obtain⟨c0,c1⟩:=HT.o A (jdg _ _);go_enter Tryz.func19,Tryz.ntmps19
 go_wp2_with fail;try rw[hA]
 clear hA;refine wp_region_noPanic ?_
 go_region_law (first
  | (go_simp;go_at_call 55;refine(pw.o _ ?_).mono ?_;exact ar (jdg A.heap.size A) _;rintro e w5 ⟨a5,c5,rfl,fV,br,fr0,fr1,q0,q1⟩;obtain⟨d0,d1⟩:=HT.o w5 br;have aS:=ae br;have dJ:=ae fV;clear br fV;dsimp only)
  | fail)
 all_goals refine NoPanic.normal ?_
 all_goals go_wp2_with fail
 all_goals
  have jz:=Xv (a:=.int .u32 (id:Int)) (b:=.slice a5 fs.length c5) (HQ.o w5 aS.o)
  have Ag:dT ((w5.setCell ⟨w.heap.size,0,none⟩ (.int .u32 (id:Int))).setCell ⟨w.heap.size,1,none⟩ (.slice a5 fs.length c5)) A.heap.size (.slice a5 fs.length c5) fs:=bY dJ.o fun k hk=>by
   have kG:=(aM dJ.o hk).1;have bn:=HZ.o;rw[Below.heap_setCell _ _ _ _ (by show k≠w.heap.size;omega),Below.heap_setCell _ _ _ _ (by show k≠w.heap.size;omega)]
  have dP:=((aR.o.trans (aS.o.mono aR.o.size)).setCell (p:=⟨w.heap.size,0,none⟩) (jdh _) (.int .u32 (id:Int))).setCell (p:=⟨w.heap.size,1,none⟩) (jdh _) (.slice a5 fs.length c5);have t0:((w5.setCell ⟨w.heap.size,0,none⟩ (.int .u32 (id:Int))).setCell ⟨w.heap.size,1,none⟩ (.slice a5 fs.length c5)).cell? ⟨w.heap.size,0,none⟩=some (.int .u32 (id:Int)):=by rw[ay jz];rfl
  have t1:((w5.setCell ⟨w.heap.size,0,none⟩ (.int .u32 (id:Int))).setCell ⟨w.heap.size,1,none⟩ (.slice a5 fs.length c5)).cell? ⟨w.heap.size,1,none⟩=some (.slice a5 fs.length c5):=by rw[ay jz];rfl
  generalize (w5.setCell ⟨w.heap.size,0,none⟩ (.int .u32 (id:Int))).setCell ⟨w.heap.size,1,none⟩ (.slice a5 fs.length c5)=FW at *;have hzw:w.heap.size<=A.heap.size:=by have:=HZ.o;omega
  refine bodyPost_ret (v:=.agg #[.int .u32 (id:Int),.slice a5 fs.length c5]) (by simp[results,Tryz.results19,go_sem,t0,t1]) rfl ⟨⟨_,rfl,Ag.low hzw⟩,dP⟩
theorem NX(w:World):Calls Tryz.prog 35 #[] w fun e w'=>(∃ v',e=.returned (.agg #[.int .u32 1,v'])/\dT w' w.heap.size v' fB)/\Below w.heap.size w w':=by
 have HL:jfb (∀ W:World,dT (W.alloc (.cells #[.int .u32 1,.string ⟨#[105,100]⟩,.int .u8 1,.bool true,.int .u32 2,.string ⟨#[110,97,109,101]⟩,.int .u8 3,.bool false] 81)) W.heap.size (.slice (some ⟨W.heap.size,0,none⟩) 2 2) fB):=ae (fun W=>pX W fB (by unfold maxLen;decide));have aH:=ak w (.cells #[.int .u32 0,.slice none 0 0] 25);have jx:(w.alloc (.cells #[.int .u32 0,.slice none 0 0] 25)).heap.size=w.heap.size+1:=jdi _ _;have rS:=ae jx;clear jx;go_enter Tryz.func35,Tryz.ntmps35
 go_wp2;refine bodyPost_ret (v:=.agg #[.int .u32 1,.slice (some ⟨w.heap.size+1,0,none⟩) 2 2]) (by simp[results,Tryz.results35,go_sem]) rfl ?_;refine⟨⟨_,rfl,?_⟩,?_⟩
 ·have h:=HL.o (w.alloc (.cells #[.int .u32 1,.slice (some ⟨w.heap.size+1,0,none⟩) 2 2] 25))
  rw[jdi]at h;exact h.low (by omega)
 ·exact((jdg _ _).alloc (jdh _) _).alloc (by rw[jdi];omega) _
def TP(fs:List Fd)(t:PT)(r:Row):Bool:=jr fs r t==2
def mM(fs:List Fd)(t:PT)(rows:List Row):List Row:=rows.filter (TP fs t)
theorem NY{fs:List Fd}{t:PT}{rows:List Row}{k:Nat}(h:k<rows.length):mM fs t (rows.take (k+1))=mM fs t (rows.take k)++(if TP fs t rows[k]=true then [rows[k]] else []):=by
 unfold mM;rw[jdx h,jeU];simp[je5]
theorem xz(fs:List Fd)(t:PT)(rows:List Row):(mM fs t rows).length<=rows.length:=jeR _ _
theorem BQ{w:World}{B fp id op f:Nat}{fv gv kv a b:Value}{fs:List Fd}{rows:List Row}{sts:List Stt}{c:Cl}{ks:List PT}(jU:w.heap[fp]?=some (.cells #[.int .u32 (id:Int),fv,gv] 105 (0,0)))(xX:Sf w fv fs)(hg:Gro w B (.agg #[a,b]) rows sts)
  (hk:sQ w kv ks) (FP:∀ U rv r,Below w.heap.size w U->Sv U rv (aJ r)->(∀ x∈r,aV x)->Calls Tryz.prog 113 #[.agg #[.int .u8 (op:Int),.int .u32 (f:Int),.int .u8 (c.1:Int),.int .i64 c.2.1,.string (am c.2.2),kv],.agg #[.int .u32 (id:Int),fv],rv] U fun e w'=>e=.returned (.int .u8 (jr fs r (.node op f c ks):Int))/\Below U.heap.size U w') (hr:∀ r∈rows,r.length<=1000/\∀ x∈r,aV x) (hl:rows.length<=1000) :
  Calls Tryz.prog 67 #[.pointer (some ⟨fp,0,none⟩),.agg #[a,b],.agg #[.int .u8 (op:Int),.int .u32 (f:Int),.int .u8 (c.1:Int),.int .i64 c.2.1,.string (am c.2.2),kv]] w
   fun e w'=>(∃ v l,e=.returned v/\Ow w' w.heap.size v l/\l.map Prod.snd=mM fs (.node op f c ks) rows)/\Below w.heap.size w w':=by
 obtain⟨R,rfl,hR1,hR2,hR3,jV⟩:=hg.rows;obtain⟨fa,fc,rfl,_,_⟩:=xX.form;obtain⟨ka,kc,rfl,_,_⟩:=hk.form;have FN:=(Array.getElem?_eq_some_iff.1 jU).1;have aH:=ak w (.cells #[.slice (some ⟨R,0,none⟩) rows.length rows.length,b] 109);obtain⟨g0,g1⟩:=bF w (.slice (some ⟨R,0,none⟩) rows.length rows.length) b 109;have aE:=ak (w.alloc (.cells #[.slice (some ⟨R,0,none⟩) rows.length rows.length,b] 109)) (.cells #[.int .u8 (op:Int),.int .u32 (f:Int),.int .u8 (c.1:Int),.int .i64 c.2.1,.string (am c.2.2),.slice ka ks.length kc] 63);obtain⟨p0,p1,p2,p3,p4,p5⟩:=sR (w.alloc (.cells #[.slice (some ⟨R,0,none⟩) rows.length rows.length,b] 109)) (.int .u8 (op:Int)) (.int .u32 (f:Int)) (.int .u8 (c.1:Int)) (.int .i64 c.2.1) (.string (am c.2.2)) (.slice ka ks.length kc) 63;have cY:(w.alloc (.cells #[.slice (some ⟨R,0,none⟩) rows.length rows.length,b] 109)).heap.size=w.heap.size+1:=jdi _ _;have bn:((w.alloc (.cells #[.slice (some ⟨R,0,none⟩) rows.length rows.length,b] 109)).alloc (.cells #[.int .u8 (op:Int),.int .u32 (f:Int),.int .u8 (c.1:Int),.int .i64 c.2.1,.string (am c.2.2),.slice ka ks.length kc] 63)).heap.size=w.heap.size+2:=by rw[jdi,jdi]
 have g0':=(aE.cell (p:=⟨w.heap.size,0,none⟩) (by show w.heap.size<_;omega)).trans g0;rw[cY]at p0 p1 p2 p3 p4 p5;have lm:=ai aH aE;generalize hA:(w.alloc (.cells #[.slice (some ⟨R,0,none⟩) rows.length rows.length,b] 109)).alloc (.cells #[.int .u8 (op:Int),.int .u32 (f:Int),.int .u8 (c.1:Int),.int .i64 c.2.1,.string (am c.2.2),.slice ka ks.length kc] 63)=A at *
 have HT:jfb (∀ U,Below A.heap.size A U->U.cell? ⟨fp,0,none⟩=some (.int .u32 (id:Int))/\U.cell? ⟨fp,1,none⟩=some (.slice fa fs.length fc)/\U.cell? ⟨w.heap.size,0,none⟩=some (.slice (some ⟨R,0,none⟩) rows.length rows.length) /\
   U.cell? ⟨w.heap.size+1,0,none⟩=some (.int .u8 (op:Int))/\U.cell? ⟨w.heap.size+1,1,none⟩=some (.int .u32 (f:Int))/\U.cell? ⟨w.heap.size+1,2,none⟩=some (.int .u8 (c.1:Int))/\U.cell? ⟨w.heap.size+1,3,none⟩=some (.int .i64 c.2.1)/\U.cell? ⟨w.heap.size+1,4,none⟩=some (.string (am c.2.2))/\U.cell? ⟨w.heap.size+1,5,none⟩=some (.slice ka ks.length kc)):=ae (fun U hU=>by
  have hfU:=(hU.block fp (by omega)).trans ((lm.block fp FN).trans jU);refine⟨by rw[ay hfU];rfl,by rw[ay hfU];rfl,(hU.cell (p:=⟨w.heap.size,0,none⟩) (by show w.heap.size<_;omega)).trans g0',?_,?_,?_,?_,?_,?_⟩
  ·exact(hU.cell (p:=⟨w.heap.size+1,0,none⟩) (by show w.heap.size+1<_;omega)).trans p0
  ·exact(hU.cell (p:=⟨w.heap.size+1,1,none⟩) (by show w.heap.size+1<_;omega)).trans p1
  ·exact(hU.cell (p:=⟨w.heap.size+1,2,none⟩) (by show w.heap.size+1<_;omega)).trans p2
  ·exact(hU.cell (p:=⟨w.heap.size+1,3,none⟩) (by show w.heap.size+1<_;omega)).trans p3
  ·exact(hU.cell (p:=⟨w.heap.size+1,4,none⟩) (by show w.heap.size+1<_;omega)).trans p4
  ·exact(hU.cell (p:=⟨w.heap.size+1,5,none⟩) (by show w.heap.size+1<_;omega)).trans p5)
 have HROW:jfb (∀ U,Below A.heap.size A U->∀ i (h:i<rows.length),∃ ra rc,U.cell? ⟨R,i,none⟩=some (.slice ra rows[i].length rc)/\Sv U (.slice ra rows[i].length rc) (aJ rows[i])/\rows[i].length<=1000/\∀ x∈rows[i],aV x):=ae (fun U hU i hi=>by
  obtain⟨rv,e1,e2⟩:=jV i hi;have fs':=e2.sv;obtain⟨ra,rc,rfl,_,_⟩:=fs'.form1;rw[aG]at *;have hbU:=lm.trans (hU.mono lm.size);exact⟨ra,rc,(hbU.cell (p:=⟨R,i,none⟩) hR2).trans e1,fs'.kept hbU,hr _ (jdl hi)⟩)
 have HEV:jfb (∀ U ra n rc r,Below A.heap.size A U->Sv U (.slice ra n rc) (aJ r)->(∀ x∈r,aV x)->Calls Tryz.prog 113 #[.agg #[.int .u8 (op:Int),.int .u32 (f:Int),.int .u8 (c.1:Int),.int .i64 c.2.1,.string (am c.2.2),.slice ka ks.length kc],.agg #[.int .u32 (id:Int),.slice fa fs.length fc],.slice ra n rc] U
   fun e w'=>e=.returned (.int .u8 (jr fs r (.node op f c ks):Int))/\Below U.heap.size U w'):=ae (fun U ra n rc r hU hs ZF=>by
  have hbU:=lm.trans (hU.mono lm.size);exact FP U _ r hbU hs ZF)
 have nr:=ae lm;have HH0:=ae (fun k (h:k<rows.length)=>NY (fs:=fs) (t:=.node op f c ks) h);have HHM:jfb (∀ r,TP fs (.node op f c ks) r=(jr fs r (.node op f c ks)==2)):=ae (fun r=>rfl);have HHL:=ae (fun k=>xz fs (.node op f c ks) (rows.take k));have Qr:jfb (mM fs (.node op f c ks) (rows.take rows.length)=mM fs (.node op f c ks) rows):=ae (by rw[jdp]);generalize (PT.node op f c ks)=T at *;clear jU xX hg hk FP hr jV aH aE g0 g1 p0 p1 p2 p3 p4 p5 g0' lm;obtain⟨c0,c1,c2,d0,d1,d2,d3,d4,d5⟩:=HT.o A (jdg _ _);have LM:=ae bn;clear bn cY;generalize c.1=k0 at *;generalize c.2.1=k1 at *;generalize am c.2.2=k2 at *;go_enter Tryz.func67,Tryz.ntmps67
 go_wp2_with fail;try rw[hA]
 go_loopw [7,13] (fun o i wr=>∃(j:Nat) (l:List (Value×Row)),j<=rows.length/\i=.int .i64 (j:Int)/\Ow wr A.heap.size o l/\l.map Prod.snd=mM fs T (rows.take j)/\Below A.heap.size A wr) (fun _ i _=>rows.length-(intOf i).toNat)
 case atStart=>exact⟨0,[],by omega,rfl,Ow.nil _ _,rfl,jdg _ _⟩
 case round =>
  obtain⟨j,l,hj,rfl,how,vE,az⟩:=hrel;have HO:=ae how;have HB:=ae az;have tz:=ae vE;have bP:=az.size
  have Am:l.length<=rows.length:=by
   have h1:=jdm List.length vE;have h2:=HHL.o j;rw[jdk]at h1;rw[jdo]at h2;omega
  clear how az vE;obtain⟨c0,c1,c2,d0,d1,d2,d3,d4,d5⟩:=HT.o wr HB.o;obtain⟨la,lc,rfl,Za,BZ,_⟩:=HO.o.form;by_cases aC:j<rows.length
  ·have hlt':(j:Int)<(rows.length:Int):=by omega
   obtain⟨ra,rc,dR,ie,pC,ZF⟩:=HROW.o wr HB.o j aC;have Ah:=ae ie;have nh:=ae (HH0.o j aC);have jb1:=ae (HHM.o rows[j])
   have jb2:jfb (∀ U,Below wr.heap.size wr U->Calls Tryz.prog 113 #[.agg #[.int .u8 (op:Int),.int .u32 (f:Int),.int .u8 (k0:Int),.int .i64 k1,.string k2,.slice ka ks.length kc],.agg #[.int .u32 (id:Int),.slice fa fs.length fc],.slice ra rows[j].length rc] U
     fun e w'=>e=.returned (.int .u8 (jr fs rows[j] T:Int))/\Below wr.heap.size wr w'):=ae (fun U hU=>by
    refine(HEV.o U ra _ rc rows[j] (HB.o.trans (hU.mono bP)) (ie.kept hU) ZF).mono ?_;rintro e w' ⟨rfl,hb⟩;exact⟨rfl,ai hU hb⟩)
   obtain⟨E,hE⟩:∃ E,jr fs rows[j] T=E:=⟨_,rfl⟩;rw[hE]at jb2 jb1;have Yj:jfb (TP fs T rows[j]=(E==2)):=ae jb1.o;clear hE jb1 ie ZF;generalize rows[j]=r at *;go_upto_region 5 with fail
   go_cut [24] from 32 (fun v wx=>v=.bool ((E:Int)==2)/\Below wr.heap.size wr wx)
   case first =>
    refine wp_region_noPanic ?_
    go_region_law (first
     | (go_simp;go_at_call 113;refine(jb2.o _ ?_).mono ?_;exact ar (jdg wr.heap.size wr) _;rintro e w1 ⟨rfl,aH⟩;have aR:=ae aH;clear aH;dsimp only)
     | fail)
    all_goals refine NoPanic.normal ?_
    all_goals go_wp2_with fail
    all_goals go_meet
    all_goals exact⟨rfl,aR.o⟩
   case rest =>
   obtain⟨rfl,FQ⟩:=hcut;obtain⟨w1,hw1⟩:∃ w1,w1=wc:=⟨_,rfl⟩;subst hw1;have aR:=ae FQ;clear FQ;have HBW1:=ae (HB.o.trans (aR.o.mono bP));have cY:=aR.o.size;clear jb2 c0 c1 c2 d0 d1 d2 d3 d4 d5 dR;by_cases hE2:E=2
   ·have hEq:((E:Int)==2)=true:=by rw[hE2];rfl
    have jb3:jfb (mM fs T (rows.take (j+1))=mM fs T (rows.take j)++[r]):=ae (by rw[nh.o,Yj.o,hE2];rfl);have pw:=ae (pY (Ah.o.kept aR.o) pC);have fC:=ae (HO.o.kept aR.o);clear nh Yj hE2 HO;go_wp2_with fail;refine pw.o.mono ?_;rintro e w2 ⟨⟨v2,rfl,fx⟩,aE⟩;have du:=ae (fC.o.kept aE);have XV:=ae fx;have aO:=ae (HBW1.o.trans (aE.mono (by omega)));have bn:=aE.size;obtain⟨ra',rc',rfl,_,_⟩:=bG fx;have mY:=ae (aL w2 (.slice ra' r.length rc') 79);clear aE fx pw fC;go_wp2_with (first | (at_builtin;refine jI rfl _ _ rfl A.heap.size _ _ l [(.slice ra' r.length rc',r)] rfl (du.o.kept (ak _ _)) rfl (BC mY.o (by rw[jdi];omega)) ?c1 ?c2 ?c3 ?_))
    case c1 =>
     intro x hx;rw[jd5.1 hx];exact(XV.o.kept (ak _ _)).of_le (by omega)
    case c2=>simp only[jdS];omega
    case c3=>rw[jdi];omega
    intro v' w5 o5 b5;have dJ:=ae o5;have aS:=ae ((aO.o.alloc (by omega) _).trans b5);clear o5 b5;go_wp2_with fail;go_roundw
    case rel=>exact⟨j+1,_,by omega,by go_num,dJ.o,by rw[jb3.o,jdC,tz.o];rfl,aS.o⟩
    case measure=>simp[intOf];omega
   ·have hEq:((E:Int)==2)=false:=by simp;omega
    have jb3:jfb (mM fs T (rows.take (j+1))=mM fs T (rows.take j)):=ae (by
     have:(E==2)=false:=by simpa using hE2
     rw[nh.o,Yj.o,this];simp)
    have fC:=ae (HO.o.kept aR.o);clear nh Yj hE2 HO;go_wp2_with fail;go_roundw
    case rel=>exact⟨j+1,l,by omega,by go_num,fC.o,by rw[jb3.o,tz.o],HBW1.o⟩
    case measure=>simp[intOf];omega
  ·obtain rfl:j=rows.length:=by omega
   have gL:¬ ((rows.length:Nat):Int)<(rows.length:Int):=(by omega);have FM:jfb (l.map Prod.snd=mM fs T rows):=ae (tz.o.trans Qr.o);go_wp2_with fail;go_ret
   have FE:w.heap.size<=A.heap.size:=by have:=LM.o;omega
   first | exact⟨⟨_,_,rfl,HO.o.low FE,FM.o⟩,ai nr.o HB.o⟩ | exact⟨⟨_,rfl,_,HO.o.low FE,FM.o⟩,ai nr.o HB.o⟩
end Go.Proofs.YtpljdjmpamjkhaaGreatDoor
