import Derived.Test.YtpljdjmpamjkhaaGreatDoorQat
set_option linter.unusedVariables false
set_option linter.unusedSimpArgs false
set_option maxRecDepth 100000
set_option maxHeartbeats 4000000
namespace Go.Proofs.YtpljdjmpamjkhaaGreatDoor
open Go.RowKit Go.Lib
def ZT(w:World)(b:List Nat)(e:Ending)(w':World):Prop :=
 ((∃ c,jB b=.error c/\e=.returned (.tuple #[.pointer none,.int .i64 (c:Int)])) ∨
  ∃ id fs g gs fp fv,jB b=.ok (id,fs,g,gs)/\e=.returned (.tuple #[.pointer (some ⟨fp,0,none⟩),.int .i64 0])/\Fil w' w.heap.size fp id fv gs/\ea w' w.heap.size fv fs)/\Below w.heap.size w w'
theorem mX{b t:List Nat}(h:eC b=some t)(h8:Bs b):Bs t/\t.length<=b.length:=by
 unfold eC at h;split at h
 ·cases h
  exact⟨h8.take _,by rw[jeq];omega⟩
 ·cases h
theorem pre3(t:List Nat):([67,70,49]:List Nat).isPrefixOf t=true↔t.take 3=[67,70,49]:=by
 constructor
 ·intro h
  obtain⟨r,rfl⟩:=jfy.1 h;rfl
 ·intro h
  exact jfy.2 ⟨t.drop 3,by rw[← h,jfF]⟩
theorem qy{w:World}(ht:Tab w){v:Value}{b:List Nat}(hs:Sv w v (aF .u8 b))(h8:Bs b)(hl:b.length<=80000000) :
  Calls Tryz.prog 17 #[v] w (ZT w b):=by
 have HT:=ae ht;have HS:=ae hs;have H8:=ae h8;have HO:=ae (Ua ht hs.toK h8 (by omega));obtain⟨a,cap,rfl,_,_⟩:=hs.form1;rw[ap]at *
 have HE:jgf (jB b=match eC b with
  | none=>.error 101
  | some t=>if t.take 3=[67,70,49] then (match iW (t.drop 3)with
    | none=>.error 102
    | some x=>if bW x.1 x.2.1 (bT x.2.2.2) x.2.2.1=(b,0) then .ok x else .error 102) else .error 100):=ae rfl
 have yo:=ae (fun t (h:eC b=some t)=>mX h h8);unfold ZT;generalize jB b=OF at *;clear ht hs h8;cases Dp:eC b with
 | none =>
  rw[Dp]at HE HO;clear Dp yo;go_enter Tryz.func17,Tryz.ntmps17
  go_wp2_with fail;refine HO.o.mono ?_;rintro e w1 ⟨⟨v1,rfl,o1⟩,aH⟩;have aP:=ae aH;clear o1 aH;simp only[Option.isSome];go_wp2_with fail;go_ret2
  exact⟨.inl ⟨101,HE.o,rfl⟩,aP.o⟩
 | some t =>
  obtain⟨t8,tl⟩:=yo.o t Dp;rw[Dp]at HE HO;simp only at HE;clear Dp yo;have T8:=ae t8;go_enter Tryz.func17,Tryz.ntmps17
  go_wp2_with fail;refine HO.o.mono ?_;rintro e w1 ⟨⟨v1,rfl,o1⟩,aH⟩;simp only[Option.isSome,Option.getD]at *;have aP:=ae aH;have eO:=ae o1;obtain⟨a1,cap1,rfl,_,_⟩:=be o1;have gX:=o1.sv;have zm:=o1.lt;have HWI:jgf (∀ i,(Value.slice a1 t.length cap1).ownBlock=some i->i<w1.heap.size):=ae (fun i hi=>(zm i hi).2);have aE:=cF w1 (.cells #[.int .u8 67,.int .u8 70,.int .u8 49] 5 (3,4));have yf:fT (w1.alloc (.cells #[.int .u8 67,.int .u8 70,.int .u8 49] 5 (3,4))) w1.heap.size (.slice (some ⟨w1.heap.size,0,none⟩) 3 3) [67,70,49]:=Or.inr ⟨rfl,_,rfl,jek _,jeK _ _⟩;have VZ:=ae (Fx (gX.kept aE) yf.sv t8 (by intro x hx;simp at hx;omega));have aN:=ae (ai aP.o aE);have HTB2:=ae (HT.o.kept aN.o);have gj:=ae (HS.o.kept aN.o);have MB:jgf (∀ p,w1.heap.size<p->True):=ae (fun _ _=>trivial);have hsz2:w1.heap.size<=(w1.alloc (.cells #[.int .u8 67,.int .u8 70,.int .u8 49] 5 (3,4))).heap.size:=aE.size;have HSZ2:=ae hsz2
  have vL:(convert 30 30 (.slice (some ⟨w1.heap.size,0,none⟩) 3 3)).run Tryz.prog (w1.alloc (.cells #[.int .u8 67,.int .u8 70,.int .u8 49] 5))=.ok (.slice (some ⟨w1.heap.size,0,none⟩) 3 3) (w1.alloc (.cells #[.int .u8 67,.int .u8 70,.int .u8 49] 5 (3,4))) :=
   run_convert_bytes_const w1 30 5 #[.int .u8 67,.int .u8 70,.int .u8 49] 3 3 Tryz.underlying30 Tryz.underlying5
  clear aH o1 gX zm aE yf hsz2 t8 HO;go_wp2_with fail;refine VZ.o.mono ?_;rintro e w3 ⟨⟨v3,rfl,lB,hw3⟩,rfl⟩;generalize w1.alloc (.cells #[.int .u8 67,.int .u8 70,.int .u8 49] 5 (3,4))=W2 at *;have zv:jgf (ot W2.heap.size v3):=ae (hw3 W2.heap.size fun i hi=>jeH (HWI.o i hi) HSZ2.o);clear hw3 VZ;by_cases hp:([67,70,49]:List Nat).isPrefixOf t=true
  ·have hp3:=(pre3 t).1 hp
   rw[jei hp]at lB;rw[jei hp3]at HE;rw[hp];have h38:Bs (t.drop 3):=fun x hx=>T8.o x (jfS hx)
   have h3l:(t.drop 3).length<=80000000:=by rw[jeR];omega
   have HRD:=ae (Kx (b:=t.drop 3) lB h38 h3l zv.o);have HWH:=ae (fun id g fs gs (h:iW (t.drop 3)=some (id,fs,g,gs))=>uK h38 h)
   obtain⟨va3,vn3,vc3,rfl⟩:∃ a n c,v3=.slice a n c:=by
    obtain⟨a,c,e,_⟩:=lB.form1;exact⟨_,_,_,e⟩
   clear hp hp3 lB h38 h3l;go_wp2_with fail;refine HRD.o.mono ?_;rintro e w4 ⟨⟨hrn,fp,g,rfl⟩ | ⟨id,fs,g,gs,fp,fv,hrs,rfl,vS,how⟩,bG⟩
   ·rw[hrn]at HE
    simp only at HE;have cp:=ae (ai aN.o bG);clear bG hrn HRD HWH;go_wp2_with fail;go_ret2
    exact⟨.inl ⟨102,HE.o,rfl⟩,cp.o⟩
   ·obtain⟨dN,lM,ho,eZ,gY,yh,ec,_⟩:=HWH.o _ _ _ _ hrs
    rw[hrs]at HE;simp only at HE;have jH:=(mU dN).2.1;have HSO:=ae (UQ (g:=g) (HTB2.o.kept bG) (gj.o.kept bG) H8.o vS how.sf ho lM (fun r hr=>⟨by rw[(ec r hr).1];omega,(ec r hr).2⟩) (by omega));obtain⟨D,hD⟩:∃ D,decide (bW id fs (bT gs) (g:Int)=(b,0))=D:=⟨_,rfl⟩;rw[hD]at HSO;have HD:=ae hD;have cp:=ae (ai aN.o bG);have yr:=ae vS;have wo:=ae how;have KR:=aN.o.size;clear bG hrs HRD HWH dN lM ho eZ gY yh ec hD vS how jH;go_wp2_with fail;refine HSO.o.mono ?_;rintro e w5 ⟨rfl,bD⟩;have aQ:=ae (ai cp.o bD);have yz:=ae (yr.o.kept bD);have df:=ae (wo.o.kept bD);clear bD yr wo HSO;cases D with
    | true =>
     have hw:=of_decide_eq_true HD.o;rw[jei hw]at HE;clear hw HD;go_wp2_with fail;go_ret2
     exact⟨.inr ⟨id,fs,g,gs,fp,fv,HE.o,rfl,yz.o.low KR,df.o.low KR⟩,aQ.o⟩
    | false =>
     have hw:=of_decide_eq_false HD.o;rw[jeh hw]at HE;clear hw HD;go_wp2_with fail;go_ret2
     exact⟨.inl ⟨102,HE.o,rfl⟩,aQ.o⟩
  ·have QN:([67,70,49]:List Nat).isPrefixOf t=false:=Bool.eq_false_iff.2 hp
   rw[jeh (fun e=>hp ((pre3 t).2 e))]at HE;rw[QN];clear hp QN lB;go_wp2_with fail;go_ret2
   exact⟨.inl ⟨100,HE.o,rfl⟩,aN.o⟩
theorem xY{w:World}{B fp id:Nat}{fv:Value}{gs:List Gr}(h:Fil w B fp id fv gs)(Dd:(bT gs).length<=100000) :
  Calls Tryz.prog 20 #[.pointer (some ⟨fp,0,none⟩)] w fun e w'=>e=.returned (.int .i64 ((bT gs).length:Int))/\Below w.heap.size w w':=by
 obtain⟨gv,xs,h1,h2,h3,h4⟩:=h;obtain⟨ga,gc,rfl,hgc,hgm⟩:=be h3;have c2:w.cell? ⟨fp,2,none⟩=some (.slice ga gs.length gc):=by rw[ay h1];rfl
 have HG:jgf (∀ k (hk:k<gs.length),∃ G R va vn vc,ga=some ⟨G,0,none⟩/\∀ W,Below w.heap.size w W->W.cell? ⟨G,k*2,none⟩=some (.slice (some ⟨R,0,none⟩) gs[k].1.length gs[k].1.length)/\W.cell? ⟨G,k*2+1,none⟩=some (.slice va vn vc)):=ae (fun k hk=>by
  obtain⟨a,b,e1,e2,e3⟩:=h4 k hk;obtain⟨R,rfl,g1,g2,⟨va,vn,vc,rfl⟩,g4⟩:=e3.rows;obtain⟨G,rfl,_,hG,lK⟩:=iq h3 e1;obtain⟨_,e,_,_,ke⟩:=iq h3 e2;cases e
  exact⟨G,R,va,vn,vc,rfl,fun W hb=>⟨(hb.cell (p:=⟨G,k*2,none⟩) hG).trans (by rw[jeU];exact lK),(hb.cell (p:=⟨G,k*2+1,none⟩) hG).trans (by rw[jeU k];exact ke)⟩⟩)
 have HT:=ae (fun j=>fB gs j);have sC:=ae (fun j (h:j<gs.length)=>mw h);have HTA:jgf (bT (gs.take gs.length)=bT gs):=ae (by rw[jes]);have QU:=ae Dd;clear h1 h2 h3 h4 Dd;go_enter Tryz.func20,Tryz.ntmps20
 go_wp2_with fail;go_loopw [3,11] (fun a i wr=>∃ k:Nat,i=.int .i64 (k:Int)/\k<=gs.length/\a=.int .i64 ((bT (gs.take k)).length:Int)/\Below w.heap.size w wr) (fun _ i _=>gs.length-(intOf i).toNat)
 case atStart=>exact⟨0,rfl,by omega,rfl,jej _ _⟩
 case round =>
  obtain⟨k,rfl,hk,rfl,az⟩:=hrel;have HB:=ae az;clear az;by_cases aB:k<gs.length
  ·obtain⟨G,R,va,vn,vc,rfl,hcells⟩:=HG.o k aB
   obtain⟨ca,cb⟩:=hcells wr HB.o;have hlt':(k:Int)<(gs.length:Int):=(by omega);have nH:=ae (HB.o.alloc HB.o.size (.cells #[.slice (some ⟨R,0,none⟩) gs[k].1.length gs[k].1.length,.slice va vn vc] 109));obtain⟨cg,_⟩:=bx wr (.slice (some ⟨R,0,none⟩) gs[k].1.length gs[k].1.length) (.slice va vn vc) 109;have We:=jep List.length (sC.o k aB);have oF:=HT.o (k+1);have htt:=QU.o;rw[jem]at We;have KW:IntKind.i64.wrap (((bT (gs.take k)).length:Int)+(gs[k].1.length:Int))=((bT (gs.take (k+1))).length:Int):=by rw[jeV];omega
   have Lq:=ae (show ((bT (gs.take (k+1))).length:Int)=((bT (gs.take (k+1))).length:Int) from rfl);clear We oF htt hcells;go_wp2_with fail;go_roundw
   case rel=>exact⟨k+1,by go_num,by omega,rfl,nH.o⟩
   case measure=>simp[intOf];omega
  ·obtain rfl:k=gs.length:=by omega
   have gi:¬ ((gs.length:Nat):Int)<(gs.length:Int):=(by omega);have HTE:jgf ((bT (gs.take gs.length)).length=(bT gs).length):=ae (jep List.length HTA.o);go_wp2_with fail;go_ret
   exact⟨by rw[← HTE.o];rfl,HB.o⟩
def Cv(l:List Fd)(j:Nat):Nat:=match l[j]? with
 | none=>0
 | some f=>f.2.2.1
def fvM(op:Nat)(c:Cl)(k:Nat):Int:=if op=5 then (if c.1=0 then 0 else 90) else if c.1=0 then 10 else if c.1≠k then 10 else if op=4/\k≠3 then 10 else 0
def KB(c:Cl):Int:=flt (c.1:Int) c.2.1 (am c.2.2)
def ffM(l:List Fd)(op f:Nat)(c:Cl)(n:Nat):Int:=if 0<n then 90 else match iV l f with
 | none=>81
 | some j=>if KB c=0 then fvM op c (Cv l j) else if KB c=1 then 90 else KB c
def fkM(op f:Nat)(c:Cl)(n:Nat):Int:=if f≠0 then 90 else if ¬ (c.1=0/\c.2.1=0/\(am c.2.2).toList.isEmpty=true) then 90 else if op=8/\n≠1 then 90 else 0
def ov(l:List Fd)(op f:Nat)(c:Cl)(n:Nat):Int:=if 1<=op/\op<=5 then ffM l op f c n else if 6<=op/\op<=8 then fkM op f c n else 90
 mutual
def mY(l:List Fd):PT->Int
 | .node op f c ks=>if ov l op f c ks.length≠0 then ov l op f c ks.length else firstAll l ks
def firstAll(l:List Fd):List PT->Int
 | []=>0
 | k::ks=>if mY l k≠0 then mY l k else firstAll l ks
 end
theorem Cw{l:List Fd}{ks:List PT}:firstAll l (ks.drop ks.length)=0:=by rw[jfg];simp only[firstAll]
theorem tK{w:World}{b off op f:Nat}{c:Cl}{kv:Value}(hn:gU w b off op f c kv)(k:Nat):Calls Tryz.prog 218 #[.pointer (some ⟨b,off,none⟩),.int .u8 (k:Int)] w fun e w'=>e=.returned (.int .i64 (fvM op c k))/\Below w.heap.size w w':=by
 obtain⟨dL,x0,x1,x2,x3,x4,x5⟩:=hn;unfold fvM;by_cases h5:op=5
 ·subst h5
  rw[jei rfl];by_cases h0:c.1=0
  ·rw[jei h0]
   have h0':((c.1:Int)==0)=true:=by rw[h0];rfl
   clear h0;go_enter Tryz.func218,Tryz.ntmps218
   go_wp2_with fail;go_ret
   exact⟨rfl,jej _ _⟩
  ·rw[jeh h0]
   have h0':((c.1:Int)==0)=false:=jev.2 (by omega);clear h0;go_enter Tryz.func218,Tryz.ntmps218
   go_wp2_with fail;go_ret
   exact⟨rfl,jej _ _⟩
 ·rw[jeh h5]
  have n5:((op:Int)==5)=false:=jev.2 (by omega);clear h5;by_cases h0:c.1=0
  ·rw[jei h0]
   have h0':((c.1:Int)==0)=true:=by rw[h0];rfl
   clear h0;go_enter Tryz.func218,Tryz.ntmps218
   go_wp2_with fail;go_ret
   exact⟨rfl,jej _ _⟩
  ·rw[jeh h0]
   have h0':((c.1:Int)==0)=false:=jev.2 (by omega);clear h0;by_cases hk:c.1≠k
   ·rw[jei hk]
    have hk':((c.1:Int) != (k:Int))=true:=by simp;omega
    clear hk;go_enter Tryz.func218,Tryz.ntmps218
    go_wp2_with fail;go_ret
    exact⟨rfl,jej _ _⟩
   ·rw[jeh hk]
    have hk':((c.1:Int) != (k:Int))=false:=by simp;omega
    clear hk;by_cases h4:op=4
    ·subst h4
     by_cases h3:k=3
     ·subst h3
      rw[jeh (by simp)];go_enter Tryz.func218,Tryz.ntmps218
      go_wp2_with fail;go_ret
      exact⟨rfl,jej _ _⟩
     ·rw[jei ⟨rfl,h3⟩]
      have h3':((k:Int) != 3)=true:=by simp;omega
      clear h3;go_enter Tryz.func218,Tryz.ntmps218
      go_wp2_with fail;go_ret
      exact⟨rfl,jej _ _⟩
    ·rw[jeh (fun h=>h4 h.1)]
     have h4':((op:Int)==4)=false:=jev.2 (by omega);clear h4;go_enter Tryz.func218,Tryz.ntmps218
     go_wp2_with fail;go_ret
     exact⟨rfl,jej _ _⟩
theorem tL{w:World}{b off op f si:Nat}{c:Cl}{a:Option Addr}{n cap:Nat}{fv:Value}{l:List Fd}(hn:gU w b off op f c (.slice a n cap))(hs:Sf w fv l)(iY:Okc c):Calls Tryz.prog 190 #[.pointer (some ⟨b,off,none⟩),.agg #[.int .u32 (si:Int),fv]] w fun e w'=>e=.returned (.int .i64 (ffM l op f c n))/\Below w.heap.size w w':=by
 obtain⟨fa,fcap,rfl,hfc,WP⟩:=hs.form;have aH:=ak w (.cells #[.int .u32 (si:Int),.slice fa l.length fcap] 25);have aP:=ae aH;obtain⟨e0,e1⟩:=bx w (.int .u32 (si:Int)) (.slice fa l.length fcap) 25;have hz:w.heap.size<(w.alloc (.cells #[.int .u32 (si:Int),.slice fa l.length fcap] 25)).heap.size:=by rw[jel];omega
 have HS:=ae (hs.kept aH);have HN:=ae (hn.kept aH);have HO:=ae iY;generalize hA:w.alloc (.cells #[.int .u32 (si:Int),.slice fa l.length fcap] 25)=A at *;clear aH hs hn iY;obtain⟨dL,x0,x1,x2,x3,x4,x5⟩:=HN.o
 have HD:jgf (ffM l op f c n=if 0<n then 90 else match iV l f with
  | none=>81
  | some j=>if KB c=0 then fvM op c (Cv l j) else if KB c=1 then 90 else KB c):=ae rfl
 generalize ffM l op f c n=R at *;by_cases qI:0<n
 ·rw[jei qI]at HD
  have hn0':(0:Int)<(n:Int):=by omega
  clear qI;go_enter Tryz.func190,Tryz.ntmps190
  go_wp2_with fail;go_ret
  rw[HD.o];exact⟨rfl,aP.o⟩
 ·rw[jeh qI]at HD
  obtain rfl:n=0:=by omega
  clear qI;have sL:=ae (fun(U:World) (hU:Below A.heap.size A U)=>tk (HS.o.kept hU) si f);have hr0:∀ s:bQ (fun x=>Below A.heap.size A x),s.w.cell? ⟨w.heap.size,0,none⟩=some (.int .u32 (si:Int)):=fun s=>(s.ok.cell (p:=⟨w.heap.size,0,none⟩) hz).trans e0
  have Bh:∀ s:bQ (fun x=>Below A.heap.size A x),s.w.cell? ⟨w.heap.size,1,none⟩=some (.slice fa l.length fcap):=fun s=>(s.ok.cell (p:=⟨w.heap.size,1,none⟩) hz).trans e1
  have CK:∀ s:bQ (fun x=>Below A.heap.size A x),s.w.cell? ⟨b,off+1,none⟩=some (.int .u32 (f:Int)):=fun s=>(s.ok.cell (p:=⟨b,off+1,none⟩) dL).trans x1
  haveI:Nonempty (bQ (fun x=>Below A.heap.size A x)):=⟨bQ.mk A (jej _ _)⟩
  go_enter Tryz.func190,Tryz.ntmps190
  go_wp2_with fail;refine cz (S:=fun x=>Below A.heap.size A x) (by kernel_rfl) (by kernel_rfl) (by first | exact(jej _ _).drew | (rw[hA];exact(jej _ _).drew)) ?_;repeat (go_big_quiet_step ((go_at_call 193;exact(sL.o _ (bQ.ok _)).mono (fun e w' h=>⟨h.1,bQ.mk w' (ai (bQ.ok _) h.2),rfl⟩))))
  refine wpQuiet_nil ?_;rintro _ ⟨s2,rfl⟩;obtain⟨w2,pR⟩:∃ x,x=s2.w:=⟨_,rfl⟩;have aE:=s2.ok;rw[← pR]at aE ⊢;have aN:=ae aE;have gj:=ae (HS.o.kept aE);have GA:=ae (HN.o.kept aE);have g0:=(aE.cell (p:=⟨w.heap.size,0,none⟩) hz).trans e0;have g1:=(aE.cell (p:=⟨w.heap.size,1,none⟩) hz).trans e1;have bv:=jeH hz aE.size;clear pR aE hr0 Bh CK x0 x1 x2 x3 x4 x5 HN HS e0 e1 hz hA dL;obtain⟨dL,x0,x1,x2,x3,x4,x5⟩:=GA.o;cases hp:iV l f with
  | none =>
   rw[hp]at HD;simp only[Option.isSome_none,Option.getD_none];clear hp;go_wp2_with fail;go_ret
   rw[HD.o];exact⟨rfl,ai aP.o aN.o⟩
  | some j =>
   rw[hp]at HD;have hj:=Ry hp;simp only[Option.isSome_some,Option.getD_some];clear hp;go_wp2_with fail;refine(TF HO.o _).mono ?_;rintro e w3 ⟨rfl,aS⟩;have bN:=ae (ai aN.o aS);have hN3:=GA.o.kept aS;have k0:=(aS.cell (p:=⟨w.heap.size,0,none⟩) bv).trans g0;have k1:=(aS.cell (p:=⟨w.heap.size,1,none⟩) bv).trans g1;obtain⟨gb,goff,rfl,QB,y0,y1,y2,y3⟩:=(gj.o.kept aS).at hj;clear aS x0 x1 x2 x3 x4 x5 g0 g1 bv dL;have HN3:=ae hN3;clear hN3;have HKA:jgf (Cv l j=l[j].2.2.1):=ae (by unfold Cv;rw[List.getElem?_eq_getElem hj]);have hj':(j:Int)<(l.length:Int):=(by omega);have HE:jgf (KB c=flt (c.1:Int) c.2.1 (am c.2.2)):=ae rfl;rw[HKA.o]at HD;generalize l[j].2.2.1=kd at *;obtain⟨fl,jH⟩:∃ fl,fl=flt (c.1:Int) c.2.1 (am c.2.2):=⟨_,rfl⟩;rw[← jH]at HE ⊢;rw[HE.o]at HD;clear jH HE HKA;by_cases h0:fl=0
   ·subst h0
    simp only[if_true]at HD;go_wp2_with fail;refine(tK HN3.o kd).mono ?_;rintro e w4 ⟨rfl,bG⟩;have cp:=ae (ai bN.o bG);clear bG;go_wp2_with fail;go_ret
    rw[HD.o];exact⟨rfl,ai aP.o cp.o⟩
   ·have h0':(fl==0)=false:=jev.2 h0
    simp only[jeh h0]at HD;by_cases h1:fl=1
    ·subst h1
     simp only[if_true]at HD;clear h0;go_wp2_with fail;go_ret
     rw[HD.o];exact⟨rfl,ai aP.o bN.o⟩
    ·have h1':(fl==1)=false:=jev.2 h1
     simp only[jeh h1]at HD;clear h0 h1;go_wp2_with fail;go_ret
     rw[HD.o];exact⟨rfl,ai aP.o bN.o⟩
def FV(w:World)(t:PT)(m d:Nat)(e:Ending)(w':World):Prop:=(∃ n:Int,e=.returned (.int .i64 n)/\-1<=n/\n<100/\(∀ op f c,t=.node op f c []->0<m->0<d->n=(m:Int)-1))/\w'=w
def PX(w:World)(l:List Fd)(t:PT)(e:Ending)(w':World):Prop:=(∃ n:Int,e=.returned (.int .i64 n)/\(∀ op f c,t=.node op f c []->n=mY l t))/\Below w.heap.size w w'
def sId:ByteArray:=⟨#[105,100]⟩
def ZU:ByteArray:=⟨#[110,97,109,101]⟩
def fI:List Fd:=[(1,sId,1,true),(2,ZU,3,false)]
def rA1:Row:=[(1,1,[]),(3,0,[97])]
def rA2:Row:=[(1,2,[]),(0,0,[])]
def rA:List Row:=[rA1,rA2]
def pA:PT:=.node 1 1 (1,2,[]) []
theorem Yz:chk 1 fI=0:=by decide +kernel
theorem fitA1:iO fI rA1=0:=by decide +kernel
theorem fitA2:iO fI rA2=0:=by decide +kernel
theorem Mn{n:Int}(h:I64 n):aT (1,n,[]):=Or.inr (Or.inl ⟨n,rfl,h⟩)
theorem YA:aT (3,0,[97]):=Or.inr (Or.inr (Or.inr ⟨[97],rfl,by decide,fun x hx=>by simp at hx;omega⟩))
theorem YB:aT (0,0,[]):=Or.inl rfl
theorem jbJ:∀ c∈rA1,aT c:=fun c hc=>by
 rcases jeC.1 hc with rfl | hc
 ·exact Mn ⟨by omega,by omega⟩
 ·obtain rfl:c=(3,0,[97]):=by simpa using hc
  exact YA
theorem Cx:∀ c∈rA2,aT c:=fun c hc=>by
 rcases jeC.1 hc with rfl | hc
 ·exact Mn ⟨by omega,by omega⟩
 ·obtain rfl:c=(0,0,[]):=by simpa using hc
  exact YB
theorem pP:jR fI rA:=fun r hr=>by
 rcases jeC.1 hr with rfl | hr
 ·exact⟨fitA1,jbJ⟩
 ·obtain rfl:r=rA2:=by simpa using hr
  exact⟨fitA2,Cx⟩
theorem okA:∀ f∈fI,Okf f:=fun f hf=>by
 rcases jeC.1 hf with rfl | hf
 ·exact⟨by decide,by decide⟩
 ·obtain rfl:f=(2,ZU,3,false):=by simpa using hf
  exact⟨by decide,by decide⟩
def bA:List Nat:=bE (dy 1 fI rA 1)
theorem UR:bW 1 fI rA (1:Int)=(bA,0):=sj (g:=1) okA (by omega) Yz (by decide) (by omega) (by omega) pP
theorem ZV:jB bA=.ok (1,fI,1,[grp fI [rA1],grp fI [rA2]]):=Cu (g:=1) okA (by omega) (fun r hr=>(pP r hr).2) UR
theorem bsA:Bs bA:=(kO okA (by omega) Yz (by decide) (by omega) (by omega) pP).2.seal
theorem jbK:5<bA.length/\bA.length<=70000:=by
 constructor
 ·unfold bA
  rw[jh];unfold dy mn;simp only[jem,jer,jeL,le4];omega
 ·have:=qx okA (by omega) Yz (show rA.length<=60 by decide) (by omega) (show 1<=64 by omega) pP
  unfold bA;omega
theorem turnA:jB (bA.set 5 (bA[5]'jbK.1 ^^^ 1))=.error 101:=by
 have h:=Cb (b:=dy 1 fI rA 1) (j:=5) (y:=1) (kO okA (by omega) Yz (by decide) (by omega) (by omega) pP).2 jbK.1 (by omega) (by omega);unfold jB;have e:eC (bA.set 5 (bA[5]'jbK.1 ^^^ 1))=none:=h;rw[e]
theorem jbL:mY fI pA=0:=by decide +kernel
theorem mayA1:jbq (pq fI (grp fI [rA1]).2 pA) 2=false:=by decide +kernel
theorem mayA2:jbq (pq fI (grp fI [rA2]).2 pA) 2=true:=by decide +kernel
theorem jbM:jA fI rA2 pA=2:=by decide +kernel
theorem YC{W:World}{q:Nat}{x y a b:Value}{t:TypeId}(h:W.heap[q]?=some (.cells #[x,y] t (0,0))):((W.setCell ⟨q,0,none⟩ a).setCell ⟨q,1,none⟩ b).heap[q]?=some (.cells #[a,b] t (0,0)):=by
 have h1:(W.setCell ⟨q,0,none⟩ a).heap[q]?=some (.cells #[a,y] t (0,0)):=by rw[cU h];rfl
 rw[cU h1];rfl
theorem Cy{w:World}{B fp id:Nat}{fv:Value}{gs:List Gr}{fs:List Fd}(h:Fil w B fp id fv gs)(hf:Sf w fv fs)(hl:fs.length<=1000) :
  Calls Tryz.prog 19 #[.pointer (some ⟨fp,0,none⟩)] w fun e w'=>(∃ v,e=.returned (.agg #[.int .u32 (id:Int),v])/\ea w' w.heap.size v fs)/\Below w.heap.size w w':=by
 obtain⟨gv,xs,h1,_,_,_⟩:=h;have Gz:=(Array.getElem?_eq_some_iff.1 h1).1;obtain⟨fa,fc,rfl,_,_⟩:=hf.form;have aH:=ak w (.cells #[.int .u32 0,.slice none 0 0] 25);have hq:=jeK w (.cells #[.int .u32 0,.slice none 0 0] 25);have hz:(w.alloc (.cells #[.int .u32 0,.slice none 0 0] 25)).heap.size=w.heap.size+1:=jel _ _;generalize hA:w.alloc (.cells #[.int .u32 0,.slice none 0 0] 25)=A at *
 have HT:jgf (∀ U,Below A.heap.size A U->U.cell? ⟨fp,0,none⟩=some (.int .u32 (id:Int))/\U.cell? ⟨fp,1,none⟩=some (.slice fa fs.length fc)):=ae (fun U hU=>by
  have hfU:=(hU.block fp (by omega)).trans ((aH.block fp Gz).trans h1);exact⟨by rw[ay hfU];rfl,by rw[ay hfU];rfl⟩)
 have HQ:jgf (∀ U,Below A.heap.size A U->U.heap[w.heap.size]?=some (.cells #[.int .u32 0,.slice none 0 0] 25 (0,0))):=ae (fun U hU=>(hU.block w.heap.size (by omega)).trans hq)
 have pQ:jgf (∀ U,Below A.heap.size A U->Calls Tryz.prog 55 #[.slice fa fs.length fc] U fun e w'=>∃ a c,e=.returned (.slice a fs.length c)/\ea w' A.heap.size (.slice a fs.length c) fs/\Below A.heap.size A w'/\w'.frozen? ⟨w.heap.size,0,none⟩=false/\w'.frozen? ⟨w.heap.size,1,none⟩=false/\w'.cell? ⟨w.heap.size,0,none⟩=some (.int .u32 0)/\w'.cell? ⟨w.heap.size,1,none⟩=some (.slice none 0 0)):=ae (fun U hU=>by
  refine(JN (hf.kept (aH.trans (hU.mono aH.size))|>.kept (jej _ _)) hl).mono ?_;rintro e w' ⟨⟨v,rfl,ho⟩,hb⟩;have hbU:=ai hU hb;have hqU:=HQ.o _ hbU;obtain⟨a,c,rfl,_,_⟩:=be ho;exact⟨a,c,rfl,ho.low hU.size,hbU,by simp[World.frozen?,hqU],by simp[World.frozen?,hqU],by rw[ay hqU];rfl,by rw[ay hqU];rfl⟩)
 have aP:=ae aH;have HZ:=ae hz;clear h1 hf aH hq hz;obtain⟨c0,c1⟩:=HT.o A (jej _ _);go_enter Tryz.func19,Tryz.ntmps19
 go_wp2_with fail;try rw[hA]
 clear hA;refine wp_region_noPanic ?_
 go_region_law (first
  | (go_simp;go_at_call 55;refine(pQ.o _ ?_).mono ?_;exact ar (jej A.heap.size A) _;rintro e w5 ⟨a5,c5,rfl,fD,bD,fr0,fr1,q0,q1⟩;obtain⟨d0,d1⟩:=HT.o w5 bD;have aQ:=ae bD;have df:=ae fD;clear bD fD;dsimp only)
  | fail)
 all_goals refine NoPanic.normal ?_
 all_goals go_wp2_with fail
 all_goals
  have iS:=YC (a:=.int .u32 (id:Int)) (b:=.slice a5 fs.length c5) (HQ.o w5 aQ.o)
  have AU:ea ((w5.setCell ⟨w.heap.size,0,none⟩ (.int .u32 (id:Int))).setCell ⟨w.heap.size,1,none⟩ (.slice a5 fs.length c5)) A.heap.size (.slice a5 fs.length c5) fs:=bX df.o fun k hk=>by
   have kQ:=(aM df.o hk).1;have bv:=HZ.o;rw[Below.heap_setCell _ _ _ _ (by show k≠w.heap.size;omega),Below.heap_setCell _ _ _ _ (by show k≠w.heap.size;omega)]
  have dW:=((aP.o.trans (aQ.o.mono aP.o.size)).setCell (p:=⟨w.heap.size,0,none⟩) (jek _) (.int .u32 (id:Int))).setCell (p:=⟨w.heap.size,1,none⟩) (jek _) (.slice a5 fs.length c5);have t0:((w5.setCell ⟨w.heap.size,0,none⟩ (.int .u32 (id:Int))).setCell ⟨w.heap.size,1,none⟩ (.slice a5 fs.length c5)).cell? ⟨w.heap.size,0,none⟩=some (.int .u32 (id:Int)):=by rw[ay iS];rfl
  have t1:((w5.setCell ⟨w.heap.size,0,none⟩ (.int .u32 (id:Int))).setCell ⟨w.heap.size,1,none⟩ (.slice a5 fs.length c5)).cell? ⟨w.heap.size,1,none⟩=some (.slice a5 fs.length c5):=by rw[ay iS];rfl
  generalize (w5.setCell ⟨w.heap.size,0,none⟩ (.int .u32 (id:Int))).setCell ⟨w.heap.size,1,none⟩ (.slice a5 fs.length c5)=FW at *;have Zs:w.heap.size<=A.heap.size:=by have:=HZ.o;omega
  refine bodyPost_ret (v:=.agg #[.int .u32 (id:Int),.slice a5 fs.length c5]) (by simp[results,Tryz.results19,go_sem,t0,t1]) rfl ⟨⟨_,rfl,AU.low Zs⟩,dW⟩
theorem PY(w:World):Calls Tryz.prog 35 #[] w fun e w'=>(∃ v',e=.returned (.agg #[.int .u32 1,v'])/\ea w' w.heap.size v' fI)/\Below w.heap.size w w':=by
 have HL:jgf (∀ W:World,ea (W.alloc (.cells #[.int .u32 1,.string ⟨#[105,100]⟩,.int .u8 1,.bool true,.int .u32 2,.string ⟨#[110,97,109,101]⟩,.int .u8 3,.bool false] 81)) W.heap.size (.slice (some ⟨W.heap.size,0,none⟩) 2 2) fI):=ae (fun W=>ql W fI (by unfold maxLen;decide));have aH:=ak w (.cells #[.int .u32 0,.slice none 0 0] 25);have jG:(w.alloc (.cells #[.int .u32 0,.slice none 0 0] 25)).heap.size=w.heap.size+1:=jel _ _;have qG:=ae jG;clear jG;go_enter Tryz.func35,Tryz.ntmps35
 go_wp2;refine bodyPost_ret (v:=.agg #[.int .u32 1,.slice (some ⟨w.heap.size+1,0,none⟩) 2 2]) (by simp[results,Tryz.results35,go_sem]) rfl ?_;refine⟨⟨_,rfl,?_⟩,?_⟩
 ·have h:=HL.o (w.alloc (.cells #[.int .u32 1,.slice (some ⟨w.heap.size+1,0,none⟩) 2 2] 25))
  rw[jel]at h;exact h.low (by omega)
 ·exact((jej _ _).alloc (jek _) _).alloc (by rw[jel];omega) _
def US(fs:List Fd)(t:PT)(r:Row):Bool:=jA fs r t==2
def mZ(fs:List Fd)(t:PT)(rows:List Row):List Row:=rows.filter (US fs t)
theorem PZ{fs:List Fd}{t:PT}{rows:List Row}{k:Nat}(h:k<rows.length):mZ fs t (rows.take (k+1))=mZ fs t (rows.take k)++(if US fs t rows[k]=true then [rows[k]] else []):=by
 unfold mZ;rw[jeA h,jfX];simp[jf8]
theorem xZ(fs:List Fd)(t:PT)(rows:List Row):(mZ fs t rows).length<=rows.length:=jfV _ _
theorem Cz{w:World}{B fp id op f:Nat}{fv gv kv a b:Value}{fs:List Fd}{rows:List Row}{sts:List Stt}{c:Cl}{ks:List PT}(kh:w.heap[fp]?=some (.cells #[.int .u32 (id:Int),fv,gv] 105 (0,0)))(yD:Sf w fv fs)(hg:Gro w B (.agg #[a,b]) rows sts)
  (hk:tp w kv ks) (GB:∀ U rv r,Below w.heap.size w U->Sv U rv (aJ r)->(∀ x∈r,aT x)->Calls Tryz.prog 113 #[.agg #[.int .u8 (op:Int),.int .u32 (f:Int),.int .u8 (c.1:Int),.int .i64 c.2.1,.string (am c.2.2),kv],.agg #[.int .u32 (id:Int),fv],rv] U fun e w'=>e=.returned (.int .u8 (jA fs r (.node op f c ks):Int))/\Below U.heap.size U w') (hr:∀ r∈rows,r.length<=1000/\∀ x∈r,aT x) (hl:rows.length<=1000) :
  Calls Tryz.prog 67 #[.pointer (some ⟨fp,0,none⟩),.agg #[a,b],.agg #[.int .u8 (op:Int),.int .u32 (f:Int),.int .u8 (c.1:Int),.int .i64 c.2.1,.string (am c.2.2),kv]] w
   fun e w'=>(∃ v l,e=.returned v/\Ow w' w.heap.size v l/\l.map Prod.snd=mZ fs (.node op f c ks) rows)/\Below w.heap.size w w':=by
 obtain⟨R,rfl,hR1,hR2,hR3,ki⟩:=hg.rows;obtain⟨fa,fc,rfl,_,_⟩:=yD.form;obtain⟨ka,kc,rfl,_,_⟩:=hk.form;have Gz:=(Array.getElem?_eq_some_iff.1 kh).1;have aH:=ak w (.cells #[.slice (some ⟨R,0,none⟩) rows.length rows.length,b] 109);obtain⟨g0,g1⟩:=bx w (.slice (some ⟨R,0,none⟩) rows.length rows.length) b 109;have aE:=ak (w.alloc (.cells #[.slice (some ⟨R,0,none⟩) rows.length rows.length,b] 109)) (.cells #[.int .u8 (op:Int),.int .u32 (f:Int),.int .u8 (c.1:Int),.int .i64 c.2.1,.string (am c.2.2),.slice ka ks.length kc] 63);obtain⟨p0,p1,p2,p3,p4,p5⟩:=tq (w.alloc (.cells #[.slice (some ⟨R,0,none⟩) rows.length rows.length,b] 109)) (.int .u8 (op:Int)) (.int .u32 (f:Int)) (.int .u8 (c.1:Int)) (.int .i64 c.2.1) (.string (am c.2.2)) (.slice ka ks.length kc) 63;have cK:(w.alloc (.cells #[.slice (some ⟨R,0,none⟩) rows.length rows.length,b] 109)).heap.size=w.heap.size+1:=jel _ _;have bv:((w.alloc (.cells #[.slice (some ⟨R,0,none⟩) rows.length rows.length,b] 109)).alloc (.cells #[.int .u8 (op:Int),.int .u32 (f:Int),.int .u8 (c.1:Int),.int .i64 c.2.1,.string (am c.2.2),.slice ka ks.length kc] 63)).heap.size=w.heap.size+2:=by rw[jel,jel]
 have g0':=(aE.cell (p:=⟨w.heap.size,0,none⟩) (by show w.heap.size<_;omega)).trans g0;rw[cK]at p0 p1 p2 p3 p4 p5;have lC:=ai aH aE;generalize hA:(w.alloc (.cells #[.slice (some ⟨R,0,none⟩) rows.length rows.length,b] 109)).alloc (.cells #[.int .u8 (op:Int),.int .u32 (f:Int),.int .u8 (c.1:Int),.int .i64 c.2.1,.string (am c.2.2),.slice ka ks.length kc] 63)=A at *
 have HT:jgf (∀ U,Below A.heap.size A U->U.cell? ⟨fp,0,none⟩=some (.int .u32 (id:Int))/\U.cell? ⟨fp,1,none⟩=some (.slice fa fs.length fc)/\U.cell? ⟨w.heap.size,0,none⟩=some (.slice (some ⟨R,0,none⟩) rows.length rows.length) /\
   U.cell? ⟨w.heap.size+1,0,none⟩=some (.int .u8 (op:Int))/\U.cell? ⟨w.heap.size+1,1,none⟩=some (.int .u32 (f:Int))/\U.cell? ⟨w.heap.size+1,2,none⟩=some (.int .u8 (c.1:Int))/\U.cell? ⟨w.heap.size+1,3,none⟩=some (.int .i64 c.2.1)/\U.cell? ⟨w.heap.size+1,4,none⟩=some (.string (am c.2.2))/\U.cell? ⟨w.heap.size+1,5,none⟩=some (.slice ka ks.length kc)):=ae (fun U hU=>by
  have hfU:=(hU.block fp (by omega)).trans ((lC.block fp Gz).trans kh);refine⟨by rw[ay hfU];rfl,by rw[ay hfU];rfl,(hU.cell (p:=⟨w.heap.size,0,none⟩) (by show w.heap.size<_;omega)).trans g0',?_,?_,?_,?_,?_,?_⟩
  ·exact(hU.cell (p:=⟨w.heap.size+1,0,none⟩) (by show w.heap.size+1<_;omega)).trans p0
  ·exact(hU.cell (p:=⟨w.heap.size+1,1,none⟩) (by show w.heap.size+1<_;omega)).trans p1
  ·exact(hU.cell (p:=⟨w.heap.size+1,2,none⟩) (by show w.heap.size+1<_;omega)).trans p2
  ·exact(hU.cell (p:=⟨w.heap.size+1,3,none⟩) (by show w.heap.size+1<_;omega)).trans p3
  ·exact(hU.cell (p:=⟨w.heap.size+1,4,none⟩) (by show w.heap.size+1<_;omega)).trans p4
  ·exact(hU.cell (p:=⟨w.heap.size+1,5,none⟩) (by show w.heap.size+1<_;omega)).trans p5)
 have HROW:jgf (∀ U,Below A.heap.size A U->∀ i (h:i<rows.length),∃ ra rc,U.cell? ⟨R,i,none⟩=some (.slice ra rows[i].length rc)/\Sv U (.slice ra rows[i].length rc) (aJ rows[i])/\rows[i].length<=1000/\∀ x∈rows[i],aT x):=ae (fun U hU i hi=>by
  obtain⟨rv,e1,e2⟩:=ki i hi;have fs':=e2.sv;obtain⟨ra,rc,rfl,_,_⟩:=fs'.form1;rw[aG]at *;have hbU:=lC.trans (hU.mono lC.size);exact⟨ra,rc,(hbU.cell (p:=⟨R,i,none⟩) hR2).trans e1,fs'.kept hbU,hr _ (jeo hi)⟩)
 have HEV:jgf (∀ U ra n rc r,Below A.heap.size A U->Sv U (.slice ra n rc) (aJ r)->(∀ x∈r,aT x)->Calls Tryz.prog 113 #[.agg #[.int .u8 (op:Int),.int .u32 (f:Int),.int .u8 (c.1:Int),.int .i64 c.2.1,.string (am c.2.2),.slice ka ks.length kc],.agg #[.int .u32 (id:Int),.slice fa fs.length fc],.slice ra n rc] U
   fun e w'=>e=.returned (.int .u8 (jA fs r (.node op f c ks):Int))/\Below U.heap.size U w'):=ae (fun U ra n rc r hU hs hfi=>by
  have hbU:=lC.trans (hU.mono lC.size);exact GB U _ r hbU hs hfi)
 have nH:=ae lC;have HH0:=ae (fun k (h:k<rows.length)=>PZ (fs:=fs) (t:=.node op f c ks) h);have HHM:jgf (∀ r,US fs (.node op f c ks) r=(jA fs r (.node op f c ks)==2)):=ae (fun r=>rfl);have HHL:=ae (fun k=>xZ fs (.node op f c ks) (rows.take k));have Ro:jgf (mZ fs (.node op f c ks) (rows.take rows.length)=mZ fs (.node op f c ks) rows):=ae (by rw[jes]);generalize (PT.node op f c ks)=T at *;clear kh yD hg hk GB hr ki aH aE g0 g1 p0 p1 p2 p3 p4 p5 g0' lC;obtain⟨c0,c1,c2,d0,d1,d2,d3,d4,d5⟩:=HT.o A (jej _ _);have MB:=ae bv;clear bv cK;generalize c.1=k0 at *;generalize c.2.1=k1 at *;generalize am c.2.2=k2 at *;go_enter Tryz.func67,Tryz.ntmps67
 go_wp2_with fail;try rw[hA]
 go_loopw [7,13] (fun o i wr=>∃(j:Nat) (l:List (Value×Row)),j<=rows.length/\i=.int .i64 (j:Int)/\Ow wr A.heap.size o l/\l.map Prod.snd=mZ fs T (rows.take j)/\Below A.heap.size A wr) (fun _ i _=>rows.length-(intOf i).toNat)
 case atStart=>exact⟨0,[],by omega,rfl,Ow.nil _ _,rfl,jej _ _⟩
 case round =>
  obtain⟨j,l,hj,rfl,how,sR,az⟩:=hrel;have HO:=ae how;have HB:=ae az;have pV:=ae sR;have bH:=az.size
  have kW:l.length<=rows.length:=by
   have h1:=jep List.length sR;have h2:=HHL.o j;rw[jen]at h1;rw[jeq]at h2;omega
  clear how az sR;obtain⟨c0,c1,c2,d0,d1,d2,d3,d4,d5⟩:=HT.o wr HB.o;obtain⟨la,lc,rfl,Rf,AO,_⟩:=HO.o.form;by_cases aB:j<rows.length
  ·have hlt':(j:Int)<(rows.length:Int):=by omega
   obtain⟨ra,rc,dN,gX,nD,hfi⟩:=HROW.o wr HB.o j aB;have yk:=ae gX;have lz:=ae (HH0.o j aB);have jcX:=ae (HHM.o rows[j])
   have jcY:jgf (∀ U,Below wr.heap.size wr U->Calls Tryz.prog 113 #[.agg #[.int .u8 (op:Int),.int .u32 (f:Int),.int .u8 (k0:Int),.int .i64 k1,.string k2,.slice ka ks.length kc],.agg #[.int .u32 (id:Int),.slice fa fs.length fc],.slice ra rows[j].length rc] U
     fun e w'=>e=.returned (.int .u8 (jA fs rows[j] T:Int))/\Below wr.heap.size wr w'):=ae (fun U hU=>by
    refine(HEV.o U ra _ rc rows[j] (HB.o.trans (hU.mono bH)) (gX.kept hU) hfi).mono ?_;rintro e w' ⟨rfl,hb⟩;exact⟨rfl,ai hU hb⟩)
   obtain⟨E,hE⟩:∃ E,jA fs rows[j] T=E:=⟨_,rfl⟩;rw[hE]at jcY jcX;have Zt:jgf (US fs T rows[j]=(E==2)):=ae jcX.o;clear hE jcX gX hfi;generalize rows[j]=r at *;go_upto_region 5 with fail
   go_cut [24] from 32 (fun v wx=>v=.bool ((E:Int)==2)/\Below wr.heap.size wr wx)
   case first =>
    refine wp_region_noPanic ?_
    go_region_law (first
     | (go_simp;go_at_call 113;refine(jcY.o _ ?_).mono ?_;exact ar (jej wr.heap.size wr) _;rintro e w1 ⟨rfl,aH⟩;have aP:=ae aH;clear aH;dsimp only)
     | fail)
    all_goals refine NoPanic.normal ?_
    all_goals go_wp2_with fail
    all_goals go_meet
    all_goals exact⟨rfl,aP.o⟩
   case rest =>
   obtain⟨rfl,tY⟩:=hcut;obtain⟨w1,hw1⟩:∃ w1,w1=wc:=⟨_,rfl⟩;subst hw1;have aP:=ae tY;clear tY;have HBW1:=ae (HB.o.trans (aP.o.mono bH));have cK:=aP.o.size;clear jcY c0 c1 c2 d0 d1 d2 d3 d4 d5 dN;by_cases hE2:E=2
   ·have hEq:((E:Int)==2)=true:=by rw[hE2];rfl
    have jcZ:jgf (mZ fs T (rows.take (j+1))=mZ fs T (rows.take j)++[r]):=ae (by rw[lz.o,Zt.o,hE2];rfl);have pQ:=ae (qm (yk.o.kept aP.o) nD);have eO:=ae (HO.o.kept aP.o);clear lz Zt hE2 HO;go_wp2_with fail;refine pQ.o.mono ?_;rintro e w2 ⟨⟨v2,rfl,ft⟩,aE⟩;have dz:=ae (eO.o.kept aE);have Ze:=ae ft;have aN:=ae (HBW1.o.trans (aE.mono (by omega)));have bv:=aE.size;obtain⟨ra',rc',rfl,_,_⟩:=be ft;have kf:=ae (aK w2 (.slice ra' r.length rc') 79);clear aE ft pQ eO;go_wp2_with (first | (at_builtin;refine gO rfl _ _ rfl A.heap.size _ _ l [(.slice ra' r.length rc',r)] rfl (dz.o.kept (ak _ _)) rfl (pn kf.o (by rw[jel];omega)) ?c1 ?c2 ?c3 ?_))
    case c1 =>
     intro x hx;rw[jeX.1 hx];exact(Ze.o.kept (ak _ _)).of_le (by omega)
    case c2=>simp only[jeS];omega
    case c3=>rw[jel];omega
    intro v' w5 o5 b5;have df:=ae o5;have aQ:=ae ((aN.o.alloc (by omega) _).trans b5);clear o5 b5;go_wp2_with fail;go_roundw
    case rel=>exact⟨j+1,_,by omega,by go_num,df.o,by rw[jcZ.o,jeE,pV.o];rfl,aQ.o⟩
    case measure=>simp[intOf];omega
   ·have hEq:((E:Int)==2)=false:=by simp;omega
    have jcZ:jgf (mZ fs T (rows.take (j+1))=mZ fs T (rows.take j)):=ae (by
     have:(E==2)=false:=by simpa using hE2
     rw[lz.o,Zt.o,this];simp)
    have eO:=ae (HO.o.kept aP.o);clear lz Zt hE2 HO;go_wp2_with fail;go_roundw
    case rel=>exact⟨j+1,l,by omega,by go_num,eO.o,by rw[jcZ.o,pV.o],HBW1.o⟩
    case measure=>simp[intOf];omega
  ·obtain rfl:j=rows.length:=by omega
   have gi:¬ ((rows.length:Nat):Int)<(rows.length:Int):=(by omega);have Gy:jgf (l.map Prod.snd=mZ fs T rows):=ae (pV.o.trans Ro.o);go_wp2_with fail;go_ret
   have yn:w.heap.size<=A.heap.size:=by have:=MB.o;omega
   first | exact⟨⟨_,_,rfl,HO.o.low yn,Gy.o⟩,ai nH.o HB.o⟩ | exact⟨⟨_,rfl,_,HO.o.low yn,Gy.o⟩,ai nH.o HB.o⟩
theorem Gro.stats{W:World}{B:Nat}{a b:Value}{rows:List Row}{sts:List Stt}(h:Gro W B (.agg #[a,b]) rows sts):Ss W b sts:=by
 obtain⟨R,rvs,vs,e,_,_,h3⟩:=h;simp only[Value.agg.injEq,Array.mk.injEq,List.cons.injEq,and_true]at e;obtain⟨_,rfl⟩:=e;exact jbG.ss (B:=B) h3
theorem jbN(a b c:Bool)(w:World):(Instr.index 123 (.agg #[.bool a,.bool b,.bool c]) (.int .u8 2)).run Tryz.prog w=.ok (.bool c) w:=by
 cases a<;>cases b<;>cases c<;>kernel_rfl
def za(fs:List Fd)(t:PT)(g:Gr):Bool:=jbq (pq fs g.2 t) 2
def jU(fs:List Fd)(t:PT)(gs:List Gr):List Row:=(gs.filter (za fs t)).flatMap fun g=>mZ fs t g.1
def iX(fs:List Fd)(t:PT)(gs:List Gr):Nat:=(gs.filter (za fs t)).length
theorem KD{fs:List Fd}{t:PT}{gs:List Gr}{k:Nat}(h:k<gs.length):jU fs t (gs.take (k+1))=jU fs t (gs.take k)++(if za fs t gs[k]=true then mZ fs t gs[k].1 else []):=by
 unfold jU;rw[jeA h,jfX,jfw];cases hm:za fs t gs[k]<;>simp[jf8,hm]
theorem KE{fs:List Fd}{t:PT}{gs:List Gr}{k:Nat}(h:k<gs.length):iX fs t (gs.take (k+1))=iX fs t (gs.take k)+(if za fs t gs[k]=true then 1 else 0):=by
 unfold iX;rw[jeA h,jfX,jem];cases hm:za fs t gs[k]<;>simp[jf8,hm]
theorem AG(fs:List Fd)(t:PT):∀ gs:List Gr,(jU fs t gs).length<=(bT gs).length
 | []=>jek _
 | g::gs=>by
  have h:=AG fs t gs;have h2:=xZ fs t g.1;unfold jU bT at *;rw[jf8];split
  ·simp only[jfG,jem,jeT,jfH]
   omega
  ·simp only[jeT,jfH,jem]
   omega
theorem Qa(fs:List Fd)(t:PT)(gs:List Gr):iX fs t gs<=gs.length:=jfV _ _
theorem KF{w:World}{B fp id op f:Nat}{fv kv:Value}{fs:List Fd}{gs:List Gr}{c:Cl}{ks:List PT}(h:Fil w B fp id fv gs)(yD:Sf w fv fs)
  (hk:tp w kv ks) (GB:∀ U rv r,Below w.heap.size w U->Sv U rv (aJ r)->(∀ x∈r,aT x)->Calls Tryz.prog 113 #[.agg #[.int .u8 (op:Int),.int .u32 (f:Int),.int .u8 (c.1:Int),.int .i64 c.2.1,.string (am c.2.2),kv],.agg #[.int .u32 (id:Int),fv],rv] U fun e w'=>e=.returned (.int .u8 (jA fs r (.node op f c ks):Int))/\Below U.heap.size U w')
  (hmay:∀ U rv sts,Below w.heap.size w U->Ss U rv sts->(∀ s∈sts,Oks s)->Calls Tryz.prog 66 #[.agg #[.int .u8 (op:Int),.int .u32 (f:Int),.int .u8 (c.1:Int),.int .i64 c.2.1,.string (am c.2.2),kv],.agg #[.int .u32 (id:Int),fv],rv] U fun e w'=>e=.returned (b3V (pq fs sts (.node op f c ks)))/\Below U.heap.size U w') (hr:∀ r∈bT gs,r.length<=1000/\∀ x∈r,aT x) (Dd:(bT gs).length<=1000) (Zn:gs.length<=100000) (gV:∀ g∈gs,∀ s∈g.2,Oks s) (k:Int) (N:Nat) (RR:List Row) (hN0:k=0->N=iX fs (.node op f c ks) gs/\RR=jU fs (.node op f c ks) gs) (hN1:k≠0->N=0/\RR=[])
  (QT:∀ U,Below w.heap.size w U->Calls Tryz.prog 65 #[.agg #[.int .u8 (op:Int),.int .u32 (f:Int),.int .u8 (c.1:Int),.int .i64 c.2.1,.string (am c.2.2),kv],.agg #[.int .u32 (id:Int),fv]] U fun e w'=>e=.returned (.int .i64 k)/\Below U.heap.size U w') :
  Calls Tryz.prog 28 #[.pointer (some ⟨fp,0,none⟩),.agg #[.int .u8 (op:Int),.int .u32 (f:Int),.int .u8 (c.1:Int),.int .i64 c.2.1,.string (am c.2.2),kv]] w
   fun e w'=>(∃ v l,e=.returned (.tuple #[v,.int .i64 (N:Int)])/\Ow w' w.heap.size v l/\l.map Prod.snd=RR)/\Below w.heap.size w w':=by
 obtain⟨gv,xs,h1,h2,h3,h4⟩:=h;obtain⟨ga,gc,rfl,hgc,hgm⟩:=be h3;obtain⟨fa,fc,rfl,_,_⟩:=yD.form;obtain⟨ka,kc,rfl,_,_⟩:=hk.form;have Gz:=(Array.getElem?_eq_some_iff.1 h1).1;have aH:=ak w (.cells #[.int .u8 (op:Int),.int .u32 (f:Int),.int .u8 (c.1:Int),.int .i64 c.2.1,.string (am c.2.2),.slice ka ks.length kc] 63);obtain⟨p0,p1,p2,p3,p4,p5⟩:=tq w (.int .u8 (op:Int)) (.int .u32 (f:Int)) (.int .u8 (c.1:Int)) (.int .i64 c.2.1) (.string (am c.2.2)) (.slice ka ks.length kc) 63;have cK:(w.alloc (.cells #[.int .u8 (op:Int),.int .u32 (f:Int),.int .u8 (c.1:Int),.int .i64 c.2.1,.string (am c.2.2),.slice ka ks.length kc] 63)).heap.size=w.heap.size+1:=jel _ _;generalize hA:w.alloc (.cells #[.int .u8 (op:Int),.int .u32 (f:Int),.int .u8 (c.1:Int),.int .i64 c.2.1,.string (am c.2.2),.slice ka ks.length kc] 63)=A at *
 have HT:jgf (∀ U,Below A.heap.size A U->U.cell? ⟨fp,0,none⟩=some (.int .u32 (id:Int))/\U.cell? ⟨fp,1,none⟩=some (.slice fa fs.length fc)/\U.cell? ⟨fp,2,none⟩=some (.slice ga gs.length gc) /\
   U.cell? ⟨w.heap.size,0,none⟩=some (.int .u8 (op:Int))/\U.cell? ⟨w.heap.size,1,none⟩=some (.int .u32 (f:Int))/\U.cell? ⟨w.heap.size,2,none⟩=some (.int .u8 (c.1:Int))/\U.cell? ⟨w.heap.size,3,none⟩=some (.int .i64 c.2.1)/\U.cell? ⟨w.heap.size,4,none⟩=some (.string (am c.2.2))/\U.cell? ⟨w.heap.size,5,none⟩=some (.slice ka ks.length kc)):=ae (fun U hU=>by
  have hfU:=(hU.block fp (by omega)).trans ((aH.block fp Gz).trans h1);refine⟨by rw[ay hfU];rfl,by rw[ay hfU];rfl,by rw[ay hfU];rfl,?_,?_,?_,?_,?_,?_⟩
  ·exact(hU.cell (p:=⟨w.heap.size,0,none⟩) (by show w.heap.size<_;omega)).trans p0
  ·exact(hU.cell (p:=⟨w.heap.size,1,none⟩) (by show w.heap.size<_;omega)).trans p1
  ·exact(hU.cell (p:=⟨w.heap.size,2,none⟩) (by show w.heap.size<_;omega)).trans p2
  ·exact(hU.cell (p:=⟨w.heap.size,3,none⟩) (by show w.heap.size<_;omega)).trans p3
  ·exact(hU.cell (p:=⟨w.heap.size,4,none⟩) (by show w.heap.size<_;omega)).trans p4
  ·exact(hU.cell (p:=⟨w.heap.size,5,none⟩) (by show w.heap.size<_;omega)).trans p5)
 have HG:jgf (∀ j (hj:j<gs.length),∃ G R va vn vc,ga=some ⟨G,0,none⟩/\∀ U,Below A.heap.size A U->U.cell? ⟨G,j*2,none⟩=some (.slice (some ⟨R,0,none⟩) gs[j].1.length gs[j].1.length)/\U.cell? ⟨G,j*2+1,none⟩=some (.slice va vn vc)/\Gro U B (.agg #[.slice (some ⟨R,0,none⟩) gs[j].1.length gs[j].1.length,.slice va vn vc]) gs[j].1 gs[j].2):=ae (fun j hj=>by
  obtain⟨a,b,e1,e2,e3⟩:=h4 j hj;obtain⟨R,rfl,g1,g2,⟨va,vn,vc,rfl⟩,g4⟩:=e3.rows;obtain⟨G,rfl,_,hG,lK⟩:=iq h3 e1;obtain⟨_,e,_,_,ke⟩:=iq h3 e2;cases e
  refine⟨G,R,va,vn,vc,rfl,fun U hU=>?_⟩;have hb:=aH.trans (hU.mono aH.size);exact⟨(hb.cell (p:=⟨G,j*2,none⟩) hG).trans (by rw[jeU];exact lK),(hb.cell (p:=⟨G,j*2+1,none⟩) hG).trans (by rw[jeU j];exact ke),e3.turn fun q _ _ _ k2 _ _ _=>hb.block q k2⟩)
 have lA:jgf (∀ U,Below A.heap.size A U->Calls Tryz.prog 65 #[.agg #[.int .u8 (op:Int),.int .u32 (f:Int),.int .u8 (c.1:Int),.int .i64 c.2.1,.string (am c.2.2),.slice ka ks.length kc],.agg #[.int .u32 (id:Int),.slice fa fs.length fc]] U fun e w'=>e=.returned (.int .i64 k)/\Below A.heap.size A w'):=ae (fun U hU=>by
  refine(QT U (aH.trans (hU.mono aH.size))).mono ?_;rintro e w' ⟨rfl,hb⟩;exact⟨rfl,ai hU hb⟩)
 have HMY:jgf (∀ U rv sts,Below A.heap.size A U->Ss U rv sts->(∀ s∈sts,Oks s)->Calls Tryz.prog 66 #[.agg #[.int .u8 (op:Int),.int .u32 (f:Int),.int .u8 (c.1:Int),.int .i64 c.2.1,.string (am c.2.2),.slice ka ks.length kc],.agg #[.int .u32 (id:Int),.slice fa fs.length fc],rv] U
   fun e w'=>e=.returned (b3V (pq fs sts (.node op f c ks)))/\Below U.heap.size U w'):=ae (fun U rv sts hU hs hos=>by
  have hb:=aH.trans (hU.mono aH.size);exact hmay U rv sts hb hs hos)
 have GL:jgf (∀ U a b j (hj:j<gs.length),Below A.heap.size A U->Gro U B (.agg #[a,b]) gs[j].1 gs[j].2->Calls Tryz.prog 67 #[.pointer (some ⟨fp,0,none⟩),.agg #[a,b],.agg #[.int .u8 (op:Int),.int .u32 (f:Int),.int .u8 (c.1:Int),.int .i64 c.2.1,.string (am c.2.2),.slice ka ks.length kc]] U
   fun e w'=>(∃ v l,e=.returned v/\Ow w' U.heap.size v l/\l.map Prod.snd=mZ fs (.node op f c ks) gs[j].1)/\Below U.heap.size U w'):=ae (fun U a b j hj hU hg=>by
  have hb:=aH.trans (hU.mono aH.size);have h5:=mw hj;have h6:=fB gs (j+1);rw[h5,jem]at h6;exact Cz ((hb.block fp Gz).trans h1) (yD.kept hb) hg (hk.kept hb) (fun U2 rv2 r2 hU2=>GB U2 rv2 r2 (hb.trans (hU2.mono hb.size))) (fun r hh=>hr r (FR hj hh)) (by omega))
 have HN0:=ae hN0;have La:=ae hN1;have cP:=ae (fun j (hj:j<gs.length)=>gV _ (jeo hj));have nH:=ae aH;have sP:=ae (fun j (hj:j<gs.length)=>KD (fs:=fs) (t:=.node op f c ks) hj);have HNT:=ae (fun j (hj:j<gs.length)=>KE (fs:=fs) (t:=.node op f c ks) hj);have HMG:jgf (∀ g:Gr,za fs (.node op f c ks) g=(pq fs g.2 (.node op f c ks)).2.2):=ae (fun g=>rfl);have Vt:=ae (fun j=>jet (AG fs (.node op f c ks) (gs.take j)) (fB gs j));have HNL:=ae (fun j=>jet (Qa fs (.node op f c ks) (gs.take j)) (show (gs.take j).length<=gs.length by rw[jeq];omega));have HRA:jgf (jU fs (.node op f c ks) (gs.take gs.length)=jU fs (.node op f c ks) gs):=ae (by rw[jes]);have MH:jgf (iX fs (.node op f c ks) (gs.take gs.length)=iX fs (.node op f c ks) gs):=ae (by rw[jes]);have Zi:jgf (jU fs (.node op f c ks) (gs.take 0)=[]):=ae rfl;have HNZ:jgf (iX fs (.node op f c ks) (gs.take 0)=0):=ae rfl;have HHL:=ae (fun rows=>xZ fs (.node op f c ks) rows);generalize (PT.node op f c ks)=T at *;have QU:=ae Dd;clear h1 h2 h3 h4 yD hk GB hmay hr Dd gV QT aH hN0 hN1 p0 p1 p2 p3 p4 p5;obtain⟨c0,c1,c2,d0,d1,d2,d3,d4,d5⟩:=HT.o A (jej _ _);have HZ1:=ae cK;clear cK;generalize c.1=k0 at *;generalize c.2.1=k1 at *;generalize am c.2.2=k2 at *;go_enter Tryz.func28,Tryz.ntmps28
 go_upto_region 1 with fail
 try rw[hA]
 clear hA;go_cut [16] from 46 (fun v wx=>v=.bool (k != 0)/\Below A.heap.size A wx)
 case first =>
  refine wp_region_noPanic ?_
  go_region_law (first
   | (go_simp;go_at_call 65;refine(lA.o _ ?_).mono ?_;exact ar (jej A.heap.size A) _;rintro e w1 ⟨rfl,aH⟩;have aP:=ae aH;clear aH;dsimp only)
   | fail)
  all_goals refine NoPanic.normal ?_
  all_goals go_wp2_with fail
  all_goals go_meet
  all_goals exact⟨rfl,aP.o⟩
 case rest =>
 obtain⟨rfl,tY⟩:=hcut;obtain⟨w1,hw1⟩:∃ w1,w1=wc:=⟨_,rfl⟩;subst hw1;have aP:=ae tY;clear tY;clear c0 c1 c2 d0 d1 d2 d3 d4 d5 lA;by_cases qB:k=0
 ·have hkz:(k != 0)=false:=by simp[qB]
  rw[hkz];obtain⟨hNe,hRe⟩:=HN0.o qB;have Rg:=ae hNe;have YO:=ae hRe;clear hNe hRe HN0 La;obtain⟨c0,c1,c2,_⟩:=HT.o w1 aP.o;go_wp2_with fail;go_loopw [6,7,22] (fun o n i wr=>∃(j:Nat) (l:List (Value×Row)),j<=gs.length/\i=.int .i64 (j:Int)/\n=.int .i64 ((iX fs T (gs.take j):Nat):Int)/\Ow wr A.heap.size o l/\l.map Prod.snd=jU fs T (gs.take j)/\Below A.heap.size A wr) (fun _ _ i _=>gs.length-(intOf i).toNat)
  case atStart=>exact⟨0,[],by omega,rfl,by rw[HNZ.o];rfl,Ow.nil _ _,Zi.o.symm,aP.o⟩
  case round =>
   obtain⟨j,l,hj,rfl,rfl,how,sR,az⟩:=hrel;have HO:=ae how;have HB:=ae az;have pV:=ae sR;have bH:=az.size
   have kW:l.length<=1000:=by
    have h1:=jep List.length sR;have h2:=Vt.o j;have h3:=QU.o;rw[jen]at h1;omega
   obtain⟨la,lc,rfl,Rf,AO,_⟩:=how.form;clear how az sR c0 c1 c2;by_cases aB:j<gs.length
   ·have hlt':(j:Int)<(gs.length:Int):=by omega
    obtain⟨G,R,va,vn,vc,rfl,jc0⟩:=HG.o j aB;obtain⟨ca,cb,hgro⟩:=jc0 wr HB.o;have hbA:=HB.o.alloc bH (.cells #[.slice (some ⟨R,0,none⟩) gs[j].1.length gs[j].1.length,.slice va vn vc] 109);have AQ:=ak wr (.cells #[.slice (some ⟨R,0,none⟩) gs[j].1.length gs[j].1.length,.slice va vn vc] 109);obtain⟨q0,q1⟩:=bx wr (.slice (some ⟨R,0,none⟩) gs[j].1.length gs[j].1.length) (.slice va vn vc) 109;have zl:(wr.alloc (.cells #[.slice (some ⟨R,0,none⟩) gs[j].1.length gs[j].1.length,.slice va vn vc] 109)).heap.size=wr.heap.size+1:=jel _ _;have HZQ:=ae zl;have nE:=ae (HO.o.kept AQ);have fx:=ae hbA;have HGC:=ae jc0;have HRJ:=ae (sP.o j aB);have HNJ:=ae (HNT.o j aB);have HMJ:=ae (HMG.o gs[j]);have HNJ2:=ae (HNL.o (j+1))
    have HQ:jgf (∀ U,Below (wr.alloc (.cells #[.slice (some ⟨R,0,none⟩) gs[j].1.length gs[j].1.length,.slice va vn vc] 109)).heap.size (wr.alloc (.cells #[.slice (some ⟨R,0,none⟩) gs[j].1.length gs[j].1.length,.slice va vn vc] 109)) U->U.cell? ⟨wr.heap.size,0,none⟩=some (.slice (some ⟨R,0,none⟩) gs[j].1.length gs[j].1.length)/\U.cell? ⟨wr.heap.size,1,none⟩=some (.slice va vn vc)):=ae (fun U hU =>
     ⟨(hU.cell (p:=⟨wr.heap.size,0,none⟩) (by show wr.heap.size<_;omega)).trans q0,(hU.cell (p:=⟨wr.heap.size,1,none⟩) (by show wr.heap.size<_;omega)).trans q1⟩)
    obtain⟨c0,c1,c2,d0,d1,d2,d3,d4,d5⟩:=HT.o _ fx.o;obtain⟨M,hM⟩:∃ M,pq fs gs[j].2 T=M:=⟨_,rfl⟩;rw[hM]at HMJ
    have HMC:jgf (∀ U,Below (wr.alloc (.cells #[.slice (some ⟨R,0,none⟩) gs[j].1.length gs[j].1.length,.slice va vn vc] 109)).heap.size (wr.alloc (.cells #[.slice (some ⟨R,0,none⟩) gs[j].1.length gs[j].1.length,.slice va vn vc] 109)) U->Calls Tryz.prog 66 #[.agg #[.int .u8 (op:Int),.int .u32 (f:Int),.int .u8 (k0:Int),.int .i64 k1,.string k2,.slice ka ks.length kc],.agg #[.int .u32 (id:Int),.slice fa fs.length fc],.slice va vn vc] U
      fun e w'=>e=.returned (.agg #[.bool M.1,.bool M.2.1,.bool M.2.2])/\Below (wr.alloc (.cells #[.slice (some ⟨R,0,none⟩) gs[j].1.length gs[j].1.length,.slice va vn vc] 109)).heap.size (wr.alloc (.cells #[.slice (some ⟨R,0,none⟩) gs[j].1.length gs[j].1.length,.slice va vn vc] 109)) w'):=ae (fun U hU=>by
     have hbU:=fx.o.trans (hU.mono fx.o.size);obtain⟨_,_,hg⟩:=HGC.o U hbU;refine(HMY.o U _ gs[j].2 hbU hg.stats (cP.o j aB)).mono ?_;rintro e w' ⟨rfl,hb⟩;rw[hM];exact⟨rfl,ai hU hb⟩)
    clear hM hgro jc0 hbA AQ zl q0 q1 ca cb HO;obtain⟨ca,cb,_⟩:=HGC.o wr HB.o;go_upto_region 8 with fail
    generalize hWA:wr.alloc (.cells #[.slice (some ⟨R,0,none⟩) gs[j].1.length gs[j].1.length,.slice va vn vc] 109)=WA at *;obtain⟨e0,e1⟩:=HQ.o WA (jej _ _);have hix:∀ w,(Instr.index 123 (.agg #[.bool M.1,.bool M.2.1,.bool M.2.2]) (.int .u8 2)).run Tryz.prog w=.ok (.bool M.2.2) w:=jbN _ _ _;go_cut [34] from 46 (fun v wx=>v=.bool M.2.2/\Below WA.heap.size WA wx)
    case first =>
     refine wp_region_noPanic ?_
     go_region_law (first
      | (go_simp;go_at_call 66;refine(HMC.o _ ?_).mono ?_;exact ar (jej WA.heap.size WA) _;rintro e w5 ⟨rfl,bD⟩;have aQ:=ae bD;clear bD;dsimp only)
      | fail)
     all_goals refine NoPanic.normal ?_
     all_goals go_wp2_with fail
     all_goals go_meet
     all_goals exact⟨rfl,aQ.o⟩
    case rest =>
    obtain⟨rfl,tY⟩:=hcut;obtain⟨w5,Xa⟩:∃ w5,w5=wc:=⟨_,rfl⟩;subst Xa;have aQ:=ae tY;have QV:=ae (fx.o.trans (tY.mono fx.o.size));have df:=ae (nE.o.kept tY);obtain⟨f0,f1⟩:=HQ.o w5 tY;have tU:=tY.size;clear tY hix e0 e1 ca cb c0 c1 c2 d0 d1 d2 d3 d4 d5 HMC nE;obtain⟨m1,m2,m3⟩:=M;simp only at *;have Gq:=QV.o.size;cases m3 with
    | false =>
     have jc1:jgf (jU fs T (gs.take (j+1))=jU fs T (gs.take j)):=ae (by rw[HRJ.o,HMJ.o];simp);have Zu:jgf (iX fs T (gs.take (j+1))=iX fs T (gs.take j)):=ae (by rw[HNJ.o,HMJ.o];simp);go_wp2_with fail;go_roundw
     case rel=>exact⟨j+1,l,by omega,by go_num,by rw[Zu.o],df.o,by rw[jc1.o,pV.o],QV.o⟩
     case measure=>simp[intOf];omega
    | true =>
     have jc1:jgf (jU fs T (gs.take (j+1))=jU fs T (gs.take j)++mZ fs T gs[j].1):=ae (by rw[HRJ.o,HMJ.o];simp);have Zu:jgf (iX fs T (gs.take (j+1))=iX fs T (gs.take j)+1):=ae (by rw[HNJ.o,HMJ.o];simp);have hnl:iX fs T (gs.take j)<=100000:=by have h1:=HNJ2.o;have h2:=Zu.o;omega
     obtain⟨cn,AM⟩:∃ cn,iX fs T (gs.take j)=cn:=⟨_,rfl⟩;have kf:=ae AM;rw[AM]at hnl ⊢;clear AM;obtain⟨_,_,hg5⟩:=HGC.o w5 QV.o;have CX:=ae (GL.o w5 _ _ j aB QV.o hg5);obtain⟨_,_,_,d0,d1,d2,d3,d4,d5⟩:=HT.o w5 QV.o;have HHL2:=ae (HHL.o gs[j].1)
     have HGL:jgf (gs[j].1.length<=1000):=ae (by
      have h5:=mw aB;have h6:=fB gs (j+1);have h7:=QU.o;rw[h5,jem]at h6;omega)
     clear hg5;go_wp2_with fail;refine CX.o.mono ?_;rintro e w6 ⟨⟨v6,l6,rfl,AU,Wf⟩,dW⟩;have my:=ae (df.o.kept dW);have HV6:=ae AU;have HSN6:=ae Wf;have gW:=ae (QV.o.trans (dW.mono Gq));have hz7:=dW.size;obtain⟨va6,vc6,rfl,_,_⟩:=be AU.1;clear dW AU Wf CX df;go_wp2_with (first | (at_builtin;refine gO rfl _ _ rfl A.heap.size _ _ l l6 rfl my.o rfl HV6.o.sv ?c1 ?c2 ?c3 ?_))
     case c1=>exact fun x hx=>(HV6.o.2 x hx).of_le Gq
     case c2 =>
      have h1:=jep List.length HSN6.o;have h2:=HHL2.o;have h3:=HGL.o;rw[jen]at h1;omega
     case c3=>omega
     intro v' w7 o7 b7;have iI:=ae o7;have ir:=ae (gW.o.trans b7);clear o7 b7;go_wp2_with fail;go_roundw
     case rel=>exact⟨j+1,_,by omega,by go_num,by rw[Zu.o,kf.o];go_num,iI.o,by rw[jc1.o,jeE,pV.o,HSN6.o],ir.o⟩
     case measure=>simp[intOf];omega
   ·obtain rfl:j=gs.length:=by omega
    have gi:¬ ((gs.length:Nat):Int)<(gs.length:Int):=(by omega);have yn:w.heap.size<=A.heap.size:=by have:=HZ1.o;omega
    have Gy:jgf (l.map Prod.snd=RR):=ae (by rw[pV.o,HRA.o,YO.o]);have GA:jgf (iX fs T (gs.take gs.length)=N):=ae (by rw[MH.o,Rg.o]);rw[GA.o];go_wp2_with fail;go_ret2
    first | exact⟨⟨_,_,rfl,HO.o.low yn,Gy.o⟩,ai nH.o HB.o⟩ | exact⟨⟨_,rfl,_,HO.o.low yn,Gy.o⟩,ai nH.o HB.o⟩
 ·have hkz:(k != 0)=true:=by simp[qB]
  rw[hkz];obtain⟨hNe,hRe⟩:=La.o qB;have YO:=ae hRe;have yn:w.heap.size<=A.heap.size:=by have:=HZ1.o;omega
  subst hNe;clear hRe;go_wp2_with fail;go_ret2
  first | exact⟨⟨_,[],rfl,Ow.nil _ _,YO.o.symm⟩,ai nH.o aP.o⟩ | exact⟨⟨_,rfl,[],Ow.nil _ _,YO.o.symm⟩,ai nH.o aP.o⟩
theorem ex.low'{W:World}{B B':Nat}{v:Value}{l:Row}(h:ex W B v l)(hB:B'<=B):ex W B' v l:=tI h hB
def Oc(W:World)(B:Nat)(v:Value)(l:List (Value×Row)):Prop:=W.ownsRow B 58 1 v l.length (l.map Prod.fst)/\∀ x∈l,ex W B x.1 x.2
theorem Oc.nil(W:World)(B:Nat):Oc W B (.slice none 0 0) []:=⟨jfb _ _ _ _,fun x hx=>by simp at hx⟩
theorem Oc.kept{W W':World}{B:Nat}{v:Value}{l:List (Value×Row)}(h:Oc W B v l)(hb:Below W.heap.size W W'):Oc W' B v l:=⟨bJ h.1 hb,fun x hx=>(h.2 x hx).kept hb⟩
theorem Oc.form{W:World}{B:Nat}{v:Value}{l:List (Value×Row)}(h:Oc W B v l):∃ a cap,v=.slice a l.length cap/\l.length<=cap/\cap<=maxLen/\(a=none->cap=0):=by
 rcases h.1 with ⟨h0,⟨h1,h2⟩ | ⟨g,cap,cur,h1,h2,h3,h4,h5,_⟩⟩
 ·exact⟨none,0,by rw[h1,h2],by omega,by unfold maxLen;omega,fun _=>rfl⟩
 ·exact⟨_,cap,h1,h4,h5,fun e=>by cases e⟩
theorem Oc.at{W:World}{B:Nat}{a:Option Addr}{n cap:Nat}{l:List (Value×Row)}(h:Oc W B (.slice a n cap) l){k:Nat}(hk:k<l.length) :
  ∃ g,a=some ⟨g,0,none⟩/\g<W.heap.size/\W.cell? ⟨g,k,none⟩=some l[k].1/\ex W B l[k].1 l[k].2:=by
 rcases h with ⟨⟨h0,⟨h1,h2⟩ | ⟨g,cap',cur,h1,h2,h3,h4,h5,h6,h7⟩⟩,hr⟩
 ·omega
 ·simp only[Value.slice.injEq]at h1
  obtain⟨rfl,rfl,rfl⟩:=h1;refine⟨g,rfl,(Array.getElem?_eq_some_iff.1 h3).1,?_,(hr _ (jeo hk))⟩;have hj:(l.map Prod.fst)[k]?=some l[k].1:=by simp[hk]
  simp only[World.cell?,h3];rw[← h7]at hj;have aB:=(List.getElem?_eq_some_iff.1 hj).1;rw[jeq]at aB;rw[List.getElem?_take_of_lt (by omega)]at hj;simpa using hj
theorem Oc.sr{W:World}{B:Nat}{v:Value}{l:List (Value×Row)}(h:Oc W B v l):Sr W v (l.map Prod.snd):=by
 obtain⟨a,cap,rfl,h1,h2,h3⟩:=h.form;refine⟨a,cap,by rw[jen],by rw[jen];exact h1,h2,fun h0=>?_⟩;rw[jen]at h0;obtain⟨g,e,h4,_⟩:=h.at h0;refine⟨g,0,e,h4,fun j hj=>?_⟩;rw[jen]at hj;obtain⟨g',e',h5,h6,h7⟩:=h.at hj;obtain rfl:g=g':=by rw[e]at e';cases e';rfl
 refine⟨_,by rw[jeO];exact h6,?_⟩;have:=h7.sc;simpa using this
theorem CA{w:World}(ty:TypeId)(base:Nat)(v vx:Value)(l0 l:List (Value×Row))(aA:Oc w base v l0)(eN:Sv w vx (l.map Prod.fst))(hr:∀ x∈l,ex w base x.1 x.2)(hbytes:l0.length+l.length<=1000000)(aI:base<=w.heap.size) :
  ∃ v' w',(Builtin.append_ #[26,26] ty #[v,vx]).run Tryz.prog w=.ok v' w'/\Oc w' base v' (l0++l)/\Below base w w':=by
 obtain⟨i0,hi,ch,hz1',bv⟩:=jeD UB;obtain⟨ad,cap,rfl,h1,h2,h3,h4⟩:=eN;rw[jen]at *
 have one:∀ x∈l.map Prod.fst,x.oneCell'=true:=fun x hx=>by
  obtain⟨y,hy,rfl⟩:=jeF.1 hx;obtain⟨a,n,c,e⟩:=eA (hr y hy);rw[e];rfl
 cases ad with
 | none =>
  have hc:=h3 rfl;subst hc;have hl:l=[]:=jeI (by omega);subst hl;have hr:=jfI (P:=Tryz.prog) (w:=w) base 26 ty 58 i0 1 Tryz.underlying26 hi v l0.length (l0.map Prod.fst) aA.1;refine⟨v,w,hr,by rw[jeG];exact aA,jej _ _⟩
 | some ad =>
  obtain⟨v',w',zu,o1,g1,_,e1⟩:=run_append_own_at (P:=Tryz.prog) w base 26 ty 58 i0 (.slice none 0 0) 1 24 Tryz.underlying26 hi ch hz1' bv rfl (by decide) v l0.length (l0.map Prod.fst) aA.1 ad l.length cap (l.map Prod.fst) (by rw[jen];omega)
   (fun j u hu=>by
    have hj:j<l.length:=by
     have:=(List.getElem?_eq_some_iff.1 hu).1;rwa[jen]at this
    obtain⟨b,off,h5,_,h6⟩:=h4 (by omega);cases h5
    rw[lR];exact h6 j u hu) one (by unfold maxLen;omega) (by omega) aI
  have keep:∀ y:Value×Row,ex w base y.1 y.2->ex w' base y.1 y.2:=fun y hy =>
   bX hy fun k hk=>g1.block k (aM hy hk).2.1 (fun e=>eV hy aA.1 (by decide) hk e.symm)
  refine⟨v',w',zu,⟨?_,fun y hy=>?_⟩,(jej base w).grown g1 aI (fun k hk=>(aA.1.lt k hk).1)⟩
  ·rw[jem,jeE]
   exact o1
  ·rcases jeN.1 hy with hy | hy
   ·exact keep y (aA.2 y hy)
   ·exact keep y (hr y hy)
theorem uL{w:World}{o:Oper}{a:Act}{K:Act->World->Prop}{Q:Exit->Act->World->Prop}(s x:Operand)
  (ho:o.op=.call { callee:=.builtin .append,args:=#[s,x],argTypes:=#[26,26] })
  (base:Nat) (v vx:Value) (l0 l:List (Value×Row)) (hs:a.eval s=v) (aA:Oc w base v l0) (hx:a.eval x=vx) (eN:Sv w vx (l.map Prod.fst)) (hr:∀ x∈l,ex w base x.1 x.2) (hbytes:l0.length+l.length<=1000000) (aI:base<=w.heap.size)
  (h:∀ v' w',Oc w' base v' (l0++l)->Below base w w'->K (a.put o.dst v') w'):Oper.wp Tryz.prog o a w K Q:=by
 obtain⟨v',w',hr,h2,h3⟩:=CA o.type base v vx l0 l aA eN hr hbytes aI;unfold Oper.wp execOp;simp only[ho,resolve,invoke,builtin,Sem.run_bind,Sem.run_pure,Result.andThen_ok,jfs,jeT,je8,hs,hx,hr];exact h v' w' h2 h3
theorem zb{w:World}{ops:Array Oper}{o:Oper}{a:Act}{K:Act->World->Prop}{Q:Exit->Act->World->Prop}{E:Prop}(dY:o.guard=none)(s x:Operand)
  (ho:o.op=.call { callee:=.builtin .append,args:=#[s,x],argTypes:=#[26,26] })
  (base:Nat) (v vx:Value) (l0 l:List (Value×Row)) (hs:a.eval s=v) (aA:Oc w base v l0) (hx:a.eval x=vx) (eN:Sv w vx (l.map Prod.fst)) (hr:∀ x∈l,ex w base x.1 x.2) (hbytes:l0.length+l.length<=1000000) (aI:base<=w.heap.size)
  (h:∀ v' w',Oc w' base v' (l0++l)->Below base w w'->K (a.put o.dst v') w') :
  if Region.wanted o (yielded ops a.tmps)=true then Oper.wp Tryz.prog o a w K Q else E:=by
 have hw:Region.wanted o (yielded ops a.tmps)=true:=by simp[Region.wanted,dY]
 rw[jei hw];exact uL s x ho base v vx l0 l hs aA hx eN hr hbytes aI h
theorem vE{w:World}{ops:Array Oper}{rest:List Oper}{o:Oper}{a:Act}{Q:Exit->Act->World->Prop}(dY:o.guard=none)(s x:Operand)
  (ho:o.op=.call { callee:=.builtin .append,args:=#[s,x],argTypes:=#[26,26] })
  (base:Nat) (v vx:Value) (l0 l:List (Value×Row)) (hs:a.eval s=v) (aA:Oc w base v l0) (hx:a.eval x=vx) (eN:Sv w vx (l.map Prod.fst)) (hr:∀ x∈l,ex w base x.1 x.2) (hbytes:l0.length+l.length<=1000000) (aI:base<=w.heap.size)
  (h:∀ v' w',Oc w' base v' (l0++l)->Below base w w'->wpList Tryz.prog ops Q rest (a.put o.dst v') w') :
  wpList Tryz.prog ops Q (o::rest) a w :=
 wpList_plain dY fun K hK=>uL s x ho base v vx l0 l hs aA hx eN hr hbytes aI fun v' w' h1 h2=>hK _ _ (h v' w' h1 h2)
theorem YD{r:Row}(h:∀ c∈r,aT c):r.map bq=r:=by
 conv=>rhs;rw[← jfj r]
 exact jff fun c hc=>MS (h c hc)
theorem Qb{w:World}{v:Value}{rs:List Row}(hs:Sr w v rs)(hf:∀ r∈rs,∀ c∈r,aT c)(hl:rs.length<=1000)(kW:∀ r∈rs,r.length<=600) :
  Calls Tryz.prog 13 #[v] w fun e w'=>(∃ v' l,e=.returned v'/\Ow w' w.heap.size v' l/\l.map Prod.snd=rs)/\Below w.heap.size w w':=by
 have HS:=ae hs;have HF:=ae hf;have HLL:=ae kW;obtain⟨a,cap,rfl,aW,bC⟩:=hs.form;have hcm':cap<=9223372036854775807:=by unfold maxLen at bC;omega
 clear hs bC hf kW;go_enter Tryz.func13,Tryz.ntmps13
 go_wp2_with fail;go_loopw [3,4] (fun o i wr=>∃(j:Nat) (l:List (Value×Row)),j<=rs.length/\i=.int .i64 (j:Int)/\Ow wr w.heap.size o l/\l.map Prod.snd=rs.take j/\Below w.heap.size w wr) (fun _ i _=>rs.length-(intOf i).toNat)
 case atStart=>exact⟨0,[],by omega,rfl,Ow.nil _ _,rfl,jej _ _⟩
 case round =>
  obtain⟨j,l,hj,rfl,how,sR,az⟩:=hrel;have HO:=ae how;have HB:=ae az;have pV:=ae sR;have bH:=az.size;have kW:l.length=j:=by have:=jep List.length sR;rw[jen,jeq]at this;omega
  clear how az sR;by_cases aB:j<rs.length
  ·obtain⟨g,off,rv,rfl,hg,bn,yB⟩:=(HS.o.kept HB.o).at aB
   have hlt':(j:Int)<(rs.length:Int):=(by omega);have lz:jgf (rs.take (j+1)=rs.take j++[rs[j]]):=ae (jeA aB);have GP:=ae (RG yB (fun c hc=>(HF.o _ (jeo aB) c hc).okc) (HLL.o _ (jeo aB)));rw[YD (HF.o _ (jeo aB))]at GP;generalize rs[j]=r at *;obtain⟨ra,rc,rfl,_,_⟩:=yB.form;have HLJ:=ae kW;clear yB kW;go_wp2_with fail;refine GP.o.mono ?_;rintro e w1 ⟨⟨rv',rfl,ei⟩,aH⟩;have eO:=ae ei;have jc3:=ae (HO.o.kept aH);have aP:=ae (HB.o.trans (aH.mono bH));have cK:=aH.size;obtain⟨ra',rc',rfl,_,_⟩:=be ei;have kf:=ae (aK w1 (.slice ra' r.length rc') 79);clear aH ei;go_wp2_with (first | (at_builtin;refine gO rfl _ _ rfl w.heap.size _ _ l [(.slice ra' r.length rc',r)] rfl (jc3.o.kept (ak _ _)) rfl (pn kf.o (by rw[jel];omega)) ?c1 ?c2 ?c3 ?_))
   case c1 =>
    intro x hx;rw[jeX.1 hx];exact(eO.o.kept (ak _ _)).of_le bH
   case c2=>have:=HLJ.o;simp only[jeS];omega
   case c3=>rw[jel];omega
   intro v' w5 o5 b5;have df:=ae o5;have aQ:=ae ((aP.o.alloc (jet bH cK) _).trans b5);clear o5 b5;go_wp2_with fail;go_roundw
   case rel=>exact⟨j+1,_,by omega,by go_num,df.o,by rw[lz.o,jeE,pV.o];rfl,aQ.o⟩
   case measure=>simp[intOf];omega
  ·obtain rfl:j=rs.length:=by omega
   rw[jes]at pV;have gi:¬ ((rs.length:Nat):Int)<(rs.length:Int):=(by omega);go_wp2_with fail;go_ret
   first | exact⟨⟨_,_,rfl,HO.o,pV.o⟩,HB.o⟩ | exact⟨⟨_,rfl,_,HO.o,pV.o⟩,HB.o⟩
theorem UT{w:World}{v:Value}{rs:List Row}(hs:Rv w v rs)(hf:∀ r∈rs,∀ c∈r,aT c)(hl:rs.length<=1000)(kW:∀ r∈rs,r.length<=600) :
  Calls Tryz.prog 34 #[v] w fun e w'=>(∃ v' l,e=.returned v'/\Oc w' w.heap.size v' l/\l.map Prod.snd=rs)/\Below w.heap.size w w':=by
 have HS:=ae hs;have HF:=ae hf;have HLL:=ae kW;obtain⟨a,cap,rfl,aW,hcm',_⟩:=hs.form;clear hs hf kW;go_enter Tryz.func34,Tryz.ntmps34
 go_wp2_with fail;go_loopw [3,4] (fun o i wr=>∃(j:Nat) (l:List (Value×Row)),j<=rs.length/\i=.int .i64 (j:Int)/\Oc wr w.heap.size o l/\l.map Prod.snd=rs.take j/\Below w.heap.size w wr) (fun _ i _=>rs.length-(intOf i).toNat)
 case atStart=>exact⟨0,[],by omega,rfl,Oc.nil _ _,rfl,jej _ _⟩
 case round =>
  obtain⟨j,l,hj,rfl,how,sR,az⟩:=hrel;have HO:=ae how;have HB:=ae az;have pV:=ae sR;have bH:=az.size;have kW:l.length=j:=by have:=jep List.length sR;rw[jen,jeq]at this;omega
  clear how az sR;by_cases aB:j<rs.length
  ·obtain⟨g,off,rv,rfl,hg,bn,yB⟩:=(HS.o.kept HB.o).at aB
   have hlt':(j:Int)<(rs.length:Int):=(by omega);have lz:jgf (rs.take (j+1)=rs.take j++[rs[j]]):=ae (jeA aB);have GP:=ae (Aj yB (HF.o _ (jeo aB)) (HLL.o _ (jeo aB)));generalize rs[j]=r at *;obtain⟨ra,rc,rfl,_,_⟩:=yB.form1;rw[aG]at *;have HLJ:=ae kW;clear yB kW;go_wp2_with fail;refine GP.o.mono ?_;rintro e w1 ⟨⟨rv',rfl,ei⟩,aH⟩;have eO:=ae ei;have jc3:=ae (HO.o.kept aH);have aP:=ae (HB.o.trans (aH.mono bH));have cK:=aH.size;obtain⟨ra',rc',rfl,_,_⟩:=be ei;have kf:=ae (aK w1 (.slice ra' r.length rc') 58);clear aH ei;go_wp2_with (first | (at_builtin;refine vE rfl _ _ rfl w.heap.size _ _ l [(.slice ra' r.length rc',r)] rfl (jc3.o.kept (ak _ _)) rfl (pn kf.o (by rw[jel];omega)) ?c1 ?c2 ?c3 ?_))
   case c1 =>
    intro x hx;rw[jeX.1 hx];exact(eO.o.kept (ak _ _)).low' bH
   case c2=>have:=HLJ.o;simp only[jeS];omega
   case c3=>rw[jel];omega
   intro v' w5 o5 b5;have df:=ae o5;have aQ:=ae ((aP.o.alloc (jet bH cK) _).trans b5);clear o5 b5;go_wp2_with fail;go_roundw
   case rel=>exact⟨j+1,_,by omega,by go_num,df.o,by rw[lz.o,jeE,pV.o];rfl,aQ.o⟩
   case measure=>simp[intOf];omega
  ·obtain rfl:j=rs.length:=by omega
   rw[jes]at pV;have gi:¬ ((rs.length:Nat):Int)<(rs.length:Int):=(by omega);go_wp2_with fail;go_ret
   first | exact⟨⟨_,_,rfl,HO.o,pV.o⟩,HB.o⟩ | exact⟨⟨_,rfl,_,HO.o,pV.o⟩,HB.o⟩
theorem aT.bsA{c:Cl}(h:aT c):Bs c.2.2:=h.okc.2.2
theorem Sc.take{W:World}{a:Option Addr}{n cap:Nat}{l:Row}(h:Sc W (.slice a n cap) l){k:Nat}(hk:k<=l.length):Sc W (.slice a k cap) (l.take k):=by
 obtain⟨a',cap',e,h1,h2,h4⟩:=h;simp only[Value.slice.injEq]at e;obtain⟨rfl,_,rfl⟩:=e;have hl:(l.take k).length=k:=by rw[jeq];omega
 refine⟨a,cap,by rw[hl],by omega,h2,fun h0=>?_⟩;obtain⟨b,off,h5,h6,h7⟩:=h4 (by omega);refine⟨b,off,h5,h6,fun j x hx=>h7 j x ?_⟩;have e:gA l=gA (l.take k)++gA (l.drop k):=by rw[← qR,jfF]
 have hj:=(List.getElem?_eq_some_iff.1 hx).1;rw[e,List.getElem?_append_left hj];exact hx
def UU(l:List (Value×Row)):Prop:=l.length<=300/\∀ x∈l,x.2.length<=20/\∀ c∈x.2,aT c
theorem FX{w:World}{v:Value}{rs:List Row}(hs:Sr w v rs)(ho:∀ r∈rs,∀ c∈r,Okc c) :
  Calls Tryz.prog 11 #[v] w fun e w'=>(∃ v' l,e=.returned v'/\Oc w' w.heap.size v' l/\UU l)/\Below w.heap.size w w':=by
 have HS:=ae hs;have HO:=ae ho;obtain⟨a,cap,rfl,aW,bC⟩:=hs.form;have hcm':cap<=9223372036854775807:=by unfold maxLen at bC;omega
 clear hs bC ho;go_enter Tryz.func11,Tryz.ntmps11
 go_wp2_with fail;go_loopw [3,4] (fun o i wr=>∃(j:Nat) (l:List (Value×Row)),j<=rs.length/\j<=300/\i=.int .i64 (j:Int)/\Oc wr w.heap.size o l/\l.length=j/\UU l/\Below w.heap.size w wr) (fun _ i _=>rs.length-(intOf i).toNat)
 case atStart=>exact⟨0,[],by omega,by omega,rfl,Oc.nil _ _,rfl,⟨by simp,fun x hx=>by simp at hx⟩,jej _ _⟩
 case round =>
  obtain⟨j,l,hj,hj3,rfl,how,kW,hf10,az⟩:=hrel;have wo:=ae how;have HB:=ae az;have AX:=ae hf10;have HLJ:=ae kW;have bH:=az.size;obtain⟨la,lc,rfl,Rf,AO,_⟩:=how.form;clear how az hf10 kW;by_cases aB:j<rs.length
  ·have hlt':(j:Int)<(rs.length:Int):=by omega
   by_cases h3:j<300
   ·have h3':(j:Int)<300:=by omega
    obtain⟨g,off,rv,rfl,hg,bn,yB⟩:=(HS.o.kept HB.o).at aB;have ML:=ae (HO.o _ (jeo aB));generalize rs[j]=r at *;obtain⟨ra,rc,rfl,QM,Da⟩:=yB.form;have hrc2':rc<=9223372036854775807:=by unfold maxLen at Da;omega
    obtain⟨m,hm⟩:∃ m,min r.length 20=m:=⟨_,rfl⟩;have hml:m<=r.length:=(by omega);have hm20:m<=20:=(by omega);have QR:min (r.length:Int) 20=(m:Int):=(by omega);have hm0:(0:Int)<=(m:Int):=(by omega);have hmc:(m:Int)<=(rc:Int):=(by omega);have Rh:((m:Nat):Int).toNat=m:=(by omega);have gV:=yB.take hml
    have Rj:jgf (∀ U,Below wr.heap.size wr U->Calls Tryz.prog 38 #[.slice ra m rc] U fun e w'=>∃ ra' rc',e=.returned (.slice ra' m rc')/\ex w' wr.heap.size (.slice ra' m rc') ((r.take m).map bq)/\Below wr.heap.size wr w'/\Oc w' w.heap.size (.slice la l.length lc) l/\Below w.heap.size w w'/\∀ o,(w'.alloc o).heap.size=w'.heap.size+1):=ae (fun U hU=>by
     refine(Hc (gV.kept hU) (by rw[jeq];omega)).mono ?_;rintro e w' ⟨⟨v',rfl,ho'⟩,hb'⟩;have aE:=ai hU hb';have bR:((r.take m).map bq).length=m:=by rw[jen,jeq];omega
     obtain⟨ra',rc',rfl,_,_⟩:=be ho';rw[bR];have ft:=ex.low' ho' hU.size;rw[bR]at ft;exact⟨ra',rc',rfl,ft,aE,wo.o.kept aE,HB.o.trans (aE.mono bH),fun o=>jel _ _⟩)
    have np:jgf (((r.take m).map bq).length<=20/\∀ c∈(r.take m).map bq,aT c):=ae ⟨by rw[jen,jeq];omega,fun c hc=>by
     obtain⟨x,hx,rfl⟩:=jeF.1 hc;exact fZ (ML.o x (je2 hx))⟩
    generalize (r.take m).map bq=r2 at *;clear yB gV hm;go_upto_region 5 with fail
    refine wp_region_noPanic ?_
    go_region_law (first
     | (refine zb (by rfl) _ _ (by rfl) w.heap.size _ _ l [(.slice ra' m rc',r2)] (by rfl) ?_ (by rfl) ?_ ?_ ?_ ?_ ?_;exact df.o.kept (ak _ _);exact pn (aK _ _ _) (by rw[jel];omega);(intro x hx;rw[jeX.1 hx];exact(sG.o.kept (ak _ _)).low' bH);(have:=HLJ.o;simp only[jeS];omega);(rw[jel];have:=aQ.o.size;omega);intro v6 w6 o6 b6;have my:=ae o6;have gW:=ae ((aQ.o.alloc aQ.o.size _).trans b6);clear o6 b6;dsimp only)
     | (go_simp;go_at_call 38;refine(Rj.o _ ?_).mono ?_;exact ar (jej wr.heap.size wr) _;rintro e w5 ⟨ra',rc',rfl,fD,bD,hl5,Xa,tU⟩;have sG:=ae fD;have aQ:=ae Xa;have df:=ae hl5;clear fD bD hl5 Xa;dsimp only)
     | fail)
    all_goals refine NoPanic.normal ?_
    all_goals go_wp2_with fail
    all_goals go_roundw
    all_goals first
     | (simp[intOf];omega)
     | refine⟨j+1,_,by omega,by omega,by go_num,my.o,by rw[jem,HLJ.o];rfl,⟨by rw[jem,HLJ.o];simp only[jeS];omega,fun x hx=>?_⟩,gW.o⟩
    all_goals rcases jeN.1 hx with hx | hx
    all_goals first
     | exact AX.o.2 x hx
     | (rw[jeX.1 hx];exact np.o)
   ·have h3':¬ (j:Int)<300:=by omega
    go_wp2_with fail;go_ret
    first | exact⟨⟨_,_,rfl,wo.o,AX.o⟩,HB.o⟩ | exact⟨⟨_,rfl,_,wo.o,AX.o⟩,HB.o⟩
  ·have gi:¬ (j:Int)<(rs.length:Int):=by omega
   go_wp2_with fail;go_ret
   first | exact⟨⟨_,_,rfl,wo.o,AX.o⟩,HB.o⟩ | exact⟨⟨_,rfl,_,wo.o,AX.o⟩,HB.o⟩
end Go.Proofs.YtpljdjmpamjkhaaGreatDoor
