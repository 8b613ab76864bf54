import Derived.Test.YtpljdjmpamjkhaaGreatDoorQag
set_option linter.unusedVariables false
set_option linter.unusedSimpArgs false
set_option maxRecDepth 100000
set_option maxHeartbeats 4000000
namespace Go.Proofs.YtpljdjmpamjkhaaGreatDoor
open Go.RowKit Go.Lib
theorem cU{W:World}{p T:Nat}{c:Array Value}{fz:Nat×Nat}(h:W.heap[p]?=some (.cells c T fz))(i:Nat)(v:Value):(W.setCell ⟨p,i,none⟩ v).heap[p]?=some (.cells (c.setIfInBounds i v) T fz):=by
 rw[Sort.setCell_eq];simp[Sort.mapBlock,Array.getElem?_modify,h,Sort.onCells]
def StC(T:Nat)(W:World)(p:Nat)(b:List Nat)(f:Nat):Prop :=
 ∃ g off cap,W.heap[p]?=some (.cells #[.slice (some ⟨g,off,none⟩) b.length cap,.int .i64 (f:Int)] T (0,0))/\g<p/\b.length<=cap/\cap<=maxLen/\Bs b /\
  ∀ j (h:j<b.length),W.cell? ⟨g,off+j,none⟩=some (.int .u8 (b[j]:Int))
theorem StC.bs{T:Nat}{W:World}{p:Nat}{b:List Nat}{f:Nat}(h:StC T W p b f):Bs b:=by obtain⟨_,_,_,_,_,_,_,h,_⟩:=h;exact h
theorem StC.lt{T:Nat}{W:World}{p:Nat}{b:List Nat}{f:Nat}(h:StC T W p b f):p<W.heap.size:=by obtain⟨_,_,_,h,_⟩:=h;exact(Array.getElem?_eq_some_iff.1 h).1
theorem StC.kept{T:Nat}{W W':World}{p B:Nat}{b:List Nat}{f:Nat}(h:StC T W p b f)(hb:Below B W W')(hp:p<B):StC T W' p b f:=by
 obtain⟨g,off,cap,h1,h2,h3,h4,h5,h6⟩:=h;exact⟨g,off,cap,(hb.block p hp).trans h1,h2,h3,h4,h5,fun j hj=>(hb.cell (p:=⟨g,off+j,none⟩) (show g<B by omega)).trans (h6 j hj)⟩
theorem StC.cells{T:Nat}{W:World}{p:Nat}{b:List Nat}{f:Nat}(h:StC T W p b f) :
  ∃ g off cap,W.cell? ⟨p,0,none⟩=some (.slice (some ⟨g,off,none⟩) b.length cap)/\W.cell? ⟨p,1,none⟩=some (.int .i64 (f:Int))/\W.frozen? ⟨p,0,none⟩=false/\W.frozen? ⟨p,1,none⟩=false /\
   b.length<=cap/\cap<=9223372036854775807/\Sv W (.slice (some ⟨g,off,none⟩) b.length cap) (aF .u8 b)/\g<p /\
   (∀ f':Nat,StC T (W.setCell ⟨p,1,none⟩ (.int .i64 (f':Int))) p b f') /\
   (∀ k,k<=b.length->∃ A,(if cap=k then (some ⟨g,off,none⟩:Option Addr) else some ⟨g,off+k,none⟩)=A/\StC T (W.setCell ⟨p,0,none⟩ (.slice A (b.length-k) (cap-k))) p (b.drop k) f):=by
 have aB:=h.lt;obtain⟨g,off,cap,h1,h2,h3,h4,h5,h6⟩:=h
 have gX:Sv W (.slice (some ⟨g,off,none⟩) b.length cap) (aF .u8 b):=by
  refine⟨_,cap,by rw[ap],by rw[ap];omega,h4,fun e=>by(cases e),fun h0=>⟨g,off,rfl,by omega,fun j x hj=>?_⟩⟩
  have hj':j<b.length:=by
   have:=(List.getElem?_eq_some_iff.1 hj).1;rwa[ap]at this
  rw[bU hj']at hj;rw[h6 j hj'];exact hj
 refine⟨g,off,cap,by rw[ay h1];rfl,by rw[ay h1];rfl,by simp[World.frozen?,h1],by simp[World.frozen?,h1],h3,by unfold maxLen at h4;omega,gX,h2,fun f'=>?_,fun k hk=>?_⟩
 ·refine⟨g,off,cap,by rw[cU h1];rfl,h2,h3,h4,h5,fun j hj=>?_⟩
  rw[World.cell?_of_block (w:=W) (Below.heap_setCell _ _ _ _ (show g≠p by omega))];exact h6 j hj
 ·obtain⟨A,hA,hSA⟩:=BN gX (k:=k) (by rw[ap];exact hk)
  refine⟨A,hA,?_⟩;have hl:(b.drop k).length=b.length-k:=jeR;have zj:Bs (b.drop k):=fun x hx=>h5 x (jfS hx)
  by_cases dN:cap=k
  ·rw[jei dN]at hA
   subst hA;refine⟨g,off,cap-k,by rw[cU h1,hl];rfl,h2,by omega,by omega,zj,fun j hj=>by omega⟩
  ·rw[jeh dN]at hA
   subst hA;refine⟨g,off+k,cap-k,by rw[cU h1,hl];rfl,h2,by omega,by omega,zj,fun j hj=>?_⟩;rw[World.cell?_of_block (w:=W) (Below.heap_setCell _ _ _ _ (show g≠p by omega)),jfr,h6 (k+j) (by omega)];simp
theorem dv{w:World}{p f:Nat}{b:List Nat}(h:StC 333 w p b f)(e:Nat) :
  Calls Tryz.prog 310 #[.pointer (some ⟨p,0,none⟩),.int .i64 (e:Int)] w fun r w'=>r=.returned (.tuple #[])/\StC 333 w' p b (orf f e)/\Fr p w.heap.size w w':=by
 have HS:=ae h;obtain⟨g,off,cap,h0,h1,h2,h3,h4,h5,h6,h7,h8,h9⟩:=h.cells;have H8:=ae (h8 e);have HF:=ae ((Fr.refl p w.heap.size w).set 1 (.int .i64 (e:Int)));clear h h6 h8 h9;by_cases hf:((f:Int)==0)=true
 ·have hf':f=0:=by simpa using hf
  have HO:jgf (orf f e=e):=by show _=_;unfold orf;rw[jei hf']
  clear hf';go_enter Tryz.func310,Tryz.ntmps310
  go_wp2_with fail;go_end0
  rw[HO.o];exact⟨rfl,H8.o,HF.o⟩
 ·have hff:((f:Int)==0)=false:=by simpa using hf
  have HO:jgf (orf f e=f):=by show _=_;unfold orf;rw[jeh (fun e=>hf (by simp[e]))]
  clear hf;go_enter Tryz.func310,Tryz.ntmps310
  go_wp2_with fail;go_end0
  rw[HO.o];exact⟨rfl,HS.o,Fr.refl _ _ _⟩
theorem LY{w:World}{p f:Nat}{b:List Nat}(h:StC 333 w p b f) :
  Calls Tryz.prog 308 #[.pointer (some ⟨p,0,none⟩)] w fun r w'=>r=.returned (.tuple #[])/\StC 333 w' p b (orf f (if b.length=0 then 0 else 32))/\Fr p w.heap.size w w':=by
 have HS:=ae h;obtain⟨g,off,cap,h0,h1,h2,h3,h4,h5,h6,h7,h8,h9⟩:=h.cells;have HR:=ae (dv h 32);clear h h6 h8 h9;by_cases hp:(b.length:Int) > 0
 ·rw[jeh (by omega)]
  go_enter Tryz.func308,Tryz.ntmps308
  go_wp2_with fail;refine HR.o.mono ?_;rintro e w1 ⟨rfl,eg,dh⟩;have ja:=ae eg;clear eg;go_wp2_with fail;go_end0
  exact⟨rfl,ja.o,dh⟩
 ·have dL:b.length=0:=by omega
  rw[jei dL];have HO:jgf (orf f 0=f):=by show _=_;unfold orf;split<;>simp_all
  clear dL;go_enter Tryz.func308,Tryz.ntmps308
  go_wp2_with fail;go_end0
  rw[HO.o];exact⟨rfl,HS.o,Fr.refl _ _ _⟩
theorem NI{w:World}{a:Option Addr}{n cap:Nat}{b:List Nat}(hb:Bs b)(h:Sv w (.slice a n cap) (aF .u8 b)) :
  Calls Tryz.prog 324 #[.slice a n cap] w fun e w'=>e=kX .i64 (fL (gt b).1) (gt b).2.1 (gt b).2.2/\w'=w:=Hz (h.sl hb)
theorem mg{w:World}{p f:Nat}{b:List Nat}(h:StC 333 w p b f) :
  Calls Tryz.prog 320 #[.pointer (some ⟨p,0,none⟩)] w fun r w'=>r=.returned (.int .i64 (fL (gt b).1))/\StC 333 w' p (b.drop (gt b).2.1) (orf f (gt b).2.2)/\Fr p w.heap.size w w':=by
 have HS:=ae h;have HB:=ae h.bs;obtain⟨g,off,cap,h0,h1,h2,h3,h4,h5,h6,h7,h8,h9⟩:=h.cells;obtain⟨g1,g2,g3,g4⟩:=gd b;have HG:=ae (NI HB.o h6);have HU:=ae (kl g1);clear h h6 h8 h9 g4;generalize gt b=x at *;obtain⟨n,u,c⟩:=x;simp only at *;unfold kX at HG;generalize fL n=z at *;go_enter Tryz.func320,Tryz.ntmps320
 go_wp2_with fail;refine HG.o.mono ?_;rintro e w1 ⟨rfl,rfl⟩;go_wp2_with fail;refine(dv HS.o c).mono ?_;rintro e w2 ⟨rfl,dR,dG⟩;obtain⟨G,Off,Cap,k0,k1,k2,k3,k4,k5,k6,k7,k8,k9⟩:=dR.cells;obtain⟨A,hA,hSA⟩:=k9 u g2;have lN:=ae hSA;have gP:=ae (dG.set 0 (.slice A (b.length-u) (Cap-u)));clear dR dG k8 k9 k6 hSA h0 h1 h2 h3;go_wp2_with fail;go_ret
 exact⟨rfl,lN.o,gP.o⟩
def dw(lo hi v:Nat):Nat:=if v<lo∨hi<v then 0 else v
def eF(lo hi v f:Nat):Nat:=if v<lo∨hi<v then orf f 40 else f
theorem lp{w:World}{p f:Nat}{b:List Nat}(h:StC 333 w p b f)(lo hi:Nat)(hlo:lo<18446744073709551616)(KY:hi<18446744073709551616) :
  Calls Tryz.prog 321 #[.pointer (some ⟨p,0,none⟩),.int .u64 (lo:Int),.int .u64 (hi:Int)] w fun r w'=>r=.returned (.int .u64 (dw lo hi (gt b).1:Int))/\StC 333 w' p (b.drop (gt b).2.1) (eF lo hi (gt b).1 (orf f (gt b).2.2))/\Fr p w.heap.size w w':=by
 have HS:=ae h;have HB:=ae h.bs;obtain⟨g,off,cap,h0,h1,h2,h3,h4,h5,h6,h7,h8,h9⟩:=h.cells;obtain⟨g1,g2,g3,g4⟩:=gd b;have HG:=ae (BA HB.o h6);clear h h6 h8 h9 g4;generalize gt b=x at *;obtain⟨n,u,c⟩:=x;simp only at *;unfold kX at HG;by_cases hb:n<lo∨hi<n
 ·have HW:jgf (dw lo hi n=0/\eF lo hi n (orf f c)=orf (orf f c) 40):=⟨jei hb,jei hb⟩
  by_cases hl:(n:Int)<(lo:Int)
  ·clear hb
   go_enter Tryz.func321,Tryz.ntmps321
   go_wp2_with fail;refine HG.o.mono ?_;rintro e w1 ⟨rfl,rfl⟩;go_wp2_with fail;refine(dv HS.o c).mono ?_;rintro e w2 ⟨rfl,dR,dG⟩;obtain⟨G,Off,Cap,k0,k1,k2,k3,k4,k5,k6,k7,k8,k9⟩:=dR.cells;obtain⟨A,hA,hSA⟩:=k9 u g2;have lN:=ae hSA;have gP:=ae (dG.set 0 (.slice A (b.length-u) (Cap-u)));clear dR dG k8 k9 k6 hSA h0 h1 h2 h3;go_wp2_with fail;refine(dv lN.o 40).mono ?_;rintro e w3 ⟨rfl,lB,iJ⟩;have nF:=ae lB;have qE:=ae (gP.o.trans (iJ.mono gP.o.size));clear lB iJ;go_wp2_with fail;go_ret
   rw[HW.o.1,HW.o.2];exact⟨rfl,nF.o,qE.o⟩
  ·have hh:(n:Int) > (hi:Int):=by omega
   clear hb;go_enter Tryz.func321,Tryz.ntmps321
   go_wp2_with fail;refine HG.o.mono ?_;rintro e w1 ⟨rfl,rfl⟩;go_wp2_with fail;refine(dv HS.o c).mono ?_;rintro e w2 ⟨rfl,dR,dG⟩;obtain⟨G,Off,Cap,k0,k1,k2,k3,k4,k5,k6,k7,k8,k9⟩:=dR.cells;obtain⟨A,hA,hSA⟩:=k9 u g2;have lN:=ae hSA;have gP:=ae (dG.set 0 (.slice A (b.length-u) (Cap-u)));clear dR dG k8 k9 k6 hSA h0 h1 h2 h3;go_wp2_with fail;refine(dv lN.o 40).mono ?_;rintro e w3 ⟨rfl,lB,iJ⟩;have nF:=ae lB;have qE:=ae (gP.o.trans (iJ.mono gP.o.size));clear lB iJ;go_wp2_with fail;go_ret
   rw[HW.o.1,HW.o.2];exact⟨rfl,nF.o,qE.o⟩
 ·have HW:jgf (dw lo hi n=n/\eF lo hi n (orf f c)=orf f c):=⟨jeh hb,jeh hb⟩
  have hl:¬ (n:Int)<(lo:Int):=by omega
  have hh:¬ (n:Int) > (hi:Int):=by omega
  clear hb;go_enter Tryz.func321,Tryz.ntmps321
  go_wp2_with fail;refine HG.o.mono ?_;rintro e w1 ⟨rfl,rfl⟩;go_wp2_with fail;refine(dv HS.o c).mono ?_;rintro e w2 ⟨rfl,dR,dG⟩;obtain⟨G,Off,Cap,k0,k1,k2,k3,k4,k5,k6,k7,k8,k9⟩:=dR.cells;obtain⟨A,hA,hSA⟩:=k9 u g2;have lN:=ae hSA;have gP:=ae (dG.set 0 (.slice A (b.length-u) (Cap-u)));clear dR dG k8 k9 k6 hSA h0 h1 h2 h3;go_wp2_with fail;go_ret
  rw[HW.o.1,HW.o.2];exact⟨rfl,lN.o,gP.o⟩
def pkL(n w:Nat)(b:List Nat):List Nat:=if b.length<by8 (n*w) then [] else unR (b.take (by8 (n*w))) n w
def pkB(n w:Nat)(b:List Nat):List Nat:=if b.length<by8 (n*w) then b else b.drop (by8 (n*w))
def pkF(n w:Nat)(b:List Nat)(f:Nat):Nat :=
 if b.length<by8 (n*w) then orf f 30 else orf (orf f (if (b.drop (by8 (n*w))).length=0 then 0 else 32)) (unE (b.take (by8 (n*w))) n w)
theorem Ae(k:IntKind)(l:List Nat)(n:Nat):aF k (l.take n)=(aF k l).take n:=by simp[aF,jfJ]
theorem xm{w:World}{p f:Nat}{b:List Nat}(h:StC 333 w p b f)(n ww:Nat)(hn:n<=256)(Qu:ww<=64) :
  Calls Tryz.prog 323 #[.pointer (some ⟨p,0,none⟩),.int .i64 (n:Int),.int .i64 (ww:Int)] w fun r w'=>(∃ v,r=.returned v/\dJ w' w.heap.size v (pkL n ww b))/\StC 333 w' p (pkB n ww b) (pkF n ww b f)/\Fr p w.heap.size w w':=by
 have HS:=ae h;have HB:=ae h.bs;have aB:=h.lt;obtain⟨g,off,cap,h0,h1,h2,h3,h4,h5,h6,h7,h8,h9⟩:=h.cells;have hc:n*ww<=16384:=jet (jfT hn Qu) (by omega);have hmul:(n:Int)*(ww:Int)=((n*ww:Nat):Int):=by simp
 have hby2:(((n*ww:Nat):Int)+8-1) / 8=((by8 (n*ww):Nat):Int):=by unfold by8;omega
 have fK:by8 (n*ww)<=2048:=by unfold by8;omega
 have HL:jgf (pkL n ww b=if b.length<by8 (n*ww) then [] else unR (b.take (by8 (n*ww))) n ww):=rfl;have fX:jgf (pkB n ww b=if b.length<by8 (n*ww) then b else b.drop (by8 (n*ww))):=rfl;have Rc:jgf (pkF n ww b f=if b.length<by8 (n*ww) then orf f 30 else orf (orf f (if (b.drop (by8 (n*ww))).length=0 then 0 else 32)) (unE (b.take (by8 (n*ww))) n ww)):=rfl;have yk:=ae h6;clear h h6 h8 h9;generalize by8 (n*ww)=L at *;generalize n*ww=c at *;generalize pkL n ww b=RL at *;generalize pkB n ww b=RB at *;generalize pkF n ww b f=RF at *;by_cases hshort:(b.length:Int)<(L:Int)
 ·have hs':b.length<L:=by omega
  rw[jei hs']at HL fX Rc;clear hs';go_enter Tryz.func323,Tryz.ntmps323
  go_wp2_with fail;refine(dv HS.o 30).mono ?_;rintro e w1 ⟨rfl,eg,dh⟩;have ja:=ae eg;have gp:=ae dh;clear eg dh;go_wp2_with fail;go_ret
  rw[HL.o,fX.o,Rc.o];exact⟨⟨_,rfl,dJ.nil _ _⟩,ja.o,gp.o⟩
 ·have hs':¬ b.length<L:=by omega
  rw[jeh hs']at HL fX Rc;have sy:=ae (yk.o.take (k:=L) (by rw[ap];omega));rw[← Ae]at sy;have Qw:jgf (Bs (b.take L)):=fun x hx=>HB.o x (je2 hx)
  obtain⟨g',off',cap',k0,k1,k2,k3,k4,k5,k6,k7,k8,k9⟩:=HS.o.cells;rw[h0]at k0;cases k0
  obtain⟨A,hA,hSA⟩:=k9 L (by omega);have lN:=ae hSA;have gP:=ae ((Fr.refl p w.heap.size w).set 0 (.slice A (b.length-L) (cap-L)));clear hs' hSA k9 k8 k6 k1 k2 k3 k4 k5 k7;go_enter Tryz.func323,Tryz.ntmps323
  go_wp2_with fail;refine(LY lN.o).mono ?_;rintro e w3 ⟨rfl,lB,iJ⟩;have nF:=ae lB;have hFr3:=gP.o.trans (iJ.mono gP.o.size);have qE:=ae hFr3;have iN:=hFr3.size
  have HTK3:jgf (Sv w3 (.slice (some ⟨g,off,none⟩) L cap) (aF .u8 (b.take L))):=ae (by
   obtain⟨a',c',e1,e2,e3,e4,e5⟩:=sy.o;refine⟨a',c',e1,e2,e3,e4,fun hp=>?_⟩;obtain⟨G,O,f1,f2,f3⟩:=e5 hp;simp only[Value.slice.injEq]at e1;rw[← e1.1]at f1;cases f1
   refine⟨g,off,e1.1.symm,by omega,fun j x hj=>?_⟩;rw[World.cell?_of_block (w:=w) (hFr3.block g (by omega) (by omega))];exact f3 j x hj)
  clear lB iJ hFr3 h0 h1 h2 h3;go_wp2_with fail;refine(ui HTK3.o.sx Qw.o (n:Int) (ww:Int)).mono ?_;rintro e w4 ⟨v4,rfl,gQ,bG⟩;have eY:=ae gQ;have KR:=bG.size;have vM:=ae (nF.o.kept bG (by omega));have yy:=ae (qE.o.trans (Fr.of_below (bG.mono iN)));clear gQ bG;go_wp2_with fail;refine(dv vM.o _).mono ?_;rintro e w5 ⟨rfl,nG,iS⟩;have qF:=ae nG
  have df:jgf (dJ w5 w.heap.size v4 (unR (b.take L) n ww)):=ae (by
   have h1:dJ w4 w.heap.size v4 (unR (b.take L) n ww):=by
    obtain⟨q1,q2⟩:=eY.o;refine⟨q1,?_⟩;rcases q2 with q | ⟨a1,a2,a3,a4,a5,a6⟩
    ·exact Or.inl q
    ·exact Or.inr ⟨a1,a2,a3,a4,jet iN a5,a6⟩
   exact iS.own h1 aB)
  have yz:=ae (yy.o.trans (iS.mono (by omega)));clear nG iS;go_wp2_with fail;go_ret
  rw[HL.o,fX.o,Rc.o];exact⟨⟨_,rfl,df.o⟩,qF.o,yz.o⟩
def eo(D:Except Nat (List Int×List Nat))(K:List Nat->Except Nat (List Int×List Nat))(b:List Nat)(f:Nat):Prop:=(f=0->D=K b)/\(f≠0->D=.error f)
theorem eo.wh{D:Except Nat (List Int×List Nat)}{g:Int->List Nat->Except Nat (List Int×List Nat)}{b:List Nat}{f:Nat}(h:eo D (aC wh g) b f):eo D (g (fL (gt b).1)) (b.drop (gt b).2.1) (orf f (gt b).2.2):=by
 obtain⟨h1,h2⟩:=h;by_cases hf:f=0
 ·subst hf
  have h3:=h1 rfl;rw[fh];unfold aC Go.Proofs.YtpljdjmpamjkhaaGreatDoor.wh at h3;refine⟨fun e=>?_,fun e=>?_⟩
  ·rw[jei e]at h3
   exact h3
  ·rw[jeh e]at h3
   exact h3
 ·rw[eH hf]
  exact⟨fun e=>absurd e hf,h2⟩
theorem eo.num{D:Except Nat (List Int×List Nat)}{C:Nat->Prop}[DecidablePred C]{g:Nat->List Nat->Except Nat (List Int×List Nat)}{lo hi:Nat}{b:List Nat}{f:Nat}(hC:∀ v,C v↔(v<lo∨hi<v))
  (h:eo D (aC num (fun k=>if C k then (fun _=>.error 40) else g k)) b f):eo D (g (dw lo hi (gt b).1)) (b.drop (gt b).2.1) (eF lo hi (gt b).1 (orf f (gt b).2.2)):=by
 obtain⟨h1,h2⟩:=h;unfold dw eF;by_cases hf:f=0
 ·subst hf
  have h3:=h1 rfl;rw[fh];unfold aC Go.Proofs.YtpljdjmpamjkhaaGreatDoor.num at h3;by_cases he:(gt b).2.2=0
  ·rw[jei he]at h3
   simp only at h3;by_cases hc:(gt b).1<lo∨hi<(gt b).1
   ·rw[jei ((hC _).2 hc)]at h3
    rw[jei hc,jei hc,he,fh];exact⟨fun e=>by omega,fun _=>h3⟩
   ·rw[jeh (fun e=>hc ((hC _).1 e))]at h3
    rw[jeh hc,jeh hc,he];exact⟨fun _=>h3,fun e=>absurd rfl e⟩
  ·rw[jeh he]at h3
   have h4:(if (gt b).1<lo∨hi<(gt b).1 then orf (gt b).2.2 40 else (gt b).2.2)=(gt b).2.2:=by
    split
    ·exact eH he _
    ·rfl
   rw[h4];exact⟨fun e=>absurd e he,fun _=>h3⟩
 ·have h4:(if (gt b).1<lo∨hi<(gt b).1 then orf (orf f (gt b).2.2) 40 else orf f (gt b).2.2)=f:=by
   rw[eH hf,eH hf];split<;>rfl
  rw[h4];exact⟨fun e=>absurd e hf,h2⟩
theorem eo.pkd{D:Except Nat (List Int×List Nat)}{n w:Nat}{g:List Nat->List Nat->Except Nat (List Int×List Nat)}{b:List Nat}{f:Nat}(h:eo D (aC (pkd n w) g) b f):eo D (g (pkL n w b)) (pkB n w b) (pkF n w b f):=by
 obtain⟨h1,h2⟩:=h;unfold pkL pkB pkF;by_cases hf:f=0
 ·subst hf
  have h3:=h1 rfl;rw[fh,fh];unfold aC Go.Proofs.YtpljdjmpamjkhaaGreatDoor.pkd at h3;by_cases hs:b.length<by8 (n*w)
  ·rw[jei hs]at h3
   rw[jei hs,jei hs,jei hs];exact⟨fun e=>by omega,fun _=>h3⟩
  ·rw[jeh hs]at h3
   rw[jeh hs,jeh hs,jeh hs];by_cases hm:by8 (n*w)<b.length
   ·rw[jei hm]at h3
    rw[jeh (by rw[jeR];omega),eH (by omega)];exact⟨fun e=>by omega,fun _=>h3⟩
   ·rw[jeh hm]at h3
    have e1:b.take (by8 (n*w))=b:=je4 (by omega);have e2:b.drop (by8 (n*w))=[]:=List.drop_of_length_le (by omega);rw[e1,e2,jei (by rfl),fh];refine⟨fun e=>?_,fun e=>?_⟩
    ·rw[jei e]at h3
     exact h3
    ·rw[jeh e]at h3
     exact h3
 ·have h4:(if b.length<by8 (n*w) then orf f 30 else orf (orf f (if (b.drop (by8 (n*w))).length=0 then 0 else 32)) (unE (b.take (by8 (n*w))) n w))=f:=by
   rw[eH hf,eH hf,eH hf];split<;>rfl
  rw[h4];exact⟨fun e=>absurd e hf,h2⟩
theorem bS{α β γ : Type}(d:List Nat->Except Nat (α×List Nat))(f:α->List Nat->Except Nat (β×List Nat))(g:β->List Nat->Except Nat (γ×List Nat)):aC (aC d f) g=aC d (fun x=>aC (f x) g):=by
 funext b
 unfold aC;cases d b with
 | error e=>rfl
 | ok x=>rfl
theorem cJ{α β : Type}(x:α)(f:α->List Nat->Except Nat (β×List Nat)):aC (fun r=>.ok (x,r)) f=f x:=by
 funext b
 rfl
def fin(c:Nat)(b0:List Nat)(l:List Int)(r:List Nat):Except Nat (List Int×List Nat):=if r.length=0 then (if iv c l=b0 then .ok (l,[]) else .error 40) else .error 32
theorem SZ(c:Nat)(b0:List Nat)(l:List Int){r:List Nat}(h:r.length≠0):fin c b0 l r=.error 32:=by unfold fin;rw[jeh h]
theorem Af(c n:Nat)(b0:List Nat):aC (rdC c n) (fin c b0) b0=(match nh c n b0 with | .ok l=>.ok (l,[]) | .error e=>.error e):=by
 unfold aC nh;cases rdC c n b0 with
 | error e=>rfl
 | ok x =>
  obtain⟨l,r⟩:=x;simp only[fin];split
  ·split<;>rfl
  ·rfl
theorem StC.set_other{T:Nat}{W:World}{p:Nat}{b:List Nat}{f:Nat}(h:StC T W p b f){g:Nat}(hg:p<g)(i:Nat)(v:Value):StC T (W.setCell ⟨g,i,none⟩ v) p b f :=
 h.kept ((jej (p+1) W).setCell (p:=⟨g,i,none⟩) hg v) (Nat.lt_succ_self p)
theorem bF.fr{p:Nat}{w w':World}{B:Nat}{v:Value}{l:List Int}(h:bF w B v l)(hf:Fr p w.heap.size w w')(hp:p<B):bF w' B v l:=hf.own h hp
theorem bF.low{W:World}{B B':Nat}{v:Value}{l:List Int}(h:bF W B' v l)(hb:B<=B'):bF W B v l:=by
 obtain⟨h1,h2⟩:=h;refine⟨h1,?_⟩;rcases h2 with h | ⟨g,cap,cur,e1,e2,e3⟩
 ·exact Or.inl h
 ·exact Or.inr ⟨g,cap,cur,e1,jet hb e2,e3⟩
theorem Ag:(Tryz.prog.info? 2).map (fun i=>(i.zero,i.size,i.bytes))=some (some (.int .i64 0),1,8):=by kernel_rfl
theorem aY{w:World}{ops:Array Oper}{rest:List Oper}{o:Oper}{a:Act}{Q:Exit->Act->World->Prop}(dY:o.guard=none)(s x:Operand)
  (ho:o.op=.call { callee:=.builtin .append,args:=#[s,x],argTypes:=#[143,143] })
  (base:Nat) (v:Value) (g:Nat) (z:Int) (l0:List Int) (hs:a.eval s=v) (aA:bF w base v l0) (hx:a.eval x=.slice (some ⟨g,0,none⟩) 1 1) (hc:w.cell? ⟨g,0,none⟩=some (.int .i64 z))
  (hbytes:l0.length<=100000) (aI:base<=w.heap.size)
  (h:∀ v' w',bF w' base v' (l0++[z])->Below base w w'->wpList Tryz.prog ops Q rest (a.put o.dst v') w') :
  wpList Tryz.prog ops Q (o::rest) a w:=by
 obtain⟨i0,hi,ch,hz1',bv⟩:=jeD Ag;unfold bF at *
 refine jeY (w:=w) dY s x 143 ho base 2 i0 (.int .i64 0) 1 8 Tryz.underlying143 hi ch hz1' bv rfl (by decide) v l0.length (aL l0) hs aA ⟨g,0,none⟩ 1 1 [.int .i64 z] hx rfl ?_ (fun u hu=>by
  have:u=.int .i64 z:=by simpa using hu
  subst this;rfl) (by unfold maxLen;omega) (by omega) aI ?_
 ·intro j u hu
  rw[mC];cases j with
  | zero =>
   simp only[List.getElem?_cons_zero,Option.some.injEq]at hu;rw[← hu];exact hc
  | succ j=>simp at hu
 ·intro v' w' o1 g1 _ _
  refine h v' w' ?_ ((jej base w).grown g1 aI (fun k hk=>(aA.lt k hk).1));rw[rt,jem];exact o1
theorem jO{w:World}{ops:Array Oper}{rest:List Oper}{o:Oper}{a:Act}{Q:Exit->Act->World->Prop}(dY:o.guard=none)(s x:Operand)
  (ho:o.op=.call { callee:=.builtin .append,args:=#[s,x],argTypes:=#[142,142] })
  (base:Nat) (v:Value) (g:Nat) (z:Nat) (l0:List Nat) (hs:a.eval s=v) (aA:dJ w base v l0) (hx:a.eval x=.slice (some ⟨g,0,none⟩) 1 1) (hc:w.cell? ⟨g,0,none⟩=some (.int .u64 (z:Int)))
  (hbytes:l0.length<=100000) (aI:base<=w.heap.size)
  (h:∀ v' w',dJ w' base v' (l0++[z])->Below base w w'->wpList Tryz.prog ops Q rest (a.put o.dst v') w') :
  wpList Tryz.prog ops Q (o::rest) a w:=by
 obtain⟨i0,hi,ch,hz1',bv⟩:=jeD pZ;unfold dJ at *
 refine jeY (w:=w) dY s x 142 ho base 92 i0 (.int .u64 0) 1 8 Tryz.underlying142 hi ch hz1' bv rfl (by decide) v l0.length (aF .u64 l0) hs aA ⟨g,0,none⟩ 1 1 [.int .u64 (z:Int)] hx rfl ?_ (fun u hu=>by
  have:u=.int .u64 (z:Int):=by simpa using hu
  subst this;rfl) (by unfold maxLen;omega) (by omega) aI ?_
 ·intro j u hu
  rw[mC];cases j with
  | zero =>
   simp only[List.getElem?_cons_zero,Option.some.injEq]at hu;rw[← hu];exact hc
  | succ j=>simp at hu
 ·intro v' w' o1 g1 _ _
  refine h v' w' ?_ ((jej base w).grown g1 aI (fun k hk=>(aA.lt k hk).1));rw[ct,jem];exact o1
def Ah(D:Except Nat (List Int×List Nat))(G:List Int->List Nat->Except Nat (List Int×List Nat))(p n:Nat)(w:World)(r:Ending)(w':World):Prop :=
 ∃(l:List Int) (b':List Nat) (f':Nat),(∃ v,r=.returned v/\bF w' w.heap.size v l)/\Is l/\l.length<=n/\StC 333 w' p b' f'/\eo D (G l) b' f'/\Fr p w.heap.size w w'
theorem Ta(G:List Int->List Nat->Except Nat (List Int×List Nat))(ys:List Int)(m:Nat):aC (rd0 (m+1)) (fun l=>G (ys++l))=aC wh (fun x=>aC (rd0 m) (fun l=>G ((ys++[x])++l))):=by
 have:rd0 (m+1)=aC wh (fun x=>aC (rd0 m) (fun l r=>.ok (x::l,r))):=by funext b;rfl
 rw[this,bS];congr 1
 funext x
 rw[bS];congr 1
 funext l
 rw[cJ];simp
theorem XC(G:List Int->List Nat->Except Nat (List Int×List Nat))(ys:List Int):aC (rd0 0) (fun l=>G (ys++l))=G ys:=by
 have:rd0 0=fun b=>.ok ([],b):=by funext b;rfl
 rw[this,cJ,jeG]
theorem Tb(G:List Int->List Nat->Except Nat (List Int×List Nat))(ys:List Int)(m:Nat)(last:Int):aC (rd1 (m+1) last) (fun l=>G (ys++l))=aC wh (fun x=>aC (rd1 m (w64 (last+x))) (fun l=>G ((ys++[w64 (last+x)])++l))):=by
 have:rd1 (m+1) last=aC wh (fun d=>aC (rd1 m (w64 (last+d))) (fun l r=>.ok (w64 (last+d)::l,r))):=by funext b;rfl
 rw[this,bS];congr 1
 funext x
 rw[bS];congr 1
 funext l
 rw[cJ];simp
theorem XD(G:List Int->List Nat->Except Nat (List Int×List Nat))(ys:List Int)(last:Int):aC (rd1 0 last) (fun l=>G (ys++l))=G ys:=by
 have:rd1 0 last=fun b=>.ok ([],b):=by funext b;rfl
 rw[this,cJ,jeG]
def nV(ys:List Int)(n:Nat):List Int:=ys++List.replicate (n-ys.length) 0
theorem Eo{ys:List Int}{n:Nat}(h:ys.length<n)(z:Int):(nV ys n).set ys.length z=nV (ys++[z]) n:=by
 unfold nV;obtain⟨m,hm⟩:∃ m,n-ys.length=m+1:=⟨n-ys.length-1,by omega⟩;rw[hm,jem,jeS,show n-(ys.length+1)=m by omega,List.replicate_succ];simp
theorem ur{ys:List Int}{n:Nat}(h:ys.length<=n):(nV ys n).length=n:=by unfold nV;simp;omega
theorem Ai{ys:List Int}{n:Nat}(h:ys.length=n):nV ys n=ys:=by unfold nV;simp[h]
theorem xn(n:Nat):(madeCells #[Value.int .i64 0] n).toList=aL (nV [] n):=by
 rw[jfO];simp[aL,nV]
theorem Is.snoc{ys:List Int}{x:Int}(h:Is ys)(hx:I64 x):Is (ys++[x]):=fun y hy=>by
 rcases jeN.1 hy with hy | hy
 ·exact h y hy
 ·have:y=x:=by simpa using hy
  subst this;exact hx
theorem Tc{D:Except Nat (List Int×List Nat)}{G:List Int->List Nat->Except Nat (List Int×List Nat)}{w:World}{p n f:Nat}{b:List Nat}(h:StC 333 w p b f)(hn:n<=256)(hg:eo D (aC (rd0 n) G) b f) :
  Calls Tryz.prog 314 #[.pointer (some ⟨p,0,none⟩),.int .i64 (n:Int)] w (Ah D G p n w):=by
 obtain⟨i0,hi,ch,hz1',bv⟩:=jeD Ag;have HS:=ae h;have HG:=ae hg;have aB:=h.lt;clear h hg;go_enter Tryz.func314,Tryz.ntmps314
 go_wp2_with (first | (refine jfo _ rfl _ _ 143 rfl w.heap.size 2 i0 (.int .i64 0) 1 Tryz.underlying143 hi ch hz1' .i64 .i64 _ _ n rfl rfl ?m1 ?m2 ?m3 ?m4 ?m5 ?_))
 case m1=>rfl
 case m2=>rfl
 case m3=>rw[bv];omega
 case m4=>unfold maxLen;omega
 case m5=>omega
 intro w4 gQ iZ;have bG:Below w.heap.size w w4:=(jej _ _).grown iZ (jek _) (fun k hk=>by cases hk)
 have ho4':w4.ownsRow w.heap.size 2 1 (.slice (some ⟨w.heap.size,0,none⟩) n n) n (aL (nV [] n)):=by
  rw[← xn];simpa using gQ
 have eY:=ae ho4';have cp:=ae bG;clear gQ iZ bG ho4';go_wp2_with fail;go_loopw [11] (fun i wr=>∃(ys:List Int) (b':List Nat) (f':Nat),i=.int .i64 (ys.length:Int)/\ys.length<=n/\Is ys/\wr.ownsRow w.heap.size 2 1 (.slice (some ⟨w.heap.size,0,none⟩) n n) n (aL (nV ys n))/\StC 333 wr p b' f'/\eo D (aC (rd0 (n-ys.length)) (fun l=>G (ys++l))) b' f'/\Fr p w.heap.size w wr) (fun i _=>n-(intOf i).toNat)
 case atStart=>exact⟨[],b,f,rfl,by simp,fun x hx=>by simp at hx,eY.o,HS.o.kept cp.o aB,HG.o,Fr.of_below cp.o⟩
 case round =>
  obtain⟨ys,b',f',rfl,hk,zk,how,gV,yA,lO⟩:=hrel;have KZ:=ae zk;have HO:=ae how;have cP:=ae gV;have sM:=ae yA;have np:=ae lO;have bH:=lO.size;clear zk how gV yA lO;by_cases jT:ys.length<n
  ·obtain⟨m,hm⟩:∃ m,n-ys.length=m+1:=⟨n-ys.length-1,by omega⟩
   have fy:=sM.o;rw[hm,Ta]at fy;have CR:=ae fy.wh;have HX:=ae (kl (gd b').1);have HW:=ae (mg cP.o);have HM:=ae hm;clear fy hm sM;generalize fL (gt b').1=x at *;go_wp2_with fail;refine HW.o.mono ?_;rintro e w5 ⟨rfl,nG,iS⟩;have fD:=iS.own HO.o aB;have vN:=ae (np.o.trans (iS.mono bH));have jH:ys.length<(nV ys n).length:=by rw[ur (by omega)];exact jT
   have Gn:=(fD.cellAt ys.length (by omega)).trans (pb jH);have Gp:=fD.frozenAt ys.length;have hST:=fD.stored ys.length (.int .i64 x);rw[zV,Eo jT]at hST;have Vr:=ae hST;have Mx:=(fD.lt w.heap.size rfl).2;have qF:=ae (nG.set_other (g:=w.heap.size) aB ys.length (.int .i64 x));have tU:=vN.o.size;clear hST nG iS fD;generalize (nV ys n)[ys.length]=y at *;go_wp2_with fail;go_roundw
   case rel =>
    refine⟨ys++[x],_,_,?_,?_,KZ.o.snoc HX.o,Vr.o.1,qF.o,?_,?_⟩
    ·simp
    ·simp;omega
    ·have e:n-(ys++[x]).length=m:=by have:=HM.o;simp;omega
     rw[e];exact CR.o
    ·exact vN.o.then ((jej _ _).setCell (p:=⟨w.heap.size,ys.length,none⟩) (jek _) _)
   case measure=>simp[intOf];omega
  ·have zf:ys.length=n:=by omega
   have fy:=sM.o;rw[show n-ys.length=0 by omega,XC]at fy;have CR:=ae fy
   have HO':jgf (bF wr w.heap.size (.slice (some ⟨w.heap.size,0,none⟩) n n) ys):=ae (by
    have:=HO.o;rw[Ai zf]at this;unfold bF;rw[zf];exact this)
   clear fy sM zf;go_wp2_with fail;go_ret
   exact⟨ys,b',f',⟨_,rfl,HO'.o⟩,KZ.o,by omega,cP.o,CR.o,np.o⟩
theorem NJ{D:Except Nat (List Int×List Nat)}{G:List Int->List Nat->Except Nat (List Int×List Nat)}{w:World}{p n f:Nat}{b:List Nat}(h:StC 333 w p b f)(hn:n<=256)(hg:eo D (aC (rd1 n 0) G) b f) :
  Calls Tryz.prog 315 #[.pointer (some ⟨p,0,none⟩),.int .i64 (n:Int)] w (Ah D G p n w):=by
 obtain⟨i0,hi,ch,hz1',bv⟩:=jeD Ag;have HS:=ae h;have HG:=ae hg;have aB:=h.lt;clear h hg;go_enter Tryz.func315,Tryz.ntmps315
 go_wp2_with (first | (refine jfo _ rfl _ _ 143 rfl w.heap.size 2 i0 (.int .i64 0) 1 Tryz.underlying143 hi ch hz1' .i64 .i64 _ _ n rfl rfl ?m1 ?m2 ?m3 ?m4 ?m5 ?_))
 case m1=>rfl
 case m2=>rfl
 case m3=>rw[bv];omega
 case m4=>unfold maxLen;omega
 case m5=>omega
 intro w4 gQ iZ;have bG:Below w.heap.size w w4:=(jej _ _).grown iZ (jek _) (fun k hk=>by cases hk)
 have ho4':w4.ownsRow w.heap.size 2 1 (.slice (some ⟨w.heap.size,0,none⟩) n n) n (aL (nV [] n)):=by
  rw[← xn];simpa using gQ
 have eY:=ae ho4';have cp:=ae bG;clear gQ iZ bG ho4';go_wp2_with fail;go_loopw [6,12] (fun ah i wr=>∃(last:Int) (ys:List Int) (b':List Nat) (f':Nat),ah=.int .i64 last/\I64 last/\i=.int .i64 (ys.length:Int)/\ys.length<=n/\Is ys/\wr.ownsRow w.heap.size 2 1 (.slice (some ⟨w.heap.size,0,none⟩) n n) n (aL (nV ys n))/\StC 333 wr p b' f'/\eo D (aC (rd1 (n-ys.length) last) (fun l=>G (ys++l))) b' f'/\Fr p w.heap.size w wr) (fun _ i _=>n-(intOf i).toNat)
 case atStart=>exact⟨0,[],b,f,rfl,by unfold I64;omega,rfl,by simp,fun x hx=>by simp at hx,eY.o,HS.o.kept cp.o aB,HG.o,Fr.of_below cp.o⟩
 case round =>
  obtain⟨last,ys,b',f',rfl,uT,rfl,hk,zk,how,gV,yA,lO⟩:=hrel;have KZ:=ae zk;have HO:=ae how;have cP:=ae gV;have sM:=ae yA;have np:=ae lO;have bH:=lO.size;clear zk how gV yA lO;by_cases jT:ys.length<n
  ·obtain⟨m,hm⟩:∃ m,n-ys.length=m+1:=⟨n-ys.length-1,by omega⟩
   have fy:=sM.o;rw[hm,Tb]at fy;have CR:=ae fy.wh;have HX:=ae (jq (last+fL (gt b').1));have KW:=rB (last+fL (gt b').1);have HW:=ae (mg cP.o);have HM:=ae hm;clear fy hm sM;generalize fL (gt b').1=x0 at *;generalize w64 (last+x0)=x at *;go_wp2_with fail;refine HW.o.mono ?_;rintro e w5 ⟨rfl,nG,iS⟩;have fD:=iS.own HO.o aB;have vN:=ae (np.o.trans (iS.mono bH));have jH:ys.length<(nV ys n).length:=by rw[ur (by omega)];exact jT
   have Gn:=(fD.cellAt ys.length (by omega)).trans (pb jH);have Gp:=fD.frozenAt ys.length;have hST:=fD.stored ys.length (.int .i64 x);rw[zV,Eo jT]at hST;have Vr:=ae hST;have Mx:=(fD.lt w.heap.size rfl).2;have qF:=ae (nG.set_other (g:=w.heap.size) aB ys.length (.int .i64 x));have tU:=vN.o.size;clear hST nG iS fD;generalize (nV ys n)[ys.length]=y at *;go_wp2_with fail;go_roundw
   case rel =>
    refine⟨x,ys++[x],_,_,rfl,HX.o,?_,?_,KZ.o.snoc HX.o,Vr.o.1,qF.o,?_,?_⟩
    ·simp
    ·simp;omega
    ·have e:n-(ys++[x]).length=m:=by have:=HM.o;simp;omega
     rw[e];exact CR.o
    ·exact vN.o.then ((jej _ _).setCell (p:=⟨w.heap.size,ys.length,none⟩) (jek _) _)
   case measure=>simp[intOf];omega
  ·have zf:ys.length=n:=by omega
   have fy:=sM.o;rw[show n-ys.length=0 by omega,XD]at fy;have CR:=ae fy
   have HO':jgf (bF wr w.heap.size (.slice (some ⟨w.heap.size,0,none⟩) n n) ys):=ae (by
    have:=HO.o;rw[Ai zf]at this;unfold bF;rw[zf];exact this)
   clear fy sM zf;go_wp2_with fail;go_ret
   exact⟨ys,b',f',⟨_,rfl,HO'.o⟩,KZ.o,by omega,cP.o,CR.o,np.o⟩
theorem eo.any{D:Except Nat (List Int×List Nat)}{K K':List Nat->Except Nat (List Int×List Nat)}{b:List Nat}{f:Nat}(h:eo D K b f)(hf:f≠0):eo D K' b f:=⟨fun e=>absurd e hf,h.2⟩
theorem ut{lo hi v f:Nat}(h:v<lo∨hi<v):eF lo hi v f≠0:=by
 unfold eF orf;rw[jei h];split<;>omega
theorem Td(G:List Int->List Nat->Except Nat (List Int×List Nat))(ys:List Int)(fu m:Nat)(hm:m≠0):aC (rd2 (fu+1) m) (fun l=>G (ys++l)) =
  aC wh (fun x=>aC num (fun k=>if k=0∨m<k then (fun _=>.error 40) else aC (rd2 fu (m-k)) (fun l=>G ((ys++List.replicate k x)++l)))):=by
 have:rd2 (fu+1) m=aC wh (fun x=>aC num (fun k=>if k=0∨m<k then (fun _=>.error 40) else aC (rd2 fu (m-k)) (fun l r=>.ok (List.replicate k x++l,r)))):=by
  funext b
  rw[rd2,jeh hm]
 rw[this,bS];congr 1
 funext x
 rw[bS];congr 1
 funext k
 split
 ·rfl
 ·rw[bS]
  congr 1
  funext l
  rw[cJ];simp
theorem XE(G:List Int->List Nat->Except Nat (List Int×List Nat))(ys:List Int)(fu:Nat):aC (rd2 fu 0) (fun l=>G (ys++l))=G ys:=by
 have:rd2 fu 0=fun b=>.ok ([],b):=by funext b;exact DJ fu b
 rw[this,cJ,jeG]
def ZQ:Value->Nat
 | .slice _ n _=>n
 | _=>0
def Ep(p:Nat)(W:World):Nat :=
 match W.cell? ⟨p,1,none⟩ with
 | some (.int _ n)=>if n=0 then 1 else 0
 | _=>0
theorem NK{T:Nat}{W:World}{p:Nat}{b:List Nat}{f:Nat}(h:StC T W p b f)(hf:f=0):Ep p W=1:=by
 obtain⟨_,_,_,_,h1,_⟩:=h.cells;unfold Ep;rw[h1,hf];rfl
theorem Te{T:Nat}{W:World}{p:Nat}{b:List Nat}{f:Nat}(h:StC T W p b f)(hf:f≠0):Ep p W=0:=by
 obtain⟨_,_,_,_,h1,_⟩:=h.cells;unfold Ep;rw[h1];simp only;rw[jeh (by omega)]
theorem XF(p:Nat)(W:World):Ep p W<=1:=by
 unfold Ep;split
 ·split<;>omega
 ·omega
theorem Tf{D:Except Nat (List Int×List Nat)}{G:List Int->List Nat->Except Nat (List Int×List Nat)}{w:World}{p n f:Nat}{b:List Nat}(h:StC 333 w p b f)(hn:n<=256)(hg:eo D (aC (rd2 n n) G) b f) :
  Calls Tryz.prog 316 #[.pointer (some ⟨p,0,none⟩),.int .i64 (n:Int)] w (Ah D G p n w):=by
 have HS:=ae h;have HG:=ae hg;have aB:=h.lt;clear h hg;go_enter Tryz.func316,Tryz.ntmps316
 go_wp2_with fail;go_loopw [5] (fun v wr=>∃(fu:Nat) (ys:List Int) (b':List Nat) (f':Nat),ys.length<=n/\Is ys/\bF wr w.heap.size v ys/\StC 333 wr p b' f'/\(f'=0->n-ys.length<=fu)/\eo D (aC (rd2 fu (n-ys.length)) (fun l=>G (ys++l))) b' f'/\Fr p w.heap.size w wr) (fun v wr=>2*(n-ZQ v)+Ep p wr)
 case atStart=>exact⟨n,[],b,f,by simp,fun x hx=>by simp at hx,bF.nil _ _,HS.o,fun _=>by simp,HG.o,Fr.refl _ _ _⟩
 case round =>
  obtain⟨fu,ys,b',f',hk,zk,how,gV,hfu,yA,lO⟩:=hrel;have KZ:=ae zk;have HO:=ae how;have cP:=ae gV;have sM:=ae yA;have np:=ae lO;have HFU:=ae hfu;have bH:=lO.size;obtain⟨av,cv,rfl⟩:=how.len;obtain⟨g,off,cap,c0,c1,c2,c3,c4,c5,c6,c7,c8,c9⟩:=gV.cells;clear zk how gV yA lO hfu c0 c2 c3 c4 c5 c6 c7 c8 c9;by_cases jT:(ys.length:Int)<(n:Int)
  ·by_cases wl:((f':Int)==0)=true
   ·have hf0':f'=0:=by simpa using wl
    have hm:n-ys.length≠0:=(by omega);have hfu2:=HFU.o hf0';obtain⟨fu',rfl⟩:∃ q,fu=q+1:=⟨fu-1,by omega⟩;have fy:=sM.o;rw[Td _ _ _ _ hm]at fy;have hgo3:=fy.wh;have HX:=ae (kl (gd b').1);have HW:=ae (mg cP.o);have WG:=ae (NK cP.o hf0');clear fy sM;generalize fL (gt b').1=x at *;generalize b'.drop (gt b').2.1=b1 at *;generalize orf f' (gt b').2.2=f1 at *;have Vy:=eo.num (lo:=1) (hi:=n-ys.length) (fun v=>by constructor<;>(intro h;omega)) hgo3;obtain⟨g1,g2,g3,g4⟩:=gd b1;have hsub:(n:Int)-(ys.length:Int)=((n-ys.length:Nat):Int):=(by omega)
    have Gt:dw 1 (n-ys.length) (gt b1).1=0->eF 1 (n-ys.length) (gt b1).1 (orf f1 (gt b1).2.2)≠0:=by
     intro h0;unfold dw at h0;split at h0
     ·next hb=>exact ut hb
     ·next hb=>omega
    have jb8:dw 1 (n-ys.length) (gt b1).1<=n-ys.length:=by
     unfold dw;split<;>omega
    have La:jgf (∀ W,StC 333 W p b1 f1->Calls Tryz.prog 321 #[.pointer (some ⟨p,0,none⟩),.int .u64 (1:Int),.int .u64 ((n-ys.length:Nat):Int)] W fun r w'=>r=.returned (.int .u64 (dw 1 (n-ys.length) (gt b1).1:Int))/\StC 333 w' p (b1.drop (gt b1).2.1) (eF 1 (n-ys.length) (gt b1).1 (orf f1 (gt b1).2.2))/\Fr p W.heap.size W w'):=fun W h=>lp h 1 (n-ys.length) (by omega) (by omega)
    have YV:=ae Vy;have tV:=ae Gt;clear hgo3 Vy g1 g2 g3 g4 Gt HFU;generalize dw 1 (n-ys.length) (gt b1).1=k at *;generalize eF 1 (n-ys.length) (gt b1).1 (orf f1 (gt b1).2.2)=f2 at *;generalize b1.drop (gt b1).2.1=b2 at *;clear hf0';go_wp2_with fail;refine HW.o.mono ?_;rintro e w5 ⟨rfl,nG,iS⟩;have qF:=ae nG;have df:=ae (HO.o.fr iS aB);have vN:=ae (np.o.trans (iS.mono bH));have tU:=vN.o.size;clear nG iS c1;go_wp2_with fail;refine(La.o _ qF.o).mono ?_;rintro e w6 ⟨rfl,yl,Rd⟩;have HS6:=ae yl;have my:=ae (df.o.fr Rd aB);have HFR6:=ae (vN.o.trans (Rd.mono tU));have Gq:=HFR6.o.size;clear yl Rd;go_wp2_with fail;go_loopw [5,29] (fun v j wq=>∃ i:Nat,i<=k/\j=.int .u64 (i:Int)/\bF wq w.heap.size v (ys++List.replicate i x)/\StC 333 wq p b2 f2/\Fr p w.heap.size w wq) (fun _ j _=>k-(intOf j).toNat)
    case atStart=>exact⟨0,by omega,rfl,by simpa using my.o,HS6.o,HFR6.o⟩
    case round =>
     obtain⟨i,hik,rfl,hoq,hsq,hfq⟩:=hrel;have HOQ:=ae hoq;have HSQ:=ae hsq;have HFQ:=ae hfq;have zl:=hfq.size;obtain⟨aq,cq,rfl⟩:=hoq.len;clear hoq hsq hfq;by_cases Qx:(i:Int)<(k:Int)
     ·have nE:=ae (HOQ.o.kept ((jej _ _).alloc (jek _) (.cells #[.int .i64 x] 2)))
      have lN:=ae (HSQ.o.kept ((jej _ _).alloc (jek _) (.cells #[.int .i64 x] 2)) HSQ.o.lt);have Lb:=ae (HFQ.o.then ((jej w.heap.size _).alloc zl (.cells #[.int .i64 x] 2)));have bR:(ys++List.replicate i x).length<=256:=by simp;omega
      go_wp2_with (first | (at_builtin;refine aY rfl _ _ rfl w.heap.size _ _ x (ys++List.replicate i x) rfl nE.o rfl ?c1 ?c2 ?c3 ?_))
      case c1=>exact aK _ _ _
      case c2=>omega
      case c3=>rw[jel];omega
      intro v7 w7 o7 b7;have e7:ys++(List.replicate i x++[x])=ys++List.replicate (i+1) x:=by rw[List.replicate_succ']
      rw[e7]at o7;have iI:=ae o7;have Lc:=ae (lN.o.kept b7 aB);have HF7:=ae (Lb.o.then b7);clear o7 b7 e7;go_wp2_with fail;go_roundw
      case rel=>exact⟨i+1,by omega,by go_num,iI.o,Lc.o,HF7.o⟩
      case measure=>simp[intOf];omega
     ·obtain rfl:i=k:=by omega
      have HNEW:jgf (∃ fu2,(f2=0->n-(ys++List.replicate i x).length<=fu2)/\eo D (aC (rd2 fu2 (n-(ys++List.replicate i x).length)) (fun l=>G ((ys++List.replicate i x)++l))) b2 f2):=ae (by
       have oG:n-(ys++List.replicate i x).length=n-ys.length-i:=by simp;omega
       rw[oG];by_cases dG:f2=0
       ·have hi0:i≠0:=fun e=>tV.o e dG
        exact⟨fu',fun _=>by omega,YV.o⟩
       ·exact⟨0,fun e=>absurd e dG,YV.o.any dG⟩)
      have HME:jgf (2*(n-(ys++List.replicate i x).length)+Ep p wr<2*(n-ys.length)+1):=ae (by
       have oG:(ys++List.replicate i x).length=ys.length+i:=by simp
       rw[oG];by_cases dG:f2=0
       ·have hi0:i≠0:=fun e=>tV.o e dG
        have:=XF p wr;omega
       ·rw[Te HSQ.o dG]
        omega)
      have HISN:jgf (Is (ys++List.replicate i x)):=fun y hy=>by
       rcases jeN.1 hy with hy | hy
       ·exact KZ.o y hy
       ·rw[jf5 hy]
        exact HX.o
      have vJ:jgf ((ys++List.replicate i x).length<=n):=ae (by simp;omega);go_wp2_with fail;go_roundw
      case rel =>
       obtain⟨fu2,h1,h2⟩:=HNEW.o;exact⟨fu2,_,_,_,vJ.o,HISN.o,HOQ.o,HSQ.o,h1,h2,HFQ.o⟩
      case measure =>
       have h1:=HME.o;have h2:=WG.o;simp only[ZQ];rw[h2];exact h1
   ·have hff:((f':Int)==0)=false:=by simpa using wl
    have fJ:f'≠0:=fun e=>wl (by simp[e])
    have YW:=ae (sM.o.any (K':=G ys) fJ);clear wl fJ;go_wp2_with fail;go_ret
    exact⟨ys,b',f',⟨_,rfl,HO.o⟩,KZ.o,hk,cP.o,YW.o,np.o⟩
  ·have fy:=sM.o
   rw[show n-ys.length=0 by omega,XE]at fy;have YW:=ae fy;clear fy;go_wp2_with fail;go_ret
   exact⟨ys,b',f',⟨_,rfl,HO.o⟩,KZ.o,hk,cP.o,YW.o,np.o⟩
theorem Tg(G:List Int->List Nat->Except Nat (List Int×List Nat))(us:List Int)(q:Nat)(last:Int):aC (rdU (q+1) last) (fun u=>G (us++u)) =
  aC num (fun(d:Nat)=>if d=0∨9223372036854775807-last<(d:Int) then (fun _=>.error 40) else aC (rdU q (last+d)) (fun u=>G ((us++[last+d])++u))):=by
 have:rdU (q+1) last=aC num (fun(d:Nat)=>if d=0∨9223372036854775807-last<(d:Int) then (fun _=>.error 40) else aC (rdU q (last+d)) (fun l r=>.ok ((last+d)::l,r))):=by
  funext b
  rw[rdU]
 rw[this,bS];congr 1
 funext d
 split
 ·rfl
 ·rw[bS]
  congr 1
  funext l
  rw[cJ];simp
theorem XG(G:List Int->List Nat->Except Nat (List Int×List Nat))(us:List Int)(last:Int):aC (rdU 0 last) (fun u=>G (us++u))=G us:=by
 have:rdU 0 last=fun b=>.ok ([],b):=by funext b;rfl
 rw[this,cJ,jeG]
def kD(G:List Int->List Nat->Except Nat (List Int×List Nat))(m:Nat)(us:List Int)(last:Int):List Nat->Except Nat (List Int×List Nat) :=
 if us.length=0 then (if m=0 then G [] else aC wh (fun x=>aC (rdU (m-1) x) (fun u=>G (x::u)))) else aC (rdU (m-us.length) last) (fun u=>G (us++u))
theorem NL(G:List Int->List Nat->Except Nat (List Int×List Nat))(us:List Int)(last:Int):kD G us.length us last=G us:=by
 unfold kD;by_cases h:us.length=0
 ·rw[jei h,jei h,jeI h]
 ·rw[jeh h,jfM,XG]
theorem Et(G:List Int->List Nat->Except Nat (List Int×List Nat)){m:Nat}(hm:0<m)(last:Int):kD G m [] last=aC wh (fun x=>kD G m [x] x):=by
 unfold kD;rw[jei (show ([]:List Int).length=0 from rfl),jeh (by omega)];congr 1
theorem Je(G:List Int->List Nat->Except Nat (List Int×List Nat)){m:Nat}{us:List Int}(h0:0<us.length)(hm:us.length<m)(last:Int):kD G m us last =
  aC num (fun(d:Nat)=>if d=0∨9223372036854775807-last<(d:Int) then (fun _=>.error 40) else kD G m (us++[last+d]) (last+d)):=by
 unfold kD;obtain⟨q,hq⟩:∃ q,m-us.length=q+1:=⟨m-us.length-1,by omega⟩;rw[jeh (by omega),hq,Tg];congr 1
 funext d
 rw[jeh (show ¬ (us++[last+(d:Int)]).length=0 by simp),show m-(us++[last+(d:Int)]).length=q by simp;omega]
theorem Jf{D:Except Nat (List Int×List Nat)}{G:List Int->List Nat->Except Nat (List Int×List Nat)}{w:World}{p m f:Nat}{b:List Nat}(h:StC 333 w p b f)(hm:m<=256)(hg:eo D (kD G m [] 0) b f) :
  Calls Tryz.prog 322 #[.pointer (some ⟨p,0,none⟩),.int .i64 (m:Int)] w fun r w'=>∃(l:List Int) (b':List Nat) (f':Nat),(∃ v,r=.returned v/\bF w' w.heap.size v l)/\Is l/\l.length=m/\StC 333 w' p b' f'/\eo D (G l) b' f'/\Fr p w.heap.size w w':=by
 have HS:=ae h;have HG:=ae hg;have aB:=h.lt;clear h hg;go_enter Tryz.func322,Tryz.ntmps322
 go_wp2_with fail;go_loopw [5,6,9] (fun v la i wr=>∃(us:List Int) (last:Int) (b':List Nat) (f':Nat),i=.int .i64 (us.length:Int)/\la=.int .i64 last/\us.length<=m/\Is us/\I64 last/\bF wr w.heap.size v us/\StC 333 wr p b' f'/\eo D (kD G m us last) b' f'/\Fr p w.heap.size w wr) (fun _ _ i _=>m-(intOf i).toNat)
 case atStart=>exact⟨[],0,b,f,rfl,rfl,by simp,fun x hx=>by simp at hx,by unfold I64;omega,bF.nil _ _,HS.o,HG.o,Fr.refl _ _ _⟩
 case round =>
  obtain⟨us,last,b',f',rfl,rfl,hk,hus,Qp,how,gV,yA,lO⟩:=hrel;have HUS:=ae hus;have HO:=ae how;have cP:=ae gV;have sM:=ae yA;have np:=ae lO;have Re:=ae Qp;have bH:=lO.size;obtain⟨av,cv,rfl⟩:=how.len;clear hus how gV yA lO Qp;by_cases jT:us.length<m
  ·have nc:(us.length:Int)<(m:Int):=by omega
   by_cases hz:us.length=0
   ·obtain rfl:us=[]:=jeI hz
    have fy:=sM.o;rw[Et G (by omega)]at fy;have CR:=ae fy.wh;have HX:=ae (kl (gd b').1);have HW:=ae (mg cP.o);clear fy sM hz jT;generalize fL (gt b').1=x at *;generalize b'.drop (gt b').2.1=b1 at *;generalize orf f' (gt b').2.2=f1 at *;rw[jeL]at *;go_wp2_with fail;refine HW.o.mono ?_;rintro e w5 ⟨rfl,nG,iS⟩;have tU:=iS.size;have df:=ae ((HO.o.fr iS aB).kept ((jej _ _).alloc (jek _) (.cells #[.int .i64 x] 2)));have qF:=ae (nG.kept ((jej _ _).alloc (jek _) (.cells #[.int .i64 x] 2)) nG.lt);have vN:=ae ((np.o.trans (iS.mono bH)).then ((jej w.heap.size _).alloc (by omega) (.cells #[.int .i64 x] 2)));clear nG iS;go_wp2_with (first | (at_builtin;refine aY rfl _ _ rfl w.heap.size _ _ x [] rfl df.o rfl ?c1 ?c2 ?c3 ?_))
    case c1=>exact aK _ _ _
    case c2=>simp
    case c3=>rw[jel];omega
    intro v7 w7 o7 b7;have iI:=ae o7;have Lc:=ae (qF.o.kept b7 aB);have HF7:=ae (vN.o.then b7);clear o7 b7;go_wp2_with fail;go_roundw
    case rel=>exact⟨[x],x,_,_,rfl,rfl,by simp;omega,fun y hy=>by rw[jeX.1 hy];exact HX.o,HX.o,iI.o,Lc.o,CR.o,HF7.o⟩
    case measure=>simp[intOf];omega
   ·have ch:((us.length:Int)==0)=false:=jev.2 (by omega)
    have fy:=sM.o;rw[Je G (by omega) jT]at fy;have Rf:=Re.o.1;have AO:=Re.o.2;have Vy:=eo.num (lo:=1) (hi:=(9223372036854775807-last).toNat) (fun v=>by constructor<;>(intro h;omega)) fy;have HD:=ae (fun W=>nS (a:=last) (b:=9223372036854775807) Re.o (by unfold I64;omega) AO W);have La:jgf (∀ W,StC 333 W p b' f'->Calls Tryz.prog 321 #[.pointer (some ⟨p,0,none⟩),.int .u64 (1:Int),.int .u64 ((9223372036854775807-last).toNat:Int)] W fun r w'=>r=.returned (.int .u64 (dw 1 (9223372036854775807-last).toNat (gt b').1:Int))/\StC 333 w' p (b'.drop (gt b').2.1) (eF 1 (9223372036854775807-last).toNat (gt b').1 (orf f' (gt b').2.2))/\Fr p W.heap.size W w'):=fun W h=>lp h 1 _ (by omega) (by omega)
    have jb8:dw 1 (9223372036854775807-last).toNat (gt b').1<=(9223372036854775807-last).toNat:=by
     unfold dw;split<;>omega
    have YV:=ae Vy;clear fy Vy sM hz;generalize dw 1 (9223372036854775807-last).toNat (gt b').1=d at *;generalize eF 1 (9223372036854775807-last).toNat (gt b').1 (orf f' (gt b').2.2)=f1 at *;generalize b'.drop (gt b').2.1=b1 at *;have HX:jgf (I64 (last+(d:Int))):=ae (by unfold I64;omega);obtain⟨y,hy⟩:∃ y,IntKind.i64.wrap (d:Int)=y:=⟨_,rfl⟩
    have hyz:IntKind.i64.wrap (last+y)=last+(d:Int):=by
     rw[← hy,jeV,jeV];omega
    generalize last+(d:Int)=x at *;generalize (9223372036854775807-last).toNat=hi at *;clear jb8;go_wp2_with fail;refine(HD.o _).mono ?_;rintro e w1 ⟨rfl,rfl⟩;go_wp2_with fail;refine(La.o _ cP.o).mono ?_;rintro e w5 ⟨rfl,nG,iS⟩;have tU:=iS.size;have df:=ae ((HO.o.fr iS aB).kept ((jej _ _).alloc (jek _) (.cells #[.int .i64 x] 2)));have qF:=ae (nG.kept ((jej _ _).alloc (jek _) (.cells #[.int .i64 x] 2)) nG.lt);have vN:=ae ((np.o.trans (iS.mono bH)).then ((jej w.heap.size _).alloc (by omega) (.cells #[.int .i64 x] 2)));clear nG iS;go_wp2_with (first | (at_builtin;refine aY rfl _ _ rfl w.heap.size _ _ x us rfl df.o rfl ?c1 ?c2 ?c3 ?_))
    case c1=>exact aK _ _ _
    case c2=>omega
    case c3=>rw[jel];omega
    intro v7 w7 o7 b7;have iI:=ae o7;have Lc:=ae (qF.o.kept b7 aB);have HF7:=ae (vN.o.then b7);clear o7 b7;go_wp2_with fail;go_roundw
    case rel=>exact⟨us++[x],x,_,_,by simp,rfl,by simp;omega,HUS.o.snoc HX.o,HX.o,iI.o,Lc.o,YV.o,HF7.o⟩
    case measure=>simp[intOf];omega
  ·obtain rfl:us.length=m:=by omega
   have fy:=sM.o;rw[NL]at fy;have YW:=ae fy;clear fy sM;go_wp2_with fail;go_ret
   exact⟨us,b',f',⟨_,rfl,HO.o⟩,HUS.o,rfl,cP.o,YW.o,np.o⟩
theorem xo:∀{q:Nat} {last:Int} {b r:List Nat} {u:List Int},rdU q last b=.ok (u,r)->u.length=q
 | 0,last,b,r,u,h=>by
  simp only[rdU,Except.ok.injEq,Prod.mk.injEq]at h;rw[← h.1];rfl
 | q+1,last,b,r,u,h=>by
  rw[rdU]at h;obtain⟨d,q1,h1,h2⟩:=cx h;split at h2
  ·simp at h2
  ·obtain⟨m,q2,h3,h4⟩:=cx h2
   simp only[Except.ok.injEq,Prod.mk.injEq]at h4;rw[← h4.1,jer,xo h3]
def G3(n:Nat)(G:List Int->List Nat->Except Nat (List Int×List Nat))(u:List Int):List Nat->Except Nat (List Int×List Nat):=if n=0 then G [] else aC (pkd n (cX (u.length-1))) (fun p=>aC (picked u p) G)
theorem XH(n:Nat)(G:List Int->List Nat->Except Nat (List Int×List Nat)):aC (rd3 n) G=aC num (fun many=>if n<many∨many=0/\0<n then (fun _=>.error 40) else
  if n=0 then G [] else aC wh (fun x=>aC (rdU (many-1) x) (fun u=>aC (pkd n (cX (many-1))) (fun p=>aC (picked (x::u) p) G)))):=by
 have:rd3 n=aC num (fun many=>if n<many∨many=0/\0<n then (fun _=>.error 40) else if n=0 then (fun r=>.ok ([],r)) else
  aC wh (fun x=>aC (rdU (many-1) x) (fun u=>aC (pkd n (cX (many-1))) (fun p r=>picked (x::u) p r)))):=by
  funext b
  rfl
 rw[this,bS];congr 1
 funext many
 split
 ·rfl
 ·split
  ·rw[cJ]
  ·rw[bS]
   congr 1
   funext x
   rw[bS];congr 1
   funext u
   rw[bS]
theorem Th(n:Nat)(G:List Int->List Nat->Except Nat (List Int×List Nat))(many:Nat)(hm:0<many)(hn:n≠0):(aC wh (fun x=>aC (rdU (many-1) x) (fun u=>aC (pkd n (cX (many-1))) (fun p=>aC (picked (x::u) p) G))))=kD (G3 n G) many [] 0:=by
 unfold kD;rw[jei (show ([]:List Int).length=0 from rfl),jeh (by omega)];congr 1
 funext x b
 unfold aC;cases h:rdU (many-1) x b with
 | error e=>rfl
 | ok y =>
  obtain⟨u,r⟩:=y;have hl:=xo h;simp only;unfold G3;rw[jeh hn,jer,hl,jgc];rfl
theorem Ti(w:Nat):unE [] 0 w=0∨64<w:=by
 by_cases h:64<w
 ·exact Or.inr h
 ·left
  unfold unE;rw[jei (by omega),jei (by simp[by8,pk])]
theorem eo.none{D:Except Nat (List Int×List Nat)}{G:List Int->List Nat->Except Nat (List Int×List Nat)}(hG:∀ r:List Nat,r.length≠0->G [] r=.error 32){b:List Nat}{f w:Nat}(hw:w<=64)(h:eo D (G []) b f):eo D (G []) (pkB 0 w b) (pkF 0 w b f):=by
 obtain⟨h1,h2⟩:=h;have e0:by8 (0*w)=0:=by simp[by8]
 have e1:unE [] 0 w=0:=by
  rcases Ti w with h | h
  ·exact h
  ·omega
 unfold pkB pkF;rw[e0,jeh (by omega),jeh (by omega),List.drop_zero,jfK];rw[show unE [] ((0:Nat):Int) (w:Int)=0 from e1];by_cases hf:f=0
 ·subst hf
  rw[fh];by_cases hb:b.length=0
  ·rw[jei hb,fh]
   exact⟨fun _=>h1 rfl,fun e=>absurd rfl e⟩
  ·rw[jeh hb,eH (by omega)]
   refine⟨fun e=>by omega,fun _=>?_⟩;rw[h1 rfl];exact hG b hb
 ·rw[eH hf,eH hf]
  exact⟨fun e=>absurd e hf,h2⟩
theorem Tj{w:Nat}{b:List Nat}:pkL 0 w b=[]:=by
 have e0:by8 (0*w)=0:=by simp[by8]
 unfold pkL;rw[e0,jeh (by omega),jfK];unfold unR;split
 ·have:=dU w 0 (pk 8 [])
  apply jeI
  simpa using this
 ·rfl
theorem xp{n w:Nat}{b:List Nat}:(pkL n w b).length<=n:=by
 unfold pkL;split
 ·simp
 ·unfold unR
  split
  ·rw[dU];simp
  ·simp
theorem Tk{n w:Nat}{b:List Nat}:∀ x∈pkL n w b,x<18446744073709551616:=by
 unfold pkL;split
 ·simp
 ·exact ja7
theorem eo.places{D:Except Nat (List Int×List Nat)}{n:Nat}{G:List Int->List Nat->Except Nat (List Int×List Nat)}(hG:∀ r:List Nat,r.length≠0->G [] r=.error 32){u:List Int}{b:List Nat}{f:Nat}(hw:cX (u.length-1)<=64)(h:eo D (G3 n G u) b f) :
  eo D (aC (picked u (pkL n (cX (u.length-1)) b)) G) (pkB n (cX (u.length-1)) b) (pkF n (cX (u.length-1)) b f):=by
 unfold G3 at h;by_cases hn:n=0
 ·subst hn
  rw[jei rfl]at h;have:=h.none hG hw
  have e:aC (picked u (pkL 0 (cX (u.length-1)) b)) G=G []:=by
   rw[Tj];funext r
   unfold aC picked;rw[jei (by simp)];rfl
  rw[e];exact this
 ·rw[jeh hn]at h
  exact h.pkd
theorem eo.picks{D:Except Nat (List Int×List Nat)}{G:List Int->List Nat->Except Nat (List Int×List Nat)}{u:List Int}{P b:List Nat}{f:Nat}(h:eo D (aC (picked u P) G) b f)(hp:∀ q∈P,q<u.length):eo D (G (P.map fun q=>u.getD q 0)) b f:=by
 have e:aC (picked u P) G=G (P.map fun q=>u.getD q 0):=by
  funext r
  unfold aC picked;rw[jei hp]
 rwa[e]at h
theorem eo.strays{D:Except Nat (List Int×List Nat)}{G:List Int->List Nat->Except Nat (List Int×List Nat)}{u:List Int}{P b:List Nat}{f:Nat}{K:List Nat->Except Nat (List Int×List Nat)}(h:eo D (aC (picked u P) G) b f)(hp:¬ ∀ q∈P,q<u.length):eo D K b (orf f 40):=by
 obtain⟨h1,h2⟩:=h;by_cases hf:f=0
 ·subst hf
  rw[fh];refine⟨fun e=>by omega,fun _=>?_⟩;rw[h1 rfl];unfold aC picked;rw[jeh hp]
 ·rw[eH hf]
  exact⟨fun e=>absurd e hf,h2⟩
theorem Jg{n:Nat}(h:n<=256):cX (n-1)<=64:=eR.2 (by
 have:(256:Nat)<2 ^ 64:=by decide
 omega)
theorem Sv.atU{W:World}{a:Option Addr}{n cap:Nat}{l:List Nat}(h:Sv W (.slice a n cap) (aF .u64 l)){k:Nat}(hk:k<l.length) :
  ∃ b off,a=some ⟨b,off,none⟩/\b<W.heap.size/\W.cell? ⟨b,off+k,none⟩=some (.int .u64 (l[k]:Int)):=by
 obtain⟨a',c,h1,h2,h3,h4,h5⟩:=h;simp only[Value.slice.injEq]at h1;obtain⟨rfl,_,rfl⟩:=h1;obtain⟨b,off,h6,h7,h8⟩:=h5 (by rw[ap];omega);exact⟨b,off,h6,h7,h8 k _ (bU hk)⟩
theorem Jh{D:Except Nat (List Int×List Nat)}{G:List Int->List Nat->Except Nat (List Int×List Nat)}(hG:∀ r:List Nat,r.length≠0->G [] r=.error 32){w:World}{p n f:Nat}{b:List Nat}(h:StC 333 w p b f)(hn:n<=256)(hg:eo D (aC (rd3 n) G) b f) :
  Calls Tryz.prog 317 #[.pointer (some ⟨p,0,none⟩),.int .i64 (n:Int)] w (Ah D G p n w):=by
 have HS:=ae h;have HHG:=ae hG;have aB:=h.lt;obtain⟨fw,hfw⟩:∃ fw:Nat,min n 1=fw:=⟨_,rfl⟩;have YX:min (n:Int) 1=(fw:Int):=by omega
 rw[XH]at hg;have yA:=eo.num (lo:=fw) (hi:=n) (fun v=>by constructor<;>(intro h;omega)) hg;have La:=ae (lp h fw n (by omega) (by omega))
 have jb8:dw fw n (gt b).1<=n:=by
  unfold dw;split<;>omega
 have fy:eo D (kD (G3 n G) (dw fw n (gt b).1) [] 0) (b.drop (gt b).2.1) (eF fw n (gt b).1 (orf f (gt b).2.2)):=by
  by_cases qI:n=0
  ·subst qI
   rw[jei rfl]at yA;have h0:dw fw 0 (gt b).1=0:=(by omega);rw[h0]
   have e:kD (G3 0 G) 0 [] 0=G []:=by
    unfold kD G3;rfl
   rw[e];exact yA
  ·by_cases oE:dw fw n (gt b).1=0
   ·refine yA.any ?_
    have:(gt b).1<fw∨n<(gt b).1:=by
     unfold dw at oE;split at oE
     ·assumption
     ·omega
    exact ut this
   ·rw[jeh qI,Th n G _ (by omega) qI]at yA
    exact yA
 have sM:=ae fy;clear h hg yA fy hfw hG;generalize dw fw n (gt b).1=cnt at *;generalize eF fw n (gt b).1 (orf f (gt b).2.2)=f1 at *;generalize b.drop (gt b).2.1=b1 at *;go_enter Tryz.func317,Tryz.ntmps317
 go_wp2_with fail;refine La.o.mono ?_;rintro e w1 ⟨rfl,eg,dh⟩;have ja:=ae eg;have gp:=ae dh;have cK:=dh.size;have zm:=eg.lt;clear eg dh;go_wp2_with fail;refine(Jf ja.o (by omega) sM.o).mono ?_;rintro e w2 ⟨us,b2,f2,⟨v2,rfl,ft⟩,hus,vK,dR,gY,dG⟩;subst vK;have dz:=ae ft;have HUS:=ae hus;have gj:=ae dR;have Ld:=ae gY;have gP:=ae (gp.o.trans (dG.mono cK));have bv:=dG.size;have jT:=dR.lt;obtain⟨a2,c2,rfl⟩:=ft.len;clear ft hus dR gY dG sM;have lC:=Jg (n:=us.length) (by omega);go_wp2_with fail;refine(nT us.length (by omega) _).mono ?_;rintro e w3 ⟨rfl,aS⟩;have dd:=ae (dz.o.kept aS);have nF:=ae (gj.o.kept aS jT);have qE:=ae (gP.o.then (aS.mono (by omega)));have iN:=aS.size;clear aS;have YY:=ae (Ld.o.places HHG.o lC);have sL:=ae (xp (n:=n) (w:=cX (us.length-1)) (b:=b2));have HPX:=ae (Tk (n:=n) (w:=cX (us.length-1)) (b:=b2));have Qr:=ae (xm nF.o n (cX (us.length-1)) hn lC);clear Ld lC;generalize pkL n (cX (us.length-1)) b2=P at *;generalize pkB n (cX (us.length-1)) b2=b3 at *;generalize pkF n (cX (us.length-1)) b2 f2=f3 at *;generalize cX (us.length-1)=ww at *;go_wp2_with fail;refine Qr.o.mono ?_;rintro e w4 ⟨⟨v4,rfl,gQ⟩,ym,pT⟩;have HP4:=ae gQ;have vM:=ae ym;have HU4:=ae (dd.o.fr pT zm);have yy:=ae (qE.o.trans (pT.mono (by omega)));have KR:=pT.size;have Le:=ym.lt;obtain⟨a4,c4,rfl⟩:=gQ.len;have hPl:=sL.o;clear gQ ym pT;go_wp2_with fail;go_loopw [8,30] (fun v i wr=>∃ k:Nat,k<=P.length/\i=.int .i64 (k:Int)/\(∀ q∈P.take k,q<us.length)/\bF wr w4.heap.size v ((P.take k).map fun q=>us.getD q 0)/\Below w4.heap.size w4 wr) (fun _ i _=>P.length-(intOf i).toNat)
 case atStart=>exact⟨0,by omega,rfl,fun q hq=>by simp at hq,bF.nil _ _,jej _ _⟩
 case round =>
  obtain⟨k,hk,rfl,cZ,how,az⟩:=hrel;have HAL:=ae cZ;have HO:=ae how;have HB:=ae az;have bH:=az.size;obtain⟨av,cv,rfl⟩:=how.len;clear cZ how az;by_cases vO:k<P.length
  ·have Lf:(k:Int)<(P.length:Int):=by omega
   obtain⟨bp,op,WK,hbp2,hckp⟩:=(HP4.o.kept HB.o).sv.atU vO;cases WK
   have hqx:=HPX.o P[k] (jeo vO);have sy:=ae (jeA vO);have KX:=ae (jeo vO);by_cases hq:P[k]<us.length
   ·have nw:¬ ((P[k]:Nat):Int)>=(us.length:Int):=by omega
    obtain⟨bu,ou,Vz,hbu2,hcku⟩:=(HU4.o.kept HB.o).sv.at hq;cases Vz
    have HGD:jgf (us.getD P[k] 0=us[P[k]]):=ae (by simp[List.getD_eq_getElem?_getD,hq]);have zf:((P.take k).map fun q=>us.getD q 0).length<=256:=by rw[jen,jeq];omega
    generalize us[P[k]]=x at *;generalize P[k]=q at *;obtain⟨ys,zk⟩:∃ ys,((P.take k).map fun q=>us.getD q 0)=ys:=⟨_,rfl⟩;rw[zk]at HO zf ⊢;have KZ:=ae zk;clear zk;have nE:=ae (HO.o.kept ((jej _ _).alloc (jek _) (.cells #[.int .i64 x] 2)));have fx:=ae (HB.o.alloc bH (.cells #[.int .i64 x] 2));go_wp2_with (first | (at_builtin;refine aY rfl _ _ rfl w4.heap.size _ _ x ys rfl nE.o rfl ?c1 ?c2 ?c3 ?_))
    case c2=>omega
    case c3=>omega
    intro v7 w7 o7 b7;have iI:=ae o7;have ir:=ae (fx.o.trans b7);clear o7 b7;go_wp2_with fail;go_roundw
    case rel =>
     refine⟨k+1,by omega,by go_num,?_,?_,ir.o⟩
     ·rw[sy.o]
      intro q' hq';rcases jeN.1 hq' with h | h
      ·exact HAL.o q' h
      ·rw[jeX.1 h]
       exact hq
     ·rw[sy.o,jeE,KZ.o,List.map_singleton,HGD.o]
      exact iI.o
    case measure=>simp[intOf];omega
   ·have nw:((P[k]:Nat):Int)>=(us.length:Int):=by omega
    have tV:jgf (¬ ∀ q∈P,q<us.length):=ae (fun h=>hq (h _ KX.o));have YW:=ae (YY.o.strays (K:=G []) tV.o);clear hq;generalize P[k]=q at *;go_wp2_with fail;refine(dv (vM.o.kept HB.o Le) 40).mono ?_;rintro e w8 ⟨rfl,hs8,hf8⟩;have HS8:=ae hs8;have HF8:=ae ((yy.o.then (HB.o.mono (by omega))).trans (hf8.mono (by omega)));clear hs8 hf8;go_wp2_with fail;go_ret
    exact⟨[],_,_,⟨_,rfl,bF.nil _ _⟩,fun x hx=>by simp at hx,by simp,HS8.o,YW.o,HF8.o⟩
  ·obtain rfl:k=P.length:=by omega
   have Lf:¬ (P.length:Int)<(P.length:Int):=(by omega);have cZ:=HAL.o;rw[jes]at cZ HO;have YW:=ae (YY.o.picks cZ);have GJ:=ae (yy.o.then (HB.o.mono (by omega)));have WL:=HO.o.low (show w.heap.size<=w4.heap.size by omega);rw[jen]at WL;have YZ:=ae WL;clear WL
   have jcc:jgf (Is (P.map fun q=>us.getD q 0)):=ae (fun y hy=>by
    obtain⟨q,hq,rfl⟩:=jeF.1 hy;have:=cZ q hq;rw[List.getD_eq_getElem?_getD,List.getElem?_eq_getElem this];exact HUS.o _ (jeo this))
   have vJ:jgf ((P.map fun q=>us.getD q 0).length<=n):=ae (by rw[jen];exact hPl);clear cZ;go_wp2_with fail;go_ret
   exact⟨_,_,_,⟨_,rfl,YZ.o⟩,jcc.o,vJ.o,vM.o.kept HB.o Le,YW.o,GJ.o⟩
theorem XI(n:Nat)(hn:n≠0)(G:List Int->List Nat->Except Nat (List Int×List Nat)):aC (rd4 n) G=aC wh (fun x=>aC num (fun w=>if 64<w then (fun _=>.error 40) else aC (pkd n w) (fun p=>G (p.map (fun(q:Nat)=>w64 (x+(q:Int))))))):=by
 have:rd4 n=aC wh (fun x=>aC num (fun w=>if 64<w then (fun _=>.error 40) else aC (pkd n w) (fun p r=>.ok (p.map (fun(q:Nat)=>w64 (x+(q:Int))),r)))):=by
  funext b
  unfold rd4;rw[jeh hn]
 rw[this,bS];congr 1
 funext x
 rw[bS];congr 1
 funext w
 split
 ·rfl
 ·rw[bS]
  rfl
theorem Tl(G:List Int->List Nat->Except Nat (List Int×List Nat)):aC (rd4 0) G=G []:=by
 have:rd4 0=fun b=>.ok ([],b):=by funext b;rfl
 rw[this,cJ]
theorem Eu{D:Except Nat (List Int×List Nat)}{G:List Int->List Nat->Except Nat (List Int×List Nat)}{w:World}{p n f:Nat}{b:List Nat}(h:StC 333 w p b f)(hn:n<=256)(hg:eo D (aC (rd4 n) G) b f) :
  Calls Tryz.prog 318 #[.pointer (some ⟨p,0,none⟩),.int .i64 (n:Int)] w (Ah D G p n w):=by
 have HS:=ae h;have aB:=h.lt;by_cases qI:n=0
 ·subst qI
  rw[Tl]at hg;have HG:=ae hg;clear h hg;go_enter Tryz.func318,Tryz.ntmps318
  go_wp2_with fail;go_ret
  exact⟨[],b,f,⟨_,rfl,bF.nil _ _⟩,fun x hx=>by simp at hx,by simp,HS.o,HG.o,Fr.refl _ _ _⟩
 ·have Za:((n:Int)==0)=false:=jev.2 (by omega)
  rw[XI n qI]at hg;have eZ:=hg.wh;have HX:=ae (kl (gd b).1);have HW:=ae (mg h);clear h hg;generalize fL (gt b).1=x at *;generalize b.drop (gt b).2.1=b1 at *;generalize orf f (gt b).2.2=f1 at *;have gY:=eo.num (lo:=0) (hi:=64) (fun v=>by constructor<;>(intro h;omega)) eZ;have La:jgf (∀ W,StC 333 W p b1 f1->Calls Tryz.prog 321 #[.pointer (some ⟨p,0,none⟩),.int .u64 (0:Int),.int .u64 (64:Int)] W fun r w'=>r=.returned (.int .u64 (dw 0 64 (gt b1).1:Int))/\StC 333 w' p (b1.drop (gt b1).2.1) (eF 0 64 (gt b1).1 (orf f1 (gt b1).2.2))/\Fr p W.heap.size W w'):=fun W h=>lp h 0 64 (by omega) (by omega)
  have hwle:dw 0 64 (gt b1).1<=64:=by
   unfold dw;split<;>omega
  clear eZ qI;generalize dw 0 64 (gt b1).1=ww at *;generalize eF 0 64 (gt b1).1 (orf f1 (gt b1).2.2)=f2 at *;generalize b1.drop (gt b1).2.1=b2 at *;have YY:=ae gY.pkd;have sL:=ae (xp (n:=n) (w:=ww) (b:=b2));have HPX:=ae (Tk (n:=n) (w:=ww) (b:=b2));have Qr:jgf (∀ W,StC 333 W p b2 f2->Calls Tryz.prog 323 #[.pointer (some ⟨p,0,none⟩),.int .i64 (n:Int),.int .i64 (ww:Int)] W fun r w'=>(∃ v,r=.returned v/\dJ w' W.heap.size v (pkL n ww b2))/\StC 333 w' p (pkB n ww b2) (pkF n ww b2 f2)/\Fr p W.heap.size W w'):=fun W h=>xm h n ww hn hwle
  clear gY;generalize pkL n ww b2=P at *;generalize pkB n ww b2=b3 at *;generalize pkF n ww b2 f2=f3 at *;go_enter Tryz.func318,Tryz.ntmps318
  go_wp2_with fail;refine HW.o.mono ?_;rintro e w1 ⟨rfl,eg,dh⟩;have ja:=ae eg;have gp:=ae dh;have cK:=dh.size;clear eg dh;go_wp2_with fail;refine(La.o _ ja.o).mono ?_;rintro e w2 ⟨rfl,dR,dG⟩;have gj:=ae dR;have gP:=ae (gp.o.trans (dG.mono cK));have bv:=dG.size;clear dR dG;go_wp2_with fail;refine(Qr.o _ gj.o).mono ?_;rintro e w4 ⟨⟨v4,rfl,gQ⟩,ym,pT⟩;have HP4:=ae gQ;have vM:=ae ym;have yy:=ae (gP.o.trans (pT.mono (by omega)));have KR:=pT.size;have Le:=ym.lt;obtain⟨a4,c4,rfl⟩:=gQ.len;have hPl:=sL.o;clear gQ ym pT;go_wp2_with fail;go_loopw [7,22] (fun v i wr=>∃ k:Nat,k<=P.length/\i=.int .i64 (k:Int)/\bF wr w4.heap.size v ((P.take k).map fun(q:Nat)=>w64 (x+(q:Int)))/\Below w4.heap.size w4 wr) (fun _ i _=>P.length-(intOf i).toNat)
  case atStart=>exact⟨0,by omega,rfl,bF.nil _ _,jej _ _⟩
  case round =>
   obtain⟨k,hk,rfl,how,az⟩:=hrel;have HO:=ae how;have HB:=ae az;have bH:=az.size;obtain⟨av,cv,rfl⟩:=how.len;clear how az;by_cases vO:k<P.length
   ·have Lf:(k:Int)<(P.length:Int):=by omega
    obtain⟨bp,op,WK,hbp2,hckp⟩:=(HP4.o.kept HB.o).sv.atU vO;cases WK
    have hqx:=HPX.o P[k] (jeo vO);have sy:=ae (jeA vO);have zf:((P.take k).map fun(q:Nat)=>w64 (x+(q:Int))).length<=256:=by rw[jen,jeq];omega
    generalize P[k]=q at *;obtain⟨y,hy⟩:∃ y,IntKind.i64.wrap (q:Int)=y:=⟨_,rfl⟩;obtain⟨z,hz⟩:∃ z,w64 (x+(q:Int))=z:=⟨_,rfl⟩
    have hyz:IntKind.i64.wrap (x+y)=z:=by
     rw[← hy,← hz,← rB,jeV,jeV,jeV];omega
    have HZ:=ae hz;obtain⟨ys,zk⟩:∃ ys,((P.take k).map fun(q:Nat)=>w64 (x+(q:Int)))=ys:=⟨_,rfl⟩;rw[zk]at HO zf ⊢;have KZ:=ae zk;clear zk hz;have nE:=ae (HO.o.kept ((jej _ _).alloc (jek _) (.cells #[.int .i64 z] 2)));have fx:=ae (HB.o.alloc bH (.cells #[.int .i64 z] 2));go_wp2_with (first | (at_builtin;refine aY rfl _ _ rfl w4.heap.size _ _ z ys rfl nE.o rfl (aK _ _ _) ?c2 ?c3 ?_))
    case c2=>omega
    case c3=>first | omega | (rw[jel];omega)
    intro v7 w7 o7 b7;have iI:=ae o7;have ir:=ae (fx.o.trans b7);clear o7 b7;go_wp2_with fail;go_roundw
    case rel =>
     refine⟨k+1,by omega,by go_num,?_,ir.o⟩;rw[sy.o,jeE,KZ.o,List.map_singleton,HZ.o];exact iI.o
    case measure=>simp[intOf];omega
   ·obtain rfl:k=P.length:=by omega
    have Lf:¬ (P.length:Int)<(P.length:Int):=(by omega);rw[jes]at HO;have GJ:=ae (yy.o.then (HB.o.mono (by omega)));have WL:=HO.o.low (show w.heap.size<=w4.heap.size by omega);rw[jen]at WL;have YZ:=ae WL;clear WL
    have jcc:jgf (Is (P.map fun(q:Nat)=>w64 (x+(q:Int)))):=ae (fun y hy=>by
     obtain⟨q,hq,rfl⟩:=jeF.1 hy;exact jq _)
    have vJ:jgf ((P.map fun(q:Nat)=>w64 (x+(q:Int))).length<=n):=ae (by rw[jen];exact hPl);go_wp2_with fail;go_ret
    exact⟨_,_,_,⟨_,rfl,YZ.o⟩,jcc.o,vJ.o,vM.o.kept HB.o Le,YY.o,GJ.o⟩
theorem Tm{D:Except Nat (List Int×List Nat)}{G:List Int->List Nat->Except Nat (List Int×List Nat)}(hG:∀ r:List Nat,r.length≠0->G [] r=.error 32){w:World}{p n f c:Nat}{b:List Nat}(h:StC 333 w p b f)(hn:n<=256)(hc:c<=4)(hg:eo D (aC (rdC c n) G) b f) :
  Calls Tryz.prog 307 #[.pointer (some ⟨p,0,none⟩),.int .u8 (c:Int),.int .i64 (n:Int)] w (Ah D G p n w):=by
 obtain rfl | rfl | rfl | rfl | rfl:c=0∨c=1∨c=2∨c=3∨c=4:=by omega
 ·have HC:=ae (Tc h hn hg)
  clear h hg hG;go_enter Tryz.func307,Tryz.ntmps307
  go_wp2_with fail;refine HC.o.mono ?_;rintro e w1 ⟨l,b',f',⟨v,rfl,ho⟩,hr⟩;have HO:=ae ho;have HR:=ae hr;clear ho hr;go_wp2_with fail;go_ret
  exact⟨l,b',f',⟨_,rfl,HO.o⟩,HR.o⟩
 ·have HC:=ae (NJ h hn hg)
  clear h hg hG;go_enter Tryz.func307,Tryz.ntmps307
  go_wp2_with fail;refine HC.o.mono ?_;rintro e w1 ⟨l,b',f',⟨v,rfl,ho⟩,hr⟩;have HO:=ae ho;have HR:=ae hr;clear ho hr;go_wp2_with fail;go_ret
  exact⟨l,b',f',⟨_,rfl,HO.o⟩,HR.o⟩
 ·have HC:=ae (Tf h hn hg)
  clear h hg hG;go_enter Tryz.func307,Tryz.ntmps307
  go_wp2_with fail;refine HC.o.mono ?_;rintro e w1 ⟨l,b',f',⟨v,rfl,ho⟩,hr⟩;have HO:=ae ho;have HR:=ae hr;clear ho hr;go_wp2_with fail;go_ret
  exact⟨l,b',f',⟨_,rfl,HO.o⟩,HR.o⟩
 ·have HC:=ae (Jh hG h hn hg)
  clear h hg hG;go_enter Tryz.func307,Tryz.ntmps307
  go_wp2_with fail;refine HC.o.mono ?_;rintro e w1 ⟨l,b',f',⟨v,rfl,ho⟩,hr⟩;have HO:=ae ho;have HR:=ae hr;clear ho hr;go_wp2_with fail;go_ret
  exact⟨l,b',f',⟨_,rfl,HO.o⟩,HR.o⟩
 ·have HC:=ae (Eu h hn hg)
  clear h hg hG;go_enter Tryz.func307,Tryz.ntmps307
  go_wp2_with fail;refine HC.o.mono ?_;rintro e w1 ⟨l,b',f',⟨v,rfl,ho⟩,hr⟩;have HO:=ae ho;have HR:=ae hr;clear ho hr;go_wp2_with fail;go_ret
  exact⟨l,b',f',⟨_,rfl,HO.o⟩,HR.o⟩
end Go.Proofs.YtpljdjmpamjkhaaGreatDoor
