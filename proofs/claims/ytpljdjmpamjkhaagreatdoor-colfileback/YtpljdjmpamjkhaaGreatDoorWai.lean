import Derived.Test.YtpljdjmpamjkhaaGreatDoorWah
set_option linter.unusedVariables false
set_option linter.unusedSimpArgs false
set_option maxRecDepth 100000
set_option maxHeartbeats 4000000
namespace Go.Proofs.YtpljdjmpamjkhaaGreatDoor
open Go.RowKit Go.Lib
theorem ce{W:World}{p T:Nat}{c:Array Value}{fz:Nat×Nat}(h:W.heap[p]?=some (.cells c T fz))(i:Nat)(v:Value):(W.setCell ⟨p,i,none⟩ v).heap[p]?=some (.cells (c.setIfInBounds i v) T fz):=by
 rw[Sort.setCell_eq];simp[Sort.mapBlock,Array.getElem?_modify,h,Sort.onCells]
def StC(T:Nat)(W:World)(p:Nat)(b:List Nat)(f:Nat):Prop :=
 ∃ g off cap,W.heap[p]?=some (.cells #[.slice (some ⟨g,off,none⟩) b.length cap,.int .i64 (f:Int)] T (0,0))/\g<p/\b.length<=cap/\cap<=maxLen/\Bs b /\
  ∀ j (h:j<b.length),W.cell? ⟨g,off+j,none⟩=some (.int .u8 (b[j]:Int))
theorem StC.bs{T:Nat}{W:World}{p:Nat}{b:List Nat}{f:Nat}(h:StC T W p b f):Bs b:=by obtain⟨_,_,_,_,_,_,_,h,_⟩:=h;exact h
theorem StC.lt{T:Nat}{W:World}{p:Nat}{b:List Nat}{f:Nat}(h:StC T W p b f):p<W.heap.size:=by obtain⟨_,_,_,h,_⟩:=h;exact(Array.getElem?_eq_some_iff.1 h).1
theorem StC.kept{T:Nat}{W W':World}{p B:Nat}{b:List Nat}{f:Nat}(h:StC T W p b f)(hb:Below B W W')(hp:p<B):StC T W' p b f:=by
 obtain⟨g,off,cap,h1,h2,h3,h4,h5,h6⟩:=h;exact⟨g,off,cap,(hb.block p hp).trans h1,h2,h3,h4,h5,fun j hj=>(hb.cell (p:=⟨g,off+j,none⟩) (show g<B by omega)).trans (h6 j hj)⟩
theorem StC.cells{T:Nat}{W:World}{p:Nat}{b:List Nat}{f:Nat}(h:StC T W p b f) :
  ∃ g off cap,W.cell? ⟨p,0,none⟩=some (.slice (some ⟨g,off,none⟩) b.length cap)/\W.cell? ⟨p,1,none⟩=some (.int .i64 (f:Int))/\W.frozen? ⟨p,0,none⟩=false/\W.frozen? ⟨p,1,none⟩=false /\
   b.length<=cap/\cap<=9223372036854775807/\Sv W (.slice (some ⟨g,off,none⟩) b.length cap) (az .u8 b)/\g<p /\
   (∀ f':Nat,StC T (W.setCell ⟨p,1,none⟩ (.int .i64 (f':Int))) p b f') /\
   (∀ k,k<=b.length->∃ A,(if cap=k then (some ⟨g,off,none⟩:Option Addr) else some ⟨g,off+k,none⟩)=A/\StC T (W.setCell ⟨p,0,none⟩ (.slice A (b.length-k) (cap-k))) p (b.drop k) f):=by
 have ar:=h.lt;obtain⟨g,off,cap,h1,h2,h3,h4,h5,h6⟩:=h
 have fV:Sv W (.slice (some ⟨g,off,none⟩) b.length cap) (az .u8 b):=by
  refine⟨_,cap,by rw[am],by rw[am];omega,h4,fun e=>by(cases e),fun h0=>⟨g,off,rfl,by omega,fun j x hj=>?_⟩⟩
  have hj':j<b.length:=by
   have:=(List.getElem?_eq_some_iff.1 hj).1;rwa[am]at this
  rw[bG hj']at hj;rw[h6 j hj'];exact hj
 refine⟨g,off,cap,by rw[an h1];rfl,by rw[an h1];rfl,by simp[World.frozen?,h1],by simp[World.frozen?,h1],h3,by unfold maxLen at h4;omega,fV,h2,fun f'=>?_,fun k hk=>?_⟩
 ·refine⟨g,off,cap,by rw[ce h1];rfl,h2,h3,h4,h5,fun j hj=>?_⟩
  rw[World.cell?_of_block (w:=W) (Below.heap_setCell _ _ _ _ (show g≠p by omega))];exact h6 j hj
 ·obtain⟨A,hA,hSA⟩:=yi fV (k:=k) (by rw[am];exact hk)
  refine⟨A,hA,?_⟩;have hl:(b.drop k).length=b.length-k:=Zf;have Cv:Bs (b.drop k):=fun x hx=>h5 x (jav hx)
  by_cases ek:cap=k
  ·rw[Yy ek]at hA
   subst hA;refine⟨g,off,cap-k,by rw[ce h1,hl];rfl,h2,by omega,by omega,Cv,fun j hj=>by omega⟩
  ·rw[Yx ek]at hA
   subst hA;refine⟨g,off+k,cap-k,by rw[ce h1,hl];rfl,h2,by omega,by omega,Cv,fun j hj=>?_⟩;rw[World.cell?_of_block (w:=W) (Below.heap_setCell _ _ _ _ (show g≠p by omega)),ZR,h6 (k+j) (by omega)];simp
theorem cE{w:World}{p f:Nat}{b:List Nat}(h:StC 333 w p b f)(e:Nat) :
  Calls Tryz.prog 310 #[.pointer (some ⟨p,0,none⟩),.int .i64 (e:Int)] w fun r w'=>r=.returned (.tuple #[])/\StC 333 w' p b (orf f e)/\Fr p w.heap.size w w':=by
 have HS:=ae h;obtain⟨g,off,cap,h0,h1,h2,h3,h4,h5,h6,h7,h8,h9⟩:=h.cells;have H8:=ae (h8 e);have HF:=ae ((Fr.refl p w.heap.size w).set 1 (.int .i64 (e:Int)));clear h h6 h8 h9;by_cases hf:((f:Int)==0)=true
 ·have hf':f=0:=by simpa using hf
  have HO:jaH (orf f e=e):=by show _=_;unfold orf;rw[Yy hf']
  clear hf';go_enter Tryz.func310,Tryz.ntmps310
  go_wp2_with fail;go_end0
  rw[HO.o];exact⟨rfl,H8.o,HF.o⟩
 ·have hff:((f:Int)==0)=false:=by simpa using hf
  have HO:jaH (orf f e=f):=by show _=_;unfold orf;rw[Yx (fun e=>hf (by simp[e]))]
  clear hf;go_enter Tryz.func310,Tryz.ntmps310
  go_wp2_with fail;go_end0
  rw[HO.o];exact⟨rfl,HS.o,Fr.refl _ _ _⟩
theorem FU{w:World}{p f:Nat}{b:List Nat}(h:StC 333 w p b f) :
  Calls Tryz.prog 308 #[.pointer (some ⟨p,0,none⟩)] w fun r w'=>r=.returned (.tuple #[])/\StC 333 w' p b (orf f (if b.length=0 then 0 else 32))/\Fr p w.heap.size w w':=by
 have HS:=ae h;obtain⟨g,off,cap,h0,h1,h2,h3,h4,h5,h6,h7,h8,h9⟩:=h.cells;have HR:=ae (cE h 32);clear h h6 h8 h9;by_cases hp:(b.length:Int) > 0
 ·rw[Yx (by omega)]
  go_enter Tryz.func308,Tryz.ntmps308
  go_wp2_with fail;refine HR.o.mono ?_;rintro e w1 ⟨rfl,da,cB⟩;have gI:=ae da;clear da;go_wp2_with fail;go_end0
  exact⟨rfl,gI.o,cB⟩
 ·have cO:b.length=0:=by omega
  rw[Yy cO];have HO:jaH (orf f 0=f):=by show _=_;unfold orf;split<;>simp_all
  clear cO;go_enter Tryz.func308,Tryz.ntmps308
  go_wp2_with fail;go_end0
  rw[HO.o];exact⟨rfl,HS.o,Fr.refl _ _ _⟩
theorem Hy{w:World}{a:Option Addr}{n cap:Nat}{b:List Nat}(hb:Bs b)(h:Sv w (.slice a n cap) (az .u8 b)) :
  Calls Tryz.prog 324 #[.slice a n cap] w fun e w'=>e=jG .i64 (eC (gt b).1) (gt b).2.1 (gt b).2.2/\w'=w:=Dn (h.sl hb)
theorem kD{w:World}{p f:Nat}{b:List Nat}(h:StC 333 w p b f) :
  Calls Tryz.prog 320 #[.pointer (some ⟨p,0,none⟩)] w fun r w'=>r=.returned (.int .i64 (eC (gt b).1))/\StC 333 w' p (b.drop (gt b).2.1) (orf f (gt b).2.2)/\Fr p w.heap.size w w':=by
 have HS:=ae h;have HB:=ae h.bs;obtain⟨g,off,cap,h0,h1,h2,h3,h4,h5,h6,h7,h8,h9⟩:=h.cells;obtain⟨g1,g2,g3,g4⟩:=eI b;have HG:=ae (Hy HB.o h6);have HU:=ae (iQ g1);clear h h6 h8 h9 g4;generalize gt b=x at *;obtain⟨n,u,c⟩:=x;simp only at *;unfold jG at HG;generalize eC n=z at *;go_enter Tryz.func320,Tryz.ntmps320
 go_wp2_with fail;refine HG.o.mono ?_;rintro e w1 ⟨rfl,rfl⟩;go_wp2_with fail;refine(cE HS.o c).mono ?_;rintro e w2 ⟨rfl,cP,cK⟩;obtain⟨G,Off,Cap,k0,k1,k2,k3,k4,k5,k6,k7,k8,k9⟩:=cP.cells;obtain⟨A,hA,hSA⟩:=k9 u g2;have kj:=ae hSA;have eT:=ae (cK.set 0 (.slice A (b.length-u) (Cap-u)));clear cP cK k8 k9 k6 hSA h0 h1 h2 h3;go_wp2_with fail;go_ret
 exact⟨rfl,kj.o,eT.o⟩
def cF(lo hi v:Nat):Nat:=if v<lo∨hi<v then 0 else v
def dy(lo hi v f:Nat):Nat:=if v<lo∨hi<v then orf f 40 else f
theorem jU{w:World}{p f:Nat}{b:List Nat}(h:StC 333 w p b f)(lo hi:Nat)(hlo:lo<18446744073709551616)(KB:hi<18446744073709551616) :
  Calls Tryz.prog 321 #[.pointer (some ⟨p,0,none⟩),.int .u64 (lo:Int),.int .u64 (hi:Int)] w fun r w'=>r=.returned (.int .u64 (cF lo hi (gt b).1:Int))/\StC 333 w' p (b.drop (gt b).2.1) (dy lo hi (gt b).1 (orf f (gt b).2.2))/\Fr p w.heap.size w w':=by
 have HS:=ae h;have HB:=ae h.bs;obtain⟨g,off,cap,h0,h1,h2,h3,h4,h5,h6,h7,h8,h9⟩:=h.cells;obtain⟨g1,g2,g3,g4⟩:=eI b;have HG:=ae (xQ HB.o h6);clear h h6 h8 h9 g4;generalize gt b=x at *;obtain⟨n,u,c⟩:=x;simp only at *;unfold jG at HG;by_cases hb:n<lo∨hi<n
 ·have HW:jaH (cF lo hi n=0/\dy lo hi n (orf f c)=orf (orf f c) 40):=⟨Yy hb,Yy hb⟩
  by_cases hl:(n:Int)<(lo:Int)
  ·clear hb
   go_enter Tryz.func321,Tryz.ntmps321
   go_wp2_with fail;refine HG.o.mono ?_;rintro e w1 ⟨rfl,rfl⟩;go_wp2_with fail;refine(cE HS.o c).mono ?_;rintro e w2 ⟨rfl,cP,cK⟩;obtain⟨G,Off,Cap,k0,k1,k2,k3,k4,k5,k6,k7,k8,k9⟩:=cP.cells;obtain⟨A,hA,hSA⟩:=k9 u g2;have kj:=ae hSA;have eT:=ae (cK.set 0 (.slice A (b.length-u) (Cap-u)));clear cP cK k8 k9 k6 hSA h0 h1 h2 h3;go_wp2_with fail;refine(cE kj.o 40).mono ?_;rintro e w3 ⟨rfl,jX,gC⟩;have lC:=ae jX;have og:=ae (eT.o.trans (gC.mono eT.o.size));clear jX gC;go_wp2_with fail;go_ret
   rw[HW.o.1,HW.o.2];exact⟨rfl,lC.o,og.o⟩
  ·have hh:(n:Int) > (hi:Int):=by omega
   clear hb;go_enter Tryz.func321,Tryz.ntmps321
   go_wp2_with fail;refine HG.o.mono ?_;rintro e w1 ⟨rfl,rfl⟩;go_wp2_with fail;refine(cE HS.o c).mono ?_;rintro e w2 ⟨rfl,cP,cK⟩;obtain⟨G,Off,Cap,k0,k1,k2,k3,k4,k5,k6,k7,k8,k9⟩:=cP.cells;obtain⟨A,hA,hSA⟩:=k9 u g2;have kj:=ae hSA;have eT:=ae (cK.set 0 (.slice A (b.length-u) (Cap-u)));clear cP cK k8 k9 k6 hSA h0 h1 h2 h3;go_wp2_with fail;refine(cE kj.o 40).mono ?_;rintro e w3 ⟨rfl,jX,gC⟩;have lC:=ae jX;have og:=ae (eT.o.trans (gC.mono eT.o.size));clear jX gC;go_wp2_with fail;go_ret
   rw[HW.o.1,HW.o.2];exact⟨rfl,lC.o,og.o⟩
 ·have HW:jaH (cF lo hi n=n/\dy lo hi n (orf f c)=orf f c):=⟨Yx hb,Yx hb⟩
  have hl:¬ (n:Int)<(lo:Int):=by omega
  have hh:¬ (n:Int) > (hi:Int):=by omega
  clear hb;go_enter Tryz.func321,Tryz.ntmps321
  go_wp2_with fail;refine HG.o.mono ?_;rintro e w1 ⟨rfl,rfl⟩;go_wp2_with fail;refine(cE HS.o c).mono ?_;rintro e w2 ⟨rfl,cP,cK⟩;obtain⟨G,Off,Cap,k0,k1,k2,k3,k4,k5,k6,k7,k8,k9⟩:=cP.cells;obtain⟨A,hA,hSA⟩:=k9 u g2;have kj:=ae hSA;have eT:=ae (cK.set 0 (.slice A (b.length-u) (Cap-u)));clear cP cK k8 k9 k6 hSA h0 h1 h2 h3;go_wp2_with fail;go_ret
  rw[HW.o.1,HW.o.2];exact⟨rfl,kj.o,eT.o⟩
def pkL(n w:Nat)(b:List Nat):List Nat:=if b.length<by8 (n*w) then [] else unR (b.take (by8 (n*w))) n w
def pkB(n w:Nat)(b:List Nat):List Nat:=if b.length<by8 (n*w) then b else b.drop (by8 (n*w))
def pkF(n w:Nat)(b:List Nat)(f:Nat):Nat :=
 if b.length<by8 (n*w) then orf f 30 else orf (orf f (if (b.drop (by8 (n*w))).length=0 then 0 else 32)) (unE (b.take (by8 (n*w))) n w)
theorem wQ(k:IntKind)(l:List Nat)(n:Nat):az k (l.take n)=(az k l).take n:=by simp[az,jah]
theorem tR{w:World}{p f:Nat}{b:List Nat}(h:StC 333 w p b f)(n ww:Nat)(hn:n<=256)(Ro:ww<=64) :
  Calls Tryz.prog 323 #[.pointer (some ⟨p,0,none⟩),.int .i64 (n:Int),.int .i64 (ww:Int)] w fun r w'=>(∃ v,r=.returned v/\em w' w.heap.size v (pkL n ww b))/\StC 333 w' p (pkB n ww b) (pkF n ww b f)/\Fr p w.heap.size w w':=by
 have HS:=ae h;have HB:=ae h.bs;have ar:=h.lt;obtain⟨g,off,cap,h0,h1,h2,h3,h4,h5,h6,h7,h8,h9⟩:=h.cells;have hc:n*ww<=16384:=YG (Nat.mul_le_mul hn Ro) (by omega);have hmul:(n:Int)*(ww:Int)=((n*ww:Nat):Int):=by simp
 have hby2:(((n*ww:Nat):Int)+8-1) / 8=((by8 (n*ww):Nat):Int):=by unfold by8;omega
 have gV:by8 (n*ww)<=2048:=by unfold by8;omega
 have HL:jaH (pkL n ww b=if b.length<by8 (n*ww) then [] else unR (b.take (by8 (n*ww))) n ww):=rfl;have fW:jaH (pkB n ww b=if b.length<by8 (n*ww) then b else b.drop (by8 (n*ww))):=rfl;have Lg:jaH (pkF n ww b f=if b.length<by8 (n*ww) then orf f 30 else orf (orf f (if (b.drop (by8 (n*ww))).length=0 then 0 else 32)) (unE (b.take (by8 (n*ww))) n ww)):=rfl;have Cc:=ae h6;clear h h6 h8 h9;generalize by8 (n*ww)=L at *;generalize n*ww=c at *;generalize pkL n ww b=RL at *;generalize pkB n ww b=RB at *;generalize pkF n ww b f=RF at *;by_cases hshort:(b.length:Int)<(L:Int)
 ·have hs':b.length<L:=by omega
  rw[Yy hs']at HL fW Lg;clear hs';go_enter Tryz.func323,Tryz.ntmps323
  go_wp2_with fail;refine(cE HS.o 30).mono ?_;rintro e w1 ⟨rfl,da,cB⟩;have gI:=ae da;have eB:=ae cB;clear da cB;go_wp2_with fail;go_ret
  rw[HL.o,fW.o,Lg.o];exact⟨⟨_,rfl,em.nil _ _⟩,gI.o,eB.o⟩
 ·have hs':¬ b.length<L:=by omega
  rw[Yx hs']at HL fW Lg;have qc:=ae (Cc.o.take (k:=L) (by rw[am];omega));rw[← wQ]at qc;have KD:jaH (Bs (b.take L)):=fun x hx=>HB.o x (ZA hx)
  obtain⟨g',off',cap',k0,k1,k2,k3,k4,k5,k6,k7,k8,k9⟩:=HS.o.cells;rw[h0]at k0;cases k0
  obtain⟨A,hA,hSA⟩:=k9 L (by omega);have kj:=ae hSA;have eT:=ae ((Fr.refl p w.heap.size w).set 0 (.slice A (b.length-L) (cap-L)));clear hs' hSA k9 k8 k6 k1 k2 k3 k4 k5 k7;go_enter Tryz.func323,Tryz.ntmps323
  go_wp2_with fail;refine(FU kj.o).mono ?_;rintro e w3 ⟨rfl,jX,gC⟩;have lC:=ae jX;have hFr3:=eT.o.trans (gC.mono eT.o.size);have og:=ae hFr3;have jE:=hFr3.size
  have HTK3:jaH (Sv w3 (.slice (some ⟨g,off,none⟩) L cap) (az .u8 (b.take L))):=ae (by
   obtain⟨a',c',e1,e2,e3,e4,e5⟩:=qc.o;refine⟨a',c',e1,e2,e3,e4,fun hp=>?_⟩;obtain⟨G,O,f1,f2,f3⟩:=e5 hp;simp only[Value.slice.injEq]at e1;rw[← e1.1]at f1;cases f1
   refine⟨g,off,e1.1.symm,by omega,fun j x hj=>?_⟩;rw[World.cell?_of_block (w:=w) (hFr3.block g (by omega) (by omega))];exact f3 j x hj)
  clear jX gC hFr3 h0 h1 h2 h3;go_wp2_with fail;refine(rB HTK3.o.sx KD.o (n:Int) (ww:Int)).mono ?_;rintro e w4 ⟨v4,rfl,fC,bm⟩;have fU:=ae fC;have Kx:=bm.size;have vP:=ae (lC.o.kept bm (by omega));have zj:=ae (og.o.trans (Fr.of_below (bm.mono jE)));clear fC bm;go_wp2_with fail;refine(cE vP.o _).mono ?_;rintro e w5 ⟨rfl,lD,gD⟩;have om:=ae lD
  have cQ:jaH (em w5 w.heap.size v4 (unR (b.take L) n ww)):=ae (by
   have h1:em w4 w.heap.size v4 (unR (b.take L) n ww):=by
    obtain⟨q1,q2⟩:=fU.o;refine⟨q1,?_⟩;rcases q2 with q | ⟨a1,a2,a3,a4,a5,a6⟩
    ·exact Or.inl q
    ·exact Or.inr ⟨a1,a2,a3,a4,YG jE a5,a6⟩
   exact gD.own h1 ar)
  have Gx:=ae (zj.o.trans (gD.mono (by omega)));clear lD gD;go_wp2_with fail;go_ret
  rw[HL.o,fW.o,Lg.o];exact⟨⟨_,rfl,cQ.o⟩,om.o,Gx.o⟩
def dp(D:Except Nat (List Int×List Nat))(K:List Nat->Except Nat (List Int×List Nat))(b:List Nat)(f:Nat):Prop:=(f=0->D=K b)/\(f≠0->D=.error f)
theorem dp.wh{D:Except Nat (List Int×List Nat)}{g:Int->List Nat->Except Nat (List Int×List Nat)}{b:List Nat}{f:Nat}(h:dp D (ap wh g) b f):dp D (g (eC (gt b).1)) (b.drop (gt b).2.1) (orf f (gt b).2.2):=by
 obtain⟨h1,h2⟩:=h;by_cases hf:f=0
 ·subst hf
  have h3:=h1 rfl;rw[dY];unfold ap Go.Proofs.YtpljdjmpamjkhaaGreatDoor.wh at h3;refine⟨fun e=>?_,fun e=>?_⟩
  ·rw[Yy e]at h3
   exact h3
  ·rw[Yx e]at h3
   exact h3
 ·rw[dA hf]
  exact⟨fun e=>absurd e hf,h2⟩
theorem dp.num{D:Except Nat (List Int×List Nat)}{C:Nat->Prop}[DecidablePred C]{g:Nat->List Nat->Except Nat (List Int×List Nat)}{lo hi:Nat}{b:List Nat}{f:Nat}(hC:∀ v,C v↔(v<lo∨hi<v))
  (h:dp D (ap num (fun k=>if C k then (fun _=>.error 40) else g k)) b f):dp D (g (cF lo hi (gt b).1)) (b.drop (gt b).2.1) (dy lo hi (gt b).1 (orf f (gt b).2.2)):=by
 obtain⟨h1,h2⟩:=h;unfold cF dy;by_cases hf:f=0
 ·subst hf
  have h3:=h1 rfl;rw[dY];unfold ap Go.Proofs.YtpljdjmpamjkhaaGreatDoor.num at h3;by_cases he:(gt b).2.2=0
  ·rw[Yy he]at h3
   simp only at h3;by_cases hc:(gt b).1<lo∨hi<(gt b).1
   ·rw[Yy ((hC _).2 hc)]at h3
    rw[Yy hc,Yy hc,he,dY];exact⟨fun e=>by omega,fun _=>h3⟩
   ·rw[Yx (fun e=>hc ((hC _).1 e))]at h3
    rw[Yx hc,Yx hc,he];exact⟨fun _=>h3,fun e=>absurd rfl e⟩
  ·rw[Yx he]at h3
   have h4:(if (gt b).1<lo∨hi<(gt b).1 then orf (gt b).2.2 40 else (gt b).2.2)=(gt b).2.2:=by
    split
    ·exact dA he _
    ·rfl
   rw[h4];exact⟨fun e=>absurd e he,fun _=>h3⟩
 ·have h4:(if (gt b).1<lo∨hi<(gt b).1 then orf (orf f (gt b).2.2) 40 else orf f (gt b).2.2)=f:=by
   rw[dA hf,dA hf];split<;>rfl
  rw[h4];exact⟨fun e=>absurd e hf,h2⟩
theorem dp.pkd{D:Except Nat (List Int×List Nat)}{n w:Nat}{g:List Nat->List Nat->Except Nat (List Int×List Nat)}{b:List Nat}{f:Nat}(h:dp D (ap (pkd n w) g) b f):dp D (g (pkL n w b)) (pkB n w b) (pkF n w b f):=by
 obtain⟨h1,h2⟩:=h;unfold pkL pkB pkF;by_cases hf:f=0
 ·subst hf
  have h3:=h1 rfl;rw[dY,dY];unfold ap Go.Proofs.YtpljdjmpamjkhaaGreatDoor.pkd at h3;by_cases hs:b.length<by8 (n*w)
  ·rw[Yy hs]at h3
   rw[Yy hs,Yy hs,Yy hs];exact⟨fun e=>by omega,fun _=>h3⟩
  ·rw[Yx hs]at h3
   rw[Yx hs,Yx hs,Yx hs];by_cases hm:by8 (n*w)<b.length
   ·rw[Yy hm]at h3
    rw[Yx (by rw[Zf];omega),dA (by omega)];exact⟨fun e=>by omega,fun _=>h3⟩
   ·rw[Yx hm]at h3
    have e1:b.take (by8 (n*w))=b:=Zo (by omega);have e2:b.drop (by8 (n*w))=[]:=List.drop_of_length_le (by omega);rw[e1,e2,Yy (by rfl),dY];refine⟨fun e=>?_,fun e=>?_⟩
    ·rw[Yy e]at h3
     exact h3
    ·rw[Yx e]at h3
     exact h3
 ·have h4:(if b.length<by8 (n*w) then orf f 30 else orf (orf f (if (b.drop (by8 (n*w))).length=0 then 0 else 32)) (unE (b.take (by8 (n*w))) n w))=f:=by
   rw[dA hf,dA hf,dA hf];split<;>rfl
  rw[h4];exact⟨fun e=>absurd e hf,h2⟩
theorem bi{α β γ : Type}(d:List Nat->Except Nat (α×List Nat))(f:α->List Nat->Except Nat (β×List Nat))(g:β->List Nat->Except Nat (γ×List Nat)):ap (ap d f) g=ap d (fun x=>ap (f x) g):=by
 funext b
 unfold ap;cases d b with
 | error e=>rfl
 | ok x=>rfl
theorem bW{α β : Type}(x:α)(f:α->List Nat->Except Nat (β×List Nat)):ap (fun r=>.ok (x,r)) f=f x:=by
 funext b
 rfl
def fin(c:Nat)(b0:List Nat)(l:List Int)(r:List Nat):Except Nat (List Int×List Nat):=if r.length=0 then (if jf c l=b0 then .ok (l,[]) else .error 40) else .error 32
theorem MJ(c:Nat)(b0:List Nat)(l:List Int){r:List Nat}(h:r.length≠0):fin c b0 l r=.error 32:=by unfold fin;rw[Yx h]
theorem wR(c n:Nat)(b0:List Nat):ap (rdC c n) (fin c b0) b0=(match lu c n b0 with | .ok l=>.ok (l,[]) | .error e=>.error e):=by
 unfold ap lu;cases rdC c n b0 with
 | error e=>rfl
 | ok x =>
  obtain⟨l,r⟩:=x;simp only[fin];split
  ·split<;>rfl
  ·rfl
theorem StC.set_other{T:Nat}{W:World}{p:Nat}{b:List Nat}{f:Nat}(h:StC T W p b f){g:Nat}(hg:p<g)(i:Nat)(v:Value):StC T (W.setCell ⟨g,i,none⟩ v) p b f :=
 h.kept ((Yz (p+1) W).setCell (p:=⟨g,i,none⟩) hg v) (Nat.lt_succ_self p)
theorem bU.fr{p:Nat}{w w':World}{B:Nat}{v:Value}{l:List Int}(h:bU w B v l)(hf:Fr p w.heap.size w w')(hp:p<B):bU w' B v l:=hf.own h hp
theorem bU.low{W:World}{B B':Nat}{v:Value}{l:List Int}(h:bU W B' v l)(hb:B<=B'):bU W B v l:=by
 obtain⟨h1,h2⟩:=h;refine⟨h1,?_⟩;rcases h2 with h | ⟨g,cap,cur,e1,e2,e3⟩
 ·exact Or.inl h
 ·exact Or.inr ⟨g,cap,cur,e1,YG hb e2,e3⟩
theorem Ak:(Tryz.prog.info? 2).map (fun i=>(i.zero,i.size,i.bytes))=some (some (.int .i64 0),1,8):=by kernel_rfl
theorem dh{w:World}{ops:Array Oper}{rest:List Oper}{o:Oper}{a:Act}{Q:Exit->Act->World->Prop}(dO:o.guard=none)(s x:Operand)
  (ho:o.op=.call { callee:=.builtin .append,args:=#[s,x],argTypes:=#[143,143] })
  (base:Nat) (v:Value) (g:Nat) (z:Int) (l0:List Int) (hs:a.eval s=v) (aw:bU w base v l0) (hx:a.eval x=.slice (some ⟨g,0,none⟩) 1 1) (hc:w.cell? ⟨g,0,none⟩=some (.int .i64 z))
  (hbytes:l0.length<=100000) (aD:base<=w.heap.size)
  (h:∀ v' w',bU w' base v' (l0++[z])->Below base w w'->wpList Tryz.prog ops Q rest (a.put o.dst v') w') :
  wpList Tryz.prog ops Q (o::rest) a w:=by
 obtain⟨i0,hi,bN,hz1',bh⟩:=YW Ak;unfold bU at *
 refine ZI (w:=w) dO s x 143 ho base 2 i0 (.int .i64 0) 1 8 Tryz.underlying143 hi bN hz1' bh rfl (by decide) v l0.length (aH l0) hs aw ⟨g,0,none⟩ 1 1 [.int .i64 z] hx rfl ?_ (fun u hu=>by
  have:u=.int .i64 z:=by simpa using hu
  subst this;rfl) (by unfold maxLen;omega) (by omega) aD ?_
 ·intro j u hu
  rw[oz];cases j with
  | zero =>
   simp only[List.getElem?_cons_zero,Option.some.injEq]at hu;rw[← hu];exact hc
  | succ j=>simp at hu
 ·intro v' w' o1 g1 _ _
  refine h v' w' ?_ ((Yz base w).grown g1 aD (fun k hk=>(aw.lt k hk).1));rw[yg,YC];exact o1
theorem sG{w:World}{ops:Array Oper}{rest:List Oper}{o:Oper}{a:Act}{Q:Exit->Act->World->Prop}(dO:o.guard=none)(s x:Operand)
  (ho:o.op=.call { callee:=.builtin .append,args:=#[s,x],argTypes:=#[142,142] })
  (base:Nat) (v:Value) (g:Nat) (z:Nat) (l0:List Nat) (hs:a.eval s=v) (aw:em w base v l0) (hx:a.eval x=.slice (some ⟨g,0,none⟩) 1 1) (hc:w.cell? ⟨g,0,none⟩=some (.int .u64 (z:Int)))
  (hbytes:l0.length<=100000) (aD:base<=w.heap.size)
  (h:∀ v' w',em w' base v' (l0++[z])->Below base w w'->wpList Tryz.prog ops Q rest (a.put o.dst v') w') :
  wpList Tryz.prog ops Q (o::rest) a w:=by
 obtain⟨i0,hi,bN,hz1',bh⟩:=YW qk;unfold em at *
 refine ZI (w:=w) dO s x 142 ho base 92 i0 (.int .u64 0) 1 8 Tryz.underlying142 hi bN hz1' bh rfl (by decide) v l0.length (az .u64 l0) hs aw ⟨g,0,none⟩ 1 1 [.int .u64 (z:Int)] hx rfl ?_ (fun u hu=>by
  have:u=.int .u64 (z:Int):=by simpa using hu
  subst this;rfl) (by unfold maxLen;omega) (by omega) aD ?_
 ·intro j u hu
  rw[oz];cases j with
  | zero =>
   simp only[List.getElem?_cons_zero,Option.some.injEq]at hu;rw[← hu];exact hc
  | succ j=>simp at hu
 ·intro v' w' o1 g1 _ _
  refine h v' w' ?_ ((Yz base w).grown g1 aD (fun k hk=>(aw.lt k hk).1));rw[dL,YC];exact o1
def wS(D:Except Nat (List Int×List Nat))(G:List Int->List Nat->Except Nat (List Int×List Nat))(p n:Nat)(w:World)(r:Ending)(w':World):Prop :=
 ∃(l:List Int) (b':List Nat) (f':Nat),(∃ v,r=.returned v/\bU w' w.heap.size v l)/\Is l/\l.length<=n/\StC 333 w' p b' f'/\dp D (G l) b' f'/\Fr p w.heap.size w w'
theorem MK(G:List Int->List Nat->Except Nat (List Int×List Nat))(ys:List Int)(m:Nat):ap (rd0 (m+1)) (fun l=>G (ys++l))=ap wh (fun x=>ap (rd0 m) (fun l=>G ((ys++[x])++l))):=by
 have:rd0 (m+1)=ap wh (fun x=>ap (rd0 m) (fun l r=>.ok (x::l,r))):=by funext b;rfl
 rw[this,bi];congr 1
 funext x
 rw[bi];congr 1
 funext l
 rw[bW];simp
theorem Sm(G:List Int->List Nat->Except Nat (List Int×List Nat))(ys:List Int):ap (rd0 0) (fun l=>G (ys++l))=G ys:=by
 have:rd0 0=fun b=>.ok ([],b):=by funext b;rfl
 rw[this,bW,YZ]
theorem ML(G:List Int->List Nat->Except Nat (List Int×List Nat))(ys:List Int)(m:Nat)(last:Int):ap (rd1 (m+1) last) (fun l=>G (ys++l))=ap wh (fun x=>ap (rd1 m (w64 (last+x))) (fun l=>G ((ys++[w64 (last+x)])++l))):=by
 have:rd1 (m+1) last=ap wh (fun d=>ap (rd1 m (w64 (last+d))) (fun l r=>.ok (w64 (last+d)::l,r))):=by funext b;rfl
 rw[this,bi];congr 1
 funext x
 rw[bi];congr 1
 funext l
 rw[bW];simp
theorem Sn(G:List Int->List Nat->Except Nat (List Int×List Nat))(ys:List Int)(last:Int):ap (rd1 0 last) (fun l=>G (ys++l))=G ys:=by
 have:rd1 0 last=fun b=>.ok ([],b):=by funext b;rfl
 rw[this,bW,YZ]
def lN(ys:List Int)(n:Nat):List Int:=ys++List.replicate (n-ys.length) 0
theorem Al{ys:List Int}{n:Nat}(h:ys.length<n)(z:Int):(lN ys n).set ys.length z=lN (ys++[z]) n:=by
 unfold lN;obtain⟨m,hm⟩:∃ m,n-ys.length=m+1:=⟨n-ys.length-1,by omega⟩;rw[hm,YC,Zj,show n-(ys.length+1)=m by omega,List.replicate_succ];simp
theorem rH{ys:List Int}{n:Nat}(h:ys.length<=n):(lN ys n).length=n:=by unfold lN;simp;omega
theorem wT{ys:List Int}{n:Nat}(h:ys.length=n):lN ys n=ys:=by unfold lN;simp[h]
theorem tS(n:Nat):(madeCells #[Value.int .i64 0] n).toList=aH (lN [] n):=by
 rw[jal];simp[aH,lN]
theorem Is.snoc{ys:List Int}{x:Int}(h:Is ys)(hx:I64 x):Is (ys++[x]):=fun y hy=>by
 rcases Zg.1 hy with hy | hy
 ·exact h y hy
 ·have:y=x:=by simpa using hy
  subst this;exact hx
theorem MM{D:Except Nat (List Int×List Nat)}{G:List Int->List Nat->Except Nat (List Int×List Nat)}{w:World}{p n f:Nat}{b:List Nat}(h:StC 333 w p b f)(hn:n<=256)(hg:dp D (ap (rd0 n) G) b f) :
  Calls Tryz.prog 314 #[.pointer (some ⟨p,0,none⟩),.int .i64 (n:Int)] w (wS D G p n w):=by
 obtain⟨i0,hi,bN,hz1',bh⟩:=YW Ak;have HS:=ae h;have HG:=ae hg;have ar:=h.lt;clear h hg;go_enter Tryz.func314,Tryz.ntmps314
 go_wp2_with (first | (refine ZJ _ rfl _ _ 143 rfl w.heap.size 2 i0 (.int .i64 0) 1 Tryz.underlying143 hi bN hz1' .i64 .i64 _ _ n rfl rfl ?m1 ?m2 ?m3 ?m4 ?m5 ?_))
 case m1=>rfl
 case m2=>rfl
 case m3=>rw[bh];omega
 case m4=>unfold maxLen;omega
 case m5=>omega
 intro w4 fC gH;have bm:Below w.heap.size w w4:=(Yz _ _).grown gH (YA _) (fun k hk=>by cases hk)
 have ho4':w4.ownsRow w.heap.size 2 1 (.slice (some ⟨w.heap.size,0,none⟩) n n) n (aH (lN [] n)):=by
  rw[← tS];simpa using fC
 have fU:=ae ho4';have cA:=ae bm;clear fC gH bm ho4';go_wp2_with fail;go_loopw [11] (fun i wr=>∃(ys:List Int) (b':List Nat) (f':Nat),i=.int .i64 (ys.length:Int)/\ys.length<=n/\Is ys/\wr.ownsRow w.heap.size 2 1 (.slice (some ⟨w.heap.size,0,none⟩) n n) n (aH (lN ys n))/\StC 333 wr p b' f'/\dp D (ap (rd0 (n-ys.length)) (fun l=>G (ys++l))) b' f'/\Fr p w.heap.size w wr) (fun i _=>n-(intOf i).toNat)
 case atStart=>exact⟨[],b,f,rfl,by simp,fun x hx=>by simp at hx,fU.o,HS.o.kept cA.o ar,HG.o,Fr.of_below cA.o⟩
 case round =>
  obtain⟨ys,b',f',rfl,hk,Cw,how,iq,uW,kK⟩:=hrel;have KE:=ae Cw;have HO:=ae how;have co:=ae iq;have qe:=ae uW;have lz:=ae kK;have bM:=kK.size;clear Cw how iq uW kK;by_cases ir:ys.length<n
  ·obtain⟨m,hm⟩:∃ m,n-ys.length=m+1:=⟨n-ys.length-1,by omega⟩
   have ed:=qe.o;rw[hm,MK]at ed;have yY:=ae ed.wh;have HX:=ae (iQ (eI b').1);have HW:=ae (kD co.o);have HM:=ae hm;clear ed hm qe;generalize eC (gt b').1=x at *;go_wp2_with fail;refine HW.o.mono ?_;rintro e w5 ⟨rfl,lD,gD⟩;have eo:=gD.own HO.o ar;have sS:=ae (lz.o.trans (gD.mono bM));have ja:ys.length<(lN ys n).length:=by rw[rH (by omega)];exact ir
   have Ca:=(eo.cellAt ys.length (by omega)).trans (mw ja);have Cb:=eo.frozenAt ys.length;have hST:=eo.stored ys.length (.int .i64 x);rw[wL,Al ir]at hST;have Qi:=ae hST;have Qf:=(eo.lt w.heap.size rfl).2;have om:=ae (lD.set_other (g:=w.heap.size) ar ys.length (.int .i64 x));have zi:=sS.o.size;clear hST lD gD eo;generalize (lN ys n)[ys.length]=y at *;go_wp2_with fail;go_roundw
   case rel =>
    refine⟨ys++[x],_,_,?_,?_,KE.o.snoc HX.o,Qi.o.1,om.o,?_,?_⟩
    ·simp
    ·simp;omega
    ·have e:n-(ys++[x]).length=m:=by have:=HM.o;simp;omega
     rw[e];exact yY.o
    ·exact sS.o.then ((Yz _ _).setCell (p:=⟨w.heap.size,ys.length,none⟩) (YA _) _)
   case measure=>simp[intOf];omega
  ·have BX:ys.length=n:=by omega
   have ed:=qe.o;rw[show n-ys.length=0 by omega,Sm]at ed;have yY:=ae ed
   have HO':jaH (bU wr w.heap.size (.slice (some ⟨w.heap.size,0,none⟩) n n) ys):=ae (by
    have:=HO.o;rw[wT BX]at this;unfold bU;rw[BX];exact this)
   clear ed qe BX;go_wp2_with fail;go_ret
   exact⟨ys,b',f',⟨_,rfl,HO'.o⟩,KE.o,by omega,co.o,yY.o,lz.o⟩
theorem Hz{D:Except Nat (List Int×List Nat)}{G:List Int->List Nat->Except Nat (List Int×List Nat)}{w:World}{p n f:Nat}{b:List Nat}(h:StC 333 w p b f)(hn:n<=256)(hg:dp D (ap (rd1 n 0) G) b f) :
  Calls Tryz.prog 315 #[.pointer (some ⟨p,0,none⟩),.int .i64 (n:Int)] w (wS D G p n w):=by
 obtain⟨i0,hi,bN,hz1',bh⟩:=YW Ak;have HS:=ae h;have HG:=ae hg;have ar:=h.lt;clear h hg;go_enter Tryz.func315,Tryz.ntmps315
 go_wp2_with (first | (refine ZJ _ rfl _ _ 143 rfl w.heap.size 2 i0 (.int .i64 0) 1 Tryz.underlying143 hi bN hz1' .i64 .i64 _ _ n rfl rfl ?m1 ?m2 ?m3 ?m4 ?m5 ?_))
 case m1=>rfl
 case m2=>rfl
 case m3=>rw[bh];omega
 case m4=>unfold maxLen;omega
 case m5=>omega
 intro w4 fC gH;have bm:Below w.heap.size w w4:=(Yz _ _).grown gH (YA _) (fun k hk=>by cases hk)
 have ho4':w4.ownsRow w.heap.size 2 1 (.slice (some ⟨w.heap.size,0,none⟩) n n) n (aH (lN [] n)):=by
  rw[← tS];simpa using fC
 have fU:=ae ho4';have cA:=ae bm;clear fC gH bm ho4';go_wp2_with fail;go_loopw [6,12] (fun ah i wr=>∃(last:Int) (ys:List Int) (b':List Nat) (f':Nat),ah=.int .i64 last/\I64 last/\i=.int .i64 (ys.length:Int)/\ys.length<=n/\Is ys/\wr.ownsRow w.heap.size 2 1 (.slice (some ⟨w.heap.size,0,none⟩) n n) n (aH (lN ys n))/\StC 333 wr p b' f'/\dp D (ap (rd1 (n-ys.length) last) (fun l=>G (ys++l))) b' f'/\Fr p w.heap.size w wr) (fun _ i _=>n-(intOf i).toNat)
 case atStart=>exact⟨0,[],b,f,rfl,by unfold I64;omega,rfl,by simp,fun x hx=>by simp at hx,fU.o,HS.o.kept cA.o ar,HG.o,Fr.of_below cA.o⟩
 case round =>
  obtain⟨last,ys,b',f',rfl,Ql,rfl,hk,Cw,how,iq,uW,kK⟩:=hrel;have KE:=ae Cw;have HO:=ae how;have co:=ae iq;have qe:=ae uW;have lz:=ae kK;have bM:=kK.size;clear Cw how iq uW kK;by_cases ir:ys.length<n
  ·obtain⟨m,hm⟩:∃ m,n-ys.length=m+1:=⟨n-ys.length-1,by omega⟩
   have ed:=qe.o;rw[hm,ML]at ed;have yY:=ae ed.wh;have HX:=ae (jQ (last+eC (gt b').1));have UJ:=tQ (last+eC (gt b').1);have HW:=ae (kD co.o);have HM:=ae hm;clear ed hm qe;generalize eC (gt b').1=x0 at *;generalize w64 (last+x0)=x at *;go_wp2_with fail;refine HW.o.mono ?_;rintro e w5 ⟨rfl,lD,gD⟩;have eo:=gD.own HO.o ar;have sS:=ae (lz.o.trans (gD.mono bM));have ja:ys.length<(lN ys n).length:=by rw[rH (by omega)];exact ir
   have Ca:=(eo.cellAt ys.length (by omega)).trans (mw ja);have Cb:=eo.frozenAt ys.length;have hST:=eo.stored ys.length (.int .i64 x);rw[wL,Al ir]at hST;have Qi:=ae hST;have Qf:=(eo.lt w.heap.size rfl).2;have om:=ae (lD.set_other (g:=w.heap.size) ar ys.length (.int .i64 x));have zi:=sS.o.size;clear hST lD gD eo;generalize (lN ys n)[ys.length]=y at *;go_wp2_with fail;go_roundw
   case rel =>
    refine⟨x,ys++[x],_,_,rfl,HX.o,?_,?_,KE.o.snoc HX.o,Qi.o.1,om.o,?_,?_⟩
    ·simp
    ·simp;omega
    ·have e:n-(ys++[x]).length=m:=by have:=HM.o;simp;omega
     rw[e];exact yY.o
    ·exact sS.o.then ((Yz _ _).setCell (p:=⟨w.heap.size,ys.length,none⟩) (YA _) _)
   case measure=>simp[intOf];omega
  ·have BX:ys.length=n:=by omega
   have ed:=qe.o;rw[show n-ys.length=0 by omega,Sn]at ed;have yY:=ae ed
   have HO':jaH (bU wr w.heap.size (.slice (some ⟨w.heap.size,0,none⟩) n n) ys):=ae (by
    have:=HO.o;rw[wT BX]at this;unfold bU;rw[BX];exact this)
   clear ed qe BX;go_wp2_with fail;go_ret
   exact⟨ys,b',f',⟨_,rfl,HO'.o⟩,KE.o,by omega,co.o,yY.o,lz.o⟩
theorem dp.any{D:Except Nat (List Int×List Nat)}{K K':List Nat->Except Nat (List Int×List Nat)}{b:List Nat}{f:Nat}(h:dp D K b f)(hf:f≠0):dp D K' b f:=⟨fun e=>absurd e hf,h.2⟩
theorem rI{lo hi v f:Nat}(h:v<lo∨hi<v):dy lo hi v f≠0:=by
 unfold dy orf;rw[Yy h];split<;>omega
theorem MN(G:List Int->List Nat->Except Nat (List Int×List Nat))(ys:List Int)(fu m:Nat)(hm:m≠0):ap (rd2 (fu+1) m) (fun l=>G (ys++l)) =
  ap wh (fun x=>ap num (fun k=>if k=0∨m<k then (fun _=>.error 40) else ap (rd2 fu (m-k)) (fun l=>G ((ys++List.replicate k x)++l)))):=by
 have:rd2 (fu+1) m=ap wh (fun x=>ap num (fun k=>if k=0∨m<k then (fun _=>.error 40) else ap (rd2 fu (m-k)) (fun l r=>.ok (List.replicate k x++l,r)))):=by
  funext b
  rw[rd2,Yx hm]
 rw[this,bi];congr 1
 funext x
 rw[bi];congr 1
 funext k
 split
 ·rfl
 ·rw[bi]
  congr 1
  funext l
  rw[bW];simp
theorem So(G:List Int->List Nat->Except Nat (List Int×List Nat))(ys:List Int)(fu:Nat):ap (rd2 fu 0) (fun l=>G (ys++l))=G ys:=by
 have:rd2 fu 0=fun b=>.ok ([],b):=by funext b;exact zJ fu b
 rw[this,bW,YZ]
def Uw:Value->Nat
 | .slice _ n _=>n
 | _=>0
def Am(p:Nat)(W:World):Nat :=
 match W.cell? ⟨p,1,none⟩ with
 | some (.int _ n)=>if n=0 then 1 else 0
 | _=>0
theorem Ja{T:Nat}{W:World}{p:Nat}{b:List Nat}{f:Nat}(h:StC T W p b f)(hf:f=0):Am p W=1:=by
 obtain⟨_,_,_,_,h1,_⟩:=h.cells;unfold Am;rw[h1,hf];rfl
theorem MO{T:Nat}{W:World}{p:Nat}{b:List Nat}{f:Nat}(h:StC T W p b f)(hf:f≠0):Am p W=0:=by
 obtain⟨_,_,_,_,h1,_⟩:=h.cells;unfold Am;rw[h1];simp only;rw[Yx (by omega)]
theorem Sp(p:Nat)(W:World):Am p W<=1:=by
 unfold Am;split
 ·split<;>omega
 ·omega
theorem MP{D:Except Nat (List Int×List Nat)}{G:List Int->List Nat->Except Nat (List Int×List Nat)}{w:World}{p n f:Nat}{b:List Nat}(h:StC 333 w p b f)(hn:n<=256)(hg:dp D (ap (rd2 n n) G) b f) :
  Calls Tryz.prog 316 #[.pointer (some ⟨p,0,none⟩),.int .i64 (n:Int)] w (wS D G p n w):=by
 have HS:=ae h;have HG:=ae hg;have ar:=h.lt;clear h hg;go_enter Tryz.func316,Tryz.ntmps316
 go_wp2_with fail;go_loopw [5] (fun v wr=>∃(fu:Nat) (ys:List Int) (b':List Nat) (f':Nat),ys.length<=n/\Is ys/\bU wr w.heap.size v ys/\StC 333 wr p b' f'/\(f'=0->n-ys.length<=fu)/\dp D (ap (rd2 fu (n-ys.length)) (fun l=>G (ys++l))) b' f'/\Fr p w.heap.size w wr) (fun v wr=>2*(n-Uw v)+Am p wr)
 case atStart=>exact⟨n,[],b,f,by simp,fun x hx=>by simp at hx,bU.nil _ _,HS.o,fun _=>by simp,HG.o,Fr.refl _ _ _⟩
 case round =>
  obtain⟨fu,ys,b',f',hk,Cw,how,iq,hfu,uW,kK⟩:=hrel;have KE:=ae Cw;have HO:=ae how;have co:=ae iq;have qe:=ae uW;have lz:=ae kK;have HFU:=ae hfu;have bM:=kK.size;obtain⟨av,cv,rfl⟩:=how.len;obtain⟨g,off,cap,c0,c1,c2,c3,c4,c5,c6,c7,c8,c9⟩:=iq.cells;clear Cw how iq uW kK hfu c0 c2 c3 c4 c5 c6 c7 c8 c9;by_cases ir:(ys.length:Int)<(n:Int)
  ·by_cases tg:((f':Int)==0)=true
   ·have hf0':f'=0:=by simpa using tg
    have hm:n-ys.length≠0:=(by omega);have hfu2:=HFU.o hf0';obtain⟨fu',rfl⟩:∃ q,fu=q+1:=⟨fu-1,by omega⟩;have ed:=qe.o;rw[MN _ _ _ _ hm]at ed;have hgo3:=ed.wh;have HX:=ae (iQ (eI b').1);have HW:=ae (kD co.o);have Rk:=ae (Ja co.o hf0');clear ed qe;generalize eC (gt b').1=x at *;generalize b'.drop (gt b').2.1=b1 at *;generalize orf f' (gt b').2.2=f1 at *;have Qm:=dp.num (lo:=1) (hi:=n-ys.length) (fun v=>by constructor<;>(intro h;omega)) hgo3;obtain⟨g1,g2,g3,g4⟩:=eI b1;have hsub:(n:Int)-(ys.length:Int)=((n-ys.length:Nat):Int):=(by omega)
    have Cd:cF 1 (n-ys.length) (gt b1).1=0->dy 1 (n-ys.length) (gt b1).1 (orf f1 (gt b1).2.2)≠0:=by
     intro h0;unfold cF at h0;split at h0
     ·next hb=>exact rI hb
     ·next hb=>omega
    have WH:cF 1 (n-ys.length) (gt b1).1<=n-ys.length:=by
     unfold cF;split<;>omega
    have Fj:jaH (∀ W,StC 333 W p b1 f1->Calls Tryz.prog 321 #[.pointer (some ⟨p,0,none⟩),.int .u64 (1:Int),.int .u64 ((n-ys.length:Nat):Int)] W fun r w'=>r=.returned (.int .u64 (cF 1 (n-ys.length) (gt b1).1:Int))/\StC 333 w' p (b1.drop (gt b1).2.1) (dy 1 (n-ys.length) (gt b1).1 (orf f1 (gt b1).2.2))/\Fr p W.heap.size W w'):=fun W h=>jU h 1 (n-ys.length) (by omega) (by omega)
    have TO:=ae Qm;have qZ:=ae Cd;clear hgo3 Qm g1 g2 g3 g4 Cd HFU;generalize cF 1 (n-ys.length) (gt b1).1=k at *;generalize dy 1 (n-ys.length) (gt b1).1 (orf f1 (gt b1).2.2)=f2 at *;generalize b1.drop (gt b1).2.1=b2 at *;clear hf0';go_wp2_with fail;refine HW.o.mono ?_;rintro e w5 ⟨rfl,lD,gD⟩;have om:=ae lD;have cQ:=ae (HO.o.fr gD ar);have sS:=ae (lz.o.trans (gD.mono bM));have zi:=sS.o.size;clear lD gD c1;go_wp2_with fail;refine(Fj.o _ om.o).mono ?_;rintro e w6 ⟨rfl,uM,TP⟩;have HS6:=ae uM;have oe:=ae (cQ.o.fr TP ar);have HFR6:=ae (sS.o.trans (TP.mono zi));have Fi:=HFR6.o.size;clear uM TP;go_wp2_with fail;go_loopw [5,29] (fun v j wq=>∃ i:Nat,i<=k/\j=.int .u64 (i:Int)/\bU wq w.heap.size v (ys++List.replicate i x)/\StC 333 wq p b2 f2/\Fr p w.heap.size w wq) (fun _ j _=>k-(intOf j).toNat)
    case atStart=>exact⟨0,by omega,rfl,by simpa using oe.o,HS6.o,HFR6.o⟩
    case round =>
     obtain⟨i,hik,rfl,hoq,hsq,hfq⟩:=hrel;have HOQ:=ae hoq;have HSQ:=ae hsq;have HFQ:=ae hfq;have XT:=hfq.size;obtain⟨aq,cq,rfl⟩:=hoq.len;clear hoq hsq hfq;by_cases KF:(i:Int)<(k:Int)
     ·have Lf:=ae (HOQ.o.kept ((Yz _ _).alloc (YA _) (.cells #[.int .i64 x] 2)))
      have kj:=ae (HSQ.o.kept ((Yz _ _).alloc (YA _) (.cells #[.int .i64 x] 2)) HSQ.o.lt);have Lh:=ae (HFQ.o.then ((Yz w.heap.size _).alloc XT (.cells #[.int .i64 x] 2)));have bg:(ys++List.replicate i x).length<=256:=by simp;omega
      go_wp2_with (first | (at_builtin;refine dh rfl _ _ rfl w.heap.size _ _ x (ys++List.replicate i x) rfl Lf.o rfl ?c1 ?c2 ?c3 ?_))
      case c1=>exact aX _ _ _
      case c2=>omega
      case c3=>rw[YB];omega
      intro v7 w7 o7 b7;have e7:ys++(List.replicate i x++[x])=ys++List.replicate (i+1) x:=by rw[List.replicate_succ']
      rw[e7]at o7;have qY:=ae o7;have Rp:=ae (kj.o.kept b7 ar);have HF7:=ae (Lh.o.then b7);clear o7 b7 e7;go_wp2_with fail;go_roundw
      case rel=>exact⟨i+1,by omega,by go_num,qY.o,Rp.o,HF7.o⟩
      case measure=>simp[intOf];omega
     ·obtain rfl:i=k:=by omega
      have HNEW:jaH (∃ fu2,(f2=0->n-(ys++List.replicate i x).length<=fu2)/\dp D (ap (rd2 fu2 (n-(ys++List.replicate i x).length)) (fun l=>G ((ys++List.replicate i x)++l))) b2 f2):=ae (by
       have mQ:n-(ys++List.replicate i x).length=n-ys.length-i:=by simp;omega
       rw[mQ];by_cases cK:f2=0
       ·have hi0:i≠0:=fun e=>qZ.o e cK
        exact⟨fu',fun _=>by omega,TO.o⟩
       ·exact⟨0,fun e=>absurd e cK,TO.o.any cK⟩)
      have XU:jaH (2*(n-(ys++List.replicate i x).length)+Am p wr<2*(n-ys.length)+1):=ae (by
       have mQ:(ys++List.replicate i x).length=ys.length+i:=by simp
       rw[mQ];by_cases cK:f2=0
       ·have hi0:i≠0:=fun e=>qZ.o e cK
        have:=Sp p wr;omega
       ·rw[MO HSQ.o cK]
        omega)
      have HISN:jaH (Is (ys++List.replicate i x)):=fun y hy=>by
       rcases Zg.1 hy with hy | hy
       ·exact KE.o y hy
       ·rw[jay hy]
        exact HX.o
      have uT:jaH ((ys++List.replicate i x).length<=n):=ae (by simp;omega);go_wp2_with fail;go_roundw
      case rel =>
       obtain⟨fu2,h1,h2⟩:=HNEW.o;exact⟨fu2,_,_,_,uT.o,HISN.o,HOQ.o,HSQ.o,h1,h2,HFQ.o⟩
      case measure =>
       have h1:=XU.o;have h2:=Rk.o;simp only[Uw];rw[h2];exact h1
   ·have hff:((f':Int)==0)=false:=by simpa using tg
    have fb:f'≠0:=fun e=>tg (by simp[e])
    have TQ:=ae (qe.o.any (K':=G ys) fb);clear tg fb;go_wp2_with fail;go_ret
    exact⟨ys,b',f',⟨_,rfl,HO.o⟩,KE.o,hk,co.o,TQ.o,lz.o⟩
  ·have ed:=qe.o
   rw[show n-ys.length=0 by omega,So]at ed;have TQ:=ae ed;clear ed;go_wp2_with fail;go_ret
   exact⟨ys,b',f',⟨_,rfl,HO.o⟩,KE.o,hk,co.o,TQ.o,lz.o⟩
theorem MQ(G:List Int->List Nat->Except Nat (List Int×List Nat))(us:List Int)(q:Nat)(last:Int):ap (rdU (q+1) last) (fun u=>G (us++u)) =
  ap num (fun(d:Nat)=>if d=0∨9223372036854775807-last<(d:Int) then (fun _=>.error 40) else ap (rdU q (last+d)) (fun u=>G ((us++[last+d])++u))):=by
 have:rdU (q+1) last=ap num (fun(d:Nat)=>if d=0∨9223372036854775807-last<(d:Int) then (fun _=>.error 40) else ap (rdU q (last+d)) (fun l r=>.ok ((last+d)::l,r))):=by
  funext b
  rw[rdU]
 rw[this,bi];congr 1
 funext d
 split
 ·rfl
 ·rw[bi]
  congr 1
  funext l
  rw[bW];simp
theorem Sq(G:List Int->List Nat->Except Nat (List Int×List Nat))(us:List Int)(last:Int):ap (rdU 0 last) (fun u=>G (us++u))=G us:=by
 have:rdU 0 last=fun b=>.ok ([],b):=by funext b;rfl
 rw[this,bW,YZ]
def jo(G:List Int->List Nat->Except Nat (List Int×List Nat))(m:Nat)(us:List Int)(last:Int):List Nat->Except Nat (List Int×List Nat) :=
 if us.length=0 then (if m=0 then G [] else ap wh (fun x=>ap (rdU (m-1) x) (fun u=>G (x::u)))) else ap (rdU (m-us.length) last) (fun u=>G (us++u))
theorem Jb(G:List Int->List Nat->Except Nat (List Int×List Nat))(us:List Int)(last:Int):jo G us.length us last=G us:=by
 unfold jo;by_cases h:us.length=0
 ·rw[Yy h,Yy h,YU h]
 ·rw[Yx h,jai,Sq]
theorem An(G:List Int->List Nat->Except Nat (List Int×List Nat)){m:Nat}(hm:0<m)(last:Int):jo G m [] last=ap wh (fun x=>jo G m [x] x):=by
 unfold jo;rw[Yy (show ([]:List Int).length=0 from rfl),Yx (by omega)];congr 1
theorem Dt(G:List Int->List Nat->Except Nat (List Int×List Nat)){m:Nat}{us:List Int}(h0:0<us.length)(hm:us.length<m)(last:Int):jo G m us last =
  ap num (fun(d:Nat)=>if d=0∨9223372036854775807-last<(d:Int) then (fun _=>.error 40) else jo G m (us++[last+d]) (last+d)):=by
 unfold jo;obtain⟨q,hq⟩:∃ q,m-us.length=q+1:=⟨m-us.length-1,by omega⟩;rw[Yx (by omega),hq,MQ];congr 1
 funext d
 rw[Yx (show ¬ (us++[last+(d:Int)]).length=0 by simp),show m-(us++[last+(d:Int)]).length=q by simp;omega]
theorem Du{D:Except Nat (List Int×List Nat)}{G:List Int->List Nat->Except Nat (List Int×List Nat)}{w:World}{p m f:Nat}{b:List Nat}(h:StC 333 w p b f)(hm:m<=256)(hg:dp D (jo G m [] 0) b f) :
  Calls Tryz.prog 322 #[.pointer (some ⟨p,0,none⟩),.int .i64 (m:Int)] w fun r w'=>∃(l:List Int) (b':List Nat) (f':Nat),(∃ v,r=.returned v/\bU w' w.heap.size v l)/\Is l/\l.length=m/\StC 333 w' p b' f'/\dp D (G l) b' f'/\Fr p w.heap.size w w':=by
 have HS:=ae h;have HG:=ae hg;have ar:=h.lt;clear h hg;go_enter Tryz.func322,Tryz.ntmps322
 go_wp2_with fail;go_loopw [5,6,9] (fun v la i wr=>∃(us:List Int) (last:Int) (b':List Nat) (f':Nat),i=.int .i64 (us.length:Int)/\la=.int .i64 last/\us.length<=m/\Is us/\I64 last/\bU wr w.heap.size v us/\StC 333 wr p b' f'/\dp D (jo G m us last) b' f'/\Fr p w.heap.size w wr) (fun _ _ i _=>m-(intOf i).toNat)
 case atStart=>exact⟨[],0,b,f,rfl,rfl,by simp,fun x hx=>by simp at hx,by unfold I64;omega,bU.nil _ _,HS.o,HG.o,Fr.refl _ _ _⟩
 case round =>
  obtain⟨us,last,b',f',rfl,rfl,hk,hus,Ku,how,iq,uW,kK⟩:=hrel;have HUS:=ae hus;have HO:=ae how;have co:=ae iq;have qe:=ae uW;have lz:=ae kK;have HLA:=ae Ku;have bM:=kK.size;obtain⟨av,cv,rfl⟩:=how.len;clear hus how iq uW kK Ku;by_cases ir:us.length<m
  ·have WI:(us.length:Int)<(m:Int):=by omega
   by_cases hz:us.length=0
   ·obtain rfl:us=[]:=YU hz
    have ed:=qe.o;rw[An G (by omega)]at ed;have yY:=ae ed.wh;have HX:=ae (iQ (eI b').1);have HW:=ae (kD co.o);clear ed qe hz ir;generalize eC (gt b').1=x at *;generalize b'.drop (gt b').2.1=b1 at *;generalize orf f' (gt b').2.2=f1 at *;rw[Zc]at *;go_wp2_with fail;refine HW.o.mono ?_;rintro e w5 ⟨rfl,lD,gD⟩;have zi:=gD.size;have cQ:=ae ((HO.o.fr gD ar).kept ((Yz _ _).alloc (YA _) (.cells #[.int .i64 x] 2)));have om:=ae (lD.kept ((Yz _ _).alloc (YA _) (.cells #[.int .i64 x] 2)) lD.lt);have sS:=ae ((lz.o.trans (gD.mono bM)).then ((Yz w.heap.size _).alloc (by omega) (.cells #[.int .i64 x] 2)));clear lD gD;go_wp2_with (first | (at_builtin;refine dh rfl _ _ rfl w.heap.size _ _ x [] rfl cQ.o rfl ?c1 ?c2 ?c3 ?_))
    case c1=>exact aX _ _ _
    case c2=>simp
    case c3=>rw[YB];omega
    intro v7 w7 o7 b7;have qY:=ae o7;have Rp:=ae (om.o.kept b7 ar);have HF7:=ae (sS.o.then b7);clear o7 b7;go_wp2_with fail;go_roundw
    case rel=>exact⟨[x],x,_,_,rfl,rfl,by simp;omega,fun y hy=>by rw[Zl.1 hy];exact HX.o,HX.o,qY.o,Rp.o,yY.o,HF7.o⟩
    case measure=>simp[intOf];omega
   ·have bN:((us.length:Int)==0)=false:=YN.2 (by omega)
    have ed:=qe.o;rw[Dt G (by omega) ir]at ed;have Qn:=HLA.o.1;have yV:=HLA.o.2;have Qm:=dp.num (lo:=1) (hi:=(9223372036854775807-last).toNat) (fun v=>by constructor<;>(intro h;omega)) ed;have HD:=ae (fun W=>lK (a:=last) (b:=9223372036854775807) HLA.o (by unfold I64;omega) yV W);have Fj:jaH (∀ W,StC 333 W p b' f'->Calls Tryz.prog 321 #[.pointer (some ⟨p,0,none⟩),.int .u64 (1:Int),.int .u64 ((9223372036854775807-last).toNat:Int)] W fun r w'=>r=.returned (.int .u64 (cF 1 (9223372036854775807-last).toNat (gt b').1:Int))/\StC 333 w' p (b'.drop (gt b').2.1) (dy 1 (9223372036854775807-last).toNat (gt b').1 (orf f' (gt b').2.2))/\Fr p W.heap.size W w'):=fun W h=>jU h 1 _ (by omega) (by omega)
    have WH:cF 1 (9223372036854775807-last).toNat (gt b').1<=(9223372036854775807-last).toNat:=by
     unfold cF;split<;>omega
    have TO:=ae Qm;clear ed Qm qe hz;generalize cF 1 (9223372036854775807-last).toNat (gt b').1=d at *;generalize dy 1 (9223372036854775807-last).toNat (gt b').1 (orf f' (gt b').2.2)=f1 at *;generalize b'.drop (gt b').2.1=b1 at *;have HX:jaH (I64 (last+(d:Int))):=ae (by unfold I64;omega);obtain⟨y,hy⟩:∃ y,IntKind.i64.wrap (d:Int)=y:=⟨_,rfl⟩
    have hyz:IntKind.i64.wrap (last+y)=last+(d:Int):=by
     rw[← hy,Zy,Zy];omega
    generalize last+(d:Int)=x at *;generalize (9223372036854775807-last).toNat=hi at *;clear WH;go_wp2_with fail;refine(HD.o _).mono ?_;rintro e w1 ⟨rfl,rfl⟩;go_wp2_with fail;refine(Fj.o _ co.o).mono ?_;rintro e w5 ⟨rfl,lD,gD⟩;have zi:=gD.size;have cQ:=ae ((HO.o.fr gD ar).kept ((Yz _ _).alloc (YA _) (.cells #[.int .i64 x] 2)));have om:=ae (lD.kept ((Yz _ _).alloc (YA _) (.cells #[.int .i64 x] 2)) lD.lt);have sS:=ae ((lz.o.trans (gD.mono bM)).then ((Yz w.heap.size _).alloc (by omega) (.cells #[.int .i64 x] 2)));clear lD gD;go_wp2_with (first | (at_builtin;refine dh rfl _ _ rfl w.heap.size _ _ x us rfl cQ.o rfl ?c1 ?c2 ?c3 ?_))
    case c1=>exact aX _ _ _
    case c2=>omega
    case c3=>rw[YB];omega
    intro v7 w7 o7 b7;have qY:=ae o7;have Rp:=ae (om.o.kept b7 ar);have HF7:=ae (sS.o.then b7);clear o7 b7;go_wp2_with fail;go_roundw
    case rel=>exact⟨us++[x],x,_,_,by simp,rfl,by simp;omega,HUS.o.snoc HX.o,HX.o,qY.o,Rp.o,TO.o,HF7.o⟩
    case measure=>simp[intOf];omega
  ·obtain rfl:us.length=m:=by omega
   have ed:=qe.o;rw[Jb]at ed;have TQ:=ae ed;clear ed qe;go_wp2_with fail;go_ret
   exact⟨us,b',f',⟨_,rfl,HO.o⟩,HUS.o,rfl,co.o,TQ.o,lz.o⟩
theorem tT:∀{q:Nat} {last:Int} {b r:List Nat} {u:List Int},rdU q last b=.ok (u,r)->u.length=q
 | 0,last,b,r,u,h=>by
  simp only[rdU,Except.ok.injEq,Prod.mk.injEq]at h;rw[← h.1];rfl
 | q+1,last,b,r,u,h=>by
  rw[rdU]at h;obtain⟨d,q1,h1,h2⟩:=bI h;split at h2
  ·simp at h2
  ·obtain⟨m,q2,h3,h4⟩:=bI h2
   simp only[Except.ok.injEq,Prod.mk.injEq]at h4;rw[← h4.1,YI,tT h3]
def G3(n:Nat)(G:List Int->List Nat->Except Nat (List Int×List Nat))(u:List Int):List Nat->Except Nat (List Int×List Nat):=if n=0 then G [] else ap (pkd n (cL (u.length-1))) (fun p=>ap (picked u p) G)
theorem Su(n:Nat)(G:List Int->List Nat->Except Nat (List Int×List Nat)):ap (rd3 n) G=ap num (fun many=>if n<many∨many=0/\0<n then (fun _=>.error 40) else
  if n=0 then G [] else ap wh (fun x=>ap (rdU (many-1) x) (fun u=>ap (pkd n (cL (many-1))) (fun p=>ap (picked (x::u) p) G)))):=by
 have:rd3 n=ap num (fun many=>if n<many∨many=0/\0<n then (fun _=>.error 40) else if n=0 then (fun r=>.ok ([],r)) else
  ap wh (fun x=>ap (rdU (many-1) x) (fun u=>ap (pkd n (cL (many-1))) (fun p r=>picked (x::u) p r)))):=by
  funext b
  rfl
 rw[this,bi];congr 1
 funext many
 split
 ·rfl
 ·split
  ·rw[bW]
  ·rw[bi]
   congr 1
   funext x
   rw[bi];congr 1
   funext u
   rw[bi]
theorem MR(n:Nat)(G:List Int->List Nat->Except Nat (List Int×List Nat))(many:Nat)(hm:0<many)(hn:n≠0):(ap wh (fun x=>ap (rdU (many-1) x) (fun u=>ap (pkd n (cL (many-1))) (fun p=>ap (picked (x::u) p) G))))=jo (G3 n G) many [] 0:=by
 unfold jo;rw[Yy (show ([]:List Int).length=0 from rfl),Yx (by omega)];congr 1
 funext x b
 unfold ap;cases h:rdU (many-1) x b with
 | error e=>rfl
 | ok y =>
  obtain⟨u,r⟩:=y;have hl:=tT h;simp only;unfold G3;rw[Yx hn,YI,hl,Nat.add_sub_cancel];rfl
theorem MS(w:Nat):unE [] 0 w=0∨64<w:=by
 by_cases h:64<w
 ·exact Or.inr h
 ·left
  unfold unE;rw[Yy (by omega),Yy (by simp[by8,pk])]
theorem dp.none{D:Except Nat (List Int×List Nat)}{G:List Int->List Nat->Except Nat (List Int×List Nat)}(hG:∀ r:List Nat,r.length≠0->G [] r=.error 32){b:List Nat}{f w:Nat}(hw:w<=64)(h:dp D (G []) b f):dp D (G []) (pkB 0 w b) (pkF 0 w b f):=by
 obtain⟨h1,h2⟩:=h;have e0:by8 (0*w)=0:=by simp[by8]
 have e1:unE [] 0 w=0:=by
  rcases MS w with h | h
  ·exact h
  ·omega
 unfold pkB pkF;rw[e0,Yx (by omega),Yx (by omega),List.drop_zero,List.take_zero];rw[show unE [] ((0:Nat):Int) (w:Int)=0 from e1];by_cases hf:f=0
 ·subst hf
  rw[dY];by_cases hb:b.length=0
  ·rw[Yy hb,dY]
   exact⟨fun _=>h1 rfl,fun e=>absurd rfl e⟩
  ·rw[Yx hb,dA (by omega)]
   refine⟨fun e=>by omega,fun _=>?_⟩;rw[h1 rfl];exact hG b hb
 ·rw[dA hf,dA hf]
  exact⟨fun e=>absurd e hf,h2⟩
theorem MT{w:Nat}{b:List Nat}:pkL 0 w b=[]:=by
 have e0:by8 (0*w)=0:=by simp[by8]
 unfold pkL;rw[e0,Yx (by omega),List.take_zero];unfold unR;split
 ·have:=cX w 0 (pk 8 [])
  apply YU
  simpa using this
 ·rfl
theorem tU{n w:Nat}{b:List Nat}:(pkL n w b).length<=n:=by
 unfold pkL;split
 ·simp
 ·unfold unR
  split
  ·rw[cX];simp
  ·simp
theorem MU{n w:Nat}{b:List Nat}:∀ x∈pkL n w b,x<18446744073709551616:=by
 unfold pkL;split
 ·simp
 ·exact Vw
theorem dp.places{D:Except Nat (List Int×List Nat)}{n:Nat}{G:List Int->List Nat->Except Nat (List Int×List Nat)}(hG:∀ r:List Nat,r.length≠0->G [] r=.error 32){u:List Int}{b:List Nat}{f:Nat}(hw:cL (u.length-1)<=64)(h:dp D (G3 n G u) b f) :
  dp D (ap (picked u (pkL n (cL (u.length-1)) b)) G) (pkB n (cL (u.length-1)) b) (pkF n (cL (u.length-1)) b f):=by
 unfold G3 at h;by_cases hn:n=0
 ·subst hn
  rw[Yy rfl]at h;have:=h.none hG hw
  have e:ap (picked u (pkL 0 (cL (u.length-1)) b)) G=G []:=by
   rw[MT];funext r
   unfold ap picked;rw[Yy (by simp)];rfl
  rw[e];exact this
 ·rw[Yx hn]at h
  exact h.pkd
theorem dp.picks{D:Except Nat (List Int×List Nat)}{G:List Int->List Nat->Except Nat (List Int×List Nat)}{u:List Int}{P b:List Nat}{f:Nat}(h:dp D (ap (picked u P) G) b f)(hp:∀ q∈P,q<u.length):dp D (G (P.map fun q=>u.getD q 0)) b f:=by
 have e:ap (picked u P) G=G (P.map fun q=>u.getD q 0):=by
  funext r
  unfold ap picked;rw[Yy hp]
 rwa[e]at h
theorem dp.strays{D:Except Nat (List Int×List Nat)}{G:List Int->List Nat->Except Nat (List Int×List Nat)}{u:List Int}{P b:List Nat}{f:Nat}{K:List Nat->Except Nat (List Int×List Nat)}(h:dp D (ap (picked u P) G) b f)(hp:¬ ∀ q∈P,q<u.length):dp D K b (orf f 40):=by
 obtain⟨h1,h2⟩:=h;by_cases hf:f=0
 ·subst hf
  rw[dY];refine⟨fun e=>by omega,fun _=>?_⟩;rw[h1 rfl];unfold ap picked;rw[Yx hp]
 ·rw[dA hf]
  exact⟨fun e=>absurd e hf,h2⟩
theorem Dv{n:Nat}(h:n<=256):cL (n-1)<=64:=eJ.2 (by
 have:(256:Nat)<2 ^ 64:=by decide
 omega)
theorem Sv.atU{W:World}{a:Option Addr}{n cap:Nat}{l:List Nat}(h:Sv W (.slice a n cap) (az .u64 l)){k:Nat}(hk:k<l.length) :
  ∃ b off,a=some ⟨b,off,none⟩/\b<W.heap.size/\W.cell? ⟨b,off+k,none⟩=some (.int .u64 (l[k]:Int)):=by
 obtain⟨a',c,h1,h2,h3,h4,h5⟩:=h;simp only[Value.slice.injEq]at h1;obtain⟨rfl,_,rfl⟩:=h1;obtain⟨b,off,h6,h7,h8⟩:=h5 (by rw[am];omega);exact⟨b,off,h6,h7,h8 k _ (bG hk)⟩
theorem Dw{D:Except Nat (List Int×List Nat)}{G:List Int->List Nat->Except Nat (List Int×List Nat)}(hG:∀ r:List Nat,r.length≠0->G [] r=.error 32){w:World}{p n f:Nat}{b:List Nat}(h:StC 333 w p b f)(hn:n<=256)(hg:dp D (ap (rd3 n) G) b f) :
  Calls Tryz.prog 317 #[.pointer (some ⟨p,0,none⟩),.int .i64 (n:Int)] w (wS D G p n w):=by
 have HS:=ae h;have HHG:=ae hG;have ar:=h.lt;obtain⟨fw,hfw⟩:∃ fw:Nat,min n 1=fw:=⟨_,rfl⟩;have TR:min (n:Int) 1=(fw:Int):=by omega
 rw[Su]at hg;have uW:=dp.num (lo:=fw) (hi:=n) (fun v=>by constructor<;>(intro h;omega)) hg;have Fj:=ae (jU h fw n (by omega) (by omega))
 have WH:cF fw n (gt b).1<=n:=by
  unfold cF;split<;>omega
 have ed:dp D (jo (G3 n G) (cF fw n (gt b).1) [] 0) (b.drop (gt b).2.1) (dy fw n (gt b).1 (orf f (gt b).2.2)):=by
  by_cases mP:n=0
  ·subst mP
   rw[Yy rfl]at uW;have h0:cF fw 0 (gt b).1=0:=(by omega);rw[h0]
   have e:jo (G3 0 G) 0 [] 0=G []:=by
    unfold jo G3;rfl
   rw[e];exact uW
  ·by_cases rZ:cF fw n (gt b).1=0
   ·refine uW.any ?_
    have:(gt b).1<fw∨n<(gt b).1:=by
     unfold cF at rZ;split at rZ
     ·assumption
     ·omega
    exact rI this
   ·rw[Yx mP,MR n G _ (by omega) mP]at uW
    exact uW
 have qe:=ae ed;clear h hg uW ed hfw hG;generalize cF fw n (gt b).1=cnt at *;generalize dy fw n (gt b).1 (orf f (gt b).2.2)=f1 at *;generalize b.drop (gt b).2.1=b1 at *;go_enter Tryz.func317,Tryz.ntmps317
 go_wp2_with fail;refine Fj.o.mono ?_;rintro e w1 ⟨rfl,da,cB⟩;have gI:=ae da;have eB:=ae cB;have cG:=cB.size;have vQ:=da.lt;clear da cB;go_wp2_with fail;refine(Du gI.o (by omega) qe.o).mono ?_;rintro e w2 ⟨us,b2,f2,⟨v2,rfl,ex⟩,hus,Kw,cP,gx,cK⟩;subst Kw;have ec:=ae ex;have HUS:=ae hus;have eP:=ae cP;have Fk:=ae gx;have eT:=ae (eB.o.trans (cK.mono cG));have bh:=cK.size;have ir:=cP.lt;obtain⟨a2,c2,rfl⟩:=ex.len;clear ex hus cP gx cK qe;have lE:=Dv (n:=us.length) (by omega);go_wp2_with fail;refine(lL us.length (by omega) _).mono ?_;rintro e w3 ⟨rfl,aO⟩;have dx:=ae (ec.o.kept aO);have lC:=ae (eP.o.kept aO ir);have og:=ae (eT.o.then (aO.mono (by omega)));have jE:=aO.size;clear aO;have TS:=ae (Fk.o.places HHG.o lE);have zh:=ae (tU (n:=n) (w:=cL (us.length-1)) (b:=b2));have HPX:=ae (MU (n:=n) (w:=cL (us.length-1)) (b:=b2));have UH:=ae (tR lC.o n (cL (us.length-1)) hn lE);clear Fk lE;generalize pkL n (cL (us.length-1)) b2=P at *;generalize pkB n (cL (us.length-1)) b2=b3 at *;generalize pkF n (cL (us.length-1)) b2 f2=f3 at *;generalize cL (us.length-1)=ww at *;go_wp2_with fail;refine UH.o.mono ?_;rintro e w4 ⟨⟨v4,rfl,fC⟩,uN,no⟩;have WJ:=ae fC;have vP:=ae uN;have XV:=ae (dx.o.fr no vQ);have zj:=ae (og.o.trans (no.mono (by omega)));have Kx:=no.size;have Fl:=uN.lt;obtain⟨a4,c4,rfl⟩:=fC.len;have hPl:=zh.o;clear fC uN no;go_wp2_with fail;go_loopw [8,30] (fun v i wr=>∃ k:Nat,k<=P.length/\i=.int .i64 (k:Int)/\(∀ q∈P.take k,q<us.length)/\bU wr w4.heap.size v ((P.take k).map fun q=>us.getD q 0)/\Below w4.heap.size w4 wr) (fun _ i _=>P.length-(intOf i).toNat)
 case atStart=>exact⟨0,by omega,rfl,fun q hq=>by simp at hq,bU.nil _ _,Yz _ _⟩
 case round =>
  obtain⟨k,hk,rfl,cz,how,ao⟩:=hrel;have HAL:=ae cz;have HO:=ae how;have HB:=ae ao;have bM:=ao.size;obtain⟨av,cv,rfl⟩:=how.len;clear cz how ao;by_cases Fm:k<P.length
  ·have WK:(k:Int)<(P.length:Int):=by omega
   obtain⟨bp,op,UL,hbp2,hckp⟩:=(WJ.o.kept HB.o).sv.atU Fm;cases UL
   have hqx:=HPX.o P[k] (YF Fm);have qc:=ae (YP Fm);have Qk:=ae (YF Fm);by_cases hq:P[k]<us.length
   ·have od:¬ ((P[k]:Nat):Int)>=(us.length:Int):=by omega
    obtain⟨bu,ou,hbu,hbu2,hcku⟩:=(XV.o.kept HB.o).sv.at hq;cases hbu
    have HGD:jaH (us.getD P[k] 0=us[P[k]]):=ae (by simp[List.getD_eq_getElem?_getD,hq]);have BX:((P.take k).map fun q=>us.getD q 0).length<=256:=by rw[YD,YH];omega
    generalize us[P[k]]=x at *;generalize P[k]=q at *;obtain⟨ys,Cw⟩:∃ ys,((P.take k).map fun q=>us.getD q 0)=ys:=⟨_,rfl⟩;rw[Cw]at HO BX ⊢;have KE:=ae Cw;clear Cw;have Lf:=ae (HO.o.kept ((Yz _ _).alloc (YA _) (.cells #[.int .i64 x] 2)));have jB:=ae (HB.o.alloc bM (.cells #[.int .i64 x] 2));go_wp2_with (first | (at_builtin;refine dh rfl _ _ rfl w4.heap.size _ _ x ys rfl Lf.o rfl ?c1 ?c2 ?c3 ?_))
    case c2=>omega
    case c3=>omega
    intro v7 w7 o7 b7;have qY:=ae o7;have pT:=ae (jB.o.trans b7);clear o7 b7;go_wp2_with fail;go_roundw
    case rel =>
     refine⟨k+1,by omega,by go_num,?_,?_,pT.o⟩
     ·rw[qc.o]
      intro q' hq';rcases Zg.1 hq' with h | h
      ·exact HAL.o q' h
      ·rw[Zl.1 h]
       exact hq
     ·rw[qc.o,YX,KE.o,List.map_singleton,HGD.o]
      exact qY.o
    case measure=>simp[intOf];omega
   ·have od:((P[k]:Nat):Int)>=(us.length:Int):=by omega
    have qZ:jaH (¬ ∀ q∈P,q<us.length):=ae (fun h=>hq (h _ Qk.o));have TQ:=ae (TS.o.strays (K:=G []) qZ.o);clear hq;generalize P[k]=q at *;go_wp2_with fail;refine(cE (vP.o.kept HB.o Fl) 40).mono ?_;rintro e w8 ⟨rfl,hs8,hf8⟩;have HS8:=ae hs8;have UM:=ae ((zj.o.then (HB.o.mono (by omega))).trans (hf8.mono (by omega)));clear hs8 hf8;go_wp2_with fail;go_ret
    exact⟨[],_,_,⟨_,rfl,bU.nil _ _⟩,fun x hx=>by simp at hx,by simp,HS8.o,TQ.o,UM.o⟩
  ·obtain rfl:k=P.length:=by omega
   have WK:¬ (P.length:Int)<(P.length:Int):=(by omega);have cz:=HAL.o;rw[YK]at cz HO;have TQ:=ae (TS.o.picks cz);have Qo:=ae (zj.o.then (HB.o.mono (by omega)));have WL:=HO.o.low (show w.heap.size<=w4.heap.size by omega);rw[YD]at WL;have HOE:=ae WL;clear WL
   have WN:jaH (Is (P.map fun q=>us.getD q 0)):=ae (fun y hy=>by
    obtain⟨q,hq,rfl⟩:=YS.1 hy;have:=cz q hq;rw[List.getD_eq_getElem?_getD,List.getElem?_eq_getElem this];exact HUS.o _ (YF this))
   have uT:jaH ((P.map fun q=>us.getD q 0).length<=n):=ae (by rw[YD];exact hPl);clear cz;go_wp2_with fail;go_ret
   exact⟨_,_,_,⟨_,rfl,HOE.o⟩,WN.o,uT.o,vP.o.kept HB.o Fl,TQ.o,Qo.o⟩
theorem Sw(n:Nat)(hn:n≠0)(G:List Int->List Nat->Except Nat (List Int×List Nat)):ap (rd4 n) G=ap wh (fun x=>ap num (fun w=>if 64<w then (fun _=>.error 40) else ap (pkd n w) (fun p=>G (p.map (fun(q:Nat)=>w64 (x+(q:Int))))))):=by
 have:rd4 n=ap wh (fun x=>ap num (fun w=>if 64<w then (fun _=>.error 40) else ap (pkd n w) (fun p r=>.ok (p.map (fun(q:Nat)=>w64 (x+(q:Int))),r)))):=by
  funext b
  unfold rd4;rw[Yx hn]
 rw[this,bi];congr 1
 funext x
 rw[bi];congr 1
 funext w
 split
 ·rfl
 ·rw[bi]
  rfl
theorem MV(G:List Int->List Nat->Except Nat (List Int×List Nat)):ap (rd4 0) G=G []:=by
 have:rd4 0=fun b=>.ok ([],b):=by funext b;rfl
 rw[this,bW]
theorem Ao{D:Except Nat (List Int×List Nat)}{G:List Int->List Nat->Except Nat (List Int×List Nat)}{w:World}{p n f:Nat}{b:List Nat}(h:StC 333 w p b f)(hn:n<=256)(hg:dp D (ap (rd4 n) G) b f) :
  Calls Tryz.prog 318 #[.pointer (some ⟨p,0,none⟩),.int .i64 (n:Int)] w (wS D G p n w):=by
 have HS:=ae h;have ar:=h.lt;by_cases mP:n=0
 ·subst mP
  rw[MV]at hg;have HG:=ae hg;clear h hg;go_enter Tryz.func318,Tryz.ntmps318
  go_wp2_with fail;go_ret
  exact⟨[],b,f,⟨_,rfl,bU.nil _ _⟩,fun x hx=>by simp at hx,by simp,HS.o,HG.o,Fr.refl _ _ _⟩
 ·have Qp:((n:Int)==0)=false:=YN.2 (by omega)
  rw[Sw n mP]at hg;have ew:=hg.wh;have HX:=ae (iQ (eI b).1);have HW:=ae (kD h);clear h hg;generalize eC (gt b).1=x at *;generalize b.drop (gt b).2.1=b1 at *;generalize orf f (gt b).2.2=f1 at *;have gx:=dp.num (lo:=0) (hi:=64) (fun v=>by constructor<;>(intro h;omega)) ew;have Fj:jaH (∀ W,StC 333 W p b1 f1->Calls Tryz.prog 321 #[.pointer (some ⟨p,0,none⟩),.int .u64 (0:Int),.int .u64 (64:Int)] W fun r w'=>r=.returned (.int .u64 (cF 0 64 (gt b1).1:Int))/\StC 333 w' p (b1.drop (gt b1).2.1) (dy 0 64 (gt b1).1 (orf f1 (gt b1).2.2))/\Fr p W.heap.size W w'):=fun W h=>jU h 0 64 (by omega) (by omega)
  have hwle:cF 0 64 (gt b1).1<=64:=by
   unfold cF;split<;>omega
  clear ew mP;generalize cF 0 64 (gt b1).1=ww at *;generalize dy 0 64 (gt b1).1 (orf f1 (gt b1).2.2)=f2 at *;generalize b1.drop (gt b1).2.1=b2 at *;have TS:=ae gx.pkd;have zh:=ae (tU (n:=n) (w:=ww) (b:=b2));have HPX:=ae (MU (n:=n) (w:=ww) (b:=b2));have UH:jaH (∀ W,StC 333 W p b2 f2->Calls Tryz.prog 323 #[.pointer (some ⟨p,0,none⟩),.int .i64 (n:Int),.int .i64 (ww:Int)] W fun r w'=>(∃ v,r=.returned v/\em w' W.heap.size v (pkL n ww b2))/\StC 333 w' p (pkB n ww b2) (pkF n ww b2 f2)/\Fr p W.heap.size W w'):=fun W h=>tR h n ww hn hwle
  clear gx;generalize pkL n ww b2=P at *;generalize pkB n ww b2=b3 at *;generalize pkF n ww b2 f2=f3 at *;go_enter Tryz.func318,Tryz.ntmps318
  go_wp2_with fail;refine HW.o.mono ?_;rintro e w1 ⟨rfl,da,cB⟩;have gI:=ae da;have eB:=ae cB;have cG:=cB.size;clear da cB;go_wp2_with fail;refine(Fj.o _ gI.o).mono ?_;rintro e w2 ⟨rfl,cP,cK⟩;have eP:=ae cP;have eT:=ae (eB.o.trans (cK.mono cG));have bh:=cK.size;clear cP cK;go_wp2_with fail;refine(UH.o _ eP.o).mono ?_;rintro e w4 ⟨⟨v4,rfl,fC⟩,uN,no⟩;have WJ:=ae fC;have vP:=ae uN;have zj:=ae (eT.o.trans (no.mono (by omega)));have Kx:=no.size;have Fl:=uN.lt;obtain⟨a4,c4,rfl⟩:=fC.len;have hPl:=zh.o;clear fC uN no;go_wp2_with fail;go_loopw [7,22] (fun v i wr=>∃ k:Nat,k<=P.length/\i=.int .i64 (k:Int)/\bU wr w4.heap.size v ((P.take k).map fun(q:Nat)=>w64 (x+(q:Int)))/\Below w4.heap.size w4 wr) (fun _ i _=>P.length-(intOf i).toNat)
  case atStart=>exact⟨0,by omega,rfl,bU.nil _ _,Yz _ _⟩
  case round =>
   obtain⟨k,hk,rfl,how,ao⟩:=hrel;have HO:=ae how;have HB:=ae ao;have bM:=ao.size;obtain⟨av,cv,rfl⟩:=how.len;clear how ao;by_cases Fm:k<P.length
   ·have WK:(k:Int)<(P.length:Int):=by omega
    obtain⟨bp,op,UL,hbp2,hckp⟩:=(WJ.o.kept HB.o).sv.atU Fm;cases UL
    have hqx:=HPX.o P[k] (YF Fm);have qc:=ae (YP Fm);have BX:((P.take k).map fun(q:Nat)=>w64 (x+(q:Int))).length<=256:=by rw[YD,YH];omega
    generalize P[k]=q at *;obtain⟨y,hy⟩:∃ y,IntKind.i64.wrap (q:Int)=y:=⟨_,rfl⟩;obtain⟨z,hz⟩:∃ z,w64 (x+(q:Int))=z:=⟨_,rfl⟩
    have hyz:IntKind.i64.wrap (x+y)=z:=by
     rw[← hy,← hz,← tQ,Zy,Zy,Zy];omega
    have HZ:=ae hz;obtain⟨ys,Cw⟩:∃ ys,((P.take k).map fun(q:Nat)=>w64 (x+(q:Int)))=ys:=⟨_,rfl⟩;rw[Cw]at HO BX ⊢;have KE:=ae Cw;clear Cw hz;have Lf:=ae (HO.o.kept ((Yz _ _).alloc (YA _) (.cells #[.int .i64 z] 2)));have jB:=ae (HB.o.alloc bM (.cells #[.int .i64 z] 2));go_wp2_with (first | (at_builtin;refine dh rfl _ _ rfl w4.heap.size _ _ z ys rfl Lf.o rfl (aX _ _ _) ?c2 ?c3 ?_))
    case c2=>omega
    case c3=>first | omega | (rw[YB];omega)
    intro v7 w7 o7 b7;have qY:=ae o7;have pT:=ae (jB.o.trans b7);clear o7 b7;go_wp2_with fail;go_roundw
    case rel =>
     refine⟨k+1,by omega,by go_num,?_,pT.o⟩;rw[qc.o,YX,KE.o,List.map_singleton,HZ.o];exact qY.o
    case measure=>simp[intOf];omega
   ·obtain rfl:k=P.length:=by omega
    have WK:¬ (P.length:Int)<(P.length:Int):=(by omega);rw[YK]at HO;have Qo:=ae (zj.o.then (HB.o.mono (by omega)));have WL:=HO.o.low (show w.heap.size<=w4.heap.size by omega);rw[YD]at WL;have HOE:=ae WL;clear WL
    have WN:jaH (Is (P.map fun(q:Nat)=>w64 (x+(q:Int)))):=ae (fun y hy=>by
     obtain⟨q,hq,rfl⟩:=YS.1 hy;exact jQ _)
    have uT:jaH ((P.map fun(q:Nat)=>w64 (x+(q:Int))).length<=n):=ae (by rw[YD];exact hPl);go_wp2_with fail;go_ret
    exact⟨_,_,_,⟨_,rfl,HOE.o⟩,WN.o,uT.o,vP.o.kept HB.o Fl,TS.o,Qo.o⟩
theorem MW{D:Except Nat (List Int×List Nat)}{G:List Int->List Nat->Except Nat (List Int×List Nat)}(hG:∀ r:List Nat,r.length≠0->G [] r=.error 32){w:World}{p n f c:Nat}{b:List Nat}(h:StC 333 w p b f)(hn:n<=256)(hc:c<=4)(hg:dp D (ap (rdC c n) G) b f) :
  Calls Tryz.prog 307 #[.pointer (some ⟨p,0,none⟩),.int .u8 (c:Int),.int .i64 (n:Int)] w (wS D G p n w):=by
 obtain rfl | rfl | rfl | rfl | rfl:c=0∨c=1∨c=2∨c=3∨c=4:=by omega
 ·have HC:=ae (MM h hn hg)
  clear h hg hG;go_enter Tryz.func307,Tryz.ntmps307
  go_wp2_with fail;refine HC.o.mono ?_;rintro e w1 ⟨l,b',f',⟨v,rfl,ho⟩,hr⟩;have HO:=ae ho;have HR:=ae hr;clear ho hr;go_wp2_with fail;go_ret
  exact⟨l,b',f',⟨_,rfl,HO.o⟩,HR.o⟩
 ·have HC:=ae (Hz h hn hg)
  clear h hg hG;go_enter Tryz.func307,Tryz.ntmps307
  go_wp2_with fail;refine HC.o.mono ?_;rintro e w1 ⟨l,b',f',⟨v,rfl,ho⟩,hr⟩;have HO:=ae ho;have HR:=ae hr;clear ho hr;go_wp2_with fail;go_ret
  exact⟨l,b',f',⟨_,rfl,HO.o⟩,HR.o⟩
 ·have HC:=ae (MP h hn hg)
  clear h hg hG;go_enter Tryz.func307,Tryz.ntmps307
  go_wp2_with fail;refine HC.o.mono ?_;rintro e w1 ⟨l,b',f',⟨v,rfl,ho⟩,hr⟩;have HO:=ae ho;have HR:=ae hr;clear ho hr;go_wp2_with fail;go_ret
  exact⟨l,b',f',⟨_,rfl,HO.o⟩,HR.o⟩
 ·have HC:=ae (Dw hG h hn hg)
  clear h hg hG;go_enter Tryz.func307,Tryz.ntmps307
  go_wp2_with fail;refine HC.o.mono ?_;rintro e w1 ⟨l,b',f',⟨v,rfl,ho⟩,hr⟩;have HO:=ae ho;have HR:=ae hr;clear ho hr;go_wp2_with fail;go_ret
  exact⟨l,b',f',⟨_,rfl,HO.o⟩,HR.o⟩
 ·have HC:=ae (Ao h hn hg)
  clear h hg hG;go_enter Tryz.func307,Tryz.ntmps307
  go_wp2_with fail;refine HC.o.mono ?_;rintro e w1 ⟨l,b',f',⟨v,rfl,ho⟩,hr⟩;have HO:=ae ho;have HR:=ae hr;clear ho hr;go_wp2_with fail;go_ret
  exact⟨l,b',f',⟨_,rfl,HO.o⟩,HR.o⟩
end Go.Proofs.YtpljdjmpamjkhaaGreatDoor
