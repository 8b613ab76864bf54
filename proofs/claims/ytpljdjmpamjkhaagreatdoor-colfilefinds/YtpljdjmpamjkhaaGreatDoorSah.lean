import Derived.Test.YtpljdjmpamjkhaaGreatDoorSag
set_option linter.all false
set_option maxRecDepth 100000
set_option maxHeartbeats 4000000
namespace Go.Proofs.YtpljdjmpamjkhaaGreatDoor
open Tryz
open Go.RowKit Go.Lib
def cQ{W:World}{p T:Nat}{c:Array Value}{fz:Nat×Nat}(h:W.heap[p]?=some (.cells c T fz))(i:Nat)(v:Value):(W.setCell ⟨p,i,none⟩ v).heap[p]?=some (.cells (c.setIfInBounds i v) T fz):=by
 rw[Sort.setCell_eq];simp[Sort.mapBlock,Array.getElem?_modify,h,Sort.onCells]
def StC(T:Nat)(W:World)(p:Nat)(b:List Nat)(f:Nat):Prop :=
 ∃ g off cap,W.heap[p]?=some (.cells #[.slice (some ⟨g,off,none⟩) b.length cap,.int .i64 (f:Int)] T (0,0))/\g<p/\b.length<=cap/\cap<=maxLen/\Bs b /\
  ∀ j (h:j<b.length),W.cell? ⟨g,off+j,none⟩=some (.int .u8 (b[j]:Int))
def StC.bs{T:Nat}{W:World}{p:Nat}{b:List Nat}{f:Nat}(h:StC T W p b f):Bs b:=by obtain⟨_,_,_,_,_,_,_,h,_⟩:=h;exact h
def StC.lt{T:Nat}{W:World}{p:Nat}{b:List Nat}{f:Nat}(h:StC T W p b f):p<W.heap.size:=by obtain⟨_,_,_,h,_⟩:=h;exact(Array.getElem?_eq_some_iff.1 h).1
def StC.kept{T:Nat}{W W':World}{p B:Nat}{b:List Nat}{f:Nat}(h:StC T W p b f)(hb:Below B W W')(hp:p<B):StC T W' p b f:=by
 obtain⟨g,off,cap,h1,h2,h3,h4,h5,h6⟩:=h;exact⟨g,off,cap,(hb.block p hp).trans h1,h2,h3,h4,h5,λj hj=>(hb.cell (p:=⟨g,off+j,none⟩) (show g<B by omega)).trans (h6 j hj)⟩
def StC.cells{T:Nat}{W:World}{p:Nat}{b:List Nat}{f:Nat}(h:StC T W p b f) :
  ∃ g off cap,W.cell? ⟨p,0,none⟩=some (.slice (some ⟨g,off,none⟩) b.length cap)/\W.cell? ⟨p,1,none⟩=some (.int .i64 (f:Int))/\W.frozen? ⟨p,0,none⟩=false/\W.frozen? ⟨p,1,none⟩=false /\
   b.length<=cap/\cap<=9223372036854775807/\Sv W (.slice (some ⟨g,off,none⟩) b.length cap) (aA .u8 b)/\g<p /\
   (∀ f':Nat,StC T (W.setCell ⟨p,1,none⟩ (.int .i64 (f':Int))) p b f') /\
   (∀ k,k<=b.length->∃ A,(if cap=k then (some ⟨g,off,none⟩:Option Addr) else some ⟨g,off+k,none⟩)=A/\StC T (W.setCell ⟨p,0,none⟩ (.slice A (b.length-k) (cap-k))) p (b.drop k) f):=by
 have ar:=h.lt;obtain⟨g,off,cap,h1,h2,h3,h4,h5,h6⟩:=h
 have iF:Sv W (.slice (some ⟨g,off,none⟩) b.length cap) (aA .u8 b):=by
  refine⟨_,cap,by rw[am],by rw[am];omega,h4,λe=>by(cases e),λh0=>⟨g,off,rfl,by omega,λj x hj=>?_⟩⟩
  have hj':j<b.length:=by
   have:=(List.getElem?_eq_some_iff.1 hj).1;rwa[am]at this
  rw[bN hj']at hj;rw[h6 j hj'];exact hj
 refine⟨g,off,cap,by rw[an h1];rfl,by rw[an h1];rfl,by simp[World.frozen?,h1],by simp[World.frozen?,h1],h3,by unfold maxLen at h4;omega,iF,h2,λf'=>?_,λk hk=>?_⟩
 ·refine⟨g,off,cap,by rw[cQ h1];rfl,h2,h3,h4,h5,λj hj=>?_⟩
  rw[World.cell?_of_block (w:=W) (Below.heap_setCell _ _ _ _ (show g≠p by omega))];exact h6 j hj
 ·obtain⟨A,hA,hSA⟩:=BG iF (k:=k) (by rw[am];exact hk)
  refine⟨A,hA,?_⟩;have hl:(b.drop k).length=b.length-k:=jeX;have zb:Bs (b.drop k):=λx hx=>h5 x (jgi hx)
  by_cases eP:cap=k
  ·rw[jey eP]at hA
   subst hA;refine⟨g,off,cap-k,by rw[cQ h1,hl];rfl,h2,by omega,by omega,zb,λj hj=>by omega⟩
  ·rw[jex eP]at hA
   subst hA;refine⟨g,off+k,cap-k,by rw[cQ h1,hl];rfl,h2,by omega,by omega,zb,λj hj=>?_⟩;rw[World.cell?_of_block (w:=W) (Below.heap_setCell _ _ _ _ (show g≠p by omega)),jfG,h6 (k+j) (by omega)];simp
def cI{w:World}{p f:Nat}{b:List Nat}(h:StC 333 w p b f)(e:Nat) :
  Calls prog 310 #[.pointer (some ⟨p,0,none⟩),.int .i64 (e:Int)] w λr w'=>r=.returned (.tuple #[])/\StC 333 w' p b (orf f e)/\Fr p w.heap.size w w':=by
 have HS:=ae h;obtain⟨g,off,cap,h0,h1,h2,h3,h4,h5,h6,h7,h8,h9⟩:=h.cells;have H8:=ae (h8 e);have HF:=ae ((Fr.refl p w.heap.size w).set 1 (.int .i64 (e:Int)));clear h h6 h8 h9;by_cases hf:((f:Int)==0)=true
 ·have hf':f=0:=by simpa using hf
  have HO:jgt (orf f e=e):=by show _=_;unfold orf;rw[jey hf']
  clear hf';go_enter func310,ntmps310
  go_wp2_with fail;go_end0
  rw[HO.o];exact⟨rfl,H8.o,HF.o⟩
 ·have hff:((f:Int)==0)=false:=by simpa using hf
  have HO:jgt (orf f e=f):=by show _=_;unfold orf;rw[jex (λe=>hf (by simp[e]))]
  clear hf;go_enter func310,ntmps310
  go_wp2_with fail;go_end0
  rw[HO.o];exact⟨rfl,HS.o,Fr.refl _ _ _⟩
def Ma{w:World}{p f:Nat}{b:List Nat}(h:StC 333 w p b f) :
  Calls prog 308 #[.pointer (some ⟨p,0,none⟩)] w λr w'=>r=.returned (.tuple #[])/\StC 333 w' p b (orf f (if b.length=0 then 0 else 32))/\Fr p w.heap.size w w':=by
 have HS:=ae h;obtain⟨g,off,cap,h0,h1,h2,h3,h4,h5,h6,h7,h8,h9⟩:=h.cells;have HR:=ae (cI h 32);clear h h6 h8 h9;by_cases hp:(b.length:Int) > 0
 ·rw[jex (by omega)]
  go_enter func308,ntmps308
  go_wp2_with fail;refine HR.o.mono ?_;rintro e w1 ⟨rfl,dr,cm⟩;have iW:=ae dr;clear dr;go_wp2_with fail;go_end0
  exact⟨rfl,iW.o,cm⟩
 ·have cy:b.length=0:=by omega
  rw[jey cy];have HO:jgt (orf f 0=f):=by show _=_;unfold orf;split<;>simp_all
  clear cy;go_enter func308,ntmps308
  go_wp2_with fail;go_end0
  rw[HO.o];exact⟨rfl,HS.o,Fr.refl _ _ _⟩
def NZ{w:World}{a:Option Addr}{n cap:Nat}{b:List Nat}(hb:Bs b)(h:Sv w (.slice a n cap) (aA .u8 b)) :
  Calls prog 324 #[.slice a n cap] w λe w'=>e=kQ .i64 (fB (gt b).1) (gt b).2.1 (gt b).2.2/\w'=w:=Je (h.sl hb)
def lQ{w:World}{p f:Nat}{b:List Nat}(h:StC 333 w p b f) :
  Calls prog 320 #[.pointer (some ⟨p,0,none⟩)] w λr w'=>r=.returned (.int .i64 (fB (gt b).1))/\StC 333 w' p (b.drop (gt b).2.1) (orf f (gt b).2.2)/\Fr p w.heap.size w w':=by
 have HS:=ae h;have HB:=ae h.bs;obtain⟨g,off,cap,h0,h1,h2,h3,h4,h5,h6,h7,h8,h9⟩:=h.cells;obtain⟨g1,g2,g3,g4⟩:=fK b;have HG:=ae (NZ HB.o h6);have HU:=ae (jV g1);clear h h6 h8 h9 g4;generalize gt b=x at *;obtain⟨n,u,c⟩:=x;simp only at *;unfold kQ at HG;generalize fB n=z at *;go_enter func320,ntmps320
 go_wp2_with fail;refine HG.o.mono ?_;rintro e w1 ⟨rfl,rfl⟩;go_wp2_with fail;refine(cI HS.o c).mono ?_;rintro e w2 ⟨rfl,cV,cM⟩;obtain⟨G,Off,Cap,k0,k1,k2,k3,k4,k5,k6,k7,k8,k9⟩:=cV.cells;obtain⟨A,hA,hSA⟩:=k9 u g2;have jD:=ae hSA;have eW:=ae (cM.set 0 (.slice A (b.length-u) (Cap-u)));clear cV cM k8 k9 k6 hSA h0 h1 h2 h3;go_wp2_with fail;go_ret
 exact⟨rfl,jD.o,eW.o⟩
def cJ(lo hi v:Nat):Nat:=if v<lo∨hi<v then 0 else v
def dS(lo hi v f:Nat):Nat:=if v<lo∨hi<v then orf f 40 else f
def li{w:World}{p f:Nat}{b:List Nat}(h:StC 333 w p b f)(lo hi:Nat)(hlo:lo<18446744073709551616)(AM:hi<18446744073709551616) :
  Calls prog 321 #[.pointer (some ⟨p,0,none⟩),.int .u64 (lo:Int),.int .u64 (hi:Int)] w λr w'=>r=.returned (.int .u64 (cJ lo hi (gt b).1:Int))/\StC 333 w' p (b.drop (gt b).2.1) (dS lo hi (gt b).1 (orf f (gt b).2.2))/\Fr p w.heap.size w w':=by
 have HS:=ae h;have HB:=ae h.bs;obtain⟨g,off,cap,h0,h1,h2,h3,h4,h5,h6,h7,h8,h9⟩:=h.cells;obtain⟨g1,g2,g3,g4⟩:=fK b;have HG:=ae (Bk HB.o h6);clear h h6 h8 h9 g4;generalize gt b=x at *;obtain⟨n,u,c⟩:=x;simp only at *;unfold kQ at HG;by_cases hb:n<lo∨hi<n
 ·have HW:jgt (cJ lo hi n=0/\dS lo hi n (orf f c)=orf (orf f c) 40):=⟨jey hb,jey hb⟩
  by_cases hl:(n:Int)<(lo:Int)
  ·clear hb
   go_enter func321,ntmps321
   go_wp2_with fail;refine HG.o.mono ?_;rintro e w1 ⟨rfl,rfl⟩;go_wp2_with fail;refine(cI HS.o c).mono ?_;rintro e w2 ⟨rfl,cV,cM⟩;obtain⟨G,Off,Cap,k0,k1,k2,k3,k4,k5,k6,k7,k8,k9⟩:=cV.cells;obtain⟨A,hA,hSA⟩:=k9 u g2;have jD:=ae hSA;have eW:=ae (cM.set 0 (.slice A (b.length-u) (Cap-u)));clear cV cM k8 k9 k6 hSA h0 h1 h2 h3;go_wp2_with fail;refine(cI jD.o 40).mono ?_;rintro e w3 ⟨rfl,ln,iC⟩;have nf:=ae ln;have mU:=ae (eW.o.trans (iC.mono eW.o.size));clear ln iC;go_wp2_with fail;go_ret
   rw[HW.o.1,HW.o.2];exact⟨rfl,nf.o,mU.o⟩
  ·have hh:(n:Int) > (hi:Int):=by omega
   clear hb;go_enter func321,ntmps321
   go_wp2_with fail;refine HG.o.mono ?_;rintro e w1 ⟨rfl,rfl⟩;go_wp2_with fail;refine(cI HS.o c).mono ?_;rintro e w2 ⟨rfl,cV,cM⟩;obtain⟨G,Off,Cap,k0,k1,k2,k3,k4,k5,k6,k7,k8,k9⟩:=cV.cells;obtain⟨A,hA,hSA⟩:=k9 u g2;have jD:=ae hSA;have eW:=ae (cM.set 0 (.slice A (b.length-u) (Cap-u)));clear cV cM k8 k9 k6 hSA h0 h1 h2 h3;go_wp2_with fail;refine(cI jD.o 40).mono ?_;rintro e w3 ⟨rfl,ln,iC⟩;have nf:=ae ln;have mU:=ae (eW.o.trans (iC.mono eW.o.size));clear ln iC;go_wp2_with fail;go_ret
   rw[HW.o.1,HW.o.2];exact⟨rfl,nf.o,mU.o⟩
 ·have HW:jgt (cJ lo hi n=n/\dS lo hi n (orf f c)=orf f c):=⟨jex hb,jex hb⟩
  have hl:¬ (n:Int)<(lo:Int):=by omega
  have hh:¬ (n:Int) > (hi:Int):=by omega
  clear hb;go_enter func321,ntmps321
  go_wp2_with fail;refine HG.o.mono ?_;rintro e w1 ⟨rfl,rfl⟩;go_wp2_with fail;refine(cI HS.o c).mono ?_;rintro e w2 ⟨rfl,cV,cM⟩;obtain⟨G,Off,Cap,k0,k1,k2,k3,k4,k5,k6,k7,k8,k9⟩:=cV.cells;obtain⟨A,hA,hSA⟩:=k9 u g2;have jD:=ae hSA;have eW:=ae (cM.set 0 (.slice A (b.length-u) (Cap-u)));clear cV cM k8 k9 k6 hSA h0 h1 h2 h3;go_wp2_with fail;go_ret
  rw[HW.o.1,HW.o.2];exact⟨rfl,jD.o,eW.o⟩
def pkL(n w:Nat)(b:List Nat):List Nat:=if b.length<by8 (n*w) then [] else unR (b.take (by8 (n*w))) n w
def pkB(n w:Nat)(b:List Nat):List Nat:=if b.length<by8 (n*w) then b else b.drop (by8 (n*w))
def pkF(n w:Nat)(b:List Nat)(f:Nat):Nat :=
 if b.length<by8 (n*w) then orf f 30 else orf (orf f (if (b.drop (by8 (n*w))).length=0 then 0 else 32)) (unE (b.take (by8 (n*w))) n w)
def zY(k:IntKind)(l:List Nat)(n:Nat):aA k (l.take n)=(aA k l).take n:=by simp[aA,jf3]
def wY{w:World}{p f:Nat}{b:List Nat}(h:StC 333 w p b f)(n ww:Nat)(hn:n<=256)(Xz:ww<=64) :
  Calls prog 323 #[.pointer (some ⟨p,0,none⟩),.int .i64 (n:Int),.int .i64 (ww:Int)] w λr w'=>(∃ v,r=.returned v/\eS w' w.heap.size v (pkL n ww b))/\StC 333 w' p (pkB n ww b) (pkF n ww b f)/\Fr p w.heap.size w w':=by
 have HS:=ae h;have HB:=ae h.bs;have ar:=h.lt;obtain⟨g,off,cap,h0,h1,h2,h3,h4,h5,h6,h7,h8,h9⟩:=h.cells;have hc:n*ww<=16384:=jeK (Nat.mul_le_mul hn Xz) (by omega);have hmul:(n:Int)*(ww:Int)=((n*ww:Nat):Int):=by simp
 have hby2:(((n*ww:Nat):Int)+8-1) / 8=((by8 (n*ww):Nat):Int):=by unfold by8;omega
 have iV:by8 (n*ww)<=2048:=by unfold by8;omega
 have HL:jgt (pkL n ww b=if b.length<by8 (n*ww) then [] else unR (b.take (by8 (n*ww))) n ww):=rfl;have gU:jgt (pkB n ww b=if b.length<by8 (n*ww) then b else b.drop (by8 (n*ww))):=rfl;have RI:jgt (pkF n ww b f=if b.length<by8 (n*ww) then orf f 30 else orf (orf f (if (b.drop (by8 (n*ww))).length=0 then 0 else 32)) (unE (b.take (by8 (n*ww))) n ww)):=rfl;have MI:=ae h6;clear h h6 h8 h9;generalize by8 (n*ww)=L at *;generalize n*ww=c at *;generalize pkL n ww b=RL at *;generalize pkB n ww b=RB at *;generalize pkF n ww b f=RF at *;by_cases hshort:(b.length:Int)<(L:Int)
 ·have hs':b.length<L:=by omega
  rw[jey hs']at HL gU RI;clear hs';go_enter func323,ntmps323
  go_wp2_with fail;refine(cI HS.o 30).mono ?_;rintro e w1 ⟨rfl,dr,cm⟩;have iW:=ae dr;have dN:=ae cm;clear dr cm;go_wp2_with fail;go_ret
  rw[HL.o,gU.o,RI.o];exact⟨⟨_,rfl,eS.nil _ _⟩,iW.o,dN.o⟩
 ·have hs':¬ b.length<L:=by omega
  rw[jex hs']at HL gU RI;have pr:=ae (MI.o.take (k:=L) (by rw[am];omega));rw[<- zY]at pr;have QP:jgt (Bs (b.take L)):=λx hx=>HB.o x (jfn hx)
  obtain⟨g',off',cap',k0,k1,k2,k3,k4,k5,k6,k7,k8,k9⟩:=HS.o.cells;rw[h0]at k0;cases k0
  obtain⟨A,hA,hSA⟩:=k9 L (by omega);have jD:=ae hSA;have eW:=ae ((Fr.refl p w.heap.size w).set 0 (.slice A (b.length-L) (cap-L)));clear hs' hSA k9 k8 k6 k1 k2 k3 k4 k5 k7;go_enter func323,ntmps323
  go_wp2_with fail;refine(Ma jD.o).mono ?_;rintro e w3 ⟨rfl,ln,iC⟩;have nf:=ae ln;have hFr3:=eW.o.trans (iC.mono eW.o.size);have mU:=ae hFr3;have gy:=hFr3.size
  have HTK3:jgt (Sv w3 (.slice (some ⟨g,off,none⟩) L cap) (aA .u8 (b.take L))):=ae (by
   obtain⟨a',c',e1,e2,e3,e4,e5⟩:=pr.o;refine⟨a',c',e1,e2,e3,e4,λhp=>?_⟩;obtain⟨G,O,f1,f2,f3⟩:=e5 hp;simp only[Value.slice.injEq]at e1;rw[<- e1.1]at f1;cases f1
   refine⟨g,off,e1.1.symm,by omega,λj x hj=>?_⟩;rw[World.cell?_of_block (w:=w) (hFr3.block g (by omega) (by omega))];exact f3 j x hj)
  clear ln iC hFr3 h0 h1 h2 h3;go_wp2_with fail;refine(uh HTK3.o.sx QP.o (n:Int) (ww:Int)).mono ?_;rintro e w4 ⟨v4,rfl,gz,bD⟩;have gT:=ae gz;have se:=bD.size;have zc:=ae (nf.o.kept bD (by omega));have ya:=ae (mU.o.trans (Fr.of_below (bD.mono gy)));clear gz bD;go_wp2_with fail;refine(cI zc.o _).mono ?_;rintro e w5 ⟨rfl,kT,iX⟩;have oK:=ae kT
  have dK:jgt (eS w5 w.heap.size v4 (unR (b.take L) n ww)):=ae (by
   have h1:eS w4 w.heap.size v4 (unR (b.take L) n ww):=by
    obtain⟨q1,q2⟩:=gT.o;refine⟨q1,?_⟩;rcases q2 with q | ⟨a1,a2,a3,a4,a5,a6⟩
    ·exact Or.inl q
    ·exact Or.inr ⟨a1,a2,a3,a4,jeK gy a5,a6⟩
   exact iX.own h1 ar)
  have Gp:=ae (ya.o.trans (iX.mono (by omega)));clear kT iX;go_wp2_with fail;go_ret
  rw[HL.o,gU.o,RI.o];exact⟨⟨_,rfl,dK.o⟩,oK.o,Gp.o⟩
def dy(D:Except Nat (List Int×List Nat))(K:List Nat->Except Nat (List Int×List Nat))(b:List Nat)(f:Nat):Prop:=(f=0->D=K b)/\(f≠0->D=.error f)
def dy.wh{D:Except Nat (List Int×List Nat)}{g:Int->List Nat->Except Nat (List Int×List Nat)}{b:List Nat}{f:Nat}(h:dy D (aw wh g) b f):dy D (g (fB (gt b).1)) (b.drop (gt b).2.1) (orf f (gt b).2.2):=by
 obtain⟨h1,h2⟩:=h;by_cases hf:f=0
 ·subst hf
  have h3:=h1 rfl;rw[eC];unfold aw Go.Proofs.YtpljdjmpamjkhaaGreatDoor.wh at h3;refine⟨λe=>?_,λe=>?_⟩
  ·rw[jey e]at h3
   exact h3
  ·rw[jex e]at h3
   exact h3
 ·rw[dW hf]
  exact⟨λe=>absurd e hf,h2⟩
def dy.num{D:Except Nat (List Int×List Nat)}{C:Nat->Prop}[DecidablePred C]{g:Nat->List Nat->Except Nat (List Int×List Nat)}{lo hi:Nat}{b:List Nat}{f:Nat}(hC:∀ v,C v↔(v<lo∨hi<v))
  (h:dy D (aw num (λk=>if C k then (λ_=>.error 40) else g k)) b f):dy D (g (cJ lo hi (gt b).1)) (b.drop (gt b).2.1) (dS lo hi (gt b).1 (orf f (gt b).2.2)):=by
 obtain⟨h1,h2⟩:=h;unfold cJ dS;by_cases hf:f=0
 ·subst hf
  have h3:=h1 rfl;rw[eC];unfold aw Go.Proofs.YtpljdjmpamjkhaaGreatDoor.num at h3;by_cases he:(gt b).2.2=0
  ·rw[jey he]at h3
   simp only at h3;by_cases hc:(gt b).1<lo∨hi<(gt b).1
   ·rw[jey ((hC _).2 hc)]at h3
    rw[jey hc,jey hc,he,eC];exact⟨λe=>by omega,λ_=>h3⟩
   ·rw[jex (λe=>hc ((hC _).1 e))]at h3
    rw[jex hc,jex hc,he];exact⟨λ_=>h3,λe=>absurd rfl e⟩
  ·rw[jex he]at h3
   have h4:(if (gt b).1<lo∨hi<(gt b).1 then orf (gt b).2.2 40 else (gt b).2.2)=(gt b).2.2:=by
    split
    ·exact dW he _
    ·rfl
   rw[h4];exact⟨λe=>absurd e he,λ_=>h3⟩
 ·have h4:(if (gt b).1<lo∨hi<(gt b).1 then orf (orf f (gt b).2.2) 40 else orf f (gt b).2.2)=f:=by
   rw[dW hf,dW hf];split<;>rfl
  rw[h4];exact⟨λe=>absurd e hf,h2⟩
def dy.pkd{D:Except Nat (List Int×List Nat)}{n w:Nat}{g:List Nat->List Nat->Except Nat (List Int×List Nat)}{b:List Nat}{f:Nat}(h:dy D (aw (pkd n w) g) b f):dy D (g (pkL n w b)) (pkB n w b) (pkF n w b f):=by
 obtain⟨h1,h2⟩:=h;unfold pkL pkB pkF;by_cases hf:f=0
 ·subst hf
  have h3:=h1 rfl;rw[eC,eC];unfold aw Go.Proofs.YtpljdjmpamjkhaaGreatDoor.pkd at h3;by_cases hs:b.length<by8 (n*w)
  ·rw[jey hs]at h3
   rw[jey hs,jey hs,jey hs];exact⟨λe=>by omega,λ_=>h3⟩
  ·rw[jex hs]at h3
   rw[jex hs,jex hs,jex hs];by_cases hm:by8 (n*w)<b.length
   ·rw[jey hm]at h3
    rw[jex (by rw[jeX];omega),dW (by omega)];exact⟨λe=>by omega,λ_=>h3⟩
   ·rw[jex hm]at h3
    have e1:b.take (by8 (n*w))=b:=jfi (by omega);have e2:b.drop (by8 (n*w))=[]:=List.drop_of_length_le (by omega);rw[e1,e2,jey (by rfl),eC];refine⟨λe=>?_,λe=>?_⟩
    ·rw[jey e]at h3
     exact h3
    ·rw[jex e]at h3
     exact h3
 ·have h4:(if b.length<by8 (n*w) then orf f 30 else orf (orf f (if (b.drop (by8 (n*w))).length=0 then 0 else 32)) (unE (b.take (by8 (n*w))) n w))=f:=by
   rw[dW hf,dW hf,dW hf];split<;>rfl
  rw[h4];exact⟨λe=>absurd e hf,h2⟩
def bw{α β γ : Type}(d:List Nat->Except Nat (α×List Nat))(f:α->List Nat->Except Nat (β×List Nat))(g:β->List Nat->Except Nat (γ×List Nat)):aw (aw d f) g=aw d (λx=>aw (f x) g):=by
 funext b
 unfold aw;cases d b with
 | error e=>rfl
 | ok x=>rfl
def cp{α β : Type}(x:α)(f:α->List Nat->Except Nat (β×List Nat)):aw (λr=>.ok (x,r)) f=f x:=by
 funext b
 rfl
def fin(c:Nat)(b0:List Nat)(l:List Int)(r:List Nat):Except Nat (List Int×List Nat):=if r.length=0 then (if km c l=b0 then .ok (l,[]) else .error 40) else .error 32
def Tw(c:Nat)(b0:List Nat)(l:List Int){r:List Nat}(h:r.length≠0):fin c b0 l r=.error 32:=by unfold fin;rw[jex h]
def zZ(c n:Nat)(b0:List Nat):aw (rdC c n) (fin c b0) b0=(match mN c n b0 with | .ok l=>.ok (l,[]) | .error e=>.error e):=by
 unfold aw mN;cases rdC c n b0 with
 | error e=>rfl
 | ok x =>
  obtain⟨l,r⟩:=x;simp only[fin];split
  ·split<;>rfl
  ·rfl
def StC.set_other{T:Nat}{W:World}{p:Nat}{b:List Nat}{f:Nat}(h:StC T W p b f){g:Nat}(hg:p<g)(i:Nat)(v:Value):StC T (W.setCell ⟨g,i,none⟩ v) p b f :=
 h.kept ((jez (p+1) W).setCell (p:=⟨g,i,none⟩) hg v) (Nat.lt_succ_self p)
def co.fr{p:Nat}{w w':World}{B:Nat}{v:Value}{l:List Int}(h:co w B v l)(hf:Fr p w.heap.size w w')(hp:p<B):co w' B v l:=hf.own h hp
def co.low{W:World}{B B':Nat}{v:Value}{l:List Int}(h:co W B' v l)(hb:B<=B'):co W B v l:=by
 obtain⟨h1,h2⟩:=h;refine⟨h1,?_⟩;rcases h2 with h | ⟨g,cap,cur,e1,e2,e3⟩
 ·exact Or.inl h
 ·exact Or.inr ⟨g,cap,cur,e1,jeK hb e2,e3⟩
def Ej:(prog.info? 2).map (λi=>(i.zero,i.size,i.bytes))=some (some (.int .i64 0),1,8):=by kernel_rfl
def dv{w:World}{ops:Array Oper}{rest:List Oper}{o:Oper}{a:Act}{Q:Exit->Act->World->Prop}(ef:o.guard=none)(s x:Operand)
  (ho:o.op=.call { callee:=.builtin .append,args:=#[s,x],argTypes:=#[143,143] })
  (base:Nat) (v:Value) (g:Nat) (z:Int) (l0:List Int) (hs:a.eval s=v) (ax:co w base v l0) (hx:a.eval x=.slice (some ⟨g,0,none⟩) 1 1) (hc:w.cell? ⟨g,0,none⟩=some (.int .i64 z))
  (hbytes:l0.length<=100000) (aF:base<=w.heap.size)
  (h:∀ v' w',co w' base v' (l0++[z])->Below base w w'->wpList prog ops Q rest (a.put o.dst v') w') :
  wpList prog ops Q (o::rest) a w:=by
 obtain⟨i0,hi,bR,hz1',aX⟩:=jeT Ej;unfold co at *
 refine jfw (w:=w) ef s x 143 ho base 2 i0 (.int .i64 0) 1 8 underlying143 hi bR hz1' aX rfl (by decide) v l0.length (aO l0) hs ax ⟨g,0,none⟩ 1 1 [.int .i64 z] hx rfl ?_ (λu hu=>by
  have:u=.int .i64 z:=by simpa using hu
  subst this;rfl) (by unfold maxLen;omega) (by omega) aF ?_
 ·intro j u hu
  rw[oP];cases j with
  | zero =>
   simp only[List.getElem?_cons_zero,Option.some.injEq]at hu;rw[<- hu];exact hc
  | succ j=>simp at hu
 ·intro v' w' o1 g1 _ _
  refine h v' w' ?_ ((jez base w).grown g1 aF (λk hk=>(ax.lt k hk).1));rw[BE,jeC];exact o1
def vj{w:World}{ops:Array Oper}{rest:List Oper}{o:Oper}{a:Act}{Q:Exit->Act->World->Prop}(ef:o.guard=none)(s x:Operand)
  (ho:o.op=.call { callee:=.builtin .append,args:=#[s,x],argTypes:=#[142,142] })
  (base:Nat) (v:Value) (g:Nat) (z:Nat) (l0:List Nat) (hs:a.eval s=v) (ax:eS w base v l0) (hx:a.eval x=.slice (some ⟨g,0,none⟩) 1 1) (hc:w.cell? ⟨g,0,none⟩=some (.int .u64 (z:Int)))
  (hbytes:l0.length<=100000) (aF:base<=w.heap.size)
  (h:∀ v' w',eS w' base v' (l0++[z])->Below base w w'->wpList prog ops Q rest (a.put o.dst v') w') :
  wpList prog ops Q (o::rest) a w:=by
 obtain⟨i0,hi,bR,hz1',aX⟩:=jeT sQ;unfold eS at *
 refine jfw (w:=w) ef s x 142 ho base 92 i0 (.int .u64 0) 1 8 underlying142 hi bR hz1' aX rfl (by decide) v l0.length (aA .u64 l0) hs ax ⟨g,0,none⟩ 1 1 [.int .u64 (z:Int)] hx rfl ?_ (λu hu=>by
  have:u=.int .u64 (z:Int):=by simpa using hu
  subst this;rfl) (by unfold maxLen;omega) (by omega) aF ?_
 ·intro j u hu
  rw[oP];cases j with
  | zero =>
   simp only[List.getElem?_cons_zero,Option.some.injEq]at hu;rw[<- hu];exact hc
  | succ j=>simp at hu
 ·intro v' w' o1 g1 _ _
  refine h v' w' ?_ ((jez base w).grown g1 aF (λk hk=>(ax.lt k hk).1));rw[ek,jeC];exact o1
def Aa(D:Except Nat (List Int×List Nat))(G:List Int->List Nat->Except Nat (List Int×List Nat))(p n:Nat)(w:World)(r:Ending)(w':World):Prop :=
 ∃(l:List Int) (b':List Nat) (f':Nat),(∃ v,r=.returned v/\co w' w.heap.size v l)/\Is l/\l.length<=n/\StC 333 w' p b' f'/\dy D (G l) b' f'/\Fr p w.heap.size w w'
def Tx(G:List Int->List Nat->Except Nat (List Int×List Nat))(ys:List Int)(m:Nat):aw (rd0 (m+1)) (λl=>G (ys++l))=aw wh (λx=>aw (rd0 m) (λl=>G ((ys++[x])++l))):=by
 have:rd0 (m+1)=aw wh (λx=>aw (rd0 m) (λl r=>.ok (x::l,r))):=by funext b;rfl
 rw[this,bw];congr 1
 funext x
 rw[bw];congr 1
 funext l
 rw[cp];simp
def Yz(G:List Int->List Nat->Except Nat (List Int×List Nat))(ys:List Int):aw (rd0 0) (λl=>G (ys++l))=G ys:=by
 have:rd0 0=λb=>.ok ([],b):=by funext b;rfl
 rw[this,cp,jeS]
def Ty(G:List Int->List Nat->Except Nat (List Int×List Nat))(ys:List Int)(m:Nat)(last:Int):aw (rd1 (m+1) last) (λl=>G (ys++l))=aw wh (λx=>aw (rd1 m (w64 (last+x))) (λl=>G ((ys++[w64 (last+x)])++l))):=by
 have:rd1 (m+1) last=aw wh (λd=>aw (rd1 m (w64 (last+d))) (λl r=>.ok (w64 (last+d)::l,r))):=by funext b;rfl
 rw[this,bw];congr 1
 funext x
 rw[bw];congr 1
 funext l
 rw[cp];simp
def YA(G:List Int->List Nat->Except Nat (List Int×List Nat))(ys:List Int)(last:Int):aw (rd1 0 last) (λl=>G (ys++l))=G ys:=by
 have:rd1 0 last=λb=>.ok ([],b):=by funext b;rfl
 rw[this,cp,jeS]
def nG(ys:List Int)(n:Nat):List Int:=ys++List.replicate (n-ys.length) 0
def Ek{ys:List Int}{n:Nat}(h:ys.length<n)(z:Int):(nG ys n).set ys.length z=nG (ys++[z]) n:=by
 unfold nG;obtain⟨m,hm⟩:∃ m,n-ys.length=m+1:=⟨n-ys.length-1,by omega⟩;rw[hm,jeC,je7,show n-(ys.length+1)=m by omega,List.replicate_succ];simp
def uo{ys:List Int}{n:Nat}(h:ys.length<=n):(nG ys n).length=n:=by unfold nG;simp;omega
def Ab{ys:List Int}{n:Nat}(h:ys.length=n):nG ys n=ys:=by unfold nG;simp[h]
def wZ(n:Nat):(madeCells #[Value.int .i64 0] n).toList=aO (nG [] n):=by
 rw[jfZ];simp[aO,nG]
def Is.snoc{ys:List Int}{x:Int}(h:Is ys)(hx:I64 x):Is (ys++[x]):=λy hy=>by
 rcases je1.1 hy with hy | hy
 ·exact h y hy
 ·have:y=x:=by simpa using hy
  subst this;exact hx
def Tz{D:Except Nat (List Int×List Nat)}{G:List Int->List Nat->Except Nat (List Int×List Nat)}{w:World}{p n f:Nat}{b:List Nat}(h:StC 333 w p b f)(hn:n<=256)(hg:dy D (aw (rd0 n) G) b f) :
  Calls prog 314 #[.pointer (some ⟨p,0,none⟩),.int .i64 (n:Int)] w (Aa D G p n w):=by
 obtain⟨i0,hi,bR,hz1',aX⟩:=jeT Ej;have HS:=ae h;have HG:=ae hg;have ar:=h.lt;clear h hg;go_enter func314,ntmps314
 go_wp2_with (first | (refine jft _ rfl _ _ 143 rfl w.heap.size 2 i0 (.int .i64 0) 1 underlying143 hi bR hz1' .i64 .i64 _ _ n rfl rfl ?m1 ?m2 ?m3 ?m4 ?m5 ?_))
 case m1=>rfl
 case m2=>rfl
 case m3=>rw[aX];omega
 case m4=>unfold maxLen;omega
 case m5=>omega
 intro w4 gz iE;have bD:jgu w w4:=(jez _ _).grown iE (jeA _) (λk hk=>by cases hk)
 have ho4':w4.ownsRow w.heap.size 2 1 (.slice (some ⟨w.heap.size,0,none⟩) n n) n (aO (nG [] n)):=by
  rw[<- wZ];simpa using gz
 have gT:=ae ho4';have cL:=ae bD;clear gz iE bD ho4';go_wp2_with fail;go_loopw [11] (λi wr=>∃(ys:List Int) (b':List Nat) (f':Nat),i=.int .i64 (ys.length:Int)/\ys.length<=n/\Is ys/\wr.ownsRow w.heap.size 2 1 (.slice (some ⟨w.heap.size,0,none⟩) n n) n (aO (nG ys n))/\StC 333 wr p b' f'/\dy D (aw (rd0 (n-ys.length)) (λl=>G (ys++l))) b' f'/\Fr p w.heap.size w wr) (λi _=>n-(intOf i).toNat)
 case atStart=>exact⟨[],b,f,rfl,by simp,λx hx=>by simp at hx,gT.o,HS.o.kept cL.o ar,HG.o,Fr.of_below cL.o⟩
 case round =>
  obtain⟨ys,b',f',rfl,hk,GP,how,gx,yt,dA⟩:=hrel;have QQ:=ae GP;have HO:=ae how;have cF:=ae gx;have sI:=ae yt;have iy:=ae dA;have bF:=dA.size;clear GP how gx yt dA;by_cases jt:ys.length<n
  ·obtain⟨m,hm⟩:∃ m,n-ys.length=m+1:=⟨n-ys.length-1,by omega⟩
   have eJ:=sI.o;rw[hm,Tx]at eJ;have CG:=ae eJ.wh;have HX:=ae (jV (fK b').1);have HW:=ae (lQ cF.o);have HM:=ae hm;clear eJ hm sI;generalize fB (gt b').1=x at *;go_wp2_with fail;refine HW.o.mono ?_;rintro e w5 ⟨rfl,kT,iX⟩;have eQ:=iX.own HO.o ar;have vM:=ae (iy.o.trans (iX.mono bF));have eI:ys.length<(nG ys n).length:=by rw[uo (by omega)];exact jt
   have Gm:=(eQ.cellAt ys.length (by omega)).trans (ov eI);have Gn:=eQ.frozenAt ys.length;have hST:=eQ.stored ys.length (.int .i64 x);rw[zT,Ek jt]at hST;have Ww:=ae hST;have RD:=(eQ.lt w.heap.size rfl).2;have oK:=ae (kT.set_other (g:=w.heap.size) ar ys.length (.int .i64 x));have sk:=vM.o.size;clear hST kT iX eQ;generalize (nG ys n)[ys.length]=y at *;go_wp2_with fail;go_roundw
   case rel =>
    refine⟨ys++[x],_,_,?_,?_,QQ.o.snoc HX.o,Ww.o.1,oK.o,?_,?_⟩
    ·simp
    ·simp;omega
    ·have e:n-(ys++[x]).length=m:=by have:=HM.o;simp;omega
     rw[e];exact CG.o
    ·exact vM.o.then ((jez _ _).setCell (p:=⟨w.heap.size,ys.length,none⟩) (jeA _) _)
   case measure=>simp[intOf];omega
  ·have Gj:ys.length=n:=by omega
   have eJ:=sI.o;rw[show n-ys.length=0 by omega,Yz]at eJ;have CG:=ae eJ
   have HO':jgt (co wr w.heap.size (.slice (some ⟨w.heap.size,0,none⟩) n n) ys):=ae (by
    have:=HO.o;rw[Ab Gj]at this;unfold co;rw[Gj];exact this)
   clear eJ sI Gj;go_wp2_with fail;go_ret
   exact⟨ys,b',f',⟨_,rfl,HO'.o⟩,QQ.o,by omega,cF.o,CG.o,iy.o⟩
def Pa{D:Except Nat (List Int×List Nat)}{G:List Int->List Nat->Except Nat (List Int×List Nat)}{w:World}{p n f:Nat}{b:List Nat}(h:StC 333 w p b f)(hn:n<=256)(hg:dy D (aw (rd1 n 0) G) b f) :
  Calls prog 315 #[.pointer (some ⟨p,0,none⟩),.int .i64 (n:Int)] w (Aa D G p n w):=by
 obtain⟨i0,hi,bR,hz1',aX⟩:=jeT Ej;have HS:=ae h;have HG:=ae hg;have ar:=h.lt;clear h hg;go_enter func315,ntmps315
 go_wp2_with (first | (refine jft _ rfl _ _ 143 rfl w.heap.size 2 i0 (.int .i64 0) 1 underlying143 hi bR hz1' .i64 .i64 _ _ n rfl rfl ?m1 ?m2 ?m3 ?m4 ?m5 ?_))
 case m1=>rfl
 case m2=>rfl
 case m3=>rw[aX];omega
 case m4=>unfold maxLen;omega
 case m5=>omega
 intro w4 gz iE;have bD:jgu w w4:=(jez _ _).grown iE (jeA _) (λk hk=>by cases hk)
 have ho4':w4.ownsRow w.heap.size 2 1 (.slice (some ⟨w.heap.size,0,none⟩) n n) n (aO (nG [] n)):=by
  rw[<- wZ];simpa using gz
 have gT:=ae ho4';have cL:=ae bD;clear gz iE bD ho4';go_wp2_with fail;go_loopw [6,12] (λah i wr=>∃(last:Int) (ys:List Int) (b':List Nat) (f':Nat),ah=.int .i64 last/\I64 last/\i=.int .i64 (ys.length:Int)/\ys.length<=n/\Is ys/\wr.ownsRow w.heap.size 2 1 (.slice (some ⟨w.heap.size,0,none⟩) n n) n (aO (nG ys n))/\StC 333 wr p b' f'/\dy D (aw (rd1 (n-ys.length) last) (λl=>G (ys++l))) b' f'/\Fr p w.heap.size w wr) (λ_ i _=>n-(intOf i).toNat)
 case atStart=>exact⟨0,[],b,f,rfl,by unfold I64;omega,rfl,by simp,λx hx=>by simp at hx,gT.o,HS.o.kept cL.o ar,HG.o,Fr.of_below cL.o⟩
 case round =>
  obtain⟨last,ys,b',f',rfl,Wz,rfl,hk,GP,how,gx,yt,dA⟩:=hrel;have QQ:=ae GP;have HO:=ae how;have cF:=ae gx;have sI:=ae yt;have iy:=ae dA;have bF:=dA.size;clear GP how gx yt dA;by_cases jt:ys.length<n
  ·obtain⟨m,hm⟩:∃ m,n-ys.length=m+1:=⟨n-ys.length-1,by omega⟩
   have eJ:=sI.o;rw[hm,Ty]at eJ;have CG:=ae eJ.wh;have HX:=ae (kZ (last+fB (gt b').1));have RG:=wX (last+fB (gt b').1);have HW:=ae (lQ cF.o);have HM:=ae hm;clear eJ hm sI;generalize fB (gt b').1=x0 at *;generalize w64 (last+x0)=x at *;go_wp2_with fail;refine HW.o.mono ?_;rintro e w5 ⟨rfl,kT,iX⟩;have eQ:=iX.own HO.o ar;have vM:=ae (iy.o.trans (iX.mono bF));have eI:ys.length<(nG ys n).length:=by rw[uo (by omega)];exact jt
   have Gm:=(eQ.cellAt ys.length (by omega)).trans (ov eI);have Gn:=eQ.frozenAt ys.length;have hST:=eQ.stored ys.length (.int .i64 x);rw[zT,Ek jt]at hST;have Ww:=ae hST;have RD:=(eQ.lt w.heap.size rfl).2;have oK:=ae (kT.set_other (g:=w.heap.size) ar ys.length (.int .i64 x));have sk:=vM.o.size;clear hST kT iX eQ;generalize (nG ys n)[ys.length]=y at *;go_wp2_with fail;go_roundw
   case rel =>
    refine⟨x,ys++[x],_,_,rfl,HX.o,?_,?_,QQ.o.snoc HX.o,Ww.o.1,oK.o,?_,?_⟩
    ·simp
    ·simp;omega
    ·have e:n-(ys++[x]).length=m:=by have:=HM.o;simp;omega
     rw[e];exact CG.o
    ·exact vM.o.then ((jez _ _).setCell (p:=⟨w.heap.size,ys.length,none⟩) (jeA _) _)
   case measure=>simp[intOf];omega
  ·have Gj:ys.length=n:=by omega
   have eJ:=sI.o;rw[show n-ys.length=0 by omega,YA]at eJ;have CG:=ae eJ
   have HO':jgt (co wr w.heap.size (.slice (some ⟨w.heap.size,0,none⟩) n n) ys):=ae (by
    have:=HO.o;rw[Ab Gj]at this;unfold co;rw[Gj];exact this)
   clear eJ sI Gj;go_wp2_with fail;go_ret
   exact⟨ys,b',f',⟨_,rfl,HO'.o⟩,QQ.o,by omega,cF.o,CG.o,iy.o⟩
def dy.any{D:Except Nat (List Int×List Nat)}{K K':List Nat->Except Nat (List Int×List Nat)}{b:List Nat}{f:Nat}(h:dy D K b f)(hf:f≠0):dy D K' b f:=⟨λe=>absurd e hf,h.2⟩
def uq{lo hi v f:Nat}(h:v<lo∨hi<v):dS lo hi v f≠0:=by
 unfold dS orf;rw[jey h];split<;>omega
def TA(G:List Int->List Nat->Except Nat (List Int×List Nat))(ys:List Int)(fu m:Nat)(hm:m≠0):aw (rd2 (fu+1) m) (λl=>G (ys++l)) =
  aw wh (λx=>aw num (λk=>if k=0∨m<k then (λ_=>.error 40) else aw (rd2 fu (m-k)) (λl=>G ((ys++List.replicate k x)++l)))):=by
 have:rd2 (fu+1) m=aw wh (λx=>aw num (λk=>if k=0∨m<k then (λ_=>.error 40) else aw (rd2 fu (m-k)) (λl r=>.ok (List.replicate k x++l,r)))):=by
  funext b
  rw[rd2,jex hm]
 rw[this,bw];congr 1
 funext x
 rw[bw];congr 1
 funext k
 split
 ·rfl
 ·rw[bw]
  congr 1
  funext l
  rw[cp];simp
def YB(G:List Int->List Nat->Except Nat (List Int×List Nat))(ys:List Int)(fu:Nat):aw (rd2 fu 0) (λl=>G (ys++l))=G ys:=by
 have:rd2 fu 0=λb=>.ok ([],b):=by funext b;exact DE fu b
 rw[this,cp,jeS]
def jaR:Value->Nat
 | .slice _ n _=>n
 | _=>0
def El(p:Nat)(W:World):Nat :=
 match W.cell? ⟨p,1,none⟩ with
 | some (.int _ n)=>if n=0 then 1 else 0
 | _=>0
def Pb{T:Nat}{W:World}{p:Nat}{b:List Nat}{f:Nat}(h:StC T W p b f)(hf:f=0):El p W=1:=by
 obtain⟨_,_,_,_,h1,_⟩:=h.cells;unfold El;rw[h1,hf];rfl
def TB{T:Nat}{W:World}{p:Nat}{b:List Nat}{f:Nat}(h:StC T W p b f)(hf:f≠0):El p W=0:=by
 obtain⟨_,_,_,_,h1,_⟩:=h.cells;unfold El;rw[h1];simp only;rw[jex (by omega)]
def YC(p:Nat)(W:World):El p W<=1:=by
 unfold El;split
 ·split<;>omega
 ·omega
def TC{D:Except Nat (List Int×List Nat)}{G:List Int->List Nat->Except Nat (List Int×List Nat)}{w:World}{p n f:Nat}{b:List Nat}(h:StC 333 w p b f)(hn:n<=256)(hg:dy D (aw (rd2 n n) G) b f) :
  Calls prog 316 #[.pointer (some ⟨p,0,none⟩),.int .i64 (n:Int)] w (Aa D G p n w):=by
 have HS:=ae h;have HG:=ae hg;have ar:=h.lt;clear h hg;go_enter func316,ntmps316
 go_wp2_with fail;go_loopw [5] (λv wr=>∃(fu:Nat) (ys:List Int) (b':List Nat) (f':Nat),ys.length<=n/\Is ys/\co wr w.heap.size v ys/\StC 333 wr p b' f'/\(f'=0->n-ys.length<=fu)/\dy D (aw (rd2 fu (n-ys.length)) (λl=>G (ys++l))) b' f'/\Fr p w.heap.size w wr) (λv wr=>2*(n-jaR v)+El p wr)
 case atStart=>exact⟨n,[],b,f,by simp,λx hx=>by simp at hx,co.nil _ _,HS.o,λ_=>by simp,HG.o,Fr.refl _ _ _⟩
 case round =>
  obtain⟨fu,ys,b',f',hk,GP,how,gx,hfu,yt,dA⟩:=hrel;have QQ:=ae GP;have HO:=ae how;have cF:=ae gx;have sI:=ae yt;have iy:=ae dA;have HFU:=ae hfu;have bF:=dA.size;obtain⟨av,cv,rfl⟩:=how.len;obtain⟨g,off,cap,c0,c1,c2,c3,c4,c5,c6,c7,c8,c9⟩:=gx.cells;clear GP how gx yt dA hfu c0 c2 c3 c4 c5 c6 c7 c8 c9;by_cases jt:(ys.length:Int)<(n:Int)
  ·by_cases uT:((f':Int)==0)=true
   ·have hf0':f'=0:=by simpa using uT
    have hm:n-ys.length≠0:=(by omega);have hfu2:=HFU.o hf0';obtain⟨fu',rfl⟩:∃ q,fu=q+1:=⟨fu-1,by omega⟩;have eJ:=sI.o;rw[TA _ _ _ _ hm]at eJ;have hgo3:=eJ.wh;have HX:=ae (jV (fK b').1);have HW:=ae (lQ cF.o);have ME:=ae (Pb cF.o hf0');clear eJ sI;generalize fB (gt b').1=x at *;generalize b'.drop (gt b').2.1=b1 at *;generalize orf f' (gt b').2.2=f1 at *;have WB:=dy.num (lo:=1) (hi:=n-ys.length) (λv=>by constructor<;>(intro h;omega)) hgo3;obtain⟨g1,g2,g3,g4⟩:=fK b1;have hsub:(n:Int)-(ys.length:Int)=((n-ys.length:Nat):Int):=(by omega)
    have Gq:cJ 1 (n-ys.length) (gt b1).1=0->dS 1 (n-ys.length) (gt b1).1 (orf f1 (gt b1).2.2)≠0:=by
     intro h0;unfold cJ at h0;split at h0
     ·next hb=>exact uq hb
     ·next hb=>omega
    have jcV:cJ 1 (n-ys.length) (gt b1).1<=n-ys.length:=by
     unfold cJ;split<;>omega
    have me:jgt (∀ W,StC 333 W p b1 f1->Calls prog 321 #[.pointer (some ⟨p,0,none⟩),.int .u64 (1:Int),.int .u64 ((n-ys.length:Nat):Int)] W λr w'=>r=.returned (.int .u64 (cJ 1 (n-ys.length) (gt b1).1:Int))/\StC 333 w' p (b1.drop (gt b1).2.1) (dS 1 (n-ys.length) (gt b1).1 (orf f1 (gt b1).2.2))/\Fr p W.heap.size W w'):=λW h=>li h 1 (n-ys.length) (by omega) (by omega)
    have jac:=ae WB;have tP:=ae Gq;clear hgo3 WB g1 g2 g3 g4 Gq HFU;generalize cJ 1 (n-ys.length) (gt b1).1=k at *;generalize dS 1 (n-ys.length) (gt b1).1 (orf f1 (gt b1).2.2)=f2 at *;generalize b1.drop (gt b1).2.1=b2 at *;clear hf0';go_wp2_with fail;refine HW.o.mono ?_;rintro e w5 ⟨rfl,kT,iX⟩;have oK:=ae kT;have dK:=ae (HO.o.fr iX ar);have vM:=ae (iy.o.trans (iX.mono bF));have sk:=vM.o.size;clear kT iX c1;go_wp2_with fail;refine(me.o _ oK.o).mono ?_;rintro e w6 ⟨rfl,Dd,Ld⟩;have HS6:=ae Dd;have oJ:=ae (dK.o.fr Ld ar);have lB:=ae (vM.o.trans (Ld.mono sk));have GO:=lB.o.size;clear Dd Ld;go_wp2_with fail;go_loopw [5,29] (λv j wq=>∃ i:Nat,i<=k/\j=.int .u64 (i:Int)/\co wq w.heap.size v (ys++List.replicate i x)/\StC 333 wq p b2 f2/\Fr p w.heap.size w wq) (λ_ j _=>k-(intOf j).toNat)
    case atStart=>exact⟨0,by omega,rfl,by simpa using oJ.o,HS6.o,lB.o⟩
    case round =>
     obtain⟨i,hik,rfl,hoq,hsq,hfq⟩:=hrel;have HOQ:=ae hoq;have HSQ:=ae hsq;have HFQ:=ae hfq;have hzq:=hfq.size;obtain⟨aq,cq,rfl⟩:=hoq.len;clear hoq hsq hfq;by_cases QR:(i:Int)<(k:Int)
     ·have RH:=ae (HOQ.o.kept ((jez _ _).alloc (jeA _) (.cells #[.int .i64 x] 2)))
      have jD:=ae (HSQ.o.kept ((jez _ _).alloc (jeA _) (.cells #[.int .i64 x] 2)) HSQ.o.lt);have RJ:=ae (HFQ.o.then ((jez w.heap.size _).alloc hzq (.cells #[.int .i64 x] 2)));have bH:(ys++List.replicate i x).length<=256:=by simp;omega
      go_wp2_with (first | (at_builtin;refine dv rfl _ _ rfl w.heap.size _ _ x (ys++List.replicate i x) rfl RH.o rfl ?c1 ?c2 ?c3 ?_))
      case c1=>exact aV _ _ _
      case c2=>omega
      case c3=>rw[jeB];omega
      intro v7 w7 o7 b7;have e7:ys++(List.replicate i x++[x])=ys++List.replicate (i+1) x:=by rw[List.replicate_succ']
      rw[e7]at o7;have oV:=ae o7;have QS:=ae (jD.o.kept b7 ar);have HF7:=ae (RJ.o.then b7);clear o7 b7 e7;go_wp2_with fail;go_roundw
      case rel=>exact⟨i+1,by omega,by go_num,oV.o,QS.o,HF7.o⟩
      case measure=>simp[intOf];omega
     ·obtain rfl:i=k:=by omega
      have HNEW:jgt (∃ fu2,(f2=0->n-(ys++List.replicate i x).length<=fu2)/\dy D (aw (rd2 fu2 (n-(ys++List.replicate i x).length)) (λl=>G ((ys++List.replicate i x)++l))) b2 f2):=ae (by
       have oU:n-(ys++List.replicate i x).length=n-ys.length-i:=by simp;omega
       rw[oU];by_cases cM:f2=0
       ·have hi0:i≠0:=λe=>tP.o e cM
        exact⟨fu',λ_=>by omega,jac.o⟩
       ·exact⟨0,λe=>absurd e cM,jac.o.any cM⟩)
      have HME:jgt (2*(n-(ys++List.replicate i x).length)+El p wr<2*(n-ys.length)+1):=ae (by
       have oU:(ys++List.replicate i x).length=ys.length+i:=by simp
       rw[oU];by_cases cM:f2=0
       ·have hi0:i≠0:=λe=>tP.o e cM
        have:=YC p wr;omega
       ·rw[TB HSQ.o cM]
        omega)
      have HISN:jgt (Is (ys++List.replicate i x)):=λy hy=>by
       rcases je1.1 hy with hy | hy
       ·exact QQ.o y hy
       ·rw[jgj hy]
        exact HX.o
      have sG:jgt ((ys++List.replicate i x).length<=n):=ae (by simp;omega);go_wp2_with fail;go_roundw
      case rel =>
       obtain⟨fu2,h1,h2⟩:=HNEW.o;exact⟨fu2,_,_,_,sG.o,HISN.o,HOQ.o,HSQ.o,h1,h2,HFQ.o⟩
      case measure =>
       have h1:=HME.o;have h2:=ME.o;simp only[jaR];rw[h2];exact h1
   ·have hff:((f':Int)==0)=false:=by simpa using uT
    have dC:f'≠0:=λe=>uT (by simp[e])
    have WC:=ae (sI.o.any (K':=G ys) dC);clear uT dC;go_wp2_with fail;go_ret
    exact⟨ys,b',f',⟨_,rfl,HO.o⟩,QQ.o,hk,cF.o,WC.o,iy.o⟩
  ·have eJ:=sI.o
   rw[show n-ys.length=0 by omega,YB]at eJ;have WC:=ae eJ;clear eJ;go_wp2_with fail;go_ret
   exact⟨ys,b',f',⟨_,rfl,HO.o⟩,QQ.o,hk,cF.o,WC.o,iy.o⟩
def TD(G:List Int->List Nat->Except Nat (List Int×List Nat))(us:List Int)(q:Nat)(last:Int):aw (rdU (q+1) last) (λu=>G (us++u)) =
  aw num (λ(d:Nat)=>if d=0∨9223372036854775807-last<(d:Int) then (λ_=>.error 40) else aw (rdU q (last+d)) (λu=>G ((us++[last+d])++u))):=by
 have:rdU (q+1) last=aw num (λ(d:Nat)=>if d=0∨9223372036854775807-last<(d:Int) then (λ_=>.error 40) else aw (rdU q (last+d)) (λl r=>.ok ((last+d)::l,r))):=by
  funext b
  rw[rdU]
 rw[this,bw];congr 1
 funext d
 split
 ·rfl
 ·rw[bw]
  congr 1
  funext l
  rw[cp];simp
def YD(G:List Int->List Nat->Except Nat (List Int×List Nat))(us:List Int)(last:Int):aw (rdU 0 last) (λu=>G (us++u))=G us:=by
 have:rdU 0 last=λb=>.ok ([],b):=by funext b;rfl
 rw[this,cp,jeS]
def kx(G:List Int->List Nat->Except Nat (List Int×List Nat))(m:Nat)(us:List Int)(last:Int):List Nat->Except Nat (List Int×List Nat) :=
 if us.length=0 then (if m=0 then G [] else aw wh (λx=>aw (rdU (m-1) x) (λu=>G (x::u)))) else aw (rdU (m-us.length) last) (λu=>G (us++u))
def Pc(G:List Int->List Nat->Except Nat (List Int×List Nat))(us:List Int)(last:Int):kx G us.length us last=G us:=by
 unfold kx;by_cases h:us.length=0
 ·rw[jey h,jey h,jeW h]
 ·rw[jex h,jf4,YD]
def Em(G:List Int->List Nat->Except Nat (List Int×List Nat)){m:Nat}(hm:0<m)(last:Int):kx G m [] last=aw wh (λx=>kx G m [x] x):=by
 unfold kx;rw[jey (show ([]:List Int).length=0 from rfl),jex (by omega)];congr 1
def Jk(G:List Int->List Nat->Except Nat (List Int×List Nat)){m:Nat}{us:List Int}(h0:0<us.length)(hm:us.length<m)(last:Int):kx G m us last =
  aw num (λ(d:Nat)=>if d=0∨9223372036854775807-last<(d:Int) then (λ_=>.error 40) else kx G m (us++[last+d]) (last+d)):=by
 unfold kx;obtain⟨q,hq⟩:∃ q,m-us.length=q+1:=⟨m-us.length-1,by omega⟩;rw[jex (by omega),hq,TD];congr 1
 funext d
 rw[jex (show ¬ (us++[last+(d:Int)]).length=0 by simp),show m-(us++[last+(d:Int)]).length=q by simp;omega]
def Jl{D:Except Nat (List Int×List Nat)}{G:List Int->List Nat->Except Nat (List Int×List Nat)}{w:World}{p m f:Nat}{b:List Nat}(h:StC 333 w p b f)(hm:m<=256)(hg:dy D (kx G m [] 0) b f) :
  Calls prog 322 #[.pointer (some ⟨p,0,none⟩),.int .i64 (m:Int)] w λr w'=>∃(l:List Int) (b':List Nat) (f':Nat),(∃ v,r=.returned v/\co w' w.heap.size v l)/\Is l/\l.length=m/\StC 333 w' p b' f'/\dy D (G l) b' f'/\Fr p w.heap.size w w':=by
 have HS:=ae h;have HG:=ae hg;have ar:=h.lt;clear h hg;go_enter func322,ntmps322
 go_wp2_with fail;go_loopw [5,6,9] (λv la i wr=>∃(us:List Int) (last:Int) (b':List Nat) (f':Nat),i=.int .i64 (us.length:Int)/\la=.int .i64 last/\us.length<=m/\Is us/\I64 last/\co wr w.heap.size v us/\StC 333 wr p b' f'/\dy D (kx G m us last) b' f'/\Fr p w.heap.size w wr) (λ_ _ i _=>m-(intOf i).toNat)
 case atStart=>exact⟨[],0,b,f,rfl,rfl,by simp,λx hx=>by simp at hx,by unfold I64;omega,co.nil _ _,HS.o,HG.o,Fr.refl _ _ _⟩
 case round =>
  obtain⟨us,last,b',f',rfl,rfl,hk,hus,QM,how,gx,yt,dA⟩:=hrel;have HUS:=ae hus;have HO:=ae how;have cF:=ae gx;have sI:=ae yt;have iy:=ae dA;have HLA:=ae QM;have bF:=dA.size;obtain⟨av,cv,rfl⟩:=how.len;clear hus how gx yt dA QM;by_cases jt:us.length<m
  ·have jcZ:(us.length:Int)<(m:Int):=by omega
   by_cases hz:us.length=0
   ·obtain rfl:us=[]:=jeW hz
    have eJ:=sI.o;rw[Em G (by omega)]at eJ;have CG:=ae eJ.wh;have HX:=ae (jV (fK b').1);have HW:=ae (lQ cF.o);clear eJ sI hz jt;generalize fB (gt b').1=x at *;generalize b'.drop (gt b').2.1=b1 at *;generalize orf f' (gt b').2.2=f1 at *;rw[jeZ]at *;go_wp2_with fail;refine HW.o.mono ?_;rintro e w5 ⟨rfl,kT,iX⟩;have sk:=iX.size;have dK:=ae ((HO.o.fr iX ar).kept ((jez _ _).alloc (jeA _) (.cells #[.int .i64 x] 2)));have oK:=ae (kT.kept ((jez _ _).alloc (jeA _) (.cells #[.int .i64 x] 2)) kT.lt);have vM:=ae ((iy.o.trans (iX.mono bF)).then ((jez w.heap.size _).alloc (by omega) (.cells #[.int .i64 x] 2)));clear kT iX;go_wp2_with (first | (at_builtin;refine dv rfl _ _ rfl w.heap.size _ _ x [] rfl dK.o rfl ?c1 ?c2 ?c3 ?_))
    case c1=>exact aV _ _ _
    case c2=>simp
    case c3=>rw[jeB];omega
    intro v7 w7 o7 b7;have oV:=ae o7;have QS:=ae (oK.o.kept b7 ar);have HF7:=ae (vM.o.then b7);clear o7 b7;go_wp2_with fail;go_roundw
    case rel=>exact⟨[x],x,_,_,rfl,rfl,by simp;omega,λy hy=>by rw[je9.1 hy];exact HX.o,HX.o,oV.o,QS.o,CG.o,HF7.o⟩
    case measure=>simp[intOf];omega
   ·have bR:((us.length:Int)==0)=false:=jeF.2 (by omega)
    have eJ:=sI.o;rw[Jk G (by omega) jt]at eJ;have De:=HLA.o.1;have qs:=HLA.o.2;have WB:=dy.num (lo:=1) (hi:=(9223372036854775807-last).toNat) (λv=>by constructor<;>(intro h;omega)) eJ;have HD:=ae (λW=>nD (a:=last) (b:=9223372036854775807) HLA.o (by unfold I64;omega) qs W);have me:jgt (∀ W,StC 333 W p b' f'->Calls prog 321 #[.pointer (some ⟨p,0,none⟩),.int .u64 (1:Int),.int .u64 ((9223372036854775807-last).toNat:Int)] W λr w'=>r=.returned (.int .u64 (cJ 1 (9223372036854775807-last).toNat (gt b').1:Int))/\StC 333 w' p (b'.drop (gt b').2.1) (dS 1 (9223372036854775807-last).toNat (gt b').1 (orf f' (gt b').2.2))/\Fr p W.heap.size W w'):=λW h=>li h 1 _ (by omega) (by omega)
    have jcV:cJ 1 (9223372036854775807-last).toNat (gt b').1<=(9223372036854775807-last).toNat:=by
     unfold cJ;split<;>omega
    have jac:=ae WB;clear eJ WB sI hz;generalize cJ 1 (9223372036854775807-last).toNat (gt b').1=d at *;generalize dS 1 (9223372036854775807-last).toNat (gt b').1 (orf f' (gt b').2.2)=f1 at *;generalize b'.drop (gt b').2.1=b1 at *;have HX:jgt (I64 (last+(d:Int))):=ae (by unfold I64;omega);obtain⟨y,hy⟩:∃ y,IntKind.i64.wrap (d:Int)=y:=⟨_,rfl⟩
    have hyz:IntKind.i64.wrap (last+y)=last+(d:Int):=by
     rw[<- hy,jfq,jfq];omega
    generalize last+(d:Int)=x at *;generalize (9223372036854775807-last).toNat=hi at *;clear jcV;go_wp2_with fail;refine(HD.o _).mono ?_;rintro e w1 ⟨rfl,rfl⟩;go_wp2_with fail;refine(me.o _ cF.o).mono ?_;rintro e w5 ⟨rfl,kT,iX⟩;have sk:=iX.size;have dK:=ae ((HO.o.fr iX ar).kept ((jez _ _).alloc (jeA _) (.cells #[.int .i64 x] 2)));have oK:=ae (kT.kept ((jez _ _).alloc (jeA _) (.cells #[.int .i64 x] 2)) kT.lt);have vM:=ae ((iy.o.trans (iX.mono bF)).then ((jez w.heap.size _).alloc (by omega) (.cells #[.int .i64 x] 2)));clear kT iX;go_wp2_with (first | (at_builtin;refine dv rfl _ _ rfl w.heap.size _ _ x us rfl dK.o rfl ?c1 ?c2 ?c3 ?_))
    case c1=>exact aV _ _ _
    case c2=>omega
    case c3=>rw[jeB];omega
    intro v7 w7 o7 b7;have oV:=ae o7;have QS:=ae (oK.o.kept b7 ar);have HF7:=ae (vM.o.then b7);clear o7 b7;go_wp2_with fail;go_roundw
    case rel=>exact⟨us++[x],x,_,_,by simp,rfl,by simp;omega,HUS.o.snoc HX.o,HX.o,oV.o,QS.o,jac.o,HF7.o⟩
    case measure=>simp[intOf];omega
  ·obtain rfl:us.length=m:=by omega
   have eJ:=sI.o;rw[Pc]at eJ;have WC:=ae eJ;clear eJ sI;go_wp2_with fail;go_ret
   exact⟨us,b',f',⟨_,rfl,HO.o⟩,HUS.o,rfl,cF.o,WC.o,iy.o⟩
def xa:∀{q:Nat} {last:Int} {b r:List Nat} {u:List Int},rdU q last b=.ok (u,r)->u.length=q
 | 0,last,b,r,u,h=>by
  simp only[rdU,Except.ok.injEq,Prod.mk.injEq]at h;rw[<- h.1];rfl
 | q+1,last,b,r,u,h=>by
  rw[rdU]at h;obtain⟨d,q1,h1,h2⟩:=bS h;split at h2
  ·simp at h2
  ·obtain⟨m,q2,h3,h4⟩:=bS h2
   simp only[Except.ok.injEq,Prod.mk.injEq]at h4;rw[<- h4.1,jeI,xa h3]
def G3(n:Nat)(G:List Int->List Nat->Except Nat (List Int×List Nat))(u:List Int):List Nat->Except Nat (List Int×List Nat):=if n=0 then G [] else aw (pkd n (cY (u.length-1))) (λp=>aw (picked u p) G)
def YE(n:Nat)(G:List Int->List Nat->Except Nat (List Int×List Nat)):aw (rd3 n) G=aw num (λmany=>if n<many∨many=0/\0<n then (λ_=>.error 40) else
  if n=0 then G [] else aw wh (λx=>aw (rdU (many-1) x) (λu=>aw (pkd n (cY (many-1))) (λp=>aw (picked (x::u) p) G)))):=by
 have:rd3 n=aw num (λmany=>if n<many∨many=0/\0<n then (λ_=>.error 40) else if n=0 then (λr=>.ok ([],r)) else
  aw wh (λx=>aw (rdU (many-1) x) (λu=>aw (pkd n (cY (many-1))) (λp r=>picked (x::u) p r)))):=by
  funext b
  rfl
 rw[this,bw];congr 1
 funext many
 split
 ·rfl
 ·split
  ·rw[cp]
  ·rw[bw]
   congr 1
   funext x
   rw[bw];congr 1
   funext u
   rw[bw]
def TE(n:Nat)(G:List Int->List Nat->Except Nat (List Int×List Nat))(many:Nat)(hm:0<many)(hn:n≠0):(aw wh (λx=>aw (rdU (many-1) x) (λu=>aw (pkd n (cY (many-1))) (λp=>aw (picked (x::u) p) G))))=kx (G3 n G) many [] 0:=by
 unfold kx;rw[jey (show ([]:List Int).length=0 from rfl),jex (by omega)];congr 1
 funext x b
 unfold aw;cases h:rdU (many-1) x b with
 | error e=>rfl
 | ok y =>
  obtain⟨u,r⟩:=y;have hl:=xa h;simp only;unfold G3;rw[jex hn,jeI,hl,Nat.add_sub_cancel];rfl
def TF(w:Nat):unE [] 0 w=0∨64<w:=by
 by_cases h:64<w
 ·exact Or.inr h
 ·left
  unfold unE;rw[jey (by omega),jey (by simp[by8,pk])]
def dy.none{D:Except Nat (List Int×List Nat)}{G:List Int->List Nat->Except Nat (List Int×List Nat)}(hG:∀ r:List Nat,r.length≠0->G [] r=.error 32){b:List Nat}{f w:Nat}(hw:w<=64)(h:dy D (G []) b f):dy D (G []) (pkB 0 w b) (pkF 0 w b f):=by
 obtain⟨h1,h2⟩:=h;have e0:by8 (0*w)=0:=by simp[by8]
 have e1:unE [] 0 w=0:=by
  rcases TF w with h | h
  ·exact h
  ·omega
 unfold pkB pkF;rw[e0,jex (by omega),jex (by omega),List.drop_zero,jfW];rw[show unE [] ((0:Nat):Int) (w:Int)=0 from e1];by_cases hf:f=0
 ·subst hf
  rw[eC];by_cases hb:b.length=0
  ·rw[jey hb,eC]
   exact⟨λ_=>h1 rfl,λe=>absurd rfl e⟩
  ·rw[jex hb,dW (by omega)]
   refine⟨λe=>by omega,λ_=>?_⟩;rw[h1 rfl];exact hG b hb
 ·rw[dW hf,dW hf]
  exact⟨λe=>absurd e hf,h2⟩
def TG{w:Nat}{b:List Nat}:pkL 0 w b=[]:=by
 have e0:by8 (0*w)=0:=by simp[by8]
 unfold pkL;rw[e0,jex (by omega),jfW];unfold unR;split
 ·have:=dj w 0 (pk 8 [])
  apply jeW
  simpa using this
 ·rfl
def xb{n w:Nat}{b:List Nat}:(pkL n w b).length<=n:=by
 unfold pkL;split
 ·simp
 ·unfold unR
  split
  ·rw[dj];simp
  ·simp
def TH{n w:Nat}{b:List Nat}:∀ x∈pkL n w b,x<18446744073709551616:=by
 unfold pkL;split
 ·simp
 ·exact jbT
def dy.places{D:Except Nat (List Int×List Nat)}{n:Nat}{G:List Int->List Nat->Except Nat (List Int×List Nat)}(hG:∀ r:List Nat,r.length≠0->G [] r=.error 32){u:List Int}{b:List Nat}{f:Nat}(hw:cY (u.length-1)<=64)(h:dy D (G3 n G u) b f) :
  dy D (aw (picked u (pkL n (cY (u.length-1)) b)) G) (pkB n (cY (u.length-1)) b) (pkF n (cY (u.length-1)) b f):=by
 unfold G3 at h;by_cases hn:n=0
 ·subst hn
  rw[jey rfl]at h;have:=h.none hG hw
  have e:aw (picked u (pkL 0 (cY (u.length-1)) b)) G=G []:=by
   rw[TG];funext r
   unfold aw picked;rw[jey (by simp)];rfl
  rw[e];exact this
 ·rw[jex hn]at h
  exact h.pkd
def dy.picks{D:Except Nat (List Int×List Nat)}{G:List Int->List Nat->Except Nat (List Int×List Nat)}{u:List Int}{P b:List Nat}{f:Nat}(h:dy D (aw (picked u P) G) b f)(hp:∀ q∈P,q<u.length):dy D (G (P.map λq=>u.getD q 0)) b f:=by
 have e:aw (picked u P) G=G (P.map λq=>u.getD q 0):=by
  funext r
  unfold aw picked;rw[jey hp]
 rwa[e]at h
def dy.strays{D:Except Nat (List Int×List Nat)}{G:List Int->List Nat->Except Nat (List Int×List Nat)}{u:List Int}{P b:List Nat}{f:Nat}{K:List Nat->Except Nat (List Int×List Nat)}(h:dy D (aw (picked u P) G) b f)(hp:¬ ∀ q∈P,q<u.length):dy D K b (orf f 40):=by
 obtain⟨h1,h2⟩:=h;by_cases hf:f=0
 ·subst hf
  rw[eC];refine⟨λe=>by omega,λ_=>?_⟩;rw[h1 rfl];unfold aw picked;rw[jex hp]
 ·rw[dW hf]
  exact⟨λe=>absurd e hf,h2⟩
def Jm{n:Nat}(h:n<=256):cY (n-1)<=64:=fL.2 (by
 have:(256:Nat)<2 ^ 64:=by decide
 omega)
def Sv.atU{W:World}{a:Option Addr}{n cap:Nat}{l:List Nat}(h:Sv W (.slice a n cap) (aA .u64 l)){k:Nat}(hk:k<l.length) :
  ∃ b off,a=some ⟨b,off,none⟩/\b<W.heap.size/\W.cell? ⟨b,off+k,none⟩=some (.int .u64 (l[k]:Int)):=by
 obtain⟨a',c,h1,h2,h3,h4,h5⟩:=h;simp only[Value.slice.injEq]at h1;obtain⟨rfl,_,rfl⟩:=h1;obtain⟨b,off,h6,h7,h8⟩:=h5 (by rw[am];omega);exact⟨b,off,h6,h7,h8 k _ (bN hk)⟩
def Jn{D:Except Nat (List Int×List Nat)}{G:List Int->List Nat->Except Nat (List Int×List Nat)}(hG:∀ r:List Nat,r.length≠0->G [] r=.error 32){w:World}{p n f:Nat}{b:List Nat}(h:StC 333 w p b f)(hn:n<=256)(hg:dy D (aw (rd3 n) G) b f) :
  Calls prog 317 #[.pointer (some ⟨p,0,none⟩),.int .i64 (n:Int)] w (Aa D G p n w):=by
 have HS:=ae h;have HHG:=ae hG;have ar:=h.lt;obtain⟨fw,hfw⟩:∃ fw:Nat,min n 1=fw:=⟨_,rfl⟩;have zd:min (n:Int) 1=(fw:Int):=by omega
 rw[YE]at hg;have yt:=dy.num (lo:=fw) (hi:=n) (λv=>by constructor<;>(intro h;omega)) hg;have me:=ae (li h fw n (by omega) (by omega))
 have jcV:cJ fw n (gt b).1<=n:=by
  unfold cJ;split<;>omega
 have eJ:dy D (kx (G3 n G) (cJ fw n (gt b).1) [] 0) (b.drop (gt b).2.1) (dS fw n (gt b).1 (orf f (gt b).2.2)):=by
  by_cases mY:n=0
  ·subst mY
   rw[jey rfl]at yt;have h0:cJ fw 0 (gt b).1=0:=(by omega);rw[h0]
   have e:kx (G3 0 G) 0 [] 0=G []:=by
    unfold kx G3;rfl
   rw[e];exact yt
  ·by_cases sE:cJ fw n (gt b).1=0
   ·refine yt.any ?_
    have:(gt b).1<fw∨n<(gt b).1:=by
     unfold cJ at sE;split at sE
     ·assumption
     ·omega
    exact uq this
   ·rw[jex mY,TE n G _ (by omega) mY]at yt
    exact yt
 have sI:=ae eJ;clear h hg yt eJ hfw hG;generalize cJ fw n (gt b).1=cnt at *;generalize dS fw n (gt b).1 (orf f (gt b).2.2)=f1 at *;generalize b.drop (gt b).2.1=b1 at *;go_enter func317,ntmps317
 go_wp2_with fail;refine me.o.mono ?_;rintro e w1 ⟨rfl,dr,cm⟩;have iW:=ae dr;have dN:=ae cm;have bW:=cm.size;have vN:=dr.lt;clear dr cm;go_wp2_with fail;refine(Jl iW.o (by omega) sI.o).mono ?_;rintro e w2 ⟨us,b2,f2,⟨v2,rfl,eA⟩,hus,QN,cV,fY,cM⟩;subst QN;have eb:=ae eA;have HUS:=ae hus;have fJ:=ae cV;have Le:=ae fY;have eW:=ae (dN.o.trans (cM.mono bW));have aX:=cM.size;have jt:=cV.lt;obtain⟨a2,c2,rfl⟩:=eA.len;clear eA hus cV fY cM sI;have iz:=Jm (n:=us.length) (by omega);go_wp2_with fail;refine(nE us.length (by omega) _).mono ?_;rintro e w3 ⟨rfl,aJ⟩;have dL:=ae (eb.o.kept aJ);have nf:=ae (fJ.o.kept aJ jt);have mU:=ae (eW.o.then (aJ.mono (by omega)));have gy:=aJ.size;clear aJ;have HG3:=ae (Le.o.places HHG.o iz);have kS:=ae (xb (n:=n) (w:=cY (us.length-1)) (b:=b2));have HPX:=ae (TH (n:=n) (w:=cY (us.length-1)) (b:=b2));have HPK:=ae (wY nf.o n (cY (us.length-1)) hn iz);clear Le iz;generalize pkL n (cY (us.length-1)) b2=P at *;generalize pkB n (cY (us.length-1)) b2=b3 at *;generalize pkF n (cY (us.length-1)) b2 f2=f3 at *;generalize cY (us.length-1)=ww at *;go_wp2_with fail;refine HPK.o.mono ?_;rintro e w4 ⟨⟨v4,rfl,gz⟩,yb,pt⟩;have MJ:=ae gz;have zc:=ae yb;have HU4:=ae (dL.o.fr pt vN);have ya:=ae (mU.o.trans (pt.mono (by omega)));have se:=pt.size;have Lf:=yb.lt;obtain⟨a4,c4,rfl⟩:=gz.len;have hPl:=kS.o;clear gz yb pt;go_wp2_with fail;go_loopw [8,30] (λv i wr=>∃ k:Nat,k<=P.length/\i=.int .i64 (k:Int)/\(∀ q∈P.take k,q<us.length)/\co wr w4.heap.size v ((P.take k).map λq=>us.getD q 0)/\jgu w4 wr) (λ_ i _=>P.length-(intOf i).toNat)
 case atStart=>exact⟨0,by omega,rfl,λq hq=>by simp at hq,co.nil _ _,jez _ _⟩
 case round =>
  obtain⟨k,hk,rfl,ch,how,ao⟩:=hrel;have HAL:=ae ch;have HO:=ae how;have HB:=ae ao;have bF:=ao.size;obtain⟨av,cv,rfl⟩:=how.len;clear ch how ao;by_cases gA:k<P.length
  ·have jc0:(k:Int)<(P.length:Int):=by omega
   obtain⟨bp,op,hbp,hbp2,hckp⟩:=(MJ.o.kept HB.o).sv.atU gA;cases hbp
   have hqx:=HPX.o P[k] (jeD gA);have pr:=ae (jeO gA);have Wy:=ae (jeD gA);by_cases hq:P[k]<us.length
   ·have nc:¬ ((P[k]:Nat):Int)>=(us.length:Int):=by omega
    obtain⟨bu,ou,hbu,hbu2,hcku⟩:=(HU4.o.kept HB.o).sv.at hq;cases hbu
    have HGD:jgt (us.getD P[k] 0=us[P[k]]):=ae (by simp[List.getD_eq_getElem?_getD,hq]);have Gj:((P.take k).map λq=>us.getD q 0).length<=256:=by rw[jeE,jeH];omega
    generalize us[P[k]]=x at *;generalize P[k]=q at *;obtain⟨ys,GP⟩:∃ ys,((P.take k).map λq=>us.getD q 0)=ys:=⟨_,rfl⟩;rw[GP]at HO Gj ⊢;have QQ:=ae GP;clear GP;have RH:=ae (HO.o.kept ((jez _ _).alloc (jeA _) (.cells #[.int .i64 x] 2)));have fx:=ae (HB.o.alloc bF (.cells #[.int .i64 x] 2));go_wp2_with (first | (at_builtin;refine dv rfl _ _ rfl w4.heap.size _ _ x ys rfl RH.o rfl ?c1 ?c2 ?c3 ?_))
    case c2=>omega
    case c3=>omega
    intro v7 w7 o7 b7;have oV:=ae o7;have jK:=ae (fx.o.trans b7);clear o7 b7;go_wp2_with fail;go_roundw
    case rel =>
     refine⟨k+1,by omega,by go_num,?_,?_,jK.o⟩
     ·rw[pr.o]
      intro q' hq';rcases je1.1 hq' with h | h
      ·exact HAL.o q' h
      ·rw[je9.1 h]
       exact hq
     ·rw[pr.o,jeR,QQ.o,List.map_singleton,HGD.o]
      exact oV.o
    case measure=>simp[intOf];omega
   ·have nc:((P[k]:Nat):Int)>=(us.length:Int):=by omega
    have tP:jgt (¬ ∀ q∈P,q<us.length):=ae (λh=>hq (h _ Wy.o));have WC:=ae (HG3.o.strays (K:=G []) tP.o);clear hq;generalize P[k]=q at *;go_wp2_with fail;refine(cI (zc.o.kept HB.o Lf) 40).mono ?_;rintro e w8 ⟨rfl,hs8,hf8⟩;have HS8:=ae hs8;have HF8:=ae ((ya.o.then (HB.o.mono (by omega))).trans (hf8.mono (by omega)));clear hs8 hf8;go_wp2_with fail;go_ret
    exact⟨[],_,_,⟨_,rfl,co.nil _ _⟩,λx hx=>by simp at hx,by simp,HS8.o,WC.o,HF8.o⟩
  ·obtain rfl:k=P.length:=by omega
   have jc0:¬ (P.length:Int)<(P.length:Int):=(by omega);have ch:=HAL.o;rw[jeJ]at ch HO;have WC:=ae (HG3.o.picks ch);have WD:=ae (ya.o.then (HB.o.mono (by omega)));have hoe:=HO.o.low (show w.heap.size<=w4.heap.size by omega);rw[jeE]at hoe;have HOE:=ae hoe;clear hoe
   have jc2:jgt (Is (P.map λq=>us.getD q 0)):=ae (λy hy=>by
    obtain⟨q,hq,rfl⟩:=jeN.1 hy;have:=ch q hq;rw[List.getD_eq_getElem?_getD,List.getElem?_eq_getElem this];exact HUS.o _ (jeD this))
   have sG:jgt ((P.map λq=>us.getD q 0).length<=n):=ae (by rw[jeE];exact hPl);clear ch;go_wp2_with fail;go_ret
   exact⟨_,_,_,⟨_,rfl,HOE.o⟩,jc2.o,sG.o,zc.o.kept HB.o Lf,WC.o,WD.o⟩
def YF(n:Nat)(hn:n≠0)(G:List Int->List Nat->Except Nat (List Int×List Nat)):aw (rd4 n) G=aw wh (λx=>aw num (λw=>if 64<w then (λ_=>.error 40) else aw (pkd n w) (λp=>G (p.map (λ(q:Nat)=>w64 (x+(q:Int))))))):=by
 have:rd4 n=aw wh (λx=>aw num (λw=>if 64<w then (λ_=>.error 40) else aw (pkd n w) (λp r=>.ok (p.map (λ(q:Nat)=>w64 (x+(q:Int))),r)))):=by
  funext b
  unfold rd4;rw[jex hn]
 rw[this,bw];congr 1
 funext x
 rw[bw];congr 1
 funext w
 split
 ·rfl
 ·rw[bw]
  rfl
def TI(G:List Int->List Nat->Except Nat (List Int×List Nat)):aw (rd4 0) G=G []:=by
 have:rd4 0=λb=>.ok ([],b):=by funext b;rfl
 rw[this,cp]
def En{D:Except Nat (List Int×List Nat)}{G:List Int->List Nat->Except Nat (List Int×List Nat)}{w:World}{p n f:Nat}{b:List Nat}(h:StC 333 w p b f)(hn:n<=256)(hg:dy D (aw (rd4 n) G) b f) :
  Calls prog 318 #[.pointer (some ⟨p,0,none⟩),.int .i64 (n:Int)] w (Aa D G p n w):=by
 have HS:=ae h;have ar:=h.lt;by_cases mY:n=0
 ·subst mY
  rw[TI]at hg;have HG:=ae hg;clear h hg;go_enter func318,ntmps318
  go_wp2_with fail;go_ret
  exact⟨[],b,f,⟨_,rfl,co.nil _ _⟩,λx hx=>by simp at hx,by simp,HS.o,HG.o,Fr.refl _ _ _⟩
 ·have Gt:((n:Int)==0)=false:=jeF.2 (by omega)
  rw[YF n mY]at hg;have dP:=hg.wh;have HX:=ae (jV (fK b).1);have HW:=ae (lQ h);clear h hg;generalize fB (gt b).1=x at *;generalize b.drop (gt b).2.1=b1 at *;generalize orf f (gt b).2.2=f1 at *;have fY:=dy.num (lo:=0) (hi:=64) (λv=>by constructor<;>(intro h;omega)) dP;have me:jgt (∀ W,StC 333 W p b1 f1->Calls prog 321 #[.pointer (some ⟨p,0,none⟩),.int .u64 (0:Int),.int .u64 (64:Int)] W λr w'=>r=.returned (.int .u64 (cJ 0 64 (gt b1).1:Int))/\StC 333 w' p (b1.drop (gt b1).2.1) (dS 0 64 (gt b1).1 (orf f1 (gt b1).2.2))/\Fr p W.heap.size W w'):=λW h=>li h 0 64 (by omega) (by omega)
  have hwle:cJ 0 64 (gt b1).1<=64:=by
   unfold cJ;split<;>omega
  clear dP mY;generalize cJ 0 64 (gt b1).1=ww at *;generalize dS 0 64 (gt b1).1 (orf f1 (gt b1).2.2)=f2 at *;generalize b1.drop (gt b1).2.1=b2 at *;have HG3:=ae fY.pkd;have kS:=ae (xb (n:=n) (w:=ww) (b:=b2));have HPX:=ae (TH (n:=n) (w:=ww) (b:=b2));have HPK:jgt (∀ W,StC 333 W p b2 f2->Calls prog 323 #[.pointer (some ⟨p,0,none⟩),.int .i64 (n:Int),.int .i64 (ww:Int)] W λr w'=>(∃ v,r=.returned v/\eS w' W.heap.size v (pkL n ww b2))/\StC 333 w' p (pkB n ww b2) (pkF n ww b2 f2)/\Fr p W.heap.size W w'):=λW h=>wY h n ww hn hwle
  clear fY;generalize pkL n ww b2=P at *;generalize pkB n ww b2=b3 at *;generalize pkF n ww b2 f2=f3 at *;go_enter func318,ntmps318
  go_wp2_with fail;refine HW.o.mono ?_;rintro e w1 ⟨rfl,dr,cm⟩;have iW:=ae dr;have dN:=ae cm;have bW:=cm.size;clear dr cm;go_wp2_with fail;refine(me.o _ iW.o).mono ?_;rintro e w2 ⟨rfl,cV,cM⟩;have fJ:=ae cV;have eW:=ae (dN.o.trans (cM.mono bW));have aX:=cM.size;clear cV cM;go_wp2_with fail;refine(HPK.o _ fJ.o).mono ?_;rintro e w4 ⟨⟨v4,rfl,gz⟩,yb,pt⟩;have MJ:=ae gz;have zc:=ae yb;have ya:=ae (eW.o.trans (pt.mono (by omega)));have se:=pt.size;have Lf:=yb.lt;obtain⟨a4,c4,rfl⟩:=gz.len;have hPl:=kS.o;clear gz yb pt;go_wp2_with fail;go_loopw [7,22] (λv i wr=>∃ k:Nat,k<=P.length/\i=.int .i64 (k:Int)/\co wr w4.heap.size v ((P.take k).map λ(q:Nat)=>w64 (x+(q:Int)))/\jgu w4 wr) (λ_ i _=>P.length-(intOf i).toNat)
  case atStart=>exact⟨0,by omega,rfl,co.nil _ _,jez _ _⟩
  case round =>
   obtain⟨k,hk,rfl,how,ao⟩:=hrel;have HO:=ae how;have HB:=ae ao;have bF:=ao.size;obtain⟨av,cv,rfl⟩:=how.len;clear how ao;by_cases gA:k<P.length
   ·have jc0:(k:Int)<(P.length:Int):=by omega
    obtain⟨bp,op,hbp,hbp2,hckp⟩:=(MJ.o.kept HB.o).sv.atU gA;cases hbp
    have hqx:=HPX.o P[k] (jeD gA);have pr:=ae (jeO gA);have Gj:((P.take k).map λ(q:Nat)=>w64 (x+(q:Int))).length<=256:=by rw[jeE,jeH];omega
    generalize P[k]=q at *;obtain⟨y,hy⟩:∃ y,IntKind.i64.wrap (q:Int)=y:=⟨_,rfl⟩;obtain⟨z,hz⟩:∃ z,w64 (x+(q:Int))=z:=⟨_,rfl⟩
    have hyz:IntKind.i64.wrap (x+y)=z:=by
     rw[<- hy,<- hz,<- wX,jfq,jfq,jfq];omega
    have HZ:=ae hz;obtain⟨ys,GP⟩:∃ ys,((P.take k).map λ(q:Nat)=>w64 (x+(q:Int)))=ys:=⟨_,rfl⟩;rw[GP]at HO Gj ⊢;have QQ:=ae GP;clear GP hz;have RH:=ae (HO.o.kept ((jez _ _).alloc (jeA _) (.cells #[.int .i64 z] 2)));have fx:=ae (HB.o.alloc bF (.cells #[.int .i64 z] 2));go_wp2_with (first | (at_builtin;refine dv rfl _ _ rfl w4.heap.size _ _ z ys rfl RH.o rfl (aV _ _ _) ?c2 ?c3 ?_))
    case c2=>omega
    case c3=>first | omega | (rw[jeB];omega)
    intro v7 w7 o7 b7;have oV:=ae o7;have jK:=ae (fx.o.trans b7);clear o7 b7;go_wp2_with fail;go_roundw
    case rel =>
     refine⟨k+1,by omega,by go_num,?_,jK.o⟩;rw[pr.o,jeR,QQ.o,List.map_singleton,HZ.o];exact oV.o
    case measure=>simp[intOf];omega
   ·obtain rfl:k=P.length:=by omega
    have jc0:¬ (P.length:Int)<(P.length:Int):=(by omega);rw[jeJ]at HO;have WD:=ae (ya.o.then (HB.o.mono (by omega)));have hoe:=HO.o.low (show w.heap.size<=w4.heap.size by omega);rw[jeE]at hoe;have HOE:=ae hoe;clear hoe
    have jc2:jgt (Is (P.map λ(q:Nat)=>w64 (x+(q:Int)))):=ae (λy hy=>by
     obtain⟨q,hq,rfl⟩:=jeN.1 hy;exact kZ _)
    have sG:jgt ((P.map λ(q:Nat)=>w64 (x+(q:Int))).length<=n):=ae (by rw[jeE];exact hPl);go_wp2_with fail;go_ret
    exact⟨_,_,_,⟨_,rfl,HOE.o⟩,jc2.o,sG.o,zc.o.kept HB.o Lf,HG3.o,WD.o⟩
def TJ{D:Except Nat (List Int×List Nat)}{G:List Int->List Nat->Except Nat (List Int×List Nat)}(hG:∀ r:List Nat,r.length≠0->G [] r=.error 32){w:World}{p n f c:Nat}{b:List Nat}(h:StC 333 w p b f)(hn:n<=256)(hc:c<=4)(hg:dy D (aw (rdC c n) G) b f) :
  Calls prog 307 #[.pointer (some ⟨p,0,none⟩),.int .u8 (c:Int),.int .i64 (n:Int)] w (Aa D G p n w):=by
 obtain rfl | rfl | rfl | rfl | rfl:c=0∨c=1∨c=2∨c=3∨c=4:=by omega
 ·have HC:=ae (Tz h hn hg)
  clear h hg hG;go_enter func307,ntmps307
  go_wp2_with fail;refine HC.o.mono ?_;rintro e w1 ⟨l,b',f',⟨v,rfl,ho⟩,hr⟩;have HO:=ae ho;have HR:=ae hr;clear ho hr;go_wp2_with fail;go_ret
  exact⟨l,b',f',⟨_,rfl,HO.o⟩,HR.o⟩
 ·have HC:=ae (Pa h hn hg)
  clear h hg hG;go_enter func307,ntmps307
  go_wp2_with fail;refine HC.o.mono ?_;rintro e w1 ⟨l,b',f',⟨v,rfl,ho⟩,hr⟩;have HO:=ae ho;have HR:=ae hr;clear ho hr;go_wp2_with fail;go_ret
  exact⟨l,b',f',⟨_,rfl,HO.o⟩,HR.o⟩
 ·have HC:=ae (TC h hn hg)
  clear h hg hG;go_enter func307,ntmps307
  go_wp2_with fail;refine HC.o.mono ?_;rintro e w1 ⟨l,b',f',⟨v,rfl,ho⟩,hr⟩;have HO:=ae ho;have HR:=ae hr;clear ho hr;go_wp2_with fail;go_ret
  exact⟨l,b',f',⟨_,rfl,HO.o⟩,HR.o⟩
 ·have HC:=ae (Jn hG h hn hg)
  clear h hg hG;go_enter func307,ntmps307
  go_wp2_with fail;refine HC.o.mono ?_;rintro e w1 ⟨l,b',f',⟨v,rfl,ho⟩,hr⟩;have HO:=ae ho;have HR:=ae hr;clear ho hr;go_wp2_with fail;go_ret
  exact⟨l,b',f',⟨_,rfl,HO.o⟩,HR.o⟩
 ·have HC:=ae (En h hn hg)
  clear h hg hG;go_enter func307,ntmps307
  go_wp2_with fail;refine HC.o.mono ?_;rintro e w1 ⟨l,b',f',⟨v,rfl,ho⟩,hr⟩;have HO:=ae ho;have HR:=ae hr;clear ho hr;go_wp2_with fail;go_ret
  exact⟨l,b',f',⟨_,rfl,HO.o⟩,HR.o⟩
end Go.Proofs.YtpljdjmpamjkhaaGreatDoor
