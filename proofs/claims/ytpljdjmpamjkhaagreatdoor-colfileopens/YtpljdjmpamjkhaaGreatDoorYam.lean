import Derived.Test.YtpljdjmpamjkhaaGreatDoorYac
import Derived.Test.YtpljdjmpamjkhaaGreatDoorYae
import Derived.Test.YtpljdjmpamjkhaaGreatDoorYal
set_option linter.unusedVariables false
set_option linter.unusedSimpArgs false
set_option maxRecDepth 100000
set_option maxHeartbeats 4000000
namespace Go.Proofs.YtpljdjmpamjkhaaGreatDoor
open Go.RowKit Go.Lib
theorem cM{W:World}{p T:Nat}{c:Array Value}{fz:Nat×Nat}(h:W.heap[p]?=some (.cells c T fz))(i:Nat)(v:Value):(W.setCell ⟨p,i,none⟩ v).heap[p]?=some (.cells (c.setIfInBounds i v) T fz):=by
 rw[Sort.setCell_eq];simp[Sort.mapBlock,Array.getElem?_modify,h,Sort.onCells]
def StC(T:Nat)(W:World)(p:Nat)(b:List Nat)(f:Nat):Prop :=
 ∃ g off cap,W.heap[p]?=some (.cells #[.slice (some ⟨g,off,none⟩) b.length cap,.int .i64 (f:Int)] T (0,0))/\g<p/\b.length<=cap/\cap<=maxLen/\Bs b /\
  ∀ j (h:j<b.length),W.cell? ⟨g,off+j,none⟩=some (.int .u8 (b[j]:Int))
theorem StC.bs{T:Nat}{W:World}{p:Nat}{b:List Nat}{f:Nat}(h:StC T W p b f):Bs b:=by obtain⟨_,_,_,_,_,_,_,h,_⟩:=h;exact h
theorem StC.lt{T:Nat}{W:World}{p:Nat}{b:List Nat}{f:Nat}(h:StC T W p b f):p<W.heap.size:=by obtain⟨_,_,_,h,_⟩:=h;exact(Array.getElem?_eq_some_iff.1 h).1
theorem StC.kept{T:Nat}{W W':World}{p B:Nat}{b:List Nat}{f:Nat}(h:StC T W p b f)(hb:Below B W W')(hp:p<B):StC T W' p b f:=by
 obtain⟨g,off,cap,h1,h2,h3,h4,h5,h6⟩:=h;exact⟨g,off,cap,(hb.block p hp).trans h1,h2,h3,h4,h5,fun j hj=>(hb.cell (p:=⟨g,off+j,none⟩) (show g<B by omega)).trans (h6 j hj)⟩
theorem StC.cells{T:Nat}{W:World}{p:Nat}{b:List Nat}{f:Nat}(h:StC T W p b f) :
  ∃ g off cap,W.cell? ⟨p,0,none⟩=some (.slice (some ⟨g,off,none⟩) b.length cap)/\W.cell? ⟨p,1,none⟩=some (.int .i64 (f:Int))/\W.frozen? ⟨p,0,none⟩=false/\W.frozen? ⟨p,1,none⟩=false /\
   b.length<=cap/\cap<=9223372036854775807/\Sv W (.slice (some ⟨g,off,none⟩) b.length cap) (aE .u8 b)/\g<p /\
   (∀ f':Nat,StC T (W.setCell ⟨p,1,none⟩ (.int .i64 (f':Int))) p b f') /\
   (∀ k,k<=b.length->∃ A,(if cap=k then (some ⟨g,off,none⟩:Option Addr) else some ⟨g,off+k,none⟩)=A/\StC T (W.setCell ⟨p,0,none⟩ (.slice A (b.length-k) (cap-k))) p (b.drop k) f):=by
 have aB:=h.lt;obtain⟨g,off,cap,h1,h2,h3,h4,h5,h6⟩:=h
 have ib:Sv W (.slice (some ⟨g,off,none⟩) b.length cap) (aE .u8 b):=by
  refine⟨_,cap,by rw[ap],by rw[ap];omega,h4,fun e=>by(cases e),fun h0=>⟨g,off,rfl,by omega,fun j x hj=>?_⟩⟩
  have hj':j<b.length:=by
   have:=(List.getElem?_eq_some_iff.1 hj).1;rwa[ap]at this
  rw[bR hj']at hj;rw[h6 j hj'];exact hj
 refine⟨g,off,cap,by rw[ax h1];rfl,by rw[ax h1];rfl,by simp[World.frozen?,h1],by simp[World.frozen?,h1],h3,by unfold maxLen at h4;omega,ib,h2,fun f'=>?_,fun k hk=>?_⟩
 ·refine⟨g,off,cap,by rw[cM h1];rfl,h2,h3,h4,h5,fun j hj=>?_⟩
  rw[World.cell?_of_block (w:=W) (Below.heap_setCell _ _ _ _ (show g≠p by omega))];exact h6 j hj
 ·obtain⟨A,hA,hSA⟩:=Ax ib (k:=k) (by rw[ap];exact hk)
  refine⟨A,hA,?_⟩;have hl:(b.drop k).length=b.length-k:=jai;have BO:Bs (b.drop k):=fun x hx=>h5 x (jbc hx)
  by_cases dP:cap=k
  ·rw[if_pos dP]at hA
   subst hA;refine⟨g,off,cap-k,by rw[cM h1,hl];rfl,h2,by omega,by omega,BO,fun j hj=>by omega⟩
  ·rw[if_neg dP]at hA
   subst hA;refine⟨g,off+k,cap-k,by rw[cM h1,hl];rfl,h2,by omega,by omega,BO,fun j hj=>?_⟩;rw[World.cell?_of_block (w:=W) (Below.heap_setCell _ _ _ _ (show g≠p by omega)),jaQ,h6 (k+j) (by omega)];simp
theorem dj{w:World}{p f:Nat}{b:List Nat}(h:StC 333 w p b f)(e:Nat) :
  Calls Tryz.prog 310 #[.pointer (some ⟨p,0,none⟩),.int .i64 (e:Int)] w fun r w'=>r=.returned (.tuple #[])/\StC 333 w' p b (orf f e)/\Fr p w.heap.size w w':=by
 have HS:=ae h;obtain⟨g,off,cap,h0,h1,h2,h3,h4,h5,h6,h7,h8,h9⟩:=h.cells;have H8:=ae (h8 e);have HF:=ae ((Fr.refl p w.heap.size w).set 1 (.int .i64 (e:Int)));clear h h6 h8 h9;by_cases hf:((f:Int)==0)=true
 ·have hf':f=0:=by simpa using hf
  have HO:Hid (orf f e=e):=by show _=_;unfold orf;rw[if_pos hf']
  clear hf';go_enter Tryz.func310,Tryz.ntmps310
  go_wp2_with fail;go_end0
  rw[HO.out];exact⟨rfl,H8.out,HF.out⟩
 ·have hff:((f:Int)==0)=false:=by simpa using hf
  have HO:Hid (orf f e=f):=by show _=_;unfold orf;rw[if_neg (fun e=>hf (by simp[e]))]
  clear hf;go_enter Tryz.func310,Tryz.ntmps310
  go_wp2_with fail;go_end0
  rw[HO.out];exact⟨rfl,HS.out,Fr.refl _ _ _⟩
theorem JE{w:World}{p f:Nat}{b:List Nat}(h:StC 333 w p b f) :
  Calls Tryz.prog 308 #[.pointer (some ⟨p,0,none⟩)] w fun r w'=>r=.returned (.tuple #[])/\StC 333 w' p b (orf f (if b.length=0 then 0 else 32))/\Fr p w.heap.size w w':=by
 have HS:=ae h;obtain⟨g,off,cap,h0,h1,h2,h3,h4,h5,h6,h7,h8,h9⟩:=h.cells;have HR:=ae (dj h 32);clear h h6 h8 h9;by_cases hp:(b.length:Int) > 0
 ·rw[if_neg (by omega)]
  go_enter Tryz.func308,Tryz.ntmps308
  go_wp2_with fail;refine HR.out.mono ?_;rintro e w1 ⟨rfl,eg,dt⟩;have iM:=ae eg;clear eg;go_wp2_with fail;go_end0
  exact⟨rfl,iM.out,dt⟩
 ·have dW:b.length=0:=by omega
  rw[if_pos dW];have HO:Hid (orf f 0=f):=by show _=_;unfold orf;split<;>simp_all
  clear dW;go_enter Tryz.func308,Tryz.ntmps308
  go_wp2_with fail;go_end0
  rw[HO.out];exact⟨rfl,HS.out,Fr.refl _ _ _⟩
theorem KW{w:World}{a:Option Addr}{n cap:Nat}{b:List Nat}(hb:Bs b)(h:Sv w (.slice a n cap) (aE .u8 b)) :
  Calls Tryz.prog 324 #[.slice a n cap] w fun e w'=>e=kE .i64 (fB (gt b).1) (gt b).2.1 (gt b).2.2/\w'=w:=Fv (h.sl hb)
theorem lM{w:World}{p f:Nat}{b:List Nat}(h:StC 333 w p b f) :
  Calls Tryz.prog 320 #[.pointer (some ⟨p,0,none⟩)] w fun r w'=>r=.returned (.int .i64 (fB (gt b).1))/\StC 333 w' p (b.drop (gt b).2.1) (orf f (gt b).2.2)/\Fr p w.heap.size w w':=by
 have HS:=ae h;have HB:=ae h.bs;obtain⟨g,off,cap,h0,h1,h2,h3,h4,h5,h6,h7,h8,h9⟩:=h.cells;obtain⟨g1,g2,g3,g4⟩:=fQ b;have HG:=ae (KW HB.out h6);have HU:=ae (jP g1);clear h h6 h8 h9 g4;generalize gt b=x at *;obtain⟨n,u,c⟩:=x;simp only at *;unfold kE at HG;generalize fB n=z at *;go_enter Tryz.func320,Tryz.ntmps320
 go_wp2_with fail;refine HG.out.mono ?_;rintro e w1 ⟨rfl,rfl⟩;go_wp2_with fail;refine(dj HS.out c).mono ?_;rintro e w2 ⟨rfl,ef,dM⟩;obtain⟨G,Off,Cap,k0,k1,k2,k3,k4,k5,k6,k7,k8,k9⟩:=ef.cells;obtain⟨A,hA,hSA⟩:=k9 u g2;have lr:=ae hSA;have gB:=ae (dM.set 0 (.slice A (b.length-u) (Cap-u)));clear ef dM k8 k9 k6 hSA h0 h1 h2 h3;go_wp2_with fail;go_ret
 exact⟨rfl,lr.out,gB.out⟩
def dm(lo hi v:Nat):Nat:=if v<lo∨hi<v then 0 else v
def ex(lo hi v f:Nat):Nat:=if v<lo∨hi<v then orf f 40 else f
theorem kP{w:World}{p f:Nat}{b:List Nat}(h:StC 333 w p b f)(lo hi:Nat)(hlo:lo<18446744073709551616)(Hl:hi<18446744073709551616) :
  Calls Tryz.prog 321 #[.pointer (some ⟨p,0,none⟩),.int .u64 (lo:Int),.int .u64 (hi:Int)] w fun r w'=>r=.returned (.int .u64 (dm lo hi (gt b).1:Int))/\StC 333 w' p (b.drop (gt b).2.1) (ex lo hi (gt b).1 (orf f (gt b).2.2))/\Fr p w.heap.size w w':=by
 have HS:=ae h;have HB:=ae h.bs;obtain⟨g,off,cap,h0,h1,h2,h3,h4,h5,h6,h7,h8,h9⟩:=h.cells;obtain⟨g1,g2,g3,g4⟩:=fQ b;have HG:=ae (Ak HB.out h6);clear h h6 h8 h9 g4;generalize gt b=x at *;obtain⟨n,u,c⟩:=x;simp only at *;unfold kE at HG;by_cases hb:n<lo∨hi<n
 ·have HW:Hid (dm lo hi n=0/\ex lo hi n (orf f c)=orf (orf f c) 40):=⟨if_pos hb,if_pos hb⟩
  by_cases hl:(n:Int)<(lo:Int)
  ·clear hb
   go_enter Tryz.func321,Tryz.ntmps321
   go_wp2_with fail;refine HG.out.mono ?_;rintro e w1 ⟨rfl,rfl⟩;go_wp2_with fail;refine(dj HS.out c).mono ?_;rintro e w2 ⟨rfl,ef,dM⟩;obtain⟨G,Off,Cap,k0,k1,k2,k3,k4,k5,k6,k7,k8,k9⟩:=ef.cells;obtain⟨A,hA,hSA⟩:=k9 u g2;have lr:=ae hSA;have gB:=ae (dM.set 0 (.slice A (b.length-u) (Cap-u)));clear ef dM k8 k9 k6 hSA h0 h1 h2 h3;go_wp2_with fail;refine(dj lr.out 40).mono ?_;rintro e w3 ⟨rfl,kX,ix⟩;have m7:=ae kX;have p7:=ae (gB.out.trans (ix.mono gB.out.size));clear kX ix;go_wp2_with fail;go_ret
   rw[HW.out.1,HW.out.2];exact⟨rfl,m7.out,p7.out⟩
  ·have hh:(n:Int) > (hi:Int):=by omega
   clear hb;go_enter Tryz.func321,Tryz.ntmps321
   go_wp2_with fail;refine HG.out.mono ?_;rintro e w1 ⟨rfl,rfl⟩;go_wp2_with fail;refine(dj HS.out c).mono ?_;rintro e w2 ⟨rfl,ef,dM⟩;obtain⟨G,Off,Cap,k0,k1,k2,k3,k4,k5,k6,k7,k8,k9⟩:=ef.cells;obtain⟨A,hA,hSA⟩:=k9 u g2;have lr:=ae hSA;have gB:=ae (dM.set 0 (.slice A (b.length-u) (Cap-u)));clear ef dM k8 k9 k6 hSA h0 h1 h2 h3;go_wp2_with fail;refine(dj lr.out 40).mono ?_;rintro e w3 ⟨rfl,kX,ix⟩;have m7:=ae kX;have p7:=ae (gB.out.trans (ix.mono gB.out.size));clear kX ix;go_wp2_with fail;go_ret
   rw[HW.out.1,HW.out.2];exact⟨rfl,m7.out,p7.out⟩
 ·have HW:Hid (dm lo hi n=n/\ex lo hi n (orf f c)=orf f c):=⟨if_neg hb,if_neg hb⟩
  have hl:¬ (n:Int)<(lo:Int):=by omega
  have hh:¬ (n:Int) > (hi:Int):=by omega
  clear hb;go_enter Tryz.func321,Tryz.ntmps321
  go_wp2_with fail;refine HG.out.mono ?_;rintro e w1 ⟨rfl,rfl⟩;go_wp2_with fail;refine(dj HS.out c).mono ?_;rintro e w2 ⟨rfl,ef,dM⟩;obtain⟨G,Off,Cap,k0,k1,k2,k3,k4,k5,k6,k7,k8,k9⟩:=ef.cells;obtain⟨A,hA,hSA⟩:=k9 u g2;have lr:=ae hSA;have gB:=ae (dM.set 0 (.slice A (b.length-u) (Cap-u)));clear ef dM k8 k9 k6 hSA h0 h1 h2 h3;go_wp2_with fail;go_ret
  rw[HW.out.1,HW.out.2];exact⟨rfl,lr.out,gB.out⟩
def pkL(n w:Nat)(b:List Nat):List Nat:=if b.length<by8 (n*w) then [] else unR (b.take (by8 (n*w))) n w
def pkB(n w:Nat)(b:List Nat):List Nat:=if b.length<by8 (n*w) then b else b.drop (by8 (n*w))
def pkF(n w:Nat)(b:List Nat)(f:Nat):Nat :=
 if b.length<by8 (n*w) then orf f 30 else orf (orf f (if (b.drop (by8 (n*w))).length=0 then 0 else 32)) (unE (b.take (by8 (n*w))) n w)
theorem yW(k:IntKind)(l:List Nat)(n:Nat):aE k (l.take n)=(aE k l).take n:=by simp[aE,ja6]
theorem vR{w:World}{p f:Nat}{b:List Nat}(h:StC 333 w p b f)(n ww:Nat)(hn:n<=256)(Mo:ww<=64) :
  Calls Tryz.prog 323 #[.pointer (some ⟨p,0,none⟩),.int .i64 (n:Int),.int .i64 (ww:Int)] w fun r w'=>(∃ v,r=.returned v/\dB w' w.heap.size v (pkL n ww b))/\StC 333 w' p (pkB n ww b) (pkF n ww b f)/\Fr p w.heap.size w w':=by
 have HS:=ae h;have HB:=ae h.bs;have aB:=h.lt;obtain⟨g,off,cap,h0,h1,h2,h3,h4,h5,h6,h7,h8,h9⟩:=h.cells;have hc:n*ww<=16384:=ZZ (jbd hn Mo) (by omega);have hmul:(n:Int)*(ww:Int)=((n*ww:Nat):Int):=by simp
 have hby2:(((n*ww:Nat):Int)+8-1) / 8=((by8 (n*ww):Nat):Int):=by unfold by8;omega
 have fM:by8 (n*ww)<=2048:=by unfold by8;omega
 have HL:Hid (pkL n ww b=if b.length<by8 (n*ww) then [] else unR (b.take (by8 (n*ww))) n ww):=rfl;have fZ:Hid (pkB n ww b=if b.length<by8 (n*ww) then b else b.drop (by8 (n*ww))):=rfl;have MU:Hid (pkF n ww b f=if b.length<by8 (n*ww) then orf f 30 else orf (orf f (if (b.drop (by8 (n*ww))).length=0 then 0 else 32)) (unE (b.take (by8 (n*ww))) n ww)):=rfl;have zL:=ae h6;clear h h6 h8 h9;generalize by8 (n*ww)=L at *;generalize n*ww=c at *;generalize pkL n ww b=RL at *;generalize pkB n ww b=RB at *;generalize pkF n ww b f=RF at *;by_cases hshort:(b.length:Int)<(L:Int)
 ·have hs':b.length<L:=by omega
  rw[if_pos hs']at HL fZ MU;clear hs';go_enter Tryz.func323,Tryz.ntmps323
  go_wp2_with fail;refine(dj HS.out 30).mono ?_;rintro e w1 ⟨rfl,eg,dt⟩;have iM:=ae eg;have gd:=ae dt;clear eg dt;go_wp2_with fail;go_ret
  rw[HL.out,fZ.out,MU.out];exact⟨⟨_,rfl,dB.nil _ _⟩,iM.out,gd.out⟩
 ·have hs':¬ b.length<L:=by omega
  rw[if_neg hs']at HL fZ MU;have ru:=ae (zL.out.take (k:=L) (by rw[ap];omega));rw[← yW]at ru;have Mp:Hid (Bs (b.take L)):=fun x hx=>HB.out x (jaw hx)
  obtain⟨g',off',cap',k0,k1,k2,k3,k4,k5,k6,k7,k8,k9⟩:=HS.out.cells;rw[h0]at k0;cases k0
  obtain⟨A,hA,hSA⟩:=k9 L (by omega);have lr:=ae hSA;have gB:=ae ((Fr.refl p w.heap.size w).set 0 (.slice A (b.length-L) (cap-L)));clear hs' hSA k9 k8 k6 k1 k2 k3 k4 k5 k7;go_enter Tryz.func323,Tryz.ntmps323
  go_wp2_with fail;refine(JE lr.out).mono ?_;rintro e w3 ⟨rfl,kX,ix⟩;have m7:=ae kX;have hFr3:=gB.out.trans (ix.mono gB.out.size);have p7:=ae hFr3;have iB:=hFr3.size
  have HTK3:Hid (Sv w3 (.slice (some ⟨g,off,none⟩) L cap) (aE .u8 (b.take L))):=ae (by
   obtain⟨a',c',e1,e2,e3,e4,e5⟩:=ru.out;refine⟨a',c',e1,e2,e3,e4,fun hp=>?_⟩;obtain⟨G,O,f1,f2,f3⟩:=e5 hp;simp only[Value.slice.injEq]at e1;rw[← e1.1]at f1;cases f1
   refine⟨g,off,e1.1.symm,by omega,fun j x hj=>?_⟩;rw[World.cell?_of_block (w:=w) (hFr3.block g (by omega) (by omega))];exact f3 j x hj)
  clear kX ix hFr3 h0 h1 h2 h3;go_wp2_with fail;refine(te HTK3.out.sx Mp.out (n:Int) (ww:Int)).mono ?_;rintro e w4 ⟨v4,rfl,gD,bv⟩;have eP:=ae gD;have He:=bv.size;have um:=ae (m7.out.kept bv (by omega));have xx:=ae (p7.out.trans (Fr.of_below (bv.mono iB)));clear gD bv;go_wp2_with fail;refine(dj um.out _).mono ?_;rintro e w5 ⟨rfl,nJ,js⟩;have rI:=ae nJ
  have dH:Hid (dB w5 w.heap.size v4 (unR (b.take L) n ww)):=ae (by
   have h1:dB w4 w.heap.size v4 (unR (b.take L) n ww):=by
    obtain⟨q1,q2⟩:=eP.out;refine⟨q1,?_⟩;rcases q2 with q | ⟨a1,a2,a3,a4,a5,a6⟩
    ·exact Or.inl q
    ·exact Or.inr ⟨a1,a2,a3,a4,ZZ iB a5,a6⟩
   exact js.own h1 aB)
  have xy:=ae (xx.out.trans (js.mono (by omega)));clear nJ js;go_wp2_with fail;go_ret
  rw[HL.out,fZ.out,MU.out];exact⟨⟨_,rfl,dH.out⟩,rI.out,xy.out⟩
def ea(D:Except Nat (List Int×List Nat))(K:List Nat->Except Nat (List Int×List Nat))(b:List Nat)(f:Nat):Prop:=(f=0->D=K b)/\(f≠0->D=.error f)
theorem ea.wh{D:Except Nat (List Int×List Nat)}{g:Int->List Nat->Except Nat (List Int×List Nat)}{b:List Nat}{f:Nat}(h:ea D (aA wh g) b f):ea D (g (fB (gt b).1)) (b.drop (gt b).2.1) (orf f (gt b).2.2):=by
 obtain⟨h1,h2⟩:=h;by_cases hf:f=0
 ·subst hf
  have h3:=h1 rfl;rw[eT];unfold aA Go.Proofs.YtpljdjmpamjkhaaGreatDoor.wh at h3;refine⟨fun e=>?_,fun e=>?_⟩
  ·rw[if_pos e]at h3
   exact h3
  ·rw[if_neg e]at h3
   exact h3
 ·rw[ez hf]
  exact⟨fun e=>absurd e hf,h2⟩
theorem ea.num{D:Except Nat (List Int×List Nat)}{C:Nat->Prop}[DecidablePred C]{g:Nat->List Nat->Except Nat (List Int×List Nat)}{lo hi:Nat}{b:List Nat}{f:Nat}(hC:∀ v,C v↔(v<lo∨hi<v))
  (h:ea D (aA num (fun k=>if C k then (fun _=>.error 40) else g k)) b f):ea D (g (dm lo hi (gt b).1)) (b.drop (gt b).2.1) (ex lo hi (gt b).1 (orf f (gt b).2.2)):=by
 obtain⟨h1,h2⟩:=h;unfold dm ex;by_cases hf:f=0
 ·subst hf
  have h3:=h1 rfl;rw[eT];unfold aA Go.Proofs.YtpljdjmpamjkhaaGreatDoor.num at h3;by_cases he:(gt b).2.2=0
  ·rw[if_pos he]at h3
   simp only at h3;by_cases hc:(gt b).1<lo∨hi<(gt b).1
   ·rw[if_pos ((hC _).2 hc)]at h3
    rw[if_pos hc,if_pos hc,he,eT];exact⟨fun e=>by omega,fun _=>h3⟩
   ·rw[if_neg (fun e=>hc ((hC _).1 e))]at h3
    rw[if_neg hc,if_neg hc,he];exact⟨fun _=>h3,fun e=>absurd rfl e⟩
  ·rw[if_neg he]at h3
   have h4:(if (gt b).1<lo∨hi<(gt b).1 then orf (gt b).2.2 40 else (gt b).2.2)=(gt b).2.2:=by
    split
    ·exact ez he _
    ·rfl
   rw[h4];exact⟨fun e=>absurd e he,fun _=>h3⟩
 ·have h4:(if (gt b).1<lo∨hi<(gt b).1 then orf (orf f (gt b).2.2) 40 else orf f (gt b).2.2)=f:=by
   rw[ez hf,ez hf];split<;>rfl
  rw[h4];exact⟨fun e=>absurd e hf,h2⟩
theorem ea.pkd{D:Except Nat (List Int×List Nat)}{n w:Nat}{g:List Nat->List Nat->Except Nat (List Int×List Nat)}{b:List Nat}{f:Nat}(h:ea D (aA (pkd n w) g) b f):ea D (g (pkL n w b)) (pkB n w b) (pkF n w b f):=by
 obtain⟨h1,h2⟩:=h;unfold pkL pkB pkF;by_cases hf:f=0
 ·subst hf
  have h3:=h1 rfl;rw[eT,eT];unfold aA Go.Proofs.YtpljdjmpamjkhaaGreatDoor.pkd at h3;by_cases hs:b.length<by8 (n*w)
  ·rw[if_pos hs]at h3
   rw[if_pos hs,if_pos hs,if_pos hs];exact⟨fun e=>by omega,fun _=>h3⟩
  ·rw[if_neg hs]at h3
   rw[if_neg hs,if_neg hs,if_neg hs];by_cases hm:by8 (n*w)<b.length
   ·rw[if_pos hm]at h3
    rw[if_neg (by rw[jai];omega),ez (by omega)];exact⟨fun e=>by omega,fun _=>h3⟩
   ·rw[if_neg hm]at h3
    have e1:b.take (by8 (n*w))=b:=jat (by omega);have e2:b.drop (by8 (n*w))=[]:=List.drop_of_length_le (by omega);rw[e1,e2,if_pos (by rfl),eT];refine⟨fun e=>?_,fun e=>?_⟩
    ·rw[if_pos e]at h3
     exact h3
    ·rw[if_neg e]at h3
     exact h3
 ·have h4:(if b.length<by8 (n*w) then orf f 30 else orf (orf f (if (b.drop (by8 (n*w))).length=0 then 0 else 32)) (unE (b.take (by8 (n*w))) n w))=f:=by
   rw[ez hf,ez hf,ez hf];split<;>rfl
  rw[h4];exact⟨fun e=>absurd e hf,h2⟩
theorem bN{α β γ : Type}(d:List Nat->Except Nat (α×List Nat))(f:α->List Nat->Except Nat (β×List Nat))(g:β->List Nat->Except Nat (γ×List Nat)):aA (aA d f) g=aA d (fun x=>aA (f x) g):=by
 funext b
 unfold aA;cases d b with
 | error e=>rfl
 | ok x=>rfl
theorem cF{α β : Type}(x:α)(f:α->List Nat->Except Nat (β×List Nat)):aA (fun r=>.ok (x,r)) f=f x:=by
 funext b
 rfl
def fin(c:Nat)(b0:List Nat)(l:List Int)(r:List Nat):Except Nat (List Int×List Nat):=if r.length=0 then (if hO c l=b0 then .ok (l,[]) else .error 40) else .error 32
theorem Pj(c:Nat)(b0:List Nat)(l:List Int){r:List Nat}(h:r.length≠0):fin c b0 l r=.error 32:=by unfold fin;rw[if_neg h]
theorem yX(c n:Nat)(b0:List Nat):aA (rdC c n) (fin c b0) b0=(match mJ c n b0 with | .ok l=>.ok (l,[]) | .error e=>.error e):=by
 unfold aA mJ;cases rdC c n b0 with
 | error e=>rfl
 | ok x =>
  obtain⟨l,r⟩:=x;simp only[fin];split
  ·split<;>rfl
  ·rfl
theorem StC.set_other{T:Nat}{W:World}{p:Nat}{b:List Nat}{f:Nat}(h:StC T W p b f){g:Nat}(hg:p<g)(i:Nat)(v:Value):StC T (W.setCell ⟨g,i,none⟩ v) p b f :=
 h.kept ((ZQ (p+1) W).setCell (p:=⟨g,i,none⟩) hg v) (Nat.lt_succ_self p)
theorem br.fr{p:Nat}{w w':World}{B:Nat}{v:Value}{l:List Int}(h:br w B v l)(hf:Fr p w.heap.size w w')(hp:p<B):br w' B v l:=hf.own h hp
theorem br.low{W:World}{B B':Nat}{v:Value}{l:List Int}(h:br W B' v l)(hb:B<=B'):br W B v l:=by
 obtain⟨h1,h2⟩:=h;refine⟨h1,?_⟩;rcases h2 with h | ⟨g,cap,cur,e1,e2,e3⟩
 ·exact Or.inl h
 ·exact Or.inr ⟨g,cap,cur,e1,ZZ hb e2,e3⟩
theorem yY:(Tryz.prog.info? 2).map (fun i=>(i.zero,i.size,i.bytes))=some (some (.int .i64 0),1,8):=by kernel_rfl
theorem aW{w:World}{ops:Array Oper}{rest:List Oper}{o:Oper}{a:Act}{Q:Exit->Act->World->Prop}(ee:o.guard=none)(s x:Operand)
  (ho:o.op=.call { callee:=.builtin .append,args:=#[s,x],argTypes:=#[143,143] })
  (base:Nat) (v:Value) (g:Nat) (z:Int) (l0:List Int) (hs:a.eval s=v) (az:br w base v l0) (hx:a.eval x=.slice (some ⟨g,0,none⟩) 1 1) (hc:w.cell? ⟨g,0,none⟩=some (.int .i64 z))
  (hbytes:l0.length<=100000) (aH:base<=w.heap.size)
  (h:∀ v' w',br w' base v' (l0++[z])->Below base w w'->wpList Tryz.prog ops Q rest (a.put o.dst v') w') :
  wpList Tryz.prog ops Q (o::rest) a w:=by
 obtain⟨i0,hi,ce,hz1',bm⟩:=info_parts yY;unfold br at *
 refine wpList_append_own_at (w:=w) ee s x 143 ho base 2 i0 (.int .i64 0) 1 8 Tryz.underlying143 hi ce hz1' bm rfl (by decide) v l0.length (aJ l0) hs az ⟨g,0,none⟩ 1 1 [.int .i64 z] hx rfl ?_ (fun u hu=>by
  have:u=.int .i64 z:=by simpa using hu
  subst this;rfl) (by unfold maxLen;omega) (by omega) aH ?_
 ·intro j u hu
  rw[md];cases j with
  | zero =>
   simp only[List.getElem?_cons_zero,Option.some.injEq]at hu;rw[← hu];exact hc
  | succ j=>simp at hu
 ·intro v' w' o1 g1 _ _
  refine h v' w' ?_ ((ZQ base w).grown g1 aH (fun k hk=>(az.lt k hk).1));rw[qz,ZT];exact o1
theorem jx{w:World}{ops:Array Oper}{rest:List Oper}{o:Oper}{a:Act}{Q:Exit->Act->World->Prop}(ee:o.guard=none)(s x:Operand)
  (ho:o.op=.call { callee:=.builtin .append,args:=#[s,x],argTypes:=#[142,142] })
  (base:Nat) (v:Value) (g:Nat) (z:Nat) (l0:List Nat) (hs:a.eval s=v) (az:dB w base v l0) (hx:a.eval x=.slice (some ⟨g,0,none⟩) 1 1) (hc:w.cell? ⟨g,0,none⟩=some (.int .u64 (z:Int)))
  (hbytes:l0.length<=100000) (aH:base<=w.heap.size)
  (h:∀ v' w',dB w' base v' (l0++[z])->Below base w w'->wpList Tryz.prog ops Q rest (a.put o.dst v') w') :
  wpList Tryz.prog ops Q (o::rest) a w:=by
 obtain⟨i0,hi,ce,hz1',bm⟩:=info_parts pt;unfold dB at *
 refine wpList_append_own_at (w:=w) ee s x 142 ho base 92 i0 (.int .u64 0) 1 8 Tryz.underlying142 hi ce hz1' bm rfl (by decide) v l0.length (aE .u64 l0) hs az ⟨g,0,none⟩ 1 1 [.int .u64 (z:Int)] hx rfl ?_ (fun u hu=>by
  have:u=.int .u64 (z:Int):=by simpa using hu
  subst this;rfl) (by unfold maxLen;omega) (by omega) aH ?_
 ·intro j u hu
  rw[md];cases j with
  | zero =>
   simp only[List.getElem?_cons_zero,Option.some.injEq]at hu;rw[← hu];exact hc
  | succ j=>simp at hu
 ·intro v' w' o1 g1 _ _
  refine h v' w' ?_ ((ZQ base w).grown g1 aH (fun k hk=>(az.lt k hk).1));rw[bZ,ZT];exact o1
def yZ(D:Except Nat (List Int×List Nat))(G:List Int->List Nat->Except Nat (List Int×List Nat))(p n:Nat)(w:World)(r:Ending)(w':World):Prop :=
 ∃(l:List Int) (b':List Nat) (f':Nat),(∃ v,r=.returned v/\br w' w.heap.size v l)/\Is l/\l.length<=n/\StC 333 w' p b' f'/\ea D (G l) b' f'/\Fr p w.heap.size w w'
theorem Pk(G:List Int->List Nat->Except Nat (List Int×List Nat))(ys:List Int)(m:Nat):aA (rd0 (m+1)) (fun l=>G (ys++l))=aA wh (fun x=>aA (rd0 m) (fun l=>G ((ys++[x])++l))):=by
 have:rd0 (m+1)=aA wh (fun x=>aA (rd0 m) (fun l r=>.ok (x::l,r))):=by funext b;rfl
 rw[this,bN];congr 1
 funext x
 rw[bN];congr 1
 funext l
 rw[cF];simp
theorem Tw(G:List Int->List Nat->Except Nat (List Int×List Nat))(ys:List Int):aA (rd0 0) (fun l=>G (ys++l))=G ys:=by
 have:rd0 0=fun b=>.ok ([],b):=by funext b;rfl
 rw[this,cF,Z7]
theorem Pm(G:List Int->List Nat->Except Nat (List Int×List Nat))(ys:List Int)(m:Nat)(last:Int):aA (rd1 (m+1) last) (fun l=>G (ys++l))=aA wh (fun x=>aA (rd1 m (w64 (last+x))) (fun l=>G ((ys++[w64 (last+x)])++l))):=by
 have:rd1 (m+1) last=aA wh (fun d=>aA (rd1 m (w64 (last+d))) (fun l r=>.ok (w64 (last+d)::l,r))):=by funext b;rfl
 rw[this,bN];congr 1
 funext x
 rw[bN];congr 1
 funext l
 rw[cF];simp
theorem Tx(G:List Int->List Nat->Except Nat (List Int×List Nat))(ys:List Int)(last:Int):aA (rd1 0 last) (fun l=>G (ys++l))=G ys:=by
 have:rd1 0 last=fun b=>.ok ([],b):=by funext b;rfl
 rw[this,cF,Z7]
def nr(ys:List Int)(n:Nat):List Int:=ys++List.replicate (n-ys.length) 0
theorem CU{ys:List Int}{n:Nat}(h:ys.length<n)(z:Int):(nr ys n).set ys.length z=nr (ys++[z]) n:=by
 unfold nr;obtain⟨m,hm⟩:∃ m,n-ys.length=m+1:=⟨n-ys.length-1,by omega⟩;rw[hm,ZT,jan,show n-(ys.length+1)=m by omega,List.replicate_succ];simp
theorem tn{ys:List Int}{n:Nat}(h:ys.length<=n):(nr ys n).length=n:=by unfold nr;simp;omega
theorem za{ys:List Int}{n:Nat}(h:ys.length=n):nr ys n=ys:=by unfold nr;simp[h]
theorem vS(n:Nat):(madeCells #[Value.int .i64 0] n).toList=aJ (nr [] n):=by
 rw[toList_madeCells_one];simp[aJ,nr]
theorem Is.snoc{ys:List Int}{x:Int}(h:Is ys)(hx:I64 x):Is (ys++[x]):=fun y hy=>by
 rcases jaj.1 hy with hy | hy
 ·exact h y hy
 ·have:y=x:=by simpa using hy
  subst this;exact hx
theorem Pn{D:Except Nat (List Int×List Nat)}{G:List Int->List Nat->Except Nat (List Int×List Nat)}{w:World}{p n f:Nat}{b:List Nat}(h:StC 333 w p b f)(hn:n<=256)(hg:ea D (aA (rd0 n) G) b f) :
  Calls Tryz.prog 314 #[.pointer (some ⟨p,0,none⟩),.int .i64 (n:Int)] w (yZ D G p n w):=by
 obtain⟨i0,hi,ce,hz1',bm⟩:=info_parts yY;have HS:=ae h;have HG:=ae hg;have aB:=h.lt;clear h hg;go_enter Tryz.func314,Tryz.ntmps314
 go_wp2_with (first | (refine wpList_make_full _ rfl _ _ 143 rfl w.heap.size 2 i0 (.int .i64 0) 1 Tryz.underlying143 hi ce hz1' .i64 .i64 _ _ n rfl rfl ?m1 ?m2 ?m3 ?m4 ?m5 ?_))
 case m1=>rfl
 case m2=>rfl
 case m3=>rw[bm];omega
 case m4=>unfold maxLen;omega
 case m5=>omega
 intro w4 gD iL;have bv:Below w.heap.size w w4:=(ZQ _ _).grown iL (ZR _) (fun k hk=>by cases hk)
 have ho4':w4.ownsRow w.heap.size 2 1 (.slice (some ⟨w.heap.size,0,none⟩) n n) n (aJ (nr [] n)):=by
  rw[← vS];simpa using gD
 have eP:=ae ho4';have b9:=ae bv;clear gD iL bv ho4';go_wp2_with fail;go_loopw [11] (fun i wr=>∃(ys:List Int) (b':List Nat) (f':Nat),i=.int .i64 (ys.length:Int)/\ys.length<=n/\Is ys/\wr.ownsRow w.heap.size 2 1 (.slice (some ⟨w.heap.size,0,none⟩) n n) n (aJ (nr ys n))/\StC 333 wr p b' f'/\ea D (aA (rd0 (n-ys.length)) (fun l=>G (ys++l))) b' f'/\Fr p w.heap.size w wr) (fun i _=>n-(intOf i).toNat)
 case atStart=>exact⟨[],b,f,rfl,by simp,fun x hx=>by simp at hx,eP.out,HS.out.kept b9.out aB,HG.out,Fr.of_below b9.out⟩
 case round =>
  obtain⟨ys,b',f',rfl,hk,ye,how,iK,xz,lv⟩:=hrel;have Hm:=ae ye;have HO:=ae how;have cP:=ae iK;have rJ:=ae xz;have m8:=ae lv;have bO:=lv.size;clear ye how iK xz lv;by_cases jC:ys.length<n
  ·obtain⟨m,hm⟩:∃ m,n-ys.length=m+1:=⟨n-ys.length-1,by omega⟩
   have eX:=rJ.out;rw[hm,Pk]at eX;have Br:=ae eX.wh;have HX:=ae (jP (fQ b').1);have HW:=ae (lM cP.out);have HM:=ae hm;clear eX hm rJ;generalize fB (gt b').1=x at *;go_wp2_with fail;refine HW.out.mono ?_;rintro e w5 ⟨rfl,nJ,js⟩;have fT:=js.own HO.out aB;have uo:=ae (m8.out.trans (js.mono bO));have jM:ys.length<(nr ys n).length:=by rw[tn (by omega)];exact jC
   have Eu:=(fT.cellAt ys.length (by omega)).trans (oe jM);have Ev:=fT.frozenAt ys.length;have hST:=fT.stored ys.length (.int .i64 x);rw[yN,CU jC]at hST;have Rj:=ae hST;have Mk:=(fT.lt w.heap.size rfl).2;have rI:=ae (nJ.set_other (g:=w.heap.size) aB ys.length (.int .i64 x));have uG:=uo.out.size;clear hST nJ js fT;generalize (nr ys n)[ys.length]=y at *;go_wp2_with fail;go_roundw
   case rel =>
    refine⟨ys++[x],_,_,?_,?_,Hm.out.snoc HX.out,Rj.out.1,rI.out,?_,?_⟩
    ·simp
    ·simp;omega
    ·have e:n-(ys++[x]).length=m:=by have:=HM.out;simp;omega
     rw[e];exact Br.out
    ·exact uo.out.then ((ZQ _ _).setCell (p:=⟨w.heap.size,ys.length,none⟩) (ZR _) _)
   case measure=>simp[intOf];omega
  ·have ya:ys.length=n:=by omega
   have eX:=rJ.out;rw[show n-ys.length=0 by omega,Tw]at eX;have Br:=ae eX
   have HO':Hid (br wr w.heap.size (.slice (some ⟨w.heap.size,0,none⟩) n n) ys):=ae (by
    have:=HO.out;rw[za ya]at this;unfold br;rw[ya];exact this)
   clear eX rJ ya;go_wp2_with fail;go_ret
   exact⟨ys,b',f',⟨_,rfl,HO'.out⟩,Hm.out,by omega,cP.out,Br.out,m8.out⟩
theorem KX{D:Except Nat (List Int×List Nat)}{G:List Int->List Nat->Except Nat (List Int×List Nat)}{w:World}{p n f:Nat}{b:List Nat}(h:StC 333 w p b f)(hn:n<=256)(hg:ea D (aA (rd1 n 0) G) b f) :
  Calls Tryz.prog 315 #[.pointer (some ⟨p,0,none⟩),.int .i64 (n:Int)] w (yZ D G p n w):=by
 obtain⟨i0,hi,ce,hz1',bm⟩:=info_parts yY;have HS:=ae h;have HG:=ae hg;have aB:=h.lt;clear h hg;go_enter Tryz.func315,Tryz.ntmps315
 go_wp2_with (first | (refine wpList_make_full _ rfl _ _ 143 rfl w.heap.size 2 i0 (.int .i64 0) 1 Tryz.underlying143 hi ce hz1' .i64 .i64 _ _ n rfl rfl ?m1 ?m2 ?m3 ?m4 ?m5 ?_))
 case m1=>rfl
 case m2=>rfl
 case m3=>rw[bm];omega
 case m4=>unfold maxLen;omega
 case m5=>omega
 intro w4 gD iL;have bv:Below w.heap.size w w4:=(ZQ _ _).grown iL (ZR _) (fun k hk=>by cases hk)
 have ho4':w4.ownsRow w.heap.size 2 1 (.slice (some ⟨w.heap.size,0,none⟩) n n) n (aJ (nr [] n)):=by
  rw[← vS];simpa using gD
 have eP:=ae ho4';have b9:=ae bv;clear gD iL bv ho4';go_wp2_with fail;go_loopw [6,12] (fun ah i wr=>∃(last:Int) (ys:List Int) (b':List Nat) (f':Nat),ah=.int .i64 last/\I64 last/\i=.int .i64 (ys.length:Int)/\ys.length<=n/\Is ys/\wr.ownsRow w.heap.size 2 1 (.slice (some ⟨w.heap.size,0,none⟩) n n) n (aJ (nr ys n))/\StC 333 wr p b' f'/\ea D (aA (rd1 (n-ys.length) last) (fun l=>G (ys++l))) b' f'/\Fr p w.heap.size w wr) (fun _ i _=>n-(intOf i).toNat)
 case atStart=>exact⟨0,[],b,f,rfl,by unfold I64;omega,rfl,by simp,fun x hx=>by simp at hx,eP.out,HS.out.kept b9.out aB,HG.out,Fr.of_below b9.out⟩
 case round =>
  obtain⟨last,ys,b',f',rfl,tR,rfl,hk,ye,how,iK,xz,lv⟩:=hrel;have Hm:=ae ye;have HO:=ae how;have cP:=ae iK;have rJ:=ae xz;have m8:=ae lv;have bO:=lv.size;clear ye how iK xz lv;by_cases jC:ys.length<n
  ·obtain⟨m,hm⟩:∃ m,n-ys.length=m+1:=⟨n-ys.length-1,by omega⟩
   have eX:=rJ.out;rw[hm,Pm]at eX;have Br:=ae eX.wh;have HX:=ae (i9 (last+fB (gt b').1));have Hj:=qE (last+fB (gt b').1);have HW:=ae (lM cP.out);have HM:=ae hm;clear eX hm rJ;generalize fB (gt b').1=x0 at *;generalize w64 (last+x0)=x at *;go_wp2_with fail;refine HW.out.mono ?_;rintro e w5 ⟨rfl,nJ,js⟩;have fT:=js.own HO.out aB;have uo:=ae (m8.out.trans (js.mono bO));have jM:ys.length<(nr ys n).length:=by rw[tn (by omega)];exact jC
   have Eu:=(fT.cellAt ys.length (by omega)).trans (oe jM);have Ev:=fT.frozenAt ys.length;have hST:=fT.stored ys.length (.int .i64 x);rw[yN,CU jC]at hST;have Rj:=ae hST;have Mk:=(fT.lt w.heap.size rfl).2;have rI:=ae (nJ.set_other (g:=w.heap.size) aB ys.length (.int .i64 x));have uG:=uo.out.size;clear hST nJ js fT;generalize (nr ys n)[ys.length]=y at *;go_wp2_with fail;go_roundw
   case rel =>
    refine⟨x,ys++[x],_,_,rfl,HX.out,?_,?_,Hm.out.snoc HX.out,Rj.out.1,rI.out,?_,?_⟩
    ·simp
    ·simp;omega
    ·have e:n-(ys++[x]).length=m:=by have:=HM.out;simp;omega
     rw[e];exact Br.out
    ·exact uo.out.then ((ZQ _ _).setCell (p:=⟨w.heap.size,ys.length,none⟩) (ZR _) _)
   case measure=>simp[intOf];omega
  ·have ya:ys.length=n:=by omega
   have eX:=rJ.out;rw[show n-ys.length=0 by omega,Tx]at eX;have Br:=ae eX
   have HO':Hid (br wr w.heap.size (.slice (some ⟨w.heap.size,0,none⟩) n n) ys):=ae (by
    have:=HO.out;rw[za ya]at this;unfold br;rw[ya];exact this)
   clear eX rJ ya;go_wp2_with fail;go_ret
   exact⟨ys,b',f',⟨_,rfl,HO'.out⟩,Hm.out,by omega,cP.out,Br.out,m8.out⟩
theorem ea.any{D:Except Nat (List Int×List Nat)}{K K':List Nat->Except Nat (List Int×List Nat)}{b:List Nat}{f:Nat}(h:ea D K b f)(hf:f≠0):ea D K' b f:=⟨fun e=>absurd e hf,h.2⟩
theorem tp{lo hi v f:Nat}(h:v<lo∨hi<v):ex lo hi v f≠0:=by
 unfold ex orf;rw[if_pos h];split<;>omega
theorem Po(G:List Int->List Nat->Except Nat (List Int×List Nat))(ys:List Int)(fu m:Nat)(hm:m≠0):aA (rd2 (fu+1) m) (fun l=>G (ys++l)) =
  aA wh (fun x=>aA num (fun k=>if k=0∨m<k then (fun _=>.error 40) else aA (rd2 fu (m-k)) (fun l=>G ((ys++List.replicate k x)++l)))):=by
 have:rd2 (fu+1) m=aA wh (fun x=>aA num (fun k=>if k=0∨m<k then (fun _=>.error 40) else aA (rd2 fu (m-k)) (fun l r=>.ok (List.replicate k x++l,r)))):=by
  funext b
  rw[rd2,if_neg hm]
 rw[this,bN];congr 1
 funext x
 rw[bN];congr 1
 funext k
 split
 ·rfl
 ·rw[bN]
  congr 1
  funext l
  rw[cF];simp
theorem Ty(G:List Int->List Nat->Except Nat (List Int×List Nat))(ys:List Int)(fu:Nat):aA (rd2 fu 0) (fun l=>G (ys++l))=G ys:=by
 have:rd2 fu 0=fun b=>.ok ([],b):=by funext b;exact Ci fu b
 rw[this,cF,Z7]
def Vt:Value->Nat
 | .slice _ n _=>n
 | _=>0
def CV(p:Nat)(W:World):Nat :=
 match W.cell? ⟨p,1,none⟩ with
 | some (.int _ n)=>if n=0 then 1 else 0
 | _=>0
theorem KY{T:Nat}{W:World}{p:Nat}{b:List Nat}{f:Nat}(h:StC T W p b f)(hf:f=0):CV p W=1:=by
 obtain⟨_,_,_,_,h1,_⟩:=h.cells;unfold CV;rw[h1,hf];rfl
theorem Pp{T:Nat}{W:World}{p:Nat}{b:List Nat}{f:Nat}(h:StC T W p b f)(hf:f≠0):CV p W=0:=by
 obtain⟨_,_,_,_,h1,_⟩:=h.cells;unfold CV;rw[h1];simp only;rw[if_neg (by omega)]
theorem Tz(p:Nat)(W:World):CV p W<=1:=by
 unfold CV;split
 ·split<;>omega
 ·omega
theorem Pq{D:Except Nat (List Int×List Nat)}{G:List Int->List Nat->Except Nat (List Int×List Nat)}{w:World}{p n f:Nat}{b:List Nat}(h:StC 333 w p b f)(hn:n<=256)(hg:ea D (aA (rd2 n n) G) b f) :
  Calls Tryz.prog 316 #[.pointer (some ⟨p,0,none⟩),.int .i64 (n:Int)] w (yZ D G p n w):=by
 have HS:=ae h;have HG:=ae hg;have aB:=h.lt;clear h hg;go_enter Tryz.func316,Tryz.ntmps316
 go_wp2_with fail;go_loopw [5] (fun v wr=>∃(fu:Nat) (ys:List Int) (b':List Nat) (f':Nat),ys.length<=n/\Is ys/\br wr w.heap.size v ys/\StC 333 wr p b' f'/\(f'=0->n-ys.length<=fu)/\ea D (aA (rd2 fu (n-ys.length)) (fun l=>G (ys++l))) b' f'/\Fr p w.heap.size w wr) (fun v wr=>2*(n-Vt v)+CV p wr)
 case atStart=>exact⟨n,[],b,f,by simp,fun x hx=>by simp at hx,br.nil _ _,HS.out,fun _=>by simp,HG.out,Fr.refl _ _ _⟩
 case round =>
  obtain⟨fu,ys,b',f',hk,ye,how,iK,hfu,xz,lv⟩:=hrel;have Hm:=ae ye;have HO:=ae how;have cP:=ae iK;have rJ:=ae xz;have m8:=ae lv;have HFU:=ae hfu;have bO:=lv.size;obtain⟨av,cv,rfl⟩:=how.len;obtain⟨g,off,cap,c0,c1,c2,c3,c4,c5,c6,c7,c8,c9⟩:=iK.cells;clear ye how iK xz lv hfu c0 c2 c3 c4 c5 c6 c7 c8 c9;by_cases jC:(ys.length:Int)<(n:Int)
  ·by_cases uH:((f':Int)==0)=true
   ·have hf0':f'=0:=by simpa using uH
    have hm:n-ys.length≠0:=by omega
    have hfu2:=HFU.out hf0';obtain⟨fu',rfl⟩:∃ q,fu=q+1:=⟨fu-1,by omega⟩;have eX:=rJ.out;rw[Po _ _ _ _ hm]at eX;have hgo3:=eX.wh;have HX:=ae (jP (fQ b').1);have HW:=ae (lM cP.out);have SI:=ae (KY cP.out hf0');clear eX rJ;generalize fB (gt b').1=x at *;generalize b'.drop (gt b').2.1=b1 at *;generalize orf f' (gt b').2.2=f1 at *;have Rp:=ea.num (lo:=1) (hi:=n-ys.length) (fun v=>by constructor<;>(intro h;omega)) hgo3;obtain⟨g1,g2,g3,g4⟩:=fQ b1;have hsub:(n:Int)-(ys.length:Int)=((n-ys.length:Nat):Int):=by omega
    have Ex:dm 1 (n-ys.length) (gt b1).1=0->ex 1 (n-ys.length) (gt b1).1 (orf f1 (gt b1).2.2)≠0:=by
     intro h0;unfold dm at h0;split at h0
     ·next hb=>exact tp hb
     ·next hb=>omega
    have XN:dm 1 (n-ys.length) (gt b1).1<=n-ys.length:=by
     unfold dm;split<;>omega
    have Hn:Hid (∀ W,StC 333 W p b1 f1->Calls Tryz.prog 321 #[.pointer (some ⟨p,0,none⟩),.int .u64 (1:Int),.int .u64 ((n-ys.length:Nat):Int)] W fun r w'=>r=.returned (.int .u64 (dm 1 (n-ys.length) (gt b1).1:Int))/\StC 333 w' p (b1.drop (gt b1).2.1) (ex 1 (n-ys.length) (gt b1).1 (orf f1 (gt b1).2.2))/\Fr p W.heap.size W w'):=fun W h=>kP h 1 (n-ys.length) (by omega) (by omega)
    have UI:=ae Rp;have sW:=ae Ex;clear hgo3 Rp g1 g2 g3 g4 Ex HFU;generalize dm 1 (n-ys.length) (gt b1).1=k at *;generalize ex 1 (n-ys.length) (gt b1).1 (orf f1 (gt b1).2.2)=f2 at *;generalize b1.drop (gt b1).2.1=b2 at *;clear hf0';go_wp2_with fail;refine HW.out.mono ?_;rintro e w5 ⟨rfl,nJ,js⟩;have rI:=ae nJ;have dH:=ae (HO.out.fr js aB);have uo:=ae (m8.out.trans (js.mono bO));have uG:=uo.out.size;clear nJ js c1;go_wp2_with fail;refine(Hn.out _ rI.out).mono ?_;rintro e w6 ⟨rfl,yf,MV⟩;have HS6:=ae yf;have mU:=ae (dH.out.fr MV aB);have HFR6:=ae (uo.out.trans (MV.mono uG));have Ew:=HFR6.out.size;clear yf MV;go_wp2_with fail;go_loopw [5,29] (fun v j wq=>∃ i:Nat,i<=k/\j=.int .u64 (i:Int)/\br wq w.heap.size v (ys++List.replicate i x)/\StC 333 wq p b2 f2/\Fr p w.heap.size w wq) (fun _ j _=>k-(intOf j).toNat)
    case atStart=>exact⟨0,by omega,rfl,by simpa using mU.out,HS6.out,HFR6.out⟩
    case round =>
     obtain⟨i,hik,rfl,hoq,hsq,hfq⟩:=hrel;have HOQ:=ae hoq;have HSQ:=ae hsq;have HFQ:=ae hfq;have yg:=hfq.size;obtain⟨aq,cq,rfl⟩:=hoq.len;clear hoq hsq hfq;by_cases Mq:(i:Int)<(k:Int)
     ·have m6:=ae (HOQ.out.kept ((ZQ _ _).alloc (ZR _) (.cells #[.int .i64 x] 2)))
      have lr:=ae (HSQ.out.kept ((ZQ _ _).alloc (ZR _) (.cells #[.int .i64 x] 2)) HSQ.out.lt);have Ho:=ae (HFQ.out.then ((ZQ w.heap.size _).alloc yg (.cells #[.int .i64 x] 2)));have bQ:(ys++List.replicate i x).length<=256:=by simp;omega
      go_wp2_with (first | (at_builtin;refine aW rfl _ _ rfl w.heap.size _ _ x (ys++List.replicate i x) rfl m6.out rfl ?c1 ?c2 ?c3 ?_))
      case c1=>exact aK _ _ _
      case c2=>omega
      case c3=>rw[ZS];omega
      intro v7 w7 o7 b7;have e7:ys++(List.replicate i x++[x])=ys++List.replicate (i+1) x:=by rw[List.replicate_succ']
      rw[e7]at o7;have iw:=ae o7;have MW:=ae (lr.out.kept b7 aB);have VL:=ae (Ho.out.then b7);clear o7 b7 e7;go_wp2_with fail;go_roundw
      case rel=>exact⟨i+1,by omega,by go_num,iw.out,MW.out,VL.out⟩
      case measure=>simp[intOf];omega
     ·obtain rfl:i=k:=by omega
      have HNEW:Hid (∃ fu2,(f2=0->n-(ys++List.replicate i x).length<=fu2)/\ea D (aA (rd2 fu2 (n-(ys++List.replicate i x).length)) (fun l=>G ((ys++List.replicate i x)++l))) b2 f2):=ae (by
       have nI:n-(ys++List.replicate i x).length=n-ys.length-i:=by simp;omega
       rw[nI];by_cases dM:f2=0
       ·have hi0:i≠0:=fun e=>sW.out e dM
        exact⟨fu',fun _=>by omega,UI.out⟩
       ·exact⟨0,fun e=>absurd e dM,UI.out.any dM⟩)
      have Zl:Hid (2*(n-(ys++List.replicate i x).length)+CV p wr<2*(n-ys.length)+1):=ae (by
       have nI:(ys++List.replicate i x).length=ys.length+i:=by simp
       rw[nI];by_cases dM:f2=0
       ·have hi0:i≠0:=fun e=>sW.out e dM
        have:=Tz p wr;omega
       ·rw[Pp HSQ.out dM]
        omega)
      have HISN:Hid (Is (ys++List.replicate i x)):=fun y hy=>by
       rcases jaj.1 hy with hy | hy
       ·exact Hm.out y hy
       ·rw[jbp hy]
        exact HX.out
      have ui:Hid ((ys++List.replicate i x).length<=n):=ae (by simp;omega);go_wp2_with fail;go_roundw
      case rel =>
       obtain⟨fu2,h1,h2⟩:=HNEW.out;exact⟨fu2,_,_,_,ui.out,HISN.out,HOQ.out,HSQ.out,h1,h2,HFQ.out⟩
      case measure =>
       have h1:=Zl.out;have h2:=SI.out;simp only[Vt];rw[h2];exact h1
   ·have hff:((f':Int)==0)=false:=by simpa using uH
    have fO:f'≠0:=fun e=>uH (by simp[e])
    have UJ:=ae (rJ.out.any (K':=G ys) fO);clear uH fO;go_wp2_with fail;go_ret
    exact⟨ys,b',f',⟨_,rfl,HO.out⟩,Hm.out,hk,cP.out,UJ.out,m8.out⟩
  ·have eX:=rJ.out
   rw[show n-ys.length=0 by omega,Ty]at eX;have UJ:=ae eX;clear eX;go_wp2_with fail;go_ret
   exact⟨ys,b',f',⟨_,rfl,HO.out⟩,Hm.out,hk,cP.out,UJ.out,m8.out⟩
theorem Pr(G:List Int->List Nat->Except Nat (List Int×List Nat))(us:List Int)(q:Nat)(last:Int):aA (rdU (q+1) last) (fun u=>G (us++u)) =
  aA num (fun(d:Nat)=>if d=0∨9223372036854775807-last<(d:Int) then (fun _=>.error 40) else aA (rdU q (last+d)) (fun u=>G ((us++[last+d])++u))):=by
 have:rdU (q+1) last=aA num (fun(d:Nat)=>if d=0∨9223372036854775807-last<(d:Int) then (fun _=>.error 40) else aA (rdU q (last+d)) (fun l r=>.ok ((last+d)::l,r))):=by
  funext b
  rw[rdU]
 rw[this,bN];congr 1
 funext d
 split
 ·rfl
 ·rw[bN]
  congr 1
  funext l
  rw[cF];simp
theorem TA(G:List Int->List Nat->Except Nat (List Int×List Nat))(us:List Int)(last:Int):aA (rdU 0 last) (fun u=>G (us++u))=G us:=by
 have:rdU 0 last=fun b=>.ok ([],b):=by funext b;rfl
 rw[this,cF,Z7]
def ki(G:List Int->List Nat->Except Nat (List Int×List Nat))(m:Nat)(us:List Int)(last:Int):List Nat->Except Nat (List Int×List Nat) :=
 if us.length=0 then (if m=0 then G [] else aA wh (fun x=>aA (rdU (m-1) x) (fun u=>G (x::u)))) else aA (rdU (m-us.length) last) (fun u=>G (us++u))
theorem KZ(G:List Int->List Nat->Except Nat (List Int×List Nat))(us:List Int)(last:Int):ki G us.length us last=G us:=by
 unfold ki;by_cases h:us.length=0
 ·rw[if_pos h,if_pos h,jab h]
 ·rw[if_neg h,ja9,TA]
theorem CW(G:List Int->List Nat->Except Nat (List Int×List Nat)){m:Nat}(hm:0<m)(last:Int):ki G m [] last=aA wh (fun x=>ki G m [x] x):=by
 unfold ki;rw[if_pos (show ([]:List Int).length=0 from rfl),if_neg (by omega)];congr 1
theorem FA(G:List Int->List Nat->Except Nat (List Int×List Nat)){m:Nat}{us:List Int}(h0:0<us.length)(hm:us.length<m)(last:Int):ki G m us last =
  aA num (fun(d:Nat)=>if d=0∨9223372036854775807-last<(d:Int) then (fun _=>.error 40) else ki G m (us++[last+d]) (last+d)):=by
 unfold ki;obtain⟨q,hq⟩:∃ q,m-us.length=q+1:=⟨m-us.length-1,by omega⟩;rw[if_neg (by omega),hq,Pr];congr 1
 funext d
 rw[if_neg (show ¬ (us++[last+(d:Int)]).length=0 by simp),show m-(us++[last+(d:Int)]).length=q by simp;omega]
theorem FB{D:Except Nat (List Int×List Nat)}{G:List Int->List Nat->Except Nat (List Int×List Nat)}{w:World}{p m f:Nat}{b:List Nat}(h:StC 333 w p b f)(hm:m<=256)(hg:ea D (ki G m [] 0) b f) :
  Calls Tryz.prog 322 #[.pointer (some ⟨p,0,none⟩),.int .i64 (m:Int)] w fun r w'=>∃(l:List Int) (b':List Nat) (f':Nat),(∃ v,r=.returned v/\br w' w.heap.size v l)/\Is l/\l.length=m/\StC 333 w' p b' f'/\ea D (G l) b' f'/\Fr p w.heap.size w w':=by
 have HS:=ae h;have HG:=ae hg;have aB:=h.lt;clear h hg;go_enter Tryz.func322,Tryz.ntmps322
 go_wp2_with fail;go_loopw [5,6,9] (fun v la i wr=>∃(us:List Int) (last:Int) (b':List Nat) (f':Nat),i=.int .i64 (us.length:Int)/\la=.int .i64 last/\us.length<=m/\Is us/\I64 last/\br wr w.heap.size v us/\StC 333 wr p b' f'/\ea D (ki G m us last) b' f'/\Fr p w.heap.size w wr) (fun _ _ i _=>m-(intOf i).toNat)
 case atStart=>exact⟨[],0,b,f,rfl,rfl,by simp,fun x hx=>by simp at hx,by unfold I64;omega,br.nil _ _,HS.out,HG.out,Fr.refl _ _ _⟩
 case round =>
  obtain⟨us,last,b',f',rfl,rfl,hk,hus,Mi,how,iK,xz,lv⟩:=hrel;have HUS:=ae hus;have HO:=ae how;have cP:=ae iK;have rJ:=ae xz;have m8:=ae lv;have MX:=ae Mi;have bO:=lv.size;obtain⟨av,cv,rfl⟩:=how.len;clear hus how iK xz lv Mi;by_cases jC:us.length<m
  ·have mF:(us.length:Int)<(m:Int):=by omega
   by_cases hz:us.length=0
   ·obtain rfl:us=[]:=jab hz
    have eX:=rJ.out;rw[CW G (by omega)]at eX;have Br:=ae eX.wh;have HX:=ae (jP (fQ b').1);have HW:=ae (lM cP.out);clear eX rJ hz jC;generalize fB (gt b').1=x at *;generalize b'.drop (gt b').2.1=b1 at *;generalize orf f' (gt b').2.2=f1 at *;rw[jad]at *;go_wp2_with fail;refine HW.out.mono ?_;rintro e w5 ⟨rfl,nJ,js⟩;have uG:=js.size;have dH:=ae ((HO.out.fr js aB).kept ((ZQ _ _).alloc (ZR _) (.cells #[.int .i64 x] 2)));have rI:=ae (nJ.kept ((ZQ _ _).alloc (ZR _) (.cells #[.int .i64 x] 2)) nJ.lt);have uo:=ae ((m8.out.trans (js.mono bO)).then ((ZQ w.heap.size _).alloc (by omega) (.cells #[.int .i64 x] 2)));clear nJ js;go_wp2_with (first | (at_builtin;refine aW rfl _ _ rfl w.heap.size _ _ x [] rfl dH.out rfl ?c1 ?c2 ?c3 ?_))
    case c1=>exact aK _ _ _
    case c2=>simp
    case c3=>rw[ZS];omega
    intro v7 w7 o7 b7;have iw:=ae o7;have MW:=ae (rI.out.kept b7 aB);have VL:=ae (uo.out.then b7);clear o7 b7;go_wp2_with fail;go_roundw
    case rel=>exact⟨[x],x,_,_,rfl,rfl,by simp;omega,fun y hy=>by rw[jay.1 hy];exact HX.out,HX.out,iw.out,MW.out,Br.out,VL.out⟩
    case measure=>simp[intOf];omega
   ·have ce:((us.length:Int)==0)=false:=Z1.2 (by omega)
    have eX:=rJ.out;rw[FA G (by omega) jC]at eX;have VM:=MX.out.1;have Bo:=MX.out.2;have Rp:=ea.num (lo:=1) (hi:=(9223372036854775807-last).toNat) (fun v=>by constructor<;>(intro h;omega)) eX;have HD:=ae (fun W=>nm (a:=last) (b:=9223372036854775807) MX.out (by unfold I64;omega) Bo W);have Hn:Hid (∀ W,StC 333 W p b' f'->Calls Tryz.prog 321 #[.pointer (some ⟨p,0,none⟩),.int .u64 (1:Int),.int .u64 ((9223372036854775807-last).toNat:Int)] W fun r w'=>r=.returned (.int .u64 (dm 1 (9223372036854775807-last).toNat (gt b').1:Int))/\StC 333 w' p (b'.drop (gt b').2.1) (ex 1 (9223372036854775807-last).toNat (gt b').1 (orf f' (gt b').2.2))/\Fr p W.heap.size W w'):=fun W h=>kP h 1 _ (by omega) (by omega)
    have XN:dm 1 (9223372036854775807-last).toNat (gt b').1<=(9223372036854775807-last).toNat:=by
     unfold dm;split<;>omega
    have UI:=ae Rp;clear eX Rp rJ hz;generalize dm 1 (9223372036854775807-last).toNat (gt b').1=d at *;generalize ex 1 (9223372036854775807-last).toNat (gt b').1 (orf f' (gt b').2.2)=f1 at *;generalize b'.drop (gt b').2.1=b1 at *;have HX:Hid (I64 (last+(d:Int))):=ae (by unfold I64;omega);obtain⟨y,hy⟩:∃ y,IntKind.i64.wrap (d:Int)=y:=⟨_,rfl⟩
    have hyz:IntKind.i64.wrap (last+y)=last+(d:Int):=by
     rw[← hy,jam,jam];omega
    generalize last+(d:Int)=x at *;generalize (9223372036854775807-last).toNat=hi at *;clear XN;go_wp2_with fail;refine(HD.out _).mono ?_;rintro e w1 ⟨rfl,rfl⟩;go_wp2_with fail;refine(Hn.out _ cP.out).mono ?_;rintro e w5 ⟨rfl,nJ,js⟩;have uG:=js.size;have dH:=ae ((HO.out.fr js aB).kept ((ZQ _ _).alloc (ZR _) (.cells #[.int .i64 x] 2)));have rI:=ae (nJ.kept ((ZQ _ _).alloc (ZR _) (.cells #[.int .i64 x] 2)) nJ.lt);have uo:=ae ((m8.out.trans (js.mono bO)).then ((ZQ w.heap.size _).alloc (by omega) (.cells #[.int .i64 x] 2)));clear nJ js;go_wp2_with (first | (at_builtin;refine aW rfl _ _ rfl w.heap.size _ _ x us rfl dH.out rfl ?c1 ?c2 ?c3 ?_))
    case c1=>exact aK _ _ _
    case c2=>omega
    case c3=>rw[ZS];omega
    intro v7 w7 o7 b7;have iw:=ae o7;have MW:=ae (rI.out.kept b7 aB);have VL:=ae (uo.out.then b7);clear o7 b7;go_wp2_with fail;go_roundw
    case rel=>exact⟨us++[x],x,_,_,by simp,rfl,by simp;omega,HUS.out.snoc HX.out,HX.out,iw.out,MW.out,UI.out,VL.out⟩
    case measure=>simp[intOf];omega
  ·obtain rfl:us.length=m:=by omega
   have eX:=rJ.out;rw[KZ]at eX;have UJ:=ae eX;clear eX rJ;go_wp2_with fail;go_ret
   exact⟨us,b',f',⟨_,rfl,HO.out⟩,HUS.out,rfl,cP.out,UJ.out,m8.out⟩
theorem vT:∀{q:Nat} {last:Int} {b r:List Nat} {u:List Int},rdU q last b=.ok (u,r)->u.length=q
 | 0,last,b,r,u,h=>by
  simp only[rdU,Except.ok.injEq,Prod.mk.injEq]at h;rw[← h.1];rfl
 | q+1,last,b,r,u,h=>by
  rw[rdU]at h;obtain⟨d,q1,h1,h2⟩:=cd h;split at h2
  ·simp at h2
  ·obtain⟨m,q2,h3,h4⟩:=cd h2
   simp only[Except.ok.injEq,Prod.mk.injEq]at h4;rw[← h4.1,ZW,vT h3]
def G3(n:Nat)(G:List Int->List Nat->Except Nat (List Int×List Nat))(u:List Int):List Nat->Except Nat (List Int×List Nat):=if n=0 then G [] else aA (pkd n (cQ (u.length-1))) (fun p=>aA (picked u p) G)
theorem TB(n:Nat)(G:List Int->List Nat->Except Nat (List Int×List Nat)):aA (rd3 n) G=aA num (fun many=>if n<many∨many=0/\0<n then (fun _=>.error 40) else
  if n=0 then G [] else aA wh (fun x=>aA (rdU (many-1) x) (fun u=>aA (pkd n (cQ (many-1))) (fun p=>aA (picked (x::u) p) G)))):=by
 have:rd3 n=aA num (fun many=>if n<many∨many=0/\0<n then (fun _=>.error 40) else if n=0 then (fun r=>.ok ([],r)) else
  aA wh (fun x=>aA (rdU (many-1) x) (fun u=>aA (pkd n (cQ (many-1))) (fun p r=>picked (x::u) p r)))):=by
  funext b
  rfl
 rw[this,bN];congr 1
 funext many
 split
 ·rfl
 ·split
  ·rw[cF]
  ·rw[bN]
   congr 1
   funext x
   rw[bN];congr 1
   funext u
   rw[bN]
theorem Ps(n:Nat)(G:List Int->List Nat->Except Nat (List Int×List Nat))(many:Nat)(hm:0<many)(hn:n≠0):(aA wh (fun x=>aA (rdU (many-1) x) (fun u=>aA (pkd n (cQ (many-1))) (fun p=>aA (picked (x::u) p) G))))=ki (G3 n G) many [] 0:=by
 unfold ki;rw[if_pos (show ([]:List Int).length=0 from rfl),if_neg (by omega)];congr 1
 funext x b
 unfold aA;cases h:rdU (many-1) x b with
 | error e=>rfl
 | ok y =>
  obtain⟨u,r⟩:=y;have hl:=vT h;simp only;unfold G3;rw[if_neg hn,ZW,hl,jbx];rfl
theorem Pt(w:Nat):unE [] 0 w=0∨64<w:=by
 by_cases h:64<w
 ·exact Or.inr h
 ·left
  unfold unE;rw[if_pos (by omega),if_pos (by simp[by8,pk])]
theorem ea.none{D:Except Nat (List Int×List Nat)}{G:List Int->List Nat->Except Nat (List Int×List Nat)}(hG:∀ r:List Nat,r.length≠0->G [] r=.error 32){b:List Nat}{f w:Nat}(hw:w<=64)(h:ea D (G []) b f):ea D (G []) (pkB 0 w b) (pkF 0 w b f):=by
 obtain⟨h1,h2⟩:=h;have e0:by8 (0*w)=0:=by simp[by8]
 have e1:unE [] 0 w=0:=by
  rcases Pt w with h | h
  ·exact h
  ·omega
 unfold pkB pkF;rw[e0,if_neg (by omega),if_neg (by omega),List.drop_zero,ja7];rw[show unE [] ((0:Nat):Int) (w:Int)=0 from e1];by_cases hf:f=0
 ·subst hf
  rw[eT];by_cases hb:b.length=0
  ·rw[if_pos hb,eT]
   exact⟨fun _=>h1 rfl,fun e=>absurd rfl e⟩
  ·rw[if_neg hb,ez (by omega)]
   refine⟨fun e=>by omega,fun _=>?_⟩;rw[h1 rfl];exact hG b hb
 ·rw[ez hf,ez hf]
  exact⟨fun e=>absurd e hf,h2⟩
theorem Pu{w:Nat}{b:List Nat}:pkL 0 w b=[]:=by
 have e0:by8 (0*w)=0:=by simp[by8]
 unfold pkL;rw[e0,if_neg (by omega),ja7];unfold unR;split
 ·have:=dK w 0 (pk 8 [])
  apply jab
  simpa using this
 ·rfl
theorem vU{n w:Nat}{b:List Nat}:(pkL n w b).length<=n:=by
 unfold pkL;split
 ·simp
 ·unfold unR
  split
  ·rw[dK];simp
  ·simp
theorem Pv{n w:Nat}{b:List Nat}:∀ x∈pkL n w b,x<18446744073709551616:=by
 unfold pkL;split
 ·simp
 ·exact WG
theorem ea.places{D:Except Nat (List Int×List Nat)}{n:Nat}{G:List Int->List Nat->Except Nat (List Int×List Nat)}(hG:∀ r:List Nat,r.length≠0->G [] r=.error 32){u:List Int}{b:List Nat}{f:Nat}(hw:cQ (u.length-1)<=64)(h:ea D (G3 n G u) b f) :
  ea D (aA (picked u (pkL n (cQ (u.length-1)) b)) G) (pkB n (cQ (u.length-1)) b) (pkF n (cQ (u.length-1)) b f):=by
 unfold G3 at h;by_cases hn:n=0
 ·subst hn
  rw[if_pos rfl]at h;have:=h.none hG hw
  have e:aA (picked u (pkL 0 (cQ (u.length-1)) b)) G=G []:=by
   rw[Pu];funext r
   unfold aA picked;rw[if_pos (by simp)];rfl
  rw[e];exact this
 ·rw[if_neg hn]at h
  exact h.pkd
theorem ea.picks{D:Except Nat (List Int×List Nat)}{G:List Int->List Nat->Except Nat (List Int×List Nat)}{u:List Int}{P b:List Nat}{f:Nat}(h:ea D (aA (picked u P) G) b f)(hp:∀ q∈P,q<u.length):ea D (G (P.map fun q=>u.getD q 0)) b f:=by
 have e:aA (picked u P) G=G (P.map fun q=>u.getD q 0):=by
  funext r
  unfold aA picked;rw[if_pos hp]
 rwa[e]at h
theorem ea.strays{D:Except Nat (List Int×List Nat)}{G:List Int->List Nat->Except Nat (List Int×List Nat)}{u:List Int}{P b:List Nat}{f:Nat}{K:List Nat->Except Nat (List Int×List Nat)}(h:ea D (aA (picked u P) G) b f)(hp:¬ ∀ q∈P,q<u.length):ea D K b (orf f 40):=by
 obtain⟨h1,h2⟩:=h;by_cases hf:f=0
 ·subst hf
  rw[eT];refine⟨fun e=>by omega,fun _=>?_⟩;rw[h1 rfl];unfold aA picked;rw[if_neg hp]
 ·rw[ez hf]
  exact⟨fun e=>absurd e hf,h2⟩
theorem FC{n:Nat}(h:n<=256):cQ (n-1)<=64:=eI.2 (by
 have:(256:Nat)<2 ^ 64:=by decide
 omega)
theorem Sv.atU{W:World}{a:Option Addr}{n cap:Nat}{l:List Nat}(h:Sv W (.slice a n cap) (aE .u64 l)){k:Nat}(hk:k<l.length) :
  ∃ b off,a=some ⟨b,off,none⟩/\b<W.heap.size/\W.cell? ⟨b,off+k,none⟩=some (.int .u64 (l[k]:Int)):=by
 obtain⟨a',c,h1,h2,h3,h4,h5⟩:=h;simp only[Value.slice.injEq]at h1;obtain⟨rfl,_,rfl⟩:=h1;obtain⟨b,off,h6,h7,h8⟩:=h5 (by rw[ap];omega);exact⟨b,off,h6,h7,h8 k _ (bR hk)⟩
theorem FD{D:Except Nat (List Int×List Nat)}{G:List Int->List Nat->Except Nat (List Int×List Nat)}(hG:∀ r:List Nat,r.length≠0->G [] r=.error 32){w:World}{p n f:Nat}{b:List Nat}(h:StC 333 w p b f)(hn:n<=256)(hg:ea D (aA (rd3 n) G) b f) :
  Calls Tryz.prog 317 #[.pointer (some ⟨p,0,none⟩),.int .i64 (n:Int)] w (yZ D G p n w):=by
 have HS:=ae h;have HHG:=ae hG;have aB:=h.lt;obtain⟨fw,hfw⟩:∃ fw:Nat,min n 1=fw:=⟨_,rfl⟩;have hmin:min (n:Int) 1=(fw:Int):=by omega
 rw[TB]at hg;have xz:=ea.num (lo:=fw) (hi:=n) (fun v=>by constructor<;>(intro h;omega)) hg;have Hn:=ae (kP h fw n (by omega) (by omega))
 have XN:dm fw n (gt b).1<=n:=by
  unfold dm;split<;>omega
 have eX:ea D (ki (G3 n G) (dm fw n (gt b).1) [] 0) (b.drop (gt b).2.1) (ex fw n (gt b).1 (orf f (gt b).2.2)):=by
  by_cases qa:n=0
  ·subst qa
   rw[if_pos rfl]at xz;have h0:dm fw 0 (gt b).1=0:=by omega
   rw[h0]
   have e:ki (G3 0 G) 0 [] 0=G []:=by
    unfold ki G3;rfl
   rw[e];exact xz
  ·by_cases oD:dm fw n (gt b).1=0
   ·refine xz.any ?_
    have:(gt b).1<fw∨n<(gt b).1:=by
     unfold dm at oD;split at oD
     ·assumption
     ·omega
    exact tp this
   ·rw[if_neg qa,Ps n G _ (by omega) qa]at xz
    exact xz
 have rJ:=ae eX;clear h hg xz eX hfw hG;generalize dm fw n (gt b).1=cnt at *;generalize ex fw n (gt b).1 (orf f (gt b).2.2)=f1 at *;generalize b.drop (gt b).2.1=b1 at *;go_enter Tryz.func317,Tryz.ntmps317
 go_wp2_with fail;refine Hn.out.mono ?_;rintro e w1 ⟨rfl,eg,dt⟩;have iM:=ae eg;have gd:=ae dt;have cW:=dt.size;have yh:=eg.lt;clear eg dt;go_wp2_with fail;refine(FB iM.out (by omega) rJ.out).mono ?_;rintro e w2 ⟨us,b2,f2,⟨v2,rfl,fq⟩,hus,uj,ef,gK,dM⟩;subst uj;have dr:=ae fq;have HUS:=ae hus;have gC:=ae ef;have Hp:=ae gK;have gB:=ae (gd.out.trans (dM.mono cW));have bm:=dM.size;have jC:=ef.lt;obtain⟨a2,c2,rfl⟩:=fq.len;clear fq hus ef gK dM rJ;have kY:=FC (n:=us.length) (by omega);go_wp2_with fail;refine(no us.length (by omega) _).mono ?_;rintro e w3 ⟨rfl,aP⟩;have cX:=ae (dr.out.kept aP);have m7:=ae (gC.out.kept aP jC);have p7:=ae (gB.out.then (aP.mono (by omega)));have iB:=aP.size;clear aP;have UK:=ae (Hp.out.places HHG.out kY);have rH:=ae (vU (n:=n) (w:=cQ (us.length-1)) (b:=b2));have HPX:=ae (Pv (n:=n) (w:=cQ (us.length-1)) (b:=b2));have Ml:=ae (vR m7.out n (cQ (us.length-1)) hn kY);clear Hp kY;generalize pkL n (cQ (us.length-1)) b2=P at *;generalize pkB n (cQ (us.length-1)) b2=b3 at *;generalize pkF n (cQ (us.length-1)) b2 f2=f3 at *;generalize cQ (us.length-1)=ww at *;go_wp2_with fail;refine Ml.out.mono ?_;rintro e w4 ⟨⟨v4,rfl,gD⟩,xn,pj⟩;have XO:=ae gD;have um:=ae xn;have Zm:=ae (cX.out.fr pj yh);have xx:=ae (p7.out.trans (pj.mono (by omega)));have He:=pj.size;have Hq:=xn.lt;obtain⟨a4,c4,rfl⟩:=gD.len;have hPl:=rH.out;clear gD xn pj;go_wp2_with fail;go_loopw [8,30] (fun v i wr=>∃ k:Nat,k<=P.length/\i=.int .i64 (k:Int)/\(∀ q∈P.take k,q<us.length)/\br wr w4.heap.size v ((P.take k).map fun q=>us.getD q 0)/\Below w4.heap.size w4 wr) (fun _ i _=>P.length-(intOf i).toNat)
 case atStart=>exact⟨0,by omega,rfl,fun q hq=>by simp at hq,br.nil _ _,ZQ _ _⟩
 case round =>
  obtain⟨k,hk,rfl,cU,how,ay⟩:=hrel;have HAL:=ae cU;have HO:=ae how;have HB:=ae ay;have bO:=ay.size;obtain⟨av,cv,rfl⟩:=how.len;clear cU how ay;by_cases uq:k<P.length
  ·have Hr:(k:Int)<(P.length:Int):=by omega
   obtain⟨bp,op,SP,hbp2,hckp⟩:=(XO.out.kept HB.out).sv.atU uq;cases SP
   have hqx:=HPX.out P[k] (ZV uq);have ru:=ae (Z5 uq);have Hk:=ae (ZV uq);by_cases hq:P[k]<us.length
   ·have mS:¬ ((P[k]:Nat):Int)>=(us.length:Int):=by omega
    obtain⟨bu,ou,Rq,hbu2,hcku⟩:=(Zm.out.kept HB.out).sv.at hq;cases Rq
    have HGD:Hid (us.getD P[k] 0=us[P[k]]):=ae (by simp[List.getD_eq_getElem?_getD,hq]);have ya:((P.take k).map fun q=>us.getD q 0).length<=256:=by rw[ZU,ZX];omega
    generalize us[P[k]]=x at *;generalize P[k]=q at *;obtain⟨ys,ye⟩:∃ ys,((P.take k).map fun q=>us.getD q 0)=ys:=⟨_,rfl⟩;rw[ye]at HO ya ⊢;have Hm:=ae ye;clear ye;have m6:=ae (HO.out.kept ((ZQ _ _).alloc (ZR _) (.cells #[.int .i64 x] 2)));have eW:=ae (HB.out.alloc bO (.cells #[.int .i64 x] 2));go_wp2_with (first | (at_builtin;refine aW rfl _ _ rfl w4.heap.size _ _ x ys rfl m6.out rfl ?c1 ?c2 ?c3 ?_))
    case c2=>omega
    case c3=>omega
    intro v7 w7 o7 b7;have iw:=ae o7;have ia:=ae (eW.out.trans b7);clear o7 b7;go_wp2_with fail;go_roundw
    case rel =>
     refine⟨k+1,by omega,by go_num,?_,?_,ia.out⟩
     ·rw[ru.out]
      intro q' hq';rcases jaj.1 hq' with h | h
      ·exact HAL.out q' h
      ·rw[jay.1 h]
       exact hq
     ·rw[ru.out,Z8,Hm.out,List.map_singleton,HGD.out]
      exact iw.out
    case measure=>simp[intOf];omega
   ·have mS:((P[k]:Nat):Int)>=(us.length:Int):=by omega
    have sW:Hid (¬ ∀ q∈P,q<us.length):=ae (fun h=>hq (h _ Hk.out));have UJ:=ae (UK.out.strays (K:=G []) sW.out);clear hq;generalize P[k]=q at *;go_wp2_with fail;refine(dj (um.out.kept HB.out Hq) 40).mono ?_;rintro e w8 ⟨rfl,hs8,XP⟩;have HS8:=ae hs8;have XQ:=ae ((xx.out.then (HB.out.mono (by omega))).trans (XP.mono (by omega)));clear hs8 XP;go_wp2_with fail;go_ret
    exact⟨[],_,_,⟨_,rfl,br.nil _ _⟩,fun x hx=>by simp at hx,by simp,HS8.out,UJ.out,XQ.out⟩
  ·obtain rfl:k=P.length:=by omega
   have Hr:¬ (P.length:Int)<(P.length:Int):=by omega
   have cU:=HAL.out;rw[ZY]at cU HO;have UJ:=ae (UK.out.picks cU);have J1:=ae (xx.out.then (HB.out.mono (by omega)));have SQ:=HO.out.low (show w.heap.size<=w4.heap.size by omega);rw[ZU]at SQ;have UL:=ae SQ;clear SQ
   have XR:Hid (Is (P.map fun q=>us.getD q 0)):=ae (fun y hy=>by
    obtain⟨q,hq,rfl⟩:=jaa.1 hy;have:=cU q hq;rw[List.getD_eq_getElem?_getD,List.getElem?_eq_getElem this];exact HUS.out _ (ZV this))
   have ui:Hid ((P.map fun q=>us.getD q 0).length<=n):=ae (by rw[ZU];exact hPl);clear cU;go_wp2_with fail;go_ret
   exact⟨_,_,_,⟨_,rfl,UL.out⟩,XR.out,ui.out,um.out.kept HB.out Hq,UJ.out,J1.out⟩
theorem TC(n:Nat)(hn:n≠0)(G:List Int->List Nat->Except Nat (List Int×List Nat)):aA (rd4 n) G=aA wh (fun x=>aA num (fun w=>if 64<w then (fun _=>.error 40) else aA (pkd n w) (fun p=>G (p.map (fun(q:Nat)=>w64 (x+(q:Int))))))):=by
 have:rd4 n=aA wh (fun x=>aA num (fun w=>if 64<w then (fun _=>.error 40) else aA (pkd n w) (fun p r=>.ok (p.map (fun(q:Nat)=>w64 (x+(q:Int))),r)))):=by
  funext b
  unfold rd4;rw[if_neg hn]
 rw[this,bN];congr 1
 funext x
 rw[bN];congr 1
 funext w
 split
 ·rfl
 ·rw[bN]
  rfl
theorem Pw(G:List Int->List Nat->Except Nat (List Int×List Nat)):aA (rd4 0) G=G []:=by
 have:rd4 0=fun b=>.ok ([],b):=by funext b;rfl
 rw[this,cF]
theorem CX{D:Except Nat (List Int×List Nat)}{G:List Int->List Nat->Except Nat (List Int×List Nat)}{w:World}{p n f:Nat}{b:List Nat}(h:StC 333 w p b f)(hn:n<=256)(hg:ea D (aA (rd4 n) G) b f) :
  Calls Tryz.prog 318 #[.pointer (some ⟨p,0,none⟩),.int .i64 (n:Int)] w (yZ D G p n w):=by
 have HS:=ae h;have aB:=h.lt;by_cases qa:n=0
 ·subst qa
  rw[Pw]at hg;have HG:=ae hg;clear h hg;go_enter Tryz.func318,Tryz.ntmps318
  go_wp2_with fail;go_ret
  exact⟨[],b,f,⟨_,rfl,br.nil _ _⟩,fun x hx=>by simp at hx,by simp,HS.out,HG.out,Fr.refl _ _ _⟩
 ·have UM:((n:Int)==0)=false:=Z1.2 (by omega)
  rw[TC n qa]at hg;have eQ:=hg.wh;have HX:=ae (jP (fQ b).1);have HW:=ae (lM h);clear h hg;generalize fB (gt b).1=x at *;generalize b.drop (gt b).2.1=b1 at *;generalize orf f (gt b).2.2=f1 at *;have gK:=ea.num (lo:=0) (hi:=64) (fun v=>by constructor<;>(intro h;omega)) eQ;have Hn:Hid (∀ W,StC 333 W p b1 f1->Calls Tryz.prog 321 #[.pointer (some ⟨p,0,none⟩),.int .u64 (0:Int),.int .u64 (64:Int)] W fun r w'=>r=.returned (.int .u64 (dm 0 64 (gt b1).1:Int))/\StC 333 w' p (b1.drop (gt b1).2.1) (ex 0 64 (gt b1).1 (orf f1 (gt b1).2.2))/\Fr p W.heap.size W w'):=fun W h=>kP h 0 64 (by omega) (by omega)
  have hwle:dm 0 64 (gt b1).1<=64:=by
   unfold dm;split<;>omega
  clear eQ qa;generalize dm 0 64 (gt b1).1=ww at *;generalize ex 0 64 (gt b1).1 (orf f1 (gt b1).2.2)=f2 at *;generalize b1.drop (gt b1).2.1=b2 at *;have UK:=ae gK.pkd;have rH:=ae (vU (n:=n) (w:=ww) (b:=b2));have HPX:=ae (Pv (n:=n) (w:=ww) (b:=b2));have Ml:Hid (∀ W,StC 333 W p b2 f2->Calls Tryz.prog 323 #[.pointer (some ⟨p,0,none⟩),.int .i64 (n:Int),.int .i64 (ww:Int)] W fun r w'=>(∃ v,r=.returned v/\dB w' W.heap.size v (pkL n ww b2))/\StC 333 w' p (pkB n ww b2) (pkF n ww b2 f2)/\Fr p W.heap.size W w'):=fun W h=>vR h n ww hn hwle
  clear gK;generalize pkL n ww b2=P at *;generalize pkB n ww b2=b3 at *;generalize pkF n ww b2 f2=f3 at *;go_enter Tryz.func318,Tryz.ntmps318
  go_wp2_with fail;refine HW.out.mono ?_;rintro e w1 ⟨rfl,eg,dt⟩;have iM:=ae eg;have gd:=ae dt;have cW:=dt.size;clear eg dt;go_wp2_with fail;refine(Hn.out _ iM.out).mono ?_;rintro e w2 ⟨rfl,ef,dM⟩;have gC:=ae ef;have gB:=ae (gd.out.trans (dM.mono cW));have bm:=dM.size;clear ef dM;go_wp2_with fail;refine(Ml.out _ gC.out).mono ?_;rintro e w4 ⟨⟨v4,rfl,gD⟩,xn,pj⟩;have XO:=ae gD;have um:=ae xn;have xx:=ae (gB.out.trans (pj.mono (by omega)));have He:=pj.size;have Hq:=xn.lt;obtain⟨a4,c4,rfl⟩:=gD.len;have hPl:=rH.out;clear gD xn pj;go_wp2_with fail;go_loopw [7,22] (fun v i wr=>∃ k:Nat,k<=P.length/\i=.int .i64 (k:Int)/\br wr w4.heap.size v ((P.take k).map fun(q:Nat)=>w64 (x+(q:Int)))/\Below w4.heap.size w4 wr) (fun _ i _=>P.length-(intOf i).toNat)
  case atStart=>exact⟨0,by omega,rfl,br.nil _ _,ZQ _ _⟩
  case round =>
   obtain⟨k,hk,rfl,how,ay⟩:=hrel;have HO:=ae how;have HB:=ae ay;have bO:=ay.size;obtain⟨av,cv,rfl⟩:=how.len;clear how ay;by_cases uq:k<P.length
   ·have Hr:(k:Int)<(P.length:Int):=by omega
    obtain⟨bp,op,SP,hbp2,hckp⟩:=(XO.out.kept HB.out).sv.atU uq;cases SP
    have hqx:=HPX.out P[k] (ZV uq);have ru:=ae (Z5 uq);have ya:((P.take k).map fun(q:Nat)=>w64 (x+(q:Int))).length<=256:=by rw[ZU,ZX];omega
    generalize P[k]=q at *;obtain⟨y,hy⟩:∃ y,IntKind.i64.wrap (q:Int)=y:=⟨_,rfl⟩;obtain⟨z,hz⟩:∃ z,w64 (x+(q:Int))=z:=⟨_,rfl⟩
    have hyz:IntKind.i64.wrap (x+y)=z:=by
     rw[← hy,← hz,← qE,jam,jam,jam];omega
    have HZ:=ae hz;obtain⟨ys,ye⟩:∃ ys,((P.take k).map fun(q:Nat)=>w64 (x+(q:Int)))=ys:=⟨_,rfl⟩;rw[ye]at HO ya ⊢;have Hm:=ae ye;clear ye hz;have m6:=ae (HO.out.kept ((ZQ _ _).alloc (ZR _) (.cells #[.int .i64 z] 2)));have eW:=ae (HB.out.alloc bO (.cells #[.int .i64 z] 2));go_wp2_with (first | (at_builtin;refine aW rfl _ _ rfl w4.heap.size _ _ z ys rfl m6.out rfl (aK _ _ _) ?c2 ?c3 ?_))
    case c2=>omega
    case c3=>first | omega | (rw[ZS];omega)
    intro v7 w7 o7 b7;have iw:=ae o7;have ia:=ae (eW.out.trans b7);clear o7 b7;go_wp2_with fail;go_roundw
    case rel =>
     refine⟨k+1,by omega,by go_num,?_,ia.out⟩;rw[ru.out,Z8,Hm.out,List.map_singleton,HZ.out];exact iw.out
    case measure=>simp[intOf];omega
   ·obtain rfl:k=P.length:=by omega
    have Hr:¬ (P.length:Int)<(P.length:Int):=by omega
    rw[ZY]at HO;have J1:=ae (xx.out.then (HB.out.mono (by omega)));have SQ:=HO.out.low (show w.heap.size<=w4.heap.size by omega);rw[ZU]at SQ;have UL:=ae SQ;clear SQ
    have XR:Hid (Is (P.map fun(q:Nat)=>w64 (x+(q:Int)))):=ae (fun y hy=>by
     obtain⟨q,hq,rfl⟩:=jaa.1 hy;exact i9 _)
    have ui:Hid ((P.map fun(q:Nat)=>w64 (x+(q:Int))).length<=n):=ae (by rw[ZU];exact hPl);go_wp2_with fail;go_ret
    exact⟨_,_,_,⟨_,rfl,UL.out⟩,XR.out,ui.out,um.out.kept HB.out Hq,UK.out,J1.out⟩
theorem Px{D:Except Nat (List Int×List Nat)}{G:List Int->List Nat->Except Nat (List Int×List Nat)}(hG:∀ r:List Nat,r.length≠0->G [] r=.error 32){w:World}{p n f c:Nat}{b:List Nat}(h:StC 333 w p b f)(hn:n<=256)(hc:c<=4)(hg:ea D (aA (rdC c n) G) b f) :
  Calls Tryz.prog 307 #[.pointer (some ⟨p,0,none⟩),.int .u8 (c:Int),.int .i64 (n:Int)] w (yZ D G p n w):=by
 obtain rfl | rfl | rfl | rfl | rfl:c=0∨c=1∨c=2∨c=3∨c=4:=by omega
 ·have HC:=ae (Pn h hn hg)
  clear h hg hG;go_enter Tryz.func307,Tryz.ntmps307
  go_wp2_with fail;refine HC.out.mono ?_;rintro e w1 ⟨l,b',f',⟨v,rfl,ho⟩,hr⟩;have HO:=ae ho;have HR:=ae hr;clear ho hr;go_wp2_with fail;go_ret
  exact⟨l,b',f',⟨_,rfl,HO.out⟩,HR.out⟩
 ·have HC:=ae (KX h hn hg)
  clear h hg hG;go_enter Tryz.func307,Tryz.ntmps307
  go_wp2_with fail;refine HC.out.mono ?_;rintro e w1 ⟨l,b',f',⟨v,rfl,ho⟩,hr⟩;have HO:=ae ho;have HR:=ae hr;clear ho hr;go_wp2_with fail;go_ret
  exact⟨l,b',f',⟨_,rfl,HO.out⟩,HR.out⟩
 ·have HC:=ae (Pq h hn hg)
  clear h hg hG;go_enter Tryz.func307,Tryz.ntmps307
  go_wp2_with fail;refine HC.out.mono ?_;rintro e w1 ⟨l,b',f',⟨v,rfl,ho⟩,hr⟩;have HO:=ae ho;have HR:=ae hr;clear ho hr;go_wp2_with fail;go_ret
  exact⟨l,b',f',⟨_,rfl,HO.out⟩,HR.out⟩
 ·have HC:=ae (FD hG h hn hg)
  clear h hg hG;go_enter Tryz.func307,Tryz.ntmps307
  go_wp2_with fail;refine HC.out.mono ?_;rintro e w1 ⟨l,b',f',⟨v,rfl,ho⟩,hr⟩;have HO:=ae ho;have HR:=ae hr;clear ho hr;go_wp2_with fail;go_ret
  exact⟨l,b',f',⟨_,rfl,HO.out⟩,HR.out⟩
 ·have HC:=ae (CX h hn hg)
  clear h hg hG;go_enter Tryz.func307,Tryz.ntmps307
  go_wp2_with fail;refine HC.out.mono ?_;rintro e w1 ⟨l,b',f',⟨v,rfl,ho⟩,hr⟩;have HO:=ae ho;have HR:=ae hr;clear ho hr;go_wp2_with fail;go_ret
  exact⟨l,b',f',⟨_,rfl,HO.out⟩,HR.out⟩
end Go.Proofs.YtpljdjmpamjkhaaGreatDoor
