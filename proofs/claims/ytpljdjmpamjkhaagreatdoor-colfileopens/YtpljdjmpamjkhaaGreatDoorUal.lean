import Derived.Test.YtpljdjmpamjkhaaGreatDoorUak
set_option linter.unusedVariables false
set_option linter.unusedSimpArgs false
set_option maxRecDepth 100000
set_option maxHeartbeats 4000000
namespace Go.Proofs.YtpljdjmpamjkhaaGreatDoor
open Go.RowKit Go.Lib
theorem cO{W:World}{p T:Nat}{c:Array Value}{fz:Nat×Nat}(h:W.heap[p]?=some (.cells c T fz))(i:Nat)(v:Value):(W.setCell ⟨p,i,none⟩ v).heap[p]?=some (.cells (c.setIfInBounds i v) T fz):=by
 rw[Sort.setCell_eq];simp[Sort.mapBlock,Array.getElem?_modify,h,Sort.onCells]
def StC(T:Nat)(W:World)(p:Nat)(b:List Nat)(f:Nat):Prop :=
 ∃ g off cap,W.heap[p]?=some (.cells #[.slice (some ⟨g,off,none⟩) b.length cap,.int .i64 (f:Int)] T (0,0))/\g<p/\b.length<=cap/\cap<=maxLen/\Bs b /\
  ∀ j (h:j<b.length),W.cell? ⟨g,off+j,none⟩=some (.int .u8 (b[j]:Int))
theorem StC.bs{T:Nat}{W:World}{p:Nat}{b:List Nat}{f:Nat}(h:StC T W p b f):Bs b:=by obtain⟨_,_,_,_,_,_,_,h,_⟩:=h;exact h
theorem StC.lt{T:Nat}{W:World}{p:Nat}{b:List Nat}{f:Nat}(h:StC T W p b f):p<W.heap.size:=by obtain⟨_,_,_,h,_⟩:=h;exact(Array.getElem?_eq_some_iff.1 h).1
theorem StC.kept{T:Nat}{W W':World}{p B:Nat}{b:List Nat}{f:Nat}(h:StC T W p b f)(hb:Below B W W')(hp:p<B):StC T W' p b f:=by
 obtain⟨g,off,cap,h1,h2,h3,h4,h5,h6⟩:=h;exact⟨g,off,cap,(hb.block p hp).trans h1,h2,h3,h4,h5,fun j hj=>(hb.cell (p:=⟨g,off+j,none⟩) (show g<B by omega)).trans (h6 j hj)⟩
theorem StC.cells{T:Nat}{W:World}{p:Nat}{b:List Nat}{f:Nat}(h:StC T W p b f) :
  ∃ g off cap,W.cell? ⟨p,0,none⟩=some (.slice (some ⟨g,off,none⟩) b.length cap)/\W.cell? ⟨p,1,none⟩=some (.int .i64 (f:Int))/\W.frozen? ⟨p,0,none⟩=false/\W.frozen? ⟨p,1,none⟩=false /\
   b.length<=cap/\cap<=9223372036854775807/\Sv W (.slice (some ⟨g,off,none⟩) b.length cap) (aF .u8 b)/\g<p /\
   (∀ f':Nat,StC T (W.setCell ⟨p,1,none⟩ (.int .i64 (f':Int))) p b f') /\
   (∀ k,k<=b.length->∃ A,(if cap=k then (some ⟨g,off,none⟩:Option Addr) else some ⟨g,off+k,none⟩)=A/\StC T (W.setCell ⟨p,0,none⟩ (.slice A (b.length-k) (cap-k))) p (b.drop k) f):=by
 have aC:=h.lt;obtain⟨g,off,cap,h1,h2,h3,h4,h5,h6⟩:=h
 have ie:Sv W (.slice (some ⟨g,off,none⟩) b.length cap) (aF .u8 b):=by
  refine⟨_,cap,by rw[ap],by rw[ap];omega,h4,fun e=>by(cases e),fun h0=>⟨g,off,rfl,by omega,fun j x hj=>?_⟩⟩
  have hj':j<b.length:=by
   have:=(List.getElem?_eq_some_iff.1 hj).1;rwa[ap]at this
  rw[bS hj']at hj;rw[h6 j hj'];exact hj
 refine⟨g,off,cap,by rw[ay h1];rfl,by rw[ay h1];rfl,by simp[World.frozen?,h1],by simp[World.frozen?,h1],h3,by unfold maxLen at h4;omega,ie,h2,fun f'=>?_,fun k hk=>?_⟩
 ·refine⟨g,off,cap,by rw[cO h1];rfl,h2,h3,h4,h5,fun j hj=>?_⟩
  rw[World.cell?_of_block (w:=W) (Below.heap_setCell _ _ _ _ (show g≠p by omega))];exact h6 j hj
 ·obtain⟨A,hA,hSA⟩:=AW ie (k:=k) (by rw[ap];exact hk)
  refine⟨A,hA,?_⟩;have hl:(b.drop k).length=b.length-k:=jdN;have Cw:Bs (b.drop k):=fun x hx=>h5 x (jeO hx)
  by_cases dR:cap=k
  ·rw[jdf dR]at hA
   subst hA;refine⟨g,off,cap-k,by rw[cO h1,hl];rfl,h2,by omega,by omega,Cw,fun j hj=>by omega⟩
  ·rw[jde dR]at hA
   subst hA;refine⟨g,off+k,cap-k,by rw[cO h1,hl];rfl,h2,by omega,by omega,Cw,fun j hj=>?_⟩;rw[World.cell?_of_block (w:=W) (Below.heap_setCell _ _ _ _ (show g≠p by omega)),jeo,h6 (k+j) (by omega)];simp
theorem dp{w:World}{p f:Nat}{b:List Nat}(h:StC 333 w p b f)(e:Nat) :
  Calls Tryz.prog 310 #[.pointer (some ⟨p,0,none⟩),.int .i64 (e:Int)] w fun r w'=>r=.returned (.tuple #[])/\StC 333 w' p b (orf f e)/\Fr p w.heap.size w w':=by
 have HS:=ae h;obtain⟨g,off,cap,h0,h1,h2,h3,h4,h5,h6,h7,h8,h9⟩:=h.cells;have H8:=ae (h8 e);have HF:=ae ((Fr.refl p w.heap.size w).set 1 (.int .i64 (e:Int)));clear h h6 h8 h9;by_cases hf:((f:Int)==0)=true
 ·have hf':f=0:=by simpa using hf
  have HO:jfb (orf f e=e):=by show _=_;unfold orf;rw[jdf hf']
  clear hf';go_enter Tryz.func310,Tryz.ntmps310
  go_wp2_with fail;go_end0
  rw[HO.o];exact⟨rfl,H8.o,HF.o⟩
 ·have hff:((f:Int)==0)=false:=by simpa using hf
  have HO:jfb (orf f e=f):=by show _=_;unfold orf;rw[jde (fun e=>hf (by simp[e]))]
  clear hf;go_enter Tryz.func310,Tryz.ntmps310
  go_wp2_with fail;go_end0
  rw[HO.o];exact⟨rfl,HS.o,Fr.refl _ _ _⟩
theorem Lg{w:World}{p f:Nat}{b:List Nat}(h:StC 333 w p b f) :
  Calls Tryz.prog 308 #[.pointer (some ⟨p,0,none⟩)] w fun r w'=>r=.returned (.tuple #[])/\StC 333 w' p b (orf f (if b.length=0 then 0 else 32))/\Fr p w.heap.size w w':=by
 have HS:=ae h;obtain⟨g,off,cap,h0,h1,h2,h3,h4,h5,h6,h7,h8,h9⟩:=h.cells;have HR:=ae (dp h 32);clear h h6 h8 h9;by_cases hp:(b.length:Int) > 0
 ·rw[jde (by omega)]
  go_enter Tryz.func308,Tryz.ntmps308
  go_wp2_with fail;refine HR.o.mono ?_;rintro e w1 ⟨rfl,ek,dv⟩;have iO:=ae ek;clear ek;go_wp2_with fail;go_end0
  exact⟨rfl,iO.o,dv⟩
 ·have dY:b.length=0:=by omega
  rw[jdf dY];have HO:jfb (orf f 0=f):=by show _=_;unfold orf;split<;>simp_all
  clear dY;go_enter Tryz.func308,Tryz.ntmps308
  go_wp2_with fail;go_end0
  rw[HO.o];exact⟨rfl,HS.o,Fr.refl _ _ _⟩
theorem MK{w:World}{a:Option Addr}{n cap:Nat}{b:List Nat}(hb:Bs b)(h:Sv w (.slice a n cap) (aF .u8 b)) :
  Calls Tryz.prog 324 #[.slice a n cap] w fun e w'=>e=kL .i64 (fD (gt b).1) (gt b).2.1 (gt b).2.2/\w'=w:=GN (h.sl hb)
theorem lT{w:World}{p f:Nat}{b:List Nat}(h:StC 333 w p b f) :
  Calls Tryz.prog 320 #[.pointer (some ⟨p,0,none⟩)] w fun r w'=>r=.returned (.int .i64 (fD (gt b).1))/\StC 333 w' p (b.drop (gt b).2.1) (orf f (gt b).2.2)/\Fr p w.heap.size w w':=by
 have HS:=ae h;have HB:=ae h.bs;obtain⟨g,off,cap,h0,h1,h2,h3,h4,h5,h6,h7,h8,h9⟩:=h.cells;obtain⟨g1,g2,g3,g4⟩:=fS b;have HG:=ae (MK HB.o h6);have HU:=ae (jW g1);clear h h6 h8 h9 g4;generalize gt b=x at *;obtain⟨n,u,c⟩:=x;simp only at *;unfold kL at HG;generalize fD n=z at *;go_enter Tryz.func320,Tryz.ntmps320
 go_wp2_with fail;refine HG.o.mono ?_;rintro e w1 ⟨rfl,rfl⟩;go_wp2_with fail;refine(dp HS.o c).mono ?_;rintro e w2 ⟨rfl,ei,dO⟩;obtain⟨G,Off,Cap,k0,k1,k2,k3,k4,k5,k6,k7,k8,k9⟩:=ei.cells;obtain⟨A,hA,hSA⟩:=k9 u g2;have lA:=ae hSA;have gD:=ae (dO.set 0 (.slice A (b.length-u) (Cap-u)));clear ei dO k8 k9 k6 hSA h0 h1 h2 h3;go_wp2_with fail;go_ret
 exact⟨rfl,lA.o,gD.o⟩
def dq(lo hi v:Nat):Nat:=if v<lo∨hi<v then 0 else v
def ez(lo hi v f:Nat):Nat:=if v<lo∨hi<v then orf f 40 else f
theorem kW{w:World}{p f:Nat}{b:List Nat}(h:StC 333 w p b f)(lo hi:Nat)(hlo:lo<18446744073709551616)(Kl:hi<18446744073709551616) :
  Calls Tryz.prog 321 #[.pointer (some ⟨p,0,none⟩),.int .u64 (lo:Int),.int .u64 (hi:Int)] w fun r w'=>r=.returned (.int .u64 (dq lo hi (gt b).1:Int))/\StC 333 w' p (b.drop (gt b).2.1) (ez lo hi (gt b).1 (orf f (gt b).2.2))/\Fr p w.heap.size w w':=by
 have HS:=ae h;have HB:=ae h.bs;obtain⟨g,off,cap,h0,h1,h2,h3,h4,h5,h6,h7,h8,h9⟩:=h.cells;obtain⟨g1,g2,g3,g4⟩:=fS b;have HG:=ae (AJ HB.o h6);clear h h6 h8 h9 g4;generalize gt b=x at *;obtain⟨n,u,c⟩:=x;simp only at *;unfold kL at HG;by_cases hb:n<lo∨hi<n
 ·have HW:jfb (dq lo hi n=0/\ez lo hi n (orf f c)=orf (orf f c) 40):=⟨jdf hb,jdf hb⟩
  by_cases hl:(n:Int)<(lo:Int)
  ·clear hb
   go_enter Tryz.func321,Tryz.ntmps321
   go_wp2_with fail;refine HG.o.mono ?_;rintro e w1 ⟨rfl,rfl⟩;go_wp2_with fail;refine(dp HS.o c).mono ?_;rintro e w2 ⟨rfl,ei,dO⟩;obtain⟨G,Off,Cap,k0,k1,k2,k3,k4,k5,k6,k7,k8,k9⟩:=ei.cells;obtain⟨A,hA,hSA⟩:=k9 u g2;have lA:=ae hSA;have gD:=ae (dO.set 0 (.slice A (b.length-u) (Cap-u)));clear ei dO k8 k9 k6 hSA h0 h1 h2 h3;go_wp2_with fail;refine(dp lA.o 40).mono ?_;rintro e w3 ⟨rfl,ll,iz⟩;have no:=ae ll;have qp:=ae (gD.o.trans (iz.mono gD.o.size));clear ll iz;go_wp2_with fail;go_ret
   rw[HW.o.1,HW.o.2];exact⟨rfl,no.o,qp.o⟩
  ·have hh:(n:Int) > (hi:Int):=by omega
   clear hb;go_enter Tryz.func321,Tryz.ntmps321
   go_wp2_with fail;refine HG.o.mono ?_;rintro e w1 ⟨rfl,rfl⟩;go_wp2_with fail;refine(dp HS.o c).mono ?_;rintro e w2 ⟨rfl,ei,dO⟩;obtain⟨G,Off,Cap,k0,k1,k2,k3,k4,k5,k6,k7,k8,k9⟩:=ei.cells;obtain⟨A,hA,hSA⟩:=k9 u g2;have lA:=ae hSA;have gD:=ae (dO.set 0 (.slice A (b.length-u) (Cap-u)));clear ei dO k8 k9 k6 hSA h0 h1 h2 h3;go_wp2_with fail;refine(dp lA.o 40).mono ?_;rintro e w3 ⟨rfl,ll,iz⟩;have no:=ae ll;have qp:=ae (gD.o.trans (iz.mono gD.o.size));clear ll iz;go_wp2_with fail;go_ret
   rw[HW.o.1,HW.o.2];exact⟨rfl,no.o,qp.o⟩
 ·have HW:jfb (dq lo hi n=n/\ez lo hi n (orf f c)=orf f c):=⟨jde hb,jde hb⟩
  have hl:¬ (n:Int)<(lo:Int):=by omega
  have hh:¬ (n:Int) > (hi:Int):=by omega
  clear hb;go_enter Tryz.func321,Tryz.ntmps321
  go_wp2_with fail;refine HG.o.mono ?_;rintro e w1 ⟨rfl,rfl⟩;go_wp2_with fail;refine(dp HS.o c).mono ?_;rintro e w2 ⟨rfl,ei,dO⟩;obtain⟨G,Off,Cap,k0,k1,k2,k3,k4,k5,k6,k7,k8,k9⟩:=ei.cells;obtain⟨A,hA,hSA⟩:=k9 u g2;have lA:=ae hSA;have gD:=ae (dO.set 0 (.slice A (b.length-u) (Cap-u)));clear ei dO k8 k9 k6 hSA h0 h1 h2 h3;go_wp2_with fail;go_ret
  rw[HW.o.1,HW.o.2];exact⟨rfl,lA.o,gD.o⟩
def pkL(n w:Nat)(b:List Nat):List Nat:=if b.length<by8 (n*w) then [] else unR (b.take (by8 (n*w))) n w
def pkB(n w:Nat)(b:List Nat):List Nat:=if b.length<by8 (n*w) then b else b.drop (by8 (n*w))
def pkF(n w:Nat)(b:List Nat)(f:Nat):Nat :=
 if b.length<by8 (n*w) then orf f 30 else orf (orf f (if (b.drop (by8 (n*w))).length=0 then 0 else 32)) (unE (b.take (by8 (n*w))) n w)
theorem zv(k:IntKind)(l:List Nat)(n:Nat):aF k (l.take n)=(aF k l).take n:=by simp[aF,jeE]
theorem wJ{w:World}{p f:Nat}{b:List Nat}(h:StC 333 w p b f)(n ww:Nat)(hn:n<=256)(Pu:ww<=64) :
  Calls Tryz.prog 323 #[.pointer (some ⟨p,0,none⟩),.int .i64 (n:Int),.int .i64 (ww:Int)] w fun r w'=>(∃ v,r=.returned v/\dD w' w.heap.size v (pkL n ww b))/\StC 333 w' p (pkB n ww b) (pkF n ww b f)/\Fr p w.heap.size w w':=by
 have HS:=ae h;have HB:=ae h.bs;have aC:=h.lt;obtain⟨g,off,cap,h0,h1,h2,h3,h4,h5,h6,h7,h8,h9⟩:=h.cells;have hc:n*ww<=16384:=jdq (jeP hn Pu) (by omega);have hmul:(n:Int)*(ww:Int)=((n*ww:Nat):Int):=by simp
 have hby2:(((n*ww:Nat):Int)+8-1) / 8=((by8 (n*ww):Nat):Int):=by unfold by8;omega
 have fO:by8 (n*ww)<=2048:=by unfold by8;omega
 have HL:jfb (pkL n ww b=if b.length<by8 (n*ww) then [] else unR (b.take (by8 (n*ww))) n ww):=rfl;have ge:jfb (pkB n ww b=if b.length<by8 (n*ww) then b else b.drop (by8 (n*ww))):=rfl;have Qf:jfb (pkF n ww b f=if b.length<by8 (n*ww) then orf f 30 else orf (orf f (if (b.drop (by8 (n*ww))).length=0 then 0 else 32)) (unE (b.take (by8 (n*ww))) n ww)):=rfl;have Ah:=ae h6;clear h h6 h8 h9;generalize by8 (n*ww)=L at *;generalize n*ww=c at *;generalize pkL n ww b=RL at *;generalize pkB n ww b=RB at *;generalize pkF n ww b f=RF at *;by_cases hshort:(b.length:Int)<(L:Int)
 ·have hs':b.length<L:=by omega
  rw[jdf hs']at HL ge Qf;clear hs';go_enter Tryz.func323,Tryz.ntmps323
  go_wp2_with fail;refine(dp HS.o 30).mono ?_;rintro e w1 ⟨rfl,ek,dv⟩;have iO:=ae ek;have gg:=ae dv;clear ek dv;go_wp2_with fail;go_ret
  rw[HL.o,ge.o,Qf.o];exact⟨⟨_,rfl,dD.nil _ _⟩,iO.o,gg.o⟩
 ·have hs':¬ b.length<L:=by omega
  rw[jde hs']at HL ge Qf;have rP:=ae (Ah.o.take (k:=L) (by rw[ap];omega));rw[← zv]at rP;have Pv:jfb (Bs (b.take L)):=fun x hx=>HB.o x (jd3 hx)
  obtain⟨g',off',cap',k0,k1,k2,k3,k4,k5,k6,k7,k8,k9⟩:=HS.o.cells;rw[h0]at k0;cases k0
  obtain⟨A,hA,hSA⟩:=k9 L (by omega);have lA:=ae hSA;have gD:=ae ((Fr.refl p w.heap.size w).set 0 (.slice A (b.length-L) (cap-L)));clear hs' hSA k9 k8 k6 k1 k2 k3 k4 k5 k7;go_enter Tryz.func323,Tryz.ntmps323
  go_wp2_with fail;refine(Lg lA.o).mono ?_;rintro e w3 ⟨rfl,ll,iz⟩;have no:=ae ll;have hFr3:=gD.o.trans (iz.mono gD.o.size);have qp:=ae hFr3;have iD:=hFr3.size
  have HTK3:jfb (Sv w3 (.slice (some ⟨g,off,none⟩) L cap) (aF .u8 (b.take L))):=ae (by
   obtain⟨a',c',e1,e2,e3,e4,e5⟩:=rP.o;refine⟨a',c',e1,e2,e3,e4,fun hp=>?_⟩;obtain⟨G,O,f1,f2,f3⟩:=e5 hp;simp only[Value.slice.injEq]at e1;rw[← e1.1]at f1;cases f1
   refine⟨g,off,e1.1.symm,by omega,fun j x hj=>?_⟩;rw[World.cell?_of_block (w:=w) (hFr3.block g (by omega) (by omega))];exact f3 j x hj)
  clear ll iz hFr3 h0 h1 h2 h3;go_wp2_with fail;refine(tH HTK3.o.sx Pv.o (n:Int) (ww:Int)).mono ?_;rintro e w4 ⟨v4,rfl,gF,bw⟩;have eR:=ae gF;have Ke:=bw.size;have uM:=ae (no.o.kept bw (by omega));have xT:=ae (qp.o.trans (Fr.of_below (bw.mono iD)));clear gF bw;go_wp2_with fail;refine(dp uM.o _).mono ?_;rintro e w5 ⟨rfl,nW,jz⟩;have sd:=ae nW
  have dJ:jfb (dD w5 w.heap.size v4 (unR (b.take L) n ww)):=ae (by
   have h1:dD w4 w.heap.size v4 (unR (b.take L) n ww):=by
    obtain⟨q1,q2⟩:=eR.o;refine⟨q1,?_⟩;rcases q2 with q | ⟨a1,a2,a3,a4,a5,a6⟩
    ·exact Or.inl q
    ·exact Or.inr ⟨a1,a2,a3,a4,jdq iD a5,a6⟩
   exact jz.own h1 aC)
  have xU:=ae (xT.o.trans (jz.mono (by omega)));clear nW jz;go_wp2_with fail;go_ret
  rw[HL.o,ge.o,Qf.o];exact⟨⟨_,rfl,dJ.o⟩,sd.o,xU.o⟩
def ec(D:Except Nat (List Int×List Nat))(K:List Nat->Except Nat (List Int×List Nat))(b:List Nat)(f:Nat):Prop:=(f=0->D=K b)/\(f≠0->D=.error f)
theorem ec.wh{D:Except Nat (List Int×List Nat)}{g:Int->List Nat->Except Nat (List Int×List Nat)}{b:List Nat}{f:Nat}(h:ec D (aB wh g) b f):ec D (g (fD (gt b).1)) (b.drop (gt b).2.1) (orf f (gt b).2.2):=by
 obtain⟨h1,h2⟩:=h;by_cases hf:f=0
 ·subst hf
  have h3:=h1 rfl;rw[eV];unfold aB Go.Proofs.YtpljdjmpamjkhaaGreatDoor.wh at h3;refine⟨fun e=>?_,fun e=>?_⟩
  ·rw[jdf e]at h3
   exact h3
  ·rw[jde e]at h3
   exact h3
 ·rw[eB hf]
  exact⟨fun e=>absurd e hf,h2⟩
theorem ec.num{D:Except Nat (List Int×List Nat)}{C:Nat->Prop}[DecidablePred C]{g:Nat->List Nat->Except Nat (List Int×List Nat)}{lo hi:Nat}{b:List Nat}{f:Nat}(hC:∀ v,C v↔(v<lo∨hi<v))
  (h:ec D (aB num (fun k=>if C k then (fun _=>.error 40) else g k)) b f):ec D (g (dq lo hi (gt b).1)) (b.drop (gt b).2.1) (ez lo hi (gt b).1 (orf f (gt b).2.2)):=by
 obtain⟨h1,h2⟩:=h;unfold dq ez;by_cases hf:f=0
 ·subst hf
  have h3:=h1 rfl;rw[eV];unfold aB Go.Proofs.YtpljdjmpamjkhaaGreatDoor.num at h3;by_cases he:(gt b).2.2=0
  ·rw[jdf he]at h3
   simp only at h3;by_cases hc:(gt b).1<lo∨hi<(gt b).1
   ·rw[jdf ((hC _).2 hc)]at h3
    rw[jdf hc,jdf hc,he,eV];exact⟨fun e=>by omega,fun _=>h3⟩
   ·rw[jde (fun e=>hc ((hC _).1 e))]at h3
    rw[jde hc,jde hc,he];exact⟨fun _=>h3,fun e=>absurd rfl e⟩
  ·rw[jde he]at h3
   have h4:(if (gt b).1<lo∨hi<(gt b).1 then orf (gt b).2.2 40 else (gt b).2.2)=(gt b).2.2:=by
    split
    ·exact eB he _
    ·rfl
   rw[h4];exact⟨fun e=>absurd e he,fun _=>h3⟩
 ·have h4:(if (gt b).1<lo∨hi<(gt b).1 then orf (orf f (gt b).2.2) 40 else orf f (gt b).2.2)=f:=by
   rw[eB hf,eB hf];split<;>rfl
  rw[h4];exact⟨fun e=>absurd e hf,h2⟩
theorem ec.pkd{D:Except Nat (List Int×List Nat)}{n w:Nat}{g:List Nat->List Nat->Except Nat (List Int×List Nat)}{b:List Nat}{f:Nat}(h:ec D (aB (pkd n w) g) b f):ec D (g (pkL n w b)) (pkB n w b) (pkF n w b f):=by
 obtain⟨h1,h2⟩:=h;unfold pkL pkB pkF;by_cases hf:f=0
 ·subst hf
  have h3:=h1 rfl;rw[eV,eV];unfold aB Go.Proofs.YtpljdjmpamjkhaaGreatDoor.pkd at h3;by_cases hs:b.length<by8 (n*w)
  ·rw[jdf hs]at h3
   rw[jdf hs,jdf hs,jdf hs];exact⟨fun e=>by omega,fun _=>h3⟩
  ·rw[jde hs]at h3
   rw[jde hs,jde hs,jde hs];by_cases hm:by8 (n*w)<b.length
   ·rw[jdf hm]at h3
    rw[jde (by rw[jdN];omega),eB (by omega)];exact⟨fun e=>by omega,fun _=>h3⟩
   ·rw[jde hm]at h3
    have e1:b.take (by8 (n*w))=b:=jdZ (by omega);have e2:b.drop (by8 (n*w))=[]:=List.drop_of_length_le (by omega);rw[e1,e2,jdf (by rfl),eV];refine⟨fun e=>?_,fun e=>?_⟩
    ·rw[jdf e]at h3
     exact h3
    ·rw[jde e]at h3
     exact h3
 ·have h4:(if b.length<by8 (n*w) then orf f 30 else orf (orf f (if (b.drop (by8 (n*w))).length=0 then 0 else 32)) (unE (b.take (by8 (n*w))) n w))=f:=by
   rw[eB hf,eB hf,eB hf];split<;>rfl
  rw[h4];exact⟨fun e=>absurd e hf,h2⟩
theorem bO{α β γ : Type}(d:List Nat->Except Nat (α×List Nat))(f:α->List Nat->Except Nat (β×List Nat))(g:β->List Nat->Except Nat (γ×List Nat)):aB (aB d f) g=aB d (fun x=>aB (f x) g):=by
 funext b
 unfold aB;cases d b with
 | error e=>rfl
 | ok x=>rfl
theorem cH{α β : Type}(x:α)(f:α->List Nat->Except Nat (β×List Nat)):aB (fun r=>.ok (x,r)) f=f x:=by
 funext b
 rfl
def fin(c:Nat)(b0:List Nat)(l:List Int)(r:List Nat):Except Nat (List Int×List Nat):=if r.length=0 then (if ib c l=b0 then .ok (l,[]) else .error 40) else .error 32
theorem RJ(c:Nat)(b0:List Nat)(l:List Int){r:List Nat}(h:r.length≠0):fin c b0 l r=.error 32:=by unfold fin;rw[jde h]
theorem zw(c n:Nat)(b0:List Nat):aB (rdC c n) (fin c b0) b0=(match mS c n b0 with | .ok l=>.ok (l,[]) | .error e=>.error e):=by
 unfold aB mS;cases rdC c n b0 with
 | error e=>rfl
 | ok x =>
  obtain⟨l,r⟩:=x;simp only[fin];split
  ·split<;>rfl
  ·rfl
theorem StC.set_other{T:Nat}{W:World}{p:Nat}{b:List Nat}{f:Nat}(h:StC T W p b f){g:Nat}(hg:p<g)(i:Nat)(v:Value):StC T (W.setCell ⟨g,i,none⟩ v) p b f :=
 h.kept ((jdg (p+1) W).setCell (p:=⟨g,i,none⟩) hg v) (Nat.lt_succ_self p)
theorem bv.fr{p:Nat}{w w':World}{B:Nat}{v:Value}{l:List Int}(h:bv w B v l)(hf:Fr p w.heap.size w w')(hp:p<B):bv w' B v l:=hf.own h hp
theorem bv.low{W:World}{B B':Nat}{v:Value}{l:List Int}(h:bv W B' v l)(hb:B<=B'):bv W B v l:=by
 obtain⟨h1,h2⟩:=h;refine⟨h1,?_⟩;rcases h2 with h | ⟨g,cap,cur,e1,e2,e3⟩
 ·exact Or.inl h
 ·exact Or.inr ⟨g,cap,cur,e1,jdq hb e2,e3⟩
theorem zx:(Tryz.prog.info? 2).map (fun i=>(i.zero,i.size,i.bytes))=some (some (.int .i64 0),1,8):=by kernel_rfl
theorem aX{w:World}{ops:Array Oper}{rest:List Oper}{o:Oper}{a:Act}{Q:Exit->Act->World->Prop}(eg:o.guard=none)(s x:Operand)
  (ho:o.op=.call { callee:=.builtin .append,args:=#[s,x],argTypes:=#[143,143] })
  (base:Nat) (v:Value) (g:Nat) (z:Int) (l0:List Int) (hs:a.eval s=v) (aA:bv w base v l0) (hx:a.eval x=.slice (some ⟨g,0,none⟩) 1 1) (hc:w.cell? ⟨g,0,none⟩=some (.int .i64 z))
  (hbytes:l0.length<=100000) (aI:base<=w.heap.size)
  (h:∀ v' w',bv w' base v' (l0++[z])->Below base w w'->wpList Tryz.prog ops Q rest (a.put o.dst v') w') :
  wpList Tryz.prog ops Q (o::rest) a w:=by
 obtain⟨i0,hi,cm,hz1',bn⟩:=jdA zx;unfold bv at *
 refine jdU (w:=w) eg s x 143 ho base 2 i0 (.int .i64 0) 1 8 Tryz.underlying143 hi cm hz1' bn rfl (by decide) v l0.length (aK l0) hs aA ⟨g,0,none⟩ 1 1 [.int .i64 z] hx rfl ?_ (fun u hu=>by
  have:u=.int .i64 z:=by simpa using hu
  subst this;rfl) (by unfold maxLen;omega) (by omega) aI ?_
 ·intro j u hu
  rw[mq];cases j with
  | zero =>
   simp only[List.getElem?_cons_zero,Option.some.injEq]at hu;rw[← hu];exact hc
  | succ j=>simp at hu
 ·intro v' w' o1 g1 _ _
  refine h v' w' ?_ ((jdg base w).grown g1 aI (fun k hk=>(aA.lt k hk).1));rw[qR,jdj];exact o1
theorem jE{w:World}{ops:Array Oper}{rest:List Oper}{o:Oper}{a:Act}{Q:Exit->Act->World->Prop}(eg:o.guard=none)(s x:Operand)
  (ho:o.op=.call { callee:=.builtin .append,args:=#[s,x],argTypes:=#[142,142] })
  (base:Nat) (v:Value) (g:Nat) (z:Nat) (l0:List Nat) (hs:a.eval s=v) (aA:dD w base v l0) (hx:a.eval x=.slice (some ⟨g,0,none⟩) 1 1) (hc:w.cell? ⟨g,0,none⟩=some (.int .u64 (z:Int)))
  (hbytes:l0.length<=100000) (aI:base<=w.heap.size)
  (h:∀ v' w',dD w' base v' (l0++[z])->Below base w w'->wpList Tryz.prog ops Q rest (a.put o.dst v') w') :
  wpList Tryz.prog ops Q (o::rest) a w:=by
 obtain⟨i0,hi,cm,hz1',bn⟩:=jdA pL;unfold dD at *
 refine jdU (w:=w) eg s x 142 ho base 92 i0 (.int .u64 0) 1 8 Tryz.underlying142 hi cm hz1' bn rfl (by decide) v l0.length (aF .u64 l0) hs aA ⟨g,0,none⟩ 1 1 [.int .u64 (z:Int)] hx rfl ?_ (fun u hu=>by
  have:u=.int .u64 (z:Int):=by simpa using hu
  subst this;rfl) (by unfold maxLen;omega) (by omega) aI ?_
 ·intro j u hu
  rw[mq];cases j with
  | zero =>
   simp only[List.getElem?_cons_zero,Option.some.injEq]at hu;rw[← hu];exact hc
  | succ j=>simp at hu
 ·intro v' w' o1 g1 _ _
  refine h v' w' ?_ ((jdg base w).grown g1 aI (fun k hk=>(aA.lt k hk).1));rw[cd,jdj];exact o1
def zy(D:Except Nat (List Int×List Nat))(G:List Int->List Nat->Except Nat (List Int×List Nat))(p n:Nat)(w:World)(r:Ending)(w':World):Prop :=
 ∃(l:List Int) (b':List Nat) (f':Nat),(∃ v,r=.returned v/\bv w' w.heap.size v l)/\Is l/\l.length<=n/\StC 333 w' p b' f'/\ec D (G l) b' f'/\Fr p w.heap.size w w'
theorem RK(G:List Int->List Nat->Except Nat (List Int×List Nat))(ys:List Int)(m:Nat):aB (rd0 (m+1)) (fun l=>G (ys++l))=aB wh (fun x=>aB (rd0 m) (fun l=>G ((ys++[x])++l))):=by
 have:rd0 (m+1)=aB wh (fun x=>aB (rd0 m) (fun l r=>.ok (x::l,r))):=by funext b;rfl
 rw[this,bO];congr 1
 funext x
 rw[bO];congr 1
 funext l
 rw[cH];simp
theorem Wt(G:List Int->List Nat->Except Nat (List Int×List Nat))(ys:List Int):aB (rd0 0) (fun l=>G (ys++l))=G ys:=by
 have:rd0 0=fun b=>.ok ([],b):=by funext b;rfl
 rw[this,cH,jdB]
theorem RM(G:List Int->List Nat->Except Nat (List Int×List Nat))(ys:List Int)(m:Nat)(last:Int):aB (rd1 (m+1) last) (fun l=>G (ys++l))=aB wh (fun x=>aB (rd1 m (w64 (last+x))) (fun l=>G ((ys++[w64 (last+x)])++l))):=by
 have:rd1 (m+1) last=aB wh (fun d=>aB (rd1 m (w64 (last+d))) (fun l r=>.ok (w64 (last+d)::l,r))):=by funext b;rfl
 rw[this,bO];congr 1
 funext x
 rw[bO];congr 1
 funext l
 rw[cH];simp
theorem Wu(G:List Int->List Nat->Except Nat (List Int×List Nat))(ys:List Int)(last:Int):aB (rd1 0 last) (fun l=>G (ys++l))=G ys:=by
 have:rd1 0 last=fun b=>.ok ([],b):=by funext b;rfl
 rw[this,cH,jdB]
def nI(ys:List Int)(n:Nat):List Int:=ys++List.replicate (n-ys.length) 0
theorem DE{ys:List Int}{n:Nat}(h:ys.length<n)(z:Int):(nI ys n).set ys.length z=nI (ys++[z]) n:=by
 unfold nI;obtain⟨m,hm⟩:∃ m,n-ys.length=m+1:=⟨n-ys.length-1,by omega⟩;rw[hm,jdj,jdS,show n-(ys.length+1)=m by omega,List.replicate_succ];simp
theorem tN{ys:List Int}{n:Nat}(h:ys.length<=n):(nI ys n).length=n:=by unfold nI;simp;omega
theorem zz{ys:List Int}{n:Nat}(h:ys.length=n):nI ys n=ys:=by unfold nI;simp[h]
theorem wK(n:Nat):(madeCells #[Value.int .i64 0] n).toList=aK (nI [] n):=by
 rw[jeK];simp[aK,nI]
theorem Is.snoc{ys:List Int}{x:Int}(h:Is ys)(hx:I64 x):Is (ys++[x]):=fun y hy=>by
 rcases jdO.1 hy with hy | hy
 ·exact h y hy
 ·have:y=x:=by simpa using hy
  subst this;exact hx
theorem RN{D:Except Nat (List Int×List Nat)}{G:List Int->List Nat->Except Nat (List Int×List Nat)}{w:World}{p n f:Nat}{b:List Nat}(h:StC 333 w p b f)(hn:n<=256)(hg:ec D (aB (rd0 n) G) b f) :
  Calls Tryz.prog 314 #[.pointer (some ⟨p,0,none⟩),.int .i64 (n:Int)] w (zy D G p n w):=by
 obtain⟨i0,hi,cm,hz1',bn⟩:=jdA zx;have HS:=ae h;have HG:=ae hg;have aC:=h.lt;clear h hg;go_enter Tryz.func314,Tryz.ntmps314
 go_wp2_with (first | (refine jek _ rfl _ _ 143 rfl w.heap.size 2 i0 (.int .i64 0) 1 Tryz.underlying143 hi cm hz1' .i64 .i64 _ _ n rfl rfl ?m1 ?m2 ?m3 ?m4 ?m5 ?_))
 case m1=>rfl
 case m2=>rfl
 case m3=>rw[bn];omega
 case m4=>unfold maxLen;omega
 case m5=>omega
 intro w4 gF iN;have bw:Below w.heap.size w w4:=(jdg _ _).grown iN (jdh _) (fun k hk=>by cases hk)
 have ho4':w4.ownsRow w.heap.size 2 1 (.slice (some ⟨w.heap.size,0,none⟩) n n) n (aK (nI [] n)):=by
  rw[← wK];simpa using gF
 have eR:=ae ho4';have ce:=ae bw;clear gF iN bw ho4';go_wp2_with fail;go_loopw [11] (fun i wr=>∃(ys:List Int) (b':List Nat) (f':Nat),i=.int .i64 (ys.length:Int)/\ys.length<=n/\Is ys/\wr.ownsRow w.heap.size 2 1 (.slice (some ⟨w.heap.size,0,none⟩) n n) n (aK (nI ys n))/\StC 333 wr p b' f'/\ec D (aB (rd0 (n-ys.length)) (fun l=>G (ys++l))) b' f'/\Fr p w.heap.size w wr) (fun i _=>n-(intOf i).toNat)
 case atStart=>exact⟨[],b,f,rfl,by simp,fun x hx=>by simp at hx,eR.o,HS.o.kept ce.o aC,HG.o,Fr.of_below ce.o⟩
 case round =>
  obtain⟨ys,b',f',rfl,hk,yB,how,iM,xV,lC⟩:=hrel;have Km:=ae yB;have HO:=ae how;have cT:=ae iM;have se:=ae xV;have np:=ae lC;have bP:=lC.size;clear yB how iM xV lC;by_cases jJ:ys.length<n
  ·obtain⟨m,hm⟩:∃ m,n-ys.length=m+1:=⟨n-ys.length-1,by omega⟩
   have eZ:=se.o;rw[hm,RK]at eZ;have Cc:=ae eZ.wh;have HX:=ae (jW (fS b').1);have HW:=ae (lT cT.o);have HM:=ae hm;clear eZ hm se;generalize fD (gt b').1=x at *;go_wp2_with fail;refine HW.o.mono ?_;rintro e w5 ⟨rfl,nW,jz⟩;have fV:=jz.own HO.o aC;have uN:=ae (np.o.trans (jz.mono bP));have jT:ys.length<(nI ys n).length:=by rw[tN (by omega)];exact jJ
   have Fz:=(fV.cellAt ys.length (by omega)).trans (oH jT);have FA:=fV.frozenAt ys.length;have hST:=fV.stored ys.length (.int .i64 x);rw[zj,DE jJ]at hST;have Un:=ae hST;have Pq:=(fV.lt w.heap.size rfl).2;have sd:=ae (nW.set_other (g:=w.heap.size) aC ys.length (.int .i64 x));have vk:=uN.o.size;clear hST nW jz fV;generalize (nI ys n)[ys.length]=y at *;go_wp2_with fail;go_roundw
   case rel =>
    refine⟨ys++[x],_,_,?_,?_,Km.o.snoc HX.o,Un.o.1,sd.o,?_,?_⟩
    ·simp
    ·simp;omega
    ·have e:n-(ys++[x]).length=m:=by have:=HM.o;simp;omega
     rw[e];exact Cc.o
    ·exact uN.o.then ((jdg _ _).setCell (p:=⟨w.heap.size,ys.length,none⟩) (jdh _) _)
   case measure=>simp[intOf];omega
  ·have yx:ys.length=n:=by omega
   have eZ:=se.o;rw[show n-ys.length=0 by omega,Wt]at eZ;have Cc:=ae eZ
   have HO':jfb (bv wr w.heap.size (.slice (some ⟨w.heap.size,0,none⟩) n n) ys):=ae (by
    have:=HO.o;rw[zz yx]at this;unfold bv;rw[yx];exact this)
   clear eZ se yx;go_wp2_with fail;go_ret
   exact⟨ys,b',f',⟨_,rfl,HO'.o⟩,Km.o,by omega,cT.o,Cc.o,np.o⟩
theorem ML{D:Except Nat (List Int×List Nat)}{G:List Int->List Nat->Except Nat (List Int×List Nat)}{w:World}{p n f:Nat}{b:List Nat}(h:StC 333 w p b f)(hn:n<=256)(hg:ec D (aB (rd1 n 0) G) b f) :
  Calls Tryz.prog 315 #[.pointer (some ⟨p,0,none⟩),.int .i64 (n:Int)] w (zy D G p n w):=by
 obtain⟨i0,hi,cm,hz1',bn⟩:=jdA zx;have HS:=ae h;have HG:=ae hg;have aC:=h.lt;clear h hg;go_enter Tryz.func315,Tryz.ntmps315
 go_wp2_with (first | (refine jek _ rfl _ _ 143 rfl w.heap.size 2 i0 (.int .i64 0) 1 Tryz.underlying143 hi cm hz1' .i64 .i64 _ _ n rfl rfl ?m1 ?m2 ?m3 ?m4 ?m5 ?_))
 case m1=>rfl
 case m2=>rfl
 case m3=>rw[bn];omega
 case m4=>unfold maxLen;omega
 case m5=>omega
 intro w4 gF iN;have bw:Below w.heap.size w w4:=(jdg _ _).grown iN (jdh _) (fun k hk=>by cases hk)
 have ho4':w4.ownsRow w.heap.size 2 1 (.slice (some ⟨w.heap.size,0,none⟩) n n) n (aK (nI [] n)):=by
  rw[← wK];simpa using gF
 have eR:=ae ho4';have ce:=ae bw;clear gF iN bw ho4';go_wp2_with fail;go_loopw [6,12] (fun ah i wr=>∃(last:Int) (ys:List Int) (b':List Nat) (f':Nat),ah=.int .i64 last/\I64 last/\i=.int .i64 (ys.length:Int)/\ys.length<=n/\Is ys/\wr.ownsRow w.heap.size 2 1 (.slice (some ⟨w.heap.size,0,none⟩) n n) n (aK (nI ys n))/\StC 333 wr p b' f'/\ec D (aB (rd1 (n-ys.length) last) (fun l=>G (ys++l))) b' f'/\Fr p w.heap.size w wr) (fun _ i _=>n-(intOf i).toNat)
 case atStart=>exact⟨0,[],b,f,rfl,by unfold I64;omega,rfl,by simp,fun x hx=>by simp at hx,eR.o,HS.o.kept ce.o aC,HG.o,Fr.of_below ce.o⟩
 case round =>
  obtain⟨last,ys,b',f',rfl,uq,rfl,hk,yB,how,iM,xV,lC⟩:=hrel;have Km:=ae yB;have HO:=ae how;have cT:=ae iM;have se:=ae xV;have np:=ae lC;have bP:=lC.size;clear yB how iM xV lC;by_cases jJ:ys.length<n
  ·obtain⟨m,hm⟩:∃ m,n-ys.length=m+1:=⟨n-ys.length-1,by omega⟩
   have eZ:=se.o;rw[hm,RM]at eZ;have Cc:=ae eZ.wh;have HX:=ae (jg (last+fD (gt b').1));have Kj:=qW (last+fD (gt b').1);have HW:=ae (lT cT.o);have HM:=ae hm;clear eZ hm se;generalize fD (gt b').1=x0 at *;generalize w64 (last+x0)=x at *;go_wp2_with fail;refine HW.o.mono ?_;rintro e w5 ⟨rfl,nW,jz⟩;have fV:=jz.own HO.o aC;have uN:=ae (np.o.trans (jz.mono bP));have jT:ys.length<(nI ys n).length:=by rw[tN (by omega)];exact jJ
   have Fz:=(fV.cellAt ys.length (by omega)).trans (oH jT);have FA:=fV.frozenAt ys.length;have hST:=fV.stored ys.length (.int .i64 x);rw[zj,DE jJ]at hST;have Un:=ae hST;have Pq:=(fV.lt w.heap.size rfl).2;have sd:=ae (nW.set_other (g:=w.heap.size) aC ys.length (.int .i64 x));have vk:=uN.o.size;clear hST nW jz fV;generalize (nI ys n)[ys.length]=y at *;go_wp2_with fail;go_roundw
   case rel =>
    refine⟨x,ys++[x],_,_,rfl,HX.o,?_,?_,Km.o.snoc HX.o,Un.o.1,sd.o,?_,?_⟩
    ·simp
    ·simp;omega
    ·have e:n-(ys++[x]).length=m:=by have:=HM.o;simp;omega
     rw[e];exact Cc.o
    ·exact uN.o.then ((jdg _ _).setCell (p:=⟨w.heap.size,ys.length,none⟩) (jdh _) _)
   case measure=>simp[intOf];omega
  ·have yx:ys.length=n:=by omega
   have eZ:=se.o;rw[show n-ys.length=0 by omega,Wu]at eZ;have Cc:=ae eZ
   have HO':jfb (bv wr w.heap.size (.slice (some ⟨w.heap.size,0,none⟩) n n) ys):=ae (by
    have:=HO.o;rw[zz yx]at this;unfold bv;rw[yx];exact this)
   clear eZ se yx;go_wp2_with fail;go_ret
   exact⟨ys,b',f',⟨_,rfl,HO'.o⟩,Km.o,by omega,cT.o,Cc.o,np.o⟩
theorem ec.any{D:Except Nat (List Int×List Nat)}{K K':List Nat->Except Nat (List Int×List Nat)}{b:List Nat}{f:Nat}(h:ec D K b f)(hf:f≠0):ec D K' b f:=⟨fun e=>absurd e hf,h.2⟩
theorem tO{lo hi v f:Nat}(h:v<lo∨hi<v):ez lo hi v f≠0:=by
 unfold ez orf;rw[jdf h];split<;>omega
theorem RO(G:List Int->List Nat->Except Nat (List Int×List Nat))(ys:List Int)(fu m:Nat)(hm:m≠0):aB (rd2 (fu+1) m) (fun l=>G (ys++l)) =
  aB wh (fun x=>aB num (fun k=>if k=0∨m<k then (fun _=>.error 40) else aB (rd2 fu (m-k)) (fun l=>G ((ys++List.replicate k x)++l)))):=by
 have:rd2 (fu+1) m=aB wh (fun x=>aB num (fun k=>if k=0∨m<k then (fun _=>.error 40) else aB (rd2 fu (m-k)) (fun l r=>.ok (List.replicate k x++l,r)))):=by
  funext b
  rw[rd2,jde hm]
 rw[this,bO];congr 1
 funext x
 rw[bO];congr 1
 funext k
 split
 ·rfl
 ·rw[bO]
  congr 1
  funext l
  rw[cH];simp
theorem Wv(G:List Int->List Nat->Except Nat (List Int×List Nat))(ys:List Int)(fu:Nat):aB (rd2 fu 0) (fun l=>G (ys++l))=G ys:=by
 have:rd2 fu 0=fun b=>.ok ([],b):=by funext b;exact CZ fu b
 rw[this,cH,jdB]
def YH:Value->Nat
 | .slice _ n _=>n
 | _=>0
def DF(p:Nat)(W:World):Nat :=
 match W.cell? ⟨p,1,none⟩ with
 | some (.int _ n)=>if n=0 then 1 else 0
 | _=>0
theorem MM{T:Nat}{W:World}{p:Nat}{b:List Nat}{f:Nat}(h:StC T W p b f)(hf:f=0):DF p W=1:=by
 obtain⟨_,_,_,_,h1,_⟩:=h.cells;unfold DF;rw[h1,hf];rfl
theorem RQ{T:Nat}{W:World}{p:Nat}{b:List Nat}{f:Nat}(h:StC T W p b f)(hf:f≠0):DF p W=0:=by
 obtain⟨_,_,_,_,h1,_⟩:=h.cells;unfold DF;rw[h1];simp only;rw[jde (by omega)]
theorem Ww(p:Nat)(W:World):DF p W<=1:=by
 unfold DF;split
 ·split<;>omega
 ·omega
theorem RS{D:Except Nat (List Int×List Nat)}{G:List Int->List Nat->Except Nat (List Int×List Nat)}{w:World}{p n f:Nat}{b:List Nat}(h:StC 333 w p b f)(hn:n<=256)(hg:ec D (aB (rd2 n n) G) b f) :
  Calls Tryz.prog 316 #[.pointer (some ⟨p,0,none⟩),.int .i64 (n:Int)] w (zy D G p n w):=by
 have HS:=ae h;have HG:=ae hg;have aC:=h.lt;clear h hg;go_enter Tryz.func316,Tryz.ntmps316
 go_wp2_with fail;go_loopw [5] (fun v wr=>∃(fu:Nat) (ys:List Int) (b':List Nat) (f':Nat),ys.length<=n/\Is ys/\bv wr w.heap.size v ys/\StC 333 wr p b' f'/\(f'=0->n-ys.length<=fu)/\ec D (aB (rd2 fu (n-ys.length)) (fun l=>G (ys++l))) b' f'/\Fr p w.heap.size w wr) (fun v wr=>2*(n-YH v)+DF p wr)
 case atStart=>exact⟨n,[],b,f,by simp,fun x hx=>by simp at hx,bv.nil _ _,HS.o,fun _=>by simp,HG.o,Fr.refl _ _ _⟩
 case round =>
  obtain⟨fu,ys,b',f',hk,yB,how,iM,hfu,xV,lC⟩:=hrel;have Km:=ae yB;have HO:=ae how;have cT:=ae iM;have se:=ae xV;have np:=ae lC;have HFU:=ae hfu;have bP:=lC.size;obtain⟨av,cv,rfl⟩:=how.len;obtain⟨g,off,cap,c0,c1,c2,c3,c4,c5,c6,c7,c8,c9⟩:=iM.cells;clear yB how iM xV lC hfu c0 c2 c3 c4 c5 c6 c7 c8 c9;by_cases jJ:(ys.length:Int)<(n:Int)
  ·by_cases vC:((f':Int)==0)=true
   ·have hf0':f'=0:=by simpa using vC
    have hm:n-ys.length≠0:=(by omega);have hfu2:=HFU.o hf0';obtain⟨fu',rfl⟩:∃ q,fu=q+1:=⟨fu-1,by omega⟩;have eZ:=se.o;rw[RO _ _ _ _ hm]at eZ;have hgo3:=eZ.wh;have HX:=ae (jW (fS b').1);have HW:=ae (lT cT.o);have VA:=ae (MM cT.o hf0');clear eZ se;generalize fD (gt b').1=x at *;generalize b'.drop (gt b').2.1=b1 at *;generalize orf f' (gt b').2.2=f1 at *;have Ut:=ec.num (lo:=1) (hi:=n-ys.length) (fun v=>by constructor<;>(intro h;omega)) hgo3;obtain⟨g1,g2,g3,g4⟩:=fS b1;have hsub:(n:Int)-(ys.length:Int)=((n-ys.length:Nat):Int):=(by omega)
    have FC:dq 1 (n-ys.length) (gt b1).1=0->ez 1 (n-ys.length) (gt b1).1 (orf f1 (gt b1).2.2)≠0:=by
     intro h0;unfold dq at h0;split at h0
     ·next hb=>exact tO hb
     ·next hb=>omega
    have jbb:dq 1 (n-ys.length) (gt b1).1<=n-ys.length:=by
     unfold dq;split<;>omega
    have Kn:jfb (∀ W,StC 333 W p b1 f1->Calls Tryz.prog 321 #[.pointer (some ⟨p,0,none⟩),.int .u64 (1:Int),.int .u64 ((n-ys.length:Nat):Int)] W fun r w'=>r=.returned (.int .u64 (dq 1 (n-ys.length) (gt b1).1:Int))/\StC 333 w' p (b1.drop (gt b1).2.1) (ez 1 (n-ys.length) (gt b1).1 (orf f1 (gt b1).2.2))/\Fr p W.heap.size W w'):=fun W h=>kW h 1 (n-ys.length) (by omega) (by omega)
    have XO:=ae Ut;have tv:=ae FC;clear hgo3 Ut g1 g2 g3 g4 FC HFU;generalize dq 1 (n-ys.length) (gt b1).1=k at *;generalize ez 1 (n-ys.length) (gt b1).1 (orf f1 (gt b1).2.2)=f2 at *;generalize b1.drop (gt b1).2.1=b2 at *;clear hf0';go_wp2_with fail;refine HW.o.mono ?_;rintro e w5 ⟨rfl,nW,jz⟩;have sd:=ae nW;have dJ:=ae (HO.o.fr jz aC);have uN:=ae (np.o.trans (jz.mono bP));have vk:=uN.o.size;clear nW jz c1;go_wp2_with fail;refine(Kn.o _ sd.o).mono ?_;rintro e w6 ⟨rfl,yC,Qg⟩;have HS6:=ae yC;have ng:=ae (dJ.o.fr Qg aC);have HFR6:=ae (uN.o.trans (Qg.mono vk));have FB:=HFR6.o.size;clear yC Qg;go_wp2_with fail;go_loopw [5,29] (fun v j wq=>∃ i:Nat,i<=k/\j=.int .u64 (i:Int)/\bv wq w.heap.size v (ys++List.replicate i x)/\StC 333 wq p b2 f2/\Fr p w.heap.size w wq) (fun _ j _=>k-(intOf j).toNat)
    case atStart=>exact⟨0,by omega,rfl,by simpa using ng.o,HS6.o,HFR6.o⟩
    case round =>
     obtain⟨i,hik,rfl,hoq,hsq,hfq⟩:=hrel;have HOQ:=ae hoq;have HSQ:=ae hsq;have HFQ:=ae hfq;have yD:=hfq.size;obtain⟨aq,cq,rfl⟩:=hoq.len;clear hoq hsq hfq;by_cases Pw:(i:Int)<(k:Int)
     ·have nm:=ae (HOQ.o.kept ((jdg _ _).alloc (jdh _) (.cells #[.int .i64 x] 2)))
      have lA:=ae (HSQ.o.kept ((jdg _ _).alloc (jdh _) (.cells #[.int .i64 x] 2)) HSQ.o.lt);have Ko:=ae (HFQ.o.then ((jdg w.heap.size _).alloc yD (.cells #[.int .i64 x] 2)));have bR:(ys++List.replicate i x).length<=256:=by simp;omega
      go_wp2_with (first | (at_builtin;refine aX rfl _ _ rfl w.heap.size _ _ x (ys++List.replicate i x) rfl nm.o rfl ?c1 ?c2 ?c3 ?_))
      case c1=>exact aL _ _ _
      case c2=>omega
      case c3=>rw[jdi];omega
      intro v7 w7 o7 b7;have e7:ys++(List.replicate i x++[x])=ys++List.replicate (i+1) x:=by rw[List.replicate_succ']
      rw[e7]at o7;have iy:=ae o7;have Qh:=ae (lA.o.kept b7 aC);have YZ:=ae (Ko.o.then b7);clear o7 b7 e7;go_wp2_with fail;go_roundw
      case rel=>exact⟨i+1,by omega,by go_num,iy.o,Qh.o,YZ.o⟩
      case measure=>simp[intOf];omega
     ·obtain rfl:i=k:=by omega
      have HNEW:jfb (∃ fu2,(f2=0->n-(ys++List.replicate i x).length<=fu2)/\ec D (aB (rd2 fu2 (n-(ys++List.replicate i x).length)) (fun l=>G ((ys++List.replicate i x)++l))) b2 f2):=ae (by
       have nV:n-(ys++List.replicate i x).length=n-ys.length-i:=by simp;omega
       rw[nV];by_cases dO:f2=0
       ·have hi0:i≠0:=fun e=>tv.o e dO
        exact⟨fu',fun _=>by omega,XO.o⟩
       ·exact⟨0,fun e=>absurd e dO,XO.o.any dO⟩)
      have HME:jfb (2*(n-(ys++List.replicate i x).length)+DF p wr<2*(n-ys.length)+1):=ae (by
       have nV:(ys++List.replicate i x).length=ys.length+i:=by simp
       rw[nV];by_cases dO:f2=0
       ·have hi0:i≠0:=fun e=>tv.o e dO
        have:=Ww p wr;omega
       ·rw[RQ HSQ.o dO]
        omega)
      have HISN:jfb (Is (ys++List.replicate i x)):=fun y hy=>by
       rcases jdO.1 hy with hy | hy
       ·exact Km.o y hy
       ·rw[je1 hy]
        exact HX.o
      have uJ:jfb ((ys++List.replicate i x).length<=n):=ae (by simp;omega);go_wp2_with fail;go_roundw
      case rel =>
       obtain⟨fu2,h1,h2⟩:=HNEW.o;exact⟨fu2,_,_,_,uJ.o,HISN.o,HOQ.o,HSQ.o,h1,h2,HFQ.o⟩
      case measure =>
       have h1:=HME.o;have h2:=VA.o;simp only[YH];rw[h2];exact h1
   ·have hff:((f':Int)==0)=false:=by simpa using vC
    have fQ:f'≠0:=fun e=>vC (by simp[e])
    have XP:=ae (se.o.any (K':=G ys) fQ);clear vC fQ;go_wp2_with fail;go_ret
    exact⟨ys,b',f',⟨_,rfl,HO.o⟩,Km.o,hk,cT.o,XP.o,np.o⟩
  ·have eZ:=se.o
   rw[show n-ys.length=0 by omega,Wv]at eZ;have XP:=ae eZ;clear eZ;go_wp2_with fail;go_ret
   exact⟨ys,b',f',⟨_,rfl,HO.o⟩,Km.o,hk,cT.o,XP.o,np.o⟩
theorem RT(G:List Int->List Nat->Except Nat (List Int×List Nat))(us:List Int)(q:Nat)(last:Int):aB (rdU (q+1) last) (fun u=>G (us++u)) =
  aB num (fun(d:Nat)=>if d=0∨9223372036854775807-last<(d:Int) then (fun _=>.error 40) else aB (rdU q (last+d)) (fun u=>G ((us++[last+d])++u))):=by
 have:rdU (q+1) last=aB num (fun(d:Nat)=>if d=0∨9223372036854775807-last<(d:Int) then (fun _=>.error 40) else aB (rdU q (last+d)) (fun l r=>.ok ((last+d)::l,r))):=by
  funext b
  rw[rdU]
 rw[this,bO];congr 1
 funext d
 split
 ·rfl
 ·rw[bO]
  congr 1
  funext l
  rw[cH];simp
theorem Wx(G:List Int->List Nat->Except Nat (List Int×List Nat))(us:List Int)(last:Int):aB (rdU 0 last) (fun u=>G (us++u))=G us:=by
 have:rdU 0 last=fun b=>.ok ([],b):=by funext b;rfl
 rw[this,cH,jdB]
def kq(G:List Int->List Nat->Except Nat (List Int×List Nat))(m:Nat)(us:List Int)(last:Int):List Nat->Except Nat (List Int×List Nat) :=
 if us.length=0 then (if m=0 then G [] else aB wh (fun x=>aB (rdU (m-1) x) (fun u=>G (x::u)))) else aB (rdU (m-us.length) last) (fun u=>G (us++u))
theorem MN(G:List Int->List Nat->Except Nat (List Int×List Nat))(us:List Int)(last:Int):kq G us.length us last=G us:=by
 unfold kq;by_cases h:us.length=0
 ·rw[jdf h,jdf h,jdF h]
 ·rw[jde h,jeH,Wx]
theorem DG(G:List Int->List Nat->Except Nat (List Int×List Nat)){m:Nat}(hm:0<m)(last:Int):kq G m [] last=aB wh (fun x=>kq G m [x] x):=by
 unfold kq;rw[jdf (show ([]:List Int).length=0 from rfl),jde (by omega)];congr 1
theorem GS(G:List Int->List Nat->Except Nat (List Int×List Nat)){m:Nat}{us:List Int}(h0:0<us.length)(hm:us.length<m)(last:Int):kq G m us last =
  aB num (fun(d:Nat)=>if d=0∨9223372036854775807-last<(d:Int) then (fun _=>.error 40) else kq G m (us++[last+d]) (last+d)):=by
 unfold kq;obtain⟨q,hq⟩:∃ q,m-us.length=q+1:=⟨m-us.length-1,by omega⟩;rw[jde (by omega),hq,RT];congr 1
 funext d
 rw[jde (show ¬ (us++[last+(d:Int)]).length=0 by simp),show m-(us++[last+(d:Int)]).length=q by simp;omega]
theorem GT{D:Except Nat (List Int×List Nat)}{G:List Int->List Nat->Except Nat (List Int×List Nat)}{w:World}{p m f:Nat}{b:List Nat}(h:StC 333 w p b f)(hm:m<=256)(hg:ec D (kq G m [] 0) b f) :
  Calls Tryz.prog 322 #[.pointer (some ⟨p,0,none⟩),.int .i64 (m:Int)] w fun r w'=>∃(l:List Int) (b':List Nat) (f':Nat),(∃ v,r=.returned v/\bv w' w.heap.size v l)/\Is l/\l.length=m/\StC 333 w' p b' f'/\ec D (G l) b' f'/\Fr p w.heap.size w w':=by
 have HS:=ae h;have HG:=ae hg;have aC:=h.lt;clear h hg;go_enter Tryz.func322,Tryz.ntmps322
 go_wp2_with fail;go_loopw [5,6,9] (fun v la i wr=>∃(us:List Int) (last:Int) (b':List Nat) (f':Nat),i=.int .i64 (us.length:Int)/\la=.int .i64 last/\us.length<=m/\Is us/\I64 last/\bv wr w.heap.size v us/\StC 333 wr p b' f'/\ec D (kq G m us last) b' f'/\Fr p w.heap.size w wr) (fun _ _ i _=>m-(intOf i).toNat)
 case atStart=>exact⟨[],0,b,f,rfl,rfl,by simp,fun x hx=>by simp at hx,by unfold I64;omega,bv.nil _ _,HS.o,HG.o,Fr.refl _ _ _⟩
 case round =>
  obtain⟨us,last,b',f',rfl,rfl,hk,hus,Po,how,iM,xV,lC⟩:=hrel;have HUS:=ae hus;have HO:=ae how;have cT:=ae iM;have se:=ae xV;have np:=ae lC;have Qi:=ae Po;have bP:=lC.size;obtain⟨av,cv,rfl⟩:=how.len;clear hus how iM xV lC Po;by_cases jJ:us.length<m
  ·have mO:(us.length:Int)<(m:Int):=by omega
   by_cases hz:us.length=0
   ·obtain rfl:us=[]:=jdF hz
    have eZ:=se.o;rw[DG G (by omega)]at eZ;have Cc:=ae eZ.wh;have HX:=ae (jW (fS b').1);have HW:=ae (lT cT.o);clear eZ se hz jJ;generalize fD (gt b').1=x at *;generalize b'.drop (gt b').2.1=b1 at *;generalize orf f' (gt b').2.2=f1 at *;rw[jdI]at *;go_wp2_with fail;refine HW.o.mono ?_;rintro e w5 ⟨rfl,nW,jz⟩;have vk:=jz.size;have dJ:=ae ((HO.o.fr jz aC).kept ((jdg _ _).alloc (jdh _) (.cells #[.int .i64 x] 2)));have sd:=ae (nW.kept ((jdg _ _).alloc (jdh _) (.cells #[.int .i64 x] 2)) nW.lt);have uN:=ae ((np.o.trans (jz.mono bP)).then ((jdg w.heap.size _).alloc (by omega) (.cells #[.int .i64 x] 2)));clear nW jz;go_wp2_with (first | (at_builtin;refine aX rfl _ _ rfl w.heap.size _ _ x [] rfl dJ.o rfl ?c1 ?c2 ?c3 ?_))
    case c1=>exact aL _ _ _
    case c2=>simp
    case c3=>rw[jdi];omega
    intro v7 w7 o7 b7;have iy:=ae o7;have Qh:=ae (sd.o.kept b7 aC);have YZ:=ae (uN.o.then b7);clear o7 b7;go_wp2_with fail;go_roundw
    case rel=>exact⟨[x],x,_,_,rfl,rfl,by simp;omega,fun y hy=>by rw[jd5.1 hy];exact HX.o,HX.o,iy.o,Qh.o,Cc.o,YZ.o⟩
    case measure=>simp[intOf];omega
   ·have cm:((us.length:Int)==0)=false:=jdt.2 (by omega)
    have eZ:=se.o;rw[GS G (by omega) jJ]at eZ;have Za:=Qi.o.1;have BZ:=Qi.o.2;have Ut:=ec.num (lo:=1) (hi:=(9223372036854775807-last).toNat) (fun v=>by constructor<;>(intro h;omega)) eZ;have HD:=ae (fun W=>nF (a:=last) (b:=9223372036854775807) Qi.o (by unfold I64;omega) BZ W);have Kn:jfb (∀ W,StC 333 W p b' f'->Calls Tryz.prog 321 #[.pointer (some ⟨p,0,none⟩),.int .u64 (1:Int),.int .u64 ((9223372036854775807-last).toNat:Int)] W fun r w'=>r=.returned (.int .u64 (dq 1 (9223372036854775807-last).toNat (gt b').1:Int))/\StC 333 w' p (b'.drop (gt b').2.1) (ez 1 (9223372036854775807-last).toNat (gt b').1 (orf f' (gt b').2.2))/\Fr p W.heap.size W w'):=fun W h=>kW h 1 _ (by omega) (by omega)
    have jbb:dq 1 (9223372036854775807-last).toNat (gt b').1<=(9223372036854775807-last).toNat:=by
     unfold dq;split<;>omega
    have XO:=ae Ut;clear eZ Ut se hz;generalize dq 1 (9223372036854775807-last).toNat (gt b').1=d at *;generalize ez 1 (9223372036854775807-last).toNat (gt b').1 (orf f' (gt b').2.2)=f1 at *;generalize b'.drop (gt b').2.1=b1 at *;have HX:jfb (I64 (last+(d:Int))):=ae (by unfold I64;omega);obtain⟨y,hy⟩:∃ y,IntKind.i64.wrap (d:Int)=y:=⟨_,rfl⟩
    have hyz:IntKind.i64.wrap (last+y)=last+(d:Int):=by
     rw[← hy,jdR,jdR];omega
    generalize last+(d:Int)=x at *;generalize (9223372036854775807-last).toNat=hi at *;clear jbb;go_wp2_with fail;refine(HD.o _).mono ?_;rintro e w1 ⟨rfl,rfl⟩;go_wp2_with fail;refine(Kn.o _ cT.o).mono ?_;rintro e w5 ⟨rfl,nW,jz⟩;have vk:=jz.size;have dJ:=ae ((HO.o.fr jz aC).kept ((jdg _ _).alloc (jdh _) (.cells #[.int .i64 x] 2)));have sd:=ae (nW.kept ((jdg _ _).alloc (jdh _) (.cells #[.int .i64 x] 2)) nW.lt);have uN:=ae ((np.o.trans (jz.mono bP)).then ((jdg w.heap.size _).alloc (by omega) (.cells #[.int .i64 x] 2)));clear nW jz;go_wp2_with (first | (at_builtin;refine aX rfl _ _ rfl w.heap.size _ _ x us rfl dJ.o rfl ?c1 ?c2 ?c3 ?_))
    case c1=>exact aL _ _ _
    case c2=>omega
    case c3=>rw[jdi];omega
    intro v7 w7 o7 b7;have iy:=ae o7;have Qh:=ae (sd.o.kept b7 aC);have YZ:=ae (uN.o.then b7);clear o7 b7;go_wp2_with fail;go_roundw
    case rel=>exact⟨us++[x],x,_,_,by simp,rfl,by simp;omega,HUS.o.snoc HX.o,HX.o,iy.o,Qh.o,XO.o,YZ.o⟩
    case measure=>simp[intOf];omega
  ·obtain rfl:us.length=m:=by omega
   have eZ:=se.o;rw[MN]at eZ;have XP:=ae eZ;clear eZ se;go_wp2_with fail;go_ret
   exact⟨us,b',f',⟨_,rfl,HO.o⟩,HUS.o,rfl,cT.o,XP.o,np.o⟩
theorem wL:∀{q:Nat} {last:Int} {b r:List Nat} {u:List Int},rdU q last b=.ok (u,r)->u.length=q
 | 0,last,b,r,u,h=>by
  simp only[rdU,Except.ok.injEq,Prod.mk.injEq]at h;rw[← h.1];rfl
 | q+1,last,b,r,u,h=>by
  rw[rdU]at h;obtain⟨d,q1,h1,h2⟩:=ch h;split at h2
  ·simp at h2
  ·obtain⟨m,q2,h3,h4⟩:=ch h2
   simp only[Except.ok.injEq,Prod.mk.injEq]at h4;rw[← h4.1,jdn,wL h3]
def G3(n:Nat)(G:List Int->List Nat->Except Nat (List Int×List Nat))(u:List Int):List Nat->Except Nat (List Int×List Nat):=if n=0 then G [] else aB (pkd n (cU (u.length-1))) (fun p=>aB (picked u p) G)
theorem Wy(n:Nat)(G:List Int->List Nat->Except Nat (List Int×List Nat)):aB (rd3 n) G=aB num (fun many=>if n<many∨many=0/\0<n then (fun _=>.error 40) else
  if n=0 then G [] else aB wh (fun x=>aB (rdU (many-1) x) (fun u=>aB (pkd n (cU (many-1))) (fun p=>aB (picked (x::u) p) G)))):=by
 have:rd3 n=aB num (fun many=>if n<many∨many=0/\0<n then (fun _=>.error 40) else if n=0 then (fun r=>.ok ([],r)) else
  aB wh (fun x=>aB (rdU (many-1) x) (fun u=>aB (pkd n (cU (many-1))) (fun p r=>picked (x::u) p r)))):=by
  funext b
  rfl
 rw[this,bO];congr 1
 funext many
 split
 ·rfl
 ·split
  ·rw[cH]
  ·rw[bO]
   congr 1
   funext x
   rw[bO];congr 1
   funext u
   rw[bO]
theorem RU(n:Nat)(G:List Int->List Nat->Except Nat (List Int×List Nat))(many:Nat)(hm:0<many)(hn:n≠0):(aB wh (fun x=>aB (rdU (many-1) x) (fun u=>aB (pkd n (cU (many-1))) (fun p=>aB (picked (x::u) p) G))))=kq (G3 n G) many [] 0:=by
 unfold kq;rw[jdf (show ([]:List Int).length=0 from rfl),jde (by omega)];congr 1
 funext x b
 unfold aB;cases h:rdU (many-1) x b with
 | error e=>rfl
 | ok y =>
  obtain⟨u,r⟩:=y;have hl:=wL h;simp only;unfold G3;rw[jde hn,jdn,hl,je9];rfl
theorem RV(w:Nat):unE [] 0 w=0∨64<w:=by
 by_cases h:64<w
 ·exact Or.inr h
 ·left
  unfold unE;rw[jdf (by omega),jdf (by simp[by8,pk])]
theorem ec.none{D:Except Nat (List Int×List Nat)}{G:List Int->List Nat->Except Nat (List Int×List Nat)}(hG:∀ r:List Nat,r.length≠0->G [] r=.error 32){b:List Nat}{f w:Nat}(hw:w<=64)(h:ec D (G []) b f):ec D (G []) (pkB 0 w b) (pkF 0 w b f):=by
 obtain⟨h1,h2⟩:=h;have e0:by8 (0*w)=0:=by simp[by8]
 have e1:unE [] 0 w=0:=by
  rcases RV w with h | h
  ·exact h
  ·omega
 unfold pkB pkF;rw[e0,jde (by omega),jde (by omega),List.drop_zero,jeF];rw[show unE [] ((0:Nat):Int) (w:Int)=0 from e1];by_cases hf:f=0
 ·subst hf
  rw[eV];by_cases hb:b.length=0
  ·rw[jdf hb,eV]
   exact⟨fun _=>h1 rfl,fun e=>absurd rfl e⟩
  ·rw[jde hb,eB (by omega)]
   refine⟨fun e=>by omega,fun _=>?_⟩;rw[h1 rfl];exact hG b hb
 ·rw[eB hf,eB hf]
  exact⟨fun e=>absurd e hf,h2⟩
theorem RW{w:Nat}{b:List Nat}:pkL 0 w b=[]:=by
 have e0:by8 (0*w)=0:=by simp[by8]
 unfold pkL;rw[e0,jde (by omega),jeF];unfold unR;split
 ·have:=dM w 0 (pk 8 [])
  apply jdF
  simpa using this
 ·rfl
theorem wM{n w:Nat}{b:List Nat}:(pkL n w b).length<=n:=by
 unfold pkL;split
 ·simp
 ·unfold unR
  split
  ·rw[dM];simp
  ·simp
theorem RX{n w:Nat}{b:List Nat}:∀ x∈pkL n w b,x<18446744073709551616:=by
 unfold pkL;split
 ·simp
 ·exact jab
theorem ec.places{D:Except Nat (List Int×List Nat)}{n:Nat}{G:List Int->List Nat->Except Nat (List Int×List Nat)}(hG:∀ r:List Nat,r.length≠0->G [] r=.error 32){u:List Int}{b:List Nat}{f:Nat}(hw:cU (u.length-1)<=64)(h:ec D (G3 n G u) b f) :
  ec D (aB (picked u (pkL n (cU (u.length-1)) b)) G) (pkB n (cU (u.length-1)) b) (pkF n (cU (u.length-1)) b f):=by
 unfold G3 at h;by_cases hn:n=0
 ·subst hn
  rw[jdf rfl]at h;have:=h.none hG hw
  have e:aB (picked u (pkL 0 (cU (u.length-1)) b)) G=G []:=by
   rw[RW];funext r
   unfold aB picked;rw[jdf (by simp)];rfl
  rw[e];exact this
 ·rw[jde hn]at h
  exact h.pkd
theorem ec.picks{D:Except Nat (List Int×List Nat)}{G:List Int->List Nat->Except Nat (List Int×List Nat)}{u:List Int}{P b:List Nat}{f:Nat}(h:ec D (aB (picked u P) G) b f)(hp:∀ q∈P,q<u.length):ec D (G (P.map fun q=>u.getD q 0)) b f:=by
 have e:aB (picked u P) G=G (P.map fun q=>u.getD q 0):=by
  funext r
  unfold aB picked;rw[jdf hp]
 rwa[e]at h
theorem ec.strays{D:Except Nat (List Int×List Nat)}{G:List Int->List Nat->Except Nat (List Int×List Nat)}{u:List Int}{P b:List Nat}{f:Nat}{K:List Nat->Except Nat (List Int×List Nat)}(h:ec D (aB (picked u P) G) b f)(hp:¬ ∀ q∈P,q<u.length):ec D K b (orf f 40):=by
 obtain⟨h1,h2⟩:=h;by_cases hf:f=0
 ·subst hf
  rw[eV];refine⟨fun e=>by omega,fun _=>?_⟩;rw[h1 rfl];unfold aB picked;rw[jde hp]
 ·rw[eB hf]
  exact⟨fun e=>absurd e hf,h2⟩
theorem GU{n:Nat}(h:n<=256):cU (n-1)<=64:=eK.2 (by
 have:(256:Nat)<2 ^ 64:=by decide
 omega)
theorem Sv.atU{W:World}{a:Option Addr}{n cap:Nat}{l:List Nat}(h:Sv W (.slice a n cap) (aF .u64 l)){k:Nat}(hk:k<l.length) :
  ∃ b off,a=some ⟨b,off,none⟩/\b<W.heap.size/\W.cell? ⟨b,off+k,none⟩=some (.int .u64 (l[k]:Int)):=by
 obtain⟨a',c,h1,h2,h3,h4,h5⟩:=h;simp only[Value.slice.injEq]at h1;obtain⟨rfl,_,rfl⟩:=h1;obtain⟨b,off,h6,h7,h8⟩:=h5 (by rw[ap];omega);exact⟨b,off,h6,h7,h8 k _ (bS hk)⟩
theorem GV{D:Except Nat (List Int×List Nat)}{G:List Int->List Nat->Except Nat (List Int×List Nat)}(hG:∀ r:List Nat,r.length≠0->G [] r=.error 32){w:World}{p n f:Nat}{b:List Nat}(h:StC 333 w p b f)(hn:n<=256)(hg:ec D (aB (rd3 n) G) b f) :
  Calls Tryz.prog 317 #[.pointer (some ⟨p,0,none⟩),.int .i64 (n:Int)] w (zy D G p n w):=by
 have HS:=ae h;have HHG:=ae hG;have aC:=h.lt;obtain⟨fw,hfw⟩:∃ fw:Nat,min n 1=fw:=⟨_,rfl⟩;have hmin:min (n:Int) 1=(fw:Int):=by omega
 rw[Wy]at hg;have xV:=ec.num (lo:=fw) (hi:=n) (fun v=>by constructor<;>(intro h;omega)) hg;have Kn:=ae (kW h fw n (by omega) (by omega))
 have jbb:dq fw n (gt b).1<=n:=by
  unfold dq;split<;>omega
 have eZ:ec D (kq (G3 n G) (dq fw n (gt b).1) [] 0) (b.drop (gt b).2.1) (ez fw n (gt b).1 (orf f (gt b).2.2)):=by
  by_cases qs:n=0
  ·subst qs
   rw[jdf rfl]at xV;have h0:dq fw 0 (gt b).1=0:=(by omega);rw[h0]
   have e:kq (G3 0 G) 0 [] 0=G []:=by
    unfold kq G3;rfl
   rw[e];exact xV
  ·by_cases oR:dq fw n (gt b).1=0
   ·refine xV.any ?_
    have:(gt b).1<fw∨n<(gt b).1:=by
     unfold dq at oR;split at oR
     ·assumption
     ·omega
    exact tO this
   ·rw[jde qs,RU n G _ (by omega) qs]at xV
    exact xV
 have se:=ae eZ;clear h hg xV eZ hfw hG;generalize dq fw n (gt b).1=cnt at *;generalize ez fw n (gt b).1 (orf f (gt b).2.2)=f1 at *;generalize b.drop (gt b).2.1=b1 at *;go_enter Tryz.func317,Tryz.ntmps317
 go_wp2_with fail;refine Kn.o.mono ?_;rintro e w1 ⟨rfl,ek,dv⟩;have iO:=ae ek;have gg:=ae dv;have cY:=dv.size;have yE:=ek.lt;clear ek dv;go_wp2_with fail;refine(GT iO.o (by omega) se.o).mono ?_;rintro e w2 ⟨us,b2,f2,⟨v2,rfl,fx⟩,hus,uK,ei,gM,dO⟩;subst uK;have du:=ae fx;have HUS:=ae hus;have gE:=ae ei;have Kp:=ae gM;have gD:=ae (gg.o.trans (dO.mono cY));have bn:=dO.size;have jJ:=ei.lt;obtain⟨a2,c2,rfl⟩:=fx.len;clear fx hus ei gM dO se;have lm:=GU (n:=us.length) (by omega);go_wp2_with fail;refine(nG us.length (by omega) _).mono ?_;rintro e w3 ⟨rfl,aQ⟩;have cZ:=ae (du.o.kept aQ);have no:=ae (gE.o.kept aQ jJ);have qp:=ae (gD.o.then (aQ.mono (by omega)));have iD:=aQ.size;clear aQ;have XQ:=ae (Kp.o.places HHG.o lm);have rZ:=ae (wM (n:=n) (w:=cU (us.length-1)) (b:=b2));have HPX:=ae (RX (n:=n) (w:=cU (us.length-1)) (b:=b2));have Pr:=ae (wJ no.o n (cU (us.length-1)) hn lm);clear Kp lm;generalize pkL n (cU (us.length-1)) b2=P at *;generalize pkB n (cU (us.length-1)) b2=b3 at *;generalize pkF n (cU (us.length-1)) b2 f2=f3 at *;generalize cU (us.length-1)=ww at *;go_wp2_with fail;refine Pr.o.mono ?_;rintro e w4 ⟨⟨v4,rfl,gF⟩,xK,pE⟩;have HP4:=ae gF;have uM:=ae xK;have HU4:=ae (cZ.o.fr pE yE);have xT:=ae (qp.o.trans (pE.mono (by omega)));have Ke:=pE.size;have Kq:=xK.lt;obtain⟨a4,c4,rfl⟩:=gF.len;have hPl:=rZ.o;clear gF xK pE;go_wp2_with fail;go_loopw [8,30] (fun v i wr=>∃ k:Nat,k<=P.length/\i=.int .i64 (k:Int)/\(∀ q∈P.take k,q<us.length)/\bv wr w4.heap.size v ((P.take k).map fun q=>us.getD q 0)/\Below w4.heap.size w4 wr) (fun _ i _=>P.length-(intOf i).toNat)
 case atStart=>exact⟨0,by omega,rfl,fun q hq=>by simp at hq,bv.nil _ _,jdg _ _⟩
 case round =>
  obtain⟨k,hk,rfl,cW,how,az⟩:=hrel;have HAL:=ae cW;have HO:=ae how;have HB:=ae az;have bP:=az.size;obtain⟨av,cv,rfl⟩:=how.len;clear cW how az;by_cases uO:k<P.length
  ·have Kr:(k:Int)<(P.length:Int):=by omega
   obtain⟨bp,op,VF,hbp2,hckp⟩:=(HP4.o.kept HB.o).sv.atU uO;cases VF
   have hqx:=HPX.o P[k] (jdl uO);have rP:=ae (jdx uO);have Kk:=ae (jdl uO);by_cases hq:P[k]<us.length
   ·have nc:¬ ((P[k]:Nat):Int)>=(us.length:Int):=by omega
    obtain⟨bu,ou,Uu,hbu2,hcku⟩:=(HU4.o.kept HB.o).sv.at hq;cases Uu
    have HGD:jfb (us.getD P[k] 0=us[P[k]]):=ae (by simp[List.getD_eq_getElem?_getD,hq]);have yx:((P.take k).map fun q=>us.getD q 0).length<=256:=by rw[jdk,jdo];omega
    generalize us[P[k]]=x at *;generalize P[k]=q at *;obtain⟨ys,yB⟩:∃ ys,((P.take k).map fun q=>us.getD q 0)=ys:=⟨_,rfl⟩;rw[yB]at HO yx ⊢;have Km:=ae yB;clear yB;have nm:=ae (HO.o.kept ((jdg _ _).alloc (jdh _) (.cells #[.int .i64 x] 2)));have eY:=ae (HB.o.alloc bP (.cells #[.int .i64 x] 2));go_wp2_with (first | (at_builtin;refine aX rfl _ _ rfl w4.heap.size _ _ x ys rfl nm.o rfl ?c1 ?c2 ?c3 ?_))
    case c2=>omega
    case c3=>omega
    intro v7 w7 o7 b7;have iy:=ae o7;have ic:=ae (eY.o.trans b7);clear o7 b7;go_wp2_with fail;go_roundw
    case rel =>
     refine⟨k+1,by omega,by go_num,?_,?_,ic.o⟩
     ·rw[rP.o]
      intro q' hq';rcases jdO.1 hq' with h | h
      ·exact HAL.o q' h
      ·rw[jd5.1 h]
       exact hq
     ·rw[rP.o,jdC,Km.o,List.map_singleton,HGD.o]
      exact iy.o
    case measure=>simp[intOf];omega
   ·have nc:((P[k]:Nat):Int)>=(us.length:Int):=by omega
    have tv:jfb (¬ ∀ q∈P,q<us.length):=ae (fun h=>hq (h _ Kk.o));have XP:=ae (XQ.o.strays (K:=G []) tv.o);clear hq;generalize P[k]=q at *;go_wp2_with fail;refine(dp (uM.o.kept HB.o Kq) 40).mono ?_;rintro e w8 ⟨rfl,hs8,hf8⟩;have HS8:=ae hs8;have HF8:=ae ((xT.o.then (HB.o.mono (by omega))).trans (hf8.mono (by omega)));clear hs8 hf8;go_wp2_with fail;go_ret
    exact⟨[],_,_,⟨_,rfl,bv.nil _ _⟩,fun x hx=>by simp at hx,by simp,HS8.o,XP.o,HF8.o⟩
  ·obtain rfl:k=P.length:=by omega
   have Kr:¬ (P.length:Int)<(P.length:Int):=(by omega);have cW:=HAL.o;rw[jdp]at cW HO;have XP:=ae (XQ.o.picks cW);have LE:=ae (xT.o.then (HB.o.mono (by omega)));have VG:=HO.o.low (show w.heap.size<=w4.heap.size by omega);rw[jdk]at VG;have XR:=ae VG;clear VG
   have jbf:jfb (Is (P.map fun q=>us.getD q 0)):=ae (fun y hy=>by
    obtain⟨q,hq,rfl⟩:=jdE.1 hy;have:=cW q hq;rw[List.getD_eq_getElem?_getD,List.getElem?_eq_getElem this];exact HUS.o _ (jdl this))
   have uJ:jfb ((P.map fun q=>us.getD q 0).length<=n):=ae (by rw[jdk];exact hPl);clear cW;go_wp2_with fail;go_ret
   exact⟨_,_,_,⟨_,rfl,XR.o⟩,jbf.o,uJ.o,uM.o.kept HB.o Kq,XP.o,LE.o⟩
theorem Wz(n:Nat)(hn:n≠0)(G:List Int->List Nat->Except Nat (List Int×List Nat)):aB (rd4 n) G=aB wh (fun x=>aB num (fun w=>if 64<w then (fun _=>.error 40) else aB (pkd n w) (fun p=>G (p.map (fun(q:Nat)=>w64 (x+(q:Int))))))):=by
 have:rd4 n=aB wh (fun x=>aB num (fun w=>if 64<w then (fun _=>.error 40) else aB (pkd n w) (fun p r=>.ok (p.map (fun(q:Nat)=>w64 (x+(q:Int))),r)))):=by
  funext b
  unfold rd4;rw[jde hn]
 rw[this,bO];congr 1
 funext x
 rw[bO];congr 1
 funext w
 split
 ·rfl
 ·rw[bO]
  rfl
theorem RY(G:List Int->List Nat->Except Nat (List Int×List Nat)):aB (rd4 0) G=G []:=by
 have:rd4 0=fun b=>.ok ([],b):=by funext b;rfl
 rw[this,cH]
theorem DH{D:Except Nat (List Int×List Nat)}{G:List Int->List Nat->Except Nat (List Int×List Nat)}{w:World}{p n f:Nat}{b:List Nat}(h:StC 333 w p b f)(hn:n<=256)(hg:ec D (aB (rd4 n) G) b f) :
  Calls Tryz.prog 318 #[.pointer (some ⟨p,0,none⟩),.int .i64 (n:Int)] w (zy D G p n w):=by
 have HS:=ae h;have aC:=h.lt;by_cases qs:n=0
 ·subst qs
  rw[RY]at hg;have HG:=ae hg;clear h hg;go_enter Tryz.func318,Tryz.ntmps318
  go_wp2_with fail;go_ret
  exact⟨[],b,f,⟨_,rfl,bv.nil _ _⟩,fun x hx=>by simp at hx,by simp,HS.o,HG.o,Fr.refl _ _ _⟩
 ·have XS:((n:Int)==0)=false:=jdt.2 (by omega)
  rw[Wz n qs]at hg;have eS:=hg.wh;have HX:=ae (jW (fS b).1);have HW:=ae (lT h);clear h hg;generalize fD (gt b).1=x at *;generalize b.drop (gt b).2.1=b1 at *;generalize orf f (gt b).2.2=f1 at *;have gM:=ec.num (lo:=0) (hi:=64) (fun v=>by constructor<;>(intro h;omega)) eS;have Kn:jfb (∀ W,StC 333 W p b1 f1->Calls Tryz.prog 321 #[.pointer (some ⟨p,0,none⟩),.int .u64 (0:Int),.int .u64 (64:Int)] W fun r w'=>r=.returned (.int .u64 (dq 0 64 (gt b1).1:Int))/\StC 333 w' p (b1.drop (gt b1).2.1) (ez 0 64 (gt b1).1 (orf f1 (gt b1).2.2))/\Fr p W.heap.size W w'):=fun W h=>kW h 0 64 (by omega) (by omega)
  have hwle:dq 0 64 (gt b1).1<=64:=by
   unfold dq;split<;>omega
  clear eS qs;generalize dq 0 64 (gt b1).1=ww at *;generalize ez 0 64 (gt b1).1 (orf f1 (gt b1).2.2)=f2 at *;generalize b1.drop (gt b1).2.1=b2 at *;have XQ:=ae gM.pkd;have rZ:=ae (wM (n:=n) (w:=ww) (b:=b2));have HPX:=ae (RX (n:=n) (w:=ww) (b:=b2));have Pr:jfb (∀ W,StC 333 W p b2 f2->Calls Tryz.prog 323 #[.pointer (some ⟨p,0,none⟩),.int .i64 (n:Int),.int .i64 (ww:Int)] W fun r w'=>(∃ v,r=.returned v/\dD w' W.heap.size v (pkL n ww b2))/\StC 333 w' p (pkB n ww b2) (pkF n ww b2 f2)/\Fr p W.heap.size W w'):=fun W h=>wJ h n ww hn hwle
  clear gM;generalize pkL n ww b2=P at *;generalize pkB n ww b2=b3 at *;generalize pkF n ww b2 f2=f3 at *;go_enter Tryz.func318,Tryz.ntmps318
  go_wp2_with fail;refine HW.o.mono ?_;rintro e w1 ⟨rfl,ek,dv⟩;have iO:=ae ek;have gg:=ae dv;have cY:=dv.size;clear ek dv;go_wp2_with fail;refine(Kn.o _ iO.o).mono ?_;rintro e w2 ⟨rfl,ei,dO⟩;have gE:=ae ei;have gD:=ae (gg.o.trans (dO.mono cY));have bn:=dO.size;clear ei dO;go_wp2_with fail;refine(Pr.o _ gE.o).mono ?_;rintro e w4 ⟨⟨v4,rfl,gF⟩,xK,pE⟩;have HP4:=ae gF;have uM:=ae xK;have xT:=ae (gD.o.trans (pE.mono (by omega)));have Ke:=pE.size;have Kq:=xK.lt;obtain⟨a4,c4,rfl⟩:=gF.len;have hPl:=rZ.o;clear gF xK pE;go_wp2_with fail;go_loopw [7,22] (fun v i wr=>∃ k:Nat,k<=P.length/\i=.int .i64 (k:Int)/\bv wr w4.heap.size v ((P.take k).map fun(q:Nat)=>w64 (x+(q:Int)))/\Below w4.heap.size w4 wr) (fun _ i _=>P.length-(intOf i).toNat)
  case atStart=>exact⟨0,by omega,rfl,bv.nil _ _,jdg _ _⟩
  case round =>
   obtain⟨k,hk,rfl,how,az⟩:=hrel;have HO:=ae how;have HB:=ae az;have bP:=az.size;obtain⟨av,cv,rfl⟩:=how.len;clear how az;by_cases uO:k<P.length
   ·have Kr:(k:Int)<(P.length:Int):=by omega
    obtain⟨bp,op,VF,hbp2,hckp⟩:=(HP4.o.kept HB.o).sv.atU uO;cases VF
    have hqx:=HPX.o P[k] (jdl uO);have rP:=ae (jdx uO);have yx:((P.take k).map fun(q:Nat)=>w64 (x+(q:Int))).length<=256:=by rw[jdk,jdo];omega
    generalize P[k]=q at *;obtain⟨y,hy⟩:∃ y,IntKind.i64.wrap (q:Int)=y:=⟨_,rfl⟩;obtain⟨z,hz⟩:∃ z,w64 (x+(q:Int))=z:=⟨_,rfl⟩
    have hyz:IntKind.i64.wrap (x+y)=z:=by
     rw[← hy,← hz,← qW,jdR,jdR,jdR];omega
    have HZ:=ae hz;obtain⟨ys,yB⟩:∃ ys,((P.take k).map fun(q:Nat)=>w64 (x+(q:Int)))=ys:=⟨_,rfl⟩;rw[yB]at HO yx ⊢;have Km:=ae yB;clear yB hz;have nm:=ae (HO.o.kept ((jdg _ _).alloc (jdh _) (.cells #[.int .i64 z] 2)));have eY:=ae (HB.o.alloc bP (.cells #[.int .i64 z] 2));go_wp2_with (first | (at_builtin;refine aX rfl _ _ rfl w4.heap.size _ _ z ys rfl nm.o rfl (aL _ _ _) ?c2 ?c3 ?_))
    case c2=>omega
    case c3=>first | omega | (rw[jdi];omega)
    intro v7 w7 o7 b7;have iy:=ae o7;have ic:=ae (eY.o.trans b7);clear o7 b7;go_wp2_with fail;go_roundw
    case rel =>
     refine⟨k+1,by omega,by go_num,?_,ic.o⟩;rw[rP.o,jdC,Km.o,List.map_singleton,HZ.o];exact iy.o
    case measure=>simp[intOf];omega
   ·obtain rfl:k=P.length:=by omega
    have Kr:¬ (P.length:Int)<(P.length:Int):=(by omega);rw[jdp]at HO;have LE:=ae (xT.o.then (HB.o.mono (by omega)));have VG:=HO.o.low (show w.heap.size<=w4.heap.size by omega);rw[jdk]at VG;have XR:=ae VG;clear VG
    have jbf:jfb (Is (P.map fun(q:Nat)=>w64 (x+(q:Int)))):=ae (fun y hy=>by
     obtain⟨q,hq,rfl⟩:=jdE.1 hy;exact jg _)
    have uJ:jfb ((P.map fun(q:Nat)=>w64 (x+(q:Int))).length<=n):=ae (by rw[jdk];exact hPl);go_wp2_with fail;go_ret
    exact⟨_,_,_,⟨_,rfl,XR.o⟩,jbf.o,uJ.o,uM.o.kept HB.o Kq,XQ.o,LE.o⟩
theorem RZ{D:Except Nat (List Int×List Nat)}{G:List Int->List Nat->Except Nat (List Int×List Nat)}(hG:∀ r:List Nat,r.length≠0->G [] r=.error 32){w:World}{p n f c:Nat}{b:List Nat}(h:StC 333 w p b f)(hn:n<=256)(hc:c<=4)(hg:ec D (aB (rdC c n) G) b f) :
  Calls Tryz.prog 307 #[.pointer (some ⟨p,0,none⟩),.int .u8 (c:Int),.int .i64 (n:Int)] w (zy D G p n w):=by
 obtain rfl | rfl | rfl | rfl | rfl:c=0∨c=1∨c=2∨c=3∨c=4:=by omega
 ·have HC:=ae (RN h hn hg)
  clear h hg hG;go_enter Tryz.func307,Tryz.ntmps307
  go_wp2_with fail;refine HC.o.mono ?_;rintro e w1 ⟨l,b',f',⟨v,rfl,ho⟩,hr⟩;have HO:=ae ho;have HR:=ae hr;clear ho hr;go_wp2_with fail;go_ret
  exact⟨l,b',f',⟨_,rfl,HO.o⟩,HR.o⟩
 ·have HC:=ae (ML h hn hg)
  clear h hg hG;go_enter Tryz.func307,Tryz.ntmps307
  go_wp2_with fail;refine HC.o.mono ?_;rintro e w1 ⟨l,b',f',⟨v,rfl,ho⟩,hr⟩;have HO:=ae ho;have HR:=ae hr;clear ho hr;go_wp2_with fail;go_ret
  exact⟨l,b',f',⟨_,rfl,HO.o⟩,HR.o⟩
 ·have HC:=ae (RS h hn hg)
  clear h hg hG;go_enter Tryz.func307,Tryz.ntmps307
  go_wp2_with fail;refine HC.o.mono ?_;rintro e w1 ⟨l,b',f',⟨v,rfl,ho⟩,hr⟩;have HO:=ae ho;have HR:=ae hr;clear ho hr;go_wp2_with fail;go_ret
  exact⟨l,b',f',⟨_,rfl,HO.o⟩,HR.o⟩
 ·have HC:=ae (GV hG h hn hg)
  clear h hg hG;go_enter Tryz.func307,Tryz.ntmps307
  go_wp2_with fail;refine HC.o.mono ?_;rintro e w1 ⟨l,b',f',⟨v,rfl,ho⟩,hr⟩;have HO:=ae ho;have HR:=ae hr;clear ho hr;go_wp2_with fail;go_ret
  exact⟨l,b',f',⟨_,rfl,HO.o⟩,HR.o⟩
 ·have HC:=ae (DH h hn hg)
  clear h hg hG;go_enter Tryz.func307,Tryz.ntmps307
  go_wp2_with fail;refine HC.o.mono ?_;rintro e w1 ⟨l,b',f',⟨v,rfl,ho⟩,hr⟩;have HO:=ae ho;have HR:=ae hr;clear ho hr;go_wp2_with fail;go_ret
  exact⟨l,b',f',⟨_,rfl,HO.o⟩,HR.o⟩
end Go.Proofs.YtpljdjmpamjkhaaGreatDoor
