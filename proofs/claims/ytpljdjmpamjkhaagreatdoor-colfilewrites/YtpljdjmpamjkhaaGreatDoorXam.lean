import Derived.Test.YtpljdjmpamjkhaaGreatDoorXal
set_option linter.unusedVariables false
set_option linter.unusedSimpArgs false
set_option maxRecDepth 100000
set_option maxHeartbeats 4000000
namespace Go.Proofs.YtpljdjmpamjkhaaGreatDoor
open Go.RowKit Go.Lib
theorem dy{W:World}{p T:Nat}{c:Array Value}{fz:Nat×Nat}(h:W.heap[p]?=some (.cells c T fz))(i:Nat)(v:Value):(W.setCell ⟨p,i,none⟩ v).heap[p]?=some (.cells (c.setIfInBounds i v) T fz):=by
 rw[Sort.setCell_eq];simp[Sort.mapBlock,Array.getElem?_modify,h,Sort.onCells]
def StC(T:Nat)(W:World)(p:Nat)(b:List Nat)(f:Nat):Prop :=
 ∃ g off cap,W.heap[p]?=some (.cells #[.slice (some ⟨g,off,none⟩) b.length cap,.int .i64 (f:Int)] T (0,0))/\g<p/\b.length<=cap/\cap<=maxLen/\Bs b /\
  ∀ j (h:j<b.length),W.cell? ⟨g,off+j,none⟩=some (.int .u8 (b[j]:Int))
theorem StC.bs{T:Nat}{W:World}{p:Nat}{b:List Nat}{f:Nat}(h:StC T W p b f):Bs b:=by obtain⟨_,_,_,_,_,_,_,h,_⟩:=h;exact h
theorem StC.lt{T:Nat}{W:World}{p:Nat}{b:List Nat}{f:Nat}(h:StC T W p b f):p<W.heap.size:=by obtain⟨_,_,_,h,_⟩:=h;exact(Array.getElem?_eq_some_iff.1 h).1
theorem StC.kept{T:Nat}{W W':World}{p B:Nat}{b:List Nat}{f:Nat}(h:StC T W p b f)(hb:Below B W W')(hp:p<B):StC T W' p b f:=by
 obtain⟨g,off,cap,h1,h2,h3,h4,h5,h6⟩:=h;exact⟨g,off,cap,(hb.block p hp).trans h1,h2,h3,h4,h5,fun j hj=>(hb.cell (p:=⟨g,off+j,none⟩) (show g<B by omega)).trans (h6 j hj)⟩
theorem StC.cells{T:Nat}{W:World}{p:Nat}{b:List Nat}{f:Nat}(h:StC T W p b f) :
  ∃ g off cap,W.cell? ⟨p,0,none⟩=some (.slice (some ⟨g,off,none⟩) b.length cap)/\W.cell? ⟨p,1,none⟩=some (.int .i64 (f:Int))/\W.frozen? ⟨p,0,none⟩=false/\W.frozen? ⟨p,1,none⟩=false /\
   b.length<=cap/\cap<=9223372036854775807/\Sv W (.slice (some ⟨g,off,none⟩) b.length cap) (aF .u8 b)/\g<p /\
   (∀ f':Nat,StC T (W.setCell ⟨p,1,none⟩ (.int .i64 (f':Int))) p b f') /\
   (∀ k,k<=b.length->∃ A,(if cap=k then (some ⟨g,off,none⟩:Option Addr) else some ⟨g,off+k,none⟩)=A/\StC T (W.setCell ⟨p,0,none⟩ (.slice A (b.length-k) (cap-k))) p (b.drop k) f):=by
 have aB:=h.lt;obtain⟨g,off,cap,h1,h2,h3,h4,h5,h6⟩:=h
 have iO:Sv W (.slice (some ⟨g,off,none⟩) b.length cap) (aF .u8 b):=by
  refine⟨_,cap,by rw[ar],by rw[ar];omega,h4,fun e=>by(cases e),fun h0=>⟨g,off,rfl,by omega,fun j x hj=>?_⟩⟩
  have hj':j<b.length:=by
   have:=(List.getElem?_eq_some_iff.1 hj).1;rwa[ar]at this
  rw[bU hj']at hj;rw[h6 j hj'];exact hj
 refine⟨g,off,cap,by rw[ay h1];rfl,by rw[ay h1];rfl,by simp[World.frozen?,h1],by simp[World.frozen?,h1],h3,by unfold maxLen at h4;omega,iO,h2,fun f'=>?_,fun k hk=>?_⟩
 ·refine⟨g,off,cap,by rw[dy h1];rfl,h2,h3,h4,h5,fun j hj=>?_⟩
  rw[World.cell?_of_block (w:=W) (Below.heap_setCell _ _ _ _ (show g≠p by omega))];exact h6 j hj
 ·obtain⟨A,hA,hSA⟩:=AQ iO (k:=k) (by rw[ar];exact hk)
  refine⟨A,hA,?_⟩;have hl:(b.drop k).length=b.length-k:=jd3;have PJ:Bs (b.drop k):=fun x hx=>h5 x (jfb hx)
  by_cases ek:cap=k
  ·rw[jdu ek]at hA
   subst hA;refine⟨g,off,cap-k,by rw[dy h1,hl];rfl,h2,by omega,by omega,PJ,fun j hj=>by omega⟩
  ·rw[jdt ek]at hA
   subst hA;refine⟨g,off+k,cap-k,by rw[dy h1,hl];rfl,h2,by omega,by omega,PJ,fun j hj=>?_⟩;rw[World.cell?_of_block (w:=W) (Below.heap_setCell _ _ _ _ (show g≠p by omega)),jeD,h6 (k+j) (by omega)];simp
theorem dp{w:World}{p f:Nat}{b:List Nat}(h:StC 333 w p b f)(e:Nat) :
  Calls Tryz.prog 310 #[.pointer (some ⟨p,0,none⟩),.int .i64 (e:Int)] w fun r w'=>r=.returned (.tuple #[])/\StC 333 w' p b (orf f e)/\Fr p w.heap.size w w':=by
 have HS:=ae h;obtain⟨g,off,cap,h0,h1,h2,h3,h4,h5,h6,h7,h8,h9⟩:=h.cells;have H8:=ae (h8 e);have HF:=ae ((Fr.refl p w.heap.size w).set 1 (.int .i64 (e:Int)));clear h h6 h8 h9;by_cases hf:((f:Int)==0)=true
 ·have hf':f=0:=by simpa using hf
  have HO:jfp (orf f e=e):=by show _=_;unfold orf;rw[jdu hf']
  clear hf';go_enter Tryz.func310,Tryz.ntmps310
  go_wp2_with fail;go_end0
  rw[HO.o];exact⟨rfl,H8.o,HF.o⟩
 ·have hff:((f:Int)==0)=false:=by simpa using hf
  have HO:jfp (orf f e=f):=by show _=_;unfold orf;rw[jdt (fun e=>hf (by simp[e]))]
  clear hf;go_enter Tryz.func310,Tryz.ntmps310
  go_wp2_with fail;go_end0
  rw[HO.o];exact⟨rfl,HS.o,Fr.refl _ _ _⟩
theorem Lj{w:World}{p f:Nat}{b:List Nat}(h:StC 333 w p b f) :
  Calls Tryz.prog 308 #[.pointer (some ⟨p,0,none⟩)] w fun r w'=>r=.returned (.tuple #[])/\StC 333 w' p b (orf f (if b.length=0 then 0 else 32))/\Fr p w.heap.size w w':=by
 have HS:=ae h;obtain⟨g,off,cap,h0,h1,h2,h3,h4,h5,h6,h7,h8,h9⟩:=h.cells;have HR:=ae (dp h 32);clear h h6 h8 h9;by_cases hp:(b.length:Int) > 0
 ·rw[jdt (by omega)]
  go_enter Tryz.func308,Tryz.ntmps308
  go_wp2_with fail;refine HR.o.mono ?_;rintro e w1 ⟨rfl,ea,dv⟩;have jy:=ae ea;clear ea;go_wp2_with fail;go_end0
  exact⟨rfl,jy.o,dv⟩
 ·have dO:b.length=0:=by omega
  rw[jdu dO];have HO:jfp (orf f 0=f):=by show _=_;unfold orf;split<;>simp_all
  clear dO;go_enter Tryz.func308,Tryz.ntmps308
  go_wp2_with fail;go_end0
  rw[HO.o];exact⟨rfl,HS.o,Fr.refl _ _ _⟩
theorem MT{w:World}{a:Option Addr}{n cap:Nat}{b:List Nat}(hb:Bs b)(h:Sv w (.slice a n cap) (aF .u8 b)) :
  Calls Tryz.prog 324 #[.slice a n cap] w fun e w'=>e=kO .i64 (fI (gt b).1) (gt b).2.1 (gt b).2.2/\w'=w:=GR (h.sl hb)
theorem lX{w:World}{p f:Nat}{b:List Nat}(h:StC 333 w p b f) :
  Calls Tryz.prog 320 #[.pointer (some ⟨p,0,none⟩)] w fun r w'=>r=.returned (.int .i64 (fI (gt b).1))/\StC 333 w' p (b.drop (gt b).2.1) (orf f (gt b).2.2)/\Fr p w.heap.size w w':=by
 have HS:=ae h;have HB:=ae h.bs;obtain⟨g,off,cap,h0,h1,h2,h3,h4,h5,h6,h7,h8,h9⟩:=h.cells;obtain⟨g1,g2,g3,g4⟩:=fW b;have HG:=ae (MT HB.o h6);have HU:=ae (jZ g1);clear h h6 h8 h9 g4;generalize gt b=x at *;obtain⟨n,u,c⟩:=x;simp only at *;unfold kO at HG;generalize fI n=z at *;go_enter Tryz.func320,Tryz.ntmps320
 go_wp2_with fail;refine HG.o.mono ?_;rintro e w1 ⟨rfl,rfl⟩;go_wp2_with fail;refine(dp HS.o c).mono ?_;rintro e w2 ⟨rfl,dN,dD⟩;obtain⟨G,Off,Cap,k0,k1,k2,k3,k4,k5,k6,k7,k8,k9⟩:=dN.cells;obtain⟨A,hA,hSA⟩:=k9 u g2;have lF:=ae hSA;have gM:=ae (dD.set 0 (.slice A (b.length-u) (Cap-u)));clear dN dD k8 k9 k6 hSA h0 h1 h2 h3;go_wp2_with fail;go_ret
 exact⟨rfl,lF.o,gM.o⟩
def dq(lo hi v:Nat):Nat:=if v<lo∨hi<v then 0 else v
def eA(lo hi v f:Nat):Nat:=if v<lo∨hi<v then orf f 40 else f
theorem kZ{w:World}{p f:Nat}{b:List Nat}(h:StC 333 w p b f)(lo hi:Nat)(hlo:lo<18446744073709551616)(Kn:hi<18446744073709551616) :
  Calls Tryz.prog 321 #[.pointer (some ⟨p,0,none⟩),.int .u64 (lo:Int),.int .u64 (hi:Int)] w fun r w'=>r=.returned (.int .u64 (dq lo hi (gt b).1:Int))/\StC 333 w' p (b.drop (gt b).2.1) (eA lo hi (gt b).1 (orf f (gt b).2.2))/\Fr p w.heap.size w w':=by
 have HS:=ae h;have HB:=ae h.bs;obtain⟨g,off,cap,h0,h1,h2,h3,h4,h5,h6,h7,h8,h9⟩:=h.cells;obtain⟨g1,g2,g3,g4⟩:=fW b;have HG:=ae (AE HB.o h6);clear h h6 h8 h9 g4;generalize gt b=x at *;obtain⟨n,u,c⟩:=x;simp only at *;unfold kO at HG;by_cases hb:n<lo∨hi<n
 ·have HW:jfp (dq lo hi n=0/\eA lo hi n (orf f c)=orf (orf f c) 40):=⟨jdu hb,jdu hb⟩
  by_cases hl:(n:Int)<(lo:Int)
  ·clear hb
   go_enter Tryz.func321,Tryz.ntmps321
   go_wp2_with fail;refine HG.o.mono ?_;rintro e w1 ⟨rfl,rfl⟩;go_wp2_with fail;refine(dp HS.o c).mono ?_;rintro e w2 ⟨rfl,dN,dD⟩;obtain⟨G,Off,Cap,k0,k1,k2,k3,k4,k5,k6,k7,k8,k9⟩:=dN.cells;obtain⟨A,hA,hSA⟩:=k9 u g2;have lF:=ae hSA;have gM:=ae (dD.set 0 (.slice A (b.length-u) (Cap-u)));clear dN dD k8 k9 k6 hSA h0 h1 h2 h3;go_wp2_with fail;refine(dp lF.o 40).mono ?_;rintro e w3 ⟨rfl,lr,gS⟩;have ny:=ae lr;have qm:=ae (gM.o.trans (gS.mono gM.o.size));clear lr gS;go_wp2_with fail;go_ret
   rw[HW.o.1,HW.o.2];exact⟨rfl,ny.o,qm.o⟩
  ·have hh:(n:Int) > (hi:Int):=by omega
   clear hb;go_enter Tryz.func321,Tryz.ntmps321
   go_wp2_with fail;refine HG.o.mono ?_;rintro e w1 ⟨rfl,rfl⟩;go_wp2_with fail;refine(dp HS.o c).mono ?_;rintro e w2 ⟨rfl,dN,dD⟩;obtain⟨G,Off,Cap,k0,k1,k2,k3,k4,k5,k6,k7,k8,k9⟩:=dN.cells;obtain⟨A,hA,hSA⟩:=k9 u g2;have lF:=ae hSA;have gM:=ae (dD.set 0 (.slice A (b.length-u) (Cap-u)));clear dN dD k8 k9 k6 hSA h0 h1 h2 h3;go_wp2_with fail;refine(dp lF.o 40).mono ?_;rintro e w3 ⟨rfl,lr,gS⟩;have ny:=ae lr;have qm:=ae (gM.o.trans (gS.mono gM.o.size));clear lr gS;go_wp2_with fail;go_ret
   rw[HW.o.1,HW.o.2];exact⟨rfl,ny.o,qm.o⟩
 ·have HW:jfp (dq lo hi n=n/\eA lo hi n (orf f c)=orf f c):=⟨jdt hb,jdt hb⟩
  have hl:¬ (n:Int)<(lo:Int):=by omega
  have hh:¬ (n:Int) > (hi:Int):=by omega
  clear hb;go_enter Tryz.func321,Tryz.ntmps321
  go_wp2_with fail;refine HG.o.mono ?_;rintro e w1 ⟨rfl,rfl⟩;go_wp2_with fail;refine(dp HS.o c).mono ?_;rintro e w2 ⟨rfl,dN,dD⟩;obtain⟨G,Off,Cap,k0,k1,k2,k3,k4,k5,k6,k7,k8,k9⟩:=dN.cells;obtain⟨A,hA,hSA⟩:=k9 u g2;have lF:=ae hSA;have gM:=ae (dD.set 0 (.slice A (b.length-u) (Cap-u)));clear dN dD k8 k9 k6 hSA h0 h1 h2 h3;go_wp2_with fail;go_ret
  rw[HW.o.1,HW.o.2];exact⟨rfl,lF.o,gM.o⟩
def pkL(n w:Nat)(b:List Nat):List Nat:=if b.length<by8 (n*w) then [] else unR (b.take (by8 (n*w))) n w
def pkB(n w:Nat)(b:List Nat):List Nat:=if b.length<by8 (n*w) then b else b.drop (by8 (n*w))
def pkF(n w:Nat)(b:List Nat)(f:Nat):Nat :=
 if b.length<by8 (n*w) then orf f 30 else orf (orf f (if (b.drop (by8 (n*w))).length=0 then 0 else 32)) (unE (b.take (by8 (n*w))) n w)
theorem zu(k:IntKind)(l:List Nat)(n:Nat):aF k (l.take n)=(aF k l).take n:=by simp[aF,jeT]
theorem wD{w:World}{p f:Nat}{b:List Nat}(h:StC 333 w p b f)(n ww:Nat)(hn:n<=256)(PI:ww<=64) :
  Calls Tryz.prog 323 #[.pointer (some ⟨p,0,none⟩),.int .i64 (n:Int),.int .i64 (ww:Int)] w fun r w'=>(∃ v,r=.returned v/\dH w' w.heap.size v (pkL n ww b))/\StC 333 w' p (pkB n ww b) (pkF n ww b f)/\Fr p w.heap.size w w':=by
 have HS:=ae h;have HB:=ae h.bs;have aB:=h.lt;obtain⟨g,off,cap,h0,h1,h2,h3,h4,h5,h6,h7,h8,h9⟩:=h.cells;have hc:n*ww<=16384:=jdF (je2 hn PI) (by omega);have hmul:(n:Int)*(ww:Int)=((n*ww:Nat):Int):=by simp
 have hby2:(((n*ww:Nat):Int)+8-1) / 8=((by8 (n*ww):Nat):Int):=by unfold by8;omega
 have fT:by8 (n*ww)<=2048:=by unfold by8;omega
 have HL:jfp (pkL n ww b=if b.length<by8 (n*ww) then [] else unR (b.take (by8 (n*ww))) n ww):=rfl;have gm:jfp (pkB n ww b=if b.length<by8 (n*ww) then b else b.drop (by8 (n*ww))):=rfl;have Qt:jfp (pkF n ww b f=if b.length<by8 (n*ww) then orf f 30 else orf (orf f (if (b.drop (by8 (n*ww))).length=0 then 0 else 32)) (unE (b.take (by8 (n*ww))) n ww)):=rfl;have FY:=ae h6;clear h h6 h8 h9;generalize by8 (n*ww)=L at *;generalize n*ww=c at *;generalize pkL n ww b=RL at *;generalize pkB n ww b=RB at *;generalize pkF n ww b f=RF at *;by_cases hshort:(b.length:Int)<(L:Int)
 ·have hs':b.length<L:=by omega
  rw[jdu hs']at HL gm Qt;clear hs';go_enter Tryz.func323,Tryz.ntmps323
  go_wp2_with fail;refine(dp HS.o 30).mono ?_;rintro e w1 ⟨rfl,ea,dv⟩;have jy:=ae ea;have gp:=ae dv;clear ea dv;go_wp2_with fail;go_ret
  rw[HL.o,gm.o,Qt.o];exact⟨⟨_,rfl,dH.nil _ _⟩,jy.o,gp.o⟩
 ·have hs':¬ b.length<L:=by omega
  rw[jdt hs']at HL gm Qt;have rP:=ae (FY.o.take (k:=L) (by rw[ar];omega));rw[← zu]at rP;have PM:jfp (Bs (b.take L)):=fun x hx=>HB.o x (jek hx)
  obtain⟨g',off',cap',k0,k1,k2,k3,k4,k5,k6,k7,k8,k9⟩:=HS.o.cells;rw[h0]at k0;cases k0
  obtain⟨A,hA,hSA⟩:=k9 L (by omega);have lF:=ae hSA;have gM:=ae ((Fr.refl p w.heap.size w).set 0 (.slice A (b.length-L) (cap-L)));clear hs' hSA k9 k8 k6 k1 k2 k3 k4 k5 k7;go_enter Tryz.func323,Tryz.ntmps323
  go_wp2_with fail;refine(Lj lF.o).mono ?_;rintro e w3 ⟨rfl,lr,gS⟩;have ny:=ae lr;have hFr3:=gM.o.trans (gS.mono gM.o.size);have qm:=ae hFr3;have iH:=hFr3.size
  have HTK3:jfp (Sv w3 (.slice (some ⟨g,off,none⟩) L cap) (aF .u8 (b.take L))):=ae (by
   obtain⟨a',c',e1,e2,e3,e4,e5⟩:=rP.o;refine⟨a',c',e1,e2,e3,e4,fun hp=>?_⟩;obtain⟨G,O,f1,f2,f3⟩:=e5 hp;simp only[Value.slice.injEq]at e1;rw[← e1.1]at f1;cases f1
   refine⟨g,off,e1.1.symm,by omega,fun j x hj=>?_⟩;rw[World.cell?_of_block (w:=w) (hFr3.block g (by omega) (by omega))];exact f3 j x hj)
  clear lr gS hFr3 h0 h1 h2 h3;go_wp2_with fail;refine(tH HTK3.o.sx PM.o (n:Int) (ww:Int)).mono ?_;rintro e w4 ⟨v4,rfl,gN,bK⟩;have eR:=ae gN;have Ki:=bK.size;have uG:=ae (ny.o.kept bK (by omega));have Cr:=ae (qm.o.trans (Fr.of_below (bK.mono iH)));clear gN bK;go_wp2_with fail;refine(dp uG.o _).mono ?_;rintro e w5 ⟨rfl,nz,jV⟩;have rZ:=ae nz
  have dE:jfp (dH w5 w.heap.size v4 (unR (b.take L) n ww)):=ae (by
   have h1:dH w4 w.heap.size v4 (unR (b.take L) n ww):=by
    obtain⟨q1,q2⟩:=eR.o;refine⟨q1,?_⟩;rcases q2 with q | ⟨a1,a2,a3,a4,a5,a6⟩
    ·exact Or.inl q
    ·exact Or.inr ⟨a1,a2,a3,a4,jdF iH a5,a6⟩
   exact jV.own h1 aB)
  have BU:=ae (Cr.o.trans (jV.mono (by omega)));clear nz jV;go_wp2_with fail;go_ret
  rw[HL.o,gm.o,Qt.o];exact⟨⟨_,rfl,dE.o⟩,rZ.o,BU.o⟩
def ee(D:Except Nat (List Int×List Nat))(K:List Nat->Except Nat (List Int×List Nat))(b:List Nat)(f:Nat):Prop:=(f=0->D=K b)/\(f≠0->D=.error f)
theorem ee.wh{D:Except Nat (List Int×List Nat)}{g:Int->List Nat->Except Nat (List Int×List Nat)}{b:List Nat}{f:Nat}(h:ee D (aC wh g) b f):ee D (g (fI (gt b).1)) (b.drop (gt b).2.1) (orf f (gt b).2.2):=by
 obtain⟨h1,h2⟩:=h;by_cases hf:f=0
 ·subst hf
  have h3:=h1 rfl;rw[eV];unfold aC Go.Proofs.YtpljdjmpamjkhaaGreatDoor.wh at h3;refine⟨fun e=>?_,fun e=>?_⟩
  ·rw[jdu e]at h3
   exact h3
  ·rw[jdt e]at h3
   exact h3
 ·rw[eC hf]
  exact⟨fun e=>absurd e hf,h2⟩
theorem ee.num{D:Except Nat (List Int×List Nat)}{C:Nat->Prop}[DecidablePred C]{g:Nat->List Nat->Except Nat (List Int×List Nat)}{lo hi:Nat}{b:List Nat}{f:Nat}(hC:∀ v,C v↔(v<lo∨hi<v))
  (h:ee D (aC num (fun k=>if C k then (fun _=>.error 40) else g k)) b f):ee D (g (dq lo hi (gt b).1)) (b.drop (gt b).2.1) (eA lo hi (gt b).1 (orf f (gt b).2.2)):=by
 obtain⟨h1,h2⟩:=h;unfold dq eA;by_cases hf:f=0
 ·subst hf
  have h3:=h1 rfl;rw[eV];unfold aC Go.Proofs.YtpljdjmpamjkhaaGreatDoor.num at h3;by_cases he:(gt b).2.2=0
  ·rw[jdu he]at h3
   simp only at h3;by_cases hc:(gt b).1<lo∨hi<(gt b).1
   ·rw[jdu ((hC _).2 hc)]at h3
    rw[jdu hc,jdu hc,he,eV];exact⟨fun e=>by omega,fun _=>h3⟩
   ·rw[jdt (fun e=>hc ((hC _).1 e))]at h3
    rw[jdt hc,jdt hc,he];exact⟨fun _=>h3,fun e=>absurd rfl e⟩
  ·rw[jdt he]at h3
   have h4:(if (gt b).1<lo∨hi<(gt b).1 then orf (gt b).2.2 40 else (gt b).2.2)=(gt b).2.2:=by
    split
    ·exact eC he _
    ·rfl
   rw[h4];exact⟨fun e=>absurd e he,fun _=>h3⟩
 ·have h4:(if (gt b).1<lo∨hi<(gt b).1 then orf (orf f (gt b).2.2) 40 else orf f (gt b).2.2)=f:=by
   rw[eC hf,eC hf];split<;>rfl
  rw[h4];exact⟨fun e=>absurd e hf,h2⟩
theorem ee.pkd{D:Except Nat (List Int×List Nat)}{n w:Nat}{g:List Nat->List Nat->Except Nat (List Int×List Nat)}{b:List Nat}{f:Nat}(h:ee D (aC (pkd n w) g) b f):ee D (g (pkL n w b)) (pkB n w b) (pkF n w b f):=by
 obtain⟨h1,h2⟩:=h;unfold pkL pkB pkF;by_cases hf:f=0
 ·subst hf
  have h3:=h1 rfl;rw[eV,eV];unfold aC Go.Proofs.YtpljdjmpamjkhaaGreatDoor.pkd at h3;by_cases hs:b.length<by8 (n*w)
  ·rw[jdu hs]at h3
   rw[jdu hs,jdu hs,jdu hs];exact⟨fun e=>by omega,fun _=>h3⟩
  ·rw[jdt hs]at h3
   rw[jdt hs,jdt hs,jdt hs];by_cases hm:by8 (n*w)<b.length
   ·rw[jdu hm]at h3
    rw[jdt (by rw[jd3];omega),eC (by omega)];exact⟨fun e=>by omega,fun _=>h3⟩
   ·rw[jdt hm]at h3
    have e1:b.take (by8 (n*w))=b:=jee (by omega);have e2:b.drop (by8 (n*w))=[]:=List.drop_of_length_le (by omega);rw[e1,e2,jdu (by rfl),eV];refine⟨fun e=>?_,fun e=>?_⟩
    ·rw[jdu e]at h3
     exact h3
    ·rw[jdt e]at h3
     exact h3
 ·have h4:(if b.length<by8 (n*w) then orf f 30 else orf (orf f (if (b.drop (by8 (n*w))).length=0 then 0 else 32)) (unE (b.take (by8 (n*w))) n w))=f:=by
   rw[eC hf,eC hf,eC hf];split<;>rfl
  rw[h4];exact⟨fun e=>absurd e hf,h2⟩
theorem bQ{α β γ : Type}(d:List Nat->Except Nat (α×List Nat))(f:α->List Nat->Except Nat (β×List Nat))(g:β->List Nat->Except Nat (γ×List Nat)):aC (aC d f) g=aC d (fun x=>aC (f x) g):=by
 funext b
 unfold aC;cases d b with
 | error e=>rfl
 | ok x=>rfl
theorem cI{α β : Type}(x:α)(f:α->List Nat->Except Nat (β×List Nat)):aC (fun r=>.ok (x,r)) f=f x:=by
 funext b
 rfl
def fin(c:Nat)(b0:List Nat)(l:List Int)(r:List Nat):Except Nat (List Int×List Nat):=if r.length=0 then (if im c l=b0 then .ok (l,[]) else .error 40) else .error 32
theorem Sg(c:Nat)(b0:List Nat)(l:List Int){r:List Nat}(h:r.length≠0):fin c b0 l r=.error 32:=by unfold fin;rw[jdt h]
theorem zv(c n:Nat)(b0:List Nat):aC (rdC c n) (fin c b0) b0=(match mX c n b0 with | .ok l=>.ok (l,[]) | .error e=>.error e):=by
 unfold aC mX;cases rdC c n b0 with
 | error e=>rfl
 | ok x =>
  obtain⟨l,r⟩:=x;simp only[fin];split
  ·split<;>rfl
  ·rfl
theorem StC.set_other{T:Nat}{W:World}{p:Nat}{b:List Nat}{f:Nat}(h:StC T W p b f){g:Nat}(hg:p<g)(i:Nat)(v:Value):StC T (W.setCell ⟨g,i,none⟩ v) p b f :=
 h.kept ((jdv (p+1) W).setCell (p:=⟨g,i,none⟩) hg v) (Nat.lt_succ_self p)
theorem bC.fr{p:Nat}{w w':World}{B:Nat}{v:Value}{l:List Int}(h:bC w B v l)(hf:Fr p w.heap.size w w')(hp:p<B):bC w' B v l:=hf.own h hp
theorem bC.low{W:World}{B B':Nat}{v:Value}{l:List Int}(h:bC W B' v l)(hb:B<=B'):bC W B v l:=by
 obtain⟨h1,h2⟩:=h;refine⟨h1,?_⟩;rcases h2 with h | ⟨g,cap,cur,e1,e2,e3⟩
 ·exact Or.inl h
 ·exact Or.inr ⟨g,cap,cur,e1,jdF hb e2,e3⟩
theorem zw:(Tryz.prog.info? 2).map (fun i=>(i.zero,i.size,i.bytes))=some (some (.int .i64 0),1,8):=by kernel_rfl
theorem aY{w:World}{ops:Array Oper}{rest:List Oper}{o:Oper}{a:Act}{Q:Exit->Act->World->Prop}(ex:o.guard=none)(s x:Operand)
  (ho:o.op=.call { callee:=.builtin .append,args:=#[s,x],argTypes:=#[143,143] })
  (base:Nat) (v:Value) (g:Nat) (z:Int) (l0:List Int) (hs:a.eval s=v) (aA:bC w base v l0) (hx:a.eval x=.slice (some ⟨g,0,none⟩) 1 1) (hc:w.cell? ⟨g,0,none⟩=some (.int .i64 z))
  (hbytes:l0.length<=100000) (aJ:base<=w.heap.size)
  (h:∀ v' w',bC w' base v' (l0++[z])->Below base w w'->wpList Tryz.prog ops Q rest (a.put o.dst v') w') :
  wpList Tryz.prog ops Q (o::rest) a w:=by
 obtain⟨i0,hi,ct,hz1',bv⟩:=jdP zw;unfold bC at *
 refine jeb (w:=w) ex s x 143 ho base 2 i0 (.int .i64 0) 1 8 Tryz.underlying143 hi ct hz1' bv rfl (by decide) v l0.length (aL l0) hs aA ⟨g,0,none⟩ 1 1 [.int .i64 z] hx rfl ?_ (fun u hu=>by
  have:u=.int .i64 z:=by simpa using hu
  subst this;rfl) (by unfold maxLen;omega) (by omega) aJ ?_
 ·intro j u hu
  rw[mv];cases j with
  | zero =>
   simp only[List.getElem?_cons_zero,Option.some.injEq]at hu;rw[← hu];exact hc
  | succ j=>simp at hu
 ·intro v' w' o1 g1 _ _
  refine h v' w' ?_ ((jdv base w).grown g1 aJ (fun k hk=>(aA.lt k hk).1));rw[qR,jdy];exact o1
theorem jF{w:World}{ops:Array Oper}{rest:List Oper}{o:Oper}{a:Act}{Q:Exit->Act->World->Prop}(ex:o.guard=none)(s x:Operand)
  (ho:o.op=.call { callee:=.builtin .append,args:=#[s,x],argTypes:=#[142,142] })
  (base:Nat) (v:Value) (g:Nat) (z:Nat) (l0:List Nat) (hs:a.eval s=v) (aA:dH w base v l0) (hx:a.eval x=.slice (some ⟨g,0,none⟩) 1 1) (hc:w.cell? ⟨g,0,none⟩=some (.int .u64 (z:Int)))
  (hbytes:l0.length<=100000) (aJ:base<=w.heap.size)
  (h:∀ v' w',dH w' base v' (l0++[z])->Below base w w'->wpList Tryz.prog ops Q rest (a.put o.dst v') w') :
  wpList Tryz.prog ops Q (o::rest) a w:=by
 obtain⟨i0,hi,ct,hz1',bv⟩:=jdP pM;unfold dH at *
 refine jeb (w:=w) ex s x 142 ho base 92 i0 (.int .u64 0) 1 8 Tryz.underlying142 hi ct hz1' bv rfl (by decide) v l0.length (aF .u64 l0) hs aA ⟨g,0,none⟩ 1 1 [.int .u64 (z:Int)] hx rfl ?_ (fun u hu=>by
  have:u=.int .u64 (z:Int):=by simpa using hu
  subst this;rfl) (by unfold maxLen;omega) (by omega) aJ ?_
 ·intro j u hu
  rw[mv];cases j with
  | zero =>
   simp only[List.getElem?_cons_zero,Option.some.injEq]at hu;rw[← hu];exact hc
  | succ j=>simp at hu
 ·intro v' w' o1 g1 _ _
  refine h v' w' ?_ ((jdv base w).grown g1 aJ (fun k hk=>(aA.lt k hk).1));rw[cd,jdy];exact o1
def zx(D:Except Nat (List Int×List Nat))(G:List Int->List Nat->Except Nat (List Int×List Nat))(p n:Nat)(w:World)(r:Ending)(w':World):Prop :=
 ∃(l:List Int) (b':List Nat) (f':Nat),(∃ v,r=.returned v/\bC w' w.heap.size v l)/\Is l/\l.length<=n/\StC 333 w' p b' f'/\ee D (G l) b' f'/\Fr p w.heap.size w w'
theorem Sh(G:List Int->List Nat->Except Nat (List Int×List Nat))(ys:List Int)(m:Nat):aC (rd0 (m+1)) (fun l=>G (ys++l))=aC wh (fun x=>aC (rd0 m) (fun l=>G ((ys++[x])++l))):=by
 have:rd0 (m+1)=aC wh (fun x=>aC (rd0 m) (fun l r=>.ok (x::l,r))):=by funext b;rfl
 rw[this,bQ];congr 1
 funext x
 rw[bQ];congr 1
 funext l
 rw[cI];simp
theorem WK(G:List Int->List Nat->Except Nat (List Int×List Nat))(ys:List Int):aC (rd0 0) (fun l=>G (ys++l))=G ys:=by
 have:rd0 0=fun b=>.ok ([],b):=by funext b;rfl
 rw[this,cI,jdT]
theorem Si(G:List Int->List Nat->Except Nat (List Int×List Nat))(ys:List Int)(m:Nat)(last:Int):aC (rd1 (m+1) last) (fun l=>G (ys++l))=aC wh (fun x=>aC (rd1 m (w64 (last+x))) (fun l=>G ((ys++[w64 (last+x)])++l))):=by
 have:rd1 (m+1) last=aC wh (fun d=>aC (rd1 m (w64 (last+d))) (fun l r=>.ok (w64 (last+d)::l,r))):=by funext b;rfl
 rw[this,bQ];congr 1
 funext x
 rw[bQ];congr 1
 funext l
 rw[cI];simp
theorem WL(G:List Int->List Nat->Except Nat (List Int×List Nat))(ys:List Int)(last:Int):aC (rd1 0 last) (fun l=>G (ys++l))=G ys:=by
 have:rd1 0 last=fun b=>.ok ([],b):=by funext b;rfl
 rw[this,cI,jdT]
def nN(ys:List Int)(n:Nat):List Int:=ys++List.replicate (n-ys.length) 0
theorem DA{ys:List Int}{n:Nat}(h:ys.length<n)(z:Int):(nN ys n).set ys.length z=nN (ys++[z]) n:=by
 unfold nN;obtain⟨m,hm⟩:∃ m,n-ys.length=m+1:=⟨n-ys.length-1,by omega⟩;rw[hm,jdy,jd6,show n-(ys.length+1)=m by omega,List.replicate_succ];simp
theorem tN{ys:List Int}{n:Nat}(h:ys.length<=n):(nN ys n).length=n:=by unfold nN;simp;omega
theorem zy{ys:List Int}{n:Nat}(h:ys.length=n):nN ys n=ys:=by unfold nN;simp[h]
theorem wE(n:Nat):(madeCells #[Value.int .i64 0] n).toList=aL (nN [] n):=by
 rw[jeZ];simp[aL,nN]
theorem Is.snoc{ys:List Int}{x:Int}(h:Is ys)(hx:I64 x):Is (ys++[x]):=fun y hy=>by
 rcases jd2.1 hy with hy | hy
 ·exact h y hy
 ·have:y=x:=by simpa using hy
  subst this;exact hx
theorem Sj{D:Except Nat (List Int×List Nat)}{G:List Int->List Nat->Except Nat (List Int×List Nat)}{w:World}{p n f:Nat}{b:List Nat}(h:StC 333 w p b f)(hn:n<=256)(hg:ee D (aC (rd0 n) G) b f) :
  Calls Tryz.prog 314 #[.pointer (some ⟨p,0,none⟩),.int .i64 (n:Int)] w (zx D G p n w):=by
 obtain⟨i0,hi,ct,hz1',bv⟩:=jdP zw;have HS:=ae h;have HG:=ae hg;have aB:=h.lt;clear h hg;go_enter Tryz.func314,Tryz.ntmps314
 go_wp2_with (first | (refine jeA _ rfl _ _ 143 rfl w.heap.size 2 i0 (.int .i64 0) 1 Tryz.underlying143 hi ct hz1' .i64 .i64 _ _ n rfl rfl ?m1 ?m2 ?m3 ?m4 ?m5 ?_))
 case m1=>rfl
 case m2=>rfl
 case m3=>rw[bv];omega
 case m4=>unfold maxLen;omega
 case m5=>omega
 intro w4 gN iN;have bK:Below w.heap.size w w4:=(jdv _ _).grown iN (jdw _) (fun k hk=>by cases hk)
 have ho4':w4.ownsRow w.heap.size 2 1 (.slice (some ⟨w.heap.size,0,none⟩) n n) n (aL (nN [] n)):=by
  rw[← wE];simpa using gN
 have eR:=ae ho4';have cx:=ae bK;clear gN iN bK ho4';go_wp2_with fail;go_loopw [11] (fun i wr=>∃(ys:List Int) (b':List Nat) (f':Nat),i=.int .i64 (ys.length:Int)/\ys.length<=n/\Is ys/\wr.ownsRow w.heap.size 2 1 (.slice (some ⟨w.heap.size,0,none⟩) n n) n (aL (nN ys n))/\StC 333 wr p b' f'/\ee D (aC (rd0 (n-ys.length)) (fun l=>G (ys++l))) b' f'/\Fr p w.heap.size w wr) (fun i _=>n-(intOf i).toNat)
 case atStart=>exact⟨[],b,f,rfl,by simp,fun x hx=>by simp at hx,eR.o,HS.o.kept cx.o aB,HG.o,Fr.of_below cx.o⟩
 case round =>
  obtain⟨ys,b',f',rfl,hk,yz,how,kJ,xP,lH⟩:=hrel;have Ko:=ae yz;have HO:=ae how;have cU:=ae kJ;have sd:=ae xP;have ng:=ae lH;have bF:=lH.size;clear yz how kJ xP lH;by_cases jU:ys.length<n
  ·obtain⟨m,hm⟩:∃ m,n-ys.length=m+1:=⟨n-ys.length-1,by omega⟩
   have ff:=sd.o;rw[hm,Sh]at ff;have BV:=ae ff.wh;have HX:=ae (jZ (fW b').1);have HW:=ae (lX cU.o);have HM:=ae hm;clear ff hm sd;generalize fI (gt b').1=x at *;go_wp2_with fail;refine HW.o.mono ?_;rintro e w5 ⟨rfl,nz,jV⟩;have fZ:=jV.own HO.o aB;have uH:=ae (ng.o.trans (jV.mono bF));have kj:ys.length<(nN ys n).length:=by rw[tN (by omega)];exact jU
   have FB:=(fZ.cellAt ys.length (by omega)).trans (oK kj);have FC:=fZ.frozenAt ys.length;have hST:=fZ.stored ys.length (.int .i64 x);rw[zi,DA jU]at hST;have UD:=ae hST;have PC:=(fZ.lt w.heap.size rfl).2;have rZ:=ae (nz.set_other (g:=w.heap.size) aB ys.length (.int .i64 x));have uF:=uH.o.size;clear hST nz jV fZ;generalize (nN ys n)[ys.length]=y at *;go_wp2_with fail;go_roundw
   case rel =>
    refine⟨ys++[x],_,_,?_,?_,Ko.o.snoc HX.o,UD.o.1,rZ.o,?_,?_⟩
    ·simp
    ·simp;omega
    ·have e:n-(ys++[x]).length=m:=by have:=HM.o;simp;omega
     rw[e];exact BV.o
    ·exact uH.o.then ((jdv _ _).setCell (p:=⟨w.heap.size,ys.length,none⟩) (jdw _) _)
   case measure=>simp[intOf];omega
  ·have yv:ys.length=n:=by omega
   have ff:=sd.o;rw[show n-ys.length=0 by omega,WK]at ff;have BV:=ae ff
   have HO':jfp (bC wr w.heap.size (.slice (some ⟨w.heap.size,0,none⟩) n n) ys):=ae (by
    have:=HO.o;rw[zy yv]at this;unfold bC;rw[yv];exact this)
   clear ff sd yv;go_wp2_with fail;go_ret
   exact⟨ys,b',f',⟨_,rfl,HO'.o⟩,Ko.o,by omega,cU.o,BV.o,ng.o⟩
theorem MU{D:Except Nat (List Int×List Nat)}{G:List Int->List Nat->Except Nat (List Int×List Nat)}{w:World}{p n f:Nat}{b:List Nat}(h:StC 333 w p b f)(hn:n<=256)(hg:ee D (aC (rd1 n 0) G) b f) :
  Calls Tryz.prog 315 #[.pointer (some ⟨p,0,none⟩),.int .i64 (n:Int)] w (zx D G p n w):=by
 obtain⟨i0,hi,ct,hz1',bv⟩:=jdP zw;have HS:=ae h;have HG:=ae hg;have aB:=h.lt;clear h hg;go_enter Tryz.func315,Tryz.ntmps315
 go_wp2_with (first | (refine jeA _ rfl _ _ 143 rfl w.heap.size 2 i0 (.int .i64 0) 1 Tryz.underlying143 hi ct hz1' .i64 .i64 _ _ n rfl rfl ?m1 ?m2 ?m3 ?m4 ?m5 ?_))
 case m1=>rfl
 case m2=>rfl
 case m3=>rw[bv];omega
 case m4=>unfold maxLen;omega
 case m5=>omega
 intro w4 gN iN;have bK:Below w.heap.size w w4:=(jdv _ _).grown iN (jdw _) (fun k hk=>by cases hk)
 have ho4':w4.ownsRow w.heap.size 2 1 (.slice (some ⟨w.heap.size,0,none⟩) n n) n (aL (nN [] n)):=by
  rw[← wE];simpa using gN
 have eR:=ae ho4';have cx:=ae bK;clear gN iN bK ho4';go_wp2_with fail;go_loopw [6,12] (fun ah i wr=>∃(last:Int) (ys:List Int) (b':List Nat) (f':Nat),ah=.int .i64 last/\I64 last/\i=.int .i64 (ys.length:Int)/\ys.length<=n/\Is ys/\wr.ownsRow w.heap.size 2 1 (.slice (some ⟨w.heap.size,0,none⟩) n n) n (aL (nN ys n))/\StC 333 wr p b' f'/\ee D (aC (rd1 (n-ys.length) last) (fun l=>G (ys++l))) b' f'/\Fr p w.heap.size w wr) (fun _ i _=>n-(intOf i).toNat)
 case atStart=>exact⟨0,[],b,f,rfl,by unfold I64;omega,rfl,by simp,fun x hx=>by simp at hx,eR.o,HS.o.kept cx.o aB,HG.o,Fr.of_below cx.o⟩
 case round =>
  obtain⟨last,ys,b',f',rfl,uj,rfl,hk,yz,how,kJ,xP,lH⟩:=hrel;have Ko:=ae yz;have HO:=ae how;have cU:=ae kJ;have sd:=ae xP;have ng:=ae lH;have bF:=lH.size;clear yz how kJ xP lH;by_cases jU:ys.length<n
  ·obtain⟨m,hm⟩:∃ m,n-ys.length=m+1:=⟨n-ys.length-1,by omega⟩
   have ff:=sd.o;rw[hm,Si]at ff;have BV:=ae ff.wh;have HX:=ae (je (last+fI (gt b').1));have UE:=qW (last+fI (gt b').1);have HW:=ae (lX cU.o);have HM:=ae hm;clear ff hm sd;generalize fI (gt b').1=x0 at *;generalize w64 (last+x0)=x at *;go_wp2_with fail;refine HW.o.mono ?_;rintro e w5 ⟨rfl,nz,jV⟩;have fZ:=jV.own HO.o aB;have uH:=ae (ng.o.trans (jV.mono bF));have kj:ys.length<(nN ys n).length:=by rw[tN (by omega)];exact jU
   have FB:=(fZ.cellAt ys.length (by omega)).trans (oK kj);have FC:=fZ.frozenAt ys.length;have hST:=fZ.stored ys.length (.int .i64 x);rw[zi,DA jU]at hST;have UD:=ae hST;have PC:=(fZ.lt w.heap.size rfl).2;have rZ:=ae (nz.set_other (g:=w.heap.size) aB ys.length (.int .i64 x));have uF:=uH.o.size;clear hST nz jV fZ;generalize (nN ys n)[ys.length]=y at *;go_wp2_with fail;go_roundw
   case rel =>
    refine⟨x,ys++[x],_,_,rfl,HX.o,?_,?_,Ko.o.snoc HX.o,UD.o.1,rZ.o,?_,?_⟩
    ·simp
    ·simp;omega
    ·have e:n-(ys++[x]).length=m:=by have:=HM.o;simp;omega
     rw[e];exact BV.o
    ·exact uH.o.then ((jdv _ _).setCell (p:=⟨w.heap.size,ys.length,none⟩) (jdw _) _)
   case measure=>simp[intOf];omega
  ·have yv:ys.length=n:=by omega
   have ff:=sd.o;rw[show n-ys.length=0 by omega,WL]at ff;have BV:=ae ff
   have HO':jfp (bC wr w.heap.size (.slice (some ⟨w.heap.size,0,none⟩) n n) ys):=ae (by
    have:=HO.o;rw[zy yv]at this;unfold bC;rw[yv];exact this)
   clear ff sd yv;go_wp2_with fail;go_ret
   exact⟨ys,b',f',⟨_,rfl,HO'.o⟩,Ko.o,by omega,cU.o,BV.o,ng.o⟩
theorem ee.any{D:Except Nat (List Int×List Nat)}{K K':List Nat->Except Nat (List Int×List Nat)}{b:List Nat}{f:Nat}(h:ee D K b f)(hf:f≠0):ee D K' b f:=⟨fun e=>absurd e hf,h.2⟩
theorem tO{lo hi v f:Nat}(h:v<lo∨hi<v):eA lo hi v f≠0:=by
 unfold eA orf;rw[jdu h];split<;>omega
theorem Sk(G:List Int->List Nat->Except Nat (List Int×List Nat))(ys:List Int)(fu m:Nat)(hm:m≠0):aC (rd2 (fu+1) m) (fun l=>G (ys++l)) =
  aC wh (fun x=>aC num (fun k=>if k=0∨m<k then (fun _=>.error 40) else aC (rd2 fu (m-k)) (fun l=>G ((ys++List.replicate k x)++l)))):=by
 have:rd2 (fu+1) m=aC wh (fun x=>aC num (fun k=>if k=0∨m<k then (fun _=>.error 40) else aC (rd2 fu (m-k)) (fun l r=>.ok (List.replicate k x++l,r)))):=by
  funext b
  rw[rd2,jdt hm]
 rw[this,bQ];congr 1
 funext x
 rw[bQ];congr 1
 funext k
 split
 ·rfl
 ·rw[bQ]
  congr 1
  funext l
  rw[cI];simp
theorem WN(G:List Int->List Nat->Except Nat (List Int×List Nat))(ys:List Int)(fu:Nat):aC (rd2 fu 0) (fun l=>G (ys++l))=G ys:=by
 have:rd2 fu 0=fun b=>.ok ([],b):=by funext b;exact CV fu b
 rw[this,cI,jdT]
def YX:Value->Nat
 | .slice _ n _=>n
 | _=>0
def DB(p:Nat)(W:World):Nat :=
 match W.cell? ⟨p,1,none⟩ with
 | some (.int _ n)=>if n=0 then 1 else 0
 | _=>0
theorem MV{T:Nat}{W:World}{p:Nat}{b:List Nat}{f:Nat}(h:StC T W p b f)(hf:f=0):DB p W=1:=by
 obtain⟨_,_,_,_,h1,_⟩:=h.cells;unfold DB;rw[h1,hf];rfl
theorem Sm{T:Nat}{W:World}{p:Nat}{b:List Nat}{f:Nat}(h:StC T W p b f)(hf:f≠0):DB p W=0:=by
 obtain⟨_,_,_,_,h1,_⟩:=h.cells;unfold DB;rw[h1];simp only;rw[jdt (by omega)]
theorem WO(p:Nat)(W:World):DB p W<=1:=by
 unfold DB;split
 ·split<;>omega
 ·omega
theorem Sn{D:Except Nat (List Int×List Nat)}{G:List Int->List Nat->Except Nat (List Int×List Nat)}{w:World}{p n f:Nat}{b:List Nat}(h:StC 333 w p b f)(hn:n<=256)(hg:ee D (aC (rd2 n n) G) b f) :
  Calls Tryz.prog 316 #[.pointer (some ⟨p,0,none⟩),.int .i64 (n:Int)] w (zx D G p n w):=by
 have HS:=ae h;have HG:=ae hg;have aB:=h.lt;clear h hg;go_enter Tryz.func316,Tryz.ntmps316
 go_wp2_with fail;go_loopw [5] (fun v wr=>∃(fu:Nat) (ys:List Int) (b':List Nat) (f':Nat),ys.length<=n/\Is ys/\bC wr w.heap.size v ys/\StC 333 wr p b' f'/\(f'=0->n-ys.length<=fu)/\ee D (aC (rd2 fu (n-ys.length)) (fun l=>G (ys++l))) b' f'/\Fr p w.heap.size w wr) (fun v wr=>2*(n-YX v)+DB p wr)
 case atStart=>exact⟨n,[],b,f,by simp,fun x hx=>by simp at hx,bC.nil _ _,HS.o,fun _=>by simp,HG.o,Fr.refl _ _ _⟩
 case round =>
  obtain⟨fu,ys,b',f',hk,yz,how,kJ,hfu,xP,lH⟩:=hrel;have Ko:=ae yz;have HO:=ae how;have cU:=ae kJ;have sd:=ae xP;have ng:=ae lH;have HFU:=ae hfu;have bF:=lH.size;obtain⟨av,cv,rfl⟩:=how.len;obtain⟨g,off,cap,c0,c1,c2,c3,c4,c5,c6,c7,c8,c9⟩:=kJ.cells;clear yz how kJ xP lH hfu c0 c2 c3 c4 c5 c6 c7 c8 c9;by_cases jU:(ys.length:Int)<(n:Int)
  ·by_cases uU:((f':Int)==0)=true
   ·have hf0':f'=0:=by simpa using uU
    have hm:n-ys.length≠0:=(by omega);have hfu2:=HFU.o hf0';obtain⟨fu',rfl⟩:∃ q,fu=q+1:=⟨fu-1,by omega⟩;have ff:=sd.o;rw[Sk _ _ _ _ hm]at ff;have hgo3:=ff.wh;have HX:=ae (jZ (fW b').1);have HW:=ae (lX cU.o);have VP:=ae (MV cU.o hf0');clear ff sd;generalize fI (gt b').1=x at *;generalize b'.drop (gt b').2.1=b1 at *;generalize orf f' (gt b').2.2=f1 at *;have UK:=ee.num (lo:=1) (hi:=n-ys.length) (fun v=>by constructor<;>(intro h;omega)) hgo3;obtain⟨g1,g2,g3,g4⟩:=fW b1;have hsub:(n:Int)-(ys.length:Int)=((n-ys.length:Nat):Int):=(by omega)
    have FE:dq 1 (n-ys.length) (gt b1).1=0->eA 1 (n-ys.length) (gt b1).1 (orf f1 (gt b1).2.2)≠0:=by
     intro h0;unfold dq at h0;split at h0
     ·next hb=>exact tO hb
     ·next hb=>omega
    have jbn:dq 1 (n-ys.length) (gt b1).1<=n-ys.length:=by
     unfold dq;split<;>omega
    have Kp:jfp (∀ W,StC 333 W p b1 f1->Calls Tryz.prog 321 #[.pointer (some ⟨p,0,none⟩),.int .u64 (1:Int),.int .u64 ((n-ys.length:Nat):Int)] W fun r w'=>r=.returned (.int .u64 (dq 1 (n-ys.length) (gt b1).1:Int))/\StC 333 w' p (b1.drop (gt b1).2.1) (eA 1 (n-ys.length) (gt b1).1 (orf f1 (gt b1).2.2))/\Fr p W.heap.size W w'):=fun W h=>kZ h 1 (n-ys.length) (by omega) (by omega)
    have Yg:=ae UK;have ts:=ae FE;clear hgo3 UK g1 g2 g3 g4 FE HFU;generalize dq 1 (n-ys.length) (gt b1).1=k at *;generalize eA 1 (n-ys.length) (gt b1).1 (orf f1 (gt b1).2.2)=f2 at *;generalize b1.drop (gt b1).2.1=b2 at *;clear hf0';go_wp2_with fail;refine HW.o.mono ?_;rintro e w5 ⟨rfl,nz,jV⟩;have rZ:=ae nz;have dE:=ae (HO.o.fr jV aB);have uH:=ae (ng.o.trans (jV.mono bF));have uF:=uH.o.size;clear nz jV c1;go_wp2_with fail;refine(Kp.o _ rZ.o).mono ?_;rintro e w6 ⟨rfl,xE,Qu⟩;have HS6:=ae xE;have mT:=ae (dE.o.fr Qu aB);have HFR6:=ae (uH.o.trans (Qu.mono uF));have FD:=HFR6.o.size;clear xE Qu;go_wp2_with fail;go_loopw [5,29] (fun v j wq=>∃ i:Nat,i<=k/\j=.int .u64 (i:Int)/\bC wq w.heap.size v (ys++List.replicate i x)/\StC 333 wq p b2 f2/\Fr p w.heap.size w wq) (fun _ j _=>k-(intOf j).toNat)
    case atStart=>exact⟨0,by omega,rfl,by simpa using mT.o,HS6.o,HFR6.o⟩
    case round =>
     obtain⟨i,hik,rfl,hoq,hsq,hfq⟩:=hrel;have HOQ:=ae hoq;have HSQ:=ae hsq;have HFQ:=ae hfq;have yA:=hfq.size;obtain⟨aq,cq,rfl⟩:=hoq.len;clear hoq hsq hfq;by_cases PN:(i:Int)<(k:Int)
     ·have nw:=ae (HOQ.o.kept ((jdv _ _).alloc (jdw _) (.cells #[.int .i64 x] 2)))
      have lF:=ae (HSQ.o.kept ((jdv _ _).alloc (jdw _) (.cells #[.int .i64 x] 2)) HSQ.o.lt);have Kq:=ae (HFQ.o.then ((jdv w.heap.size _).alloc yA (.cells #[.int .i64 x] 2)));have bR:(ys++List.replicate i x).length<=256:=by simp;omega
      go_wp2_with (first | (at_builtin;refine aY rfl _ _ rfl w.heap.size _ _ x (ys++List.replicate i x) rfl nw.o rfl ?c1 ?c2 ?c3 ?_))
      case c1=>exact aK _ _ _
      case c2=>omega
      case c3=>rw[jdx];omega
      intro v7 w7 o7 b7;have e7:ys++(List.replicate i x++[x])=ys++List.replicate (i+1) x:=by rw[List.replicate_succ']
      rw[e7]at o7;have iD:=ae o7;have Qv:=ae (lF.o.kept b7 aB);have Zp:=ae (Kq.o.then b7);clear o7 b7 e7;go_wp2_with fail;go_roundw
      case rel=>exact⟨i+1,by omega,by go_num,iD.o,Qv.o,Zp.o⟩
      case measure=>simp[intOf];omega
     ·obtain rfl:i=k:=by omega
      have HNEW:jfp (∃ fu2,(f2=0->n-(ys++List.replicate i x).length<=fu2)/\ee D (aC (rd2 fu2 (n-(ys++List.replicate i x).length)) (fun l=>G ((ys++List.replicate i x)++l))) b2 f2):=ae (by
       have nZ:n-(ys++List.replicate i x).length=n-ys.length-i:=by simp;omega
       rw[nZ];by_cases dD:f2=0
       ·have hi0:i≠0:=fun e=>ts.o e dD
        exact⟨fu',fun _=>by omega,Yg.o⟩
       ·exact⟨0,fun e=>absurd e dD,Yg.o.any dD⟩)
      have HME:jfp (2*(n-(ys++List.replicate i x).length)+DB p wr<2*(n-ys.length)+1):=ae (by
       have nZ:(ys++List.replicate i x).length=ys.length+i:=by simp
       rw[nZ];by_cases dD:f2=0
       ·have hi0:i≠0:=fun e=>ts.o e dD
        have:=WO p wr;omega
       ·rw[Sm HSQ.o dD]
        omega)
      have HISN:jfp (Is (ys++List.replicate i x)):=fun y hy=>by
       rcases jd2.1 hy with hy | hy
       ·exact Ko.o y hy
       ·rw[jff hy]
        exact HX.o
      have uD:jfp ((ys++List.replicate i x).length<=n):=ae (by simp;omega);go_wp2_with fail;go_roundw
      case rel =>
       obtain⟨fu2,h1,h2⟩:=HNEW.o;exact⟨fu2,_,_,_,uD.o,HISN.o,HOQ.o,HSQ.o,h1,h2,HFQ.o⟩
      case measure =>
       have h1:=HME.o;have h2:=VP.o;simp only[YX];rw[h2];exact h1
   ·have hff:((f':Int)==0)=false:=by simpa using uU
    have fF:f'≠0:=fun e=>uU (by simp[e])
    have Yh:=ae (sd.o.any (K':=G ys) fF);clear uU fF;go_wp2_with fail;go_ret
    exact⟨ys,b',f',⟨_,rfl,HO.o⟩,Ko.o,hk,cU.o,Yh.o,ng.o⟩
  ·have ff:=sd.o
   rw[show n-ys.length=0 by omega,WN]at ff;have Yh:=ae ff;clear ff;go_wp2_with fail;go_ret
   exact⟨ys,b',f',⟨_,rfl,HO.o⟩,Ko.o,hk,cU.o,Yh.o,ng.o⟩
theorem So(G:List Int->List Nat->Except Nat (List Int×List Nat))(us:List Int)(q:Nat)(last:Int):aC (rdU (q+1) last) (fun u=>G (us++u)) =
  aC num (fun(d:Nat)=>if d=0∨9223372036854775807-last<(d:Int) then (fun _=>.error 40) else aC (rdU q (last+d)) (fun u=>G ((us++[last+d])++u))):=by
 have:rdU (q+1) last=aC num (fun(d:Nat)=>if d=0∨9223372036854775807-last<(d:Int) then (fun _=>.error 40) else aC (rdU q (last+d)) (fun l r=>.ok ((last+d)::l,r))):=by
  funext b
  rw[rdU]
 rw[this,bQ];congr 1
 funext d
 split
 ·rfl
 ·rw[bQ]
  congr 1
  funext l
  rw[cI];simp
theorem WP(G:List Int->List Nat->Except Nat (List Int×List Nat))(us:List Int)(last:Int):aC (rdU 0 last) (fun u=>G (us++u))=G us:=by
 have:rdU 0 last=fun b=>.ok ([],b):=by funext b;rfl
 rw[this,cI,jdT]
def kw(G:List Int->List Nat->Except Nat (List Int×List Nat))(m:Nat)(us:List Int)(last:Int):List Nat->Except Nat (List Int×List Nat) :=
 if us.length=0 then (if m=0 then G [] else aC wh (fun x=>aC (rdU (m-1) x) (fun u=>G (x::u)))) else aC (rdU (m-us.length) last) (fun u=>G (us++u))
theorem MW(G:List Int->List Nat->Except Nat (List Int×List Nat))(us:List Int)(last:Int):kw G us.length us last=G us:=by
 unfold kw;by_cases h:us.length=0
 ·rw[jdu h,jdu h,jdV h]
 ·rw[jdt h,jeW,WP]
theorem DC(G:List Int->List Nat->Except Nat (List Int×List Nat)){m:Nat}(hm:0<m)(last:Int):kw G m [] last=aC wh (fun x=>kw G m [x] x):=by
 unfold kw;rw[jdu (show ([]:List Int).length=0 from rfl),jdt (by omega)];congr 1
theorem GW(G:List Int->List Nat->Except Nat (List Int×List Nat)){m:Nat}{us:List Int}(h0:0<us.length)(hm:us.length<m)(last:Int):kw G m us last =
  aC num (fun(d:Nat)=>if d=0∨9223372036854775807-last<(d:Int) then (fun _=>.error 40) else kw G m (us++[last+d]) (last+d)):=by
 unfold kw;obtain⟨q,hq⟩:∃ q,m-us.length=q+1:=⟨m-us.length-1,by omega⟩;rw[jdt (by omega),hq,So];congr 1
 funext d
 rw[jdt (show ¬ (us++[last+(d:Int)]).length=0 by simp),show m-(us++[last+(d:Int)]).length=q by simp;omega]
theorem GX{D:Except Nat (List Int×List Nat)}{G:List Int->List Nat->Except Nat (List Int×List Nat)}{w:World}{p m f:Nat}{b:List Nat}(h:StC 333 w p b f)(hm:m<=256)(hg:ee D (kw G m [] 0) b f) :
  Calls Tryz.prog 322 #[.pointer (some ⟨p,0,none⟩),.int .i64 (m:Int)] w fun r w'=>∃(l:List Int) (b':List Nat) (f':Nat),(∃ v,r=.returned v/\bC w' w.heap.size v l)/\Is l/\l.length=m/\StC 333 w' p b' f'/\ee D (G l) b' f'/\Fr p w.heap.size w w':=by
 have HS:=ae h;have HG:=ae hg;have aB:=h.lt;clear h hg;go_enter Tryz.func322,Tryz.ntmps322
 go_wp2_with fail;go_loopw [5,6,9] (fun v la i wr=>∃(us:List Int) (last:Int) (b':List Nat) (f':Nat),i=.int .i64 (us.length:Int)/\la=.int .i64 last/\us.length<=m/\Is us/\I64 last/\bC wr w.heap.size v us/\StC 333 wr p b' f'/\ee D (kw G m us last) b' f'/\Fr p w.heap.size w wr) (fun _ _ i _=>m-(intOf i).toNat)
 case atStart=>exact⟨[],0,b,f,rfl,rfl,by simp,fun x hx=>by simp at hx,by unfold I64;omega,bC.nil _ _,HS.o,HG.o,Fr.refl _ _ _⟩
 case round =>
  obtain⟨us,last,b',f',rfl,rfl,hk,hus,PA,how,kJ,xP,lH⟩:=hrel;have HUS:=ae hus;have HO:=ae how;have cU:=ae kJ;have sd:=ae xP;have ng:=ae lH;have Yi:=ae PA;have bF:=lH.size;obtain⟨av,cv,rfl⟩:=how.len;clear hus how kJ xP lH PA;by_cases jU:us.length<m
  ·have oZ:(us.length:Int)<(m:Int):=by omega
   by_cases hz:us.length=0
   ·obtain rfl:us=[]:=jdV hz
    have ff:=sd.o;rw[DC G (by omega)]at ff;have BV:=ae ff.wh;have HX:=ae (jZ (fW b').1);have HW:=ae (lX cU.o);clear ff sd hz jU;generalize fI (gt b').1=x at *;generalize b'.drop (gt b').2.1=b1 at *;generalize orf f' (gt b').2.2=f1 at *;rw[jdX]at *;go_wp2_with fail;refine HW.o.mono ?_;rintro e w5 ⟨rfl,nz,jV⟩;have uF:=jV.size;have dE:=ae ((HO.o.fr jV aB).kept ((jdv _ _).alloc (jdw _) (.cells #[.int .i64 x] 2)));have rZ:=ae (nz.kept ((jdv _ _).alloc (jdw _) (.cells #[.int .i64 x] 2)) nz.lt);have uH:=ae ((ng.o.trans (jV.mono bF)).then ((jdv w.heap.size _).alloc (by omega) (.cells #[.int .i64 x] 2)));clear nz jV;go_wp2_with (first | (at_builtin;refine aY rfl _ _ rfl w.heap.size _ _ x [] rfl dE.o rfl ?c1 ?c2 ?c3 ?_))
    case c1=>exact aK _ _ _
    case c2=>simp
    case c3=>rw[jdx];omega
    intro v7 w7 o7 b7;have iD:=ae o7;have Qv:=ae (rZ.o.kept b7 aB);have Zp:=ae (uH.o.then b7);clear o7 b7;go_wp2_with fail;go_roundw
    case rel=>exact⟨[x],x,_,_,rfl,rfl,by simp;omega,fun y hy=>by rw[jef.1 hy];exact HX.o,HX.o,iD.o,Qv.o,BV.o,Zp.o⟩
    case measure=>simp[intOf];omega
   ·have ct:((us.length:Int)==0)=false:=jdG.2 (by omega)
    have ff:=sd.o;rw[GW G (by omega) jU]at ff;have UL:=Yi.o.1;have Aa:=Yi.o.2;have UK:=ee.num (lo:=1) (hi:=(9223372036854775807-last).toNat) (fun v=>by constructor<;>(intro h;omega)) ff;have HD:=ae (fun W=>nK (a:=last) (b:=9223372036854775807) Yi.o (by unfold I64;omega) Aa W);have Kp:jfp (∀ W,StC 333 W p b' f'->Calls Tryz.prog 321 #[.pointer (some ⟨p,0,none⟩),.int .u64 (1:Int),.int .u64 ((9223372036854775807-last).toNat:Int)] W fun r w'=>r=.returned (.int .u64 (dq 1 (9223372036854775807-last).toNat (gt b').1:Int))/\StC 333 w' p (b'.drop (gt b').2.1) (eA 1 (9223372036854775807-last).toNat (gt b').1 (orf f' (gt b').2.2))/\Fr p W.heap.size W w'):=fun W h=>kZ h 1 _ (by omega) (by omega)
    have jbn:dq 1 (9223372036854775807-last).toNat (gt b').1<=(9223372036854775807-last).toNat:=by
     unfold dq;split<;>omega
    have Yg:=ae UK;clear ff UK sd hz;generalize dq 1 (9223372036854775807-last).toNat (gt b').1=d at *;generalize eA 1 (9223372036854775807-last).toNat (gt b').1 (orf f' (gt b').2.2)=f1 at *;generalize b'.drop (gt b').2.1=b1 at *;have HX:jfp (I64 (last+(d:Int))):=ae (by unfold I64;omega);obtain⟨y,hy⟩:∃ y,IntKind.i64.wrap (d:Int)=y:=⟨_,rfl⟩
    have hyz:IntKind.i64.wrap (last+y)=last+(d:Int):=by
     rw[← hy,jd7,jd7];omega
    generalize last+(d:Int)=x at *;generalize (9223372036854775807-last).toNat=hi at *;clear jbn;go_wp2_with fail;refine(HD.o _).mono ?_;rintro e w1 ⟨rfl,rfl⟩;go_wp2_with fail;refine(Kp.o _ cU.o).mono ?_;rintro e w5 ⟨rfl,nz,jV⟩;have uF:=jV.size;have dE:=ae ((HO.o.fr jV aB).kept ((jdv _ _).alloc (jdw _) (.cells #[.int .i64 x] 2)));have rZ:=ae (nz.kept ((jdv _ _).alloc (jdw _) (.cells #[.int .i64 x] 2)) nz.lt);have uH:=ae ((ng.o.trans (jV.mono bF)).then ((jdv w.heap.size _).alloc (by omega) (.cells #[.int .i64 x] 2)));clear nz jV;go_wp2_with (first | (at_builtin;refine aY rfl _ _ rfl w.heap.size _ _ x us rfl dE.o rfl ?c1 ?c2 ?c3 ?_))
    case c1=>exact aK _ _ _
    case c2=>omega
    case c3=>rw[jdx];omega
    intro v7 w7 o7 b7;have iD:=ae o7;have Qv:=ae (rZ.o.kept b7 aB);have Zp:=ae (uH.o.then b7);clear o7 b7;go_wp2_with fail;go_roundw
    case rel=>exact⟨us++[x],x,_,_,by simp,rfl,by simp;omega,HUS.o.snoc HX.o,HX.o,iD.o,Qv.o,Yg.o,Zp.o⟩
    case measure=>simp[intOf];omega
  ·obtain rfl:us.length=m:=by omega
   have ff:=sd.o;rw[MW]at ff;have Yh:=ae ff;clear ff sd;go_wp2_with fail;go_ret
   exact⟨us,b',f',⟨_,rfl,HO.o⟩,HUS.o,rfl,cU.o,Yh.o,ng.o⟩
theorem wF:∀{q:Nat} {last:Int} {b r:List Nat} {u:List Int},rdU q last b=.ok (u,r)->u.length=q
 | 0,last,b,r,u,h=>by
  simp only[rdU,Except.ok.injEq,Prod.mk.injEq]at h;rw[← h.1];rfl
 | q+1,last,b,r,u,h=>by
  rw[rdU]at h;obtain⟨d,q1,h1,h2⟩:=ch h;split at h2
  ·simp at h2
  ·obtain⟨m,q2,h3,h4⟩:=ch h2
   simp only[Except.ok.injEq,Prod.mk.injEq]at h4;rw[← h4.1,jdD,wF h3]
def G3(n:Nat)(G:List Int->List Nat->Except Nat (List Int×List Nat))(u:List Int):List Nat->Except Nat (List Int×List Nat):=if n=0 then G [] else aC (pkd n (cV (u.length-1))) (fun p=>aC (picked u p) G)
theorem WQ(n:Nat)(G:List Int->List Nat->Except Nat (List Int×List Nat)):aC (rd3 n) G=aC num (fun many=>if n<many∨many=0/\0<n then (fun _=>.error 40) else
  if n=0 then G [] else aC wh (fun x=>aC (rdU (many-1) x) (fun u=>aC (pkd n (cV (many-1))) (fun p=>aC (picked (x::u) p) G)))):=by
 have:rd3 n=aC num (fun many=>if n<many∨many=0/\0<n then (fun _=>.error 40) else if n=0 then (fun r=>.ok ([],r)) else
  aC wh (fun x=>aC (rdU (many-1) x) (fun u=>aC (pkd n (cV (many-1))) (fun p r=>picked (x::u) p r)))):=by
  funext b
  rfl
 rw[this,bQ];congr 1
 funext many
 split
 ·rfl
 ·split
  ·rw[cI]
  ·rw[bQ]
   congr 1
   funext x
   rw[bQ];congr 1
   funext u
   rw[bQ]
theorem Sp(n:Nat)(G:List Int->List Nat->Except Nat (List Int×List Nat))(many:Nat)(hm:0<many)(hn:n≠0):(aC wh (fun x=>aC (rdU (many-1) x) (fun u=>aC (pkd n (cV (many-1))) (fun p=>aC (picked (x::u) p) G))))=kw (G3 n G) many [] 0:=by
 unfold kw;rw[jdu (show ([]:List Int).length=0 from rfl),jdt (by omega)];congr 1
 funext x b
 unfold aC;cases h:rdU (many-1) x b with
 | error e=>rfl
 | ok y =>
  obtain⟨u,r⟩:=y;have hl:=wF h;simp only;unfold G3;rw[jdt hn,jdD,hl,Nat.add_sub_cancel];rfl
theorem Sq(w:Nat):unE [] 0 w=0∨64<w:=by
 by_cases h:64<w
 ·exact Or.inr h
 ·left
  unfold unE;rw[jdu (by omega),jdu (by simp[by8,pk])]
theorem ee.none{D:Except Nat (List Int×List Nat)}{G:List Int->List Nat->Except Nat (List Int×List Nat)}(hG:∀ r:List Nat,r.length≠0->G [] r=.error 32){b:List Nat}{f w:Nat}(hw:w<=64)(h:ee D (G []) b f):ee D (G []) (pkB 0 w b) (pkF 0 w b f):=by
 obtain⟨h1,h2⟩:=h;have e0:by8 (0*w)=0:=by simp[by8]
 have e1:unE [] 0 w=0:=by
  rcases Sq w with h | h
  ·exact h
  ·omega
 unfold pkB pkF;rw[e0,jdt (by omega),jdt (by omega),List.drop_zero,jeU];rw[show unE [] ((0:Nat):Int) (w:Int)=0 from e1];by_cases hf:f=0
 ·subst hf
  rw[eV];by_cases hb:b.length=0
  ·rw[jdu hb,eV]
   exact⟨fun _=>h1 rfl,fun e=>absurd rfl e⟩
  ·rw[jdt hb,eC (by omega)]
   refine⟨fun e=>by omega,fun _=>?_⟩;rw[h1 rfl];exact hG b hb
 ·rw[eC hf,eC hf]
  exact⟨fun e=>absurd e hf,h2⟩
theorem Su{w:Nat}{b:List Nat}:pkL 0 w b=[]:=by
 have e0:by8 (0*w)=0:=by simp[by8]
 unfold pkL;rw[e0,jdt (by omega),jeU];unfold unR;split
 ·have:=dR w 0 (pk 8 [])
  apply jdV
  simpa using this
 ·rfl
theorem wG{n w:Nat}{b:List Nat}:(pkL n w b).length<=n:=by
 unfold pkL;split
 ·simp
 ·unfold unR
  split
  ·rw[dR];simp
  ·simp
theorem Sw{n w:Nat}{b:List Nat}:∀ x∈pkL n w b,x<18446744073709551616:=by
 unfold pkL;split
 ·simp
 ·exact jaj
theorem ee.places{D:Except Nat (List Int×List Nat)}{n:Nat}{G:List Int->List Nat->Except Nat (List Int×List Nat)}(hG:∀ r:List Nat,r.length≠0->G [] r=.error 32){u:List Int}{b:List Nat}{f:Nat}(hw:cV (u.length-1)<=64)(h:ee D (G3 n G u) b f) :
  ee D (aC (picked u (pkL n (cV (u.length-1)) b)) G) (pkB n (cV (u.length-1)) b) (pkF n (cV (u.length-1)) b f):=by
 unfold G3 at h;by_cases hn:n=0
 ·subst hn
  rw[jdu rfl]at h;have:=h.none hG hw
  have e:aC (picked u (pkL 0 (cV (u.length-1)) b)) G=G []:=by
   rw[Su];funext r
   unfold aC picked;rw[jdu (by simp)];rfl
  rw[e];exact this
 ·rw[jdt hn]at h
  exact h.pkd
theorem ee.picks{D:Except Nat (List Int×List Nat)}{G:List Int->List Nat->Except Nat (List Int×List Nat)}{u:List Int}{P b:List Nat}{f:Nat}(h:ee D (aC (picked u P) G) b f)(hp:∀ q∈P,q<u.length):ee D (G (P.map fun q=>u.getD q 0)) b f:=by
 have e:aC (picked u P) G=G (P.map fun q=>u.getD q 0):=by
  funext r
  unfold aC picked;rw[jdu hp]
 rwa[e]at h
theorem ee.strays{D:Except Nat (List Int×List Nat)}{G:List Int->List Nat->Except Nat (List Int×List Nat)}{u:List Int}{P b:List Nat}{f:Nat}{K:List Nat->Except Nat (List Int×List Nat)}(h:ee D (aC (picked u P) G) b f)(hp:¬ ∀ q∈P,q<u.length):ee D K b (orf f 40):=by
 obtain⟨h1,h2⟩:=h;by_cases hf:f=0
 ·subst hf
  rw[eV];refine⟨fun e=>by omega,fun _=>?_⟩;rw[h1 rfl];unfold aC picked;rw[jdt hp]
 ·rw[eC hf]
  exact⟨fun e=>absurd e hf,h2⟩
theorem GY{n:Nat}(h:n<=256):cV (n-1)<=64:=eK.2 (by
 have:(256:Nat)<2 ^ 64:=by decide
 omega)
theorem Sv.atU{W:World}{a:Option Addr}{n cap:Nat}{l:List Nat}(h:Sv W (.slice a n cap) (aF .u64 l)){k:Nat}(hk:k<l.length) :
  ∃ b off,a=some ⟨b,off,none⟩/\b<W.heap.size/\W.cell? ⟨b,off+k,none⟩=some (.int .u64 (l[k]:Int)):=by
 obtain⟨a',c,h1,h2,h3,h4,h5⟩:=h;simp only[Value.slice.injEq]at h1;obtain⟨rfl,_,rfl⟩:=h1;obtain⟨b,off,h6,h7,h8⟩:=h5 (by rw[ar];omega);exact⟨b,off,h6,h7,h8 k _ (bU hk)⟩
theorem GZ{D:Except Nat (List Int×List Nat)}{G:List Int->List Nat->Except Nat (List Int×List Nat)}(hG:∀ r:List Nat,r.length≠0->G [] r=.error 32){w:World}{p n f:Nat}{b:List Nat}(h:StC 333 w p b f)(hn:n<=256)(hg:ee D (aC (rd3 n) G) b f) :
  Calls Tryz.prog 317 #[.pointer (some ⟨p,0,none⟩),.int .i64 (n:Int)] w (zx D G p n w):=by
 have HS:=ae h;have HHG:=ae hG;have aB:=h.lt;obtain⟨fw,hfw⟩:∃ fw:Nat,min n 1=fw:=⟨_,rfl⟩;have Yj:min (n:Int) 1=(fw:Int):=by omega
 rw[WQ]at hg;have xP:=ee.num (lo:=fw) (hi:=n) (fun v=>by constructor<;>(intro h;omega)) hg;have Kp:=ae (kZ h fw n (by omega) (by omega))
 have jbn:dq fw n (gt b).1<=n:=by
  unfold dq;split<;>omega
 have ff:ee D (kw (G3 n G) (dq fw n (gt b).1) [] 0) (b.drop (gt b).2.1) (eA fw n (gt b).1 (orf f (gt b).2.2)):=by
  by_cases qq:n=0
  ·subst qq
   rw[jdu rfl]at xP;have h0:dq fw 0 (gt b).1=0:=(by omega);rw[h0]
   have e:kw (G3 0 G) 0 [] 0=G []:=by
    unfold kw G3;rfl
   rw[e];exact xP
  ·by_cases qk:dq fw n (gt b).1=0
   ·refine xP.any ?_
    have:(gt b).1<fw∨n<(gt b).1:=by
     unfold dq at qk;split at qk
     ·assumption
     ·omega
    exact tO this
   ·rw[jdt qq,Sp n G _ (by omega) qq]at xP
    exact xP
 have sd:=ae ff;clear h hg xP ff hfw hG;generalize dq fw n (gt b).1=cnt at *;generalize eA fw n (gt b).1 (orf f (gt b).2.2)=f1 at *;generalize b.drop (gt b).2.1=b1 at *;go_enter Tryz.func317,Tryz.ntmps317
 go_wp2_with fail;refine Kp.o.mono ?_;rintro e w1 ⟨rfl,ea,dv⟩;have jy:=ae ea;have gp:=ae dv;have cP:=dv.size;have yB:=ea.lt;clear ea dv;go_wp2_with fail;refine(GX jy.o (by omega) sd.o).mono ?_;rintro e w2 ⟨us,b2,f2,⟨v2,rfl,eZ⟩,hus,uE,dN,ik,dD⟩;subst uE;have du:=ae eZ;have HUS:=ae hus;have gl:=ae dN;have Kr:=ae ik;have gM:=ae (gp.o.trans (dD.mono cP));have bv:=dD.size;have jU:=dN.lt;obtain⟨a2,c2,rfl⟩:=eZ.len;clear eZ hus dN ik dD sd;have lu:=GY (n:=us.length) (by omega);go_wp2_with fail;refine(nL us.length (by omega) _).mono ?_;rintro e w3 ⟨rfl,aS⟩;have dh:=ae (du.o.kept aS);have ny:=ae (gl.o.kept aS jU);have qm:=ae (gM.o.then (aS.mono (by omega)));have iH:=aS.size;clear aS;have Yk:=ae (Kr.o.places HHG.o lu);have rY:=ae (wG (n:=n) (w:=cV (us.length-1)) (b:=b2));have HPX:=ae (Sw (n:=n) (w:=cV (us.length-1)) (b:=b2));have PD:=ae (wD ny.o n (cV (us.length-1)) hn lu);clear Kr lu;generalize pkL n (cV (us.length-1)) b2=P at *;generalize pkB n (cV (us.length-1)) b2=b3 at *;generalize pkF n (cV (us.length-1)) b2 f2=f3 at *;generalize cV (us.length-1)=ww at *;go_wp2_with fail;refine PD.o.mono ?_;rintro e w4 ⟨⟨v4,rfl,gN⟩,xF,pG⟩;have HP4:=ae gN;have uG:=ae xF;have HU4:=ae (dh.o.fr pG yB);have Cr:=ae (qm.o.trans (pG.mono (by omega)));have Ki:=pG.size;have Ks:=xF.lt;obtain⟨a4,c4,rfl⟩:=gN.len;have hPl:=rY.o;clear gN xF pG;go_wp2_with fail;go_loopw [8,30] (fun v i wr=>∃ k:Nat,k<=P.length/\i=.int .i64 (k:Int)/\(∀ q∈P.take k,q<us.length)/\bC wr w4.heap.size v ((P.take k).map fun q=>us.getD q 0)/\Below w4.heap.size w4 wr) (fun _ i _=>P.length-(intOf i).toNat)
 case atStart=>exact⟨0,by omega,rfl,fun q hq=>by simp at hq,bC.nil _ _,jdv _ _⟩
 case round =>
  obtain⟨k,hk,rfl,cX,how,az⟩:=hrel;have HAL:=ae cX;have HO:=ae how;have HB:=ae az;have bF:=az.size;obtain⟨av,cv,rfl⟩:=how.len;clear cX how az;by_cases uI:k<P.length
  ·have Kt:(k:Int)<(P.length:Int):=by omega
   obtain⟨bp,op,VU,hbp2,hckp⟩:=(HP4.o.kept HB.o).sv.atU uI;cases VU
   have hqx:=HPX.o P[k] (jdA uI);have rP:=ae (jdM uI);have Km:=ae (jdA uI);by_cases hq:P[k]<us.length
   ·have nj:¬ ((P[k]:Nat):Int)>=(us.length:Int):=by omega
    obtain⟨bu,ou,UM,hbu2,hcku⟩:=(HU4.o.kept HB.o).sv.at hq;cases UM
    have HGD:jfp (us.getD P[k] 0=us[P[k]]):=ae (by simp[List.getD_eq_getElem?_getD,hq]);have yv:((P.take k).map fun q=>us.getD q 0).length<=256:=by rw[jdz,jdC];omega
    generalize us[P[k]]=x at *;generalize P[k]=q at *;obtain⟨ys,yz⟩:∃ ys,((P.take k).map fun q=>us.getD q 0)=ys:=⟨_,rfl⟩;rw[yz]at HO yv ⊢;have Ko:=ae yz;clear yz;have nw:=ae (HO.o.kept ((jdv _ _).alloc (jdw _) (.cells #[.int .i64 x] 2)));have fd:=ae (HB.o.alloc bF (.cells #[.int .i64 x] 2));go_wp2_with (first | (at_builtin;refine aY rfl _ _ rfl w4.heap.size _ _ x ys rfl nw.o rfl ?c1 ?c2 ?c3 ?_))
    case c2=>omega
    case c3=>omega
    intro v7 w7 o7 b7;have iD:=ae o7;have io:=ae (fd.o.trans b7);clear o7 b7;go_wp2_with fail;go_roundw
    case rel =>
     refine⟨k+1,by omega,by go_num,?_,?_,io.o⟩
     ·rw[rP.o]
      intro q' hq';rcases jd2.1 hq' with h | h
      ·exact HAL.o q' h
      ·rw[jef.1 h]
       exact hq
     ·rw[rP.o,jdQ,Ko.o,List.map_singleton,HGD.o]
      exact iD.o
    case measure=>simp[intOf];omega
   ·have nj:((P[k]:Nat):Int)>=(us.length:Int):=by omega
    have ts:jfp (¬ ∀ q∈P,q<us.length):=ae (fun h=>hq (h _ Km.o));have Yh:=ae (Yk.o.strays (K:=G []) ts.o);clear hq;generalize P[k]=q at *;go_wp2_with fail;refine(dp (uG.o.kept HB.o Ks) 40).mono ?_;rintro e w8 ⟨rfl,hs8,hf8⟩;have HS8:=ae hs8;have HF8:=ae ((Cr.o.then (HB.o.mono (by omega))).trans (hf8.mono (by omega)));clear hs8 hf8;go_wp2_with fail;go_ret
    exact⟨[],_,_,⟨_,rfl,bC.nil _ _⟩,fun x hx=>by simp at hx,by simp,HS8.o,Yh.o,HF8.o⟩
  ·obtain rfl:k=P.length:=by omega
   have Kt:¬ (P.length:Int)<(P.length:Int):=(by omega);have cX:=HAL.o;rw[jdE]at cX HO;have Yh:=ae (Yk.o.picks cX);have LP:=ae (Cr.o.then (HB.o.mono (by omega)));have hoe:=HO.o.low (show w.heap.size<=w4.heap.size by omega);rw[jdz]at hoe;have HOE:=ae hoe;clear hoe
   have jbs:jfp (Is (P.map fun q=>us.getD q 0)):=ae (fun y hy=>by
    obtain⟨q,hq,rfl⟩:=jdR.1 hy;have:=cX q hq;rw[List.getD_eq_getElem?_getD,List.getElem?_eq_getElem this];exact HUS.o _ (jdA this))
   have uD:jfp ((P.map fun q=>us.getD q 0).length<=n):=ae (by rw[jdz];exact hPl);clear cX;go_wp2_with fail;go_ret
   exact⟨_,_,_,⟨_,rfl,HOE.o⟩,jbs.o,uD.o,uG.o.kept HB.o Ks,Yh.o,LP.o⟩
theorem WR(n:Nat)(hn:n≠0)(G:List Int->List Nat->Except Nat (List Int×List Nat)):aC (rd4 n) G=aC wh (fun x=>aC num (fun w=>if 64<w then (fun _=>.error 40) else aC (pkd n w) (fun p=>G (p.map (fun(q:Nat)=>w64 (x+(q:Int))))))):=by
 have:rd4 n=aC wh (fun x=>aC num (fun w=>if 64<w then (fun _=>.error 40) else aC (pkd n w) (fun p r=>.ok (p.map (fun(q:Nat)=>w64 (x+(q:Int))),r)))):=by
  funext b
  unfold rd4;rw[jdt hn]
 rw[this,bQ];congr 1
 funext x
 rw[bQ];congr 1
 funext w
 split
 ·rfl
 ·rw[bQ]
  rfl
theorem Sy(G:List Int->List Nat->Except Nat (List Int×List Nat)):aC (rd4 0) G=G []:=by
 have:rd4 0=fun b=>.ok ([],b):=by funext b;rfl
 rw[this,cI]
theorem DD{D:Except Nat (List Int×List Nat)}{G:List Int->List Nat->Except Nat (List Int×List Nat)}{w:World}{p n f:Nat}{b:List Nat}(h:StC 333 w p b f)(hn:n<=256)(hg:ee D (aC (rd4 n) G) b f) :
  Calls Tryz.prog 318 #[.pointer (some ⟨p,0,none⟩),.int .i64 (n:Int)] w (zx D G p n w):=by
 have HS:=ae h;have aB:=h.lt;by_cases qq:n=0
 ·subst qq
  rw[Sy]at hg;have HG:=ae hg;clear h hg;go_enter Tryz.func318,Tryz.ntmps318
  go_wp2_with fail;go_ret
  exact⟨[],b,f,⟨_,rfl,bC.nil _ _⟩,fun x hx=>by simp at hx,by simp,HS.o,HG.o,Fr.refl _ _ _⟩
 ·have Yl:((n:Int)==0)=false:=jdG.2 (by omega)
  rw[WR n qq]at hg;have eS:=hg.wh;have HX:=ae (jZ (fW b).1);have HW:=ae (lX h);clear h hg;generalize fI (gt b).1=x at *;generalize b.drop (gt b).2.1=b1 at *;generalize orf f (gt b).2.2=f1 at *;have ik:=ee.num (lo:=0) (hi:=64) (fun v=>by constructor<;>(intro h;omega)) eS;have Kp:jfp (∀ W,StC 333 W p b1 f1->Calls Tryz.prog 321 #[.pointer (some ⟨p,0,none⟩),.int .u64 (0:Int),.int .u64 (64:Int)] W fun r w'=>r=.returned (.int .u64 (dq 0 64 (gt b1).1:Int))/\StC 333 w' p (b1.drop (gt b1).2.1) (eA 0 64 (gt b1).1 (orf f1 (gt b1).2.2))/\Fr p W.heap.size W w'):=fun W h=>kZ h 0 64 (by omega) (by omega)
  have hwle:dq 0 64 (gt b1).1<=64:=by
   unfold dq;split<;>omega
  clear eS qq;generalize dq 0 64 (gt b1).1=ww at *;generalize eA 0 64 (gt b1).1 (orf f1 (gt b1).2.2)=f2 at *;generalize b1.drop (gt b1).2.1=b2 at *;have Yk:=ae ik.pkd;have rY:=ae (wG (n:=n) (w:=ww) (b:=b2));have HPX:=ae (Sw (n:=n) (w:=ww) (b:=b2));have PD:jfp (∀ W,StC 333 W p b2 f2->Calls Tryz.prog 323 #[.pointer (some ⟨p,0,none⟩),.int .i64 (n:Int),.int .i64 (ww:Int)] W fun r w'=>(∃ v,r=.returned v/\dH w' W.heap.size v (pkL n ww b2))/\StC 333 w' p (pkB n ww b2) (pkF n ww b2 f2)/\Fr p W.heap.size W w'):=fun W h=>wD h n ww hn hwle
  clear ik;generalize pkL n ww b2=P at *;generalize pkB n ww b2=b3 at *;generalize pkF n ww b2 f2=f3 at *;go_enter Tryz.func318,Tryz.ntmps318
  go_wp2_with fail;refine HW.o.mono ?_;rintro e w1 ⟨rfl,ea,dv⟩;have jy:=ae ea;have gp:=ae dv;have cP:=dv.size;clear ea dv;go_wp2_with fail;refine(Kp.o _ jy.o).mono ?_;rintro e w2 ⟨rfl,dN,dD⟩;have gl:=ae dN;have gM:=ae (gp.o.trans (dD.mono cP));have bv:=dD.size;clear dN dD;go_wp2_with fail;refine(PD.o _ gl.o).mono ?_;rintro e w4 ⟨⟨v4,rfl,gN⟩,xF,pG⟩;have HP4:=ae gN;have uG:=ae xF;have Cr:=ae (gM.o.trans (pG.mono (by omega)));have Ki:=pG.size;have Ks:=xF.lt;obtain⟨a4,c4,rfl⟩:=gN.len;have hPl:=rY.o;clear gN xF pG;go_wp2_with fail;go_loopw [7,22] (fun v i wr=>∃ k:Nat,k<=P.length/\i=.int .i64 (k:Int)/\bC wr w4.heap.size v ((P.take k).map fun(q:Nat)=>w64 (x+(q:Int)))/\Below w4.heap.size w4 wr) (fun _ i _=>P.length-(intOf i).toNat)
  case atStart=>exact⟨0,by omega,rfl,bC.nil _ _,jdv _ _⟩
  case round =>
   obtain⟨k,hk,rfl,how,az⟩:=hrel;have HO:=ae how;have HB:=ae az;have bF:=az.size;obtain⟨av,cv,rfl⟩:=how.len;clear how az;by_cases uI:k<P.length
   ·have Kt:(k:Int)<(P.length:Int):=by omega
    obtain⟨bp,op,VU,hbp2,hckp⟩:=(HP4.o.kept HB.o).sv.atU uI;cases VU
    have hqx:=HPX.o P[k] (jdA uI);have rP:=ae (jdM uI);have yv:((P.take k).map fun(q:Nat)=>w64 (x+(q:Int))).length<=256:=by rw[jdz,jdC];omega
    generalize P[k]=q at *;obtain⟨y,hy⟩:∃ y,IntKind.i64.wrap (q:Int)=y:=⟨_,rfl⟩;obtain⟨z,hz⟩:∃ z,w64 (x+(q:Int))=z:=⟨_,rfl⟩
    have hyz:IntKind.i64.wrap (x+y)=z:=by
     rw[← hy,← hz,← qW,jd7,jd7,jd7];omega
    have HZ:=ae hz;obtain⟨ys,yz⟩:∃ ys,((P.take k).map fun(q:Nat)=>w64 (x+(q:Int)))=ys:=⟨_,rfl⟩;rw[yz]at HO yv ⊢;have Ko:=ae yz;clear yz hz;have nw:=ae (HO.o.kept ((jdv _ _).alloc (jdw _) (.cells #[.int .i64 z] 2)));have fd:=ae (HB.o.alloc bF (.cells #[.int .i64 z] 2));go_wp2_with (first | (at_builtin;refine aY rfl _ _ rfl w4.heap.size _ _ z ys rfl nw.o rfl (aK _ _ _) ?c2 ?c3 ?_))
    case c2=>omega
    case c3=>first | omega | (rw[jdx];omega)
    intro v7 w7 o7 b7;have iD:=ae o7;have io:=ae (fd.o.trans b7);clear o7 b7;go_wp2_with fail;go_roundw
    case rel =>
     refine⟨k+1,by omega,by go_num,?_,io.o⟩;rw[rP.o,jdQ,Ko.o,List.map_singleton,HZ.o];exact iD.o
    case measure=>simp[intOf];omega
   ·obtain rfl:k=P.length:=by omega
    have Kt:¬ (P.length:Int)<(P.length:Int):=(by omega);rw[jdE]at HO;have LP:=ae (Cr.o.then (HB.o.mono (by omega)));have hoe:=HO.o.low (show w.heap.size<=w4.heap.size by omega);rw[jdz]at hoe;have HOE:=ae hoe;clear hoe
    have jbs:jfp (Is (P.map fun(q:Nat)=>w64 (x+(q:Int)))):=ae (fun y hy=>by
     obtain⟨q,hq,rfl⟩:=jdR.1 hy;exact je _)
    have uD:jfp ((P.map fun(q:Nat)=>w64 (x+(q:Int))).length<=n):=ae (by rw[jdz];exact hPl);go_wp2_with fail;go_ret
    exact⟨_,_,_,⟨_,rfl,HOE.o⟩,jbs.o,uD.o,uG.o.kept HB.o Ks,Yk.o,LP.o⟩
theorem Sz{D:Except Nat (List Int×List Nat)}{G:List Int->List Nat->Except Nat (List Int×List Nat)}(hG:∀ r:List Nat,r.length≠0->G [] r=.error 32){w:World}{p n f c:Nat}{b:List Nat}(h:StC 333 w p b f)(hn:n<=256)(hc:c<=4)(hg:ee D (aC (rdC c n) G) b f) :
  Calls Tryz.prog 307 #[.pointer (some ⟨p,0,none⟩),.int .u8 (c:Int),.int .i64 (n:Int)] w (zx D G p n w):=by
 obtain rfl | rfl | rfl | rfl | rfl:c=0∨c=1∨c=2∨c=3∨c=4:=by omega
 ·have HC:=ae (Sj h hn hg)
  clear h hg hG;go_enter Tryz.func307,Tryz.ntmps307
  go_wp2_with fail;refine HC.o.mono ?_;rintro e w1 ⟨l,b',f',⟨v,rfl,ho⟩,hr⟩;have HO:=ae ho;have HR:=ae hr;clear ho hr;go_wp2_with fail;go_ret
  exact⟨l,b',f',⟨_,rfl,HO.o⟩,HR.o⟩
 ·have HC:=ae (MU h hn hg)
  clear h hg hG;go_enter Tryz.func307,Tryz.ntmps307
  go_wp2_with fail;refine HC.o.mono ?_;rintro e w1 ⟨l,b',f',⟨v,rfl,ho⟩,hr⟩;have HO:=ae ho;have HR:=ae hr;clear ho hr;go_wp2_with fail;go_ret
  exact⟨l,b',f',⟨_,rfl,HO.o⟩,HR.o⟩
 ·have HC:=ae (Sn h hn hg)
  clear h hg hG;go_enter Tryz.func307,Tryz.ntmps307
  go_wp2_with fail;refine HC.o.mono ?_;rintro e w1 ⟨l,b',f',⟨v,rfl,ho⟩,hr⟩;have HO:=ae ho;have HR:=ae hr;clear ho hr;go_wp2_with fail;go_ret
  exact⟨l,b',f',⟨_,rfl,HO.o⟩,HR.o⟩
 ·have HC:=ae (GZ hG h hn hg)
  clear h hg hG;go_enter Tryz.func307,Tryz.ntmps307
  go_wp2_with fail;refine HC.o.mono ?_;rintro e w1 ⟨l,b',f',⟨v,rfl,ho⟩,hr⟩;have HO:=ae ho;have HR:=ae hr;clear ho hr;go_wp2_with fail;go_ret
  exact⟨l,b',f',⟨_,rfl,HO.o⟩,HR.o⟩
 ·have HC:=ae (DD h hn hg)
  clear h hg hG;go_enter Tryz.func307,Tryz.ntmps307
  go_wp2_with fail;refine HC.o.mono ?_;rintro e w1 ⟨l,b',f',⟨v,rfl,ho⟩,hr⟩;have HO:=ae ho;have HR:=ae hr;clear ho hr;go_wp2_with fail;go_ret
  exact⟨l,b',f',⟨_,rfl,HO.o⟩,HR.o⟩
end Go.Proofs.YtpljdjmpamjkhaaGreatDoor
