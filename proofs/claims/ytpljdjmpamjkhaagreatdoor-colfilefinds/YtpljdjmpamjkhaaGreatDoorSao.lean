import Derived.Test.YtpljdjmpamjkhaaGreatDoorSan
import Derived.Test.YtpljdjmpamjkhaaGreatDoorSam
import Derived.Laws.CopyOwn
set_option linter.all false
set_option maxRecDepth 100000
set_option maxHeartbeats 4000000
namespace Go.Proofs.YtpljdjmpamjkhaaGreatDoor
open Tryz
open Go.RowKit Go.Lib
def Sv.keptW{W W':World}{B:Nat}{v:Value}{xs:List Value}(h:Sv W v xs)(hv:0<xs.length->∀ k,v.ownBlock=some k->k<B)(hb:Below B W W'):Sv W' v xs:=by
 obtain⟨a,cap,rfl,h1,h2,h3,h4⟩:=h;refine⟨a,cap,rfl,h1,h2,h3,λh0=>?_⟩;obtain⟨b,off,rfl,h5,h6⟩:=h4 h0;have hb':b<B:=hv h0 b rfl;exact⟨b,off,rfl,jeY h5 hb.size,λj x hj=>(hb.cell (p:=⟨b,off+j,none⟩) hb').trans (h6 j x hj)⟩
def Rs(W:World)(p:Nat)(b:List Nat)(f:Nat):Prop :=
 ∃ a cap,W.heap[p]?=some (.cells #[.slice a b.length cap,.int .i64 (f:Int)] 271 (0,0))/\Sv W (.slice a b.length cap) (aA .u8 b)/\(0<b.length->∀ k,(Value.slice a b.length cap).ownBlock=some k->k<p)/\Bs b
def Rs.bs{W:World}{p:Nat}{b:List Nat}{f:Nat}(h:Rs W p b f):Bs b:=by obtain⟨_,_,_,_,_,h⟩:=h;exact h
def Rs.lt{W:World}{p:Nat}{b:List Nat}{f:Nat}(h:Rs W p b f):p<W.heap.size:=by obtain⟨_,_,h,_⟩:=h;exact(Array.getElem?_eq_some_iff.1 h).1
def Rs.kept{W W':World}{p B:Nat}{b:List Nat}{f:Nat}(h:Rs W p b f)(hb:Below B W W')(hp:p<B):Rs W' p b f:=by
 obtain⟨a,cap,h1,h2,h3,h4⟩:=h;exact⟨a,cap,(hb.block p hp).trans h1,h2.keptW (λh0 k hk=>jff (h3 (by rwa[am]at h0) k hk) hp) hb,h3,h4⟩
def Sv.dropG{W:World}{a:Option Addr}{n cap:Nat}{xs:List Value}(h:Sv W (.slice a n cap) xs){k:Nat}(hk:k<=xs.length) :
  Sv W (.slice (if cap=k then a else a.map λx=>x.add k) (xs.length-k) (cap-k)) (xs.drop k):=by
 obtain⟨a',cap',e,h1,h2,h3,h4⟩:=h;simp only[Value.slice.injEq]at e;obtain⟨rfl,rfl,rfl⟩:=e;refine⟨_,cap-k,by rw[jeX],by rw[jeX];omega,by omega,λe=>?_,λh0=>?_⟩
 ·by_cases hc:cap=k
  ·omega
  ·rw[jex hc]at e
   have ha:a=none:=by cases a with | none=>rfl | some x=>simp at e
   have:=h3 ha;omega
 ·rw[jeX]at h0
  obtain⟨b,off,rfl,h5,h6⟩:=h4 (by omega);refine⟨b,off+k,?_,h5,λj x hj=>?_⟩
  ·rw[jex (by omega)]
   simp[kP]
  ·rw[List.getElem?_drop]at hj
   have:=h6 (k+j) x hj;rwa[<- jfG]at this
def js{a:Option Addr}{n cap m k c:Nat}{p:Nat}(h:∀ i,(Value.slice a n cap).ownBlock=some i->i<p):∀ i,(Value.slice (if c=k then a else a.map λx=>x.add k) m (cap-k)).ownBlock=some i->i<p:=by
 intro i hi;cases a with
 | none =>
  split at hi<;>cases hi
 | some x =>
  refine h i ?_;split at hi
  ·exact hi
  ·simp only[jfC,Value.ownBlock]at hi ⊢
   unfold Addr.add at hi;split at hi<;>exact hi
def Rs.cells{W:World}{p:Nat}{b:List Nat}{f:Nat}(h:Rs W p b f) :
  ∃ a cap,W.cell? ⟨p,0,none⟩=some (.slice a b.length cap)/\W.cell? ⟨p,1,none⟩=some (.int .i64 (f:Int))/\W.frozen? ⟨p,0,none⟩=false/\W.frozen? ⟨p,1,none⟩=false /\
   b.length<=cap/\cap<=9223372036854775807/\Sv W (.slice a b.length cap) (aA .u8 b)/\(0<b.length->∀ k,(Value.slice a b.length cap).ownBlock=some k->k<p) /\
   (∀ f':Nat,Rs (W.setCell ⟨p,1,none⟩ (.int .i64 (f':Int))) p b f') /\
   (∀ k,k<=b.length->∃ A,(if cap=k then a else a.map λx=>x.add k)=A/\Rs (W.setCell ⟨p,0,none⟩ (.slice A (b.length-k) (cap-k))) p (b.drop k) f) /\
   Rs (W.setCell ⟨p,0,none⟩ (.slice none 0 0)) p [] f:=by
 have ar:=h.lt;obtain⟨a,cap,h1,h2,h3,h4⟩:=h;have dA:∀ i (x:Value),Below p W (W.setCell ⟨p,i,none⟩ x):=λi x=>(jez p W).setCell (jeA _) x
 have bx:=h2.form1;obtain⟨a',cap',e,ju,jv⟩:=bx;rw[am]at e ju;simp only[Value.slice.injEq]at e;obtain⟨rfl,_,rfl⟩:=e;refine⟨a,cap,by rw[an h1];rfl,by rw[an h1];rfl,by simp[World.frozen?,h1],by simp[World.frozen?,h1],ju,by unfold maxLen at jv;omega,h2,h3,λf'=>?_,λk hk=>?_,?_⟩
 ·exact⟨a,cap,by rw[cQ h1];rfl,h2.keptW (λh0=>h3 (by rwa[am]at h0)) (dA 1 _),h3,h4⟩
 ·refine⟨_,rfl,?_⟩
  have hd:=h2.dropG (k:=k) (by rw[am];exact hk);rw[am]at hd;have hv:(aA .u8 b).drop k=aA .u8 (b.drop k):=by simp[aA,List.map_drop]
  rw[hv]at hd;have iV:0<b.length->∀ i,(Value.slice (if cap=k then a else a.map λx=>x.add k) (b.length-k) (cap-k)).ownBlock=some i->i<p:=λh0=>js (m:=b.length-k) (k:=k) (c:=cap) (h3 h0)
  refine⟨_,cap-k,by rw[cQ h1,jeX];rfl,?_,?_,h4.drop k⟩
  ·rw[jeX]
   exact hd.keptW (λh0=>iV (by rw[am,jeX]at h0;omega)) (dA 0 _)
  ·rw[jeX]
   exact λh0=>iV (by omega)
 ·refine⟨none,0,by rw[cQ h1];rfl,Sv.nil _,λh0=>by simp at h0,λx hx=>by simp at hx⟩
def bZ{w:World}{p f:Nat}{b:List Nat}(h:Rs w p b f)(e:Nat) :
  Calls prog 237 #[.pointer (some ⟨p,0,none⟩),.int .i64 (e:Int)] w λr w'=>r=.returned (.tuple #[])/\Rs w' p b (orf f e)/\Fr p w.heap.size w w':=by
 have HS:=ae h;obtain⟨a,cap,h0,h1,h2,h3,h4,h5,h6,h7,h8,h9,vJ⟩:=h.cells;have H8:=ae (h8 e);have HF:=ae ((Fr.refl p w.heap.size w).set 1 (.int .i64 (e:Int)));clear h h6 h7 h8 h9 vJ;by_cases hf:((f:Int)==0)=true
 ·have hf':f=0:=by simpa using hf
  have HO:jgt (orf f e=e):=by show _=_;unfold orf;rw[jey hf']
  clear hf';go_enter func237,ntmps237
  go_wp2_with fail;go_end0
  rw[HO.o];exact⟨rfl,H8.o,HF.o⟩
 ·have hff:((f:Int)==0)=false:=by simpa using hf
  have HO:jgt (orf f e=f):=by show _=_;unfold orf;rw[jex (λe=>hf (by simp[e]))]
  clear hf;go_enter func237,ntmps237
  go_wp2_with fail;go_end0
  rw[HO.o];exact⟨rfl,HS.o,Fr.refl _ _ _⟩
def xM{w:World}{p f:Nat}{b:List Nat}(h:Rs w p b f) :
  Calls prog 280 #[.pointer (some ⟨p,0,none⟩)] w λr w'=>r=.returned (.tuple #[])/\Rs w' p b (orf f (if b.length=0 then 0 else 32))/\Fr p w.heap.size w w':=by
 have HS:=ae h;obtain⟨a,cap,h0,h1,h2,h3,h4,h5,h6,h7,h8,h9,vJ⟩:=h.cells;have HR:=ae (bZ h 32);clear h h6 h7 h8 h9 vJ;by_cases hp:(b.length:Int) > 0
 ·rw[jex (by omega)]
  go_enter func280,ntmps280
  go_wp2_with fail;refine HR.o.mono ?_;rintro e w1 ⟨rfl,dr,cm⟩;have iW:=ae dr;clear dr;go_wp2_with fail;go_end0
  exact⟨rfl,iW.o,cm⟩
 ·have cy:b.length=0:=by omega
  rw[jey cy];have HO:jgt (orf f 0=f):=by show _=_;unfold orf;split<;>simp_all
  clear cy;go_enter func280,ntmps280
  go_wp2_with fail;go_end0
  rw[HO.o];exact⟨rfl,HS.o,Fr.refl _ _ _⟩
def tkB(c:Nat)(b:List Nat):List Nat:=if b.length<c then [] else b.take c
def tkR(c:Nat)(b:List Nat):List Nat:=if b.length<c then b else b.drop c
def tkF(c:Nat)(b:List Nat)(f:Nat):Nat:=if b.length<c then orf f 30 else f
def oE{w:World}{p f:Nat}{b:List Nat}(h:Rs w p b f)(c:Nat)(hc:c<18446744073709551616) :
  Calls prog 293 #[.pointer (some ⟨p,0,none⟩),.int .u64 (c:Int)] w λr w'=>(∃ v,r=.returned v/\Sv w' v (aA .u8 (tkB c b)))/\Rs w' p (tkR c b) (tkF c b f)/\Fr p w.heap.size w w':=by
 have HS:=ae h;obtain⟨a,cap,h0,h1,h2,h3,h4,h5,h6,h7,h8,h9,vJ⟩:=h.cells;have HR:=ae (bZ h 30);by_cases hp:b.length<c
 ·have hp':(c:Int) > (b.length:Int):=by omega
  have HB:jgt (tkB c b=[]/\tkR c b=b/\tkF c b f=orf f 30):=⟨jey hp,jey hp,jey hp⟩;clear h h6 h7 h8 h9 vJ hp;go_enter func293,ntmps293
  go_wp2_with fail;refine HR.o.mono ?_;rintro e w1 ⟨rfl,dr,cm⟩;have iW:=ae dr;have dN:=ae cm;clear dr cm;go_wp2_with fail;go_ret
  rw[HB.o.1,HB.o.2.1,HB.o.2.2];exact⟨⟨_,rfl,Sv.nil _⟩,iW.o,dN.o⟩
 ·have hp':¬ (c:Int) > (b.length:Int):=by omega
  have HB:jgt (tkB c b=b.take c/\tkR c b=b.drop c/\tkF c b f=f):=⟨jex hp,jex hp,jex hp⟩;obtain⟨A,hA,hSA⟩:=h9 c (by omega);have jD:=ae hSA;have HF:=ae ((Fr.refl p w.heap.size w).set 0 (.slice A (b.length-c) (cap-c)))
  have hT:Sv w (.slice a c cap) (aA .u8 (b.take c)):=by
   have:=h6.take (k:=c) (by rw[am];omega);rwa[<- zY]at this
  have hTb:0<(aA .u8 (b.take c)).length->∀ k,(Value.slice a c cap).ownBlock=some k->k<p:=λh0 k hk=>h7 (by rw[am,jeH]at h0;omega) k (by cases a with | none=>cases hk | some x=>exact hk)
  have HT:=ae (hT.keptW hTb ((jez p w).setCell (p:=⟨p,0,none⟩) (jeA _) (.slice A (b.length-c) (cap-c))));clear h h6 h7 h8 h9 vJ hp hSA hT hTb;go_enter func293,ntmps293
  go_wp2_with fail;go_ret
  rw[HB.o.1,HB.o.2.1,HB.o.2.2];exact⟨⟨_,rfl,HT.o⟩,jD.o,HF.o⟩
def uG{w:World}{p f:Nat}{b:List Nat}(h:Rs w p b f) :
  Calls prog 311 #[.pointer (some ⟨p,0,none⟩)] w λr w'=>r=.returned (.int .u64 ((gt b).1:Int))/\Rs w' p (b.drop (gt b).2.1) (orf f (gt b).2.2)/\Fr p w.heap.size w w':=by
 have HS:=ae h;have HB:=ae h.bs;obtain⟨a,cap,h0,h1,h2,h3,h4,h5,h6,h7,h8,h9,vJ⟩:=h.cells;obtain⟨g1,g2,g3,g4⟩:=fK b;have HG:=ae (Bk HB.o h6);clear h h6 h7 h8 h9 vJ g4;generalize gt b=x at *;obtain⟨n,u,c⟩:=x;simp only at *;unfold kQ at HG;go_enter func311,ntmps311
 go_wp2_with fail;refine HG.o.mono ?_;rintro e w1 ⟨rfl,rfl⟩;go_wp2_with fail;refine(bZ HS.o c).mono ?_;rintro e w2 ⟨rfl,cV,cM⟩;obtain⟨A0,Cap,k0,k1,k2,k3,k4,k5,k6,k7,k8,k9,k10⟩:=cV.cells;obtain⟨A,hA,hSA⟩:=k9 u g2;have jD:=ae hSA;have eW:=ae (cM.set 0 (.slice A (b.length-u) (Cap-u)));clear cV cM k6 k7 k8 k9 k10 hSA h0 h1 h2 h3;go_wp2_with fail;go_ret
 exact⟨rfl,jD.o,eW.o⟩
def chX:List Nat->Nat
 | []=>0
 | x::_=>if x<=1 then x else 0
def chF(b:List Nat)(f:Nat):Nat :=
 match b with
 | []=>orf f 30
 | x::_=>if x<=1 then f else orf f 40
def nN(x:Nat)(t:List Nat)(f:Nat):tkB 1 (x::t)=[x]/\tkR 1 (x::t)=t/\tkF 1 (x::t) f=f:=by
 refine⟨?_,?_,?_⟩
 ·unfold tkB;rw[jex (by simp)];rfl
 ·unfold tkR;rw[jex (by simp)];rfl
 ·unfold tkF;rw[jex (by simp)]
def xN{w:World}{p f:Nat}{b:List Nat}(h:Rs w p b f) :
  Calls prog 275 #[.pointer (some ⟨p,0,none⟩),.int .u8 0,.int .u8 1] w λr w'=>r=.returned (.int .u8 (chX b:Int))/\Rs w' p b.tail (chF b f)/\Fr p w.heap.size w w':=by
 have HT:=ae (oE h 1 (by omega));have ze:=ae h.bs;have ar:=h.lt;clear h;cases b with
 | nil =>
  have HE:jgt (tkB 1 []=[]/\tkR 1 []=[]/\tkF 1 [] f=orf f 30):=⟨rfl,rfl,rfl⟩;rw[HE.o.1,HE.o.2.1,HE.o.2.2]at HT;go_enter func275,ntmps275
  go_wp2_with fail;refine HT.o.mono ?_;rintro e w1 ⟨⟨v1,rfl,Dk⟩,dr,cm⟩;have iW:=ae dr;have dN:=ae cm;obtain⟨a,cap,rfl,_,_⟩:=Dk.form1;rw[am]at *;clear dr cm Dk;go_wp2_with fail;go_ret
  exact⟨rfl,iW.o,dN.o⟩
 | cons x t =>
  rw[(nN x t f).1,(nN x t f).2.1,(nN x t f).2.2]at HT;have hx:=ze.o x (by simp);go_enter func275,ntmps275
  go_wp2_with fail;refine HT.o.mono ?_;rintro e w1 ⟨⟨v1,rfl,Dk⟩,dr,cm⟩;have iW:=ae dr;have dN:=ae cm;obtain⟨a,cap,rfl,_,bx⟩:=Dk.form1;have hcm':cap<=9223372036854775807:=by unfold maxLen at bx;omega
  obtain⟨g,off,rfl,hg,bC⟩:=Dk.at1 (k:=0) (x:=.int .u8 (x:Int)) rfl;rw[jfk]at bC;rw[am]at *;clear Dk bx;by_cases Ra:x<=1
  ·have HE:jgt (chX (x::t)=x/\chF (x::t) f=f):=⟨jey Ra,jey Ra⟩
   obtain rfl | rfl:x=0∨x=1:=by omega
   ·clear dr cm
    go_wp2_with fail;go_ret
    rw[HE.o.1,HE.o.2];exact⟨rfl,iW.o,dN.o⟩
   ·clear dr cm
    go_wp2_with fail;go_ret
    rw[HE.o.1,HE.o.2];exact⟨rfl,iW.o,dN.o⟩
  ·have HE:jgt (chX (x::t)=0/\chF (x::t) f=orf f 40):=⟨jex Ra,jex Ra⟩
   have mY:((x:Int) != 0)=true:=by
    have:(x:Int)≠0:=by omega
    simpa using this
   have Gt:((x:Int) != 1)=true:=by
    have:(x:Int)≠1:=by omega
    simpa using this
   have HR:=ae (bZ dr 40);clear dr cm Ra;go_wp2_with fail;refine HR.o.mono ?_;rintro e w2 ⟨rfl,cV,cM⟩;have fJ:=ae cV;have eW:=ae (dN.o.trans (cM.mono dN.o.size));clear cV cM;go_wp2_with fail;go_ret
   rw[HE.o.1,HE.o.2];exact⟨rfl,fJ.o,eW.o⟩
def tB{c:Nat}{b:List Nat}(h:Bs b):Bs (tkB c b):=by
 unfold tkB;split
 ·exact λx hx=>by simp at hx
 ·exact h.take c
def uH{w:World}{p f:Nat}{b:List Nat}(h:Rs w p b f)(n:Nat)(hn:n<=256) :
  Calls prog 276 #[.pointer (some ⟨p,0,none⟩),.int .i64 (n:Int)] w λr w'=>(∃ v,r=.returned v/\eS w' w.heap.size v (unR (tkB (by8 n) b) n 1))/\Rs w' p (tkR (by8 n) b) (orf (tkF (by8 n) b f) (unE (tkB (by8 n) b) n 1))/\Fr p w.heap.size w w':=by
 have HB:=ae h.bs;have ar:=h.lt;have hby2:((n:Int)+8-1) / 8=((by8 n:Nat):Int):=by unfold by8;omega
 have iV:by8 n<=2048:=by unfold by8;omega
 have HT:=ae (oE h (by8 n) (by omega));have QP:=ae (tB (c:=by8 n) h.bs);clear h;generalize by8 n=L at *;generalize tkB L b=tb at *;generalize tkR L b=tr at *;generalize tkF L b f=tf at *;go_enter func276,ntmps276
 go_wp2_with fail;refine HT.o.mono ?_;rintro e w1 ⟨⟨v1,rfl,Dk⟩,dr,cm⟩;have iW:=ae dr;have dN:=ae cm;have bW:=cm.size;have HU:=ae (uh Dk.sx QP.o (n:Int) 1);clear dr cm Dk;go_wp2_with fail;refine HU.o.mono ?_;rintro e w2 ⟨v2,rfl,eA,ap⟩;have eb:=ae (bL eA bW);have aX:=ap.size;have fJ:=ae (iW.o.kept ap iW.o.lt);have eW:=ae (dN.o.trans (Fr.of_below (ap.mono bW)));clear eA ap;go_wp2_with fail;refine(bZ fJ.o _).mono ?_;rintro e w3 ⟨rfl,ln,iC⟩;have nf:=ae ln;have dL:jgt (eS w3 w.heap.size v2 (unR tb n 1)):=ae (iC.own eb.o ar);have mU:=ae (eW.o.trans (iC.mono (by omega)));clear ln iC;go_wp2_with fail;go_ret
 exact⟨⟨_,rfl,dL.o⟩,nf.o,mU.o⟩
def mS{w:World}{p f:Nat}{b:List Nat}(h:Rs w p b f)(n:Nat) :
  Calls prog 278 #[.pointer (some ⟨p,0,none⟩),.int .i64 (n:Int)] w λr w'=>(∃ v,r=.returned v/\co w' w.heap.size v (aU b n).1)/\Rs w' p [] (orf f (aU b n).2)/\Fr p w.heap.size w w':=by
 have HS:=ae h;have ar:=h.lt;obtain⟨a,cap,h0,h1,h2,h3,h4,h5,h6,h7,h8,h9,vJ⟩:=h.cells;have HR:=ae (EV h6 h.bs (n:Int));clear h h6 h7 h8 h9 vJ;unfold kG at HR;generalize aU b n=rd at *;obtain⟨l,er⟩:=rd;simp only at *;go_enter func278,ntmps278
 go_wp2_with fail;refine HR.o.mono ?_;rintro e w1 ⟨⟨v1,rfl,dM⟩,az⟩;have fX:=ae dM;have iW:=ae (HS.o.kept az ar);have dN:=ae (Fr.of_below (p:=p) az);have bW:=az.size;clear dM az h0 h1 h2 h3;go_wp2_with fail;refine(bZ iW.o _).mono ?_;rintro e w2 ⟨rfl,cV,cM⟩;have eb:=ae (fX.o.fr cM ar);have eW:=ae (dN.o.trans (cM.mono bW));have aX:=cM.size;obtain⟨A0,Cap,k0,k1,k2,k3,k4,k5,k6,k7,k8,k9,k10⟩:=cV.cells;have nf:=ae k10;have mU:=ae (eW.o.set 0 (.slice none 0 0));have dL:=ae (eb.o.fr ((Fr.refl p w2.heap.size w2).set 0 (.slice none 0 0)) ar);clear cV cM k6 k7 k8 k9 k10;go_wp2_with fail;go_ret
 exact⟨⟨_,rfl,dL.o⟩,nf.o,mU.o⟩
def pW{w:World}{p f:Nat}{b:List Nat}(h:Rs w p b f)(n:Nat) :
  Calls prog 312 #[.pointer (some ⟨p,0,none⟩),.int .i64 (n:Int)] w λr w'=>(∃ v,r=.returned v/\co w' w.heap.size v (aU (tkB (gt b).1 (b.drop (gt b).2.1)) n).1) /\
   Rs w' p (tkR (gt b).1 (b.drop (gt b).2.1)) (orf (tkF (gt b).1 (b.drop (gt b).2.1) (orf f (gt b).2.2)) (aU (tkB (gt b).1 (b.drop (gt b).2.1)) n).2)/\Fr p w.heap.size w w':=by
 have ar:=h.lt;have HN:=ae (uG h);have g1:=(fK b).1;have Df:=ae (tB (c:=(gt b).1) (h.bs.drop (gt b).2.1));clear h;generalize (gt b).1=sz at *;generalize b.drop (gt b).2.1=b1 at *;generalize orf f (gt b).2.2=f1 at *;have pr:=ae (λ(W:World) (hs:Rs W p b1 f1)=>oE hs sz g1);generalize tkB sz b1=tb at *;generalize tkR sz b1=tr at *;generalize tkF sz b1 f1=tf at *;have HRD:=ae (λ(W:World) (v:Value) (hv:Sv W v (aA .u8 tb))=>EV hv Df.o (n:Int));unfold kG at HRD;generalize aU tb n=rd at *;obtain⟨l,er⟩:=rd;simp only at *;go_enter func312,ntmps312
 go_wp2_with fail;refine HN.o.mono ?_;rintro e w1 ⟨rfl,dr,cm⟩;have HT:=ae (pr.o _ dr);have dN:=ae cm;have bW:=cm.size;clear dr cm;go_wp2_with fail;refine HT.o.mono ?_;rintro e w2 ⟨⟨v2,rfl,hv2⟩,cV,cM⟩;have fJ:=ae cV;have eW:=ae (dN.o.trans (cM.mono bW));have aX:=cM.size;have HR:=ae (HRD.o _ _ hv2);clear cV cM hv2;go_wp2_with fail;refine HR.o.mono ?_;rintro e w3 ⟨⟨v3,rfl,fy⟩,aJ⟩;have dL:=ae (bL fy (jeK bW aX));have nf:=ae (fJ.o.kept aJ fJ.o.lt);have mU:=ae (eW.o.trans (Fr.of_below (aJ.mono (jeK bW aX))));have gy:=aJ.size;clear fy aJ;go_wp2_with fail;refine(bZ nf.o _).mono ?_;rintro e w4 ⟨rfl,yb,pt⟩;have gT:jgt (co w4 w.heap.size v3 l):=ae (pt.own dL.o ar);have zc:=ae yb;have ya:=ae (mU.o.trans (pt.mono (by omega)));clear yb pt;go_wp2_with fail;go_ret
 exact⟨⟨_,rfl,gT.o⟩,zc.o,ya.o⟩
def Er(f:Nat):Prop:=f=0∨f=30∨f=31∨f=32∨f=40∨f=50
def Er.orf{f e:Nat}(h:Er f)(h2:Er e):Er (orf f e):=by
 unfold YtpljdjmpamjkhaaGreatDoor.orf;split
 ·exact h2
 ·exact h
def bm{f e:Nat}(h:orf f e=0):f=0/\e=0:=by
 unfold orf at h;split at h
 ·next h1=>exact⟨h1,h⟩
 ·next h1=>exact absurd h h1
def Es{α : Type}(d:List Nat->Except Nat (α×List Nat)):Prop:=∀ b e,d b=.error e->Er e
def Es.bind{α β : Type}{d:List Nat->Except Nat (α×List Nat)}{f:α->List Nat->Except Nat (β×List Nat)}(h1:Es d)(h2:∀ x,Es (f x)):Es (aw d f):=by
 intro b e h;unfold aw at h;split at h
 ·next x r _=>exact h2 x r e h
 ·next e' he =>
  cases h
  exact h1 b _ he
def Es.ok{α : Type}{x:List Nat->α×List Nat}:Es (λr=>(.ok (x r):Except Nat (α×List Nat))):=λb e h=>by cases h
def Es.err{α : Type}{e:Nat}(h:Er e):Es (λ_=>(.error e:Except Nat (α×List Nat))):=λb e' h'=>by cases h';exact h
def Es.ite{α : Type}{c:Prop}[Decidable c]{d1 d2:List Nat->Except Nat (α×List Nat)}(h1:Es d1)(h2:¬ c->Es d2):Es (if c then d1 else d2):=by
 split
 ·exact h1
 ·next h=>exact h2 h
def Fh(b:List Nat):Er (gt b).2.2:=by
 obtain⟨_,_,_,h | ⟨h | h,_⟩⟩:=fK b
 ·exact Or.inl h
 ·exact Or.inr (Or.inl h)
 ·exact Or.inr (Or.inr (Or.inl h))
def Fi:Es wh:=λb e h=>by
 unfold wh at h;split at h
 ·cases h
 ·cases h
  exact Fh b
def Ch:Es num:=λb e h=>by
 unfold num at h;split at h
 ·cases h
 ·cases h
  exact Fh b
def Ke{b:List Nat}{n w:Nat}(hn:n<=256)(hw:w<=64):Er (unE b n w):=by
 unfold unE;rw[jey (by omega)];split
 ·exact Or.inl rfl
 ·exact Or.inr (Or.inr (Or.inr (Or.inr (Or.inl rfl))))
def UU{n w:Nat}(hn:n<=256)(hw:w<=64):Es (pkd n w):=λb e h=>by
 unfold pkd at h;split at h
 ·cases h
  exact Or.inr (Or.inl rfl)
 ·split at h
  ·cases h
   exact Or.inr (Or.inr (Or.inr (Or.inl rfl)))
  ·split at h
   ·cases h
   ·cases h
    exact Ke hn hw
def vy:Er 40:=Or.inr (Or.inr (Or.inr (Or.inr (Or.inl rfl))))
def er32:Er 32:=Or.inr (Or.inr (Or.inr (Or.inl rfl)))
def Zj:Er 30:=Or.inr (Or.inl rfl)
def er50:Er 50:=Or.inr (Or.inr (Or.inr (Or.inr (Or.inr rfl))))
def er0:Er 0:=Or.inl rfl
def UW:∀ n,Es (rd0 n)
 | 0=>λb e h=>by cases h
 | n+1=>by
  have:=(Fi).bind (f:=λx=>aw (rd0 n) (λl r=>.ok (x::l,r))) (λx=>(UW n).bind (λl=>Es.ok));exact this
def UX:∀ n last,Es (rd1 n last)
 | 0,_=>λb e h=>by cases h
 | n+1,last=>by
  have:=(Fi).bind (f:=λd=>aw (rd1 n (w64 (last+d))) (λl r=>.ok (w64 (last+d)::l,r))) (λd=>(UX n _).bind (λl=>Es.ok));exact this
def UY:∀ f n,Es (rd2 f n)
 | 0,_=>λb e h=>by cases h
 | f+1,n=>λb e h=>by
  unfold rd2 at h;split at h
  ·cases h
  ·exact(Fi.bind (λx=>Ch.bind (λk=>Es.ite (Es.err vy) (λ_=>(UY f (n-k)).bind (λl=>Es.ok))))) b e h
def UZ:∀ m last,Es (rdU m last)
 | 0,_=>λb e h=>by cases h
 | m+1,last=>λb e h=>by
  unfold rdU at h;exact(Ch.bind (λd=>Es.ite (Es.err vy) (λ_=>(UZ m _).bind (λl=>Es.ok)))) b e h
def jci{n:Nat}(hn:n<=256):Es (rd3 n):=λb e h=>by
 unfold rd3 at h;refine(Ch.bind (λmany=>Es.ite (Es.err vy) (λhm=>Es.ite Es.ok (λh0=>Fi.bind (λx=>(UZ _ x).bind (λu=>(UU hn ?_).bind (λp r e he=>?_))))))) b e h
 ·rw[fL]
  have:many-1<2 ^ 64:=by
   have:(2:Nat) ^ 64=18446744073709551616:=by decide
   omega
  exact this
 ·unfold picked at he
  split at he
  ·cases he
  ·cases he
   exact vy
def jcj{n:Nat}(hn:n<=256):Es (rd4 n):=λb e h=>by
 unfold rd4 at h;split at h
 ·cases h
 ·exact(Fi.bind (λx=>Ch.bind (λw=>Es.ite (Es.err vy) (λhw=>(UU hn (by omega)).bind (λp=>Es.ok))))) b e h
def jck{c n:Nat}(hn:n<=256):Es (rdC c n):=by
 unfold rdC;split
 ·exact UW n
 ·exact UX n 0
 ·exact UY n n
 ·exact jci hn
 ·exact jcj hn
def rI{b:List Nat}{n:Nat}(hn:n<=256):Er (aU b n).2:=by
 unfold aU;rw[jey (by omega)];split
 ·exact Zj
 ·next c t =>
  split
  ·exact er50
  ·split
   ·exact er0
   ·next e he =>
    unfold mN at he;split at he
    ·next e' he' =>
     cases he
     exact jck (by omega) _ _ he'
    ·split at he
     ·split at he
      ·cases he
      ·cases he
       exact vy
     ·cases he
      exact er32
def pX{b:List Nat}{n:Nat}(hb:Bs b)(hn:n<=256):Is (aU b n).1/\(aU b n).1.length<=n:=by
 by_cases h:(aU b n).2=0
 ·obtain⟨h1,h2⟩:=iK hb h
  exact⟨h2,by omega⟩
 ·have:(aU b n).1=[]:=by
   unfold aU at h ⊢;rw[jey (by omega)]at h ⊢;split
   ·rfl
   ·next c t =>
    split
    ·rfl
    ·next h4 =>
     simp only[jex h4]at h;split
     ·next l hl =>
      rw[hl]at h;exact absurd rfl h
     ·rfl
  rw[this];exact⟨λx hx=>by simp at hx,by simp⟩
def RP{α : Type}(Ok:α->Prop)(G:α->List Nat->Prop)(f:Nat)(x:α)(b':List Nat)(f':Nat):Prop :=
 Er f'/\(f'=0->f=0/\Ok x)/\∀ y r,f=0->Ok y->G y r->f'=0/\x=y/\b'=r
def Ni(n:Nat)(l:List Int):Prop:=l.length=n/\Is l
def Nt(n:Nat)(l:List (List Nat)):Prop:=l.length=n/\Ts l
def gq{a r:List Nat}(f:Nat):tkB a.length (a++r)=a/\tkR a.length (a++r)=r/\tkF a.length (a++r) f=f:=by
 have h:¬ (a++r).length<a.length:=by rw[jeC];omega
 refine⟨?_,?_,?_⟩
 ·unfold tkB;rw[jex h,jfo]
 ·unfold tkR;rw[jex h,jfc]
 ·unfold tkF;rw[jex h]
def Ci{c:Nat}{b:List Nat}{f:Nat}(h:Er f):Er (tkF c b f):=by
 unfold tkF;split
 ·exact h.orf Zj
 ·exact h
def rJ{c:Nat}{b:List Nat}{f:Nat}(h:tkF c b f=0):f=0/\¬ b.length<c:=by
 unfold tkF at h;split at h
 ·have:=(bm h).2
  omega
 ·next h1=>exact⟨h,h1⟩
def Kf{b:List Nat}{f n:Nat}(hb:Bs b)(hn:n<=256)(hf:Er f) :
  RP (Ni n) (λl r=>b=cnt l++r) f (aU (tkB (gt b).1 (b.drop (gt b).2.1)) n).1 (tkR (gt b).1 (b.drop (gt b).2.1)) (orf (tkF (gt b).1 (b.drop (gt b).2.1) (orf f (gt b).2.2)) (aU (tkB (gt b).1 (b.drop (gt b).2.1)) n).2):=by
 refine⟨(Ci (hf.orf (Fh b))).orf (rI hn),λh=>?_,λl r h0 hl hg=>?_⟩
 ·obtain⟨h1,h2⟩:=bm h
  obtain⟨h3,h4⟩:=iK (tB (hb.drop _)) h2;exact⟨(bm (rJ h1).1).1,by omega,h4⟩
 ·obtain⟨De,qs⟩:=hl
  have hs:=(jY qs (by omega)).1
  have Gl:gt b=((dx l).length,(uv (dx l).length).length,0):=by
   rw[hg];unfold cnt;rw[jeQ];exact mr _ (by omega) _
  have hd:b.drop (uv (dx l).length).length=dx l++r:=by
   rw[hg];unfold cnt;rw[jeQ,jfc]
  have Rb:=jX qs (by omega);rw[De]at Rb;rw[Gl];simp only;rw[hd,(gq (a:=dx l) (r:=r) 0).1,(gq (a:=dx l) (r:=r) 0).2.1,(gq (a:=dx l) (r:=r) (orf f 0)).2.2,Rb,h0];exact⟨rfl,rfl,rfl⟩
def Sv.keptFr{W W':World}{p B:Nat}{v:Value}{xs:List Value}(h:Sv W v xs)(hv:∀ k,v.ownBlock=some k->k<B/\k≠p)(hf:Fr p B W W'):Sv W' v xs:=by
 obtain⟨a,cap,rfl,h1,h2,h3,h4⟩:=h;refine⟨a,cap,rfl,h1,h2,h3,λh0=>?_⟩;obtain⟨b,off,rfl,h5,h6⟩:=h4 h0;have hb:=hv b rfl;exact⟨b,off,rfl,jeY h5 hf.size,λj x hj=>(World.cell?_of_block (w:=W) (a:=⟨b,off+j,none⟩) (hf.block b hb.1 hb.2)).trans (h6 j x hj)⟩
def LI(sz:List Int)(b1:List Nat)(f1 j:Nat)(l:List (List Nat))(bj:List Nat)(fj:Nat):Prop :=
 l.length=j/\Ts l/\Er fj/\(fj=0->f1=0)/\∀ y r,f1=0->Ts y->ig y=sz->b1=y.flatten++r->fj=0/\l=y.take j/\bj=(y.drop j).flatten++r
def LI.start{sz:List Int}{b1:List Nat}{f1:Nat}(hf:Er f1):LI sz b1 f1 0 [] b1 f1 :=
 ⟨rfl,λs hs=>by simp at hs,hf,λh=>h,λy r h1 _ _ h4=>⟨h1,by simp,by simpa using h4⟩⟩
def Zk{c:Nat}{b:List Nat}:(tkB c b).length<=c:=by
 unfold tkB;split
 ·simp
 ·rw[jeH];omega
def LI.step{sz:List Int}{b1:List Nat}{f1 j:Nat}{l:List (List Nat)}{bj:List Nat}{fj:Nat}(h:LI sz b1 f1 j l bj fj)(hb:Bs bj)(hj:j<sz.length)(h0:0<=sz[j])(qr:sz[j]<=64) :
  LI sz b1 f1 (j+1) (l++[tkB sz[j].toNat bj]) (tkR sz[j].toNat bj) (tkF sz[j].toNat bj fj):=by
 obtain⟨h1,h2,h3,h4,h5⟩:=h;have hl:=Zk (c:=sz[j].toNat) (b:=bj);refine⟨by simp[h1],λs hs=>?_,Ci h3,λh=>h4 (rJ h).1,λy r a1 a2 a3 a4=>?_⟩
 ·rcases je1.1 hs with hs | hs
  ·exact h2 s hs
  ·have:s=tkB sz[j].toNat bj:=by simpa using hs
   subst this;exact⟨by omega,tB hb⟩
 ·obtain⟨c1,c2,c3⟩:=h5 y r a1 a2 a3 a4
  have hy:j<y.length:=by rw[<- a3,bU]at hj;exact hj
  have hz:sz[j]=(y[j].length:Int):=by
   have:(ig y)[j]?=some (y[j].length:Int):=by simp[ig,hy]
   rw[a3,List.getElem?_eq_getElem hj]at this;exact Option.some.inj this
  have hd:y.drop j=y[j]::y.drop (j+1):=je8 hy;rw[hd,jfO,jeQ]at c3;rw[hz,je3,c3,(gq (a:=y[j]) fj).1,(gq (a:=y[j]) fj).2.1,(gq (a:=y[j]) fj).2.2,c2,jeO hy];exact⟨c1,rfl,rfl⟩
def LI.bad{sz:List Int}{b b1 bz:List Nat}{f f1 j n:Nat}{l:List (List Nat)}{bj:List Nat}{fj:Nat}(hc:RP (Ni n) (λl r=>b=cnt l++r) f sz b1 f1)(h:LI sz b1 f1 j l bj fj)(hj:j<sz.length)(hw:sz[j]<0∨64<sz[j]) :
  RP (Nt n) (λl r=>b=jz l++r) f [] bz (orf fj 40):=by
 obtain⟨h1,h2,h3,h4,h5⟩:=h;refine⟨h3.orf vy,λh=>absurd (bm h).2 (by omega),λy r a1 a2 a3=>?_⟩;obtain⟨d1,d2,d3⟩:=hc.2.2 (ig y) (y.flatten++r) a1 ⟨by rw[bU];exact a2.1,jZ a2.2⟩ (by rw[a3];unfold jz;rw[jeQ]);have hy:j<y.length:=by rw[d2,bU]at hj;exact hj
 have hz:sz[j]=(y[j].length:Int):=by
  have:(ig y)[j]?=some (y[j].length:Int):=by simp[ig,hy]
  rw[<- d2,List.getElem?_eq_getElem hj]at this;exact Option.some.inj this
 have:=(a2.2 _ (jeD hy)).1;omega
def LI.done{sz:List Int}{b b1:List Nat}{f f1 n:Nat}{l:List (List Nat)}{bj:List Nat}{fj:Nat}(hc:RP (Ni n) (λl r=>b=cnt l++r) f sz b1 f1)(h:LI sz b1 f1 sz.length l bj fj) :
  RP (Nt n) (λl r=>b=jz l++r) f l bj fj:=by
 obtain⟨h1,h2,h3,h4,h5⟩:=h;refine⟨h3,λh=>?_,λy r a1 a2 a3=>?_⟩
 ·obtain⟨e1,e2⟩:=hc.2.1 (h4 h)
  exact⟨e1,by rw[h1];exact e2.1,h2⟩
 ·obtain⟨d1,d2,d3⟩:=hc.2.2 (ig y) (y.flatten++r) a1 ⟨by rw[bU];exact a2.1,jZ a2.2⟩ (by rw[a3];unfold jz;rw[jeQ])
  obtain⟨c1,c2,c3⟩:=h5 y r d1 a2.2 d2.symm d3;have Gj:sz.length=y.length:=by rw[d2,bU]
  rw[Gj]at c2 c3;rw[jeJ]at c2;rw[jfg]at c3;exact⟨c1,c2,by simpa using c3⟩
def Va(n:Nat)(G:List (List Nat)->List Nat->Prop)(p f:Nat)(w:World)(r:Ending)(w':World):Prop :=
 ∃ l b' f',(∃ v,r=.returned v/\jn w' w.heap.size v l)/\Ts l/\l.length<=n/\Rs w' p b' f'/\RP (Nt n) G f l b' f'/\Fr p w.heap.size w w'
def Fj{w:World}{p f:Nat}{b:List Nat}(h:Rs w p b f)(hf:Er f)(n:Nat)(hn:n<=256) :
  Calls prog 298 #[.pointer (some ⟨p,0,none⟩),.int .i64 (n:Int)] w (Va n (λl r=>b=jz l++r) p f w):=by
 have ar:=h.lt;have ix:=ae (pW h n);have Ln:=ae (Kf h.bs hn hf);have Lo:=ae (pX (tB (c:=(gt b).1) (h.bs.drop (gt b).2.1)) hn);clear h;generalize (aU (tkB (gt b).1 (b.drop (gt b).2.1)) n).1=sz at *;generalize (orf (tkF (gt b).1 (b.drop (gt b).2.1) (orf f (gt b).2.2)) (aU (tkB (gt b).1 (b.drop (gt b).2.1)) n).2)=f1 at *;generalize tkR (gt b).1 (b.drop (gt b).2.1)=b1 at *;have hszl:=Lo.o.2;go_enter func298,ntmps298
 go_wp2_with fail;refine ix.o.mono ?_;rintro e w1 ⟨⟨v1,rfl,dM⟩,dr,cm⟩;have iW:=ae dr;have dN:=ae cm;have bW:=cm.size;have WI:=ae dM.sv
 have Rc:jgt (∀ k,v1.ownBlock=some k->k<w1.heap.size/\k≠p):=ae (λk hk=>by
  have:=dM.lt k hk;exact⟨this.2,by omega⟩)
 obtain⟨a1,c1,rfl,ju,sw⟩:=aZ dM;have hcm1':c1<=9223372036854775807:=by unfold maxLen at sw;omega
 clear dr cm dM sw;go_wp2_with fail;go_loopw [5,12] (λo i wr=>∃(j:Nat) (l:List (List Nat)) (bj:List Nat) (fj:Nat),j<=sz.length/\i=.int .i64 (j:Int)/\jn wr w1.heap.size o l/\LI sz b1 f1 j l bj fj/\Rs wr p bj fj/\Fr p w1.heap.size w1 wr) (λ_ i _=>sz.length-(intOf i).toNat)
 case atStart=>exact⟨0,[],b1,f1,by omega,rfl,jn.nil _ _,LI.start Ln.o.1,iW.o,Fr.refl _ _ _⟩
 case round =>
  obtain⟨j,l,bj,fj,hj,rfl,ax,hli,hsj,hfj⟩:=hrel;have HO:=ae ax;have za:=ae hli;have HSJ:=ae hsj;have HFJ:=ae hfj;have bF:=hfj.size;have jE:l.length=j:=hli.1;clear ax hli hsj hfj;by_cases vG:j<sz.length
  ·obtain⟨g,off,rfl,hg,bC⟩:=(WI.o.keptFr Rc.o HFJ.o).at vG
   have cF:=ae (za.o.step HSJ.o.bs vG);have tP:=ae (λbz hw=>za.o.bad (bz:=bz) Ln.o vG hw);have hjl':(j:Int)<(sz.length:Int):=(by omega);generalize sz[j]=z at *;by_cases bR:z<0
   ·go_wp2_with fail
    refine(bZ HSJ.o 40).mono ?_;rintro e w3 ⟨rfl,ln,iC⟩;have nf:=ae ln;have mU:=ae (dN.o.trans ((HFJ.o.trans (iC.mono bF)).mono bW));clear ln iC;go_wp2_with fail;go_ret
    exact⟨[],_,_,⟨_,rfl,jn.nil _ _⟩,λs hs=>by simp at hs,by simp,nf.o,tP.o _ (Or.inl bR),mU.o⟩
   ·by_cases hz64:z > 64
    ·go_wp2_with fail
     refine(bZ HSJ.o 40).mono ?_;rintro e w3 ⟨rfl,ln,iC⟩;have nf:=ae ln;have mU:=ae (dN.o.trans ((HFJ.o.trans (iC.mono bF)).mono bW));clear ln iC;go_wp2_with fail;go_ret
     exact⟨[],_,_,⟨_,rfl,jn.nil _ _⟩,λs hs=>by simp at hs,by simp,nf.o,tP.o _ (Or.inr (by omega)),mU.o⟩
    ·obtain⟨zn,rfl⟩:∃ zn:Nat,z=(zn:Int):=⟨z.toNat,by omega⟩
     have HST':=ae (cF.o (by omega) (by omega));rw[je3]at HST';have pr:=ae (oE HSJ.o zn (by omega));have AP:=ae (tB (c:=zn) HSJ.o.bs);clear cF tP;generalize tkB zn bj=tb at *;generalize tkR zn bj=tr at *;generalize tkF zn bj fj=tf at *;go_wp2_with fail;refine pr.o.mono ?_;rintro e w3 ⟨⟨v3,rfl,hv3⟩,ln,iC⟩;have KZ:=hv3.conv AP.o;have nf:=ae ln;have mU:=ae (HFJ.o.trans (iC.mono bF));have gy:=iC.size;have dL:jgt (jn w3 w1.heap.size _ l):=ae (iC.own HO.o (by omega));clear ln iC hv3;unfold txt at KZ;have hlen':l.length<=100000:=(by omega);go_wp2_with (first | (at_builtin;refine jB rfl _ _ rfl w1.heap.size _ _ tb l rfl (dL.o.kept (aj _ _)) rfl (aV _ _ _) hlen' ?c2 ?_))
     case c2=>first | omega | (rw[jeB];omega)
     intro v' w4 o4 b4;have gT:=ae o4;have bD:=((aj w3 (.cells #[txt tb] 9)).mono (show w1.heap.size<=w3.heap.size by omega)).trans b4;have zc:=ae (nf.o.kept bD (by omega));have ya:=ae (mU.o.then bD);clear o4 b4 bD;go_wp2_with fail;go_roundw
     case rel=>exact⟨j+1,l++[tb],tr,tf,by omega,by go_num,gT.o,HST'.o,zc.o,ya.o⟩
     case measure=>simp[intOf];omega
  ·have:j=sz.length:=by omega
   subst this;have HDN:=ae (za.o.done Ln.o);have ye:=ae za.o.2.1;have ed:¬ ((sz.length:Nat):Int)<(sz.length:Int):=(by omega);have RJ:=ae (dN.o.trans (HFJ.o.mono bW));go_wp2_with fail;go_ret
   exact⟨l,bj,fj,⟨_,rfl,bL HO.o bW⟩,ye.o,by omega,HSJ.o,HDN.o,RJ.o⟩
def byP(b:List Nat)(l:List (List Nat))(r:List Nat):Prop:=b=uv (tuq l).length++(jz (tuq l)++dx (ep l))/\r=[]
def Fk{b r:List Nat}{y:List (List Nat)}{n:Nat}(hn:n<=256)(hy:Nt n y)(hg:byP b y r):gt b=((tuq y).length,(uv (tuq y).length).length,0)/\b.drop (uv (tuq y).length).length=jz (tuq y)++dx (ep y)/\(tuq y).length<=n:=by
 have hl:=ko y;have h1:=hy.1;refine⟨?_,?_,by omega⟩
 ·rw[hg.1]
  exact mr _ (by omega) _
 ·rw[hg.1,jfc]
def Vb{b bz:List Nat}{f n:Nat}(hn:n<=256)(hf:Er f)(h:n<(gt b).1):RP (Nt n) (byP b) f [] bz (orf (orf f (gt b).2.2) 40):=by
 refine⟨(hf.orf (Fh b)).orf vy,λh=>absurd (bm h).2 (by omega),λy r a1 a2 a3=>?_⟩;obtain⟨h1,h2,h3⟩:=Fk hn a2 a3;rw[h1]at h;exact absurd h (by simp only;omega)
def Fl{b:List Nat}{f n:Nat}{u:List (List Nat)}{b2:List Nat}{f2:Nat}(hn:n<=256)(hc:RP (Nt (gt b).1) (λl r=>b.drop (gt b).2.1=jz l++r) (orf f (gt b).2.2) u b2 f2){y:List (List Nat)}{r:List Nat}(h0:f=0)(hy:Nt n y)(hg:byP b y r) :
  f2=0/\u=tuq y/\aU b2 n=(ep y,0):=by
 obtain⟨h1,h2,h3⟩:=Fk hn hy hg;rw[h1]at hc;simp only at hc;rw[h2,h0]at hc;obtain⟨d1,d2,d3⟩:=hc.2.2 (tuq y) (dx (ep y)) rfl ⟨rfl,sW hy.2⟩ rfl;have hb:=jX (je (l:=y) (by have:=hy.1;omega)) (by rw[dp];have:=hy.1;omega);rw[dp,hy.1]at hb;exact⟨d1,d2,by rw[d3];exact hb⟩
def Zl{b bz:List Nat}{f n j:Nat}{u:List (List Nat)}{b2:List Nat}{f2:Nat}(hn:n<=256)(hc:RP (Nt (gt b).1) (λl r=>b.drop (gt b).2.1=jz l++r) (orf f (gt b).2.2) u b2 f2)
  (hj:j<(aU b2 n).1.length) (hw:(aU b2 n).1[j]<0∨(u.length:Int)<=(aU b2 n).1[j]):RP (Nt n) (byP b) f [] bz (orf (orf f2 (aU b2 n).2) 40):=by
 refine⟨(hc.1.orf (rI hn)).orf vy,λh=>absurd (bm h).2 (by omega),λy r a1 a2 a3=>?_⟩;obtain⟨h1,h2,h3⟩:=Fl hn hc a1 a2 a3
 have hm:∀ q∈(aU b2 n).1,q∈ep y:=λq hq=>by
  rw[h3]at hq;exact hq
 have:=pE _ (hm _ (jeD hj));rw[<- h2]at this;omega
def Vc{b:List Nat}{f n:Nat}{u:List (List Nat)}{b2:List Nat}{f2:Nat}(hn:n<=256)(ap:Bs b2)(hu:Ts u)(hc:RP (Nt (gt b).1) (λl r=>b.drop (gt b).2.1=jz l++r) (orf f (gt b).2.2) u b2 f2)
  (ch:∀ q∈(aU b2 n).1,0<=q/\q<(u.length:Int)):RP (Nt n) (byP b) f ((aU b2 n).1.map λq=>u.getD q.toNat []) [] (orf f2 (aU b2 n).2):=by
 refine⟨hc.1.orf (rI hn),λh=>?_,λy r a1 a2 a3=>?_⟩
 ·obtain⟨h1,h2⟩:=bm h
  obtain⟨h3,h4⟩:=hc.2.1 h1;obtain⟨h5,h6⟩:=iK ap h2;refine⟨(bm h3).1,by rw[jeE];omega,λs hs=>?_⟩;obtain⟨q,hq,rfl⟩:=jeN.1 hs;have nc:=ch q hq;have ar:q.toNat<u.length:=by omega
  rw[List.getD_eq_getElem?_getD,List.getElem?_eq_getElem ar];exact hu _ (jeD ar)
 ·obtain⟨h1,h2,h3⟩:=Fl hn hc a1 a2 a3
  rw[h3,h1,h2];exact⟨rfl,qQ y,a3.2.symm⟩
def Zm{u:List (List Nat)}(hu:Ts u)(q:Nat):(u.getD q []).length<=64/\Bs (u.getD q []):=by
 rcases je0 q u.length with h | h
 ·rw[List.getD_eq_getElem?_getD,List.getElem?_eq_getElem h]
  exact hu _ (jeD h)
 ·rw[List.getD_eq_getElem?_getD,List.getElem?_eq_none h]
  exact⟨by simp,λx hx=>by simp at hx⟩
def rK{w:World}{p f:Nat}{b:List Nat}(h:Rs w p b f)(hf:Er f)(n:Nat)(hn:n<=256) :
  Calls prog 297 #[.pointer (some ⟨p,0,none⟩),.int .i64 (n:Int)] w (Va n (byP b) p f w):=by
 have ar:=h.lt;have HN:=ae (uG h);have g1:=(fK b).1;have HMANY:=ae (λbz h=>Vb (b:=b) (bz:=bz) (f:=f) hn hf h);have tP:=ae (λbz j u b2 f2 hc hj hw=>Zl (b:=b) (bz:=bz) (f:=f) (j:=j) (u:=u) (b2:=b2) (f2:=f2) hn hc hj hw);have jbn:=ae (λu b2 f2 ap hu hc ch=>Vc (b:=b) (f:=f) (u:=u) (b2:=b2) (f2:=f2) hn ap hu hc ch);have Di:=ae (hf.orf (Fh b));clear h;generalize (gt b).1=c at *;generalize b.drop (gt b).2.1=b1 at *;generalize orf f (gt b).2.2=f1 at *;go_enter func297,ntmps297
 go_wp2_with fail;refine HN.o.mono ?_;rintro e w1 ⟨rfl,dr,cm⟩;have iW:=ae dr;have dN:=ae cm;have bW:=cm.size;clear dr cm;by_cases hmany:n<c
 ·have hm':(c:Int) > (n:Int):=by omega
  go_wp2_with fail;refine(bZ iW.o 40).mono ?_;rintro e w2 ⟨rfl,cV,cM⟩;have fJ:=ae cV;have eW:=ae (dN.o.trans (cM.mono bW));clear cV cM;go_wp2_with fail;go_ret
  exact⟨[],_,_,⟨_,rfl,jn.nil _ _⟩,λs hs=>by simp at hs,by simp,fJ.o,HMANY.o _ hmany,eW.o⟩
 ·have hm':¬ (c:Int) > (n:Int):=by omega
  have HL:=ae (Fj iW.o Di.o c (by omega));go_wp2_with fail;refine HL.o.mono ?_;rintro e w2 ⟨u,b2,f2,⟨v2,rfl,eA⟩,GK,QN,cV,hrp2,cM⟩;have eb:=ae eA;have ye:=ae GK;have HRP2:=ae hrp2;have eW:=ae (dN.o.trans (cM.mono bW));have aX:=cM.size;have aG:=ae cV.bs;have RE:=ae (mS cV n);have Lo:=ae (pX cV.bs hn);have HU2:=ae eA.sv;obtain⟨au,cu,rfl,hcu,hcmu⟩:=aZ eA;have hcmu':cu<=9223372036854775807:=by unfold maxLen at hcmu;omega
  have HUB:jgt (∀ k,(Value.slice au u.length cu).ownBlock=some k->k<w2.heap.size/\k≠p):=ae (λk hk=>by
   have:=eA.lt k hk;exact⟨this.2,by omega⟩)
  clear eA GK cV hrp2 cM hcmu;have HBAD2:=ae (λbz j hj hw=>tP.o bz j u b2 f2 HRP2.o hj hw);have jdd:=ae (λch=>jbn.o u b2 f2 aG.o ye.o HRP2.o ch);clear tP jbn;generalize (aU b2 n).1=pl at *;generalize orf f2 (aU b2 n).2=f3 at *;have hpll:=Lo.o.2;go_wp2_with fail;refine RE.o.mono ?_;rintro e w3 ⟨⟨v3,rfl,fy⟩,ln,iC⟩;have nf:=ae ln;have mU:=ae (eW.o.trans (iC.mono (jeK bW aX)));have gy:=iC.size;have HU3:=ae (HU2.o.keptFr HUB.o iC);have HV3:=ae fy.sv;have Rc:jgt (∀ k,v3.ownBlock=some k->k<w3.heap.size):=ae (λk hk=>(fy.lt k hk).2);have HUB3:jgt (∀ k,(Value.slice au u.length cu).ownBlock=some k->k<w3.heap.size):=ae (λk hk=>by have:=(HUB.o k hk).1;omega);obtain⟨a3,c3,rfl,Gx,jcT⟩:=aZ fy;have hcm3':c3<=9223372036854775807:=by unfold maxLen at jcT;omega
  clear fy ln iC jcT;go_wp2_with fail;go_loopw [7,26] (λo i wr=>∃ j:Nat,j<=pl.length/\i=.int .i64 (j:Int)/\jn wr w3.heap.size o ((pl.take j).map λq=>u.getD q.toNat [])/\(∀ q∈pl.take j,0<=q/\q<(u.length:Int))/\jgu w3 wr) (λ_ i _=>pl.length-(intOf i).toNat)
  case atStart=>exact⟨0,by omega,rfl,jn.nil _ _,λq hq=>by simp at hq,jez _ _⟩
  case round =>
   obtain⟨j,hj,rfl,ax,ch,ao⟩:=hrel;have HO:=ae ax;have Rd:=ae ch;have WR:=ae ao;have bF:=ao.size;have sg:=ae (nf.o.kept ao nf.o.lt);clear ax ch ao;by_cases vG:j<pl.length
   ·obtain⟨g,off,rfl,hg,bC⟩:=(HV3.o.keptB Rc.o WR.o).at vG
    have Df:=ae (λbz hw=>HBAD2.o bz j vG hw);have hjl':(j:Int)<(pl.length:Int):=(by omega);have pr:jgt (pl.take (j+1)=pl.take j++[pl[j]]):=ae (jeO vG);generalize pl[j]=z at *;by_cases bR:z<0
    ·go_wp2_with fail
     refine(bZ sg.o 40).mono ?_;rintro e w4 ⟨rfl,yb,pt⟩;have zc:=ae yb;have ya:=ae (mU.o.trans ((Fr.of_below (WR.o.mono (show w.heap.size<=w3.heap.size by omega))).trans (pt.mono (by omega))));clear yb pt;go_wp2_with fail;go_ret
     exact⟨[],_,_,⟨_,rfl,jn.nil _ _⟩,λs hs=>by simp at hs,by simp,zc.o,Df.o _ (Or.inl bR),ya.o⟩
    ·by_cases hzu:z>=(u.length:Int)
     ·go_wp2_with fail
      refine(bZ sg.o 40).mono ?_;rintro e w4 ⟨rfl,yb,pt⟩;have zc:=ae yb;have ya:=ae (mU.o.trans ((Fr.of_below (WR.o.mono (show w.heap.size<=w3.heap.size by omega))).trans (pt.mono (by omega))));clear yb pt;go_wp2_with fail;go_ret
      exact⟨[],_,_,⟨_,rfl,jn.nil _ _⟩,λs hs=>by simp at hs,by simp,zc.o,Df.o _ (Or.inr hzu),ya.o⟩
     ·obtain⟨zn,rfl⟩:∃ zn:Nat,z=(zn:Int):=⟨z.toNat,by omega⟩
      have hzn:zn<u.length:=(by omega);obtain⟨gu,offu,rfl,hgu,hcu2⟩:=(HU3.o.keptB HUB3.o WR.o).at1 (gF hzn);have ef:u.getD zn []=u[zn]:=by rw[List.getD_eq_getElem?_getD,List.getElem?_eq_getElem hzn];rfl
      have mf:jgt ((pl.take (j+1)).map (λq=>u.getD q.toNat [])=((pl.take j).map λq=>u.getD q.toNat [])++[u[zn]]):=ae (by
       rw[pr.o,jeR,je4,jfr,je3,ef])
      have yu:jgt (∀ q∈pl.take (j+1),0<=q/\q<(u.length:Int)):=ae (λq hq=>by
       rw[pr.o]at hq;rcases je1.1 hq with hq | hq
       ·exact Rd.o q hq
       ·have:q=(zn:Int):=by simpa using hq
        omega)
      have hlen':((pl.take j).map λq=>u.getD q.toNat []).length<=100000:=by rw[jeE,jeH];omega
      rw[gB]at hcu2;clear Df pr ef;generalize ((pl.take j).map λq=>u.getD q.toNat [])=L at *;generalize u[zn]=x at *;go_wp2_with (first | (at_builtin;refine jB rfl _ _ rfl w3.heap.size _ _ x L rfl (HO.o.kept (aj _ _)) rfl (aV _ _ _) hlen' ?c2 ?_))
      case c2=>first | omega | (rw[jeB];omega)
      intro v' w5 o5 b5;have dK:=ae o5;have bq:=ae ((WR.o.alloc bF (.cells #[txt x] 9)).trans b5);clear o5 b5;go_wp2_with fail;go_roundw
      case rel=>exact⟨j+1,by omega,by go_num,by rw[mf.o];exact dK.o,yu.o,bq.o⟩
      case measure=>simp[intOf];omega
   ·have:j=pl.length:=by omega
    subst this;rw[jeJ]at HO Rd;have HDN:=ae (jdd.o Rd.o);have ed:¬ ((pl.length:Nat):Int)<(pl.length:Int):=(by omega);have RJ:=ae (mU.o.trans (Fr.of_below (p:=p) (WR.o.mono (show w.heap.size<=w3.heap.size by omega))))
    have HTL:jgt (Ts (pl.map λq=>u.getD q.toNat [])):=ae (λs hs=>by
     obtain⟨q,_,rfl⟩:=jeN.1 hs;exact Zm ye.o q.toNat)
    have jE:(pl.map λq=>u.getD q.toNat []).length<=n:=by rw[jeE];omega
    generalize (pl.map λq=>u.getD q.toNat [])=L at *;go_wp2_with fail;go_ret
    exact⟨L,[],f3,⟨_,rfl,bL HO.o (by omega)⟩,HTL.o,jE,sg.o,HDN.o,RJ.o⟩
def byW(b:List Nat)(l:List (List Nat))(r:List Nat):Prop:=b=gC l/\r=[]
def Kg{w:World}{p f:Nat}{b:List Nat}(h:Rs w p b f)(hf:Er f)(n:Nat)(hn:n<=256) :
  Calls prog 279 #[.pointer (some ⟨p,0,none⟩),.int .i64 (n:Int)] w (Va n (byW b) p f w):=by
 have HC:=ae (xN h)
 have hef:Er (chF b f):=by
  unfold chF;split
  ·exact hf.orf Zj
  ·split
   ·exact hf
   ·exact hf.orf vy
 have HEF:=ae hef
 have Xv:chX b<=1:=by
  unfold chX;split
  ·omega
  ·split<;>omega
 have Dg:jgt (chX b=1->∀ l b' f',RP (Nt n) (byP b.tail) (chF b f) l b' f'->RP (Nt n) (byW b) f l b' f'):=ae (λhx l b' f' hr=>by
  obtain⟨r1,r2,r3⟩:=hr;cases b with
  | nil=>simp[chX]at hx
  | cons x t =>
   have Ra:x=1:=by
    unfold chX at hx;simp only at hx;split at hx<;>omega
   subst Ra;have hcf:chF (1::t) f=f:=by simp[chF]
   rw[hcf]at r2 r3;refine⟨r1,r2,λy r a1 a2 a3=>r3 y r a1 a2 ⟨?_,a3.2⟩⟩;have h3:=a3.1;unfold gC at h3;split at h3
   ·unfold dd at h3
    simpa using h3
   ·unfold plain at h3
    simp at h3)
 have HW0:jgt (chX b≠1->∀ l b' f',RP (Nt n) (λl r=>b.tail=jz l++r) (chF b f) l b' f'->RP (Nt n) (byW b) f l b' f'):=ae (λhx l b' f' hr=>by
  obtain⟨r1,r2,r3⟩:=hr;refine⟨r1,λh=>?_,λy r a1 a2 a3=>?_⟩
  ·obtain⟨e1,e2⟩:=r2 h
   refine⟨?_,e2⟩;unfold chF at e1;split at e1
   ·exact(bm e1).1
   ·split at e1
    ·exact e1
    ·exact(bm e1).1
  ·have h3:=a3.1
   unfold gC at h3;split at h3
   ·unfold dd at h3
    rw[h3]at hx;exact absurd rfl hx
   ·unfold plain at h3
    have hcf:chF b f=f:=by rw[h3];simp[chF]
    have ht:b.tail=jz y:=by rw[h3];rfl
    rw[hcf]at r3;have:=r3 y [] a1 a2 (by show b.tail=jz y++[];rw[ht,jeS]);rw[a3.2];exact this)
 clear h;generalize chX b=x at *;generalize chF b f=f1 at *;by_cases hx:x=1
 ·have oN:=ae (Dg.o hx)
  clear Dg HW0;subst hx;go_enter func279,ntmps279
  go_wp2_with fail;refine HC.o.mono ?_;rintro e w1 ⟨rfl,dr,cm⟩;have dN:=ae cm;have bW:=cm.size;have HT:=ae (rK dr HEF.o n hn);clear dr cm;go_wp2_with fail;refine HT.o.mono ?_;rintro e w2 ⟨l,b2,f2,⟨v2,rfl,eA⟩,GK,jE,cV,hrp,cM⟩;have eb:=ae (bL eA bW);have ye:=ae GK;have fJ:=ae cV;have Ln:=ae (oN.o l b2 f2 hrp);have eW:=ae (dN.o.trans (cM.mono bW));clear eA GK cV hrp cM;go_wp2_with fail;go_ret
  exact⟨l,b2,f2,⟨_,rfl,eb.o⟩,ye.o,jE,fJ.o,Ln.o,eW.o⟩
 ·have oN:=ae (HW0.o hx)
  clear Dg HW0;obtain rfl:x=0:=by omega
  go_enter func279,ntmps279
  go_wp2_with fail;refine HC.o.mono ?_;rintro e w1 ⟨rfl,dr,cm⟩;have dN:=ae cm;have bW:=cm.size;have HT:=ae (Fj dr HEF.o n hn);clear dr cm;go_wp2_with fail;refine HT.o.mono ?_;rintro e w2 ⟨l,b2,f2,⟨v2,rfl,eA⟩,GK,jE,cV,hrp,cM⟩;have eb:=ae (bL eA bW);have ye:=ae GK;have fJ:=ae cV;have Ln:=ae (oN.o l b2 f2 hrp);have eW:=ae (dN.o.trans (cM.mono bW));clear eA GK cV hrp cM;go_wp2_with fail;go_ret
  exact⟨l,b2,f2,⟨_,rfl,eb.o⟩,ye.o,jE,fJ.o,Ln.o,eW.o⟩
def nO(n m:Nat):List Value:=List.replicate m (.int .u64 1)++List.replicate (n-m) (.int .u64 0)
def uI{n m:Nat}(h:m<=n):(nO n m).length=n:=by simp[nO];omega
def Fm{n m c:Nat}(h:m+c<=n):splice (nO n m) m (List.replicate c (.int .u64 1))=nO n (m+c):=by
 unfold splice nO
 have h1:(List.replicate m (Value.int .u64 1)++List.replicate (n-m) (Value.int .u64 0)).take m=List.replicate m (Value.int .u64 1):=by
  rw[List.take_append_of_le_length (by simp)];exact jfi (by simp)
 have h2:(List.replicate m (Value.int .u64 1)++List.replicate (n-m) (Value.int .u64 0)).drop (m+(List.replicate c (Value.int .u64 1)).length)=List.replicate (n-(m+c)) (Value.int .u64 0):=by
  rw[List.drop_append,jfM (by simp)];simp
  omega
 rw[h1,h2,<- jeQ,List.replicate_append_replicate]
def Fo(n:Nat)(hn:n<=256)(w:World):Calls prog 295 #[.int .u64 1,.int .u64 (n:Int)] w λe w'=>e=.returned (.tuple #[.int .u64 0,.int .u64 (n:Int)])/\w'=w:=by
 have:=Any.bits_Mul Yw 1 n (by omega) (by omega) w;have h1:1*n / 18446744073709551616=0:=by omega
 have h2:1*n % 18446744073709551616=n:=by omega
 rw[h1,h2]at this;exact this
def jcl:(prog.info? 92).map (·.size)=some 1:=by kernel_rfl
def Fp{W:World}{T n m sl dl sc dc c:Nat}{ad:Addr}(ft:W.heap[T]?=some (.cells (nO n m).toArray 92 (0,0)))(hc:c=Nat.min sl dl)(dh:m+c<=n)(jde:∀ j,j<c->W.cell? (ad.add j)=some (.int .u64 1)) :
  ∃ W',(Builtin.copy_ #[142,142] 3 #[.slice (some ⟨T,m,none⟩) dl dc,.slice (some ad) sl sc]).run prog W=.ok (.int .i64 (c:Int)) W'/\W'.heap[T]?=some (.cells (nO n (m+c)).toArray 92 (0,0))/\Below T W W'/\W'.heap.size=W.heap.size:=by
 have hl:(List.replicate c (Value.int .u64 1)).length=c:=List.length_replicate
 have vP:=run_copy_row (P:=prog) W 142 142 3 92 T m dl dc ad sl sc (nO n m).toArray 92 (List.replicate c (.int .u64 1)) underlying142 jcl ft (by rw[hl];exact hc) (λj v hj=>by
  rw[List.getElem?_replicate]at hj;split at hj
  ·next h =>
   cases hj
   exact jde j h
  ·cases hj) (by rw[hl];simp[uI (show m<=n by omega)];exact dh) (λv hv=>by rw[jgj hv];rfl)
 have hs:=Fm dh;unfold splice at hs;rw[hl]at vP hs;rw[<- jeQ]at hs;simp only[List.toList_toArray]at vP;rw[hs]at vP;refine⟨_,vP,?_,below_setRow (jez _ _) (jeA _) _,by simp[World.setRow]⟩;exact setRow_heap W T _ _ 92 _ ft
def Kh{w:World}{g:Nat}(hc:w.cell? ⟨g,0,none⟩=some (.int .u64 1))(n:Nat)(hn:n<=256) :
  Calls prog 277 #[.slice (some ⟨g,0,none⟩) 1 1,.int .i64 (n:Int)] w λe w'=>(∃ v,e=.returned v/\eS w' w.heap.size v (List.replicate n 1))/\jgu w w':=by
 obtain⟨i0,hi,bR,hz1',aX⟩:=jeT sQ;have HC:=ae hc;have hg:=World.block_lt_of_cell? w _ hc;simp only at hg;have HM:=ae (Fo n hn);have hnn:¬ (n:Int)<0:=by omega
 have jdf:¬ (n:Int) > 9223372036854775807:=by omega
 clear hc;go_enter func277,ntmps277
 go_wp2_with fail;refine(HM.o _).mono ?_;rintro e w1 ⟨rfl,rfl⟩;go_wp2_with (first | (refine jft _ rfl _ _ 142 rfl w1.heap.size 92 i0 (.int .u64 0) 1 underlying142 hi bR hz1' .i64 .i64 _ _ n rfl rfl ?m1 ?m2 ?m3 ?m4 ?m5 ?_))
 case m1=>rfl
 case m2=>rfl
 case m3=>rw[aX];omega
 case m4=>unfold maxLen;omega
 case m5=>omega
 intro w4 gz iE;have bD:jgu w1 w4:=(jez _ _).grown iE (jeA _) (λk hk=>by cases hk)
 have ft:w4.heap[w1.heap.size]?=some (.cells (nO n 0).toArray 92 (0,0)):=by
  obtain⟨h0,⟨h,_⟩ | ⟨g',cap',cur,h1,h2,h3,h4,h5,h6,h7⟩⟩:=gz
  ·cases h
  ·cases h1
   rw[h3]
   have e1:cur=(nO n 0).toArray:=by
    apply Array.toList_inj.1
    rw[jfi (by simp;omega)]at h7;rw[h7,jfZ];simp[nO]
   rw[e1]
 have WY:=(bD.cell (p:=⟨g,0,none⟩) hg).trans HC.o
 obtain⟨w5,Wu,RO,bQ,sk⟩:=Fp (c:=Nat.min 1 n) (sl:=1) (dl:=n) (sc:=1) (dc:=n) (ad:=⟨g,0,none⟩) ft rfl (by have:=Nat.min_le_right 1 n;show 0+min 1 n<=n;omega) (λj hj=>by
  have:j=0:=by have:=Nat.min_le_left 1 n;have h:j<min 1 n:=hj;omega
  subst this;rw[oP];exact WY)
 rw[jeU]at RO;have sy:=ae RO;have bq:=ae (bD.trans bQ);have RK:Nat.min 1 n<=n:=Nat.min_le_right 1 n
 have hmn1:n=0∨1<=Nat.min 1 n:=by
  rcases jfs n with h | h
  ·exact Or.inl h
  ·right
   show 1<=min 1 n
   omega
 have HMN:=ae hmn1;clear gz iE bD ft WY RO bQ sk hmn1;generalize Nat.min 1 n=mm at *;go_wp2_with fail;go_loopw [8] (λi wr=>∃ m:Nat,i=.int .i64 (m:Int)/\m<=n/\(n=0∨1<=m)/\wr.heap[w1.heap.size]?=some (.cells (nO n m).toArray 92 (0,0))/\jgu w1 wr) (λi _=>n-(intOf i).toNat)
 case atStart=>exact⟨mm,rfl,RK,HMN.o,sy.o,bq.o⟩
 case round =>
  obtain⟨m,rfl,hm,CY,ft,ao⟩:=hrel;have HR:=ae ft;have HB:=ae ao;have WZ:=ae CY;clear ft ao CY Wu;by_cases ar:m<n
  ·have hm0:1<=m:=by have:=WZ.o;omega
   have hlt':(m:Int)<(n:Int):=(by omega);have hRd:wr.drew.heap[w1.heap.size]?=some (.cells (nO n m).toArray 92 (0,0)):=HR.o;have hBd:Below w1.heap.size wr wr.drew:=⟨rfl,rfl,rfl,jeA _,λ_ _=>rfl⟩
   obtain⟨w6,Wu,RQ,ct,GO⟩:=Fp (W:=wr.drew) (c:=Nat.min m (n-m)) (sl:=m) (dl:=n-m) (sc:=n) (dc:=n-m) (ad:=⟨w1.heap.size,0,none⟩) hRd rfl (by show m+min m (n-m)<=n;omega) (λj hj=>by
    have h:j<min m (n-m):=hj;rw[oP,an hRd];unfold nO;rw[List.getElem?_toArray,List.getElem?_append_left (by rw[List.length_replicate];omega),List.getElem?_replicate,jey (by omega)])
   have ju:1<=Nat.min m (n-m):=by show 1<=min m (n-m);omega
   have jv:m+Nat.min m (n-m)<=n:=by show m+min m (n-m)<=n;omega
   have Re:=ae RQ;have fV:=ae ((HB.o.trans hBd).trans ct);have dC:¬ n=m:=(by omega);clear RQ ct GO hRd hBd;generalize Nat.min m (n-m)=c at *;have hwrap:IntKind.i64.wrap ((m:Int)+(c:Int))=(m:Int)+(c:Int):=by rw[jfq];omega
   go_wp2_with fail;go_region
   go_wp2_with fail;go_roundw
   case rel=>exact⟨m+c,by go_num,jv,Or.inr (by omega),Re.o,fV.o⟩
   case measure=>simp[intOf];omega
  ·obtain rfl:m=n:=by omega
   have HO:jgt (eS wr w1.heap.size (.slice (some ⟨w1.heap.size,0,none⟩) m m) (List.replicate m 1)):=ae (by
    unfold eS;refine⟨by rw[am];simp,Or.inr ⟨w1.heap.size,m,(nO m m).toArray,by simp,jeA _,HR.o,by simp,by unfold maxLen;omega,by simp[uI (jeA m)],?_⟩⟩;have:nO m m=aA .u64 (List.replicate m 1):=by simp[nO,aA]
    rw[this];simp[aA])
   have ed:¬ ((m:Nat):Int)<(m:Int):=(by omega);go_wp2_with fail;go_ret
   exact⟨⟨_,rfl,HO.o⟩,HB.o⟩
def Nu(n:Nat)(l:List Nat):Prop:=l.length=n/\∀ x∈l,x<2
def byH(b:List Nat)(n:Nat)(x r:List Nat):Prop:=∃ l:jgv,l.length=n/\x=cH l/\b=jH l++r
def PR{b:List Nat}{f n:Nat}(hf:Er f)(hn:n<=256)(hx:chX b=1):RP (Nu n) (byH b n) f (unR (tkB (by8 n) b.tail) n 1) (tkR (by8 n) b.tail) (orf (tkF (by8 n) b.tail (chF b f)) (unE (tkB (by8 n) b.tail) n 1)):=by
 have hb:∃ t,b=1::t/\chF b f=f:=by
  cases b with
  | nil=>simp[chX]at hx
  | cons x t =>
   have:x=1:=by
    unfold chX at hx;simp only at hx;split at hx<;>omega
   subst this;exact⟨t,rfl,by simp[chF]⟩
 obtain⟨t,rfl,hcf⟩:=hb;rw[hcf,List.tail_cons];refine⟨(Ci hf).orf (show Er (unE _ n ((1:Nat):Int)) from Ke hn (by omega)),λh=>?_,λy r a1 a2 a3=>?_⟩
 ·obtain⟨h1,h2⟩:=bm h
  exact⟨(rJ h1).1,lf h2⟩
 ·obtain⟨l,rfl,rfl,a6⟩:=a3
  unfold jH at a6;split at a6
  ·have h2:=eL l
   have hl:=em h2 (by rw[bf];exact hn);have Rb:=oo h2 (by rw[bf];exact hn);rw[bf]at hl Rb;have ht:t=bi (cH l) 1++r:=by simpa using a6
   rw[ht,<- hl,(gq (a:=bi (cH l) 1) f).1,(gq (a:=bi (cH l) 1) f).2.1,(gq (a:=bi (cH l) 1) f).2.2,Rb.1,Rb.2,a1];exact⟨rfl,rfl,rfl⟩
  ·simp at a6
def Ki{b:List Nat}{f n:Nat}(hf:Er f)(hn:n<=256)(hx:chX b≠1):RP (Nu n) (byH b n) f (List.replicate n 1) b.tail (chF b f):=by
 have hef:Er (chF b f)/\(chF b f=0->f=0):=by
  unfold chF;split
  ·exact⟨hf.orf Zj,λh=>(bm h).1⟩
  ·split
   ·exact⟨hf,λh=>h⟩
   ·exact⟨hf.orf vy,λh=>(bm h).1⟩
 refine⟨hef.1,λh=>⟨hef.2 h,by simp,λx hx=>by have:=jgj hx;omega⟩,λy r a1 a2 a3=>?_⟩;obtain⟨l,rfl,rfl,a6⟩:=a3;unfold jH at a6;split at a6
 ·rw[a6]at hx
  exact absurd rfl hx
 ·next h0 =>
  have hcf:chF b f=f:=by rw[a6];simp[chF]
  rw[hcf,a6];exact⟨a1,(wQ h0).symm,rfl⟩
def PS{w:World}{p f:Nat}{b:List Nat}(h:Rs w p b f)(hf:Er f)(n:Nat)(hn:n<=256) :
  Calls prog 262 #[.pointer (some ⟨p,0,none⟩),.int .i64 (n:Int)] w λr w'=>∃ l b' f',(∃ v,r=.returned v/\eS w' w.heap.size v l)/\(∀ x∈l,x<2)/\l.length<=n/\Rs w' p b' f'/\RP (Nu n) (byH b n) f l b' f'/\Fr p w.heap.size w w':=by
 have HC:=ae (xN h);have ar:=h.lt;have H1:=ae (λhx=>PR (b:=b) hf hn hx);have H0:=ae (λhx=>Ki (b:=b) hf hn hx)
 have Xv:chX b<=1:=by
  unfold chX;split
  ·omega
  ·split<;>omega
 clear h;generalize chX b=x at *;generalize chF b f=f1 at *;generalize b.tail=b1 at *;by_cases hx:x=1
 ·have HR:=ae (H1.o hx)
  clear H1 H0;subst hx;go_enter func262,ntmps262
  go_wp2_with fail;refine HC.o.mono ?_;rintro e w1 ⟨rfl,dr,cm⟩;have dN:=ae cm;have bW:=cm.size;have HP:=ae (uH dr n hn);clear dr cm;go_wp2_with fail;refine HP.o.mono ?_;rintro e w2 ⟨⟨v2,rfl,eA⟩,cV,cM⟩;have eb:=ae (bL eA bW);have fJ:=ae cV;have eW:=ae (dN.o.trans (cM.mono bW));clear eA cV cM
  have jbp:(∀ x∈unR (tkB (by8 n) b1) n 1,x<2)/\(unR (tkB (by8 n) b1) n 1).length<=n:=by
   by_cases h0:unE (tkB (by8 n) b1) n 1=0
   ·exact⟨(lf h0).2,Nat.le_of_eq (lf h0).1⟩
   ·rw[wT h0]
    exact⟨λx hx=>by simp at hx,by simp⟩
  have Lo:=ae jbp;clear jbp;go_wp2_with fail;go_ret
  exact⟨_,_,_,⟨_,rfl,eb.o⟩,Lo.o.1,Lo.o.2,fJ.o,HR.o,eW.o⟩
 ·have HR:=ae (H0.o hx)
  clear H1 H0;obtain rfl:x=0:=by omega
  go_enter func262,ntmps262
  go_wp2_with fail;refine HC.o.mono ?_;rintro e w1 ⟨rfl,dr,cm⟩;have dN:=ae cm;have bW:=cm.size;have iW:=ae dr;have HP:=ae (Kh (aV w1 (.int .u64 1) 92) n hn);have aX:=jeB w1 (.cells #[.int .u64 1] 92);have aL:=ae (aj w1 (.cells #[.int .u64 1] 92));clear dr cm;go_wp2_with fail;refine HP.o.mono ?_;rintro e w2 ⟨⟨v2,rfl,eA⟩,ap⟩;have eb:=ae (bL (B:=w.heap.size) eA (by omega));have aJ:=aL.o.trans (ap.mono (by omega));have fJ:=ae (iW.o.kept aJ iW.o.lt);have eW:=ae (dN.o.trans (Fr.of_below (aJ.mono bW)));clear eA ap aJ;go_wp2_with fail;go_ret
  exact⟨_,_,_,⟨_,rfl,eb.o⟩,λx hx=>by have:=jgj hx;omega,by simp,fJ.o,HR.o,eW.o⟩
def pi{l:List Nat}{k:Nat}(h:k<l.length):(l.take (k+1)).sum=(l.take k).sum+l[k]:=by
 rw[jeO h,List.sum_append];simp
def rL:∀{l:List Nat},(∀ x∈l,x<2)->l.sum<=l.length
 | [],_=>by simp
 | x::t,h=>by
  have ih:=rL (l:=t) λy hy=>h y (by simp[hy])
  have:=h x (by simp);rw[List.sum_cons,jeI];omega
def Vd{w:World}{v:Value}{l:List Nat}(hs:Sv w v (aA .u64 l))(h2:∀ x∈l,x<2)(hl:l.length<=256) :
  Calls prog 264 #[v] w λe w'=>e=.returned (.int .i64 (l.sum:Int))/\w'=w:=by
 have HS:=ae hs;have H2:=ae h2;obtain⟨a,cap,rfl,bg,bx⟩:=hs.form1;rw[am]at *;have hcm':cap<=9223372036854775807:=by unfold maxLen at bx;omega
 clear hs h2 bx;go_enter func264,ntmps264
 go_wp2_with fail;go_loopw [3,8] (λo i wr=>∃ k:Nat,k<=l.length/\o=.int .i64 ((l.take k).sum:Int)/\i=.int .i64 (k:Int)/\wr=w) (λ_ i _=>l.length-(intOf i).toNat)
 case atStart=>exact⟨0,by omega,rfl,rfl,rfl⟩
 case round =>
  obtain⟨k,hk,rfl,rfl,rfl⟩:=hrel
  have oU:(l.take k).sum<=256:=by
   have:=rL (l:=l.take k) λx hx=>H2.o x (jfn hx)
   rw[jeH]at this;omega
  by_cases ar:k<l.length
  ·obtain⟨b,off,rfl,hb,eP⟩:=HS.o.at1 (bN ar)
   have HT:=ae (pi ar);have hx:=H2.o l[k] (jeD ar);have hlt':(k:Int)<(l.length:Int):=(by omega);generalize l[k]=x at *;generalize (l.take k).sum=s at *;go_wp2_with fail;go_roundw
   case rel=>exact⟨k+1,by omega,by rw[HT.o];go_num,by go_num,trivial⟩
   case measure=>simp[intOf];omega
  ·obtain rfl:k=l.length:=by omega
   rw[jeJ];have ed:¬ ((l.length:Nat):Int)<(l.length:Int):=(by omega);go_wp2_with fail;go_ret
   exact⟨rfl,rfl⟩
end Go.Proofs.YtpljdjmpamjkhaaGreatDoor
