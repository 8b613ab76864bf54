import Derived.Test.YtpljdjmpamjkhaaGreatDoorXag
set_option linter.unusedVariables false
set_option linter.unusedSimpArgs false
set_option maxRecDepth 100000
set_option maxHeartbeats 1000000
namespace Go.Proofs.YtpljdjmpamjkhaaGreatDoor
open Go.RowKit Go.Lib
theorem zb(s:ByteArray)(hs:s.size<=100000)(w:World) :
  Calls Tryz.prog 188 #[.string s] w fun e w'=>e=.returned (.int .i64 (V (lb s)).length)/\Below w.heap.size w w':=by
 have hL:=cJ s;have hV:=Cx (lb s);go_enter Tryz.func188,Tryz.ntmps188
 go_wp2;go_loopw [3] (fun n w'=>∃ p k:Nat,w'=w.iter s p/\n=.int .i64 k/\At (lb s) p k) (fun _ w'=>s.size-w'.iterPos w.heap.size)
 case atStart=>exact⟨0,0,rfl,rfl,At.zero _⟩
 case round =>
  obtain⟨p,k,rfl,rfl,lG⟩:=hrel;by_cases hp:p<s.size
  ·have xM:∀ ty,(Instr.next (.pointer (some ⟨w.heap.size,0,none⟩)) true ty).run Tryz.prog (w.iter s p)=_:=fun ty=>run_next_any w s p ty hp
   rw[lV]at xM;have hk:=lG.len (by omega);have hw:=dB _ (jd (l:=lb s) (p:=p) (by omega));have hn:=lG.next (by omega)
   clear lG;go_wp2;go_roundw
   case rel=>exact⟨_,k+1,rfl,by go_num,hn⟩
   case measure=>simp;omega
  ·have xM:∀ ty,(Instr.next (.pointer (some ⟨w.heap.size,0,none⟩)) true ty).run Tryz.prog (w.iter s p)=_:=fun ty=>run_next_end w s p ty hp
   have HE:jfp (k=(V (lb s)).length/\p=(lb s).length):=lG.end (by omega);clear lG;go_wp2;go_ret
   exact⟨Lb (by rw[HE.o.1]),ep _ _ _⟩
def bW(l:List UInt8)(n:Int):List UInt8:=l.take (eJ (V l) n.toNat)
theorem qJ(u:List (Nat×Nat))(k:Nat)(h:u.length<=k):eJ u k=eJ u u.length:=by
 unfold eJ;rw[jee h,jdE]
theorem zc(s:ByteArray)(n:Int)(hs:s.size<=100000)(w:World) :
  Calls Tryz.prog 147 #[.string s,.int .i64 n] w fun e w'=>(∃ t,e=.returned (.string t)/\lb t=bW (lb s) n)/\Below w.heap.size w w':=by
 have hL:=cJ s;have hV:=Cx (lb s);go_enter Tryz.func147,Tryz.ntmps147
 go_wp2;go_loopw [5] (fun m w'=>∃ p k:Nat,w'=w.iter s p/\m=.int .i64 k/\At (lb s) p k/\(k=0∨(k:Int)<=n)) (fun _ w'=>s.size-w'.iterPos w.heap.size)
 case atStart=>exact⟨0,0,rfl,rfl,At.zero _,Or.inl rfl⟩
 case round =>
  obtain⟨p,k,rfl,rfl,lG,UB⟩:=hrel;by_cases hp:p<s.size
  ·have xM:∀ ty,(Instr.next (.pointer (some ⟨w.heap.size,0,none⟩)) true ty).run Tryz.prog (w.iter s p)=_:=fun ty=>run_next_any w s p ty hp
   rw[lV]at xM;have hk:=lG.len (by omega);have hw:=dB _ (jd (l:=lb s) (p:=p) (by omega));have hn:=lG.next (by omega)
   have HPO:jfp (p=eJ (V (lb s)) k):=lG.2.2.1;clear lG;by_cases hg:(k:Int)>=n
   ·go_wp2_with fail
    go_ret
    refine⟨⟨_,rfl,?_⟩,ep _ _ _⟩;have hnk:n.toNat=k:=(by omega);rw[bW,hnk,← HPO.o,gP];simp
   ·go_wp2_with fail
    go_roundw
    case rel=>exact⟨_,k+1,rfl,by go_num,hn,Or.inr (by omega)⟩
    case measure=>simp;omega
  ·have xM:∀ ty,(Instr.next (.pointer (some ⟨w.heap.size,0,none⟩)) true ty).run Tryz.prog (w.iter s p)=_:=fun ty=>run_next_end w s p ty hp
   have HE:jfp (k=(V (lb s)).length/\p=(lb s).length):=lG.end (by omega);have HPO:jfp (p=eJ (V (lb s)) k):=lG.2.2.1;clear lG;go_wp2_with fail;go_ret
   refine⟨⟨_,rfl,?_⟩,ep _ _ _⟩;rw[bW];have hpo:=HPO.o;have he:=HE.o
   have gj:(lb s).length<=eJ (V (lb s)) n.toNat:=by
    by_cases ql:(V (lb s)).length<=n.toNat
    ·rw[qJ _ _ ql,← HE.o.1,← HPO.o];omega
    ·have:k=0:=by omega
     rw[this]at hpo;simp at hpo
     omega
   rw[jee gj]
theorem qK{w:World}{B e n:Nat}{v:Value}{xs:List Value}(h:w.ownsRow B e 1 v n xs):(∃ ad cap,v=.slice ad n cap/\∀ g,ad=some g->g.spot=none)/\(0<n->∃ g cap,v=.slice (some ⟨g,0,none⟩) n cap/\g<w.heap.size/\B<=g/\∀ j x,xs[j]?=some x->w.cell? ⟨g,j,none⟩=some x):=by
 obtain⟨hl,h1⟩:=id h;rcases h1 with ⟨rfl,rfl⟩ | ⟨g,cap,cur,rfl,hb,hg,h4⟩
 ·exact⟨⟨none,0,rfl,fun g hg=>by cases hg⟩,fun h=>by omega⟩
 ·refine⟨⟨_,cap,rfl,fun x hx=>by cases hx;rfl⟩,fun _=>⟨g,cap,rfl,(Array.getElem?_eq_some_iff.1 hg).1,hb,fun j x hx=>?_⟩⟩
  have:=h.cells (g:=g) rfl j x hx;have Ke:(⟨g,0,none⟩:Addr).add j=⟨g,j,none⟩:=by unfold Addr.add;split<;>simp_all
  rwa[Ke]at this
theorem AN(s:ByteArray)(n:Int)(hs:s.size<=100000)(w:World) :
  Calls Tryz.prog 62 #[.string s,.int .i64 n] w fun e w'=>(∃ t,e=.returned (.string t)/\lb t=bW (lb s) n)/\Below w.heap.size w w':=by
 have hL:=cJ s;have hV:=Cx (lb s);have HEx:=ae (gP s);go_enter Tryz.func62,Tryz.ntmps62
 go_wp2_with fail;refine(oH s hs _).mono ?_;rintro e w1 ⟨⟨a,b,rfl,ha,hb⟩,az⟩;have HB:=ae az;have hz:=az.size;clear az ha;obtain⟨⟨ad,cap,rfl,_⟩,hcells⟩:=qK hb;clear hb;by_cases h1:n<1
 ·clear hcells
  go_wp2_with fail;go_ret
  refine⟨⟨_,rfl,?_⟩,HB.o⟩;have:n.toNat=0:=by omega
  rw[bW,this,offs_zero];rfl
 ·by_cases h2:n>=((V (lb s)).length:Int)
  ·clear hcells
   go_wp2_with fail;go_ret
   refine⟨⟨_,rfl,?_⟩,HB.o⟩;have h3:=(uP (l:=lb s) (V (lb s)).length (by omega))
   have h4:eJ (V (lb s)) (V (lb s)).length=(lb s).length:=by
    rcases jdY (eJ (V (lb s)) (V (lb s)).length) (lb s).length with h5 | h5
    ·have:=h3.len h5;omega
    ·exact(h3.end (by omega)).2
   rw[bW,qJ _ _ (by omega),jee (by omega)]
  ·obtain⟨g,cap2,fG,hg,_,hc⟩:=hcells (by omega)
   obtain⟨k,rfl⟩:∃ k:Nat,n=k:=⟨n.toNat,by omega⟩;simp only[Value.slice.injEq]at fG;obtain⟨rfl,_,rfl⟩:=fG;have ek:=hc k _ (Lc (by omega));have hol:=(uP (l:=lb s) k (by omega)).1;clear hc;generalize ho:eJ (V (lb s)) k=o at *;have Ab:jfp (eJ (V (lb s)) k=o):=ho;clear ho;go_wp2_with fail;go_ret
   refine⟨⟨_,rfl,?_⟩,HB.o⟩;rw[HEx.o,bW,jd1,Ab.o];simp
def nx(r:Nat):Nat:=if r=55295 then 57344 else r+1
theorem YW{r:Nat}(h:vr r)(hg:r≠1114111):vr (nx r):=by
 unfold vr nx at *;split<;>omega
theorem RK(r:Nat)(h:r<=1114111)(w:World):Calls Tryz.prog 216 #[.int .i32 (r:Int)] w fun e w'=>e=.returned (.int .i32 (nx r:Int))/\w'=w:=by
 by_cases h1:r=55295
 ·subst h1
  go_enter Tryz.func216,Tryz.ntmps216
  go_wp2_with fail;go_ret
  exact⟨rfl,rfl⟩
 ·have h2:((r:Int)==55295)=false:=by simp;omega
  go_enter Tryz.func216,Tryz.ntmps216
  go_wp2_with fail;go_ret
  refine⟨Lb ?_,rfl⟩;unfold nx;rw[jdt h1];go_num
def ib(u:List (Nat×Nat)):Nat->Option Nat
 | 0=>none
 | k+1=>if (u.getD k (0,0)).1=1114111 then ib u k else some k
theorem qL{u:List (Nat×Nat)}:∀{k i:Nat},ib u k=some i->i<k/\(u.getD i (0,0)).1≠1114111:=by
 intro k;induction k with
 | zero=>intro i h;cases h
 | succ k ih =>
  intro i h;simp only[ib]at h;split at h
  ·have:=ih h;exact⟨by omega,this.2⟩
  ·obtain rfl:=Option.some.inj h
   rename_i h2
   exact⟨by omega,h2⟩
def upL(l:List UInt8)(k:Nat):Option (List UInt8):=(ib (V l) k).map fun i=>l.take (eJ (V l) i)++dT (nx ((V l).getD i (0,0)).1)
def jN(l:List UInt8):Option (List UInt8):=upL l (V l).length
def Le(u:List (Nat×Nat))(k:Nat)(p c:Int):Prop :=
 match ib u k with
 | none=>p=-1
 | some i=>p=eJ u i/\c=nx (u.getD i (0,0)).1
theorem MJ{l:List UInt8}{p k:Nat}(h:At l p k)(hp:p<l.length):(V l).getD k (0,0)=aP (l.drop p):=by
 rw[List.getD_eq_getElem?_getD,h.get hp];rfl
theorem zd(a b:ByteArray):lb (a++b)=lb a++lb b:=by
 simp[lb,ByteArray.data_append]
theorem lb_eq(s:ByteArray):lb s=s.data.toList:=rfl
theorem MK{c:Nat}(h:vr c):lb (Utf8.encode (c:Int))=dT c:=by
 rw[lb_eq];exact Mg c h
def Lf(e:Ending)(x:Option (List UInt8)):Prop:=∃ t o,e=.returned (.tuple #[.string t,.bool o])/\o=x.isSome/\lb t=x.getD []
theorem GM(s:ByteArray)(hs:s.size<=100000)(w:World) :
  Calls Tryz.prog 189 #[.string s] w fun e w'=>Lf e (jN (lb s))/\Below w.heap.size w w':=by
 have hL:=cJ s;have hV:=Cx (lb s);have HEx:=ae (gP s);have HAp:=ae zd;go_enter Tryz.func189,Tryz.ntmps189
 go_wp2_with fail;go_loopw [4,5] (fun a c w'=>∃(p k:Nat) (x y:Int),w'=w.iter s p/\a=.int .i64 x/\c=.int .i32 y/\At (lb s) p k/\Le (V (lb s)) k x y) (fun _ _ w'=>s.size-w'.iterPos w.heap.size)
 case atStart=>exact⟨0,0,-1,1114111,rfl,rfl,rfl,At.zero _,rfl⟩
 case round =>
  obtain⟨p,k,x,y,rfl,rfl,rfl,lG,kN⟩:=hrel;by_cases hp:p<s.size
  ·have xM:∀ ty,(Instr.next (.pointer (some ⟨w.heap.size,0,none⟩)) true ty).run Tryz.prog (w.iter s p)=_:=fun ty=>run_next_any w s p ty hp
   rw[lV]at xM;have hw:=dB _ (jd (l:=lb s) (p:=p) (by omega));have XX:=KP _ (jd (l:=lb s) (p:=p) (by omega));have HN:=ae (lG.next (by omega));have HPO:jfp (p=eJ (V (lb s)) k):=lG.2.2.1;have HG:=ae (MJ lG (by omega));have rY:=ae kN;clear lG kN;generalize aP ((lb s).drop p)=u at *;obtain⟨c,wd⟩:=u;simp only at *;have hc:c<=1114111:=by unfold vr at XX;omega
   clear XX;by_cases hg:c=1114111
   ·subst hg
    go_wp2_with fail;go_roundw
    case rel =>
     refine⟨_,k+1,x,y,rfl,rfl,rfl,HN.o,?_⟩;have h1:=rY.o;unfold Le at h1 ⊢;rw[ib,HG.o,jdu rfl];exact h1
    case measure=>simp;omega
   ·have fF:((c:Int) != 1114111)=true:=by simp;omega
    go_wp2_with fail;refine(RK c hc _).mono ?_;rintro e w1 ⟨rfl,rfl⟩;go_wp2_with fail;go_roundw
    case rel =>
     refine⟨_,k+1,_,_,rfl,rfl,rfl,HN.o,?_⟩;unfold Le;rw[ib,HG.o,jdt hg];simp only;rw[HG.o];exact⟨by rw[HPO.o],rfl⟩
    case measure=>simp;omega
  ·have xM:∀ ty,(Instr.next (.pointer (some ⟨w.heap.size,0,none⟩)) true ty).run Tryz.prog (w.iter s p)=_:=fun ty=>run_next_end w s p ty hp
   have HE:=ae (lG.end (by omega));clear lG;obtain⟨rfl,hpe⟩:=HE.o;clear HE hpe;unfold Le at kN;cases hlg:ib (V (lb s)) (V (lb s)).length with
   | none =>
    rw[hlg]at kN;simp only at kN;subst kN;have Zi:=ae hlg;clear hlg;go_wp2_with fail;go_ret2
    refine⟨⟨_,_,rfl,?_,?_⟩,ep _ _ _⟩
    ·rw[jN,upL,Zi.o];rfl
    ·rw[jN,upL,Zi.o];rfl
   | some i =>
    rw[hlg]at kN;simp only at kN;obtain⟨rfl,rfl⟩:=kN;have Zi:=ae hlg;have hil:=qL hlg;have hoi:=(uP (l:=lb s) i (by omega)).1
    have hvx:vr (nx ((V (lb s)).getD i (0,0)).1):=by
     refine YW ?_ hil.2;have Qr:i<(V (lb s)).length:=hil.1;rw[List.getD_eq_getElem?_getD,List.getElem?_eq_getElem Qr];exact(Wj _ _ (jdw _) _ (jdA Qr)).1
    have HE:=ae (MK hvx);clear hlg hil hvx;generalize ho:eJ (V (lb s)) i=o at *;have HO:jfp (eJ (V (lb s)) i=o):=ho;clear ho;generalize hc:nx ((V (lb s)).getD i (0,0)).1=c at *;have HC:jfp (nx ((V (lb s)).getD i (0,0)).1=c):=hc;clear hc;generalize hE:Utf8.encode (c:Int)=E at *;have hEs:E.size<=4:=by rw[← cJ,HE.o];exact(ip c).2
    have hXs:(s.extract 0 o).size<=100000:=by rw[← cJ,HEx.o];simp;omega
    have hneg:¬ (o:Int)<0:=(by omega)
    have LM:∀ w,(convert 21 9 (.int .i32 (c:Int))).run Tryz.prog w=.ok (.string E) w:=fun w=>by
     rw[run_convert_int_string w 21 9 .i32 c (by kernel_rfl) Tryz.underlying9,hE]
    clear hE;have Ke:∀ w,(Op.stringOp .add (s.extract 0 o) E).run Tryz.prog w=.ok (.string (s.extract 0 o++E)) w:=fun w=>run_string_add_sum w _ _ (by omega)
    go_wp2_with fail;go_ret2
    refine⟨⟨_,_,rfl,?_,?_⟩,ep _ _ _⟩
    ·rw[jN,upL,Zi.o];rfl
    ·rw[jN,upL,Zi.o,HAp.o,HEx.o,HE.o,jeF,HO.o,HC.o]
     simp
def gQ(l:List UInt8)(n:Int):Option (List UInt8) :=
 if dP l=true then (if ((V l).length:Int)<=n then some l else jN (bW l n)) else none
theorem pS(l:List UInt8)(n:Int):(bW l n).length<=l.length:=by
 unfold bW;simp;omega
theorem ML(s:ByteArray)(n:Int)(hs:s.size<=100000)(w:World) :
  Calls Tryz.prog 153 #[.string s,.int .i64 n] w fun e w'=>Lf e (gQ (lb s) n)/\Below w.heap.size w w':=by
 have hL:=cJ s;have hV:=Cx (lb s);go_enter Tryz.func153,Tryz.ntmps153
 go_wp2_with fail;refine(sG s hs _).mono ?_;rintro e w1 ⟨rfl,aH⟩;have HX:jfp (gQ (lb s) n=if dP (lb s)=true then (if ((V (lb s)).length:Int)<=n then some (lb s) else jN (bW (lb s) n)) else none):=rfl;cases hc:dP (lb s)with
 | false =>
  have HB:=ae aH;rw[hc]at HX;clear aH hc;go_wp2_with fail;go_ret2
  rw[HX.o];exact⟨⟨_,_,rfl,rfl,rfl⟩,HB.o⟩
 | true =>
  have HB:=ae aH;rw[hc]at HX;have hz:=aH.size;clear aH hc;go_wp2_with fail;refine(zb s hs _).mono ?_;rintro e w2 ⟨rfl,aE⟩;have aO:=ae aE;have bv:=aE.size;clear aE;by_cases pB:((V (lb s)).length:Int)<=n
  ·rw[jdu pB]at HX
   go_wp2_with fail;go_ret2
   rw[HX.o];exact⟨⟨_,_,rfl,rfl,rfl⟩,HB.o.trans (aO.o.mono hz)⟩
  ·rw[jdt pB]at HX
   go_wp2_with fail;refine(zc s n hs _).mono ?_;rintro e w3 ⟨⟨t,rfl,ht⟩,aS⟩;have bP:=ae aS;have iH:=aS.size;have HT:=ae ht
   have Kg:t.size<=100000:=by
    have:=pS (lb s) n;rw[← ht,cJ,cJ]at this;omega
   clear aS ht;go_wp2_with fail;refine(GM t Kg _).mono ?_;rintro e w4 ⟨⟨t2,o,rfl,ho,Kh⟩,bK⟩;have cx:=ae bK;have Ki:=bK.size;have H2:=ae (And.intro ho Kh);clear bK ho Kh;go_wp2_with fail;go_ret2
   rw[HX.o];refine⟨⟨t2,o,rfl,?_⟩,((HB.o.trans (aO.o.mono hz)).trans (bP.o.mono (by omega))).trans (cx.o.mono (by omega))⟩;simp only[if_true];rw[← HT.o];exact H2.o
def lk:List Nat->List Nat->Bool
 | [],t=>t.isEmpty
 | c::p,t=>if c=37 then (List.range (t.length+1)).any (fun j=>lk p (t.drop j)) else
   match t with
   | []=>false
   | x::t'=>(c==95 || c==x) && lk p t'
theorem ap{B:Nat}{a w:World}(h:Below B a w)(q:Nat):Below B a (w.drewN q):=h.trans ⟨rfl,rfl,rfl,jdw _,fun _ _=>rfl⟩
end Go.Proofs.YtpljdjmpamjkhaaGreatDoor
