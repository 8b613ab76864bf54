import Derived.Test.YtpljdjmpamjkhaaGreatDoorYag
set_option linter.unusedVariables false
set_option linter.unusedSimpArgs false
set_option maxRecDepth 100000
set_option maxHeartbeats 1000000
namespace Go.Proofs.YtpljdjmpamjkhaaGreatDoor
open Go.RowKit Go.Lib
theorem yG(s:ByteArray)(hs:s.size<=100000)(w:World) :
  Calls Tryz.prog 188 #[.string s] w fun e w'=>e=.returned (.int .i64 (V (lb s)).length)/\Below w.heap.size w w':=by
 have hL:=cG s;have hV:=BW (lb s);go_enter Tryz.func188,Tryz.ntmps188
 go_wp2;go_loopw [3] (fun n w'=>∃ p k:Nat,w'=w.iter s p/\n=.int .i64 k/\At (lb s) p k) (fun _ w'=>s.size-w'.iterPos w.heap.size)
 case atStart=>exact⟨0,0,rfl,rfl,At.zero _⟩
 case round =>
  obtain⟨p,k,rfl,rfl,lu⟩:=hrel;by_cases hp:p<s.size
  ·have xv:∀ ty,(Instr.next (.pointer (some ⟨w.heap.size,0,none⟩)) true ty).run Tryz.prog (w.iter s p)=_:=fun ty=>run_next_any w s p ty hp
   rw[lK]at xv;have hk:=lu.len (by omega);have hw:=dx _ (i8 (l:=lb s) (p:=p) (by omega));have hn:=lu.next (by omega)
   clear lu;go_wp2;go_roundw
   case rel=>exact⟨_,k+1,rfl,by go_num,hn⟩
   case measure=>simp;omega
  ·have xv:∀ ty,(Instr.next (.pointer (some ⟨w.heap.size,0,none⟩)) true ty).run Tryz.prog (w.iter s p)=_:=fun ty=>run_next_end w s p ty hp
   have HE:Hid (k=(V (lb s)).length/\p=(lb s).length):=lu.end (by omega);clear lu;go_wp2;go_ret
   exact⟨Jv (by rw[HE.out.1]),en _ _ _⟩
def bV(l:List UInt8)(n:Int):List UInt8:=l.take (eH (V l) n.toNat)
theorem qr(u:List (Nat×Nat))(k:Nat)(h:u.length<=k):eH u k=eH u u.length:=by
 unfold eH;rw[jat h,ZY]
theorem yH(s:ByteArray)(n:Int)(hs:s.size<=100000)(w:World) :
  Calls Tryz.prog 147 #[.string s,.int .i64 n] w fun e w'=>(∃ t,e=.returned (.string t)/\lb t=bV (lb s) n)/\Below w.heap.size w w':=by
 have hL:=cG s;have hV:=BW (lb s);go_enter Tryz.func147,Tryz.ntmps147
 go_wp2;go_loopw [5] (fun m w'=>∃ p k:Nat,w'=w.iter s p/\m=.int .i64 k/\At (lb s) p k/\(k=0∨(k:Int)<=n)) (fun _ w'=>s.size-w'.iterPos w.heap.size)
 case atStart=>exact⟨0,0,rfl,rfl,At.zero _,Or.inl rfl⟩
 case round =>
  obtain⟨p,k,rfl,rfl,lu,EO⟩:=hrel;by_cases hp:p<s.size
  ·have xv:∀ ty,(Instr.next (.pointer (some ⟨w.heap.size,0,none⟩)) true ty).run Tryz.prog (w.iter s p)=_:=fun ty=>run_next_any w s p ty hp
   rw[lK]at xv;have hk:=lu.len (by omega);have hw:=dx _ (i8 (l:=lb s) (p:=p) (by omega));have hn:=lu.next (by omega)
   have Zf:Hid (p=eH (V (lb s)) k):=lu.2.2.1;clear lu;by_cases hg:(k:Int)>=n
   ·go_wp2_with fail
    go_ret
    refine⟨⟨_,rfl,?_⟩,en _ _ _⟩;have hnk:n.toNat=k:=by omega
    rw[bV,hnk,← Zf.out,gF];simp
   ·go_wp2_with fail
    go_roundw
    case rel=>exact⟨_,k+1,rfl,by go_num,hn,Or.inr (by omega)⟩
    case measure=>simp;omega
  ·have xv:∀ ty,(Instr.next (.pointer (some ⟨w.heap.size,0,none⟩)) true ty).run Tryz.prog (w.iter s p)=_:=fun ty=>run_next_end w s p ty hp
   have HE:Hid (k=(V (lb s)).length/\p=(lb s).length):=lu.end (by omega);have Zf:Hid (p=eH (V (lb s)) k):=lu.2.2.1;clear lu;go_wp2_with fail;go_ret
   refine⟨⟨_,rfl,?_⟩,en _ _ _⟩;rw[bV];have hpo:=Zf.out;have he:=HE.out
   have gJ:(lb s).length<=eH (V (lb s)) n.toNat:=by
    by_cases pY:(V (lb s)).length<=n.toNat
    ·rw[qr _ _ pY,← HE.out.1,← Zf.out];omega
    ·have:k=0:=by omega
     rw[this]at hpo;simp at hpo
     omega
   rw[jat gJ]
theorem qs{w:World}{B e n:Nat}{v:Value}{xs:List Value}(h:w.ownsRow B e 1 v n xs):(∃ ad cap,v=.slice ad n cap/\∀ g,ad=some g->g.spot=none)/\(0<n->∃ g cap,v=.slice (some ⟨g,0,none⟩) n cap/\g<w.heap.size/\B<=g/\∀ j x,xs[j]?=some x->w.cell? ⟨g,j,none⟩=some x):=by
 obtain⟨hl,h1⟩:=id h;rcases h1 with ⟨rfl,rfl⟩ | ⟨g,cap,cur,rfl,hb,hg,h4⟩
 ·exact⟨⟨none,0,rfl,fun g hg=>by cases hg⟩,fun h=>by omega⟩
 ·refine⟨⟨_,cap,rfl,fun x hx=>by cases hx;rfl⟩,fun _=>⟨g,cap,rfl,(Array.getElem?_eq_some_iff.1 hg).1,hb,fun j x hx=>?_⟩⟩
  have:=h.cells (g:=g) rfl j x hx;have Ha:(⟨g,0,none⟩:Addr).add j=⟨g,j,none⟩:=by unfold Addr.add;split<;>simp_all
  rwa[Ha]at this
theorem Au(s:ByteArray)(n:Int)(hs:s.size<=100000)(w:World) :
  Calls Tryz.prog 62 #[.string s,.int .i64 n] w fun e w'=>(∃ t,e=.returned (.string t)/\lb t=bV (lb s) n)/\Below w.heap.size w w':=by
 have hL:=cG s;have hV:=BW (lb s);have HEx:=ae (gF s);go_enter Tryz.func62,Tryz.ntmps62
 go_wp2_with fail;refine(nY s hs _).mono ?_;rintro e w1 ⟨⟨a,b,rfl,ha,hb⟩,ay⟩;have HB:=ae ay;have hz:=ay.size;clear ay ha;obtain⟨⟨ad,cap,rfl,_⟩,hcells⟩:=qs hb;clear hb;by_cases h1:n<1
 ·clear hcells
  go_wp2_with fail;go_ret
  refine⟨⟨_,rfl,?_⟩,HB.out⟩;have:n.toNat=0:=by omega
  rw[bV,this,offs_zero];rfl
 ·by_cases h2:n>=((V (lb s)).length:Int)
  ·clear hcells
   go_wp2_with fail;go_ret
   refine⟨⟨_,rfl,?_⟩,HB.out⟩;have h3:=(uC (l:=lb s) (V (lb s)).length (by omega))
   have h4:eH (V (lb s)) (V (lb s)).length=(lb s).length:=by
    rcases jae (eH (V (lb s)) (V (lb s)).length) (lb s).length with h5 | h5
    ·have:=h3.len h5;omega
    ·exact(h3.end (by omega)).2
   rw[bV,qr _ _ (by omega),jat (by omega)]
  ·obtain⟨g,cap2,fo,hg,_,hc⟩:=hcells (by omega)
   obtain⟨k,rfl⟩:∃ k:Nat,n=k:=⟨n.toNat,by omega⟩;simp only[Value.slice.injEq]at fo;obtain⟨rfl,_,rfl⟩:=fo;have dP:=hc k _ (Jw (by omega));have hol:=(uC (l:=lb s) k (by omega)).1;clear hc;generalize ho:eH (V (lb s)) k=o at *;have xl:Hid (eH (V (lb s)) k=o):=ho;clear ho;go_wp2_with fail;go_ret
   refine⟨⟨_,rfl,?_⟩,HB.out⟩;rw[HEx.out,bV,jah,xl.out];simp
def nx(r:Nat):Nat:=if r=55295 then 57344 else r+1
theorem Vs{r:Nat}(h:vr r)(hg:r≠1114111):vr (nx r):=by
 unfold vr nx at *;split<;>omega
theorem N2(r:Nat)(h:r<=1114111)(w:World):Calls Tryz.prog 216 #[.int .i32 (r:Int)] w fun e w'=>e=.returned (.int .i32 (nx r:Int))/\w'=w:=by
 by_cases h1:r=55295
 ·subst h1
  go_enter Tryz.func216,Tryz.ntmps216
  go_wp2_with fail;go_ret
  exact⟨rfl,rfl⟩
 ·have h2:((r:Int)==55295)=false:=by simp;omega
  go_enter Tryz.func216,Tryz.ntmps216
  go_wp2_with fail;go_ret
  refine⟨Jv ?_,rfl⟩;unfold nx;rw[if_neg h1];go_num
def gT(u:List (Nat×Nat)):Nat->Option Nat
 | 0=>none
 | k+1=>if (u.getD k (0,0)).1=1114111 then gT u k else some k
theorem qt{u:List (Nat×Nat)}:∀{k i:Nat},gT u k=some i->i<k/\(u.getD i (0,0)).1≠1114111:=by
 intro k;induction k with
 | zero=>intro i h;cases h
 | succ k ih =>
  intro i h;simp only[gT]at h;split at h
  ·have:=ih h;exact⟨by omega,this.2⟩
  ·obtain rfl:=Option.some.inj h
   rename_i h2
   exact⟨by omega,h2⟩
def upL(l:List UInt8)(k:Nat):Option (List UInt8):=(gT (V l) k).map fun i=>l.take (eH (V l) i)++dO (nx ((V l).getD i (0,0)).1)
def jH(l:List UInt8):Option (List UInt8):=upL l (V l).length
def Jz(u:List (Nat×Nat))(k:Nat)(p c:Int):Prop :=
 match gT u k with
 | none=>p=-1
 | some i=>p=eH u i/\c=nx (u.getD i (0,0)).1
theorem KM{l:List UInt8}{p k:Nat}(h:At l p k)(hp:p<l.length):(V l).getD k (0,0)=aO (l.drop p):=by
 rw[List.getD_eq_getElem?_getD,h.get hp];rfl
theorem yI(a b:ByteArray):lb (a++b)=lb a++lb b:=by
 simp[lb,ByteArray.data_append]
theorem lb_eq(s:ByteArray):lb s=s.data.toList:=rfl
theorem KN{c:Nat}(h:vr c):lb (Utf8.encode (c:Int))=dO c:=by
 rw[lb_eq];exact Kj c h
def JA(e:Ending)(x:Option (List UInt8)):Prop:=∃ t o,e=.returned (.tuple #[.string t,.bool o])/\o=x.isSome/\lb t=x.getD []
theorem Fp(s:ByteArray)(hs:s.size<=100000)(w:World) :
  Calls Tryz.prog 189 #[.string s] w fun e w'=>JA e (jH (lb s))/\Below w.heap.size w w':=by
 have hL:=cG s;have hV:=BW (lb s);have HEx:=ae (gF s);have HAp:=ae yI;go_enter Tryz.func189,Tryz.ntmps189
 go_wp2_with fail;go_loopw [4,5] (fun a c w'=>∃(p k:Nat) (x y:Int),w'=w.iter s p/\a=.int .i64 x/\c=.int .i32 y/\At (lb s) p k/\Jz (V (lb s)) k x y) (fun _ _ w'=>s.size-w'.iterPos w.heap.size)
 case atStart=>exact⟨0,0,-1,1114111,rfl,rfl,rfl,At.zero _,rfl⟩
 case round =>
  obtain⟨p,k,x,y,rfl,rfl,rfl,lu,kD⟩:=hrel;by_cases hp:p<s.size
  ·have xv:∀ ty,(Instr.next (.pointer (some ⟨w.heap.size,0,none⟩)) true ty).run Tryz.prog (w.iter s p)=_:=fun ty=>run_next_any w s p ty hp
   rw[lK]at xv;have hw:=dx _ (i8 (l:=lb s) (p:=p) (by omega));have Uz:=Jj _ (i8 (l:=lb s) (p:=p) (by omega));have HN:=ae (lu.next (by omega));have Zf:Hid (p=eH (V (lb s)) k):=lu.2.2.1;have HG:=ae (KM lu (by omega));have rH:=ae kD;clear lu kD;generalize aO ((lb s).drop p)=u at *;obtain⟨c,wd⟩:=u;simp only at *;have hc:c<=1114111:=by unfold vr at Uz;omega
   clear Uz;by_cases hg:c=1114111
   ·subst hg
    go_wp2_with fail;go_roundw
    case rel =>
     refine⟨_,k+1,x,y,rfl,rfl,rfl,HN.out,?_⟩;have h1:=rH.out;unfold Jz at h1 ⊢;rw[gT,HG.out,if_pos rfl];exact h1
    case measure=>simp;omega
   ·have fO:((c:Int) != 1114111)=true:=by simp;omega
    go_wp2_with fail;refine(N2 c hc _).mono ?_;rintro e w1 ⟨rfl,rfl⟩;go_wp2_with fail;go_roundw
    case rel =>
     refine⟨_,k+1,_,_,rfl,rfl,rfl,HN.out,?_⟩;unfold Jz;rw[gT,HG.out,if_neg hg];simp only;rw[HG.out];exact⟨by rw[Zf.out],rfl⟩
    case measure=>simp;omega
  ·have xv:∀ ty,(Instr.next (.pointer (some ⟨w.heap.size,0,none⟩)) true ty).run Tryz.prog (w.iter s p)=_:=fun ty=>run_next_end w s p ty hp
   have HE:=ae (lu.end (by omega));clear lu;obtain⟨rfl,hpe⟩:=HE.out;clear HE hpe;unfold Jz at kD;cases hlg:gT (V (lb s)) (V (lb s)).length with
   | none =>
    rw[hlg]at kD;simp only at kD;subst kD;have VD:=ae hlg;clear hlg;go_wp2_with fail;go_ret2
    refine⟨⟨_,_,rfl,?_,?_⟩,en _ _ _⟩
    ·rw[jH,upL,VD.out];rfl
    ·rw[jH,upL,VD.out];rfl
   | some i =>
    rw[hlg]at kD;simp only at kD;obtain⟨rfl,rfl⟩:=kD;have VD:=ae hlg;have hil:=qt hlg;have hoi:=(uC (l:=lb s) i (by omega)).1
    have hvx:vr (nx ((V (lb s)).getD i (0,0)).1):=by
     refine Vs ?_ hil.2;have VE:i<(V (lb s)).length:=hil.1;rw[List.getD_eq_getElem?_getD,List.getElem?_eq_getElem VE];exact(S8 _ _ (ZR _) _ (ZV VE)).1
    have HE:=ae (KN hvx);clear hlg hil hvx;generalize ho:eH (V (lb s)) i=o at *;have HO:Hid (eH (V (lb s)) i=o):=ho;clear ho;generalize hc:nx ((V (lb s)).getD i (0,0)).1=c at *;have HC:Hid (nx ((V (lb s)).getD i (0,0)).1=c):=hc;clear hc;generalize hE:Utf8.encode (c:Int)=E at *;have hEs:E.size<=4:=by rw[← cG,HE.out];exact(ic c).2
    have hXs:(s.extract 0 o).size<=100000:=by rw[← cG,HEx.out];simp;omega
    have hneg:¬ (o:Int)<0:=by omega
    have uk:∀ w,(convert 21 9 (.int .i32 (c:Int))).run Tryz.prog w=.ok (.string E) w:=fun w=>by
     rw[run_convert_int_string w 21 9 .i32 c (by kernel_rfl) Tryz.underlying9,hE]
    clear hE;have Ha:∀ w,(Op.stringOp .add (s.extract 0 o) E).run Tryz.prog w=.ok (.string (s.extract 0 o++E)) w:=fun w=>run_string_add_sum w _ _ (by omega)
    go_wp2_with fail;go_ret2
    refine⟨⟨_,_,rfl,?_,?_⟩,en _ _ _⟩
    ·rw[jH,upL,VD.out];rfl
    ·rw[jH,upL,VD.out,HAp.out,HEx.out,HE.out,jaS,HO.out,HC.out]
     simp
def gG(l:List UInt8)(n:Int):Option (List UInt8) :=
 if dI l=true then (if ((V l).length:Int)<=n then some l else jH (bV l n)) else none
theorem pD(l:List UInt8)(n:Int):(bV l n).length<=l.length:=by
 unfold bV;simp;omega
theorem KO(s:ByteArray)(n:Int)(hs:s.size<=100000)(w:World) :
  Calls Tryz.prog 153 #[.string s,.int .i64 n] w fun e w'=>JA e (gG (lb s) n)/\Below w.heap.size w w':=by
 have hL:=cG s;have hV:=BW (lb s);go_enter Tryz.func153,Tryz.ntmps153
 go_wp2_with fail;refine(rW s hs _).mono ?_;rintro e w1 ⟨rfl,aG⟩;have HX:Hid (gG (lb s) n=if dI (lb s)=true then (if ((V (lb s)).length:Int)<=n then some (lb s) else jH (bV (lb s) n)) else none):=rfl;cases hc:dI (lb s)with
 | false =>
  have HB:=ae aG;rw[hc]at HX;clear aG hc;go_wp2_with fail;go_ret2
  rw[HX.out];exact⟨⟨_,_,rfl,rfl,rfl⟩,HB.out⟩
 | true =>
  have HB:=ae aG;rw[hc]at HX;have hz:=aG.size;clear aG hc;go_wp2_with fail;refine(yG s hs _).mono ?_;rintro e w2 ⟨rfl,aD⟩;have aN:=ae aD;have bm:=aD.size;clear aD;by_cases oH:((V (lb s)).length:Int)<=n
  ·rw[if_pos oH]at HX
   go_wp2_with fail;go_ret2
   rw[HX.out];exact⟨⟨_,_,rfl,rfl,rfl⟩,HB.out.trans (aN.out.mono hz)⟩
  ·rw[if_neg oH]at HX
   go_wp2_with fail;refine(yH s n hs _).mono ?_;rintro e w3 ⟨⟨t,rfl,ht⟩,aP⟩;have bM:=ae aP;have iB:=aP.size;have HT:=ae ht
   have Hc:t.size<=100000:=by
    have:=pD (lb s) n;rw[← ht,cG,cG]at this;omega
   clear aP ht;go_wp2_with fail;refine(Fp t Hc _).mono ?_;rintro e w4 ⟨⟨t2,o,rfl,ho,Hd⟩,bv⟩;have b9:=ae bv;have He:=bv.size;have H2:=ae (And.intro ho Hd);clear bv ho Hd;go_wp2_with fail;go_ret2
   rw[HX.out];refine⟨⟨t2,o,rfl,?_⟩,((HB.out.trans (aN.out.mono hz)).trans (bM.out.mono (by omega))).trans (b9.out.mono (by omega))⟩;simp only[if_true];rw[← HT.out];exact H2.out
def lk:List Nat->List Nat->Bool
 | [],t=>t.isEmpty
 | c::p,t=>if c=37 then (List.range (t.length+1)).any (fun j=>lk p (t.drop j)) else
   match t with
   | []=>false
   | x::t'=>(c==95 || c==x) && lk p t'
theorem below_drewN{B:Nat}{a w:World}(h:Below B a w)(q:Nat):Below B a (w.drewN q):=h.trans ⟨rfl,rfl,rfl,ZR _,fun _ _=>rfl⟩
end Go.Proofs.YtpljdjmpamjkhaaGreatDoor
