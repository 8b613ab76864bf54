import Derived.Test.YtpljdjmpamjkhaaGreatDoorUac
set_option linter.unusedVariables false
set_option linter.unusedSimpArgs false
namespace Go.Proofs.YtpljdjmpamjkhaaGreatDoor
open Go.Lib
def pk(w:Nat):List Nat->Nat
 | []=>0
 | n::t=>n+2 ^ w*pk w t
def dig(w:Nat):Nat->Nat->List Nat
 | 0,_=>[]
 | n+1,N=>N % 2 ^ w::dig w n (N / 2 ^ w)
theorem dM(w:Nat):∀ n N,(dig w n N).length=n
 | 0,_=>rfl
 | n+1,N=>by simp[dig,dM w n]
theorem il(w n:Nat):2 ^ (w*(n+1))=2 ^ w*2 ^ (w*n):=by
 rw[jep,jeG,Nat.add_comm,jeh]
theorem QM(w:Nat):∀ n N,pk w (dig w n N)=N % 2 ^ (w*n)
 | 0,N=>by simp[dig,pk,Nat.mod_one]
 | n+1,N=>by
  show N % 2 ^ w+2 ^ w*pk w (dig w n (N / 2 ^ w))=_
  rw[QM w n,il,Nat.mod_mul]
theorem AK{w:Nat}:∀{l:List Nat},(∀ x∈l,x<2 ^ w)->dig w l.length (pk w l)=l
 | [],_=>rfl
 | n::t,h=>by
  have hn:=h n (by simp);show (n+2 ^ w*pk w t) % 2 ^ w::dig w t.length ((n+2 ^ w*pk w t) / 2 ^ w)=_
  rw[Nat.add_mul_mod_self_left,jd7 hn,Nat.add_mul_div_left _ _ (jea w),Nat.div_eq_of_lt hn,jdK,
   AK (fun x hx=>h x (by simp[hx]))]
theorem CW{w:Nat}:∀{l:List Nat},(∀ x∈l,x<2 ^ w)->pk w l<2 ^ (w*l.length)
 | [],_=>by simp[pk]
 | n::t,h=>by
  have hn:=h n (by simp);have ht:=CW (w:=w) (l:=t) (fun x hx=>h x (by simp[hx]));show n+2 ^ w*pk w t<2 ^ (w*(t.length+1))
  rw[il];have:2 ^ w*(pk w t+1)<=2 ^ w*2 ^ (w*t.length):=jei _ ht;rw[jep,jeG]at this;omega
theorem AL(w:Nat):∀ n N i,i<n->(dig w n N)[i]?=some (N / 2 ^ (w*i) % 2 ^ w)
 | n+1,N,0,_=>by simp[dig]
 | n+1,N,i+1,h=>by
  show (dig w n (N / 2 ^ w))[i]?=_
  rw[AL w n _ i (by omega),je7,il]
theorem AM{w x:Nat}:∀{n N},x∈dig w n N->x<2 ^ w
 | n+1,N,h=>by
  simp only[dig,jdz]at h;rcases h with rfl | h
  ·exact Nat.mod_lt _ (jea w)
  ·exact AM h
theorem sy(w:Nat):∀(a b:List Nat),pk w (a++b)=pk w a+2 ^ (w*a.length)*pk w b
 | [],b=>by simp[pk]
 | n::t,b=>by
  show n+2 ^ w*pk w (t++b)=n+2 ^ w*pk w t+2 ^ (w*(t.length+1))*pk w b
  rw[sy w t,il,jep,jev,jeo]
theorem qD(w:Nat){l:List Nat}{i:Nat}(h:i<l.length):pk w (l.take (i+1))=pk w (l.take i)+l[i]*2 ^ (w*i):=by
 rw[jdx h,sy,jdo,jeg (by omega)];simp[pk,jdP]
theorem QN(w:Nat):∀{l:List Nat} {i:Nat} (c:Nat) (h:i<l.length),pk w (l.set i c)+l[i]*2 ^ (w*i)=pk w l+c*2 ^ (w*i)
 | n::t,0,c,_=>by simp[pk];omega
 | n::t,i+1,c,h=>by
  have hi:i<t.length:=by simpa using h
  show n+2 ^ w*pk w (t.set i c)+t[i]*2 ^ (w*(i+1))=n+2 ^ w*pk w t+c*2 ^ (w*(i+1))
  have:=jdm (2 ^ w*·) (QN w (l:=t) (i:=i) c hi);simp only[jep]at this;rw[il,← jev,← jev,jdP t[i],jdP c,jev,jev];omega
theorem QO{w:Nat}{l:List Nat}(h:∀ x∈l,x<2 ^ w){i:Nat}(hi:i<l.length):l[i]=pk w l / 2 ^ (w*i) % 2 ^ w:=by
 have h1:=AL w l.length (pk w l) i hi;rw[AK h,List.getElem?_eq_getElem hi]at h1;exact Option.some.inj h1
theorem CX(w:Nat):∀ n,pk w (List.replicate n 0)=0
 | 0=>rfl
 | n+1=>by
  show 0+2 ^ w*pk w (List.replicate n 0)=0
  rw[CX w n];simp
theorem QP(w:Nat)(l:List Nat):pk w (l++[0])=pk w l:=by rw[sy];simp[pk]
def cU(n:Nat):Nat:=if n=0 then 0 else n.log2+1
theorem eK{n w:Nat}:cU n<=w↔n<2 ^ w:=by
 unfold cU;split
 ·next h=>subst h;simp[jea]
 ·next h=>rw[Nat.add_one_le_iff,Nat.log2_lt h]
theorem Ml{n:Nat}(h:n≠0):cU n=cU (n / 2)+1:=by
 have e:∀ k,cU (n / 2)<=k↔cU n<=k+1:=fun k=>by
  rw[eK,eK,Nat.pow_succ,Nat.div_lt_iff_lt_mul (by omega)]
 have h1:=(e (cU (n / 2))).1 (jdh _);have hp:0<cU n:=by unfold cU;rw[jde h];omega
 have h2:=(e (cU n-1)).2 (by omega);omega
theorem Wd(a b:Nat):cU (a ||| b)=max (cU a) (cU b):=by
 have e:∀ k,cU (a ||| b)<=k↔cU a<=k/\cU b<=k:=fun k=>by
  rw[eK,eK,eK];constructor
  ·intro h
   exact⟨je0 Nat.left_le_or h,je0 Nat.right_le_or h⟩
  ·intro h
   exact Nat.or_lt_two_pow h.1 h.2
 have h1:=(e _).1 (jdh _);have h2:=(e (max (cU a) (cU b))).2 ⟨by omega,by omega⟩;omega
def qE(l:List Nat):Nat:=l.foldl (· ||| ·) 0
theorem mR{l:List Nat}{i:Nat}(h:i<l.length):qE (l.take (i+1))=qE (l.take i) ||| l[i]:=by
 unfold qE;rw[jdx h,List.foldl_append];rfl
def wd(l:List Nat):Nat:=cU (qE l)
theorem qF{l:List Nat}{i:Nat}(h:i<l.length):wd (l.take (i+1))=max (wd (l.take i)) (cU l[i]):=by
 unfold wd;rw[mR h,Wd]
theorem QQ:wd []=0:=by decide
theorem vS{l:List Nat}{w:Nat}:∀ i,i<=l.length->(wd (l.take i)<=w↔∀ x∈l.take i,x<2 ^ w)
 | 0,_=>by simp[QQ]
 | i+1,h=>by
  rw[qF (by omega),jdx (by omega)];simp only[jdO,jd5];have ih:=vS (l:=l) (w:=w) i (by omega);constructor
  ·intro h1 x hx
   rcases hx with hx | rfl
   ·exact ih.1 (by omega) x hx
   ·exact eK.1 (by omega)
  ·intro h1
   have h2:=ih.2 (fun x hx=>h1 x (Or.inl hx));have h3:=eK.2 (h1 _ (Or.inr rfl));omega
theorem qG{l:List Nat}{w:Nat}:wd l<=w↔∀ x∈l,x<2 ^ w:=by
 have:=vS (l:=l) (w:=w) l.length (jdh _);rwa[jdp]at this
theorem Gu{l:List Nat}(h:∀ x∈l,x<18446744073709551616):wd l<=64:=qG.2 h
theorem or64{l:List Nat}(h:∀ x∈l,x<18446744073709551616)(i:Nat):qE (l.take i)<18446744073709551616:=by
 have h1:wd (l.take i)<=64:=Gu (fun x hx=>h x (jd3 hx));exact eK.1 h1
def by8(c:Nat):Nat:=(c+7) / 8
def can(l:List Nat)(w:Int):Bool:=decide (0<=w/\w<=64/\l.length<=256/\wd l<=w.toNat)
def bg(l:List Nat)(w:Int):List Nat:=if can l w then dig 8 (by8 (l.length*w.toNat)) (pk w.toNat l) else []
def unE(b:List Nat)(n w:Int):Nat :=
 if 0<=n/\n<=256/\0<=w/\w<=64 then (if b.length=by8 (n.toNat*w.toNat)/\pk 8 b<2 ^ (n.toNat*w.toNat) then 0 else 40) else 1
def unR(b:List Nat)(n w:Int):List Nat:=if unE b n w=0 then dig w.toNat n.toNat (pk 8 b) else []
theorem jab{b:List Nat}{n w:Int}:∀ x∈unR b n w,x<18446744073709551616:=by
 intro x hx;unfold unR at hx;split at hx
 ·next h =>
  have h1:=AM hx
  have hw:w.toNat<=64:=by
   unfold unE at h;split at h
   ·omega
   ·omega
  exact jdD h1 (jew (by omega) hw)
 ·simp at hx
theorem qH{l:List Nat}{w:Int}:∀ x∈bg l w,x<256:=by
 intro x hx;unfold bg at hx;split at hx
 ·exact AM hx
 ·simp at hx
theorem Gv(c:Nat):c<=8*by8 c:=by unfold by8;omega
theorem CY{l:List Nat}{w:Nat}(h:can l w=true):unE (bg l w) l.length w=0/\unR (bg l w) l.length w=l:=by
 have hc:=h;unfold can at hc;simp only[jd2,jdM]at hc;obtain⟨_,kJ,hl,hw⟩:=hc;have aC:=qG.1 hw;have XE:=CW aC;have hP:bg l w=dig 8 (by8 (l.length*w)) (pk w l):=by unfold bg;rw[jdf h];rfl
 have hB:pk 8 (bg l w)=pk w l:=by
  rw[hP,QM,jd7];refine jdD XE (jew (by omega) ?_);have:=Gv (l.length*w);rw[jdP w];exact this
 have hE:unE (bg l w) l.length w=0:=by
  unfold unE;rw[jdf ⟨by omega,by omega,by omega,by omega⟩,jdf];simp only[jdM];exact⟨by rw[hP,dM],by rw[hB,jdP];exact XE⟩
 refine⟨hE,?_⟩;unfold unR;rw[jdf hE,hB];simp only[jdM];exact AK aC
def w64(x:Int):Int:=(x+9223372036854775808) % 18446744073709551616-9223372036854775808
theorem jg(x:Int):I64 (w64 x):=by unfold w64 I64;omega
theorem QR{x:Int}(h:I64 x):w64 x=x:=by unfold I64 at h;unfold w64;omega
theorem QS{x last:Int}(h:I64 x):w64 (last+w64 (x-last))=x:=by unfold I64 at h;unfold w64;omega
def gh:List Int->List Nat
 | []=>[]
 | x::t=>wv x++gh t
def rd0:Nat->List Nat->Except Nat (List Int×List Nat)
 | 0,b=>.ok ([],b)
 | n+1,b=>aB wh (fun x=>aB (rd0 n) (fun l r=>.ok (x::l,r))) b
theorem QT:∀{l:List Int},(∀ x∈l,I64 x)->dZ (rd0 l.length) (gh l) l
 | [],_=>dZ.pure []
 | x::t,h=>by
  have ht:=QT (l:=t) (fun y hy=>h y (by simp[hy]));exact(lI (h x (by simp))).bind (f:=fun x=>aB (rd0 t.length) (fun l r=>.ok (x::l,r))) (ht.map (x::·))
def iE:Int->List Int->List Nat
 | _,[]=>[]
 | last,x::t=>wv (w64 (x-last))++iE x t
def rd1:Nat->Int->List Nat->Except Nat (List Int×List Nat)
 | 0,_,b=>.ok ([],b)
 | n+1,last,b=>aB wh (fun d=>aB (rd1 n (w64 (last+d))) (fun l r=>.ok (w64 (last+d)::l,r))) b
theorem QU:∀{l:List Int} (last:Int),(∀ x∈l,I64 x)->dZ (rd1 l.length last) (iE last l) l
 | [],_,_=>dZ.pure []
 | x::t,last,h=>by
  have hx:=h x (by simp);have ht:=QU (l:=t) x (fun y hy=>h y (by simp[hy]));refine(lI (jg (x-last))).bind (f:=fun d=>aB (rd1 t.length (w64 (last+d))) (fun l r=>.ok (w64 (last+d)::l,r))) ?_;simp only[QS hx];exact ht.map (x::·)
def fE:Int->Nat->List Int->List Nat
 | x,c,[]=>wv x++uv c
 | x,c,y::t=>if y=x then fE x (c+1) t else wv x++uv c++fE y 1 t
def im:List Int->List Nat
 | []=>[]
 | x::t=>fE x 1 t
def rd2:Nat->Nat->List Nat->Except Nat (List Int×List Nat)
 | 0,_,b=>.ok ([],b)
 | f+1,n,b=>if n=0 then .ok ([],b) else aB wh (fun x=>aB num (fun k=>if k=0∨n<k then (fun _=>.error 40) else aB (rd2 f (n-k)) (fun l r=>.ok (List.replicate k x++l,r)))) b
theorem CZ(f:Nat)(b:List Nat):rd2 f 0 b=.ok ([],b):=by
 cases f with
 | zero=>rfl
 | succ f=>unfold rd2;rw[jdf rfl]
theorem AN:∀{t:List Int} {x:Int} {c f:Nat},(∀ y∈t,I64 y)->I64 x->1<=c->c+t.length<=1000000->t.length+1<=f ->
  dZ (rd2 f (c+t.length)) (fE x c t) (List.replicate c x++t)
 | [],x,c,f,_,hx,hc,hm,hf=>by
  obtain⟨f,rfl⟩:∃ g,f=g+1:=⟨f-1,by simp at hf;omega⟩
  have h1:dZ (fun b=>aB wh (fun x=>aB num (fun k=>if k=0∨c<k then (fun _=>.error 40) else aB (rd2 f (c-k)) (fun l r=>.ok (List.replicate k x++l,r)))) b) (wv x++uv c) (List.replicate c x++[]):=by
   refine(lI hx).bind ?_
   have h2:=(lH (n:=c) (by simp at hm;omega)).bind (f:=fun k=>if k=0∨c<k then (fun _=>.error 40) else aB (rd2 f (c-k)) (fun l r=>.ok (List.replicate k x++l,r))) (e':=[]) (y:=List.replicate c x++[])
    (by
     rw[jde (by omega),jeH];have h3:dZ (rd2 f 0) [] []:=⟨fun r=>CZ f _,fun k h=>by simp at h⟩;exact h3.map (List.replicate c x++·))
   rwa[jdB]at h2
  have e:rd2 (f+1) (c+([]:List Int).length)=(fun b=>aB wh (fun x=>aB num (fun k=>if k=0∨c<k then (fun _=>.error 40) else aB (rd2 f (c-k)) (fun l r=>.ok (List.replicate k x++l,r)))) b):=by
   funext b
   show (if c=0 then _ else _)=_
   rw[jde (by omega)];rfl
  rw[e];exact h1
 | y::t,x,c,f,ht,hx,hc,hm,hf=>by
  by_cases Ct:y=x
  ·subst Ct
   have:=AN (t:=t) (x:=y) (c:=c+1) (f:=f) (fun z hz=>ht z (by simp[hz])) hx (by omega) (by simp at hm;omega) (by simp at hf;omega);rw[show fE y c (y::t)=fE y (c+1) t by rw[fE,jdf rfl],show c+(y::t).length=c+1+t.length by simp;omega];rw[show List.replicate c y++y::t=List.replicate (c+1) y++t by rw[List.replicate_succ'];simp];exact this
  ·obtain⟨f,rfl⟩:∃ g,f=g+1:=⟨f-1,by simp at hf;omega⟩
   have ih:=AN (t:=t) (x:=y) (c:=1) (f:=f) (fun z hz=>ht z (by simp[hz])) (ht y (by simp)) (by omega) (by simp at hm;omega) (by simp at hf;omega);rw[show fE x c (y::t)=wv x++uv c++fE y 1 t by rw[fE,jde Ct],jdw]
   have e:rd2 (f+1) (c+(y::t).length)=(fun b=>aB wh (fun x=>aB num (fun k=>if k=0∨c+(y::t).length<k then (fun _=>.error 40) else aB (rd2 f (c+(y::t).length-k)) (fun l r=>.ok (List.replicate k x++l,r)))) b):=by
    funext b
    rw[rd2,jde (by omega)]
   rw[e];refine(lI hx).bind ?_;refine(lH (n:=c) (by omega)).bind ?_;rw[jde (by omega),show c+(y::t).length-c=1+t.length by simp;omega];exact ih.map (List.replicate c x++·)
theorem jac{l:List Int}(h:∀ x∈l,I64 x)(hm:l.length<=1000000):dZ (rd2 l.length l.length) (im l) l:=by
 cases l with
 | nil=>exact dZ.pure []
 | cons x t =>
  have:=AN (t:=t) (x:=x) (c:=1) (f:=(x::t).length) (fun z hz=>h z (by simp[hz])) (h x (by simp)) (by omega) (by simp at hm;omega) (by simp);rw[show 1+t.length=(x::t).length by simp;omega]at this;exact this
def ins(x:Int):List Int->List Int
 | []=>[x]
 | y::t=>if x=y then y::t else if x<y then x::y::t else y::ins x t
def cG(l:List Int):List Int:=l.foldl (fun u x=>ins x u) []
def dN(l:List Int):Prop:=l.Pairwise (· < ·)
theorem AO{x z:Int}:∀{u:List Int},z∈ins x u↔z=x∨z∈u
 | []=>by simp[ins]
 | y::t=>by
  have ih:=AO (x:=x) (z:=z) (u:=t);unfold ins;split
  ·next h =>
   subst h;simp
  ·split
   ·simp
   ·simp only[jdz,ih]
    constructor
    ·rintro(h | h | h)
     ·exact Or.inr (Or.inl h)
     ·exact Or.inl h
     ·exact Or.inr (Or.inr h)
    ·rintro(h | h | h)
     ·exact Or.inr (Or.inl h)
     ·exact Or.inl h
     ·exact Or.inr (Or.inr h)
theorem vT{x:Int}:∀{u:List Int},dN u->dN (ins x u)
 | [],_=>by simp[ins,dN]
 | y::t,h=>by
  have h1:(∀ z∈t,y<z)/\dN t:=jej.1 h;unfold ins;split
  ·exact h
  ·next fQ =>
   split
   ·next aC =>
    refine jej.2 ⟨fun z hz=>?_,h⟩;rcases jdz.1 hz with rfl | hz
    ·exact aC
    ·exact Int.lt_trans aC (h1.1 z hz)
   ·next aC =>
    refine jej.2 ⟨fun z hz=>?_,vT h1.2⟩;rcases AO.1 hz with rfl | hz
    ·omega
    ·exact h1.1 z hz
theorem vU{l:List Int}{i:Nat}(h:i<l.length):cG (l.take (i+1))=ins l[i] (cG (l.take i)):=by
 unfold cG;rw[jdx h,List.foldl_append];rfl
theorem sC:∀(l u:List Int),dN u->dN (l.foldl (fun u x=>ins x u) u)/\∀ z,z∈l.foldl (fun u x=>ins x u) u↔z∈u∨z∈l
 | [],u,h=>⟨h,fun z=>by simp⟩
 | x::t,u,h=>by
  obtain⟨h1,h2⟩:=sC t (ins x u) (vT h);refine⟨h1,fun z=>?_⟩;have:=h2 z;rw[AO]at this;simp only[List.foldl_cons,jdz];rw[this];constructor
  ·rintro((h | h) | h)
   ·exact Or.inr (Or.inl h)
   ·exact Or.inl h
   ·exact Or.inr (Or.inr h)
  ·rintro(h | h | h)
   ·exact Or.inl (Or.inr h)
   ·exact Or.inl (Or.inl h)
   ·exact Or.inr h
theorem gP(l:List Int):dN (cG l):=(sC l [] List.Pairwise.nil).1
theorem gi{l:List Int}{z:Int}:z∈cG l↔z∈l:=by
 have:=(sC l [] List.Pairwise.nil).2 z;unfold cG;rw[this];simp
theorem pM{x:Int}:∀{u:List Int},(ins x u).length<=u.length+1
 | []=>by simp[ins]
 | y::t=>by
  have:=pM (x:=x) (u:=t);unfold ins;split
  ·simp
  ·split
   ·simp
   ·simp;omega
theorem lK:∀(l u:List Int),(l.foldl (fun u x=>ins x u) u).length<=u.length+l.length
 | [],u=>by simp
 | x::t,u=>by
  have h1:=lK t (ins x u);have h2:=pM (x:=x) (u:=u);simp only[List.foldl_cons,jdn];omega
theorem fF(l:List Int):(cG l).length<=l.length:=by
 have:=lK l [];unfold cG;simpa using this
theorem nz{l:List Int}(h:0<l.length):0<(cG l).length:=by
 have:l[0]∈cG l:=gi.2 (jdl h);exact List.length_pos_of_mem this
theorem lL{l:List Int}(h:∀ x∈l,I64 x):∀ x∈cG l,I64 x:=fun x hx=>h x (gi.1 hx)
def pl:List Int->Int->Nat
 | [],_=>0
 | y::t,x=>if y=x then 0 else pl t x+1
theorem vV{x:Int}:∀{u:List Int},x∈u->pl u x<u.length/\u[pl u x]?=some x
 | y::t,h=>by
  unfold pl;split
  ·next e=>subst e;simp
  ·next fQ =>
   have ht:x∈t:=by
    rcases jdz.1 h with rfl | h
    ·exact absurd rfl fQ
    ·exact h
   obtain⟨h1,h2⟩:=vV ht;simp only[jdn,List.getElem?_cons_succ];exact⟨by omega,h2⟩
theorem YF:∀{u:List Int} {i:Nat} (h:i<u.length),dN u->pl u u[i]=i
 | y::t,0,_,_=>by simp[pl]
 | y::t,i+1,h,hr=>by
  have hi:i<t.length:=by simpa using h
  have h1:(∀ z∈t,y<z)/\dN t:=jej.1 hr;have h2:=h1.1 t[i] (jdl hi);show pl (y::t) t[i]=i+1
  unfold pl;rw[jde (by omega),YF hi h1.2]
def places(l:List Int):List Nat:=l.map (pl (cG l))
theorem lq(l:List Int):(places l).length=l.length:=jdk _
theorem oq{l:List Int}:∀ p∈places l,p<(cG l).length:=by
 intro p hp;obtain⟨x,hx,rfl⟩:=jdE.1 hp;exact(vV (gi.2 hx)).1
theorem Gw{l:List Int}(h:0<l.length):(cG l).length-1∈places l:=by
 have hu:=nz h;have hi:(cG l).length-1<(cG l).length:=by omega
 refine jdE.2 ⟨(cG l)[(cG l).length-1],gi.1 (jdl hi),?_⟩;exact YF hi (gP l)
theorem yX{l:List Int}(h:0<l.length):wd (places l)=cU ((cG l).length-1):=by
 have hu:=nz h
 have e:∀ w,wd (places l)<=w↔cU ((cG l).length-1)<=w:=fun w=>by
  rw[qG,eK];constructor
  ·intro h1
   exact h1 _ (Gw h)
  ·intro h1 p hp
   have:=oq p hp;omega
 have h1:=(e _).1 (jdh _);have h2:=(e _).2 (jdh _);omega
theorem Da(l:List Int):(places l).map (fun q=>(cG l).getD q 0)=l:=by
 unfold places;rw[jdT];conv=>rhs;rw[← jel l]
 apply jef
 intro x hx;have:=(vV (gi.2 hx)).2;simp[List.getD_eq_getElem?_getD,this]
def gQ(l:List Int):Int:=(cG l).headD 0
theorem gR{l:List Int}(h:0<l.length):gQ l∈l:=by
 have hu:=nz h;unfold gQ;cases hq:cG l with
 | nil=>rw[hq]at hu;simp at hu
 | cons y t =>
  have:y∈cG l:=by rw[hq];simp
  exact gi.1 this
theorem nA{l:List Int}:∀ x∈l,gQ l<=x:=by
 intro x hx;have h1:=gi.2 hx;have h2:=gP l;unfold gQ;cases hq:cG l with
 | nil=>rw[hq]at h1;simp at h1
 | cons y t =>
  rw[hq]at h1 h2;have h3:(∀ z∈t,y<z)/\dN t:=jej.1 h2;rcases jdz.1 h1 with rfl | h1
  ·exact Int.le_refl _
  ·exact Int.le_of_lt (h3.1 x h1)
def di(l:List Int):List Nat:=l.map fun x=>(x-gQ l).toNat
theorem fT(l:List Int):(di l).length=l.length:=jdk _
theorem lM{l:List Int}(h:∀ x∈l,I64 x):∀ p∈di l,p<18446744073709551616:=by
 intro p hp;obtain⟨x,hx,rfl⟩:=jdE.1 hp;have h1:=h x hx;have h2:=h _ (gR (List.length_pos_of_mem hx));have h3:=nA x hx;unfold I64 at h1 h2;omega
theorem Gx{l:List Int}(h:∀ x∈l,I64 x):(di l).map (fun(q:Nat)=>w64 (gQ l+(q:Int)))=l:=by
 unfold di;rw[jdT];conv=>rhs;rw[← jel l]
 apply jef
 intro x hx;have h1:=h x hx;have h3:=nA x hx;simp only[Function.comp,id];rw[show gQ l+((x-gQ l).toNat:Int)=x by omega];exact QR h1
def pkd(n w:Nat)(b:List Nat):Except Nat (List Nat×List Nat) :=
 if b.length<by8 (n*w) then .error 30
 else if by8 (n*w)<b.length then .error 32
 else if unE b n w=0 then .ok (unR b n w,[]) else .error (unE b n w)
theorem Gy{p:List Nat}{w:Nat}(hl:p.length<=256)(hw:w<=64)(hp:wd p<=w):can p w=true:=by
 unfold can;exact jdy ⟨by omega,by omega,hl,by omega⟩
theorem mw{p:List Nat}{w:Nat}(h:can p w=true):(bg p w).length=by8 (p.length*w):=by
 unfold bg;rw[jdf h,dM];rfl
theorem Db{p:List Nat}{w:Nat}(hl:p.length<=256)(hw:w<=64)(hp:wd p<=w):qC (pkd p.length w) (bg p w) p:=by
 have lx:=Gy hl hw hp;have bR:=mw lx;obtain⟨h1,h2⟩:=CY lx;refine⟨?_,fun y r=>Or.inl ?_,fun k hk=>?_⟩
 ·unfold pkd
  rw[jde (by omega),jde (by omega),jdf h1,h2]
 ·unfold pkd
  rw[jde (by simp;omega),jdf (by simp;omega)]
 ·unfold pkd
  rw[jdf (by rw[jdo];omega)]
def pN:Int->List Int->List Nat
 | _,[]=>[]
 | last,y::t=>uv (y-last).toNat++pN y t
def ia:List Int->List Nat
 | []=>[]
 | x::t=>wv x++pN x t
def rdU:Nat->Int->List Nat->Except Nat (List Int×List Nat)
 | 0,_,b=>.ok ([],b)
 | m+1,last,b=>aB num (fun(d:Nat)=>if d=0∨9223372036854775807-last<(d:Int) then (fun _=>.error 40) else aB (rdU m (last+d)) (fun l r=>.ok ((last+d)::l,r))) b
theorem QV:∀{t:List Int} {last:Int},dN (last::t)->I64 last->(∀ x∈t,I64 x)->dZ (rdU t.length last) (pN last t) t
 | [],_,_,_,_=>dZ.pure []
 | y::t,last,hr,hl,ht=>by
  have h1:(∀ z∈y::t,last<z)/\dN (y::t):=jej.1 hr;have hy:=h1.1 y (by simp);have hyi:=ht y (by simp);have ih:=QV (t:=t) (last:=y) h1.2 hyi (fun x hx=>ht x (by simp[hx]));unfold I64 at hl hyi;refine(lH (n:=(y-last).toNat) (by omega)).bind (f:=fun(d:Nat)=>if d=0∨9223372036854775807-last<(d:Int) then (fun _=>.error 40) else aB (rdU t.length (last+d)) (fun l r=>.ok ((last+d)::l,r))) ?_;rw[jde (by omega),show last+((y-last).toNat:Int)=y by omega];exact ih.map (y::·)
def pO(l:List Int):List Nat:=uv (cG l).length++(ia (cG l)++bg (places l) (wd (places l):Int))
def picked(u:List Int)(p r:List Nat):Except Nat (List Int×List Nat):=if ∀ q∈p,q<u.length then .ok (p.map (fun q=>u.getD q 0),r) else .error 40
def rd3(n:Nat)(b:List Nat):Except Nat (List Int×List Nat) :=
 aB num (fun many=>if n<many∨many=0/\0<n then (fun _=>.error 40) else if n=0 then (fun r=>.ok ([],r)) else
  aB wh (fun x=>aB (rdU (many-1) x) (fun u=>aB (pkd n (cU (many-1))) (fun p r=>picked (x::u) p r)))) b
theorem qC.picked{d:List Nat->Except Nat (List Nat×List Nat)}{e p:List Nat}{u:List Int}(h:qC d e p)(hp:∀ q∈p,q<u.length):qC (aB d (picked u)) e (p.map fun q=>u.getD q 0):=by
 have hk:∀ r,YtpljdjmpamjkhaaGreatDoor.picked u p r=.ok (p.map (fun q=>u.getD q 0),r):=fun r=>by unfold YtpljdjmpamjkhaaGreatDoor.picked;rw[jdf hp]
 refine⟨by rw[cX h.1,hk],fun y r=>?_,fun k hk=>cC (h.2.2 k hk)⟩;rcases h.2.1 y r with h1 | h1
 ·exact Or.inl (cC h1)
 ·exact Or.inr (by rw[cX h1,hk])
theorem Dc{l:List Int}(hm:l.length<=256):wd (places l)<=64:=by
 refine qG.2 (fun p hp=>?_);have:=oq p hp;have:=fF l;have:p<256:=by omega
 exact jdD this (by decide)
theorem ends3{l:List Int}(h:∀ x∈l,I64 x)(hm:l.length<=256):qC (rd3 l.length) (pO l) l:=by
 have uK:=fF l;have kK:=lq l;have hwp:=Dc hm;have Ul:=lH (n:=(cG l).length) (by omega);refine Ul.then ?_
 rcases jd4 l.length with h0 | h0
 ·obtain rfl:l=[]:=jdF h0
  rw[jde (by simp[cG]),jdf (show ([]:List Int).length=0 from rfl)]
  have e:ia (cG [])++bg (places []) (wd (places []):Int)=[]:=by
   have:bg (places []) (wd (places []):Int)=[]:=by
    have hc:=Gy (p:=places []) (w:=wd (places [])) (by simp[places]) hwp (jdh _);have h1:=mw hc;refine jdF (h1.trans ?_);simp[places,by8]
   rw[this];simp[cG,ia]
  rw[e];exact(dZ.pure []).ends
 ·have hup:=nz h0
  rw[jde (by omega),jde (by omega)];have hr:=gP l;have hi:=lL h;have hb:=Da l;have aC:=oq (l:=l);have LA:=yX h0;generalize places l=p at *;cases hu:cG l with
  | nil=>rw[hu]at hup;simp at hup
  | cons x t =>
   rw[hu]at hr hi hb aC LA;have xG:=Db (p:=p) (w:=wd p) (by omega) hwp (jdh _);rw[kK]at xG;rw[show ia (x::t)=wv x++pN x t from rfl,jdw];refine(lI (hi x (by simp))).then ?_
   refine(QV hr (hi x (by simp)) (fun z hz=>hi z (by simp[hz]))).then (f:=fun u=>aB (pkd l.length (cU ((x::t).length-1))) (fun p r=>picked (x::u) p r)) ?_
   rw[← LA];have:=xG.picked (u:=x::t) aC;rw[hb]at this;exact this
def lN(l:List Int):List Nat:=if l.length=0 then [] else wv (gQ l)++(uv (wd (di l))++bg (di l) (wd (di l):Int))
def rd4(n:Nat)(b:List Nat):Except Nat (List Int×List Nat) :=
 if n=0 then .ok ([],b) else
  aB wh (fun x=>aB num (fun w=>if 64<w then (fun _=>.error 40) else aB (pkd n w) (fun p r=>.ok (p.map (fun(q:Nat)=>w64 (x+(q:Int))),r)))) b
theorem ends4{l:List Int}(h:∀ x∈l,I64 x)(hm:l.length<=256):qC (rd4 l.length) (lN l) l:=by
 rcases jd4 l.length with h0 | h0
 ·obtain rfl:l=[]:=jdF h0
  exact(dZ.pure ([]:List Int)).ends
 ·have hml:=fT l
  have hw:=Gu (lM h);have xG:=Db (p:=di l) (w:=wd (di l)) (by omega) hw (jdh _);rw[hml]at xG;have kG:=xG.map (fun p=>p.map (fun(q:Nat)=>w64 (gQ l+(q:Int))));rw[Gx h]at kG
  have Ul:qC (aB num (fun w=>if 64<w then (fun _=>.error 40) else aB (pkd l.length w) (fun p r=>.ok (p.map (fun(q:Nat)=>w64 (gQ l+(q:Int))),r)))) (uv (wd (di l))++bg (di l) (wd (di l):Int)) l:=by
   refine(lH (n:=wd (di l)) (by omega)).then ?_
   rw[jde (by omega)];exact kG
  have cW:=(lI (h _ (gR h0))).then (f:=fun x=>aB num (fun w=>if 64<w then (fun _=>.error 40) else aB (pkd l.length w) (fun p r=>.ok (p.map (fun(q:Nat)=>w64 (x+(q:Int))),r)))) Ul
  have e1:lN l=wv (gQ l)++(uv (wd (di l))++bg (di l) (wd (di l):Int)):=by unfold lN;rw[jde (by omega)]
  have e2:rd4 l.length=aB wh (fun x=>aB num (fun w=>if 64<w then (fun _=>.error 40) else aB (pkd l.length w) (fun p r=>.ok (p.map (fun(q:Nat)=>w64 (x+(q:Int))),r)))):=by
   funext b
   unfold rd4;rw[jde (by omega)]
  rw[e1,e2];exact cW
def ib(c:Nat)(l:List Int):List Nat :=
 match c with
 | 0=>gh l
 | 1=>iE 0 l
 | 2=>im l
 | 3=>pO l
 | _=>lN l
def rdC(c n:Nat):List Nat->Except Nat (List Int×List Nat) :=
 match c with
 | 0=>rd0 n
 | 1=>rd1 n 0
 | 2=>rd2 n n
 | 3=>rd3 n
 | _=>rd4 n
theorem endsC(c:Nat){l:List Int}(h:∀ x∈l,I64 x)(hm:l.length<=256):qC (rdC c l.length) (ib c l) l:=by
 unfold rdC ib;split
 ·exact(QT h).ends
 ·exact(QU 0 h).ends
 ·exact(jac h (by omega)).ends
 ·exact ends3 h hm
 ·exact ends4 h hm
def mS(c n:Nat)(b:List Nat):Except Nat (List Int) :=
 match rdC c n b with
 | .error e=>.error e
 | .ok (l,r)=>if r.length=0 then (if ib c l=b then .ok l else .error 40) else .error 32
def bo(b:List Nat)(n:Int):List Int×Nat :=
 if 0<=n/\n<=256 then
  match b with
  | []=>([],30)
  | c::t=>if 4<c then ([],50) else match mS c n.toNat t with
   | .ok l=>(l,0)
   | .error e=>([],e)
 else ([],1)
theorem Gz(c:Nat){l:List Int}(h:∀ x∈l,I64 x)(hm:l.length<=256):mS c l.length (ib c l)=.ok l:=by
 unfold mS;rw[(endsC c h hm).1];simp
theorem GA{c:Nat}(hc:c<=4){l:List Int}(h:∀ x∈l,I64 x)(hm:l.length<=256):bo (c::ib c l) l.length=(l,0):=by
 unfold bo;rw[jdf (by omega)];simp only[jdM];rw[jde (by omega),Gz c h hm]
theorem ch{α β : Type}{d:List Nat->Except Nat (α×List Nat)}{f:α->List Nat->Except Nat (β×List Nat)}{b r:List Nat}{y:β}(h:aB d f b=.ok (y,r)) :
  ∃ x q,d b=.ok (x,q)/\f x q=.ok (y,r):=by
 unfold aB at h;split at h
 ·next x q e=>exact⟨x,q,e,h⟩
 ·simp at h
theorem Bs.right{a b:List Nat}(h:Bs (a++b)):Bs b:=fun x hx=>h x (jdO.2 (Or.inr hx))
theorem AP{b r:List Nat}{n:Nat}(hb:Bs b)(h:num b=.ok (n,r)):n<18446744073709551616/\Bs r:=by
 obtain⟨h1,h2⟩:=ZX hb h;exact⟨h1,by rw[h2]at hb;exact hb.right⟩
theorem vW{b r:List Nat}{x:Int}(hb:Bs b)(h:wh b=.ok (x,r)):I64 x/\Bs r:=by
 obtain⟨h1,h2⟩:=wh_ok hb h;exact⟨h1,by rw[h2]at hb;exact hb.right⟩
def Is(l:List Int):Prop:=∀ x∈l,I64 x
theorem Is.cons{x:Int}{l:List Int}(h:I64 x)(hl:Is l):Is (x::l):=fun y hy=>by
 rcases jdz.1 hy with rfl | hy
 ·exact h
 ·exact hl y hy
theorem KT:∀{n:Nat} {b r:List Nat} {l:List Int},Bs b->rd0 n b=.ok (l,r)->l.length=n/\Is l/\Bs r
 | 0,b,r,l,hb,h=>by
  simp only[rd0,Except.ok.injEq,Prod.mk.injEq]at h;obtain⟨rfl,rfl⟩:=h;exact⟨rfl,fun x hx=>by simp at hx,hb⟩
 | n+1,b,r,l,hb,h=>by
  rw[rd0]at h;obtain⟨x,q,h1,h2⟩:=ch h;obtain⟨m,q2,h3,h4⟩:=ch h2;obtain⟨i1,i2⟩:=vW hb h1;obtain⟨j1,j2,j3⟩:=KT i2 h3;simp only[Except.ok.injEq,Prod.mk.injEq]at h4;obtain⟨rfl,rfl⟩:=h4;exact⟨by simp[j1],j2.cons i1,j3⟩
theorem KU:∀{n:Nat} {last:Int} {b r:List Nat} {l:List Int},Bs b->rd1 n last b=.ok (l,r)->l.length=n/\Is l/\Bs r
 | 0,last,b,r,l,hb,h=>by
  simp only[rd1,Except.ok.injEq,Prod.mk.injEq]at h;obtain⟨rfl,rfl⟩:=h;exact⟨rfl,fun x hx=>by simp at hx,hb⟩
 | n+1,last,b,r,l,hb,h=>by
  rw[rd1]at h;obtain⟨x,q,h1,h2⟩:=ch h;obtain⟨m,q2,h3,h4⟩:=ch h2;obtain⟨i1,i2⟩:=vW hb h1;obtain⟨j1,j2,j3⟩:=KU i2 h3;simp only[Except.ok.injEq,Prod.mk.injEq]at h4;obtain⟨rfl,rfl⟩:=h4;exact⟨by simp[j1],j2.cons (jg _),j3⟩
theorem KV:∀{f n:Nat} {b r:List Nat} {l:List Int},n<=f->Bs b->rd2 f n b=.ok (l,r)->l.length=n/\Is l/\Bs r
 | 0,n,b,r,l,hf,hb,h=>by
  simp only[rd2,Except.ok.injEq,Prod.mk.injEq]at h;obtain⟨rfl,rfl⟩:=h;exact⟨by simp;omega,fun x hx=>by simp at hx,hb⟩
 | f+1,n,b,r,l,hf,hb,h=>by
  rw[rd2]at h;split at h
  ·simp only[Except.ok.injEq,Prod.mk.injEq]at h
   obtain⟨rfl,rfl⟩:=h;exact⟨by simp;omega,fun x hx=>by simp at hx,hb⟩
  ·obtain⟨x,q,h1,h2⟩:=ch h
   obtain⟨i1,i2⟩:=vW hb h1;obtain⟨k,q2,h3,h4⟩:=ch h2;obtain⟨_,i3⟩:=AP i2 h3;split at h4
   ·simp at h4
   ·obtain⟨m,q3,h5,h6⟩:=ch h4
    obtain⟨j1,j2,j3⟩:=KV (by omega) i3 h5;simp only[Except.ok.injEq,Prod.mk.injEq]at h6;obtain⟨rfl,rfl⟩:=h6;refine⟨by simp[j1];omega,fun y hy=>?_,j3⟩;rcases jdO.1 hy with hy | hy
    ·rw[je1 hy];exact i1
    ·exact j2 y hy
theorem KW:∀{m:Nat} {last:Int} {b r:List Nat} {l:List Int},I64 last->Bs b->rdU m last b=.ok (l,r)->l.length=m/\Is l/\Bs r
 | 0,last,b,r,l,hl,hb,h=>by
  simp only[rdU,Except.ok.injEq,Prod.mk.injEq]at h;obtain⟨rfl,rfl⟩:=h;exact⟨rfl,fun x hx=>by simp at hx,hb⟩
 | m+1,last,b,r,l,hl,hb,h=>by
  rw[rdU]at h;obtain⟨d,q,h1,h2⟩:=ch h;obtain⟨_,i2⟩:=AP hb h1;split at h2
  ·simp at h2
  ·next hd =>
   have hi:I64 (last+d):=by unfold I64 at hl ⊢;omega
   obtain⟨m',q2,h3,h4⟩:=ch h2;obtain⟨j1,j2,j3⟩:=KW hi i2 h3;simp only[Except.ok.injEq,Prod.mk.injEq]at h4;obtain⟨rfl,rfl⟩:=h4;exact⟨by simp[j1],j2.cons hi,j3⟩
theorem KX{n w:Nat}{b r p:List Nat}(h:pkd n w b=.ok (p,r)):p.length=n/\r=[]:=by
 unfold pkd at h;split at h
 ·simp at h
 ·split at h
  ·simp at h
  ·split at h
   ·next hE =>
    simp only[Except.ok.injEq,Prod.mk.injEq]at h;obtain⟨rfl,rfl⟩:=h;refine⟨?_,rfl⟩;rw[unR,jdf hE,dM];rfl
   ·simp at h
theorem We{n:Nat}{b r:List Nat}{l:List Int}(hb:Bs b)(h:rd3 n b=.ok (l,r)):l.length=n/\Is l/\Bs r:=by
 unfold rd3 at h;obtain⟨many,q,h1,h2⟩:=ch h;obtain⟨_,i2⟩:=AP hb h1;split at h2
 ·simp at h2
 ·split at h2
  ·simp only[Except.ok.injEq,Prod.mk.injEq]at h2
   obtain⟨rfl,rfl⟩:=h2;exact⟨by simp;omega,fun x hx=>by simp at hx,i2⟩
  ·obtain⟨x,q2,h3,h4⟩:=ch h2
   obtain⟨i3,i4⟩:=vW i2 h3;obtain⟨u,q3,h5,h6⟩:=ch h4;obtain⟨j1,j2,j3⟩:=KW i3 i4 h5;obtain⟨p,q4,h7,h8⟩:=ch h6;obtain⟨k1,rfl⟩:=KX h7;unfold picked at h8;split at h8
   ·next hp =>
    simp only[Except.ok.injEq,Prod.mk.injEq]at h8;obtain⟨rfl,rfl⟩:=h8;refine⟨by simp[k1],fun y hy=>?_,fun y hy=>by simp at hy⟩;obtain⟨z,hz,rfl⟩:=jdE.1 hy;have aC:=hp z hz;rw[List.getD_eq_getElem?_getD,List.getElem?_eq_getElem aC];exact(j2.cons i3) _ (jdl aC)
   ·simp at h8
theorem Wf{n:Nat}{b r:List Nat}{l:List Int}(hb:Bs b)(h:rd4 n b=.ok (l,r)):l.length=n/\Is l/\Bs r:=by
 unfold rd4 at h;split at h
 ·simp only[Except.ok.injEq,Prod.mk.injEq]at h
  obtain⟨rfl,rfl⟩:=h;exact⟨by simp;omega,fun x hx=>by simp at hx,hb⟩
 ·obtain⟨x,q,h1,h2⟩:=ch h
  obtain⟨i1,i2⟩:=vW hb h1;obtain⟨w,q2,h3,h4⟩:=ch h2;split at h4
  ·simp at h4
  ·obtain⟨p,q3,h5,h6⟩:=ch h4
   obtain⟨k1,rfl⟩:=KX h5;simp only[Except.ok.injEq,Prod.mk.injEq]at h6;obtain⟨rfl,rfl⟩:=h6;refine⟨by simp[k1],fun y hy=>?_,fun y hy=>by simp at hy⟩;obtain⟨z,_,rfl⟩:=jdE.1 hy;exact jg _
theorem Wg{c n:Nat}{b r:List Nat}{l:List Int}(hb:Bs b)(h:rdC c n b=.ok (l,r)):l.length=n/\Is l/\Bs r:=by
 unfold rdC at h;split at h
 ·exact KT hb h
 ·exact KU hb h
 ·exact KV (jdh _) hb h
 ·exact We hb h
 ·exact Wf hb h
theorem Mm{c n:Nat}{b:List Nat}{l:List Int}(hb:Bs b)(h:mS c n b=.ok l):l.length=n/\Is l/\ib c l=b:=by
 unfold mS at h;split at h
 ·simp at h
 ·next l' r e =>
  split at h
  ·split at h
   ·next h2 =>
    simp only[Except.ok.injEq]at h;subst h;obtain⟨h3,h4,_⟩:=Wg hb e;exact⟨h3,h4,h2⟩
   ·simp at h
  ·simp at h
theorem dC{α β : Type}{d:List Nat->Except Nat (α×List Nat)}{f:α->List Nat->Except Nat (β×List Nat)}(h1:∀ b,d b≠.error 0)(h2:∀ x b,f x b≠.error 0)(b:List Nat):aB d f b≠.error 0:=by
 unfold aB;split
 ·exact h2 _ _
 ·next e he =>
  intro h;simp only[Except.error.injEq]at h;subst h;exact h1 b he
theorem AQ(b:List Nat):num b≠.error 0:=by
 unfold num;split
 ·simp
 ·next h=>intro e;simp only[Except.error.injEq]at e;exact h e
theorem Dd(b:List Nat):wh b≠.error 0:=by
 unfold wh;split
 ·simp
 ·next h=>intro e;simp only[Except.error.injEq]at e;exact h e
theorem QW(n w:Nat)(b:List Nat):pkd n w b≠.error 0:=by
 unfold pkd;split
 ·simp
 ·split
  ·simp
  ·split
   ·simp
   ·next h=>intro e;simp only[Except.error.injEq]at e;exact h e
theorem QX:∀(n:Nat) (b:List Nat),rd0 n b≠.error 0
 | 0,b=>by simp[rd0]
 | n+1,b=>dC Dd (fun x=>dC (QX n) (fun l r=>by simp)) b
theorem QY:∀(n:Nat) (last:Int) (b:List Nat),rd1 n last b≠.error 0
 | 0,last,b=>by simp[rd1]
 | n+1,last,b=>dC Dd (fun d=>dC (QY n _) (fun l r=>by simp)) b
theorem QZ:∀(f n:Nat) (b:List Nat),rd2 f n b≠.error 0
 | 0,n,b=>by simp[rd2]
 | f+1,n,b=>by
  rw[rd2];split
  ·simp
  ·refine dC Dd (fun x=>dC AQ (fun k q=>?_)) b
   split
   ·simp
   ·exact dC (QZ f _) (fun l r=>by simp) q
theorem Ra:∀(m:Nat) (last:Int) (b:List Nat),rdU m last b≠.error 0
 | 0,last,b=>by simp[rdU]
 | m+1,last,b=>by
  rw[rdU];refine dC AQ (fun d q=>?_) b;split
  ·simp
  ·exact dC (Ra m _) (fun l r=>by simp) q
theorem jad(n:Nat)(b:List Nat):rd3 n b≠.error 0:=by
 unfold rd3;refine dC AQ (fun many q=>?_) b;split
 ·simp
 ·split
  ·simp
  ·refine dC Dd (fun x=>dC (Ra _ _) (fun u=>dC (QW _ _) (fun p r=>?_))) q
   unfold picked;split<;>simp
theorem jae(n:Nat)(b:List Nat):rd4 n b≠.error 0:=by
 unfold rd4;split
 ·simp
 ·refine dC Dd (fun x=>dC AQ (fun w q=>?_)) b
  split
  ·simp
  ·exact dC (QW _ _) (fun p r=>by simp) q
theorem jaf(c n:Nat)(b:List Nat):rdC c n b≠.error 0:=by
 unfold rdC;split
 ·exact QX n b
 ·exact QY n 0 b
 ·exact QZ n n b
 ·exact jad n b
 ·exact jae n b
theorem Rb(c n:Nat)(b:List Nat):mS c n b≠.error 0:=by
 unfold mS;split
 ·next e he =>
  intro h;simp only[Except.error.injEq]at h;subst h;exact jaf c n b he
 ·split
  ·split<;>simp
  ·simp
theorem Mn{b:List Nat}{n:Int}{l:List Int}(hb:Bs b)(h:bo b n=(l,0)):0<=n/\n<=256/\∃ c t,b=c::t/\c<=4/\(l.length:Int)=n/\Is l/\ib c l=t:=by
 unfold bo at h;split at h
 ·next hn =>
  refine⟨hn.1,hn.2,?_⟩;split at h
  ·simp at h
  ·next c t =>
   split at h
   ·simp at h
   ·next hc =>
    split at h
    ·next l' e =>
     simp only[Prod.mk.injEq,and_true]at h;subst h;obtain⟨h1,h2,h3⟩:=Mm (fun x hx=>hb x (by simp[hx])) e;exact⟨c,t,rfl,by omega,by omega,h2,h3⟩
    ·next e he =>
     simp only[Prod.mk.injEq]at h;rw[h.2]at he;exact absurd he (Rb _ _ _)
 ·simp at h
def jB(l:List Int):Nat->List Nat
 | 0=>0::ib 0 l
 | c+1=>if (ib (c+1) l).length+1<(jB l c).length then (c+1)::ib (c+1) l else jB l c
theorem jo(l:List Int):∀ k,∃ c,c<=k/\jB l k=c::ib c l
 | 0=>⟨0,jdh _,rfl⟩
 | k+1=>by
  rw[jB];split
  ·exact⟨k+1,jdh _,rfl⟩
  ·obtain⟨c,h1,h2⟩:=jo l k
   exact⟨c,by omega,h2⟩
theorem ot(l:List Int):∀ k c,c<=k->(jB l k).length<=(ib c l).length+1
 | 0,c,h=>by
  obtain rfl:c=0:=by omega
  simp[jB]
 | k+1,c,h=>by
  rw[jB];split
  ·next aC =>
   rcases jdJ k c with h1 | h1
   ·obtain rfl:c=k+1:=by omega
    simp
   ·have:=ot l k c h1
    simp
    omega
  ·next aC =>
   rcases jdJ k c with h1 | h1
   ·obtain rfl:c=k+1:=by omega
    omega
   ·exact ot l k c h1
theorem lO:∀{l:List Int},Is l->(gh l).length<=10*l.length/\Bs (gh l)
 | [],_=>⟨by simp[gh],fun x hx=>by simp[gh]at hx⟩
 | x::t,h=>by
  obtain⟨h1,h2⟩:=lO (l:=t) (fun y hy=>h y (by simp[hy]));have h3:=fh (h x (by simp));refine⟨by simp[gh];omega,fun y hy=>?_⟩;rcases jdO.1 hy with hy | hy
  ·exact yU y hy
  ·exact h2 y hy
theorem ov:∀{l:List Int} {last:Int},(iE last l).length<=10*l.length/\Bs (iE last l)
 | [],_=>⟨by simp[iE],fun x hx=>by simp[iE]at hx⟩
 | x::t,last=>by
  obtain⟨h1,h2⟩:=ov (l:=t) (last:=x);have h3:=fh (jg (x-last));refine⟨by simp[iE];omega,fun y hy=>?_⟩;rcases jdO.1 hy with hy | hy
  ·exact yU y hy
  ·exact h2 y hy
theorem Bs.append{a b:List Nat}(ha:Bs a)(hb:Bs b):Bs (a++b):=fun x hx=>by
 rcases jdO.1 hx with hx | hx
 ·exact ha x hx
 ·exact hb x hx
theorem mx:∀{t:List Int} {x:Int} {c:Nat},Is t->I64 x->c+t.length<=1000000->(fE x c t).length<=20*(t.length+1)/\Bs (fE x c t)
 | [],x,c,ht,hx,hc=>by
  have h3:=fh hx;have h4:=bJ (n:=c) (by simp at hc;omega);refine⟨by simp[fE];omega,?_⟩;rw[fE];exact Bs.append yU gN
 | y::t,x,c,ht,hx,hc=>by
  have h3:=fh hx;have h4:=bJ (n:=c) (by omega);rw[fE];split
  ·obtain⟨h1,h2⟩:=mx (t:=t) (x:=x) (c:=c+1) (fun z hz=>ht z (by simp[hz])) hx (by simp at hc;omega)
   exact⟨by simp;omega,h2⟩
  ·obtain⟨h1,h2⟩:=mx (t:=t) (x:=y) (c:=1) (fun z hz=>ht z (by simp[hz])) (ht y (by simp)) (by simp at hc;omega)
   exact⟨by simp;omega,Bs.append (Bs.append yU gN) h2⟩
theorem yY:∀{t:List Int} {last:Int},I64 last->Is t->(pN last t).length<=10*t.length/\Bs (pN last t)
 | [],_,_,_=>⟨by simp[pN],fun x hx=>by simp[pN]at hx⟩
 | y::t,last,hl,ht=>by
  have hy:=ht y (by simp);obtain⟨h1,h2⟩:=yY (t:=t) (last:=y) hy (fun z hz=>ht z (by simp[hz]));have h3:=bJ (n:=(y-last).toNat) (by unfold I64 at hy hl;omega);exact⟨by simp[pN];omega,Bs.append gN h2⟩
theorem lP{u:List Int}(h:Is u):(ia u).length<=10*u.length/\Bs (ia u):=by
 cases u with
 | nil=>exact⟨by simp[ia],fun x hx=>by simp[ia]at hx⟩
 | cons x t =>
  have hx:=h x (by simp);obtain⟨h1,h2⟩:=yY (t:=t) hx (fun z hz=>h z (by simp[hz]));have h3:=fh hx;exact⟨by simp[ia];omega,Bs.append yU h2⟩
theorem vX{p:List Nat}{w:Nat}(hl:p.length<=256):(bg p w).length<=2048:=by
 unfold bg;split
 ·next h =>
  unfold can at h;simp only[jd2]at h;rw[dM];have:p.length*w<=256*64:=jeP hl (by omega);unfold by8;simp only[jdM];omega
 ·simp
theorem eC(c:Nat){l:List Int}(h:Is l)(hl:l.length<=256):(ib c l).length<=5130/\Bs (ib c l):=by
 unfold ib;split
 ·obtain⟨h1,h2⟩:=lO h
  exact⟨by omega,h2⟩
 ·obtain⟨h1,h2⟩:=ov (l:=l) (last:=0)
  exact⟨by omega,h2⟩
 ·cases l with
  | nil=>exact⟨by simp[im],fun x hx=>by simp[im]at hx⟩
  | cons x t =>
   obtain⟨h1,h2⟩:=mx (t:=t) (x:=x) (c:=1) (fun z hz=>h z (by simp[hz])) (h x (by simp)) (by simp at hl;omega);simp at hl
   exact⟨by rw[im];omega,h2⟩
 ·have hu:=fF l
  obtain⟨h1,h2⟩:=lP (lL h);have h3:=bJ (n:=(cG l).length) (by omega);have h4:=vX (p:=places l) (w:=wd (places l)) (by rw[lq];exact hl);refine⟨by simp[pO];omega,Bs.append gN (Bs.append h2 qH)⟩
 ·unfold lN
  split
  ·exact⟨by simp,fun x hx=>by simp at hx⟩
  ·next h0 =>
   have h3:=fh (h _ (gR (by omega)));have h4:=vX (p:=di l) (w:=wd (di l)) (by rw[fT];exact hl);have h5:=bJ (n:=wd (di l)) (by have:=Gu (lM h);omega);refine⟨by simp;omega,Bs.append yU (Bs.append gN qH)⟩
def cP(l:List Int):List Nat:=jB l 4
theorem jX{l:List Int}(h:Is l)(hm:l.length<=256):bo (cP l) l.length=(l,0):=by
 obtain⟨c,hc,e⟩:=jo l 4;unfold cP;rw[e];exact GA hc h hm
theorem jY{l:List Int}(h:Is l)(hm:l.length<=256):(cP l).length<=5131/\Bs (cP l):=by
 obtain⟨c,hc,e⟩:=jo l 4;obtain⟨h1,h2⟩:=eC c h hm;unfold cP;rw[e];refine⟨by simp only[jdn];omega,fun x hx=>?_⟩;rcases jdz.1 hx with rfl | hx
 ·omega
 ·exact h2 x hx
def cnt(l:List Int):List Nat:=uv (cP l).length++cP l
def Mo(b:List Nat)(n:Int):Option (List Int×List Nat) :=
 if (gt b).2.2=0/\(gt b).1<=b.length-(gt b).2.1 then
  (if (bo ((b.drop (gt b).2.1).take (gt b).1) n).2=0 then some ((bo ((b.drop (gt b).2.1).take (gt b).1) n).1,b.drop ((gt b).2.1+(gt b).1)) else none)
 else none
theorem De{l:List Int}(h:Is l)(hm:l.length<=256)(r:List Nat):Mo (cnt l++r) l.length=some (l,r):=by
 have hs:=(jY h hm).1
 have hg:gt (cnt l++r)=((cP l).length,(uv (cP l).length).length,0):=by
  unfold cnt;rw[jdw];exact mu _ (by omega) _
 have hd:(cnt l++r).drop (uv (cP l).length).length=cP l++r:=by
  unfold cnt;rw[jdw,jdY]
 have hd2:(cnt l++r).drop ((uv (cP l).length).length+(cP l).length)=r:=by
  rw[← jeN,hd,jdY]
 have hb:=jX h hm;unfold Mo;rw[hg];simp only;rw[hd,hd2,jec,hb,jdf,jdf rfl];refine⟨trivial,?_⟩;unfold cnt;simp only[jdj];omega
def ea(l:List (List Nat)):List Int:=l.map fun s=>(s.length:Int)
def fA(l:List (List Nat)):List Nat:=cnt (ea l)++l.flatten
def Df:List Nat->List Int->Option (List (List Nat)×List Nat)
 | b,[]=>some ([],b)
 | b,s::t=>if s<0∨(b.length:Int)<s then none else (Df (b.drop s.toNat) t).map fun p=>(b.take s.toNat::p.1,p.2)
theorem sD(r:List Nat):∀ l:List (List Nat),Df (l.flatten++r) (ea l)=some (l,r)
 | []=>rfl
 | s::t=>by
  have ih:=sD r t;have e:(s::t).flatten++r=s++(t.flatten++r):=by simp[jdw]
  rw[e];unfold ea at ih ⊢;simp only[jdQ,Df];rw[jde (by simp only[jdj];omega),jdM,jdY,jec,ih];rfl
def jC(x:List Nat):List (List Nat)->List (List Nat)
 | []=>[x]
 | y::t=>if x=y then y::t else if x<y then x::y::t else y::jC x t
def tuq(l:List (List Nat)):List (List Nat):=l.foldl (fun u x=>jC x u) []
def uy(l:List (List Nat)):Prop:=l.Pairwise (· < ·)
theorem vY{x z:List Nat}:∀{u:List (List Nat)},z∈jC x u↔z=x∨z∈u
 | []=>by simp[jC]
 | y::t=>by
  have ih:=vY (x:=x) (z:=z) (u:=t);unfold jC;split
  ·next h =>
   subst h;simp
  ·split
   ·simp
   ·simp only[jdz,ih]
    constructor
    ·rintro(h | h | h)
     ·exact Or.inr (Or.inl h)
     ·exact Or.inl h
     ·exact Or.inr (Or.inr h)
    ·rintro(h | h | h)
     ·exact Or.inr (Or.inl h)
     ·exact Or.inl h
     ·exact Or.inr (Or.inr h)
theorem sE{x y z:List Nat}(h1:x<y)(h2:y<z):x<z:=List.lt_trans h1 h2
theorem Mp{x y:List Nat}(h1:x≠y)(h2:¬ x<y):y<x:=by
 have h3:y<=x:=h2;rcases List.le_iff_lt_or_eq.1 h3 with h | h
 ·exact h
 ·exact absurd h.symm h1
theorem tD{x:List Nat}:∀{u:List (List Nat)},uy u->uy (jC x u)
 | [],_=>by simp[jC,uy]
 | y::t,h=>by
  have h1:(∀ z∈t,y<z)/\uy t:=jej.1 h;unfold jC;split
  ·exact h
  ·next fQ =>
   split
   ·next aC =>
    refine jej.2 ⟨fun z hz=>?_,h⟩;rcases jdz.1 hz with rfl | hz
    ·exact aC
    ·exact sE aC (h1.1 z hz)
   ·next aC =>
    refine jej.2 ⟨fun z hz=>?_,tD h1.2⟩;rcases vY.1 hz with rfl | hz
    ·exact Mp fQ aC
    ·exact h1.1 z hz
theorem yb{l:List (List Nat)}{i:Nat}(h:i<l.length):tuq (l.take (i+1))=jC l[i] (tuq (l.take i)):=by
 unfold tuq;rw[List.take_add_one,List.getElem?_eq_getElem h,List.foldl_append];rfl
theorem vZ:∀(l u:List (List Nat)),uy u->uy (l.foldl (fun u x=>jC x u) u)/\∀ z,z∈l.foldl (fun u x=>jC x u) u↔z∈u∨z∈l
 | [],u,h=>⟨h,fun z=>by simp⟩
 | x::t,u,h=>by
  obtain⟨h1,h2⟩:=vZ t (jC x u) (tD h);refine⟨h1,fun z=>?_⟩;rw[List.foldl_cons,h2,vY,jdz];constructor
  ·rintro((h | h) | h)
   ·exact Or.inr (Or.inl h)
   ·exact Or.inl h
   ·exact Or.inr (Or.inr h)
  ·rintro(h | h | h)
   ·exact Or.inl (Or.inr h)
   ·exact Or.inl (Or.inl h)
   ·exact Or.inr h
theorem wl(l:List (List Nat)):uy (tuq l):=(vZ l [] List.Pairwise.nil).1
theorem jh{l:List (List Nat)}{z:List Nat}:z∈tuq l↔z∈l:=by
 unfold tuq;rw[(vZ l [] List.Pairwise.nil).2];simp
theorem tE:∀{u v:List (List Nat)},uy u->uy v->(∀ z,z∈u↔z∈v)->u=v
 | [],[],_,_,_=>rfl
 | [],y::t,_,_,h=>absurd ((h y).2 (by simp)) (by simp)
 | x::s,[],_,_,h=>absurd ((h x).1 (by simp)) (by simp)
 | x::s,y::t,hu,hv,h=>by
  obtain⟨a1,a2⟩:=jej.1 hu;obtain⟨b1,b2⟩:=jej.1 hv
  have e:x=y:=by
   rcases jdz.1 ((h x).1 (by simp))with e | e
   ·exact e
   ·rcases jdz.1 ((h y).2 (by simp))with e2 | e2
    ·exact e2.symm
    ·exact absurd (sE (a1 y e2) (b1 x e)) (jeQ x)
  subst e;congr 1
  refine tE a2 b2 fun z=>?_
  constructor
  ·intro hz
   rcases jdz.1 ((h z).1 (jex _ hz))with e | e
   ·subst e
    exact absurd (a1 z hz) (jeQ z)
   ·exact e
  ·intro hz
   rcases jdz.1 ((h z).2 (jex _ hz))with e | e
   ·subst e
    exact absurd (b1 z hz) (jeQ z)
   ·exact e
theorem nB{x:List Nat}:∀{u:List (List Nat)},(jC x u).length<=u.length+1
 | []=>by simp[jC]
 | y::t=>by
  have:=nB (x:=x) (u:=t);unfold jC;split
  ·simp
  ·split
   ·simp
   ·simp only[jdn]
    omega
theorem mT:∀(l u:List (List Nat)),(l.foldl (fun u x=>jC x u) u).length<=u.length+l.length
 | [],u=>by simp
 | x::t,u=>by
  have h1:=mT t (jC x u);have h2:=nB (x:=x) (u:=u);rw[List.foldl_cons,jdn];omega
theorem fG(l:List (List Nat)):(tuq l).length<=l.length:=by
 have:=mT l [];simpa [tuq]using this
def plT:List (List Nat)->List Nat->Nat
 | [],_=>0
 | y::t,x=>if y=x then 0 else plT t x+1
theorem kS{x:List Nat}:∀{u:List (List Nat)},x∈u->plT u x<u.length/\u[plT u x]?=some x
 | [],h=>by simp at h
 | y::t,h=>by
  unfold plT;split
  ·next e=>exact⟨by simp,by simp[e]⟩
  ·next e =>
   rcases jdz.1 h with rfl | h
   ·exact absurd rfl e
   ·obtain⟨h1,h2⟩:=kS h
    exact⟨by simp only[jdn];omega,by simpa using h2⟩
def cK(l:List (List Nat)):List Int:=l.map fun s=>(plT (tuq l) s:Int)
def plain(l:List (List Nat)):List Nat:=0::fA l
def dj(l:List (List Nat)):List Nat:=1::(uv (tuq l).length++(fA (tuq l)++cP (cK l)))
def eL(l:List (List Nat)):List Nat:=if (dj l).length<(plain l).length then dj l else plain l
def Rc(u:List (List Nat))(p:List Int):Option (List (List Nat)):=if ∀ q∈p,0<=q/\q<(u.length:Int) then some (p.map fun q=>u.getD q.toNat []) else none
def my(b:List Nat)(n:Nat):Option (List (List Nat)) :=
 match b with
 | []=>none
 | x::t =>
  if x=0 then ((Mo t n).bind fun p=>Df p.2 p.1).map (·.1)
  else if x=1 then
   (if (gt t).2.2=0/\(gt t).1<=n then
    (Mo (t.drop (gt t).2.1) (gt t).1).bind fun p=>(Df p.2 p.1).bind fun q=>if (bo q.2 n).2=0 then Rc q.1 (bo q.2 n).1 else none
   else none)
  else none
def Ts(l:List (List Nat)):Prop:=∀ s∈l,s.length<=64/\Bs s
theorem bH(l:List (List Nat)):(ea l).length=l.length:=jdk _
theorem gS{l:List (List Nat)}(h:Ts l):Is (ea l):=fun x hx=>by
 obtain⟨s,hs,rfl⟩:=jdE.1 hx;have:=(h s hs).1;unfold I64;omega
theorem lr{l:List (List Nat)}(h:Ts l):Ts (tuq l):=fun s hs=>h s (jh.1 hs)
theorem bV(l:List (List Nat)):(cK l).length=l.length:=jdk _
theorem pP{l:List (List Nat)}:∀ q∈cK l,0<=q/\q<((tuq l).length:Int):=fun q hq=>by
 obtain⟨s,hs,rfl⟩:=jdE.1 hq;have:=(kS (jh.2 hs)).1;omega
theorem eb{l:List (List Nat)}(hm:l.length<=256):Is (cK l):=fun q hq=>by
 have h1:=pP q hq;have h2:=fG l;unfold I64;omega
theorem qI(l:List (List Nat)):(cK l).map (fun q=>(tuq l).getD q.toNat [])=l:=by
 unfold cK;rw[jdT];conv=>rhs;rw[← jel l]
 apply jef
 intro s hs;have h2:=(kS (jh.2 hs)).2;simp only[Function.comp,jdM,id];rw[List.getD_eq_getElem?_getD,h2];rfl
theorem GB{l:List (List Nat)}(h:Ts l)(hm:l.length<=256)(r:List Nat):my (plain l++r) l.length=some l:=by
 unfold plain fA;simp only[jd6,my,jdf];have h1:=De (gS h) (by rw[bH];exact hm) (l.flatten++r);rw[bH]at h1;rw[jdw,h1];simp only[Option.bind_some,sD,jeq]
theorem Dg{l:List (List Nat)}(h:Ts l)(hm:l.length<=256):my (dj l) l.length=some l:=by
 have hu:=fG l;unfold dj fA;have h0:=mu (tuq l).length (by omega) (cnt (ea (tuq l))++(tuq l).flatten++cP (cK l));have h1:=De (gS (lr h)) (by rw[bH];omega) ((tuq l).flatten++cP (cK l));rw[bH]at h1;have h2:=jX (eb hm) (by rw[bV];exact hm);rw[bV]at h2;simp only[my,show (1:Nat)≠0 from by omega,if_false,if_true,h0,jdY];rw[jdf ⟨trivial,hu⟩,jdw,h1];simp only[Option.bind_some,sD,h2,if_true];unfold Rc;rw[jdf pP,qI]
theorem GC{l:List (List Nat)}(h:Ts l)(hm:l.length<=256):my (eL l) l.length=some l:=by
 unfold eL;split
 ·exact Dg h hm
 ·have:=GB h hm []
  rwa[jdB]at this
theorem ow:∀{l:List (List Nat)},Ts l->l.flatten.length<=64*l.length/\Bs l.flatten
 | [],_=>⟨by simp,fun x hx=>by simp at hx⟩
 | s::t,h=>by
  obtain⟨h1,h2⟩:=ow (l:=t) fun x hx=>h x (jex _ hx)
  obtain⟨h3,h4⟩:=h s (by simp);refine⟨?_,?_⟩
  ·rw[jeB,jdj,jdn]
   omega
  ·rw[jeB]
   exact h4.append h2
theorem sG{l:List (List Nat)}(h:Ts l)(hm:l.length<=256):(fA l).length<=21525/\Bs (fA l):=by
 obtain⟨a1,a2⟩:=jY (gS h) (by rw[bH];exact hm);obtain⟨b1,b2⟩:=ow h;have nk:=bJ (n:=(cP (ea l)).length) (by omega);unfold fA cnt;refine⟨?_,Bs.append (Bs.append gN a2) b2⟩;simp only[jdj];omega
theorem mz{l:List (List Nat)}(h:Ts l)(hm:l.length<=256):(eL l).length<=21526/\Bs (eL l):=by
 obtain⟨a1,a2⟩:=sG h hm;have hp:(plain l).length<=21526:=by unfold plain;simp only[jdn];omega
 unfold eL;split
 ·next aC =>
  refine⟨by omega,?_⟩;obtain⟨b1,b2⟩:=sG (lr h) (jdq (fG l) hm);obtain⟨c1,c2⟩:=jY (eb hm) (by rw[bV];exact hm);intro x hx;unfold dj at hx;rcases jdz.1 hx with rfl | hx
  ·omega
  ·exact(Bs.append gN (Bs.append b2 c2)) x hx
 ·refine⟨hp,fun x hx=>?_⟩
  unfold plain at hx;rcases jdz.1 hx with rfl | hx
  ·omega
  ·exact a2 x hx
def gj(k:Nat)(c:Nat×Int×List Nat):Prop :=
 c=nul∨(k=1/\∃ n,c=(1,n,[])/\I64 n)∨(k=2/\∃ n:Nat,c=(2,(n:Int),[])/\n<2)∨(k=3/\∃ s,c=(3,0,s)/\s.length<=64/\Bs s)
def Col(k:Nat)(l:List (Nat×Int×List Nat)):Prop:=(1<=k/\k<=3)/\l.length<=256/\∀ c∈l,gj k c
def bK(l:List (Nat×Int×List Nat)):List Nat:=l.map fun c=>if c.1=0 then 0 else 1
def bT(l:List (Nat×Int×List Nat)):List (Nat×Int×List Nat):=l.filter fun c=>c.1 != 0
def dF(l:List (Nat×Int×List Nat)):List Nat:=if 0∈bK l then 1::bg (bK l) 1 else [0]
def gl(k:Nat)(l:List (Nat×Int×List Nat)):List Nat :=
 if k=1 then cP ((bT l).map fun c=>c.2.1) else if k=2 then bg ((bT l).map fun c=>c.2.1.toNat) 1 else eL ((bT l).map fun c=>c.2.2)
def eo(k:Nat)(l:List (Nat×Int×List Nat)):List Nat:=dF l++gl k l
def gT:List Nat->List (Nat×Int×List Nat)->List (Nat×Int×List Nat)
 | [],_=>[]
 | x::t,o=>if x=0 then nul::gT t o else o.headD nul::gT t o.tail
theorem bi(l:List (Nat×Int×List Nat)):(bK l).length=l.length:=jdk _
theorem ox:∀ l:List (Nat×Int×List Nat),(bK l).sum=(bT l).length
 | []=>rfl
 | c::t=>by
  have ih:=ox t;unfold bK bT at ih ⊢;by_cases h:c.1=0
  ·simp[h,ih]
  ·simp[h,ih]
   omega
theorem gU(l:List (Nat×Int×List Nat)):(bT l).length<=l.length:=jeR _ _
theorem pQ{k:Nat}:∀{l:List (Nat×Int×List Nat)},(∀ c∈l,gj k c)->gT (bK l) (bT l)=l
 | [],_=>rfl
 | c::t,h=>by
  have ih:=pQ (k:=k) (l:=t) fun x hx=>h x (jex _ hx)
  have hc:=h c (by simp);unfold bK bT at ih ⊢;by_cases h0:c.1=0
  ·have e:c=nul:=by
    rcases hc with e | ⟨_,n,e,_⟩ | ⟨_,n,e,_⟩ | ⟨_,s,e,_⟩
    ·exact e
    ·rw[e]at h0;simp at h0
    ·rw[e]at h0;simp at h0
    ·rw[e]at h0;simp at h0
   subst e;simp[gT,nul]at ih ⊢
   exact ih
  ·simp[gT,h0]at ih ⊢
   exact ih
theorem jp{l:List (Nat×Int×List Nat)}{c:Nat×Int×List Nat}(h:c∈bT l):c∈l/\c.1≠0:=by
 unfold bT at h;have:=je2.1 h;exact⟨this.1,by simpa using this.2⟩
theorem iU{l:List (Nat×Int×List Nat)}(h:∀ c∈l,gj 1 c):Is ((bT l).map fun c=>c.2.1)/\((bT l).map fun c=>c.2.1).map (fun x=>((1,x,[]):Nat×Int×List Nat))=bT l:=by
 have key:∀ c∈bT l,∃ n,c=(1,n,[])/\I64 n:=fun c hc=>by
  obtain⟨h1,h2⟩:=jp hc;rcases h c h1 with e | ⟨_,n,e,hn⟩ | ⟨e,_⟩ | ⟨e,_⟩
  ·rw[e]at h2;exact absurd rfl h2
  ·exact⟨n,e,hn⟩
  ·omega
  ·omega
 refine⟨fun x hx=>?_,?_⟩
 ·obtain⟨c,hc,rfl⟩:=jdE.1 hx
  obtain⟨n,rfl,hn⟩:=key c hc;exact hn
 ·rw[jdT]
  conv=>rhs;rw[← jel (bT l)]
  apply jef
  intro c hc;obtain⟨n,rfl,hn⟩:=key c hc;rfl
theorem fH{l:List (Nat×Int×List Nat)}(h:∀ c∈l,gj 2 c):(∀ x∈(bT l).map fun c=>c.2.1.toNat,x<2)/\((bT l).map fun c=>c.2.1.toNat).map (fun(x:Nat)=>((2,(x:Int),[]):Nat×Int×List Nat))=bT l:=by
 have key:∀ c∈bT l,∃ n:Nat,c=(2,(n:Int),[])/\n<2:=fun c hc=>by
  obtain⟨h1,h2⟩:=jp hc;rcases h c h1 with e | ⟨e,_⟩ | ⟨_,n,e,hn⟩ | ⟨e,_⟩
  ·rw[e]at h2;exact absurd rfl h2
  ·omega
  ·exact⟨n,e,hn⟩
  ·omega
 refine⟨fun x hx=>?_,?_⟩
 ·obtain⟨c,hc,rfl⟩:=jdE.1 hx
  obtain⟨n,rfl,hn⟩:=key c hc;simpa using hn
 ·rw[jdT]
  conv=>rhs;rw[← jel (bT l)]
  apply jef
  intro c hc;obtain⟨n,rfl,hn⟩:=key c hc;rfl
theorem gG{l:List (Nat×Int×List Nat)}(h:∀ c∈l,gj 3 c):Ts ((bT l).map fun c=>c.2.2)/\((bT l).map fun c=>c.2.2).map (fun s=>((3,0,s):Nat×Int×List Nat))=bT l:=by
 have key:∀ c∈bT l,∃ s,c=(3,0,s)/\s.length<=64/\Bs s:=fun c hc=>by
  obtain⟨h1,h2⟩:=jp hc;rcases h c h1 with e | ⟨e,_⟩ | ⟨e,_⟩ | ⟨_,s,e,hs⟩
  ·rw[e]at h2;exact absurd rfl h2
  ·omega
  ·omega
  ·exact⟨s,e,hs⟩
 refine⟨fun x hx=>?_,?_⟩
 ·obtain⟨c,hc,rfl⟩:=jdE.1 hx
  obtain⟨n,rfl,hn⟩:=key c hc;exact hn
 ·rw[jdT]
  conv=>rhs;rw[← jel (bT l)]
  apply jef
  intro c hc;obtain⟨n,rfl,hn⟩:=key c hc;rfl
def yZ(b:List Nat)(n:Nat):Option (List Nat×List Nat) :=
 match b with
 | []=>none
 | x::t=>if x=0 then some (List.replicate n 1,t) else if x=1 then
   (if by8 n<=t.length/\unE (t.take (by8 n)) n 1=0 then some (unR (t.take (by8 n)) n 1,t.drop (by8 n)) else none) else none
def GD(k:Nat)(b:List Nat)(n:Nat):Option (List (Nat×Int×List Nat)) :=
 if k=1 then (if (bo b n).2=0 then some ((bo b n).1.map fun x=>(1,x,[])) else none)
 else if k=2 then (if unE b n 1=0 then some ((unR b n 1).map fun(x:Nat)=>(2,(x:Int),[])) else none)
 else (my b n).map fun l=>l.map fun s=>(3,0,s)
def Wh(k:Nat)(b:List Nat)(n:Nat):Option (List (Nat×Int×List Nat)) :=
 (yZ b n).bind fun p=>(GD k p.2 p.1.sum).map (gT p.1)
theorem Dh{l:List Nat}(h:∀ x∈l,x<2)(hm:l.length<=256):can l ((1:Nat):Int)=true:=Gy hm (by omega) (qG.2 (by simpa using h))
theorem oC{l:List Nat}(h:∀ x∈l,x<2)(hm:l.length<=256):unE (bg l 1) l.length 1=0/\unR (bg l 1) l.length 1=l:=by
 have:=CY (Dh h hm);rwa[show ((1:Nat):Int)=1 from rfl]at this
theorem eH{l:List Nat}(h:∀ x∈l,x<2)(hm:l.length<=256):(bg l 1).length=by8 l.length:=by
 have:=mw (Dh h hm);rwa[jeG]at this
theorem dW(l:List (Nat×Int×List Nat)):∀ x∈bK l,x<2:=fun x hx=>by
 obtain⟨c,_,rfl⟩:=jdE.1 hx;split<;>omega
theorem wm{l:List (Nat×Int×List Nat)}(h:¬ 0∈bK l):bK l=List.replicate l.length 1:=by
 rw[List.eq_replicate_iff];refine⟨bi l,fun x hx=>?_⟩;have h1:=dW l x hx;have h2:x≠0:=fun e=>h (e ▸ hx)
 omega
theorem Mq{l:List (Nat×Int×List Nat)}(hm:l.length<=256)(r:List Nat):yZ (dF l++r) l.length=some (bK l,r):=by
 unfold dF;split
 ·have hl:=eH (dW l) (by rw[bi];exact hm)
  rw[bi]at hl;have hb:=oC (dW l) (by rw[bi];exact hm);rw[bi]at hb;have ht:(bg (bK l) 1++r).take (by8 l.length)=bg (bK l) 1:=by rw[← hl,jec]
  have hd:(bg (bK l) 1++r).drop (by8 l.length)=r:=by rw[← hl,jdY]
  simp only[jd6,yZ,show (1:Nat)≠0 from by omega,if_false,if_true,ht,hd];rw[jdf]
  ·rw[hb.2]
  ·exact⟨by simp only[jdj];omega,hb.1⟩
 ·next h =>
  rw[wm h];rfl
theorem Mr{k:Nat}{l:List (Nat×Int×List Nat)}(h:Col k l):GD k (gl k l) (bT l).length=some (bT l):=by
 obtain⟨hk,hm,hc⟩:=h;have ho:=gU l;obtain rfl | rfl | rfl:k=1∨k=2∨k=3:=by omega
 ·obtain⟨h1,h2⟩:=iU hc
  have hb:=jX h1 (by rw[jdk];omega);rw[jdk]at hb;simp only[GD,gl,if_true,hb];rw[h2]
 ·obtain⟨h1,h2⟩:=fH hc
  have hb:=oC h1 (by rw[jdk];omega);rw[jdk]at hb;simp only[GD,gl,if_true,if_false,show (2:Nat)≠1 from by omega];rw[jdf hb.1];rw[hb.2,h2]
 ·obtain⟨h1,h2⟩:=gG hc
  have hb:=GC h1 (by rw[jdk];omega);rw[jdk]at hb;simp only[GD,gl,if_false,show (3:Nat)≠1 from by omega,show (3:Nat)≠2 from by omega,hb,jeq];rw[h2]
theorem Rd{k:Nat}{l:List (Nat×Int×List Nat)}(h:Col k l):Wh k (eo k l) l.length=some l:=by
 unfold Wh eo;rw[Mq h.2.1,Option.bind_some];simp only;rw[ox,Mr h,jeq,pQ h.2.2]
theorem sH{l:List (Nat×Int×List Nat)}(hm:l.length<=256):(dF l).length<=33/\Bs (dF l):=by
 unfold dF;split
 ·have hl:=eH (dW l) (by rw[bi];exact hm)
  rw[bi]at hl;refine⟨?_,fun x hx=>?_⟩
  ·rw[jdn,hl]
   unfold by8;omega
  ·rcases jdz.1 hx with rfl | hx
   ·omega
   ·exact qH x hx
 ·exact⟨by simp,fun x hx=>by simp at hx;omega⟩
theorem wn(l:List (Nat×Int×List Nat)):gl 1 l=cP ((bT l).map fun c=>c.2.1):=jdf rfl
theorem wo(l:List (Nat×Int×List Nat)):gl 2 l=bg ((bT l).map fun c=>c.2.1.toNat) 1:=(jde (by omega)).trans (jdf rfl)
theorem ws(l:List (Nat×Int×List Nat)):gl 3 l=eL ((bT l).map fun c=>c.2.2):=(jde (by omega)).trans (jde (by omega))
theorem Ms{k:Nat}{l:List (Nat×Int×List Nat)}(h:Col k l):(gl k l).length<=21526/\Bs (gl k l):=by
 obtain⟨hk,hm,hc⟩:=h;have ho:=gU l;obtain rfl | rfl | rfl:k=1∨k=2∨k=3:=by omega
 ·obtain⟨b1,b2⟩:=jY (iU hc).1 (by rw[jdk];omega)
  rw[wn];exact⟨by omega,b2⟩
 ·have hl:=eH (fH hc).1 (by rw[jdk];omega)
  rw[jdk]at hl;rw[wo];refine⟨?_,qH⟩;rw[hl];unfold by8;omega
 ·have hw:=mz (gG hc).1 (by rw[jdk];omega)
  rw[ws];exact hw
theorem io{k:Nat}{l:List (Nat×Int×List Nat)}(h:Col k l):(eo k l).length<=21600/\Bs (eo k l):=by
 obtain⟨a1,a2⟩:=sH h.2.1;obtain⟨b1,b2⟩:=Ms h;unfold eo;refine⟨?_,a2.append b2⟩;rw[jdj];omega
theorem Di(l:List (Nat×Int×List Nat)):bT (bT l)=bT l:=by
 unfold bT;rw[List.filter_filter];simp
def Dj(k:Nat)(c:Nat×Int×List Nat):Prop :=
 c=nul∨(k=1/\∃ n,c=(1,n,[])/\I64 n)∨(k=2/\∃ n:Nat,c=(2,(n:Int),[])/\n<2)∨(k=3/\∃ s,c=(3,0,s)/\Bs s)
theorem Dj.short{k:Nat}{c:Nat×Int×List Nat}(h:Dj k c)(hs:c.2.2.length<=64):gj k c:=by
 rcases h with h | h | h | ⟨h1,s,rfl,h2⟩
 ·exact Or.inl h
 ·exact Or.inr (Or.inl h)
 ·exact Or.inr (Or.inr (Or.inl h))
 ·exact Or.inr (Or.inr (Or.inr ⟨h1,s,rfl,hs,h2⟩))
theorem gj.short{k:Nat}{c:Nat×Int×List Nat}(h:gj k c):c.2.2.length<=64:=by
 rcases h with rfl | ⟨_,n,rfl,_⟩ | ⟨_,n,rfl,_⟩ | ⟨_,s,rfl,h,_⟩
 ·simp[nul]
 ·simp
 ·simp
 ·exact h
theorem iV{b:List Nat}{n:Int}(hb:Bs b)(h:(bo b n).2=0):((bo b n).1.length:Int)=n/\Is (bo b n).1:=by
 obtain⟨_,_,c,t,_,_,h1,h2,_⟩:=Mn hb (l:=(bo b n).1) (n:=n) (by rw[← h]);exact⟨h1,h2⟩
theorem Dk{b r:List Nat}{n:Int}{l:List Int}(hb:Bs b)(h:Mo b n=some (l,r)):(l.length:Int)=n/\Is l/\Bs r:=by
 unfold Mo at h;split at h
 ·split at h
  ·next h1 =>
   simp only[Option.some.injEq,Prod.mk.injEq]at h;obtain⟨rfl,rfl⟩:=h;have:=iV ((hb.drop _).take _) h1;exact⟨this.1,this.2,hb.drop _⟩
  ·simp at h
 ·simp at h
theorem wt:∀{s:List Int} {b r:List Nat} {l:List (List Nat)},Bs b->Df b s=some (l,r)->l.length=s.length/\(∀ x∈l,Bs x)/\Bs r
 | [],b,r,l,hb,h=>by
  simp only[Df,Option.some.injEq,Prod.mk.injEq]at h;obtain⟨rfl,rfl⟩:=h;exact⟨rfl,fun x hx=>by simp at hx,hb⟩
 | x::t,b,r,l,hb,h=>by
  unfold Df at h;split at h
  ·simp at h
  ·obtain⟨⟨l2,r2⟩,h1,h2⟩:=Option.map_eq_some_iff.1 h
   simp only[Prod.mk.injEq]at h2;obtain⟨rfl,rfl⟩:=h2;obtain⟨a1,a2,a3⟩:=wt (hb.drop _) h1;refine⟨by simp only[jdn,a1],fun y hy=>?_,a3⟩;rcases jdz.1 hy with rfl | hy
   ·exact hb.take _
   ·exact a2 y hy
theorem GE{b:List Nat}{n:Nat}{l:List (List Nat)}(hb:Bs b)(h:my b n=some l):l.length=n/\∀ x∈l,Bs x:=by
 cases b with
 | nil=>simp[my]at h
 | cons x t =>
  have ht:Bs t:=fun y hy=>hb y (jex _ hy)
  simp only[my]at h;split at h
  ·obtain⟨⟨l2,r2⟩,h1,rfl⟩:=Option.map_eq_some_iff.1 h
   obtain⟨⟨s,r⟩,h2,h3⟩:=je8.1 h1;obtain⟨a1,a2,a3⟩:=Dk ht h2;obtain⟨b1,b2,b3⟩:=wt a3 h3;have b4:l2.length=s.length:=b1;exact⟨by show l2.length=n;omega,b2⟩
  ·split at h
   ·split at h
    ·obtain⟨⟨s,r⟩,h2,h3⟩:=je8.1 h
     obtain⟨⟨u,r2⟩,h4,h5⟩:=je8.1 h3;obtain⟨a1,a2,a3⟩:=Dk (ht.drop _) h2;obtain⟨b1,b2,b3⟩:=wt a3 h4;simp only at h5;split at h5
     ·next h6 =>
      obtain⟨c1,c2⟩:=iV b3 h6;unfold Rc at h5;split at h5
      ·next h7 =>
       cases h5
       refine⟨by rw[jdk];omega,fun x hx=>?_⟩;obtain⟨q,hq,rfl⟩:=jdE.1 hx;have nc:=h7 q hq;have aC:q.toNat<u.length:=(by omega);rw[List.getD_eq_getElem?_getD,List.getElem?_eq_getElem aC];exact b2 _ (jdl aC)
      ·simp at h5
     ·simp at h5
    ·simp at h
   ·simp at h
theorem kT{b:List Nat}{n:Nat}(h:unE b n 1=0):(unR b n 1).length=n/\∀ x∈unR b n 1,x<2:=by
 unfold unR;rw[jdf h];refine⟨by rw[dM];simp,fun x hx=>?_⟩;have:=AM hx;simpa using this
theorem Mt{b r th:List Nat}{n:Nat}(hb:Bs b)(h:yZ b n=some (th,r)):th.length=n/\(∀ x∈th,x<2)/\Bs r:=by
 cases b with
 | nil=>simp[yZ]at h
 | cons x t =>
  have ht:Bs t:=fun y hy=>hb y (jex _ hy)
  simp only[yZ]at h;split at h
  ·simp only[Option.some.injEq,Prod.mk.injEq]at h
   obtain⟨rfl,rfl⟩:=h;exact⟨List.length_replicate,fun y hy=>by have:=je1 hy;omega,ht⟩
  ·split at h
   ·split at h
    ·next h1 =>
     simp only[Option.some.injEq,Prod.mk.injEq]at h;obtain⟨rfl,rfl⟩:=h;have:=kT h1.2;exact⟨this.1,this.2,ht.drop _⟩
    ·simp at h
   ·simp at h
theorem Re{k:Nat}{b:List Nat}{n:Nat}{o:List (Nat×Int×List Nat)}(hk:1<=k/\k<=3)(hb:Bs b)(h:GD k b n=some o):o.length=n/\∀ c∈o,Dj k c:=by
 unfold GD at h;obtain rfl | rfl | rfl:k=1∨k=2∨k=3:=by omega
 ·rw[jdf rfl]at h
  split at h
  ·next h1 =>
   cases h
   obtain⟨a1,a2⟩:=iV hb h1;refine⟨by rw[jdk];omega,fun c hc=>?_⟩;obtain⟨x,hx,rfl⟩:=jdE.1 hc;exact Or.inr (Or.inl ⟨rfl,x,rfl,a2 x hx⟩)
  ·simp at h
 ·rw[jde (by omega),jdf rfl]at h
  split at h
  ·next h1 =>
   cases h
   obtain⟨a1,a2⟩:=kT h1;refine⟨by rw[jdk];exact a1,fun c hc=>?_⟩;obtain⟨x,hx,rfl⟩:=jdE.1 hc;exact Or.inr (Or.inr (Or.inl ⟨rfl,x,rfl,a2 x hx⟩))
  ·simp at h
 ·rw[jde (by omega),jde (by omega)]at h
  obtain⟨l,h1,rfl⟩:=Option.map_eq_some_iff.1 h;obtain⟨a1,a2⟩:=GE hb h1;refine⟨by rw[jdk];exact a1,fun c hc=>?_⟩;obtain⟨x,hx,rfl⟩:=jdE.1 hc;exact Or.inr (Or.inr (Or.inr ⟨rfl,x,rfl,a2 x hx⟩))
theorem oD{P:Nat×Int×List Nat->Prop}(h0:P nul):∀{th:List Nat} {o:List (Nat×Int×List Nat)},(∀ c∈o,P c)->(gT th o).length=th.length/\∀ c∈gT th o,P c
 | [],o,h=>⟨rfl,fun c hc=>by simp[gT]at hc⟩
 | x::t,o,h=>by
  unfold gT;split
  ·obtain⟨a1,a2⟩:=oD h0 (th:=t) h
   refine⟨by simp only[jdn,a1],fun c hc=>?_⟩;rcases jdz.1 hc with rfl | hc
   ·exact h0
   ·exact a2 c hc
  ·obtain⟨a1,a2⟩:=oD h0 (th:=t) (o:=o.tail) fun c hc=>h c (List.mem_of_mem_tail hc)
   refine⟨by simp only[jdn,a1],fun c hc=>?_⟩;rcases jdz.1 hc with rfl | hc
   ·cases o with
    | nil=>exact h0
    | cons y s=>exact h y (by simp)
   ·exact a2 c hc
theorem Rf{k:Nat}{b:List Nat}{n:Nat}{l:List (Nat×Int×List Nat)}(hk:1<=k/\k<=3)(hb:Bs b)(h:Wh k b n=some l):l.length=n/\∀ c∈l,Dj k c:=by
 obtain⟨⟨th,r⟩,h1,h2⟩:=je8.1 h;obtain⟨o,h3,rfl⟩:=Option.map_eq_some_iff.1 h2;obtain⟨a1,a2,a3⟩:=Mt hb h1;obtain⟨b1,b2⟩:=Re hk a3 h3;obtain⟨c1,c2⟩:=oD (P:=Dj k) (Or.inl rfl) (th:=th) b2;exact⟨c1.trans a1,c2⟩
def gm(k:Nat)(b:List Nat)(n:Nat):Option (List (Nat×Int×List Nat)) :=
 (Wh k b n).bind fun l=>if (∀ c∈l,c.2.2.length<=64)/\eo k l=b then some l else none
theorem lQ{k:Nat}{b:List Nat}{n:Nat}{l:List (Nat×Int×List Nat)}(hk:1<=k/\k<=3)(hn:n<=256)(hb:Bs b):gm k b n=some l↔Col k l/\l.length=n/\eo k l=b:=by
 constructor
 ·intro h
  obtain⟨l2,h1,h2⟩:=je8.1 h;split at h2
  ·next h3 =>
   cases h2
   obtain⟨a1,a2⟩:=Rf hk hb h1;exact⟨⟨hk,by omega,fun c hc=>(a2 c hc).short (h3.1 c hc)⟩,a1,h3.2⟩
  ·simp at h2
 ·rintro⟨h1,rfl,rfl⟩
  unfold gm;rw[Rd h1,Option.bind_some];simp only;rw[jdf ⟨fun c hc=>(h1.2.2 c hc).short,trivial⟩]
theorem GF{k:Nat}{l:List (Nat×Int×List Nat)}(h:Col k l):gm k (eo k l) l.length=some l :=
 (lQ h.1 h.2.1 (io h).2).2 ⟨h,rfl,rfl⟩
def dS(k:Nat)(l:List (Nat×Int×List Nat)):List Nat×Nat :=
 if 1<=k/\k<=3/\∀ c∈l,c.1=0∨c.1=k then
  (if l.length<=256/\∀ c∈l,c.2.2.length<=64 then (eo k l,0) else ([],5))
 else ([],10)
theorem gj.kind{k:Nat}{c:Nat×Int×List Nat}(h:gj k c):c.1=0∨c.1=k:=by
 rcases h with rfl | ⟨rfl,n,rfl,_⟩ | ⟨rfl,n,rfl,_⟩ | ⟨rfl,s,rfl,_⟩
 ·exact Or.inl rfl
 ·exact Or.inr rfl
 ·exact Or.inr rfl
 ·exact Or.inr rfl
theorem kl{k:Nat}{l:List (Nat×Int×List Nat)}(h:Col k l):dS k l=(eo k l,0):=by
 unfold dS;rw[jdf ⟨h.1.1,h.1.2,fun c hc=>(h.2.2 c hc).kind⟩,jdf ⟨h.2.1,fun c hc=>(h.2.2 c hc).short⟩]
end Go.Proofs.YtpljdjmpamjkhaaGreatDoor
