import Derived.Test.YtpljdjmpamjkhaaGreatDoorQac
set_option linter.unusedVariables false
set_option linter.unusedSimpArgs false
namespace Go.Proofs.YtpljdjmpamjkhaaGreatDoor
open Go.Lib
def pk(w:Nat):List Nat->Nat
 | []=>0
 | n::t=>n+2 ^ w*pk w t
def dig(w:Nat):Nat->Nat->List Nat
 | 0,_=>[]
 | n+1,N=>N % 2 ^ w::dig w n (N / 2 ^ w)
theorem dU(w:Nat):∀ n N,(dig w n N).length=n
 | 0,_=>rfl
 | n+1,N=>by simp[dig,dU w n]
theorem iz(w n:Nat):2 ^ (w*(n+1))=2 ^ w*2 ^ (w*n):=by
 rw[jft,jfL,Nat.add_comm,jfl]
theorem RU(w:Nat):∀ n N,pk w (dig w n N)=N % 2 ^ (w*n)
 | 0,N=>by simp[dig,pk,Nat.mod_one]
 | n+1,N=>by
  show N % 2 ^ w+2 ^ w*pk w (dig w n (N / 2 ^ w))=_
  rw[RU w n,iz,Nat.mod_mul]
theorem BB{w:Nat}:∀{l:List Nat},(∀ x∈l,x<2 ^ w)->dig w l.length (pk w l)=l
 | [],_=>rfl
 | n::t,h=>by
  have hn:=h n (by simp);show (n+2 ^ w*pk w t) % 2 ^ w::dig w t.length ((n+2 ^ w*pk w t) / 2 ^ w)=_
  rw[Nat.add_mul_mod_self_left,jfd hn,Nat.add_mul_div_left _ _ (jfe w),Nat.div_eq_of_lt hn,jeO,
   BB (fun x hx=>h x (by simp[hx]))]
theorem DG{w:Nat}:∀{l:List Nat},(∀ x∈l,x<2 ^ w)->pk w l<2 ^ (w*l.length)
 | [],_=>by simp[pk]
 | n::t,h=>by
  have hn:=h n (by simp);have ht:=DG (w:=w) (l:=t) (fun x hx=>h x (by simp[hx]));show n+2 ^ w*pk w t<2 ^ (w*(t.length+1))
  rw[iz];have:2 ^ w*(pk w t+1)<=2 ^ w*2 ^ (w*t.length):=jfm _ ht;rw[jft,jfL]at this;omega
theorem BC(w:Nat):∀ n N i,i<n->(dig w n N)[i]?=some (N / 2 ^ (w*i) % 2 ^ w)
 | n+1,N,0,_=>by simp[dig]
 | n+1,N,i+1,h=>by
  show (dig w n (N / 2 ^ w))[i]?=_
  rw[BC w n _ i (by omega),jga,iz]
theorem BD{w x:Nat}:∀{n N},x∈dig w n N->x<2 ^ w
 | n+1,N,h=>by
  simp only[dig,jeC]at h;rcases h with rfl | h
  ·exact Nat.mod_lt _ (jfe w)
  ·exact BD h
theorem sV(w:Nat):∀(a b:List Nat),pk w (a++b)=pk w a+2 ^ (w*a.length)*pk w b
 | [],b=>by simp[pk]
 | n::t,b=>by
  show n+2 ^ w*pk w (t++b)=n+2 ^ w*pk w t+2 ^ (w*(t.length+1))*pk w b
  rw[sV w t,iz,jft,jfz,jfr]
theorem qU(w:Nat){l:List Nat}{i:Nat}(h:i<l.length):pk w (l.take (i+1))=pk w (l.take i)+l[i]*2 ^ (w*i):=by
 rw[jeA h,sV,jeq,jfk (by omega)];simp[pk,jeU]
theorem RV(w:Nat):∀{l:List Nat} {i:Nat} (c:Nat) (h:i<l.length),pk w (l.set i c)+l[i]*2 ^ (w*i)=pk w l+c*2 ^ (w*i)
 | n::t,0,c,_=>by simp[pk];omega
 | n::t,i+1,c,h=>by
  have hi:i<t.length:=by simpa using h
  show n+2 ^ w*pk w (t.set i c)+t[i]*2 ^ (w*(i+1))=n+2 ^ w*pk w t+c*2 ^ (w*(i+1))
  have:=jep (2 ^ w*·) (RV w (l:=t) (i:=i) c hi);simp only[jft]at this;rw[iz,← jfz,← jfz,jeU t[i],jeU c,jfz,jfz];omega
theorem RW{w:Nat}{l:List Nat}(h:∀ x∈l,x<2 ^ w){i:Nat}(hi:i<l.length):l[i]=pk w l / 2 ^ (w*i) % 2 ^ w:=by
 have h1:=BC w l.length (pk w l) i hi;rw[BB h,List.getElem?_eq_getElem hi]at h1;exact Option.some.inj h1
theorem DH(w:Nat):∀ n,pk w (List.replicate n 0)=0
 | 0=>rfl
 | n+1=>by
  show 0+2 ^ w*pk w (List.replicate n 0)=0
  rw[DH w n];simp
theorem RX(w:Nat)(l:List Nat):pk w (l++[0])=pk w l:=by rw[sV];simp[pk]
def cX(n:Nat):Nat:=if n=0 then 0 else n.log2+1
theorem eR{n w:Nat}:cX n<=w↔n<2 ^ w:=by
 unfold cX;split
 ·next h=>subst h;simp[jfe]
 ·next h=>rw[Nat.add_one_le_iff,Nat.log2_lt h]
theorem Nd{n:Nat}(h:n≠0):cX n=cX (n / 2)+1:=by
 have e:∀ k,cX (n / 2)<=k↔cX n<=k+1:=fun k=>by
  rw[eR,eR,Nat.pow_succ,Nat.div_lt_iff_lt_mul (by omega)]
 have h1:=(e (cX (n / 2))).1 (jek _);have hp:0<cX n:=by unfold cX;rw[jeh h];omega
 have h2:=(e (cX n-1)).2 (by omega);omega
theorem Xm(a b:Nat):cX (a ||| b)=max (cX a) (cX b):=by
 have e:∀ k,cX (a ||| b)<=k↔cX a<=k/\cX b<=k:=fun k=>by
  rw[eR,eR,eR];constructor
  ·intro h
   exact⟨jf4 Nat.left_le_or h,jf4 Nat.right_le_or h⟩
  ·intro h
   exact Nat.or_lt_two_pow h.1 h.2
 have h1:=(e _).1 (jek _);have h2:=(e (max (cX a) (cX b))).2 ⟨by omega,by omega⟩;omega
def qV(l:List Nat):Nat:=l.foldl (· ||| ·) 0
theorem ng{l:List Nat}{i:Nat}(h:i<l.length):qV (l.take (i+1))=qV (l.take i) ||| l[i]:=by
 unfold qV;rw[jeA h,List.foldl_append];rfl
def wd(l:List Nat):Nat:=cX (qV l)
theorem qW{l:List Nat}{i:Nat}(h:i<l.length):wd (l.take (i+1))=max (wd (l.take i)) (cX l[i]):=by
 unfold wd;rw[ng h,Xm]
theorem RY:wd []=0:=by decide
theorem wN{l:List Nat}{w:Nat}:∀ i,i<=l.length->(wd (l.take i)<=w↔∀ x∈l.take i,x<2 ^ w)
 | 0,_=>by simp[RY]
 | i+1,h=>by
  rw[qW (by omega),jeA (by omega)];simp only[jeN,jeX];have ih:=wN (l:=l) (w:=w) i (by omega);constructor
  ·intro h1 x hx
   rcases hx with hx | rfl
   ·exact ih.1 (by omega) x hx
   ·exact eR.1 (by omega)
  ·intro h1
   have h2:=ih.2 (fun x hx=>h1 x (Or.inl hx));have h3:=eR.2 (h1 _ (Or.inr rfl));omega
theorem qX{l:List Nat}{w:Nat}:wd l<=w↔∀ x∈l,x<2 ^ w:=by
 have:=wN (l:=l) (w:=w) l.length (jek _);rwa[jes]at this
theorem Hh{l:List Nat}(h:∀ x∈l,x<18446744073709551616):wd l<=64:=qX.2 h
theorem or64{l:List Nat}(h:∀ x∈l,x<18446744073709551616)(i:Nat):qV (l.take i)<18446744073709551616:=by
 have h1:wd (l.take i)<=64:=Hh (fun x hx=>h x (je2 hx));exact eR.1 h1
def by8(c:Nat):Nat:=(c+7) / 8
def can(l:List Nat)(w:Int):Bool:=decide (0<=w/\w<=64/\l.length<=256/\wd l<=w.toNat)
def bm(l:List Nat)(w:Int):List Nat:=if can l w then dig 8 (by8 (l.length*w.toNat)) (pk w.toNat l) else []
def unE(b:List Nat)(n w:Int):Nat :=
 if 0<=n/\n<=256/\0<=w/\w<=64 then (if b.length=by8 (n.toNat*w.toNat)/\pk 8 b<2 ^ (n.toNat*w.toNat) then 0 else 40) else 1
def unR(b:List Nat)(n w:Int):List Nat:=if unE b n w=0 then dig w.toNat n.toNat (pk 8 b) else []
theorem ja7{b:List Nat}{n w:Int}:∀ x∈unR b n w,x<18446744073709551616:=by
 intro x hx;unfold unR at hx;split at hx
 ·next h =>
  have h1:=BD hx
  have hw:w.toNat<=64:=by
   unfold unE at h;split at h
   ·omega
   ·omega
  exact jeH h1 (jfA (by omega) hw)
 ·simp at hx
theorem qY{l:List Nat}{w:Int}:∀ x∈bm l w,x<256:=by
 intro x hx;unfold bm at hx;split at hx
 ·exact BD hx
 ·simp at hx
theorem Hi(c:Nat):c<=8*by8 c:=by unfold by8;omega
theorem DI{l:List Nat}{w:Nat}(h:can l w=true):unE (bm l w) l.length w=0/\unR (bm l w) l.length w=l:=by
 have hc:=h;unfold can at hc;simp only[je7,jeQ]at hc;obtain⟨_,kU,hl,hw⟩:=hc;have aB:=qX.1 hw;have YM:=DG aB;have hP:bm l w=dig 8 (by8 (l.length*w)) (pk w l):=by unfold bm;rw[jei h];rfl
 have hB:pk 8 (bm l w)=pk w l:=by
  rw[hP,RU,jfd];refine jeH YM (jfA (by omega) ?_);have:=Hi (l.length*w);rw[jeU w];exact this
 have hE:unE (bm l w) l.length w=0:=by
  unfold unE;rw[jei ⟨by omega,by omega,by omega,by omega⟩,jei];simp only[jeQ];exact⟨by rw[hP,dU],by rw[hB,jeU];exact YM⟩
 refine⟨hE,?_⟩;unfold unR;rw[jei hE,hB];simp only[jeQ];exact BB aB
def w64(x:Int):Int:=(x+9223372036854775808) % 18446744073709551616-9223372036854775808
theorem jq(x:Int):I64 (w64 x):=by unfold w64 I64;omega
theorem RZ{x:Int}(h:I64 x):w64 x=x:=by unfold I64 at h;unfold w64;omega
theorem Sa{x last:Int}(h:I64 x):w64 (last+w64 (x-last))=x:=by unfold I64 at h;unfold w64;omega
def gB:List Int->List Nat
 | []=>[]
 | x::t=>wv x++gB t
def rd0:Nat->List Nat->Except Nat (List Int×List Nat)
 | 0,b=>.ok ([],b)
 | n+1,b=>aC wh (fun x=>aC (rd0 n) (fun l r=>.ok (x::l,r))) b
theorem Sb:∀{l:List Int},(∀ x∈l,I64 x)->ek (rd0 l.length) (gB l) l
 | [],_=>ek.pure []
 | x::t,h=>by
  have ht:=Sb (l:=t) (fun y hy=>h y (by simp[hy]));exact(lU (h x (by simp))).bind (f:=fun x=>aC (rd0 t.length) (fun l r=>.ok (x::l,r))) (ht.map (x::·))
def iP:Int->List Int->List Nat
 | _,[]=>[]
 | last,x::t=>wv (w64 (x-last))++iP x t
def rd1:Nat->Int->List Nat->Except Nat (List Int×List Nat)
 | 0,_,b=>.ok ([],b)
 | n+1,last,b=>aC wh (fun d=>aC (rd1 n (w64 (last+d))) (fun l r=>.ok (w64 (last+d)::l,r))) b
theorem Sd:∀{l:List Int} (last:Int),(∀ x∈l,I64 x)->ek (rd1 l.length last) (iP last l) l
 | [],_,_=>ek.pure []
 | x::t,last,h=>by
  have hx:=h x (by simp);have ht:=Sd (l:=t) x (fun y hy=>h y (by simp[hy]));refine(lU (jq (x-last))).bind (f:=fun d=>aC (rd1 t.length (w64 (last+d))) (fun l r=>.ok (w64 (last+d)::l,r))) ?_;simp only[Sa hx];exact ht.map (x::·)
def fM:Int->Nat->List Int->List Nat
 | x,c,[]=>wv x++uv c
 | x,c,y::t=>if y=x then fM x (c+1) t else wv x++uv c++fM y 1 t
def iA:List Int->List Nat
 | []=>[]
 | x::t=>fM x 1 t
def rd2:Nat->Nat->List Nat->Except Nat (List Int×List Nat)
 | 0,_,b=>.ok ([],b)
 | f+1,n,b=>if n=0 then .ok ([],b) else aC wh (fun x=>aC num (fun k=>if k=0∨n<k then (fun _=>.error 40) else aC (rd2 f (n-k)) (fun l r=>.ok (List.replicate k x++l,r)))) b
theorem DJ(f:Nat)(b:List Nat):rd2 f 0 b=.ok ([],b):=by
 cases f with
 | zero=>rfl
 | succ f=>unfold rd2;rw[jei rfl]
theorem BE:∀{t:List Int} {x:Int} {c f:Nat},(∀ y∈t,I64 y)->I64 x->1<=c->c+t.length<=1000000->t.length+1<=f ->
  ek (rd2 f (c+t.length)) (fM x c t) (List.replicate c x++t)
 | [],x,c,f,_,hx,hc,hm,hf=>by
  obtain⟨f,rfl⟩:∃ g,f=g+1:=⟨f-1,by simp at hf;omega⟩
  have h1:ek (fun b=>aC wh (fun x=>aC num (fun k=>if k=0∨c<k then (fun _=>.error 40) else aC (rd2 f (c-k)) (fun l r=>.ok (List.replicate k x++l,r)))) b) (wv x++uv c) (List.replicate c x++[]):=by
   refine(lU hx).bind ?_
   have h2:=(lT (n:=c) (by simp at hm;omega)).bind (f:=fun k=>if k=0∨c<k then (fun _=>.error 40) else aC (rd2 f (c-k)) (fun l r=>.ok (List.replicate k x++l,r))) (e':=[]) (y:=List.replicate c x++[])
    (by
     rw[jeh (by omega),jfM];have h3:ek (rd2 f 0) [] []:=⟨fun r=>DJ f _,fun k h=>by simp at h⟩;exact h3.map (List.replicate c x++·))
   rwa[jeG]at h2
  have e:rd2 (f+1) (c+([]:List Int).length)=(fun b=>aC wh (fun x=>aC num (fun k=>if k=0∨c<k then (fun _=>.error 40) else aC (rd2 f (c-k)) (fun l r=>.ok (List.replicate k x++l,r)))) b):=by
   funext b
   show (if c=0 then _ else _)=_
   rw[jeh (by omega)];rfl
  rw[e];exact h1
 | y::t,x,c,f,ht,hx,hc,hm,hf=>by
  by_cases Di:y=x
  ·subst Di
   have:=BE (t:=t) (x:=y) (c:=c+1) (f:=f) (fun z hz=>ht z (by simp[hz])) hx (by omega) (by simp at hm;omega) (by simp at hf;omega);rw[show fM y c (y::t)=fM y (c+1) t by rw[fM,jei rfl],show c+(y::t).length=c+1+t.length by simp;omega];rw[show List.replicate c y++y::t=List.replicate (c+1) y++t by rw[List.replicate_succ'];simp];exact this
  ·obtain⟨f,rfl⟩:∃ g,f=g+1:=⟨f-1,by simp at hf;omega⟩
   have ih:=BE (t:=t) (x:=y) (c:=1) (f:=f) (fun z hz=>ht z (by simp[hz])) (ht y (by simp)) (by omega) (by simp at hm;omega) (by simp at hf;omega);rw[show fM x c (y::t)=wv x++uv c++fM y 1 t by rw[fM,jeh Di],jez]
   have e:rd2 (f+1) (c+(y::t).length)=(fun b=>aC wh (fun x=>aC num (fun k=>if k=0∨c+(y::t).length<k then (fun _=>.error 40) else aC (rd2 f (c+(y::t).length-k)) (fun l r=>.ok (List.replicate k x++l,r)))) b):=by
    funext b
    rw[rd2,jeh (by omega)]
   rw[e];refine(lU hx).bind ?_;refine(lT (n:=c) (by omega)).bind ?_;rw[jeh (by omega),show c+(y::t).length-c=1+t.length by simp;omega];exact ih.map (List.replicate c x++·)
theorem ja8{l:List Int}(h:∀ x∈l,I64 x)(hm:l.length<=1000000):ek (rd2 l.length l.length) (iA l) l:=by
 cases l with
 | nil=>exact ek.pure []
 | cons x t =>
  have:=BE (t:=t) (x:=x) (c:=1) (f:=(x::t).length) (fun z hz=>h z (by simp[hz])) (h x (by simp)) (by omega) (by simp at hm;omega) (by simp);rw[show 1+t.length=(x::t).length by simp;omega]at this;exact this
def ins(x:Int):List Int->List Int
 | []=>[x]
 | y::t=>if x=y then y::t else if x<y then x::y::t else y::ins x t
def cI(l:List Int):List Int:=l.foldl (fun u x=>ins x u) []
def dV(l:List Int):Prop:=l.Pairwise (· < ·)
theorem BF{x z:Int}:∀{u:List Int},z∈ins x u↔z=x∨z∈u
 | []=>by simp[ins]
 | y::t=>by
  have ih:=BF (x:=x) (z:=z) (u:=t);unfold ins;split
  ·next h =>
   subst h;simp
  ·split
   ·simp
   ·simp only[jeC,ih]
    constructor
    ·rintro(h | h | h)
     ·exact Or.inr (Or.inl h)
     ·exact Or.inl h
     ·exact Or.inr (Or.inr h)
    ·rintro(h | h | h)
     ·exact Or.inr (Or.inl h)
     ·exact Or.inl h
     ·exact Or.inr (Or.inr h)
theorem wO{x:Int}:∀{u:List Int},dV u->dV (ins x u)
 | [],_=>by simp[ins,dV]
 | y::t,h=>by
  have h1:(∀ z∈t,y<z)/\dV t:=jfn.1 h;unfold ins;split
  ·exact h
  ·next fJ =>
   split
   ·next aB =>
    refine jfn.2 ⟨fun z hz=>?_,h⟩;rcases jeC.1 hz with rfl | hz
    ·exact aB
    ·exact Int.lt_trans aB (h1.1 z hz)
   ·next aB =>
    refine jfn.2 ⟨fun z hz=>?_,wO h1.2⟩;rcases BF.1 hz with rfl | hz
    ·omega
    ·exact h1.1 z hz
theorem wP{l:List Int}{i:Nat}(h:i<l.length):cI (l.take (i+1))=ins l[i] (cI (l.take i)):=by
 unfold cI;rw[jeA h,List.foldl_append];rfl
theorem sW:∀(l u:List Int),dV u->dV (l.foldl (fun u x=>ins x u) u)/\∀ z,z∈l.foldl (fun u x=>ins x u) u↔z∈u∨z∈l
 | [],u,h=>⟨h,fun z=>by simp⟩
 | x::t,u,h=>by
  obtain⟨h1,h2⟩:=sW t (ins x u) (wO h);refine⟨h1,fun z=>?_⟩;have:=h2 z;rw[BF]at this;simp only[List.foldl_cons,jeC];rw[this];constructor
  ·rintro((h | h) | h)
   ·exact Or.inr (Or.inl h)
   ·exact Or.inl h
   ·exact Or.inr (Or.inr h)
  ·rintro(h | h | h)
   ·exact Or.inl (Or.inr h)
   ·exact Or.inl (Or.inl h)
   ·exact Or.inr h
theorem ib(l:List Int):dV (cI l):=(sW l [] List.Pairwise.nil).1
theorem gC{l:List Int}{z:Int}:z∈cI l↔z∈l:=by
 have:=(sW l [] List.Pairwise.nil).2 z;unfold cI;rw[this];simp
theorem qa{x:Int}:∀{u:List Int},(ins x u).length<=u.length+1
 | []=>by simp[ins]
 | y::t=>by
  have:=qa (x:=x) (u:=t);unfold ins;split
  ·simp
  ·split
   ·simp
   ·simp;omega
theorem lW:∀(l u:List Int),(l.foldl (fun u x=>ins x u) u).length<=u.length+l.length
 | [],u=>by simp
 | x::t,u=>by
  have h1:=lW t (ins x u);have h2:=qa (x:=x) (u:=u);simp only[List.foldl_cons,jer];omega
theorem fN(l:List Int):(cI l).length<=l.length:=by
 have:=lW l [];unfold cI;simpa using this
theorem nM{l:List Int}(h:0<l.length):0<(cI l).length:=by
 have:l[0]∈cI l:=gC.2 (jeo h);exact List.length_pos_of_mem this
theorem lX{l:List Int}(h:∀ x∈l,I64 x):∀ x∈cI l,I64 x:=fun x hx=>h x (gC.1 hx)
def pl:List Int->Int->Nat
 | [],_=>0
 | y::t,x=>if y=x then 0 else pl t x+1
theorem wQ{x:Int}:∀{u:List Int},x∈u->pl u x<u.length/\u[pl u x]?=some x
 | y::t,h=>by
  unfold pl;split
  ·next e=>subst e;simp
  ·next fJ =>
   have ht:x∈t:=by
    rcases jeC.1 h with rfl | h
    ·exact absurd rfl fJ
    ·exact h
   obtain⟨h1,h2⟩:=wQ ht;simp only[jer,List.getElem?_cons_succ];exact⟨by omega,h2⟩
theorem ZO:∀{u:List Int} {i:Nat} (h:i<u.length),dV u->pl u u[i]=i
 | y::t,0,_,_=>by simp[pl]
 | y::t,i+1,h,hr=>by
  have hi:i<t.length:=by simpa using h
  have h1:(∀ z∈t,y<z)/\dV t:=jfn.1 hr;have h2:=h1.1 t[i] (jeo hi);show pl (y::t) t[i]=i+1
  unfold pl;rw[jeh (by omega),ZO hi h1.2]
def places(l:List Int):List Nat:=l.map (pl (cI l))
theorem lF(l:List Int):(places l).length=l.length:=jen _
theorem oQ{l:List Int}:∀ p∈places l,p<(cI l).length:=by
 intro p hp;obtain⟨x,hx,rfl⟩:=jeF.1 hp;exact(wQ (gC.2 hx)).1
theorem Hj{l:List Int}(h:0<l.length):(cI l).length-1∈places l:=by
 have hu:=nM h;have hi:(cI l).length-1<(cI l).length:=by omega
 refine jeF.2 ⟨(cI l)[(cI l).length-1],gC.1 (jeo hi),?_⟩;exact ZO hi (ib l)
theorem zJ{l:List Int}(h:0<l.length):wd (places l)=cX ((cI l).length-1):=by
 have hu:=nM h
 have e:∀ w,wd (places l)<=w↔cX ((cI l).length-1)<=w:=fun w=>by
  rw[qX,eR];constructor
  ·intro h1
   exact h1 _ (Hj h)
  ·intro h1 p hp
   have:=oQ p hp;omega
 have h1:=(e _).1 (jek _);have h2:=(e _).2 (jek _);omega
theorem DK(l:List Int):(places l).map (fun q=>(cI l).getD q 0)=l:=by
 unfold places;rw[jeW];conv=>rhs;rw[← jfj l]
 apply jff
 intro x hx;have:=(wQ (gC.2 hx)).2;simp[List.getD_eq_getElem?_getD,this]
def ic(l:List Int):Int:=(cI l).headD 0
theorem ie{l:List Int}(h:0<l.length):ic l∈l:=by
 have hu:=nM h;unfold ic;cases hq:cI l with
 | nil=>rw[hq]at hu;simp at hu
 | cons y t =>
  have:y∈cI l:=by rw[hq];simp
  exact gC.1 this
theorem nN{l:List Int}:∀ x∈l,ic l<=x:=by
 intro x hx;have h1:=gC.2 hx;have h2:=ib l;unfold ic;cases hq:cI l with
 | nil=>rw[hq]at h1;simp at h1
 | cons y t =>
  rw[hq]at h1 h2;have h3:(∀ z∈t,y<z)/\dV t:=jfn.1 h2;rcases jeC.1 h1 with rfl | h1
  ·exact Int.le_refl _
  ·exact Int.le_of_lt (h3.1 x h1)
def dr(l:List Int):List Nat:=l.map fun x=>(x-ic l).toNat
theorem ge(l:List Int):(dr l).length=l.length:=jen _
theorem lY{l:List Int}(h:∀ x∈l,I64 x):∀ p∈dr l,p<18446744073709551616:=by
 intro p hp;obtain⟨x,hx,rfl⟩:=jeF.1 hp;have h1:=h x hx;have h2:=h _ (ie (List.length_pos_of_mem hx));have h3:=nN x hx;unfold I64 at h1 h2;omega
theorem Hk{l:List Int}(h:∀ x∈l,I64 x):(dr l).map (fun(q:Nat)=>w64 (ic l+(q:Int)))=l:=by
 unfold dr;rw[jeW];conv=>rhs;rw[← jfj l]
 apply jff
 intro x hx;have h1:=h x hx;have h3:=nN x hx;simp only[Function.comp,id];rw[show ic l+((x-ic l).toNat:Int)=x by omega];exact RZ h1
def pkd(n w:Nat)(b:List Nat):Except Nat (List Nat×List Nat) :=
 if b.length<by8 (n*w) then .error 30
 else if by8 (n*w)<b.length then .error 32
 else if unE b n w=0 then .ok (unR b n w,[]) else .error (unE b n w)
theorem Hl{p:List Nat}{w:Nat}(hl:p.length<=256)(hw:w<=64)(hp:wd p<=w):can p w=true:=by
 unfold can;exact jeB ⟨by omega,by omega,hl,by omega⟩
theorem mJ{p:List Nat}{w:Nat}(h:can p w=true):(bm p w).length=by8 (p.length*w):=by
 unfold bm;rw[jei h,dU];rfl
theorem DL{p:List Nat}{w:Nat}(hl:p.length<=256)(hw:w<=64)(hp:wd p<=w):qT (pkd p.length w) (bm p w) p:=by
 have lL:=Hl hl hw hp;have bR:=mJ lL;obtain⟨h1,h2⟩:=DI lL;refine⟨?_,fun y r=>Or.inl ?_,fun k hk=>?_⟩
 ·unfold pkd
  rw[jeh (by omega),jeh (by omega),jei h1,h2]
 ·unfold pkd
  rw[jeh (by simp;omega),jei (by simp;omega)]
 ·unfold pkd
  rw[jei (by rw[jeq];omega)]
def qb:Int->List Int->List Nat
 | _,[]=>[]
 | last,y::t=>uv (y-last).toNat++qb y t
def iu:List Int->List Nat
 | []=>[]
 | x::t=>wv x++qb x t
def rdU:Nat->Int->List Nat->Except Nat (List Int×List Nat)
 | 0,_,b=>.ok ([],b)
 | m+1,last,b=>aC num (fun(d:Nat)=>if d=0∨9223372036854775807-last<(d:Int) then (fun _=>.error 40) else aC (rdU m (last+d)) (fun l r=>.ok ((last+d)::l,r))) b
theorem Se:∀{t:List Int} {last:Int},dV (last::t)->I64 last->(∀ x∈t,I64 x)->ek (rdU t.length last) (qb last t) t
 | [],_,_,_,_=>ek.pure []
 | y::t,last,hr,hl,ht=>by
  have h1:(∀ z∈y::t,last<z)/\dV (y::t):=jfn.1 hr;have hy:=h1.1 y (by simp);have hyi:=ht y (by simp);have ih:=Se (t:=t) (last:=y) h1.2 hyi (fun x hx=>ht x (by simp[hx]));unfold I64 at hl hyi;refine(lT (n:=(y-last).toNat) (by omega)).bind (f:=fun(d:Nat)=>if d=0∨9223372036854775807-last<(d:Int) then (fun _=>.error 40) else aC (rdU t.length (last+d)) (fun l r=>.ok ((last+d)::l,r))) ?_;rw[jeh (by omega),show last+((y-last).toNat:Int)=y by omega];exact ih.map (y::·)
def qc(l:List Int):List Nat:=uv (cI l).length++(iu (cI l)++bm (places l) (wd (places l):Int))
def picked(u:List Int)(p r:List Nat):Except Nat (List Int×List Nat):=if ∀ q∈p,q<u.length then .ok (p.map (fun q=>u.getD q 0),r) else .error 40
def rd3(n:Nat)(b:List Nat):Except Nat (List Int×List Nat) :=
 aC num (fun many=>if n<many∨many=0/\0<n then (fun _=>.error 40) else if n=0 then (fun r=>.ok ([],r)) else
  aC wh (fun x=>aC (rdU (many-1) x) (fun u=>aC (pkd n (cX (many-1))) (fun p r=>picked (x::u) p r)))) b
theorem qT.picked{d:List Nat->Except Nat (List Nat×List Nat)}{e p:List Nat}{u:List Int}(h:qT d e p)(hp:∀ q∈p,q<u.length):qT (aC d (picked u)) e (p.map fun q=>u.getD q 0):=by
 have hk:∀ r,YtpljdjmpamjkhaaGreatDoor.picked u p r=.ok (p.map (fun q=>u.getD q 0),r):=fun r=>by unfold YtpljdjmpamjkhaaGreatDoor.picked;rw[jei hp]
 refine⟨by rw[db h.1,hk],fun y r=>?_,fun k hk=>cE (h.2.2 k hk)⟩;rcases h.2.1 y r with h1 | h1
 ·exact Or.inl (cE h1)
 ·exact Or.inr (by rw[db h1,hk])
theorem DM{l:List Int}(hm:l.length<=256):wd (places l)<=64:=by
 refine qX.2 (fun p hp=>?_);have:=oQ p hp;have:=fN l;have:p<256:=by omega
 exact jeH this (by decide)
theorem ends3{l:List Int}(h:∀ x∈l,I64 x)(hm:l.length<=256):qT (rd3 l.length) (qc l) l:=by
 have vK:=fN l;have kV:=lF l;have hwp:=DM hm;have Vp:=lT (n:=(cI l).length) (by omega);refine Vp.then ?_
 rcases jfa l.length with h0 | h0
 ·obtain rfl:l=[]:=jeI h0
  rw[jeh (by simp[cI]),jei (show ([]:List Int).length=0 from rfl)]
  have e:iu (cI [])++bm (places []) (wd (places []):Int)=[]:=by
   have:bm (places []) (wd (places []):Int)=[]:=by
    have hc:=Hl (p:=places []) (w:=wd (places [])) (by simp[places]) hwp (jek _);have h1:=mJ hc;refine jeI (h1.trans ?_);simp[places,by8]
   rw[this];simp[cI,iu]
  rw[e];exact(ek.pure []).ends
 ·have hup:=nM h0
  rw[jeh (by omega),jeh (by omega)];have hr:=ib l;have hi:=lX h;have hb:=DK l;have aB:=oQ (l:=l);have Mu:=zJ h0;generalize places l=p at *;cases hu:cI l with
  | nil=>rw[hu]at hup;simp at hup
  | cons x t =>
   rw[hu]at hr hi hb aB Mu;have yg:=DL (p:=p) (w:=wd p) (by omega) hwp (jek _);rw[kV]at yg;rw[show iu (x::t)=wv x++qb x t from rfl,jez];refine(lU (hi x (by simp))).then ?_
   refine(Se hr (hi x (by simp)) (fun z hz=>hi z (by simp[hz]))).then (f:=fun u=>aC (pkd l.length (cX ((x::t).length-1))) (fun p r=>picked (x::u) p r)) ?_
   rw[← Mu];have:=yg.picked (u:=x::t) aB;rw[hb]at this;exact this
def lZ(l:List Int):List Nat:=if l.length=0 then [] else wv (ic l)++(uv (wd (dr l))++bm (dr l) (wd (dr l):Int))
def rd4(n:Nat)(b:List Nat):Except Nat (List Int×List Nat) :=
 if n=0 then .ok ([],b) else
  aC wh (fun x=>aC num (fun w=>if 64<w then (fun _=>.error 40) else aC (pkd n w) (fun p r=>.ok (p.map (fun(q:Nat)=>w64 (x+(q:Int))),r)))) b
theorem ends4{l:List Int}(h:∀ x∈l,I64 x)(hm:l.length<=256):qT (rd4 l.length) (lZ l) l:=by
 rcases jfa l.length with h0 | h0
 ·obtain rfl:l=[]:=jeI h0
  exact(ek.pure ([]:List Int)).ends
 ·have hml:=ge l
  have hw:=Hh (lY h);have yg:=DL (p:=dr l) (w:=wd (dr l)) (by omega) hw (jek _);rw[hml]at yg;have kQ:=yg.map (fun p=>p.map (fun(q:Nat)=>w64 (ic l+(q:Int))));rw[Hk h]at kQ
  have Vp:qT (aC num (fun w=>if 64<w then (fun _=>.error 40) else aC (pkd l.length w) (fun p r=>.ok (p.map (fun(q:Nat)=>w64 (ic l+(q:Int))),r)))) (uv (wd (dr l))++bm (dr l) (wd (dr l):Int)) l:=by
   refine(lT (n:=wd (dr l)) (by omega)).then ?_
   rw[jeh (by omega)];exact kQ
  have cZ:=(lU (h _ (ie h0))).then (f:=fun x=>aC num (fun w=>if 64<w then (fun _=>.error 40) else aC (pkd l.length w) (fun p r=>.ok (p.map (fun(q:Nat)=>w64 (x+(q:Int))),r)))) Vp
  have e1:lZ l=wv (ic l)++(uv (wd (dr l))++bm (dr l) (wd (dr l):Int)):=by unfold lZ;rw[jeh (by omega)]
  have e2:rd4 l.length=aC wh (fun x=>aC num (fun w=>if 64<w then (fun _=>.error 40) else aC (pkd l.length w) (fun p r=>.ok (p.map (fun(q:Nat)=>w64 (x+(q:Int))),r)))):=by
   funext b
   unfold rd4;rw[jeh (by omega)]
  rw[e1,e2];exact cZ
def iv(c:Nat)(l:List Int):List Nat :=
 match c with
 | 0=>gB l
 | 1=>iP 0 l
 | 2=>iA l
 | 3=>qc l
 | _=>lZ l
def rdC(c n:Nat):List Nat->Except Nat (List Int×List Nat) :=
 match c with
 | 0=>rd0 n
 | 1=>rd1 n 0
 | 2=>rd2 n n
 | 3=>rd3 n
 | _=>rd4 n
theorem endsC(c:Nat){l:List Int}(h:∀ x∈l,I64 x)(hm:l.length<=256):qT (rdC c l.length) (iv c l) l:=by
 unfold rdC iv;split
 ·exact(Sb h).ends
 ·exact(Sd 0 h).ends
 ·exact(ja8 h (by omega)).ends
 ·exact ends3 h hm
 ·exact ends4 h hm
def nh(c n:Nat)(b:List Nat):Except Nat (List Int) :=
 match rdC c n b with
 | .error e=>.error e
 | .ok (l,r)=>if r.length=0 then (if iv c l=b then .ok l else .error 40) else .error 32
def bw(b:List Nat)(n:Int):List Int×Nat :=
 if 0<=n/\n<=256 then
  match b with
  | []=>([],30)
  | c::t=>if 4<c then ([],50) else match nh c n.toNat t with
   | .ok l=>(l,0)
   | .error e=>([],e)
 else ([],1)
theorem Hm(c:Nat){l:List Int}(h:∀ x∈l,I64 x)(hm:l.length<=256):nh c l.length (iv c l)=.ok l:=by
 unfold nh;rw[(endsC c h hm).1];simp
theorem Hn{c:Nat}(hc:c<=4){l:List Int}(h:∀ x∈l,I64 x)(hm:l.length<=256):bw (c::iv c l) l.length=(l,0):=by
 unfold bw;rw[jei (by omega)];simp only[jeQ];rw[jeh (by omega),Hm c h hm]
theorem cx{α β : Type}{d:List Nat->Except Nat (α×List Nat)}{f:α->List Nat->Except Nat (β×List Nat)}{b r:List Nat}{y:β}(h:aC d f b=.ok (y,r)) :
  ∃ x q,d b=.ok (x,q)/\f x q=.ok (y,r):=by
 unfold aC at h;split at h
 ·next x q e=>exact⟨x,q,e,h⟩
 ·simp at h
theorem Bs.right{a b:List Nat}(h:Bs (a++b)):Bs b:=fun x hx=>h x (jeN.2 (Or.inr hx))
theorem BG{b r:List Nat}{n:Nat}(hb:Bs b)(h:num b=.ok (n,r)):n<18446744073709551616/\Bs r:=by
 obtain⟨h1,h2⟩:=ja3 hb h;exact⟨h1,by rw[h2]at hb;exact hb.right⟩
theorem wR{b r:List Nat}{x:Int}(hb:Bs b)(h:wh b=.ok (x,r)):I64 x/\Bs r:=by
 obtain⟨h1,h2⟩:=wh_ok hb h;exact⟨h1,by rw[h2]at hb;exact hb.right⟩
def Is(l:List Int):Prop:=∀ x∈l,I64 x
theorem Is.cons{x:Int}{l:List Int}(h:I64 x)(hl:Is l):Is (x::l):=fun y hy=>by
 rcases jeC.1 hy with rfl | hy
 ·exact h
 ·exact hl y hy
theorem LK:∀{n:Nat} {b r:List Nat} {l:List Int},Bs b->rd0 n b=.ok (l,r)->l.length=n/\Is l/\Bs r
 | 0,b,r,l,hb,h=>by
  simp only[rd0,Except.ok.injEq,Prod.mk.injEq]at h;obtain⟨rfl,rfl⟩:=h;exact⟨rfl,fun x hx=>by simp at hx,hb⟩
 | n+1,b,r,l,hb,h=>by
  rw[rd0]at h;obtain⟨x,q,h1,h2⟩:=cx h;obtain⟨m,q2,h3,h4⟩:=cx h2;obtain⟨i1,i2⟩:=wR hb h1;obtain⟨j1,j2,j3⟩:=LK i2 h3;simp only[Except.ok.injEq,Prod.mk.injEq]at h4;obtain⟨rfl,rfl⟩:=h4;exact⟨by simp[j1],j2.cons i1,j3⟩
theorem LM:∀{n:Nat} {last:Int} {b r:List Nat} {l:List Int},Bs b->rd1 n last b=.ok (l,r)->l.length=n/\Is l/\Bs r
 | 0,last,b,r,l,hb,h=>by
  simp only[rd1,Except.ok.injEq,Prod.mk.injEq]at h;obtain⟨rfl,rfl⟩:=h;exact⟨rfl,fun x hx=>by simp at hx,hb⟩
 | n+1,last,b,r,l,hb,h=>by
  rw[rd1]at h;obtain⟨x,q,h1,h2⟩:=cx h;obtain⟨m,q2,h3,h4⟩:=cx h2;obtain⟨i1,i2⟩:=wR hb h1;obtain⟨j1,j2,j3⟩:=LM i2 h3;simp only[Except.ok.injEq,Prod.mk.injEq]at h4;obtain⟨rfl,rfl⟩:=h4;exact⟨by simp[j1],j2.cons (jq _),j3⟩
theorem LN:∀{f n:Nat} {b r:List Nat} {l:List Int},n<=f->Bs b->rd2 f n b=.ok (l,r)->l.length=n/\Is l/\Bs r
 | 0,n,b,r,l,hf,hb,h=>by
  simp only[rd2,Except.ok.injEq,Prod.mk.injEq]at h;obtain⟨rfl,rfl⟩:=h;exact⟨by simp;omega,fun x hx=>by simp at hx,hb⟩
 | f+1,n,b,r,l,hf,hb,h=>by
  rw[rd2]at h;split at h
  ·simp only[Except.ok.injEq,Prod.mk.injEq]at h
   obtain⟨rfl,rfl⟩:=h;exact⟨by simp;omega,fun x hx=>by simp at hx,hb⟩
  ·obtain⟨x,q,h1,h2⟩:=cx h
   obtain⟨i1,i2⟩:=wR hb h1;obtain⟨k,q2,h3,h4⟩:=cx h2;obtain⟨_,i3⟩:=BG i2 h3;split at h4
   ·simp at h4
   ·obtain⟨m,q3,h5,h6⟩:=cx h4
    obtain⟨j1,j2,j3⟩:=LN (by omega) i3 h5;simp only[Except.ok.injEq,Prod.mk.injEq]at h6;obtain⟨rfl,rfl⟩:=h6;refine⟨by simp[j1];omega,fun y hy=>?_,j3⟩;rcases jeN.1 hy with hy | hy
    ·rw[jf5 hy];exact i1
    ·exact j2 y hy
theorem LO:∀{m:Nat} {last:Int} {b r:List Nat} {l:List Int},I64 last->Bs b->rdU m last b=.ok (l,r)->l.length=m/\Is l/\Bs r
 | 0,last,b,r,l,hl,hb,h=>by
  simp only[rdU,Except.ok.injEq,Prod.mk.injEq]at h;obtain⟨rfl,rfl⟩:=h;exact⟨rfl,fun x hx=>by simp at hx,hb⟩
 | m+1,last,b,r,l,hl,hb,h=>by
  rw[rdU]at h;obtain⟨d,q,h1,h2⟩:=cx h;obtain⟨_,i2⟩:=BG hb h1;split at h2
  ·simp at h2
  ·next hd =>
   have hi:I64 (last+d):=by unfold I64 at hl ⊢;omega
   obtain⟨m',q2,h3,h4⟩:=cx h2;obtain⟨j1,j2,j3⟩:=LO hi i2 h3;simp only[Except.ok.injEq,Prod.mk.injEq]at h4;obtain⟨rfl,rfl⟩:=h4;exact⟨by simp[j1],j2.cons hi,j3⟩
theorem LP{n w:Nat}{b r p:List Nat}(h:pkd n w b=.ok (p,r)):p.length=n/\r=[]:=by
 unfold pkd at h;split at h
 ·simp at h
 ·split at h
  ·simp at h
  ·split at h
   ·next hE =>
    simp only[Except.ok.injEq,Prod.mk.injEq]at h;obtain⟨rfl,rfl⟩:=h;refine⟨?_,rfl⟩;rw[unR,jei hE,dU];rfl
   ·simp at h
theorem Xn{n:Nat}{b r:List Nat}{l:List Int}(hb:Bs b)(h:rd3 n b=.ok (l,r)):l.length=n/\Is l/\Bs r:=by
 unfold rd3 at h;obtain⟨many,q,h1,h2⟩:=cx h;obtain⟨_,i2⟩:=BG hb h1;split at h2
 ·simp at h2
 ·split at h2
  ·simp only[Except.ok.injEq,Prod.mk.injEq]at h2
   obtain⟨rfl,rfl⟩:=h2;exact⟨by simp;omega,fun x hx=>by simp at hx,i2⟩
  ·obtain⟨x,q2,h3,h4⟩:=cx h2
   obtain⟨i3,i4⟩:=wR i2 h3;obtain⟨u,q3,h5,h6⟩:=cx h4;obtain⟨j1,j2,j3⟩:=LO i3 i4 h5;obtain⟨p,q4,h7,h8⟩:=cx h6;obtain⟨k1,rfl⟩:=LP h7;unfold picked at h8;split at h8
   ·next hp =>
    simp only[Except.ok.injEq,Prod.mk.injEq]at h8;obtain⟨rfl,rfl⟩:=h8;refine⟨by simp[k1],fun y hy=>?_,fun y hy=>by simp at hy⟩;obtain⟨z,hz,rfl⟩:=jeF.1 hy;have aB:=hp z hz;rw[List.getD_eq_getElem?_getD,List.getElem?_eq_getElem aB];exact(j2.cons i3) _ (jeo aB)
   ·simp at h8
theorem Xo{n:Nat}{b r:List Nat}{l:List Int}(hb:Bs b)(h:rd4 n b=.ok (l,r)):l.length=n/\Is l/\Bs r:=by
 unfold rd4 at h;split at h
 ·simp only[Except.ok.injEq,Prod.mk.injEq]at h
  obtain⟨rfl,rfl⟩:=h;exact⟨by simp;omega,fun x hx=>by simp at hx,hb⟩
 ·obtain⟨x,q,h1,h2⟩:=cx h
  obtain⟨i1,i2⟩:=wR hb h1;obtain⟨w,q2,h3,h4⟩:=cx h2;split at h4
  ·simp at h4
  ·obtain⟨p,q3,h5,h6⟩:=cx h4
   obtain⟨k1,rfl⟩:=LP h5;simp only[Except.ok.injEq,Prod.mk.injEq]at h6;obtain⟨rfl,rfl⟩:=h6;refine⟨by simp[k1],fun y hy=>?_,fun y hy=>by simp at hy⟩;obtain⟨z,_,rfl⟩:=jeF.1 hy;exact jq _
theorem Xp{c n:Nat}{b r:List Nat}{l:List Int}(hb:Bs b)(h:rdC c n b=.ok (l,r)):l.length=n/\Is l/\Bs r:=by
 unfold rdC at h;split at h
 ·exact LK hb h
 ·exact LM hb h
 ·exact LN (jek _) hb h
 ·exact Xn hb h
 ·exact Xo hb h
theorem Nf{c n:Nat}{b:List Nat}{l:List Int}(hb:Bs b)(h:nh c n b=.ok l):l.length=n/\Is l/\iv c l=b:=by
 unfold nh at h;split at h
 ·simp at h
 ·next l' r e =>
  split at h
  ·split at h
   ·next h2 =>
    simp only[Except.ok.injEq]at h;subst h;obtain⟨h3,h4,_⟩:=Xp hb e;exact⟨h3,h4,h2⟩
   ·simp at h
  ·simp at h
theorem dI{α β : Type}{d:List Nat->Except Nat (α×List Nat)}{f:α->List Nat->Except Nat (β×List Nat)}(h1:∀ b,d b≠.error 0)(h2:∀ x b,f x b≠.error 0)(b:List Nat):aC d f b≠.error 0:=by
 unfold aC;split
 ·exact h2 _ _
 ·next e he =>
  intro h;simp only[Except.error.injEq]at h;subst h;exact h1 b he
theorem BI(b:List Nat):num b≠.error 0:=by
 unfold num;split
 ·simp
 ·next h=>intro e;simp only[Except.error.injEq]at e;exact h e
theorem DN(b:List Nat):wh b≠.error 0:=by
 unfold wh;split
 ·simp
 ·next h=>intro e;simp only[Except.error.injEq]at e;exact h e
theorem Sg(n w:Nat)(b:List Nat):pkd n w b≠.error 0:=by
 unfold pkd;split
 ·simp
 ·split
  ·simp
  ·split
   ·simp
   ·next h=>intro e;simp only[Except.error.injEq]at e;exact h e
theorem Sh:∀(n:Nat) (b:List Nat),rd0 n b≠.error 0
 | 0,b=>by simp[rd0]
 | n+1,b=>dI DN (fun x=>dI (Sh n) (fun l r=>by simp)) b
theorem Si:∀(n:Nat) (last:Int) (b:List Nat),rd1 n last b≠.error 0
 | 0,last,b=>by simp[rd1]
 | n+1,last,b=>dI DN (fun d=>dI (Si n _) (fun l r=>by simp)) b
theorem Sj:∀(f n:Nat) (b:List Nat),rd2 f n b≠.error 0
 | 0,n,b=>by simp[rd2]
 | f+1,n,b=>by
  rw[rd2];split
  ·simp
  ·refine dI DN (fun x=>dI BI (fun k q=>?_)) b
   split
   ·simp
   ·exact dI (Sj f _) (fun l r=>by simp) q
theorem Sk:∀(m:Nat) (last:Int) (b:List Nat),rdU m last b≠.error 0
 | 0,last,b=>by simp[rdU]
 | m+1,last,b=>by
  rw[rdU];refine dI BI (fun d q=>?_) b;split
  ·simp
  ·exact dI (Sk m _) (fun l r=>by simp) q
theorem ja9(n:Nat)(b:List Nat):rd3 n b≠.error 0:=by
 unfold rd3;refine dI BI (fun many q=>?_) b;split
 ·simp
 ·split
  ·simp
  ·refine dI DN (fun x=>dI (Sk _ _) (fun u=>dI (Sg _ _) (fun p r=>?_))) q
   unfold picked;split<;>simp
theorem jba(n:Nat)(b:List Nat):rd4 n b≠.error 0:=by
 unfold rd4;split
 ·simp
 ·refine dI DN (fun x=>dI BI (fun w q=>?_)) b
  split
  ·simp
  ·exact dI (Sg _ _) (fun p r=>by simp) q
theorem jbb(c n:Nat)(b:List Nat):rdC c n b≠.error 0:=by
 unfold rdC;split
 ·exact Sh n b
 ·exact Si n 0 b
 ·exact Sj n n b
 ·exact ja9 n b
 ·exact jba n b
theorem Sm(c n:Nat)(b:List Nat):nh c n b≠.error 0:=by
 unfold nh;split
 ·next e he =>
  intro h;simp only[Except.error.injEq]at h;subst h;exact jbb c n b he
 ·split
  ·split<;>simp
  ·simp
theorem Ng{b:List Nat}{n:Int}{l:List Int}(hb:Bs b)(h:bw b n=(l,0)):0<=n/\n<=256/\∃ c t,b=c::t/\c<=4/\(l.length:Int)=n/\Is l/\iv c l=t:=by
 unfold bw at h;split at h
 ·next hn =>
  refine⟨hn.1,hn.2,?_⟩;split at h
  ·simp at h
  ·next c t =>
   split at h
   ·simp at h
   ·next hc =>
    split at h
    ·next l' e =>
     simp only[Prod.mk.injEq,and_true]at h;subst h;obtain⟨h1,h2,h3⟩:=Nf (fun x hx=>hb x (by simp[hx])) e;exact⟨c,t,rfl,by omega,by omega,h2,h3⟩
    ·next e he =>
     simp only[Prod.mk.injEq]at h;rw[h.2]at he;exact absurd he (Sm _ _ _)
 ·simp at h
def jL(l:List Int):Nat->List Nat
 | 0=>0::iv 0 l
 | c+1=>if (iv (c+1) l).length+1<(jL l c).length then (c+1)::iv (c+1) l else jL l c
theorem jx(l:List Int):∀ k,∃ c,c<=k/\jL l k=c::iv c l
 | 0=>⟨0,jek _,rfl⟩
 | k+1=>by
  rw[jL];split
  ·exact⟨k+1,jek _,rfl⟩
  ·obtain⟨c,h1,h2⟩:=jx l k
   exact⟨c,by omega,h2⟩
theorem oR(l:List Int):∀ k c,c<=k->(jL l k).length<=(iv c l).length+1
 | 0,c,h=>by
  obtain rfl:c=0:=by omega
  simp[jL]
 | k+1,c,h=>by
  rw[jL];split
  ·next aB =>
   rcases jeM k c with h1 | h1
   ·obtain rfl:c=k+1:=by omega
    simp
   ·have:=oR l k c h1
    simp
    omega
  ·next aB =>
   rcases jeM k c with h1 | h1
   ·obtain rfl:c=k+1:=by omega
    omega
   ·exact oR l k c h1
theorem mb:∀{l:List Int},Is l->(gB l).length<=10*l.length/\Bs (gB l)
 | [],_=>⟨by simp[gB],fun x hx=>by simp[gB]at hx⟩
 | x::t,h=>by
  obtain⟨h1,h2⟩:=mb (l:=t) (fun y hy=>h y (by simp[hy]));have h3:=fC (h x (by simp));refine⟨by simp[gB];omega,fun y hy=>?_⟩;rcases jeN.1 hy with hy | hy
  ·exact zG y hy
  ·exact h2 y hy
theorem oS:∀{l:List Int} {last:Int},(iP last l).length<=10*l.length/\Bs (iP last l)
 | [],_=>⟨by simp[iP],fun x hx=>by simp[iP]at hx⟩
 | x::t,last=>by
  obtain⟨h1,h2⟩:=oS (l:=t) (last:=x);have h3:=fC (jq (x-last));refine⟨by simp[iP];omega,fun y hy=>?_⟩;rcases jeN.1 hy with hy | hy
  ·exact zG y hy
  ·exact h2 y hy
theorem Bs.append{a b:List Nat}(ha:Bs a)(hb:Bs b):Bs (a++b):=fun x hx=>by
 rcases jeN.1 hx with hx | hx
 ·exact ha x hx
 ·exact hb x hx
theorem mK:∀{t:List Int} {x:Int} {c:Nat},Is t->I64 x->c+t.length<=1000000->(fM x c t).length<=20*(t.length+1)/\Bs (fM x c t)
 | [],x,c,ht,hx,hc=>by
  have h3:=fC hx;have h4:=bO (n:=c) (by simp at hc;omega);refine⟨by simp[fM];omega,?_⟩;rw[fM];exact Bs.append zG hO
 | y::t,x,c,ht,hx,hc=>by
  have h3:=fC hx;have h4:=bO (n:=c) (by omega);rw[fM];split
  ·obtain⟨h1,h2⟩:=mK (t:=t) (x:=x) (c:=c+1) (fun z hz=>ht z (by simp[hz])) hx (by simp at hc;omega)
   exact⟨by simp;omega,h2⟩
  ·obtain⟨h1,h2⟩:=mK (t:=t) (x:=y) (c:=1) (fun z hz=>ht z (by simp[hz])) (ht y (by simp)) (by simp at hc;omega)
   exact⟨by simp;omega,Bs.append (Bs.append zG hO) h2⟩
theorem zK:∀{t:List Int} {last:Int},I64 last->Is t->(qb last t).length<=10*t.length/\Bs (qb last t)
 | [],_,_,_=>⟨by simp[qb],fun x hx=>by simp[qb]at hx⟩
 | y::t,last,hl,ht=>by
  have hy:=ht y (by simp);obtain⟨h1,h2⟩:=zK (t:=t) (last:=y) hy (fun z hz=>ht z (by simp[hz]));have h3:=bO (n:=(y-last).toNat) (by unfold I64 at hy hl;omega);exact⟨by simp[qb];omega,Bs.append hO h2⟩
theorem mc{u:List Int}(h:Is u):(iu u).length<=10*u.length/\Bs (iu u):=by
 cases u with
 | nil=>exact⟨by simp[iu],fun x hx=>by simp[iu]at hx⟩
 | cons x t =>
  have hx:=h x (by simp);obtain⟨h1,h2⟩:=zK (t:=t) hx (fun z hz=>h z (by simp[hz]));have h3:=fC hx;exact⟨by simp[iu];omega,Bs.append zG h2⟩
theorem wS{p:List Nat}{w:Nat}(hl:p.length<=256):(bm p w).length<=2048:=by
 unfold bm;split
 ·next h =>
  unfold can at h;simp only[je7]at h;rw[dU];have:p.length*w<=256*64:=jfT hl (by omega);unfold by8;simp only[jeQ];omega
 ·simp
theorem eI(c:Nat){l:List Int}(h:Is l)(hl:l.length<=256):(iv c l).length<=5130/\Bs (iv c l):=by
 unfold iv;split
 ·obtain⟨h1,h2⟩:=mb h
  exact⟨by omega,h2⟩
 ·obtain⟨h1,h2⟩:=oS (l:=l) (last:=0)
  exact⟨by omega,h2⟩
 ·cases l with
  | nil=>exact⟨by simp[iA],fun x hx=>by simp[iA]at hx⟩
  | cons x t =>
   obtain⟨h1,h2⟩:=mK (t:=t) (x:=x) (c:=1) (fun z hz=>h z (by simp[hz])) (h x (by simp)) (by simp at hl;omega);simp at hl
   exact⟨by rw[iA];omega,h2⟩
 ·have hu:=fN l
  obtain⟨h1,h2⟩:=mc (lX h);have h3:=bO (n:=(cI l).length) (by omega);have h4:=wS (p:=places l) (w:=wd (places l)) (by rw[lF];exact hl);refine⟨by simp[qc];omega,Bs.append hO (Bs.append h2 qY)⟩
 ·unfold lZ
  split
  ·exact⟨by simp,fun x hx=>by simp at hx⟩
  ·next h0 =>
   have h3:=fC (h _ (ie (by omega)));have h4:=wS (p:=dr l) (w:=wd (dr l)) (by rw[ge];exact hl);have h5:=bO (n:=wd (dr l)) (by have:=Hh (lY h);omega);refine⟨by simp;omega,Bs.append zG (Bs.append hO qY)⟩
def cV(l:List Int):List Nat:=jL l 4
theorem km{l:List Int}(h:Is l)(hm:l.length<=256):bw (cV l) l.length=(l,0):=by
 obtain⟨c,hc,e⟩:=jx l 4;unfold cV;rw[e];exact Hn hc h hm
theorem kn{l:List Int}(h:Is l)(hm:l.length<=256):(cV l).length<=5131/\Bs (cV l):=by
 obtain⟨c,hc,e⟩:=jx l 4;obtain⟨h1,h2⟩:=eI c h hm;unfold cV;rw[e];refine⟨by simp only[jer];omega,fun x hx=>?_⟩;rcases jeC.1 hx with rfl | hx
 ·omega
 ·exact h2 x hx
def cnt(l:List Int):List Nat:=uv (cV l).length++cV l
def Nh(b:List Nat)(n:Int):Option (List Int×List Nat) :=
 if (gt b).2.2=0/\(gt b).1<=b.length-(gt b).2.1 then
  (if (bw ((b.drop (gt b).2.1).take (gt b).1) n).2=0 then some ((bw ((b.drop (gt b).2.1).take (gt b).1) n).1,b.drop ((gt b).2.1+(gt b).1)) else none)
 else none
theorem DO{l:List Int}(h:Is l)(hm:l.length<=256)(r:List Nat):Nh (cnt l++r) l.length=some (l,r):=by
 have hs:=(kn h hm).1
 have hg:gt (cnt l++r)=((cV l).length,(uv (cV l).length).length,0):=by
  unfold cnt;rw[jez];exact mH _ (by omega) _
 have hd:(cnt l++r).drop (uv (cV l).length).length=cV l++r:=by
  unfold cnt;rw[jez,je3]
 have hd2:(cnt l++r).drop ((uv (cV l).length).length+(cV l).length)=r:=by
  rw[← jfR,hd,je3]
 have hb:=km h hm;unfold Nh;rw[hg];simp only;rw[hd,hd2,jfh,hb,jei,jei rfl];refine⟨trivial,?_⟩;unfold cnt;simp only[jem];omega
def em(l:List (List Nat)):List Int:=l.map fun s=>(s.length:Int)
def fH(l:List (List Nat)):List Nat:=cnt (em l)++l.flatten
def DP:List Nat->List Int->Option (List (List Nat)×List Nat)
 | b,[]=>some ([],b)
 | b,s::t=>if s<0∨(b.length:Int)<s then none else (DP (b.drop s.toNat) t).map fun p=>(b.take s.toNat::p.1,p.2)
theorem sX(r:List Nat):∀ l:List (List Nat),DP (l.flatten++r) (em l)=some (l,r)
 | []=>rfl
 | s::t=>by
  have ih:=sX r t;have e:(s::t).flatten++r=s++(t.flatten++r):=by simp[jez]
  rw[e];unfold em at ih ⊢;simp only[jeT,DP];rw[jeh (by simp only[jem];omega),jeQ,je3,jfh,ih];rfl
def jM(x:List Nat):List (List Nat)->List (List Nat)
 | []=>[x]
 | y::t=>if x=y then y::t else if x<y then x::y::t else y::jM x t
def tuq(l:List (List Nat)):List (List Nat):=l.foldl (fun u x=>jM x u) []
def uY(l:List (List Nat)):Prop:=l.Pairwise (· < ·)
theorem wT{x z:List Nat}:∀{u:List (List Nat)},z∈jM x u↔z=x∨z∈u
 | []=>by simp[jM]
 | y::t=>by
  have ih:=wT (x:=x) (z:=z) (u:=t);unfold jM;split
  ·next h =>
   subst h;simp
  ·split
   ·simp
   ·simp only[jeC,ih]
    constructor
    ·rintro(h | h | h)
     ·exact Or.inr (Or.inl h)
     ·exact Or.inl h
     ·exact Or.inr (Or.inr h)
    ·rintro(h | h | h)
     ·exact Or.inr (Or.inl h)
     ·exact Or.inl h
     ·exact Or.inr (Or.inr h)
theorem sY{x y z:List Nat}(h1:x<y)(h2:y<z):x<z:=List.lt_trans h1 h2
theorem Nj{x y:List Nat}(h1:x≠y)(h2:¬ x<y):y<x:=by
 have h3:y<=x:=h2;rcases List.le_iff_lt_or_eq.1 h3 with h | h
 ·exact h
 ·exact absurd h.symm h1
theorem ue{x:List Nat}:∀{u:List (List Nat)},uY u->uY (jM x u)
 | [],_=>by simp[jM,uY]
 | y::t,h=>by
  have h1:(∀ z∈t,y<z)/\uY t:=jfn.1 h;unfold jM;split
  ·exact h
  ·next fJ =>
   split
   ·next aB =>
    refine jfn.2 ⟨fun z hz=>?_,h⟩;rcases jeC.1 hz with rfl | hz
    ·exact aB
    ·exact sY aB (h1.1 z hz)
   ·next aB =>
    refine jfn.2 ⟨fun z hz=>?_,ue h1.2⟩;rcases wT.1 hz with rfl | hz
    ·exact Nj fJ aB
    ·exact h1.1 z hz
theorem yI{l:List (List Nat)}{i:Nat}(h:i<l.length):tuq (l.take (i+1))=jM l[i] (tuq (l.take i)):=by
 unfold tuq;rw[List.take_add_one,List.getElem?_eq_getElem h,List.foldl_append];rfl
theorem wU:∀(l u:List (List Nat)),uY u->uY (l.foldl (fun u x=>jM x u) u)/\∀ z,z∈l.foldl (fun u x=>jM x u) u↔z∈u∨z∈l
 | [],u,h=>⟨h,fun z=>by simp⟩
 | x::t,u,h=>by
  obtain⟨h1,h2⟩:=wU t (jM x u) (ue h);refine⟨h1,fun z=>?_⟩;rw[List.foldl_cons,h2,wT,jeC];constructor
  ·rintro((h | h) | h)
   ·exact Or.inr (Or.inl h)
   ·exact Or.inl h
   ·exact Or.inr (Or.inr h)
  ·rintro(h | h | h)
   ·exact Or.inl (Or.inr h)
   ·exact Or.inl (Or.inl h)
   ·exact Or.inr h
theorem wV(l:List (List Nat)):uY (tuq l):=(wU l [] List.Pairwise.nil).1
theorem jr{l:List (List Nat)}{z:List Nat}:z∈tuq l↔z∈l:=by
 unfold tuq;rw[(wU l [] List.Pairwise.nil).2];simp
theorem uf:∀{u v:List (List Nat)},uY u->uY v->(∀ z,z∈u↔z∈v)->u=v
 | [],[],_,_,_=>rfl
 | [],y::t,_,_,h=>absurd ((h y).2 (by simp)) (by simp)
 | x::s,[],_,_,h=>absurd ((h x).1 (by simp)) (by simp)
 | x::s,y::t,hu,hv,h=>by
  obtain⟨a1,a2⟩:=jfn.1 hu;obtain⟨b1,b2⟩:=jfn.1 hv
  have e:x=y:=by
   rcases jeC.1 ((h x).1 (by simp))with e | e
   ·exact e
   ·rcases jeC.1 ((h y).2 (by simp))with e2 | e2
    ·exact e2.symm
    ·exact absurd (sY (a1 y e2) (b1 x e)) (jfU x)
  subst e;congr 1
  refine uf a2 b2 fun z=>?_
  constructor
  ·intro hz
   rcases jeC.1 ((h z).1 (jfB _ hz))with e | e
   ·subst e
    exact absurd (a1 z hz) (jfU z)
   ·exact e
  ·intro hz
   rcases jeC.1 ((h z).2 (jfB _ hz))with e | e
   ·subst e
    exact absurd (b1 z hz) (jfU z)
   ·exact e
theorem nO{x:List Nat}:∀{u:List (List Nat)},(jM x u).length<=u.length+1
 | []=>by simp[jM]
 | y::t=>by
  have:=nO (x:=x) (u:=t);unfold jM;split
  ·simp
  ·split
   ·simp
   ·simp only[jer]
    omega
theorem ni:∀(l u:List (List Nat)),(l.foldl (fun u x=>jM x u) u).length<=u.length+l.length
 | [],u=>by simp
 | x::t,u=>by
  have h1:=ni t (jM x u);have h2:=nO (x:=x) (u:=u);rw[List.foldl_cons,jer];omega
theorem fO(l:List (List Nat)):(tuq l).length<=l.length:=by
 have:=ni l [];simpa [tuq]using this
def plT:List (List Nat)->List Nat->Nat
 | [],_=>0
 | y::t,x=>if y=x then 0 else plT t x+1
theorem lj{x:List Nat}:∀{u:List (List Nat)},x∈u->plT u x<u.length/\u[plT u x]?=some x
 | [],h=>by simp at h
 | y::t,h=>by
  unfold plT;split
  ·next e=>exact⟨by simp,by simp[e]⟩
  ·next e =>
   rcases jeC.1 h with rfl | h
   ·exact absurd rfl e
   ·obtain⟨h1,h2⟩:=lj h
    exact⟨by simp only[jer];omega,by simpa using h2⟩
def cN(l:List (List Nat)):List Int:=l.map fun s=>(plT (tuq l) s:Int)
def plain(l:List (List Nat)):List Nat:=0::fH l
def dt(l:List (List Nat)):List Nat:=1::(uv (tuq l).length++(fH (tuq l)++cV (cN l)))
def eS(l:List (List Nat)):List Nat:=if (dt l).length<(plain l).length then dt l else plain l
def Sn(u:List (List Nat))(p:List Int):Option (List (List Nat)):=if ∀ q∈p,0<=q/\q<(u.length:Int) then some (p.map fun q=>u.getD q.toNat []) else none
def mL(b:List Nat)(n:Nat):Option (List (List Nat)) :=
 match b with
 | []=>none
 | x::t =>
  if x=0 then ((Nh t n).bind fun p=>DP p.2 p.1).map (·.1)
  else if x=1 then
   (if (gt t).2.2=0/\(gt t).1<=n then
    (Nh (t.drop (gt t).2.1) (gt t).1).bind fun p=>(DP p.2 p.1).bind fun q=>if (bw q.2 n).2=0 then Sn q.1 (bw q.2 n).1 else none
   else none)
  else none
def Ts(l:List (List Nat)):Prop:=∀ s∈l,s.length<=64/\Bs s
theorem bM(l:List (List Nat)):(em l).length=l.length:=jen _
theorem ig{l:List (List Nat)}(h:Ts l):Is (em l):=fun x hx=>by
 obtain⟨s,hs,rfl⟩:=jeF.1 hx;have:=(h s hs).1;unfold I64;omega
theorem lG{l:List (List Nat)}(h:Ts l):Ts (tuq l):=fun s hs=>h s (jr.1 hs)
theorem bY(l:List (List Nat)):(cN l).length=l.length:=jen _
theorem qd{l:List (List Nat)}:∀ q∈cN l,0<=q/\q<((tuq l).length:Int):=fun q hq=>by
 obtain⟨s,hs,rfl⟩:=jeF.1 hq;have:=(lj (jr.2 hs)).1;omega
theorem en{l:List (List Nat)}(hm:l.length<=256):Is (cN l):=fun q hq=>by
 have h1:=qd q hq;have h2:=fO l;unfold I64;omega
theorem qZ(l:List (List Nat)):(cN l).map (fun q=>(tuq l).getD q.toNat [])=l:=by
 unfold cN;rw[jeW];conv=>rhs;rw[← jfj l]
 apply jff
 intro s hs;have h2:=(lj (jr.2 hs)).2;simp only[Function.comp,jeQ,id];rw[List.getD_eq_getElem?_getD,h2];rfl
theorem Ho{l:List (List Nat)}(h:Ts l)(hm:l.length<=256)(r:List Nat):mL (plain l++r) l.length=some l:=by
 unfold plain fH;simp only[jfc,mL,jei];have h1:=DO (ig h) (by rw[bM];exact hm) (l.flatten++r);rw[bM]at h1;rw[jez,h1];simp only[Option.bind_some,sX,jfu]
theorem DQ{l:List (List Nat)}(h:Ts l)(hm:l.length<=256):mL (dt l) l.length=some l:=by
 have hu:=fO l;unfold dt fH;have h0:=mH (tuq l).length (by omega) (cnt (em (tuq l))++(tuq l).flatten++cV (cN l));have h1:=DO (ig (lG h)) (by rw[bM];omega) ((tuq l).flatten++cV (cN l));rw[bM]at h1;have h2:=km (en hm) (by rw[bY];exact hm);rw[bY]at h2;simp only[mL,show (1:Nat)≠0 from by omega,if_false,if_true,h0,je3];rw[jei ⟨trivial,hu⟩,jez,h1];simp only[Option.bind_some,sX,h2,if_true];unfold Sn;rw[jei qd,qZ]
theorem Hp{l:List (List Nat)}(h:Ts l)(hm:l.length<=256):mL (eS l) l.length=some l:=by
 unfold eS;split
 ·exact DQ h hm
 ·have:=Ho h hm []
  rwa[jeG]at this
theorem oT:∀{l:List (List Nat)},Ts l->l.flatten.length<=64*l.length/\Bs l.flatten
 | [],_=>⟨by simp,fun x hx=>by simp at hx⟩
 | s::t,h=>by
  obtain⟨h1,h2⟩:=oT (l:=t) fun x hx=>h x (jfB _ hx)
  obtain⟨h3,h4⟩:=h s (by simp);refine⟨?_,?_⟩
  ·rw[jfH,jem,jer]
   omega
  ·rw[jfH]
   exact h4.append h2
theorem sZ{l:List (List Nat)}(h:Ts l)(hm:l.length<=256):(fH l).length<=21525/\Bs (fH l):=by
 obtain⟨a1,a2⟩:=kn (ig h) (by rw[bM];exact hm);obtain⟨b1,b2⟩:=oT h;have nB:=bO (n:=(cV (em l)).length) (by omega);unfold fH cnt;refine⟨?_,Bs.append (Bs.append hO a2) b2⟩;simp only[jem];omega
theorem mM{l:List (List Nat)}(h:Ts l)(hm:l.length<=256):(eS l).length<=21526/\Bs (eS l):=by
 obtain⟨a1,a2⟩:=sZ h hm;have hp:(plain l).length<=21526:=by unfold plain;simp only[jer];omega
 unfold eS;split
 ·next aB =>
  refine⟨by omega,?_⟩;obtain⟨b1,b2⟩:=sZ (lG h) (jet (fO l) hm);obtain⟨c1,c2⟩:=kn (en hm) (by rw[bY];exact hm);intro x hx;unfold dt at hx;rcases jeC.1 hx with rfl | hx
  ·omega
  ·exact(Bs.append hO (Bs.append b2 c2)) x hx
 ·refine⟨hp,fun x hx=>?_⟩
  unfold plain at hx;rcases jeC.1 hx with rfl | hx
  ·omega
  ·exact a2 x hx
def gD(k:Nat)(c:Nat×Int×List Nat):Prop :=
 c=nul∨(k=1/\∃ n,c=(1,n,[])/\I64 n)∨(k=2/\∃ n:Nat,c=(2,(n:Int),[])/\n<2)∨(k=3/\∃ s,c=(3,0,s)/\s.length<=64/\Bs s)
def Col(k:Nat)(l:List (Nat×Int×List Nat)):Prop:=(1<=k/\k<=3)/\l.length<=256/\∀ c∈l,gD k c
def bP(l:List (Nat×Int×List Nat)):List Nat:=l.map fun c=>if c.1=0 then 0 else 1
def bV(l:List (Nat×Int×List Nat)):List (Nat×Int×List Nat):=l.filter fun c=>c.1 != 0
def dO(l:List (Nat×Int×List Nat)):List Nat:=if 0∈bP l then 1::bm (bP l) 1 else [0]
def gE(k:Nat)(l:List (Nat×Int×List Nat)):List Nat :=
 if k=1 then cV ((bV l).map fun c=>c.2.1) else if k=2 then bm ((bV l).map fun c=>c.2.1.toNat) 1 else eS ((bV l).map fun c=>c.2.2)
def ey(k:Nat)(l:List (Nat×Int×List Nat)):List Nat:=dO l++gE k l
def ij:List Nat->List (Nat×Int×List Nat)->List (Nat×Int×List Nat)
 | [],_=>[]
 | x::t,o=>if x=0 then nul::ij t o else o.headD nul::ij t o.tail
theorem br(l:List (Nat×Int×List Nat)):(bP l).length=l.length:=jen _
theorem oU:∀ l:List (Nat×Int×List Nat),(bP l).sum=(bV l).length
 | []=>rfl
 | c::t=>by
  have ih:=oU t;unfold bP bV at ih ⊢;by_cases h:c.1=0
  ·simp[h,ih]
  ·simp[h,ih]
   omega
theorem ik(l:List (Nat×Int×List Nat)):(bV l).length<=l.length:=jfV _ _
theorem qe{k:Nat}:∀{l:List (Nat×Int×List Nat)},(∀ c∈l,gD k c)->ij (bP l) (bV l)=l
 | [],_=>rfl
 | c::t,h=>by
  have ih:=qe (k:=k) (l:=t) fun x hx=>h x (jfB _ hx)
  have hc:=h c (by simp);unfold bP bV at ih ⊢;by_cases h0:c.1=0
  ·have e:c=nul:=by
    rcases hc with e | ⟨_,n,e,_⟩ | ⟨_,n,e,_⟩ | ⟨_,s,e,_⟩
    ·exact e
    ·rw[e]at h0;simp at h0
    ·rw[e]at h0;simp at h0
    ·rw[e]at h0;simp at h0
   subst e;simp[ij,nul]at ih ⊢
   exact ih
  ·simp[ij,h0]at ih ⊢
   exact ih
theorem jy{l:List (Nat×Int×List Nat)}{c:Nat×Int×List Nat}(h:c∈bV l):c∈l/\c.1≠0:=by
 unfold bV at h;have:=jf6.1 h;exact⟨this.1,by simpa using this.2⟩
theorem je{l:List (Nat×Int×List Nat)}(h:∀ c∈l,gD 1 c):Is ((bV l).map fun c=>c.2.1)/\((bV l).map fun c=>c.2.1).map (fun x=>((1,x,[]):Nat×Int×List Nat))=bV l:=by
 have key:∀ c∈bV l,∃ n,c=(1,n,[])/\I64 n:=fun c hc=>by
  obtain⟨h1,h2⟩:=jy hc;rcases h c h1 with e | ⟨_,n,e,hn⟩ | ⟨e,_⟩ | ⟨e,_⟩
  ·rw[e]at h2;exact absurd rfl h2
  ·exact⟨n,e,hn⟩
  ·omega
  ·omega
 refine⟨fun x hx=>?_,?_⟩
 ·obtain⟨c,hc,rfl⟩:=jeF.1 hx
  obtain⟨n,rfl,hn⟩:=key c hc;exact hn
 ·rw[jeW]
  conv=>rhs;rw[← jfj (bV l)]
  apply jff
  intro c hc;obtain⟨n,rfl,hn⟩:=key c hc;rfl
theorem fP{l:List (Nat×Int×List Nat)}(h:∀ c∈l,gD 2 c):(∀ x∈(bV l).map fun c=>c.2.1.toNat,x<2)/\((bV l).map fun c=>c.2.1.toNat).map (fun(x:Nat)=>((2,(x:Int),[]):Nat×Int×List Nat))=bV l:=by
 have key:∀ c∈bV l,∃ n:Nat,c=(2,(n:Int),[])/\n<2:=fun c hc=>by
  obtain⟨h1,h2⟩:=jy hc;rcases h c h1 with e | ⟨e,_⟩ | ⟨_,n,e,hn⟩ | ⟨e,_⟩
  ·rw[e]at h2;exact absurd rfl h2
  ·omega
  ·exact⟨n,e,hn⟩
  ·omega
 refine⟨fun x hx=>?_,?_⟩
 ·obtain⟨c,hc,rfl⟩:=jeF.1 hx
  obtain⟨n,rfl,hn⟩:=key c hc;simpa using hn
 ·rw[jeW]
  conv=>rhs;rw[← jfj (bV l)]
  apply jff
  intro c hc;obtain⟨n,rfl,hn⟩:=key c hc;rfl
theorem gR{l:List (Nat×Int×List Nat)}(h:∀ c∈l,gD 3 c):Ts ((bV l).map fun c=>c.2.2)/\((bV l).map fun c=>c.2.2).map (fun s=>((3,0,s):Nat×Int×List Nat))=bV l:=by
 have key:∀ c∈bV l,∃ s,c=(3,0,s)/\s.length<=64/\Bs s:=fun c hc=>by
  obtain⟨h1,h2⟩:=jy hc;rcases h c h1 with e | ⟨e,_⟩ | ⟨e,_⟩ | ⟨_,s,e,hs⟩
  ·rw[e]at h2;exact absurd rfl h2
  ·omega
  ·omega
  ·exact⟨s,e,hs⟩
 refine⟨fun x hx=>?_,?_⟩
 ·obtain⟨c,hc,rfl⟩:=jeF.1 hx
  obtain⟨n,rfl,hn⟩:=key c hc;exact hn
 ·rw[jeW]
  conv=>rhs;rw[← jfj (bV l)]
  apply jff
  intro c hc;obtain⟨n,rfl,hn⟩:=key c hc;rfl
def zL(b:List Nat)(n:Nat):Option (List Nat×List Nat) :=
 match b with
 | []=>none
 | x::t=>if x=0 then some (List.replicate n 1,t) else if x=1 then
   (if by8 n<=t.length/\unE (t.take (by8 n)) n 1=0 then some (unR (t.take (by8 n)) n 1,t.drop (by8 n)) else none) else none
def Hq(k:Nat)(b:List Nat)(n:Nat):Option (List (Nat×Int×List Nat)) :=
 if k=1 then (if (bw b n).2=0 then some ((bw b n).1.map fun x=>(1,x,[])) else none)
 else if k=2 then (if unE b n 1=0 then some ((unR b n 1).map fun(x:Nat)=>(2,(x:Int),[])) else none)
 else (mL b n).map fun l=>l.map fun s=>(3,0,s)
def Xq(k:Nat)(b:List Nat)(n:Nat):Option (List (Nat×Int×List Nat)) :=
 (zL b n).bind fun p=>(Hq k p.2 p.1.sum).map (ij p.1)
theorem DR{l:List Nat}(h:∀ x∈l,x<2)(hm:l.length<=256):can l ((1:Nat):Int)=true:=Hl hm (by omega) (qX.2 (by simpa using h))
theorem oV{l:List Nat}(h:∀ x∈l,x<2)(hm:l.length<=256):unE (bm l 1) l.length 1=0/\unR (bm l 1) l.length 1=l:=by
 have:=DI (DR h hm);rwa[show ((1:Nat):Int)=1 from rfl]at this
theorem eP{l:List Nat}(h:∀ x∈l,x<2)(hm:l.length<=256):(bm l 1).length=by8 l.length:=by
 have:=mJ (DR h hm);rwa[jfL]at this
theorem ee(l:List (Nat×Int×List Nat)):∀ x∈bP l,x<2:=fun x hx=>by
 obtain⟨c,_,rfl⟩:=jeF.1 hx;split<;>omega
theorem wW{l:List (Nat×Int×List Nat)}(h:¬ 0∈bP l):bP l=List.replicate l.length 1:=by
 rw[List.eq_replicate_iff];refine⟨br l,fun x hx=>?_⟩;have h1:=ee l x hx;have h2:x≠0:=fun e=>h (e ▸ hx)
 omega
theorem Nk{l:List (Nat×Int×List Nat)}(hm:l.length<=256)(r:List Nat):zL (dO l++r) l.length=some (bP l,r):=by
 unfold dO;split
 ·have hl:=eP (ee l) (by rw[br];exact hm)
  rw[br]at hl;have hb:=oV (ee l) (by rw[br];exact hm);rw[br]at hb;have ht:(bm (bP l) 1++r).take (by8 l.length)=bm (bP l) 1:=by rw[← hl,jfh]
  have hd:(bm (bP l) 1++r).drop (by8 l.length)=r:=by rw[← hl,je3]
  simp only[jfc,zL,show (1:Nat)≠0 from by omega,if_false,if_true,ht,hd];rw[jei]
  ·rw[hb.2]
  ·exact⟨by simp only[jem];omega,hb.1⟩
 ·next h =>
  rw[wW h];rfl
theorem Nl{k:Nat}{l:List (Nat×Int×List Nat)}(h:Col k l):Hq k (gE k l) (bV l).length=some (bV l):=by
 obtain⟨hk,hm,hc⟩:=h;have ho:=ik l;obtain rfl | rfl | rfl:k=1∨k=2∨k=3:=by omega
 ·obtain⟨h1,h2⟩:=je hc
  have hb:=km h1 (by rw[jen];omega);rw[jen]at hb;simp only[Hq,gE,if_true,hb];rw[h2]
 ·obtain⟨h1,h2⟩:=fP hc
  have hb:=oV h1 (by rw[jen];omega);rw[jen]at hb;simp only[Hq,gE,if_true,if_false,show (2:Nat)≠1 from by omega];rw[jei hb.1];rw[hb.2,h2]
 ·obtain⟨h1,h2⟩:=gR hc
  have hb:=Hp h1 (by rw[jen];omega);rw[jen]at hb;simp only[Hq,gE,if_false,show (3:Nat)≠1 from by omega,show (3:Nat)≠2 from by omega,hb,jfu];rw[h2]
theorem So{k:Nat}{l:List (Nat×Int×List Nat)}(h:Col k l):Xq k (ey k l) l.length=some l:=by
 unfold Xq ey;rw[Nk h.2.1,Option.bind_some];simp only;rw[oU,Nl h,jfu,qe h.2.2]
theorem ta{l:List (Nat×Int×List Nat)}(hm:l.length<=256):(dO l).length<=33/\Bs (dO l):=by
 unfold dO;split
 ·have hl:=eP (ee l) (by rw[br];exact hm)
  rw[br]at hl;refine⟨?_,fun x hx=>?_⟩
  ·rw[jer,hl]
   unfold by8;omega
  ·rcases jeC.1 hx with rfl | hx
   ·omega
   ·exact qY x hx
 ·exact⟨by simp,fun x hx=>by simp at hx;omega⟩
theorem wX(l:List (Nat×Int×List Nat)):gE 1 l=cV ((bV l).map fun c=>c.2.1):=jei rfl
theorem wY(l:List (Nat×Int×List Nat)):gE 2 l=bm ((bV l).map fun c=>c.2.1.toNat) 1:=(jeh (by omega)).trans (jei rfl)
theorem wZ(l:List (Nat×Int×List Nat)):gE 3 l=eS ((bV l).map fun c=>c.2.2):=(jeh (by omega)).trans (jeh (by omega))
theorem Nm{k:Nat}{l:List (Nat×Int×List Nat)}(h:Col k l):(gE k l).length<=21526/\Bs (gE k l):=by
 obtain⟨hk,hm,hc⟩:=h;have ho:=ik l;obtain rfl | rfl | rfl:k=1∨k=2∨k=3:=by omega
 ·obtain⟨b1,b2⟩:=kn (je hc).1 (by rw[jen];omega)
  rw[wX];exact⟨by omega,b2⟩
 ·have hl:=eP (fP hc).1 (by rw[jen];omega)
  rw[jen]at hl;rw[wY];refine⟨?_,qY⟩;rw[hl];unfold by8;omega
 ·have hw:=mM (gR hc).1 (by rw[jen];omega)
  rw[wZ];exact hw
theorem iB{k:Nat}{l:List (Nat×Int×List Nat)}(h:Col k l):(ey k l).length<=21600/\Bs (ey k l):=by
 obtain⟨a1,a2⟩:=ta h.2.1;obtain⟨b1,b2⟩:=Nm h;unfold ey;refine⟨?_,a2.append b2⟩;rw[jem];omega
theorem DS(l:List (Nat×Int×List Nat)):bV (bV l)=bV l:=by
 unfold bV;rw[List.filter_filter];simp
def DT(k:Nat)(c:Nat×Int×List Nat):Prop :=
 c=nul∨(k=1/\∃ n,c=(1,n,[])/\I64 n)∨(k=2/\∃ n:Nat,c=(2,(n:Int),[])/\n<2)∨(k=3/\∃ s,c=(3,0,s)/\Bs s)
theorem DT.short{k:Nat}{c:Nat×Int×List Nat}(h:DT k c)(hs:c.2.2.length<=64):gD k c:=by
 rcases h with h | h | h | ⟨h1,s,rfl,h2⟩
 ·exact Or.inl h
 ·exact Or.inr (Or.inl h)
 ·exact Or.inr (Or.inr (Or.inl h))
 ·exact Or.inr (Or.inr (Or.inr ⟨h1,s,rfl,hs,h2⟩))
theorem gD.short{k:Nat}{c:Nat×Int×List Nat}(h:gD k c):c.2.2.length<=64:=by
 rcases h with rfl | ⟨_,n,rfl,_⟩ | ⟨_,n,rfl,_⟩ | ⟨_,s,rfl,h,_⟩
 ·simp[nul]
 ·simp
 ·simp
 ·exact h
theorem jf{b:List Nat}{n:Int}(hb:Bs b)(h:(bw b n).2=0):((bw b n).1.length:Int)=n/\Is (bw b n).1:=by
 obtain⟨_,_,c,t,_,_,h1,h2,_⟩:=Ng hb (l:=(bw b n).1) (n:=n) (by rw[← h]);exact⟨h1,h2⟩
theorem DU{b r:List Nat}{n:Int}{l:List Int}(hb:Bs b)(h:Nh b n=some (l,r)):(l.length:Int)=n/\Is l/\Bs r:=by
 unfold Nh at h;split at h
 ·split at h
  ·next h1 =>
   simp only[Option.some.injEq,Prod.mk.injEq]at h;obtain⟨rfl,rfl⟩:=h;have:=jf ((hb.drop _).take _) h1;exact⟨this.1,this.2,hb.drop _⟩
  ·simp at h
 ·simp at h
theorem xd:∀{s:List Int} {b r:List Nat} {l:List (List Nat)},Bs b->DP b s=some (l,r)->l.length=s.length/\(∀ x∈l,Bs x)/\Bs r
 | [],b,r,l,hb,h=>by
  simp only[DP,Option.some.injEq,Prod.mk.injEq]at h;obtain⟨rfl,rfl⟩:=h;exact⟨rfl,fun x hx=>by simp at hx,hb⟩
 | x::t,b,r,l,hb,h=>by
  unfold DP at h;split at h
  ·simp at h
  ·obtain⟨⟨l2,r2⟩,h1,h2⟩:=Option.map_eq_some_iff.1 h
   simp only[Prod.mk.injEq]at h2;obtain⟨rfl,rfl⟩:=h2;obtain⟨a1,a2,a3⟩:=xd (hb.drop _) h1;refine⟨by simp only[jer,a1],fun y hy=>?_,a3⟩;rcases jeC.1 hy with rfl | hy
   ·exact hb.take _
   ·exact a2 y hy
theorem Hr{b:List Nat}{n:Nat}{l:List (List Nat)}(hb:Bs b)(h:mL b n=some l):l.length=n/\∀ x∈l,Bs x:=by
 cases b with
 | nil=>simp[mL]at h
 | cons x t =>
  have ht:Bs t:=fun y hy=>hb y (jfB _ hy)
  simp only[mL]at h;split at h
  ·obtain⟨⟨l2,r2⟩,h1,rfl⟩:=Option.map_eq_some_iff.1 h
   obtain⟨⟨s,r⟩,h2,h3⟩:=jgb.1 h1;obtain⟨a1,a2,a3⟩:=DU ht h2;obtain⟨b1,b2,b3⟩:=xd a3 h3;have b4:l2.length=s.length:=b1;exact⟨by show l2.length=n;omega,b2⟩
  ·split at h
   ·split at h
    ·obtain⟨⟨s,r⟩,h2,h3⟩:=jgb.1 h
     obtain⟨⟨u,r2⟩,h4,h5⟩:=jgb.1 h3;obtain⟨a1,a2,a3⟩:=DU (ht.drop _) h2;obtain⟨b1,b2,b3⟩:=xd a3 h4;simp only at h5;split at h5
     ·next h6 =>
      obtain⟨c1,c2⟩:=jf b3 h6;unfold Sn at h5;split at h5
      ·next h7 =>
       cases h5
       refine⟨by rw[jen];omega,fun x hx=>?_⟩;obtain⟨q,hq,rfl⟩:=jeF.1 hx;have nw:=h7 q hq;have aB:q.toNat<u.length:=(by omega);rw[List.getD_eq_getElem?_getD,List.getElem?_eq_getElem aB];exact b2 _ (jeo aB)
      ·simp at h5
     ·simp at h5
    ·simp at h
   ·simp at h
theorem ll{b:List Nat}{n:Nat}(h:unE b n 1=0):(unR b n 1).length=n/\∀ x∈unR b n 1,x<2:=by
 unfold unR;rw[jei h];refine⟨by rw[dU];simp,fun x hx=>?_⟩;have:=BD hx;simpa using this
theorem Nn{b r th:List Nat}{n:Nat}(hb:Bs b)(h:zL b n=some (th,r)):th.length=n/\(∀ x∈th,x<2)/\Bs r:=by
 cases b with
 | nil=>simp[zL]at h
 | cons x t =>
  have ht:Bs t:=fun y hy=>hb y (jfB _ hy)
  simp only[zL]at h;split at h
  ·simp only[Option.some.injEq,Prod.mk.injEq]at h
   obtain⟨rfl,rfl⟩:=h;exact⟨List.length_replicate,fun y hy=>by have:=jf5 hy;omega,ht⟩
  ·split at h
   ·split at h
    ·next h1 =>
     simp only[Option.some.injEq,Prod.mk.injEq]at h;obtain⟨rfl,rfl⟩:=h;have:=ll h1.2;exact⟨this.1,this.2,ht.drop _⟩
    ·simp at h
   ·simp at h
theorem Sp{k:Nat}{b:List Nat}{n:Nat}{o:List (Nat×Int×List Nat)}(hk:1<=k/\k<=3)(hb:Bs b)(h:Hq k b n=some o):o.length=n/\∀ c∈o,DT k c:=by
 unfold Hq at h;obtain rfl | rfl | rfl:k=1∨k=2∨k=3:=by omega
 ·rw[jei rfl]at h
  split at h
  ·next h1 =>
   cases h
   obtain⟨a1,a2⟩:=jf hb h1;refine⟨by rw[jen];omega,fun c hc=>?_⟩;obtain⟨x,hx,rfl⟩:=jeF.1 hc;exact Or.inr (Or.inl ⟨rfl,x,rfl,a2 x hx⟩)
  ·simp at h
 ·rw[jeh (by omega),jei rfl]at h
  split at h
  ·next h1 =>
   cases h
   obtain⟨a1,a2⟩:=ll h1;refine⟨by rw[jen];exact a1,fun c hc=>?_⟩;obtain⟨x,hx,rfl⟩:=jeF.1 hc;exact Or.inr (Or.inr (Or.inl ⟨rfl,x,rfl,a2 x hx⟩))
  ·simp at h
 ·rw[jeh (by omega),jeh (by omega)]at h
  obtain⟨l,h1,rfl⟩:=Option.map_eq_some_iff.1 h;obtain⟨a1,a2⟩:=Hr hb h1;refine⟨by rw[jen];exact a1,fun c hc=>?_⟩;obtain⟨x,hx,rfl⟩:=jeF.1 hc;exact Or.inr (Or.inr (Or.inr ⟨rfl,x,rfl,a2 x hx⟩))
theorem oW{P:Nat×Int×List Nat->Prop}(h0:P nul):∀{th:List Nat} {o:List (Nat×Int×List Nat)},(∀ c∈o,P c)->(ij th o).length=th.length/\∀ c∈ij th o,P c
 | [],o,h=>⟨rfl,fun c hc=>by simp[ij]at hc⟩
 | x::t,o,h=>by
  unfold ij;split
  ·obtain⟨a1,a2⟩:=oW h0 (th:=t) h
   refine⟨by simp only[jer,a1],fun c hc=>?_⟩;rcases jeC.1 hc with rfl | hc
   ·exact h0
   ·exact a2 c hc
  ·obtain⟨a1,a2⟩:=oW h0 (th:=t) (o:=o.tail) fun c hc=>h c (List.mem_of_mem_tail hc)
   refine⟨by simp only[jer,a1],fun c hc=>?_⟩;rcases jeC.1 hc with rfl | hc
   ·cases o with
    | nil=>exact h0
    | cons y s=>exact h y (by simp)
   ·exact a2 c hc
theorem Sq{k:Nat}{b:List Nat}{n:Nat}{l:List (Nat×Int×List Nat)}(hk:1<=k/\k<=3)(hb:Bs b)(h:Xq k b n=some l):l.length=n/\∀ c∈l,DT k c:=by
 obtain⟨⟨th,r⟩,h1,h2⟩:=jgb.1 h;obtain⟨o,h3,rfl⟩:=Option.map_eq_some_iff.1 h2;obtain⟨a1,a2,a3⟩:=Nn hb h1;obtain⟨b1,b2⟩:=Sp hk a3 h3;obtain⟨c1,c2⟩:=oW (P:=DT k) (Or.inl rfl) (th:=th) b2;exact⟨c1.trans a1,c2⟩
def gF(k:Nat)(b:List Nat)(n:Nat):Option (List (Nat×Int×List Nat)) :=
 (Xq k b n).bind fun l=>if (∀ c∈l,c.2.2.length<=64)/\ey k l=b then some l else none
theorem md{k:Nat}{b:List Nat}{n:Nat}{l:List (Nat×Int×List Nat)}(hk:1<=k/\k<=3)(hn:n<=256)(hb:Bs b):gF k b n=some l↔Col k l/\l.length=n/\ey k l=b:=by
 constructor
 ·intro h
  obtain⟨l2,h1,h2⟩:=jgb.1 h;split at h2
  ·next h3 =>
   cases h2
   obtain⟨a1,a2⟩:=Sq hk hb h1;exact⟨⟨hk,by omega,fun c hc=>(a2 c hc).short (h3.1 c hc)⟩,a1,h3.2⟩
  ·simp at h2
 ·rintro⟨h1,rfl,rfl⟩
  unfold gF;rw[So h1,Option.bind_some];simp only;rw[jei ⟨fun c hc=>(h1.2.2 c hc).short,trivial⟩]
theorem Hs{k:Nat}{l:List (Nat×Int×List Nat)}(h:Col k l):gF k (ey k l) l.length=some l :=
 (md h.1 h.2.1 (iB h).2).2 ⟨h,rfl,rfl⟩
def dZ(k:Nat)(l:List (Nat×Int×List Nat)):List Nat×Nat :=
 if 1<=k/\k<=3/\∀ c∈l,c.1=0∨c.1=k then
  (if l.length<=256/\∀ c∈l,c.2.2.length<=64 then (ey k l,0) else ([],5))
 else ([],10)
theorem gD.kind{k:Nat}{c:Nat×Int×List Nat}(h:gD k c):c.1=0∨c.1=k:=by
 rcases h with rfl | ⟨rfl,n,rfl,_⟩ | ⟨rfl,n,rfl,_⟩ | ⟨rfl,s,rfl,_⟩
 ·exact Or.inl rfl
 ·exact Or.inr rfl
 ·exact Or.inr rfl
 ·exact Or.inr rfl
theorem kx{k:Nat}{l:List (Nat×Int×List Nat)}(h:Col k l):dZ k l=(ey k l,0):=by
 unfold dZ;rw[jei ⟨h.1.1,h.1.2,fun c hc=>(h.2.2 c hc).kind⟩,jei ⟨h.2.1,fun c hc=>(h.2.2 c hc).short⟩]
end Go.Proofs.YtpljdjmpamjkhaaGreatDoor
