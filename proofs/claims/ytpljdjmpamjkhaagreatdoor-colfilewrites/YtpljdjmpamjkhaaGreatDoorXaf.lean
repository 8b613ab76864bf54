import Derived.Test.YtpljdjmpamjkhaaGreatDoorXad
set_option linter.unusedVariables false
set_option linter.unusedSimpArgs false
namespace Go.Proofs.YtpljdjmpamjkhaaGreatDoor
open Go.Lib
def pk(w:Nat):List Nat->Nat
 | []=>0
 | n::t=>n+2 ^ w*pk w t
def dig(w:Nat):Nat->Nat->List Nat
 | 0,_=>[]
 | n+1,N=>N % 2 ^ w::dig w n (N / 2 ^ w)
theorem dR(w:Nat):∀ n N,(dig w n N).length=n
 | 0,_=>rfl
 | n+1,N=>by simp[dig,dR w n]
theorem iu(w n:Nat):2 ^ (w*(n+1))=2 ^ w*2 ^ (w*n):=by
 rw[jeE,jeV,Nat.add_comm,jex]
theorem Re(w:Nat):∀ n N,pk w (dig w n N)=N % 2 ^ (w*n)
 | 0,N=>by simp[dig,pk,Nat.mod_one]
 | n+1,N=>by
  show N % 2 ^ w+2 ^ w*pk w (dig w n (N / 2 ^ w))=_
  rw[Re w n,iu,Nat.mod_mul]
theorem AF{w:Nat}:∀{l:List Nat},(∀ x∈l,x<2 ^ w)->dig w l.length (pk w l)=l
 | [],_=>rfl
 | n::t,h=>by
  have hn:=h n (by simp);show (n+2 ^ w*pk w t) % 2 ^ w::dig w t.length ((n+2 ^ w*pk w t) / 2 ^ w)=_
  rw[Nat.add_mul_mod_self_left,jen hn,Nat.add_mul_div_left _ _ (jep w),Nat.div_eq_of_lt hn,jdZ,
   AF (fun x hx=>h x (by simp[hx]))]
theorem CR{w:Nat}:∀{l:List Nat},(∀ x∈l,x<2 ^ w)->pk w l<2 ^ (w*l.length)
 | [],_=>by simp[pk]
 | n::t,h=>by
  have hn:=h n (by simp);have ht:=CR (w:=w) (l:=t) (fun x hx=>h x (by simp[hx]));show n+2 ^ w*pk w t<2 ^ (w*(t.length+1))
  rw[iu];have:2 ^ w*(pk w t+1)<=2 ^ w*2 ^ (w*t.length):=jey _ ht;rw[jeE,jeV]at this;omega
theorem AG(w:Nat):∀ n N i,i<n->(dig w n N)[i]?=some (N / 2 ^ (w*i) % 2 ^ w)
 | n+1,N,0,_=>by simp[dig]
 | n+1,N,i+1,h=>by
  show (dig w n (N / 2 ^ w))[i]?=_
  rw[AG w n _ i (by omega),jfm,iu]
theorem AH{w x:Nat}:∀{n N},x∈dig w n N->x<2 ^ w
 | n+1,N,h=>by
  simp only[dig,jdN]at h;rcases h with rfl | h
  ·exact Nat.mod_lt _ (jep w)
  ·exact AH h
theorem su(w:Nat):∀(a b:List Nat),pk w (a++b)=pk w a+2 ^ (w*a.length)*pk w b
 | [],b=>by simp[pk]
 | n::t,b=>by
  show n+2 ^ w*pk w (t++b)=n+2 ^ w*pk w t+2 ^ (w*(t.length+1))*pk w b
  rw[su w t,iu,jeE,jeK,jeD]
theorem qD(w:Nat){l:List Nat}{i:Nat}(h:i<l.length):pk w (l.take (i+1))=pk w (l.take i)+l[i]*2 ^ (w*i):=by
 rw[jdM h,su,jdC,jew (by omega)];simp[pk,jd4]
theorem Rf(w:Nat):∀{l:List Nat} {i:Nat} (c:Nat) (h:i<l.length),pk w (l.set i c)+l[i]*2 ^ (w*i)=pk w l+c*2 ^ (w*i)
 | n::t,0,c,_=>by simp[pk];omega
 | n::t,i+1,c,h=>by
  have hi:i<t.length:=by simpa using h
  show n+2 ^ w*pk w (t.set i c)+t[i]*2 ^ (w*(i+1))=n+2 ^ w*pk w t+c*2 ^ (w*(i+1))
  have:=jdB (2 ^ w*·) (Rf w (l:=t) (i:=i) c hi);simp only[jeE]at this;rw[iu,← jeK,← jeK,jd4 t[i],jd4 c,jeK,jeK];omega
theorem Rg{w:Nat}{l:List Nat}(h:∀ x∈l,x<2 ^ w){i:Nat}(hi:i<l.length):l[i]=pk w l / 2 ^ (w*i) % 2 ^ w:=by
 have h1:=AG w l.length (pk w l) i hi;rw[AF h,List.getElem?_eq_getElem hi]at h1;exact Option.some.inj h1
theorem CT(w:Nat):∀ n,pk w (List.replicate n 0)=0
 | 0=>rfl
 | n+1=>by
  show 0+2 ^ w*pk w (List.replicate n 0)=0
  rw[CT w n];simp
theorem Rh(w:Nat)(l:List Nat):pk w (l++[0])=pk w l:=by rw[su];simp[pk]
def cV(n:Nat):Nat:=if n=0 then 0 else n.log2+1
theorem eK{n w:Nat}:cV n<=w↔n<2 ^ w:=by
 unfold cV;split
 ·next h=>subst h;simp[jep]
 ·next h=>rw[Nat.add_one_le_iff,Nat.log2_lt h]
theorem Mu{n:Nat}(h:n≠0):cV n=cV (n / 2)+1:=by
 have e:∀ k,cV (n / 2)<=k↔cV n<=k+1:=fun k=>by
  rw[eK,eK,Nat.pow_succ,Nat.div_lt_iff_lt_mul (by omega)]
 have h1:=(e (cV (n / 2))).1 (jdw _);have hp:0<cV n:=by unfold cV;rw[jdt h];omega
 have h2:=(e (cV n-1)).2 (by omega);omega
theorem Ws(a b:Nat):cV (a ||| b)=max (cV a) (cV b):=by
 have e:∀ k,cV (a ||| b)<=k↔cV a<=k/\cV b<=k:=fun k=>by
  rw[eK,eK,eK];constructor
  ·intro h
   exact⟨jfe Nat.left_le_or h,jfe Nat.right_le_or h⟩
  ·intro h
   exact Nat.or_lt_two_pow h.1 h.2
 have h1:=(e _).1 (jdw _);have h2:=(e (max (cV a) (cV b))).2 ⟨by omega,by omega⟩;omega
def qE(l:List Nat):Nat:=l.foldl (· ||| ·) 0
theorem mW{l:List Nat}{i:Nat}(h:i<l.length):qE (l.take (i+1))=qE (l.take i) ||| l[i]:=by
 unfold qE;rw[jdM h,List.foldl_append];rfl
def wd(l:List Nat):Nat:=cV (qE l)
theorem qF{l:List Nat}{i:Nat}(h:i<l.length):wd (l.take (i+1))=max (wd (l.take i)) (cV l[i]):=by
 unfold wd;rw[mW h,Ws]
theorem Ri:wd []=0:=by decide
theorem vL{l:List Nat}{w:Nat}:∀ i,i<=l.length->(wd (l.take i)<=w↔∀ x∈l.take i,x<2 ^ w)
 | 0,_=>by simp[Ri]
 | i+1,h=>by
  rw[qF (by omega),jdM (by omega)];simp only[jd2,jef];have ih:=vL (l:=l) (w:=w) i (by omega);constructor
  ·intro h1 x hx
   rcases hx with hx | rfl
   ·exact ih.1 (by omega) x hx
   ·exact eK.1 (by omega)
  ·intro h1
   have h2:=ih.2 (fun x hx=>h1 x (Or.inl hx));have h3:=eK.2 (h1 _ (Or.inr rfl));omega
theorem qG{l:List Nat}{w:Nat}:wd l<=w↔∀ x∈l,x<2 ^ w:=by
 have:=vL (l:=l) (w:=w) l.length (jdw _);rwa[jdE]at this
theorem Gy{l:List Nat}(h:∀ x∈l,x<18446744073709551616):wd l<=64:=qG.2 h
theorem or64{l:List Nat}(h:∀ x∈l,x<18446744073709551616)(i:Nat):qE (l.take i)<18446744073709551616:=by
 have h1:wd (l.take i)<=64:=Gy (fun x hx=>h x (jek hx));exact eK.1 h1
def by8(c:Nat):Nat:=(c+7) / 8
def can(l:List Nat)(w:Int):Bool:=decide (0<=w/\w<=64/\l.length<=256/\wd l<=w.toNat)
def bi(l:List Nat)(w:Int):List Nat:=if can l w then dig 8 (by8 (l.length*w.toNat)) (pk w.toNat l) else []
def unE(b:List Nat)(n w:Int):Nat :=
 if 0<=n/\n<=256/\0<=w/\w<=64 then (if b.length=by8 (n.toNat*w.toNat)/\pk 8 b<2 ^ (n.toNat*w.toNat) then 0 else 40) else 1
def unR(b:List Nat)(n w:Int):List Nat:=if unE b n w=0 then dig w.toNat n.toNat (pk 8 b) else []
theorem jaj{b:List Nat}{n w:Int}:∀ x∈unR b n w,x<18446744073709551616:=by
 intro x hx;unfold unR at hx;split at hx
 ·next h =>
  have h1:=AH hx
  have hw:w.toNat<=64:=by
   unfold unE at h;split at h
   ·omega
   ·omega
  exact jdS h1 (jeL (by omega) hw)
 ·simp at hx
theorem qH{l:List Nat}{w:Int}:∀ x∈bi l w,x<256:=by
 intro x hx;unfold bi at hx;split at hx
 ·exact AH hx
 ·simp at hx
theorem Gz(c:Nat):c<=8*by8 c:=by unfold by8;omega
theorem CU{l:List Nat}{w:Nat}(h:can l w=true):unE (bi l w) l.length w=0/\unR (bi l w) l.length w=l:=by
 have hc:=h;unfold can at hc;simp only[jei,jd1]at hc;obtain⟨_,kM,hl,hw⟩:=hc;have aB:=qG.1 hw;have XW:=CR aB;have hP:bi l w=dig 8 (by8 (l.length*w)) (pk w l):=by unfold bi;rw[jdu h];rfl
 have hB:pk 8 (bi l w)=pk w l:=by
  rw[hP,Re,jen];refine jdS XW (jeL (by omega) ?_);have:=Gz (l.length*w);rw[jd4 w];exact this
 have hE:unE (bi l w) l.length w=0:=by
  unfold unE;rw[jdu ⟨by omega,by omega,by omega,by omega⟩,jdu];simp only[jd1];exact⟨by rw[hP,dR],by rw[hB,jd4];exact XW⟩
 refine⟨hE,?_⟩;unfold unR;rw[jdu hE,hB];simp only[jd1];exact AF aB
def w64(x:Int):Int:=(x+9223372036854775808) % 18446744073709551616-9223372036854775808
theorem je(x:Int):I64 (w64 x):=by unfold w64 I64;omega
theorem Rj{x:Int}(h:I64 x):w64 x=x:=by unfold I64 at h;unfold w64;omega
theorem Rk{x last:Int}(h:I64 x):w64 (last+w64 (x-last))=x:=by unfold I64 at h;unfold w64;omega
def gy:List Int->List Nat
 | []=>[]
 | x::t=>wv x++gy t
def rd0:Nat->List Nat->Except Nat (List Int×List Nat)
 | 0,b=>.ok ([],b)
 | n+1,b=>aC wh (fun x=>aC (rd0 n) (fun l r=>.ok (x::l,r))) b
theorem Rl:∀{l:List Int},(∀ x∈l,I64 x)->eb (rd0 l.length) (gy l) l
 | [],_=>eb.pure []
 | x::t,h=>by
  have ht:=Rl (l:=t) (fun y hy=>h y (by simp[hy]));exact(lM (h x (by simp))).bind (f:=fun x=>aC (rd0 t.length) (fun l r=>.ok (x::l,r))) (ht.map (x::·))
def iI:Int->List Int->List Nat
 | _,[]=>[]
 | last,x::t=>wv (w64 (x-last))++iI x t
def rd1:Nat->Int->List Nat->Except Nat (List Int×List Nat)
 | 0,_,b=>.ok ([],b)
 | n+1,last,b=>aC wh (fun d=>aC (rd1 n (w64 (last+d))) (fun l r=>.ok (w64 (last+d)::l,r))) b
theorem Rm:∀{l:List Int} (last:Int),(∀ x∈l,I64 x)->eb (rd1 l.length last) (iI last l) l
 | [],_,_=>eb.pure []
 | x::t,last,h=>by
  have hx:=h x (by simp);have ht:=Rm (l:=t) x (fun y hy=>h y (by simp[hy]));refine(lM (je (x-last))).bind (f:=fun d=>aC (rd1 t.length (w64 (last+d))) (fun l r=>.ok (w64 (last+d)::l,r))) ?_;simp only[Rk hx];exact ht.map (x::·)
def fJ:Int->Nat->List Int->List Nat
 | x,c,[]=>wv x++uv c
 | x,c,y::t=>if y=x then fJ x (c+1) t else wv x++uv c++fJ y 1 t
def iv:List Int->List Nat
 | []=>[]
 | x::t=>fJ x 1 t
def rd2:Nat->Nat->List Nat->Except Nat (List Int×List Nat)
 | 0,_,b=>.ok ([],b)
 | f+1,n,b=>if n=0 then .ok ([],b) else aC wh (fun x=>aC num (fun k=>if k=0∨n<k then (fun _=>.error 40) else aC (rd2 f (n-k)) (fun l r=>.ok (List.replicate k x++l,r)))) b
theorem CV(f:Nat)(b:List Nat):rd2 f 0 b=.ok ([],b):=by
 cases f with
 | zero=>rfl
 | succ f=>unfold rd2;rw[jdu rfl]
theorem AJ:∀{t:List Int} {x:Int} {c f:Nat},(∀ y∈t,I64 y)->I64 x->1<=c->c+t.length<=1000000->t.length+1<=f ->
  eb (rd2 f (c+t.length)) (fJ x c t) (List.replicate c x++t)
 | [],x,c,f,_,hx,hc,hm,hf=>by
  obtain⟨f,rfl⟩:∃ g,f=g+1:=⟨f-1,by simp at hf;omega⟩
  have h1:eb (fun b=>aC wh (fun x=>aC num (fun k=>if k=0∨c<k then (fun _=>.error 40) else aC (rd2 f (c-k)) (fun l r=>.ok (List.replicate k x++l,r)))) b) (wv x++uv c) (List.replicate c x++[]):=by
   refine(lM hx).bind ?_
   have h2:=(lL (n:=c) (by simp at hm;omega)).bind (f:=fun k=>if k=0∨c<k then (fun _=>.error 40) else aC (rd2 f (c-k)) (fun l r=>.ok (List.replicate k x++l,r))) (e':=[]) (y:=List.replicate c x++[])
    (by
     rw[jdt (by omega),jeW];have h3:eb (rd2 f 0) [] []:=⟨fun r=>CV f _,fun k h=>by simp at h⟩;exact h3.map (List.replicate c x++·))
   rwa[jdT]at h2
  have e:rd2 (f+1) (c+([]:List Int).length)=(fun b=>aC wh (fun x=>aC num (fun k=>if k=0∨c<k then (fun _=>.error 40) else aC (rd2 f (c-k)) (fun l r=>.ok (List.replicate k x++l,r)))) b):=by
   funext b
   show (if c=0 then _ else _)=_
   rw[jdt (by omega)];rfl
  rw[e];exact h1
 | y::t,x,c,f,ht,hx,hc,hm,hf=>by
  by_cases Cn:y=x
  ·subst Cn
   have:=AJ (t:=t) (x:=y) (c:=c+1) (f:=f) (fun z hz=>ht z (by simp[hz])) hx (by omega) (by simp at hm;omega) (by simp at hf;omega);rw[show fJ y c (y::t)=fJ y (c+1) t by rw[fJ,jdu rfl],show c+(y::t).length=c+1+t.length by simp;omega];rw[show List.replicate c y++y::t=List.replicate (c+1) y++t by rw[List.replicate_succ'];simp];exact this
  ·obtain⟨f,rfl⟩:∃ g,f=g+1:=⟨f-1,by simp at hf;omega⟩
   have ih:=AJ (t:=t) (x:=y) (c:=1) (f:=f) (fun z hz=>ht z (by simp[hz])) (ht y (by simp)) (by omega) (by simp at hm;omega) (by simp at hf;omega);rw[show fJ x c (y::t)=wv x++uv c++fJ y 1 t by rw[fJ,jdt Cn],jdL]
   have e:rd2 (f+1) (c+(y::t).length)=(fun b=>aC wh (fun x=>aC num (fun k=>if k=0∨c+(y::t).length<k then (fun _=>.error 40) else aC (rd2 f (c+(y::t).length-k)) (fun l r=>.ok (List.replicate k x++l,r)))) b):=by
    funext b
    rw[rd2,jdt (by omega)]
   rw[e];refine(lM hx).bind ?_;refine(lL (n:=c) (by omega)).bind ?_;rw[jdt (by omega),show c+(y::t).length-c=1+t.length by simp;omega];exact ih.map (List.replicate c x++·)
theorem jak{l:List Int}(h:∀ x∈l,I64 x)(hm:l.length<=1000000):eb (rd2 l.length l.length) (iv l) l:=by
 cases l with
 | nil=>exact eb.pure []
 | cons x t =>
  have:=AJ (t:=t) (x:=x) (c:=1) (f:=(x::t).length) (fun z hz=>h z (by simp[hz])) (h x (by simp)) (by omega) (by simp at hm;omega) (by simp);rw[show 1+t.length=(x::t).length by simp;omega]at this;exact this
def ins(x:Int):List Int->List Int
 | []=>[x]
 | y::t=>if x=y then y::t else if x<y then x::y::t else y::ins x t
def cH(l:List Int):List Int:=l.foldl (fun u x=>ins x u) []
def dS(l:List Int):Prop:=l.Pairwise (· < ·)
theorem AK{x z:Int}:∀{u:List Int},z∈ins x u↔z=x∨z∈u
 | []=>by simp[ins]
 | y::t=>by
  have ih:=AK (x:=x) (z:=z) (u:=t);unfold ins;split
  ·next h =>
   subst h;simp
  ·split
   ·simp
   ·simp only[jdN,ih]
    constructor
    ·rintro(h | h | h)
     ·exact Or.inr (Or.inl h)
     ·exact Or.inl h
     ·exact Or.inr (Or.inr h)
    ·rintro(h | h | h)
     ·exact Or.inr (Or.inl h)
     ·exact Or.inl h
     ·exact Or.inr (Or.inr h)
theorem vM{x:Int}:∀{u:List Int},dS u->dS (ins x u)
 | [],_=>by simp[ins,dS]
 | y::t,h=>by
  have h1:(∀ z∈t,y<z)/\dS t:=jez.1 h;unfold ins;split
  ·exact h
  ·next fF =>
   split
   ·next aB =>
    refine jez.2 ⟨fun z hz=>?_,h⟩;rcases jdN.1 hz with rfl | hz
    ·exact aB
    ·exact Int.lt_trans aB (h1.1 z hz)
   ·next aB =>
    refine jez.2 ⟨fun z hz=>?_,vM h1.2⟩;rcases AK.1 hz with rfl | hz
    ·omega
    ·exact h1.1 z hz
theorem vN{l:List Int}{i:Nat}(h:i<l.length):cH (l.take (i+1))=ins l[i] (cH (l.take i)):=by
 unfold cH;rw[jdM h,List.foldl_append];rfl
theorem sw:∀(l u:List Int),dS u->dS (l.foldl (fun u x=>ins x u) u)/\∀ z,z∈l.foldl (fun u x=>ins x u) u↔z∈u∨z∈l
 | [],u,h=>⟨h,fun z=>by simp⟩
 | x::t,u,h=>by
  obtain⟨h1,h2⟩:=sw t (ins x u) (vM h);refine⟨h1,fun z=>?_⟩;have:=h2 z;rw[AK]at this;simp only[List.foldl_cons,jdN];rw[this];constructor
  ·rintro((h | h) | h)
   ·exact Or.inr (Or.inl h)
   ·exact Or.inl h
   ·exact Or.inr (Or.inr h)
  ·rintro(h | h | h)
   ·exact Or.inl (Or.inr h)
   ·exact Or.inl (Or.inl h)
   ·exact Or.inr h
theorem gW(l:List Int):dS (cH l):=(sw l [] List.Pairwise.nil).1
theorem gz{l:List Int}{z:Int}:z∈cH l↔z∈l:=by
 have:=(sw l [] List.Pairwise.nil).2 z;unfold cH;rw[this];simp
theorem pN{x:Int}:∀{u:List Int},(ins x u).length<=u.length+1
 | []=>by simp[ins]
 | y::t=>by
  have:=pN (x:=x) (u:=t);unfold ins;split
  ·simp
  ·split
   ·simp
   ·simp;omega
theorem lO:∀(l u:List Int),(l.foldl (fun u x=>ins x u) u).length<=u.length+l.length
 | [],u=>by simp
 | x::t,u=>by
  have h1:=lO t (ins x u);have h2:=pN (x:=x) (u:=u);simp only[List.foldl_cons,jdD];omega
theorem fK(l:List Int):(cH l).length<=l.length:=by
 have:=lO l [];unfold cH;simpa using this
theorem nE{l:List Int}(h:0<l.length):0<(cH l).length:=by
 have:l[0]∈cH l:=gz.2 (jdA h);exact List.length_pos_of_mem this
theorem lP{l:List Int}(h:∀ x∈l,I64 x):∀ x∈cH l,I64 x:=fun x hx=>h x (gz.1 hx)
def pl:List Int->Int->Nat
 | [],_=>0
 | y::t,x=>if y=x then 0 else pl t x+1
theorem vO{x:Int}:∀{u:List Int},x∈u->pl u x<u.length/\u[pl u x]?=some x
 | y::t,h=>by
  unfold pl;split
  ·next e=>subst e;simp
  ·next fF =>
   have ht:x∈t:=by
    rcases jdN.1 h with rfl | h
    ·exact absurd rfl fF
    ·exact h
   obtain⟨h1,h2⟩:=vO ht;simp only[jdD,List.getElem?_cons_succ];exact⟨by omega,h2⟩
theorem YV:∀{u:List Int} {i:Nat} (h:i<u.length),dS u->pl u u[i]=i
 | y::t,0,_,_=>by simp[pl]
 | y::t,i+1,h,hr=>by
  have hi:i<t.length:=by simpa using h
  have h1:(∀ z∈t,y<z)/\dS t:=jez.1 hr;have h2:=h1.1 t[i] (jdA hi);show pl (y::t) t[i]=i+1
  unfold pl;rw[jdt (by omega),YV hi h1.2]
def places(l:List Int):List Nat:=l.map (pl (cH l))
theorem lx(l:List Int):(places l).length=l.length:=jdz _
theorem ow{l:List Int}:∀ p∈places l,p<(cH l).length:=by
 intro p hp;obtain⟨x,hx,rfl⟩:=jdR.1 hp;exact(vO (gz.2 hx)).1
theorem GA{l:List Int}(h:0<l.length):(cH l).length-1∈places l:=by
 have hu:=nE h;have hi:(cH l).length-1<(cH l).length:=by omega
 refine jdR.2 ⟨(cH l)[(cH l).length-1],gz.1 (jdA hi),?_⟩;exact YV hi (gW l)
theorem yW{l:List Int}(h:0<l.length):wd (places l)=cV ((cH l).length-1):=by
 have hu:=nE h
 have e:∀ w,wd (places l)<=w↔cV ((cH l).length-1)<=w:=fun w=>by
  rw[qG,eK];constructor
  ·intro h1
   exact h1 _ (GA h)
  ·intro h1 p hp
   have:=ow p hp;omega
 have h1:=(e _).1 (jdw _);have h2:=(e _).2 (jdw _);omega
theorem CW(l:List Int):(places l).map (fun q=>(cH l).getD q 0)=l:=by
 unfold places;rw[jd8];conv=>rhs;rw[← jev l]
 apply jeq
 intro x hx;have:=(vO (gz.2 hx)).2;simp[List.getD_eq_getElem?_getD,this]
def gX(l:List Int):Int:=(cH l).headD 0
theorem gY{l:List Int}(h:0<l.length):gX l∈l:=by
 have hu:=nE h;unfold gX;cases hq:cH l with
 | nil=>rw[hq]at hu;simp at hu
 | cons y t =>
  have:y∈cH l:=by rw[hq];simp
  exact gz.1 this
theorem nF{l:List Int}:∀ x∈l,gX l<=x:=by
 intro x hx;have h1:=gz.2 hx;have h2:=gW l;unfold gX;cases hq:cH l with
 | nil=>rw[hq]at h1;simp at h1
 | cons y t =>
  rw[hq]at h1 h2;have h3:(∀ z∈t,y<z)/\dS t:=jez.1 h2;rcases jdN.1 h1 with rfl | h1
  ·exact Int.le_refl _
  ·exact Int.le_of_lt (h3.1 x h1)
def di(l:List Int):List Nat:=l.map fun x=>(x-gX l).toNat
theorem fX(l:List Int):(di l).length=l.length:=jdz _
theorem lQ{l:List Int}(h:∀ x∈l,I64 x):∀ p∈di l,p<18446744073709551616:=by
 intro p hp;obtain⟨x,hx,rfl⟩:=jdR.1 hp;have h1:=h x hx;have h2:=h _ (gY (List.length_pos_of_mem hx));have h3:=nF x hx;unfold I64 at h1 h2;omega
theorem GB{l:List Int}(h:∀ x∈l,I64 x):(di l).map (fun(q:Nat)=>w64 (gX l+(q:Int)))=l:=by
 unfold di;rw[jd8];conv=>rhs;rw[← jev l]
 apply jeq
 intro x hx;have h1:=h x hx;have h3:=nF x hx;simp only[Function.comp,id];rw[show gX l+((x-gX l).toNat:Int)=x by omega];exact Rj h1
def pkd(n w:Nat)(b:List Nat):Except Nat (List Nat×List Nat) :=
 if b.length<by8 (n*w) then .error 30
 else if by8 (n*w)<b.length then .error 32
 else if unE b n w=0 then .ok (unR b n w,[]) else .error (unE b n w)
theorem GC{p:List Nat}{w:Nat}(hl:p.length<=256)(hw:w<=64)(hp:wd p<=w):can p w=true:=by
 unfold can;exact jdO ⟨by omega,by omega,hl,by omega⟩
theorem mC{p:List Nat}{w:Nat}(h:can p w=true):(bi p w).length=by8 (p.length*w):=by
 unfold bi;rw[jdu h,dR];rfl
theorem CX{p:List Nat}{w:Nat}(hl:p.length<=256)(hw:w<=64)(hp:wd p<=w):qC (pkd p.length w) (bi p w) p:=by
 have lC:=GC hl hw hp;have bR:=mC lC;obtain⟨h1,h2⟩:=CU lC;refine⟨?_,fun y r=>Or.inl ?_,fun k hk=>?_⟩
 ·unfold pkd
  rw[jdt (by omega),jdt (by omega),jdu h1,h2]
 ·unfold pkd
  rw[jdt (by simp;omega),jdu (by simp;omega)]
 ·unfold pkd
  rw[jdu (by rw[jdC];omega)]
def pO:Int->List Int->List Nat
 | _,[]=>[]
 | last,y::t=>uv (y-last).toNat++pO y t
def il:List Int->List Nat
 | []=>[]
 | x::t=>wv x++pO x t
def rdU:Nat->Int->List Nat->Except Nat (List Int×List Nat)
 | 0,_,b=>.ok ([],b)
 | m+1,last,b=>aC num (fun(d:Nat)=>if d=0∨9223372036854775807-last<(d:Int) then (fun _=>.error 40) else aC (rdU m (last+d)) (fun l r=>.ok ((last+d)::l,r))) b
theorem Rn:∀{t:List Int} {last:Int},dS (last::t)->I64 last->(∀ x∈t,I64 x)->eb (rdU t.length last) (pO last t) t
 | [],_,_,_,_=>eb.pure []
 | y::t,last,hr,hl,ht=>by
  have h1:(∀ z∈y::t,last<z)/\dS (y::t):=jez.1 hr;have hy:=h1.1 y (by simp);have hyi:=ht y (by simp);have ih:=Rn (t:=t) (last:=y) h1.2 hyi (fun x hx=>ht x (by simp[hx]));unfold I64 at hl hyi;refine(lL (n:=(y-last).toNat) (by omega)).bind (f:=fun(d:Nat)=>if d=0∨9223372036854775807-last<(d:Int) then (fun _=>.error 40) else aC (rdU t.length (last+d)) (fun l r=>.ok ((last+d)::l,r))) ?_;rw[jdt (by omega),show last+((y-last).toNat:Int)=y by omega];exact ih.map (y::·)
def pP(l:List Int):List Nat:=uv (cH l).length++(il (cH l)++bi (places l) (wd (places l):Int))
def picked(u:List Int)(p r:List Nat):Except Nat (List Int×List Nat):=if ∀ q∈p,q<u.length then .ok (p.map (fun q=>u.getD q 0),r) else .error 40
def rd3(n:Nat)(b:List Nat):Except Nat (List Int×List Nat) :=
 aC num (fun many=>if n<many∨many=0/\0<n then (fun _=>.error 40) else if n=0 then (fun r=>.ok ([],r)) else
  aC wh (fun x=>aC (rdU (many-1) x) (fun u=>aC (pkd n (cV (many-1))) (fun p r=>picked (x::u) p r)))) b
theorem qC.picked{d:List Nat->Except Nat (List Nat×List Nat)}{e p:List Nat}{u:List Int}(h:qC d e p)(hp:∀ q∈p,q<u.length):qC (aC d (picked u)) e (p.map fun q=>u.getD q 0):=by
 have hk:∀ r,YtpljdjmpamjkhaaGreatDoor.picked u p r=.ok (p.map (fun q=>u.getD q 0),r):=fun r=>by unfold YtpljdjmpamjkhaaGreatDoor.picked;rw[jdu hp]
 refine⟨by rw[cZ h.1,hk],fun y r=>?_,fun k hk=>cE (h.2.2 k hk)⟩;rcases h.2.1 y r with h1 | h1
 ·exact Or.inl (cE h1)
 ·exact Or.inr (by rw[cZ h1,hk])
theorem CY{l:List Int}(hm:l.length<=256):wd (places l)<=64:=by
 refine qG.2 (fun p hp=>?_);have:=ow p hp;have:=fK l;have:p<256:=by omega
 exact jdS this (by decide)
theorem ends3{l:List Int}(h:∀ x∈l,I64 x)(hm:l.length<=256):qC (rd3 l.length) (pP l) l:=by
 have uE:=fK l;have kN:=lx l;have hwp:=CY hm;have UA:=lL (n:=(cH l).length) (by omega);refine UA.then ?_
 rcases jel l.length with h0 | h0
 ·obtain rfl:l=[]:=jdV h0
  rw[jdt (by simp[cH]),jdu (show ([]:List Int).length=0 from rfl)]
  have e:il (cH [])++bi (places []) (wd (places []):Int)=[]:=by
   have:bi (places []) (wd (places []):Int)=[]:=by
    have hc:=GC (p:=places []) (w:=wd (places [])) (by simp[places]) hwp (jdw _);have h1:=mC hc;refine jdV (h1.trans ?_);simp[places,by8]
   rw[this];simp[cH,il]
  rw[e];exact(eb.pure []).ends
 ·have hup:=nE h0
  rw[jdt (by omega),jdt (by omega)];have hr:=gW l;have hi:=lP h;have hb:=CW l;have aB:=ow (l:=l);have LJ:=yW h0;generalize places l=p at *;cases hu:cH l with
  | nil=>rw[hu]at hup;simp at hup
  | cons x t =>
   rw[hu]at hr hi hb aB LJ;have xB:=CX (p:=p) (w:=wd p) (by omega) hwp (jdw _);rw[kN]at xB;rw[show il (x::t)=wv x++pO x t from rfl,jdL];refine(lM (hi x (by simp))).then ?_
   refine(Rn hr (hi x (by simp)) (fun z hz=>hi z (by simp[hz]))).then (f:=fun u=>aC (pkd l.length (cV ((x::t).length-1))) (fun p r=>picked (x::u) p r)) ?_
   rw[← LJ];have:=xB.picked (u:=x::t) aB;rw[hb]at this;exact this
def lR(l:List Int):List Nat:=if l.length=0 then [] else wv (gX l)++(uv (wd (di l))++bi (di l) (wd (di l):Int))
def rd4(n:Nat)(b:List Nat):Except Nat (List Int×List Nat) :=
 if n=0 then .ok ([],b) else
  aC wh (fun x=>aC num (fun w=>if 64<w then (fun _=>.error 40) else aC (pkd n w) (fun p r=>.ok (p.map (fun(q:Nat)=>w64 (x+(q:Int))),r)))) b
theorem ends4{l:List Int}(h:∀ x∈l,I64 x)(hm:l.length<=256):qC (rd4 l.length) (lR l) l:=by
 rcases jel l.length with h0 | h0
 ·obtain rfl:l=[]:=jdV h0
  exact(eb.pure ([]:List Int)).ends
 ·have hml:=fX l
  have hw:=Gy (lQ h);have xB:=CX (p:=di l) (w:=wd (di l)) (by omega) hw (jdw _);rw[hml]at xB;have lq:=xB.map (fun p=>p.map (fun(q:Nat)=>w64 (gX l+(q:Int))));rw[GB h]at lq
  have UA:qC (aC num (fun w=>if 64<w then (fun _=>.error 40) else aC (pkd l.length w) (fun p r=>.ok (p.map (fun(q:Nat)=>w64 (gX l+(q:Int))),r)))) (uv (wd (di l))++bi (di l) (wd (di l):Int)) l:=by
   refine(lL (n:=wd (di l)) (by omega)).then ?_
   rw[jdt (by omega)];exact lq
  have cX:=(lM (h _ (gY h0))).then (f:=fun x=>aC num (fun w=>if 64<w then (fun _=>.error 40) else aC (pkd l.length w) (fun p r=>.ok (p.map (fun(q:Nat)=>w64 (x+(q:Int))),r)))) UA
  have e1:lR l=wv (gX l)++(uv (wd (di l))++bi (di l) (wd (di l):Int)):=by unfold lR;rw[jdt (by omega)]
  have e2:rd4 l.length=aC wh (fun x=>aC num (fun w=>if 64<w then (fun _=>.error 40) else aC (pkd l.length w) (fun p r=>.ok (p.map (fun(q:Nat)=>w64 (x+(q:Int))),r)))):=by
   funext b
   unfold rd4;rw[jdt (by omega)]
  rw[e1,e2];exact cX
def im(c:Nat)(l:List Int):List Nat :=
 match c with
 | 0=>gy l
 | 1=>iI 0 l
 | 2=>iv l
 | 3=>pP l
 | _=>lR l
def rdC(c n:Nat):List Nat->Except Nat (List Int×List Nat) :=
 match c with
 | 0=>rd0 n
 | 1=>rd1 n 0
 | 2=>rd2 n n
 | 3=>rd3 n
 | _=>rd4 n
theorem endsC(c:Nat){l:List Int}(h:∀ x∈l,I64 x)(hm:l.length<=256):qC (rdC c l.length) (im c l) l:=by
 unfold rdC im;split
 ·exact(Rl h).ends
 ·exact(Rm 0 h).ends
 ·exact(jak h (by omega)).ends
 ·exact ends3 h hm
 ·exact ends4 h hm
def mX(c n:Nat)(b:List Nat):Except Nat (List Int) :=
 match rdC c n b with
 | .error e=>.error e
 | .ok (l,r)=>if r.length=0 then (if im c l=b then .ok l else .error 40) else .error 32
def bq(b:List Nat)(n:Int):List Int×Nat :=
 if 0<=n/\n<=256 then
  match b with
  | []=>([],30)
  | c::t=>if 4<c then ([],50) else match mX c n.toNat t with
   | .ok l=>(l,0)
   | .error e=>([],e)
 else ([],1)
theorem GD(c:Nat){l:List Int}(h:∀ x∈l,I64 x)(hm:l.length<=256):mX c l.length (im c l)=.ok l:=by
 unfold mX;rw[(endsC c h hm).1];simp
theorem GE{c:Nat}(hc:c<=4){l:List Int}(h:∀ x∈l,I64 x)(hm:l.length<=256):bq (c::im c l) l.length=(l,0):=by
 unfold bq;rw[jdu (by omega)];simp only[jd1];rw[jdt (by omega),GD c h hm]
theorem ch{α β : Type}{d:List Nat->Except Nat (α×List Nat)}{f:α->List Nat->Except Nat (β×List Nat)}{b r:List Nat}{y:β}(h:aC d f b=.ok (y,r)) :
  ∃ x q,d b=.ok (x,q)/\f x q=.ok (y,r):=by
 unfold aC at h;split at h
 ·next x q e=>exact⟨x,q,e,h⟩
 ·simp at h
theorem Bs.right{a b:List Nat}(h:Bs (a++b)):Bs b:=fun x hx=>h x (jd2.2 (Or.inr hx))
theorem AL{b r:List Nat}{n:Nat}(hb:Bs b)(h:num b=.ok (n,r)):n<18446744073709551616/\Bs r:=by
 obtain⟨h1,h2⟩:=jaf hb h;exact⟨h1,by rw[h2]at hb;exact hb.right⟩
theorem vP{b r:List Nat}{x:Int}(hb:Bs b)(h:wh b=.ok (x,r)):I64 x/\Bs r:=by
 obtain⟨h1,h2⟩:=wh_ok hb h;exact⟨h1,by rw[h2]at hb;exact hb.right⟩
def Is(l:List Int):Prop:=∀ x∈l,I64 x
theorem Is.cons{x:Int}{l:List Int}(h:I64 x)(hl:Is l):Is (x::l):=fun y hy=>by
 rcases jdN.1 hy with rfl | hy
 ·exact h
 ·exact hl y hy
theorem KW:∀{n:Nat} {b r:List Nat} {l:List Int},Bs b->rd0 n b=.ok (l,r)->l.length=n/\Is l/\Bs r
 | 0,b,r,l,hb,h=>by
  simp only[rd0,Except.ok.injEq,Prod.mk.injEq]at h;obtain⟨rfl,rfl⟩:=h;exact⟨rfl,fun x hx=>by simp at hx,hb⟩
 | n+1,b,r,l,hb,h=>by
  rw[rd0]at h;obtain⟨x,q,h1,h2⟩:=ch h;obtain⟨m,q2,h3,h4⟩:=ch h2;obtain⟨i1,i2⟩:=vP hb h1;obtain⟨j1,j2,j3⟩:=KW i2 h3;simp only[Except.ok.injEq,Prod.mk.injEq]at h4;obtain⟨rfl,rfl⟩:=h4;exact⟨by simp[j1],j2.cons i1,j3⟩
theorem KX:∀{n:Nat} {last:Int} {b r:List Nat} {l:List Int},Bs b->rd1 n last b=.ok (l,r)->l.length=n/\Is l/\Bs r
 | 0,last,b,r,l,hb,h=>by
  simp only[rd1,Except.ok.injEq,Prod.mk.injEq]at h;obtain⟨rfl,rfl⟩:=h;exact⟨rfl,fun x hx=>by simp at hx,hb⟩
 | n+1,last,b,r,l,hb,h=>by
  rw[rd1]at h;obtain⟨x,q,h1,h2⟩:=ch h;obtain⟨m,q2,h3,h4⟩:=ch h2;obtain⟨i1,i2⟩:=vP hb h1;obtain⟨j1,j2,j3⟩:=KX i2 h3;simp only[Except.ok.injEq,Prod.mk.injEq]at h4;obtain⟨rfl,rfl⟩:=h4;exact⟨by simp[j1],j2.cons (je _),j3⟩
theorem KY:∀{f n:Nat} {b r:List Nat} {l:List Int},n<=f->Bs b->rd2 f n b=.ok (l,r)->l.length=n/\Is l/\Bs r
 | 0,n,b,r,l,hf,hb,h=>by
  simp only[rd2,Except.ok.injEq,Prod.mk.injEq]at h;obtain⟨rfl,rfl⟩:=h;exact⟨by simp;omega,fun x hx=>by simp at hx,hb⟩
 | f+1,n,b,r,l,hf,hb,h=>by
  rw[rd2]at h;split at h
  ·simp only[Except.ok.injEq,Prod.mk.injEq]at h
   obtain⟨rfl,rfl⟩:=h;exact⟨by simp;omega,fun x hx=>by simp at hx,hb⟩
  ·obtain⟨x,q,h1,h2⟩:=ch h
   obtain⟨i1,i2⟩:=vP hb h1;obtain⟨k,q2,h3,h4⟩:=ch h2;obtain⟨_,i3⟩:=AL i2 h3;split at h4
   ·simp at h4
   ·obtain⟨m,q3,h5,h6⟩:=ch h4
    obtain⟨j1,j2,j3⟩:=KY (by omega) i3 h5;simp only[Except.ok.injEq,Prod.mk.injEq]at h6;obtain⟨rfl,rfl⟩:=h6;refine⟨by simp[j1];omega,fun y hy=>?_,j3⟩;rcases jd2.1 hy with hy | hy
    ·rw[jff hy];exact i1
    ·exact j2 y hy
theorem KZ:∀{m:Nat} {last:Int} {b r:List Nat} {l:List Int},I64 last->Bs b->rdU m last b=.ok (l,r)->l.length=m/\Is l/\Bs r
 | 0,last,b,r,l,hl,hb,h=>by
  simp only[rdU,Except.ok.injEq,Prod.mk.injEq]at h;obtain⟨rfl,rfl⟩:=h;exact⟨rfl,fun x hx=>by simp at hx,hb⟩
 | m+1,last,b,r,l,hl,hb,h=>by
  rw[rdU]at h;obtain⟨d,q,h1,h2⟩:=ch h;obtain⟨_,i2⟩:=AL hb h1;split at h2
  ·simp at h2
  ·next hd =>
   have hi:I64 (last+d):=by unfold I64 at hl ⊢;omega
   obtain⟨m',q2,h3,h4⟩:=ch h2;obtain⟨j1,j2,j3⟩:=KZ hi i2 h3;simp only[Except.ok.injEq,Prod.mk.injEq]at h4;obtain⟨rfl,rfl⟩:=h4;exact⟨by simp[j1],j2.cons hi,j3⟩
theorem La{n w:Nat}{b r p:List Nat}(h:pkd n w b=.ok (p,r)):p.length=n/\r=[]:=by
 unfold pkd at h;split at h
 ·simp at h
 ·split at h
  ·simp at h
  ·split at h
   ·next hE =>
    simp only[Except.ok.injEq,Prod.mk.injEq]at h;obtain⟨rfl,rfl⟩:=h;refine⟨?_,rfl⟩;rw[unR,jdu hE,dR];rfl
   ·simp at h
theorem Wt{n:Nat}{b r:List Nat}{l:List Int}(hb:Bs b)(h:rd3 n b=.ok (l,r)):l.length=n/\Is l/\Bs r:=by
 unfold rd3 at h;obtain⟨many,q,h1,h2⟩:=ch h;obtain⟨_,i2⟩:=AL hb h1;split at h2
 ·simp at h2
 ·split at h2
  ·simp only[Except.ok.injEq,Prod.mk.injEq]at h2
   obtain⟨rfl,rfl⟩:=h2;exact⟨by simp;omega,fun x hx=>by simp at hx,i2⟩
  ·obtain⟨x,q2,h3,h4⟩:=ch h2
   obtain⟨i3,i4⟩:=vP i2 h3;obtain⟨u,q3,h5,h6⟩:=ch h4;obtain⟨j1,j2,j3⟩:=KZ i3 i4 h5;obtain⟨p,q4,h7,h8⟩:=ch h6;obtain⟨k1,rfl⟩:=La h7;unfold picked at h8;split at h8
   ·next hp =>
    simp only[Except.ok.injEq,Prod.mk.injEq]at h8;obtain⟨rfl,rfl⟩:=h8;refine⟨by simp[k1],fun y hy=>?_,fun y hy=>by simp at hy⟩;obtain⟨z,hz,rfl⟩:=jdR.1 hy;have aB:=hp z hz;rw[List.getD_eq_getElem?_getD,List.getElem?_eq_getElem aB];exact(j2.cons i3) _ (jdA aB)
   ·simp at h8
theorem Wu{n:Nat}{b r:List Nat}{l:List Int}(hb:Bs b)(h:rd4 n b=.ok (l,r)):l.length=n/\Is l/\Bs r:=by
 unfold rd4 at h;split at h
 ·simp only[Except.ok.injEq,Prod.mk.injEq]at h
  obtain⟨rfl,rfl⟩:=h;exact⟨by simp;omega,fun x hx=>by simp at hx,hb⟩
 ·obtain⟨x,q,h1,h2⟩:=ch h
  obtain⟨i1,i2⟩:=vP hb h1;obtain⟨w,q2,h3,h4⟩:=ch h2;split at h4
  ·simp at h4
  ·obtain⟨p,q3,h5,h6⟩:=ch h4
   obtain⟨k1,rfl⟩:=La h5;simp only[Except.ok.injEq,Prod.mk.injEq]at h6;obtain⟨rfl,rfl⟩:=h6;refine⟨by simp[k1],fun y hy=>?_,fun y hy=>by simp at hy⟩;obtain⟨z,_,rfl⟩:=jdR.1 hy;exact je _
theorem Wv{c n:Nat}{b r:List Nat}{l:List Int}(hb:Bs b)(h:rdC c n b=.ok (l,r)):l.length=n/\Is l/\Bs r:=by
 unfold rdC at h;split at h
 ·exact KW hb h
 ·exact KX hb h
 ·exact KY (jdw _) hb h
 ·exact Wt hb h
 ·exact Wu hb h
theorem Mv{c n:Nat}{b:List Nat}{l:List Int}(hb:Bs b)(h:mX c n b=.ok l):l.length=n/\Is l/\im c l=b:=by
 unfold mX at h;split at h
 ·simp at h
 ·next l' r e =>
  split at h
  ·split at h
   ·next h2 =>
    simp only[Except.ok.injEq]at h;subst h;obtain⟨h3,h4,_⟩:=Wv hb e;exact⟨h3,h4,h2⟩
   ·simp at h
  ·simp at h
theorem dG{α β : Type}{d:List Nat->Except Nat (α×List Nat)}{f:α->List Nat->Except Nat (β×List Nat)}(h1:∀ b,d b≠.error 0)(h2:∀ x b,f x b≠.error 0)(b:List Nat):aC d f b≠.error 0:=by
 unfold aC;split
 ·exact h2 _ _
 ·next e he =>
  intro h;simp only[Except.error.injEq]at h;subst h;exact h1 b he
theorem AM(b:List Nat):num b≠.error 0:=by
 unfold num;split
 ·simp
 ·next h=>intro e;simp only[Except.error.injEq]at e;exact h e
theorem CZ(b:List Nat):wh b≠.error 0:=by
 unfold wh;split
 ·simp
 ·next h=>intro e;simp only[Except.error.injEq]at e;exact h e
theorem Ro(n w:Nat)(b:List Nat):pkd n w b≠.error 0:=by
 unfold pkd;split
 ·simp
 ·split
  ·simp
  ·split
   ·simp
   ·next h=>intro e;simp only[Except.error.injEq]at e;exact h e
theorem Rp:∀(n:Nat) (b:List Nat),rd0 n b≠.error 0
 | 0,b=>by simp[rd0]
 | n+1,b=>dG CZ (fun x=>dG (Rp n) (fun l r=>by simp)) b
theorem Rq:∀(n:Nat) (last:Int) (b:List Nat),rd1 n last b≠.error 0
 | 0,last,b=>by simp[rd1]
 | n+1,last,b=>dG CZ (fun d=>dG (Rq n _) (fun l r=>by simp)) b
theorem Rr:∀(f n:Nat) (b:List Nat),rd2 f n b≠.error 0
 | 0,n,b=>by simp[rd2]
 | f+1,n,b=>by
  rw[rd2];split
  ·simp
  ·refine dG CZ (fun x=>dG AM (fun k q=>?_)) b
   split
   ·simp
   ·exact dG (Rr f _) (fun l r=>by simp) q
theorem Rt:∀(m:Nat) (last:Int) (b:List Nat),rdU m last b≠.error 0
 | 0,last,b=>by simp[rdU]
 | m+1,last,b=>by
  rw[rdU];refine dG AM (fun d q=>?_) b;split
  ·simp
  ·exact dG (Rt m _) (fun l r=>by simp) q
theorem jal(n:Nat)(b:List Nat):rd3 n b≠.error 0:=by
 unfold rd3;refine dG AM (fun many q=>?_) b;split
 ·simp
 ·split
  ·simp
  ·refine dG CZ (fun x=>dG (Rt _ _) (fun u=>dG (Ro _ _) (fun p r=>?_))) q
   unfold picked;split<;>simp
theorem jam(n:Nat)(b:List Nat):rd4 n b≠.error 0:=by
 unfold rd4;split
 ·simp
 ·refine dG CZ (fun x=>dG AM (fun w q=>?_)) b
  split
  ·simp
  ·exact dG (Ro _ _) (fun p r=>by simp) q
theorem jan(c n:Nat)(b:List Nat):rdC c n b≠.error 0:=by
 unfold rdC;split
 ·exact Rp n b
 ·exact Rq n 0 b
 ·exact Rr n n b
 ·exact jal n b
 ·exact jam n b
theorem Ru(c n:Nat)(b:List Nat):mX c n b≠.error 0:=by
 unfold mX;split
 ·next e he =>
  intro h;simp only[Except.error.injEq]at h;subst h;exact jan c n b he
 ·split
  ·split<;>simp
  ·simp
theorem Mw{b:List Nat}{n:Int}{l:List Int}(hb:Bs b)(h:bq b n=(l,0)):0<=n/\n<=256/\∃ c t,b=c::t/\c<=4/\(l.length:Int)=n/\Is l/\im c l=t:=by
 unfold bq at h;split at h
 ·next hn =>
  refine⟨hn.1,hn.2,?_⟩;split at h
  ·simp at h
  ·next c t =>
   split at h
   ·simp at h
   ·next hc =>
    split at h
    ·next l' e =>
     simp only[Prod.mk.injEq,and_true]at h;subst h;obtain⟨h1,h2,h3⟩:=Mv (fun x hx=>hb x (by simp[hx])) e;exact⟨c,t,rfl,by omega,by omega,h2,h3⟩
    ·next e he =>
     simp only[Prod.mk.injEq]at h;rw[h.2]at he;exact absurd he (Ru _ _ _)
 ·simp at h
def jC(l:List Int):Nat->List Nat
 | 0=>0::im 0 l
 | c+1=>if (im (c+1) l).length+1<(jC l c).length then (c+1)::im (c+1) l else jC l c
theorem jm(l:List Int):∀ k,∃ c,c<=k/\jC l k=c::im c l
 | 0=>⟨0,jdw _,rfl⟩
 | k+1=>by
  rw[jC];split
  ·exact⟨k+1,jdw _,rfl⟩
  ·obtain⟨c,h1,h2⟩:=jm l k
   exact⟨c,by omega,h2⟩
theorem ox(l:List Int):∀ k c,c<=k->(jC l k).length<=(im c l).length+1
 | 0,c,h=>by
  obtain rfl:c=0:=by omega
  simp[jC]
 | k+1,c,h=>by
  rw[jC];split
  ·next aB =>
   rcases jdY k c with h1 | h1
   ·obtain rfl:c=k+1:=by omega
    simp
   ·have:=ox l k c h1
    simp
    omega
  ·next aB =>
   rcases jdY k c with h1 | h1
   ·obtain rfl:c=k+1:=by omega
    omega
   ·exact ox l k c h1
theorem lS:∀{l:List Int},Is l->(gy l).length<=10*l.length/\Bs (gy l)
 | [],_=>⟨by simp[gy],fun x hx=>by simp[gy]at hx⟩
 | x::t,h=>by
  obtain⟨h1,h2⟩:=lS (l:=t) (fun y hy=>h y (by simp[hy]));have h3:=fq (h x (by simp));refine⟨by simp[gy];omega,fun y hy=>?_⟩;rcases jd2.1 hy with hy | hy
  ·exact yT y hy
  ·exact h2 y hy
theorem oC:∀{l:List Int} {last:Int},(iI last l).length<=10*l.length/\Bs (iI last l)
 | [],_=>⟨by simp[iI],fun x hx=>by simp[iI]at hx⟩
 | x::t,last=>by
  obtain⟨h1,h2⟩:=oC (l:=t) (last:=x);have h3:=fq (je (x-last));refine⟨by simp[iI];omega,fun y hy=>?_⟩;rcases jd2.1 hy with hy | hy
  ·exact yT y hy
  ·exact h2 y hy
theorem Bs.append{a b:List Nat}(ha:Bs a)(hb:Bs b):Bs (a++b):=fun x hx=>by
 rcases jd2.1 hx with hx | hx
 ·exact ha x hx
 ·exact hb x hx
theorem mD:∀{t:List Int} {x:Int} {c:Nat},Is t->I64 x->c+t.length<=1000000->(fJ x c t).length<=20*(t.length+1)/\Bs (fJ x c t)
 | [],x,c,ht,hx,hc=>by
  have h3:=fq hx;have h4:=bM (n:=c) (by simp at hc;omega);refine⟨by simp[fJ];omega,?_⟩;rw[fJ];exact Bs.append yT gU
 | y::t,x,c,ht,hx,hc=>by
  have h3:=fq hx;have h4:=bM (n:=c) (by omega);rw[fJ];split
  ·obtain⟨h1,h2⟩:=mD (t:=t) (x:=x) (c:=c+1) (fun z hz=>ht z (by simp[hz])) hx (by simp at hc;omega)
   exact⟨by simp;omega,h2⟩
  ·obtain⟨h1,h2⟩:=mD (t:=t) (x:=y) (c:=1) (fun z hz=>ht z (by simp[hz])) (ht y (by simp)) (by simp at hc;omega)
   exact⟨by simp;omega,Bs.append (Bs.append yT gU) h2⟩
theorem yX:∀{t:List Int} {last:Int},I64 last->Is t->(pO last t).length<=10*t.length/\Bs (pO last t)
 | [],_,_,_=>⟨by simp[pO],fun x hx=>by simp[pO]at hx⟩
 | y::t,last,hl,ht=>by
  have hy:=ht y (by simp);obtain⟨h1,h2⟩:=yX (t:=t) (last:=y) hy (fun z hz=>ht z (by simp[hz]));have h3:=bM (n:=(y-last).toNat) (by unfold I64 at hy hl;omega);exact⟨by simp[pO];omega,Bs.append gU h2⟩
theorem lT{u:List Int}(h:Is u):(il u).length<=10*u.length/\Bs (il u):=by
 cases u with
 | nil=>exact⟨by simp[il],fun x hx=>by simp[il]at hx⟩
 | cons x t =>
  have hx:=h x (by simp);obtain⟨h1,h2⟩:=yX (t:=t) hx (fun z hz=>h z (by simp[hz]));have h3:=fq hx;exact⟨by simp[il];omega,Bs.append yT h2⟩
theorem vQ{p:List Nat}{w:Nat}(hl:p.length<=256):(bi p w).length<=2048:=by
 unfold bi;split
 ·next h =>
  unfold can at h;simp only[jei]at h;rw[dR];have:p.length*w<=256*64:=je2 hl (by omega);unfold by8;simp only[jd1];omega
 ·simp
theorem eD(c:Nat){l:List Int}(h:Is l)(hl:l.length<=256):(im c l).length<=5130/\Bs (im c l):=by
 unfold im;split
 ·obtain⟨h1,h2⟩:=lS h
  exact⟨by omega,h2⟩
 ·obtain⟨h1,h2⟩:=oC (l:=l) (last:=0)
  exact⟨by omega,h2⟩
 ·cases l with
  | nil=>exact⟨by simp[iv],fun x hx=>by simp[iv]at hx⟩
  | cons x t =>
   obtain⟨h1,h2⟩:=mD (t:=t) (x:=x) (c:=1) (fun z hz=>h z (by simp[hz])) (h x (by simp)) (by simp at hl;omega);simp at hl
   exact⟨by rw[iv];omega,h2⟩
 ·have hu:=fK l
  obtain⟨h1,h2⟩:=lT (lP h);have h3:=bM (n:=(cH l).length) (by omega);have h4:=vQ (p:=places l) (w:=wd (places l)) (by rw[lx];exact hl);refine⟨by simp[pP];omega,Bs.append gU (Bs.append h2 qH)⟩
 ·unfold lR
  split
  ·exact⟨by simp,fun x hx=>by simp at hx⟩
  ·next h0 =>
   have h3:=fq (h _ (gY (by omega)));have h4:=vQ (p:=di l) (w:=wd (di l)) (by rw[fX];exact hl);have h5:=bM (n:=wd (di l)) (by have:=Gy (lQ h);omega);refine⟨by simp;omega,Bs.append yT (Bs.append gU qH)⟩
def cQ(l:List Int):List Nat:=jC l 4
theorem kb{l:List Int}(h:Is l)(hm:l.length<=256):bq (cQ l) l.length=(l,0):=by
 obtain⟨c,hc,e⟩:=jm l 4;unfold cQ;rw[e];exact GE hc h hm
theorem ke{l:List Int}(h:Is l)(hm:l.length<=256):(cQ l).length<=5131/\Bs (cQ l):=by
 obtain⟨c,hc,e⟩:=jm l 4;obtain⟨h1,h2⟩:=eD c h hm;unfold cQ;rw[e];refine⟨by simp only[jdD];omega,fun x hx=>?_⟩;rcases jdN.1 hx with rfl | hx
 ·omega
 ·exact h2 x hx
def cnt(l:List Int):List Nat:=uv (cQ l).length++cQ l
def Mx(b:List Nat)(n:Int):Option (List Int×List Nat) :=
 if (gt b).2.2=0/\(gt b).1<=b.length-(gt b).2.1 then
  (if (bq ((b.drop (gt b).2.1).take (gt b).1) n).2=0 then some ((bq ((b.drop (gt b).2.1).take (gt b).1) n).1,b.drop ((gt b).2.1+(gt b).1)) else none)
 else none
theorem Da{l:List Int}(h:Is l)(hm:l.length<=256)(r:List Nat):Mx (cnt l++r) l.length=some (l,r):=by
 have hs:=(ke h hm).1
 have hg:gt (cnt l++r)=((cQ l).length,(uv (cQ l).length).length,0):=by
  unfold cnt;rw[jdL];exact mA _ (by omega) _
 have hd:(cnt l++r).drop (uv (cQ l).length).length=cQ l++r:=by
  unfold cnt;rw[jdL,jed]
 have hd2:(cnt l++r).drop ((uv (cQ l).length).length+(cQ l).length)=r:=by
  rw[← je1,hd,jed]
 have hb:=kb h hm;unfold Mx;rw[hg];simp only;rw[hd,hd2,jet,hb,jdu,jdu rfl];refine⟨trivial,?_⟩;unfold cnt;simp only[jdy];omega
def ec(l:List (List Nat)):List Int:=l.map fun s=>(s.length:Int)
def fC(l:List (List Nat)):List Nat:=cnt (ec l)++l.flatten
def Db:List Nat->List Int->Option (List (List Nat)×List Nat)
 | b,[]=>some ([],b)
 | b,s::t=>if s<0∨(b.length:Int)<s then none else (Db (b.drop s.toNat) t).map fun p=>(b.take s.toNat::p.1,p.2)
theorem sy(r:List Nat):∀ l:List (List Nat),Db (l.flatten++r) (ec l)=some (l,r)
 | []=>rfl
 | s::t=>by
  have ih:=sy r t;have e:(s::t).flatten++r=s++(t.flatten++r):=by simp[jdL]
  rw[e];unfold ec at ih ⊢;simp only[jd5,Db];rw[jdt (by simp only[jdy];omega),jd1,jed,jet,ih];rfl
def jD(x:List Nat):List (List Nat)->List (List Nat)
 | []=>[x]
 | y::t=>if x=y then y::t else if x<y then x::y::t else y::jD x t
def tuq(l:List (List Nat)):List (List Nat):=l.foldl (fun u x=>jD x u) []
def uq(l:List (List Nat)):Prop:=l.Pairwise (· < ·)
theorem vR{x z:List Nat}:∀{u:List (List Nat)},z∈jD x u↔z=x∨z∈u
 | []=>by simp[jD]
 | y::t=>by
  have ih:=vR (x:=x) (z:=z) (u:=t);unfold jD;split
  ·next h =>
   subst h;simp
  ·split
   ·simp
   ·simp only[jdN,ih]
    constructor
    ·rintro(h | h | h)
     ·exact Or.inr (Or.inl h)
     ·exact Or.inl h
     ·exact Or.inr (Or.inr h)
    ·rintro(h | h | h)
     ·exact Or.inr (Or.inl h)
     ·exact Or.inl h
     ·exact Or.inr (Or.inr h)
theorem sC{x y z:List Nat}(h1:x<y)(h2:y<z):x<z:=List.lt_trans h1 h2
theorem My{x y:List Nat}(h1:x≠y)(h2:¬ x<y):y<x:=by
 have h3:y<=x:=h2;rcases List.le_iff_lt_or_eq.1 h3 with h | h
 ·exact h
 ·exact absurd h.symm h1
theorem tD{x:List Nat}:∀{u:List (List Nat)},uq u->uq (jD x u)
 | [],_=>by simp[jD,uq]
 | y::t,h=>by
  have h1:(∀ z∈t,y<z)/\uq t:=jez.1 h;unfold jD;split
  ·exact h
  ·next fF =>
   split
   ·next aB =>
    refine jez.2 ⟨fun z hz=>?_,h⟩;rcases jdN.1 hz with rfl | hz
    ·exact aB
    ·exact sC aB (h1.1 z hz)
   ·next aB =>
    refine jez.2 ⟨fun z hz=>?_,tD h1.2⟩;rcases vR.1 hz with rfl | hz
    ·exact My fF aB
    ·exact h1.1 z hz
theorem xX{l:List (List Nat)}{i:Nat}(h:i<l.length):tuq (l.take (i+1))=jD l[i] (tuq (l.take i)):=by
 unfold tuq;rw[List.take_add_one,List.getElem?_eq_getElem h,List.foldl_append];rfl
theorem vS:∀(l u:List (List Nat)),uq u->uq (l.foldl (fun u x=>jD x u) u)/\∀ z,z∈l.foldl (fun u x=>jD x u) u↔z∈u∨z∈l
 | [],u,h=>⟨h,fun z=>by simp⟩
 | x::t,u,h=>by
  obtain⟨h1,h2⟩:=vS t (jD x u) (tD h);refine⟨h1,fun z=>?_⟩;rw[List.foldl_cons,h2,vR,jdN];constructor
  ·rintro((h | h) | h)
   ·exact Or.inr (Or.inl h)
   ·exact Or.inl h
   ·exact Or.inr (Or.inr h)
  ·rintro(h | h | h)
   ·exact Or.inl (Or.inr h)
   ·exact Or.inl (Or.inl h)
   ·exact Or.inr h
theorem vT(l:List (List Nat)):uq (tuq l):=(vS l [] List.Pairwise.nil).1
theorem jf{l:List (List Nat)}{z:List Nat}:z∈tuq l↔z∈l:=by
 unfold tuq;rw[(vS l [] List.Pairwise.nil).2];simp
theorem tE:∀{u v:List (List Nat)},uq u->uq v->(∀ z,z∈u↔z∈v)->u=v
 | [],[],_,_,_=>rfl
 | [],y::t,_,_,h=>absurd ((h y).2 (by simp)) (by simp)
 | x::s,[],_,_,h=>absurd ((h x).1 (by simp)) (by simp)
 | x::s,y::t,hu,hv,h=>by
  obtain⟨a1,a2⟩:=jez.1 hu;obtain⟨b1,b2⟩:=jez.1 hv
  have e:x=y:=by
   rcases jdN.1 ((h x).1 (by simp))with e | e
   ·exact e
   ·rcases jdN.1 ((h y).2 (by simp))with e2 | e2
    ·exact e2.symm
    ·exact absurd (sC (a1 y e2) (b1 x e)) (je3 x)
  subst e;congr 1
  refine tE a2 b2 fun z=>?_
  constructor
  ·intro hz
   rcases jdN.1 ((h z).1 (jeM _ hz))with e | e
   ·subst e
    exact absurd (a1 z hz) (je3 z)
   ·exact e
  ·intro hz
   rcases jdN.1 ((h z).2 (jeM _ hz))with e | e
   ·subst e
    exact absurd (b1 z hz) (je3 z)
   ·exact e
theorem nG{x:List Nat}:∀{u:List (List Nat)},(jD x u).length<=u.length+1
 | []=>by simp[jD]
 | y::t=>by
  have:=nG (x:=x) (u:=t);unfold jD;split
  ·simp
  ·split
   ·simp
   ·simp only[jdD]
    omega
theorem mY:∀(l u:List (List Nat)),(l.foldl (fun u x=>jD x u) u).length<=u.length+l.length
 | [],u=>by simp
 | x::t,u=>by
  have h1:=mY t (jD x u);have h2:=nG (x:=x) (u:=u);rw[List.foldl_cons,jdD];omega
theorem fL(l:List (List Nat)):(tuq l).length<=l.length:=by
 have:=mY l [];simpa [tuq]using this
def plT:List (List Nat)->List Nat->Nat
 | [],_=>0
 | y::t,x=>if y=x then 0 else plT t x+1
theorem kV{x:List Nat}:∀{u:List (List Nat)},x∈u->plT u x<u.length/\u[plT u x]?=some x
 | [],h=>by simp at h
 | y::t,h=>by
  unfold plT;split
  ·next e=>exact⟨by simp,by simp[e]⟩
  ·next e =>
   rcases jdN.1 h with rfl | h
   ·exact absurd rfl e
   ·obtain⟨h1,h2⟩:=kV h
    exact⟨by simp only[jdD];omega,by simpa using h2⟩
def cL(l:List (List Nat)):List Int:=l.map fun s=>(plT (tuq l) s:Int)
def plain(l:List (List Nat)):List Nat:=0::fC l
def dj(l:List (List Nat)):List Nat:=1::(uv (tuq l).length++(fC (tuq l)++cQ (cL l)))
def eL(l:List (List Nat)):List Nat:=if (dj l).length<(plain l).length then dj l else plain l
def Rx(u:List (List Nat))(p:List Int):Option (List (List Nat)):=if ∀ q∈p,0<=q/\q<(u.length:Int) then some (p.map fun q=>u.getD q.toNat []) else none
def mE(b:List Nat)(n:Nat):Option (List (List Nat)) :=
 match b with
 | []=>none
 | x::t =>
  if x=0 then ((Mx t n).bind fun p=>Db p.2 p.1).map (·.1)
  else if x=1 then
   (if (gt t).2.2=0/\(gt t).1<=n then
    (Mx (t.drop (gt t).2.1) (gt t).1).bind fun p=>(Db p.2 p.1).bind fun q=>if (bq q.2 n).2=0 then Rx q.1 (bq q.2 n).1 else none
   else none)
  else none
def Ts(l:List (List Nat)):Prop:=∀ s∈l,s.length<=64/\Bs s
theorem bJ(l:List (List Nat)):(ec l).length=l.length:=jdz _
theorem gZ{l:List (List Nat)}(h:Ts l):Is (ec l):=fun x hx=>by
 obtain⟨s,hs,rfl⟩:=jdR.1 hx;have:=(h s hs).1;unfold I64;omega
theorem ly{l:List (List Nat)}(h:Ts l):Ts (tuq l):=fun s hs=>h s (jf.1 hs)
theorem bV(l:List (List Nat)):(cL l).length=l.length:=jdz _
theorem pQ{l:List (List Nat)}:∀ q∈cL l,0<=q/\q<((tuq l).length:Int):=fun q hq=>by
 obtain⟨s,hs,rfl⟩:=jdR.1 hq;have:=(kV (jf.2 hs)).1;omega
theorem ed{l:List (List Nat)}(hm:l.length<=256):Is (cL l):=fun q hq=>by
 have h1:=pQ q hq;have h2:=fL l;unfold I64;omega
theorem qI(l:List (List Nat)):(cL l).map (fun q=>(tuq l).getD q.toNat [])=l:=by
 unfold cL;rw[jd8];conv=>rhs;rw[← jev l]
 apply jeq
 intro s hs;have h2:=(kV (jf.2 hs)).2;simp only[Function.comp,jd1,id];rw[List.getD_eq_getElem?_getD,h2];rfl
theorem GF{l:List (List Nat)}(h:Ts l)(hm:l.length<=256)(r:List Nat):mE (plain l++r) l.length=some l:=by
 unfold plain fC;simp only[jem,mE,jdu];have h1:=Da (gZ h) (by rw[bJ];exact hm) (l.flatten++r);rw[bJ]at h1;rw[jdL,h1];simp only[Option.bind_some,sy,jeF]
theorem Dc{l:List (List Nat)}(h:Ts l)(hm:l.length<=256):mE (dj l) l.length=some l:=by
 have hu:=fL l;unfold dj fC;have h0:=mA (tuq l).length (by omega) (cnt (ec (tuq l))++(tuq l).flatten++cQ (cL l));have h1:=Da (gZ (ly h)) (by rw[bJ];omega) ((tuq l).flatten++cQ (cL l));rw[bJ]at h1;have h2:=kb (ed hm) (by rw[bV];exact hm);rw[bV]at h2;simp only[mE,show (1:Nat)≠0 from by omega,if_false,if_true,h0,jed];rw[jdu ⟨trivial,hu⟩,jdL,h1];simp only[Option.bind_some,sy,h2,if_true];unfold Rx;rw[jdu pQ,qI]
theorem GH{l:List (List Nat)}(h:Ts l)(hm:l.length<=256):mE (eL l) l.length=some l:=by
 unfold eL;split
 ·exact Dc h hm
 ·have:=GF h hm []
  rwa[jdT]at this
theorem oD:∀{l:List (List Nat)},Ts l->l.flatten.length<=64*l.length/\Bs l.flatten
 | [],_=>⟨by simp,fun x hx=>by simp at hx⟩
 | s::t,h=>by
  obtain⟨h1,h2⟩:=oD (l:=t) fun x hx=>h x (jeM _ hx)
  obtain⟨h3,h4⟩:=h s (by simp);refine⟨?_,?_⟩
  ·rw[jeR,jdy,jdD]
   omega
  ·rw[jeR]
   exact h4.append h2
theorem sD{l:List (List Nat)}(h:Ts l)(hm:l.length<=256):(fC l).length<=21525/\Bs (fC l):=by
 obtain⟨a1,a2⟩:=ke (gZ h) (by rw[bJ];exact hm);obtain⟨b1,b2⟩:=oD h;have no:=bM (n:=(cQ (ec l)).length) (by omega);unfold fC cnt;refine⟨?_,Bs.append (Bs.append gU a2) b2⟩;simp only[jdy];omega
theorem mF{l:List (List Nat)}(h:Ts l)(hm:l.length<=256):(eL l).length<=21526/\Bs (eL l):=by
 obtain⟨a1,a2⟩:=sD h hm;have hp:(plain l).length<=21526:=by unfold plain;simp only[jdD];omega
 unfold eL;split
 ·next aB =>
  refine⟨by omega,?_⟩;obtain⟨b1,b2⟩:=sD (ly h) (jdF (fL l) hm);obtain⟨c1,c2⟩:=ke (ed hm) (by rw[bV];exact hm);intro x hx;unfold dj at hx;rcases jdN.1 hx with rfl | hx
  ·omega
  ·exact(Bs.append gU (Bs.append b2 c2)) x hx
 ·refine⟨hp,fun x hx=>?_⟩
  unfold plain at hx;rcases jdN.1 hx with rfl | hx
  ·omega
  ·exact a2 x hx
def gA(k:Nat)(c:Nat×Int×List Nat):Prop :=
 c=nul∨(k=1/\∃ n,c=(1,n,[])/\I64 n)∨(k=2/\∃ n:Nat,c=(2,(n:Int),[])/\n<2)∨(k=3/\∃ s,c=(3,0,s)/\s.length<=64/\Bs s)
def Col(k:Nat)(l:List (Nat×Int×List Nat)):Prop:=(1<=k/\k<=3)/\l.length<=256/\∀ c∈l,gA k c
def bN(l:List (Nat×Int×List Nat)):List Nat:=l.map fun c=>if c.1=0 then 0 else 1
def bS(l:List (Nat×Int×List Nat)):List (Nat×Int×List Nat):=l.filter fun c=>c.1 != 0
def dK(l:List (Nat×Int×List Nat)):List Nat:=if 0∈bN l then 1::bi (bN l) 1 else [0]
def gB(k:Nat)(l:List (Nat×Int×List Nat)):List Nat :=
 if k=1 then cQ ((bS l).map fun c=>c.2.1) else if k=2 then bi ((bS l).map fun c=>c.2.1.toNat) 1 else eL ((bS l).map fun c=>c.2.2)
def eo(k:Nat)(l:List (Nat×Int×List Nat)):List Nat:=dK l++gB k l
def hO:List Nat->List (Nat×Int×List Nat)->List (Nat×Int×List Nat)
 | [],_=>[]
 | x::t,o=>if x=0 then nul::hO t o else o.headD nul::hO t o.tail
theorem bn(l:List (Nat×Int×List Nat)):(bN l).length=l.length:=jdz _
theorem oE:∀ l:List (Nat×Int×List Nat),(bN l).sum=(bS l).length
 | []=>rfl
 | c::t=>by
  have ih:=oE t;unfold bN bS at ih ⊢;by_cases h:c.1=0
  ·simp[h,ih]
  ·simp[h,ih]
   omega
theorem ia(l:List (Nat×Int×List Nat)):(bS l).length<=l.length:=je4 _ _
theorem pR{k:Nat}:∀{l:List (Nat×Int×List Nat)},(∀ c∈l,gA k c)->hO (bN l) (bS l)=l
 | [],_=>rfl
 | c::t,h=>by
  have ih:=pR (k:=k) (l:=t) fun x hx=>h x (jeM _ hx)
  have hc:=h c (by simp);unfold bN bS at ih ⊢;by_cases h0:c.1=0
  ·have e:c=nul:=by
    rcases hc with e | ⟨_,n,e,_⟩ | ⟨_,n,e,_⟩ | ⟨_,s,e,_⟩
    ·exact e
    ·rw[e]at h0;simp at h0
    ·rw[e]at h0;simp at h0
    ·rw[e]at h0;simp at h0
   subst e;simp[hO,nul]at ih ⊢
   exact ih
  ·simp[hO,h0]at ih ⊢
   exact ih
theorem jn{l:List (Nat×Int×List Nat)}{c:Nat×Int×List Nat}(h:c∈bS l):c∈l/\c.1≠0:=by
 unfold bS at h;have:=jfg.1 h;exact⟨this.1,by simpa using this.2⟩
theorem iS{l:List (Nat×Int×List Nat)}(h:∀ c∈l,gA 1 c):Is ((bS l).map fun c=>c.2.1)/\((bS l).map fun c=>c.2.1).map (fun x=>((1,x,[]):Nat×Int×List Nat))=bS l:=by
 have key:∀ c∈bS l,∃ n,c=(1,n,[])/\I64 n:=fun c hc=>by
  obtain⟨h1,h2⟩:=jn hc;rcases h c h1 with e | ⟨_,n,e,hn⟩ | ⟨e,_⟩ | ⟨e,_⟩
  ·rw[e]at h2;exact absurd rfl h2
  ·exact⟨n,e,hn⟩
  ·omega
  ·omega
 refine⟨fun x hx=>?_,?_⟩
 ·obtain⟨c,hc,rfl⟩:=jdR.1 hx
  obtain⟨n,rfl,hn⟩:=key c hc;exact hn
 ·rw[jd8]
  conv=>rhs;rw[← jev (bS l)]
  apply jeq
  intro c hc;obtain⟨n,rfl,hn⟩:=key c hc;rfl
theorem fM{l:List (Nat×Int×List Nat)}(h:∀ c∈l,gA 2 c):(∀ x∈(bS l).map fun c=>c.2.1.toNat,x<2)/\((bS l).map fun c=>c.2.1.toNat).map (fun(x:Nat)=>((2,(x:Int),[]):Nat×Int×List Nat))=bS l:=by
 have key:∀ c∈bS l,∃ n:Nat,c=(2,(n:Int),[])/\n<2:=fun c hc=>by
  obtain⟨h1,h2⟩:=jn hc;rcases h c h1 with e | ⟨e,_⟩ | ⟨_,n,e,hn⟩ | ⟨e,_⟩
  ·rw[e]at h2;exact absurd rfl h2
  ·omega
  ·exact⟨n,e,hn⟩
  ·omega
 refine⟨fun x hx=>?_,?_⟩
 ·obtain⟨c,hc,rfl⟩:=jdR.1 hx
  obtain⟨n,rfl,hn⟩:=key c hc;simpa using hn
 ·rw[jd8]
  conv=>rhs;rw[← jev (bS l)]
  apply jeq
  intro c hc;obtain⟨n,rfl,hn⟩:=key c hc;rfl
theorem gO{l:List (Nat×Int×List Nat)}(h:∀ c∈l,gA 3 c):Ts ((bS l).map fun c=>c.2.2)/\((bS l).map fun c=>c.2.2).map (fun s=>((3,0,s):Nat×Int×List Nat))=bS l:=by
 have key:∀ c∈bS l,∃ s,c=(3,0,s)/\s.length<=64/\Bs s:=fun c hc=>by
  obtain⟨h1,h2⟩:=jn hc;rcases h c h1 with e | ⟨e,_⟩ | ⟨e,_⟩ | ⟨_,s,e,hs⟩
  ·rw[e]at h2;exact absurd rfl h2
  ·omega
  ·omega
  ·exact⟨s,e,hs⟩
 refine⟨fun x hx=>?_,?_⟩
 ·obtain⟨c,hc,rfl⟩:=jdR.1 hx
  obtain⟨n,rfl,hn⟩:=key c hc;exact hn
 ·rw[jd8]
  conv=>rhs;rw[← jev (bS l)]
  apply jeq
  intro c hc;obtain⟨n,rfl,hn⟩:=key c hc;rfl
def yY(b:List Nat)(n:Nat):Option (List Nat×List Nat) :=
 match b with
 | []=>none
 | x::t=>if x=0 then some (List.replicate n 1,t) else if x=1 then
   (if by8 n<=t.length/\unE (t.take (by8 n)) n 1=0 then some (unR (t.take (by8 n)) n 1,t.drop (by8 n)) else none) else none
def GI(k:Nat)(b:List Nat)(n:Nat):Option (List (Nat×Int×List Nat)) :=
 if k=1 then (if (bq b n).2=0 then some ((bq b n).1.map fun x=>(1,x,[])) else none)
 else if k=2 then (if unE b n 1=0 then some ((unR b n 1).map fun(x:Nat)=>(2,(x:Int),[])) else none)
 else (mE b n).map fun l=>l.map fun s=>(3,0,s)
def Ww(k:Nat)(b:List Nat)(n:Nat):Option (List (Nat×Int×List Nat)) :=
 (yY b n).bind fun p=>(GI k p.2 p.1.sum).map (hO p.1)
theorem Dd{l:List Nat}(h:∀ x∈l,x<2)(hm:l.length<=256):can l ((1:Nat):Int)=true:=GC hm (by omega) (qG.2 (by simpa using h))
theorem oF{l:List Nat}(h:∀ x∈l,x<2)(hm:l.length<=256):unE (bi l 1) l.length 1=0/\unR (bi l 1) l.length 1=l:=by
 have:=CU (Dd h hm);rwa[show ((1:Nat):Int)=1 from rfl]at this
theorem eI{l:List Nat}(h:∀ x∈l,x<2)(hm:l.length<=256):(bi l 1).length=by8 l.length:=by
 have:=mC (Dd h hm);rwa[jeV]at this
theorem dY(l:List (Nat×Int×List Nat)):∀ x∈bN l,x<2:=fun x hx=>by
 obtain⟨c,_,rfl⟩:=jdR.1 hx;split<;>omega
theorem vU{l:List (Nat×Int×List Nat)}(h:¬ 0∈bN l):bN l=List.replicate l.length 1:=by
 rw[List.eq_replicate_iff];refine⟨bn l,fun x hx=>?_⟩;have h1:=dY l x hx;have h2:x≠0:=fun e=>h (e ▸ hx)
 omega
theorem Mz{l:List (Nat×Int×List Nat)}(hm:l.length<=256)(r:List Nat):yY (dK l++r) l.length=some (bN l,r):=by
 unfold dK;split
 ·have hl:=eI (dY l) (by rw[bn];exact hm)
  rw[bn]at hl;have hb:=oF (dY l) (by rw[bn];exact hm);rw[bn]at hb;have ht:(bi (bN l) 1++r).take (by8 l.length)=bi (bN l) 1:=by rw[← hl,jet]
  have hd:(bi (bN l) 1++r).drop (by8 l.length)=r:=by rw[← hl,jed]
  simp only[jem,yY,show (1:Nat)≠0 from by omega,if_false,if_true,ht,hd];rw[jdu]
  ·rw[hb.2]
  ·exact⟨by simp only[jdy];omega,hb.1⟩
 ·next h =>
  rw[vU h];rfl
theorem MA{k:Nat}{l:List (Nat×Int×List Nat)}(h:Col k l):GI k (gB k l) (bS l).length=some (bS l):=by
 obtain⟨hk,hm,hc⟩:=h;have ho:=ia l;obtain rfl | rfl | rfl:k=1∨k=2∨k=3:=by omega
 ·obtain⟨h1,h2⟩:=iS hc
  have hb:=kb h1 (by rw[jdz];omega);rw[jdz]at hb;simp only[GI,gB,if_true,hb];rw[h2]
 ·obtain⟨h1,h2⟩:=fM hc
  have hb:=oF h1 (by rw[jdz];omega);rw[jdz]at hb;simp only[GI,gB,if_true,if_false,show (2:Nat)≠1 from by omega];rw[jdu hb.1];rw[hb.2,h2]
 ·obtain⟨h1,h2⟩:=gO hc
  have hb:=GH h1 (by rw[jdz];omega);rw[jdz]at hb;simp only[GI,gB,if_false,show (3:Nat)≠1 from by omega,show (3:Nat)≠2 from by omega,hb,jeF];rw[h2]
theorem Ry{k:Nat}{l:List (Nat×Int×List Nat)}(h:Col k l):Ww k (eo k l) l.length=some l:=by
 unfold Ww eo;rw[Mz h.2.1,Option.bind_some];simp only;rw[oE,MA h,jeF,pR h.2.2]
theorem sE{l:List (Nat×Int×List Nat)}(hm:l.length<=256):(dK l).length<=33/\Bs (dK l):=by
 unfold dK;split
 ·have hl:=eI (dY l) (by rw[bn];exact hm)
  rw[bn]at hl;refine⟨?_,fun x hx=>?_⟩
  ·rw[jdD,hl]
   unfold by8;omega
  ·rcases jdN.1 hx with rfl | hx
   ·omega
   ·exact qH x hx
 ·exact⟨by simp,fun x hx=>by simp at hx;omega⟩
theorem vV(l:List (Nat×Int×List Nat)):gB 1 l=cQ ((bS l).map fun c=>c.2.1):=jdu rfl
theorem vW(l:List (Nat×Int×List Nat)):gB 2 l=bi ((bS l).map fun c=>c.2.1.toNat) 1:=(jdt (by omega)).trans (jdu rfl)
theorem vX(l:List (Nat×Int×List Nat)):gB 3 l=eL ((bS l).map fun c=>c.2.2):=(jdt (by omega)).trans (jdt (by omega))
theorem MB{k:Nat}{l:List (Nat×Int×List Nat)}(h:Col k l):(gB k l).length<=21526/\Bs (gB k l):=by
 obtain⟨hk,hm,hc⟩:=h;have ho:=ia l;obtain rfl | rfl | rfl:k=1∨k=2∨k=3:=by omega
 ·obtain⟨b1,b2⟩:=ke (iS hc).1 (by rw[jdz];omega)
  rw[vV];exact⟨by omega,b2⟩
 ·have hl:=eI (fM hc).1 (by rw[jdz];omega)
  rw[jdz]at hl;rw[vW];refine⟨?_,qH⟩;rw[hl];unfold by8;omega
 ·have hw:=mF (gO hc).1 (by rw[jdz];omega)
  rw[vX];exact hw
theorem iw{k:Nat}{l:List (Nat×Int×List Nat)}(h:Col k l):(eo k l).length<=21600/\Bs (eo k l):=by
 obtain⟨a1,a2⟩:=sE h.2.1;obtain⟨b1,b2⟩:=MB h;unfold eo;refine⟨?_,a2.append b2⟩;rw[jdy];omega
theorem De(l:List (Nat×Int×List Nat)):bS (bS l)=bS l:=by
 unfold bS;rw[List.filter_filter];simp
def Df(k:Nat)(c:Nat×Int×List Nat):Prop :=
 c=nul∨(k=1/\∃ n,c=(1,n,[])/\I64 n)∨(k=2/\∃ n:Nat,c=(2,(n:Int),[])/\n<2)∨(k=3/\∃ s,c=(3,0,s)/\Bs s)
theorem Df.short{k:Nat}{c:Nat×Int×List Nat}(h:Df k c)(hs:c.2.2.length<=64):gA k c:=by
 rcases h with h | h | h | ⟨h1,s,rfl,h2⟩
 ·exact Or.inl h
 ·exact Or.inr (Or.inl h)
 ·exact Or.inr (Or.inr (Or.inl h))
 ·exact Or.inr (Or.inr (Or.inr ⟨h1,s,rfl,hs,h2⟩))
theorem gA.short{k:Nat}{c:Nat×Int×List Nat}(h:gA k c):c.2.2.length<=64:=by
 rcases h with rfl | ⟨_,n,rfl,_⟩ | ⟨_,n,rfl,_⟩ | ⟨_,s,rfl,h,_⟩
 ·simp[nul]
 ·simp
 ·simp
 ·exact h
theorem iT{b:List Nat}{n:Int}(hb:Bs b)(h:(bq b n).2=0):((bq b n).1.length:Int)=n/\Is (bq b n).1:=by
 obtain⟨_,_,c,t,_,_,h1,h2,_⟩:=Mw hb (l:=(bq b n).1) (n:=n) (by rw[← h]);exact⟨h1,h2⟩
theorem Dg{b r:List Nat}{n:Int}{l:List Int}(hb:Bs b)(h:Mx b n=some (l,r)):(l.length:Int)=n/\Is l/\Bs r:=by
 unfold Mx at h;split at h
 ·split at h
  ·next h1 =>
   simp only[Option.some.injEq,Prod.mk.injEq]at h;obtain⟨rfl,rfl⟩:=h;have:=iT ((hb.drop _).take _) h1;exact⟨this.1,this.2,hb.drop _⟩
  ·simp at h
 ·simp at h
theorem vY:∀{s:List Int} {b r:List Nat} {l:List (List Nat)},Bs b->Db b s=some (l,r)->l.length=s.length/\(∀ x∈l,Bs x)/\Bs r
 | [],b,r,l,hb,h=>by
  simp only[Db,Option.some.injEq,Prod.mk.injEq]at h;obtain⟨rfl,rfl⟩:=h;exact⟨rfl,fun x hx=>by simp at hx,hb⟩
 | x::t,b,r,l,hb,h=>by
  unfold Db at h;split at h
  ·simp at h
  ·obtain⟨⟨l2,r2⟩,h1,h2⟩:=Option.map_eq_some_iff.1 h
   simp only[Prod.mk.injEq]at h2;obtain⟨rfl,rfl⟩:=h2;obtain⟨a1,a2,a3⟩:=vY (hb.drop _) h1;refine⟨by simp only[jdD,a1],fun y hy=>?_,a3⟩;rcases jdN.1 hy with rfl | hy
   ·exact hb.take _
   ·exact a2 y hy
theorem GJ{b:List Nat}{n:Nat}{l:List (List Nat)}(hb:Bs b)(h:mE b n=some l):l.length=n/\∀ x∈l,Bs x:=by
 cases b with
 | nil=>simp[mE]at h
 | cons x t =>
  have ht:Bs t:=fun y hy=>hb y (jeM _ hy)
  simp only[mE]at h;split at h
  ·obtain⟨⟨l2,r2⟩,h1,rfl⟩:=Option.map_eq_some_iff.1 h
   obtain⟨⟨s,r⟩,h2,h3⟩:=jfn.1 h1;obtain⟨a1,a2,a3⟩:=Dg ht h2;obtain⟨b1,b2,b3⟩:=vY a3 h3;have b4:l2.length=s.length:=b1;exact⟨by show l2.length=n;omega,b2⟩
  ·split at h
   ·split at h
    ·obtain⟨⟨s,r⟩,h2,h3⟩:=jfn.1 h
     obtain⟨⟨u,r2⟩,h4,h5⟩:=jfn.1 h3;obtain⟨a1,a2,a3⟩:=Dg (ht.drop _) h2;obtain⟨b1,b2,b3⟩:=vY a3 h4;simp only at h5;split at h5
     ·next h6 =>
      obtain⟨c1,c2⟩:=iT b3 h6;unfold Rx at h5;split at h5
      ·next h7 =>
       cases h5
       refine⟨by rw[jdz];omega,fun x hx=>?_⟩;obtain⟨q,hq,rfl⟩:=jdR.1 hx;have nj:=h7 q hq;have aB:q.toNat<u.length:=(by omega);rw[List.getD_eq_getElem?_getD,List.getElem?_eq_getElem aB];exact b2 _ (jdA aB)
      ·simp at h5
     ·simp at h5
    ·simp at h
   ·simp at h
theorem kW{b:List Nat}{n:Nat}(h:unE b n 1=0):(unR b n 1).length=n/\∀ x∈unR b n 1,x<2:=by
 unfold unR;rw[jdu h];refine⟨by rw[dR];simp,fun x hx=>?_⟩;have:=AH hx;simpa using this
theorem MC{b r th:List Nat}{n:Nat}(hb:Bs b)(h:yY b n=some (th,r)):th.length=n/\(∀ x∈th,x<2)/\Bs r:=by
 cases b with
 | nil=>simp[yY]at h
 | cons x t =>
  have ht:Bs t:=fun y hy=>hb y (jeM _ hy)
  simp only[yY]at h;split at h
  ·simp only[Option.some.injEq,Prod.mk.injEq]at h
   obtain⟨rfl,rfl⟩:=h;exact⟨List.length_replicate,fun y hy=>by have:=jff hy;omega,ht⟩
  ·split at h
   ·split at h
    ·next h1 =>
     simp only[Option.some.injEq,Prod.mk.injEq]at h;obtain⟨rfl,rfl⟩:=h;have:=kW h1.2;exact⟨this.1,this.2,ht.drop _⟩
    ·simp at h
   ·simp at h
theorem Rz{k:Nat}{b:List Nat}{n:Nat}{o:List (Nat×Int×List Nat)}(hk:1<=k/\k<=3)(hb:Bs b)(h:GI k b n=some o):o.length=n/\∀ c∈o,Df k c:=by
 unfold GI at h;obtain rfl | rfl | rfl:k=1∨k=2∨k=3:=by omega
 ·rw[jdu rfl]at h
  split at h
  ·next h1 =>
   cases h
   obtain⟨a1,a2⟩:=iT hb h1;refine⟨by rw[jdz];omega,fun c hc=>?_⟩;obtain⟨x,hx,rfl⟩:=jdR.1 hc;exact Or.inr (Or.inl ⟨rfl,x,rfl,a2 x hx⟩)
  ·simp at h
 ·rw[jdt (by omega),jdu rfl]at h
  split at h
  ·next h1 =>
   cases h
   obtain⟨a1,a2⟩:=kW h1;refine⟨by rw[jdz];exact a1,fun c hc=>?_⟩;obtain⟨x,hx,rfl⟩:=jdR.1 hc;exact Or.inr (Or.inr (Or.inl ⟨rfl,x,rfl,a2 x hx⟩))
  ·simp at h
 ·rw[jdt (by omega),jdt (by omega)]at h
  obtain⟨l,h1,rfl⟩:=Option.map_eq_some_iff.1 h;obtain⟨a1,a2⟩:=GJ hb h1;refine⟨by rw[jdz];exact a1,fun c hc=>?_⟩;obtain⟨x,hx,rfl⟩:=jdR.1 hc;exact Or.inr (Or.inr (Or.inr ⟨rfl,x,rfl,a2 x hx⟩))
theorem oG{P:Nat×Int×List Nat->Prop}(h0:P nul):∀{th:List Nat} {o:List (Nat×Int×List Nat)},(∀ c∈o,P c)->(hO th o).length=th.length/\∀ c∈hO th o,P c
 | [],o,h=>⟨rfl,fun c hc=>by simp[hO]at hc⟩
 | x::t,o,h=>by
  unfold hO;split
  ·obtain⟨a1,a2⟩:=oG h0 (th:=t) h
   refine⟨by simp only[jdD,a1],fun c hc=>?_⟩;rcases jdN.1 hc with rfl | hc
   ·exact h0
   ·exact a2 c hc
  ·obtain⟨a1,a2⟩:=oG h0 (th:=t) (o:=o.tail) fun c hc=>h c (List.mem_of_mem_tail hc)
   refine⟨by simp only[jdD,a1],fun c hc=>?_⟩;rcases jdN.1 hc with rfl | hc
   ·cases o with
    | nil=>exact h0
    | cons y s=>exact h y (by simp)
   ·exact a2 c hc
theorem RA{k:Nat}{b:List Nat}{n:Nat}{l:List (Nat×Int×List Nat)}(hk:1<=k/\k<=3)(hb:Bs b)(h:Ww k b n=some l):l.length=n/\∀ c∈l,Df k c:=by
 obtain⟨⟨th,r⟩,h1,h2⟩:=jfn.1 h;obtain⟨o,h3,rfl⟩:=Option.map_eq_some_iff.1 h2;obtain⟨a1,a2,a3⟩:=MC hb h1;obtain⟨b1,b2⟩:=Rz hk a3 h3;obtain⟨c1,c2⟩:=oG (P:=Df k) (Or.inl rfl) (th:=th) b2;exact⟨c1.trans a1,c2⟩
def gC(k:Nat)(b:List Nat)(n:Nat):Option (List (Nat×Int×List Nat)) :=
 (Ww k b n).bind fun l=>if (∀ c∈l,c.2.2.length<=64)/\eo k l=b then some l else none
theorem lU{k:Nat}{b:List Nat}{n:Nat}{l:List (Nat×Int×List Nat)}(hk:1<=k/\k<=3)(hn:n<=256)(hb:Bs b):gC k b n=some l↔Col k l/\l.length=n/\eo k l=b:=by
 constructor
 ·intro h
  obtain⟨l2,h1,h2⟩:=jfn.1 h;split at h2
  ·next h3 =>
   cases h2
   obtain⟨a1,a2⟩:=RA hk hb h1;exact⟨⟨hk,by omega,fun c hc=>(a2 c hc).short (h3.1 c hc)⟩,a1,h3.2⟩
  ·simp at h2
 ·rintro⟨h1,rfl,rfl⟩
  unfold gC;rw[Ry h1,Option.bind_some];simp only;rw[jdu ⟨fun c hc=>(h1.2.2 c hc).short,trivial⟩]
theorem GK{k:Nat}{l:List (Nat×Int×List Nat)}(h:Col k l):gC k (eo k l) l.length=some l :=
 (lU h.1 h.2.1 (iw h).2).2 ⟨h,rfl,rfl⟩
def dU(k:Nat)(l:List (Nat×Int×List Nat)):List Nat×Nat :=
 if 1<=k/\k<=3/\∀ c∈l,c.1=0∨c.1=k then
  (if l.length<=256/\∀ c∈l,c.2.2.length<=64 then (eo k l,0) else ([],5))
 else ([],10)
theorem gA.kind{k:Nat}{c:Nat×Int×List Nat}(h:gA k c):c.1=0∨c.1=k:=by
 rcases h with rfl | ⟨rfl,n,rfl,_⟩ | ⟨rfl,n,rfl,_⟩ | ⟨rfl,s,rfl,_⟩
 ·exact Or.inl rfl
 ·exact Or.inr rfl
 ·exact Or.inr rfl
 ·exact Or.inr rfl
theorem kp{k:Nat}{l:List (Nat×Int×List Nat)}(h:Col k l):dU k l=(eo k l,0):=by
 unfold dU;rw[jdu ⟨h.1.1,h.1.2,fun c hc=>(h.2.2 c hc).kind⟩,jdu ⟨h.2.1,fun c hc=>(h.2.2 c hc).short⟩]
end Go.Proofs.YtpljdjmpamjkhaaGreatDoor
