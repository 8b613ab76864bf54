import Derived.Test.YtpljdjmpamjkhaaGreatDoorSac
set_option linter.all false
namespace Go.Proofs.YtpljdjmpamjkhaaGreatDoor
open Tryz
open Go.Lib
def pk(w:Nat):List Nat->Nat
 | []=>0
 | n::t=>n+2 ^ w*pk w t
def dig(w:Nat):Nat->Nat->List Nat
 | 0,_=>[]
 | n+1,N=>N % 2 ^ w::dig w n (N / 2 ^ w)
def dj(w:Nat):∀ n N,(dig w n N).length=n
 | 0,_=>rfl
 | n+1,N=>by simp[dig,dj w n]
def gZ(w n:Nat):2 ^ (w*(n+1))=2 ^ w*2 ^ (w*n):=by
 rw[jfI,Nat.mul_one,Nat.add_comm,jfD]
def Sy(w:Nat):∀ n N,pk w (dig w n N)=N % 2 ^ (w*n)
 | 0,N=>by simp[dig,pk,Nat.mod_one]
 | n+1,N=>by
  show N % 2 ^ w+2 ^ w*pk w (dig w n (N / 2 ^ w))=_
  rw[Sy w n,gZ,Nat.mod_mul]
def Bl{w:Nat}:∀{l:List Nat},(∀ x∈l,x<2 ^ w)->dig w l.length (pk w l)=l
 | [],_=>rfl
 | n::t,h=>by
  have hn:=h n (by simp);show (n+2 ^ w*pk w t) % 2 ^ w::dig w t.length ((n+2 ^ w*pk w t) / 2 ^ w)=_
  rw[Nat.add_mul_mod_self_left,jfA hn,Nat.add_mul_div_left _ _ (jfv w),Nat.div_eq_of_lt hn,jeU,
   Bl (λx hx=>h x (by simp[hx]))]
def DB{w:Nat}:∀{l:List Nat},(∀ x∈l,x<2 ^ w)->pk w l<2 ^ (w*l.length)
 | [],_=>by simp[pk]
 | n::t,h=>by
  have hn:=h n (by simp);have ht:=DB (w:=w) (l:=t) (λx hx=>h x (by simp[hx]));show n+2 ^ w*pk w t<2 ^ (w*(t.length+1))
  rw[gZ];have:2 ^ w*(pk w t+1)<=2 ^ w*2 ^ (w*t.length):=jfJ _ ht;rw[jfI,Nat.mul_one]at this;omega
def Bm(w:Nat):∀ n N i,i<n->(dig w n N)[i]?=some (N / 2 ^ (w*i) % 2 ^ w)
 | n+1,N,0,_=>by simp[dig]
 | n+1,N,i+1,h=>by
  show (dig w n (N / 2 ^ w))[i]?=_
  rw[Bm w n _ i (by omega),Nat.div_div_eq_div_mul,gZ]
def Bo{w x:Nat}:∀{n N},x∈dig w n N->x<2 ^ w
 | n+1,N,h=>by
  simp only[dig,jeL]at h;rcases h with rfl | h
  ·exact Nat.mod_lt _ (jfv w)
  ·exact Bo h
def zF(w:Nat):∀(a b:List Nat),pk w (a++b)=pk w a+2 ^ (w*a.length)*pk w b
 | [],b=>by simp[pk]
 | n::t,b=>by
  show n+2 ^ w*pk w (t++b)=n+2 ^ w*pk w t+2 ^ (w*(t.length+1))*pk w b
  rw[zF w t,gZ,jfI,jfR,jfG]
def Bp(w:Nat){l:List Nat}{i:Nat}(h:i<l.length):pk w (l.take (i+1))=pk w (l.take i)+l[i]*2 ^ (w*i):=by
 rw[jeO h,zF,jeH,jfp (by omega)];simp[pk,je6]
def Sz(w:Nat):∀{l:List Nat} {i:Nat} (c:Nat) (h:i<l.length),pk w (l.set i c)+l[i]*2 ^ (w*i)=pk w l+c*2 ^ (w*i)
 | n::t,0,c,_=>by simp[pk];omega
 | n::t,i+1,c,h=>by
  have hi:i<t.length:=by simpa using h
  show n+2 ^ w*pk w (t.set i c)+t[i]*2 ^ (w*(i+1))=n+2 ^ w*pk w t+c*2 ^ (w*(i+1))
  have:=jeG (2 ^ w*·) (Sz w (l:=t) (i:=i) c hi);simp only[jfI]at this;rw[gZ,<- jfR,<- jfR,je6 t[i],je6 c,jfR,jfR];omega
def SA{w:Nat}{l:List Nat}(h:∀ x∈l,x<2 ^ w){i:Nat}(hi:i<l.length):l[i]=pk w l / 2 ^ (w*i) % 2 ^ w:=by
 have h1:=Bm w l.length (pk w l) i hi;rw[Bl h,List.getElem?_eq_getElem hi]at h1;exact Option.some.inj h1
def DC(w:Nat):∀ n,pk w (List.replicate n 0)=0
 | 0=>rfl
 | n+1=>by
  show 0+2 ^ w*pk w (List.replicate n 0)=0
  rw[DC w n];simp
def cY(n:Nat):Nat:=if n=0 then 0 else n.log2+1
def fL{n w:Nat}:cY n<=w↔n<2 ^ w:=by
 unfold cY;split
 ·next h=>subst h;simp[jfv]
 ·next h=>rw[Nat.add_one_le_iff,Nat.log2_lt h]
def Np{n:Nat}(h:n≠0):cY n=cY (n / 2)+1:=by
 have e:∀ k,cY (n / 2)<=k↔cY n<=k+1:=λk=>by
  rw[fL,fL,Nat.pow_succ,Nat.div_lt_iff_lt_mul (by omega)]
 have h1:=(e (cY (n / 2))).1 (jeA _);have hp:0<cY n:=by unfold cY;rw[jex h];omega
 have h2:=(e (cY n-1)).2 (by omega);omega
def Yj(a b:Nat):cY (a ||| b)=max (cY a) (cY b):=by
 have e:∀ k,cY (a ||| b)<=k↔cY a<=k/\cY b<=k:=λk=>by
  rw[fL,fL,fL];constructor
  ·intro h
   exact⟨jgq Nat.left_le_or h,jgq Nat.right_le_or h⟩
  ·intro h
   exact Nat.or_lt_two_pow h.1 h.2
 have h1:=(e _).1 (jeA _);have h2:=(e (max (cY a) (cY b))).2 ⟨by omega,by omega⟩;omega
def qJ(l:List Nat):Nat:=l.foldl (· ||| ·) 0
def mM{l:List Nat}{i:Nat}(h:i<l.length):qJ (l.take (i+1))=qJ (l.take i) ||| l[i]:=by
 unfold qJ;rw[jeO h,List.foldl_append];rfl
def wd(l:List Nat):Nat:=cY (qJ l)
def Bq{l:List Nat}{i:Nat}(h:i<l.length):wd (l.take (i+1))=max (wd (l.take i)) (cY l[i]):=by
 unfold wd;rw[mM h,Yj]
def jbS:wd []=0:=by decide
def wH{l:List Nat}{w:Nat}:∀ i,i<=l.length->(wd (l.take i)<=w↔∀ x∈l.take i,x<2 ^ w)
 | 0,_=>by simp[jbS]
 | i+1,h=>by
  rw[Bq (by omega),jeO (by omega)];simp only[je1,je9];have ih:=wH (l:=l) (w:=w) i (by omega);constructor
  ·intro h1 x hx
   rcases hx with hx | rfl
   ·exact ih.1 (by omega) x hx
   ·exact fL.1 (by omega)
  ·intro h1
   have h2:=ih.2 (λx hx=>h1 x (Or.inl hx));have h3:=fL.2 (h1 _ (Or.inr rfl));omega
def tZ{l:List Nat}{w:Nat}:wd l<=w↔∀ x∈l,x<2 ^ w:=by
 have:=wH (l:=l) (w:=w) l.length (jeA _);rwa[jeJ]at this
def SC{l:List Nat}(h:∀ x∈l,x<18446744073709551616):wd l<=64:=tZ.2 h
def or64{l:List Nat}(h:∀ x∈l,x<18446744073709551616)(i:Nat):qJ (l.take i)<18446744073709551616:=by
 have h1:wd (l.take i)<=64:=SC (λx hx=>h x (jfn hx));exact fL.1 h1
def by8(c:Nat):Nat:=(c+7) / 8
def can(l:List Nat)(w:Int):Bool:=decide (0<=w/\w<=64/\l.length<=256/\wd l<=w.toNat)
def bi(l:List Nat)(w:Int):List Nat:=if can l w then dig 8 (by8 (l.length*w.toNat)) (pk w.toNat l) else []
def unE(b:List Nat)(n w:Int):Nat :=
 if 0<=n/\n<=256/\0<=w/\w<=64 then (if b.length=by8 (n.toNat*w.toNat)/\pk 8 b<2 ^ (n.toNat*w.toNat) then 0 else 40) else 1
def unR(b:List Nat)(n w:Int):List Nat:=if unE b n w=0 then dig w.toNat n.toNat (pk 8 b) else []
def jbT{b:List Nat}{n w:Int}:∀ x∈unR b n w,x<18446744073709551616:=by
 intro x hx;unfold unR at hx;split at hx
 ·next h =>
  have h1:=Bo hx
  have hw:w.toNat<=64:=by
   unfold unE at h;split at h
   ·omega
   ·omega
  exact jeY h1 (jf1 (by omega) hw)
 ·simp at hx
def qK{l:List Nat}{w:Int}:∀ x∈bi l w,x<256:=by
 intro x hx;unfold bi at hx;split at hx
 ·exact Bo hx
 ·simp at hx
def Hn(c:Nat):c<=8*by8 c:=by unfold by8;omega
def DD{l:List Nat}{w:Nat}(h:can l w=true):unE (bi l w) l.length w=0/\unR (bi l w) l.length w=l:=by
 have hc:=h;unfold can at hc;simp only[jfb,je3]at hc;obtain⟨_,qr,hl,hw⟩:=hc;have ar:=tZ.1 hw;have ZT:=DB ar;have hP:bi l w=dig 8 (by8 (l.length*w)) (pk w l):=by unfold bi;rw[jey h];rfl
 have hB:pk 8 (bi l w)=pk w l:=by
  rw[hP,Sy,jfA];refine jeY ZT (jf1 (by omega) ?_);have:=Hn (l.length*w);rw[je6 w];exact this
 have hE:unE (bi l w) l.length w=0:=by
  unfold unE;rw[jey ⟨by omega,by omega,by omega,by omega⟩,jey];simp only[je3];exact⟨by rw[hP,dj],by rw[hB,je6];exact ZT⟩
 refine⟨hE,?_⟩;unfold unR;rw[jey hE,hB];simp only[je3];exact Bl ar
def w64(x:Int):Int:=(x+9223372036854775808) % 18446744073709551616-9223372036854775808
def kZ(x:Int):I64 (w64 x):=by unfold w64 I64;omega
def jbU{x:Int}(h:I64 x):w64 x=x:=by unfold I64 at h;unfold w64;omega
def SD{x last:Int}(h:I64 x):w64 (last+w64 (x-last))=x:=by unfold I64 at h;unfold w64;omega
def hO:List Int->List Nat
 | []=>[]
 | x::t=>wv x++hO t
def rd0:Nat->List Nat->Except Nat (List Int×List Nat)
 | 0,b=>.ok ([],b)
 | n+1,b=>aw wh (λx=>aw (rd0 n) (λl r=>.ok (x::l,r))) b
def SE:∀{l:List Int},(∀ x∈l,I64 x)->dw (rd0 l.length) (hO l) l
 | [],_=>dw.pure []
 | x::t,h=>by
  have ht:=SE (l:=t) (λy hy=>h y (by simp[hy]));exact(lJ (h x (by simp))).bind (f:=λx=>aw (rd0 t.length) (λl r=>.ok (x::l,r))) (ht.map (x::·))
def jO:Int->List Int->List Nat
 | _,[]=>[]
 | last,x::t=>wv (w64 (x-last))++jO x t
def rd1:Nat->Int->List Nat->Except Nat (List Int×List Nat)
 | 0,_,b=>.ok ([],b)
 | n+1,last,b=>aw wh (λd=>aw (rd1 n (w64 (last+d))) (λl r=>.ok (w64 (last+d)::l,r))) b
def SF:∀{l:List Int} (last:Int),(∀ x∈l,I64 x)->dw (rd1 l.length last) (jO last l) l
 | [],_,_=>dw.pure []
 | x::t,last,h=>by
  have hx:=h x (by simp);have ht:=SF (l:=t) x (λy hy=>h y (by simp[hy]));refine(lJ (kZ (x-last))).bind (f:=λd=>aw (rd1 t.length (w64 (last+d))) (λl r=>.ok (w64 (last+d)::l,r))) ?_;simp only[SD hx];exact ht.map (x::·)
def ic:Int->Nat->List Int->List Nat
 | x,c,[]=>wv x++uv c
 | x,c,y::t=>if y=x then ic x (c+1) t else wv x++uv c++ic y 1 t
def jP:List Int->List Nat
 | []=>[]
 | x::t=>ic x 1 t
def rd2:Nat->Nat->List Nat->Except Nat (List Int×List Nat)
 | 0,_,b=>.ok ([],b)
 | f+1,n,b=>if n=0 then .ok ([],b) else aw wh (λx=>aw num (λk=>if k=0∨n<k then (λ_=>.error 40) else aw (rd2 f (n-k)) (λl r=>.ok (List.replicate k x++l,r)))) b
def DE(f:Nat)(b:List Nat):rd2 f 0 b=.ok ([],b):=by
 cases f with
 | zero=>rfl
 | succ f=>unfold rd2;rw[jey rfl]
def Br:∀{t:List Int} {x:Int} {c f:Nat},(∀ y∈t,I64 y)->I64 x->1<=c->c+t.length<=1000000->t.length+1<=f ->
  dw (rd2 f (c+t.length)) (ic x c t) (List.replicate c x++t)
 | [],x,c,f,_,hx,hc,hm,hf=>by
  obtain⟨f,rfl⟩:∃ g,f=g+1:=⟨f-1,by simp at hf;omega⟩
  have h1:dw (λb=>aw wh (λx=>aw num (λk=>if k=0∨c<k then (λ_=>.error 40) else aw (rd2 f (c-k)) (λl r=>.ok (List.replicate k x++l,r)))) b) (wv x++uv c) (List.replicate c x++[]):=by
   refine(lJ hx).bind ?_
   have h2:=(lI (n:=c) (by simp at hm;omega)).bind (f:=λk=>if k=0∨c<k then (λ_=>.error 40) else aw (rd2 f (c-k)) (λl r=>.ok (List.replicate k x++l,r))) (e':=[]) (y:=List.replicate c x++[])
    (by
     rw[jex (by omega),jf4];have h3:dw (rd2 f 0) [] []:=⟨λr=>DE f _,λk h=>by simp at h⟩;exact h3.map (List.replicate c x++·))
   rwa[jeS]at h2
  have e:rd2 (f+1) (c+([]:List Int).length)=(λb=>aw wh (λx=>aw num (λk=>if k=0∨c<k then (λ_=>.error 40) else aw (rd2 f (c-k)) (λl r=>.ok (List.replicate k x++l,r)))) b):=by
   funext b
   show (if c=0 then _ else _)=_
   rw[jex (by omega)];rfl
  rw[e];exact h1
 | y::t,x,c,f,ht,hx,hc,hm,hf=>by
  by_cases GI:y=x
  ·subst GI
   have:=Br (t:=t) (x:=y) (c:=c+1) (f:=f) (λz hz=>ht z (by simp[hz])) hx (by omega) (by simp at hm;omega) (by simp at hf;omega);rw[show ic y c (y::t)=ic y (c+1) t by rw[ic,jey rfl],show c+(y::t).length=c+1+t.length by simp;omega];rw[show List.replicate c y++y::t=List.replicate (c+1) y++t by rw[List.replicate_succ'];simp];exact this
  ·obtain⟨f,rfl⟩:∃ g,f=g+1:=⟨f-1,by simp at hf;omega⟩
   have ih:=Br (t:=t) (x:=y) (c:=1) (f:=f) (λz hz=>ht z (by simp[hz])) (ht y (by simp)) (by omega) (by simp at hm;omega) (by simp at hf;omega);rw[show ic x c (y::t)=wv x++uv c++ic y 1 t by rw[ic,jex GI],jeQ]
   have e:rd2 (f+1) (c+(y::t).length)=(λb=>aw wh (λx=>aw num (λk=>if k=0∨c+(y::t).length<k then (λ_=>.error 40) else aw (rd2 f (c+(y::t).length-k)) (λl r=>.ok (List.replicate k x++l,r)))) b):=by
    funext b
    rw[rd2,jex (by omega)]
   rw[e];refine(lJ hx).bind ?_;refine(lI (n:=c) (by omega)).bind ?_;rw[jex (by omega),show c+(y::t).length-c=1+t.length by simp;omega];exact ih.map (List.replicate c x++·)
def jbV{l:List Int}(h:∀ x∈l,I64 x)(hm:l.length<=1000000):dw (rd2 l.length l.length) (jP l) l:=by
 cases l with
 | nil=>exact dw.pure []
 | cons x t =>
  have:=Br (t:=t) (x:=x) (c:=1) (f:=(x::t).length) (λz hz=>h z (by simp[hz])) (h x (by simp)) (by omega) (by simp at hm;omega) (by simp);rw[show 1+t.length=(x::t).length by simp;omega]at this;exact this
def ins(x:Int):List Int->List Int
 | []=>[x]
 | y::t=>if x=y then y::t else if x<y then x::y::t else y::ins x t
def eD(l:List Int):List Int:=l.foldl (λu x=>ins x u) []
def dm(l:List Int):Prop:=l.Pairwise (· < ·)
def Bt{x z:Int}:∀{u:List Int},z∈ins x u↔z=x∨z∈u
 | []=>by simp[ins]
 | y::t=>by
  have ih:=Bt (x:=x) (z:=z) (u:=t);unfold ins;split
  ·next h =>
   subst h;simp
  ·split
   ·simp
   ·simp only[jeL,ih]
    constructor
    ·rintro(h | h | h)
     ·exact Or.inr (Or.inl h)
     ·exact Or.inl h
     ·exact Or.inr (Or.inr h)
    ·rintro(h | h | h)
     ·exact Or.inr (Or.inl h)
     ·exact Or.inl h
     ·exact Or.inr (Or.inr h)
def wI{x:Int}:∀{u:List Int},dm u->dm (ins x u)
 | [],_=>by simp[ins,dm]
 | y::t,h=>by
  have h1:(∀ z∈t,y<z)/\dm t:=jfB.1 h;unfold ins;split
  ·exact h
  ·next dC =>
   split
   ·next ar =>
    refine jfB.2 ⟨λz hz=>?_,h⟩;rcases jeL.1 hz with rfl | hz
    ·exact ar
    ·exact Int.lt_trans ar (h1.1 z hz)
   ·next ar =>
    refine jfB.2 ⟨λz hz=>?_,wI h1.2⟩;rcases Bt.1 hz with rfl | hz
    ·omega
    ·exact h1.1 z hz
def sR:∀(l u:List Int),dm u->dm (l.foldl (λu x=>ins x u) u)/\∀ z,z∈l.foldl (λu x=>ins x u) u↔z∈u∨z∈l
 | [],u,h=>⟨h,λz=>by simp⟩
 | x::t,u,h=>by
  obtain⟨h1,h2⟩:=sR t (ins x u) (wI h);refine⟨h1,λz=>?_⟩;have:=h2 z;rw[Bt]at this;simp only[List.foldl_cons,jeL];rw[this];constructor
  ·rintro((h | h) | h)
   ·exact Or.inr (Or.inl h)
   ·exact Or.inl h
   ·exact Or.inr (Or.inr h)
  ·rintro(h | h | h)
   ·exact Or.inl (Or.inr h)
   ·exact Or.inl (Or.inl h)
   ·exact Or.inr h
def jc(l:List Int):dm (eD l):=(sR l [] List.Pairwise.nil).1
def ie{l:List Int}{z:Int}:z∈eD l↔z∈l:=by
 have:=(sR l [] List.Pairwise.nil).2 z;unfold eD;rw[this];simp
def wJ{x:Int}:∀{u:List Int},(ins x u).length<=u.length+1
 | []=>by simp[ins]
 | y::t=>by
  have:=wJ (x:=x) (u:=t);unfold ins;split
  ·simp
  ·split
   ·simp
   ·simp;omega
def lL:∀(l u:List Int),(l.foldl (λu x=>ins x u) u).length<=u.length+l.length
 | [],u=>by simp
 | x::t,u=>by
  have h1:=lL t (ins x u);have h2:=wJ (x:=x) (u:=u);simp only[List.foldl_cons,jeI];omega
def jd(l:List Int):(eD l).length<=l.length:=by
 have:=lL l [];unfold eD;simpa using this
def qL{l:List Int}(h:0<l.length):0<(eD l).length:=by
 have:l[0]∈eD l:=ie.2 (jeD h);exact List.length_pos_of_mem this
def qM{l:List Int}(h:∀ x∈l,I64 x):∀ x∈eD l,I64 x:=λx hx=>h x (ie.1 hx)
def pl:List Int->Int->Nat
 | [],_=>0
 | y::t,x=>if y=x then 0 else pl t x+1
def Bu{x:Int}:∀{u:List Int},x∈u->pl u x<u.length/\u[pl u x]?=some x
 | y::t,h=>by
  unfold pl;split
  ·next e=>subst e;simp
  ·next dC =>
   have ht:x∈t:=by
    rcases jeL.1 h with rfl | h
    ·exact absurd rfl dC
    ·exact h
   obtain⟨h1,h2⟩:=Bu ht;simp only[jeI,List.getElem?_cons_succ];exact⟨by omega,h2⟩
def jaO:∀{u:List Int} {i:Nat} (h:i<u.length),dm u->pl u u[i]=i
 | y::t,0,_,_=>by simp[pl]
 | y::t,i+1,h,hr=>by
  have hi:i<t.length:=by simpa using h
  have h1:(∀ z∈t,y<z)/\dm t:=jfB.1 hr;have h2:=h1.1 t[i] (jeD hi);show pl (y::t) t[i]=i+1
  unfold pl;rw[jex (by omega),jaO hi h1.2]
def places(l:List Int):List Nat:=l.map (pl (eD l))
def lu(l:List Int):(places l).length=l.length:=jeE _
def oe{l:List Int}:∀ p∈places l,p<(eD l).length:=by
 intro p hp;obtain⟨x,hx,rfl⟩:=jeN.1 hp;exact(Bu (ie.2 hx)).1
def Ho{l:List Int}(h:0<l.length):(eD l).length-1∈places l:=by
 have hu:=qL h;have hi:(eD l).length-1<(eD l).length:=by omega
 refine jeN.2 ⟨(eD l)[(eD l).length-1],ie.1 (jeD hi),?_⟩;exact jaO hi (jc l)
def zG{l:List Int}(h:0<l.length):wd (places l)=cY ((eD l).length-1):=by
 have hu:=qL h
 have e:∀ w,wd (places l)<=w↔cY ((eD l).length-1)<=w:=λw=>by
  rw[tZ,fL];constructor
  ·intro h1
   exact h1 _ (Ho h)
  ·intro h1 p hp
   have:=oe p hp;omega
 have h1:=(e _).1 (jeA _);have h2:=(e _).2 (jeA _);omega
def DF(l:List Int):(places l).map (λq=>(eD l).getD q 0)=l:=by
 unfold places;rw[jfa];conv=>rhs;rw[<- jfx l]
 apply jfy
 intro x hx;have:=(Bu (ie.2 hx)).2;simp[List.getD_eq_getElem?_getD,this]
def jG(l:List Int):Int:=(eD l).headD 0
def jW{l:List Int}(h:0<l.length):jG l∈l:=by
 have hu:=qL h;unfold jG;cases hq:eD l with
 | nil=>rw[hq]at hu;simp at hu
 | cons y t =>
  have:y∈eD l:=by rw[hq];simp
  exact ie.1 this
def qN{l:List Int}:∀ x∈l,jG l<=x:=by
 intro x hx;have h1:=ie.2 hx;have h2:=jc l;unfold jG;cases hq:eD l with
 | nil=>rw[hq]at h1;simp at h1
 | cons y t =>
  rw[hq]at h1 h2;have h3:(∀ z∈t,y<z)/\dm t:=jfB.1 h2;rcases jeL.1 h1 with rfl | h1
  ·exact Int.le_refl _
  ·exact Int.le_of_lt (h3.1 x h1)
def dY(l:List Int):List Nat:=l.map λx=>(x-jG l).toNat
def jQ(l:List Int):(dY l).length=l.length:=jeE _
def qO{l:List Int}(h:∀ x∈l,I64 x):∀ p∈dY l,p<18446744073709551616:=by
 intro p hp;obtain⟨x,hx,rfl⟩:=jeN.1 hp;have h1:=h x hx;have h2:=h _ (jW (List.length_pos_of_mem hx));have h3:=qN x hx;unfold I64 at h1 h2;omega
def Hp{l:List Int}(h:∀ x∈l,I64 x):(dY l).map (λ(q:Nat)=>w64 (jG l+(q:Int)))=l:=by
 unfold dY;rw[jfa];conv=>rhs;rw[<- jfx l]
 apply jfy
 intro x hx;have h1:=h x hx;have h3:=qN x hx;simp only[Function.comp,id];rw[show jG l+((x-jG l).toNat:Int)=x by omega];exact jbU h1
def pkd(n w:Nat)(b:List Nat):Except Nat (List Nat×List Nat) :=
 if b.length<by8 (n*w) then .error 30
 else if by8 (n*w)<b.length then .error 32
 else if unE b n w=0 then .ok (unR b n w,[]) else .error (unE b n w)
def Hq{p:List Nat}{w:Nat}(hl:p.length<=256)(hw:w<=64)(hp:wd p<=w):can p w=true:=by
 unfold can;exact jeP ⟨by omega,by omega,hl,by omega⟩
def ms{p:List Nat}{w:Nat}(h:can p w=true):(bi p w).length=by8 (p.length*w):=by
 unfold bi;rw[jey h,dj];rfl
def DG{p:List Nat}{w:Nat}(hl:p.length<=256)(hw:w<=64)(hp:wd p<=w):qI (pkd p.length w) (bi p w) p:=by
 have rY:=Hq hl hw hp;have bH:=ms rY;obtain⟨h1,h2⟩:=DD rY;refine⟨?_,λy r=>Or.inl ?_,λk hk=>?_⟩
 ·unfold pkd
  rw[jex (by omega),jex (by omega),jey h1,h2]
 ·unfold pkd
  rw[jex (by simp;omega),jey (by simp;omega)]
 ·unfold pkd
  rw[jey (by rw[jeH];omega)]
def pD:Int->List Int->List Nat
 | _,[]=>[]
 | last,y::t=>uv (y-last).toNat++pD y t
def kl:List Int->List Nat
 | []=>[]
 | x::t=>wv x++pD x t
def rdU:Nat->Int->List Nat->Except Nat (List Int×List Nat)
 | 0,_,b=>.ok ([],b)
 | m+1,last,b=>aw num (λ(d:Nat)=>if d=0∨9223372036854775807-last<(d:Int) then (λ_=>.error 40) else aw (rdU m (last+d)) (λl r=>.ok ((last+d)::l,r))) b
def SG:∀{t:List Int} {last:Int},dm (last::t)->I64 last->(∀ x∈t,I64 x)->dw (rdU t.length last) (pD last t) t
 | [],_,_,_,_=>dw.pure []
 | y::t,last,hr,hl,ht=>by
  have h1:(∀ z∈y::t,last<z)/\dm (y::t):=jfB.1 hr;have hy:=h1.1 y (by simp);have Wp:=ht y (by simp);have ih:=SG (t:=t) (last:=y) h1.2 Wp (λx hx=>ht x (by simp[hx]));unfold I64 at hl Wp;refine(lI (n:=(y-last).toNat) (by omega)).bind (f:=λ(d:Nat)=>if d=0∨9223372036854775807-last<(d:Int) then (λ_=>.error 40) else aw (rdU t.length (last+d)) (λl r=>.ok ((last+d)::l,r))) ?_;rw[jex (by omega),show last+((y-last).toNat:Int)=y by omega];exact ih.map (y::·)
def vd(l:List Int):List Nat:=uv (eD l).length++(kl (eD l)++bi (places l) (wd (places l):Int))
def picked(u:List Int)(p r:List Nat):Except Nat (List Int×List Nat):=if ∀ q∈p,q<u.length then .ok (p.map (λq=>u.getD q 0),r) else .error 40
def rd3(n:Nat)(b:List Nat):Except Nat (List Int×List Nat) :=
 aw num (λmany=>if n<many∨many=0/\0<n then (λ_=>.error 40) else if n=0 then (λr=>.ok ([],r)) else
  aw wh (λx=>aw (rdU (many-1) x) (λu=>aw (pkd n (cY (many-1))) (λp r=>picked (x::u) p r)))) b
def qI.picked{d:List Nat->Except Nat (List Nat×List Nat)}{e p:List Nat}{u:List Int}(h:qI d e p)(hp:∀ q∈p,q<u.length):qI (aw d (picked u)) e (p.map λq=>u.getD q 0):=by
 have hk:∀ r,YtpljdjmpamjkhaaGreatDoor.picked u p r=.ok (p.map (λq=>u.getD q 0),r):=λr=>by unfold YtpljdjmpamjkhaaGreatDoor.picked;rw[jey hp]
 refine⟨by rw[cB h.1,hk],λy r=>?_,λk hk=>bY (h.2.2 k hk)⟩;rcases h.2.1 y r with h1 | h1
 ·exact Or.inl (bY h1)
 ·exact Or.inr (by rw[cB h1,hk])
def DH{l:List Int}(hm:l.length<=256):wd (places l)<=64:=by
 refine tZ.2 (λp hp=>?_);have:=oe p hp;have:=jd l;have:p<256:=by omega
 exact jeY this (by decide)
def ends3{l:List Int}(h:∀ x∈l,I64 x)(hm:l.length<=256):qI (rd3 l.length) (vd l) l:=by
 have QN:=jd l;have mT:=lu l;have hwp:=DH hm;have Wq:=lI (n:=(eD l).length) (by omega);refine Wq.then ?_
 rcases jfs l.length with h0 | h0
 ·obtain rfl:l=[]:=jeW h0
  rw[jex (by simp[eD]),jey (show ([]:List Int).length=0 from rfl)]
  have e:kl (eD [])++bi (places []) (wd (places []):Int)=[]:=by
   have:bi (places []) (wd (places []):Int)=[]:=by
    have hc:=Hq (p:=places []) (w:=wd (places [])) (by simp[places]) hwp (jeA _);have h1:=ms hc;refine jeW (h1.trans ?_);simp[places,by8]
   rw[this];simp[eD,kl]
  rw[e];exact(dw.pure []).ends
 ·have hup:=qL h0
  rw[jex (by omega),jex (by omega)];have hr:=jc l;have hi:=qM h;have hb:=DF l;have ar:=oe (l:=l);have ZU:=zG h0;generalize places l=p at *;cases hu:eD l with
  | nil=>rw[hu]at hup;simp at hup
  | cons x t =>
   rw[hu]at hr hi hb ar ZU;have vZ:=DG (p:=p) (w:=wd p) (by omega) hwp (jeA _);rw[mT]at vZ;rw[show kl (x::t)=wv x++pD x t from rfl,jeQ];refine(lJ (hi x (by simp))).then ?_
   refine(SG hr (hi x (by simp)) (λz hz=>hi z (by simp[hz]))).then (f:=λu=>aw (pkd l.length (cY ((x::t).length-1))) (λp r=>picked (x::u) p r)) ?_
   rw[<- ZU];have:=vZ.picked (u:=x::t) ar;rw[hb]at this;exact this
def oQ(l:List Int):List Nat:=if l.length=0 then [] else wv (jG l)++(uv (wd (dY l))++bi (dY l) (wd (dY l):Int))
def rd4(n:Nat)(b:List Nat):Except Nat (List Int×List Nat) :=
 if n=0 then .ok ([],b) else
  aw wh (λx=>aw num (λw=>if 64<w then (λ_=>.error 40) else aw (pkd n w) (λp r=>.ok (p.map (λ(q:Nat)=>w64 (x+(q:Int))),r)))) b
def ends4{l:List Int}(h:∀ x∈l,I64 x)(hm:l.length<=256):qI (rd4 l.length) (oQ l) l:=by
 rcases jfs l.length with h0 | h0
 ·obtain rfl:l=[]:=jeW h0
  exact(dw.pure ([]:List Int)).ends
 ·have hml:=jQ l
  have hw:=SC (qO h);have vZ:=DG (p:=dY l) (w:=wd (dY l)) (by omega) hw (jeA _);rw[hml]at vZ;have mX:=vZ.map (λp=>p.map (λ(q:Nat)=>w64 (jG l+(q:Int))));rw[Hp h]at mX
  have Wq:qI (aw num (λw=>if 64<w then (λ_=>.error 40) else aw (pkd l.length w) (λp r=>.ok (p.map (λ(q:Nat)=>w64 (jG l+(q:Int))),r)))) (uv (wd (dY l))++bi (dY l) (wd (dY l):Int)) l:=by
   refine(lI (n:=wd (dY l)) (by omega)).then ?_
   rw[jex (by omega)];exact mX
  have ch:=(lJ (h _ (jW h0))).then (f:=λx=>aw num (λw=>if 64<w then (λ_=>.error 40) else aw (pkd l.length w) (λp r=>.ok (p.map (λ(q:Nat)=>w64 (x+(q:Int))),r)))) Wq
  have e1:oQ l=wv (jG l)++(uv (wd (dY l))++bi (dY l) (wd (dY l):Int)):=by unfold oQ;rw[jex (by omega)]
  have e2:rd4 l.length=aw wh (λx=>aw num (λw=>if 64<w then (λ_=>.error 40) else aw (pkd l.length w) (λp r=>.ok (p.map (λ(q:Nat)=>w64 (x+(q:Int))),r)))):=by
   funext b
   unfold rd4;rw[jex (by omega)]
  rw[e1,e2];exact ch
def km(c:Nat)(l:List Int):List Nat :=
 match c with
 | 0=>hO l
 | 1=>jO 0 l
 | 2=>jP l
 | 3=>vd l
 | _=>oQ l
def rdC(c n:Nat):List Nat->Except Nat (List Int×List Nat) :=
 match c with
 | 0=>rd0 n
 | 1=>rd1 n 0
 | 2=>rd2 n n
 | 3=>rd3 n
 | _=>rd4 n
def endsC(c:Nat){l:List Int}(h:∀ x∈l,I64 x)(hm:l.length<=256):qI (rdC c l.length) (km c l) l:=by
 unfold rdC km;split
 ·exact(SE h).ends
 ·exact(SF 0 h).ends
 ·exact(jbV h (by omega)).ends
 ·exact ends3 h hm
 ·exact ends4 h hm
def mN(c n:Nat)(b:List Nat):Except Nat (List Int) :=
 match rdC c n b with
 | .error e=>.error e
 | .ok (l,r)=>if r.length=0 then (if km c l=b then .ok l else .error 40) else .error 32
def aU(b:List Nat)(n:Int):List Int×Nat :=
 if 0<=n/\n<=256 then
  match b with
  | []=>([],30)
  | c::t=>if 4<c then ([],50) else match mN c n.toNat t with
   | .ok l=>(l,0)
   | .error e=>([],e)
 else ([],1)
def Hr(c:Nat){l:List Int}(h:∀ x∈l,I64 x)(hm:l.length<=256):mN c l.length (km c l)=.ok l:=by
 unfold mN;rw[(endsC c h hm).1];simp
def Hs{c:Nat}(hc:c<=4){l:List Int}(h:∀ x∈l,I64 x)(hm:l.length<=256):aU (c::km c l) l.length=(l,0):=by
 unfold aU;rw[jey (by omega)];simp only[je3];rw[jex (by omega),Hr c h hm]
def bS{α β : Type}{d:List Nat->Except Nat (α×List Nat)}{f:α->List Nat->Except Nat (β×List Nat)}{b r:List Nat}{y:β}(h:aw d f b=.ok (y,r)) :
  ∃ x q,d b=.ok (x,q)/\f x q=.ok (y,r):=by
 unfold aw at h;split at h
 ·next x q e=>exact⟨x,q,e,h⟩
 ·simp at h
def Bs.right{a b:List Nat}(h:Bs (a++b)):Bs b:=λx hx=>h x (je1.2 (Or.inr hx))
def Bv{b r:List Nat}{n:Nat}(hb:Bs b)(h:num b=.ok (n,r)):n<18446744073709551616/\Bs r:=by
 obtain⟨h1,h2⟩:=jbP hb h;exact⟨h1,by rw[h2]at hb;exact hb.right⟩
def wK{b r:List Nat}{x:Int}(hb:Bs b)(h:wh b=.ok (x,r)):I64 x/\Bs r:=by
 obtain⟨h1,h2⟩:=wh_ok hb h;exact⟨h1,by rw[h2]at hb;exact hb.right⟩
def Is(l:List Int):Prop:=∀ x∈l,I64 x
def Is.cons{x:Int}{l:List Int}(h:I64 x)(hl:Is l):Is (x::l):=λy hy=>by
 rcases jeL.1 hy with rfl | hy
 ·exact h
 ·exact hl y hy
def LO:∀{n:Nat} {b r:List Nat} {l:List Int},Bs b->rd0 n b=.ok (l,r)->l.length=n/\Is l/\Bs r
 | 0,b,r,l,hb,h=>by
  simp only[rd0,Except.ok.injEq,Prod.mk.injEq]at h;obtain⟨rfl,rfl⟩:=h;exact⟨rfl,λx hx=>by simp at hx,hb⟩
 | n+1,b,r,l,hb,h=>by
  rw[rd0]at h;obtain⟨x,q,h1,h2⟩:=bS h;obtain⟨m,q2,h3,h4⟩:=bS h2;obtain⟨i1,i2⟩:=wK hb h1;obtain⟨j1,j2,j3⟩:=LO i2 h3;simp only[Except.ok.injEq,Prod.mk.injEq]at h4;obtain⟨rfl,rfl⟩:=h4;exact⟨by simp[j1],j2.cons i1,j3⟩
def LP:∀{n:Nat} {last:Int} {b r:List Nat} {l:List Int},Bs b->rd1 n last b=.ok (l,r)->l.length=n/\Is l/\Bs r
 | 0,last,b,r,l,hb,h=>by
  simp only[rd1,Except.ok.injEq,Prod.mk.injEq]at h;obtain⟨rfl,rfl⟩:=h;exact⟨rfl,λx hx=>by simp at hx,hb⟩
 | n+1,last,b,r,l,hb,h=>by
  rw[rd1]at h;obtain⟨x,q,h1,h2⟩:=bS h;obtain⟨m,q2,h3,h4⟩:=bS h2;obtain⟨i1,i2⟩:=wK hb h1;obtain⟨j1,j2,j3⟩:=LP i2 h3;simp only[Except.ok.injEq,Prod.mk.injEq]at h4;obtain⟨rfl,rfl⟩:=h4;exact⟨by simp[j1],j2.cons (kZ _),j3⟩
def LQ:∀{f n:Nat} {b r:List Nat} {l:List Int},n<=f->Bs b->rd2 f n b=.ok (l,r)->l.length=n/\Is l/\Bs r
 | 0,n,b,r,l,hf,hb,h=>by
  simp only[rd2,Except.ok.injEq,Prod.mk.injEq]at h;obtain⟨rfl,rfl⟩:=h;exact⟨by simp;omega,λx hx=>by simp at hx,hb⟩
 | f+1,n,b,r,l,hf,hb,h=>by
  rw[rd2]at h;split at h
  ·simp only[Except.ok.injEq,Prod.mk.injEq]at h
   obtain⟨rfl,rfl⟩:=h;exact⟨by simp;omega,λx hx=>by simp at hx,hb⟩
  ·obtain⟨x,q,h1,h2⟩:=bS h
   obtain⟨i1,i2⟩:=wK hb h1;obtain⟨k,q2,h3,h4⟩:=bS h2;obtain⟨_,i3⟩:=Bv i2 h3;split at h4
   ·simp at h4
   ·obtain⟨m,q3,h5,h6⟩:=bS h4
    obtain⟨j1,j2,j3⟩:=LQ (by omega) i3 h5;simp only[Except.ok.injEq,Prod.mk.injEq]at h6;obtain⟨rfl,rfl⟩:=h6;refine⟨by simp[j1];omega,λy hy=>?_,j3⟩;rcases je1.1 hy with hy | hy
    ·rw[jgj hy];exact i1
    ·exact j2 y hy
def LR:∀{m:Nat} {last:Int} {b r:List Nat} {l:List Int},I64 last->Bs b->rdU m last b=.ok (l,r)->l.length=m/\Is l/\Bs r
 | 0,last,b,r,l,hl,hb,h=>by
  simp only[rdU,Except.ok.injEq,Prod.mk.injEq]at h;obtain⟨rfl,rfl⟩:=h;exact⟨rfl,λx hx=>by simp at hx,hb⟩
 | m+1,last,b,r,l,hl,hb,h=>by
  rw[rdU]at h;obtain⟨d,q,h1,h2⟩:=bS h;obtain⟨_,i2⟩:=Bv hb h1;split at h2
  ·simp at h2
  ·next hd =>
   have hi:I64 (last+d):=by unfold I64 at hl ⊢;omega
   obtain⟨m',q2,h3,h4⟩:=bS h2;obtain⟨j1,j2,j3⟩:=LR hi i2 h3;simp only[Except.ok.injEq,Prod.mk.injEq]at h4;obtain⟨rfl,rfl⟩:=h4;exact⟨by simp[j1],j2.cons hi,j3⟩
def LS{n w:Nat}{b r p:List Nat}(h:pkd n w b=.ok (p,r)):p.length=n/\r=[]:=by
 unfold pkd at h;split at h
 ·simp at h
 ·split at h
  ·simp at h
  ·split at h
   ·next hE =>
    simp only[Except.ok.injEq,Prod.mk.injEq]at h;obtain⟨rfl,rfl⟩:=h;refine⟨?_,rfl⟩;rw[unR,jey hE,dj];rfl
   ·simp at h
def Yk{n:Nat}{b r:List Nat}{l:List Int}(hb:Bs b)(h:rd3 n b=.ok (l,r)):l.length=n/\Is l/\Bs r:=by
 unfold rd3 at h;obtain⟨many,q,h1,h2⟩:=bS h;obtain⟨_,i2⟩:=Bv hb h1;split at h2
 ·simp at h2
 ·split at h2
  ·simp only[Except.ok.injEq,Prod.mk.injEq]at h2
   obtain⟨rfl,rfl⟩:=h2;exact⟨by simp;omega,λx hx=>by simp at hx,i2⟩
  ·obtain⟨x,q2,h3,h4⟩:=bS h2
   obtain⟨i3,i4⟩:=wK i2 h3;obtain⟨u,q3,h5,h6⟩:=bS h4;obtain⟨j1,j2,j3⟩:=LR i3 i4 h5;obtain⟨p,q4,h7,h8⟩:=bS h6;obtain⟨k1,rfl⟩:=LS h7;unfold picked at h8;split at h8
   ·next hp =>
    simp only[Except.ok.injEq,Prod.mk.injEq]at h8;obtain⟨rfl,rfl⟩:=h8;refine⟨by simp[k1],λy hy=>?_,λy hy=>by simp at hy⟩;obtain⟨z,hz,rfl⟩:=jeN.1 hy;have ar:=hp z hz;rw[List.getD_eq_getElem?_getD,List.getElem?_eq_getElem ar];exact(j2.cons i3) _ (jeD ar)
   ·simp at h8
def Yl{n:Nat}{b r:List Nat}{l:List Int}(hb:Bs b)(h:rd4 n b=.ok (l,r)):l.length=n/\Is l/\Bs r:=by
 unfold rd4 at h;split at h
 ·simp only[Except.ok.injEq,Prod.mk.injEq]at h
  obtain⟨rfl,rfl⟩:=h;exact⟨by simp;omega,λx hx=>by simp at hx,hb⟩
 ·obtain⟨x,q,h1,h2⟩:=bS h
  obtain⟨i1,i2⟩:=wK hb h1;obtain⟨w,q2,h3,h4⟩:=bS h2;split at h4
  ·simp at h4
  ·obtain⟨p,q3,h5,h6⟩:=bS h4
   obtain⟨k1,rfl⟩:=LS h5;simp only[Except.ok.injEq,Prod.mk.injEq]at h6;obtain⟨rfl,rfl⟩:=h6;refine⟨by simp[k1],λy hy=>?_,λy hy=>by simp at hy⟩;obtain⟨z,_,rfl⟩:=jeN.1 hy;exact kZ _
def Ym{c n:Nat}{b r:List Nat}{l:List Int}(hb:Bs b)(h:rdC c n b=.ok (l,r)):l.length=n/\Is l/\Bs r:=by
 unfold rdC at h;split at h
 ·exact LO hb h
 ·exact LP hb h
 ·exact LQ (jeA _) hb h
 ·exact Yk hb h
 ·exact Yl hb h
def Nq{c n:Nat}{b:List Nat}{l:List Int}(hb:Bs b)(h:mN c n b=.ok l):l.length=n/\Is l/\km c l=b:=by
 unfold mN at h;split at h
 ·simp at h
 ·next l' r e =>
  split at h
  ·split at h
   ·next h2 =>
    simp only[Except.ok.injEq]at h;subst h;obtain⟨h3,h4,_⟩:=Ym hb e;exact⟨h3,h4,h2⟩
   ·simp at h
  ·simp at h
def cZ{α β : Type}{d:List Nat->Except Nat (α×List Nat)}{f:α->List Nat->Except Nat (β×List Nat)}(h1:∀ b,d b≠.error 0)(h2:∀ x b,f x b≠.error 0)(b:List Nat):aw d f b≠.error 0:=by
 unfold aw;split
 ·exact h2 _ _
 ·next e he =>
  intro h;simp only[Except.error.injEq]at h;subst h;exact h1 b he
def Bw(b:List Nat):num b≠.error 0:=by
 unfold num;split
 ·simp
 ·next h=>intro e;simp only[Except.error.injEq]at e;exact h e
def DI(b:List Nat):wh b≠.error 0:=by
 unfold wh;split
 ·simp
 ·next h=>intro e;simp only[Except.error.injEq]at e;exact h e
def SH(n w:Nat)(b:List Nat):pkd n w b≠.error 0:=by
 unfold pkd;split
 ·simp
 ·split
  ·simp
  ·split
   ·simp
   ·next h=>intro e;simp only[Except.error.injEq]at e;exact h e
def SI:∀(n:Nat) (b:List Nat),rd0 n b≠.error 0
 | 0,b=>by simp[rd0]
 | n+1,b=>cZ DI (λx=>cZ (SI n) (λl r=>by simp)) b
def SJ:∀(n:Nat) (last:Int) (b:List Nat),rd1 n last b≠.error 0
 | 0,last,b=>by simp[rd1]
 | n+1,last,b=>cZ DI (λd=>cZ (SJ n _) (λl r=>by simp)) b
def SK:∀(f n:Nat) (b:List Nat),rd2 f n b≠.error 0
 | 0,n,b=>by simp[rd2]
 | f+1,n,b=>by
  rw[rd2];split
  ·simp
  ·refine cZ DI (λx=>cZ Bw (λk q=>?_)) b
   split
   ·simp
   ·exact cZ (SK f _) (λl r=>by simp) q
def SL:∀(m:Nat) (last:Int) (b:List Nat),rdU m last b≠.error 0
 | 0,last,b=>by simp[rdU]
 | m+1,last,b=>by
  rw[rdU];refine cZ Bw (λd q=>?_) b;split
  ·simp
  ·exact cZ (SL m _) (λl r=>by simp) q
def jbW(n:Nat)(b:List Nat):rd3 n b≠.error 0:=by
 unfold rd3;refine cZ Bw (λmany q=>?_) b;split
 ·simp
 ·split
  ·simp
  ·refine cZ DI (λx=>cZ (SL _ _) (λu=>cZ (SH _ _) (λp r=>?_))) q
   unfold picked;split<;>simp
def jbX(n:Nat)(b:List Nat):rd4 n b≠.error 0:=by
 unfold rd4;split
 ·simp
 ·refine cZ DI (λx=>cZ Bw (λw q=>?_)) b
  split
  ·simp
  ·exact cZ (SH _ _) (λp r=>by simp) q
def jbY(c n:Nat)(b:List Nat):rdC c n b≠.error 0:=by
 unfold rdC;split
 ·exact SI n b
 ·exact SJ n 0 b
 ·exact SK n n b
 ·exact jbW n b
 ·exact jbX n b
def SN(c n:Nat)(b:List Nat):mN c n b≠.error 0:=by
 unfold mN;split
 ·next e he =>
  intro h;simp only[Except.error.injEq]at h;subst h;exact jbY c n b he
 ·split
  ·split<;>simp
  ·simp
def Nr{b:List Nat}{n:Int}{l:List Int}(hb:Bs b)(h:aU b n=(l,0)):0<=n/\n<=256/\∃ c t,b=c::t/\c<=4/\(l.length:Int)=n/\Is l/\km c l=t:=by
 unfold aU at h;split at h
 ·next hn =>
  refine⟨hn.1,hn.2,?_⟩;split at h
  ·simp at h
  ·next c t =>
   split at h
   ·simp at h
   ·next hc =>
    split at h
    ·next l' e =>
     simp only[Prod.mk.injEq,and_true]at h;subst h;obtain⟨h1,h2,h3⟩:=Nq (λx hx=>hb x (by simp[hx])) e;exact⟨c,t,rfl,by omega,by omega,h2,h3⟩
    ·next e he =>
     simp only[Prod.mk.injEq]at h;rw[h.2]at he;exact absurd he (SN _ _ _)
 ·simp at h
def kn(l:List Int):Nat->List Nat
 | 0=>0::km 0 l
 | c+1=>if (km (c+1) l).length+1<(kn l c).length then (c+1)::km (c+1) l else kn l c
def ld(l:List Int):∀ k,∃ c,c<=k/\kn l k=c::km c l
 | 0=>⟨0,jeA _,rfl⟩
 | k+1=>by
  rw[kn];split
  ·exact⟨k+1,jeA _,rfl⟩
  ·obtain⟨c,h1,h2⟩:=ld l k
   exact⟨c,by omega,h2⟩
def og(l:List Int):∀ k c,c<=k->(kn l k).length<=(km c l).length+1
 | 0,c,h=>by
  obtain rfl:c=0:=by omega
  simp[kn]
 | k+1,c,h=>by
  rw[kn];split
  ·next ar =>
   rcases je0 k c with h1 | h1
   ·obtain rfl:c=k+1:=by omega
    simp
   ·have:=og l k c h1
    simp
    omega
  ·next ar =>
   rcases je0 k c with h1 | h1
   ·obtain rfl:c=k+1:=by omega
    omega
   ·exact og l k c h1
def oh:∀{l:List Int},Is l->(hO l).length<=10*l.length/\Bs (hO l)
 | [],_=>⟨by simp[hO],λx hx=>by simp[hO]at hx⟩
 | x::t,h=>by
  obtain⟨h1,h2⟩:=oh (l:=t) (λy hy=>h y (by simp[hy]));have h3:=iJ (h x (by simp));refine⟨by simp[hO];omega,λy hy=>?_⟩;rcases je1.1 hy with hy | hy
  ·exact zC y hy
  ·exact h2 y hy
def sS:∀{l:List Int} {last:Int},(jO last l).length<=10*l.length/\Bs (jO last l)
 | [],_=>⟨by simp[jO],λx hx=>by simp[jO]at hx⟩
 | x::t,last=>by
  obtain⟨h1,h2⟩:=sS (l:=t) (last:=x);have h3:=iJ (kZ (x-last));refine⟨by simp[jO];omega,λy hy=>?_⟩;rcases je1.1 hy with hy | hy
  ·exact zC y hy
  ·exact h2 y hy
def Bs.append{a b:List Nat}(ha:Bs a)(hb:Bs b):Bs (a++b):=λx hx=>by
 rcases je1.1 hx with hx | hx
 ·exact ha x hx
 ·exact hb x hx
def mt:∀{t:List Int} {x:Int} {c:Nat},Is t->I64 x->c+t.length<=1000000->(ic x c t).length<=20*(t.length+1)/\Bs (ic x c t)
 | [],x,c,ht,hx,hc=>by
  have h3:=iJ hx;have h4:=cG (n:=c) (by simp at hc;omega);refine⟨by simp[ic];omega,?_⟩;rw[ic];exact Bs.append zC gL
 | y::t,x,c,ht,hx,hc=>by
  have h3:=iJ hx;have h4:=cG (n:=c) (by omega);rw[ic];split
  ·obtain⟨h1,h2⟩:=mt (t:=t) (x:=x) (c:=c+1) (λz hz=>ht z (by simp[hz])) hx (by simp at hc;omega)
   exact⟨by simp;omega,h2⟩
  ·obtain⟨h1,h2⟩:=mt (t:=t) (x:=y) (c:=1) (λz hz=>ht z (by simp[hz])) (ht y (by simp)) (by simp at hc;omega)
   exact⟨by simp;omega,Bs.append (Bs.append zC gL) h2⟩
def zH:∀{t:List Int} {last:Int},I64 last->Is t->(pD last t).length<=10*t.length/\Bs (pD last t)
 | [],_,_,_=>⟨by simp[pD],λx hx=>by simp[pD]at hx⟩
 | y::t,last,hl,ht=>by
  have hy:=ht y (by simp);obtain⟨h1,h2⟩:=zH (t:=t) (last:=y) hy (λz hz=>ht z (by simp[hz]));have h3:=cG (n:=(y-last).toNat) (by unfold I64 at hy hl;omega);exact⟨by simp[pD];omega,Bs.append gL h2⟩
def sT{u:List Int}(h:Is u):(kl u).length<=10*u.length/\Bs (kl u):=by
 cases u with
 | nil=>exact⟨by simp[kl],λx hx=>by simp[kl]at hx⟩
 | cons x t =>
  have hx:=h x (by simp);obtain⟨h1,h2⟩:=zH (t:=t) hx (λz hz=>h z (by simp[hz]));have h3:=iJ hx;exact⟨by simp[kl];omega,Bs.append zC h2⟩
def wL{p:List Nat}{w:Nat}(hl:p.length<=256):(bi p w).length<=2048:=by
 unfold bi;split
 ·next h =>
  unfold can at h;simp only[jfb]at h;rw[dj];have:p.length*w<=256*64:=Nat.mul_le_mul hl (by omega);unfold by8;simp only[je3];omega
 ·simp
def fM(c:Nat){l:List Int}(h:Is l)(hl:l.length<=256):(km c l).length<=5130/\Bs (km c l):=by
 unfold km;split
 ·obtain⟨h1,h2⟩:=oh h
  exact⟨by omega,h2⟩
 ·obtain⟨h1,h2⟩:=sS (l:=l) (last:=0)
  exact⟨by omega,h2⟩
 ·cases l with
  | nil=>exact⟨by simp[jP],λx hx=>by simp[jP]at hx⟩
  | cons x t =>
   obtain⟨h1,h2⟩:=mt (t:=t) (x:=x) (c:=1) (λz hz=>h z (by simp[hz])) (h x (by simp)) (by simp at hl;omega);simp at hl
   exact⟨by rw[jP];omega,h2⟩
 ·have hu:=jd l
  obtain⟨h1,h2⟩:=sT (qM h);have h3:=cG (n:=(eD l).length) (by omega);have h4:=wL (p:=places l) (w:=wd (places l)) (by rw[lu];exact hl);refine⟨by simp[vd];omega,Bs.append gL (Bs.append h2 qK)⟩
 ·unfold oQ
  split
  ·exact⟨by simp,λx hx=>by simp at hx⟩
  ·next h0 =>
   have h3:=iJ (h _ (jW (by omega)));have h4:=wL (p:=dY l) (w:=wd (dY l)) (by rw[jQ];exact hl);have h5:=cG (n:=wd (dY l)) (by have:=SC (qO h);omega);refine⟨by simp;omega,Bs.append zC (Bs.append gL qK)⟩
def dx(l:List Int):List Nat:=kn l 4
def jX{l:List Int}(h:Is l)(hm:l.length<=256):aU (dx l) l.length=(l,0):=by
 obtain⟨c,hc,e⟩:=ld l 4;unfold dx;rw[e];exact Hs hc h hm
def jY{l:List Int}(h:Is l)(hm:l.length<=256):(dx l).length<=5131/\Bs (dx l):=by
 obtain⟨c,hc,e⟩:=ld l 4;obtain⟨h1,h2⟩:=fM c h hm;unfold dx;rw[e];refine⟨by simp only[jeI];omega,λx hx=>?_⟩;rcases jeL.1 hx with rfl | hx
 ·omega
 ·exact h2 x hx
def cnt(l:List Int):List Nat:=uv (dx l).length++dx l
def Ns(b:List Nat)(n:Int):Option (List Int×List Nat) :=
 if (gt b).2.2=0/\(gt b).1<=b.length-(gt b).2.1 then
  (if (aU ((b.drop (gt b).2.1).take (gt b).1) n).2=0 then some ((aU ((b.drop (gt b).2.1).take (gt b).1) n).1,b.drop ((gt b).2.1+(gt b).1)) else none)
 else none
def DJ{l:List Int}(h:Is l)(hm:l.length<=256)(r:List Nat):Ns (cnt l++r) l.length=some (l,r):=by
 have hs:=(jY h hm).1
 have hg:gt (cnt l++r)=((dx l).length,(uv (dx l).length).length,0):=by
  unfold cnt;rw[jeQ];exact mr _ (by omega) _
 have hd:(cnt l++r).drop (uv (dx l).length).length=dx l++r:=by
  unfold cnt;rw[jeQ,jfc]
 have hd2:(cnt l++r).drop ((uv (dx l).length).length+(dx l).length)=r:=by
  rw[<- jfe,hd,jfc]
 have hb:=jX h hm;unfold Ns;rw[hg];simp only;rw[hd,hd2,jfo,hb,jey,jey rfl];refine⟨trivial,?_⟩;unfold cnt;simp only[jeC];omega
def ig(l:List (List Nat)):List Int:=l.map λs=>(s.length:Int)
def jz(l:List (List Nat)):List Nat:=cnt (ig l)++l.flatten
def DK:List Nat->List Int->Option (List (List Nat)×List Nat)
 | b,[]=>some ([],b)
 | b,s::t=>if s<0∨(b.length:Int)<s then none else (DK (b.drop s.toNat) t).map λp=>(b.take s.toNat::p.1,p.2)
def sU(r:List Nat):∀ l:List (List Nat),DK (l.flatten++r) (ig l)=some (l,r)
 | []=>rfl
 | s::t=>by
  have ih:=sU r t;have e:(s::t).flatten++r=s++(t.flatten++r):=by simp[jeQ]
  rw[e];unfold ig at ih ⊢;simp only[je4,DK];rw[jex (by simp only[jeC];omega),je3,jfc,jfo,ih];rfl
def oR(x:List Nat):List (List Nat)->List (List Nat)
 | []=>[x]
 | y::t=>if x=y then y::t else if x<y then x::y::t else y::oR x t
def tuq(l:List (List Nat)):List (List Nat):=l.foldl (λu x=>oR x u) []
def ve(l:List (List Nat)):Prop:=l.Pairwise (· < ·)
def wM{x z:List Nat}:∀{u:List (List Nat)},z∈oR x u↔z=x∨z∈u
 | []=>by simp[oR]
 | y::t=>by
  have ih:=wM (x:=x) (z:=z) (u:=t);unfold oR;split
  ·next h =>
   subst h;simp
  ·split
   ·simp
   ·simp only[jeL,ih]
    constructor
    ·rintro(h | h | h)
     ·exact Or.inr (Or.inl h)
     ·exact Or.inl h
     ·exact Or.inr (Or.inr h)
    ·rintro(h | h | h)
     ·exact Or.inr (Or.inl h)
     ·exact Or.inl h
     ·exact Or.inr (Or.inr h)
def sV{x y z:List Nat}(h1:x<y)(h2:y<z):x<z:=List.lt_trans h1 h2
def Nw{x y:List Nat}(h1:x≠y)(h2:¬ x<y):y<x:=by
 have h3:y<=x:=h2;rcases List.le_iff_lt_or_eq.1 h3 with h | h
 ·exact h
 ·exact absurd h.symm h1
def ua{x:List Nat}:∀{u:List (List Nat)},ve u->ve (oR x u)
 | [],_=>by simp[oR,ve]
 | y::t,h=>by
  have h1:(∀ z∈t,y<z)/\ve t:=jfB.1 h;unfold oR;split
  ·exact h
  ·next dC =>
   split
   ·next ar =>
    refine jfB.2 ⟨λz hz=>?_,h⟩;rcases jeL.1 hz with rfl | hz
    ·exact ar
    ·exact sV ar (h1.1 z hz)
   ·next ar =>
    refine jfB.2 ⟨λz hz=>?_,ua h1.2⟩;rcases wM.1 hz with rfl | hz
    ·exact Nw dC ar
    ·exact h1.1 z hz
def wN:∀(l u:List (List Nat)),ve u->ve (l.foldl (λu x=>oR x u) u)/\∀ z,z∈l.foldl (λu x=>oR x u) u↔z∈u∨z∈l
 | [],u,h=>⟨h,λz=>by simp⟩
 | x::t,u,h=>by
  obtain⟨h1,h2⟩:=wN t (oR x u) (ua h);refine⟨h1,λz=>?_⟩;rw[List.foldl_cons,h2,wM,jeL];constructor
  ·rintro((h | h) | h)
   ·exact Or.inr (Or.inl h)
   ·exact Or.inl h
   ·exact Or.inr (Or.inr h)
  ·rintro(h | h | h)
   ·exact Or.inl (Or.inr h)
   ·exact Or.inl (Or.inl h)
   ·exact Or.inr h
def wO(l:List (List Nat)):ve (tuq l):=(wN l [] List.Pairwise.nil).1
def qP{l:List (List Nat)}{z:List Nat}:z∈tuq l↔z∈l:=by
 unfold tuq;rw[(wN l [] List.Pairwise.nil).2];simp
def ub:∀{u v:List (List Nat)},ve u->ve v->(∀ z,z∈u↔z∈v)->u=v
 | [],[],_,_,_=>rfl
 | [],y::t,_,_,h=>absurd ((h y).2 (by simp)) (by simp)
 | x::s,[],_,_,h=>absurd ((h x).1 (by simp)) (by simp)
 | x::s,y::t,hu,hv,h=>by
  obtain⟨a1,a2⟩:=jfB.1 hu;obtain⟨b1,b2⟩:=jfB.1 hv
  have e:x=y:=by
   rcases jeL.1 ((h x).1 (by simp))with e | e
   ·exact e
   ·rcases jeL.1 ((h y).2 (by simp))with e2 | e2
    ·exact e2.symm
    ·exact absurd (sV (a1 y e2) (b1 x e)) (List.lt_irrefl x)
  subst e;congr 1
  refine ub a2 b2 λz=>?_
  constructor
  ·intro hz
   rcases jeL.1 ((h z).1 (jfS _ hz))with e | e
   ·subst e
    exact absurd (a1 z hz) (List.lt_irrefl z)
   ·exact e
  ·intro hz
   rcases jeL.1 ((h z).2 (jfS _ hz))with e | e
   ·subst e
    exact absurd (b1 z hz) (List.lt_irrefl z)
   ·exact e
def ud{x:List Nat}:∀{u:List (List Nat)},(oR x u).length<=u.length+1
 | []=>by simp[oR]
 | y::t=>by
  have:=ud (x:=x) (u:=t);unfold oR;split
  ·simp
  ·split
   ·simp
   ·simp only[jeI]
    omega
def mO:∀(l u:List (List Nat)),(l.foldl (λu x=>oR x u) u).length<=u.length+l.length
 | [],u=>by simp
 | x::t,u=>by
  have h1:=mO t (oR x u);have h2:=ud (x:=x) (u:=u);rw[List.foldl_cons,jeI];omega
def ko(l:List (List Nat)):(tuq l).length<=l.length:=by
 have:=mO l [];simpa [tuq]using this
def plT:List (List Nat)->List Nat->Nat
 | [],_=>0
 | y::t,x=>if y=x then 0 else plT t x+1
def oj{x:List Nat}:∀{u:List (List Nat)},x∈u->plT u x<u.length/\u[plT u x]?=some x
 | [],h=>by simp at h
 | y::t,h=>by
  unfold plT;split
  ·next e=>exact⟨by simp,by simp[e]⟩
  ·next e =>
   rcases jeL.1 h with rfl | h
   ·exact absurd rfl e
   ·obtain⟨h1,h2⟩:=oj h
    exact⟨by simp only[jeI];omega,by simpa using h2⟩
def ep(l:List (List Nat)):List Int:=l.map λs=>(plT (tuq l) s:Int)
def plain(l:List (List Nat)):List Nat:=0::jz l
def dd(l:List (List Nat)):List Nat:=1::(uv (tuq l).length++(jz (tuq l)++dx (ep l)))
def gC(l:List (List Nat)):List Nat:=if (dd l).length<(plain l).length then dd l else plain l
def SO(u:List (List Nat))(p:List Int):Option (List (List Nat)):=if ∀ q∈p,0<=q/\q<(u.length:Int) then some (p.map λq=>u.getD q.toNat []) else none
def mu(b:List Nat)(n:Nat):Option (List (List Nat)) :=
 match b with
 | []=>none
 | x::t =>
  if x=0 then ((Ns t n).bind λp=>DK p.2 p.1).map (·.1)
  else if x=1 then
   (if (gt t).2.2=0/\(gt t).1<=n then
    (Ns (t.drop (gt t).2.1) (gt t).1).bind λp=>(DK p.2 p.1).bind λq=>if (aU q.2 n).2=0 then SO q.1 (aU q.2 n).1 else none
   else none)
  else none
def Ts(l:List (List Nat)):Prop:=∀ s∈l,s.length<=64/\Bs s
def bU(l:List (List Nat)):(ig l).length=l.length:=jeE _
def jZ{l:List (List Nat)}(h:Ts l):Is (ig l):=λx hx=>by
 obtain⟨s,hs,rfl⟩:=jeN.1 hx;have:=(h s hs).1;unfold I64;omega
def sW{l:List (List Nat)}(h:Ts l):Ts (tuq l):=λs hs=>h s (qP.1 hs)
def dp(l:List (List Nat)):(ep l).length=l.length:=jeE _
def pE{l:List (List Nat)}:∀ q∈ep l,0<=q/\q<((tuq l).length:Int):=λq hq=>by
 obtain⟨s,hs,rfl⟩:=jeN.1 hq;have:=(oj (qP.2 hs)).1;omega
def je{l:List (List Nat)}(hm:l.length<=256):Is (ep l):=λq hq=>by
 have h1:=pE q hq;have h2:=ko l;unfold I64;omega
def qQ(l:List (List Nat)):(ep l).map (λq=>(tuq l).getD q.toNat [])=l:=by
 unfold ep;rw[jfa];conv=>rhs;rw[<- jfx l]
 apply jfy
 intro s hs;have h2:=(oj (qP.2 hs)).2;simp only[Function.comp,je3,id];rw[List.getD_eq_getElem?_getD,h2];rfl
def Ht{l:List (List Nat)}(h:Ts l)(hm:l.length<=256)(r:List Nat):mu (plain l++r) l.length=some l:=by
 unfold plain jz;simp only[je5,mu,jey];have h1:=DJ (jZ h) (by rw[bU];exact hm) (l.flatten++r);rw[bU]at h1;rw[jeQ,h1];simp only[Option.bind_some,sU,jfC]
def DL{l:List (List Nat)}(h:Ts l)(hm:l.length<=256):mu (dd l) l.length=some l:=by
 have hu:=ko l;unfold dd jz;have h0:=mr (tuq l).length (by omega) (cnt (ig (tuq l))++(tuq l).flatten++dx (ep l));have h1:=DJ (jZ (sW h)) (by rw[bU];omega) ((tuq l).flatten++dx (ep l));rw[bU]at h1;have h2:=jX (je hm) (by rw[dp];exact hm);rw[dp]at h2;simp only[mu,show (1:Nat)≠0 from by omega,if_false,if_true,h0,jfc];rw[jey ⟨trivial,hu⟩,jeQ,h1];simp only[Option.bind_some,sU,h2,if_true];unfold SO;rw[jey pE,qQ]
def Hu{l:List (List Nat)}(h:Ts l)(hm:l.length<=256):mu (gC l) l.length=some l:=by
 unfold gC;split
 ·exact DL h hm
 ·have:=Ht h hm []
  rwa[jeS]at this
def ol:∀{l:List (List Nat)},Ts l->l.flatten.length<=64*l.length/\Bs l.flatten
 | [],_=>⟨by simp,λx hx=>by simp at hx⟩
 | s::t,h=>by
  obtain⟨h1,h2⟩:=ol (l:=t) λx hx=>h x (jfS _ hx)
  obtain⟨h3,h4⟩:=h s (by simp);refine⟨?_,?_⟩
  ·rw[jfO,jeC,jeI]
   omega
  ·rw[jfO]
   exact h4.append h2
def sX{l:List (List Nat)}(h:Ts l)(hm:l.length<=256):(jz l).length<=21525/\Bs (jz l):=by
 obtain⟨a1,a2⟩:=jY (jZ h) (by rw[bU];exact hm);obtain⟨b1,b2⟩:=ol h;have vJ:=cG (n:=(dx (ig l)).length) (by omega);unfold jz cnt;refine⟨?_,Bs.append (Bs.append gL a2) b2⟩;simp only[jeC];omega
def wP{l:List (List Nat)}(h:Ts l)(hm:l.length<=256):(gC l).length<=21526/\Bs (gC l):=by
 obtain⟨a1,a2⟩:=sX h hm;have hp:(plain l).length<=21526:=by unfold plain;simp only[jeI];omega
 unfold gC;split
 ·next ar =>
  refine⟨by omega,?_⟩;obtain⟨b1,b2⟩:=sX (sW h) (jeK (ko l) hm);obtain⟨c1,c2⟩:=jY (je hm) (by rw[dp];exact hm);intro x hx;unfold dd at hx;rcases jeL.1 hx with rfl | hx
  ·omega
  ·exact(Bs.append gL (Bs.append b2 c2)) x hx
 ·refine⟨hp,λx hx=>?_⟩
  unfold plain at hx;rcases jeL.1 hx with rfl | hx
  ·omega
  ·exact a2 x hx
def gM(k:Nat)(c:jgw):Prop :=
 c=nul∨(k=1/\∃ n,c=(1,n,[])/\I64 n)∨(k=2/\∃ n:Nat,c=(2,(n:Int),[])/\n<2)∨(k=3/\∃ s,c=(3,0,s)/\s.length<=64/\Bs s)
def Col(k:Nat)(l:jgv):Prop:=(1<=k/\k<=3)/\l.length<=256/\∀ c∈l,gM k c
def cH(l:jgv):List Nat:=l.map λc=>if c.1=0 then 0 else 1
def bP(l:jgv):jgv:=l.filter λc=>c.1 != 0
def jH(l:jgv):List Nat:=if 0∈cH l then 1::bi (cH l) 1 else [0]
def jI(k:Nat)(l:jgv):List Nat :=
 if k=1 then dx ((bP l).map λc=>c.2.1) else if k=2 then bi ((bP l).map λc=>c.2.1.toNat) 1 else gC ((bP l).map λc=>c.2.2)
def es(k:Nat)(l:jgv):List Nat:=jH l++jI k l
def gN:List Nat->jgv->jgv
 | [],_=>[]
 | x::t,o=>if x=0 then nul::gN t o else o.headD nul::gN t o.tail
def bf(l:jgv):(cH l).length=l.length:=jeE _
def om:∀ l:jgv,(cH l).sum=(bP l).length
 | []=>rfl
 | c::t=>by
  have ih:=om t;unfold cH bP at ih ⊢;by_cases h:c.1=0
  ·simp[h,ih]
  ·simp[h,ih]
   omega
def jf(l:jgv):(bP l).length<=l.length:=jgd _ _
def pF{k:Nat}:∀{l:jgv},(∀ c∈l,gM k c)->gN (cH l) (bP l)=l
 | [],_=>rfl
 | c::t,h=>by
  have ih:=pF (k:=k) (l:=t) λx hx=>h x (jfS _ hx)
  have hc:=h c (by simp);unfold cH bP at ih ⊢;by_cases h0:c.1=0
  ·have e:c=nul:=by
    rcases hc with e | ⟨_,n,e,_⟩ | ⟨_,n,e,_⟩ | ⟨_,s,e,_⟩
    ·exact e
    ·rw[e]at h0;simp at h0
    ·rw[e]at h0;simp at h0
    ·rw[e]at h0;simp at h0
   subst e;simp[gN,nul]at ih ⊢
   exact ih
  ·simp[gN,h0]at ih ⊢
   exact ih
def kp{l:jgv}{c:jgw}(h:c∈bP l):c∈l/\c.1≠0:=by
 unfold bP at h;have:=jfX.1 h;exact⟨this.1,by simpa using this.2⟩
def lM{l:jgv}(h:∀ c∈l,gM 1 c):Is ((bP l).map λc=>c.2.1)/\((bP l).map λc=>c.2.1).map (λx=>((1,x,[]):jgw))=bP l:=by
 have key:∀ c∈bP l,∃ n,c=(1,n,[])/\I64 n:=λc hc=>by
  obtain⟨h1,h2⟩:=kp hc;rcases h c h1 with e | ⟨_,n,e,hn⟩ | ⟨e,_⟩ | ⟨e,_⟩
  ·rw[e]at h2;exact absurd rfl h2
  ·exact⟨n,e,hn⟩
  ·omega
  ·omega
 refine⟨λx hx=>?_,?_⟩
 ·obtain⟨c,hc,rfl⟩:=jeN.1 hx
  obtain⟨n,rfl,hn⟩:=key c hc;exact hn
 ·rw[jfa]
  conv=>rhs;rw[<- jfx (bP l)]
  apply jfy
  intro c hc;obtain⟨n,rfl,hn⟩:=key c hc;rfl
def jg{l:jgv}(h:∀ c∈l,gM 2 c):(∀ x∈(bP l).map λc=>c.2.1.toNat,x<2)/\((bP l).map λc=>c.2.1.toNat).map (λ(x:Nat)=>((2,(x:Int),[]):jgw))=bP l:=by
 have key:∀ c∈bP l,∃ n:Nat,c=(2,(n:Int),[])/\n<2:=λc hc=>by
  obtain⟨h1,h2⟩:=kp hc;rcases h c h1 with e | ⟨e,_⟩ | ⟨_,n,e,hn⟩ | ⟨e,_⟩
  ·rw[e]at h2;exact absurd rfl h2
  ·omega
  ·exact⟨n,e,hn⟩
  ·omega
 refine⟨λx hx=>?_,?_⟩
 ·obtain⟨c,hc,rfl⟩:=jeN.1 hx
  obtain⟨n,rfl,hn⟩:=key c hc;simpa using hn
 ·rw[jfa]
  conv=>rhs;rw[<- jfx (bP l)]
  apply jfy
  intro c hc;obtain⟨n,rfl,hn⟩:=key c hc;rfl
def kq{l:jgv}(h:∀ c∈l,gM 3 c):Ts ((bP l).map λc=>c.2.2)/\((bP l).map λc=>c.2.2).map (λs=>((3,0,s):jgw))=bP l:=by
 have key:∀ c∈bP l,∃ s,c=(3,0,s)/\s.length<=64/\Bs s:=λc hc=>by
  obtain⟨h1,h2⟩:=kp hc;rcases h c h1 with e | ⟨e,_⟩ | ⟨e,_⟩ | ⟨_,s,e,hs⟩
  ·rw[e]at h2;exact absurd rfl h2
  ·omega
  ·omega
  ·exact⟨s,e,hs⟩
 refine⟨λx hx=>?_,?_⟩
 ·obtain⟨c,hc,rfl⟩:=jeN.1 hx
  obtain⟨n,rfl,hn⟩:=key c hc;exact hn
 ·rw[jfa]
  conv=>rhs;rw[<- jfx (bP l)]
  apply jfy
  intro c hc;obtain⟨n,rfl,hn⟩:=key c hc;rfl
def zI(b:List Nat)(n:Nat):Option (List Nat×List Nat) :=
 match b with
 | []=>none
 | x::t=>if x=0 then some (List.replicate n 1,t) else if x=1 then
   (if by8 n<=t.length/\unE (t.take (by8 n)) n 1=0 then some (unR (t.take (by8 n)) n 1,t.drop (by8 n)) else none) else none
def Hv(k:Nat)(b:List Nat)(n:Nat):Option (jgv) :=
 if k=1 then (if (aU b n).2=0 then some ((aU b n).1.map λx=>(1,x,[])) else none)
 else if k=2 then (if unE b n 1=0 then some ((unR b n 1).map λ(x:Nat)=>(2,(x:Int),[])) else none)
 else (mu b n).map λl=>l.map λs=>(3,0,s)
def Yn(k:Nat)(b:List Nat)(n:Nat):Option (jgv) :=
 (zI b n).bind λp=>(Hv k p.2 p.1.sum).map (gN p.1)
def DM{l:List Nat}(h:∀ x∈l,x<2)(hm:l.length<=256):can l ((1:Nat):Int)=true:=Hq hm (by omega) (tZ.2 (by simpa using h))
def oo{l:List Nat}(h:∀ x∈l,x<2)(hm:l.length<=256):unE (bi l 1) l.length 1=0/\unR (bi l 1) l.length 1=l:=by
 have:=DD (DM h hm);rwa[show ((1:Nat):Int)=1 from rfl]at this
def em{l:List Nat}(h:∀ x∈l,x<2)(hm:l.length<=256):(bi l 1).length=by8 l.length:=by
 have:=ms (DM h hm);rwa[Nat.mul_one]at this
def eL(l:jgv):∀ x∈cH l,x<2:=λx hx=>by
 obtain⟨c,_,rfl⟩:=jeN.1 hx;split<;>omega
def wQ{l:jgv}(h:¬ 0∈cH l):cH l=List.replicate l.length 1:=by
 rw[List.eq_replicate_iff];refine⟨bf l,λx hx=>?_⟩;have h1:=eL l x hx;have h2:x≠0:=λe=>h (e ▸ hx)
 omega
def Nx{l:jgv}(hm:l.length<=256)(r:List Nat):zI (jH l++r) l.length=some (cH l,r):=by
 unfold jH;split
 ·have hl:=em (eL l) (by rw[bf];exact hm)
  rw[bf]at hl;have hb:=oo (eL l) (by rw[bf];exact hm);rw[bf]at hb;have ht:(bi (cH l) 1++r).take (by8 l.length)=bi (cH l) 1:=by rw[<- hl,jfo]
  have hd:(bi (cH l) 1++r).drop (by8 l.length)=r:=by rw[<- hl,jfc]
  simp only[je5,zI,show (1:Nat)≠0 from by omega,if_false,if_true,ht,hd];rw[jey]
  ·rw[hb.2]
  ·exact⟨by simp only[jeC];omega,hb.1⟩
 ·next h =>
  rw[wQ h];rfl
def Ny{k:Nat}{l:jgv}(h:Col k l):Hv k (jI k l) (bP l).length=some (bP l):=by
 obtain⟨hk,hm,hc⟩:=h;have ho:=jf l;obtain rfl | rfl | rfl:k=1∨k=2∨k=3:=by omega
 ·obtain⟨h1,h2⟩:=lM hc
  have hb:=jX h1 (by rw[jeE];omega);rw[jeE]at hb;simp only[Hv,jI,if_true,hb];rw[h2]
 ·obtain⟨h1,h2⟩:=jg hc
  have hb:=oo h1 (by rw[jeE];omega);rw[jeE]at hb;simp only[Hv,jI,if_true,if_false,show (2:Nat)≠1 from by omega];rw[jey hb.1];rw[hb.2,h2]
 ·obtain⟨h1,h2⟩:=kq hc
  have hb:=Hu h1 (by rw[jeE];omega);rw[jeE]at hb;simp only[Hv,jI,if_false,show (3:Nat)≠1 from by omega,show (3:Nat)≠2 from by omega,hb,jfC];rw[h2]
def SP{k:Nat}{l:jgv}(h:Col k l):Yn k (es k l) l.length=some l:=by
 unfold Yn es;rw[Nx h.2.1,Option.bind_some];simp only;rw[om,Ny h,jfC,pF h.2.2]
def zJ{l:jgv}(hm:l.length<=256):(jH l).length<=33/\Bs (jH l):=by
 unfold jH;split
 ·have hl:=em (eL l) (by rw[bf];exact hm)
  rw[bf]at hl;refine⟨?_,λx hx=>?_⟩
  ·rw[jeI,hl]
   unfold by8;omega
  ·rcases jeL.1 hx with rfl | hx
   ·omega
   ·exact qK x hx
 ·exact⟨by simp,λx hx=>by simp at hx;omega⟩
def Bx(l:jgv):jI 1 l=dx ((bP l).map λc=>c.2.1):=jey rfl
def Bz(l:jgv):jI 2 l=bi ((bP l).map λc=>c.2.1.toNat) 1:=(jex (by omega)).trans (jey rfl)
def BA(l:jgv):jI 3 l=gC ((bP l).map λc=>c.2.2):=(jex (by omega)).trans (jex (by omega))
def Nz{k:Nat}{l:jgv}(h:Col k l):(jI k l).length<=21526/\Bs (jI k l):=by
 obtain⟨hk,hm,hc⟩:=h;have ho:=jf l;obtain rfl | rfl | rfl:k=1∨k=2∨k=3:=by omega
 ·obtain⟨b1,b2⟩:=jY (lM hc).1 (by rw[jeE];omega)
  rw[Bx];exact⟨by omega,b2⟩
 ·have hl:=em (jg hc).1 (by rw[jeE];omega)
  rw[jeE]at hl;rw[Bz];refine⟨?_,qK⟩;rw[hl];unfold by8;omega
 ·have hw:=wP (kq hc).1 (by rw[jeE];omega)
  rw[BA];exact hw
def jh{k:Nat}{l:jgv}(h:Col k l):(es k l).length<=21600/\Bs (es k l):=by
 obtain⟨a1,a2⟩:=zJ h.2.1;obtain⟨b1,b2⟩:=Nz h;unfold es;refine⟨?_,a2.append b2⟩;rw[jeC];omega
def DN(l:jgv):bP (bP l)=bP l:=by
 unfold bP;rw[List.filter_filter];simp
def DO(k:Nat)(c:jgw):Prop :=
 c=nul∨(k=1/\∃ n,c=(1,n,[])/\I64 n)∨(k=2/\∃ n:Nat,c=(2,(n:Int),[])/\n<2)∨(k=3/\∃ s,c=(3,0,s)/\Bs s)
def DO.short{k:Nat}{c:jgw}(h:DO k c)(hs:c.2.2.length<=64):gM k c:=by
 rcases h with h | h | h | ⟨h1,s,rfl,h2⟩
 ·exact Or.inl h
 ·exact Or.inr (Or.inl h)
 ·exact Or.inr (Or.inr (Or.inl h))
 ·exact Or.inr (Or.inr (Or.inr ⟨h1,s,rfl,hs,h2⟩))
def gM.short{k:Nat}{c:jgw}(h:gM k c):c.2.2.length<=64:=by
 rcases h with rfl | ⟨_,n,rfl,_⟩ | ⟨_,n,rfl,_⟩ | ⟨_,s,rfl,h,_⟩
 ·simp[nul]
 ·simp
 ·simp
 ·exact h
def iK{b:List Nat}{n:Int}(hb:Bs b)(h:(aU b n).2=0):((aU b n).1.length:Int)=n/\Is (aU b n).1:=by
 obtain⟨_,_,c,t,_,_,h1,h2,_⟩:=Nr hb (l:=(aU b n).1) (n:=n) (by rw[<- h]);exact⟨h1,h2⟩
def DP{b r:List Nat}{n:Int}{l:List Int}(hb:Bs b)(h:Ns b n=some (l,r)):(l.length:Int)=n/\Is l/\Bs r:=by
 unfold Ns at h;split at h
 ·split at h
  ·next h1 =>
   simp only[Option.some.injEq,Prod.mk.injEq]at h;obtain⟨rfl,rfl⟩:=h;have:=iK ((hb.drop _).take _) h1;exact⟨this.1,this.2,hb.drop _⟩
  ·simp at h
 ·simp at h
def wR:∀{s:List Int} {b r:List Nat} {l:List (List Nat)},Bs b->DK b s=some (l,r)->l.length=s.length/\(∀ x∈l,Bs x)/\Bs r
 | [],b,r,l,hb,h=>by
  simp only[DK,Option.some.injEq,Prod.mk.injEq]at h;obtain⟨rfl,rfl⟩:=h;exact⟨rfl,λx hx=>by simp at hx,hb⟩
 | x::t,b,r,l,hb,h=>by
  unfold DK at h;split at h
  ·simp at h
  ·obtain⟨⟨l2,r2⟩,h1,h2⟩:=jgk.1 h
   simp only[Prod.mk.injEq]at h2;obtain⟨rfl,rfl⟩:=h2;obtain⟨a1,a2,a3⟩:=wR (hb.drop _) h1;refine⟨by simp only[jeI,a1],λy hy=>?_,a3⟩;rcases jeL.1 hy with rfl | hy
   ·exact hb.take _
   ·exact a2 y hy
def Hw{b:List Nat}{n:Nat}{l:List (List Nat)}(hb:Bs b)(h:mu b n=some l):l.length=n/\∀ x∈l,Bs x:=by
 cases b with
 | nil=>simp[mu]at h
 | cons x t =>
  have ht:Bs t:=λy hy=>hb y (jfS _ hy)
  simp only[mu]at h;split at h
  ·obtain⟨⟨l2,r2⟩,h1,rfl⟩:=jgk.1 h
   obtain⟨⟨s,r⟩,h2,h3⟩:=jge.1 h1;obtain⟨a1,a2,a3⟩:=DP ht h2;obtain⟨b1,b2,b3⟩:=wR a3 h3;have b4:l2.length=s.length:=b1;exact⟨by show l2.length=n;omega,b2⟩
  ·split at h
   ·split at h
    ·obtain⟨⟨s,r⟩,h2,h3⟩:=jge.1 h
     obtain⟨⟨u,r2⟩,h4,h5⟩:=jge.1 h3;obtain⟨a1,a2,a3⟩:=DP (ht.drop _) h2;obtain⟨b1,b2,b3⟩:=wR a3 h4;simp only at h5;split at h5
     ·next h6 =>
      obtain⟨c1,c2⟩:=iK b3 h6;unfold SO at h5;split at h5
      ·next h7 =>
       cases h5
       refine⟨by rw[jeE];omega,λx hx=>?_⟩;obtain⟨q,hq,rfl⟩:=jeN.1 hx;have nc:=h7 q hq;have ar:q.toNat<u.length:=(by omega);rw[List.getD_eq_getElem?_getD,List.getElem?_eq_getElem ar];exact b2 _ (jeD ar)
      ·simp at h5
     ·simp at h5
    ·simp at h
   ·simp at h
def lf{b:List Nat}{n:Nat}(h:unE b n 1=0):(unR b n 1).length=n/\∀ x∈unR b n 1,x<2:=by
 unfold unR;rw[jey h];refine⟨by rw[dj];simp,λx hx=>?_⟩;have:=Bo hx;simpa using this
def NA{b r th:List Nat}{n:Nat}(hb:Bs b)(h:zI b n=some (th,r)):th.length=n/\(∀ x∈th,x<2)/\Bs r:=by
 cases b with
 | nil=>simp[zI]at h
 | cons x t =>
  have ht:Bs t:=λy hy=>hb y (jfS _ hy)
  simp only[zI]at h;split at h
  ·simp only[Option.some.injEq,Prod.mk.injEq]at h
   obtain⟨rfl,rfl⟩:=h;exact⟨List.length_replicate,λy hy=>by have:=jgj hy;omega,ht⟩
  ·split at h
   ·split at h
    ·next h1 =>
     simp only[Option.some.injEq,Prod.mk.injEq]at h;obtain⟨rfl,rfl⟩:=h;have:=lf h1.2;exact⟨this.1,this.2,ht.drop _⟩
    ·simp at h
   ·simp at h
def SQ{k:Nat}{b:List Nat}{n:Nat}{o:jgv}(hk:1<=k/\k<=3)(hb:Bs b)(h:Hv k b n=some o):o.length=n/\∀ c∈o,DO k c:=by
 unfold Hv at h;obtain rfl | rfl | rfl:k=1∨k=2∨k=3:=by omega
 ·rw[jey rfl]at h
  split at h
  ·next h1 =>
   cases h
   obtain⟨a1,a2⟩:=iK hb h1;refine⟨by rw[jeE];omega,λc hc=>?_⟩;obtain⟨x,hx,rfl⟩:=jeN.1 hc;exact Or.inr (Or.inl ⟨rfl,x,rfl,a2 x hx⟩)
  ·simp at h
 ·rw[jex (by omega),jey rfl]at h
  split at h
  ·next h1 =>
   cases h
   obtain⟨a1,a2⟩:=lf h1;refine⟨by rw[jeE];exact a1,λc hc=>?_⟩;obtain⟨x,hx,rfl⟩:=jeN.1 hc;exact Or.inr (Or.inr (Or.inl ⟨rfl,x,rfl,a2 x hx⟩))
  ·simp at h
 ·rw[jex (by omega),jex (by omega)]at h
  obtain⟨l,h1,rfl⟩:=jgk.1 h;obtain⟨a1,a2⟩:=Hw hb h1;refine⟨by rw[jeE];exact a1,λc hc=>?_⟩;obtain⟨x,hx,rfl⟩:=jeN.1 hc;exact Or.inr (Or.inr (Or.inr ⟨rfl,x,rfl,a2 x hx⟩))
def oq{P:jgw->Prop}(h0:P nul):∀{th:List Nat} {o:jgv},(∀ c∈o,P c)->(gN th o).length=th.length/\∀ c∈gN th o,P c
 | [],o,h=>⟨rfl,λc hc=>by simp[gN]at hc⟩
 | x::t,o,h=>by
  unfold gN;split
  ·obtain⟨a1,a2⟩:=oq h0 (th:=t) h
   refine⟨by simp only[jeI,a1],λc hc=>?_⟩;rcases jeL.1 hc with rfl | hc
   ·exact h0
   ·exact a2 c hc
  ·obtain⟨a1,a2⟩:=oq h0 (th:=t) (o:=o.tail) λc hc=>h c (List.mem_of_mem_tail hc)
   refine⟨by simp only[jeI,a1],λc hc=>?_⟩;rcases jeL.1 hc with rfl | hc
   ·cases o with
    | nil=>exact h0
    | cons y s=>exact h y (by simp)
   ·exact a2 c hc
def SR{k:Nat}{b:List Nat}{n:Nat}{l:jgv}(hk:1<=k/\k<=3)(hb:Bs b)(h:Yn k b n=some l):l.length=n/\∀ c∈l,DO k c:=by
 obtain⟨⟨th,r⟩,h1,h2⟩:=jge.1 h;obtain⟨o,h3,rfl⟩:=jgk.1 h2;obtain⟨a1,a2,a3⟩:=NA hb h1;obtain⟨b1,b2⟩:=SQ hk a3 h3;obtain⟨c1,c2⟩:=oq (P:=DO k) (Or.inl rfl) (th:=th) b2;exact⟨c1.trans a1,c2⟩
def ge(k:Nat)(b:List Nat)(n:Nat):Option (jgv) :=
 (Yn k b n).bind λl=>if (∀ c∈l,c.2.2.length<=64)/\es k l=b then some l else none
def lN{k:Nat}{b:List Nat}{n:Nat}{l:jgv}(hk:1<=k/\k<=3)(hn:n<=256)(hb:Bs b):ge k b n=some l↔Col k l/\l.length=n/\es k l=b:=by
 constructor
 ·intro h
  obtain⟨l2,h1,h2⟩:=jge.1 h;split at h2
  ·next h3 =>
   cases h2
   obtain⟨a1,a2⟩:=SR hk hb h1;exact⟨⟨hk,by omega,λc hc=>(a2 c hc).short (h3.1 c hc)⟩,a1,h3.2⟩
  ·simp at h2
 ·rintro⟨h1,rfl,rfl⟩
  unfold ge;rw[SP h1,Option.bind_some];simp only;rw[jey ⟨λc hc=>(h1.2.2 c hc).short,trivial⟩]
def Hx{k:Nat}{l:jgv}(h:Col k l):ge k (es k l) l.length=some l :=
 (lN h.1 h.2.1 (jh h).2).2 ⟨h,rfl,rfl⟩
def fT(k:Nat)(l:jgv):List Nat×Nat :=
 if 1<=k/\k<=3/\∀ c∈l,c.1=0∨c.1=k then
  (if l.length<=256/\∀ c∈l,c.2.2.length<=64 then (es k l,0) else ([],5))
 else ([],10)
def gM.kind{k:Nat}{c:jgw}(h:gM k c):c.1=0∨c.1=k:=by
 rcases h with rfl | ⟨rfl,n,rfl,_⟩ | ⟨rfl,n,rfl,_⟩ | ⟨rfl,s,rfl,_⟩
 ·exact Or.inl rfl
 ·exact Or.inr rfl
 ·exact Or.inr rfl
 ·exact Or.inr rfl
def pG{k:Nat}{l:jgv}(h:Col k l):fT k l=(es k l,0):=by
 unfold fT;rw[jey ⟨h.1.1,h.1.2,λc hc=>(h.2.2 c hc).kind⟩,jey ⟨h.2.1,λc hc=>(h.2.2 c hc).short⟩]
end Go.Proofs.YtpljdjmpamjkhaaGreatDoor
