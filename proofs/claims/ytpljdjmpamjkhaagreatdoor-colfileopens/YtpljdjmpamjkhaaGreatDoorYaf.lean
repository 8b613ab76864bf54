import Derived.Test.YtpljdjmpamjkhaaGreatDoorYab
import Derived.Test.YtpljdjmpamjkhaaGreatDoorYad
import Derived.Lib.Zigzag
import Derived.Lib.VarintBits
set_option linter.unusedVariables false
set_option linter.unusedSimpArgs false
namespace Go.Proofs.YtpljdjmpamjkhaaGreatDoor
open Go.Lib
def pk(w:Nat):List Nat->Nat
 | []=>0
 | n::t=>n+2 ^ w*pk w t
def dig(w:Nat):Nat->Nat->List Nat
 | 0,_=>[]
 | n+1,N=>N % 2 ^ w::dig w n (N / 2 ^ w)
theorem dK(w:Nat):∀ n N,(dig w n N).length=n
 | 0,_=>rfl
 | n+1,N=>by simp[dig,dK w n]
theorem ij(w n:Nat):2 ^ (w*(n+1))=2 ^ w*2 ^ (w*n):=by
 rw[jaR,ja8,Nat.add_comm,jaK]
theorem NA(w:Nat):∀ n N,pk w (dig w n N)=N % 2 ^ (w*n)
 | 0,N=>by simp[dig,pk,Nat.mod_one]
 | n+1,N=>by
  show N % 2 ^ w+2 ^ w*pk w (dig w n (N / 2 ^ w))=_
  rw[NA w n,ij,Nat.mod_mul]
theorem Al{w:Nat}:∀{l:List Nat},(∀ x∈l,x<2 ^ w)->dig w l.length (pk w l)=l
 | [],_=>rfl
 | n::t,h=>by
  have hn:=h n (by simp);show (n+2 ^ w*pk w t) % 2 ^ w::dig w t.length ((n+2 ^ w*pk w t) / 2 ^ w)=_
  rw[Nat.add_mul_mod_self_left,jaA hn,Nat.add_mul_div_left _ _ (jaD w),Nat.div_eq_of_lt hn,jaf,
   Al (fun x hx=>h x (by simp[hx]))]
theorem Cf{w:Nat}:∀{l:List Nat},(∀ x∈l,x<2 ^ w)->pk w l<2 ^ (w*l.length)
 | [],_=>by simp[pk]
 | n::t,h=>by
  have hn:=h n (by simp);have ht:=Cf (w:=w) (l:=t) (fun x hx=>h x (by simp[hx]));show n+2 ^ w*pk w t<2 ^ (w*(t.length+1))
  rw[ij];have:2 ^ w*(pk w t+1)<=2 ^ w*2 ^ (w*t.length):=jaL _ ht;rw[jaR,ja8]at this;omega
theorem Am(w:Nat):∀ n N i,i<n->(dig w n N)[i]?=some (N / 2 ^ (w*i) % 2 ^ w)
 | n+1,N,0,_=>by simp[dig]
 | n+1,N,i+1,h=>by
  show (dig w n (N / 2 ^ w))[i]?=_
  rw[Am w n _ i (by omega),jbv,ij]
theorem An{w x:Nat}:∀{n N},x∈dig w n N->x<2 ^ w
 | n+1,N,h=>by
  simp only[dig,Z6]at h;rcases h with rfl | h
  ·exact Nat.mod_lt _ (jaD w)
  ·exact An h
theorem rQ(w:Nat):∀(a b:List Nat),pk w (a++b)=pk w a+2 ^ (w*a.length)*pk w b
 | [],b=>by simp[pk]
 | n::t,b=>by
  show n+2 ^ w*pk w (t++b)=n+2 ^ w*pk w t+2 ^ (w*(t.length+1))*pk w b
  rw[rQ w t,ij,jaR,jaX,jaQ]
theorem ql(w:Nat){l:List Nat}{i:Nat}(h:i<l.length):pk w (l.take (i+1))=pk w (l.take i)+l[i]*2 ^ (w*i):=by
 rw[Z5 h,rQ,ZX,jaJ (by omega)];simp[pk,jak]
theorem NB(w:Nat):∀{l:List Nat} {i:Nat} (c:Nat) (h:i<l.length),pk w (l.set i c)+l[i]*2 ^ (w*i)=pk w l+c*2 ^ (w*i)
 | n::t,0,c,_=>by simp[pk];omega
 | n::t,i+1,c,h=>by
  have hi:i<t.length:=by simpa using h
  show n+2 ^ w*pk w (t.set i c)+t[i]*2 ^ (w*(i+1))=n+2 ^ w*pk w t+c*2 ^ (w*(i+1))
  have:=congrArg (2 ^ w*·) (NB w (l:=t) (i:=i) c hi);simp only[jaR]at this;rw[ij,← jaX,← jaX,jak t[i],jak c,jaX,jaX];omega
theorem NC{w:Nat}{l:List Nat}(h:∀ x∈l,x<2 ^ w){i:Nat}(hi:i<l.length):l[i]=pk w l / 2 ^ (w*i) % 2 ^ w:=by
 have h1:=Am w l.length (pk w l) i hi;rw[Al h,List.getElem?_eq_getElem hi]at h1;exact Option.some.inj h1
theorem Cg(w:Nat):∀ n,pk w (List.replicate n 0)=0
 | 0=>rfl
 | n+1=>by
  show 0+2 ^ w*pk w (List.replicate n 0)=0
  rw[Cg w n];simp
theorem ND(w:Nat)(l:List Nat):pk w (l++[0])=pk w l:=by rw[rQ];simp[pk]
def cQ(n:Nat):Nat:=if n=0 then 0 else n.log2+1
theorem eI{n w:Nat}:cQ n<=w↔n<2 ^ w:=by
 unfold cQ;split
 ·next h=>subst h;simp[jaD]
 ·next h=>rw[Nat.add_one_le_iff,Nat.log2_lt h]
theorem Kv{n:Nat}(h:n≠0):cQ n=cQ (n / 2)+1:=by
 have e:∀ k,cQ (n / 2)<=k↔cQ n<=k+1:=fun k=>by
  rw[eI,eI,Nat.pow_succ,Nat.div_lt_iff_lt_mul (by omega)]
 have h1:=(e (cQ (n / 2))).1 (ZR _);have hp:0<cQ n:=by unfold cQ;rw[if_neg h];omega
 have h2:=(e (cQ n-1)).2 (by omega);omega
theorem Tf(a b:Nat):cQ (a ||| b)=max (cQ a) (cQ b):=by
 have e:∀ k,cQ (a ||| b)<=k↔cQ a<=k/\cQ b<=k:=fun k=>by
  rw[eI,eI,eI];constructor
  ·intro h
   exact⟨jbo Nat.left_le_or h,jbo Nat.right_le_or h⟩
  ·intro h
   exact Nat.or_lt_two_pow h.1 h.2
 have h1:=(e _).1 (ZR _);have h2:=(e (max (cQ a) (cQ b))).2 ⟨by omega,by omega⟩;omega
def qm(l:List Nat):Nat:=l.foldl (· ||| ·) 0
theorem mI{l:List Nat}{i:Nat}(h:i<l.length):qm (l.take (i+1))=qm (l.take i) ||| l[i]:=by
 unfold qm;rw[Z5 h,List.foldl_append];rfl
def wd(l:List Nat):Nat:=cQ (qm l)
theorem qn{l:List Nat}{i:Nat}(h:i<l.length):wd (l.take (i+1))=max (wd (l.take i)) (cQ l[i]):=by
 unfold wd;rw[mI h,Tf]
theorem NE:wd []=0:=by decide
theorem uX{l:List Nat}{w:Nat}:∀ i,i<=l.length->(wd (l.take i)<=w↔∀ x∈l.take i,x<2 ^ w)
 | 0,_=>by simp[NE]
 | i+1,h=>by
  rw[qn (by omega),Z5 (by omega)];simp only[jaj,jay];have ih:=uX (l:=l) (w:=w) i (by omega);constructor
  ·intro h1 x hx
   rcases hx with hx | rfl
   ·exact ih.1 (by omega) x hx
   ·exact eI.1 (by omega)
  ·intro h1
   have h2:=ih.2 (fun x hx=>h1 x (Or.inl hx));have h3:=eI.2 (h1 _ (Or.inr rfl));omega
theorem qo{l:List Nat}{w:Nat}:wd l<=w↔∀ x∈l,x<2 ^ w:=by
 have:=uX (l:=l) (w:=w) l.length (ZR _);rwa[ZY]at this
theorem Fa{l:List Nat}(h:∀ x∈l,x<18446744073709551616):wd l<=64:=qo.2 h
theorem or64{l:List Nat}(h:∀ x∈l,x<18446744073709551616)(i:Nat):qm (l.take i)<18446744073709551616:=by
 have h1:wd (l.take i)<=64:=Fa (fun x hx=>h x (jaw hx));exact eI.1 h1
def by8(c:Nat):Nat:=(c+7) / 8
def can(l:List Nat)(w:Int):Bool:=decide (0<=w/\w<=64/\l.length<=256/\wd l<=w.toNat)
def be(l:List Nat)(w:Int):List Nat:=if can l w then dig 8 (by8 (l.length*w.toNat)) (pk w.toNat l) else []
def unE(b:List Nat)(n w:Int):Nat :=
 if 0<=n/\n<=256/\0<=w/\w<=64 then (if b.length=by8 (n.toNat*w.toNat)/\pk 8 b<2 ^ (n.toNat*w.toNat) then 0 else 40) else 1
def unR(b:List Nat)(n w:Int):List Nat:=if unE b n w=0 then dig w.toNat n.toNat (pk 8 b) else []
theorem WG{b:List Nat}{n w:Int}:∀ x∈unR b n w,x<18446744073709551616:=by
 intro x hx;unfold unR at hx;split at hx
 ·next h =>
  have h1:=An hx
  have hw:w.toNat<=64:=by
   unfold unE at h;split at h
   ·omega
   ·omega
  exact Z9 h1 (jaY (by omega) hw)
 ·simp at hx
theorem qp{l:List Nat}{w:Int}:∀ x∈be l w,x<256:=by
 intro x hx;unfold be at hx;split at hx
 ·exact An hx
 ·simp at hx
theorem Fb(c:Nat):c<=8*by8 c:=by unfold by8;omega
theorem Ch{l:List Nat}{w:Nat}(h:can l w=true):unE (be l w) l.length w=0/\unR (be l w) l.length w=l:=by
 have hc:=h;unfold can at hc;simp only[decide_eq_true_eq,jah]at hc;obtain⟨_,kC,hl,hw⟩:=hc;have aB:=qo.1 hw;have Uy:=Cf aB;have hP:be l w=dig 8 (by8 (l.length*w)) (pk w l):=by unfold be;rw[if_pos h];rfl
 have hB:pk 8 (be l w)=pk w l:=by
  rw[hP,NA,jaA];refine Z9 Uy (jaY (by omega) ?_);have:=Fb (l.length*w);rw[jak w];exact this
 have hE:unE (be l w) l.length w=0:=by
  unfold unE;rw[if_pos ⟨by omega,by omega,by omega,by omega⟩,if_pos];simp only[jah];exact⟨by rw[hP,dK],by rw[hB,jak];exact Uy⟩
 refine⟨hE,?_⟩;unfold unR;rw[if_pos hE,hB];simp only[jah];exact Al aB
def w64(x:Int):Int:=(x+9223372036854775808) % 18446744073709551616-9223372036854775808
theorem i9(x:Int):I64 (w64 x):=by unfold w64 I64;omega
theorem NF{x:Int}(h:I64 x):w64 x=x:=by unfold I64 at h;unfold w64;omega
theorem NG{x last:Int}(h:I64 x):w64 (last+w64 (x-last))=x:=by unfold I64 at h;unfold w64;omega
def ge:List Int->List Nat
 | []=>[]
 | x::t=>wv x++ge t
def rd0:Nat->List Nat->Except Nat (List Int×List Nat)
 | 0,b=>.ok ([],b)
 | n+1,b=>aA wh (fun x=>aA (rd0 n) (fun l r=>.ok (x::l,r))) b
theorem NH:∀{l:List Int},(∀ x∈l,I64 x)->dX (rd0 l.length) (ge l) l
 | [],_=>dX.pure []
 | x::t,h=>by
  have ht:=NH (l:=t) (fun y hy=>h y (by simp[hy]));exact(lB (h x (by simp))).bind (f:=fun x=>aA (rd0 t.length) (fun l r=>.ok (x::l,r))) (ht.map (x::·))
def iC:Int->List Int->List Nat
 | _,[]=>[]
 | last,x::t=>wv (w64 (x-last))++iC x t
def rd1:Nat->Int->List Nat->Except Nat (List Int×List Nat)
 | 0,_,b=>.ok ([],b)
 | n+1,last,b=>aA wh (fun d=>aA (rd1 n (w64 (last+d))) (fun l r=>.ok (w64 (last+d)::l,r))) b
theorem NI:∀{l:List Int} (last:Int),(∀ x∈l,I64 x)->dX (rd1 l.length last) (iC last l) l
 | [],_,_=>dX.pure []
 | x::t,last,h=>by
  have hx:=h x (by simp);have ht:=NI (l:=t) x (fun y hy=>h y (by simp[hy]));refine(lB (i9 (x-last))).bind (f:=fun d=>aA (rd1 t.length (w64 (last+d))) (fun l r=>.ok (w64 (last+d)::l,r))) ?_;simp only[NG hx];exact ht.map (x::·)
def fC:Int->Nat->List Int->List Nat
 | x,c,[]=>wv x++uv c
 | x,c,y::t=>if y=x then fC x (c+1) t else wv x++uv c++fC y 1 t
def ik:List Int->List Nat
 | []=>[]
 | x::t=>fC x 1 t
def rd2:Nat->Nat->List Nat->Except Nat (List Int×List Nat)
 | 0,_,b=>.ok ([],b)
 | f+1,n,b=>if n=0 then .ok ([],b) else aA wh (fun x=>aA num (fun k=>if k=0∨n<k then (fun _=>.error 40) else aA (rd2 f (n-k)) (fun l r=>.ok (List.replicate k x++l,r)))) b
theorem Ci(f:Nat)(b:List Nat):rd2 f 0 b=.ok ([],b):=by
 cases f with
 | zero=>rfl
 | succ f=>unfold rd2;rw[if_pos rfl]
theorem Ao:∀{t:List Int} {x:Int} {c f:Nat},(∀ y∈t,I64 y)->I64 x->1<=c->c+t.length<=1000000->t.length+1<=f ->
  dX (rd2 f (c+t.length)) (fC x c t) (List.replicate c x++t)
 | [],x,c,f,_,hx,hc,hm,hf=>by
  obtain⟨f,rfl⟩:∃ g,f=g+1:=⟨f-1,by simp at hf;omega⟩
  have h1:dX (fun b=>aA wh (fun x=>aA num (fun k=>if k=0∨c<k then (fun _=>.error 40) else aA (rd2 f (c-k)) (fun l r=>.ok (List.replicate k x++l,r)))) b) (wv x++uv c) (List.replicate c x++[]):=by
   refine(lB hx).bind ?_
   have h2:=(lA (n:=c) (by simp at hm;omega)).bind (f:=fun k=>if k=0∨c<k then (fun _=>.error 40) else aA (rd2 f (c-k)) (fun l r=>.ok (List.replicate k x++l,r))) (e':=[]) (y:=List.replicate c x++[])
    (by
     rw[if_neg (by omega),ja9];have h3:dX (rd2 f 0) [] []:=⟨fun r=>Ci f _,fun k h=>by simp at h⟩;exact h3.map (List.replicate c x++·))
   rwa[Z7]at h2
  have e:rd2 (f+1) (c+([]:List Int).length)=(fun b=>aA wh (fun x=>aA num (fun k=>if k=0∨c<k then (fun _=>.error 40) else aA (rd2 f (c-k)) (fun l r=>.ok (List.replicate k x++l,r)))) b):=by
   funext b
   show (if c=0 then _ else _)=_
   rw[if_neg (by omega)];rfl
  rw[e];exact h1
 | y::t,x,c,f,ht,hx,hc,hm,hf=>by
  by_cases BK:y=x
  ·subst BK
   have:=Ao (t:=t) (x:=y) (c:=c+1) (f:=f) (fun z hz=>ht z (by simp[hz])) hx (by omega) (by simp at hm;omega) (by simp at hf;omega);rw[show fC y c (y::t)=fC y (c+1) t by rw[fC,if_pos rfl],show c+(y::t).length=c+1+t.length by simp;omega];rw[show List.replicate c y++y::t=List.replicate (c+1) y++t by rw[List.replicate_succ'];simp];exact this
  ·obtain⟨f,rfl⟩:∃ g,f=g+1:=⟨f-1,by simp at hf;omega⟩
   have ih:=Ao (t:=t) (x:=y) (c:=1) (f:=f) (fun z hz=>ht z (by simp[hz])) (ht y (by simp)) (by omega) (by simp at hm;omega) (by simp at hf;omega);rw[show fC x c (y::t)=wv x++uv c++fC y 1 t by rw[fC,if_neg BK],Z4]
   have e:rd2 (f+1) (c+(y::t).length)=(fun b=>aA wh (fun x=>aA num (fun k=>if k=0∨c+(y::t).length<k then (fun _=>.error 40) else aA (rd2 f (c+(y::t).length-k)) (fun l r=>.ok (List.replicate k x++l,r)))) b):=by
    funext b
    rw[rd2,if_neg (by omega)]
   rw[e];refine(lB hx).bind ?_;refine(lA (n:=c) (by omega)).bind ?_;rw[if_neg (by omega),show c+(y::t).length-c=1+t.length by simp;omega];exact ih.map (List.replicate c x++·)
theorem WH{l:List Int}(h:∀ x∈l,I64 x)(hm:l.length<=1000000):dX (rd2 l.length l.length) (ik l) l:=by
 cases l with
 | nil=>exact dX.pure []
 | cons x t =>
  have:=Ao (t:=t) (x:=x) (c:=1) (f:=(x::t).length) (fun z hz=>h z (by simp[hz])) (h x (by simp)) (by omega) (by simp at hm;omega) (by simp);rw[show 1+t.length=(x::t).length by simp;omega]at this;exact this
def ins(x:Int):List Int->List Int
 | []=>[x]
 | y::t=>if x=y then y::t else if x<y then x::y::t else y::ins x t
def cE(l:List Int):List Int:=l.foldl (fun u x=>ins x u) []
def dL(l:List Int):Prop:=l.Pairwise (· < ·)
theorem Aq{x z:Int}:∀{u:List Int},z∈ins x u↔z=x∨z∈u
 | []=>by simp[ins]
 | y::t=>by
  have ih:=Aq (x:=x) (z:=z) (u:=t);unfold ins;split
  ·next h =>
   subst h;simp
  ·split
   ·simp
   ·simp only[Z6,ih]
    constructor
    ·rintro(h | h | h)
     ·exact Or.inr (Or.inl h)
     ·exact Or.inl h
     ·exact Or.inr (Or.inr h)
    ·rintro(h | h | h)
     ·exact Or.inr (Or.inl h)
     ·exact Or.inl h
     ·exact Or.inr (Or.inr h)
theorem uY{x:Int}:∀{u:List Int},dL u->dL (ins x u)
 | [],_=>by simp[ins,dL]
 | y::t,h=>by
  have h1:(∀ z∈t,y<z)/\dL t:=jaM.1 h;unfold ins;split
  ·exact h
  ·next fO =>
   split
   ·next aB =>
    refine jaM.2 ⟨fun z hz=>?_,h⟩;rcases Z6.1 hz with rfl | hz
    ·exact aB
    ·exact Int.lt_trans aB (h1.1 z hz)
   ·next aB =>
    refine jaM.2 ⟨fun z hz=>?_,uY h1.2⟩;rcases Aq.1 hz with rfl | hz
    ·omega
    ·exact h1.1 z hz
theorem uZ{l:List Int}{i:Nat}(h:i<l.length):cE (l.take (i+1))=ins l[i] (cE (l.take i)):=by
 unfold cE;rw[Z5 h,List.foldl_append];rfl
theorem rR:∀(l u:List Int),dL u->dL (l.foldl (fun u x=>ins x u) u)/\∀ z,z∈l.foldl (fun u x=>ins x u) u↔z∈u∨z∈l
 | [],u,h=>⟨h,fun z=>by simp⟩
 | x::t,u,h=>by
  obtain⟨h1,h2⟩:=rR t (ins x u) (uY h);refine⟨h1,fun z=>?_⟩;have:=h2 z;rw[Aq]at this;simp only[List.foldl_cons,Z6];rw[this];constructor
  ·rintro((h | h) | h)
   ·exact Or.inr (Or.inl h)
   ·exact Or.inl h
   ·exact Or.inr (Or.inr h)
  ·rintro(h | h | h)
   ·exact Or.inl (Or.inr h)
   ·exact Or.inl (Or.inl h)
   ·exact Or.inr h
theorem gN(l:List Int):dL (cE l):=(rR l [] List.Pairwise.nil).1
theorem gg{l:List Int}{z:Int}:z∈cE l↔z∈l:=by
 have:=(rR l [] List.Pairwise.nil).2 z;unfold cE;rw[this];simp
theorem pu{x:Int}:∀{u:List Int},(ins x u).length<=u.length+1
 | []=>by simp[ins]
 | y::t=>by
  have:=pu (x:=x) (u:=t);unfold ins;split
  ·simp
  ·split
   ·simp
   ·simp;omega
theorem lD:∀(l u:List Int),(l.foldl (fun u x=>ins x u) u).length<=u.length+l.length
 | [],u=>by simp
 | x::t,u=>by
  have h1:=lD t (ins x u);have h2:=pu (x:=x) (u:=u);simp only[List.foldl_cons,ZW];omega
theorem fD(l:List Int):(cE l).length<=l.length:=by
 have:=lD l [];unfold cE;simpa using this
theorem ng{l:List Int}(h:0<l.length):0<(cE l).length:=by
 have:l[0]∈cE l:=gg.2 (ZV h);exact List.length_pos_of_mem this
theorem lE{l:List Int}(h:∀ x∈l,I64 x):∀ x∈cE l,I64 x:=fun x hx=>h x (gg.1 hx)
def pl:List Int->Int->Nat
 | [],_=>0
 | y::t,x=>if y=x then 0 else pl t x+1
theorem u5{x:Int}:∀{u:List Int},x∈u->pl u x<u.length/\u[pl u x]?=some x
 | y::t,h=>by
  unfold pl;split
  ·next e=>subst e;simp
  ·next fO =>
   have ht:x∈t:=by
    rcases Z6.1 h with rfl | h
    ·exact absurd rfl fO
    ·exact h
   obtain⟨h1,h2⟩:=u5 ht;simp only[ZW,List.getElem?_cons_succ];exact⟨by omega,h2⟩
theorem Vr:∀{u:List Int} {i:Nat} (h:i<u.length),dL u->pl u u[i]=i
 | y::t,0,_,_=>by simp[pl]
 | y::t,i+1,h,hr=>by
  have hi:i<t.length:=by simpa using h
  have h1:(∀ z∈t,y<z)/\dL t:=jaM.1 hr;have h2:=h1.1 t[i] (ZV hi);show pl (y::t) t[i]=i+1
  unfold pl;rw[if_neg (by omega),Vr hi h1.2]
def places(l:List Int):List Nat:=l.map (pl (cE l))
theorem lh(l:List Int):(places l).length=l.length:=ZU _
theorem nR{l:List Int}:∀ p∈places l,p<(cE l).length:=by
 intro p hp;obtain⟨x,hx,rfl⟩:=jaa.1 hp;exact(u5 (gg.2 hx)).1
theorem Fc{l:List Int}(h:0<l.length):(cE l).length-1∈places l:=by
 have hu:=ng h;have hi:(cE l).length-1<(cE l).length:=by omega
 refine jaa.2 ⟨(cE l)[(cE l).length-1],gg.1 (ZV hi),?_⟩;exact Vr hi (gN l)
theorem yB{l:List Int}(h:0<l.length):wd (places l)=cQ ((cE l).length-1):=by
 have hu:=ng h
 have e:∀ w,wd (places l)<=w↔cQ ((cE l).length-1)<=w:=fun w=>by
  rw[qo,eI];constructor
  ·intro h1
   exact h1 _ (Fc h)
  ·intro h1 p hp
   have:=nR p hp;omega
 have h1:=(e _).1 (ZR _);have h2:=(e _).2 (ZR _);omega
theorem Cj(l:List Int):(places l).map (fun q=>(cE l).getD q 0)=l:=by
 unfold places;rw[jao];conv=>rhs;rw[← jaN l]
 apply jaI
 intro x hx;have:=(u5 (gg.2 hx)).2;simp[List.getD_eq_getElem?_getD,this]
def gO(l:List Int):Int:=(cE l).headD 0
theorem gP{l:List Int}(h:0<l.length):gO l∈l:=by
 have hu:=ng h;unfold gO;cases hq:cE l with
 | nil=>rw[hq]at hu;simp at hu
 | cons y t =>
  have:y∈cE l:=by rw[hq];simp
  exact gg.1 this
theorem nh{l:List Int}:∀ x∈l,gO l<=x:=by
 intro x hx;have h1:=gg.2 hx;have h2:=gN l;unfold gO;cases hq:cE l with
 | nil=>rw[hq]at h1;simp at h1
 | cons y t =>
  rw[hq]at h1 h2;have h3:(∀ z∈t,y<z)/\dL t:=jaM.1 h2;rcases Z6.1 h1 with rfl | h1
  ·exact Int.le_refl _
  ·exact Int.le_of_lt (h3.1 x h1)
def df(l:List Int):List Nat:=l.map fun x=>(x-gO l).toNat
theorem fR(l:List Int):(df l).length=l.length:=ZU _
theorem lF{l:List Int}(h:∀ x∈l,I64 x):∀ p∈df l,p<18446744073709551616:=by
 intro p hp;obtain⟨x,hx,rfl⟩:=jaa.1 hp;have h1:=h x hx;have h2:=h _ (gP (List.length_pos_of_mem hx));have h3:=nh x hx;unfold I64 at h1 h2;omega
theorem Fe{l:List Int}(h:∀ x∈l,I64 x):(df l).map (fun(q:Nat)=>w64 (gO l+(q:Int)))=l:=by
 unfold df;rw[jao];conv=>rhs;rw[← jaN l]
 apply jaI
 intro x hx;have h1:=h x hx;have h3:=nh x hx;simp only[Function.comp,id];rw[show gO l+((x-gO l).toNat:Int)=x by omega];exact NF h1
def pkd(n w:Nat)(b:List Nat):Except Nat (List Nat×List Nat) :=
 if b.length<by8 (n*w) then .error 30
 else if by8 (n*w)<b.length then .error 32
 else if unE b n w=0 then .ok (unR b n w,[]) else .error (unE b n w)
theorem Ff{p:List Nat}{w:Nat}(hl:p.length<=256)(hw:w<=64)(hp:wd p<=w):can p w=true:=by
 unfold can;exact decide_eq_true ⟨by omega,by omega,hl,by omega⟩
theorem ml{p:List Nat}{w:Nat}(h:can p w=true):(be p w).length=by8 (p.length*w):=by
 unfold be;rw[if_pos h,dK];rfl
theorem Ck{p:List Nat}{w:Nat}(hl:p.length<=256)(hw:w<=64)(hp:wd p<=w):qk (pkd p.length w) (be p w) p:=by
 have ln:=Ff hl hw hp;have bQ:=ml ln;obtain⟨h1,h2⟩:=Ch ln;refine⟨?_,fun y r=>Or.inl ?_,fun k hk=>?_⟩
 ·unfold pkd
  rw[if_neg (by omega),if_neg (by omega),if_pos h1,h2]
 ·unfold pkd
  rw[if_neg (by simp;omega),if_pos (by simp;omega)]
 ·unfold pkd
  rw[if_pos (by rw[ZX];omega)]
def pw:Int->List Int->List Nat
 | _,[]=>[]
 | last,y::t=>uv (y-last).toNat++pw y t
def gZ:List Int->List Nat
 | []=>[]
 | x::t=>wv x++pw x t
def rdU:Nat->Int->List Nat->Except Nat (List Int×List Nat)
 | 0,_,b=>.ok ([],b)
 | m+1,last,b=>aA num (fun(d:Nat)=>if d=0∨9223372036854775807-last<(d:Int) then (fun _=>.error 40) else aA (rdU m (last+d)) (fun l r=>.ok ((last+d)::l,r))) b
theorem NJ:∀{t:List Int} {last:Int},dL (last::t)->I64 last->(∀ x∈t,I64 x)->dX (rdU t.length last) (pw last t) t
 | [],_,_,_,_=>dX.pure []
 | y::t,last,hr,hl,ht=>by
  have h1:(∀ z∈y::t,last<z)/\dL (y::t):=jaM.1 hr;have hy:=h1.1 y (by simp);have hyi:=ht y (by simp);have ih:=NJ (t:=t) (last:=y) h1.2 hyi (fun x hx=>ht x (by simp[hx]));unfold I64 at hl hyi;refine(lA (n:=(y-last).toNat) (by omega)).bind (f:=fun(d:Nat)=>if d=0∨9223372036854775807-last<(d:Int) then (fun _=>.error 40) else aA (rdU t.length (last+d)) (fun l r=>.ok ((last+d)::l,r))) ?_;rw[if_neg (by omega),show last+((y-last).toNat:Int)=y by omega];exact ih.map (y::·)
def py(l:List Int):List Nat:=uv (cE l).length++(gZ (cE l)++be (places l) (wd (places l):Int))
def picked(u:List Int)(p r:List Nat):Except Nat (List Int×List Nat):=if ∀ q∈p,q<u.length then .ok (p.map (fun q=>u.getD q 0),r) else .error 40
def rd3(n:Nat)(b:List Nat):Except Nat (List Int×List Nat) :=
 aA num (fun many=>if n<many∨many=0/\0<n then (fun _=>.error 40) else if n=0 then (fun r=>.ok ([],r)) else
  aA wh (fun x=>aA (rdU (many-1) x) (fun u=>aA (pkd n (cQ (many-1))) (fun p r=>picked (x::u) p r)))) b
theorem qk.picked{d:List Nat->Except Nat (List Nat×List Nat)}{e p:List Nat}{u:List Int}(h:qk d e p)(hp:∀ q∈p,q<u.length):qk (aA d (picked u)) e (p.map fun q=>u.getD q 0):=by
 have hk:∀ r,YtpljdjmpamjkhaaGreatDoor.picked u p r=.ok (p.map (fun q=>u.getD q 0),r):=fun r=>by unfold YtpljdjmpamjkhaaGreatDoor.picked;rw[if_pos hp]
 refine⟨by rw[cV h.1,hk],fun y r=>?_,fun k hk=>cA (h.2.2 k hk)⟩;rcases h.2.1 y r with h1 | h1
 ·exact Or.inl (cA h1)
 ·exact Or.inr (by rw[cV h1,hk])
theorem Cm{l:List Int}(hm:l.length<=256):wd (places l)<=64:=by
 refine qo.2 (fun p hp=>?_);have:=nR p hp;have:=fD l;have:p<256:=by omega
 exact Z9 this (by decide)
theorem ends3{l:List Int}(h:∀ x∈l,I64 x)(hm:l.length<=256):qk (rd3 l.length) (py l) l:=by
 have uj:=fD l;have kD:=lh l;have hwp:=Cm hm;have Rh:=lA (n:=(cE l).length) (by omega);refine Rh.then ?_
 rcases jax l.length with h0 | h0
 ·obtain rfl:l=[]:=jab h0
  rw[if_neg (by simp[cE]),if_pos (show ([]:List Int).length=0 from rfl)]
  have e:gZ (cE [])++be (places []) (wd (places []):Int)=[]:=by
   have:be (places []) (wd (places []):Int)=[]:=by
    have hc:=Ff (p:=places []) (w:=wd (places [])) (by simp[places]) hwp (ZR _);have h1:=ml hc;refine jab (h1.trans ?_);simp[places,by8]
   rw[this];simp[cE,gZ]
  rw[e];exact(dX.pure []).ends
 ·have Ze:=ng h0
  rw[if_neg (by omega),if_neg (by omega)];have hr:=gN l;have hi:=lE h;have hb:=Cj l;have aB:=nR (l:=l);have JY:=yB h0;generalize places l=p at *;cases hu:cE l with
  | nil=>rw[hu]at Ze;simp at Ze
  | cons x t =>
   rw[hu]at hr hi hb aB JY;have xi:=Ck (p:=p) (w:=wd p) (by omega) hwp (ZR _);rw[kD]at xi;rw[show gZ (x::t)=wv x++pw x t from rfl,Z4];refine(lB (hi x (by simp))).then ?_
   refine(NJ hr (hi x (by simp)) (fun z hz=>hi z (by simp[hz]))).then (f:=fun u=>aA (pkd l.length (cQ ((x::t).length-1))) (fun p r=>picked (x::u) p r)) ?_
   rw[← JY];have:=xi.picked (u:=x::t) aB;rw[hb]at this;exact this
def lG(l:List Int):List Nat:=if l.length=0 then [] else wv (gO l)++(uv (wd (df l))++be (df l) (wd (df l):Int))
def rd4(n:Nat)(b:List Nat):Except Nat (List Int×List Nat) :=
 if n=0 then .ok ([],b) else
  aA wh (fun x=>aA num (fun w=>if 64<w then (fun _=>.error 40) else aA (pkd n w) (fun p r=>.ok (p.map (fun(q:Nat)=>w64 (x+(q:Int))),r)))) b
theorem ends4{l:List Int}(h:∀ x∈l,I64 x)(hm:l.length<=256):qk (rd4 l.length) (lG l) l:=by
 rcases jax l.length with h0 | h0
 ·obtain rfl:l=[]:=jab h0
  exact(dX.pure ([]:List Int)).ends
 ·have hml:=fR l
  have hw:=Fa (lF h);have xi:=Ck (p:=df l) (w:=wd (df l)) (by omega) hw (ZR _);rw[hml]at xi;have kz:=xi.map (fun p=>p.map (fun(q:Nat)=>w64 (gO l+(q:Int))));rw[Fe h]at kz
  have Rh:qk (aA num (fun w=>if 64<w then (fun _=>.error 40) else aA (pkd l.length w) (fun p r=>.ok (p.map (fun(q:Nat)=>w64 (gO l+(q:Int))),r)))) (uv (wd (df l))++be (df l) (wd (df l):Int)) l:=by
   refine(lA (n:=wd (df l)) (by omega)).then ?_
   rw[if_neg (by omega)];exact kz
  have cU:=(lB (h _ (gP h0))).then (f:=fun x=>aA num (fun w=>if 64<w then (fun _=>.error 40) else aA (pkd l.length w) (fun p r=>.ok (p.map (fun(q:Nat)=>w64 (x+(q:Int))),r)))) Rh
  have e1:lG l=wv (gO l)++(uv (wd (df l))++be (df l) (wd (df l):Int)):=by unfold lG;rw[if_neg (by omega)]
  have e2:rd4 l.length=aA wh (fun x=>aA num (fun w=>if 64<w then (fun _=>.error 40) else aA (pkd l.length w) (fun p r=>.ok (p.map (fun(q:Nat)=>w64 (x+(q:Int))),r)))):=by
   funext b
   unfold rd4;rw[if_neg (by omega)]
  rw[e1,e2];exact cU
def hO(c:Nat)(l:List Int):List Nat :=
 match c with
 | 0=>ge l
 | 1=>iC 0 l
 | 2=>ik l
 | 3=>py l
 | _=>lG l
def rdC(c n:Nat):List Nat->Except Nat (List Int×List Nat) :=
 match c with
 | 0=>rd0 n
 | 1=>rd1 n 0
 | 2=>rd2 n n
 | 3=>rd3 n
 | _=>rd4 n
theorem endsC(c:Nat){l:List Int}(h:∀ x∈l,I64 x)(hm:l.length<=256):qk (rdC c l.length) (hO c l) l:=by
 unfold rdC hO;split
 ·exact(NH h).ends
 ·exact(NI 0 h).ends
 ·exact(WH h (by omega)).ends
 ·exact ends3 h hm
 ·exact ends4 h hm
def mJ(c n:Nat)(b:List Nat):Except Nat (List Int) :=
 match rdC c n b with
 | .error e=>.error e
 | .ok (l,r)=>if r.length=0 then (if hO c l=b then .ok l else .error 40) else .error 32
def bn(b:List Nat)(n:Int):List Int×Nat :=
 if 0<=n/\n<=256 then
  match b with
  | []=>([],30)
  | c::t=>if 4<c then ([],50) else match mJ c n.toNat t with
   | .ok l=>(l,0)
   | .error e=>([],e)
 else ([],1)
theorem Fg(c:Nat){l:List Int}(h:∀ x∈l,I64 x)(hm:l.length<=256):mJ c l.length (hO c l)=.ok l:=by
 unfold mJ;rw[(endsC c h hm).1];simp
theorem Fh{c:Nat}(hc:c<=4){l:List Int}(h:∀ x∈l,I64 x)(hm:l.length<=256):bn (c::hO c l) l.length=(l,0):=by
 unfold bn;rw[if_pos (by omega)];simp only[jah];rw[if_neg (by omega),Fg c h hm]
theorem cd{α β : Type}{d:List Nat->Except Nat (α×List Nat)}{f:α->List Nat->Except Nat (β×List Nat)}{b r:List Nat}{y:β}(h:aA d f b=.ok (y,r)) :
  ∃ x q,d b=.ok (x,q)/\f x q=.ok (y,r):=by
 unfold aA at h;split at h
 ·next x q e=>exact⟨x,q,e,h⟩
 ·simp at h
theorem Bs.right{a b:List Nat}(h:Bs (a++b)):Bs b:=fun x hx=>h x (jaj.2 (Or.inr hx))
theorem Ar{b r:List Nat}{n:Nat}(hb:Bs b)(h:num b=.ok (n,r)):n<18446744073709551616/\Bs r:=by
 obtain⟨h1,h2⟩:=WB hb h;exact⟨h1,by rw[h2]at hb;exact hb.right⟩
theorem ve{b r:List Nat}{x:Int}(hb:Bs b)(h:wh b=.ok (x,r)):I64 x/\Bs r:=by
 obtain⟨h1,h2⟩:=wh_ok hb h;exact⟨h1,by rw[h2]at hb;exact hb.right⟩
def Is(l:List Int):Prop:=∀ x∈l,I64 x
theorem Is.cons{x:Int}{l:List Int}(h:I64 x)(hl:Is l):Is (x::l):=fun y hy=>by
 rcases Z6.1 hy with rfl | hy
 ·exact h
 ·exact hl y hy
theorem Jq:∀{n:Nat} {b r:List Nat} {l:List Int},Bs b->rd0 n b=.ok (l,r)->l.length=n/\Is l/\Bs r
 | 0,b,r,l,hb,h=>by
  simp only[rd0,Except.ok.injEq,Prod.mk.injEq]at h;obtain⟨rfl,rfl⟩:=h;exact⟨rfl,fun x hx=>by simp at hx,hb⟩
 | n+1,b,r,l,hb,h=>by
  rw[rd0]at h;obtain⟨x,q,h1,h2⟩:=cd h;obtain⟨m,q2,h3,h4⟩:=cd h2;obtain⟨i1,i2⟩:=ve hb h1;obtain⟨j1,j2,j3⟩:=Jq i2 h3;simp only[Except.ok.injEq,Prod.mk.injEq]at h4;obtain⟨rfl,rfl⟩:=h4;exact⟨by simp[j1],j2.cons i1,j3⟩
theorem Jr:∀{n:Nat} {last:Int} {b r:List Nat} {l:List Int},Bs b->rd1 n last b=.ok (l,r)->l.length=n/\Is l/\Bs r
 | 0,last,b,r,l,hb,h=>by
  simp only[rd1,Except.ok.injEq,Prod.mk.injEq]at h;obtain⟨rfl,rfl⟩:=h;exact⟨rfl,fun x hx=>by simp at hx,hb⟩
 | n+1,last,b,r,l,hb,h=>by
  rw[rd1]at h;obtain⟨x,q,h1,h2⟩:=cd h;obtain⟨m,q2,h3,h4⟩:=cd h2;obtain⟨i1,i2⟩:=ve hb h1;obtain⟨j1,j2,j3⟩:=Jr i2 h3;simp only[Except.ok.injEq,Prod.mk.injEq]at h4;obtain⟨rfl,rfl⟩:=h4;exact⟨by simp[j1],j2.cons (i9 _),j3⟩
theorem Js:∀{f n:Nat} {b r:List Nat} {l:List Int},n<=f->Bs b->rd2 f n b=.ok (l,r)->l.length=n/\Is l/\Bs r
 | 0,n,b,r,l,hf,hb,h=>by
  simp only[rd2,Except.ok.injEq,Prod.mk.injEq]at h;obtain⟨rfl,rfl⟩:=h;exact⟨by simp;omega,fun x hx=>by simp at hx,hb⟩
 | f+1,n,b,r,l,hf,hb,h=>by
  rw[rd2]at h;split at h
  ·simp only[Except.ok.injEq,Prod.mk.injEq]at h
   obtain⟨rfl,rfl⟩:=h;exact⟨by simp;omega,fun x hx=>by simp at hx,hb⟩
  ·obtain⟨x,q,h1,h2⟩:=cd h
   obtain⟨i1,i2⟩:=ve hb h1;obtain⟨k,q2,h3,h4⟩:=cd h2;obtain⟨_,i3⟩:=Ar i2 h3;split at h4
   ·simp at h4
   ·obtain⟨m,q3,h5,h6⟩:=cd h4
    obtain⟨j1,j2,j3⟩:=Js (by omega) i3 h5;simp only[Except.ok.injEq,Prod.mk.injEq]at h6;obtain⟨rfl,rfl⟩:=h6;refine⟨by simp[j1];omega,fun y hy=>?_,j3⟩;rcases jaj.1 hy with hy | hy
    ·rw[jbp hy];exact i1
    ·exact j2 y hy
theorem Jt:∀{m:Nat} {last:Int} {b r:List Nat} {l:List Int},I64 last->Bs b->rdU m last b=.ok (l,r)->l.length=m/\Is l/\Bs r
 | 0,last,b,r,l,hl,hb,h=>by
  simp only[rdU,Except.ok.injEq,Prod.mk.injEq]at h;obtain⟨rfl,rfl⟩:=h;exact⟨rfl,fun x hx=>by simp at hx,hb⟩
 | m+1,last,b,r,l,hl,hb,h=>by
  rw[rdU]at h;obtain⟨d,q,h1,h2⟩:=cd h;obtain⟨_,i2⟩:=Ar hb h1;split at h2
  ·simp at h2
  ·next hd =>
   have hi:I64 (last+d):=by unfold I64 at hl ⊢;omega
   obtain⟨m',q2,h3,h4⟩:=cd h2;obtain⟨j1,j2,j3⟩:=Jt hi i2 h3;simp only[Except.ok.injEq,Prod.mk.injEq]at h4;obtain⟨rfl,rfl⟩:=h4;exact⟨by simp[j1],j2.cons hi,j3⟩
theorem Ju{n w:Nat}{b r p:List Nat}(h:pkd n w b=.ok (p,r)):p.length=n/\r=[]:=by
 unfold pkd at h;split at h
 ·simp at h
 ·split at h
  ·simp at h
  ·split at h
   ·next hE =>
    simp only[Except.ok.injEq,Prod.mk.injEq]at h;obtain⟨rfl,rfl⟩:=h;refine⟨?_,rfl⟩;rw[unR,if_pos hE,dK];rfl
   ·simp at h
theorem Tg{n:Nat}{b r:List Nat}{l:List Int}(hb:Bs b)(h:rd3 n b=.ok (l,r)):l.length=n/\Is l/\Bs r:=by
 unfold rd3 at h;obtain⟨many,q,h1,h2⟩:=cd h;obtain⟨_,i2⟩:=Ar hb h1;split at h2
 ·simp at h2
 ·split at h2
  ·simp only[Except.ok.injEq,Prod.mk.injEq]at h2
   obtain⟨rfl,rfl⟩:=h2;exact⟨by simp;omega,fun x hx=>by simp at hx,i2⟩
  ·obtain⟨x,q2,h3,h4⟩:=cd h2
   obtain⟨i3,i4⟩:=ve i2 h3;obtain⟨u,q3,h5,h6⟩:=cd h4;obtain⟨j1,j2,j3⟩:=Jt i3 i4 h5;obtain⟨p,q4,h7,h8⟩:=cd h6;obtain⟨k1,rfl⟩:=Ju h7;unfold picked at h8;split at h8
   ·next hp =>
    simp only[Except.ok.injEq,Prod.mk.injEq]at h8;obtain⟨rfl,rfl⟩:=h8;refine⟨by simp[k1],fun y hy=>?_,fun y hy=>by simp at hy⟩;obtain⟨z,hz,rfl⟩:=jaa.1 hy;have aB:=hp z hz;rw[List.getD_eq_getElem?_getD,List.getElem?_eq_getElem aB];exact(j2.cons i3) _ (ZV aB)
   ·simp at h8
theorem Th{n:Nat}{b r:List Nat}{l:List Int}(hb:Bs b)(h:rd4 n b=.ok (l,r)):l.length=n/\Is l/\Bs r:=by
 unfold rd4 at h;split at h
 ·simp only[Except.ok.injEq,Prod.mk.injEq]at h
  obtain⟨rfl,rfl⟩:=h;exact⟨by simp;omega,fun x hx=>by simp at hx,hb⟩
 ·obtain⟨x,q,h1,h2⟩:=cd h
  obtain⟨i1,i2⟩:=ve hb h1;obtain⟨w,q2,h3,h4⟩:=cd h2;split at h4
  ·simp at h4
  ·obtain⟨p,q3,h5,h6⟩:=cd h4
   obtain⟨k1,rfl⟩:=Ju h5;simp only[Except.ok.injEq,Prod.mk.injEq]at h6;obtain⟨rfl,rfl⟩:=h6;refine⟨by simp[k1],fun y hy=>?_,fun y hy=>by simp at hy⟩;obtain⟨z,_,rfl⟩:=jaa.1 hy;exact i9 _
theorem Ti{c n:Nat}{b r:List Nat}{l:List Int}(hb:Bs b)(h:rdC c n b=.ok (l,r)):l.length=n/\Is l/\Bs r:=by
 unfold rdC at h;split at h
 ·exact Jq hb h
 ·exact Jr hb h
 ·exact Js (ZR _) hb h
 ·exact Tg hb h
 ·exact Th hb h
theorem Kw{c n:Nat}{b:List Nat}{l:List Int}(hb:Bs b)(h:mJ c n b=.ok l):l.length=n/\Is l/\hO c l=b:=by
 unfold mJ at h;split at h
 ·simp at h
 ·next l' r e =>
  split at h
  ·split at h
   ·next h2 =>
    simp only[Except.ok.injEq]at h;subst h;obtain⟨h3,h4,_⟩:=Ti hb e;exact⟨h3,h4,h2⟩
   ·simp at h
  ·simp at h
theorem dA{α β : Type}{d:List Nat->Except Nat (α×List Nat)}{f:α->List Nat->Except Nat (β×List Nat)}(h1:∀ b,d b≠.error 0)(h2:∀ x b,f x b≠.error 0)(b:List Nat):aA d f b≠.error 0:=by
 unfold aA;split
 ·exact h2 _ _
 ·next e he =>
  intro h;simp only[Except.error.injEq]at h;subst h;exact h1 b he
theorem As(b:List Nat):num b≠.error 0:=by
 unfold num;split
 ·simp
 ·next h=>intro e;simp only[Except.error.injEq]at e;exact h e
theorem Cn(b:List Nat):wh b≠.error 0:=by
 unfold wh;split
 ·simp
 ·next h=>intro e;simp only[Except.error.injEq]at e;exact h e
theorem NK(n w:Nat)(b:List Nat):pkd n w b≠.error 0:=by
 unfold pkd;split
 ·simp
 ·split
  ·simp
  ·split
   ·simp
   ·next h=>intro e;simp only[Except.error.injEq]at e;exact h e
theorem NL:∀(n:Nat) (b:List Nat),rd0 n b≠.error 0
 | 0,b=>by simp[rd0]
 | n+1,b=>dA Cn (fun x=>dA (NL n) (fun l r=>by simp)) b
theorem NM:∀(n:Nat) (last:Int) (b:List Nat),rd1 n last b≠.error 0
 | 0,last,b=>by simp[rd1]
 | n+1,last,b=>dA Cn (fun d=>dA (NM n _) (fun l r=>by simp)) b
theorem NN:∀(f n:Nat) (b:List Nat),rd2 f n b≠.error 0
 | 0,n,b=>by simp[rd2]
 | f+1,n,b=>by
  rw[rd2];split
  ·simp
  ·refine dA Cn (fun x=>dA As (fun k q=>?_)) b
   split
   ·simp
   ·exact dA (NN f _) (fun l r=>by simp) q
theorem NO:∀(m:Nat) (last:Int) (b:List Nat),rdU m last b≠.error 0
 | 0,last,b=>by simp[rdU]
 | m+1,last,b=>by
  rw[rdU];refine dA As (fun d q=>?_) b;split
  ·simp
  ·exact dA (NO m _) (fun l r=>by simp) q
theorem WI(n:Nat)(b:List Nat):rd3 n b≠.error 0:=by
 unfold rd3;refine dA As (fun many q=>?_) b;split
 ·simp
 ·split
  ·simp
  ·refine dA Cn (fun x=>dA (NO _ _) (fun u=>dA (NK _ _) (fun p r=>?_))) q
   unfold picked;split<;>simp
theorem WJ(n:Nat)(b:List Nat):rd4 n b≠.error 0:=by
 unfold rd4;split
 ·simp
 ·refine dA Cn (fun x=>dA As (fun w q=>?_)) b
  split
  ·simp
  ·exact dA (NK _ _) (fun p r=>by simp) q
theorem WK(c n:Nat)(b:List Nat):rdC c n b≠.error 0:=by
 unfold rdC;split
 ·exact NL n b
 ·exact NM n 0 b
 ·exact NN n n b
 ·exact WI n b
 ·exact WJ n b
theorem NP(c n:Nat)(b:List Nat):mJ c n b≠.error 0:=by
 unfold mJ;split
 ·next e he =>
  intro h;simp only[Except.error.injEq]at h;subst h;exact WK c n b he
 ·split
  ·split<;>simp
  ·simp
theorem Kx{b:List Nat}{n:Int}{l:List Int}(hb:Bs b)(h:bn b n=(l,0)):0<=n/\n<=256/\∃ c t,b=c::t/\c<=4/\(l.length:Int)=n/\Is l/\hO c l=t:=by
 unfold bn at h;split at h
 ·next hn =>
  refine⟨hn.1,hn.2,?_⟩;split at h
  ·simp at h
  ·next c t =>
   split at h
   ·simp at h
   ·next hc =>
    split at h
    ·next l' e =>
     simp only[Prod.mk.injEq,and_true]at h;subst h;obtain⟨h1,h2,h3⟩:=Kw (fun x hx=>hb x (by simp[hx])) e;exact⟨c,t,rfl,by omega,by omega,h2,h3⟩
    ·next e he =>
     simp only[Prod.mk.injEq]at h;rw[h.2]at he;exact absurd he (NP _ _ _)
 ·simp at h
def ju(l:List Int):Nat->List Nat
 | 0=>0::hO 0 l
 | c+1=>if (hO (c+1) l).length+1<(ju l c).length then (c+1)::hO (c+1) l else ju l c
theorem jh(l:List Int):∀ k,∃ c,c<=k/\ju l k=c::hO c l
 | 0=>⟨0,ZR _,rfl⟩
 | k+1=>by
  rw[ju];split
  ·exact⟨k+1,ZR _,rfl⟩
  ·obtain⟨c,h1,h2⟩:=jh l k
   exact⟨c,by omega,h2⟩
theorem nS(l:List Int):∀ k c,c<=k->(ju l k).length<=(hO c l).length+1
 | 0,c,h=>by
  obtain rfl:c=0:=by omega
  simp[ju]
 | k+1,c,h=>by
  rw[ju];split
  ·next aB =>
   rcases jae k c with h1 | h1
   ·obtain rfl:c=k+1:=by omega
    simp
   ·have:=nS l k c h1
    simp
    omega
  ·next aB =>
   rcases jae k c with h1 | h1
   ·obtain rfl:c=k+1:=by omega
    omega
   ·exact nS l k c h1
theorem lH:∀{l:List Int},Is l->(ge l).length<=10*l.length/\Bs (ge l)
 | [],_=>⟨by simp[ge],fun x hx=>by simp[ge]at hx⟩
 | x::t,h=>by
  obtain⟨h1,h2⟩:=lH (l:=t) (fun y hy=>h y (by simp[hy]));have h3:=fd (h x (by simp));refine⟨by simp[ge];omega,fun y hy=>?_⟩;rcases jaj.1 hy with hy | hy
  ·exact yy y hy
  ·exact h2 y hy
theorem nT:∀{l:List Int} {last:Int},(iC last l).length<=10*l.length/\Bs (iC last l)
 | [],_=>⟨by simp[iC],fun x hx=>by simp[iC]at hx⟩
 | x::t,last=>by
  obtain⟨h1,h2⟩:=nT (l:=t) (last:=x);have h3:=fd (i9 (x-last));refine⟨by simp[iC];omega,fun y hy=>?_⟩;rcases jaj.1 hy with hy | hy
  ·exact yy y hy
  ·exact h2 y hy
theorem Bs.append{a b:List Nat}(ha:Bs a)(hb:Bs b):Bs (a++b):=fun x hx=>by
 rcases jaj.1 hx with hx | hx
 ·exact ha x hx
 ·exact hb x hx
theorem mn:∀{t:List Int} {x:Int} {c:Nat},Is t->I64 x->c+t.length<=1000000->(fC x c t).length<=20*(t.length+1)/\Bs (fC x c t)
 | [],x,c,ht,hx,hc=>by
  have h3:=fd hx;have h4:=bI (n:=c) (by simp at hc;omega);refine⟨by simp[fC];omega,?_⟩;rw[fC];exact Bs.append yy gL
 | y::t,x,c,ht,hx,hc=>by
  have h3:=fd hx;have h4:=bI (n:=c) (by omega);rw[fC];split
  ·obtain⟨h1,h2⟩:=mn (t:=t) (x:=x) (c:=c+1) (fun z hz=>ht z (by simp[hz])) hx (by simp at hc;omega)
   exact⟨by simp;omega,h2⟩
  ·obtain⟨h1,h2⟩:=mn (t:=t) (x:=y) (c:=1) (fun z hz=>ht z (by simp[hz])) (ht y (by simp)) (by simp at hc;omega)
   exact⟨by simp;omega,Bs.append (Bs.append yy gL) h2⟩
theorem yC:∀{t:List Int} {last:Int},I64 last->Is t->(pw last t).length<=10*t.length/\Bs (pw last t)
 | [],_,_,_=>⟨by simp[pw],fun x hx=>by simp[pw]at hx⟩
 | y::t,last,hl,ht=>by
  have hy:=ht y (by simp);obtain⟨h1,h2⟩:=yC (t:=t) (last:=y) hy (fun z hz=>ht z (by simp[hz]));have h3:=bI (n:=(y-last).toNat) (by unfold I64 at hy hl;omega);exact⟨by simp[pw];omega,Bs.append gL h2⟩
theorem lI{u:List Int}(h:Is u):(gZ u).length<=10*u.length/\Bs (gZ u):=by
 cases u with
 | nil=>exact⟨by simp[gZ],fun x hx=>by simp[gZ]at hx⟩
 | cons x t =>
  have hx:=h x (by simp);obtain⟨h1,h2⟩:=yC (t:=t) hx (fun z hz=>h z (by simp[hz]));have h3:=fd hx;exact⟨by simp[gZ];omega,Bs.append yy h2⟩
theorem vk{p:List Nat}{w:Nat}(hl:p.length<=256):(be p w).length<=2048:=by
 unfold be;split
 ·next h =>
  unfold can at h;simp only[decide_eq_true_eq]at h;rw[dK];have:p.length*w<=256*64:=jbd hl (by omega);unfold by8;simp only[jah];omega
 ·simp
theorem eA(c:Nat){l:List Int}(h:Is l)(hl:l.length<=256):(hO c l).length<=5130/\Bs (hO c l):=by
 unfold hO;split
 ·obtain⟨h1,h2⟩:=lH h
  exact⟨by omega,h2⟩
 ·obtain⟨h1,h2⟩:=nT (l:=l) (last:=0)
  exact⟨by omega,h2⟩
 ·cases l with
  | nil=>exact⟨by simp[ik],fun x hx=>by simp[ik]at hx⟩
  | cons x t =>
   obtain⟨h1,h2⟩:=mn (t:=t) (x:=x) (c:=1) (fun z hz=>h z (by simp[hz])) (h x (by simp)) (by simp at hl;omega);simp at hl
   exact⟨by rw[ik];omega,h2⟩
 ·have hu:=fD l
  obtain⟨h1,h2⟩:=lI (lE h);have h3:=bI (n:=(cE l).length) (by omega);have h4:=vk (p:=places l) (w:=wd (places l)) (by rw[lh];exact hl);refine⟨by simp[py];omega,Bs.append gL (Bs.append h2 qp)⟩
 ·unfold lG
  split
  ·exact⟨by simp,fun x hx=>by simp at hx⟩
  ·next h0 =>
   have h3:=fd (h _ (gP (by omega)));have h4:=vk (p:=df l) (w:=wd (df l)) (by rw[fR];exact hl);have h5:=bI (n:=wd (df l)) (by have:=Fa (lF h);omega);refine⟨by simp;omega,Bs.append yy (Bs.append gL qp)⟩
def cN(l:List Int):List Nat:=ju l 4
theorem jQ{l:List Int}(h:Is l)(hm:l.length<=256):bn (cN l) l.length=(l,0):=by
 obtain⟨c,hc,e⟩:=jh l 4;unfold cN;rw[e];exact Fh hc h hm
theorem jR{l:List Int}(h:Is l)(hm:l.length<=256):(cN l).length<=5131/\Bs (cN l):=by
 obtain⟨c,hc,e⟩:=jh l 4;obtain⟨h1,h2⟩:=eA c h hm;unfold cN;rw[e];refine⟨by simp only[ZW];omega,fun x hx=>?_⟩;rcases Z6.1 hx with rfl | hx
 ·omega
 ·exact h2 x hx
def cnt(l:List Int):List Nat:=uv (cN l).length++cN l
def Ky(b:List Nat)(n:Int):Option (List Int×List Nat) :=
 if (gt b).2.2=0/\(gt b).1<=b.length-(gt b).2.1 then
  (if (bn ((b.drop (gt b).2.1).take (gt b).1) n).2=0 then some ((bn ((b.drop (gt b).2.1).take (gt b).1) n).1,b.drop ((gt b).2.1+(gt b).1)) else none)
 else none
theorem Co{l:List Int}(h:Is l)(hm:l.length<=256)(r:List Nat):Ky (cnt l++r) l.length=some (l,r):=by
 have hs:=(jR h hm).1
 have hg:gt (cnt l++r)=((cN l).length,(uv (cN l).length).length,0):=by
  unfold cnt;rw[Z4];exact mh _ (by omega) _
 have hd:(cnt l++r).drop (uv (cN l).length).length=cN l++r:=by
  unfold cnt;rw[Z4,jas]
 have hd2:(cnt l++r).drop ((uv (cN l).length).length+(cN l).length)=r:=by
  rw[← jbb,hd,jas]
 have hb:=jQ h hm;unfold Ky;rw[hg];simp only;rw[hd,hd2,jaF,hb,if_pos,if_pos rfl];refine⟨trivial,?_⟩;unfold cnt;simp only[ZT];omega
def dY(l:List (List Nat)):List Int:=l.map fun s=>(s.length:Int)
def fx(l:List (List Nat)):List Nat:=cnt (dY l)++l.flatten
def Cp:List Nat->List Int->Option (List (List Nat)×List Nat)
 | b,[]=>some ([],b)
 | b,s::t=>if s<0∨(b.length:Int)<s then none else (Cp (b.drop s.toNat) t).map fun p=>(b.take s.toNat::p.1,p.2)
theorem rS(r:List Nat):∀ l:List (List Nat),Cp (l.flatten++r) (dY l)=some (l,r)
 | []=>rfl
 | s::t=>by
  have ih:=rS r t;have e:(s::t).flatten++r=s++(t.flatten++r):=by simp[Z4]
  rw[e];unfold dY at ih ⊢;simp only[jal,Cp];rw[if_neg (by simp only[ZT];omega),jah,jas,jaF,ih];rfl
def jv(x:List Nat):List (List Nat)->List (List Nat)
 | []=>[x]
 | y::t=>if x=y then y::t else if x<y then x::y::t else y::jv x t
def tuq(l:List (List Nat)):List (List Nat):=l.foldl (fun u x=>jv x u) []
def tW(l:List (List Nat)):Prop:=l.Pairwise (· < ·)
theorem vC{x z:List Nat}:∀{u:List (List Nat)},z∈jv x u↔z=x∨z∈u
 | []=>by simp[jv]
 | y::t=>by
  have ih:=vC (x:=x) (z:=z) (u:=t);unfold jv;split
  ·next h =>
   subst h;simp
  ·split
   ·simp
   ·simp only[Z6,ih]
    constructor
    ·rintro(h | h | h)
     ·exact Or.inr (Or.inl h)
     ·exact Or.inl h
     ·exact Or.inr (Or.inr h)
    ·rintro(h | h | h)
     ·exact Or.inr (Or.inl h)
     ·exact Or.inl h
     ·exact Or.inr (Or.inr h)
theorem rT{x y z:List Nat}(h1:x<y)(h2:y<z):x<z:=List.lt_trans h1 h2
theorem Kz{x y:List Nat}(h1:x≠y)(h2:¬ x<y):y<x:=by
 have h3:y<=x:=h2;rcases List.le_iff_lt_or_eq.1 h3 with h | h
 ·exact h
 ·exact absurd h.symm h1
theorem s9{x:List Nat}:∀{u:List (List Nat)},tW u->tW (jv x u)
 | [],_=>by simp[jv,tW]
 | y::t,h=>by
  have h1:(∀ z∈t,y<z)/\tW t:=jaM.1 h;unfold jv;split
  ·exact h
  ·next fO =>
   split
   ·next aB =>
    refine jaM.2 ⟨fun z hz=>?_,h⟩;rcases Z6.1 hz with rfl | hz
    ·exact aB
    ·exact rT aB (h1.1 z hz)
   ·next aB =>
    refine jaM.2 ⟨fun z hz=>?_,s9 h1.2⟩;rcases vC.1 hz with rfl | hz
    ·exact Kz fO aB
    ·exact h1.1 z hz
theorem xF{l:List (List Nat)}{i:Nat}(h:i<l.length):tuq (l.take (i+1))=jv l[i] (tuq (l.take i)):=by
 unfold tuq;rw[List.take_add_one,List.getElem?_eq_getElem h,List.foldl_append];rfl
theorem vD:∀(l u:List (List Nat)),tW u->tW (l.foldl (fun u x=>jv x u) u)/\∀ z,z∈l.foldl (fun u x=>jv x u) u↔z∈u∨z∈l
 | [],u,h=>⟨h,fun z=>by simp⟩
 | x::t,u,h=>by
  obtain⟨h1,h2⟩:=vD t (jv x u) (s9 h);refine⟨h1,fun z=>?_⟩;rw[List.foldl_cons,h2,vC,Z6];constructor
  ·rintro((h | h) | h)
   ·exact Or.inr (Or.inl h)
   ·exact Or.inl h
   ·exact Or.inr (Or.inr h)
  ·rintro(h | h | h)
   ·exact Or.inl (Or.inr h)
   ·exact Or.inl (Or.inl h)
   ·exact Or.inr h
theorem vE(l:List (List Nat)):tW (tuq l):=(vD l [] List.Pairwise.nil).1
theorem ja{l:List (List Nat)}{z:List Nat}:z∈tuq l↔z∈l:=by
 unfold tuq;rw[(vD l [] List.Pairwise.nil).2];simp
theorem ta:∀{u v:List (List Nat)},tW u->tW v->(∀ z,z∈u↔z∈v)->u=v
 | [],[],_,_,_=>rfl
 | [],y::t,_,_,h=>absurd ((h y).2 (by simp)) (by simp)
 | x::s,[],_,_,h=>absurd ((h x).1 (by simp)) (by simp)
 | x::s,y::t,hu,hv,h=>by
  obtain⟨a1,a2⟩:=jaM.1 hu;obtain⟨b1,b2⟩:=jaM.1 hv
  have e:x=y:=by
   rcases Z6.1 ((h x).1 (by simp))with e | e
   ·exact e
   ·rcases Z6.1 ((h y).2 (by simp))with e2 | e2
    ·exact e2.symm
    ·exact absurd (rT (a1 y e2) (b1 x e)) (jbe x)
  subst e;congr 1
  refine ta a2 b2 fun z=>?_
  constructor
  ·intro hz
   rcases Z6.1 ((h z).1 (jaZ _ hz))with e | e
   ·subst e
    exact absurd (a1 z hz) (jbe z)
   ·exact e
  ·intro hz
   rcases Z6.1 ((h z).2 (jaZ _ hz))with e | e
   ·subst e
    exact absurd (b1 z hz) (jbe z)
   ·exact e
theorem ni{x:List Nat}:∀{u:List (List Nat)},(jv x u).length<=u.length+1
 | []=>by simp[jv]
 | y::t=>by
  have:=ni (x:=x) (u:=t);unfold jv;split
  ·simp
  ·split
   ·simp
   ·simp only[ZW]
    omega
theorem mK:∀(l u:List (List Nat)),(l.foldl (fun u x=>jv x u) u).length<=u.length+l.length
 | [],u=>by simp
 | x::t,u=>by
  have h1:=mK t (jv x u);have h2:=ni (x:=x) (u:=u);rw[List.foldl_cons,ZW];omega
theorem fE(l:List (List Nat)):(tuq l).length<=l.length:=by
 have:=mK l [];simpa [tuq]using this
def plT:List (List Nat)->List Nat->Nat
 | [],_=>0
 | y::t,x=>if y=x then 0 else plT t x+1
theorem kL{x:List Nat}:∀{u:List (List Nat)},x∈u->plT u x<u.length/\u[plT u x]?=some x
 | [],h=>by simp at h
 | y::t,h=>by
  unfold plT;split
  ·next e=>exact⟨by simp,by simp[e]⟩
  ·next e =>
   rcases Z6.1 h with rfl | h
   ·exact absurd rfl e
   ·obtain⟨h1,h2⟩:=kL h
    exact⟨by simp only[ZW];omega,by simpa using h2⟩
def cI(l:List (List Nat)):List Int:=l.map fun s=>(plT (tuq l) s:Int)
def plain(l:List (List Nat)):List Nat:=0::fx l
def dh(l:List (List Nat)):List Nat:=1::(uv (tuq l).length++(fx (tuq l)++cN (cI l)))
def eJ(l:List (List Nat)):List Nat:=if (dh l).length<(plain l).length then dh l else plain l
def NQ(u:List (List Nat))(p:List Int):Option (List (List Nat)):=if ∀ q∈p,0<=q/\q<(u.length:Int) then some (p.map fun q=>u.getD q.toNat []) else none
def mo(b:List Nat)(n:Nat):Option (List (List Nat)) :=
 match b with
 | []=>none
 | x::t =>
  if x=0 then ((Ky t n).bind fun p=>Cp p.2 p.1).map (·.1)
  else if x=1 then
   (if (gt t).2.2=0/\(gt t).1<=n then
    (Ky (t.drop (gt t).2.1) (gt t).1).bind fun p=>(Cp p.2 p.1).bind fun q=>if (bn q.2 n).2=0 then NQ q.1 (bn q.2 n).1 else none
   else none)
  else none
def Ts(l:List (List Nat)):Prop:=∀ s∈l,s.length<=64/\Bs s
theorem bG(l:List (List Nat)):(dY l).length=l.length:=ZU _
theorem gQ{l:List (List Nat)}(h:Ts l):Is (dY l):=fun x hx=>by
 obtain⟨s,hs,rfl⟩:=jaa.1 hx;have:=(h s hs).1;unfold I64;omega
theorem li{l:List (List Nat)}(h:Ts l):Ts (tuq l):=fun s hs=>h s (ja.1 hs)
theorem bU(l:List (List Nat)):(cI l).length=l.length:=ZU _
theorem pB{l:List (List Nat)}:∀ q∈cI l,0<=q/\q<((tuq l).length:Int):=fun q hq=>by
 obtain⟨s,hs,rfl⟩:=jaa.1 hq;have:=(kL (ja.2 hs)).1;omega
theorem dZ{l:List (List Nat)}(hm:l.length<=256):Is (cI l):=fun q hq=>by
 have h1:=pB q hq;have h2:=fE l;unfold I64;omega
theorem qq(l:List (List Nat)):(cI l).map (fun q=>(tuq l).getD q.toNat [])=l:=by
 unfold cI;rw[jao];conv=>rhs;rw[← jaN l]
 apply jaI
 intro s hs;have h2:=(kL (ja.2 hs)).2;simp only[Function.comp,jah,id];rw[List.getD_eq_getElem?_getD,h2];rfl
theorem Fi{l:List (List Nat)}(h:Ts l)(hm:l.length<=256)(r:List Nat):mo (plain l++r) l.length=some l:=by
 unfold plain fx;simp only[jaz,mo,if_pos];have h1:=Co (gQ h) (by rw[bG];exact hm) (l.flatten++r);rw[bG]at h1;rw[Z4,h1];simp only[Option.bind_some,rS,jaS]
theorem Cq{l:List (List Nat)}(h:Ts l)(hm:l.length<=256):mo (dh l) l.length=some l:=by
 have hu:=fE l;unfold dh fx;have h0:=mh (tuq l).length (by omega) (cnt (dY (tuq l))++(tuq l).flatten++cN (cI l));have h1:=Co (gQ (li h)) (by rw[bG];omega) ((tuq l).flatten++cN (cI l));rw[bG]at h1;have h2:=jQ (dZ hm) (by rw[bU];exact hm);rw[bU]at h2;simp only[mo,show (1:Nat)≠0 from by omega,if_false,if_true,h0,jas];rw[if_pos ⟨trivial,hu⟩,Z4,h1];simp only[Option.bind_some,rS,h2,if_true];unfold NQ;rw[if_pos pB,qq]
theorem Fj{l:List (List Nat)}(h:Ts l)(hm:l.length<=256):mo (eJ l) l.length=some l:=by
 unfold eJ;split
 ·exact Cq h hm
 ·have:=Fi h hm []
  rwa[Z7]at this
theorem nU:∀{l:List (List Nat)},Ts l->l.flatten.length<=64*l.length/\Bs l.flatten
 | [],_=>⟨by simp,fun x hx=>by simp at hx⟩
 | s::t,h=>by
  obtain⟨h1,h2⟩:=nU (l:=t) fun x hx=>h x (jaZ _ hx)
  obtain⟨h3,h4⟩:=h s (by simp);refine⟨?_,?_⟩
  ·rw[ja3,ZT,ZW]
   omega
  ·rw[ja3]
   exact h4.append h2
theorem rU{l:List (List Nat)}(h:Ts l)(hm:l.length<=256):(fx l).length<=21525/\Bs (fx l):=by
 obtain⟨a1,a2⟩:=jR (gQ h) (by rw[bG];exact hm);obtain⟨b1,b2⟩:=nU h;have mY:=bI (n:=(cN (dY l)).length) (by omega);unfold fx cnt;refine⟨?_,Bs.append (Bs.append gL a2) b2⟩;simp only[ZT];omega
theorem mq{l:List (List Nat)}(h:Ts l)(hm:l.length<=256):(eJ l).length<=21526/\Bs (eJ l):=by
 obtain⟨a1,a2⟩:=rU h hm;have hp:(plain l).length<=21526:=by unfold plain;simp only[ZW];omega
 unfold eJ;split
 ·next aB =>
  refine⟨by omega,?_⟩;obtain⟨b1,b2⟩:=rU (li h) (ZZ (fE l) hm);obtain⟨c1,c2⟩:=jR (dZ hm) (by rw[bU];exact hm);intro x hx;unfold dh at hx;rcases Z6.1 hx with rfl | hx
  ·omega
  ·exact(Bs.append gL (Bs.append b2 c2)) x hx
 ·refine⟨hp,fun x hx=>?_⟩
  unfold plain at hx;rcases Z6.1 hx with rfl | hx
  ·omega
  ·exact a2 x hx
def gh(k:Nat)(c:Nat×Int×List Nat):Prop :=
 c=nul∨(k=1/\∃ n,c=(1,n,[])/\I64 n)∨(k=2/\∃ n:Nat,c=(2,(n:Int),[])/\n<2)∨(k=3/\∃ s,c=(3,0,s)/\s.length<=64/\Bs s)
def Col(k:Nat)(l:List (Nat×Int×List Nat)):Prop:=(1<=k/\k<=3)/\l.length<=256/\∀ c∈l,gh k c
def bJ(l:List (Nat×Int×List Nat)):List Nat:=l.map fun c=>if c.1=0 then 0 else 1
def bS(l:List (Nat×Int×List Nat)):List (Nat×Int×List Nat):=l.filter fun c=>c.1 != 0
def dD(l:List (Nat×Int×List Nat)):List Nat:=if 0∈bJ l then 1::be (bJ l) 1 else [0]
def gi(k:Nat)(l:List (Nat×Int×List Nat)):List Nat :=
 if k=1 then cN ((bS l).map fun c=>c.2.1) else if k=2 then be ((bS l).map fun c=>c.2.1.toNat) 1 else eJ ((bS l).map fun c=>c.2.2)
def em(k:Nat)(l:List (Nat×Int×List Nat)):List Nat:=dD l++gi k l
def gR:List Nat->List (Nat×Int×List Nat)->List (Nat×Int×List Nat)
 | [],_=>[]
 | x::t,o=>if x=0 then nul::gR t o else o.headD nul::gR t o.tail
theorem bg(l:List (Nat×Int×List Nat)):(bJ l).length=l.length:=ZU _
theorem nV:∀ l:List (Nat×Int×List Nat),(bJ l).sum=(bS l).length
 | []=>rfl
 | c::t=>by
  have ih:=nV t;unfold bJ bS at ih ⊢;by_cases h:c.1=0
  ·simp[h,ih]
  ·simp[h,ih]
   omega
theorem gS(l:List (Nat×Int×List Nat)):(bS l).length<=l.length:=jbf _ _
theorem pC{k:Nat}:∀{l:List (Nat×Int×List Nat)},(∀ c∈l,gh k c)->gR (bJ l) (bS l)=l
 | [],_=>rfl
 | c::t,h=>by
  have ih:=pC (k:=k) (l:=t) fun x hx=>h x (jaZ _ hx)
  have hc:=h c (by simp);unfold bJ bS at ih ⊢;by_cases h0:c.1=0
  ·have e:c=nul:=by
    rcases hc with e | ⟨_,n,e,_⟩ | ⟨_,n,e,_⟩ | ⟨_,s,e,_⟩
    ·exact e
    ·rw[e]at h0;simp at h0
    ·rw[e]at h0;simp at h0
    ·rw[e]at h0;simp at h0
   subst e;simp[gR,nul]at ih ⊢
   exact ih
  ·simp[gR,h0]at ih ⊢
   exact ih
theorem ji{l:List (Nat×Int×List Nat)}{c:Nat×Int×List Nat}(h:c∈bS l):c∈l/\c.1≠0:=by
 unfold bS at h;have:=jbq.1 h;exact⟨this.1,by simpa using this.2⟩
theorem iS{l:List (Nat×Int×List Nat)}(h:∀ c∈l,gh 1 c):Is ((bS l).map fun c=>c.2.1)/\((bS l).map fun c=>c.2.1).map (fun x=>((1,x,[]):Nat×Int×List Nat))=bS l:=by
 have key:∀ c∈bS l,∃ n,c=(1,n,[])/\I64 n:=fun c hc=>by
  obtain⟨h1,h2⟩:=ji hc;rcases h c h1 with e | ⟨_,n,e,hn⟩ | ⟨e,_⟩ | ⟨e,_⟩
  ·rw[e]at h2;exact absurd rfl h2
  ·exact⟨n,e,hn⟩
  ·omega
  ·omega
 refine⟨fun x hx=>?_,?_⟩
 ·obtain⟨c,hc,rfl⟩:=jaa.1 hx
  obtain⟨n,rfl,hn⟩:=key c hc;exact hn
 ·rw[jao]
  conv=>rhs;rw[← jaN (bS l)]
  apply jaI
  intro c hc;obtain⟨n,rfl,hn⟩:=key c hc;rfl
theorem fF{l:List (Nat×Int×List Nat)}(h:∀ c∈l,gh 2 c):(∀ x∈(bS l).map fun c=>c.2.1.toNat,x<2)/\((bS l).map fun c=>c.2.1.toNat).map (fun(x:Nat)=>((2,(x:Int),[]):Nat×Int×List Nat))=bS l:=by
 have key:∀ c∈bS l,∃ n:Nat,c=(2,(n:Int),[])/\n<2:=fun c hc=>by
  obtain⟨h1,h2⟩:=ji hc;rcases h c h1 with e | ⟨e,_⟩ | ⟨_,n,e,hn⟩ | ⟨e,_⟩
  ·rw[e]at h2;exact absurd rfl h2
  ·omega
  ·exact⟨n,e,hn⟩
  ·omega
 refine⟨fun x hx=>?_,?_⟩
 ·obtain⟨c,hc,rfl⟩:=jaa.1 hx
  obtain⟨n,rfl,hn⟩:=key c hc;simpa using hn
 ·rw[jao]
  conv=>rhs;rw[← jaN (bS l)]
  apply jaI
  intro c hc;obtain⟨n,rfl,hn⟩:=key c hc;rfl
theorem gE{l:List (Nat×Int×List Nat)}(h:∀ c∈l,gh 3 c):Ts ((bS l).map fun c=>c.2.2)/\((bS l).map fun c=>c.2.2).map (fun s=>((3,0,s):Nat×Int×List Nat))=bS l:=by
 have key:∀ c∈bS l,∃ s,c=(3,0,s)/\s.length<=64/\Bs s:=fun c hc=>by
  obtain⟨h1,h2⟩:=ji hc;rcases h c h1 with e | ⟨e,_⟩ | ⟨e,_⟩ | ⟨_,s,e,hs⟩
  ·rw[e]at h2;exact absurd rfl h2
  ·omega
  ·omega
  ·exact⟨s,e,hs⟩
 refine⟨fun x hx=>?_,?_⟩
 ·obtain⟨c,hc,rfl⟩:=jaa.1 hx
  obtain⟨n,rfl,hn⟩:=key c hc;exact hn
 ·rw[jao]
  conv=>rhs;rw[← jaN (bS l)]
  apply jaI
  intro c hc;obtain⟨n,rfl,hn⟩:=key c hc;rfl
def yD(b:List Nat)(n:Nat):Option (List Nat×List Nat) :=
 match b with
 | []=>none
 | x::t=>if x=0 then some (List.replicate n 1,t) else if x=1 then
   (if by8 n<=t.length/\unE (t.take (by8 n)) n 1=0 then some (unR (t.take (by8 n)) n 1,t.drop (by8 n)) else none) else none
def Fk(k:Nat)(b:List Nat)(n:Nat):Option (List (Nat×Int×List Nat)) :=
 if k=1 then (if (bn b n).2=0 then some ((bn b n).1.map fun x=>(1,x,[])) else none)
 else if k=2 then (if unE b n 1=0 then some ((unR b n 1).map fun(x:Nat)=>(2,(x:Int),[])) else none)
 else (mo b n).map fun l=>l.map fun s=>(3,0,s)
def Tj(k:Nat)(b:List Nat)(n:Nat):Option (List (Nat×Int×List Nat)) :=
 (yD b n).bind fun p=>(Fk k p.2 p.1.sum).map (gR p.1)
theorem Cr{l:List Nat}(h:∀ x∈l,x<2)(hm:l.length<=256):can l ((1:Nat):Int)=true:=Ff hm (by omega) (qo.2 (by simpa using h))
theorem nW{l:List Nat}(h:∀ x∈l,x<2)(hm:l.length<=256):unE (be l 1) l.length 1=0/\unR (be l 1) l.length 1=l:=by
 have:=Ch (Cr h hm);rwa[show ((1:Nat):Int)=1 from rfl]at this
theorem eF{l:List Nat}(h:∀ x∈l,x<2)(hm:l.length<=256):(be l 1).length=by8 l.length:=by
 have:=ml (Cr h hm);rwa[ja8]at this
theorem dU(l:List (Nat×Int×List Nat)):∀ x∈bJ l,x<2:=fun x hx=>by
 obtain⟨c,_,rfl⟩:=jaa.1 hx;split<;>omega
theorem vF{l:List (Nat×Int×List Nat)}(h:¬ 0∈bJ l):bJ l=List.replicate l.length 1:=by
 rw[List.eq_replicate_iff];refine⟨bg l,fun x hx=>?_⟩;have h1:=dU l x hx;have h2:x≠0:=fun e=>h (e ▸ hx)
 omega
theorem KA{l:List (Nat×Int×List Nat)}(hm:l.length<=256)(r:List Nat):yD (dD l++r) l.length=some (bJ l,r):=by
 unfold dD;split
 ·have hl:=eF (dU l) (by rw[bg];exact hm)
  rw[bg]at hl;have hb:=nW (dU l) (by rw[bg];exact hm);rw[bg]at hb;have ht:(be (bJ l) 1++r).take (by8 l.length)=be (bJ l) 1:=by rw[← hl,jaF]
  have hd:(be (bJ l) 1++r).drop (by8 l.length)=r:=by rw[← hl,jas]
  simp only[jaz,yD,show (1:Nat)≠0 from by omega,if_false,if_true,ht,hd];rw[if_pos]
  ·rw[hb.2]
  ·exact⟨by simp only[ZT];omega,hb.1⟩
 ·next h =>
  rw[vF h];rfl
theorem KB{k:Nat}{l:List (Nat×Int×List Nat)}(h:Col k l):Fk k (gi k l) (bS l).length=some (bS l):=by
 obtain⟨hk,hm,hc⟩:=h;have ho:=gS l;obtain rfl | rfl | rfl:k=1∨k=2∨k=3:=by omega
 ·obtain⟨h1,h2⟩:=iS hc
  have hb:=jQ h1 (by rw[ZU];omega);rw[ZU]at hb;simp only[Fk,gi,if_true,hb];rw[h2]
 ·obtain⟨h1,h2⟩:=fF hc
  have hb:=nW h1 (by rw[ZU];omega);rw[ZU]at hb;simp only[Fk,gi,if_true,if_false,show (2:Nat)≠1 from by omega];rw[if_pos hb.1];rw[hb.2,h2]
 ·obtain⟨h1,h2⟩:=gE hc
  have hb:=Fj h1 (by rw[ZU];omega);rw[ZU]at hb;simp only[Fk,gi,if_false,show (3:Nat)≠1 from by omega,show (3:Nat)≠2 from by omega,hb,jaS];rw[h2]
theorem NR{k:Nat}{l:List (Nat×Int×List Nat)}(h:Col k l):Tj k (em k l) l.length=some l:=by
 unfold Tj em;rw[KA h.2.1,Option.bind_some];simp only;rw[nV,KB h,jaS,pC h.2.2]
theorem rV{l:List (Nat×Int×List Nat)}(hm:l.length<=256):(dD l).length<=33/\Bs (dD l):=by
 unfold dD;split
 ·have hl:=eF (dU l) (by rw[bg];exact hm)
  rw[bg]at hl;refine⟨?_,fun x hx=>?_⟩
  ·rw[ZW,hl]
   unfold by8;omega
  ·rcases Z6.1 hx with rfl | hx
   ·omega
   ·exact qp x hx
 ·exact⟨by simp,fun x hx=>by simp at hx;omega⟩
theorem vG(l:List (Nat×Int×List Nat)):gi 1 l=cN ((bS l).map fun c=>c.2.1):=if_pos rfl
theorem vH(l:List (Nat×Int×List Nat)):gi 2 l=be ((bS l).map fun c=>c.2.1.toNat) 1:=(if_neg (by omega)).trans (if_pos rfl)
theorem vI(l:List (Nat×Int×List Nat)):gi 3 l=eJ ((bS l).map fun c=>c.2.2):=(if_neg (by omega)).trans (if_neg (by omega))
theorem KD{k:Nat}{l:List (Nat×Int×List Nat)}(h:Col k l):(gi k l).length<=21526/\Bs (gi k l):=by
 obtain⟨hk,hm,hc⟩:=h;have ho:=gS l;obtain rfl | rfl | rfl:k=1∨k=2∨k=3:=by omega
 ·obtain⟨b1,b2⟩:=jR (iS hc).1 (by rw[ZU];omega)
  rw[vG];exact⟨by omega,b2⟩
 ·have hl:=eF (fF hc).1 (by rw[ZU];omega)
  rw[ZU]at hl;rw[vH];refine⟨?_,qp⟩;rw[hl];unfold by8;omega
 ·have hw:=mq (gE hc).1 (by rw[ZU];omega)
  rw[vI];exact hw
theorem il{k:Nat}{l:List (Nat×Int×List Nat)}(h:Col k l):(em k l).length<=21600/\Bs (em k l):=by
 obtain⟨a1,a2⟩:=rV h.2.1;obtain⟨b1,b2⟩:=KD h;unfold em;refine⟨?_,a2.append b2⟩;rw[ZT];omega
theorem Cs(l:List (Nat×Int×List Nat)):bS (bS l)=bS l:=by
 unfold bS;rw[List.filter_filter];simp
def Ct(k:Nat)(c:Nat×Int×List Nat):Prop :=
 c=nul∨(k=1/\∃ n,c=(1,n,[])/\I64 n)∨(k=2/\∃ n:Nat,c=(2,(n:Int),[])/\n<2)∨(k=3/\∃ s,c=(3,0,s)/\Bs s)
theorem Ct.short{k:Nat}{c:Nat×Int×List Nat}(h:Ct k c)(hs:c.2.2.length<=64):gh k c:=by
 rcases h with h | h | h | ⟨h1,s,rfl,h2⟩
 ·exact Or.inl h
 ·exact Or.inr (Or.inl h)
 ·exact Or.inr (Or.inr (Or.inl h))
 ·exact Or.inr (Or.inr (Or.inr ⟨h1,s,rfl,hs,h2⟩))
theorem gh.short{k:Nat}{c:Nat×Int×List Nat}(h:gh k c):c.2.2.length<=64:=by
 rcases h with rfl | ⟨_,n,rfl,_⟩ | ⟨_,n,rfl,_⟩ | ⟨_,s,rfl,h,_⟩
 ·simp[nul]
 ·simp
 ·simp
 ·exact h
theorem iT{b:List Nat}{n:Int}(hb:Bs b)(h:(bn b n).2=0):((bn b n).1.length:Int)=n/\Is (bn b n).1:=by
 obtain⟨_,_,c,t,_,_,h1,h2,_⟩:=Kx hb (l:=(bn b n).1) (n:=n) (by rw[← h]);exact⟨h1,h2⟩
theorem Cu{b r:List Nat}{n:Int}{l:List Int}(hb:Bs b)(h:Ky b n=some (l,r)):(l.length:Int)=n/\Is l/\Bs r:=by
 unfold Ky at h;split at h
 ·split at h
  ·next h1 =>
   simp only[Option.some.injEq,Prod.mk.injEq]at h;obtain⟨rfl,rfl⟩:=h;have:=iT ((hb.drop _).take _) h1;exact⟨this.1,this.2,hb.drop _⟩
  ·simp at h
 ·simp at h
theorem vJ:∀{s:List Int} {b r:List Nat} {l:List (List Nat)},Bs b->Cp b s=some (l,r)->l.length=s.length/\(∀ x∈l,Bs x)/\Bs r
 | [],b,r,l,hb,h=>by
  simp only[Cp,Option.some.injEq,Prod.mk.injEq]at h;obtain⟨rfl,rfl⟩:=h;exact⟨rfl,fun x hx=>by simp at hx,hb⟩
 | x::t,b,r,l,hb,h=>by
  unfold Cp at h;split at h
  ·simp at h
  ·obtain⟨⟨l2,r2⟩,h1,h2⟩:=Option.map_eq_some_iff.1 h
   simp only[Prod.mk.injEq]at h2;obtain⟨rfl,rfl⟩:=h2;obtain⟨a1,a2,a3⟩:=vJ (hb.drop _) h1;refine⟨by simp only[ZW,a1],fun y hy=>?_,a3⟩;rcases Z6.1 hy with rfl | hy
   ·exact hb.take _
   ·exact a2 y hy
theorem Fl{b:List Nat}{n:Nat}{l:List (List Nat)}(hb:Bs b)(h:mo b n=some l):l.length=n/\∀ x∈l,Bs x:=by
 cases b with
 | nil=>simp[mo]at h
 | cons x t =>
  have ht:Bs t:=fun y hy=>hb y (jaZ _ hy)
  simp only[mo]at h;split at h
  ·obtain⟨⟨l2,r2⟩,h1,rfl⟩:=Option.map_eq_some_iff.1 h
   obtain⟨⟨s,r⟩,h2,h3⟩:=jbw.1 h1;obtain⟨a1,a2,a3⟩:=Cu ht h2;obtain⟨b1,b2,b3⟩:=vJ a3 h3;have b4:l2.length=s.length:=b1;exact⟨by show l2.length=n;omega,b2⟩
  ·split at h
   ·split at h
    ·obtain⟨⟨s,r⟩,h2,h3⟩:=jbw.1 h
     obtain⟨⟨u,r2⟩,h4,h5⟩:=jbw.1 h3;obtain⟨a1,a2,a3⟩:=Cu (ht.drop _) h2;obtain⟨b1,b2,b3⟩:=vJ a3 h4;simp only at h5;split at h5
     ·next h6 =>
      obtain⟨c1,c2⟩:=iT b3 h6;unfold NQ at h5;split at h5
      ·next h7 =>
       cases h5
       refine⟨by rw[ZU];omega,fun x hx=>?_⟩;obtain⟨q,hq,rfl⟩:=jaa.1 hx;have mS:=h7 q hq;have aB:q.toNat<u.length:=by omega
       rw[List.getD_eq_getElem?_getD,List.getElem?_eq_getElem aB];exact b2 _ (ZV aB)
      ·simp at h5
     ·simp at h5
    ·simp at h
   ·simp at h
theorem kM{b:List Nat}{n:Nat}(h:unE b n 1=0):(unR b n 1).length=n/\∀ x∈unR b n 1,x<2:=by
 unfold unR;rw[if_pos h];refine⟨by rw[dK];simp,fun x hx=>?_⟩;have:=An hx;simpa using this
theorem KE{b r th:List Nat}{n:Nat}(hb:Bs b)(h:yD b n=some (th,r)):th.length=n/\(∀ x∈th,x<2)/\Bs r:=by
 cases b with
 | nil=>simp[yD]at h
 | cons x t =>
  have ht:Bs t:=fun y hy=>hb y (jaZ _ hy)
  simp only[yD]at h;split at h
  ·simp only[Option.some.injEq,Prod.mk.injEq]at h
   obtain⟨rfl,rfl⟩:=h;exact⟨List.length_replicate,fun y hy=>by have:=jbp hy;omega,ht⟩
  ·split at h
   ·split at h
    ·next h1 =>
     simp only[Option.some.injEq,Prod.mk.injEq]at h;obtain⟨rfl,rfl⟩:=h;have:=kM h1.2;exact⟨this.1,this.2,ht.drop _⟩
    ·simp at h
   ·simp at h
theorem NS{k:Nat}{b:List Nat}{n:Nat}{o:List (Nat×Int×List Nat)}(hk:1<=k/\k<=3)(hb:Bs b)(h:Fk k b n=some o):o.length=n/\∀ c∈o,Ct k c:=by
 unfold Fk at h;obtain rfl | rfl | rfl:k=1∨k=2∨k=3:=by omega
 ·rw[if_pos rfl]at h
  split at h
  ·next h1 =>
   cases h
   obtain⟨a1,a2⟩:=iT hb h1;refine⟨by rw[ZU];omega,fun c hc=>?_⟩;obtain⟨x,hx,rfl⟩:=jaa.1 hc;exact Or.inr (Or.inl ⟨rfl,x,rfl,a2 x hx⟩)
  ·simp at h
 ·rw[if_neg (by omega),if_pos rfl]at h
  split at h
  ·next h1 =>
   cases h
   obtain⟨a1,a2⟩:=kM h1;refine⟨by rw[ZU];exact a1,fun c hc=>?_⟩;obtain⟨x,hx,rfl⟩:=jaa.1 hc;exact Or.inr (Or.inr (Or.inl ⟨rfl,x,rfl,a2 x hx⟩))
  ·simp at h
 ·rw[if_neg (by omega),if_neg (by omega)]at h
  obtain⟨l,h1,rfl⟩:=Option.map_eq_some_iff.1 h;obtain⟨a1,a2⟩:=Fl hb h1;refine⟨by rw[ZU];exact a1,fun c hc=>?_⟩;obtain⟨x,hx,rfl⟩:=jaa.1 hc;exact Or.inr (Or.inr (Or.inr ⟨rfl,x,rfl,a2 x hx⟩))
theorem nX{P:Nat×Int×List Nat->Prop}(h0:P nul):∀{th:List Nat} {o:List (Nat×Int×List Nat)},(∀ c∈o,P c)->(gR th o).length=th.length/\∀ c∈gR th o,P c
 | [],o,h=>⟨rfl,fun c hc=>by simp[gR]at hc⟩
 | x::t,o,h=>by
  unfold gR;split
  ·obtain⟨a1,a2⟩:=nX h0 (th:=t) h
   refine⟨by simp only[ZW,a1],fun c hc=>?_⟩;rcases Z6.1 hc with rfl | hc
   ·exact h0
   ·exact a2 c hc
  ·obtain⟨a1,a2⟩:=nX h0 (th:=t) (o:=o.tail) fun c hc=>h c (List.mem_of_mem_tail hc)
   refine⟨by simp only[ZW,a1],fun c hc=>?_⟩;rcases Z6.1 hc with rfl | hc
   ·cases o with
    | nil=>exact h0
    | cons y s=>exact h y (by simp)
   ·exact a2 c hc
theorem NT{k:Nat}{b:List Nat}{n:Nat}{l:List (Nat×Int×List Nat)}(hk:1<=k/\k<=3)(hb:Bs b)(h:Tj k b n=some l):l.length=n/\∀ c∈l,Ct k c:=by
 obtain⟨⟨th,r⟩,h1,h2⟩:=jbw.1 h;obtain⟨o,h3,rfl⟩:=Option.map_eq_some_iff.1 h2;obtain⟨a1,a2,a3⟩:=KE hb h1;obtain⟨b1,b2⟩:=NS hk a3 h3;obtain⟨c1,c2⟩:=nX (P:=Ct k) (Or.inl rfl) (th:=th) b2;exact⟨c1.trans a1,c2⟩
def gj(k:Nat)(b:List Nat)(n:Nat):Option (List (Nat×Int×List Nat)) :=
 (Tj k b n).bind fun l=>if (∀ c∈l,c.2.2.length<=64)/\em k l=b then some l else none
theorem lJ{k:Nat}{b:List Nat}{n:Nat}{l:List (Nat×Int×List Nat)}(hk:1<=k/\k<=3)(hn:n<=256)(hb:Bs b):gj k b n=some l↔Col k l/\l.length=n/\em k l=b:=by
 constructor
 ·intro h
  obtain⟨l2,h1,h2⟩:=jbw.1 h;split at h2
  ·next h3 =>
   cases h2
   obtain⟨a1,a2⟩:=NT hk hb h1;exact⟨⟨hk,by omega,fun c hc=>(a2 c hc).short (h3.1 c hc)⟩,a1,h3.2⟩
  ·simp at h2
 ·rintro⟨h1,rfl,rfl⟩
  unfold gj;rw[NR h1,Option.bind_some];simp only;rw[if_pos ⟨fun c hc=>(h1.2.2 c hc).short,trivial⟩]
theorem Fm{k:Nat}{l:List (Nat×Int×List Nat)}(h:Col k l):gj k (em k l) l.length=some l :=
 (lJ h.1 h.2.1 (il h).2).2 ⟨h,rfl,rfl⟩
def dQ(k:Nat)(l:List (Nat×Int×List Nat)):List Nat×Nat :=
 if 1<=k/\k<=3/\∀ c∈l,c.1=0∨c.1=k then
  (if l.length<=256/\∀ c∈l,c.2.2.length<=64 then (em k l,0) else ([],5))
 else ([],10)
theorem gh.kind{k:Nat}{c:Nat×Int×List Nat}(h:gh k c):c.1=0∨c.1=k:=by
 rcases h with rfl | ⟨rfl,n,rfl,_⟩ | ⟨rfl,n,rfl,_⟩ | ⟨rfl,s,rfl,_⟩
 ·exact Or.inl rfl
 ·exact Or.inr rfl
 ·exact Or.inr rfl
 ·exact Or.inr rfl
theorem kb{k:Nat}{l:List (Nat×Int×List Nat)}(h:Col k l):dQ k l=(em k l,0):=by
 unfold dQ;rw[if_pos ⟨h.1.1,h.1.2,fun c hc=>(h.2.2 c hc).kind⟩,if_pos ⟨h.2.1,fun c hc=>(h.2.2 c hc).short⟩]
end Go.Proofs.YtpljdjmpamjkhaaGreatDoor
