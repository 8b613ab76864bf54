import Derived.Test.YtpljdjmpamjkhaaGreatDoorWac
set_option linter.unusedVariables false
set_option linter.unusedSimpArgs false
namespace Go.Proofs.YtpljdjmpamjkhaaGreatDoor
open Go.Lib
def pk(w:Nat):List Nat->Nat
 | []=>0
 | n::t=>n+2 ^ w*pk w t
def dig(w:Nat):Nat->Nat->List Nat
 | 0,_=>[]
 | n+1,N=>N % 2 ^ w::dig w n (N / 2 ^ w)
theorem cX(w:Nat):∀ n N,(dig w n N).length=n
 | 0,_=>rfl
 | n+1,N=>by simp[dig,cX w n]
theorem fZ(w n:Nat):2 ^ (w*(n+1))=2 ^ w*2 ^ (w*n):=by
 rw[ZQ,Nat.mul_one,Nat.add_comm,ZM]
theorem LS(w:Nat):∀ n N,pk w (dig w n N)=N % 2 ^ (w*n)
 | 0,N=>by simp[dig,pk,Nat.mod_one]
 | n+1,N=>by
  show N % 2 ^ w+2 ^ w*pk w (dig w n (N / 2 ^ w))=_
  rw[LS w n,fZ,Nat.mod_mul]
theorem xR{w:Nat}:∀{l:List Nat},(∀ x∈l,x<2 ^ w)->dig w l.length (pk w l)=l
 | [],_=>rfl
 | n::t,h=>by
  have hn:=h n (by simp);show (n+2 ^ w*pk w t) % 2 ^ w::dig w t.length ((n+2 ^ w*pk w t) / 2 ^ w)=_
  rw[Nat.add_mul_mod_self_left,ZF hn,Nat.add_mul_div_left _ _ (ZC w),Nat.div_eq_of_lt hn,YY,
   xR (fun x hx=>h x (by simp[hx]))]
theorem zG{w:Nat}:∀{l:List Nat},(∀ x∈l,x<2 ^ w)->pk w l<2 ^ (w*l.length)
 | [],_=>by simp[pk]
 | n::t,h=>by
  have hn:=h n (by simp);have ht:=zG (w:=w) (l:=t) (fun x hx=>h x (by simp[hx]));show n+2 ^ w*pk w t<2 ^ (w*(t.length+1))
  rw[fZ];have:2 ^ w*(pk w t+1)<=2 ^ w*2 ^ (w*t.length):=ZT _ ht;rw[ZQ,Nat.mul_one]at this;omega
theorem xS(w:Nat):∀ n N i,i<n->(dig w n N)[i]?=some (N / 2 ^ (w*i) % 2 ^ w)
 | n+1,N,0,_=>by simp[dig]
 | n+1,N,i+1,h=>by
  show (dig w n (N / 2 ^ w))[i]?=_
  rw[xS w n _ i (by omega),Nat.div_div_eq_div_mul,fZ]
theorem xT{w x:Nat}:∀{n N},x∈dig w n N->x<2 ^ w
 | n+1,N,h=>by
  simp only[dig,YQ]at h;rcases h with rfl | h
  ·exact Nat.mod_lt _ (ZC w)
  ·exact xT h
theorem wy(w:Nat):∀(a b:List Nat),pk w (a++b)=pk w a+2 ^ (w*a.length)*pk w b
 | [],b=>by simp[pk]
 | n::t,b=>by
  show n+2 ^ w*pk w (t++b)=n+2 ^ w*pk w t+2 ^ (w*(t.length+1))*pk w b
  rw[wy w t,fZ,ZQ,ZW,ZR]
theorem xU(w:Nat){l:List Nat}{i:Nat}(h:i<l.length):pk w (l.take (i+1))=pk w (l.take i)+l[i]*2 ^ (w*i):=by
 rw[YP h,wy,YH,ZG (by omega)];simp[pk,Zi]
theorem LT(w:Nat):∀{l:List Nat} {i:Nat} (c:Nat) (h:i<l.length),pk w (l.set i c)+l[i]*2 ^ (w*i)=pk w l+c*2 ^ (w*i)
 | n::t,0,c,_=>by simp[pk];omega
 | n::t,i+1,c,h=>by
  have hi:i<t.length:=by simpa using h
  show n+2 ^ w*pk w (t.set i c)+t[i]*2 ^ (w*(i+1))=n+2 ^ w*pk w t+c*2 ^ (w*(i+1))
  have:=YE (2 ^ w*·) (LT w (l:=t) (i:=i) c hi);simp only[ZQ]at this;rw[fZ,← ZW,← ZW,Zi t[i],Zi c,ZW,ZW];omega
theorem LU{w:Nat}{l:List Nat}(h:∀ x∈l,x<2 ^ w){i:Nat}(hi:i<l.length):l[i]=pk w l / 2 ^ (w*i) % 2 ^ w:=by
 have h1:=xS w l.length (pk w l) i hi;rw[xR h,List.getElem?_eq_getElem hi]at h1;exact Option.some.inj h1
theorem zH(w:Nat):∀ n,pk w (List.replicate n 0)=0
 | 0=>rfl
 | n+1=>by
  show 0+2 ^ w*pk w (List.replicate n 0)=0
  rw[zH w n];simp
def cL(n:Nat):Nat:=if n=0 then 0 else n.log2+1
theorem eJ{n w:Nat}:cL n<=w↔n<2 ^ w:=by
 unfold cL;split
 ·next h=>subst h;simp[ZC]
 ·next h=>rw[Nat.add_one_le_iff,Nat.log2_lt h]
theorem GV{n:Nat}(h:n≠0):cL n=cL (n / 2)+1:=by
 have e:∀ k,cL (n / 2)<=k↔cL n<=k+1:=fun k=>by
  rw[eJ,eJ,Nat.pow_succ,Nat.div_lt_iff_lt_mul (by omega)]
 have h1:=(e (cL (n / 2))).1 (YA _);have hp:0<cL n:=by unfold cL;rw[Yx h];omega
 have h2:=(e (cL n-1)).2 (by omega);omega
theorem RT(a b:Nat):cL (a ||| b)=max (cL a) (cL b):=by
 have e:∀ k,cL (a ||| b)<=k↔cL a<=k/\cL b<=k:=fun k=>by
  rw[eJ,eJ,eJ];constructor
  ·intro h
   exact⟨jaE Nat.left_le_or h,jaE Nat.right_le_or h⟩
  ·intro h
   exact Nat.or_lt_two_pow h.1 h.2
 have h1:=(e _).1 (YA _);have h2:=(e (max (cL a) (cL b))).2 ⟨by omega,by omega⟩;omega
def oG(l:List Nat):Nat:=l.foldl (· ||| ·) 0
theorem lr{l:List Nat}{i:Nat}(h:i<l.length):oG (l.take (i+1))=oG (l.take i) ||| l[i]:=by
 unfold oG;rw[YP h,List.foldl_append];rfl
def wd(l:List Nat):Nat:=cL (oG l)
theorem xV{l:List Nat}{i:Nat}(h:i<l.length):wd (l.take (i+1))=max (wd (l.take i)) (cL l[i]):=by
 unfold wd;rw[lr h,RT]
theorem Vv:wd []=0:=by decide
theorem tA{l:List Nat}{w:Nat}:∀ i,i<=l.length->(wd (l.take i)<=w↔∀ x∈l.take i,x<2 ^ w)
 | 0,_=>by simp[Vv]
 | i+1,h=>by
  rw[xV (by omega),YP (by omega)];simp only[Zg,Zl];have ih:=tA (l:=l) (w:=w) i (by omega);constructor
  ·intro h1 x hx
   rcases hx with hx | rfl
   ·exact ih.1 (by omega) x hx
   ·exact eJ.1 (by omega)
  ·intro h1
   have h2:=ih.2 (fun x hx=>h1 x (Or.inl hx));have h3:=eJ.2 (h1 _ (Or.inr rfl));omega
theorem rr{l:List Nat}{w:Nat}:wd l<=w↔∀ x∈l,x<2 ^ w:=by
 have:=tA (l:=l) (w:=w) l.length (YA _);rwa[YK]at this
theorem LV{l:List Nat}(h:∀ x∈l,x<18446744073709551616):wd l<=64:=rr.2 h
theorem or64{l:List Nat}(h:∀ x∈l,x<18446744073709551616)(i:Nat):oG (l.take i)<18446744073709551616:=by
 have h1:wd (l.take i)<=64:=LV (fun x hx=>h x (ZA hx));exact eJ.1 h1
def by8(c:Nat):Nat:=(c+7) / 8
def can(l:List Nat)(w:Int):Bool:=decide (0<=w/\w<=64/\l.length<=256/\wd l<=w.toNat)
def aY(l:List Nat)(w:Int):List Nat:=if can l w then dig 8 (by8 (l.length*w.toNat)) (pk w.toNat l) else []
def unE(b:List Nat)(n w:Int):Nat :=
 if 0<=n/\n<=256/\0<=w/\w<=64 then (if b.length=by8 (n.toNat*w.toNat)/\pk 8 b<2 ^ (n.toNat*w.toNat) then 0 else 40) else 1
def unR(b:List Nat)(n w:Int):List Nat:=if unE b n w=0 then dig w.toNat n.toNat (pk 8 b) else []
theorem Vw{b:List Nat}{n w:Int}:∀ x∈unR b n w,x<18446744073709551616:=by
 intro x hx;unfold unR at hx;split at hx
 ·next h =>
  have h1:=xT hx
  have hw:w.toNat<=64:=by
   unfold unE at h;split at h
   ·omega
   ·omega
  exact Za h1 (jag (by omega) hw)
 ·simp at hx
theorem oH{l:List Nat}{w:Int}:∀ x∈aY l w,x<256:=by
 intro x hx;unfold aY at hx;split at hx
 ·exact xT hx
 ·simp at hx
theorem CW(c:Nat):c<=8*by8 c:=by unfold by8;omega
theorem zI{l:List Nat}{w:Nat}(h:can l w=true):unE (aY l w) l.length w=0/\unR (aY l w) l.length w=l:=by
 have hc:=h;unfold can at hc;simp only[Zu,Ze]at hc;obtain⟨_,ol,hl,hw⟩:=hc;have ar:=rr.1 hw;have TG:=zG ar;have hP:aY l w=dig 8 (by8 (l.length*w)) (pk w l):=by unfold aY;rw[Yy h];rfl
 have hB:pk 8 (aY l w)=pk w l:=by
  rw[hP,LS,ZF];refine Za TG (jag (by omega) ?_);have:=CW (l.length*w);rw[Zi w];exact this
 have hE:unE (aY l w) l.length w=0:=by
  unfold unE;rw[Yy ⟨by omega,by omega,by omega,by omega⟩,Yy];simp only[Ze];exact⟨by rw[hP,cX],by rw[hB,Zi];exact TG⟩
 refine⟨hE,?_⟩;unfold unR;rw[Yy hE,hB];simp only[Ze];exact xR ar
def w64(x:Int):Int:=(x+9223372036854775808) % 18446744073709551616-9223372036854775808
theorem jQ(x:Int):I64 (w64 x):=by unfold w64 I64;omega
theorem Vx{x:Int}(h:I64 x):w64 x=x:=by unfold I64 at h;unfold w64;omega
theorem LW{x last:Int}(h:I64 x):w64 (last+w64 (x-last))=x:=by unfold I64 at h;unfold w64;omega
def gd:List Int->List Nat
 | []=>[]
 | x::t=>wv x++gd t
def rd0:Nat->List Nat->Except Nat (List Int×List Nat)
 | 0,b=>.ok ([],b)
 | n+1,b=>ap wh (fun x=>ap (rd0 n) (fun l r=>.ok (x::l,r))) b
theorem LX:∀{l:List Int},(∀ x∈l,I64 x)->dj (rd0 l.length) (gd l) l
 | [],_=>dj.pure []
 | x::t,h=>by
  have ht:=LX (l:=t) (fun y hy=>h y (by simp[hy]));exact(ku (h x (by simp))).bind (f:=fun x=>ap (rd0 t.length) (fun l r=>.ok (x::l,r))) (ht.map (x::·))
def iK:Int->List Int->List Nat
 | _,[]=>[]
 | last,x::t=>wv (w64 (x-last))++iK x t
def rd1:Nat->Int->List Nat->Except Nat (List Int×List Nat)
 | 0,_,b=>.ok ([],b)
 | n+1,last,b=>ap wh (fun d=>ap (rd1 n (w64 (last+d))) (fun l r=>.ok (w64 (last+d)::l,r))) b
theorem LY:∀{l:List Int} (last:Int),(∀ x∈l,I64 x)->dj (rd1 l.length last) (iK last l) l
 | [],_,_=>dj.pure []
 | x::t,last,h=>by
  have hx:=h x (by simp);have ht:=LY (l:=t) x (fun y hy=>h y (by simp[hy]));refine(ku (jQ (x-last))).bind (f:=fun d=>ap (rd1 t.length (w64 (last+d))) (fun l r=>.ok (w64 (last+d)::l,r))) ?_;simp only[LW hx];exact ht.map (x::·)
def ge:Int->Nat->List Int->List Nat
 | x,c,[]=>wv x++uv c
 | x,c,y::t=>if y=x then ge x (c+1) t else wv x++uv c++ge y 1 t
def iL:List Int->List Nat
 | []=>[]
 | x::t=>ge x 1 t
def rd2:Nat->Nat->List Nat->Except Nat (List Int×List Nat)
 | 0,_,b=>.ok ([],b)
 | f+1,n,b=>if n=0 then .ok ([],b) else ap wh (fun x=>ap num (fun k=>if k=0∨n<k then (fun _=>.error 40) else ap (rd2 f (n-k)) (fun l r=>.ok (List.replicate k x++l,r)))) b
theorem zJ(f:Nat)(b:List Nat):rd2 f 0 b=.ok ([],b):=by
 cases f with
 | zero=>rfl
 | succ f=>unfold rd2;rw[Yy rfl]
theorem xW:∀{t:List Int} {x:Int} {c f:Nat},(∀ y∈t,I64 y)->I64 x->1<=c->c+t.length<=1000000->t.length+1<=f ->
  dj (rd2 f (c+t.length)) (ge x c t) (List.replicate c x++t)
 | [],x,c,f,_,hx,hc,hm,hf=>by
  obtain⟨f,rfl⟩:∃ g,f=g+1:=⟨f-1,by simp at hf;omega⟩
  have h1:dj (fun b=>ap wh (fun x=>ap num (fun k=>if k=0∨c<k then (fun _=>.error 40) else ap (rd2 f (c-k)) (fun l r=>.ok (List.replicate k x++l,r)))) b) (wv x++uv c) (List.replicate c x++[]):=by
   refine(ku hx).bind ?_
   have h2:=(kt (n:=c) (by simp at hm;omega)).bind (f:=fun k=>if k=0∨c<k then (fun _=>.error 40) else ap (rd2 f (c-k)) (fun l r=>.ok (List.replicate k x++l,r))) (e':=[]) (y:=List.replicate c x++[])
    (by
     rw[Yx (by omega),jai];have h3:dj (rd2 f 0) [] []:=⟨fun r=>zJ f _,fun k h=>by simp at h⟩;exact h3.map (List.replicate c x++·))
   rwa[YZ]at h2
  have e:rd2 (f+1) (c+([]:List Int).length)=(fun b=>ap wh (fun x=>ap num (fun k=>if k=0∨c<k then (fun _=>.error 40) else ap (rd2 f (c-k)) (fun l r=>.ok (List.replicate k x++l,r)))) b):=by
   funext b
   show (if c=0 then _ else _)=_
   rw[Yx (by omega)];rfl
  rw[e];exact h1
 | y::t,x,c,f,ht,hx,hc,hm,hf=>by
  by_cases XP:y=x
  ·subst XP
   have:=xW (t:=t) (x:=y) (c:=c+1) (f:=f) (fun z hz=>ht z (by simp[hz])) hx (by omega) (by simp at hm;omega) (by simp at hf;omega);rw[show ge y c (y::t)=ge y (c+1) t by rw[ge,Yy rfl],show c+(y::t).length=c+1+t.length by simp;omega];rw[show List.replicate c y++y::t=List.replicate (c+1) y++t by rw[List.replicate_succ'];simp];exact this
  ·obtain⟨f,rfl⟩:∃ g,f=g+1:=⟨f-1,by simp at hf;omega⟩
   have ih:=xW (t:=t) (x:=y) (c:=1) (f:=f) (fun z hz=>ht z (by simp[hz])) (ht y (by simp)) (by omega) (by simp at hm;omega) (by simp at hf;omega);rw[show ge x c (y::t)=wv x++uv c++ge y 1 t by rw[ge,Yx XP],YR]
   have e:rd2 (f+1) (c+(y::t).length)=(fun b=>ap wh (fun x=>ap num (fun k=>if k=0∨c+(y::t).length<k then (fun _=>.error 40) else ap (rd2 f (c+(y::t).length-k)) (fun l r=>.ok (List.replicate k x++l,r)))) b):=by
    funext b
    rw[rd2,Yx (by omega)]
   rw[e];refine(ku hx).bind ?_;refine(kt (n:=c) (by omega)).bind ?_;rw[Yx (by omega),show c+(y::t).length-c=1+t.length by simp;omega];exact ih.map (List.replicate c x++·)
theorem Vy{l:List Int}(h:∀ x∈l,I64 x)(hm:l.length<=1000000):dj (rd2 l.length l.length) (iL l) l:=by
 cases l with
 | nil=>exact dj.pure []
 | cons x t =>
  have:=xW (t:=t) (x:=x) (c:=1) (f:=(x::t).length) (fun z hz=>h z (by simp[hz])) (h x (by simp)) (by omega) (by simp at hm;omega) (by simp);rw[show 1+t.length=(x::t).length by simp;omega]at this;exact this
def ins(x:Int):List Int->List Int
 | []=>[x]
 | y::t=>if x=y then y::t else if x<y then x::y::t else y::ins x t
def dZ(l:List Int):List Int:=l.foldl (fun u x=>ins x u) []
def cY(l:List Int):Prop:=l.Pairwise (· < ·)
theorem xX{x z:Int}:∀{u:List Int},z∈ins x u↔z=x∨z∈u
 | []=>by simp[ins]
 | y::t=>by
  have ih:=xX (x:=x) (z:=z) (u:=t);unfold ins;split
  ·next h =>
   subst h;simp
  ·split
   ·simp
   ·simp only[YQ,ih]
    constructor
    ·rintro(h | h | h)
     ·exact Or.inr (Or.inl h)
     ·exact Or.inl h
     ·exact Or.inr (Or.inr h)
    ·rintro(h | h | h)
     ·exact Or.inr (Or.inl h)
     ·exact Or.inl h
     ·exact Or.inr (Or.inr h)
theorem tB{x:Int}:∀{u:List Int},cY u->cY (ins x u)
 | [],_=>by simp[ins,cY]
 | y::t,h=>by
  have h1:(∀ z∈t,y<z)/\cY t:=ZH.1 h;unfold ins;split
  ·exact h
  ·next fb =>
   split
   ·next ar =>
    refine ZH.2 ⟨fun z hz=>?_,h⟩;rcases YQ.1 hz with rfl | hz
    ·exact ar
    ·exact Int.lt_trans ar (h1.1 z hz)
   ·next ar =>
    refine ZH.2 ⟨fun z hz=>?_,tB h1.2⟩;rcases xX.1 hz with rfl | hz
    ·omega
    ·exact h1.1 z hz
theorem ql:∀(l u:List Int),cY u->cY (l.foldl (fun u x=>ins x u) u)/\∀ z,z∈l.foldl (fun u x=>ins x u) u↔z∈u∨z∈l
 | [],u,h=>⟨h,fun z=>by simp⟩
 | x::t,u,h=>by
  obtain⟨h1,h2⟩:=ql t (ins x u) (tB h);refine⟨h1,fun z=>?_⟩;have:=h2 z;rw[xX]at this;simp only[List.foldl_cons,YQ];rw[this];constructor
  ·rintro((h | h) | h)
   ·exact Or.inr (Or.inl h)
   ·exact Or.inl h
   ·exact Or.inr (Or.inr h)
  ·rintro(h | h | h)
   ·exact Or.inl (Or.inr h)
   ·exact Or.inl (Or.inl h)
   ·exact Or.inr h
theorem hO(l:List Int):cY (dZ l):=(ql l [] List.Pairwise.nil).1
theorem gg{l:List Int}{z:Int}:z∈dZ l↔z∈l:=by
 have:=(ql l [] List.Pairwise.nil).2 z;unfold dZ;rw[this];simp
theorem tC{x:Int}:∀{u:List Int},(ins x u).length<=u.length+1
 | []=>by simp[ins]
 | y::t=>by
  have:=tC (x:=x) (u:=t);unfold ins;split
  ·simp
  ·split
   ·simp
   ·simp;omega
theorem kx:∀(l u:List Int),(l.foldl (fun u x=>ins x u) u).length<=u.length+l.length
 | [],u=>by simp
 | x::t,u=>by
  have h1:=kx t (ins x u);have h2:=tC (x:=x) (u:=u);simp only[List.foldl_cons,YI];omega
theorem hZ(l:List Int):(dZ l).length<=l.length:=by
 have:=kx l [];unfold dZ;simpa using this
theorem oI{l:List Int}(h:0<l.length):0<(dZ l).length:=by
 have:l[0]∈dZ l:=gg.2 (YF h);exact List.length_pos_of_mem this
theorem oJ{l:List Int}(h:∀ x∈l,I64 x):∀ x∈dZ l,I64 x:=fun x hx=>h x (gg.1 hx)
def pl:List Int->Int->Nat
 | [],_=>0
 | y::t,x=>if y=x then 0 else pl t x+1
theorem xY{x:Int}:∀{u:List Int},x∈u->pl u x<u.length/\u[pl u x]?=some x
 | y::t,h=>by
  unfold pl;split
  ·next e=>subst e;simp
  ·next fb =>
   have ht:x∈t:=by
    rcases YQ.1 h with rfl | h
    ·exact absurd rfl fb
    ·exact h
   obtain⟨h1,h2⟩:=xY ht;simp only[YI,List.getElem?_cons_succ];exact⟨by omega,h2⟩
theorem Uu:∀{u:List Int} {i:Nat} (h:i<u.length),cY u->pl u u[i]=i
 | y::t,0,_,_=>by simp[pl]
 | y::t,i+1,h,hr=>by
  have hi:i<t.length:=by simpa using h
  have h1:(∀ z∈t,y<z)/\cY t:=ZH.1 hr;have h2:=h1.1 t[i] (YF hi);show pl (y::t) t[i]=i+1
  unfold pl;rw[Yx (by omega),Uu hi h1.2]
def places(l:List Int):List Nat:=l.map (pl (dZ l))
theorem kb(l:List Int):(places l).length=l.length:=YD _
theorem mj{l:List Int}:∀ p∈places l,p<(dZ l).length:=by
 intro p hp;obtain⟨x,hx,rfl⟩:=YS.1 hp;exact(xY (gg.2 hx)).1
theorem CX{l:List Int}(h:0<l.length):(dZ l).length-1∈places l:=by
 have hu:=oI h;have hi:(dZ l).length-1<(dZ l).length:=by omega
 refine YS.2 ⟨(dZ l)[(dZ l).length-1],gg.1 (YF hi),?_⟩;exact Uu hi (hO l)
theorem wz{l:List Int}(h:0<l.length):wd (places l)=cL ((dZ l).length-1):=by
 have hu:=oI h
 have e:∀ w,wd (places l)<=w↔cL ((dZ l).length-1)<=w:=fun w=>by
  rw[rr,eJ];constructor
  ·intro h1
   exact h1 _ (CX h)
  ·intro h1 p hp
   have:=mj p hp;omega
 have h1:=(e _).1 (YA _);have h2:=(e _).2 (YA _);omega
theorem zK(l:List Int):(places l).map (fun q=>(dZ l).getD q 0)=l:=by
 unfold places;rw[Zk];conv=>rhs;rw[← ZE l]
 apply ZK
 intro x hx;have:=(xY (gg.2 hx)).2;simp[List.getD_eq_getElem?_getD,this]
def iC(l:List Int):Int:=(dZ l).headD 0
theorem iR{l:List Int}(h:0<l.length):iC l∈l:=by
 have hu:=oI h;unfold iC;cases hq:dZ l with
 | nil=>rw[hq]at hu;simp at hu
 | cons y t =>
  have:y∈dZ l:=by rw[hq];simp
  exact gg.1 this
theorem oK{l:List Int}:∀ x∈l,iC l<=x:=by
 intro x hx;have h1:=gg.2 hx;have h2:=hO l;unfold iC;cases hq:dZ l with
 | nil=>rw[hq]at h1;simp at h1
 | cons y t =>
  rw[hq]at h1 h2;have h3:(∀ z∈t,y<z)/\cY t:=ZH.1 h2;rcases YQ.1 h1 with rfl | h1
  ·exact Int.le_refl _
  ·exact Int.le_of_lt (h3.1 x h1)
def dD(l:List Int):List Nat:=l.map fun x=>(x-iC l).toNat
theorem iM(l:List Int):(dD l).length=l.length:=YD _
theorem oL{l:List Int}(h:∀ x∈l,I64 x):∀ p∈dD l,p<18446744073709551616:=by
 intro p hp;obtain⟨x,hx,rfl⟩:=YS.1 hp;have h1:=h x hx;have h2:=h _ (iR (List.length_pos_of_mem hx));have h3:=oK x hx;unfold I64 at h1 h2;omega
theorem CY{l:List Int}(h:∀ x∈l,I64 x):(dD l).map (fun(q:Nat)=>w64 (iC l+(q:Int)))=l:=by
 unfold dD;rw[Zk];conv=>rhs;rw[← ZE l]
 apply ZK
 intro x hx;have h1:=h x hx;have h3:=oK x hx;simp only[Function.comp,id];rw[show iC l+((x-iC l).toNat:Int)=x by omega];exact Vx h1
def pkd(n w:Nat)(b:List Nat):Except Nat (List Nat×List Nat) :=
 if b.length<by8 (n*w) then .error 30
 else if by8 (n*w)<b.length then .error 32
 else if unE b n w=0 then .ok (unR b n w,[]) else .error (unE b n w)
theorem CZ{p:List Nat}{w:Nat}(hl:p.length<=256)(hw:w<=64)(hp:wd p<=w):can p w=true:=by
 unfold can;exact YT ⟨by omega,by omega,hl,by omega⟩
theorem kQ{p:List Nat}{w:Nat}(h:can p w=true):(aY p w).length=by8 (p.length*w):=by
 unfold aY;rw[Yy h,cX];rfl
theorem zL{p:List Nat}{w:Nat}(hl:p.length<=256)(hw:w<=64)(hp:wd p<=w):oF (pkd p.length w) (aY p w) p:=by
 have pQ:=CZ hl hw hp;have bg:=kQ pQ;obtain⟨h1,h2⟩:=zI pQ;refine⟨?_,fun y r=>Or.inl ?_,fun k hk=>?_⟩
 ·unfold pkd
  rw[Yx (by omega),Yx (by omega),Yy h1,h2]
 ·unfold pkd
  rw[Yx (by simp;omega),Yy (by simp;omega)]
 ·unfold pkd
  rw[Yy (by rw[YH];omega)]
def nD:Int->List Int->List Nat
 | _,[]=>[]
 | last,y::t=>uv (y-last).toNat++nD y t
def je:List Int->List Nat
 | []=>[]
 | x::t=>wv x++nD x t
def rdU:Nat->Int->List Nat->Except Nat (List Int×List Nat)
 | 0,_,b=>.ok ([],b)
 | m+1,last,b=>ap num (fun(d:Nat)=>if d=0∨9223372036854775807-last<(d:Int) then (fun _=>.error 40) else ap (rdU m (last+d)) (fun l r=>.ok ((last+d)::l,r))) b
theorem LZ:∀{t:List Int} {last:Int},cY (last::t)->I64 last->(∀ x∈t,I64 x)->dj (rdU t.length last) (nD last t) t
 | [],_,_,_,_=>dj.pure []
 | y::t,last,hr,hl,ht=>by
  have h1:(∀ z∈y::t,last<z)/\cY (y::t):=ZH.1 hr;have hy:=h1.1 y (by simp);have hyi:=ht y (by simp);have ih:=LZ (t:=t) (last:=y) h1.2 hyi (fun x hx=>ht x (by simp[hx]));unfold I64 at hl hyi;refine(kt (n:=(y-last).toNat) (by omega)).bind (f:=fun(d:Nat)=>if d=0∨9223372036854775807-last<(d:Int) then (fun _=>.error 40) else ap (rdU t.length (last+d)) (fun l r=>.ok ((last+d)::l,r))) ?_;rw[Yx (by omega),show last+((y-last).toNat:Int)=y by omega];exact ih.map (y::·)
def sw(l:List Int):List Nat:=uv (dZ l).length++(je (dZ l)++aY (places l) (wd (places l):Int))
def picked(u:List Int)(p r:List Nat):Except Nat (List Int×List Nat):=if ∀ q∈p,q<u.length then .ok (p.map (fun q=>u.getD q 0),r) else .error 40
def rd3(n:Nat)(b:List Nat):Except Nat (List Int×List Nat) :=
 ap num (fun many=>if n<many∨many=0/\0<n then (fun _=>.error 40) else if n=0 then (fun r=>.ok ([],r)) else
  ap wh (fun x=>ap (rdU (many-1) x) (fun u=>ap (pkd n (cL (many-1))) (fun p r=>picked (x::u) p r)))) b
theorem oF.picked{d:List Nat->Except Nat (List Nat×List Nat)}{e p:List Nat}{u:List Int}(h:oF d e p)(hp:∀ q∈p,q<u.length):oF (ap d (picked u)) e (p.map fun q=>u.getD q 0):=by
 have hk:∀ r,YtpljdjmpamjkhaaGreatDoor.picked u p r=.ok (p.map (fun q=>u.getD q 0),r):=fun r=>by unfold YtpljdjmpamjkhaaGreatDoor.picked;rw[Yy hp]
 refine⟨by rw[ct h.1,hk],fun y r=>?_,fun k hk=>bQ (h.2.2 k hk)⟩;rcases h.2.1 y r with h1 | h1
 ·exact Or.inl (bQ h1)
 ·exact Or.inr (by rw[ct h1,hk])
theorem zM{l:List Int}(hm:l.length<=256):wd (places l)<=64:=by
 refine rr.2 (fun p hp=>?_);have:=mj p hp;have:=hZ l;have:p<256:=by omega
 exact Za this (by decide)
theorem ends3{l:List Int}(h:∀ x∈l,I64 x)(hm:l.length<=256):oF (rd3 l.length) (sw l) l:=by
 have Kw:=hZ l;have mO:=kb l;have hwp:=zM hm;have Qc:=kt (n:=(dZ l).length) (by omega);refine Qc.then ?_
 rcases Zw l.length with h0 | h0
 ·obtain rfl:l=[]:=YU h0
  rw[Yx (by simp[dZ]),Yy (show ([]:List Int).length=0 from rfl)]
  have e:je (dZ [])++aY (places []) (wd (places []):Int)=[]:=by
   have:aY (places []) (wd (places []):Int)=[]:=by
    have hc:=CZ (p:=places []) (w:=wd (places [])) (by simp[places]) hwp (YA _);have h1:=kQ hc;refine YU (h1.trans ?_);simp[places,by8]
   rw[this];simp[dZ,je]
  rw[e];exact(dj.pure []).ends
 ·have hup:=oI h0
  rw[Yx (by omega),Yx (by omega)];have hr:=hO l;have hi:=oJ h;have hb:=zK l;have ar:=mj (l:=l);have TH:=wz h0;generalize places l=p at *;cases hu:dZ l with
  | nil=>rw[hu]at hup;simp at hup
  | cons x t =>
   rw[hu]at hr hi hb ar TH;have uJ:=zL (p:=p) (w:=wd p) (by omega) hwp (YA _);rw[mO]at uJ;rw[show je (x::t)=wv x++nD x t from rfl,YR];refine(ku (hi x (by simp))).then ?_
   refine(LZ hr (hi x (by simp)) (fun z hz=>hi z (by simp[hz]))).then (f:=fun u=>ap (pkd l.length (cL ((x::t).length-1))) (fun p r=>picked (x::u) p r)) ?_
   rw[← TH];have:=uJ.picked (u:=x::t) ar;rw[hb]at this;exact this
def mK(l:List Int):List Nat:=if l.length=0 then [] else wv (iC l)++(uv (wd (dD l))++aY (dD l) (wd (dD l):Int))
def rd4(n:Nat)(b:List Nat):Except Nat (List Int×List Nat) :=
 if n=0 then .ok ([],b) else
  ap wh (fun x=>ap num (fun w=>if 64<w then (fun _=>.error 40) else ap (pkd n w) (fun p r=>.ok (p.map (fun(q:Nat)=>w64 (x+(q:Int))),r)))) b
theorem ends4{l:List Int}(h:∀ x∈l,I64 x)(hm:l.length<=256):oF (rd4 l.length) (mK l) l:=by
 rcases Zw l.length with h0 | h0
 ·obtain rfl:l=[]:=YU h0
  exact(dj.pure ([]:List Int)).ends
 ·have WB:=iM l
  have hw:=LV (oL h);have uJ:=zL (p:=dD l) (w:=wd (dD l)) (by omega) hw (YA _);rw[WB]at uJ;have jJ:=uJ.map (fun p=>p.map (fun(q:Nat)=>w64 (iC l+(q:Int))));rw[CY h]at jJ
  have Qc:oF (ap num (fun w=>if 64<w then (fun _=>.error 40) else ap (pkd l.length w) (fun p r=>.ok (p.map (fun(q:Nat)=>w64 (iC l+(q:Int))),r)))) (uv (wd (dD l))++aY (dD l) (wd (dD l):Int)) l:=by
   refine(kt (n:=wd (dD l)) (by omega)).then ?_
   rw[Yx (by omega)];exact jJ
  have cz:=(ku (h _ (iR h0))).then (f:=fun x=>ap num (fun w=>if 64<w then (fun _=>.error 40) else ap (pkd l.length w) (fun p r=>.ok (p.map (fun(q:Nat)=>w64 (x+(q:Int))),r)))) Qc
  have e1:mK l=wv (iC l)++(uv (wd (dD l))++aY (dD l) (wd (dD l):Int)):=by unfold mK;rw[Yx (by omega)]
  have e2:rd4 l.length=ap wh (fun x=>ap num (fun w=>if 64<w then (fun _=>.error 40) else ap (pkd l.length w) (fun p r=>.ok (p.map (fun(q:Nat)=>w64 (x+(q:Int))),r)))):=by
   funext b
   unfold rd4;rw[Yx (by omega)]
  rw[e1,e2];exact cz
def jf(c:Nat)(l:List Int):List Nat :=
 match c with
 | 0=>gd l
 | 1=>iK 0 l
 | 2=>iL l
 | 3=>sw l
 | _=>mK l
def rdC(c n:Nat):List Nat->Except Nat (List Int×List Nat) :=
 match c with
 | 0=>rd0 n
 | 1=>rd1 n 0
 | 2=>rd2 n n
 | 3=>rd3 n
 | _=>rd4 n
theorem endsC(c:Nat){l:List Int}(h:∀ x∈l,I64 x)(hm:l.length<=256):oF (rdC c l.length) (jf c l) l:=by
 unfold rdC jf;split
 ·exact(LX h).ends
 ·exact(LY 0 h).ends
 ·exact(Vy h (by omega)).ends
 ·exact ends3 h hm
 ·exact ends4 h hm
def lu(c n:Nat)(b:List Nat):Except Nat (List Int) :=
 match rdC c n b with
 | .error e=>.error e
 | .ok (l,r)=>if r.length=0 then (if jf c l=b then .ok l else .error 40) else .error 32
def aS(b:List Nat)(n:Int):List Int×Nat :=
 if 0<=n/\n<=256 then
  match b with
  | []=>([],30)
  | c::t=>if 4<c then ([],50) else match lu c n.toNat t with
   | .ok l=>(l,0)
   | .error e=>([],e)
 else ([],1)
theorem Da(c:Nat){l:List Int}(h:∀ x∈l,I64 x)(hm:l.length<=256):lu c l.length (jf c l)=.ok l:=by
 unfold lu;rw[(endsC c h hm).1];simp
theorem Db{c:Nat}(hc:c<=4){l:List Int}(h:∀ x∈l,I64 x)(hm:l.length<=256):aS (c::jf c l) l.length=(l,0):=by
 unfold aS;rw[Yy (by omega)];simp only[Ze];rw[Yx (by omega),Da c h hm]
theorem bI{α β : Type}{d:List Nat->Except Nat (α×List Nat)}{f:α->List Nat->Except Nat (β×List Nat)}{b r:List Nat}{y:β}(h:ap d f b=.ok (y,r)) :
  ∃ x q,d b=.ok (x,q)/\f x q=.ok (y,r):=by
 unfold ap at h;split at h
 ·next x q e=>exact⟨x,q,e,h⟩
 ·simp at h
theorem Bs.right{a b:List Nat}(h:Bs (a++b)):Bs b:=fun x hx=>h x (Zg.2 (Or.inr hx))
theorem xZ{b r:List Nat}{n:Nat}(hb:Bs b)(h:num b=.ok (n,r)):n<18446744073709551616/\Bs r:=by
 obtain⟨h1,h2⟩:=Vs hb h;exact⟨h1,by rw[h2]at hb;exact hb.right⟩
theorem tD{b r:List Nat}{x:Int}(hb:Bs b)(h:wh b=.ok (x,r)):I64 x/\Bs r:=by
 obtain⟨h1,h2⟩:=wh_ok hb h;exact⟨h1,by rw[h2]at hb;exact hb.right⟩
def Is(l:List Int):Prop:=∀ x∈l,I64 x
theorem Is.cons{x:Int}{l:List Int}(h:I64 x)(hl:Is l):Is (x::l):=fun y hy=>by
 rcases YQ.1 hy with rfl | hy
 ·exact h
 ·exact hl y hy
theorem FI:∀{n:Nat} {b r:List Nat} {l:List Int},Bs b->rd0 n b=.ok (l,r)->l.length=n/\Is l/\Bs r
 | 0,b,r,l,hb,h=>by
  simp only[rd0,Except.ok.injEq,Prod.mk.injEq]at h;obtain⟨rfl,rfl⟩:=h;exact⟨rfl,fun x hx=>by simp at hx,hb⟩
 | n+1,b,r,l,hb,h=>by
  rw[rd0]at h;obtain⟨x,q,h1,h2⟩:=bI h;obtain⟨m,q2,h3,h4⟩:=bI h2;obtain⟨i1,i2⟩:=tD hb h1;obtain⟨j1,j2,j3⟩:=FI i2 h3;simp only[Except.ok.injEq,Prod.mk.injEq]at h4;obtain⟨rfl,rfl⟩:=h4;exact⟨by simp[j1],j2.cons i1,j3⟩
theorem FJ:∀{n:Nat} {last:Int} {b r:List Nat} {l:List Int},Bs b->rd1 n last b=.ok (l,r)->l.length=n/\Is l/\Bs r
 | 0,last,b,r,l,hb,h=>by
  simp only[rd1,Except.ok.injEq,Prod.mk.injEq]at h;obtain⟨rfl,rfl⟩:=h;exact⟨rfl,fun x hx=>by simp at hx,hb⟩
 | n+1,last,b,r,l,hb,h=>by
  rw[rd1]at h;obtain⟨x,q,h1,h2⟩:=bI h;obtain⟨m,q2,h3,h4⟩:=bI h2;obtain⟨i1,i2⟩:=tD hb h1;obtain⟨j1,j2,j3⟩:=FJ i2 h3;simp only[Except.ok.injEq,Prod.mk.injEq]at h4;obtain⟨rfl,rfl⟩:=h4;exact⟨by simp[j1],j2.cons (jQ _),j3⟩
theorem FK:∀{f n:Nat} {b r:List Nat} {l:List Int},n<=f->Bs b->rd2 f n b=.ok (l,r)->l.length=n/\Is l/\Bs r
 | 0,n,b,r,l,hf,hb,h=>by
  simp only[rd2,Except.ok.injEq,Prod.mk.injEq]at h;obtain⟨rfl,rfl⟩:=h;exact⟨by simp;omega,fun x hx=>by simp at hx,hb⟩
 | f+1,n,b,r,l,hf,hb,h=>by
  rw[rd2]at h;split at h
  ·simp only[Except.ok.injEq,Prod.mk.injEq]at h
   obtain⟨rfl,rfl⟩:=h;exact⟨by simp;omega,fun x hx=>by simp at hx,hb⟩
  ·obtain⟨x,q,h1,h2⟩:=bI h
   obtain⟨i1,i2⟩:=tD hb h1;obtain⟨k,q2,h3,h4⟩:=bI h2;obtain⟨_,i3⟩:=xZ i2 h3;split at h4
   ·simp at h4
   ·obtain⟨m,q3,h5,h6⟩:=bI h4
    obtain⟨j1,j2,j3⟩:=FK (by omega) i3 h5;simp only[Except.ok.injEq,Prod.mk.injEq]at h6;obtain⟨rfl,rfl⟩:=h6;refine⟨by simp[j1];omega,fun y hy=>?_,j3⟩;rcases Zg.1 hy with hy | hy
    ·rw[jay hy];exact i1
    ·exact j2 y hy
theorem FL:∀{m:Nat} {last:Int} {b r:List Nat} {l:List Int},I64 last->Bs b->rdU m last b=.ok (l,r)->l.length=m/\Is l/\Bs r
 | 0,last,b,r,l,hl,hb,h=>by
  simp only[rdU,Except.ok.injEq,Prod.mk.injEq]at h;obtain⟨rfl,rfl⟩:=h;exact⟨rfl,fun x hx=>by simp at hx,hb⟩
 | m+1,last,b,r,l,hl,hb,h=>by
  rw[rdU]at h;obtain⟨d,q,h1,h2⟩:=bI h;obtain⟨_,i2⟩:=xZ hb h1;split at h2
  ·simp at h2
  ·next hd =>
   have hi:I64 (last+d):=by unfold I64 at hl ⊢;omega
   obtain⟨m',q2,h3,h4⟩:=bI h2;obtain⟨j1,j2,j3⟩:=FL hi i2 h3;simp only[Except.ok.injEq,Prod.mk.injEq]at h4;obtain⟨rfl,rfl⟩:=h4;exact⟨by simp[j1],j2.cons hi,j3⟩
theorem FM{n w:Nat}{b r p:List Nat}(h:pkd n w b=.ok (p,r)):p.length=n/\r=[]:=by
 unfold pkd at h;split at h
 ·simp at h
 ·split at h
  ·simp at h
  ·split at h
   ·next hE =>
    simp only[Except.ok.injEq,Prod.mk.injEq]at h;obtain⟨rfl,rfl⟩:=h;refine⟨?_,rfl⟩;rw[unR,Yy hE,cX];rfl
   ·simp at h
theorem RU{n:Nat}{b r:List Nat}{l:List Int}(hb:Bs b)(h:rd3 n b=.ok (l,r)):l.length=n/\Is l/\Bs r:=by
 unfold rd3 at h;obtain⟨many,q,h1,h2⟩:=bI h;obtain⟨_,i2⟩:=xZ hb h1;split at h2
 ·simp at h2
 ·split at h2
  ·simp only[Except.ok.injEq,Prod.mk.injEq]at h2
   obtain⟨rfl,rfl⟩:=h2;exact⟨by simp;omega,fun x hx=>by simp at hx,i2⟩
  ·obtain⟨x,q2,h3,h4⟩:=bI h2
   obtain⟨i3,i4⟩:=tD i2 h3;obtain⟨u,q3,h5,h6⟩:=bI h4;obtain⟨j1,j2,j3⟩:=FL i3 i4 h5;obtain⟨p,q4,h7,h8⟩:=bI h6;obtain⟨k1,rfl⟩:=FM h7;unfold picked at h8;split at h8
   ·next hp =>
    simp only[Except.ok.injEq,Prod.mk.injEq]at h8;obtain⟨rfl,rfl⟩:=h8;refine⟨by simp[k1],fun y hy=>?_,fun y hy=>by simp at hy⟩;obtain⟨z,hz,rfl⟩:=YS.1 hy;have ar:=hp z hz;rw[List.getD_eq_getElem?_getD,List.getElem?_eq_getElem ar];exact(j2.cons i3) _ (YF ar)
   ·simp at h8
theorem RV{n:Nat}{b r:List Nat}{l:List Int}(hb:Bs b)(h:rd4 n b=.ok (l,r)):l.length=n/\Is l/\Bs r:=by
 unfold rd4 at h;split at h
 ·simp only[Except.ok.injEq,Prod.mk.injEq]at h
  obtain⟨rfl,rfl⟩:=h;exact⟨by simp;omega,fun x hx=>by simp at hx,hb⟩
 ·obtain⟨x,q,h1,h2⟩:=bI h
  obtain⟨i1,i2⟩:=tD hb h1;obtain⟨w,q2,h3,h4⟩:=bI h2;split at h4
  ·simp at h4
  ·obtain⟨p,q3,h5,h6⟩:=bI h4
   obtain⟨k1,rfl⟩:=FM h5;simp only[Except.ok.injEq,Prod.mk.injEq]at h6;obtain⟨rfl,rfl⟩:=h6;refine⟨by simp[k1],fun y hy=>?_,fun y hy=>by simp at hy⟩;obtain⟨z,_,rfl⟩:=YS.1 hy;exact jQ _
theorem RW{c n:Nat}{b r:List Nat}{l:List Int}(hb:Bs b)(h:rdC c n b=.ok (l,r)):l.length=n/\Is l/\Bs r:=by
 unfold rdC at h;split at h
 ·exact FI hb h
 ·exact FJ hb h
 ·exact FK (YA _) hb h
 ·exact RU hb h
 ·exact RV hb h
theorem GW{c n:Nat}{b:List Nat}{l:List Int}(hb:Bs b)(h:lu c n b=.ok l):l.length=n/\Is l/\jf c l=b:=by
 unfold lu at h;split at h
 ·simp at h
 ·next l' r e =>
  split at h
  ·split at h
   ·next h2 =>
    simp only[Except.ok.injEq]at h;subst h;obtain⟨h3,h4,_⟩:=RW hb e;exact⟨h3,h4,h2⟩
   ·simp at h
  ·simp at h
theorem cM{α β : Type}{d:List Nat->Except Nat (α×List Nat)}{f:α->List Nat->Except Nat (β×List Nat)}(h1:∀ b,d b≠.error 0)(h2:∀ x b,f x b≠.error 0)(b:List Nat):ap d f b≠.error 0:=by
 unfold ap;split
 ·exact h2 _ _
 ·next e he =>
  intro h;simp only[Except.error.injEq]at h;subst h;exact h1 b he
theorem ya(b:List Nat):num b≠.error 0:=by
 unfold num;split
 ·simp
 ·next h=>intro e;simp only[Except.error.injEq]at e;exact h e
theorem zN(b:List Nat):wh b≠.error 0:=by
 unfold wh;split
 ·simp
 ·next h=>intro e;simp only[Except.error.injEq]at e;exact h e
theorem Ma(n w:Nat)(b:List Nat):pkd n w b≠.error 0:=by
 unfold pkd;split
 ·simp
 ·split
  ·simp
  ·split
   ·simp
   ·next h=>intro e;simp only[Except.error.injEq]at e;exact h e
theorem Mb:∀(n:Nat) (b:List Nat),rd0 n b≠.error 0
 | 0,b=>by simp[rd0]
 | n+1,b=>cM zN (fun x=>cM (Mb n) (fun l r=>by simp)) b
theorem Mc:∀(n:Nat) (last:Int) (b:List Nat),rd1 n last b≠.error 0
 | 0,last,b=>by simp[rd1]
 | n+1,last,b=>cM zN (fun d=>cM (Mc n _) (fun l r=>by simp)) b
theorem Md:∀(f n:Nat) (b:List Nat),rd2 f n b≠.error 0
 | 0,n,b=>by simp[rd2]
 | f+1,n,b=>by
  rw[rd2];split
  ·simp
  ·refine cM zN (fun x=>cM ya (fun k q=>?_)) b
   split
   ·simp
   ·exact cM (Md f _) (fun l r=>by simp) q
theorem Me:∀(m:Nat) (last:Int) (b:List Nat),rdU m last b≠.error 0
 | 0,last,b=>by simp[rdU]
 | m+1,last,b=>by
  rw[rdU];refine cM ya (fun d q=>?_) b;split
  ·simp
  ·exact cM (Me m _) (fun l r=>by simp) q
theorem Vz(n:Nat)(b:List Nat):rd3 n b≠.error 0:=by
 unfold rd3;refine cM ya (fun many q=>?_) b;split
 ·simp
 ·split
  ·simp
  ·refine cM zN (fun x=>cM (Me _ _) (fun u=>cM (Ma _ _) (fun p r=>?_))) q
   unfold picked;split<;>simp
theorem VA(n:Nat)(b:List Nat):rd4 n b≠.error 0:=by
 unfold rd4;split
 ·simp
 ·refine cM zN (fun x=>cM ya (fun w q=>?_)) b
  split
  ·simp
  ·exact cM (Ma _ _) (fun p r=>by simp) q
theorem VB(c n:Nat)(b:List Nat):rdC c n b≠.error 0:=by
 unfold rdC;split
 ·exact Mb n b
 ·exact Mc n 0 b
 ·exact Md n n b
 ·exact Vz n b
 ·exact VA n b
theorem Mf(c n:Nat)(b:List Nat):lu c n b≠.error 0:=by
 unfold lu;split
 ·next e he =>
  intro h;simp only[Except.error.injEq]at h;subst h;exact VB c n b he
 ·split
  ·split<;>simp
  ·simp
theorem GX{b:List Nat}{n:Int}{l:List Int}(hb:Bs b)(h:aS b n=(l,0)):0<=n/\n<=256/\∃ c t,b=c::t/\c<=4/\(l.length:Int)=n/\Is l/\jf c l=t:=by
 unfold aS at h;split at h
 ·next hn =>
  refine⟨hn.1,hn.2,?_⟩;split at h
  ·simp at h
  ·next c t =>
   split at h
   ·simp at h
   ·next hc =>
    split at h
    ·next l' e =>
     simp only[Prod.mk.injEq,and_true]at h;subst h;obtain⟨h1,h2,h3⟩:=GW (fun x hx=>hb x (by simp[hx])) e;exact⟨c,t,rfl,by omega,by omega,h2,h3⟩
    ·next e he =>
     simp only[Prod.mk.injEq]at h;rw[h.2]at he;exact absurd he (Mf _ _ _)
 ·simp at h
def jg(l:List Int):Nat->List Nat
 | 0=>0::jf 0 l
 | c+1=>if (jf (c+1) l).length+1<(jg l c).length then (c+1)::jf (c+1) l else jg l c
theorem jR(l:List Int):∀ k,∃ c,c<=k/\jg l k=c::jf c l
 | 0=>⟨0,YA _,rfl⟩
 | k+1=>by
  rw[jg];split
  ·exact⟨k+1,YA _,rfl⟩
  ·obtain⟨c,h1,h2⟩:=jR l k
   exact⟨c,by omega,h2⟩
theorem ml(l:List Int):∀ k c,c<=k->(jg l k).length<=(jf c l).length+1
 | 0,c,h=>by
  obtain rfl:c=0:=by omega
  simp[jg]
 | k+1,c,h=>by
  rw[jg];split
  ·next ar =>
   rcases Zd k c with h1 | h1
   ·obtain rfl:c=k+1:=by omega
    simp
   ·have:=ml l k c h1
    simp
    omega
  ·next ar =>
   rcases Zd k c with h1 | h1
   ·obtain rfl:c=k+1:=by omega
    omega
   ·exact ml l k c h1
theorem mn:∀{l:List Int},Is l->(gd l).length<=10*l.length/\Bs (gd l)
 | [],_=>⟨by simp[gd],fun x hx=>by simp[gd]at hx⟩
 | x::t,h=>by
  obtain⟨h1,h2⟩:=mn (l:=t) (fun y hy=>h y (by simp[hy]));have h3:=gL (h x (by simp));refine⟨by simp[gd];omega,fun y hy=>?_⟩;rcases Zg.1 hy with hy | hy
  ·exact ws y hy
  ·exact h2 y hy
theorem qm:∀{l:List Int} {last:Int},(iK last l).length<=10*l.length/\Bs (iK last l)
 | [],_=>⟨by simp[iK],fun x hx=>by simp[iK]at hx⟩
 | x::t,last=>by
  obtain⟨h1,h2⟩:=qm (l:=t) (last:=x);have h3:=gL (jQ (x-last));refine⟨by simp[iK];omega,fun y hy=>?_⟩;rcases Zg.1 hy with hy | hy
  ·exact ws y hy
  ·exact h2 y hy
theorem Bs.append{a b:List Nat}(ha:Bs a)(hb:Bs b):Bs (a++b):=fun x hx=>by
 rcases Zg.1 hx with hx | hx
 ·exact ha x hx
 ·exact hb x hx
theorem kR:∀{t:List Int} {x:Int} {c:Nat},Is t->I64 x->c+t.length<=1000000->(ge x c t).length<=20*(t.length+1)/\Bs (ge x c t)
 | [],x,c,ht,hx,hc=>by
  have h3:=gL hx;have h4:=cC (n:=c) (by simp at hc;omega);refine⟨by simp[ge];omega,?_⟩;rw[ge];exact Bs.append ws fM
 | y::t,x,c,ht,hx,hc=>by
  have h3:=gL hx;have h4:=cC (n:=c) (by omega);rw[ge];split
  ·obtain⟨h1,h2⟩:=kR (t:=t) (x:=x) (c:=c+1) (fun z hz=>ht z (by simp[hz])) hx (by simp at hc;omega)
   exact⟨by simp;omega,h2⟩
  ·obtain⟨h1,h2⟩:=kR (t:=t) (x:=y) (c:=1) (fun z hz=>ht z (by simp[hz])) (ht y (by simp)) (by simp at hc;omega)
   exact⟨by simp;omega,Bs.append (Bs.append ws fM) h2⟩
theorem wB:∀{t:List Int} {last:Int},I64 last->Is t->(nD last t).length<=10*t.length/\Bs (nD last t)
 | [],_,_,_=>⟨by simp[nD],fun x hx=>by simp[nD]at hx⟩
 | y::t,last,hl,ht=>by
  have hy:=ht y (by simp);obtain⟨h1,h2⟩:=wB (t:=t) (last:=y) hy (fun z hz=>ht z (by simp[hz]));have h3:=cC (n:=(y-last).toNat) (by unfold I64 at hy hl;omega);exact⟨by simp[nD];omega,Bs.append fM h2⟩
theorem qn{u:List Int}(h:Is u):(je u).length<=10*u.length/\Bs (je u):=by
 cases u with
 | nil=>exact⟨by simp[je],fun x hx=>by simp[je]at hx⟩
 | cons x t =>
  have hx:=h x (by simp);obtain⟨h1,h2⟩:=wB (t:=t) hx (fun z hz=>h z (by simp[hz]));have h3:=gL hx;exact⟨by simp[je];omega,Bs.append ws h2⟩
theorem tE{p:List Nat}{w:Nat}(hl:p.length<=256):(aY p w).length<=2048:=by
 unfold aY;split
 ·next h =>
  unfold can at h;simp only[Zu]at h;rw[cX];have:p.length*w<=256*64:=Nat.mul_le_mul hl (by omega);unfold by8;simp only[Ze];omega
 ·simp
theorem eK(c:Nat){l:List Int}(h:Is l)(hl:l.length<=256):(jf c l).length<=5130/\Bs (jf c l):=by
 unfold jf;split
 ·obtain⟨h1,h2⟩:=mn h
  exact⟨by omega,h2⟩
 ·obtain⟨h1,h2⟩:=qm (l:=l) (last:=0)
  exact⟨by omega,h2⟩
 ·cases l with
  | nil=>exact⟨by simp[iL],fun x hx=>by simp[iL]at hx⟩
  | cons x t =>
   obtain⟨h1,h2⟩:=kR (t:=t) (x:=x) (c:=1) (fun z hz=>h z (by simp[hz])) (h x (by simp)) (by simp at hl;omega);simp at hl
   exact⟨by rw[iL];omega,h2⟩
 ·have hu:=hZ l
  obtain⟨h1,h2⟩:=qn (oJ h);have h3:=cC (n:=(dZ l).length) (by omega);have h4:=tE (p:=places l) (w:=wd (places l)) (by rw[kb];exact hl);refine⟨by simp[sw];omega,Bs.append fM (Bs.append h2 oH)⟩
 ·unfold mK
  split
  ·exact⟨by simp,fun x hx=>by simp at hx⟩
  ·next h0 =>
   have h3:=gL (h _ (iR (by omega)));have h4:=tE (p:=dD l) (w:=wd (dD l)) (by rw[iM];exact hl);have h5:=cC (n:=wd (dD l)) (by have:=LV (oL h);omega);refine⟨by simp;omega,Bs.append ws (Bs.append fM oH)⟩
def dm(l:List Int):List Nat:=jg l 4
theorem iS{l:List Int}(h:Is l)(hm:l.length<=256):aS (dm l) l.length=(l,0):=by
 obtain⟨c,hc,e⟩:=jR l 4;unfold dm;rw[e];exact Db hc h hm
theorem iT{l:List Int}(h:Is l)(hm:l.length<=256):(dm l).length<=5131/\Bs (dm l):=by
 obtain⟨c,hc,e⟩:=jR l 4;obtain⟨h1,h2⟩:=eK c h hm;unfold dm;rw[e];refine⟨by simp only[YI];omega,fun x hx=>?_⟩;rcases YQ.1 hx with rfl | hx
 ·omega
 ·exact h2 x hx
def cnt(l:List Int):List Nat:=uv (dm l).length++dm l
def GY(b:List Nat)(n:Int):Option (List Int×List Nat) :=
 if (gt b).2.2=0/\(gt b).1<=b.length-(gt b).2.1 then
  (if (aS ((b.drop (gt b).2.1).take (gt b).1) n).2=0 then some ((aS ((b.drop (gt b).2.1).take (gt b).1) n).1,b.drop ((gt b).2.1+(gt b).1)) else none)
 else none
theorem zO{l:List Int}(h:Is l)(hm:l.length<=256)(r:List Nat):GY (cnt l++r) l.length=some (l,r):=by
 have hs:=(iT h hm).1
 have hg:gt (cnt l++r)=((dm l).length,(uv (dm l).length).length,0):=by
  unfold cnt;rw[YR];exact kP _ (by omega) _
 have hd:(cnt l++r).drop (uv (dm l).length).length=dm l++r:=by
  unfold cnt;rw[YR,Zn]
 have hd2:(cnt l++r).drop ((uv (dm l).length).length+(dm l).length)=r:=by
  rw[← jan,hd,Zn]
 have hb:=iS h hm;unfold GY;rw[hg];simp only;rw[hd,hd2,ZB,hb,Yy,Yy rfl];refine⟨trivial,?_⟩;unfold cnt;simp only[YC];omega
def gh(l:List (List Nat)):List Int:=l.map fun s=>(s.length:Int)
def iw(l:List (List Nat)):List Nat:=cnt (gh l)++l.flatten
def zP:List Nat->List Int->Option (List (List Nat)×List Nat)
 | b,[]=>some ([],b)
 | b,s::t=>if s<0∨(b.length:Int)<s then none else (zP (b.drop s.toNat) t).map fun p=>(b.take s.toNat::p.1,p.2)
theorem qo(r:List Nat):∀ l:List (List Nat),zP (l.flatten++r) (gh l)=some (l,r)
 | []=>rfl
 | s::t=>by
  have ih:=qo r t;have e:(s::t).flatten++r=s++(t.flatten++r):=by simp[YR]
  rw[e];unfold gh at ih ⊢;simp only[Zh,zP];rw[Yx (by simp only[YC];omega),Ze,Zn,ZB,ih];rfl
def mL(x:List Nat):List (List Nat)->List (List Nat)
 | []=>[x]
 | y::t=>if x=y then y::t else if x<y then x::y::t else y::mL x t
def tuq(l:List (List Nat)):List (List Nat):=l.foldl (fun u x=>mL x u) []
def sy(l:List (List Nat)):Prop:=l.Pairwise (· < ·)
theorem tF{x z:List Nat}:∀{u:List (List Nat)},z∈mL x u↔z=x∨z∈u
 | []=>by simp[mL]
 | y::t=>by
  have ih:=tF (x:=x) (z:=z) (u:=t);unfold mL;split
  ·next h =>
   subst h;simp
  ·split
   ·simp
   ·simp only[YQ,ih]
    constructor
    ·rintro(h | h | h)
     ·exact Or.inr (Or.inl h)
     ·exact Or.inl h
     ·exact Or.inr (Or.inr h)
    ·rintro(h | h | h)
     ·exact Or.inr (Or.inl h)
     ·exact Or.inl h
     ·exact Or.inr (Or.inr h)
theorem qp{x y z:List Nat}(h1:x<y)(h2:y<z):x<z:=List.lt_trans h1 h2
theorem GZ{x y:List Nat}(h1:x≠y)(h2:¬ x<y):y<x:=by
 have h3:y<=x:=h2;rcases List.le_iff_lt_or_eq.1 h3 with h | h
 ·exact h
 ·exact absurd h.symm h1
theorem rt{x:List Nat}:∀{u:List (List Nat)},sy u->sy (mL x u)
 | [],_=>by simp[mL,sy]
 | y::t,h=>by
  have h1:(∀ z∈t,y<z)/\sy t:=ZH.1 h;unfold mL;split
  ·exact h
  ·next fb =>
   split
   ·next ar =>
    refine ZH.2 ⟨fun z hz=>?_,h⟩;rcases YQ.1 hz with rfl | hz
    ·exact ar
    ·exact qp ar (h1.1 z hz)
   ·next ar =>
    refine ZH.2 ⟨fun z hz=>?_,rt h1.2⟩;rcases tF.1 hz with rfl | hz
    ·exact GZ fb ar
    ·exact h1.1 z hz
theorem tG:∀(l u:List (List Nat)),sy u->sy (l.foldl (fun u x=>mL x u) u)/\∀ z,z∈l.foldl (fun u x=>mL x u) u↔z∈u∨z∈l
 | [],u,h=>⟨h,fun z=>by simp⟩
 | x::t,u,h=>by
  obtain⟨h1,h2⟩:=tG t (mL x u) (rt h);refine⟨h1,fun z=>?_⟩;rw[List.foldl_cons,h2,tF,YQ];constructor
  ·rintro((h | h) | h)
   ·exact Or.inr (Or.inl h)
   ·exact Or.inl h
   ·exact Or.inr (Or.inr h)
  ·rintro(h | h | h)
   ·exact Or.inl (Or.inr h)
   ·exact Or.inl (Or.inl h)
   ·exact Or.inr h
theorem tH(l:List (List Nat)):sy (tuq l):=(tG l [] List.Pairwise.nil).1
theorem oM{l:List (List Nat)}{z:List Nat}:z∈tuq l↔z∈l:=by
 unfold tuq;rw[(tG l [] List.Pairwise.nil).2];simp
theorem ru:∀{u v:List (List Nat)},sy u->sy v->(∀ z,z∈u↔z∈v)->u=v
 | [],[],_,_,_=>rfl
 | [],y::t,_,_,h=>absurd ((h y).2 (by simp)) (by simp)
 | x::s,[],_,_,h=>absurd ((h x).1 (by simp)) (by simp)
 | x::s,y::t,hu,hv,h=>by
  obtain⟨a1,a2⟩:=ZH.1 hu;obtain⟨b1,b2⟩:=ZH.1 hv
  have e:x=y:=by
   rcases YQ.1 ((h x).1 (by simp))with e | e
   ·exact e
   ·rcases YQ.1 ((h y).2 (by simp))with e2 | e2
    ·exact e2.symm
    ·exact absurd (qp (a1 y e2) (b1 x e)) (List.lt_irrefl x)
  subst e;congr 1
  refine ru a2 b2 fun z=>?_
  constructor
  ·intro hz
   rcases YQ.1 ((h z).1 (ZX _ hz))with e | e
   ·subst e
    exact absurd (a1 z hz) (List.lt_irrefl z)
   ·exact e
  ·intro hz
   rcases YQ.1 ((h z).2 (ZX _ hz))with e | e
   ·subst e
    exact absurd (b1 z hz) (List.lt_irrefl z)
   ·exact e
theorem rx{x:List Nat}:∀{u:List (List Nat)},(mL x u).length<=u.length+1
 | []=>by simp[mL]
 | y::t=>by
  have:=rx (x:=x) (u:=t);unfold mL;split
  ·simp
  ·split
   ·simp
   ·simp only[YI]
    omega
theorem lv:∀(l u:List (List Nat)),(l.foldl (fun u x=>mL x u) u).length<=u.length+l.length
 | [],u=>by simp
 | x::t,u=>by
  have h1:=lv t (mL x u);have h2:=rx (x:=x) (u:=u);rw[List.foldl_cons,YI];omega
theorem jh(l:List (List Nat)):(tuq l).length<=l.length:=by
 have:=lv l [];simpa [tuq]using this
def plT:List (List Nat)->List Nat->Nat
 | [],_=>0
 | y::t,x=>if y=x then 0 else plT t x+1
theorem mo{x:List Nat}:∀{u:List (List Nat)},x∈u->plT u x<u.length/\u[plT u x]?=some x
 | [],h=>by simp at h
 | y::t,h=>by
  unfold plT;split
  ·next e=>exact⟨by simp,by simp[e]⟩
  ·next e =>
   rcases YQ.1 h with rfl | h
   ·exact absurd rfl e
   ·obtain⟨h1,h2⟩:=mo h
    exact⟨by simp only[YI];omega,by simpa using h2⟩
def dR(l:List (List Nat)):List Int:=l.map fun s=>(plT (tuq l) s:Int)
def plain(l:List (List Nat)):List Nat:=0::iw l
def eV(l:List (List Nat)):List Nat:=1::(uv (tuq l).length++(iw (tuq l)++dm (dR l)))
def fE(l:List (List Nat)):List Nat:=if (eV l).length<(plain l).length then eV l else plain l
def Mg(u:List (List Nat))(p:List Int):Option (List (List Nat)):=if ∀ q∈p,0<=q/\q<(u.length:Int) then some (p.map fun q=>u.getD q.toNat []) else none
def kS(b:List Nat)(n:Nat):Option (List (List Nat)) :=
 match b with
 | []=>none
 | x::t =>
  if x=0 then ((GY t n).bind fun p=>zP p.2 p.1).map (·.1)
  else if x=1 then
   (if (gt t).2.2=0/\(gt t).1<=n then
    (GY (t.drop (gt t).2.1) (gt t).1).bind fun p=>(zP p.2 p.1).bind fun q=>if (aS q.2 n).2=0 then Mg q.1 (aS q.2 n).1 else none
   else none)
  else none
def Ts(l:List (List Nat)):Prop:=∀ s∈l,s.length<=64/\Bs s
theorem bK(l:List (List Nat)):(gh l).length=l.length:=YD _
theorem iU{l:List (List Nat)}(h:Ts l):Is (gh l):=fun x hx=>by
 obtain⟨s,hs,rfl⟩:=YS.1 hx;have:=(h s hs).1;unfold I64;omega
theorem qq{l:List (List Nat)}(h:Ts l):Ts (tuq l):=fun s hs=>h s (oM.1 hs)
theorem cZ(l:List (List Nat)):(dR l).length=l.length:=YD _
theorem nE{l:List (List Nat)}:∀ q∈dR l,0<=q/\q<((tuq l).length:Int):=fun q hq=>by
 obtain⟨s,hs,rfl⟩:=YS.1 hq;have:=(mo (oM.2 hs)).1;omega
theorem ia{l:List (List Nat)}(hm:l.length<=256):Is (dR l):=fun q hq=>by
 have h1:=nE q hq;have h2:=jh l;unfold I64;omega
theorem oN(l:List (List Nat)):(dR l).map (fun q=>(tuq l).getD q.toNat [])=l:=by
 unfold dR;rw[Zk];conv=>rhs;rw[← ZE l]
 apply ZK
 intro s hs;have h2:=(mo (oM.2 hs)).2;simp only[Function.comp,Ze,id];rw[List.getD_eq_getElem?_getD,h2];rfl
theorem Dc{l:List (List Nat)}(h:Ts l)(hm:l.length<=256)(r:List Nat):kS (plain l++r) l.length=some l:=by
 unfold plain iw;simp only[Zv,kS,Yy];have h1:=zO (iU h) (by rw[bK];exact hm) (l.flatten++r);rw[bK]at h1;rw[YR,h1];simp only[Option.bind_some,qo,ZU]
theorem zQ{l:List (List Nat)}(h:Ts l)(hm:l.length<=256):kS (eV l) l.length=some l:=by
 have hu:=jh l;unfold eV iw;have h0:=kP (tuq l).length (by omega) (cnt (gh (tuq l))++(tuq l).flatten++dm (dR l));have h1:=zO (iU (qq h)) (by rw[bK];omega) ((tuq l).flatten++dm (dR l));rw[bK]at h1;have h2:=iS (ia hm) (by rw[cZ];exact hm);rw[cZ]at h2;simp only[kS,show (1:Nat)≠0 from by omega,if_false,if_true,h0,Zn];rw[Yy ⟨trivial,hu⟩,YR,h1];simp only[Option.bind_some,qo,h2,if_true];unfold Mg;rw[Yy nE,oN]
theorem Dd{l:List (List Nat)}(h:Ts l)(hm:l.length<=256):kS (fE l) l.length=some l:=by
 unfold fE;split
 ·exact zQ h hm
 ·have:=Dc h hm []
  rwa[YZ]at this
theorem mq:∀{l:List (List Nat)},Ts l->l.flatten.length<=64*l.length/\Bs l.flatten
 | [],_=>⟨by simp,fun x hx=>by simp at hx⟩
 | s::t,h=>by
  obtain⟨h1,h2⟩:=mq (l:=t) fun x hx=>h x (ZX _ hx)
  obtain⟨h3,h4⟩:=h s (by simp);refine⟨?_,?_⟩
  ·rw[jab,YC,YI]
   omega
  ·rw[jab]
   exact h4.append h2
theorem qr{l:List (List Nat)}(h:Ts l)(hm:l.length<=256):(iw l).length<=21525/\Bs (iw l):=by
 obtain⟨a1,a2⟩:=iT (iU h) (by rw[bK];exact hm);obtain⟨b1,b2⟩:=mq h;have sO:=cC (n:=(dm (gh l)).length) (by omega);unfold iw cnt;refine⟨?_,Bs.append (Bs.append fM a2) b2⟩;simp only[YC];omega
theorem tI{l:List (List Nat)}(h:Ts l)(hm:l.length<=256):(fE l).length<=21526/\Bs (fE l):=by
 obtain⟨a1,a2⟩:=qr h hm;have hp:(plain l).length<=21526:=by unfold plain;simp only[YI];omega
 unfold fE;split
 ·next ar =>
  refine⟨by omega,?_⟩;obtain⟨b1,b2⟩:=qr (qq h) (YG (jh l) hm);obtain⟨c1,c2⟩:=iT (ia hm) (by rw[cZ];exact hm);intro x hx;unfold eV at hx;rcases YQ.1 hx with rfl | hx
  ·omega
  ·exact(Bs.append fM (Bs.append b2 c2)) x hx
 ·refine⟨hp,fun x hx=>?_⟩
  unfold plain at hx;rcases YQ.1 hx with rfl | hx
  ·omega
  ·exact a2 x hx
def fN(k:Nat)(c:Nat×Int×List Nat):Prop :=
 c=nul∨(k=1/\∃ n,c=(1,n,[])/\I64 n)∨(k=2/\∃ n:Nat,c=(2,(n:Int),[])/\n<2)∨(k=3/\∃ s,c=(3,0,s)/\s.length<=64/\Bs s)
def Col(k:Nat)(l:List (Nat×Int×List Nat)):Prop:=(1<=k/\k<=3)/\l.length<=256/\∀ c∈l,fN k c
def cD(l:List (Nat×Int×List Nat)):List Nat:=l.map fun c=>if c.1=0 then 0 else 1
def bH(l:List (Nat×Int×List Nat)):List (Nat×Int×List Nat):=l.filter fun c=>c.1 != 0
def iD(l:List (Nat×Int×List Nat)):List Nat:=if 0∈cD l then 1::aY (cD l) 1 else [0]
def iE(k:Nat)(l:List (Nat×Int×List Nat)):List Nat :=
 if k=1 then dm ((bH l).map fun c=>c.2.1) else if k=2 then aY ((bH l).map fun c=>c.2.1.toNat) 1 else fE ((bH l).map fun c=>c.2.2)
def dS(k:Nat)(l:List (Nat×Int×List Nat)):List Nat:=iD l++iE k l
def fO:List Nat->List (Nat×Int×List Nat)->List (Nat×Int×List Nat)
 | [],_=>[]
 | x::t,o=>if x=0 then nul::fO t o else o.headD nul::fO t o.tail
theorem aT(l:List (Nat×Int×List Nat)):(cD l).length=l.length:=YD _
theorem mr:∀ l:List (Nat×Int×List Nat),(cD l).sum=(bH l).length
 | []=>rfl
 | c::t=>by
  have ih:=mr t;unfold cD bH at ih ⊢;by_cases h:c.1=0
  ·simp[h,ih]
  ·simp[h,ih]
   omega
theorem ib(l:List (Nat×Int×List Nat)):(bH l).length<=l.length:=jao _ _
theorem nF{k:Nat}:∀{l:List (Nat×Int×List Nat)},(∀ c∈l,fN k c)->fO (cD l) (bH l)=l
 | [],_=>rfl
 | c::t,h=>by
  have ih:=nF (k:=k) (l:=t) fun x hx=>h x (ZX _ hx)
  have hc:=h c (by simp);unfold cD bH at ih ⊢;by_cases h0:c.1=0
  ·have e:c=nul:=by
    rcases hc with e | ⟨_,n,e,_⟩ | ⟨_,n,e,_⟩ | ⟨_,s,e,_⟩
    ·exact e
    ·rw[e]at h0;simp at h0
    ·rw[e]at h0;simp at h0
    ·rw[e]at h0;simp at h0
   subst e;simp[fO,nul]at ih ⊢
   exact ih
  ·simp[fO,h0]at ih ⊢
   exact ih
theorem ji{l:List (Nat×Int×List Nat)}{c:Nat×Int×List Nat}(h:c∈bH l):c∈l/\c.1≠0:=by
 unfold bH at h;have:=jaz.1 h;exact⟨this.1,by simpa using this.2⟩
theorem kz{l:List (Nat×Int×List Nat)}(h:∀ c∈l,fN 1 c):Is ((bH l).map fun c=>c.2.1)/\((bH l).map fun c=>c.2.1).map (fun x=>((1,x,[]):Nat×Int×List Nat))=bH l:=by
 have key:∀ c∈bH l,∃ n,c=(1,n,[])/\I64 n:=fun c hc=>by
  obtain⟨h1,h2⟩:=ji hc;rcases h c h1 with e | ⟨_,n,e,hn⟩ | ⟨e,_⟩ | ⟨e,_⟩
  ·rw[e]at h2;exact absurd rfl h2
  ·exact⟨n,e,hn⟩
  ·omega
  ·omega
 refine⟨fun x hx=>?_,?_⟩
 ·obtain⟨c,hc,rfl⟩:=YS.1 hx
  obtain⟨n,rfl,hn⟩:=key c hc;exact hn
 ·rw[Zk]
  conv=>rhs;rw[← ZE (bH l)]
  apply ZK
  intro c hc;obtain⟨n,rfl,hn⟩:=key c hc;rfl
theorem ic{l:List (Nat×Int×List Nat)}(h:∀ c∈l,fN 2 c):(∀ x∈(bH l).map fun c=>c.2.1.toNat,x<2)/\((bH l).map fun c=>c.2.1.toNat).map (fun(x:Nat)=>((2,(x:Int),[]):Nat×Int×List Nat))=bH l:=by
 have key:∀ c∈bH l,∃ n:Nat,c=(2,(n:Int),[])/\n<2:=fun c hc=>by
  obtain⟨h1,h2⟩:=ji hc;rcases h c h1 with e | ⟨e,_⟩ | ⟨_,n,e,hn⟩ | ⟨e,_⟩
  ·rw[e]at h2;exact absurd rfl h2
  ·omega
  ·exact⟨n,e,hn⟩
  ·omega
 refine⟨fun x hx=>?_,?_⟩
 ·obtain⟨c,hc,rfl⟩:=YS.1 hx
  obtain⟨n,rfl,hn⟩:=key c hc;simpa using hn
 ·rw[Zk]
  conv=>rhs;rw[← ZE (bH l)]
  apply ZK
  intro c hc;obtain⟨n,rfl,hn⟩:=key c hc;rfl
theorem jj{l:List (Nat×Int×List Nat)}(h:∀ c∈l,fN 3 c):Ts ((bH l).map fun c=>c.2.2)/\((bH l).map fun c=>c.2.2).map (fun s=>((3,0,s):Nat×Int×List Nat))=bH l:=by
 have key:∀ c∈bH l,∃ s,c=(3,0,s)/\s.length<=64/\Bs s:=fun c hc=>by
  obtain⟨h1,h2⟩:=ji hc;rcases h c h1 with e | ⟨e,_⟩ | ⟨e,_⟩ | ⟨_,s,e,hs⟩
  ·rw[e]at h2;exact absurd rfl h2
  ·omega
  ·omega
  ·exact⟨s,e,hs⟩
 refine⟨fun x hx=>?_,?_⟩
 ·obtain⟨c,hc,rfl⟩:=YS.1 hx
  obtain⟨n,rfl,hn⟩:=key c hc;exact hn
 ·rw[Zk]
  conv=>rhs;rw[← ZE (bH l)]
  apply ZK
  intro c hc;obtain⟨n,rfl,hn⟩:=key c hc;rfl
def wC(b:List Nat)(n:Nat):Option (List Nat×List Nat) :=
 match b with
 | []=>none
 | x::t=>if x=0 then some (List.replicate n 1,t) else if x=1 then
   (if by8 n<=t.length/\unE (t.take (by8 n)) n 1=0 then some (unR (t.take (by8 n)) n 1,t.drop (by8 n)) else none) else none
def De(k:Nat)(b:List Nat)(n:Nat):Option (List (Nat×Int×List Nat)) :=
 if k=1 then (if (aS b n).2=0 then some ((aS b n).1.map fun x=>(1,x,[])) else none)
 else if k=2 then (if unE b n 1=0 then some ((unR b n 1).map fun(x:Nat)=>(2,(x:Int),[])) else none)
 else (kS b n).map fun l=>l.map fun s=>(3,0,s)
def RX(k:Nat)(b:List Nat)(n:Nat):Option (List (Nat×Int×List Nat)) :=
 (wC b n).bind fun p=>(De k p.2 p.1.sum).map (fO p.1)
theorem zR{l:List Nat}(h:∀ x∈l,x<2)(hm:l.length<=256):can l ((1:Nat):Int)=true:=CZ hm (by omega) (rr.2 (by simpa using h))
theorem ms{l:List Nat}(h:∀ x∈l,x<2)(hm:l.length<=256):unE (aY l 1) l.length 1=0/\unR (aY l 1) l.length 1=l:=by
 have:=zI (zR h hm);rwa[show ((1:Nat):Int)=1 from rfl]at this
theorem dM{l:List Nat}(h:∀ x∈l,x<2)(hm:l.length<=256):(aY l 1).length=by8 l.length:=by
 have:=kQ (zR h hm);rwa[Nat.mul_one]at this
theorem eg(l:List (Nat×Int×List Nat)):∀ x∈cD l,x<2:=fun x hx=>by
 obtain⟨c,_,rfl⟩:=YS.1 hx;split<;>omega
theorem tJ{l:List (Nat×Int×List Nat)}(h:¬ 0∈cD l):cD l=List.replicate l.length 1:=by
 rw[List.eq_replicate_iff];refine⟨aT l,fun x hx=>?_⟩;have h1:=eg l x hx;have h2:x≠0:=fun e=>h (e ▸ hx)
 omega
theorem Ha{l:List (Nat×Int×List Nat)}(hm:l.length<=256)(r:List Nat):wC (iD l++r) l.length=some (cD l,r):=by
 unfold iD;split
 ·have hl:=dM (eg l) (by rw[aT];exact hm)
  rw[aT]at hl;have hb:=ms (eg l) (by rw[aT];exact hm);rw[aT]at hb;have ht:(aY (cD l) 1++r).take (by8 l.length)=aY (cD l) 1:=by rw[← hl,ZB]
  have hd:(aY (cD l) 1++r).drop (by8 l.length)=r:=by rw[← hl,Zn]
  simp only[Zv,wC,show (1:Nat)≠0 from by omega,if_false,if_true,ht,hd];rw[Yy]
  ·rw[hb.2]
  ·exact⟨by simp only[YC];omega,hb.1⟩
 ·next h =>
  rw[tJ h];rfl
theorem Hb{k:Nat}{l:List (Nat×Int×List Nat)}(h:Col k l):De k (iE k l) (bH l).length=some (bH l):=by
 obtain⟨hk,hm,hc⟩:=h;have ho:=ib l;obtain rfl | rfl | rfl:k=1∨k=2∨k=3:=by omega
 ·obtain⟨h1,h2⟩:=kz hc
  have hb:=iS h1 (by rw[YD];omega);rw[YD]at hb;simp only[De,iE,if_true,hb];rw[h2]
 ·obtain⟨h1,h2⟩:=ic hc
  have hb:=ms h1 (by rw[YD];omega);rw[YD]at hb;simp only[De,iE,if_true,if_false,show (2:Nat)≠1 from by omega];rw[Yy hb.1];rw[hb.2,h2]
 ·obtain⟨h1,h2⟩:=jj hc
  have hb:=Dd h1 (by rw[YD];omega);rw[YD]at hb;simp only[De,iE,if_false,show (3:Nat)≠1 from by omega,show (3:Nat)≠2 from by omega,hb,ZU];rw[h2]
theorem Mh{k:Nat}{l:List (Nat×Int×List Nat)}(h:Col k l):RX k (dS k l) l.length=some l:=by
 unfold RX dS;rw[Ha h.2.1,Option.bind_some];simp only;rw[mr,Hb h,ZU,nF h.2.2]
theorem wD{l:List (Nat×Int×List Nat)}(hm:l.length<=256):(iD l).length<=33/\Bs (iD l):=by
 unfold iD;split
 ·have hl:=dM (eg l) (by rw[aT];exact hm)
  rw[aT]at hl;refine⟨?_,fun x hx=>?_⟩
  ·rw[YI,hl]
   unfold by8;omega
  ·rcases YQ.1 hx with rfl | hx
   ·omega
   ·exact oH x hx
 ·exact⟨by simp,fun x hx=>by simp at hx;omega⟩
theorem yb(l:List (Nat×Int×List Nat)):iE 1 l=dm ((bH l).map fun c=>c.2.1):=Yy rfl
theorem yc(l:List (Nat×Int×List Nat)):iE 2 l=aY ((bH l).map fun c=>c.2.1.toNat) 1:=(Yx (by omega)).trans (Yy rfl)
theorem yd(l:List (Nat×Int×List Nat)):iE 3 l=fE ((bH l).map fun c=>c.2.2):=(Yx (by omega)).trans (Yx (by omega))
theorem Hc{k:Nat}{l:List (Nat×Int×List Nat)}(h:Col k l):(iE k l).length<=21526/\Bs (iE k l):=by
 obtain⟨hk,hm,hc⟩:=h;have ho:=ib l;obtain rfl | rfl | rfl:k=1∨k=2∨k=3:=by omega
 ·obtain⟨b1,b2⟩:=iT (kz hc).1 (by rw[YD];omega)
  rw[yb];exact⟨by omega,b2⟩
 ·have hl:=dM (ic hc).1 (by rw[YD];omega)
  rw[YD]at hl;rw[yc];refine⟨?_,oH⟩;rw[hl];unfold by8;omega
 ·have hw:=tI (jj hc).1 (by rw[YD];omega)
  rw[yd];exact hw
theorem ie{k:Nat}{l:List (Nat×Int×List Nat)}(h:Col k l):(dS k l).length<=21600/\Bs (dS k l):=by
 obtain⟨a1,a2⟩:=wD h.2.1;obtain⟨b1,b2⟩:=Hc h;unfold dS;refine⟨?_,a2.append b2⟩;rw[YC];omega
theorem zS(l:List (Nat×Int×List Nat)):bH (bH l)=bH l:=by
 unfold bH;rw[List.filter_filter];simp
def zT(k:Nat)(c:Nat×Int×List Nat):Prop :=
 c=nul∨(k=1/\∃ n,c=(1,n,[])/\I64 n)∨(k=2/\∃ n:Nat,c=(2,(n:Int),[])/\n<2)∨(k=3/\∃ s,c=(3,0,s)/\Bs s)
theorem zT.short{k:Nat}{c:Nat×Int×List Nat}(h:zT k c)(hs:c.2.2.length<=64):fN k c:=by
 rcases h with h | h | h | ⟨h1,s,rfl,h2⟩
 ·exact Or.inl h
 ·exact Or.inr (Or.inl h)
 ·exact Or.inr (Or.inr (Or.inl h))
 ·exact Or.inr (Or.inr (Or.inr ⟨h1,s,rfl,hs,h2⟩))
theorem fN.short{k:Nat}{c:Nat×Int×List Nat}(h:fN k c):c.2.2.length<=64:=by
 rcases h with rfl | ⟨_,n,rfl,_⟩ | ⟨_,n,rfl,_⟩ | ⟨_,s,rfl,h,_⟩
 ·simp[nul]
 ·simp
 ·simp
 ·exact h
theorem gM{b:List Nat}{n:Int}(hb:Bs b)(h:(aS b n).2=0):((aS b n).1.length:Int)=n/\Is (aS b n).1:=by
 obtain⟨_,_,c,t,_,_,h1,h2,_⟩:=GX hb (l:=(aS b n).1) (n:=n) (by rw[← h]);exact⟨h1,h2⟩
theorem zU{b r:List Nat}{n:Int}{l:List Int}(hb:Bs b)(h:GY b n=some (l,r)):(l.length:Int)=n/\Is l/\Bs r:=by
 unfold GY at h;split at h
 ·split at h
  ·next h1 =>
   simp only[Option.some.injEq,Prod.mk.injEq]at h;obtain⟨rfl,rfl⟩:=h;have:=gM ((hb.drop _).take _) h1;exact⟨this.1,this.2,hb.drop _⟩
  ·simp at h
 ·simp at h
theorem tK:∀{s:List Int} {b r:List Nat} {l:List (List Nat)},Bs b->zP b s=some (l,r)->l.length=s.length/\(∀ x∈l,Bs x)/\Bs r
 | [],b,r,l,hb,h=>by
  simp only[zP,Option.some.injEq,Prod.mk.injEq]at h;obtain⟨rfl,rfl⟩:=h;exact⟨rfl,fun x hx=>by simp at hx,hb⟩
 | x::t,b,r,l,hb,h=>by
  unfold zP at h;split at h
  ·simp at h
  ·obtain⟨⟨l2,r2⟩,h1,h2⟩:=Option.map_eq_some_iff.1 h
   simp only[Prod.mk.injEq]at h2;obtain⟨rfl,rfl⟩:=h2;obtain⟨a1,a2,a3⟩:=tK (hb.drop _) h1;refine⟨by simp only[YI,a1],fun y hy=>?_,a3⟩;rcases YQ.1 hy with rfl | hy
   ·exact hb.take _
   ·exact a2 y hy
theorem Df{b:List Nat}{n:Nat}{l:List (List Nat)}(hb:Bs b)(h:kS b n=some l):l.length=n/\∀ x∈l,Bs x:=by
 cases b with
 | nil=>simp[kS]at h
 | cons x t =>
  have ht:Bs t:=fun y hy=>hb y (ZX _ hy)
  simp only[kS]at h;split at h
  ·obtain⟨⟨l2,r2⟩,h1,rfl⟩:=Option.map_eq_some_iff.1 h
   obtain⟨⟨s,r⟩,h2,h3⟩:=jaF.1 h1;obtain⟨a1,a2,a3⟩:=zU ht h2;obtain⟨b1,b2,b3⟩:=tK a3 h3;have b4:l2.length=s.length:=b1;exact⟨by show l2.length=n;omega,b2⟩
  ·split at h
   ·split at h
    ·obtain⟨⟨s,r⟩,h2,h3⟩:=jaF.1 h
     obtain⟨⟨u,r2⟩,h4,h5⟩:=jaF.1 h3;obtain⟨a1,a2,a3⟩:=zU (ht.drop _) h2;obtain⟨b1,b2,b3⟩:=tK a3 h4;simp only at h5;split at h5
     ·next h6 =>
      obtain⟨c1,c2⟩:=gM b3 h6;unfold Mg at h5;split at h5
      ·next h7 =>
       cases h5
       refine⟨by rw[YD];omega,fun x hx=>?_⟩;obtain⟨q,hq,rfl⟩:=YS.1 hx;have od:=h7 q hq;have ar:q.toNat<u.length:=(by omega);rw[List.getD_eq_getElem?_getD,List.getElem?_eq_getElem ar];exact b2 _ (YF ar)
      ·simp at h5
     ·simp at h5
    ·simp at h
   ·simp at h
theorem jS{b:List Nat}{n:Nat}(h:unE b n 1=0):(unR b n 1).length=n/\∀ x∈unR b n 1,x<2:=by
 unfold unR;rw[Yy h];refine⟨by rw[cX];simp,fun x hx=>?_⟩;have:=xT hx;simpa using this
theorem Hd{b r th:List Nat}{n:Nat}(hb:Bs b)(h:wC b n=some (th,r)):th.length=n/\(∀ x∈th,x<2)/\Bs r:=by
 cases b with
 | nil=>simp[wC]at h
 | cons x t =>
  have ht:Bs t:=fun y hy=>hb y (ZX _ hy)
  simp only[wC]at h;split at h
  ·simp only[Option.some.injEq,Prod.mk.injEq]at h
   obtain⟨rfl,rfl⟩:=h;exact⟨List.length_replicate,fun y hy=>by have:=jay hy;omega,ht⟩
  ·split at h
   ·split at h
    ·next h1 =>
     simp only[Option.some.injEq,Prod.mk.injEq]at h;obtain⟨rfl,rfl⟩:=h;have:=jS h1.2;exact⟨this.1,this.2,ht.drop _⟩
    ·simp at h
   ·simp at h
theorem Mi{k:Nat}{b:List Nat}{n:Nat}{o:List (Nat×Int×List Nat)}(hk:1<=k/\k<=3)(hb:Bs b)(h:De k b n=some o):o.length=n/\∀ c∈o,zT k c:=by
 unfold De at h;obtain rfl | rfl | rfl:k=1∨k=2∨k=3:=by omega
 ·rw[Yy rfl]at h
  split at h
  ·next h1 =>
   cases h
   obtain⟨a1,a2⟩:=gM hb h1;refine⟨by rw[YD];omega,fun c hc=>?_⟩;obtain⟨x,hx,rfl⟩:=YS.1 hc;exact Or.inr (Or.inl ⟨rfl,x,rfl,a2 x hx⟩)
  ·simp at h
 ·rw[Yx (by omega),Yy rfl]at h
  split at h
  ·next h1 =>
   cases h
   obtain⟨a1,a2⟩:=jS h1;refine⟨by rw[YD];exact a1,fun c hc=>?_⟩;obtain⟨x,hx,rfl⟩:=YS.1 hc;exact Or.inr (Or.inr (Or.inl ⟨rfl,x,rfl,a2 x hx⟩))
  ·simp at h
 ·rw[Yx (by omega),Yx (by omega)]at h
  obtain⟨l,h1,rfl⟩:=Option.map_eq_some_iff.1 h;obtain⟨a1,a2⟩:=Df hb h1;refine⟨by rw[YD];exact a1,fun c hc=>?_⟩;obtain⟨x,hx,rfl⟩:=YS.1 hc;exact Or.inr (Or.inr (Or.inr ⟨rfl,x,rfl,a2 x hx⟩))
theorem mt{P:Nat×Int×List Nat->Prop}(h0:P nul):∀{th:List Nat} {o:List (Nat×Int×List Nat)},(∀ c∈o,P c)->(fO th o).length=th.length/\∀ c∈fO th o,P c
 | [],o,h=>⟨rfl,fun c hc=>by simp[fO]at hc⟩
 | x::t,o,h=>by
  unfold fO;split
  ·obtain⟨a1,a2⟩:=mt h0 (th:=t) h
   refine⟨by simp only[YI,a1],fun c hc=>?_⟩;rcases YQ.1 hc with rfl | hc
   ·exact h0
   ·exact a2 c hc
  ·obtain⟨a1,a2⟩:=mt h0 (th:=t) (o:=o.tail) fun c hc=>h c (List.mem_of_mem_tail hc)
   refine⟨by simp only[YI,a1],fun c hc=>?_⟩;rcases YQ.1 hc with rfl | hc
   ·cases o with
    | nil=>exact h0
    | cons y s=>exact h y (by simp)
   ·exact a2 c hc
theorem Mj{k:Nat}{b:List Nat}{n:Nat}{l:List (Nat×Int×List Nat)}(hk:1<=k/\k<=3)(hb:Bs b)(h:RX k b n=some l):l.length=n/\∀ c∈l,zT k c:=by
 obtain⟨⟨th,r⟩,h1,h2⟩:=jaF.1 h;obtain⟨o,h3,rfl⟩:=Option.map_eq_some_iff.1 h2;obtain⟨a1,a2,a3⟩:=Hd hb h1;obtain⟨b1,b2⟩:=Mi hk a3 h3;obtain⟨c1,c2⟩:=mt (P:=zT k) (Or.inl rfl) (th:=th) b2;exact⟨c1.trans a1,c2⟩
def fh(k:Nat)(b:List Nat)(n:Nat):Option (List (Nat×Int×List Nat)) :=
 (RX k b n).bind fun l=>if (∀ c∈l,c.2.2.length<=64)/\dS k l=b then some l else none
theorem kA{k:Nat}{b:List Nat}{n:Nat}{l:List (Nat×Int×List Nat)}(hk:1<=k/\k<=3)(hn:n<=256)(hb:Bs b):fh k b n=some l↔Col k l/\l.length=n/\dS k l=b:=by
 constructor
 ·intro h
  obtain⟨l2,h1,h2⟩:=jaF.1 h;split at h2
  ·next h3 =>
   cases h2
   obtain⟨a1,a2⟩:=Mj hk hb h1;exact⟨⟨hk,by omega,fun c hc=>(a2 c hc).short (h3.1 c hc)⟩,a1,h3.2⟩
  ·simp at h2
 ·rintro⟨h1,rfl,rfl⟩
  unfold fh;rw[Mh h1,Option.bind_some];simp only;rw[Yy ⟨fun c hc=>(h1.2.2 c hc).short,trivial⟩]
theorem Dg{k:Nat}{l:List (Nat×Int×List Nat)}(h:Col k l):fh k (dS k l) l.length=some l :=
 (kA h.1 h.2.1 (ie h).2).2 ⟨h,rfl,rfl⟩
def eW(k:Nat)(l:List (Nat×Int×List Nat)):List Nat×Nat :=
 if 1<=k/\k<=3/\∀ c∈l,c.1=0∨c.1=k then
  (if l.length<=256/\∀ c∈l,c.2.2.length<=64 then (dS k l,0) else ([],5))
 else ([],10)
theorem fN.kind{k:Nat}{c:Nat×Int×List Nat}(h:fN k c):c.1=0∨c.1=k:=by
 rcases h with rfl | ⟨rfl,n,rfl,_⟩ | ⟨rfl,n,rfl,_⟩ | ⟨rfl,s,rfl,_⟩
 ·exact Or.inl rfl
 ·exact Or.inr rfl
 ·exact Or.inr rfl
 ·exact Or.inr rfl
theorem nG{k:Nat}{l:List (Nat×Int×List Nat)}(h:Col k l):eW k l=(dS k l,0):=by
 unfold eW;rw[Yy ⟨h.1.1,h.1.2,fun c hc=>(h.2.2 c hc).kind⟩,Yy ⟨h.2.1,fun c hc=>(h.2.2 c hc).short⟩]
end Go.Proofs.YtpljdjmpamjkhaaGreatDoor
