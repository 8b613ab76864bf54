/- Numbers and their bytes, no program: what bytes say as a number, and that it undoes the number's bytes. Numbers of few bytes as lists of naturals; readers that go on one behind the other: no program. The five codecs of lists of whole numbers: what they write, how it is read: no program. The unlike numbers of a list, rising, and the places of its numbers among them: no program. The packed codecs, all of them together, and what follows: there and back, cut off, one more, no two forms: no program. What was read has n numbers; no two lists have one form by the first three codecs; the fewest bytes; sizes: no program. Columns as lists of naturals: what is written, and what is read of it, whatever stands behind: no program. Columns of cells (kind, number, text): their bytes; bytes are those of one list of so many values at most: no program. What bytes are read as, as a column: just the values whose bytes they are: no program. -/
import Derived.Test.YtpljdjmpamjkhaaGreatDoorZab
import Derived.Test.YtpljdjmpamjkhaaGreatDoorZae
import Derived.Lib.Zigzag
import Derived.Lib.VarintBits
set_option linter.unusedVariables false
set_option linter.unusedSimpArgs false
namespace Go.Proofs.YtpljdjmpamjkhaaGreatDoor
open Go.Lib
end Go.Proofs.YtpljdjmpamjkhaaGreatDoor
set_option linter.unusedVariables false
namespace Go.Proofs.YtpljdjmpamjkhaaGreatDoor
def pk (w:Nat):List Nat->Nat
 | []=>0
 | n::t=>n+2 ^ w*pk w t
def dig (w:Nat):Nat->Nat->List Nat
 | 0,_=>[]
 | n+1,N=>N % 2 ^ w::dig w n (N / 2 ^ w)
theorem dig_length (w:Nat):∀ n N,(dig w n N).length=n
 | 0,_=>rfl
 | n+1,N=>by simp [dig,dig_length w n]
theorem pow_succ_mul (w n:Nat):2 ^ (w*(n+1))=2 ^ w*2 ^ (w*n):=by
 rw [Nat.mul_add,Nat.mul_one,Nat.add_comm,Nat.pow_add]
theorem pk_dig (w:Nat):∀ n N,pk w (dig w n N)=N % 2 ^ (w*n)
 | 0,N=>by simp [dig,pk,Nat.mod_one]
 | n+1,N=>by
  show N % 2 ^ w+2 ^ w*pk w (dig w n (N / 2 ^ w))=_
  rw [pk_dig w n,pow_succ_mul,Nat.mod_mul]
theorem dig_pk {w:Nat}:∀ {l:List Nat},(∀ x∈l,x<2 ^ w)->dig w l.length (pk w l)=l
 | [],_=>rfl
 | n::t,h=>by
  have hn:=h n (by simp)
  show (n+2 ^ w*pk w t) % 2 ^ w::dig w t.length ((n+2 ^ w*pk w t) / 2 ^ w)=_
  rw [Nat.add_mul_mod_self_left,Nat.mod_eq_of_lt hn,Nat.add_mul_div_left _ _ (Nat.two_pow_pos w),Nat.div_eq_of_lt hn,Nat.zero_add,
   dig_pk (fun x hx=>h x (by simp [hx]))]
theorem pk_lt {w:Nat}:∀ {l:List Nat},(∀ x∈l,x<2 ^ w)->pk w l<2 ^ (w*l.length)
 | [],_=>by simp [pk]
 | n::t,h=>by
  have hn:=h n (by simp)
  have ht:=pk_lt (w:=w) (l:=t) (fun x hx=>h x (by simp [hx]))
  show n+2 ^ w*pk w t<2 ^ (w*(t.length+1))
  rw [pow_succ_mul]
  have:2 ^ w*(pk w t+1)<=2 ^ w*2 ^ (w*t.length):=Nat.mul_le_mul_left _ ht
  rw [Nat.mul_add,Nat.mul_one] at this
  omega
theorem dig_get (w:Nat):∀ n N i,i<n->(dig w n N)[i]?=some (N / 2 ^ (w*i) % 2 ^ w)
 | n+1,N,0,_=>by simp [dig]
 | n+1,N,i+1,h=>by
  show (dig w n (N / 2 ^ w))[i]?=_
  rw [dig_get w n _ i (by omega),Nat.div_div_eq_div_mul,pow_succ_mul]
theorem dig_lt {w x:Nat}:∀ {n N},x∈dig w n N->x<2 ^ w
 | n+1,N,h=>by
  simp only [dig,List.mem_cons] at h
  rcases h with rfl | h
  ·exact Nat.mod_lt _ (Nat.two_pow_pos w)
  ·exact dig_lt h
theorem pk_append (w:Nat):∀ (a b:List Nat),pk w (a++b)=pk w a+2 ^ (w*a.length)*pk w b
 | [],b=>by simp [pk]
 | n::t,b=>by
  show n+2 ^ w*pk w (t++b)=n+2 ^ w*pk w t+2 ^ (w*(t.length+1))*pk w b
  rw [pk_append w t,pow_succ_mul,Nat.mul_add,Nat.mul_assoc,Nat.add_assoc]
theorem pk_take_succ (w:Nat) {l:List Nat} {i:Nat} (h:i<l.length):pk w (l.take (i+1))=pk w (l.take i)+l[i]*2 ^ (w*i):=by
 rw [List.take_succ_eq_append_getElem h,pk_append,List.length_take,Nat.min_eq_left (by omega)]
 simp [pk,Nat.mul_comm]
theorem pk_set (w:Nat):∀ {l:List Nat} {i:Nat} (c:Nat) (h:i<l.length),pk w (l.set i c)+l[i]*2 ^ (w*i)=pk w l+c*2 ^ (w*i)
 | n::t,0,c,_=>by simp [pk];omega
 | n::t,i+1,c,h=>by
  have hi:i<t.length:=by simpa using h
  show n+2 ^ w*pk w (t.set i c)+t[i]*2 ^ (w*(i+1))=n+2 ^ w*pk w t+c*2 ^ (w*(i+1))
  have:=congrArg (2 ^ w*·) (pk_set w (l:=t) (i:=i) c hi)
  simp only [Nat.mul_add] at this
  rw [pow_succ_mul,← Nat.mul_assoc,← Nat.mul_assoc,Nat.mul_comm t[i],Nat.mul_comm c,Nat.mul_assoc,Nat.mul_assoc]
  omega
theorem pk_get {w:Nat} {l:List Nat} (h:∀ x∈l,x<2 ^ w) {i:Nat} (hi:i<l.length):l[i]=pk w l / 2 ^ (w*i) % 2 ^ w:=by
 have h1:=dig_get w l.length (pk w l) i hi
 rw [dig_pk h,List.getElem?_eq_getElem hi] at h1
 exact Option.some.inj h1
theorem pk_zeros (w:Nat):∀ n,pk w (List.replicate n 0)=0
 | 0=>rfl
 | n+1=>by
  show 0+2 ^ w*pk w (List.replicate n 0)=0
  rw [pk_zeros w n];simp
def blen (n:Nat):Nat:=if n=0 then 0 else n.log2+1
theorem blen_le {n w:Nat}:blen n<=w↔n<2 ^ w:=by
 unfold blen
 split
 ·next h=>subst h;simp [Nat.two_pow_pos]
 ·next h=>rw [Nat.add_one_le_iff,Nat.log2_lt h]
theorem blen_half {n:Nat} (h:n≠0):blen n=blen (n / 2)+1:=by
 have e:∀ k,blen (n / 2)<=k↔blen n<=k+1:=fun k=>by
  rw [blen_le,blen_le,Nat.pow_succ,Nat.div_lt_iff_lt_mul (by omega)]
 have h1:=(e (blen (n / 2))).1 (Nat.le_refl _)
 have hp:0<blen n:=by unfold blen;rw [if_neg h];omega
 have h2:=(e (blen n-1)).2 (by omega)
 omega
theorem blen_or (a b:Nat):blen (a ||| b)=max (blen a) (blen b):=by
 have e:∀ k,blen (a ||| b)<=k↔blen a<=k/\blen b<=k:=fun k=>by
  rw [blen_le,blen_le,blen_le]
  constructor
  ·intro h
   exact ⟨Nat.lt_of_le_of_lt Nat.left_le_or h,Nat.lt_of_le_of_lt Nat.right_le_or h⟩
  ·intro h
   exact Nat.or_lt_two_pow h.1 h.2
 have h1:=(e _).1 (Nat.le_refl _)
 have h2:=(e (max (blen a) (blen b))).2 ⟨by omega,by omega⟩
 omega
def orAll (l:List Nat):Nat:=l.foldl (· ||| ·) 0
theorem orAll_take_succ {l:List Nat} {i:Nat} (h:i<l.length):orAll (l.take (i+1))=orAll (l.take i) ||| l[i]:=by
 unfold orAll
 rw [List.take_succ_eq_append_getElem h,List.foldl_append]
 rfl
def wd (l:List Nat):Nat:=blen (orAll l)
theorem wd_take_succ {l:List Nat} {i:Nat} (h:i<l.length):wd (l.take (i+1))=max (wd (l.take i)) (blen l[i]):=by
 unfold wd
 rw [orAll_take_succ h,blen_or]
theorem wd_nil:wd []=0:=by decide
theorem wd_take_le {l:List Nat} {w:Nat}:∀ i,i<=l.length->(wd (l.take i)<=w↔∀ x∈l.take i,x<2 ^ w)
 | 0,_=>by simp [wd_nil]
 | i+1,h=>by
  rw [wd_take_succ (by omega),List.take_succ_eq_append_getElem (by omega)]
  simp only [List.mem_append,List.mem_singleton]
  have ih:=wd_take_le (l:=l) (w:=w) i (by omega)
  constructor
  ·intro h1 x hx
   rcases hx with hx | rfl
   ·exact ih.1 (by omega) x hx
   ·exact blen_le.1 (by omega)
  ·intro h1
   have h2:=ih.2 (fun x hx=>h1 x (Or.inl hx))
   have h3:=blen_le.2 (h1 _ (Or.inr rfl))
   omega
theorem wd_le {l:List Nat} {w:Nat}:wd l<=w↔∀ x∈l,x<2 ^ w:=by
 have:=wd_take_le (l:=l) (w:=w) l.length (Nat.le_refl _)
 rwa [List.take_length] at this
theorem wd64 {l:List Nat} (h:∀ x∈l,x<18446744073709551616):wd l<=64:=wd_le.2 h
theorem or64 {l:List Nat} (h:∀ x∈l,x<18446744073709551616) (i:Nat):orAll (l.take i)<18446744073709551616:=by
 have h1:wd (l.take i)<=64:=wd64 (fun x hx=>h x (List.mem_of_mem_take hx))
 exact blen_le.1 h1
def by8 (c:Nat):Nat:=(c+7) / 8
def can (l:List Nat) (w:Int):Bool:=decide (0<=w/\w<=64/\l.length<=256/\wd l<=w.toNat)
def packR (l:List Nat) (w:Int):List Nat:=if can l w then dig 8 (by8 (l.length*w.toNat)) (pk w.toNat l) else []
def unE (b:List Nat) (n w:Int):Nat :=
 if 0<=n/\n<=256/\0<=w/\w<=64 then (if b.length=by8 (n.toNat*w.toNat)/\pk 8 b<2 ^ (n.toNat*w.toNat) then 0 else 40) else 1
def unR (b:List Nat) (n w:Int):List Nat:=if unE b n w=0 then dig w.toNat n.toNat (pk 8 b) else []
theorem unR_lt {b:List Nat} {n w:Int}:∀ x∈unR b n w,x<18446744073709551616:=by
 intro x hx
 unfold unR at hx
 split at hx
 ·next h =>
  have h1:=dig_lt hx
  have hw:w.toNat<=64:=by
   unfold unE at h
   split at h
   ·omega
   ·omega
  exact Nat.lt_of_lt_of_le h1 (Nat.pow_le_pow_right (by omega) hw)
 ·simp at hx
theorem packR_lt {l:List Nat} {w:Int}:∀ x∈packR l w,x<256:=by
 intro x hx
 unfold packR at hx
 split at hx
 ·exact dig_lt hx
 ·simp at hx
theorem by8_ge (c:Nat):c<=8*by8 c:=by unfold by8;omega
theorem back_one {l:List Nat} {w:Nat} (h:can l w=true):unE (packR l w) l.length w=0/\unR (packR l w) l.length w=l:=by
 have hc:=h
 unfold can at hc
 simp only [decide_eq_true_eq,Int.toNat_natCast] at hc
 obtain ⟨_,h64,hl,hw⟩:=hc
 have hlt:=wd_le.1 hw
 have hpk:=pk_lt hlt
 have hP:packR l w=dig 8 (by8 (l.length*w)) (pk w l):=by unfold packR;rw [if_pos h];rfl
 have hB:pk 8 (packR l w)=pk w l:=by
  rw [hP,pk_dig,Nat.mod_eq_of_lt]
  refine Nat.lt_of_lt_of_le hpk (Nat.pow_le_pow_right (by omega) ?_)
  have:=by8_ge (l.length*w)
  rw [Nat.mul_comm w]
  exact this
 have hE:unE (packR l w) l.length w=0:=by
  unfold unE
  rw [if_pos ⟨by omega,by omega,by omega,by omega⟩,if_pos]
  simp only [Int.toNat_natCast]
  exact ⟨by rw [hP,dig_length],by rw [hB,Nat.mul_comm];exact hpk⟩
 refine ⟨hE,?_⟩
 unfold unR
 rw [if_pos hE,hB]
 simp only [Int.toNat_natCast]
 exact dig_pk hlt
end Go.Proofs.YtpljdjmpamjkhaaGreatDoor
set_option linter.unusedVariables false
set_option linter.unusedSimpArgs false
namespace Go.Proofs.YtpljdjmpamjkhaaGreatDoor
open Go.Lib
end Go.Proofs.YtpljdjmpamjkhaaGreatDoor
set_option linter.unusedVariables false
set_option linter.unusedSimpArgs false
namespace Go.Proofs.YtpljdjmpamjkhaaGreatDoor
open Go.Lib
def w64 (x:Int):Int:=(x+9223372036854775808) % 18446744073709551616-9223372036854775808
theorem w64_i64 (x:Int):I64 (w64 x):=by unfold w64 I64;omega
theorem w64_id {x:Int} (h:I64 x):w64 x=x:=by unfold I64 at h;unfold w64;omega
theorem w64_back {x last:Int} (h:I64 x):w64 (last+w64 (x-last))=x:=by unfold I64 at h;unfold w64;omega
def enc0:List Int->List Nat
 | []=>[]
 | x::t=>wv x++enc0 t
def rd0:Nat->List Nat->Except Nat (List Int×List Nat)
 | 0,b=>.ok ([],b)
 | n+1,b=>bindR wh (fun x=>bindR (rd0 n) (fun l r=>.ok (x::l,r))) b
theorem reads0:∀ {l:List Int},(∀ x∈l,I64 x)->Reads (rd0 l.length) (enc0 l) l
 | [],_=>Reads.pure []
 | x::t,h=>by
  have ht:=reads0 (l:=t) (fun y hy=>h y (by simp [hy]))
  exact (wh_reads (h x (by simp))).bind (f:=fun x=>bindR (rd0 t.length) (fun l r=>.ok (x::l,r))) (ht.map (x::·))
def enc1:Int->List Int->List Nat
 | _,[]=>[]
 | last,x::t=>wv (w64 (x-last))++enc1 x t
def rd1:Nat->Int->List Nat->Except Nat (List Int×List Nat)
 | 0,_,b=>.ok ([],b)
 | n+1,last,b=>bindR wh (fun d=>bindR (rd1 n (w64 (last+d))) (fun l r=>.ok (w64 (last+d)::l,r))) b
theorem reads1:∀ {l:List Int} (last:Int),(∀ x∈l,I64 x)->Reads (rd1 l.length last) (enc1 last l) l
 | [],_,_=>Reads.pure []
 | x::t,last,h=>by
  have hx:=h x (by simp)
  have ht:=reads1 (l:=t) x (fun y hy=>h y (by simp [hy]))
  refine (wh_reads (w64_i64 (x-last))).bind (f:=fun d=>bindR (rd1 t.length (w64 (last+d))) (fun l r=>.ok (w64 (last+d)::l,r))) ?_
  simp only [w64_back hx]
  exact ht.map (x::·)
def enc2c:Int->Nat->List Int->List Nat
 | x,c,[]=>wv x++uv c
 | x,c,y::t=>if y=x then enc2c x (c+1) t else wv x++uv c++enc2c y 1 t
def enc2:List Int->List Nat
 | []=>[]
 | x::t=>enc2c x 1 t
def rd2:Nat->Nat->List Nat->Except Nat (List Int×List Nat)
 | 0,_,b=>.ok ([],b)
 | f+1,n,b=>if n=0 then .ok ([],b) else bindR wh (fun x=>bindR num (fun k=>if k=0∨n<k then (fun _=>.error 40) else bindR (rd2 f (n-k)) (fun l r=>.ok (List.replicate k x++l,r)))) b
theorem rd2_zero (f:Nat) (b:List Nat):rd2 f 0 b=.ok ([],b):=by
 cases f with
 | zero=>rfl
 | succ f=>unfold rd2;rw [if_pos rfl]
theorem reads2c:∀ {t:List Int} {x:Int} {c f:Nat},(∀ y∈t,I64 y)->I64 x->1<=c->c+t.length<=1000000->t.length+1<=f ->
  Reads (rd2 f (c+t.length)) (enc2c x c t) (List.replicate c x++t)
 | [],x,c,f,_,hx,hc,hm,hf=>by
  obtain ⟨f,rfl⟩:∃ g,f=g+1:=⟨f-1,by simp at hf;omega⟩
  have h1:Reads (fun b=>bindR wh (fun x=>bindR num (fun k=>if k=0∨c<k then (fun _=>.error 40) else bindR (rd2 f (c-k)) (fun l r=>.ok (List.replicate k x++l,r)))) b) (wv x++uv c) (List.replicate c x++[]):=by
   refine (wh_reads hx).bind ?_
   have h2:=(num_reads (n:=c) (by simp at hm;omega)).bind (f:=fun k=>if k=0∨c<k then (fun _=>.error 40) else bindR (rd2 f (c-k)) (fun l r=>.ok (List.replicate k x++l,r))) (e':=[]) (y:=List.replicate c x++[])
    (by
     rw [if_neg (by omega),Nat.sub_self]
     have h3:Reads (rd2 f 0) [] []:=⟨fun r=>rd2_zero f _,fun k h=>by simp at h⟩
     exact h3.map (List.replicate c x++·))
   rwa [List.append_nil] at h2
  have e:rd2 (f+1) (c+([]:List Int).length)=(fun b=>bindR wh (fun x=>bindR num (fun k=>if k=0∨c<k then (fun _=>.error 40) else bindR (rd2 f (c-k)) (fun l r=>.ok (List.replicate k x++l,r)))) b):=by
   funext b
   show (if c=0 then _ else _)=_
   rw [if_neg (by omega)]
   rfl
  rw [e]
  exact h1
 | y::t,x,c,f,ht,hx,hc,hm,hf=>by
  by_cases hxy:y=x
  ·subst hxy
   have:=reads2c (t:=t) (x:=y) (c:=c+1) (f:=f) (fun z hz=>ht z (by simp [hz])) hx (by omega) (by simp at hm;omega) (by simp at hf;omega)
   rw [show enc2c y c (y::t)=enc2c y (c+1) t by rw [enc2c,if_pos rfl],show c+(y::t).length=c+1+t.length by simp;omega]
   rw [show List.replicate c y++y::t=List.replicate (c+1) y++t by rw [List.replicate_succ'];simp]
   exact this
  ·obtain ⟨f,rfl⟩:∃ g,f=g+1:=⟨f-1,by simp at hf;omega⟩
   have ih:=reads2c (t:=t) (x:=y) (c:=1) (f:=f) (fun z hz=>ht z (by simp [hz])) (ht y (by simp)) (by omega) (by simp at hm;omega) (by simp at hf;omega)
   rw [show enc2c x c (y::t)=wv x++uv c++enc2c y 1 t by rw [enc2c,if_neg hxy],List.append_assoc]
   have e:rd2 (f+1) (c+(y::t).length)=(fun b=>bindR wh (fun x=>bindR num (fun k=>if k=0∨c+(y::t).length<k then (fun _=>.error 40) else bindR (rd2 f (c+(y::t).length-k)) (fun l r=>.ok (List.replicate k x++l,r)))) b):=by
    funext b
    rw [rd2,if_neg (by omega)]
   rw [e]
   refine (wh_reads hx).bind ?_
   refine (num_reads (n:=c) (by omega)).bind ?_
   rw [if_neg (by omega),show c+(y::t).length-c=1+t.length by simp;omega]
   exact ih.map (List.replicate c x++·)
theorem reads2 {l:List Int} (h:∀ x∈l,I64 x) (hm:l.length<=1000000):Reads (rd2 l.length l.length) (enc2 l) l:=by
 cases l with
 | nil=>exact Reads.pure []
 | cons x t =>
  have:=reads2c (t:=t) (x:=x) (c:=1) (f:=(x::t).length) (fun z hz=>h z (by simp [hz])) (h x (by simp)) (by omega) (by simp at hm;omega) (by simp)
  rw [show 1+t.length=(x::t).length by simp;omega] at this
  exact this
end Go.Proofs.YtpljdjmpamjkhaaGreatDoor
set_option linter.unusedVariables false
set_option linter.unusedSimpArgs false
namespace Go.Proofs.YtpljdjmpamjkhaaGreatDoor
open Go.Lib
def ins (x:Int):List Int->List Int
 | []=>[x]
 | y::t=>if x=y then y::t else if x<y then x::y::t else y::ins x t
def uniq (l:List Int):List Int:=l.foldl (fun u x=>ins x u) []
def Rising (l:List Int):Prop:=l.Pairwise (· < ·)
theorem mem_ins {x z:Int}:∀ {u:List Int},z∈ins x u↔z=x∨z∈u
 | []=>by simp [ins]
 | y::t=>by
  have ih:=mem_ins (x:=x) (z:=z) (u:=t)
  unfold ins
  split
  ·next h =>
   subst h
   simp
  ·split
   ·simp
   ·simp only [List.mem_cons,ih]
    constructor
    ·rintro (h | h | h)
     ·exact Or.inr (Or.inl h)
     ·exact Or.inl h
     ·exact Or.inr (Or.inr h)
    ·rintro (h | h | h)
     ·exact Or.inr (Or.inl h)
     ·exact Or.inl h
     ·exact Or.inr (Or.inr h)
theorem rising_ins {x:Int}:∀ {u:List Int},Rising u->Rising (ins x u)
 | [],_=>by simp [ins,Rising]
 | y::t,h=>by
  have h1:(∀ z∈t,y<z)/\Rising t:=List.pairwise_cons.1 h
  unfold ins
  split
  ·exact h
  ·next hne =>
   split
   ·next hlt =>
    refine List.pairwise_cons.2 ⟨fun z hz=>?_,h⟩
    rcases List.mem_cons.1 hz with rfl | hz
    ·exact hlt
    ·exact Int.lt_trans hlt (h1.1 z hz)
   ·next hlt =>
    refine List.pairwise_cons.2 ⟨fun z hz=>?_,rising_ins h1.2⟩
    rcases mem_ins.1 hz with rfl | hz
    ·omega
    ·exact h1.1 z hz
theorem uniq_fold:∀ (l u:List Int),Rising u->Rising (l.foldl (fun u x=>ins x u) u)/\∀ z,z∈l.foldl (fun u x=>ins x u) u↔z∈u∨z∈l
 | [],u,h=>⟨h,fun z=>by simp⟩
 | x::t,u,h=>by
  obtain ⟨h1,h2⟩:=uniq_fold t (ins x u) (rising_ins h)
  refine ⟨h1,fun z=>?_⟩
  have:=h2 z
  rw [mem_ins] at this
  simp only [List.foldl_cons,List.mem_cons]
  rw [this]
  constructor
  ·rintro ((h | h) | h)
   ·exact Or.inr (Or.inl h)
   ·exact Or.inl h
   ·exact Or.inr (Or.inr h)
  ·rintro (h | h | h)
   ·exact Or.inl (Or.inr h)
   ·exact Or.inl (Or.inl h)
   ·exact Or.inr h
theorem uniq_rising (l:List Int):Rising (uniq l):=(uniq_fold l [] List.Pairwise.nil).1
theorem mem_uniq {l:List Int} {z:Int}:z∈uniq l↔z∈l:=by
 have:=(uniq_fold l [] List.Pairwise.nil).2 z
 unfold uniq
 rw [this]
 simp
theorem ins_length {x:Int}:∀ {u:List Int},(ins x u).length<=u.length+1
 | []=>by simp [ins]
 | y::t=>by
  have:=ins_length (x:=x) (u:=t)
  unfold ins
  split
  ·simp
  ·split
   ·simp
   ·simp;omega
theorem uniq_fold_length:∀ (l u:List Int),(l.foldl (fun u x=>ins x u) u).length<=u.length+l.length
 | [],u=>by simp
 | x::t,u=>by
  have h1:=uniq_fold_length t (ins x u)
  have h2:=ins_length (x:=x) (u:=u)
  simp only [List.foldl_cons,List.length_cons]
  omega
theorem uniq_length (l:List Int):(uniq l).length<=l.length:=by
 have:=uniq_fold_length l []
 unfold uniq
 simpa using this
theorem uniq_pos {l:List Int} (h:0<l.length):0<(uniq l).length:=by
 have:l[0]∈uniq l:=mem_uniq.2 (List.getElem_mem h)
 exact List.length_pos_of_mem this
theorem uniq_i64 {l:List Int} (h:∀ x∈l,I64 x):∀ x∈uniq l,I64 x:=fun x hx=>h x (mem_uniq.1 hx)
def pl:List Int->Int->Nat
 | [],_=>0
 | y::t,x=>if y=x then 0 else pl t x+1
theorem pl_get {x:Int}:∀ {u:List Int},x∈u->pl u x<u.length/\u[pl u x]?=some x
 | y::t,h=>by
  unfold pl
  split
  ·next e=>subst e;simp
  ·next hne =>
   have ht:x∈t:=by
    rcases List.mem_cons.1 h with rfl | h
    ·exact absurd rfl hne
    ·exact h
   obtain ⟨h1,h2⟩:=pl_get ht
   simp only [List.length_cons,List.getElem?_cons_succ]
   exact ⟨by omega,h2⟩
theorem pl_at:∀ {u:List Int} {i:Nat} (h:i<u.length),Rising u->pl u u[i]=i
 | y::t,0,_,_=>by simp [pl]
 | y::t,i+1,h,hr=>by
  have hi:i<t.length:=by simpa using h
  have h1:(∀ z∈t,y<z)/\Rising t:=List.pairwise_cons.1 hr
  have h2:=h1.1 t[i] (List.getElem_mem hi)
  show pl (y::t) t[i]=i+1
  unfold pl
  rw [if_neg (by omega),pl_at hi h1.2]
def places (l:List Int):List Nat:=l.map (pl (uniq l))
theorem places_length (l:List Int):(places l).length=l.length:=List.length_map _
theorem places_lt {l:List Int}:∀ p∈places l,p<(uniq l).length:=by
 intro p hp
 obtain ⟨x,hx,rfl⟩:=List.mem_map.1 hp
 exact (pl_get (mem_uniq.2 hx)).1
theorem places_top {l:List Int} (h:0<l.length):(uniq l).length-1∈places l:=by
 have hu:=uniq_pos h
 have hi:(uniq l).length-1<(uniq l).length:=by omega
 refine List.mem_map.2 ⟨(uniq l)[(uniq l).length-1],mem_uniq.1 (List.getElem_mem hi),?_⟩
 exact pl_at hi (uniq_rising l)
theorem places_wd {l:List Int} (h:0<l.length):wd (places l)=blen ((uniq l).length-1):=by
 have hu:=uniq_pos h
 have e:∀ w,wd (places l)<=w↔blen ((uniq l).length-1)<=w:=fun w=>by
  rw [wd_le,blen_le]
  constructor
  ·intro h1
   exact h1 _ (places_top h)
  ·intro h1 p hp
   have:=places_lt p hp
   omega
 have h1:=(e _).1 (Nat.le_refl _)
 have h2:=(e _).2 (Nat.le_refl _)
 omega
theorem places_back (l:List Int):(places l).map (fun q=>(uniq l).getD q 0)=l:=by
 unfold places
 rw [List.map_map]
 conv=>rhs;rw [← List.map_id l]
 apply List.map_congr_left
 intro x hx
 have:=(pl_get (mem_uniq.2 hx)).2
 simp [List.getD_eq_getElem?_getD,this]
def least (l:List Int):Int:=(uniq l).headD 0
theorem least_mem {l:List Int} (h:0<l.length):least l∈l:=by
 have hu:=uniq_pos h
 unfold least
 cases hq:uniq l with
 | nil=>rw [hq] at hu;simp at hu
 | cons y t =>
  have:y∈uniq l:=by rw [hq];simp
  exact mem_uniq.1 this
theorem least_le {l:List Int}:∀ x∈l,least l<=x:=by
 intro x hx
 have h1:=mem_uniq.2 hx
 have h2:=uniq_rising l
 unfold least
 cases hq:uniq l with
 | nil=>rw [hq] at h1;simp at h1
 | cons y t =>
  rw [hq] at h1 h2
  have h3:(∀ z∈t,y<z)/\Rising t:=List.pairwise_cons.1 h2
  rcases List.mem_cons.1 h1 with rfl | h1
  ·exact Int.le_refl _
  ·exact Int.le_of_lt (h3.1 x h1)
def mores (l:List Int):List Nat:=l.map fun x=>(x-least l).toNat
theorem mores_length (l:List Int):(mores l).length=l.length:=List.length_map _
theorem mores_lt {l:List Int} (h:∀ x∈l,I64 x):∀ p∈mores l,p<18446744073709551616:=by
 intro p hp
 obtain ⟨x,hx,rfl⟩:=List.mem_map.1 hp
 have h1:=h x hx
 have h2:=h _ (least_mem (List.length_pos_of_mem hx))
 have h3:=least_le x hx
 unfold I64 at h1 h2
 omega
theorem mores_back {l:List Int} (h:∀ x∈l,I64 x):(mores l).map (fun (q:Nat)=>w64 (least l+(q:Int)))=l:=by
 unfold mores
 rw [List.map_map]
 conv=>rhs;rw [← List.map_id l]
 apply List.map_congr_left
 intro x hx
 have h1:=h x hx
 have h3:=least_le x hx
 simp only [Function.comp,id]
 rw [show least l+((x-least l).toNat:Int)=x by omega]
 exact w64_id h1
end Go.Proofs.YtpljdjmpamjkhaaGreatDoor
set_option linter.unusedVariables false
set_option linter.unusedSimpArgs false
namespace Go.Proofs.YtpljdjmpamjkhaaGreatDoor
open Go.Lib
def pkd (n w:Nat) (b:List Nat):Except Nat (List Nat×List Nat) :=
 if b.length<by8 (n*w) then .error 30
 else if by8 (n*w)<b.length then .error 32
 else if unE b n w=0 then .ok (unR b n w,[]) else .error (unE b n w)
theorem can_of {p:List Nat} {w:Nat} (hl:p.length<=256) (hw:w<=64) (hp:wd p<=w):can p w=true:=by
 unfold can
 exact decide_eq_true ⟨by omega,by omega,hl,by omega⟩
theorem packR_length {p:List Nat} {w:Nat} (h:can p w=true):(packR p w).length=by8 (p.length*w):=by
 unfold packR
 rw [if_pos h,dig_length]
 rfl
theorem pkd_ends {p:List Nat} {w:Nat} (hl:p.length<=256) (hw:w<=64) (hp:wd p<=w):Ends (pkd p.length w) (packR p w) p:=by
 have hcan:=can_of hl hw hp
 have hlen:=packR_length hcan
 obtain ⟨h1,h2⟩:=back_one hcan
 refine ⟨?_,fun y r=>Or.inl ?_,fun k hk=>?_⟩
 ·unfold pkd
  rw [if_neg (by omega),if_neg (by omega),if_pos h1,h2]
 ·unfold pkd
  rw [if_neg (by simp;omega),if_pos (by simp;omega)]
 ·unfold pkd
  rw [if_pos (by rw [List.length_take];omega)]
def encD:Int->List Int->List Nat
 | _,[]=>[]
 | last,y::t=>uv (y-last).toNat++encD y t
def encU:List Int->List Nat
 | []=>[]
 | x::t=>wv x++encD x t
def rdU:Nat->Int->List Nat->Except Nat (List Int×List Nat)
 | 0,_,b=>.ok ([],b)
 | m+1,last,b=>bindR num (fun (d:Nat)=>if d=0∨9223372036854775807-last<(d:Int) then (fun _=>.error 40) else bindR (rdU m (last+d)) (fun l r=>.ok ((last+d)::l,r))) b
theorem readsU:∀ {t:List Int} {last:Int},Rising (last::t)->I64 last->(∀ x∈t,I64 x)->Reads (rdU t.length last) (encD last t) t
 | [],_,_,_,_=>Reads.pure []
 | y::t,last,hr,hl,ht=>by
  have h1:(∀ z∈y::t,last<z)/\Rising (y::t):=List.pairwise_cons.1 hr
  have hy:=h1.1 y (by simp)
  have hyi:=ht y (by simp)
  have ih:=readsU (t:=t) (last:=y) h1.2 hyi (fun x hx=>ht x (by simp [hx]))
  unfold I64 at hl hyi
  refine (num_reads (n:=(y-last).toNat) (by omega)).bind (f:=fun (d:Nat)=>if d=0∨9223372036854775807-last<(d:Int) then (fun _=>.error 40) else bindR (rdU t.length (last+d)) (fun l r=>.ok ((last+d)::l,r))) ?_
  rw [if_neg (by omega),show last+((y-last).toNat:Int)=y by omega]
  exact ih.map (y::·)
def enc3 (l:List Int):List Nat:=uv (uniq l).length++(encU (uniq l)++packR (places l) (wd (places l):Int))
def picked (u:List Int) (p r:List Nat):Except Nat (List Int×List Nat):=if ∀ q∈p,q<u.length then .ok (p.map (fun q=>u.getD q 0),r) else .error 40
def rd3 (n:Nat) (b:List Nat):Except Nat (List Int×List Nat) :=
 bindR num (fun many=>if n<many∨many=0/\0<n then (fun _=>.error 40) else if n=0 then (fun r=>.ok ([],r)) else
  bindR wh (fun x=>bindR (rdU (many-1) x) (fun u=>bindR (pkd n (blen (many-1))) (fun p r=>picked (x::u) p r)))) b
theorem Ends.picked {d:List Nat->Except Nat (List Nat×List Nat)} {e p:List Nat} {u:List Int} (h:Ends d e p) (hp:∀ q∈p,q<u.length):Ends (bindR d (picked u)) e (p.map fun q=>u.getD q 0):=by
 have hk:∀ r,YtpljdjmpamjkhaaGreatDoor.picked u p r=.ok (p.map (fun q=>u.getD q 0),r):=fun r=>by unfold YtpljdjmpamjkhaaGreatDoor.picked;rw [if_pos hp]
 refine ⟨by rw [bindR_ok h.1,hk],fun y r=>?_,fun k hk=>bindR_error (h.2.2 k hk)⟩
 rcases h.2.1 y r with h1 | h1
 ·exact Or.inl (bindR_error h1)
 ·exact Or.inr (by rw [bindR_ok h1,hk])
theorem wd_places64 {l:List Int} (hm:l.length<=256):wd (places l)<=64:=by
 refine wd_le.2 (fun p hp=>?_)
 have:=places_lt p hp
 have:=uniq_length l
 have:p<256:=by omega
 exact Nat.lt_of_lt_of_le this (by decide)
theorem ends3 {l:List Int} (h:∀ x∈l,I64 x) (hm:l.length<=256):Ends (rd3 l.length) (enc3 l) l:=by
 have hul:=uniq_length l
 have hpl:=places_length l
 have hwp:=wd_places64 hm
 have hnum:=num_reads (n:=(uniq l).length) (by omega)
 refine hnum.then ?_
 rcases Nat.eq_zero_or_pos l.length with h0 | h0
 ·obtain rfl:l=[]:=List.eq_nil_of_length_eq_zero h0
  rw [if_neg (by simp [uniq]),if_pos (show ([]:List Int).length=0 from rfl)]
  have e:encU (uniq [])++packR (places []) (wd (places []):Int)=[]:=by
   have:packR (places []) (wd (places []):Int)=[]:=by
    have hc:=can_of (p:=places []) (w:=wd (places [])) (by simp [places]) hwp (Nat.le_refl _)
    have h1:=packR_length hc
    refine List.eq_nil_of_length_eq_zero (h1.trans ?_)
    simp [places,by8]
   rw [this]
   simp [uniq,encU]
  rw [e]
  exact (Reads.pure []).ends
 ·have hup:=uniq_pos h0
  rw [if_neg (by omega),if_neg (by omega)]
  have hr:=uniq_rising l
  have hi:=uniq_i64 h
  have hb:=places_back l
  have hlt:=places_lt (l:=l)
  have hwd:=places_wd h0
  generalize places l=p at *
  cases hu:uniq l with
  | nil=>rw [hu] at hup;simp at hup
  | cons x t =>
   rw [hu] at hr hi hb hlt hwd
   have hkd:=pkd_ends (p:=p) (w:=wd p) (by omega) hwp (Nat.le_refl _)
   rw [hpl] at hkd
   rw [show encU (x::t)=wv x++encD x t from rfl,List.append_assoc]
   refine (wh_reads (hi x (by simp))).then ?_
   refine (readsU hr (hi x (by simp)) (fun z hz=>hi z (by simp [hz]))).then (f:=fun u=>bindR (pkd l.length (blen ((x::t).length-1))) (fun p r=>picked (x::u) p r)) ?_
   rw [← hwd]
   have:=hkd.picked (u:=x::t) hlt
   rw [hb] at this
   exact this
def enc4 (l:List Int):List Nat:=if l.length=0 then [] else wv (least l)++(uv (wd (mores l))++packR (mores l) (wd (mores l):Int))
def rd4 (n:Nat) (b:List Nat):Except Nat (List Int×List Nat) :=
 if n=0 then .ok ([],b) else
  bindR wh (fun x=>bindR num (fun w=>if 64<w then (fun _=>.error 40) else bindR (pkd n w) (fun p r=>.ok (p.map (fun (q:Nat)=>w64 (x+(q:Int))),r)))) b
theorem ends4 {l:List Int} (h:∀ x∈l,I64 x) (hm:l.length<=256):Ends (rd4 l.length) (enc4 l) l:=by
 rcases Nat.eq_zero_or_pos l.length with h0 | h0
 ·obtain rfl:l=[]:=List.eq_nil_of_length_eq_zero h0
  exact (Reads.pure ([]:List Int)).ends
 ·have hml:=mores_length l
  have hw:=wd64 (mores_lt h)
  have hkd:=pkd_ends (p:=mores l) (w:=wd (mores l)) (by omega) hw (Nat.le_refl _)
  rw [hml] at hkd
  have hk2:=hkd.map (fun p=>p.map (fun (q:Nat)=>w64 (least l+(q:Int))))
  rw [mores_back h] at hk2
  have hnum:Ends (bindR num (fun w=>if 64<w then (fun _=>.error 40) else bindR (pkd l.length w) (fun p r=>.ok (p.map (fun (q:Nat)=>w64 (least l+(q:Int))),r)))) (uv (wd (mores l))++packR (mores l) (wd (mores l):Int)) l:=by
   refine (num_reads (n:=wd (mores l)) (by omega)).then ?_
   rw [if_neg (by omega)]
   exact hk2
  have hall:=(wh_reads (h _ (least_mem h0))).then (f:=fun x=>bindR num (fun w=>if 64<w then (fun _=>.error 40) else bindR (pkd l.length w) (fun p r=>.ok (p.map (fun (q:Nat)=>w64 (x+(q:Int))),r)))) hnum
  have e1:enc4 l=wv (least l)++(uv (wd (mores l))++packR (mores l) (wd (mores l):Int)):=by unfold enc4;rw [if_neg (by omega)]
  have e2:rd4 l.length=bindR wh (fun x=>bindR num (fun w=>if 64<w then (fun _=>.error 40) else bindR (pkd l.length w) (fun p r=>.ok (p.map (fun (q:Nat)=>w64 (x+(q:Int))),r)))):=by
   funext b
   unfold rd4
   rw [if_neg (by omega)]
  rw [e1,e2]
  exact hall
def encC (c:Nat) (l:List Int):List Nat :=
 match c with
 | 0=>enc0 l
 | 1=>enc1 0 l
 | 2=>enc2 l
 | 3=>enc3 l
 | _=>enc4 l
def rdC (c n:Nat):List Nat->Except Nat (List Int×List Nat) :=
 match c with
 | 0=>rd0 n
 | 1=>rd1 n 0
 | 2=>rd2 n n
 | 3=>rd3 n
 | _=>rd4 n
theorem endsC (c:Nat) {l:List Int} (h:∀ x∈l,I64 x) (hm:l.length<=256):Ends (rdC c l.length) (encC c l) l:=by
 unfold rdC encC
 split
 ·exact (reads0 h).ends
 ·exact (reads1 0 h).ends
 ·exact (reads2 h (by omega)).ends
 ·exact ends3 h hm
 ·exact ends4 h hm
def rdAll (c n:Nat) (b:List Nat):Except Nat (List Int) :=
 match rdC c n b with
 | .error e=>.error e
 | .ok (l,r)=>if r.length=0 then (if encC c l=b then .ok l else .error 40) else .error 32
def readM (b:List Nat) (n:Int):List Int×Nat :=
 if 0<=n/\n<=256 then
  match b with
  | []=>([],30)
  | c::t=>if 4<c then ([],50) else match rdAll c n.toNat t with
   | .ok l=>(l,0)
   | .error e=>([],e)
 else ([],1)
theorem rdAll_back (c:Nat) {l:List Int} (h:∀ x∈l,I64 x) (hm:l.length<=256):rdAll c l.length (encC c l)=.ok l:=by
 unfold rdAll
 rw [(endsC c h hm).1]
 simp
theorem readM_back {c:Nat} (hc:c<=4) {l:List Int} (h:∀ x∈l,I64 x) (hm:l.length<=256):readM (c::encC c l) l.length=(l,0):=by
 unfold readM
 rw [if_pos (by omega)]
 simp only [Int.toNat_natCast]
 rw [if_neg (by omega),rdAll_back c h hm]
end Go.Proofs.YtpljdjmpamjkhaaGreatDoor
set_option linter.unusedVariables false
set_option linter.unusedSimpArgs false
namespace Go.Proofs.YtpljdjmpamjkhaaGreatDoor
open Go.Lib
theorem bindR_inv {α β : Type} {d:List Nat->Except Nat (α×List Nat)} {f:α->List Nat->Except Nat (β×List Nat)} {b r:List Nat} {y:β} (h:bindR d f b=.ok (y,r)) :
  ∃ x q,d b=.ok (x,q)/\f x q=.ok (y,r):=by
 unfold bindR at h
 split at h
 ·next x q e=>exact ⟨x,q,e,h⟩
 ·simp at h
theorem Bs.right {a b:List Nat} (h:Bs (a++b)):Bs b:=fun x hx=>h x (List.mem_append.2 (Or.inr hx))
theorem num_inv {b r:List Nat} {n:Nat} (hb:Bs b) (h:num b=.ok (n,r)):n<18446744073709551616/\Bs r:=by
 obtain ⟨h1,h2⟩:=num_ok hb h
 exact ⟨h1,by rw [h2] at hb;exact hb.right⟩
theorem wh_inv {b r:List Nat} {x:Int} (hb:Bs b) (h:wh b=.ok (x,r)):I64 x/\Bs r:=by
 obtain ⟨h1,h2⟩:=wh_ok hb h
 exact ⟨h1,by rw [h2] at hb;exact hb.right⟩
def Is (l:List Int):Prop:=∀ x∈l,I64 x
theorem Is.cons {x:Int} {l:List Int} (h:I64 x) (hl:Is l):Is (x::l):=fun y hy=>by
 rcases List.mem_cons.1 hy with rfl | hy
 ·exact h
 ·exact hl y hy
theorem rd0_inv:∀ {n:Nat} {b r:List Nat} {l:List Int},Bs b->rd0 n b=.ok (l,r)->l.length=n/\Is l/\Bs r
 | 0,b,r,l,hb,h=>by
  simp only [rd0,Except.ok.injEq,Prod.mk.injEq] at h
  obtain ⟨rfl,rfl⟩:=h
  exact ⟨rfl,fun x hx=>by simp at hx,hb⟩
 | n+1,b,r,l,hb,h=>by
  rw [rd0] at h
  obtain ⟨x,q,h1,h2⟩:=bindR_inv h
  obtain ⟨m,q2,h3,h4⟩:=bindR_inv h2
  obtain ⟨i1,i2⟩:=wh_inv hb h1
  obtain ⟨j1,j2,j3⟩:=rd0_inv i2 h3
  simp only [Except.ok.injEq,Prod.mk.injEq] at h4
  obtain ⟨rfl,rfl⟩:=h4
  exact ⟨by simp [j1],j2.cons i1,j3⟩
theorem rd1_inv:∀ {n:Nat} {last:Int} {b r:List Nat} {l:List Int},Bs b->rd1 n last b=.ok (l,r)->l.length=n/\Is l/\Bs r
 | 0,last,b,r,l,hb,h=>by
  simp only [rd1,Except.ok.injEq,Prod.mk.injEq] at h
  obtain ⟨rfl,rfl⟩:=h
  exact ⟨rfl,fun x hx=>by simp at hx,hb⟩
 | n+1,last,b,r,l,hb,h=>by
  rw [rd1] at h
  obtain ⟨x,q,h1,h2⟩:=bindR_inv h
  obtain ⟨m,q2,h3,h4⟩:=bindR_inv h2
  obtain ⟨i1,i2⟩:=wh_inv hb h1
  obtain ⟨j1,j2,j3⟩:=rd1_inv i2 h3
  simp only [Except.ok.injEq,Prod.mk.injEq] at h4
  obtain ⟨rfl,rfl⟩:=h4
  exact ⟨by simp [j1],j2.cons (w64_i64 _),j3⟩
theorem rd2_inv:∀ {f n:Nat} {b r:List Nat} {l:List Int},n<=f->Bs b->rd2 f n b=.ok (l,r)->l.length=n/\Is l/\Bs r
 | 0,n,b,r,l,hf,hb,h=>by
  simp only [rd2,Except.ok.injEq,Prod.mk.injEq] at h
  obtain ⟨rfl,rfl⟩:=h
  exact ⟨by simp;omega,fun x hx=>by simp at hx,hb⟩
 | f+1,n,b,r,l,hf,hb,h=>by
  rw [rd2] at h
  split at h
  ·simp only [Except.ok.injEq,Prod.mk.injEq] at h
   obtain ⟨rfl,rfl⟩:=h
   exact ⟨by simp;omega,fun x hx=>by simp at hx,hb⟩
  ·obtain ⟨x,q,h1,h2⟩:=bindR_inv h
   obtain ⟨i1,i2⟩:=wh_inv hb h1
   obtain ⟨k,q2,h3,h4⟩:=bindR_inv h2
   obtain ⟨_,i3⟩:=num_inv i2 h3
   split at h4
   ·simp at h4
   ·obtain ⟨m,q3,h5,h6⟩:=bindR_inv h4
    obtain ⟨j1,j2,j3⟩:=rd2_inv (by omega) i3 h5
    simp only [Except.ok.injEq,Prod.mk.injEq] at h6
    obtain ⟨rfl,rfl⟩:=h6
    refine ⟨by simp [j1];omega,fun y hy=>?_,j3⟩
    rcases List.mem_append.1 hy with hy | hy
    ·rw [List.eq_of_mem_replicate hy];exact i1
    ·exact j2 y hy
theorem rdU_inv:∀ {m:Nat} {last:Int} {b r:List Nat} {l:List Int},I64 last->Bs b->rdU m last b=.ok (l,r)->l.length=m/\Is l/\Bs r
 | 0,last,b,r,l,hl,hb,h=>by
  simp only [rdU,Except.ok.injEq,Prod.mk.injEq] at h
  obtain ⟨rfl,rfl⟩:=h
  exact ⟨rfl,fun x hx=>by simp at hx,hb⟩
 | m+1,last,b,r,l,hl,hb,h=>by
  rw [rdU] at h
  obtain ⟨d,q,h1,h2⟩:=bindR_inv h
  obtain ⟨_,i2⟩:=num_inv hb h1
  split at h2
  ·simp at h2
  ·next hd =>
   have hi:I64 (last+d):=by unfold I64 at hl ⊢;omega
   obtain ⟨m',q2,h3,h4⟩:=bindR_inv h2
   obtain ⟨j1,j2,j3⟩:=rdU_inv hi i2 h3
   simp only [Except.ok.injEq,Prod.mk.injEq] at h4
   obtain ⟨rfl,rfl⟩:=h4
   exact ⟨by simp [j1],j2.cons hi,j3⟩
theorem pkd_inv {n w:Nat} {b r p:List Nat} (h:pkd n w b=.ok (p,r)):p.length=n/\r=[]:=by
 unfold pkd at h
 split at h
 ·simp at h
 ·split at h
  ·simp at h
  ·split at h
   ·next hE =>
    simp only [Except.ok.injEq,Prod.mk.injEq] at h
    obtain ⟨rfl,rfl⟩:=h
    refine ⟨?_,rfl⟩
    rw [unR,if_pos hE,dig_length]
    rfl
   ·simp at h
theorem rd3_inv {n:Nat} {b r:List Nat} {l:List Int} (hb:Bs b) (h:rd3 n b=.ok (l,r)):l.length=n/\Is l/\Bs r:=by
 unfold rd3 at h
 obtain ⟨many,q,h1,h2⟩:=bindR_inv h
 obtain ⟨_,i2⟩:=num_inv hb h1
 split at h2
 ·simp at h2
 ·split at h2
  ·simp only [Except.ok.injEq,Prod.mk.injEq] at h2
   obtain ⟨rfl,rfl⟩:=h2
   exact ⟨by simp;omega,fun x hx=>by simp at hx,i2⟩
  ·obtain ⟨x,q2,h3,h4⟩:=bindR_inv h2
   obtain ⟨i3,i4⟩:=wh_inv i2 h3
   obtain ⟨u,q3,h5,h6⟩:=bindR_inv h4
   obtain ⟨j1,j2,j3⟩:=rdU_inv i3 i4 h5
   obtain ⟨p,q4,h7,h8⟩:=bindR_inv h6
   obtain ⟨k1,rfl⟩:=pkd_inv h7
   unfold picked at h8
   split at h8
   ·next hp =>
    simp only [Except.ok.injEq,Prod.mk.injEq] at h8
    obtain ⟨rfl,rfl⟩:=h8
    refine ⟨by simp [k1],fun y hy=>?_,fun y hy=>by simp at hy⟩
    obtain ⟨z,hz,rfl⟩:=List.mem_map.1 hy
    have hlt:=hp z hz
    rw [List.getD_eq_getElem?_getD,List.getElem?_eq_getElem hlt]
    exact (j2.cons i3) _ (List.getElem_mem hlt)
   ·simp at h8
theorem rd4_inv {n:Nat} {b r:List Nat} {l:List Int} (hb:Bs b) (h:rd4 n b=.ok (l,r)):l.length=n/\Is l/\Bs r:=by
 unfold rd4 at h
 split at h
 ·simp only [Except.ok.injEq,Prod.mk.injEq] at h
  obtain ⟨rfl,rfl⟩:=h
  exact ⟨by simp;omega,fun x hx=>by simp at hx,hb⟩
 ·obtain ⟨x,q,h1,h2⟩:=bindR_inv h
  obtain ⟨i1,i2⟩:=wh_inv hb h1
  obtain ⟨w,q2,h3,h4⟩:=bindR_inv h2
  split at h4
  ·simp at h4
  ·obtain ⟨p,q3,h5,h6⟩:=bindR_inv h4
   obtain ⟨k1,rfl⟩:=pkd_inv h5
   simp only [Except.ok.injEq,Prod.mk.injEq] at h6
   obtain ⟨rfl,rfl⟩:=h6
   refine ⟨by simp [k1],fun y hy=>?_,fun y hy=>by simp at hy⟩
   obtain ⟨z,_,rfl⟩:=List.mem_map.1 hy
   exact w64_i64 _
theorem rdC_inv {c n:Nat} {b r:List Nat} {l:List Int} (hb:Bs b) (h:rdC c n b=.ok (l,r)):l.length=n/\Is l/\Bs r:=by
 unfold rdC at h
 split at h
 ·exact rd0_inv hb h
 ·exact rd1_inv hb h
 ·exact rd2_inv (Nat.le_refl _) hb h
 ·exact rd3_inv hb h
 ·exact rd4_inv hb h
theorem rdAll_inv {c n:Nat} {b:List Nat} {l:List Int} (hb:Bs b) (h:rdAll c n b=.ok l):l.length=n/\Is l/\encC c l=b:=by
 unfold rdAll at h
 split at h
 ·simp at h
 ·next l' r e =>
  split at h
  ·split at h
   ·next h2 =>
    simp only [Except.ok.injEq] at h
    subst h
    obtain ⟨h3,h4,_⟩:=rdC_inv hb e
    exact ⟨h3,h4,h2⟩
   ·simp at h
  ·simp at h
theorem bindR_nz {α β : Type} {d:List Nat->Except Nat (α×List Nat)} {f:α->List Nat->Except Nat (β×List Nat)} (h1:∀ b,d b≠.error 0) (h2:∀ x b,f x b≠.error 0) (b:List Nat):bindR d f b≠.error 0:=by
 unfold bindR
 split
 ·exact h2 _ _
 ·next e he =>
  intro h
  simp only [Except.error.injEq] at h
  subst h
  exact h1 b he
theorem num_nz (b:List Nat):num b≠.error 0:=by
 unfold num
 split
 ·simp
 ·next h=>intro e;simp only [Except.error.injEq] at e;exact h e
theorem wh_nz (b:List Nat):wh b≠.error 0:=by
 unfold wh
 split
 ·simp
 ·next h=>intro e;simp only [Except.error.injEq] at e;exact h e
theorem pkd_nz (n w:Nat) (b:List Nat):pkd n w b≠.error 0:=by
 unfold pkd
 split
 ·simp
 ·split
  ·simp
  ·split
   ·simp
   ·next h=>intro e;simp only [Except.error.injEq] at e;exact h e
theorem rd0_nz:∀ (n:Nat) (b:List Nat),rd0 n b≠.error 0
 | 0,b=>by simp [rd0]
 | n+1,b=>bindR_nz wh_nz (fun x=>bindR_nz (rd0_nz n) (fun l r=>by simp)) b
theorem rd1_nz:∀ (n:Nat) (last:Int) (b:List Nat),rd1 n last b≠.error 0
 | 0,last,b=>by simp [rd1]
 | n+1,last,b=>bindR_nz wh_nz (fun d=>bindR_nz (rd1_nz n _) (fun l r=>by simp)) b
theorem rd2_nz:∀ (f n:Nat) (b:List Nat),rd2 f n b≠.error 0
 | 0,n,b=>by simp [rd2]
 | f+1,n,b=>by
  rw [rd2]
  split
  ·simp
  ·refine bindR_nz wh_nz (fun x=>bindR_nz num_nz (fun k q=>?_)) b
   split
   ·simp
   ·exact bindR_nz (rd2_nz f _) (fun l r=>by simp) q
theorem rdU_nz:∀ (m:Nat) (last:Int) (b:List Nat),rdU m last b≠.error 0
 | 0,last,b=>by simp [rdU]
 | m+1,last,b=>by
  rw [rdU]
  refine bindR_nz num_nz (fun d q=>?_) b
  split
  ·simp
  ·exact bindR_nz (rdU_nz m _) (fun l r=>by simp) q
theorem rd3_nz (n:Nat) (b:List Nat):rd3 n b≠.error 0:=by
 unfold rd3
 refine bindR_nz num_nz (fun many q=>?_) b
 split
 ·simp
 ·split
  ·simp
  ·refine bindR_nz wh_nz (fun x=>bindR_nz (rdU_nz _ _) (fun u=>bindR_nz (pkd_nz _ _) (fun p r=>?_))) q
   unfold picked
   split<;>simp
theorem rd4_nz (n:Nat) (b:List Nat):rd4 n b≠.error 0:=by
 unfold rd4
 split
 ·simp
 ·refine bindR_nz wh_nz (fun x=>bindR_nz num_nz (fun w q=>?_)) b
  split
  ·simp
  ·exact bindR_nz (pkd_nz _ _) (fun p r=>by simp) q
theorem rdC_nz (c n:Nat) (b:List Nat):rdC c n b≠.error 0:=by
 unfold rdC
 split
 ·exact rd0_nz n b
 ·exact rd1_nz n 0 b
 ·exact rd2_nz n n b
 ·exact rd3_nz n b
 ·exact rd4_nz n b
theorem rdAll_nz (c n:Nat) (b:List Nat):rdAll c n b≠.error 0:=by
 unfold rdAll
 split
 ·next e he =>
  intro h
  simp only [Except.error.injEq] at h
  subst h
  exact rdC_nz c n b he
 ·split
  ·split<;>simp
  ·simp
theorem readM_inv {b:List Nat} {n:Int} {l:List Int} (hb:Bs b) (h:readM b n=(l,0)):0<=n/\n<=256/\∃ c t,b=c::t/\c<=4/\(l.length:Int)=n/\Is l/\encC c l=t:=by
 unfold readM at h
 split at h
 ·next hn =>
  refine ⟨hn.1,hn.2,?_⟩
  split at h
  ·simp at h
  ·next c t =>
   split at h
   ·simp at h
   ·next hc =>
    split at h
    ·next l' e =>
     simp only [Prod.mk.injEq,and_true] at h
     subst h
     obtain ⟨h1,h2,h3⟩:=rdAll_inv (fun x hx=>hb x (by simp [hx])) e
     exact ⟨c,t,rfl,by omega,by omega,h2,h3⟩
    ·next e he =>
     simp only [Prod.mk.injEq] at h
     rw [h.2] at he
     exact absurd he (rdAll_nz _ _ _)
 ·simp at h
def bestUp (l:List Int):Nat->List Nat
 | 0=>0::encC 0 l
 | c+1=>if (encC (c+1) l).length+1<(bestUp l c).length then (c+1)::encC (c+1) l else bestUp l c
theorem bestUp_form (l:List Int):∀ k,∃ c,c<=k/\bestUp l k=c::encC c l
 | 0=>⟨0,Nat.le_refl _,rfl⟩
 | k+1=>by
  rw [bestUp]
  split
  ·exact ⟨k+1,Nat.le_refl _,rfl⟩
  ·obtain ⟨c,h1,h2⟩:=bestUp_form l k
   exact ⟨c,by omega,h2⟩
theorem bestUp_le (l:List Int):∀ k c,c<=k->(bestUp l k).length<=(encC c l).length+1
 | 0,c,h=>by
  obtain rfl:c=0:=by omega
  simp [bestUp]
 | k+1,c,h=>by
  rw [bestUp]
  split
  ·next hlt =>
   rcases Nat.lt_or_ge k c with h1 | h1
   ·obtain rfl:c=k+1:=by omega
    simp
   ·have:=bestUp_le l k c h1
    simp
    omega
  ·next hlt =>
   rcases Nat.lt_or_ge k c with h1 | h1
   ·obtain rfl:c=k+1:=by omega
    omega
   ·exact bestUp_le l k c h1
theorem enc0_size:∀ {l:List Int},Is l->(enc0 l).length<=10*l.length/\Bs (enc0 l)
 | [],_=>⟨by simp [enc0],fun x hx=>by simp [enc0] at hx⟩
 | x::t,h=>by
  obtain ⟨h1,h2⟩:=enc0_size (l:=t) (fun y hy=>h y (by simp [hy]))
  have h3:=wv_ten (h x (by simp))
  refine ⟨by simp [enc0];omega,fun y hy=>?_⟩
  rcases List.mem_append.1 hy with hy | hy
  ·exact wv_lt y hy
  ·exact h2 y hy
theorem enc1_size:∀ {l:List Int} {last:Int},(enc1 last l).length<=10*l.length/\Bs (enc1 last l)
 | [],_=>⟨by simp [enc1],fun x hx=>by simp [enc1] at hx⟩
 | x::t,last=>by
  obtain ⟨h1,h2⟩:=enc1_size (l:=t) (last:=x)
  have h3:=wv_ten (w64_i64 (x-last))
  refine ⟨by simp [enc1];omega,fun y hy=>?_⟩
  rcases List.mem_append.1 hy with hy | hy
  ·exact wv_lt y hy
  ·exact h2 y hy
theorem Bs.append {a b:List Nat} (ha:Bs a) (hb:Bs b):Bs (a++b):=fun x hx=>by
 rcases List.mem_append.1 hx with hx | hx
 ·exact ha x hx
 ·exact hb x hx
theorem enc2c_size:∀ {t:List Int} {x:Int} {c:Nat},Is t->I64 x->c+t.length<=1000000->(enc2c x c t).length<=20*(t.length+1)/\Bs (enc2c x c t)
 | [],x,c,ht,hx,hc=>by
  have h3:=wv_ten hx
  have h4:=uv_ten (n:=c) (by simp at hc;omega)
  refine ⟨by simp [enc2c];omega,?_⟩
  rw [enc2c]
  exact Bs.append wv_lt uv_lt
 | y::t,x,c,ht,hx,hc=>by
  have h3:=wv_ten hx
  have h4:=uv_ten (n:=c) (by omega)
  rw [enc2c]
  split
  ·obtain ⟨h1,h2⟩:=enc2c_size (t:=t) (x:=x) (c:=c+1) (fun z hz=>ht z (by simp [hz])) hx (by simp at hc;omega)
   exact ⟨by simp;omega,h2⟩
  ·obtain ⟨h1,h2⟩:=enc2c_size (t:=t) (x:=y) (c:=1) (fun z hz=>ht z (by simp [hz])) (ht y (by simp)) (by simp at hc;omega)
   exact ⟨by simp;omega,Bs.append (Bs.append wv_lt uv_lt) h2⟩
theorem encD_size:∀ {t:List Int} {last:Int},I64 last->Is t->(encD last t).length<=10*t.length/\Bs (encD last t)
 | [],_,_,_=>⟨by simp [encD],fun x hx=>by simp [encD] at hx⟩
 | y::t,last,hl,ht=>by
  have hy:=ht y (by simp)
  obtain ⟨h1,h2⟩:=encD_size (t:=t) (last:=y) hy (fun z hz=>ht z (by simp [hz]))
  have h3:=uv_ten (n:=(y-last).toNat) (by unfold I64 at hy hl;omega)
  exact ⟨by simp [encD];omega,Bs.append uv_lt h2⟩
theorem encU_size {u:List Int} (h:Is u):(encU u).length<=10*u.length/\Bs (encU u):=by
 cases u with
 | nil=>exact ⟨by simp [encU],fun x hx=>by simp [encU] at hx⟩
 | cons x t =>
  have hx:=h x (by simp)
  obtain ⟨h1,h2⟩:=encD_size (t:=t) hx (fun z hz=>h z (by simp [hz]))
  have h3:=wv_ten hx
  exact ⟨by simp [encU];omega,Bs.append wv_lt h2⟩
theorem packR_size {p:List Nat} {w:Nat} (hl:p.length<=256):(packR p w).length<=2048:=by
 unfold packR
 split
 ·next h =>
  unfold can at h
  simp only [decide_eq_true_eq] at h
  rw [dig_length]
  have:p.length*w<=256*64:=Nat.mul_le_mul hl (by omega)
  unfold by8
  simp only [Int.toNat_natCast]
  omega
 ·simp
theorem encC_size (c:Nat) {l:List Int} (h:Is l) (hl:l.length<=256):(encC c l).length<=5130/\Bs (encC c l):=by
 unfold encC
 split
 ·obtain ⟨h1,h2⟩:=enc0_size h
  exact ⟨by omega,h2⟩
 ·obtain ⟨h1,h2⟩:=enc1_size (l:=l) (last:=0)
  exact ⟨by omega,h2⟩
 ·cases l with
  | nil=>exact ⟨by simp [enc2],fun x hx=>by simp [enc2] at hx⟩
  | cons x t =>
   obtain ⟨h1,h2⟩:=enc2c_size (t:=t) (x:=x) (c:=1) (fun z hz=>h z (by simp [hz])) (h x (by simp)) (by simp at hl;omega)
   simp at hl
   exact ⟨by rw [enc2];omega,h2⟩
 ·have hu:=uniq_length l
  obtain ⟨h1,h2⟩:=encU_size (uniq_i64 h)
  have h3:=uv_ten (n:=(uniq l).length) (by omega)
  have h4:=packR_size (p:=places l) (w:=wd (places l)) (by rw [places_length];exact hl)
  refine ⟨by simp [enc3];omega,Bs.append uv_lt (Bs.append h2 packR_lt)⟩
 ·unfold enc4
  split
  ·exact ⟨by simp,fun x hx=>by simp at hx⟩
  ·next h0 =>
   have h3:=wv_ten (h _ (least_mem (by omega)))
   have h4:=packR_size (p:=mores l) (w:=wd (mores l)) (by rw [mores_length];exact hl)
   have h5:=uv_ten (n:=wd (mores l)) (by have:=wd64 (mores_lt h);omega)
   refine ⟨by simp;omega,Bs.append wv_lt (Bs.append uv_lt packR_lt)⟩
end Go.Proofs.YtpljdjmpamjkhaaGreatDoor
set_option linter.unusedVariables false
set_option linter.unusedSimpArgs false
namespace Go.Proofs.YtpljdjmpamjkhaaGreatDoor
open Go.Lib
def bstC (l:List Int):List Nat:=bestUp l 4
theorem bstC_back {l:List Int} (h:Is l) (hm:l.length<=256):readM (bstC l) l.length=(l,0):=by
 obtain ⟨c,hc,e⟩:=bestUp_form l 4
 unfold bstC
 rw [e]
 exact readM_back hc h hm
theorem bstC_size {l:List Int} (h:Is l) (hm:l.length<=256):(bstC l).length<=5131/\Bs (bstC l):=by
 obtain ⟨c,hc,e⟩:=bestUp_form l 4
 obtain ⟨h1,h2⟩:=encC_size c h hm
 unfold bstC
 rw [e]
 refine ⟨by simp only [List.length_cons];omega,fun x hx=>?_⟩
 rcases List.mem_cons.1 hx with rfl | hx
 ·omega
 ·exact h2 x hx
def cnt (l:List Int):List Nat:=uv (bstC l).length++bstC l
def cutM (b:List Nat) (n:Int):Option (List Int×List Nat) :=
 if (gt b).2.2=0/\(gt b).1<=b.length-(gt b).2.1 then
  (if (readM ((b.drop (gt b).2.1).take (gt b).1) n).2=0 then some ((readM ((b.drop (gt b).2.1).take (gt b).1) n).1,b.drop ((gt b).2.1+(gt b).1)) else none)
 else none
theorem cutM_cnt {l:List Int} (h:Is l) (hm:l.length<=256) (r:List Nat):cutM (cnt l++r) l.length=some (l,r):=by
 have hs:=(bstC_size h hm).1
 have hg:gt (cnt l++r)=((bstC l).length,(uv (bstC l).length).length,0):=by
  unfold cnt
  rw [List.append_assoc]
  exact gt_put _ (by omega) _
 have hd:(cnt l++r).drop (uv (bstC l).length).length=bstC l++r:=by
  unfold cnt
  rw [List.append_assoc,List.drop_left]
 have hd2:(cnt l++r).drop ((uv (bstC l).length).length+(bstC l).length)=r:=by
  rw [← List.drop_drop,hd,List.drop_left]
 have hb:=bstC_back h hm
 unfold cutM
 rw [hg]
 simp only
 rw [hd,hd2,List.take_left,hb,if_pos,if_pos rfl]
 refine ⟨trivial,?_⟩
 unfold cnt
 simp only [List.length_append]
 omega
def sizes (l:List (List Nat)):List Int:=l.map fun s=>(s.length:Int)
def txts (l:List (List Nat)):List Nat:=cnt (sizes l)++l.flatten
def strM:List Nat->List Int->Option (List (List Nat)×List Nat)
 | b,[]=>some ([],b)
 | b,s::t=>if s<0∨(b.length:Int)<s then none else (strM (b.drop s.toNat) t).map fun p=>(b.take s.toNat::p.1,p.2)
theorem strM_flat (r:List Nat):∀ l:List (List Nat),strM (l.flatten++r) (sizes l)=some (l,r)
 | []=>rfl
 | s::t=>by
  have ih:=strM_flat r t
  have e:(s::t).flatten++r=s++(t.flatten++r):=by simp [List.append_assoc]
  rw [e]
  unfold sizes at ih ⊢
  simp only [List.map_cons,strM]
  rw [if_neg (by simp only [List.length_append];omega),Int.toNat_natCast,List.drop_left,List.take_left,ih]
  rfl
def insT (x:List Nat):List (List Nat)->List (List Nat)
 | []=>[x]
 | y::t=>if x=y then y::t else if x<y then x::y::t else y::insT x t
def tuq (l:List (List Nat)):List (List Nat):=l.foldl (fun u x=>insT x u) []
def RisT (l:List (List Nat)):Prop:=l.Pairwise (· < ·)
theorem mem_insT {x z:List Nat}:∀ {u:List (List Nat)},z∈insT x u↔z=x∨z∈u
 | []=>by simp [insT]
 | y::t=>by
  have ih:=mem_insT (x:=x) (z:=z) (u:=t)
  unfold insT
  split
  ·next h =>
   subst h
   simp
  ·split
   ·simp
   ·simp only [List.mem_cons,ih]
    constructor
    ·rintro (h | h | h)
     ·exact Or.inr (Or.inl h)
     ·exact Or.inl h
     ·exact Or.inr (Or.inr h)
    ·rintro (h | h | h)
     ·exact Or.inr (Or.inl h)
     ·exact Or.inl h
     ·exact Or.inr (Or.inr h)
theorem txt_trans {x y z:List Nat} (h1:x<y) (h2:y<z):x<z:=List.lt_trans h1 h2
theorem txt_three {x y:List Nat} (h1:x≠y) (h2:¬ x<y):y<x:=by
 have h3:y<=x:=h2
 rcases List.le_iff_lt_or_eq.1 h3 with h | h
 ·exact h
 ·exact absurd h.symm h1
theorem rising_insT {x:List Nat}:∀ {u:List (List Nat)},RisT u->RisT (insT x u)
 | [],_=>by simp [insT,RisT]
 | y::t,h=>by
  have h1:(∀ z∈t,y<z)/\RisT t:=List.pairwise_cons.1 h
  unfold insT
  split
  ·exact h
  ·next hne =>
   split
   ·next hlt =>
    refine List.pairwise_cons.2 ⟨fun z hz=>?_,h⟩
    rcases List.mem_cons.1 hz with rfl | hz
    ·exact hlt
    ·exact txt_trans hlt (h1.1 z hz)
   ·next hlt =>
    refine List.pairwise_cons.2 ⟨fun z hz=>?_,rising_insT h1.2⟩
    rcases mem_insT.1 hz with rfl | hz
    ·exact txt_three hne hlt
    ·exact h1.1 z hz
theorem tuq_fold:∀ (l u:List (List Nat)),RisT u->RisT (l.foldl (fun u x=>insT x u) u)/\∀ z,z∈l.foldl (fun u x=>insT x u) u↔z∈u∨z∈l
 | [],u,h=>⟨h,fun z=>by simp⟩
 | x::t,u,h=>by
  obtain ⟨h1,h2⟩:=tuq_fold t (insT x u) (rising_insT h)
  refine ⟨h1,fun z=>?_⟩
  rw [List.foldl_cons,h2,mem_insT,List.mem_cons]
  constructor
  ·rintro ((h | h) | h)
   ·exact Or.inr (Or.inl h)
   ·exact Or.inl h
   ·exact Or.inr (Or.inr h)
  ·rintro (h | h | h)
   ·exact Or.inl (Or.inr h)
   ·exact Or.inl (Or.inl h)
   ·exact Or.inr h
theorem tuq_rising (l:List (List Nat)):RisT (tuq l):=(tuq_fold l [] List.Pairwise.nil).1
theorem mem_tuq {l:List (List Nat)} {z:List Nat}:z∈tuq l↔z∈l:=by
 unfold tuq
 rw [(tuq_fold l [] List.Pairwise.nil).2]
 simp
theorem rising_same:∀ {u v:List (List Nat)},RisT u->RisT v->(∀ z,z∈u↔z∈v)->u=v
 | [],[],_,_,_=>rfl
 | [],y::t,_,_,h=>absurd ((h y).2 (by simp)) (by simp)
 | x::s,[],_,_,h=>absurd ((h x).1 (by simp)) (by simp)
 | x::s,y::t,hu,hv,h=>by
  obtain ⟨a1,a2⟩:=List.pairwise_cons.1 hu
  obtain ⟨b1,b2⟩:=List.pairwise_cons.1 hv
  have e:x=y:=by
   rcases List.mem_cons.1 ((h x).1 (by simp)) with e | e
   ·exact e
   ·rcases List.mem_cons.1 ((h y).2 (by simp)) with e2 | e2
    ·exact e2.symm
    ·exact absurd (txt_trans (a1 y e2) (b1 x e)) (List.lt_irrefl x)
  subst e
  congr 1
  refine rising_same a2 b2 fun z=>?_
  constructor
  ·intro hz
   rcases List.mem_cons.1 ((h z).1 (List.mem_cons_of_mem _ hz)) with e | e
   ·subst e
    exact absurd (a1 z hz) (List.lt_irrefl z)
   ·exact e
  ·intro hz
   rcases List.mem_cons.1 ((h z).2 (List.mem_cons_of_mem _ hz)) with e | e
   ·subst e
    exact absurd (b1 z hz) (List.lt_irrefl z)
   ·exact e
theorem insT_length {x:List Nat}:∀ {u:List (List Nat)},(insT x u).length<=u.length+1
 | []=>by simp [insT]
 | y::t=>by
  have:=insT_length (x:=x) (u:=t)
  unfold insT
  split
  ·simp
  ·split
   ·simp
   ·simp only [List.length_cons]
    omega
theorem tuq_fold_length:∀ (l u:List (List Nat)),(l.foldl (fun u x=>insT x u) u).length<=u.length+l.length
 | [],u=>by simp
 | x::t,u=>by
  have h1:=tuq_fold_length t (insT x u)
  have h2:=insT_length (x:=x) (u:=u)
  rw [List.foldl_cons,List.length_cons]
  omega
theorem tuq_length (l:List (List Nat)):(tuq l).length<=l.length:=by
 have:=tuq_fold_length l []
 simpa [tuq] using this
def plT:List (List Nat)->List Nat->Nat
 | [],_=>0
 | y::t,x=>if y=x then 0 else plT t x+1
theorem plT_get {x:List Nat}:∀ {u:List (List Nat)},x∈u->plT u x<u.length/\u[plT u x]?=some x
 | [],h=>by simp at h
 | y::t,h=>by
  unfold plT
  split
  ·next e=>exact ⟨by simp,by simp [e]⟩
  ·next e =>
   rcases List.mem_cons.1 h with rfl | h
   ·exact absurd rfl e
   ·obtain ⟨h1,h2⟩:=plT_get h
    exact ⟨by simp only [List.length_cons];omega,by simpa using h2⟩
def placesT (l:List (List Nat)):List Int:=l.map fun s=>(plT (tuq l) s:Int)
def plain (l:List (List Nat)):List Nat:=0::txts l
def listed (l:List (List Nat)):List Nat:=1::(uv (tuq l).length++(txts (tuq l)++bstC (placesT l)))
def wordsB (l:List (List Nat)):List Nat:=if (listed l).length<(plain l).length then listed l else plain l
def pickT (u:List (List Nat)) (p:List Int):Option (List (List Nat)):=if ∀ q∈p,0<=q/\q<(u.length:Int) then some (p.map fun q=>u.getD q.toNat []) else none
def wordsM (b:List Nat) (n:Nat):Option (List (List Nat)) :=
 match b with
 | []=>none
 | x::t =>
  if x=0 then ((cutM t n).bind fun p=>strM p.2 p.1).map (·.1)
  else if x=1 then
   (if (gt t).2.2=0/\(gt t).1<=n then
    (cutM (t.drop (gt t).2.1) (gt t).1).bind fun p=>(strM p.2 p.1).bind fun q=>if (readM q.2 n).2=0 then pickT q.1 (readM q.2 n).1 else none
   else none)
  else none
def Ts (l:List (List Nat)):Prop:=∀ s∈l,s.length<=64/\Bs s
theorem sizes_length (l:List (List Nat)):(sizes l).length=l.length:=List.length_map _
theorem sizes_i64 {l:List (List Nat)} (h:Ts l):Is (sizes l):=fun x hx=>by
 obtain ⟨s,hs,rfl⟩:=List.mem_map.1 hx
 have:=(h s hs).1
 unfold I64
 omega
theorem tuq_ts {l:List (List Nat)} (h:Ts l):Ts (tuq l):=fun s hs=>h s (mem_tuq.1 hs)
theorem placesT_length (l:List (List Nat)):(placesT l).length=l.length:=List.length_map _
theorem placesT_lt {l:List (List Nat)}:∀ q∈placesT l,0<=q/\q<((tuq l).length:Int):=fun q hq=>by
 obtain ⟨s,hs,rfl⟩:=List.mem_map.1 hq
 have:=(plT_get (mem_tuq.2 hs)).1
 omega
theorem placesT_i64 {l:List (List Nat)} (hm:l.length<=256):Is (placesT l):=fun q hq=>by
 have h1:=placesT_lt q hq
 have h2:=tuq_length l
 unfold I64
 omega
theorem placesT_back (l:List (List Nat)):(placesT l).map (fun q=>(tuq l).getD q.toNat [])=l:=by
 unfold placesT
 rw [List.map_map]
 conv=>rhs;rw [← List.map_id l]
 apply List.map_congr_left
 intro s hs
 have h2:=(plT_get (mem_tuq.2 hs)).2
 simp only [Function.comp,Int.toNat_natCast,id]
 rw [List.getD_eq_getElem?_getD,h2]
 rfl
theorem plain_read {l:List (List Nat)} (h:Ts l) (hm:l.length<=256) (r:List Nat):wordsM (plain l++r) l.length=some l:=by
 unfold plain txts
 simp only [List.cons_append,wordsM,if_pos]
 have h1:=cutM_cnt (sizes_i64 h) (by rw [sizes_length];exact hm) (l.flatten++r)
 rw [sizes_length] at h1
 rw [List.append_assoc,h1]
 simp only [Option.bind_some,strM_flat,Option.map_some]
theorem listed_read {l:List (List Nat)} (h:Ts l) (hm:l.length<=256):wordsM (listed l) l.length=some l:=by
 have hu:=tuq_length l
 unfold listed txts
 have h0:=gt_put (tuq l).length (by omega) (cnt (sizes (tuq l))++(tuq l).flatten++bstC (placesT l))
 have h1:=cutM_cnt (sizes_i64 (tuq_ts h)) (by rw [sizes_length];omega) ((tuq l).flatten++bstC (placesT l))
 rw [sizes_length] at h1
 have h2:=bstC_back (placesT_i64 hm) (by rw [placesT_length];exact hm)
 rw [placesT_length] at h2
 simp only [wordsM,show (1:Nat)≠0 from by omega,if_false,if_true,h0,List.drop_left]
 rw [if_pos ⟨trivial,hu⟩,List.append_assoc,h1]
 simp only [Option.bind_some,strM_flat,h2,if_true]
 unfold pickT
 rw [if_pos placesT_lt,placesT_back]
theorem words_read {l:List (List Nat)} (h:Ts l) (hm:l.length<=256):wordsM (wordsB l) l.length=some l:=by
 unfold wordsB
 split
 ·exact listed_read h hm
 ·have:=plain_read h hm []
  rwa [List.append_nil] at this
theorem sum_sizes:∀ {l:List (List Nat)},Ts l->l.flatten.length<=64*l.length/\Bs l.flatten
 | [],_=>⟨by simp,fun x hx=>by simp at hx⟩
 | s::t,h=>by
  obtain ⟨h1,h2⟩:=sum_sizes (l:=t) fun x hx=>h x (List.mem_cons_of_mem _ hx)
  obtain ⟨h3,h4⟩:=h s (by simp)
  refine ⟨?_,?_⟩
  ·rw [List.flatten_cons,List.length_append,List.length_cons]
   omega
  ·rw [List.flatten_cons]
   exact h4.append h2
theorem txts_size {l:List (List Nat)} (h:Ts l) (hm:l.length<=256):(txts l).length<=21525/\Bs (txts l):=by
 obtain ⟨a1,a2⟩:=bstC_size (sizes_i64 h) (by rw [sizes_length];exact hm)
 obtain ⟨b1,b2⟩:=sum_sizes h
 have h10:=uv_ten (n:=(bstC (sizes l)).length) (by omega)
 unfold txts cnt
 refine ⟨?_,Bs.append (Bs.append uv_lt a2) b2⟩
 simp only [List.length_append]
 omega
theorem words_size {l:List (List Nat)} (h:Ts l) (hm:l.length<=256):(wordsB l).length<=21526/\Bs (wordsB l):=by
 obtain ⟨a1,a2⟩:=txts_size h hm
 have hp:(plain l).length<=21526:=by unfold plain;simp only [List.length_cons];omega
 unfold wordsB
 split
 ·next hlt =>
  refine ⟨by omega,?_⟩
  obtain ⟨b1,b2⟩:=txts_size (tuq_ts h) (Nat.le_trans (tuq_length l) hm)
  obtain ⟨c1,c2⟩:=bstC_size (placesT_i64 hm) (by rw [placesT_length];exact hm)
  intro x hx
  unfold listed at hx
  rcases List.mem_cons.1 hx with rfl | hx
  ·omega
  ·exact (Bs.append uv_lt (Bs.append b2 c2)) x hx
 ·refine ⟨hp,fun x hx=>?_⟩
  unfold plain at hx
  rcases List.mem_cons.1 hx with rfl | hx
  ·omega
  ·exact a2 x hx
end Go.Proofs.YtpljdjmpamjkhaaGreatDoor
set_option linter.unusedVariables false
set_option linter.unusedSimpArgs false
namespace Go.Proofs.YtpljdjmpamjkhaaGreatDoor
open Go.Lib
def Cellk (k:Nat) (c:Nat×Int×List Nat):Prop :=
 c=nul∨(k=1/\∃ n,c=(1,n,[])/\I64 n)∨(k=2/\∃ n:Nat,c=(2,(n:Int),[])/\n<2)∨(k=3/\∃ s,c=(3,0,s)/\s.length<=64/\Bs s)
def Col (k:Nat) (l:List (Nat×Int×List Nat)):Prop:=(1<=k/\k<=3)/\l.length<=256/\∀ c∈l,Cellk k c
def there (l:List (Nat×Int×List Nat)):List Nat:=l.map fun c=>if c.1=0 then 0 else 1
def ownC (l:List (Nat×Int×List Nat)):List (Nat×Int×List Nat):=l.filter fun c=>c.1 != 0
def headB (l:List (Nat×Int×List Nat)):List Nat:=if 0∈there l then 1::packR (there l) 1 else [0]
def tailB (k:Nat) (l:List (Nat×Int×List Nat)):List Nat :=
 if k=1 then bstC ((ownC l).map fun c=>c.2.1) else if k=2 then packR ((ownC l).map fun c=>c.2.1.toNat) 1 else wordsB ((ownC l).map fun c=>c.2.2)
def colM (k:Nat) (l:List (Nat×Int×List Nat)):List Nat:=headB l++tailB k l
def fillC:List Nat->List (Nat×Int×List Nat)->List (Nat×Int×List Nat)
 | [],_=>[]
 | x::t,o=>if x=0 then nul::fillC t o else o.headD nul::fillC t o.tail
theorem there_length (l:List (Nat×Int×List Nat)):(there l).length=l.length:=List.length_map _
theorem sum_there:∀ l:List (Nat×Int×List Nat),(there l).sum=(ownC l).length
 | []=>rfl
 | c::t=>by
  have ih:=sum_there t
  unfold there ownC at ih ⊢
  by_cases h:c.1=0
  ·simp [h,ih]
  ·simp [h,ih]
   omega
theorem ownC_length (l:List (Nat×Int×List Nat)):(ownC l).length<=l.length:=List.length_filter_le _ _
theorem fillC_ownC {k:Nat}:∀ {l:List (Nat×Int×List Nat)},(∀ c∈l,Cellk k c)->fillC (there l) (ownC l)=l
 | [],_=>rfl
 | c::t,h=>by
  have ih:=fillC_ownC (k:=k) (l:=t) fun x hx=>h x (List.mem_cons_of_mem _ hx)
  have hc:=h c (by simp)
  unfold there ownC at ih ⊢
  by_cases h0:c.1=0
  ·have e:c=nul:=by
    rcases hc with e | ⟨_,n,e,_⟩ | ⟨_,n,e,_⟩ | ⟨_,s,e,_⟩
    ·exact e
    ·rw [e] at h0;simp at h0
    ·rw [e] at h0;simp at h0
    ·rw [e] at h0;simp at h0
   subst e
   simp [fillC,nul] at ih ⊢
   exact ih
  ·simp [fillC,h0] at ih ⊢
   exact ih
theorem ownC_mem {l:List (Nat×Int×List Nat)} {c:Nat×Int×List Nat} (h:c∈ownC l):c∈l/\c.1≠0:=by
 unfold ownC at h
 have:=List.mem_filter.1 h
 exact ⟨this.1,by simpa using this.2⟩
theorem ownC_ints {l:List (Nat×Int×List Nat)} (h:∀ c∈l,Cellk 1 c):Is ((ownC l).map fun c=>c.2.1)/\((ownC l).map fun c=>c.2.1).map (fun x=>((1,x,[]):Nat×Int×List Nat))=ownC l:=by
 have key:∀ c∈ownC l,∃ n,c=(1,n,[])/\I64 n:=fun c hc=>by
  obtain ⟨h1,h2⟩:=ownC_mem hc
  rcases h c h1 with e | ⟨_,n,e,hn⟩ | ⟨e,_⟩ | ⟨e,_⟩
  ·rw [e] at h2;exact absurd rfl h2
  ·exact ⟨n,e,hn⟩
  ·omega
  ·omega
 refine ⟨fun x hx=>?_,?_⟩
 ·obtain ⟨c,hc,rfl⟩:=List.mem_map.1 hx
  obtain ⟨n,rfl,hn⟩:=key c hc
  exact hn
 ·rw [List.map_map]
  conv=>rhs;rw [← List.map_id (ownC l)]
  apply List.map_congr_left
  intro c hc
  obtain ⟨n,rfl,hn⟩:=key c hc
  rfl
theorem ownC_truths {l:List (Nat×Int×List Nat)} (h:∀ c∈l,Cellk 2 c):(∀ x∈(ownC l).map fun c=>c.2.1.toNat,x<2)/\((ownC l).map fun c=>c.2.1.toNat).map (fun (x:Nat)=>((2,(x:Int),[]):Nat×Int×List Nat))=ownC l:=by
 have key:∀ c∈ownC l,∃ n:Nat,c=(2,(n:Int),[])/\n<2:=fun c hc=>by
  obtain ⟨h1,h2⟩:=ownC_mem hc
  rcases h c h1 with e | ⟨e,_⟩ | ⟨_,n,e,hn⟩ | ⟨e,_⟩
  ·rw [e] at h2;exact absurd rfl h2
  ·omega
  ·exact ⟨n,e,hn⟩
  ·omega
 refine ⟨fun x hx=>?_,?_⟩
 ·obtain ⟨c,hc,rfl⟩:=List.mem_map.1 hx
  obtain ⟨n,rfl,hn⟩:=key c hc
  simpa using hn
 ·rw [List.map_map]
  conv=>rhs;rw [← List.map_id (ownC l)]
  apply List.map_congr_left
  intro c hc
  obtain ⟨n,rfl,hn⟩:=key c hc
  rfl
theorem ownC_words {l:List (Nat×Int×List Nat)} (h:∀ c∈l,Cellk 3 c):Ts ((ownC l).map fun c=>c.2.2)/\((ownC l).map fun c=>c.2.2).map (fun s=>((3,0,s):Nat×Int×List Nat))=ownC l:=by
 have key:∀ c∈ownC l,∃ s,c=(3,0,s)/\s.length<=64/\Bs s:=fun c hc=>by
  obtain ⟨h1,h2⟩:=ownC_mem hc
  rcases h c h1 with e | ⟨e,_⟩ | ⟨e,_⟩ | ⟨_,s,e,hs⟩
  ·rw [e] at h2;exact absurd rfl h2
  ·omega
  ·omega
  ·exact ⟨s,e,hs⟩
 refine ⟨fun x hx=>?_,?_⟩
 ·obtain ⟨c,hc,rfl⟩:=List.mem_map.1 hx
  obtain ⟨n,rfl,hn⟩:=key c hc
  exact hn
 ·rw [List.map_map]
  conv=>rhs;rw [← List.map_id (ownC l)]
  apply List.map_congr_left
  intro c hc
  obtain ⟨n,rfl,hn⟩:=key c hc
  rfl
def headM (b:List Nat) (n:Nat):Option (List Nat×List Nat) :=
 match b with
 | []=>none
 | x::t=>if x=0 then some (List.replicate n 1,t) else if x=1 then
   (if by8 n<=t.length/\unE (t.take (by8 n)) n 1=0 then some (unR (t.take (by8 n)) n 1,t.drop (by8 n)) else none) else none
def ownM (k:Nat) (b:List Nat) (n:Nat):Option (List (Nat×Int×List Nat)) :=
 if k=1 then (if (readM b n).2=0 then some ((readM b n).1.map fun x=>(1,x,[])) else none)
 else if k=2 then (if unE b n 1=0 then some ((unR b n 1).map fun (x:Nat)=>(2,(x:Int),[])) else none)
 else (wordsM b n).map fun l=>l.map fun s=>(3,0,s)
def parC (k:Nat) (b:List Nat) (n:Nat):Option (List (Nat×Int×List Nat)) :=
 (headM b n).bind fun p=>(ownM k p.2 p.1.sum).map (fillC p.1)
theorem bits_can {l:List Nat} (h:∀ x∈l,x<2) (hm:l.length<=256):can l ((1:Nat):Int)=true:=can_of hm (by omega) (wd_le.2 (by simpa using h))
theorem bits_back {l:List Nat} (h:∀ x∈l,x<2) (hm:l.length<=256):unE (packR l 1) l.length 1=0/\unR (packR l 1) l.length 1=l:=by
 have:=back_one (bits_can h hm)
 rwa [show ((1:Nat):Int)=1 from rfl] at this
theorem bits_length {l:List Nat} (h:∀ x∈l,x<2) (hm:l.length<=256):(packR l 1).length=by8 l.length:=by
 have:=packR_length (bits_can h hm)
 rwa [Nat.mul_one] at this
theorem there_two (l:List (Nat×Int×List Nat)):∀ x∈there l,x<2:=fun x hx=>by
 obtain ⟨c,_,rfl⟩:=List.mem_map.1 hx
 split<;>omega
theorem there_full {l:List (Nat×Int×List Nat)} (h:¬ 0∈there l):there l=List.replicate l.length 1:=by
 rw [List.eq_replicate_iff]
 refine ⟨there_length l,fun x hx=>?_⟩
 have h1:=there_two l x hx
 have h2:x≠0:=fun e=>h (e ▸ hx)
 omega
theorem head_read {l:List (Nat×Int×List Nat)} (hm:l.length<=256) (r:List Nat):headM (headB l++r) l.length=some (there l,r):=by
 unfold headB
 split
 ·have hl:=bits_length (there_two l) (by rw [there_length];exact hm)
  rw [there_length] at hl
  have hb:=bits_back (there_two l) (by rw [there_length];exact hm)
  rw [there_length] at hb
  have ht:(packR (there l) 1++r).take (by8 l.length)=packR (there l) 1:=by rw [← hl,List.take_left]
  have hd:(packR (there l) 1++r).drop (by8 l.length)=r:=by rw [← hl,List.drop_left]
  simp only [List.cons_append,headM,show (1:Nat)≠0 from by omega,if_false,if_true,ht,hd]
  rw [if_pos]
  ·rw [hb.2]
  ·exact ⟨by simp only [List.length_append];omega,hb.1⟩
 ·next h =>
  rw [there_full h]
  rfl
theorem tail_read {k:Nat} {l:List (Nat×Int×List Nat)} (h:Col k l):ownM k (tailB k l) (ownC l).length=some (ownC l):=by
 obtain ⟨hk,hm,hc⟩:=h
 have ho:=ownC_length l
 obtain rfl | rfl | rfl:k=1∨k=2∨k=3:=by omega
 ·obtain ⟨h1,h2⟩:=ownC_ints hc
  have hb:=bstC_back h1 (by rw [List.length_map];omega)
  rw [List.length_map] at hb
  simp only [ownM,tailB,if_true,hb]
  rw [h2]
 ·obtain ⟨h1,h2⟩:=ownC_truths hc
  have hb:=bits_back h1 (by rw [List.length_map];omega)
  rw [List.length_map] at hb
  simp only [ownM,tailB,if_true,if_false,show (2:Nat)≠1 from by omega]
  rw [if_pos hb.1]
  rw [hb.2,h2]
 ·obtain ⟨h1,h2⟩:=ownC_words hc
  have hb:=words_read h1 (by rw [List.length_map];omega)
  rw [List.length_map] at hb
  simp only [ownM,tailB,if_false,show (3:Nat)≠1 from by omega,show (3:Nat)≠2 from by omega,hb,Option.map_some]
  rw [h2]
theorem col_read {k:Nat} {l:List (Nat×Int×List Nat)} (h:Col k l):parC k (colM k l) l.length=some l:=by
 unfold parC colM
 rw [head_read h.2.1,Option.bind_some]
 simp only
 rw [sum_there,tail_read h,Option.map_some,fillC_ownC h.2.2]
theorem head_size {l:List (Nat×Int×List Nat)} (hm:l.length<=256):(headB l).length<=33/\Bs (headB l):=by
 unfold headB
 split
 ·have hl:=bits_length (there_two l) (by rw [there_length];exact hm)
  rw [there_length] at hl
  refine ⟨?_,fun x hx=>?_⟩
  ·rw [List.length_cons,hl]
   unfold by8
   omega
  ·rcases List.mem_cons.1 hx with rfl | hx
   ·omega
   ·exact packR_lt x hx
 ·exact ⟨by simp,fun x hx=>by simp at hx;omega⟩
theorem tail_1 (l:List (Nat×Int×List Nat)):tailB 1 l=bstC ((ownC l).map fun c=>c.2.1):=if_pos rfl
theorem tail_2 (l:List (Nat×Int×List Nat)):tailB 2 l=packR ((ownC l).map fun c=>c.2.1.toNat) 1:=(if_neg (by omega)).trans (if_pos rfl)
theorem tail_3 (l:List (Nat×Int×List Nat)):tailB 3 l=wordsB ((ownC l).map fun c=>c.2.2):=(if_neg (by omega)).trans (if_neg (by omega))
theorem tail_size {k:Nat} {l:List (Nat×Int×List Nat)} (h:Col k l):(tailB k l).length<=21526/\Bs (tailB k l):=by
 obtain ⟨hk,hm,hc⟩:=h
 have ho:=ownC_length l
 obtain rfl | rfl | rfl:k=1∨k=2∨k=3:=by omega
 ·obtain ⟨b1,b2⟩:=bstC_size (ownC_ints hc).1 (by rw [List.length_map];omega)
  rw [tail_1]
  exact ⟨by omega,b2⟩
 ·have hl:=bits_length (ownC_truths hc).1 (by rw [List.length_map];omega)
  rw [List.length_map] at hl
  rw [tail_2]
  refine ⟨?_,packR_lt⟩
  rw [hl]
  unfold by8
  omega
 ·have hw:=words_size (ownC_words hc).1 (by rw [List.length_map];omega)
  rw [tail_3]
  exact hw
theorem col_size {k:Nat} {l:List (Nat×Int×List Nat)} (h:Col k l):(colM k l).length<=21600/\Bs (colM k l):=by
 obtain ⟨a1,a2⟩:=head_size h.2.1
 obtain ⟨b1,b2⟩:=tail_size h
 unfold colM
 refine ⟨?_,a2.append b2⟩
 rw [List.length_append]
 omega
theorem ownC_own (l:List (Nat×Int×List Nat)):ownC (ownC l)=ownC l:=by
 unfold ownC
 rw [List.filter_filter]
 simp
end Go.Proofs.YtpljdjmpamjkhaaGreatDoor
set_option linter.unusedVariables false
set_option linter.unusedSimpArgs false
namespace Go.Proofs.YtpljdjmpamjkhaaGreatDoor
open Go.Lib
def Cellw (k:Nat) (c:Nat×Int×List Nat):Prop :=
 c=nul∨(k=1/\∃ n,c=(1,n,[])/\I64 n)∨(k=2/\∃ n:Nat,c=(2,(n:Int),[])/\n<2)∨(k=3/\∃ s,c=(3,0,s)/\Bs s)
theorem Cellw.short {k:Nat} {c:Nat×Int×List Nat} (h:Cellw k c) (hs:c.2.2.length<=64):Cellk k c:=by
 rcases h with h | h | h | ⟨h1,s,rfl,h2⟩
 ·exact Or.inl h
 ·exact Or.inr (Or.inl h)
 ·exact Or.inr (Or.inr (Or.inl h))
 ·exact Or.inr (Or.inr (Or.inr ⟨h1,s,rfl,hs,h2⟩))
theorem Cellk.short {k:Nat} {c:Nat×Int×List Nat} (h:Cellk k c):c.2.2.length<=64:=by
 rcases h with rfl | ⟨_,n,rfl,_⟩ | ⟨_,n,rfl,_⟩ | ⟨_,s,rfl,h,_⟩
 ·simp [nul]
 ·simp
 ·simp
 ·exact h
theorem readM_len {b:List Nat} {n:Int} (hb:Bs b) (h:(readM b n).2=0):((readM b n).1.length:Int)=n/\Is (readM b n).1:=by
 obtain ⟨_,_,c,t,_,_,h1,h2,_⟩:=readM_inv hb (l:=(readM b n).1) (n:=n) (by rw [← h])
 exact ⟨h1,h2⟩
theorem cutM_inv {b r:List Nat} {n:Int} {l:List Int} (hb:Bs b) (h:cutM b n=some (l,r)):(l.length:Int)=n/\Is l/\Bs r:=by
 unfold cutM at h
 split at h
 ·split at h
  ·next h1 =>
   simp only [Option.some.injEq,Prod.mk.injEq] at h
   obtain ⟨rfl,rfl⟩:=h
   have:=readM_len ((hb.drop _).take _) h1
   exact ⟨this.1,this.2,hb.drop _⟩
  ·simp at h
 ·simp at h
theorem strM_inv:∀ {s:List Int} {b r:List Nat} {l:List (List Nat)},Bs b->strM b s=some (l,r)->l.length=s.length/\(∀ x∈l,Bs x)/\Bs r
 | [],b,r,l,hb,h=>by
  simp only [strM,Option.some.injEq,Prod.mk.injEq] at h
  obtain ⟨rfl,rfl⟩:=h
  exact ⟨rfl,fun x hx=>by simp at hx,hb⟩
 | x::t,b,r,l,hb,h=>by
  unfold strM at h
  split at h
  ·simp at h
  ·obtain ⟨⟨l2,r2⟩,h1,h2⟩:=Option.map_eq_some_iff.1 h
   simp only [Prod.mk.injEq] at h2
   obtain ⟨rfl,rfl⟩:=h2
   obtain ⟨a1,a2,a3⟩:=strM_inv (hb.drop _) h1
   refine ⟨by simp only [List.length_cons,a1],fun y hy=>?_,a3⟩
   rcases List.mem_cons.1 hy with rfl | hy
   ·exact hb.take _
   ·exact a2 y hy
theorem wordsM_inv {b:List Nat} {n:Nat} {l:List (List Nat)} (hb:Bs b) (h:wordsM b n=some l):l.length=n/\∀ x∈l,Bs x:=by
 cases b with
 | nil=>simp [wordsM] at h
 | cons x t =>
  have ht:Bs t:=fun y hy=>hb y (List.mem_cons_of_mem _ hy)
  simp only [wordsM] at h
  split at h
  ·obtain ⟨⟨l2,r2⟩,h1,rfl⟩:=Option.map_eq_some_iff.1 h
   obtain ⟨⟨s,r⟩,h2,h3⟩:=Option.bind_eq_some_iff.1 h1
   obtain ⟨a1,a2,a3⟩:=cutM_inv ht h2
   obtain ⟨b1,b2,b3⟩:=strM_inv a3 h3
   have b4:l2.length=s.length:=b1
   exact ⟨by show l2.length=n;omega,b2⟩
  ·split at h
   ·split at h
    ·obtain ⟨⟨s,r⟩,h2,h3⟩:=Option.bind_eq_some_iff.1 h
     obtain ⟨⟨u,r2⟩,h4,h5⟩:=Option.bind_eq_some_iff.1 h3
     obtain ⟨a1,a2,a3⟩:=cutM_inv (ht.drop _) h2
     obtain ⟨b1,b2,b3⟩:=strM_inv a3 h4
     simp only at h5
     split at h5
     ·next h6 =>
      obtain ⟨c1,c2⟩:=readM_len b3 h6
      unfold pickT at h5
      split at h5
      ·next h7 =>
       cases h5
       refine ⟨by rw [List.length_map];omega,fun x hx=>?_⟩
       obtain ⟨q,hq,rfl⟩:=List.mem_map.1 hx
       have hq2:=h7 q hq
       have hlt:q.toNat<u.length:=by omega
       rw [List.getD_eq_getElem?_getD,List.getElem?_eq_getElem hlt]
       exact b2 _ (List.getElem_mem hlt)
      ·simp at h5
     ·simp at h5
    ·simp at h
   ·simp at h
theorem unR_len {b:List Nat} {n:Nat} (h:unE b n 1=0):(unR b n 1).length=n/\∀ x∈unR b n 1,x<2:=by
 unfold unR
 rw [if_pos h]
 refine ⟨by rw [dig_length];simp,fun x hx=>?_⟩
 have:=dig_lt hx
 simpa using this
theorem headM_inv {b r th:List Nat} {n:Nat} (hb:Bs b) (h:headM b n=some (th,r)):th.length=n/\(∀ x∈th,x<2)/\Bs r:=by
 cases b with
 | nil=>simp [headM] at h
 | cons x t =>
  have ht:Bs t:=fun y hy=>hb y (List.mem_cons_of_mem _ hy)
  simp only [headM] at h
  split at h
  ·simp only [Option.some.injEq,Prod.mk.injEq] at h
   obtain ⟨rfl,rfl⟩:=h
   exact ⟨List.length_replicate,fun y hy=>by have:=List.eq_of_mem_replicate hy;omega,ht⟩
  ·split at h
   ·split at h
    ·next h1 =>
     simp only [Option.some.injEq,Prod.mk.injEq] at h
     obtain ⟨rfl,rfl⟩:=h
     have:=unR_len h1.2
     exact ⟨this.1,this.2,ht.drop _⟩
    ·simp at h
   ·simp at h
theorem ownM_inv {k:Nat} {b:List Nat} {n:Nat} {o:List (Nat×Int×List Nat)} (hk:1<=k/\k<=3) (hb:Bs b) (h:ownM k b n=some o):o.length=n/\∀ c∈o,Cellw k c:=by
 unfold ownM at h
 obtain rfl | rfl | rfl:k=1∨k=2∨k=3:=by omega
 ·rw [if_pos rfl] at h
  split at h
  ·next h1 =>
   cases h
   obtain ⟨a1,a2⟩:=readM_len hb h1
   refine ⟨by rw [List.length_map];omega,fun c hc=>?_⟩
   obtain ⟨x,hx,rfl⟩:=List.mem_map.1 hc
   exact Or.inr (Or.inl ⟨rfl,x,rfl,a2 x hx⟩)
  ·simp at h
 ·rw [if_neg (by omega),if_pos rfl] at h
  split at h
  ·next h1 =>
   cases h
   obtain ⟨a1,a2⟩:=unR_len h1
   refine ⟨by rw [List.length_map];exact a1,fun c hc=>?_⟩
   obtain ⟨x,hx,rfl⟩:=List.mem_map.1 hc
   exact Or.inr (Or.inr (Or.inl ⟨rfl,x,rfl,a2 x hx⟩))
  ·simp at h
 ·rw [if_neg (by omega),if_neg (by omega)] at h
  obtain ⟨l,h1,rfl⟩:=Option.map_eq_some_iff.1 h
  obtain ⟨a1,a2⟩:=wordsM_inv hb h1
  refine ⟨by rw [List.length_map];exact a1,fun c hc=>?_⟩
  obtain ⟨x,hx,rfl⟩:=List.mem_map.1 hc
  exact Or.inr (Or.inr (Or.inr ⟨rfl,x,rfl,a2 x hx⟩))
theorem fillC_inv {P:Nat×Int×List Nat->Prop} (h0:P nul):∀ {th:List Nat} {o:List (Nat×Int×List Nat)},(∀ c∈o,P c)->(fillC th o).length=th.length/\∀ c∈fillC th o,P c
 | [],o,h=>⟨rfl,fun c hc=>by simp [fillC] at hc⟩
 | x::t,o,h=>by
  unfold fillC
  split
  ·obtain ⟨a1,a2⟩:=fillC_inv h0 (th:=t) h
   refine ⟨by simp only [List.length_cons,a1],fun c hc=>?_⟩
   rcases List.mem_cons.1 hc with rfl | hc
   ·exact h0
   ·exact a2 c hc
  ·obtain ⟨a1,a2⟩:=fillC_inv h0 (th:=t) (o:=o.tail) fun c hc=>h c (List.mem_of_mem_tail hc)
   refine ⟨by simp only [List.length_cons,a1],fun c hc=>?_⟩
   rcases List.mem_cons.1 hc with rfl | hc
   ·cases o with
    | nil=>exact h0
    | cons y s=>exact h y (by simp)
   ·exact a2 c hc
theorem parC_inv {k:Nat} {b:List Nat} {n:Nat} {l:List (Nat×Int×List Nat)} (hk:1<=k/\k<=3) (hb:Bs b) (h:parC k b n=some l):l.length=n/\∀ c∈l,Cellw k c:=by
 obtain ⟨⟨th,r⟩,h1,h2⟩:=Option.bind_eq_some_iff.1 h
 obtain ⟨o,h3,rfl⟩:=Option.map_eq_some_iff.1 h2
 obtain ⟨a1,a2,a3⟩:=headM_inv hb h1
 obtain ⟨b1,b2⟩:=ownM_inv hk a3 h3
 obtain ⟨c1,c2⟩:=fillC_inv (P:=Cellw k) (Or.inl rfl) (th:=th) b2
 exact ⟨c1.trans a1,c2⟩
def readC (k:Nat) (b:List Nat) (n:Nat):Option (List (Nat×Int×List Nat)) :=
 (parC k b n).bind fun l=>if (∀ c∈l,c.2.2.length<=64)/\colM k l=b then some l else none
theorem readC_iff {k:Nat} {b:List Nat} {n:Nat} {l:List (Nat×Int×List Nat)} (hk:1<=k/\k<=3) (hn:n<=256) (hb:Bs b):readC k b n=some l↔Col k l/\l.length=n/\colM k l=b:=by
 constructor
 ·intro h
  obtain ⟨l2,h1,h2⟩:=Option.bind_eq_some_iff.1 h
  split at h2
  ·next h3 =>
   cases h2
   obtain ⟨a1,a2⟩:=parC_inv hk hb h1
   exact ⟨⟨hk,by omega,fun c hc=>(a2 c hc).short (h3.1 c hc)⟩,a1,h3.2⟩
  ·simp at h2
 ·rintro ⟨h1,rfl,rfl⟩
  unfold readC
  rw [col_read h1,Option.bind_some]
  simp only
  rw [if_pos ⟨fun c hc=>(h1.2.2 c hc).short,trivial⟩]
theorem readC_back {k:Nat} {l:List (Nat×Int×List Nat)} (h:Col k l):readC k (colM k l) l.length=some l :=
 (readC_iff h.1 h.2.1 (col_size h).2).2 ⟨h,rfl,rfl⟩
def writeC (k:Nat) (l:List (Nat×Int×List Nat)):List Nat×Nat :=
 if 1<=k/\k<=3/\∀ c∈l,c.1=0∨c.1=k then
  (if l.length<=256/\∀ c∈l,c.2.2.length<=64 then (colM k l,0) else ([],5))
 else ([],10)
theorem Cellk.kind {k:Nat} {c:Nat×Int×List Nat} (h:Cellk k c):c.1=0∨c.1=k:=by
 rcases h with rfl | ⟨rfl,n,rfl,_⟩ | ⟨rfl,n,rfl,_⟩ | ⟨rfl,s,rfl,_⟩
 ·exact Or.inl rfl
 ·exact Or.inr rfl
 ·exact Or.inr rfl
 ·exact Or.inr rfl
theorem writeC_col {k:Nat} {l:List (Nat×Int×List Nat)} (h:Col k l):writeC k l=(colM k l,0):=by
 unfold writeC
 rw [if_pos ⟨h.1.1,h.1.2,fun c hc=>(h.2.2 c hc).kind⟩,if_pos ⟨h.2.1,fun c hc=>(h.2.2 c hc).short⟩]
end Go.Proofs.YtpljdjmpamjkhaaGreatDoor
