/- Numbers and their bytes, no program; readers that go on one behind the other. Schemas, no program: names that may be, the first fault, a field more, rows that fit, places, lifted rows; bytes, and what they are read as. -/
import Derived.Test.YtpljdjmpamjkhaaGreatDoorZab
import Derived.Lib.Zigzag
import Derived.Lib.VarintBits
import Derived.Laws.Strings
import Derived.Lib.DecodeN
set_option linter.unusedVariables false
set_option linter.unusedSimpArgs false
namespace Go.Proofs.YtpljdjmpamjkhaaGreatDoor
open Go.Lib
def val:List UInt8->Nat
 | []=>0
 | b::r=>b.toNat % 128+128*val r
theorem val_nil:val []=0:=rfl
theorem val_cons (b:UInt8) (r:List UInt8):val (b::r)=b.toNat % 128+128*val r:=rfl
theorem val_lt:∀ l,val l<128 ^ l.length
 | []=>by simp [val]
 | b::r=>by
  have:=val_lt r
  rw [val_cons,List.length_cons,Nat.pow_succ]
  omega
theorem val_append:∀ a b,val (a++b)=val a+128 ^ a.length*val b
 | [],b=>by simp [val]
 | x::a,b=>by
  rw [List.cons_append,val_cons,val_append a b,val_cons,List.length_cons,Nat.pow_succ,Nat.mul_add]
  have:128*(128 ^ a.length*val b)=128 ^ a.length*128*val b:=by rw [Nat.mul_comm (128 ^ a.length) 128,Nat.mul_assoc]
  omega
theorem val_take_succ {l:List UInt8} {k:Nat} (h:k<l.length):val (l.take (k+1))=val (l.take k)+(l[k].toNat % 128)*128 ^ k:=by
 rw [List.take_succ_eq_append_getElem h,val_append,val_cons,val_nil,List.length_take,Nat.min_eq_left (by omega)]
 simp [Nat.mul_comm]
def lead:List UInt8->Nat
 | []=>0
 | b::r=>if 128<=b.toNat then lead r+1 else 0
theorem lead_le:∀ l,lead l<=l.length
 | []=>by simp [lead]
 | b::r=>by
  have:=lead_le r
  unfold lead
  split<;>simp<;>omega
theorem lead_big:∀ (l:List UInt8) (k:Nat) (h:k<l.length),k<lead l->128<=l[k].toNat
 | [],k,h,_=>by simp at h
 | b::r,0,h,hk=>by
  unfold lead at hk
  split at hk
  ·simpa
  ·omega
 | b::r,k+1,h,hk=>by
  unfold lead at hk
  split at hk
  ·simpa using lead_big r k (by simpa using h) (by omega)
  ·omega
theorem lead_small:∀ (l:List UInt8) (h:lead l<l.length),l[lead l].toNat<128
 | [],h=>by simp at h
 | b::r,h=>by
  by_cases hb:128<=b.toNat
  ·have e:lead (b::r)=lead r+1:=by rw [lead,if_pos hb]
   have hr:lead r<r.length:=by rw [e] at h;simpa using h
   have:=lead_small r hr
   simpa [e] using this
  ·have e:lead (b::r)=0:=by rw [lead,if_neg hb]
   simpa [e] using hb
theorem lead_eq {l:List UInt8} {k:Nat} (hk:k<=lead l) (h:k<l.length) (hs:l[k].toNat<128):lead l=k:=by
 rcases Nat.lt_or_ge k (lead l) with h1 | h1
 ·have:=lead_big l k h h1;omega
 ·omega
theorem lead_succ {l:List UInt8} {k:Nat} (hk:k<=lead l) (h:k<l.length) (hs:128<=l[k].toNat):k+1<=lead l:=by
 rcases Nat.lt_or_ge k (lead l) with h1 | h1
 ·exact h1
 ·have e:lead l=k:=by omega
  have h2:=lead_small l (by omega)
  simp only [e] at h2
  omega
def getL (l:List UInt8):Nat×Nat×Nat :=
 if 9<=lead l/\9<l.length/\1<(l.getD 9 0).toNat then (0,0,31)
 else if lead l=l.length then (0,0,30)
 else if (l.getD (lead l) 0).toNat=0/\0<lead l then (0,0,31)
 else (val (l.take (lead l+1)),lead l+1,0)
theorem getD_at {l:List UInt8} {k:Nat} (h:k<l.length):l.getD k 0=l[k]:=by
 rw [List.getD_eq_getElem?_getD,List.getElem?_eq_getElem h];rfl
theorem getL_tenth {l:List UInt8} (hk:9<=lead l) (h:9<l.length) (hs:1<l[9].toNat):getL l=(0,0,31):=by
 unfold getL
 rw [if_pos ⟨hk,h,by rwa [getD_at h]⟩]
theorem getL_end {l:List UInt8} {k:Nat} (hk:k<=lead l) (h9:k<=9) (h:¬ k<l.length):getL l=(0,0,30):=by
 have:=lead_le l
 unfold getL
 rw [if_neg (fun h=>by omega),if_pos (by omega)]
theorem getL_last {l:List UInt8} {k:Nat} (hk:k<=lead l) (h9:k<=9) (h:k<l.length) (hs:l[k].toNat<128) (ht:k=9->l[k].toNat<=1) :
  getL l=if l[k].toNat=0/\0<k then (0,0,31) else (val (l.take (k+1)),k+1,0):=by
 have e:=lead_eq hk h hs
 unfold getL
 rw [e,if_neg,if_neg (by omega),getD_at h]
 rintro ⟨h1,h2,h3⟩
 obtain rfl:k=9:=by omega
 rw [getD_at h2] at h3
 have:=ht rfl
 omega
theorem val64 {l:List UInt8} {k:Nat} (h9:k<=9) (h:k<l.length) (ht:k=9->l[k].toNat<=1):val (l.take (k+1))<18446744073709551616:=by
 rcases Nat.lt_or_ge k 9 with h1 | h1
 ·have h2:=val_lt (l.take (k+1))
  rw [List.length_take,Nat.min_eq_left (by omega)] at h2
  have h3:128 ^ (k+1)<=128 ^ 9:=Nat.pow_le_pow_right (by omega) (by omega)
  have h4:(128:Nat) ^ 9=9223372036854775808:=by decide
  omega
 ·obtain rfl:k=9:=by omega
  rw [val_take_succ h]
  have h2:=val_lt (l.take 9)
  rw [List.length_take,Nat.min_eq_left (by omega)] at h2
  have h4:(128:Nat) ^ 9=9223372036854775808:=by decide
  rw [h4] at *
  have:=ht rfl
  omega
theorem uv_val:∀ (n x:Nat),x<=n->val (uvarint x)=x/\lead (uvarint x)+1=(uvarint x).length
 | n,x,hn=>by
  by_cases h:x<128
  ·rw [uvarint_small h,val_cons,u8_nat (by omega),val_nil,lead,u8_nat (by omega),if_neg (by omega)]
   simp;omega
  ·cases n with
   | zero=>omega
   | succ n =>
    obtain ⟨h1,h2⟩:=uv_val n (x / 128) (by omega)
    rw [uvarint_big (by omega),val_cons,u8_nat (by omega),lead,u8_nat (by omega),if_pos (by omega),h1,h2,List.length_cons]
    omega
theorem val_uv (x:Nat):val (uvarint x)=x:=(uv_val x x (Nat.le_refl _)).1
theorem lead_uv (x:Nat):lead (uvarint x)+1=(uvarint x).length:=(uv_val x x (Nat.le_refl _)).2
theorem uv_of:∀ (l:List UInt8) (h:lead l+1=l.length),¬ (l[lead l].toNat=0/\0<lead l)->uvarint (val l)=l
 | [],h,_=>by simp at h
 | b::r,h,hc=>by
  have hb:=b.toNat_lt
  by_cases hg:128<=b.toNat
  ·have e:lead (b::r)=lead r+1:=by rw [lead,if_pos hg]
   have hr:lead r+1=r.length:=by rw [e] at h;simpa using h
   simp only [e,List.getElem_cons_succ] at hc
   have hz:r[lead r].toNat≠0:=fun h1=>hc ⟨h1,by omega⟩
   have ih:=uv_of r hr (fun h1=>hz h1.1)
   have hv:0<val r:=by
    rcases Nat.eq_zero_or_pos (val r) with h0 | h0
    ·exfalso
     have h3:=val_take_succ (l:=r) (k:=lead r) (by omega)
     rw [List.take_of_length_le (by omega),h0] at h3
     have h4:=lead_small r (by omega)
     have h5:r[lead r].toNat % 128=r[lead r].toNat:=by omega
     rw [h5] at h3
     have h6:0<r[lead r].toNat*128 ^ lead r:=Nat.mul_pos (by omega) (Nat.pow_pos (by omega))
     omega
    ·exact h0
   rw [val_cons,uvarint_big (by omega)]
   have e1:(b.toNat % 128+128*val r) / 128=val r:=by omega
   have e2:(b.toNat % 128+128*val r) % 128+128=b.toNat:=by omega
   rw [e1,e2,ih]
   simp
  ·have e:lead (b::r)=0:=by rw [lead,if_neg hg]
   rw [e] at h
   have hr:r=[]:=by cases r with | nil=>rfl | cons _ _=>simp at h
   subst hr
   rw [val_cons,val_nil,uvarint_small (by omega)]
   have:b.toNat % 128+128*0=b.toNat:=by omega
   rw [this]
   simp
theorem uv_last:∀ (n x:Nat),x<=n->∀ h:lead (uvarint x)<(uvarint x).length,¬ ((uvarint x)[lead (uvarint x)].toNat=0/\0<lead (uvarint x))
 | n,x,hn,h=>by
  by_cases hx:x<128
  ·rintro ⟨_,h2⟩
   rw [uvarint_small hx,lead,u8_nat (by omega),if_neg (by omega)] at h2
   omega
  ·cases n with
   | zero=>omega
   | succ n =>
    have ih:=uv_last n (x / 128) (by omega)
    have e0:=uvarint_big (x:=x) (by omega)
    have e:lead (uvarint x)=lead (uvarint (x / 128))+1:=by rw [e0,lead,u8_nat (by omega),if_pos (by omega)]
    have hl:=lead_uv (x / 128)
    rintro ⟨h1,_⟩
    have ih2:=ih (by omega)
    have h3:(uvarint (x / 128))[lead (uvarint (x / 128))].toNat=0:=by
     have h4:(uvarint x)[lead (uvarint x)]=(uvarint (x / 128))[lead (uvarint (x / 128))]:=by
      simp only [e]
      simp [e0]
     rw [← h4];exact h1
    rcases Nat.eq_zero_or_pos (lead (uvarint (x / 128))) with h0 | h0
    ·have h5:=val_take_succ (l:=uvarint (x / 128)) (k:=0) (by omega)
     have h6:(uvarint (x / 128))[0].toNat=0:=by simpa [h0] using h3
     rw [h6,List.take_of_length_le (by omega),val_uv] at h5
     simp [val] at h5
     omega
    ·exact ih2 ⟨h3,h0⟩
theorem uv_spare {l:List UInt8} (h:lead l+1=l.length):uvarint (val l)=l↔¬ (l[lead l].toNat=0/\0<lead l):=by
 constructor
 ·intro e
  have:=uv_last (val l) (val l) (Nat.le_refl _) (by rw [e];omega)
  simp only [e] at this
  exact this
 ·exact uv_of l h
theorem lead_append:∀ (a b:List UInt8),lead a<a.length->lead (a++b)=lead a
 | [],b,h=>by simp at h
 | x::a,b,h=>by
  rw [List.cons_append]
  by_cases hx:128<=x.toNat
  ·rw [lead,if_pos hx] at h ⊢
   rw [lead,if_pos hx,lead_append a b (by simpa using h)]
  ·rw [lead,if_neg hx,lead,if_neg hx]
theorem lead_take:∀ (l:List UInt8) (k:Nat),k<=lead l->lead (l.take k)=k
 | l,0,_=>by simp [lead]
 | [],k+1,h=>by simp [lead] at h
 | b::r,k+1,h=>by
  unfold lead at h
  split at h
  ·rename_i hb
   rw [List.take_succ_cons,lead,if_pos hb,lead_take r k (by omega)]
  ·omega
theorem get_put (n:Nat) (hn:n<18446744073709551616) (r:List UInt8):getL (uvarint n++r)=(n,(uvarint n).length,0):=by
 have h1:=lead_uv n
 have h10:=uvarint_length64 hn
 have hl:=lead_append (uvarint n) r (by omega)
 have hk:lead (uvarint n)<(uvarint n++r).length:=by simp;omega
 have hget:(uvarint n++r)[lead (uvarint n)]=(uvarint n)[lead (uvarint n)]:=List.getElem_append_left (by omega)
 have hsm:=lead_small (uvarint n) (by omega)
 have htk:(uvarint n++r).take (lead (uvarint n)+1)=uvarint n:=by rw [h1];simp
 have ht:lead (uvarint n)=9->(uvarint n++r)[lead (uvarint n)].toNat<=1:=by
  intro h9
  rw [hget]
  have h5:=val_take_succ (l:=uvarint n) (k:=lead (uvarint n)) (by omega)
  rw [h1,List.take_length,val_uv] at h5
  have h4:(128:Nat) ^ lead (uvarint n)=9223372036854775808:=by rw [h9]
  rw [h4] at h5
  omega
 rw [getL_last (k:=lead (uvarint n)) (by omega) (by omega) hk (by rw [hget];exact hsm) ht,htk,val_uv,if_neg,h1]
 rw [hget]
 exact uv_last n n (Nat.le_refl _) (by omega)
theorem get_cut (n:Nat) (hn:n<18446744073709551616) (k:Nat) (hk:k<(uvarint n).length):getL ((uvarint n).take k)=(0,0,30):=by
 have h1:=lead_uv n
 have h10:=uvarint_length64 hn
 have hl:=lead_take (uvarint n) k (by omega)
 exact getL_end (k:=k) (by omega) (by omega) (by simp;omega)
theorem bits_andNot128:∀ a:Fin 256,bits .andNot .u8 (a.val:Int) 128=((a.val % 128:Nat):Int):=by decide +kernel
theorem u8_andNot (c:UInt8):bits .andNot .u8 (c.toNat:Int) 128=((c.toNat % 128:Nat):Int):=bits_andNot128 ⟨c.toNat,c.toNat_lt⟩
theorem pow7 (k:Nat):(2:Nat) ^ (7*k)=128 ^ k:=by rw [Nat.pow_mul]
theorem or_shift {n c k:Nat} (hk:k<=9) (hn:n<128 ^ k) (h:c*128 ^ k<18446744073709551616) :
  bits .or .u64 (n:Int) ((c*128 ^ k:Nat):Int)=((n+c*128 ^ k:Nat):Int):=by
 have h9:128 ^ k<=128 ^ 9:=Nat.pow_le_pow_right (by omega) hk
 have h4:(128:Nat) ^ 9=9223372036854775808:=by decide
 have e:bits .or .u64 (n:Int) ((c*128 ^ k:Nat):Int)=(n:Int)+((c*128 ^ k:Nat):Int):=by
  apply bits_join_low .u64 64 (by decide) wraps_u64 (7*k)
  ·omega
  ·have:(n:Int)<((2 ^ (7*k):Nat):Int):=by rw [pow7];omega
   simpa using this
  ·omega
  ·omega
  ·have:(((c*128 ^ k:Nat):Int) % ((2 ^ (7*k):Nat):Int))=0:=by rw [pow7,← Int.natCast_emod];simp
   simpa using this
  ·omega
 rw [e]
 omega
def uv (n:Nat):List Nat:=(uvarint n).map UInt8.toNat
def gt (l:List Nat):Nat×Nat×Nat:=getL (l.map Nat.toUInt8)
theorem map_back (l:List UInt8):(l.map UInt8.toNat).map Nat.toUInt8=l:=by
 rw [List.map_map]
 conv=>rhs;rw [← List.map_id l]
 apply List.map_congr_left
 intro a _
 simp
theorem uv_lt {n:Nat}:∀ x∈uv n,x<256:=by
 intro x hx
 obtain ⟨a,_,rfl⟩:=List.mem_map.1 hx
 exact a.toNat_lt
theorem uv_len (n:Nat):(uv n).length=(uvarint n).length:=List.length_map _
theorem uv_pos (n:Nat):0<(uv n).length:=by rw [uv_len];exact uvarint_pos n
theorem uv_ten {n:Nat} (h:n<18446744073709551616):(uv n).length<=10:=by rw [uv_len];exact uvarint_length64 h
theorem gt_put (n:Nat) (hn:n<18446744073709551616) (r:List Nat):gt (uv n++r)=(n,(uv n).length,0):=by
 unfold gt uv
 rw [List.map_append,map_back,get_put n hn,List.length_map]
theorem gt_cut (n:Nat) (hn:n<18446744073709551616) (k:Nat) (hk:k<(uv n).length):gt ((uv n).take k)=(0,0,30):=by
 unfold gt uv
 rw [List.map_take,map_back,get_cut n hn k (by rwa [uv_len] at hk)]
theorem uv_small {n:Nat} (h:n<128):uv n=[n]:=by
 unfold uv
 rw [uvarint_small h]
 simp [u8_nat (show n<256 by omega)]
theorem getL_ok {l:List UInt8} {n u:Nat} (h:getL l=(n,u,0)):n<18446744073709551616/\l.take u=uvarint n/\u<=l.length:=by
 have hle:=lead_le l
 unfold getL at h
 split at h
 ·simp at h
 ·next h1 =>
  split at h
  ·simp at h
  ·next h2 =>
   split at h
   ·simp at h
   ·next h3 =>
    have hl:lead l<l.length:=by omega
    simp only [Prod.mk.injEq,and_true] at h
    obtain ⟨rfl,rfl⟩:=h
    rw [getD_at hl] at h3
    have hlt:lead l<=9:=by
     rcases Nat.lt_or_ge 9 (lead l) with h9 | h9
     ·exfalso
      apply h1
      have:=lead_big l 9 (by omega) h9
      exact ⟨by omega,by omega,by rw [getD_at (by omega)];omega⟩
     ·exact h9
    have ht:lead l=9->l[lead l].toNat<=1:=by
     intro e
     rcases Nat.lt_or_ge 1 l[lead l].toNat with h9 | h9
     ·exfalso
      apply h1
      have h10:9<l.length:=by omega
      have e2:l[9]=l[lead l]:=by simp only [e]
      exact ⟨by omega,h10,by rw [getD_at h10,e2];exact h9⟩
     ·exact h9
    refine ⟨val64 hlt hl ht,?_,by omega⟩
    have hlen:(l.take (lead l+1)).length=lead l+1:=by rw [List.length_take];omega
    have hld:lead (l.take (lead l+1))=lead l:=by
     have hsm:=lead_small l hl
     refine lead_eq (l:=l.take (lead l+1)) ?_ (by omega) (by simpa using hsm)
     rcases Nat.lt_or_ge (lead (l.take (lead l+1))) (lead l) with hh | hh
     ·exfalso
      have hs2:=lead_small (l.take (lead l+1)) (by omega)
      have hb:=lead_big l _ (by omega) hh
      simp at hs2
      omega
     ·exact hh
    refine ((uv_spare (l:=l.take (lead l+1)) (by omega)).2 ?_).symm
    simp only [hld]
    rintro ⟨h4,h5⟩
    exact h3 ⟨by simpa using h4,h5⟩
theorem gt_ok {l:List Nat} {n u:Nat} (hl:∀ x∈l,x<256) (h:gt l=(n,u,0)):n<18446744073709551616/\l=uv n++l.drop u/\u=(uv n).length:=by
 obtain ⟨h1,h2,h3⟩:=getL_ok h
 have e:l.take u=uv n:=by
  unfold uv
  rw [← h2,← List.map_take,map_fwd (fun x hx=>hl x (List.mem_of_mem_take hx))]
 refine ⟨h1,?_,?_⟩
 ·rw [← e,List.take_append_drop]
 ·rw [← e,List.length_take]
  rw [List.length_map] at h3
  omega
def bindR {α β : Type} (d:List Nat->Except Nat (α×List Nat)) (f:α->List Nat->Except Nat (β×List Nat)) (b:List Nat):Except Nat (β×List Nat) :=
 match d b with
 | .ok (x,r)=>f x r
 | .error e=>.error e
theorem bindR_ok {α β : Type} {d:List Nat->Except Nat (α×List Nat)} {f:α->List Nat->Except Nat (β×List Nat)} {b r:List Nat} {x:α} (h:d b=.ok (x,r)):bindR d f b=f x r:=by
 unfold bindR;rw [h]
theorem bindR_error {α β : Type} {d:List Nat->Except Nat (α×List Nat)} {f:α->List Nat->Except Nat (β×List Nat)} {b:List Nat} {e:Nat} (h:d b=.error e):bindR d f b=.error e:=by
 unfold bindR;rw [h]
def Reads {α : Type} (d:List Nat->Except Nat (α×List Nat)) (e:List Nat) (x:α):Prop :=
 (∀ r,d (e++r)=.ok (x,r))/\∀ k,k<e.length->d (e.take k)=.error 30
def Ends {α : Type} (d:List Nat->Except Nat (α×List Nat)) (e:List Nat) (x:α):Prop :=
 d e=.ok (x,[])/\(∀ y r,d (e++y::r)=.error 32∨d (e++y::r)=.ok (x,y::r))/\∀ k,k<e.length->d (e.take k)=.error 30
theorem Reads.ends {α : Type} {d:List Nat->Except Nat (α×List Nat)} {e:List Nat} {x:α} (h:Reads d e x):Ends d e x :=
 ⟨by have:=h.1 [];rwa [List.append_nil] at this,fun y r=>Or.inr (h.1 _),h.2⟩
theorem Reads.pure {α : Type} (x:α):Reads (fun b=>.ok (x,b)) [] x:=⟨fun r=>rfl,fun k h=>by simp at h⟩
theorem Reads.bind {α β : Type} {d:List Nat->Except Nat (α×List Nat)} {f:α->List Nat->Except Nat (β×List Nat)} {e e':List Nat} {x:α} {y:β} (h1:Reads d e x) (h2:Reads (f x) e' y) :
  Reads (bindR d f) (e++e') y:=by
 refine ⟨fun r=>?_,fun k hk=>?_⟩
 ·rw [List.append_assoc,bindR_ok (h1.1 _)]
  exact h2.1 r
 ·rw [List.take_append]
  rcases Nat.lt_or_ge k e.length with h | h
  ·rw [show k-e.length=0 by omega,List.take_zero,List.append_nil]
   exact bindR_error (h1.2 k h)
  ·rw [List.take_of_length_le h,bindR_ok (h1.1 _)]
   exact h2.2 _ (by rw [List.length_append] at hk;omega)
theorem Reads.then {α β : Type} {d:List Nat->Except Nat (α×List Nat)} {f:α->List Nat->Except Nat (β×List Nat)} {e e':List Nat} {x:α} {y:β} (h1:Reads d e x) (h2:Ends (f x) e' y) :
  Ends (bindR d f) (e++e') y:=by
 refine ⟨?_,fun z r=>?_,fun k hk=>?_⟩
 ·rw [bindR_ok (h1.1 _)]
  exact h2.1
 ·rw [List.append_assoc,bindR_ok (h1.1 _)]
  exact h2.2.1 z r
 ·rw [List.take_append]
  rcases Nat.lt_or_ge k e.length with h | h
  ·rw [show k-e.length=0 by omega,List.take_zero,List.append_nil]
   exact bindR_error (h1.2 k h)
  ·rw [List.take_of_length_le h,bindR_ok (h1.1 _)]
   exact h2.2.2 _ (by rw [List.length_append] at hk;omega)
theorem Reads.map {α β : Type} {d:List Nat->Except Nat (α×List Nat)} {e:List Nat} {x:α} (g:α->β) (h:Reads d e x):Reads (bindR d fun a r=>.ok (g a,r)) e (g x):=by
 have:=h.bind (f:=fun a r=>.ok (g a,r)) (e':=[]) (y:=g x) (Reads.pure (g x))
 rwa [List.append_nil] at this
theorem Ends.map {α β : Type} {d:List Nat->Except Nat (α×List Nat)} {e:List Nat} {x:α} (g:α->β) (h:Ends d e x):Ends (bindR d fun a r=>.ok (g a,r)) e (g x):=by
 refine ⟨by rw [bindR_ok h.1],fun y r=>?_,fun k hk=>bindR_error (h.2.2 k hk)⟩
 rcases h.2.1 y r with h1 | h1
 ·exact Or.inl (bindR_error h1)
 ·exact Or.inr (by rw [bindR_ok h1])
def num (b:List Nat):Except Nat (Nat×List Nat):=if (gt b).2.2=0 then .ok ((gt b).1,b.drop (gt b).2.1) else .error (gt b).2.2
theorem num_reads {n:Nat} (hn:n<18446744073709551616):Reads num (uv n) n:=by
 refine ⟨fun r=>?_,fun k hk=>?_⟩
 ·unfold num
  rw [gt_put n hn r,if_pos rfl,List.drop_left]
 ·unfold num
  rw [gt_cut n hn k hk,if_neg (by simp)]
def unzig (u:Nat):Int:=if u % 2=0 then ((u / 2:Nat):Int) else -((u / 2:Nat):Int)-1
theorem unzig_zig (z:Int):unzig (zigzag z)=z:=by
 unfold unzig zigzag
 split<;>split<;>omega
theorem zig_unzig (u:Nat):zigzag (unzig u)=u:=by
 unfold unzig zigzag
 split<;>split<;>omega
theorem unzig_i64 {u:Nat} (h:u<18446744073709551616):I64 (unzig u):=by
 unfold unzig I64
 split<;>omega
def wv (x:Int):List Nat:=uv (zigzag x)
def wh (b:List Nat):Except Nat (Int×List Nat):=if (gt b).2.2=0 then .ok (unzig (gt b).1,b.drop (gt b).2.1) else .error (gt b).2.2
theorem wh_reads {x:Int} (hx:I64 x):Reads wh (wv x) x:=by
 have hn:=zigzag_lt hx.1 hx.2
 refine ⟨fun r=>?_,fun k hk=>?_⟩
 ·unfold wh wv
  rw [gt_put _ hn r,if_pos rfl,List.drop_left,unzig_zig]
 ·unfold wh
  rw [wv,gt_cut _ hn k hk,if_neg (by simp)]
theorem num_ok {b r:List Nat} {n:Nat} (hb:∀ x∈b,x<256) (h:num b=.ok (n,r)):n<18446744073709551616/\b=uv n++r:=by
 unfold num at h
 split at h
 ·next h0 =>
  simp only [Except.ok.injEq,Prod.mk.injEq] at h
  obtain ⟨h1,h2⟩:=h
  obtain ⟨g1,g2,_⟩:=gt_ok (n:=(gt b).1) (u:=(gt b).2.1) hb (by rw [← h0])
  rw [h1] at g1 g2
  exact ⟨g1,by rw [← h2];exact g2⟩
 ·simp at h
theorem wh_ok {b r:List Nat} {x:Int} (hb:∀ x∈b,x<256) (h:wh b=.ok (x,r)):I64 x/\b=wv x++r:=by
 unfold wh at h
 split at h
 ·next h0 =>
  simp only [Except.ok.injEq,Prod.mk.injEq] at h
  obtain ⟨rfl,h2⟩:=h
  obtain ⟨g1,g2,_⟩:=gt_ok (n:=(gt b).1) (u:=(gt b).2.1) hb (by rw [← h0])
  refine ⟨unzig_i64 g1,?_⟩
  unfold wv
  rw [zig_unzig,← h2]
  exact g2
 ·simp at h
theorem wv_lt {x:Int}:∀ y∈wv x,y<256:=uv_lt
theorem wv_ten {x:Int} (h:I64 x):(wv x).length<=10:=uv_ten (zigzag_lt h.1 h.2)
end Go.Proofs.YtpljdjmpamjkhaaGreatDoor
set_option linter.unusedVariables false
set_option linter.unusedSimpArgs false
namespace Go.Proofs.YtpljdjmpamjkhaaGreatDoor
open Go Go.Lib
/-! Schemas that grow. -/
/-! Bytes. -/
def packF (f:Fd):List Nat:=uv f.1++uv f.2.1.size++natsT f.2.1++uv f.2.2.1++uv (flagN f.2.2.2)
def packL (l:List Fd):List Nat:=l.flatMap packF
def packM (id:Nat) (l:List Fd):List Nat:=uv id++uv l.length++packL l
theorem packL_step {l:List Fd} {i:Nat} (h:i<l.length):packL (l.take (i+1))=packL (l.take i)++packF l[i]:=by
 unfold packL
 rw [List.take_succ_eq_append_getElem h,List.flatMap_append]
 simp
theorem packF_len {f:Fd} (h:Okf f) (hs:f.2.1.size<18446744073709551616):(packF f).length<=40+f.2.1.size:=by
 unfold packF
 have h1:=uv_ten (n:=f.1) (by have:=h.1;omega)
 have h2:=uv_ten (n:=f.2.1.size) hs
 have h3:=uv_ten (n:=f.2.2.1) (by have:=h.2;omega)
 have h4:=uv_ten (n:=flagN f.2.2.2) (by unfold flagN;split<;>omega)
 simp only [List.length_append,natsT_len]
 omega
theorem packL_len {l:List Fd} (h:∀ f∈l,Okf f) (hs:szs l<5000):(packL l).length<=40*l.length+szs l:=by
 induction l with
 | nil=>simp [packL]
 | cons f t ih =>
  have hz:szs (f::t)=f.2.1.size+szs t:=by simp [szs]
  have:=ih (fun g hg=>h g (by simp [hg])) (by omega)
  have h2:=packF_len (h f (by simp)) (by omega)
  unfold packL at *
  rw [List.flatMap_cons,List.length_append,List.length_cons,hz]
  omega
def numU (room:Nat) (b:List Nat):Except Nat (Nat×List Nat) :=
 if (gt b).2.2≠0 then .error (gt b).2.2 else if room<(gt b).1 then .error 40 else .ok ((gt b).1,b.drop (gt b).2.1)
def textU (room:Nat):List Nat->Except Nat (ByteArray×List Nat):=bindR (numU room) textR
def fldU:List Nat->Except Nat (Fd×List Nat) :=
 bindR (numU 4294967295) fun i=>bindR (textU 16) fun s=>bindR (numU 255) fun k=>bindR (numU 1) fun n r=>.ok ((i,s,k,decide (n=1)),r)
def fldsU:Nat->List Nat->Except Nat (List Fd×List Nat)
 | 0=>fun b=>.ok ([],b)
 | n+1=>bindR (fldsU n) fun l=>bindR fldU fun f r=>.ok (l++[f],r)
def schU:List Nat->Except Nat ((Nat×List Fd)×List Nat) :=
 bindR (numU 4294967295) fun i=>bindR (numU 8) fun n=>bindR (fldsU n) fun l r=>.ok ((i,l),r)
def unpackM (b:List Nat):Except Nat ((Nat×List Fd)×List Nat) :=
 bindR schU (fun s r=>if chk s.1 s.2=0 then .ok (s,r) else .error (chk s.1 s.2)) b
theorem Rds.bind {α β : Type} {m:List Nat->Except Nat (α×List Nat)} {k:α->List Nat->Except Nat (β×List Nat)} {l l1 l2:List Nat} {f f1 f2:Nat} {x:α} {y:β}
  (h1:Rds m l f x l1 f1) (h2:Rds (k x) l1 f1 y l2 f2):Rds (bindR m k) l f y l2 f2:=by
 refine ⟨fun h0=>?_,fun h0=>?_⟩
 ·have e1:=h1.1 h0
  by_cases hf:f1=0
  ·rw [if_pos hf] at e1
   rw [bindR_ok e1]
   exact h2.1 hf
  ·rw [if_neg hf] at e1
   rw [bindR_error e1,h2.2 hf,if_neg hf]
 ·have e1:=h1.2 h0
  rw [h2.2 (by omega),e1]
theorem rds_num {room:Nat} {l:List Nat} {f:Nat}:Rds (numU room) l f (if (gt l).2.2≠0∨room<(gt l).1 then 0 else (gt l).1) (if (gt l).2.2≠0∨room<(gt l).1 then l else l.drop (gt l).2.1)
  (if f=0 then (if (gt l).2.2≠0 then (gt l).2.2 else if room<(gt l).1 then 40 else 0) else f):=by
 refine ⟨fun h0=>?_,fun h0=>if_neg h0⟩
 rw [if_pos h0]
 unfold numU
 by_cases h1:(gt l).2.2≠0
 ·rw [if_pos h1,if_pos h1,if_neg h1]
 ·rw [if_neg h1,if_neg h1]
  by_cases h2:room<(gt l).1
  ·rw [if_pos h2,if_pos h2,if_neg (by omega)]
  ·rw [if_neg h2,if_neg h2,if_pos rfl,if_neg (by omega),if_neg (by omega)]
theorem Eith.bind {α β : Type} {m:List Nat->Except Nat (α×List Nat)} {k:α->List Nat->Except Nat (β×List Nat)} {e e':List Nat} {x:α} {y:β} (h1:Eith m e x) (h2:Eith (k x) e' y):Eith (bindR m k) (e++e') y:=by
 intro r
 rw [List.append_assoc]
 rcases h1 (e'++r) with h | ⟨c,hc,h⟩
 ·rw [bindR_ok h];exact h2 r
 ·rw [bindR_error h];exact Or.inr ⟨c,hc,rfl⟩
theorem Just.bind {α β : Type} {m:List Nat->Except Nat (α×List Nat)} {k:α->List Nat->Except Nat (β×List Nat)} {e e':List Nat} {x:α} {y:β} (h1:Just m e x) (h2:Just (k x) e' y):Just (bindR m k) (e++e') y:=by
 intro r
 rw [List.append_assoc,bindR_ok (h1 (e'++r))]
 exact h2 r
theorem just_num {room n:Nat} (hn:n<18446744073709551616) (hr:n<=room):Just (numU room) (uv n) n:=by
 intro r
 unfold numU
 rw [gt_put n hn r]
 simp only
 rw [if_neg (by omega),if_neg (by omega),List.drop_left]
theorem eith_num {room n:Nat} (hn:n<18446744073709551616):Eith (numU room) (uv n) n:=by
 intro r
 by_cases hr:n<=room
 ·exact Or.inl (just_num hn hr r)
 ·right
  refine ⟨40,by omega,?_⟩
  unfold numU
  rw [gt_put n hn r]
  simp only
  rw [if_neg (by omega),if_pos (by omega)]
theorem eith_fld {f:Fd} (h:Okf f) (hs:f.2.1.size<18446744073709551616):Eith fldU (packF f) f:=by
 obtain ⟨i,s,k,n⟩:=f
 have h1:=h.1
 have h2:=h.2
 simp only at h1 h2 hs
 have e:packF (i,s,k,n)=uv i++((uv s.size++natsT s)++(uv k++(uv (flagN n)++[]))):=by simp [packF]
 rw [e]
 refine (eith_num (by omega)).bind (((eith_num hs).bind (just_textR s).eith).bind ((eith_num (by omega)).bind ((eith_num (by unfold flagN;split<;>omega)).bind ?_)))
 intro r
 left
 rw [flag_one]
 rfl
theorem just_fld {f:Fd} (h:Okf f) (hs:f.2.1.size<=16):Just fldU (packF f) f:=by
 obtain ⟨i,s,k,n⟩:=f
 have h1:=h.1
 have h2:=h.2
 simp only at h1 h2 hs
 have e:packF (i,s,k,n)=uv i++((uv s.size++natsT s)++(uv k++(uv (flagN n)++[]))):=by simp [packF]
 rw [e]
 have hfl:flagN n<=1:=by unfold flagN;split<;>omega
 refine (just_num (by omega) (by omega)).bind (((just_num (by omega) hs).bind (just_textR s)).bind ((just_num (by omega) (by omega)).bind ((just_num (by omega) hfl).bind ?_)))
 intro r
 rw [flag_one]
 rfl
theorem eith_flds {l:List Fd} (h:∀ f∈l,Okf f/\f.2.1.size<18446744073709551616):∀ n,n<=l.length->Eith (fldsU n) (packL (l.take n)) (l.take n):=by
 intro n
 induction n with
 | zero=>intro _;exact (just_pure _).eith
 | succ n ih =>
  intro hn
  have hf:=h l[n] (List.getElem_mem (by omega))
  rw [packL_step (by omega),List.take_succ_eq_append_getElem (by omega),← List.append_nil (packF l[n])]
  exact (ih (by omega)).bind ((eith_fld hf.1 hf.2).bind (fun r=>Or.inl rfl))
theorem just_flds {l:List Fd} (h:∀ f∈l,Okf f/\f.2.1.size<=16):∀ n,n<=l.length->Just (fldsU n) (packL (l.take n)) (l.take n):=by
 intro n
 induction n with
 | zero=>intro _;exact just_pure _
 | succ n ih =>
  intro hn
  have hf:=h l[n] (List.getElem_mem (by omega))
  rw [packL_step (by omega),List.take_succ_eq_append_getElem (by omega),← List.append_nil (packF l[n])]
  exact (ih (by omega)).bind ((just_fld hf.1 hf.2).bind (fun r=>rfl))
theorem unpack_pack {id:Nat} {l:List Fd} (hid:id<4294967296) (ho:∀ f∈l,Okf f) (hs:szs l<5000) (hl:l.length<=100) (r:List Nat) :
  if chk id l=0 then unpackM (packM id l++r)=.ok ((id,l),r) else ∃ c,c≠0/\unpackM (packM id l++r)=.error c:=by
 have e:packM id l=uv id++(uv l.length++(packL l++[])):=by simp [packM]
 by_cases h:chk id l=0
 ·rw [if_pos h]
  have hr:=chk_rise h
  have hfe:fe [] l=0:=by
   unfold chk at h
   rwa [if_neg (by omega)] at h
  have hn:=fe_named hfe
  have hjf:=just_flds (fun f hf=>⟨ho f hf,hn f hf⟩) l.length (Nat.le_refl _)
  rw [List.take_length] at hjf
  have hj:Just schU (packM id l) (id,l):=by
   rw [e]
   exact (just_num (by omega) (by omega)).bind ((just_num (by omega) (by omega)).bind ((hjf).bind (fun r=>rfl)))
  unfold unpackM
  rw [bindR_ok (hj r)]
  simp only
  rw [if_pos h]
 ·rw [if_neg h]
  have hjf:=eith_flds (l:=l) (fun f hf=>⟨ho f hf,by have:=szs_mem hf;omega⟩) l.length (Nat.le_refl _)
  rw [List.take_length] at hjf
  have hj:Eith schU (packM id l) (id,l):=by
   rw [e]
   exact (eith_num (by omega)).bind ((eith_num (by omega)).bind ((hjf).bind (fun r=>Or.inl rfl)))
  unfold unpackM
  rcases hj r with h2 | ⟨c,hc,h2⟩
  ·rw [bindR_ok h2]
   simp only
   rw [if_neg h]
   exact ⟨_,h,rfl⟩
  ·rw [bindR_error h2]
   exact ⟨c,hc,rfl⟩
end Go.Proofs.YtpljdjmpamjkhaaGreatDoor
