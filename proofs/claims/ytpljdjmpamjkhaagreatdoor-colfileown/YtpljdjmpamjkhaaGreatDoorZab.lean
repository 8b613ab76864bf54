/- Signs of a list of bytes: what the model tells, one by one; bytes of a sign; clean texts. No program here. Schemas, no program: places of fields, rows that fit; texts as lists of numbers. Lists in memory, and what stays; what walks share. -/
import Derived.Lib.DecodeN
import Derived.Laws.Strings
import Derived.Test.YtpljdjmpamjkhaaGreatDoorProg
import Derived.WalkKit
import Derived.WalkLawsBesides
import Derived.Outline
import Derived.WalkSpells
import Derived.Lib.OthersKept
import Derived.Maps.AppendAt
import Derived.Laws.OwnMore
import Derived.BigQuiet
import Derived.BigRegion
import Derived.Deep.RegionHeld3
import Derived.Deep.RegionWith
set_option linter.unusedVariables false
set_option linter.unusedSimpArgs false
set_option maxHeartbeats 1000000
namespace Go.Proofs.YtpljdjmpamjkhaaGreatDoor
open Go
open Go.Lib (decodeN)
def unit (l:List UInt8):Nat×Nat:=decodeN l.length (l.getD 0 0).toNat (l.getD 1 0).toNat (l.getD 2 0).toNat (l.getD 3 0).toNat
def vr (c:Nat):Prop:=c<55296∨(57344<=c/\c<=1114111)
def bt (n:Nat):UInt8:=UInt8.ofNat n
theorem bt_toNat {n:Nat} (h:n<256):(bt n).toNat=n:=by
 simp [bt];omega
def encL (c:Nat):List UInt8 :=
 if c<128 then [bt c]
 else if c<2048 then [bt (192+c / 64),bt (128+c % 64)]
 else if c<65536 then [bt (224+c / 4096),bt (128+c / 64 % 64),bt (128+c % 64)]
 else [bt (240+c / 262144),bt (128+c / 4096 % 64),bt (128+c / 64 % 64),bt (128+c % 64)]
theorem encode_eq (c:Nat) (h:vr c):(Utf8.encode (c:Int)).data.toList=encL c:=by
 have hv:Utf8.valid (c:Int)=true:=by
  simp only [Utf8.valid,vr] at *
  rcases h with h | h
  ·simp;omega
  ·simp;omega
 simp only [Utf8.encode,hv,if_true,Int.toNat_natCast,encL]
 repeat' split
 all_goals rfl
theorem encL_pos (c:Nat):1<=(encL c).length/\(encL c).length<=4:=by
 unfold encL
 repeat' split
 all_goals simp
theorem byte_lt (l:List UInt8) (k:Nat):(l.getD k 0).toNat<256:=UInt8.toNat_lt _
theorem unit_enc (c:Nat) (h:vr c) (y:List UInt8):unit (encL c++y)=(c,(encL c).length):=by
 unfold vr at h
 unfold encL
 split
 ·simp only [unit,List.cons_append,List.nil_append,List.getD_cons_zero,List.length_cons]
  rw [bt_toNat (by omega)]
  simp only [decodeN]
  rw [if_pos (by omega)]
  rfl
 ·split
  ·simp only [unit,List.cons_append,List.nil_append,List.getD_cons_zero,List.getD_cons_succ,List.length_cons]
   rw [bt_toNat (by omega),bt_toNat (by omega)]
   simp only [decodeN]
   rw [if_neg (by omega),if_pos (by omega),if_pos (by omega)]
   congr 1
   omega
  ·split
   ·simp only [unit,List.cons_append,List.nil_append,List.getD_cons_zero,List.getD_cons_succ,List.length_cons]
    rw [bt_toNat (by omega),bt_toNat (by omega),bt_toNat (by omega)]
    simp only [decodeN]
    rw [if_neg (by omega),if_neg (by omega),if_pos (by omega),if_pos (by omega)]
    congr 1
    omega
   ·simp only [unit,List.cons_append,List.nil_append,List.getD_cons_zero,List.getD_cons_succ,List.length_cons]
    rw [bt_toNat (by omega),bt_toNat (by omega),bt_toNat (by omega),bt_toNat (by omega)]
    simp only [decodeN]
    rw [if_neg (by omega),if_neg (by omega),if_neg (by omega),if_pos (by omega),if_pos (by omega)]
    congr 1
    omega
theorem bt_of (x:UInt8) (n:Nat) (h:x.toNat=n):x=bt n:=by
 subst h
 simp [bt]
def ok (u:Nat×Nat):Bool:=!(u.1==65533 && u.2==1)
theorem ok_of_wide {c w:Nat} (h:w≠1):ok (c,w)=true:=by simp [ok,h]
theorem unit_cases (l:List UInt8) (hl:l≠[]):unit l=(65533,1)∨(vr (unit l).1/\(unit l).2=(encL (unit l).1).length/\(unit l).1≠65533∨unit l=(65533,3))/\∃ y,l=encL (unit l).1++y:=by
 match l,hl with
 | b0::t,_ =>
  have h0:b0.toNat<256:=UInt8.toNat_lt _
  by_cases ha:b0.toNat<128
  ·right
   have hu:unit (b0::t)=(b0.toNat,1):=by simp only [unit,List.getD_cons_zero,decodeN];rw [if_pos ha]
   rw [hu]
   have he:encL b0.toNat=[b0]:=by simp only [encL];rw [if_pos ha,← bt_of b0 _ rfl]
   refine ⟨Or.inl ⟨Or.inl (by show b0.toNat<55296;omega),by simp [he],by simp;omega⟩,t,by simp [he]⟩
  ·by_cases h2:194<=b0.toNat/\b0.toNat<224
   ·cases t with
    | nil=>left;simp only [unit,decodeN,List.getD_cons_zero,List.length_cons,List.length_nil];rw [if_neg ha,if_neg (by omega),if_neg (by omega),if_neg (by omega)]
    | cons b1 t =>
     have h1:b1.toNat<256:=UInt8.toNat_lt _
     by_cases hc:b1.toNat / 64=2
     ·right
      have hu:unit (b0::b1::t)=(b0.toNat % 32*64+b1.toNat % 64,2):=by simp only [unit,List.getD_cons_zero,List.getD_cons_succ,List.length_cons,decodeN];rw [if_neg ha,if_pos (by omega),if_pos (by omega)]
      rw [hu]
      have he:encL (b0.toNat % 32*64+b1.toNat % 64)=[b0,b1]:=by
       simp only [encL];rw [if_neg (by omega),if_pos (by omega),← bt_of b0 _ (by omega),← bt_of b1 _ (by omega)]
      refine ⟨Or.inl ⟨Or.inl (by simp only;omega),by simp [he],by simp only;omega⟩,t,by simp [he]⟩
     ·left
      simp only [unit,List.getD_cons_zero,List.getD_cons_succ,List.length_cons,decodeN];rw [if_neg ha,if_neg (by omega),if_neg (by omega),if_neg (by omega)]
   ·by_cases h3:224<=b0.toNat/\b0.toNat<240
    ·match t with
     | []=>left;simp only [unit,decodeN,List.getD_cons_zero,List.length_cons,List.length_nil];rw [if_neg ha,if_neg (by omega),if_neg (by omega),if_neg (by omega)]
     | [b1]=>left;simp only [unit,decodeN,List.getD_cons_zero,List.length_cons,List.length_nil];rw [if_neg ha,if_neg (by omega),if_neg (by omega),if_neg (by omega)]
     | b1::b2::t =>
      have h1:b1.toNat<256:=UInt8.toNat_lt _
      have h2':b2.toNat<256:=UInt8.toNat_lt _
      generalize hn:b0.toNat % 16*4096+b1.toNat % 64*64+b2.toNat % 64=n
      by_cases hc:b1.toNat / 64=2/\b2.toNat / 64=2/\n>=2048/\(n<55296∨(57344<=n/\n<=1114111))
      ·right
       have hu:unit (b0::b1::b2::t)=(n,3):=by simp only [unit,List.getD_cons_zero,List.getD_cons_succ,List.length_cons,decodeN];rw [hn,if_neg ha,if_neg (by omega),if_pos (by omega),if_pos (by omega)]
       rw [hu]
       have he:encL n=[b0,b1,b2]:=by
        simp only [encL];rw [if_neg (by omega),if_neg (by omega),if_pos (by omega),← bt_of b0 _ (by omega),← bt_of b1 _ (by omega),← bt_of b2 _ (by omega)]
       refine ⟨?_,t,by simp [he]⟩
       by_cases hne:n=65533
       ·right;rw [hne]
       ·exact Or.inl ⟨by simp only [vr];omega,by simp [he],hne⟩
      ·left
       simp only [unit,List.getD_cons_zero,List.getD_cons_succ,List.length_cons,decodeN]
       rw [hn,if_neg ha,if_neg (by omega)]
       split
       ·rw [if_neg (by omega)]
       ·rw [if_neg (by omega)]
    ·by_cases h4:240<=b0.toNat/\b0.toNat<248
     ·match t with
      | []=>left;simp only [unit,decodeN,List.getD_cons_zero,List.length_cons,List.length_nil];rw [if_neg ha,if_neg (by omega),if_neg (by omega),if_neg (by omega)]
      | [b1]=>left;simp only [unit,decodeN,List.getD_cons_zero,List.length_cons,List.length_nil];rw [if_neg ha,if_neg (by omega),if_neg (by omega),if_neg (by omega)]
      | [b1,b2]=>left;simp only [unit,decodeN,List.getD_cons_zero,List.length_cons,List.length_nil];rw [if_neg ha,if_neg (by omega),if_neg (by omega),if_neg (by omega)]
      | b1::b2::b3::t =>
       have h1:b1.toNat<256:=UInt8.toNat_lt _
       have h2':b2.toNat<256:=UInt8.toNat_lt _
       have h3':b3.toNat<256:=UInt8.toNat_lt _
       generalize hn:b0.toNat % 8*262144+b1.toNat % 64*4096+b2.toNat % 64*64+b3.toNat % 64=n
       by_cases hc:b1.toNat / 64=2/\b2.toNat / 64=2/\b3.toNat / 64=2/\n>=65536/\(n<55296∨(57344<=n/\n<=1114111))
       ·right
        have hu:unit (b0::b1::b2::b3::t)=(n,4):=by simp only [unit,List.getD_cons_zero,List.getD_cons_succ,List.length_cons,decodeN];rw [hn,if_neg ha,if_neg (by omega),if_neg (by omega),if_pos (by omega),if_pos (by omega)]
        rw [hu]
        have he:encL n=[b0,b1,b2,b3]:=by
         simp only [encL];rw [if_neg (by omega),if_neg (by omega),if_neg (by omega),← bt_of b0 _ (by omega),← bt_of b1 _ (by omega),← bt_of b2 _ (by omega),← bt_of b3 _ (by omega)]
        refine ⟨?_,t,by simp [he]⟩
        exact Or.inl ⟨by simp only [vr];omega,by simp [he],by omega⟩
       ·left
        simp only [unit,List.getD_cons_zero,List.getD_cons_succ,List.length_cons,decodeN]
        rw [hn,if_neg ha,if_neg (by omega),if_neg (by omega)]
        split
        ·rw [if_neg (by omega)]
        ·rfl
     ·left
      simp only [unit,List.getD_cons_zero,decodeN]
      rw [if_neg ha]
      split
      ·rw [if_neg (by have:=byte_lt (b0::t) 1;omega)]
      ·rw [if_neg (by omega),if_neg (by omega)]
theorem unit_width (l:List UInt8) (hl:l≠[]):1<=(unit l).2/\(unit l).2<=l.length:=by
 have hpos:1<=l.length:=by cases l with | nil=>exact absurd rfl hl | cons=>simp
 rcases unit_cases l hl with h | ⟨h,y,hy⟩
 ·rw [h];exact ⟨Nat.le_refl _,hpos⟩
 ·rcases h with ⟨_,h,_⟩ | h
  ·have:=encL_pos (unit l).1
   have hlen:=congrArg List.length hy
   simp at hlen
   omega
  ·have hlen:=congrArg List.length hy
   rw [h] at hlen ⊢
   have:(encL 65533).length=3:=by decide
   simp [this] at hlen
   simp
   omega
theorem unit_vr (l:List UInt8) (hl:l≠[]):vr (unit l).1:=by
 rcases unit_cases l hl with h | ⟨⟨h,_⟩ | h,_⟩
 ·rw [h];simp [vr]
 ·exact h
 ·rw [h];simp [vr]
def us:Nat->List UInt8->List (Nat×Nat)
 | 0,_=>[]
 | _+1,[]=>[]
 | f+1,b::t=>unit (b::t)::us f ((b::t).drop (unit (b::t)).2)
def V (l:List UInt8):List (Nat×Nat):=us l.length l
theorem us_fuel:∀ (f:Nat) (l:List UInt8),l.length<=f->∀ g,l.length<=g->us f l=us g l:=by
 intro f
 induction f with
 | zero=>intro l h g hg;cases l with | nil=>cases g<;>rfl | cons=>simp at h
 | succ f ih =>
  intro l h g hg
  cases l with
  | nil=>cases g<;>rfl
  | cons b t =>
   cases g with
   | zero=>simp at hg
   | succ g =>
    have hw:=unit_width (b::t) (by simp)
    simp only [us]
    congr 1
    simp at h hg hw
    exact ih _ (by simp;omega) _ (by simp;omega)
@[simp] theorem V_nil:V []=[]:=rfl
theorem V_step {l:List UInt8} (hl:l≠[]):V l=unit l::V (l.drop (unit l).2):=by
 cases l with
 | nil=>exact absurd rfl hl
 | cons b t =>
  have hw:=unit_width (b::t) (by simp)
  show us (t.length+1) (b::t)=_
  simp only [us]
  congr 1
  simp at hw
  exact us_fuel _ _ (by simp;omega) _ (by simp)
theorem V_length:∀ (n:Nat) (l:List UInt8),l.length<=n->(V l).length<=l.length:=by
 intro n
 induction n with
 | zero=>intro l h;cases l with | nil=>simp | cons=>simp at h
 | succ n ih =>
  intro l h
  by_cases hl:l=[]
  ·subst hl;simp
  ·rw [V_step hl]
   have hw:=unit_width l hl
   have:=ih (l.drop (unit l).2) (by simp;omega)
   simp at this ⊢
   omega
theorem V_le (l:List UInt8):(V l).length<=l.length:=V_length _ l (Nat.le_refl _)
theorem V_vr:∀ (n:Nat) (l:List UInt8),l.length<=n->∀ u∈V l,vr u.1/\1<=u.2:=by
 intro n
 induction n with
 | zero=>intro l h;cases l with | nil=>simp | cons=>simp at h
 | succ n ih =>
  intro l h u hu
  by_cases hl:l=[]
  ·subst hl;simp at hu
  ·rw [V_step hl] at hu
   have hw:=unit_width l hl
   simp at hu
   rcases hu with rfl | hu
   ·exact ⟨unit_vr l hl,hw.1⟩
   ·exact ih _ (by simp;omega) u hu
theorem enc_ne (c:Nat) (y:List UInt8):encL c++y≠[]:=by
 have:=encL_pos c
 intro h
 have h2:=congrArg List.length h
 simp at h2
 rw [h2.1] at this
 simp at this
theorem V_enc {c:Nat} (h:vr c) (y:List UInt8):V (encL c++y)=(c,(encL c).length)::V y:=by
 rw [V_step (enc_ne c y),unit_enc c h y]
 simp
def eu (c:Nat):Nat×Nat:=(c,(encL c).length)
def flat (rs:List Nat):List UInt8:=rs.flatMap encL
@[simp] theorem flat_nil:flat []=[]:=rfl
@[simp] theorem flat_cons (c:Nat) (rs:List Nat):flat (c::rs)=encL c++flat rs:=rfl
@[simp] theorem flat_append (a b:List Nat):flat (a++b)=flat a++flat b:=by simp [flat]
theorem V_flat (rs:List Nat) (h:∀ r∈rs,vr r) (y:List UInt8):V (flat rs++y)=rs.map eu++V y:=by
 induction rs with
 | nil=>rfl
 | cons c rs ih =>
  rw [flat_cons,List.append_assoc,V_enc (h c (by simp))]
  rw [ih (fun r hr=>h r (by simp [hr]))]
  rfl
def clean (l:List UInt8):Bool:=(V l).all ok
def runes (l:List UInt8):List Nat:=(V l).map Prod.fst
theorem V_flat0 (rs:List Nat) (h:∀ r∈rs,vr r):V (flat rs)=rs.map eu:=by
 have:=V_flat rs h []
 simpa using this
theorem unit_ok {l:List UInt8} (hl:l≠[]) (ho:ok (unit l)=true):unit l=eu (unit l).1/\∃ y,l=encL (unit l).1++y:=by
 rcases unit_cases l hl with h | ⟨h,y,hy⟩
 ·rw [h] at ho;simp [ok] at ho
 ·refine ⟨?_,y,hy⟩
  rcases h with ⟨_,h,_⟩ | h
  ·exact Prod.ext rfl h
  ·rw [h];decide
theorem flat_of_clean:∀ (n:Nat) (l:List UInt8),l.length<=n->clean l=true->l=flat (runes l)/\V l=(runes l).map eu:=by
 intro n
 induction n with
 | zero=>intro l h hc;cases l with | nil=>exact ⟨rfl,rfl⟩ | cons=>simp at h
 | succ n ih =>
  intro l h hc
  by_cases hl:l=[]
  ·subst hl;exact ⟨rfl,rfl⟩
  ·have hw:=unit_width l hl
   unfold clean at hc
   rw [V_step hl,List.all_cons,Bool.and_eq_true] at hc
   obtain ⟨hu,y,hy⟩:=unit_ok hl hc.1
   have hd:l.drop (unit l).2=y:=by
    have h2:(unit l).2=(encL (unit l).1).length:=congrArg Prod.snd hu
    rw [h2]
    conv=>lhs;arg 2;rw [hy]
    simp
   obtain ⟨e1,e2⟩:=ih (l.drop (unit l).2) (by simp;omega) hc.2
   have hr:runes l=(unit l).1::runes (l.drop (unit l).2):=by
    unfold runes;rw [V_step hl];rfl
   rw [hr]
   constructor
   ·rw [flat_cons,← e1,hd];exact hy
   ·rw [V_step hl,e2,List.map_cons,← hu]
theorem clean_eq {l:List UInt8} (h:clean l=true):l=flat (runes l):=(flat_of_clean _ l (Nat.le_refl _) h).1
theorem clean_V {l:List UInt8} (h:clean l=true):V l=(runes l).map eu:=(flat_of_clean _ l (Nat.le_refl _) h).2
theorem runes_vr (l:List UInt8):∀ r∈runes l,vr r:=by
 intro r hr
 simp [runes] at hr
 obtain ⟨w,hw⟩:=hr
 exact (V_vr _ l (Nat.le_refl _) _ hw).1
def offs (u:List (Nat×Nat)) (k:Nat):Nat:=((u.take k).map Prod.snd).sum
@[simp] theorem offs_zero (u:List (Nat×Nat)):offs u 0=0:=by simp [offs]
theorem offs_succ {u t:List (Nat×Nat)} {k:Nat} {x:Nat×Nat} (h:u.drop k=x::t):offs u (k+1)=offs u k+x.2:=by
 have hk:k<u.length:=by
  rcases Nat.lt_or_ge k u.length with h1 | h1
  ·exact h1
  ·rw [List.drop_eq_nil_of_le h1] at h;cases h
 have hx:u[k]=x:=by
  rw [List.drop_eq_getElem_cons hk] at h
  exact (List.cons.inj h).1
 unfold offs
 rw [List.take_succ_eq_append_getElem hk,hx]
 simp
theorem drop_succ {u t:List (Nat×Nat)} {k:Nat} {x:Nat×Nat} (h:u.drop k=x::t):u.drop (k+1)=t:=by
 rw [← List.drop_drop,h];rfl
def At (l:List UInt8) (p k:Nat):Prop:=p<=l.length/\V (l.drop p)=(V l).drop k/\p=offs (V l) k/\k<=(V l).length
theorem At.zero (l:List UInt8):At l 0 0:=⟨by omega,by simp,by simp,by omega⟩
theorem drop_ne {l:List UInt8} {p:Nat} (h:p<l.length):l.drop p≠[]:=by
 intro h2
 have:=congrArg List.length h2
 simp at this
 omega
theorem At.lt {l:List UInt8} {p k:Nat} (h:At l p k) (hp:p<l.length):(V l).drop k=unit (l.drop p)::V (l.drop (p+(unit (l.drop p)).2)):=by
 rw [← h.2.1,V_step (drop_ne hp),List.drop_drop]
theorem At.len {l:List UInt8} {p k:Nat} (h:At l p k) (hp:p<l.length):k<(V l).length:=by
 have h1:=h.lt hp
 rcases Nat.lt_or_ge k (V l).length with h2 | h2
 ·exact h2
 ·rw [List.drop_eq_nil_of_le h2] at h1;cases h1
theorem At.get {l:List UInt8} {p k:Nat} (h:At l p k) (hp:p<l.length):(V l)[k]?=some (unit (l.drop p)):=by
 have h1:=h.lt hp
 have hk:=h.len hp
 rw [List.drop_eq_getElem_cons hk] at h1
 rw [List.getElem?_eq_getElem hk,(List.cons.inj h1).1]
theorem At.next {l:List UInt8} {p k:Nat} (h:At l p k) (hp:p<l.length):At l (p+(unit (l.drop p)).2) (k+1):=by
 have h1:=h.lt hp
 have hw:=unit_width _ (drop_ne hp)
 simp at hw
 refine ⟨by omega,?_,?_,h.len hp⟩
 ·rw [drop_succ h1]
 ·rw [offs_succ h1,← h.2.2.1]
theorem At.end {l:List UInt8} {p k:Nat} (h:At l p k) (hp:¬ p<l.length):k=(V l).length/\p=l.length:=by
 have h1:=h.2.1
 rw [List.drop_eq_nil_of_le (by omega)] at h1
 have h2:=congrArg List.length h1
 simp at h2
 have:=h.2.2.2
 have:=h.1
 exact ⟨by omega,by omega⟩
theorem take_all {l:List UInt8} {p k:Nat} (h:At l p k) (hp:p<l.length):((V l).take (k+1))=(V l).take k++[unit (l.drop p)]:=by
 have hk:=h.len hp
 have hg:=h.get hp
 rw [List.getElem?_eq_getElem hk] at hg
 rw [List.take_succ_eq_append_getElem hk,Option.some.inj hg]
theorem stray_prefix {l:List UInt8} (hl:l≠[]) (h:(unit l).1=65533):([239,191,189]:List UInt8).isPrefixOf l=ok (unit l):=by
 rcases unit_cases l hl with hu | ⟨hu,y,hy⟩
 ·rw [hu]
  cases hp:([239,191,189]:List UInt8).isPrefixOf l with
  | false=>rfl
  | true =>
   exfalso
   obtain ⟨y,hy⟩:=List.isPrefixOf_iff_prefix.1 hp
   have h2:unit l=(65533,3):=by
    rw [← hy]
    exact unit_enc 65533 (by simp [vr]) y
   rw [hu] at h2
   cases h2
 ·rw [h] at hy
  have hu3:unit l=(65533,3):=by
   rcases hu with ⟨_,_,h2⟩ | h2
   ·exact absurd h h2
   ·exact h2
  rw [hu3,hy]
  have:encL 65533=[239,191,189]:=by decide
  rw [this]
  simp [ok]
theorem decode_unit (s:ByteArray) (p:Nat):Utf8.decode s p=unit (s.data.toList.drop p):=by
 have hg:∀ k,s.get! k=s.data.toList.getD k 0:=by
  intro k
  show s.data[k]! = _
  by_cases h:k<s.data.size
  ·rw [getElem!_pos s.data k h,List.getD_eq_getElem?_getD,Array.getElem?_toList,Array.getElem?_eq_getElem h]
   rfl
  ·rw [getElem!_neg s.data k h,List.getD_eq_getElem?_getD,Array.getElem?_toList,Array.getElem?_eq_none (by omega)]
   rfl
 have hd:∀ k,(s.data.toList.drop p).getD k 0=s.data.toList.getD (p+k) 0:=by
  intro k;simp [List.getD_eq_getElem?_getD]
 rw [Lib.decode_at,hg,hg,hg,hg]
 unfold unit
 have hsz:(s.data.toList.drop p).length=s.size-p:=by rw [List.length_drop];rfl
 rw [hd,hd,hd,hd,hsz]
 rfl
end Go.Proofs.YtpljdjmpamjkhaaGreatDoor
set_option linter.unusedVariables false
set_option linter.unusedSimpArgs false
namespace Go.Proofs.YtpljdjmpamjkhaaGreatDoor
open Go Go.Lib
def I64 (x:Int):Prop:=-9223372036854775808<=x/\x<=9223372036854775807
theorem u8_nat {n:Nat} (h:n<256):(n.toUInt8).toNat=n:=by
 show (UInt8.ofNat n).toNat=n
 rw [UInt8.toNat_ofNat']
 omega
theorem map_fwd {l:List Nat} (h:∀ x∈l,x<256):(l.map Nat.toUInt8).map UInt8.toNat=l:=by
 rw [List.map_map]
 conv=>rhs;rw [← List.map_id l]
 apply List.map_congr_left
 intro a ha
 exact u8_nat (h a ha)
abbrev Fd:=Nat×ByteArray×Nat×Bool
abbrev Cl:=Nat×Int×List Nat
def nul:Cl:=(0,0,[])
def Bs (l:List Nat):Prop:=∀ x∈l,x<256
def lb (s:ByteArray):List UInt8:=s.data.toList
theorem lb_size (s:ByteArray):(lb s).length=s.size:=rfl
def letterB (c:Nat):Bool:=decide (97<=c/\c<=122) || decide (c=95) || decide (127<c)
def digitB (c:Nat):Bool:=decide (48<=c/\c<=57)
def goodB (k c:Nat):Bool:=letterB c || (digitB c && decide (0<k))
def goodFrom:Nat->List (Nat×Nat)->Bool
 | _,[]=>true
 | k,x::t=>goodB k x.1 && goodFrom (k+1) t
def named (s:ByteArray):Bool:=decide (1<=s.size/\s.size<=16) && clean (lb s) && goodFrom 0 (V (lb s))
def hasN (l:List Fd) (n:ByteArray):Bool:=l.any fun f=>decide (f.2.1=n)
def free (l:List Fd) (n:ByteArray):Bool:=named n && !hasN l n
def lastI (l:List Fd):Nat:=match l.getLast? with
 | none=>0
 | some f=>f.1
def kindB (k:Nat):Bool:=decide (1<=k/\k<=3)
def faultM (a:List Fd) (f:Fd):Nat :=
 if f.1<=lastI a then 81 else if free a f.2.1=false then 80 else if kindB f.2.2.1=false then 10
 else if (f.2.2.2 != decide (a.length=0))=true∨(a.length=0/\f.2.2.1=2) then 82 else 0
def fe (a:List Fd):List Fd->Nat
 | []=>0
 | f::t=>if faultM a f=0 then fe (a++[f]) t else faultM a f
def chk (id:Nat) (l:List Fd):Nat:=if id=0∨l.length=0∨8<l.length then 1 else fe [] l
def misM (f:Fd) (c:Cl):Nat :=
 if c.1=0 then (if f.2.2.2=true then 82 else 0) else if c.1≠f.2.2.1 then 10 else if 64<c.2.2.length then 5 else 0
def fitF:List Fd->List Cl->Nat
 | f::t,c::r=>if misM f c=0 then fitF t r else misM f c
 | [],_=>0
 | _::_,[]=>0
def fitM (l:List Fd) (r:List Cl):Nat:=if r.length≠l.length then 1 else fitF l r
def placeF (id:Nat):Nat->List Fd->Option Nat
 | _,[]=>none
 | k,f::t=>if f.1=id then some k else placeF id (k+1) t
def place (l:List Fd) (id:Nat):Option Nat:=placeF id 0 l
def Okf (f:Fd):Prop:=f.1<4294967296/\f.2.2.1<256
theorem lastI_get {l:List Fd} (h:0<l.length):lastI l=(l[l.length-1]'(by omega)).1:=by
 unfold lastI
 rw [List.getLast?_eq_getElem?,List.getElem?_eq_getElem (by omega)]
theorem lastI_append (l:List Fd) (f:Fd):lastI (l++[f])=f.1:=by
 unfold lastI
 simp
theorem lastI_take {l:List Fd} {i:Nat} (h:i<l.length):lastI (l.take (i+1))=l[i].1:=by
 rw [List.take_succ_eq_append_getElem h,lastI_append]
theorem fe_step {l:List Fd} {i:Nat} (h:i<l.length):fe (l.take i) (l.drop i)=if faultM (l.take i) l[i]=0 then fe (l.take (i+1)) (l.drop (i+1)) else faultM (l.take i) l[i]:=by
 rw [List.drop_eq_getElem_cons h,fe,List.take_succ_eq_append_getElem h]
theorem fe_end (l:List Fd):fe (l.take l.length) (l.drop l.length)=0:=by
 rw [List.drop_length]
 rfl
theorem hasN_step {l:List Fd} {i:Nat} {n:ByteArray} (h:i<l.length):hasN (l.drop i) n=(decide (l[i].2.1=n) || hasN (l.drop (i+1)) n):=by
 rw [List.drop_eq_getElem_cons h]
 unfold hasN
 rw [List.any_cons]
theorem placeF_step {l:List Fd} {i id:Nat} (h:i<l.length):placeF id i (l.drop i)=if l[i].1=id then some i else placeF id (i+1) (l.drop (i+1)):=by
 rw [List.drop_eq_getElem_cons h,placeF]
theorem placeF_end (l:List Fd) (id:Nat):placeF id l.length (l.drop l.length)=none:=by rw [List.drop_length];rfl
theorem placeF_lt {id:Nat}:∀ {l:List Fd} {k j:Nat},placeF id k l=some j->k<=j/\j<k+l.length
 | [],k,j,h=>by simp [placeF] at h
 | f::t,k,j,h=>by
  unfold placeF at h
  by_cases hf:f.1=id
  ·rw [if_pos hf] at h
   have:=Option.some.inj h
   simp
   omega
  ·rw [if_neg hf] at h
   have:=placeF_lt h
   simp
   omega
theorem place_lt {l:List Fd} {id j:Nat} (h:place l id=some j):j<l.length:=by have:=placeF_lt h;omega
theorem fitF_step {l:List Fd} {r:List Cl} {i:Nat} (h:i<l.length) (h2:i<r.length):fitF (l.drop i) (r.drop i)=if misM l[i] r[i]=0 then fitF (l.drop (i+1)) (r.drop (i+1)) else misM l[i] r[i]:=by
 rw [List.drop_eq_getElem_cons h,List.drop_eq_getElem_cons h2,fitF]
theorem fitF_end (l:List Fd) (r:List Cl):fitF (l.drop l.length) r=0:=by
 rw [List.drop_length]
 unfold fitF
 rfl
theorem goodFrom_step {k:Nat} {x:Nat×Nat} {t:List (Nat×Nat)}:goodFrom k (x::t)=(goodB k x.1 && goodFrom (k+1) t):=rfl
def Rise (l:List Fd):Prop:=l.Pairwise fun a b=>a.1<b.1
theorem fe_rise:∀ {l a:List Fd},fe a l=0->(∀ f∈a,f.1<=lastI a)->(∀ f∈l,lastI a<f.1)/\Rise l
 | [],a,_,_=>⟨fun f hf=>by simp at hf,List.Pairwise.nil⟩
 | g::t,a,h,ha=>by
  unfold fe at h
  by_cases h0:faultM a g=0
  ·rw [if_pos h0] at h
   have hg:lastI a<g.1:=by
    unfold faultM at h0
    by_cases h1:g.1<=lastI a
    ·rw [if_pos h1] at h0;omega
    ·omega
   have hla:=lastI_append a g
   have ha2:∀ f∈a++[g],f.1<=lastI (a++[g]):=by
    intro f hf
    rw [hla]
    rcases List.mem_append.1 hf with hf | hf
    ·have:=ha f hf;omega
    ·have:f=g:=by simpa using hf
     rw [this]
     exact Nat.le_refl _
   obtain ⟨h3,h4⟩:=fe_rise h ha2
   rw [hla] at h3
   refine ⟨fun f hf=>?_,?_⟩
   ·rcases List.mem_cons.1 hf with rfl | hf
    ·exact hg
    ·have:=h3 f hf;omega
   ·exact List.Pairwise.cons (fun f hf=>h3 f hf) h4
  ·rw [if_neg h0] at h;exact absurd h h0
theorem chk_rise {id:Nat} {l:List Fd} (h:chk id l=0):Rise l/\0<l.length/\l.length<=8/\0<id:=by
 unfold chk at h
 by_cases h0:id=0∨l.length=0∨8<l.length
 ·rw [if_pos h0] at h;omega
 ·rw [if_neg h0] at h
  refine ⟨(fe_rise h (fun f hf=>by simp at hf)).2,by omega,by omega,by omega⟩
theorem fit_len {l:List Fd} {row:List Cl} (h:fitM l row=0):row.length=l.length:=by
 unfold fitM at h
 by_cases hl:row.length≠l.length
 ·rw [if_pos hl] at h;omega
 ·omega
def bytesT (l:List Nat):ByteArray:=⟨(l.map Nat.toUInt8).toArray⟩
def natsT (s:ByteArray):List Nat:=s.toList.map UInt8.toNat
theorem bytesT_toList (l:List Nat):(bytesT l).toList=l.map Nat.toUInt8:=by
 rw [ByteArray.toList_eq]
 rfl
theorem bytesT_size (l:List Nat):(bytesT l).size=l.length:=by
 show (l.map Nat.toUInt8).toArray.size=l.length
 simp
theorem bytesT_nil:bytesT []=⟨#[]⟩:=rfl
theorem natsT_bs (s:ByteArray):Bs (natsT s):=fun x hx=>by
 obtain ⟨y,_,rfl⟩:=List.mem_map.1 hx
 exact y.toNat_lt
theorem natsT_len (s:ByteArray):(natsT s).length=s.size:=by
 unfold natsT
 rw [List.length_map,ByteArray.toList_eq]
 rfl
theorem bytesT_nats (s:ByteArray):bytesT (natsT s)=s:=by
 have h:(natsT s).map Nat.toUInt8=s.toList:=by
  unfold natsT
  rw [List.map_map]
  conv=>rhs;rw [← List.map_id s.toList]
  apply List.map_congr_left
  intro x _
  simp
 unfold bytesT
 rw [h,ByteArray.toList_eq]
def flagN (b:Bool):Nat:=if b=true then 1 else 0
def szs (l:List Fd):Nat:=(l.map fun f=>f.2.1.size).sum
theorem szs_take_succ {l:List Fd} {i:Nat} (h:i<l.length):szs (l.take (i+1))=szs (l.take i)+l[i].2.1.size:=by
 unfold szs
 rw [List.take_succ_eq_append_getElem h,List.map_append,List.sum_append]
 simp only [List.map_cons,List.map_nil,List.sum_cons,List.sum_nil,Nat.add_zero]
theorem szs_mem {l:List Fd} {f:Fd} (h:f∈l):f.2.1.size<=szs l:=by
 induction l with
 | nil=>simp at h
 | cons g t ih =>
  unfold szs at *
  simp only [List.map_cons,List.sum_cons]
  rcases List.mem_cons.1 h with rfl | h
  ·omega
  ·have:=ih h;omega
theorem szs_take_le (l:List Fd) (i:Nat):szs (l.take i)<=szs l:=by
 have:szs l=szs (l.take i)+szs (l.drop i):=by
  conv=>lhs;rw [← List.take_append_drop i l]
  unfold szs
  rw [List.map_append,List.sum_append]
 omega
theorem Bs.app {a b:List Nat} (ha:Bs a) (hb:Bs b):Bs (a++b):=fun x hx=>by
 rcases List.mem_append.1 hx with h | h
 ·exact ha x h
 ·exact hb x h
theorem Bs.drop {a:List Nat} (ha:Bs a) (k:Nat):Bs (a.drop k):=fun x hx=>ha x (List.mem_of_mem_drop hx)
theorem Bs.take {a:List Nat} (ha:Bs a) (k:Nat):Bs (a.take k):=fun x hx=>ha x (List.mem_of_mem_take hx)
def textR (n:Nat) (r:List Nat):Except Nat (ByteArray×List Nat):=if r.length<n then .error 30 else .ok (bytesT (r.take n),r.drop n)
def Rds {α : Type} (m:List Nat->Except Nat (α×List Nat)) (l:List Nat) (f:Nat) (x:α) (l':List Nat) (f':Nat):Prop :=
 (f=0->m l=if f'=0 then .ok (x,l') else .error f')/\(f≠0->f'=f)
theorem Rds.pure {α : Type} (x:α) (l:List Nat) (f:Nat):Rds (fun b=>.ok (x,b)) l f x l f:=by
 refine ⟨fun h0=>?_,fun _=>rfl⟩
 rw [if_pos h0]
theorem Rds.dead {α : Type} {m:List Nat->Except Nat (α×List Nat)} {l l':List Nat} {f:Nat} (x:α) (h:f≠0):Rds m l f x l' f:=⟨fun h0=>absurd h0 h,fun _=>rfl⟩
def Eith {α : Type} (m:List Nat->Except Nat (α×List Nat)) (e:List Nat) (x:α):Prop:=∀ r,m (e++r)=.ok (x,r)∨∃ c,c≠0/\m (e++r)=.error c
def Just {α : Type} (m:List Nat->Except Nat (α×List Nat)) (e:List Nat) (x:α):Prop:=∀ r,m (e++r)=.ok (x,r)
theorem just_textR (s:ByteArray):Just (textR s.size) (natsT s) s:=by
 intro r
 unfold textR
 have hl:=natsT_len s
 rw [if_neg (by simp;omega),← hl,List.take_left,List.drop_left,bytesT_nats]
theorem Just.eith {α : Type} {m:List Nat->Except Nat (α×List Nat)} {e:List Nat} {x:α} (h:Just m e x):Eith m e x:=fun r=>Or.inl (h r)
theorem just_pure {α : Type} (x:α):Just (fun b=>.ok (x,b)) [] x:=fun r=>rfl
theorem flag_one (b:Bool):decide (flagN b=1)=b:=by cases b<;>rfl
theorem fe_named:∀ {l a:List Fd},fe a l=0->∀ f∈l,f.2.1.size<=16
 | [],a,_,f,hf=>by simp at hf
 | g::t,a,h,f,hf=>by
  unfold fe at h
  by_cases h0:faultM a g=0
  ·rw [if_pos h0] at h
   rcases List.mem_cons.1 hf with rfl | hf
   ·unfold faultM at h0
    by_cases h1:f.1<=lastI a
    ·rw [if_pos h1] at h0;omega
    ·rw [if_neg h1] at h0
     by_cases h2:free a f.2.1=false
     ·rw [if_pos h2] at h0;omega
     ·have h3:free a f.2.1=true:=by simpa using h2
      unfold free named at h3
      simp at h3
      omega
   ·exact fe_named h f hf
  ·rw [if_neg h0] at h;exact absurd h h0
end Go.Proofs.YtpljdjmpamjkhaaGreatDoor
set_option linter.unusedVariables false
set_option linter.unusedSimpArgs false
set_option maxRecDepth 100000
namespace Go.Proofs.YtpljdjmpamjkhaaGreatDoor
open Go.RowKit Go.Lib
theorem hidden {p:Prop} (h:p):Hid p:=h
def vals (k:IntKind) (l:List Nat):List Value:=l.map fun (n:Nat)=>Value.int k (n:Int)
theorem vals_append (k:IntKind) (a b:List Nat):vals k (a++b)=vals k a++vals k b:=List.map_append
theorem vals_length (k:IntKind) (a:List Nat):(vals k a).length=a.length:=List.length_map _
theorem vals_get {k:IntKind} {l:List Nat} {j:Nat} (h:j<l.length):(vals k l)[j]?=some (.int k (l[j]:Int)):=by simp [vals,h]
theorem vals_set (k:IntKind) (l:List Nat) (j c:Nat):(vals k l).set j (.int k (c:Int))=vals k (l.set j c):=by simp [vals,List.map_set]
theorem vals_oneCell (k:IntKind) (l:List Nat):∀ u∈vals k l,u.oneCell'=true:=by
 intro u hu
 obtain ⟨b,_,rfl⟩:=List.mem_map.1 hu
 rfl
theorem info5:(Tryz.prog.info? 5).map (fun i=>(i.zero,i.size,i.bytes))=some (some (.int .u8 0),1,1):=by kernel_rfl
theorem add0 (g j:Nat):(⟨g,0,none⟩:Addr).add j=⟨g,j,none⟩:=by unfold Addr.add;split<;>simp_all
theorem addj (b off j:Nat):(⟨b,off,none⟩:Addr).add j=⟨b,off+j,none⟩:=by unfold Addr.add;split<;>simp_all
theorem own_kept {w w':World} {B e size n:Nat} {v:Value} {xs:List Value} (h:w.ownsRow B e size v n xs) (hb:Below w.heap.size w w'):w'.ownsRow B e size v n xs:=by
 obtain ⟨hl,h⟩:=h
 refine ⟨hl,?_⟩
 rcases h with h | ⟨g,cap,cur,h1,h2,h3,h4⟩
 ·exact Or.inl h
 ·have hg:g<w.heap.size:=by
   rcases Nat.lt_or_ge g w.heap.size with hg | hg
   ·exact hg
   ·rw [Array.getElem?_eq_none hg] at h3;cases h3
  exact Or.inr ⟨g,cap,cur,h1,h2,(hb.block g hg).trans h3,h4⟩
def Sx (k:IntKind) (W:World) (v:Value) (l:List Nat):Prop :=
 ∃ a cap,v=.slice a l.length cap/\l.length<=maxLen /\
  (0<l.length->∃ b off,a=some ⟨b,off,none⟩/\b<W.heap.size/\∀ j (h:j<l.length),W.cell? ⟨b,off+j,none⟩=some (.int k (l[j]:Int)))
theorem Sx.kept {k:IntKind} {W W':World} {v:Value} {l:List Nat} (h:Sx k W v l) (hb:Below W.heap.size W W'):Sx k W' v l:=by
 obtain ⟨a,cap,rfl,h1,h3⟩:=h
 refine ⟨a,cap,rfl,h1,fun h0=>?_⟩
 obtain ⟨b,off,rfl,h4,h5⟩:=h3 h0
 exact ⟨b,off,rfl,Nat.lt_of_lt_of_le h4 hb.size,fun j hj=>(hb.cell (p:=⟨b,off+j,none⟩) h4).trans (h5 j hj)⟩
theorem Sx.of_own {k:IntKind} {W:World} {B e n:Nat} {v:Value} {l:List Nat} (h:W.ownsRow B e 1 v n (vals k l)):Sx k W v l:=by
 have hl:l.length=n:=by have:=h.1;simpa [vals] using this
 obtain ⟨_,h1⟩:=id h
 rcases h1 with ⟨rfl,rfl⟩ | ⟨g,cap,cur,rfl,hb,hg,h4,h5,_⟩
 ·exact ⟨none,0,by rw [hl],by unfold maxLen;omega,fun h0=>by omega⟩
 ·refine ⟨_,cap,by rw [hl],by omega,fun _=>⟨g,0,rfl,(Array.getElem?_eq_some_iff.1 hg).1,fun j hj=>?_⟩⟩
  have:=h.cells (g:=g) rfl j _ (vals_get hj)
  rw [add0] at this
  rwa [Nat.zero_add]
def txt (l:List Nat):Value:=.string ⟨(l.map Nat.toUInt8).toArray⟩
theorem Sx.conv {W:World} {v:Value} {l:List Nat} (h:Sx .u8 W v l) (h8:∀ x∈l,x<256):(convert 30 9 v).run Tryz.prog W=.ok (txt l) W:=by
 obtain ⟨a,cap,rfl,h1,h3⟩:=h
 rcases Nat.eq_zero_or_pos l.length with h0 | hp
 ·obtain rfl:l=[]:=List.eq_nil_of_length_eq_zero h0
  first
   | exact run_convert_bytes_back_empty W 30 9 5 a cap Tryz.underlying30 Tryz.underlying5 Tryz.underlying9
   | (cases a<;>rfl)
   | (cases a<;>kernel_rfl)
 ·obtain ⟨b,off,rfl,h4,h5⟩:=h3 hp
  have:=run_convert_bytes_back W 30 9 5 ⟨b,off,none⟩ cap (l.map Nat.toUInt8) Tryz.underlying30 Tryz.underlying5 Tryz.underlying9 (fun j hj=>by
   have hj':j<l.length:=by simpa using hj
   rw [addj,h5 j hj']
   have h9:=h8 l[j] (List.getElem_mem hj')
   congr 2
   simp [Nat.mod_eq_of_lt h9])
  rw [List.length_map] at this
  exact this
theorem Sx.lit {k:IntKind} (w:World) (l:List Nat) (e:Nat) (hl:l.length<=maxLen):Sx k (w.alloc (.cells (vals k l).toArray e)) (.slice (some ⟨w.heap.size,0,none⟩) l.length l.length) l:=by
 have:=World.ownsRow_lit (e:=e) (size:=1) w (vals k l).toArray l.length (base:=0) (Nat.zero_le _) hl (by simp [vals])
 exact Sx.of_own this
def byteVals (l:List UInt8):List Value:=l.map fun b=>Value.int .u8 (b.toNat:Int)
theorem byteVals_append (a b:List UInt8):byteVals (a++b)=byteVals a++byteVals b:=List.map_append
theorem byteVals_length (a:List UInt8):(byteVals a).length=a.length:=List.length_map _
theorem byteVals_get {l:List UInt8} {j:Nat} (h:j<l.length):(byteVals l)[j]?=some (.int .u8 (l[j].toNat:Int)):=by simp [byteVals,h]
theorem vown_form {w:World} {B e n:Nat} {v:Value} {xs:List Value} (h:w.ownsRow B e 1 v n xs):(∃ ad cap,v=.slice ad n cap/\∀ g,ad=some g->g.spot=none)/\(0<n->∃ g cap,v=.slice (some ⟨g,0,none⟩) n cap/\g<w.heap.size/\B<=g/\∀ j x,xs[j]?=some x->w.cell? ⟨g,j,none⟩=some x):=by
 obtain ⟨hl,h1⟩:=id h
 rcases h1 with ⟨rfl,rfl⟩ | ⟨g,cap,cur,rfl,hb,hg,h4⟩
 ·exact ⟨⟨none,0,rfl,fun g hg=>by cases hg⟩,fun h=>by omega⟩
 ·refine ⟨⟨_,cap,rfl,fun x hx=>by cases hx;rfl⟩,fun _=>⟨g,cap,rfl,(Array.getElem?_eq_some_iff.1 hg).1,hb,fun j x hx=>?_⟩⟩
  have:=h.cells (g:=g) rfl j x hx
  have hadd:(⟨g,0,none⟩:Addr).add j=⟨g,j,none⟩:=by unfold Addr.add;split<;>simp_all
  rwa [hadd] at this
theorem byteVals_one {x:Nat} (h:x<256):byteVals [x.toUInt8]=[.int .u8 (x:Int)]:=by
 simp only [byteVals,List.map_cons,List.map_nil,u8_nat h]
def Sl (W:World) (v:Value) (l:List UInt8):Prop :=
 ∃ a cap,v=.slice a l.length cap/\l.length<=cap/\cap<=maxLen /\
  (0<l.length->∃ b off,a=some ⟨b,off,none⟩/\b<W.heap.size/\∀ j (h:j<l.length),W.cell? ⟨b,off+j,none⟩=some (.int .u8 (l[j].toNat:Int)))
end Go.Proofs.YtpljdjmpamjkhaaGreatDoor
