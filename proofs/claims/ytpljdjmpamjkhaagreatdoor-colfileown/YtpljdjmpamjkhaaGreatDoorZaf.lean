/- Slices of numbers: what they hold, whoever made them; rows of the call's own. Contracts: both Put, the program's Get. Slices and what they hold, whoever made them; bytes of the call's own; bytes put behind bytes; what a call leaves as it was. -/
import Derived.Test.YtpljdjmpamjkhaaGreatDoorZab
import Derived.Test.YtpljdjmpamjkhaaGreatDoorZae
import Derived.Test.YtpljdjmpamjkhaaGreatDoorProg
import Derived.WalkKit
import Derived.WalkLawsBesides
import Derived.Outline
import Derived.WalkSpells
import Derived.Lib.OthersKept
import Derived.Maps.AppendAt
import Derived.Laws.OwnMore
import Derived.BigQuiet
import Derived.BigRegion
import Derived.Lib.VarintBits
import Derived.Deep.RegionHeld3
import Derived.Deep.RegionWith
import Derived.Test.YtpljdjmpamjkhaaGreatDoorZac
set_option linter.unusedVariables false
set_option linter.unusedSimpArgs false
set_option maxRecDepth 100000
set_option maxHeartbeats 2000000
namespace Go.Proofs.YtpljdjmpamjkhaaGreatDoor
open Go.RowKit Go.Lib
theorem info92:(Tryz.prog.info? 92).map (fun i=>(i.zero,i.size,i.bytes))=some (some (.int .u64 0),1,8):=by kernel_rfl
theorem len_of {acc:List UInt8} {k n:Nat} (h:acc++uvarint k=uvarint n) (hn:n<18446744073709551616):acc.length+1<=10:=by
 have h1:=uvarint_length64 hn
 have h2:=uvarint_pos k
 have h3:=congrArg List.length h
 rw [List.length_append] at h3
 omega
theorem vput_any (n:Nat) (hn:n<18446744073709551616) (w:World) :
  Calls Tryz.prog 119 #[.int .u64 (n:Int)] w fun e w'=>(∃ v,e=.returned v/\w'.ownsRow w.heap.size 5 1 v (uvarint n).length (byteVals (uvarint n)))/\Below w.heap.size w w':=by
 obtain ⟨i0,hi,hz0,hz1',hz2⟩:=info_parts info5
 have HN:=hidden hn
 clear hn
 go_enter Tryz.func119,Tryz.ntmps119
 go_wp2_with fail
 go_loopw [0,3] (fun m b wr=>∃ (k:Nat) (acc:List UInt8),m=.int .u64 (k:Int)/\k<18446744073709551616/\acc++uvarint k=uvarint n/\wr.ownsRow w.heap.size 5 1 b acc.length (byteVals acc)/\Below w.heap.size w wr) (fun m _ _=>(intOf m).toNat)
 case atStart=>exact ⟨n,[],rfl,HN.out,rfl,World.ownsRow_nil _ _ _ _,Below.refl _ _⟩
 case round =>
  obtain ⟨k,acc,rfl,hk,hacc,hown,hbel⟩:=hrel
  have hlen:=len_of hacc HN.out
  have HA:=hidden hacc
  have HO:=hidden hown
  have HB:=hidden hbel
  have hzr:=hbel.size
  clear hacc hown hbel
  by_cases h:(k:Int)>=128
  ·have hor:=u8_or128_any ((k:Int) % 256) (by omega) (by omega)
   go_wp2_with (first | (at_builtin;refine wpList_append_own_at _ rfl _ _ 30 rfl w.heap.size 5 i0 (.int .u8 0) 1 1 Tryz.underlying30 hi hz0 hz1' hz2 rfl (by decide) _ _ _ rfl (HO.out.alloc _) ⟨wr.heap.size,0,none⟩ 1 1 [.int .u8 ((k:Int) % 128+128)] rfl rfl ?c1 ?c2 ?c3 ?c4 ?c5 ?_))
   case c1=>exact cell_one_new _ _ _
   case c2=>first | rfl | (intro u hu;simp at hu;subst hu;rfl)
   case c3=>unfold maxLen;omega
   case c4=>omega
   case c5=>first | omega | (simp;omega)
   intro v1 w2 o1 g1 _ e1
   have HO1:=hidden o1
   have HB1:=hidden ((HB.out.alloc (by omega) _).grown g1 (by simp;omega) (fun k hk=>(HO.out.lt k hk).1))
   clear o1 g1 e1
   go_wp2_with fail
   go_roundw
   case rel =>
    refine ⟨k / 128,acc++[(k % 128+128).toUInt8],by go_num,by omega,?_,?_,HB1.out⟩
    ·rw [← HA.out,uvarint_big (x:=k) (by omega)];simp
    ·rw [byteVals_append,List.length_append]
     rw [byteVals_one (by omega)]
     exact HO1.out
   case measure=>simp [intOf];omega
  ·have hsm:uvarint k=[k.toUInt8]:=uvarint_small (by omega)
   have HS:=hidden hsm
   clear hsm
   go_wp2_with (first | (at_builtin;refine wpList_append_own_at _ rfl _ _ 30 rfl w.heap.size 5 i0 (.int .u8 0) 1 1 Tryz.underlying30 hi hz0 hz1' hz2 rfl (by decide) _ _ _ rfl (HO.out.alloc _) ⟨wr.heap.size,0,none⟩ 1 1 [.int .u8 (k:Int)] rfl rfl ?c1 ?c2 ?c3 ?c4 ?c5 ?_))
   case c2=>first | rfl | (intro u hu;simp at hu;subst hu;rfl)
   case c3=>unfold maxLen;omega
   case c4=>omega
   case c5=>first | omega | (simp;omega)
   intro v1 w2 o1 g1 _ e1
   have HO1:=hidden o1
   have HB1:=hidden ((HB.out.alloc (by omega) _).grown g1 (by simp;omega) (fun k hk=>(HO.out.lt k hk).1))
   clear o1 g1 e1
   go_wp2_with fail
   go_ret
   refine ⟨⟨_,rfl,?_⟩,HB1.out⟩
   have h1:=HO1.out
   rw [← HA.out,HS.out,byteVals_append,List.length_append]
   rw [byteVals_one (by omega)]
   exact h1
def tell (k:IntKind) (x:Int) (u e:Nat):Ending:=.returned (.tuple #[.int k x,.int .i64 (u:Int),.int .i64 (e:Int)])
theorem short_any (n used:Nat) (c:UInt8) (hu:used<=10) (w:World) :
  Calls Tryz.prog 213 #[.int .u64 (n:Int),.int .i64 (used:Int),.int .u8 (c.toNat:Int)] w fun e w' =>
   e=(if c.toNat=0/\1<used then tell .u64 0 0 31 else tell .u64 (n:Int) used 0)/\w'=w:=by
 by_cases h1:((c.toNat:Int)==0)=true
 ·have h1':c.toNat=0:=by simpa using h1
  by_cases h2:(used:Int) > 1
  ·rw [if_pos ⟨h1',by omega⟩]
   clear h1'
   go_enter Tryz.func213,Tryz.ntmps213
   go_wp2_with fail
   go_ret3
   exact ⟨rfl,rfl⟩
  ·rw [if_neg (fun h=>by omega)]
   clear h1'
   go_enter Tryz.func213,Tryz.ntmps213
   go_wp2_with fail
   go_ret3
   exact ⟨rfl,rfl⟩
 ·have h1':((c.toNat:Int)==0)=false:=by simpa using h1
  rw [if_neg (fun h=>h1 (by simpa using h.1))]
  clear h1
  go_enter Tryz.func213,Tryz.ntmps213
  go_wp2_with fail
  go_ret3
  exact ⟨rfl,rfl⟩
theorem get_empty (a:Option Addr) (cap:Nat) (w:World):Calls Tryz.prog 180 #[.slice a 0 cap] w fun e w'=>e=tell .u64 0 0 30/\w'=w:=by
 go_enter Tryz.func180,Tryz.ntmps180
 go_wp2_with fail
 refine wp_loop_rounds 1 ?_
 rw [rounds_succ]
 go_wp2_with fail
 go_ret3
 exact ⟨rfl,rfl⟩
theorem shl_eq {c k:Nat}:((c:Nat):Int)*2 ^ (7*k)=((c*128 ^ k:Nat):Int):=by
 rw [← pow7]
 simp
theorem join_eq {l:List UInt8} {k:Nat} (h:k<l.length) (h9:k<=9) (h64:val (l.take (k+1))<18446744073709551616) :
  bits .or .u64 (val (l.take k):Int) (IntKind.u64.wrap ((l[k].toNat:Int) % 128*2 ^ (7*k)))=(val (l.take (k+1)):Int):=by
 have hv:=val_take_succ h
 have hl:=val_lt (l.take k)
 rw [List.length_take,Nat.min_eq_left (by omega)] at hl
 have e:(l[k].toNat:Int) % 128*2 ^ (7*k)=((l[k].toNat % 128*128 ^ k:Nat):Int):=by
  rw [← shl_eq];simp
 rw [e,wraps_u64 _ (by omega) (by omega),or_shift h9 hl (by omega),hv]
theorem used_eq {k:Nat} {n:Int} {c:UInt8} (hu:k+1<=10) (w:World) {P:Ending->World->Prop} (h:Calls Tryz.prog 213 #[.int .u64 n,.int .i64 ((k+1:Nat):Int),.int .u8 (c.toNat:Int)] w P) :
  Calls Tryz.prog 213 #[.int .u64 n,.int .i64 ((k:Int)+1),.int .u8 (c.toNat:Int)] w P:=by
 have e:((k+1:Nat):Int)=(k:Int)+1:=by omega
 rwa [e] at h
theorem get_full (b off cap:Nat) (l:List UInt8) (w:World) (hmax:l.length<=maxLen) (hcap:l.length<=cap)
  (hc:∀ j (h:j<l.length),w.cell? ⟨b,off+j,none⟩=some (.int .u8 (l[j].toNat:Int))) :
  Calls Tryz.prog 180 #[.slice (some ⟨b,off,none⟩) l.length cap] w fun e w'=>e=tell .u64 ((getL l).1:Int) (getL l).2.1 (getL l).2.2/\w'=w:=by
 have hm:l.length<=9223372036854775807:=by unfold maxLen at hmax;omega
 have HC:=hidden hc
 clear hc hmax
 go_enter Tryz.func180,Tryz.ntmps180
 go_wp2_with fail
 go_loopw [5,10] (fun n i w'=>w'=w/\∃ k:Nat,k<=9/\k<=l.length/\k<=lead l/\i=.int .i64 (k:Int)/\n=.int .u64 (val (l.take k):Int)) (fun _ i _=>l.length-(intOf i).toNat)
 case atStart=>exact ⟨rfl,0,by omega,by omega,by omega,rfl,rfl⟩
 case round =>
  obtain ⟨rfl,k,h9,hk,hlead,rfl,rfl⟩:=hrel
  by_cases hlt:k<l.length
  ·have hck:=HC.out k hlt
   have hval:=val_take_succ hlt
   have hvlt:=val_lt (l.take k)
   rw [List.length_take,Nat.min_eq_left (by omega)] at hvlt
   have HT:=hidden (fun (e:k=9) (h:1<l[k].toNat)=>getL_tenth (l:=l) (by omega) (by omega) (by subst e;exact h))
   have HL:=hidden (fun h1 h2=>getL_last (l:=l) hlead h9 hlt h1 h2)
   have HN:=hidden (lead_succ hlead hlt)
   have h64:=fun h=>join_eq (l:=l) hlt h9 (val64 (l:=l) h9 hlt h)
   have hcl:=l[k].toNat_lt
   have han:=u8_andNot l[k]
   have HLE:=hidden hlead
   have HSA:=hidden (fun w=>used_eq (k:=k) (by omega) w (short_any (val (l.take (k+1))) (k+1) l[k] (by omega) w))
   clear hlead
   generalize l[k]=c at *
   by_cases hk9:((k:Int)==9)=true
   ·have hk9':k=9:=by have:(k:Int)=9:=(by simpa using hk9);omega
    by_cases hc1:(c.toNat:Int) > 1
    ·have HE:=hidden (HT.out hk9' (by omega))
     clear HT HL HN h64 hval hvlt han hk9'
     go_wp2_with fail
     go_ret3
     rw [HE.out]
     exact ⟨rfl,rfl⟩
    ·have HJ:=hidden (h64 (fun _=>by omega))
     have HF:=hidden (HL.out (by omega) (fun _=>by omega))
     clear HT HL HN h64 hval hvlt hk9'
     go_wp2_with fail
     rw [HJ.out]
     refine (HSA.out _).mono ?_
     rintro e w1 ⟨rfl,rfl⟩
     have HF2:Hid ((if c.toNat=0/\1<k+1 then tell .u64 0 0 31 else tell .u64 (val (l.take (k+1)):Int) (k+1) 0)=tell .u64 ((getL l).1:Int) (getL l).2.1 (getL l).2.2):=by
      show _=_
      rw [HF.out]
      by_cases h:c.toNat=0/\0<k
      ·rw [if_pos h,if_pos ⟨h.1,by omega⟩];rfl
      ·rw [if_neg h,if_neg (fun h1=>h ⟨h1.1,by omega⟩)]
     rw [HF2.out]
     unfold tell
     go_wp2_with fail
     go_ret3
     exact ⟨rfl,rfl⟩
   ·have hk9':((k:Int)==9)=false:=by simpa using hk9
    have hk8:k<=8:=by have:¬ (k:Int)=9:=(by simpa using hk9);omega
    have HJ:=hidden (h64 (fun _=>by omega))
    clear hk9
    by_cases hc1:(c.toNat:Int)<128
    ·have HF:=hidden (HL.out (by omega) (fun _=>by omega))
     clear HT HL HN h64 hval hvlt
     go_wp2_with fail
     rw [HJ.out]
     refine (HSA.out _).mono ?_
     rintro e w1 ⟨rfl,rfl⟩
     have HF2:Hid ((if c.toNat=0/\1<k+1 then tell .u64 0 0 31 else tell .u64 (val (l.take (k+1)):Int) (k+1) 0)=tell .u64 ((getL l).1:Int) (getL l).2.1 (getL l).2.2):=by
      show _=_
      rw [HF.out]
      by_cases h:c.toNat=0/\0<k
      ·rw [if_pos h,if_pos ⟨h.1,by omega⟩];rfl
      ·rw [if_neg h,if_neg (fun h1=>h ⟨h1.1,by omega⟩)]
     rw [HF2.out]
     unfold tell
     go_wp2_with fail
     go_ret3
     exact ⟨rfl,rfl⟩
    ·have HF:=hidden (HN.out (by omega))
     clear HT HL HN h64 hval hvlt
     go_wp2_with fail
     rw [HJ.out]
     go_roundw
     case rel=>exact ⟨trivial,k+1,by omega,by omega,HF.out,by go_num,rfl⟩
     case measure=>simp [intOf];omega
  ·have HE:=hidden (getL_end hlead h9 hlt)
   clear hlead
   go_wp2_with fail
   go_ret3
   rw [HE.out]
   exact ⟨rfl,rfl⟩
theorem get_any {w:World} {v:Value} {l:List UInt8} (h:Sl w v l):Calls Tryz.prog 180 #[v] w fun e w'=>e=tell .u64 ((getL l).1:Int) (getL l).2.1 (getL l).2.2/\w'=w:=by
 obtain ⟨a,cap,rfl,h1,h2,h3⟩:=h
 cases l with
 | nil=>exact get_empty a cap w
 | cons x r =>
  obtain ⟨b,off,rfl,_,h5⟩:=h3 (by simp)
  exact get_full b off cap (x::r) w (by omega) h1 h5
theorem lead_nine {l:List UInt8} (h:¬ (9<=lead l/\9<l.length/\1<(l.getD 9 0).toNat)) (hl:lead l<l.length):lead l<=9/\(lead l=9->l[lead l].toNat<=1):=by
 have h9:lead l<=9:=by
  rcases Nat.lt_or_ge 9 (lead l) with h1 | h1
  ·exfalso
   apply h
   refine ⟨by omega,by omega,?_⟩
   rw [getD_at (by omega)]
   have:=lead_big l 9 (by omega) h1
   omega
  ·exact h1
 refine ⟨h9,fun e=>?_⟩
 have h3:¬ 1<(l.getD 9 0).toNat:=fun h2=>h ⟨by omega,by omega,h2⟩
 rw [getD_at (by omega)] at h3
 simp only [e]
 omega
theorem getL_form (l:List UInt8):(getL l).1<18446744073709551616/\(getL l).2.1<=l.length/\(getL l).2.1<=10/\((getL l).2.2=0∨(((getL l).2.2=30∨(getL l).2.2=31)/\(getL l).1=0/\(getL l).2.1=0)):=by
 have hle:=lead_le l
 unfold getL
 split
 ·simp
 ·rename_i h1
  split
  ·simp
  ·rename_i h2
   have hl:lead l<l.length:=by omega
   obtain ⟨h9,ht⟩:=lead_nine h1 hl
   split
   ·simp
   ·refine ⟨val64 h9 hl ht,?_,?_,Or.inl rfl⟩<;>simp only<;>omega
theorem err_code {e:Nat} (h:e=0∨e=30∨e=31) (h0:¬ e=0):((e:Int) != 0)=true:=by simp;omega
end Go.Proofs.YtpljdjmpamjkhaaGreatDoor
set_option linter.unusedVariables false
set_option linter.unusedSimpArgs false
namespace Go.Proofs.YtpljdjmpamjkhaaGreatDoor
open Go.RowKit Go.Lib
theorem uv_vals (n:Nat):vals .u8 (uv n)=byteVals (uvarint n):=vals_bytes _
theorem vput_told (n:Nat) (hn:n<18446744073709551616) (w:World):Calls Tryz.prog 119 #[.int .u64 (n:Int)] w (Told w (uv n)):=by
 refine (vput_any n hn w).mono ?_
 rintro e w' ⟨⟨v,rfl,h⟩,hb⟩
 exact ⟨⟨v,rfl,by unfold OwnB;rw [uv_vals,uv_len];exact h⟩,hb⟩
theorem gt_form (b:List Nat):(gt b).1<18446744073709551616/\(gt b).2.1<=b.length/\(gt b).2.1<=10/\((gt b).2.2=0∨(((gt b).2.2=30∨(gt b).2.2=31)/\(gt b).1=0/\(gt b).2.1=0)):=by
 have:=getL_form (b.map Nat.toUInt8)
 rw [List.length_map] at this
 exact this
theorem get_sv {w:World} {a:Option Addr} {n cap:Nat} {b:List Nat} (hb:Bs b) (h:Sv w (.slice a n cap) (vals .u8 b)) :
  Calls Tryz.prog 180 #[.slice a n cap] w fun e w'=>e=tell .u64 ((gt b).1:Int) (gt b).2.1 (gt b).2.2/\w'=w:=get_any (h.sl hb)
end Go.Proofs.YtpljdjmpamjkhaaGreatDoor
