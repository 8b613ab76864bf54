/- Contracts: the program's Put and the document's. Contracts: the document's Put, and both PutInt. Contracts: the program's Get and GetInt. Contracts: Get over any bytes, GetInt. Contract: the document's Get. -/
import Derived.Test.YtpljdjmpamjkhaaGreatDoorZab
import Derived.Test.YtpljdjmpamjkhaaGreatDoorZaf
import Derived.Test.YtpljdjmpamjkhaaGreatDoorZag
import Derived.Test.YtpljdjmpamjkhaaGreatDoorZaj
import Derived.WalkKit
import Derived.WalkLawsBesides
import Derived.Outline
import Derived.WalkSpells
import Derived.Lib.OthersKept
import Derived.Maps.AppendAt
import Derived.Deep.RegionHeld3
set_option linter.unusedVariables false
set_option linter.unusedSimpArgs false
set_option maxRecDepth 100000
namespace Go.Proofs.YtpljdjmpamjkhaaGreatDoor
open Go.RowKit Go.Lib
end Go.Proofs.YtpljdjmpamjkhaaGreatDoor
set_option linter.unusedVariables false
set_option linter.unusedSimpArgs false
namespace Go.Proofs.YtpljdjmpamjkhaaGreatDoor
open Go.RowKit Go.Lib
theorem i64_xor (x:Int) (h0:-9223372036854775808<=x) (h1:x<=9223372036854775807):bits .xor .i64 (-1) x=-x-1:=by
 by_cases h:x<0
 ·show IntKind.i64.wrap ((BitVec.ofInt 64 (-1) ^^^ BitVec.ofInt 64 x).toNat:Int)=_
  have e1:(BitVec.ofInt 64 (-1)).toNat=2 ^ 64-1:=by decide
  have e2:(BitVec.ofInt 64 x).toNat=(x+18446744073709551616).toNat:=by
   rw [BitVec.toNat_ofInt];omega
  rw [BitVec.toNat_xor,e1,e2,xor_ones64 _ (by omega),IntKind.wrap_i64]
  omega
 ·obtain ⟨n,rfl⟩:=Int.eq_ofNat_of_zero_le (a:=x) (by omega)
  exact i64_not n (by omega)
theorem zig_or {z:Int} (h0:-9223372036854775808<=z) (h:z<0):bits .or .u64 (IntKind.u64.wrap (IntKind.u64.wrap (-z-1)*2)) 1=((zigzag z:Nat):Int):=by
 have e:IntKind.u64.wrap (IntKind.u64.wrap (-z-1)*2)=(-z-1)*2:=by rw [IntKind.wrap_u64,IntKind.wrap_u64];omega
 rw [e,bits_join .u64 64 (by decide) wraps_u64 1 _ _ (by omega) (by omega) (by omega) (by omega) (by omega) (by omega)]
 unfold zigzag
 rw [if_neg (by omega)]
 omega
theorem putInt_any (z:Int) (h0:-9223372036854775808<=z) (h1:z<=9223372036854775807) (w:World) :
  Calls Tryz.prog 174 #[.int .i64 z] w fun e w'=>(∃ v,e=.returned v/\w'.ownsRow w.heap.size 5 1 v (uvarint (zigzag z)).length (byteVals (uvarint (zigzag z))))/\Below w.heap.size w w':=by
 have HP:=hidden (vput_any (zigzag z) (zigzag_lt h0 h1))
 by_cases h:z<0
 ·have hx:=i64_xor z h0 h1
  have HE:=hidden (zig_or h0 h)
  go_enter Tryz.func174,Tryz.ntmps174
  go_wp2_with fail
  rw [HE.out]
  refine (HP.out _).mono ?_
  rintro e w2 ⟨⟨v,rfl,hown⟩,hb⟩
  have HO:=hidden hown
  clear hown
  go_wp2_with fail
  go_ret
  exact ⟨⟨_,rfl,HO.out⟩,hb⟩
 ·have HE:=hidden (zigzag_nonneg (x:=z) (by omega))
  go_enter Tryz.func174,Tryz.ntmps174
  go_wp2_with fail
  rw [← HE.out]
  refine (HP.out _).mono ?_
  rintro e w2 ⟨⟨v,rfl,hown⟩,hb⟩
  have HO:=hidden hown
  clear hown
  go_wp2_with fail
  go_ret
  exact ⟨⟨_,rfl,HO.out⟩,hb⟩
end Go.Proofs.YtpljdjmpamjkhaaGreatDoor
set_option linter.unusedVariables false
set_option linter.unusedSimpArgs false
namespace Go.Proofs.YtpljdjmpamjkhaaGreatDoor
open Go.RowKit Go.Lib
end Go.Proofs.YtpljdjmpamjkhaaGreatDoor
set_option linter.unusedVariables false
set_option linter.unusedSimpArgs false
namespace Go.Proofs.YtpljdjmpamjkhaaGreatDoor
open Go.RowKit Go.Lib
theorem getInt_any {w:World} {v:Value} {l:List UInt8} (h:Sl w v l):Calls Tryz.prog 324 #[v] w fun e w'=>e=tell .i64 (unzig (getL l).1) (getL l).2.1 (getL l).2.2/\w'=w:=by
 have HG:=hidden (get_any h)
 obtain ⟨f1,f2,f3,f4⟩:=getL_form l
 clear h
 generalize getL l=x at *
 obtain ⟨n,u,c⟩:=x
 simp only at *
 unfold tell at *
 clear f2
 go_enter Tryz.func324,Tryz.ntmps324
 go_wp2_with fail
 refine HG.out.mono ?_
 rintro e w1 ⟨rfl,rfl⟩
 by_cases h0:c=0
 ·subst h0
  clear f4
  have HU:Hid (∀ m:Int,m=unzig n->m=unzig n):=fun m h=>h
  have ha:=u64_and1 (n:Int) (by omega) (by omega)
  by_cases hp:n % 2=0
  ·have hb:((n:Int) % 2==1)=false:=by simp;omega
   go_wp2_with fail
   go_ret3
   unfold unzig
   rw [if_pos hp]
   exact ⟨rfl,rfl⟩
  ·have hb:((n:Int) % 2==1)=true:=by simp;omega
   have hx:=i64_xor ((n:Int) / 2) (by omega) (by omega)
   go_wp2_with fail
   go_ret3
   unfold unzig
   rw [if_neg hp]
   exact ⟨rfl,rfl⟩
 ·have hne:((c:Int) != 0)=true:=err_code (by omega) h0
  obtain ⟨rfl,rfl⟩:n=0/\u=0:=by omega
  go_wp2_with fail
  go_ret3
  exact ⟨rfl,rfl⟩
end Go.Proofs.YtpljdjmpamjkhaaGreatDoor
set_option linter.unusedVariables false
set_option linter.unusedSimpArgs false
namespace Go.Proofs.YtpljdjmpamjkhaaGreatDoor
open Go.RowKit Go.Lib
end Go.Proofs.YtpljdjmpamjkhaaGreatDoor
