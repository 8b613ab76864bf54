/- The document's examples (alive) hold. -/
import Derived.Test.YtgcdnigfojihiaaMatch
set_option linter.unusedVariables false
set_option linter.unusedSimpArgs false
namespace Go.Proofs.Ytgcdnigfojihiaa
open Go.RowKit

theorem ex1 : aboveL (lb { data := #[97, 98, 99] }) 2 = some [97, 99] := by decide +kernel
theorem ex2 : aboveL (lb { data := #[97, 244, 143, 191, 191, 98] }) 2 = some [98] := by decide +kernel
theorem ex3 : (V (lb { data := #[97, 195, 169] })).length = 2 := by decide +kernel
theorem ex4 : firstL (lb { data := #[230, 151, 165, 230, 156, 172, 120] }) 2 = [230, 151, 165, 230, 156, 172] := by decide +kernel
theorem ex5 : lk (runes (lb { data := #[97, 37] })) (runes (lb { data := #[97, 98, 99] })) = true := by decide +kernel
theorem ex6 : lk (runes (lb { data := #[95, 98, 95] })) (runes (lb { data := #[97, 98, 99] })) = true := by decide +kernel
theorem ex7 : lk (runes (lb { data := #[97, 95] })) (runes (lb { data := #[97, 98, 99] })) = false := by decide +kernel

theorem tells_some {e : Ending} {x : Option (List UInt8)} {l : List UInt8} {b : ByteArray} (h : Tells e x) (hx : x = some l) (hb : lb b = l) : e = .returned (.tuple #[.string b, .bool true]) := by
  obtain ⟨t, o, rfl, ho, ht⟩ := h
  subst hx
  subst ho
  obtain rfl : t = b := lb_inj (by rw [ht, hb]; rfl)
  rfl

set_option maxRecDepth 100000 in
theorem alive_any (w : World) : Calls Try.prog 9 #[] w fun e w' => e = .returned (.bool true) ∧ Below w.heap.size w w' := by
  go_enter Try.func9, Try.ntmps9
  go_wp2_with fail
  refine (above_any _ 2 (by decide) _).mono ?_
  rintro e w1 ⟨he, hb1⟩
  obtain rfl := tells_some he ex1 (b := { data := #[97, 99] }) rfl
  have HB1 := hidden hb1
  have hz1 := hb1.size
  clear he hb1
  go_wp2_with fail
  refine (above_any _ 2 (by decide) _).mono ?_
  rintro e w2 ⟨he, hb1⟩
  obtain rfl := tells_some he ex2 (b := { data := #[98] }) rfl
  have HB2 := hidden (HB1.out.trans (hb1.mono (by omega)))
  have hz2 := HB2.out.size
  clear he hb1 HB1
  go_wp2_with fail
  refine (count_any _ (by decide) _).mono ?_
  rintro e w3 ⟨rfl, hb1⟩
  rw [ex3]
  have HB3 := hidden (HB2.out.trans (hb1.mono (by omega)))
  have hz3 := HB3.out.size
  clear hb1 HB2
  go_wp2_with fail
  refine (first_any _ 2 (by decide) _).mono ?_
  rintro e w4 ⟨⟨t, rfl, ht⟩, hb1⟩
  obtain rfl : t = { data := #[230, 151, 165, 230, 156, 172] } := lb_inj (by rw [ht, ex4]; rfl)
  have HB4 := hidden (HB3.out.trans (hb1.mono (by omega)))
  have hz4 := HB4.out.size
  clear ht hb1 HB3
  go_wp2_with fail
  refine (like_any _ _ (by decide) (by decide) _).mono ?_
  rintro e w5 ⟨rfl, hb1⟩
  rw [ex5]
  have HB5 := hidden (HB4.out.trans (hb1.mono (by omega)))
  have hz5 := HB5.out.size
  clear hb1 HB4
  go_wp2_with fail
  refine (like_any _ _ (by decide) (by decide) _).mono ?_
  rintro e w6 ⟨rfl, hb1⟩
  rw [ex6]
  have HB6 := hidden (HB5.out.trans (hb1.mono (by omega)))
  have hz6 := HB6.out.size
  clear hb1 HB5
  go_wp2_with fail
  refine (like_any _ _ (by decide) (by decide) _).mono ?_
  rintro e w7 ⟨rfl, hb1⟩
  rw [ex7]
  have HB7 := hidden (HB6.out.trans (hb1.mono (by omega)))
  clear hb1 HB6
  go_wp2_with fail
  go_ret
  exact ⟨rfl, HB7.out⟩
end Go.Proofs.Ytgcdnigfojihiaa
