/-
  The statements' common part: the examples of the chapter hold; the length test.
-/
import Derived.Test.YtilknpfjlngfoaaDoorTextNumber
import Derived.Test.YtilknpfjlngfoaaDoorRefQuote
namespace Go.Proofs.YtilknpfjlngfoaaDoor
open Go.RowKit
theorem ex_number (w : World) (hL : Laid w) :
    Calls Tryd.prog 18 #[.string ⟨#[45, 49, 50]⟩] w fun e w' => e = .returned (.tuple #[.int .i64 (-12), .int .i64 0]) ∧ Below w.heap.size w w' := by
  have h := number_any ⟨#[45, 49, 50]⟩ w hL (by decide)
  have e : numL (⟨#[45, 49, 50]⟩ : ByteArray).data.toList = (-12, 0) := by decide +kernel
  rw [e] at h; exact h
theorem ex_name (w : World) :
    Calls Tryd.prog 8 #[.string ⟨#[95, 97, 49]⟩] w fun e w' => e = .returned (.bool true) ∧ w = w' := by
  have h := name_any ⟨#[95, 97, 49]⟩ w (by decide)
  have e : nameL (⟨#[95, 97, 49]⟩ : ByteArray).data.toList = true := by decide +kernel
  rw [e] at h; exact h
theorem ex_quote (w : World) :
    Calls Tryd.prog 14 #[.string ⟨#[97, 34]⟩] w fun e w' => e = .returned (.string ⟨#[34, 97, 92, 34, 34]⟩) ∧ Below w.heap.size w w' := by
  have h := quote_any ⟨#[97, 34]⟩ w (by decide)
  have e : quoteL (⟨#[97, 34]⟩ : ByteArray).data.toList = [34, 97, 92, 34, 34] := by decide +kernel
  rw [e] at h; exact h
theorem ex_decimal (w : World) (hL : Laid w) :
    Calls Tryd.prog 20 #[.int .i64 (-12)] w fun e w' => e = .returned (.string ⟨#[45, 49, 50]⟩) ∧ Below w.heap.size w w' := by
  have h := decimal_any (-12) w hL (by decide) (by decide)
  have e : Lib.itoa (-12) = [45, 49, 50] := by
    unfold Lib.itoa
    rw [if_pos (by decide), Lib.decDigits_two (by decide) (by decide)]; rfl
  rw [e] at h; exact h
theorem example_any (w : World) (hL : Laid w) :
    Calls Tryd.prog 12 #[] w fun e w' => e = .returned (.bool true) ∧ Below w.heap.size w w' := by
  have HL := Lib.hid hL
  clear hL
  go_enter Tryd.func12, Tryd.ntmps12
  go_wp2_with fail
  refine (ex_number _ HL.out).mono ?_
  rintro e w1 ⟨rfl, hb1⟩
  have HL1 := Lib.hid (HL.out.below hb1)
  have HB1 := Lib.hid hb1
  clear hb1
  go_wp2_with fail
  refine (ex_name _).mono ?_
  rintro e w2 ⟨rfl, rfl⟩
  go_wp2_with fail
  refine (ex_quote _).mono ?_
  rintro e w3 ⟨rfl, hb3⟩
  have HL3 := Lib.hid (HL1.out.below hb3)
  have HB3 := Lib.hid (below_tr HB1.out hb3)
  clear hb3
  go_wp2_with fail
  refine (ex_decimal _ HL3.out).mono ?_
  rintro e w4 ⟨rfl, hb4⟩
  have HB4 := Lib.hid (below_tr HB3.out hb4)
  clear hb4
  go_wp2_with fail
  go_ret
  exact ⟨rfl, HB4.out⟩
theorem long_any (s : ByteArray) (w : World) (hs : s.size ≤ maxLen) :
    Calls Tryd.prog 13 #[.string s] w fun e w' => e = .returned (.bool (decide (2000 < s.size))) ∧ w = w' := by
  unfold maxLen at hs
  by_cases h : 2000 < s.size
  all_goals
    go_enter Tryd.func13, Tryd.ntmps13
    go_wp2_with fail
    go_ret
    simp [h]
    try omega
end Go.Proofs.YtilknpfjlngfoaaDoor
