
/-
  The chapter's example; the law TokenPlaces.
-/
import Derived.Test.YtpmahimlpajdcaaGreatDoorKPrint
namespace Go.Proofs.YtpmahimlpajdcaaGreatDoor
open Go.RowKit
def exTs : List Tk := [(1, [123], 0), (2, [97], 1), (2, [98], 4), (1, [58], 5), (3, [45, 49], 6), (1, [125], 8), (5, [], 9)]
theorem ex_scan : scR [123, 97, 44, 32, 98, 58, 45, 49, 125] = .ok exTs := by kernel_rfl
theorem ex_join : joinZ (tz exTs) = [123, 32, 97, 32, 98, 32, 58, 32, 45, 49, 32, 125] := by kernel_rfl
theorem ex_ok : ZOk (tz exTs) := ⟨by decide, by decide +kernel⟩
set_option maxRecDepth 100000 in
set_option maxHeartbeats 4000000 in
theorem example_any (w : World) (hL : LK w) : Calls Tryz.prog 5 #[] w fun e w' => e = .returned (.bool true) ∧ Below w.heap.size w w' := by
  have CALL0 := scan_any ⟨#[123, 97, 44, 32, 98, 58, 45, 49, 125]⟩ w hL
  have e0 : (⟨#[123, 97, 44, 32, 98, 58, 45, 49, 125]⟩ : ByteArray).data.toList = [123, 97, 44, 32, 98, 58, 45, 49, 125] := rfl
  rw [e0, ex_scan] at CALL0
  have CALL := Lib.hid CALL0
  clear CALL0 e0 hL
  go_enter Tryz.func5, Tryz.ntmps5
  go_wp2_with fail
  refine CALL.out.mono ?_
  rintro e w1 ⟨⟨v, rfl, hown⟩, hb⟩
  have HB1 := Lib.hid hb
  obtain ⟨A, c, rfl, hz, hc⟩ := hown.z.at
  have el : (tz exTs).length = 7 := rfl
  obtain ⟨a, k4, t4, i4, rfl, hp, h0, h1, h2⟩ := z_round (j := 4) hz (Below.refl _ _) (by decide)
  have hp : (3, [45, 49], (6 : Int)) = (k4, t4, i4) := Option.some.inj hp
  injection hp with p1 hp
  injection hp with p2 p3
  subst p1 p2 p3
  have CALL2 := Lib.hid (print_any (tz exTs) ex_ok (some a) c w1 hz)
  rw [ex_join] at CALL2
  rw [el] at CALL2 ⊢
  have h2b : w1.cell? ⟨a.block, a.off + 12 + 2, none⟩ = some (.int .i64 6) := h2
  have h2c : w1.cell? ⟨a.block, a.off + 14, none⟩ = some (.int .i64 6) := h2b
  clear hb hown hz hc el h0 h1 h2 CALL
  go_wp2_with fail
  refine CALL2.out.mono ?_
  rintro e w2 ⟨rfl, hb⟩
  have HB2 := Lib.hid (HB1.out.trans (hb.mono HB1.out.size))
  clear hb
  go_wp2_with fail
  go_ret
  exact ⟨by first | rfl | decide, HB2.out⟩
theorem long_any (s : ByteArray) (w : World) : Calls Tryz.prog 4 #[.string s] w fun e w' => e = .returned (.bool (decide (2000 < s.size ∧ s.size ≤ 65536))) ∧ w = w' := by
  by_cases h1 : 2000 < s.size
  · have g1 : (s.size : Int) > 2000 := by omega
    by_cases h2 : s.size ≤ 65536
    · have g2 : (s.size : Int) ≤ 65536 := by omega
      rw [decide_eq_true (And.intro h1 h2)]
      go_enter Tryz.func4, Tryz.ntmps4
      go_wp2_with fail
      go_ret
      exact ⟨rfl, rfl⟩
    · have g2 : ¬ (s.size : Int) ≤ 65536 := by omega
      rw [decide_eq_false (fun h => h2 h.2)]
      go_enter Tryz.func4, Tryz.ntmps4
      go_wp2_with fail
      go_ret
      exact ⟨rfl, rfl⟩
  · have g1 : ¬ (s.size : Int) > 2000 := by omega
    rw [decide_eq_false (fun h => h1 h.1)]
    go_enter Tryz.func4, Tryz.ntmps4
    go_wp2_with fail
    go_ret
    exact ⟨rfl, rfl⟩
end Go.Proofs.YtpmahimlpajdcaaGreatDoor
