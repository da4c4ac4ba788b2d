
/-
  Two lists of tokens that are the same.
-/
import Derived.Test.YtpmahimlpajdcaaGreatDoorOwn
namespace Go.Proofs.YtpmahimlpajdcaaGreatDoor
open Go.RowKit
set_option maxRecDepth 100000 in
set_option maxHeartbeats 4000000 in
theorem same_any (xs : List Tz) (hx : xs.length ≤ 70000) (A B : Option Addr) (c d : Nat) (w : World) (ha : ZAt w w.heap.size A xs) (hb : ZAt w w.heap.size B xs) :
    Calls Tryz.prog 8 #[.slice A xs.length c, .slice B xs.length d] w fun e w' => e = .returned (.bool true) ∧ Below w.heap.size w w' := by
  have HA := Lib.hid ha
  have HB := Lib.hid hb
  have HLEN : Hid ((xs.length : Int) ≤ 70000) := Lib.hid (by omega)
  clear ha hb hx
  go_enter Tryz.func8, Tryz.ntmps8
  go_wp2_with fail
  go_loopw [5] (fun i wr => ∃ k : Nat, i = .int .i64 k ∧ k ≤ xs.length ∧ Below w.heap.size w wr) (fun i _ => xs.length - (intOf i).toNat)
  case atStart => exact ⟨0, rfl, Nat.zero_le _, Below.refl _ _⟩
  case round =>
    obtain ⟨k, rfl, hk, hw⟩ := hrel
    have HW := Lib.hid hw
    have hlm := HLEN.out
    by_cases hlt : k < xs.length
    · obtain ⟨a, kd, t, i1, rfl, hp, h0, h1, h2⟩ := z_round HA.out hw hlt
      obtain ⟨b, kd', t', i2, rfl, hp', g0, g1, g2⟩ := z_round HB.out hw hlt
      have he : (kd, t, i1) = (kd', t', i2) := Option.some.inj (hp.symm.trans hp')
      injection he with e1 e2
      injection e2 with e2 e3
      subst e1 e2 e3
      have hlt' : (k : Int) < xs.length := by omega
      obtain ⟨a3, ea3, ha3, hc3⟩ := HA.out (by omega)
      obtain rfl : a = a3 := Option.some.inj ea3
      obtain ⟨b3, eb3, hb3, hd3⟩ := HB.out (by omega)
      obtain rfl : b = b3 := Option.some.inj eb3
      have HCA := Lib.hid ((hc3 k _ hp).kept (by rw [add_block]; exact ha3) hw)
      have HCB := Lib.hid ((hd3 k _ hp').kept (by rw [add_block]; exact hb3) hw)
      have HBA : Hid ((a.add (k * 3)).block < w.heap.size) := Lib.hid (by rw [add_block]; exact ha3)
      have HBB : Hid ((b.add (k * 3)).block < w.heap.size) := Lib.hid (by rw [add_block]; exact hb3)
      clear hp hp' hw hc3 hd3 ha3 hb3 ea3 eb3
      clear h0 h1 h2 g0 g1 g2
      go_wp2_with fail
      refine wp_region_past (fun W => C3 W (a.add (k * 3)) (kd, t, i1) ∧ C3 W (b.add (k * 3)) (kd, t, i1) ∧ Below w.heap.size w W) ⟨HCA.out, HCB.out, HW.out⟩ (by kernel_rfl) ?_
      intro W ⟨f1, f2, f3⟩ hbw
      obtain ⟨y0, y1, y2⟩ := f1.past (Nat.lt_of_lt_of_le HBA.out f3.size)
      obtain ⟨z0, z1, z2⟩ := f2.past (Nat.lt_of_lt_of_le HBB.out f3.size)
      repeat (go_big_quiet_step (fail))
      refine wpQuiet_nil ?_
      intro _ hw'
      obtain ⟨xw, rfl⟩ := hw'
      have HBY := Lib.hid (f3.trans (xw.b.mono f3.size))
      clear y0 y1 y2 z0 z1 z2 f1 f2 f3 hbw
      generalize xw.w = wy at *
      go_wp2_with fail
      go_roundw
      case rel => exact ⟨k + 1, by go_num, by omega, HBY.out⟩
      case measure => simp [intOf]; omega
    · have hlt' : ¬ (k : Int) < xs.length := by omega
      go_wp2_with fail
      go_ret
      exact ⟨rfl, HW.out⟩
end Go.Proofs.YtpmahimlpajdcaaGreatDoor
