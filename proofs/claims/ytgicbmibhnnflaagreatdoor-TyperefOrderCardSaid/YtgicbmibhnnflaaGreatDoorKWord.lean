
/-
  Words.
-/
import Derived.Test.YtgicbmibhnnflaaGreatDoorKSep
import Derived.Test.YtgicbmibhnnflaaGreatDoorKRune
namespace Go.Proofs.YtgicbmibhnnflaaGreatDoor
open Go.RowKit
def ndL : ByteArray := ⟨#[65, 66, 67, 68, 69, 70, 71, 72, 73, 74, 75, 76, 77, 78, 79, 80, 81, 82, 83, 84, 85, 86, 87, 88, 89, 90, 97, 98, 99, 100, 101, 102, 103, 104, 105, 106, 107, 108, 109, 110, 111, 112, 113, 114, 115, 116, 117, 118, 119, 120, 121, 122, 95, 48, 49, 50, 51, 52, 53, 54, 55, 56, 57]⟩
theorem ndL_set : AscSet ndL := ⟨by decide +kernel, by decide, by decide⟩
theorem nd_mem : ∀ n : Fin 128, decide ((UInt8.ofNat n.val) ∈ ndL.data.toList) = wdB (UInt8.ofNat n.val) := by decide +kernel
def wdHi (_ : Unit) : Option Unit := none
theorem wd_high (u : Unit) (c : UInt8) (h : 128 ≤ c.toNat) : wdS u c = wdHi u := by
  have : ∀ c : UInt8, 128 ≤ c.toNat → wdB c = false := fun c h => by
    have h2 : T1.nmB (c.toNat : Int) = false := by
      unfold T1.nmB T1.letB T1.digB
      simp
      omega
    exact h2
  unfold wdS
  rw [this c h]; rfl
theorem wd_rune (r : Nat) : (decide (r < 128 ∧ r.toUInt8 ∈ ndL.data.toList)) = (if r < 128 then wdS () r.toUInt8 else wdHi ()).isSome := by
  by_cases h : r < 128
  · rw [if_pos h]
    have e := nd_mem ⟨r, h⟩
    have e2 : decide (r < 128 ∧ r.toUInt8 ∈ ndL.data.toList) = decide (r.toUInt8 ∈ ndL.data.toList) := decide_eq_decide.2 ⟨fun x => x.2, fun x => ⟨h, x⟩⟩
    rw [e2]
    have e : decide (r.toUInt8 ∈ ndL.data.toList) = wdB r.toUInt8 := e
    rw [e]
    unfold wdS
    cases wdB r.toUInt8 <;> rfl
  · rw [if_neg h, decide_eq_false (fun x => h x.1)]; rfl
set_option maxRecDepth 100000 in
set_option maxHeartbeats 2000000 in
theorem word1_any (p : Nat) (u : Unit) (r : Nat) (w : World) (hr : r < 128 ∨ Utf8.valid r = true) : Calls Tryz.prog 113 (#[.int .i32 r] ++ #[]) w (SpPost (if r < 128 then wdS u r.toUInt8 else wdHi u) (fun _ _ => True) p w) := by
  have CALL0 := contains_any ndL ndL_set r hr w
  rw [wd_rune] at CALL0
  cases u
  generalize (if r < 128 then wdS () r.toUInt8 else wdHi ()) = o at *
  have CALL := Lib.hid CALL0
  clear CALL0
  show Calls _ _ #[.int .i32 r] w _
  go_enter Tryz.func113, Tryz.ntmps113
  go_wp2_with fail
  refine CALL.out.mono ?_
  rintro e w1 ⟨rfl, hb⟩
  have HB := Lib.hid hb
  clear hb
  go_wp2_with fail
  go_ret
  exact ⟨rfl, fun _ _ => trivial, Bes.of HB.out⟩
set_option maxHeartbeats 2000000 in
theorem word_any (s : ByteArray) (hs : s.size ≤ maxLen) (w : World) : Calls Tryz.prog 102 #[.string s] w fun e w' => e = .returned (.int .i64 (wdN s.data.toList)) ∧ Below w.heap.size w w' := by
  have CALL := Lib.hid (span_any (Inv := fun (_ : Unit) (_ : World) => True) (p := w.heap.size + 1) 113 (.inr (.inl rfl)) #[] wd_high (fun _ _ h => by cases h) (fun u r w' _ _ hr => word1_any _ u r w' hr) (fun _ _ _ _ _ => trivial) s hs () w trivial (by omega))
  go_enter Tryz.func102, Tryz.ntmps102
  go_wp2_with fail
  refine CALL.out.mono ?_
  rintro e w1 ⟨rfl, hb⟩
  have HB := Lib.hid (hb.below (Nat.le_succ _) (Nat.le_refl _))
  clear hb
  go_wp2_with fail
  go_ret
  exact ⟨rfl, HB.out⟩
end Go.Proofs.YtgicbmibhnnflaaGreatDoor
