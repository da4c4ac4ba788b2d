
/-
  Contracts of the constructors, of Object and of Get.
-/
import Derived.Test.YtgbckpihlklnlaaDistinct
import Derived.Test.YtgbckpihlklnlaaCompare
namespace Go.Proofs.Ytgbckpihlklnlaa
open Go.RowKit
def leafV (k n : Int) (s : ByteArray) : Value := .agg #[.int .i64 k, .int .i64 n, .string s, .slice none 0 0, .slice none 0 0]
def leafT (k n : Int) (s : ByteArray) : VT := .mk k n s [] []
theorem Rd.leaf {w : World} {B : Nat} {k n : Int} {s : ByteArray} (hk : small k) (hn : small n) (hs : s.size ≤ 140737488351232) : Rd w B (leafV k n s) (leafT k n s) :=
  .mk (fun _ => undef) hk hn hs (by simp) rfl rfl (by decide) (by decide) (fun h => by omega) (fun i t hi => by simp at hi) (fun h => by simp at h)
theorem int_any (n : Int) (w : World) : Calls Try.prog 19 #[.int .i64 n] w fun e w' => e = .returned (.agg #[.int .i64 2, .int .i64 n, .string ⟨#[]⟩, .slice none 0 0, .slice none 0 0]) ∧ Below w.heap.size w w' := by
  go_enter Try.func19, Try.ntmps19
  go_wp2_with fail
  exact bodyPost_ret (v := .agg #[.int .i64 2, .int .i64 n, .string ⟨#[]⟩, .slice none 0 0, .slice none 0 0]) (by simp [results, Try.results19, go_sem]) rfl ⟨rfl, (Below.refl _ _).alloc (Nat.le_refl _) _⟩
def yesI (y : Bool) : Int := if y then 1 else 0
theorem bool_any (y : Bool) (w : World) : Calls Try.prog 24 #[.bool y] w fun e w' => e = .returned (.agg #[.int .i64 1, .int .i64 (yesI y), .string ⟨#[]⟩, .slice none 0 0, .slice none 0 0]) ∧ Below w.heap.size w w' := by
  cases y
  · go_enter Try.func24, Try.ntmps24
    go_wp2_with fail
    exact bodyPost_ret (v := .agg #[.int .i64 1, .int .i64 0, .string ⟨#[]⟩, .slice none 0 0, .slice none 0 0]) (by simp [results, Try.results24, go_sem]) rfl ⟨rfl, (Below.refl _ _).alloc (Nat.le_refl _) _⟩
  · go_enter Try.func24, Try.ntmps24
    go_wp2_with fail
    exact bodyPost_ret (v := .agg #[.int .i64 1, .int .i64 1, .string ⟨#[]⟩, .slice none 0 0, .slice none 0 0]) (by simp [results, Try.results24, go_sem]) rfl ⟨rfl, (Below.refl _ _).alloc (Nat.le_refl _) _⟩
theorem below_five {a w : World} {b : Nat} (h : Below b a w) (u0 u1 u2 u3 u4 : Value) : Below b a (((((w.setCell ⟨b, 0, none⟩ u0).setCell ⟨b, 1, none⟩ u1).setCell ⟨b, 2, none⟩ u2).setCell ⟨b, 3, none⟩ u3).setCell ⟨b, 4, none⟩ u4) :=
  ((((h.setCell (Nat.le_refl _) _).setCell (Nat.le_refl _) _).setCell (Nat.le_refl _) _).setCell (Nat.le_refl _) _).setCell (Nat.le_refl _) _
def zeroV : Value := .agg #[.int .i64 0, .int .i64 0, .string ⟨#[]⟩, .slice none 0 0, .slice none 0 0]
/- What Object returns. -/
def objectV (K : Option Addr) (lk ck : Nat) (A : Option Addr) (li ci : Nat) (keys : List ByteArray) : Value :=
  if lk ≠ li then .tuple #[zeroV, .int .i64 2] else if keys.Nodup then .tuple #[.agg #[.int .i64 6, .int .i64 0, .string ⟨#[]⟩, .slice A li ci, .slice K lk ck], .int .i64 0] else .tuple #[zeroV, .int .i64 7]
theorem object_any (K : Option Addr) (lk ck : Nat) (A : Option Addr) (li ci : Nat) (keys : List ByteArray) (w : World) (B : Nat) (hlk : keys.length = lk) (hbk : lk * 16 ≤ 140737488351232) (hbi : li * 80 ≤ 140737488351232) (hks : ∀ s ∈ keys, s.size ≤ 140737488351232) (hK : KeysAt w B K keys) (hB : B ≤ w.heap.size) :
    Calls Try.prog 7 #[.slice K lk ck, .slice A li ci] w fun e w' => e = .returned (objectV K lk ck A li ci keys) ∧ Below w.heap.size w w' := by
  have HD : Hid (∀ o, Calls Try.prog 25 #[.slice K lk ck] (w.alloc o) fun e w' => e = .returned (.bool (decide keys.Nodup)) ∧ Below (w.alloc o).heap.size (w.alloc o) w') :=
    Lib.hid fun o => distinct_any K lk ck keys _ B hlk hbk hks (hK.kept ((Below.refl _ _).alloc hB _)) (by simp; omega)
  clear hlk hks hK
  have hlm : (li : Int) ≤ 140737488351232 := by omega
  have hlm' : (lk : Int) ≤ 140737488351232 := by omega
  by_cases h1 : lk = li
  · have h1' : ((lk : Int) != (li : Int)) = false := by rw [h1]; simp
    have h1n : (lk != li) = false := by rw [h1]; simp
    by_cases h2 : keys.Nodup
    · have HV : Hid (objectV K lk ck A li ci keys = .tuple #[.agg #[.int .i64 6, .int .i64 0, .string ⟨#[]⟩, .slice A li ci, .slice K lk ck], .int .i64 0]) := Lib.hid (by unfold objectV; rw [if_neg (by simpa using h1), if_pos h2])
      have HE : Hid (decide keys.Nodup = true) := Lib.hid (by simpa using h2)
      clear h1 h2
      go_enter Try.func7, Try.ntmps7
      go_wp2_with fail
      refine (HD.out _).mono ?_
      rintro e w1 ⟨rfl, hb⟩
      rw [HE.out]
      have hs := hb.size
      simp only [World.size_alloc] at hs
      have hx := (Box.new w (.int .i64 0) (.int .i64 0) (.string ⟨#[]⟩) (.slice none 0 0) (.slice none 0 0)).kept hb
      have hf : ∀ i, w1.frozen? ⟨w.heap.size, i, none⟩ = false := fun i => by rw [hb.frozen (p := ⟨w.heap.size, i, none⟩) (by simp)]; simp [go_sem]
      have HB : Hid (Below w.heap.size w w1) := Lib.hid (((Below.refl _ _).alloc (Nat.le_refl _) _).trans (hb.mono (by simp)))
      obtain ⟨x0, x1, x2, x3, x4⟩ := hx.cells
      clear hb hx
      go_wp2_with fail
      exact bodyPost_ret (v := .tuple #[.agg #[.int .i64 6, .int .i64 0, .string ⟨#[]⟩, .slice A li ci, .slice K lk ck], .int .i64 0])
        (by simp [results, Try.results7, go_sem, x0, x1, x2, x3, x4]) rfl ⟨by rw [HV.out], below_five HB.out _ _ _ _ _⟩
    · have HV : Hid (objectV K lk ck A li ci keys = .tuple #[zeroV, .int .i64 7]) := Lib.hid (by unfold objectV; rw [if_neg (by simpa using h1), if_neg h2])
      have HE : Hid (decide keys.Nodup = false) := Lib.hid (by simpa using h2)
      clear h1 h2
      go_enter Try.func7, Try.ntmps7
      go_wp2_with fail
      refine (HD.out _).mono ?_
      rintro e w1 ⟨rfl, hb⟩
      rw [HE.out]
      have hx := (Box.new w (.int .i64 0) (.int .i64 0) (.string ⟨#[]⟩) (.slice none 0 0) (.slice none 0 0)).kept hb
      have hf : ∀ i, w1.frozen? ⟨w.heap.size, i, none⟩ = false := fun i => by rw [hb.frozen (p := ⟨w.heap.size, i, none⟩) (by simp)]; simp [go_sem]
      have HB : Hid (Below w.heap.size w w1) := Lib.hid (((Below.refl _ _).alloc (Nat.le_refl _) _).trans (hb.mono (by simp)))
      obtain ⟨x0, x1, x2, x3, x4⟩ := hx.cells
      clear hb hx
      go_wp2_with fail
      exact bodyPost_ret (v := .tuple #[zeroV, .int .i64 7]) (by simp [results, Try.results7, zeroV, go_sem, x0, x1, x2, x3, x4]) rfl ⟨by rw [HV.out], below_five HB.out _ _ _ _ _⟩
  · have h1' : ((lk : Int) != (li : Int)) = true := by rw [bne_iff_ne]; omega
    have h1n : (lk != li) = true := by rw [bne_iff_ne]; exact h1
    have HV : Hid (objectV K lk ck A li ci keys = .tuple #[zeroV, .int .i64 2]) := Lib.hid (by unfold objectV; rw [if_pos h1])
    clear h1
    go_enter Try.func7, Try.ntmps7
    go_wp2_with fail
    exact bodyPost_ret (v := .tuple #[zeroV, .int .i64 2]) (by simp [results, Try.results7, zeroV, go_sem]) rfl ⟨by rw [HV.out], (Below.refl _ _).alloc (Nat.le_refl _) _⟩
end Go.Proofs.Ytgbckpihlklnlaa
