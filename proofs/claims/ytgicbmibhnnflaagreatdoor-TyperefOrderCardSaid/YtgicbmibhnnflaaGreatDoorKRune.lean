
/-
  Whether a character is among ASCII characters.
-/
import Derived.Test.YtgicbmibhnnflaaGreatDoorKSpan
import Derived.Test.YtgicbmibhnnflaaGreatDoorShelf
import Derived.Test.YtgicbmibhnnflaaGreatDoorKPast
import Derived.Laws.Runes
import Derived.WalkMore
namespace Go.Proofs.YtgicbmibhnnflaaGreatDoor
open Go.RowKit
/- A set of ASCII characters. -/
structure AscSet (s : ByteArray) : Prop where
  asc : ∀ b ∈ s.data.toList, b.toNat < 128
  lo : 4 ≤ s.size
  hi : s.size ≤ 1000
theorem T1.u8_back (c : UInt8) : ((c.toNat : Int)).toNat.toUInt8 = c := by
  rw [Int.toNat_natCast]; exact UInt8.ofNat_toNat
theorem idx_none (l : List UInt8) (c : UInt8) (h : ∀ b ∈ l, b ≠ c) : Lib.indexByte l c = -1 := by
  induction l with
  | nil => rfl
  | cons b l ih =>
    unfold Lib.indexByte
    have h1 : (b == c) = false := by simpa using h b List.mem_cons_self
    simp only [h1, Bool.false_eq_true, if_false]
    rw [ih (fun x hx => h x (List.mem_cons_of_mem _ hx))]
    rfl
theorem idx_mem (l : List UInt8) (c : UInt8) : 0 ≤ Lib.indexByte l c ↔ c ∈ l := by
  induction l with
  | nil => simp [Lib.indexByte]
  | cons b l ih =>
    unfold Lib.indexByte
    by_cases h : b = c
    · subst h; simp
    · have h1 : (b == c) = false := by simpa using h
      have h2 : c ≠ b := fun e => h e.symm
      have := Lib.indexByte_ge l c
      simp only [h1, Bool.false_eq_true, if_false, List.mem_cons, h2, false_or]
      by_cases h3 : Lib.indexByte l c = -1
      · have h4 : ¬ c ∈ l := by rw [← ih]; omega
        simp [h3, h4]
      · have h4 : c ∈ l := by rw [← ih]; omega
        have h5 : (Lib.indexByte l c == -1) = false := by simpa using h3
        simp only [h5, Bool.false_eq_true, if_false, h4, iff_true]
        omega
set_option maxRecDepth 100000 in
set_option maxHeartbeats 4000000 in
theorem index_error (s : ByteArray) (hs : AscSet s) (w : World) :
    Calls Tryz.prog 101 #[.string s, .int .i32 65533] w fun e w' => e = .returned (.int .i64 (-1)) ∧ Below w.heap.size w w' := by
  have HS := Lib.hid hs
  have hhi := hs.hi
  clear hs
  go_enter Tryz.func101, Tryz.ntmps101
  go_wp2_with fail
  go_loopw [] (fun wr => ∃ (pos : Nat), wr.heap[w.heap.size]? = some (.stringIter s pos) ∧ Below w.heap.size w wr)
    (fun wr => s.size - wr.iterPos w.heap.size)
  case atStart => exact ⟨0, World.iter_heap w s 0, (Below.refl _ _).alloc (Nat.le_refl _) _⟩
  case round =>
    obtain ⟨pos, hit, hb⟩ := hrel
    have HB := Lib.hid hb
    clear hb
    by_cases hp : pos < s.size
    · have ha : (s[pos]).toNat < 128 := HS.out.asc _ (Array.getElem_mem_toList (xs := s.data) hp)
      have hnx : ∀ ty, (Instr.next (.pointer (some ⟨w.heap.size, 0, none⟩)) true ty).run Tryz.prog wr = _ := fun ty => Lib.run_next_ascii_at wr w.heap.size s pos ty hit hp ha
      have hne : ¬ (((s[pos]).toNat : Int) = 65533) := by omega
      have HIT := Lib.hid (Lib.iterAt_heap wr w.heap.size s pos (pos + 1) hit)
      have HB2 := Lib.hid (Lib.below_iterAt HB.out (k := w.heap.size) (Nat.le_refl _) s (pos + 1))
      have HI0 := Lib.hid hit
      clear hit
      go_wp2_with fail
      go_roundw
      case rel => exact ⟨pos + 1, HIT.out, HB2.out⟩
      case measure =>
        simp only [World.iterPos, HIT.out, HI0.out]
        omega
    · have hnx : ∀ ty, (Instr.next (.pointer (some ⟨w.heap.size, 0, none⟩)) true ty).run Tryz.prog wr = _ := fun ty => Lib.run_next_end_at wr w.heap.size s pos ty hit hp
      go_wp2_with fail
      go_ret
      exact ⟨rfl, HB.out⟩
set_option maxRecDepth 1000000 in
set_option maxHeartbeats 4000000 in
theorem index_high (s : ByteArray) (hs : AscSet s) (r : Nat) (h : 128 ≤ r) (hv : Utf8.valid r = true) (hr : r ≠ 65533) (w : World) :
    Calls Tryz.prog 101 #[.string s, .int .i32 r] w fun e w' => e = .returned (.int .i64 (-1)) ∧ Below w.heap.size w w' := by
  have HS := Lib.hid hs
  have HE := Lib.hid (encode_facts (r : Int) hv (by omega))
  have HVR : Hid (Lib.validRune (r : Int) = true) := Lib.hid (by rw [validRune_eq] at hv; exact hv)
  have x1 : decide ((r : Int) < 128) = false := decide_eq_false (by omega)
  have x2 : ((r : Int) == 65533) = false := by simpa using (by omega : ¬ (r : Int) = 65533)
  have x0 : decide ((0 : Int) ≤ r) = true := decide_eq_true (by omega)
  have CALL := Lib.hid (Tryz.utf8_ValidRune (r : Int) w)
  clear hs hv h hr
  generalize hri : (r : Int) = ri at *
  go_enter Tryz.func101, Tryz.ntmps101
  go_wp2_with fail
  refine CALL.out.mono ?_
  rintro e w1 ⟨rfl, rfl⟩
  rw [HVR.out]
  have u21 : (Tryz.prog.underlying 21).isSome = true := by kernel_rfl
  obtain ⟨rs, hrs⟩ : ∃ rs, Utf8.encode ri = rs := ⟨_, rfl⟩
  rw [hrs] at HE
  obtain ⟨m, hm⟩ : ∃ m, rs.size = m := ⟨_, rfl⟩
  have hm2 : 2 ≤ m ∧ m ≤ 4 := by rw [← hm]; exact ⟨HE.out.1, HE.out.2.1⟩
  have hlo := HS.out.lo
  have hms : m - 1 < s.size := by omega
  have hmr : m - 1 < rs.size := by omega
  have hx128 : Hid (128 ≤ (rs[m - 1]).toNat) := Lib.hid (by
    have := HE.out.2.2 (by omega)
    simpa [hm] using this)
  have hy128 : Hid ((s[m - 1]).toNat < 128) := Lib.hid (HS.out.asc _ (Array.getElem_mem_toList (xs := s.data) hms))
  have hne : (((s[m - 1]).toNat : Int) == ((rs[m - 1]).toNat : Int)) = false := by
    have := hx128.out
    have := hy128.out
    exact beq_false_of_ne (by omega)
  go_wp2_with fail
  go_step3
  go_wp2_with fail
  go_loopw [9] (fun v wr => v = .int .i64 ((m : Int) - 1) ∧ wr = w1) (fun _ _ => 0)
  case atStart => exact ⟨rfl, rfl⟩
  case round =>
    obtain ⟨rfl, rfl⟩ := hrel
    have h1 : ((m : Int) - 1) < s.size := by omega
    have h2 : (0 : Int) ≤ (m : Int) - 1 := by omega
    have h3 : ((m : Int) - 1).toNat = m - 1 := by omega
    have h4 : (1 : Int) ≤ m := by omega
    have h5 : ((m : Int) - 1) < (m : Int) := by omega
    have h6 : ((m : Int) - 1) < (rs.size : Int) := by omega
    go_wp2_with fail
    go_step3
    go_wp2_with fail
    go_region
    all_goals
      go_wp2_with fail
      refine wp_region_past (fun _ => True) trivial (by kernel_rfl) ?_
      intro W _ hbw
      have C1 : Hid (∀ x0 : Past W, Calls Tryz.prog 109 #[.string (s.extract m s.size), .int .u8 (rs[m - 1]).toNat] x0.w fun e w'' => e = .returned (.int .i64 (-1)) ∧ ∃ y : Past W, w'' = y.w) :=
        Lib.hid fun x0 => past_of x0 ((Tryz.strings_IndexByte (s.extract m s.size) _ x0.w).mono (fun e w' h => ⟨by
          rw [h.1, T1.u8_back, idx_none _ _ (fun b hb hbc => by
            have h1 := HS.out.asc b (mem_extract hb)
            have h2 := hx128.out
            rw [hbc] at h1; omega)], by rw [h.2]; exact Below.refl _ _⟩))
      repeat (go_big_quiet_step (first | with_reducible exact C1.out _))
      refine wpQuiet_nil ?_
      intro _ hw'
      obtain ⟨x0, rfl⟩ := hw'
      have HBX := Lib.hid (((Below.refl _ _).drew.trans (hbw.mono (by simp))).trans (x0.b.mono hbw.size))
      generalize x0.w = wx at *
      go_wp2_with fail
      rw [Exit.noGoto_ret]
      go_wp2_with fail
      first | (rw [Exit.noGoto_ret]; go_wp2_with fail) | skip
      go_ret
      exact ⟨rfl, HBX.out⟩
theorem contains_any (s : ByteArray) (hs : AscSet s) (r : Nat) (hv : r < 128 ∨ Utf8.valid r = true) (w : World) :
    Calls Tryz.prog 83 #[.string s, .int .i32 r] w fun e w' => e = .returned (.bool (decide (r < 128 ∧ r.toUInt8 ∈ s.data.toList))) ∧ Below w.heap.size w w' := by
  by_cases h : r < 128
  · refine (Tryz.strings_ContainsRune_ascii s r w (by omega) (by omega)).mono ?_
    rintro e w' ⟨rfl, rfl⟩
    refine ⟨?_, Below.refl _ _⟩
    rw [Int.toNat_natCast]
    congr 2
    apply decide_eq_decide.2
    rw [idx_mem]
    exact ⟨fun x => ⟨h, x⟩, fun x => x.2⟩
  · have hv := hv.resolve_left h
    have hd : decide (r < 128 ∧ r.toUInt8 ∈ s.data.toList) = false := decide_eq_false (fun x => h x.1)
    rw [hd]
    have hc : Calls Tryz.prog 101 #[.string s, .int .i32 r] w fun e w' => e = .returned (.int .i64 (-1)) ∧ Below w.heap.size w w' := by
      by_cases h3 : r = 65533
      · subst h3; exact index_error s hs w
      · exact index_high s hs r (by omega) hv h3 w
    go_enter Tryz.func83, Tryz.ntmps83
    go_wp2_with fail
    refine hc.mono ?_
    rintro e w1 ⟨rfl, hb⟩
    have HB := Lib.hid hb
    clear hb
    go_wp2_with fail
    go_ret
    exact ⟨rfl, HB.out⟩
end Go.Proofs.YtgicbmibhnnflaaGreatDoor
