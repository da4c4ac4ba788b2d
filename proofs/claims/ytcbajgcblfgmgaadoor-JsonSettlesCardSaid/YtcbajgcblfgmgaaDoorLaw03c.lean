
/-
  The law JsonPrefixes.
-/
import Derived.Test.YtcbajgcblfgmgaaDoorLaw03b
namespace Go.Proofs.YtcbajgcblfgmgaaDoor
open Go.RowKit
theorem ext_take (s : ByteArray) (n : Nat) : (s.extract 0 n).data.toList = s.data.toList.take n := by
  rw [ByteArray.data_extract, Array.toList_extract]; simp
theorem rd_zero (w : World) (B : Nat) : Rd w B (.agg #[.int .i64 0, .int .i64 0, .string ⟨#[]⟩, .slice none 0 0, .slice none 0 0]) (.mk 0 0 ⟨#[]⟩ [] []) :=
  (rdS_leaf w (fun _ => False) (by unfold small; omega) (by unfold small; omega) (by decide)).toRd (fun _ h => h.elim)
set_option maxRecDepth 100000 in
set_option maxHeartbeats 4000000 in
theorem prefixes_row {w : World} (v : Value) (t : VT) (n1 : Int) (h : Rd w w.heap.size v t) (hL : T1.Laid w) (hl : t.bw ≤ 4294967296) :
    Calls Tryd.prog 5 #[v, .int .i64 n1] w fun e w' => e = .returned (.bool true) ∧ Below w.heap.size w w' := by
  have HRD := Lib.hid h
  have HL := Lib.hid hL
  obtain ⟨k, n, s, A, li, ci, K, lk, ck, rfl⟩ := h.shape
  have hkd : t.kd = k := by cases h; rfl
  clear h hL
  have b0 : Below w.heap.size w (w.alloc (.cells #[.int .i64 k, .int .i64 n, .string s, .slice A li ci, .slice K lk ck] 25 (0, 0))) := (Below.refl _ _).alloc (Nat.le_refl _) _
  have X0 := Lib.hid (Box.new w (.int .i64 k) (.int .i64 n) (.string s) (.slice A li ci) (.slice K lk ck))
  have HC := Lib.hid (large_any t _ _ ((HRD.out.kept b0).mono b0.size) (by omega))
  have B0 := Lib.hid b0
  clear b0
  obtain ⟨x0, x1, x2, x3, x4⟩ := X0.out.cells
  go_enter Tryd.func5, Tryd.ntmps5
  go_wp2_with fail
  refine HC.out.mono ?_
  rintro e w1 ⟨rfl, b1⟩
  have B1 := Lib.hid (B0.out.trans (b1.mono B0.out.size))
  have X1 := Lib.hid (X0.out.kept b1)
  clear b1 X0 B0 HC x0 x1 x2 x3 x4
  obtain ⟨x0, x1, x2, x3, x4⟩ := X1.out.cells
  cases hbig : decide (3000 < t.bw)
  · have HR := Lib.hid (right_any t w1 _ _ ((HRD.out.kept B1.out).mono B1.out.size) (Nat.le_refl _))
    go_wp2_with fail
    refine HR.out.mono ?_
    rintro e w2 ⟨rfl, b2⟩
    have B2 := Lib.hid (B1.out.trans (b2.mono B1.out.size))
    have X2 := Lib.hid (X1.out.kept b2)
    clear b2 x0 x1 x2 x3 x4 HR
    obtain ⟨x0, x1, x2, x3, x4⟩ := X2.out.cells
    cases hri : rightB false t
    · go_wp2_with fail
      refine (jexample_any w2 (HL.out.below B2.out)).mono ?_
      rintro e w4 ⟨rfl, b4⟩
      have B4 := Lib.hid (B2.out.trans (b4.mono B2.out.size))
      clear b4
      go_wp2_with fail
      go_ret
      exact ⟨rfl, B4.out⟩
    · by_cases hkk : k = 3 ∨ k = 5 ∨ k = 6
      · have hk3 : 3 ≤ t.kd := by omega
        obtain ⟨a, ha⟩ := right_txt hri
        have hsm := rd_sm t HRD.out
        have hal := txt_le t a ha hsm
        have hbig' : ¬ 3000 < t.bw := of_decide_eq_false hbig
        have hsz : (⟨a.toArray⟩ : ByteArray).size ≤ 1073741824 := by rw [← T1.size_eq]; simp; omega
        have hse : (⟨a.toArray⟩ : ByteArray).size = a.length := by rw [← T1.size_eq]
        have CUT : ∀ m : Nat, m < (⟨a.toArray⟩ : ByteArray).size → Hid (parseR ((⟨a.toArray⟩ : ByteArray).extract 0 m) = .error (m, 3)) := fun m hm =>
          Lib.hid (parse_cut _ (by rw [ext_take]) (by omega) ha hri hsm hk3)
        have PR : Hid (Calls Tryd.prog 9 #[.agg #[.int .i64 k, .int .i64 n, .string s, .slice A li ci, .slice K lk ck]] w2 fun e w' => e = .returned (.tuple #[.string (⟨a.toArray⟩ : ByteArray), .int .i64 0]) ∧ Below w2.heap.size w2 w') := Lib.hid ((print_any t w2 _ ((HRD.out.kept B2.out).mono B2.out.size) (HL.out.below B2.out) (by omega)).mono fun e w' h => by rw [ha] at h; exact ⟨h.1, h.2⟩)
        have HCUT := Lib.hid CUT
        generalize (⟨a.toArray⟩ : ByteArray) = sa at *
        clear hal ha hsm hri hkd hk3 hse CUT
        rcases hkk with rfl | rfl | rfl
        all_goals
          go_wp2_with fail
          refine PR.out.mono ?_
          rintro e w3 ⟨rfl, b3⟩
          have B3 := Lib.hid (B2.out.trans (b3.mono B2.out.size))
          clear b3 x0 x1 x2 x3 x4 PR
          by_cases h0 : n1 < 0
          · go_wp2_with fail
            refine (jexample_any w3 (HL.out.below B3.out)).mono ?_
            rintro e w4 ⟨rfl, b4⟩
            have B4 := Lib.hid (B3.out.trans (b4.mono B3.out.size))
            clear b4
            go_wp2_with fail
            go_ret
            exact ⟨rfl, B4.out⟩
          by_cases h1 : (sa.size : Int) ≤ n1
          · go_wp2_with fail
            refine (jexample_any w3 (HL.out.below B3.out)).mono ?_
            rintro e w4 ⟨rfl, b4⟩
            have B4 := Lib.hid (B3.out.trans (b4.mono B3.out.size))
            clear b4
            go_wp2_with fail
            go_ret
            exact ⟨rfl, B4.out⟩
          obtain ⟨m, rfl⟩ : ∃ m : Nat, n1 = (m : Int) := ⟨n1.toNat, by omega⟩
          have hc := HCUT.out m (by omega)
          have hm1 : (m : Int) ≤ sa.size := by omega
          have PA0 := parse_any (sa.extract 0 m) w3 (HL.out.below B3.out) (by rw [← T1.size_eq, ext_take, List.length_take, T1.size_eq]; omega)
          rw [hc.out] at PA0
          have PA : Hid (Calls Tryd.prog 10 #[.string (sa.extract 0 m)] w3 fun e w' => e = .returned (.tuple #[.agg #[.int .i64 0, .int .i64 0, .string ⟨#[]⟩, .slice none 0 0, .slice none 0 0], .int .i64 m, .int .i64 3]) ∧ Below w3.heap.size w3 w') := Lib.hid (PA0.mono fun e w' ⟨h, hb⟩ => ⟨by
            rcases h with ⟨_, _, h, _⟩ | ⟨x, h, h2⟩
            · cases h
            · cases h; exact h2, hb⟩)
          clear hc PA0 HCUT
          go_wp2_with fail
          refine PA.out.mono ?_
          rintro e w4 ⟨rfl, b4⟩
          have B4 := Lib.hid (B3.out.trans (b4.mono B3.out.size))
          have EQ := Lib.hid (fun (w5 : World) => equal_any (.mk 0 0 ⟨#[]⟩ [] []) w5 w5.heap.size _ _ (rd_zero w5 _) (rd_zero w5 _) (Nat.le_refl _))
          have bz : Below w4.heap.size w4 (w4.alloc (.cells #[.int .i64 0, .int .i64 0, .string ⟨#[]⟩, .slice none 0 0, .slice none 0 0] 25 (0, 0))) := (Below.refl _ _).alloc (Nat.le_refl _) _
          have B5 := Lib.hid (B4.out.trans (bz.mono B4.out.size))
          have hmm : ((m : Int) == (m : Int)) = true := by simp
          clear b4 bz PA
          go_wp2_with fail
          refine (EQ.out _).mono ?_
          rintro e w6 ⟨rfl, b6⟩
          have B6 := Lib.hid (B5.out.trans (b6.mono B5.out.size))
          clear b6
          go_wp2_with fail
          refine (jexample_any w6 (HL.out.below B6.out)).mono ?_
          rintro e w7 ⟨rfl, b7⟩
          have B7 := Lib.hid (B6.out.trans (b7.mono B6.out.size))
          clear b7
          go_wp2_with fail
          go_ret
          exact ⟨rfl, B7.out⟩
      · have z1 : (k != 3) = true := by simp; omega
        have z2 : (k != 5) = true := by simp; omega
        have z3 : (k != 6) = true := by simp; omega
        clear hkk hkd
        go_wp2_with fail
        refine (jexample_any w2 (HL.out.below B2.out)).mono ?_
        rintro e w4 ⟨rfl, b4⟩
        have B4 := Lib.hid (B2.out.trans (b4.mono B2.out.size))
        clear b4
        go_wp2_with fail
        go_ret
        exact ⟨rfl, B4.out⟩
  · go_wp2_with fail
    refine (jexample_any w1 (HL.out.below B1.out)).mono ?_
    rintro e w4 ⟨rfl, b4⟩
    have B4 := Lib.hid (B1.out.trans (b4.mono B1.out.size))
    clear b4
    go_wp2_with fail
    go_ret
    exact ⟨rfl, B4.out⟩
end Go.Proofs.YtcbajgcblfgmgaaDoor
