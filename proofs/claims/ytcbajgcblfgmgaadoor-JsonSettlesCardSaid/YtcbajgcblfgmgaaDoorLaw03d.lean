
/-
  The law JsonSettles.
-/
import Derived.Test.YtcbajgcblfgmgaaDoorLaw03c
import Derived.Test.YtcbajgcblfgmgaaDoorJSim
namespace Go.Proofs.YtcbajgcblfgmgaaDoor
open Go.RowKit
theorem app_list (a b : ByteArray) : (a ++ b).data.toList = a.data.toList ++ b.data.toList := by
  rw [ByteArray.data_append, Array.toList_append]
theorem pad_of (s : ByteArray) : Pad s ((⟨#[32, 9]⟩ : ByteArray) ++ s ++ (⟨#[13, 10]⟩ : ByteArray)) := ⟨by
  rw [app_list, app_list]; simp⟩
abbrev zV : Value := .agg #[.int .i64 0, .int .i64 0, .string ⟨#[]⟩, .slice none 0 0, .slice none 0 0]
theorem parse_err {s : ByteArray} {w : World} {x : Er} (hL : T1.Laid w) (hs : s.size ≤ 1073741824) (h : parseR s = .error x) :
    Calls Tryd.prog 10 #[.string s] w fun e w' => e = .returned (.tuple #[zV, .int .i64 x.1, .int .i64 x.2]) ∧ Below w.heap.size w w' := by
  refine (parse_any s w hL hs).mono fun e w' ⟨h1, hb⟩ => ⟨?_, hb⟩
  rw [h] at h1
  rcases h1 with ⟨_, _, h1, _⟩ | ⟨y, h1, h2⟩
  · cases h1
  · cases h1; exact h2
theorem parse_ok {s : ByteArray} {w : World} {t : VT} (hL : T1.Laid w) (hs : s.size ≤ 1073741824) (h : parseR s = .ok t) :
    Calls Tryd.prog 10 #[.string s] w fun e w' => (∃ u, e = .returned (.tuple #[u, .int .i64 0, .int .i64 0]) ∧ FiveV u ∧ Rd w' w'.heap.size u t) ∧ Below w.heap.size w w' := by
  refine (parse_any s w hL hs).mono fun e w' ⟨h1, hb⟩ => ⟨?_, hb⟩
  rw [h] at h1
  rcases h1 with ⟨t2, u, h1, h2, h3⟩ | ⟨y, h1, _⟩
  · cases h1
    exact ⟨u, h2, h3.fiveV, h3.toRd (fun b hb => hb.2)⟩
  · cases h1
set_option maxRecDepth 100000 in
set_option maxHeartbeats 4000000 in
theorem settles_bad {s : ByteArray} {w : World} {i i' : Nat} {c : Int} (hL : T1.Laid w) (hs : s.size ≤ 3000) (h1 : parseR s = .error (i, c)) (h2 : parseR (((⟨#[32, 9]⟩ : ByteArray) ++ s ++ (⟨#[13, 10]⟩ : ByteArray))) = .error (i', c)) (hc : c ≠ 0) (hp : PR s i i') :
    Calls Tryd.prog 4 #[.string s] w fun e w' => e = .returned (.bool true) ∧ Below w.heap.size w w' := by
  have hsp : (((⟨#[32, 9]⟩ : ByteArray) ++ s ++ (⟨#[13, 10]⟩ : ByteArray))).size ≤ 1073741824 := by rw [(pad_of s).size]; omega
  have HL := Lib.hid hL
  have PA := Lib.hid (parse_err hL (by omega) h1)
  have PB := Lib.hid (fun w2 (hL2 : T1.Laid w2) => parse_err hL2 hsp h2)
  have EQ := Lib.hid (fun (w5 : World) => equal_any (.mk 0 0 ⟨#[]⟩ [] []) w5 w5.heap.size _ _ (rd_zero w5 _) (rd_zero w5 _) (Nat.le_refl _))
  have g1 : ¬ (s.size : Int) > 3000 := by omega
  have g2 : (c != c) = false := by simp
  have g3 : (c != 0) = true := by simp [hc]
  have g4 : (i : Int) ≤ s.size := by have := hp.1; omega
  have g5 : (0 : Int) ≤ (i : Int) := by omega
  have hcase : (((i' : Int) == (i : Int) + 2) = true) ∨ (((i' : Int) == (i : Int) + 2) = false ∧ ((i : Int) == (s.size : Int)) = true ∧ ((i' : Int) == (i : Int) + 4) = true) := by
    rcases hp.2 with e | ⟨e, e'⟩
    · left; simp; omega
    · right; refine ⟨by simp; omega, by simp; omega, by simp; omega⟩
  clear hL h1 h2 hc hp hs hsp
  go_enter Tryd.func4, Tryd.ntmps4
  go_wp2_with fail
  refine PA.out.mono ?_
  rintro e w1 ⟨rfl, b1⟩
  have bz : Below w1.heap.size w1 (w1.alloc (.cells #[.int .i64 0, .int .i64 0, .string ⟨#[]⟩, .slice none 0 0, .slice none 0 0] 25 (0, 0))) := (Below.refl _ _).alloc (Nat.le_refl _) _
  have B1 := Lib.hid (b1.trans (bz.mono b1.size))
  have X1 := Lib.hid (Box.new w1 (.int .i64 0) (.int .i64 0) (.string ⟨#[]⟩) (.slice none 0 0) (.slice none 0 0))
  clear b1 bz PA
  go_wp2_with fail
  generalize (⟨#[32, 9]⟩ : ByteArray) ++ s ++ (⟨#[13, 10]⟩ : ByteArray) = sp at PB ⊢
  generalize (w1.alloc (.cells #[.int .i64 0, .int .i64 0, .string ⟨#[]⟩, .slice none 0 0, .slice none 0 0] 25 (0, 0))) = w2 at *
  refine (PB.out w2 (HL.out.below B1.out)).mono ?_
  rintro e w3 ⟨rfl, b3⟩
  have X3 := Lib.hid (X1.out.kept b3)
  have B3 := Lib.hid (B1.out.trans (b3.mono B1.out.size))
  clear b3 X1 B1
  have bz : Below w3.heap.size w3 (w3.alloc (.cells #[.int .i64 0, .int .i64 0, .string ⟨#[]⟩, .slice none 0 0, .slice none 0 0] 25 (0, 0))) := (Below.refl _ _).alloc (Nat.le_refl _) _
  have X4 := Lib.hid (X3.out.kept bz)
  have B4 := Lib.hid (B3.out.trans (bz.mono B3.out.size))
  have Y4 := Lib.hid (Box.new w3 (.int .i64 0) (.int .i64 0) (.string ⟨#[]⟩) (.slice none 0 0) (.slice none 0 0))
  clear bz
  have HC := Lib.hid hcase
  have D := Lib.hid (show (0 : Int) ≤ (i : Int) ∧ (i : Int) ≤ ((s.size : Nat) : Int) ∧ -9223372036854775808 ≤ (i : Int) + 2 ∧ (i : Int) + 2 < 9223372036854775808 from ⟨by omega, by omega, by omega, by omega⟩)
  have D2 := Lib.hid (show -9223372036854775808 ≤ (i : Int) + 4 ∧ (i : Int) + 4 < 9223372036854775808 from ⟨by omega, by omega⟩)
  have G3 := Lib.hid g3
  clear PB hcase g4 g5 g3 g1 X3 B3
  obtain ⟨x0, x1, x2, x3, x4⟩ := X4.out.cells
  obtain ⟨y0, y1, y2, y3, y4⟩ := Y4.out.cells
  go_wp2_with fail
  refine (EQ.out _).mono ?_
  rintro e w5 ⟨rfl, b5⟩
  have X5 := Lib.hid (X4.out.kept b5)
  have B5 := Lib.hid (B4.out.trans (b5.mono B4.out.size))
  clear b5 x0 x1 x2 x3 x4 y0 y1 y2 y3 y4 X4 Y4 B4
  have g3 := G3.out
  obtain ⟨x0, x1, x2, x3, x4⟩ := X5.out.cells
  go_wp2_with fail
  refine (EQ.out _).mono ?_
  rintro e w6 ⟨rfl, b6⟩
  have B6 := Lib.hid (B5.out.trans (b6.mono B5.out.size))
  have X6 := Lib.hid (X5.out.kept b6)
  clear b6 g3 G3 x0 x1 x2 x3 x4 X5 B5
  obtain ⟨d1, d2, d3, d4⟩ := D.out
  obtain ⟨d5, d6⟩ := D2.out
  rcases HC.out with q1 | ⟨q1, q2, q3⟩
  all_goals
    go_wp2_with fail
    refine (jexample_any w6 (HL.out.below B6.out)).mono ?_
    rintro e w7 ⟨rfl, b7⟩
    have B7 := Lib.hid (B6.out.trans (b7.mono B6.out.size))
    clear b7
    go_wp2_with fail
    go_ret
    exact ⟨rfl, B7.out⟩
set_option maxRecDepth 100000 in
set_option maxHeartbeats 4000000 in
theorem settles_ok {s : ByteArray} {w : World} {t : VT} (hL : T1.Laid w) (hs : s.size ≤ 3000) (h1 : parseR s = .ok t) (h2 : parseR ((⟨#[32, 9]⟩ : ByteArray) ++ s ++ (⟨#[13, 10]⟩ : ByteArray)) = .ok t) :
    Calls Tryd.prog 4 #[.string s] w fun e w' => e = .returned (.bool true) ∧ Below w.heap.size w w' := by
  have hsp : ((⟨#[32, 9]⟩ : ByteArray) ++ s ++ (⟨#[13, 10]⟩ : ByteArray)).size ≤ 1073741824 := by rw [(pad_of s).size]; omega
  obtain ⟨hri, hst, hbw⟩ := parse_good h1
  have hbig : decide (3000 < t.bw) = false := decide_eq_false (by omega)
  have HL := Lib.hid hL
  have PA := Lib.hid (parse_ok hL (by omega) h1)
  have PB := Lib.hid (fun w2 (hL2 : T1.Laid w2) => parse_ok hL2 hsp h2)
  have g1 : ¬ (s.size : Int) > 3000 := by omega
  have HB := Lib.hid (show decide (3000 < t.bw) = false ∧ rightB false t = true ∧ t.strs = t ∧ t.bw ≤ 3000 from ⟨hbig, hri, hst, by omega⟩)
  clear hL h1 h2 hs hsp hbig hri hst hbw
  go_enter Tryd.func4, Tryd.ntmps4
  go_wp2_with fail
  refine PA.out.mono ?_
  rintro e w1 ⟨⟨u, rfl, hu5, hu⟩, b1⟩
  obtain ⟨k, n, s0, A, li, ci, K, lk, ck, rfl⟩ := hu5
  have bz : Below w1.heap.size w1 (w1.alloc (.cells #[.int .i64 k, .int .i64 n, .string s0, .slice A li ci, .slice K lk ck] 25 (0, 0))) := (Below.refl _ _).alloc (Nat.le_refl _) _
  have B1 := Lib.hid (b1.trans (bz.mono b1.size))
  have X1 := Lib.hid (Box.new w1 (.int .i64 k) (.int .i64 n) (.string s0) (.slice A li ci) (.slice K lk ck))
  have R1 := Lib.hid ((Rd.kept hu bz).mono bz.size)
  clear b1 bz PA hu
  go_wp2_with fail
  generalize (⟨#[32, 9]⟩ : ByteArray) ++ s ++ (⟨#[13, 10]⟩ : ByteArray) = sp at PB ⊢
  generalize (w1.alloc (.cells #[.int .i64 k, .int .i64 n, .string s0, .slice A li ci, .slice K lk ck] 25 (0, 0))) = w2 at *
  refine (PB.out w2 (HL.out.below B1.out)).mono ?_
  rintro e w3 ⟨⟨u, rfl, hu5, hu⟩, b3⟩
  obtain ⟨k2, n2, s2, A2, li2, ci2, K2, lk2, ck2, rfl⟩ := hu5
  have X3 := Lib.hid (X1.out.kept b3)
  have B3 := Lib.hid (B1.out.trans (b3.mono B1.out.size))
  have R3 := Lib.hid ((Rd.kept R1.out b3).mono b3.size)
  clear b3 X1 B1 R1
  have bz : Below w3.heap.size w3 (w3.alloc (.cells #[.int .i64 k2, .int .i64 n2, .string s2, .slice A2 li2 ci2, .slice K2 lk2 ck2] 25 (0, 0))) := (Below.refl _ _).alloc (Nat.le_refl _) _
  have X4 := Lib.hid (X3.out.kept bz)
  have B4 := Lib.hid (B3.out.trans (bz.mono B3.out.size))
  have Y4 := Lib.hid (Box.new w3 (.int .i64 k2) (.int .i64 n2) (.string s2) (.slice A2 li2 ci2) (.slice K2 lk2 ck2))
  have R4 := Lib.hid ((Rd.kept R3.out bz).mono bz.size)
  have S4 := Lib.hid ((Rd.kept hu bz).mono bz.size)
  clear bz hu PB g1 X3 B3 R3
  obtain ⟨x0, x1, x2, x3, x4⟩ := X4.out.cells
  obtain ⟨y0, y1, y2, y3, y4⟩ := Y4.out.cells
  go_wp2_with fail
  refine (equal_any t _ _ _ _ R4.out S4.out (Nat.le_refl _)).mono ?_
  rintro e w5 ⟨rfl, b5⟩
  have X5 := Lib.hid (X4.out.kept b5)
  have B5 := Lib.hid (B4.out.trans (b5.mono B4.out.size))
  have R5 := Lib.hid ((Rd.kept R4.out b5).mono b5.size)
  clear b5 x0 x1 x2 x3 x4 y0 y1 y2 y3 y4 X4 Y4 B4 R4 S4
  obtain ⟨x0, x1, x2, x3, x4⟩ := X5.out.cells
  go_wp2_with fail
  refine (large_any t _ _ R5.out (by have := HB.out.2.2.2; omega)).mono ?_
  rintro e w6 ⟨rfl, b6⟩
  rw [HB.out.1]
  have X6 := Lib.hid (X5.out.kept b6)
  have B6 := Lib.hid (B5.out.trans (b6.mono B5.out.size))
  have R6 := Lib.hid ((Rd.kept R5.out b6).mono b6.size)
  clear b6 x0 x1 x2 x3 x4 X5 B5 R5
  obtain ⟨x0, x1, x2, x3, x4⟩ := X6.out.cells
  go_wp2_with fail
  refine (right_any t _ _ _ R6.out (Nat.le_refl _)).mono ?_
  rintro e w7 ⟨rfl, b7⟩
  rw [HB.out.2.1]
  have X7 := Lib.hid (X6.out.kept b7)
  have B7 := Lib.hid (B6.out.trans (b7.mono B6.out.size))
  have R7 := Lib.hid ((Rd.kept R6.out b7).mono b7.size)
  clear b7 x0 x1 x2 x3 x4 X6 B6 R6
  obtain ⟨x0, x1, x2, x3, x4⟩ := X7.out.cells
  obtain ⟨a, ha⟩ := right_txt HB.out.2.1
  have hsm := rd_sm t R7.out
  have hal := txt_le t a ha hsm
  have hback := parse_back (⟨a.toArray⟩ : ByteArray) (by simp) ha HB.out.2.1 hsm
  rw [HB.out.2.2.1] at hback
  have hsz : (⟨a.toArray⟩ : ByteArray).size ≤ 1073741824 := by rw [← T1.size_eq]; have := HB.out.2.2.2; simp; omega
  have PR : Hid (Calls Tryd.prog 9 #[.agg #[.int .i64 k, .int .i64 n, .string s0, .slice A li ci, .slice K lk ck]] w7 fun e w' => e = .returned (.tuple #[.string (⟨a.toArray⟩ : ByteArray), .int .i64 0]) ∧ Below w7.heap.size w7 w') := Lib.hid ((print_any t w7 _ R7.out (HL.out.below B7.out) (by have := HB.out.2.2.2; omega)).mono fun e w' h => by rw [ha] at h; exact ⟨h.1, h.2⟩)
  have PC := Lib.hid (fun w5 (hL : T1.Laid w5) => parse_ok hL hsz hback)
  generalize (⟨a.toArray⟩ : ByteArray) = sa at *
  clear hback hsz hal ha hsm
  go_wp2_with fail
  refine PR.out.mono ?_
  rintro e w8 ⟨rfl, b8⟩
  have X8 := Lib.hid (X7.out.kept b8)
  have B8 := Lib.hid (B7.out.trans (b8.mono B7.out.size))
  have R8 := Lib.hid ((Rd.kept R7.out b8).mono b8.size)
  clear b8 x0 x1 x2 x3 x4 X7 B7 R7 PR
  go_wp2_with fail
  refine (PC.out w8 (HL.out.below B8.out)).mono ?_
  rintro e w9 ⟨⟨u, rfl, hu5, hu⟩, b9⟩
  obtain ⟨k6, n6, s6, A6, li6, ci6, K6, lk6, ck6, rfl⟩ := hu5
  have X9 := Lib.hid (X8.out.kept b9)
  have B9 := Lib.hid (B8.out.trans (b9.mono B8.out.size))
  have R9 := Lib.hid ((Rd.kept R8.out b9).mono b9.size)
  clear b9 X8 B8 R8
  have bz : Below w9.heap.size w9 (w9.alloc (.cells #[.int .i64 k6, .int .i64 n6, .string s6, .slice A6 li6 ci6, .slice K6 lk6 ck6] 25 (0, 0))) := (Below.refl _ _).alloc (Nat.le_refl _) _
  have X10 := Lib.hid (X9.out.kept bz)
  have B10 := Lib.hid (B9.out.trans (bz.mono B9.out.size))
  have Y10 := Lib.hid (Box.new w9 (.int .i64 k6) (.int .i64 n6) (.string s6) (.slice A6 li6 ci6) (.slice K6 lk6 ck6))
  have R10 := Lib.hid ((Rd.kept R9.out bz).mono bz.size)
  have S10 := Lib.hid ((Rd.kept hu bz).mono bz.size)
  clear bz hu PC X9 B9 R9
  obtain ⟨x0, x1, x2, x3, x4⟩ := X10.out.cells
  obtain ⟨y0, y1, y2, y3, y4⟩ := Y10.out.cells
  go_wp2_with fail
  refine (equal_any t _ _ _ _ S10.out R10.out (Nat.le_refl _)).mono ?_
  rintro e w11 ⟨rfl, b11⟩
  have B11 := Lib.hid (B10.out.trans (b11.mono B10.out.size))
  clear b11 x0 x1 x2 x3 x4 y0 y1 y2 y3 y4
  go_wp2_with fail
  refine (jexample_any w11 (HL.out.below B11.out)).mono ?_
  rintro e w12 ⟨rfl, b12⟩
  have B12 := Lib.hid (B11.out.trans (b12.mono B11.out.size))
  clear b12
  go_wp2_with fail
  go_ret
  exact ⟨rfl, B12.out⟩
theorem settles_row (s : ByteArray) (w : World) (hL : T1.Laid w) :
    Calls Tryd.prog 4 #[.string s] w fun e w' => e = .returned (.bool true) ∧ Below w.heap.size w w' := by
  by_cases hs : s.size ≤ 3000
  · have hp := parse_pad (pad_of s)
    cases h1 : parseR s with
    | ok t =>
      rw [h1] at hp
      cases h2 : parseR ((⟨#[32, 9]⟩ : ByteArray) ++ s ++ (⟨#[13, 10]⟩ : ByteArray)) with
      | ok t2 =>
        rw [h2] at hp
        have e : t = t2 := hp
        subst e
        exact settles_ok hL hs h1 h2
      | error x => rw [h2] at hp; exact hp.elim
    | error x =>
      rw [h1] at hp
      cases h2 : parseR ((⟨#[32, 9]⟩ : ByteArray) ++ s ++ (⟨#[13, 10]⟩ : ByteArray)) with
      | ok t2 => rw [h2] at hp; exact hp.elim
      | error y =>
        rw [h2] at hp
        obtain ⟨i, c⟩ := x
        obtain ⟨i', c'⟩ := y
        obtain ⟨e1, e2, e3⟩ := hp
        have e1 : c = c' := e1
        subst e1
        exact settles_bad hL hs h1 h2 e2 e3
  · have HL := Lib.hid hL
    have g1 : (s.size : Int) > 3000 := by omega
    clear hL hs
    go_enter Tryd.func4, Tryd.ntmps4
    go_wp2_with fail
    refine (jexample_any w HL.out).mono ?_
    rintro e w4 ⟨rfl, b4⟩
    have B4 := Lib.hid b4
    clear b4
    go_wp2_with fail
    go_ret
    exact ⟨rfl, B4.out⟩
end Go.Proofs.YtcbajgcblfgmgaaDoor
