
/-
  The laws JsonReturns and JsonPrefixes.
-/
import Derived.Test.YtcbajgcblfgmgaaDoorEx03
import Derived.Test.YtcbajgcblfgmgaaDoorStrs
import Derived.Test.YtcbajgcblfgmgaaDoorJEqual
import Derived.Test.YtcbajgcblfgmgaaDoorFacts2
namespace Go.Proofs.YtcbajgcblfgmgaaDoor
open Go.RowKit
/- A right value has text. -/
mutual
theorem txt_some : ∀ (t : VT), wholeB false t = true → ∃ a, t.txt = some a
  | .mk k n s is ks, h => by
    simp only [wholeB, Bool.and_eq_true] at h
    obtain ⟨hn, hw⟩ := h
    have hL := txtL_some is hw
    have hO := txtO_some is hw
    unfold VT.txt
    unfold nodeB at hn
    dsimp only at hn
    by_cases k0 : k = 0
    · rw [if_pos k0]; exact ⟨_, rfl⟩
    rw [if_neg k0] at hn ⊢
    by_cases k1 : k = 1
    · rw [if_pos k1]; exact ⟨_, rfl⟩
    rw [if_neg k1] at hn ⊢
    by_cases k2 : k = 2
    · rw [if_pos k2]; exact ⟨_, rfl⟩
    rw [if_neg k2] at hn ⊢
    by_cases k34 : k = 3 ∨ k = 4
    · rw [if_pos k34]; exact ⟨_, rfl⟩
    rw [if_neg k34]
    rw [if_neg (by omega), if_neg (by omega)] at hn
    by_cases k5 : k = 5
    · rw [if_pos k5]
      obtain ⟨b, hb⟩ := hL true
      rw [hb]; exact ⟨_, rfl⟩
    rw [if_neg k5] at hn ⊢
    by_cases k6 : k = 6
    · rw [if_pos k6] at hn ⊢
      simp only [Bool.and_eq_true, decide_eq_true_iff] at hn
      rw [if_pos hn.1.2]
      obtain ⟨b, hb⟩ := hO ks true
      rw [hb]; exact ⟨_, rfl⟩
    rw [if_neg k6] at hn
    split at hn
    · simp at hn
    · cases hn
theorem txtL_some : ∀ (l : List VT), wholesB false l = true → ∀ f, ∃ b, VT.txtL l f = some b
  | [], _, f => ⟨[], by simp [VT.txtL]⟩
  | t :: u, h, f => by
    simp only [wholesB, Bool.and_eq_true] at h
    obtain ⟨a, ha⟩ := txt_some t h.1
    obtain ⟨b, hb⟩ := txtL_some u h.2 false
    simp only [VT.txtL, ha, hb]
    exact ⟨_, rfl⟩
theorem txtO_some : ∀ (l : List VT), wholesB false l = true → ∀ ks f, ∃ b, VT.txtO l ks f = some b
  | [], _, ks, f => ⟨[], by simp [VT.txtO]⟩
  | t :: u, h, ks, f => by
    simp only [wholesB, Bool.and_eq_true] at h
    obtain ⟨a, ha⟩ := txt_some t h.1
    obtain ⟨b, hb⟩ := txtO_some u h.2 (ks.drop 1) false
    simp only [VT.txtO, ha, hb]
    exact ⟨_, rfl⟩
end
theorem right_txt {t : VT} (h : rightB false t = true) : ∃ a, t.txt = some a := by
  unfold rightB at h
  simp only [Bool.and_eq_true] at h
  exact txt_some t h.2
/- How long a text is. -/
mutual
theorem txt_le : ∀ (t : VT) (a : List UInt8), t.txt = some a → t.sm → a.length + 1 ≤ 30 * t.bw
  | .mk k n s is ks, a, h, hs => by
    simp only [VT.sm] at hs
    have hL := txtL_le is
    have hO := txtO_le is
    unfold VT.txt at h
    simp only [VT.bw]
    split at h
    · cases h; show 5 ≤ _; omega
    split at h
    · cases h
      split
      · show 6 ≤ _; omega
      · show 5 ≤ _; omega
    split at h
    · cases h
      have := Lib.itoa_length_le n hs.1.1 hs.1.2
      omega
    split at h
    · cases h
      have := qL_len s
      omega
    split at h
    · simp only [Option.map_eq_some_iff] at h
      obtain ⟨b, hb, rfl⟩ := h
      have := hL true b hb hs.2
      simp only [List.length_cons, List.length_append, List.length_nil]
      omega
    split at h
    · split at h
      · next hlen =>
        simp only [Option.map_eq_some_iff] at h
        obtain ⟨b, hb, rfl⟩ := h
        have := hO ks true b hlen hb hs.2
        simp only [List.length_cons, List.length_append, List.length_nil]
        omega
      · cases h
    · cases h
theorem txtL_le : ∀ (l : List VT) (f : Bool) (b : List UInt8), VT.txtL l f = some b → VT.smL l → b.length ≤ 30 * VT.bws l
  | [], _, b, h, _ => by
    simp only [VT.txtL, Option.some.injEq] at h
    subst h; exact Nat.zero_le _
  | t :: r, f, b, h, hs => by
    simp only [VT.smL] at hs
    simp only [VT.txtL] at h
    cases ht : t.txt with
    | none => rw [ht] at h; cases h
    | some a =>
      rw [ht] at h
      simp only [Option.map_eq_some_iff] at h
      obtain ⟨b2, h2, rfl⟩ := h
      have h3 := txt_le t a ht hs.1
      have h4 := txtL_le r false b2 h2 hs.2
      simp only [VT.bws, List.length_append]
      have : (if f = true then ([] : List UInt8) else [44]).length ≤ 1 := by split <;> simp
      omega
theorem txtO_le : ∀ (l : List VT) (ks : List ByteArray) (f : Bool) (b : List UInt8), ks.length = l.length → VT.txtO l ks f = some b → VT.smL l → b.length ≤ 30 * (ks.map (fun k => 1 + k.size)).sum + 30 * VT.bws l
  | [], _, _, b, _, h, _ => by
    simp only [VT.txtO, Option.some.injEq] at h
    subst h; exact Nat.zero_le _
  | t :: r, [], _, b, hl, _, _ => by simp at hl
  | t :: r, k :: ks, f, b, hl, h, hs => by
    simp only [VT.smL] at hs
    simp only [VT.txtO, List.drop_succ_cons, List.drop_zero] at h
    cases ht : t.txt with
    | none => rw [ht] at h; cases h
    | some a =>
      rw [ht] at h
      simp only [Option.map_eq_some_iff] at h
      obtain ⟨b2, h2, rfl⟩ := h
      have h3 := txt_le t a ht hs.1
      have h4 := txtO_le r ks false b2 (by simpa using hl) h2 hs.2
      have h5 := qL_len k
      have e5 : (k :: ks).getD 0 ByteArray.empty = k := rfl
      rw [e5]
      simp only [VT.bws, List.length_append, List.map_cons, List.sum_cons, List.length_cons, List.length_nil]
      have : (if f = true then ([] : List UInt8) else [44]).length ≤ 1 := by split <;> simp
      omega
end
/- The facts of the last statement of JsonReturns. -/
def GR (U V : Value) (t : VT) : Nat → Value → World → Prop
  | 0, v, _ => v = .int .i64 0
  | 1, v, _ => v = .bool true
  | 2, v, _ => v = .bool true
  | 3, v, _ => v = .int .i64 0
  | 4, v, _ => v = .bool true
  | 5, v, _ => v = .bool true
  | 6, v, _ => v = .bool true
  | 7, v, _ => v = .int .i64 0
  | 8, v, _ => v = .bool true
  | 9, v, _ => v = .bool true
  | 10, v, _ => v = .bool true
  | 11, v, _ => v = U
  | 12, v, _ => v = V
  | 13, v, w => Rd w w.heap.size v t.strs
  | 14, v, _ => v = .bool true
  | 15, v, _ => v = .bool true
  | 16, v, _ => v = .bool true
  | 17, v, _ => v = .bool true
  | 18, v, _ => v = .bool true
  | 19, v, _ => v = .bool true
  | _, _, _ => False
theorem GR.pers (U V : Value) (t : VT) (i : Nat) (v : Value) (w w' : World) (h : GR U V t i v w) (hb : Below w.heap.size w w') : GR U V t i v w' := by
  match i, h with
  | 0, h => exact h
  | 1, h => exact h
  | 2, h => exact h
  | 3, h => exact h
  | 4, h => exact h
  | 5, h => exact h
  | 6, h => exact h
  | 7, h => exact h
  | 8, h => exact h
  | 9, h => exact h
  | 10, h => exact h
  | 11, h => exact h
  | 12, h => exact h
  | 13, h => exact (Rd.kept h hb).mono hb.size
  | 14, h => exact h
  | 15, h => exact h
  | 16, h => exact h
  | 17, h => exact h
  | 18, h => exact h
  | 19, h => exact h
theorem runs_eqlE {ops : Array Oper} {Q : Exit → Act → World → Prop} {o : Oper} {a : Act} {w : World} {R : Value → World → Prop} (hw : Region.wanted o (yielded ops a.tmps) = true) (x y : Operand) {n m : Int}
    (ho : o.op = .binOp .eql 28 x y 28) (hx : a.eval x = .int .i64 n) (hy : a.eval y = .int .i64 m) (h : R (.bool (n == m)) w) : Runs Tryd.prog ops Q o a w R :=
  runs_value hw (by generalize a.eval = ρ at hx hy; simp [execOp, ho, go_sem, hx, hy]) h
theorem en_strings : ∀ (args : Array Value) (w : World), (callFunc 12 args).run Tryd.prog w = .ok (.enter 12 args) w := enters_of Tryd.func12 (by kernel_rfl) rfl
theorem en_equal : ∀ (args : Array Value) (w : World), (callFunc 11 args).run Tryd.prog w = .ok (.enter 11 args) w := enters_of Tryd.func11 (by kernel_rfl) rfl
theorem en_ex03 : ∀ (args : Array Value) (w : World), (callFunc 8 args).run Tryd.prog w = .ok (.enter 8 args) w := enters_of Tryd.func8 (by kernel_rfl) rfl
set_option maxRecDepth 100000 in
set_option maxHeartbeats 4000000 in
theorem returns_row {w : World} (v : Value) (t : VT) (h : Rd w w.heap.size v t) (hL : T1.Laid w) (hl : t.bw ≤ 4294967296) :
    Calls Tryd.prog 3 #[v] w fun e w' => e = .returned (.bool true) ∧ Below w.heap.size w w' := by
  have HRD := Lib.hid h
  have HL := Lib.hid hL
  obtain ⟨k, n, s, A, li, ci, K, lk, ck, rfl⟩ := h.shape
  clear h hL
  have b0 : Below w.heap.size w (w.alloc (.cells #[.int .i64 k, .int .i64 n, .string s, .slice A li ci, .slice K lk ck] 25 (0, 0))) := (Below.refl _ _).alloc (Nat.le_refl _) _
  have X0 := Lib.hid (Box.new w (.int .i64 k) (.int .i64 n) (.string s) (.slice A li ci) (.slice K lk ck))
  have HC := Lib.hid (large_any t _ _ ((HRD.out.kept b0).mono b0.size) (by omega))
  have B0 := Lib.hid b0
  clear b0
  obtain ⟨x0, x1, x2, x3, x4⟩ := X0.out.cells
  go_enter Tryd.func3, Tryd.ntmps3
  go_wp2_with fail
  refine HC.out.mono ?_
  rintro e w1 ⟨rfl, b1⟩
  have B1 := Lib.hid (B0.out.trans (b1.mono B0.out.size))
  have X1 := Lib.hid (X0.out.kept b1)
  clear b1 X0 B0 HC x0 x1 x2 x3 x4
  obtain ⟨x0, x1, x2, x3, x4⟩ := X1.out.cells
  cases hbig : decide (3000 < t.bw)
  · have HR := Lib.hid (right_any t w1 _ _ ((HRD.out.kept B1.out).mono B1.out.size) (Nat.le_refl _))
    go_wp2_with fail
    refine HR.out.mono ?_
    rintro e w2 ⟨rfl, b2⟩
    have B2 := Lib.hid (B1.out.trans (b2.mono B1.out.size))
    have X2 := Lib.hid (X1.out.kept b2)
    clear b2 x0 x1 x2 x3 x4 HR
    obtain ⟨x0, x1, x2, x3, x4⟩ := X2.out.cells
    cases hri : rightB false t
    · go_wp2_with fail
      refine (jexample_any w2 (HL.out.below B2.out)).mono ?_
      rintro e w4 ⟨rfl, b4⟩
      have B4 := Lib.hid (B2.out.trans (b4.mono B2.out.size))
      clear b4
      go_wp2_with fail
      go_ret
      exact ⟨rfl, B4.out⟩
    · obtain ⟨a, ha⟩ := right_txt hri
      have hsm := rd_sm t HRD.out
      have hal := txt_le t a ha hsm
      have hbig' : ¬ 3000 < t.bw := of_decide_eq_false hbig
      have hback := parse_back (⟨a.toArray⟩ : ByteArray) (by simp) ha hri hsm
      have hsz : (⟨a.toArray⟩ : ByteArray).size ≤ 1073741824 := by rw [← T1.size_eq]; simp; omega
      have PR : Hid (Calls Tryd.prog 9 #[.agg #[.int .i64 k, .int .i64 n, .string s, .slice A li ci, .slice K lk ck]] w2 fun e w' => e = .returned (.tuple #[.string (⟨a.toArray⟩ : ByteArray), .int .i64 0]) ∧ Below w2.heap.size w2 w') := Lib.hid ((print_any t w2 _ ((HRD.out.kept B2.out).mono B2.out.size) (HL.out.below B2.out) (by omega)).mono fun e w' h => by rw [ha] at h; exact ⟨h.1, h.2⟩)
      have PA := Lib.hid (fun w5 hL => parse_any (⟨a.toArray⟩ : ByteArray) w5 hL hsz)
      rw [hback] at PA
      generalize (⟨a.toArray⟩ : ByteArray) = sa at *
      clear hback hsz hal ha hsm hri
      go_wp2_with fail
      refine PR.out.mono ?_
      rintro e w3 ⟨rfl, b3⟩
      have B3 := Lib.hid (B2.out.trans (b3.mono B2.out.size))
      have X3 := Lib.hid (X2.out.kept b3)
      clear b3 x0 x1 x2 x3 x4 PR
      go_wp2_with fail
      refine (PA.out w3 (HL.out.below B3.out)).mono ?_
      rintro e w4 ⟨(⟨t2, u, e2, rfl, hu⟩ | ⟨x, e2, _⟩), b4⟩
      rotate_left
      · cases e2
      injection e2 with e2
      subst e2
      obtain ⟨k6, n6, s6, A6, li6, ci6, K6, lk6, ck6, rfl⟩ := hu.fiveV
      have B4 := Lib.hid (B3.out.trans (b4.mono B3.out.size))
      have X4 := Lib.hid (X3.out.kept b4)
      have HU := Lib.hid (hu.toRd (B := w4.heap.size) (fun b hb => hb.2))
      clear b4 hu PA
      have bz : Below w4.heap.size w4 (w4.alloc (.cells #[.int .i64 k6, .int .i64 n6, .string s6, .slice A6 li6 ci6, .slice K6 lk6 ck6] 25 (0, 0))) := (Below.refl _ _).alloc (Nat.le_refl _) _
      have BZ := Lib.hid bz
      have X5 := Lib.hid (X4.out.kept bz)
      have Y5 := Lib.hid (Box.new w4 (.int .i64 k6) (.int .i64 n6) (.string s6) (.slice A6 li6 ci6) (.slice K6 lk6 ck6))
      have B5 := Lib.hid (B4.out.trans (bz.mono B4.out.size))
      clear bz
      obtain ⟨x0, x1, x2, x3, x4⟩ := X5.out.cells
      obtain ⟨y0, y1, y2, y3, y4⟩ := Y5.out.cells
      have HUZ := Lib.hid ((HU.out.kept BZ.out).mono BZ.out.size)
      have HUZ := Lib.hid ((HU.out.kept BZ.out).mono BZ.out.size)
      clear HU BZ
      go_wp2_with fail
      refine wp_region_facts (by kernel_rfl) (by kernel_rfl) 20 0 (by kernel_rfl) (fun _ => false) (by kernel_rfl) (GR (.agg #[.int .i64 k6, .int .i64 n6, .string s6, .slice A6 li6 ci6, .slice K6 lk6 ck6]) (.agg #[.int .i64 k, .int .i64 n, .string s, .slice A li ci, .slice K lk ck]) t) (fun _ _ => True) (fun _ _ => True) (fun _ _ _ _ => trivial) (GR.pers _ _ t) (fun _ _ _ h => by cases h) ?_ (fun _ _ _ _ h => by cases h) (fun _ h => by cases h) ?_
      · intro i o ho his _ a wn hf hbl had
        have hi : i < 20 := (Array.getElem?_eq_some_iff.1 ho).1
        have hc : i = 0 ∨ i = 1 ∨ i = 2 ∨ i = 3 ∨ i = 4 ∨ i = 5 ∨ i = 6 ∨ i = 7 ∨ i = 8 ∨ i = 9 ∨ i = 10 ∨ i = 11 ∨ i = 12 ∨ i = 13 ∨ i = 14 ∨ i = 15 ∨ i = 16 ∨ i = 17 ∨ i = 18 ∨ i = 19 := by omega
        rcases hc with rfl | rfl | rfl | rfl | rfl | rfl | rfl | rfl | rfl | rfl | rfl | rfl | rfl | rfl | rfl | rfl | rfl | rfl | rfl | rfl
        · cases ho
          have s1 : a.tmps.getD 4 undef = .int .i64 0 := hf.slot 4 (by kernel_rfl)
          exact runs_move rfl (.tmp 4) rfl s1 ⟨Below.refl _ _, rfl⟩
        · cases ho
          have h0 : vof _ a 0 = .int .i64 0 := had ⟨0, .data⟩ (by simp) rfl (by decide)
          exact runs_eqlE rfl _ _ rfl h0 rfl ⟨Below.refl _ _, rfl⟩
        · cases ho
          have h0 : vof _ a 1 = .bool true := had ⟨1, .data⟩ (by simp) rfl (by decide)
          exact runs_move rfl _ rfl h0 ⟨Below.refl _ _, rfl⟩
        · cases ho
          have hg : vof _ a 2 = .bool true := had ⟨2, .guard⟩ (by simp) rfl (by decide)
          have s1 : a.tmps.getD 7 undef = .int .i64 0 := hf.slot 7 (by kernel_rfl)
          exact runs_move (wanted_of rfl hg) (.tmp 7) rfl s1 ⟨Below.refl _ _, rfl⟩
        · cases ho
          have hg : vof _ a 2 = .bool true := had ⟨2, .guard⟩ (by simp) rfl (by decide)
          have h0 : vof _ a 3 = .int .i64 0 := had ⟨3, .data⟩ (by simp) rfl (by decide)
          exact runs_eqlE (wanted_of rfl hg) _ _ rfl h0 rfl ⟨Below.refl _ _, rfl⟩
        · cases ho
          have h0 : vof _ a 2 = .bool true := had ⟨2, .data⟩ (by simp) rfl (by decide)
          have h1 : vof _ a 4 = .bool true := had ⟨4, .data⟩ (by simp) rfl (by decide)
          exact runs_pick rfl _ _ _ rfl h0 h1 ⟨Below.refl _ _, rfl⟩
        · cases ho
          have h0 : vof _ a 5 = .bool true := had ⟨5, .data⟩ (by simp) rfl (by decide)
          exact runs_move rfl _ rfl h0 ⟨Below.refl _ _, rfl⟩
        · cases ho
          have hg : vof _ a 6 = .bool true := had ⟨6, .guard⟩ (by simp) rfl (by decide)
          have s1 : a.tmps.getD 6 undef = .int .i64 0 := hf.slot 6 (by kernel_rfl)
          exact runs_move (wanted_of rfl hg) (.tmp 6) rfl s1 ⟨Below.refl _ _, rfl⟩
        · cases ho
          have hg : vof _ a 6 = .bool true := had ⟨6, .guard⟩ (by simp) rfl (by decide)
          have h0 : vof _ a 7 = .int .i64 0 := had ⟨7, .data⟩ (by simp) rfl (by decide)
          exact runs_eql (wanted_of rfl hg) _ _ rfl h0 rfl ⟨Below.refl _ _, rfl⟩
        · cases ho
          have h0 : vof _ a 6 = .bool true := had ⟨6, .data⟩ (by simp) rfl (by decide)
          have h1 : vof _ a 8 = .bool true := had ⟨8, .data⟩ (by simp) rfl (by decide)
          exact runs_pick rfl _ _ _ rfl h0 h1 ⟨Below.refl _ _, rfl⟩
        · cases ho
          have h0 : vof _ a 9 = .bool true := had ⟨9, .data⟩ (by simp) rfl (by decide)
          exact runs_move rfl _ rfl h0 ⟨Below.refl _ _, rfl⟩
        · cases ho
          have hg : vof _ a 10 = .bool true := had ⟨10, .guard⟩ (by simp) rfl (by decide)
          have s1 := hf.slot 5 (by kernel_rfl)
          exact runs_load5 (wanted_of rfl hg) (.tmp 5) rfl s1 (Y5.out.kept hbl) ⟨Below.refl _ _, rfl⟩
        · cases ho
          have hg : vof _ a 10 = .bool true := had ⟨10, .guard⟩ (by simp) rfl (by decide)
          have s1 := hf.slot 1 (by kernel_rfl)
          exact runs_load5 (wanted_of rfl hg) (.tmp 1) rfl s1 (X5.out.kept hbl) ⟨Below.refl _ _, rfl⟩
        · cases ho
          have hg : vof _ a 10 = .bool true := had ⟨10, .guard⟩ (by simp) rfl (by decide)
          have h0 : vof _ a 12 = (.agg #[.int .i64 k, .int .i64 n, .string s, .slice A li ci, .slice K lk ck]) := had ⟨12, .data⟩ (by simp) rfl (by decide)
          have hw := B5.out.trans (hbl.mono B5.out.size)
          exact runs_call (wanted_of rfl hg) _ _ _ rfl en_strings #[(.agg #[.int .i64 k, .int .i64 n, .string s, .slice A li ci, .slice K lk ck])] (by rw [map1]; exact congrArg (fun x => #[x]) h0) ((strings_any t wn _ _ ((HRD.out.kept hw).mono hw.size) (Nat.le_refl _)).mono fun e w' ⟨⟨u, h1, h2⟩, h3⟩ => ⟨u, h1, h3, h2.toRd (fun b hb => hb.2)⟩)
        · cases ho
          have hg : vof _ a 10 = .bool true := had ⟨10, .guard⟩ (by simp) rfl (by decide)
          have h0 : vof _ a 11 = (.agg #[.int .i64 k6, .int .i64 n6, .string s6, .slice A6 li6 ci6, .slice K6 lk6 ck6]) := had ⟨11, .data⟩ (by simp) rfl (by decide)
          have h1 : Rd wn wn.heap.size (vof _ a 13) t.strs := had ⟨13, .data⟩ (by simp) rfl (by decide)
          exact runs_call (wanted_of rfl hg) _ _ _ rfl en_equal #[(.agg #[.int .i64 k6, .int .i64 n6, .string s6, .slice A6 li6 ci6, .slice K6 lk6 ck6]), vof _ a 13] (by rw [map2]; rw [show a.eval (.tmp 38) = _ from h0]; rfl) ((equal_any t.strs wn wn.heap.size _ _ ((HUZ.out.kept hbl).mono hbl.size) h1 (Nat.le_refl _)).mono fun e w' ⟨h1, h2⟩ => ⟨_, h1, h2, rfl⟩)
        · cases ho
          have h0 : vof _ a 10 = .bool true := had ⟨10, .data⟩ (by simp) rfl (by decide)
          have h1 : vof _ a 14 = .bool true := had ⟨14, .data⟩ (by simp) rfl (by decide)
          exact runs_pick rfl _ _ _ rfl h0 h1 ⟨Below.refl _ _, rfl⟩
        · cases ho
          have h0 : vof _ a 15 = .bool true := had ⟨15, .data⟩ (by simp) rfl (by decide)
          exact runs_move rfl _ rfl h0 ⟨Below.refl _ _, rfl⟩
        · cases ho
          have hg : vof _ a 16 = .bool true := had ⟨16, .guard⟩ (by simp) rfl (by decide)
          have hw := B5.out.trans (hbl.mono B5.out.size)
          exact runs_call (wanted_of rfl hg) _ _ _ rfl en_ex03 #[] (by simp) ((jexample_any wn (HL.out.below hw)).mono fun e w' ⟨h1, h2⟩ => ⟨_, h1, h2, rfl⟩)
        · cases ho
          have h0 : vof _ a 16 = .bool true := had ⟨16, .data⟩ (by simp) rfl (by decide)
          have h1 : vof _ a 17 = .bool true := had ⟨17, .data⟩ (by simp) rfl (by decide)
          exact runs_pick rfl _ _ _ rfl h0 h1 ⟨Below.refl _ _, rfl⟩
        · cases ho
          have h0 : vof _ a 18 = .bool true := had ⟨18, .data⟩ (by simp) rfl (by decide)
          exact runs_assign rfl _ rfl h0 ⟨Below.refl _ _, rfl⟩
      · intro a wn hf _ _ hend
        obtain ⟨hb, hall⟩ := hend (by decide)
        have h28 : a.tmps.getD 2 undef = .bool true := hall 19 (by decide)
        have hd : a.defers = [] := hf.1
        rw [Array.getD_eq_getD_getElem?] at h28
        have hfin : Below w.heap.size w wn := B5.out.trans (hb.mono B5.out.size)
        clear hend hall hf
        go_wp2_with fail
        exact bodyPost_ret (v := .bool true) (by simp [results, Tryd.results3, go_sem, h28]) hd ⟨rfl, hfin⟩
  · go_wp2_with fail
    refine (jexample_any w1 (HL.out.below B1.out)).mono ?_
    rintro e w4 ⟨rfl, b4⟩
    have B4 := Lib.hid (B1.out.trans (b4.mono B1.out.size))
    clear b4
    go_wp2_with fail
    go_ret
    exact ⟨rfl, B4.out⟩
end Go.Proofs.YtcbajgcblfgmgaaDoor
