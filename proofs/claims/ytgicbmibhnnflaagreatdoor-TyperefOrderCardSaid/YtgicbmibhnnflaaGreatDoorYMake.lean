
/-
  References that are made out of others: unwrap, wrap, cut.
-/
import Derived.Test.YtgicbmibhnnflaaGreatDoorYMem
namespace Go.Proofs.YtgicbmibhnnflaaGreatDoor
open Go.RowKit
theorem ref_end {w W1 : World} {g : Nat} {n s0 : ByteArray} {xs : Ws} {A A0 : Option Addr} {c l0 c0 : Nat} (hy : BxR W1 g (.string s0) (.slice A0 l0 c0)) (hg : w.heap.size ≤ g) (hb : Below w.heap.size w W1) (hc : xs.length ≤ c) (hi : IntsAt W1 W1.heap.size A xs) :
    RefPost n xs w (.returned (.agg #[.string n, .slice A xs.length c])) ((W1.setCell ⟨g, 0, none⟩ (.string n)).setCell ⟨g, 1, none⟩ (.slice A xs.length c)) ∧
      ((W1.setCell ⟨g, 0, none⟩ (.string n)).setCell ⟨g, 1, none⟩ (.slice A xs.length c)).cell? ⟨g, 0, none⟩ = some (.string n) ∧ ((W1.setCell ⟨g, 0, none⟩ (.string n)).setCell ⟨g, 1, none⟩ (.slice A xs.length c)).cell? ⟨g, 1, none⟩ = some (.slice A xs.length c) := by
  have h1 := (hi.off hy 0 (.string n)).off (hy.s0 (.string n)) 1 (.slice A xs.length c)
  have h2 := (hy.two (.string n) (.slice A xs.length c)).cells
  exact ⟨⟨⟨_, rfl, A, c, rfl, hc, by simpa using h1⟩, Below.pair hb hg _ _⟩, h2⟩
theorem zero_end {w W1 : World} {g : Nat} {b0 b1 : Value} (hy : BxR W1 g b0 b1) (hg : w.heap.size ≤ g) (hb : Below w.heap.size w W1) :
    Below w.heap.size w ((W1.setCell ⟨g, 0, none⟩ (.string ⟨#[]⟩)).setCell ⟨g, 1, none⟩ (.slice none 0 0)) ∧
      ((W1.setCell ⟨g, 0, none⟩ (.string ⟨#[]⟩)).setCell ⟨g, 1, none⟩ (.slice none 0 0)).cell? ⟨g, 0, none⟩ = some (.string ⟨#[]⟩) ∧ ((W1.setCell ⟨g, 0, none⟩ (.string ⟨#[]⟩)).setCell ⟨g, 1, none⟩ (.slice none 0 0)).cell? ⟨g, 1, none⟩ = some (.slice none 0 0) :=
  ⟨Below.pair hb hg _ _, (hy.two _ _).cells⟩
set_option maxRecDepth 100000 in
set_option maxHeartbeats 2000000 in
theorem unwrap_any (k : Nat) (n : ByteArray) (xs : Ws) (v : Value) (w : World) (h : RefV w w.heap.size v n xs) (hk : k ≤ xs.length) (hl : xs.length ≤ 1000000) : Calls Tryz.prog 38 #[.int .i64 k, v] w (RefPost n (xs.drop k) w) := by
  obtain ⟨A, c, rfl, hc, hi⟩ := h
  obtain ⟨x1, x2, x3, x4⟩ := BxR.args w (.string n) (.slice A xs.length c)
  have R0 : Hid (RefB ((w.alloc (.cells #[.string n, .slice A xs.length c] 24 (0, 0))).alloc (.cells #[.string ⟨#[]⟩, .slice none 0 0] 24 (0, 0))) w.heap.size n xs) := Lib.hid ⟨A, c, x1, hc, hi.stay x3⟩
  have Y0 := Lib.hid x2
  have B0 := Lib.hid x3
  have Z0 := Lib.hid x4
  have HK := Lib.hid hk
  have HL : Hid (([] : Ws).length + (xs.drop k).length ≤ 2000000) := Lib.hid (by rw [List.length_drop]; show 0 + _ ≤ _; omega)
  clear hk
  clear hc hi x1 x2 x3 x4 hl
  go_enter Tryz.func38, Tryz.ntmps38
  go_wp2_with fail
  generalize ((w.alloc (.cells #[.string n, .slice A xs.length c] 24 (0, 0))).alloc (.cells #[.string ⟨#[]⟩, .slice none 0 0] 24 (0, 0))) = W0 at *
  refine wp_region_late (by kernel_rfl) (by kernel_rfl) 8 7 (by kernel_rfl) (fun _ => false) (by kernel_rfl) (by decide) [Fact.is (.pointer (some ⟨w.heap.size, 0, none⟩)), Fact.is (.string n), Fact.is (.pointer (some ⟨w.heap.size, 1, none⟩)), Fact.sl xs, Fact.is (.int .i64 ((k : Nat) : Int)), Fact.sl (xs.drop k), Fact.sl (xs.drop k), Fact.ref n (xs.drop k), Fact.any] (fun _ w' => RefB w' (w.heap.size + 1) n (xs.drop k) ∧ Below w.heap.size w w') (fun _ _ _ _ h => by cases h) ?_ (fun _ _ _ _ h => by cases h) ?_ ?_
  · intro i o ho his _ a wn hf hbl had
    have hi : i < 9 := (Array.getElem?_eq_some_iff.1 ho).1
    have hc : i = 0 ∨ i = 1 ∨ i = 2 ∨ i = 3 ∨ i = 4 ∨ i = 5 ∨ i = 6 ∨ i = 7 := by omega
    rcases hc with rfl | rfl | rfl | rfl | rfl | rfl | rfl | rfl
    · cases ho
      have h0 : a.tmps.getD 3 undef = .pointer (some ⟨w.heap.size, 0, none⟩) := hf.slot 3 (by kernel_rfl)
      exact rc_fa0 rfl (.tmp 3) rfl h0 ⟨Below.refl _ _, rfl⟩
    · cases ho
      have h0 : vof _ a 0 = .pointer (some ⟨w.heap.size, 0, none⟩) := had ⟨0, .data⟩ (by simp) rfl (by decide)
      exact rk_ldS rfl (.tmp 5) rfl h0 (R0.out.stay hbl) ⟨Below.refl _ _, rfl⟩
    · cases ho
      have h0 : a.tmps.getD 3 undef = .pointer (some ⟨w.heap.size, 0, none⟩) := hf.slot 3 (by kernel_rfl)
      exact rc_fa1 rfl (.tmp 3) rfl h0 ⟨Below.refl _ _, rfl⟩
    · cases ho
      have h0 : vof _ a 2 = .pointer (some ⟨w.heap.size, 1, none⟩) := had ⟨2, .data⟩ (by simp) rfl (by decide)
      exact rk_ldI rfl (.tmp 7) rfl h0 (R0.out.stay hbl) fun u hu => ⟨Below.refl _ _, hu⟩
    · cases ho
      have h0 : a.tmps.getD 0 undef = .int .i64 ((k : Nat) : Int) := hf.slot 0 (by kernel_rfl)
      exact rc_move rfl (.tmp 0) rfl h0 ⟨Below.refl _ _, rfl⟩
    · cases ho
      have h0 : SlV wn wn.heap.size (vof _ a 3) xs := had ⟨3, .data⟩ (by simp) rfl (by decide)
      have h1 : vof _ a 4 = .int .i64 ((k : Nat) : Int) := had ⟨4, .data⟩ (by simp) rfl (by decide)
      exact rk_slice rfl (.tmp 8) (.tmp 9) (k := k) rfl h0 h1 HK.out fun u hu => ⟨Below.refl _ _, hu⟩
    · cases ho
      have h0 : SlV wn wn.heap.size (vof _ a 5) (xs.drop k) := had ⟨5, .data⟩ (by simp) rfl (by decide)
      exact rk_append rfl (.const (.slice none 0 0)) (.tmp 10) rfl ⟨⟨OwnI.nil wn wn.heap.size, Nat.le_refl _⟩, .inl rfl⟩ h0 HL.out fun v w1 hb1 hv => ⟨hb1, hv⟩
    · cases ho
      have h0 : vof _ a 1 = .string n := had ⟨1, .data⟩ (by simp) rfl (by decide)
      have h1 : SlV wn wn.heap.size (vof _ a 6) (xs.drop k) := had ⟨6, .data⟩ (by simp) rfl (by decide)
      exact rk_build rfl (.tmp 6) (.tmp 11) rfl h0 h1 fun u hu => ⟨Below.refl _ _, hu⟩
  · intro o ho a wn hf hbl had
    cases ho
    have s2 : a.eval (.tmp 4) = .pointer (some ⟨w.heap.size + 1, 0, none⟩) := hf.slot 4 (by kernel_rfl)
    have hv : RefV wn wn.heap.size (vof _ a 7) n (xs.drop k) := had ⟨7, .data⟩ (by simp) rfl (by decide)
    exact rk_store rfl (.tmp 4) _ rfl s2 (Y0.out.stay hbl) hv fun w' h1 h2 => ⟨h1, (B0.out.trans (hbl.mono B0.out.size)).trans (h2 _ (by omega))⟩
  · intro a wn hf _ hfin
    obtain ⟨c0, c1, hbx, hrv⟩ := hfin.1.v
    have s2 : a.tmps.getD 4 undef = .pointer (some ⟨w.heap.size + 1, 0, none⟩) := hf.slot 4 (by kernel_rfl)
    have hd : a.defers = [] := hf.1
    obtain ⟨p0, p1⟩ := hbx.cells
    have HR := Lib.hid hrv
    have HB := Lib.hid hfin.2
    rw [Array.getD_eq_getD_getElem?] at s2
    clear hfin hf hbx hrv
    go_wp2_with fail
    exact bodyPost_ret (v := .agg #[c0, c1]) (by simp [results, Tryz.results38, go_sem, s2, p0, p1]) hd ⟨⟨_, rfl, HR.out⟩, HB.out⟩
set_option maxRecDepth 100000 in
set_option maxHeartbeats 2000000 in
theorem cut_any (n : ByteArray) (xs : Ws) (v : Value) (w : World) (h : RefV w w.heap.size v n xs) (hk : 1 ≤ xs.length) (hl : xs.length ≤ 1000000) : Calls Tryz.prog 39 #[v] w (RefPost n (xs.drop 1) w) := by
  obtain ⟨A, c, rfl, hc, hi⟩ := h
  obtain ⟨x1, x2, x3, x4⟩ := BxR.args w (.string n) (.slice A xs.length c)
  have R0 : Hid (RefB ((w.alloc (.cells #[.string n, .slice A xs.length c] 24 (0, 0))).alloc (.cells #[.string ⟨#[]⟩, .slice none 0 0] 24 (0, 0))) w.heap.size n xs) := Lib.hid ⟨A, c, x1, hc, hi.stay x3⟩
  have Y0 := Lib.hid x2
  have B0 := Lib.hid x3
  have Z0 := Lib.hid x4
  have HK := Lib.hid hk
  have HL : Hid (([] : Ws).length + (xs.drop 1).length ≤ 2000000) := Lib.hid (by rw [List.length_drop]; show 0 + _ ≤ _; omega)
  clear hk
  clear hc hi x1 x2 x3 x4 hl
  go_enter Tryz.func39, Tryz.ntmps39
  go_wp2_with fail
  generalize ((w.alloc (.cells #[.string n, .slice A xs.length c] 24 (0, 0))).alloc (.cells #[.string ⟨#[]⟩, .slice none 0 0] 24 (0, 0))) = W0 at *
  refine wp_region_late (by kernel_rfl) (by kernel_rfl) 8 7 (by kernel_rfl) (fun _ => false) (by kernel_rfl) (by decide) [Fact.is (.pointer (some ⟨w.heap.size, 0, none⟩)), Fact.is (.string n), Fact.row w.heap.size [], Fact.is (.pointer (some ⟨w.heap.size, 1, none⟩)), Fact.sl xs, Fact.sl (xs.drop 1), Fact.sl (xs.drop 1), Fact.ref n (xs.drop 1), Fact.any] (fun _ w' => RefB w' (w.heap.size + 1) n (xs.drop 1) ∧ Below w.heap.size w w') (fun _ _ _ _ h => by cases h) ?_ (fun _ _ _ _ h => by cases h) ?_ ?_
  · intro i o ho his _ a wn hf hbl had
    have hi : i < 9 := (Array.getElem?_eq_some_iff.1 ho).1
    have hc : i = 0 ∨ i = 1 ∨ i = 2 ∨ i = 3 ∨ i = 4 ∨ i = 5 ∨ i = 6 ∨ i = 7 := by omega
    rcases hc with rfl | rfl | rfl | rfl | rfl | rfl | rfl | rfl
    · cases ho
      have h0 : a.tmps.getD 1 undef = .pointer (some ⟨w.heap.size, 0, none⟩) := hf.slot 1 (by kernel_rfl)
      exact rc_fa0 rfl (.tmp 1) rfl h0 ⟨Below.refl _ _, rfl⟩
    · cases ho
      have h0 : vof _ a 0 = .pointer (some ⟨w.heap.size, 0, none⟩) := had ⟨0, .data⟩ (by simp) rfl (by decide)
      exact rk_ldS rfl (.tmp 3) rfl h0 (R0.out.stay hbl) ⟨Below.refl _ _, rfl⟩
    · cases ho
      exact rk_made0 rfl rfl (by have h1 := hbl.size; have h2 := Z0.out; omega) fun v w1 hb1 hv => ⟨hb1, hv⟩
    · cases ho
      have h0 : a.tmps.getD 1 undef = .pointer (some ⟨w.heap.size, 0, none⟩) := hf.slot 1 (by kernel_rfl)
      exact rc_fa1 rfl (.tmp 1) rfl h0 ⟨Below.refl _ _, rfl⟩
    · cases ho
      have h0 : vof _ a 3 = .pointer (some ⟨w.heap.size, 1, none⟩) := had ⟨3, .data⟩ (by simp) rfl (by decide)
      exact rk_ldI rfl (.tmp 6) rfl h0 (R0.out.stay hbl) fun u hu => ⟨Below.refl _ _, hu⟩
    · cases ho
      have h0 : SlV wn wn.heap.size (vof _ a 4) xs := had ⟨4, .data⟩ (by simp) rfl (by decide)
      exact rk_slice rfl (.tmp 7) _ (k := 1) rfl h0 rfl HK.out fun u hu => ⟨Below.refl _ _, hu⟩
    · cases ho
      have h0 : (OwnI wn w.heap.size (vof _ a 2) [] ∧ w.heap.size ≤ wn.heap.size) ∧ Full (vof _ a 2) := had ⟨2, .data⟩ (by simp) rfl (by decide)
      have h1 : SlV wn wn.heap.size (vof _ a 5) (xs.drop 1) := had ⟨5, .data⟩ (by simp) rfl (by decide)
      exact rk_append rfl (.tmp 5) (.tmp 8) rfl h0 h1 HL.out fun v w1 hb1 hv => ⟨hb1, hv⟩
    · cases ho
      have h0 : vof _ a 1 = .string n := had ⟨1, .data⟩ (by simp) rfl (by decide)
      have h1 : SlV wn wn.heap.size (vof _ a 6) (xs.drop 1) := had ⟨6, .data⟩ (by simp) rfl (by decide)
      exact rk_build rfl (.tmp 4) (.tmp 9) rfl h0 h1 fun u hu => ⟨Below.refl _ _, hu⟩
  · intro o ho a wn hf hbl had
    cases ho
    have s2 : a.eval (.tmp 2) = .pointer (some ⟨w.heap.size + 1, 0, none⟩) := hf.slot 2 (by kernel_rfl)
    have hv : RefV wn wn.heap.size (vof _ a 7) n (xs.drop 1) := had ⟨7, .data⟩ (by simp) rfl (by decide)
    exact rk_store rfl (.tmp 2) _ rfl s2 (Y0.out.stay hbl) hv fun w' h1 h2 => ⟨h1, (B0.out.trans (hbl.mono B0.out.size)).trans (h2 _ (by omega))⟩
  · intro a wn hf _ hfin
    obtain ⟨c0, c1, hbx, hrv⟩ := hfin.1.v
    have s2 : a.tmps.getD 2 undef = .pointer (some ⟨w.heap.size + 1, 0, none⟩) := hf.slot 2 (by kernel_rfl)
    have hd : a.defers = [] := hf.1
    obtain ⟨p0, p1⟩ := hbx.cells
    have HR := Lib.hid hrv
    have HB := Lib.hid hfin.2
    rw [Array.getD_eq_getD_getElem?] at s2
    clear hfin hf hbx hrv
    go_wp2_with fail
    exact bodyPost_ret (v := .agg #[c0, c1]) (by simp [results, Tryz.results39, go_sem, s2, p0, p1]) hd ⟨⟨_, rfl, HR.out⟩, HB.out⟩
set_option maxRecDepth 100000 in
set_option maxHeartbeats 2000000 in
theorem wrap_any (x : Int) (n : ByteArray) (xs : Ws) (v : Value) (w : World) (h : RefV w w.heap.size v n xs) (hl : xs.length ≤ 1000000) : Calls Tryz.prog 41 #[.int .i64 x, v] w (RefPost n ([x] ++ xs) w) := by
  obtain ⟨A, c, rfl, hc, hi⟩ := h
  obtain ⟨x1, x2, x3, x4⟩ := BxR.args w (.string n) (.slice A xs.length c)
  have R0 : Hid (RefB ((w.alloc (.cells #[.string n, .slice A xs.length c] 24 (0, 0))).alloc (.cells #[.string ⟨#[]⟩, .slice none 0 0] 24 (0, 0))) w.heap.size n xs) := Lib.hid ⟨A, c, x1, hc, hi.stay x3⟩
  have Y0 := Lib.hid x2
  have B0 := Lib.hid x3
  have Z0 := Lib.hid x4
  have HL : Hid (([x] : Ws).length + xs.length ≤ 2000000) := Lib.hid (by show 1 + _ ≤ _; omega)
  clear hc hi x1 x2 x3 x4 hl
  go_enter Tryz.func41, Tryz.ntmps41
  go_wp2_with fail
  generalize ((w.alloc (.cells #[.string n, .slice A xs.length c] 24 (0, 0))).alloc (.cells #[.string ⟨#[]⟩, .slice none 0 0] 24 (0, 0))) = W0 at *
  refine wp_region_late (by kernel_rfl) (by kernel_rfl) 8 7 (by kernel_rfl) (fun _ => false) (by kernel_rfl) (by decide) [Fact.is (.pointer (some ⟨w.heap.size, 0, none⟩)), Fact.is (.string n), Fact.is (.int .i64 x), Fact.row w.heap.size [x], Fact.is (.pointer (some ⟨w.heap.size, 1, none⟩)), Fact.sl xs, Fact.sl ([x] ++ xs), Fact.ref n ([x] ++ xs), Fact.any] (fun _ w' => RefB w' (w.heap.size + 1) n ([x] ++ xs) ∧ Below w.heap.size w w') (fun _ _ _ _ h => by cases h) ?_ (fun _ _ _ _ h => by cases h) ?_ ?_
  · intro i o ho his _ a wn hf hbl had
    have hi : i < 9 := (Array.getElem?_eq_some_iff.1 ho).1
    have hc : i = 0 ∨ i = 1 ∨ i = 2 ∨ i = 3 ∨ i = 4 ∨ i = 5 ∨ i = 6 ∨ i = 7 := by omega
    rcases hc with rfl | rfl | rfl | rfl | rfl | rfl | rfl | rfl
    · cases ho
      have h0 : a.tmps.getD 3 undef = .pointer (some ⟨w.heap.size, 0, none⟩) := hf.slot 3 (by kernel_rfl)
      exact rc_fa0 rfl (.tmp 3) rfl h0 ⟨Below.refl _ _, rfl⟩
    · cases ho
      have h0 : vof _ a 0 = .pointer (some ⟨w.heap.size, 0, none⟩) := had ⟨0, .data⟩ (by simp) rfl (by decide)
      exact rk_ldS rfl (.tmp 5) rfl h0 (R0.out.stay hbl) ⟨Below.refl _ _, rfl⟩
    · cases ho
      have h0 : a.tmps.getD 0 undef = .int .i64 x := hf.slot 0 (by kernel_rfl)
      exact rc_move rfl (.tmp 0) rfl h0 ⟨Below.refl _ _, rfl⟩
    · cases ho
      have h0 : vof _ a 2 = .int .i64 x := had ⟨2, .data⟩ (by simp) rfl (by decide)
      exact rk_made1 rfl (.tmp 7) rfl h0 (by have h1 := hbl.size; have h2 := Z0.out; omega) fun v w1 hb1 hv => ⟨hb1, hv⟩
    · cases ho
      have h0 : a.tmps.getD 3 undef = .pointer (some ⟨w.heap.size, 0, none⟩) := hf.slot 3 (by kernel_rfl)
      exact rc_fa1 rfl (.tmp 3) rfl h0 ⟨Below.refl _ _, rfl⟩
    · cases ho
      have h0 : vof _ a 4 = .pointer (some ⟨w.heap.size, 1, none⟩) := had ⟨4, .data⟩ (by simp) rfl (by decide)
      exact rk_ldI rfl (.tmp 9) rfl h0 (R0.out.stay hbl) fun u hu => ⟨Below.refl _ _, hu⟩
    · cases ho
      have h0 : (OwnI wn w.heap.size (vof _ a 3) [x] ∧ w.heap.size ≤ wn.heap.size) ∧ Full (vof _ a 3) := had ⟨3, .data⟩ (by simp) rfl (by decide)
      have h1 : SlV wn wn.heap.size (vof _ a 5) xs := had ⟨5, .data⟩ (by simp) rfl (by decide)
      exact rk_append rfl (.tmp 8) (.tmp 10) rfl h0 h1 HL.out fun v w1 hb1 hv => ⟨hb1, hv⟩
    · cases ho
      have h0 : vof _ a 1 = .string n := had ⟨1, .data⟩ (by simp) rfl (by decide)
      have h1 : SlV wn wn.heap.size (vof _ a 6) ([x] ++ xs) := had ⟨6, .data⟩ (by simp) rfl (by decide)
      exact rk_build rfl (.tmp 6) (.tmp 11) rfl h0 h1 fun u hu => ⟨Below.refl _ _, hu⟩
  · intro o ho a wn hf hbl had
    cases ho
    have s2 : a.eval (.tmp 4) = .pointer (some ⟨w.heap.size + 1, 0, none⟩) := hf.slot 4 (by kernel_rfl)
    have hv : RefV wn wn.heap.size (vof _ a 7) n ([x] ++ xs) := had ⟨7, .data⟩ (by simp) rfl (by decide)
    exact rk_store rfl (.tmp 4) _ rfl s2 (Y0.out.stay hbl) hv fun w' h1 h2 => ⟨h1, (B0.out.trans (hbl.mono B0.out.size)).trans (h2 _ (by omega))⟩
  · intro a wn hf _ hfin
    obtain ⟨c0, c1, hbx, hrv⟩ := hfin.1.v
    have s2 : a.tmps.getD 4 undef = .pointer (some ⟨w.heap.size + 1, 0, none⟩) := hf.slot 4 (by kernel_rfl)
    have hd : a.defers = [] := hf.1
    obtain ⟨p0, p1⟩ := hbx.cells
    have HR := Lib.hid hrv
    have HB := Lib.hid hfin.2
    rw [Array.getD_eq_getD_getElem?] at s2
    clear hfin hf hbx hrv
    go_wp2_with fail
    exact bodyPost_ret (v := .agg #[c0, c1]) (by simp [results, Tryz.results41, go_sem, s2, p0, p1]) hd ⟨⟨_, rfl, HR.out⟩, HB.out⟩
set_option maxRecDepth 100000 in
set_option maxHeartbeats 2000000 in
theorem rwrap_any (x : Int) (n : ByteArray) (xs : Ws) (v : Value) (w : World) (h : RefV w w.heap.size v n xs) (hl : xs.length ≤ 1000000) : Calls Tryz.prog 42 #[.int .i64 x, v] w (RefPost n ([x] ++ xs) w) := by
  obtain ⟨A, c, rfl, hc, hi⟩ := h
  obtain ⟨x1, x2, x3, x4⟩ := BxR.args w (.string n) (.slice A xs.length c)
  have R0 : Hid (RefB ((w.alloc (.cells #[.string n, .slice A xs.length c] 24 (0, 0))).alloc (.cells #[.string ⟨#[]⟩, .slice none 0 0] 24 (0, 0))) w.heap.size n xs) := Lib.hid ⟨A, c, x1, hc, hi.stay x3⟩
  have Y0 := Lib.hid x2
  have B0 := Lib.hid x3
  have Z0 := Lib.hid x4
  have HL : Hid (([x] : Ws).length + xs.length ≤ 2000000) := Lib.hid (by show 1 + _ ≤ _; omega)
  clear hc hi x1 x2 x3 x4 hl
  go_enter Tryz.func42, Tryz.ntmps42
  go_wp2_with fail
  generalize ((w.alloc (.cells #[.string n, .slice A xs.length c] 24 (0, 0))).alloc (.cells #[.string ⟨#[]⟩, .slice none 0 0] 24 (0, 0))) = W0 at *
  refine wp_region_late (by kernel_rfl) (by kernel_rfl) 8 7 (by kernel_rfl) (fun _ => false) (by kernel_rfl) (by decide) [Fact.is (.pointer (some ⟨w.heap.size, 0, none⟩)), Fact.is (.string n), Fact.is (.int .i64 x), Fact.row w.heap.size [x], Fact.is (.pointer (some ⟨w.heap.size, 1, none⟩)), Fact.sl xs, Fact.sl ([x] ++ xs), Fact.ref n ([x] ++ xs), Fact.any] (fun _ w' => RefB w' (w.heap.size + 1) n ([x] ++ xs) ∧ Below w.heap.size w w') (fun _ _ _ _ h => by cases h) ?_ (fun _ _ _ _ h => by cases h) ?_ ?_
  · intro i o ho his _ a wn hf hbl had
    have hi : i < 9 := (Array.getElem?_eq_some_iff.1 ho).1
    have hc : i = 0 ∨ i = 1 ∨ i = 2 ∨ i = 3 ∨ i = 4 ∨ i = 5 ∨ i = 6 ∨ i = 7 := by omega
    rcases hc with rfl | rfl | rfl | rfl | rfl | rfl | rfl | rfl
    · cases ho
      have h0 : a.tmps.getD 3 undef = .pointer (some ⟨w.heap.size, 0, none⟩) := hf.slot 3 (by kernel_rfl)
      exact rc_fa0 rfl (.tmp 3) rfl h0 ⟨Below.refl _ _, rfl⟩
    · cases ho
      have h0 : vof _ a 0 = .pointer (some ⟨w.heap.size, 0, none⟩) := had ⟨0, .data⟩ (by simp) rfl (by decide)
      exact rk_ldS rfl (.tmp 5) rfl h0 (R0.out.stay hbl) ⟨Below.refl _ _, rfl⟩
    · cases ho
      have h0 : a.tmps.getD 0 undef = .int .i64 x := hf.slot 0 (by kernel_rfl)
      exact rc_move rfl (.tmp 0) rfl h0 ⟨Below.refl _ _, rfl⟩
    · cases ho
      have h0 : vof _ a 2 = .int .i64 x := had ⟨2, .data⟩ (by simp) rfl (by decide)
      exact rk_made1 rfl (.tmp 7) rfl h0 (by have h1 := hbl.size; have h2 := Z0.out; omega) fun v w1 hb1 hv => ⟨hb1, hv⟩
    · cases ho
      have h0 : a.tmps.getD 3 undef = .pointer (some ⟨w.heap.size, 0, none⟩) := hf.slot 3 (by kernel_rfl)
      exact rc_fa1 rfl (.tmp 3) rfl h0 ⟨Below.refl _ _, rfl⟩
    · cases ho
      have h0 : vof _ a 4 = .pointer (some ⟨w.heap.size, 1, none⟩) := had ⟨4, .data⟩ (by simp) rfl (by decide)
      exact rk_ldI rfl (.tmp 9) rfl h0 (R0.out.stay hbl) fun u hu => ⟨Below.refl _ _, hu⟩
    · cases ho
      have h0 : (OwnI wn w.heap.size (vof _ a 3) [x] ∧ w.heap.size ≤ wn.heap.size) ∧ Full (vof _ a 3) := had ⟨3, .data⟩ (by simp) rfl (by decide)
      have h1 : SlV wn wn.heap.size (vof _ a 5) xs := had ⟨5, .data⟩ (by simp) rfl (by decide)
      exact rk_append rfl (.tmp 8) (.tmp 10) rfl h0 h1 HL.out fun v w1 hb1 hv => ⟨hb1, hv⟩
    · cases ho
      have h0 : vof _ a 1 = .string n := had ⟨1, .data⟩ (by simp) rfl (by decide)
      have h1 : SlV wn wn.heap.size (vof _ a 6) ([x] ++ xs) := had ⟨6, .data⟩ (by simp) rfl (by decide)
      exact rk_build rfl (.tmp 6) (.tmp 11) rfl h0 h1 fun u hu => ⟨Below.refl _ _, hu⟩
  · intro o ho a wn hf hbl had
    cases ho
    have s2 : a.eval (.tmp 4) = .pointer (some ⟨w.heap.size + 1, 0, none⟩) := hf.slot 4 (by kernel_rfl)
    have hv : RefV wn wn.heap.size (vof _ a 7) n ([x] ++ xs) := had ⟨7, .data⟩ (by simp) rfl (by decide)
    exact rk_store rfl (.tmp 4) _ rfl s2 (Y0.out.stay hbl) hv fun w' h1 h2 => ⟨h1, (B0.out.trans (hbl.mono B0.out.size)).trans (h2 _ (by omega))⟩
  · intro a wn hf _ hfin
    obtain ⟨c0, c1, hbx, hrv⟩ := hfin.1.v
    have s2 : a.tmps.getD 4 undef = .pointer (some ⟨w.heap.size + 1, 0, none⟩) := hf.slot 4 (by kernel_rfl)
    have hd : a.defers = [] := hf.1
    obtain ⟨p0, p1⟩ := hbx.cells
    have HR := Lib.hid hrv
    have HB := Lib.hid hfin.2
    rw [Array.getD_eq_getD_getElem?] at s2
    clear hfin hf hbx hrv
    go_wp2_with fail
    exact bodyPost_ret (v := .agg #[c0, c1]) (by simp [results, Tryz.results42, go_sem, s2, p0, p1]) hd ⟨⟨_, rfl, HR.out⟩, HB.out⟩
end Go.Proofs.YtgicbmibhnnflaaGreatDoor
