
/-
  Contracts of Compare in both packages.
-/
import Derived.Test.YtgbckpihlklnlaaCmp
import Derived.Test.YtgbckpihlklnlaaPast
import Derived.Test.YtgbckpihlklnlaaShelf
import Derived.Deep.RegionHeld3
namespace Go.Proofs.Ytgbckpihlklnlaa
open Go.RowKit
theorem less_cmp : ∀ a b : List UInt8, Op.bytesLess a b = decide (Lib.compareBytes a b = -1)
  | [], [] => by simp [Op.bytesLess, Lib.compareBytes]
  | _ :: _, [] => by simp [Op.bytesLess, Lib.compareBytes]
  | [], _ :: _ => by simp [Op.bytesLess, Lib.compareBytes]
  | a :: xs, b :: ys => by
    have ih := less_cmp xs ys
    unfold Op.bytesLess Lib.compareBytes
    simp only [UInt8.lt_iff_toNat_lt]
    by_cases h1 : a.toNat < b.toNat
    · simp [h1]
    · by_cases h2 : b.toNat < a.toNat
      · simp [h1, h2]; intro e; rw [e] at h2; omega
      · have e : a = b := UInt8.toNat_inj.1 (by omega)
        subst e
        simp [ih]
theorem cmpL_zero : ∀ a b : List UInt8, Lib.compareBytes a b = 0 ↔ a = b
  | [], [] => by simp [Lib.compareBytes]
  | _ :: _, [] => by simp [Lib.compareBytes]
  | [], _ :: _ => by simp [Lib.compareBytes]
  | a :: xs, b :: ys => by
    have ih := cmpL_zero xs ys
    unfold Lib.compareBytes
    simp only [UInt8.lt_iff_toNat_lt]
    by_cases h1 : a.toNat < b.toNat
    · simp [h1]; intro e; rw [e] at h1; omega
    · by_cases h2 : b.toNat < a.toNat
      · simp [h1, h2]; intro e; rw [e] at h2; omega
      · have e : a = b := UInt8.toNat_inj.1 (by omega)
        subst e
        simp [ih]
theorem ints_any (a b : Int) (w : World) : Calls Try.prog 40 #[.int .i64 a, .int .i64 b] w fun e w' => e = .returned (.int .i64 (Lib.compareInt a b)) ∧ w = w' := by
  by_cases h1 : a < b
  · go_enter Try.func40, Try.ntmps40
    go_wp2_with fail
    go_ret
    exact ⟨by simp [Lib.compareInt, h1], rfl⟩
  · by_cases h2 : b < a
    · go_enter Try.func40, Try.ntmps40
      go_wp2_with fail
      go_ret
      exact ⟨by simp [Lib.compareInt]; omega, rfl⟩
    · go_enter Try.func40, Try.ntmps40
      go_wp2_with fail
      go_ret
      exact ⟨by simp [Lib.compareInt]; omega, rfl⟩
theorem strings_any (a b : ByteArray) (w : World) : Calls Try.prog 41 #[.string a, .string b] w fun e w' => e = .returned (.int .i64 (cmpB a b)) ∧ w = w' := by
  have e1 : Op.bytesLess a.toList b.toList = decide (cmpB a b = -1) := by rw [less_cmp, Lib.toList_data, Lib.toList_data]; rfl
  have e2 : (a.toList == b.toList) = decide (cmpB a b = 0) := by
    rw [Lib.toList_data, Lib.toList_data]
    unfold cmpB
    by_cases h : a.data.toList = b.data.toList
    · rw [h]; simp [(cmpL_zero _ _).2 rfl]
    · have := mt (cmpL_zero _ _).1 h
      rw [beq_eq_false_iff_ne.2 h]; simp [this]
  have hr : cmpB a b = -1 ∨ cmpB a b = 0 ∨ cmpB a b = 1 := cmpL_range _ _
  rcases hr with h | h | h
  · rw [h] at e1 e2 ⊢
    have e1' : Op.bytesLess a.toList b.toList = true := by rw [e1]; rfl
    clear e1 e2 h
    go_enter Try.func41, Try.ntmps41
    go_wp2_with fail
    go_ret
    exact ⟨rfl, rfl⟩
  · rw [h] at e1 e2 ⊢
    have e1' : Op.bytesLess a.toList b.toList = false := by rw [e1]; rfl
    have e2' : (a.toList == b.toList) = true := by rw [e2]; rfl
    clear e1 e2 h
    go_enter Try.func41, Try.ntmps41
    go_wp2_with fail
    go_ret
    exact ⟨rfl, rfl⟩
  · rw [h] at e1 e2 ⊢
    have e1' : Op.bytesLess a.toList b.toList = false := by rw [e1]; rfl
    have e2' : (a.toList == b.toList) = false := by rw [e2]; rfl
    clear e1 e2 h
    go_enter Try.func41, Try.ntmps41
    go_wp2_with fail
    go_ret
    exact ⟨rfl, rfl⟩
def VT.keys : VT → List ByteArray | .mk _ _ _ _ ks => ks
def VT.items : VT → List VT | .mk _ _ _ is _ => is
theorem keyAt_any (t : VT) (i : Nat) (w : World) (B : Nat) (v : Value) (h : Rd w B v t) (hB : B ≤ w.heap.size) (hi : i ≤ 140737488351232) :
    Calls Try.prog 48 #[v, .int .i64 i] w fun e w' => e = .returned (.string (keyI t.keys i)) ∧ Below w.heap.size w w' := by
  cases h with
  | @mk k n s A li ci K lk ck items keys V hk hn hs hks hli hlk hbi hbk hA hr hK =>
  have HB : Hid (Below w.heap.size w (w.alloc (.cells #[.int .i64 k, .int .i64 n, .string s, .slice A li ci, .slice K lk ck] 26 (0, 0)))) := Lib.hid ((Below.refl _ _).alloc (Nat.le_refl _) _)
  by_cases hlt : i < lk
  · obtain ⟨a, rfl, hab, hc⟩ := hK (by omega)
    have e : keys[i]? = some (keyI keys i) := by unfold keyI; rw [List.getElem?_eq_getElem (by omega)]; rfl
    have hc1 := hc i _ e
    have hc2 : (w.alloc (.cells #[.int .i64 k, .int .i64 n, .string s, .slice A li ci, .slice (some a) lk ck] 26 (0, 0))).cell? (a.add i) = some (.string (keyI keys i)) := ((Below.refl _ _).alloc (Nat.le_refl _) _ : Below w.heap.size w _).cell (by rw [add_block]; omega) |>.trans hc1
    show Calls _ _ _ _ fun e w' => e = .returned (.string (keyI keys i)) ∧ _
    generalize keyI keys i = y at *
    clear hA hr hK hks hk hn hs hli hlk e hc hc1
    go_enter Try.func48, Try.ntmps48
    go_wp2_with fail
    go_ret
    exact ⟨rfl, HB.out⟩
  · have e : keyI keys i = ⟨#[]⟩ := by unfold keyI; rw [List.getElem?_eq_none (by omega)]; rfl
    show Calls _ _ _ _ fun e w' => e = .returned (.string (keyI keys i)) ∧ _
    rw [e]
    clear hA hr hK hks hk hn hs hli hlk e
    go_enter Try.func48, Try.ntmps48
    go_wp2_with fail
    go_ret
    exact ⟨rfl, HB.out⟩
theorem rkey_any (t : VT) (i : Nat) (w : World) (B : Nat) (v : Value) (h : Rd w B v t) (hB : B ≤ w.heap.size) (hi : i ≤ 140737488351232) :
    Calls Try.prog 42 #[v, .int .i64 i] w fun e w' => e = .returned (.string (keyI t.keys i)) ∧ Below w.heap.size w w' := by
  cases h with
  | @mk k n s A li ci K lk ck items keys V hk hn hs hks hli hlk hbi hbk hA hr hK =>
  have HB : Hid (Below w.heap.size w (w.alloc (.cells #[.int .i64 k, .int .i64 n, .string s, .slice A li ci, .slice K lk ck] 26 (0, 0)))) := Lib.hid ((Below.refl _ _).alloc (Nat.le_refl _) _)
  by_cases hlt : i < lk
  · obtain ⟨a, rfl, hab, hc⟩ := hK (by omega)
    have e : keys[i]? = some (keyI keys i) := by unfold keyI; rw [List.getElem?_eq_getElem (by omega)]; rfl
    have hc1 := hc i _ e
    have hc2 : (w.alloc (.cells #[.int .i64 k, .int .i64 n, .string s, .slice A li ci, .slice (some a) lk ck] 26 (0, 0))).cell? (a.add i) = some (.string (keyI keys i)) := ((Below.refl _ _).alloc (Nat.le_refl _) _ : Below w.heap.size w _).cell (by rw [add_block]; omega) |>.trans hc1
    show Calls _ _ _ _ fun e w' => e = .returned (.string (keyI keys i)) ∧ _
    generalize keyI keys i = y at *
    clear hA hr hK hks hk hn hs hli hlk e hc hc1
    go_enter Try.func42, Try.ntmps42
    go_wp2_with fail
    go_ret
    exact ⟨rfl, HB.out⟩
  · have e : keyI keys i = ⟨#[]⟩ := by unfold keyI; rw [List.getElem?_eq_none (by omega)]; rfl
    show Calls _ _ _ _ fun e w' => e = .returned (.string (keyI keys i)) ∧ _
    rw [e]
    clear hA hr hK hks hk hn hs hli hlk e
    go_enter Try.func42, Try.ntmps42
    go_wp2_with fail
    go_ret
    exact ⟨rfl, HB.out⟩
theorem Rd.shape {w : World} {B : Nat} {v : Value} {t : VT} (h : Rd w B v t) : ∃ (k n : Int) (s : ByteArray) (A : Option Addr) (li ci : Nat) (K : Option Addr) (lk ck : Nat), v = .agg #[.int .i64 k, .int .i64 n, .string s, .slice A li ci, .slice K lk ck] := by
  cases h with
  | mk V hk hn hs hks hli hlk hbi hbk hA hr hK => exact ⟨_, _, _, _, _, _, _, _, _, rfl⟩
theorem or_any (b : Nat) (x y : Int) (w : World) (h0 : w.cell? ⟨b, 0, none⟩ = some (.int .i64 x)) (h1 : w.cell? ⟨b, 1, none⟩ = some (.int .i64 y)) :
    Calls Try.prog 37 #[.slice (some ⟨b, 0, none⟩) 2 2] w fun e w' => e = .returned (.int .i64 (orE x y)) ∧ w = w' := by
  go_enter Try.func37, Try.ntmps37
  go_wp2_with fail
  go_loop [8] (fun i => (i = .int .i64 0) ∨ (i = .int .i64 1 ∧ x = 0) ∨ (i = .int .i64 2 ∧ x = 0 ∧ y = 0)) (fun i => 2 - (intOf i).toNat)
  case atStart => exact .inl rfl
  case round =>
    rcases hrel with rfl | ⟨rfl, hx⟩ | ⟨rfl, hx, hy⟩
    · by_cases hx : x = 0
      · have hx' : (x != 0) = false := by rw [hx]; rfl
        have HX := Lib.hid hx
        clear hx
        go_wp2_with fail
        go_round
        case rel => exact .inr (.inl ⟨rfl, HX.out⟩)
        case measure => simp [intOf]
      · have hx' : (x != 0) = true := by simp [hx]
        have HX := Lib.hid hx
        clear hx
        go_wp2_with fail
        go_ret
        exact ⟨by unfold orE; rw [if_neg HX.out]; rfl, rfl⟩
    · have HX := Lib.hid hx
      by_cases hy : y = 0
      · have hy' : (y != 0) = false := by rw [hy]; rfl
        have HY := Lib.hid hy
        clear hx hy
        go_wp2_with fail
        go_round
        case rel => exact .inr (.inr ⟨rfl, HX.out, HY.out⟩)
        case measure => simp [intOf]
      · have hy' : (y != 0) = true := by simp [hy]
        clear hx hy
        go_wp2_with fail
        go_ret
        exact ⟨by unfold orE; rw [if_pos HX.out]; rfl, rfl⟩
    · have HX := Lib.hid hx
      have HY := Lib.hid hy
      clear hx hy
      go_wp2_with fail
      go_ret
      exact ⟨by unfold orE; rw [if_pos HX.out, HY.out]; rfl, rfl⟩
/- The contract of Compare at one tree, for the induction. -/
def CmpAt (f : FuncId) (t : VT) : Prop := ∀ (t' : VT) (w : World) (B : Nat) (v v' : Value), Rd w B v t → Rd w B v' t' → B ≤ w.heap.size →
    Calls Try.prog f #[v, v'] w fun e w' => e = .returned (.int .i64 (t.cmp t')) ∧ Below w.heap.size w w'
set_option maxHeartbeats 1000000 in
theorem elements_any (t t' : VT) (ih : ∀ (i : Nat) (u : VT), t.items[i]? = some u → CmpAt 22 u) (i : Nat) (w : World) (B : Nat) (v v' : Value) (h : Rd w B v t) (h' : Rd w B v' t') (hB : B ≤ w.heap.size) :
    Calls Try.prog 39 #[v, v', .int .i64 i] w fun e w' => e = .returned (.int .i64 (elemCmp t.items t.keys t'.items t'.keys i)) ∧ Below w.heap.size w w' := by
  have HRD := Lib.hid h
  have HRD' := Lib.hid h'
  have IH := Lib.hid ih
  clear ih
  cases h with
  | @mk k n s A li ci K lk ck items keys V hk hn hs hks hli hlk hbi hbk hA hr hK =>
  cases h' with
  | @mk k' n' s' A' li' ci' K' lk' ck' items' keys' V' hk' hn' hs' hks' hli' hlk' hbi' hbk' hA' hr' hK' =>
  have HA := Lib.hid hA
  have HR := Lib.hid hr
  have HL := Lib.hid hli
  have HA' := Lib.hid hA'
  have HR' := Lib.hid hr'
  have HL' := Lib.hid hli'
  show Calls _ _ _ _ fun e w' => e = .returned (.int .i64 (elemCmp items keys items' keys' i)) ∧ _
  clear hA hr hA' hr' hli hli' hK hK' hks hks' hk hk' hn hn' hs hs' hlk hlk' hbk hbk'
  by_cases h1 : i < li
  · by_cases h2 : i < li'
    · obtain ⟨a, t, k1, n1, s1, A1, li1, ci1, K1, lk1, ck1, rfl, ht, e, hrd, h0, h1', h2', h3, h4⟩ := round_at HA.out HR.out HL.out (Below.refl _ _) h1
      obtain ⟨a', t', k1', n1', s1', A1', li1', ci1', K1', lk1', ck1', rfl, ht', e', hrd', h0', h1'', h2'', h3', h4'⟩ := round_at HA'.out HR'.out HL'.out (Below.refl _ _) h2
      have HC : Hid (C5 w (a.add (i * 5)) (V i)) := Lib.hid ⟨_, _, _, _, _, e, h0, h1', h2', h3, h4⟩
      have HC' : Hid (C5 w (a'.add (i * 5)) (V' i)) := Lib.hid ⟨_, _, _, _, _, e', h0', h1'', h2'', h3', h4'⟩
      have hab : (a.add (i * 5)).block < B := by obtain ⟨_, e, h, _⟩ := HA.out (by omega); cases e; rw [add_block]; exact h
      have hab' : (a'.add (i * 5)).block < B := by obtain ⟨_, e, h, _⟩ := HA'.out (by omega); cases e; rw [add_block]; exact h
      have HE : Hid (elemCmp items keys items' keys' i = orE (cmpB (keyI keys i) (keyI keys' i)) (t.cmp t')) := Lib.hid (by unfold elemCmp; rw [ht, ht'])
      have IHt := IH.out i t ht t'
      have IHH := Lib.hid IHt
      have E := Lib.hid e
      have E' := Lib.hid e'
      have HT := Lib.hid hrd
      have HT' := Lib.hid hrd'
      clear e e' hrd hrd' h0 h1' h2' h3 h4 h0' h1'' h2'' h3' h4' ht ht' IHt IH
      go_enter Try.func39, Try.ntmps39
      go_wp2_with fail
      refine wp_region_past (fun W => Box W w.heap.size (.int .i64 k) (.int .i64 n) (.string s) (.slice (some a) li ci) (.slice K lk ck) ∧ Box W (w.heap.size + 1) (.int .i64 k') (.int .i64 n') (.string s') (.slice (some a') li' ci') (.slice K' lk' ck') ∧ Below w.heap.size w W) (Box.two w _ _ _ _ _ _ _ _ _ _) (by kernel_rfl) ?_
      intro W ⟨f1, f2, f3⟩ _
      obtain ⟨p0, p1, p2, p3, p4⟩ := f1.past
      obtain ⟨q0, q1, q2, q3, q4⟩ := f2.past
      have F1 := Lib.hid f1
      have F2 := Lib.hid f2
      have F3 := Lib.hid f3
      clear f1 f2 f3
      have C1 : Hid (∀ x : Past W, Calls Try.prog 48 #[.agg #[.int .i64 k, .int .i64 n, .string s, .slice (some a) li ci, .slice K lk ck], .int .i64 i] x.w fun e w'' => e = .returned (.string (keyI keys i)) ∧ ∃ y : Past W, w'' = y.w) :=
        Lib.hid fun x => past_of x (keyAt_any _ i _ W.heap.size _ (((HRD.out.mono hB).kept F3.out).kept (x.b.mono F3.out.size) |>.mono F3.out.size) x.le (by omega))
      have C2 : Hid (∀ x : Past W, Calls Try.prog 48 #[.agg #[.int .i64 k', .int .i64 n', .string s', .slice (some a') li' ci', .slice K' lk' ck'], .int .i64 i] x.w fun e w'' => e = .returned (.string (keyI keys' i)) ∧ ∃ y : Past W, w'' = y.w) :=
        Lib.hid fun x => past_of x (keyAt_any _ i _ W.heap.size _ (((HRD'.out.mono hB).kept F3.out).kept (x.b.mono F3.out.size) |>.mono F3.out.size) x.le (by omega))
      generalize keyI keys i = y at *
      generalize keyI keys' i = y' at *
      have C3 : Hid (∀ x : Past W, Calls Try.prog 38 #[.string y, .string y'] x.w fun e w'' => e = .returned (.int .i64 (cmpB y y')) ∧ ∃ y : Past W, w'' = y.w) :=
        Lib.hid fun x => past_same x ((Try.strings_Compare y y' x.w).mono fun _ _ ⟨h1, h2⟩ => ⟨h1, h2.symm⟩)
      repeat (go_big_quiet_step (first | with_reducible exact C1.out _ | with_reducible exact C2.out _ | with_reducible exact C3.out _))
      refine wpQuiet_nil ?_
      intro _ hw'
      obtain ⟨x, rfl⟩ := hw'
      have HBx := Lib.hid (F3.out.trans (x.b.mono F3.out.size))
      by_cases hc : cmpB y y' = 0
      · have hc' : (cmpB y y' != 0) = false := by rw [hc]; rfl
        have HE2 : Hid (elemCmp items keys items' keys' i = t.cmp t') := Lib.hid (by rw [HE.out]; unfold orE; rw [if_pos hc])
        have HX1 := Lib.hid (F1.out.kept x.b)
        have HX2 := Lib.hid (F2.out.kept x.b)
        clear hc p0 p1 p2 p3 p4 q0 q1 q2 q3 q4
        generalize x.w = wx at *
        go_wp2_with fail
        refine wp_region_past (fun W => Box W w.heap.size (.int .i64 k) (.int .i64 n) (.string s) (.slice (some a) li ci) (.slice K lk ck) ∧ Box W (w.heap.size + 1) (.int .i64 k') (.int .i64 n') (.string s') (.slice (some a') li' ci') (.slice K' lk' ck') ∧ Below w.heap.size w W) ⟨HX1.out, HX2.out, HBx.out⟩ (by kernel_rfl) ?_
        intro W2 ⟨f1, f2, f3⟩ _
        obtain ⟨p0, p1, p2, p3, p4⟩ := f1.past
        obtain ⟨q0, q1, q2, q3, q4⟩ := f2.past
        obtain ⟨r0, r1, r2, r3, r4⟩ := (HC.out.kept (by omega) f3).past E.out (Nat.lt_of_lt_of_le (Nat.lt_of_lt_of_le hab hB) f3.size)
        obtain ⟨u0, u1, u2, u3, u4⟩ := (HC'.out.kept (by omega) f3).past E'.out (Nat.lt_of_lt_of_le (Nat.lt_of_lt_of_le hab' hB) f3.size)
        have G3 := Lib.hid f3
        clear f1 f2 f3
        have C4 : Hid (∀ x : Past W2, Calls Try.prog 22 #[.agg #[.int .i64 k1, .int .i64 n1, .string s1, .slice A1 li1 ci1, .slice K1 lk1 ck1], .agg #[.int .i64 k1', .int .i64 n1', .string s1', .slice A1' li1' ci1', .slice K1' lk1' ck1']] x.w fun e w'' => e = .returned (.int .i64 (t.cmp t')) ∧ ∃ y : Past W2, w'' = y.w) :=
          Lib.hid fun x => past_of x (by
            have g := G3.out.trans (x.b.mono G3.out.size)
            have := IHH.out x.w B (V i) (V' i) (HT.out.kept (g.mono hB)) (HT'.out.kept (g.mono hB)) (Nat.le_trans hB g.size)
            rwa [E.out, E'.out] at this)
        have hi0 : (0 : Int) ≤ (i : Int) := by omega
        have hi1 : (i : Int) < (li : Int) := by omega
        have hi2 : (i : Int) < (li' : Int) := by omega
        repeat (go_big_quiet_step (with_reducible exact C4.out _))
        refine wpQuiet_nil ?_
        intro _ hw'
        obtain ⟨x, rfl⟩ := hw'
        go_wp2_with fail
        go_ret
        exact ⟨by rw [HE2.out]; rfl, G3.out.trans (x.b.mono G3.out.size)⟩
      · have hc' : (cmpB y y' != 0) = true := by simp [hc]
        have HE2 : Hid (elemCmp items keys items' keys' i = cmpB y y') := Lib.hid (by rw [HE.out]; unfold orE; rw [if_neg hc])
        clear hc
        go_wp2_with fail
        go_ret
        exact ⟨by rw [HE2.out]; rfl, HBx.out⟩
    · have HE : Hid (elemCmp items keys items' keys' i = 1) := Lib.hid (by
        unfold elemCmp
        rw [List.getElem?_eq_getElem (by have := HL.out; omega), List.getElem?_eq_none (by have := HL'.out; omega)])
      go_enter Try.func39, Try.ntmps39
      go_wp2_with fail
      go_ret
      exact ⟨by rw [HE.out]; rfl, ((Below.refl _ _).alloc (Nat.le_refl _) _).alloc (by simp) _⟩
  · have HE : Hid (elemCmp items keys items' keys' i = -1) := Lib.hid (by
      unfold elemCmp
      rw [List.getElem?_eq_none (by have := HL.out; omega)])
    go_enter Try.func39, Try.ntmps39
    go_wp2_with fail
    go_ret
    exact ⟨by rw [HE.out]; rfl, ((Below.refl _ _).alloc (Nat.le_refl _) _).alloc (by simp) _⟩
set_option maxHeartbeats 2000000 in
theorem compare_any (t : VT) : CmpAt 22 t := by
  induction t using VT.ind with
  | h k n s items keys ih =>
  intro t' w B v v' h h' hB
  have HRD := Lib.hid h
  have HRD' := Lib.hid h'
  have IH := Lib.hid ih
  clear ih
  cases h with
  | @mk _ _ _ A li ci K lk ck _ _ V hk hn hs hks hli hlk hbi hbk hA hr hK =>
  cases h' with
  | @mk k' n' s' A' li' ci' K' lk' ck' items' keys' V' hk' hn' hs' hks' hli' hlk' hbi' hbk' hA' hr' hK' =>
  have HL := Lib.hid hli
  have HL' := Lib.hid hli'
  clear hA hr hA' hr' hli hli' hK hK' hks hks' hk hk' hn hn' hs hs' hlk hlk' hbk hbk'
  obtain ⟨f1, f2, f3⟩ := Box.two w (.int .i64 k) (.int .i64 n) (.string s) (.slice A li ci) (.slice K lk ck) (.int .i64 k') (.int .i64 n') (.string s') (.slice A' li' ci') (.slice K' lk' ck')
  have F1 := Lib.hid f1
  have F2 := Lib.hid f2
  have F3 := Lib.hid f3
  clear f1 f2 f3
  by_cases hkk : k = k'
  · subst hkk
    have e0 : Lib.compareInt k k = 0 := by unfold Lib.compareInt; rw [if_neg (by omega), if_neg (by omega)]
    have E0 := Lib.hid e0
    clear e0
    go_enter Try.func22, Try.ntmps22
    go_wp2_with fail
    go_step3
    go_wp2_with fail
    refine (Try.cmp_Compare_int _ _ _).mono ?_
    rintro e w' ⟨rfl, rfl⟩
    rw [E0.out]
    go_wp2_with fail
    go_step3
    go_wp2_with fail
    go_region_held3 (fun w' => w'.cell? ⟨w.heap.size, 1, none⟩ = some (.int .i64 n) ∧ w'.cell? ⟨w.heap.size, 2, none⟩ = some (.string s) ∧ w'.cell? ⟨w.heap.size + 1, 1, none⟩ = some (.int .i64 n') ∧ w'.cell? ⟨w.heap.size + 1, 2, none⟩ = some (.string s'))
      (go_keep)
      (first
        | (go_at_call 36; refine (Try.cmp_Compare_int _ _ _).mono ?_; rintro e w' ⟨rfl, rfl⟩)
        | (go_at_call 38; refine (Try.strings_Compare _ _ _).mono ?_; rintro e w' ⟨rfl, rfl⟩)
        | (go_at_call 37; refine (or_any _ (Lib.compareInt n n') (Lib.compareBytes s.data.toList s'.data.toList) _ (by simp [go_sem]) (by simp [go_sem])).mono ?_; rintro e w' ⟨rfl, rfl⟩))
    generalize hcc : orE (Lib.compareInt n n') (Lib.compareBytes s.data.toList s'.data.toList) = c at *
    have HCC := Lib.hid hcc
    clear hcc
    by_cases hc : c = 0
    · subst hc
      have HE : Hid ((VT.mk k n s items keys).cmp (VT.mk k n' s' items' keys') = cmpsAt items keys items' keys' 0) := Lib.hid (by
        unfold VT.cmp cmpB; rw [E0.out, HCC.out]; unfold orE; rw [if_pos rfl, if_pos rfl]; rfl)
      have hlm : (li : Int) ≤ 140737488351232 := by omega
      have hlm' : (li' : Int) ≤ 140737488351232 := by omega
      go_wp2_with fail
      go_loopw [5, 39] (fun o i wr => ∃ j : Nat, j ≤ max li li' ∧ i = .int .i64 j ∧ o = .int .i64 0 ∧ cmpsAt items keys items' keys' 0 = cmpsAt items keys items' keys' j ∧ Below w.heap.size w wr ∧
        Box wr w.heap.size (.int .i64 k) (.int .i64 n) (.string s) (.slice A li ci) (.slice K lk ck) ∧ Box wr (w.heap.size + 1) (.int .i64 k) (.int .i64 n') (.string s') (.slice A' li' ci') (.slice K' lk' ck')) (fun _ i _ => max li li' - (intOf i).toNat)
      case atStart => exact ⟨0, Nat.zero_le _, rfl, rfl, rfl, (F3.out.drew).alloc (by simp; omega) _, (F1.out.kept (Below.refl _ _).drew).alloc _, (F2.out.kept (Below.refl _ _).drew).alloc _⟩
      case round =>
        obtain ⟨j, hj, rfl, rfl, hcm, hb, hx1, hx2⟩ := hrel
        have HCM := Lib.hid hcm
        have HB := Lib.hid hb
        have hl1 := hx1.lt
        have hl2 := hx2.lt
        have HX1 := Lib.hid hx1
        have HX2 := Lib.hid hx2
        obtain ⟨p0, p1, p2, p3, p4⟩ := hx1.cells
        obtain ⟨q0, q1, q2, q3, q4⟩ := hx2.cells
        clear hcm hb hx1 hx2
        by_cases hlt : j < max li li'
        · have hlt' : (j : Int) < max (li : Int) (li' : Int) := by omega
          have HST := Lib.hid (cmpsAt_step (is := items) (ks := keys) (is' := items') (ks' := keys') (j := j) (by have := HL.out; have := HL'.out; omega))
          have HEL : Hid (Calls Try.prog 39 #[.agg #[.int .i64 k, .int .i64 n, .string s, .slice A li ci, .slice K lk ck], .agg #[.int .i64 k, .int .i64 n', .string s', .slice A' li' ci', .slice K' lk' ck'], .int .i64 j] wr fun e w' => e = .returned (.int .i64 (elemCmp items keys items' keys' j)) ∧ Below wr.heap.size wr w') :=
            Lib.hid (elements_any (.mk k n s items keys) (.mk k n' s' items' keys') IH.out j wr B _ _ (HRD.out.kept (HB.out.mono hB)) (HRD'.out.kept (HB.out.mono hB)) (by have := HB.out.size; omega))
          generalize elemCmp items keys items' keys' j = d at *
          go_wp2_with fail
          refine HEL.out.mono ?_
          rintro e w1 ⟨rfl, hb1⟩
          have HB1 := Lib.hid (HB.out.trans (hb1.mono HB.out.size))
          have HX1' := Lib.hid (HX1.out.kept hb1)
          have HX2' := Lib.hid (HX2.out.kept hb1)
          clear hb1 p0 p1 p2 p3 p4 q0 q1 q2 q3 q4
          by_cases hd : d = 0
          · subst hd
            have HCM1 := Lib.hid (HCM.out.trans (by rw [HST.out]; rfl) : cmpsAt items keys items' keys' 0 = cmpsAt items keys items' keys' (j + 1))
            go_wp2_with fail
            go_roundw
            case rel => exact ⟨j + 1, by omega, by go_num, rfl, HCM1.out, HB1.out, HX1'.out, HX2'.out⟩
            case measure => simp [intOf]; omega
          · have hd' : (d != 0) = true := by simp [hd]
            have HD : Hid (cmpsAt items keys items' keys' 0 = d) := Lib.hid (by rw [HCM.out, HST.out]; unfold orE; rw [if_neg hd])
            clear hd
            go_wp2_with fail
            try rw [Exit.noGoto_ret]
            go_ret
            exact ⟨by rw [HE.out, HD.out]; rfl, HB1.out⟩
        · have hlt' : ¬ (j : Int) < max (li : Int) (li' : Int) := by omega
          have HJ : Hid (cmpsAt items keys items' keys' 0 = 0) := Lib.hid (by rw [HCM.out]; exact cmpsAt_done (by have := HL.out; omega) (by have := HL'.out; omega))
          go_wp2_with fail
          try rw [Exit.noGoto_ret]
          go_ret
          exact ⟨by rw [HE.out, HJ.out]; rfl, HB.out⟩
    · have hc' : (c != 0) = true := by simp [hc]
      have HE : Hid ((VT.mk k n s items keys).cmp (VT.mk k n' s' items' keys') = c) := Lib.hid (by
        unfold VT.cmp cmpB; rw [E0.out, HCC.out]; unfold orE; rw [if_pos rfl, if_neg hc])
      clear hc
      go_wp2_with fail
      try rw [Exit.noGoto_ret]
      go_ret
      exact ⟨by rw [HE.out]; rfl, (F3.out.drew).alloc (by simp; omega) _⟩
  · have e0 : Lib.compareInt k k' ≠ 0 := by unfold Lib.compareInt; split; · omega
                                            split <;> omega
    have e1 : (k == k') = false := beq_eq_false_iff_ne.2 hkk
    have E0 : Hid ((VT.mk k n s items keys).cmp (VT.mk k' n' s' items' keys') = Lib.compareInt k k') := Lib.hid (by unfold VT.cmp orE; rw [if_neg e0])
    clear e0 hkk
    go_enter Try.func22, Try.ntmps22
    go_wp2_with fail
    go_step3
    go_wp2_with fail
    refine (Try.cmp_Compare_int _ _ _).mono ?_
    rintro e w' ⟨rfl, rfl⟩
    go_wp2_with fail
    go_step3
    go_wp2_with fail
    try rw [Exit.noGoto_ret]
    go_ret
    exact ⟨by rw [E0.out]; rfl, F3.out⟩
end Go.Proofs.Ytgbckpihlklnlaa
