
/-
  Comparing lists of integers; lists without the wrappers that are non-null; Same and Shape.
-/
import Derived.Test.YtgicbmibhnnflaaGreatDoorYParts
import Derived.Shelf.Abstract
namespace Go.Proofs.YtgicbmibhnnflaaGreatDoor
open Go.RowKit
theorem ints_round {w wr : World} {B k : Nat} {A : Option Addr} {xs : Ws} (h : IntsAt w B A xs) (hb : Below B w wr) (hk : k < xs.length) : ∃ a x, A = some a ∧ a.block < B ∧ xs[k]? = some x ∧ wr.cell? (a.add k) = some (.int .i64 x) := by
  obtain ⟨a, e, ha, hc⟩ := (h.kept hb) (by omega)
  exact ⟨a, xs[k], e, ha, List.getElem?_eq_getElem hk, hc k _ (List.getElem?_eq_getElem hk)⟩
theorem cell_past {W : World} {a : Addr} {v : Value} (h : W.cell? a = some v) (ha : a.block < W.heap.size) (x : Past W) : x.w.cell? a = some v := (World.cell?_of_block (w := W) (x.b.block _ ha)).trans h
theorem take_one {xs : Ws} {k : Nat} {x : Int} (h : xs[k]? = some x) : xs.take (k + 1) = xs.take k ++ [x] := by
  obtain ⟨h1, h2⟩ := List.getElem?_eq_some_iff.1 h
  rw [← h2]; exact (List.take_append_getElem h1).symm
theorem drop_one {xs : Ws} {k : Nat} {x : Int} (h : xs[k]? = some x) : xs.drop k = x :: xs.drop (k + 1) := by
  obtain ⟨h1, h2⟩ := List.getElem?_eq_some_iff.1 h
  rw [← h2]; exact List.drop_eq_getElem_cons h1
set_option maxRecDepth 100000 in
set_option maxHeartbeats 2000000 in
theorem same_any (xs ys : Ws) (v u : Value) (w : World) (hx : SlV w w.heap.size v xs) (hy : SlV w w.heap.size u ys) (hl : xs.length ≤ 1000000) : Calls Tryz.prog 40 #[v, u] w (BoolPost (decide (xs = ys)) w) := by
  obtain ⟨A, c, rfl, hc, hi⟩ := hx
  obtain ⟨B, d, rfl, hd, hj⟩ := hy
  by_cases hlen : xs.length = ys.length
  · have HA := Lib.hid hi
    have HB := Lib.hid hj
    have HLEN : Hid ((xs.length : Int) ≤ 1000000) := Lib.hid (by omega)
    have HL := Lib.hid hlen
    rw [← hlen]
    clear hc hi hd hj hl hlen
    go_enter Tryz.func40, Tryz.ntmps40
    go_wp2_with fail
    go_loopw [5] (fun i wr => ∃ k : Nat, i = .int .i64 k ∧ k ≤ xs.length ∧ xs.take k = ys.take k ∧ Below w.heap.size w wr) (fun i _ => xs.length - (intOf i).toNat)
    case atStart => exact ⟨0, rfl, Nat.zero_le _, rfl, Below.refl _ _⟩
    case round =>
      obtain ⟨k, rfl, hk, he, hw⟩ := hrel
      have HE := Lib.hid he
      have HW := Lib.hid hw
      have hlm := HLEN.out
      clear he
      by_cases hlt : k < xs.length
      · obtain ⟨a, x, rfl, ha, hp, h0⟩ := ints_round HA.out hw hlt
        obtain ⟨b, y, rfl, hb, hq, h1⟩ := ints_round HB.out hw (by rw [← HL.out]; exact hlt)
        have hlt' : (k : Int) < xs.length := by omega
        have HP := Lib.hid hp
        have HQ := Lib.hid hq
        have HA0 : Hid ((a.add k).block < wr.heap.size) := Lib.hid (by rw [add_block]; exact Nat.lt_of_lt_of_le ha hw.size)
        have HB0 : Hid ((b.add k).block < wr.heap.size) := Lib.hid (by rw [add_block]; exact Nat.lt_of_lt_of_le hb hw.size)
        have H0 := Lib.hid h0
        have H1 := Lib.hid h1
        clear hp hq hw ha hb h0 h1
        by_cases hxy : x = y
        · subst hxy
          have hn : (x != x) = false := by simp
          go_wp2_with fail
          refine wp_region_past (fun W => W.cell? (a.add k) = some (.int .i64 x) ∧ W.cell? (b.add k) = some (.int .i64 x) ∧ Below wr.heap.size wr W) ⟨H0.out, H1.out, Below.refl _ _⟩ (by kernel_rfl) ?_
          intro W ⟨f1, f2, f3⟩ hbw
          have y0 := cell_past f1 (Nat.lt_of_lt_of_le HA0.out f3.size)
          have y1 := cell_past f2 (Nat.lt_of_lt_of_le HB0.out f3.size)
          repeat (go_big_quiet_step (fail))
          refine wpQuiet_nil ?_
          intro _ hw'
          obtain ⟨xw, rfl⟩ := hw'
          have HBY := Lib.hid (HW.out.trans ((f3.trans (xw.b.mono f3.size)).mono HW.out.size))
          clear y0 y1 f1 f2 f3 hbw
          generalize xw.w = wy at *
          go_wp2_with fail
          go_roundw
          case rel => exact ⟨k + 1, by go_num, by omega, by rw [take_one HP.out, take_one HQ.out, HE.out], HBY.out⟩
          case measure => simp [intOf]; omega
        · have hn : (x != y) = true := by simp [hxy]
          have HN : Hid (decide (xs = ys) = false) := Lib.hid (by
            rw [decide_eq_false_iff_not]; rintro rfl
            rw [HP.out] at HQ; exact hxy (Option.some.inj HQ.out))
          clear hxy
          go_wp2_with fail
          refine wp_region_past (fun W => W.cell? (a.add k) = some (.int .i64 x) ∧ W.cell? (b.add k) = some (.int .i64 y) ∧ Below wr.heap.size wr W) ⟨H0.out, H1.out, Below.refl _ _⟩ (by kernel_rfl) ?_
          intro W ⟨f1, f2, f3⟩ hbw
          have y0 := cell_past f1 (Nat.lt_of_lt_of_le HA0.out f3.size)
          have y1 := cell_past f2 (Nat.lt_of_lt_of_le HB0.out f3.size)
          repeat (go_big_quiet_step (fail))
          refine wpQuiet_nil ?_
          intro _ hw'
          obtain ⟨xw, rfl⟩ := hw'
          have HBY := Lib.hid (HW.out.trans ((f3.trans (xw.b.mono f3.size)).mono HW.out.size))
          clear y0 y1 f1 f2 f3 hbw
          generalize xw.w = wy at *
          go_wp2_with fail
          go_ret
          exact ⟨by rw [HN.out]; rfl, HBY.out⟩
      · have hlt' : ¬ (k : Int) < xs.length := by omega
        have HN : Hid (decide (xs = ys) = true) := Lib.hid (by
          have e := HE.out
          rw [List.take_of_length_le (by omega), List.take_of_length_le (by have := HL.out; omega)] at e
          exact decide_eq_true e)
        clear hw
        go_wp2_with fail
        go_ret
        exact ⟨by rw [HN.out]; rfl, HW.out⟩
  · have HN : Hid (decide (xs = ys) = false) := Lib.hid (by rw [decide_eq_false_iff_not]; rintro rfl; exact hlen rfl)
    have hne : ((xs.length : Int) != (ys.length : Int)) = true := by
      rw [bne_iff_ne]; omega
    have hne' : ¬ ((xs.length : Int) = (ys.length : Int)) := by omega
    clear hc hi hd hj hl hlen
    go_enter Tryz.func40, Tryz.ntmps40
    go_wp2_with fail
    all_goals exact bodyPost_ret (v := .bool false) (by simp [results, Tryz.results40, go_sem]) rfl ⟨by rw [HN.out], Below.refl _ _⟩
set_option maxRecDepth 100000 in
set_option maxHeartbeats 2000000 in
theorem equal_any (xs ys : Ws) (v u : Value) (w : World) (hx : SlV w w.heap.size v xs) (hy : SlV w w.heap.size u ys) (hl : xs.length ≤ 1000000) : Calls Tryz.prog 46 #[v, u] w (BoolPost (decide (xs = ys)) w) := by
  obtain ⟨A, c, rfl, hc, hi⟩ := hx
  obtain ⟨B, d, rfl, hd, hj⟩ := hy
  by_cases hlen : xs.length = ys.length
  · have HA := Lib.hid hi
    have HB := Lib.hid hj
    have HLEN : Hid ((xs.length : Int) ≤ 1000000) := Lib.hid (by omega)
    have HL := Lib.hid hlen
    rw [← hlen]
    clear hc hi hd hj hl hlen
    go_enter Tryz.func46, Tryz.ntmps46
    go_wp2_with fail
    go_loopw [5, 13] (fun z i wr => ∃ k : Nat, i = .int .i64 k ∧ k ≤ xs.length ∧ xs.take k = ys.take k ∧ Below w.heap.size w wr) (fun _ i _ => xs.length - (intOf i).toNat)
    case atStart => exact ⟨0, rfl, Nat.zero_le _, rfl, Below.refl _ _⟩
    case round =>
      obtain ⟨k, rfl, hk, he, hw⟩ := hrel
      have HE := Lib.hid he
      have HW := Lib.hid hw
      have hlm := HLEN.out
      clear he
      by_cases hlt : k < xs.length
      · obtain ⟨a, x, rfl, ha, hp, h0⟩ := ints_round HA.out hw hlt
        obtain ⟨b, y, rfl, hb, hq, h1⟩ := ints_round HB.out hw (by rw [← HL.out]; exact hlt)
        have hlt' : (k : Int) < xs.length := by omega
        have HP := Lib.hid hp
        have HQ := Lib.hid hq
        have HA0 : Hid ((a.add k).block < wr.heap.size) := Lib.hid (by rw [add_block]; exact Nat.lt_of_lt_of_le ha hw.size)
        have HB0 : Hid ((b.add k).block < wr.heap.size) := Lib.hid (by rw [add_block]; exact Nat.lt_of_lt_of_le hb hw.size)
        have H0 := Lib.hid h0
        have H1 := Lib.hid h1
        clear hp hq hw ha hb h0 h1
        by_cases hxy : x = y
        · subst hxy
          have hn : (x != x) = false := by simp
          go_wp2_with fail
          refine wp_region_past (fun W => W.cell? (a.add k) = some (.int .i64 x) ∧ W.cell? (b.add k) = some (.int .i64 x) ∧ Below wr.heap.size wr W) ⟨H0.out, H1.out, Below.refl _ _⟩ (by kernel_rfl) ?_
          intro W ⟨f1, f2, f3⟩ hbw
          have y0 := cell_past f1 (Nat.lt_of_lt_of_le HA0.out f3.size)
          have y1 := cell_past f2 (Nat.lt_of_lt_of_le HB0.out f3.size)
          repeat (go_big_quiet_step (fail))
          refine wpQuiet_nil ?_
          intro _ hw'
          obtain ⟨xw, rfl⟩ := hw'
          have HBY := Lib.hid (HW.out.trans ((f3.trans (xw.b.mono f3.size)).mono HW.out.size))
          clear y0 y1 f1 f2 f3 hbw
          generalize xw.w = wy at *
          go_wp2_with fail
          go_roundw
          case rel => exact ⟨k + 1, by go_num, by omega, by rw [take_one HP.out, take_one HQ.out, HE.out], HBY.out⟩
          case measure => simp [intOf]; omega
        · have hn : (x != y) = true := by simp [hxy]
          have HN : Hid (decide (xs = ys) = false) := Lib.hid (by
            rw [decide_eq_false_iff_not]; rintro rfl
            rw [HP.out] at HQ; exact hxy (Option.some.inj HQ.out))
          clear hxy
          go_wp2_with fail
          refine wp_region_past (fun W => W.cell? (a.add k) = some (.int .i64 x) ∧ W.cell? (b.add k) = some (.int .i64 y) ∧ Below wr.heap.size wr W) ⟨H0.out, H1.out, Below.refl _ _⟩ (by kernel_rfl) ?_
          intro W ⟨f1, f2, f3⟩ hbw
          have y0 := cell_past f1 (Nat.lt_of_lt_of_le HA0.out f3.size)
          have y1 := cell_past f2 (Nat.lt_of_lt_of_le HB0.out f3.size)
          repeat (go_big_quiet_step (fail))
          refine wpQuiet_nil ?_
          intro _ hw'
          obtain ⟨xw, rfl⟩ := hw'
          have HBY := Lib.hid (HW.out.trans ((f3.trans (xw.b.mono f3.size)).mono HW.out.size))
          clear y0 y1 f1 f2 f3 hbw
          generalize xw.w = wy at *
          go_wp2_with fail
          go_ret
          exact ⟨by rw [HN.out]; rfl, HBY.out⟩
      · have hlt' : ¬ (k : Int) < xs.length := by omega
        have HN : Hid (decide (xs = ys) = true) := Lib.hid (by
          have e := HE.out
          rw [List.take_of_length_le (by omega), List.take_of_length_le (by have := HL.out; omega)] at e
          exact decide_eq_true e)
        clear hw
        go_wp2_with fail
        go_ret
        exact ⟨by rw [HN.out]; rfl, HW.out⟩
  · have HN : Hid (decide (xs = ys) = false) := Lib.hid (by rw [decide_eq_false_iff_not]; rintro rfl; exact hlen rfl)
    have hne : ((xs.length : Int) != (ys.length : Int)) = true := by
      rw [bne_iff_ne]; omega
    have hne' : ¬ ((xs.length : Int) = (ys.length : Int)) := by omega
    clear hc hi hd hj hl hlen
    go_enter Tryz.func46, Tryz.ntmps46
    go_wp2_with fail
    all_goals exact bodyPost_ret (v := .bool false) (by simp [results, Tryz.results46, go_sem]) rfl ⟨by rw [HN.out], Below.refl _ _⟩
set_option maxRecDepth 100000 in
set_option maxHeartbeats 2000000 in
theorem rsame2_any (n m : ByteArray) (xs ys : Ws) (v u : Value) (w : World) (hx : RefV w w.heap.size v n xs) (hy : RefV w w.heap.size u m ys) (hl : xs.length ≤ 1000000) : Calls Tryz.prog 12 #[v, u] w (BoolPost (decide (n = m ∧ xs = ys)) w) := by
  obtain ⟨A, c, rfl, hc, hi⟩ := hx
  obtain ⟨B, d, rfl, hd, hj⟩ := hy
  obtain ⟨x1, x2, x3, x4⟩ := BxR.both w (.string n) (.slice A xs.length c) (.string m) (.slice B ys.length d)
  have CALL : Hid (Calls Tryz.prog 40 #[.slice A xs.length c, .slice B ys.length d] ((w.alloc (.cells #[.string n, .slice A xs.length c] 24 (0, 0))).alloc (.cells #[.string m, .slice B ys.length d] 24 (0, 0))) (BoolPost (decide (xs = ys)) ((w.alloc (.cells #[.string n, .slice A xs.length c] 24 (0, 0))).alloc (.cells #[.string m, .slice B ys.length d] 24 (0, 0))))) :=
    Lib.hid (same_any xs ys _ _ _ ⟨A, c, rfl, hc, hi.stay x3⟩ ⟨B, d, rfl, hd, hj.stay x3⟩ hl)
  have hs := str_eq n m
  have B0 := Lib.hid x3
  clear hc hd hi hj x1 x2 x3 x4 hl
  by_cases hnm : n = m
  · have HV : Hid (decide (n = m ∧ xs = ys) = decide (xs = ys)) := Lib.hid (by simp [hnm])
    rw [decide_eq_true hnm] at hs
    clear hnm
    go_enter Tryz.func12, Tryz.ntmps12
    go_wp2_with fail
    refine CALL.out.mono ?_
    rintro e w1 ⟨rfl, hb1⟩
    have HB := Lib.hid (B0.out.trans (hb1.mono B0.out.size))
    clear hb1 CALL
    go_wp2_with fail
    exact bodyPost_ret (v := .bool (decide (xs = ys))) (by simp [results, Tryz.results12, go_sem]) rfl ⟨by rw [HV.out], HB.out⟩
  · have HV : Hid (decide (n = m ∧ xs = ys) = false) := Lib.hid (by simp [hnm])
    rw [decide_eq_false hnm] at hs
    clear hnm
    go_enter Tryz.func12, Tryz.ntmps12
    go_wp2_with fail
    all_goals exact bodyPost_ret (v := .bool false) (by simp [results, Tryz.results12, go_sem]) rfl ⟨by rw [HV.out], B0.out⟩
set_option maxRecDepth 100000 in
set_option maxHeartbeats 2000000 in
theorem tsame2_any (n m : ByteArray) (xs ys : Ws) (v u : Value) (w : World) (hx : RefV w w.heap.size v n xs) (hy : RefV w w.heap.size u m ys) (hl : xs.length ≤ 1000000) : Calls Tryz.prog 27 #[v, u] w (BoolPost (decide (n = m ∧ xs = ys)) w) := by
  obtain ⟨A, c, rfl, hc, hi⟩ := hx
  obtain ⟨B, d, rfl, hd, hj⟩ := hy
  obtain ⟨x1, x2, x3, x4⟩ := BxR.both w (.string n) (.slice A xs.length c) (.string m) (.slice B ys.length d)
  have CALL : Hid (Calls Tryz.prog 46 #[.slice A xs.length c, .slice B ys.length d] ((w.alloc (.cells #[.string n, .slice A xs.length c] 24 (0, 0))).alloc (.cells #[.string m, .slice B ys.length d] 24 (0, 0))) (BoolPost (decide (xs = ys)) ((w.alloc (.cells #[.string n, .slice A xs.length c] 24 (0, 0))).alloc (.cells #[.string m, .slice B ys.length d] 24 (0, 0))))) :=
    Lib.hid (equal_any xs ys _ _ _ ⟨A, c, rfl, hc, hi.stay x3⟩ ⟨B, d, rfl, hd, hj.stay x3⟩ hl)
  have hs := str_eq n m
  have B0 := Lib.hid x3
  clear hc hd hi hj x1 x2 x3 x4 hl
  by_cases hnm : n = m
  · have HV : Hid (decide (n = m ∧ xs = ys) = decide (xs = ys)) := Lib.hid (by simp [hnm])
    rw [decide_eq_true hnm] at hs
    clear hnm
    go_enter Tryz.func27, Tryz.ntmps27
    go_wp2_with fail
    refine CALL.out.mono ?_
    rintro e w1 ⟨rfl, hb1⟩
    have HB := Lib.hid (B0.out.trans (hb1.mono B0.out.size))
    clear hb1 CALL
    go_wp2_with fail
    exact bodyPost_ret (v := .bool (decide (xs = ys))) (by simp [results, Tryz.results27, go_sem]) rfl ⟨by rw [HV.out], HB.out⟩
  · have HV : Hid (decide (n = m ∧ xs = ys) = false) := Lib.hid (by simp [hnm])
    rw [decide_eq_false hnm] at hs
    clear hnm
    go_enter Tryz.func27, Tryz.ntmps27
    go_wp2_with fail
    all_goals exact bodyPost_ret (v := .bool false) (by simp [results, Tryz.results27, go_sem]) rfl ⟨by rw [HV.out], B0.out⟩
theorem append_I {w : World} {ops : Array Oper} {rest : List Oper} {o : Oper} {a : Act} {Q : Exit → Act → World → Prop} (hgd : o.guard = none) (s x : Operand)
    (ho : o.op = .call { callee := .builtin .append, args := #[s, x], argTypes := #[22, 22] }) (base : Nat) (v : Value) (ss : Ws) (hs : a.eval s = v) (hown : OwnI w base v ss)
    (ad : Addr) (c : Nat) (p : Int) (hx : a.eval x = .slice (some ad) 1 c) (hnews : w.cell? ad = some (.int .i64 p)) (had : ad.add 0 = ad)
    (hlen : ss.length ≤ 1000000) (hbase : base ≤ w.heap.size)
    (h : ∀ v' w', OwnI w' base v' (ss ++ [p]) → w.grownBy w' v.ownBlock → wpList Tryz.prog ops Q rest (a.put o.dst v') w') : wpList Tryz.prog ops Q (o :: rest) a w := by
  obtain ⟨i0, hi, hz0, hz1, hz2⟩ := infoIp
  refine wpList_append_own w hgd s x 22 ho base 3 i0 (.int .i64 0) 1 8 Tryz.underlying22 hi hz0 hz1 hz2 rfl (by decide) v ss.length _ hs hown ad 1 c [.int .i64 p] hx rfl ?_ ?_ (by unfold maxLen; omega) (by omega) hbase ?_
  · intro j u hj
    cases j with
    | zero => cases hj; rw [had]; exact hnews
    | succ j => simp at hj
  · intro u hu
    simp at hu; subst hu; rfl
  · intro v' w' h1 h2 _
    refine h v' w' ?_ h2
    unfold OwnI
    rw [List.length_append, inC_app]
    exact h1
theorem OwnI.lower {w : World} {b b' : Nat} {v : Value} {xs : Ws} (h : OwnI w b v xs) (hb : b' ≤ b) : OwnI w b' v xs := by
  refine ⟨h.1, h.2.imp id ?_⟩
  rintro ⟨g, cap, cur, e1, e2, r⟩
  exact ⟨g, cap, cur, e1, Nat.le_trans hb e2, r⟩
theorem str_one {xs : Ws} {k : Nat} {x : Int} (h : xs[k]? = some x) : strL (xs.take (k + 1)) = if x = 1 then strL (xs.take k) else strL (xs.take k) ++ [x] := by
  rw [take_one h, str_app]
  by_cases hx : x = 1
  · subst hx; rw [if_pos rfl]; show _ ++ [] = _; rw [List.append_nil]
  · rw [if_neg hx]; simp [strL, hx]
theorem str_le (xs : Ws) : (strL xs).length ≤ xs.length := List.length_filter_le _ _
theorem str_take_le (xs : Ws) (k : Nat) : (strL (xs.take k)).length ≤ xs.length := Nat.le_trans (str_le _) (by rw [List.length_take]; omega)
set_option maxRecDepth 100000 in
set_option maxHeartbeats 2000000 in
theorem without_any (xs : Ws) (v0 : Value) (w : World) (h : SlV w w.heap.size v0 xs) (hl : xs.length ≤ 900000) : Calls Tryz.prog 47 #[v0] w fun e w' => (∃ u, e = .returned u ∧ OwnI w' w.heap.size u (strL xs)) ∧ Below w.heap.size w w' := by
  obtain ⟨A, c0, rfl, hc, hi⟩ := h
  have HI := Lib.hid hi
  have hle : w.heap.size ≤ w.heap.size := Nat.le_refl _
  have HLE := Lib.hid hle
  clear hc hi hle
  have HLEN : Hid ((xs.length : Int) ≤ 900000) := Lib.hid (by omega)
  go_enter Tryz.func47, Tryz.ntmps47
  go_wp2_with fail
  go_loopw [3, 5, 8] (fun v _ i wr => ∃ k : Nat, i = .int .i64 k ∧ k ≤ xs.length ∧ OwnI wr w.heap.size v (strL (xs.take k)) ∧ Below w.heap.size w wr) (fun _ _ i _ => xs.length - (intOf i).toNat)
  case atStart => exact ⟨0, rfl, Nat.zero_le _, OwnI.nil _ _, Below.refl _ _⟩
  case round =>
    obtain ⟨k, rfl, hk, hown, hb⟩ := hrel
    have HO := Lib.hid hown
    have HB := Lib.hid hb
    have hlm := HLEN.out
    clear hown
    by_cases hlt : k < xs.length
    · obtain ⟨a, x, rfl, ha, hp, h0⟩ := ints_round HI.out hb hlt
      have hlt' : (k : Int) < xs.length := by omega
      have hs := str_one hp
      have HKL := Lib.hid (str_take_le xs k)
      clear hp hb ha
      by_cases hx : x = 1
      · subst hx
        rw [if_pos rfl] at hs
        have HS := Lib.hid hs
        clear hs
        go_wp2_with fail
        go_roundw
        case rel => exact ⟨k + 1, by go_num, by omega, by rw [HS.out]; exact HO.out, HB.out⟩
        case measure => simp [intOf]; omega
      · rw [if_neg hx] at hs
        have HS := Lib.hid hs
        have hxb : (x != 1) = true := by simp [hx]
        clear hs
        go_wp2_with (at_builtin; refine append_I rfl (.tmp 14) (.tmp 16) rfl w.heap.size _ _ rfl ((HO.out).stay ((Below.refl _ _).alloc (Nat.le_refl _) _)) ⟨wr.heap.size, 0, none⟩ 1 x rfl (by simp) rfl (by have := HKL.out; have := HLEN.out; omega) (by have := HB.out.size; simp; omega) ?_; intro v' w1 hv hg; have HV := Lib.hid hv; have HG := Lib.hid ((HB.out.alloc HB.out.size _).grown hg (by have := HB.out.size; simp; omega) (fun g hg => (HO.out.lt g hg).1)); clear hv hg)
        go_roundw
        case rel => exact ⟨k + 1, by go_num, by omega, by rw [HS.out]; exact HV.out, HG.out⟩
        case measure => simp [intOf]; omega
    · have hlt' : ¬ (k : Int) < xs.length := by omega
      have HT : Hid (xs.take k = xs) := Lib.hid (List.take_of_length_le (by omega))
      clear hb
      go_wp2_with fail
      go_ret
      exact ⟨⟨_, rfl, by have := HO.out; rw [HT.out] at this; exact this⟩, HB.out⟩
set_option maxRecDepth 100000 in
set_option maxHeartbeats 2000000 in
theorem rlists_any (n : ByteArray) (xs : Ws) (v0 : Value) (w : World) (h : RefV w w.heap.size v0 n xs) (hl : xs.length ≤ 900000) : Calls Tryz.prog 48 #[v0] w fun e w' => (∃ u, e = .returned u ∧ OwnI w' w.heap.size u (strL xs)) ∧ Below w.heap.size w w' := by
  obtain ⟨A, c0, rfl, hc, hi⟩ := h
  have x3 := (Below.refl w.heap.size w).alloc (Nat.le_refl _) (.cells #[.string n, .slice A xs.length c0] 24 (0, 0))
  have X0 := Lib.hid (BxR.new w (.string n) (.slice A xs.length c0))
  have HI := Lib.hid (hi.stay x3)
  have BW := Lib.hid x3
  clear hc hi x3
  have HLEN : Hid ((xs.length : Int) ≤ 900000) := Lib.hid (by omega)
  go_enter Tryz.func48, Tryz.ntmps48
  go_wp2_with fail
  generalize hW0 : (w.alloc (.cells #[.string n, .slice A xs.length c0] 24 (0, 0))) = W0 at *
  clear hW0
  go_loopw [3, 4] (fun v i wr => ∃ k : Nat, i = .int .i64 k ∧ k ≤ xs.length ∧ OwnI wr W0.heap.size v (strL (xs.take k)) ∧ Below W0.heap.size W0 wr) (fun _ i _ => xs.length - (intOf i).toNat)
  case atStart => exact ⟨0, rfl, Nat.zero_le _, OwnI.nil _ _, Below.refl _ _⟩
  case round =>
    obtain ⟨k, rfl, hk, hown, hb⟩ := hrel
    have HO := Lib.hid hown
    have HB := Lib.hid hb
    have hlm := HLEN.out
    clear hown
    have q1 := (X0.out.stay hb).cells.2
    by_cases hlt : k < xs.length
    · obtain ⟨a, x, rfl, ha, hp, h0⟩ := ints_round HI.out hb hlt
      have hlt' : (k : Int) < xs.length := by omega
      have hs := str_one hp
      have HKL := Lib.hid (str_take_le xs k)
      clear hp hb ha
      by_cases hx : x = 1
      · subst hx
        rw [if_pos rfl] at hs
        have HS := Lib.hid hs
        clear hs
        go_wp2_with fail
        go_roundw
        case rel => exact ⟨k + 1, by go_num, by omega, by rw [HS.out]; exact HO.out, HB.out⟩
        case measure => simp [intOf]; omega
      · rw [if_neg hx] at hs
        have HS := Lib.hid hs
        have hxb : (x != 1) = true := by simp [hx]
        clear hs
        go_wp2_with (at_builtin; refine append_I rfl (.tmp 18) (.tmp 24) rfl W0.heap.size _ _ rfl ((HO.out).stay ((Below.refl _ _).alloc (Nat.le_refl _) _)) ⟨wr.heap.size, 0, none⟩ 1 x rfl (by simp) rfl (by have := HKL.out; have := HLEN.out; omega) (by have := HB.out.size; have := BW.out.size; simp; omega) ?_; intro v' w1 hv hg; have HV := Lib.hid hv; have HG := Lib.hid ((HB.out.alloc HB.out.size _).grown hg (by have := HB.out.size; simp; omega) (fun g hg => (HO.out.lt g hg).1)); clear hv hg)
        go_roundw
        case rel => exact ⟨k + 1, by go_num, by omega, by rw [HS.out]; exact HV.out, HG.out⟩
        case measure => simp [intOf]; omega
    · have hlt' : ¬ (k : Int) < xs.length := by omega
      have HT : Hid (xs.take k = xs) := Lib.hid (List.take_of_length_le (by omega))
      clear hb
      go_wp2_with fail
      go_ret
      exact ⟨⟨_, rfl, by have := HO.out; rw [HT.out] at this; exact this.lower BW.out.size⟩, BW.out.trans (HB.out.mono BW.out.size)⟩
theorem without_sl (xs : Ws) (v0 : Value) (w : World) (h : SlV w w.heap.size v0 xs) (hl : xs.length ≤ 900000) : Calls Tryz.prog 47 #[v0] w (SlPost (strL xs) w) :=
  (without_any xs v0 w h hl).mono fun _ _ ⟨⟨u, e, hu⟩, hb⟩ => ⟨⟨u, e, hu.sl⟩, hb⟩
theorem rlists_sl (n : ByteArray) (xs : Ws) (v0 : Value) (w : World) (h : RefV w w.heap.size v0 n xs) (hl : xs.length ≤ 900000) : Calls Tryz.prog 48 #[v0] w (SlPost (strL xs) w) :=
  (rlists_any n xs v0 w h hl).mono fun _ _ ⟨⟨u, e, hu⟩, hb⟩ => ⟨⟨u, e, hu.sl⟩, hb⟩
theorem en_without : ∀ (args : Array Value) (w : World), (callFunc 47 args).run Tryz.prog w = .ok (.enter 47 args) w := enters_of Tryz.func47 (by kernel_rfl) rfl
theorem en_equal : ∀ (args : Array Value) (w : World), (callFunc 46 args).run Tryz.prog w = .ok (.enter 46 args) w := enters_of Tryz.func46 (by kernel_rfl) rfl
theorem en_rlists : ∀ (args : Array Value) (w : World), (callFunc 48 args).run Tryz.prog w = .ok (.enter 48 args) w := enters_of Tryz.func48 (by kernel_rfl) rfl
theorem en_rsame : ∀ (args : Array Value) (w : World), (callFunc 40 args).run Tryz.prog w = .ok (.enter 40 args) w := enters_of Tryz.func40 (by kernel_rfl) rfl
set_option maxRecDepth 100000 in
set_option maxHeartbeats 2000000 in
theorem tshape_any (n m : ByteArray) (xs ys : Ws) (v u : Value) (w : World) (hx : RefV w w.heap.size v n xs) (hy : RefV w w.heap.size u m ys) (hl : xs.length ≤ 900000) (hl2 : ys.length ≤ 900000) : Calls Tryz.prog 28 #[v, u] w (BoolPost (decide (n = m ∧ strL xs = strL ys)) w) := by
  obtain ⟨A, c, rfl, hc, hi⟩ := hx
  obtain ⟨B, d, rfl, hd, hj⟩ := hy
  obtain ⟨x1, x2, x3, x4⟩ := BxR.both w (.string n) (.slice A xs.length c) (.string m) (.slice B ys.length d)
  have R0 : Hid (RefB ((w.alloc (.cells #[.string n, .slice A xs.length c] 24 (0, 0))).alloc (.cells #[.string m, .slice B ys.length d] 24 (0, 0))) w.heap.size n xs) := Lib.hid ⟨A, c, x1, hc, hi.stay x3⟩
  have S0 : Hid (RefB ((w.alloc (.cells #[.string n, .slice A xs.length c] 24 (0, 0))).alloc (.cells #[.string m, .slice B ys.length d] 24 (0, 0))) (w.heap.size + 1) m ys) := Lib.hid ⟨B, d, x2, hd, hj.stay x3⟩
  have B0 := Lib.hid x3
  have HLxs := Lib.hid hl
  have HLys := Lib.hid hl2
  have HLS : Hid ((strL xs).length ≤ 1000000) := Lib.hid (by have := str_le xs; omega)
  clear hc hd hi hj x1 x2 x3 x4 hl hl2
  by_cases hnm : n = m
  · have HNM := Lib.hid hnm
    have HV : Hid (decide (n = m ∧ strL xs = strL ys) = decide (strL xs = strL ys)) := Lib.hid (by simp [hnm])
    clear hnm
    go_enter Tryz.func28, Tryz.ntmps28
    go_wp2_with fail
    generalize ((w.alloc (.cells #[.string n, .slice A xs.length c] 24 (0, 0))).alloc (.cells #[.string m, .slice B ys.length d] 24 (0, 0))) = W0 at *
    refine wp_region_list (by kernel_rfl) (by kernel_rfl) (by kernel_rfl) [Fact.is (.pointer (some ⟨w.heap.size, 0, none⟩)), Fact.is (.string n), Fact.is (.pointer (some ⟨(w.heap.size + 1), 0, none⟩)), Fact.is (.string m), Fact.is (.bool true), Fact.is (.bool true), Fact.is (.pointer (some ⟨w.heap.size, 1, none⟩)), Fact.sl xs, Fact.sl (strL xs), Fact.is (.pointer (some ⟨(w.heap.size + 1), 1, none⟩)), Fact.sl ys, Fact.sl (strL ys), Fact.is (.bool (decide ((strL xs) = (strL ys)))), Fact.is (.bool (decide ((strL xs) = (strL ys)))), Fact.is (.bool (decide ((strL xs) = (strL ys))))] ?_ ?_
    · intro i o ho a wn hf hbl had
      have hi : i < 15 := (Array.getElem?_eq_some_iff.1 ho).1
      have hc : i = 0 ∨ i = 1 ∨ i = 2 ∨ i = 3 ∨ i = 4 ∨ i = 5 ∨ i = 6 ∨ i = 7 ∨ i = 8 ∨ i = 9 ∨ i = 10 ∨ i = 11 ∨ i = 12 ∨ i = 13 ∨ i = 14 := by omega
      rcases hc with rfl | rfl | rfl | rfl | rfl | rfl | rfl | rfl | rfl | rfl | rfl | rfl | rfl | rfl | rfl
      · cases ho
        have h0 : a.tmps.getD 2 undef = .pointer (some ⟨w.heap.size, 0, none⟩) := hf.slot 2 (by kernel_rfl)
        left
        exact rc_fa0 rfl (.tmp 2) rfl h0 ⟨Below.refl _ _, rfl⟩
      · cases ho
        have h0 : vof _ a 0 = .pointer (some ⟨w.heap.size, 0, none⟩) := had ⟨0, .data⟩ (by simp) rfl (by decide)
        left
        exact rk_ldS rfl (.tmp 5) rfl h0 (R0.out.stay hbl) ⟨Below.refl _ _, rfl⟩
      · cases ho
        have h0 : a.tmps.getD 3 undef = .pointer (some ⟨(w.heap.size + 1), 0, none⟩) := hf.slot 3 (by kernel_rfl)
        left
        exact rc_fa0 rfl (.tmp 3) rfl h0 ⟨Below.refl _ _, rfl⟩
      · cases ho
        have h0 : vof _ a 2 = .pointer (some ⟨(w.heap.size + 1), 0, none⟩) := had ⟨2, .data⟩ (by simp) rfl (by decide)
        left
        exact rk_ldS rfl (.tmp 7) rfl h0 (S0.out.stay hbl) ⟨Below.refl _ _, rfl⟩
      · cases ho
        have h0 : vof _ a 1 = .string n := had ⟨1, .data⟩ (by simp) rfl (by decide)
        have h1 : vof _ a 3 = .string m := had ⟨3, .data⟩ (by simp) rfl (by decide)
        left
        exact rk_eqlS rfl (.tmp 6) (.tmp 8) rfl h0 h1 (decide_eq_true HNM.out) ⟨Below.refl _ _, rfl⟩
      · cases ho
        have h0 : vof _ a 4 = .bool true := had ⟨4, .data⟩ (by simp) rfl (by decide)
        left
        exact rc_move rfl (.tmp 9) rfl h0 ⟨Below.refl _ _, rfl⟩
      · cases ho
        have hg : vof _ a 5 = .bool true := had ⟨5, .guard⟩ (by simp) rfl (by decide)
        have h0 : a.tmps.getD 2 undef = .pointer (some ⟨w.heap.size, 0, none⟩) := hf.slot 2 (by kernel_rfl)
        left
        exact rc_fa1 (want_if rfl hg) (.tmp 2) rfl h0 ⟨Below.refl _ _, rfl⟩
      · cases ho
        have hg : vof _ a 5 = .bool true := had ⟨5, .guard⟩ (by simp) rfl (by decide)
        have h0 : vof _ a 6 = .pointer (some ⟨w.heap.size, 1, none⟩) := had ⟨6, .data⟩ (by simp) rfl (by decide)
        left
        exact rk_ldI (want_if rfl hg) (.tmp 11) rfl h0 (R0.out.stay hbl) fun u hu => ⟨Below.refl _ _, hu⟩
      · cases ho
        have hg : vof _ a 5 = .bool true := had ⟨5, .guard⟩ (by simp) rfl (by decide)
        have h0 : SlV wn wn.heap.size (vof _ a 7) xs := had ⟨7, .data⟩ (by simp) rfl (by decide)
        left
        exact rk_call1 (want_if rfl hg) rfl en_without rfl ((without_sl xs _ wn h0 HLxs.out).mono fun e w1 ⟨⟨u, he, hu⟩, hb1⟩ => ⟨u, he, hb1, hu⟩)
      · cases ho
        have hg : vof _ a 5 = .bool true := had ⟨5, .guard⟩ (by simp) rfl (by decide)
        have h0 : a.tmps.getD 3 undef = .pointer (some ⟨(w.heap.size + 1), 0, none⟩) := hf.slot 3 (by kernel_rfl)
        left
        exact rc_fa1 (want_if rfl hg) (.tmp 3) rfl h0 ⟨Below.refl _ _, rfl⟩
      · cases ho
        have hg : vof _ a 5 = .bool true := had ⟨5, .guard⟩ (by simp) rfl (by decide)
        have h0 : vof _ a 9 = .pointer (some ⟨(w.heap.size + 1), 1, none⟩) := had ⟨9, .data⟩ (by simp) rfl (by decide)
        left
        exact rk_ldI (want_if rfl hg) (.tmp 14) rfl h0 (S0.out.stay hbl) fun u hu => ⟨Below.refl _ _, hu⟩
      · cases ho
        have hg : vof _ a 5 = .bool true := had ⟨5, .guard⟩ (by simp) rfl (by decide)
        have h0 : SlV wn wn.heap.size (vof _ a 10) ys := had ⟨10, .data⟩ (by simp) rfl (by decide)
        left
        exact rk_call1 (want_if rfl hg) rfl en_without rfl ((without_sl ys _ wn h0 HLys.out).mono fun e w1 ⟨⟨u, he, hu⟩, hb1⟩ => ⟨u, he, hb1, hu⟩)
      · cases ho
        have hg : vof _ a 5 = .bool true := had ⟨5, .guard⟩ (by simp) rfl (by decide)
        have h0 : SlV wn wn.heap.size (vof _ a 8) (strL xs) := had ⟨8, .data⟩ (by simp) rfl (by decide)
        have h1 : SlV wn wn.heap.size (vof _ a 11) (strL ys) := had ⟨11, .data⟩ (by simp) rfl (by decide)
        left
        exact rk_call2 (want_if rfl hg) rfl en_equal rfl rfl ((equal_any (strL xs) (strL ys) _ _ wn h0 h1 HLS.out).mono fun e w1 ⟨he, hb1⟩ => ⟨_, he, hb1, rfl⟩)
      · cases ho
        have h0 : vof _ a 5 = .bool true := had ⟨5, .data⟩ (by simp) rfl (by decide)
        have h1 : vof _ a 12 = .bool (decide ((strL xs) = (strL ys))) := had ⟨12, .data⟩ (by simp) rfl (by decide)
        left
        exact rk_pickT rfl (.tmp 10) _ _ rfl h0 h1 ⟨Below.refl _ _, rfl⟩
      · cases ho
        have h0 : vof _ a 13 = .bool (decide ((strL xs) = (strL ys))) := had ⟨13, .data⟩ (by simp) rfl (by decide)
        left
        exact rk_assign rfl (.tmp 18) rfl h0 ⟨Below.refl _ _, rfl⟩
    · intro a wn hf hbl hall
      have HB := Lib.hid (B0.out.trans (hbl.mono B0.out.size))
      clear hbl
      have ha := over_ofB hf [5, 6, 7, 8, 9, 10, 11, 12, 13, 14, 15, 16, 17, 18, 4] (by kernel_rfl)
      have q4 : (fun d => a.tmps.getD d undef) 4 = .bool (decide ((strL xs) = (strL ys))) := hall 14 (by decide)
      generalize (fun d => a.tmps.getD d undef) = f at ha q4
      subst ha
      clear hf hall
      simp only [over, List.foldl_cons, List.foldl_nil, Act.put, List.setIfInBounds_toArray, List.set_cons_succ, List.set_cons_zero]
      rw [q4]
      clear q4
      generalize f 5 = u5
      generalize f 6 = u6
      generalize f 7 = u7
      generalize f 8 = u8
      generalize f 9 = u9
      generalize f 10 = u10
      generalize f 11 = u11
      generalize f 12 = u12
      generalize f 13 = u13
      generalize f 14 = u14
      generalize f 15 = u15
      generalize f 16 = u16
      generalize f 17 = u17
      generalize f 18 = u18
      go_wp2_with fail
      exact bodyPost_ret (v := .bool (decide (strL xs = strL ys))) (by simp [results, Tryz.results28, go_sem]) rfl ⟨by rw [HV.out], HB.out⟩
  · have HNM := Lib.hid hnm
    have HV : Hid (decide (n = m ∧ strL xs = strL ys) = false) := Lib.hid (by simp [hnm])
    clear hnm
    go_enter Tryz.func28, Tryz.ntmps28
    go_wp2_with fail
    generalize ((w.alloc (.cells #[.string n, .slice A xs.length c] 24 (0, 0))).alloc (.cells #[.string m, .slice B ys.length d] 24 (0, 0))) = W0 at *
    refine wp_region_list (by kernel_rfl) (by kernel_rfl) (by kernel_rfl) [Fact.is (.pointer (some ⟨w.heap.size, 0, none⟩)), Fact.is (.string n), Fact.is (.pointer (some ⟨(w.heap.size + 1), 0, none⟩)), Fact.is (.string m), Fact.is (.bool false), Fact.is (.bool false), Fact.is undef, Fact.is undef, Fact.is undef, Fact.is undef, Fact.is undef, Fact.is undef, Fact.is undef, Fact.is (.bool false), Fact.is (.bool false)] ?_ ?_
    · intro i o ho a wn hf hbl had
      have hi : i < 15 := (Array.getElem?_eq_some_iff.1 ho).1
      have hc : i = 0 ∨ i = 1 ∨ i = 2 ∨ i = 3 ∨ i = 4 ∨ i = 5 ∨ i = 6 ∨ i = 7 ∨ i = 8 ∨ i = 9 ∨ i = 10 ∨ i = 11 ∨ i = 12 ∨ i = 13 ∨ i = 14 := by omega
      rcases hc with rfl | rfl | rfl | rfl | rfl | rfl | rfl | rfl | rfl | rfl | rfl | rfl | rfl | rfl | rfl
      · cases ho
        have h0 : a.tmps.getD 2 undef = .pointer (some ⟨w.heap.size, 0, none⟩) := hf.slot 2 (by kernel_rfl)
        left
        exact rc_fa0 rfl (.tmp 2) rfl h0 ⟨Below.refl _ _, rfl⟩
      · cases ho
        have h0 : vof _ a 0 = .pointer (some ⟨w.heap.size, 0, none⟩) := had ⟨0, .data⟩ (by simp) rfl (by decide)
        left
        exact rk_ldS rfl (.tmp 5) rfl h0 (R0.out.stay hbl) ⟨Below.refl _ _, rfl⟩
      · cases ho
        have h0 : a.tmps.getD 3 undef = .pointer (some ⟨(w.heap.size + 1), 0, none⟩) := hf.slot 3 (by kernel_rfl)
        left
        exact rc_fa0 rfl (.tmp 3) rfl h0 ⟨Below.refl _ _, rfl⟩
      · cases ho
        have h0 : vof _ a 2 = .pointer (some ⟨(w.heap.size + 1), 0, none⟩) := had ⟨2, .data⟩ (by simp) rfl (by decide)
        left
        exact rk_ldS rfl (.tmp 7) rfl h0 (S0.out.stay hbl) ⟨Below.refl _ _, rfl⟩
      · cases ho
        have h0 : vof _ a 1 = .string n := had ⟨1, .data⟩ (by simp) rfl (by decide)
        have h1 : vof _ a 3 = .string m := had ⟨3, .data⟩ (by simp) rfl (by decide)
        left
        exact rk_eqlS rfl (.tmp 6) (.tmp 8) rfl h0 h1 (decide_eq_false HNM.out) ⟨Below.refl _ _, rfl⟩
      · cases ho
        have h0 : vof _ a 4 = .bool false := had ⟨4, .data⟩ (by simp) rfl (by decide)
        left
        exact rc_move rfl (.tmp 9) rfl h0 ⟨Below.refl _ _, rfl⟩
      · cases ho
        have hg : vof _ a 5 = .bool false := had ⟨5, .guard⟩ (by simp) rfl (by decide)
        right
        exact ⟨want_not rfl hg (by decide), rfl⟩
      · cases ho
        have hg : vof _ a 5 = .bool false := had ⟨5, .guard⟩ (by simp) rfl (by decide)
        right
        exact ⟨want_not rfl hg (by decide), rfl⟩
      · cases ho
        have hg : vof _ a 5 = .bool false := had ⟨5, .guard⟩ (by simp) rfl (by decide)
        right
        exact ⟨want_not rfl hg (by decide), rfl⟩
      · cases ho
        have hg : vof _ a 5 = .bool false := had ⟨5, .guard⟩ (by simp) rfl (by decide)
        right
        exact ⟨want_not rfl hg (by decide), rfl⟩
      · cases ho
        have hg : vof _ a 5 = .bool false := had ⟨5, .guard⟩ (by simp) rfl (by decide)
        right
        exact ⟨want_not rfl hg (by decide), rfl⟩
      · cases ho
        have hg : vof _ a 5 = .bool false := had ⟨5, .guard⟩ (by simp) rfl (by decide)
        right
        exact ⟨want_not rfl hg (by decide), rfl⟩
      · cases ho
        have hg : vof _ a 5 = .bool false := had ⟨5, .guard⟩ (by simp) rfl (by decide)
        right
        exact ⟨want_not rfl hg (by decide), rfl⟩
      · cases ho
        have h0 : vof _ a 5 = .bool false := had ⟨5, .data⟩ (by simp) rfl (by decide)
        left
        exact rk_pickF rfl (.tmp 10) _ _ rfl h0 rfl ⟨Below.refl _ _, rfl⟩
      · cases ho
        have h0 : vof _ a 13 = .bool false := had ⟨13, .data⟩ (by simp) rfl (by decide)
        left
        exact rk_assign rfl (.tmp 18) rfl h0 ⟨Below.refl _ _, rfl⟩
    · intro a wn hf hbl hall
      have HB := Lib.hid (B0.out.trans (hbl.mono B0.out.size))
      clear hbl
      have ha := over_ofB hf [5, 6, 7, 8, 9, 10, 11, 12, 13, 14, 15, 16, 17, 18, 4] (by kernel_rfl)
      have q4 : (fun d => a.tmps.getD d undef) 4 = .bool false := hall 14 (by decide)
      generalize (fun d => a.tmps.getD d undef) = f at ha q4
      subst ha
      clear hf hall
      simp only [over, List.foldl_cons, List.foldl_nil, Act.put, List.setIfInBounds_toArray, List.set_cons_succ, List.set_cons_zero]
      rw [q4]
      clear q4
      generalize f 5 = u5
      generalize f 6 = u6
      generalize f 7 = u7
      generalize f 8 = u8
      generalize f 9 = u9
      generalize f 10 = u10
      generalize f 11 = u11
      generalize f 12 = u12
      generalize f 13 = u13
      generalize f 14 = u14
      generalize f 15 = u15
      generalize f 16 = u16
      generalize f 17 = u17
      generalize f 18 = u18
      go_wp2_with fail
      exact bodyPost_ret (v := .bool false) (by simp [results, Tryz.results28, go_sem]) rfl ⟨by rw [HV.out], HB.out⟩
set_option maxRecDepth 100000 in
set_option maxHeartbeats 2000000 in
theorem rshape_any (n m : ByteArray) (xs ys : Ws) (v u : Value) (w : World) (hx : RefV w w.heap.size v n xs) (hy : RefV w w.heap.size u m ys) (hl : xs.length ≤ 900000) (hl2 : ys.length ≤ 900000) : Calls Tryz.prog 29 #[v, u] w (BoolPost (decide (n = m ∧ strL xs = strL ys)) w) := by
  obtain ⟨A, c, rfl, hc, hi⟩ := hx
  obtain ⟨B, d, rfl, hd, hj⟩ := hy
  obtain ⟨x1, x2, x3, x4⟩ := BxR.both w (.string n) (.slice A xs.length c) (.string m) (.slice B ys.length d)
  have R0 : Hid (RefB ((w.alloc (.cells #[.string n, .slice A xs.length c] 24 (0, 0))).alloc (.cells #[.string m, .slice B ys.length d] 24 (0, 0))) w.heap.size n xs) := Lib.hid ⟨A, c, x1, hc, hi.stay x3⟩
  have S0 : Hid (RefB ((w.alloc (.cells #[.string n, .slice A xs.length c] 24 (0, 0))).alloc (.cells #[.string m, .slice B ys.length d] 24 (0, 0))) (w.heap.size + 1) m ys) := Lib.hid ⟨B, d, x2, hd, hj.stay x3⟩
  have B0 := Lib.hid x3
  have HLxs := Lib.hid hl
  have HLys := Lib.hid hl2
  have HLS : Hid ((strL xs).length ≤ 1000000) := Lib.hid (by have := str_le xs; omega)
  clear hc hd hi hj x1 x2 x3 x4 hl hl2
  by_cases hnm : n = m
  · have HNM := Lib.hid hnm
    have HV : Hid (decide (n = m ∧ strL xs = strL ys) = decide (strL xs = strL ys)) := Lib.hid (by simp [hnm])
    clear hnm
    go_enter Tryz.func29, Tryz.ntmps29
    go_wp2_with fail
    generalize ((w.alloc (.cells #[.string n, .slice A xs.length c] 24 (0, 0))).alloc (.cells #[.string m, .slice B ys.length d] 24 (0, 0))) = W0 at *
    refine wp_region_list (by kernel_rfl) (by kernel_rfl) (by kernel_rfl) [Fact.is (.pointer (some ⟨w.heap.size, 0, none⟩)), Fact.is (.string n), Fact.is (.pointer (some ⟨(w.heap.size + 1), 0, none⟩)), Fact.is (.string m), Fact.is (.bool true), Fact.is (.bool true), Fact.ref n xs, Fact.sl (strL xs), Fact.ref m ys, Fact.sl (strL ys), Fact.is (.bool (decide ((strL xs) = (strL ys)))), Fact.is (.bool (decide ((strL xs) = (strL ys)))), Fact.is (.bool (decide ((strL xs) = (strL ys))))] ?_ ?_
    · intro i o ho a wn hf hbl had
      have hi : i < 13 := (Array.getElem?_eq_some_iff.1 ho).1
      have hc : i = 0 ∨ i = 1 ∨ i = 2 ∨ i = 3 ∨ i = 4 ∨ i = 5 ∨ i = 6 ∨ i = 7 ∨ i = 8 ∨ i = 9 ∨ i = 10 ∨ i = 11 ∨ i = 12 := by omega
      rcases hc with rfl | rfl | rfl | rfl | rfl | rfl | rfl | rfl | rfl | rfl | rfl | rfl | rfl
      · cases ho
        have h0 : a.tmps.getD 2 undef = .pointer (some ⟨w.heap.size, 0, none⟩) := hf.slot 2 (by kernel_rfl)
        left
        exact rc_fa0 rfl (.tmp 2) rfl h0 ⟨Below.refl _ _, rfl⟩
      · cases ho
        have h0 : vof _ a 0 = .pointer (some ⟨w.heap.size, 0, none⟩) := had ⟨0, .data⟩ (by simp) rfl (by decide)
        left
        exact rk_ldS rfl (.tmp 5) rfl h0 (R0.out.stay hbl) ⟨Below.refl _ _, rfl⟩
      · cases ho
        have h0 : a.tmps.getD 3 undef = .pointer (some ⟨(w.heap.size + 1), 0, none⟩) := hf.slot 3 (by kernel_rfl)
        left
        exact rc_fa0 rfl (.tmp 3) rfl h0 ⟨Below.refl _ _, rfl⟩
      · cases ho
        have h0 : vof _ a 2 = .pointer (some ⟨(w.heap.size + 1), 0, none⟩) := had ⟨2, .data⟩ (by simp) rfl (by decide)
        left
        exact rk_ldS rfl (.tmp 7) rfl h0 (S0.out.stay hbl) ⟨Below.refl _ _, rfl⟩
      · cases ho
        have h0 : vof _ a 1 = .string n := had ⟨1, .data⟩ (by simp) rfl (by decide)
        have h1 : vof _ a 3 = .string m := had ⟨3, .data⟩ (by simp) rfl (by decide)
        left
        exact rk_eqlS rfl (.tmp 6) (.tmp 8) rfl h0 h1 (decide_eq_true HNM.out) ⟨Below.refl _ _, rfl⟩
      · cases ho
        have h0 : vof _ a 4 = .bool true := had ⟨4, .data⟩ (by simp) rfl (by decide)
        left
        exact rc_move rfl (.tmp 9) rfl h0 ⟨Below.refl _ _, rfl⟩
      · cases ho
        have hg : vof _ a 5 = .bool true := had ⟨5, .guard⟩ (by simp) rfl (by decide)
        have h0 : a.tmps.getD 2 undef = .pointer (some ⟨w.heap.size, 0, none⟩) := hf.slot 2 (by kernel_rfl)
        left
        exact rk_ldR (want_if rfl hg) (.tmp 2) rfl h0 (R0.out.stay hbl) fun u hu => ⟨Below.refl _ _, hu⟩
      · cases ho
        have hg : vof _ a 5 = .bool true := had ⟨5, .guard⟩ (by simp) rfl (by decide)
        have h0 : RefV wn wn.heap.size (vof _ a 6) n xs := had ⟨6, .data⟩ (by simp) rfl (by decide)
        left
        exact rk_call1 (want_if rfl hg) rfl en_rlists rfl ((rlists_sl n xs _ wn h0 HLxs.out).mono fun e w1 ⟨⟨u, he, hu⟩, hb1⟩ => ⟨u, he, hb1, hu⟩)
      · cases ho
        have hg : vof _ a 5 = .bool true := had ⟨5, .guard⟩ (by simp) rfl (by decide)
        have h0 : a.tmps.getD 3 undef = .pointer (some ⟨(w.heap.size + 1), 0, none⟩) := hf.slot 3 (by kernel_rfl)
        left
        exact rk_ldR (want_if rfl hg) (.tmp 3) rfl h0 (S0.out.stay hbl) fun u hu => ⟨Below.refl _ _, hu⟩
      · cases ho
        have hg : vof _ a 5 = .bool true := had ⟨5, .guard⟩ (by simp) rfl (by decide)
        have h0 : RefV wn wn.heap.size (vof _ a 8) m ys := had ⟨8, .data⟩ (by simp) rfl (by decide)
        left
        exact rk_call1 (want_if rfl hg) rfl en_rlists rfl ((rlists_sl m ys _ wn h0 HLys.out).mono fun e w1 ⟨⟨u, he, hu⟩, hb1⟩ => ⟨u, he, hb1, hu⟩)
      · cases ho
        have hg : vof _ a 5 = .bool true := had ⟨5, .guard⟩ (by simp) rfl (by decide)
        have h0 : SlV wn wn.heap.size (vof _ a 7) (strL xs) := had ⟨7, .data⟩ (by simp) rfl (by decide)
        have h1 : SlV wn wn.heap.size (vof _ a 9) (strL ys) := had ⟨9, .data⟩ (by simp) rfl (by decide)
        left
        exact rk_call2 (want_if rfl hg) rfl en_rsame rfl rfl ((same_any (strL xs) (strL ys) _ _ wn h0 h1 HLS.out).mono fun e w1 ⟨he, hb1⟩ => ⟨_, he, hb1, rfl⟩)
      · cases ho
        have h0 : vof _ a 5 = .bool true := had ⟨5, .data⟩ (by simp) rfl (by decide)
        have h1 : vof _ a 10 = .bool (decide ((strL xs) = (strL ys))) := had ⟨10, .data⟩ (by simp) rfl (by decide)
        left
        exact rk_pickT rfl (.tmp 10) _ _ rfl h0 h1 ⟨Below.refl _ _, rfl⟩
      · cases ho
        have h0 : vof _ a 11 = .bool (decide ((strL xs) = (strL ys))) := had ⟨11, .data⟩ (by simp) rfl (by decide)
        left
        exact rk_assign rfl (.tmp 16) rfl h0 ⟨Below.refl _ _, rfl⟩
    · intro a wn hf hbl hall
      have HB := Lib.hid (B0.out.trans (hbl.mono B0.out.size))
      clear hbl
      have ha := over_ofB hf [5, 6, 7, 8, 9, 10, 11, 12, 13, 14, 15, 16, 4] (by kernel_rfl)
      have q4 : (fun d => a.tmps.getD d undef) 4 = .bool (decide ((strL xs) = (strL ys))) := hall 12 (by decide)
      generalize (fun d => a.tmps.getD d undef) = f at ha q4
      subst ha
      clear hf hall
      simp only [over, List.foldl_cons, List.foldl_nil, Act.put, List.setIfInBounds_toArray, List.set_cons_succ, List.set_cons_zero]
      rw [q4]
      clear q4
      generalize f 5 = u5
      generalize f 6 = u6
      generalize f 7 = u7
      generalize f 8 = u8
      generalize f 9 = u9
      generalize f 10 = u10
      generalize f 11 = u11
      generalize f 12 = u12
      generalize f 13 = u13
      generalize f 14 = u14
      generalize f 15 = u15
      generalize f 16 = u16
      go_wp2_with fail
      exact bodyPost_ret (v := .bool (decide (strL xs = strL ys))) (by simp [results, Tryz.results29, go_sem]) rfl ⟨by rw [HV.out], HB.out⟩
  · have HNM := Lib.hid hnm
    have HV : Hid (decide (n = m ∧ strL xs = strL ys) = false) := Lib.hid (by simp [hnm])
    clear hnm
    go_enter Tryz.func29, Tryz.ntmps29
    go_wp2_with fail
    generalize ((w.alloc (.cells #[.string n, .slice A xs.length c] 24 (0, 0))).alloc (.cells #[.string m, .slice B ys.length d] 24 (0, 0))) = W0 at *
    refine wp_region_list (by kernel_rfl) (by kernel_rfl) (by kernel_rfl) [Fact.is (.pointer (some ⟨w.heap.size, 0, none⟩)), Fact.is (.string n), Fact.is (.pointer (some ⟨(w.heap.size + 1), 0, none⟩)), Fact.is (.string m), Fact.is (.bool false), Fact.is (.bool false), Fact.is undef, Fact.is undef, Fact.is undef, Fact.is undef, Fact.is undef, Fact.is (.bool false), Fact.is (.bool false)] ?_ ?_
    · intro i o ho a wn hf hbl had
      have hi : i < 13 := (Array.getElem?_eq_some_iff.1 ho).1
      have hc : i = 0 ∨ i = 1 ∨ i = 2 ∨ i = 3 ∨ i = 4 ∨ i = 5 ∨ i = 6 ∨ i = 7 ∨ i = 8 ∨ i = 9 ∨ i = 10 ∨ i = 11 ∨ i = 12 := by omega
      rcases hc with rfl | rfl | rfl | rfl | rfl | rfl | rfl | rfl | rfl | rfl | rfl | rfl | rfl
      · cases ho
        have h0 : a.tmps.getD 2 undef = .pointer (some ⟨w.heap.size, 0, none⟩) := hf.slot 2 (by kernel_rfl)
        left
        exact rc_fa0 rfl (.tmp 2) rfl h0 ⟨Below.refl _ _, rfl⟩
      · cases ho
        have h0 : vof _ a 0 = .pointer (some ⟨w.heap.size, 0, none⟩) := had ⟨0, .data⟩ (by simp) rfl (by decide)
        left
        exact rk_ldS rfl (.tmp 5) rfl h0 (R0.out.stay hbl) ⟨Below.refl _ _, rfl⟩
      · cases ho
        have h0 : a.tmps.getD 3 undef = .pointer (some ⟨(w.heap.size + 1), 0, none⟩) := hf.slot 3 (by kernel_rfl)
        left
        exact rc_fa0 rfl (.tmp 3) rfl h0 ⟨Below.refl _ _, rfl⟩
      · cases ho
        have h0 : vof _ a 2 = .pointer (some ⟨(w.heap.size + 1), 0, none⟩) := had ⟨2, .data⟩ (by simp) rfl (by decide)
        left
        exact rk_ldS rfl (.tmp 7) rfl h0 (S0.out.stay hbl) ⟨Below.refl _ _, rfl⟩
      · cases ho
        have h0 : vof _ a 1 = .string n := had ⟨1, .data⟩ (by simp) rfl (by decide)
        have h1 : vof _ a 3 = .string m := had ⟨3, .data⟩ (by simp) rfl (by decide)
        left
        exact rk_eqlS rfl (.tmp 6) (.tmp 8) rfl h0 h1 (decide_eq_false HNM.out) ⟨Below.refl _ _, rfl⟩
      · cases ho
        have h0 : vof _ a 4 = .bool false := had ⟨4, .data⟩ (by simp) rfl (by decide)
        left
        exact rc_move rfl (.tmp 9) rfl h0 ⟨Below.refl _ _, rfl⟩
      · cases ho
        have hg : vof _ a 5 = .bool false := had ⟨5, .guard⟩ (by simp) rfl (by decide)
        right
        exact ⟨want_not rfl hg (by decide), rfl⟩
      · cases ho
        have hg : vof _ a 5 = .bool false := had ⟨5, .guard⟩ (by simp) rfl (by decide)
        right
        exact ⟨want_not rfl hg (by decide), rfl⟩
      · cases ho
        have hg : vof _ a 5 = .bool false := had ⟨5, .guard⟩ (by simp) rfl (by decide)
        right
        exact ⟨want_not rfl hg (by decide), rfl⟩
      · cases ho
        have hg : vof _ a 5 = .bool false := had ⟨5, .guard⟩ (by simp) rfl (by decide)
        right
        exact ⟨want_not rfl hg (by decide), rfl⟩
      · cases ho
        have hg : vof _ a 5 = .bool false := had ⟨5, .guard⟩ (by simp) rfl (by decide)
        right
        exact ⟨want_not rfl hg (by decide), rfl⟩
      · cases ho
        have h0 : vof _ a 5 = .bool false := had ⟨5, .data⟩ (by simp) rfl (by decide)
        left
        exact rk_pickF rfl (.tmp 10) _ _ rfl h0 rfl ⟨Below.refl _ _, rfl⟩
      · cases ho
        have h0 : vof _ a 11 = .bool false := had ⟨11, .data⟩ (by simp) rfl (by decide)
        left
        exact rk_assign rfl (.tmp 16) rfl h0 ⟨Below.refl _ _, rfl⟩
    · intro a wn hf hbl hall
      have HB := Lib.hid (B0.out.trans (hbl.mono B0.out.size))
      clear hbl
      have ha := over_ofB hf [5, 6, 7, 8, 9, 10, 11, 12, 13, 14, 15, 16, 4] (by kernel_rfl)
      have q4 : (fun d => a.tmps.getD d undef) 4 = .bool false := hall 12 (by decide)
      generalize (fun d => a.tmps.getD d undef) = f at ha q4
      subst ha
      clear hf hall
      simp only [over, List.foldl_cons, List.foldl_nil, Act.put, List.setIfInBounds_toArray, List.set_cons_succ, List.set_cons_zero]
      rw [q4]
      clear q4
      generalize f 5 = u5
      generalize f 6 = u6
      generalize f 7 = u7
      generalize f 8 = u8
      generalize f 9 = u9
      generalize f 10 = u10
      generalize f 11 = u11
      generalize f 12 = u12
      generalize f 13 = u13
      generalize f 14 = u14
      generalize f 15 = u15
      generalize f 16 = u16
      go_wp2_with fail
      exact bodyPost_ret (v := .bool false) (by simp [results, Tryz.results29, go_sem]) rfl ⟨by rw [HV.out], HB.out⟩
end Go.Proofs.YtgicbmibhnnflaaGreatDoor
