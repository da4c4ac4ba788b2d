
/-
  The method that reads a value; Parse.
-/
import Derived.Test.YtcbajgcblfgmgaaGreatDoorJObj2
namespace Go.Proofs.YtcbajgcblfgmgaaGreatDoor
open Go.RowKit
theorem rdS_leaf (w : World) (S : Nat → Prop) {k n : Int} {s : ByteArray} (hk : small k) (hn : small n) (hs : s.size ≤ 140737488351232) : RdS w S (.agg #[.int .i64 k, .int .i64 n, .string s, .slice none 0 0, .slice none 0 0]) (.mk k n s [] []) :=
  .mk (fun _ => undef) hk hn hs (by simp) rfl rfl (by omega) (by omega) (fun h => by omega) (fun i t h => by simp at h) (fun h => by simp at h)
theorem rdS_five {w : World} {N M : Nat} {v : Value} {t : VT} (h : RdS w (Fresh M w) v t) (hNM : N < M) (_ : N ≤ M) (u0 u1 u2 u3 u4 : Value) : RdS (((((w.setCell ⟨N, 0, none⟩ u0).setCell ⟨N, 1, none⟩ u1).setCell ⟨N, 2, none⟩ u2).setCell ⟨N, 3, none⟩ u3).setCell ⟨N, 4, none⟩ u4) (Fresh N (((((w.setCell ⟨N, 0, none⟩ u0).setCell ⟨N, 1, none⟩ u1).setCell ⟨N, 2, none⟩ u2).setCell ⟨N, 3, none⟩ u3).setCell ⟨N, 4, none⟩ u4)) v t := by
  refine h.kept (fun b hb => ?_) (fun b hb => ?_)
  · have hk : b ≠ N := by have := hb.1; omega
    rw [Below.heap_setCell _ _ _ _ hk, Below.heap_setCell _ _ _ _ hk, Below.heap_setCell _ _ _ _ hk, Below.heap_setCell _ _ _ _ hk, Below.heap_setCell _ _ _ _ hk]
  · exact ⟨by have := hb.1; omega, by have := hb.2; simpa [World.setCell] using this⟩
theorem wordR_ge (s : ByteArray) : ∀ (l : List UInt8) (i : Nat) {j : Nat}, wordR s l i = .ok j → i ≤ j
  | [], i, j, h => by cases h; exact Nat.le_refl _
  | c :: r, i, j, h => by
    unfold wordR at h
    split at h
    · next k hk =>
      have h2 := wordR_ge s r k h
      unfold takeR at hk
      split at hk
      · cases hk; omega
      · cases hk
    · cases h
theorem intR_ge {s : ByteArray} {i j : Nat} {t : VT} (h : intR s i = .ok (t, j)) : i ≤ j := by
  have h1 : ∀ i1, i ≤ i1 → i ≤ (if bt s i1 = 48 then i1 + 1 else sk dgL s (i1 + 1)) := fun i1 h => by
    have := sk_le dgL s (i1 + 1)
    split <;> omega
  have key : ∀ (i1 : Nat) (set : List UInt8) (i3 : Nat), i ≤ i3 → (if isIn set (bt s i1) = true then (if (T1.numL (sub s i i3)).2 = 0 then Except.ok (intT (T1.numL (sub s i i3)).1, i3) else Except.error (i, (T1.numL (sub s i i3)).2)) else Except.error (i1, 3)) = (Except.ok (t, j) : Except Er (VT × Nat)) → i ≤ j := by
    intro i1 set i3 h3 h
    by_cases e1 : isIn set (bt s i1) = true
    · rw [if_pos e1] at h
      by_cases e2 : (T1.numL (sub s i i3)).2 = 0
      · rw [if_pos e2] at h
        cases h
        exact h3
      · rw [if_neg e2] at h; cases h
    · rw [if_neg e1] at h; cases h
  exact key _ _ _ (h1 _ (by split <;> omega)) h
set_option maxRecDepth 100000 in
set_option maxHeartbeats 8000000 in
theorem val_any (p : Nat) (s : ByteArray) : ∀ (f level : Nat), level ≤ 25 → ValAt p s f level
  | 0, level, _ => fun i n w h _ hf => by have := h.hi; omega
  | f + 1, level, hl => fun i n w h hn hf => by
    have ih := val_any p s f
    have hpw := h.lt
    have hi := h.hi
    have bz : Below w.heap.size w (w.alloc (.cells #[.int .i64 0, .int .i64 0, .string ⟨#[]⟩, .slice none 0 0, .slice none 0 0] 26 (0, 0))) := (Below.refl _ _).alloc (Nat.le_refl _) _
    have HP0 := Lib.hid (h.kept bz)
    have Y0 := Lib.hid (Box.new w (.int .i64 0) (.int .i64 0) (.string ⟨#[]⟩) (.slice none 0 0) (.slice none 0 0))
    have HB0 := Lib.hid (Bes.of (p := p) bz)
    clear h bz
    go_enter Tryz.func9, Tryz.ntmps9
    go_wp2_with fail
    refine (skip_any HP0.out ⟨#[32, 9, 10, 13]⟩ (by decide)).mono ?_
    rintro e w1 ⟨rfl, hp1, hb1⟩
    have hp1 : PS w1 p s (sk spL s i) n 0 0 := hp1
    have hsk := sk_le spL s i
    have hPV : pv s (f + 1) level i n = match beginR s level (sk spL s i) n with
      | .error e => .error e
      | .ok n1 =>
        if bt s (sk spL s i) = 110 then (match wordR s [110, 117, 108, 108] (sk spL s i) with | .error e => .error e | .ok j => .ok (nullT, j, n1))
        else if bt s (sk spL s i) = 102 then (match wordR s [102, 97, 108, 115, 101] (sk spL s i) with | .error e => .error e | .ok j => .ok (boolT 0, j, n1))
        else if bt s (sk spL s i) = 116 then (match wordR s [116, 114, 117, 101] (sk spL s i) with | .error e => .error e | .ok j => .ok (boolT 1, j, n1))
        else if bt s (sk spL s i) = 34 then (match litR s (sk spL s i) with | .error e => .error e | .ok (x, j) => .ok (textT x, j, n1))
        else if bt s (sk spL s i) = 91 then (match els s 93 (stepL (pv s f (level + 1))) [] (sk spL s i) n1 with | .error e => .error e | .ok (a, j, n2) => .ok (.mk 5 0 ⟨#[]⟩ a [], j, n2))
        else if bt s (sk spL s i) = 123 then (match els s 125 (stepO s (pv s f (level + 1))) ([], []) (sk spL s i) n1 with | .error e => .error e | .ok (a, j, n2) => .ok (.mk 6 0 ⟨#[]⟩ a.2 a.1, j, n2))
        else (match intR s (sk spL s i) with | .error e => .error e | .ok (t, j) => .ok (t, j, n1)) := rfl
    have HPV0 := Lib.hid hPV
    clear hPV
    generalize sk spL s i = i0 at *
    have HP1 := Lib.hid hp1
    have HB1 := Lib.hid (HB0.out.trans (hb1.mono HB0.out.size))
    have Y1 := Lib.hid (Box.bes Y0.out hb1 Y0.out.lt hpw)
    clear hp1 hb1 HP0 Y0 HB0
    go_wp2_with fail
    refine (begin_any HP1.out hn level hl).mono ?_
    rintro e w2 ⟨h2, hb2⟩
    have HB2 := Lib.hid (HB1.out.trans (hb2.mono HB1.out.size))
    have Y2 := Lib.hid (Box.bes Y1.out hb2 Y1.out.lt hpw)
    clear hb2
    cases hbr : beginR s level i0 n with
    | error x =>
      rw [hbr] at h2
      obtain ⟨rfl, m, hp2⟩ := h2
      have E1 : Hid (pv s (f + 1) level i n = .error x) := Lib.hid (by rw [HPV0.out, hbr])
      have HP2 := Lib.hid hp2
      clear hp2 hbr
      obtain ⟨y0, y1, y2, y3, y4⟩ := Y2.out.cells
      have g0 := Y2.out.frz 0
      have g1 := Y2.out.frz 1
      have g2 := Y2.out.frz 2
      have g3 := Y2.out.frz 3
      have g4 := Y2.out.frz 4
      have ZZ := Lib.hid (Box.five Y2.out (.int .i64 0) (.int .i64 0) (.string ⟨#[]⟩) (.slice none 0 0) (.slice none 0 0)).cells
      go_wp2_with fail
      obtain ⟨z0, z1, z2, z3, z4⟩ := ZZ.out
      refine bodyPost_ret (v := .tuple #[zeroV, .bool false]) (by simp [results, Tryz.results9, go_sem, zeroV, z0, z1, z2, z3, z4]) rfl (.inr ⟨x, i0, m, _, E1.out, rfl, ⟨_, _, _, _, _, _, _, _, _, rfl⟩, ?_, ?_⟩)
      · exact PS.five HP2.out hpw _ _ _ _ _
      · exact Bes.five HB2.out (Nat.le_refl _) _ _ _ _ _
    | ok m =>
      rw [hbr] at h2
      obtain ⟨rfl, hp2⟩ := h2
      have hlm : level ≤ 24 ∧ m = n + 1 ∧ n + 1 ≤ 4096 := by
        unfold beginR at hbr
        split at hbr
        · cases hbr
        · split at hbr
          · cases hbr
          · split at hbr
            · cases hbr
            · cases hbr; exact ⟨by omega, rfl, by omega⟩
      obtain ⟨hl24, rfl, hn1⟩ := hlm
      have HPV : Hid (pv s (f + 1) level i n = (if bt s i0 = 110 then (match wordR s [110, 117, 108, 108] i0 with | .error e => .error e | .ok j => .ok (nullT, j, n + 1))
        else if bt s i0 = 102 then (match wordR s [102, 97, 108, 115, 101] i0 with | .error e => .error e | .ok j => .ok (boolT 0, j, n + 1))
        else if bt s i0 = 116 then (match wordR s [116, 114, 117, 101] i0 with | .error e => .error e | .ok j => .ok (boolT 1, j, n + 1))
        else if bt s i0 = 34 then (match litR s i0 with | .error e => .error e | .ok (x, j) => .ok (textT x, j, n + 1))
        else if bt s i0 = 91 then (match els s 93 (stepL (pv s f (level + 1))) [] i0 (n + 1) with | .error e => .error e | .ok (a, j, n2) => .ok (.mk 5 0 ⟨#[]⟩ a [], j, n2))
        else if bt s i0 = 123 then (match els s 125 (stepO s (pv s f (level + 1))) ([], []) i0 (n + 1) with | .error e => .error e | .ok (a, j, n2) => .ok (.mk 6 0 ⟨#[]⟩ a.2 a.1, j, n2))
        else (match intR s i0 with | .error e => .error e | .ok (t, j) => .ok (t, j, n + 1)))) := Lib.hid (by rw [HPV0.out, hbr])
      have HP2 := Lib.hid hp2
      clear hp2 hbr HPV0
      go_wp2_with fail
      refine (next_any HP2.out).mono ?_
      rintro e w4 ⟨rfl, hb⟩
      have HP4 := Lib.hid (HP2.out.kept hb)
      have HB4 := Lib.hid (HB2.out.trans ((Bes.of hb).mono HB2.out.size))
      have Y4 := Lib.hid (Y2.out.kept hb)
      clear hb HP1 HB1 Y1 HP2 HB2 Y2
      by_cases h110 : bt s i0 = 110
      · have hb110 : (((bt s i0).toNat : Int) == 110) = true := u8_beq' 110 h110
        have EV : Hid (pv s (f + 1) level i n = (match wordR s [110, 117, 108, 108] i0 with | .error e => .error e | .ok j => .ok (nullT, j, n + 1))) := Lib.hid (by rw [HPV.out]; exact (by rw [if_pos h110]))
        clear h110
        go_wp2_with fail
        refine (word_any HP4.out ⟨#[110, 117, 108, 108]⟩ (by decide) (by decide)).mono ?_
        intro e w5 hh
        obtain ⟨j1, hr, rfl, hp, hb⟩ | ⟨x, j1, hr, rfl, hp, hb⟩ := hh.parts
        · have hr : wordR s [110, 117, 108, 108] i0 = .ok j1 := hr
          have E1 : Hid (pv s (f + 1) level i n = .ok (nullT, j1, n + 1)) := Lib.hid (by rw [EV.out, hr])
          have hge := wordR_ge _ _ _ hr
          have HP5 := Lib.hid hp
          have HB5 := Lib.hid (HB4.out.trans (hb.mono HB4.out.size))
          have Y5 := Lib.hid (Box.bes Y4.out hb Y4.out.lt hpw)
          clear hp hb hr hh
          obtain ⟨y0, y1, y2, y3, y4⟩ := Y5.out.cells
          have g0 := Y5.out.frz 0
          have g1 := Y5.out.frz 1
          have g2 := Y5.out.frz 2
          have g3 := Y5.out.frz 3
          have g4 := Y5.out.frz 4
          have ZZ := Lib.hid (Box.five Y5.out (.int .i64 0) (.int .i64 0) (.string ⟨#[]⟩) (.slice none 0 0) (.slice none 0 0)).cells
          go_wp2_with fail
          obtain ⟨z0, z1, z2, z3, z4⟩ := ZZ.out
          refine bodyPost_ret (v := .tuple #[.agg #[.int .i64 0, .int .i64 0, .string ⟨#[]⟩, .slice none 0 0, .slice none 0 0], .bool true]) (by simp [results, Tryz.results9, go_sem, z0, z1, z2, z3, z4]) rfl (.inl ⟨_, j1, n + 1, _, E1.out, rfl, rdS_leaf _ _ (by unfold small; omega) (by unfold small; omega) (by decide), ?_, ?_, by omega, by omega, hn1⟩)
          · exact PS.five HP5.out hpw _ _ _ _ _
          · exact Bes.five HB5.out (Nat.le_refl _) _ _ _ _ _
        · have hr : wordR s [110, 117, 108, 108] i0 = .error x := hr
          have E1 : Hid (pv s (f + 1) level i n = .error x) := Lib.hid (by rw [EV.out, hr])
          have HP5 := Lib.hid hp
          have HB5 := Lib.hid (HB4.out.trans (hb.mono HB4.out.size))
          have Y5 := Lib.hid (Box.bes Y4.out hb Y4.out.lt hpw)
          clear hp hb hr hh
          obtain ⟨y0, y1, y2, y3, y4⟩ := Y5.out.cells
          have g0 := Y5.out.frz 0
          have g1 := Y5.out.frz 1
          have g2 := Y5.out.frz 2
          have g3 := Y5.out.frz 3
          have g4 := Y5.out.frz 4
          have ZZ := Lib.hid (Box.five Y5.out (.int .i64 0) (.int .i64 0) (.string ⟨#[]⟩) (.slice none 0 0) (.slice none 0 0)).cells
          go_wp2_with fail
          obtain ⟨z0, z1, z2, z3, z4⟩ := ZZ.out
          refine bodyPost_ret (v := .tuple #[.agg #[.int .i64 0, .int .i64 0, .string ⟨#[]⟩, .slice none 0 0, .slice none 0 0], .bool false]) (by simp [results, Tryz.results9, go_sem, z0, z1, z2, z3, z4]) rfl (.inr ⟨x, j1, n + 1, _, E1.out, rfl, ⟨_, _, _, _, _, _, _, _, _, rfl⟩, ?_, ?_⟩)
          · exact PS.five HP5.out hpw _ _ _ _ _
          · exact Bes.five HB5.out (Nat.le_refl _) _ _ _ _ _
      by_cases h102 : bt s i0 = 102
      · have hb110 : (((bt s i0).toNat : Int) == 110) = false := u8_beq 110 h110
        have hb102 : (((bt s i0).toNat : Int) == 102) = true := u8_beq' 102 h102
        have EV : Hid (pv s (f + 1) level i n = (match wordR s [102, 97, 108, 115, 101] i0 with | .error e => .error e | .ok j => .ok (boolT 0, j, n + 1))) := Lib.hid (by rw [HPV.out]; exact (by rw [if_neg h110, if_pos h102]))
        clear h110 h102
        go_wp2_with fail
        refine (word_any HP4.out ⟨#[102, 97, 108, 115, 101]⟩ (by decide) (by decide)).mono ?_
        intro e w5 hh
        obtain ⟨j1, hr, rfl, hp, hb⟩ | ⟨x, j1, hr, rfl, hp, hb⟩ := hh.parts
        · have hr : wordR s [102, 97, 108, 115, 101] i0 = .ok j1 := hr
          have E1 : Hid (pv s (f + 1) level i n = .ok (boolT 0, j1, n + 1)) := Lib.hid (by rw [EV.out, hr])
          have hge := wordR_ge _ _ _ hr
          have HP5 := Lib.hid hp
          have HB5 := Lib.hid (HB4.out.trans (hb.mono HB4.out.size))
          have Y5 := Lib.hid (Box.bes Y4.out hb Y4.out.lt hpw)
          clear hp hb hr hh
          obtain ⟨y0, y1, y2, y3, y4⟩ := Y5.out.cells
          have g0 := Y5.out.frz 0
          have g1 := Y5.out.frz 1
          have g2 := Y5.out.frz 2
          have g3 := Y5.out.frz 3
          have g4 := Y5.out.frz 4
          have ZZ := Lib.hid (Box.five Y5.out (.int .i64 1) (.int .i64 0) (.string ⟨#[]⟩) (.slice none 0 0) (.slice none 0 0)).cells
          go_wp2_with fail
          obtain ⟨z0, z1, z2, z3, z4⟩ := ZZ.out
          refine bodyPost_ret (v := .tuple #[.agg #[.int .i64 1, .int .i64 0, .string ⟨#[]⟩, .slice none 0 0, .slice none 0 0], .bool true]) (by simp [results, Tryz.results9, go_sem, z0, z1, z2, z3, z4]) rfl (.inl ⟨_, j1, n + 1, _, E1.out, rfl, rdS_leaf _ _ (by unfold small; omega) (by unfold small; omega) (by decide), ?_, ?_, by omega, by omega, hn1⟩)
          · exact PS.five HP5.out hpw _ _ _ _ _
          · exact Bes.five HB5.out (Nat.le_refl _) _ _ _ _ _
        · have hr : wordR s [102, 97, 108, 115, 101] i0 = .error x := hr
          have E1 : Hid (pv s (f + 1) level i n = .error x) := Lib.hid (by rw [EV.out, hr])
          have HP5 := Lib.hid hp
          have HB5 := Lib.hid (HB4.out.trans (hb.mono HB4.out.size))
          have Y5 := Lib.hid (Box.bes Y4.out hb Y4.out.lt hpw)
          clear hp hb hr hh
          obtain ⟨y0, y1, y2, y3, y4⟩ := Y5.out.cells
          have g0 := Y5.out.frz 0
          have g1 := Y5.out.frz 1
          have g2 := Y5.out.frz 2
          have g3 := Y5.out.frz 3
          have g4 := Y5.out.frz 4
          have ZZ := Lib.hid (Box.five Y5.out (.int .i64 1) (.int .i64 0) (.string ⟨#[]⟩) (.slice none 0 0) (.slice none 0 0)).cells
          go_wp2_with fail
          obtain ⟨z0, z1, z2, z3, z4⟩ := ZZ.out
          refine bodyPost_ret (v := .tuple #[.agg #[.int .i64 1, .int .i64 0, .string ⟨#[]⟩, .slice none 0 0, .slice none 0 0], .bool false]) (by simp [results, Tryz.results9, go_sem, z0, z1, z2, z3, z4]) rfl (.inr ⟨x, j1, n + 1, _, E1.out, rfl, ⟨_, _, _, _, _, _, _, _, _, rfl⟩, ?_, ?_⟩)
          · exact PS.five HP5.out hpw _ _ _ _ _
          · exact Bes.five HB5.out (Nat.le_refl _) _ _ _ _ _
      by_cases h116 : bt s i0 = 116
      · have hb110 : (((bt s i0).toNat : Int) == 110) = false := u8_beq 110 h110
        have hb102 : (((bt s i0).toNat : Int) == 102) = false := u8_beq 102 h102
        have hb116 : (((bt s i0).toNat : Int) == 116) = true := u8_beq' 116 h116
        have EV : Hid (pv s (f + 1) level i n = (match wordR s [116, 114, 117, 101] i0 with | .error e => .error e | .ok j => .ok (boolT 1, j, n + 1))) := Lib.hid (by rw [HPV.out]; exact (by rw [if_neg h110, if_neg h102, if_pos h116]))
        clear h110 h102 h116
        go_wp2_with fail
        refine (word_any HP4.out ⟨#[116, 114, 117, 101]⟩ (by decide) (by decide)).mono ?_
        intro e w5 hh
        obtain ⟨j1, hr, rfl, hp, hb⟩ | ⟨x, j1, hr, rfl, hp, hb⟩ := hh.parts
        · have hr : wordR s [116, 114, 117, 101] i0 = .ok j1 := hr
          have E1 : Hid (pv s (f + 1) level i n = .ok (boolT 1, j1, n + 1)) := Lib.hid (by rw [EV.out, hr])
          have hge := wordR_ge _ _ _ hr
          have HP5 := Lib.hid hp
          have HB5 := Lib.hid (HB4.out.trans (hb.mono HB4.out.size))
          have Y5 := Lib.hid (Box.bes Y4.out hb Y4.out.lt hpw)
          clear hp hb hr hh
          obtain ⟨y0, y1, y2, y3, y4⟩ := Y5.out.cells
          have g0 := Y5.out.frz 0
          have g1 := Y5.out.frz 1
          have g2 := Y5.out.frz 2
          have g3 := Y5.out.frz 3
          have g4 := Y5.out.frz 4
          have ZZ := Lib.hid (Box.five Y5.out (.int .i64 1) (.int .i64 1) (.string ⟨#[]⟩) (.slice none 0 0) (.slice none 0 0)).cells
          go_wp2_with fail
          obtain ⟨z0, z1, z2, z3, z4⟩ := ZZ.out
          refine bodyPost_ret (v := .tuple #[.agg #[.int .i64 1, .int .i64 1, .string ⟨#[]⟩, .slice none 0 0, .slice none 0 0], .bool true]) (by simp [results, Tryz.results9, go_sem, z0, z1, z2, z3, z4]) rfl (.inl ⟨_, j1, n + 1, _, E1.out, rfl, rdS_leaf _ _ (by unfold small; omega) (by unfold small; omega) (by decide), ?_, ?_, by omega, by omega, hn1⟩)
          · exact PS.five HP5.out hpw _ _ _ _ _
          · exact Bes.five HB5.out (Nat.le_refl _) _ _ _ _ _
        · have hr : wordR s [116, 114, 117, 101] i0 = .error x := hr
          have E1 : Hid (pv s (f + 1) level i n = .error x) := Lib.hid (by rw [EV.out, hr])
          have HP5 := Lib.hid hp
          have HB5 := Lib.hid (HB4.out.trans (hb.mono HB4.out.size))
          have Y5 := Lib.hid (Box.bes Y4.out hb Y4.out.lt hpw)
          clear hp hb hr hh
          obtain ⟨y0, y1, y2, y3, y4⟩ := Y5.out.cells
          have g0 := Y5.out.frz 0
          have g1 := Y5.out.frz 1
          have g2 := Y5.out.frz 2
          have g3 := Y5.out.frz 3
          have g4 := Y5.out.frz 4
          have ZZ := Lib.hid (Box.five Y5.out (.int .i64 1) (.int .i64 1) (.string ⟨#[]⟩) (.slice none 0 0) (.slice none 0 0)).cells
          go_wp2_with fail
          obtain ⟨z0, z1, z2, z3, z4⟩ := ZZ.out
          refine bodyPost_ret (v := .tuple #[.agg #[.int .i64 1, .int .i64 1, .string ⟨#[]⟩, .slice none 0 0, .slice none 0 0], .bool false]) (by simp [results, Tryz.results9, go_sem, z0, z1, z2, z3, z4]) rfl (.inr ⟨x, j1, n + 1, _, E1.out, rfl, ⟨_, _, _, _, _, _, _, _, _, rfl⟩, ?_, ?_⟩)
          · exact PS.five HP5.out hpw _ _ _ _ _
          · exact Bes.five HB5.out (Nat.le_refl _) _ _ _ _ _
      by_cases h34 : bt s i0 = 34
      · have hb110 : (((bt s i0).toNat : Int) == 110) = false := u8_beq 110 h110
        have hb102 : (((bt s i0).toNat : Int) == 102) = false := u8_beq 102 h102
        have hb116 : (((bt s i0).toNat : Int) == 116) = false := u8_beq 116 h116
        have hb34 : (((bt s i0).toNat : Int) == 34) = true := u8_beq' 34 h34
        have EV : Hid (pv s (f + 1) level i n = (match litR s i0 with | .error e => .error e | .ok (x, j) => .ok (textT x, j, n + 1))) := Lib.hid (by rw [HPV.out]; exact (by rw [if_neg h110, if_neg h102, if_neg h116, if_pos h34]))
        clear h110 h102 h116 h34
        go_wp2_with fail
        refine (literal_any HP4.out).mono ?_
        rintro e w5 (⟨x, j1, hr, rfl, hp, hb⟩ | ⟨x, j1, hr, rfl, hp, hb⟩)
        · have E1 : Hid (pv s (f + 1) level i n = .ok (textT x, j1, n + 1)) := Lib.hid (by rw [EV.out, hr])
          have hge := litR_size hr
          have hss := HP4.out.hs
          have HP5 := Lib.hid hp
          have HB5 := Lib.hid (HB4.out.trans (hb.mono HB4.out.size))
          have Y5 := Lib.hid (Box.bes Y4.out hb Y4.out.lt hpw)
          clear hp hb hr
          obtain ⟨y0, y1, y2, y3, y4⟩ := Y5.out.cells
          have g0 := Y5.out.frz 0
          have g1 := Y5.out.frz 1
          have g2 := Y5.out.frz 2
          have g3 := Y5.out.frz 3
          have g4 := Y5.out.frz 4
          have ZZ := Lib.hid (Box.five Y5.out (.int .i64 3) (.int .i64 0) (.string x) (.slice none 0 0) (.slice none 0 0)).cells
          go_wp2_with fail
          obtain ⟨z0, z1, z2, z3, z4⟩ := ZZ.out
          refine bodyPost_ret (v := .tuple #[.agg #[.int .i64 3, .int .i64 0, .string x, .slice none 0 0, .slice none 0 0], .bool true]) (by simp [results, Tryz.results9, go_sem, z0, z1, z2, z3, z4]) rfl (.inl ⟨_, j1, n + 1, _, E1.out, rfl, rdS_leaf _ _ (by unfold small; omega) (by unfold small; omega) (by omega), ?_, ?_, by omega, by omega, hn1⟩)
          · exact PS.five HP5.out hpw _ _ _ _ _
          · exact Bes.five HB5.out (Nat.le_refl _) _ _ _ _ _
        · have E1 : Hid (pv s (f + 1) level i n = .error x) := Lib.hid (by rw [EV.out, hr])
          have HP5 := Lib.hid hp
          have HB5 := Lib.hid (HB4.out.trans (hb.mono HB4.out.size))
          have Y5 := Lib.hid (Box.bes Y4.out hb Y4.out.lt hpw)
          clear hp hb hr
          obtain ⟨y0, y1, y2, y3, y4⟩ := Y5.out.cells
          have g0 := Y5.out.frz 0
          have g1 := Y5.out.frz 1
          have g2 := Y5.out.frz 2
          have g3 := Y5.out.frz 3
          have g4 := Y5.out.frz 4
          have ZZ := Lib.hid (Box.five Y5.out (.int .i64 3) (.int .i64 0) (.string ⟨#[]⟩) (.slice none 0 0) (.slice none 0 0)).cells
          go_wp2_with fail
          obtain ⟨z0, z1, z2, z3, z4⟩ := ZZ.out
          refine bodyPost_ret (v := .tuple #[.agg #[.int .i64 3, .int .i64 0, .string ⟨#[]⟩, .slice none 0 0, .slice none 0 0], .bool false]) (by simp [results, Tryz.results9, go_sem, z0, z1, z2, z3, z4]) rfl (.inr ⟨x, j1, n + 1, _, E1.out, rfl, ⟨_, _, _, _, _, _, _, _, _, rfl⟩, ?_, ?_⟩)
          · exact PS.five HP5.out hpw _ _ _ _ _
          · exact Bes.five HB5.out (Nat.le_refl _) _ _ _ _ _
      by_cases h91 : bt s i0 = 91
      · have hb110 : (((bt s i0).toNat : Int) == 110) = false := u8_beq 110 h110
        have hb102 : (((bt s i0).toNat : Int) == 102) = false := u8_beq 102 h102
        have hb116 : (((bt s i0).toNat : Int) == 116) = false := u8_beq 116 h116
        have hb34 : (((bt s i0).toNat : Int) == 34) = false := u8_beq 34 h34
        have hb91 : (((bt s i0).toNat : Int) == 91) = true := u8_beq' 91 h91
        have EV : Hid (pv s (f + 1) level i n = (match els s 93 (stepL (pv s f (level + 1))) [] i0 (n + 1) with | .error e => .error e | .ok (a, j, n2) => .ok (.mk 5 0 ⟨#[]⟩ a [], j, n2))) := Lib.hid (by rw [HPV.out]; exact (by rw [if_neg h110, if_neg h102, if_neg h116, if_neg h34, if_pos h91]))
        have hi0 : i0 < s.size := lt_of_bt (by rw [h91]; decide)
        clear h110 h102 h116 h34 h91
        go_wp2_with fail
        refine (jlist_any (ih (level + 1) (by omega)) (by omega) i0 (n + 1) w4 HP4.out hn1 hi0 (by omega)).mono ?_
        rintro e w5 (⟨a, j1, m, u, hr, rfl, hu, hp, hb, hij, hnm, hm⟩ | ⟨x, j1, m, u, hr, rfl, hu, hp, hb⟩)
        · have E1 : Hid (pv s (f + 1) level i n = .ok (.mk 5 0 ⟨#[]⟩ a [], j1, m)) := Lib.hid (by rw [EV.out, hr])
          obtain ⟨k5, n5, s5, A5, li5, ci5, K5, lk5, ck5, rfl⟩ := hu.fiveV
          have HU := Lib.hid hu
          have HP5 := Lib.hid hp
          have HB5 := Lib.hid (HB4.out.trans (hb.mono HB4.out.size))
          have Y5 := Lib.hid (Box.bes Y4.out hb Y4.out.lt hpw)
          have h4w : w.heap.size < w4.heap.size := Y4.out.lt
          clear hp hb hr hu
          obtain ⟨y0, y1, y2, y3, y4⟩ := Y5.out.cells
          have g0 := Y5.out.frz 0
          have g1 := Y5.out.frz 1
          have g2 := Y5.out.frz 2
          have g3 := Y5.out.frz 3
          have g4 := Y5.out.frz 4
          have ZZ := Lib.hid (Box.five Y5.out (.int .i64 k5) (.int .i64 n5) (.string s5) (.slice A5 li5 ci5) (.slice K5 lk5 ck5)).cells
          go_wp2_with fail
          obtain ⟨z0, z1, z2, z3, z4⟩ := ZZ.out
          refine bodyPost_ret (v := .tuple #[.agg #[.int .i64 k5, .int .i64 n5, .string s5, .slice A5 li5 ci5, .slice K5 lk5 ck5], .bool true]) (by simp [results, Tryz.results9, go_sem, z0, z1, z2, z3, z4]) rfl (.inl ⟨_, j1, m, _, E1.out, rfl, rdS_five HU.out h4w (Nat.le_of_lt Y4.out.lt) _ _ _ _ _, ?_, ?_, by omega, by omega, hm⟩)
          · exact PS.five HP5.out hpw _ _ _ _ _
          · exact Bes.five HB5.out (Nat.le_refl _) _ _ _ _ _
        · have E1 : Hid (pv s (f + 1) level i n = .error x) := Lib.hid (by rw [EV.out, hr])
          obtain ⟨k5, n5, s5, A5, li5, ci5, K5, lk5, ck5, rfl⟩ := hu
          have HP5 := Lib.hid hp
          have HB5 := Lib.hid (HB4.out.trans (hb.mono HB4.out.size))
          have Y5 := Lib.hid (Box.bes Y4.out hb Y4.out.lt hpw)
          clear hp hb hr
          obtain ⟨y0, y1, y2, y3, y4⟩ := Y5.out.cells
          have g0 := Y5.out.frz 0
          have g1 := Y5.out.frz 1
          have g2 := Y5.out.frz 2
          have g3 := Y5.out.frz 3
          have g4 := Y5.out.frz 4
          have ZZ := Lib.hid (Box.five Y5.out (.int .i64 k5) (.int .i64 n5) (.string s5) (.slice A5 li5 ci5) (.slice K5 lk5 ck5)).cells
          go_wp2_with fail
          obtain ⟨z0, z1, z2, z3, z4⟩ := ZZ.out
          refine bodyPost_ret (v := .tuple #[.agg #[.int .i64 k5, .int .i64 n5, .string s5, .slice A5 li5 ci5, .slice K5 lk5 ck5], .bool false]) (by simp [results, Tryz.results9, go_sem, z0, z1, z2, z3, z4]) rfl (.inr ⟨x, j1, m, _, E1.out, rfl, ⟨_, _, _, _, _, _, _, _, _, rfl⟩, ?_, ?_⟩)
          · exact PS.five HP5.out hpw _ _ _ _ _
          · exact Bes.five HB5.out (Nat.le_refl _) _ _ _ _ _
      by_cases h123 : bt s i0 = 123
      · have hb110 : (((bt s i0).toNat : Int) == 110) = false := u8_beq 110 h110
        have hb102 : (((bt s i0).toNat : Int) == 102) = false := u8_beq 102 h102
        have hb116 : (((bt s i0).toNat : Int) == 116) = false := u8_beq 116 h116
        have hb34 : (((bt s i0).toNat : Int) == 34) = false := u8_beq 34 h34
        have hb91 : (((bt s i0).toNat : Int) == 91) = false := u8_beq 91 h91
        have hb123 : (((bt s i0).toNat : Int) == 123) = true := u8_beq' 123 h123
        have EV : Hid (pv s (f + 1) level i n = (match els s 125 (stepO s (pv s f (level + 1))) ([], []) i0 (n + 1) with | .error e => .error e | .ok (a, j, n2) => .ok (.mk 6 0 ⟨#[]⟩ a.2 a.1, j, n2))) := Lib.hid (by rw [HPV.out]; exact (by rw [if_neg h110, if_neg h102, if_neg h116, if_neg h34, if_neg h91, if_pos h123]))
        have hi0 : i0 < s.size := lt_of_bt (by rw [h123]; decide)
        clear h110 h102 h116 h34 h91 h123
        go_wp2_with fail
        refine (jobject_any (ih (level + 1) (by omega)) (by omega) i0 (n + 1) w4 HP4.out hn1 hi0 (by omega)).mono ?_
        rintro e w5 (⟨a, j1, m, u, hr, rfl, hu, hp, hb, hij, hnm, hm⟩ | ⟨x, j1, m, u, hr, rfl, hu, hp, hb⟩)
        · have E1 : Hid (pv s (f + 1) level i n = .ok (.mk 6 0 ⟨#[]⟩ a.2 a.1, j1, m)) := Lib.hid (by rw [EV.out, hr])
          obtain ⟨k5, n5, s5, A5, li5, ci5, K5, lk5, ck5, rfl⟩ := hu.fiveV
          have HU := Lib.hid hu
          have HP5 := Lib.hid hp
          have HB5 := Lib.hid (HB4.out.trans (hb.mono HB4.out.size))
          have Y5 := Lib.hid (Box.bes Y4.out hb Y4.out.lt hpw)
          have h4w : w.heap.size < w4.heap.size := Y4.out.lt
          clear hp hb hr hu
          obtain ⟨y0, y1, y2, y3, y4⟩ := Y5.out.cells
          have g0 := Y5.out.frz 0
          have g1 := Y5.out.frz 1
          have g2 := Y5.out.frz 2
          have g3 := Y5.out.frz 3
          have g4 := Y5.out.frz 4
          have ZZ := Lib.hid (Box.five Y5.out (.int .i64 k5) (.int .i64 n5) (.string s5) (.slice A5 li5 ci5) (.slice K5 lk5 ck5)).cells
          go_wp2_with fail
          obtain ⟨z0, z1, z2, z3, z4⟩ := ZZ.out
          refine bodyPost_ret (v := .tuple #[.agg #[.int .i64 k5, .int .i64 n5, .string s5, .slice A5 li5 ci5, .slice K5 lk5 ck5], .bool true]) (by simp [results, Tryz.results9, go_sem, z0, z1, z2, z3, z4]) rfl (.inl ⟨_, j1, m, _, E1.out, rfl, rdS_five HU.out h4w (Nat.le_of_lt Y4.out.lt) _ _ _ _ _, ?_, ?_, by omega, by omega, hm⟩)
          · exact PS.five HP5.out hpw _ _ _ _ _
          · exact Bes.five HB5.out (Nat.le_refl _) _ _ _ _ _
        · have E1 : Hid (pv s (f + 1) level i n = .error x) := Lib.hid (by rw [EV.out, hr])
          obtain ⟨k5, n5, s5, A5, li5, ci5, K5, lk5, ck5, rfl⟩ := hu
          have HP5 := Lib.hid hp
          have HB5 := Lib.hid (HB4.out.trans (hb.mono HB4.out.size))
          have Y5 := Lib.hid (Box.bes Y4.out hb Y4.out.lt hpw)
          clear hp hb hr
          obtain ⟨y0, y1, y2, y3, y4⟩ := Y5.out.cells
          have g0 := Y5.out.frz 0
          have g1 := Y5.out.frz 1
          have g2 := Y5.out.frz 2
          have g3 := Y5.out.frz 3
          have g4 := Y5.out.frz 4
          have ZZ := Lib.hid (Box.five Y5.out (.int .i64 k5) (.int .i64 n5) (.string s5) (.slice A5 li5 ci5) (.slice K5 lk5 ck5)).cells
          go_wp2_with fail
          obtain ⟨z0, z1, z2, z3, z4⟩ := ZZ.out
          refine bodyPost_ret (v := .tuple #[.agg #[.int .i64 k5, .int .i64 n5, .string s5, .slice A5 li5 ci5, .slice K5 lk5 ck5], .bool false]) (by simp [results, Tryz.results9, go_sem, z0, z1, z2, z3, z4]) rfl (.inr ⟨x, j1, m, _, E1.out, rfl, ⟨_, _, _, _, _, _, _, _, _, rfl⟩, ?_, ?_⟩)
          · exact PS.five HP5.out hpw _ _ _ _ _
          · exact Bes.five HB5.out (Nat.le_refl _) _ _ _ _ _
      have hb110 : (((bt s i0).toNat : Int) == 110) = false := u8_beq 110 h110
      have hb102 : (((bt s i0).toNat : Int) == 102) = false := u8_beq 102 h102
      have hb116 : (((bt s i0).toNat : Int) == 116) = false := u8_beq 116 h116
      have hb34 : (((bt s i0).toNat : Int) == 34) = false := u8_beq 34 h34
      have hb91 : (((bt s i0).toNat : Int) == 91) = false := u8_beq 91 h91
      have hb123 : (((bt s i0).toNat : Int) == 123) = false := u8_beq 123 h123
      have EV : Hid (pv s (f + 1) level i n = (match intR s i0 with | .error e => .error e | .ok (t, j) => .ok (t, j, n + 1))) := Lib.hid (by rw [HPV.out]; exact (by rw [if_neg h110, if_neg h102, if_neg h116, if_neg h34, if_neg h91, if_neg h123]))
      clear h110 h102 h116 h34 h91 h123
      go_wp2_with fail
      refine (integer_any HP4.out).mono ?_
      rintro e w5 (⟨k, j1, hr, hsm, rfl, hp, hb⟩ | ⟨x, j1, hr, rfl, hp, hb⟩)
      · have E1 : Hid (pv s (f + 1) level i n = .ok (intT k, j1, n + 1)) := Lib.hid (by rw [EV.out, hr])
        have hge := intR_ge hr
        have HP5 := Lib.hid hp
        have HB5 := Lib.hid (HB4.out.trans (hb.mono HB4.out.size))
        have Y5 := Lib.hid (Box.bes Y4.out hb Y4.out.lt hpw)
        clear hp hb hr
        obtain ⟨y0, y1, y2, y3, y4⟩ := Y5.out.cells
        have g0 := Y5.out.frz 0
        have g1 := Y5.out.frz 1
        have g2 := Y5.out.frz 2
        have g3 := Y5.out.frz 3
        have g4 := Y5.out.frz 4
        have ZZ := Lib.hid (Box.five Y5.out (.int .i64 2) (.int .i64 k) (.string ⟨#[]⟩) (.slice none 0 0) (.slice none 0 0)).cells
        go_wp2_with fail
        obtain ⟨z0, z1, z2, z3, z4⟩ := ZZ.out
        refine bodyPost_ret (v := .tuple #[.agg #[.int .i64 2, .int .i64 k, .string ⟨#[]⟩, .slice none 0 0, .slice none 0 0], .bool true]) (by simp [results, Tryz.results9, go_sem, z0, z1, z2, z3, z4]) rfl (.inl ⟨_, j1, n + 1, _, E1.out, rfl, rdS_leaf _ _ (by unfold small; omega) hsm (by decide), ?_, ?_, by omega, by omega, hn1⟩)
        · exact PS.five HP5.out hpw _ _ _ _ _
        · exact Bes.five HB5.out (Nat.le_refl _) _ _ _ _ _
      · have E1 : Hid (pv s (f + 1) level i n = .error x) := Lib.hid (by rw [EV.out, hr])
        have HP5 := Lib.hid hp
        have HB5 := Lib.hid (HB4.out.trans (hb.mono HB4.out.size))
        have Y5 := Lib.hid (Box.bes Y4.out hb Y4.out.lt hpw)
        clear hp hb hr
        unfold zeroV
        obtain ⟨y0, y1, y2, y3, y4⟩ := Y5.out.cells
        have g0 := Y5.out.frz 0
        have g1 := Y5.out.frz 1
        have g2 := Y5.out.frz 2
        have g3 := Y5.out.frz 3
        have g4 := Y5.out.frz 4
        have ZZ := Lib.hid (Box.five Y5.out (.int .i64 0) (.int .i64 0) (.string ⟨#[]⟩) (.slice none 0 0) (.slice none 0 0)).cells
        go_wp2_with fail
        obtain ⟨z0, z1, z2, z3, z4⟩ := ZZ.out
        refine bodyPost_ret (v := .tuple #[.agg #[.int .i64 0, .int .i64 0, .string ⟨#[]⟩, .slice none 0 0, .slice none 0 0], .bool false]) (by simp [results, Tryz.results9, go_sem, z0, z1, z2, z3, z4]) rfl (.inr ⟨x, j1, n + 1, _, E1.out, rfl, ⟨_, _, _, _, _, _, _, _, _, rfl⟩, ?_, ?_⟩)
        · exact PS.five HP5.out hpw _ _ _ _ _
        · exact Bes.five HB5.out (Nat.le_refl _) _ _ _ _ _
end Go.Proofs.YtcbajgcblfgmgaaGreatDoor
