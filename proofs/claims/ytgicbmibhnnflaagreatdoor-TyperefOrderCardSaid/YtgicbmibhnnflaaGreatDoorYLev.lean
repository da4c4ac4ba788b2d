
/-
  Levels: rows of booleans; levels, withLevels.
-/
import Derived.Test.YtgicbmibhnnflaaGreatDoorYCmp
namespace Go.Proofs.YtgicbmibhnnflaaGreatDoor
open Go.RowKit
theorem lvL_ne (ws : Ws) (b : Bool) : lvL b ws ≠ [] := fun h => by have := lvL_len ws b; rw [h] at this; simp at this
theorem lv_snoc : ∀ (ws : Ws) (b : Bool) (x : Int), lvL b (ws ++ [x]) = if x = 1 then (lvL b ws).set ((lvL b ws).length - 1) true else lvL b ws ++ [false]
  | [], b, x => by
    show (if x = 1 then [true] else b :: [false]) = _
    by_cases h : x = 1
    · rw [if_pos h, if_pos h]; rfl
    · rw [if_neg h, if_neg h]; rfl
  | w :: r, b, x => by
    show (if w = 1 then lvL true (r ++ [x]) else b :: lvL false (r ++ [x])) = _
    have e : lvL b (w :: r) = if w = 1 then lvL true r else b :: lvL false r := rfl
    rw [e]
    by_cases h : w = 1
    · rw [if_pos h, if_pos h]; exact lv_snoc r true x
    · rw [if_neg h, if_neg h, lv_snoc r false x]
      by_cases hx : x = 1
      · rw [if_pos hx, if_pos hx]
        obtain ⟨c, l, hl⟩ := List.exists_cons_of_ne_nil (lvL_ne r false)
        rw [hl]; rfl
      · rw [if_neg hx, if_neg hx]; rfl
theorem lv_one {xs : Ws} {k : Nat} {x : Int} (h : xs[k]? = some x) : lv (xs.take (k + 1)) = if x = 1 then (lv (xs.take k)).set ((lv (xs.take k)).length - 1) true else lv (xs.take k) ++ [false] := by
  rw [take_one h]; exact lv_snoc _ _ _
theorem lv_le (xs : Ws) : (lv xs).length ≤ xs.length + 1 := by rw [lv_len]; have := str_le xs; omega
theorem wl_snoc (l : List Bool) (b : Bool) : wlL (l ++ [b]) = wlL l ++ (if l = [] then [] else [2]) ++ bitL b := by
  cases l with
  | nil => show bitL b ++ [] = [] ++ [] ++ bitL b; simp
  | cons c r =>
    show bitL c ++ mrL (r ++ [b]) = bitL c ++ mrL r ++ [2] ++ bitL b
    unfold mrL; rw [List.flatMap_append]; simp
/- Rows of booleans. -/
theorem infoB : (Tryz.prog.info? 4).map (fun i => (i.zero, i.size, i.bytes)) = some (some (.bool false), 1, 1) := by kernel_rfl
theorem infoBp : ∃ i, Tryz.prog.info? 4 = some i ∧ i.zero = some (.bool false) ∧ i.size = 1 ∧ i.bytes = 1 := by
  have h := infoB
  cases hi : Tryz.prog.info? 4 with
  | none => rw [hi] at h; simp at h
  | some i => rw [hi] at h; simp at h; exact ⟨i, rfl, h.1, h.2.1, h.2.2⟩
def blC (bs : List Bool) : List Value := bs.map Value.bool
def OwnL (w : World) (base : Nat) (v : Value) (bs : List Bool) : Prop := w.ownsRow base 4 1 v bs.length (blC bs)
theorem OwnL.stay {w w' : World} {base : Nat} {v : Value} {bs : List Bool} (h : OwnL w base v bs) (hb : Below w.heap.size w w') : OwnL w' base v bs := row_kept h fun g _ hg _ => hb.block g hg
theorem OwnL.lt {w : World} {base : Nat} {v : Value} {bs : List Bool} (h : OwnL w base v bs) : ∀ k, v.ownBlock = some k → base ≤ k ∧ k < w.heap.size := World.ownsRow.lt h
theorem OwnL.one (w : World) (x : Bool) : OwnL (w.alloc (.cells #[.bool x] 4 (0, 0))) w.heap.size (.slice (some ⟨w.heap.size, 0, none⟩) 1 1) [x] :=
  ⟨rfl, .inr ⟨w.heap.size, 1, #[.bool x], rfl, Nat.le_refl _, heap_alloc_new _ _, Nat.le_refl _, by decide, rfl, rfl⟩⟩
theorem OwnL.lower {w : World} {b b' : Nat} {v : Value} {xs : List Bool} (h : OwnL w b v xs) (hb : b' ≤ b) : OwnL w b' v xs := by
  refine ⟨h.1, h.2.imp id ?_⟩
  rintro ⟨g, cap, cur, e1, e2, r⟩
  exact ⟨g, cap, cur, e1, Nat.le_trans hb e2, r⟩
/- A cell of a row, read and written. -/
theorem OwnL.at {w : World} {base : Nat} {v : Value} {bs : List Bool} (h : OwnL w base v bs) {j : Nat} {b : Bool} (hj : bs[j]? = some b) :
    ∃ ad c, v = .slice (some ad) bs.length c ∧ bs.length ≤ c ∧ base ≤ ad.block ∧ ad.block < w.heap.size ∧ w.cell? (ad.add j) = some (.bool b) ∧ w.frozen? (ad.add j) = false ∧ ∀ u, OwnL (w.setCell (ad.add j) (.bool u)) base v (bs.set j u) := by
  have hjl : j < bs.length := (List.getElem?_eq_some_iff.1 hj).1
  have hh : w.ownsRow base 4 1 v bs.length (blC bs) := h
  rcases hh.2 with ⟨_, e⟩ | ⟨g, cap, cur, rfl, h1, h2, h3, h4, h5, h6⟩
  · omega
  · have hadd : (⟨g, 0, none⟩ : Addr).add j = ⟨g, j, none⟩ := by unfold Addr.add; split <;> simp_all
    refine ⟨⟨g, 0, none⟩, cap, rfl, h3, h1, (World.ownsRow.lt hh g rfl).2, World.ownsRow.cells hh (g := g) rfl j (.bool b) (by unfold blC; simp [hj]), ?_, fun u => ?_⟩
    · rw [hadd]; simp [World.frozen?, h2]
    · rw [hadd]
      refine ⟨by unfold blC; simp, .inr ⟨g, cap, cur.setIfInBounds j (.bool u), by rw [List.length_set], h1, ?_, by rw [List.length_set]; exact h3, h4, by simpa using h5, ?_⟩⟩
      · unfold World.setCell; simp [Array.getElem?_modify, h2]
      · rw [List.length_set, Array.toList_setIfInBounds, List.take_set, h6]
        unfold blC; rw [List.map_set]
theorem OwnL.cell {w : World} {base : Nat} {v : Value} {bs : List Bool} (h : OwnL w base v bs) (hn : bs ≠ []) : ∃ ad c, v = .slice (some ad) bs.length c ∧ bs.length ≤ c ∧ ad.block < w.heap.size ∧ ∀ j b, bs[j]? = some b → w.cell? (ad.add j) = some (.bool b) := by
  obtain ⟨b0, r, rfl⟩ := List.exists_cons_of_ne_nil hn
  obtain ⟨ad, c, e, h1, _, h2, _⟩ := h.at (j := 0) (b := b0) rfl
  refine ⟨ad, c, e, h1, h2, fun j b hj => ?_⟩
  obtain ⟨ad', c', e', _, _, _, h3, _⟩ := h.at hj
  rw [e] at e'
  injection e' with e1 e2 e3
  cases e1
  exact h3
theorem append_L {w : World} {ops : Array Oper} {rest : List Oper} {o : Oper} {a : Act} {Q : Exit → Act → World → Prop} (hgd : o.guard = none) (s x : Operand)
    (ho : o.op = .call { callee := .builtin .append, args := #[s, x], argTypes := #[45, 45] }) (base : Nat) (v : Value) (ss : List Bool) (hs : a.eval s = v) (hown : OwnL w base v ss)
    (ad : Addr) (c : Nat) (p : Bool) (hx : a.eval x = .slice (some ad) 1 c) (hnews : w.cell? ad = some (.bool p)) (had : ad.add 0 = ad)
    (hlen : ss.length ≤ 1000000) (hbase : base ≤ w.heap.size)
    (h : ∀ v' w', OwnL w' base v' (ss ++ [p]) → w.grownBy w' v.ownBlock → wpList Tryz.prog ops Q rest (a.put o.dst v') w') : wpList Tryz.prog ops Q (o :: rest) a w := by
  obtain ⟨i0, hi, hz0, hz1, hz2⟩ := infoBp
  refine wpList_append_own w hgd s x 45 ho base 4 i0 (.bool false) 1 1 Tryz.underlying45 hi hz0 hz1 hz2 rfl (by decide) v ss.length _ hs hown ad 1 c [.bool p] hx rfl ?_ ?_ (by unfold maxLen; omega) (by omega) hbase ?_
  · intro j u hj
    cases j with
    | zero => cases hj; rw [had]; exact hnews
    | succ j => simp at hj
  · intro u hu
    simp at hu; subst hu; rfl
  · intro v' w' h1 h2 _
    refine h v' w' ?_ h2
    unfold OwnL
    rw [List.length_append, show blC (ss ++ [p]) = blC ss ++ blC [p] from List.map_append]
    exact h1
set_option maxRecDepth 100000 in
set_option maxHeartbeats 2000000 in
theorem levels_any (n : ByteArray) (xs : Ws) (v0 : Value) (w : World) (h : RefV w w.heap.size v0 n xs) (hl : xs.length ≤ 900000) : Calls Tryz.prog 49 #[v0] w fun e w' => (∃ u, e = .returned u ∧ OwnL w' w.heap.size u (lv xs)) ∧ Below w.heap.size w w' := by
  obtain ⟨A, c0, rfl, hc, hi⟩ := h
  have x3 := (Below.refl w.heap.size w).alloc (Nat.le_refl _) (.cells #[.string n, .slice A xs.length c0] 24 (0, 0))
  have HI := Lib.hid (hi.stay x3)
  have BW := Lib.hid x3
  have HLEN : Hid ((xs.length : Int) ≤ 900000) := Lib.hid (by omega)
  clear hc hi x3
  go_enter Tryz.func49, Tryz.ntmps49
  go_wp2_with fail
  generalize hW0 : (w.alloc (.cells #[.string n, .slice A xs.length c0] 24 (0, 0))) = W0 at *
  have HZ : Hid (W0.heap.size = w.heap.size + 1) := Lib.hid (by rw [← hW0]; simp)
  clear hW0
  go_loopw [3, 5, 10] (fun v _ i wr => ∃ k : Nat, i = .int .i64 k ∧ k ≤ xs.length ∧ OwnL wr W0.heap.size v (lv (xs.take k)) ∧ Below W0.heap.size W0 wr) (fun _ _ i _ => xs.length - (intOf i).toNat)
  case atStart => exact ⟨0, rfl, Nat.zero_le _, by have h := OwnL.one W0 false; rw [HZ.out] at h ⊢; exact h, (Below.refl _ _).alloc (Nat.le_refl _) _⟩
  case round =>
    obtain ⟨k, rfl, hk, hown, hb⟩ := hrel
    have HO := Lib.hid hown
    have HB := Lib.hid hb
    have hlm := HLEN.out
    by_cases hlt : k < xs.length
    · obtain ⟨a, x, rfl, ha, hp, h0⟩ := ints_round HI.out hb hlt
      have hlt' : (k : Int) < xs.length := by omega
      have hs := lv_one hp
      have HKL : Hid ((lv (xs.take k)).length ≤ 1000000) := Lib.hid (by have := lv_le (xs.take k); rw [List.length_take] at this; omega)
      have hne : lv (xs.take k) ≠ [] := lv_ne _
      clear hp hb ha
      generalize lv (xs.take k) = L at *
      by_cases hx : x = 1
      · subst hx
        rw [if_pos rfl] at hs
        have HS := Lib.hid hs
        obtain ⟨m, hm⟩ : ∃ m, L.length = m + 1 := ⟨L.length - 1, by have : 0 < L.length := List.length_pos_iff.2 hne; omega⟩
        obtain ⟨b, hbm⟩ : ∃ b, L[m]? = some b := ⟨L[m], List.getElem?_eq_getElem (by omega)⟩
        obtain ⟨ad, c, rfl, hcc, h1, h2, h3, h4, h5⟩ := hown.at hbm
        have H5 : Hid (OwnL (wr.setCell (ad.add m) (.bool true)) W0.heap.size (.slice (some ad) (m + 1) c) (lv (xs.take (k + 1)))) := Lib.hid (by have := h5 true; rw [hs, hm, Nat.add_sub_cancel, ← hm]; exact this)
        have HBK : Hid (W0.heap.size ≤ (ad.add m).block) := Lib.hid (by rw [add_block]; exact h1)
        have hml : ((m : Int) + 1) ≤ 1000000 := by have := HKL.out; omega
        rw [hm]
        clear hs hbm hne hown h1 h2 h5 hm hcc HKL HS HO
        go_wp2_with fail
        go_roundw
        case rel => exact ⟨k + 1, by go_num, by omega, H5.out, HB.out.setCell HBK.out _⟩
        case measure => simp [intOf]; omega
      · rw [if_neg hx] at hs
        have HS := Lib.hid hs
        have hxb : (x == 1) = false := by simp [hx]
        clear hs hown hne
        go_wp2_with (at_builtin; refine append_L rfl (.tmp 21) (.tmp 22) rfl W0.heap.size _ _ rfl ((HO.out).stay ((Below.refl _ _).alloc (Nat.le_refl _) _)) ⟨wr.heap.size, 0, none⟩ 1 false rfl (by simp) rfl HKL.out (by have := HB.out.size; simp; omega) ?_; intro v' w1 hv hg; have HV := Lib.hid hv; have HG := Lib.hid ((HB.out.alloc HB.out.size _).grown hg (by have := HB.out.size; simp; omega) (fun g hg => (HO.out.lt g hg).1)); clear hv hg)
        go_roundw
        case rel => exact ⟨k + 1, by go_num, by omega, by rw [HS.out]; exact HV.out, HG.out⟩
        case measure => simp [intOf]; omega
    · have hlt' : ¬ (k : Int) < xs.length := by omega
      have HT : Hid (xs.take k = xs) := Lib.hid (List.take_of_length_le (by omega))
      clear hb hown
      go_wp2_with fail
      go_ret
      exact ⟨⟨_, rfl, by have := HO.out; rw [HT.out] at this; exact this.lower BW.out.size⟩, BW.out.trans (HB.out.mono BW.out.size)⟩
theorem tnamed_any (n : ByteArray) (w : World) : Calls Tryz.prog 13 #[.string n] w fun e w' => e = .returned (.agg #[.string n, .slice none 0 0]) ∧ Below w.heap.size w w' := by
  go_enter Tryz.func13, Tryz.ntmps13
  go_wp2_with fail
  exact bodyPost_ret (v := .agg #[.string n, .slice none 0 0]) (by simp [results, Tryz.results13, go_sem]) rfl ⟨rfl, (Below.refl _ _).alloc (Nat.le_refl _) _⟩
theorem wl_one {bs : List Bool} {k : Nat} {b : Bool} (h : bs[k]? = some b) : wlL (bs.take (k + 1)) = wlL (bs.take k) ++ (if k = 0 then [] else [2]) ++ bitL b := by
  obtain ⟨h1, h2⟩ := List.getElem?_eq_some_iff.1 h
  have e : bs.take (k + 1) = bs.take k ++ [b] := by rw [← h2]; exact (List.take_append_getElem h1).symm
  rw [e, wl_snoc]
  have : (bs.take k = []) ↔ k = 0 := by
    rw [List.take_eq_nil_iff]
    constructor
    · rintro (h | h)
      · exact h
      · subst h; simp at h1
    · exact .inl
  by_cases hk : k = 0
  · rw [if_pos hk, if_pos (this.2 hk)]
  · rw [if_neg hk, if_neg (fun h => hk (this.1 h))]
theorem wl_le (bs : List Bool) : (wlL bs).length ≤ 2 * bs.length := by
  rw [wl_len]
  have : onesL bs ≤ bs.length := List.length_filter_le _ _
  omega
theorem wl_take_le (bs : List Bool) (k : Nat) : (wlL (bs.take k)).length ≤ 2 * bs.length := Nat.le_trans (wl_le _) (by rw [List.length_take]; omega)
theorem bl_round {w wr : World} {B k : Nat} {A : Option Addr} {bs : List Bool} {c : Nat} (h : OwnL w B (.slice A bs.length c) bs) (hb : Below w.heap.size w wr) (hk : k < bs.length) : ∃ a b, A = some a ∧ bs[k]? = some b ∧ wr.cell? (a.add k) = some (.bool b) := by
  obtain ⟨ad, c', e, _, _, _, h3, _⟩ := (h.stay hb).at (List.getElem?_eq_getElem hk)
  cases e
  exact ⟨ad, bs[k], rfl, List.getElem?_eq_getElem hk, h3⟩
theorem cell_after (w : World) (p : Addr) (u : Value) (x : Int) : ((w.setCell p u).alloc (.cells #[.int .i64 x] 3 (0, 0))).cell? ⟨w.heap.size, 0, none⟩ = some (.int .i64 x) := by
  have h : ((w.setCell p u).alloc (.cells #[.int .i64 x] 3 (0, 0))).heap[w.heap.size]? = some (.cells #[.int .i64 x] 3 (0, 0)) := by
    have := heap_alloc_new (w.setCell p u) (.cells #[.int .i64 x] 3 (0, 0))
    simpa using this
  rw [cell_of_row _ _ _ _ _ _ h]; rfl
theorem OwnI.shape {w : World} {base : Nat} {v : Value} {xs : Ws} (h : OwnI w base v xs) : ∃ A l c, v = .slice A l c := by
  rcases h.2 with ⟨rfl, _⟩ | ⟨g, cap, cur, rfl, _⟩
  · exact ⟨_, _, _, rfl⟩
  · exact ⟨_, _, _, rfl⟩
theorem OwnI.cellset {w : World} {base : Nat} {v : Value} {xs : Ws} (h : OwnI w base v xs) {p : Addr} (hp : p.block < base) (u : Value) : OwnI (w.setCell p u) base v xs :=
  row_kept h fun _ hg _ _ => Below.heap_setCell w _ _ _ (by omega)
set_option maxRecDepth 100000 in
set_option maxHeartbeats 2000000 in
theorem withLevels_any (n : ByteArray) (bs : List Bool) (v0 : Value) (w : World) (b0 : Nat) (h : OwnL w b0 v0 bs) (hl : bs.length ≤ 400000) : Calls Tryz.prog 50 #[.string n, v0] w (RefPost n (wlL bs) w) := by
  obtain ⟨A, c0, rfl⟩ : ∃ A c, v0 = .slice A bs.length c := by
    rcases h.2 with ⟨rfl, e⟩ | ⟨g, cap, cur, rfl, _⟩
    · rw [e]; exact ⟨_, _, rfl⟩
    · exact ⟨_, _, rfl⟩
  have HLEN : Hid ((bs.length : Int) ≤ 400000) := Lib.hid (by omega)
  have HI := Lib.hid h
  clear h hl
  have y := BxR.new w (.string ⟨#[]⟩) (.slice none 0 0)
  have hb0 := (Below.refl w.heap.size w).alloc (Nat.le_refl _) (.cells #[.string ⟨#[]⟩, .slice none 0 0] 24 (0, 0))
  have Y0 := Lib.hid y
  have B0 := Lib.hid hb0
  clear y hb0
  go_enter Tryz.func50, Tryz.ntmps50
  go_wp2_with fail
  generalize (w.alloc (.cells #[.string ⟨#[]⟩, .slice none 0 0] 24 (0, 0))) = W0 at *
  refine (tnamed_any n W0).mono ?_
  rintro e w1 ⟨rfl, hb1⟩
  have Y1 := Lib.hid (Y0.out.stay hb1)
  have B1 := Lib.hid (B0.out.trans (hb1.mono B0.out.size))
  clear hb1 Y0 B0
  go_wp2_with fail
  have hx0 := BxR.new w1 (.string n) (.slice none 0 0)
  have hb2 := (Below.refl w1.heap.size w1).alloc (Nat.le_refl _) (.cells #[.string n, .slice none 0 0] 24 (0, 0))
  have HX0 := Lib.hid hx0
  have HB0 := Lib.hid hb2
  clear hx0 hb2
  generalize hW2 : (w1.alloc (.cells #[.string n, .slice none 0 0] 24 (0, 0))) = W2 at *
  clear hW2
  go_loopw [6, 7, 12] (fun _ _ i wr => ∃ (k : Nat) (v : Value), i = .int .i64 k ∧ k ≤ bs.length ∧ BxR wr w1.heap.size (.string n) v ∧ OwnI wr (w1.heap.size + 1) v (wlL (bs.take k)) ∧ Below w1.heap.size w1 wr) (fun _ _ i _ => bs.length - (intOf i).toNat)
  case atStart => exact ⟨0, _, rfl, Nat.zero_le _, HX0.out, OwnI.nil _ _, HB0.out⟩
  case round =>
    obtain ⟨k, v, rfl, hk, hx, ho, hb⟩ := hrel
    have HX := Lib.hid hx
    have HO := Lib.hid ho
    have HB := Lib.hid hb
    have hlm := HLEN.out
    have x1 := hx.cells.2
    have g1 := hx.frz 1
    have x0 := hx.cells.1
    by_cases hlt : k < bs.length
    · obtain ⟨a, b, rfl, hp, h0⟩ := bl_round HI.out (B1.out.trans (hb.mono B1.out.size)) hlt
      have hlt' : (k : Int) < bs.length := by omega
      have hs := wl_one hp
      have HKL := Lib.hid (wl_take_le bs k)
      clear hx ho hb hp x0
      by_cases hk0 : k = 0
      · rw [if_pos hk0] at hs
        have hkp : ¬ ((k : Int) > 0) := by omega
        have HS := Lib.hid hs
        clear hs hk0
        cases b with
        | false =>
          go_wp2_with fail
          go_roundw
          case rel => exact ⟨k + 1, v, by go_num, by omega, HX.out, by rw [HS.out]; first | exact HO.out | (have := HO.out; simpa [bitL] using this), HB.out⟩
          case measure => simp [intOf]; omega
        | true =>
          go_wp2_with (at_builtin; first | (refine append_I rfl (.tmp 26) (.tmp 27) rfl (w1.heap.size + 1) _ _ rfl (HO.out.stay ((Below.refl _ _).alloc (Nat.le_refl _) _)) ⟨wr.heap.size, 0, none⟩ 1 1 rfl (by simp) rfl (by have := HKL.out; have := HLEN.out; omega) (by have := HX.out.lt; simp; omega) ?_; intro v1 wa hv hg; obtain ⟨A1, l1, c1, rfl⟩ := hv.shape; have HV1 := Lib.hid hv; have HX1 : Hid (BxR wa w1.heap.size (.string n) v) := Lib.hid ((HX.out.alloc _).kept (hg.block _ (by have := HX.out.lt; simp; omega) (fun e => by have := (HO.out.lt _ e.symm).1; omega))); have HB1 := Lib.hid ((HB.out.alloc HB.out.size _).grown hg (by have := HB.out.size; simp; omega) (fun g hg => by have := (HO.out.lt g hg).1; omega)); have y1 := HX1.out.cells.2; have f1 := HX1.out.frz 1; have HXB : Hid (BxR (wa.setCell ⟨w1.heap.size, 1, none⟩ (.slice A1 l1 c1)) w1.heap.size (.string n) (.slice A1 l1 c1)) := Lib.hid (HX1.out.s1 _); have HBB : Hid (Below w1.heap.size w1 (wa.setCell ⟨w1.heap.size, 1, none⟩ (.slice A1 l1 c1))) := Lib.hid (HB1.out.setCell (p := ⟨w1.heap.size, 1, none⟩) (Nat.le_refl _) _); have HVB := Lib.hid (HV1.out.cellset (p := ⟨w1.heap.size, 1, none⟩) (Nat.lt_succ_self _) (.slice A1 l1 c1)); clear hv hg x1 g1))
          go_roundw
          case rel => exact ⟨k + 1, _, by go_num, by omega, HXB.out, by rw [HS.out]; first | exact HVB.out | (have := HVB.out; simpa [bitL] using this), HBB.out⟩
          case measure => simp [intOf]; omega
      · rw [if_neg hk0] at hs
        have hkp : ((k : Int) > 0) := by omega
        have HS := Lib.hid hs
        clear hs hk0
        cases b with
        | false =>
          go_wp2_with (at_builtin; first | (refine append_I rfl (.tmp 20) (.tmp 21) rfl (w1.heap.size + 1) _ _ rfl (HO.out.stay ((Below.refl _ _).alloc (Nat.le_refl _) _)) ⟨wr.heap.size, 0, none⟩ 1 2 rfl (by simp) rfl (by have := HKL.out; have := HLEN.out; omega) (by have := HX.out.lt; simp; omega) ?_; intro v1 wa hv hg; obtain ⟨A1, l1, c1, rfl⟩ := hv.shape; have HV1 := Lib.hid hv; have HX1 : Hid (BxR wa w1.heap.size (.string n) v) := Lib.hid ((HX.out.alloc _).kept (hg.block _ (by have := HX.out.lt; simp; omega) (fun e => by have := (HO.out.lt _ e.symm).1; omega))); have HB1 := Lib.hid ((HB.out.alloc HB.out.size _).grown hg (by have := HB.out.size; simp; omega) (fun g hg => by have := (HO.out.lt g hg).1; omega)); have y1 := HX1.out.cells.2; have f1 := HX1.out.frz 1; have HXB : Hid (BxR (wa.setCell ⟨w1.heap.size, 1, none⟩ (.slice A1 l1 c1)) w1.heap.size (.string n) (.slice A1 l1 c1)) := Lib.hid (HX1.out.s1 _); have HBB : Hid (Below w1.heap.size w1 (wa.setCell ⟨w1.heap.size, 1, none⟩ (.slice A1 l1 c1))) := Lib.hid (HB1.out.setCell (p := ⟨w1.heap.size, 1, none⟩) (Nat.le_refl _) _); have HVB := Lib.hid (HV1.out.cellset (p := ⟨w1.heap.size, 1, none⟩) (Nat.lt_succ_self _) (.slice A1 l1 c1)); clear hv hg x1 g1))
          go_roundw
          case rel => exact ⟨k + 1, _, by go_num, by omega, HXB.out, by rw [HS.out]; first | exact HVB.out | (have := HVB.out; simpa [bitL] using this), HBB.out⟩
          case measure => simp [intOf]; omega
        | true =>
          go_wp2_with (at_builtin; first | (refine append_I rfl (.tmp 20) (.tmp 21) rfl (w1.heap.size + 1) _ _ rfl (HO.out.stay ((Below.refl _ _).alloc (Nat.le_refl _) _)) ⟨wr.heap.size, 0, none⟩ 1 2 rfl (by simp) rfl (by have := HKL.out; have := HLEN.out; omega) (by have := HX.out.lt; simp; omega) ?_; intro v1 wa hv hg; obtain ⟨A1, l1, c1, rfl⟩ := hv.shape; have HV1 := Lib.hid hv; have HX1 : Hid (BxR wa w1.heap.size (.string n) v) := Lib.hid ((HX.out.alloc _).kept (hg.block _ (by have := HX.out.lt; simp; omega) (fun e => by have := (HO.out.lt _ e.symm).1; omega))); have HB1 := Lib.hid ((HB.out.alloc HB.out.size _).grown hg (by have := HB.out.size; simp; omega) (fun g hg => by have := (HO.out.lt g hg).1; omega)); have y1 := HX1.out.cells.2; have f1 := HX1.out.frz 1; have HXB : Hid (BxR (wa.setCell ⟨w1.heap.size, 1, none⟩ (.slice A1 l1 c1)) w1.heap.size (.string n) (.slice A1 l1 c1)) := Lib.hid (HX1.out.s1 _); have HBB : Hid (Below w1.heap.size w1 (wa.setCell ⟨w1.heap.size, 1, none⟩ (.slice A1 l1 c1))) := Lib.hid (HB1.out.setCell (p := ⟨w1.heap.size, 1, none⟩) (Nat.le_refl _) _); have HVB := Lib.hid (HV1.out.cellset (p := ⟨w1.heap.size, 1, none⟩) (Nat.lt_succ_self _) (.slice A1 l1 c1)); clear hv hg x1 g1) | go_loud (refine append_I rfl (.tmp 26) (.tmp 27) rfl (w1.heap.size + 1) _ _ rfl (HVB.out.stay ((Below.refl _ _).alloc (Nat.le_refl _) _)) ⟨wa.heap.size, 0, none⟩ 1 1 rfl (cell_after _ _ _ _) rfl (by have h5 := HKL.out; have h6 := HLEN.out; first | (simp only [List.length_append, List.length_cons, List.length_nil]; omega) | omega) (by first | (have := HXB.out.lt; simp at this ⊢; omega) | (have := HXB.out.lt; simp; omega) | (have := HXB.out.lt; omega)) ?_; intro v2 wc hv hg; obtain ⟨A2, l2, c2, rfl⟩ := hv.shape; have HV2 := Lib.hid hv; have HX2 : Hid (BxR wc w1.heap.size (.string n) (.slice A1 l1 c1)) := Lib.hid ((HXB.out.alloc _).kept (hg.block _ (by first | (have := HXB.out.lt; simp at this ⊢; omega) | (have := HXB.out.lt; simp; omega) | (have := HXB.out.lt; omega)) (fun e => by have := (HVB.out.lt _ e.symm).1; omega))); have HB2 := Lib.hid ((HBB.out.alloc HBB.out.size _).grown hg (by first | (have := HBB.out.size; simp at this ⊢; omega) | (have := HBB.out.size; simp; omega) | (have := HBB.out.size; omega)) (fun g hg => by have := (HVB.out.lt g hg).1; omega)); have y2 := HX2.out.cells.2; have f2 := HX2.out.frz 1; have HXC : Hid (BxR (wc.setCell ⟨w1.heap.size, 1, none⟩ (.slice A2 l2 c2)) w1.heap.size (.string n) (.slice A2 l2 c2)) := Lib.hid (HX2.out.s1 _); have HBC : Hid (Below w1.heap.size w1 (wc.setCell ⟨w1.heap.size, 1, none⟩ (.slice A2 l2 c2))) := Lib.hid (HB2.out.setCell (p := ⟨w1.heap.size, 1, none⟩) (Nat.le_refl _) _); have HVC := Lib.hid (HV2.out.cellset (p := ⟨w1.heap.size, 1, none⟩) (Nat.lt_succ_self _) (.slice A2 l2 c2)); clear hv hg y1 f1))
          go_roundw
          case rel => exact ⟨k + 1, _, by go_num, by omega, HXC.out, by rw [HS.out]; first | exact HVC.out | (have := HVC.out; simpa [bitL] using this), HBC.out⟩
          case measure => simp [intOf]; omega
    · have hlt' : ¬ (k : Int) < bs.length := by omega
      have HT : Hid (bs.take k = bs) := Lib.hid (List.take_of_length_le (by omega))
      obtain ⟨A2, c2, rfl, hc2, hi2⟩ := ho.sl
      rw [HT.out] at hc2 hi2 x1
      have Y2 : Hid (BxR wr w.heap.size (.string ⟨#[]⟩) (.slice none 0 0)) := Lib.hid (Y1.out.stay hb)
      have hle : w.heap.size ≤ w.heap.size := Nat.le_refl _
      obtain ⟨z1, z2, z3⟩ := ref_end (n := n) Y2.out hle (B1.out.trans (hb.mono B1.out.size)) hc2 hi2
      have HZ1 := Lib.hid z1
      have hyy := Y2.out.cells
      have hf0 := Y2.out.frz 0
      have hf1 := Y2.out.frz 1
      obtain ⟨hy0, hy1⟩ := hyy
      clear hx ho hb z1 hc2 hi2 HX HO hle
      go_wp2_with fail
      obtain ⟨⟨u, e, hu⟩, hbl⟩ := HZ1.out
      cases e
      exact bodyPost_ret (by simp [results, Tryz.results50, go_sem, z2, z3]) rfl ⟨⟨_, rfl, hu⟩, hbl⟩
end Go.Proofs.YtgicbmibhnnflaaGreatDoor
