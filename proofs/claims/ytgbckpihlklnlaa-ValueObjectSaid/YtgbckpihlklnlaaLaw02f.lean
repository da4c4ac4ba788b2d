
/-
  The law ValueObject.
-/
import Derived.Test.YtgbckpihlklnlaaRObject
import Derived.Test.YtgbckpihlklnlaaGot
namespace Go.Proofs.Ytgbckpihlklnlaa
open Go.RowKit
def OV (c ko : Int) (A : Option Addr) (li ci : Nat) (K : Option Addr) (lk ck : Nat) : Value := .tuple #[.agg #[.int .i64 ko, .int .i64 0, .string ⟨#[]⟩, .slice A li ci, .slice K lk ck], .int .i64 c]
def OPost (c ko : Int) (li lk : Nat) (t : VT) (w : World) (e : Ending) (w' : World) : Prop :=
  (∃ (A : Option Addr) (ci : Nat) (K : Option Addr) (ck : Nat), e = .returned (.tuple #[.agg #[.int .i64 ko, .int .i64 0, .string ⟨#[]⟩, .slice A li ci, .slice K lk ck], .int .i64 c]) ∧ Rd w' w'.heap.size (.agg #[.int .i64 ko, .int .i64 0, .string ⟨#[]⟩, .slice A li ci, .slice K lk ck]) t) ∧ Below w.heap.size w w'
theorem both_any (K : Option Addr) (lk ck : Nat) (A : Option Addr) (li ci : Nat) (V : Nat → Value) (keys : List ByteArray) (items : List VT) (w : World) (hlk : keys.length = lk) (hbk : lk * 16 ≤ 140737488351232) (hks : ∀ s ∈ keys, s.size ≤ 140737488351232) (hK : KeysAt w w.heap.size K keys)
    (hli : items.length = li) (hbi : li * 80 ≤ 140737488351232) (hA : 0 < li → ∃ a, A = some a ∧ a.block < w.heap.size ∧ ∀ i, i < li → C5 w (a.add (i * 5)) (V i)) (hr : ∀ (i : Nat) (t : VT), items[i]? = some t → Rd w w.heap.size (V i) t) :
    ∃ (c ko : Int) (li' lk' : Nat) (t : VT), (c = 0 → t = .mk 6 0 ⟨#[]⟩ items keys ∧ lk = li ∧ keys.Nodup) ∧ lk' ≤ lk ∧
      (∀ w1, Below w.heap.size w w1 → Calls Try.prog 7 #[.slice K lk ck, .slice A li ci] w1 (OPost c ko li' lk' t w1)) ∧
      (∀ w1, Below w.heap.size w w1 → Calls Try.prog 8 #[.slice K lk ck, .slice A li ci] w1 (OPost c ko li' lk' t w1)) := by
  have hz : ∀ w' : World, Rd w' w'.heap.size zeroV (bareT 0 0 ⟨#[]⟩) := fun w' => rd_bare w' _ 0 0 ⟨#[]⟩ (by unfold small; omega) (by unfold small; omega) (by decide)
  have h1 : ∀ w1, Below w.heap.size w w1 → _ := fun w1 hb => object_any K lk ck A li ci keys w1 w.heap.size hlk hbk hbi hks (hK.kept hb) hb.size
  have h2 : ∀ w1, Below w.heap.size w w1 → _ := fun w1 hb => robject_any K lk ck A li ci V keys items w1 w.heap.size hlk hbk hks (hK.kept hb) hli hbi
    (fun h => by obtain ⟨a, e, ha, hc⟩ := hA h; exact ⟨a, e, ha, fun i hi => (hc i hi).kept (by rw [add_block]; exact ha) hb⟩) (fun i t ht => (hr i t ht).kept hb) hb.size
  by_cases e1 : lk = li
  · by_cases e2 : keys.Nodup
    · refine ⟨0, 6, li, lk, .mk 6 0 ⟨#[]⟩ items keys, fun _ => ⟨rfl, e1, e2⟩, Nat.le_refl _, fun w1 hb => (h1 w1 hb).mono ?_, fun w1 hb => (h2 w1 hb).mono ?_⟩
      · rintro e w' ⟨rfl, hb'⟩
        unfold objectV
        rw [if_neg (by omega), if_pos e2]
        refine ⟨⟨A, ci, K, ck, rfl, .mk V (by unfold small; omega) (by unfold small; omega) (by decide) hks hli hlk hbi hbk (fun h => ?_) (fun i t ht => ?_) ?_⟩, hb'⟩
        · obtain ⟨a, e, ha, hc⟩ := hA h
          have hbb := hb.trans (hb'.mono hb.size)
          exact ⟨a, e, Nat.lt_of_lt_of_le ha hbb.size, fun i hi => (hc i hi).kept (by rw [add_block]; exact ha) hbb⟩
        · have hbb := hb.trans (hb'.mono hb.size)
          exact ((hr i t ht).kept hbb).mono hbb.size
        · have hbb := hb.trans (hb'.mono hb.size)
          intro h
          obtain ⟨a, e, ha, hc⟩ := hK.kept hbb h
          exact ⟨a, e, Nat.lt_of_lt_of_le ha hbb.size, hc⟩
      · rintro e w' ⟨h, hb'⟩
        rw [if_neg (by omega), if_neg (by simpa using e2)] at h
        obtain ⟨A2, c2, K2, d2, rfl, hrd⟩ := h
        exact ⟨⟨A2, c2, K2, d2, rfl, hrd⟩, hb'⟩
    · refine ⟨7, 0, 0, 0, bareT 0 0 ⟨#[]⟩, fun h => by omega, Nat.zero_le _, fun w1 hb => (h1 w1 hb).mono ?_, fun w1 hb => (h2 w1 hb).mono ?_⟩
      · rintro e w' ⟨rfl, hb'⟩
        unfold objectV
        rw [if_neg (by omega), if_neg e2]
        exact ⟨⟨none, 0, none, 0, rfl, hz _⟩, hb'⟩
      · rintro e w' ⟨h, hb'⟩
        rw [if_neg (by omega), if_pos e2] at h
        exact ⟨⟨none, 0, none, 0, h, hz _⟩, hb'⟩
  · refine ⟨2, 0, 0, 0, bareT 0 0 ⟨#[]⟩, fun h => by omega, Nat.zero_le _, fun w1 hb => (h1 w1 hb).mono ?_, fun w1 hb => (h2 w1 hb).mono ?_⟩
    · rintro e w' ⟨rfl, hb'⟩
      unfold objectV
      rw [if_pos e1]
      exact ⟨⟨none, 0, none, 0, rfl, hz _⟩, hb'⟩
    · rintro e w' ⟨h, hb'⟩
      rw [if_pos e1] at h
      exact ⟨⟨none, 0, none, 0, h, hz _⟩, hb'⟩
theorem get_at (items : List VT) (keys : List ByteArray) (n : Int) (s : ByteArray) (hnd : keys.Nodup) (hl : keys.length = items.length) {j : Nat} {x : ByteArray} {t : VT} (hk : keys[j]? = some x) (ht : items[j]? = some t) : VT.get (.mk 6 n s items keys) x = some t := by
  have hno : x ∉ keys.take j := by
    intro h
    obtain ⟨i, hi, e⟩ := List.getElem_of_mem h
    have hjl := (List.getElem?_eq_some_iff.1 hk).1
    have hi' : i < j := by simp at hi; omega
    rw [List.getElem_take] at e
    have h2 := List.pairwise_iff_getElem.1 hnd i j (by omega) hjl hi'
    have h3 : keys[j] = x := by rw [List.getElem?_eq_getElem hjl] at hk; exact Option.some.inj hk
    exact h2 (e.trans h3.symm)
  have hidx : Lib.idxOfS keys x = (j : Int) := by
    unfold Lib.idxOfS
    rw [idxF_at x keys 0 j hk hno]
    simp
  show (if (6 : Int) = 6 ∧ 0 ≤ Lib.idxOfS keys x then items[(Lib.idxOfS keys x).toNat]? else none) = some t
  rw [hidx, if_pos ⟨rfl, by omega⟩]
  simpa using ht
theorem Rd.shape' {w : World} {B : Nat} {v : Value} {t : VT} (h : Rd w B v t) : ∃ (k n : Int) (s : ByteArray) (A : Option Addr) (li ci : Nat) (K : Option Addr) (lk ck : Nat), v = .agg #[.int .i64 k, .int .i64 n, .string s, .slice A li ci, .slice K lk ck] := h.shape
theorem runs_idx1 {ops : Array Oper} {Q : Exit → Act → World → Prop} {o : Oper} {a : Act} {w : World} {R : Value → World → Prop} (hw : Region.wanted o (yielded ops a.tmps) = true) (x y : Operand) {ka : Addr} {l c j : Nat}
    (ho : o.op = .indexAddr 22 x y) (hx : a.eval x = .slice (some ka) l c) (hy : a.eval y = .int .i64 j) (hj : j < l) (h : R (.pointer (some (ka.add j))) w) : Runs Try.prog ops Q o a w R :=
  runs_value hw (by generalize a.eval = ρ at hx hy; simp [execOp, ho, go_sem, hx, hy, hj]) h
theorem runs_ldstr {ops : Array Oper} {Q : Exit → Act → World → Prop} {o : Oper} {a : Act} {w : World} {R : Value → World → Prop} (hw : Region.wanted o (yielded ops a.tmps) = true) (x : Operand) {p : Addr} {v : Value}
    (ho : o.op = .load 9 x) (hx : a.eval x = .pointer (some p)) (hc : w.cell? p = some v) (h : R v w) : Runs Try.prog ops Q o a w R :=
  runs_value hw (by generalize a.eval = ρ at hx; simp [execOp, ho, go_sem, hx, hc]) h
theorem en_get : ∀ (args : Array Value) (w : World), (callFunc 10 args).run Try.prog w = .ok (.enter 10 args) w := enters_of Try.func10 (by kernel_rfl) rfl
def GotT (N : Nat) (x : VT) (w : World) (v : Value) : Prop := (∃ (k n : Int) (s : ByteArray) (A : Option Addr) (li ci : Nat) (K : Option Addr) (lk ck : Nat), v = .agg #[.int .i64 k, .int .i64 n, .string s, .slice A li ci, .slice K lk ck]) ∧ Rd w N v x ∧ N ≤ w.heap.size
theorem GotT.kept {N : Nat} {x : VT} {w w' : World} {v : Value} (h : GotT N x w v) (hb : Below w.heap.size w w') : GotT N x w' v :=
  ⟨h.1, h.2.1.kept (hb.mono h.2.2), Nat.le_trans h.2.2 hb.size⟩
def GO (N : Nat) (O : Value) (ka : Addr) (lk ck j : Nat) (x : ByteArray) (tj : VT) : Nat → Value → World → Prop
  | 0, v, _ => v = O
  | 1, v, _ => v = .slice (some ka) lk ck
  | 2, v, _ => v = .int .i64 j
  | 3, v, _ => v = .pointer (some (ka.add j))
  | 4, v, _ => v = .string x
  | 5, v, w => ∃ u, v = .tuple #[u, .bool true] ∧ GotT N tj w u
  | 6, v, w => ∃ u, v = .tuple #[u, .bool true] ∧ GotT N tj w u
  | 7, v, w => GotT N tj w v
  | 8, v, _ => v = .bool true
  | 9, v, w => ∃ g, v = .pointer (some ⟨g, 0, none⟩) ∧ N ≤ g ∧ Box0 w g
  | 11, v, _ => v = .bool true
  | _, _, _ => False
def PO : Nat → Value → Prop
  | 6, v => ∃ x, v = .tuple #[x, .bool true]
  | 8, v => v = .bool true
  | 11, v => v = .bool true
  | _, _ => True
theorem GO.pers (N : Nat) (O : Value) (ka : Addr) (lk ck j : Nat) (x : ByteArray) (tj : VT) (i : Nat) (v : Value) (w w' : World) (h : GO N O ka lk ck j x tj i v w) (hb : Below w.heap.size w w') : GO N O ka lk ck j x tj i v w' := by
  match i, h with
  | 0, h => exact h
  | 1, h => exact h
  | 2, h => exact h
  | 3, h => exact h
  | 4, h => exact h
  | 5, ⟨u, e, h⟩ => exact ⟨u, e, h.kept hb⟩
  | 6, ⟨u, e, h⟩ => exact ⟨u, e, h.kept hb⟩
  | 7, h => exact GotT.kept h hb
  | 8, h => exact h
  | 9, ⟨g, e, h, h'⟩ => exact ⟨g, e, h, Box.kept h' hb⟩
  | 11, h => exact h
theorem GO.p (N : Nat) (O : Value) (ka : Addr) (lk ck j : Nat) (x : ByteArray) (tj : VT) (i : Nat) (v : Value) (w : World) (h : GO N O ka lk ck j x tj i v w) : PO i v := by
  match i, h with
  | 0, _ => trivial
  | 1, _ => trivial
  | 2, _ => trivial
  | 3, _ => trivial
  | 4, _ => trivial
  | 5, _ => trivial
  | 6, ⟨u, e, h⟩ => exact ⟨u, e⟩
  | 7, _ => trivial
  | 8, h => exact h
  | 9, _ => trivial
  | 11, h => exact h
def FinO (W0 : World) (tj : VT) (v : Value) (w : World) : Prop := ∃ (g : Nat) (k n : Int) (s : ByteArray) (A : Option Addr) (li ci : Nat) (K : Option Addr) (lk ck : Nat), v = .pointer (some ⟨g, 0, none⟩) ∧ Box w g (.int .i64 k) (.int .i64 n) (.string s) (.slice A li ci) (.slice K lk ck) ∧ Rd w w.heap.size (.agg #[.int .i64 k, .int .i64 n, .string s, .slice A li ci, .slice K lk ck]) tj ∧ Below W0.heap.size W0 w
set_option maxRecDepth 100000 in
set_option maxHeartbeats 2000000 in
theorem object_row {w : World} (K : Option Addr) (lk ck : Nat) (keys : List ByteArray) (A : Option Addr) (li ci : Nat) (items : List VT) (k : ByteArray) (hlk : keys.length = lk) (hbk : lk * 16 ≤ 140737488351232) (hks : ∀ s ∈ keys, s.size ≤ 140737488351232) (hK : KeysAt w w.heap.size K keys)
    (h : Rd w w.heap.size (.agg #[.int .i64 0, .int .i64 0, .string ⟨#[]⟩, .slice A li ci, .slice none 0 0]) (.mk 0 0 ⟨#[]⟩ items [])) (_ : k.size ≤ 140737488351232) :
    Calls Try.prog 3 #[.slice K lk ck, .slice A li ci, .string k] w fun e w' => e = .returned (.bool true) ∧ Below w.heap.size w w' := by
  have HF := Lib.hid (few_any _ w w.heap.size _ h (Nat.le_refl _))
  obtain ⟨V, hli, hbi, hA, hr⟩ : ∃ V : Nat → Value, items.length = li ∧ li * 80 ≤ 140737488351232 ∧ (0 < li → ∃ a, A = some a ∧ a.block < w.heap.size ∧ ∀ i, i < li → C5 w (a.add (i * 5)) (V i)) ∧ (∀ (i : Nat) (t : VT), items[i]? = some t → Rd w w.heap.size (V i) t) := by
    cases h with
    | mk V hk hn hs hks hli hlk hbi hbk hA hr hK => exact ⟨V, hli, hbi, hA, hr⟩
  obtain ⟨c, ko, lo, mo, t, hc0, hmo, ho, hp⟩ := both_any K lk ck A li ci V keys items w hlk hbk hks hK hli hbi hA hr
  have HO := Lib.hid ho
  have HP := Lib.hid hp
  have HA := Lib.hid hA
  have HR := Lib.hid hr
  have HLI := Lib.hid hli
  have HLK := Lib.hid hlk
  have HKK := Lib.hid hK
  have HC0 := Lib.hid hc0
  clear h ho hp hA hr hli hlk hK hc0
  have hlm : (lk : Int) ≤ 140737488351232 := by omega
  by_cases h60 : lk > 60
  · have h60' : (lk : Int) > 60 := by omega
    go_enter Try.func3, Try.ntmps3
    go_wp2_with fail
    refine (knows_any _).mono ?_
    rintro e w1 ⟨rfl, b1⟩
    have B1 := Lib.hid b1
    clear b1
    go_wp2_with fail
    go_ret
    exact ⟨rfl, B1.out⟩
  · have h60' : ¬ (lk : Int) > 60 := by omega
    go_enter Try.func3, Try.ntmps3
    go_wp2_with fail
    refine HF.out.mono ?_
    rintro e w1 ⟨rfl, b1⟩
    have B1 := Lib.hid b1
    clear b1
    cases hf : decide (VT.cnt 400 (.mk 0 0 ⟨#[]⟩ items []) 0 ≤ 400)
    · go_wp2_with fail
      refine (knows_any _).mono ?_
      rintro e w2 ⟨rfl, b2⟩
      have B2 := Lib.hid (B1.out.trans (b2.mono B1.out.size))
      clear b2
      go_wp2_with fail
      go_ret
      exact ⟨rfl, B2.out⟩
    · go_wp2_with fail
      refine (HO.out _ B1.out).mono ?_
      rintro e w2 ⟨⟨A2, c2, K2, d2, rfl, hr2⟩, b2⟩
      have B2 := Lib.hid (B1.out.trans (b2.mono B1.out.size))
      have R2 := Lib.hid hr2
      clear b2 hr2 B1
      have bz : Below w2.heap.size w2 (w2.alloc (.cells #[.int .i64 ko, .int .i64 0, .string ⟨#[]⟩, .slice A2 lo c2, .slice K2 mo d2] 26 (0, 0))) := (Below.refl _ _).alloc (Nat.le_refl _) _
      have Y3 := Lib.hid (Box.new w2 (.int .i64 ko) (.int .i64 0) (.string ⟨#[]⟩) (.slice A2 lo c2) (.slice K2 mo d2))
      have R3 := Lib.hid ((R2.out.kept bz).mono bz.size)
      have B3 := Lib.hid (B2.out.trans (bz.mono B2.out.size))
      clear bz
      go_wp2_with fail
      refine (HP.out _ B3.out).mono ?_
      rintro e w4 ⟨⟨A4, c4, K4, d4, rfl, hr4⟩, b4⟩
      have B4 := Lib.hid (B3.out.trans (b4.mono B3.out.size))
      have Y4 := Lib.hid (Y3.out.kept b4)
      have R4 := Lib.hid ((R3.out.kept b4).mono b4.size)
      have S4 := Lib.hid hr4
      clear b4 hr4 B3 Y3 R3 B2 R2
      have bz : Below w4.heap.size w4 (w4.alloc (.cells #[.int .i64 ko, .int .i64 0, .string ⟨#[]⟩, .slice A4 lo c4, .slice K4 mo d4] 26 (0, 0))) := (Below.refl _ _).alloc (Nat.le_refl _) _
      have Y5 := Lib.hid (Y4.out.kept bz)
      have Z5 := Lib.hid (Box.new w4 (.int .i64 ko) (.int .i64 0) (.string ⟨#[]⟩) (.slice A4 lo c4) (.slice K4 mo d4))
      have R5 := Lib.hid ((R4.out.kept bz).mono bz.size)
      have S5 := Lib.hid ((S4.out.kept bz).mono bz.size)
      have B5 := Lib.hid (B4.out.trans (bz.mono B4.out.size))
      clear bz Y4 R4 S4 B4
      obtain ⟨p0, p1, p2, p3, p4⟩ := Y5.out.cells
      obtain ⟨q0, q1, q2, q3, q4⟩ := Z5.out.cells
      have C1 := Lib.hid (by have h := rsame_any _ _ _ _ _ _ R5.out S5.out (Nat.le_refl _); rw [decide_eq_true (VT.cmp_self _)] at h; exact h)
      go_wp2_with fail
      refine C1.out.mono ?_
      rintro e w6 ⟨rfl, b6⟩
      have B6 := Lib.hid (B5.out.trans (b6.mono B5.out.size))
      have Y6 := Lib.hid (Y5.out.kept b6)
      have Z6 := Lib.hid (Z5.out.kept b6)
      have R6 := Lib.hid ((R5.out.kept b6).mono b6.size)
      clear b6 B5 Y5 Z5 R5 S5 p0 p1 p2 p3 p4 q0 q1 q2 q3 q4
      obtain ⟨p0, p1, p2, p3, p4⟩ := Y6.out.cells
      obtain ⟨q0, q1, q2, q3, q4⟩ := Z6.out.cells
      have hmm : (mo : Int) ≤ 140737488351232 := by omega
      go_wp2_with fail
      clear p0 p1 p2 p3 p4 q0 q1 q2 q3 q4
      refine (got_any _ k _ _ _ R6.out (Nat.le_refl _)).mono ?_
      rintro e w7 ⟨⟨k7, n7, s7, A7, li7, ci7, K7, lk7, ck7, rfl, hr7⟩, b7⟩
      have B7 := Lib.hid (B6.out.trans (b7.mono B6.out.size))
      have Y7 := Lib.hid (Y6.out.kept b7)
      have R7 := Lib.hid ((R6.out.kept b7).mono b7.size)
      have T7 := Lib.hid hr7
      clear b7 hr7 B6 Y6 Z6 R6
      have bz : Below w7.heap.size w7 (w7.alloc (.cells #[.int .i64 k7, .int .i64 n7, .string s7, .slice A7 li7 ci7, .slice K7 lk7 ck7] 26 (0, 0))) := (Below.refl _ _).alloc (Nat.le_refl _) _
      have Y8 := Lib.hid (Y7.out.kept bz)
      have X8 := Lib.hid (Box.new w7 (.int .i64 k7) (.int .i64 n7) (.string s7) (.slice A7 li7 ci7) (.slice K7 lk7 ck7))
      have R8 := Lib.hid ((R7.out.kept bz).mono bz.size)
      have T8 := Lib.hid ((T7.out.kept bz).mono bz.size)
      have B8 := Lib.hid (B7.out.trans (bz.mono B7.out.size))
      clear bz B7 Y7 R7 T7
      obtain ⟨p0, p1, p2, p3, p4⟩ := Y8.out.cells
      go_wp2_with fail
      clear p0 p1 p2 p3 p4
      refine (rgot_any _ k _ _ _ R8.out (Nat.le_refl _)).mono ?_
      rintro e w9 ⟨⟨k9, n9, s9, A9, li9, ci9, K9, lk9, ck9, rfl, hr9⟩, b9⟩
      have B9 := Lib.hid (B8.out.trans (b9.mono B8.out.size))
      have Y9 := Lib.hid (Y8.out.kept b9)
      have X9 := Lib.hid (X8.out.kept b9)
      have R9 := Lib.hid ((R8.out.kept b9).mono b9.size)
      have T9 := Lib.hid ((T8.out.kept b9).mono b9.size)
      have U9 := Lib.hid hr9
      clear b9 hr9 B8 Y8 X8 R8 T8
      have bz : Below w9.heap.size w9 (w9.alloc (.cells #[.int .i64 k9, .int .i64 n9, .string s9, .slice A9 li9 ci9, .slice K9 lk9 ck9] 26 (0, 0))) := (Below.refl _ _).alloc (Nat.le_refl _) _
      have Y10 := Lib.hid (Y9.out.kept bz)
      have X10 := Lib.hid (X9.out.kept bz)
      have Z10 := Lib.hid (Box.new w9 (.int .i64 k9) (.int .i64 n9) (.string s9) (.slice A9 li9 ci9) (.slice K9 lk9 ck9))
      have R10 := Lib.hid ((R9.out.kept bz).mono bz.size)
      have T10 := Lib.hid ((T9.out.kept bz).mono bz.size)
      have U10 := Lib.hid ((U9.out.kept bz).mono bz.size)
      have B10 := Lib.hid (B9.out.trans (bz.mono B9.out.size))
      have hY : w2.heap.size < w9.heap.size := Y9.out.lt
      clear bz B9 Y9 X9 R9 T9 U9
      obtain ⟨p0, p1, p2, p3, p4⟩ := X10.out.cells
      obtain ⟨q0, q1, q2, q3, q4⟩ := Z10.out.cells
      have C2 := Lib.hid (by have h := rsame_any _ _ _ _ _ _ T10.out U10.out (Nat.le_refl _); rw [decide_eq_true (VT.cmp_self _)] at h; exact h)
      clear X10 Z10 T10 U10
      have hyes : ∃ b, (t.get k).isSome = b := ⟨_, rfl⟩
      obtain ⟨yes, hyes⟩ := hyes
      rw [hyes]
      have hne : (yes != yes) = false := by simp
      go_wp2_with fail
      refine C2.out.mono ?_
      rintro e w11 ⟨rfl, b11⟩
      have B11 := Lib.hid (B10.out.trans (b11.mono B10.out.size))
      have Y11 := Lib.hid (Y10.out.kept b11)
      have R11 := Lib.hid ((R10.out.kept b11).mono b11.size)
      clear b11 p0 p1 p2 p3 p4 q0 q1 q2 q3 q4 B10 Y10 R10
      go_wp2_with fail
      clear hne hyes hY
      go_loopw [15] (fun i wr => ∃ j : Nat, j ≤ lk ∧ i = .int .i64 j ∧ Below w.heap.size w wr ∧ Box wr w2.heap.size (.int .i64 ko) (.int .i64 0) (.string ⟨#[]⟩) (.slice A2 lo c2) (.slice K2 mo d2) ∧ Rd wr wr.heap.size (.agg #[.int .i64 ko, .int .i64 0, .string ⟨#[]⟩, .slice A2 lo c2, .slice K2 mo d2]) t) (fun i _ => lk - (intOf i).toNat)
      case atStart => exact ⟨0, Nat.zero_le _, rfl, B11.out, Y11.out, R11.out⟩
      case round =>
        obtain ⟨j, hj, rfl, hb, hy, hr⟩ := hrel
        have HB := Lib.hid hb
        have HY := Lib.hid hy
        have HRD := Lib.hid hr
        clear hb hy hr B11 Y11 R11
        by_cases h0 : c = 0
        · subst h0
          obtain ⟨rfl, hll, hnd⟩ := HC0.out rfl
          by_cases hlt : j < lk
          · have hji : j < li := by omega
            have hls : keys.length = items.length := by have := HLK.out; have := HLI.out; omega
            clear hll
            have hlt' : (j : Int) < lk := by omega
            obtain ⟨ka, hka, hkab, hkc⟩ := HKK.out (by have := HLK.out; omega)
            obtain ⟨x, hx⟩ : ∃ x, keys[j]? = some x := ⟨_, List.getElem?_eq_getElem (by have := HLK.out; omega)⟩
            have hcx : wr.cell? (ka.add j) = some (.string x) := by rw [HB.out.cell (by rw [add_block]; exact hkab)]; exact hkc j x hx
            obtain ⟨a, tj, k1, n1, s1, A1, l1, c1, K1, lk1, ck1, rfl, htj, e5, hrd5, _, _, _, _, _⟩ := round_at HA.out HR.out HLI.out HB.out hji
            have hgt : VT.get (.mk 6 0 ⟨#[]⟩ items keys) x = some tj := get_at items keys 0 ⟨#[]⟩ hnd hls hx htj
            have HC : Hid (C5 w (a.add (j * 5)) (V j)) := Lib.hid (by obtain ⟨_, e, _, h⟩ := HA.out (by omega); cases e; exact h j hji)
            have hab : (a.add (j * 5)).block < w.heap.size := by obtain ⟨_, e, h, _⟩ := HA.out (by omega); cases e; rw [add_block]; exact h
            have HCX := Lib.hid hcx
            have HGT := Lib.hid hgt
            have E5 := Lib.hid e5
            have HRD5 := Lib.hid hrd5
            subst hka
            have HCX2 : Hid (∀ w3, Below wr.heap.size wr w3 → w3.cell? (ka.add j) = some (.string x)) := Lib.hid fun w3 hb3 => by rw [hb3.cell (by rw [add_block]; exact Nat.lt_of_lt_of_le hkab HB.out.size)]; exact hcx
            clear hcx hgt e5 hrd5 hkc hkab hx htj hnd
            go_wp2_with fail
            refine wp_region_facts (by kernel_rfl) (by kernel_rfl) 10 9 (by kernel_rfl) (fun i => i == 8 || i == 11) (by kernel_rfl) (GO wr.heap.size (.agg #[.int .i64 ko, .int .i64 0, .string ⟨#[]⟩, .slice A2 lo c2, .slice K2 mo d2]) ka lk ck j x tj) PO (FinO wr tj) (GO.p _ _ _ _ _ _ _ _) (GO.pers _ _ _ _ _ _ _ _) (fun i v w hp h => by
              have : i = 8 ∨ i = 11 := by simpa using hp
              rcases this with rfl | rfl <;> exact h) ?_ ?_ ?_ ?_
            · intro i o ho his hpu a w3 hf hbl had
              have hi : i < 12 := (Array.getElem?_eq_some_iff.1 ho).1
              have hn : i ≠ 8 ∧ i ≠ 11 := by simpa using hpu
              have hc : i = 0 ∨ i = 1 ∨ i = 2 ∨ i = 3 ∨ i = 4 ∨ i = 5 ∨ i = 6 ∨ i = 7 ∨ i = 9 := by omega
              rcases hc with rfl | rfl | rfl | rfl | rfl | rfl | rfl | rfl | rfl
              · cases ho
                have s1 := hf.slot 7 (by kernel_rfl)
                exact runs_load5 rfl (.tmp 7) rfl s1 (HY.out.kept hbl) ⟨Below.refl _ _, rfl⟩
              · cases ho
                have s1 := hf.slot 0 (by kernel_rfl)
                exact runs_move rfl (.tmp 0) rfl s1 ⟨Below.refl _ _, rfl⟩
              · cases ho
                have s1 := hf.slot 15 (by kernel_rfl)
                exact runs_move rfl (.tmp 15) rfl s1 ⟨Below.refl _ _, rfl⟩
              · cases ho
                have h1 : vof _ a 1 = .slice (some ka) lk ck := had ⟨1, .data⟩ (by simp) rfl (by decide)
                have h2 : vof _ a 2 = .int .i64 j := had ⟨2, .data⟩ (by simp) rfl (by decide)
                exact runs_idx1 rfl (.tmp 91) (.tmp 92) rfl h1 h2 hlt ⟨Below.refl _ _, rfl⟩
              · cases ho
                have h1 : vof _ a 3 = .pointer (some (ka.add j)) := had ⟨3, .data⟩ (by simp) rfl (by decide)
                exact runs_ldstr rfl (.tmp 93) rfl h1 (HCX2.out w3 hbl) ⟨Below.refl _ _, rfl⟩
              · cases ho
                have h1 : vof _ a 0 = .agg #[.int .i64 ko, .int .i64 0, .string ⟨#[]⟩, .slice A2 lo c2, .slice K2 mo d2] := had ⟨0, .data⟩ (by simp) rfl (by decide)
                have h2 : vof _ a 4 = .string x := had ⟨4, .data⟩ (by simp) rfl (by decide)
                refine runs_call rfl _ _ _ rfl en_get #[.agg #[.int .i64 ko, .int .i64 0, .string ⟨#[]⟩, .slice A2 lo c2, .slice K2 mo d2], .string x] ((map2 _ _ _).trans (by rw [show a.eval (.tmp 90) = _ from h1, show a.eval (.tmp 94) = _ from h2])) ((get_any _ x w3 wr.heap.size _ (HRD.out.kept hbl) hbl.size).mono ?_)
                rintro e w' ⟨⟨u, h9⟩, hb9⟩
                rw [HGT.out] at h9
                obtain ⟨rfl, h9⟩ := h9
                exact ⟨_, rfl, hb9, u, rfl, h9.shape', h9.kept (hb9.mono hbl.size), Nat.le_trans hbl.size hb9.size⟩
              · cases ho
                obtain ⟨u, h1, h2⟩ : GO _ _ _ _ _ _ _ _ 5 (vof _ a 5) w3 := had ⟨5, .data⟩ (by simp) rfl (by decide)
                exact runs_move rfl (.tmp 95) rfl h1 ⟨Below.refl _ _, u, rfl, h2⟩
              · cases ho
                obtain ⟨u, h1, h2⟩ : GO _ _ _ _ _ _ _ _ 6 (vof _ a 6) w3 := had ⟨6, .data⟩ (by simp) rfl (by decide)
                exact runs_extract rfl (.tmp 89) 0 _ rfl h1 rfl ⟨Below.refl _ _, h2⟩
              · cases ho
                exact runs_alloc5 rfl rfl ⟨(Below.refl _ _).alloc (Nat.le_refl _) _, _, rfl, hbl.size, Box.new _ _ _ _ _ _⟩
            · intro i o ho his hpu a w3 hf had
              have : i = 8 ∨ i = 11 := by simpa using hpu
              rcases this with rfl | rfl
              · cases ho
                obtain ⟨u, h1⟩ : PO 6 (vof _ a 6) := had ⟨6, .data⟩ (by simp) rfl (by decide)
                exact runs_extract rfl (.tmp 89) 1 _ rfl h1 rfl ⟨rfl, rfl⟩
              · cases ho
                have h1 : PO 8 (vof _ a 8) := had ⟨8, .data⟩ (by simp) rfl (by decide)
                exact runs_assign rfl (.tmp 97) rfl h1 ⟨rfl, rfl⟩
            · intro o ho a w3 hf hbl had
              cases ho
              obtain ⟨g, h1, h2, h3⟩ : GO wr.heap.size _ _ _ _ _ _ _ 9 (vof _ a 9) w3 := had ⟨9, .data⟩ (by simp) rfl (by decide)
              obtain ⟨⟨k9, n9, s9, A9, li9, ci9, K9, lk9, ck9, h4⟩, h5, h6⟩ : GO wr.heap.size _ _ _ _ _ _ _ 7 (vof _ a 7) w3 := had ⟨7, .data⟩ (by simp) rfl (by decide)
              rw [h4] at h5
              have h7 := (((((Below.refl wr.heap.size w3).setCell (p := ⟨g, 0, none⟩) h2 (.int .i64 k9)).setCell (p := ⟨g, 1, none⟩) h2 (.int .i64 n9)).setCell (p := ⟨g, 2, none⟩) h2 (.string s9)).setCell (p := ⟨g, 3, none⟩) h2 (.slice A9 li9 ci9)).setCell (p := ⟨g, 4, none⟩) h2 (.slice K9 lk9 ck9)
              refine runs_store5 rfl (.tmp 16) (.tmp 96) rfl h1 h4 h3 rfl rfl rfl rfl rfl ⟨g, k9, n9, s9, A9, li9, ci9, K9, lk9, ck9, h1, Box.five h3 _ _ _ _ _, ?_, ?_⟩
              · exact (h5.kept h7).mono (Nat.le_trans h6 h7.size)
              · exact ((((hbl.setCell h2 _).setCell h2 _).setCell h2 _).setCell h2 _).setCell h2 _
            · intro a w3 hf hpure hfin _
              obtain ⟨g, k9, n9, s9, A9, li9, ci9, K9, lk9, ck9, h1, h2, h3, h4⟩ := hfin (by decide)
              have h8 : vof _ a 11 = .bool true := hpure 11 (by decide) (by decide)
              have ha := over_of hf [90, 91, 92, 93, 94, 95, 89, 96, 97, 16, 17] (by
                intro i k hk
                have hi : i < 12 := by
                  rcases Nat.lt_or_ge i 12 with h' | h'
                  · exact h'
                  · rw [dstOf, Array.getElem?_eq_none (by simpa using h')] at hk; cases hk
                have hc : i = 0 ∨ i = 1 ∨ i = 2 ∨ i = 3 ∨ i = 4 ∨ i = 5 ∨ i = 6 ∨ i = 7 ∨ i = 8 ∨ i = 9 ∨ i = 10 ∨ i = 11 := by omega
                rcases hc with rfl | rfl | rfl | rfl | rfl | rfl | rfl | rfl | rfl | rfl | rfl | rfl <;> (simp [dstOf] at hk; try (subst hk; simp)))
              have hg : (fun d => a.tmps.getD d undef) 16 = .pointer (some ⟨g, 0, none⟩) := h1
              have hg2 : (fun d => a.tmps.getD d undef) 17 = .bool true := h8
              generalize (fun d => a.tmps.getD d undef) = f at ha hg hg2
              subst ha
              clear hf hfin h1 h8 hpure
              have HG := Lib.hid hg
              have HG2 := Lib.hid hg2
              have H2 := Lib.hid h2
              have H3 := Lib.hid h3
              have H4 := Lib.hid h4
              have HB3 := Lib.hid (HB.out.trans (h4.mono HB.out.size))
              have HY3 := Lib.hid (Box.kept HY.out h4)
              have HRD3 := Lib.hid ((HRD.out.kept h4).mono h4.size)
              have HT5 : Hid (Rd w3 w3.heap.size (.agg #[.int .i64 k1, .int .i64 n1, .string s1, .slice A1 l1 c1, .slice K1 lk1 ck1]) tj) := Lib.hid (by
                rw [← E5.out]
                exact (HRD5.out.kept (h4.mono HB.out.size)).mono (Nat.le_trans HB.out.size h4.size))
              clear hg hg2 h2 h3 h4
              simp only [over, List.foldl_cons, List.foldl_nil, Act.put, List.setIfInBounds_toArray, List.set_cons_succ, List.set_cons_zero]
              rw [HG.out, HG2.out]
              generalize f 90 = u90
              generalize f 91 = u91
              generalize f 92 = u92
              generalize f 93 = u93
              generalize f 94 = u94
              generalize f 95 = u95
              generalize f 89 = u89
              generalize f 96 = u96
              generalize f 97 = u97
              clear HG HG2
              go_wp2_with fail
              refine wp_region_past (fun W => Box W g (.int .i64 k9) (.int .i64 n9) (.string s9) (.slice A9 li9 ci9) (.slice K9 lk9 ck9) ∧ Below w3.heap.size w3 W) ⟨H2.out, Below.refl _ _⟩ (by kernel_rfl) ?_
              intro W ⟨f1, f2⟩ _
              have f3 : Below w.heap.size w W := HB3.out.trans (f2.mono HB3.out.size)
              obtain ⟨p0, p1, p2, p3, p4⟩ := f1.past
              obtain ⟨r0, r1, r2, r3, r4⟩ := (HC.out.kept hab f3).past E5.out (Nat.lt_of_lt_of_le hab f3.size)
              have G2 := Lib.hid f2
              have G3 := Lib.hid f3
              have C3 : Hid (∀ x : Past W, Calls Try.prog 9 #[.agg #[.int .i64 k9, .int .i64 n9, .string s9, .slice A9 li9 ci9, .slice K9 lk9 ck9], .agg #[.int .i64 k1, .int .i64 n1, .string s1, .slice A1 l1 c1, .slice K1 lk1 ck1]] x.w fun e w'' => e = .returned (.bool true) ∧ ∃ y : Past W, w'' = y.w) :=
                Lib.hid fun x => past_of x (by
                  have b6 := G2.out.trans (x.b.mono G2.out.size)
                  have h := rsame_any tj tj x.w x.w.heap.size _ _ ((H3.out.kept b6).mono b6.size) ((HT5.out.kept b6).mono b6.size) (Nat.le_refl _)
                  rw [decide_eq_true (VT.cmp_self _)] at h
                  exact h)
              clear f1 f2 f3
              repeat (go_big_quiet_step (first | with_reducible exact C3.out _))
              refine wpQuiet_nil ?_
              intro _ hw'
              obtain ⟨x, rfl⟩ := hw'
              have b5 := G2.out.trans (x.b.mono G2.out.size)
              have HBx := Lib.hid (G3.out.trans (x.b.mono G3.out.size))
              have HYx := Lib.hid (Box.kept HY3.out b5)
              have HRx := Lib.hid ((HRD3.out.kept b5).mono b5.size)
              clear b5 p0 p1 p2 p3 p4 r0 r1 r2 r3 r4
              generalize x.w = wx at *
              go_wp2_with fail
              go_roundw
              case rel => exact ⟨j + 1, by omega, by go_num, HBx.out, HYx.out, HRx.out⟩
              case measure => simp [intOf]; omega
          · have hlt' : ¬ (j : Int) < lk := by omega
            go_wp2_with fail
            refine (knows_any _).mono ?_
            rintro e w12 ⟨rfl, b12⟩
            have B12 := Lib.hid (HB.out.trans (b12.mono HB.out.size))
            clear b12
            go_wp2_with fail
            go_ret
            exact ⟨rfl, B12.out⟩
        · have h0' : (c == 0) = false := by simp [h0]
          by_cases hlt : j < lk
          · have hlt' : (j : Int) < lk := by omega
            go_wp2_with fail
            refine (knows_any _).mono ?_
            rintro e w12 ⟨rfl, b12⟩
            have B12 := Lib.hid (HB.out.trans (b12.mono HB.out.size))
            clear b12
            go_wp2_with fail
            go_ret
            exact ⟨rfl, B12.out⟩
          · have hlt' : ¬ (j : Int) < lk := by omega
            go_wp2_with fail
            refine (knows_any _).mono ?_
            rintro e w12 ⟨rfl, b12⟩
            have B12 := Lib.hid (HB.out.trans (b12.mono HB.out.size))
            clear b12
            go_wp2_with fail
            go_ret
            exact ⟨rfl, B12.out⟩
end Go.Proofs.Ytgbckpihlklnlaa
