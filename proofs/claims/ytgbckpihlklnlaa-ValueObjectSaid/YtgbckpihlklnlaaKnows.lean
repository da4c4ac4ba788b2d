
/-
  The examples of the chapter hold.
-/
import Derived.Test.YtgbckpihlklnlaaSorted2
import Derived.Test.YtgbckpihlklnlaaChk
import Derived.Test.YtgbckpihlklnlaaMeasure
import Derived.Test.YtgbckpihlklnlaaSame
import Derived.Test.YtgbckpihlklnlaaFacts2
namespace Go.Proofs.Ytgbckpihlklnlaa
open Go.RowKit
theorem en_int : ∀ (args : Array Value) (w : World), (callFunc 19 args).run Try.prog w = .ok (.enter 19 args) w := enters_of Try.func19 (by kernel_rfl) rfl
theorem en_list : ∀ (args : Array Value) (w : World), (callFunc 20 args).run Try.prog w = .ok (.enter 20 args) w := enters_of Try.func20 (by kernel_rfl) rfl
def intV (n : Int) : Value := .agg #[.int .i64 2, .int .i64 n, .string ⟨#[]⟩, .slice none 0 0, .slice none 0 0]
def listV (b n c : Nat) : Value := .agg #[.int .i64 5, .int .i64 0, .string ⟨#[]⟩, .slice (some ⟨b, 0, none⟩) n c, .slice none 0 0]
def BoxI (w : World) (b : Nat) (n : Int) : Prop := Box w b (.int .i64 2) (.int .i64 n) (.string ⟨#[]⟩) (.slice none 0 0) (.slice none 0 0)
def BoxL (w : World) (g b n c : Nat) : Prop := Box w g (.int .i64 5) (.int .i64 0) (.string ⟨#[]⟩) (.slice (some ⟨b, 0, none⟩) n c) (.slice none 0 0)
def Box0 (w : World) (g : Nat) : Prop := Box w g (.int .i64 0) (.int .i64 0) (.string ⟨#[]⟩) (.slice none 0 0) (.slice none 0 0)
/- Two values in a row. -/
def Row (w : World) (b : Nat) (cs : Array Value) : Prop := w.heap[b]? = some (.cells cs 26 (0, 0))
theorem Row.lt {W : World} {b : Nat} {cs : Array Value} (h : Row W b cs) : b < W.heap.size := by
  unfold Row at h
  rcases Nat.lt_or_ge b W.heap.size with h' | h'
  · exact h'
  · rw [Array.getElem?_eq_none h'] at h; cases h
theorem Row.kept {W W' : World} {b : Nat} {cs : Array Value} (h : Row W b cs) (hb : Below W.heap.size W W') : Row W' b cs := (hb.block b h.lt).trans h
theorem Row.set {W : World} {b : Nat} {cs : Array Value} (h : Row W b cs) {p : Addr} (hp : b ≠ p.block) (u : Value) : Row (W.setCell p u) b cs := (Below.heap_setCell W p u b hp).trans h
theorem Row.ne {W : World} {b g : Nat} {cs ds : Array Value} (h : Row W b cs) (h' : Row W g ds) (hne : cs ≠ ds) : b ≠ g := by
  rintro rfl
  unfold Row at h h'
  rw [h] at h'
  simp at h'
  exact hne h'
def nestCells (b2 : Nat) : Array Value := #[.int .i64 2, .int .i64 1, .string ⟨#[]⟩, .slice none 0 0, .slice none 0 0, .int .i64 5, .int .i64 0, .string ⟨#[]⟩, .slice (some ⟨b2, 0, none⟩) 1 1, .slice none 0 0]
/- The facts of the second statement. -/
def G2 (W0 : World) : Nat → Value → World → Prop
  | 0, v, _ => v = intV 1
  | 1, v, _ => v = intV 2
  | 2, v, w => ∃ b, v = .slice (some ⟨b, 0, none⟩) 1 1 ∧ BoxI w b 2
  | 3, v, w => ∃ b, v = listV b 1 1 ∧ BoxI w b 2
  | 4, v, w => ∃ b b2, v = .slice (some ⟨b, 0, none⟩) 2 2 ∧ Row w b (nestCells b2) ∧ BoxI w b2 2
  | 5, v, w => ∃ b b2, v = listV b 2 2 ∧ Row w b (nestCells b2) ∧ BoxI w b2 2
  | 6, v, w => ∃ g, v = .pointer (some ⟨g, 0, none⟩) ∧ W0.heap.size ≤ g ∧ Box0 w g
  | _, _, _ => False
def Fin2 (W0 : World) (v : Value) (w : World) : Prop := ∃ g b b2, v = .pointer (some ⟨g, 0, none⟩) ∧ BoxL w g b 2 2 ∧ Row w b (nestCells b2) ∧ BoxI w b2 2 ∧ Below W0.heap.size W0 w
theorem G2.pers (W0 : World) (i : Nat) (v : Value) (w w' : World) (h : G2 W0 i v w) (hb : Below w.heap.size w w') : G2 W0 i v w' := by
  match i, h with
  | 0, h => exact h
  | 1, h => exact h
  | 2, ⟨b, e, h⟩ => exact ⟨b, e, Box.kept h hb⟩
  | 3, ⟨b, e, h⟩ => exact ⟨b, e, Box.kept h hb⟩
  | 4, ⟨b, b2, e, h, h'⟩ => exact ⟨b, b2, e, h.kept hb, Box.kept h' hb⟩
  | 5, ⟨b, b2, e, h, h'⟩ => exact ⟨b, b2, e, h.kept hb, Box.kept h' hb⟩
  | 6, ⟨g, e, h, h'⟩ => exact ⟨g, e, h, Box.kept h' hb⟩
def KRow (w : World) (b : Nat) (l : List ByteArray) : Prop := w.heap[b]? = some (.cells (l.map Value.string).toArray 9 (0, 0))
theorem KRow.lt {W : World} {b : Nat} {l : List ByteArray} (h : KRow W b l) : b < W.heap.size := by
  unfold KRow at h
  rcases Nat.lt_or_ge b W.heap.size with h' | h'
  · exact h'
  · rw [Array.getElem?_eq_none h'] at h; cases h
theorem KRow.kept {W W' : World} {b : Nat} {l : List ByteArray} (h : KRow W b l) (hb : Below W.heap.size W W') : KRow W' b l := (hb.block b h.lt).trans h
theorem KRow.set {W : World} {b : Nat} {l : List ByteArray} (h : KRow W b l) {p : Addr} (hp : b ≠ p.block) (u : Value) : KRow (W.setCell p u) b l := (Below.heap_setCell W p u b hp).trans h
theorem KRow.ne {W : World} {b g : Nat} {l : List ByteArray} {ds : Array Value} (h : KRow W b l) (h' : Row W g ds) : b ≠ g := by
  rintro rfl
  unfold KRow at h; unfold Row at h'
  rw [h] at h'
  simp at h'
theorem KRow.keysAt {W : World} {b : Nat} {l : List ByteArray} (h : KRow W b l) : KeysAt W W.heap.size (some ⟨b, 0, none⟩) l := fun _ => ⟨_, rfl, h.lt, fun i s hi => by
  rw [Addr.add_mid, Nat.zero_add, cell_of_row _ _ _ _ _ _ h]
  simp [hi]⟩
def two12 : Array Value := #[.int .i64 2, .int .i64 1, .string ⟨#[]⟩, .slice none 0 0, .slice none 0 0, .int .i64 2, .int .i64 2, .string ⟨#[]⟩, .slice none 0 0, .slice none 0 0]
def ba : List ByteArray := [⟨#[98]⟩, ⟨#[97]⟩]
def objV (kb ib : Nat) : Value := .agg #[.int .i64 6, .int .i64 0, .string ⟨#[]⟩, .slice (some ⟨ib, 0, none⟩) 2 2, .slice (some ⟨kb, 0, none⟩) 2 2]
def BoxO (w : World) (g kb ib : Nat) : Prop := Box w g (.int .i64 6) (.int .i64 0) (.string ⟨#[]⟩) (.slice (some ⟨ib, 0, none⟩) 2 2) (.slice (some ⟨kb, 0, none⟩) 2 2)
theorem en_obj : ∀ (args : Array Value) (w : World), (callFunc 7 args).run Try.prog w = .ok (.enter 7 args) w := enters_of Try.func7 (by kernel_rfl) rfl
theorem runs_keys {ops : Array Oper} {Q : Exit → Act → World → Prop} {o : Oper} {a : Act} {w : World} {R : Value → World → Prop} (hw : Region.wanted o (yielded ops a.tmps) = true) (x y : ByteArray)
    (ho : o.op = .buildSlice 22 2 #[(0, .const (.string x)), (1, .const (.string y))]) (h : R (.slice (some ⟨w.heap.size, 0, none⟩) 2 2) (w.alloc (.cells #[.string x, .string y] 9 (0, 0)))) : Runs Try.prog ops Q o a w R :=
  runs_value hw (by simp [execOp, ho, go_sem]) h
def G3 (W0 : World) : Nat → Value → World → Prop
  | 0, v, w => ∃ kb, v = .slice (some ⟨kb, 0, none⟩) 2 2 ∧ KRow w kb ba
  | 1, v, _ => v = intV 1
  | 2, v, _ => v = intV 2
  | 3, v, w => ∃ ib, v = .slice (some ⟨ib, 0, none⟩) 2 2 ∧ Row w ib two12
  | 4, v, w => ∃ kb ib, v = .tuple #[objV kb ib, .int .i64 0] ∧ KRow w kb ba ∧ Row w ib two12
  | 5, v, w => ∃ kb ib, v = .tuple #[objV kb ib, .int .i64 0] ∧ KRow w kb ba ∧ Row w ib two12
  | 6, v, w => ∃ kb ib, v = objV kb ib ∧ KRow w kb ba ∧ Row w ib two12
  | 7, v, _ => v = .int .i64 0
  | 8, v, w => ∃ g, v = .pointer (some ⟨g, 0, none⟩) ∧ W0.heap.size ≤ g ∧ Box0 w g
  | 10, v, _ => v = .int .i64 0
  | _, _, _ => False
def P3 : Nat → Value → Prop
  | 5, v => ∃ x, v = .tuple #[x, .int .i64 0]
  | 7, v => v = .int .i64 0
  | 10, v => v = .int .i64 0
  | _, _ => True
def Fin3 (W0 : World) (v : Value) (w : World) : Prop := ∃ g kb ib, v = .pointer (some ⟨g, 0, none⟩) ∧ BoxO w g kb ib ∧ KRow w kb ba ∧ Row w ib two12 ∧ Below W0.heap.size W0 w
theorem G3.pers (W0 : World) (i : Nat) (v : Value) (w w' : World) (h : G3 W0 i v w) (hb : Below w.heap.size w w') : G3 W0 i v w' := by
  match i, h with
  | 0, ⟨b, e, h⟩ => exact ⟨b, e, h.kept hb⟩
  | 1, h => exact h
  | 2, h => exact h
  | 3, ⟨b, e, h⟩ => exact ⟨b, e, h.kept hb⟩
  | 4, ⟨b, b2, e, h, h'⟩ => exact ⟨b, b2, e, h.kept hb, h'.kept hb⟩
  | 5, ⟨b, b2, e, h, h'⟩ => exact ⟨b, b2, e, h.kept hb, h'.kept hb⟩
  | 6, ⟨b, b2, e, h, h'⟩ => exact ⟨b, b2, e, h.kept hb, h'.kept hb⟩
  | 7, h => exact h
  | 8, ⟨g, e, h, h'⟩ => exact ⟨g, e, h, Box.kept h' hb⟩
  | 10, h => exact h
theorem G3.p (W0 : World) (i : Nat) (v : Value) (w : World) (h : G3 W0 i v w) : P3 i v := by
  match i, h with
  | 0, _ => trivial
  | 1, _ => trivial
  | 2, _ => trivial
  | 3, _ => trivial
  | 4, _ => trivial
  | 5, ⟨b, b2, e, _⟩ => exact ⟨_, e⟩
  | 6, _ => trivial
  | 7, h => exact h
  | 8, _ => trivial
  | 10, h => exact h
theorem KRow.get {w : World} {b : Nat} {l : List ByteArray} (h : KRow w b l) (i : Nat) : w.cell? ⟨b, i, none⟩ = (l.map Value.string)[i]? ∧ w.frozen? ⟨b, i, none⟩ = false := by
  unfold KRow at h
  exact ⟨by simp [World.cell?, h], by simp [World.frozen?, h]⟩
theorem Row.get {w : World} {b : Nat} {cs : Array Value} (h : Row w b cs) (i : Nat) : w.cell? ⟨b, i, none⟩ = cs[i]? ∧ w.frozen? ⟨b, i, none⟩ = false := by
  unfold Row at h
  exact ⟨by simp [World.cell?, h], by simp [World.frozen?, h]⟩
theorem lt_ab : Op.bytesLess (ByteArray.toList ⟨#[97]⟩) (ByteArray.toList ⟨#[98]⟩) = true := by
  rw [Lib.toList_data, Lib.toList_data]; decide
def leafI (n : Int) : VT := .mk 2 n ⟨#[]⟩ [] []
def objT : VT := .mk 6 0 ⟨#[]⟩ [leafI 1, leafI 2] ba
theorem rd_leaf (w : World) (B : Nat) (n : Int) (hn : small n) : Rd w B (intV n) (leafI n) :=
  .mk (fun _ => undef) (by unfold small; omega) hn (by decide) (by simp) rfl rfl (by omega) (by omega) (by omega) (by simp) (fun h => absurd h (by simp))
theorem rd_obj {w : World} {kb ib : Nat} (hk : KRow w kb ba) (hi : Row w ib two12) : Rd w w.heap.size (objV kb ib) objT := by
  refine .mk (fun i => if i = 0 then intV 1 else intV 2) (by unfold small; omega) (by unfold small; omega) (by decide) (by decide) rfl rfl (by omega) (by omega) ?_ ?_ hk.keysAt
  · intro _
    refine ⟨_, rfl, hi.lt, fun i hi2 => ?_⟩
    have hc : i = 0 ∨ i = 1 := by omega
    rcases hc with rfl | rfl
    · exact ⟨_, _, _, _, _, rfl, (hi.get 0).1, (hi.get 1).1, (hi.get 2).1, (hi.get 3).1, (hi.get 4).1⟩
    · exact ⟨_, _, _, _, _, rfl, (hi.get 5).1, (hi.get 6).1, (hi.get 7).1, (hi.get 8).1, (hi.get 9).1⟩
  · intro i t ht
    match i, ht with
    | 0, ht => cases ht; exact rd_leaf _ _ _ (by unfold small; omega)
    | 1, ht => cases ht; exact rd_leaf _ _ _ (by unfold small; omega)
theorem get_obj {w : World} {kb ib : Nat} (hk : KRow w kb ba) (hi : Row w ib two12) : Calls Try.prog 10 #[objV kb ib, .string ⟨#[98]⟩] w fun e w' => (∃ A a K k, e = .returned (.tuple #[.agg #[.int .i64 2, .int .i64 1, .string ⟨#[]⟩, .slice A 0 a, .slice K 0 k], .bool true])) ∧ Below w.heap.size w w' := by
  refine (get_any objT ⟨#[98]⟩ w _ _ (rd_obj hk hi) (Nat.le_refl _)).mono ?_
  rintro e w' ⟨⟨u, h⟩, hb⟩
  have hg : objT.get ⟨#[98]⟩ = some (leafI 1) := rfl
  rw [hg] at h
  obtain ⟨rfl, h⟩ := h
  cases h with
  | @mk k n s A li ci K lk ck items keys V hk hn hs hks hli hlk hbi hbk hA hr hK =>
    subst hli; subst hlk
    exact ⟨⟨_, _, _, _, rfl⟩, hb⟩
def kab : ByteArray := ⟨#[97, 32, 98]⟩
def spV (kb ib : Nat) : Value := .agg #[.int .i64 6, .int .i64 0, .string ⟨#[]⟩, .slice (some ⟨ib, 0, none⟩) 1 1, .slice (some ⟨kb, 0, none⟩) 1 1]
theorem obj_sp {w : World} {kb ib : Nat} (hk : KRow w kb [kab]) : Calls Try.prog 7 #[.slice (some ⟨kb, 0, none⟩) 1 1, .slice (some ⟨ib, 0, none⟩) 1 1] w fun e w' => e = .returned (.tuple #[.agg #[.int .i64 6, .int .i64 0, .string ⟨#[]⟩, .slice (some ⟨ib, 0, none⟩) 1 1, .slice (some ⟨kb, 0, none⟩) 1 1], .int .i64 0]) ∧ Below w.heap.size w w' := by
  refine (object_any _ 1 1 _ 1 1 [kab] w w.heap.size rfl (by omega) (by omega) (by decide) hk.keysAt (Nat.le_refl _)).mono fun e w' ⟨h5, h6⟩ => ⟨?_, h6⟩
  rw [h5]
  unfold objectV
  rw [if_neg (by omega), if_pos (by decide)]
def zeroT : VT := .mk 0 0 ⟨#[]⟩ [] []
def spT : VT := .mk 6 0 ⟨#[]⟩ [zeroT] [kab]
theorem rd_sp {w : World} {kb ib : Nat} (hk : KRow w kb [kab]) (hi : Row w ib zerosV) : Rd w w.heap.size (spV kb ib) spT := by
  refine .mk (fun _ => .agg zerosV) (by unfold small; omega) (by unfold small; omega) (by decide) (by decide) rfl rfl (by omega) (by omega) ?_ ?_ hk.keysAt
  · intro _
    refine ⟨_, rfl, hi.lt, fun i hi2 => ?_⟩
    have hc : i = 0 := by omega
    subst hc
    exact ⟨_, _, _, _, _, rfl, (hi.get 0).1, (hi.get 1).1, (hi.get 2).1, (hi.get 3).1, (hi.get 4).1⟩
  · intro i t ht
    match i, ht with
    | 0, ht =>
      cases ht
      exact .mk (fun _ => undef) (by unfold small; omega) (by unfold small; omega) (by decide) (by simp) rfl rfl (by omega) (by omega) (by omega) (by simp) (fun h => absurd h (by simp))
theorem sp_right : rightB false spT = true := by rfl
theorem sp_literal : rightB true spT = false := by rfl
def two11 : Array Value := #[.int .i64 2, .int .i64 1, .string ⟨#[]⟩, .slice none 0 0, .slice none 0 0, .int .i64 2, .int .i64 1, .string ⟨#[]⟩, .slice none 0 0, .slice none 0 0]
def G9 (b : Nat) : Nat → Value → World → Prop
  | 0, v, _ => v = listV b 2 2
  | 1, v, _ => v = .int .i64 4
  | 2, v, _ => v = .bool true
  | 3, v, _ => v = .bool true
  | 4, v, _ => v = listV b 2 2
  | 5, v, _ => v = .int .i64 3
  | 6, v, _ => v = .bool true
  | 7, v, _ => v = .bool true
  | 8, v, _ => v = .bool true
  | 9, v, _ => v = intV 1
  | 10, v, w => ∃ c, v = .slice (some ⟨c, 0, none⟩) 1 1 ∧ BoxI w c 1
  | 11, v, w => ∃ c, v = listV c 1 1 ∧ BoxI w c 1
  | 12, v, _ => v = intV 1
  | 13, v, _ => v = intV 1
  | 14, v, w => ∃ c, v = .slice (some ⟨c, 0, none⟩) 2 2 ∧ Row w c two11
  | 15, v, w => ∃ c, v = listV c 2 2 ∧ Row w c two11
  | 16, v, _ => v = .int .i64 (-1)
  | 17, v, _ => v = .bool true
  | 18, v, _ => v = .bool true
  | 19, v, _ => v = .bool true
  | 20, v, _ => v = .agg #[.int .i64 1, .int .i64 1, .string ⟨#[]⟩, .slice none 0 0, .slice none 0 0]
  | 21, v, _ => v = .agg #[.int .i64 1, .int .i64 1, .string ⟨#[]⟩, .slice none 0 0, .slice none 0 0]
  | 22, v, _ => v = .bool true
  | 23, v, _ => v = .bool true
  | 24, v, _ => v = .bool true
  | 25, v, _ => v = .agg #[.int .i64 7, .int .i64 0, .string ⟨#[97]⟩, .slice none 0 0, .slice none 0 0]
  | 26, v, _ => v = .bool true
  | 27, v, _ => v = .bool true
  | 28, v, _ => v = .bool true
  | _, _, _ => False
theorem G9.pers (b : Nat) (i : Nat) (v : Value) (w w' : World) (h : G9 b i v w) (hb : Below w.heap.size w w') : G9 b i v w' := by
  match i, h with
  | 0, h => exact h
  | 1, h => exact h
  | 2, h => exact h
  | 3, h => exact h
  | 4, h => exact h
  | 5, h => exact h
  | 6, h => exact h
  | 7, h => exact h
  | 8, h => exact h
  | 9, h => exact h
  | 10, ⟨c, e, h⟩ => exact ⟨c, e, Box.kept h hb⟩
  | 11, ⟨c, e, h⟩ => exact ⟨c, e, Box.kept h hb⟩
  | 12, h => exact h
  | 13, h => exact h
  | 14, ⟨c, e, h⟩ => exact ⟨c, e, h.kept hb⟩
  | 15, ⟨c, e, h⟩ => exact ⟨c, e, h.kept hb⟩
  | 16, h => exact h
  | 17, h => exact h
  | 18, h => exact h
  | 19, h => exact h
  | 20, h => exact h
  | 21, h => exact h
  | 22, h => exact h
  | 23, h => exact h
  | 24, h => exact h
  | 25, h => exact h
  | 26, h => exact h
  | 27, h => exact h
  | 28, h => exact h
def nestT : VT := .mk 5 0 ⟨#[]⟩ [leafI 1, .mk 5 0 ⟨#[]⟩ [leafI 2] []] []
def l1T : VT := .mk 5 0 ⟨#[]⟩ [leafI 1] []
def l2T : VT := .mk 5 0 ⟨#[]⟩ [leafI 1, leafI 1] []
def bareT (k n : Int) (s : ByteArray) : VT := .mk k n s [] []
theorem rd_bare (w : World) (B : Nat) (k n : Int) (s : ByteArray) (hk : small k) (hn : small n) (hs : s.size ≤ 140737488351232) : Rd w B (.agg #[.int .i64 k, .int .i64 n, .string s, .slice none 0 0, .slice none 0 0]) (bareT k n s) :=
  .mk (fun _ => undef) hk hn hs (by simp) rfl rfl (by omega) (by omega) (by omega) (by simp) (fun h => absurd h (by simp))
theorem rd_l1 {w : World} {b : Nat} {n : Int} (hn : small n) (h : BoxI w b n) : Rd w w.heap.size (listV b 1 1) (.mk 5 0 ⟨#[]⟩ [leafI n] []) := by
  refine .mk (fun _ => intV n) (by unfold small; omega) (by unfold small; omega) (by decide) (by simp) rfl rfl (by omega) (by omega) ?_ ?_ (fun h => absurd h (by simp))
  · intro _
    refine ⟨_, rfl, Row.lt h, fun i hi2 => ?_⟩
    have hc : i = 0 := by omega
    subst hc
    obtain ⟨c0, c1, c2, c3, c4⟩ := Box.cells h
    exact ⟨_, _, _, _, _, rfl, c0, c1, c2, c3, c4⟩
  · intro i t ht
    match i, ht with
    | 0, ht => cases ht; exact rd_leaf _ _ _ hn
theorem rd_l2 {w : World} {b : Nat} (h : Row w b two11) : Rd w w.heap.size (listV b 2 2) l2T := by
  refine .mk (fun _ => intV 1) (by unfold small; omega) (by unfold small; omega) (by decide) (by simp) rfl rfl (by omega) (by omega) ?_ ?_ (fun h => absurd h (by simp))
  · intro _
    refine ⟨_, rfl, h.lt, fun i hi2 => ?_⟩
    have hc : i = 0 ∨ i = 1 := by omega
    rcases hc with rfl | rfl
    · exact ⟨_, _, _, _, _, rfl, (h.get 0).1, (h.get 1).1, (h.get 2).1, (h.get 3).1, (h.get 4).1⟩
    · exact ⟨_, _, _, _, _, rfl, (h.get 5).1, (h.get 6).1, (h.get 7).1, (h.get 8).1, (h.get 9).1⟩
  · intro i t ht
    match i, ht with
    | 0, ht => cases ht; exact rd_leaf _ _ _ (by unfold small; omega)
    | 1, ht => cases ht; exact rd_leaf _ _ _ (by unfold small; omega)
theorem rd_nest {w : World} {b b2 : Nat} (h : Row w b (nestCells b2)) (h2 : BoxI w b2 2) : Rd w w.heap.size (listV b 2 2) nestT := by
  refine .mk (fun i => if i = 0 then intV 1 else listV b2 1 1) (by unfold small; omega) (by unfold small; omega) (by decide) (by simp) rfl rfl (by omega) (by omega) ?_ ?_ (fun h => absurd h (by simp))
  · intro _
    refine ⟨_, rfl, h.lt, fun i hi2 => ?_⟩
    have hc : i = 0 ∨ i = 1 := by omega
    rcases hc with rfl | rfl
    · exact ⟨_, _, _, _, _, rfl, (h.get 0).1, (h.get 1).1, (h.get 2).1, (h.get 3).1, (h.get 4).1⟩
    · exact ⟨_, _, _, _, _, rfl, (h.get 5).1, (h.get 6).1, (h.get 7).1, (h.get 8).1, (h.get 9).1⟩
  · intro i t ht
    match i, ht with
    | 0, ht => cases ht; exact rd_leaf _ _ _ (by unfold small; omega)
    | 1, ht => cases ht; exact rd_l1 (by unfold small; omega) h2
theorem nest_size : nestT.size = 4 := by rfl
theorem nest_depth : nestT.depth = 3 := by rfl
theorem lists_cmp : l1T.cmp l2T = -1 := by rfl
theorem var_right : rightB true (bareT 7 0 ⟨#[97]⟩) = true := by rfl
theorem en_size : ∀ (args : Array Value) (w : World), (callFunc 15 args).run Try.prog w = .ok (.enter 15 args) w := enters_of Try.func15 (by kernel_rfl) rfl
theorem en_depth : ∀ (args : Array Value) (w : World), (callFunc 16 args).run Try.prog w = .ok (.enter 16 args) w := enters_of Try.func16 (by kernel_rfl) rfl
theorem en_cmp : ∀ (args : Array Value) (w : World), (callFunc 22 args).run Try.prog w = .ok (.enter 22 args) w := enters_of Try.func22 (by kernel_rfl) rfl
theorem en_bool : ∀ (args : Array Value) (w : World), (callFunc 24 args).run Try.prog w = .ok (.enter 24 args) w := enters_of Try.func24 (by kernel_rfl) rfl
theorem en_same : ∀ (args : Array Value) (w : World), (callFunc 23 args).run Try.prog w = .ok (.enter 23 args) w := enters_of Try.func23 (by kernel_rfl) rfl
theorem en_lit : ∀ (args : Array Value) (w : World), (callFunc 21 args).run Try.prog w = .ok (.enter 21 args) w := enters_of Try.func21 (by kernel_rfl) rfl
theorem St2.of {w : World} {kb ib : Nat} (hk : KRow w kb ba) (hi : Row w ib two12) : St2 w kb ib ⟨#[98]⟩ ⟨#[97]⟩ 1 2 :=
  ⟨hk.lt, hi.lt, hk.ne hi, (hk.get 0).1, (hk.get 1).1, (hk.get 0).2, (hk.get 1).2, (hi.get 0).1, (hi.get 1).1, (hi.get 2).1, (hi.get 3).1, (hi.get 4).1, (hi.get 5).1, (hi.get 6).1, (hi.get 7).1, (hi.get 8).1, (hi.get 9).1, fun i _ => (hi.get i).2⟩
set_option maxRecDepth 100000 in
set_option maxHeartbeats 4000000 in
theorem knows_any (w : World) : Calls Try.prog 6 #[] w fun e w' => e = .returned (.bool true) ∧ Below w.heap.size w w' := by
  go_enter Try.func6, Try.ntmps6
  go_wp2_with fail
  refine (int_any _ _).mono ?_
  rintro e w1 ⟨rfl, hb1⟩
  have HB1 := Lib.hid hb1
  have hx1 : BoxI (w1.alloc (.cells #[.int .i64 2, .int .i64 1, .string ⟨#[]⟩, .slice none 0 0, .slice none 0 0] 26 (0, 0))) w1.heap.size 1 := Box.new _ _ _ _ _ _
  have HX1 := Lib.hid hx1
  have HBW := Lib.hid (hb1.alloc hb1.size (.cells #[.int .i64 2, .int .i64 1, .string ⟨#[]⟩, .slice none 0 0, .slice none 0 0] 26 (0, 0)))
  clear hb1 hx1
  go_wp2_with fail
  generalize hW0 : w1.alloc (.cells #[.int .i64 2, .int .i64 1, .string ⟨#[]⟩, .slice none 0 0, .slice none 0 0] 26 (0, 0)) = W0 at *
  refine wp_region_facts (by kernel_rfl) (by kernel_rfl) 7 6 (by kernel_rfl) (fun _ => false) (by kernel_rfl) (G2 W0) (fun _ _ => True) (Fin2 W0) (fun _ _ _ _ => trivial) (G2.pers W0) (fun _ _ _ h => by cases h) ?_ (fun _ _ _ _ h => by cases h) ?_ ?_
  · intro i o ho his _ a w2 hf hbl had
    have hi : i < 8 := (Array.getElem?_eq_some_iff.1 ho).1
    have hc : i = 0 ∨ i = 1 ∨ i = 2 ∨ i = 3 ∨ i = 4 ∨ i = 5 ∨ i = 6 := by omega
    rcases hc with rfl | rfl | rfl | rfl | rfl | rfl | rfl
    · cases ho
      have s1 := hf.slot 1 (by kernel_rfl)
      exact runs_load5 rfl (.tmp 1) rfl s1 (HX1.out.kept hbl) ⟨Below.refl _ _, rfl⟩
    · cases ho
      exact runs_call rfl _ _ _ rfl en_int #[.int .i64 2] (map1 _ _) ((int_any 2 w2).mono fun e w' ⟨h1, h2⟩ => ⟨_, h1, h2, rfl⟩)
    · cases ho
      have h1 : vof _ a 1 = intV 2 := had ⟨1, .data⟩ (by simp) rfl (by decide)
      exact runs_slice1 rfl (.tmp 12) rfl h1 ⟨(Below.refl _ _).alloc (Nat.le_refl _) _, _, rfl, Box.new _ _ _ _ _ _⟩
    · cases ho
      obtain ⟨b, h1, h2⟩ : G2 W0 2 (vof _ a 2) w2 := had ⟨2, .data⟩ (by simp) rfl (by decide)
      exact runs_call rfl _ _ _ rfl en_list #[.slice (some ⟨b, 0, none⟩) 1 1] (by rw [map1]; exact congrArg (fun x => #[x]) h1) ((list_any _ _ _ w2).mono fun e w' ⟨h3, h4⟩ => ⟨_, h3, h4, b, rfl, Box.kept h2 h4⟩)
    · cases ho
      have h0 : vof _ a 0 = intV 1 := had ⟨0, .data⟩ (by simp) rfl (by decide)
      obtain ⟨b, h1, h2⟩ : G2 W0 3 (vof _ a 3) w2 := had ⟨3, .data⟩ (by simp) rfl (by decide)
      have b1 : ∀ o, Below w2.heap.size w2 (w2.alloc o) := fun o => (Below.refl _ _).alloc (Nat.le_refl _) _
      exact runs_slice2 rfl (.tmp 11) (.tmp 14) rfl h0 h1 ⟨b1 _, _, b, rfl, heap_alloc_new _ _, Box.kept h2 (b1 _)⟩
    · cases ho
      obtain ⟨b, b2, h1, h2, h3⟩ : G2 W0 4 (vof _ a 4) w2 := had ⟨4, .data⟩ (by simp) rfl (by decide)
      exact runs_call rfl _ _ _ rfl en_list #[.slice (some ⟨b, 0, none⟩) 2 2] (by rw [map1]; exact congrArg (fun x => #[x]) h1) ((list_any _ _ _ w2).mono fun e w' ⟨h5, h4⟩ => ⟨_, h5, h4, b, b2, rfl, h2.kept h4, Box.kept h3 h4⟩)
    · cases ho
      exact runs_alloc5 rfl rfl ⟨(Below.refl _ _).alloc (Nat.le_refl _) _, _, rfl, hbl.size, Box.new _ _ _ _ _ _⟩
  · intro o ho a w2 hf hbl had
    cases ho
    obtain ⟨g, h1, h2, h3⟩ : G2 W0 6 (vof _ a 6) w2 := had ⟨6, .data⟩ (by simp) rfl (by decide)
    obtain ⟨b, b2, h4, h5, h6⟩ : G2 W0 5 (vof _ a 5) w2 := had ⟨5, .data⟩ (by simp) rfl (by decide)
    have n1 : b ≠ g := h5.ne (g := g) h3 (by simp [nestCells])
    have n2 : b2 ≠ g := Row.ne (b := b2) (g := g) h6 h3 (by simp)
    refine runs_store5 rfl (.tmp 2) (.tmp 16) rfl h1 h4 h3 rfl rfl rfl rfl rfl ⟨g, b, b2, h1, Box.five h3 _ _ _ _ _, ((((h5.set n1 _).set n1 _).set n1 _).set n1 _).set n1 _, ((((Box.set h6 n2 _).set n2 _).set n2 _).set n2 _).set n2 _, ?_⟩
    exact ((((hbl.setCell h2 _).setCell h2 _).setCell h2 _).setCell h2 _).setCell h2 _
  · intro a w2 hf _ hfin _
    obtain ⟨g, b, b2, h1, h2, h3, h4, h5⟩ := hfin (by decide)
    have ha := over_of hf [11, 12, 13, 14, 15, 16, 2] (by
      intro i k hk
      have hi : i < 8 := by
        rcases Nat.lt_or_ge i 8 with h' | h'
        · exact h'
        · rw [dstOf, Array.getElem?_eq_none (by simpa using h')] at hk; cases hk
      have hc : i = 0 ∨ i = 1 ∨ i = 2 ∨ i = 3 ∨ i = 4 ∨ i = 5 ∨ i = 6 ∨ i = 7 := by omega
      rcases hc with rfl | rfl | rfl | rfl | rfl | rfl | rfl | rfl <;> (simp [dstOf] at hk; try (subst hk; simp)))
    have hg : (fun d => a.tmps.getD d undef) 2 = .pointer (some ⟨g, 0, none⟩) := h1
    generalize (fun d => a.tmps.getD d undef) = f at ha hg
    subst ha
    clear hf hfin h1
    have HG := Lib.hid hg
    have H2 := Lib.hid h2
    have H3 := Lib.hid h3
    have H4 := Lib.hid h4
    have H5 := Lib.hid h5
    clear hg h2 h3 h4 h5
    simp only [over, List.foldl_cons, List.foldl_nil, Act.put, List.setIfInBounds_toArray, List.set_cons_succ, List.set_cons_zero]
    rw [HG.out]
    generalize f 11 = u11
    generalize f 12 = u12
    generalize f 13 = u13
    generalize f 14 = u14
    generalize f 15 = u15
    generalize f 16 = u16
    go_wp2_with fail
    refine wp_region_facts (by kernel_rfl) (by kernel_rfl) 9 8 (by kernel_rfl) (fun i => i == 7 || i == 10) (by kernel_rfl) (G3 w2) P3 (Fin3 w2) (G3.p w2) (G3.pers w2) (fun i v w hp h => by
      have : i = 7 ∨ i = 10 := by simpa using hp
      rcases this with rfl | rfl <;> exact h) ?_ ?_ ?_ ?_
    · intro i o ho his hpu a w3 hf hbl had
      have hi : i < 11 := (Array.getElem?_eq_some_iff.1 ho).1
      have hn : i ≠ 7 ∧ i ≠ 10 := by simpa using hpu
      have hc : i = 0 ∨ i = 1 ∨ i = 2 ∨ i = 3 ∨ i = 4 ∨ i = 5 ∨ i = 6 ∨ i = 8 := by omega
      have b1 : ∀ o, Below w3.heap.size w3 (w3.alloc o) := fun o => (Below.refl _ _).alloc (Nat.le_refl _) _
      rcases hc with rfl | rfl | rfl | rfl | rfl | rfl | rfl | rfl
      · cases ho
        exact runs_keys rfl _ _ rfl ⟨b1 _, _, rfl, heap_alloc_new _ _⟩
      · cases ho
        have s1 := hf.slot 1 (by kernel_rfl)
        exact runs_load5 rfl (.tmp 1) rfl s1 (Box.kept (Box.kept HX1.out H5.out) hbl) ⟨Below.refl _ _, rfl⟩
      · cases ho
        exact runs_call rfl _ _ _ rfl en_int #[.int .i64 2] (map1 _ _) ((int_any 2 w3).mono fun e w' ⟨h1, h2⟩ => ⟨_, h1, h2, rfl⟩)
      · cases ho
        have h1 : vof _ a 1 = intV 1 := had ⟨1, .data⟩ (by simp) rfl (by decide)
        have h2 : vof _ a 2 = intV 2 := had ⟨2, .data⟩ (by simp) rfl (by decide)
        exact runs_slice2 rfl (.tmp 19) (.tmp 20) rfl h1 h2 ⟨b1 _, _, rfl, heap_alloc_new _ _⟩
      · cases ho
        obtain ⟨kb, h1, h2⟩ : G3 w2 0 (vof _ a 0) w3 := had ⟨0, .data⟩ (by simp) rfl (by decide)
        obtain ⟨ib, h3, h4⟩ : G3 w2 3 (vof _ a 3) w3 := had ⟨3, .data⟩ (by simp) rfl (by decide)
        refine runs_call rfl _ _ _ rfl en_obj #[.slice (some ⟨kb, 0, none⟩) 2 2, .slice (some ⟨ib, 0, none⟩) 2 2] (by rw [map2]; rw [show a.eval (.tmp 18) = _ from h1, show a.eval (.tmp 21) = _ from h3]) ((object_any _ 2 2 _ 2 2 ba w3 w3.heap.size rfl (by omega) (by omega) (by decide) h2.keysAt (Nat.le_refl _)).mono fun e w' ⟨h5, h6⟩ => ⟨_, h5, h6, kb, ib, ?_, h2.kept h6, h4.kept h6⟩)
        unfold objectV
        rw [if_neg (by omega), if_pos (by decide)]
        rfl
      · cases ho
        obtain ⟨kb, ib, h1, h2, h3⟩ : G3 w2 4 (vof _ a 4) w3 := had ⟨4, .data⟩ (by simp) rfl (by decide)
        exact runs_move rfl _ rfl h1 ⟨Below.refl _ _, kb, ib, rfl, h2, h3⟩
      · cases ho
        obtain ⟨kb, ib, h1, h2, h3⟩ : G3 w2 5 (vof _ a 5) w3 := had ⟨5, .data⟩ (by simp) rfl (by decide)
        exact runs_extract rfl _ 0 _ rfl h1 rfl ⟨Below.refl _ _, kb, ib, rfl, h2, h3⟩
      · cases ho
        exact runs_alloc5 rfl rfl ⟨b1 _, _, rfl, hbl.size, Box.new _ _ _ _ _ _⟩
    · intro i o ho his hpu a w3 hf had
      have hn : i = 7 ∨ i = 10 := by simpa using hpu
      rcases hn with rfl | rfl
      · cases ho
        obtain ⟨x, h1⟩ : P3 5 (vof _ a 5) := had ⟨5, .data⟩ (by simp) rfl (by decide)
        exact runs_extract rfl _ 1 _ rfl h1 rfl ⟨rfl, rfl⟩
      · cases ho
        have h1 : vof _ a 7 = .int .i64 0 := had ⟨7, .data⟩ (by simp) rfl (by decide)
        exact runs_assign rfl _ rfl h1 ⟨rfl, rfl⟩
    · intro o ho a w3 hf hbl had
      cases ho
      obtain ⟨g, h1, h2, h3⟩ : G3 w2 8 (vof _ a 8) w3 := had ⟨8, .data⟩ (by simp) rfl (by decide)
      obtain ⟨kb, ib, h4, h5, h6⟩ : G3 w2 6 (vof _ a 6) w3 := had ⟨6, .data⟩ (by simp) rfl (by decide)
      have n1 : kb ≠ g := h5.ne (g := g) h3
      have n2 : ib ≠ g := h6.ne (g := g) h3 (by simp [two12])
      refine runs_store5 rfl (.tmp 3) (.tmp 23) rfl h1 h4 h3 rfl rfl rfl rfl rfl ⟨g, kb, ib, h1, Box.five h3 _ _ _ _ _, ((((h5.set n1 _).set n1 _).set n1 _).set n1 _).set n1 _, ((((h6.set n2 _).set n2 _).set n2 _).set n2 _).set n2 _, ?_⟩
      exact ((((hbl.setCell h2 _).setCell h2 _).setCell h2 _).setCell h2 _).setCell h2 _
    · intro a w3 hf hp hfin _
      obtain ⟨g3, kb, ib, h1, h2, h3, h4, h5⟩ := hfin (by decide)
      have h10 : vof _ a 10 = .int .i64 0 := hp 10 (by decide) (by decide)
      have ha := over_of hf [18, 19, 20, 21, 22, 17, 23, 24, 3, 4] (by
        intro i k hk
        have hi : i < 11 := by
          rcases Nat.lt_or_ge i 11 with h' | h'
          · exact h'
          · rw [dstOf, Array.getElem?_eq_none (by simpa using h')] at hk; cases hk
        have hc : i = 0 ∨ i = 1 ∨ i = 2 ∨ i = 3 ∨ i = 4 ∨ i = 5 ∨ i = 6 ∨ i = 7 ∨ i = 8 ∨ i = 9 ∨ i = 10 := by omega
        rcases hc with rfl | rfl | rfl | rfl | rfl | rfl | rfl | rfl | rfl | rfl | rfl <;> (simp [dstOf] at hk; try (subst hk; simp)))
      have hg : (fun d => a.tmps.getD d undef) 3 = .pointer (some ⟨g3, 0, none⟩) := h1
      have hh : (fun d => a.tmps.getD d undef) 4 = .int .i64 0 := h10
      generalize (fun d => a.tmps.getD d undef) = f at ha hg hh
      subst ha
      clear hf hfin h1 hp h10
      have KX1 := Lib.hid (Box.kept (Box.kept HX1.out H5.out) h5)
      have KG2 := Lib.hid (Box.kept H2.out h5)
      have KR2 := Lib.hid (Row.kept H3.out h5)
      have KB2 := Lib.hid (Box.kept H4.out h5)
      have KW := Lib.hid ((HBW.out.trans (H5.out.mono HBW.out.size)).trans (h5.mono (Below.size (HBW.out.trans (H5.out.mono HBW.out.size)))))
      have HG3 := Lib.hid hg
      have HH3 := Lib.hid hh
      have K2 := Lib.hid h2
      have K3 := Lib.hid h3
      have K4 := Lib.hid h4
      have KS := Lib.hid (And.intro H5.out.size h5.size)
      clear hg hh h2 h3 h4 h5 HX1 H2 H3 H4 H5 HBW HG HB1
      simp only [over, List.foldl_cons, List.foldl_nil, Act.put, List.setIfInBounds_toArray, List.set_cons_succ, List.set_cons_zero]
      rw [HG3.out, HH3.out]
      generalize f 18 = u18
      generalize f 19 = u19
      generalize f 20 = u20
      generalize f 21 = u21
      generalize f 22 = u22
      generalize f 17 = u17
      generalize f 23 = u23
      generalize f 24 = u24
      clear HG3 HH3
      have hk2 := K2.out.cells
      obtain ⟨c0, c1, c2, c3, c4⟩ := hk2
      go_wp2_with fail
      clear c0 c1 c2 c3 c4
      refine (sorted2 w3 kb ib _ _ _ _ _ _ (St2.of K3.out K4.out) lt_ab).mono ?_
      rintro e w4 ⟨sk, si, sck, sci, rfl, s1, s2, s3, s4⟩
      have hx4 := Box.new w4 (.int .i64 6) (.int .i64 0) (.string ⟨#[]⟩) (.slice (some ⟨si, 0, none⟩) 2 sci) (.slice (some ⟨sk, 0, none⟩) 2 sck)
      have b4 : Below w4.heap.size w4 (w4.alloc (.cells #[.int .i64 6, .int .i64 0, .string ⟨#[]⟩, .slice (some ⟨si, 0, none⟩) 2 sci, .slice (some ⟨sk, 0, none⟩) 2 sck] 26 (0, 0))) := (Below.refl _ _).alloc (Nat.le_refl _) _
      have B4 := Lib.hid (s4.trans (b4.mono s4.size))
      have X4 := Lib.hid hx4
      have ST4 := Lib.hid (s1.kept b4 s1.lk s1.li)
      have NB := Lib.hid (And.intro s2 s3)
      have KO4 := Lib.hid (Box.kept K2.out B4.out)
      clear hx4 b4 s1 s2 s3 s4
      obtain ⟨c0, c1, c2, c3, c4⟩ := KO4.out.cells
      go_wp2_with fail
      clear c0 c1 c2 c3 c4
      refine (get_obj (K3.out.kept B4.out) (K4.out.kept B4.out)).mono ?_
      rintro e w5 ⟨⟨xA, xa, xK, xk, rfl⟩, b5⟩
      have B5 := Lib.hid b5
      clear b5
      go_wp2_with fail
      have X6 := Lib.hid (Box.new w5 (.int .i64 2) (.int .i64 1) (.string ⟨#[]⟩) (.slice xA 0 xa) (.slice xK 0 xk))
      have kr6 : KRow ((w5.alloc (.cells #[.int .i64 2, .int .i64 1, .string ⟨#[]⟩, .slice xA 0 xa, .slice xK 0 xk] 26 (0, 0))).alloc (.cells #[.string ⟨#[97, 32, 98]⟩] 9 (0, 0))) (w5.heap.size + 1) [kab] := by
        have := heap_alloc_new (w5.alloc (.cells #[.int .i64 2, .int .i64 1, .string ⟨#[]⟩, .slice xA 0 xa, .slice xK 0 xk] 26 (0, 0))) (.cells #[.string ⟨#[97, 32, 98]⟩] 9 (0, 0))
        rw [World.size_alloc] at this
        exact this
      have b6a : Below w5.heap.size w5 (w5.alloc (.cells #[.int .i64 2, .int .i64 1, .string ⟨#[]⟩, .slice xA 0 xa, .slice xK 0 xk] 26 (0, 0))) := (Below.refl _ _).alloc (Nat.le_refl _) _
      generalize hw6a : w5.alloc (.cells #[.int .i64 2, .int .i64 1, .string ⟨#[]⟩, .slice xA 0 xa, .slice xK 0 xk] 26 (0, 0)) = w6a at *
      have z6a : w6a.heap.size = w5.heap.size + 1 := by rw [← hw6a, World.size_alloc]
      have b6b : Below w6a.heap.size w6a (w6a.alloc (.cells #[.string ⟨#[97, 32, 98]⟩] 9 (0, 0))) := (Below.refl _ _).alloc (Nat.le_refl _) _
      generalize hw6b : w6a.alloc (.cells #[.string ⟨#[97, 32, 98]⟩] 9 (0, 0)) = w6b at *
      have z6b : w6b.heap.size = w5.heap.size + 1 + 1 := by rw [← hw6b, World.size_alloc, z6a]
      have b6c : Below w6b.heap.size w6b (w6b.alloc (.cells #[.int .i64 0, .int .i64 0, .string ⟨#[]⟩, .slice none 0 0, .slice none 0 0] 26 (0, 0))) := (Below.refl _ _).alloc (Nat.le_refl _) _
      have rw6 : Row (w6b.alloc (.cells #[.int .i64 0, .int .i64 0, .string ⟨#[]⟩, .slice none 0 0, .slice none 0 0] 26 (0, 0))) (w5.heap.size + 1 + 1) zerosV := by
        have := heap_alloc_new w6b (.cells #[.int .i64 0, .int .i64 0, .string ⟨#[]⟩, .slice none 0 0, .slice none 0 0] 26 (0, 0))
        rw [z6b] at this
        exact this
      generalize hw6 : w6b.alloc (.cells #[.int .i64 0, .int .i64 0, .string ⟨#[]⟩, .slice none 0 0, .slice none 0 0] 26 (0, 0)) = w6 at *
      have kr := kr6.kept b6c
      have b56 : Below w5.heap.size w5 w6 := (b6a.trans (b6b.mono b6a.size)).trans (b6c.mono (Nat.le_trans b6a.size b6b.size))
      have bx6 := Box.kept X6.out (b6b.trans (b6c.mono b6b.size))
      clear X6
      refine (obj_sp kr).mono ?_
      rintro e w7 ⟨rfl, b7⟩
      have b7' := b7.mono (B' := w5.heap.size) b56.size
      have R7 := Lib.hid (rd_sp (kr.kept b7) (rw6.kept b7))
      have X7 := Lib.hid (Box.kept bx6 b7)
      have B7 := Lib.hid (b56.trans b7')
      have hw7 := Box.new w7 (.int .i64 6) (.int .i64 0) (.string ⟨#[]⟩) (.slice (some ⟨w5.heap.size + 1 + 1, 0, none⟩) 1 1) (.slice (some ⟨w5.heap.size + 1, 0, none⟩) 1 1)
      have b8 : Below w7.heap.size w7 (w7.alloc (.cells #[.int .i64 6, .int .i64 0, .string ⟨#[]⟩, .slice (some ⟨w5.heap.size + 1 + 1, 0, none⟩) 1 1, .slice (some ⟨w5.heap.size + 1, 0, none⟩) 1 1] 26 (0, 0))) := (Below.refl _ _).alloc (Nat.le_refl _) _
      have B8 := Lib.hid (B5.out.trans ((B7.out.trans (b8.mono B7.out.size)).mono B5.out.size))
      obtain ⟨x0, x1, x2, x3, x4⟩ := (Box.kept X7.out b8).cells
      obtain ⟨y0, y1, y2, y3, y4⟩ := (Box.kept X4.out B8.out).cells
      obtain ⟨z0, z1, z2, z3, z4⟩ := hw7.cells
      have st8 := ST4.out.kept B8.out ST4.out.lk ST4.out.li
      have k0 := st8.k0
      have R8 := Lib.hid ((R7.out.kept b8).mono b8.size)
      have Z8 := Lib.hid hw7
      clear kr6 b6a b6b b6c rw6 kr b56 bx6 b7 b7' hw7 b8 st8
      go_wp2_with fail
      clear x0 x1 x2 x3 x4 y0 y1 y2 y3 y4 z0 z1 z2 z3 z4 k0
      refine (right_any spT _ _ _ R8.out (Nat.le_refl _)).mono ?_
      rintro e w9 ⟨rfl, b9⟩
      rw [sp_right]
      obtain ⟨z0, z1, z2, z3, z4⟩ := (Box.kept Z8.out b9).cells
      have R9 := Lib.hid ((R8.out.kept b9).mono b9.size)
      have B9 := Lib.hid (B8.out.trans (b9.mono B8.out.size))
      clear b9
      go_wp2_with fail
      clear z0 z1 z2 z3 z4
      refine (literal_any spT _ _ _ R9.out (Nat.le_refl _)).mono ?_
      rintro e w10 ⟨rfl, b10⟩
      rw [sp_literal]
      have B10 := Lib.hid (B4.out.trans ((B9.out.trans (b10.mono B9.out.size)).mono B4.out.size))
      have QX := Lib.hid (Box.kept KX1.out B10.out)
      have QG := Lib.hid (Box.kept KG2.out B10.out)
      have QR := Lib.hid (Row.kept KR2.out B10.out)
      have QB := Lib.hid (Box.kept KB2.out B10.out)
      have QW := Lib.hid (KW.out.trans (B10.out.mono KW.out.size))
      have QS := Lib.hid (And.intro KW.out.size B10.out.size)
      clear b10 KX1 KG2 KR2 KB2 KW K2 K3 K4 KS B4 X4 ST4 NB KO4 B5 R7 X7 B7 B8 R8 Z8 R9 B9 B10
      go_wp2_with fail
      refine wp_region_facts (by kernel_rfl) (by kernel_rfl) 29 0 (by kernel_rfl) (fun _ => false) (by kernel_rfl) (G9 b) (fun _ _ => True) (fun _ _ => True) (fun _ _ _ _ => trivial) (G9.pers b) (fun _ _ _ h => by cases h) ?_ (fun _ _ _ _ h => by cases h) (fun _ h => by cases h) ?_
      · intro i o ho his _ a wn hf hbl had
        have hi : i < 29 := (Array.getElem?_eq_some_iff.1 ho).1
        have hc : i = 0 ∨ i = 1 ∨ i = 2 ∨ i = 3 ∨ i = 4 ∨ i = 5 ∨ i = 6 ∨ i = 7 ∨ i = 8 ∨ i = 9 ∨ i = 10 ∨ i = 11 ∨ i = 12 ∨ i = 13 ∨ i = 14 ∨ i = 15 ∨ i = 16 ∨ i = 17 ∨ i = 18 ∨ i = 19 ∨ i = 20 ∨ i = 21 ∨ i = 22 ∨ i = 23 ∨ i = 24 ∨ i = 25 ∨ i = 26 ∨ i = 27 ∨ i = 28 := by omega
        rcases hc with rfl | rfl | rfl | rfl | rfl | rfl | rfl | rfl | rfl | rfl | rfl | rfl | rfl | rfl | rfl | rfl | rfl | rfl | rfl | rfl | rfl | rfl | rfl | rfl | rfl | rfl | rfl | rfl | rfl
        · cases ho
          have s1 := hf.slot 2 (by kernel_rfl)
          exact runs_load5 rfl (.tmp 2) rfl s1 (Box.kept QG.out hbl) ⟨Below.refl _ _, rfl⟩
        · cases ho
          have h0 : vof _ a 0 = listV b 2 2 := had ⟨0, .data⟩ (by simp) rfl (by decide)
          exact runs_call rfl _ _ _ rfl en_size #[listV b 2 2] (by rw [map1]; exact congrArg (fun x => #[x]) h0) ((size_any nestT wn _ _ (rd_nest (QR.out.kept hbl) (Box.kept QB.out hbl)) (Nat.le_refl _) (by rw [nest_size]; omega)).mono fun e w' ⟨h1, h2⟩ => ⟨_, h1, h2, by rw [nest_size]; rfl⟩)
        · cases ho
          have h0 : vof _ a 1 = .int .i64 4 := had ⟨1, .data⟩ (by simp) rfl (by decide)
          exact runs_eql rfl _ _ rfl h0 rfl ⟨Below.refl _ _, rfl⟩
        · cases ho
          have h0 : vof _ a 2 = .bool true := had ⟨2, .data⟩ (by simp) rfl (by decide)
          exact runs_move rfl _ rfl h0 ⟨Below.refl _ _, rfl⟩
        · cases ho
          have hg : vof _ a 3 = .bool true := had ⟨3, .guard⟩ (by simp) rfl (by decide)
          have s1 := hf.slot 2 (by kernel_rfl)
          exact runs_load5 (wanted_of rfl hg) (.tmp 2) rfl s1 (Box.kept QG.out hbl) ⟨Below.refl _ _, rfl⟩
        · cases ho
          have hg : vof _ a 3 = .bool true := had ⟨3, .guard⟩ (by simp) rfl (by decide)
          have h0 : vof _ a 4 = listV b 2 2 := had ⟨4, .data⟩ (by simp) rfl (by decide)
          exact runs_call (wanted_of rfl hg) _ _ _ rfl en_depth #[listV b 2 2] (by rw [map1]; exact congrArg (fun x => #[x]) h0) ((depth_any nestT wn _ _ (rd_nest (QR.out.kept hbl) (Box.kept QB.out hbl)) (Nat.le_refl _) (by rw [nest_depth]; omega)).mono fun e w' ⟨h1, h2⟩ => ⟨_, h1, h2, by rw [nest_depth]; rfl⟩)
        · cases ho
          have hg : vof _ a 3 = .bool true := had ⟨3, .guard⟩ (by simp) rfl (by decide)
          have h0 : vof _ a 5 = .int .i64 3 := had ⟨5, .data⟩ (by simp) rfl (by decide)
          exact runs_eql (wanted_of rfl hg) _ _ rfl h0 rfl ⟨Below.refl _ _, rfl⟩
        · cases ho
          have h0 : vof _ a 3 = .bool true := had ⟨3, .data⟩ (by simp) rfl (by decide)
          have h1 : vof _ a 6 = .bool true := had ⟨6, .data⟩ (by simp) rfl (by decide)
          exact runs_pick rfl _ _ _ rfl h0 h1 ⟨Below.refl _ _, rfl⟩
        · cases ho
          have h0 : vof _ a 7 = .bool true := had ⟨7, .data⟩ (by simp) rfl (by decide)
          exact runs_move rfl _ rfl h0 ⟨Below.refl _ _, rfl⟩
        · cases ho
          have hg : vof _ a 8 = .bool true := had ⟨8, .guard⟩ (by simp) rfl (by decide)
          have s1 := hf.slot 1 (by kernel_rfl)
          exact runs_load5 (wanted_of rfl hg) (.tmp 1) rfl s1 (Box.kept QX.out hbl) ⟨Below.refl _ _, rfl⟩
        · cases ho
          have hg : vof _ a 8 = .bool true := had ⟨8, .guard⟩ (by simp) rfl (by decide)
          have h0 : vof _ a 9 = intV 1 := had ⟨9, .data⟩ (by simp) rfl (by decide)
          exact runs_slice1 (wanted_of rfl hg) _ rfl h0 ⟨(Below.refl _ _).alloc (Nat.le_refl _) _, _, rfl, Box.new _ _ _ _ _ _⟩
        · cases ho
          have hg : vof _ a 8 = .bool true := had ⟨8, .guard⟩ (by simp) rfl (by decide)
          obtain ⟨c, h1, h2⟩ : G9 b 10 (vof _ a 10) wn := had ⟨10, .data⟩ (by simp) rfl (by decide)
          exact runs_call (wanted_of rfl hg) _ _ _ rfl en_list #[.slice (some ⟨c, 0, none⟩) 1 1] (by rw [map1]; exact congrArg (fun x => #[x]) h1) ((list_any _ _ _ wn).mono fun e w' ⟨h3, h4⟩ => ⟨_, h3, h4, c, rfl, Box.kept h2 h4⟩)
        · cases ho
          have hg : vof _ a 8 = .bool true := had ⟨8, .guard⟩ (by simp) rfl (by decide)
          have s1 := hf.slot 1 (by kernel_rfl)
          exact runs_load5 (wanted_of rfl hg) (.tmp 1) rfl s1 (Box.kept QX.out hbl) ⟨Below.refl _ _, rfl⟩
        · cases ho
          have hg : vof _ a 8 = .bool true := had ⟨8, .guard⟩ (by simp) rfl (by decide)
          have s1 := hf.slot 1 (by kernel_rfl)
          exact runs_load5 (wanted_of rfl hg) (.tmp 1) rfl s1 (Box.kept QX.out hbl) ⟨Below.refl _ _, rfl⟩
        · cases ho
          have hg : vof _ a 8 = .bool true := had ⟨8, .guard⟩ (by simp) rfl (by decide)
          have h0 : vof _ a 12 = intV 1 := had ⟨12, .data⟩ (by simp) rfl (by decide)
          have h1 : vof _ a 13 = intV 1 := had ⟨13, .data⟩ (by simp) rfl (by decide)
          exact runs_slice2 (wanted_of rfl hg) _ _ rfl h0 h1 ⟨(Below.refl _ _).alloc (Nat.le_refl _) _, _, rfl, heap_alloc_new _ _⟩
        · cases ho
          have hg : vof _ a 8 = .bool true := had ⟨8, .guard⟩ (by simp) rfl (by decide)
          obtain ⟨c, h1, h2⟩ : G9 b 14 (vof _ a 14) wn := had ⟨14, .data⟩ (by simp) rfl (by decide)
          exact runs_call (wanted_of rfl hg) _ _ _ rfl en_list #[.slice (some ⟨c, 0, none⟩) 2 2] (by rw [map1]; exact congrArg (fun x => #[x]) h1) ((list_any _ _ _ wn).mono fun e w' ⟨h3, h4⟩ => ⟨_, h3, h4, c, rfl, h2.kept h4⟩)
        · cases ho
          have hg : vof _ a 8 = .bool true := had ⟨8, .guard⟩ (by simp) rfl (by decide)
          obtain ⟨c, h1, h2⟩ : G9 b 11 (vof _ a 11) wn := had ⟨11, .data⟩ (by simp) rfl (by decide)
          obtain ⟨c', h3, h4⟩ : G9 b 15 (vof _ a 15) wn := had ⟨15, .data⟩ (by simp) rfl (by decide)
          exact runs_call (wanted_of rfl hg) _ _ _ rfl en_cmp #[listV c 1 1, listV c' 2 2] (by rw [map2]; rw [show a.eval (.tmp 87) = _ from h1, show a.eval (.tmp 91) = _ from h3]) ((compare_any l1T l2T wn _ _ _ (rd_l1 (by unfold small; omega) h2) (rd_l2 h4) (Nat.le_refl _)).mono fun e w' ⟨h5, h6⟩ => ⟨_, h5, h6, by rw [lists_cmp]; rfl⟩)
        · cases ho
          have hg : vof _ a 8 = .bool true := had ⟨8, .guard⟩ (by simp) rfl (by decide)
          have h0 : vof _ a 16 = .int .i64 (-1) := had ⟨16, .data⟩ (by simp) rfl (by decide)
          exact runs_eql (wanted_of rfl hg) _ _ rfl h0 rfl ⟨Below.refl _ _, rfl⟩
        · cases ho
          have h0 : vof _ a 8 = .bool true := had ⟨8, .data⟩ (by simp) rfl (by decide)
          have h1 : vof _ a 17 = .bool true := had ⟨17, .data⟩ (by simp) rfl (by decide)
          exact runs_pick rfl _ _ _ rfl h0 h1 ⟨Below.refl _ _, rfl⟩
        · cases ho
          have h0 : vof _ a 18 = .bool true := had ⟨18, .data⟩ (by simp) rfl (by decide)
          exact runs_move rfl _ rfl h0 ⟨Below.refl _ _, rfl⟩
        · cases ho
          have hg : vof _ a 19 = .bool true := had ⟨19, .guard⟩ (by simp) rfl (by decide)
          exact runs_call (wanted_of rfl hg) _ _ _ rfl en_bool #[.bool true] (map1 _ _) ((bool_any true wn).mono fun e w' ⟨h1, h2⟩ => ⟨_, h1, h2, rfl⟩)
        · cases ho
          have hg : vof _ a 19 = .bool true := had ⟨19, .guard⟩ (by simp) rfl (by decide)
          exact runs_build01 (wanted_of rfl hg) _ _ rfl ⟨Below.refl _ _, rfl⟩
        · cases ho
          have hg : vof _ a 19 = .bool true := had ⟨19, .guard⟩ (by simp) rfl (by decide)
          have h1 : vof _ a 20 = .agg #[.int .i64 1, .int .i64 1, .string ⟨#[]⟩, .slice none 0 0, .slice none 0 0] := had ⟨20, .data⟩ (by simp) rfl (by decide)
          have h3 : vof _ a 21 = .agg #[.int .i64 1, .int .i64 1, .string ⟨#[]⟩, .slice none 0 0, .slice none 0 0] := had ⟨21, .data⟩ (by simp) rfl (by decide)
          have rb := rd_bare wn wn.heap.size 1 1 ⟨#[]⟩ (by unfold small; omega) (by unfold small; omega) (by decide)
          exact runs_call (wanted_of rfl hg) _ _ _ rfl en_same #[.agg #[.int .i64 1, .int .i64 1, .string ⟨#[]⟩, .slice none 0 0, .slice none 0 0], .agg #[.int .i64 1, .int .i64 1, .string ⟨#[]⟩, .slice none 0 0, .slice none 0 0]] (by rw [map2]; rw [show a.eval (.tmp 96) = _ from h1, show a.eval (.tmp 97) = _ from h3]) ((same_any _ _ wn _ _ _ rb rb (Nat.le_refl _)).mono fun e w' ⟨h5, h6⟩ => ⟨_, h5, h6, by rw [decide_eq_true (VT.cmp_self _)]; rfl⟩)
        · cases ho
          have h0 : vof _ a 19 = .bool true := had ⟨19, .data⟩ (by simp) rfl (by decide)
          have h1 : vof _ a 22 = .bool true := had ⟨22, .data⟩ (by simp) rfl (by decide)
          exact runs_pick rfl _ _ _ rfl h0 h1 ⟨Below.refl _ _, rfl⟩
        · cases ho
          have h0 : vof _ a 23 = .bool true := had ⟨23, .data⟩ (by simp) rfl (by decide)
          exact runs_move rfl _ rfl h0 ⟨Below.refl _ _, rfl⟩
        · cases ho
          have hg : vof _ a 24 = .bool true := had ⟨24, .guard⟩ (by simp) rfl (by decide)
          exact runs_build02 (wanted_of rfl hg) _ _ rfl ⟨Below.refl _ _, rfl⟩
        · cases ho
          have hg : vof _ a 24 = .bool true := had ⟨24, .guard⟩ (by simp) rfl (by decide)
          have h1 : vof _ a 25 = .agg #[.int .i64 7, .int .i64 0, .string ⟨#[97]⟩, .slice none 0 0, .slice none 0 0] := had ⟨25, .data⟩ (by simp) rfl (by decide)
          have rb := rd_bare wn wn.heap.size 7 0 ⟨#[97]⟩ (by unfold small; omega) (by unfold small; omega) (by decide)
          exact runs_call (wanted_of rfl hg) _ _ _ rfl en_lit #[.agg #[.int .i64 7, .int .i64 0, .string ⟨#[97]⟩, .slice none 0 0, .slice none 0 0]] (by rw [map1]; exact congrArg (fun x => #[x]) h1) ((literal_any _ wn _ _ rb (Nat.le_refl _)).mono fun e w' ⟨h5, h6⟩ => ⟨_, h5, h6, by rw [var_right]; rfl⟩)
        · cases ho
          have h0 : vof _ a 24 = .bool true := had ⟨24, .data⟩ (by simp) rfl (by decide)
          have h1 : vof _ a 26 = .bool true := had ⟨26, .data⟩ (by simp) rfl (by decide)
          exact runs_pick rfl _ _ _ rfl h0 h1 ⟨Below.refl _ _, rfl⟩
        · cases ho
          have h0 : vof _ a 27 = .bool true := had ⟨27, .data⟩ (by simp) rfl (by decide)
          exact runs_assign rfl _ rfl h0 ⟨Below.refl _ _, rfl⟩
      · intro a wn hf _ _ hend
        obtain ⟨hb, hall⟩ := hend (by decide)
        have h28 : a.tmps.getD 0 undef = .bool true := hall 28 (by decide)
        have hd : a.defers = [] := hf.1
        rw [Array.getD_eq_getD_getElem?] at h28
        have hfin : Below w.heap.size w wn := QW.out.trans (hb.mono QW.out.size)
        clear hend hall hf
        go_wp2_with fail
        exact bodyPost_ret (v := .bool true) (by simp [results, Try.results6, go_sem, h28]) hd ⟨rfl, hfin⟩
end Go.Proofs.Ytgbckpihlklnlaa
