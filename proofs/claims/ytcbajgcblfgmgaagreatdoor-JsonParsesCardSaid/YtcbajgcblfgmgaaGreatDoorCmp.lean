
/-
  The plain order of value trees: total, antisymmetric, transitive.
-/
import Derived.Test.YtcbajgcblfgmgaaGreatDoorVal
import Derived.Lib.Bytealg
import Derived.Lib.Small
namespace Go.Proofs.YtcbajgcblfgmgaaGreatDoor
def orE (x y : Int) : Int := if x = 0 then y else x
def keyD (ks : List ByteArray) : ByteArray := ks.headD ⟨#[]⟩
def cmpB (a b : ByteArray) : Int := Lib.compareBytes a.data.toList b.data.toList
mutual
def VT.cmp : VT → VT → Int
  | .mk k n s is ks, .mk k' n' s' is' ks' => orE (Lib.compareInt k k') (orE (orE (Lib.compareInt n n') (cmpB s s')) (VT.cmps is ks is' ks'))
def VT.cmps : List VT → List ByteArray → List VT → List ByteArray → Int
  | [], _, [], _ => 0
  | [], _, _ :: _, _ => -1
  | _ :: _, _, [], _ => 1
  | t :: r, ks, t' :: r', ks' => orE (orE (cmpB (keyD ks) (keyD ks')) (t.cmp t')) (VT.cmps r ks.tail r' ks'.tail)
end
/- The order's law on three results. -/
def Tri (x y z : Int) : Prop := (x = 0 → z = y) ∧ (y = 0 → z = x) ∧ (x = y → z = x)
theorem Tri.orE {x y z x' y' z' : Int} (h : Tri x y z) (h' : Tri x' y' z') : Tri (orE x x') (orE y y') (orE z z') := by
  unfold Tri Go.Proofs.YtcbajgcblfgmgaaGreatDoor.orE at *
  obtain ⟨a1, a2, a3⟩ := h
  obtain ⟨b1, b2, b3⟩ := h'
  refine ⟨?_, ?_, ?_⟩
  all_goals
    split <;> split <;> split
  all_goals (intro _; omega)
theorem orE_neg {x y x' y' : Int} (h : x' = -x) (h' : y' = -y) : orE x' y' = -orE x y := by
  unfold orE
  by_cases hx : x = 0
  · rw [if_pos (by omega), if_pos hx, h']
  · rw [if_neg (by omega), if_neg hx, h]
theorem cmpI_neg (a b : Int) : Lib.compareInt b a = -Lib.compareInt a b := by
  unfold Lib.compareInt
  by_cases h1 : a < b
  · rw [if_neg (by omega), if_pos (by omega), if_pos h1]; rfl
  · by_cases h2 : b < a
    · rw [if_pos h2, if_neg h1, if_pos (by omega)]
    · rw [if_neg h2, if_neg (by omega), if_neg h1, if_neg (by omega)]; rfl
theorem cmpI_tri (a b c : Int) : Tri (Lib.compareInt a b) (Lib.compareInt b c) (Lib.compareInt a c) := by
  unfold Tri Lib.compareInt
  refine ⟨?_, ?_, ?_⟩
  all_goals
    split <;> (try split) <;> (try split) <;> (try split) <;> (try split) <;> (try split)
  all_goals (intro _; omega)
theorem cmpL_neg : ∀ a b : List UInt8, Lib.compareBytes b a = -Lib.compareBytes a b
  | [], [] => rfl
  | [], _ :: _ => rfl
  | _ :: _, [] => rfl
  | a :: xs, b :: bs => by
    unfold Lib.compareBytes
    have ih := cmpL_neg xs bs
    simp only [UInt8.lt_iff_toNat_lt]
    by_cases h1 : a.toNat < b.toNat
    · rw [if_neg (by omega), if_pos h1, if_pos h1]; rfl
    · by_cases h2 : b.toNat < a.toNat
      · rw [if_pos h2, if_neg h1, if_pos h2]
      · rw [if_neg h2, if_neg h1, if_neg h1, if_neg h2, ih]
theorem cmpL_tri : ∀ a b c : List UInt8, Tri (Lib.compareBytes a b) (Lib.compareBytes b c) (Lib.compareBytes a c)
  | [], [], [] => by simp [Tri, Lib.compareBytes]
  | [], [], _ :: _ => by simp [Tri, Lib.compareBytes]
  | [], _ :: _, [] => by simp [Tri, Lib.compareBytes]
  | [], _ :: _, _ :: _ => by simp [Tri, Lib.compareBytes]
  | _ :: _, [], [] => by simp [Tri, Lib.compareBytes]
  | _ :: _, [], _ :: _ => by simp [Tri, Lib.compareBytes]
  | _ :: _, _ :: _, [] => by simp only [Tri, Lib.compareBytes]; refine ⟨fun h => ?_, fun h => ?_, fun h => ?_⟩ <;> first | trivial | exact h.symm | exact absurd h (by decide)
  | a :: xs, b :: bs, c :: cs => by
    have ih := cmpL_tri xs bs cs
    have e : ∀ (x y : UInt8) (xs ys : List UInt8), Lib.compareBytes (x :: xs) (y :: ys) = orE (Lib.compareInt x.toNat y.toNat) (Lib.compareBytes xs ys) := by
      intro x y xs ys
      rw [Lib.compareBytes]
      unfold orE Lib.compareInt
      simp only [UInt8.lt_iff_toNat_lt]
      by_cases h1 : x.toNat < y.toNat
      · rw [if_pos h1, if_neg (by rw [if_pos (by omega)]; omega), if_pos (by omega)]
      · by_cases h2 : y.toNat < x.toNat
        · rw [if_neg h1, if_pos h2, if_neg (by rw [if_neg (by omega), if_pos (by omega)]; omega), if_neg (by omega), if_pos (by omega)]
        · rw [if_neg h1, if_neg h2, if_pos (by rw [if_neg (by omega), if_neg (by omega)])]
    rw [e, e, e]
    exact (cmpI_tri _ _ _).orE ih
mutual
theorem VT.cmp_neg (a b : VT) : b.cmp a = -a.cmp b := by
  cases a with
  | mk k n s is ks =>
    cases b with
    | mk k' n' s' is' ks' =>
      simp only [VT.cmp]
      exact orE_neg (cmpI_neg _ _) (orE_neg (orE_neg (cmpI_neg _ _) (cmpL_neg _ _)) (VT.cmps_neg is ks is' ks'))
theorem VT.cmps_neg (is : List VT) (ks : List ByteArray) (is' : List VT) (ks' : List ByteArray) : VT.cmps is' ks' is ks = -VT.cmps is ks is' ks' := by
  match is, is' with
  | [], [] => rfl
  | [], _ :: _ => rfl
  | _ :: _, [] => rfl
  | t :: r, t' :: r' =>
    simp only [VT.cmps]
    exact orE_neg (orE_neg (cmpL_neg _ _) (VT.cmp_neg t t')) (VT.cmps_neg r ks.tail r' ks'.tail)
end
mutual
theorem VT.cmp_tri (a b c : VT) : Tri (a.cmp b) (b.cmp c) (a.cmp c) := by
  match a, b, c with
  | .mk k n s is ks, .mk k' n' s' is' ks', .mk k2 n2 s2 is2 ks2 =>
    simp only [VT.cmp]
    exact (cmpI_tri _ _ _).orE (((cmpI_tri _ _ _).orE (cmpL_tri _ _ _)).orE (VT.cmps_tri is ks is' ks' is2 ks2))
theorem VT.cmps_tri (is : List VT) (ks : List ByteArray) (is' : List VT) (ks' : List ByteArray) (is2 : List VT) (ks2 : List ByteArray) : Tri (VT.cmps is ks is' ks') (VT.cmps is' ks' is2 ks2) (VT.cmps is ks is2 ks2) := by
  match is, is', is2 with
  | [], [], [] => simp [Tri, VT.cmps]
  | [], [], _ :: _ => simp [Tri, VT.cmps]
  | [], _ :: _, [] => simp [Tri, VT.cmps]
  | [], _ :: _, _ :: _ => simp [Tri, VT.cmps]
  | _ :: _, [], [] => simp [Tri, VT.cmps]
  | _ :: _, [], _ :: _ => simp [Tri, VT.cmps]
  | _ :: _, _ :: _, [] => simp only [Tri, VT.cmps]; refine ⟨fun h => ?_, fun h => ?_, fun h => ?_⟩ <;> first | trivial | exact h.symm | exact absurd h (by decide)
  | t :: r, t' :: r', t2 :: r2 =>
    simp only [VT.cmps]
    exact ((cmpL_tri _ _ _).orE (VT.cmp_tri t t' t2)).orE (VT.cmps_tri r ks.tail r' ks'.tail r2 ks2.tail)
end
theorem VT.cmp_self (a : VT) : a.cmp a = 0 := by have := VT.cmp_neg a a; omega
/- What compareElements returns. -/
def keyI (ks : List ByteArray) (i : Nat) : ByteArray := (ks[i]?).getD ⟨#[]⟩
def elemCmp (is : List VT) (ks : List ByteArray) (is' : List VT) (ks' : List ByteArray) (i : Nat) : Int :=
  match is[i]?, is'[i]? with
  | none, _ => -1
  | some _, none => 1
  | some t, some t' => orE (cmpB (keyI ks i) (keyI ks' i)) (t.cmp t')
def cmpsAt (is : List VT) (ks : List ByteArray) (is' : List VT) (ks' : List ByteArray) (j : Nat) : Int := VT.cmps (is.drop j) (ks.drop j) (is'.drop j) (ks'.drop j)
theorem keyD_drop (ks : List ByteArray) (j : Nat) : keyD (ks.drop j) = keyI ks j := by
  unfold keyD keyI
  rw [List.headD_eq_head?_getD, List.head?_drop]
theorem cmpsAt_done {is : List VT} {ks : List ByteArray} {is' : List VT} {ks' : List ByteArray} {j : Nat} (h : is.length ≤ j) (h' : is'.length ≤ j) : cmpsAt is ks is' ks' j = 0 := by
  unfold cmpsAt
  rw [List.drop_of_length_le h, List.drop_of_length_le h']
  rfl
theorem cmpsAt_step {is : List VT} {ks : List ByteArray} {is' : List VT} {ks' : List ByteArray} {j : Nat} (h : j < is.length ∨ j < is'.length) : cmpsAt is ks is' ks' j = orE (elemCmp is ks is' ks' j) (cmpsAt is ks is' ks' (j + 1)) := by
  unfold cmpsAt elemCmp
  by_cases h1 : j < is.length
  · by_cases h2 : j < is'.length
    · rw [List.drop_eq_getElem_cons h1, List.drop_eq_getElem_cons h2, VT.cmps, List.getElem?_eq_getElem h1, List.getElem?_eq_getElem h2, keyD_drop, keyD_drop, List.tail_drop, List.tail_drop]
    · rw [List.drop_eq_getElem_cons h1, List.drop_of_length_le (by omega : is'.length ≤ j), VT.cmps, List.getElem?_eq_getElem h1, List.getElem?_eq_none (by omega : is'.length ≤ j)]
      rfl
  · have h2 : j < is'.length := by omega
    rw [List.drop_of_length_le (by omega : is.length ≤ j), List.drop_eq_getElem_cons h2, VT.cmps, List.getElem?_eq_none (by omega : is.length ≤ j)]
    rfl
theorem cmpI_range (a b : Int) : Lib.compareInt a b = -1 ∨ Lib.compareInt a b = 0 ∨ Lib.compareInt a b = 1 := by
  unfold Lib.compareInt
  split
  · simp
  · split <;> simp
theorem cmpL_range : ∀ a b : List UInt8, Lib.compareBytes a b = -1 ∨ Lib.compareBytes a b = 0 ∨ Lib.compareBytes a b = 1
  | [], [] => by simp [Lib.compareBytes]
  | [], _ :: _ => by simp [Lib.compareBytes]
  | _ :: _, [] => by simp [Lib.compareBytes]
  | a :: xs, b :: bs => by
    unfold Lib.compareBytes
    split
    · simp
    · split
      · simp
      · exact cmpL_range xs bs
theorem orE_range {x y : Int} (h : x = -1 ∨ x = 0 ∨ x = 1) (h' : y = -1 ∨ y = 0 ∨ y = 1) : orE x y = -1 ∨ orE x y = 0 ∨ orE x y = 1 := by
  unfold orE; split <;> assumption
mutual
theorem VT.cmp_range (a b : VT) : a.cmp b = -1 ∨ a.cmp b = 0 ∨ a.cmp b = 1 := by
  match a, b with
  | .mk k n s is ks, .mk k' n' s' is' ks' =>
    simp only [VT.cmp]
    exact orE_range (cmpI_range _ _) (orE_range (orE_range (cmpI_range _ _) (cmpL_range _ _)) (VT.cmps_range is ks is' ks'))
theorem VT.cmps_range (is : List VT) (ks : List ByteArray) (is' : List VT) (ks' : List ByteArray) : VT.cmps is ks is' ks' = -1 ∨ VT.cmps is ks is' ks' = 0 ∨ VT.cmps is ks is' ks' = 1 := by
  match is, is' with
  | [], [] => simp [VT.cmps]
  | [], _ :: _ => simp [VT.cmps]
  | _ :: _, [] => simp [VT.cmps]
  | t :: r, t' :: r' =>
    simp only [VT.cmps]
    exact orE_range (orE_range (cmpL_range _ _) (VT.cmp_range t t')) (VT.cmps_range r ks.tail r' ks'.tail)
end
end Go.Proofs.YtcbajgcblfgmgaaGreatDoor
