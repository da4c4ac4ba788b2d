
/-
  The reading of JSON text, as a function of the bytes.
-/
import Derived.Test.YtcbajgcblfgmgaaGreatDoorTextUnquote2
import Derived.Test.YtcbajgcblfgmgaaGreatDoorTextNumber
import Derived.Test.YtcbajgcblfgmgaaGreatDoorRAppend
import Derived.Lib.Bytealg
namespace Go.Proofs.YtcbajgcblfgmgaaGreatDoor
open Go.RowKit
abbrev Er := Nat × Int
def bt (s : ByteArray) (i : Nat) : UInt8 := s.data.toList.getD i 0
def isIn (set : List UInt8) (c : UInt8) : Bool := decide (0 ≤ Lib.indexByte set c)
theorem index_mem (set : List UInt8) (c : UInt8) : 0 ≤ Lib.indexByte set c ↔ c ∈ set := by
  induction set with
  | nil => simp [Lib.indexByte]
  | cons b l ih =>
    unfold Lib.indexByte
    by_cases h : b = c
    · subst h; simp
    · have h1 : (b == c) = false := by simpa using h
      have h2 : c ≠ b := fun e => h e.symm
      have := Lib.indexByte_ge l c
      simp only [h1, Bool.false_eq_true, if_false, List.mem_cons, h2, false_or]
      by_cases h3 : Lib.indexByte l c = -1
      · have h4 : ¬ c ∈ l := by rw [← ih]; omega
        simp [h3, h4]
      · have h4 : c ∈ l := by rw [← ih]; omega
        have h5 : (Lib.indexByte l c == -1) = false := by simpa using h3
        simp only [h5, Bool.false_eq_true, if_false, h4, iff_true]
        omega
theorem isIn_eq (set : List UInt8) (c : UInt8) : isIn set c = decide (c ∈ set) := by
  unfold isIn; exact decide_eq_decide.2 (index_mem set c)
theorem bt_end (s : ByteArray) (i : Nat) (h : s.size ≤ i) : bt s i = 0 := by
  unfold bt; rw [List.getD_eq_getElem?_getD, List.getElem?_eq_none (by rw [T1.size_eq]; exact h)]; rfl
theorem lt_of_in {s : ByteArray} {i : Nat} {set : List UInt8} (h0 : (0 : UInt8) ∉ set) (h : isIn set (bt s i) = true) : i < s.size := by
  rcases Nat.lt_or_ge i s.size with h1 | h1
  · exact h1
  · rw [bt_end s i h1, isIn_eq] at h
    exact absurd (of_decide_eq_true h) h0
theorem lt_of_bt {s : ByteArray} {i : Nat} (h : bt s i ≠ 0) : i < s.size := by
  rcases Nat.lt_or_ge i s.size with h1 | h1
  · exact h1
  · exact absurd (bt_end s i h1) h
def spL : List UInt8 := [32, 9, 10, 13]
def dgL : List UInt8 := [48, 49, 50, 51, 52, 53, 54, 55, 56, 57]
def dnL : List UInt8 := [49, 50, 51, 52, 53, 54, 55, 56, 57]
def hxL : List UInt8 := [48, 49, 50, 51, 52, 53, 54, 55, 56, 57, 97, 98, 99, 100, 101, 102, 65, 66, 67, 68, 69, 70]
def seL : List UInt8 := [34, 92, 47, 98, 102, 110, 114, 116]
def vbL : List UInt8 := [34, 91, 123, 110, 102, 116, 45, 48, 49, 50, 51, 52, 53, 54, 55, 56, 57]
/- The first place from i on whose byte is not of the set. -/
def skF (set : List UInt8) (s : ByteArray) : Nat → Nat → Nat
  | 0, i => i
  | f + 1, i => if isIn set (bt s i) then skF set s f (i + 1) else i
def sk (set : List UInt8) (s : ByteArray) (i : Nat) : Nat := skF set s (s.size - i) i
theorem sk_in {set : List UInt8} {s : ByteArray} {i : Nat} (h0 : (0 : UInt8) ∉ set) (h : isIn set (bt s i) = true) : sk set s i = sk set s (i + 1) := by
  have h1 := lt_of_in h0 h
  unfold sk
  rw [show s.size - i = (s.size - (i + 1)) + 1 by omega, skF, if_pos h]
theorem sk_out {set : List UInt8} {s : ByteArray} {i : Nat} (h : isIn set (bt s i) = false) : sk set s i = i := by
  unfold sk
  cases s.size - i with
  | zero => rfl
  | succ n => rw [skF, if_neg (by simp [h])]
theorem skF_le (set : List UInt8) (s : ByteArray) : ∀ (f i : Nat), i ≤ skF set s f i ∧ skF set s f i ≤ i + f
  | 0, i => by simp [skF]
  | f + 1, i => by
    unfold skF
    split
    · have := skF_le set s f (i + 1); omega
    · omega
theorem sk_le (set : List UInt8) (s : ByteArray) (i : Nat) : i ≤ sk set s i := (skF_le set s _ i).1
theorem sk_hi (set : List UInt8) (s : ByteArray) (i : Nat) (h : i ≤ s.size) : sk set s i ≤ s.size := by
  have := (skF_le set s (s.size - i) i).2; unfold sk; omega
def takeR (s : ByteArray) (set : List UInt8) (i : Nat) : Except Er Nat := if isIn set (bt s i) then .ok (i + 1) else .error (i, 3)
def wordR (s : ByteArray) : List UInt8 → Nat → Except Er Nat
  | [], i => .ok i
  | c :: r, i => match takeR s [c] i with
    | .ok j => wordR s r j
    | .error e => .error e
def escR (s : ByteArray) (i : Nat) : Except Er Nat :=
  if bt s i ≠ 117 then takeR s seL i else
    match takeR s [48] (i + 1) with
    | .error e => .error e
    | .ok j => match takeR s [48] j with
      | .error e => .error e
      | .ok j => match takeR s hxL j with
        | .error e => .error e
        | .ok j => takeR s hxL j
def chrR (s : ByteArray) (i : Nat) : Except Er Nat :=
  if bt s i < 32 ∨ 126 < bt s i then .error (i, 3) else if bt s i ≠ 92 then .ok (i + 1) else escR s (i + 1)
def charsF (s : ByteArray) : Nat → Nat → Except Er Nat
  | 0, i => .error (i, 99)
  | f + 1, i => if bt s i = 34 then .ok i else match chrR s i with
    | .error e => .error e
    | .ok j => charsF s f j
def sub (s : ByteArray) (i j : Nat) : List UInt8 := (s.data.toList.drop i).take (j - i)
def litS (s : ByteArray) (i j : Nat) : ByteArray := ⟨((T1.unquoteL (sub s i j)).getD []).toArray⟩
/- A string literal from i on: the string and the place behind. -/
def litR (s : ByteArray) (i : Nat) : Except Er (ByteArray × Nat) :=
  if bt s i = 34 then
    match charsF s (s.size + 1) (i + 1) with
    | .error e => .error e
    | .ok j => .ok (litS s i (j + 1), j + 1)
  else .error (i, 3)
def nullT : VT := .mk 0 0 ⟨#[]⟩ [] []
def boolT (n : Int) : VT := .mk 1 n ⟨#[]⟩ [] []
def intT (n : Int) : VT := .mk 2 n ⟨#[]⟩ [] []
def textT (s : ByteArray) : VT := .mk 3 0 s [] []
def intR (s : ByteArray) (i : Nat) : Except Er (VT × Nat) :=
  let i1 := if bt s i = 45 then i + 1 else i
  let set := if bt s i = 45 then dnL else dgL
  if isIn set (bt s i1) then
    let i3 := if bt s i1 = 48 then i1 + 1 else sk dgL s (i1 + 1)
    let r := T1.numL (sub s i i3)
    if r.2 = 0 then .ok (intT r.1, i3) else .error (i, r.2)
  else .error (i1, 3)
def beginR (s : ByteArray) (level i n : Nat) : Except Er Nat :=
  if isIn vbL (bt s i) = false then .error (i, 3) else if 24 < level then .error (i, 5) else if 4096 < n + 1 then .error (i, 4) else .ok (n + 1)
section
variable {α : Type}
def elsF (s : ByteArray) (cl : UInt8) (step : α → Nat → Nat → Except Er (α × Nat × Nat)) : Nat → α → Nat → Nat → Except Er (α × Nat × Nat)
  | 0, _, _, _ => .error (0, 99)
  | f + 1, a, i, n => match step a i n with
    | .error e => .error e
    | .ok (a1, i1, n1) =>
      if bt s (sk spL s i1) = cl then .ok (a1, sk spL s i1 + 1, n1)
      else if bt s (sk spL s i1) = 44 then elsF s cl step f a1 (sk spL s i1 + 1) n1 else .error (sk spL s i1, 3)
def els (s : ByteArray) (cl : UInt8) (step : α → Nat → Nat → Except Er (α × Nat × Nat)) (a : α) (i n : Nat) : Except Er (α × Nat × Nat) :=
  if bt s (sk spL s (i + 1)) = cl then .ok (a, sk spL s (i + 1) + 1, n) else elsF s cl step (s.size + 1) a (sk spL s (i + 1)) n
end
def stepL (pv : Nat → Nat → Except Er (VT × Nat × Nat)) (a : List VT) (i n : Nat) : Except Er (List VT × Nat × Nat) :=
  match pv i n with
  | .error e => .error e
  | .ok (t, i1, n1) => .ok (a ++ [t], i1, n1)
def memK (seen : List ByteArray) (k : ByteArray) : Bool := seen.any fun x => decide (x = k)
theorem memK_iff (seen : List ByteArray) (k : ByteArray) : memK seen k = true ↔ k ∈ seen := by
  unfold memK; rw [List.any_eq_true]; exact ⟨fun ⟨x, hx, h⟩ => by rw [← of_decide_eq_true h]; exact hx, fun h => ⟨k, h, by simp⟩⟩
def keyR (s : ByteArray) (seen : List ByteArray) (i : Nat) : Except Er (ByteArray × Nat) :=
  match litR s (sk spL s i) with
  | .error e => .error e
  | .ok (k, j) => if memK seen k then .error (sk spL s i, 7) else if bt s (sk spL s j) = 58 then .ok (k, sk spL s j + 1) else .error (sk spL s j, 3)
def stepO (s : ByteArray) (pv : Nat → Nat → Except Er (VT × Nat × Nat)) (a : List ByteArray × List VT) (i n : Nat) : Except Er ((List ByteArray × List VT) × Nat × Nat) :=
  match keyR s a.1 i with
  | .error e => .error e
  | .ok (k, j) => match pv j n with
    | .error e => .error e
    | .ok (t, i1, n1) => .ok ((a.1 ++ [k], a.2 ++ [t]), i1, n1)
/- A value from i on, at a level, behind n values. -/
def pv (s : ByteArray) : Nat → Nat → Nat → Nat → Except Er (VT × Nat × Nat)
  | 0, _, _, _ => .error (0, 99)
  | f + 1, level, i, n =>
    match beginR s level (sk spL s i) n with
    | .error e => .error e
    | .ok n1 =>
      let i0 := sk spL s i
      let c := bt s i0
      if c = 110 then (match wordR s [110, 117, 108, 108] i0 with | .error e => .error e | .ok j => .ok (nullT, j, n1))
      else if c = 102 then (match wordR s [102, 97, 108, 115, 101] i0 with | .error e => .error e | .ok j => .ok (boolT 0, j, n1))
      else if c = 116 then (match wordR s [116, 114, 117, 101] i0 with | .error e => .error e | .ok j => .ok (boolT 1, j, n1))
      else if c = 34 then (match litR s i0 with | .error e => .error e | .ok (x, j) => .ok (textT x, j, n1))
      else if c = 91 then (match els s 93 (stepL (pv s f (level + 1))) [] i0 n1 with | .error e => .error e | .ok (a, j, n2) => .ok (.mk 5 0 ⟨#[]⟩ a [], j, n2))
      else if c = 123 then (match els s 125 (stepO s (pv s f (level + 1))) ([], []) i0 n1 with | .error e => .error e | .ok (a, j, n2) => .ok (.mk 6 0 ⟨#[]⟩ a.2 a.1, j, n2))
      else (match intR s i0 with | .error e => .error e | .ok (t, j) => .ok (t, j, n1))
/- What Parse answers. -/
def parseR (s : ByteArray) : Except Er VT :=
  match pv s (s.size + 1) 1 0 0 with
  | .error e => .error e
  | .ok (t, j, _) => if sk spL s j < s.size then .error (sk spL s j, 3) else .ok t
end Go.Proofs.YtcbajgcblfgmgaaGreatDoor
