
/-
  Contract of package text: Unquote. The reading of JSON text, as a function of the bytes.
-/
import Derived.Test.YtcbajgcblfgmgaaDoorTextUnquote
import Derived.Lib.BufferRead
import Derived.Test.YtcbajgcblfgmgaaDoorTextNumber
import Derived.Test.YtcbajgcblfgmgaaDoorRdS
import Derived.Lib.Bytealg
namespace Go.Proofs.YtcbajgcblfgmgaaDoor.T1
open Go.RowKit
def unqF : Nat → List UInt8 → Option (List UInt8)
  | 0, l => if l = [] then some [] else none
  | f + 1, l => if l = [] then some [] else match stepL l with
    | none => none
    | some (b, k) => (unqF f (l.drop k)).map (b :: ·)
theorem numL4_len {t : List UInt8} {b : UInt8} (h : numL4 t = some b) : 4 ≤ t.length := by
  unfold numL4 at h
  by_cases e : okB t = true
  · unfold okB at e; simp at e; exact e.1.1.1.1.1
  · rw [if_neg e] at h; cases h
theorem stepL_len {l : List UInt8} {b : UInt8} {k : Nat} (h : stepL l = some (b, k)) : 1 ≤ k ∧ k ≤ l.length := by
  cases l with
  | nil => cases h
  | cons c r =>
    rw [stepL_cons] at h
    by_cases h1 : c = 34 ∨ prB (c.toNat : Int) = false
    · rw [if_pos h1] at h; cases h
    rw [if_neg h1] at h
    by_cases h2 : c ≠ 92
    · rw [if_pos h2] at h; cases h; simp
    rw [if_neg h2] at h
    cases r with
    | nil => cases h
    | cons d t =>
      simp only at h
      by_cases h3 : d = 117
      · rw [if_pos h3] at h
        obtain ⟨x, hx, e⟩ := Option.map_eq_some_iff.1 h
        have := numL4_len hx
        cases e; simp; omega
      · rw [if_neg h3] at h
        obtain ⟨x, hx, e⟩ := Option.map_eq_some_iff.1 h
        cases e; simp
theorem unqF_enough : ∀ (f : Nat) (l : List UInt8), l.length ≤ f → unqF f l = unqF l.length l
  | 0, l, h => by
    have : l = [] := List.eq_nil_of_length_eq_zero (by omega)
    subst this; rfl
  | f + 1, [], _ => rfl
  | f + 1, c :: r, h => by
    rw [List.length_cons]
    unfold unqF
    rw [if_neg (by simp), if_neg (by simp)]
    cases hs : stepL (c :: r) with
    | none => rfl
    | some p =>
      obtain ⟨b, k⟩ := p
      have hk := stepL_len hs
      have hl : ((c :: r).drop k).length ≤ r.length := by rw [List.length_drop, List.length_cons]; omega
      simp only
      rw [unqF_enough f _ (by rw [List.length_cons] at h; omega), unqF_enough r.length _ hl]
def unqR (l : List UInt8) : Option (List UInt8) := unqF l.length l
theorem unqR_nil : unqR [] = some [] := rfl
theorem unqR_step {l : List UInt8} {b : UInt8} {k : Nat} (h : stepL l = some (b, k)) : unqR l = (unqR (l.drop k)).map (b :: ·) := by
  cases l with
  | nil => cases h
  | cons c r =>
    have hk := stepL_len h
    unfold unqR
    rw [List.length_cons]
    conv => lhs; unfold unqF
    rw [if_neg (by simp), h]
    simp only
    rw [unqF_enough r.length _ (by rw [List.length_drop, List.length_cons]; omega)]
theorem unqR_bad {l : List UInt8} (h0 : l ≠ []) (h : stepL l = none) : unqR l = none := by
  cases l with
  | nil => exact absurd rfl h0
  | cons c r =>
    unfold unqR
    rw [List.length_cons]
    unfold unqF
    rw [if_neg (by simp), h]
def midL (l : List UInt8) : List UInt8 := (l.drop 1).take (l.length - 2)
def unquoteL (l : List UInt8) : Option (List UInt8) := if 2 ≤ l.length ∧ l.getD 0 0 = 34 ∧ l.getD (l.length - 1) 0 = 34 then unqR (midL l) else none
def uq2 : Option (List UInt8) → Value
  | some l => .tuple #[.string ⟨l.toArray⟩, .int .i64 0]
  | none => .tuple #[.string ⟨#[]⟩, .int .i64 3]
def UqPost (o : Option (List UInt8)) (w : World) (e : Ending) (w' : World) : Prop := e = .returned (uq2 o) ∧ Below w.heap.size w w'
def UnqAt (l done rest : List UInt8) : Prop := unqR l = (unqR rest).map (done ++ ·)
theorem unqAt_start (l : List UInt8) : UnqAt l [] l := by unfold UnqAt; simp
theorem unqAt_step {l done rest : List UInt8} {b : UInt8} {k : Nat} (h : UnqAt l done rest) (hs : stepL rest = some (b, k)) : UnqAt l (done ++ [b]) (rest.drop k) := by
  unfold UnqAt at h ⊢
  rw [h, unqR_step hs, Option.map_map]
  congr 1
  funext x; simp
theorem unqAt_bad {l done rest : List UInt8} (h : UnqAt l done rest) (h0 : rest ≠ []) (hs : stepL rest = none) : unqR l = none := by
  unfold UnqAt at h; rw [h, unqR_bad h0 hs]; rfl
theorem unqAt_end {l done rest : List UInt8} (h : UnqAt l done rest) (h0 : rest = []) : unqR l = some done := by
  unfold UnqAt at h; rw [h, h0, unqR_nil]; simp
theorem OwnB.string' {w : World} {base : Nat} {v : Value} {l : List UInt8} (h : OwnB w base v l) : (convert 41 9 v).run Tryd.prog w = .ok (.string ⟨l.toArray⟩) w := by
  by_cases h0 : 0 < l.length
  · exact h.string h0
  have e : l = [] := List.eq_nil_of_length_eq_zero (by omega)
  subst e
  rcases h.2 with ⟨rfl, _⟩ | ⟨g, cap, cur, rfl, _⟩
  · exact Lib.run_convert_nil_bytes w _ _ _ _ Tryd.underlying41 Tryd.underlying5 Tryd.underlying9
  · exact run_convert_bytes_back w _ _ _ _ cap [] Tryd.underlying41 Tryd.underlying5 Tryd.underlying9 (fun j hj => absurd hj (by simp))
def strLen : Value → Nat
  | .string s => s.size
  | _ => 0
theorem mid_of (s : ByteArray) : (s.extract 1 (s.size - 1)).data.toList = midL s.data.toList := by
  rw [Lib.extract_data]; unfold midL; rw [size_eq]; rfl
theorem unquote_no (s : ByteArray) (w : World) (hs : s.size ≤ maxLen) (h : ¬ (2 ≤ s.size ∧ s.data.toList.getD 0 0 = 34 ∧ s.data.toList.getD (s.size - 1) 0 = 34)) :
    Calls Tryd.prog 47 #[.string s] w (UqPost (unquoteL s.data.toList) w) := by
  have e : unquoteL s.data.toList = none := by unfold unquoteL; rw [size_eq, if_neg h]
  rw [e]
  unfold maxLen at hs
  by_cases h2 : 2 ≤ s.size
  · have h0' : 0 < s.size := by omega
    have h1' : s.size - 1 < s.size := by omega
    rw [getD_at s 0 h0', getD_at s (s.size - 1) h1'] at h
    by_cases ha : s[0] = 34
    · have hb : s[s.size - 1] ≠ 34 := fun e => h ⟨h2, ha, e⟩
      have g1 : ((s[0].toNat : Int) != 34) = false := by rw [ha]; rfl
      have g2 : ((s[s.size - 1].toNat : Int) != 34) = true := by
        have := u8_ne hb
        rw [bne]; rw [show ((s[s.size - 1].toNat : Int) == 34) = false from this]; rfl
      clear h ha hb
      go_enter Tryd.func47, Tryd.ntmps47
      go_wp2_with fail
      go_ret2
      exact ⟨rfl, Below.refl _ _⟩
    · have g1 : ((s[0].toNat : Int) != 34) = true := by
        have := u8_ne ha
        rw [bne]; rw [show ((s[0].toNat : Int) == 34) = false from this]; rfl
      clear h ha
      go_enter Tryd.func47, Tryd.ntmps47
      go_wp2_with fail
      go_ret2
      exact ⟨rfl, Below.refl _ _⟩
  · have h2' : (s.size : Int) < 2 := by omega
    clear h h2
    go_enter Tryd.func47, Tryd.ntmps47
    go_wp2_with fail
    go_ret2
    exact ⟨rfl, Below.refl _ _⟩
set_option maxRecDepth 100000 in
theorem unquote_yes (s : ByteArray) (w : World) (hs : s.size ≤ 137438953472) (h2 : 2 ≤ s.size) (ha : s.data.toList.getD 0 0 = 34) (hb : s.data.toList.getD (s.size - 1) 0 = 34) :
    Calls Tryd.prog 47 #[.string s] w (UqPost (unquoteL s.data.toList) w) := by
  have e : unquoteL s.data.toList = unqR (midL s.data.toList) := by unfold unquoteL; rw [size_eq, if_pos ⟨h2, ha, hb⟩]
  rw [e]
  clear e
  have h0' : 0 < s.size := by omega
  have h1' : s.size - 1 < s.size := by omega
  rw [getD_at s 0 h0'] at ha
  rw [getD_at s (s.size - 1) h1'] at hb
  have g1 : ((s[0].toNat : Int) != 34) = false := by rw [ha]; rfl
  have g2 : ((s[s.size - 1].toNat : Int) != 34) = false := by rw [hb]; rfl
  clear ha hb
  obtain ⟨i0, hi, hz0, hz1, hz2⟩ := info_parts info5
  go_enter Tryd.func47, Tryd.ntmps47
  go_wp2_with (refine wpList_make_own _ rfl _ _ 41 rfl w.heap.size 5 i0 (.int .u8 0) 1 Tryd.underlying41 hi hz0 hz1 _ _ _ (s.size - 1 - 1) rfl rfl rfl ?_ ?_ ?_ ?_)
  · rw [hz2]; omega
  · unfold maxLen; omega
  · exact Nat.le_refl _
  intro w1 hown1 hg1
  have hown1 : OwnB w1 w.heap.size _ [] := hown1
  have hb1 : Below w.heap.size w w1 := (Below.refl _ _).grown hg1 (Nat.le_refl _) (by simp)
  clear hg1
  have hml : (s.extract 1 (s.size - 1)).size ≤ s.size := by
    rw [← size_eq, mid_of, ← size_eq s]; unfold midL; rw [List.length_take, List.length_drop]; omega
  have hat : UnqAt (midL s.data.toList) [] (s.extract 1 (s.size - 1)).data.toList := by rw [mid_of]; exact unqAt_start _
  generalize s.extract 1 (s.size - 1) = m at *
  generalize midL s.data.toList = l at *
  go_wp2
  go_loopw [4, 5] (fun c v wr => ∃ (r : ByteArray) (done : List UInt8), r.size + done.length ≤ s.size ∧ c = .string r ∧ OwnB wr w.heap.size v done ∧ UnqAt l done r.data.toList ∧ Below w.heap.size w wr) (fun c _ _ => strLen c)
  case atStart => exact ⟨m, [], by simpa using hml, rfl, hown1, hat, hb1⟩
  case round =>
    obtain ⟨r, done, hrd, rfl, hown, hq, hb⟩ := hrel
    have hsz := hb.size
    clear hown1 hb1 hml hat
    by_cases h0 : r.size = 0
    · have H := Lib.hid (unqAt_end hq (List.eq_nil_of_length_eq_zero (by rw [size_eq]; exact h0)))
      have e1 : (!r.toList.isEmpty) = false := by rw [nil_of h0]; rfl
      have e2 : r.toList = [] := nil_of h0
      have hcv := hown.string'
      clear hq hown h0
      go_wp2
      go_ret2
      exact ⟨by rw [H.out]; rfl, hb⟩
    have h0' : 0 < r.size := by omega
    have e1 : (!r.toList.isEmpty) = true := by rw [isEmpty_of h0']; rfl
    have e2 : r.toList ≠ [] := ne_nil_of h0'
    clear h0
    go_wp2_with fail
    refine (first_any _ _ h0' (by unfold maxLen; omega)).mono ?_
    cases hs : stepL r.data.toList with
    | none =>
      rintro e w2 ⟨rfl, rfl⟩
      have H := Lib.hid (unqAt_bad hq (by intro e; have := size_eq r; rw [e] at this; simp at this; omega) hs)
      clear hs hq
      unfold fb2
      go_wp2
      go_ret2
      exact ⟨by rw [H.out]; rfl, hb⟩
    | some p =>
      obtain ⟨b, k⟩ := p
      have hk := stepL_len hs
      rw [size_eq] at hk
      obtain ⟨k1, k2⟩ := hk
      have H := Lib.hid (unqAt_step hq hs)
      have k0 : ((k : Int) == 0) = false := by rw [beq_eq_false_iff_ne]; omega
      rintro e w2 ⟨rfl, rfl⟩
      clear hs hq
      unfold fb2
      go_wp2_with (at_builtin; refine append_B rfl _ _ rfl w.heap.size _ _ rfl (hown.alloc _) _ _ [b] rfl (cells_B _ _ _ [b] rfl) ?_ ?_ ?_)
      · simp; omega
      · simp; omega
      intro v3 w3 hown3 hg3
      have hb3 : Below w.heap.size w w3 := (hb.alloc hsz _).grown hg3 (by simp; omega) (by intro j hj; have := hown.lt j hj; omega)
      clear hg3 hown hb hsz
      have hdr := Lib.hid (drop_of r k)
      have hds : (r.extract k r.size).size = r.size - k := by rw [← size_eq, hdr.out, List.length_drop, size_eq]
      have HDS := Lib.hid hds
      clear hds
      go_wp2
      go_roundw
      case rel => exact ⟨r.extract k r.size, done ++ [b], by rw [HDS.out, List.length_append]; simp; omega, rfl, hown3, by rw [hdr.out]; exact H.out, hb3⟩
      case measure => show (r.extract k r.size).size < r.size; rw [HDS.out]; omega
theorem unquote_any (s : ByteArray) (w : World) (hs : s.size ≤ 137438953472) :
    Calls Tryd.prog 47 #[.string s] w (UqPost (unquoteL s.data.toList) w) := by
  by_cases h : 2 ≤ s.size ∧ s.data.toList.getD 0 0 = 34 ∧ s.data.toList.getD (s.size - 1) 0 = 34
  · exact unquote_yes s w hs h.1 h.2.1 h.2.2
  · exact unquote_no s w (by unfold maxLen; omega) h
end Go.Proofs.YtcbajgcblfgmgaaDoor.T1
namespace Go.Proofs.YtcbajgcblfgmgaaDoor
open Go.RowKit
abbrev Er := Nat × Int
def bt (s : ByteArray) (i : Nat) : UInt8 := s.data.toList.getD i 0
def isIn (set : List UInt8) (c : UInt8) : Bool := decide (0 ≤ Lib.indexByte set c)
theorem index_mem (set : List UInt8) (c : UInt8) : 0 ≤ Lib.indexByte set c ↔ c ∈ set := by
  induction set with
  | nil => simp [Lib.indexByte]
  | cons b l ih =>
    unfold Lib.indexByte
    by_cases h : b = c
    · subst h; simp
    · have h1 : (b == c) = false := by simpa using h
      have h2 : c ≠ b := fun e => h e.symm
      have := Lib.indexByte_ge l c
      simp only [h1, Bool.false_eq_true, if_false, List.mem_cons, h2, false_or]
      by_cases h3 : Lib.indexByte l c = -1
      · have h4 : ¬ c ∈ l := by rw [← ih]; omega
        simp [h3, h4]
      · have h4 : c ∈ l := by rw [← ih]; omega
        have h5 : (Lib.indexByte l c == -1) = false := by simpa using h3
        simp only [h5, Bool.false_eq_true, if_false, h4, iff_true]
        omega
theorem isIn_eq (set : List UInt8) (c : UInt8) : isIn set c = decide (c ∈ set) := by
  unfold isIn; exact decide_eq_decide.2 (index_mem set c)
theorem bt_end (s : ByteArray) (i : Nat) (h : s.size ≤ i) : bt s i = 0 := by
  unfold bt; rw [List.getD_eq_getElem?_getD, List.getElem?_eq_none (by rw [T1.size_eq]; exact h)]; rfl
theorem lt_of_in {s : ByteArray} {i : Nat} {set : List UInt8} (h0 : (0 : UInt8) ∉ set) (h : isIn set (bt s i) = true) : i < s.size := by
  rcases Nat.lt_or_ge i s.size with h1 | h1
  · exact h1
  · rw [bt_end s i h1, isIn_eq] at h
    exact absurd (of_decide_eq_true h) h0
theorem lt_of_bt {s : ByteArray} {i : Nat} (h : bt s i ≠ 0) : i < s.size := by
  rcases Nat.lt_or_ge i s.size with h1 | h1
  · exact h1
  · exact absurd (bt_end s i h1) h
def spL : List UInt8 := [32, 9, 10, 13]
def dgL : List UInt8 := [48, 49, 50, 51, 52, 53, 54, 55, 56, 57]
def dnL : List UInt8 := [49, 50, 51, 52, 53, 54, 55, 56, 57]
def hxL : List UInt8 := [48, 49, 50, 51, 52, 53, 54, 55, 56, 57, 97, 98, 99, 100, 101, 102, 65, 66, 67, 68, 69, 70]
def seL : List UInt8 := [34, 92, 47, 98, 102, 110, 114, 116]
def vbL : List UInt8 := [34, 91, 123, 110, 102, 116, 45, 48, 49, 50, 51, 52, 53, 54, 55, 56, 57]
/- The first place from i on whose byte is not of the set. -/
def skF (set : List UInt8) (s : ByteArray) : Nat → Nat → Nat
  | 0, i => i
  | f + 1, i => if isIn set (bt s i) then skF set s f (i + 1) else i
def sk (set : List UInt8) (s : ByteArray) (i : Nat) : Nat := skF set s (s.size - i) i
theorem sk_in {set : List UInt8} {s : ByteArray} {i : Nat} (h0 : (0 : UInt8) ∉ set) (h : isIn set (bt s i) = true) : sk set s i = sk set s (i + 1) := by
  have h1 := lt_of_in h0 h
  unfold sk
  rw [show s.size - i = (s.size - (i + 1)) + 1 by omega, skF, if_pos h]
theorem sk_out {set : List UInt8} {s : ByteArray} {i : Nat} (h : isIn set (bt s i) = false) : sk set s i = i := by
  unfold sk
  cases s.size - i with
  | zero => rfl
  | succ n => rw [skF, if_neg (by simp [h])]
theorem skF_le (set : List UInt8) (s : ByteArray) : ∀ (f i : Nat), i ≤ skF set s f i ∧ skF set s f i ≤ i + f
  | 0, i => by simp [skF]
  | f + 1, i => by
    unfold skF
    split
    · have := skF_le set s f (i + 1); omega
    · omega
theorem sk_le (set : List UInt8) (s : ByteArray) (i : Nat) : i ≤ sk set s i := (skF_le set s _ i).1
theorem sk_hi (set : List UInt8) (s : ByteArray) (i : Nat) (h : i ≤ s.size) : sk set s i ≤ s.size := by
  have := (skF_le set s (s.size - i) i).2; unfold sk; omega
def takeR (s : ByteArray) (set : List UInt8) (i : Nat) : Except Er Nat := if isIn set (bt s i) then .ok (i + 1) else .error (i, 3)
def wordR (s : ByteArray) : List UInt8 → Nat → Except Er Nat
  | [], i => .ok i
  | c :: r, i => match takeR s [c] i with
    | .ok j => wordR s r j
    | .error e => .error e
def escR (s : ByteArray) (i : Nat) : Except Er Nat :=
  if bt s i ≠ 117 then takeR s seL i else
    match takeR s [48] (i + 1) with
    | .error e => .error e
    | .ok j => match takeR s [48] j with
      | .error e => .error e
      | .ok j => match takeR s hxL j with
        | .error e => .error e
        | .ok j => takeR s hxL j
def chrR (s : ByteArray) (i : Nat) : Except Er Nat :=
  if bt s i < 32 ∨ 126 < bt s i then .error (i, 3) else if bt s i ≠ 92 then .ok (i + 1) else escR s (i + 1)
def charsF (s : ByteArray) : Nat → Nat → Except Er Nat
  | 0, i => .error (i, 99)
  | f + 1, i => if bt s i = 34 then .ok i else match chrR s i with
    | .error e => .error e
    | .ok j => charsF s f j
def sub (s : ByteArray) (i j : Nat) : List UInt8 := (s.data.toList.drop i).take (j - i)
def litS (s : ByteArray) (i j : Nat) : ByteArray := ⟨((T1.unquoteL (sub s i j)).getD []).toArray⟩
/- A string literal from i on: the string and the place behind. -/
def litR (s : ByteArray) (i : Nat) : Except Er (ByteArray × Nat) :=
  if bt s i = 34 then
    match charsF s (s.size + 1) (i + 1) with
    | .error e => .error e
    | .ok j => .ok (litS s i (j + 1), j + 1)
  else .error (i, 3)
def nullT : VT := .mk 0 0 ⟨#[]⟩ [] []
def boolT (n : Int) : VT := .mk 1 n ⟨#[]⟩ [] []
def intT (n : Int) : VT := .mk 2 n ⟨#[]⟩ [] []
def textT (s : ByteArray) : VT := .mk 3 0 s [] []
def intR (s : ByteArray) (i : Nat) : Except Er (VT × Nat) :=
  let i1 := if bt s i = 45 then i + 1 else i
  let set := if bt s i = 45 then dnL else dgL
  if isIn set (bt s i1) then
    let i3 := if bt s i1 = 48 then i1 + 1 else sk dgL s (i1 + 1)
    let r := T1.numL (sub s i i3)
    if r.2 = 0 then .ok (intT r.1, i3) else .error (i, r.2)
  else .error (i1, 3)
def beginR (s : ByteArray) (level i n : Nat) : Except Er Nat :=
  if isIn vbL (bt s i) = false then .error (i, 3) else if 24 < level then .error (i, 5) else if 4096 < n + 1 then .error (i, 4) else .ok (n + 1)
section
variable {α : Type}
def elsF (s : ByteArray) (cl : UInt8) (step : α → Nat → Nat → Except Er (α × Nat × Nat)) : Nat → α → Nat → Nat → Except Er (α × Nat × Nat)
  | 0, _, _, _ => .error (0, 99)
  | f + 1, a, i, n => match step a i n with
    | .error e => .error e
    | .ok (a1, i1, n1) =>
      if bt s (sk spL s i1) = cl then .ok (a1, sk spL s i1 + 1, n1)
      else if bt s (sk spL s i1) = 44 then elsF s cl step f a1 (sk spL s i1 + 1) n1 else .error (sk spL s i1, 3)
def els (s : ByteArray) (cl : UInt8) (step : α → Nat → Nat → Except Er (α × Nat × Nat)) (a : α) (i n : Nat) : Except Er (α × Nat × Nat) :=
  if bt s (sk spL s (i + 1)) = cl then .ok (a, sk spL s (i + 1) + 1, n) else elsF s cl step (s.size + 1) a (sk spL s (i + 1)) n
end
def stepL (pv : Nat → Nat → Except Er (VT × Nat × Nat)) (a : List VT) (i n : Nat) : Except Er (List VT × Nat × Nat) :=
  match pv i n with
  | .error e => .error e
  | .ok (t, i1, n1) => .ok (a ++ [t], i1, n1)
def memK (seen : List ByteArray) (k : ByteArray) : Bool := seen.any fun x => decide (x = k)
theorem memK_iff (seen : List ByteArray) (k : ByteArray) : memK seen k = true ↔ k ∈ seen := by
  unfold memK; rw [List.any_eq_true]; exact ⟨fun ⟨x, hx, h⟩ => by rw [← of_decide_eq_true h]; exact hx, fun h => ⟨k, h, by simp⟩⟩
def keyR (s : ByteArray) (seen : List ByteArray) (i : Nat) : Except Er (ByteArray × Nat) :=
  match litR s (sk spL s i) with
  | .error e => .error e
  | .ok (k, j) => if memK seen k then .error (sk spL s i, 7) else if bt s (sk spL s j) = 58 then .ok (k, sk spL s j + 1) else .error (sk spL s j, 3)
def stepO (s : ByteArray) (pv : Nat → Nat → Except Er (VT × Nat × Nat)) (a : List ByteArray × List VT) (i n : Nat) : Except Er ((List ByteArray × List VT) × Nat × Nat) :=
  match keyR s a.1 i with
  | .error e => .error e
  | .ok (k, j) => match pv j n with
    | .error e => .error e
    | .ok (t, i1, n1) => .ok ((a.1 ++ [k], a.2 ++ [t]), i1, n1)
/- A value from i on, at a level, behind n values. -/
def pv (s : ByteArray) : Nat → Nat → Nat → Nat → Except Er (VT × Nat × Nat)
  | 0, _, _, _ => .error (0, 99)
  | f + 1, level, i, n =>
    match beginR s level (sk spL s i) n with
    | .error e => .error e
    | .ok n1 =>
      let i0 := sk spL s i
      let c := bt s i0
      if c = 110 then (match wordR s [110, 117, 108, 108] i0 with | .error e => .error e | .ok j => .ok (nullT, j, n1))
      else if c = 102 then (match wordR s [102, 97, 108, 115, 101] i0 with | .error e => .error e | .ok j => .ok (boolT 0, j, n1))
      else if c = 116 then (match wordR s [116, 114, 117, 101] i0 with | .error e => .error e | .ok j => .ok (boolT 1, j, n1))
      else if c = 34 then (match litR s i0 with | .error e => .error e | .ok (x, j) => .ok (textT x, j, n1))
      else if c = 91 then (match els s 93 (stepL (pv s f (level + 1))) [] i0 n1 with | .error e => .error e | .ok (a, j, n2) => .ok (.mk 5 0 ⟨#[]⟩ a [], j, n2))
      else if c = 123 then (match els s 125 (stepO s (pv s f (level + 1))) ([], []) i0 n1 with | .error e => .error e | .ok (a, j, n2) => .ok (.mk 6 0 ⟨#[]⟩ a.2 a.1, j, n2))
      else (match intR s i0 with | .error e => .error e | .ok (t, j) => .ok (t, j, n1))
/- What Parse answers. -/
def parseR (s : ByteArray) : Except Er VT :=
  match pv s (s.size + 1) 1 0 0 with
  | .error e => .error e
  | .ok (t, j, _) => if sk spL s j < s.size then .error (sk spL s j, 3) else .ok t
end Go.Proofs.YtcbajgcblfgmgaaDoor
