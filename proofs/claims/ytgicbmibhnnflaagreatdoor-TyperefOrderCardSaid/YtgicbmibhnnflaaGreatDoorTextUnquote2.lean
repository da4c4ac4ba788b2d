
/-
  Contract of package text: Unquote.
-/
import Derived.Test.YtgicbmibhnnflaaGreatDoorTextUnquote
import Derived.Lib.BufferRead
namespace Go.Proofs.YtgicbmibhnnflaaGreatDoor.T1
open Go.RowKit
def unqF : Nat → List UInt8 → Option (List UInt8)
  | 0, l => if l = [] then some [] else none
  | f + 1, l => if l = [] then some [] else match stepL l with
    | none => none
    | some (b, k) => (unqF f (l.drop k)).map (b :: ·)
theorem numL4_len {t : List UInt8} {b : UInt8} (h : numL4 t = some b) : 4 ≤ t.length := by
  unfold numL4 at h
  by_cases e : okB t = true
  · unfold okB at e; simp at e; exact e.1.1.1.1.1
  · rw [if_neg e] at h; cases h
theorem stepL_len {l : List UInt8} {b : UInt8} {k : Nat} (h : stepL l = some (b, k)) : 1 ≤ k ∧ k ≤ l.length := by
  cases l with
  | nil => cases h
  | cons c r =>
    rw [stepL_cons] at h
    by_cases h1 : c = 34 ∨ prB (c.toNat : Int) = false
    · rw [if_pos h1] at h; cases h
    rw [if_neg h1] at h
    by_cases h2 : c ≠ 92
    · rw [if_pos h2] at h; cases h; simp
    rw [if_neg h2] at h
    cases r with
    | nil => cases h
    | cons d t =>
      simp only at h
      by_cases h3 : d = 117
      · rw [if_pos h3] at h
        obtain ⟨x, hx, e⟩ := Option.map_eq_some_iff.1 h
        have := numL4_len hx
        cases e; simp; omega
      · rw [if_neg h3] at h
        obtain ⟨x, hx, e⟩ := Option.map_eq_some_iff.1 h
        cases e; simp
theorem unqF_enough : ∀ (f : Nat) (l : List UInt8), l.length ≤ f → unqF f l = unqF l.length l
  | 0, l, h => by
    have : l = [] := List.eq_nil_of_length_eq_zero (by omega)
    subst this; rfl
  | f + 1, [], _ => rfl
  | f + 1, c :: r, h => by
    rw [List.length_cons]
    unfold unqF
    rw [if_neg (by simp), if_neg (by simp)]
    cases hs : stepL (c :: r) with
    | none => rfl
    | some p =>
      obtain ⟨b, k⟩ := p
      have hk := stepL_len hs
      have hl : ((c :: r).drop k).length ≤ r.length := by rw [List.length_drop, List.length_cons]; omega
      simp only
      rw [unqF_enough f _ (by rw [List.length_cons] at h; omega), unqF_enough r.length _ hl]
def unqR (l : List UInt8) : Option (List UInt8) := unqF l.length l
theorem unqR_nil : unqR [] = some [] := rfl
theorem unqR_step {l : List UInt8} {b : UInt8} {k : Nat} (h : stepL l = some (b, k)) : unqR l = (unqR (l.drop k)).map (b :: ·) := by
  cases l with
  | nil => cases h
  | cons c r =>
    have hk := stepL_len h
    unfold unqR
    rw [List.length_cons]
    conv => lhs; unfold unqF
    rw [if_neg (by simp), h]
    simp only
    rw [unqF_enough r.length _ (by rw [List.length_drop, List.length_cons]; omega)]
theorem unqR_bad {l : List UInt8} (h0 : l ≠ []) (h : stepL l = none) : unqR l = none := by
  cases l with
  | nil => exact absurd rfl h0
  | cons c r =>
    unfold unqR
    rw [List.length_cons]
    unfold unqF
    rw [if_neg (by simp), h]
def midL (l : List UInt8) : List UInt8 := (l.drop 1).take (l.length - 2)
def unquoteL (l : List UInt8) : Option (List UInt8) := if 2 ≤ l.length ∧ l.getD 0 0 = 34 ∧ l.getD (l.length - 1) 0 = 34 then unqR (midL l) else none
def uq2 : Option (List UInt8) → Value
  | some l => .tuple #[.string ⟨l.toArray⟩, .int .i64 0]
  | none => .tuple #[.string ⟨#[]⟩, .int .i64 3]
def UqPost (o : Option (List UInt8)) (w : World) (e : Ending) (w' : World) : Prop := e = .returned (uq2 o) ∧ Below w.heap.size w w'
def UnqAt (l done rest : List UInt8) : Prop := unqR l = (unqR rest).map (done ++ ·)
theorem unqAt_start (l : List UInt8) : UnqAt l [] l := by unfold UnqAt; simp
theorem unqAt_step {l done rest : List UInt8} {b : UInt8} {k : Nat} (h : UnqAt l done rest) (hs : stepL rest = some (b, k)) : UnqAt l (done ++ [b]) (rest.drop k) := by
  unfold UnqAt at h ⊢
  rw [h, unqR_step hs, Option.map_map]
  congr 1
  funext x; simp
theorem unqAt_bad {l done rest : List UInt8} (h : UnqAt l done rest) (h0 : rest ≠ []) (hs : stepL rest = none) : unqR l = none := by
  unfold UnqAt at h; rw [h, unqR_bad h0 hs]; rfl
theorem unqAt_end {l done rest : List UInt8} (h : UnqAt l done rest) (h0 : rest = []) : unqR l = some done := by
  unfold UnqAt at h; rw [h, h0, unqR_nil]; simp
theorem OwnB.string' {w : World} {base : Nat} {v : Value} {l : List UInt8} (h : OwnB w base v l) : (convert 60 9 v).run Tryz.prog w = .ok (.string ⟨l.toArray⟩) w := by
  by_cases h0 : 0 < l.length
  · exact h.string h0
  have e : l = [] := List.eq_nil_of_length_eq_zero (by omega)
  subst e
  rcases h.2 with ⟨rfl, _⟩ | ⟨g, cap, cur, rfl, _⟩
  · exact Lib.run_convert_nil_bytes w _ _ _ _ Tryz.underlying60 Tryz.underlying5 Tryz.underlying9
  · exact run_convert_bytes_back w _ _ _ _ cap [] Tryz.underlying60 Tryz.underlying5 Tryz.underlying9 (fun j hj => absurd hj (by simp))
def strLen : Value → Nat
  | .string s => s.size
  | _ => 0
theorem mid_of (s : ByteArray) : (s.extract 1 (s.size - 1)).data.toList = midL s.data.toList := by
  rw [Lib.extract_data]; unfold midL; rw [size_eq]; rfl
theorem unquote_no (s : ByteArray) (w : World) (hs : s.size ≤ maxLen) (h : ¬ (2 ≤ s.size ∧ s.data.toList.getD 0 0 = 34 ∧ s.data.toList.getD (s.size - 1) 0 = 34)) :
    Calls Tryz.prog 105 #[.string s] w (UqPost (unquoteL s.data.toList) w) := by
  have e : unquoteL s.data.toList = none := by unfold unquoteL; rw [size_eq, if_neg h]
  rw [e]
  unfold maxLen at hs
  by_cases h2 : 2 ≤ s.size
  · have h0' : 0 < s.size := by omega
    have h1' : s.size - 1 < s.size := by omega
    rw [getD_at s 0 h0', getD_at s (s.size - 1) h1'] at h
    by_cases ha : s[0] = 34
    · have hb : s[s.size - 1] ≠ 34 := fun e => h ⟨h2, ha, e⟩
      have g1 : ((s[0].toNat : Int) != 34) = false := by rw [ha]; rfl
      have g2 : ((s[s.size - 1].toNat : Int) != 34) = true := by
        have := u8_ne hb
        rw [bne]; rw [show ((s[s.size - 1].toNat : Int) == 34) = false from this]; rfl
      clear h ha hb
      go_enter Tryz.func105, Tryz.ntmps105
      go_wp2_with fail
      go_ret2
      exact ⟨rfl, Below.refl _ _⟩
    · have g1 : ((s[0].toNat : Int) != 34) = true := by
        have := u8_ne ha
        rw [bne]; rw [show ((s[0].toNat : Int) == 34) = false from this]; rfl
      clear h ha
      go_enter Tryz.func105, Tryz.ntmps105
      go_wp2_with fail
      go_ret2
      exact ⟨rfl, Below.refl _ _⟩
  · have h2' : (s.size : Int) < 2 := by omega
    clear h h2
    go_enter Tryz.func105, Tryz.ntmps105
    go_wp2_with fail
    go_ret2
    exact ⟨rfl, Below.refl _ _⟩
set_option maxRecDepth 100000 in
theorem unquote_yes (s : ByteArray) (w : World) (hs : s.size ≤ 137438953472) (h2 : 2 ≤ s.size) (ha : s.data.toList.getD 0 0 = 34) (hb : s.data.toList.getD (s.size - 1) 0 = 34) :
    Calls Tryz.prog 105 #[.string s] w (UqPost (unquoteL s.data.toList) w) := by
  have e : unquoteL s.data.toList = unqR (midL s.data.toList) := by unfold unquoteL; rw [size_eq, if_pos ⟨h2, ha, hb⟩]
  rw [e]
  clear e
  have h0' : 0 < s.size := by omega
  have h1' : s.size - 1 < s.size := by omega
  rw [getD_at s 0 h0'] at ha
  rw [getD_at s (s.size - 1) h1'] at hb
  have g1 : ((s[0].toNat : Int) != 34) = false := by rw [ha]; rfl
  have g2 : ((s[s.size - 1].toNat : Int) != 34) = false := by rw [hb]; rfl
  clear ha hb
  obtain ⟨i0, hi, hz0, hz1, hz2⟩ := info_parts info5
  go_enter Tryz.func105, Tryz.ntmps105
  go_wp2_with (refine wpList_make_own _ rfl _ _ 60 rfl w.heap.size 5 i0 (.int .u8 0) 1 Tryz.underlying60 hi hz0 hz1 _ _ _ (s.size - 1 - 1) rfl rfl rfl ?_ ?_ ?_ ?_)
  · rw [hz2]; omega
  · unfold maxLen; omega
  · exact Nat.le_refl _
  intro w1 hown1 hg1
  have hown1 : OwnB w1 w.heap.size _ [] := hown1
  have hb1 : Below w.heap.size w w1 := (Below.refl _ _).grown hg1 (Nat.le_refl _) (by simp)
  clear hg1
  have hml : (s.extract 1 (s.size - 1)).size ≤ s.size := by
    rw [← size_eq, mid_of, ← size_eq s]; unfold midL; rw [List.length_take, List.length_drop]; omega
  have hat : UnqAt (midL s.data.toList) [] (s.extract 1 (s.size - 1)).data.toList := by rw [mid_of]; exact unqAt_start _
  generalize s.extract 1 (s.size - 1) = m at *
  generalize midL s.data.toList = l at *
  go_wp2
  go_loopw [4, 5] (fun c v wr => ∃ (r : ByteArray) (done : List UInt8), r.size + done.length ≤ s.size ∧ c = .string r ∧ OwnB wr w.heap.size v done ∧ UnqAt l done r.data.toList ∧ Below w.heap.size w wr) (fun c _ _ => strLen c)
  case atStart => exact ⟨m, [], by simpa using hml, rfl, hown1, hat, hb1⟩
  case round =>
    obtain ⟨r, done, hrd, rfl, hown, hq, hb⟩ := hrel
    have hsz := hb.size
    clear hown1 hb1 hml hat
    by_cases h0 : r.size = 0
    · have H := Lib.hid (unqAt_end hq (List.eq_nil_of_length_eq_zero (by rw [size_eq]; exact h0)))
      have e1 : (!r.toList.isEmpty) = false := by rw [nil_of h0]; rfl
      have e2 : r.toList = [] := nil_of h0
      have hcv := hown.string'
      clear hq hown h0
      go_wp2
      go_ret2
      exact ⟨by rw [H.out]; rfl, hb⟩
    have h0' : 0 < r.size := by omega
    have e1 : (!r.toList.isEmpty) = true := by rw [isEmpty_of h0']; rfl
    have e2 : r.toList ≠ [] := ne_nil_of h0'
    clear h0
    go_wp2_with fail
    refine (first_any _ _ h0' (by unfold maxLen; omega)).mono ?_
    cases hs : stepL r.data.toList with
    | none =>
      rintro e w2 ⟨rfl, rfl⟩
      have H := Lib.hid (unqAt_bad hq (by intro e; have := size_eq r; rw [e] at this; simp at this; omega) hs)
      clear hs hq
      unfold fb2
      go_wp2
      go_ret2
      exact ⟨by rw [H.out]; rfl, hb⟩
    | some p =>
      obtain ⟨b, k⟩ := p
      have hk := stepL_len hs
      rw [size_eq] at hk
      obtain ⟨k1, k2⟩ := hk
      have H := Lib.hid (unqAt_step hq hs)
      have k0 : ((k : Int) == 0) = false := by rw [beq_eq_false_iff_ne]; omega
      rintro e w2 ⟨rfl, rfl⟩
      clear hs hq
      unfold fb2
      go_wp2_with (at_builtin; refine append_B rfl _ _ rfl w.heap.size _ _ rfl (hown.alloc _) _ _ [b] rfl (cells_B _ _ _ [b] rfl) ?_ ?_ ?_)
      · simp; omega
      · simp; omega
      intro v3 w3 hown3 hg3
      have hb3 : Below w.heap.size w w3 := (hb.alloc hsz _).grown hg3 (by simp; omega) (by intro j hj; have := hown.lt j hj; omega)
      clear hg3 hown hb hsz
      have hdr := Lib.hid (drop_of r k)
      have hds : (r.extract k r.size).size = r.size - k := by rw [← size_eq, hdr.out, List.length_drop, size_eq]
      have HDS := Lib.hid hds
      clear hds
      go_wp2
      go_roundw
      case rel => exact ⟨r.extract k r.size, done ++ [b], by rw [HDS.out, List.length_append]; simp; omega, rfl, hown3, by rw [hdr.out]; exact H.out, hb3⟩
      case measure => show (r.extract k r.size).size < r.size; rw [HDS.out]; omega
theorem unquote_any (s : ByteArray) (w : World) (hs : s.size ≤ 137438953472) :
    Calls Tryz.prog 105 #[.string s] w (UqPost (unquoteL s.data.toList) w) := by
  by_cases h : 2 ≤ s.size ∧ s.data.toList.getD 0 0 = 34 ∧ s.data.toList.getD (s.size - 1) 0 = 34
  · exact unquote_yes s w hs h.1 h.2.1 h.2.2
  · exact unquote_no s w (by unfold maxLen; omega) h
end Go.Proofs.YtgicbmibhnnflaaGreatDoor.T1
