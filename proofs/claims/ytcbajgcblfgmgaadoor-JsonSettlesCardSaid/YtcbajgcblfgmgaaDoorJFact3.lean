
/-
  Printed text is read back; cut short it ends too early.
-/
import Derived.Test.YtcbajgcblfgmgaaDoorJFact2
import Derived.Test.YtcbajgcblfgmgaaDoorChk
namespace Go.Proofs.YtcbajgcblfgmgaaDoor
open Go.RowKit
mutual
/- A value with strings in the place of enumeration values. -/
def VT.strs : VT → VT
  | .mk k n s is ks => .mk (if k = 4 then 3 else k) n s (VT.strsL is) ks
def VT.strsL : List VT → List VT
  | [] => []
  | t :: r => t.strs :: VT.strsL r
end
mutual
def VT.sm : VT → Prop
  | .mk _ n _ is _ => small n ∧ VT.smL is
def VT.smL : List VT → Prop
  | [] => True
  | t :: r => t.sm ∧ VT.smL r
end
def VT.kd : VT → Int
  | .mk k _ _ _ _ => k
def tx (t : VT) : List UInt8 := t.txt.getD []
def txK (p : ByteArray × VT) : List UInt8 := qL p.1 ++ 58 :: tx p.2
theorem txtL_tail : ∀ (r : List VT) (b : List UInt8), VT.txtL r false = some b → b = tailJ tx r ∧ ∀ u ∈ r, u.txt = some (tx u)
  | [], b, h => by
    simp only [VT.txtL, Option.some.injEq] at h
    subst h
    exact ⟨rfl, fun u hu => by simp at hu⟩
  | t :: r, b, h => by
    simp only [VT.txtL] at h
    cases ht : t.txt with
    | none => rw [ht] at h; cases h
    | some a =>
      rw [ht] at h
      simp only [Option.map_eq_some_iff] at h
      obtain ⟨b2, h2, rfl⟩ := h
      obtain ⟨rfl, h3⟩ := txtL_tail r b2 h2
      have e : tx t = a := by unfold tx; rw [ht]; rfl
      refine ⟨by simp [tailJ, e], ?_⟩
      intro u hu
      rcases List.mem_cons.1 hu with rfl | hu
      · rw [ht, e]
      · exact h3 u hu
theorem txtL_head {t : VT} {r : List VT} {l : List UInt8} (h : VT.txtL (t :: r) true = some l) : l = tx t ++ tailJ tx r ∧ ∀ u ∈ t :: r, u.txt = some (tx u) := by
  simp only [VT.txtL] at h
  cases ht : t.txt with
  | none => rw [ht] at h; cases h
  | some a =>
    rw [ht] at h
    simp only [Option.map_eq_some_iff] at h
    obtain ⟨b2, h2, rfl⟩ := h
    obtain ⟨rfl, h3⟩ := txtL_tail r b2 h2
    have e : tx t = a := by unfold tx; rw [ht]; rfl
    refine ⟨by simp [e], ?_⟩
    intro u hu
    rcases List.mem_cons.1 hu with rfl | hu
    · rw [ht, e]
    · exact h3 u hu
theorem txtO_tail : ∀ (r : List VT) (ks : List ByteArray) (b : List UInt8), ks.length = r.length → VT.txtO r ks false = some b → b = tailJ txK (ks.zip r) ∧ ∀ u ∈ r, u.txt = some (tx u)
  | [], ks, b, _, h => by
    simp only [VT.txtO, Option.some.injEq] at h
    subst h
    refine ⟨by simp [tailJ], fun u hu => by simp at hu⟩
  | t :: r, [], b, hl, h => by simp at hl
  | t :: r, k :: ks, b, hl, h => by
    simp only [VT.txtO] at h
    cases ht : t.txt with
    | none => rw [ht] at h; cases h
    | some a =>
      rw [ht] at h
      simp only [Option.map_eq_some_iff, List.drop_succ_cons, List.drop_zero] at h
      obtain ⟨b2, h2, rfl⟩ := h
      obtain ⟨rfl, h3⟩ := txtO_tail r ks b2 (by simpa using hl) h2
      have e : tx t = a := by unfold tx; rw [ht]; rfl
      refine ⟨by simp [tailJ, txK, e], ?_⟩
      intro u hu
      rcases List.mem_cons.1 hu with rfl | hu
      · rw [ht, e]
      · exact h3 u hu
theorem txtO_head {t : VT} {r : List VT} {k : ByteArray} {ks : List ByteArray} {l : List UInt8} (hl : ks.length = r.length) (h : VT.txtO (t :: r) (k :: ks) true = some l) : l = txK (k, t) ++ tailJ txK (ks.zip r) ∧ ∀ u ∈ t :: r, u.txt = some (tx u) := by
  simp only [VT.txtO] at h
  cases ht : t.txt with
  | none => rw [ht] at h; cases h
  | some a =>
    rw [ht] at h
    simp only [Option.map_eq_some_iff, List.drop_succ_cons, List.drop_zero] at h
    obtain ⟨b2, h2, rfl⟩ := h
    obtain ⟨rfl, h3⟩ := txtO_tail r ks b2 hl h2
    have e : tx t = a := by unfold tx; rw [ht]; rfl
    refine ⟨by simp [txK, e], ?_⟩
    intro u hu
    rcases List.mem_cons.1 hu with rfl | hu
    · rw [ht, e]
    · exact h3 u hu
theorem vb_sp : ∀ c : UInt8, isIn vbL c = true → isIn spL c = false ∧ c ≠ 93 ∧ c ≠ 125 := all_u8 (by decide +kernel)
theorem dig_vb : ∀ c : UInt8, T1.digB (c.toNat : Int) = true → isIn vbL c = true ∧ c ≠ 110 ∧ c ≠ 102 ∧ c ≠ 116 ∧ c ≠ 34 ∧ c ≠ 91 ∧ c ≠ 123 := all_u8 (by decide +kernel)
theorem itoa_head (n : Int) : ∃ c u, Lib.itoa n = c :: u ∧ isIn vbL c = true ∧ c ≠ 110 ∧ c ≠ 102 ∧ c ≠ 116 ∧ c ≠ 34 ∧ c ≠ 91 ∧ c ≠ 123 := by
  unfold Lib.itoa
  split
  · exact ⟨45, _, rfl, by decide⟩
  · obtain ⟨c, d, e, hc⟩ := canon_head (T1.decDigits_canon n.toNat)
    exact ⟨c, d, e, dig_vb c hc⟩
theorem txt_head {t : VT} {a : List UInt8} (h : t.txt = some a) : ∃ c u, a = c :: u ∧ isIn vbL c = true := by
  cases t with
  | mk k n s is ks =>
    unfold VT.txt at h
    split at h
    · cases h; exact ⟨110, _, rfl, by decide⟩
    split at h
    · cases h
      split
      · exact ⟨102, _, rfl, by decide⟩
      · exact ⟨116, _, rfl, by decide⟩
    split at h
    · cases h
      obtain ⟨c, u, e, hv, _⟩ := itoa_head n
      exact ⟨c, u, e, hv⟩
    split at h
    · cases h; exact ⟨34, _, rfl, by decide⟩
    split at h
    · simp only [Option.map_eq_some_iff] at h
      obtain ⟨l, _, rfl⟩ := h
      exact ⟨91, _, rfl, by decide⟩
    split at h
    · split at h
      · simp only [Option.map_eq_some_iff] at h
        obtain ⟨l, _, rfl⟩ := h
        exact ⟨123, _, rfl, by decide⟩
      · cases h
    · cases h
theorem tx_head {t : VT} (h : t.txt = some (tx t)) : ∃ c u, tx t = c :: u ∧ isIn vbL c = true := txt_head h
section
variable {s : ByteArray} {L : List UInt8} {m : Nat}
theorem pv_end (h : Cut s L m) (f level n : Nat) : pv s (f + 1) level m n = .error (m, 3) := by
  unfold pv
  rw [sk_out (by rw [h.out (Nat.le_refl _)]; exact sp_zero)]
  unfold beginR
  rw [h.out (Nat.le_refl _)]
  rfl
theorem pv_go (h : Cut s L m) {f level i n : Nat} {c : UInt8} {u : List UInt8} (hd : L.drop i = c :: u) (hi : i < m) (hv : isIn vbL c = true) (hl : level ≤ 24) (hn : n + 1 ≤ 4096) :
    pv s (f + 1) level i n = (if c = 110 then (match wordR s [110, 117, 108, 108] i with | .error e => .error e | .ok j => .ok (nullT, j, n + 1))
      else if c = 102 then (match wordR s [102, 97, 108, 115, 101] i with | .error e => .error e | .ok j => .ok (boolT 0, j, n + 1))
      else if c = 116 then (match wordR s [116, 114, 117, 101] i with | .error e => .error e | .ok j => .ok (boolT 1, j, n + 1))
      else if c = 34 then (match litR s i with | .error e => .error e | .ok (x, j) => .ok (textT x, j, n + 1))
      else if c = 91 then (match els s 93 (stepL (pv s f (level + 1))) [] i (n + 1) with | .error e => .error e | .ok (a, j, n2) => .ok (.mk 5 0 ⟨#[]⟩ a [], j, n2))
      else if c = 123 then (match els s 125 (stepO s (pv s f (level + 1))) ([], []) i (n + 1) with | .error e => .error e | .ok (a, j, n2) => .ok (.mk 6 0 ⟨#[]⟩ a.2 a.1, j, n2))
      else (match intR s i with | .error e => .error e | .ok (t, j) => .ok (t, j, n + 1))) := by
  have e0 : sk spL s i = i := sk_at h sp_zero fun c' r' e => by
    rw [hd] at e; injection e with e1 _; subst e1; exact (vb_sp c hv).1
  have e1 : beginR s level i n = .ok (n + 1) := by
    unfold beginR
    rw [h.at hd hi, hv, if_neg (by decide), if_neg (by omega), if_neg (by omega)]
  rw [pv, e0, e1]
  simp only
  rw [h.at hd hi]
  rfl
end
theorem size0 {s : ByteArray} (h : s.size = 0) : s = ⟨#[]⟩ := by
  have h1 := T1.size_eq s
  have h2 : s.data.toList = [] := List.eq_nil_of_length_eq_zero (by omega)
  cases s with
  | mk d => congr 1; exact Array.toList_eq_nil_iff.1 h2
def Good (lv : Nat) (P : VT → Prop) (t : VT) : Prop := P t ∧ t.txt = some (tx t) ∧ wholeB false t = true ∧ t.sm ∧ lv + t.depth ≤ 25
/- How a value's text is read, whole or cut short. -/
def ValCut (t : VT) : Prop := ∀ (s : ByteArray) (L : List UInt8) (m : Nat), Cut s L m → ∀ (a r : List UInt8) (f level i n : Nat), t.txt = some a → L.drop i = a ++ r → StopL r → i ≤ m → m < f + i →
  wholeB false t = true → t.sm → level + t.depth ≤ 25 → n + t.size ≤ 4096 →
    (i + a.length ≤ m → pv s f level i n = .ok (t.strs, i + a.length, n + t.size)) ∧ (¬ i + a.length ≤ m → pv s f level i n = .error (m, 3) ∨ (t.kd ≤ 2 ∧ ∃ t' n', pv s f level i n = .ok (t', m, n')))
theorem okAll_list (lv : Nat) (P : VT → Prop) (upd : List VT → VT → List VT) : ∀ (r : List VT) (a : List VT), (∀ t ∈ r, Good lv P t) → OkAll (fun _ t => Good lv P t) upd a r
  | [], _, _ => trivial
  | t :: r, a, h => ⟨h t (by simp), okAll_list lv P upd r _ fun u hu => h u (by simp [hu])⟩
theorem foldl_strs : ∀ (r a : List VT), r.foldl (fun a t => a ++ [t.strs]) a = a ++ VT.strsL r
  | [], a => by simp [VT.strsL]
  | t :: r, a => by rw [List.foldl_cons, foldl_strs r]; simp [VT.strsL]
def updO (a : List ByteArray × List VT) (p : ByteArray × VT) : List ByteArray × List VT := (a.1 ++ [p.1], a.2 ++ [p.2.strs])
theorem okAll_obj (lv : Nat) (P : VT → Prop) : ∀ (r : List VT) (ks : List ByteArray) (a : List ByteArray × List VT), (∀ t ∈ r, Good lv P t) → (a.1 ++ ks).Nodup → OkAll (fun a (p : ByteArray × VT) => p.1 ∉ a.1 ∧ Good lv P p.2) updO a (ks.zip r)
  | [], ks, _, _, _ => by rw [List.zip_nil_right]; trivial
  | t :: r, [], _, _, _ => trivial
  | t :: r, k :: ks, a, h, hn => by
    refine ⟨⟨?_, h t (by simp)⟩, okAll_obj lv P r ks _ (fun u hu => h u (by simp [hu])) ?_⟩
    · intro hk
      have := (List.nodup_append.1 hn).2.2 k hk k (by simp)
      exact this rfl
    · show ((a.1 ++ [k]) ++ ks).Nodup
      rw [List.append_assoc]; exact hn
theorem foldl_obj : ∀ (r : List VT) (ks : List ByteArray) (a : List ByteArray × List VT), ks.length = r.length → (ks.zip r).foldl updO a = (a.1 ++ ks, a.2 ++ VT.strsL r)
  | [], [], a, _ => by simp [VT.strsL]
  | t :: r, k :: ks, a, h => by
    rw [List.zip_cons_cons, List.foldl_cons, foldl_obj r ks _ (by simpa using h)]
    simp [updO, VT.strsL]
  | [], k :: ks, _, h => by simp at h
  | t :: r, [], _, h => by simp at h
theorem szs_list : ∀ r : List VT, szs VT.size r = VT.sizes r
  | [] => rfl
  | t :: r => by have := szs_list r; unfold szs at *; rw [List.map_cons, List.sum_cons, this]; simp [VT.sizes]
theorem szs_zip : ∀ (r : List VT) (ks : List ByteArray), ks.length = r.length → szs (fun p : ByteArray × VT => p.2.size) (ks.zip r) = VT.sizes r
  | [], [], _ => rfl
  | t :: r, k :: ks, h => by
    have := szs_zip r ks (by simpa using h)
    unfold szs at *
    rw [List.zip_cons_cons, List.map_cons, List.sum_cons, this]; simp [VT.sizes]
  | [], k :: ks, h => by simp at h
  | t :: r, [], h => by simp at h
theorem whole_parts : ∀ {r : List VT}, wholesB false r = true → ∀ t ∈ r, wholeB false t = true
  | [], _, t, h => by simp at h
  | u :: r, hw, t, h => by
    simp only [wholesB, Bool.and_eq_true] at hw
    rcases List.mem_cons.1 h with rfl | h
    · exact hw.1
    · exact whole_parts hw.2 t h
theorem sm_parts : ∀ {r : List VT}, VT.smL r → ∀ t ∈ r, t.sm
  | [], _, t, h => by simp at h
  | u :: r, hw, t, h => by
    simp only [VT.smL] at hw
    rcases List.mem_cons.1 h with rfl | h
    · exact hw.1
    · exact sm_parts hw.2 t h
theorem depth_parts : ∀ {r : List VT} {t : VT}, t ∈ r → t.depth ≤ VT.depths r
  | [], t, h => by simp at h
  | u :: r, t, h => by
    simp only [VT.depths]
    rcases List.mem_cons.1 h with rfl | h
    · omega
    · have := depth_parts h; omega
theorem memK_no {seen : List ByteArray} {k : ByteArray} (h : k ∉ seen) : memK seen k = false := by
  cases hm : memK seen k with
  | false => rfl
  | true => exact absurd ((memK_iff seen k).1 hm) h
end Go.Proofs.YtcbajgcblfgmgaaDoor
