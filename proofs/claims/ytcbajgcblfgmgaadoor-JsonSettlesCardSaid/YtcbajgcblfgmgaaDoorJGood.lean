
/-
  What is read is plain, and takes no more room than its text.
-/
import Derived.Test.YtcbajgcblfgmgaaDoorJFact4
namespace Go.Proofs.YtcbajgcblfgmgaaDoor
open Go.RowKit
theorem take_ok {s : ByteArray} {set : List UInt8} {i j : Nat} (h : takeR s set i = .ok j) : j = i + 1 ∧ isIn set (bt s i) = true := by
  unfold takeR at h
  split at h
  · next h1 => cases h; exact ⟨rfl, h1⟩
  · cases h
theorem word_ok {s : ByteArray} : ∀ (w : List UInt8) (i j : Nat), (∀ c ∈ w, c ≠ 0) → wordR s w i = .ok j → j = i + w.length ∧ (w ≠ [] → j ≤ s.size)
  | [], i, j, _, h => by unfold wordR at h; cases h; exact ⟨rfl, fun h => absurd rfl h⟩
  | c :: w, i, j, h0, h => by
    unfold wordR at h
    cases ht : takeR s [c] i with
    | error e => rw [ht] at h; cases h
    | ok k =>
      rw [ht] at h
      have h : wordR s w k = .ok j := h
      obtain ⟨rfl, h2⟩ := take_ok ht
      have hlt : i < s.size := by
        refine lt_of_in ?_ h2
        simp; exact fun e => h0 c (by simp) e.symm
      obtain ⟨h3, h4⟩ := word_ok w (i + 1) j (fun d hd => h0 d (by simp [hd])) h
      refine ⟨by rw [h3, List.length_cons]; omega, fun _ => ?_⟩
      cases w with
      | nil => simp at h3; omega
      | cons d w => exact h4 (by simp)
theorem litS_size2 (s : ByteArray) (i j : Nat) : (litS s i j).size ≤ j - i - 2 := by
  have e : (litS s i j).size = ((T1.unquoteL (sub s i j)).getD []).length := by
    rw [← T1.size_eq]; unfold litS; rfl
  rw [e]
  cases h : T1.unquoteL (sub s i j) with
  | none => simp
  | some x =>
    have := sub_len s i j
    unfold T1.unquoteL at h
    split at h
    · have h3 := unqF_len _ _ _ h
      unfold T1.midL at h3
      simp only [List.length_take, List.length_drop] at h3
      simp only [Option.getD_some]
      omega
    · cases h
theorem lit_ok {s : ByteArray} {i j : Nat} {x : ByteArray} (h : litR s i = .ok (x, j)) : i + 2 ≤ j ∧ j ≤ s.size ∧ x.size + 2 ≤ j - i := by
  unfold litR at h
  split at h
  · next h1 =>
    have hlt : i < s.size := lt_of_bt (by rw [h1]; decide)
    split at h
    · cases h
    · next k hk =>
      obtain ⟨h2, h3, _⟩ := charsF_gt _ _ _ (by omega) hk
      cases h
      have := litS_size2 s i (k + 1)
      exact ⟨by omega, by omega, by omega⟩
  · cases h
theorem int_ok {s : ByteArray} {i j : Nat} {t : VT} (h : intR s i = .ok (t, j)) : i < j ∧ j ≤ s.size ∧ ∃ n, t = intT n := by
  have d0 : (0 : UInt8) ∉ dnL := by decide
  have d1 : (0 : UInt8) ∉ dgL := by decide
  unfold intR at h
  simp only at h
  have key : ∀ (i1 : Nat) (set : List UInt8), (0 : UInt8) ∉ set → i ≤ i1 → (if isIn set (bt s i1) = true then (if (T1.numL (sub s i (if bt s i1 = 48 then i1 + 1 else sk dgL s (i1 + 1)))).2 = 0 then Except.ok (intT (T1.numL (sub s i (if bt s i1 = 48 then i1 + 1 else sk dgL s (i1 + 1)))).1, (if bt s i1 = 48 then i1 + 1 else sk dgL s (i1 + 1))) else Except.error (i, (T1.numL (sub s i (if bt s i1 = 48 then i1 + 1 else sk dgL s (i1 + 1)))).2)) else Except.error (i1, 3)) = (Except.ok (t, j) : Except Er (VT × Nat)) → i < j ∧ j ≤ s.size ∧ ∃ n, t = intT n := by
    intro i1 set h0 hi h
    have hk : i < (if bt s i1 = 48 then i1 + 1 else sk dgL s (i1 + 1)) ∧ (i1 < s.size → (if bt s i1 = 48 then i1 + 1 else sk dgL s (i1 + 1)) ≤ s.size) := by
      have := sk_le dgL s (i1 + 1)
      split
      · exact ⟨by omega, fun h => h⟩
      · exact ⟨by omega, fun h => sk_hi dgL s (i1 + 1) h⟩
    generalize (if bt s i1 = 48 then i1 + 1 else sk dgL s (i1 + 1)) = k at h hk
    by_cases hin : isIn set (bt s i1) = true
    · rw [if_pos hin] at h
      have hlt := lt_of_in h0 hin
      by_cases hn : (T1.numL (sub s i k)).2 = 0
      · rw [if_pos hn] at h
        cases h
        exact ⟨hk.1, hk.2 hlt, _, rfl⟩
      · rw [if_neg hn] at h; cases h
    · rw [if_neg hin] at h; cases h
  by_cases hb : bt s i = 45
  · rw [if_pos hb, if_pos hb] at h
    exact key (i + 1) dnL d0 (by omega) h
  · rw [if_neg hb, if_neg hb] at h
    exact key i dgL d1 (Nat.le_refl _) h
theorem begin_ok {s : ByteArray} {level i n n1 : Nat} (h : beginR s level i n = .ok n1) : n1 = n + 1 ∧ level ≤ 24 ∧ n1 ≤ 4096 ∧ i < s.size := by
  unfold beginR at h
  split at h
  · cases h
  · next h0 =>
    have hin : isIn vbL (bt s i) = true := by simpa using h0
    have hlt : i < s.size := lt_of_in (by decide) hin
    split at h
    · cases h
    · split at h
      · cases h
      · cases h; exact ⟨rfl, by omega, by omega, hlt⟩
/- Elements that keep an invariant. -/
theorem elsF_inv {α : Type} {s : ByteArray} {cl : UInt8} (hcl : cl ≠ 0) {step : α → Nat → Nat → Except Er (α × Nat × Nat)} (Inv : α → Nat → Nat → Prop)
    (hstep : ∀ a i n a1 i1 n1, Inv a i n → i ≤ s.size → step a i n = .ok (a1, i1, n1) → Inv a1 i1 n1 ∧ i1 ≤ s.size) (hmono : ∀ a i n j, Inv a i n → i ≤ j → Inv a j n) :
    ∀ (f : Nat) (a : α) (i n : Nat) (a1 : α) (i1 n1 : Nat), Inv a i n → i ≤ s.size → elsF s cl step f a i n = .ok (a1, i1, n1) → Inv a1 (i1 - 1) n1 ∧ i < i1 ∧ i1 ≤ s.size ∨ Inv a1 (i1 - 1) n1 ∧ i1 ≤ s.size ∧ 1 ≤ i1
  | 0, _, _, _, _, _, _, _, _, h => by cases h
  | f + 1, a, i, n, a1, i1, n1, hI, hi, h => by
    unfold elsF at h
    cases hs : step a i n with
    | error e => rw [hs] at h; cases h
    | ok p =>
      obtain ⟨b, j, k⟩ := p
      rw [hs] at h
      simp only at h
      obtain ⟨h1, h2⟩ := hstep a i n b j k hI hi hs
      have h3 := sk_le spL s j
      have h4 := hmono _ _ _ _ h1 h3
      split at h
      · next hc =>
        cases h
        have : sk spL s j < s.size := lt_of_bt (by rw [hc]; exact hcl)
        exact .inr ⟨h4, by omega, by omega⟩
      · split at h
        · next hc =>
          have : sk spL s j < s.size := lt_of_bt (by rw [hc]; decide)
          exact .inr (by
            rcases elsF_inv hcl Inv hstep hmono f b (sk spL s j + 1) k a1 i1 n1 (hmono _ _ _ _ h4 (by omega)) (by omega) h with h | h
            · exact ⟨h.1, h.2.2, by omega⟩
            · exact h)
        · cases h
theorem els_inv {α : Type} {s : ByteArray} {cl : UInt8} (hcl : cl ≠ 0) {step : α → Nat → Nat → Except Er (α × Nat × Nat)} (Inv : α → Nat → Nat → Prop)
    (hstep : ∀ a i n a1 i1 n1, Inv a i n → i ≤ s.size → step a i n = .ok (a1, i1, n1) → Inv a1 i1 n1 ∧ i1 ≤ s.size) (hmono : ∀ a i n j, Inv a i n → i ≤ j → Inv a j n)
    {a : α} {i n : Nat} {a1 : α} {i1 n1 : Nat} (hI : Inv a (i + 1) n) (hi : i < s.size) (h : els s cl step a i n = .ok (a1, i1, n1)) : Inv a1 (i1 - 1) n1 ∧ i1 ≤ s.size ∧ 1 ≤ i1 := by
  have h3 := sk_le spL s (i + 1)
  have h5 := sk_hi spL s (i + 1) hi
  unfold els at h
  split at h
  · next hc =>
    cases h
    have : sk spL s (i + 1) < s.size := lt_of_bt (by rw [hc]; exact hcl)
    exact ⟨hmono _ _ _ _ hI (by omega), by omega, by omega⟩
  · rcases elsF_inv hcl Inv hstep hmono _ _ _ _ _ _ _ (hmono _ _ _ _ hI h3) h5 h with h | h
    · exact ⟨h.1, h.2.2, by omega⟩
    · exact h
def ksum1 (ks : List ByteArray) : Nat := (ks.map (fun k => 1 + k.size)).sum
theorem ksum1_snoc (ks : List ByteArray) (k : ByteArray) : ksum1 (ks ++ [k]) = ksum1 ks + (1 + k.size) := by unfold ksum1; simp
theorem sizes_snoc : ∀ (r : List VT) (t : VT), VT.sizes (r ++ [t]) = VT.sizes r + t.size
  | [], t => by simp [VT.sizes]
  | u :: r, t => by simp [VT.sizes, sizes_snoc r t]; omega
theorem strsL_id : ∀ {r : List VT}, (∀ t ∈ r, t.strs = t) → VT.strsL r = r
  | [], _ => rfl
  | t :: r, h => by simp only [VT.strsL]; rw [h t (by simp), strsL_id fun u hu => h u (by simp [hu])]
theorem wholes_of : ∀ {r : List VT}, (∀ t ∈ r, wholeB false t = true) → wholesB false r = true
  | [], _ => rfl
  | t :: r, h => by simp only [wholesB, Bool.and_eq_true]; exact ⟨h t (by simp), wholes_of fun u hu => h u (by simp [hu])⟩
theorem depths_of {d : Nat} : ∀ {r : List VT}, (∀ t ∈ r, t.depth ≤ d) → VT.depths r ≤ d
  | [], _ => Nat.zero_le _
  | t :: r, h => by
    simp only [VT.depths]
    have h1 := h t (by simp)
    have h2 := depths_of (d := d) (r := r) fun u hu => h u (List.mem_cons_of_mem _ hu)
    omega
/- A value that was read at a level. -/
structure GoodT (lv : Nat) (t : VT) : Prop where
  whole : wholeB false t = true
  strs : t.strs = t
  depth : lv + t.depth ≤ 25
structure ReadOk (s : ByteArray) (level i n : Nat) (t : VT) (j m : Nat) : Prop where
  good : GoodT level t
  lt : i < j
  hi : j ≤ s.size
  cnt : m = n + t.size
  top : m ≤ 4096
  room : t.bw ≤ j - i
structure LI (i0 level n1 : Nat) (a : List VT) (i n : Nat) : Prop where
  good : ∀ t ∈ a, GoodT level t
  cnt : n = n1 + VT.sizes a
  top : n ≤ 4096
  lo : i0 < i
  room : 1 + VT.bws a ≤ i - i0
structure OI (i0 level n1 : Nat) (a : List ByteArray × List VT) (i n : Nat) : Prop where
  good : ∀ t ∈ a.2, GoodT level t
  len : a.1.length = a.2.length
  nodup : a.1.Nodup
  cnt : n = n1 + VT.sizes a.2
  top : n ≤ 4096
  lo : i0 < i
  room : 1 + ksum1 a.1 + VT.bws a.2 ≤ i - i0
theorem bws_snoc (r : List VT) (t : VT) : VT.bws (r ++ [t]) = VT.bws r + t.bw := by rw [bws_append]; simp [VT.bws]
theorem key_ok {s : ByteArray} {seen : List ByteArray} {i j : Nat} {k : ByteArray} (h : keyR s seen i = .ok (k, j)) : k ∉ seen ∧ i + 3 ≤ j ∧ j ≤ s.size ∧ k.size + 3 ≤ j - i := by
  unfold keyR at h
  have h0 := sk_le spL s i
  cases hl : litR s (sk spL s i) with
  | error e => rw [hl] at h; cases h
  | ok p =>
    obtain ⟨x, q⟩ := p
    rw [hl] at h
    simp only at h
    obtain ⟨l1, l2, l3⟩ := lit_ok hl
    have h1 := sk_le spL s q
    split at h
    · cases h
    · next hm =>
      split at h
      · next hc =>
        cases h
        have : sk spL s q < s.size := lt_of_bt (by rw [hc]; decide)
        refine ⟨fun hk => hm ((memK_iff seen k).2 hk), by omega, by omega, by omega⟩
      · cases h
set_option maxHeartbeats 1000000 in
theorem pv_good (s : ByteArray) : ∀ (f level i n : Nat) (t : VT) (j m : Nat), i ≤ s.size → pv s f level i n = .ok (t, j, m) → ReadOk s level i n t j m
  | 0, _, _, _, _, _, _, _, h => by cases h
  | f + 1, level, i, n, t, j, m, hi, h => by
    have h0 := sk_le spL s i
    rw [pv] at h
    generalize hb : beginR s level (sk spL s i) n = b at h
    cases b with
    | error e => cases h
    | ok n1 =>
    obtain ⟨rfl, hlv, htop, hlt⟩ := begin_ok hb
    simp only at h
    generalize sk spL s i = i0 at *
    have leaf : ∀ (k : Int) (x : ByteArray) (v : Int) (q : Nat), t = .mk k v x [] [] → j = q → m = n + 1 → nodeB false (.mk k v x [] []) = true → k ≠ 4 → i0 < q → q ≤ s.size → 1 + x.size ≤ q - i0 → ReadOk s level i n t j m := by
      intro k x v q e1 e2 e3 h1 h2 h3 h4 h5
      subst e1 e2 e3
      refine ⟨⟨?_, ?_, ?_⟩, by omega, h4, ?_, by omega, ?_⟩
      · simp only [wholeB, wholesB, Bool.and_true]; exact h1
      · simp only [VT.strs, VT.strsL]; rw [if_neg h2]
      · simp only [VT.depth, VT.depths]; omega
      · simp only [VT.size, VT.sizes]
      · simp only [VT.bw, VT.bws, List.map_nil, List.sum_nil]; omega
    split at h
    · split at h
      · cases h
      · next q hq =>
        obtain ⟨w1, w2⟩ := word_ok _ _ _ (by decide) hq
        have w2 := w2 (by simp)
        have w1 : q = i0 + 4 := w1
        cases h
        exact leaf 0 ⟨#[]⟩ 0 _ rfl rfl rfl (by decide) (by decide) (by omega) w2 (by show 1 + 0 ≤ _; omega)
    split at h
    · split at h
      · cases h
      · next q hq =>
        obtain ⟨w1, w2⟩ := word_ok _ _ _ (by decide) hq
        have w2 := w2 (by simp)
        have w1 : q = i0 + 5 := w1
        cases h
        exact leaf 1 ⟨#[]⟩ 0 _ rfl rfl rfl (by decide) (by decide) (by omega) w2 (by show 1 + 0 ≤ _; omega)
    split at h
    · split at h
      · cases h
      · next q hq =>
        obtain ⟨w1, w2⟩ := word_ok _ _ _ (by decide) hq
        have w2 := w2 (by simp)
        have w1 : q = i0 + 4 := w1
        cases h
        exact leaf 1 ⟨#[]⟩ 1 _ rfl rfl rfl (by decide) (by decide) (by omega) w2 (by show 1 + 0 ≤ _; omega)
    split at h
    · split at h
      · cases h
      · next x q hq =>
        obtain ⟨w1, w2, w3⟩ := lit_ok hq
        cases h
        exact leaf 3 x 0 _ rfl rfl rfl (by simp [nodeB, leafB]) (by decide) (by omega) w2 (by omega)
    split at h
    · split at h
      · cases h
      · next a q n2 hq =>
        cases h
        have hI : LI i0 (level + 1) (n + 1) [] (i0 + 1) (n + 1) := ⟨fun t ht => by simp at ht, by simp [VT.sizes], htop, by omega, by simp [VT.bws]⟩
        obtain ⟨r1, r2, r3⟩ := els_inv (cl := 93) (by decide) (LI i0 (level + 1) (n + 1)) (fun a i n a1 i1 n1 hI hi hs => by
            unfold stepL at hs
            split at hs
            · cases hs
            · next t' i' n' ht =>
              cases hs
              have g := pv_good s f (level + 1) _ _ _ _ _ hi ht
              refine ⟨⟨fun u hu => ?_, ?_, g.top, ?_, ?_⟩, g.hi⟩
              · rcases List.mem_append.1 hu with hu | hu
                · exact hI.good u hu
                · simp at hu; subst hu; exact g.good
              · rw [sizes_snoc, g.cnt, hI.cnt]; omega
              · have := g.lt; have := hI.lo; omega
              · rw [bws_snoc]; have := g.room; have := hI.room; have := g.lt; have := hI.lo; omega)
          (fun a i n j h hij => ⟨h.good, h.cnt, h.top, by have := h.lo; omega, by have := h.room; omega⟩) hI hlt hq
        refine ⟨⟨?_, ?_, ?_⟩, by have := r1.lo; omega, r2, ?_, r1.top, ?_⟩
        · simp only [wholeB, Bool.and_eq_true]
          exact ⟨by simp [nodeB]; rfl, wholes_of fun t ht => (r1.good t ht).whole⟩
        · simp only [VT.strs]; rw [if_neg (by decide), strsL_id fun t ht => (r1.good t ht).strs]
        · simp only [VT.depth]
          have := depths_of (d := 24 - level) fun t ht => (show t.depth ≤ 24 - level by have := (r1.good t ht).depth; omega)
          omega
        · simp only [VT.size]; rw [r1.cnt]; omega
        · simp only [VT.bw, List.map_nil, List.sum_nil]
          have := r1.room
          show 1 + 0 + 0 + VT.bws a ≤ _
          omega
    split at h
    · split at h
      · cases h
      · next a q n2 hq =>
        cases h
        have hI : OI i0 (level + 1) (n + 1) ([], []) (i0 + 1) (n + 1) := ⟨fun t ht => by simp at ht, rfl, List.nodup_nil, by simp [VT.sizes], htop, by omega, by simp [VT.bws, ksum1]⟩
        obtain ⟨r1, r2, r3⟩ := els_inv (cl := 125) (by decide) (OI i0 (level + 1) (n + 1)) (fun a i n a1 i1 n1 hI hi hs => by
            unfold stepO at hs
            cases hk : keyR s a.1 i with
            | error e => rw [hk] at hs; cases hs
            | ok p =>
              obtain ⟨k, q⟩ := p
              rw [hk] at hs
              simp only at hs
              obtain ⟨k1, k2, k3, k4⟩ := key_ok hk
              split at hs
              · cases hs
              · next t' i' n' ht =>
                cases hs
                have g := pv_good s f (level + 1) _ _ _ _ _ k3 ht
                refine ⟨⟨fun u hu => ?_, ?_, ?_, ?_, g.top, ?_, ?_⟩, g.hi⟩
                · rcases List.mem_append.1 hu with hu | hu
                  · exact hI.good u hu
                  · simp at hu; subst hu; exact g.good
                · simp only [List.length_append, List.length_singleton]; rw [hI.len]
                · rw [List.nodup_append]
                  refine ⟨hI.nodup, by simp, fun x hx y hy => ?_⟩
                  simp at hy; subst hy
                  exact fun e => k1 (e ▸ hx)
                · rw [sizes_snoc, g.cnt, hI.cnt]; omega
                · have := g.lt; have := hI.lo; omega
                · show 1 + ksum1 (a.1 ++ [k]) + VT.bws (a.2 ++ [t']) ≤ _
                  rw [bws_snoc, ksum1_snoc]; have := g.room; have := hI.room; have := g.lt; have := hI.lo; omega)
          (fun a i n j h hij => ⟨h.good, h.len, h.nodup, h.cnt, h.top, by have := h.lo; omega, by have := h.room; omega⟩) hI hlt hq
        refine ⟨⟨?_, ?_, ?_⟩, by have := r1.lo; omega, r2, ?_, r1.top, ?_⟩
        · simp only [wholeB, Bool.and_eq_true]
          refine ⟨?_, wholes_of fun t ht => (r1.good t ht).whole⟩
          have hn := r1.nodup
          have hl := r1.len
          simp [nodeB, keysB, hn, hl]; rfl
        · simp only [VT.strs]; rw [if_neg (by decide), strsL_id fun t ht => (r1.good t ht).strs]
        · simp only [VT.depth]
          have := depths_of (d := 24 - level) fun t ht => (show t.depth ≤ 24 - level by have := (r1.good t ht).depth; omega)
          omega
        · simp only [VT.size]; rw [r1.cnt]; omega
        · simp only [VT.bw]
          have := r1.room
          unfold ksum1 at this
          show 1 + 0 + _ + VT.bws a.2 ≤ _
          omega
    · split at h
      · cases h
      · next t' q hq =>
        obtain ⟨w1, w2, n', rfl⟩ := int_ok hq
        cases h
        exact leaf 2 ⟨#[]⟩ n' _ rfl rfl rfl (by simp [nodeB, leafB]; rfl) (by decide) w1 w2 (by show 1 + 0 ≤ _; omega)
/- What Parse returns is plain. -/
theorem parse_good {s : ByteArray} {t : VT} (h : parseR s = .ok t) : rightB false t = true ∧ t.strs = t ∧ t.bw ≤ s.size := by
  unfold parseR at h
  split at h
  · cases h
  · next t' j m hp =>
    have g := pv_good s _ _ _ _ _ _ _ (Nat.zero_le _) hp
    split at h
    · cases h
    · cases h
      refine ⟨?_, g.good.strs, by have := g.room; have := g.hi; omega⟩
      unfold rightB
      simp only [Bool.and_eq_true, decide_eq_true_iff]
      exact ⟨⟨by have := g.cnt; have := g.top; omega, by have := g.good.depth; omega⟩, g.good.whole⟩
end Go.Proofs.YtcbajgcblfgmgaaDoor
