
/-
  Every printed value is read back; cut short it ends too early.
-/
import Derived.Test.YtcbajgcblfgmgaaDoorJFact3
namespace Go.Proofs.YtcbajgcblfgmgaaDoor
open Go.RowKit
section
variable {s : ByteArray} {L : List UInt8} {m : Nat}
theorem sk_vb (h : Cut s L m) {i : Nat} {c : UInt8} {u : List UInt8} (hd : L.drop i = c :: u) (hv : isIn spL c = false) : sk spL s i = i :=
  sk_at h sp_zero fun c' r' e => by
    rw [hd] at e; injection e with e1 _; subst e1; exact hv
theorem bt_ne (h : Cut s L m) {i : Nat} {c d : UInt8} {u : List UInt8} (hd : L.drop i = c :: u) (hc : c ≠ d) (h0 : d ≠ 0) : ¬ bt s i = d := by
  rcases Nat.lt_or_ge i m with hlt | hge
  · rw [h.at hd hlt]; exact hc
  · rw [h.out hge]; exact fun e => h0 e.symm
/- The elements of a list. -/
theorem stepL_cut (h : Cut s L m) (f lv i : Nat) (_hi : i ≤ m) (hf : m < (f + 1) + i) : ∀ (a : List VT) (e : VT) (j n : Nat) (r : List UInt8), Good lv ValCut e → L.drop j = tx e ++ r → StopL r → j ≤ m → i + 1 ≤ j → n + e.size ≤ 4096 →
      (j + (tx e).length ≤ m → stepL (pv s f lv) a j n = .ok (a ++ [e.strs], j + (tx e).length, n + e.size)) ∧ (¬ j + (tx e).length ≤ m → stepL (pv s f lv) a j n = .error (m, 3) ∨ ∃ a' n', stepL (pv s f lv) a j n = .ok (a', m, n')) := by
  intro a e j n r ⟨g1, g2, g3, g4, g5⟩ hd hr hj hlo hN
  obtain ⟨p1, p2⟩ := g1 s L m h (tx e) r f lv j n g2 hd hr hj (by omega) g3 g4 g5 hN
  unfold stepL
  refine ⟨fun hm => by rw [p1 hm], fun hm => ?_⟩
  rcases p2 hm with q | ⟨_, t', n', q⟩
  · rw [q]; exact .inl rfl
  · rw [q]; exact .inr ⟨_, _, rfl⟩
/- The members of an object. -/
theorem stepO_cut (h : Cut s L m) (f lv i : Nat) (_hi : i ≤ m) (hf : m < (f + 1) + i) : ∀ (a : List ByteArray × List VT) (e : ByteArray × VT) (j n : Nat) (r : List UInt8), (e.1 ∉ a.1 ∧ Good lv ValCut e.2) → L.drop j = txK e ++ r → StopL r → j ≤ m → i + 1 ≤ j → n + e.2.size ≤ 4096 →
      (j + (txK e).length ≤ m → stepO s (pv s f lv) a j n = .ok (updO a e, j + (txK e).length, n + e.2.size)) ∧ (¬ j + (txK e).length ≤ m → stepO s (pv s f lv) a j n = .error (m, 3) ∨ ∃ a' n', stepO s (pv s f lv) a j n = .ok (a', m, n')) := by
  intro a ⟨k, t⟩ j n r ⟨hk, g1, g2, g3, g4, g5⟩ hd hr hj hlo hN
  have hk : k ∉ a.1 := hk
  have hN : n + t.size ≤ 4096 := hN
  have hd0 : L.drop j = qL k ++ (58 :: (tx t ++ r)) := by rw [hd]; simp [txK]
  have hl : (txK (k, t)).length = (qL k).length + ((tx t).length + 1) := by simp [txK]
  have hq : L.drop j = 34 :: (k.data.toList.flatMap T1.escL ++ [34] ++ 58 :: (tx t ++ r)) := by rw [hd0, qL_eq]; simp
  have hs1 : sk spL s j = j := sk_vb h hq (by decide)
  have hd1 := drop_past hd0
  have hd2 := drop_next hd1
  have hs2 : sk spL s (j + (qL k).length) = j + (qL k).length := sk_vb h hd1 (by decide)
  show (_ → stepO s (pv s f lv) a j n = .ok ((a.1 ++ [k], a.2 ++ [t.strs]), _, n + t.size)) ∧ _
  unfold stepO keyR
  rw [hs1, lit_cut h hd0 hj]
  by_cases m1 : j + (qL k).length ≤ m
  · rw [endR_ok m1]
    simp only
    rw [memK_no hk, hs2]
    rcases Nat.lt_or_ge (j + (qL k).length) m with m2 | m2
    · rw [h.at hd1 m2, if_neg (by decide), if_pos rfl]
      simp only
      obtain ⟨p1, p2⟩ := g1 s L m h (tx t) r f lv (j + (qL k).length + 1) n g2 hd2 hr m2 (by omega) g3 g4 g5 hN
      refine ⟨fun hm => ?_, fun hm => ?_⟩
      · rw [p1 (by omega), hl, show j + (qL k).length + 1 + (tx t).length = j + ((qL k).length + ((tx t).length + 1)) by omega]
      · rcases p2 (by omega) with q | ⟨_, t', n', q⟩
        · rw [q]; exact .inl rfl
        · rw [q]; exact .inr ⟨_, _, rfl⟩
    · have hq : j + (qL k).length = m := by omega
      rw [hq, h.out (Nat.le_refl _), if_neg (by decide), if_neg (by decide)]
      exact ⟨fun hm => by omega, fun _ => .inl rfl⟩
  · rw [endR_no m1]
    exact ⟨fun hm => by omega, fun _ => .inl rfl⟩
def joinJ {ε : Type} (tx : ε → List UInt8) : List ε → List UInt8
  | [] => []
  | e :: r => tx e ++ tailJ tx r
/- A list or an object from its bracket on. -/
theorem els_cut {α ε : Type} (h : Cut s L m) (op cl : UInt8) (hcl : cl = 93 ∨ cl = 125) (step : α → Nat → Nat → Except Er (α × Nat × Nat)) (tx : ε → List UInt8) (upd : α → ε → α) (sz : ε → Nat) (ok : α → ε → Prop) (N i : Nat)
    (hstep : ∀ a e j n r, ok a e → L.drop j = tx e ++ r → StopL r → j ≤ m → i + 1 ≤ j → n + sz e ≤ N →
      (j + (tx e).length ≤ m → step a j n = .ok (upd a e, j + (tx e).length, n + sz e)) ∧ (¬ j + (tx e).length ≤ m → step a j n = .error (m, 3) ∨ ∃ a' n', step a j n = .ok (a', m, n')))
    (hhead : ∀ a e, ok a e → ∃ c u, tx e = c :: u ∧ isIn spL c = false ∧ c ≠ cl) (hend : ∀ a n, i + 1 = m → step a m n = .error (m, 3))
    (es : List ε) (a : α) (n : Nat) (b z : List UInt8) (hb : b = joinJ tx es) (hok : OkAll ok upd a es) (hd : L.drop i = op :: (b ++ cl :: z)) (hi : i < m) (hN : n + szs sz es ≤ N) :
    (i + b.length + 2 ≤ m → els s cl step a i n = .ok (es.foldl upd a, i + b.length + 2, n + szs sz es)) ∧ (¬ i + b.length + 2 ≤ m → els s cl step a i n = .error (m, 3)) := by
  have hd1 := drop_next hd
  have hcl0 : ¬ (0 : UInt8) = cl := by rcases hcl with rfl | rfl <;> decide
  have hclne : cl ≠ 0 := fun e => hcl0 e.symm
  unfold els
  cases es with
  | nil =>
    have hb : b = [] := hb
    subst hb
    have hd1 : L.drop (i + 1) = cl :: z := hd1
    have hs : sk spL s (i + 1) = i + 1 := sk_stop h hd1 (StopL.cons z (.inr hcl))
    rw [hs]
    rcases Nat.lt_or_ge (i + 1) m with m1 | m1
    · rw [h.at hd1 m1, if_pos rfl]
      exact ⟨fun _ => rfl, fun hm => (hm m1).elim⟩
    · have hq : i + 1 = m := by omega
      rw [hq, h.out (Nat.le_refl _), if_neg hcl0]
      refine ⟨fun hm => by simp at hm; omega, fun _ => ?_⟩
      unfold elsF
      rw [hend a n hq]
  | cons e r =>
    have hb : b = tx e ++ tailJ tx r := hb
    have hd1 : L.drop (i + 1) = tx e ++ (tailJ tx r ++ cl :: z) := by rw [hd1, hb]; simp
    obtain ⟨c, u, he, hc, hcc⟩ := hhead a e hok.1
    have hd2 : L.drop (i + 1) = c :: (u ++ (tailJ tx r ++ cl :: z)) := by rw [hd1, he]; rfl
    have hs : sk spL s (i + 1) = i + 1 := sk_vb h hd2 hc
    have hbl : b.length = (tx e).length + (tailJ tx r).length := by rw [hb, List.length_append]
    rw [hs, if_neg (bt_ne h hd2 hcc hclne)]
    obtain ⟨p1, p2⟩ := elsF_cut h cl hcl step tx upd sz ok (i + 1) N hstep r e a (s.size + 1) (i + 1) n z hok hd1 hi (by rw [h.size]; omega) (Nat.le_refl _) hN
    refine ⟨fun hm => ?_, fun hm => p2 (by omega)⟩
    rw [p1 (by omega), show i + 1 + (tx e).length + (tailJ tx r).length + 1 = i + b.length + 2 by omega]
end
set_option maxHeartbeats 1000000 in
theorem val_cut (t : VT) : ValCut t := by
  induction t using VT.ind with
  | h k n x is ks ih =>
    intro s L m h a r f level i c ha hd hr hi hf hw hsm hlv hN
    obtain ⟨c0, u, ea, hv⟩ := txt_head ha
    have hd0 : L.drop i = c0 :: (u ++ r) := by rw [hd, ea]; rfl
    have ha1 : 1 ≤ a.length := by rw [ea]; simp
    obtain ⟨f, rfl⟩ : ∃ f', f = f' + 1 := ⟨f - 1, by omega⟩
    simp only [VT.depth] at hlv
    simp only [VT.size] at hN
    by_cases hge : m ≤ i
    · obtain rfl : i = m := by omega
      exact ⟨fun hm => by omega, fun _ => .inl (pv_end h f level c)⟩
    have hlt : i < m := by omega
    have hgo := pv_go h (f := f) (level := level) (n := c) hd0 hlt hv (by omega) (by omega)
    rw [hgo]
    clear hgo
    simp only [wholeB, Bool.and_eq_true] at hw
    obtain ⟨hnode, hws⟩ := hw
    simp only [VT.sm] at hsm
    obtain ⟨hn, hsms⟩ := hsm
    simp only [VT.strs, VT.size]
    unfold VT.txt at ha
    unfold nodeB at hnode
    dsimp only at hnode
    by_cases k0 : k = 0
    · subst k0
      rw [if_pos rfl] at ha hnode
      simp only [Bool.and_eq_true, leafB, decide_eq_true_iff] at hnode
      obtain ⟨⟨rfl, hx⟩, h1, h2⟩ := hnode
      obtain rfl := size0 hx
      obtain rfl := List.eq_nil_of_length_eq_zero h1
      obtain rfl := List.eq_nil_of_length_eq_zero h2
      cases ha
      injection ea with e1 e2
      subst e1
      have e5 : wordR s [110, 117, 108, 108] i = endR m (i + 4) (i + 4) := word_cut h [110, 117, 108, 108] i r hd (by decide) hi
      rw [if_pos rfl, e5]
      exact ⟨fun hm => by rw [endR_ok (show i + 4 ≤ m from hm)]; rfl, fun hm => .inl (by rw [endR_no (show ¬ i + 4 ≤ m from hm)])⟩
    rw [if_neg k0] at ha hnode
    by_cases k1 : k = 1
    · subst k1
      rw [if_pos rfl] at ha hnode
      simp only [Bool.and_eq_true, Bool.or_eq_true, leafB, decide_eq_true_iff] at hnode
      obtain ⟨⟨hn01, hx⟩, h1, h2⟩ := hnode
      obtain rfl := size0 hx
      obtain rfl := List.eq_nil_of_length_eq_zero h1
      obtain rfl := List.eq_nil_of_length_eq_zero h2
      rcases hn01 with rfl | rfl
      · have ha2 : a = [102, 97, 108, 115, 101] := by
          have := Option.some.inj ha
          rw [if_pos rfl] at this
          exact this.symm
        subst ha2
        injection ea with e1 e2
        subst e1
        have e5 : wordR s [102, 97, 108, 115, 101] i = endR m (i + 5) (i + 5) := word_cut h [102, 97, 108, 115, 101] i r hd (by decide) hi
        rw [if_neg (by decide), if_pos rfl, e5]
        exact ⟨fun hm => by rw [endR_ok (show i + 5 ≤ m from hm)]; rfl, fun hm => .inl (by rw [endR_no (show ¬ i + 5 ≤ m from hm)])⟩
      · have ha2 : a = [116, 114, 117, 101] := by
          have := Option.some.inj ha
          rw [if_neg (by decide)] at this
          exact this.symm
        subst ha2
        injection ea with e1 e2
        subst e1
        have e5 : wordR s [116, 114, 117, 101] i = endR m (i + 4) (i + 4) := word_cut h [116, 114, 117, 101] i r hd (by decide) hi
        rw [if_neg (by decide), if_neg (by decide), if_pos rfl, e5]
        exact ⟨fun hm => by rw [endR_ok (show i + 4 ≤ m from hm)]; rfl, fun hm => .inl (by rw [endR_no (show ¬ i + 4 ≤ m from hm)])⟩
    rw [if_neg k1] at ha hnode
    by_cases k2 : k = 2
    · subst k2
      rw [if_pos rfl] at ha hnode
      simp only [Bool.and_eq_true, leafB, decide_eq_true_iff] at hnode
      obtain ⟨hx, h1, h2⟩ := hnode
      obtain rfl := size0 hx
      obtain rfl := List.eq_nil_of_length_eq_zero h1
      obtain rfl := List.eq_nil_of_length_eq_zero h2
      cases ha
      obtain ⟨c1, u1, e1, _, q1, q2, q3, q4, q5, q6⟩ := itoa_head n
      rw [ea] at e1
      injection e1 with e1 _
      subst e1
      rw [if_neg q1, if_neg q2, if_neg q3, if_neg q4, if_neg q5, if_neg q6]
      obtain ⟨p1, p2⟩ := int_cut h hn hd hr hi
      refine ⟨fun hm => ?_, fun hm => ?_⟩
      · rw [p1 hm]; rfl
      · rcases p2 hm with q | ⟨t, q⟩
        · rw [q]; exact .inl rfl
        · rw [q]; exact .inr ⟨by show (2 : Int) ≤ 2; omega, _, _, rfl⟩
    rw [if_neg k2] at ha hnode
    by_cases k34 : k = 3 ∨ k = 4
    · rw [if_pos k34] at ha
      have hleaf : n = 0 ∧ is = [] ∧ ks = [] := by
        by_cases k3 : k = 3
        · rw [if_pos k3] at hnode
          simp only [Bool.and_eq_true, leafB, decide_eq_true_iff] at hnode
          exact ⟨hnode.1, List.eq_nil_of_length_eq_zero hnode.2.1, List.eq_nil_of_length_eq_zero hnode.2.2⟩
        · have k4 : k = 4 := by omega
          rw [if_neg k3, if_pos k4] at hnode
          simp only [Bool.and_eq_true, leafB, decide_eq_true_iff] at hnode
          exact ⟨hnode.1.1, List.eq_nil_of_length_eq_zero hnode.2.1, List.eq_nil_of_length_eq_zero hnode.2.2⟩
      obtain ⟨rfl, rfl, rfl⟩ := hleaf
      have ek : (if k = 4 then (3 : Int) else k) = 3 := by split <;> omega
      cases ha
      rw [qL_eq] at ea
      injection ea with e1 e2
      subst e1
      rw [ek, if_neg (by decide), if_neg (by decide), if_neg (by decide), if_pos rfl, lit_cut h hd hi]
      exact ⟨fun hm => by rw [endR_ok hm]; rfl, fun hm => .inl (by rw [endR_no hm])⟩
    rw [if_neg k34] at ha
    rw [if_neg (by omega), if_neg (by omega)] at hnode
    have hgood : ∀ t ∈ is, (∃ l, t.txt = some l) → Good (level + 1) ValCut t := by
      intro t ht ⟨l, hl⟩
      obtain ⟨q, hq⟩ := List.getElem?_of_mem ht
      exact ⟨ih q t hq, by unfold tx; rw [hl]; rfl, whole_parts hws t ht, sm_parts hsms t ht, by have := depth_parts ht; omega⟩
    by_cases k5 : k = 5
    · subst k5
      rw [if_pos rfl] at ha hnode
      simp only [Bool.and_eq_true, decide_eq_true_iff] at hnode
      obtain ⟨⟨rfl, hx⟩, h2⟩ := hnode
      obtain rfl := size0 hx
      obtain rfl := List.eq_nil_of_length_eq_zero h2
      simp only [Option.map_eq_some_iff] at ha
      obtain ⟨b, hb, rfl⟩ := ha
      injection ea with e1 e2
      subst e1
      rw [if_neg (by decide), if_neg (by decide), if_neg (by decide), if_neg (by decide), if_pos rfl]
      have hall : (∀ t ∈ is, Good (level + 1) ValCut t) ∧ b = joinJ tx is := by
        cases is with
        | nil => simp only [VT.txtL, Option.some.injEq] at hb; exact ⟨fun t ht => by simp at ht, hb.symm⟩
        | cons t r =>
          obtain ⟨p1, p2⟩ := txtL_head hb
          exact ⟨fun v hv => hgood v hv ⟨_, p2 v hv⟩, p1⟩
      have hdb : L.drop i = 91 :: (b ++ 93 :: r) := by rw [hd]; simp
      obtain ⟨p1, p2⟩ := els_cut h 91 93 (.inl rfl) (stepL (pv s f (level + 1))) tx (fun a t => a ++ [t.strs]) VT.size (fun _ t => Good (level + 1) ValCut t) 4096 i
        (stepL_cut h f (level + 1) i hi hf)
        (fun a e he => by obtain ⟨c, u, q1, q2⟩ := tx_head he.2.1; exact ⟨c, u, q1, (vb_sp c q2).1, (vb_sp c q2).2.1⟩)
        (fun a n hm => by
          obtain ⟨f', rfl⟩ : ∃ f', f = f' + 1 := ⟨f - 1, by omega⟩
          unfold stepL
          rw [pv_end h f' (level + 1) n])
        is [] (c + 1) b r hall.2 (okAll_list _ _ _ is [] hall.1) hdb hlt (by rw [szs_list]; omega)
      have hbl : (91 :: b ++ [93]).length = b.length + 2 := by simp
      rw [hbl]
      refine ⟨fun hm => ?_, fun hm => .inl ?_⟩
      · rw [p1 (by omega), foldl_strs, szs_list]
        show Except.ok (VT.mk 5 0 ⟨#[]⟩ ([] ++ VT.strsL is) [], i + b.length + 2, c + 1 + VT.sizes is) = _
        rw [List.nil_append, Nat.add_assoc c, Nat.add_assoc i]
        rfl
      · rw [p2 (by omega)]
    rw [if_neg k5] at ha hnode
    by_cases k6 : k = 6
    · subst k6
      rw [if_pos rfl] at ha hnode
      simp only [Bool.and_eq_true, decide_eq_true_iff] at hnode
      obtain ⟨⟨⟨rfl, hx⟩, hlen⟩, hkb⟩ := hnode
      obtain rfl := size0 hx
      rw [if_pos hlen] at ha
      have hnd : ks.Nodup := by
        unfold keysB at hkb
        simp only [Bool.and_eq_true, decide_eq_true_iff] at hkb
        exact hkb.2
      simp only [Option.map_eq_some_iff] at ha
      obtain ⟨b, hb, rfl⟩ := ha
      injection ea with e1 e2
      subst e1
      rw [if_neg (by decide), if_neg (by decide), if_neg (by decide), if_neg (by decide), if_neg (by decide), if_pos rfl]
      have hall : (∀ t ∈ is, Good (level + 1) ValCut t) ∧ b = joinJ txK (ks.zip is) := by
        cases is with
        | nil => simp only [VT.txtO, Option.some.injEq] at hb; rw [List.zip_nil_right]; exact ⟨fun t ht => by simp at ht, hb.symm⟩
        | cons t r =>
          cases ks with
          | nil => simp at hlen
          | cons k1 ks =>
            obtain ⟨p1, p2⟩ := txtO_head (by simpa using hlen) hb
            exact ⟨fun v hv => hgood v hv ⟨_, p2 v hv⟩, p1⟩
      have hdb : L.drop i = 123 :: (b ++ 125 :: r) := by rw [hd]; simp
      obtain ⟨p1, p2⟩ := els_cut h 123 125 (.inr rfl) (stepO s (pv s f (level + 1))) txK updO (fun p : ByteArray × VT => p.2.size) (fun a p => p.1 ∉ a.1 ∧ Good (level + 1) ValCut p.2) 4096 i
        (stepO_cut h f (level + 1) i hi hf)
        (fun a e he => ⟨34, _, by unfold txK; rw [qL_eq]; rfl, by decide, by decide⟩)
        (fun a n hm => by
          unfold stepO keyR litR
          rw [sk_out (by rw [h.out (Nat.le_refl _)]; exact sp_zero), h.out (Nat.le_refl _)]
          rfl)
        (ks.zip is) ([], []) (c + 1) b r hall.2 (okAll_obj _ _ is ks _ hall.1 (by simpa using hnd)) hdb hlt (by rw [szs_zip is ks hlen]; omega)
      have hbl : (123 :: b ++ [125]).length = b.length + 2 := by simp
      rw [hbl]
      refine ⟨fun hm => ?_, fun hm => .inl ?_⟩
      · rw [p1 (by omega), foldl_obj is ks _ hlen, szs_zip is ks hlen]
        show Except.ok (VT.mk 6 0 ⟨#[]⟩ ([] ++ VT.strsL is) ([] ++ ks), i + b.length + 2, c + 1 + VT.sizes is) = _
        rw [List.nil_append, List.nil_append, Nat.add_assoc c, Nat.add_assoc i]
        rfl
      · rw [p2 (by omega)]
    rw [if_neg k6] at ha
    cases ha
/- What Parse answers on the text of a value, whole or cut short. -/
theorem cut_whole {a : List UInt8} (s : ByteArray) (hs : s.data.toList = a) : Cut s a a.length := ⟨by rw [List.take_length]; exact hs, Nat.le_refl _⟩
theorem parse_back {t : VT} {a : List UInt8} (s : ByteArray) (hs : s.data.toList = a) (ha : t.txt = some a) (hr : rightB false t = true) (hsm : t.sm) : parseR s = .ok t.strs := by
  unfold rightB at hr
  simp only [Bool.and_eq_true, decide_eq_true_iff] at hr
  have hc := cut_whole s hs
  have hv := (val_cut t s a a.length hc a [] (s.size + 1) 1 0 0 ha (by rw [List.drop_zero, List.append_nil]) StopL.nil (Nat.zero_le _) (by rw [hc.size]; omega) hr.2 hsm (by omega) (by omega)).1 (by omega)
  unfold parseR
  rw [hv]
  simp only
  rw [Nat.zero_add, sk_out (by rw [hc.out (Nat.le_refl _)]; exact sp_zero), if_neg (by rw [hc.size]; omega)]
theorem parse_cut {t : VT} {a : List UInt8} (s : ByteArray) {m : Nat} (hs : s.data.toList = a.take m) (hm : m < a.length) (ha : t.txt = some a) (hr : rightB false t = true) (hsm : t.sm) (hk : 3 ≤ t.kd) : parseR s = .error (m, 3) := by
  unfold rightB at hr
  simp only [Bool.and_eq_true, decide_eq_true_iff] at hr
  have hc : Cut s a m := ⟨hs, by omega⟩
  have hv := (val_cut t s a m hc a [] (s.size + 1) 1 0 0 ha (by rw [List.drop_zero, List.append_nil]) StopL.nil (Nat.zero_le _) (by rw [hc.size]; omega) hr.2 hsm (by omega) (by omega)).2 (by omega)
  unfold parseR
  rcases hv with q | ⟨q, _⟩
  · rw [q]
  · omega
end Go.Proofs.YtcbajgcblfgmgaaDoor
