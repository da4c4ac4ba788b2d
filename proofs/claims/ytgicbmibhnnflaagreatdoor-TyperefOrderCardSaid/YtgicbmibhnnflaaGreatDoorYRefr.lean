
/-
  Reading a reference: slices.Reverse, the reader's reference.
-/
import Derived.Test.YtgicbmibhnnflaaGreatDoorYRead
import Derived.Test.YtgicbmibhnnflaaGreatDoorYLev
import Derived.Test.YtgicbmibhnnflaaGreatDoorShelf
import Derived.Deep.Upon
namespace Go.Proofs.YtgicbmibhnnflaaGreatDoor
open Go.RowKit
theorem below_cells {N g : Nat} (hN : N ≤ g) : ∀ (vs : List Value) (o : Nat) {w w1 : World}, Below N w w1 → Below N w (w1.setCells g o vs)
  | [], _, _, _, h => h
  | v :: r, o, _, _, h => below_cells hN r (o + 1) (h.setCell (p := ⟨g, o, none⟩) hN v)
theorem reverse_any (N : Nat) (v : Value) (xs : Ws) (w : World) (ho : OwnI w N v xs) (hl : xs.length ≤ 1000000) : Calls Tryz.prog 68 #[v] w fun e w' => e = .returned (.tuple #[]) ∧ SlV w' w'.heap.size v xs.reverse ∧ Below N w w' := by
  have hh : w.ownsRow N 3 1 v xs.length (inC xs) := ho
  have hsl := ho.sl
  rcases hh.2 with ⟨rfl, hz⟩ | ⟨g, cap, cur, rfl, h1, h2, h3⟩
  · have hx : xs = [] := List.eq_nil_of_length_eq_zero hz
    subst hx
    exact (Tryz.slices_Reverse_int_empty none 0 w).mono fun e w' ⟨he, hw⟩ => by subst hw; exact ⟨he, hsl, Below.refl _ _⟩
  · have hlt := (World.ownsRow.lt hh g rfl).2
    have hadd : ∀ j, (⟨g, 0, none⟩ : Addr).add j = ⟨g, j, none⟩ := fun j => by unfold Addr.add; split <;> simp_all
    have hcell : ∀ j, j < xs.length → w.cell? ⟨g, 0 + j, none⟩ = some (.int .i64 (xs.getD j 0)) := fun j hj => by
      have := hh.cells (g := g) rfl j (.int .i64 xs[j]) (by unfold inC; simp [hj])
      rw [hadd] at this
      rw [Nat.zero_add, this]; simp [hj]
    refine (Tryz.slices_Reverse_int_cells g 0 xs.length cap xs w (Nat.le_refl _) (by omega) hcell (fun j hj => by simp [World.frozen?, h2])).mono ?_
    rintro e w' ⟨he, q, rfl⟩
    have hb : Below N w ((w.drewN q).setCells g 0 ((xs.take xs.length).reverse.map (Value.int .i64))) := below_cells h1 _ _ (below_drewN (Below.refl _ _) q)
    refine ⟨he, ⟨some ⟨g, 0, none⟩, cap, by rw [List.length_reverse], by rw [List.length_reverse]; exact h3.1, fun _ => ⟨_, rfl, Nat.lt_of_lt_of_le hlt hb.size, fun i x hx => ?_⟩⟩, hb⟩
    rw [hadd]
    rw [List.take_length]
    have hi : i < (xs.reverse.map (Value.int .i64)).length := by
      have := (List.getElem?_eq_some_iff.1 hx).1
      simpa using this
    have := World.cell?_setCells_in g (xs.reverse.map (Value.int .i64)) 0 (w.drewN q) (fun j hj => by
      have hj' : j < xs.length := by simpa using hj
      have h9 : (w.drewN q).cell? ⟨g, 0 + j, none⟩ = w.cell? ⟨g, 0 + j, none⟩ := rfl
      rw [h9, hcell j hj']; rfl) i hi
    rw [Nat.zero_add] at this
    rw [this]
    have h8 : (xs.reverse.map (Value.int .i64))[i]? = some (.int .i64 x) := by rw [List.getElem?_map, hx]; rfl
    rw [List.getElem?_eq_getElem hi] at h8
    exact h8
theorem wp_region_two {P : Program} {ops : Array Oper} {Q : Exit → Act → World → Prop} (hm : P.follows .mixedOrders = true) {id : Nat} {a0 : Act} {W0 : World} (hl : lowB ops = true) (s : Nat) (hs : s < ops.size) (hb : dstB ops a0.tmps.size s = true) (V : List Value) (W2 : World)
    (hop : ∀ i o, ops[i]? = some o → i ≠ s → ∀ a w, (w = W0.drew ∨ w = W2) → Fr ops a0 a → Had ops s a o (fun j v => v = V.getD j undef) → Runs P ops Q o a w fun v w' => w' = w ∧ v = V.getD i undef)
    (hst : ∀ o, ops[s]? = some o → ∀ a, Fr ops a0 a → Had ops s a o (fun j v => v = V.getD j undef) → Runs P ops Q o a W0.drew fun _ w' => w' = W2)
    (hend : ∀ a, Fr ops a0 a → (∀ i, i < ops.size → i ≠ s → vof ops a i = V.getD i undef) → Q .normal a W2) : (Code.region id ops true).wp P Q a0 W0 := by
  refine wp_region_inv hm hl (fun L a w => Fr ops a0 a ∧ (∀ i, i < ops.size → i ≠ s → L.getD i false = true → vof ops a i = V.getD i undef) ∧ (L.getD s false = false → w = W0.drew) ∧ (L.getD s false = true → w = W2)) ?_ ?_ ?_
  · have hz : ∀ i, (Array.replicate ops.size false).getD i false = false := fun i => by
      rw [Array.getD_eq_getD_getElem?, Array.getElem?_replicate]; split <;> rfl
    exact ⟨⟨rfl, rfl, fun _ _ => rfl⟩, fun i _ _ h => (by rw [hz i] at h; cases h), fun _ => rfl, fun h => (by rw [hz s] at h; cases h)⟩
  · intro L a w i hsz ⟨hf, hp, hpre, hpost⟩ hi
    obtain ⟨h0, o, ho, hall⟩ := mem_ready.1 hi
    have hil : i < ops.size := (Array.getElem?_eq_some_iff.1 ho).1
    have hLi : i < L.size := by omega
    have hset : ∀ j, (L.setIfInBounds i true).getD j false = if i = j then true else L.getD j false := fun j => by
      by_cases e : i = j
      · subst e; rw [if_pos rfl]; simp [Array.getD_eq_getD_getElem?, hLi]
      · rw [if_neg e, Array.getD_eq_getD_getElem?, Array.getD_eq_getD_getElem?, Array.getElem?_setIfInBounds_ne e]
    have hi0 : L.getD i false = false := by
      rw [Array.getD_eq_getD_getElem?, Array.getElem?_eq_getElem hLi] at h0 ⊢; simpa using h0
    have hpredlt : ∀ e ∈ o.after, Region.binds .any e = true → e.on < ops.size := fun e he hbd => by have := low_of hl ho e he hbd; omega
    have wrap : ∀ (K : Act → World → Prop), (Region.wanted o (yielded ops a.tmps) = true ∧ o.wp P a w K Q) → wpOp P ops Q i K a w := fun K h => by
      unfold wpOp; rw [ho]; simp only [h.1, if_true]; exact .inl h.2
    have had : Had ops s a o (fun j v => v = V.getD j undef) := fun e he hbd hne => hp _ (hpredlt e he hbd) hne (hall e he hbd)
    by_cases his : i = s
    · subst his
      obtain rfl := hpre hi0
      obtain ⟨hw, hr⟩ := hst o ho a hf had
      refine wrap _ ⟨hw, Oper.wp_mono (fun a' w' ⟨v, e, hfin⟩ => ?_) hr⟩
      have hdn : o.dst = none := by
        cases q : o.dst with
        | none => rfl
        | some d => exact absurd rfl (dst_nes hb (i := i) (d := d) (by simp [dstOf, ho, q]))
      rw [hdn] at e
      subst e
      refine ⟨hf, fun j hj hjs h => ?_, fun h => ?_, fun _ => hfin⟩
      · rw [hset, if_neg (Ne.symm hjs)] at h; exact hp j hj hjs h
      · rw [hset, if_pos rfl] at h; cases h
    · have hsne : ∀ {b}, (L.setIfInBounds i true).getD s false = b ↔ L.getD s false = b := fun {b} => by rw [hset, if_neg his]
      have hww : w = W0.drew ∨ w = W2 := by
        cases q : L.getD s false with
        | false => exact .inl (hpre q)
        | true => exact .inr (hpost q)
      obtain ⟨hw, hr⟩ := hop i o ho his a w hww hf had
      refine wrap _ ⟨hw, Oper.wp_mono (fun a' w' ⟨v, e, e2, hv⟩ => ?_) hr⟩
      subst e e2
      refine ⟨hf.put ho v, fun j hj hjs h => ?_, fun h => hpre (hsne.1 h), fun h => hpost (hsne.1 h)⟩
      rw [vof_put hb hf ho v]
      rw [hset] at h
      by_cases e : i = j
      · subst e; rw [if_pos ⟨rfl, his⟩]; exact hv
      · rw [if_neg e] at h; rw [if_neg (fun h => e h.1)]; exact hp j hj hjs h
  · intro L a w hsz hall ⟨hf, hp, hpre, hpost⟩
    have hg : ∀ i, i < ops.size → L.getD i false = true := fun i hi => by
      have := hall i hi
      rw [Array.getD_eq_getD_getElem?, Array.getElem?_eq_getElem (by omega)] at this ⊢; simpa using this
    obtain rfl := hpost (hg s hs)
    exact hend a hf (fun i hi his => hp i hi his (hg i hi))
def refQ (k : Nat) (ts : List K2) : Option (List UInt8 × Ws × List K2) :=
  match nmO ts with
  | none => none
  | some n => match clsR k (bangR [] ts.tail).1 (bangR [] ts.tail).2 with
    | none => none
    | some (ws, r) => some (n, ws.reverse, r)
theorem refP_eq (ts : List K2) : refP ts = refQ (cntO ts) (ts.drop (cntO ts)) := rfl
theorem cls_succ (k : Nat) (ws : Ws) (ts : List K2) : clsR (k + 1) ws ts = if sgB 93 ts = true then clsR k (bangR (ws ++ [2]) ts.tail).1 (bangR (ws ++ [2]) ts.tail).2 else none := rfl
theorem bang_len (ws : Ws) (ts : List K2) : (bangR ws ts).1.length ≤ ws.length + 1 := by unfold bangR; split <;> simp
theorem cnt_true {ts : List K2} (h : sgB 91 ts = true) : cntO ts = cntO ts.tail + 1 := by
  cases ts with
  | nil => cases h
  | cons p r =>
    have hp : p.1 = 1 ∧ p.2 = [91] := by simpa [sgB] using h
    show (if _ then _ else _) = _; rw [if_pos hp]; rfl
theorem cnt_false {ts : List K2} (h : sgB 91 ts = false) : cntO ts = 0 := by
  cases ts with
  | nil => rfl
  | cons p r =>
    have hp : ¬ (p.1 = 1 ∧ p.2 = [91]) := by simpa [sgB] using h
    show (if _ then _ else _) = _; rw [if_neg hp]
theorem kz_drop (zs : List Tz) (k : Nat) : kz (zs.drop k) = (kz zs).drop k := List.map_drop ..
theorem drop_tail {α : Type} (l : List α) (k : Nat) : (l.drop k).tail = l.drop (k + 1) := by rw [List.tail_drop]
theorem five_head {zs : List Tz} {k : Int} {t : List UInt8} {i : Int} (h : zs[0]? = some (k, t, i)) : fivB (kz zs) = decide (k = 5) := by
  cases zs with
  | nil => simp at h
  | cons q r => simp at h; subst h; rfl
/- What reference leaves. -/
def RdrPost (p : Nat) (o : Option (List UInt8 × Ws × List K2)) (m : Nat) (w : World) (e : Ending) (w' : World) : Prop :=
  (match o with
    | none => e = .returned (.tuple #[.agg #[.string ⟨#[]⟩, .slice none 0 0], .bool false])
    | some (n, ws, r) => (∃ u, e = .returned (.tuple #[u, .bool (fivB r)]) ∧ RefV w' w'.heap.size u ⟨n.toArray⟩ ws) ∧ ws.length ≤ m) ∧ Bes p w.heap.size w w'
theorem Bes.grow {p N : Nat} {w w' : World} (h : Bes p w.heap.size w w') (hN : N ≤ w.heap.size) : Bes p N w w' := h.mono hN
section
variable {ops : Array Oper} {Q : Exit → Act → World → Prop} {o : Oper} {a : Act} {w : World} {R : Value → World → Prop}
theorem rt_nil (hw : Region.wanted o (yielded ops a.tmps) = true) (x : Operand) {p : Nat} (ho : o.op = .nilCheck x) (hx : a.eval x = .pointer (some ⟨p, 0, none⟩)) (h : R (.pointer (some ⟨p, 0, none⟩)) w) : Runs Tryz.prog ops Q o a w R :=
  runs_value hw (by generalize a.eval = ρ at hx; simp [execOp, ho, go_sem, hx]) h
theorem rt_fa (hw : Region.wanted o (yielded ops a.tmps) = true) (x : Operand) {p : Nat} (ho : o.op = .fieldAddr 52 x 0) (hx : a.eval x = .pointer (some ⟨p, 0, none⟩)) (h : R (.pointer (some ⟨p, 0, none⟩)) w) : Runs Tryz.prog ops Q o a w R :=
  runs_value hw (by generalize a.eval = ρ at hx; simp [execOp, ho, go_sem, hx]) h
theorem rt_ld (hw : Region.wanted o (yielded ops a.tmps) = true) (x : Operand) {p : Nat} {v : Value} (ho : o.op = .load 48 x) (hx : a.eval x = .pointer (some ⟨p, 0, none⟩)) (hc : w.cell? ⟨p, 0, none⟩ = some v) (h : R v w) : Runs Tryz.prog ops Q o a w R :=
  runs_value hw (by generalize a.eval = ρ at hx; simp [execOp, ho, go_sem, hx, hc]) h
theorem rt_ix (hw : Region.wanted o (yielded ops a.tmps) = true) (x : Operand) {b : Addr} {l c : Nat} (ho : o.op = .indexAddr 48 x (.const (.int .i64 0))) (hx : a.eval x = .slice (some b) l c) (hl : 0 < l) (h : R (.pointer (some b)) w) : Runs Tryz.prog ops Q o a w R :=
  runs_value hw (by
    have e : a.eval (.const (.int .i64 0)) = .int .i64 0 := rfl
    have h1 : ¬ l = 0 := by omega
    generalize a.eval = ρ at hx e; simp [execOp, ho, go_sem, hx, e, h1]) h
theorem rt_f0 (hw : Region.wanted o (yielded ops a.tmps) = true) (x : Operand) {b : Addr} (ho : o.op = .fieldAddr 75 x 0) (hx : a.eval x = .pointer (some b)) (h : R (.pointer (some b)) w) : Runs Tryz.prog ops Q o a w R :=
  runs_value hw (by generalize a.eval = ρ at hx; simp [execOp, ho, go_sem, hx]) h
theorem rt_li (hw : Region.wanted o (yielded ops a.tmps) = true) (x : Operand) {b : Addr} {v : Value} (ho : o.op = .load 3 x) (hx : a.eval x = .pointer (some b)) (hc : w.cell? b = some v) (h : R v w) : Runs Tryz.prog ops Q o a w R :=
  runs_value hw (by generalize a.eval = ρ at hx; simp [execOp, ho, go_sem, hx, hc]) h
end
set_option maxRecDepth 100000 in
set_option maxHeartbeats 2000000 in
theorem treference_any (p : Nat) (zs : List Tz) (w : World) (h : RdP p zs w) (hE : EndZ zs) (hl : zs.length ≤ 100000) : Calls Tryz.prog 52 #[.pointer (some ⟨p, 0, none⟩)] w (RdrPost p (refP (kz zs)) (3 * zs.length + 3) w) := by
  have hp := h.lt
  have hb0 := (Below.refl w.heap.size w).alloc (Nat.le_refl _) (.cells #[.string ⟨#[]⟩, .slice none 0 0] 24 (0, 0))
  have R0 := Lib.hid (h.stay hb0)
  have Z0 := Lib.hid (BxR.new w (.string ⟨#[]⟩) (.slice none 0 0))
  have B0 := Lib.hid (Bes.of (p := p) hb0)
  have HP := Lib.hid hp
  have HE := Lib.hid hE
  have HL := Lib.hid hl
  have HREF := Lib.hid (refP_eq (kz zs))
  generalize refP (kz zs) = RR at *
  clear h hb0 hE hp hl
  go_enter Tryz.func52, Tryz.ntmps52
  go_wp2_with fail
  generalize hW0 : (w.alloc (.cells #[.string ⟨#[]⟩, .slice none 0 0] 24 (0, 0))) = W0 at *
  have HZS : Hid (W0.heap.size = w.heap.size + 1) := Lib.hid (by rw [← hW0]; simp)
  clear hW0
  go_loopw [4] (fun v wr => ∃ k : Nat, v = .int .i64 k ∧ k ≤ zs.length ∧ RdP p (zs.drop k) wr ∧ EndZ (zs.drop k) ∧ cntO (kz zs) = k + cntO (kz (zs.drop k)) ∧ Bes p W0.heap.size W0 wr) (fun v _ => zs.length - (intOf v).toNat)
  case atStart => exact ⟨0, rfl, Nat.zero_le _, R0.out, HE.out, by rw [List.drop_zero, Nat.zero_add], Bes.refl _ _ _⟩
  case round =>
    obtain ⟨k, rfl, hk, hr, he, hc, hb⟩ := hrel
    have HB := Lib.hid hb
    have HC := Lib.hid hc
    have HE1 := Lib.hid he
    have HKL : Hid (k < zs.length) := Lib.hid (by have := he.pos; rw [List.length_drop] at this; omega)
    have CALL := Lib.hid (tsign_any p (zs.drop k) 91 wr hr he)
    have hlm : ((zs.length : Int) ≤ 100000) := by have := HL.out; omega
    have hkb : ((k : Int) ≤ 100000) := by omega
    clear hr he hc hb
    go_wp2_with fail
    cases hsg : sgB 91 (kz (zs.drop k)) with
    | true =>
      have HSG := Lib.hid hsg
      have hcall := CALL.out
      rw [hsg] at hcall
      clear hsg CALL
      refine hcall.mono ?_
      clear hcall
      rintro e w1 ⟨rfl, hr, hb⟩
      have hr' : RdP p (zs.drop (k + 1)) w1 := by rw [← drop_tail]; exact hr
      have HR1 := Lib.hid hr'
      have HB1 := Lib.hid (HB.out.trans (hb.mono HB.out.size))
      have HE2 : Hid (EndZ (zs.drop (k + 1))) := Lib.hid (by rw [← drop_tail]; exact HE1.out.sg HSG.out)
      have HC2 : Hid (cntO (kz zs) = k + 1 + cntO (kz (zs.drop (k + 1)))) := Lib.hid (by rw [HC.out, cnt_true HSG.out, ← kz_tail, drop_tail]; omega)
      clear hr hr' hb
      go_wp2_with fail
      go_roundw
      case rel => exact ⟨k + 1, by go_num, by have := HKL.out; omega, HR1.out, HE2.out, HC2.out, HB1.out⟩
      case measure => have h9 := HKL.out; simp [intOf]; omega
    | false =>
      have HSG := Lib.hid hsg
      have hcall := CALL.out
      rw [hsg] at hcall
      clear hsg CALL
      refine hcall.mono ?_
      clear hcall
      rintro e w1 ⟨rfl, hr, hb⟩
      have hr' : RdP p (zs.drop k) w1 := hr
      have HBA := Lib.hid (B0.out.trans ((HB.out.trans (hb.mono HB.out.size)).mono (by have := HZS.out; omega)))
      have HZ1 : Hid (BxR w1 w.heap.size (.string ⟨#[]⟩) (.slice none 0 0)) := Lib.hid (Z0.out.kept ((HB.out.trans (hb.mono HB.out.size)).block _ (by have := HZS.out; omega) (by have := HP.out; omega)))
      have HSZ : Hid (W0.heap.size ≤ w1.heap.size) := Lib.hid (Nat.le_trans HB.out.size hb.size)
      have HRR : Hid (RR = refQ k (kz (zs.drop k))) := Lib.hid (by rw [HREF.out, HC.out, cnt_false HSG.out, Nat.add_zero, kz_drop])
      have HZL : Hid ((zs.drop k).length ≤ zs.length) := Lib.hid (by rw [List.length_drop]; omega)
      have HKM : Hid (k ≤ zs.length) := Lib.hid hk
      have HRD := Lib.hid hr'
      clear hr hr' hb HB HC HSG HREF Z0 B0 R0 HE HKL hk
      generalize zs.drop k = z1 at *
      go_wp2_with fail
      have hcall := tname_any p z1 w1 HRD.out HE1.out
      cases hnm : nmO (kz z1) with
      | none =>
        rw [hnm] at hcall
        have HRN : Hid (RR = none) := Lib.hid (by rw [HRR.out]; unfold refQ; rw [hnm])
        clear hnm
        refine hcall.mono ?_
        clear hcall
        rintro e w2 ⟨⟨rfl, hr⟩, hb⟩
        have HZ2 : Hid (BxR w2 w.heap.size (.string ⟨#[]⟩) (.slice none 0 0)) := Lib.hid (HZ1.out.kept (hb.block _ HZ1.out.lt (by have := HP.out; omega)))
        have HB2 := Lib.hid (HBA.out.trans (hb.mono HBA.out.size))
        clear hr hb
        have z0 := HZ2.out.cells.1
        have z1 := HZ2.out.cells.2
        have f0 := HZ2.out.frz 0
        have f1 := HZ2.out.frz 1
        go_wp2_with fail
        obtain ⟨y2, y3⟩ := (HZ2.out.two (.string ⟨#[]⟩) (.slice none 0 0)).cells
        refine bodyPost_ret (v := .tuple #[.agg #[.string ⟨#[]⟩, .slice none 0 0], .bool false]) (by simp [results, Tryz.results52, go_sem, y2, y3]) rfl ⟨?_, ?_⟩
        · rw [HRN.out]
        · exact HB2.out.trans ((Bes.of (Below.pair (Below.refl w.heap.size _) (Nat.le_refl _) _ _)))
      | some t =>
        rw [hnm] at hcall
        have HNM := Lib.hid hnm
        clear hnm
        refine hcall.mono ?_
        clear hcall
        rintro e w2 ⟨⟨rfl, hr⟩, hb⟩
        have HZ2 : Hid (BxR w2 w.heap.size (.string ⟨#[]⟩) (.slice none 0 0)) := Lib.hid (HZ1.out.kept (hb.block _ HZ1.out.lt (by have := HP.out; omega)))
        have HB2 := Lib.hid (HBA.out.trans (hb.mono HBA.out.size))
        have HSZ2 : Hid (W0.heap.size ≤ w2.heap.size) := Lib.hid (Nat.le_trans HSZ.out hb.size)
        have HE2 : Hid (EndZ z1.tail) := Lib.hid (by
          cases z1 with
          | nil => exact absurd HE1.out.pos (by simp)
          | cons q r =>
            have hq : q.1 = 2 := by
              have h9 := HNM.out
              simp only [kz, List.map_cons, nmO] at h9
              by_cases h8 : q.1 = 2
              · exact h8
              · rw [if_neg h8] at h9; cases h9
            exact (HE1.out.tail (p := q) rfl (by rw [hq]; decide)).1)
        have HR2 := Lib.hid hr
        clear hr hb HBA HZ1 HSZ
        go_wp2_with fail
        have hpn : p < W0.heap.size := by have := HP.out; have := HZS.out; omega
        have HPN := Lib.hid hpn
        refine (tnonnull_any p W0.heap.size z1.tail (.slice none 0 0) [] w2 HR2.out HE2.out (OwnI.nil _ _) hpn HSZ2.out (by decide)).mono ?_
        clear hpn
        rintro e w3 ⟨u3, r3, rfl, ho, hr, hkr, he, hb⟩
        obtain ⟨A3, l3, c3, rfl⟩ := ho.shape
        have HZ3 : Hid (BxR w3 w.heap.size (.string ⟨#[]⟩) (.slice none 0 0)) := Lib.hid (HZ2.out.kept (hb.block _ (by have := HZS.out; omega) (by have := HP.out; omega)))
        have HB3 := Lib.hid (HB2.out.trans (hb.mono (by have := HZS.out; omega)))
        have HSZ3 : Hid (W0.heap.size ≤ w3.heap.size) := Lib.hid (Nat.le_trans HSZ2.out hb.size)
        have hal := bang_len [] (kz z1.tail)
        have HO3 := Lib.hid ho
        have HR3 := Lib.hid hr
        have HE3 := Lib.hid he
        have HQ : Hid (RR = match clsR k (bangR [] (kz z1.tail)).1 (kz r3) with | none => none | some (ws, r) => some (t, ws.reverse, r)) := Lib.hid (by rw [HRR.out]; unfold refQ; rw [HNM.out, hkr, ← kz_tail])
        generalize (bangR [] (kz z1.tail)).1 = acc0 at *
        have HAL : Hid (acc0.length ≤ 1) := Lib.hid (by simpa using hal)
        generalize hts : kz r3 = ts0 at *
        have HTS := Lib.hid hts
        clear hts ho hr hkr he hb hal HB2 HZ2 HR2 HE2 HNM HRR HE1 HRD
        have hlz : ((zs.length : Int) ≤ 100000) := by have := HL.out; omega
        go_wp2_with fail
        go_loopw [7, 23] (fun v i wr => ∃ (j : Nat) (acc : Ws) (rest : List Tz), i = .int .i64 j ∧ j ≤ k ∧ OwnI wr W0.heap.size v acc ∧ RdP p rest wr ∧ EndZ rest ∧ clsR k acc0 ts0 = clsR (k - j) acc (kz rest) ∧ acc.length ≤ 1 + 2 * j ∧ Bes p W0.heap.size w3 wr) (fun _ i _ => k - (intOf i).toNat)
        case atStart => exact ⟨0, acc0, r3, rfl, Nat.zero_le _, HO3.out, HR3.out, HE3.out, by rw [HTS.out]; rfl, HAL.out, Bes.refl _ _ _⟩
        case round =>
          obtain ⟨j, acc, rest, rfl, hj, ho, hr, he, hc, hal, hb⟩ := hrel
          obtain ⟨Av, lv', cv, rfl⟩ := ho.shape
          have HO := Lib.hid ho
          have HR := Lib.hid hr
          have HE := Lib.hid he
          have HC := Lib.hid hc
          have HAC := Lib.hid hal
          have HB := Lib.hid hb
          have HJ := Lib.hid hj
          clear ho hr he hc hal hb
          by_cases hjk : j < k
          · have hjk' : (j : Int) < (k : Int) := by omega
            have hjb : (j : Int) ≤ 100000 := by omega
            have CALL := Lib.hid (tsign_any p rest 93 wr HR.out HE.out)
            have HKJ : Hid (k - j = (k - (j + 1)) + 1) := Lib.hid (by omega)
            go_wp2_with fail
            have hcall := CALL.out
            clear CALL
            cases hsg : sgB 93 (kz rest) with
            | false =>
              rw [hsg] at hcall
              have HRN : Hid (RR = none) := Lib.hid (by rw [HQ.out, HC.out, HKJ.out, cls_succ, hsg]; rfl)
              clear hsg
              refine hcall.mono ?_
              clear hcall
              rintro e w4 ⟨rfl, hr, hb⟩
              have HZ4 : Hid (BxR w4 w.heap.size (.string ⟨#[]⟩) (.slice none 0 0)) := Lib.hid ((HZ3.out.kept (HB.out.block _ (by have := HZS.out; omega) (by have := HP.out; omega))).kept (hb.block _ (by have := HB.out.size; have := HSZ3.out; have := HZS.out; omega) (by have := HP.out; omega)))
              have HB4 := Lib.hid ((HB3.out.trans (HB.out.mono (by have := HZS.out; omega))).trans (hb.mono (by have := HB.out.size; have := HSZ3.out; have := HZS.out; omega)))
              clear hr hb
              have z0 := HZ4.out.cells.1
              have z1 := HZ4.out.cells.2
              have f0 := HZ4.out.frz 0
              have f1 := HZ4.out.frz 1
              go_wp2_with fail
              obtain ⟨y2, y3⟩ := (HZ4.out.two (.string ⟨#[]⟩) (.slice none 0 0)).cells
              refine bodyPost_ret (v := .tuple #[.agg #[.string ⟨#[]⟩, .slice none 0 0], .bool false]) (by simp [results, Tryz.results52, go_sem, y2, y3]) rfl ⟨?_, ?_⟩
              · rw [HRN.out]
              · exact HB4.out.trans ((Bes.of (Below.pair (Below.refl w.heap.size _) (Nat.le_refl _) _ _)))
            | true =>
              rw [hsg] at hcall
              have HSG := Lib.hid hsg
              clear hsg
              refine hcall.mono ?_
              clear hcall
              rintro e w4 ⟨rfl, hr, hb⟩
              have hr' : RdP p rest.tail w4 := hr
              have HR4 := Lib.hid hr'
              have HO4 : Hid (OwnI w4 W0.heap.size (.slice Av lv' cv) acc) := Lib.hid (row_kept HO.out fun g hg hgl _ => hb.block g hgl (by have := HPN.out; omega))
              have HS4 : Hid (W0.heap.size ≤ w4.heap.size) := Lib.hid (by have := HB.out.size; have := HSZ3.out; have := hb.size; omega)
              have HB4 : Hid (Bes p W0.heap.size w3 w4) := Lib.hid (HB.out.trans (hb.mono (by have := HB.out.size; have := HSZ3.out; omega)))
              have HE4 := Lib.hid (HE.out.sg HSG.out)
              clear hr hr' hb
              go_wp2_with (at_builtin; refine append_I rfl (.tmp 30) (.tmp 31) rfl W0.heap.size _ _ rfl (HO4.out.stay ((Below.refl _ _).alloc (Nat.le_refl _) _)) ⟨w4.heap.size, 0, none⟩ 1 2 rfl (by simp) rfl (by have := HAC.out; have := HL.out; have := HKM.out; omega) (by have := HS4.out; simp; omega) ?_; intro v5 w5 hv hg; have HV := Lib.hid hv; have HG := Lib.hid (((Below.refl W0.heap.size w4).alloc HS4.out _).grown hg (by have := HS4.out; simp; omega) (fun g hg => (HO4.out.lt g hg).1)); clear hv hg)
              refine (tnonnull_any p W0.heap.size rest.tail _ (acc ++ [2]) w5 (HR4.out.any (HG.out.block p HPN.out) (HG.out.mono (Nat.le_of_lt HPN.out))) HE4.out HV.out HPN.out (by have := HG.out.size; have := HS4.out; omega) (by rw [List.length_append]; have := HAC.out; have := HL.out; have := HKM.out; show _ + 1 ≤ _; omega)).mono ?_
              rintro e w6 ⟨u6, r6, rfl, ho, hr, hkr, he, hb⟩
              have HO6 := Lib.hid ho
              have HR6 := Lib.hid hr
              have HKR := Lib.hid hkr
              have HE6 := Lib.hid he
              have HB6 := Lib.hid (HB4.out.trans ((Bes.of HG.out).trans hb))
              clear ho hr hkr he hb
              go_wp2_with fail
              go_roundw
              case rel => exact ⟨j + 1, _, r6, by go_num, by omega, HO6.out, HR6.out, HE6.out, by rw [HC.out, HKJ.out, cls_succ, if_pos HSG.out, HKR.out, kz_tail], by have := bang_len (acc ++ [2]) (kz rest.tail); rw [List.length_append] at this; have := HAC.out; simp at *; omega, HB6.out⟩
              case measure => simp [intOf]; omega
          · have hjk' : ¬ (j : Int) < (k : Int) := by omega
            have HQ2 : Hid (RR = some (t, acc.reverse, kz rest)) := Lib.hid (by rw [HQ.out, HC.out, show k - j = 0 by omega]; rfl)
            have HAC2 : Hid (acc.length ≤ 2 * zs.length + 1) := Lib.hid (by have := HAC.out; have := HKM.out; omega)
            have HZ4 : Hid (BxR wr w.heap.size (.string ⟨#[]⟩) (.slice none 0 0)) := Lib.hid (HZ3.out.kept (HB.out.block _ (by have := HZS.out; omega) (by have := HP.out; omega)))
            have HB4 := Lib.hid (HB3.out.trans (HB.out.mono (by have := HZS.out; omega)))
            have HS4 : Hid (W0.heap.size ≤ wr.heap.size) := Lib.hid (by have := HB.out.size; have := HSZ3.out; omega)
            clear HB HB3 HZ3 HQ HC HAC
            go_wp2_with fail
            refine (reverse_any W0.heap.size _ acc wr HO.out (by have := HAC2.out; have := HL.out; omega)).mono ?_
            rintro e w5 ⟨rfl, hsl, hb⟩
            have SL := Lib.hid hsl
            have HR5 := Lib.hid (HR.out.any (hb.block p HPN.out) (hb.mono (Nat.le_of_lt HPN.out)))
            have HZ5 : Hid (BxR w5 w.heap.size (.string ⟨#[]⟩) (.slice none 0 0)) := Lib.hid (HZ4.out.kept (hb.block _ (by have := HZS.out; omega)))
            have HB5 := Lib.hid (HB4.out.trans ((Bes.of hb).mono (by have := HZS.out; omega)))
            clear hsl hb HR HO HB4 HZ4
            go_wp2_with fail
            obtain ⟨A6, c6, e6, hc6, hi6⟩ := SL.out
            injection e6 with e7 e8 e9
            have hZ6 := HZ5.out
            obtain ⟨AR, cR, hwR, hcR, hzR⟩ := HR5.out
            obtain ⟨aR, eR, haR, hcell⟩ := hzR HE.out.pos
            obtain ⟨⟨kk, tt, ii⟩, hq⟩ : ∃ q, rest[0]? = some q := ⟨rest[0]'HE.out.pos, List.getElem?_eq_getElem _⟩
            have hc3 := hcell 0 _ hq
            rw [show aR.add (0 * 3) = aR from rfl] at hc3
            obtain ⟨g0, _, _⟩ := hc3
            subst e7 e9 eR
            have hr0 : w5.cell? ⟨p, 0, none⟩ = some (.slice (some aR) rest.length cR) := by rw [cell_of_row _ _ _ _ _ _ hwR]; rfl
            have hpz : p ≠ w.heap.size := by have := HP.out; omega
            have haz : aR.block ≠ w.heap.size := by have := HP.out; omega
            have HFV := Lib.hid (five_head hq)
            have hpos := HE.out.pos
            refine wp_region_two (by kernel_rfl) (by kernel_rfl) 11 (by decide) (by kernel_rfl)
              [.string ⟨t.toArray⟩, .slice Av lv' cv, .agg #[.string ⟨t.toArray⟩, .slice Av lv' cv], .pointer (some ⟨p, 0, none⟩), .pointer (some ⟨p, 0, none⟩), .pointer (some ⟨p, 0, none⟩), .slice (some aR) rest.length cR, .pointer (some aR), .pointer (some aR), .int .i64 kk, .bool (decide (kk = 5)), undef, .bool (decide (kk = 5))]
              ((w5.drew.setCell ⟨w.heap.size, 0, none⟩ (.string ⟨t.toArray⟩)).setCell ⟨w.heap.size, 1, none⟩ (.slice Av lv' cv)) ?_ ?_ ?_
            · intro i o ho his a wn hww hf had
              have hr0n : wn.cell? ⟨p, 0, none⟩ = some (.slice (some aR) rest.length cR) := by
                rcases hww with rfl | rfl
                · exact hr0
                · refine (World.cell?_of_block ((Below.heap_setCell _ _ _ _ hpz).trans (Below.heap_setCell _ _ _ _ hpz))).trans hr0
              have g0n : wn.cell? aR = some (.int .i64 kk) := by
                rcases hww with rfl | rfl
                · exact g0
                · refine (World.cell?_of_block ((Below.heap_setCell _ _ _ _ haz).trans (Below.heap_setCell _ _ _ _ haz))).trans g0
              have hi : i < 13 := (Array.getElem?_eq_some_iff.1 ho).1
              have hc : i = 0 ∨ i = 1 ∨ i = 2 ∨ i = 3 ∨ i = 4 ∨ i = 5 ∨ i = 6 ∨ i = 7 ∨ i = 8 ∨ i = 9 ∨ i = 10 ∨ i = 12 := by omega
              rcases hc with rfl | rfl | rfl | rfl | rfl | rfl | rfl | rfl | rfl | rfl | rfl | rfl
              · cases ho
                have h0 : a.tmps.getD 5 undef = .string ⟨t.toArray⟩ := hf.slot 5 (by kernel_rfl)
                exact rc_move rfl (.tmp 5) rfl h0 ⟨rfl, rfl⟩
              · cases ho
                have h0 : a.tmps.getD 7 undef = .slice Av lv' cv := hf.slot 7 (by kernel_rfl)
                exact rc_move rfl (.tmp 7) rfl h0 ⟨rfl, rfl⟩
              · cases ho
                have h0 : vof _ a 0 = .string ⟨t.toArray⟩ := had ⟨0, .data⟩ (by simp) rfl (by decide)
                have h1 : vof _ a 1 = .slice Av lv' cv := had ⟨1, .data⟩ (by simp) rfl (by decide)
                exact rc_build rfl (.tmp 37) (.tmp 38) rfl h0 h1 ⟨rfl, rfl⟩
              · cases ho
                have h0 : a.tmps.getD 0 undef = .pointer (some ⟨p, 0, none⟩) := hf.slot 0 (by kernel_rfl)
                exact rc_move rfl (.tmp 0) rfl h0 ⟨rfl, rfl⟩
              · cases ho
                have h0 : vof _ a 3 = .pointer (some ⟨p, 0, none⟩) := had ⟨3, .data⟩ (by simp) rfl (by decide)
                exact rt_nil rfl (.tmp 40) rfl h0 ⟨rfl, rfl⟩
              · cases ho
                have h0 : vof _ a 4 = .pointer (some ⟨p, 0, none⟩) := had ⟨4, .data⟩ (by simp) rfl (by decide)
                exact rt_fa rfl (.tmp 41) rfl h0 ⟨rfl, rfl⟩
              · cases ho
                have h0 : vof _ a 5 = .pointer (some ⟨p, 0, none⟩) := had ⟨5, .data⟩ (by simp) rfl (by decide)
                exact rt_ld rfl (.tmp 42) rfl h0 hr0n ⟨rfl, rfl⟩
              · cases ho
                have h0 : vof _ a 6 = .slice (some aR) rest.length cR := had ⟨6, .data⟩ (by simp) rfl (by decide)
                exact rt_ix rfl (.tmp 43) rfl h0 hpos ⟨rfl, rfl⟩
              · cases ho
                have h0 : vof _ a 7 = .pointer (some aR) := had ⟨7, .data⟩ (by simp) rfl (by decide)
                exact rt_f0 rfl (.tmp 44) rfl h0 ⟨rfl, rfl⟩
              · cases ho
                have h0 : vof _ a 8 = .pointer (some aR) := had ⟨8, .data⟩ (by simp) rfl (by decide)
                exact rt_li rfl (.tmp 45) rfl h0 g0n ⟨rfl, rfl⟩
              · cases ho
                have h0 : vof _ a 9 = .int .i64 kk := had ⟨9, .data⟩ (by simp) rfl (by decide)
                exact rc_eql rfl (.tmp 46) (.const (.int .i64 5)) rfl h0 rfl (by by_cases h : kk = 5 <;> simp [h]) ⟨rfl, rfl⟩
              · cases ho
                have h0 : vof _ a 10 = .bool (decide (kk = 5)) := had ⟨10, .data⟩ (by simp) rfl (by decide)
                exact rk_assign rfl (.tmp 47) rfl h0 ⟨rfl, rfl⟩
            · intro o ho a hf had
              cases ho
              have s2 : a.eval (.tmp 2) = .pointer (some ⟨w.heap.size, 0, none⟩) := hf.slot 2 (by kernel_rfl)
              have hv : vof _ a 2 = .agg #[.string ⟨t.toArray⟩, .slice Av lv' cv] := had ⟨2, .data⟩ (by simp) rfl (by decide)
              have hzd : BxR w5.drew w.heap.size (.string ⟨#[]⟩) (.slice none 0 0) := hZ6
              exact runs_skip rfl (store2_run rfl s2 hv hzd rfl rfl) rfl
            · intro a hf hall
              have s2 : a.tmps.getD 2 undef = .pointer (some ⟨w.heap.size, 0, none⟩) := hf.slot 2 (by kernel_rfl)
              have h12 : a.tmps.getD 3 undef = .bool (decide (kk = 5)) := hall 12 (by decide) (by decide)
              have hd : a.defers = [] := hf.1
              have hzd : BxR w5.drew w.heap.size (.string ⟨#[]⟩) (.slice none 0 0) := hZ6
              obtain ⟨y2, y3⟩ := (hzd.two (.string ⟨t.toArray⟩) (.slice Av lv' cv)).cells
              have hid : IntsAt w5.drew w5.drew.heap.size Av acc.reverse := hi6
              have hie := (hid.off hzd 0 (.string ⟨t.toArray⟩)).off (hzd.s0 (.string ⟨t.toArray⟩)) 1 (.slice Av lv' cv)
              rw [Array.getD_eq_getD_getElem?] at s2 h12
              have hie2 : IntsAt ((w5.drew.setCell ⟨w.heap.size, 0, none⟩ (.string ⟨t.toArray⟩)).setCell ⟨w.heap.size, 1, none⟩ (.slice Av lv' cv)) ((w5.drew.setCell ⟨w.heap.size, 0, none⟩ (.string ⟨t.toArray⟩)).setCell ⟨w.heap.size, 1, none⟩ (.slice Av lv' cv)).heap.size Av acc.reverse := hie.mono (by simp)
              have HBW := Lib.hid (Below.pair (b := w.heap.size) ((Below.refl w.heap.size w5).drew) (Nat.le_refl _) (.string ⟨t.toArray⟩) (.slice Av lv' cv))
              have HIE := Lib.hid hie2
              clear hie2
              generalize ((w5.drew.setCell ⟨w.heap.size, 0, none⟩ (.string ⟨t.toArray⟩)).setCell ⟨w.heap.size, 1, none⟩ (.slice Av lv' cv)) = WF at *
              have HE8 := Lib.hid e8
              have HC6 := Lib.hid hc6
              clear hf hall hie e8 hc6 hid hi6 hzd hZ6 hwR hcR hzR hcell hq
              go_wp2_with fail
              refine bodyPost_ret (v := .tuple #[.agg #[.string ⟨t.toArray⟩, .slice Av lv' cv], .bool (decide (kk = 5))]) (by simp [results, Tryz.results52, go_sem, s2, h12, y2, y3]) hd ⟨?_, ?_⟩
              · rw [HQ2.out]
                exact ⟨⟨_, by rw [HFV.out], Av, cv, by rw [HE8.out], HC6.out, HIE.out⟩, by rw [List.length_reverse]; have := HAC2.out; omega⟩
              · exact HB5.out.trans (Bes.of HBW.out)
end Go.Proofs.YtgicbmibhnnflaaGreatDoor
