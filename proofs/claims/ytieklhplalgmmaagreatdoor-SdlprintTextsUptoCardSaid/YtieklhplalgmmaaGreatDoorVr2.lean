
/-
  Texts joined: Distinct Shelf2 Cmp Compare Make Right Node Chk W1 Open2 Bulk D0 D1Dir D1Def D1Str D1Fld D1Mem D1Inp D1Arg D2 W2.
-/
import Derived.Test.YtieklhplalgmmaaGreatDoorVr1
import Derived.Maps.Own
import Derived.StringKeys
import Derived.Maps.OwnOps
import Derived.Maps.OwnSet
import Derived.Lib.Bytealg
import Derived.Lib.Small
import Derived.Deep.RegionHeld3
import Derived.Test.YtieklhplalgmmaaGreatDoorRows
namespace Go.Proofs.YtieklhplalgmmaaGreatDoor
open Go.RowKit Go.Maps
theorem run_makeMap_hint {P : Program} (t k e : TypeId) (kd : IntKind) (n : Int) (ht : P.underlying t = some (.map k e)) (w : World) :
    (Instr.makeMap t (some (.int kd n))).run P w = .ok (.map (some w.heap.size)) (w.alloc (.map #[] 0)) := by
  simp [Instr.makeMap, run_underlying ht]; rfl
theorem plainElem_bool_inv {H : Type} {P : Program} {e : TypeId} (he : P.underlying e = some .bool) {v : Value} {z : DataW H × List MemPlace} (h : plainElem P e v = some z) : ∃ x, v = .bool x ∧ z = (.lit (.bool x), []) := by
  unfold plainElem at h
  rw [he] at h
  cases v <;> simp at h
  exact ⟨_, rfl, h.symm⟩
theorem at_fold {H : Type} (u z : DataW H) (k : Lit) : ∀ (acc : List Lit) (m : DataW H), IsMap m → (∀ x ∈ acc, WideAt.IsKeyLit x) → (acc.foldl (fun m x => m.put x u) m).atKey k z = if acc.any (fun x => x.sameKey k) then u else m.atKey k z
  | [], m, _, _ => by simp
  | x :: r, m, hm, h => by
    rw [List.foldl_cons, at_fold u z k r (m.put x u) (hm.put x u) (fun y hy => h y (by simp [hy])), List.any_cons]
    by_cases e : k = x
    · subst e
      rw [atKey_put_same hm (h k (by simp)), WideAt.sameKey_self (h k (by simp))]
      simp
    · rw [atKey_put_other e, sameKey_ne (fun e' => e e'.symm)]
      simp
instance decBA : DecidableEq ByteArray := fun a b => decidable_of_iff (a.data = b.data) ⟨fun h => by cases a; cases b; simp at h; subst h; rfl, fun h => by rw [h]⟩
instance memBA (s : ByteArray) (l : List ByteArray) : Decidable (s ∈ l) := decidable_of_iff (l.any (fun a => decide (a = s)) = true) (by simp)
def lits (l : List ByteArray) : List Lit := l.map fun s => .string s.data.toList
def setD (l : List ByteArray) : DataW Unit := setOf (.lit (.bool true)) (lits l)
theorem lit_inj {a b : ByteArray} : (Lit.string a.data.toList = Lit.string b.data.toList) ↔ a = b := by
  constructor
  · intro h
    injection h with h
    obtain ⟨a⟩ := a; obtain ⟨b⟩ := b
    simp only [ByteArray.mk.injEq]
    exact Array.toList_inj.1 h
  · rintro rfl; rfl
theorem key_lit (s : ByteArray) : WideAt.IsKeyLit (.string s.data.toList) := by first | exact trivial | simp [WideAt.IsKeyLit]
theorem any_lits (l : List ByteArray) (s : ByteArray) : (lits l).any (fun x => x.sameKey (.string s.data.toList)) = decide (s ∈ l) := by
  unfold lits
  induction l with
  | nil => simp
  | cons a r ih =>
    rw [List.map_cons, List.any_cons, ih]
    by_cases e : a = s
    · subst e; rw [WideAt.sameKey_self (key_lit a)]; simp
    · rw [sameKey_ne (fun h => e (lit_inj.1 h))]
      have e2 : ¬ s = a := fun h => e h.symm
      simp [e2]
theorem setD_at (l : List ByteArray) (s : ByteArray) : (setD l).atKey (.string s.data.toList) (.lit (.bool false)) = .lit (.bool (decide (s ∈ l))) := by
  unfold setD setOf
  rw [at_fold _ _ _ _ _ isMap_empty (fun x hx => by obtain ⟨s, _, rfl⟩ := List.mem_map.1 hx; exact key_lit s), any_lits]
  by_cases h : s ∈ l
  · simp [h]
  · simp [h, DataW.atKey]
theorem setD_snoc (l : List ByteArray) (s : ByteArray) : setD (l ++ [s]) = (setD l).put (.string s.data.toList) (.lit (.bool true)) := by
  unfold setD lits; rw [List.map_append]; exact setOf_snoc _ _ _
theorem nodup_snoc {l : List ByteArray} {k : Nat} (h : k < l.length) : (l.take (k + 1)).Nodup ↔ (l.take k).Nodup ∧ l[k] ∉ l.take k := by
  rw [List.take_succ_eq_append_getElem h, List.nodup_append]
  constructor
  · rintro ⟨h1, _, h3⟩
    exact ⟨h1, fun hm => h3 _ hm _ (by simp) rfl⟩
  · rintro ⟨h1, h2⟩
    exact ⟨h1, by simp, fun a ha b hb => by simp at hb; subst hb; exact fun e => h2 (e ▸ ha)⟩
theorem nodup_take {l : List ByteArray} {k : Nat} (h : l.Nodup) : (l.take k).Nodup := h.sublist (List.take_sublist _ _)
theorem wpList_lookup_own_bool {H : Type} {P : Program} (w : World) {ops : Array Oper} {rest : List Oper} {o : Oper} {a : Act} {Q : Exit → Act → World → Prop}
    (hg : o.guard = none) (m x : Operand) (t : TypeId) (hop : o.op = Op.lookup t m x false)
    (k e : TypeId) (K : Keyed P k) (ht : P.underlying t = some (.map k e)) (he : P.underlying e = some .bool) (hz : (zeroValue e).run P w = .ok (.bool false) w) (b n : Nat) (D : DataW H)
    (hm : a.eval m = .map (some b)) (hown : w.ownsMap P k (plainElem P e) b n D) (key : Value) (kl : Lit) (hx : a.eval x = key) (hkey : keyOf P k key = some kl)
    (y : Bool) (hy : D.atKey kl (.lit (.bool false)) = .lit (.bool y)) (hK : wpList P ops Q rest (a.put o.dst (.bool y)) w) :
    wpList P ops Q (o :: rest) a w := by
  refine wpList_plain hg fun K' hK' => ?_
  obtain ⟨v, ps, hrun, hv⟩ := hown.lookup K ht hz (plainElem_bool he false) hkey
  obtain ⟨c, rfl, hc⟩ := plainElem_bool_inv he hv
  simp only [Prod.mk.injEq] at hc
  rw [hy] at hc
  obtain ⟨hc, _⟩ := hc
  injection hc with hc
  injection hc with hc
  subst hc
  unfold Oper.wp
  simp [execOp, hop, hm, hx, hrun, Result.andThen]
  exact hK' _ _ hK
theorem keyLaw : Keyed Tryz.prog 9 := string_keyed Tryz.underlying9
theorem zeroB (w : World) : (zeroValue 4).run Tryz.prog w = .ok (.bool false) w := by kernel_rfl
end Go.Proofs.YtieklhplalgmmaaGreatDoor
namespace Go.Proofs
end Go.Proofs
namespace Go.Proofs.YtieklhplalgmmaaGreatDoor
end Go.Proofs.YtieklhplalgmmaaGreatDoor
namespace Go.Proofs.YtieklhplalgmmaaGreatDoor
open Go.RowKit
def VT.keys : VT → List ByteArray | .mk _ _ _ _ ks => ks
def VT.items : VT → List VT | .mk _ _ _ is _ => is
theorem Rd.shape {w : World} {B : Nat} {v : Value} {t : VT} (h : Rd w B v t) : ∃ (k n : Int) (s : ByteArray) (A : Option Addr) (li ci : Nat) (K : Option Addr) (lk ck : Nat), v = .agg #[.int .i64 k, .int .i64 n, .string s, .slice A li ci, .slice K lk ck] := by
  cases h with
  | mk V hk hn hs hks hli hlk hbi hbk hA hr hK => exact ⟨_, _, _, _, _, _, _, _, _, rfl⟩
end Go.Proofs.YtieklhplalgmmaaGreatDoor
namespace Go.Proofs.YtieklhplalgmmaaGreatDoor
open Go.RowKit
def leafV (k n : Int) (s : ByteArray) : Value := .agg #[.int .i64 k, .int .i64 n, .string s, .slice none 0 0, .slice none 0 0]
def leafT (k n : Int) (s : ByteArray) : VT := .mk k n s [] []
theorem Rd.leaf {w : World} {B : Nat} {k n : Int} {s : ByteArray} (hk : small k) (hn : small n) (hs : s.size ≤ 140737488351232) : Rd w B (leafV k n s) (leafT k n s) :=
  .mk (fun _ => undef) hk hn hs (by simp) rfl rfl (by decide) (by decide) (fun h => by omega) (fun i t hi => by simp at hi) (fun h => by simp at h)
theorem rtext_any (s : ByteArray) (w : World) : Calls Tryz.prog 14 #[.string s] w fun e w' => e = .returned (.agg #[.int .i64 3, .int .i64 0, .string s, .slice none 0 0, .slice none 0 0]) ∧ Below w.heap.size w w' := by
  go_enter Tryz.func14, Tryz.ntmps14
  go_wp2_with fail
  exact bodyPost_ret (v := .agg #[.int .i64 3, .int .i64 0, .string s, .slice none 0 0, .slice none 0 0]) (by simp [results, Tryz.results14, go_sem]) rfl ⟨rfl, (Below.refl _ _).alloc (Nat.le_refl _) _⟩
theorem below_five {a w : World} {b : Nat} (h : Below b a w) (u0 u1 u2 u3 u4 : Value) : Below b a (((((w.setCell ⟨b, 0, none⟩ u0).setCell ⟨b, 1, none⟩ u1).setCell ⟨b, 2, none⟩ u2).setCell ⟨b, 3, none⟩ u3).setCell ⟨b, 4, none⟩ u4) :=
  ((((h.setCell (Nat.le_refl _) _).setCell (Nat.le_refl _) _).setCell (Nat.le_refl _) _).setCell (Nat.le_refl _) _).setCell (Nat.le_refl _) _
def zeroV : Value := .agg #[.int .i64 0, .int .i64 0, .string ⟨#[]⟩, .slice none 0 0, .slice none 0 0]
def objectV (K : Option Addr) (lk ck : Nat) (A : Option Addr) (li ci : Nat) (keys : List ByteArray) : Value :=
  if lk ≠ li then .tuple #[zeroV, .int .i64 2] else if keys.Nodup then .tuple #[.agg #[.int .i64 6, .int .i64 0, .string ⟨#[]⟩, .slice A li ci, .slice K lk ck], .int .i64 0] else .tuple #[zeroV, .int .i64 7]
end Go.Proofs.YtieklhplalgmmaaGreatDoor
namespace Go.Proofs.YtieklhplalgmmaaGreatDoor
open Go.RowKit
def nmA (s : ByteArray) : Bool := nameL s.data.toList
def enumB (s : ByteArray) : Bool := !decide (s = ⟨#[116, 114, 117, 101]⟩) && !decide (s = ⟨#[102, 97, 108, 115, 101]⟩) && !decide (s = ⟨#[110, 117, 108, 108]⟩) && nmA s
def keysB (lit : Bool) (ks : List ByteArray) : Bool := (!lit || ks.all nmA) && decide ks.Nodup
def leafB (is : List VT) (ks : List ByteArray) : Bool := decide (is.length = 0) && decide (ks.length = 0)
def nodeB (lit : Bool) : VT → Bool
  | .mk k n s is ks =>
    if k = 0 then decide (n = 0) && decide (s.size = 0) && leafB is ks
    else if k = 1 then (decide (n = 0) || decide (n = 1)) && decide (s.size = 0) && leafB is ks
    else if k = 2 then decide (s.size = 0) && leafB is ks
    else if k = 3 then decide (n = 0) && leafB is ks
    else if k = 4 then decide (n = 0) && enumB s && leafB is ks
    else if k = 5 then decide (n = 0) && decide (s.size = 0) && decide (ks.length = 0)
    else if k = 6 then decide (n = 0) && decide (s.size = 0) && decide (ks.length = is.length) && keysB lit ks
    else if k = 7 then lit && decide (n = 0) && nmA s && leafB is ks
    else false
theorem list_eq (s : ByteArray) (l : List UInt8) : (s.toList == l) = decide (s = ⟨l.toArray⟩) := by
  rw [Lib.toList_data, Bool.eq_iff_iff]
  obtain ⟨d⟩ := s
  simp only [beq_iff_eq, decide_eq_true_eq, ByteArray.mk.injEq]
  constructor
  · rintro rfl; simp
  · rintro rfl; simp
end Go.Proofs.YtieklhplalgmmaaGreatDoor
namespace Go.Proofs.YtieklhplalgmmaaGreatDoor
open Go.RowKit
theorem s_empty {s : ByteArray} (h : s.size = 0) : (s.toList.isEmpty = true) ∧ s.toList = [] ∧ (s.toList == []) = true := by rw [nil_of h]; exact ⟨rfl, rfl, rfl⟩
theorem s_full {s : ByteArray} (h : ¬ s.size = 0) : (s.toList.isEmpty = false) ∧ s.toList ≠ [] ∧ (s.toList == []) = false := by
  have h1 := isEmpty_of (s := s) (by omega)
  exact ⟨h1, ne_nil_of (by omega), beq_eq_false_iff_ne.2 (ne_nil_of (by omega))⟩
end Go.Proofs.YtieklhplalgmmaaGreatDoor
namespace Go.Proofs.YtieklhplalgmmaaGreatDoor
open Go.RowKit
mutual
def wholeB (lit : Bool) : VT → Bool
  | .mk k n s is ks => nodeB lit (.mk k n s is ks) && wholesB lit is
def wholesB (lit : Bool) : List VT → Bool
  | [] => true
  | t :: u => wholeB lit t && wholesB lit u
end
def rightB (lit : Bool) (t : VT) : Bool := decide (t.size ≤ 4096) && decide (t.depth ≤ 24) && wholeB lit t
end Go.Proofs.YtieklhplalgmmaaGreatDoor
namespace Go.Proofs.YtieklhplalgmmaaGreatDoor
open Go.RowKit
mutual
def VT.bw : VT → Nat
  | .mk _ _ s items keys => 1 + s.size + (keys.map (fun k => 1 + k.size)).sum + VT.bws items
def VT.bws : List VT → Nat
  | [] => 0
  | t :: r => VT.bw t + VT.bws r
end
def ksum (keys : List ByteArray) : Nat := (keys.map (fun k => 1 + k.size)).sum
theorem bw_eq (k n : Int) (s : ByteArray) (items : List VT) (keys : List ByteArray) : (VT.mk k n s items keys).bw = 1 + s.size + ksum keys + VT.bws items := by rw [VT.bw]; rfl
theorem size_bw (t : VT) : t.size ≤ t.bw := by
  induction t using VT.ind with
  | h k n s items keys ih =>
    rw [bw_eq]
    have hs : ∀ (l : List VT), (∀ (i : Nat) (t : VT), l[i]? = some t → t.size ≤ t.bw) → VT.sizes l ≤ VT.bws l := by
      intro l
      induction l with
      | nil => intro _; rw [VT.bws]; simp [VT.sizes]
      | cons t r ihr =>
        intro hm
        rw [VT.bws]
        have h1 := hm 0 t rfl
        have h2 := ihr (fun i t h => hm (i + 1) t h)
        simp [VT.sizes]; omega
    have h2 := hs items ih
    simp [VT.size]; omega
theorem bws_at {items : List VT} {j : Nat} {t : VT} (h : items[j]? = some t) : t.bw ≤ VT.bws items := by
  induction items generalizing j with
  | nil => simp at h
  | cons a r ih =>
    rw [VT.bws]
    cases j with
    | zero => simp at h; subst h; omega
    | succ j => have := ih (j := j) (by simpa using h); omega
end Go.Proofs.YtieklhplalgmmaaGreatDoor
namespace Go.Proofs.YtieklhplalgmmaaGreatDoor
open Go.RowKit Go.ChangeShapes Go.WideShapes
section
variable {H : Type} {enc : TypeId × Value → H} {W : World} {spare : Nat → Bool} {held : Bool}
end
end Go.Proofs.YtieklhplalgmmaaGreatDoor
namespace Go.Proofs.YtieklhplalgmmaaGreatDoor
open Go.RowKit Go.ChangeShapes Go.WideShapes
section
variable {H : Type} {enc : TypeId × Value → H} {w : World} {spare : Nat → Bool} {held : Bool}
theorem bulk_strs (Sx : Nat → ByteArray) : ∀ (l : List Nat), Rows.uptoBulkAll (l.map fun i => (.lit (.string (Sx i).data.toList) : DataW H)) = ksum (l.map Sx)
  | [] => rfl
  | i :: r => by
    have h := bulk_strs Sx r
    simp only [List.map_cons, Rows.uptoBulkAll, Rows.uptoBulk, h, ksum, List.sum_cons, T1.size_eq]
    omega
theorem bws_map : ∀ (ds : List (DataW H)) (f : Nat → VT), (∀ i d, ds[i]? = some d → (f i).bw ≤ Rows.uptoBulk d) → VT.bws ((List.range ds.length).map f) ≤ Rows.uptoBulkAll ds
  | [], _, _ => by simp [VT.bws]
  | d :: r, f, h => by
    have h0 := h 0 d rfl
    have h1 := bws_map r (fun i => f (i + 1)) (fun i d hd => h (i + 1) d hd)
    rw [List.length_cons, List.range_succ_eq_map, List.map_cons, List.map_map, VT.bws, Rows.uptoBulkAll]
    have e : (f ∘ Nat.succ) = fun i => f (i + 1) := rfl
    rw [e]
    omega
set_option maxRecDepth 100000 in
theorem open_keys_b {fuel : Nat} {cs : List Value} {x : DataW H × List MemPlace} (h : DataW.trod enc Tryz.prog w 0 spare held fuel 29 cs = some x) (hw : ∀ n ∈ x.1.weights Tryz.prog 29, n ≤ reachBytes) :
    ∃ (K : Option Addr) (lk ck : Nat) (keys : List ByteArray), cs = [.slice K lk ck] ∧ keys.length = lk ∧ (lk * 16 ≤ 140737488351232 ∧ lk ≤ ck) ∧ (∀ s ∈ keys, s.size ≤ 140737488351232) ∧ KeysAt w w.heap.size K keys ∧ ksum keys + 1 ≤ Rows.uptoBulk x.1 := by
  rcases Go.Deep.open_strs Tryz.underlying29 Tryz.underlying9 cellsS h with ⟨rfl, rfl⟩ | ⟨a, len, cap, m, Sx, rfl, _, hl, hm, hmm, rfl, hx⟩
  · exact ⟨none, 0, 0, [], rfl, rfl, ⟨by decide, Nat.le_refl _⟩, by simp, fun h => by simp at h, by simp [ksum, Rows.uptoBulk]⟩
  · have hml : len ≤ m := by rw [hmm]; split <;> omega
    have hw0 : ∀ n ∈ (m * 16) :: (DataW.weightsAll Tryz.prog 9 ((List.range len).map fun i => (.lit (.string (Sx i).data.toList) : DataW H))), n ≤ reachBytes := by
      intro n hn
      refine hw n ?_
      simp only [DataW.weights, Tryz.underlying29, bytesS, List.length_map, List.length_range]
      rcases List.mem_cons.1 hn with rfl | hn
      · rw [show len + (m - len) = m by omega]; simp
      · simp [hn]
    have h1 := hw0 _ (List.mem_cons_self ..)
    unfold reachBytes at h1
    refine ⟨some a, len, cap, (List.range len).map Sx, rfl, by simp, by omega, ?_, fun h0 => ⟨a, rfl, ?_, ?_⟩, by simp only [Rows.uptoBulk]; rw [bulk_strs]; omega⟩
    · intro s hs
      obtain ⟨i, hi, rfl⟩ := List.mem_map.1 hs
      have h2 := hw0 (Sx i).data.toList.length (List.mem_cons_of_mem _ (weights_all (d := .lit (.string (Sx i).data.toList)) (List.mem_map.2 ⟨i, hi, rfl⟩) _ (by simp [DataW.weights])))
      unfold reachBytes at h2
      rw [size_eq] at h2; exact h2
    · have h2 : 0 < len := by simpa using h0
      have := lt_cell (hx 0 (by omega)).1
      rwa [add_block] at this
    · intro i s hi
      have h2 : i < len := by simpa using (List.getElem?_eq_some_iff.1 hi).1
      rw [(hx i (by omega)).1]
      simp [h2] at hi
      rw [hi]
set_option maxRecDepth 100000 in
theorem open_tree_b : ∀ (fuel : Nat) {cs : List Value} {x : DataW H × List MemPlace}, DataW.trod enc Tryz.prog w 0 spare held fuel 45 cs = some x → (∀ n ∈ x.1.weights Tryz.prog 45, n ≤ reachBytes) →
    ∃ c0 c1 c2 c3 c4 t, cs = [c0, c1, c2, c3, c4] ∧ Rd w w.heap.size (.agg #[c0, c1, c2, c3, c4]) t ∧ t.bw ≤ Rows.uptoBulk x.1 := by
  intro fuel
  induction fuel using Nat.strongRecOn with
  | ind fuel ih =>
  intro cs x h hw
  obtain ⟨xs, n, rfl, rfl, hl, hxl, hf⟩ := DataW.trod_struct Tryz.underlying45 h
  rw [cellsV] at hl
  match cs, hl, xs, hxl with
  | [c0, c1, c2, c3, c4], _, [x0, x1, x2, x3, x4], _ =>
  have f0 : DataW.trod enc Tryz.prog w 0 spare held n 3 [c0] = some x0 := by
    have this : DataW.trod enc Tryz.prog w 0 spare held n 3 (([c0, c1, c2, c3, c4].drop 0).take (Tryz.prog.cellsOf 3)) = some x0 := hf 0 _ rfl
    rw [cellsI] at this; exact this
  have f1 : DataW.trod enc Tryz.prog w 0 spare held n 3 [c1] = some x1 := by
    have this : DataW.trod enc Tryz.prog w 0 spare held n 3 (([c0, c1, c2, c3, c4].drop 1).take (Tryz.prog.cellsOf 3)) = some x1 := hf 1 _ rfl
    rw [cellsI] at this; exact this
  have f2 : DataW.trod enc Tryz.prog w 0 spare held n 9 [c2] = some x2 := by
    have this : DataW.trod enc Tryz.prog w 0 spare held n 9 (([c0, c1, c2, c3, c4].drop 2).take (Tryz.prog.cellsOf 9)) = some x2 := hf 2 _ rfl
    rw [cellsS] at this; exact this
  have f3 : DataW.trod enc Tryz.prog w 0 spare held n 43 [c3] = some x3 := by
    have this : DataW.trod enc Tryz.prog w 0 spare held n 43 (([c0, c1, c2, c3, c4].drop 3).take (Tryz.prog.cellsOf 43)) = some x3 := hf 3 _ rfl
    rw [cellsLV] at this; exact this
  have f4 : DataW.trod enc Tryz.prog w 0 spare held n 29 [c4] = some x4 := by
    have this : DataW.trod enc Tryz.prog w 0 spare held n 29 (([c0, c1, c2, c3, c4].drop 4).take (Tryz.prog.cellsOf 29)) = some x4 := hf 4 _ rfl
    rw [cellsLS] at this; exact this
  obtain ⟨k0, e0, rfl, wf0⟩ := DataW.trod_int Tryz.underlying3 f0
  obtain ⟨k1, e1, rfl, wf1⟩ := DataW.trod_int Tryz.underlying3 f1
  obtain ⟨s, e2, rfl, hs⟩ := DataW.trod_string Tryz.underlying9 f2
  have hw' : ∀ n ∈ (Lit.int .i64 k0 |> (.lit : Lit → DataW H)).weights Tryz.prog 3 ++ ((Lit.int .i64 k1 |> (.lit : Lit → DataW H)).weights Tryz.prog 3 ++ ((Lit.string s.data.toList |> (.lit : Lit → DataW H)).weights Tryz.prog 9 ++ (x3.1.weights Tryz.prog 43 ++ (x4.1.weights Tryz.prog 29 ++ [])))), n ≤ reachBytes := by
    intro n hn
    refine hw n ?_
    simpa only [DataW.weights, Tryz.underlying45, DataW.weightsEach, List.map_cons, List.map_nil] using hn
  obtain ⟨K, lk, ck, keys, e4, hlk, hbk, hks, hK, hkb⟩ := open_keys_b f4 (fun n hn => hw' n (by simp [hn]))
  have hss : s.size ≤ 140737488351232 := by
    have := hw' s.data.toList.length (by simp [DataW.weights])
    unfold reachBytes at this
    rw [size_eq] at this; exact this
  simp only [List.cons.injEq, and_true] at e0 e1 e2 e4
  subst e0 e1 e2 e4
  have hk0 : small k0 := small_of wf0
  have hk1 : small k1 := small_of wf1
  rcases DataW.trod_slice Tryz.underlying43 f3 with ⟨e3, _⟩ | ⟨a, len, cap, elems, rest, m, rfl, e3, rfl, _, hlc, hcm, hel, hat, hsp, hns⟩
  · simp only [List.cons.injEq, and_true] at e3
    subst e3
    exact ⟨_, _, _, _, _, .mk k0 k1 s [] keys, rfl, .mk (fun _ => undef) hk0 hk1 hss hks rfl hlk (by decide) hbk (fun h0 => by omega) (fun i t hi => by simp at hi) hK, by
      rw [bw_eq]
      simp only [Rows.uptoBulk, Rows.uptoBulkAll, List.map_cons, List.map_nil, T1.size_eq, VT.bws] at hkb ⊢
      omega⟩
  · simp only [List.cons.injEq, and_true] at e3
    subst e3
    have hw3 : ∀ d ∈ elems.map (·.1), ∀ q ∈ d.weights Tryz.prog 45, q ≤ reachBytes := by
      intro d hd q hq
      refine hw' q ?_
      simp only [DataW.weights, Tryz.underlying43, List.mem_append, List.mem_cons]
      exact .inr (.inr (.inr (.inl (.inr (.inl (weights_all hd q hq))))))
    have hb3 : len * 80 ≤ 140737488351232 := by
      have := hw' ((elems.length + rest.length) * 80) (by
        simp only [DataW.weights, Tryz.underlying43, List.mem_append, List.mem_cons, bytesV, List.length_map]
        simp)
      unfold reachBytes at this
      omega
    rw [cellsV] at hat
    have hitem : ∀ i, i < len → ∃ T : Value × VT, C5 w (a.add (i * 5)) T.1 ∧ Rd w w.heap.size T.1 T.2 ∧ ∀ d, (elems.map (·.1))[i]? = some d → T.2.bw ≤ Rows.uptoBulk d := by
      intro i hi
      have h1 := hat i hi
      have hlt : i < elems.length := by omega
      rw [List.getElem?_eq_getElem hlt, Option.bind_eq_some_iff] at h1
      obtain ⟨cs', hc, ht⟩ := h1
      obtain ⟨d0, d1, d2, d3, d4, t, rfl, hrd, hbk2⟩ := ih m (by omega) ht (hw3 _ (List.mem_map_of_mem (List.getElem_mem hlt)))
      obtain ⟨_, _, hg⟩ := World.cells?_some hc
      refine ⟨⟨_, t⟩, ⟨_, _, _, _, _, rfl, ?_, ?_, ?_, ?_, ?_⟩, hrd, fun d hd => ?_⟩
      · have := hg 0 (by omega); simpa [Addr.add] using this
      · have := hg 1 (by omega); simpa [Addr.add] using this
      · have := hg 2 (by omega); simpa [Addr.add] using this
      · have := hg 3 (by omega); simpa [Addr.add] using this
      · have := hg 4 (by omega); simpa [Addr.add] using this
      · rw [List.getElem?_map, List.getElem?_eq_getElem hlt] at hd
        cases hd
        exact hbk2
    obtain ⟨T, hT⟩ : ∃ T : Nat → Value × VT, ∀ i, i < len → C5 w (a.add (i * 5)) (T i).1 ∧ Rd w w.heap.size (T i).1 (T i).2 ∧ ∀ d, (elems.map (·.1))[i]? = some d → (T i).2.bw ≤ Rows.uptoBulk d := by
      refine ⟨fun i => if h : i < len then (hitem i h).choose else (undef, .mk 0 0 ⟨#[]⟩ [] []), fun i h => ?_⟩
      simp only [dif_pos h]
      exact (hitem i h).choose_spec
    have hsum := bws_map (elems.map (·.1)) (fun i => (T i).2) (fun i d hd => (hT i (by
      have := (List.getElem?_eq_some_iff.1 hd).1
      simp at this; omega)).2.2 d hd)
    have hll : (elems.map (·.1)).length = len := by simp; omega
    rw [hll] at hsum
    refine ⟨_, _, _, _, _, .mk k0 k1 s ((List.range len).map fun i => (T i).2) keys, rfl, .mk (fun i => (T i).1) hk0 hk1 hss hks (by simp) hlk hb3 hbk (fun h0 => ⟨a, rfl, ?_, fun i hi => (hT i hi).1⟩) (fun i t hi => ?_) hK, ?_⟩
    · obtain ⟨_, _, _, _, _, _, h0, _⟩ := (hT 0 h0).1
      have := lt_cell h0
      rwa [add_block] at this
    · have hlt : i < len := by simpa using (List.getElem?_eq_some_iff.1 hi).1
      simp [hlt] at hi
      subst hi
      exact (hT i hlt).2.1
    · rw [bw_eq]
      simp only [Rows.uptoBulk, Rows.uptoBulkAll, List.map_cons, List.map_nil, T1.size_eq] at hkb ⊢
      omega
end
end Go.Proofs.YtieklhplalgmmaaGreatDoor
namespace Go.Proofs.YtieklhplalgmmaaGreatDoor
open Go.RowKit
def at_ (a : Addr) : Nat → Addr
  | 0 => a
  | j + 1 => ⟨a.block, a.off + (j + 1), none⟩
theorem at_block (a : Addr) (j : Nat) : (at_ a j).block = a.block := by cases j <;> rfl
abbrev big : Nat := 140737488351232
structure Stays {α : Type} (R : World → Nat → (Nat → Value) → α → Prop) : Prop where
  kept : ∀ {w w' : World} {B : Nat} {f : Nat → Value} {x : α}, R w B f x → Below B w w' → R w' B f x
  mono : ∀ {w : World} {B B' : Nat} {f : Nat → Value} {x : α}, R w B f x → B ≤ B' → R w B' f x
def Sl {α : Type} (k bytes : Nat) (R : World → Nat → (Nat → Value) → α → Prop) (w : World) (B : Nat) (v : Value) (xs : List α) : Prop :=
  ∃ A c, v = .slice A xs.length c ∧ xs.length ≤ c ∧ xs.length * bytes ≤ big ∧ ∃ V : Nat → Nat → Value,
    (0 < xs.length → ∃ a, A = some a ∧ a.block < B ∧ ∀ i, i < xs.length → ∀ j, j < k → w.cell? (at_ (a.add (i * k)) j) = some (V i j)) ∧ ∀ i x, xs[i]? = some x → R w B (V i) x
theorem Sl.kept {α : Type} {k bytes : Nat} {R : World → Nat → (Nat → Value) → α → Prop} (hR : Stays R) {w w' : World} {B : Nat} {v : Value} {xs : List α} (h : Sl k bytes R w B v xs) (hw : Below B w w') : Sl k bytes R w' B v xs := by
  obtain ⟨A, c, e, hc, hb, V, hA, hr⟩ := h
  refine ⟨A, c, e, hc, hb, V, fun h0 => ?_, fun i x hx => hR.kept (hr i x hx) hw⟩
  obtain ⟨a, ea, ha, hx⟩ := hA h0
  exact ⟨a, ea, ha, fun i hi j hj => (hw.cell (by rw [at_block, add_block]; exact ha)).trans (hx i hi j hj)⟩
theorem Sl.mono {α : Type} {k bytes : Nat} {R : World → Nat → (Nat → Value) → α → Prop} (hR : Stays R) {w : World} {B B' : Nat} {v : Value} {xs : List α} (h : Sl k bytes R w B v xs) (hB : B ≤ B') : Sl k bytes R w B' v xs := by
  obtain ⟨A, c, e, hc, hb, V, hA, hr⟩ := h
  refine ⟨A, c, e, hc, hb, V, fun h0 => ?_, fun i x hx => hR.mono (hr i x hx) hB⟩
  obtain ⟨a, ea, ha, hx⟩ := hA h0
  exact ⟨a, ea, Nat.lt_of_lt_of_le ha hB, hx⟩
structure DirT where
  name : ByteArray
  args : List (ByteArray × VT)
structure InpT where
  name : ByteArray
  tn : ByteArray
  tw : List Int
  has : Bool
  dflt : VT
  dirs : List DirT
structure FldT where
  name : ByteArray
  args : List InpT
  tn : ByteArray
  tw : List Int
  dirs : List DirT
structure MemT where
  name : ByteArray
  dirs : List DirT
structure DefT where
  kind : Int
  name : ByteArray
  impl : List ByteArray
  dirs : List DirT
  fields : List FldT
  members : List MemT
  inputs : List InpT
def StrR (_ : World) (_ : Nat) (f : Nat → Value) (s : ByteArray) : Prop := f 0 = .string s ∧ s.size ≤ big
def IntR (_ : World) (_ : Nat) (f : Nat → Value) (n : Int) : Prop := f 0 = .int .i64 n ∧ small n
def WrapsR := Sl 1 8 IntR
def NamesR := Sl 1 16 StrR
structure RfR (w : World) (B : Nat) (c0 c1 : Value) (n : ByteArray) (xs : List Int) : Prop where
  name : c0 = .string n
  size : n.size ≤ big
  wraps : WrapsR w B c1 xs
structure ArgR (w : World) (B : Nat) (f : Nat → Value) (x : ByteArray × VT) : Prop where
  name : f 0 = .string x.1
  size : x.1.size ≤ big
  val : Rd w B (.agg #[f 1, f 2, f 3, f 4, f 5]) x.2
def ArgsR := Sl 6 96 ArgR
structure DirR (w : World) (B : Nat) (f : Nat → Value) (x : DirT) : Prop where
  name : f 0 = .string x.name
  size : x.name.size ≤ big
  args : ArgsR w B (f 1) x.args
def DirsR := Sl 2 40 DirR
structure InpR (w : World) (B : Nat) (f : Nat → Value) (x : InpT) : Prop where
  name : f 0 = .string x.name
  size : x.name.size ≤ big
  type : RfR w B (f 1) (f 2) x.tn x.tw
  has : f 3 = .bool x.has
  val : Rd w B (.agg #[f 4, f 5, f 6, f 7, f 8]) x.dflt
  dirs : DirsR w B (f 9) x.dirs
def InpsR := Sl 10 168 InpR
structure FldR (w : World) (B : Nat) (f : Nat → Value) (x : FldT) : Prop where
  name : f 0 = .string x.name
  size : x.name.size ≤ big
  args : InpsR w B (f 1) x.args
  type : RfR w B (f 2) (f 3) x.tn x.tw
  dirs : DirsR w B (f 4) x.dirs
def FldsR := Sl 5 104 FldR
structure MemR (w : World) (B : Nat) (f : Nat → Value) (x : MemT) : Prop where
  name : f 0 = .string x.name
  size : x.name.size ≤ big
  dirs : DirsR w B (f 1) x.dirs
def MemsR := Sl 2 40 MemR
structure DefR (w : World) (B : Nat) (f : Nat → Value) (x : DefT) : Prop where
  kind : f 0 = .int .i64 x.kind
  small : small x.kind
  name : f 1 = .string x.name
  size : x.name.size ≤ big
  impl : NamesR w B (f 2) x.impl
  dirs : DirsR w B (f 3) x.dirs
  fields : FldsR w B (f 4) x.fields
  members : MemsR w B (f 5) x.members
  inputs : InpsR w B (f 6) x.inputs
def DefsR := Sl 7 144 DefR
theorem StrR.stays : Stays StrR := ⟨fun h _ => h, fun h _ => h⟩
theorem IntR.stays : Stays IntR := ⟨fun h _ => h, fun h _ => h⟩
section
variable {w w' : World} {B B' : Nat}
theorem WrapsR.kept {v : Value} {xs : List Int} (h : WrapsR w B v xs) (hb : Below B w w') : WrapsR w' B v xs := Sl.kept IntR.stays h hb
theorem WrapsR.mono {v : Value} {xs : List Int} (h : WrapsR w B v xs) (hb : B ≤ B') : WrapsR w B' v xs := Sl.mono IntR.stays h hb
theorem NamesR.kept {v : Value} {xs : List ByteArray} (h : NamesR w B v xs) (hb : Below B w w') : NamesR w' B v xs := Sl.kept StrR.stays h hb
theorem NamesR.mono {v : Value} {xs : List ByteArray} (h : NamesR w B v xs) (hb : B ≤ B') : NamesR w B' v xs := Sl.mono StrR.stays h hb
theorem RfR.kept {c0 c1 : Value} {n : ByteArray} {xs : List Int} (h : RfR w B c0 c1 n xs) (hb : Below B w w') : RfR w' B c0 c1 n xs := ⟨h.name, h.size, h.wraps.kept hb⟩
theorem RfR.mono {c0 c1 : Value} {n : ByteArray} {xs : List Int} (h : RfR w B c0 c1 n xs) (hb : B ≤ B') : RfR w B' c0 c1 n xs := ⟨h.name, h.size, h.wraps.mono hb⟩
theorem ArgR.stays : Stays ArgR := ⟨fun h hb => ⟨h.name, h.size, h.val.kept hb⟩, fun h hb => ⟨h.name, h.size, h.val.mono hb⟩⟩
theorem ArgsR.kept {v : Value} {xs : List (ByteArray × VT)} (h : ArgsR w B v xs) (hb : Below B w w') : ArgsR w' B v xs := Sl.kept ArgR.stays h hb
theorem ArgsR.mono {v : Value} {xs : List (ByteArray × VT)} (h : ArgsR w B v xs) (hb : B ≤ B') : ArgsR w B' v xs := Sl.mono ArgR.stays h hb
theorem DirR.stays : Stays DirR := ⟨fun h hb => ⟨h.name, h.size, h.args.kept hb⟩, fun h hb => ⟨h.name, h.size, h.args.mono hb⟩⟩
theorem DirsR.kept {v : Value} {xs : List DirT} (h : DirsR w B v xs) (hb : Below B w w') : DirsR w' B v xs := Sl.kept DirR.stays h hb
theorem DirsR.mono {v : Value} {xs : List DirT} (h : DirsR w B v xs) (hb : B ≤ B') : DirsR w B' v xs := Sl.mono DirR.stays h hb
theorem InpR.stays : Stays InpR := ⟨fun h hb => ⟨h.name, h.size, h.type.kept hb, h.has, h.val.kept hb, h.dirs.kept hb⟩, fun h hb => ⟨h.name, h.size, h.type.mono hb, h.has, h.val.mono hb, h.dirs.mono hb⟩⟩
theorem InpsR.kept {v : Value} {xs : List InpT} (h : InpsR w B v xs) (hb : Below B w w') : InpsR w' B v xs := Sl.kept InpR.stays h hb
theorem InpsR.mono {v : Value} {xs : List InpT} (h : InpsR w B v xs) (hb : B ≤ B') : InpsR w B' v xs := Sl.mono InpR.stays h hb
theorem FldR.stays : Stays FldR := ⟨fun h hb => ⟨h.name, h.size, h.args.kept hb, h.type.kept hb, h.dirs.kept hb⟩, fun h hb => ⟨h.name, h.size, h.args.mono hb, h.type.mono hb, h.dirs.mono hb⟩⟩
theorem FldsR.kept {v : Value} {xs : List FldT} (h : FldsR w B v xs) (hb : Below B w w') : FldsR w' B v xs := Sl.kept FldR.stays h hb
theorem FldsR.mono {v : Value} {xs : List FldT} (h : FldsR w B v xs) (hb : B ≤ B') : FldsR w B' v xs := Sl.mono FldR.stays h hb
theorem MemR.stays : Stays MemR := ⟨fun h hb => ⟨h.name, h.size, h.dirs.kept hb⟩, fun h hb => ⟨h.name, h.size, h.dirs.mono hb⟩⟩
theorem MemsR.kept {v : Value} {xs : List MemT} (h : MemsR w B v xs) (hb : Below B w w') : MemsR w' B v xs := Sl.kept MemR.stays h hb
theorem MemsR.mono {v : Value} {xs : List MemT} (h : MemsR w B v xs) (hb : B ≤ B') : MemsR w B' v xs := Sl.mono MemR.stays h hb
theorem DefR.stays : Stays DefR := ⟨fun h hb => ⟨h.kind, h.small, h.name, h.size, h.impl.kept hb, h.dirs.kept hb, h.fields.kept hb, h.members.kept hb, h.inputs.kept hb⟩, fun h hb => ⟨h.kind, h.small, h.name, h.size, h.impl.mono hb, h.dirs.mono hb, h.fields.mono hb, h.members.mono hb, h.inputs.mono hb⟩⟩
theorem DefsR.kept {v : Value} {xs : List DefT} (h : DefsR w B v xs) (hb : Below B w w') : DefsR w' B v xs := Sl.kept DefR.stays h hb
theorem DefsR.mono {v : Value} {xs : List DefT} (h : DefsR w B v xs) (hb : B ≤ B') : DefsR w B' v xs := Sl.mono DefR.stays h hb
end
theorem Sl.form {α : Type} {k bytes : Nat} {R : World → Nat → (Nat → Value) → α → Prop} {w : World} {B : Nat} {v : Value} {xs : List α} (h : Sl k bytes R w B v xs) : ∃ A c, v = .slice A xs.length c ∧ xs.length ≤ c ∧ xs.length * bytes ≤ big := by
  obtain ⟨A, c, e, hc, hb, _⟩ := h; exact ⟨A, c, e, hc, hb⟩
theorem Rd.form {w : World} {B : Nat} {c0 c1 c2 c3 c4 : Value} {t : VT} (h : Rd w B (.agg #[c0, c1, c2, c3, c4]) t) : ∃ (k n : Int) (s : ByteArray) (A : Option Addr) (li ci : Nat) (K : Option Addr) (lk ck : Nat), c0 = .int .i64 k ∧ c1 = .int .i64 n ∧ c2 = .string s ∧ c3 = .slice A li ci ∧ c4 = .slice K lk ck := by
  cases h with
  | mk V => exact ⟨_, _, _, _, _, _, _, _, _, rfl, rfl, rfl, rfl, rfl⟩
end Go.Proofs.YtieklhplalgmmaaGreatDoor
namespace Go.Proofs.YtieklhplalgmmaaGreatDoor
open Go.RowKit
end Go.Proofs.YtieklhplalgmmaaGreatDoor
namespace Go.Proofs.YtieklhplalgmmaaGreatDoor
open Go.RowKit
end Go.Proofs.YtieklhplalgmmaaGreatDoor
namespace Go.Proofs.YtieklhplalgmmaaGreatDoor
open Go.RowKit
end Go.Proofs.YtieklhplalgmmaaGreatDoor
namespace Go.Proofs.YtieklhplalgmmaaGreatDoor
open Go.RowKit
end Go.Proofs.YtieklhplalgmmaaGreatDoor
namespace Go.Proofs.YtieklhplalgmmaaGreatDoor
open Go.RowKit
end Go.Proofs.YtieklhplalgmmaaGreatDoor
namespace Go.Proofs.YtieklhplalgmmaaGreatDoor
open Go.RowKit
end Go.Proofs.YtieklhplalgmmaaGreatDoor
namespace Go.Proofs.YtieklhplalgmmaaGreatDoor
open Go.RowKit
end Go.Proofs.YtieklhplalgmmaaGreatDoor
namespace Go.Proofs.YtieklhplalgmmaaGreatDoor
open Go.RowKit
def Bk (W : World) (b : Nat) (cs : Array Value) (T : TypeId) : Prop := W.heap[b]? = some (.cells cs T (0, 0))
theorem Bk.cell {W : World} {b : Nat} {cs : Array Value} {T : TypeId} (h : Bk W b cs T) (i : Nat) (v : Value) (hv : cs[i]? = some v) : W.cell? ⟨b, i, none⟩ = some v := by
  rw [cell_of_row _ _ _ _ _ _ h, hv]
theorem Bk.frz {W : World} {b : Nat} {cs : Array Value} {T : TypeId} (h : Bk W b cs T) (i : Nat) : W.frozen? ⟨b, i, none⟩ = false := by
  unfold Bk at h; simp [World.frozen?, h]
theorem Bk.lt {W : World} {b : Nat} {cs : Array Value} {T : TypeId} (h : Bk W b cs T) : b < W.heap.size := by
  unfold Bk at h
  rcases Nat.lt_or_ge b W.heap.size with h' | h'
  · exact h'
  · rw [Array.getElem?_eq_none h'] at h; cases h
theorem Bk.new (W : World) (cs : Array Value) (T : TypeId) : Bk (W.alloc (.cells cs T (0, 0))) W.heap.size cs T := heap_alloc_new _ _
theorem Bk.stay {W W' : World} {b : Nat} {cs : Array Value} {T : TypeId} (h : Bk W b cs T) (hb : Below W.heap.size W W') : Bk W' b cs T := (hb.block b h.lt).trans h
theorem below_new (w : World) (o : Obj) : Below w.heap.size w (w.alloc o) := (Below.refl _ _).alloc (Nat.le_refl _) _
def BP (b : Bool) (w : World) (e : Ending) (w' : World) : Prop := e = .returned (.bool b) ∧ Below w.heap.size w w'
end Go.Proofs.YtieklhplalgmmaaGreatDoor
namespace Go.Proofs.YtieklhplalgmmaaGreatDoor
open Go.RowKit
def argsS (l : List (ByteArray × VT)) : Prop := ∀ a ∈ l, a.2.bw ≤ 1048576
def dirsS (l : List DirT) : Prop := ∀ d ∈ l, argsS d.args
def inpsS (l : List InpT) : Prop := ∀ x ∈ l, x.dflt.bw ≤ 1048576 ∧ dirsS x.dirs ∧ x.tw.length ≤ 17592186044416
def fldsS (l : List FldT) : Prop := ∀ x ∈ l, inpsS x.args ∧ dirsS x.dirs ∧ x.tw.length ≤ 17592186044416
def memsS (l : List MemT) : Prop := ∀ x ∈ l, dirsS x.dirs
def defsS (l : List DefT) : Prop := ∀ x ∈ l, dirsS x.dirs ∧ inpsS x.inputs ∧ fldsS x.fields ∧ memsS x.members ∧ x.impl.length ≤ 17592186044416
end Go.Proofs.YtieklhplalgmmaaGreatDoor
