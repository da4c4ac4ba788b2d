
/-
  A region that draws its order, whose operations read or call what leaves older memory alone: one walk serves every order. Contracts of distinct (a set kept in a map) and of the reference's twice.
-/
import Derived.Test.YtcbajgcblfgmgaaDoorBase
import Derived.Maps.Own
import Derived.StringKeys
import Derived.Maps.OwnOps
import Derived.Maps.OwnSet
namespace Go.Proofs.YtcbajgcblfgmgaaDoor
open Go.RowKit
structure Past (W : World) where
  w : World
  b : Below W.heap.size W w
instance {W : World} : Nonempty (Past W) := ⟨⟨W, Below.refl _ _⟩⟩
theorem Past.le {W : World} (x : Past W) : W.heap.size ≤ x.w.heap.size := x.b.size
theorem Past.below {W : World} {B : Nat} (x : Past W) (h : B ≤ W.heap.size) : Below B W x.w := x.b.mono h
/- A contract that leaves older memory alone, met in a world of the class. -/
theorem past_of {P : Program} {W : World} {f : FuncId} {args : Array Value} {v : Value} (x : Past W) (h : Calls P f args x.w fun e w' => e = .returned v ∧ Below x.w.heap.size x.w w') :
    Calls P f args x.w fun e w'' => e = .returned v ∧ ∃ y : Past W, w'' = y.w :=
  h.mono fun _ _ ⟨he, hb⟩ => ⟨he, ⟨_, x.b.trans (hb.mono x.le)⟩, rfl⟩
theorem past_same {P : Program} {W : World} {f : FuncId} {args : Array Value} {v : Value} (x : Past W) (h : Calls P f args x.w fun e w' => e = .returned v ∧ x.w = w') :
    Calls P f args x.w fun e w'' => e = .returned v ∧ ∃ y : Past W, w'' = y.w :=
  h.mono fun _ _ ⟨he, hb⟩ => ⟨he, x, hb.symm⟩
theorem past_block {W : World} {b : Nat} {o : Obj} (h : W.heap[b]? = some o) (x : Past W) : x.w.heap[b]? = some o := by
  have hb : b < W.heap.size := by
    rcases Nat.lt_or_ge b W.heap.size with h' | h'
    · exact h'
    · rw [Array.getElem?_eq_none h'] at h; cases h
  exact (x.b.block b hb).trans h
/- What a box of a value is. -/
def Box (W : World) (b : Nat) (c0 c1 c2 c3 c4 : Value) : Prop := W.heap[b]? = some (.cells #[c0, c1, c2, c3, c4] 25 (0, 0))
theorem Box.cells {W : World} {b : Nat} {c0 c1 c2 c3 c4 : Value} (h : Box W b c0 c1 c2 c3 c4) :
    W.cell? ⟨b, 0, none⟩ = some c0 ∧ W.cell? ⟨b, 1, none⟩ = some c1 ∧ W.cell? ⟨b, 2, none⟩ = some c2 ∧ W.cell? ⟨b, 3, none⟩ = some c3 ∧ W.cell? ⟨b, 4, none⟩ = some c4 := by
  refine ⟨?_, ?_, ?_, ?_, ?_⟩ <;> rw [cell_of_row _ _ _ _ _ _ h] <;> rfl
theorem Box.past {W : World} {b : Nat} {c0 c1 c2 c3 c4 : Value} (h : Box W b c0 c1 c2 c3 c4) :
    (∀ x : Past W, x.w.cell? ⟨b, 0, none⟩ = some c0) ∧ (∀ x : Past W, x.w.cell? ⟨b, 1, none⟩ = some c1) ∧ (∀ x : Past W, x.w.cell? ⟨b, 2, none⟩ = some c2) ∧ (∀ x : Past W, x.w.cell? ⟨b, 3, none⟩ = some c3) ∧ (∀ x : Past W, x.w.cell? ⟨b, 4, none⟩ = some c4) := by
  have hx := fun x : Past W => Box.cells (W := x.w) (past_block h x)
  exact ⟨fun x => (hx x).1, fun x => (hx x).2.1, fun x => (hx x).2.2.1, fun x => (hx x).2.2.2.1, fun x => (hx x).2.2.2.2⟩
theorem Box.kept {W W' : World} {b : Nat} {c0 c1 c2 c3 c4 : Value} (h : Box W b c0 c1 c2 c3 c4) (hb : Below W.heap.size W W') : Box W' b c0 c1 c2 c3 c4 := past_block h ⟨W', hb⟩
theorem Box.new (W : World) (c0 c1 c2 c3 c4 : Value) : Box (W.alloc (.cells #[c0, c1, c2, c3, c4] 25 (0, 0))) W.heap.size c0 c1 c2 c3 c4 := heap_alloc_new _ _
theorem Box.alloc {W : World} {b : Nat} {c0 c1 c2 c3 c4 : Value} (h : Box W b c0 c1 c2 c3 c4) (o : Obj) : Box (W.alloc o) b c0 c1 c2 c3 c4 := h.kept ((Below.refl _ _).alloc (Nat.le_refl _) _)
theorem Box.set {W : World} {b : Nat} {c0 c1 c2 c3 c4 : Value} (h : Box W b c0 c1 c2 c3 c4) {p : Addr} (hp : b ≠ p.block) (u : Value) : Box (W.setCell p u) b c0 c1 c2 c3 c4 := (Below.heap_setCell W p u b hp).trans h
theorem Box.lt {W : World} {b : Nat} {c0 c1 c2 c3 c4 : Value} (h : Box W b c0 c1 c2 c3 c4) : b < W.heap.size := by
  unfold Box at h
  rcases Nat.lt_or_ge b W.heap.size with h' | h'
  · exact h'
  · rw [Array.getElem?_eq_none h'] at h; cases h
theorem Box.two (w : World) (c0 c1 c2 c3 c4 d0 d1 d2 d3 d4 : Value) : let W := (w.alloc (.cells #[c0, c1, c2, c3, c4] 25 (0, 0))).alloc (.cells #[d0, d1, d2, d3, d4] 25 (0, 0))
    Box W w.heap.size c0 c1 c2 c3 c4 ∧ Box W (w.heap.size + 1) d0 d1 d2 d3 d4 ∧ Below w.heap.size w W := by
  refine ⟨(Box.new _ _ _ _ _ _).alloc _, ?_, ((Below.refl _ _).alloc (Nat.le_refl _) _).alloc (by simp) _⟩
  have := Box.new (w.alloc (.cells #[c0, c1, c2, c3, c4] 25 (0, 0))) d0 d1 d2 d3 d4
  simpa using this
theorem C5.past {W : World} {a : Addr} {c0 c1 c2 c3 c4 : Value} {v : Value} (h : C5 W a v) (e : v = .agg #[c0, c1, c2, c3, c4]) (ha : a.block < W.heap.size) :
    (∀ x : Past W, x.w.cell? a = some c0) ∧ (∀ x : Past W, x.w.cell? ⟨a.block, a.off + 1, none⟩ = some c1) ∧ (∀ x : Past W, x.w.cell? ⟨a.block, a.off + 2, none⟩ = some c2) ∧ (∀ x : Past W, x.w.cell? ⟨a.block, a.off + 3, none⟩ = some c3) ∧ (∀ x : Past W, x.w.cell? ⟨a.block, a.off + 4, none⟩ = some c4) := by
  subst e
  have hx := fun x : Past W => h.kept ha x.b
  refine ⟨fun x => ?_, fun x => ?_, fun x => ?_, fun x => ?_, fun x => ?_⟩
  all_goals
    obtain ⟨d0, d1, d2, d3, d4, e, h0, h1, h2, h3, h4⟩ := hx x
    simp only [Value.agg.injEq, Array.mk.injEq, List.cons.injEq, and_true] at e
    obtain ⟨rfl, rfl, rfl, rfl, rfl⟩ := e
    assumption
/- THE STEP: the region in the class. 'F': what is known of the world at the region's head. -/
theorem wp_region_past {id : Nat} {Q : Exit → Act → World → Prop} {a : Act} {w : World} {l : List Oper} (F : World → Prop) (hF : F w) (hB : Region.lexB .any l.toArray = true)
    (h : ∀ W, F W → Below w.heap.size w W → wpQuiet Tryd.prog l.toArray (fun w' => ∃ x : Past W, w' = x.w) (fun a' => ∀ w', (∃ x : Past W, w' = x.w) → Q .normal a' w') l a) : (Code.region id l.toArray true).wp Tryd.prog Q a w :=
  wp_region_quiet (C := fun w' => ∃ x : Past w, w' = x.w) (by kernel_rfl) hB ⟨⟨_, (Below.refl _ _).drew⟩, rfl⟩ (by simpa using h w hF (Below.refl _ _))
/- A list of one value that lies in a block of its own. -/
theorem Rd.list1 {W : World} {B b : Nat} {c0 c1 c2 c3 c4 : Value} {t : VT} (hx : Box W b c0 c1 c2 c3 c4) (hb : b < B) (hr : Rd W B (.agg #[c0, c1, c2, c3, c4]) t) :
    Rd W B (.agg #[.int .i64 5, .int .i64 0, .string ⟨#[]⟩, .slice (some ⟨b, 0, none⟩) 1 1, .slice none 0 0]) (.mk 5 0 ⟨#[]⟩ [t] []) := by
  obtain ⟨x0, x1, x2, x3, x4⟩ := hx.cells
  refine .mk (fun _ => .agg #[c0, c1, c2, c3, c4]) (by unfold small; omega) (by unfold small; omega) (by decide) (by simp) rfl rfl (by decide) (by decide) (fun _ => ⟨_, rfl, hb, fun i hi => ?_⟩) (fun i u hu => ?_) (fun h => by simp at h)
  · obtain rfl : i = 0 := by omega
    exact ⟨_, _, _, _, _, rfl, x0, x1, x2, x3, x4⟩
  · cases i with
    | zero => simp at hu; subst hu; exact hr
    | succ j => simp at hu
end Go.Proofs.YtcbajgcblfgmgaaDoor
namespace Go.Proofs.YtcbajgcblfgmgaaDoor
open Go.RowKit Go.Maps
theorem run_makeMap_hint {P : Program} (t k e : TypeId) (kd : IntKind) (n : Int) (ht : P.underlying t = some (.map k e)) (w : World) :
    (Instr.makeMap t (some (.int kd n))).run P w = .ok (.map (some w.heap.size)) (w.alloc (.map #[] 0)) := by
  simp [Instr.makeMap, run_underlying ht]; rfl
theorem plainElem_bool_inv {H : Type} {P : Program} {e : TypeId} (he : P.underlying e = some .bool) {v : Value} {z : DataW H × List MemPlace} (h : plainElem P e v = some z) : ∃ x, v = .bool x ∧ z = (.lit (.bool x), []) := by
  unfold plainElem at h
  rw [he] at h
  cases v <;> simp at h
  exact ⟨_, rfl, h.symm⟩
theorem at_fold {H : Type} (u z : DataW H) (k : Lit) : ∀ (acc : List Lit) (m : DataW H), IsMap m → (∀ x ∈ acc, WideAt.IsKeyLit x) → (acc.foldl (fun m x => m.put x u) m).atKey k z = if acc.any (fun x => x.sameKey k) then u else m.atKey k z
  | [], m, _, _ => by simp
  | x :: r, m, hm, h => by
    rw [List.foldl_cons, at_fold u z k r (m.put x u) (hm.put x u) (fun y hy => h y (by simp [hy])), List.any_cons]
    by_cases e : k = x
    · subst e
      rw [atKey_put_same hm (h k (by simp)), WideAt.sameKey_self (h k (by simp))]
      simp
    · rw [atKey_put_other e, sameKey_ne (fun e' => e e'.symm)]
      simp
instance decBA : DecidableEq ByteArray := fun a b => decidable_of_iff (a.data = b.data) ⟨fun h => by cases a; cases b; simp at h; subst h; rfl, fun h => by rw [h]⟩
instance memBA (s : ByteArray) (l : List ByteArray) : Decidable (s ∈ l) := decidable_of_iff (l.any (fun a => decide (a = s)) = true) (by simp)
def lits (l : List ByteArray) : List Lit := l.map fun s => .string s.data.toList
def setD (l : List ByteArray) : DataW Unit := setOf (.lit (.bool true)) (lits l)
theorem lit_inj {a b : ByteArray} : (Lit.string a.data.toList = Lit.string b.data.toList) ↔ a = b := by
  constructor
  · intro h
    injection h with h
    obtain ⟨a⟩ := a; obtain ⟨b⟩ := b
    simp only [ByteArray.mk.injEq]
    exact Array.toList_inj.1 h
  · rintro rfl; rfl
theorem key_lit (s : ByteArray) : WideAt.IsKeyLit (.string s.data.toList) := by first | exact trivial | simp [WideAt.IsKeyLit]
theorem any_lits (l : List ByteArray) (s : ByteArray) : (lits l).any (fun x => x.sameKey (.string s.data.toList)) = decide (s ∈ l) := by
  unfold lits
  induction l with
  | nil => simp
  | cons a r ih =>
    rw [List.map_cons, List.any_cons, ih]
    by_cases e : a = s
    · subst e; rw [WideAt.sameKey_self (key_lit a)]; simp
    · rw [sameKey_ne (fun h => e (lit_inj.1 h))]
      have e2 : ¬ s = a := fun h => e h.symm
      simp [e2]
theorem setD_at (l : List ByteArray) (s : ByteArray) : (setD l).atKey (.string s.data.toList) (.lit (.bool false)) = .lit (.bool (decide (s ∈ l))) := by
  unfold setD setOf
  rw [at_fold _ _ _ _ _ isMap_empty (fun x hx => by obtain ⟨s, _, rfl⟩ := List.mem_map.1 hx; exact key_lit s), any_lits]
  by_cases h : s ∈ l
  · simp [h]
  · simp [h, DataW.atKey]
theorem setD_snoc (l : List ByteArray) (s : ByteArray) : setD (l ++ [s]) = (setD l).put (.string s.data.toList) (.lit (.bool true)) := by
  unfold setD lits; rw [List.map_append]; exact setOf_snoc _ _ _
theorem nodup_snoc {l : List ByteArray} {k : Nat} (h : k < l.length) : (l.take (k + 1)).Nodup ↔ (l.take k).Nodup ∧ l[k] ∉ l.take k := by
  rw [List.take_succ_eq_append_getElem h, List.nodup_append]
  constructor
  · rintro ⟨h1, _, h3⟩
    exact ⟨h1, fun hm => h3 _ hm _ (by simp) rfl⟩
  · rintro ⟨h1, h2⟩
    exact ⟨h1, by simp, fun a ha b hb => by simp at hb; subst hb; exact fun e => h2 (e ▸ ha)⟩
theorem nodup_take {l : List ByteArray} {k : Nat} (h : l.Nodup) : (l.take k).Nodup := h.sublist (List.take_sublist _ _)
theorem wpList_lookup_own_bool {H : Type} {P : Program} (w : World) {ops : Array Oper} {rest : List Oper} {o : Oper} {a : Act} {Q : Exit → Act → World → Prop}
    (hg : o.guard = none) (m x : Operand) (t : TypeId) (hop : o.op = Op.lookup t m x false)
    (k e : TypeId) (K : Keyed P k) (ht : P.underlying t = some (.map k e)) (he : P.underlying e = some .bool) (hz : (zeroValue e).run P w = .ok (.bool false) w) (b n : Nat) (D : DataW H)
    (hm : a.eval m = .map (some b)) (hown : w.ownsMap P k (plainElem P e) b n D) (key : Value) (kl : Lit) (hx : a.eval x = key) (hkey : keyOf P k key = some kl)
    (y : Bool) (hy : D.atKey kl (.lit (.bool false)) = .lit (.bool y)) (hK : wpList P ops Q rest (a.put o.dst (.bool y)) w) :
    wpList P ops Q (o :: rest) a w := by
  refine wpList_plain hg fun K' hK' => ?_
  obtain ⟨v, ps, hrun, hv⟩ := hown.lookup K ht hz (plainElem_bool he false) hkey
  obtain ⟨c, rfl, hc⟩ := plainElem_bool_inv he hv
  simp only [Prod.mk.injEq] at hc
  rw [hy] at hc
  obtain ⟨hc, _⟩ := hc
  injection hc with hc
  injection hc with hc
  subst hc
  unfold Oper.wp
  simp [execOp, hop, hm, hx, hrun, Result.andThen]
  exact hK' _ _ hK
theorem keyLaw : Keyed Tryd.prog 9 := string_keyed Tryd.underlying9
theorem zeroB (w : World) : (zeroValue 4).run Tryd.prog w = .ok (.bool false) w := by kernel_rfl
set_option maxHeartbeats 1000000 in
theorem distinct_any (K : Option Addr) (lk ck : Nat) (keys : List ByteArray) (w : World) (B : Nat) (hlk : keys.length = lk) (hbk : lk * 16 ≤ 140737488351232) (hks : ∀ s ∈ keys, s.size ≤ 140737488351232) (hK : KeysAt w B K keys) (hB : B ≤ w.heap.size) :
    Calls Tryd.prog 54 #[.slice K lk ck] w fun e w' => e = .returned (.bool (decide keys.Nodup)) ∧ Below w.heap.size w w' := by
  have HL := Lib.hid hlk
  have HS := Lib.hid hks
  have HK := Lib.hid hK
  clear hlk hks hK
  have hmk := fun w => run_makeMap_hint (P := Tryd.prog) 74 9 4 .i64 lk Tryd.underlying74 w
  go_enter Tryd.func54, Tryd.ntmps54
  go_wp2_with fail
  clear hmk
  go_loopw [11] (fun i wr => ∃ j : Nat, j ≤ lk ∧ i = .int .i64 j ∧ (keys.take j).Nodup ∧ wr.ownsMap Tryd.prog 9 (plainElem Tryd.prog 4) w.heap.size j (setD (keys.take j)) ∧ Below w.heap.size w wr) (fun i _ => lk - (intOf i).toNat)
  case atStart => exact ⟨0, Nat.zero_le _, rfl, List.nodup_nil, World.ownsMap_made _ _ _ _, (Below.refl _ _).alloc (Nat.le_refl _) _⟩
  case round =>
    obtain ⟨j, hj, rfl, hnd, hown, hb⟩ := hrel
    have HND := Lib.hid hnd
    have HOWN := Lib.hid hown
    have HB := Lib.hid hb
    clear hnd hown
    have hlm : (lk : Int) ≤ 140737488351232 := by omega
    by_cases hlt : j < lk
    · obtain ⟨a, rfl, hab, hc⟩ := HK.out (by have := HL.out; omega)
      have hjl : j < keys.length := by have := HL.out; omega
      have hcell := (hb.cell (p := a.add j) (by rw [add_block]; omega)).trans (hc j _ (List.getElem?_eq_getElem hjl))
      have hsz := HS.out _ (List.getElem_mem hjl)
      have HSN := Lib.hid (nodup_snoc hjl)
      have HTK : Hid (keys.take (j + 1) = keys.take j ++ [keys[j]]) := Lib.hid (List.take_succ_eq_append_getElem hjl)
      generalize keys[j] = s at *
      have hat := setD_at (keys.take j) s
      have HAT := Lib.hid hat
      clear hat hc hb
      by_cases hm : s ∈ keys.take j
      · have hy : decide (s ∈ keys.take j) = true := by simpa using hm
        rw [hy] at HAT
        have HNO : Hid (decide keys.Nodup = false) := Lib.hid (by
          simp only [decide_eq_false_iff_not]
          intro h
          exact (HSN.out.1 (nodup_take h)).2 hm)
        clear hm hy
        go_wp2_with (at_lookup; refine wpList_lookup_own_bool _ rfl _ _ 74 rfl 9 4 keyLaw Tryd.underlying74 Tryd.underlying4 (zeroB _) w.heap.size j _ rfl HOWN.out _ _ rfl (WideMaps.keyOf_string_mk Tryd.underlying9 (by unfold maxLen; omega)) _ HAT.out ?_)
        go_ret
        exact ⟨by rw [HNO.out]; rfl, HB.out⟩
      · have hy : decide (s ∈ keys.take j) = false := by simpa using hm
        rw [hy] at HAT
        have HND1 : Hid (keys.take (j + 1)).Nodup := Lib.hid (HSN.out.2 ⟨HND.out, hm⟩)
        clear hm hy
        go_wp2_with (first
          | (at_lookup; refine wpList_lookup_own_bool _ rfl _ _ 74 rfl 9 4 keyLaw Tryd.underlying74 Tryd.underlying4 (zeroB _) w.heap.size j _ rfl HOWN.out _ _ rfl (WideMaps.keyOf_string_mk Tryd.underlying9 (by unfold maxLen; omega)) _ HAT.out ?_)
          | (at_mapUpdate; refine wpList_mapUpdate_own _ rfl _ _ _ 74 rfl 9 4 keyLaw Tryd.underlying74 _ w.heap.size j _ rfl HOWN.out (by unfold maxLen; omega) _ _ _ rfl rfl (WideMaps.keyOf_string_mk Tryd.underlying9 (by unfold maxLen; omega)) _ [] (plainElem_bool Tryd.underlying4 true) ?_; intro w1 hown1 hgrow1))
        go_roundw
        case rel => exact ⟨j + 1, by omega, by go_num, HND1.out, by rw [HTK.out, setD_snoc]; exact hown1, HB.out.grown hgrow1 HB.out.size (fun k e => by cases e; exact Nat.le_refl _)⟩
        case measure => simp [intOf]; omega
    · have HJ : Hid (decide keys.Nodup = true) := Lib.hid (by
        have := HND.out
        rw [List.take_of_length_le (by have := HL.out; omega)] at this
        simpa using this)
      clear hb
      go_wp2_with fail
      go_ret
      exact ⟨by rw [HJ.out]; rfl, HB.out⟩
end Go.Proofs.YtcbajgcblfgmgaaDoor
