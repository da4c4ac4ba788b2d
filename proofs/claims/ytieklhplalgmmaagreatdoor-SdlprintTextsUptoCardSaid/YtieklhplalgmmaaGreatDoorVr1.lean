
/-
  Texts joined: Base Val Open Wit Kit TextChars TextQuote Shelf TextNumber Laid Name Past.
-/
import Derived.Test.YtieklhplalgmmaaGreatDoorProg
import Derived.WalkKit
import Derived.ProofKit
import Derived.Outline
import Derived.WalkSpells
import Derived.WalkLawsBesides
import Derived.Deep.QuietTactic
import Derived.BigQuiet
import Derived.StillTailTactics
import Derived.Lib.Hide
import Derived.Lib.Strings
import Derived.Deep.AppendLies
import Derived.Deep.RegionLaw
import Derived.ChangeAlike
import Derived.Deep.MidRow
import Derived.ChangeArms
import Derived.Deep.Strs
import Derived.SizedLaws
import Derived.ChangeMaps
import Derived.WideShapes
import Derived.OpenShut
import Derived.Test.YtieklhplalgmmaaGreatDoorRows
import Derived.ChangeSame
import Derived.JoinedOf
import Derived.JoinedAt
import Derived.RowKit
import Derived.RowKit2
import Derived.ReadAgain
import Derived.Carry
import Derived.Shelf.Strings.Builder1
import Derived.Shelf.Strings.Builder2
import Derived.Shelf.Strings.OnBuilder
import Derived.Shelf.Small.Strs
import Derived.Shelf.Small.Wraps
import Derived.Shelf.Strings.BuilderF
import Derived.Shelf.Strings.BuilderK
import Derived.Shelf.Strings.Builder2Cap
import Derived.Shelf.Strconv.Itoa0
import Derived.Shelf.Strconv.Itoa1
import Derived.Shelf.LaysM
import Derived.Shelf.Strconv.Itoa2
import Derived.Shelf.Strconv.Itoa3
import Derived.Shelf.Strings.Prefix
import Derived.Shelf.Bits.Mul64
import Derived.Shelf.Strings.Repeat
import Derived.Shelf.Strings.BuilderCap
import Derived.Shelf.Slices.Equal
import Derived.Shelf.Slices.Empties2
import Derived.WalkSmall
import Derived.Lib.AppendIntMem
import Derived.Lib.AtoiErrMem
import Derived.Test.YtieklhplalgmmaaGreatDoorCards
import Derived.Test.YtieklhplalgmmaaGreatDoorTie
import Derived.Deep.DeepWitnessRowRef
import Derived.Stop.LaidErr
namespace Go.Proofs.YtieklhplalgmmaaGreatDoor
open Go.RowKit
theorem cell_new (w : World) (xs : Array Value) (t : TypeId) (j : Nat) (h : j < xs.size) : (w.alloc (.cells xs t)).cell? ((⟨w.heap.size, 0, none⟩ : Addr).add j) = some xs[j] := by
  have e : (⟨w.heap.size, 0, none⟩ : Addr).add j = ⟨w.heap.size, j, none⟩ := by
    unfold Addr.add; split <;> simp_all
  rw [e, World.cell?_alloc_at _ _ _ _ rfl, Array.getElem?_eq_getElem h]
theorem take_snoc (l : List UInt8) (k : Nat) (h : k < l.length) : l.take (k + 1) = l.take k ++ [l[k]] := by
  rw [List.take_succ_eq_append_getElem h]
theorem size_eq (s : ByteArray) : s.data.toList.length = s.size := by rw [Array.length_toList]; rfl
theorem ne_nil_of {s : ByteArray} (h : 0 < s.size) : s.toList ≠ [] := by
  rw [Lib.toList_data]; intro e
  have := congrArg List.length e
  rw [size_eq, List.length_nil] at this; omega
theorem isEmpty_of {s : ByteArray} (h : 0 < s.size) : s.toList.isEmpty = false := by
  have := ne_nil_of h
  cases e : s.toList with
  | nil => exact absurd e this
  | cons => rfl
theorem nil_of {s : ByteArray} (h : s.size = 0) : s.toList = [] := by
  rw [Lib.toList_data]; have := size_eq s; exact List.eq_nil_of_length_eq_zero (by omega)
theorem byte_lt (c : UInt8) : (c.toNat : Int) ≤ 255 := by have := c.toNat_lt; omega
theorem cells_L (w : World) (xs : Array Value) (t : TypeId) (news : List Value) (hx : xs = news.toArray) :
    ∀ j u, news[j]? = some u → (w.alloc (.cells xs t)).drew.cell? ((⟨w.heap.size, 0, none⟩ : Addr).add j) = some u := by
  intro j u h
  obtain ⟨h1, rfl⟩ := List.getElem?_eq_some_iff.1 h
  subst hx
  have := cell_new w news.toArray t j (by simpa using h1)
  simpa using this
theorem u8_ne {c d : UInt8} (h : c ≠ d) : ((c.toNat : Int) == (d.toNat : Int)) = false := by
  rw [beq_eq_false_iff_ne]; intro e; exact h (UInt8.toNat_inj.1 (by omega))
end Go.Proofs.YtieklhplalgmmaaGreatDoor
namespace Go.Proofs.YtieklhplalgmmaaGreatDoor
open Go.RowKit
inductive VT where
  | mk (k n : Int) (s : ByteArray) (items : List VT) (keys : List ByteArray)
mutual
def VT.size : VT → Nat
  | .mk _ _ _ is _ => 1 + VT.sizes is
def VT.sizes : List VT → Nat
  | [] => 0
  | t :: r => t.size + VT.sizes r
end
mutual
def VT.depth : VT → Nat
  | .mk _ _ _ is _ => 1 + VT.depths is
def VT.depths : List VT → Nat
  | [] => 0
  | t :: r => max t.depth (VT.depths r)
end
theorem VT.ind {P : VT → Prop} (h : ∀ k n s is ks, (∀ (i : Nat) (t : VT), is[i]? = some t → P t) → P (.mk k n s is ks)) (t : VT) : P t :=
  VT.rec (motive_1 := P) (motive_2 := fun l => ∀ (i : Nat) (t : VT), l[i]? = some t → P t) (fun k n s is ks ih => h k n s is ks ih)
    (fun i t hi => by simp at hi) (fun x r hx hr i t hi => by
      cases i with
      | zero => simp at hi; subst hi; exact hx
      | succ j => exact hr j t (by simpa using hi)) t
def C5 (w : World) (a : Addr) (v : Value) : Prop := ∃ c0 c1 c2 c3 c4, v = .agg #[c0, c1, c2, c3, c4] ∧ w.cell? a = some c0 ∧ w.cell? ⟨a.block, a.off + 1, none⟩ = some c1 ∧ w.cell? ⟨a.block, a.off + 2, none⟩ = some c2 ∧ w.cell? ⟨a.block, a.off + 3, none⟩ = some c3 ∧ w.cell? ⟨a.block, a.off + 4, none⟩ = some c4
def KeysAt (w : World) (B : Nat) (K : Option Addr) (keys : List ByteArray) : Prop :=
  0 < keys.length → ∃ a, K = some a ∧ a.block < B ∧ ∀ i s, keys[i]? = some s → w.cell? (a.add i) = some (.string s)
def small (k : Int) : Prop := -9223372036854775808 ≤ k ∧ k ≤ 9223372036854775807
inductive Rd (w : World) (B : Nat) : Value → VT → Prop
  | mk {k n : Int} {s : ByteArray} {A : Option Addr} {li ci : Nat} {K : Option Addr} {lk ck : Nat} {items : List VT} {keys : List ByteArray} (V : Nat → Value)
      (hk : small k) (hn : small n) (hs : s.size ≤ 140737488351232) (hks : ∀ s ∈ keys, s.size ≤ 140737488351232)
      (hli : items.length = li) (hlk : keys.length = lk) (hbi : li * 80 ≤ 140737488351232) (hbk : lk * 16 ≤ 140737488351232 ∧ lk ≤ ck)
      (hA : 0 < li → ∃ a, A = some a ∧ a.block < B ∧ ∀ i, i < li → C5 w (a.add (i * 5)) (V i))
      (hr : ∀ (i : Nat) (t : VT), items[i]? = some t → Rd w B (V i) t)
      (hK : KeysAt w B K keys) :
      Rd w B (.agg #[.int .i64 k, .int .i64 n, .string s, .slice A li ci, .slice K lk ck]) (.mk k n s items keys)
theorem add_block (a : Addr) (n : Nat) : (a.add n).block = a.block := by unfold Addr.add; split <;> rfl
theorem C5.kept {w w' : World} {B : Nat} {a : Addr} {v : Value} (h : C5 w a v) (ha : a.block < B) (hb : Below B w w') : C5 w' a v := by
  obtain ⟨c0, c1, c2, c3, c4, e, h0, h1, h2, h3, h4⟩ := h
  exact ⟨c0, c1, c2, c3, c4, e, (hb.cell ha).trans h0, (hb.cell (p := ⟨a.block, a.off + 1, none⟩) ha).trans h1, (hb.cell (p := ⟨a.block, a.off + 2, none⟩) ha).trans h2, (hb.cell (p := ⟨a.block, a.off + 3, none⟩) ha).trans h3, (hb.cell (p := ⟨a.block, a.off + 4, none⟩) ha).trans h4⟩
theorem KeysAt.kept {w w' : World} {B : Nat} {K : Option Addr} {keys : List ByteArray} (h : KeysAt w B K keys) (hb : Below B w w') : KeysAt w' B K keys := by
  intro hl
  obtain ⟨a, e, ha, hc⟩ := h hl
  exact ⟨a, e, ha, fun i s hi => (hb.cell (by rw [add_block]; exact ha)).trans (hc i s hi)⟩
theorem Rd.kept {w w' : World} {B : Nat} {v : Value} {t : VT} (h : Rd w B v t) (hb : Below B w w') : Rd w' B v t := by
  induction h with
  | mk V hk hn hs hks hli hlk hbi hbk hA hr hK ih =>
    refine .mk V hk hn hs hks hli hlk hbi hbk (fun h0 => ?_) ih (hK.kept hb)
    obtain ⟨a, e, ha, hc⟩ := hA h0
    exact ⟨a, e, ha, fun i hi => (hc i hi).kept (by rw [add_block]; exact ha) hb⟩
theorem Rd.mono {w : World} {B B' : Nat} {v : Value} {t : VT} (h : Rd w B v t) (hb : B ≤ B') : Rd w B' v t := by
  induction h with
  | mk V hk hn hs hks hli hlk hbi hbk hA hr hK ih =>
    refine .mk V hk hn hs hks hli hlk hbi hbk (fun h0 => ?_) ih (fun h0 => ?_)
    · obtain ⟨a, e, ha, hc⟩ := hA h0
      exact ⟨a, e, by omega, hc⟩
    · obtain ⟨a, e, ha, hc⟩ := hK h0
      exact ⟨a, e, by omega, hc⟩
theorem Rd.cells {w w' : World} {B : Nat} {v : Value} {t : VT} {a : Addr} (h : Rd w B v t) (hc : C5 w' a v) :
    ∃ (k n : Int) (s : ByteArray) (A : Option Addr) (li ci : Nat) (K : Option Addr) (lk ck : Nat), v = .agg #[.int .i64 k, .int .i64 n, .string s, .slice A li ci, .slice K lk ck] ∧
      w'.cell? a = some (.int .i64 k) ∧ w'.cell? ⟨a.block, a.off + 1, none⟩ = some (.int .i64 n) ∧ w'.cell? ⟨a.block, a.off + 2, none⟩ = some (.string s) ∧
      w'.cell? ⟨a.block, a.off + 3, none⟩ = some (.slice A li ci) ∧ w'.cell? ⟨a.block, a.off + 4, none⟩ = some (.slice K lk ck) := by
  cases h with
  | mk V hk hn hs hks hli hlk hbi hbk hA hr hK =>
    obtain ⟨c0, c1, c2, c3, c4, e, h0, h1, h2, h3, h4⟩ := hc
    simp only [Value.agg.injEq, Array.mk.injEq, List.cons.injEq, and_true] at e
    obtain ⟨rfl, rfl, rfl, rfl, rfl⟩ := e
    exact ⟨_, _, _, _, _, _, _, _, _, rfl, h0, h1, h2, h3, h4⟩
theorem items_at {items : List VT} {li j : Nat} (hli : items.length = li) (hj : j < li) : ∃ t, items[j]? = some t := ⟨items[j]'(by omega), List.getElem?_eq_getElem (by omega)⟩
theorem sizes_take (l : List VT) (k : Nat) (t : VT) (h : l[k]? = some t) : VT.sizes (l.take (k+1)) = VT.sizes (l.take k) + t.size := by
  induction l generalizing k with
  | nil => simp at h
  | cons x r ih =>
    cases k with
    | zero => simp at h; subst h; simp [VT.sizes]
    | succ j => simp only [List.take_succ_cons, VT.sizes]; rw [ih j (by simpa using h)]; omega
theorem sizes_take_le (l : List VT) (k : Nat) : VT.sizes (l.take k) ≤ VT.sizes l := by
  induction l generalizing k with
  | nil => simp
  | cons x r ih =>
    cases k with
    | zero => simp [VT.sizes]
    | succ j => simp only [List.take_succ_cons, VT.sizes]; have := ih j; omega
theorem round_at {w wr : World} {B li j : Nat} {A : Option Addr} {V : Nat → Value} {items : List VT} (hA : 0 < li → ∃ a, A = some a ∧ a.block < B ∧ ∀ i, i < li → C5 w (a.add (i * 5)) (V i))
    (hR : ∀ (i : Nat) (t : VT), items[i]? = some t → Rd w B (V i) t) (hli : items.length = li) (hb : Below B w wr) (hj : j < li) :
    ∃ (a : Addr) (t : VT) (k n : Int) (s : ByteArray) (A1 : Option Addr) (l1 c1 : Nat) (K : Option Addr) (lk ck : Nat), A = some a ∧ items[j]? = some t ∧ V j = .agg #[.int .i64 k, .int .i64 n, .string s, .slice A1 l1 c1, .slice K lk ck] ∧ Rd wr B (V j) t ∧
      wr.cell? (a.add (j * 5)) = some (.int .i64 k) ∧ wr.cell? ⟨(a.add (j * 5)).block, (a.add (j * 5)).off + 1, none⟩ = some (.int .i64 n) ∧ wr.cell? ⟨(a.add (j * 5)).block, (a.add (j * 5)).off + 2, none⟩ = some (.string s) ∧
      wr.cell? ⟨(a.add (j * 5)).block, (a.add (j * 5)).off + 3, none⟩ = some (.slice A1 l1 c1) ∧ wr.cell? ⟨(a.add (j * 5)).block, (a.add (j * 5)).off + 4, none⟩ = some (.slice K lk ck) := by
  obtain ⟨a, e, ha, hc⟩ := hA (by omega)
  obtain ⟨t, ht⟩ := items_at hli hj
  have hrd := (hR j t ht).kept hb
  obtain ⟨k, n, s, A1, l1, c1, K, lk, ck, e1, h⟩ := hrd.cells ((hc j hj).kept (by rw [add_block]; exact ha) hb)
  exact ⟨a, t, k, n, s, A1, l1, c1, K, lk, ck, e, ht, e1, hrd, h⟩
theorem depths_take (l : List VT) (k : Nat) (t : VT) (h : l[k]? = some t) : VT.depths (l.take (k+1)) = max (VT.depths (l.take k)) t.depth := by
  induction l generalizing k with
  | nil => simp at h
  | cons x r ih =>
    cases k with
    | zero => simp at h; subst h; simp [VT.depths]
    | succ j => simp only [List.take_succ_cons, VT.depths]; rw [ih j (by simpa using h)]; omega
theorem depths_take_le (l : List VT) (k : Nat) : VT.depths (l.take k) ≤ VT.depths l := by
  induction l generalizing k with
  | nil => simp
  | cons x r ih =>
    cases k with
    | zero => simp [VT.depths]
    | succ j => simp only [List.take_succ_cons, VT.depths]; have := ih j; omega
mutual
theorem VT.depth_le (t : VT) : t.depth ≤ t.size := by
  cases t with
  | mk k n s is ks => simp only [VT.depth, VT.size]; have := VT.depths_le is; omega
theorem VT.depths_le (l : List VT) : VT.depths l ≤ VT.sizes l := by
  cases l with
  | nil => simp [VT.depths]
  | cons t r => simp only [VT.depths, VT.sizes]; have := VT.depth_le t; have := VT.depths_le r; omega
end
end Go.Proofs.YtieklhplalgmmaaGreatDoor
namespace Go.Proofs.YtieklhplalgmmaaGreatDoor
open Go.RowKit Go.ChangeShapes Go.WideShapes
theorem cellsV : Tryz.prog.cellsOf 45 = 5 := by kernel_rfl
theorem cellsS : Tryz.prog.cellsOf 9 = 1 := by kernel_rfl
theorem bytesV : Tryz.prog.bytesOf 45 = 80 := by kernel_rfl
theorem bytesS : Tryz.prog.bytesOf 9 = 16 := by kernel_rfl
theorem cellsI : Tryz.prog.cellsOf 3 = 1 := by kernel_rfl
theorem cellsLV : Tryz.prog.cellsOf 43 = 1 := by kernel_rfl
theorem cellsLS : Tryz.prog.cellsOf 29 = 1 := by kernel_rfl
section
variable {H : Type} {enc : TypeId × Value → H} {w : World} {spare : Nat → Bool} {held : Bool}
theorem lt_cell {a : Addr} {v : Value} (h : w.cell? a = some v) : a.block < w.heap.size := by
  unfold World.cell? at h
  rcases Nat.lt_or_ge a.block w.heap.size with h' | h'
  · exact h'
  · rw [Array.getElem?_eq_none h'] at h; simp at h
theorem weights_all {e : TypeId} : ∀ {l : List (DataW H)} {d : DataW H}, d ∈ l → ∀ n ∈ d.weights Tryz.prog e, n ∈ DataW.weightsAll Tryz.prog e l
  | [], _, h, _, _ => by simp at h
  | x :: r, d, h, n, hn => by
    rw [DataW.weightsAll, List.mem_append]
    rcases List.mem_cons.1 h with rfl | h
    · exact .inl hn
    · exact .inr (weights_all h n hn)
theorem small_of {n : Int} (wf : (Lit.int .i64 n).wf = true) : small n := by
  exact bounds_i64 wf
end
end Go.Proofs.YtieklhplalgmmaaGreatDoor
namespace Go.Proofs.YtieklhplalgmmaaGreatDoor
open Go.ChangeShapes Go.WideShapes Go.ChangeAt Go.RowKit
theorem own : ownKnob Tryz.prog.godebug = none := by kernel_rfl
theorem laidOut : laidOutB Tryz.prog = true := by kernel_rfl
end Go.Proofs.YtieklhplalgmmaaGreatDoor
namespace Go.Proofs.YtieklhplalgmmaaGreatDoor.T1
open Go.RowKit
theorem info5 : (Tryz.prog.info? 5).map (fun i => (i.zero, i.size, i.bytes)) = some (some (.int .u8 0), 1, 1) := by kernel_rfl
def OwnB (w : World) (base : Nat) (v : Value) (l : List UInt8) : Prop := w.ownsRow base 5 1 v l.length (l.map fun c => .int .u8 (c.toNat : Int))
theorem OwnB.alloc {w : World} {base : Nat} {v : Value} {l : List UInt8} (h : OwnB w base v l) (o : Obj) : OwnB (w.alloc o) base v l := World.ownsRow.alloc h o
theorem OwnB.drew {w : World} {base : Nat} {v : Value} {l : List UInt8} (h : OwnB w base v l) : OwnB w.drew base v l := World.ownsRow.drew h
theorem append_B {w : World} {ops : Array Oper} {rest : List Oper} {o : Oper} {a : Act} {Q : Exit → Act → World → Prop} (hgd : o.guard = none) (s x : Operand)
    (ho : o.op = .call { callee := .builtin .append, args := #[s, x], argTypes := #[48, 48] }) (base : Nat) (v : Value) (l : List UInt8) (hs : a.eval s = v) (hown : OwnB w base v l)
    (ad : Addr) (c : Nat) (news : List UInt8) (hx : a.eval x = .slice (some ad) news.length c) (hnews : ∀ j (h : j < news.length), w.cell? (ad.add j) = some (.int .u8 (news[j].toNat : Int)))
    (hlen : l.length + news.length ≤ 70368744177664) (hbase : base ≤ w.heap.size)
    (h : ∀ v' w', OwnB w' base v' (l ++ news) → w.grownBy w' v.ownBlock → wpList Tryz.prog ops Q rest (a.put o.dst v') w') : wpList Tryz.prog ops Q (o :: rest) a w := by
  obtain ⟨i0, hi, hz0, hz1, hz2⟩ := info_parts info5
  refine wpList_append_own w hgd s x 48 ho base 5 i0 (.int .u8 0) 1 1 Tryz.underlying48 hi hz0 hz1 hz2 rfl (by decide) v l.length (l.map fun c : UInt8 => .int .u8 (c.toNat : Int)) hs hown ad news.length c (news.map fun c : UInt8 => .int .u8 (c.toNat : Int)) hx (by simp) ?_ ?_ (by unfold maxLen; omega) (by omega) hbase ?_
  · intro j u hj
    obtain ⟨h1, h2⟩ := List.getElem?_eq_some_iff.1 hj
    have h3 : j < news.length := by simpa using h1
    rw [hnews j h3, ← h2]; simp
  · intro u hu
    obtain ⟨c, _, rfl⟩ := List.mem_map.1 hu
    rfl
  · intro v' w' h1 h2 _
    refine h v' w' ?_ h2
    unfold OwnB
    rw [List.length_append, List.map_append]
    exact h1
theorem cell_new (w : World) (xs : Array Value) (t : TypeId) (j : Nat) (h : j < xs.size) : (w.alloc (.cells xs t)).cell? ((⟨w.heap.size, 0, none⟩ : Addr).add j) = some xs[j] := by
  have e : (⟨w.heap.size, 0, none⟩ : Addr).add j = ⟨w.heap.size, j, none⟩ := by
    unfold Addr.add; split <;> simp_all
  rw [e, World.cell?_alloc_at _ _ _ _ rfl, Array.getElem?_eq_getElem h]
theorem cells_B (w : World) (xs : Array Value) (t : TypeId) (news : List UInt8) (hx : xs = (news.map fun c : UInt8 => Value.int .u8 (c.toNat : Int)).toArray) :
    ∀ j (h : j < news.length), (w.alloc (.cells xs t)).cell? ((⟨w.heap.size, 0, none⟩ : Addr).add j) = some (.int .u8 (news[j].toNat : Int)) := by
  intro j h
  subst hx
  rw [cell_new _ _ _ j (by simpa using h)]; simp
def AppB (w : World) (base : Nat) (v : Value) (l : List UInt8) (e : Ending) (w' : World) : Prop := ∃ v', e = .returned v' ∧ OwnB w' base v' l ∧ w.grownBy w' v.ownBlock
theorem AppB.mk {w : World} {base : Nat} {v v' : Value} {l : List UInt8} {o : Obj} {w' : World} (h1 : OwnB w' base v' l) (h2 : (w.alloc o).grownBy w' v.ownBlock) : AppB w base v l (.returned v') w' :=
  ⟨v', rfl, h1, (World.grownBy_alloc w o _).trans h2⟩
theorem AppB.mk' {w : World} {base : Nat} {v v' : Value} {l news : List UInt8} {o : Obj} {w' : World} {n : Nat} (h1 : w'.ownsRow base 5 1 v' n ((l.map fun c : UInt8 => Value.int .u8 (c.toNat : Int)) ++ news.map fun c : UInt8 => Value.int .u8 (c.toNat : Int))) (h2 : (w.alloc o).drew.grownBy w' v.ownBlock) (hn : n = (l ++ news).length) : AppB w base v (l ++ news) (.returned v') w' :=
  ⟨v', rfl, by subst hn; unfold OwnB; rw [List.map_append]; exact h1, (World.grownBy_alloc w o _).trans ⟨h2.1, h2.2, h2.3, h2.4, h2.5⟩⟩
theorem take_snoc (l : List UInt8) (k : Nat) (h : k < l.length) : l.take (k + 1) = l.take k ++ [l[k]] := by
  rw [List.take_succ_eq_append_getElem h]
theorem OwnB.lt {w : World} {base : Nat} {v : Value} {l : List UInt8} (h : OwnB w base v l) : ∀ k, v.ownBlock = some k → base ≤ k ∧ k < w.heap.size := World.ownsRow.lt h
theorem size_eq (s : ByteArray) : s.data.toList.length = s.size := by rw [Array.length_toList]; rfl
theorem ne_nil_of {s : ByteArray} (h : 0 < s.size) : s.toList ≠ [] := by
  rw [Lib.toList_data]; intro e
  have := congrArg List.length e
  rw [size_eq, List.length_nil] at this; omega
theorem isEmpty_of {s : ByteArray} (h : 0 < s.size) : s.toList.isEmpty = false := by
  have := ne_nil_of h
  cases e : s.toList with
  | nil => exact absurd e this
  | cons => rfl
theorem nil_of {s : ByteArray} (h : s.size = 0) : s.toList = [] := by
  rw [Lib.toList_data]; have := size_eq s; exact List.eq_nil_of_length_eq_zero (by omega)
theorem byte_lt (c : UInt8) : (c.toNat : Int) ≤ 255 := by have := c.toNat_lt; omega
theorem cells_L (w : World) (xs : Array Value) (t : TypeId) (news : List Value) (hx : xs = news.toArray) :
    ∀ j u, news[j]? = some u → (w.alloc (.cells xs t)).drew.cell? ((⟨w.heap.size, 0, none⟩ : Addr).add j) = some u := by
  intro j u h
  obtain ⟨h1, rfl⟩ := List.getElem?_eq_some_iff.1 h
  subst hx
  have := cell_new w news.toArray t j (by simpa using h1)
  simpa using this
theorem bytes_one (l : List UInt8) : ∀ u ∈ (l.map fun c : UInt8 => Value.int .u8 (c.toNat : Int)), u.oneCell' = true := by
  intro u hu
  obtain ⟨c, _, rfl⟩ := List.mem_map.1 hu
  rfl
theorem u8_ne {c d : UInt8} (h : c ≠ d) : ((c.toNat : Int) == (d.toNat : Int)) = false := by
  rw [beq_eq_false_iff_ne]; intro e; exact h (UInt8.toNat_inj.1 (by omega))
theorem OwnB.string {w : World} {base : Nat} {v : Value} {l : List UInt8} (h : OwnB w base v l) (hl : 0 < l.length) :
    (convert 48 9 v).run Tryz.prog w = .ok (.string ⟨l.toArray⟩) w := by
  unfold OwnB at h
  obtain ⟨g, cap, rfl, hb, hg⟩ := World.ownsRow.form h hl
  have hc := fun j (hj : j < l.length) => World.ownsRow.cellAt h j (by omega)
  refine run_convert_bytes_back w 48 9 5 _ cap l Tryz.underlying48 Tryz.underlying5 Tryz.underlying9 ?_
  intro j hj
  have e : (⟨g, 0, none⟩ : Addr).add j = ⟨g, j, none⟩ := by unfold Addr.add; split <;> simp_all
  rw [e, hc j hj]; simp [hj]
end Go.Proofs.YtieklhplalgmmaaGreatDoor.T1
namespace Go.Proofs.YtieklhplalgmmaaGreatDoor.T1
open Go.RowKit
def digB (n : Int) : Bool := decide (48 ≤ n) && decide (n ≤ 57)
def letB (n : Int) : Bool := (decide (97 ≤ n) && decide (n ≤ 122)) || (decide (65 ≤ n) && decide (n ≤ 90))
def nmB (n : Int) : Bool := letB n || digB n || n == 95
def allNm (l : List UInt8) : Bool := l.all fun c => nmB (c.toNat : Int)
def nameL (l : List UInt8) : Bool := !l.isEmpty && decide (l.length ≤ 64) && !digB ((l.getD 0 0).toNat : Int) && allNm l
def prB (n : Int) : Bool := decide (32 ≤ n) && decide (n ≤ 126)
theorem isPrintable_any (n : Int) (w : World) (h0 : 0 ≤ n) (h1 : n ≤ 255) :
    Calls Tryz.prog 99 #[.int .u8 n] w fun e w' => e = .returned (.bool (prB n)) ∧ w = w' := by
  go_enter Tryz.func99, Tryz.ntmps99
  go_wp2
  all_goals go_ret
  all_goals (simp [prB, *]; try omega)
theorem all_of_at (l : List UInt8) (p : UInt8 → Bool) (k : Nat) (h : k < l.length) (hp : p l[k] = false) : l.all p = false := by
  rw [List.all_eq_false]; exact ⟨l[k], List.getElem_mem h, by simp [hp]⟩
theorem all_take_succ (l : List UInt8) (p : UInt8 → Bool) (k : Nat) (h : k < l.length) (ha : (l.take k).all p = true) (hp : p l[k] = true) : (l.take (k+1)).all p = true := by
  rw [take_snoc l k h, List.all_append, ha]; simp [hp]
end Go.Proofs.YtieklhplalgmmaaGreatDoor.T1
namespace Go.Proofs.YtieklhplalgmmaaGreatDoor.T1
open Go.RowKit
def hexL : List UInt8 := [48, 49, 50, 51, 52, 53, 54, 55, 56, 57, 97, 98, 99, 100, 101, 102]
def hexC (n : Nat) : UInt8 := hexL.getD n 0
def escL (c : UInt8) : List UInt8 :=
  if c = 34 then [92, 34] else if c = 92 then [92, 92] else if c = 10 then [92, 110] else if c = 13 then [92, 114] else if c = 9 then [92, 116]
  else if prB (c.toNat : Int) then [c] else [92, 117, 48, 48, hexC (c.toNat / 16), hexC (c.toNat % 16)]
theorem aq_quote (v : Value) (l : List UInt8) (w : World) (base : Nat) (hown : OwnB w base v l) (hl : l.length ≤ 17592186044416) (hbase : base ≤ w.heap.size) :
    Calls Tryz.prog 83 #[v, .int .u8 34] w (AppB w base v (l ++ [92, 34])) := by
  go_enter Tryz.func83, Tryz.ntmps83
  go_wp2_with (at_builtin; refine append_B rfl _ _ rfl base v l rfl (hown.alloc _) _ _ [92, 34] rfl ?_ ?_ ?_ ?_)
  · exact cells_B _ _ _ [92, 34] rfl
  · simp; omega
  · simp; omega
  · intro v' w' h1 h2
    go_wp2
    go_ret
    exact AppB.mk h1 h2
theorem aq_back (v : Value) (l : List UInt8) (w : World) (base : Nat) (hown : OwnB w base v l) (hl : l.length ≤ 17592186044416) (hbase : base ≤ w.heap.size) :
    Calls Tryz.prog 83 #[v, .int .u8 92] w (AppB w base v (l ++ [92, 92])) := by
  go_enter Tryz.func83, Tryz.ntmps83
  go_wp2_with (at_builtin; refine append_B rfl _ _ rfl base v l rfl (hown.alloc _) _ _ [92, 92] rfl ?_ ?_ ?_ ?_)
  · exact cells_B _ _ _ [92, 92] rfl
  · simp; omega
  · simp; omega
  · intro v' w' h1 h2
    go_wp2
    go_ret
    exact AppB.mk h1 h2
theorem aq_line (v : Value) (l : List UInt8) (w : World) (base : Nat) (hown : OwnB w base v l) (hl : l.length ≤ 17592186044416) (hbase : base ≤ w.heap.size) :
    Calls Tryz.prog 83 #[v, .int .u8 10] w (AppB w base v (l ++ [92, 110])) := by
  go_enter Tryz.func83, Tryz.ntmps83
  go_wp2_with (at_builtin; refine append_B rfl _ _ rfl base v l rfl (hown.alloc _) _ _ [92, 110] rfl ?_ ?_ ?_ ?_)
  · exact cells_B _ _ _ [92, 110] rfl
  · simp; omega
  · simp; omega
  · intro v' w' h1 h2
    go_wp2
    go_ret
    exact AppB.mk h1 h2
theorem aq_ret (v : Value) (l : List UInt8) (w : World) (base : Nat) (hown : OwnB w base v l) (hl : l.length ≤ 17592186044416) (hbase : base ≤ w.heap.size) :
    Calls Tryz.prog 83 #[v, .int .u8 13] w (AppB w base v (l ++ [92, 114])) := by
  go_enter Tryz.func83, Tryz.ntmps83
  go_wp2_with (at_builtin; refine append_B rfl _ _ rfl base v l rfl (hown.alloc _) _ _ [92, 114] rfl ?_ ?_ ?_ ?_)
  · exact cells_B _ _ _ [92, 114] rfl
  · simp; omega
  · simp; omega
  · intro v' w' h1 h2
    go_wp2
    go_ret
    exact AppB.mk h1 h2
theorem aq_tab (v : Value) (l : List UInt8) (w : World) (base : Nat) (hown : OwnB w base v l) (hl : l.length ≤ 17592186044416) (hbase : base ≤ w.heap.size) :
    Calls Tryz.prog 83 #[v, .int .u8 9] w (AppB w base v (l ++ [92, 116])) := by
  go_enter Tryz.func83, Tryz.ntmps83
  go_wp2_with (at_builtin; refine append_B rfl _ _ rfl base v l rfl (hown.alloc _) _ _ [92, 116] rfl ?_ ?_ ?_ ?_)
  · exact cells_B _ _ _ [92, 116] rfl
  · simp; omega
  · simp; omega
  · intro v' w' h1 h2
    go_wp2
    go_ret
    exact AppB.mk h1 h2
theorem aq_plain (c : UInt8) (v : Value) (l : List UInt8) (w : World) (base : Nat) (hown : OwnB w base v l) (hl : l.length ≤ 17592186044416) (hbase : base ≤ w.heap.size)
    (h1 : c ≠ 34) (h2 : c ≠ 92) (h3 : c ≠ 10) (h4 : c ≠ 13) (h5 : c ≠ 9) (hp : prB (c.toNat : Int) = true) :
    Calls Tryz.prog 83 #[v, .int .u8 c.toNat] w (AppB w base v (l ++ [c])) := by
  have hb := byte_lt c
  have g1 : ((c.toNat : Int) == 34) = false := u8_ne h1
  have g2 : ((c.toNat : Int) == 92) = false := u8_ne h2
  have g3 : ((c.toNat : Int) == 10) = false := u8_ne h3
  have g4 : ((c.toNat : Int) == 13) = false := u8_ne h4
  have g5 : ((c.toNat : Int) == 9) = false := u8_ne h5
  go_enter Tryz.func83, Tryz.ntmps83
  go_wp2_with (first | (go_at_call 99; refine (isPrintable_any _ _ (by omega) (by omega)).mono ?_; rintro e w' ⟨rfl, rfl⟩) | (at_builtin; refine append_B rfl _ _ rfl base v l rfl (hown.alloc _) _ _ [c] rfl ?_ ?_ ?_ ?_))
  · exact cells_B _ _ _ [c] rfl
  · simp; omega
  · simp; omega
  · intro v' w' h1 h2
    go_wp2
    go_ret
    exact AppB.mk h1 h2
theorem hex_at (k n : Nat) (e : k = n) (h : k < (⟨#[48, 49, 50, 51, 52, 53, 54, 55, 56, 57, 97, 98, 99, 100, 101, 102]⟩ : ByteArray).size) :
    (⟨#[48, 49, 50, 51, 52, 53, 54, 55, 56, 57, 97, 98, 99, 100, 101, 102]⟩ : ByteArray)[k]'h = hexC n := by
  subst e
  have h' : k < 16 := h
  have : ∀ k, (h : k < 16) → (⟨#[48, 49, 50, 51, 52, 53, 54, 55, 56, 57, 97, 98, 99, 100, 101, 102]⟩ : ByteArray)[k]'h = hexC k := by decide +kernel
  exact this k h'
theorem bits_and15 (c : UInt8) : bits BinOp.and IntKind.u8 (c.toNat : Int) 15 = (c.toNat : Int) % 16 := by
  have : ∀ c : Fin 256, bits BinOp.and IntKind.u8 ((UInt8.ofNat c.val).toNat : Int) 15 = ((UInt8.ofNat c.val).toNat : Int) % 16 := by decide +kernel
  have h := this ⟨c.toNat, c.toNat_lt⟩
  simpa using h
theorem aq_hex (c : UInt8) (v : Value) (l : List UInt8) (w : World) (base : Nat) (hown : OwnB w base v l) (hl : l.length ≤ 17592186044416) (hbase : base ≤ w.heap.size)
    (h1 : c ≠ 34) (h2 : c ≠ 92) (h3 : c ≠ 10) (h4 : c ≠ 13) (h5 : c ≠ 9) (hp : prB (c.toNat : Int) = false) :
    Calls Tryz.prog 83 #[v, .int .u8 c.toNat] w (AppB w base v (l ++ [92, 117, 48, 48, hexC (c.toNat / 16), hexC (c.toNat % 16)])) := by
  have hb := byte_lt c
  have g1 : ((c.toNat : Int) == 34) = false := u8_ne h1
  have g2 : ((c.toNat : Int) == 92) = false := u8_ne h2
  have g3 : ((c.toNat : Int) == 10) = false := u8_ne h3
  have g4 : ((c.toNat : Int) == 13) = false := u8_ne h4
  have g5 : ((c.toNat : Int) == 9) = false := u8_ne h5
  have hI1 : 0 ≤ (c.toNat : Int) / 16 := by omega
  have hI2 : (c.toNat : Int) / 16 < 16 := by omega
  have hI3 : 0 ≤ (c.toNat : Int) % 16 := by omega
  have hI4 : (c.toNat : Int) % 16 < 16 := by omega
  have hbt : bits BinOp.and IntKind.u8 (c.toNat : Int) 15 = (c.toNat : Int) % 16 := bits_and15 c
  have x1 : ∀ h, (⟨#[48, 49, 50, 51, 52, 53, 54, 55, 56, 57, 97, 98, 99, 100, 101, 102]⟩ : ByteArray)[((c.toNat : Int) / 16).toNat]'h = hexC (c.toNat / 16) := fun h => hex_at _ _ (by omega) h
  have x2 : ∀ h, (⟨#[48, 49, 50, 51, 52, 53, 54, 55, 56, 57, 97, 98, 99, 100, 101, 102]⟩ : ByteArray)[((c.toNat : Int) % 16).toNat]'h = hexC (c.toNat % 16) := fun h => hex_at _ _ (by omega) h
  obtain ⟨i0, hi, hz0, hz1, hz2⟩ := info_parts info5
  go_enter Tryz.func83, Tryz.ntmps83
  go_wp2_with (go_at_call 99; refine (isPrintable_any _ _ (by omega) (by omega)).mono ?_; rintro e w' ⟨rfl, rfl⟩)
  go_region_law ((refine step_append_lies _ rfl (.tmp 41) (.tmp 48) 48 rfl base 5 i0 (.int .u8 0) 1 1 Tryz.underlying48 hi hz0 hz1 hz2 rfl (by decide) v l.length (l.map fun c : UInt8 => .int .u8 (c.toNat : Int)) rfl (hown.alloc _).drew _ 6 _ ([92, 117, 48, 48, hexC (c.toNat / 16), hexC (c.toNat % 16)].map fun c : UInt8 => .int .u8 (c.toNat : Int)) rfl (by simp) (cells_L _ _ _ _ rfl) (bytes_one _) (by decide) (by unfold maxLen; omega) (by omega) (by simp; omega) _ rfl ?_); intro g cap w1 h1 h2 h3 h4)
  all_goals
    go_wp2
    go_ret
    exact AppB.mk' h1 h2 (by simp)
theorem aq_any (c : UInt8) (v : Value) (l : List UInt8) (w : World) (base : Nat) (hown : OwnB w base v l) (hl : l.length ≤ 17592186044416) (hbase : base ≤ w.heap.size) :
    Calls Tryz.prog 83 #[v, .int .u8 c.toNat] w (AppB w base v (l ++ escL c)) := by
  unfold escL
  by_cases h1 : c = 34
  · subst h1; exact aq_quote v l w base hown hl hbase
  by_cases h2 : c = 92
  · subst h2; exact aq_back v l w base hown hl hbase
  by_cases h3 : c = 10
  · subst h3; exact aq_line v l w base hown hl hbase
  by_cases h4 : c = 13
  · subst h4; exact aq_ret v l w base hown hl hbase
  by_cases h5 : c = 9
  · subst h5; exact aq_tab v l w base hown hl hbase
  rw [if_neg h1, if_neg h2, if_neg h3, if_neg h4, if_neg h5]
  cases hp : prB (c.toNat : Int)
  · exact aq_hex c v l w base hown hl hbase h1 h2 h3 h4 h5 hp
  · exact aq_plain c v l w base hown hl hbase h1 h2 h3 h4 h5 hp
def quoteL (l : List UInt8) : List UInt8 := 34 :: l.flatMap escL ++ [34]
theorem esc_len (c : UInt8) : (escL c).length ≤ 6 := by unfold escL; repeat' split
                                                        all_goals simp
theorem flat_len (l : List UInt8) : (l.flatMap escL).length ≤ 6 * l.length := by
  induction l with
  | nil => simp
  | cons c l ih => simp only [List.flatMap_cons, List.length_append, List.length_cons]; have := esc_len c; omega
theorem quote_any (s : ByteArray) (w : World) (hs : s.size ≤ 1099511627776) :
    Calls Tryz.prog 60 #[.string s] w fun e w' => e = .returned (.string ⟨(quoteL s.data.toList).toArray⟩) ∧ Below w.heap.size w w' := by
  obtain ⟨i0, hi, hz0, hz1, hz2⟩ := info_parts info5
  go_enter Tryz.func60, Tryz.ntmps60
  go_wp2_with (refine wpList_make_own _ rfl _ _ 48 rfl w.heap.size 5 i0 (.int .u8 0) 1 Tryz.underlying48 hi hz0 hz1 _ _ _ (s.size + 2) rfl rfl rfl ?_ ?_ ?_ ?_)
  · rw [hz2]; omega
  · unfold maxLen; omega
  · exact Nat.le_refl _
  intro w1 hown1 hg1
  have hown1 : OwnB w1 w.heap.size _ [] := hown1
  have hb1 : Below w.heap.size w w1 := (Below.refl _ _).grown hg1 (Nat.le_refl _) (by simp)
  have hs1 := hb1.size
  clear hg1
  go_wp2_with (at_builtin; refine append_B rfl _ _ rfl w.heap.size _ _ rfl (hown1.alloc _) _ _ [34] rfl (cells_B _ _ _ [34] rfl) (by simp) ?_ ?_)
  · simp; omega
  intro v2 w2 hown2 hg2
  have hb2 : Below w.heap.size w w2 := (hb1.alloc hs1 _).grown hg2 (by simp; omega) (by intro k hk; have := hown1.lt k hk; omega)
  clear hg2 hown1 hb1 hs1
  have hs2 := hb2.size
  go_wp2
  go_loopw [3, 4] (fun v i wr => ∃ k : Nat, k ≤ s.size ∧ i = .int .i64 k ∧ OwnB wr w.heap.size v (34 :: (s.data.toList.take k).flatMap escL) ∧ Below w.heap.size w wr) (fun _ i _ => s.size - (intOf i).toNat)
  case atStart => exact ⟨0, Nat.zero_le _, rfl, hown2, hb2⟩
  case round =>
    obtain ⟨k, hk, rfl, hown, hb⟩ := hrel
    have hsz := hb.size
    have hfl := flat_len (s.data.toList.take k)
    have htl : (s.data.toList.take k).length ≤ k := List.length_take_le _ _
    clear hown2 hb2 hs2
    by_cases hlt : k < s.size
    · have H1 := Lib.hid (take_snoc s.data.toList k (by simpa using hlt))
      go_wp2_with (go_at_call 83; refine (aq_any _ _ _ _ _ hown ?_ hsz).mono ?_)
      · rw [List.length_cons]; omega
      rintro e w3 ⟨v3, rfl, hown3, hg3⟩
      go_wp2
      go_roundw
      case rel => 
        refine ⟨k + 1, by omega, by go_num, ?_, hb.grown hg3 hsz (by intro j hj; have := hown.lt j hj; omega)⟩
        rw [H1.out, List.flatMap_append]
        simp only [List.flatMap_cons, List.flatMap_nil, List.append_nil]
        exact hown3
      case measure => simp [intOf]; omega
    · have e : s.data.toList.take k = s.data.toList := List.take_of_length_le (by simp; omega)
      rw [e] at hown hfl
      clear e
      go_wp2_with (at_builtin; refine append_B rfl _ _ rfl w.heap.size _ _ rfl (hown.alloc _) _ _ [34] rfl (cells_B _ _ _ [34] rfl) ?_ ?_ ?_)
      · have e2 : s.data.toList.length = s.size := by rw [Array.length_toList]; rfl
        simp only [List.length_cons, List.length_nil]; omega
      · simp; omega
      intro v3 w3 hown3 hg3
      have hcv := hown3.string (by simp)
      have hb3 : Below w.heap.size w w3 := (hb.alloc hsz _).grown hg3 (by simp; omega) (by intro j hj; have := hown.lt j hj; omega)
      clear hg3 hown3 hown hb hsz
      go_wp2
      go_ret
      exact ⟨by simp [quoteL], hb3⟩
end Go.Proofs.YtieklhplalgmmaaGreatDoor.T1
namespace Go.Proofs
open Go.Shelf
def Tryz.lays169_ren : Go.Shelf.Ren := ⟨fun | 169 => 17 | n => n, fun | 70 => 47 | 9 => 9 | 0 => 0 | 72 => 50 | 37 => 48 | 127 => 80 | 3 => 3 | 5 => 5 | n => n, fun | n => n⟩
theorem Tryz.lays169 : Go.Proofs.Lays.n169 Tryz.prog Tryz.lays169_ren := {
  mixed := by kernel_rfl
  f169 := Tryz.func17.trans (congrArg some (by kernel_rfl))
  t0 := Tryz.underlying0
  a0 := Tryz.isAgg0
  z0 := Tryz.sizeOf0
  v0 := Tryz.zeroValue0
  t3 := Tryz.underlying3
  a3 := Tryz.isAgg3
  z3 := Tryz.sizeOf3
  v3 := Tryz.zeroValue3
  t9 := Tryz.underlying9
  a9 := Tryz.isAgg9
  z9 := Tryz.sizeOf9
  v9 := Tryz.zeroValue9
  t37 := Tryz.underlying48
  a37 := Tryz.isAgg48
  z37 := Tryz.sizeOf48
  v37 := Tryz.zeroValue48
  t70 := Tryz.underlying47
  a70 := Tryz.isAgg47
  z70 := Tryz.sizeOf47
  v70 := Tryz.zeroValue47
  t72 := Tryz.underlying50
  a72 := Tryz.isAgg50
  z72 := Tryz.sizeOf50
  v72 := Tryz.zeroValue50
  t127 := Tryz.underlying80
  a127 := Tryz.isAgg80
  z127 := Tryz.sizeOf80
  v127 := Tryz.zeroValue80 }
theorem Tryz.Builder_Extra_169 : Builder.Extra Tryz.prog Tryz.lays169_ren := {
  sizeBuilder := by kernel_rfl
  liesBuilder := by kernel_rfl
  t5 := Tryz.underlying5
  a5 := Tryz.isAgg5
  z5 := Tryz.sizeOf5
  v5 := Tryz.zeroValue5
  infoByte := by kernel_rfl
  cellsByte := by kernel_rfl
  sizeByte := by kernel_rfl
  neB5 := by decide }
def Tryz.lays156_ren : Go.Shelf.Ren := ⟨fun | 156 => 64 | 165 => 85 | 166 => 63 | 169 => 17 | 240 => 84 | 241 => 101 | 276 => 100 | 277 => 123 | n => n, fun | 31 => 29 | 9 => 9 | 3 => 3 | 4 => 4 | 0 => 0 | 20 => 20 | 72 => 50 | 76 => 106 | 70 => 47 | 37 => 48 | 75 => 105 | 127 => 80 | 164 => 132 | 5 => 5 | 80 => 56 | n => n, fun | n => n⟩
theorem Tryz.lays156 : Go.Proofs.Lays.n156 Tryz.prog Tryz.lays156_ren := {
  mixed := by kernel_rfl
  f156 := Tryz.func64.trans (congrArg some (by kernel_rfl))
  f165 := Tryz.func85.trans (congrArg some (by kernel_rfl))
  f166 := Tryz.func63.trans (congrArg some (by kernel_rfl))
  f169 := Tryz.func17.trans (congrArg some (by kernel_rfl))
  f240 := Tryz.func84.trans (congrArg some (by kernel_rfl))
  f241 := Tryz.func101.trans (congrArg some (by kernel_rfl))
  f276 := Tryz.func100.trans (congrArg some (by kernel_rfl))
  f277 := Tryz.func123.trans (congrArg some (by kernel_rfl))
  t0 := Tryz.underlying0
  a0 := Tryz.isAgg0
  z0 := Tryz.sizeOf0
  v0 := Tryz.zeroValue0
  t3 := Tryz.underlying3
  a3 := Tryz.isAgg3
  z3 := Tryz.sizeOf3
  v3 := Tryz.zeroValue3
  t4 := Tryz.underlying4
  a4 := Tryz.isAgg4
  z4 := Tryz.sizeOf4
  v4 := Tryz.zeroValue4
  t9 := Tryz.underlying9
  a9 := Tryz.isAgg9
  z9 := Tryz.sizeOf9
  v9 := Tryz.zeroValue9
  t20 := Tryz.underlying20
  a20 := Tryz.isAgg20
  z20 := Tryz.sizeOf20
  v20 := Tryz.zeroValue20
  t31 := Tryz.underlying29
  a31 := Tryz.isAgg29
  z31 := Tryz.sizeOf29
  v31 := Tryz.zeroValue29
  t37 := Tryz.underlying48
  a37 := Tryz.isAgg48
  z37 := Tryz.sizeOf48
  v37 := Tryz.zeroValue48
  t70 := Tryz.underlying47
  a70 := Tryz.isAgg47
  z70 := Tryz.sizeOf47
  v70 := Tryz.zeroValue47
  t72 := Tryz.underlying50
  a72 := Tryz.isAgg50
  z72 := Tryz.sizeOf50
  v72 := Tryz.zeroValue50
  t75 := Tryz.underlying105
  a75 := Tryz.isAgg105
  z75 := Tryz.sizeOf105
  v75 := Tryz.zeroValue105
  t76 := Tryz.underlying106
  a76 := Tryz.isAgg106
  z76 := Tryz.sizeOf106
  v76 := Tryz.zeroValue106
  t127 := Tryz.underlying80
  a127 := Tryz.isAgg80
  z127 := Tryz.sizeOf80
  v127 := Tryz.zeroValue80
  t164 := Tryz.underlying132
  a164 := Tryz.isAgg132
  z164 := Tryz.sizeOf132
  v164 := Tryz.zeroValue132 }
theorem Tryz.Builder_Extra_156 : Builder.Extra Tryz.prog Tryz.lays156_ren := {
  sizeBuilder := by kernel_rfl
  liesBuilder := by kernel_rfl
  t5 := Tryz.underlying5
  a5 := Tryz.isAgg5
  z5 := Tryz.sizeOf5
  v5 := Tryz.zeroValue5
  infoByte := by kernel_rfl
  cellsByte := by kernel_rfl
  sizeByte := by kernel_rfl
  neB5 := by decide }
open Go.RowKit in
theorem Tryz.strings_Join (bk o c : Nat) (xs : List ByteArray) (sep : ByteArray) (w : World) (hcells : ∀ (j : Nat) x, xs[j]? = some x → w.cell? ⟨bk, o + j, none⟩ = some (.string x)) (hbk : bk < w.heap.size) (hN : xs.length ≤ 140737488355328) (hcap : xs.length ≤ c) (hlen : (Lib.join (xs.map (·.data.toList)) sep.data.toList).length ≤ 140737488355328) :
    Calls Tryz.prog 64 #[.slice (some ⟨bk, o, none⟩) xs.length c, .string sep] w fun e w' => e = .returned (.string ⟨(Lib.join (xs.map (·.data.toList)) sep.data.toList).toArray⟩) ∧ Below w.heap.size w w' := Any.strings_Join Tryz.lays156 Tryz.Builder_Extra_156 bk o c xs sep w hcells hbk hN hcap hlen
open Go.RowKit in
theorem Tryz.Builder_String_any_k (B b : Nat) (l : List UInt8) (w : World) (h : Lib.IsBuilderF 50 5 B b (Lib.byteCells l) w) (hBw : B ≤ w.heap.size) :
    Calls Tryz.prog 17 #[.pointer (some ⟨b, 0, none⟩)] w fun e w' => e = .returned (.string ⟨l.toArray⟩) ∧ (Lib.IsBuilderF 50 5 B b (Lib.byteCells l) w' ∧ Below B w w' ∧ Lib.OthersKept 5 (some b) w w') := Any.Builder_String_any_k Tryz.lays169 Tryz.Builder_Extra_169 B b l w h hBw
def Tryz.laysM171_ren : Go.Shelf.Ren := ⟨fun | 171 => 82 | 243 => 98 | 246 => 122 | 283 => 132 | 284 => 133 | 285 => 134 | 286 => 135 | 129 => 139 | 317 => 138 | 318 => 140 | 319 => 141 | 320 => 142 | 337 => 143 | 338 => 144 | n => n, fun | 3 => 3 | 9 => 9 | 2 => 2 | 4 => 4 | 171 => 160 | 0 => 0 | 53 => 155 | 37 => 48 | 5 => 5 | 173 => 163 | 212 => 168 | 51 => 152 | 20 => 20 | 213 => 169 | 46 => 131 | 232 => 172 | 233 => 173 | n => n, fun | 17 => 1 | 18 => 2 | 19 => 3 | n => n⟩
theorem Tryz.laysM171 : Go.Proofs.LaysM.n171 Tryz.prog Tryz.laysM171_ren := {
  mixed := by kernel_rfl
  f129 := Tryz.func139.trans (congrArg some (by kernel_rfl))
  f171 := Tryz.func82.trans (congrArg some (by kernel_rfl))
  f243 := Tryz.func98.trans (congrArg some (by kernel_rfl))
  f246 := Tryz.func122.trans (congrArg some (by kernel_rfl))
  f283 := Tryz.func132.trans (congrArg some (by kernel_rfl))
  f284 := Tryz.func133.trans (congrArg some (by kernel_rfl))
  f285 := Tryz.func134.trans (congrArg some (by kernel_rfl))
  f286 := Tryz.func135.trans (congrArg some (by kernel_rfl))
  f317 := Tryz.func138.trans (congrArg some (by kernel_rfl))
  f318 := Tryz.func140.trans (congrArg some (by kernel_rfl))
  f319 := Tryz.func141.trans (congrArg some (by kernel_rfl))
  f320 := Tryz.func142.trans (congrArg some (by kernel_rfl))
  f337 := Tryz.func143.trans (congrArg some (by kernel_rfl))
  f338 := Tryz.func144.trans (congrArg some (by kernel_rfl))
  t0 := Tryz.underlying0
  a0 := Tryz.isAgg0
  z0 := Tryz.sizeOf0
  v0 := Tryz.zeroValue0
  t2 := Tryz.underlying2
  a2 := Tryz.isAgg2
  z2 := Tryz.sizeOf2
  v2 := Tryz.zeroValue2
  t3 := Tryz.underlying3
  a3 := Tryz.isAgg3
  z3 := Tryz.sizeOf3
  v3 := Tryz.zeroValue3
  t4 := Tryz.underlying4
  a4 := Tryz.isAgg4
  z4 := Tryz.sizeOf4
  v4 := Tryz.zeroValue4
  t5 := Tryz.underlying5
  a5 := Tryz.isAgg5
  z5 := Tryz.sizeOf5
  v5 := Tryz.zeroValue5
  t9 := Tryz.underlying9
  a9 := Tryz.isAgg9
  z9 := Tryz.sizeOf9
  v9 := Tryz.zeroValue9
  t20 := Tryz.underlying20
  a20 := Tryz.isAgg20
  z20 := Tryz.sizeOf20
  v20 := Tryz.zeroValue20
  t37 := Tryz.underlying48
  a37 := Tryz.isAgg48
  z37 := Tryz.sizeOf48
  v37 := Tryz.zeroValue48
  t46 := Tryz.underlying131
  a46 := Tryz.isAgg131
  z46 := Tryz.sizeOf131
  v46 := Tryz.zeroValue131
  t51 := Tryz.underlying152
  a51 := Tryz.isAgg152
  z51 := Tryz.sizeOf152
  v51 := Tryz.zeroValue152
  t53 := Tryz.underlying155
  a53 := Tryz.isAgg155
  z53 := Tryz.sizeOf155
  v53 := Tryz.zeroValue155
  t171 := Tryz.underlying160
  a171 := Tryz.isAgg160
  z171 := Tryz.sizeOf160
  v171 := Tryz.zeroValue160
  t173 := Tryz.underlying163
  a173 := Tryz.isAgg163
  z173 := Tryz.sizeOf163
  v173 := Tryz.zeroValue163
  t212 := Tryz.underlying168
  a212 := Tryz.isAgg168
  z212 := Tryz.sizeOf168
  v212 := Tryz.zeroValue168
  t213 := Tryz.underlying169
  a213 := Tryz.isAgg169
  z213 := Tryz.sizeOf169
  t232 := Tryz.underlying172
  a232 := Tryz.isAgg172
  z232 := Tryz.sizeOf172
  v232 := Tryz.zeroValue172
  t233 := Tryz.underlying173
  a233 := Tryz.isAgg173
  z233 := Tryz.sizeOf173
  v233 := Tryz.zeroValue173
  g17 := by kernel_rfl
  g18 := by kernel_rfl
  g19 := by kernel_rfl
  i0 := by kernel_rfl
  i2 := by kernel_rfl
  i3 := by kernel_rfl
  i4 := by kernel_rfl
  i5 := by kernel_rfl
  i9 := by kernel_rfl
  i20 := by kernel_rfl
  i37 := by kernel_rfl
  i46 := by kernel_rfl
  i51 := by kernel_rfl
  i53 := by kernel_rfl
  i171 := by kernel_rfl
  i173 := by kernel_rfl
  i212 := by kernel_rfl
  i232 := by kernel_rfl
  i233 := by kernel_rfl
  m17 := by kernel_rfl
  m18 := by kernel_rfl
  m19 := by kernel_rfl }
open Go.RowKit Go.Sort Go.Lib in
theorem Tryz.strconv_Itoa (n : Int) (h0 : -9223372036854775808 ≤ n) (h1 : n ≤ 9223372036854775807) (w : World) (htab : Lib.TabIs Tryz.prog w "internal/strconv.uint64pow10" .u64 Lib.pow10Tab) :
    Calls Tryz.prog 82 #[.int .i64 n] w fun e w' => e = .returned (.string ⟨(Lib.itoa n).toArray⟩) ∧ ∃ k os, w' = grow (w.drewN k) os := Any.strconv_Itoa Tryz.laysM171 n h0 h1 w htab
def Tryz.lays105_ren : Go.Shelf.Ren := ⟨fun | 105 => 88 | 212 => 104 | 99 => 105 | 165 => 85 | 166 => 63 | 170 => 106 | 169 => 17 | 263 => 124 | 264 => 125 | 206 => 126 | 240 => 84 | 241 => 101 | 276 => 100 | 277 => 123 | n => n, fun | 9 => 9 | 3 => 3 | 4 => 4 | 20 => 20 | 0 => 0 | 46 => 131 | 109 => 136 | 5 => 5 | 72 => 50 | 76 => 106 | 51 => 152 | 146 => 153 | 53 => 155 | 148 => 156 | 70 => 47 | 37 => 48 | 75 => 105 | 127 => 80 | 164 => 132 | 80 => 56 | n => n, fun | n => n⟩
theorem Tryz.lays105 : Go.Proofs.Lays.n105 Tryz.prog Tryz.lays105_ren := {
  mixed := by kernel_rfl
  f99 := Tryz.func105.trans (congrArg some (by kernel_rfl))
  f105 := Tryz.func88.trans (congrArg some (by kernel_rfl))
  f165 := Tryz.func85.trans (congrArg some (by kernel_rfl))
  f166 := Tryz.func63.trans (congrArg some (by kernel_rfl))
  f169 := Tryz.func17.trans (congrArg some (by kernel_rfl))
  f170 := Tryz.func106.trans (congrArg some (by kernel_rfl))
  f206 := Tryz.func126.trans (congrArg some (by kernel_rfl))
  f212 := Tryz.func104.trans (congrArg some (by kernel_rfl))
  f240 := Tryz.func84.trans (congrArg some (by kernel_rfl))
  f241 := Tryz.func101.trans (congrArg some (by kernel_rfl))
  f263 := Tryz.func124.trans (congrArg some (by kernel_rfl))
  f264 := Tryz.func125.trans (congrArg some (by kernel_rfl))
  f276 := Tryz.func100.trans (congrArg some (by kernel_rfl))
  f277 := Tryz.func123.trans (congrArg some (by kernel_rfl))
  t0 := Tryz.underlying0
  a0 := Tryz.isAgg0
  z0 := Tryz.sizeOf0
  v0 := Tryz.zeroValue0
  t3 := Tryz.underlying3
  a3 := Tryz.isAgg3
  z3 := Tryz.sizeOf3
  v3 := Tryz.zeroValue3
  t4 := Tryz.underlying4
  a4 := Tryz.isAgg4
  z4 := Tryz.sizeOf4
  v4 := Tryz.zeroValue4
  t5 := Tryz.underlying5
  a5 := Tryz.isAgg5
  z5 := Tryz.sizeOf5
  v5 := Tryz.zeroValue5
  t9 := Tryz.underlying9
  a9 := Tryz.isAgg9
  z9 := Tryz.sizeOf9
  v9 := Tryz.zeroValue9
  t20 := Tryz.underlying20
  a20 := Tryz.isAgg20
  z20 := Tryz.sizeOf20
  v20 := Tryz.zeroValue20
  t37 := Tryz.underlying48
  a37 := Tryz.isAgg48
  z37 := Tryz.sizeOf48
  v37 := Tryz.zeroValue48
  t46 := Tryz.underlying131
  a46 := Tryz.isAgg131
  z46 := Tryz.sizeOf131
  v46 := Tryz.zeroValue131
  t51 := Tryz.underlying152
  a51 := Tryz.isAgg152
  z51 := Tryz.sizeOf152
  v51 := Tryz.zeroValue152
  t53 := Tryz.underlying155
  a53 := Tryz.isAgg155
  z53 := Tryz.sizeOf155
  v53 := Tryz.zeroValue155
  t70 := Tryz.underlying47
  a70 := Tryz.isAgg47
  z70 := Tryz.sizeOf47
  v70 := Tryz.zeroValue47
  t72 := Tryz.underlying50
  a72 := Tryz.isAgg50
  z72 := Tryz.sizeOf50
  v72 := Tryz.zeroValue50
  t75 := Tryz.underlying105
  a75 := Tryz.isAgg105
  z75 := Tryz.sizeOf105
  v75 := Tryz.zeroValue105
  t76 := Tryz.underlying106
  a76 := Tryz.isAgg106
  z76 := Tryz.sizeOf106
  v76 := Tryz.zeroValue106
  t109 := Tryz.underlying136
  a109 := Tryz.isAgg136
  z109 := Tryz.sizeOf136
  v109 := Tryz.zeroValue136
  t127 := Tryz.underlying80
  a127 := Tryz.isAgg80
  z127 := Tryz.sizeOf80
  v127 := Tryz.zeroValue80
  t146 := Tryz.underlying153
  a146 := Tryz.isAgg153
  z146 := Tryz.sizeOf153
  v146 := Tryz.zeroValue153
  t148 := Tryz.underlying156
  a148 := Tryz.isAgg156
  z148 := Tryz.sizeOf156
  v148 := Tryz.zeroValue156
  t164 := Tryz.underlying132
  a164 := Tryz.isAgg132
  z164 := Tryz.sizeOf132
  v164 := Tryz.zeroValue132 }
theorem Tryz.Builder_Extra_105 : Builder.Extra Tryz.prog Tryz.lays105_ren := {
  sizeBuilder := by kernel_rfl
  liesBuilder := by kernel_rfl
  t5 := Tryz.underlying5
  a5 := Tryz.isAgg5
  z5 := Tryz.sizeOf5
  v5 := Tryz.zeroValue5
  infoByte := by kernel_rfl
  cellsByte := by kernel_rfl
  sizeByte := by kernel_rfl
  neB5 := by decide }
open Go.RowKit Go.Lib in
theorem Tryz.strings_Repeat (s : ByteArray) (c : Nat) (w : World) (hc : c ≤ 9223372036854775807) (hlen : s.size * c ≤ 140737488355328) :
    Calls Tryz.prog 88 #[.string s, .int .i64 c] w fun e w' => e = .returned (.string ⟨(Lib.repeatL s.data.toList c).toArray⟩) ∧ Below w.heap.size w w' := Any.strings_Repeat Tryz.lays105 Tryz.Builder_Extra_105 s c w hc hlen
end Go.Proofs
namespace Go.Proofs.YtieklhplalgmmaaGreatDoor.T1
open Go.RowKit
structure Laid (w : World) : Prop where
  pow : Lib.TabIs Tryz.prog w "internal/strconv.uint64pow10" .u64 Lib.pow10Tab
theorem gPow : Tryz.prog.globalNamed "internal/strconv.uint64pow10" = some 1 := by kernel_rfl
theorem Laid.below {w w' : World} (h : Laid w) (hb : Below w.heap.size w w') : Laid w' := by
  have l1 := Lib.lt_of_cell (h.pow.cell gPow 0 (by decide))
  exact ⟨var?_below hb gPow l1 h.pow⟩
theorem decimal_any (n : Int) (w : World) (hL : Laid w) (h0 : -9223372036854775808 ≤ n) (h1 : n ≤ 9223372036854775807) :
    Calls Tryz.prog 59 #[.int .i64 n] w fun e w' => e = .returned (.string ⟨(Lib.itoa n).toArray⟩) ∧ Below w.heap.size w w' := by
  have hc := Tryz.strconv_Itoa n h0 h1 w hL.pow
  have HC := Lib.hid hc
  clear hc h0 h1 hL
  go_enter Tryz.func59, Tryz.ntmps59
  go_wp2_with (go_at_call 82; refine HC.out.mono ?_; rintro e w' ⟨rfl, k, os, rfl⟩)
  go_ret
  exact ⟨rfl, Lib.below_grow _ _ (Nat.le_refl _) _ _⟩
end Go.Proofs.YtieklhplalgmmaaGreatDoor.T1
namespace Go.Proofs.YtieklhplalgmmaaGreatDoor.T1
open Go.ChangeShapes Go.WideShapes Go.ChangeAt Go.RowKit
theorem own : ownKnob Tryz.prog.godebug = none := by kernel_rfl
theorem gPowType : (Tryz.prog.globals[1]?).map (·.type) = some 168 := by kernel_rfl
theorem cellsPow : Tryz.prog.cellsOf 168 = 20 := by kernel_rfl
theorem cellsU64 : Tryz.prog.cellsOf 155 = 1 := by kernel_rfl
abbrev laidList : List (String × DataW Unit) := [("math/bits.deBruijn32tab", Rows.laid_math_bits_deBruijn32tab), ("math/bits.deBruijn64tab", Rows.laid_math_bits_deBruijn64tab), ("internal/strconv.uint64pow10", Rows.laid_internal_strconv_uint64pow10)]
theorem laid_of {W : World} (h : laidMet Tryz.prog laidList W) : Laid W :=
  ⟨Lib.tabIs_of_head gPow gPowType Tryz.underlying168 Tryz.underlying155 cellsU64 cellsPow h.tail.tail⟩
noncomputable def laidWorld (os : Os) : World := varsWorld Tryz.prog 100 (varsId Tryz.prog) os (fun _ _ => 0)
theorem laid_os (os : Os) : (laidWorld os).os = os := by kernel_rfl
theorem laid_met (os : Os) (args : Array Value) : laidMet Tryz.prog laidList ((laidWorld os).forCall (fun _ _ => 0) ⟨#[], args, []⟩).memory :=
  laidMet_of_run' 8 (by kernel_rfl) (by kernel_rfl)
end Go.Proofs.YtieklhplalgmmaaGreatDoor.T1
namespace Go.Proofs.YtieklhplalgmmaaGreatDoor
open Go.RowKit
def digB (n : Int) : Bool := decide (48 ≤ n) && decide (n ≤ 57)
def letB (n : Int) : Bool := (decide (97 ≤ n) && decide (n ≤ 122)) || (decide (65 ≤ n) && decide (n ≤ 90))
def nmB (n : Int) : Bool := letB n || digB n || n == 95
def allNm (l : List UInt8) : Bool := l.all fun c => nmB (c.toNat : Int)
def nameL (l : List UInt8) : Bool := !l.isEmpty && decide (l.length ≤ 64) && !digB ((l.getD 0 0).toNat : Int) && allNm l
theorem all_of_at (l : List UInt8) (p : UInt8 → Bool) (k : Nat) (h : k < l.length) (hp : p l[k] = false) : l.all p = false := by
  rw [List.all_eq_false]; exact ⟨l[k], List.getElem_mem h, by simp [hp]⟩
theorem all_take_succ (l : List UInt8) (p : UInt8 → Bool) (k : Nat) (h : k < l.length) (ha : (l.take k).all p = true) (hp : p l[k] = true) : (l.take (k+1)).all p = true := by
  rw [take_snoc l k h, List.all_append, ha]; simp [hp]
def letU (n : Int) : Bool := letB n || n == 95
theorem rdigit_any (n : Int) (w : World) (h0 : 0 ≤ n) (h1 : n ≤ 255) :
    Calls Tryz.prog 53 #[.int .u8 n] w fun e w' => e = .returned (.bool (digB n)) ∧ w = w' := by
  go_enter Tryz.func53, Tryz.ntmps53
  go_wp2
  all_goals go_ret
  all_goals (simp [digB, *]; try omega)
theorem rletter_any (n : Int) (w : World) (h0 : 0 ≤ n) (h1 : n ≤ 255) :
    Calls Tryz.prog 52 #[.int .u8 n] w fun e w' => e = .returned (.bool (letU n)) ∧ w = w' := by
  go_enter Tryz.func52, Tryz.ntmps52
  go_wp2
  all_goals go_ret
  all_goals refine ⟨congrArg Ending.returned (congrArg Value.bool ?_), rfl⟩
  all_goals (rw [Bool.eq_iff_iff]; simp [letU, letB, *]; try omega)
theorem rname_short (s : ByteArray) (w : World) (h : s.size = 0) :
    Calls Tryz.prog 23 #[.string s] w fun e w' => e = .returned (.bool false) ∧ w = w' := by
  have h' : (s.size : Int) < 1 := by omega
  clear h
  go_enter Tryz.func23, Tryz.ntmps23
  go_wp2_with fail
  go_ret
  exact ⟨rfl, rfl⟩
theorem rname_long (s : ByteArray) (w : World) (hs : s.size ≤ maxLen) (h : 64 < s.size) :
    Calls Tryz.prog 23 #[.string s] w fun e w' => e = .returned (.bool false) ∧ w = w' := by
  unfold maxLen at hs
  go_enter Tryz.func23, Tryz.ntmps23
  go_wp2_with fail
  go_ret
  exact ⟨rfl, rfl⟩
theorem nm_of (n : Int) : nmB n = (letU n || digB n) := by unfold nmB letU; cases letB n <;> cases digB n <;> simp
def HeadOk (l : List UInt8) (k : Nat) : Prop := allNm (l.take k) = true ∧ (0 < k → digB ((l.getD 0 0).toNat : Int) = false)
theorem headOk_zero (l : List UInt8) : HeadOk l 0 := ⟨rfl, fun h => absurd h (by omega)⟩
theorem headOk_succ {l : List UInt8} {k : Nat} (h : HeadOk l k) (hk : k < l.length) (h1 : nmB (l[k].toNat : Int) = true) (h2 : k = 0 → digB (l[k].toNat : Int) = false) : HeadOk l (k + 1) := by
  refine ⟨all_take_succ l (fun c => nmB (c.toNat : Int)) k hk h.1 h1, fun _ => ?_⟩
  by_cases e : k = 0
  · subst e; rw [List.getD_eq_getElem?_getD, List.getElem?_eq_getElem hk]; exact h2 rfl
  · exact h.2 (by omega)
theorem headOk_end {l : List UInt8} (h : HeadOk l l.length) (h0 : 0 < l.length) (h1 : l.length ≤ 64) : nameL l = true := by
  unfold nameL
  have e := h.1
  rw [List.take_length] at e
  rw [h.2 h0, e]
  cases l with
  | nil => simp at h0
  | cons a l => simp at h1 ⊢; omega
theorem name_no_at {l : List UInt8} {k : Nat} (hk : k < l.length) (h : nmB (l[k].toNat : Int) = false) : nameL l = false := by
  unfold nameL
  rw [show allNm l = false from all_of_at l (fun c => nmB (c.toNat : Int)) k hk h]; simp
theorem name_no_head {l : List UInt8} (hk : 0 < l.length) (h : digB (l[0].toNat : Int) = true) : nameL l = false := by
  unfold nameL
  rw [List.getD_eq_getElem?_getD, List.getElem?_eq_getElem hk, Option.getD_some, h]; simp
theorem rname_loop (s : ByteArray) (w : World) (h0 : 0 < s.size) (h : s.size ≤ 64) :
    Calls Tryz.prog 23 #[.string s] w fun e w' => e = .returned (.bool (nameL s.data.toList)) ∧ w = w' := by
  have hl := Lib.hid (size_eq s)
  go_enter Tryz.func23, Tryz.ntmps23
  go_wp2_with fail
  go_loop [3] (fun i => ∃ k : Nat, k ≤ s.size ∧ i = .int .i64 k ∧ HeadOk s.data.toList k) (fun i => s.size - (intOf i).toNat)
  case atStart => exact ⟨0, Nat.zero_le _, rfl, headOk_zero _⟩
  case round =>
    obtain ⟨k, hk, rfl, hH⟩ := hrel
    by_cases hlt : k < s.size
    · have hbk := byte_lt s[k]
      have hlk : k < s.data.toList.length := by rw [hl.out]; exact hlt
      cases n1 : letU (s[k].toNat : Int)
      · cases n2 : digB (s[k].toNat : Int)
        · have H2 : Hid (nameL s.data.toList = false) := Lib.hid (name_no_at hlk (by show nmB (s[k].toNat : Int) = false; rw [nm_of, n1, n2]; rfl))
          go_wp2_with (first | (go_at_call 52; refine (rletter_any _ _ (by omega) (by omega)).mono ?_; rintro e w' ⟨rfl, rfl⟩) | (go_at_call 53; refine (rdigit_any _ _ (by omega) (by omega)).mono ?_; rintro e w' ⟨rfl, rfl⟩))
          all_goals go_ret
          all_goals exact ⟨by rw [H2.out]; rfl, rfl⟩
        · by_cases hd : k = 0
          · subst hd
            have H2 : Hid (nameL s.data.toList = false) := Lib.hid (name_no_head hlk n2)
            go_wp2_with (first | (go_at_call 52; refine (rletter_any _ _ (by omega) (by omega)).mono ?_; rintro e w' ⟨rfl, rfl⟩) | (go_at_call 53; refine (rdigit_any _ _ (by omega) (by omega)).mono ?_; rintro e w' ⟨rfl, rfl⟩))
            all_goals go_ret
            all_goals exact ⟨by rw [H2.out]; rfl, rfl⟩
          · have hd' : ((k : Int) == 0) = false := by rw [beq_eq_false_iff_ne]; omega
            have H3 := Lib.hid (headOk_succ hH hlk (by show nmB (s[k].toNat : Int) = true; rw [nm_of, n1, n2]; rfl) (fun e => absurd e hd))
            clear hH
            go_wp2_with (first | (go_at_call 52; refine (rletter_any _ _ (by omega) (by omega)).mono ?_; rintro e w' ⟨rfl, rfl⟩) | (go_at_call 53; refine (rdigit_any _ _ (by omega) (by omega)).mono ?_; rintro e w' ⟨rfl, rfl⟩))
            go_round
            case rel => exact ⟨k + 1, by omega, by go_num, H3.out⟩
            case measure => simp [intOf]; omega
      · have hnd : digB (s[k].toNat : Int) = false := by
          unfold letU letB at n1; unfold digB; simp at n1 ⊢; omega
        have H3 := Lib.hid (headOk_succ hH hlk (by show nmB (s[k].toNat : Int) = true; rw [nm_of, n1]; rfl) (fun _ => hnd))
        clear hH hnd
        go_wp2_with (go_at_call 52; refine (rletter_any _ _ (by omega) (by omega)).mono ?_; rintro e w' ⟨rfl, rfl⟩)
        go_round
        case rel => exact ⟨k + 1, by omega, by go_num, H3.out⟩
        case measure => simp [intOf]; omega
    · obtain rfl : k = s.size := by omega
      have H1 : Hid (nameL s.data.toList = true) := Lib.hid (headOk_end (by rw [hl.out]; exact hH) (by rw [hl.out]; exact h0) (by rw [hl.out]; exact h))
      go_wp2
      go_ret
      exact ⟨by rw [H1.out]; rfl, rfl⟩
theorem rname_any (s : ByteArray) (w : World) (hs : s.size ≤ maxLen) :
    Calls Tryz.prog 23 #[.string s] w fun e w' => e = .returned (.bool (nameL s.data.toList)) ∧ w = w' := by
  have hl := size_eq s
  by_cases h0 : s.size = 0
  · have e : s.data.toList = [] := List.eq_nil_of_length_eq_zero (by omega)
    rw [e]; exact rname_short s w h0
  by_cases h1 : 64 < s.size
  · have e : nameL s.data.toList = false := by unfold nameL; rw [hl]; simp; omega
    rw [e]; exact rname_long s w hs h1
  exact rname_loop s w (by omega) (by omega)
end Go.Proofs.YtieklhplalgmmaaGreatDoor
namespace Go.Proofs.YtieklhplalgmmaaGreatDoor
open Go.RowKit
structure Past (W : World) where
  w : World
  b : Below W.heap.size W w
instance {W : World} : Nonempty (Past W) := ⟨⟨W, Below.refl _ _⟩⟩
theorem Past.le {W : World} (x : Past W) : W.heap.size ≤ x.w.heap.size := x.b.size
theorem Past.below {W : World} {B : Nat} (x : Past W) (h : B ≤ W.heap.size) : Below B W x.w := x.b.mono h
theorem past_of {P : Program} {W : World} {f : FuncId} {args : Array Value} {v : Value} (x : Past W) (h : Calls P f args x.w fun e w' => e = .returned v ∧ Below x.w.heap.size x.w w') :
    Calls P f args x.w fun e w'' => e = .returned v ∧ ∃ y : Past W, w'' = y.w :=
  h.mono fun _ _ ⟨he, hb⟩ => ⟨he, ⟨_, x.b.trans (hb.mono x.le)⟩, rfl⟩
theorem past_block {W : World} {b : Nat} {o : Obj} (h : W.heap[b]? = some o) (x : Past W) : x.w.heap[b]? = some o := by
  have hb : b < W.heap.size := by
    rcases Nat.lt_or_ge b W.heap.size with h' | h'
    · exact h'
    · rw [Array.getElem?_eq_none h'] at h; cases h
  exact (x.b.block b hb).trans h
def Box (W : World) (b : Nat) (c0 c1 c2 c3 c4 : Value) : Prop := W.heap[b]? = some (.cells #[c0, c1, c2, c3, c4] 45 (0, 0))
theorem Box.cells {W : World} {b : Nat} {c0 c1 c2 c3 c4 : Value} (h : Box W b c0 c1 c2 c3 c4) :
    W.cell? ⟨b, 0, none⟩ = some c0 ∧ W.cell? ⟨b, 1, none⟩ = some c1 ∧ W.cell? ⟨b, 2, none⟩ = some c2 ∧ W.cell? ⟨b, 3, none⟩ = some c3 ∧ W.cell? ⟨b, 4, none⟩ = some c4 := by
  refine ⟨?_, ?_, ?_, ?_, ?_⟩ <;> rw [cell_of_row _ _ _ _ _ _ h] <;> rfl
theorem Box.kept {W W' : World} {b : Nat} {c0 c1 c2 c3 c4 : Value} (h : Box W b c0 c1 c2 c3 c4) (hb : Below W.heap.size W W') : Box W' b c0 c1 c2 c3 c4 := past_block h ⟨W', hb⟩
theorem Box.new (W : World) (c0 c1 c2 c3 c4 : Value) : Box (W.alloc (.cells #[c0, c1, c2, c3, c4] 45 (0, 0))) W.heap.size c0 c1 c2 c3 c4 := heap_alloc_new _ _
theorem Box.alloc {W : World} {b : Nat} {c0 c1 c2 c3 c4 : Value} (h : Box W b c0 c1 c2 c3 c4) (o : Obj) : Box (W.alloc o) b c0 c1 c2 c3 c4 := h.kept ((Below.refl _ _).alloc (Nat.le_refl _) _)
theorem Box.lt {W : World} {b : Nat} {c0 c1 c2 c3 c4 : Value} (h : Box W b c0 c1 c2 c3 c4) : b < W.heap.size := by
  unfold Box at h
  rcases Nat.lt_or_ge b W.heap.size with h' | h'
  · exact h'
  · rw [Array.getElem?_eq_none h'] at h; cases h
theorem Box.two (w : World) (c0 c1 c2 c3 c4 d0 d1 d2 d3 d4 : Value) : let W := (w.alloc (.cells #[c0, c1, c2, c3, c4] 45 (0, 0))).alloc (.cells #[d0, d1, d2, d3, d4] 45 (0, 0))
    Box W w.heap.size c0 c1 c2 c3 c4 ∧ Box W (w.heap.size + 1) d0 d1 d2 d3 d4 ∧ Below w.heap.size w W := by
  refine ⟨(Box.new _ _ _ _ _ _).alloc _, ?_, ((Below.refl _ _).alloc (Nat.le_refl _) _).alloc (by simp) _⟩
  have := Box.new (w.alloc (.cells #[c0, c1, c2, c3, c4] 45 (0, 0))) d0 d1 d2 d3 d4
  simpa using this
theorem wp_region_past {id : Nat} {Q : Exit → Act → World → Prop} {a : Act} {w : World} {l : List Oper} (F : World → Prop) (hF : F w) (hB : Region.lexB .any l.toArray = true)
    (h : ∀ W, F W → Below w.heap.size w W → wpQuiet Tryz.prog l.toArray (fun w' => ∃ x : Past W, w' = x.w) (fun a' => ∀ w', (∃ x : Past W, w' = x.w) → Q .normal a' w') l a) : (Code.region id l.toArray true).wp Tryz.prog Q a w :=
  wp_region_quiet (C := fun w' => ∃ x : Past w, w' = x.w) (by kernel_rfl) hB ⟨⟨_, (Below.refl _ _).drew⟩, rfl⟩ (by simpa using h w hF (Below.refl _ _))
end Go.Proofs.YtieklhplalgmmaaGreatDoor
