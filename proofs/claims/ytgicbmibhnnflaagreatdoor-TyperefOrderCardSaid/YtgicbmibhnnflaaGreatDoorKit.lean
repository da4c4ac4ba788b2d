
/-
  Shared small facts: byte slices that a call owns, byte values, lists of bytes.
-/
import Derived.Test.YtgicbmibhnnflaaGreatDoorProg
import Derived.WalkKit
import Derived.ProofKit
import Derived.Outline
import Derived.WalkSpells
import Derived.WalkLawsBesides
import Derived.Deep.QuietTactic
import Derived.BigQuiet
import Derived.StillTailTactics
import Derived.Lib.Hide
import Derived.Lib.Strings
import Derived.Deep.AppendLies
import Derived.Deep.RegionLaw
import Derived.ChangeAlike
namespace Go.Proofs.YtgicbmibhnnflaaGreatDoor.T1
open Go.RowKit
theorem info5 : (Tryz.prog.info? 5).map (fun i => (i.zero, i.size, i.bytes)) = some (some (.int .u8 0), 1, 1) := by kernel_rfl
def OwnB (w : World) (base : Nat) (v : Value) (l : List UInt8) : Prop := w.ownsRow base 5 1 v l.length (l.map fun c => .int .u8 (c.toNat : Int))
theorem OwnB.alloc {w : World} {base : Nat} {v : Value} {l : List UInt8} (h : OwnB w base v l) (o : Obj) : OwnB (w.alloc o) base v l := World.ownsRow.alloc h o
theorem OwnB.drew {w : World} {base : Nat} {v : Value} {l : List UInt8} (h : OwnB w base v l) : OwnB w.drew base v l := World.ownsRow.drew h
theorem append_B {w : World} {ops : Array Oper} {rest : List Oper} {o : Oper} {a : Act} {Q : Exit → Act → World → Prop} (hgd : o.guard = none) (s x : Operand)
    (ho : o.op = .call { callee := .builtin .append, args := #[s, x], argTypes := #[60, 60] }) (base : Nat) (v : Value) (l : List UInt8) (hs : a.eval s = v) (hown : OwnB w base v l)
    (ad : Addr) (c : Nat) (news : List UInt8) (hx : a.eval x = .slice (some ad) news.length c) (hnews : ∀ j (h : j < news.length), w.cell? (ad.add j) = some (.int .u8 (news[j].toNat : Int)))
    (hlen : l.length + news.length ≤ 70368744177664) (hbase : base ≤ w.heap.size)
    (h : ∀ v' w', OwnB w' base v' (l ++ news) → w.grownBy w' v.ownBlock → wpList Tryz.prog ops Q rest (a.put o.dst v') w') : wpList Tryz.prog ops Q (o :: rest) a w := by
  obtain ⟨i0, hi, hz0, hz1, hz2⟩ := info_parts info5
  refine wpList_append_own w hgd s x 60 ho base 5 i0 (.int .u8 0) 1 1 Tryz.underlying60 hi hz0 hz1 hz2 rfl (by decide) v l.length (l.map fun c : UInt8 => .int .u8 (c.toNat : Int)) hs hown ad news.length c (news.map fun c : UInt8 => .int .u8 (c.toNat : Int)) hx (by simp) ?_ ?_ (by unfold maxLen; omega) (by omega) hbase ?_
  · intro j u hj
    obtain ⟨h1, h2⟩ := List.getElem?_eq_some_iff.1 hj
    have h3 : j < news.length := by simpa using h1
    rw [hnews j h3, ← h2]; simp
  · intro u hu
    obtain ⟨c, _, rfl⟩ := List.mem_map.1 hu
    rfl
  · intro v' w' h1 h2 _
    refine h v' w' ?_ h2
    unfold OwnB
    rw [List.length_append, List.map_append]
    exact h1
theorem cell_new (w : World) (xs : Array Value) (t : TypeId) (j : Nat) (h : j < xs.size) : (w.alloc (.cells xs t)).cell? ((⟨w.heap.size, 0, none⟩ : Addr).add j) = some xs[j] := by
  have e : (⟨w.heap.size, 0, none⟩ : Addr).add j = ⟨w.heap.size, j, none⟩ := by
    unfold Addr.add; split <;> simp_all
  rw [e, World.cell?_alloc_at _ _ _ _ rfl, Array.getElem?_eq_getElem h]
theorem cells_B (w : World) (xs : Array Value) (t : TypeId) (news : List UInt8) (hx : xs = (news.map fun c : UInt8 => Value.int .u8 (c.toNat : Int)).toArray) :
    ∀ j (h : j < news.length), (w.alloc (.cells xs t)).cell? ((⟨w.heap.size, 0, none⟩ : Addr).add j) = some (.int .u8 (news[j].toNat : Int)) := by
  intro j h
  subst hx
  rw [cell_new _ _ _ j (by simpa using h)]; simp
def AppB (w : World) (base : Nat) (v : Value) (l : List UInt8) (e : Ending) (w' : World) : Prop := ∃ v', e = .returned v' ∧ OwnB w' base v' l ∧ w.grownBy w' v.ownBlock
theorem AppB.mk {w : World} {base : Nat} {v v' : Value} {l : List UInt8} {o : Obj} {w' : World} (h1 : OwnB w' base v' l) (h2 : (w.alloc o).grownBy w' v.ownBlock) : AppB w base v l (.returned v') w' :=
  ⟨v', rfl, h1, (World.grownBy_alloc w o _).trans h2⟩
theorem AppB.mk' {w : World} {base : Nat} {v v' : Value} {l news : List UInt8} {o : Obj} {w' : World} {n : Nat} (h1 : w'.ownsRow base 5 1 v' n ((l.map fun c : UInt8 => Value.int .u8 (c.toNat : Int)) ++ news.map fun c : UInt8 => Value.int .u8 (c.toNat : Int))) (h2 : (w.alloc o).drew.grownBy w' v.ownBlock) (hn : n = (l ++ news).length) : AppB w base v (l ++ news) (.returned v') w' :=
  ⟨v', rfl, by subst hn; unfold OwnB; rw [List.map_append]; exact h1, (World.grownBy_alloc w o _).trans ⟨h2.1, h2.2, h2.3, h2.4, h2.5⟩⟩
theorem take_snoc (l : List UInt8) (k : Nat) (h : k < l.length) : l.take (k + 1) = l.take k ++ [l[k]] := by
  rw [List.take_succ_eq_append_getElem h]
theorem OwnB.lt {w : World} {base : Nat} {v : Value} {l : List UInt8} (h : OwnB w base v l) : ∀ k, v.ownBlock = some k → base ≤ k ∧ k < w.heap.size := World.ownsRow.lt h
theorem size_eq (s : ByteArray) : s.data.toList.length = s.size := by rw [Array.length_toList]; rfl
theorem ne_nil_of {s : ByteArray} (h : 0 < s.size) : s.toList ≠ [] := by
  rw [Lib.toList_data]; intro e
  have := congrArg List.length e
  rw [size_eq, List.length_nil] at this; omega
theorem isEmpty_of {s : ByteArray} (h : 0 < s.size) : s.toList.isEmpty = false := by
  have := ne_nil_of h
  cases e : s.toList with
  | nil => exact absurd e this
  | cons => rfl
theorem nil_of {s : ByteArray} (h : s.size = 0) : s.toList = [] := by
  rw [Lib.toList_data]; have := size_eq s; exact List.eq_nil_of_length_eq_zero (by omega)
theorem byte_lt (c : UInt8) : (c.toNat : Int) ≤ 255 := by have := c.toNat_lt; omega
theorem cells_L (w : World) (xs : Array Value) (t : TypeId) (news : List Value) (hx : xs = news.toArray) :
    ∀ j u, news[j]? = some u → (w.alloc (.cells xs t)).drew.cell? ((⟨w.heap.size, 0, none⟩ : Addr).add j) = some u := by
  intro j u h
  obtain ⟨h1, rfl⟩ := List.getElem?_eq_some_iff.1 h
  subst hx
  have := cell_new w news.toArray t j (by simpa using h1)
  simpa using this
theorem bytes_one (l : List UInt8) : ∀ u ∈ (l.map fun c : UInt8 => Value.int .u8 (c.toNat : Int)), u.oneCell' = true := by
  intro u hu
  obtain ⟨c, _, rfl⟩ := List.mem_map.1 hu
  rfl
theorem u8_ne {c d : UInt8} (h : c ≠ d) : ((c.toNat : Int) == (d.toNat : Int)) = false := by
  rw [beq_eq_false_iff_ne]; intro e; exact h (UInt8.toNat_inj.1 (by omega))
theorem OwnB.string {w : World} {base : Nat} {v : Value} {l : List UInt8} (h : OwnB w base v l) (hl : 0 < l.length) :
    (convert 60 9 v).run Tryz.prog w = .ok (.string ⟨l.toArray⟩) w := by
  unfold OwnB at h
  obtain ⟨g, cap, rfl, hb, hg⟩ := World.ownsRow.form h hl
  have hc := fun j (hj : j < l.length) => World.ownsRow.cellAt h j (by omega)
  refine run_convert_bytes_back w 60 9 5 _ cap l Tryz.underlying60 Tryz.underlying5 Tryz.underlying9 ?_
  intro j hj
  have e : (⟨g, 0, none⟩ : Addr).add j = ⟨g, j, none⟩ := by unfold Addr.add; split <;> simp_all
  rw [e, hc j hj]; simp [hj]
end Go.Proofs.YtgicbmibhnnflaaGreatDoor.T1
