
/-
  Shared small facts: byte values, lists of bytes, cells of a new block.
-/
import Derived.Test.YtcbajgcblfgmgaaGreatDoorProg
import Derived.WalkKit
import Derived.ProofKit
import Derived.Outline
import Derived.WalkSpells
import Derived.WalkLawsBesides
import Derived.Deep.QuietTactic
import Derived.BigQuiet
import Derived.StillTailTactics
import Derived.Lib.Hide
import Derived.Lib.Strings
import Derived.Deep.AppendLies
import Derived.Deep.RegionLaw
import Derived.ChangeAlike
namespace Go.Proofs.YtcbajgcblfgmgaaGreatDoor
open Go.RowKit
theorem cell_new (w : World) (xs : Array Value) (t : TypeId) (j : Nat) (h : j < xs.size) : (w.alloc (.cells xs t)).cell? ((⟨w.heap.size, 0, none⟩ : Addr).add j) = some xs[j] := by
  have e : (⟨w.heap.size, 0, none⟩ : Addr).add j = ⟨w.heap.size, j, none⟩ := by
    unfold Addr.add; split <;> simp_all
  rw [e, World.cell?_alloc_at _ _ _ _ rfl, Array.getElem?_eq_getElem h]
theorem take_snoc (l : List UInt8) (k : Nat) (h : k < l.length) : l.take (k + 1) = l.take k ++ [l[k]] := by
  rw [List.take_succ_eq_append_getElem h]
theorem size_eq (s : ByteArray) : s.data.toList.length = s.size := by rw [Array.length_toList]; rfl
theorem ne_nil_of {s : ByteArray} (h : 0 < s.size) : s.toList ≠ [] := by
  rw [Lib.toList_data]; intro e
  have := congrArg List.length e
  rw [size_eq, List.length_nil] at this; omega
theorem isEmpty_of {s : ByteArray} (h : 0 < s.size) : s.toList.isEmpty = false := by
  have := ne_nil_of h
  cases e : s.toList with
  | nil => exact absurd e this
  | cons => rfl
theorem nil_of {s : ByteArray} (h : s.size = 0) : s.toList = [] := by
  rw [Lib.toList_data]; have := size_eq s; exact List.eq_nil_of_length_eq_zero (by omega)
theorem byte_lt (c : UInt8) : (c.toNat : Int) ≤ 255 := by have := c.toNat_lt; omega
theorem cells_L (w : World) (xs : Array Value) (t : TypeId) (news : List Value) (hx : xs = news.toArray) :
    ∀ j u, news[j]? = some u → (w.alloc (.cells xs t)).drew.cell? ((⟨w.heap.size, 0, none⟩ : Addr).add j) = some u := by
  intro j u h
  obtain ⟨h1, rfl⟩ := List.getElem?_eq_some_iff.1 h
  subst hx
  have := cell_new w news.toArray t j (by simpa using h1)
  simpa using this
theorem u8_ne {c d : UInt8} (h : c ≠ d) : ((c.toNat : Int) == (d.toNat : Int)) = false := by
  rw [beq_eq_false_iff_ne]; intro e; exact h (UInt8.toNat_inj.1 (by omega))
end Go.Proofs.YtcbajgcblfgmgaaGreatDoor
