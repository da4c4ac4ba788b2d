
/-
  A region that draws its order, whose operations read or call what leaves older memory alone: one walk serves every order.
-/
import Derived.Test.YtgicbmibhnnflaaGreatDoorKit
import Derived.Deep.QuietTactic
import Derived.BigQuiet
import Derived.Deep.RegionLaw
import Derived.Deep.AppendLies
namespace Go.Proofs.YtgicbmibhnnflaaGreatDoor
open Go.RowKit
structure Past (W : World) where
  w : World
  b : Below W.heap.size W w
instance {W : World} : Nonempty (Past W) := ⟨⟨W, Below.refl _ _⟩⟩
theorem Past.le {W : World} (x : Past W) : W.heap.size ≤ x.w.heap.size := x.b.size
theorem past_of {P : Program} {W : World} {f : FuncId} {args : Array Value} {v : Value} (x : Past W) (h : Calls P f args x.w fun e w' => e = .returned v ∧ Below x.w.heap.size x.w w') :
    Calls P f args x.w fun e w'' => e = .returned v ∧ ∃ y : Past W, w'' = y.w :=
  h.mono fun _ _ ⟨he, hb⟩ => ⟨he, ⟨_, x.b.trans (hb.mono x.le)⟩, rfl⟩
theorem past_same {P : Program} {W : World} {f : FuncId} {args : Array Value} {v : Value} (x : Past W) (h : Calls P f args x.w fun e w' => e = .returned v ∧ x.w = w') :
    Calls P f args x.w fun e w'' => e = .returned v ∧ ∃ y : Past W, w'' = y.w :=
  h.mono fun _ _ ⟨he, hb⟩ => ⟨he, x, hb.symm⟩
theorem past_block {W : World} {b : Nat} {o : Obj} (h : W.heap[b]? = some o) (x : Past W) : x.w.heap[b]? = some o := by
  have hb : b < W.heap.size := by
    rcases Nat.lt_or_ge b W.heap.size with h' | h'
    · exact h'
    · rw [Array.getElem?_eq_none h'] at h; cases h
  exact (x.b.block b hb).trans h
theorem wp_region_past {id : Nat} {Q : Exit → Act → World → Prop} {a : Act} {w : World} {l : List Oper} (F : World → Prop) (hF : F w) (hB : Region.lexB .any l.toArray = true)
    (h : ∀ W, F W → Below w.heap.size w W → wpQuiet Tryz.prog l.toArray (fun w' => ∃ x : Past W, w' = x.w) (fun a' => ∀ w', (∃ x : Past W, w' = x.w) → Q .normal a' w') l a) : (Code.region id l.toArray true).wp Tryz.prog Q a w :=
  wp_region_quiet (C := fun w' => ∃ x : Past w, w' = x.w) (by kernel_rfl) hB ⟨⟨_, (Below.refl _ _).drew⟩, rfl⟩ (by simpa using h w hF (Below.refl _ _))
end Go.Proofs.YtgicbmibhnnflaaGreatDoor
