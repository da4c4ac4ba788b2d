/-
  The reference's node against the checker's.
-/
import Derived.Test.YtfnblnohapiniaaRNodeD
import Derived.Test.YtfnblnohapiniaaChk
namespace Go.Proofs.Ytfnblnohapiniaa
open Go.RowKit
theorem all_false_at {α : Type} {l : List α} {p : α → Bool} {k : Nat} {x : α} (h : l[k]? = some x) (hp : p x = false) : l.all p = false := by
  rw [Bool.eq_false_iff]
  intro ha
  have := List.all_eq_true.1 ha x (List.mem_of_getElem? h)
  rw [hp] at this; cases this
theorem all_take_step {α : Type} {l : List α} {p : α → Bool} {k : Nat} {x : α} (h : l[k]? = some x) (ha : (l.take k).all p = true) (hp : p x = true) : (l.take (k + 1)).all p = true := by
  rw [List.take_add_one, h, List.all_append, ha]
  simp [hp]
theorem wholes_all (lit : Bool) : ∀ l : List VT, wholesB lit l = l.all (wholeB lit)
  | [] => rfl
  | t :: u => by rw [wholesB, wholes_all lit u, List.all_cons]
theorem rnode_eq (lit : Bool) (k n : Int) (s : ByteArray) (is : List VT) (ks : List ByteArray) :
    nodeB lit (.mk k n s is ks) = (rnodeB lit (.mk k n s is ks) && (!lit || ks.all nmA)) := by
  unfold nodeB rnodeB
  have e6 : ∀ a b c d e : Bool, (a && b && c && (d && e)) = (a && b && c && e && d) := by decide
  have e4 : ∀ a b c : Bool, (a && b && c) = (a && c && b) := by decide
  by_cases hk : ks = []
  · subst hk
    simp only [List.all_nil, Bool.or_true, Bool.and_true]
    repeat' split
    all_goals first
      | rfl
      | exact e4 _ _ _
      | (cases lit <;> simp [keysB])
      | skip
  · have hl : ks.length ≠ 0 := fun e => hk (List.eq_nil_of_length_eq_zero e)
    have hf : leafB is ks = false := by simp [leafB, hk]
    simp only [hf, Bool.and_false, hl, decide_false]
    repeat' split
    all_goals first
      | rfl
      | exact e6 _ _ _ _ _
      | skip
end Go.Proofs.Ytfnblnohapiniaa
