
/-
  Contracts of the reference package of layer 1: the literal of a string.
-/
import Derived.Test.YtgicbmibhnnflaaGreatDoorRefText
namespace Go.Proofs.YtgicbmibhnnflaaGreatDoor.T1
open Go.RowKit
theorem conv_B (w : World) (xs : Array Value) (l : List UInt8) (k c : Nat) (hk : k = l.length) (hx : xs = (l.map fun c : UInt8 => Value.int .u8 (c.toNat : Int)).toArray) :
    (convert 60 9 (.slice (some ⟨w.heap.size, 0, none⟩) k c)).run Tryz.prog (w.alloc (.cells xs 5)) = .ok (.string ⟨l.toArray⟩) (w.alloc (.cells xs 5)) := by
  subst hk
  exact run_convert_bytes_back _ 60 9 5 _ c l Tryz.underlying60 Tryz.underlying5 Tryz.underlying9 (cells_B w xs _ l hx)
theorem hexC_lo : ∀ n : Fin 10, (48 + (n.val : Int)) = ((hexC n.val).toNat : Int) := by decide +kernel
theorem hexC_hi : ∀ n : Fin 16, 10 ≤ n.val → (87 + (n.val : Int)) = ((hexC n.val).toNat : Int) := by decide +kernel
theorem below_tr {a b c : World} (h : Below a.heap.size a b) (k : Below b.heap.size b c) : Below a.heap.size a c := h.trans (k.mono h.size)
def StrB (w : World) (l : List UInt8) (e : Ending) (w' : World) : Prop := e = .returned (.string ⟨l.toArray⟩) ∧ Below w.heap.size w w'
theorem add_L (w : World) (a b : List UInt8) (h : a.length + b.length ≤ 9223372036854775807) :
    (Op.stringOp .add ⟨a.toArray⟩ ⟨b.toArray⟩).run Tryz.prog w = .ok (.string ⟨(a ++ b).toArray⟩) w := by
  rw [run_string_add_sum w _ _ (by simp [ByteArray.size]; omega), ByteArray.mk_append_mk]
def QuoteAt (l : List UInt8) (k : Nat) (a : List UInt8) : Prop := a = 34 :: (l.take k).flatMap escL
theorem quoteAt_len {l a : List UInt8} {k : Nat} (h : QuoteAt l k a) : a.length ≤ 6 * k + 1 := by
  unfold QuoteAt at h
  have h1 := flat_len (l.take k)
  have h2 : (l.take k).length ≤ k := List.length_take_le _ _
  rw [h, List.length_cons]; omega
theorem quoteAt_succ {l a : List UInt8} {k : Nat} (h : QuoteAt l k a) (hk : k < l.length) : QuoteAt l (k + 1) (a ++ escL l[k]) := by
  unfold QuoteAt at h ⊢
  rw [h, take_snoc l k hk, List.flatMap_append]
  simp only [List.flatMap_cons, List.flatMap_nil, List.append_nil, List.cons_append]
theorem quoteAt_end {l a : List UInt8} (h : QuoteAt l l.length a) : a ++ [34] = quoteL l := by
  unfold QuoteAt at h
  rw [List.take_length] at h
  rw [h]; rfl
end Go.Proofs.YtgicbmibhnnflaaGreatDoor.T1
