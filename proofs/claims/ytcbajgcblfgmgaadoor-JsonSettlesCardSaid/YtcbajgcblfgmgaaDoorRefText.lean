
/-
  Contracts of the reference package of layer 1: single bytes, names, literals. Contracts of the reference package of layer 1: the literal of a string.
-/
import Derived.Test.YtcbajgcblfgmgaaDoorTextQuote
namespace Go.Proofs.YtcbajgcblfgmgaaDoor.T1
open Go.RowKit
def letU (n : Int) : Bool := letB n || n == 95
theorem nm_of (n : Int) : nmB n = (letU n || digB n) := by unfold nmB letU; cases letB n <;> cases digB n <;> simp
def HeadOk (l : List UInt8) (k : Nat) : Prop := allNm (l.take k) = true ∧ (0 < k → digB ((l.getD 0 0).toNat : Int) = false)
theorem headOk_zero (l : List UInt8) : HeadOk l 0 := ⟨rfl, fun h => absurd h (by omega)⟩
theorem headOk_succ {l : List UInt8} {k : Nat} (h : HeadOk l k) (hk : k < l.length) (h1 : nmB (l[k].toNat : Int) = true) (h2 : k = 0 → digB (l[k].toNat : Int) = false) : HeadOk l (k + 1) := by
  refine ⟨all_take_succ l (fun c => nmB (c.toNat : Int)) k hk h.1 h1, fun _ => ?_⟩
  by_cases e : k = 0
  · subst e; rw [List.getD_eq_getElem?_getD, List.getElem?_eq_getElem hk]; exact h2 rfl
  · exact h.2 (by omega)
theorem headOk_end {l : List UInt8} (h : HeadOk l l.length) (h0 : 0 < l.length) (h1 : l.length ≤ 64) : nameL l = true := by
  unfold nameL
  have e := h.1
  rw [List.take_length] at e
  rw [h.2 h0, e]
  cases l with
  | nil => simp at h0
  | cons a l => simp at h1 ⊢; omega
theorem name_no_at {l : List UInt8} {k : Nat} (hk : k < l.length) (h : nmB (l[k].toNat : Int) = false) : nameL l = false := by
  unfold nameL
  rw [show allNm l = false from all_of_at l (fun c => nmB (c.toNat : Int)) k hk h]; simp
theorem name_no_head {l : List UInt8} (hk : 0 < l.length) (h : digB (l[0].toNat : Int) = true) : nameL l = false := by
  unfold nameL
  rw [List.getD_eq_getElem?_getD, List.getElem?_eq_getElem hk, Option.getD_some, h]; simp
theorem hp2 : ∀ (l : List UInt8) (h : 2 ≤ l.length), Lib.hasPrefix l [95, 95] = (((l[0]'(by omega)).toNat : Int) == 95 && ((l[1]'(by omega)).toNat : Int) == 95)
  | a :: b :: r, _ => by
    unfold Lib.hasPrefix
    rw [Bool.eq_iff_iff]
    simp only [List.isPrefixOf, Bool.and_true, Bool.and_eq_true, beq_iff_eq, List.getElem_cons_zero, List.getElem_cons_succ]
    constructor
    · rintro ⟨rfl, rfl⟩; exact ⟨rfl, rfl⟩
    · rintro ⟨ha, hb⟩
      exact ⟨(UInt8.toNat_inj.1 (by have : (95 : UInt8).toNat = 95 := rfl; omega)).symm, (UInt8.toNat_inj.1 (by have : (95 : UInt8).toNat = 95 := rfl; omega)).symm⟩
  | [_], h => absurd h (by simp)
  | [], h => absurd h (by simp)
theorem hp2_short : ∀ (l : List UInt8) (_ : l.length < 2), Lib.hasPrefix l [95, 95] = false
  | _ :: _ :: r, h => absurd h (by simp)
  | [_], _ => by unfold Lib.hasPrefix; simp [List.isPrefixOf]
  | [], _ => rfl
end Go.Proofs.YtcbajgcblfgmgaaDoor.T1
namespace Go.Proofs.YtcbajgcblfgmgaaDoor.T1
open Go.RowKit
theorem conv_B (w : World) (xs : Array Value) (l : List UInt8) (k c : Nat) (hk : k = l.length) (hx : xs = (l.map fun c : UInt8 => Value.int .u8 (c.toNat : Int)).toArray) :
    (convert 41 9 (.slice (some ⟨w.heap.size, 0, none⟩) k c)).run Tryd.prog (w.alloc (.cells xs 5)) = .ok (.string ⟨l.toArray⟩) (w.alloc (.cells xs 5)) := by
  subst hk
  exact run_convert_bytes_back _ 41 9 5 _ c l Tryd.underlying41 Tryd.underlying5 Tryd.underlying9 (cells_B w xs _ l hx)
theorem hexC_lo : ∀ n : Fin 10, (48 + (n.val : Int)) = ((hexC n.val).toNat : Int) := by decide +kernel
theorem hexC_hi : ∀ n : Fin 16, 10 ≤ n.val → (87 + (n.val : Int)) = ((hexC n.val).toNat : Int) := by decide +kernel
theorem below_tr {a b c : World} (h : Below a.heap.size a b) (k : Below b.heap.size b c) : Below a.heap.size a c := h.trans (k.mono h.size)
def StrB (w : World) (l : List UInt8) (e : Ending) (w' : World) : Prop := e = .returned (.string ⟨l.toArray⟩) ∧ Below w.heap.size w w'
theorem add_L (w : World) (a b : List UInt8) (h : a.length + b.length ≤ 9223372036854775807) :
    (Op.stringOp .add ⟨a.toArray⟩ ⟨b.toArray⟩).run Tryd.prog w = .ok (.string ⟨(a ++ b).toArray⟩) w := by
  rw [run_string_add_sum w _ _ (by simp [ByteArray.size]; omega), ByteArray.mk_append_mk]
def QuoteAt (l : List UInt8) (k : Nat) (a : List UInt8) : Prop := a = 34 :: (l.take k).flatMap escL
theorem quoteAt_len {l a : List UInt8} {k : Nat} (h : QuoteAt l k a) : a.length ≤ 6 * k + 1 := by
  unfold QuoteAt at h
  have h1 := flat_len (l.take k)
  have h2 : (l.take k).length ≤ k := List.length_take_le _ _
  rw [h, List.length_cons]; omega
theorem quoteAt_succ {l a : List UInt8} {k : Nat} (h : QuoteAt l k a) (hk : k < l.length) : QuoteAt l (k + 1) (a ++ escL l[k]) := by
  unfold QuoteAt at h ⊢
  rw [h, take_snoc l k hk, List.flatMap_append]
  simp only [List.flatMap_cons, List.flatMap_nil, List.append_nil, List.cons_append]
theorem quoteAt_end {l a : List UInt8} (h : QuoteAt l l.length a) : a ++ [34] = quoteL l := by
  unfold QuoteAt at h
  rw [List.take_length] at h
  rw [h]; rfl
end Go.Proofs.YtcbajgcblfgmgaaDoor.T1
