
/-
  Contracts of package text: the literal of a string (Quote).
-/
import Derived.Test.YtgicbmibhnnflaaGreatDoorTextChars
namespace Go.Proofs.YtgicbmibhnnflaaGreatDoor.T1
open Go.RowKit
def hexL : List UInt8 := [48, 49, 50, 51, 52, 53, 54, 55, 56, 57, 97, 98, 99, 100, 101, 102]
def hexC (n : Nat) : UInt8 := hexL.getD n 0
def escL (c : UInt8) : List UInt8 :=
  if c = 34 then [92, 34] else if c = 92 then [92, 92] else if c = 10 then [92, 110] else if c = 13 then [92, 114] else if c = 9 then [92, 116]
  else if prB (c.toNat : Int) then [c] else [92, 117, 48, 48, hexC (c.toNat / 16), hexC (c.toNat % 16)]
theorem hex_at (k n : Nat) (e : k = n) (h : k < (⟨#[48, 49, 50, 51, 52, 53, 54, 55, 56, 57, 97, 98, 99, 100, 101, 102]⟩ : ByteArray).size) :
    (⟨#[48, 49, 50, 51, 52, 53, 54, 55, 56, 57, 97, 98, 99, 100, 101, 102]⟩ : ByteArray)[k]'h = hexC n := by
  subst e
  have h' : k < 16 := h
  have : ∀ k, (h : k < 16) → (⟨#[48, 49, 50, 51, 52, 53, 54, 55, 56, 57, 97, 98, 99, 100, 101, 102]⟩ : ByteArray)[k]'h = hexC k := by decide +kernel
  exact this k h'
theorem bits_and15 (c : UInt8) : bits BinOp.and IntKind.u8 (c.toNat : Int) 15 = (c.toNat : Int) % 16 := by
  have : ∀ c : Fin 256, bits BinOp.and IntKind.u8 ((UInt8.ofNat c.val).toNat : Int) 15 = ((UInt8.ofNat c.val).toNat : Int) % 16 := by decide +kernel
  have h := this ⟨c.toNat, c.toNat_lt⟩
  simpa using h
def quoteL (l : List UInt8) : List UInt8 := 34 :: l.flatMap escL ++ [34]
theorem esc_len (c : UInt8) : (escL c).length ≤ 6 := by unfold escL; repeat' split
                                                        all_goals simp
theorem flat_len (l : List UInt8) : (l.flatMap escL).length ≤ 6 * l.length := by
  induction l with
  | nil => simp
  | cons c l ih => simp only [List.flatMap_cons, List.length_append, List.length_cons]; have := esc_len c; omega
end Go.Proofs.YtgicbmibhnnflaaGreatDoor.T1
