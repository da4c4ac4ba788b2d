
/-
  Contracts of the constructors, of Object and of Get.
-/
import Derived.Test.YtcbajgcblfgmgaaGreatDoorDistinct
import Derived.Test.YtcbajgcblfgmgaaGreatDoorCompare
namespace Go.Proofs.YtcbajgcblfgmgaaGreatDoor
open Go.RowKit
def leafV (k n : Int) (s : ByteArray) : Value := .agg #[.int .i64 k, .int .i64 n, .string s, .slice none 0 0, .slice none 0 0]
def leafT (k n : Int) (s : ByteArray) : VT := .mk k n s [] []
theorem Rd.leaf {w : World} {B : Nat} {k n : Int} {s : ByteArray} (hk : small k) (hn : small n) (hs : s.size ≤ 140737488351232) : Rd w B (leafV k n s) (leafT k n s) :=
  .mk (fun _ => undef) hk hn hs (by simp) rfl rfl (by decide) (by decide) (fun h => by omega) (fun i t hi => by simp at hi) (fun h => by simp at h)
def yesI (y : Bool) : Int := if y then 1 else 0
theorem below_five {a w : World} {b : Nat} (h : Below b a w) (u0 u1 u2 u3 u4 : Value) : Below b a (((((w.setCell ⟨b, 0, none⟩ u0).setCell ⟨b, 1, none⟩ u1).setCell ⟨b, 2, none⟩ u2).setCell ⟨b, 3, none⟩ u3).setCell ⟨b, 4, none⟩ u4) :=
  ((((h.setCell (Nat.le_refl _) _).setCell (Nat.le_refl _) _).setCell (Nat.le_refl _) _).setCell (Nat.le_refl _) _).setCell (Nat.le_refl _) _
def zeroV : Value := .agg #[.int .i64 0, .int .i64 0, .string ⟨#[]⟩, .slice none 0 0, .slice none 0 0]
/- What Object returns. -/
def objectV (K : Option Addr) (lk ck : Nat) (A : Option Addr) (li ci : Nat) (keys : List ByteArray) : Value :=
  if lk ≠ li then .tuple #[zeroV, .int .i64 2] else if keys.Nodup then .tuple #[.agg #[.int .i64 6, .int .i64 0, .string ⟨#[]⟩, .slice A li ci, .slice K lk ck], .int .i64 0] else .tuple #[zeroV, .int .i64 7]
end Go.Proofs.YtcbajgcblfgmgaaGreatDoor
