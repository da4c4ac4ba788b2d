
/-
 Texts joined: H4 H5.
-/
import Derived.Test.YtfgelheiknmjgaaGreatDoorZs17
namespace Go.Proofs.YtfgelheiknmjgaaGreatDoor
open Go.RowKit
def nuV (x:ByteArray):VT:=.mk 2 (T1.numL x.data.toList).1 ⟨#[]⟩ [] []
def RestPost (w:World) (p:Nat) (n len:Nat) (r:Except Er (VT × List Tk × Nat)) (e:Ending) (w':World):Prop :=
 (∃ t ts m v,r = .ok (t,ts,m) ∧ e = .returned v ∧ RdS w' (fun b => w.heap.size ≤ b ∧ b < w'.heap.size) v t ∧ PSt w' p ts m ∧ Tw p w.heap.size w w' ∧ n ≤ m ∧ m ≤ 4096 ∧ ts.length < len) ∨ (∃ x,r = .error x ∧ e = badV x ∧ Tw p w.heap.size w w')
end Go.Proofs.YtfgelheiknmjgaaGreatDoor
namespace Go.Proofs.YtfgelheiknmjgaaGreatDoor
open Go.RowKit
abbrev ElT:=List Tk → Nat → Except Er (VT × List Tk × Nat)
def vaP (lv:Nat) (L O:ElT) (ts:List Tk) (n:Nat):Except Er (VT × List Tk × Nat):=exB (bvR lv ts n) fun _ =>
 if (hd ts).1 = 2 then .ok (nmV ⟨(hd ts).2.1.toArray⟩,ts.tail,n + 1) else if (hd ts).1 = 3 then .ok (nuV ⟨(hd ts).2.1.toArray⟩,ts.tail,n + 1) else if (hd ts).1 = 4 then .ok (.mk 3 0 ⟨(hd ts).2.1.toArray⟩ [] [],ts.tail,n + 1) else if (hd ts).2.1 = [91] then L ts.tail (n + 1) else O ts.tail (n + 1)
def lsV (el:ElT):ElT:=fun ts n => exB (lsP el (ts.length + 1) [] ts n) fun q => .ok (.mk 5 0 ⟨#[]⟩ q.1 [],q.2.1,q.2.2)
def vF (O:ElT → ElT):Nat → Nat → ElT
 | 0,lv => vaP lv (fun _ _ => .error (0,99)) (fun _ _ => .error (0,99))
 | f + 1,lv => vaP lv (lsV (vF O f (lv + 1))) (O (vF O f (lv + 1)))
end Go.Proofs.YtfgelheiknmjgaaGreatDoor

