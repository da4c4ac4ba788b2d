
/-
 Texts joined: F2 E5Fld E5Mem.
-/
import Derived.Test.YtfgelheiknmjgaaGreatDoorZs13
import Derived.Test.YtfgelheiknmjgaaGreatDoorZs12
namespace Go.Proofs.YtfgelheiknmjgaaGreatDoor
open Go.RowKit
def ValW (w:World) (S:Nat → Prop) (v:Value) (t:VT):Prop:=RdS w S v t
def argP (vel:List Tk → Except Er (VT × List Tk)) (ts:List Tk):Except Er ((ByteArray × VT) × List Tk):=exB (nmR ts) fun q => exB (sgR [58] q.2) fun ts1 => exB (vel ts1) fun r => .ok ((q.1,r.1),r.2)
def memP (del:List Tk → Except Er (DirT × List Tk)) (ts:List Tk):Except Er (MemT × List Tk):=exB (nmR ts) fun q => exB (drsR del q.2) fun r => .ok (⟨q.1,r.1⟩,r.2)
end Go.Proofs.YtfgelheiknmjgaaGreatDoor
namespace Go.Proofs.YtfgelheiknmjgaaGreatDoor
open Go.RowKit
end Go.Proofs.YtfgelheiknmjgaaGreatDoor
namespace Go.Proofs.YtfgelheiknmjgaaGreatDoor
open Go.RowKit
end Go.Proofs.YtfgelheiknmjgaaGreatDoor

