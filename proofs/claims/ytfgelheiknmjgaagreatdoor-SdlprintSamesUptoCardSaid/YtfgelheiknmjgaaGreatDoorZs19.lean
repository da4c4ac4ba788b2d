
/-
 Texts joined: E6Nms F4 F5.
-/
import Derived.Test.YtfgelheiknmjgaaGreatDoorZs12
import Derived.Test.YtfgelheiknmjgaaGreatDoorZs15
import Derived.Test.YtfgelheiknmjgaaGreatDoorZs8
namespace Go.Proofs.YtfgelheiknmjgaaGreatDoor
open Go.RowKit
end Go.Proofs.YtfgelheiknmjgaaGreatDoor
namespace Go.Proofs.YtfgelheiknmjgaaGreatDoor
open Go.RowKit
def implS:ByteArray:=⟨#[105,109,112,108,101,109,101,110,116,115]⟩
def impP (ts:List Tk):Except Er (List ByteArray × List Tk):=if isNm ts = true ∧ (⟨(hd ts).2.1.toArray⟩ : ByteArray) = implS then nmsR [38] ts.tail else .ok ([],ts)
end Go.Proofs.YtfgelheiknmjgaaGreatDoor
namespace Go.Proofs.YtfgelheiknmjgaaGreatDoor
open Go.RowKit
def memOf (x:ByteArray):MemT:=⟨x,[]⟩
def uniP (ts:List Tk):Except Er (List MemT × List Tk):=exB (sgR [61] ts) fun ts1 => exB (nmsR [124] ts1) fun r => .ok (r.1.map memOf,r.2)
end Go.Proofs.YtfgelheiknmjgaaGreatDoor

