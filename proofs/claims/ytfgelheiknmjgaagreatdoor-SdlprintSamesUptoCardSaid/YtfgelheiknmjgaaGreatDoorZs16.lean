
/-
 Texts joined: F3.
-/
import Derived.Test.YtfgelheiknmjgaaGreatDoorZs14
import Derived.Test.YtfgelheiknmjgaaGreatDoorZs15
namespace Go.Proofs.YtfgelheiknmjgaaGreatDoor
open Go.RowKit
def RefW (w:World) (S:Nat → Prop) (v:Value) (r:ByteArray × List Int):Prop:=∃ c0 c1,v = .agg #[c0,c1] ∧ RfC w S c0 c1 r.1 r.2
def zP3:VT:=.mk 0 0 ⟨#[]⟩ [] []
def inpP (rel:List Tk → Except Er ((ByteArray × List Int) × List Tk)) (vel:List Tk → Except Er (VT × List Tk)) (del:List Tk → Except Er (DirT × List Tk)) (ts:List Tk):Except Er (InpT × List Tk):=exB (nmR ts) fun q => exB (sgR [58] q.2) fun ts1 => exB (rel ts1) fun r => if isSg [61] r.2 = true then exB (vel r.2.tail) fun t => exB (drsR del t.2) fun d => .ok (⟨q.1,r.1.1,r.1.2,true,t.1,d.1⟩,d.2) else exB (drsR del r.2) fun d => .ok (⟨q.1,r.1.1,r.1.2,false,zP3,d.1⟩,d.2)
def fldQ (rel:List Tk → Except Er ((ByteArray × List Int) × List Tk)) (del:List Tk → Except Er (DirT × List Tk)) (nm:ByteArray) (args:List InpT) (ts:List Tk):Except Er (FldT × List Tk):=exB (sgR [58] ts) fun ts1 => exB (rel ts1) fun r => exB (drsR del r.2) fun d => .ok (⟨nm,args,r.1.1,r.1.2,d.1⟩,d.2)
def fldP (iel:List Tk → Except Er (InpT × List Tk)) (rel:List Tk → Except Er ((ByteArray × List Int) × List Tk)) (del:List Tk → Except Er (DirT × List Tk)) (ts:List Tk):Except Er (FldT × List Tk):=exB (nmR ts) fun q => if isSg [40] q.2 = true then exB (blR [40] [41] 16 iel q.2) fun a => fldQ rel del q.1 a.1 a.2 else fldQ rel del q.1 [] q.2
def dfP (vel:List Tk → Except Er (VT × List Tk)) (ts:List Tk):Except Er ((Bool × VT) × List Tk):=if isSg [61] ts = true then exB (vel ts.tail) fun t => .ok ((true,t.1),t.2) else .ok ((false,zP3),ts)
def DfW (w:World) (S:Nat → Prop) (v:Value) (x:Bool × VT):Prop:=∃ u,v = .tuple #[.bool x.1,u] ∧ RdS w S u x.2
end Go.Proofs.YtfgelheiknmjgaaGreatDoor

