
/-
 Texts joined: G1 E1v G2 H7 H10.
-/
import Derived.Test.YtfgelheiknmjgaaGreatDoorZs16
import Derived.Test.YtfgelheiknmjgaaGreatDoorZs3
import Derived.Deep.Upon
import Derived.Test.YtfgelheiknmjgaaGreatDoorZs11
import Derived.Test.YtfgelheiknmjgaaGreatDoorZs18
import Derived.Test.YtfgelheiknmjgaaGreatDoorZs20
import Derived.Test.YtfgelheiknmjgaaGreatDoorZs13
namespace Go.Proofs.YtfgelheiknmjgaaGreatDoor
open Go.RowKit
abbrev ElI:=Els (α:=Int) 3 1 IntC
def nnP (xs:List Int) (ts:List Tk):List Int × List Tk:=if isSg [33] ts = true then (xs ++ [1],ts.tail) else (xs,ts)
end Go.Proofs.YtfgelheiknmjgaaGreatDoor
namespace Go.Proofs.YtfgelheiknmjgaaGreatDoor
open Go.RowKit
section
variable {ops:Array Oper} {Q:Exit → Act → World → Prop} {o:Oper} {a:Act} {w:World} {R:Value → World → Prop}
end
abbrev failVOps (s q:Nat) (ps:String) (c:Int):Array Oper :=
 #[{ dst:=some s,op:=.move (.tmp 0),type := 146,pos:=ps,after:=#[],guard:=none },
  { dst:=some (s + 1),op:=.nilCheck (.tmp s),type:=0,pos:=ps,after:=#[{ on:=0,ground:=.data }],guard:=none },
  { dst:=some (s + 2),op:=.fieldAddr 65 (.tmp (s + 1)) 1,type:=0,pos:=ps,after:=#[{ on:=1,ground:=.data }],guard:=none },
  { dst:=some (s + 3),op:=.load 63 (.tmp (s + 2)),type := 63,pos:=ps,after:=#[{ on:=2,ground:=.data }],guard:=none },
  { dst:=some (s + 4),op:=.load 99 (.tmp q),type := 99,pos:=ps,after:=#[],guard:=none },
  { dst:=some (s + 5),op:=.call { callee:=.value (.tmp (s + 3)),args:=#[.tmp (s + 4),.const (.int .i64 c)],argTypes:=#[99, 29] },type:=0,pos:=ps,after:=#[{ on:=3,ground:=.data }, { on:=4,ground:=.data }],guard:=none }]
end Go.Proofs.YtfgelheiknmjgaaGreatDoor
namespace Go.Proofs.YtfgelheiknmjgaaGreatDoor
open Go.RowKit
def brk:List Tk → Nat × List Tk
 | [] => (0,[])
 | t :: r => if isSg [91] (t :: r) = true then ((brk r).1 + 1,(brk r).2) else (0,t :: r)
def cls:Nat → List Int → List Tk → Except Er (List Int × List Tk)
 | 0,xs,ts => .ok (xs,ts)
 | k + 1,xs,ts => exB (sgR [93] ts) fun ts1 => cls k (nnP (xs ++ [2]) ts1).1 (nnP (xs ++ [2]) ts1).2
def refE (ts:List Tk) (nm:ByteArray) (r:List Int × List Tk):Except Er ((ByteArray × List Int) × List Tk):=if 24 < r.1.length then .error (erR ts 5) else .ok ((nm,r.1.reverse),r.2)
def refP (ts:List Tk):Except Er ((ByteArray × List Int) × List Tk):=exB (nmR (brk ts).2) fun q => exB (cls (brk ts).1 (nnP [] q.2).1 (nnP [] q.2).2) fun r => refE ts q.1 r
end Go.Proofs.YtfgelheiknmjgaaGreatDoor
namespace Go.Proofs.YtfgelheiknmjgaaGreatDoor
def LeT {α:Type} (el:List Tk → Except Er (α × List Tk)):Prop:=∀ ts x ts',el ts = .ok (x,ts') → ts'.length ≤ ts.length
def LtT {α:Type} (el:List Tk → Except Er (α × List Tk)):Prop:=∀ ts x ts',el ts = .ok (x,ts') → ts'.length < ts.length
end Go.Proofs.YtfgelheiknmjgaaGreatDoor
namespace Go.Proofs.YtfgelheiknmjgaaGreatDoor
def LeE (el:ElT):Prop:=∀ ts n q,el ts n = .ok q → q.2.1.length ≤ ts.length
def LtE (el:ElT):Prop:=∀ ts n q,el ts n = .ok q → q.2.1.length < ts.length
end Go.Proofs.YtfgelheiknmjgaaGreatDoor

