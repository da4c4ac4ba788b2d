
/-
 Texts joined: E5Arg E7 F1.
-/
import Derived.Test.YtfgelheiknmjgaaGreatDoorZs12
namespace Go.Proofs.YtfgelheiknmjgaaGreatDoor
open Go.RowKit
end Go.Proofs.YtfgelheiknmjgaaGreatDoor
namespace Go.Proofs.YtfgelheiknmjgaaGreatDoor
open Go.RowKit
abbrev whV (p:Nat):Value:=.func (.func 164) #[pP p] #[]
def drs (el:List Tk → Except Er (DirT × List Tk)):Nat → List DirT → List Tk → Except Er (List DirT × List Tk)
 | 0,_,_ => .error (0,99)
 | f + 1,l,ts => if isSg [64] ts = false then .ok (l,ts) else exB (bgR true l.length 16 ts) fun _ => exB (el ts) fun q => drs el f (l ++ [q.1]) q.2
theorem zH6 (el:List Tk → Except Er (DirT × List Tk)) (f:Nat) (l:List DirT) (ts:List Tk):drs el (f + 1) l ts = if isSg [64] ts = false then .ok (l,ts) else exB (bgR true l.length 16 ts) fun _ => exB (el ts) fun q => drs el f (l ++ [q.1]) q.2:=rfl
def drsR (el:List Tk → Except Er (DirT × List Tk)) (ts:List Tk):Except Er (List DirT × List Tk):=drs el (ts.length + 1) [] ts
abbrev drwrOps:Array Oper :=
 #[{ dst:=some 3,op:=.move (.tmp 0),type := 102,pos := "parser.go:37",after:=#[],guard:=none },
  { dst:=some 4,op:=.nilCheck (.tmp 3),type:=0,pos := "parser.go:37",after:=#[{ on:=0,ground:=.data }],guard:=none },
  { dst:=some 5,op:=.fieldAddr 67 (.tmp 4) 0,type:=0,pos := "parser.go:37",after:=#[{ on:=1,ground:=.data }],guard:=none },
  { dst:=some 6,op:=.move (.tmp 0),type := 102,pos := "parser.go:37",after:=#[],guard:=none },
  { dst:=some 7,op:=.nilCheck (.tmp 6),type:=0,pos := "parser.go:37",after:=#[{ on:=3,ground:=.data }],guard:=none },
  { dst:=some 8,op:=.fieldAddr 67 (.tmp 7) 0,type:=0,pos := "parser.go:37",after:=#[{ on:=4,ground:=.data }],guard:=none },
  { dst:=some 9,op:=.makeFunc (Fn.func 164) #[.tmp 8] #[],type := 185,pos := "parser.go:37",after:=#[{ on:=5,ground:=.data }],guard:=none },
  { dst:=some 10,op:=.call { callee:=.value (.func 163),args:=#[.tmp 5,.tmp 9],argTypes:=#[65, 185] },type := 34,pos := "parser.go:37",after:=#[{ on:=2,ground:=.data }, { on:=6,ground:=.data }],guard:=none },
  { dst:=some 2,op:=.assign (.tmp 10),type := 34,pos := "parser.go:37",after:=#[{ on:=7,ground:=.data }, { on:=7,ground:=.chain }, { on:=0,ground:=.phase }, { on:=1,ground:=.phase }, { on:=2,ground:=.phase }, { on:=3,ground:=.phase }, { on:=4,ground:=.phase }, { on:=5,ground:=.phase }, { on:=6,ground:=.phase }, { on:=7,ground:=.phase }],guard:=none }]
end Go.Proofs.YtfgelheiknmjgaaGreatDoor
namespace Go.Proofs.YtfgelheiknmjgaaGreatDoor
open Go.RowKit
def dirP (ael:List Tk → Except Er ((ByteArray × VT) × List Tk)) (ts:List Tk):Except Er (DirT × List Tk):=exB (sgR [64] ts) fun ts1 => exB (nmR ts1) fun q => if isSg [40] q.2 = true then exB (blR [40] [41] 16 ael q.2) fun r => .ok (⟨q.1,r.1⟩,r.2) else .ok (⟨q.1,[]⟩,q.2)
def argsP (ael:List Tk → Except Er ((ByteArray × VT) × List Tk)) (ts:List Tk):Except Er (List (ByteArray × VT) × List Tk):=if isSg [40] ts = true then blR [40] [41] 16 ael ts else .ok ([],ts)
theorem hpn {W:World} {b g i:Nat} {u:Value} (h:b ≠ g):(W.setCell ⟨g,i,none⟩ u).heap[b]? = W.heap[b]?:=Below.heap_setCell _ _ _ _ h
end Go.Proofs.YtfgelheiknmjgaaGreatDoor

