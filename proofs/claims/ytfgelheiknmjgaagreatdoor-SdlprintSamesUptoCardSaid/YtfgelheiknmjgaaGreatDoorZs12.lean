
/-
 Texts joined: E4 E4r E8.
-/
import Derived.Test.YtfgelheiknmjgaaGreatDoorZs11
import Derived.Test.YtfgelheiknmjgaaGreatDoorZs8
namespace Go.Proofs.YtfgelheiknmjgaaGreatDoor
open Go.RowKit
def WPost {α:Type} (R:World → (Nat → Prop) → Value → α → Prop) (w:World) (p:Nat) (r:Except Er (α × List Tk)) (e:Ending) (w':World):Prop :=
 (∃ x ts v m,r = .ok (x,ts) ∧ e = .returned v ∧ R w' (fun b => w.heap.size ≤ b ∧ b < w'.heap.size) v x ∧ PSt w' p ts m ∧ Tw p w.heap.size w w') ∨ (∃ x,r = .error x ∧ e = badV x ∧ Tw p w.heap.size w w')
def tlen (p:Nat) (w:World):Nat:=match w.cell? ⟨p,0,none⟩ with
 | some (.slice _ l _) => l
 | _ => 0
def exB {α β:Type} (r:Except Er α) (k : α → Except Er β):Except Er β:=match r with
 | .error e => .error e
 | .ok x => k x
theorem za8 {α β:Type} {r:Except Er α} {k : α → Except Er β} {x : α} (h:r = .ok x):exB r k = k x:=by rw [h]; rfl
def bls {α:Type} (cl:List UInt8) (most:Nat) (el:List Tk → Except Er (α × List Tk)):Nat → List α → List Tk → Except Er (List α × List Tk)
 | 0,_,_ => .error (0,99)
 | f + 1,l,ts => if l.length ≠ 0 ∧ isSg cl ts = true then .ok (l,ts.tail) else exB (bgR (isNm ts) l.length most ts) fun _ => exB (el ts) fun q => bls cl most el f (l ++ [q.1]) q.2
theorem zI4 {α:Type} (cl:List UInt8) (most:Nat) (el:List Tk → Except Er (α × List Tk)) (f:Nat) (l:List α) (ts:List Tk):bls cl most el (f + 1) l ts = if l.length ≠ 0 ∧ isSg cl ts = true then .ok (l,ts.tail) else exB (bgR (isNm ts) l.length most ts) fun _ => exB (el ts) fun q => bls cl most el f (l ++ [q.1]) q.2:=rfl
def blR {α:Type} (op cl:List UInt8) (most:Nat) (el:List Tk → Except Er (α × List Tk)) (ts:List Tk):Except Er (List α × List Tk):=exB (sgR op ts) fun ts1 => bls cl most el (ts1.length + 1) [] ts1
def nms (sep:List UInt8):Nat → List ByteArray → List Tk → Except Er (List ByteArray × List Tk)
 | 0,_,_ => .error (0,99)
 | f + 1,l,ts => if l.length ≠ 0 ∧ isSg sep ts = false then .ok (l,ts) else
   exB (bgR (isNm (if l.length = 0 then ts else ts.tail)) l.length 64 (if l.length = 0 then ts else ts.tail)) fun _ => exB (nmR (if l.length = 0 then ts else ts.tail)) fun q => nms sep f (l ++ [q.1]) q.2
theorem zx4 (sep:List UInt8) (f:Nat) (l:List ByteArray) (ts:List Tk):nms sep (f + 1) l ts = if l.length ≠ 0 ∧ isSg sep ts = false then .ok (l,ts) else
  exB (bgR (isNm (if l.length = 0 then ts else ts.tail)) l.length 64 (if l.length = 0 then ts else ts.tail)) fun _ => exB (nmR (if l.length = 0 then ts else ts.tail)) fun q => nms sep f (l ++ [q.1]) q.2:=rfl
def nmsR (sep:List UInt8) (ts:List Tk):Except Er (List ByteArray × List Tk):=nms sep (ts.length + 1) [] ts
def FldV (w:World) (S:Nat → Prop) (v:Value) (x:FldT):Prop:=∃ c0 c1 c2 c3 c4,v = .agg #[c0,c1,c2,c3,c4] ∧ FldC w S (fun j => [c0,c1,c2,c3,c4].getD j undef) x
def MemV (w:World) (S:Nat → Prop) (v:Value) (x:MemT):Prop:=∃ c0 c1,v = .agg #[c0,c1] ∧ MemC w S (fun j => [c0,c1].getD j undef) x
def DirV (w:World) (S:Nat → Prop) (v:Value) (x:DirT):Prop:=∃ c0 c1,v = .agg #[c0,c1] ∧ DirC w S (fun j => [c0,c1].getD j undef) x
def InpV (w:World) (S:Nat → Prop) (v:Value) (x:InpT):Prop:=∃ c0 c1 c2 c3 c4 c5 c6 c7 c8 c9,v = .agg #[c0,c1,c2,c3,c4,c5,c6,c7,c8,c9] ∧ InpC w S (fun j => [c0,c1,c2,c3,c4,c5,c6,c7,c8,c9].getD j undef) x
def ArgV (w:World) (S:Nat → Prop) (v:Value) (x:(ByteArray × VT)):Prop:=∃ c0 c1 c2 c3 c4 c5,v = .agg #[c0,c1,c2,c3,c4,c5] ∧ ArgC w S (fun j => [c0,c1,c2,c3,c4,c5].getD j undef) x
def DefV (w:World) (S:Nat → Prop) (v:Value) (x:DefT):Prop:=∃ c0 c1 c2 c3 c4 c5 c6,v = .agg #[c0,c1,c2,c3,c4,c5,c6] ∧ DefC w S (fun j => [c0,c1,c2,c3,c4,c5,c6].getD j undef) x
end Go.Proofs.YtfgelheiknmjgaaGreatDoor
namespace Go.Proofs.YtfgelheiknmjgaaGreatDoor
open Go.RowKit
section
variable {ops:Array Oper} {Q:Exit → Act → World → Prop} {o:Oper} {a:Act} {w:World} {R:Value → World → Prop}
end
abbrev zP6:Array Oper :=
 #[{ dst:=some 16,op:=.move (.tmp 0),type := 102,pos := "parser.go:31",after:=#[],guard:=none },
  { dst:=some 17,op:=.nilCheck (.tmp 16),type:=0,pos := "parser.go:31",after:=#[{ on:=0,ground:=.data }],guard:=none },
  { dst:=some 18,op:=.fieldAddr 67 (.tmp 17) 0,type:=0,pos := "parser.go:31",after:=#[{ on:=1,ground:=.data }],guard:=none },
  { dst:=some 19,op:=.move (.tmp 0),type := 102,pos := "parser.go:31",after:=#[],guard:=none },
  { dst:=some 20,op:=.nilCheck (.tmp 19),type:=0,pos := "parser.go:31",after:=#[{ on:=3,ground:=.data }],guard:=none },
  { dst:=some 21,op:=.fieldAddr 67 (.tmp 20) 0,type:=0,pos := "parser.go:31",after:=#[{ on:=4,ground:=.data }],guard:=none },
  { dst:=some 22,op:=.call { callee:=.value (.func 160),args:=#[.tmp 21],argTypes:=#[65] },type := 4,pos := "parser.go:31",after:=#[{ on:=5,ground:=.data }],guard:=none },
  { dst:=some 23,op:=.move (.tmp 5),type := 33,pos := "parser.go:31",after:=#[],guard:=none },
  { dst:=some 24,op:=.call { callee:=.builtin Builtin.len,args:=#[.tmp 23],argTypes:=#[33] },type := 3,pos := "parser.go:31",after:=#[{ on:=7,ground:=.data }],guard:=none },
  { dst:=some 25,op:=.call { callee:=.value (.func 54),args:=#[.tmp 18,.tmp 22,.tmp 24,.const (.int .i64 64)],argTypes:=#[65, 4, 3, 3] },type:=0,pos := "parser.go:31",after:=#[{ on:=2,ground:=.data }, { on:=6,ground:=.data }, { on:=8,ground:=.data }, { on:=6,ground:=.chain }],guard:=none }]
end Go.Proofs.YtfgelheiknmjgaaGreatDoor
namespace Go.Proofs.YtfgelheiknmjgaaGreatDoor
open Go.RowKit
def isVal (ts:List Tk):Bool:=decide ((hd ts).1 = 2) || (decide ((hd ts).1 = 3) || (decide ((hd ts).1 = 4) || (isSg [91] ts || isSg [123] ts)))
def bvR (lv:Nat) (ts:List Tk) (n:Nat):Except Er Unit:=if isVal ts = false then .error (erR ts 3) else if 24 < lv then .error (erR ts 5) else if 4096 < n + 1 then .error (erR ts 4) else .ok ()
def nmV (x:ByteArray):VT:=if x = ⟨#[116,114,117,101]⟩ then .mk 1 1 ⟨#[]⟩ [] [] else if x = ⟨#[102,97,108,115,101]⟩ then .mk 1 0 ⟨#[]⟩ [] [] else if x = ⟨#[110,117,108,108]⟩ then .mk 0 0 ⟨#[]⟩ [] [] else .mk 4 0 x [] []
def ValPost (w:World) (p:Nat) (n len:Nat) (r:Except Er (VT × List Tk × Nat)) (e:Ending) (w':World):Prop :=
 (∃ t ts m v,r = .ok (t,ts,m) ∧ e = .returned v ∧ RdS w' (fun b => w.heap.size ≤ b ∧ b < w'.heap.size) v t ∧ PSt w' p ts m ∧ Tw p w.heap.size w w' ∧ n < m ∧ m ≤ 4096 ∧ ts.length < len) ∨ (∃ x,r = .error x ∧ e = badV x ∧ Tw p w.heap.size w w')
end Go.Proofs.YtfgelheiknmjgaaGreatDoor

