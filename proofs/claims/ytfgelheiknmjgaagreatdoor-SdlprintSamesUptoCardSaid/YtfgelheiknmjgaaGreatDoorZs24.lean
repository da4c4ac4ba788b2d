
/-
 Texts joined: I4.
-/
import Derived.Test.YtfgelheiknmjgaaGreatDoorZs23
namespace Go.Proofs.YtfgelheiknmjgaaGreatDoor
open Go.RowKit
abbrev DfT:=Nat → List Tk → Except Er (DefT × List Tk)
def docP (el:DfT):Nat → List DefT → List Tk → Except Er (List DefT × List Tk)
 | 0,_,_ => .error (0,99)
 | f + 1,l,ts => if l.length ≠ 0 ∧ (hd ts).1 = 5 then .ok (l,ts) else exB (bgR (decide (kdR (hd ts) ≠ 0)) l.length 64 ts) fun _ => exB (el (kdR (hd ts)) ts) fun q => docP el f (l ++ [q.1]) q.2
theorem zD3 (el:DfT) (f:Nat) (l:List DefT) (ts:List Tk):docP el (f + 1) l ts = if l.length ≠ 0 ∧ (hd ts).1 = 5 then .ok (l,ts) else exB (bgR (decide (kdR (hd ts) ≠ 0)) l.length 64 ts) fun _ => exB (el (kdR (hd ts)) ts) fun q => docP el f (l ++ [q.1]) q.2:=rfl
def docR (el:DfT) (ts:List Tk):Except Er (List DefT × List Tk):=docP el (ts.length + 1) [] ts
def DocV (w:World) (S:Nat → Prop) (v:Value) (x:List DefT):Prop:=∃ u,v = .agg #[u] ∧ DefsC w S u x
structure DSt (w0:World) (p:Nat) (dr:Value) (cells:List Value) (l:List DefT) (ts:List Tk) (n:Nat) (w:World):Prop where
 pst:PSt w p ts n
 box:Bk w (w0.heap.size + 1) #[dr] 24
 els:Els 39 7 DefC w (w0.heap.size + 2) dr cells l
 res:Bk w w0.heap.size #[.slice none 0 0] 24
 tw:Tw p w0.heap.size w0 w
 op:p < w0.heap.size
 size:w0.heap.size + 2 ≤ w.heap.size
variable {w0 w w':World} {p n m:Nat} {dr:Value} {cells:List Value} {l:List DefT} {ts ts':List Tk}
def pvD (vb:Nat) (row x2 x3:Value):Nat → Option Value
 | 0 => some (.pointer (some ⟨vb,0,none⟩))
 | 1 => some row
 | 2 => some x2
 | 3 => some x3
 | 7 => some (.pointer (some ⟨vb,0,none⟩))
 | _ => none
def DfC (w0:World) (p:Nat) (dr:Value) (cells:List Value) (l:List DefT) (r:Except Er (DefT × List Tk)) (len:Nat) (u:Value) (w:World):Prop:=∃ x ts' m,r = .ok (x,ts') ∧ ts'.length < len ∧ (∃ c0 c1 c2 c3 c4 c5 c6,u = .agg #[c0,c1,c2,c3,c4,c5,c6] ∧ DefC w (fun b => w0.heap.size + 2 ≤ b ∧ b < w.heap.size ∧ dr.ownBlock ≠ some b) (fun j => [c0,c1,c2,c3,c4,c5,c6].getD j undef) x) ∧ DSt w0 p dr cells l ts' m w
def DfG (w0:World) (p:Nat) (dr:Value) (cells:List Value) (l:List DefT) (r:Except Er (DefT × List Tk)) (len:Nat) (u:Value) (w:World):Prop:=∃ x ts' m w1 c0 c1 c2 c3 c4 c5 c6,r = .ok (x,ts') ∧ ts'.length < len ∧ u = .slice (some ⟨w1.heap.size,0,none⟩) 1 1 ∧ w = w1.alloc (.cells #[c0,c1,c2,c3,c4,c5,c6] 39 (0,0)) ∧
 DefC w1 (fun b => w0.heap.size + 2 ≤ b ∧ b < w1.heap.size ∧ dr.ownBlock ≠ some b) (fun j => [c0,c1,c2,c3,c4,c5,c6].getD j undef) x ∧ DSt w0 p dr cells l ts' m w1
def DfE (w0:World) (p:Nat) (dr:Value) (cells:List Value) (l:List DefT) (r:Except Er (DefT × List Tk)) (len:Nat) (u:Value) (w:World):Prop:=∃ x ts' m w1 c0 c1 c2 c3 c4 c5 c6,r = .ok (x,ts') ∧ ts'.length < len ∧
 DefC w1 (fun b => w0.heap.size + 2 ≤ b ∧ b < w1.heap.size ∧ dr.ownBlock ≠ some b) (fun j => [c0,c1,c2,c3,c4,c5,c6].getD j undef) x ∧ DSt w0 p dr cells l ts' m w1 ∧
 w.ownsRow (w0.heap.size + 2) 39 7 u (l.length + 1) (cells ++ [c0,c1,c2,c3,c4,c5,c6]) ∧ (w1.alloc (.cells #[c0,c1,c2,c3,c4,c5,c6] 39 (0,0))).grownBy w dr.ownBlock ∧ (u.ownBlock = dr.ownBlock ∨ ∃ g,u.ownBlock = some g ∧ (w1.alloc (.cells #[c0,c1,c2,c3,c4,c5,c6] 39 (0,0))).heap.size ≤ g)
def DfF (w0:World) (p:Nat) (l:List DefT) (r:Except Er (DefT × List Tk)) (len:Nat) (w:World):Prop:=∃ x ts' m dr' cells',r = .ok (x,ts') ∧ ts'.length < len ∧ DSt w0 p dr' cells' (l ++ [x]) ts' m w
abbrev doc_regionOps:Array Oper :=
 #[{ dst:=some 22,op:=.move (.tmp 0),type := 102,pos := "definition.go:42",after:=#[],guard:=none },
  { dst:=some 23,op:=.nilCheck (.tmp 22),type:=0,pos := "definition.go:42",after:=#[{ on:=0,ground:=.data }],guard:=none },
  { dst:=some 24,op:=.fieldAddr 67 (.tmp 23) 0,type:=0,pos := "definition.go:42",after:=#[{ on:=1,ground:=.data }],guard:=none },
  { dst:=some 25,op:=.move (.tmp 4),type := 3,pos := "definition.go:42",after:=#[],guard:=none },
  { dst:=some 26,op:=.binOp BinOp.neq 3 (.tmp 25) (.const (.int .i64 0)) 3,type := 4,pos := "definition.go:42",after:=#[{ on:=3,ground:=.data }],guard:=none },
  { dst:=some 27,op:=.fieldAddr 24 (.tmp 3) 0,type:=0,pos := "definition.go:42",after:=#[],guard:=none },
  { dst:=some 28,op:=.load 22 (.tmp 27),type := 22,pos := "definition.go:42",after:=#[{ on:=5,ground:=.data }],guard:=none },
  { dst:=some 29,op:=.call { callee:=.builtin Builtin.len,args:=#[.tmp 28],argTypes:=#[22] },type := 3,pos := "definition.go:42",after:=#[{ on:=6,ground:=.data }],guard:=none },
  { dst:=some 30,op:=.call { callee:=.value (.func 54),args:=#[.tmp 24,.tmp 26,.tmp 29,.const (.int .i64 64)],argTypes:=#[65, 4, 3, 3] },type:=0,pos := "definition.go:42",after:=#[{ on:=2,ground:=.data }, { on:=4,ground:=.data }, { on:=7,ground:=.data }],guard:=none }]
end Go.Proofs.YtfgelheiknmjgaaGreatDoor

