
/-
 Texts joined: I3 H6.
-/
import Derived.Test.YtfgelheiknmjgaaGreatDoorZs22
import Derived.Test.YtfgelheiknmjgaaGreatDoorZs12
namespace Go.Proofs.YtfgelheiknmjgaaGreatDoor
open Go.RowKit
def pvK (vb:Nat) (row x2 x3:Value):Nat → Option Value
 | 0 => some (.pointer (some ⟨vb,4,none⟩))
 | 1 => some row
 | 2 => some x2
 | 3 => some x3
 | 7 => some (.pointer (some ⟨vb,4,none⟩))
 | _ => none
def pvI (vb:Nat) (row x2 x3 x4:Value):Nat → Option Value
 | 0 => some (.pointer (some ⟨vb,3,none⟩))
 | 1 => some row
 | 2 => some x2
 | 3 => some x3
 | 4 => some x4
 | 8 => some (.pointer (some ⟨vb,3,none⟩))
 | _ => none
def KC (w0:World) (p:Nat) (kr ir:Value) (ks:List ByteArray) (cells:List Value) (l:List VT) (ts:List Tk) (n:Nat) (u:Value) (w:World):Prop:=∃ x ts',u = .string x ∧ keyP ks ts = .ok (x,ts') ∧ ts'.length < ts.length ∧ OSt w0 p kr ir ks cells l (ks ++ [x]) ts' n w
def KG (w0:World) (p:Nat) (kr ir:Value) (ks:List ByteArray) (cells:List Value) (l:List VT) (ts:List Tk) (n:Nat) (u:Value) (w:World):Prop:=∃ x ts' b,u = .slice (some ⟨b,0,none⟩) 1 1 ∧ w.cell? ⟨b,0,none⟩ = some (.string x) ∧ keyP ks ts = .ok (x,ts') ∧ ts'.length < ts.length ∧ OSt w0 p kr ir ks cells l (ks ++ [x]) ts' n w
def KE (w0:World) (p:Nat) (kr ir:Value) (ks:List ByteArray) (cells:List Value) (l:List VT) (ts:List Tk) (n:Nat) (u:Value) (w:World):Prop:=∃ x ts' w1,keyP ks ts = .ok (x,ts') ∧ ts'.length < ts.length ∧ OSt w0 p kr ir ks cells l (ks ++ [x]) ts' n w1 ∧
 w.ownsRow (w0.heap.size + 3) 9 1 u (ks.length + 1) (ks.map Value.string ++ [.string x]) ∧ w1.grownBy w kr.ownBlock ∧ (u.ownBlock = kr.ownBlock ∨ ∃ g,u.ownBlock = some g ∧ w1.heap.size ≤ g)
def KF (w0:World) (p:Nat) (ir:Value) (ks:List ByteArray) (cells:List Value) (l:List VT) (ts:List Tk) (n:Nat) (w:World):Prop:=∃ x ts' kr',keyP ks ts = .ok (x,ts') ∧ ts'.length < ts.length ∧ OSt w0 p kr' ir (ks ++ [x]) cells l (ks ++ [x]) ts' n w
def ItV (w0 w:World) (kr ir:Value) (u:Value) (t:VT):Prop:=∃ k z s A li ci KA lk ck,u = .agg #[.int .i64 k,.int .i64 z,.string s,.slice A li ci,.slice KA lk ck] ∧ RdX kr.ownBlock w (fun b => w0.heap.size + 3 ≤ b ∧ b < w.heap.size ∧ ir.ownBlock ≠ some b) (fun j => [Value.int .i64 k,.int .i64 z,.string s,.slice A li ci,.slice KA lk ck].getD j undef) t
structure ItR (el:ElT) (ts:List Tk) (n:Nat) (t:VT) (ts':List Tk) (m:Nat):Prop where
 eq:el ts n = .ok (t,ts',m)
 lt:n < m
 le:m ≤ 4096
 len:ts'.length < ts.length
def IC (el:ElT) (w0:World) (p:Nat) (kr ir:Value) (ks:List ByteArray) (cells:List Value) (l:List VT) (ts:List Tk) (n:Nat) (u:Value) (w:World):Prop:=∃ t ts' m,ItR el ts n t ts' m ∧ ItV w0 w kr ir u t ∧ OSt w0 p kr ir ks cells l ks ts' m w
def IG (el:ElT) (w0:World) (p:Nat) (kr ir:Value) (ks:List ByteArray) (cells:List Value) (l:List VT) (ts:List Tk) (n:Nat) (u:Value) (w:World):Prop:=∃ t ts' m w1 k z s A li ci KA lk ck,ItR el ts n t ts' m ∧ u = .slice (some ⟨w1.heap.size,0,none⟩) 1 1 ∧ w = w1.alloc (.cells #[.int .i64 k,.int .i64 z,.string s,.slice A li ci,.slice KA lk ck] 53 (0,0)) ∧
 RdX kr.ownBlock w1 (fun b => w0.heap.size + 3 ≤ b ∧ b < w1.heap.size ∧ ir.ownBlock ≠ some b) (fun j => [Value.int .i64 k,.int .i64 z,.string s,.slice A li ci,.slice KA lk ck].getD j undef) t ∧ OSt w0 p kr ir ks cells l ks ts' m w1
def IE (el:ElT) (w0:World) (p:Nat) (kr ir:Value) (ks:List ByteArray) (cells:List Value) (l:List VT) (ts:List Tk) (n:Nat) (u:Value) (w:World):Prop:=∃ t ts' m w1 k z s A li ci KA lk ck,ItR el ts n t ts' m ∧
 RdX kr.ownBlock w1 (fun b => w0.heap.size + 3 ≤ b ∧ b < w1.heap.size ∧ ir.ownBlock ≠ some b) (fun j => [Value.int .i64 k,.int .i64 z,.string s,.slice A li ci,.slice KA lk ck].getD j undef) t ∧ OSt w0 p kr ir ks cells l ks ts' m w1 ∧
 w.ownsRow (w0.heap.size + 3) 53 5 u (l.length + 1) (cells ++ [.int .i64 k,.int .i64 z,.string s,.slice A li ci,.slice KA lk ck]) ∧ (w1.alloc (.cells #[.int .i64 k,.int .i64 z,.string s,.slice A li ci,.slice KA lk ck] 53 (0,0))).grownBy w ir.ownBlock ∧ (u.ownBlock = ir.ownBlock ∨ ∃ g,u.ownBlock = some g ∧ (w1.alloc (.cells #[.int .i64 k,.int .i64 z,.string s,.slice A li ci,.slice KA lk ck] 53 (0,0))).heap.size ≤ g)
def IFin (el:ElT) (w0:World) (p:Nat) (kr:Value) (ks:List ByteArray) (l:List VT) (ts:List Tk) (n:Nat) (w:World):Prop:=∃ t ts' m ir' cells',ItR el ts n t ts' m ∧ OSt w0 p kr ir' ks cells' (l ++ [t]) ks ts' m w
end Go.Proofs.YtfgelheiknmjgaaGreatDoor
namespace Go.Proofs.YtfgelheiknmjgaaGreatDoor
open Go.RowKit
def kdX (x:ByteArray):Nat:=if x = ⟨#[116,121,112,101]⟩ then 1 else if x = ⟨#[105,110,116,101,114,102,97,99,101]⟩ then 2 else if x = ⟨#[117,110,105,111,110]⟩ then 3 else if x = ⟨#[101,110,117,109]⟩ then 4 else if x = ⟨#[105,110,112,117,116]⟩ then 5 else 0
def kdR (t:Tk):Nat:=if t.1 = 2 then kdX ⟨t.2.1.toArray⟩ else 0
end Go.Proofs.YtfgelheiknmjgaaGreatDoor

