
/-
 Texts joined: G3 H2 I1 I2.
-/
import Derived.Test.YtfgelheiknmjgaaGreatDoorZs12
import Derived.Test.YtfgelheiknmjgaaGreatDoorZs21
import Derived.Test.YtfgelheiknmjgaaGreatDoorZs7
import Derived.Test.YtfgelheiknmjgaaGreatDoorZs17
namespace Go.Proofs.YtfgelheiknmjgaaGreatDoor
open Go.RowKit Go.Maps
def SnAt (w:World) (b:Nat) (keys:List ByteArray):Prop:=w.ownsMap Tryz.prog 9 (plainElem Tryz.prog 4) b keys.length (setD keys)
def keyP (ks:List ByteArray) (ts:List Tk):Except Er (ByteArray × List Tk):=exB (nmR ts) fun q => if q.1 ∈ ks then .error (erR ts 7) else .ok q
structure Tw2 (p m:Nat) (w w':World):Prop where
 os:w'.os = w.os
 tape:w'.tape = w.tape
 output:w'.output = w.output
 size:w.heap.size ≤ w'.heap.size
 block:∀ k,k < w.heap.size → k ≠ p → k ≠ m → w'.heap[k]? = w.heap[k]?
def KeyPost (w:World) (p mb n len:Nat) (ks:List ByteArray) (r:Except Er (ByteArray × List Tk)) (e:Ending) (w':World):Prop :=
 (∃ x ts,r = .ok (x,ts) ∧ e = .returned (.string x) ∧ PSt w' p ts n ∧ SnAt w' mb (ks ++ [x]) ∧ x.size ≤ 1000000 ∧ ts.length < len ∧ Tw2 p mb w w') ∨ (∃ x,r = .error x ∧ e = badV x ∧ Tw2 p mb w w')
end Go.Proofs.YtfgelheiknmjgaaGreatDoor
namespace Go.Proofs.YtfgelheiknmjgaaGreatDoor
open Go.RowKit
def Ph4 (W1:World) (p mb n:Nat) (ks:List ByteArray) (ts:List Tk) (x:ByteArray) (w:World):Prop :=
 ∃ ts',keyP ks ts = .ok (x,ts') ∧ PSt w p ts' n ∧ SnAt w mb (ks ++ [x]) ∧ x.size ≤ 1000000 ∧ ts'.length < ts.length ∧ Tw2 p mb W1 w
def Ph6 (W1:World) (p mb n base:Nat) (ks:List ByteArray) (ts:List Tk) (row:Value) (x:ByteArray) (u:Value) (w:World):Prop :=
 ∃ w4,Ph4 W1 p mb n ks ts x w4 ∧ w.ownsRow base 9 1 u (ks.length + 1) (ks.map Value.string ++ [.string x]) ∧ (w4.alloc (.cells #[.string x] 9 (0,0))).grownBy w row.ownBlock ∧ (u.ownBlock = row.ownBlock ∨ ∃ g,u.ownBlock = some g ∧ (w4.alloc (.cells #[.string x] 9 (0,0))).heap.size ≤ g)
structure KJ (W1:World) (p mb vb n base:Nat) (ks:List ByteArray) (ts:List Tk) (row:Value) (d:Nat → Bool) (v:Nat → Value) (w:World):Prop where
 v0:d 0 = true → v 0 = .pointer (some ⟨vb,4,none⟩)
 v1:d 1 = true → v 1 = row
 v2:d 2 = true → v 2 = pP p
 v3:d 3 = true → v 3 = .map (some mb)
 v7:d 7 = true → v 7 = .pointer (some ⟨vb,4,none⟩)
 o5:d 5 = true → d 4 = true
 o6:d 6 = true → d 5 = true ∧ d 1 = true
 o8:d 8 = true → d 6 = true
 f0:d 4 = false → w = W1
 f4:d 4 = true → d 5 = false → ∃ x,v 4 = .string x ∧ Ph4 W1 p mb n ks ts x w
 f5:d 5 = true → d 6 = false → ∃ x w4,v 5 = .slice (some ⟨w4.heap.size,0,none⟩) 1 1 ∧ Ph4 W1 p mb n ks ts x w4 ∧ w = w4.alloc (.cells #[.string x] 9 (0,0))
 f6:d 6 = true → d 8 = false → ∃ x,Ph6 W1 p mb n base ks ts row x (v 6) w
 f8:d 8 = true → ∃ x u w6,Ph6 W1 p mb n base ks ts row x u w6 ∧ w = w6.setCell ⟨vb,4,none⟩ u
end Go.Proofs.YtfgelheiknmjgaaGreatDoor
namespace Go.Proofs.YtfgelheiknmjgaaGreatDoor
open Go.RowKit
def RdX (o:Option Nat):RelS VT:=fun w S f t => RdC w (fun b => S b ∧ o ≠ some b) f t
def zeroV5:Array Value:=#[.int .i64 0,.int .i64 0,.string ⟨#[]⟩,.slice none 0 0,.slice none 0 0]
structure OSt (w0:World) (p:Nat) (kr ir:Value) (ks:List ByteArray) (cells:List Value) (l:List VT) (sk:List ByteArray) (ts:List Tk) (n:Nat) (w:World):Prop where
 pst:PSt w p ts n
 sn:SnAt w (w0.heap.size + 2) sk
 box:Bk w (w0.heap.size + 1) #[.int .i64 6,.int .i64 0,.string ⟨#[]⟩,ir,kr] 53
 kown:w.ownsRow (w0.heap.size + 3) 9 1 kr ks.length (ks.map Value.string)
 els:Els 53 5 (RdX kr.ownBlock) w (w0.heap.size + 3) ir cells l
 apart:∀ b,ir.ownBlock = some b → kr.ownBlock ≠ some b
 res:Bk w w0.heap.size zeroV5 53
 tw:Tw p w0.heap.size w0 w
 op:p < w0.heap.size
 size:w0.heap.size + 3 ≤ w.heap.size
 ksz:∀ s ∈ sk,s.size ≤ 1000000
variable {w0 w w':World} {p n m:Nat} {kr ir:Value} {ks sk sk':List ByteArray} {cells:List Value} {l:List VT} {ts ts':List Tk}
def obP (el:ElT):Nat → List ByteArray → List VT → List Tk → Nat → Except Er (List ByteArray × List VT × List Tk × Nat)
 | 0,_,_,_,_ => .error (0,99)
 | f + 1,ks,l,ts,n => if isSg [125] ts = true then .ok (ks,l,ts.tail,n) else exB (keyP ks ts) fun q => exB (sgR [58] q.2) fun t2 => exB (el t2 n) fun r => obP el f (ks ++ [q.1]) (l ++ [r.1]) r.2.1 r.2.2
theorem zG7 (el:ElT) (f:Nat) (ks:List ByteArray) (l:List VT) (ts:List Tk) (n:Nat):obP el (f + 1) ks l ts n = if isSg [125] ts = true then .ok (ks,l,ts.tail,n) else exB (keyP ks ts) fun q => exB (sgR [58] q.2) fun t2 => exB (el t2 n) fun r => obP el f (ks ++ [q.1]) (l ++ [r.1]) r.2.1 r.2.2:=rfl
def obV (el:ElT):ElT:=fun ts n => exB (obP el (ts.length + 1) [] [] ts n) fun q => .ok (.mk 6 0 ⟨#[]⟩ q.2.1 q.1,q.2.2.1,q.2.2.2)
end Go.Proofs.YtfgelheiknmjgaaGreatDoor
namespace Go.Proofs.YtfgelheiknmjgaaGreatDoor
open Go.RowKit
section
variable {ops:Array Oper} {Q:Exit → Act → World → Prop} {o:Oper} {a:Act} {w:World} {R:Value → World → Prop}
end
end Go.Proofs.YtfgelheiknmjgaaGreatDoor

