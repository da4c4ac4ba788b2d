
/-
 Texts joined: E1f E2 RdS RAppend E3.
-/
import Derived.Test.YtfgelheiknmjgaaGreatDoorZs10
import Derived.Test.YtfgelheiknmjgaaGreatDoorZs7
namespace Go.Proofs.YtfgelheiknmjgaaGreatDoor
open Go.RowKit
abbrev failOps (s:Nat) (ps:String) (c:Int):Array Oper :=
 #[{ dst:=some s,op:=.move (.tmp 0),type := 146,pos:=ps,after:=#[],guard:=none },
  { dst:=some (s + 1),op:=.nilCheck (.tmp s),type:=0,pos:=ps,after:=#[{ on:=0,ground:=.data }],guard:=none },
  { dst:=some (s + 2),op:=.fieldAddr 65 (.tmp (s + 1)) 1,type:=0,pos:=ps,after:=#[{ on:=1,ground:=.data }],guard:=none },
  { dst:=some (s + 3),op:=.load 63 (.tmp (s + 2)),type := 63,pos:=ps,after:=#[{ on:=2,ground:=.data }],guard:=none },
  { dst:=some (s + 4),op:=.move (.tmp 0),type := 146,pos:=ps,after:=#[],guard:=none },
  { dst:=some (s + 5),op:=.call { callee:=.value (.func 52),args:=#[.tmp (s + 4)],argTypes:=#[146] },type := 99,pos:=ps,after:=#[{ on:=4,ground:=.data }],guard:=none },
  { dst:=some (s + 6),op:=.call { callee:=.value (.tmp (s + 3)),args:=#[.tmp (s + 5),.const (.int .i64 c)],argTypes:=#[99, 29] },type:=0,pos:=ps,after:=#[{ on:=3,ground:=.data }, { on:=5,ground:=.data }, { on:=5,ground:=.chain }],guard:=none }]
abbrev malP (x:Er):List PanicEntry:=[{ v:=.iface 61 (.agg #[.int .i64 x.1,.int .i64 x.2]),recovered:=false }]
section
variable {ops:Array Oper} {Q:Exit → Act → World → Prop} {o:Oper} {a:Act} {w:World} {R:Value → World → Prop}
end
end Go.Proofs.YtfgelheiknmjgaaGreatDoor
namespace Go.Proofs.YtfgelheiknmjgaaGreatDoor
open Go.RowKit
def UPost (w:World) (p n:Nat) (r:Except Er (List Tk)) (e:Ending) (w':World):Prop :=
 (∃ ts,r = .ok ts ∧ e = .returned (.tuple #[]) ∧ PSt w' p ts n ∧ Tw p w.heap.size w w') ∨ (∃ x,r = .error x ∧ e = badV x ∧ Tw p w.heap.size w w')
def isWd (s:ByteArray) (ts:List Tk):Bool:=isNm ts && decide ((⟨(hd ts).2.1.toArray⟩ : ByteArray) = s)
def VPost {α:Type} (R:World → (Nat → Prop) → Value → α → Prop) (w:World) (p n:Nat) (r:Except Er (α × List Tk)) (e:Ending) (w':World):Prop :=
 (∃ x ts v,r = .ok (x,ts) ∧ e = .returned v ∧ R w' (fun b => w.heap.size ≤ b ∧ b < w'.heap.size) v x ∧ PSt w' p ts n ∧ Tw p w.heap.size w w') ∨ (∃ x,r = .error x ∧ e = badV x ∧ Tw p w.heap.size w w')
def StrS (_:World) (_:Nat → Prop) (v:Value) (s:ByteArray):Prop:=v = .string s ∧ s.size ≤ 1000000
end Go.Proofs.YtfgelheiknmjgaaGreatDoor
namespace Go.Proofs.YtfgelheiknmjgaaGreatDoor
open Go.RowKit
def KeysS (w:World) (S:Nat → Prop) (K:Option Addr) (keys:List ByteArray):Prop :=
 0 < keys.length → ∃ a,K = some a ∧ S a.block ∧ ∀ i s,keys[i]? = some s → w.cell? (a.add i) = some (.string s)
inductive RdS (w:World) (S:Nat → Prop):Value → VT → Prop
 | mk {k n:Int} {s:ByteArray} {A:Option Addr} {li ci:Nat} {K:Option Addr} {lk ck:Nat} {items:List VT} {keys:List ByteArray} (V:Nat → Value)
    (hk:small k) (hn:small n) (hs:s.size ≤ 140737488351232) (hks:∀ s ∈ keys,s.size ≤ 140737488351232)
    (hli:items.length = li) (hlk:keys.length = lk) (hbi:li * 80 ≤ 140737488351232) (hbk:lk * 16 ≤ 140737488351232 ∧ lk ≤ ck)
    (hA:0 < li → ∃ a,A = some a ∧ S a.block ∧ ∀ i,i < li → C5 w (a.add (i * 5)) (V i))
    (hr:∀ (i:Nat) (t:VT),items[i]? = some t → RdS w S (V i) t)
    (hK:KeysS w S K keys) :
    RdS w S (.agg #[.int .i64 k,.int .i64 n,.string s,.slice A li ci,.slice K lk ck]) (.mk k n s items keys)
def Elems (w:World) (S:Nat → Prop) (xs:List Value) (ts:List VT):Prop :=
 ∀ i t,ts[i]? = some t → ∃ c0 c1 c2 c3 c4,xs[i * 5]? = some c0 ∧ xs[i * 5 + 1]? = some c1 ∧ xs[i * 5 + 2]? = some c2 ∧ xs[i * 5 + 3]? = some c3 ∧ xs[i * 5 + 4]? = some c4 ∧ RdS w S (.agg #[c0,c1,c2,c3,c4]) t
end Go.Proofs.YtfgelheiknmjgaaGreatDoor
namespace Go.Proofs.YtfgelheiknmjgaaGreatDoor
open Go.RowKit
end Go.Proofs.YtfgelheiknmjgaaGreatDoor
namespace Go.Proofs.YtfgelheiknmjgaaGreatDoor
open Go.RowKit
abbrev RelS (α:Type):=World → (Nat → Prop) → (Nat → Value) → α → Prop
structure StayS {α:Type} (R:RelS α):Prop where
 kept:∀ {w w':World} {S S':Nat → Prop} {f:Nat → Value} {x : α},R w S f x → (∀ b,S b → w'.heap[b]? = w.heap[b]?) → (∀ b,S b → S' b) → R w' S' f x
def SlS {α:Type} (k bytes:Nat) (R:RelS α) (w:World) (S:Nat → Prop) (v:Value) (xs:List α):Prop :=
 ∃ A c,v = .slice A xs.length c ∧ xs.length ≤ c ∧ xs.length * bytes ≤ big ∧ ∃ V:Nat → Nat → Value,
  (0 < xs.length → ∃ a,A = some a ∧ S a.block ∧ ∀ i,i < xs.length → ∀ j,j < k → w.cell? (at_ (a.add (i * k)) j) = some (V i j)) ∧ ∀ i x,xs[i]? = some x → R w S (V i) x
def StrC:RelS ByteArray:=fun _ _ f s => f 0 = .string s ∧ s.size ≤ big
def IntC:RelS Int:=fun _ _ f n => f 0 = .int .i64 n ∧ small n
def WrapsC:=SlS 1 8 IntC
def NamesC:=SlS 1 16 StrC
structure RfC (w:World) (S:Nat → Prop) (c0 c1:Value) (n:ByteArray) (xs:List Int):Prop where
 name:c0 = .string n
 size:n.size ≤ big
 wraps:WrapsC w S c1 xs
structure ArgC (w:World) (S:Nat → Prop) (f:Nat → Value) (x:ByteArray × VT):Prop where
 name:f 0 = .string x.1
 size:x.1.size ≤ big
 val:RdS w S (.agg #[f 1,f 2,f 3,f 4,f 5]) x.2
def ArgsC:=SlS 6 96 ArgC
structure DirC (w:World) (S:Nat → Prop) (f:Nat → Value) (x:DirT):Prop where
 name:f 0 = .string x.name
 size:x.name.size ≤ big
 args:ArgsC w S (f 1) x.args
def DirsC:=SlS 2 40 DirC
structure InpC (w:World) (S:Nat → Prop) (f:Nat → Value) (x:InpT):Prop where
 name:f 0 = .string x.name
 size:x.name.size ≤ big
 type:RfC w S (f 1) (f 2) x.tn x.tw
 has:f 3 = .bool x.has
 val:RdS w S (.agg #[f 4,f 5,f 6,f 7,f 8]) x.dflt
 dirs:DirsC w S (f 9) x.dirs
def InpsC:=SlS 10 168 InpC
structure FldC (w:World) (S:Nat → Prop) (f:Nat → Value) (x:FldT):Prop where
 name:f 0 = .string x.name
 size:x.name.size ≤ big
 args:InpsC w S (f 1) x.args
 type:RfC w S (f 2) (f 3) x.tn x.tw
 dirs:DirsC w S (f 4) x.dirs
def FldsC:=SlS 5 104 FldC
structure MemC (w:World) (S:Nat → Prop) (f:Nat → Value) (x:MemT):Prop where
 name:f 0 = .string x.name
 size:x.name.size ≤ big
 dirs:DirsC w S (f 1) x.dirs
def MemsC:=SlS 2 40 MemC
structure DefC (w:World) (S:Nat → Prop) (f:Nat → Value) (x:DefT):Prop where
 kind:f 0 = .int .i64 x.kind
 small:small x.kind
 name:f 1 = .string x.name
 size:x.name.size ≤ big
 impl:NamesC w S (f 2) x.impl
 dirs:DirsC w S (f 3) x.dirs
 fields:FldsC w S (f 4) x.fields
 members:MemsC w S (f 5) x.members
 inputs:InpsC w S (f 6) x.inputs
def DefsC:=SlS 7 144 DefC
section
variable {w:World} {S:Nat → Prop} {B:Nat} (hs:∀ b,S b → b < B)
include hs
end
def Apart (base:Nat) (w:World) (v:Value) (b:Nat):Prop:=base ≤ b ∧ b < w.heap.size ∧ v.ownBlock ≠ some b
structure Els {α:Type} (T:TypeId) (k:Nat) (R:RelS α) (w:World) (base:Nat) (v:Value) (cells:List Value) (xs:List α):Prop where
 own:w.ownsRow base T k v xs.length cells
 els:∀ i x,xs[i]? = some x → R w (Apart base w v) (fun j => cells.getD (i * k + j) undef) x
end Go.Proofs.YtfgelheiknmjgaaGreatDoor

