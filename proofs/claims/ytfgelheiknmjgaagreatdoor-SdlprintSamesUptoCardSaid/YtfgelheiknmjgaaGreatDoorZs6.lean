
/-
 Texts joined: D0 YPure N0 D1Dir D1Def D1Str D1Fld D1Mem D1Inp D1Arg D2 NB LaidP.
-/
import Derived.Test.YtfgelheiknmjgaaGreatDoorZs5
import Derived.WalkKit
import Derived.Test.YtfgelheiknmjgaaGreatDoorZs1
import Derived.Lib.ItoaLen
import Derived.Test.YtfgelheiknmjgaaGreatDoorZs3
import Derived.Shelf.Strings.BuilderK
import Derived.Test.YtfgelheiknmjgaaGreatDoorCards
import Derived.Test.YtfgelheiknmjgaaGreatDoorTie
import Derived.Deep.DeepWitnessRowRef
import Derived.Stop.LaidErr
import Derived.OpenShut
import Derived.Lay
namespace Go.Proofs.YtfgelheiknmjgaaGreatDoor
open Go.RowKit
def at_ (a:Addr):Nat → Addr
 | 0 => a
 | j + 1 => ⟨a.block,a.off + (j + 1),none⟩
theorem za7 (a:Addr) (j:Nat):(at_ a j).block = a.block:=by cases j <;> rfl
abbrev big:Nat:=140737488351232
structure Stays {α:Type} (R:World → Nat → (Nat → Value) → α → Prop):Prop where
 kept:∀ {w w':World} {B:Nat} {f:Nat → Value} {x : α},R w B f x → Below B w w' → R w' B f x
 mono:∀ {w:World} {B B':Nat} {f:Nat → Value} {x : α},R w B f x → B ≤ B' → R w B' f x
def Sl {α:Type} (k bytes:Nat) (R:World → Nat → (Nat → Value) → α → Prop) (w:World) (B:Nat) (v:Value) (xs:List α):Prop :=
 ∃ A c,v = .slice A xs.length c ∧ xs.length ≤ c ∧ xs.length * bytes ≤ big ∧ ∃ V:Nat → Nat → Value,
  (0 < xs.length → ∃ a,A = some a ∧ a.block < B ∧ ∀ i,i < xs.length → ∀ j,j < k → w.cell? (at_ (a.add (i * k)) j) = some (V i j)) ∧ ∀ i x,xs[i]? = some x → R w B (V i) x
theorem Sl.kept {α:Type} {k bytes:Nat} {R:World → Nat → (Nat → Value) → α → Prop} (hR:Stays R) {w w':World} {B:Nat} {v:Value} {xs:List α} (h:Sl k bytes R w B v xs) (hw:Below B w w'):Sl k bytes R w' B v xs:=by
 obtain ⟨A,c,e,hc,hb,V,hA,hr⟩:=h
 refine ⟨A,c,e,hc,hb,V,fun h0 => ?_,fun i x hx => hR.kept (hr i x hx) hw⟩
 obtain ⟨a,ea,ha,hx⟩:=hA h0
 exact ⟨a,ea,ha,fun i hi j hj => (hw.cell (by rw [za7,za1]; exact ha)).trans (hx i hi j hj)⟩
theorem Sl.mono {α:Type} {k bytes:Nat} {R:World → Nat → (Nat → Value) → α → Prop} (hR:Stays R) {w:World} {B B':Nat} {v:Value} {xs:List α} (h:Sl k bytes R w B v xs) (hB:B ≤ B'):Sl k bytes R w B' v xs:=by
 obtain ⟨A,c,e,hc,hb,V,hA,hr⟩:=h
 refine ⟨A,c,e,hc,hb,V,fun h0 => ?_,fun i x hx => hR.mono (hr i x hx) hB⟩
 obtain ⟨a,ea,ha,hx⟩:=hA h0
 exact ⟨a,ea,Nat.lt_of_lt_of_le ha hB,hx⟩
structure DirT where
 name:ByteArray
 args:List (ByteArray × VT)
structure InpT where
 name:ByteArray
 tn:ByteArray
 tw:List Int
 has:Bool
 dflt:VT
 dirs:List DirT
structure FldT where
 name:ByteArray
 args:List InpT
 tn:ByteArray
 tw:List Int
 dirs:List DirT
structure MemT where
 name:ByteArray
 dirs:List DirT
structure DefT where
 kind:Int
 name:ByteArray
 impl:List ByteArray
 dirs:List DirT
 fields:List FldT
 members:List MemT
 inputs:List InpT
def StrR (_:World) (_:Nat) (f:Nat → Value) (s:ByteArray):Prop:=f 0 = .string s ∧ s.size ≤ big
def IntR (_:World) (_:Nat) (f:Nat → Value) (n:Int):Prop:=f 0 = .int .i64 n ∧ small n
def WrapsR:=Sl 1 8 IntR
def NamesR:=Sl 1 16 StrR
structure RfR (w:World) (B:Nat) (c0 c1:Value) (n:ByteArray) (xs:List Int):Prop where
 name:c0 = .string n
 size:n.size ≤ big
 wraps:WrapsR w B c1 xs
structure ArgR (w:World) (B:Nat) (f:Nat → Value) (x:ByteArray × VT):Prop where
 name:f 0 = .string x.1
 size:x.1.size ≤ big
 val:Rd w B (.agg #[f 1,f 2,f 3,f 4,f 5]) x.2
def ArgsR:=Sl 6 96 ArgR
structure DirR (w:World) (B:Nat) (f:Nat → Value) (x:DirT):Prop where
 name:f 0 = .string x.name
 size:x.name.size ≤ big
 args:ArgsR w B (f 1) x.args
def DirsR:=Sl 2 40 DirR
structure InpR (w:World) (B:Nat) (f:Nat → Value) (x:InpT):Prop where
 name:f 0 = .string x.name
 size:x.name.size ≤ big
 type:RfR w B (f 1) (f 2) x.tn x.tw
 has:f 3 = .bool x.has
 val:Rd w B (.agg #[f 4,f 5,f 6,f 7,f 8]) x.dflt
 dirs:DirsR w B (f 9) x.dirs
def InpsR:=Sl 10 168 InpR
structure FldR (w:World) (B:Nat) (f:Nat → Value) (x:FldT):Prop where
 name:f 0 = .string x.name
 size:x.name.size ≤ big
 args:InpsR w B (f 1) x.args
 type:RfR w B (f 2) (f 3) x.tn x.tw
 dirs:DirsR w B (f 4) x.dirs
def FldsR:=Sl 5 104 FldR
structure MemR (w:World) (B:Nat) (f:Nat → Value) (x:MemT):Prop where
 name:f 0 = .string x.name
 size:x.name.size ≤ big
 dirs:DirsR w B (f 1) x.dirs
def MemsR:=Sl 2 40 MemR
structure DefR (w:World) (B:Nat) (f:Nat → Value) (x:DefT):Prop where
 kind:f 0 = .int .i64 x.kind
 small:small x.kind
 name:f 1 = .string x.name
 size:x.name.size ≤ big
 impl:NamesR w B (f 2) x.impl
 dirs:DirsR w B (f 3) x.dirs
 fields:FldsR w B (f 4) x.fields
 members:MemsR w B (f 5) x.members
 inputs:InpsR w B (f 6) x.inputs
def DefsR:=Sl 7 144 DefR
theorem StrR.stays:Stays StrR:=⟨fun h _ => h,fun h _ => h⟩
theorem IntR.stays:Stays IntR:=⟨fun h _ => h,fun h _ => h⟩
section
variable {w w':World} {B B':Nat}
theorem WrapsR.kept {v:Value} {xs:List Int} (h:WrapsR w B v xs) (hb:Below B w w'):WrapsR w' B v xs:=Sl.kept IntR.stays h hb
theorem WrapsR.mono {v:Value} {xs:List Int} (h:WrapsR w B v xs) (hb:B ≤ B'):WrapsR w B' v xs:=Sl.mono IntR.stays h hb
theorem NamesR.kept {v:Value} {xs:List ByteArray} (h:NamesR w B v xs) (hb:Below B w w'):NamesR w' B v xs:=Sl.kept StrR.stays h hb
theorem NamesR.mono {v:Value} {xs:List ByteArray} (h:NamesR w B v xs) (hb:B ≤ B'):NamesR w B' v xs:=Sl.mono StrR.stays h hb
theorem RfR.kept {c0 c1:Value} {n:ByteArray} {xs:List Int} (h:RfR w B c0 c1 n xs) (hb:Below B w w'):RfR w' B c0 c1 n xs:=⟨h.name,h.size,h.wraps.kept hb⟩
theorem RfR.mono {c0 c1:Value} {n:ByteArray} {xs:List Int} (h:RfR w B c0 c1 n xs) (hb:B ≤ B'):RfR w B' c0 c1 n xs:=⟨h.name,h.size,h.wraps.mono hb⟩
theorem ArgR.stays:Stays ArgR:=⟨fun h hb => ⟨h.name,h.size,h.val.kept hb⟩,fun h hb => ⟨h.name,h.size,h.val.mono hb⟩⟩
theorem ArgsR.kept {v:Value} {xs:List (ByteArray × VT)} (h:ArgsR w B v xs) (hb:Below B w w'):ArgsR w' B v xs:=Sl.kept ArgR.stays h hb
theorem ArgsR.mono {v:Value} {xs:List (ByteArray × VT)} (h:ArgsR w B v xs) (hb:B ≤ B'):ArgsR w B' v xs:=Sl.mono ArgR.stays h hb
theorem DirR.stays:Stays DirR:=⟨fun h hb => ⟨h.name,h.size,h.args.kept hb⟩,fun h hb => ⟨h.name,h.size,h.args.mono hb⟩⟩
theorem DirsR.kept {v:Value} {xs:List DirT} (h:DirsR w B v xs) (hb:Below B w w'):DirsR w' B v xs:=Sl.kept DirR.stays h hb
theorem DirsR.mono {v:Value} {xs:List DirT} (h:DirsR w B v xs) (hb:B ≤ B'):DirsR w B' v xs:=Sl.mono DirR.stays h hb
theorem InpR.stays:Stays InpR:=⟨fun h hb => ⟨h.name,h.size,h.type.kept hb,h.has,h.val.kept hb,h.dirs.kept hb⟩,fun h hb => ⟨h.name,h.size,h.type.mono hb,h.has,h.val.mono hb,h.dirs.mono hb⟩⟩
theorem InpsR.kept {v:Value} {xs:List InpT} (h:InpsR w B v xs) (hb:Below B w w'):InpsR w' B v xs:=Sl.kept InpR.stays h hb
theorem InpsR.mono {v:Value} {xs:List InpT} (h:InpsR w B v xs) (hb:B ≤ B'):InpsR w B' v xs:=Sl.mono InpR.stays h hb
theorem FldR.stays:Stays FldR:=⟨fun h hb => ⟨h.name,h.size,h.args.kept hb,h.type.kept hb,h.dirs.kept hb⟩,fun h hb => ⟨h.name,h.size,h.args.mono hb,h.type.mono hb,h.dirs.mono hb⟩⟩
theorem FldsR.kept {v:Value} {xs:List FldT} (h:FldsR w B v xs) (hb:Below B w w'):FldsR w' B v xs:=Sl.kept FldR.stays h hb
theorem FldsR.mono {v:Value} {xs:List FldT} (h:FldsR w B v xs) (hb:B ≤ B'):FldsR w B' v xs:=Sl.mono FldR.stays h hb
theorem MemR.stays:Stays MemR:=⟨fun h hb => ⟨h.name,h.size,h.dirs.kept hb⟩,fun h hb => ⟨h.name,h.size,h.dirs.mono hb⟩⟩
theorem MemsR.kept {v:Value} {xs:List MemT} (h:MemsR w B v xs) (hb:Below B w w'):MemsR w' B v xs:=Sl.kept MemR.stays h hb
theorem MemsR.mono {v:Value} {xs:List MemT} (h:MemsR w B v xs) (hb:B ≤ B'):MemsR w B' v xs:=Sl.mono MemR.stays h hb
theorem DefR.stays:Stays DefR:=⟨fun h hb => ⟨h.kind,h.small,h.name,h.size,h.impl.kept hb,h.dirs.kept hb,h.fields.kept hb,h.members.kept hb,h.inputs.kept hb⟩,fun h hb => ⟨h.kind,h.small,h.name,h.size,h.impl.mono hb,h.dirs.mono hb,h.fields.mono hb,h.members.mono hb,h.inputs.mono hb⟩⟩
theorem DefsR.kept {v:Value} {xs:List DefT} (h:DefsR w B v xs) (hb:Below B w w'):DefsR w' B v xs:=Sl.kept DefR.stays h hb
theorem DefsR.mono {v:Value} {xs:List DefT} (h:DefsR w B v xs) (hb:B ≤ B'):DefsR w B' v xs:=Sl.mono DefR.stays h hb
end
theorem Sl.form {α:Type} {k bytes:Nat} {R:World → Nat → (Nat → Value) → α → Prop} {w:World} {B:Nat} {v:Value} {xs:List α} (h:Sl k bytes R w B v xs):∃ A c,v = .slice A xs.length c ∧ xs.length ≤ c ∧ xs.length * bytes ≤ big:=by
 obtain ⟨A,c,e,hc,hb,_⟩:=h; exact ⟨A,c,e,hc,hb⟩
theorem Rd.form {w:World} {B:Nat} {c0 c1 c2 c3 c4:Value} {t:VT} (h:Rd w B (.agg #[c0,c1,c2,c3,c4]) t):∃ (k n:Int) (s:ByteArray) (A:Option Addr) (li ci:Nat) (K:Option Addr) (lk ck:Nat),c0 = .int .i64 k ∧ c1 = .int .i64 n ∧ c2 = .string s ∧ c3 = .slice A li ci ∧ c4 = .slice K lk ck:=by
 cases h with
 | mk V => exact ⟨_,_,_,_,_,_,_,_,_,rfl,rfl,rfl,rfl,rfl⟩
end Go.Proofs.YtfgelheiknmjgaaGreatDoor
namespace Go.Proofs.YtfgelheiknmjgaaGreatDoor.K
abbrev Ws:=List Int
def strL (ws:Ws):Ws:=ws.filter (fun w => decide (w ≠ 1))
def lvL:Bool → Ws → List Bool
 | b,[] => [b]
 | b,w :: r => if w = 1 then lvL true r else b :: lvL false r
def bitL (b:Bool):Ws:=if b = true then [1] else []
def mrL (r:List Bool):Ws:=r.flatMap fun c => 2 :: bitL c
def wlL:List Bool → Ws
 | [] => []
 | b :: r => bitL b ++ mrL r
def rtF:Bool → Ws → Bool
 | _,[] => true
 | p,w :: r => (w == 2 || (w == 1 && !p)) && rtF (w == 1) r
def lv (ws:Ws):List Bool:=lvL false ws
theorem zx5:∀ (ws:Ws) (b:Bool),(lvL b ws).length = (strL ws).length + 1
 | [],b => rfl
 | w :: r,b => by
   by_cases h:w = 1
   ·rw [show lvL b (w :: r) = lvL true r by simp [lvL,h],show strL (w :: r) = strL r by simp [strL,h]]; exact zx5 r true
   ·rw [show lvL b (w :: r) = b :: lvL false r by simp [lvL,h],show strL (w :: r) = w :: strL r by simp [strL,h],List.length_cons,List.length_cons,zx5 r false]
theorem lv_len (ws:Ws):(lv ws).length = (strL ws).length + 1:=zx5 ws false
theorem str_app (a b:Ws):strL (a ++ b) = strL a ++ strL b:=List.filter_append _ _
theorem mr_lv:∀ (ws:Ws),(rtF false ws = true → wlL (lvL false ws) = ws) ∧ (rtF true ws = true → wlL (lvL true ws) = 1 :: ws)
 | [] => ⟨fun _ => rfl,fun _ => rfl⟩
 | w :: r => by
   have ih:=mr_lv r
   have hm:∀ b,rtF false r = true → wlL (b :: lvL false r) = bitL b ++ 2 :: r:=fun b h => by
    have:=ih.1 h
    generalize hx:lvL false r = x at this
    cases x with
    | nil => have:=zx5 r false; rw [hx] at this; simp at this
    | cons c x => show bitL b ++ (2 :: bitL c ++ mrL x) = _; rw [← this]; rfl
   refine ⟨fun h => ?_,fun h => ?_⟩
   ·unfold rtF at h
    by_cases h1:w = 1
    ·subst h1; simp at h; unfold lvL; simpa using ih.2 h
    ·simp [h1] at h; obtain ⟨rfl,h⟩:=h; unfold lvL; simp; exact hm false h
   ·unfold rtF at h
    simp at h
    obtain ⟨rfl,h⟩:=h
    unfold lvL; simp; exact hm true h
theorem wl_lv {ws:Ws} (h:rtF false ws = true):wlL (lv ws) = ws:=(mr_lv ws).1 h
def endB (w:Int):UInt8:=if w = 1 then 33 else 93
def prL (n:List UInt8) (ws:Ws):List UInt8:=List.replicate (strL ws).length 91 ++ n ++ ws.reverse.map endB
abbrev K2:=Int × List UInt8
def sgB (c:UInt8) (ts:List K2):Bool:=match ts with | [] => false | p :: _ => decide (p.1 = 1 ∧ p.2 = [c])
def cntO:List K2 → Nat
 | [] => 0
 | p :: r => if p.1 = 1 ∧ p.2 = [91] then cntO r + 1 else 0
def bangR (ws:Ws) (ts:List K2):Ws × List K2:=if sgB 33 ts = true then (ws ++ [1],ts.tail) else (ws,ts)
def clsR:Nat → Ws → List K2 → Option (Ws × List K2)
 | 0,ws,ts => some (ws,ts)
 | k + 1,ws,ts => if sgB 93 ts = true then clsR k (bangR (ws ++ [2]) ts.tail).1 (bangR (ws ++ [2]) ts.tail).2 else none
def nmO (ts:List K2):Option (List UInt8):=match ts with | [] => none | p :: _ => if p.1 = 2 then some p.2 else none
def refP (ts:List K2):Option (List UInt8 × Ws × List K2) :=
 match nmO (ts.drop (cntO ts)) with
 | none => none
 | some n => match clsR (cntO ts) (bangR [] (ts.drop (cntO ts)).tail).1 (bangR [] (ts.drop (cntO ts)).tail).2 with
   | none => none
   | some (ws,r) => some (n,ws.reverse,r)
end Go.Proofs.YtfgelheiknmjgaaGreatDoor.K
namespace Go.Proofs.YtfgelheiknmjgaaGreatDoor
open Go.RowKit
def jn (sep:List UInt8):List (List UInt8) → List UInt8
 | [] => []
 | a :: r => a ++ (r.map (fun x => sep ++ x)).flatten
theorem jn_nil (sep:List UInt8):jn sep [] = []:=rfl
theorem jn_snoc (sep:List UInt8) (xs:List (List UInt8)) (a:List UInt8):jn sep (xs ++ [a]) = jn sep xs ++ ((if xs.length = 0 then [] else sep) ++ a):=by
 cases xs with
 | nil => simp [jn]
 | cons x r => simp [jn]
theorem zw9 {α:Type} {xs:List α} {j:Nat} {a : α} (h:xs[j]? = some a):xs.take (j + 1) = xs.take j ++ [a]:=by
 obtain ⟨hj,e⟩:=List.getElem?_eq_some_iff.1 h
 rw [List.take_succ_eq_append_getElem hj,e]
theorem zl0 (sep:List UInt8) {xs:List (List UInt8)} {j:Nat} {a:List UInt8} (h:xs[j]? = some a):jn sep (xs.take (j + 1)) = jn sep (xs.take j) ++ ((if j = 0 then [] else sep) ++ a):=by
 obtain ⟨hj,_⟩:=List.getElem?_eq_some_iff.1 h
 rw [zw9 h,jn_snoc,List.length_take,Nat.min_eq_left (by omega)]
theorem jn_mono (sep:List UInt8) (xs:List (List UInt8)):∀ (j:Nat),(jn sep (xs.take j)).length ≤ (jn sep xs).length:=by
 intro j
 cases xs with
 | nil => simp
 | cons x r =>
   cases j with
   | zero => simp [jn]
   | succ j =>
     simp only [List.take_succ_cons,jn,List.length_append]
     have:(List.map (fun x => sep ++ x) r).flatten.length = (List.map (fun x => sep ++ x) (r.take j)).flatten.length + (List.map (fun x => sep ++ x) (r.drop j)).flatten.length:=by
      rw [← List.length_append, ← List.flatten_append, ← List.map_append,List.take_append_drop]
     omega
theorem ze8 (sep:List UInt8) {xs:List (List UInt8)} {j:Nat} {a:List UInt8} (h:xs[j]? = some a):(jn sep (xs.take j)).length + ((if j = 0 then [] else sep:List UInt8)).length + a.length ≤ (jn sep xs).length:=by
 have:=jn_mono sep xs (j + 1)
 rw [zl0 sep h] at this
 simp only [List.length_append] at this ⊢
 omega
def bL (s:ByteArray):List UInt8:=s.data.toList
theorem za4 (s:ByteArray):(bL s).length = s.size:=by unfold bL; rw [Array.length_toList]; rfl
theorem za2 (l:List UInt8):(⟨l.toArray⟩ : ByteArray).size = l.length:=rfl
theorem za6 (l:List UInt8):bL ⟨l.toArray⟩ = l:=rfl
def nullB:List UInt8:=[110,117,108,108]
def falseB:List UInt8:=[102,97,108,115,101]
def trueB:List UInt8:=[116,114,117,101]
def qL (s:ByteArray):List UInt8:=T1.zf9 s.data.toList
mutual
def VT.src:VT → List UInt8
 | .mk k n s items keys =>
   if k = 0 then nullB else if k = 1 then (if n = 0 then falseB else trueB) else if k = 2 then Lib.itoa n else if k = 3 then qL s else if k = 4 then bL s
   else if k = 5 then 91 :: (jn [44,32] (VT.srcs items) ++ [93]) else if k = 6 then 123 :: (jn [44,32] (List.zipWith (fun a b => bL a ++ (58 :: 32 :: b)) keys (VT.srcs items)) ++ [125])
   else if k = 7 then 36 :: bL s else []
def VT.srcs:List VT → List (List UInt8)
 | [] => []
 | t :: r => t.src :: VT.srcs r
end
theorem zF9:∀ l:List VT,VT.srcs l = l.map VT.src
 | [] => rfl
 | t :: r => by rw [VT.srcs,zF9 r]; rfl
def zf0 (keys:List ByteArray) (items:List VT):List (List UInt8):=List.zipWith (fun a b => bL a ++ (58 :: 32 :: b)) keys (items.map VT.src)
theorem zk5 (k n:Int) (s:ByteArray) (items:List VT) (keys:List ByteArray):(VT.mk k n s items keys).src =
  if k = 0 then nullB else if k = 1 then (if n = 0 then falseB else trueB) else if k = 2 then Lib.itoa n else if k = 3 then qL s else if k = 4 then bL s
  else if k = 5 then 91 :: (jn [44,32] (items.map VT.src) ++ [93]) else if k = 6 then 123 :: (jn [44,32] (zf0 keys items) ++ [125])
  else if k = 7 then 36 :: bL s else []:=by
 rw [VT.src,zF9]; rfl
mutual
def VT.fit:VT → Prop
 | .mk k n s items keys => (0 ≤ k ∧ k ≤ 7) ∧ (k = 1 → n = 0 ∨ n = 1) ∧ (k = 6 → keys.length = items.length) ∧ (k = 4 → 0 < s.size) ∧ s.size ≤ 1099511627776 ∧ VT.fits items
def VT.fits:List VT → Prop
 | [] => True
 | t :: r => t.fit ∧ VT.fits r
end
theorem zR0:∀ {l:List VT} {i:Nat} {t:VT},VT.fits l → l[i]? = some t → t.fit
 | [],i,t,_,h => by simp at h
 | x :: r,0,t,hf,h => by simp at h; subst h; rw [VT.fits] at hf; exact hf.1
 | x :: r,i + 1,t,hf,h => by rw [VT.fits] at hf; exact zR0 hf.2 (by simpa using h)
theorem zQ9:∀ {l:List VT},(∀ t ∈ l,t.fit) → VT.fits l
 | [],_ => trivial
 | x :: r,h => ⟨h x (by simp),zQ9 fun t ht => h t (by simp [ht])⟩
def zr4 (x:ByteArray × VT):List UInt8:=bL x.1 ++ ([58,32] ++ x.2.src)
def zr2 (d:DirT):List UInt8:=[64] ++ (bL d.name ++ (if d.args.length = 0 then [] else [40] ++ (jn [44,32] (d.args.map zr4) ++ [41])))
def zy0 (l:List DirT):List UInt8:=jn [32] (l.map zr2)
def zb5 (l:List DirT):List UInt8:=if l.length = 0 then [] else [32] ++ zy0 l
def zk8 (n:ByteArray) (ws:List Int):List UInt8:=K.prL n.data.toList ws
def zi3 (x:InpT):List UInt8:=bL x.name ++ ([58,32] ++ (zk8 x.tn x.tw ++ ((if x.has = true then [32,61,32] ++ x.dflt.src else []) ++ zb5 x.dirs)))
def zj0 (x:FldT):List UInt8:=bL x.name ++ ((if x.args.length = 0 then [] else [40] ++ (jn [44,32] (x.args.map zi3) ++ [41])) ++ ([58,32] ++ (zk8 x.tn x.tw ++ zb5 x.dirs)))
def zf4 (x:MemT):List UInt8:=bL x.name ++ zb5 x.dirs
def zb0 (a:List UInt8):List UInt8:=[32,32] ++ (a ++ [10])
def zg3 (ds:List DirT) (ls:List (List UInt8)):List UInt8:=zb5 ds ++ ([32,123,10] ++ ((ls.map zb0).flatten ++ [125,10]))
def zm1 (l:List ByteArray):List UInt8:=if l.length = 0 then [] else [32,105,109,112,108,101,109,101,110,116,115,32] ++ jn [32,38,32] (l.map bL)
def zz3 (ds:List DirT) (l:List MemT):List UInt8:=zb5 ds ++ ([32,61,32] ++ (jn [32,124,32] (l.map zf4) ++ [10]))
def wType:List UInt8:=[116,121,112,101,32]
def wInterface:List UInt8:=[105,110,116,101,114,102,97,99,101,32]
def wUnion:List UInt8:=[117,110,105,111,110,32]
def wEnum:List UInt8:=[101,110,117,109,32]
def wInput:List UInt8:=[105,110,112,117,116,32]
def zg7 (d:DefT):List UInt8 :=
 if d.kind = 1 then wType ++ (bL d.name ++ (zm1 d.impl ++ zg3 d.dirs (d.fields.map zj0)))
 else if d.kind = 2 then wInterface ++ (bL d.name ++ zg3 d.dirs (d.fields.map zj0))
 else if d.kind = 3 then wUnion ++ (bL d.name ++ zz3 d.dirs d.members)
 else if d.kind = 4 then wEnum ++ (bL d.name ++ zg3 d.dirs (d.members.map zf4))
 else if d.kind = 5 then wInput ++ (bL d.name ++ zg3 d.dirs (d.inputs.map zi3))
 else []
def zh7 (l:List DefT):List UInt8:=jn [10] (l.map zg7)
end Go.Proofs.YtfgelheiknmjgaaGreatDoor
namespace Go.Proofs.YtfgelheiknmjgaaGreatDoor
open Go.RowKit
end Go.Proofs.YtfgelheiknmjgaaGreatDoor
namespace Go.Proofs.YtfgelheiknmjgaaGreatDoor
open Go.RowKit
end Go.Proofs.YtfgelheiknmjgaaGreatDoor
namespace Go.Proofs.YtfgelheiknmjgaaGreatDoor
open Go.RowKit
end Go.Proofs.YtfgelheiknmjgaaGreatDoor
namespace Go.Proofs.YtfgelheiknmjgaaGreatDoor
open Go.RowKit
end Go.Proofs.YtfgelheiknmjgaaGreatDoor
namespace Go.Proofs.YtfgelheiknmjgaaGreatDoor
open Go.RowKit
end Go.Proofs.YtfgelheiknmjgaaGreatDoor
namespace Go.Proofs.YtfgelheiknmjgaaGreatDoor
open Go.RowKit
end Go.Proofs.YtfgelheiknmjgaaGreatDoor
namespace Go.Proofs.YtfgelheiknmjgaaGreatDoor
open Go.RowKit
end Go.Proofs.YtfgelheiknmjgaaGreatDoor
namespace Go.Proofs.YtfgelheiknmjgaaGreatDoor
open Go.RowKit
def Bk (W:World) (b:Nat) (cs:Array Value) (T:TypeId):Prop:=W.heap[b]? = some (.cells cs T (0,0))
theorem Bk.cell {W:World} {b:Nat} {cs:Array Value} {T:TypeId} (h:Bk W b cs T) (i:Nat) (v:Value) (hv:cs[i]? = some v):W.cell? ⟨b,i,none⟩ = some v:=by
 rw [cell_of_row _ _ _ _ _ _ h,hv]
theorem Bk.frz {W:World} {b:Nat} {cs:Array Value} {T:TypeId} (h:Bk W b cs T) (i:Nat):W.frozen? ⟨b,i,none⟩ = false:=by
 unfold Bk at h; simp [World.frozen?,h]
theorem Bk.lt {W:World} {b:Nat} {cs:Array Value} {T:TypeId} (h:Bk W b cs T):b < W.heap.size:=by
 unfold Bk at h
 rcases Nat.lt_or_ge b W.heap.size with h' | h'
 ·exact h'
 ·rw [Array.getElem?_eq_none h'] at h; cases h
theorem Bk.new (W:World) (cs:Array Value) (T:TypeId):Bk (W.alloc (.cells cs T (0,0))) W.heap.size cs T:=heap_alloc_new _ _
theorem Bk.stay {W W':World} {b:Nat} {cs:Array Value} {T:TypeId} (h:Bk W b cs T) (hb:Below W.heap.size W W'):Bk W' b cs T:=(hb.block b h.lt).trans h
theorem za0 (w:World) (o:Obj):Below w.heap.size w (w.alloc o):=(Below.refl _ _).alloc (Nat.le_refl _) _
def inB {α:Type} (least most:Int) (xs:List α) (pr : α → Bool):Bool:=decide (least ≤ (xs.length:Int)) && decide ((xs.length:Int) ≤ most) && xs.all pr
def BP (b:Bool) (w:World) (e:Ending) (w':World):Prop:=e = .returned (.bool b) ∧ Below w.heap.size w w'
end Go.Proofs.YtfgelheiknmjgaaGreatDoor
namespace Go.Proofs.YtfgelheiknmjgaaGreatDoor
open Go.RowKit
structure T1.LaidP (w:World):Prop where
 pow:Lib.TabIs Tryz.prog w "internal/strconv.uint64pow10" .u64 Lib.pow10Tab
theorem T1.LaidP.below {w w':World} (h:T1.LaidP w) (hb:Below w.heap.size w w'):T1.LaidP w':=by
 have l1:=Lib.lt_of_cell (h.pow.cell T1.gPow 0 (by decide))
 exact ⟨var?_below hb T1.gPow l1 h.pow⟩
theorem T1.decimalP_any (n:Int) (w:World) (hL:T1.LaidP w) (h0 : -9223372036854775808 ≤ n) (h1:n ≤ 9223372036854775807):Calls Tryz.prog 125 #[.int .i64 n] w fun e w' => e = .returned (.string ⟨(Lib.itoa n).toArray⟩) ∧ Below w.heap.size w w':=by
 have hc:=Tryz.strconv_Itoa n h0 h1 w hL.pow
 have HC:=Lib.hid hc
 clear hc h0 h1 hL
 go_enter Tryz.func125, Tryz.ntmps125
 go_wp2_with (go_at_call 173; refine HC.out.mono ?_; rintro e w' ⟨rfl,k,os,rfl⟩)
 go_ret
 exact ⟨rfl,Lib.below_grow _ _ (Nat.le_refl _) _ _⟩
abbrev pp (b:Nat):Value:=.pointer (some ⟨b,0,none⟩)
abbrev PAt (B b:Nat) (p:Value) (bs:List Value) (w:World):Prop:=Lib.BuilderAtF 77 5 B b p bs w
abbrev PB (B b:Nat) (l:List UInt8) (w:World):Prop:=Lib.IsBuilderF 77 5 B b (Lib.byteCells l) w
structure Wr (B b:Nat) (w w':World):Prop where
 below:Below B w w'
 others:Lib.OthersKept 5 (some b) w w'
theorem Wr.refl (B b:Nat) (w:World):Wr B b w w:=⟨Below.refl _ _,Lib.OthersKept.refl _ _ _⟩
theorem lies_pt:liesAt Tryz.prog Tryz.prog.depth 77 (2 / Tryz.prog.cellsOf 77) 0 75 1 = true:=by kernel_rfl
theorem size_bu:((Tryz.prog.info? 75).map fun i => decide (i.size ≠ 0)) = some true:=by kernel_rfl
set_option maxRecDepth 100000 in
set_option maxHeartbeats 1000000 in
theorem zT3 (B b:Nat) (bs:List Value) (w:World) (h:Lib.IsBuilderF 77 5 B b bs w) :
  Calls Tryz.prog 175 #[pp b] w fun e w' => e = .returned (.tuple #[]) ∧ PAt B b (pp b) bs w' ∧ Wr B b w w':=by
 obtain ⟨j,hj,hjs⟩:=Option.map_eq_some_iff.1 size_bu
 rcases h with h | h
 ·have h0:=h.cell0
  have hf:=h.frozen0
  have hs:=Lib.hid h.shape
  have HH:=Lib.hid h
  clear h
  go_enter Tryz.func175, Tryz.ntmps175
  go_wp2
  rw [Lib.run_to_unsafe w ⟨b,0,none⟩ Tryz.underlying72 Tryz.underlying223 hj (by simpa using hjs) hs.out (Nat.zero_lt_succ 1)]
  simp only [Result.andThen]
  rw [Oper.upon_value]
  go_wp2
  rw [run_callFunc_extern Tryz.func208 (by kernel_rfl) (by kernel_rfl) (by kernel_rfl) (e:=Extern.AbiNoEscape.same) (by kernel_rfl)]
  rw [Lib.run_noEscape]
  simp only [Result.andThen]
  rw [Oper.upon_value]
  go_wp2
  rw [Lib.run_from_unsafe w ⟨b,0,none⟩ Tryz.underlying223 Tryz.underlying72 hj hs.out lies_pt]
  simp only [Result.andThen]
  rw [Oper.upon_value]
  go_wp2
  go_end0
  exact ⟨rfl,HH.out.used _,(Below.refl B w).setCell (p:=⟨b,0,none⟩) HH.out.1 _,(Lib.OthersKept.refl _ _ w).setCell ⟨b,0,none⟩ rfl _⟩
 ·have h0:=h.cell0
  have HH:=Lib.hid h
  clear h
  go_enter Tryz.func175, Tryz.ntmps175
  go_wp2
  rw [Lib.run_neq_ptr_same w _ Tryz.underlying72 hj]
  go_wp2
  go_end0
  exact ⟨rfl,HH.out,Wr.refl _ _ _⟩
theorem Wr.trans {B b:Nat} {w w' w'':World} (h:Wr B b w w') (h2:Wr B b w' w''):Wr B b w w'':=⟨h.below.trans h2.below,h.others.trans h2.others⟩
theorem Wr.alloc {B b:Nat} {w w':World} (h:Wr B b w w') (hB:B ≤ w.heap.size) (o:Obj):Wr B b w (w'.alloc o):=⟨h.below.alloc (Nat.le_trans hB h.below.size) o,h.others.alloc o⟩
set_option maxRecDepth 100000 in
set_option maxHeartbeats 2000000 in
theorem zK9 (B b:Nat) (l:List UInt8) (s:ByteArray) (w:World) (h:PB B b l w) (hl:l.length + s.size ≤ 140737488355328) (hB:B ≤ w.heap.size) :
  Calls Tryz.prog 129 #[pp b,.string s] w fun e w' => e = .returned (.tuple #[.int .i64 s.size,.nilIface]) ∧ PB B b (l ++ bL s) w' ∧ Wr B b w w':=by
 obtain ⟨i0,hi,hz0,hz1,hz2⟩:=info_parts T1.info5
 have CH:=Lib.hid (zT3 B b (Lib.byteCells l) w h)
 go_enter Tryz.func129, Tryz.ntmps129
 go_wp2_with fail
 refine CH.out.mono ?_
 rintro e w1 ⟨rfl,hp1,hw1⟩
 have HW1:=Lib.hid hw1
 have hs1:=hw1.below.size
 clear hw1 CH
 obtain ⟨hBb,v,hbk,hown,hne⟩:=hp1
 have HBK:=Lib.hid hbk
 have HOW:=Lib.hid hown
 have HNE:=Lib.hid hne
 have c1:w1.cell? ⟨b,1,none⟩ = some v:=by rw [Lib.cell_of_heap hbk]; rfl
 have hlb:(Lib.byteCells l).length = l.length:=Lib.byteCells_length l
 clear hbk hown hne
 go_wp2_with (at_builtin; refine Lib.wpList_append_own_stringF _ rfl _ _ 73 9 rfl B 5 i0 Tryz.underlying73 Tryz.underlying9 hi hz0 hz1 hz2 _ _ _ rfl HOW.out s rfl ?_ ?_ ?_ ?_)
 ·rw [hlb]; unfold maxLen; omega
 ·rw [hlb]; omega
 ·omega
 ·intro v' w2 ho2 hg2 _
  have HO2:=Lib.hid ho2
  have HG2:=Lib.hid hg2
  have hbl:b < w1.heap.size:=Bk.lt HBK.out
  have hb2:Bk w2 b #[pp b,v] 77 := (hg2.block b hbl (fun e => HNE.out e.symm)).trans HBK.out
  have HB2:=Lib.hid hb2
  have d1:=hb2.cell 1 v rfl
  have d0:=hb2.cell 0 _ rfl
  have f1:=hb2.frz 1
  obtain ⟨a2,n2,c2,rfl⟩ : ∃ a2 n2 c2,v' = .slice a2 n2 c2:=by
   rcases ho2.2 with ⟨hv,_⟩ | ⟨g,cap,cur,fz,hv,_⟩
   ·exact ⟨_,_,_,hv⟩
   ·exact ⟨_,_,_,hv⟩
  clear ho2 hg2 hb2 hbl
  go_wp2_with fail
  go_ret2
  have e1:Lib.byteCells l ++ Lib.strCells s = Lib.byteCells (l ++ bL s):=by simp [Lib.byteCells,Lib.strCells,bL]
  refine ⟨rfl,.inr ?_,HW1.out.below.trans ?_,HW1.out.others.trans ?_⟩
  ·rw [← e1]
   exact Lib.BuilderAtF.put hBb HB2.out (by have:=HO2.out; rw [List.length_append,Lib.strCells_length,hlb]; exact this) (by decide)
  ·exact ((Below.refl B w1).grown HG2.out (by omega) (fun k hk => (HOW.out.lt k hk).1)).setCell (p:=⟨b,1,none⟩) hBb _
  ·exact ((Lib.OthersKept.refl _ _ w1).grown HG2.out (Lib.ownsRowF_kind HOW.out)).setCell ⟨b,1,none⟩ rfl _
theorem PB.alloc {B b:Nat} {l:List UInt8} {w:World} (h:PB B b l w) (o:Obj):PB B b l (w.alloc o):=h.imp (fun x => x.alloc o) (fun x => x.alloc o)
theorem PB.lt {B b:Nat} {l:List UInt8} {w:World} (h:PB B b l w):b < w.heap.size:=h.elim (fun x => x.lt) (fun x => x.lt)
theorem PB.kept {B b:Nat} {l:List UInt8} {w w':World} (h:PB B b l w) (hb:Below w.heap.size w w'):PB B b l w':=by
 have key:∀ {p:Value},PAt B b p (Lib.byteCells l) w → PAt B b p (Lib.byteCells l) w':=by
  intro p h
  have hlt:=h.lt
  obtain ⟨hB,v,hbk,hown,hne⟩:=h
  refine ⟨hB,v,(hb.block b hlt).trans hbk,⟨hown.1,hown.2.imp id ?_⟩,hne⟩
  rintro ⟨g,cap,cur,fz,e1,e2,e3,r⟩
  have hg:g < w.heap.size:=by
   rcases Nat.lt_or_ge g w.heap.size with h' | h'
   ·exact h'
   ·rw [Array.getElem?_eq_none h'] at e3; cases e3
  exact ⟨g,cap,cur,fz,e1,e2,(hb.block g hg).trans e3,r⟩
 exact h.imp key key
theorem Bk.wr {W W':World} {B b k:Nat} {cs:Array Value} {T:TypeId} (h:Bk W k cs T) (hw:Wr B b W W') (hk:k ≠ b) (hT:T ≠ 5):Bk W' k cs T :=
 hw.others k _ h (fun e => hk (Option.some.inj e)) (fun c fz e => by injection e with _ e2 _; exact absurd e2 hT)
def LaidB (B:Nat) (w:World):Prop:=∀ w',Below B w w' → T1.LaidP w'
theorem LaidB.kept {B:Nat} {w w':World} (h:LaidB B w) (hb:Below B w w'):LaidB B w':=fun w2 h2 => h w2 (hb.trans h2)
theorem LaidB.is {B:Nat} {w:World} (h:LaidB B w):T1.LaidP w:=h w (Below.refl _ _)
def PP (B b:Nat) (l a:List UInt8) (w:World) (e:Ending) (w':World):Prop:=e = .returned (.tuple #[]) ∧ PB B b (l ++ a) w' ∧ Wr B b w w'
theorem zC7 {xs:List ByteArray} {i:Nat} {s:ByteArray} (h:xs[i]? = some s):((xs.take (i + 1)).map bL).flatten = ((xs.take i).map bL).flatten ++ bL s:=by
 rw [zw9 h,List.map_append,List.flatten_append]; simp
theorem flat_le (xs:List ByteArray) (i:Nat):((xs.take i).map bL).flatten.length ≤ (xs.map bL).flatten.length:=by
 have:(xs.map bL).flatten = ((xs.take i).map bL).flatten ++ ((xs.drop i).map bL).flatten:=by rw [← List.flatten_append, ← List.map_append,List.take_append_drop]
 rw [this,List.length_append]; omega
set_option maxRecDepth 100000 in
set_option maxHeartbeats 1000000 in
theorem zE5 (ps:List ByteArray) (B b r:Nat) (l:List UInt8) (w:World) (hr:Bk w r (ps.map Value.string).toArray 9) (hrb:r ≠ b) (h:PB B b l w) (n:Nat) (hn:ps.length = n) (hs:n ≤ 100000)
  (hl:l.length + (ps.map bL).flatten.length ≤ 140737488355328) (hB:B ≤ w.heap.size) :
  Calls Tryz.prog 61 #[pp b,.slice (some ⟨r,0,none⟩) n n] w (PP B b l (ps.map bL).flatten w):=by
 have HR:=Lib.hid hr
 have HP:=Lib.hid h
 have HN:=Lib.hid hn
 have HLL:=Lib.hid hl
 have hni:(n:Int) ≤ 100000:=by omega
 clear hr h hn hl
 go_enter Tryz.func61, Tryz.ntmps61
 go_wp2_with fail
 go_loopw [8] (fun v wr => ∃ i:Nat,i ≤ n ∧ v = .int .i64 i ∧ Hid (PB B b (l ++ ((ps.take i).map bL).flatten) wr ∧ Wr B b w wr)) (fun v _ => n - (intOf v).toNat)
 case atStart => exact ⟨0,Nat.zero_le _,rfl,Lib.hid ⟨by simpa using HP.out,Wr.refl _ _ _⟩⟩
 case round =>
  obtain ⟨i,hi,rfl,hr⟩:=hrel
  by_cases hlt:i < n
  ·obtain ⟨s,hx⟩ : ∃ s,ps[i]? = some s:=⟨_,List.getElem?_eq_getElem (by rw [HN.out]; exact hlt)⟩
   have HX:=Lib.hid hx
   have c0:wr.cell? ⟨r,i,none⟩ = some (.string s):=(HR.out.wr hr.out.2 hrb (by decide)).cell i (.string s) (by simp [hx])
   have hsz:=hr.out.2.below.size
   have hfl:=flat_le ps (i + 1)
   rw [zC7 hx,List.length_append,za4] at hfl
   have hll:=HLL.out
   have CALL:=Lib.hid (zK9 B b (l ++ ((ps.take i).map bL).flatten) s wr hr.out.1 (by rw [List.length_append]; omega) (by omega))
   clear hx hfl hll
   go_wp2_with fail
   refine CALL.out.mono ?_
   rintro e w1 ⟨rfl,hp1,hw1⟩
   have HP1:Hid (PB B b (l ++ ((ps.take (i + 1)).map bL).flatten) w1):=Lib.hid (by rw [zC7 HX.out, ← List.append_assoc]; exact hp1)
   have HW1:=Lib.hid (hr.out.2.trans hw1)
   clear hp1 hw1
   go_wp2_with fail
   go_roundw
   case rel => exact ⟨i + 1,by omega,by go_num,Lib.hid ⟨HP1.out,HW1.out⟩⟩
   case measure => simp [intOf]; omega
  ·have:i = n:=by omega
   subst this
   have HF:Hid (PB B b (l ++ (ps.map bL).flatten) wr):=Lib.hid (by have:=hr.out.1; rwa [List.take_of_length_le (by rw [HN.out]; exact Nat.le_refl _)] at this)
   go_wp2_with fail
   go_end0
   exact ⟨rfl,HF.out,hr.out.2⟩
theorem PP.of {B b:Nat} {l a:List UInt8} {w w0:World} {e:Ending} {w':World} (h:PP B b l a w e w') (hw:Wr B b w0 w):PP B b l a w0 e w':=⟨h.1,h.2.1,hw.trans h.2.2⟩
theorem put1 (x:ByteArray) (B b r:Nat) (l:List UInt8) (w:World) (hr:w.heap.size = r) (h:PB B b l w) (hl:l.length + x.size ≤ 140737488355328) (hB:B ≤ w.heap.size) :
  Calls Tryz.prog 61 #[pp b,.slice (some ⟨r,0,none⟩) 1 1] (w.alloc (.cells #[.string x] 9 (0,0))) (PP B b l (bL x) w):=by
 subst hr
 have h1:=zE5 [x] B b w.heap.size l _ (Bk.new w #[.string x] 9) (by have:=h.lt; omega) (h.alloc _) 1 rfl (by omega) (by simp [za4]; omega) (by simp; omega)
 refine h1.mono ?_
 intro e w' h2
 have h3:=h2.of ((Wr.refl B b w).alloc hB _)
 simpa using h3
theorem put2 (x y:ByteArray) (B b r:Nat) (l:List UInt8) (w:World) (hr:w.heap.size = r) (h:PB B b l w) (hl:l.length + x.size + y.size ≤ 140737488355328) (hB:B ≤ w.heap.size) :
  Calls Tryz.prog 61 #[pp b,.slice (some ⟨r,0,none⟩) 2 2] (w.alloc (.cells #[.string x,.string y] 9 (0,0))) (PP B b l (bL x ++ bL y) w):=by
 subst hr
 have h1:=zE5 [x,y] B b w.heap.size l _ (Bk.new w #[.string x,.string y] 9) (by have:=h.lt; omega) (h.alloc _) 2 rfl (by omega) (by simp [za4]; omega) (by simp; omega)
 refine h1.mono ?_
 intro e w' h2
 have h3:=h2.of ((Wr.refl B b w).alloc hB _)
 simpa using h3
theorem put3 (x y z:ByteArray) (B b r:Nat) (l:List UInt8) (w:World) (hr:w.heap.size = r) (h:PB B b l w) (hl:l.length + x.size + y.size + z.size ≤ 140737488355328) (hB:B ≤ w.heap.size) :
  Calls Tryz.prog 61 #[pp b,.slice (some ⟨r,0,none⟩) 3 3] (w.alloc (.cells #[.string x,.string y,.string z] 9 (0,0))) (PP B b l (bL x ++ (bL y ++ bL z)) w):=by
 subst hr
 have h1:=zE5 [x,y,z] B b w.heap.size l _ (Bk.new w #[.string x,.string y,.string z] 9) (by have:=h.lt; omega) (h.alloc _) 3 rfl (by omega) (by simp [za4]; omega) (by simp; omega)
 refine h1.mono ?_
 intro e w' h2
 have h3:=h2.of ((Wr.refl B b w).alloc hB _)
 simpa using h3
def ze4 (B b:Nat) (W:World) (F:Nat) (v:Value) (a:List UInt8):Prop:=∀ l,PB B b l W → LaidB B W → l.length + a.length ≤ 140737488355328 → B ≤ W.heap.size → Calls Tryz.prog F #[pp b,v] W (PP B b l a W)
def ValR (w:World) (B:Nat) (f:Nat → Value) (x:VT):Prop:=Rd w B (.agg #[f 0,f 1,f 2,f 3,f 4]) x
def ValsR (w:World) (B:Nat) (v:Value) (xs:List VT):Prop :=
 ∃ A c,v = .slice A xs.length c ∧ True ∧ xs.length * 80 ≤ big ∧ ∃ V:Nat → Nat → Value,
  (0 < xs.length → ∃ a,A = some a ∧ a.block < B ∧ ∀ i,i < xs.length → ∀ j,j < 5 → w.cell? (at_ (a.add (i * 5)) j) = some (V i j)) ∧ ∀ i x,xs[i]? = some x → ValR w B (V i) x
theorem ValR.stays:Stays ValR:=⟨fun h hb => Rd.kept h hb,fun h hb => Rd.mono h hb⟩
end Go.Proofs.YtfgelheiknmjgaaGreatDoor
namespace Go.Proofs.YtfgelheiknmjgaaGreatDoor.P
open Go.ChangeShapes Go.WideShapes Go.ChangeAt Go.RowKit
theorem own:ownKnob Tryz.prog.godebug = none:=by kernel_rfl
theorem gPowType:(Tryz.prog.globals[5]?).map (·.type) = some 278 := by kernel_rfl
theorem cellsPow : Tryz.prog.cellsOf 278 = 20:=by kernel_rfl
theorem cellsU64 : Tryz.prog.cellsOf 251 = 1:=by kernel_rfl
abbrev zp3:List (String × DataW Unit):=[("math/bits.deBruijn32tab",Rows.laid_math_bits_deBruijn32tab),("math/bits.deBruijn64tab",Rows.laid_math_bits_deBruijn64tab),("internal/strconv.uint64pow10",Rows.laid_internal_strconv_uint64pow10)]
theorem laid_of {W:World} (h:laidMet Tryz.prog zp3 W):T1.LaidP W :=
 ⟨Lib.tabIs_of_head T1.gPow gPowType Tryz.underlying278 Tryz.underlying251 cellsU64 cellsPow h.tail.tail⟩
noncomputable def laidWorld (os:Os):World:=World.laidAll Tryz.prog os zp3
theorem laid_os (os:Os):(laidWorld os).os = os:=World.laidAll_os _ _ _
set_option maxRecDepth 100000 in
theorem laid_met (os:Os) (args:Array Value):laidMet Tryz.prog zp3 ((laidWorld os).forCall (fun _ _ => 0) ⟨#[],args,[]⟩).memory :=
 laidMet_laidAll args (by kernel_rfl) (by kernel_rfl)
end Go.Proofs.YtfgelheiknmjgaaGreatDoor.P

