
/-
 Texts joined: TextUnquote TextUnquote2.
-/
import Derived.Test.YtfgelheiknmjgaaGreatDoorZs1
import Derived.Lib.BufferRead
namespace Go.Proofs.YtfgelheiknmjgaaGreatDoor.T1
open Go.RowKit
def hexV (n:Int):Int:=if 48 ≤ n ∧ n ≤ 57 then n - 48 else if 97 ≤ n ∧ n ≤ 102 then n - 87 else if 65 ≤ n ∧ n ≤ 70 then n - 55 else -1
def bv (l:List UInt8) (k:Nat):Int:=hexV ((l.getD k 0).toNat:Int)
def cdL (l:List UInt8):Nat → Int
 | 0 => 0
 | k + 1 => cdL l k * 16 + bv l k
def OkL (l:List UInt8) (k:Nat):Prop:=∀ j,j < k → 0 ≤ bv l j
def okB (l:List UInt8):Bool:=decide (4 ≤ l.length) && decide (0 ≤ bv l 0) && decide (0 ≤ bv l 1) && decide (0 ≤ bv l 2) && decide (0 ≤ bv l 3) && decide (cdL l 4 ≤ 255)
def numL4 (l:List UInt8):Option UInt8:=if okB l then some (UInt8.ofNat (cdL l 4).toNat) else none
def nb2 (k:Int):Option UInt8 → Value
 | some b => .tuple #[.int .u8 b.toNat,.int .i64 k]
 | none => .tuple #[.int .u8 0,.int .i64 0]
def NbPost (k:Int) (o:Option UInt8) (w:World) (e:Ending) (w':World):Prop:=e = .returned (nb2 k o) ∧ w = w'
def zE3 (c:UInt8):Option UInt8 :=
 if c = 34 then some 34 else if c = 92 then some 92 else if c = 47 then some 47 else if c = 98 then some 8 else if c = 102 then some 12
 else if c = 110 then some 10 else if c = 114 then some 13 else if c = 116 then some 9 else none
def stepL:List UInt8 → Option (UInt8 × Nat)
 | [] => none
 | c :: r =>
   if c = 34 ∨ prB (c.toNat:Int) = false then none
   else if c ≠ 92 then some (c,1)
   else match r with
    | [] => none
    | d :: t => if d = 117 then (numL4 t).map (·,6) else (zE3 d).map (·,2)
def fb2:Option (UInt8 × Nat) → Value
 | some (b,k) => .tuple #[.int .u8 b.toNat,.int .i64 k]
 | none => .tuple #[.int .u8 0,.int .i64 0]
def FbPost (o:Option (UInt8 × Nat)) (w:World) (e:Ending) (w':World):Prop:=e = .returned (fb2 o) ∧ w = w'
theorem zq1 (c:UInt8) (r:List UInt8):stepL (c :: r) = if c = 34 ∨ prB (c.toNat:Int) = false then none
  else if c ≠ 92 then some (c,1)
  else match r with
   | [] => none
   | d :: t => if d = 117 then (numL4 t).map (·,6) else (zE3 d).map (·,2):=rfl
theorem zi8 (d:UInt8) (t:List UInt8):stepL (92 :: d :: t) = if d = 117 then (numL4 t).map (·,6) else (zE3 d).map (·,2):=by
 rw [zq1,if_neg (by decide),if_neg (by decide)]
end Go.Proofs.YtfgelheiknmjgaaGreatDoor.T1
namespace Go.Proofs.YtfgelheiknmjgaaGreatDoor.T1
open Go.RowKit
def unqF:Nat → List UInt8 → Option (List UInt8)
 | 0,l => if l = [] then some [] else none
 | f + 1,l => if l = [] then some [] else match stepL l with
   | none => none
   | some (b,k) => (unqF f (l.drop k)).map (b :: ·)
theorem zP0 {t:List UInt8} {b:UInt8} (h:numL4 t = some b):4 ≤ t.length:=by
 unfold numL4 at h
 by_cases e:okB t = true
 ·unfold okB at e; simp at e; exact e.1.1.1.1.1
 ·rw [if_neg e] at h; cases h
theorem zz5 {l:List UInt8} {b:UInt8} {k:Nat} (h:stepL l = some (b,k)):1 ≤ k ∧ k ≤ l.length:=by
 cases l with
 | nil => cases h
 | cons c r =>
   rw [zq1] at h
   by_cases h1:c = 34 ∨ prB (c.toNat:Int) = false
   ·rw [if_pos h1] at h; cases h
   rw [if_neg h1] at h
   by_cases h2:c ≠ 92
   ·rw [if_pos h2] at h; cases h; simp
   rw [if_neg h2] at h
   cases r with
   | nil => cases h
   | cons d t =>
     simp only at h
     by_cases h3:d = 117
     ·rw [if_pos h3] at h
      obtain ⟨x,hx,e⟩:=Option.map_eq_some_iff.1 h
      have:=zP0 hx
      cases e; simp; omega
     ·rw [if_neg h3] at h
      obtain ⟨x,hx,e⟩:=Option.map_eq_some_iff.1 h
      cases e; simp
theorem zn8:∀ (f:Nat) (l:List UInt8),l.length ≤ f → unqF f l = unqF l.length l
 | 0,l,h => by
   have:l = []:=List.eq_nil_of_length_eq_zero (by omega)
   subst this; rfl
 | f + 1,[],_ => rfl
 | f + 1,c :: r,h => by
   rw [List.length_cons]
   unfold unqF
   rw [if_neg (by simp),if_neg (by simp)]
   cases hs:stepL (c :: r) with
   | none => rfl
   | some p =>
     obtain ⟨b,k⟩:=p
     have hk:=zz5 hs
     have hl:((c :: r).drop k).length ≤ r.length:=by rw [List.length_drop,List.length_cons]; omega
     simp only
     rw [zn8 f _ (by rw [List.length_cons] at h; omega),zn8 r.length _ hl]
def unqR (l:List UInt8):Option (List UInt8):=unqF l.length l
theorem zL3 {l:List UInt8} {b:UInt8} {k:Nat} (h:stepL l = some (b,k)):unqR l = (unqR (l.drop k)).map (b :: ·):=by
 cases l with
 | nil => cases h
 | cons c r =>
   have hk:=zz5 h
   unfold unqR
   rw [List.length_cons]
   conv => lhs; unfold unqF
   rw [if_neg (by simp),h]
   simp only
   rw [zn8 r.length _ (by rw [List.length_drop,List.length_cons]; omega)]
def midL (l:List UInt8):List UInt8:=(l.drop 1).take (l.length - 2)
def zn0 (l:List UInt8):Option (List UInt8):=if 2 ≤ l.length ∧ l.getD 0 0 = 34 ∧ l.getD (l.length - 1) 0 = 34 then unqR (midL l) else none
def uq2:Option (List UInt8) → Value
 | some l => .tuple #[.string ⟨l.toArray⟩,.int .i64 0]
 | none => .tuple #[.string ⟨#[]⟩,.int .i64 3]
def UqPost (o:Option (List UInt8)) (w:World) (e:Ending) (w':World):Prop:=e = .returned (uq2 o) ∧ Below w.heap.size w w'
def UnqAt (l done rest:List UInt8):Prop:=unqR l = (unqR rest).map (done ++ ·)
def strLen:Value → Nat
 | .string s => s.size
 | _ => 0
end Go.Proofs.YtfgelheiknmjgaaGreatDoor.T1

