
/-
 Texts joined: H1 G4 H8 H9 H3 NumPlain.
-/
import Derived.Test.YtfgelheiknmjgaaGreatDoorZs12
import Derived.Test.YtfgelheiknmjgaaGreatDoorZs16
import Derived.Test.YtfgelheiknmjgaaGreatDoorZs10
import Derived.Test.YtfgelheiknmjgaaGreatDoorZs3
namespace Go.Proofs.YtfgelheiknmjgaaGreatDoor
open Go.RowKit
def RdC:RelS VT:=fun w S f t => RdS w S (.agg #[f 0,f 1,f 2,f 3,f 4]) t
def lsP (el:List Tk → Nat → Except Er (VT × List Tk × Nat)):Nat → List VT → List Tk → Nat → Except Er (List VT × List Tk × Nat)
 | 0,_,_,_ => .error (0,99)
 | f + 1,l,ts,n => if isSg [93] ts = true then .ok (l,ts.tail,n) else exB (el ts n) fun q => lsP el f (l ++ [q.1]) q.2.1 q.2.2
theorem zG9 (el:List Tk → Nat → Except Er (VT × List Tk × Nat)) (f:Nat) (l:List VT) (ts:List Tk) (n:Nat):lsP el (f + 1) l ts n = if isSg [93] ts = true then .ok (l,ts.tail,n) else exB (el ts n) fun q => lsP el f (l ++ [q.1]) q.2.1 q.2.2:=rfl
def ListPost (w:World) (p n len:Nat) (r:Except Er (List VT × List Tk × Nat)) (e:Ending) (w':World):Prop :=
 (∃ l ts m v,r = .ok (l,ts,m) ∧ e = .returned v ∧ RdS w' (fun b => w.heap.size ≤ b ∧ b < w'.heap.size) v (.mk 5 0 ⟨#[]⟩ l []) ∧ PSt w' p ts m ∧ Tw p w.heap.size w w' ∧ n ≤ m ∧ m ≤ 4096 ∧ ts.length < len) ∨ (∃ x,r = .error x ∧ e = badV x ∧ Tw p w.heap.size w w')
end Go.Proofs.YtfgelheiknmjgaaGreatDoor
namespace Go.Proofs.YtfgelheiknmjgaaGreatDoor.K
open Go.RowKit
end Go.Proofs.YtfgelheiknmjgaaGreatDoor.K
namespace Go.Proofs.YtfgelheiknmjgaaGreatDoor
open Go.RowKit
structure AJ (W1:World) (pv:Nat → Option Value) (ia ib ic ie ix:Nat) (C G E:Value → World → Prop) (F:World → Prop) (d:Nat → Bool) (v:Nat → Value) (w:World):Prop where
 pure:∀ i u,pv i = some u → d i = true → v i = u
 oc:d ic = true → d ib = true
 oe:d ie = true → d ic = true ∧ d ia = true
 ox:d ix = true → d ie = true
 f0:d ib = false → w = W1
 fb:d ib = true → d ic = false → C (v ib) w
 fc:d ic = true → d ie = false → G (v ic) w
 fe:d ie = true → d ix = false → E (v ie) w
 fx:d ix = true → F w
structure AJi (pv:Nat → Option Value) (ia ib ic ie ix:Nat):Prop where
 bc:ib ≠ ic
 be:ib ≠ ie
 bx:ib ≠ ix
 ce:ic ≠ ie
 cx:ic ≠ ix
 ex:ie ≠ ix
 ab:ia ≠ ib
 ac:ia ≠ ic
 ae:ia ≠ ie
 ax:ia ≠ ix
 nb:pv ib = none
 nc:pv ic = none
 ne:pv ie = none
 nx:pv ix = none
variable {W1:World} {pv:Nat → Option Value} {ia ib ic ie ix:Nat} {C G E:Value → World → Prop} {F:World → Prop} {d:Nat → Bool} {v:Nat → Value} {w w':World}
end Go.Proofs.YtfgelheiknmjgaaGreatDoor
namespace Go.Proofs.YtfgelheiknmjgaaGreatDoor
open Go.RowKit
end Go.Proofs.YtfgelheiknmjgaaGreatDoor
namespace Go.Proofs.YtfgelheiknmjgaaGreatDoor
open Go.RowKit
def whP (el:List Tk → Nat → Except Er (VT × List Tk × Nat)) (ts:List Tk):Except Er (VT × List Tk):=exB (el ts 0) fun q => .ok (q.1,q.2.1)
end Go.Proofs.YtfgelheiknmjgaaGreatDoor
namespace Go.Proofs.YtfgelheiknmjgaaGreatDoor.T1
open Go.RowKit
def dv (c:UInt8):Nat:=c.toNat - 48
def valF (acc:Nat) (l:List UInt8):Nat:=l.foldl (fun a c => a * 10 + dv c) acc
theorem zz1 (acc:Nat) (c:UInt8) (l:List UInt8):valF acc (c :: l) = valF (acc * 10 + dv c) l:=by
 unfold valF; rw [List.foldl_cons]
theorem zL1 (acc:Nat) (l:List UInt8) (c:UInt8):valF acc (l ++ [c]) = valF acc l * 10 + dv c:=by
 unfold valF; rw [List.foldl_append,List.foldl_cons,List.foldl_nil]
theorem zL2:∀ (l:List UInt8) (acc:Nat),acc ≤ valF acc l
 | [],_ => Nat.le_refl _
 | c :: l,acc => by
   rw [zz1]
   have:=zL2 l (acc * 10 + dv c)
   omega
theorem zD4 {c:UInt8} (h:digB (c.toNat:Int) = true):48 ≤ c.toNat ∧ c.toNat ≤ 57:=by unfold digB at h; simp at h; omega
theorem zh3 {c:UInt8} {l:List UInt8}:allDg (c :: l) = true ↔ digB (c.toNat:Int) = true ∧ allDg l = true:=by
 unfold allDg; rw [List.all_cons,Bool.and_eq_true]
theorem zE0 {a b:List UInt8}:allDg (a ++ b) = true ↔ allDg a = true ∧ allDg b = true:=by
 unfold allDg; rw [List.all_append,Bool.and_eq_true]
theorem zt6:∀ (l:List UInt8) (acc:Nat),acc < 18446744073709551616 → allDg l = true → Lib.parseUint10 acc l = if valF acc l < 18446744073709551616 then .ok (valF acc l) else .range
 | [],acc,ha,_ => by rw [if_pos (show valF acc [] < _ from ha)]; rfl
 | c :: r,acc,ha,h => by
   rw [zh3] at h
   have hc:=zD4 h.1
   have hd:dv c = c.toNat - 48:=rfl
   have hge:=zL2 r (acc * 10 + dv c)
   unfold Lib.parseUint10
   rw [if_pos hc,zz1]
   by_cases h1:1844674407370955162 ≤ acc
   ·rw [if_pos h1,if_neg (by omega)]
   rw [if_neg h1]
   by_cases h2:18446744073709551616 ≤ acc * 10 + (c.toNat - 48)
   ·rw [if_pos h2,if_neg (by omega)]
   rw [if_neg h2]
   exact zt6 r _ (by omega) h.2
def val (l:List UInt8):Nat:=valF 0 l
structure Canon (d:List UInt8):Prop where
 ne:d ≠ []
 dg:allDg d = true
 lead:d.getD 0 0 = 48 → d = [48]
theorem zO8 {d:List UInt8} (h:Canon d):numL d = if val d < 9223372036854775808 then ((val d:Int),0) else (0,4):=by
 obtain ⟨h0,h1,h2⟩:=h
 have hdec:decL d = true:=by
  unfold decL
  have ht:Lib.trimPrefix d [45] = d:=by
   cases d with
   | nil => rfl
   | cons c r =>
     refine zu9 r ?_
     rintro rfl
     have:=(zh3.1 h1).1
     revert this; decide
  rw [ht,if_neg h0]
  by_cases e:d.getD 0 0 = 48
  ·rw [if_pos e,h2 e]; rfl
  ·rw [if_neg e]; exact h1
 unfold numL
 rw [hdec,if_pos rfl]
 cases d with
 | nil => exact absurd rfl h0
 | cons c r =>
   have hc:=zD4 (zh3.1 h1).1
   rw [Lib.atoiAll_plain c r (by omega) (by omega)]
   unfold Lib.parseMag
   rw [if_neg h0,zt6 _ 0 (by omega) h1]
   show _ = if val (c :: r) < _ then _ else _
   unfold val
   generalize valF 0 (c :: r) = v
   by_cases e1:v < 18446744073709551616
   ·rw [if_pos e1]
    unfold Lib.signless
    by_cases e2:v < 9223372036854775808
    ·rw [if_pos e2]; simp only; rw [if_neg (by omega)]
    ·rw [if_neg e2]; simp only; rw [if_pos (by omega)]
   ·rw [if_neg e1,if_neg (by omega)]; rfl
theorem zO9 {d:List UInt8} (h:Canon d) (hz:d.getD 0 0 ≠ 48):numL (45 :: d) = if val d ≤ 9223372036854775808 then (-(val d:Int),0) else (0,4):=by
 obtain ⟨h0,h1,h2⟩:=h
 have hdec:decL (45 :: d) = true:=by
  unfold decL
  rw [zv0,if_neg h0,if_neg hz]; exact h1
 unfold numL
 rw [hdec,if_pos rfl,Lib.atoiAll_minus]
 unfold Lib.parseMag
 rw [if_neg h0,zt6 _ 0 (by omega) h1]
 show _ = if val d ≤ _ then _ else _
 unfold val
 generalize valF 0 d = v
 by_cases e1:v < 18446744073709551616
 ·rw [if_pos e1]
  unfold Lib.signed
  by_cases e2:v ≤ 9223372036854775808
  ·rw [if_pos e2]; simp only; rw [if_neg (by omega)]
  ·rw [if_neg e2]; simp only; rw [if_pos (by omega)]
 ·rw [if_neg e1,if_neg (by omega)]; rfl
theorem zw0 {x:Nat} (h:x < 10):(UInt8.ofNat (48 + x)).toNat = 48 + x:=by rw [UInt8.toNat_ofNat']; omega
theorem zg9 (u:Nat):allDg (Lib.decDigits u) = true ∧ val (Lib.decDigits u) = u ∧ Lib.decDigits u ≠ [] ∧ ((Lib.decDigits u).getD 0 0 = 48 → u = 0):=by
 induction u using Nat.strongRecOn with
 | _ u ih =>
   by_cases h:u < 10
   ·have hb:=zw0 h
    rw [Lib.decDigits_one h]
    refine ⟨?_, ?_,by simp, ?_⟩
    ·rw [zh3]; refine ⟨?_,rfl⟩
     unfold digB; rw [hb]; simp; omega
    ·show 0 * 10 + dv _ = u
     unfold dv; rw [hb]; omega
    ·intro e
     have e':UInt8.ofNat (48 + u) = 48:=e
     have:=congrArg UInt8.toNat e'
     rw [hb] at this
     have h48:(48:UInt8).toNat = 48:=rfl
     omega
   ·obtain ⟨i1,i2,i3,i4⟩:=ih (u / 10) (by omega)
    have hb:=zw0 (x:=u % 10) (by omega)
    rw [Lib.decDigits,dif_neg h]
    refine ⟨?_, ?_,by simp, ?_⟩
    ·rw [zE0]
     refine ⟨i1, ?_⟩
     rw [zh3]; refine ⟨?_,rfl⟩
     unfold digB; rw [hb]; simp; omega
    ·unfold val at i2 ⊢
     rw [zL1,i2]; unfold dv; rw [hb]; omega
    ·intro e
     have e':(Lib.decDigits (u / 10)).getD 0 0 = 48:=by
      cases hd:Lib.decDigits (u / 10) with
      | nil => exact absurd hd i3
      | cons a b => rw [hd] at e; exact e
     have:=i4 e'; omega
theorem zm3 (u:Nat):Canon (Lib.decDigits u):=by
 obtain ⟨h1,_,h3,h4⟩:=zg9 u
 refine ⟨h3,h1,fun e => ?_⟩
 have:=h4 e; subst this
 rw [Lib.decDigits_one (by omega)]; rfl
theorem zG8 (n:Int) (h0 : -9223372036854775808 ≤ n) (h1:n ≤ 9223372036854775807):numL (Lib.itoa n) = (n,0):=by
 unfold Lib.itoa
 by_cases h:n < 0
 ·rw [if_pos h,zO9 (zm3 _) (fun e => by have:=(zg9 n.natAbs).2.2.2 e; omega),(zg9 _).2.1,if_pos (by omega)]
  congr 1; omega
 ·rw [if_neg h,zO8 (zm3 _),(zg9 _).2.1,if_pos (by omega)]
  congr 1; omega
theorem num_form {l:List UInt8} (h:decL l = false):numL l = (0,3):=by unfold numL; rw [h]; rfl
end Go.Proofs.YtfgelheiknmjgaaGreatDoor.T1

