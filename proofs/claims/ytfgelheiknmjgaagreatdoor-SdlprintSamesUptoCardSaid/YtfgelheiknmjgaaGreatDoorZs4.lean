
/-
 Texts joined: KSpan KSep KPast KRune KWord RefUnquote UQuote KFact.
-/
import Derived.Test.YtfgelheiknmjgaaGreatDoorZs3
import Derived.Lib.OthersKept
import Derived.Laws.Runes
import Derived.Test.YtfgelheiknmjgaaGreatDoorZs1
import Derived.Deep.QuietTactic
import Derived.BigQuiet
import Derived.Deep.RegionLaw
import Derived.Deep.AppendLies
import Derived.WalkMore
import Derived.Test.YtfgelheiknmjgaaGreatDoorZs2
namespace Go.Proofs.YtfgelheiknmjgaaGreatDoor.K
open Go.RowKit
structure Bes (p N:Nat) (w w':World):Prop where
 os:w'.os = w.os
 tape:w'.tape = w.tape
 output:w'.output = w.output
 size:w.heap.size ≤ w'.heap.size
 block:∀ k,k < N → k ≠ p → w'.heap[k]? = w.heap[k]?
section
variable {σ:Type} {step : σ → UInt8 → Option σ} {hi : σ → Option σ}
end
def SpPost {σ:Type} (o:Option σ) (Inv : σ → World → Prop) (p:Nat) (w:World) (e:Ending) (w':World):Prop :=
 e = .returned (.bool o.isSome) ∧ (∀ st',o = some st' → Inv st' w') ∧ Bes p w.heap.size w w'
end Go.Proofs.YtfgelheiknmjgaaGreatDoor.K
namespace Go.Proofs.YtfgelheiknmjgaaGreatDoor.K
open Go.RowKit
abbrev pp (p:Nat):Value:=.pointer (some ⟨p,0,none⟩)
def BoxB (p:Nat) (b:Bool) (w:World):Prop:=w.heap[p]? = some (.cells #[.bool b] 4 (0,0))
def sepHi (st:Bool):Option Bool:=if st = true then some true else none
def sepR (st:Bool) (r:Nat):Option Bool:=if r = 35 then some true else if r = 10 ∨ r = 13 then some false else if r = 32 ∨ r = 9 ∨ r = 44 then some st else sepHi st
def ltHi (_:Bool):Option Bool:=some false
def ltR (st:Bool) (r:Nat):Option Bool:=if r = 34 ∧ st = false then none else some (decide (r = 92) && !st)
end Go.Proofs.YtfgelheiknmjgaaGreatDoor.K
namespace Go.Proofs.YtfgelheiknmjgaaGreatDoor.K
open Go.RowKit
structure Past (W:World) where
 w:World
 b:Below W.heap.size W w
instance {W:World}:Nonempty (Past W):=⟨⟨W,Below.refl _ _⟩⟩
theorem za5 {id:Nat} {Q:Exit → Act → World → Prop} {a:Act} {w:World} {l:List Oper} (F:World → Prop) (hF:F w) (hB:Region.lexB .any l.toArray = true)
  (h:∀ W,F W → Below w.heap.size w W → wpQuiet Tryz.prog l.toArray (fun w' => ∃ x:Past W,w' = x.w) (fun a' => ∀ w',(∃ x:Past W,w' = x.w) → Q .normal a' w') l a):(Code.region id l.toArray true).wp Tryz.prog Q a w :=
 wp_region_quiet (C:=fun w' => ∃ x:Past w,w' = x.w) (by kernel_rfl) hB ⟨⟨_,(Below.refl _ _).drew⟩,rfl⟩ (by simpa using h w hF (Below.refl _ _))
end Go.Proofs.YtfgelheiknmjgaaGreatDoor.K
namespace Go.Proofs.YtfgelheiknmjgaaGreatDoor.K
open Go.RowKit
structure AscSet (s:ByteArray):Prop where
 asc:∀ b ∈ s.data.toList,b.toNat < 128
 lo:4 ≤ s.size
 hi:s.size ≤ 1000
end Go.Proofs.YtfgelheiknmjgaaGreatDoor.K
namespace Go.Proofs.YtfgelheiknmjgaaGreatDoor.K
open Go.RowKit
def ndL:ByteArray:=⟨#[65,66,67,68,69,70,71,72,73,74,75,76,77,78,79,80,81,82,83,84,85,86,87,88,89,90,97,98,99,100,101,102,103,104,105,106,107,108,109,110,111,112,113,114,115,116,117,118,119,120,121,122,95,48,49,50,51,52,53,54,55,56,57]⟩
def wdHi (_:Unit):Option Unit:=none
end Go.Proofs.YtfgelheiknmjgaaGreatDoor.K
namespace Go.Proofs.YtfgelheiknmjgaaGreatDoor.T1
open Go.RowKit
theorem zD7 {a b:List UInt8}:∀ {k:Nat},(∀ j,j < k → bv a j = bv b j) → cdL a k = cdL b k
 | 0,_ => rfl
 | k + 1,h => by
   unfold cdL
   rw [zD7 (k:=k) (fun j hj => h j (by omega)),h k (by omega)]
end Go.Proofs.YtfgelheiknmjgaaGreatDoor.T1
namespace Go.Proofs.YtfgelheiknmjgaaGreatDoor.T1
open Go.RowKit
theorem zK2 (a b c d:UInt8) (r:List UInt8):numL4 (a :: b :: c :: d :: r) = numL4 [a,b,c,d]:=by
 have e:∀ k,k < 4 → bv (a :: b :: c :: d :: r) k = bv [a,b,c,d] k:=by
  intro k hk
  have:k = 0 ∨ k = 1 ∨ k = 2 ∨ k = 3:=by omega
  rcases this with rfl | rfl | rfl | rfl <;> rfl
 unfold numL4 okB
 rw [e 0 (by omega),e 1 (by omega),e 2 (by omega),e 3 (by omega),zD7 e]
 simp
theorem zP1:∀ n:Fin 256,numL4 [48,48,hexC (n.val / 16),hexC (n.val % 16)] = some (UInt8.ofNat n.val):=by decide +kernel
theorem zL6 (c:UInt8) (r:List UInt8):stepL (escL c ++ r) = some (c,(escL c).length):=by
 unfold escL
 by_cases h1:c = 34
 ·subst h1; rw [if_pos rfl]; show stepL (92 :: 34 :: r) = _; rw [zi8]; rfl
 rw [if_neg h1]
 by_cases h2:c = 92
 ·subst h2; rw [if_pos rfl]; show stepL (92 :: 92 :: r) = _; rw [zi8]; rfl
 rw [if_neg h2]
 by_cases h3:c = 10
 ·subst h3; rw [if_pos rfl]; show stepL (92 :: 110 :: r) = _; rw [zi8]; rfl
 rw [if_neg h3]
 by_cases h4:c = 13
 ·subst h4; rw [if_pos rfl]; show stepL (92 :: 114 :: r) = _; rw [zi8]; rfl
 rw [if_neg h4]
 by_cases h5:c = 9
 ·subst h5; rw [if_pos rfl]; show stepL (92 :: 116 :: r) = _; rw [zi8]; rfl
 rw [if_neg h5]
 cases hp:prB (c.toNat:Int)
 ·simp only [Bool.false_eq_true,if_false]
  show stepL (92 :: 117 :: 48 :: 48 :: hexC (c.toNat / 16) :: hexC (c.toNat % 16) :: r) = _
  rw [zi8,if_pos rfl,zK2,zP1 ⟨c.toNat,c.toNat_lt⟩]
  simp
 ·simp only [if_true]
  show stepL (c :: r) = _
  rw [zq1,if_neg (by simp [h1,hp]),if_pos h2]; rfl
theorem zz2:∀ l:List UInt8,unqR (l.flatMap escL) = some l
 | [] => rfl
 | c :: l => by
   rw [List.flatMap_cons,zL3 (zL6 c _),List.drop_left,zz2 l]; rfl
theorem zw7 (l:List UInt8):zn0 (zf9 l) = some l:=by
 have hlen:(zf9 l).length = (l.flatMap escL).length + 2:=by unfold zf9; simp
 have hmid:midL (zf9 l) = l.flatMap escL:=by
  unfold midL; rw [hlen]; unfold zf9; simp
 have h0:(zf9 l).getD 0 0 = 34:=rfl
 have h1:(zf9 l).getD ((zf9 l).length - 1) 0 = 34:=by
  rw [hlen]
  unfold zf9
  rw [List.getD_eq_getElem?_getD,List.getElem?_append_right (by simp)]
  simp
 unfold zn0
 rw [if_pos ⟨by omega,h0,h1⟩,hmid,zz2]
end Go.Proofs.YtfgelheiknmjgaaGreatDoor.T1
namespace Go.Proofs.YtfgelheiknmjgaaGreatDoor.K
open Go.RowKit
section
variable {σ:Type} {step : σ → UInt8 → Option σ}
def runL {σ:Type} (step : σ → UInt8 → Option σ) : σ → List UInt8 → Option σ
 | st,[] => some st
 | st,c :: r => match step st c with
   | none => none
   | some s2 => runL step s2 r
theorem zt3:∀ (a:List UInt8) (st st2 : σ) (r:List UInt8),runL step st a = some st2 → spanL step st (a ++ r) = a.length + spanL step st2 r
 | [],st,st2,r,h => by cases h; simp
 | c :: a,st,st2,r,h => by
   unfold runL at h
   rw [List.cons_append,spanL]
   cases hc:step st c with
   | none => rw [hc] at h; cases h
   | some s3 =>
     rw [hc] at h
     show spanL step s3 (a ++ r) + 1 = _
     rw [zt3 a s3 st2 r h,List.length_cons]; omega
theorem zG1:∀ (a b:List UInt8) (st st2 : σ),runL step st a = some st2 → runL step st (a ++ b) = runL step st2 b
 | [],_,_,_,h => by cases h; rfl
 | c :: a,b,st,st2,h => by
   rw [runL] at h
   rw [List.cons_append,runL]
   cases hc:step st c with
   | none => rw [hc] at h; cases h
   | some s3 => rw [hc] at h; exact zG1 a b s3 st2 h
end
theorem zr5 {p:UInt8 → Prop} (h:∀ n:Fin 256,p (UInt8.ofNat n.val)) (c:UInt8):p c:=by
 have:=h ⟨c.toNat,c.toNat_lt⟩
 rwa [UInt8.ofNat_toNat] at this
def wdH (r:List UInt8):Bool:=wdB (r.getD 0 0)
theorem zF5:wdB 0 = false:=by decide
theorem zL0:∀ (a r:List UInt8),wdN (a ++ r) = a.length ↔ (a.all wdB = true ∧ wdH r = false)
 | [],r => by
   cases r with
   | nil => simp [wdN,spanL,wdH,zF5]
   | cons c r =>
     simp only [List.nil_append,List.length_nil,List.all_nil,true_and]
     unfold wdN spanL wdS wdH
     cases hc:wdB c with
     | true => simp [hc]
     | false => simp [hc]
 | c :: a,r => by
   have ih:=zL0 a r
   rw [List.cons_append,wdN,spanL,wdS]
   cases hc:wdB c with
   | true =>
     simp only [if_true,List.length_cons,List.all_cons,hc,Bool.true_and]
     rw [← ih]
     show wdN (a ++ r) + 1 = _ ↔ _
     omega
   | false => simp [hc]
theorem zM5:∀ c:UInt8,(wdB c = true ∨ c = 34 ∨ c = 45) → ¬ c ∈ sgL ∧ c ≠ 46:=zr5 (by decide +kernel)
theorem zP7:∀ c:UInt8,T1.letU (c.toNat:Int) = true → wdB c = true:=zr5 (by decide +kernel)
theorem zH7:∀ c:UInt8,dmB c = true → wdB c = true ∨ c = 45:=zr5 (by decide +kernel)
theorem zN8:∀ c:UInt8,c = 34 → T1.letU (c.toNat:Int) = false ∧ dmB c = false:=zr5 (by decide +kernel)
theorem dm_let:∀ c:UInt8,dmB c = true → T1.letU (c.toNat:Int) = false:=zr5 (by decide +kernel)
theorem zq2:∀ c:UInt8,(c ∈ sgL ∨ c = 46 ∨ wdB c = true ∨ c = 45 ∨ c = 34) → sepS false c = none:=zr5 (by decide +kernel)
theorem zS4 {l:List UInt8} (h:l.getD 0 0 ≠ 46):l.take 3 ≠ elL:=by
 intro e
 cases l with
 | nil => cases e
 | cons c r => injection e with e1 _; exact h e1
theorem zF7 {c:UInt8} {r:List UInt8} (h:c ∈ sgL):tokR (c :: r) = .ok (1,[c],1):=by
 unfold tokR; exact if_pos h
theorem tok_dots (r:List UInt8):tokR (46 :: 46 :: 46 :: r) = .ok (1,elL,3):=by
 unfold tokR
 have h:¬ (46:UInt8) ∈ sgL:=by decide
 simp [h,elL]
theorem tok_name {l:List UInt8} (h:T1.letU ((l.getD 0 0).toNat:Int) = true):tokR l = if T1.nameL (l.take (wdN l)) = true then .ok (2,l.take (wdN l),wdN l) else .error 3:=by
 have h1:=zM5 _ (.inl (zP7 _ h))
 unfold tokR
 simp only
 rw [if_neg h1.1,if_neg (zS4 h1.2),if_pos h]
theorem tok_int {l:List UInt8} (h:dmB (l.getD 0 0) = true):tokR l = if (T1.numL (l.take (wdN (l.drop 1) + 1))).2 = 0 then .ok (3,l.take (wdN (l.drop 1) + 1),wdN (l.drop 1) + 1) else .error (T1.numL (l.take (wdN (l.drop 1) + 1))).2:=by
 have h0:=dm_let _ h
 have h1:=zM5 _ ((zH7 _ h).elim .inl (fun x => .inr (.inr x)))
 unfold tokR
 simp only
 rw [if_neg h1.1,if_neg (zS4 h1.2),if_neg (by rw [h0]; decide),if_pos h]
theorem tok_text (r:List UInt8):tokR (34 :: r) = if r.length < ltN r + 1 then .error 3 else match T1.zn0 (34 :: r.take (ltN r + 1)) with
   | none => .error 3
   | some t => .ok (4,t,ltN r + 2):=by
 have h1:=zM5 34 (.inr (.inl rfl))
 have h2:=zN8 34 rfl
 have e0:(34 :: r).getD 0 0 = (34:UInt8):=rfl
 unfold tokR
 simp only [e0,List.drop_one,List.tail_cons,List.length_cons]
 rw [if_neg h1.1,if_neg (zS4 (by rw [e0]; exact h1.2)),if_neg (by rw [h2.1]; decide),if_neg (by rw [h2.2]; decide),if_pos trivial]
 by_cases hlt:r.length < ltN r + 1
 ·rw [if_pos hlt,if_pos (by omega)]
 ·rw [if_neg hlt,if_neg (by omega)]; rfl
inductive TokIs:List UInt8 → Int → List UInt8 → Nat → Prop
 | sign {c:UInt8} {r:List UInt8} (h:c ∈ sgL):TokIs (c :: r) 1 [c] 1
 | dots (r:List UInt8):TokIs (46 :: 46 :: 46 :: r) 1 elL 3
 | name {l:List UInt8} (h:T1.letU ((l.getD 0 0).toNat:Int) = true) (hn:T1.nameL (l.take (wdN l)) = true):TokIs l 2 (l.take (wdN l)) (wdN l)
 | int {l:List UInt8} (h:dmB (l.getD 0 0) = true) (hn:(T1.numL (l.take (wdN (l.drop 1) + 1))).2 = 0):TokIs l 3 (l.take (wdN (l.drop 1) + 1)) (wdN (l.drop 1) + 1)
 | text {r t:List UInt8} (hl:ltN r + 1 ≤ r.length) (hu:T1.zn0 (34 :: r.take (ltN r + 1)) = some t):TokIs (34 :: r) 4 t (ltN r + 2)
theorem TokIs.eq {l:List UInt8} {k:Int} {t:List UInt8} {n:Nat} (h:TokIs l k t n):tokR l = .ok (k,t,n):=by
 cases h with
 | sign h => exact zF7 h
 | dots r => exact tok_dots r
 | name h hn => rw [tok_name h,if_pos hn]
 | int h hn => rw [tok_int h,if_pos hn]
 | text hl hu => rw [tok_text,if_neg (by omega),hu]
end Go.Proofs.YtfgelheiknmjgaaGreatDoor.K

