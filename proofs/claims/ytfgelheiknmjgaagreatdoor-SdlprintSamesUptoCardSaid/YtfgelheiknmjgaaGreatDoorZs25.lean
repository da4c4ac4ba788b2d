
/-
 Texts joined: I5 KFact2 KFact3 I6 I7.
-/
import Derived.Test.YtfgelheiknmjgaaGreatDoorZs24
import Derived.Recover
import Derived.Defers
import Derived.Test.YtfgelheiknmjgaaGreatDoorZs4
import Derived.Test.YtfgelheiknmjgaaGreatDoorZs17
namespace Go.Proofs.YtfgelheiknmjgaaGreatDoor
open Go.RowKit
section
variable {P:Program} {ops:Array Oper} {Q:Exit → Act → List Frame → World → Prop} {a:Act} {cs:List Frame} {w w':World} {i:Nat} {rest:List Nat} {o:Oper}
end
structure Off3 (d a c:Nat) (w w':World):Prop where
 os:w'.os = w.os
 tape:w'.tape = w.tape
 output:w'.output = w.output
 size:w.heap.size ≤ w'.heap.size
 block:∀ b,b < w.heap.size → b ≠ d → b ≠ a → b ≠ c → w'.heap[b]? = w.heap[b]?
def Caught (d a c:Nat) (v0 v1 v2:Value) (w w':World):Prop:=Bk w' d #[v0] 24 ∧ Bk w' a #[v1] 3 ∧ Bk w' c #[v2] 29 ∧ Off3 d a c w w'
end Go.Proofs.YtfgelheiknmjgaaGreatDoor
namespace Go.Proofs.YtfgelheiknmjgaaGreatDoor.K
open Go.RowKit
theorem zs5 (f at':Nat) (l:List UInt8):scF (f + 1) at' l = if l.drop (sepN l) = [] then .ok [(5,[],at' + sepN l)] else
   match tokR (l.drop (sepN l)) with
   | .error c => .error (at' + sepN l,c)
   | .ok (k,t,n) => match scF f (at' + sepN l + n) ((l.drop (sepN l)).drop n) with
     | .error e => .error e
     | .ok ts => .ok ((k,t,at' + sepN l) :: ts):=rfl
structure PlaceOk (s:List UInt8) (lo:Nat) (p:Tk):Prop where
 lo:lo ≤ p.2.2
 lt:p.2.2 < s.length
 kind:p.1 ≠ 5
 text:p.1 = 4 → s.getD p.2.2 0 = 34
 other:p.1 ≠ 4 → p.2.2 + p.2.1.length ≤ s.length ∧ (s.drop p.2.2).take p.2.1.length = p.2.1
end Go.Proofs.YtfgelheiknmjgaaGreatDoor.K
namespace Go.Proofs.YtfgelheiknmjgaaGreatDoor.K
open Go.RowKit
def wordK (p:Tk):List UInt8:=if p.1 = 4 then T1.zf9 p.2.1 else p.2.1
inductive GoodK:Int → List UInt8 → Prop
 | sign {c:UInt8} (h:c ∈ sgL):GoodK 1 [c]
 | dots:GoodK 1 elL
 | name {t:List UInt8} (h:T1.nameL t = true):GoodK 2 t
 | int {t:List UInt8} (h:(T1.numL t).2 = 0):GoodK 3 t
 | text (t:List UInt8):GoodK 4 t
theorem zv7 {t:List UInt8} (h:T1.nameL t = true):∃ c u,t = c :: u ∧ T1.letU (c.toNat:Int) = true ∧ t.all wdB = true:=by
 unfold T1.nameL at h
 cases t with
 | nil => simp at h
 | cons c u =>
   simp only [Bool.and_eq_true,Bool.not_eq_true'] at h
   obtain ⟨⟨_,hd⟩,ha⟩:=h
   have hd:T1.digB (c.toNat:Int) = false:=hd
   have h1:(c :: u).all wdB = true:=ha
   refine ⟨c,u,rfl, ?_,h1⟩
   rw [List.all_cons,Bool.and_eq_true] at h1
   have h2:T1.nmB (c.toNat:Int) = true:=h1.1
   rw [T1.nm_of,hd,Bool.or_false] at h2
   exact h2
theorem dig_wd:∀ c:UInt8,T1.digB (c.toNat:Int) = true → wdB c = true ∧ dmB c = true:=zr5 (by decide +kernel)
theorem zS5 {t:List UInt8} (h:T1.allDg t = true):t.all wdB = true:=by
 unfold T1.allDg at h
 rw [List.all_eq_true] at h ⊢
 exact fun c hc => (dig_wd c (h c hc)).1
theorem zC5 {t:List UInt8} (h:(T1.numL t).2 = 0):∃ c u,t = c :: u ∧ dmB c = true ∧ u.all wdB = true:=by
 have hd:T1.decL t = true:=by
  cases hx:T1.decL t with
  | true => rfl
  | false => rw [T1.num_form hx] at h; cases h
 rcases T1.zS8 hd with rfl | ⟨d,hne,_,hdg,rfl | rfl,_⟩
 ·exact ⟨48,[],rfl,by decide,rfl⟩
 ·obtain ⟨c,u,rfl⟩:=List.exists_cons_of_ne_nil hne
  have h2:=T1.zh3.1 hdg
  exact ⟨c,u,rfl,(dig_wd c h2.1).2,zS5 h2.2⟩
 ·exact ⟨45,d,rfl,by decide,zS5 hdg⟩
theorem esc_run:∀ c:UInt8,runL ltS false (T1.escL c) = some false:=zr5 (by decide +kernel)
theorem zH3:∀ t:List UInt8,runL ltS false (t.flatMap T1.escL) = some false
 | [] => rfl
 | c :: t => by rw [List.flatMap_cons,zG1 _ _ _ _ (esc_run c)]; exact zH3 t
theorem lt_quote (t r:List UInt8):ltN (t.flatMap T1.escL ++ 34 :: r) = (t.flatMap T1.escL).length:=by
 unfold ltN
 rw [zt3 _ _ _ _ (zH3 t)]
 rfl
theorem tok_word {k:Int} {t:List UInt8} (j:Nat) (h:GoodK k t) (r:List UInt8) (hr:wdH r = false):TokIs (wordK (k,t,j) ++ r) k t (wordK (k,t,j)).length:=by
 cases h with
 | sign h => exact .sign h
 | dots => exact .dots r
 | name h =>
   obtain ⟨c,u,rfl,hc,ha⟩:=zv7 h
   have e:=(zL0 (c :: u) r).2 ⟨ha,hr⟩
   have e2:(c :: u ++ r).take (wdN (c :: u ++ r)) = c :: u:=by rw [e,List.take_left]
   have:=TokIs.name (l:=c :: u ++ r) hc (by rw [e2]; exact h)
   rw [e2,e] at this
   exact this
 | int h =>
   obtain ⟨c,u,rfl,hc,ha⟩:=zC5 h
   have e:=(zL0 u r).2 ⟨ha,hr⟩
   have e2:(c :: u ++ r).take (wdN ((c :: u ++ r).drop 1) + 1) = c :: u:=by
    show (c :: (u ++ r)).take (wdN (u ++ r) + 1) = _
    rw [e,List.take_succ_cons,List.take_left]
   have:=TokIs.int (l:=c :: u ++ r) hc (by rw [e2]; exact h)
   rw [e2] at this
   have e3:wdN ((c :: u ++ r).drop 1) + 1 = (c :: u).length:=by
    show wdN (u ++ r) + 1 = _
    rw [e]; rfl
   rw [e3] at this
   exact this
 | text t =>
   have ew:wordK (4,t,j) = 34 :: (t.flatMap T1.escL ++ [34]):=rfl
   have el:ltN (t.flatMap T1.escL ++ [34] ++ r) = (t.flatMap T1.escL).length:=by rw [List.append_assoc]; exact lt_quote t r
   have e2:(t.flatMap T1.escL ++ [34] ++ r).take (ltN (t.flatMap T1.escL ++ [34] ++ r) + 1) = t.flatMap T1.escL ++ [34]:=by
    rw [el]
    have:(t.flatMap T1.escL).length + 1 = (t.flatMap T1.escL ++ [34]).length:=by simp
    rw [this,List.take_left]
   have:=TokIs.text (r:=t.flatMap T1.escL ++ [34] ++ r) (t:=t) (by rw [el]; simp) (by rw [e2]; exact T1.zw7 t)
   rw [el] at this
   rw [ew]
   have hn:(34 :: (t.flatMap T1.escL ++ [34])).length = (t.flatMap T1.escL).length + 2:=by simp
   rw [hn]
   exact this
theorem zy8 {k:Int} {t:List UInt8} (j:Nat) (h:GoodK k t):∃ c u,wordK (k,t,j) = c :: u ∧ sepS false c = none:=by
 cases h with
 | sign h => exact ⟨_,[],rfl,zq2 _ (.inl h)⟩
 | dots => exact ⟨_,_,rfl,zq2 _ (.inr (.inl rfl))⟩
 | name h =>
   obtain ⟨c,u,rfl,hc,ha⟩:=zv7 h
   exact ⟨c,u,rfl,zq2 _ (.inr (.inr (.inl (zP7 _ hc))))⟩
 | int h =>
   obtain ⟨c,u,rfl,hc,ha⟩:=zC5 h
   exact ⟨c,u,rfl,zq2 _ ((zH7 _ hc).elim (fun h => .inr (.inr (.inl h))) (fun h => .inr (.inr (.inr (.inl h)))))⟩
 | text t => exact ⟨34,_,rfl,zq2 _ (.inr (.inr (.inr (.inr rfl))))⟩
def tailK:List Tk → List UInt8
 | [] => []
 | p :: r => 32 :: (wordK p ++ tailK r)
theorem scan_one {k:Int} {t:List UInt8} {j:Nat} (hg:GoodK k t) (pre:List UInt8) (hp:pre = [] ∨ pre = [32]) (r:List UInt8) (hr:wdH r = false) (f b:Nat) (ts:List Tk) (h:scF f (b + pre.length + (wordK (k,t,j)).length) r = .ok ts) :
  scF (f + 1) b (pre ++ (wordK (k,t,j) ++ r)) = .ok ((k,t,b + pre.length) :: ts):=by
 obtain ⟨c,u,hc,hs⟩:=zy8 j hg
 have ht:=tok_word j hg r hr
 have h0:spanL sepS false (wordK (k,t,j) ++ r) = 0:=by
  rw [hc,List.cons_append,spanL,hs]
 have hn:sepN (pre ++ (wordK (k,t,j) ++ r)) = pre.length:=by
  unfold sepN
  rw [zt3 pre false false _ (by rcases hp with rfl | rfl <;> rfl),h0]; rfl
 rw [zs5,hn,List.drop_left,if_neg (by rw [hc]; simp),ht.eq]
 simp only
 rw [List.drop_left,h]
end Go.Proofs.YtfgelheiknmjgaaGreatDoor.K
namespace Go.Proofs.YtfgelheiknmjgaaGreatDoor
open Go.RowKit
def sdlF (el:DfT) (s:List UInt8):Except Er (List DefT):=match K.scR s with
 | .error x => .error x
 | .ok ts => exB (docR el ts) fun q => .ok q.1
def ParsePost (w:World) (r:Except Er (List DefT)) (e:Ending) (w':World):Prop:=Below w.heap.size w w' ∧ match r with
 | .ok l => ∃ v,e = .returned (.tuple #[.agg #[v],.int .i64 0,.int .i64 0]) ∧ DefsC w' (fun b => w.heap.size ≤ b ∧ b < w'.heap.size) v l
 | .error x => e = .returned (.tuple #[.agg #[.slice none 0 0],.int .i64 x.1,.int .i64 x.2])
abbrev w3 (w:World):World:=((w.alloc (.cells #[.slice none 0 0] 24 (0,0))).alloc (.cells #[.int .i64 0] 3 (0,0))).alloc (.cells #[.int .i64 0] 29 (0,0))
structure Res3 (w:World) (v0 v1 v2:Value) (W:World):Prop where
 d:Bk W w.heap.size #[v0] 24
 a:Bk W (w.heap.size + 1) #[v1] 3
 c:Bk W (w.heap.size + 1 + 1) #[v2] 29
 below:Below w.heap.size w W
 size:w.heap.size + 3 ≤ W.heap.size
variable {w W W':World} {v0 v1 v2:Value}
end Go.Proofs.YtfgelheiknmjgaaGreatDoor
namespace Go.Proofs.YtfgelheiknmjgaaGreatDoor
open Go.RowKit
def valP:ElT:=vF obV 24 1
def wvP:List Tk → Except Er (VT × List Tk):=whP valP
def argX:=argP wvP
def dirX:=dirP argX
def inpX:=inpP refP wvP dirX
def fldX:=fldP inpX refP dirX
def memX:=memP dirX
def defX (k:Nat):List Tk → Except Er (DefT × List Tk):=if k = 1 then df1 fldX dirX else if k = 2 then df2 fldX dirX else if k = 3 then df3 dirX else if k = 4 then df4 memX dirX else df5 inpX dirX
def sdlR (s:List UInt8):Except Er (List DefT):=sdlF defX s
variable {p:Nat} {W:World} {ts:List Tk} {m:Nat}
end Go.Proofs.YtfgelheiknmjgaaGreatDoor

