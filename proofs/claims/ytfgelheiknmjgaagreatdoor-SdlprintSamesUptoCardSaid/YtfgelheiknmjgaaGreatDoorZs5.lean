
/-
 Texts joined: KTok KFirst KLaid WitK Base Val.
-/
import Derived.Test.YtfgelheiknmjgaaGreatDoorZs4
import Derived.Test.YtfgelheiknmjgaaGreatDoorCards
import Derived.Test.YtfgelheiknmjgaaGreatDoorTie
import Derived.Deep.DeepWitnessRowRef
import Derived.Stop.LaidErr
import Derived.OpenShut
import Derived.Lib.LaidU8
import Derived.PinnedBridge
import Derived.Lay
import Derived.ChangeSame
import Derived.JoinedOf
import Derived.JoinedAt
import Derived.RowKit
import Derived.RowKit2
import Derived.ReadAgain
import Derived.Carry
import Derived.SizedLaws
import Derived.Test.YtfgelheiknmjgaaGreatDoorProg
import Derived.WalkKit
import Derived.ProofKit
import Derived.Outline
import Derived.WalkSpells
import Derived.WalkLawsBesides
import Derived.Deep.QuietTactic
import Derived.BigQuiet
import Derived.StillTailTactics
import Derived.Lib.Hide
import Derived.Lib.Strings
import Derived.Deep.AppendLies
import Derived.Deep.RegionLaw
import Derived.ChangeAlike
import Derived.Deep.MidRow
namespace Go.Proofs.YtfgelheiknmjgaaGreatDoor.K
open Go.RowKit
structure LK (w:World):Prop where
 num:T1.Laid w
 utf:Lib.Utf8Tabs 0 1 w
def TB (W:World) (b:Nat) (c0 c1 c2:Value):Prop:=W.heap[b]? = some (.cells #[c0,c1,c2] 99 (0,0))
abbrev tkV (k:Int) (t:ByteArray) (a:Int):Value:=.agg #[.int .i64 k,.string t,.int .i64 a]
def TokAns (o:Except Int (Int × List UInt8 × Nat)) (e:Ending):Prop :=
 match o with
 | .ok (k,t,n) => e = .returned (.tuple #[tkV k ⟨t.toArray⟩ 0,.int .i64 n,.int .i64 0])
 | .error c => c ≠ 0 ∧ ∃ (k:Int) (t:ByteArray) (n:Int),e = .returned (.tuple #[tkV k t 0,.int .i64 n,.int .i64 c])
def TokPost (o:Except Int (Int × List UInt8 × Nat)) (w:World) (e:Ending) (w':World):Prop:=TokAns o e ∧ Below w.heap.size w w'
def nameR (l:List UInt8):Except Int (Int × List UInt8 × Nat):=if T1.nameL (l.take (wdN l)) = true then .ok (2,l.take (wdN l),wdN l) else .error 3
def intR (l:List UInt8):Except Int (Int × List UInt8 × Nat):=if (T1.numL (l.take (wdN (l.drop 1) + 1))).2 = 0 then .ok (3,l.take (wdN (l.drop 1) + 1),wdN (l.drop 1) + 1) else .error (T1.numL (l.take (wdN (l.drop 1) + 1))).2
def textR (l:List UInt8):Except Int (Int × List UInt8 × Nat):=if l.length < ltN (l.drop 1) + 2 then .error 3 else match T1.zn0 (l.take (ltN (l.drop 1) + 2)) with
 | none => .error 3
 | some t => .ok (4,t,ltN (l.drop 1) + 2)
end Go.Proofs.YtfgelheiknmjgaaGreatDoor.K
namespace Go.Proofs.YtfgelheiknmjgaaGreatDoor.K
open Go.RowKit
def RB (p:Nat) (r:Int) (w:World):Prop:=w.heap[p]? = some (.cells #[.int .i32 r] 21 (0,0))
def sgS:ByteArray:=⟨#[33,36,38,40,41,58,61,64,91,93,123,124,125]⟩
def leS:ByteArray:=⟨#[65,66,67,68,69,70,71,72,73,74,75,76,77,78,79,80,81,82,83,84,85,86,87,88,89,90,97,98,99,100,101,102,103,104,105,106,107,108,109,110,111,112,113,114,115,116,117,118,119,120,121,122,95]⟩
def dmS:ByteArray:=⟨#[45,48,49,50,51,52,53,54,55,56,57]⟩
end Go.Proofs.YtfgelheiknmjgaaGreatDoor.K
namespace Go.Proofs.YtfgelheiknmjgaaGreatDoor.K
open Go.ChangeShapes Go.WideShapes Go.ChangeAt Go.RowKit
theorem own:ownKnob Tryz.prog.godebug = none:=by kernel_rfl
abbrev zp3:List (String × DataW Unit):=[("math/bits.deBruijn32tab",Rows.laid_math_bits_deBruijn32tab),("math/bits.deBruijn64tab",Rows.laid_math_bits_deBruijn64tab),("internal/strconv.uint64pow10",Rows.laid_internal_strconv_uint64pow10),("unicode/utf8.acceptRanges",Rows.laid_unicode_utf8_acceptRanges),("strconv.ErrRange",Rows.laid_strconv_ErrRange),("strconv.ErrSyntax",Rows.laid_strconv_ErrSyntax),("unicode/utf8.first",Rows.laid_unicode_utf8_first)]
noncomputable def laidWorld (os:Os):World:=World.laidAll Tryz.prog os zp3
end Go.Proofs.YtfgelheiknmjgaaGreatDoor.K
namespace Go.Proofs.YtfgelheiknmjgaaGreatDoor
open Go.ChangeShapes Go.WideShapes Go.ChangeAt Go.RowKit
theorem zP9:laidOutB Tryz.prog = true:=by kernel_rfl
end Go.Proofs.YtfgelheiknmjgaaGreatDoor
namespace Go.Proofs.YtfgelheiknmjgaaGreatDoor
open Go.RowKit
theorem zo3 (l:List UInt8) (k:Nat) (h:k < l.length):l.take (k + 1) = l.take k ++ [l[k]]:=by
 rw [List.take_succ_eq_append_getElem h]
theorem zb8 (s:ByteArray):s.data.toList.length = s.size:=by rw [Array.length_toList]; rfl
theorem zu0 {s:ByteArray} (h:0 < s.size):s.toList ≠ []:=by
 rw [Lib.toList_data]; intro e
 have:=congrArg List.length e
 rw [zb8,List.length_nil] at this; omega
theorem zK5 {s:ByteArray} (h:0 < s.size):s.toList.isEmpty = false:=by
 have:=zu0 h
 cases e:s.toList with
 | nil => exact absurd e this
 | cons => rfl
theorem nil_of {s:ByteArray} (h:s.size = 0):s.toList = []:=by
 rw [Lib.toList_data]; have:=zb8 s; exact List.eq_nil_of_length_eq_zero (by omega)
theorem zu5 (c:UInt8):(c.toNat:Int) ≤ 255:=by have:=c.toNat_lt; omega
end Go.Proofs.YtfgelheiknmjgaaGreatDoor
namespace Go.Proofs.YtfgelheiknmjgaaGreatDoor
open Go.RowKit
inductive VT where
 | mk (k n:Int) (s:ByteArray) (items:List VT) (keys:List ByteArray)
mutual
def VT.size:VT → Nat
 | .mk _ _ _ is _ => 1 + VT.sizes is
def VT.sizes:List VT → Nat
 | [] => 0
 | t :: r => t.size + VT.sizes r
end
mutual
def VT.depth:VT → Nat
 | .mk _ _ _ is _ => 1 + VT.depths is
def VT.depths:List VT → Nat
 | [] => 0
 | t :: r => max t.depth (VT.depths r)
end
theorem VT.ind {P:VT → Prop} (h:∀ k n s is ks,(∀ (i:Nat) (t:VT),is[i]? = some t → P t) → P (.mk k n s is ks)) (t:VT):P t :=
 VT.rec (motive_1:=P) (motive_2:=fun l => ∀ (i:Nat) (t:VT),l[i]? = some t → P t) (fun k n s is ks ih => h k n s is ks ih)
  (fun i t hi => by simp at hi) (fun x r hx hr i t hi => by
    cases i with
    | zero => simp at hi; subst hi; exact hx
    | succ j => exact hr j t (by simpa using hi)) t
def C5 (w:World) (a:Addr) (v:Value):Prop:=∃ c0 c1 c2 c3 c4,v = .agg #[c0,c1,c2,c3,c4] ∧ w.cell? a = some c0 ∧ w.cell? ⟨a.block,a.off + 1,none⟩ = some c1 ∧ w.cell? ⟨a.block,a.off + 2,none⟩ = some c2 ∧ w.cell? ⟨a.block,a.off + 3,none⟩ = some c3 ∧ w.cell? ⟨a.block,a.off + 4,none⟩ = some c4
def KeysAt (w:World) (B:Nat) (K:Option Addr) (keys:List ByteArray):Prop :=
 0 < keys.length → ∃ a,K = some a ∧ a.block < B ∧ ∀ i s,keys[i]? = some s → w.cell? (a.add i) = some (.string s)
def small (k:Int):Prop:=-9223372036854775808 ≤ k ∧ k ≤ 9223372036854775807
inductive Rd (w:World) (B:Nat):Value → VT → Prop
 | mk {k n:Int} {s:ByteArray} {A:Option Addr} {li ci:Nat} {K:Option Addr} {lk ck:Nat} {items:List VT} {keys:List ByteArray} (V:Nat → Value)
    (hk:small k) (hn:small n) (hs:s.size ≤ 140737488351232) (hks:∀ s ∈ keys,s.size ≤ 140737488351232)
    (hli:items.length = li) (hlk:keys.length = lk) (hbi:li * 80 ≤ 140737488351232) (hbk:lk * 16 ≤ 140737488351232 ∧ lk ≤ ck)
    (hA:0 < li → ∃ a,A = some a ∧ a.block < B ∧ ∀ i,i < li → C5 w (a.add (i * 5)) (V i))
    (hr:∀ (i:Nat) (t:VT),items[i]? = some t → Rd w B (V i) t)
    (hK:KeysAt w B K keys) :
    Rd w B (.agg #[.int .i64 k,.int .i64 n,.string s,.slice A li ci,.slice K lk ck]) (.mk k n s items keys)
theorem za1 (a:Addr) (n:Nat):(a.add n).block = a.block:=by unfold Addr.add; split <;> rfl
theorem C5.kept {w w':World} {B:Nat} {a:Addr} {v:Value} (h:C5 w a v) (ha:a.block < B) (hb:Below B w w'):C5 w' a v:=by
 obtain ⟨c0,c1,c2,c3,c4,e,h0,h1,h2,h3,h4⟩:=h
 exact ⟨c0,c1,c2,c3,c4,e,(hb.cell ha).trans h0,(hb.cell (p:=⟨a.block,a.off + 1,none⟩) ha).trans h1,(hb.cell (p:=⟨a.block,a.off + 2,none⟩) ha).trans h2,(hb.cell (p:=⟨a.block,a.off + 3,none⟩) ha).trans h3,(hb.cell (p:=⟨a.block,a.off + 4,none⟩) ha).trans h4⟩
theorem KeysAt.kept {w w':World} {B:Nat} {K:Option Addr} {keys:List ByteArray} (h:KeysAt w B K keys) (hb:Below B w w'):KeysAt w' B K keys:=by
 intro hl
 obtain ⟨a,e,ha,hc⟩:=h hl
 exact ⟨a,e,ha,fun i s hi => (hb.cell (by rw [za1]; exact ha)).trans (hc i s hi)⟩
theorem Rd.kept {w w':World} {B:Nat} {v:Value} {t:VT} (h:Rd w B v t) (hb:Below B w w'):Rd w' B v t:=by
 induction h with
 | mk V hk hn hs hks hli hlk hbi hbk hA hr hK ih =>
   refine .mk V hk hn hs hks hli hlk hbi hbk (fun h0 => ?_) ih (hK.kept hb)
   obtain ⟨a,e,ha,hc⟩:=hA h0
   exact ⟨a,e,ha,fun i hi => (hc i hi).kept (by rw [za1]; exact ha) hb⟩
theorem Rd.mono {w:World} {B B':Nat} {v:Value} {t:VT} (h:Rd w B v t) (hb:B ≤ B'):Rd w B' v t:=by
 induction h with
 | mk V hk hn hs hks hli hlk hbi hbk hA hr hK ih =>
   refine .mk V hk hn hs hks hli hlk hbi hbk (fun h0 => ?_) ih (fun h0 => ?_)
   ·obtain ⟨a,e,ha,hc⟩:=hA h0
    exact ⟨a,e,by omega,hc⟩
   ·obtain ⟨a,e,ha,hc⟩:=hK h0
    exact ⟨a,e,by omega,hc⟩
theorem Rd.cells {w w':World} {B:Nat} {v:Value} {t:VT} {a:Addr} (h:Rd w B v t) (hc:C5 w' a v) :
  ∃ (k n:Int) (s:ByteArray) (A:Option Addr) (li ci:Nat) (K:Option Addr) (lk ck:Nat),v = .agg #[.int .i64 k,.int .i64 n,.string s,.slice A li ci,.slice K lk ck] ∧
   w'.cell? a = some (.int .i64 k) ∧ w'.cell? ⟨a.block,a.off + 1,none⟩ = some (.int .i64 n) ∧ w'.cell? ⟨a.block,a.off + 2,none⟩ = some (.string s) ∧
   w'.cell? ⟨a.block,a.off + 3,none⟩ = some (.slice A li ci) ∧ w'.cell? ⟨a.block,a.off + 4,none⟩ = some (.slice K lk ck):=by
 cases h with
 | mk V hk hn hs hks hli hlk hbi hbk hA hr hK =>
   obtain ⟨c0,c1,c2,c3,c4,e,h0,h1,h2,h3,h4⟩:=hc
   simp only [Value.agg.injEq,Array.mk.injEq,List.cons.injEq,and_true] at e
   obtain ⟨rfl,rfl,rfl,rfl,rfl⟩:=e
   exact ⟨_,_,_,_,_,_,_,_,_,rfl,h0,h1,h2,h3,h4⟩
theorem items_at {items:List VT} {li j:Nat} (hli:items.length = li) (hj:j < li):∃ t,items[j]? = some t:=⟨items[j]'(by omega),List.getElem?_eq_getElem (by omega)⟩
theorem zI9 (l:List VT) (k:Nat) (t:VT) (h:l[k]? = some t):VT.sizes (l.take (k+1)) = VT.sizes (l.take k) + t.size:=by
 induction l generalizing k with
 | nil => simp at h
 | cons x r ih =>
   cases k with
   | zero => simp at h; subst h; simp [VT.sizes]
   | succ j => simp only [List.take_succ_cons,VT.sizes]; rw [ih j (by simpa using h)]; omega
theorem zx0 (l:List VT) (k:Nat):VT.sizes (l.take k) ≤ VT.sizes l:=by
 induction l generalizing k with
 | nil => simp
 | cons x r ih =>
   cases k with
   | zero => simp [VT.sizes]
   | succ j => simp only [List.take_succ_cons,VT.sizes]; have:=ih j; omega
theorem ze5 {w wr:World} {B li j:Nat} {A:Option Addr} {V:Nat → Value} {items:List VT} (hA:0 < li → ∃ a,A = some a ∧ a.block < B ∧ ∀ i,i < li → C5 w (a.add (i * 5)) (V i))
  (hR:∀ (i:Nat) (t:VT),items[i]? = some t → Rd w B (V i) t) (hli:items.length = li) (hb:Below B w wr) (hj:j < li) :
  ∃ (a:Addr) (t:VT) (k n:Int) (s:ByteArray) (A1:Option Addr) (l1 c1:Nat) (K:Option Addr) (lk ck:Nat),A = some a ∧ items[j]? = some t ∧ V j = .agg #[.int .i64 k,.int .i64 n,.string s,.slice A1 l1 c1,.slice K lk ck] ∧ Rd wr B (V j) t ∧
   wr.cell? (a.add (j * 5)) = some (.int .i64 k) ∧ wr.cell? ⟨(a.add (j * 5)).block,(a.add (j * 5)).off + 1,none⟩ = some (.int .i64 n) ∧ wr.cell? ⟨(a.add (j * 5)).block,(a.add (j * 5)).off + 2,none⟩ = some (.string s) ∧
   wr.cell? ⟨(a.add (j * 5)).block,(a.add (j * 5)).off + 3,none⟩ = some (.slice A1 l1 c1) ∧ wr.cell? ⟨(a.add (j * 5)).block,(a.add (j * 5)).off + 4,none⟩ = some (.slice K lk ck):=by
 obtain ⟨a,e,ha,hc⟩:=hA (by omega)
 obtain ⟨t,ht⟩:=items_at hli hj
 have hrd:=(hR j t ht).kept hb
 obtain ⟨k,n,s,A1,l1,c1,K,lk,ck,e1,h⟩:=hrd.cells ((hc j hj).kept (by rw [za1]; exact ha) hb)
 exact ⟨a,t,k,n,s,A1,l1,c1,K,lk,ck,e,ht,e1,hrd,h⟩
theorem zF0 (l:List VT) (k:Nat) (t:VT) (h:l[k]? = some t):VT.depths (l.take (k+1)) = max (VT.depths (l.take k)) t.depth:=by
 induction l generalizing k with
 | nil => simp at h
 | cons x r ih =>
   cases k with
   | zero => simp at h; subst h; simp [VT.depths]
   | succ j => simp only [List.take_succ_cons,VT.depths]; rw [ih j (by simpa using h)]; omega
theorem zn5 (l:List VT) (k:Nat):VT.depths (l.take k) ≤ VT.depths l:=by
 induction l generalizing k with
 | nil => simp
 | cons x r ih =>
   cases k with
   | zero => simp [VT.depths]
   | succ j => simp only [List.take_succ_cons,VT.depths]; have:=ih j; omega
mutual
theorem VT.depth_le (t:VT):t.depth ≤ t.size:=by
 cases t with
 | mk k n s is ks => simp only [VT.depth,VT.size]; have:=VT.depths_le is; omega
theorem VT.depths_le (l:List VT):VT.depths l ≤ VT.sizes l:=by
 cases l with
 | nil => simp [VT.depths]
 | cons t r => simp only [VT.depths,VT.sizes]; have:=VT.depth_le t; have:=VT.depths_le r; omega
end
end Go.Proofs.YtfgelheiknmjgaaGreatDoor

