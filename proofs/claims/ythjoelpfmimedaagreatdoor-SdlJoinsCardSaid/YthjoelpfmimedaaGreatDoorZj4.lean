
/-
  Texts joined: Val Open Open2 D0 D1Dir D1Def D1Str D1Fld D1Mem D1Inp.
-/
import Derived.Test.YthjoelpfmimedaaGreatDoorZj3
import Derived.Deep.MidRow
import Derived.ChangeArms
import Derived.Deep.Strs
import Derived.SizedLaws
import Derived.ChangeMaps
import Derived.WideShapes
import Derived.OpenShut
namespace Go.Proofs.YthjoelpfmimedaaGreatDoor
open Go.RowKit
inductive VT where
  | mk (k n : Int) (s : ByteArray) (items : List VT) (keys : List ByteArray)
mutual
def VT.size : VT → Nat
  | .mk _ _ _ is _ => 1 + VT.sizes is
def VT.sizes : List VT → Nat
  | [] => 0
  | t :: r => t.size + VT.sizes r
end
mutual
def VT.depth : VT → Nat
  | .mk _ _ _ is _ => 1 + VT.depths is
def VT.depths : List VT → Nat
  | [] => 0
  | t :: r => max t.depth (VT.depths r)
end
theorem VT.ind {P : VT → Prop} (h : ∀ k n s is ks, (∀ (i : Nat) (t : VT), is[i]? = some t → P t) → P (.mk k n s is ks)) (t : VT) : P t :=
  VT.rec (motive_1 := P) (motive_2 := fun l => ∀ (i : Nat) (t : VT), l[i]? = some t → P t) (fun k n s is ks ih => h k n s is ks ih)
    (fun i t hi => by simp at hi) (fun x r hx hr i t hi => by
      cases i with
      | zero => simp at hi; subst hi; exact hx
      | succ j => exact hr j t (by simpa using hi)) t
def C5 (w : World) (a : Addr) (v : Value) : Prop := ∃ c0 c1 c2 c3 c4, v = .agg #[c0, c1, c2, c3, c4] ∧ w.cell? a = some c0 ∧ w.cell? ⟨a.block, a.off + 1, none⟩ = some c1 ∧ w.cell? ⟨a.block, a.off + 2, none⟩ = some c2 ∧ w.cell? ⟨a.block, a.off + 3, none⟩ = some c3 ∧ w.cell? ⟨a.block, a.off + 4, none⟩ = some c4
def KeysAt (w : World) (B : Nat) (K : Option Addr) (keys : List ByteArray) : Prop :=
  0 < keys.length → ∃ a, K = some a ∧ a.block < B ∧ ∀ i s, keys[i]? = some s → w.cell? (a.add i) = some (.string s)
def small (k : Int) : Prop := -9223372036854775808 ≤ k ∧ k ≤ 9223372036854775807
inductive Rd (w : World) (B : Nat) : Value → VT → Prop
  | mk {k n : Int} {s : ByteArray} {A : Option Addr} {li ci : Nat} {K : Option Addr} {lk ck : Nat} {items : List VT} {keys : List ByteArray} (V : Nat → Value)
      (hk : small k) (hn : small n) (hs : s.size ≤ 140737488351232) (hks : ∀ s ∈ keys, s.size ≤ 140737488351232)
      (hli : items.length = li) (hlk : keys.length = lk) (hbi : li * 80 ≤ 140737488351232) (hbk : lk * 16 ≤ 140737488351232)
      (hA : 0 < li → ∃ a, A = some a ∧ a.block < B ∧ ∀ i, i < li → C5 w (a.add (i * 5)) (V i))
      (hr : ∀ (i : Nat) (t : VT), items[i]? = some t → Rd w B (V i) t)
      (hK : KeysAt w B K keys) :
      Rd w B (.agg #[.int .i64 k, .int .i64 n, .string s, .slice A li ci, .slice K lk ck]) (.mk k n s items keys)
theorem add_block (a : Addr) (n : Nat) : (a.add n).block = a.block := by unfold Addr.add; split <;> rfl
theorem C5.kept {w w' : World} {B : Nat} {a : Addr} {v : Value} (h : C5 w a v) (ha : a.block < B) (hb : Below B w w') : C5 w' a v := by
  obtain ⟨c0, c1, c2, c3, c4, e, h0, h1, h2, h3, h4⟩ := h
  exact ⟨c0, c1, c2, c3, c4, e, (hb.cell ha).trans h0, (hb.cell (p := ⟨a.block, a.off + 1, none⟩) ha).trans h1, (hb.cell (p := ⟨a.block, a.off + 2, none⟩) ha).trans h2, (hb.cell (p := ⟨a.block, a.off + 3, none⟩) ha).trans h3, (hb.cell (p := ⟨a.block, a.off + 4, none⟩) ha).trans h4⟩
theorem KeysAt.kept {w w' : World} {B : Nat} {K : Option Addr} {keys : List ByteArray} (h : KeysAt w B K keys) (hb : Below B w w') : KeysAt w' B K keys := by
  intro hl
  obtain ⟨a, e, ha, hc⟩ := h hl
  exact ⟨a, e, ha, fun i s hi => (hb.cell (by rw [add_block]; exact ha)).trans (hc i s hi)⟩
theorem Rd.kept {w w' : World} {B : Nat} {v : Value} {t : VT} (h : Rd w B v t) (hb : Below B w w') : Rd w' B v t := by
  induction h with
  | mk V hk hn hs hks hli hlk hbi hbk hA hr hK ih =>
    refine .mk V hk hn hs hks hli hlk hbi hbk (fun h0 => ?_) ih (hK.kept hb)
    obtain ⟨a, e, ha, hc⟩ := hA h0
    exact ⟨a, e, ha, fun i hi => (hc i hi).kept (by rw [add_block]; exact ha) hb⟩
theorem Rd.mono {w : World} {B B' : Nat} {v : Value} {t : VT} (h : Rd w B v t) (hb : B ≤ B') : Rd w B' v t := by
  induction h with
  | mk V hk hn hs hks hli hlk hbi hbk hA hr hK ih =>
    refine .mk V hk hn hs hks hli hlk hbi hbk (fun h0 => ?_) ih (fun h0 => ?_)
    · obtain ⟨a, e, ha, hc⟩ := hA h0
      exact ⟨a, e, by omega, hc⟩
    · obtain ⟨a, e, ha, hc⟩ := hK h0
      exact ⟨a, e, by omega, hc⟩
theorem Rd.cells {w w' : World} {B : Nat} {v : Value} {t : VT} {a : Addr} (h : Rd w B v t) (hc : C5 w' a v) :
    ∃ (k n : Int) (s : ByteArray) (A : Option Addr) (li ci : Nat) (K : Option Addr) (lk ck : Nat), v = .agg #[.int .i64 k, .int .i64 n, .string s, .slice A li ci, .slice K lk ck] ∧
      w'.cell? a = some (.int .i64 k) ∧ w'.cell? ⟨a.block, a.off + 1, none⟩ = some (.int .i64 n) ∧ w'.cell? ⟨a.block, a.off + 2, none⟩ = some (.string s) ∧
      w'.cell? ⟨a.block, a.off + 3, none⟩ = some (.slice A li ci) ∧ w'.cell? ⟨a.block, a.off + 4, none⟩ = some (.slice K lk ck) := by
  cases h with
  | mk V hk hn hs hks hli hlk hbi hbk hA hr hK =>
    obtain ⟨c0, c1, c2, c3, c4, e, h0, h1, h2, h3, h4⟩ := hc
    simp only [Value.agg.injEq, Array.mk.injEq, List.cons.injEq, and_true] at e
    obtain ⟨rfl, rfl, rfl, rfl, rfl⟩ := e
    exact ⟨_, _, _, _, _, _, _, _, _, rfl, h0, h1, h2, h3, h4⟩
theorem items_at {items : List VT} {li j : Nat} (hli : items.length = li) (hj : j < li) : ∃ t, items[j]? = some t := ⟨items[j]'(by omega), List.getElem?_eq_getElem (by omega)⟩
theorem round_at {w wr : World} {B li j : Nat} {A : Option Addr} {V : Nat → Value} {items : List VT} (hA : 0 < li → ∃ a, A = some a ∧ a.block < B ∧ ∀ i, i < li → C5 w (a.add (i * 5)) (V i))
    (hR : ∀ (i : Nat) (t : VT), items[i]? = some t → Rd w B (V i) t) (hli : items.length = li) (hb : Below B w wr) (hj : j < li) :
    ∃ (a : Addr) (t : VT) (k n : Int) (s : ByteArray) (A1 : Option Addr) (l1 c1 : Nat) (K : Option Addr) (lk ck : Nat), A = some a ∧ items[j]? = some t ∧ V j = .agg #[.int .i64 k, .int .i64 n, .string s, .slice A1 l1 c1, .slice K lk ck] ∧ Rd wr B (V j) t ∧
      wr.cell? (a.add (j * 5)) = some (.int .i64 k) ∧ wr.cell? ⟨(a.add (j * 5)).block, (a.add (j * 5)).off + 1, none⟩ = some (.int .i64 n) ∧ wr.cell? ⟨(a.add (j * 5)).block, (a.add (j * 5)).off + 2, none⟩ = some (.string s) ∧
      wr.cell? ⟨(a.add (j * 5)).block, (a.add (j * 5)).off + 3, none⟩ = some (.slice A1 l1 c1) ∧ wr.cell? ⟨(a.add (j * 5)).block, (a.add (j * 5)).off + 4, none⟩ = some (.slice K lk ck) := by
  obtain ⟨a, e, ha, hc⟩ := hA (by omega)
  obtain ⟨t, ht⟩ := items_at hli hj
  have hrd := (hR j t ht).kept hb
  obtain ⟨k, n, s, A1, l1, c1, K, lk, ck, e1, h⟩ := hrd.cells ((hc j hj).kept (by rw [add_block]; exact ha) hb)
  exact ⟨a, t, k, n, s, A1, l1, c1, K, lk, ck, e, ht, e1, hrd, h⟩
end Go.Proofs.YthjoelpfmimedaaGreatDoor
namespace Go.Proofs.YthjoelpfmimedaaGreatDoor
open Go.RowKit Go.ChangeShapes Go.WideShapes
section
variable {H : Type} {enc : TypeId × Value → H} {w : World} {spare : Nat → Bool} {held : Bool}
end
end Go.Proofs.YthjoelpfmimedaaGreatDoor
namespace Go.Proofs.YthjoelpfmimedaaGreatDoor
open Go.RowKit Go.ChangeShapes Go.WideShapes
section
variable {H : Type} {enc : TypeId × Value → H} {W : World} {spare : Nat → Bool} {held : Bool}
end
end Go.Proofs.YthjoelpfmimedaaGreatDoor
namespace Go.Proofs.YthjoelpfmimedaaGreatDoor
open Go.RowKit
def at_ (a : Addr) : Nat → Addr
  | 0 => a
  | j + 1 => ⟨a.block, a.off + (j + 1), none⟩
theorem at_block (a : Addr) (j : Nat) : (at_ a j).block = a.block := by cases j <;> rfl
abbrev big : Nat := 140737488351232
structure Stays {α : Type} (R : World → Nat → (Nat → Value) → α → Prop) : Prop where
  kept : ∀ {w w' : World} {B : Nat} {f : Nat → Value} {x : α}, R w B f x → Below B w w' → R w' B f x
  mono : ∀ {w : World} {B B' : Nat} {f : Nat → Value} {x : α}, R w B f x → B ≤ B' → R w B' f x
def Sl {α : Type} (k bytes : Nat) (R : World → Nat → (Nat → Value) → α → Prop) (w : World) (B : Nat) (v : Value) (xs : List α) : Prop :=
  ∃ A c, v = .slice A xs.length c ∧ xs.length ≤ c ∧ xs.length * bytes ≤ big ∧ ∃ V : Nat → Nat → Value,
    (0 < xs.length → ∃ a, A = some a ∧ a.block < B ∧ ∀ i, i < xs.length → ∀ j, j < k → w.cell? (at_ (a.add (i * k)) j) = some (V i j)) ∧ ∀ i x, xs[i]? = some x → R w B (V i) x
theorem Sl.kept {α : Type} {k bytes : Nat} {R : World → Nat → (Nat → Value) → α → Prop} (hR : Stays R) {w w' : World} {B : Nat} {v : Value} {xs : List α} (h : Sl k bytes R w B v xs) (hw : Below B w w') : Sl k bytes R w' B v xs := by
  obtain ⟨A, c, e, hc, hb, V, hA, hr⟩ := h
  refine ⟨A, c, e, hc, hb, V, fun h0 => ?_, fun i x hx => hR.kept (hr i x hx) hw⟩
  obtain ⟨a, ea, ha, hx⟩ := hA h0
  exact ⟨a, ea, ha, fun i hi j hj => (hw.cell (by rw [at_block, add_block]; exact ha)).trans (hx i hi j hj)⟩
theorem Sl.mono {α : Type} {k bytes : Nat} {R : World → Nat → (Nat → Value) → α → Prop} (hR : Stays R) {w : World} {B B' : Nat} {v : Value} {xs : List α} (h : Sl k bytes R w B v xs) (hB : B ≤ B') : Sl k bytes R w B' v xs := by
  obtain ⟨A, c, e, hc, hb, V, hA, hr⟩ := h
  refine ⟨A, c, e, hc, hb, V, fun h0 => ?_, fun i x hx => hR.mono (hr i x hx) hB⟩
  obtain ⟨a, ea, ha, hx⟩ := hA h0
  exact ⟨a, ea, Nat.lt_of_lt_of_le ha hB, hx⟩
structure DirT where
  name : ByteArray
  args : List (ByteArray × VT)
structure InpT where
  name : ByteArray
  tn : ByteArray
  tw : List Int
  has : Bool
  dflt : VT
  dirs : List DirT
structure FldT where
  name : ByteArray
  args : List InpT
  tn : ByteArray
  tw : List Int
  dirs : List DirT
structure MemT where
  name : ByteArray
  dirs : List DirT
structure DefT where
  kind : Int
  name : ByteArray
  impl : List ByteArray
  dirs : List DirT
  fields : List FldT
  members : List MemT
  inputs : List InpT
def StrR (_ : World) (_ : Nat) (f : Nat → Value) (s : ByteArray) : Prop := f 0 = .string s ∧ s.size ≤ big
def IntR (_ : World) (_ : Nat) (f : Nat → Value) (n : Int) : Prop := f 0 = .int .i64 n ∧ small n
def WrapsR := Sl 1 8 IntR
def NamesR := Sl 1 16 StrR
structure RfR (w : World) (B : Nat) (c0 c1 : Value) (n : ByteArray) (xs : List Int) : Prop where
  name : c0 = .string n
  size : n.size ≤ big
  wraps : WrapsR w B c1 xs
structure ArgR (w : World) (B : Nat) (f : Nat → Value) (x : ByteArray × VT) : Prop where
  name : f 0 = .string x.1
  size : x.1.size ≤ big
  val : Rd w B (.agg #[f 1, f 2, f 3, f 4, f 5]) x.2
def ArgsR := Sl 6 96 ArgR
structure DirR (w : World) (B : Nat) (f : Nat → Value) (x : DirT) : Prop where
  name : f 0 = .string x.name
  size : x.name.size ≤ big
  args : ArgsR w B (f 1) x.args
def DirsR := Sl 2 40 DirR
structure InpR (w : World) (B : Nat) (f : Nat → Value) (x : InpT) : Prop where
  name : f 0 = .string x.name
  size : x.name.size ≤ big
  type : RfR w B (f 1) (f 2) x.tn x.tw
  has : f 3 = .bool x.has
  val : Rd w B (.agg #[f 4, f 5, f 6, f 7, f 8]) x.dflt
  dirs : DirsR w B (f 9) x.dirs
def InpsR := Sl 10 168 InpR
structure FldR (w : World) (B : Nat) (f : Nat → Value) (x : FldT) : Prop where
  name : f 0 = .string x.name
  size : x.name.size ≤ big
  args : InpsR w B (f 1) x.args
  type : RfR w B (f 2) (f 3) x.tn x.tw
  dirs : DirsR w B (f 4) x.dirs
def FldsR := Sl 5 104 FldR
structure MemR (w : World) (B : Nat) (f : Nat → Value) (x : MemT) : Prop where
  name : f 0 = .string x.name
  size : x.name.size ≤ big
  dirs : DirsR w B (f 1) x.dirs
def MemsR := Sl 2 40 MemR
structure DefR (w : World) (B : Nat) (f : Nat → Value) (x : DefT) : Prop where
  kind : f 0 = .int .i64 x.kind
  small : small x.kind
  name : f 1 = .string x.name
  size : x.name.size ≤ big
  impl : NamesR w B (f 2) x.impl
  dirs : DirsR w B (f 3) x.dirs
  fields : FldsR w B (f 4) x.fields
  members : MemsR w B (f 5) x.members
  inputs : InpsR w B (f 6) x.inputs
def DefsR := Sl 7 144 DefR
theorem StrR.stays : Stays StrR := ⟨fun h _ => h, fun h _ => h⟩
theorem IntR.stays : Stays IntR := ⟨fun h _ => h, fun h _ => h⟩
section
variable {w w' : World} {B B' : Nat}
theorem WrapsR.kept {v : Value} {xs : List Int} (h : WrapsR w B v xs) (hb : Below B w w') : WrapsR w' B v xs := Sl.kept IntR.stays h hb
theorem WrapsR.mono {v : Value} {xs : List Int} (h : WrapsR w B v xs) (hb : B ≤ B') : WrapsR w B' v xs := Sl.mono IntR.stays h hb
theorem NamesR.kept {v : Value} {xs : List ByteArray} (h : NamesR w B v xs) (hb : Below B w w') : NamesR w' B v xs := Sl.kept StrR.stays h hb
theorem NamesR.mono {v : Value} {xs : List ByteArray} (h : NamesR w B v xs) (hb : B ≤ B') : NamesR w B' v xs := Sl.mono StrR.stays h hb
theorem RfR.kept {c0 c1 : Value} {n : ByteArray} {xs : List Int} (h : RfR w B c0 c1 n xs) (hb : Below B w w') : RfR w' B c0 c1 n xs := ⟨h.name, h.size, h.wraps.kept hb⟩
theorem RfR.mono {c0 c1 : Value} {n : ByteArray} {xs : List Int} (h : RfR w B c0 c1 n xs) (hb : B ≤ B') : RfR w B' c0 c1 n xs := ⟨h.name, h.size, h.wraps.mono hb⟩
theorem ArgR.stays : Stays ArgR := ⟨fun h hb => ⟨h.name, h.size, h.val.kept hb⟩, fun h hb => ⟨h.name, h.size, h.val.mono hb⟩⟩
theorem ArgsR.kept {v : Value} {xs : List (ByteArray × VT)} (h : ArgsR w B v xs) (hb : Below B w w') : ArgsR w' B v xs := Sl.kept ArgR.stays h hb
theorem ArgsR.mono {v : Value} {xs : List (ByteArray × VT)} (h : ArgsR w B v xs) (hb : B ≤ B') : ArgsR w B' v xs := Sl.mono ArgR.stays h hb
theorem DirR.stays : Stays DirR := ⟨fun h hb => ⟨h.name, h.size, h.args.kept hb⟩, fun h hb => ⟨h.name, h.size, h.args.mono hb⟩⟩
theorem DirsR.kept {v : Value} {xs : List DirT} (h : DirsR w B v xs) (hb : Below B w w') : DirsR w' B v xs := Sl.kept DirR.stays h hb
theorem DirsR.mono {v : Value} {xs : List DirT} (h : DirsR w B v xs) (hb : B ≤ B') : DirsR w B' v xs := Sl.mono DirR.stays h hb
theorem InpR.stays : Stays InpR := ⟨fun h hb => ⟨h.name, h.size, h.type.kept hb, h.has, h.val.kept hb, h.dirs.kept hb⟩, fun h hb => ⟨h.name, h.size, h.type.mono hb, h.has, h.val.mono hb, h.dirs.mono hb⟩⟩
theorem InpsR.kept {v : Value} {xs : List InpT} (h : InpsR w B v xs) (hb : Below B w w') : InpsR w' B v xs := Sl.kept InpR.stays h hb
theorem InpsR.mono {v : Value} {xs : List InpT} (h : InpsR w B v xs) (hb : B ≤ B') : InpsR w B' v xs := Sl.mono InpR.stays h hb
theorem FldR.stays : Stays FldR := ⟨fun h hb => ⟨h.name, h.size, h.args.kept hb, h.type.kept hb, h.dirs.kept hb⟩, fun h hb => ⟨h.name, h.size, h.args.mono hb, h.type.mono hb, h.dirs.mono hb⟩⟩
theorem FldsR.kept {v : Value} {xs : List FldT} (h : FldsR w B v xs) (hb : Below B w w') : FldsR w' B v xs := Sl.kept FldR.stays h hb
theorem FldsR.mono {v : Value} {xs : List FldT} (h : FldsR w B v xs) (hb : B ≤ B') : FldsR w B' v xs := Sl.mono FldR.stays h hb
theorem MemR.stays : Stays MemR := ⟨fun h hb => ⟨h.name, h.size, h.dirs.kept hb⟩, fun h hb => ⟨h.name, h.size, h.dirs.mono hb⟩⟩
theorem MemsR.kept {v : Value} {xs : List MemT} (h : MemsR w B v xs) (hb : Below B w w') : MemsR w' B v xs := Sl.kept MemR.stays h hb
theorem MemsR.mono {v : Value} {xs : List MemT} (h : MemsR w B v xs) (hb : B ≤ B') : MemsR w B' v xs := Sl.mono MemR.stays h hb
theorem DefR.stays : Stays DefR := ⟨fun h hb => ⟨h.kind, h.small, h.name, h.size, h.impl.kept hb, h.dirs.kept hb, h.fields.kept hb, h.members.kept hb, h.inputs.kept hb⟩, fun h hb => ⟨h.kind, h.small, h.name, h.size, h.impl.mono hb, h.dirs.mono hb, h.fields.mono hb, h.members.mono hb, h.inputs.mono hb⟩⟩
theorem DefsR.kept {v : Value} {xs : List DefT} (h : DefsR w B v xs) (hb : Below B w w') : DefsR w' B v xs := Sl.kept DefR.stays h hb
theorem DefsR.mono {v : Value} {xs : List DefT} (h : DefsR w B v xs) (hb : B ≤ B') : DefsR w B' v xs := Sl.mono DefR.stays h hb
end
theorem Sl.form {α : Type} {k bytes : Nat} {R : World → Nat → (Nat → Value) → α → Prop} {w : World} {B : Nat} {v : Value} {xs : List α} (h : Sl k bytes R w B v xs) : ∃ A c, v = .slice A xs.length c ∧ xs.length ≤ c ∧ xs.length * bytes ≤ big := by
  obtain ⟨A, c, e, hc, hb, _⟩ := h; exact ⟨A, c, e, hc, hb⟩
theorem Rd.form {w : World} {B : Nat} {c0 c1 c2 c3 c4 : Value} {t : VT} (h : Rd w B (.agg #[c0, c1, c2, c3, c4]) t) : ∃ (k n : Int) (s : ByteArray) (A : Option Addr) (li ci : Nat) (K : Option Addr) (lk ck : Nat), c0 = .int .i64 k ∧ c1 = .int .i64 n ∧ c2 = .string s ∧ c3 = .slice A li ci ∧ c4 = .slice K lk ck := by
  cases h with
  | mk V => exact ⟨_, _, _, _, _, _, _, _, _, rfl, rfl, rfl, rfl, rfl⟩
theorem all_at {α : Type} (p : α → Bool) (xs : List α) (f : Nat → Bool) (h : ∀ i x, xs[i]? = some x → f i = p x) : (decide (∀ i, i < xs.length → f i = true)) = xs.all p := by
  rw [Bool.eq_iff_iff]
  simp only [decide_eq_true_eq, List.all_eq_true]
  constructor
  · intro H x hx
    obtain ⟨i, hi, rfl⟩ := List.mem_iff_getElem.1 hx
    rw [← h i _ (List.getElem?_eq_getElem hi)]
    exact H i hi
  · intro H i hi
    rw [h i _ (List.getElem?_eq_getElem hi)]
    exact H _ (List.getElem_mem hi)
end Go.Proofs.YthjoelpfmimedaaGreatDoor
namespace Go.Proofs.YthjoelpfmimedaaGreatDoor
open Go.RowKit
set_option maxHeartbeats 2000000 in
theorem withinDir_any (q : Nat) (A : Option Addr) (len c : Nat) (least most : Int) (V : Nat → Nat → Value) (p : Nat → Bool) (w : World) (hlen : len ≤ 140737488351232)
    (hA : 0 < len → ∃ a, A = some a ∧ a.block < w.heap.size ∧ ∀ i, i < len → ∀ j, j < 2 → w.cell? (at_ (a.add (i * 2)) j) = some (V i j))
    (hS : ∀ i, i < len → ∃ (s0 : ByteArray) (A1 : Option Addr) (l1 z1 : Nat), V i 0 = .string s0 ∧ V i 1 = .slice A1 l1 z1)
    (hC : ∀ i, i < len → ∀ x : World, Below w.heap.size w x → Calls Tryz.prog 156 (#[(.agg #[(V i 0), (V i 1)])] ++ #[.pointer (some ⟨q, 0, none⟩)]) x fun e w' => e = .returned (.bool (p i)) ∧ Below x.heap.size x w') :
    Calls Tryz.prog 155 #[.slice A len c, .int .i64 least, .int .i64 most, .func (.func 156) #[] #[.pointer (some ⟨q, 0, none⟩)]] w fun e w' => e = .returned (.bool (decide (least ≤ len) && decide (len ≤ most) && decide (∀ i, i < len → p i = true))) ∧ Below w.heap.size w w' := by
  have HA := Lib.hid hA
  have HC := Lib.hid hC
  have HS := Lib.hid hS
  obtain ⟨RB, hRB⟩ : ∃ RB, RB = (decide (least ≤ (len : Int)) && decide ((len : Int) ≤ most) && decide (∀ i, i < len → p i = true)) := ⟨_, rfl⟩
  rw [← hRB]
  have hl : (len : Int) ≤ 140737488351232 := by omega
  clear hA hC hS
  by_cases h1 : (len : Int) < least
  · have HV : Hid (RB = false) := Lib.hid (by rw [hRB, decide_eq_false (by omega : ¬ least ≤ (len : Int))]; rfl)
    clear hlen hl hRB
    go_enter Tryz.func155, Tryz.ntmps155
    go_wp2_with fail
    go_ret
    exact ⟨by rw [HV.out]; rfl, Below.refl _ _⟩
  · by_cases h2 : (len : Int) > most
    · have HV : Hid (RB = false) := Lib.hid (by rw [hRB, decide_eq_false (by omega : ¬ (len : Int) ≤ most)]; simp)
      clear hlen hl hRB
      go_enter Tryz.func155, Tryz.ntmps155
      go_wp2_with fail
      go_ret
      exact ⟨by rw [HV.out]; rfl, Below.refl _ _⟩
    · have HV : Hid (RB = decide (∀ i, i < len → p i = true)) := Lib.hid (by rw [hRB, decide_eq_true (by omega : least ≤ (len : Int)), decide_eq_true (by omega : (len : Int) ≤ most)]; rfl)
      go_enter Tryz.func155, Tryz.ntmps155
      go_wp2_with fail
      clear h1 h2 hRB
      go_loopw [23] (fun u wr => ∃ i : Nat, i ≤ len ∧ u = .int .i64 i ∧ Hid ((∀ j, j < i → p j = true) ∧ Below w.heap.size w wr)) (fun u _ => len - (intOf u).toNat)
      case atStart => exact ⟨0, Nat.zero_le _, rfl, Lib.hid ⟨fun j hj => absurd hj (Nat.not_lt_zero _), Below.refl _ _⟩⟩
      case round =>
        obtain ⟨i, hi, rfl, hr⟩ := hrel
        by_cases hlt : i < len
        · have hlt' : (i : Int) < len := by omega
          obtain ⟨a, rfl, ha, hc0⟩ := HA.out (by omega)
          have hc : ∀ j, j < 2 → wr.cell? (at_ (a.add (i * 2)) j) = some (V i j) := fun j hj => (hr.out.2.cell (by rw [at_block, add_block]; exact ha)).trans (hc0 i hlt j hj)
          have hs := hr.out.2.size
          have k0 : wr.cell? (a.add (i * 2)) = some (V i 0) := hc 0 (by omega)
          have k1 : wr.cell? ⟨(a.add (i * 2)).block, (a.add (i * 2)).off + 1, none⟩ = some (V i 1) := hc 1 (by omega)
          obtain ⟨s0, A1, l1, z1, e0, e1⟩ := HS.out i hlt
          have HCC := Lib.hid fun x hx => HC.out i hlt x (hr.out.2.trans (Below.mono hx hs))
          clear hc0 hc
          rw [e0] at k0 HCC
          rw [e1] at k1 HCC
          clear e0 e1
          cases hp : p i with
          | true =>
            go_wp2_with fail
            refine (HCC.out _ ((Below.refl _ _).alloc (Nat.le_refl _) _)).mono ?_
            rintro e w1 ⟨rfl, hb⟩
            rw [hp]
            have HB1 := Lib.hid (hr.out.2.trans (Below.mono (((Below.refl _ _).alloc (Nat.le_refl _) _ : Below wr.heap.size wr _).trans (Below.mono hb (by simp))) hs))
            have HAL : Hid (∀ j, j < i + 1 → p j = true) := Lib.hid (fun j hj => by
              rcases Nat.lt_or_ge j i with h | h
              · exact hr.out.1 j h
              · have : j = i := by omega
                rw [this]; exact hp)
            clear hb
            go_wp2_with fail
            go_roundw
            case rel => exact ⟨i + 1, by omega, by simp, Lib.hid ⟨HAL.out, HB1.out⟩⟩
            case measure => simp [intOf]; omega
          | false =>
            go_wp2_with fail
            refine (HCC.out _ ((Below.refl _ _).alloc (Nat.le_refl _) _)).mono ?_
            rintro e w1 ⟨rfl, hb⟩
            rw [hp]
            have HB1 := Lib.hid (hr.out.2.trans (Below.mono (((Below.refl _ _).alloc (Nat.le_refl _) _ : Below wr.heap.size wr _).trans (Below.mono hb (by simp))) hs))
            have HVF : Hid (decide (∀ i, i < len → p i = true) = false) := Lib.hid (decide_eq_false fun h => by rw [h i hlt] at hp; cases hp)
            clear hb
            go_wp2_with fail
            go_ret
            exact ⟨by rw [HV.out, HVF.out]; rfl, HB1.out⟩
        · have : i = len := by omega
          subst this
          have HVT : Hid (decide (∀ j, j < i → p j = true) = true) := Lib.hid (decide_eq_true hr.out.1)
          go_wp2_with fail
          go_ret
          exact ⟨by rw [HV.out, HVT.out]; rfl, hr.out.2⟩
end Go.Proofs.YthjoelpfmimedaaGreatDoor
namespace Go.Proofs.YthjoelpfmimedaaGreatDoor
open Go.RowKit
set_option maxHeartbeats 2000000 in
theorem withinDef_any (A : Option Addr) (len c : Nat) (least most : Int) (V : Nat → Nat → Value) (p : Nat → Bool) (w : World) (hlen : len ≤ 140737488351232)
    (hA : 0 < len → ∃ a, A = some a ∧ a.block < w.heap.size ∧ ∀ i, i < len → ∀ j, j < 7 → w.cell? (at_ (a.add (i * 7)) j) = some (V i j))
    (hS : ∀ i, i < len → ∃ (n0 : Int) (s1 : ByteArray) (A2 : Option Addr) (l2 z2 : Nat) (A3 : Option Addr) (l3 z3 : Nat) (A4 : Option Addr) (l4 z4 : Nat) (A5 : Option Addr) (l5 z5 : Nat) (A6 : Option Addr) (l6 z6 : Nat), V i 0 = .int .i64 n0 ∧ V i 1 = .string s1 ∧ V i 2 = .slice A2 l2 z2 ∧ V i 3 = .slice A3 l3 z3 ∧ V i 4 = .slice A4 l4 z4 ∧ V i 5 = .slice A5 l5 z5 ∧ V i 6 = .slice A6 l6 z6)
    (hC : ∀ i, i < len → ∀ x : World, Below w.heap.size w x → Calls Tryz.prog 24 #[(.agg #[(V i 0), (V i 1), (V i 2), (V i 3), (V i 4), (V i 5), (V i 6)])] x fun e w' => e = .returned (.bool (p i)) ∧ Below x.heap.size x w') :
    Calls Tryz.prog 23 #[.slice A len c, .int .i64 least, .int .i64 most, .func (.func 24) #[] #[]] w fun e w' => e = .returned (.bool (decide (least ≤ len) && decide (len ≤ most) && decide (∀ i, i < len → p i = true))) ∧ Below w.heap.size w w' := by
  have HA := Lib.hid hA
  have HC := Lib.hid hC
  have HS := Lib.hid hS
  obtain ⟨RB, hRB⟩ : ∃ RB, RB = (decide (least ≤ (len : Int)) && decide ((len : Int) ≤ most) && decide (∀ i, i < len → p i = true)) := ⟨_, rfl⟩
  rw [← hRB]
  have hl : (len : Int) ≤ 140737488351232 := by omega
  clear hA hC hS
  by_cases h1 : (len : Int) < least
  · have HV : Hid (RB = false) := Lib.hid (by rw [hRB, decide_eq_false (by omega : ¬ least ≤ (len : Int))]; rfl)
    clear hlen hl hRB
    go_enter Tryz.func23, Tryz.ntmps23
    go_wp2_with fail
    go_ret
    exact ⟨by rw [HV.out]; rfl, Below.refl _ _⟩
  · by_cases h2 : (len : Int) > most
    · have HV : Hid (RB = false) := Lib.hid (by rw [hRB, decide_eq_false (by omega : ¬ (len : Int) ≤ most)]; simp)
      clear hlen hl hRB
      go_enter Tryz.func23, Tryz.ntmps23
      go_wp2_with fail
      go_ret
      exact ⟨by rw [HV.out]; rfl, Below.refl _ _⟩
    · have HV : Hid (RB = decide (∀ i, i < len → p i = true)) := Lib.hid (by rw [hRB, decide_eq_true (by omega : least ≤ (len : Int)), decide_eq_true (by omega : (len : Int) ≤ most)]; rfl)
      go_enter Tryz.func23, Tryz.ntmps23
      go_wp2_with fail
      clear h1 h2 hRB
      go_loopw [23] (fun u wr => ∃ i : Nat, i ≤ len ∧ u = .int .i64 i ∧ Hid ((∀ j, j < i → p j = true) ∧ Below w.heap.size w wr)) (fun u _ => len - (intOf u).toNat)
      case atStart => exact ⟨0, Nat.zero_le _, rfl, Lib.hid ⟨fun j hj => absurd hj (Nat.not_lt_zero _), Below.refl _ _⟩⟩
      case round =>
        obtain ⟨i, hi, rfl, hr⟩ := hrel
        by_cases hlt : i < len
        · have hlt' : (i : Int) < len := by omega
          obtain ⟨a, rfl, ha, hc0⟩ := HA.out (by omega)
          have hc : ∀ j, j < 7 → wr.cell? (at_ (a.add (i * 7)) j) = some (V i j) := fun j hj => (hr.out.2.cell (by rw [at_block, add_block]; exact ha)).trans (hc0 i hlt j hj)
          have hs := hr.out.2.size
          have k0 : wr.cell? (a.add (i * 7)) = some (V i 0) := hc 0 (by omega)
          have k1 : wr.cell? ⟨(a.add (i * 7)).block, (a.add (i * 7)).off + 1, none⟩ = some (V i 1) := hc 1 (by omega)
          have k2 : wr.cell? ⟨(a.add (i * 7)).block, (a.add (i * 7)).off + 2, none⟩ = some (V i 2) := hc 2 (by omega)
          have k3 : wr.cell? ⟨(a.add (i * 7)).block, (a.add (i * 7)).off + 3, none⟩ = some (V i 3) := hc 3 (by omega)
          have k4 : wr.cell? ⟨(a.add (i * 7)).block, (a.add (i * 7)).off + 4, none⟩ = some (V i 4) := hc 4 (by omega)
          have k5 : wr.cell? ⟨(a.add (i * 7)).block, (a.add (i * 7)).off + 5, none⟩ = some (V i 5) := hc 5 (by omega)
          have k6 : wr.cell? ⟨(a.add (i * 7)).block, (a.add (i * 7)).off + 6, none⟩ = some (V i 6) := hc 6 (by omega)
          obtain ⟨n0, s1, A2, l2, z2, A3, l3, z3, A4, l4, z4, A5, l5, z5, A6, l6, z6, e0, e1, e2, e3, e4, e5, e6⟩ := HS.out i hlt
          have HCC := Lib.hid fun x hx => HC.out i hlt x (hr.out.2.trans (Below.mono hx hs))
          clear hc0 hc
          rw [e0] at k0 HCC
          rw [e1] at k1 HCC
          rw [e2] at k2 HCC
          rw [e3] at k3 HCC
          rw [e4] at k4 HCC
          rw [e5] at k5 HCC
          rw [e6] at k6 HCC
          clear e0 e1 e2 e3 e4 e5 e6
          cases hp : p i with
          | true =>
            go_wp2_with fail
            refine (HCC.out _ ((Below.refl _ _).alloc (Nat.le_refl _) _)).mono ?_
            rintro e w1 ⟨rfl, hb⟩
            rw [hp]
            have HB1 := Lib.hid (hr.out.2.trans (Below.mono (((Below.refl _ _).alloc (Nat.le_refl _) _ : Below wr.heap.size wr _).trans (Below.mono hb (by simp))) hs))
            have HAL : Hid (∀ j, j < i + 1 → p j = true) := Lib.hid (fun j hj => by
              rcases Nat.lt_or_ge j i with h | h
              · exact hr.out.1 j h
              · have : j = i := by omega
                rw [this]; exact hp)
            clear hb
            go_wp2_with fail
            go_roundw
            case rel => exact ⟨i + 1, by omega, by simp, Lib.hid ⟨HAL.out, HB1.out⟩⟩
            case measure => simp [intOf]; omega
          | false =>
            go_wp2_with fail
            refine (HCC.out _ ((Below.refl _ _).alloc (Nat.le_refl _) _)).mono ?_
            rintro e w1 ⟨rfl, hb⟩
            rw [hp]
            have HB1 := Lib.hid (hr.out.2.trans (Below.mono (((Below.refl _ _).alloc (Nat.le_refl _) _ : Below wr.heap.size wr _).trans (Below.mono hb (by simp))) hs))
            have HVF : Hid (decide (∀ i, i < len → p i = true) = false) := Lib.hid (decide_eq_false fun h => by rw [h i hlt] at hp; cases hp)
            clear hb
            go_wp2_with fail
            go_ret
            exact ⟨by rw [HV.out, HVF.out]; rfl, HB1.out⟩
        · have : i = len := by omega
          subst this
          have HVT : Hid (decide (∀ j, j < i → p j = true) = true) := Lib.hid (decide_eq_true hr.out.1)
          go_wp2_with fail
          go_ret
          exact ⟨by rw [HV.out, HVT.out]; rfl, hr.out.2⟩
end Go.Proofs.YthjoelpfmimedaaGreatDoor
namespace Go.Proofs.YthjoelpfmimedaaGreatDoor
open Go.RowKit
set_option maxHeartbeats 2000000 in
theorem withinStr_any (A : Option Addr) (len c : Nat) (least most : Int) (V : Nat → Nat → Value) (p : Nat → Bool) (w : World) (hlen : len ≤ 140737488351232)
    (hA : 0 < len → ∃ a, A = some a ∧ a.block < w.heap.size ∧ ∀ i, i < len → ∀ j, j < 1 → w.cell? (at_ (a.add (i)) j) = some (V i j))
    (hS : ∀ i, i < len → ∃ (s0 : ByteArray), V i 0 = .string s0)
    (hC : ∀ i, i < len → ∀ x : World, Below w.heap.size w x → Calls Tryz.prog 43 #[((V i 0))] x fun e w' => e = .returned (.bool (p i)) ∧ Below x.heap.size x w') :
    Calls Tryz.prog 94 #[.slice A len c, .int .i64 least, .int .i64 most, .func (.func 43) #[] #[]] w fun e w' => e = .returned (.bool (decide (least ≤ len) && decide (len ≤ most) && decide (∀ i, i < len → p i = true))) ∧ Below w.heap.size w w' := by
  have HA := Lib.hid hA
  have HC := Lib.hid hC
  have HS := Lib.hid hS
  obtain ⟨RB, hRB⟩ : ∃ RB, RB = (decide (least ≤ (len : Int)) && decide ((len : Int) ≤ most) && decide (∀ i, i < len → p i = true)) := ⟨_, rfl⟩
  rw [← hRB]
  have hl : (len : Int) ≤ 140737488351232 := by omega
  clear hA hC hS
  by_cases h1 : (len : Int) < least
  · have HV : Hid (RB = false) := Lib.hid (by rw [hRB, decide_eq_false (by omega : ¬ least ≤ (len : Int))]; rfl)
    clear hlen hl hRB
    go_enter Tryz.func94, Tryz.ntmps94
    go_wp2_with fail
    go_ret
    exact ⟨by rw [HV.out]; rfl, Below.refl _ _⟩
  · by_cases h2 : (len : Int) > most
    · have HV : Hid (RB = false) := Lib.hid (by rw [hRB, decide_eq_false (by omega : ¬ (len : Int) ≤ most)]; simp)
      clear hlen hl hRB
      go_enter Tryz.func94, Tryz.ntmps94
      go_wp2_with fail
      go_ret
      exact ⟨by rw [HV.out]; rfl, Below.refl _ _⟩
    · have HV : Hid (RB = decide (∀ i, i < len → p i = true)) := Lib.hid (by rw [hRB, decide_eq_true (by omega : least ≤ (len : Int)), decide_eq_true (by omega : (len : Int) ≤ most)]; rfl)
      go_enter Tryz.func94, Tryz.ntmps94
      go_wp2_with fail
      clear h1 h2 hRB
      go_loopw [23] (fun u wr => ∃ i : Nat, i ≤ len ∧ u = .int .i64 i ∧ Hid ((∀ j, j < i → p j = true) ∧ Below w.heap.size w wr)) (fun u _ => len - (intOf u).toNat)
      case atStart => exact ⟨0, Nat.zero_le _, rfl, Lib.hid ⟨fun j hj => absurd hj (Nat.not_lt_zero _), Below.refl _ _⟩⟩
      case round =>
        obtain ⟨i, hi, rfl, hr⟩ := hrel
        by_cases hlt : i < len
        · have hlt' : (i : Int) < len := by omega
          obtain ⟨a, rfl, ha, hc0⟩ := HA.out (by omega)
          have hc : ∀ j, j < 1 → wr.cell? (at_ (a.add (i)) j) = some (V i j) := fun j hj => (hr.out.2.cell (by rw [at_block, add_block]; exact ha)).trans (hc0 i hlt j hj)
          have hs := hr.out.2.size
          have k0 : wr.cell? (a.add (i)) = some (V i 0) := hc 0 (by omega)
          obtain ⟨s0, e0⟩ := HS.out i hlt
          have HCC := Lib.hid fun x hx => HC.out i hlt x (hr.out.2.trans (Below.mono hx hs))
          clear hc0 hc
          rw [e0] at k0 HCC
          clear e0
          cases hp : p i with
          | true =>
            go_wp2_with fail
            refine (HCC.out _ (Below.refl _ _)).mono ?_
            rintro e w1 ⟨rfl, hb⟩
            rw [hp]
            have HB1 := Lib.hid (hr.out.2.trans (Below.mono ((Below.refl _ _ : Below wr.heap.size wr _).trans (Below.mono hb (by simp))) hs))
            have HAL : Hid (∀ j, j < i + 1 → p j = true) := Lib.hid (fun j hj => by
              rcases Nat.lt_or_ge j i with h | h
              · exact hr.out.1 j h
              · have : j = i := by omega
                rw [this]; exact hp)
            clear hb
            go_wp2_with fail
            go_roundw
            case rel => exact ⟨i + 1, by omega, by simp, Lib.hid ⟨HAL.out, HB1.out⟩⟩
            case measure => simp [intOf]; omega
          | false =>
            go_wp2_with fail
            refine (HCC.out _ (Below.refl _ _)).mono ?_
            rintro e w1 ⟨rfl, hb⟩
            rw [hp]
            have HB1 := Lib.hid (hr.out.2.trans (Below.mono ((Below.refl _ _ : Below wr.heap.size wr _).trans (Below.mono hb (by simp))) hs))
            have HVF : Hid (decide (∀ i, i < len → p i = true) = false) := Lib.hid (decide_eq_false fun h => by rw [h i hlt] at hp; cases hp)
            clear hb
            go_wp2_with fail
            go_ret
            exact ⟨by rw [HV.out, HVF.out]; rfl, HB1.out⟩
        · have : i = len := by omega
          subst this
          have HVT : Hid (decide (∀ j, j < i → p j = true) = true) := Lib.hid (decide_eq_true hr.out.1)
          go_wp2_with fail
          go_ret
          exact ⟨by rw [HV.out, HVT.out]; rfl, hr.out.2⟩
end Go.Proofs.YthjoelpfmimedaaGreatDoor
namespace Go.Proofs.YthjoelpfmimedaaGreatDoor
open Go.RowKit
set_option maxHeartbeats 2000000 in
theorem withinFld_any (A : Option Addr) (len c : Nat) (least most : Int) (V : Nat → Nat → Value) (p : Nat → Bool) (w : World) (hlen : len ≤ 140737488351232)
    (hA : 0 < len → ∃ a, A = some a ∧ a.block < w.heap.size ∧ ∀ i, i < len → ∀ j, j < 5 → w.cell? (at_ (a.add (i * 5)) j) = some (V i j))
    (hS : ∀ i, i < len → ∃ (s0 : ByteArray) (A1 : Option Addr) (l1 z1 : Nat) (s2 : ByteArray) (A3 : Option Addr) (l3 z3 : Nat) (A4 : Option Addr) (l4 z4 : Nat), V i 0 = .string s0 ∧ V i 1 = .slice A1 l1 z1 ∧ V i 2 = .string s2 ∧ V i 3 = .slice A3 l3 z3 ∧ V i 4 = .slice A4 l4 z4)
    (hC : ∀ i, i < len → ∀ x : World, Below w.heap.size w x → Calls Tryz.prog 96 #[(.agg #[(V i 0), (V i 1), (V i 2), (V i 3), (V i 4)])] x fun e w' => e = .returned (.bool (p i)) ∧ Below x.heap.size x w') :
    Calls Tryz.prog 95 #[.slice A len c, .int .i64 least, .int .i64 most, .func (.func 96) #[] #[]] w fun e w' => e = .returned (.bool (decide (least ≤ len) && decide (len ≤ most) && decide (∀ i, i < len → p i = true))) ∧ Below w.heap.size w w' := by
  have HA := Lib.hid hA
  have HC := Lib.hid hC
  have HS := Lib.hid hS
  obtain ⟨RB, hRB⟩ : ∃ RB, RB = (decide (least ≤ (len : Int)) && decide ((len : Int) ≤ most) && decide (∀ i, i < len → p i = true)) := ⟨_, rfl⟩
  rw [← hRB]
  have hl : (len : Int) ≤ 140737488351232 := by omega
  clear hA hC hS
  by_cases h1 : (len : Int) < least
  · have HV : Hid (RB = false) := Lib.hid (by rw [hRB, decide_eq_false (by omega : ¬ least ≤ (len : Int))]; rfl)
    clear hlen hl hRB
    go_enter Tryz.func95, Tryz.ntmps95
    go_wp2_with fail
    go_ret
    exact ⟨by rw [HV.out]; rfl, Below.refl _ _⟩
  · by_cases h2 : (len : Int) > most
    · have HV : Hid (RB = false) := Lib.hid (by rw [hRB, decide_eq_false (by omega : ¬ (len : Int) ≤ most)]; simp)
      clear hlen hl hRB
      go_enter Tryz.func95, Tryz.ntmps95
      go_wp2_with fail
      go_ret
      exact ⟨by rw [HV.out]; rfl, Below.refl _ _⟩
    · have HV : Hid (RB = decide (∀ i, i < len → p i = true)) := Lib.hid (by rw [hRB, decide_eq_true (by omega : least ≤ (len : Int)), decide_eq_true (by omega : (len : Int) ≤ most)]; rfl)
      go_enter Tryz.func95, Tryz.ntmps95
      go_wp2_with fail
      clear h1 h2 hRB
      go_loopw [23] (fun u wr => ∃ i : Nat, i ≤ len ∧ u = .int .i64 i ∧ Hid ((∀ j, j < i → p j = true) ∧ Below w.heap.size w wr)) (fun u _ => len - (intOf u).toNat)
      case atStart => exact ⟨0, Nat.zero_le _, rfl, Lib.hid ⟨fun j hj => absurd hj (Nat.not_lt_zero _), Below.refl _ _⟩⟩
      case round =>
        obtain ⟨i, hi, rfl, hr⟩ := hrel
        by_cases hlt : i < len
        · have hlt' : (i : Int) < len := by omega
          obtain ⟨a, rfl, ha, hc0⟩ := HA.out (by omega)
          have hc : ∀ j, j < 5 → wr.cell? (at_ (a.add (i * 5)) j) = some (V i j) := fun j hj => (hr.out.2.cell (by rw [at_block, add_block]; exact ha)).trans (hc0 i hlt j hj)
          have hs := hr.out.2.size
          have k0 : wr.cell? (a.add (i * 5)) = some (V i 0) := hc 0 (by omega)
          have k1 : wr.cell? ⟨(a.add (i * 5)).block, (a.add (i * 5)).off + 1, none⟩ = some (V i 1) := hc 1 (by omega)
          have k2 : wr.cell? ⟨(a.add (i * 5)).block, (a.add (i * 5)).off + 2, none⟩ = some (V i 2) := hc 2 (by omega)
          have k3 : wr.cell? ⟨(a.add (i * 5)).block, (a.add (i * 5)).off + 3, none⟩ = some (V i 3) := hc 3 (by omega)
          have k4 : wr.cell? ⟨(a.add (i * 5)).block, (a.add (i * 5)).off + 4, none⟩ = some (V i 4) := hc 4 (by omega)
          obtain ⟨s0, A1, l1, z1, s2, A3, l3, z3, A4, l4, z4, e0, e1, e2, e3, e4⟩ := HS.out i hlt
          have HCC := Lib.hid fun x hx => HC.out i hlt x (hr.out.2.trans (Below.mono hx hs))
          clear hc0 hc
          rw [e0] at k0 HCC
          rw [e1] at k1 HCC
          rw [e2] at k2 HCC
          rw [e3] at k3 HCC
          rw [e4] at k4 HCC
          clear e0 e1 e2 e3 e4
          cases hp : p i with
          | true =>
            go_wp2_with fail
            refine (HCC.out _ ((Below.refl _ _).alloc (Nat.le_refl _) _)).mono ?_
            rintro e w1 ⟨rfl, hb⟩
            rw [hp]
            have HB1 := Lib.hid (hr.out.2.trans (Below.mono (((Below.refl _ _).alloc (Nat.le_refl _) _ : Below wr.heap.size wr _).trans (Below.mono hb (by simp))) hs))
            have HAL : Hid (∀ j, j < i + 1 → p j = true) := Lib.hid (fun j hj => by
              rcases Nat.lt_or_ge j i with h | h
              · exact hr.out.1 j h
              · have : j = i := by omega
                rw [this]; exact hp)
            clear hb
            go_wp2_with fail
            go_roundw
            case rel => exact ⟨i + 1, by omega, by simp, Lib.hid ⟨HAL.out, HB1.out⟩⟩
            case measure => simp [intOf]; omega
          | false =>
            go_wp2_with fail
            refine (HCC.out _ ((Below.refl _ _).alloc (Nat.le_refl _) _)).mono ?_
            rintro e w1 ⟨rfl, hb⟩
            rw [hp]
            have HB1 := Lib.hid (hr.out.2.trans (Below.mono (((Below.refl _ _).alloc (Nat.le_refl _) _ : Below wr.heap.size wr _).trans (Below.mono hb (by simp))) hs))
            have HVF : Hid (decide (∀ i, i < len → p i = true) = false) := Lib.hid (decide_eq_false fun h => by rw [h i hlt] at hp; cases hp)
            clear hb
            go_wp2_with fail
            go_ret
            exact ⟨by rw [HV.out, HVF.out]; rfl, HB1.out⟩
        · have : i = len := by omega
          subst this
          have HVT : Hid (decide (∀ j, j < i → p j = true) = true) := Lib.hid (decide_eq_true hr.out.1)
          go_wp2_with fail
          go_ret
          exact ⟨by rw [HV.out, HVT.out]; rfl, hr.out.2⟩
end Go.Proofs.YthjoelpfmimedaaGreatDoor
namespace Go.Proofs.YthjoelpfmimedaaGreatDoor
open Go.RowKit
set_option maxHeartbeats 2000000 in
theorem withinMemU_any (A : Option Addr) (len c : Nat) (least most : Int) (V : Nat → Nat → Value) (p : Nat → Bool) (w : World) (hlen : len ≤ 140737488351232)
    (hA : 0 < len → ∃ a, A = some a ∧ a.block < w.heap.size ∧ ∀ i, i < len → ∀ j, j < 2 → w.cell? (at_ (a.add (i * 2)) j) = some (V i j))
    (hS : ∀ i, i < len → ∃ (s0 : ByteArray) (A1 : Option Addr) (l1 z1 : Nat), V i 0 = .string s0 ∧ V i 1 = .slice A1 l1 z1)
    (hC : ∀ i, i < len → ∀ x : World, Below w.heap.size w x → Calls Tryz.prog 92 #[(.agg #[(V i 0), (V i 1)])] x fun e w' => e = .returned (.bool (p i)) ∧ Below x.heap.size x w') :
    Calls Tryz.prog 97 #[.slice A len c, .int .i64 least, .int .i64 most, .func (.func 92) #[] #[]] w fun e w' => e = .returned (.bool (decide (least ≤ len) && decide (len ≤ most) && decide (∀ i, i < len → p i = true))) ∧ Below w.heap.size w w' := by
  have HA := Lib.hid hA
  have HC := Lib.hid hC
  have HS := Lib.hid hS
  obtain ⟨RB, hRB⟩ : ∃ RB, RB = (decide (least ≤ (len : Int)) && decide ((len : Int) ≤ most) && decide (∀ i, i < len → p i = true)) := ⟨_, rfl⟩
  rw [← hRB]
  have hl : (len : Int) ≤ 140737488351232 := by omega
  clear hA hC hS
  by_cases h1 : (len : Int) < least
  · have HV : Hid (RB = false) := Lib.hid (by rw [hRB, decide_eq_false (by omega : ¬ least ≤ (len : Int))]; rfl)
    clear hlen hl hRB
    go_enter Tryz.func97, Tryz.ntmps97
    go_wp2_with fail
    go_ret
    exact ⟨by rw [HV.out]; rfl, Below.refl _ _⟩
  · by_cases h2 : (len : Int) > most
    · have HV : Hid (RB = false) := Lib.hid (by rw [hRB, decide_eq_false (by omega : ¬ (len : Int) ≤ most)]; simp)
      clear hlen hl hRB
      go_enter Tryz.func97, Tryz.ntmps97
      go_wp2_with fail
      go_ret
      exact ⟨by rw [HV.out]; rfl, Below.refl _ _⟩
    · have HV : Hid (RB = decide (∀ i, i < len → p i = true)) := Lib.hid (by rw [hRB, decide_eq_true (by omega : least ≤ (len : Int)), decide_eq_true (by omega : (len : Int) ≤ most)]; rfl)
      go_enter Tryz.func97, Tryz.ntmps97
      go_wp2_with fail
      clear h1 h2 hRB
      go_loopw [23] (fun u wr => ∃ i : Nat, i ≤ len ∧ u = .int .i64 i ∧ Hid ((∀ j, j < i → p j = true) ∧ Below w.heap.size w wr)) (fun u _ => len - (intOf u).toNat)
      case atStart => exact ⟨0, Nat.zero_le _, rfl, Lib.hid ⟨fun j hj => absurd hj (Nat.not_lt_zero _), Below.refl _ _⟩⟩
      case round =>
        obtain ⟨i, hi, rfl, hr⟩ := hrel
        by_cases hlt : i < len
        · have hlt' : (i : Int) < len := by omega
          obtain ⟨a, rfl, ha, hc0⟩ := HA.out (by omega)
          have hc : ∀ j, j < 2 → wr.cell? (at_ (a.add (i * 2)) j) = some (V i j) := fun j hj => (hr.out.2.cell (by rw [at_block, add_block]; exact ha)).trans (hc0 i hlt j hj)
          have hs := hr.out.2.size
          have k0 : wr.cell? (a.add (i * 2)) = some (V i 0) := hc 0 (by omega)
          have k1 : wr.cell? ⟨(a.add (i * 2)).block, (a.add (i * 2)).off + 1, none⟩ = some (V i 1) := hc 1 (by omega)
          obtain ⟨s0, A1, l1, z1, e0, e1⟩ := HS.out i hlt
          have HCC := Lib.hid fun x hx => HC.out i hlt x (hr.out.2.trans (Below.mono hx hs))
          clear hc0 hc
          rw [e0] at k0 HCC
          rw [e1] at k1 HCC
          clear e0 e1
          cases hp : p i with
          | true =>
            go_wp2_with fail
            refine (HCC.out _ ((Below.refl _ _).alloc (Nat.le_refl _) _)).mono ?_
            rintro e w1 ⟨rfl, hb⟩
            rw [hp]
            have HB1 := Lib.hid (hr.out.2.trans (Below.mono (((Below.refl _ _).alloc (Nat.le_refl _) _ : Below wr.heap.size wr _).trans (Below.mono hb (by simp))) hs))
            have HAL : Hid (∀ j, j < i + 1 → p j = true) := Lib.hid (fun j hj => by
              rcases Nat.lt_or_ge j i with h | h
              · exact hr.out.1 j h
              · have : j = i := by omega
                rw [this]; exact hp)
            clear hb
            go_wp2_with fail
            go_roundw
            case rel => exact ⟨i + 1, by omega, by simp, Lib.hid ⟨HAL.out, HB1.out⟩⟩
            case measure => simp [intOf]; omega
          | false =>
            go_wp2_with fail
            refine (HCC.out _ ((Below.refl _ _).alloc (Nat.le_refl _) _)).mono ?_
            rintro e w1 ⟨rfl, hb⟩
            rw [hp]
            have HB1 := Lib.hid (hr.out.2.trans (Below.mono (((Below.refl _ _).alloc (Nat.le_refl _) _ : Below wr.heap.size wr _).trans (Below.mono hb (by simp))) hs))
            have HVF : Hid (decide (∀ i, i < len → p i = true) = false) := Lib.hid (decide_eq_false fun h => by rw [h i hlt] at hp; cases hp)
            clear hb
            go_wp2_with fail
            go_ret
            exact ⟨by rw [HV.out, HVF.out]; rfl, HB1.out⟩
        · have : i = len := by omega
          subst this
          have HVT : Hid (decide (∀ j, j < i → p j = true) = true) := Lib.hid (decide_eq_true hr.out.1)
          go_wp2_with fail
          go_ret
          exact ⟨by rw [HV.out, HVT.out]; rfl, hr.out.2⟩
set_option maxHeartbeats 2000000 in
theorem withinMemE_any (A : Option Addr) (len c : Nat) (least most : Int) (V : Nat → Nat → Value) (p : Nat → Bool) (w : World) (hlen : len ≤ 140737488351232)
    (hA : 0 < len → ∃ a, A = some a ∧ a.block < w.heap.size ∧ ∀ i, i < len → ∀ j, j < 2 → w.cell? (at_ (a.add (i * 2)) j) = some (V i j))
    (hS : ∀ i, i < len → ∃ (s0 : ByteArray) (A1 : Option Addr) (l1 z1 : Nat), V i 0 = .string s0 ∧ V i 1 = .slice A1 l1 z1)
    (hC : ∀ i, i < len → ∀ x : World, Below w.heap.size w x → Calls Tryz.prog 93 #[(.agg #[(V i 0), (V i 1)])] x fun e w' => e = .returned (.bool (p i)) ∧ Below x.heap.size x w') :
    Calls Tryz.prog 97 #[.slice A len c, .int .i64 least, .int .i64 most, .func (.func 93) #[] #[]] w fun e w' => e = .returned (.bool (decide (least ≤ len) && decide (len ≤ most) && decide (∀ i, i < len → p i = true))) ∧ Below w.heap.size w w' := by
  have HA := Lib.hid hA
  have HC := Lib.hid hC
  have HS := Lib.hid hS
  obtain ⟨RB, hRB⟩ : ∃ RB, RB = (decide (least ≤ (len : Int)) && decide ((len : Int) ≤ most) && decide (∀ i, i < len → p i = true)) := ⟨_, rfl⟩
  rw [← hRB]
  have hl : (len : Int) ≤ 140737488351232 := by omega
  clear hA hC hS
  by_cases h1 : (len : Int) < least
  · have HV : Hid (RB = false) := Lib.hid (by rw [hRB, decide_eq_false (by omega : ¬ least ≤ (len : Int))]; rfl)
    clear hlen hl hRB
    go_enter Tryz.func97, Tryz.ntmps97
    go_wp2_with fail
    go_ret
    exact ⟨by rw [HV.out]; rfl, Below.refl _ _⟩
  · by_cases h2 : (len : Int) > most
    · have HV : Hid (RB = false) := Lib.hid (by rw [hRB, decide_eq_false (by omega : ¬ (len : Int) ≤ most)]; simp)
      clear hlen hl hRB
      go_enter Tryz.func97, Tryz.ntmps97
      go_wp2_with fail
      go_ret
      exact ⟨by rw [HV.out]; rfl, Below.refl _ _⟩
    · have HV : Hid (RB = decide (∀ i, i < len → p i = true)) := Lib.hid (by rw [hRB, decide_eq_true (by omega : least ≤ (len : Int)), decide_eq_true (by omega : (len : Int) ≤ most)]; rfl)
      go_enter Tryz.func97, Tryz.ntmps97
      go_wp2_with fail
      clear h1 h2 hRB
      go_loopw [23] (fun u wr => ∃ i : Nat, i ≤ len ∧ u = .int .i64 i ∧ Hid ((∀ j, j < i → p j = true) ∧ Below w.heap.size w wr)) (fun u _ => len - (intOf u).toNat)
      case atStart => exact ⟨0, Nat.zero_le _, rfl, Lib.hid ⟨fun j hj => absurd hj (Nat.not_lt_zero _), Below.refl _ _⟩⟩
      case round =>
        obtain ⟨i, hi, rfl, hr⟩ := hrel
        by_cases hlt : i < len
        · have hlt' : (i : Int) < len := by omega
          obtain ⟨a, rfl, ha, hc0⟩ := HA.out (by omega)
          have hc : ∀ j, j < 2 → wr.cell? (at_ (a.add (i * 2)) j) = some (V i j) := fun j hj => (hr.out.2.cell (by rw [at_block, add_block]; exact ha)).trans (hc0 i hlt j hj)
          have hs := hr.out.2.size
          have k0 : wr.cell? (a.add (i * 2)) = some (V i 0) := hc 0 (by omega)
          have k1 : wr.cell? ⟨(a.add (i * 2)).block, (a.add (i * 2)).off + 1, none⟩ = some (V i 1) := hc 1 (by omega)
          obtain ⟨s0, A1, l1, z1, e0, e1⟩ := HS.out i hlt
          have HCC := Lib.hid fun x hx => HC.out i hlt x (hr.out.2.trans (Below.mono hx hs))
          clear hc0 hc
          rw [e0] at k0 HCC
          rw [e1] at k1 HCC
          clear e0 e1
          cases hp : p i with
          | true =>
            go_wp2_with fail
            refine (HCC.out _ ((Below.refl _ _).alloc (Nat.le_refl _) _)).mono ?_
            rintro e w1 ⟨rfl, hb⟩
            rw [hp]
            have HB1 := Lib.hid (hr.out.2.trans (Below.mono (((Below.refl _ _).alloc (Nat.le_refl _) _ : Below wr.heap.size wr _).trans (Below.mono hb (by simp))) hs))
            have HAL : Hid (∀ j, j < i + 1 → p j = true) := Lib.hid (fun j hj => by
              rcases Nat.lt_or_ge j i with h | h
              · exact hr.out.1 j h
              · have : j = i := by omega
                rw [this]; exact hp)
            clear hb
            go_wp2_with fail
            go_roundw
            case rel => exact ⟨i + 1, by omega, by simp, Lib.hid ⟨HAL.out, HB1.out⟩⟩
            case measure => simp [intOf]; omega
          | false =>
            go_wp2_with fail
            refine (HCC.out _ ((Below.refl _ _).alloc (Nat.le_refl _) _)).mono ?_
            rintro e w1 ⟨rfl, hb⟩
            rw [hp]
            have HB1 := Lib.hid (hr.out.2.trans (Below.mono (((Below.refl _ _).alloc (Nat.le_refl _) _ : Below wr.heap.size wr _).trans (Below.mono hb (by simp))) hs))
            have HVF : Hid (decide (∀ i, i < len → p i = true) = false) := Lib.hid (decide_eq_false fun h => by rw [h i hlt] at hp; cases hp)
            clear hb
            go_wp2_with fail
            go_ret
            exact ⟨by rw [HV.out, HVF.out]; rfl, HB1.out⟩
        · have : i = len := by omega
          subst this
          have HVT : Hid (decide (∀ j, j < i → p j = true) = true) := Lib.hid (decide_eq_true hr.out.1)
          go_wp2_with fail
          go_ret
          exact ⟨by rw [HV.out, HVT.out]; rfl, hr.out.2⟩
end Go.Proofs.YthjoelpfmimedaaGreatDoor
namespace Go.Proofs.YthjoelpfmimedaaGreatDoor
open Go.RowKit
set_option maxHeartbeats 2000000 in
theorem withinInp_any (A : Option Addr) (len c : Nat) (least most : Int) (V : Nat → Nat → Value) (p : Nat → Bool) (w : World) (hlen : len ≤ 140737488351232)
    (hA : 0 < len → ∃ a, A = some a ∧ a.block < w.heap.size ∧ ∀ i, i < len → ∀ j, j < 10 → w.cell? (at_ (a.add (i * 10)) j) = some (V i j))
    (hS : ∀ i, i < len → ∃ (s0 : ByteArray) (s1 : ByteArray) (A2 : Option Addr) (l2 z2 : Nat) (b3 : Bool) (n4 : Int) (n5 : Int) (s6 : ByteArray) (A7 : Option Addr) (l7 z7 : Nat) (A8 : Option Addr) (l8 z8 : Nat) (A9 : Option Addr) (l9 z9 : Nat), V i 0 = .string s0 ∧ V i 1 = .string s1 ∧ V i 2 = .slice A2 l2 z2 ∧ V i 3 = .bool b3 ∧ V i 4 = .int .i64 n4 ∧ V i 5 = .int .i64 n5 ∧ V i 6 = .string s6 ∧ V i 7 = .slice A7 l7 z7 ∧ V i 8 = .slice A8 l8 z8 ∧ V i 9 = .slice A9 l9 z9)
    (hC : ∀ i, i < len → ∀ x : World, Below w.heap.size w x → Calls Tryz.prog 99 #[(.agg #[(V i 0), (V i 1), (V i 2), (V i 3), (V i 4), (V i 5), (V i 6), (V i 7), (V i 8), (V i 9)])] x fun e w' => e = .returned (.bool (p i)) ∧ Below x.heap.size x w') :
    Calls Tryz.prog 98 #[.slice A len c, .int .i64 least, .int .i64 most, .func (.func 99) #[] #[]] w fun e w' => e = .returned (.bool (decide (least ≤ len) && decide (len ≤ most) && decide (∀ i, i < len → p i = true))) ∧ Below w.heap.size w w' := by
  have HA := Lib.hid hA
  have HC := Lib.hid hC
  have HS := Lib.hid hS
  obtain ⟨RB, hRB⟩ : ∃ RB, RB = (decide (least ≤ (len : Int)) && decide ((len : Int) ≤ most) && decide (∀ i, i < len → p i = true)) := ⟨_, rfl⟩
  rw [← hRB]
  have hl : (len : Int) ≤ 140737488351232 := by omega
  clear hA hC hS
  by_cases h1 : (len : Int) < least
  · have HV : Hid (RB = false) := Lib.hid (by rw [hRB, decide_eq_false (by omega : ¬ least ≤ (len : Int))]; rfl)
    clear hlen hl hRB
    go_enter Tryz.func98, Tryz.ntmps98
    go_wp2_with fail
    go_ret
    exact ⟨by rw [HV.out]; rfl, Below.refl _ _⟩
  · by_cases h2 : (len : Int) > most
    · have HV : Hid (RB = false) := Lib.hid (by rw [hRB, decide_eq_false (by omega : ¬ (len : Int) ≤ most)]; simp)
      clear hlen hl hRB
      go_enter Tryz.func98, Tryz.ntmps98
      go_wp2_with fail
      go_ret
      exact ⟨by rw [HV.out]; rfl, Below.refl _ _⟩
    · have HV : Hid (RB = decide (∀ i, i < len → p i = true)) := Lib.hid (by rw [hRB, decide_eq_true (by omega : least ≤ (len : Int)), decide_eq_true (by omega : (len : Int) ≤ most)]; rfl)
      go_enter Tryz.func98, Tryz.ntmps98
      go_wp2_with fail
      clear h1 h2 hRB
      go_loopw [23] (fun u wr => ∃ i : Nat, i ≤ len ∧ u = .int .i64 i ∧ Hid ((∀ j, j < i → p j = true) ∧ Below w.heap.size w wr)) (fun u _ => len - (intOf u).toNat)
      case atStart => exact ⟨0, Nat.zero_le _, rfl, Lib.hid ⟨fun j hj => absurd hj (Nat.not_lt_zero _), Below.refl _ _⟩⟩
      case round =>
        obtain ⟨i, hi, rfl, hr⟩ := hrel
        by_cases hlt : i < len
        · have hlt' : (i : Int) < len := by omega
          obtain ⟨a, rfl, ha, hc0⟩ := HA.out (by omega)
          have hc : ∀ j, j < 10 → wr.cell? (at_ (a.add (i * 10)) j) = some (V i j) := fun j hj => (hr.out.2.cell (by rw [at_block, add_block]; exact ha)).trans (hc0 i hlt j hj)
          have hs := hr.out.2.size
          have k0 : wr.cell? (a.add (i * 10)) = some (V i 0) := hc 0 (by omega)
          have k1 : wr.cell? ⟨(a.add (i * 10)).block, (a.add (i * 10)).off + 1, none⟩ = some (V i 1) := hc 1 (by omega)
          have k2 : wr.cell? ⟨(a.add (i * 10)).block, (a.add (i * 10)).off + 2, none⟩ = some (V i 2) := hc 2 (by omega)
          have k3 : wr.cell? ⟨(a.add (i * 10)).block, (a.add (i * 10)).off + 3, none⟩ = some (V i 3) := hc 3 (by omega)
          have k4 : wr.cell? ⟨(a.add (i * 10)).block, (a.add (i * 10)).off + 4, none⟩ = some (V i 4) := hc 4 (by omega)
          have k5 : wr.cell? ⟨(a.add (i * 10)).block, (a.add (i * 10)).off + 5, none⟩ = some (V i 5) := hc 5 (by omega)
          have k6 : wr.cell? ⟨(a.add (i * 10)).block, (a.add (i * 10)).off + 6, none⟩ = some (V i 6) := hc 6 (by omega)
          have k7 : wr.cell? ⟨(a.add (i * 10)).block, (a.add (i * 10)).off + 7, none⟩ = some (V i 7) := hc 7 (by omega)
          have k8 : wr.cell? ⟨(a.add (i * 10)).block, (a.add (i * 10)).off + 8, none⟩ = some (V i 8) := hc 8 (by omega)
          have k9 : wr.cell? ⟨(a.add (i * 10)).block, (a.add (i * 10)).off + 9, none⟩ = some (V i 9) := hc 9 (by omega)
          obtain ⟨s0, s1, A2, l2, z2, b3, n4, n5, s6, A7, l7, z7, A8, l8, z8, A9, l9, z9, e0, e1, e2, e3, e4, e5, e6, e7, e8, e9⟩ := HS.out i hlt
          have HCC := Lib.hid fun x hx => HC.out i hlt x (hr.out.2.trans (Below.mono hx hs))
          clear hc0 hc
          rw [e0] at k0 HCC
          rw [e1] at k1 HCC
          rw [e2] at k2 HCC
          rw [e3] at k3 HCC
          rw [e4] at k4 HCC
          rw [e5] at k5 HCC
          rw [e6] at k6 HCC
          rw [e7] at k7 HCC
          rw [e8] at k8 HCC
          rw [e9] at k9 HCC
          clear e0 e1 e2 e3 e4 e5 e6 e7 e8 e9
          cases hp : p i with
          | true =>
            go_wp2_with fail
            refine (HCC.out _ ((Below.refl _ _).alloc (Nat.le_refl _) _)).mono ?_
            rintro e w1 ⟨rfl, hb⟩
            rw [hp]
            have HB1 := Lib.hid (hr.out.2.trans (Below.mono (((Below.refl _ _).alloc (Nat.le_refl _) _ : Below wr.heap.size wr _).trans (Below.mono hb (by simp))) hs))
            have HAL : Hid (∀ j, j < i + 1 → p j = true) := Lib.hid (fun j hj => by
              rcases Nat.lt_or_ge j i with h | h
              · exact hr.out.1 j h
              · have : j = i := by omega
                rw [this]; exact hp)
            clear hb
            go_wp2_with fail
            go_roundw
            case rel => exact ⟨i + 1, by omega, by simp, Lib.hid ⟨HAL.out, HB1.out⟩⟩
            case measure => simp [intOf]; omega
          | false =>
            go_wp2_with fail
            refine (HCC.out _ ((Below.refl _ _).alloc (Nat.le_refl _) _)).mono ?_
            rintro e w1 ⟨rfl, hb⟩
            rw [hp]
            have HB1 := Lib.hid (hr.out.2.trans (Below.mono (((Below.refl _ _).alloc (Nat.le_refl _) _ : Below wr.heap.size wr _).trans (Below.mono hb (by simp))) hs))
            have HVF : Hid (decide (∀ i, i < len → p i = true) = false) := Lib.hid (decide_eq_false fun h => by rw [h i hlt] at hp; cases hp)
            clear hb
            go_wp2_with fail
            go_ret
            exact ⟨by rw [HV.out, HVF.out]; rfl, HB1.out⟩
        · have : i = len := by omega
          subst this
          have HVT : Hid (decide (∀ j, j < i → p j = true) = true) := Lib.hid (decide_eq_true hr.out.1)
          go_wp2_with fail
          go_ret
          exact ⟨by rw [HV.out, HVT.out]; rfl, hr.out.2⟩
end Go.Proofs.YthjoelpfmimedaaGreatDoor
