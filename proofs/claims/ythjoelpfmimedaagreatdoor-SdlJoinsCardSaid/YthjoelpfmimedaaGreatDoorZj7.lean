
/-
  Texts joined: RAppend E3 E4 E4r Distinct Cmp Compare Make.
-/
import Derived.Test.YthjoelpfmimedaaGreatDoorZj6
import Derived.Maps.Own
import Derived.StringKeys
import Derived.Maps.OwnOps
import Derived.Maps.OwnSet
import Derived.Test.YthjoelpfmimedaaGreatDoorZj4
import Derived.Lib.Bytealg
import Derived.Lib.Small
import Derived.Test.YthjoelpfmimedaaGreatDoorZj2
import Derived.Deep.RegionHeld3
namespace Go.Proofs.YthjoelpfmimedaaGreatDoor
open Go.RowKit
theorem own_kept {w w' : World} {base : Nat} {e : TypeId} {size : Nat} {v : Value} {n : Nat} {xs : List Value} (h : w.ownsRow base e size v n xs) (hb : ∀ g, g < w.heap.size → w'.heap[g]? = w.heap[g]?) : w'.ownsRow base e size v n xs := by
  refine ⟨h.1, h.2.imp id ?_⟩
  rintro ⟨g, cap, cur, e1, e2, e3, r⟩
  have hg : g < w.heap.size := by
    rcases Nat.lt_or_ge g w.heap.size with h' | h'
    · exact h'
    · rw [Array.getElem?_eq_none h'] at e3; cases e3
  exact ⟨g, cap, cur, e1, e2, (hb g hg).trans e3, r⟩
theorem own_lt {w : World} {base : Nat} {e : TypeId} {size : Nat} {v : Value} {n : Nat} {xs : List Value} (h : w.ownsRow base e size v n xs) {g : Nat} (hv : v.ownBlock = some g) : base ≤ g ∧ g < w.heap.size := by
  rcases h.2 with ⟨rfl, _⟩ | ⟨g', cap, cur, rfl, e2, e3, _⟩
  · cases hv
  · cases hv
    refine ⟨e2, ?_⟩
    rcases Nat.lt_or_ge g' w.heap.size with h' | h'
    · exact h'
    · rw [Array.getElem?_eq_none h'] at e3; cases e3
theorem info_parts5 {P : Program} {e : TypeId} {z : Value} {size bytes : Nat} (h : (P.info? e).map (fun i => (i.zero, i.size, i.bytes)) = some (some z, size, bytes)) : ∃ i, P.info? e = some i ∧ i.zero = some z ∧ i.size = size ∧ i.bytes = bytes := by
  cases hi : P.info? e with
  | none => rw [hi] at h; simp at h
  | some i => rw [hi] at h; simp at h; exact ⟨i, rfl, h.1, h.2.1, h.2.2⟩
theorem run_append_fresh {P : Program} (w : World) (base : Nat) (t ty e : TypeId) (z : Value) (size bytes : Nat) (ht : P.underlying t = some (.slice e)) (hinfo : (P.info? e).map (fun i => (i.zero, i.size, i.bytes)) = some (some z, size, bytes)) (hzs : z.cells.size = size) (hsz : 0 < size)
    (v : Value) (n : Nat) (xs : List Value) (hown : w.ownsRow base e size v n xs)
    (a : Addr) (m c : Nat) (hm0 : 0 < m) (news : List Value) (hl : news.length = m * size) (hnews : ∀ j u, news[j]? = some u → w.cell? (a.add j) = some u) (h1 : ∀ u ∈ news, u.oneCell' = true)
    (h63 : n + m ≤ maxLen) (hbytes : (n + m) * bytes ≤ 140737488355328) (hbase : base ≤ w.heap.size) :
    ∃ v' w', (Builtin.append_ #[t, t] ty #[v, .slice (some a) m c]).run P w = .ok v' w' ∧ w'.ownsRow base e size v' (n + m) (xs ++ news) ∧ w.grownBy w' v.ownBlock ∧ (v'.ownBlock = v.ownBlock ∨ ∃ g, v'.ownBlock = some g ∧ w.heap.size ≤ g) := by
  obtain ⟨i, hi, hz, hsize, hby⟩ := info_parts5 hinfo
  obtain ⟨v', w', hr, h2, h3, _⟩ := run_append_own (P := P) w base t ty e i z size bytes ht hi hz hsize hby hzs hsz v n xs hown a m c news hl hnews h1 h63 hbytes hbase
  refine ⟨v', w', hr, h2, h3, ?_⟩
  have hml : maxLen ≤ 9223372036854775807 := by decide
  subst hsize hby
  rcases hown.2 with ⟨rfl, rfl⟩ | ⟨g, cap, cur, rfl, hbg, hg, hnc, hcm, hcs, htake⟩
  · have hr2 := run_append_nil (P := P) w t ty e i z ht hi hz a m c news hl hnews hm0 (by omega) (by have hb := hbytes; simp only [Nat.zero_add] at hb; omega)
    rw [hr] at hr2
    injection hr2 with h4 h5
    subst h4
    exact .inr ⟨_, rfl, Nat.le_refl _⟩
  · by_cases hroom : n + m ≤ cap
    · have hfit : n * i.size + news.length ≤ cur.size := by rw [hl, hcs, ← Nat.add_mul]; exact Nat.mul_le_mul_right _ hroom
      have hr2 := run_append_room (P := P) w t ty e i ht hi g n cap cur hg a m c news hl hnews h1 hroom hfit
      rw [hr] at hr2
      injection hr2 with h4 h5
      subst h4
      exact .inl rfl
    · have holds : ∀ j u, xs[j]? = some u → w.cell? ((⟨g, 0, none⟩ : Addr).add j) = some u := hown.cells (g := g) rfl
      have hr2 := run_append_grow (P := P) w t ty e i z ht hi hz ⟨g, 0, none⟩ n cap xs hown.1 holds a m c news hl hnews (by omega) (by omega) (growslice_fits (by omega) hbytes)
      rw [hr] at hr2
      injection hr2 with h4 h5
      subst h4
      exact .inr ⟨_, rfl, Nat.le_refl _⟩
theorem wpList_append_fresh {P : Program} (w : World) {ops : Array Oper} {rest : List Oper} {o : Oper} {a : Act} {Q : Exit → Act → World → Prop} (hgd : o.guard = none) (s x : Operand) (t : TypeId)
    (ho : o.op = .call { callee := .builtin .append, args := #[s, x], argTypes := #[t, t] })
    (base : Nat) (e : TypeId) (z : Value) (size bytes : Nat) (ht : P.underlying t = some (.slice e)) (hinfo : (P.info? e).map (fun i => (i.zero, i.size, i.bytes)) = some (some z, size, bytes)) (hzs : z.cells.size = size) (hsz : 0 < size)
    (v : Value) (n : Nat) (xs : List Value) (hs : a.eval s = v) (hown : w.ownsRow base e size v n xs)
    (ad : Addr) (m c : Nat) (hm0 : 0 < m) (news : List Value) (hx : a.eval x = .slice (some ad) m c) (hl : news.length = m * size) (hnews : ∀ j u, news[j]? = some u → w.cell? (ad.add j) = some u) (h1 : ∀ u ∈ news, u.oneCell' = true)
    (h63 : n + m ≤ maxLen) (hbytes : (n + m) * bytes ≤ 140737488355328) (hbase : base ≤ w.heap.size)
    (h : ∀ v' w', w'.ownsRow base e size v' (n + m) (xs ++ news) → w.grownBy w' v.ownBlock → (v'.ownBlock = v.ownBlock ∨ ∃ g, v'.ownBlock = some g ∧ w.heap.size ≤ g) → wpList P ops Q rest (a.put o.dst v') w') : wpList P ops Q (o :: rest) a w :=
  wpList_plain hgd fun _ hK => by
    obtain ⟨v', w', hr, h2, h3, h4⟩ := run_append_fresh (P := P) w base t o.type e z size bytes ht hinfo hzs hsz v n xs hown ad m c hm0 news hl hnews h1 h63 hbytes hbase
    unfold Oper.wp execOp
    simp only [ho, resolve, invoke, builtin, Sem.run_bind, Sem.run_pure, Result.andThen_ok, List.map_toArray, List.map_cons, List.map_nil, hs, hx, hr]
    exact hK _ _ (h v' w' h2 h3 h4)
theorem infoS : (Tryz.prog.info? 9).map (fun i => (i.zero, i.size, i.bytes)) = some (some (.string ⟨#[]⟩), 1, 16) := by kernel_rfl
end Go.Proofs.YthjoelpfmimedaaGreatDoor
namespace Go.Proofs.YthjoelpfmimedaaGreatDoor
open Go.RowKit
abbrev RelS (α : Type) := World → (Nat → Prop) → (Nat → Value) → α → Prop
structure StayS {α : Type} (R : RelS α) : Prop where
  kept : ∀ {w w' : World} {S S' : Nat → Prop} {f : Nat → Value} {x : α}, R w S f x → (∀ b, S b → w'.heap[b]? = w.heap[b]?) → (∀ b, S b → S' b) → R w' S' f x
def SlS {α : Type} (k bytes : Nat) (R : RelS α) (w : World) (S : Nat → Prop) (v : Value) (xs : List α) : Prop :=
  ∃ A c, v = .slice A xs.length c ∧ xs.length ≤ c ∧ xs.length * bytes ≤ big ∧ ∃ V : Nat → Nat → Value,
    (0 < xs.length → ∃ a, A = some a ∧ S a.block ∧ ∀ i, i < xs.length → ∀ j, j < k → w.cell? (at_ (a.add (i * k)) j) = some (V i j)) ∧ ∀ i x, xs[i]? = some x → R w S (V i) x
theorem SlS.kept {α : Type} {k bytes : Nat} {R : RelS α} (hR : StayS R) {w w' : World} {S S' : Nat → Prop} {v : Value} {xs : List α} (h : SlS k bytes R w S v xs) (hb : ∀ b, S b → w'.heap[b]? = w.heap[b]?) (hs : ∀ b, S b → S' b) : SlS k bytes R w' S' v xs := by
  obtain ⟨A, c, e, hc, hz, V, hA, hr⟩ := h
  refine ⟨A, c, e, hc, hz, V, fun h0 => ?_, fun i x hx => hR.kept (hr i x hx) hb hs⟩
  obtain ⟨a, ea, ha, hx⟩ := hA h0
  exact ⟨a, ea, hs _ ha, fun i hi j hj => (cell_of_block (by rw [at_block, add_block]; exact hb _ ha)).trans (hx i hi j hj)⟩
theorem SlS.toSl {α : Type} {k bytes : Nat} {R : RelS α} {R' : World → Nat → (Nat → Value) → α → Prop} {w : World} {S : Nat → Prop} {B : Nat} {v : Value} {xs : List α} (hs : ∀ b, S b → b < B) (hR : ∀ f x, R w S f x → R' w B f x) (h : SlS k bytes R w S v xs) : Sl k bytes R' w B v xs := by
  obtain ⟨A, c, e, hc, hz, V, hA, hr⟩ := h
  refine ⟨A, c, e, hc, hz, V, fun h0 => ?_, fun i x hx => hR _ _ (hr i x hx)⟩
  obtain ⟨a, ea, ha, hx⟩ := hA h0
  exact ⟨a, ea, hs _ ha, hx⟩
def StrC : RelS ByteArray := fun _ _ f s => f 0 = .string s ∧ s.size ≤ big
def IntC : RelS Int := fun _ _ f n => f 0 = .int .i64 n ∧ small n
def WrapsC := SlS 1 8 IntC
def NamesC := SlS 1 16 StrC
structure RfC (w : World) (S : Nat → Prop) (c0 c1 : Value) (n : ByteArray) (xs : List Int) : Prop where
  name : c0 = .string n
  size : n.size ≤ big
  wraps : WrapsC w S c1 xs
structure ArgC (w : World) (S : Nat → Prop) (f : Nat → Value) (x : ByteArray × VT) : Prop where
  name : f 0 = .string x.1
  size : x.1.size ≤ big
  val : RdS w S (.agg #[f 1, f 2, f 3, f 4, f 5]) x.2
def ArgsC := SlS 6 96 ArgC
structure DirC (w : World) (S : Nat → Prop) (f : Nat → Value) (x : DirT) : Prop where
  name : f 0 = .string x.name
  size : x.name.size ≤ big
  args : ArgsC w S (f 1) x.args
def DirsC := SlS 2 40 DirC
structure InpC (w : World) (S : Nat → Prop) (f : Nat → Value) (x : InpT) : Prop where
  name : f 0 = .string x.name
  size : x.name.size ≤ big
  type : RfC w S (f 1) (f 2) x.tn x.tw
  has : f 3 = .bool x.has
  val : RdS w S (.agg #[f 4, f 5, f 6, f 7, f 8]) x.dflt
  dirs : DirsC w S (f 9) x.dirs
def InpsC := SlS 10 168 InpC
structure FldC (w : World) (S : Nat → Prop) (f : Nat → Value) (x : FldT) : Prop where
  name : f 0 = .string x.name
  size : x.name.size ≤ big
  args : InpsC w S (f 1) x.args
  type : RfC w S (f 2) (f 3) x.tn x.tw
  dirs : DirsC w S (f 4) x.dirs
def FldsC := SlS 5 104 FldC
structure MemC (w : World) (S : Nat → Prop) (f : Nat → Value) (x : MemT) : Prop where
  name : f 0 = .string x.name
  size : x.name.size ≤ big
  dirs : DirsC w S (f 1) x.dirs
def MemsC := SlS 2 40 MemC
structure DefC (w : World) (S : Nat → Prop) (f : Nat → Value) (x : DefT) : Prop where
  kind : f 0 = .int .i64 x.kind
  small : small x.kind
  name : f 1 = .string x.name
  size : x.name.size ≤ big
  impl : NamesC w S (f 2) x.impl
  dirs : DirsC w S (f 3) x.dirs
  fields : FldsC w S (f 4) x.fields
  members : MemsC w S (f 5) x.members
  inputs : InpsC w S (f 6) x.inputs
def DefsC := SlS 7 144 DefC
theorem StrC.stays : StayS StrC := ⟨fun h _ _ => h⟩
theorem IntC.stays : StayS IntC := ⟨fun h _ _ => h⟩
theorem RfC.kept {w w' : World} {S S' : Nat → Prop} {c0 c1 : Value} {n : ByteArray} {xs : List Int} (h : RfC w S c0 c1 n xs) (hb : ∀ b, S b → w'.heap[b]? = w.heap[b]?) (hs : ∀ b, S b → S' b) : RfC w' S' c0 c1 n xs := ⟨h.name, h.size, SlS.kept IntC.stays h.wraps hb hs⟩
theorem ArgC.stays : StayS ArgC := ⟨fun h hb hs => ⟨h.name, h.size, h.val.kept hb hs⟩⟩
theorem DirC.stays : StayS DirC := ⟨fun h hb hs => ⟨h.name, h.size, SlS.kept ArgC.stays h.args hb hs⟩⟩
theorem InpC.stays : StayS InpC := ⟨fun h hb hs => ⟨h.name, h.size, h.type.kept hb hs, h.has, h.val.kept hb hs, SlS.kept DirC.stays h.dirs hb hs⟩⟩
theorem FldC.stays : StayS FldC := ⟨fun h hb hs => ⟨h.name, h.size, SlS.kept InpC.stays h.args hb hs, h.type.kept hb hs, SlS.kept DirC.stays h.dirs hb hs⟩⟩
theorem MemC.stays : StayS MemC := ⟨fun h hb hs => ⟨h.name, h.size, SlS.kept DirC.stays h.dirs hb hs⟩⟩
theorem DefC.stays : StayS DefC := ⟨fun h hb hs => ⟨h.kind, h.small, h.name, h.size, SlS.kept StrC.stays h.impl hb hs, SlS.kept DirC.stays h.dirs hb hs, SlS.kept FldC.stays h.fields hb hs, SlS.kept MemC.stays h.members hb hs, SlS.kept InpC.stays h.inputs hb hs⟩⟩
section
variable {w : World} {S : Nat → Prop} {B : Nat} (hs : ∀ b, S b → b < B)
include hs
theorem ArgC.toR {f : Nat → Value} {x : ByteArray × VT} (h : ArgC w S f x) : ArgR w B f x := ⟨h.name, h.size, h.val.toRd hs⟩
theorem RfC.toR {c0 c1 : Value} {n : ByteArray} {xs : List Int} (h : RfC w S c0 c1 n xs) : RfR w B c0 c1 n xs := ⟨h.name, h.size, SlS.toSl hs (fun _ _ h => h) h.wraps⟩
theorem DirC.toR {f : Nat → Value} {x : DirT} (h : DirC w S f x) : DirR w B f x := ⟨h.name, h.size, SlS.toSl hs (fun _ _ h => h.toR hs) h.args⟩
theorem InpC.toR {f : Nat → Value} {x : InpT} (h : InpC w S f x) : InpR w B f x := ⟨h.name, h.size, h.type.toR hs, h.has, h.val.toRd hs, SlS.toSl hs (fun _ _ h => h.toR hs) h.dirs⟩
theorem FldC.toR {f : Nat → Value} {x : FldT} (h : FldC w S f x) : FldR w B f x := ⟨h.name, h.size, SlS.toSl hs (fun _ _ h => h.toR hs) h.args, h.type.toR hs, SlS.toSl hs (fun _ _ h => h.toR hs) h.dirs⟩
theorem MemC.toR {f : Nat → Value} {x : MemT} (h : MemC w S f x) : MemR w B f x := ⟨h.name, h.size, SlS.toSl hs (fun _ _ h => h.toR hs) h.dirs⟩
theorem DefC.toR {f : Nat → Value} {x : DefT} (h : DefC w S f x) : DefR w B f x := ⟨h.kind, h.small, h.name, h.size, SlS.toSl hs (fun _ _ h => h) h.impl, SlS.toSl hs (fun _ _ h => h.toR hs) h.dirs, SlS.toSl hs (fun _ _ h => h.toR hs) h.fields, SlS.toSl hs (fun _ _ h => h.toR hs) h.members, SlS.toSl hs (fun _ _ h => h.toR hs) h.inputs⟩
theorem DefsC.toR {v : Value} {xs : List DefT} (h : DefsC w S v xs) : DefsR w B v xs := SlS.toSl hs (fun _ _ h => h.toR hs) h
end
theorem SlS.form {α : Type} {k bytes : Nat} {R : RelS α} {w : World} {S : Nat → Prop} {v : Value} {xs : List α} (h : SlS k bytes R w S v xs) : ∃ A c, v = .slice A xs.length c ∧ xs.length ≤ c ∧ xs.length * bytes ≤ big := by
  obtain ⟨A, c, e, hc, hb, _⟩ := h; exact ⟨A, c, e, hc, hb⟩
theorem SlS.nil {α : Type} {k bytes : Nat} {R : RelS α} (w : World) (S : Nat → Prop) : SlS k bytes R w S (.slice none 0 0) [] :=
  ⟨none, 0, rfl, Nat.le_refl _, by simp, fun _ _ => undef, fun h => absurd h (Nat.lt_irrefl _), fun i x h => by simp at h⟩
theorem RdS.form {w : World} {S : Nat → Prop} {v : Value} {t : VT} (h : RdS w S v t) : ∃ (k n : Int) (s : ByteArray) (A : Option Addr) (li ci : Nat) (K : Option Addr) (lk ck : Nat), v = .agg #[.int .i64 k, .int .i64 n, .string s, .slice A li ci, .slice K lk ck] := by
  cases h with
  | mk V => exact ⟨_, _, _, _, _, _, _, _, _, rfl⟩
def Apart (base : Nat) (w : World) (v : Value) (b : Nat) : Prop := base ≤ b ∧ b < w.heap.size ∧ v.ownBlock ≠ some b
structure Els {α : Type} (T : TypeId) (k : Nat) (R : RelS α) (w : World) (base : Nat) (v : Value) (cells : List Value) (xs : List α) : Prop where
  own : w.ownsRow base T k v xs.length cells
  els : ∀ i x, xs[i]? = some x → R w (Apart base w v) (fun j => cells.getD (i * k + j) undef) x
theorem Els.nil {α : Type} (T : TypeId) (k : Nat) (R : RelS α) (w : World) (base : Nat) : Els T k R w base (.slice none 0 0) [] ([] : List α) := ⟨⟨by simp, .inl ⟨rfl, rfl⟩⟩, fun i x h => by simp at h⟩
theorem Els.tw {α : Type} {T : TypeId} {k : Nat} {R : RelS α} (hR : StayS R) {w w' : World} {base p : Nat} {v : Value} {cells : List Value} {xs : List α} (h : Els T k R w base v cells xs) (hp : p < base) (hb : Tw p w.heap.size w w') : Els T k R w' base v cells xs := by
  refine ⟨⟨h.own.1, h.own.2.imp id ?_⟩, fun i x hx => hR.kept (h.els i x hx) (fun b hb2 => hb.block b hb2.2.1 (by have := hb2.1; omega)) (fun b hb2 => ⟨hb2.1, Nat.lt_of_lt_of_le hb2.2.1 hb.size, hb2.2.2⟩)⟩
  rintro ⟨g, cap, cur, rfl, e2, e3, r⟩
  have hg := (own_lt h.own (g := g) rfl).2
  exact ⟨g, cap, cur, rfl, e2, (hb.block g hg (by omega)).trans e3, r⟩
theorem Els.slice {α : Type} {T : TypeId} {k : Nat} {R : RelS α} {w : World} {base : Nat} {v : Value} {cells : List Value} {xs : List α} (h : Els T k R w base v cells xs) : ∃ A c, v = .slice A xs.length c := by
  rcases h.own.2 with ⟨rfl, hz⟩ | ⟨g, cap, cur, rfl, _⟩
  · exact ⟨none, 0, by rw [hz]⟩
  · exact ⟨_, _, rfl⟩
theorem Els.push {α : Type} {T : TypeId} {k : Nat} {R : RelS α} (hR : StayS R) {w w0 w' : World} {base : Nat} {v v' : Value} {cells news : List Value} {xs : List α} {x : α} {f : Nat → Value} (h : Els T k R w base v cells xs) (hw0 : Below w.heap.size w w0) (hbw : base ≤ w.heap.size)
    (hx : R w (fun b => base ≤ b ∧ b < w.heap.size ∧ v.ownBlock ≠ some b) f x) (hf : ∀ j, j < k → news.getD j undef = f j) (hcong : ∀ (W : World) (S : Nat → Prop) (g g' : Nat → Value) (y : α), (∀ j, j < k → g j = g' j) → R W S g y → R W S g' y)
    (h1 : w'.ownsRow base T k v' (xs.length + 1) (cells ++ news)) (h2 : w0.grownBy w' v.ownBlock) (h3 : v'.ownBlock = v.ownBlock ∨ ∃ g, v'.ownBlock = some g ∧ w0.heap.size ≤ g) :
    Els T k R w' base v' (cells ++ news) (xs ++ [x]) ∧ Below base w w' := by
  have hl := h.own.1
  have hs0 := hw0.size
  have hs2 := h2.size
  have hold : ∀ b, Apart base w v b → w'.heap[b]? = w.heap[b]? := fun b hb => (h2.block b (by have := hb.2.1; omega) (fun e => hb.2.2 e.symm)).trans (hw0.block b hb.2.1)
  have hset : ∀ b, Apart base w v b → Apart base w' v' b := fun b hb => ⟨hb.1, by have := hb.2.1; omega, fun e => by
    rcases h3 with h3 | ⟨g, h3, hg⟩
    · exact hb.2.2 (h3 ▸ e)
    · rw [h3] at e; cases e; have := hb.2.1; omega⟩
  refine ⟨⟨by rw [List.length_append, List.length_singleton]; exact h1, fun i y hy => ?_⟩, ⟨h2.os.trans hw0.os, h2.tape.trans hw0.tape, h2.output.trans hw0.output, by omega, fun b hb => ?_⟩⟩
  · rcases Nat.lt_or_ge i xs.length with hi | hi
    · rw [List.getElem?_append_left hi] at hy
      refine hcong _ _ _ _ _ (fun j hj => ?_) (hR.kept (h.els i y hy) hold hset)
      have : i * k + j < cells.length := by rw [hl]; calc i * k + j < i * k + k := by omega
        _ = (i + 1) * k := by rw [Nat.succ_mul]
        _ ≤ xs.length * k := Nat.mul_le_mul_right _ hi
      simp [List.getD_eq_getElem?_getD, List.getElem?_append_left this]
    · rw [List.getElem?_append_right hi] at hy
      have h0 : i = xs.length := by
        have := (List.getElem?_eq_some_iff.1 hy).1
        simp at this; omega
      subst h0
      simp at hy
      subst hy
      refine hcong _ _ _ _ _ (fun j hj => ?_) (hR.kept hx hold hset)
      rw [← hf j hj, List.getD_eq_getElem?_getD, List.getD_eq_getElem?_getD, List.getElem?_append_right (by omega), show xs.length * k + j - cells.length = j by omega]
  · rw [h2.block b (by omega) (fun e => by have := own_lt h.own e.symm; omega)]
    exact hw0.block b (by omega)
theorem Els.read {α : Type} {T : TypeId} {k bytes : Nat} {R : RelS α} (hR : StayS R) {w : World} {base : Nat} {v : Value} {cells : List Value} {xs : List α} (h : Els T k R w base v cells xs) (hbig : xs.length * bytes ≤ big) : SlS k bytes R w (fun b => base ≤ b ∧ b < w.heap.size) v xs := by
  have hl := h.own.1
  have hels : ∀ i x, xs[i]? = some x → R w (fun b => base ≤ b ∧ b < w.heap.size) (fun j => cells.getD (i * k + j) undef) x := fun i x hx => hR.kept (h.els i x hx) (fun _ _ => rfl) fun b hb => ⟨hb.1, hb.2.1⟩
  rcases h.own.2 with ⟨rfl, hz⟩ | ⟨g, cap, cur, rfl, hg1, hg2, hn, r⟩
  · refine ⟨none, 0, by rw [hz], by omega, hbig, fun i j => cells.getD (i * k + j) undef, fun h0 => by omega, hels⟩
  · have hlt := (own_lt h.own (g := g) rfl).2
    refine ⟨_, cap, rfl, hn, hbig, fun i j => cells.getD (i * k + j) undef, fun _ => ⟨_, rfl, ⟨hg1, hlt⟩, fun i hi j hj => ?_⟩, hels⟩
    have hlt2 : i * k + j < cells.length := by rw [hl]; calc i * k + j < i * k + k := by omega
      _ = (i + 1) * k := by rw [Nat.succ_mul]
      _ ≤ xs.length * k := Nat.mul_le_mul_right _ hi
    have hc := World.ownsRow.cells h.own (g := g) rfl (i * k + j) (cells.getD (i * k + j) undef) (by rw [List.getD_eq_getElem?_getD, List.getElem?_eq_getElem hlt2]; rfl)
    rw [Addr.add_mid, Nat.zero_add] at hc ⊢
    cases j with
    | zero => exact hc
    | succ j => exact hc
end Go.Proofs.YthjoelpfmimedaaGreatDoor
namespace Go.Proofs.YthjoelpfmimedaaGreatDoor
open Go.RowKit
def WPost {α : Type} (R : World → (Nat → Prop) → Value → α → Prop) (w : World) (p : Nat) (r : Except Er (α × List Tk)) (e : Ending) (w' : World) : Prop :=
  (∃ x ts v m, r = .ok (x, ts) ∧ e = .returned v ∧ R w' (fun b => w.heap.size ≤ b ∧ b < w'.heap.size) v x ∧ PSt w' p ts m ∧ Tw p w.heap.size w w') ∨ (∃ x, r = .error x ∧ e = badV x ∧ Tw p w.heap.size w w')
def tlen (p : Nat) (w : World) : Nat := match w.cell? ⟨p, 0, none⟩ with
  | some (.slice _ l _) => l
  | _ => 0
theorem PSt.tlen {w : World} {p : Nat} {ts : List Tk} {n : Nat} (h : PSt w p ts n) : tlen p w = ts.length := by
  obtain ⟨A, c, hb, _⟩ := h.box
  have := hb.cell 0 _ rfl
  unfold Go.Proofs.YthjoelpfmimedaaGreatDoor.tlen
  rw [this]
  rfl
theorem cells_at (w : World) (news : List Value) (T : TypeId) : ∀ (j : Nat) (u : Value), news[j]? = some u → (w.alloc (.cells news.toArray T (0, 0))).cell? ((⟨w.heap.size, 0, none⟩ : Addr).add j) = some u := by
  intro j u h
  obtain ⟨h1, rfl⟩ := List.getElem?_eq_some_iff.1 h
  exact (cell_new w news.toArray T j (by simpa using h1)).trans (by simp)
def exB {α β : Type} (r : Except Er α) (k : α → Except Er β) : Except Er β := match r with
  | .error e => .error e
  | .ok x => k x
theorem exB_ok {α β : Type} {r : Except Er α} {k : α → Except Er β} {x : α} (h : r = .ok x) : exB r k = k x := by rw [h]; rfl
theorem exB_er {α β : Type} {r : Except Er α} {k : α → Except Er β} {x : Er} (h : r = .error x) : exB r k = .error x := by rw [h]; rfl
def bls {α : Type} (cl : List UInt8) (most : Nat) (el : List Tk → Except Er (α × List Tk)) : Nat → List α → List Tk → Except Er (List α × List Tk)
  | 0, _, _ => .error (0, 99)
  | f + 1, l, ts => if l.length ≠ 0 ∧ isSg cl ts = true then .ok (l, ts.tail) else exB (bgR (isNm ts) l.length most ts) fun _ => exB (el ts) fun q => bls cl most el f (l ++ [q.1]) q.2
theorem bls_succ {α : Type} (cl : List UInt8) (most : Nat) (el : List Tk → Except Er (α × List Tk)) (f : Nat) (l : List α) (ts : List Tk) : bls cl most el (f + 1) l ts = if l.length ≠ 0 ∧ isSg cl ts = true then .ok (l, ts.tail) else exB (bgR (isNm ts) l.length most ts) fun _ => exB (el ts) fun q => bls cl most el f (l ++ [q.1]) q.2 := rfl
def blR {α : Type} (op cl : List UInt8) (most : Nat) (el : List Tk → Except Er (α × List Tk)) (ts : List Tk) : Except Er (List α × List Tk) := exB (sgR op ts) fun ts1 => bls cl most el (ts1.length + 1) [] ts1
def nms (sep : List UInt8) : Nat → List ByteArray → List Tk → Except Er (List ByteArray × List Tk)
  | 0, _, _ => .error (0, 99)
  | f + 1, l, ts => if l.length ≠ 0 ∧ isSg sep ts = false then .ok (l, ts) else
    exB (bgR (isNm (if l.length = 0 then ts else ts.tail)) l.length 64 (if l.length = 0 then ts else ts.tail)) fun _ => exB (nmR (if l.length = 0 then ts else ts.tail)) fun q => nms sep f (l ++ [q.1]) q.2
theorem nms_succ (sep : List UInt8) (f : Nat) (l : List ByteArray) (ts : List Tk) : nms sep (f + 1) l ts = if l.length ≠ 0 ∧ isSg sep ts = false then .ok (l, ts) else
    exB (bgR (isNm (if l.length = 0 then ts else ts.tail)) l.length 64 (if l.length = 0 then ts else ts.tail)) fun _ => exB (nmR (if l.length = 0 then ts else ts.tail)) fun q => nms sep f (l ++ [q.1]) q.2 := rfl
def nmsR (sep : List UInt8) (ts : List Tk) : Except Er (List ByteArray × List Tk) := nms sep (ts.length + 1) [] ts
theorem bgR_lt {c : Bool} {a m : Nat} {ts : List Tk} (h : bgR c a m ts = .ok ()) (hm : a ≤ m) : c = true ∧ a < m := by
  unfold bgR at h
  split at h
  · split at h
    · cases h
    · next h1 h2 => exact ⟨h1, by omega⟩
  · cases h
theorem nmR_lt {ts ts' : List Tk} {x : ByteArray} (hg : Good ts) (h : nmR ts = .ok (x, ts')) : ts'.length < ts.length := by
  obtain ⟨t, r, rfl⟩ := hg.ne
  unfold nmR at h
  split at h
  · cases h; simp
  · cases h
def FldV (w : World) (S : Nat → Prop) (v : Value) (x : FldT) : Prop := ∃ c0 c1 c2 c3 c4, v = .agg #[c0, c1, c2, c3, c4] ∧ FldC w S (fun j => [c0, c1, c2, c3, c4].getD j undef) x
theorem FldV.cong {k : Nat} (hk : 5 ≤ k) (W : World) (S : Nat → Prop) (g g' : Nat → Value) (y : FldT) (h : ∀ j, j < k → g j = g' j) (hr : FldC W S g y) : FldC W S g' y := by
  have hh : ∀ j, j < 5 → g j = g' j := fun j hj => h j (by omega)
  obtain ⟨a0, a1, a2, a3, a4⟩ := hr
  simp only [hh 0 (by omega), hh 1 (by omega), hh 2 (by omega), hh 3 (by omega), hh 4 (by omega)] at *
  constructor <;> assumption
theorem FldV.shape {w : World} {S : Nat → Prop} {v : Value} {x : FldT} (h : FldV w S v x) : ∃ A1 A3 A4 d1 d3 d4, v = .agg #[.string x.name, .slice A1 x.args.length d1, .string x.tn, .slice A3 x.tw.length d3, .slice A4 x.dirs.length d4] ∧ FldC w S (fun j => [.string x.name, .slice A1 x.args.length d1, .string x.tn, .slice A3 x.tw.length d3, .slice A4 x.dirs.length d4].getD j undef) x := by
  obtain ⟨c0, c1, c2, c3, c4, rfl, hx⟩ := h
  obtain ⟨A1, d1, e1, _, _⟩ := hx.args.form
  obtain ⟨A3, d3, e3, _, _⟩ := hx.type.wraps.form
  obtain ⟨A4, d4, e4, _, _⟩ := hx.dirs.form
  have e0 := hx.name
  have e2 := hx.type.name
  replace e0 : c0 = .string x.name := e0
  replace e1 : c1 = .slice A1 x.args.length d1 := e1
  replace e2 : c2 = .string x.tn := e2
  replace e3 : c3 = .slice A3 x.tw.length d3 := e3
  replace e4 : c4 = .slice A4 x.dirs.length d4 := e4
  subst e0 e1 e2 e3 e4
  exact ⟨_, _, _, _, _, _, rfl, hx⟩
def MemV (w : World) (S : Nat → Prop) (v : Value) (x : MemT) : Prop := ∃ c0 c1, v = .agg #[c0, c1] ∧ MemC w S (fun j => [c0, c1].getD j undef) x
theorem MemV.cong {k : Nat} (hk : 2 ≤ k) (W : World) (S : Nat → Prop) (g g' : Nat → Value) (y : MemT) (h : ∀ j, j < k → g j = g' j) (hr : MemC W S g y) : MemC W S g' y := by
  have hh : ∀ j, j < 2 → g j = g' j := fun j hj => h j (by omega)
  obtain ⟨a0, a1, a2⟩ := hr
  simp only [hh 0 (by omega), hh 1 (by omega)] at *
  constructor <;> assumption
theorem MemV.shape {w : World} {S : Nat → Prop} {v : Value} {x : MemT} (h : MemV w S v x) : ∃ A1 d1, v = .agg #[.string x.name, .slice A1 x.dirs.length d1] ∧ MemC w S (fun j => [.string x.name, .slice A1 x.dirs.length d1].getD j undef) x := by
  obtain ⟨c0, c1, rfl, hx⟩ := h
  obtain ⟨A1, d1, e1, _, _⟩ := hx.dirs.form
  have e0 := hx.name
  replace e0 : c0 = .string x.name := e0
  replace e1 : c1 = .slice A1 x.dirs.length d1 := e1
  subst e0 e1
  exact ⟨_, _, rfl, hx⟩
def DirV (w : World) (S : Nat → Prop) (v : Value) (x : DirT) : Prop := ∃ c0 c1, v = .agg #[c0, c1] ∧ DirC w S (fun j => [c0, c1].getD j undef) x
theorem DirV.cong {k : Nat} (hk : 2 ≤ k) (W : World) (S : Nat → Prop) (g g' : Nat → Value) (y : DirT) (h : ∀ j, j < k → g j = g' j) (hr : DirC W S g y) : DirC W S g' y := by
  have hh : ∀ j, j < 2 → g j = g' j := fun j hj => h j (by omega)
  obtain ⟨a0, a1, a2⟩ := hr
  simp only [hh 0 (by omega), hh 1 (by omega)] at *
  constructor <;> assumption
theorem DirV.shape {w : World} {S : Nat → Prop} {v : Value} {x : DirT} (h : DirV w S v x) : ∃ A1 d1, v = .agg #[.string x.name, .slice A1 x.args.length d1] ∧ DirC w S (fun j => [.string x.name, .slice A1 x.args.length d1].getD j undef) x := by
  obtain ⟨c0, c1, rfl, hx⟩ := h
  obtain ⟨A1, d1, e1, _, _⟩ := hx.args.form
  have e0 := hx.name
  replace e0 : c0 = .string x.name := e0
  replace e1 : c1 = .slice A1 x.args.length d1 := e1
  subst e0 e1
  exact ⟨_, _, rfl, hx⟩
def InpV (w : World) (S : Nat → Prop) (v : Value) (x : InpT) : Prop := ∃ c0 c1 c2 c3 c4 c5 c6 c7 c8 c9, v = .agg #[c0, c1, c2, c3, c4, c5, c6, c7, c8, c9] ∧ InpC w S (fun j => [c0, c1, c2, c3, c4, c5, c6, c7, c8, c9].getD j undef) x
theorem InpV.cong {k : Nat} (hk : 10 ≤ k) (W : World) (S : Nat → Prop) (g g' : Nat → Value) (y : InpT) (h : ∀ j, j < k → g j = g' j) (hr : InpC W S g y) : InpC W S g' y := by
  have hh : ∀ j, j < 10 → g j = g' j := fun j hj => h j (by omega)
  obtain ⟨a0, a1, a2, a3, a4, a5⟩ := hr
  simp only [hh 0 (by omega), hh 1 (by omega), hh 2 (by omega), hh 3 (by omega), hh 4 (by omega), hh 5 (by omega), hh 6 (by omega), hh 7 (by omega), hh 8 (by omega), hh 9 (by omega)] at *
  constructor <;> assumption
theorem InpV.shape {w : World} {S : Nat → Prop} {v : Value} {x : InpT} (h : InpV w S v x) : ∃ A A2 A9 KA ci ck d2 d9 k li lk s z, v = .agg #[.string x.name, .string x.tn, .slice A2 x.tw.length d2, .bool x.has, .int .i64 k, .int .i64 z, .string s, .slice A li ci, .slice KA lk ck, .slice A9 x.dirs.length d9] ∧ InpC w S (fun j => [.string x.name, .string x.tn, .slice A2 x.tw.length d2, .bool x.has, .int .i64 k, .int .i64 z, .string s, .slice A li ci, .slice KA lk ck, .slice A9 x.dirs.length d9].getD j undef) x := by
  obtain ⟨c0, c1, c2, c3, c4, c5, c6, c7, c8, c9, rfl, hx⟩ := h
  obtain ⟨k, z, s, A, li, ci, KA, lk, ck, ev⟩ := hx.val.form
  simp only [Value.agg.injEq, Array.mk.injEq, List.cons.injEq, and_true] at ev
  obtain ⟨e4, e5, e6, e7, e8⟩ := ev
  obtain ⟨A2, d2, e2, _, _⟩ := hx.type.wraps.form
  obtain ⟨A9, d9, e9, _, _⟩ := hx.dirs.form
  have e0 := hx.name
  have e1 := hx.type.name
  have e3 := hx.has
  replace e0 : c0 = .string x.name := e0
  replace e1 : c1 = .string x.tn := e1
  replace e2 : c2 = .slice A2 x.tw.length d2 := e2
  replace e3 : c3 = .bool x.has := e3
  replace e4 : c4 = .int .i64 k := e4
  replace e5 : c5 = .int .i64 z := e5
  replace e6 : c6 = .string s := e6
  replace e7 : c7 = .slice A li ci := e7
  replace e8 : c8 = .slice KA lk ck := e8
  replace e9 : c9 = .slice A9 x.dirs.length d9 := e9
  subst e0 e1 e2 e3 e4 e5 e6 e7 e8 e9
  exact ⟨_, _, _, _, _, _, _, _, _, _, _, _, _, rfl, hx⟩
def ArgV (w : World) (S : Nat → Prop) (v : Value) (x : (ByteArray × VT)) : Prop := ∃ c0 c1 c2 c3 c4 c5, v = .agg #[c0, c1, c2, c3, c4, c5] ∧ ArgC w S (fun j => [c0, c1, c2, c3, c4, c5].getD j undef) x
theorem ArgV.cong {k : Nat} (hk : 6 ≤ k) (W : World) (S : Nat → Prop) (g g' : Nat → Value) (y : (ByteArray × VT)) (h : ∀ j, j < k → g j = g' j) (hr : ArgC W S g y) : ArgC W S g' y := by
  have hh : ∀ j, j < 6 → g j = g' j := fun j hj => h j (by omega)
  obtain ⟨a0, a1, a2⟩ := hr
  simp only [hh 0 (by omega), hh 1 (by omega), hh 2 (by omega), hh 3 (by omega), hh 4 (by omega), hh 5 (by omega)] at *
  constructor <;> assumption
theorem ArgV.shape {w : World} {S : Nat → Prop} {v : Value} {x : (ByteArray × VT)} (h : ArgV w S v x) : ∃ A KA ci ck k li lk s z, v = .agg #[.string x.1, .int .i64 k, .int .i64 z, .string s, .slice A li ci, .slice KA lk ck] ∧ ArgC w S (fun j => [.string x.1, .int .i64 k, .int .i64 z, .string s, .slice A li ci, .slice KA lk ck].getD j undef) x := by
  obtain ⟨c0, c1, c2, c3, c4, c5, rfl, hx⟩ := h
  obtain ⟨k, z, s, A, li, ci, KA, lk, ck, ev⟩ := hx.val.form
  simp only [Value.agg.injEq, Array.mk.injEq, List.cons.injEq, and_true] at ev
  obtain ⟨e1, e2, e3, e4, e5⟩ := ev
  have e0 := hx.name
  replace e0 : c0 = .string x.1 := e0
  replace e1 : c1 = .int .i64 k := e1
  replace e2 : c2 = .int .i64 z := e2
  replace e3 : c3 = .string s := e3
  replace e4 : c4 = .slice A li ci := e4
  replace e5 : c5 = .slice KA lk ck := e5
  subst e0 e1 e2 e3 e4 e5
  exact ⟨_, _, _, _, _, _, _, _, _, rfl, hx⟩
def DefV (w : World) (S : Nat → Prop) (v : Value) (x : DefT) : Prop := ∃ c0 c1 c2 c3 c4 c5 c6, v = .agg #[c0, c1, c2, c3, c4, c5, c6] ∧ DefC w S (fun j => [c0, c1, c2, c3, c4, c5, c6].getD j undef) x
theorem DefV.cong {k : Nat} (hk : 7 ≤ k) (W : World) (S : Nat → Prop) (g g' : Nat → Value) (y : DefT) (h : ∀ j, j < k → g j = g' j) (hr : DefC W S g y) : DefC W S g' y := by
  have hh : ∀ j, j < 7 → g j = g' j := fun j hj => h j (by omega)
  obtain ⟨a0, a1, a2, a3, a4, a5, a6, a7, a8⟩ := hr
  simp only [hh 0 (by omega), hh 1 (by omega), hh 2 (by omega), hh 3 (by omega), hh 4 (by omega), hh 5 (by omega), hh 6 (by omega)] at *
  constructor <;> assumption
theorem DefV.shape {w : World} {S : Nat → Prop} {v : Value} {x : DefT} (h : DefV w S v x) : ∃ A2 A3 A4 A5 A6 d2 d3 d4 d5 d6, v = .agg #[.int .i64 x.kind, .string x.name, .slice A2 x.impl.length d2, .slice A3 x.dirs.length d3, .slice A4 x.fields.length d4, .slice A5 x.members.length d5, .slice A6 x.inputs.length d6] ∧ DefC w S (fun j => [.int .i64 x.kind, .string x.name, .slice A2 x.impl.length d2, .slice A3 x.dirs.length d3, .slice A4 x.fields.length d4, .slice A5 x.members.length d5, .slice A6 x.inputs.length d6].getD j undef) x := by
  obtain ⟨c0, c1, c2, c3, c4, c5, c6, rfl, hx⟩ := h
  obtain ⟨A2, d2, e2, _, _⟩ := hx.impl.form
  obtain ⟨A3, d3, e3, _, _⟩ := hx.dirs.form
  obtain ⟨A4, d4, e4, _, _⟩ := hx.fields.form
  obtain ⟨A5, d5, e5, _, _⟩ := hx.members.form
  obtain ⟨A6, d6, e6, _, _⟩ := hx.inputs.form
  have e0 := hx.kind
  have e1 := hx.name
  replace e0 : c0 = .int .i64 x.kind := e0
  replace e1 : c1 = .string x.name := e1
  replace e2 : c2 = .slice A2 x.impl.length d2 := e2
  replace e3 : c3 = .slice A3 x.dirs.length d3 := e3
  replace e4 : c4 = .slice A4 x.fields.length d4 := e4
  replace e5 : c5 = .slice A5 x.members.length d5 := e5
  replace e6 : c6 = .slice A6 x.inputs.length d6 := e6
  subst e0 e1 e2 e3 e4 e5 e6
  exact ⟨_, _, _, _, _, _, _, _, _, _, rfl, hx⟩
end Go.Proofs.YthjoelpfmimedaaGreatDoor
namespace Go.Proofs.YthjoelpfmimedaaGreatDoor
open Go.RowKit
theorem runs_calls {P : Program} {ops : Array Oper} {Q : Exit → Act → World → Prop} {o : Oper} {a : Act} {w : World} {R : Value → World → Prop} (hw : Region.wanted o (yielded ops a.tmps) = true) (f : FuncId) (xs : Array Operand) (ts : Array TypeId)
    (ho : o.op = .call { callee := .value (.func f), args := xs, argTypes := ts }) (hen : ∀ (args : Array Value) (w : World), (callFunc f args).run P w = .ok (.enter f args) w) (vs : Array Value) (hx : xs.map a.eval = vs)
    (hc : Calls P f vs w fun e w' => (∃ v, e = .returned v ∧ R v w') ∨ ∃ ch, e = .panicked ch ∧ Q (.panic ch) a w') : K.Runs P ops Q o a w R := by
  refine ⟨hw, ?_⟩
  unfold Oper.wp
  have he : (execOp a.eval o).run P w = .ok (.enter f vs) w := by
    simp [execOp, ho, go_sem, hx, hen]
  rw [he]
  refine hc.mono fun e w' h => ?_
  rcases h with ⟨v, hv, hr⟩ | ⟨ch, hv, hq⟩
  · subst hv; exact ⟨v, rfl, hr⟩
  · subst hv; exact hq
theorem map4 {α β : Type} (f : α → β) (x y z u : α) : (#[x, y, z, u] : Array α).map f = #[f x, f y, f z, f u] := by simp
theorem congr4a {x0 x1 x2 x3 y0 y1 y2 y3 : Value} (h0 : x0 = y0) (h1 : x1 = y1) (h2 : x2 = y2) (h3 : x3 = y3) : (#[x0, x1, x2, x3] : Array Value) = #[y0, y1, y2, y3] := by rw [h0, h1, h2, h3]
theorem Bk.setl {W : World} {b : Nat} {l : List Value} {T : TypeId} (h : Bk W b l.toArray T) (i : Nat) (u : Value) : Bk (W.setCell ⟨b, i, none⟩ u) b (l.set i u).toArray T := by
  have := h.set i u
  rwa [List.setIfInBounds_toArray] at this
section
variable {ops : Array Oper} {Q : Exit → Act → World → Prop} {o : Oper} {a : Act} {w : World} {R : Value → World → Prop}
theorem rp_assign (hw : Region.wanted o (yielded ops a.tmps) = true) (x : Operand) {v : Value} (ho : o.op = .assign x) (hx : a.eval x = v) (h : R v w) : K.Runs Tryz.prog ops Q o a w R :=
  K.runs_value hw (by generalize a.eval = ρ at hx; simp [execOp, ho, go_sem, hx]) h
theorem rp_lenS (hw : Region.wanted o (yielded ops a.tmps) = true) (x : Operand) {A : Option Addr} {l c : Nat} (ho : o.op = .call { callee := .builtin .len, args := #[x], argTypes := #[39] }) (hx : a.eval x = .slice A l c) (h : R (.int .i64 l) w) : K.Runs Tryz.prog ops Q o a w R :=
  K.runs_value hw (by generalize a.eval = ρ at hx; simp [execOp, ho, go_sem, hx]) h
theorem rp_lenD (hw : Region.wanted o (yielded ops a.tmps) = true) (x : Operand) {A : Option Addr} {l c : Nat} (ho : o.op = .call { callee := .builtin .len, args := #[x], argTypes := #[22] }) (hx : a.eval x = .slice A l c) (h : R (.int .i64 l) w) : K.Runs Tryz.prog ops Q o a w R :=
  K.runs_value hw (by generalize a.eval = ρ at hx; simp [execOp, ho, go_sem, hx]) h
theorem rp_mk (hw : Region.wanted o (yielded ops a.tmps) = true) (f : FuncId) (x : Operand) {v : Value} (ho : o.op = .makeFunc (.func f) #[x] #[]) (hx : a.eval x = v) (h : R (.func (.func f) #[v] #[]) w) : K.Runs Tryz.prog ops Q o a w R :=
  K.runs_value hw (by generalize a.eval = ρ at hx; simp [execOp, ho, go_sem, hx]) h
theorem rp_faD (hw : Region.wanted o (yielded ops a.tmps) = true) (x : Operand) {g : Nat} (ho : o.op = .fieldAddr 24 x 0) (hx : a.eval x = .pointer (some ⟨g, 0, none⟩)) (h : R (.pointer (some ⟨g, 0, none⟩)) w) : K.Runs Tryz.prog ops Q o a w R :=
  K.runs_value hw (by generalize a.eval = ρ at hx; simp [execOp, ho, go_sem, hx]) h
theorem rp_ldD (hw : Region.wanted o (yielded ops a.tmps) = true) (x : Operand) {g i : Nat} {v : Value} (ho : o.op = .load 22 x) (hx : a.eval x = .pointer (some ⟨g, i, none⟩)) (hc : w.cell? ⟨g, i, none⟩ = some v) (h : R v w) : K.Runs Tryz.prog ops Q o a w R :=
  K.runs_value hw (by generalize a.eval = ρ at hx; simp [execOp, ho, go_sem, hx, hc]) h
theorem rp_ne0 (hw : Region.wanted o (yielded ops a.tmps) = true) (x : Operand) {n : Nat} {b : Bool} (ho : o.op = .binOp .neq 3 x (.const (.int .i64 0)) 3) (hx : a.eval x = .int .i64 n) (hb : decide (n ≠ 0) = b) (h : R (.bool b) w) : K.Runs Tryz.prog ops Q o a w R :=
  K.rc_neq hw x (.const (.int .i64 0)) ho hx rfl (by rw [← hb]; rw [Bool.eq_iff_iff]; simp) h
end
theorem en_isName : ∀ (args : Array Value) (w : World), (callFunc 172 args).run Tryz.prog w = .ok (.enter 172 args) w := enters_of Tryz.func172 (by kernel_rfl) rfl
theorem en_begin : ∀ (args : Array Value) (w : World), (callFunc 55 args).run Tryz.prog w = .ok (.enter 55 args) w := enters_of Tryz.func55 (by kernel_rfl) rfl
abbrev names_regionOps : Array Oper :=
  #[{ dst := some 16, op := .move (.tmp 0), type := 108, pos := "parser.go:31", after := #[], guard := none },
    { dst := some 17, op := .nilCheck (.tmp 16), type := 0, pos := "parser.go:31", after := #[{ on := 0, ground := .data }], guard := none },
    { dst := some 18, op := .fieldAddr 72 (.tmp 17) 0, type := 0, pos := "parser.go:31", after := #[{ on := 1, ground := .data }], guard := none },
    { dst := some 19, op := .move (.tmp 0), type := 108, pos := "parser.go:31", after := #[], guard := none },
    { dst := some 20, op := .nilCheck (.tmp 19), type := 0, pos := "parser.go:31", after := #[{ on := 3, ground := .data }], guard := none },
    { dst := some 21, op := .fieldAddr 72 (.tmp 20) 0, type := 0, pos := "parser.go:31", after := #[{ on := 4, ground := .data }], guard := none },
    { dst := some 22, op := .call { callee := .value (.func 172), args := #[.tmp 21], argTypes := #[70] }, type := 4, pos := "parser.go:31", after := #[{ on := 5, ground := .data }], guard := none },
    { dst := some 23, op := .move (.tmp 5), type := 39, pos := "parser.go:31", after := #[], guard := none },
    { dst := some 24, op := .call { callee := .builtin Builtin.len, args := #[.tmp 23], argTypes := #[39] }, type := 3, pos := "parser.go:31", after := #[{ on := 7, ground := .data }], guard := none },
    { dst := some 25, op := .call { callee := .value (.func 55), args := #[.tmp 18, .tmp 22, .tmp 24, .const (.int .i64 64)], argTypes := #[70, 4, 3, 3] }, type := 0, pos := "parser.go:31", after := #[{ on := 2, ground := .data }, { on := 6, ground := .data }, { on := 8, ground := .data }, { on := 6, ground := .chain }], guard := none }]
theorem names_region {Q : Exit → Act → World → Prop} {id : Nat} {a0 : Act} {W : World} {p : Nat} {ts : List Tk} {n : Nat} (h : PSt W p ts n) {A : Option Addr} {l c : Nat} (hb : K.dstB names_regionOps a0.tmps.size 10 = true) (s0 : a0.tmps.getD 0 undef = pP p) (s5 : a0.tmps.getD 5 undef = .slice A l c)
    (hok : ∀ (f : Nat → Value) (w' : World), (fun _ w' => bgR (isNm ts) l 64 ts = .ok () ∧ Below W.heap.size W w') (f 25) w' → Q .normal (K.over a0 [16, 17, 18, 19, 20, 21, 22, 23, 24, 25] f) w') (her : ∀ (a : Act) (w' : World) (z : Er), a.defers = a0.defers → (bgR (isNm ts) l 64 ts = .error z ∧ Tw p W.heap.size W w') → Q (.panic (malP z)) a w') :
    (Code.region id names_regionOps true).wp Tryz.prog Q a0 W := by
  refine K.wp_region_call (by kernel_rfl) (by kernel_rfl) hb 9 (by kernel_rfl) (by decide) (by decide) (fun o ho => by cases ho) [K.Fact.is (pP p), K.Fact.is (pP p), K.Fact.is (pP p), K.Fact.is (pP p), K.Fact.is (pP p), K.Fact.is (pP p), K.Fact.is (.bool (isNm ts)), K.Fact.is (.slice A l c), K.Fact.is (.int .i64 (l : Nat))] (fun _ w' => bgR (isNm ts) l 64 ts = .ok () ∧ Below W.heap.size W w') ?_ ?_ (fun o ho => by cases ho) ?_
  · intro i o ho hi a w hf hbl had
    have hc : i = 0 ∨ i = 1 ∨ i = 2 ∨ i = 3 ∨ i = 4 ∨ i = 5 ∨ i = 6 ∨ i = 7 ∨ i = 8 := by omega
    rcases hc with rfl | rfl | rfl | rfl | rfl | rfl | rfl | rfl | rfl
    · cases ho
      have h0 : a.tmps.getD 0 undef = pP p := (hf.slot 0 (by kernel_rfl)).trans s0
      exact rp_move rfl (.tmp 0) rfl h0 ⟨Below.refl _ _, rfl⟩
    · cases ho
      have h16 : K.vof _ a 0 = pP p := had ⟨0, .data⟩ (by simp) rfl
      exact rp_nil rfl (.tmp 16) rfl h16 ⟨Below.refl _ _, rfl⟩
    · cases ho
      have h17 : K.vof _ a 1 = pP p := had ⟨1, .data⟩ (by simp) rfl
      exact rp_fa0 rfl (.tmp 17) rfl h17 ⟨Below.refl _ _, rfl⟩
    · cases ho
      have h0 : a.tmps.getD 0 undef = pP p := (hf.slot 0 (by kernel_rfl)).trans s0
      exact rp_move rfl (.tmp 0) rfl h0 ⟨Below.refl _ _, rfl⟩
    · cases ho
      have h19 : K.vof _ a 3 = pP p := had ⟨3, .data⟩ (by simp) rfl
      exact rp_nil rfl (.tmp 19) rfl h19 ⟨Below.refl _ _, rfl⟩
    · cases ho
      have h20 : K.vof _ a 4 = pP p := had ⟨4, .data⟩ (by simp) rfl
      exact rp_fa0 rfl (.tmp 20) rfl h20 ⟨Below.refl _ _, rfl⟩
    · cases ho
      have h21 : K.vof _ a 5 = pP p := had ⟨5, .data⟩ (by simp) rfl
      exact K.runs_call rfl _ _ _ rfl en_isName #[pP p] (by rw [K.map1]; exact congrArg (fun x => #[x]) h21) ((pisName_any (h.stay hbl)).mono fun e w' ⟨he, hb2⟩ => ⟨_, he, hb2, rfl⟩)
    · cases ho
      have h5 : a.tmps.getD 5 undef = .slice A l c := (hf.slot 5 (by kernel_rfl)).trans s5
      exact rp_move rfl (.tmp 5) rfl h5 ⟨Below.refl _ _, rfl⟩
    · cases ho
      have h23 : K.vof _ a 7 = .slice A l c := had ⟨7, .data⟩ (by simp) rfl
      exact rp_lenS rfl (.tmp 23) rfl h23 ⟨Below.refl _ _, rfl⟩
  · intro o ho a w hf hbl hF
    cases ho
    have h2 : K.vof _ a 2 = pP p := hF 2 (by omega)
    have h6 : K.vof _ a 6 = .bool (isNm ts) := hF 6 (by omega)
    have h8 : K.vof _ a 8 = .int .i64 (l : Nat) := hF 8 (by omega)
    refine runs_calls rfl _ _ _ rfl en_begin #[pP p, .bool (isNm ts), .int .i64 (l : Nat), .int .i64 64] (by rw [map4]; exact congr4a h2 h6 h8 rfl) ((pbegin_any (h.stay hbl) (isNm ts) l 64 l 64 rfl rfl).mono fun e w' hw => ?_)
    rcases hw with ⟨hg, he, hb2⟩ | ⟨z, hg, he, ht⟩
    · exact .inl ⟨_, he, hg, hbl.trans (hb2.mono hbl.size)⟩
    · exact .inr ⟨malP z, he, her a w' z hf.1 ⟨hg, (Tw.of hbl : Tw p _ W w).step hbl.size ht⟩⟩
  · intro a w hf hC h1
    rw [K.over_ofB hf [16, 17, 18, 19, 20, 21, 22, 23, 24, 25] (by kernel_rfl)]
    exact hok (fun d => a.tmps.getD d undef) w hC
end Go.Proofs.YthjoelpfmimedaaGreatDoor
namespace Go.Proofs.YthjoelpfmimedaaGreatDoor
open Go.RowKit Go.Maps
theorem run_makeMap_hint {P : Program} (t k e : TypeId) (kd : IntKind) (n : Int) (ht : P.underlying t = some (.map k e)) (w : World) :
    (Instr.makeMap t (some (.int kd n))).run P w = .ok (.map (some w.heap.size)) (w.alloc (.map #[] 0)) := by
  simp [Instr.makeMap, run_underlying ht]; rfl
theorem plainElem_bool_inv {H : Type} {P : Program} {e : TypeId} (he : P.underlying e = some .bool) {v : Value} {z : DataW H × List MemPlace} (h : plainElem P e v = some z) : ∃ x, v = .bool x ∧ z = (.lit (.bool x), []) := by
  unfold plainElem at h
  rw [he] at h
  cases v <;> simp at h
  exact ⟨_, rfl, h.symm⟩
theorem at_fold {H : Type} (u z : DataW H) (k : Lit) : ∀ (acc : List Lit) (m : DataW H), IsMap m → (∀ x ∈ acc, WideAt.IsKeyLit x) → (acc.foldl (fun m x => m.put x u) m).atKey k z = if acc.any (fun x => x.sameKey k) then u else m.atKey k z
  | [], m, _, _ => by simp
  | x :: r, m, hm, h => by
    rw [List.foldl_cons, at_fold u z k r (m.put x u) (hm.put x u) (fun y hy => h y (by simp [hy])), List.any_cons]
    by_cases e : k = x
    · subst e
      rw [atKey_put_same hm (h k (by simp)), WideAt.sameKey_self (h k (by simp))]
      simp
    · rw [atKey_put_other e, sameKey_ne (fun e' => e e'.symm)]
      simp
instance decBA : DecidableEq ByteArray := fun a b => decidable_of_iff (a.data = b.data) ⟨fun h => by cases a; cases b; simp at h; subst h; rfl, fun h => by rw [h]⟩
instance memBA (s : ByteArray) (l : List ByteArray) : Decidable (s ∈ l) := decidable_of_iff (l.any (fun a => decide (a = s)) = true) (by simp)
def lits (l : List ByteArray) : List Lit := l.map fun s => .string s.data.toList
def setD (l : List ByteArray) : DataW Unit := setOf (.lit (.bool true)) (lits l)
theorem lit_inj {a b : ByteArray} : (Lit.string a.data.toList = Lit.string b.data.toList) ↔ a = b := by
  constructor
  · intro h
    injection h with h
    obtain ⟨a⟩ := a; obtain ⟨b⟩ := b
    simp only [ByteArray.mk.injEq]
    exact Array.toList_inj.1 h
  · rintro rfl; rfl
theorem key_lit (s : ByteArray) : WideAt.IsKeyLit (.string s.data.toList) := by first | exact trivial | simp [WideAt.IsKeyLit]
theorem any_lits (l : List ByteArray) (s : ByteArray) : (lits l).any (fun x => x.sameKey (.string s.data.toList)) = decide (s ∈ l) := by
  unfold lits
  induction l with
  | nil => simp
  | cons a r ih =>
    rw [List.map_cons, List.any_cons, ih]
    by_cases e : a = s
    · subst e; rw [WideAt.sameKey_self (key_lit a)]; simp
    · rw [sameKey_ne (fun h => e (lit_inj.1 h))]
      have e2 : ¬ s = a := fun h => e h.symm
      simp [e2]
theorem setD_at (l : List ByteArray) (s : ByteArray) : (setD l).atKey (.string s.data.toList) (.lit (.bool false)) = .lit (.bool (decide (s ∈ l))) := by
  unfold setD setOf
  rw [at_fold _ _ _ _ _ isMap_empty (fun x hx => by obtain ⟨s, _, rfl⟩ := List.mem_map.1 hx; exact key_lit s), any_lits]
  by_cases h : s ∈ l
  · simp [h]
  · simp [h, DataW.atKey]
theorem setD_snoc (l : List ByteArray) (s : ByteArray) : setD (l ++ [s]) = (setD l).put (.string s.data.toList) (.lit (.bool true)) := by
  unfold setD lits; rw [List.map_append]; exact setOf_snoc _ _ _
theorem nodup_snoc {l : List ByteArray} {k : Nat} (h : k < l.length) : (l.take (k + 1)).Nodup ↔ (l.take k).Nodup ∧ l[k] ∉ l.take k := by
  rw [List.take_succ_eq_append_getElem h, List.nodup_append]
  constructor
  · rintro ⟨h1, _, h3⟩
    exact ⟨h1, fun hm => h3 _ hm _ (by simp) rfl⟩
  · rintro ⟨h1, h2⟩
    exact ⟨h1, by simp, fun a ha b hb => by simp at hb; subst hb; exact fun e => h2 (e ▸ ha)⟩
theorem nodup_take {l : List ByteArray} {k : Nat} (h : l.Nodup) : (l.take k).Nodup := h.sublist (List.take_sublist _ _)
theorem wpList_lookup_own_bool {H : Type} {P : Program} (w : World) {ops : Array Oper} {rest : List Oper} {o : Oper} {a : Act} {Q : Exit → Act → World → Prop}
    (hg : o.guard = none) (m x : Operand) (t : TypeId) (hop : o.op = Op.lookup t m x false)
    (k e : TypeId) (K : Keyed P k) (ht : P.underlying t = some (.map k e)) (he : P.underlying e = some .bool) (hz : (zeroValue e).run P w = .ok (.bool false) w) (b n : Nat) (D : DataW H)
    (hm : a.eval m = .map (some b)) (hown : w.ownsMap P k (plainElem P e) b n D) (key : Value) (kl : Lit) (hx : a.eval x = key) (hkey : keyOf P k key = some kl)
    (y : Bool) (hy : D.atKey kl (.lit (.bool false)) = .lit (.bool y)) (hK : wpList P ops Q rest (a.put o.dst (.bool y)) w) :
    wpList P ops Q (o :: rest) a w := by
  refine wpList_plain hg fun K' hK' => ?_
  obtain ⟨v, ps, hrun, hv⟩ := hown.lookup K ht hz (plainElem_bool he false) hkey
  obtain ⟨c, rfl, hc⟩ := plainElem_bool_inv he hv
  simp only [Prod.mk.injEq] at hc
  rw [hy] at hc
  obtain ⟨hc, _⟩ := hc
  injection hc with hc
  injection hc with hc
  subst hc
  unfold Oper.wp
  simp [execOp, hop, hm, hx, hrun, Result.andThen]
  exact hK' _ _ hK
theorem keyLaw : Keyed Tryz.prog 9 := string_keyed Tryz.underlying9
theorem zeroB (w : World) : (zeroValue 4).run Tryz.prog w = .ok (.bool false) w := by kernel_rfl
set_option maxHeartbeats 1000000 in
theorem distinct_any (K : Option Addr) (lk ck : Nat) (keys : List ByteArray) (w : World) (B : Nat) (hlk : keys.length = lk) (hbk : lk * 16 ≤ 140737488351232) (hks : ∀ s ∈ keys, s.size ≤ 140737488351232) (hK : KeysAt w B K keys) (hB : B ≤ w.heap.size) :
    Calls Tryz.prog 282 #[.slice K lk ck] w fun e w' => e = .returned (.bool (decide keys.Nodup)) ∧ Below w.heap.size w w' := by
  have HL := Lib.hid hlk
  have HS := Lib.hid hks
  have HK := Lib.hid hK
  clear hlk hks hK
  have hmk := fun w => run_makeMap_hint (P := Tryz.prog) 286 9 4 .i64 lk Tryz.underlying286 w
  go_enter Tryz.func282, Tryz.ntmps282
  go_wp2_with fail
  clear hmk
  go_loopw [11] (fun i wr => ∃ j : Nat, j ≤ lk ∧ i = .int .i64 j ∧ (keys.take j).Nodup ∧ wr.ownsMap Tryz.prog 9 (plainElem Tryz.prog 4) w.heap.size j (setD (keys.take j)) ∧ Below w.heap.size w wr) (fun i _ => lk - (intOf i).toNat)
  case atStart => exact ⟨0, Nat.zero_le _, rfl, List.nodup_nil, World.ownsMap_made _ _ _ _, (Below.refl _ _).alloc (Nat.le_refl _) _⟩
  case round =>
    obtain ⟨j, hj, rfl, hnd, hown, hb⟩ := hrel
    have HND := Lib.hid hnd
    have HOWN := Lib.hid hown
    have HB := Lib.hid hb
    clear hnd hown
    have hlm : (lk : Int) ≤ 140737488351232 := by omega
    by_cases hlt : j < lk
    · obtain ⟨a, rfl, hab, hc⟩ := HK.out (by have := HL.out; omega)
      have hjl : j < keys.length := by have := HL.out; omega
      have hcell := (hb.cell (p := a.add j) (by rw [add_block]; omega)).trans (hc j _ (List.getElem?_eq_getElem hjl))
      have hsz := HS.out _ (List.getElem_mem hjl)
      have HSN := Lib.hid (nodup_snoc hjl)
      have HTK : Hid (keys.take (j + 1) = keys.take j ++ [keys[j]]) := Lib.hid (List.take_succ_eq_append_getElem hjl)
      generalize keys[j] = s at *
      have hat := setD_at (keys.take j) s
      have HAT := Lib.hid hat
      clear hat hc hb
      by_cases hm : s ∈ keys.take j
      · have hy : decide (s ∈ keys.take j) = true := by simpa using hm
        rw [hy] at HAT
        have HNO : Hid (decide keys.Nodup = false) := Lib.hid (by
          simp only [decide_eq_false_iff_not]
          intro h
          exact (HSN.out.1 (nodup_take h)).2 hm)
        clear hm hy
        go_wp2_with (at_lookup; refine wpList_lookup_own_bool _ rfl _ _ 286 rfl 9 4 keyLaw Tryz.underlying286 Tryz.underlying4 (zeroB _) w.heap.size j _ rfl HOWN.out _ _ rfl (WideMaps.keyOf_string_mk Tryz.underlying9 (by unfold maxLen; omega)) _ HAT.out ?_)
        go_ret
        exact ⟨by rw [HNO.out]; rfl, HB.out⟩
      · have hy : decide (s ∈ keys.take j) = false := by simpa using hm
        rw [hy] at HAT
        have HND1 : Hid (keys.take (j + 1)).Nodup := Lib.hid (HSN.out.2 ⟨HND.out, hm⟩)
        clear hm hy
        go_wp2_with (first
          | (at_lookup; refine wpList_lookup_own_bool _ rfl _ _ 286 rfl 9 4 keyLaw Tryz.underlying286 Tryz.underlying4 (zeroB _) w.heap.size j _ rfl HOWN.out _ _ rfl (WideMaps.keyOf_string_mk Tryz.underlying9 (by unfold maxLen; omega)) _ HAT.out ?_)
          | (at_mapUpdate; refine wpList_mapUpdate_own _ rfl _ _ _ 286 rfl 9 4 keyLaw Tryz.underlying286 _ w.heap.size j _ rfl HOWN.out (by unfold maxLen; omega) _ _ _ rfl rfl (WideMaps.keyOf_string_mk Tryz.underlying9 (by unfold maxLen; omega)) _ [] (plainElem_bool Tryz.underlying4 true) ?_; intro w1 hown1 hgrow1))
        go_roundw
        case rel => exact ⟨j + 1, by omega, by go_num, HND1.out, by rw [HTK.out, setD_snoc]; exact hown1, HB.out.grown hgrow1 HB.out.size (fun k e => by cases e; exact Nat.le_refl _)⟩
        case measure => simp [intOf]; omega
    · have HJ : Hid (decide keys.Nodup = true) := Lib.hid (by
        have := HND.out
        rw [List.take_of_length_le (by have := HL.out; omega)] at this
        simpa using this)
      clear hb
      go_wp2_with fail
      go_ret
      exact ⟨by rw [HJ.out]; rfl, HB.out⟩
end Go.Proofs.YthjoelpfmimedaaGreatDoor
namespace Go.Proofs.YthjoelpfmimedaaGreatDoor
end Go.Proofs.YthjoelpfmimedaaGreatDoor
namespace Go.Proofs.YthjoelpfmimedaaGreatDoor
open Go.RowKit
def VT.keys : VT → List ByteArray | .mk _ _ _ _ ks => ks
def VT.items : VT → List VT | .mk _ _ _ is _ => is
theorem Rd.shape {w : World} {B : Nat} {v : Value} {t : VT} (h : Rd w B v t) : ∃ (k n : Int) (s : ByteArray) (A : Option Addr) (li ci : Nat) (K : Option Addr) (lk ck : Nat), v = .agg #[.int .i64 k, .int .i64 n, .string s, .slice A li ci, .slice K lk ck] := by
  cases h with
  | mk V hk hn hs hks hli hlk hbi hbk hA hr hK => exact ⟨_, _, _, _, _, _, _, _, _, rfl⟩
end Go.Proofs.YthjoelpfmimedaaGreatDoor
namespace Go.Proofs.YthjoelpfmimedaaGreatDoor
open Go.RowKit
theorem int_any (n : Int) (w : World) : Calls Tryz.prog 271 #[.int .i64 n] w fun e w' => e = .returned (.agg #[.int .i64 2, .int .i64 n, .string ⟨#[]⟩, .slice none 0 0, .slice none 0 0]) ∧ Below w.heap.size w w' := by
  go_enter Tryz.func271, Tryz.ntmps271
  go_wp2_with fail
  exact bodyPost_ret (v := .agg #[.int .i64 2, .int .i64 n, .string ⟨#[]⟩, .slice none 0 0, .slice none 0 0]) (by simp [results, Tryz.results271, go_sem]) rfl ⟨rfl, (Below.refl _ _).alloc (Nat.le_refl _) _⟩
theorem text_any (s : ByteArray) (w : World) : Calls Tryz.prog 272 #[.string s] w fun e w' => e = .returned (.agg #[.int .i64 3, .int .i64 0, .string s, .slice none 0 0, .slice none 0 0]) ∧ Below w.heap.size w w' := by
  go_enter Tryz.func272, Tryz.ntmps272
  go_wp2_with fail
  exact bodyPost_ret (v := .agg #[.int .i64 3, .int .i64 0, .string s, .slice none 0 0, .slice none 0 0]) (by simp [results, Tryz.results272, go_sem]) rfl ⟨rfl, (Below.refl _ _).alloc (Nat.le_refl _) _⟩
theorem enum_any (s : ByteArray) (w : World) : Calls Tryz.prog 288 #[.string s] w fun e w' => e = .returned (.agg #[.int .i64 4, .int .i64 0, .string s, .slice none 0 0, .slice none 0 0]) ∧ Below w.heap.size w w' := by
  go_enter Tryz.func288, Tryz.ntmps288
  go_wp2_with fail
  exact bodyPost_ret (v := .agg #[.int .i64 4, .int .i64 0, .string s, .slice none 0 0, .slice none 0 0]) (by simp [results, Tryz.results288, go_sem]) rfl ⟨rfl, (Below.refl _ _).alloc (Nat.le_refl _) _⟩
def yesI (y : Bool) : Int := if y then 1 else 0
theorem bool_any (y : Bool) (w : World) : Calls Tryz.prog 287 #[.bool y] w fun e w' => e = .returned (.agg #[.int .i64 1, .int .i64 (yesI y), .string ⟨#[]⟩, .slice none 0 0, .slice none 0 0]) ∧ Below w.heap.size w w' := by
  cases y
  · go_enter Tryz.func287, Tryz.ntmps287
    go_wp2_with fail
    exact bodyPost_ret (v := .agg #[.int .i64 1, .int .i64 0, .string ⟨#[]⟩, .slice none 0 0, .slice none 0 0]) (by simp [results, Tryz.results287, go_sem]) rfl ⟨rfl, (Below.refl _ _).alloc (Nat.le_refl _) _⟩
  · go_enter Tryz.func287, Tryz.ntmps287
    go_wp2_with fail
    exact bodyPost_ret (v := .agg #[.int .i64 1, .int .i64 1, .string ⟨#[]⟩, .slice none 0 0, .slice none 0 0]) (by simp [results, Tryz.results287, go_sem]) rfl ⟨rfl, (Below.refl _ _).alloc (Nat.le_refl _) _⟩
end Go.Proofs.YthjoelpfmimedaaGreatDoor
