
/-
  Texts joined: YMem YMake YParts YCmp YRight D3 EQ3.
-/
import Derived.Test.YthjoelpfmimedaaGreatDoorZj5
import Derived.Test.YthjoelpfmimedaaGreatDoorZj6
import Derived.Test.YthjoelpfmimedaaGreatDoorZj21
import Derived.ArgAppend
import Derived.DataElems
import Derived.Shelf.Abstract
import Derived.Test.YthjoelpfmimedaaGreatDoorZj1
namespace Go.Proofs.YthjoelpfmimedaaGreatDoor.K
open Go.RowKit
def IntsAt (w : World) (B : Nat) (A : Option Addr) (xs : Ws) : Prop := 0 < xs.length → ∃ a, A = some a ∧ a.block < B ∧ ∀ (i : Nat) (x : Int), xs[i]? = some x → w.cell? (a.add i) = some (.int .i64 x)
theorem IntsAt.kept {w w' : World} {B : Nat} {A : Option Addr} {xs : Ws} (h : IntsAt w B A xs) (hb : Below B w w') : IntsAt w' B A xs := fun h0 => by
  obtain ⟨a, e, ha, hc⟩ := h h0
  exact ⟨a, e, ha, fun i x hx => (World.cell?_of_block (w := w) (hb.block _ (by rw [add_block]; exact ha))).trans (hc i x hx)⟩
theorem IntsAt.mono {w : World} {B B' : Nat} {A : Option Addr} {xs : Ws} (h : IntsAt w B A xs) (hB : B ≤ B') : IntsAt w B' A xs := fun h0 => by
  obtain ⟨a, e, ha, hc⟩ := h h0
  exact ⟨a, e, Nat.lt_of_lt_of_le ha hB, hc⟩
theorem IntsAt.stay {w w' : World} {A : Option Addr} {xs : Ws} (h : IntsAt w w.heap.size A xs) (hb : Below w.heap.size w w') : IntsAt w' w'.heap.size A xs := (h.kept hb).mono hb.size
theorem IntsAt.nil (w : World) (B : Nat) (A : Option Addr) : IntsAt w B A [] := fun h => absurd h (Nat.lt_irrefl _)
def subA (A : Option Addr) (k c : Nat) : Option Addr := A.map fun a => if c = k then a else a.add k
theorem IntsAt.drop {w : World} {B : Nat} {A : Option Addr} {xs : Ws} (h : IntsAt w B A xs) (k c : Nat) (hc : xs.length ≤ c) : IntsAt w B (subA A k c) (xs.drop k) := fun h0 => by
  rw [List.length_drop] at h0
  obtain ⟨a, rfl, ha, hx⟩ := h (by omega)
  refine ⟨a.add k, by unfold subA; simp only [Option.map_some, Option.some.injEq]; exact if_neg (by omega), by rw [add_block]; exact ha, fun i x hi => ?_⟩
  rw [Addr.add_add]
  exact hx _ _ (by rw [← hi, List.getElem?_drop])
def SlV (w : World) (B : Nat) (v : Value) (xs : Ws) : Prop := ∃ A c, v = .slice A xs.length c ∧ xs.length ≤ c ∧ IntsAt w B A xs
def RefV (w : World) (B : Nat) (v : Value) (n : ByteArray) (xs : Ws) : Prop := ∃ A c, v = .agg #[.string n, .slice A xs.length c] ∧ xs.length ≤ c ∧ IntsAt w B A xs
theorem SlV.kept {w w' : World} {B : Nat} {v : Value} {xs : Ws} (h : SlV w B v xs) (hb : Below B w w') : SlV w' B v xs := by
  obtain ⟨A, c, e, hc, h⟩ := h; exact ⟨A, c, e, hc, h.kept hb⟩
theorem SlV.mono {w : World} {B B' : Nat} {v : Value} {xs : Ws} (h : SlV w B v xs) (hB : B ≤ B') : SlV w B' v xs := by
  obtain ⟨A, c, e, hc, h⟩ := h; exact ⟨A, c, e, hc, h.mono hB⟩
theorem RefV.kept {w w' : World} {B : Nat} {v : Value} {n : ByteArray} {xs : Ws} (h : RefV w B v n xs) (hb : Below B w w') : RefV w' B v n xs := by
  obtain ⟨A, c, e, hc, h⟩ := h; exact ⟨A, c, e, hc, h.kept hb⟩
theorem RefV.mono {w : World} {B B' : Nat} {v : Value} {n : ByteArray} {xs : Ws} (h : RefV w B v n xs) (hB : B ≤ B') : RefV w B' v n xs := by
  obtain ⟨A, c, e, hc, h⟩ := h; exact ⟨A, c, e, hc, h.mono hB⟩
theorem RefV.stay {w w' : World} {v : Value} {n : ByteArray} {xs : Ws} (h : RefV w w.heap.size v n xs) (hb : Below w.heap.size w w') : RefV w' w'.heap.size v n xs := (h.kept hb).mono hb.size
theorem SlV.stay {w w' : World} {v : Value} {xs : Ws} (h : SlV w w.heap.size v xs) (hb : Below w.heap.size w w') : SlV w' w'.heap.size v xs := (h.kept hb).mono hb.size
def BxR (W : World) (b : Nat) (c0 c1 : Value) : Prop := W.heap[b]? = some (.cells #[c0, c1] 50 (0, 0))
theorem BxR.cells {W : World} {b : Nat} {c0 c1 : Value} (h : BxR W b c0 c1) : W.cell? ⟨b, 0, none⟩ = some c0 ∧ W.cell? ⟨b, 1, none⟩ = some c1 := by
  refine ⟨?_, ?_⟩ <;> rw [cell_of_row _ _ _ _ _ _ h] <;> rfl
theorem BxR.frz {W : World} {b : Nat} {c0 c1 : Value} (h : BxR W b c0 c1) (i : Nat) : W.frozen? ⟨b, i, none⟩ = false := by
  unfold BxR at h; simp [World.frozen?, h]
theorem BxR.s0 {W : World} {b : Nat} {c0 c1 : Value} (h : BxR W b c0 c1) (u : Value) : BxR (W.setCell ⟨b, 0, none⟩ u) b u c1 := by
  unfold BxR at h ⊢; simp [World.setCell, Array.getElem?_modify, h]
theorem BxR.s1 {W : World} {b : Nat} {c0 c1 : Value} (h : BxR W b c0 c1) (u : Value) : BxR (W.setCell ⟨b, 1, none⟩ u) b c0 u := by
  unfold BxR at h ⊢; simp [World.setCell, Array.getElem?_modify, h]
theorem BxR.two {W : World} {b : Nat} {c0 c1 : Value} (h : BxR W b c0 c1) (u0 u1 : Value) : BxR ((W.setCell ⟨b, 0, none⟩ u0).setCell ⟨b, 1, none⟩ u1) b u0 u1 := (h.s0 u0).s1 u1
theorem BxR.lt {W : World} {b : Nat} {c0 c1 : Value} (h : BxR W b c0 c1) : b < W.heap.size := by
  unfold BxR at h
  rcases Nat.lt_or_ge b W.heap.size with h' | h'
  · exact h'
  · rw [Array.getElem?_eq_none h'] at h; cases h
theorem BxR.kept {W W' : World} {b : Nat} {c0 c1 : Value} (h : BxR W b c0 c1) (hb : W'.heap[b]? = W.heap[b]?) : BxR W' b c0 c1 := hb.trans h
theorem BxR.stay {W W' : World} {b : Nat} {c0 c1 : Value} (h : BxR W b c0 c1) (hb : Below W.heap.size W W') : BxR W' b c0 c1 := h.kept (hb.block b h.lt)
theorem BxR.new (W : World) (c0 c1 : Value) : BxR (W.alloc (.cells #[c0, c1] 50 (0, 0))) W.heap.size c0 c1 := heap_alloc_new _ _
theorem BxR.alloc {W : World} {b : Nat} {c0 c1 : Value} (h : BxR W b c0 c1) (o : Obj) : BxR (W.alloc o) b c0 c1 := h.stay ((Below.refl _ _).alloc (Nat.le_refl _) _)
theorem BxR.args (w : World) (c0 c1 : Value) : let W := (w.alloc (.cells #[c0, c1] 50 (0, 0))).alloc (.cells #[.string ⟨#[]⟩, .slice none 0 0] 50 (0, 0))
    BxR W w.heap.size c0 c1 ∧ BxR W (w.heap.size + 1) (.string ⟨#[]⟩) (.slice none 0 0) ∧ Below w.heap.size w W ∧ W.heap.size = w.heap.size + 2 := by
  refine ⟨(BxR.new _ _ _).alloc _, ?_, ((Below.refl _ _).alloc (Nat.le_refl _) _).alloc (by simp) _, by simp⟩
  have := BxR.new (w.alloc (.cells #[c0, c1] 50 (0, 0))) (.string ⟨#[]⟩) (.slice none 0 0)
  simpa using this
theorem BxR.both (w : World) (c0 c1 d0 d1 : Value) : let W := (w.alloc (.cells #[c0, c1] 50 (0, 0))).alloc (.cells #[d0, d1] 50 (0, 0))
    BxR W w.heap.size c0 c1 ∧ BxR W (w.heap.size + 1) d0 d1 ∧ Below w.heap.size w W ∧ W.heap.size = w.heap.size + 2 := by
  refine ⟨(BxR.new _ _ _).alloc _, ?_, ((Below.refl _ _).alloc (Nat.le_refl _) _).alloc (by simp) _, by simp⟩
  have := BxR.new (w.alloc (.cells #[c0, c1] 50 (0, 0))) d0 d1
  simpa using this
def inC (xs : Ws) : List Value := xs.map (Value.int .i64)
def OwnI (w : World) (base : Nat) (v : Value) (xs : Ws) : Prop := w.ownsRow base 3 1 v xs.length (inC xs)
theorem row_kept {w w' : World} {base : Nat} {e : TypeId} {size : Nat} {v : Value} {n : Nat} {xs : List Value} (h : w.ownsRow base e size v n xs) (hb : ∀ g, base ≤ g → g < w.heap.size → v.ownBlock = some g → w'.heap[g]? = w.heap[g]?) : w'.ownsRow base e size v n xs := by
  refine ⟨h.1, h.2.imp id ?_⟩
  rintro ⟨g, cap, cur, rfl, e2, e3, r⟩
  have hg : g < w.heap.size := by
    rcases Nat.lt_or_ge g w.heap.size with h' | h'
    · exact h'
    · rw [Array.getElem?_eq_none h'] at e3; cases e3
  exact ⟨g, cap, cur, rfl, e2, (hb g e2 hg rfl).trans e3, r⟩
theorem OwnI.stay {w w' : World} {base : Nat} {v : Value} {xs : Ws} (h : OwnI w base v xs) (hb : Below w.heap.size w w') : OwnI w' base v xs := row_kept h fun g _ hg _ => hb.block g hg
theorem OwnI.nil (w : World) (base : Nat) : OwnI w base (.slice none 0 0) [] := ⟨rfl, .inl ⟨rfl, rfl⟩⟩
theorem OwnI.lt {w : World} {base : Nat} {v : Value} {xs : Ws} (h : OwnI w base v xs) : ∀ k, v.ownBlock = some k → base ≤ k ∧ k < w.heap.size := World.ownsRow.lt h
theorem OwnI.one (w : World) (x : Int) : OwnI (w.alloc (.cells #[.int .i64 x] 3 (0, 0))) w.heap.size (.slice (some ⟨w.heap.size, 0, none⟩) 1 1) [x] := by
  refine ⟨rfl, .inr ⟨w.heap.size, 1, #[.int .i64 x], rfl, Nat.le_refl _, heap_alloc_new _ _, Nat.le_refl _, by decide, rfl, rfl⟩⟩
theorem OwnI.zero (w : World) : OwnI (w.alloc (.cells #[] 3 (0, 0))) w.heap.size (.slice (some ⟨w.heap.size, 0, none⟩) 0 0) [] := by
  refine ⟨rfl, .inr ⟨w.heap.size, 0, #[], rfl, Nat.le_refl _, heap_alloc_new _ _, Nat.le_refl _, by decide, rfl, rfl⟩⟩
def Full (v : Value) : Prop := v = .slice none 0 0 ∨ ∃ g n, v = .slice (some ⟨g, 0, none⟩) n n
def Fact.row (base : Nat) (xs : Ws) : Fact := ⟨fun u w => (OwnI w base u xs ∧ base ≤ w.heap.size) ∧ Full u, fun _ _ _ h hb => ⟨⟨h.1.1.stay hb, Nat.le_trans h.1.2 hb.size⟩, h.2⟩⟩
section
variable {ops : Array Oper} {Q : Exit → Act → World → Prop} {o : Oper} {a : Act} {w : World} {R : Value → World → Prop}
def RefB (w : World) (b : Nat) (n : ByteArray) (xs : Ws) : Prop := ∃ A c, BxR w b (.string n) (.slice A xs.length c) ∧ xs.length ≤ c ∧ IntsAt w w.heap.size A xs
theorem RefB.stay {w w' : World} {b : Nat} {n : ByteArray} {xs : Ws} (h : RefB w b n xs) (hb : Below w.heap.size w w') : RefB w' b n xs := by
  obtain ⟨A, c, h1, h2, h3⟩ := h; exact ⟨A, c, h1.stay hb, h2, h3.stay hb⟩
theorem RefB.v {w : World} {b : Nat} {n : ByteArray} {xs : Ws} (h : RefB w b n xs) : ∃ c0 c1, BxR w b c0 c1 ∧ RefV w w.heap.size (.agg #[c0, c1]) n xs := by
  obtain ⟨A, c, h1, h2, h3⟩ := h; exact ⟨_, _, h1, A, c, rfl, h2, h3⟩
theorem IntsAt.off {w : World} {B g : Nat} {A : Option Addr} {xs : Ws} (h : IntsAt w B A xs) {s : ByteArray} {A' : Option Addr} {l c : Nat} (hb : BxR w g (.string s) (.slice A' l c)) (j : Nat) (u : Value) : IntsAt (w.setCell ⟨g, j, none⟩ u) B A xs := fun h0 => by
  obtain ⟨a, e, ha, hc⟩ := h h0
  refine ⟨a, e, ha, fun i x hx => ?_⟩
  have hx' := hc i x hx
  by_cases hg : (a.add i).block = g
  · exfalso
    rw [show a.add i = ⟨g, (a.add i).off, (a.add i).spot⟩ by rw [← hg]] at hx'
    unfold BxR at hb
    generalize (a.add i).off = k at hx'
    generalize (a.add i).spot = sp at hx'
    unfold World.cell? at hx'
    rw [hb] at hx'
    match k, hx' with
    | 0, h => simp at h
    | 1, h => simp at h
    | k + 2, h => simp at h
  · exact (World.cell?_of_block (w := w) (Below.heap_setCell w _ _ _ hg)).trans hx'
theorem RefB.put {w : World} {g : Nat} {s : ByteArray} {A' : Option Addr} {l c : Nat} (hb : BxR w g (.string s) (.slice A' l c)) {n : ByteArray} {xs : Ws} {A : Option Addr} {d : Nat} (hd : xs.length ≤ d) (h : IntsAt w w.heap.size A xs) :
    RefB ((w.setCell ⟨g, 0, none⟩ (.string n)).setCell ⟨g, 1, none⟩ (.slice A xs.length d)) g n xs := by
  refine ⟨A, d, hb.two _ _, hd, ?_⟩
  have h1 := (h.off hb 0 (.string n)).off (hb.s0 (.string n)) 1 (.slice A xs.length d)
  simpa using h1
theorem RefB.off {w : World} {g b : Nat} {s : ByteArray} {A' : Option Addr} {l c : Nat} (hb : BxR w g (.string s) (.slice A' l c)) {n : ByteArray} {xs : Ws} (h : RefB w b n xs) (hn : b ≠ g) (j : Nat) (u : Value) : RefB (w.setCell ⟨g, j, none⟩ u) b n xs := by
  obtain ⟨A, d, h1, h2, h3⟩ := h
  exact ⟨A, d, h1.kept (Below.heap_setCell w _ _ _ hn), h2, by simpa using h3.off hb j u⟩
theorem str_eq (n m : ByteArray) : (n.toList == m.toList) = decide (n = m) := by
  rw [Lib.toList_data, Lib.toList_data]
  by_cases h : n = m
  · subst h; simp
  · have : ¬ n.data = m.data := fun e => h (by cases n; cases m; simp at e; rw [e])
    simp [h, this]
end
end Go.Proofs.YthjoelpfmimedaaGreatDoor.K
namespace Go.Proofs.YthjoelpfmimedaaGreatDoor.K
open Go.RowKit
end Go.Proofs.YthjoelpfmimedaaGreatDoor.K
namespace Go.Proofs.YthjoelpfmimedaaGreatDoor.K
open Go.RowKit
def BoolPost (b : Bool) (w : World) (e : Ending) (w' : World) : Prop := e = .returned (.bool b) ∧ Below w.heap.size w w'
def OptPost (n : ByteArray) (o : Option Ws) (w : World) (e : Ending) (w' : World) : Prop :=
  (∃ u, e = .returned (.tuple #[u, .bool o.isSome]) ∧ match o with | some xs => RefV w' w'.heap.size u n xs | none => u = .agg #[.string ⟨#[]⟩, .slice none 0 0]) ∧ Below w.heap.size w w'
theorem OptPost.none {n : ByteArray} {w w' : World} {e : Ending} (h : OptPost n none w e w') : e = .returned (.tuple #[.agg #[.string ⟨#[]⟩, .slice none 0 0], .bool false]) ∧ Below w.heap.size w w' := by
  obtain ⟨⟨u, rfl, rfl⟩, hb⟩ := h; exact ⟨rfl, hb⟩
theorem OptPost.some {n : ByteArray} {zs : Ws} {w w' : World} {e : Ending} (h : OptPost n (some zs) w e w') : (∃ u, e = .returned (.tuple #[u, .bool true]) ∧ RefV w' w'.heap.size u n zs) ∧ Below w.heap.size w w' := by
  obtain ⟨⟨u, rfl, hu⟩, hb⟩ := h; exact ⟨⟨u, rfl, hu⟩, hb⟩
end Go.Proofs.YthjoelpfmimedaaGreatDoor.K
namespace Go.Proofs.YthjoelpfmimedaaGreatDoor.K
open Go.RowKit
theorem ints_round {w wr : World} {B k : Nat} {A : Option Addr} {xs : Ws} (h : IntsAt w B A xs) (hb : Below B w wr) (hk : k < xs.length) : ∃ a x, A = some a ∧ a.block < B ∧ xs[k]? = some x ∧ wr.cell? (a.add k) = some (.int .i64 x) := by
  obtain ⟨a, e, ha, hc⟩ := (h.kept hb) (by omega)
  exact ⟨a, xs[k], e, ha, List.getElem?_eq_getElem hk, hc k _ (List.getElem?_eq_getElem hk)⟩
theorem cell_past {W : World} {a : Addr} {v : Value} (h : W.cell? a = some v) (ha : a.block < W.heap.size) (x : Past W) : x.w.cell? a = some v := (World.cell?_of_block (w := W) (x.b.block _ ha)).trans h
theorem take_one {xs : Ws} {k : Nat} {x : Int} (h : xs[k]? = some x) : xs.take (k + 1) = xs.take k ++ [x] := by
  obtain ⟨h1, h2⟩ := List.getElem?_eq_some_iff.1 h
  rw [← h2]; exact (List.take_append_getElem h1).symm
theorem drop_one {xs : Ws} {k : Nat} {x : Int} (h : xs[k]? = some x) : xs.drop k = x :: xs.drop (k + 1) := by
  obtain ⟨h1, h2⟩ := List.getElem?_eq_some_iff.1 h
  rw [← h2]; exact List.drop_eq_getElem_cons h1
set_option maxRecDepth 100000 in
set_option maxHeartbeats 2000000 in
theorem same_any (xs ys : Ws) (v u : Value) (w : World) (hx : SlV w w.heap.size v xs) (hy : SlV w w.heap.size u ys) (hl : xs.length ≤ 1000000) : Calls Tryz.prog 130 #[v, u] w (BoolPost (decide (xs = ys)) w) := by
  obtain ⟨A, c, rfl, hc, hi⟩ := hx
  obtain ⟨B, d, rfl, hd, hj⟩ := hy
  by_cases hlen : xs.length = ys.length
  · have HA := Lib.hid hi
    have HB := Lib.hid hj
    have HLEN : Hid ((xs.length : Int) ≤ 1000000) := Lib.hid (by omega)
    have HL := Lib.hid hlen
    rw [← hlen]
    clear hc hi hd hj hl hlen
    go_enter Tryz.func130, Tryz.ntmps130
    go_wp2_with fail
    go_loopw [5] (fun i wr => ∃ k : Nat, i = .int .i64 k ∧ k ≤ xs.length ∧ xs.take k = ys.take k ∧ Below w.heap.size w wr) (fun i _ => xs.length - (intOf i).toNat)
    case atStart => exact ⟨0, rfl, Nat.zero_le _, rfl, Below.refl _ _⟩
    case round =>
      obtain ⟨k, rfl, hk, he, hw⟩ := hrel
      have HE := Lib.hid he
      have HW := Lib.hid hw
      have hlm := HLEN.out
      clear he
      by_cases hlt : k < xs.length
      · obtain ⟨a, x, rfl, ha, hp, h0⟩ := ints_round HA.out hw hlt
        obtain ⟨b, y, rfl, hb, hq, h1⟩ := ints_round HB.out hw (by rw [← HL.out]; exact hlt)
        have hlt' : (k : Int) < xs.length := by omega
        have HP := Lib.hid hp
        have HQ := Lib.hid hq
        have HA0 : Hid ((a.add k).block < wr.heap.size) := Lib.hid (by rw [add_block]; exact Nat.lt_of_lt_of_le ha hw.size)
        have HB0 : Hid ((b.add k).block < wr.heap.size) := Lib.hid (by rw [add_block]; exact Nat.lt_of_lt_of_le hb hw.size)
        have H0 := Lib.hid h0
        have H1 := Lib.hid h1
        clear hp hq hw ha hb h0 h1
        by_cases hxy : x = y
        · subst hxy
          have hn : (x != x) = false := by simp
          go_wp2_with fail
          refine wp_region_past (fun W => W.cell? (a.add k) = some (.int .i64 x) ∧ W.cell? (b.add k) = some (.int .i64 x) ∧ Below wr.heap.size wr W) ⟨H0.out, H1.out, Below.refl _ _⟩ (by kernel_rfl) ?_
          intro W ⟨f1, f2, f3⟩ hbw
          have y0 := cell_past f1 (Nat.lt_of_lt_of_le HA0.out f3.size)
          have y1 := cell_past f2 (Nat.lt_of_lt_of_le HB0.out f3.size)
          repeat (go_big_quiet_step (fail))
          refine wpQuiet_nil ?_
          intro _ hw'
          obtain ⟨xw, rfl⟩ := hw'
          have HBY := Lib.hid (HW.out.trans ((f3.trans (xw.b.mono f3.size)).mono HW.out.size))
          clear y0 y1 f1 f2 f3 hbw
          generalize xw.w = wy at *
          go_wp2_with fail
          go_roundw
          case rel => exact ⟨k + 1, by go_num, by omega, by rw [take_one HP.out, take_one HQ.out, HE.out], HBY.out⟩
          case measure => simp [intOf]; omega
        · have hn : (x != y) = true := by simp [hxy]
          have HN : Hid (decide (xs = ys) = false) := Lib.hid (by
            rw [decide_eq_false_iff_not]; rintro rfl
            rw [HP.out] at HQ; exact hxy (Option.some.inj HQ.out))
          clear hxy
          go_wp2_with fail
          refine wp_region_past (fun W => W.cell? (a.add k) = some (.int .i64 x) ∧ W.cell? (b.add k) = some (.int .i64 y) ∧ Below wr.heap.size wr W) ⟨H0.out, H1.out, Below.refl _ _⟩ (by kernel_rfl) ?_
          intro W ⟨f1, f2, f3⟩ hbw
          have y0 := cell_past f1 (Nat.lt_of_lt_of_le HA0.out f3.size)
          have y1 := cell_past f2 (Nat.lt_of_lt_of_le HB0.out f3.size)
          repeat (go_big_quiet_step (fail))
          refine wpQuiet_nil ?_
          intro _ hw'
          obtain ⟨xw, rfl⟩ := hw'
          have HBY := Lib.hid (HW.out.trans ((f3.trans (xw.b.mono f3.size)).mono HW.out.size))
          clear y0 y1 f1 f2 f3 hbw
          generalize xw.w = wy at *
          go_wp2_with fail
          go_ret
          exact ⟨by rw [HN.out]; rfl, HBY.out⟩
      · have hlt' : ¬ (k : Int) < xs.length := by omega
        have HN : Hid (decide (xs = ys) = true) := Lib.hid (by
          have e := HE.out
          rw [List.take_of_length_le (by omega), List.take_of_length_le (by have := HL.out; omega)] at e
          exact decide_eq_true e)
        clear hw
        go_wp2_with fail
        go_ret
        exact ⟨by rw [HN.out]; rfl, HW.out⟩
  · have HN : Hid (decide (xs = ys) = false) := Lib.hid (by rw [decide_eq_false_iff_not]; rintro rfl; exact hlen rfl)
    have hne : ((xs.length : Int) != (ys.length : Int)) = true := by
      rw [bne_iff_ne]; omega
    have hne' : ¬ ((xs.length : Int) = (ys.length : Int)) := by omega
    clear hc hi hd hj hl hlen
    go_enter Tryz.func130, Tryz.ntmps130
    go_wp2_with fail
    all_goals exact bodyPost_ret (v := .bool false) (by simp [results, Tryz.results130, go_sem]) rfl ⟨by rw [HN.out], Below.refl _ _⟩
set_option maxRecDepth 100000 in
set_option maxHeartbeats 2000000 in
theorem equal_any (xs ys : Ws) (v u : Value) (w : World) (hx : SlV w w.heap.size v xs) (hy : SlV w w.heap.size u ys) (hl : xs.length ≤ 1000000) : Calls Tryz.prog 221 #[v, u] w (BoolPost (decide (xs = ys)) w) := by
  obtain ⟨A, c, rfl, hc, hi⟩ := hx
  obtain ⟨B, d, rfl, hd, hj⟩ := hy
  by_cases hlen : xs.length = ys.length
  · have HA := Lib.hid hi
    have HB := Lib.hid hj
    have HLEN : Hid ((xs.length : Int) ≤ 1000000) := Lib.hid (by omega)
    have HL := Lib.hid hlen
    rw [← hlen]
    clear hc hi hd hj hl hlen
    go_enter Tryz.func221, Tryz.ntmps221
    go_wp2_with fail
    go_loopw [5, 13] (fun z i wr => ∃ k : Nat, i = .int .i64 k ∧ k ≤ xs.length ∧ xs.take k = ys.take k ∧ Below w.heap.size w wr) (fun _ i _ => xs.length - (intOf i).toNat)
    case atStart => exact ⟨0, rfl, Nat.zero_le _, rfl, Below.refl _ _⟩
    case round =>
      obtain ⟨k, rfl, hk, he, hw⟩ := hrel
      have HE := Lib.hid he
      have HW := Lib.hid hw
      have hlm := HLEN.out
      clear he
      by_cases hlt : k < xs.length
      · obtain ⟨a, x, rfl, ha, hp, h0⟩ := ints_round HA.out hw hlt
        obtain ⟨b, y, rfl, hb, hq, h1⟩ := ints_round HB.out hw (by rw [← HL.out]; exact hlt)
        have hlt' : (k : Int) < xs.length := by omega
        have HP := Lib.hid hp
        have HQ := Lib.hid hq
        have HA0 : Hid ((a.add k).block < wr.heap.size) := Lib.hid (by rw [add_block]; exact Nat.lt_of_lt_of_le ha hw.size)
        have HB0 : Hid ((b.add k).block < wr.heap.size) := Lib.hid (by rw [add_block]; exact Nat.lt_of_lt_of_le hb hw.size)
        have H0 := Lib.hid h0
        have H1 := Lib.hid h1
        clear hp hq hw ha hb h0 h1
        by_cases hxy : x = y
        · subst hxy
          have hn : (x != x) = false := by simp
          go_wp2_with fail
          refine wp_region_past (fun W => W.cell? (a.add k) = some (.int .i64 x) ∧ W.cell? (b.add k) = some (.int .i64 x) ∧ Below wr.heap.size wr W) ⟨H0.out, H1.out, Below.refl _ _⟩ (by kernel_rfl) ?_
          intro W ⟨f1, f2, f3⟩ hbw
          have y0 := cell_past f1 (Nat.lt_of_lt_of_le HA0.out f3.size)
          have y1 := cell_past f2 (Nat.lt_of_lt_of_le HB0.out f3.size)
          repeat (go_big_quiet_step (fail))
          refine wpQuiet_nil ?_
          intro _ hw'
          obtain ⟨xw, rfl⟩ := hw'
          have HBY := Lib.hid (HW.out.trans ((f3.trans (xw.b.mono f3.size)).mono HW.out.size))
          clear y0 y1 f1 f2 f3 hbw
          generalize xw.w = wy at *
          go_wp2_with fail
          go_roundw
          case rel => exact ⟨k + 1, by go_num, by omega, by rw [take_one HP.out, take_one HQ.out, HE.out], HBY.out⟩
          case measure => simp [intOf]; omega
        · have hn : (x != y) = true := by simp [hxy]
          have HN : Hid (decide (xs = ys) = false) := Lib.hid (by
            rw [decide_eq_false_iff_not]; rintro rfl
            rw [HP.out] at HQ; exact hxy (Option.some.inj HQ.out))
          clear hxy
          go_wp2_with fail
          refine wp_region_past (fun W => W.cell? (a.add k) = some (.int .i64 x) ∧ W.cell? (b.add k) = some (.int .i64 y) ∧ Below wr.heap.size wr W) ⟨H0.out, H1.out, Below.refl _ _⟩ (by kernel_rfl) ?_
          intro W ⟨f1, f2, f3⟩ hbw
          have y0 := cell_past f1 (Nat.lt_of_lt_of_le HA0.out f3.size)
          have y1 := cell_past f2 (Nat.lt_of_lt_of_le HB0.out f3.size)
          repeat (go_big_quiet_step (fail))
          refine wpQuiet_nil ?_
          intro _ hw'
          obtain ⟨xw, rfl⟩ := hw'
          have HBY := Lib.hid (HW.out.trans ((f3.trans (xw.b.mono f3.size)).mono HW.out.size))
          clear y0 y1 f1 f2 f3 hbw
          generalize xw.w = wy at *
          go_wp2_with fail
          go_ret
          exact ⟨by rw [HN.out]; rfl, HBY.out⟩
      · have hlt' : ¬ (k : Int) < xs.length := by omega
        have HN : Hid (decide (xs = ys) = true) := Lib.hid (by
          have e := HE.out
          rw [List.take_of_length_le (by omega), List.take_of_length_le (by have := HL.out; omega)] at e
          exact decide_eq_true e)
        clear hw
        go_wp2_with fail
        go_ret
        exact ⟨by rw [HN.out]; rfl, HW.out⟩
  · have HN : Hid (decide (xs = ys) = false) := Lib.hid (by rw [decide_eq_false_iff_not]; rintro rfl; exact hlen rfl)
    have hne : ((xs.length : Int) != (ys.length : Int)) = true := by
      rw [bne_iff_ne]; omega
    have hne' : ¬ ((xs.length : Int) = (ys.length : Int)) := by omega
    clear hc hi hd hj hl hlen
    go_enter Tryz.func221, Tryz.ntmps221
    go_wp2_with fail
    all_goals exact bodyPost_ret (v := .bool false) (by simp [results, Tryz.results221, go_sem]) rfl ⟨by rw [HN.out], Below.refl _ _⟩
set_option maxRecDepth 100000 in
set_option maxHeartbeats 2000000 in
theorem rsame2_any (n m : ByteArray) (xs ys : Ws) (v u : Value) (w : World) (hx : RefV w w.heap.size v n xs) (hy : RefV w w.heap.size u m ys) (hl : xs.length ≤ 1000000) : Calls Tryz.prog 69 #[v, u] w (BoolPost (decide (n = m ∧ xs = ys)) w) := by
  obtain ⟨A, c, rfl, hc, hi⟩ := hx
  obtain ⟨B, d, rfl, hd, hj⟩ := hy
  obtain ⟨x1, x2, x3, x4⟩ := BxR.both w (.string n) (.slice A xs.length c) (.string m) (.slice B ys.length d)
  have CALL : Hid (Calls Tryz.prog 130 #[.slice A xs.length c, .slice B ys.length d] ((w.alloc (.cells #[.string n, .slice A xs.length c] 50 (0, 0))).alloc (.cells #[.string m, .slice B ys.length d] 50 (0, 0))) (BoolPost (decide (xs = ys)) ((w.alloc (.cells #[.string n, .slice A xs.length c] 50 (0, 0))).alloc (.cells #[.string m, .slice B ys.length d] 50 (0, 0))))) :=
    Lib.hid (same_any xs ys _ _ _ ⟨A, c, rfl, hc, hi.stay x3⟩ ⟨B, d, rfl, hd, hj.stay x3⟩ hl)
  have hs := str_eq n m
  have B0 := Lib.hid x3
  clear hc hd hi hj x1 x2 x3 x4 hl
  by_cases hnm : n = m
  · have HV : Hid (decide (n = m ∧ xs = ys) = decide (xs = ys)) := Lib.hid (by simp [hnm])
    rw [decide_eq_true hnm] at hs
    clear hnm
    go_enter Tryz.func69, Tryz.ntmps69
    go_wp2_with fail
    refine CALL.out.mono ?_
    rintro e w1 ⟨rfl, hb1⟩
    have HB := Lib.hid (B0.out.trans (hb1.mono B0.out.size))
    clear hb1 CALL
    go_wp2_with fail
    exact bodyPost_ret (v := .bool (decide (xs = ys))) (by simp [results, Tryz.results69, go_sem]) rfl ⟨by rw [HV.out], HB.out⟩
  · have HV : Hid (decide (n = m ∧ xs = ys) = false) := Lib.hid (by simp [hnm])
    rw [decide_eq_false hnm] at hs
    clear hnm
    go_enter Tryz.func69, Tryz.ntmps69
    go_wp2_with fail
    all_goals exact bodyPost_ret (v := .bool false) (by simp [results, Tryz.results69, go_sem]) rfl ⟨by rw [HV.out], B0.out⟩
end Go.Proofs.YthjoelpfmimedaaGreatDoor.K
namespace Go.Proofs.YthjoelpfmimedaaGreatDoor.K
open Go.RowKit
def okB (n : ByteArray) (xs : Ws) : Bool := T1.nameL n.data.toList && decide (xs.length ≤ 24) && rtF false xs
theorem rt_cons (p : Bool) (x : Int) (r : Ws) : rtF p (x :: r) = ((x == 2 || (x == 1 && !p)) && rtF (x == 1) r) := rfl
set_option maxRecDepth 100000 in
set_option maxHeartbeats 2000000 in
theorem tright_any (n : ByteArray) (xs : Ws) (v : Value) (w : World) (h : RefV w w.heap.size v n xs) (hn : n.size ≤ maxLen) : Calls Tryz.prog 160 #[v] w (BoolPost (okB n xs) w) := by
  obtain ⟨A, c, rfl, hc, hi⟩ := h
  have x3 := (Below.refl w.heap.size w).alloc (Nat.le_refl _) (.cells #[.string n, .slice A xs.length c] 50 (0, 0))
  have X0 := Lib.hid (BxR.new w (.string n) (.slice A xs.length c))
  have I0 := Lib.hid (hi.stay x3)
  have B0 := Lib.hid x3
  clear hc hi x3
  have CALL := Lib.hid (T1.name_any n (w.alloc (.cells #[.string n, .slice A xs.length c] 50 (0, 0))) hn)
  by_cases hnm : T1.nameL n.data.toList = true
  · by_cases hle : xs.length ≤ 24
    · have HV : Hid (okB n xs = rtF false xs) := Lib.hid (by unfold okB; rw [hnm, decide_eq_true hle]; rfl)
      have HNM := Lib.hid hnm
      have HLE : Hid ((xs.length : Int) ≤ 24) := Lib.hid (by omega)
      have hgt : ¬ ((xs.length : Int) > 24) := by omega
      clear hnm hle
      go_enter Tryz.func160, Tryz.ntmps160
      go_wp2_with fail
      generalize (w.alloc (.cells #[.string n, .slice A xs.length c] 50 (0, 0))) = W0 at *
      have hcall := CALL.out
      rw [HNM.out] at hcall
      refine hcall.mono ?_
      rintro e w1 ⟨rfl, rfl⟩
      clear hcall CALL
      have q1 := X0.out.cells.2
      go_wp2_with fail
      go_loopw [3, 5, 19] (fun o _ i wr => ∃ (k : Nat) (q : Int), i = .int .i64 k ∧ o = .int .i64 q ∧ k ≤ xs.length ∧ rtF (q == 1) (xs.drop k) = rtF false xs ∧ Below W0.heap.size W0 wr) (fun _ _ i _ => xs.length - (intOf i).toNat)
      case atStart => exact ⟨0, 2, rfl, rfl, Nat.zero_le _, rfl, Below.refl _ _⟩
      case round =>
        obtain ⟨k, q, rfl, rfl, hk, hr, hb⟩ := hrel
        have HB := Lib.hid hb
        have hlm := HLE.out
        by_cases hlt : k < xs.length
        · obtain ⟨a, x, rfl, ha, hp, h0⟩ := ints_round I0.out hb hlt
          have hlt' : (k : Int) < xs.length := by omega
          rw [drop_one hp, rt_cons] at hr
          clear hb ha hp
          by_cases h2 : x = 2
          · subst h2
            have HR := Lib.hid hr
            clear hr
            go_wp2_with fail
            go_roundw
            case rel => exact ⟨k + 1, 2, by go_num, rfl, by omega, HR.out, HB.out⟩
            case measure => simp [intOf]; omega
          · have hb2 : (x != 2) = true := by simp [h2]
            by_cases h1 : x = 1
            · subst h1
              by_cases hq : q = 1
              · subst hq
                have HF : Hid (rtF false xs = false) := Lib.hid hr.symm
                clear hr
                go_wp2_with fail
                go_ret
                exact ⟨by rw [HV.out, HF.out]; rfl, B0.out.trans (HB.out.mono B0.out.size)⟩
              · have hqb : (q == 1) = false := by simp [hq]
                rw [hqb] at hr
                have HR := Lib.hid hr
                clear hr hq
                go_wp2_with fail
                go_roundw
                case rel => exact ⟨k + 1, 1, by go_num, rfl, by omega, HR.out, HB.out⟩
                case measure => simp [intOf]; omega
            · have hb1 : (x != 1) = true := by simp [h1]
              have e2 : (x == 2) = false := by simp [h2]
              have e1 : (x == 1) = false := by simp [h1]
              rw [e1, e2] at hr
              have HF : Hid (rtF false xs = false) := Lib.hid hr.symm
              clear hr e1 e2
              go_wp2_with fail
              go_ret
              exact ⟨by rw [HV.out, HF.out]; rfl, B0.out.trans (HB.out.mono B0.out.size)⟩
        · have hlt' : ¬ (k : Int) < xs.length := by omega
          have HF : Hid (rtF false xs = true) := Lib.hid (by rw [← hr, List.drop_eq_nil_of_le (by omega)]; rfl)
          clear hr hb
          go_wp2_with fail
          go_ret
          exact ⟨by rw [HV.out, HF.out]; rfl, B0.out.trans (HB.out.mono B0.out.size)⟩
    · have HV : Hid (okB n xs = false) := Lib.hid (by unfold okB; rw [hnm, decide_eq_false hle]; rfl)
      have HNM := Lib.hid hnm
      have hgt : ((xs.length : Int) > 24) := by omega
      clear hnm hle
      go_enter Tryz.func160, Tryz.ntmps160
      go_wp2_with fail
      generalize (w.alloc (.cells #[.string n, .slice A xs.length c] 50 (0, 0))) = W0 at *
      have hcall := CALL.out
      rw [HNM.out] at hcall
      refine hcall.mono ?_
      rintro e w1 ⟨rfl, rfl⟩
      clear hcall CALL
      have q1 := X0.out.cells.2
      go_wp2_with fail
      all_goals exact bodyPost_ret (v := .bool false) (by simp [results, Tryz.results160, go_sem]) rfl ⟨by rw [HV.out], B0.out⟩
  · have HV : Hid (okB n xs = false) := Lib.hid (by unfold okB; simp [hnm])
    have hnm' : T1.nameL n.data.toList = false := by simpa using hnm
    have HNM := Lib.hid hnm'
    clear hnm hnm'
    go_enter Tryz.func160, Tryz.ntmps160
    go_wp2_with fail
    generalize (w.alloc (.cells #[.string n, .slice A xs.length c] 50 (0, 0))) = W0 at *
    have hcall := CALL.out
    rw [HNM.out] at hcall
    refine hcall.mono ?_
    rintro e w1 ⟨rfl, rfl⟩
    clear hcall CALL
    have q1 := X0.out.cells.2
    go_wp2_with fail
    all_goals exact bodyPost_ret (v := .bool false) (by simp [results, Tryz.results160, go_sem]) rfl ⟨by rw [HV.out], B0.out⟩
end Go.Proofs.YthjoelpfmimedaaGreatDoor.K
namespace Go.Proofs.YthjoelpfmimedaaGreatDoor
open Go.RowKit
theorem ref_of {w : World} {B : Nat} {c0 c1 : Value} {n : ByteArray} {xs : List Int} (h : RfR w B c0 c1 n xs) : K.RefV w B (.agg #[c0, c1]) n xs := by
  obtain ⟨A, c, q, hc, hb, V, hA, hr⟩ := h.wraps
  refine ⟨A, c, by rw [h.name, q], hc, fun h0 => ?_⟩
  obtain ⟨a, e, ha, hx⟩ := hA h0
  refine ⟨a, e, ha, fun i x hi => ?_⟩
  have h1 := hx i (List.getElem?_eq_some_iff.1 hi).1 0 (by omega)
  rw [Nat.mul_one] at h1
  exact h1.trans (congrArg some (hr i x hi).1)
theorem nm_any (s : ByteArray) (w : World) (hs : s.size ≤ big) : Calls Tryz.prog 43 #[.string s] w fun e w' => e = .returned (.bool (nmA s)) ∧ w = w' := name_any s w (by unfold maxLen; unfold big at hs; omega)
def litOk (t : VT) : Bool := rightB true t && rightB false t
def argOk (x : ByteArray × VT) : Bool := nmA x.1 && litOk x.2
def dirOk (x : DirT) : Bool := nmA x.name && inB 0 16 x.args argOk
def dirsOk (l : List DirT) : Bool := inB 0 16 l dirOk
def dflOk (has : Bool) (t : VT) : Bool := if has then litOk t else (match t with | .mk k _ _ _ _ => decide (k = 0)) && rightB false t
def inpOk (x : InpT) : Bool := nmA x.name && (K.okB x.tn x.tw && (dflOk x.has x.dflt && dirsOk x.dirs))
def inpsOk (l : List InpT) : Bool := inB 0 16 l inpOk
def fldOk (x : FldT) : Bool := nmA x.name && (inpsOk x.args && (K.okB x.tn x.tw && dirsOk x.dirs))
def memUOk (x : MemT) : Bool := nmA x.name && decide (x.dirs.length = 0)
def memEOk (x : MemT) : Bool := nmA x.name && dirsOk x.dirs
set_option maxHeartbeats 2000000 in
theorem isConstant_any (t : VT) (v : Value) (w : World) (h : Rd w w.heap.size v t) : Calls Tryz.prog 91 #[v] w (BP (litOk t) w) := by
  obtain ⟨k, n, s, A, li, ci, K, lk, ck, rfl⟩ := h.shape
  have HR := Lib.hid h
  clear h
  have HV : Hid (litOk t = (rightB true t && (rightB false t))) := Lib.hid rfl
  generalize litOk t = RB at *
  have HB0 : Hid (Below w.heap.size w (w.alloc (.cells #[.int .i64 k, .int .i64 n, .string s, .slice A li ci, .slice K lk ck] 59 (0, 0)))) := Lib.hid (below_new _ _)
  have HX0 : Hid (Bk (w.alloc (.cells #[.int .i64 k, .int .i64 n, .string s, .slice A li ci, .slice K lk ck] 59 (0, 0))) w.heap.size #[.int .i64 k, .int .i64 n, .string s, .slice A li ci, .slice K lk ck] 59) := Lib.hid (Bk.new _ _ _)
  go_enter Tryz.func91, Tryz.ntmps91
  go_wp2_with fail
  refine (literal_any t _ w.heap.size _ (HR.out.kept HB0.out) HB0.out.size).mono ?_
  rintro e w2 ⟨rfl, hb⟩
  have HB1 := Lib.hid (HB0.out.trans (Below.mono hb HB0.out.size))
  have HX1 := Lib.hid (HX0.out.stay hb)
  clear hb
  cases v : rightB true t with
  | false =>
    have v0 := Lib.hid v
    clear v
    go_wp2_with fail
    go_ret
    exact ⟨by rw [HV.out, v0.out, Bool.false_and]; rfl, HB1.out⟩
  | true =>
    have v0 := Lib.hid v
    clear v
    have q0 := HX1.out.cell 0 _ rfl
    have q1 := HX1.out.cell 1 _ rfl
    have q2 := HX1.out.cell 2 _ rfl
    have q3 := HX1.out.cell 3 _ rfl
    have q4 := HX1.out.cell 4 _ rfl
    go_wp2_with fail
    refine (right_any t _ w.heap.size _ (HR.out.kept HB1.out) HB1.out.size).mono ?_
    rintro e w3 ⟨rfl, hb⟩
    clear q0 q1 q2 q3 q4
    have HB2 := Lib.hid (HB1.out.trans (Below.mono hb HB1.out.size))
    have HX2 := Lib.hid (HX1.out.stay hb)
    clear hb
    go_wp2_with fail
    go_ret
    exact ⟨by rw [HV.out, v0.out, Bool.true_and]; rfl, HB2.out⟩
abbrev cnV : Value := .func (.func 91) #[] #[]
set_option maxHeartbeats 2000000 in
theorem isArgument_any (q : Nat) (x : ByteArray × VT) (f : Nat → Value) (w : World) (hq : w.cell? ⟨q, 0, none⟩ = some cnV) (hql : q < w.heap.size) (h : ArgR w w.heap.size f x) : Calls Tryz.prog 202 (#[.agg #[f 0, f 1, f 2, f 3, f 4, f 5]] ++ #[.pointer (some ⟨q, 0, none⟩)]) w (BP (argOk x) w) := by
  obtain ⟨k, n, s, A, li, ci, K, lk, ck, e1, e2, e3, e4, e5⟩ := Rd.form h.val
  have HR := h.val
  have HN := Lib.hid h.size
  rw [e1, e2, e3, e4, e5] at HR
  rw [h.name, e1, e2, e3, e4, e5]
  clear e1 e2 e3 e4 e5 h
  replace HR := Lib.hid HR
  have HV : Hid (argOk x = (nmA x.1 && (litOk x.2))) := Lib.hid rfl
  generalize argOk x = RB at *
  have HB0 : Hid (Below w.heap.size w (w.alloc (.cells #[.string x.1, .int .i64 k, .int .i64 n, .string s, .slice A li ci, .slice K lk ck] 99 (0, 0)))) := Lib.hid (below_new _ _)
  have HX0 : Hid (Bk (w.alloc (.cells #[.string x.1, .int .i64 k, .int .i64 n, .string s, .slice A li ci, .slice K lk ck] 99 (0, 0))) w.heap.size #[.string x.1, .int .i64 k, .int .i64 n, .string s, .slice A li ci, .slice K lk ck] 99) := Lib.hid (Bk.new _ _ _)
  show Calls _ _ #[_, _] w _
  have HQ : Hid ((w.alloc (.cells #[.string x.1, .int .i64 k, .int .i64 n, .string s, .slice A li ci, .slice K lk ck] 99 (0, 0))).cell? ⟨q, 0, none⟩ = some cnV) := Lib.hid ((HB0.out.cell (p := ⟨q, 0, none⟩) hql).trans hq)
  clear hq hql
  go_enter Tryz.func202, Tryz.ntmps202
  go_wp2_with fail
  refine (nm_any x.1 _ HN.out).mono ?_
  rintro e w1 ⟨rfl, rfl⟩
  cases v : nmA x.1 with
  | false =>
    have v0 := Lib.hid v
    clear v
    go_wp2_with fail
    go_ret
    exact ⟨by rw [HV.out, v0.out, Bool.false_and]; rfl, HB0.out⟩
  | true =>
    have v0 := Lib.hid v
    clear v
    have q0 := HX0.out.cell 0 _ rfl
    have q1 := HX0.out.cell 1 _ rfl
    have q2 := HX0.out.cell 2 _ rfl
    have q3 := HX0.out.cell 3 _ rfl
    have q4 := HX0.out.cell 4 _ rfl
    have q5 := HX0.out.cell 5 _ rfl
    have q6 := HQ.out
    go_wp2_with fail
    refine (isConstant_any x.2 _ _ ((HR.out.kept HB0.out).mono HB0.out.size)).mono ?_
    rintro e w2 ⟨rfl, hb⟩
    clear q0 q1 q2 q3 q4 q5 q6
    have HB1 := Lib.hid (HB0.out.trans (Below.mono hb HB0.out.size))
    have HX1 := Lib.hid (HX0.out.stay hb)
    clear hb
    go_wp2_with fail
    go_ret
    exact ⟨by rw [HV.out, v0.out, Bool.true_and]; rfl, HB1.out⟩
theorem areArguments_any (xs : List (ByteArray × VT)) (v : Value) (w : World) (h : ArgsR w w.heap.size v xs) : Calls Tryz.prog 157 #[v, cnV] w (BP (inB 0 16 xs argOk) w) := by
  have hB : Below w.heap.size w (w.alloc (.cells #[cnV] 139 (0, 0))) := below_new _ _
  have hq0 : (w.alloc (.cells #[cnV] 139 (0, 0))).cell? ⟨w.heap.size, 0, none⟩ = some cnV := (Bk.new _ _ _).cell 0 _ rfl
  have HC := Lib.hid (withinArg_t w.heap.size xs v _ 0 16 (Sl.mono ArgR.stays (Sl.kept ArgR.stays h hB) hB.size) argOk fun W f y hW hy => isArgument_any w.heap.size y f W ((hW.cell (p := ⟨w.heap.size, 0, none⟩) (by simp)).trans hq0) (by have := hW.size; simp at this; omega) hy)
  have HB := Lib.hid hB
  obtain ⟨A, c, rfl, _, _⟩ := h.form
  clear h hq0 hB
  generalize inB 0 16 xs argOk = RB at *
  go_enter Tryz.func157, Tryz.ntmps157
  go_wp2_with fail
  refine HC.out.mono ?_
  rintro e w1 ⟨rfl, hb⟩
  have HB2 := Lib.hid (HB.out.trans (hb.mono HB.out.size))
  clear hb
  go_wp2_with fail
  go_ret
  exact ⟨rfl, HB2.out⟩
set_option maxHeartbeats 2000000 in
theorem isDirective_any (q : Nat) (x : DirT) (f : Nat → Value) (w : World) (hq : w.cell? ⟨q, 0, none⟩ = some cnV) (hql : q < w.heap.size) (h : DirR w w.heap.size f x) : Calls Tryz.prog 156 (#[.agg #[f 0, f 1]] ++ #[.pointer (some ⟨q, 0, none⟩)]) w (BP (dirOk x) w) := by
  obtain ⟨A, c, e1, _, _⟩ := h.args.form
  have HR := h.args
  have HN := Lib.hid h.size
  rw [e1] at HR
  rw [h.name, e1]
  clear e1 h
  replace HR := Lib.hid HR
  have HV : Hid (dirOk x = (nmA x.name && (inB 0 16 x.args argOk))) := Lib.hid rfl
  generalize dirOk x = RB at *
  have HB0 : Hid (Below w.heap.size w (w.alloc (.cells #[.string x.name, .slice A x.args.length c] 96 (0, 0)))) := Lib.hid (below_new _ _)
  have HX0 : Hid (Bk (w.alloc (.cells #[.string x.name, .slice A x.args.length c] 96 (0, 0))) w.heap.size #[.string x.name, .slice A x.args.length c] 96) := Lib.hid (Bk.new _ _ _)
  show Calls _ _ #[_, _] w _
  have HQ : Hid ((w.alloc (.cells #[.string x.name, .slice A x.args.length c] 96 (0, 0))).cell? ⟨q, 0, none⟩ = some cnV) := Lib.hid ((HB0.out.cell (p := ⟨q, 0, none⟩) hql).trans hq)
  clear hq hql
  go_enter Tryz.func156, Tryz.ntmps156
  go_wp2_with fail
  refine (nm_any x.name _ HN.out).mono ?_
  rintro e w1 ⟨rfl, rfl⟩
  cases v : nmA x.name with
  | false =>
    have v0 := Lib.hid v
    clear v
    go_wp2_with fail
    go_ret
    exact ⟨by rw [HV.out, v0.out, Bool.false_and]; rfl, HB0.out⟩
  | true =>
    have v0 := Lib.hid v
    clear v
    have q0 := HX0.out.cell 0 _ rfl
    have q1 := HX0.out.cell 1 _ rfl
    have q6 := HQ.out
    go_wp2_with fail
    refine (areArguments_any x.args _ _ ((HR.out.kept HB0.out).mono HB0.out.size)).mono ?_
    rintro e w2 ⟨rfl, hb⟩
    clear q0 q1 q6
    have HB1 := Lib.hid (HB0.out.trans (Below.mono hb HB0.out.size))
    have HX1 := Lib.hid (HX0.out.stay hb)
    clear hb
    go_wp2_with fail
    go_ret
    exact ⟨by rw [HV.out, v0.out, Bool.true_and]; rfl, HB1.out⟩
theorem areDirectives0_any (xs : List DirT) (v : Value) (w : World) (h : DirsR w w.heap.size v xs) : Calls Tryz.prog 90 #[v, cnV] w (BP (inB 0 16 xs dirOk) w) := by
  have hB : Below w.heap.size w (w.alloc (.cells #[cnV] 139 (0, 0))) := below_new _ _
  have hq0 : (w.alloc (.cells #[cnV] 139 (0, 0))).cell? ⟨w.heap.size, 0, none⟩ = some cnV := (Bk.new _ _ _).cell 0 _ rfl
  have HC := Lib.hid (withinDir_t w.heap.size xs v _ 0 16 (Sl.mono DirR.stays (Sl.kept DirR.stays h hB) hB.size) dirOk fun W f y hW hy => isDirective_any w.heap.size y f W ((hW.cell (p := ⟨w.heap.size, 0, none⟩) (by simp)).trans hq0) (by have := hW.size; simp at this; omega) hy)
  have HB := Lib.hid hB
  obtain ⟨A, c, rfl, _, _⟩ := h.form
  clear h hq0 hB
  generalize inB 0 16 xs dirOk = RB at *
  go_enter Tryz.func90, Tryz.ntmps90
  go_wp2_with fail
  refine HC.out.mono ?_
  rintro e w1 ⟨rfl, hb⟩
  have HB2 := Lib.hid (HB.out.trans (hb.mono HB.out.size))
  clear hb
  go_wp2_with fail
  go_ret
  exact ⟨rfl, HB2.out⟩
theorem areDirectives_any (xs : List DirT) (v : Value) (w : World) (h : DirsR w w.heap.size v xs) : Calls Tryz.prog 44 #[v] w (BP (dirsOk xs) w) := by
  have HC := Lib.hid (areDirectives0_any xs v w h)
  have HV : Hid (dirsOk xs = inB 0 16 xs dirOk) := Lib.hid rfl
  generalize dirsOk xs = RB at *
  obtain ⟨A, c, rfl, _, _⟩ := h.form
  clear h
  go_enter Tryz.func44, Tryz.ntmps44
  go_wp2_with fail
  refine HC.out.mono ?_
  rintro e w1 ⟨rfl, hb⟩
  have HB := Lib.hid hb
  clear hb
  go_wp2_with fail
  go_ret
  exact ⟨by rw [HV.out]; rfl, HB.out⟩
set_option maxHeartbeats 2000000 in
theorem isEnumMember_any (x : MemT) (f : Nat → Value) (w : World) (h : MemR w w.heap.size f x) : Calls Tryz.prog 93 #[.agg #[f 0, f 1]] w (BP (memEOk x) w) := by
  obtain ⟨A, c, e1, _, _⟩ := h.dirs.form
  have HR := h.dirs
  have HN := Lib.hid h.size
  rw [e1] at HR
  rw [h.name, e1]
  clear e1 h
  replace HR := Lib.hid HR
  have HV : Hid (memEOk x = (nmA x.name && (dirsOk x.dirs))) := Lib.hid rfl
  generalize memEOk x = RB at *
  have HB0 : Hid (Below w.heap.size w (w.alloc (.cells #[.string x.name, .slice A x.dirs.length c] 54 (0, 0)))) := Lib.hid (below_new _ _)
  have HX0 : Hid (Bk (w.alloc (.cells #[.string x.name, .slice A x.dirs.length c] 54 (0, 0))) w.heap.size #[.string x.name, .slice A x.dirs.length c] 54) := Lib.hid (Bk.new _ _ _)
  go_enter Tryz.func93, Tryz.ntmps93
  go_wp2_with fail
  refine (nm_any x.name _ HN.out).mono ?_
  rintro e w1 ⟨rfl, rfl⟩
  cases v : nmA x.name with
  | false =>
    have v0 := Lib.hid v
    clear v
    go_wp2_with fail
    go_ret
    exact ⟨by rw [HV.out, v0.out, Bool.false_and]; rfl, HB0.out⟩
  | true =>
    have v0 := Lib.hid v
    clear v
    have q0 := HX0.out.cell 0 _ rfl
    have q1 := HX0.out.cell 1 _ rfl
    go_wp2_with fail
    refine (areDirectives_any x.dirs _ _ ((HR.out.kept HB0.out).mono HB0.out.size)).mono ?_
    rintro e w2 ⟨rfl, hb⟩
    clear q0 q1
    have HB1 := Lib.hid (HB0.out.trans (Below.mono hb HB0.out.size))
    have HX1 := Lib.hid (HX0.out.stay hb)
    clear hb
    go_wp2_with fail
    go_ret
    exact ⟨by rw [HV.out, v0.out, Bool.true_and]; rfl, HB1.out⟩
theorem isUnionMember_any (x : MemT) (f : Nat → Value) (w : World) (h : MemR w w.heap.size f x) : Calls Tryz.prog 92 #[.agg #[f 0, f 1]] w (BP (memUOk x) w) := by
  obtain ⟨A, c, e1, _, hbi⟩ := h.dirs.form
  have HN := Lib.hid h.size
  rw [h.name, e1]
  clear e1 h
  obtain ⟨nm, dirs⟩ := x
  unfold big at hbi
  have hlen : (dirs.length : Int) ≤ 140737488351232 := by simp only at hbi; omega
  have HV : Hid (memUOk ⟨nm, dirs⟩ = (nmA nm && decide (dirs.length = 0))) := Lib.hid rfl
  generalize memUOk ⟨nm, dirs⟩ = RB at *
  have HB0 : Hid (Below w.heap.size w (w.alloc (.cells #[.string nm, .slice A dirs.length c] 54 (0, 0)))) := Lib.hid (below_new _ _)
  clear hbi
  show Calls _ _ #[.agg #[.string nm, .slice A dirs.length c]] _ _
  generalize dirs.length = len at *
  cases v : nmA nm with
  | false =>
    have v0 := Lib.hid v
    clear v
    go_enter Tryz.func92, Tryz.ntmps92
    go_wp2_with fail
    refine (nm_any nm _ HN.out).mono ?_
    rintro e w1 ⟨rfl, rfl⟩
    rw [v0.out]
    go_wp2_with fail
    go_ret
    exact ⟨by rw [HV.out, v0.out]; rfl, HB0.out⟩
  | true =>
    have v0 := Lib.hid v
    clear v
    go_enter Tryz.func92, Tryz.ntmps92
    go_wp2_with fail
    refine (nm_any nm _ HN.out).mono ?_
    rintro e w1 ⟨rfl, rfl⟩
    rw [v0.out]
    by_cases hz : len = 0
    · subst hz
      go_wp2_with fail
      go_ret
      exact ⟨by rw [HV.out, v0.out]; rfl, HB0.out⟩
    · have hz' : ((len : Int) == 0) = false := by rw [beq_eq_false_iff_ne]; omega
      have HV2 : Hid (RB = false) := Lib.hid (by rw [HV.out, v0.out]; simp [hz])
      go_wp2_with fail
      go_ret
      exact ⟨by rw [HV2.out]; rfl, HB0.out⟩
end Go.Proofs.YthjoelpfmimedaaGreatDoor
namespace Go.Proofs.YthjoelpfmimedaaGreatDoor
open Go.RowKit
def inpsW (l : List InpT) : Prop := ∀ x ∈ l, x.tw.length ≤ 1000000
set_option maxRecDepth 100000 in
set_option maxHeartbeats 8000000 in
theorem equalInputs_any (l : List InpT) (v v' : Value) (w : World) (h : InpsR w w.heap.size v l) (h' : InpsR w w.heap.size v' l) (hw : inpsW l) : Calls Tryz.prog 68 #[v, v'] w (BP true w) := by
  have HW := Lib.hid hw
  obtain ⟨A, c, rfl, hc, hbb, V, hA, hr⟩ := h
  obtain ⟨A', c', rfl, hc', _, V', hA', hr'⟩ := h'
  obtain ⟨ll, hll⟩ : ∃ ll, ll = l.length := ⟨_, rfl⟩
  have HLL := Lib.hid hll
  rw [← hll] at hbb hA hA' ⊢
  have hlb : (ll : Int) ≤ 140737488351232 := by unfold big at hbb; omega
  have HA := Lib.hid hA
  have HRR := Lib.hid hr
  have HA' := Lib.hid hA'
  have HRR' := Lib.hid hr'
  clear hA hr hA' hr' hll hbb hc hc'
  clear hw
  go_enter Tryz.func68, Tryz.ntmps68
  go_wp2_with fail
  go_loopw [5] (fun i wr => ∃ j : Nat, j ≤ ll ∧ i = .int .i64 j ∧ Hid (Below w.heap.size w wr)) (fun i _ => ll - (intOf i).toNat)
  case atStart => exact ⟨0, Nat.zero_le _, rfl, Lib.hid (Below.refl _ _)⟩
  case round =>
    obtain ⟨j, hj, rfl, hq⟩ := hrel
    by_cases hlt : j < ll
    · skip
      have hlt' : (j : Int) < ll := by omega
      obtain ⟨d, hd⟩ : ∃ d, l[j]? = some d := ⟨_, List.getElem?_eq_getElem (by have := HLL.out; omega)⟩
      obtain ⟨a, rfl, ha, hx⟩ := HA.out (by omega)
      obtain ⟨a', rfl, ha', hx'⟩ := HA'.out (by omega)
      have hdr := HRR.out j d hd
      have hdr' := HRR'.out j d hd
      have hcell := hx j hlt
      have hcell' := hx' j hlt
      obtain ⟨A1, d1, u1, _, _⟩ := hdr.type.wraps.form
      obtain ⟨k1, n1, s1, B1, li1, ci1, K1, lk1, ck1, e11, e12, e13, e14, e15⟩ := Rd.form hdr.val
      obtain ⟨D1, g1, t1, _, _⟩ := hdr.dirs.form
      have hv1 : Rd w w.heap.size (.agg #[.int .i64 k1, .int .i64 n1, .string s1, .slice B1 li1 ci1, .slice K1 lk1 ck1]) d.dflt := by
        have := hdr.val
        rw [e11, e12, e13, e14, e15] at this
        exact this
      have hr1 : RfR w w.heap.size (.string d.tn) (.slice A1 d.tw.length d1) d.tn d.tw := by
        have := hdr.type
        rw [u1, this.name] at this
        exact this
      have hd1 : DirsR w w.heap.size (.slice D1 d.dirs.length g1) d.dirs := by rw [← t1]; exact hdr.dirs
      have G0 := Lib.hid ((hcell 0 (by omega)).trans (by rw [hdr.name]) : w.cell? (a.add (j * 10)) = some (.string d.name))
      have G1 := Lib.hid ((hcell 1 (by omega)).trans (by rw [hdr.type.name]) : w.cell? ⟨(a.add (j * 10)).block, (a.add (j * 10)).off + 1, none⟩ = some (.string d.tn))
      have G2 := Lib.hid ((hcell 2 (by omega)).trans (by rw [u1]) : w.cell? ⟨(a.add (j * 10)).block, (a.add (j * 10)).off + 2, none⟩ = some (.slice A1 d.tw.length d1))
      have G3 := Lib.hid ((hcell 3 (by omega)).trans (by rw [hdr.has]) : w.cell? ⟨(a.add (j * 10)).block, (a.add (j * 10)).off + 3, none⟩ = some (.bool d.has))
      have G4 := Lib.hid ((hcell 4 (by omega)).trans (by rw [e11]) : w.cell? ⟨(a.add (j * 10)).block, (a.add (j * 10)).off + 4, none⟩ = some (.int .i64 k1))
      have G5 := Lib.hid ((hcell 5 (by omega)).trans (by rw [e12]) : w.cell? ⟨(a.add (j * 10)).block, (a.add (j * 10)).off + 5, none⟩ = some (.int .i64 n1))
      have G6 := Lib.hid ((hcell 6 (by omega)).trans (by rw [e13]) : w.cell? ⟨(a.add (j * 10)).block, (a.add (j * 10)).off + 6, none⟩ = some (.string s1))
      have G7 := Lib.hid ((hcell 7 (by omega)).trans (by rw [e14]) : w.cell? ⟨(a.add (j * 10)).block, (a.add (j * 10)).off + 7, none⟩ = some (.slice B1 li1 ci1))
      have G8 := Lib.hid ((hcell 8 (by omega)).trans (by rw [e15]) : w.cell? ⟨(a.add (j * 10)).block, (a.add (j * 10)).off + 8, none⟩ = some (.slice K1 lk1 ck1))
      have G9 := Lib.hid ((hcell 9 (by omega)).trans (by rw [t1]) : w.cell? ⟨(a.add (j * 10)).block, (a.add (j * 10)).off + 9, none⟩ = some (.slice D1 d.dirs.length g1))
      obtain ⟨A2, d2, u2, _, _⟩ := hdr'.type.wraps.form
      obtain ⟨k2, n2, s2, B2, li2, ci2, K2, lk2, ck2, e21, e22, e23, e24, e25⟩ := Rd.form hdr'.val
      obtain ⟨D2, g2, t2, _, _⟩ := hdr'.dirs.form
      have hv2 : Rd w w.heap.size (.agg #[.int .i64 k2, .int .i64 n2, .string s2, .slice B2 li2 ci2, .slice K2 lk2 ck2]) d.dflt := by
        have := hdr'.val
        rw [e21, e22, e23, e24, e25] at this
        exact this
      have hr2 : RfR w w.heap.size (.string d.tn) (.slice A2 d.tw.length d2) d.tn d.tw := by
        have := hdr'.type
        rw [u2, this.name] at this
        exact this
      have hd2 : DirsR w w.heap.size (.slice D2 d.dirs.length g2) d.dirs := by rw [← t2]; exact hdr'.dirs
      have G'0 := Lib.hid ((hcell' 0 (by omega)).trans (by rw [hdr'.name]) : w.cell? (a'.add (j * 10)) = some (.string d.name))
      have G'1 := Lib.hid ((hcell' 1 (by omega)).trans (by rw [hdr'.type.name]) : w.cell? ⟨(a'.add (j * 10)).block, (a'.add (j * 10)).off + 1, none⟩ = some (.string d.tn))
      have G'2 := Lib.hid ((hcell' 2 (by omega)).trans (by rw [u2]) : w.cell? ⟨(a'.add (j * 10)).block, (a'.add (j * 10)).off + 2, none⟩ = some (.slice A2 d.tw.length d2))
      have G'3 := Lib.hid ((hcell' 3 (by omega)).trans (by rw [hdr'.has]) : w.cell? ⟨(a'.add (j * 10)).block, (a'.add (j * 10)).off + 3, none⟩ = some (.bool d.has))
      have G'4 := Lib.hid ((hcell' 4 (by omega)).trans (by rw [e21]) : w.cell? ⟨(a'.add (j * 10)).block, (a'.add (j * 10)).off + 4, none⟩ = some (.int .i64 k2))
      have G'5 := Lib.hid ((hcell' 5 (by omega)).trans (by rw [e22]) : w.cell? ⟨(a'.add (j * 10)).block, (a'.add (j * 10)).off + 5, none⟩ = some (.int .i64 n2))
      have G'6 := Lib.hid ((hcell' 6 (by omega)).trans (by rw [e23]) : w.cell? ⟨(a'.add (j * 10)).block, (a'.add (j * 10)).off + 6, none⟩ = some (.string s2))
      have G'7 := Lib.hid ((hcell' 7 (by omega)).trans (by rw [e24]) : w.cell? ⟨(a'.add (j * 10)).block, (a'.add (j * 10)).off + 7, none⟩ = some (.slice B2 li2 ci2))
      have G'8 := Lib.hid ((hcell' 8 (by omega)).trans (by rw [e25]) : w.cell? ⟨(a'.add (j * 10)).block, (a'.add (j * 10)).off + 8, none⟩ = some (.slice K2 lk2 ck2))
      have G'9 := Lib.hid ((hcell' 9 (by omega)).trans (by rw [t2]) : w.cell? ⟨(a'.add (j * 10)).block, (a'.add (j * 10)).off + 9, none⟩ = some (.slice D2 d.dirs.length g2))
      have hwl := HW.out d (List.mem_of_getElem? hd)
      have HS := Lib.hid (fun (W : World) (hW : Below w.heap.size w W) => (by
        have := K.rsame2_any d.tn d.tn d.tw d.tw _ _ W ((ref_of hr1).kept hW |>.mono hW.size) ((ref_of hr2).kept hW |>.mono hW.size) hwl
        rw [decide_eq_true ⟨rfl, rfl⟩] at this
        exact this : Calls Tryz.prog 69 #[.agg #[.string d.tn, .slice A1 d.tw.length d1], .agg #[.string d.tn, .slice A2 d.tw.length d2]] W (K.BoolPost true W)))
      have HE := Lib.hid (fun (W : World) (hW : Below w.heap.size w W) => equal_any d.dflt W w.heap.size _ _ (hv1.kept hW) (hv2.kept hW) hW.size)
      have HDD := Lib.hid (fun (W : World) (hW : Below w.heap.size w W) => equalDirs_any d.dirs _ _ W ((hd1.kept hW).mono hW.size) ((hd2.kept hW).mono hW.size))
      have hxx : decide (d.name = d.name) = true := by simp
      have HAB := Lib.hid ha
      have HAB' := Lib.hid ha'
      clear hx hx' hdr hdr' hcell hcell' ha ha' hd hwl hv1 hv2 hr1 hr2 hd1 hd2 u1 u2 t1 t2 e11 e12 e13 e14 e15 e21 e22 e23 e24 e25
      generalize d.name = nm at *
      generalize d.tn = tn at *
      generalize d.tw.length = lw at *
      generalize d.has = has at *
      generalize d.dirs.length = ld at *
      go_wp2_with fail
      refine wp_region_past (fun W => Below w.heap.size w W) hq.out (by kernel_rfl) ?_
      intro W hW _
      have r10 : ∀ x : Past W, x.w.cell? (a.add (j * 10)) = some (.string nm) := fun x => (pastc hW x hW.size (p := (a.add (j * 10))) (by rw [add_block]; exact HAB.out)).trans G0.out
      have r11 : ∀ x : Past W, x.w.cell? ⟨(a.add (j * 10)).block, (a.add (j * 10)).off + 1, none⟩ = some (.string tn) := fun x => (pastc hW x hW.size (p := ⟨(a.add (j * 10)).block, (a.add (j * 10)).off + 1, none⟩) (by rw [add_block]; exact HAB.out)).trans G1.out
      have r12 : ∀ x : Past W, x.w.cell? ⟨(a.add (j * 10)).block, (a.add (j * 10)).off + 2, none⟩ = some (.slice A1 lw d1) := fun x => (pastc hW x hW.size (p := ⟨(a.add (j * 10)).block, (a.add (j * 10)).off + 2, none⟩) (by rw [add_block]; exact HAB.out)).trans G2.out
      have r13 : ∀ x : Past W, x.w.cell? ⟨(a.add (j * 10)).block, (a.add (j * 10)).off + 3, none⟩ = some (.bool has) := fun x => (pastc hW x hW.size (p := ⟨(a.add (j * 10)).block, (a.add (j * 10)).off + 3, none⟩) (by rw [add_block]; exact HAB.out)).trans G3.out
      have r14 : ∀ x : Past W, x.w.cell? ⟨(a.add (j * 10)).block, (a.add (j * 10)).off + 4, none⟩ = some (.int .i64 k1) := fun x => (pastc hW x hW.size (p := ⟨(a.add (j * 10)).block, (a.add (j * 10)).off + 4, none⟩) (by rw [add_block]; exact HAB.out)).trans G4.out
      have r15 : ∀ x : Past W, x.w.cell? ⟨(a.add (j * 10)).block, (a.add (j * 10)).off + 5, none⟩ = some (.int .i64 n1) := fun x => (pastc hW x hW.size (p := ⟨(a.add (j * 10)).block, (a.add (j * 10)).off + 5, none⟩) (by rw [add_block]; exact HAB.out)).trans G5.out
      have r16 : ∀ x : Past W, x.w.cell? ⟨(a.add (j * 10)).block, (a.add (j * 10)).off + 6, none⟩ = some (.string s1) := fun x => (pastc hW x hW.size (p := ⟨(a.add (j * 10)).block, (a.add (j * 10)).off + 6, none⟩) (by rw [add_block]; exact HAB.out)).trans G6.out
      have r17 : ∀ x : Past W, x.w.cell? ⟨(a.add (j * 10)).block, (a.add (j * 10)).off + 7, none⟩ = some (.slice B1 li1 ci1) := fun x => (pastc hW x hW.size (p := ⟨(a.add (j * 10)).block, (a.add (j * 10)).off + 7, none⟩) (by rw [add_block]; exact HAB.out)).trans G7.out
      have r18 : ∀ x : Past W, x.w.cell? ⟨(a.add (j * 10)).block, (a.add (j * 10)).off + 8, none⟩ = some (.slice K1 lk1 ck1) := fun x => (pastc hW x hW.size (p := ⟨(a.add (j * 10)).block, (a.add (j * 10)).off + 8, none⟩) (by rw [add_block]; exact HAB.out)).trans G8.out
      have r19 : ∀ x : Past W, x.w.cell? ⟨(a.add (j * 10)).block, (a.add (j * 10)).off + 9, none⟩ = some (.slice D1 ld g1) := fun x => (pastc hW x hW.size (p := ⟨(a.add (j * 10)).block, (a.add (j * 10)).off + 9, none⟩) (by rw [add_block]; exact HAB.out)).trans G9.out
      have r20 : ∀ x : Past W, x.w.cell? (a'.add (j * 10)) = some (.string nm) := fun x => (pastc hW x hW.size (p := (a'.add (j * 10))) (by rw [add_block]; exact HAB'.out)).trans G'0.out
      have r21 : ∀ x : Past W, x.w.cell? ⟨(a'.add (j * 10)).block, (a'.add (j * 10)).off + 1, none⟩ = some (.string tn) := fun x => (pastc hW x hW.size (p := ⟨(a'.add (j * 10)).block, (a'.add (j * 10)).off + 1, none⟩) (by rw [add_block]; exact HAB'.out)).trans G'1.out
      have r22 : ∀ x : Past W, x.w.cell? ⟨(a'.add (j * 10)).block, (a'.add (j * 10)).off + 2, none⟩ = some (.slice A2 lw d2) := fun x => (pastc hW x hW.size (p := ⟨(a'.add (j * 10)).block, (a'.add (j * 10)).off + 2, none⟩) (by rw [add_block]; exact HAB'.out)).trans G'2.out
      have r23 : ∀ x : Past W, x.w.cell? ⟨(a'.add (j * 10)).block, (a'.add (j * 10)).off + 3, none⟩ = some (.bool has) := fun x => (pastc hW x hW.size (p := ⟨(a'.add (j * 10)).block, (a'.add (j * 10)).off + 3, none⟩) (by rw [add_block]; exact HAB'.out)).trans G'3.out
      have r24 : ∀ x : Past W, x.w.cell? ⟨(a'.add (j * 10)).block, (a'.add (j * 10)).off + 4, none⟩ = some (.int .i64 k2) := fun x => (pastc hW x hW.size (p := ⟨(a'.add (j * 10)).block, (a'.add (j * 10)).off + 4, none⟩) (by rw [add_block]; exact HAB'.out)).trans G'4.out
      have r25 : ∀ x : Past W, x.w.cell? ⟨(a'.add (j * 10)).block, (a'.add (j * 10)).off + 5, none⟩ = some (.int .i64 n2) := fun x => (pastc hW x hW.size (p := ⟨(a'.add (j * 10)).block, (a'.add (j * 10)).off + 5, none⟩) (by rw [add_block]; exact HAB'.out)).trans G'5.out
      have r26 : ∀ x : Past W, x.w.cell? ⟨(a'.add (j * 10)).block, (a'.add (j * 10)).off + 6, none⟩ = some (.string s2) := fun x => (pastc hW x hW.size (p := ⟨(a'.add (j * 10)).block, (a'.add (j * 10)).off + 6, none⟩) (by rw [add_block]; exact HAB'.out)).trans G'6.out
      have r27 : ∀ x : Past W, x.w.cell? ⟨(a'.add (j * 10)).block, (a'.add (j * 10)).off + 7, none⟩ = some (.slice B2 li2 ci2) := fun x => (pastc hW x hW.size (p := ⟨(a'.add (j * 10)).block, (a'.add (j * 10)).off + 7, none⟩) (by rw [add_block]; exact HAB'.out)).trans G'7.out
      have r28 : ∀ x : Past W, x.w.cell? ⟨(a'.add (j * 10)).block, (a'.add (j * 10)).off + 8, none⟩ = some (.slice K2 lk2 ck2) := fun x => (pastc hW x hW.size (p := ⟨(a'.add (j * 10)).block, (a'.add (j * 10)).off + 8, none⟩) (by rw [add_block]; exact HAB'.out)).trans G'8.out
      have r29 : ∀ x : Past W, x.w.cell? ⟨(a'.add (j * 10)).block, (a'.add (j * 10)).off + 9, none⟩ = some (.slice D2 ld g2) := fun x => (pastc hW x hW.size (p := ⟨(a'.add (j * 10)).block, (a'.add (j * 10)).off + 9, none⟩) (by rw [add_block]; exact HAB'.out)).trans G'9.out
      have k1' : ∀ x : Past W, Calls Tryz.prog 69 #[.agg #[.string tn, .slice A1 lw d1], .agg #[.string tn, .slice A2 lw d2]] x.w fun e w'' => e = .returned (.bool true) ∧ ∃ y : Past W, w'' = y.w := fun x => past_of x (HS.out _ (hW.trans (x.b.mono hW.size)))
      have k2' : ∀ x : Past W, Calls Tryz.prog 129 #[.agg #[.int .i64 k1, .int .i64 n1, .string s1, .slice B1 li1 ci1, .slice K1 lk1 ck1], .agg #[.int .i64 k2, .int .i64 n2, .string s2, .slice B2 li2 ci2, .slice K2 lk2 ck2]] x.w fun e w'' => e = .returned (.bool true) ∧ ∃ y : Past W, w'' = y.w := fun x => past_of x (HE.out _ (hW.trans (x.b.mono hW.size)))
      have k3' : ∀ x : Past W, Calls Tryz.prog 67 #[.slice D1 ld g1, .slice D2 ld g2] x.w fun e w'' => e = .returned (.bool true) ∧ ∃ y : Past W, w'' = y.w := fun x => past_of x (HDD.out _ (hW.trans (x.b.mono hW.size)))
      have C1 := Lib.hid k1'
      have C2 := Lib.hid k2'
      have C3 := Lib.hid k3'
      have HWW := Lib.hid hW
      clear hW k1' k2' k3' hq
      repeat (go_big_quiet_step (first | with_reducible exact C1.out _ | with_reducible exact C2.out _ | with_reducible exact C3.out _))
      refine wpQuiet_nil ?_
      intro _ hw'
      obtain ⟨y, rfl⟩ := hw'
      go_wp2_with fail
      go_roundw
      case rel => exact ⟨j + 1, by omega, by go_num, Lib.hid (HWW.out.trans (y.b.mono HWW.out.size))⟩
      case measure => simp [intOf]; omega
    · have hlt' : ¬ (j : Int) < ll := by omega
      go_wp2_with fail
      go_ret
      exact ⟨rfl, hq.out⟩
end Go.Proofs.YthjoelpfmimedaaGreatDoor
