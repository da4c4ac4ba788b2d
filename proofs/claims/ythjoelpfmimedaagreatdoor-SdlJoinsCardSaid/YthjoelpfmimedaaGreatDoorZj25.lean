
/-
  Texts joined: I8 Law06e.
-/
import Derived.Test.YthjoelpfmimedaaGreatDoorZj20
import Derived.Test.YthjoelpfmimedaaGreatDoorZj24
namespace Go.Proofs.YthjoelpfmimedaaGreatDoor
open Go.RowKit
def exT : List UInt8 := [116, 121, 112, 101, 32, 65, 32, 123, 32, 120, 40, 97, 58, 32, 73, 110, 116, 32, 61, 32, 49, 41, 58, 32, 91, 73, 110, 116, 33, 93, 32, 64, 98, 32, 125]
def exU : List UInt8 := [116, 121, 112, 101, 32, 65, 32, 123, 32, 125]
def exI : InpT := ⟨⟨#[97]⟩, ⟨#[73, 110, 116]⟩, [], true, .mk 2 1 ⟨#[]⟩ [] [], []⟩
def exF : FldT := ⟨⟨#[120]⟩, [exI], ⟨#[73, 110, 116]⟩, [2, 1], [⟨⟨#[98]⟩, []⟩]⟩
def exD : DefT := ⟨1, ⟨#[65]⟩, [], [], [exF], [], []⟩
theorem ex_ok : sdlR exT = .ok [exD] := by kernel_rfl
theorem ex_bad : sdlR exU = .error (9, 3) := by kernel_rfl
theorem exD_ok : docOk [exD] = true := by kernel_rfl
theorem ex_nil : docOk [] = false := by kernel_rfl
theorem Sl.one {α : Type} {k bytes : Nat} {R : World → Nat → (Nat → Value) → α → Prop} {w : World} {B : Nat} {v : Value} {x : α} (h : Sl k bytes R w B v [x]) : ∃ a c f, v = .slice (some a) 1 c ∧ 1 ≤ c ∧ a.block < B ∧ (∀ j, j < k → w.cell? (at_ a j) = some (f j)) ∧ R w B f x := by
  obtain ⟨A, c, e, hc, _, V, hA, hr⟩ := h
  obtain ⟨a, rfl, ha, hx⟩ := hA (by simp)
  refine ⟨a, c, V 0, e, hc, ha, fun j hj => ?_, hr 0 x rfl⟩
  have := hx 0 (by simp) j hj
  rw [Nat.zero_mul, show a.add 0 = a by simp [Addr.add]] at this
  exact this
structure ExAt (w : World) (B : Nat) (v : Value) (a0 a1 a2 : Addr) (c0 c1 c2 : Nat) (A3 A4 : Option Addr) (c3 c4 : Nat) : Prop where
  v : v = .slice (some a0) 1 c0
  b0 : a0.block < B
  b1 : a1.block < B
  b2 : a2.block < B
  d0 : 1 ≤ c0
  d1 : 1 ≤ c1
  d2 : 1 ≤ c2
  n : w.cell? (at_ a0 1) = some (.string ⟨#[65]⟩)
  f : w.cell? (at_ a0 4) = some (.slice (some a1) 1 c1)
  f0 : w.cell? (at_ a1 0) = some (.string ⟨#[120]⟩)
  f1 : w.cell? (at_ a1 1) = some (.slice (some a2) 1 c2)
  f2 : w.cell? (at_ a1 2) = some (.string ⟨#[73, 110, 116]⟩)
  f3 : w.cell? (at_ a1 3) = some (.slice A3 2 c3)
  f4 : w.cell? (at_ a1 4) = some (.slice A4 1 c4)
  i3 : w.cell? (at_ a2 3) = some (.bool true)
  i5 : w.cell? (at_ a2 5) = some (.int .i64 1)
theorem ExAt.of {w : World} {B : Nat} {v : Value} (h : DefsR w B v [exD]) : ∃ a0 a1 a2 c0 c1 c2 A3 A4 c3 c4, ExAt w B v a0 a1 a2 c0 c1 c2 A3 A4 c3 c4 := by
  obtain ⟨a0, c0, f, e0, d0, b0, hf, hd⟩ := Sl.one h
  obtain ⟨a1, c1, g, e1, d1, b1, hg, hh⟩ := Sl.one (hd.fields : Sl _ _ _ _ _ _ [exF])
  obtain ⟨a2, c2, i, e2, d2, b2, hi, hk⟩ := Sl.one (hh.args : Sl _ _ _ _ _ _ [exI])
  obtain ⟨A3, c3, e3, _⟩ := hh.type.wraps.form
  obtain ⟨A4, c4, e4, _⟩ := hh.dirs.form
  have hv := hk.val
  have h5 : i 5 = .int .i64 1 := by
    generalize hz : (Value.agg #[i 4, i 5, i 6, i 7, i 8]) = z at hv
    cases hv with
    | mk V => simp only [Value.agg.injEq, Array.mk.injEq, List.cons.injEq] at hz; exact hz.2.1
  exact ⟨a0, a1, a2, c0, c1, c2, A3, A4, c3, c4, e0, b0, b1, b2, d0, d1, d2, (hf 1 (by omega)).trans (by rw [hd.name]; rfl), (hf 4 (by omega)).trans (by rw [e1]), (hg 0 (by omega)).trans (by rw [hh.name]; rfl), (hg 1 (by omega)).trans (by rw [e2]), (hg 2 (by omega)).trans (by rw [hh.type.name]; rfl), (hg 3 (by omega)).trans (by rw [e3]; rfl), (hg 4 (by omega)).trans (by rw [e4]; rfl), (hi 3 (by omega)).trans (by rw [hk.has]; rfl), (hi 5 (by omega)).trans (by rw [h5])⟩
theorem ExAt.kept {w w' : World} {B : Nat} {v : Value} {a0 a1 a2 : Addr} {c0 c1 c2 : Nat} {A3 A4 : Option Addr} {c3 c4 : Nat} (h : ExAt w B v a0 a1 a2 c0 c1 c2 A3 A4 c3 c4) (hb : Below B w w') : ExAt w' B v a0 a1 a2 c0 c1 c2 A3 A4 c3 c4 := by
  have k0 : ∀ j, w'.cell? (at_ a0 j) = w.cell? (at_ a0 j) := fun j => hb.cell (by rw [at_block]; exact h.b0)
  have k1 : ∀ j, w'.cell? (at_ a1 j) = w.cell? (at_ a1 j) := fun j => hb.cell (by rw [at_block]; exact h.b1)
  have k2 : ∀ j, w'.cell? (at_ a2 j) = w.cell? (at_ a2 j) := fun j => hb.cell (by rw [at_block]; exact h.b2)
  exact ⟨h.v, h.b0, h.b1, h.b2, h.d0, h.d1, h.d2, (k0 1).trans h.n, (k0 4).trans h.f, (k1 0).trans h.f0, (k1 1).trans h.f1, (k1 2).trans h.f2, (k1 3).trans h.f3, (k1 4).trans h.f4, (k2 3).trans h.i3, (k2 5).trans h.i5⟩
theorem parse_ok {s : ByteArray} {l : List DefT} {w : World} (hL : K.LK w) (h : sdlR s.data.toList = .ok l) : Calls Tryz.prog 12 #[.string s] w fun e w' => Below w.heap.size w w' ∧ ∃ v, e = .returned (.tuple #[.agg #[v], .int .i64 0, .int .i64 0]) ∧ DefsC w' (fun b => w.heap.size ≤ b ∧ b < w'.heap.size) v l := by
  refine (sdlparse_any s w hL).mono fun e w' hh => ?_
  unfold ParsePost at hh
  rw [h] at hh
  exact hh
theorem parse_err {s : ByteArray} {x : Er} {w : World} (hL : K.LK w) (h : sdlR s.data.toList = .error x) : Calls Tryz.prog 12 #[.string s] w fun e w' => Below w.heap.size w w' ∧ e = .returned (.tuple #[.agg #[.slice none 0 0], .int .i64 x.1, .int .i64 x.2]) := by
  refine (sdlparse_any s w hL).mono fun e w' hh => ?_
  unfold ParsePost at hh
  rw [h] at hh
  exact hh
theorem exT_at : (⟨exT.toArray⟩ : ByteArray).data.toList = exT := by simp
theorem exU_at : (⟨exU.toArray⟩ : ByteArray).data.toList = exU := by simp
theorem parse_exT (w : World) (hL : K.LK w) : Calls Tryz.prog 12 #[.string ⟨exT.toArray⟩] w fun e w' => Below w.heap.size w w' ∧ ∃ v, e = .returned (.tuple #[.agg #[v], .int .i64 0, .int .i64 0]) ∧ DefsC w' (fun b => w.heap.size ≤ b ∧ b < w'.heap.size) v [exD] :=
  parse_ok hL ((congrArg sdlR exT_at).trans ex_ok)
theorem parse_exU (w : World) (hL : K.LK w) : Calls Tryz.prog 12 #[.string ⟨exU.toArray⟩] w fun e w' => Below w.heap.size w w' ∧ e = .returned (.tuple #[.agg #[.slice none 0 0], .int .i64 9, .int .i64 3]) :=
  parse_err (x := (9, 3)) hL ((congrArg sdlR exU_at).trans ex_bad)
theorem DefsR_stay {w w' : World} {v : Value} {l : List DefT} (h : DefsR w w.heap.size v l) (hb : Below w.heap.size w w') : DefsR w' w'.heap.size v l := (DefsR.kept h hb).mono hb.size
theorem DefsR_nil (w : World) (B : Nat) : DefsR w B (.slice none 0 0) [] := ⟨none, 0, rfl, Nat.le_refl _, by simp, fun _ _ => undef, fun h => absurd h (by simp), fun i x h => by simp at h⟩
set_option maxRecDepth 100000 in
set_option maxHeartbeats 2000000 in
theorem example_any (w : World) (hL : K.LK w) : Calls Tryz.prog 11 #[] w fun e w' => e = .returned (.bool true) ∧ Below w.heap.size w w' := by
  have HL := Lib.hid hL
  have H1 := Lib.hid (parse_exT w hL)
  have H2 := Lib.hid parse_exU
  clear hL
  go_enter Tryz.func11, Tryz.ntmps11
  go_wp2_with fail
  refine H1.out.mono ?_
  rintro e w1 ⟨hb1, v, rfl, hx⟩
  have hr : DefsR w1 w1.heap.size v [exD] := DefsC.toR (fun b hb => hb.2) hx
  obtain ⟨a0, a1, a2, c0, c1, c2, A3, A4, c3, c4, hea⟩ := ExAt.of hr
  obtain rfl := hea.v
  have HR := Lib.hid hr
  have HEA := Lib.hid hea
  have HB1 := Lib.hid hb1
  clear hx hr hea hb1
  go_wp2_with fail
  refine (H2.out _ (HL.out.below (HB1.out.trans ((below_new w1 _).mono HB1.out.size)))).mono ?_
  rintro e w2 ⟨hb2, rfl⟩
  have b2 : Below w1.heap.size w1 w2 := (below_new w1 _).trans (hb2.mono (by rw [World.size_alloc]; omega))
  have hX := (Bk.new w1 #[.slice (some a0) 1 c0] 24).stay hb2
  have hea := HEA.out.kept (w' := w2.alloc (.cells #[.slice none 0 0] 24 (0, 0))) (b2.trans ((below_new w2 _).mono b2.size))
  have HX := Lib.hid (hX.stay (below_new w2 (.cells #[.slice none 0 0] 24 (0, 0))))
  have HEB := Lib.hid hea
  have q0 := HX.out.cell 0 _ rfl
  have q1 : (w2.alloc (.cells #[.slice none 0 0] 24 (0, 0))).cell? ⟨a0.block, a0.off + 1, none⟩ = some (.string ⟨#[65]⟩) := hea.n
  have q2 : (w2.alloc (.cells #[.slice none 0 0] 24 (0, 0))).cell? ⟨a0.block, a0.off + 4, none⟩ = some (.slice (some a1) 1 c1) := hea.f
  have q3 : (w2.alloc (.cells #[.slice none 0 0] 24 (0, 0))).cell? a1 = some (.string ⟨#[120]⟩) := hea.f0
  have q4 : (w2.alloc (.cells #[.slice none 0 0] 24 (0, 0))).cell? ⟨a1.block, a1.off + 1, none⟩ = some (.slice (some a2) 1 c2) := hea.f1
  have q5 : (w2.alloc (.cells #[.slice none 0 0] 24 (0, 0))).cell? ⟨a1.block, a1.off + 2, none⟩ = some (.string ⟨#[73, 110, 116]⟩) := hea.f2
  have q6 : (w2.alloc (.cells #[.slice none 0 0] 24 (0, 0))).cell? ⟨a1.block, a1.off + 3, none⟩ = some (.slice A3 2 c3) := hea.f3
  have q7 : (w2.alloc (.cells #[.slice none 0 0] 24 (0, 0))).cell? ⟨a1.block, a1.off + 4, none⟩ = some (.slice A4 1 c4) := hea.f4
  have q8 : (w2.alloc (.cells #[.slice none 0 0] 24 (0, 0))).cell? ⟨a2.block, a2.off + 3, none⟩ = some (.bool true) := hea.i3
  have q9 : (w2.alloc (.cells #[.slice none 0 0] 24 (0, 0))).cell? ⟨a2.block, a2.off + 5, none⟩ = some (.int .i64 1) := hea.i5
  have d0 := hea.d0
  have d1 := hea.d1
  have d2 := hea.d2
  have hs2 := b2.size
  have HB2 := Lib.hid b2
  clear hX hea hb2 b2
  have hXF := HX.out.stay (below_new (w2.alloc (.cells #[.slice none 0 0] 24 (0, 0))) (.cells #[.string ⟨#[120]⟩, .slice (some a2) 1 c2, .string ⟨#[73, 110, 116]⟩, .slice A3 2 c3, .slice A4 1 c4] 52 (0, 0)))
  have p0 := hXF.cell 0 _ rfl
  have HXF := Lib.hid hXF
  have hFB := Bk.new (w2.alloc (.cells #[.slice none 0 0] 24 (0, 0))) #[.string ⟨#[120]⟩, .slice (some a2) 1 c2, .string ⟨#[73, 110, 116]⟩, .slice A3 2 c3, .slice A4 1 c4] 52
  rw [World.size_alloc] at hFB
  have HFB := Lib.hid hFB
  have hb3 : Below w1.heap.size w1 ((w2.alloc (.cells #[.slice none 0 0] 24 (0, 0))).alloc (.cells #[.string ⟨#[120]⟩, .slice (some a2) 1 c2, .string ⟨#[73, 110, 116]⟩, .slice A3 2 c3, .slice A4 1 c4] 52 (0, 0))) := (HB2.out.trans ((below_new w2 _).mono HB2.out.size)).trans ((below_new _ _).mono (by rw [World.size_alloc]; omega))
  have HB3 := Lib.hid hb3
  have HS3 : Hid (w1.heap.size ≤ ((w2.alloc (.cells #[.slice none 0 0] 24 (0, 0))).alloc (.cells #[.string ⟨#[120]⟩, .slice (some a2) 1 c2, .string ⟨#[73, 110, 116]⟩, .slice A3 2 c3, .slice A4 1 c4] 52 (0, 0))).heap.size) := Lib.hid hb3.size
  clear hXF hFB hb3
  go_wp2_with fail
  have hrt : Calls Tryz.prog 9 #[.agg #[.slice (some a0) 1 c0]] ((w2.alloc (.cells #[.slice none 0 0] 24 (0, 0))).alloc (.cells #[.string ⟨#[120]⟩, .slice (some a2) 1 c2, .string ⟨#[73, 110, 116]⟩, .slice A3 2 c3, .slice A4 1 c4] 52 (0, 0))) (BP true ((w2.alloc (.cells #[.slice none 0 0] 24 (0, 0))).alloc (.cells #[.string ⟨#[120]⟩, .slice (some a2) 1 c2, .string ⟨#[73, 110, 116]⟩, .slice A3 2 c3, .slice A4 1 c4] 52 (0, 0)))) := by
    have hh := sright_any [exD] (.slice (some a0) 1 c0) ((w2.alloc (.cells #[.slice none 0 0] 24 (0, 0))).alloc (.cells #[.string ⟨#[120]⟩, .slice (some a2) 1 c2, .string ⟨#[73, 110, 116]⟩, .slice A3 2 c3, .slice A4 1 c4] 52 (0, 0))) (DefsR_stay HR.out HB3.out)
    rw [exD_ok] at hh
    exact hh
  refine hrt.mono ?_
  clear hrt p0 q0 q1 q2 q3 q4 q5 q6 q7 q8 q9
  generalize hW3 : ((w2.alloc (.cells #[.slice none 0 0] 24 (0, 0))).alloc (.cells #[.string ⟨#[120]⟩, .slice (some a2) 1 c2, .string ⟨#[73, 110, 116]⟩, .slice A3 2 c3, .slice A4 1 c4] 52 (0, 0))) = W3 at *
  clear hW3
  rintro e w4 ⟨rfl, hb4⟩
  have HB4 := Lib.hid hb4
  clear hb4
  go_wp2_with fail
  have hrt : Calls Tryz.prog 9 #[.agg #[.slice none 0 0]] w4 (BP false w4) := by
    have hh := sright_any [] (.slice none 0 0) w4 (DefsR_nil _ _)
    rw [ex_nil] at hh
    exact hh
  refine hrt.mono ?_
  clear hrt
  rintro e w5 ⟨rfl, hb5⟩
  have hb35 : Below W3.heap.size W3 w5 := HB4.out.trans (hb5.mono HB4.out.size)
  have hea := HEA.out.kept (HB3.out.trans (hb35.mono HS3.out))
  have hXF := HXF.out.stay hb35
  have hFB := HFB.out.stay hb35
  have p0 := hXF.cell 0 _ rfl
  have r0 := hFB.cell 0 _ rfl
  have r1 := hFB.cell 1 _ rfl
  have r2 := hFB.cell 2 _ rfl
  have r3 := hFB.cell 3 _ rfl
  have r4 := hFB.cell 4 _ rfl
  have q1 : w5.cell? ⟨a0.block, a0.off + 1, none⟩ = some (.string ⟨#[65]⟩) := hea.n
  have q8 : w5.cell? ⟨a2.block, a2.off + 3, none⟩ = some (.bool true) := hea.i3
  have q9 : w5.cell? ⟨a2.block, a2.off + 5, none⟩ = some (.int .i64 1) := hea.i5
  have d0 := hea.d0
  have d2 := hea.d2
  have HB5 := Lib.hid ((HB1.out.trans (HB3.out.mono HB1.out.size)).trans (hb35.mono (Nat.le_trans HB1.out.size HS3.out)))
  clear hb35 hb5 hea hXF hFB
  go_wp2_with fail
  exact bodyPost_ret (v := .bool true) (by simp [results, Tryz.results11, go_sem]) rfl ⟨rfl, HB5.out⟩
end Go.Proofs.YthjoelpfmimedaaGreatDoor
namespace Go.Proofs.YthjoelpfmimedaaGreatDoor
open Go.RowKit
theorem own_off {w w' : World} {base : Nat} {T : TypeId} {size : Nat} {v : Value} {n : Nat} {xs : List Value} (h : w.ownsRow base T size v n xs) (hb : ∀ g, base ≤ g → w'.heap[g]? = w.heap[g]?) : w'.ownsRow base T size v n xs := by
  refine ⟨h.1, h.2.imp id ?_⟩
  rintro ⟨g, cap, cur, rfl, e2, e3, r⟩
  exact ⟨g, cap, cur, rfl, e2, (hb g e2).trans e3, r⟩
theorem Bk.keep {W W' : World} {b n : Nat} {cs : Array Value} {T : TypeId} (h : Bk W b cs T) (hb : Below n W W') (hn : b < n) : Bk W' b cs T := (hb.block b hn).trans h
theorem example_end {w W w' : World} {e : Ending} (hW : Below w.heap.size w W) (h : e = .returned (.bool true) ∧ Below W.heap.size W w') : e = .returned (.bool true) ∧ Below w.heap.size w w' := ⟨h.1, hW.trans (h.2.mono hW.size)⟩
theorem parse_form {w w' : World} {e : Ending} {s : List UInt8} (h : ParsePost w (sdlR s) e w') : ∃ (A : Option Addr) (la c : Nat) (pa ca : Int), e = .returned (.tuple #[.agg #[.slice A la c], .int .i64 pa, .int .i64 ca]) ∧ Below w.heap.size w w' ∧ la ≤ 64 ∧ (ca ≠ 0 ∨ (ca = 0 ∧ pa = 0 ∧ ∃ l, sdlR s = .ok l ∧ la = l.length ∧ DefsC w' (fun b => w.heap.size ≤ b ∧ b < w'.heap.size) (.slice A la c) l)) := by
  obtain ⟨hb, h⟩ := h
  cases hr : sdlR s with
  | error x =>
    rw [hr] at h
    subst h
    exact ⟨none, 0, 0, _, _, rfl, hb, by omega, .inl (sdl_nz hr)⟩
  | ok l =>
    rw [hr] at h
    obtain ⟨v, rfl, hd⟩ := h
    obtain ⟨A, c, rfl, _⟩ := SlS.form hd
    exact ⟨A, l.length, c, 0, 0, rfl, hb, (sdl_w hr).2, .inr ⟨rfl, rfl, l, rfl, rfl, hd⟩⟩
set_option maxRecDepth 100000 in
set_option maxHeartbeats 4000000 in
theorem joins_any (s t : ByteArray) (w : World) (hL : K.LK w) (hs : s.size ≤ 281474976710656) (ht : t.size ≤ 281474976710656) : Calls Tryz.prog 6 #[.string s, .string t] w fun e w' => e = .returned (.bool true) ∧ Below w.heap.size w w' := by
  have HL := Lib.hid hL
  have CE := Lib.hid (fun (W : World) (hW : Below w.heap.size w W) => (example_any W (HL.out.below hW)).mono fun e w' h => example_end hW h)
  clear hL
  by_cases h1 : s.size ≤ 4000
  rotate_left
  · have g1 : decide ((4000 : Int) < (s.size : Int)) = true := by simp; omega
    go_enter Tryz.func6, Tryz.ntmps6
    go_wp2_with fail
    refine (CE.out w (Below.refl _ _)).mono ?_
    rintro e w' ⟨rfl, hb⟩
    go_wp2_with fail
    exact bodyPost_ret (v := .bool true) (by simp [results, Tryz.results6, go_sem]) rfl ⟨rfl, hb⟩
  by_cases h2 : t.size ≤ 4000
  rotate_left
  · have g1 : decide ((4000 : Int) < (s.size : Int)) = false := by simp; omega
    have g2 : decide ((4000 : Int) < (t.size : Int)) = true := by simp; omega
    go_enter Tryz.func6, Tryz.ntmps6
    go_wp2_with fail
    refine (CE.out w (Below.refl _ _)).mono ?_
    rintro e w' ⟨rfl, hb⟩
    go_wp2_with fail
    exact bodyPost_ret (v := .bool true) (by simp [results, Tryz.results6, go_sem]) rfl ⟨rfl, hb⟩
  have g1 : decide ((4000 : Int) < (s.size : Int)) = false := by simp; omega
  have g2 : decide ((4000 : Int) < (t.size : Int)) = false := by simp; omega
  have PS := Lib.hid (sdlparse_any s w HL.out)
  have PT := Lib.hid (fun (W : World) (hW : Below w.heap.size w W) => sdlparse_any t W (HL.out.below hW))
  go_enter Tryz.func6, Tryz.ntmps6
  go_wp2_with fail
  refine PS.out.mono ?_
  rintro e w1 hp1
  obtain ⟨A1, la, c1, pa, ca, rfl, hb1, hla, hr1⟩ := parse_form hp1
  have HB1 := Lib.hid hb1
  have HR1 := Lib.hid hr1
  clear hp1 hb1 hr1
  go_wp2_with fail
  refine (PT.out _ (HB1.out.trans ((below_new w1 _).mono HB1.out.size))).mono ?_
  rintro e w2 hp2
  obtain ⟨A2, lb, c2, pb, cb, rfl, hb2, hlb, hr2⟩ := parse_form hp2
  have HB2 := Lib.hid hb2
  have HR2 := Lib.hid hr2
  have HXA := Lib.hid ((Bk.new w1 #[.slice A1 la c1] 24).stay hb2)
  clear hp2 hr2 hb2
  have hs2 := HB2.out.size
  rw [World.size_alloc] at hs2
  have HXA2 := Lib.hid (HXA.out.stay (below_new w2 (.cells #[.slice A2 lb c2] 24 (0, 0))))
  have HXB := Lib.hid (Bk.new w2 #[.slice A2 lb c2] 24)
  have q0 := HXA2.out.cell 0 _ rfl
  have q1 := HXB.out.cell 0 _ rfl
  have HBW : Hid (Below w.heap.size w (w2.alloc (.cells #[.slice A2 lb c2] 24 (0, 0)))) := Lib.hid ((HB1.out.trans ((below_new w1 _).mono HB1.out.size)).trans ((HB2.out.trans ((below_new w2 _).mono HB2.out.size)).mono (by rw [World.size_alloc]; have := HB1.out.size; omega)))
  by_cases k1 : (ca != 0) = true
  · go_wp2_with fail
    refine (CE.out _ HBW.out).mono ?_
    rintro e w' ⟨rfl, hb⟩
    go_wp2_with fail
    exact bodyPost_ret (v := .bool true) (by simp [results, Tryz.results6, go_sem]) rfl ⟨rfl, hb⟩
  have k1 : (ca != 0) = false := by simpa using k1
  by_cases k2 : (cb != 0) = true
  · go_wp2_with fail
    refine (CE.out _ HBW.out).mono ?_
    rintro e w' ⟨rfl, hb⟩
    go_wp2_with fail
    exact bodyPost_ret (v := .bool true) (by simp [results, Tryz.results6, go_sem]) rfl ⟨rfl, hb⟩
  have k2 : (cb != 0) = false := by simpa using k2
  by_cases k3 : decide ((64 : Int) < (la : Int) + (lb : Int)) = true
  · go_wp2_with fail
    refine (CE.out _ HBW.out).mono ?_
    rintro e w' ⟨rfl, hb⟩
    go_wp2_with fail
    exact bodyPost_ret (v := .bool true) (by simp [results, Tryz.results6, go_sem]) rfl ⟨rfl, hb⟩
  have k3 : decide ((64 : Int) < (la : Int) + (lb : Int)) = false := by simpa using k3
  have hca : ca = 0 := by simpa using k1
  have hcb : cb = 0 := by simpa using k2
  obtain ⟨_, _, l, hl, hll, hdl⟩ : ca = 0 ∧ pa = 0 ∧ ∃ l, sdlR s.data.toList = .ok l ∧ la = l.length ∧ DefsC w1 (fun b => w.heap.size ≤ b ∧ b < w1.heap.size) (.slice A1 la c1) l := HR1.out.resolve_left (fun h => h hca)
  obtain ⟨_, _, m, hm, hmm, hdm⟩ : cb = 0 ∧ pb = 0 ∧ ∃ l, sdlR t.data.toList = .ok l ∧ lb = l.length ∧ DefsC w2 (fun b => (w1.alloc (.cells #[.slice A1 la c1] 24 (0, 0))).heap.size ≤ b ∧ b < w2.heap.size) (.slice A2 lb c2) l := HR2.out.resolve_left (fun h => h hcb)
  have hab : l.length + m.length ≤ 64 := by
    have : ¬ ((64 : Int) < (la : Int) + (lb : Int)) := of_decide_eq_false k3
    omega
  have hjn : sdlR (s ++ ⟨#[10]⟩ ++ t).data.toList = .ok (l ++ m) := by
    have h := sdl_join hl hm (by rw [T1.size_eq, T1.size_eq]; omega) hab
    rw [← h]
    congr 1
    simp [ByteArray.data_append]
  have hLW := HL.out.below HBW.out
  have PJ := Lib.hid (parse_ok hLW hjn)
  have HWL := Lib.hid (sdl_w hl).1
  have HWM := Lib.hid (sdl_w hm).1
  have hl0 : 0 < l.length := sdl_pos hl
  have hm0 : 0 < m.length := sdl_pos hm
  have HLL := Lib.hid hll
  have HMM := Lib.hid hmm
  have HDL := Lib.hid hdl
  have HDM := Lib.hid hdm
  have HAB := Lib.hid hab
  have HL0 := Lib.hid hl0
  have HM0 := Lib.hid hm0
  clear hll hmm hdl hdm hab hl0 hm0 hl hm hjn hLW HR1 HR2 PS PT hca hcb
  go_wp2_with fail
  refine PJ.out.mono ?_
  rintro e w3 ⟨hb3, v3, rfl, hd3⟩
  obtain ⟨A3, c3, rfl, hc3, _⟩ := SlS.form hd3
  generalize hlab : (l ++ m).length = lab at *
  have hs3 := hb3.size
  rw [World.size_alloc] at hs3
  have HB3 := Lib.hid hb3
  have HD3 := Lib.hid hd3
  have HLAB := Lib.hid hlab
  have b3b : Below w3.heap.size w3 ((w3.alloc (.cells #[.slice A3 lab c3] 24 (0, 0))).alloc (.cells #[.slice none 0 0] 24 (0, 0))) := (below_new w3 _).trans ((below_new _ _).mono (by rw [World.size_alloc]; omega))
  have HBB := Lib.hid b3b
  have r1 : Below w1.heap.size w1 ((w3.alloc (.cells #[.slice A3 lab c3] 24 (0, 0))).alloc (.cells #[.slice none 0 0] 24 (0, 0))) := (below_new w1 _).trans ((HB2.out.trans ((below_new w2 _).mono HB2.out.size)).mono (by rw [World.size_alloc]; omega) |>.trans ((HB3.out.mono (by rw [World.size_alloc]; omega)).trans (b3b.mono (by omega))))
  have r2 : Below w2.heap.size w2 ((w3.alloc (.cells #[.slice A3 lab c3] 24 (0, 0))).alloc (.cells #[.slice none 0 0] 24 (0, 0))) := (below_new w2 _).trans ((HB3.out.mono (by rw [World.size_alloc]; omega)).trans (b3b.mono (by omega)))
  have hdA : DefsC ((w3.alloc (.cells #[.slice A3 lab c3] 24 (0, 0))).alloc (.cells #[.slice none 0 0] 24 (0, 0))) (fun b => b < w3.heap.size) (.slice A1 la c1) l := SlS.kept DefC.stays HDL.out (fun b hb => r1.block b hb.2) (fun b hb => by have := hb.2; omega)
  have hdB : DefsC ((w3.alloc (.cells #[.slice A3 lab c3] 24 (0, 0))).alloc (.cells #[.slice none 0 0] 24 (0, 0))) (fun b => b < w3.heap.size) (.slice A2 lb c2) m := SlS.kept DefC.stays HDM.out (fun b hb => r2.block b hb.2) (fun b hb => by have := hb.2; omega)
  obtain ⟨a1, _, nA, ea, hrA⟩ := DefsC.row hdA HL0.out
  obtain ⟨a2, _, nB, eb, hrB⟩ := DefsC.row hdB HM0.out
  cases ea
  cases eb
  generalize hla2 : l.length = la at *
  generalize hlb2 : m.length = lb at *
  have HLA := Lib.hid hla2
  have HLB := Lib.hid hlb2
  have XA := (HXA2.out.stay hb3).stay b3b
  have XB := (HXB.out.stay hb3).stay b3b
  have XJ := (Bk.new w3 #[.slice A3 lab c3] 24).stay (below_new _ (.cells #[.slice none 0 0] 24 (0, 0)))
  have XL := Bk.new (w3.alloc (.cells #[.slice A3 lab c3] 24 (0, 0))) #[.slice none 0 0] 24
  rw [World.size_alloc] at XL
  have hsb : ((w3.alloc (.cells #[.slice A3 lab c3] 24 (0, 0))).alloc (.cells #[.slice none 0 0] 24 (0, 0))).heap.size = w3.heap.size + 2 := by rw [World.size_alloc, World.size_alloc]
  have HSB := Lib.hid hsb
  have HXA3 := Lib.hid XA
  have HXB3 := Lib.hid XB
  have HXJ3 := Lib.hid XJ
  have HXL3 := Lib.hid XL
  have HO1 : Hid (((w3.alloc (.cells #[.slice A3 lab c3] 24 (0, 0))).alloc (.cells #[.slice none 0 0] 24 (0, 0))).ownsRow (w3.heap.size + 2) 45 7 (.slice none 0 0) 0 []) := Lib.hid ⟨by simp, .inl ⟨rfl, rfl⟩⟩
  have HRA := Lib.hid hrA
  have HRB := Lib.hid hrB
  have HLNA : Hid (nA.length = la * 7) := Lib.hid (hrA.len.trans (by rw [hla2]))
  have HLNB : Hid (nB.length = lb * 7) := Lib.hid (hrB.len.trans (by rw [hlb2]))
  have p0 := XL.cell 0 _ rfl
  have p1 := XA.cell 0 _ rfl
  have HS3 := Lib.hid hs3
  have HC3 := Lib.hid hc3
  clear hla2 hlb2 hlab hc3 hd3 hb3 hdA hdB hrA hrB r1 r2 b3b XA XB XJ XL q0 q1 hsb HXA HXA2 HXB HB2 HDL HDM HLL HMM k1 k2 k3
  go_wp2_with (at_builtin; first | (refine wpList_append_fresh _ rfl _ _ 22 rfl (w3.heap.size + 2) 45 _ 7 144 Tryz.underlying22 infoDef rfl (by decide) (.slice none 0 0) 0 [] rfl HO1.out a1 la c1 HL0.out nA rfl HLNA.out HRA.out.at_ HRA.out.one (by unfold maxLen; have := HAB.out; omega) (by have := HAB.out; omega) (Nat.le_of_eq HSB.out.symm) ?_; intro v4 w4 ho4 hg4 hf4; rw [Nat.zero_add, List.nil_append] at ho4; obtain ⟨A4, c4, rfl⟩ := own_form ho4; have HB4 : Hid (Below (w3.heap.size + 2) ((w3.alloc (.cells #[.slice A3 lab c3] 24 (0, 0))).alloc (.cells #[.slice none 0 0] 24 (0, 0))) w4) := Lib.hid ⟨hg4.os, hg4.tape, hg4.output, hg4.size, fun k hk => hg4.block k (by rw [HSB.out]; exact hk) (fun e => by cases e)⟩; have q2 := ((HXL3.out.stay (HB4.out.mono (Nat.le_of_eq HSB.out))).cell 0 _ rfl); have qf := ((HXL3.out.stay (HB4.out.mono (Nat.le_of_eq HSB.out))).frz 0); have q3 := ((HXL3.out.stay (HB4.out.mono (Nat.le_of_eq HSB.out))).set 0 (.slice A4 la c4)).cell 0 _ rfl; have q4 := ((HXB3.out.stay (HB4.out.mono (Nat.le_of_eq HSB.out))).off (g := w3.heap.size + 1) (by have := HS3.out; omega) 0 (.slice A4 la c4)).cell 0 _ rfl; have HO4 := Lib.hid ho4; clear ho4 hg4 hf4; have HX5L := Lib.hid ((HXL3.out.stay (HB4.out.mono (Nat.le_of_eq HSB.out))).set 0 (.slice A4 la c4)); have HX5J := Lib.hid ((HXJ3.out.stay (HB4.out.mono (Nat.le_of_eq HSB.out))).off (g := w3.heap.size + 1) (by omega) 0 (.slice A4 la c4)); have b5 : Below (w3.heap.size + 1) ((w3.alloc (.cells #[.slice A3 lab c3] 24 (0, 0))).alloc (.cells #[.slice none 0 0] 24 (0, 0))) (w4.setCell ⟨w3.heap.size + 1, 0, none⟩ (.slice A4 la c4)) := (HB4.out.mono (by omega)).trans ⟨rfl, rfl, rfl, by simp [World.setCell], fun k hk => Below.heap_setCell _ _ _ _ (by show k ≠ w3.heap.size + 1; omega)⟩; have HB5 := Lib.hid b5; have hs5 : w3.heap.size + 2 ≤ (w4.setCell ⟨w3.heap.size + 1, 0, none⟩ (.slice A4 la c4)).heap.size := (by have := HB5.out.size; rw [HSB.out] at this; exact this); have HS5 := Lib.hid hs5; have HO5 : Hid ((w4.setCell ⟨w3.heap.size + 1, 0, none⟩ (.slice A4 la c4)).ownsRow (w3.heap.size + 2) 45 7 (.slice A4 la c4) la nA) := Lib.hid (own_off HO4.out (fun g hg => Below.heap_setCell _ _ _ _ (by show g ≠ w3.heap.size + 1; omega))); have HAT : Hid (∀ (j : Nat) (u : Value), nB[j]? = some u → (w4.setCell ⟨w3.heap.size + 1, 0, none⟩ (.slice A4 la c4)).cell? (a2.add j) = some u) := Lib.hid (fun j u hu => (b5.cell (p := a2.add j) (by rw [K.add_block]; have := HRB.out.blk; omega)).trans (HRB.out.at_ j u hu)); clear b5 hs5) | (refine wpList_append_fresh _ rfl _ _ 22 rfl (w3.heap.size + 2) 45 _ 7 144 Tryz.underlying22 infoDef rfl (by decide) (.slice A4 la c4) la nA rfl HO5.out a2 lb c2 HM0.out nB rfl HLNB.out HAT.out HRB.out.one (by unfold maxLen; have := HAB.out; omega) (by have := HAB.out; omega) HS5.out ?_; intro v6 w6 ho6 hg6 hf6; obtain ⟨A6, c6, rfl⟩ := own_form ho6; have HB6 : Hid (Below (w3.heap.size + 2) (w4.setCell ⟨w3.heap.size + 1, 0, none⟩ (.slice A4 la c4)) w6) := Lib.hid ⟨hg6.os, hg6.tape, hg6.output, hg6.size, fun k hk => hg6.block k (Nat.lt_of_lt_of_le hk HS5.out) (fun e => by have := own_lt HO5.out e.symm; omega)⟩; have q6 := (HX5L.out.keep HB6.out (by omega)).cell 0 _ rfl; have qg := (HX5L.out.keep HB6.out (by omega)).frz 0; have q7 := ((HX5L.out.keep HB6.out (by omega)).set 0 (.slice A6 (la + lb) c6)).cell 0 _ rfl; have q8 := ((HX5J.out.keep HB6.out (by omega)).off (g := w3.heap.size + 1) (by omega) 0 (.slice A6 (la + lb) c6)).cell 0 _ rfl; have HO6 := Lib.hid ho6; clear ho6 hg6 hf6))
  have hs5 := HS5.out
  have hs6 := HB6.out.size
  have b57 : Below (w3.heap.size + 1) (w4.setCell ⟨w3.heap.size + 1, 0, none⟩ (.slice A4 la c4)) (w6.setCell ⟨w3.heap.size + 1, 0, none⟩ (.slice A6 (la + lb) c6)) := (HB6.out.mono (by omega)).trans ⟨rfl, rfl, rfl, by simp [World.setCell], fun k hk => Below.heap_setCell _ _ _ _ (by show k ≠ w3.heap.size + 1; omega)⟩
  have b37 : Below w3.heap.size w3 (w6.setCell ⟨w3.heap.size + 1, 0, none⟩ (.slice A6 (la + lb) c6)) := HBB.out.trans ((HB5.out.trans b57).mono (by omega))
  have hs7 : w3.heap.size + 2 ≤ (w6.setCell ⟨w3.heap.size + 1, 0, none⟩ (.slice A6 (la + lb) c6)).heap.size := by have := b57.size; omega
  have hown7 : (w6.setCell ⟨w3.heap.size + 1, 0, none⟩ (.slice A6 (la + lb) c6)).ownsRow (w3.heap.size + 2) 45 7 (.slice A6 (la + lb) c6) (la + lb) (nA ++ nB) := own_off HO6.out (fun g hg => Below.heap_setCell _ _ _ _ (by show g ≠ w3.heap.size + 1; omega))
  have hR2 : DefsR (w6.setCell ⟨w3.heap.size + 1, 0, none⟩ (.slice A6 (la + lb) c6)) (w6.setCell ⟨w3.heap.size + 1, 0, none⟩ (.slice A6 (la + lb) c6)).heap.size (.slice A6 (la + lb) c6) (l ++ m) := by
    have hB7 : ∀ b, b < w3.heap.size → (w6.setCell ⟨w3.heap.size + 1, 0, none⟩ (.slice A6 (la + lb) c6)).heap[b]? = ((w3.alloc (.cells #[.slice A3 lab c3] 24 (0, 0))).alloc (.cells #[.slice none 0 0] 24 (0, 0))).heap[b]? := fun b hb => (HB5.out.trans b57).block b (by omega)
    refine rows_two (S := fun b => b < w3.heap.size) (nA := nA) (nB := nB) (base := w3.heap.size + 2) (by rw [HLA.out, HLB.out]; exact hown7) HRA.out.len (fun b hb => by omega) (fun i x hx => DefC.stays.kept (HRA.out.els i x hx) hB7 (fun _ h => h)) (fun i x hx => DefC.stays.kept (HRB.out.els i x hx) hB7 (fun _ h => h)) (by rw [HLA.out, HLB.out]; have := HAB.out; unfold big; omega)
  have hR1 : DefsR (w6.setCell ⟨w3.heap.size + 1, 0, none⟩ (.slice A6 (la + lb) c6)) (w6.setCell ⟨w3.heap.size + 1, 0, none⟩ (.slice A6 (la + lb) c6)).heap.size (.slice A3 lab c3) (l ++ m) := DefsR.mono (DefsR.kept (DefsC.toR (B := w3.heap.size) (fun b hb => hb.2) HD3.out) b37) (by omega)
  have hW7 : docW (l ++ m) := fun x hx => (List.mem_append.1 hx).elim (HWL.out x) (HWM.out x)
  have HQ := Lib.hid (equalDoc_any (l ++ m) _ _ _ hR1 hR2 hW7)
  have HW7 : Hid (Below w.heap.size w (w6.setCell ⟨w3.heap.size + 1, 0, none⟩ (.slice A6 (la + lb) c6))) := Lib.hid (HBW.out.trans ((HB3.out.trans (b37.mono HB3.out.size)).mono HBW.out.size))
  clear hR1 hR2 hW7 hown7 b57 b37 hs7
  refine HQ.out.mono ?_
  rintro e w8 ⟨rfl, hb8⟩
  have HB8 := Lib.hid (HW7.out.trans (hb8.mono HW7.out.size))
  clear hb8
  go_wp2_with fail
  refine (CE.out _ HB8.out).mono ?_
  rintro e w' ⟨rfl, hb⟩
  go_wp2_with fail
  exact bodyPost_ret (v := .bool true) (by simp [results, Tryz.results6, go_sem]) rfl ⟨rfl, hb⟩
end Go.Proofs.YthjoelpfmimedaaGreatDoor
