
/-
  Lists: the closure that reads an element, the method.
-/
import Derived.Test.YtcbajgcblfgmgaaGreatDoorJPush
namespace Go.Proofs.YtcbajgcblfgmgaaGreatDoor
open Go.RowKit
theorem listKeep {w0 w w1 w' : World} {N p level n0 : Nat} {s : ByteArray} {items : List VT} {i n : Nat} (h : LInv w0 N p level n0 s items i n w) (hb : Bes p w.heap.size w w1) (hbel : Below (N + 3) w1 w') (hN : N + 3 ≤ w.heap.size) (hpN : p < N) :
    w'.cell? ⟨N, 0, none⟩ = some (pp p) ∧ w'.cell? ⟨N + 1, 0, none⟩ = some (.int .i64 level) ∧ Box w' (N + 2) (.int .i64 0) (.int .i64 0) (.string ⟨#[]⟩) (.slice none 0 0) (.slice none 0 0) ∧ Bes p N w0 w' := by
  have hk : ∀ k, k < N + 3 → k ≠ p → w'.heap[k]? = w.heap[k]? := fun k h1 h2 => (hbel.block k h1).trans (hb.block k (by omega) h2)
  refine ⟨?_, ?_, ?_, ?_⟩
  · rw [cell_of_block (a := ⟨N, 0, none⟩) (hk N (by omega) (by omega))]; exact h.c0
  · rw [cell_of_block (a := ⟨N + 1, 0, none⟩) (hk (N + 1) (by omega) (by omega))]; exact h.c1
  · exact (hk (N + 2) (by omega) (by omega)).trans h.rv
  · exact (h.bes.trans (hb.mono (by omega))).trans ((Bes.of hbel).mono (by omega))
theorem listDone {w0 w w1 w' : World} {N p level n0 : Nat} {s : ByteArray} {items : List VT} {i n j m : Nat} {t : VT} {v : Value} {xs : List Value} (h : LInv w0 N p level n0 s items i n w) (hp : PS w1 p s j m 0 0) (hb : Bes p w.heap.size w w1) (hbel : Below (N + 3) w1 w') (hN : N + 3 ≤ w.heap.size)
    (hnm : n < m) (hm : m ≤ 4096) (hpN : p < N) (hv : VInv w' (N + 4) (N + 3) 5 (items ++ [t]) [] v (.slice none 0 0) xs) : LInv w0 N p level n0 s (items ++ [t]) j m w' := by
  obtain ⟨a, b, c, d⟩ := listKeep h hb hbel hN hpN
  exact ⟨hp.same (hbel.mono (by omega)), a, b, c, d, ⟨_, _, hv⟩, by have := h.hn; simp; omega, hm, by have := h.h0; omega⟩
theorem listBad {w0 w w1 w' : World} {N p level n0 : Nat} {s : ByteArray} {items : List VT} {i n j m : Nat} {x : Er} {z : ByteArray} {A K : Option Addr} {li ci lk ck : Nat} {k5 n5 : Int} (h : LInv w0 N p level n0 s items i n w) (hp : PS w1 p s j m x.1 x.2) (hb : Bes p w.heap.size w w1) (hbel : Below (N + 3) w1 w') (hN : N + 3 ≤ w.heap.size)
    (hpN : p < N) (hv : Box w' (N + 3) (.int .i64 k5) (.int .i64 n5) (.string z) (.slice A li ci) (.slice K lk ck)) : LBad w0 N p s x w' := by
  obtain ⟨_, _, c, d⟩ := listKeep h hb hbel hN hpN
  exact ⟨j, m, k5, n5, z, A, li, ci, K, lk, ck, hp.same (hbel.mono (by omega)), d, c, hv⟩
set_option maxRecDepth 100000 in
set_option maxHeartbeats 4000000 in
theorem listStep_any {w0 : World} {N p level n0 : Nat} {s : ByteArray} {f : Nat} (hv : ValAt p s f (level + 1)) (hl : level ≤ 24) (hpN : p < N) (items : List VT) (i n : Nat) (w : World) (h : LInv w0 N p level n0 s items i n w) (hf : s.size + 1 ≤ f + i) :
    Calls Tryz.prog 42 #[.pointer (some ⟨N, 0, none⟩), .pointer (some ⟨N + 1, 0, none⟩), .pointer (some ⟨N + 3, 0, none⟩)] w
      (StepPost (stepL (pv s f (level + 1)) items i n) i (LInv w0 N p level n0 s) (LBad w0 N p s)) := by
  have q0 := h.c0
  have q1 := h.c1
  have HI := Lib.hid h
  have HC := Lib.hid (hv i n w h.ps h.hm hf)
  clear h hv
  go_enter Tryz.func42, Tryz.ntmps42
  go_wp2_with fail
  refine HC.out.mono ?_
  rintro e w1 (⟨t, j, m, u, hr, rfl, hu, hp, hb, hij, hnm, hm⟩ | ⟨x, j, m, u, hr, rfl, hu, hp, hb⟩)
  · have E1 : Hid (stepL (pv s f (level + 1)) items i n = .ok (items ++ [t], j, m)) := Lib.hid (by unfold stepL; rw [hr])
    clear hr
    obtain ⟨k5, n5, s5, A5, li5, ci5, K5, lk5, ck5, rfl⟩ := hu.fiveV
    obtain ⟨v, xs, hvv⟩ := HI.out.vv
    obtain ⟨Av, cv, rfl⟩ := own_slice hvv.own
    have hlt := HI.out.ps.lt
    have hVI := hvv.bes hb (by omega)
    have bz : Below w1.heap.size w1 (w1.alloc (.cells #[.int .i64 k5, .int .i64 n5, .string s5, .slice A5 li5 ci5, .slice K5 lk5 ck5] 26 (0, 0))) := (Below.refl _ _).alloc (Nat.le_refl _) _
    have hVI2 := hVI.bes (Bes.of (p := p) bz) (by omega)
    obtain ⟨y0, y1, y2, y3, y4⟩ := hVI2.box.cells
    have g3 := hVI2.box.frz 3
    have X2 := Box.new w1 (.int .i64 k5) (.int .i64 n5) (.string s5) (.slice A5 li5 ci5) (.slice K5 lk5 ck5)
    obtain ⟨x0, x1, x2, x3, x4⟩ := X2.cells
    have hAL : Hid ((Value.slice Av items.length cv).ownBlock ≠ some (N + 3)) := Lib.hid (fun e => by have := own_lt hVI2.own e; omega)
    have HOWN := Lib.hid (hVI2.own.alloc (.cells #[.int .i64 0, .int .i64 0, .string ⟨#[]⟩, .slice none 0 0, .slice none 0 0] 26 (0, 0)))
    have HVI2 := Lib.hid hVI2
    have hil : items.length ≤ 4096 := by have := HI.out.hn; have := HI.out.hm; omega
    obtain ⟨i0, hi0, hz0, hz1, hz2⟩ := info_parts5 infoVal
    have HNEWS : Hid (∀ (j : Nat) (u : Value), zz5[j]? = some u → ((w1.alloc (.cells #[.int .i64 k5, .int .i64 n5, .string s5, .slice A5 li5 ci5, .slice K5 lk5 ck5] 26 (0, 0))).alloc (.cells #[.int .i64 0, .int .i64 0, .string ⟨#[]⟩, .slice none 0 0, .slice none 0 0] 26 (0, 0))).drew.cell? ((⟨w1.heap.size + 1, 0, none⟩ : Addr).add j) = some u) := Lib.hid (by
      have h := cells_Z (w1.alloc (.cells #[.int .i64 k5, .int .i64 n5, .string s5, .slice A5 li5 ci5, .slice K5 lk5 ck5] 26 (0, 0))) zz5 26
      rw [World.size_alloc] at h
      exact h)
    have hN4 : N + 4 ≤ w1.heap.size := hVI.bw
    have HBW : Hid (Box ((w1.alloc (.cells #[.int .i64 k5, .int .i64 n5, .string s5, .slice A5 li5 ci5, .slice K5 lk5 ck5] 26 (0, 0))).alloc (.cells #[.int .i64 0, .int .i64 0, .string ⟨#[]⟩, .slice none 0 0, .slice none 0 0] 26 (0, 0))).drew (N + 3) (.int .i64 5) (.int .i64 0) (.string ⟨#[]⟩) (.slice Av items.length cv) (.slice none 0 0)) := Lib.hid (hVI2.box.alloc _)
    have hxl : xs.length = items.length * 5 := hVI.own.1
    obtain ⟨z0, z1, z2, z3, z4⟩ := HBW.out.cells
    have HXW : Hid (Box ((w1.alloc (.cells #[.int .i64 k5, .int .i64 n5, .string s5, .slice A5 li5 ci5, .slice K5 lk5 ck5] 26 (0, 0))).alloc (.cells #[.int .i64 0, .int .i64 0, .string ⟨#[]⟩, .slice none 0 0, .slice none 0 0] 26 (0, 0))).drew w1.heap.size (.int .i64 k5) (.int .i64 n5) (.string s5) (.slice A5 li5 ci5) (.slice K5 lk5 ck5)) := Lib.hid (X2.alloc _)
    obtain ⟨t0, t1, t2, t3, t4⟩ := HXW.out.cells
    have hidx : (items.length : Int) < (items.length : Int) + 1 := by omega
    have HVW : Hid (VInv ((w1.alloc (.cells #[.int .i64 k5, .int .i64 n5, .string s5, .slice A5 li5 ci5, .slice K5 lk5 ck5] 26 (0, 0))).alloc (.cells #[.int .i64 0, .int .i64 0, .string ⟨#[]⟩, .slice none 0 0, .slice none 0 0] 26 (0, 0))).drew (N + 4) (N + 3) 5 items [] (.slice Av items.length cv) (.slice none 0 0) xs) := Lib.hid (hVI2.bes (p := p) (Bes.of (((Below.refl _ _).alloc (Nat.le_refl _) _).drew)) (by omega))
    have HW1 : Hid (Below w1.heap.size w1 (((w1.alloc (.cells #[.int .i64 k5, .int .i64 n5, .string s5, .slice A5 li5 ci5, .slice K5 lk5 ck5] 26 (0, 0))).alloc (.cells #[.int .i64 0, .int .i64 0, .string ⟨#[]⟩, .slice none 0 0, .slice none 0 0] 26 (0, 0))).drew)) := Lib.hid ((bz.trans (((Below.refl _ _).alloc (by simp) _))).drew)
    have HUW : Hid (RdS (((w1.alloc (.cells #[.int .i64 k5, .int .i64 n5, .string s5, .slice A5 li5 ci5, .slice K5 lk5 ck5] 26 (0, 0))).alloc (.cells #[.int .i64 0, .int .i64 0, .string ⟨#[]⟩, .slice none 0 0, .slice none 0 0] 26 (0, 0))).drew) (fun b => N + 4 ≤ b ∧ b < (((w1.alloc (.cells #[.int .i64 k5, .int .i64 n5, .string s5, .slice A5 li5 ci5, .slice K5 lk5 ck5] 26 (0, 0))).alloc (.cells #[.int .i64 0, .int .i64 0, .string ⟨#[]⟩, .slice none 0 0, .slice none 0 0] 26 (0, 0))).drew).heap.size ∧ (Value.slice Av items.length cv).ownBlock ≠ some b ∧ (Value.slice none 0 0).ownBlock ≠ some b) (.agg #[.int .i64 k5, .int .i64 n5, .string s5, .slice A5 li5 ci5, .slice K5 lk5 ck5]) t) := Lib.hid (hu.kept (fun b hb2 => HW1.out.block b hb2.2) (fun b hb2 => ⟨by have := hvv.bw; have := hb2.1; omega, Nat.lt_of_lt_of_le hb2.2 HW1.out.size, fun e => by have := own_lt hvv.own e; have := hb2.1; omega, fun e => by cases e⟩))
    have HPP := Lib.hid hp
    have HBB := Lib.hid hb
    have hw1s := hb.size
    have hwb := hvv.bw
    clear hVI hvv hVI2 bz hu hp hb
    go_wp2_with fail
    go_region_law (refine step_append_lies _ rfl (.tmp 14) (.tmp 17) 23 rfl (N + 4) 26 i0 (.agg #[.int .i64 0, .int .i64 0, .string ⟨#[]⟩, .slice none 0 0, .slice none 0 0]) 5 80 Tryz.underlying23 hi0 hz0 hz1 hz2 rfl (by decide) (.slice Av items.length cv) items.length xs rfl HOWN.out.drew _ 1 1 zz5 rfl rfl HNEWS.out zz_one (by decide) (by unfold maxLen; omega) (by omega) (by simp; omega) _ rfl ?_; intro g cap w3 h1 h2 h3 h4; obtain ⟨e0, e1, e2, e3, e4⟩ := own_zero h1 hxl; have d0 := own_frz h1 (items.length * 5); have d1 := own_frz h1 (items.length * 5 + 1); have d2 := own_frz h1 (items.length * 5 + 2); have d3 := own_frz h1 (items.length * 5 + 3); have d4 := own_frz h1 (items.length * 5 + 4); have hgN : N + 4 ≤ g := (own_lt h1 rfl).1; have hgn : ¬ g = N + 3 := (by omega); have hgn' : ¬ N + 3 = g := (by omega); have HB3 := Lib.hid (Box.grown HBW.out h2 hAL.out); have b3 := HB3.out.cells.2.2.2.1; have r3 := HB3.out.frz 3)
    all_goals
      go_wp2_with fail
      go_ret
      have hpush := VInv.push (base := N + 4) (vb := N + 3) HVW.out HUW.out h1 h2 (by simpa using h3)
      have hL : LInv w0 N p level n0 s (items ++ [t]) j m (putA w3 (N + 3) g (items.length * 5) (.slice (some ⟨g, 0, none⟩) (items.length + 1) cap) (.int .i64 k5) (.int .i64 n5) (.string s5) (.slice A5 li5 ci5) (.slice K5 lk5 ck5)) := by
        have hbel : Below (N + 3) w1 (putA w3 (N + 3) g (items.length * 5) (.slice (some ⟨g, 0, none⟩) (items.length + 1) cap) (.int .i64 k5) (.int .i64 n5) (.string s5) (.slice A5 li5 ci5) (.slice K5 lk5 ck5)) := (HW1.out.mono (by omega)).trans hpush.2
        exact listDone HI.out HPP.out HBB.out hbel (by omega) hnm hm hpN hpush.1
      have hLB := hL
      rw [← putA_eq w3 (N + 3) g (items.length * 5) (.slice (some ⟨g, 0, none⟩) (items.length + 1) cap) (.int .i64 k5) (.int .i64 n5) (.string s5) (.slice A5 li5 ci5) (.slice K5 lk5 ck5) (by omega)] at hLB
      unfold put5 at hLB
      unfold putA put5 at hL
      refine .inl ⟨_, j, m, E1.out, rfl, ?_, hij⟩
      first | with_reducible exact hL | with_reducible exact hLB
  · have E1 : Hid (stepL (pv s f (level + 1)) items i n = .error x) := Lib.hid (by unfold stepL; rw [hr])
    clear hr
    obtain ⟨k5, n5, s5, A5, li5, ci5, K5, lk5, ck5, rfl⟩ := hu
    obtain ⟨v, xs, hvv⟩ := HI.out.vv
    obtain ⟨Av, cv, rfl⟩ := own_slice hvv.own
    have hlt := HI.out.ps.lt
    have hVI := hvv.bes hb (by omega)
    have bz : Below w1.heap.size w1 (w1.alloc (.cells #[.int .i64 k5, .int .i64 n5, .string s5, .slice A5 li5 ci5, .slice K5 lk5 ck5] 26 (0, 0))) := (Below.refl _ _).alloc (Nat.le_refl _) _
    have hVI2 := hVI.bes (Bes.of (p := p) bz) (by omega)
    obtain ⟨y0, y1, y2, y3, y4⟩ := hVI2.box.cells
    have g3 := hVI2.box.frz 3
    have X2 := Box.new w1 (.int .i64 k5) (.int .i64 n5) (.string s5) (.slice A5 li5 ci5) (.slice K5 lk5 ck5)
    obtain ⟨x0, x1, x2, x3, x4⟩ := X2.cells
    have hAL : Hid ((Value.slice Av items.length cv).ownBlock ≠ some (N + 3)) := Lib.hid (fun e => by have := own_lt hVI2.own e; omega)
    have HOWN := Lib.hid (hVI2.own.alloc (.cells #[.int .i64 0, .int .i64 0, .string ⟨#[]⟩, .slice none 0 0, .slice none 0 0] 26 (0, 0)))
    have HVI2 := Lib.hid hVI2
    have hil : items.length ≤ 4096 := by have := HI.out.hn; have := HI.out.hm; omega
    obtain ⟨i0, hi0, hz0, hz1, hz2⟩ := info_parts5 infoVal
    have HNEWS : Hid (∀ (j : Nat) (u : Value), zz5[j]? = some u → ((w1.alloc (.cells #[.int .i64 k5, .int .i64 n5, .string s5, .slice A5 li5 ci5, .slice K5 lk5 ck5] 26 (0, 0))).alloc (.cells #[.int .i64 0, .int .i64 0, .string ⟨#[]⟩, .slice none 0 0, .slice none 0 0] 26 (0, 0))).drew.cell? ((⟨w1.heap.size + 1, 0, none⟩ : Addr).add j) = some u) := Lib.hid (by
      have h := cells_Z (w1.alloc (.cells #[.int .i64 k5, .int .i64 n5, .string s5, .slice A5 li5 ci5, .slice K5 lk5 ck5] 26 (0, 0))) zz5 26
      rw [World.size_alloc] at h
      exact h)
    have hN4 : N + 4 ≤ w1.heap.size := hVI.bw
    have HBW : Hid (Box ((w1.alloc (.cells #[.int .i64 k5, .int .i64 n5, .string s5, .slice A5 li5 ci5, .slice K5 lk5 ck5] 26 (0, 0))).alloc (.cells #[.int .i64 0, .int .i64 0, .string ⟨#[]⟩, .slice none 0 0, .slice none 0 0] 26 (0, 0))).drew (N + 3) (.int .i64 5) (.int .i64 0) (.string ⟨#[]⟩) (.slice Av items.length cv) (.slice none 0 0)) := Lib.hid (hVI2.box.alloc _)
    have hxl : xs.length = items.length * 5 := hVI.own.1
    obtain ⟨z0, z1, z2, z3, z4⟩ := HBW.out.cells
    have HXW : Hid (Box ((w1.alloc (.cells #[.int .i64 k5, .int .i64 n5, .string s5, .slice A5 li5 ci5, .slice K5 lk5 ck5] 26 (0, 0))).alloc (.cells #[.int .i64 0, .int .i64 0, .string ⟨#[]⟩, .slice none 0 0, .slice none 0 0] 26 (0, 0))).drew w1.heap.size (.int .i64 k5) (.int .i64 n5) (.string s5) (.slice A5 li5 ci5) (.slice K5 lk5 ck5)) := Lib.hid (X2.alloc _)
    obtain ⟨t0, t1, t2, t3, t4⟩ := HXW.out.cells
    have hidx : (items.length : Int) < (items.length : Int) + 1 := by omega
    have HVW : Hid (VInv ((w1.alloc (.cells #[.int .i64 k5, .int .i64 n5, .string s5, .slice A5 li5 ci5, .slice K5 lk5 ck5] 26 (0, 0))).alloc (.cells #[.int .i64 0, .int .i64 0, .string ⟨#[]⟩, .slice none 0 0, .slice none 0 0] 26 (0, 0))).drew (N + 4) (N + 3) 5 items [] (.slice Av items.length cv) (.slice none 0 0) xs) := Lib.hid (hVI2.bes (p := p) (Bes.of (((Below.refl _ _).alloc (Nat.le_refl _) _).drew)) (by omega))
    have HW1 : Hid (Below w1.heap.size w1 (((w1.alloc (.cells #[.int .i64 k5, .int .i64 n5, .string s5, .slice A5 li5 ci5, .slice K5 lk5 ck5] 26 (0, 0))).alloc (.cells #[.int .i64 0, .int .i64 0, .string ⟨#[]⟩, .slice none 0 0, .slice none 0 0] 26 (0, 0))).drew)) := Lib.hid ((bz.trans (((Below.refl _ _).alloc (by simp) _))).drew)
    have HPP := Lib.hid hp
    have HBB := Lib.hid hb
    have hw1s := hb.size
    have hwb := hvv.bw
    clear hVI hvv hVI2 bz hp hb
    go_wp2_with fail
    go_region_law (refine step_append_lies _ rfl (.tmp 14) (.tmp 17) 23 rfl (N + 4) 26 i0 (.agg #[.int .i64 0, .int .i64 0, .string ⟨#[]⟩, .slice none 0 0, .slice none 0 0]) 5 80 Tryz.underlying23 hi0 hz0 hz1 hz2 rfl (by decide) (.slice Av items.length cv) items.length xs rfl HOWN.out.drew _ 1 1 zz5 rfl rfl HNEWS.out zz_one (by decide) (by unfold maxLen; omega) (by omega) (by simp; omega) _ rfl ?_; intro g cap w3 h1 h2 h3 h4; obtain ⟨e0, e1, e2, e3, e4⟩ := own_zero h1 hxl; have d0 := own_frz h1 (items.length * 5); have d1 := own_frz h1 (items.length * 5 + 1); have d2 := own_frz h1 (items.length * 5 + 2); have d3 := own_frz h1 (items.length * 5 + 3); have d4 := own_frz h1 (items.length * 5 + 4); have hgN : N + 4 ≤ g := (own_lt h1 rfl).1; have hgn : ¬ g = N + 3 := (by omega); have hgn' : ¬ N + 3 = g := (by omega); have HB3 := Lib.hid (Box.grown HBW.out h2 hAL.out); have b3 := HB3.out.cells.2.2.2.1; have r3 := HB3.out.frz 3)
    all_goals
      go_wp2_with fail
      go_ret
      have hpush := VInv.push0 (base := N + 4) (vb := N + 3) (.int .i64 k5) (.int .i64 n5) (.string s5) (.slice A5 li5 ci5) (.slice K5 lk5 ck5) HVW.out h1 h2
      have hL : LBad w0 N p s x (putA w3 (N + 3) g (items.length * 5) (.slice (some ⟨g, 0, none⟩) (items.length + 1) cap) (.int .i64 k5) (.int .i64 n5) (.string s5) (.slice A5 li5 ci5) (.slice K5 lk5 ck5)) := by
        have hbel : Below (N + 3) w1 (putA w3 (N + 3) g (items.length * 5) (.slice (some ⟨g, 0, none⟩) (items.length + 1) cap) (.int .i64 k5) (.int .i64 n5) (.string s5) (.slice A5 li5 ci5) (.slice K5 lk5 ck5)) := (HW1.out.mono (by omega)).trans hpush.2
        exact listBad HI.out HPP.out HBB.out hbel (by omega) hpN hpush.1
      have hLB := hL
      rw [← putA_eq w3 (N + 3) g (items.length * 5) (.slice (some ⟨g, 0, none⟩) (items.length + 1) cap) (.int .i64 k5) (.int .i64 n5) (.string s5) (.slice A5 li5 ci5) (.slice K5 lk5 ck5) (by omega)] at hLB
      unfold put5 at hLB
      unfold putA put5 at hL
      refine .inr ⟨x, E1.out, rfl, ?_⟩
      first | with_reducible exact hL | with_reducible exact hLB
end Go.Proofs.YtcbajgcblfgmgaaGreatDoor
