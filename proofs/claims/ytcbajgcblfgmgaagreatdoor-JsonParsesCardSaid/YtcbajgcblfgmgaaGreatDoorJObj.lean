
/-
  Objects: the closure that reads a field.
-/
import Derived.Test.YtcbajgcblfgmgaaGreatDoorJObj0
namespace Go.Proofs.YtcbajgcblfgmgaaGreatDoor
open Go.RowKit
theorem keyR_gt {s : ByteArray} {seen : List ByteArray} {i j : Nat} {x : ByteArray} (h : keyR s seen i = .ok (x, j)) : i < j := by
  unfold keyR at h
  have h0 := sk_le spL s i
  split at h
  · cases h
  · next k j1 hl =>
    have h1 := litR_size hl
    have h2 := sk_le spL s j1
    split at h
    · cases h
    · split at h
      · cases h; omega
      · cases h
theorem putA_low {W w3 : World} {vb g m base : Nat} {u c0 c1 c2 c3 c4 : Value} {row : Option Nat} (h2 : W.grownBy w3 row) (hg : base ≤ g) (hr : ∀ k, row = some k → base ≤ k) (hw : base ≤ W.heap.size) (k : Nat) (hk : k < base) (hkv : k ≠ vb) : (putA w3 vb g m u c0 c1 c2 c3 c4).heap[k]? = W.heap[k]? := by
  rw [putA_heap _ _ _ _ _ _ _ _ _ _ _ (by omega) hkv, h2.block k (by omega) (fun e => by have := hr k e.symm; omega)]
theorem objDone {w0 w w1 w' : World} {N p level n0 : Nat} {s : ByteArray} {a : List ByteArray × List VT} {i n j m : Nat} {x : ByteArray} {t : VT} {v v2 : Value} {xs : List Value} (h : OInv w0 N p level n0 s a i n w) (hp : PS w' p s j m 0 0) (hk : ∀ k, k < N + 6 → k ≠ p → k ≠ N + 3 → k ≠ N + 4 → w'.heap[k]? = w.heap[k]?) (hk4 : w'.heap[N + 4]? = w1.heap[N + 4]?)
    (hos : w'.os = w.os ∧ w'.tape = w.tape ∧ w'.output = w.output) (hs : w.heap.size ≤ w'.heap.size) (hpN : p < N) (sn : SeenAt w1 (N + 4) (a.1 ++ [x])) (hx : x.size ≤ 1073741824) (hnm : n < m) (hm : m ≤ 4096) (hv : VInv w' (N + 6) (N + 3) 6 (a.2 ++ [t]) (a.1 ++ [x]) v v2 xs) :
    OInv w0 N p level n0 s (a.1 ++ [x], a.2 ++ [t]) j m w' := by
  obtain ⟨e0, e1, e2, e3, e4⟩ := h.keep hk hos hs hpN
  exact ⟨hp, e0, e1, e2, e3, e4, sn.same hk4, ⟨_, _, _, hv⟩, fun y hy => by
    rcases List.mem_append.1 hy with h1 | h1
    · exact h.ks y h1
    · simp at h1; subst h1; exact hx, by simp [h.le], by have := h.hn; simp; omega, hm, by have := h.h0; omega⟩
theorem objBad {w0 w w' : World} {N p level n0 : Nat} {s : ByteArray} {a : List ByteArray × List VT} {i n j m : Nat} {x : Er} {z : ByteArray} {A K : Option Addr} {li ci lk ck : Nat} {k5 n5 : Int} (h : OInv w0 N p level n0 s a i n w) (hp : PS w' p s j m x.1 x.2) (hk : ∀ k, k < N + 6 → k ≠ p → k ≠ N + 3 → k ≠ N + 4 → w'.heap[k]? = w.heap[k]?)
    (hos : w'.os = w.os ∧ w'.tape = w.tape ∧ w'.output = w.output) (hs : w.heap.size ≤ w'.heap.size) (hpN : p < N) (hv : Box w' (N + 3) (.int .i64 k5) (.int .i64 n5) (.string z) (.slice A li ci) (.slice K lk ck)) : LBad w0 N p s x w' := by
  obtain ⟨_, _, _, e3, e4⟩ := h.keep hk hos hs hpN
  exact ⟨j, m, k5, n5, z, A, li, ci, K, lk, ck, hp, e4, e3, hv⟩
set_option maxRecDepth 100000 in
set_option maxHeartbeats 8000000 in
theorem objStep_any {w0 : World} {N p level n0 : Nat} {s : ByteArray} {f : Nat} (hv : ValAt p s f (level + 1)) (hl : level ≤ 24) (hpN : p < N) (a : List ByteArray × List VT) (i n : Nat) (w : World) (h : OInv w0 N p level n0 s a i n w) (hf : s.size + 1 ≤ f + i) :
    Calls Tryz.prog 43 #[.pointer (some ⟨N, 0, none⟩), .pointer (some ⟨N + 5, 0, none⟩), .pointer (some ⟨N + 1, 0, none⟩), .pointer (some ⟨N + 3, 0, none⟩)] w
      (StepPost (stepO s (pv s f (level + 1)) a i n) i (OInv w0 N p level n0 s) (LBad w0 N p s)) := by
  have q0 := h.c0
  have qm := h.cm
  have HI := Lib.hid h
  have HV := Lib.hid hv
  have hal : a.1.length ≤ 4096 := by have := h.le; have := h.hn; have := h.hm; omega
  have hil : a.2.length ≤ 4096 := by have := h.hn; have := h.hm; omega
  clear h hv
  go_enter Tryz.func43, Tryz.ntmps43
  go_wp2_with fail
  refine (key_any a.1 HI.out.ps HI.out.sn (by omega) (by omega)).mono ?_
  clear q0 qm
  rintro e w1 (⟨x, j, hr, rfl, hp, hsn, hxs, hxn, hs1, hb1, hk1⟩ | ⟨x, j, z, hr, rfl, hp, hs1, hb1, hk1⟩)
  rotate_left
  · have E1 : Hid (stepO s (pv s f (level + 1)) a i n = .error x) := Lib.hid (by unfold stepO; rw [hr])
    obtain ⟨v, v2, xs, hvv⟩ := HI.out.vv
    have hN6 := hvv.bw
    obtain ⟨Av, cv, rfl⟩ := own_slice hvv.own
    obtain ⟨Kv, dv, rfl⟩ := own_slice hvv.keys
    have HL : Hid (LBad w0 N p s x w1) := Lib.hid (objBad HI.out hp (fun k h1 h2 h3 h4 => hk1 k (by omega) h2 h4) ⟨hb1.os, hb1.tape, hb1.output⟩ hs1 hpN ((hk1 (N + 3) (by omega) (by omega) (by omega)).trans hvv.box))
    clear hr hp hs1 hb1 hk1 hvv
    go_wp2_with fail
    go_ret
    exact .inr ⟨x, E1.out, rfl, HL.out⟩
  have hij := keyR_gt hr
  obtain ⟨v, v2, xs, hvv0⟩ := HI.out.vv
  have hN6 := hvv0.bw
  have hvv := hvv0.same hs1 (hk1 (N + 3) (by omega) (by omega) (by omega)) (fun g h1 h2 => hk1 g h2 (by omega) (by omega))
  have q0 : w1.cell? ⟨N, 0, none⟩ = some (pp p) := by rw [cell_of_block (a := ⟨N, 0, none⟩) (hk1 N (by omega) (by omega) (by omega))]; exact HI.out.c0
  have q1 : w1.cell? ⟨N + 1, 0, none⟩ = some (.int .i64 level) := by rw [cell_of_block (a := ⟨N + 1, 0, none⟩) (hk1 (N + 1) (by omega) (by omega) (by omega))]; exact HI.out.c1
  obtain ⟨Av, cv, rfl⟩ := own_slice hvv.own
  obtain ⟨Kv, dv, rfl⟩ := own_slice hvv.keys
  have HKEY := Lib.hid hr
  have HP1 := Lib.hid hp
  have HSN := Lib.hid hsn
  have HK1 := Lib.hid hk1
  have HOS1 : Hid (w1.os = w.os ∧ w1.tape = w.tape ∧ w1.output = w.output) := Lib.hid ⟨hb1.os, hb1.tape, hb1.output⟩
  have HVV := Lib.hid hvv
  have HC := Lib.hid (HV.out j n w1 hp HI.out.hm (by omega))
  clear hr hp hsn hb1 hk1 hvv hvv0 hxn HV
  go_wp2_with fail
  refine HC.out.mono ?_
  clear q0 q1
  rintro e w2 (⟨t, j2, m, u, hr, rfl, hu, hp, hb, hjj, hnm, hm⟩ | ⟨y, j2, m, u, hr, rfl, hu, hp, hb⟩)
  · have E1 : Hid (stepO s (pv s f (level + 1)) a i n = .ok ((a.1 ++ [x], a.2 ++ [t]), j2, m)) := Lib.hid (by unfold stepO; rw [HKEY.out]; simp only [hr])
    obtain ⟨k5, n5, s5, A5, li5, ci5, K5, lk5, ck5, rfl⟩ := hu.fiveV
    have hV2 := HVV.out.bes hb (by omega)
    have hs2 := hb.size
    have bA : Below w2.heap.size w2 (w2.alloc (.cells #[.int .i64 k5, .int .i64 n5, .string s5, .slice A5 li5 ci5, .slice K5 lk5 ck5] 26 (0, 0))) := (Below.refl _ _).alloc (Nat.le_refl _) _
    have bz : Below w2.heap.size w2 ((w2.alloc (.cells #[.int .i64 k5, .int .i64 n5, .string s5, .slice A5 li5 ci5, .slice K5 lk5 ck5] 26 (0, 0))).alloc (.cells #[.string x] 9 (0, 0))) := bA.alloc (by simp) _
    have hVW := hV2.bes (Bes.of (p := p) bz) (by omega)
    obtain ⟨y0, y1, y2, y3, y4⟩ := hVW.box.cells
    obtain ⟨o0, o1, o2, o3, o4⟩ := (hV2.bes (Bes.of (p := p) bA) (by omega)).box.cells
    have g3 := hVW.box.frz 3
    have g4 := hVW.box.frz 4
    have hbw2 := hV2.bw
    have HVW := Lib.hid hVW
    have HX1 : Hid (Box ((w2.alloc (.cells #[.int .i64 k5, .int .i64 n5, .string s5, .slice A5 li5 ci5, .slice K5 lk5 ck5] 26 (0, 0))).alloc (.cells #[.string x] 9 (0, 0))) w2.heap.size (.int .i64 k5) (.int .i64 n5) (.string s5) (.slice A5 li5 ci5) (.slice K5 lk5 ck5)) := Lib.hid ((Box.new w2 (.int .i64 k5) (.int .i64 n5) (.string s5) (.slice A5 li5 ci5) (.slice K5 lk5 ck5)).alloc _)
    have HNK : Hid (∀ (q : Nat) (z : Value), [Value.string x][q]? = some z → (((w2.alloc (.cells #[.int .i64 k5, .int .i64 n5, .string s5, .slice A5 li5 ci5, .slice K5 lk5 ck5] 26 (0, 0))).alloc (.cells #[.string x] 9 (0, 0)))).cell? ((⟨w2.heap.size + 1, 0, none⟩ : Addr).add q) = some z) := Lib.hid (by
      have h := cells_Z (w2.alloc (.cells #[.int .i64 k5, .int .i64 n5, .string s5, .slice A5 li5 ci5, .slice K5 lk5 ck5] 26 (0, 0))) [Value.string x] 9
      rw [World.size_alloc] at h
      exact h)
    have HOK : Hid ((((w2.alloc (.cells #[.int .i64 k5, .int .i64 n5, .string s5, .slice A5 li5 ci5, .slice K5 lk5 ck5] 26 (0, 0))).alloc (.cells #[.string x] 9 (0, 0)))).ownsRow (N + 6) 9 1 (.slice Kv a.1.length dv) a.1.length (a.1.map Value.string)) := Lib.hid hVW.keys
    have hszW : N + 6 ≤ (((w2.alloc (.cells #[.int .i64 k5, .int .i64 n5, .string s5, .slice A5 li5 ci5, .slice K5 lk5 ck5] 26 (0, 0))).alloc (.cells #[.string x] 9 (0, 0)))).heap.size := by simp; omega
    have hOS2 : w2.os = w1.os ∧ w2.tape = w1.tape ∧ w2.output = w1.output := ⟨hb.os, hb.tape, hb.output⟩
    have HOS2 := Lib.hid hOS2
    have HPP := Lib.hid hp
    have HBB := Lib.hid hb
    have HBZ := Lib.hid bz
    have HV2 := Lib.hid hV2
    obtain ⟨iS, hiS, hzS0, hzS1, hzS2⟩ := info_parts5 infoS
    have HU := Lib.hid hu
    clear hr hp hb hV2 bA bz hVW hOS2 hu
    go_wp2_with (at_builtin; refine wpList_append_lies _ rfl _ _ 24 rfl (N + 6) 9 iS (.string ⟨#[]⟩) 1 16 Tryz.underlying24 hiS hzS0 hzS1 hzS2 rfl (by decide) (.slice Kv a.1.length dv) a.1.length (a.1.map Value.string) rfl HOK.out ⟨w2.heap.size + 1, 0, none⟩ 1 1 [Value.string x] rfl rfl HNK.out (by intro u hu; simp at hu; subst hu; rfl) (by decide) (by unfold maxLen; omega) (by omega) hszW _ rfl ?_; intro g2 cap2 w4 k1 k2 k3 k4; have hbox4 := Box.grown HVW.out.box k2 (fun e => by have := own_lt HOK.out e; omega); have r4 := hbox4.cells.2.2.2.2; have f4 := hbox4.frz 4)
    obtain ⟨hva, hba, hold, hnew⟩ := VInv.pushKey HVW.out k1 k2 (by simpa using k3)
    have hw1z : (((w2.alloc (.cells #[.int .i64 k5, .int .i64 n5, .string s5, .slice A5 li5 ci5, .slice K5 lk5 ck5] 26 (0, 0))).alloc (.cells #[.string x] 9 (0, 0)))).heap.size = w2.heap.size + 2 := by simp
    have hkl := fun e => own_lt HOK.out (g := e)
    clear hbox4 r4 f4 y0 y1 y2 y3 y4 o0 o1 o2 o3 o4 g3 g4
    generalize w4.setCell ⟨N + 3, 4, none⟩ (.slice (some ⟨g2, 0, none⟩) (a.1.length + 1) cap2) = WA at *
    have hxa : Box WA w2.heap.size (.int .i64 k5) (.int .i64 n5) (.string s5) (.slice A5 li5 ci5) (.slice K5 lk5 ck5) := (hold w2.heap.size (by omega) (by omega) (fun e => by have := own_lt HV2.out.keys e; omega)).trans HX1.out
    have hsa := hba.size
    have b4a : Below (N + 3) w2 WA := (HBZ.out.mono (by omega)).trans hba
    have hlow : ∀ k, k < N + 6 → k ≠ N + 3 → WA.heap[k]? = w2.heap[k]? := fun k h1 h2 => (hold k (by omega) h2 (fun e => by have := own_lt HOK.out e; omega)).trans (HBZ.out.block k (by omega))
    have HLOW := Lib.hid hlow
    have HBA := Lib.hid b4a
    have HVA := Lib.hid hva
    obtain ⟨y0, y1, y2, y3, y4⟩ := hva.box.cells
    have g3 := hva.box.frz 3
    obtain ⟨x0, x1, x2, x3, x4⟩ := hxa.cells
    have hAL : Hid ((Value.slice Av a.2.length cv).ownBlock ≠ some (N + 3)) := Lib.hid (fun e => by have := own_lt hva.own e; omega)
    have HOWN := Lib.hid (hva.own.alloc (.cells #[.int .i64 0, .int .i64 0, .string ⟨#[]⟩, .slice none 0 0, .slice none 0 0] 26 (0, 0)))
    obtain ⟨i0, hi0, hz0, hz1, hz2⟩ := info_parts5 infoVal
    have HNEWS : Hid (∀ (q : Nat) (z : Value), zz5[q]? = some z → ((WA.alloc (.cells #[.int .i64 0, .int .i64 0, .string ⟨#[]⟩, .slice none 0 0, .slice none 0 0] 26 (0, 0))).drew).cell? ((⟨WA.heap.size, 0, none⟩ : Addr).add q) = some z) := Lib.hid (cells_Z WA zz5 26)
    have hN4 : N + 6 ≤ WA.heap.size := hva.bw
    have bZ : Below WA.heap.size WA ((WA.alloc (.cells #[.int .i64 0, .int .i64 0, .string ⟨#[]⟩, .slice none 0 0, .slice none 0 0] 26 (0, 0))).drew) := ((Below.refl _ _).alloc (Nat.le_refl _) _).drew
    have hVW2 := hva.bes (p := p) (Bes.of bZ) (by omega)
    have HBW : Hid (Box ((WA.alloc (.cells #[.int .i64 0, .int .i64 0, .string ⟨#[]⟩, .slice none 0 0, .slice none 0 0] 26 (0, 0))).drew) (N + 3) (.int .i64 6) (.int .i64 0) (.string ⟨#[]⟩) (.slice Av a.2.length cv) (.slice (some ⟨g2, 0, none⟩) (a.1.length + 1) cap2)) := Lib.hid hVW2.box
    have hxl : xs.length = a.2.length * 5 := hva.own.1
    obtain ⟨z0, z1, z2, z3, z4⟩ := HBW.out.cells
    have HXW : Hid (Box ((WA.alloc (.cells #[.int .i64 0, .int .i64 0, .string ⟨#[]⟩, .slice none 0 0, .slice none 0 0] 26 (0, 0))).drew) w2.heap.size (.int .i64 k5) (.int .i64 n5) (.string s5) (.slice A5 li5 ci5) (.slice K5 lk5 ck5)) := Lib.hid (Box.kept hxa bZ)
    obtain ⟨t0, t1, t2, t3, t4⟩ := HXW.out.cells
    have hidx : (a.2.length : Int) < (a.2.length : Int) + 1 := by omega
    have HVW2 := Lib.hid hVW2
    have HBZ2 := Lib.hid bZ
    have HUW : Hid (RdS ((WA.alloc (.cells #[.int .i64 0, .int .i64 0, .string ⟨#[]⟩, .slice none 0 0, .slice none 0 0] 26 (0, 0))).drew) (fun b => N + 6 ≤ b ∧ b < ((WA.alloc (.cells #[.int .i64 0, .int .i64 0, .string ⟨#[]⟩, .slice none 0 0, .slice none 0 0] 26 (0, 0))).drew).heap.size ∧ (Value.slice Av a.2.length cv).ownBlock ≠ some b ∧ (Value.slice (some ⟨g2, 0, none⟩) (a.1.length + 1) cap2).ownBlock ≠ some b) (.agg #[.int .i64 k5, .int .i64 n5, .string s5, .slice A5 li5 ci5, .slice K5 lk5 ck5]) t) := Lib.hid (HU.out.kept (fun b hb2 => by
      have h5 := hb2.1
      have h6 := hb2.2
      have h7 : (Value.slice Kv a.1.length dv).ownBlock ≠ some b := fun e => by have := own_lt HVV.out.keys e; omega
      rw [HBZ2.out.block b (by omega), hold b (by omega) (by omega) h7, HBZ.out.block b h6]) (fun b hb2 => by
      have h5 := hb2.1
      have h6 := hb2.2
      have h7 : (Value.slice Kv a.1.length dv).ownBlock ≠ some b := fun e => by have := own_lt HVV.out.keys e; omega
      have h8 := HBZ2.out.size
      refine ⟨by omega, by omega, fun e => by have := own_lt HVV.out.own e; omega, fun e => ?_⟩
      have e2 : g2 = b := by injection e
      exact hnew b (by omega) h7 e2))
    clear hva hba hold hnew hkl hlow b4a hVW2 bZ hxa k1 k2 k3 k4
    go_region_law (refine step_append_lies _ rfl (.tmp 30) (.tmp 33) 23 rfl (N + 6) 26 i0 (.agg #[.int .i64 0, .int .i64 0, .string ⟨#[]⟩, .slice none 0 0, .slice none 0 0]) 5 80 Tryz.underlying23 hi0 hz0 hz1 hz2 rfl (by decide) (.slice Av a.2.length cv) a.2.length xs rfl HOWN.out.drew _ 1 1 zz5 rfl rfl HNEWS.out zz_one (by decide) (by unfold maxLen; omega) (by omega) (by simp; omega) _ rfl ?_; intro g cap w3 h1 h2 h3 h4; obtain ⟨e0, e1, e2, e3, e4⟩ := own_zero h1 hxl; have d0 := own_frz h1 (a.2.length * 5); have d1 := own_frz h1 (a.2.length * 5 + 1); have d2 := own_frz h1 (a.2.length * 5 + 2); have d3 := own_frz h1 (a.2.length * 5 + 3); have d4 := own_frz h1 (a.2.length * 5 + 4); have hgN : N + 6 ≤ g := (own_lt h1 rfl).1; have hgn : ¬ g = N + 3 := (by omega); have hgn' : ¬ N + 3 = g := (by omega); have HB3 := Lib.hid (Box.grown HBW.out h2 hAL.out); have b3 := HB3.out.cells.2.2.2.1; have r3 := HB3.out.frz 3)
    all_goals
      go_wp2_with fail
      go_ret
      have hpush := VInv.push (base := N + 6) (vb := N + 3) HVW2.out HUW.out h1 h2 (by simpa using h3)
      have hA4 : Below (N + 3) w2 (putA w3 (N + 3) g (a.2.length * 5) (.slice (some ⟨g, 0, none⟩) (a.2.length + 1) cap) (.int .i64 k5) (.int .i64 n5) (.string s5) (.slice A5 li5 ci5) (.slice K5 lk5 ck5)) := HBA.out.trans ((HBZ2.out.mono (by omega)).trans hpush.2)
      have hlow2 : ∀ k, k < N + 6 → k ≠ N + 3 → (putA w3 (N + 3) g (a.2.length * 5) (.slice (some ⟨g, 0, none⟩) (a.2.length + 1) cap) (.int .i64 k5) (.int .i64 n5) (.string s5) (.slice A5 li5 ci5) (.slice K5 lk5 ck5)).heap[k]? = w2.heap[k]? := fun k h5 h6 => by
        rw [putA_low h2 hgN (fun q e => (own_lt HVW2.out.own e).1) HVW2.out.bw k h5 h6, HBZ2.out.block k (by omega), HLOW.out k h5 h6]
      have hhk : ∀ k, k < N + 6 → k ≠ p → k ≠ N + 3 → k ≠ N + 4 → (putA w3 (N + 3) g (a.2.length * 5) (.slice (some ⟨g, 0, none⟩) (a.2.length + 1) cap) (.int .i64 k5) (.int .i64 n5) (.string s5) (.slice A5 li5 ci5) (.slice K5 lk5 ck5)).heap[k]? = w.heap[k]? := fun k h5 h6 h7 h8 => (hlow2 k h5 h7).trans ((HBB.out.block k (by omega) h6).trans (HK1.out k (by omega) h6 h8))
      have hos : (putA w3 (N + 3) g (a.2.length * 5) (.slice (some ⟨g, 0, none⟩) (a.2.length + 1) cap) (.int .i64 k5) (.int .i64 n5) (.string s5) (.slice A5 li5 ci5) (.slice K5 lk5 ck5)).os = w.os ∧ (putA w3 (N + 3) g (a.2.length * 5) (.slice (some ⟨g, 0, none⟩) (a.2.length + 1) cap) (.int .i64 k5) (.int .i64 n5) (.string s5) (.slice A5 li5 ci5) (.slice K5 lk5 ck5)).tape = w.tape ∧ (putA w3 (N + 3) g (a.2.length * 5) (.slice (some ⟨g, 0, none⟩) (a.2.length + 1) cap) (.int .i64 k5) (.int .i64 n5) (.string s5) (.slice A5 li5 ci5) (.slice K5 lk5 ck5)).output = w.output := ⟨(hA4.os.trans HOS2.out.1).trans HOS1.out.1, (hA4.tape.trans HOS2.out.2.1).trans HOS1.out.2.1, (hA4.output.trans HOS2.out.2.2).trans HOS1.out.2.2⟩
      have hss := hA4.size
      have hsss : w.heap.size ≤ (putA w3 (N + 3) g (a.2.length * 5) (.slice (some ⟨g, 0, none⟩) (a.2.length + 1) cap) (.int .i64 k5) (.int .i64 n5) (.string s5) (.slice A5 li5 ci5) (.slice K5 lk5 ck5)).heap.size := by omega
      have hL := objDone (w1 := w1) HI.out (HPP.out.same (hA4.mono (by omega))) hhk ((hlow2 (N + 4) (by omega) (by omega)).trans (HBB.out.block (N + 4) (by omega) (by omega))) hos hsss hpN HSN.out hxs (by omega : n < m) hm hpush.1
      have hLB := hL
      rw [← putA_eq w3 (N + 3) g (a.2.length * 5) (.slice (some ⟨g, 0, none⟩) (a.2.length + 1) cap) (.int .i64 k5) (.int .i64 n5) (.string s5) (.slice A5 li5 ci5) (.slice K5 lk5 ck5) (by omega)] at hLB
      unfold put5 at hLB
      unfold putA put5 at hL
      refine .inl ⟨_, j2, m, E1.out, rfl, ?_, by omega⟩
      first | with_reducible exact hL | with_reducible exact hLB
  · have E1 : Hid (stepO s (pv s f (level + 1)) a i n = .error y) := Lib.hid (by unfold stepO; rw [HKEY.out]; simp only [hr])
    obtain ⟨k5, n5, s5, A5, li5, ci5, K5, lk5, ck5, rfl⟩ := hu
    have hV2 := HVV.out.bes hb (by omega)
    have hs2 := hb.size
    have bA : Below w2.heap.size w2 (w2.alloc (.cells #[.int .i64 k5, .int .i64 n5, .string s5, .slice A5 li5 ci5, .slice K5 lk5 ck5] 26 (0, 0))) := (Below.refl _ _).alloc (Nat.le_refl _) _
    have bz : Below w2.heap.size w2 ((w2.alloc (.cells #[.int .i64 k5, .int .i64 n5, .string s5, .slice A5 li5 ci5, .slice K5 lk5 ck5] 26 (0, 0))).alloc (.cells #[.string x] 9 (0, 0))) := bA.alloc (by simp) _
    have hVW := hV2.bes (Bes.of (p := p) bz) (by omega)
    obtain ⟨y0, y1, y2, y3, y4⟩ := hVW.box.cells
    obtain ⟨o0, o1, o2, o3, o4⟩ := (hV2.bes (Bes.of (p := p) bA) (by omega)).box.cells
    have g3 := hVW.box.frz 3
    have g4 := hVW.box.frz 4
    have hbw2 := hV2.bw
    have HVW := Lib.hid hVW
    have HX1 : Hid (Box ((w2.alloc (.cells #[.int .i64 k5, .int .i64 n5, .string s5, .slice A5 li5 ci5, .slice K5 lk5 ck5] 26 (0, 0))).alloc (.cells #[.string x] 9 (0, 0))) w2.heap.size (.int .i64 k5) (.int .i64 n5) (.string s5) (.slice A5 li5 ci5) (.slice K5 lk5 ck5)) := Lib.hid ((Box.new w2 (.int .i64 k5) (.int .i64 n5) (.string s5) (.slice A5 li5 ci5) (.slice K5 lk5 ck5)).alloc _)
    have HNK : Hid (∀ (q : Nat) (z : Value), [Value.string x][q]? = some z → (((w2.alloc (.cells #[.int .i64 k5, .int .i64 n5, .string s5, .slice A5 li5 ci5, .slice K5 lk5 ck5] 26 (0, 0))).alloc (.cells #[.string x] 9 (0, 0)))).cell? ((⟨w2.heap.size + 1, 0, none⟩ : Addr).add q) = some z) := Lib.hid (by
      have h := cells_Z (w2.alloc (.cells #[.int .i64 k5, .int .i64 n5, .string s5, .slice A5 li5 ci5, .slice K5 lk5 ck5] 26 (0, 0))) [Value.string x] 9
      rw [World.size_alloc] at h
      exact h)
    have HOK : Hid ((((w2.alloc (.cells #[.int .i64 k5, .int .i64 n5, .string s5, .slice A5 li5 ci5, .slice K5 lk5 ck5] 26 (0, 0))).alloc (.cells #[.string x] 9 (0, 0)))).ownsRow (N + 6) 9 1 (.slice Kv a.1.length dv) a.1.length (a.1.map Value.string)) := Lib.hid hVW.keys
    have hszW : N + 6 ≤ (((w2.alloc (.cells #[.int .i64 k5, .int .i64 n5, .string s5, .slice A5 li5 ci5, .slice K5 lk5 ck5] 26 (0, 0))).alloc (.cells #[.string x] 9 (0, 0)))).heap.size := by simp; omega
    have hOS2 : w2.os = w1.os ∧ w2.tape = w1.tape ∧ w2.output = w1.output := ⟨hb.os, hb.tape, hb.output⟩
    have HOS2 := Lib.hid hOS2
    have HPP := Lib.hid hp
    have HBB := Lib.hid hb
    have HBZ := Lib.hid bz
    have HV2 := Lib.hid hV2
    obtain ⟨iS, hiS, hzS0, hzS1, hzS2⟩ := info_parts5 infoS
    clear hr hp hb hV2 bA bz hVW hOS2
    go_wp2_with (at_builtin; refine wpList_append_lies _ rfl _ _ 24 rfl (N + 6) 9 iS (.string ⟨#[]⟩) 1 16 Tryz.underlying24 hiS hzS0 hzS1 hzS2 rfl (by decide) (.slice Kv a.1.length dv) a.1.length (a.1.map Value.string) rfl HOK.out ⟨w2.heap.size + 1, 0, none⟩ 1 1 [Value.string x] rfl rfl HNK.out (by intro u hu; simp at hu; subst hu; rfl) (by decide) (by unfold maxLen; omega) (by omega) hszW _ rfl ?_; intro g2 cap2 w4 k1 k2 k3 k4; have hbox4 := Box.grown HVW.out.box k2 (fun e => by have := own_lt HOK.out e; omega); have r4 := hbox4.cells.2.2.2.2; have f4 := hbox4.frz 4)
    obtain ⟨hva, hba, hold, hnew⟩ := VInv.pushKey HVW.out k1 k2 (by simpa using k3)
    have hw1z : (((w2.alloc (.cells #[.int .i64 k5, .int .i64 n5, .string s5, .slice A5 li5 ci5, .slice K5 lk5 ck5] 26 (0, 0))).alloc (.cells #[.string x] 9 (0, 0)))).heap.size = w2.heap.size + 2 := by simp
    have hkl := fun e => own_lt HOK.out (g := e)
    clear hbox4 r4 f4 y0 y1 y2 y3 y4 o0 o1 o2 o3 o4 g3 g4
    generalize w4.setCell ⟨N + 3, 4, none⟩ (.slice (some ⟨g2, 0, none⟩) (a.1.length + 1) cap2) = WA at *
    have hxa : Box WA w2.heap.size (.int .i64 k5) (.int .i64 n5) (.string s5) (.slice A5 li5 ci5) (.slice K5 lk5 ck5) := (hold w2.heap.size (by omega) (by omega) (fun e => by have := own_lt HV2.out.keys e; omega)).trans HX1.out
    have hsa := hba.size
    have b4a : Below (N + 3) w2 WA := (HBZ.out.mono (by omega)).trans hba
    have hlow : ∀ k, k < N + 6 → k ≠ N + 3 → WA.heap[k]? = w2.heap[k]? := fun k h1 h2 => (hold k (by omega) h2 (fun e => by have := own_lt HOK.out e; omega)).trans (HBZ.out.block k (by omega))
    have HLOW := Lib.hid hlow
    have HBA := Lib.hid b4a
    have HVA := Lib.hid hva
    obtain ⟨y0, y1, y2, y3, y4⟩ := hva.box.cells
    have g3 := hva.box.frz 3
    obtain ⟨x0, x1, x2, x3, x4⟩ := hxa.cells
    have hAL : Hid ((Value.slice Av a.2.length cv).ownBlock ≠ some (N + 3)) := Lib.hid (fun e => by have := own_lt hva.own e; omega)
    have HOWN := Lib.hid (hva.own.alloc (.cells #[.int .i64 0, .int .i64 0, .string ⟨#[]⟩, .slice none 0 0, .slice none 0 0] 26 (0, 0)))
    obtain ⟨i0, hi0, hz0, hz1, hz2⟩ := info_parts5 infoVal
    have HNEWS : Hid (∀ (q : Nat) (z : Value), zz5[q]? = some z → ((WA.alloc (.cells #[.int .i64 0, .int .i64 0, .string ⟨#[]⟩, .slice none 0 0, .slice none 0 0] 26 (0, 0))).drew).cell? ((⟨WA.heap.size, 0, none⟩ : Addr).add q) = some z) := Lib.hid (cells_Z WA zz5 26)
    have hN4 : N + 6 ≤ WA.heap.size := hva.bw
    have bZ : Below WA.heap.size WA ((WA.alloc (.cells #[.int .i64 0, .int .i64 0, .string ⟨#[]⟩, .slice none 0 0, .slice none 0 0] 26 (0, 0))).drew) := ((Below.refl _ _).alloc (Nat.le_refl _) _).drew
    have hVW2 := hva.bes (p := p) (Bes.of bZ) (by omega)
    have HBW : Hid (Box ((WA.alloc (.cells #[.int .i64 0, .int .i64 0, .string ⟨#[]⟩, .slice none 0 0, .slice none 0 0] 26 (0, 0))).drew) (N + 3) (.int .i64 6) (.int .i64 0) (.string ⟨#[]⟩) (.slice Av a.2.length cv) (.slice (some ⟨g2, 0, none⟩) (a.1.length + 1) cap2)) := Lib.hid hVW2.box
    have hxl : xs.length = a.2.length * 5 := hva.own.1
    obtain ⟨z0, z1, z2, z3, z4⟩ := HBW.out.cells
    have HXW : Hid (Box ((WA.alloc (.cells #[.int .i64 0, .int .i64 0, .string ⟨#[]⟩, .slice none 0 0, .slice none 0 0] 26 (0, 0))).drew) w2.heap.size (.int .i64 k5) (.int .i64 n5) (.string s5) (.slice A5 li5 ci5) (.slice K5 lk5 ck5)) := Lib.hid (Box.kept hxa bZ)
    obtain ⟨t0, t1, t2, t3, t4⟩ := HXW.out.cells
    have hidx : (a.2.length : Int) < (a.2.length : Int) + 1 := by omega
    have HVW2 := Lib.hid hVW2
    have HBZ2 := Lib.hid bZ
    clear hva hba hold hnew hkl hlow b4a hVW2 bZ hxa k1 k2 k3 k4
    go_region_law (refine step_append_lies _ rfl (.tmp 30) (.tmp 33) 23 rfl (N + 6) 26 i0 (.agg #[.int .i64 0, .int .i64 0, .string ⟨#[]⟩, .slice none 0 0, .slice none 0 0]) 5 80 Tryz.underlying23 hi0 hz0 hz1 hz2 rfl (by decide) (.slice Av a.2.length cv) a.2.length xs rfl HOWN.out.drew _ 1 1 zz5 rfl rfl HNEWS.out zz_one (by decide) (by unfold maxLen; omega) (by omega) (by simp; omega) _ rfl ?_; intro g cap w3 h1 h2 h3 h4; obtain ⟨e0, e1, e2, e3, e4⟩ := own_zero h1 hxl; have d0 := own_frz h1 (a.2.length * 5); have d1 := own_frz h1 (a.2.length * 5 + 1); have d2 := own_frz h1 (a.2.length * 5 + 2); have d3 := own_frz h1 (a.2.length * 5 + 3); have d4 := own_frz h1 (a.2.length * 5 + 4); have hgN : N + 6 ≤ g := (own_lt h1 rfl).1; have hgn : ¬ g = N + 3 := (by omega); have hgn' : ¬ N + 3 = g := (by omega); have HB3 := Lib.hid (Box.grown HBW.out h2 hAL.out); have b3 := HB3.out.cells.2.2.2.1; have r3 := HB3.out.frz 3)
    all_goals
      go_wp2_with fail
      go_ret
      have hpush := VInv.push0 (base := N + 6) (vb := N + 3) (.int .i64 k5) (.int .i64 n5) (.string s5) (.slice A5 li5 ci5) (.slice K5 lk5 ck5) HVW2.out h1 h2
      have hA4 : Below (N + 3) w2 (putA w3 (N + 3) g (a.2.length * 5) (.slice (some ⟨g, 0, none⟩) (a.2.length + 1) cap) (.int .i64 k5) (.int .i64 n5) (.string s5) (.slice A5 li5 ci5) (.slice K5 lk5 ck5)) := HBA.out.trans ((HBZ2.out.mono (by omega)).trans hpush.2)
      have hlow2 : ∀ k, k < N + 6 → k ≠ N + 3 → (putA w3 (N + 3) g (a.2.length * 5) (.slice (some ⟨g, 0, none⟩) (a.2.length + 1) cap) (.int .i64 k5) (.int .i64 n5) (.string s5) (.slice A5 li5 ci5) (.slice K5 lk5 ck5)).heap[k]? = w2.heap[k]? := fun k h5 h6 => by
        rw [putA_low h2 hgN (fun q e => (own_lt HVW2.out.own e).1) HVW2.out.bw k h5 h6, HBZ2.out.block k (by omega), HLOW.out k h5 h6]
      have hhk : ∀ k, k < N + 6 → k ≠ p → k ≠ N + 3 → k ≠ N + 4 → (putA w3 (N + 3) g (a.2.length * 5) (.slice (some ⟨g, 0, none⟩) (a.2.length + 1) cap) (.int .i64 k5) (.int .i64 n5) (.string s5) (.slice A5 li5 ci5) (.slice K5 lk5 ck5)).heap[k]? = w.heap[k]? := fun k h5 h6 h7 h8 => (hlow2 k h5 h7).trans ((HBB.out.block k (by omega) h6).trans (HK1.out k (by omega) h6 h8))
      have hos : (putA w3 (N + 3) g (a.2.length * 5) (.slice (some ⟨g, 0, none⟩) (a.2.length + 1) cap) (.int .i64 k5) (.int .i64 n5) (.string s5) (.slice A5 li5 ci5) (.slice K5 lk5 ck5)).os = w.os ∧ (putA w3 (N + 3) g (a.2.length * 5) (.slice (some ⟨g, 0, none⟩) (a.2.length + 1) cap) (.int .i64 k5) (.int .i64 n5) (.string s5) (.slice A5 li5 ci5) (.slice K5 lk5 ck5)).tape = w.tape ∧ (putA w3 (N + 3) g (a.2.length * 5) (.slice (some ⟨g, 0, none⟩) (a.2.length + 1) cap) (.int .i64 k5) (.int .i64 n5) (.string s5) (.slice A5 li5 ci5) (.slice K5 lk5 ck5)).output = w.output := ⟨(hA4.os.trans HOS2.out.1).trans HOS1.out.1, (hA4.tape.trans HOS2.out.2.1).trans HOS1.out.2.1, (hA4.output.trans HOS2.out.2.2).trans HOS1.out.2.2⟩
      have hss := hA4.size
      have hsss : w.heap.size ≤ (putA w3 (N + 3) g (a.2.length * 5) (.slice (some ⟨g, 0, none⟩) (a.2.length + 1) cap) (.int .i64 k5) (.int .i64 n5) (.string s5) (.slice A5 li5 ci5) (.slice K5 lk5 ck5)).heap.size := by omega
      have hL := objBad HI.out (HPP.out.same (hA4.mono (by omega))) hhk hos hsss hpN hpush.1
      have hLB := hL
      rw [← putA_eq w3 (N + 3) g (a.2.length * 5) (.slice (some ⟨g, 0, none⟩) (a.2.length + 1) cap) (.int .i64 k5) (.int .i64 n5) (.string s5) (.slice A5 li5 ci5) (.slice K5 lk5 ck5) (by omega)] at hLB
      unfold put5 at hLB
      unfold putA put5 at hL
      refine .inr ⟨y, E1.out, rfl, ?_⟩
      first | with_reducible exact hL | with_reducible exact hLB
end Go.Proofs.YtcbajgcblfgmgaaGreatDoor
