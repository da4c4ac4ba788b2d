
/-
  The method that reads an object.
-/
import Derived.Test.YtcbajgcblfgmgaaGreatDoorJObj
namespace Go.Proofs.YtcbajgcblfgmgaaGreatDoor
open Go.RowKit
set_option maxRecDepth 100000 in
set_option maxHeartbeats 4000000 in
theorem jobject_any {p level : Nat} {s : ByteArray} {f : Nat} (hv : ValAt p s f (level + 1)) (hl : level ≤ 24) (i n : Nat) (w : World) (h : PS w p s i n 0 0) (hn : n ≤ 4096) (hlt : i < s.size) (hf : s.size + 1 ≤ f + (i + 1)) :
    Calls Tryz.prog 21 #[pp p, .int .i64 level] w (SeqPost w p s i n (fun a : List ByteArray × List VT => .mk 6 0 ⟨#[]⟩ a.2 a.1) (els s 125 (stepO s (pv s f (level + 1))) ([], []) i n)) := by
  have hpw := h.lt
  have e1 : Below w.heap.size w (w.alloc (.cells #[pp p] 50 (0, 0))) := (Below.refl _ _).alloc (Nat.le_refl _) _
  have e2 : Below w.heap.size w ((w.alloc (.cells #[pp p] 50 (0, 0))).alloc (.cells #[.int .i64 level] 3 (0, 0))) := e1.alloc (by simp) _
  have e3 : Below w.heap.size w (((w.alloc (.cells #[pp p] 50 (0, 0))).alloc (.cells #[.int .i64 level] 3 (0, 0))).alloc (.cells #[.int .i64 0, .int .i64 0, .string ⟨#[]⟩, .slice none 0 0, .slice none 0 0] 26 (0, 0))) := e2.alloc (by simp <;> omega) _
  have e4 : Below w.heap.size w ((((w.alloc (.cells #[pp p] 50 (0, 0))).alloc (.cells #[.int .i64 level] 3 (0, 0))).alloc (.cells #[.int .i64 0, .int .i64 0, .string ⟨#[]⟩, .slice none 0 0, .slice none 0 0] 26 (0, 0))).alloc (.cells #[.int .i64 6, .int .i64 0, .string ⟨#[]⟩, .slice none 0 0, .slice none 0 0] 26 (0, 0))) := e3.alloc (by simp <;> omega) _
  have e5 : Below w.heap.size w (((((w.alloc (.cells #[pp p] 50 (0, 0))).alloc (.cells #[.int .i64 level] 3 (0, 0))).alloc (.cells #[.int .i64 0, .int .i64 0, .string ⟨#[]⟩, .slice none 0 0, .slice none 0 0] 26 (0, 0))).alloc (.cells #[.int .i64 6, .int .i64 0, .string ⟨#[]⟩, .slice none 0 0, .slice none 0 0] 26 (0, 0))).alloc (.map #[] 0)) := e4.alloc (by simp <;> omega) _
  have e6 : Below w.heap.size w ((((((w.alloc (.cells #[pp p] 50 (0, 0))).alloc (.cells #[.int .i64 level] 3 (0, 0))).alloc (.cells #[.int .i64 0, .int .i64 0, .string ⟨#[]⟩, .slice none 0 0, .slice none 0 0] 26 (0, 0))).alloc (.cells #[.int .i64 6, .int .i64 0, .string ⟨#[]⟩, .slice none 0 0, .slice none 0 0] 26 (0, 0))).alloc (.map #[] 0)).alloc (.cells #[.map (some (w.heap.size + 4))] 71 (0, 0))) := e5.alloc (by simp <;> omega) _
  have c0 : ((((((w.alloc (.cells #[pp p] 50 (0, 0))).alloc (.cells #[.int .i64 level] 3 (0, 0))).alloc (.cells #[.int .i64 0, .int .i64 0, .string ⟨#[]⟩, .slice none 0 0, .slice none 0 0] 26 (0, 0))).alloc (.cells #[.int .i64 6, .int .i64 0, .string ⟨#[]⟩, .slice none 0 0, .slice none 0 0] 26 (0, 0))).alloc (.map #[] 0)).alloc (.cells #[.map (some (w.heap.size + 4))] 71 (0, 0))).cell? ⟨w.heap.size, 0, none⟩ = some (pp p) := by
    rw [alloc_cell _ _ _ (by simp <;> omega), alloc_cell _ _ _ (by simp <;> omega), alloc_cell _ _ _ (by simp <;> omega), alloc_cell _ _ _ (by simp <;> omega), alloc_cell _ _ _ (by simp)]
    exact alloc_new1 w _ _
  have c1 : ((((((w.alloc (.cells #[pp p] 50 (0, 0))).alloc (.cells #[.int .i64 level] 3 (0, 0))).alloc (.cells #[.int .i64 0, .int .i64 0, .string ⟨#[]⟩, .slice none 0 0, .slice none 0 0] 26 (0, 0))).alloc (.cells #[.int .i64 6, .int .i64 0, .string ⟨#[]⟩, .slice none 0 0, .slice none 0 0] 26 (0, 0))).alloc (.map #[] 0)).alloc (.cells #[.map (some (w.heap.size + 4))] 71 (0, 0))).cell? ⟨w.heap.size + 1, 0, none⟩ = some (.int .i64 level) := by
    rw [alloc_cell _ _ _ (by simp <;> omega), alloc_cell _ _ _ (by simp <;> omega), alloc_cell _ _ _ (by simp <;> omega), alloc_cell _ _ _ (by simp <;> omega)]
    exact (by simp : (w.alloc (.cells #[pp p] 50 (0, 0))).heap.size = w.heap.size + 1) ▸ alloc_new1 (w.alloc (.cells #[pp p] 50 (0, 0))) (.int .i64 level) 3
  have cm : ((((((w.alloc (.cells #[pp p] 50 (0, 0))).alloc (.cells #[.int .i64 level] 3 (0, 0))).alloc (.cells #[.int .i64 0, .int .i64 0, .string ⟨#[]⟩, .slice none 0 0, .slice none 0 0] 26 (0, 0))).alloc (.cells #[.int .i64 6, .int .i64 0, .string ⟨#[]⟩, .slice none 0 0, .slice none 0 0] 26 (0, 0))).alloc (.map #[] 0)).alloc (.cells #[.map (some (w.heap.size + 4))] 71 (0, 0))).cell? ⟨w.heap.size + 5, 0, none⟩ = some (.map (some (w.heap.size + 4))) :=
    (by simp : (((((w.alloc (.cells #[pp p] 50 (0, 0))).alloc (.cells #[.int .i64 level] 3 (0, 0))).alloc (.cells #[.int .i64 0, .int .i64 0, .string ⟨#[]⟩, .slice none 0 0, .slice none 0 0] 26 (0, 0))).alloc (.cells #[.int .i64 6, .int .i64 0, .string ⟨#[]⟩, .slice none 0 0, .slice none 0 0] 26 (0, 0))).alloc (.map #[] 0)).heap.size = w.heap.size + 5) ▸ alloc_new1 (((((w.alloc (.cells #[pp p] 50 (0, 0))).alloc (.cells #[.int .i64 level] 3 (0, 0))).alloc (.cells #[.int .i64 0, .int .i64 0, .string ⟨#[]⟩, .slice none 0 0, .slice none 0 0] 26 (0, 0))).alloc (.cells #[.int .i64 6, .int .i64 0, .string ⟨#[]⟩, .slice none 0 0, .slice none 0 0] 26 (0, 0))).alloc (.map #[] 0)) (.map (some (w.heap.size + 4))) 71
  have r2 := (((Box.new ((w.alloc (.cells #[pp p] 50 (0, 0))).alloc (.cells #[.int .i64 level] 3 (0, 0))) (.int .i64 0) (.int .i64 0) (.string ⟨#[]⟩) (.slice none 0 0) (.slice none 0 0)).alloc (.cells #[.int .i64 6, .int .i64 0, .string ⟨#[]⟩, .slice none 0 0, .slice none 0 0] 26 (0, 0))).alloc (.map #[] 0)).alloc (.cells #[.map (some (w.heap.size + 4))] 71 (0, 0))
  have r3 := ((Box.new (((w.alloc (.cells #[pp p] 50 (0, 0))).alloc (.cells #[.int .i64 level] 3 (0, 0))).alloc (.cells #[.int .i64 0, .int .i64 0, .string ⟨#[]⟩, .slice none 0 0, .slice none 0 0] 26 (0, 0))) (.int .i64 6) (.int .i64 0) (.string ⟨#[]⟩) (.slice none 0 0) (.slice none 0 0)).alloc (.map #[] 0)).alloc (.cells #[.map (some (w.heap.size + 4))] 71 (0, 0))
  have sn : SeenAt ((((((w.alloc (.cells #[pp p] 50 (0, 0))).alloc (.cells #[.int .i64 level] 3 (0, 0))).alloc (.cells #[.int .i64 0, .int .i64 0, .string ⟨#[]⟩, .slice none 0 0, .slice none 0 0] 26 (0, 0))).alloc (.cells #[.int .i64 6, .int .i64 0, .string ⟨#[]⟩, .slice none 0 0, .slice none 0 0] 26 (0, 0))).alloc (.map #[] 0)).alloc (.cells #[.map (some (w.heap.size + 4))] 71 (0, 0))) (w.heap.size + 4) [] := by
    have h0 : SeenAt (((((w.alloc (.cells #[pp p] 50 (0, 0))).alloc (.cells #[.int .i64 level] 3 (0, 0))).alloc (.cells #[.int .i64 0, .int .i64 0, .string ⟨#[]⟩, .slice none 0 0, .slice none 0 0] 26 (0, 0))).alloc (.cells #[.int .i64 6, .int .i64 0, .string ⟨#[]⟩, .slice none 0 0, .slice none 0 0] 26 (0, 0))).alloc (.map #[] 0)) ((((w.alloc (.cells #[pp p] 50 (0, 0))).alloc (.cells #[.int .i64 level] 3 (0, 0))).alloc (.cells #[.int .i64 0, .int .i64 0, .string ⟨#[]⟩, .slice none 0 0, .slice none 0 0] 26 (0, 0))).alloc (.cells #[.int .i64 6, .int .i64 0, .string ⟨#[]⟩, .slice none 0 0, .slice none 0 0] 26 (0, 0))).heap.size [] := World.ownsMap_made _ _ _ _
    rw [show ((((w.alloc (.cells #[pp p] 50 (0, 0))).alloc (.cells #[.int .i64 level] 3 (0, 0))).alloc (.cells #[.int .i64 0, .int .i64 0, .string ⟨#[]⟩, .slice none 0 0, .slice none 0 0] 26 (0, 0))).alloc (.cells #[.int .i64 6, .int .i64 0, .string ⟨#[]⟩, .slice none 0 0, .slice none 0 0] 26 (0, 0))).heap.size = w.heap.size + 4 by simp] at h0
    exact h0.same (Below.heap_alloc _ _ _ (by simp <;> omega))
  simp only [World.size_alloc] at r2 r3
  have hI : OInv w w.heap.size p level n s ([], []) i n ((((((w.alloc (.cells #[pp p] 50 (0, 0))).alloc (.cells #[.int .i64 level] 3 (0, 0))).alloc (.cells #[.int .i64 0, .int .i64 0, .string ⟨#[]⟩, .slice none 0 0, .slice none 0 0] 26 (0, 0))).alloc (.cells #[.int .i64 6, .int .i64 0, .string ⟨#[]⟩, .slice none 0 0, .slice none 0 0] 26 (0, 0))).alloc (.map #[] 0)).alloc (.cells #[.map (some (w.heap.size + 4))] 71 (0, 0))) := ⟨h.kept e6, c0, c1, cm, r2, Bes.of e6, sn, ⟨.slice none 0 0, .slice none 0 0, [], r3, World.ownsRow_nil _ _ _ _, Elems.nil _ _, World.ownsRow_nil _ _ _ _, (fun b e => by cases e), by omega, by simp <;> omega⟩, by simp, rfl, Nat.zero_le _, hn, Nat.le_refl _⟩
  have HI := Lib.hid hI
  have hst : ∀ (a : List ByteArray × List VT) (i' n' : Nat) (w' : World), OInv w w.heap.size p level n s a i' n' w' → i + 1 ≤ i' → _ := fun a i' n' w' hi hL => objStep_any (w0 := w) (N := w.heap.size) (n0 := n) hv hl hpw a i' n' w' hi (by omega)
  have HE := Lib.hid (elements_any (p := p) (s := s) 43 (.inr rfl) #[.pointer (some ⟨w.heap.size, 0, none⟩), .pointer (some ⟨w.heap.size + 5, 0, none⟩), .pointer (some ⟨w.heap.size + 1, 0, none⟩), .pointer (some ⟨w.heap.size + 3, 0, none⟩)] 125 (by decide)
    (stepO s (pv s f (level + 1))) (OInv w w.heap.size p level n s) (LBad w w.heap.size p s) (fun _ _ _ _ hi => hi.ps)
    (fun a i1 i2 m w1 w2 hi _ hb hp => by
      obtain ⟨v, v2, xs, hv⟩ := hi.vv
      have hN := hv.bw
      obtain ⟨e0, e1, e2, e3, e4⟩ := hi.keep (w' := w2) (fun k h1 h2 _ _ => hb.block k (by omega) h2) ⟨hb.os, hb.tape, hb.output⟩ hb.size hpw
      exact ⟨hp, e0, e1, e2, e3, e4, hi.sn.same (hb.block _ (by omega) (by omega)), ⟨v, v2, xs, hv.bes hb (by omega)⟩, hi.ks, hi.le, hi.hn, hi.hm, hi.h0⟩)
    (fun a i1 m w1 w2 x j hi hb hp => by
      obtain ⟨v, v2, xs, hv⟩ := hi.vv
      have hN := hv.bw
      obtain ⟨Av, cv, rfl⟩ := own_slice hv.own
      obtain ⟨Kv, dv, rfl⟩ := own_slice hv.keys
      exact objBad hi hp (fun k h1 h2 _ _ => hb.block k (by omega) h2) ⟨hb.os, hb.tape, hb.output⟩ hb.size hpw (hv.box.bes hb (by omega) (by omega)))
    (i + 1) hst ([], []) i n _ hI hlt rfl)
  clear hI hst r2 r3 c0 c1 cm sn e1 e2 e3 e4 e5 e6 h hv
  have hmf : ∀ (fn : Fn) (first cap : Array Value) (w : World), (Instr.makeFunc fn first cap).run Tryz.prog w = .ok (.func fn first cap) w := fun _ _ _ _ => rfl
  have hmk : ∀ (t : TypeId) (w : World), (Instr.makeMap t none).run Tryz.prog w = .ok (.map (some w.heap.size)) (w.alloc (.map #[] 0)) := fun _ _ => rfl
  have q0 := HI.out.c0
  go_enter Tryz.func21, Tryz.ntmps21
  go_wp2_with fail
  refine HE.out.mono ?_
  rintro e w1 (⟨a, j, m, hr, rfl, hi1, hij⟩ | ⟨x, hr, rfl, hbad⟩)
  · obtain ⟨v, v2, xs, hvv⟩ := hi1.vv
    obtain ⟨Av, cv, rfl⟩ := own_slice hvv.own
    obtain ⟨Kv, dv, rfl⟩ := own_slice hvv.keys
    have hN4 := hvv.bw
    have HR := Lib.hid hr
    have HI1 := Lib.hid hi1
    have HRD := Lib.hid (hvv.read (by unfold small; omega) (by have := hi1.hn; have := hi1.hm; omega) (by have := hi1.le; have := hi1.hn; have := hi1.hm; omega) (fun y hy => by have := hi1.ks y hy; omega))
    obtain ⟨y0, y1, y2, y3, y4⟩ := hvv.box.cells
    obtain ⟨z0, z1, z2, z3, z4⟩ := hi1.rv.cells
    have g0 := hi1.rv.frz 0
    have g1 := hi1.rv.frz 1
    have g2 := hi1.rv.frz 2
    have g3 := hi1.rv.frz 3
    have g4 := hi1.rv.frz 4
    have ZZ := Lib.hid (Box.five hi1.rv (.int .i64 6) (.int .i64 0) (.string ⟨#[]⟩) (.slice Av a.2.length cv) (.slice Kv a.1.length dv)).cells
    have HK : Hid (∀ k, k ≠ w.heap.size + 2 → (((((w1.setCell ⟨w.heap.size + 2, 0, none⟩ (.int .i64 6)).setCell ⟨w.heap.size + 2, 1, none⟩ (.int .i64 0)).setCell ⟨w.heap.size + 2, 2, none⟩ (.string ⟨#[]⟩)).setCell ⟨w.heap.size + 2, 3, none⟩ (.slice Av a.2.length cv)).setCell ⟨w.heap.size + 2, 4, none⟩ (.slice Kv a.1.length dv)).heap[k]? = w1.heap[k]?) := Lib.hid (fun k hk => by
      rw [Below.heap_setCell _ _ _ _ hk, Below.heap_setCell _ _ _ _ hk, Below.heap_setCell _ _ _ _ hk, Below.heap_setCell _ _ _ _ hk, Below.heap_setCell _ _ _ _ hk])
    have HSZ : Hid ((((((w1.setCell ⟨w.heap.size + 2, 0, none⟩ (.int .i64 6)).setCell ⟨w.heap.size + 2, 1, none⟩ (.int .i64 0)).setCell ⟨w.heap.size + 2, 2, none⟩ (.string ⟨#[]⟩)).setCell ⟨w.heap.size + 2, 3, none⟩ (.slice Av a.2.length cv)).setCell ⟨w.heap.size + 2, 4, none⟩ (.slice Kv a.1.length dv)).heap.size = w1.heap.size) := Lib.hid (by simp [World.setCell])
    clear hr hi1 hvv q0
    go_wp2_with fail
    obtain ⟨z0, z1, z2, z3, z4⟩ := ZZ.out
    refine bodyPost_ret (v := .tuple #[.agg #[.int .i64 6, .int .i64 0, .string ⟨#[]⟩, .slice Av a.2.length cv, .slice Kv a.1.length dv], .bool true]) (by simp [results, Tryz.results21, go_sem, z0, z1, z2, z3, z4]) rfl (.inl ⟨a, j, m, _, HR.out, rfl, ?_, ?_, ?_, hij, HI1.out.h0, HI1.out.hm⟩)
    · exact HRD.out.kept (fun b hb => HK.out b (by omega)) (fun b hb => ⟨by omega, by rw [HSZ.out]; exact hb.2⟩)
    · exact PS.five HI1.out.ps (by omega) _ _ _ _ _
    · exact Bes.five HI1.out.bes (by omega) _ _ _ _ _
  · obtain ⟨j, m, k5, n5, z5, A5, li5, ci5, K5, lk5, ck5, hp5, hb5, hr5, hx5⟩ := hbad
    have HR := Lib.hid hr
    have HP5 := Lib.hid hp5
    have HB5 := Lib.hid hb5
    obtain ⟨y0, y1, y2, y3, y4⟩ := hx5.cells
    obtain ⟨z0, z1, z2, z3, z4⟩ := hr5.cells
    have g0 := hr5.frz 0
    have g1 := hr5.frz 1
    have g2 := hr5.frz 2
    have g3 := hr5.frz 3
    have g4 := hr5.frz 4
    have ZZ := Lib.hid (Box.five hr5 (.int .i64 k5) (.int .i64 n5) (.string z5) (.slice A5 li5 ci5) (.slice K5 lk5 ck5)).cells
    clear hr hp5 hb5 hr5 hx5 q0
    go_wp2_with fail
    obtain ⟨z0, z1, z2, z3, z4⟩ := ZZ.out
    refine bodyPost_ret (v := .tuple #[.agg #[.int .i64 k5, .int .i64 n5, .string z5, .slice A5 li5 ci5, .slice K5 lk5 ck5], .bool false]) (by simp [results, Tryz.results21, go_sem, z0, z1, z2, z3, z4]) rfl (.inr ⟨x, j, m, _, HR.out, rfl, ⟨_, _, _, _, _, _, _, _, _, rfl⟩, ?_, ?_⟩)
    · exact PS.five HP5.out (by omega) _ _ _ _ _
    · exact Bes.five HB5.out (by omega) _ _ _ _ _
end Go.Proofs.YtcbajgcblfgmgaaGreatDoor
