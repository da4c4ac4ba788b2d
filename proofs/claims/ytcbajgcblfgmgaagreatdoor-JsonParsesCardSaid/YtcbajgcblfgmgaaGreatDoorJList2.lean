
/-
  The method that reads a list.
-/
import Derived.Test.YtcbajgcblfgmgaaGreatDoorJList
import Derived.Test.YtcbajgcblfgmgaaGreatDoorJRd
namespace Go.Proofs.YtcbajgcblfgmgaaGreatDoor
open Go.RowKit
/- A list or an object has been read (a: what its elements gave). -/
def SeqPost {α : Type} (w : World) (p : Nat) (s : ByteArray) (i n : Nat) (tree : α → VT) (r : Except Er (α × Nat × Nat)) (e : Ending) (w' : World) : Prop :=
  (∃ a j m u, r = .ok (a, j, m) ∧ e = .returned (.tuple #[u, .bool true]) ∧ RdS w' (Fresh w.heap.size w') u (tree a) ∧ PS w' p s j m 0 0 ∧ Bes p w.heap.size w w' ∧ i ≤ j ∧ n ≤ m ∧ m ≤ 4096) ∨
  (∃ x j m u, r = .error x ∧ e = .returned (.tuple #[u, .bool false]) ∧ FiveV u ∧ PS w' p s j m x.1 x.2 ∧ Bes p w.heap.size w w')
set_option maxRecDepth 100000 in
set_option maxHeartbeats 4000000 in
theorem jlist_any {p level : Nat} {s : ByteArray} {f : Nat} (hv : ValAt p s f (level + 1)) (hl : level ≤ 24) (i n : Nat) (w : World) (h : PS w p s i n 0 0) (hn : n ≤ 4096) (hlt : i < s.size) (hf : s.size + 1 ≤ f + (i + 1)) :
    Calls Tryz.prog 20 #[pp p, .int .i64 level] w (SeqPost w p s i n (fun a => .mk 5 0 ⟨#[]⟩ a []) (els s 93 (stepL (pv s f (level + 1))) [] i n)) := by
  have hpw := h.lt
  have b1 : Below w.heap.size w (w.alloc (.cells #[pp p] 50 (0, 0))) := (Below.refl _ _).alloc (Nat.le_refl _) _
  have b2 : Below w.heap.size w ((w.alloc (.cells #[pp p] 50 (0, 0))).alloc (.cells #[.int .i64 level] 3 (0, 0))) := b1.alloc (by simp) _
  have b3 : Below w.heap.size w (((w.alloc (.cells #[pp p] 50 (0, 0))).alloc (.cells #[.int .i64 level] 3 (0, 0))).alloc (.cells #[.int .i64 0, .int .i64 0, .string ⟨#[]⟩, .slice none 0 0, .slice none 0 0] 26 (0, 0))) := b2.alloc (by simp <;> omega) _
  have b4 : Below w.heap.size w ((((w.alloc (.cells #[pp p] 50 (0, 0))).alloc (.cells #[.int .i64 level] 3 (0, 0))).alloc (.cells #[.int .i64 0, .int .i64 0, .string ⟨#[]⟩, .slice none 0 0, .slice none 0 0] 26 (0, 0))).alloc (.cells #[.int .i64 5, .int .i64 0, .string ⟨#[]⟩, .slice none 0 0, .slice none 0 0] 26 (0, 0))) := b3.alloc (by simp <;> omega) _
  have c0 : ((((w.alloc (.cells #[pp p] 50 (0, 0))).alloc (.cells #[.int .i64 level] 3 (0, 0))).alloc (.cells #[.int .i64 0, .int .i64 0, .string ⟨#[]⟩, .slice none 0 0, .slice none 0 0] 26 (0, 0))).alloc (.cells #[.int .i64 5, .int .i64 0, .string ⟨#[]⟩, .slice none 0 0, .slice none 0 0] 26 (0, 0))).cell? ⟨w.heap.size, 0, none⟩ = some (pp p) := by
    rw [alloc_cell _ _ _ (by simp <;> omega), alloc_cell _ _ _ (by simp <;> omega), alloc_cell _ _ _ (by simp)]
    exact alloc_new1 w _ _
  have c1 : ((((w.alloc (.cells #[pp p] 50 (0, 0))).alloc (.cells #[.int .i64 level] 3 (0, 0))).alloc (.cells #[.int .i64 0, .int .i64 0, .string ⟨#[]⟩, .slice none 0 0, .slice none 0 0] 26 (0, 0))).alloc (.cells #[.int .i64 5, .int .i64 0, .string ⟨#[]⟩, .slice none 0 0, .slice none 0 0] 26 (0, 0))).cell? ⟨w.heap.size + 1, 0, none⟩ = some (.int .i64 level) := by
    rw [alloc_cell _ _ _ (by simp <;> omega), alloc_cell _ _ _ (by simp)]
    exact (by simp : (w.alloc (.cells #[pp p] 50 (0, 0))).heap.size = w.heap.size + 1) ▸ alloc_new1 (w.alloc (.cells #[pp p] 50 (0, 0))) (.int .i64 level) 3
  have r2 := (Box.new ((w.alloc (.cells #[pp p] 50 (0, 0))).alloc (.cells #[.int .i64 level] 3 (0, 0))) (.int .i64 0) (.int .i64 0) (.string ⟨#[]⟩) (.slice none 0 0) (.slice none 0 0)).alloc (.cells #[.int .i64 5, .int .i64 0, .string ⟨#[]⟩, .slice none 0 0, .slice none 0 0] 26 (0, 0))
  have r3 := Box.new (((w.alloc (.cells #[pp p] 50 (0, 0))).alloc (.cells #[.int .i64 level] 3 (0, 0))).alloc (.cells #[.int .i64 0, .int .i64 0, .string ⟨#[]⟩, .slice none 0 0, .slice none 0 0] 26 (0, 0))) (.int .i64 5) (.int .i64 0) (.string ⟨#[]⟩) (.slice none 0 0) (.slice none 0 0)
  simp only [World.size_alloc] at r2 r3
  have hI : LInv w w.heap.size p level n s [] i n _ := ⟨h.kept b4, c0, c1, r2, Bes.of b4, ⟨.slice none 0 0, [], r3, World.ownsRow_nil _ _ _ _, Elems.nil _ _, World.ownsRow_nil _ _ _ _, (fun b e => by cases e), by omega, by simp <;> omega⟩, Nat.zero_le _, hn, Nat.le_refl _⟩
  have HI := Lib.hid hI
  have hst : ∀ (a : List VT) (i' n' : Nat) (w' : World), LInv w w.heap.size p level n s a i' n' w' → i + 1 ≤ i' → _ := fun a i' n' w' hi hL => listStep_any (w0 := w) (N := w.heap.size) (n0 := n) hv hl hpw a i' n' w' hi (by omega)
  have HE := Lib.hid (elements_any (p := p) (s := s) 42 (.inl rfl) #[.pointer (some ⟨w.heap.size, 0, none⟩), .pointer (some ⟨w.heap.size + 1, 0, none⟩), .pointer (some ⟨w.heap.size + 3, 0, none⟩)] 93 (by decide)
    (stepL (pv s f (level + 1))) (LInv w w.heap.size p level n s) (LBad w w.heap.size p s) (fun _ _ _ _ hi => hi.ps)
    (fun a i1 i2 m w1 w2 hi _ hb hp => by
      obtain ⟨v, xs, hv⟩ := hi.vv
      have hN := hv.bw
      refine ⟨hp, ?_, ?_, hi.rv.bes hb (by omega) (by omega), hi.bes.trans (hb.mono (by omega)), ⟨v, xs, hv.bes hb (by omega)⟩, hi.hn, hi.hm, hi.h0⟩
      · rw [cell_of_block (a := ⟨w.heap.size, 0, none⟩) (hb.block w.heap.size (by omega) (by omega))]; exact hi.c0
      · rw [cell_of_block (a := ⟨w.heap.size + 1, 0, none⟩) (hb.block (w.heap.size + 1) (by omega) (by omega))]; exact hi.c1)
    (fun a i1 m w1 w2 x j hi hb hp => by
      obtain ⟨v, xs, hv⟩ := hi.vv
      have hN := hv.bw
      obtain ⟨Av, cv, rfl⟩ := own_slice hv.own
      exact ⟨j, m, _, _, _, _, _, _, _, _, _, hp, hi.bes.trans (hb.mono (by omega)), hi.rv.bes hb (by omega) (by omega), hv.box.bes hb (by omega) (by omega)⟩)
    (i + 1) hst [] i n _ hI hlt rfl)
  clear hI hst r2 r3 c0 c1 b1 b2 b3 b4 h hv
  have hmf : ∀ (fn : Fn) (first cap : Array Value) (w : World), (Instr.makeFunc fn first cap).run Tryz.prog w = .ok (.func fn first cap) w := fun _ _ _ _ => rfl
  have q0 := HI.out.c0
  go_enter Tryz.func20, Tryz.ntmps20
  go_wp2_with fail
  refine HE.out.mono ?_
  rintro e w1 (⟨a, j, m, hr, rfl, hi1, hij⟩ | ⟨x, hr, rfl, hbad⟩)
  · obtain ⟨v, xs, hvv⟩ := hi1.vv
    obtain ⟨Av, cv, rfl⟩ := own_slice hvv.own
    have hN4 := hvv.bw
    have HR := Lib.hid hr
    have HI1 := Lib.hid hi1
    have HRD := Lib.hid (hvv.read (by unfold small; omega) (by have := hi1.hn; have := hi1.hm; omega) (by simp) (by simp))
    obtain ⟨y0, y1, y2, y3, y4⟩ := hvv.box.cells
    obtain ⟨z0, z1, z2, z3, z4⟩ := hi1.rv.cells
    have g0 := hi1.rv.frz 0
    have g1 := hi1.rv.frz 1
    have g2 := hi1.rv.frz 2
    have g3 := hi1.rv.frz 3
    have g4 := hi1.rv.frz 4
    have ZZ := Lib.hid (Box.five hi1.rv (.int .i64 5) (.int .i64 0) (.string ⟨#[]⟩) (.slice Av a.length cv) (.slice none 0 0)).cells
    have HK : Hid (∀ k, k ≠ w.heap.size + 2 → (((((w1.setCell ⟨w.heap.size + 2, 0, none⟩ (.int .i64 5)).setCell ⟨w.heap.size + 2, 1, none⟩ (.int .i64 0)).setCell ⟨w.heap.size + 2, 2, none⟩ (.string ⟨#[]⟩)).setCell ⟨w.heap.size + 2, 3, none⟩ (.slice Av a.length cv)).setCell ⟨w.heap.size + 2, 4, none⟩ (.slice none 0 0)).heap[k]? = w1.heap[k]?) := Lib.hid (fun k hk => by
      rw [Below.heap_setCell _ _ _ _ hk, Below.heap_setCell _ _ _ _ hk, Below.heap_setCell _ _ _ _ hk, Below.heap_setCell _ _ _ _ hk, Below.heap_setCell _ _ _ _ hk])
    have HSZ : Hid ((((((w1.setCell ⟨w.heap.size + 2, 0, none⟩ (.int .i64 5)).setCell ⟨w.heap.size + 2, 1, none⟩ (.int .i64 0)).setCell ⟨w.heap.size + 2, 2, none⟩ (.string ⟨#[]⟩)).setCell ⟨w.heap.size + 2, 3, none⟩ (.slice Av a.length cv)).setCell ⟨w.heap.size + 2, 4, none⟩ (.slice none 0 0)).heap.size = w1.heap.size) := Lib.hid (by simp [World.setCell])
    clear hr hi1 hvv q0
    go_wp2_with fail
    obtain ⟨z0, z1, z2, z3, z4⟩ := ZZ.out
    refine bodyPost_ret (v := .tuple #[.agg #[.int .i64 5, .int .i64 0, .string ⟨#[]⟩, .slice Av a.length cv, .slice none 0 0], .bool true]) (by simp [results, Tryz.results20, go_sem, z0, z1, z2, z3, z4]) rfl (.inl ⟨a, j, m, _, HR.out, rfl, ?_, ?_, ?_, hij, HI1.out.h0, HI1.out.hm⟩)
    · exact HRD.out.kept (fun b hb => HK.out b (by omega)) (fun b hb => ⟨by omega, by rw [HSZ.out]; exact hb.2⟩)
    · exact PS.five HI1.out.ps (by omega) _ _ _ _ _
    · exact Bes.five HI1.out.bes (by omega) _ _ _ _ _
  · obtain ⟨j, m, k5, n5, z5, A5, li5, ci5, K5, lk5, ck5, hp5, hb5, hr5, hx5⟩ := hbad
    have HR := Lib.hid hr
    have HP5 := Lib.hid hp5
    have HB5 := Lib.hid hb5
    obtain ⟨y0, y1, y2, y3, y4⟩ := hx5.cells
    obtain ⟨z0, z1, z2, z3, z4⟩ := hr5.cells
    have g0 := hr5.frz 0
    have g1 := hr5.frz 1
    have g2 := hr5.frz 2
    have g3 := hr5.frz 3
    have g4 := hr5.frz 4
    have ZZ := Lib.hid (Box.five hr5 (.int .i64 k5) (.int .i64 n5) (.string z5) (.slice A5 li5 ci5) (.slice K5 lk5 ck5)).cells
    clear hr hp5 hb5 hr5 hx5 q0
    go_wp2_with fail
    obtain ⟨z0, z1, z2, z3, z4⟩ := ZZ.out
    refine bodyPost_ret (v := .tuple #[.agg #[.int .i64 k5, .int .i64 n5, .string z5, .slice A5 li5 ci5, .slice K5 lk5 ck5], .bool false]) (by simp [results, Tryz.results20, go_sem, z0, z1, z2, z3, z4]) rfl (.inr ⟨x, j, m, _, HR.out, rfl, ⟨_, _, _, _, _, _, _, _, _, rfl⟩, ?_, ?_⟩)
    · exact PS.five HP5.out (by omega) _ _ _ _ _
    · exact Bes.five HB5.out (by omega) _ _ _ _ _
end Go.Proofs.YtcbajgcblfgmgaaGreatDoor
