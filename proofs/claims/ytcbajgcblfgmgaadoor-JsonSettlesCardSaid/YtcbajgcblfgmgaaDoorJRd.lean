
/-
  What has been read, as a value. The method that reads a list. Objects: the state, a key appended.
-/
import Derived.Test.YtcbajgcblfgmgaaDoorJPush
import Derived.Test.YtcbajgcblfgmgaaDoorJList
namespace Go.Proofs.YtcbajgcblfgmgaaDoor
open Go.RowKit
theorem VInv.read {w : World} {base vb : Nat} {kind : Int} {items : List VT} {keys : List ByteArray} {v v2 : Value} {xs : List Value} (h : VInv w base vb kind items keys v v2 xs) (hk : small kind) (hi : items.length ≤ 100000) (hkl : keys.length ≤ 100000) (hks : ∀ s ∈ keys, s.size ≤ 140737488351232) :
    RdS w (fun b => base ≤ b ∧ b < w.heap.size) (.agg #[.int .i64 kind, .int .i64 0, .string ⟨#[]⟩, v, v2]) (.mk kind 0 ⟨#[]⟩ items keys) := by
  obtain ⟨A, c, rfl⟩ := own_slice h.own
  obtain ⟨K, d, rfl⟩ := own_slice h.keys
  refine .mk (fun i => .agg #[xs.getD (i * 5) undef, xs.getD (i * 5 + 1) undef, xs.getD (i * 5 + 2) undef, xs.getD (i * 5 + 3) undef, xs.getD (i * 5 + 4) undef]) hk (by unfold small; omega) (by decide) hks rfl rfl (by omega) (by omega) (fun h0 => ?_) (fun i t hi => ?_) (fun h0 => ?_)
  · obtain ⟨g, cap, e, h1, h2⟩ := h.own.form h0
    injection e with e1 e2 e3
    subst e1
    refine ⟨_, rfl, ⟨h1, h2⟩, fun i hi => ?_⟩
    have hc : ∀ k, k < items.length * 5 → w.cell? ⟨g, k, none⟩ = some (xs.getD k undef) := fun k hk => by
      have := h.own.cells (g := g) rfl k (xs.getD k undef) (by
        have hl := h.own.1
        rw [List.getElem?_eq_getElem (by omega), List.getD_eq_getElem?_getD, List.getElem?_eq_getElem (by omega)]; rfl)
      rwa [Addr.add_mid, Nat.zero_add] at this
    rw [Addr.add_mid, Nat.zero_add]
    exact ⟨_, _, _, _, _, rfl, hc (i * 5) (by omega), hc (i * 5 + 1) (by omega), hc (i * 5 + 2) (by omega), hc (i * 5 + 3) (by omega), hc (i * 5 + 4) (by omega)⟩
  · obtain ⟨c0, c1, c2, c3, c4, e0, e1, e2, e3, e4, hr⟩ := h.elems i t hi
    simp only [List.getD_eq_getElem?_getD, e0, e1, e2, e3, e4, Option.getD_some]
    exact hr.kept (fun _ _ => rfl) (fun b hb => ⟨hb.1, hb.2.1⟩)
  · obtain ⟨g, cap, e, h1, h2⟩ := h.keys.form h0
    injection e with e1 e2 e3
    subst e1
    refine ⟨_, rfl, ⟨h1, h2⟩, fun i s hs => ?_⟩
    exact h.keys.cells (g := g) rfl i (.string s) (by rw [List.getElem?_map, hs]; rfl)
theorem alloc_cell (w : World) (o : Obj) (a : Addr) (h : a.block < w.heap.size) : (w.alloc o).cell? a = w.cell? a := ((Below.refl w.heap.size w).alloc (Nat.le_refl _) o).cell h
theorem alloc_new1 (w : World) (v : Value) (t : TypeId) : (w.alloc (.cells #[v] t (0, 0))).cell? ⟨w.heap.size, 0, none⟩ = some v := by
  rw [cell_of_row _ _ _ _ _ _ (heap_alloc_new _ _)]; rfl
end Go.Proofs.YtcbajgcblfgmgaaDoor
namespace Go.Proofs.YtcbajgcblfgmgaaDoor
open Go.RowKit
/- A list or an object has been read (a: what its elements gave). -/
def SeqPost {α : Type} (w : World) (p : Nat) (s : ByteArray) (i n : Nat) (tree : α → VT) (r : Except Er (α × Nat × Nat)) (e : Ending) (w' : World) : Prop :=
  (∃ a j m u, r = .ok (a, j, m) ∧ e = .returned (.tuple #[u, .bool true]) ∧ RdS w' (Fresh w.heap.size w') u (tree a) ∧ PS w' p s j m 0 0 ∧ Bes p w.heap.size w w' ∧ i ≤ j ∧ n ≤ m ∧ m ≤ 4096) ∨
  (∃ x j m u, r = .error x ∧ e = .returned (.tuple #[u, .bool false]) ∧ FiveV u ∧ PS w' p s j m x.1 x.2 ∧ Bes p w.heap.size w w')
set_option maxRecDepth 100000 in
set_option maxHeartbeats 4000000 in
theorem jlist_any {p level : Nat} {s : ByteArray} {f : Nat} (hv : ValAt p s f (level + 1)) (hl : level ≤ 24) (i n : Nat) (w : World) (h : PS w p s i n 0 0) (hn : n ≤ 4096) (hlt : i < s.size) (hf : s.size + 1 ≤ f + (i + 1)) :
    Calls Tryd.prog 31 #[pp p, .int .i64 level] w (SeqPost w p s i n (fun a => .mk 5 0 ⟨#[]⟩ a []) (els s 93 (stepL (pv s f (level + 1))) [] i n)) := by
  have hpw := h.lt
  have b1 : Below w.heap.size w (w.alloc (.cells #[pp p] 63 (0, 0))) := (Below.refl _ _).alloc (Nat.le_refl _) _
  have b2 : Below w.heap.size w ((w.alloc (.cells #[pp p] 63 (0, 0))).alloc (.cells #[.int .i64 level] 3 (0, 0))) := b1.alloc (by simp) _
  have b3 : Below w.heap.size w (((w.alloc (.cells #[pp p] 63 (0, 0))).alloc (.cells #[.int .i64 level] 3 (0, 0))).alloc (.cells #[.int .i64 0, .int .i64 0, .string ⟨#[]⟩, .slice none 0 0, .slice none 0 0] 25 (0, 0))) := b2.alloc (by simp <;> omega) _
  have b4 : Below w.heap.size w ((((w.alloc (.cells #[pp p] 63 (0, 0))).alloc (.cells #[.int .i64 level] 3 (0, 0))).alloc (.cells #[.int .i64 0, .int .i64 0, .string ⟨#[]⟩, .slice none 0 0, .slice none 0 0] 25 (0, 0))).alloc (.cells #[.int .i64 5, .int .i64 0, .string ⟨#[]⟩, .slice none 0 0, .slice none 0 0] 25 (0, 0))) := b3.alloc (by simp <;> omega) _
  have c0 : ((((w.alloc (.cells #[pp p] 63 (0, 0))).alloc (.cells #[.int .i64 level] 3 (0, 0))).alloc (.cells #[.int .i64 0, .int .i64 0, .string ⟨#[]⟩, .slice none 0 0, .slice none 0 0] 25 (0, 0))).alloc (.cells #[.int .i64 5, .int .i64 0, .string ⟨#[]⟩, .slice none 0 0, .slice none 0 0] 25 (0, 0))).cell? ⟨w.heap.size, 0, none⟩ = some (pp p) := by
    rw [alloc_cell _ _ _ (by simp <;> omega), alloc_cell _ _ _ (by simp <;> omega), alloc_cell _ _ _ (by simp)]
    exact alloc_new1 w _ _
  have c1 : ((((w.alloc (.cells #[pp p] 63 (0, 0))).alloc (.cells #[.int .i64 level] 3 (0, 0))).alloc (.cells #[.int .i64 0, .int .i64 0, .string ⟨#[]⟩, .slice none 0 0, .slice none 0 0] 25 (0, 0))).alloc (.cells #[.int .i64 5, .int .i64 0, .string ⟨#[]⟩, .slice none 0 0, .slice none 0 0] 25 (0, 0))).cell? ⟨w.heap.size + 1, 0, none⟩ = some (.int .i64 level) := by
    rw [alloc_cell _ _ _ (by simp <;> omega), alloc_cell _ _ _ (by simp)]
    exact (by simp : (w.alloc (.cells #[pp p] 63 (0, 0))).heap.size = w.heap.size + 1) ▸ alloc_new1 (w.alloc (.cells #[pp p] 63 (0, 0))) (.int .i64 level) 3
  have r2 := (Box.new ((w.alloc (.cells #[pp p] 63 (0, 0))).alloc (.cells #[.int .i64 level] 3 (0, 0))) (.int .i64 0) (.int .i64 0) (.string ⟨#[]⟩) (.slice none 0 0) (.slice none 0 0)).alloc (.cells #[.int .i64 5, .int .i64 0, .string ⟨#[]⟩, .slice none 0 0, .slice none 0 0] 25 (0, 0))
  have r3 := Box.new (((w.alloc (.cells #[pp p] 63 (0, 0))).alloc (.cells #[.int .i64 level] 3 (0, 0))).alloc (.cells #[.int .i64 0, .int .i64 0, .string ⟨#[]⟩, .slice none 0 0, .slice none 0 0] 25 (0, 0))) (.int .i64 5) (.int .i64 0) (.string ⟨#[]⟩) (.slice none 0 0) (.slice none 0 0)
  simp only [World.size_alloc] at r2 r3
  have hI : LInv w w.heap.size p level n s [] i n _ := ⟨h.kept b4, c0, c1, r2, Bes.of b4, ⟨.slice none 0 0, [], r3, World.ownsRow_nil _ _ _ _, Elems.nil _ _, World.ownsRow_nil _ _ _ _, (fun b e => by cases e), by omega, by simp <;> omega⟩, Nat.zero_le _, hn, Nat.le_refl _⟩
  have HI := Lib.hid hI
  have hst : ∀ (a : List VT) (i' n' : Nat) (w' : World), LInv w w.heap.size p level n s a i' n' w' → i + 1 ≤ i' → _ := fun a i' n' w' hi hL => listStep_any (w0 := w) (N := w.heap.size) (n0 := n) hv hl hpw a i' n' w' hi (by omega)
  have HE := Lib.hid (elements_any (p := p) (s := s) 49 (.inl rfl) #[.pointer (some ⟨w.heap.size, 0, none⟩), .pointer (some ⟨w.heap.size + 1, 0, none⟩), .pointer (some ⟨w.heap.size + 3, 0, none⟩)] 93 (by decide)
    (stepL (pv s f (level + 1))) (LInv w w.heap.size p level n s) (LBad w w.heap.size p s) (fun _ _ _ _ hi => hi.ps)
    (fun a i1 i2 m w1 w2 hi _ hb hp => by
      obtain ⟨v, xs, hv⟩ := hi.vv
      have hN := hv.bw
      refine ⟨hp, ?_, ?_, hi.rv.bes hb (by omega) (by omega), hi.bes.trans (hb.mono (by omega)), ⟨v, xs, hv.bes hb (by omega)⟩, hi.hn, hi.hm, hi.h0⟩
      · rw [cell_of_block (a := ⟨w.heap.size, 0, none⟩) (hb.block w.heap.size (by omega) (by omega))]; exact hi.c0
      · rw [cell_of_block (a := ⟨w.heap.size + 1, 0, none⟩) (hb.block (w.heap.size + 1) (by omega) (by omega))]; exact hi.c1)
    (fun a i1 m w1 w2 x j hi hb hp => by
      obtain ⟨v, xs, hv⟩ := hi.vv
      have hN := hv.bw
      obtain ⟨Av, cv, rfl⟩ := own_slice hv.own
      exact ⟨j, m, _, _, _, _, _, _, _, _, _, hp, hi.bes.trans (hb.mono (by omega)), hi.rv.bes hb (by omega) (by omega), hv.box.bes hb (by omega) (by omega)⟩)
    (i + 1) hst [] i n _ hI hlt rfl)
  clear hI hst r2 r3 c0 c1 b1 b2 b3 b4 h hv
  have hmf : ∀ (fn : Fn) (first cap : Array Value) (w : World), (Instr.makeFunc fn first cap).run Tryd.prog w = .ok (.func fn first cap) w := fun _ _ _ _ => rfl
  have q0 := HI.out.c0
  go_enter Tryd.func31, Tryd.ntmps31
  go_wp2_with fail
  refine HE.out.mono ?_
  rintro e w1 (⟨a, j, m, hr, rfl, hi1, hij⟩ | ⟨x, hr, rfl, hbad⟩)
  · obtain ⟨v, xs, hvv⟩ := hi1.vv
    obtain ⟨Av, cv, rfl⟩ := own_slice hvv.own
    have hN4 := hvv.bw
    have HR := Lib.hid hr
    have HI1 := Lib.hid hi1
    have HRD := Lib.hid (hvv.read (by unfold small; omega) (by have := hi1.hn; have := hi1.hm; omega) (by simp) (by simp))
    obtain ⟨y0, y1, y2, y3, y4⟩ := hvv.box.cells
    obtain ⟨z0, z1, z2, z3, z4⟩ := hi1.rv.cells
    have g0 := hi1.rv.frz 0
    have g1 := hi1.rv.frz 1
    have g2 := hi1.rv.frz 2
    have g3 := hi1.rv.frz 3
    have g4 := hi1.rv.frz 4
    have ZZ := Lib.hid (Box.five hi1.rv (.int .i64 5) (.int .i64 0) (.string ⟨#[]⟩) (.slice Av a.length cv) (.slice none 0 0)).cells
    have HK : Hid (∀ k, k ≠ w.heap.size + 2 → (((((w1.setCell ⟨w.heap.size + 2, 0, none⟩ (.int .i64 5)).setCell ⟨w.heap.size + 2, 1, none⟩ (.int .i64 0)).setCell ⟨w.heap.size + 2, 2, none⟩ (.string ⟨#[]⟩)).setCell ⟨w.heap.size + 2, 3, none⟩ (.slice Av a.length cv)).setCell ⟨w.heap.size + 2, 4, none⟩ (.slice none 0 0)).heap[k]? = w1.heap[k]?) := Lib.hid (fun k hk => by
      rw [Below.heap_setCell _ _ _ _ hk, Below.heap_setCell _ _ _ _ hk, Below.heap_setCell _ _ _ _ hk, Below.heap_setCell _ _ _ _ hk, Below.heap_setCell _ _ _ _ hk])
    have HSZ : Hid ((((((w1.setCell ⟨w.heap.size + 2, 0, none⟩ (.int .i64 5)).setCell ⟨w.heap.size + 2, 1, none⟩ (.int .i64 0)).setCell ⟨w.heap.size + 2, 2, none⟩ (.string ⟨#[]⟩)).setCell ⟨w.heap.size + 2, 3, none⟩ (.slice Av a.length cv)).setCell ⟨w.heap.size + 2, 4, none⟩ (.slice none 0 0)).heap.size = w1.heap.size) := Lib.hid (by simp [World.setCell])
    clear hr hi1 hvv q0
    go_wp2_with fail
    obtain ⟨z0, z1, z2, z3, z4⟩ := ZZ.out
    refine bodyPost_ret (v := .tuple #[.agg #[.int .i64 5, .int .i64 0, .string ⟨#[]⟩, .slice Av a.length cv, .slice none 0 0], .bool true]) (by simp [results, Tryd.results31, go_sem, z0, z1, z2, z3, z4]) rfl (.inl ⟨a, j, m, _, HR.out, rfl, ?_, ?_, ?_, hij, HI1.out.h0, HI1.out.hm⟩)
    · exact HRD.out.kept (fun b hb => HK.out b (by omega)) (fun b hb => ⟨by omega, by rw [HSZ.out]; exact hb.2⟩)
    · exact PS.five HI1.out.ps (by omega) _ _ _ _ _
    · exact Bes.five HI1.out.bes (by omega) _ _ _ _ _
  · obtain ⟨j, m, k5, n5, z5, A5, li5, ci5, K5, lk5, ck5, hp5, hb5, hr5, hx5⟩ := hbad
    have HR := Lib.hid hr
    have HP5 := Lib.hid hp5
    have HB5 := Lib.hid hb5
    obtain ⟨y0, y1, y2, y3, y4⟩ := hx5.cells
    obtain ⟨z0, z1, z2, z3, z4⟩ := hr5.cells
    have g0 := hr5.frz 0
    have g1 := hr5.frz 1
    have g2 := hr5.frz 2
    have g3 := hr5.frz 3
    have g4 := hr5.frz 4
    have ZZ := Lib.hid (Box.five hr5 (.int .i64 k5) (.int .i64 n5) (.string z5) (.slice A5 li5 ci5) (.slice K5 lk5 ck5)).cells
    clear hr hp5 hb5 hr5 hx5 q0
    go_wp2_with fail
    obtain ⟨z0, z1, z2, z3, z4⟩ := ZZ.out
    refine bodyPost_ret (v := .tuple #[.agg #[.int .i64 k5, .int .i64 n5, .string z5, .slice A5 li5 ci5, .slice K5 lk5 ck5], .bool false]) (by simp [results, Tryd.results31, go_sem, z0, z1, z2, z3, z4]) rfl (.inr ⟨x, j, m, _, HR.out, rfl, ⟨_, _, _, _, _, _, _, _, _, rfl⟩, ?_, ?_⟩)
    · exact PS.five HP5.out (by omega) _ _ _ _ _
    · exact Bes.five HB5.out (by omega) _ _ _ _ _
end Go.Proofs.YtcbajgcblfgmgaaDoor
namespace Go.Proofs.YtcbajgcblfgmgaaDoor
open Go.RowKit
theorem VInv.same {w w' : World} {base vb : Nat} {kind : Int} {items : List VT} {keys : List ByteArray} {v v2 : Value} {xs : List Value} (h : VInv w base vb kind items keys v v2 xs) (hs : w.heap.size ≤ w'.heap.size) (hvb : w'.heap[vb]? = w.heap[vb]?) (hk : ∀ g, base ≤ g → g < w.heap.size → w'.heap[g]? = w.heap[g]?) : VInv w' base vb kind items keys v v2 xs := by
  have own : ∀ {e : TypeId} {size : Nat} {v : Value} {n : Nat} {xs : List Value}, w.ownsRow base e size v n xs → w'.ownsRow base e size v n xs := by
    intro e size v n xs h
    refine ⟨h.1, h.2.imp id ?_⟩
    rintro ⟨g, cap, cur, e1, e2, e3, r⟩
    have hg : g < w.heap.size := by
      rcases Nat.lt_or_ge g w.heap.size with h' | h'
      · exact h'
      · rw [Array.getElem?_eq_none h'] at e3; cases e3
    exact ⟨g, cap, cur, e1, e2, (hk g e2 hg).trans e3, r⟩
  refine ⟨hvb.trans h.box, own h.own, ?_, own h.keys, h.apart, h.vbb, Nat.le_trans h.bw hs⟩
  exact h.elems.kept (fun b hb2 => hk b hb2.1 hb2.2.1) (fun b hb2 => ⟨hb2.1, Nat.lt_of_lt_of_le hb2.2.1 hs, hb2.2.2⟩)
theorem VInv.pushKey {W w3 : World} {base vb : Nat} {kind : Int} {items : List VT} {keys : List ByteArray} {v : Value} {K : Option Addr} {d : Nat} {xs : List Value} {g cap : Nat} {x : ByteArray}
    (hv : VInv W base vb kind items keys v (.slice K keys.length d) xs)
    (h1 : w3.ownsRow base 9 1 (.slice (some ⟨g, 0, none⟩) (keys.length + 1) cap) (keys.length + 1) (keys.map Value.string ++ [.string x]))
    (h2 : W.grownBy w3 (Value.slice K keys.length d).ownBlock) (h3 : (Value.slice K keys.length d).ownBlock = some g ∨ g = W.heap.size) :
    VInv (w3.setCell ⟨vb, 4, none⟩ (.slice (some ⟨g, 0, none⟩) (keys.length + 1) cap)) base vb kind items (keys ++ [x]) v (.slice (some ⟨g, 0, none⟩) (keys.length + 1) cap) xs ∧
    Below vb W (w3.setCell ⟨vb, 4, none⟩ (.slice (some ⟨g, 0, none⟩) (keys.length + 1) cap)) ∧
    (∀ k, k < W.heap.size → k ≠ vb → (Value.slice K keys.length d).ownBlock ≠ some k → (w3.setCell ⟨vb, 4, none⟩ (.slice (some ⟨g, 0, none⟩) (keys.length + 1) cap)).heap[k]? = W.heap[k]?) ∧
    (∀ k, k < W.heap.size → (Value.slice K keys.length d).ownBlock ≠ some k → g ≠ k) := by
  have hgb : base ≤ g := (own_lt h1 rfl).1
  have hvb := hv.vbb
  have hbw := hv.bw
  have s3 := h2.size
  have hsz : (w3.setCell ⟨vb, 4, none⟩ (.slice (some ⟨g, 0, none⟩) (keys.length + 1) cap)).heap.size = w3.heap.size := by simp [World.setCell]
  have hne : ∀ k, k < W.heap.size → (Value.slice K keys.length d).ownBlock ≠ some k → g ≠ k := by
    rintro k a c rfl
    rcases h3 with h | h
    · exact c h
    · omega
  have hold : ∀ k, k < W.heap.size → k ≠ vb → (Value.slice K keys.length d).ownBlock ≠ some k → (w3.setCell ⟨vb, 4, none⟩ (.slice (some ⟨g, 0, none⟩) (keys.length + 1) cap)).heap[k]? = W.heap[k]? := by
    intro k a b c
    rw [Below.heap_setCell _ _ _ _ b, h2.block k a (fun e => c e.symm)]
  have hbx3 : Box w3 vb (.int .i64 kind) (.int .i64 0) (.string ⟨#[]⟩) v (.slice K keys.length d) := Box.grown hv.box h2 (fun e => by have := own_lt hv.keys e; omega)
  have hos := setCell_os w3 ⟨vb, 4, none⟩ (.slice (some ⟨g, 0, none⟩) (keys.length + 1) cap)
  have hown := ownsRow_setCell_below h1 (a := ⟨vb, 4, none⟩) hvb (.slice (some ⟨g, 0, none⟩) (keys.length + 1) cap)
  have hbox := hbx3.s4 (.slice (some ⟨g, 0, none⟩) (keys.length + 1) cap)
  refine ⟨⟨hbox, ?_, ?_, ?_, ?_, hvb, by rw [hsz]; omega⟩, ⟨hos.1.trans h2.os, hos.2.1.trans h2.tape, hos.2.2.trans h2.output, by rw [hsz]; exact s3, fun k hk => hold k (by omega) (by omega) (fun e => by have := own_lt hv.keys e; omega)⟩, hold, hne⟩
  · refine ⟨hv.own.1, hv.own.2.imp id ?_⟩
    rintro ⟨b, cap', cur, e1, e2, e3, r⟩
    have hb1 : v.ownBlock = some b := by rw [e1]; rfl
    have hbl := (own_lt hv.own hb1).2
    exact ⟨b, cap', cur, e1, e2, (hold b hbl (by omega) (hv.apart b hb1)).trans e3, r⟩
  · refine hv.elems.kept (fun b hb => hold b hb.2.1 (by omega) hb.2.2.2) (fun b hb => ⟨hb.1, by rw [hsz]; omega, hb.2.2.1, fun e => ?_⟩)
    have e2 : g = b := by injection e
    exact hne b hb.2.1 hb.2.2.2 e2
  · rw [List.length_append, List.length_singleton, List.map_append]
    exact hown
  · intro b e e'
    have e2 : g = b := by injection e'
    exact hne b (own_lt hv.own e).2 (hv.apart b e) e2
structure OInv (w0 : World) (N p level n0 : Nat) (s : ByteArray) (a : List ByteArray × List VT) (i n : Nat) (w : World) : Prop where
  ps : PS w p s i n 0 0
  c0 : w.cell? ⟨N, 0, none⟩ = some (pp p)
  c1 : w.cell? ⟨N + 1, 0, none⟩ = some (.int .i64 level)
  cm : w.cell? ⟨N + 5, 0, none⟩ = some (.map (some (N + 4)))
  rv : Box w (N + 2) (.int .i64 0) (.int .i64 0) (.string ⟨#[]⟩) (.slice none 0 0) (.slice none 0 0)
  bes : Bes p N w0 w
  sn : SeenAt w (N + 4) a.1
  vv : ∃ v v2 xs, VInv w (N + 6) (N + 3) 6 a.2 a.1 v v2 xs
  ks : ∀ x ∈ a.1, x.size ≤ 1073741824
  le : a.1.length = a.2.length
  hn : a.2.length ≤ n
  hm : n ≤ 4096
  h0 : n0 ≤ n
/- What stays when the blocks below N + 6 stay, but for p. -/
theorem OInv.keep {w0 w w' : World} {N p level n0 : Nat} {s : ByteArray} {a : List ByteArray × List VT} {i n : Nat} (h : OInv w0 N p level n0 s a i n w) (hk : ∀ k, k < N + 6 → k ≠ p → k ≠ N + 3 → k ≠ N + 4 → w'.heap[k]? = w.heap[k]?) (hos : w'.os = w.os ∧ w'.tape = w.tape ∧ w'.output = w.output) (hs : w.heap.size ≤ w'.heap.size) (hpN : p < N) :
    w'.cell? ⟨N, 0, none⟩ = some (pp p) ∧ w'.cell? ⟨N + 1, 0, none⟩ = some (.int .i64 level) ∧ w'.cell? ⟨N + 5, 0, none⟩ = some (.map (some (N + 4))) ∧ Box w' (N + 2) (.int .i64 0) (.int .i64 0) (.string ⟨#[]⟩) (.slice none 0 0) (.slice none 0 0) ∧ Bes p N w0 w' := by
  refine ⟨?_, ?_, ?_, ?_, ?_⟩
  · rw [cell_of_block (a := ⟨N, 0, none⟩) (hk N (by omega) (by omega) (by omega) (by omega))]; exact h.c0
  · rw [cell_of_block (a := ⟨N + 1, 0, none⟩) (hk (N + 1) (by omega) (by omega) (by omega) (by omega))]; exact h.c1
  · rw [cell_of_block (a := ⟨N + 5, 0, none⟩) (hk (N + 5) (by omega) (by omega) (by omega) (by omega))]; exact h.cm
  · exact (hk (N + 2) (by omega) (by omega) (by omega) (by omega)).trans h.rv
  · exact h.bes.trans ⟨hos.1, hos.2.1, hos.2.2, hs, fun k h1 h2 => hk k (by omega) h2 (by omega) (by omega)⟩
end Go.Proofs.YtcbajgcblfgmgaaDoor
