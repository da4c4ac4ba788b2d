
/-
  Contract of the reference's Object.
-/
import Derived.Test.YtgbckpihlklnlaaRCopyF
import Derived.Test.YtgbckpihlklnlaaTwice
import Derived.Test.YtgbckpihlklnlaaMake
namespace Go.Proofs.Ytgbckpihlklnlaa
open Go.RowKit
theorem wpList_append_keys (w : World) {ops : Array Oper} {rest : List Oper} {o : Oper} {a : Act} {Q : Exit → Act → World → Prop} (hgd : o.guard = none) (x y : Operand)
    (ho : o.op = .call { callee := .builtin .append, args := #[x, y], argTypes := #[22, 22] }) (a0 : Addr) (hx : a.eval x = .slice (some a0) 0 0) (K : Option Addr) (lk ck : Nat) (hy : a.eval y = .slice K lk ck) (keys : List ByteArray) (B : Nat)
    (hlk : keys.length = lk) (hbk : lk * 16 ≤ 140737488351232) (hK : KeysAt w B K keys) (h : ∀ A2 c2 w', Below w.heap.size w w' → KeysS w' (Fresh w.heap.size w') A2 keys → wpList Try.prog ops Q rest (a.put o.dst (.slice A2 lk c2)) w') : wpList Try.prog ops Q (o :: rest) a w :=
  wpList_plain hgd fun _ hK2 => by
    obtain ⟨A2, c2, w', hr, hb, hks⟩ := append_keys w o.type a0 K lk ck keys B hlk hbk hK
    unfold Oper.wp execOp
    simp only [ho, resolve, invoke, builtin, Sem.run_bind, Sem.run_pure, Result.andThen_ok, List.map_toArray, List.map_cons, List.map_nil, hx, hy, hr]
    exact hK2 _ _ (h A2 c2 w' hb hks)
set_option maxRecDepth 100000 in
set_option maxHeartbeats 2000000 in
theorem robject_any (K : Option Addr) (lk ck : Nat) (A : Option Addr) (li ci : Nat) (V : Nat → Value) (keys : List ByteArray) (items : List VT) (w : World) (B : Nat) (hlk : keys.length = lk) (hbk : lk * 16 ≤ 140737488351232) (hks : ∀ s ∈ keys, s.size ≤ 140737488351232) (hK : KeysAt w B K keys)
    (hli : items.length = li) (hbi : li * 80 ≤ 140737488351232) (hA : 0 < li → ∃ a, A = some a ∧ a.block < B ∧ ∀ i, i < li → C5 w (a.add (i * 5)) (V i)) (hr : ∀ (i : Nat) (t : VT), items[i]? = some t → Rd w B (V i) t) (hB : B ≤ w.heap.size) :
    Calls Try.prog 8 #[.slice K lk ck, .slice A li ci] w fun e w' => (if lk ≠ li then e = .returned (.tuple #[zeroV, .int .i64 2]) else if ¬ keys.Nodup then e = .returned (.tuple #[zeroV, .int .i64 7]) else
      ∃ A2 c2 K2 d2, e = .returned (.tuple #[.agg #[.int .i64 6, .int .i64 0, .string ⟨#[]⟩, .slice A2 li c2, .slice K2 lk d2], .int .i64 0]) ∧ Rd w' w'.heap.size (.agg #[.int .i64 6, .int .i64 0, .string ⟨#[]⟩, .slice A2 li c2, .slice K2 lk d2]) (.mk 6 0 ⟨#[]⟩ items keys)) ∧ Below w.heap.size w w' := by
  have hlm : (li : Int) ≤ 140737488351232 := by omega
  have hlm' : (lk : Int) ≤ 140737488351232 := by omega
  by_cases e0 : lk = li
  · subst e0
    have HTW := Lib.hid fun w2 (hb : Below w.heap.size w w2) => rtwice_any K lk ck keys w2 B hlk hbk (hK.kept (hb.mono hB)) (Nat.le_trans hB hb.size)
    go_enter Try.func8, Try.ntmps8
    go_wp2_with fail
    have b0 : Below w.heap.size w (w.alloc (.cells #[.int .i64 0, .int .i64 0, .string ⟨#[]⟩, .slice none 0 0, .slice none 0 0] 26 (0, 0))) := (Below.refl _ _).alloc (Nat.le_refl _) _
    refine (HTW.out _ b0).mono ?_
    rintro e w1 ⟨rfl, b1⟩
    have HB := Lib.hid (b0.trans (b1.mono b0.size))
    have y2 := (Box.new w (.int .i64 0) (.int .i64 0) (.string ⟨#[]⟩) (.slice none 0 0) (.slice none 0 0)).kept b1
    have Y2 := Lib.hid y2
    clear b0 b1
    cases hnd : decide keys.Nodup
    · have hn2 : ¬ keys.Nodup := by simpa using hnd
      obtain ⟨q0, q1, q2, q3, q4⟩ := y2.cells
      have g0 := y2.frz 0
      have g1 := y2.frz 1
      have g2 := y2.frz 2
      have g3 := y2.frz 3
      have g4 := y2.frz 4
      have ZZ := Lib.hid (Box.five y2 (.int .i64 0) (.int .i64 0) (.string ⟨#[]⟩) (.slice none 0 0) (.slice none 0 0)).cells
      have hle : w.heap.size ≤ w.heap.size := Nat.le_refl _
      have BZ := Lib.hid (((((HB.out.setCell (p := ⟨w.heap.size, 0, none⟩) hle (.int .i64 0)).setCell (p := ⟨w.heap.size, 1, none⟩) hle (.int .i64 0)).setCell (p := ⟨w.heap.size, 2, none⟩) hle (.string ⟨#[]⟩)).setCell (p := ⟨w.heap.size, 3, none⟩) hle (.slice none 0 0)).setCell (p := ⟨w.heap.size, 4, none⟩) hle (.slice none 0 0))
      have HN2 := Lib.hid hn2
      clear y2 hle hn2
      go_wp2_with fail
      obtain ⟨z0, z1, z2, z3, z4⟩ := ZZ.out
      exact bodyPost_ret (v := .tuple #[zeroV, .int .i64 7]) (by simp [results, Try.results8, go_sem, zeroV, z0, z1, z2, z3, z4]) rfl ⟨rfl, BZ.out⟩
    · clear y2
      have hn2 : keys.Nodup := by simpa using hnd
      have bz : Below w1.heap.size w1 (w1.alloc (.cells #[] 9 (0, 0))) := (Below.refl _ _).alloc (Nat.le_refl _) _
      have HK1 := Lib.hid (hK.kept ((HB.out.trans (bz.mono HB.out.size)).mono hB))
      have HBZ := Lib.hid (HB.out.trans (bz.mono HB.out.size))
      have Y3 := Lib.hid (Y2.out.kept bz)
      have HCPY : Hid (∀ wn, Below w.heap.size w wn → Calls Try.prog 27 #[.slice A lk ci] wn fun e w' => (∃ v, e = .returned v ∧ ListS w' (Fresh wn.heap.size w') v items) ∧ Below wn.heap.size wn w') :=
        Lib.hid fun wn hb => rcopies_any items (fun i t _ => rcopy_any t) A lk ci V wn B hli hbi (fun h0 => by
          obtain ⟨a, e, ha, hc⟩ := hA h0
          exact ⟨a, e, ha, fun i hi => (hc i hi).kept (by rw [add_block]; exact ha) (hb.mono hB)⟩) (fun i t ht => (hr i t ht).kept (hb.mono hB)) (Nat.le_trans hB hb.size)
      have HLK := Lib.hid hlk
      have HLI := Lib.hid hli
      have HBK := Lib.hid hbk
      have HBI := Lib.hid hbi
      have HKS := Lib.hid hks
      have HN2 := Lib.hid hn2
      clear bz hli hA hr hK HTW hlk hbi hks hn2 hnd
      go_wp2_with (at_builtin; refine wpList_append_keys _ rfl _ _ rfl ⟨w1.heap.size, 0, none⟩ rfl K lk ck rfl keys B HLK.out hbk HK1.out ?_; intro A2 c2 w2 hb2 hk2)
      have HB2 := Lib.hid (HBZ.out.trans (hb2.mono HBZ.out.size))
      have HK2 := Lib.hid hk2
      have Y4 := Lib.hid (Y3.out.kept hb2)
      have hz1 := HBZ.out.size
      have hw12 : w1.heap.size < w2.heap.size := by have := hb2.size; simp at this; omega
      clear hb2 hk2
      refine (HCPY.out _ HB2.out).mono ?_
      rintro e w3 ⟨⟨u, rfl, hu⟩, hb3⟩
      obtain ⟨A3, c3, hu1, V3, hu2, hu3⟩ := hu
      rw [HLI.out] at hu1 hu2
      subst hu1
      have hy : w.heap.size < w1.heap.size := Y2.out.lt
      have hs3 := hb3.size
      have y5 := Y4.out.kept hb3
      have hw2 : w1.heap.size < w2.heap.size := hw12
      have hv : RdS w3 (fun b => w.heap.size < b ∧ b < w3.heap.size) (.agg #[.int .i64 6, .int .i64 0, .string ⟨#[]⟩, .slice A3 lk c3, .slice A2 lk c2]) (.mk 6 0 ⟨#[]⟩ items keys) := by
        refine .mk V3 (by unfold small; omega) (by unfold small; omega) (by decide) HKS.out HLI.out HLK.out HBI.out HBK.out (fun h0 => ?_) (fun i t ht => (hu3 i t ht).kept (fun _ _ => rfl) (fun b hb => ⟨by have := hb.1; omega, hb.2⟩)) (HK2.out.kept (fun b hb => hb3.block b hb.2) (fun b hb => ⟨by have := hb.1; simp at this; omega, by have := hb.2; omega⟩))
        obtain ⟨a, e, ha, hc⟩ := hu2 h0
        exact ⟨a, e, ⟨by have := ha.1; omega, ha.2⟩, hc⟩
      have RZ : Hid (Rd (((((w3.setCell ⟨w.heap.size, 0, none⟩ (.int .i64 6)).setCell ⟨w.heap.size, 1, none⟩ (.int .i64 0)).setCell ⟨w.heap.size, 2, none⟩ (.string ⟨#[]⟩)).setCell ⟨w.heap.size, 3, none⟩ (.slice A3 lk c3)).setCell ⟨w.heap.size, 4, none⟩ (.slice A2 lk c2)) (((((w3.setCell ⟨w.heap.size, 0, none⟩ (.int .i64 6)).setCell ⟨w.heap.size, 1, none⟩ (.int .i64 0)).setCell ⟨w.heap.size, 2, none⟩ (.string ⟨#[]⟩)).setCell ⟨w.heap.size, 3, none⟩ (.slice A3 lk c3)).setCell ⟨w.heap.size, 4, none⟩ (.slice A2 lk c2)).heap.size (.agg #[.int .i64 6, .int .i64 0, .string ⟨#[]⟩, .slice A3 lk c3, .slice A2 lk c2]) (.mk 6 0 ⟨#[]⟩ items keys)) := Lib.hid (by
        refine RdS.toRd (S := fun b => b < w3.heap.size) (hv.kept ?_ (fun b hb => hb.2)) (fun b hb => by simpa using hb)
        rintro b' ⟨r1, r2⟩
        have hne : b' ≠ w.heap.size := by omega
        rw [Below.heap_setCell _ _ _ _ hne, Below.heap_setCell _ _ _ _ hne, Below.heap_setCell _ _ _ _ hne, Below.heap_setCell _ _ _ _ hne, Below.heap_setCell _ _ _ _ hne])
      have ZZ := Lib.hid (Box.five y5 (.int .i64 6) (.int .i64 0) (.string ⟨#[]⟩) (.slice A3 lk c3) (.slice A2 lk c2)).cells
      have hle : w.heap.size ≤ w.heap.size := Nat.le_refl _
      have BZ := Lib.hid ((((((HB2.out.trans (hb3.mono HB2.out.size)).setCell (p := ⟨w.heap.size, 0, none⟩) hle (.int .i64 6)).setCell (p := ⟨w.heap.size, 1, none⟩) hle (.int .i64 0)).setCell (p := ⟨w.heap.size, 2, none⟩) hle (.string ⟨#[]⟩)).setCell (p := ⟨w.heap.size, 3, none⟩) hle (.slice A3 lk c3)).setCell (p := ⟨w.heap.size, 4, none⟩) hle (.slice A2 lk c2))
      obtain ⟨q0, q1, q2, q3, q4⟩ := y5.cells
      have g0 := y5.frz 0
      have g1 := y5.frz 1
      have g2 := y5.frz 2
      have g3 := y5.frz 3
      have g4 := y5.frz 4
      clear hv hu2 hu3 y5 hle hb3 hs3 hw2 hw12 hy
      go_wp2_with fail
      obtain ⟨z0, z1, z2, z3, z4⟩ := ZZ.out
      refine bodyPost_ret (v := .tuple #[.agg #[.int .i64 6, .int .i64 0, .string ⟨#[]⟩, .slice A3 lk c3, .slice A2 lk c2], .int .i64 0]) (by simp [results, Try.results8, go_sem, z0, z1, z2, z3, z4]) rfl ⟨?_, BZ.out⟩
      exact ⟨A3, c3, A2, c2, rfl, RZ.out⟩
  · have e2 : ((lk : Int) == (li : Int)) = false := beq_eq_false_iff_ne.2 (by omega)
    have ZZ := Lib.hid (Box.new w (.int .i64 0) (.int .i64 0) (.string ⟨#[]⟩) (.slice none 0 0) (.slice none 0 0)).cells
    go_enter Try.func8, Try.ntmps8
    go_wp2_with fail
    obtain ⟨z0, z1, z2, z3, z4⟩ := ZZ.out
    exact bodyPost_ret (v := .tuple #[zeroV, .int .i64 2]) (by simp [results, Try.results8, go_sem, zeroV, z0, z1, z2, z3, z4]) rfl ⟨rfl, (Below.refl _ _).alloc (Nat.le_refl _) _⟩
end Go.Proofs.Ytgbckpihlklnlaa
