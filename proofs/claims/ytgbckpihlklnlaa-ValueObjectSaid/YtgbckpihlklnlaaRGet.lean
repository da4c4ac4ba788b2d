
/-
  Contract of the reference's Get.
-/
import Derived.Test.YtgbckpihlklnlaaRCopyF
namespace Go.Proofs.Ytgbckpihlklnlaa
open Go.RowKit
theorem idxF_at (x : ByteArray) : ∀ (keys : List ByteArray) (i j : Nat), keys[j]? = some x → x ∉ keys.take j → Lib.idxFromS keys x i = ((i + j : Nat) : Int)
  | [], i, j, h, _ => by simp at h
  | z :: r, i, 0, h, _ => by
    simp at h; subst h
    unfold Lib.idxFromS; simp
  | z :: r, i, j + 1, h, hn => by
    simp only [List.take_succ_cons, List.mem_cons, not_or] at hn
    unfold Lib.idxFromS
    rw [if_neg (fun e => hn.1 e.symm), idxF_at x r (i + 1) j (by simpa using h) hn.2]
    congr 1; omega
theorem idxF_no (x : ByteArray) : ∀ (keys : List ByteArray) (i : Nat), x ∉ keys → Lib.idxFromS keys x i = -1
  | [], i, _ => rfl
  | z :: r, i, hn => by
    simp only [List.mem_cons, not_or] at hn
    unfold Lib.idxFromS
    rw [if_neg (fun e => hn.1 e.symm), idxF_no x r (i + 1) hn.2]
def RGetPost (w : World) (r : Option VT) (e : Ending) (w' : World) : Prop :=
  (∃ u, (match r with | none => e = .returned (.tuple #[zeroV, .bool false]) | some t => e = .returned (.tuple #[u, .bool true]) ∧ Rd w' w'.heap.size u t)) ∧ Below w.heap.size w w'
set_option maxHeartbeats 1000000 in
theorem rget_any (t : VT) (x : ByteArray) (w : World) (B : Nat) (v : Value) (h : Rd w B v t) (hB : B ≤ w.heap.size) :
    Calls Try.prog 11 #[v, .string x] w (RGetPost w (t.get x)) := by
  have HRD := Lib.hid h
  cases h with
  | @mk k n s A li ci K lk ck items keys V hk hn hs hks hli hlk hbi hbk hA hr hK =>
  have HA := Lib.hid hA
  have HR := Lib.hid hr
  have HL := Lib.hid hli
  have HLK := Lib.hid hlk
  have hlm : (li : Int) ≤ 140737488351232 := by omega
  have hlm' : (lk : Int) ≤ 140737488351232 := by omega
  have HK : Hid (0 < lk → ∃ a, K = some a ∧ ∀ W, Below w.heap.size w W → ∀ i s, keys[i]? = some s → W.cell? (a.add i) = some (.string s)) := Lib.hid (fun h0 => by
    obtain ⟨a, e, hab, hc⟩ := hK (by omega)
    exact ⟨a, e, fun W hb i s hi => (hb.cell (p := a.add i) (by rw [add_block]; omega)).trans (hc i s hi)⟩)
  have HX := Lib.hid (Box.new w (.int .i64 k) (.int .i64 n) (.string s) (.slice A li ci) (.slice K lk ck))
  have HB0 := Lib.hid ((Below.alloc (Below.refl w.heap.size w) (Nat.le_refl _) (.cells #[.int .i64 k, .int .i64 n, .string s, .slice A li ci, .slice K lk ck] 26 (0, 0))))
  have hg : VT.get (.mk k n s items keys) x = if k = 6 ∧ 0 ≤ Lib.idxOfS keys x then items[(Lib.idxOfS keys x).toNat]? else none := rfl
  have HG := Lib.hid hg
  obtain ⟨f1, f2, f3⟩ := Box.two w (.int .i64 k) (.int .i64 n) (.string s) (.slice A li ci) (.slice K lk ck) (.int .i64 0) (.int .i64 0) (.string ⟨#[]⟩) (.slice none 0 0) (.slice none 0 0)
  have F1 := Lib.hid f1
  have F2 := Lib.hid f2
  have F3 := Lib.hid f3
  clear f1 f2 f3
  clear hA hr hK hks hk hn hs hli hlk hg hbi hbk
  by_cases h6 : k = 6
  · subst h6
    have HG6 : Hid (VT.get (.mk 6 n s items keys) x = if 0 ≤ Lib.idxOfS keys x then items[(Lib.idxOfS keys x).toNat]? else none) := Lib.hid (by rw [HG.out]; simp)
    go_enter Try.func11, Try.ntmps11
    go_wp2_with fail
    go_loopw [6] (fun i wr => ∃ j : Nat, j ≤ lk ∧ i = .int .i64 j ∧ x ∉ keys.take j ∧ Below w.heap.size w wr ∧ w.heap.size + 2 ≤ wr.heap.size ∧ Box wr w.heap.size (.int .i64 6) (.int .i64 n) (.string s) (.slice A li ci) (.slice K lk ck) ∧ Box wr (w.heap.size + 1) (.int .i64 0) (.int .i64 0) (.string ⟨#[]⟩) (.slice none 0 0) (.slice none 0 0)) (fun i _ => lk - (intOf i).toNat)
    case atStart => exact ⟨0, Nat.zero_le _, rfl, by simp, F3.out, by simp, F1.out, F2.out⟩
    case round =>
      obtain ⟨j, hj, rfl, hno, hb, hz, hx1, hx2⟩ := hrel
      have HNO := Lib.hid hno
      have HB := Lib.hid hb
      have HX1 := Lib.hid hx1
      have HX2 := Lib.hid hx2
      obtain ⟨p0, p1, p2, p3, p4⟩ := hx1.cells
      clear hno hb hx1 hx2
      by_cases hlt : j < lk
      · obtain ⟨a, rfl, hc⟩ := HK.out (by omega)
        have hjl : j < keys.length := by have := HLK.out; omega
        have hcell := hc _ HB.out j _ (List.getElem?_eq_getElem hjl)
        have HAT : Hid (keys[j]? = some keys[j]) := Lib.hid (List.getElem?_eq_getElem hjl)
        have HTK : Hid (keys.take (j + 1) = keys.take j ++ [keys[j]]) := Lib.hid (List.take_succ_eq_append_getElem hjl)
        generalize keys[j] = y at *
        clear hc
        by_cases he : y = x
        · subst he
          have heq : (y.toList == y.toList) = true := by simp
          have HI : Hid (Lib.idxOfS keys y = (j : Int)) := Lib.hid (by unfold Lib.idxOfS; rw [idxF_at y keys 0 j HAT.out HNO.out]; simp)
          by_cases hji : j < li
          · obtain ⟨a2, t, k1, n1, s1, A1, li1, ci1, K1, lk1, ck1, rfl, ht, e, hrd, h0, h1, h2, h3, h4⟩ := round_at HA.out HR.out HL.out (HB.out.mono hB) hji
            have HT : Hid (VT.get (.mk 6 n s items keys) y = some t) := Lib.hid (by rw [HG6.out, HI.out]; simp [ht])
            have HRD2 := Lib.hid hrd
            have E := Lib.hid e
            clear e hrd ht
            go_wp2_with fail
            rw [← E.out]
            refine (rcopy_any t _ B _ HRD2.out (by have := HB.out.size; omega)).mono ?_
            rintro e w2 ⟨⟨u, rfl, hu⟩, hb2⟩
            obtain ⟨c0, c1, c2, c3, c4, rfl, o0, o1, o2, o3, o4⟩ := hu.five
            have HU := Lib.hid hu
            have HB2 := Lib.hid hb2
            have y2 := Box.kept HX2.out hb2
            have st0 := store_run (P := Try.prog) (y2.cells.1) (y2.frz 0) o0
            have y3 := y2.s0 c0
            have st1 := store_run (P := Try.prog) (y3.cells.2.1) (y3.frz 1) o1
            have y4 := y3.s1 c1
            have st2 := store_run (P := Try.prog) (y4.cells.2.2.1) (y4.frz 2) o2
            have y5 := y4.s2 c2
            have st3 := store_run (P := Try.prog) (y5.cells.2.2.2.1) (y5.frz 3) o3
            have y6 := y5.s3 c3
            have st4 := store_run (P := Try.prog) (y6.cells.2.2.2.2) (y6.frz 4) o4
            clear y3 y4 y5 y6 o0 o1 o2 o3 o4
            have ZZ := Lib.hid (Box.five y2 c0 c1 c2 c3 c4).cells
            have hle : w.heap.size ≤ w.heap.size + 1 := by omega
            have hsz := HB.out.size
            have BZ := Lib.hid ((((((HB.out.trans (hb2.mono hsz)).setCell (p := ⟨w.heap.size + 1, 0, none⟩) hle c0).setCell (p := ⟨w.heap.size + 1, 1, none⟩) hle c1).setCell (p := ⟨w.heap.size + 1, 2, none⟩) hle c2).setCell (p := ⟨w.heap.size + 1, 3, none⟩) hle c3).setCell (p := ⟨w.heap.size + 1, 4, none⟩) hle c4)
            have RZ : Hid (Rd (((((w2.setCell ⟨w.heap.size + 1, 0, none⟩ c0).setCell ⟨w.heap.size + 1, 1, none⟩ c1).setCell ⟨w.heap.size + 1, 2, none⟩ c2).setCell ⟨w.heap.size + 1, 3, none⟩ c3).setCell ⟨w.heap.size + 1, 4, none⟩ c4) (((((w2.setCell ⟨w.heap.size + 1, 0, none⟩ c0).setCell ⟨w.heap.size + 1, 1, none⟩ c1).setCell ⟨w.heap.size + 1, 2, none⟩ c2).setCell ⟨w.heap.size + 1, 3, none⟩ c3).setCell ⟨w.heap.size + 1, 4, none⟩ c4).heap.size (.agg #[c0, c1, c2, c3, c4]) t) := Lib.hid (by
              refine RdS.toRd (S := fun b => b < w2.heap.size) (hu.kept ?_ (fun b hb => hb.2)) (fun b hb => by simpa using hb)
              rintro b' ⟨r1, r2⟩
              have hne : b' ≠ w.heap.size + 1 := by omega
              rw [Below.heap_setCell _ _ _ _ hne, Below.heap_setCell _ _ _ _ hne, Below.heap_setCell _ _ _ _ hne, Below.heap_setCell _ _ _ _ hne, Below.heap_setCell _ _ _ _ hne])
            clear hu hb2 y2 heq hcell p0 p1 p2 p3 p4 h0 h1 h2 h3 h4 hle
            go_wp2_with fail
            obtain ⟨z0, z1, z2, z3, z4⟩ := ZZ.out
            exact bodyPost_ret (v := .tuple #[.agg #[c0, c1, c2, c3, c4], .bool true]) (by simp [results, Try.results11, go_sem, z0, z1, z2, z3, z4]) rfl ⟨⟨_, by rw [HT.out]; exact ⟨rfl, RZ.out⟩⟩, BZ.out⟩
          · have HT : Hid (VT.get (.mk 6 n s items keys) y = none) := Lib.hid (by rw [HG6.out, HI.out]; simp; have := HL.out; omega)
            have y2 := HX2.out
            obtain ⟨q0, q1, q2, q3, q4⟩ := y2.cells
            have g0 := y2.frz 0
            have g1 := y2.frz 1
            have g2 := y2.frz 2
            have g3 := y2.frz 3
            have g4 := y2.frz 4
            have ZZ := Lib.hid (Box.five y2 (.int .i64 0) (.int .i64 0) (.string ⟨#[]⟩) (.slice none 0 0) (.slice none 0 0)).cells
            have hle : w.heap.size ≤ w.heap.size + 1 := by omega
            have BZ := Lib.hid (((((HB.out.setCell (p := ⟨w.heap.size + 1, 0, none⟩) hle (.int .i64 0)).setCell (p := ⟨w.heap.size + 1, 1, none⟩) hle (.int .i64 0)).setCell (p := ⟨w.heap.size + 1, 2, none⟩) hle (.string ⟨#[]⟩)).setCell (p := ⟨w.heap.size + 1, 3, none⟩) hle (.slice none 0 0)).setCell (p := ⟨w.heap.size + 1, 4, none⟩) hle (.slice none 0 0))
            clear y2 hle
            go_wp2_with fail
            obtain ⟨z0, z1, z2, z3, z4⟩ := ZZ.out
            exact bodyPost_ret (v := .tuple #[zeroV, .bool false]) (by simp [results, Try.results11, go_sem, zeroV, z0, z1, z2, z3, z4]) rfl ⟨⟨undef, by rw [HT.out]⟩, BZ.out⟩
        · have hne : (y.toList == x.toList) = false := by
            rw [Lib.toList_data, Lib.toList_data, beq_eq_false_iff_ne]
            intro h
            exact he (by cases y; cases x; simp only [ByteArray.mk.injEq]; exact Array.toList_inj.1 h)
          have HNO2 : Hid (x ∉ keys.take (j + 1)) := Lib.hid (by
            rw [HTK.out, List.mem_append]
            rintro (h | h)
            · exact HNO.out h
            · exact he ((by simpa using h : x = y).symm))
          clear he
          go_wp2_with fail
          go_roundw
          case rel => exact ⟨j + 1, by omega, by go_num, HNO2.out, HB.out, hz, HX1.out, HX2.out⟩
          case measure => simp [intOf]; omega
      · have HT : Hid (VT.get (.mk 6 n s items keys) x = none) := Lib.hid (by
          have h := HNO.out
          rw [List.take_of_length_le (by have := HLK.out; omega)] at h
          rw [HG6.out, Lib.idxOfS, idxF_no x keys 0 h]; simp)
        have y2 := HX2.out
        obtain ⟨q0, q1, q2, q3, q4⟩ := y2.cells
        have g0 := y2.frz 0
        have g1 := y2.frz 1
        have g2 := y2.frz 2
        have g3 := y2.frz 3
        have g4 := y2.frz 4
        have ZZ := Lib.hid (Box.five y2 (.int .i64 0) (.int .i64 0) (.string ⟨#[]⟩) (.slice none 0 0) (.slice none 0 0)).cells
        have hle : w.heap.size ≤ w.heap.size + 1 := by omega
        have BZ := Lib.hid (((((HB.out.setCell (p := ⟨w.heap.size + 1, 0, none⟩) hle (.int .i64 0)).setCell (p := ⟨w.heap.size + 1, 1, none⟩) hle (.int .i64 0)).setCell (p := ⟨w.heap.size + 1, 2, none⟩) hle (.string ⟨#[]⟩)).setCell (p := ⟨w.heap.size + 1, 3, none⟩) hle (.slice none 0 0)).setCell (p := ⟨w.heap.size + 1, 4, none⟩) hle (.slice none 0 0))
        clear y2 hle
        go_wp2_with fail
        obtain ⟨z0, z1, z2, z3, z4⟩ := ZZ.out
        exact bodyPost_ret (v := .tuple #[zeroV, .bool false]) (by simp [results, Try.results11, go_sem, zeroV, z0, z1, z2, z3, z4]) rfl ⟨⟨undef, by rw [HT.out]⟩, BZ.out⟩
  · have hk6 : (k == 6) = false := beq_eq_false_iff_ne.2 h6
    have HN : Hid (VT.get (.mk k n s items keys) x = none) := Lib.hid (by rw [HG.out, if_neg (fun e => h6 e.1)])
    obtain ⟨q0, q1, q2, q3, q4⟩ := F2.out.cells
    go_enter Try.func11, Try.ntmps11
    go_wp2_with fail
    exact bodyPost_ret (v := .tuple #[zeroV, .bool false]) (by simp [results, Try.results11, go_sem, zeroV, q0, q1, q2, q3, q4]) rfl ⟨⟨undef, by rw [HN.out]⟩, F3.out⟩
end Go.Proofs.Ytgbckpihlklnlaa
