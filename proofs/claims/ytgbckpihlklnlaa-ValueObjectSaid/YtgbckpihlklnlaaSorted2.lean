
/-
  Sort of an object of two leaf items.
-/
import Derived.Test.YtgbckpihlklnlaaCopy2
namespace Go.Proofs.Ytgbckpihlklnlaa
open Go.RowKit
set_option maxHeartbeats 1000000 in
theorem sorted2 (w : World) (K0 I0 ck0 ci0 : Nat) (a b : ByteArray) (x y : Int) (h : St2 w K0 I0 a b x y) (hl : Op.bytesLess b.toList a.toList = true) :
    Calls Try.prog 13 #[.agg #[.int .i64 6, .int .i64 0, .string ⟨#[]⟩, .slice (some ⟨I0, 0, none⟩) 2 ci0, .slice (some ⟨K0, 0, none⟩) 2 ck0]] w
      fun e w' => ∃ kb ib ck ci, e = .returned (.agg #[.int .i64 6, .int .i64 0, .string ⟨#[]⟩, .slice (some ⟨ib, 0, none⟩) 2 ci, .slice (some ⟨kb, 0, none⟩) 2 ck]) ∧ St2 w' kb ib b a y x ∧ w.heap.size ≤ kb ∧ w.heap.size ≤ ib ∧ Below w.heap.size w w' := by
  have H := Lib.hid h
  have HLT := Lib.hid hl
  clear h hl
  obtain ⟨f1, f2, f3⟩ := Box.two w (.int .i64 6) (.int .i64 0) (.string ⟨#[]⟩) (.slice (some ⟨I0, 0, none⟩) 2 ci0) (.slice (some ⟨K0, 0, none⟩) 2 ck0) (.int .i64 0) (.int .i64 0) (.string ⟨#[]⟩) (.slice none 0 0) (.slice none 0 0)
  have HS := Lib.hid (copyObj2 _ K0 I0 ck0 ci0 a b x y (H.out.kept f3 H.out.lk H.out.li))
  have F2 := Lib.hid f2
  have F3 := Lib.hid f3
  clear f1 f2 f3
  go_enter Try.func13, Try.ntmps13
  go_wp2_with fail
  refine HS.out.mono ?_
  rintro e w1 ⟨kb, ib, ck, ci, rfl, hst, hk, hi, hb⟩
  simp only [World.size_alloc] at hk hi
  have hk' : w.heap.size ≤ kb := by omega
  have hi' : w.heap.size ≤ ib := by omega
  have hs1 := hb.size
  simp only [World.size_alloc] at hs1
  have b2 : Below w1.heap.size w1 (w1.alloc (.cells #[.int .i64 6, .int .i64 0, .string ⟨#[]⟩, .slice (some ⟨ib, 0, none⟩) 2 ci, .slice (some ⟨kb, 0, none⟩) 2 ck] 26 (0, 0))) := (Below.refl _ _).alloc (Nat.le_refl _) _
  have HS2 := Lib.hid (sortObj2 _ kb ib ck ci a b x y (hst.kept b2 hst.lk hst.li) HLT.out)
  have HX2 := Lib.hid ((F2.out.kept hb).kept (b2.mono (Nat.le_refl _)))
  have HX3 := Lib.hid (Box.new w1 (.int .i64 6) (.int .i64 0) (.string ⟨#[]⟩) (.slice (some ⟨ib, 0, none⟩) 2 ci) (.slice (some ⟨kb, 0, none⟩) 2 ck))
  have HB1 := Lib.hid (F3.out.trans (hb.mono F3.out.size))
  have HL := Lib.hid (And.intro hst.lk hst.li)
  have B2 := Lib.hid b2
  clear hb hst b2
  go_wp2_with fail
  refine HS2.out.mono ?_
  rintro e w2 ⟨rfl, hst2, hb2⟩
  obtain ⟨l1, l2⟩ := HL.out
  have HB2 := Lib.hid (HB1.out.trans ((B2.out.mono HB1.out.size).trans (hb2.below hk' hi' (by simp; omega))))
  have hx2 := HX2.out.two_ hb2 (by omega) (by omega)
  have hx3 := HX3.out.two_ hb2 (by omega) (by omega)
  have HST2 := Lib.hid hst2
  obtain ⟨p0, p1, p2, p3, p4⟩ := hx2.cells
  obtain ⟨q0, q1, q2, q3, q4⟩ := hx3.cells
  have g0 := hx2.frozen 0
  have g1 := hx2.frozen 1
  have g2 := hx2.frozen 2
  have g3 := hx2.frozen 3
  have g4 := hx2.frozen 4
  have n8 : w.heap.size ≤ w.heap.size + 1 := by omega
  have m1 : kb ≠ w.heap.size + 1 := by omega
  have m2 : ib ≠ w.heap.size + 1 := by omega
  have HB4 := Lib.hid (((((HB2.out.setCell (p := ⟨w.heap.size + 1, 0, none⟩) n8 (.int .i64 6)).setCell (p := ⟨w.heap.size + 1, 1, none⟩) n8 (.int .i64 0)).setCell (p := ⟨w.heap.size + 1, 2, none⟩) n8 (.string ⟨#[]⟩)).setCell (p := ⟨w.heap.size + 1, 3, none⟩) n8 (.slice (some ⟨ib, 0, none⟩) 2 ci)).setCell (p := ⟨w.heap.size + 1, 4, none⟩) n8 (.slice (some ⟨kb, 0, none⟩) 2 ck))
  have HST4 := Lib.hid (st2_far (p := ⟨w.heap.size + 1, 4, none⟩) (st2_far (p := ⟨w.heap.size + 1, 3, none⟩) (st2_far (p := ⟨w.heap.size + 1, 2, none⟩) (st2_far (p := ⟨w.heap.size + 1, 1, none⟩) (st2_far (p := ⟨w.heap.size + 1, 0, none⟩) HST2.out m1 m2 (.int .i64 6)) m1 m2 (.int .i64 0)) m1 m2 (.string ⟨#[]⟩)) m1 m2 (.slice (some ⟨ib, 0, none⟩) 2 ci)) m1 m2 (.slice (some ⟨kb, 0, none⟩) 2 ck))
  clear hst2 hb2 hx2 hx3
  go_wp2_with fail
  refine bodyPost_ret (v := .agg #[.int .i64 6, .int .i64 0, .string ⟨#[]⟩, .slice (some ⟨ib, 0, none⟩) 2 ci, .slice (some ⟨kb, 0, none⟩) 2 ck]) (by simp [results, Try.results13, go_sem, p0, p1, p2, p3, p4]) rfl ⟨kb, ib, ck, ci, rfl, HST4.out, hk', hi', HB4.out⟩
end Go.Proofs.Ytgbckpihlklnlaa
