
/-
  sort.Stable at an object of two leaf items.
-/
import Derived.Test.YtgbckpihlklnlaaSwap2
import Derived.Shelf.GgSortMore.Iface
namespace Go.Proofs.Ytgbckpihlklnlaa
open Go.RowKit Go.Sort
theorem reach_less (kb ib ck ci : Nat) : Reaches Try.prog 58 (byK kb ib ck ci) "Less" 80 := ⟨fun _ => by kernel_rfl, enters_of Try.func80 (by kernel_rfl) rfl⟩
theorem reach_swap (kb ib ck ci : Nat) : Reaches Try.prog 58 (byK kb ib ck ci) "Swap" 81 := ⟨fun _ => by kernel_rfl, enters_of Try.func81 (by kernel_rfl) rfl⟩
theorem reach_len (kb ib ck ci : Nat) : Reaches Try.prog 58 (byK kb ib ck ci) "Len" 79 := ⟨fun _ => by kernel_rfl, enters_of Try.func79 (by kernel_rfl) rfl⟩
set_option maxHeartbeats 1000000 in
theorem insertion2 (w : World) (kb ib ck ci : Nat) (a b : ByteArray) (x y : Int) (h : St2 w kb ib a b x y) (hl : Op.bytesLess b.toList a.toList = true) :
    Calls Try.prog 55 #[.iface 58 (byK kb ib ck ci), .int .i64 0, .int .i64 2] w fun e w' => e = .returned (.tuple #[]) ∧ St2 w' kb ib b a y x ∧ Two kb ib w w' := by
  have H := Lib.hid h
  have HLT := Lib.hid hl
  clear h hl
  have mL : ∀ w, Sem.run Try.prog (method 189 58 (byK kb ib ck ci) "Less") w = .ok (80, byK kb ib ck ci) w := (reach_less kb ib ck ci).finds
  have mS : ∀ w, Sem.run Try.prog (method 189 58 (byK kb ib ck ci) "Swap") w = .ok (81, byK kb ib ck ci) w := (reach_swap kb ib ck ci).finds
  have eL := (reach_less kb ib ck ci).enters
  have eS := (reach_swap kb ib ck ci).enters
  go_enter Try.func55, Try.ntmps55
  go_wp2_with fail
  go_loopw [6] (fun vi wr => (vi = .int .i64 1 ∧ wr = w) ∨ (vi = .int .i64 2 ∧ St2 wr kb ib b a y x ∧ Two kb ib w wr)) (fun vi _ => 2 - (intOf vi).toNat)
  case atStart => exact .inl ⟨rfl, rfl⟩
  case round =>
    rcases hrel with ⟨rfl, rfl⟩ | ⟨rfl, hst, hb⟩
    · go_wp2_with fail
      go_loopw [7] (fun vj wr2 => (vj = .int .i64 1 ∧ wr2 = wr) ∨ (vj = .int .i64 0 ∧ St2 wr2 kb ib b a y x ∧ Two kb ib wr wr2)) (fun vj _ => (intOf vj).toNat)
      case atStart => exact .inl ⟨rfl, rfl⟩
      case round =>
        rename_i wr2 _
        rcases hrel with ⟨rfl, rfl⟩ | ⟨rfl, hst, hb⟩
        · go_wp2_with fail
          refine (less2 _ _ _ _ _ a b x y H.out).mono ?_
          rintro e w1 ⟨rfl, hb1⟩
          rw [HLT.out]
          have HST := Lib.hid (H.out.kept hb1 H.out.lk H.out.li)
          have HB1 := Lib.hid (Two.of hb1 : Two kb ib _ w1)
          clear hb1
          go_wp2_with fail
          refine (swap2 _ _ _ _ _ _ _ _ _ HST.out).mono ?_
          rintro e w2 ⟨rfl, hst2, hb2⟩
          have HST2 := Lib.hid hst2
          have HB2 := Lib.hid (HB1.out.trans hb2)
          clear hst2 hb2
          go_wp2_with fail
          go_roundw
          case rel => exact .inr ⟨rfl, HST2.out, HB2.out⟩
          case measure => simp [intOf]
        · have HST2 := Lib.hid hst
          have HB2 := Lib.hid hb
          clear hst hb
          go_wp2_with fail
          go_roundw
          case rel => exact .inr ⟨rfl, HST2.out, HB2.out⟩
          case measure => simp [intOf]
    · have HST2 := Lib.hid hst
      have HB2 := Lib.hid hb
      clear hst hb
      go_wp2_with fail
      go_end0
      exact ⟨rfl, HST2.out, HB2.out⟩
set_option maxHeartbeats 1000000 in
theorem stable2i (w : World) (kb ib ck ci : Nat) (a b : ByteArray) (x y : Int) (h : St2 w kb ib a b x y) (hl : Op.bytesLess b.toList a.toList = true) :
    Calls Try.prog 49 #[.iface 58 (byK kb ib ck ci), .int .i64 2] w fun e w' => e = .returned (.tuple #[]) ∧ St2 w' kb ib b a y x ∧ Two kb ib w w' := by
  have HI := Lib.hid (insertion2 w kb ib ck ci a b x y h hl)
  clear h hl
  go_enter Try.func49, Try.ntmps49
  go_wp2_with fail
  go_loop [5, 6] (fun u v => u = .int .i64 0 ∧ v = .int .i64 20) (fun _ _ => 0)
  case atStart => exact ⟨rfl, rfl⟩
  case round =>
    obtain ⟨rfl, rfl⟩ := hrel
    go_wp2_with fail
    refine HI.out.mono ?_
    rintro e w1 ⟨rfl, hst, hb⟩
    have HST := Lib.hid hst
    have HB := Lib.hid hb
    clear hst hb
    go_wp2_with fail
    go_loop [4] (fun u => u = .int .i64 20) (fun _ => 0)
    case atStart => rfl
    case round =>
      obtain rfl := hrel
      go_wp2_with fail
      go_end0
      exact ⟨rfl, HST.out, HB.out⟩
theorem Stable2 (w : World) (kb ib ck ci : Nat) (a b : ByteArray) (x y : Int) (h : St2 w kb ib a b x y) (hl : Op.bytesLess b.toList a.toList = true) :
    Calls Try.prog 43 #[.iface 58 (byK kb ib ck ci)] w fun e w' => e = .returned (.tuple #[]) ∧ St2 w' kb ib b a y x ∧ Two kb ib w w' := by
  have H := Lib.hid h
  have HLT := Lib.hid hl
  clear h hl
  have mN : ∀ w, Sem.run Try.prog (method 189 58 (byK kb ib ck ci) "Len") w = .ok (79, byK kb ib ck ci) w := (reach_len kb ib ck ci).finds
  have eN := (reach_len kb ib ck ci).enters
  go_enter Try.func43, Try.ntmps43
  go_wp2_with fail
  refine (len2 _ _ _ _ _).mono ?_
  rintro e w1 ⟨rfl, hb1⟩
  have HST := Lib.hid (H.out.kept hb1 H.out.lk H.out.li)
  have HB1 := Lib.hid (Two.of hb1 : Two kb ib _ w1)
  clear hb1 mN eN
  go_wp2_with fail
  refine (stable2i _ _ _ _ _ _ _ _ _ HST.out HLT.out).mono ?_
  rintro e w2 ⟨rfl, hst2, hb2⟩
  have HST2 := Lib.hid hst2
  have HB2 := Lib.hid (HB1.out.trans hb2)
  clear hst2 hb2
  go_wp2_with fail
  go_end0
  exact ⟨rfl, HST2.out, HB2.out⟩
/- A leaf is left as it is. -/
theorem sortLeaf (k n : Int) (s : ByteArray) (hk : k ≠ 6) (w : World) : Calls Try.prog 33 #[.agg #[.int .i64 k, .int .i64 n, .string s, .slice none 0 0, .slice none 0 0]] w fun e w' => e = .returned (.tuple #[]) ∧ Below w.heap.size w w' := by
  have hk' : (k == 6) = false := beq_eq_false_iff_ne.2 hk
  clear hk
  go_enter Try.func33, Try.ntmps33
  go_wp2_with fail
  go_loop [7] (fun u => u = .int .i64 0) (fun _ => 0)
  case atStart => rfl
  case round =>
    obtain rfl := hrel
    go_wp2_with fail
    go_end0
    exact ⟨rfl, (Below.refl _ _).alloc (Nat.le_refl _) _⟩
set_option maxHeartbeats 1000000 in
theorem sortObj2 (w : World) (kb ib ck ci : Nat) (a b : ByteArray) (x y : Int) (h : St2 w kb ib a b x y) (hl : Op.bytesLess b.toList a.toList = true) :
    Calls Try.prog 33 #[.agg #[.int .i64 6, .int .i64 0, .string ⟨#[]⟩, .slice (some ⟨ib, 0, none⟩) 2 ci, .slice (some ⟨kb, 0, none⟩) 2 ck]] w fun e w' => e = .returned (.tuple #[]) ∧ St2 w' kb ib b a y x ∧ Two kb ib w w' := by
  have H := Lib.hid h
  have HLT := Lib.hid hl
  clear h hl
  go_enter Try.func33, Try.ntmps33
  go_wp2_with fail
  go_loopw [7] (fun u wr => ∃ j : Nat, j ≤ 2 ∧ u = .int .i64 j ∧ Below w.heap.size w wr ∧ Box wr w.heap.size (.int .i64 6) (.int .i64 0) (.string ⟨#[]⟩) (.slice (some ⟨ib, 0, none⟩) 2 ci) (.slice (some ⟨kb, 0, none⟩) 2 ck)) (fun u _ => 2 - (intOf u).toNat)
  case atStart => exact ⟨0, by omega, rfl, (Below.refl _ _).alloc (Nat.le_refl _) _, Box.new _ _ _ _ _ _⟩
  case round =>
    obtain ⟨j, hj, rfl, hb, hx⟩ := hrel
    have hst := H.out.kept hb H.out.lk H.out.li
    have HST := Lib.hid hst
    have HB := Lib.hid hb
    have HX := Lib.hid hx
    have hl1 := hx.lt
    obtain ⟨l1, l2, ne, k0, k1, fk0, fk1, c0, c1, c2, c3, c4, c5, c6, c7, c8, c9, f⟩ := hst
    obtain ⟨p0, p1, p2, p3, p4⟩ := hx.cells
    clear hb hx f
    have hj3 : j = 0 ∨ j = 1 ∨ j = 2 := by omega
    rcases hj3 with rfl | rfl | rfl
    · go_wp2_with fail
      refine (sortLeaf 2 x ⟨#[]⟩ (by omega) _).mono ?_
      rintro e w1 ⟨rfl, hb1⟩
      have hs1 := hb1.size
      simp only [World.size_alloc] at hs1
      have b2 : Below wr.heap.size wr w1 := ((Below.refl _ _).alloc (Nat.le_refl _) _).trans (hb1.mono (by simp))
      have HB2 := Lib.hid (HB.out.trans (b2.mono HB.out.size))
      have HX2 := Lib.hid (HX.out.kept b2)
      clear hb1 b2
      go_wp2_with fail
      go_roundw
      case rel => exact ⟨1, by omega, rfl, HB2.out, HX2.out⟩
      case measure => simp [intOf]
    · go_wp2_with fail
      refine (sortLeaf 2 y ⟨#[]⟩ (by omega) _).mono ?_
      rintro e w1 ⟨rfl, hb1⟩
      have hs1 := hb1.size
      simp only [World.size_alloc] at hs1
      have b2 : Below wr.heap.size wr w1 := ((Below.refl _ _).alloc (Nat.le_refl _) _).trans (hb1.mono (by simp))
      have HB2 := Lib.hid (HB.out.trans (b2.mono HB.out.size))
      have HX2 := Lib.hid (HX.out.kept b2)
      clear hb1 b2
      go_wp2_with fail
      go_roundw
      case rel => exact ⟨2, by omega, rfl, HB2.out, HX2.out⟩
      case measure => simp [intOf]
    · have HS : Hid (Calls Try.prog 43 #[.iface 58 (.agg #[.int .i64 6, .int .i64 0, .string ⟨#[]⟩, .slice (some ⟨ib, 0, none⟩) 2 ci, .slice (some ⟨kb, 0, none⟩) 2 ck])] wr fun e w' => e = .returned (.tuple #[]) ∧ St2 w' kb ib b a y x ∧ Two kb ib wr w') := Lib.hid (Stable2 wr kb ib ck ci a b x y HST.out HLT.out)
      clear k0 k1 fk0 fk1 c0 c1 c2 c3 c4 c5 c6 c7 c8 c9
      go_wp2_with fail
      refine HS.out.mono ?_
      rintro e w2 ⟨rfl, hst2, hb2⟩
      have HST2 := Lib.hid hst2
      have HB2 := Lib.hid ((Two.of HB.out : Two kb ib w wr).trans hb2)
      clear hst2 hb2
      go_wp2_with fail
      go_end0
      exact ⟨rfl, HST2.out, HB2.out⟩
end Go.Proofs.Ytgbckpihlklnlaa
