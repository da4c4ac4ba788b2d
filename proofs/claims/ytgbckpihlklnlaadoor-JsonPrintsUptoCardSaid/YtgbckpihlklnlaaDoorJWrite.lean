
/-
  The reference's write.
-/
import Derived.Test.YtgbckpihlklnlaaDoorJPrintable
import Derived.Test.YtgbckpihlklnlaaDoorRefNumber
namespace Go.Proofs.YtgbckpihlklnlaaDoor
open Go.RowKit
theorem txtL_len : ∀ (items : List VT), (∀ (i : Nat) (t : VT), items[i]? = some t → ∀ a, t.txt = some a → a.length + 1 ≤ 30 * t.bw) → ∀ (b : Bool) (a : List UInt8), VT.txtL items b = some a → a.length ≤ 30 * VT.bws items
  | [], _, b, a, h => by simp [VT.txtL] at h; subst h; simp
  | t :: r, ih, b, a, h => by
    rw [VT.txtL] at h
    cases hx : t.txt with
    | none => rw [hx] at h; cases h
    | some z =>
      rw [hx] at h
      obtain ⟨y, hy, rfl⟩ := Option.map_eq_some_iff.1 h
      have h1 := ih 0 t rfl z hx
      have h2 := txtL_len r (fun i t hi => ih (i + 1) t hi) false y hy
      rw [VT.bws]
      cases b <;> simp <;> omega
theorem txtO_len : ∀ (items : List VT) (keys : List ByteArray), keys.length = items.length → (∀ (i : Nat) (t : VT), items[i]? = some t → ∀ a, t.txt = some a → a.length + 1 ≤ 30 * t.bw) → ∀ (b : Bool) (a : List UInt8), VT.txtO items keys b = some a → a.length ≤ 30 * ksum keys + 30 * VT.bws items
  | [], keys, _, _, b, a, h => by simp [VT.txtO] at h; subst h; simp
  | t :: r, [], hl, _, _, _, _ => by simp at hl
  | t :: r, x :: ks, hl, ih, b, a, h => by
    rw [VT.txtO] at h
    cases hx : t.txt with
    | none => rw [hx] at h; cases h
    | some z =>
      rw [hx] at h
      obtain ⟨y, hy, rfl⟩ := Option.map_eq_some_iff.1 h
      have h1 := ih 0 t rfl z hx
      have h2 := txtO_len r ks (by simpa using hl) (fun i t hi => ih (i + 1) t hi) false y hy
      have h3 := qL_len x
      have h4 : ksum (x :: ks) = 1 + x.size + ksum ks := by simp [ksum]
      rw [VT.bws, h4]
      cases b <;> simp <;> omega
theorem txt_len (t : VT) : ∀ (w : World) (B : Nat) (v : Value), Rd w B v t → ∀ a, t.txt = some a → a.length + 1 ≤ 30 * t.bw := by
  induction t using VT.ind with
  | h k n s items keys ih =>
  intro w B v h a ha
  cases h with
  | @mk _ _ _ A li ci K lk ck _ _ V hk hn hs hks hli hlk hbi hbk hA hr hK =>
  rw [bw_eq]
  rw [VT.txt] at ha
  have ihh : ∀ (i : Nat) (t : VT), items[i]? = some t → ∀ a, t.txt = some a → a.length + 1 ≤ 30 * t.bw := fun i t hi a h => ih i t hi w B _ (hr i t hi) a h
  split at ha
  · cases ha; show 4 + 1 ≤ _; omega
  · split at ha
    · cases ha
      split
      · show 5 + 1 ≤ _; omega
      · show 4 + 1 ≤ _; omega
    · split at ha
      · cases ha
        have := Lib.itoa_length_le n hn.1 hn.2
        omega
      · split at ha
        · cases ha
          have := qL_len s
          omega
        · split at ha
          · obtain ⟨y, hy, rfl⟩ := Option.map_eq_some_iff.1 ha
            have := txtL_len items ihh true y hy
            simp; omega
          · split at ha
            · split at ha
              · next hle =>
                obtain ⟨y, hy, rfl⟩ := Option.map_eq_some_iff.1 ha
                have := txtO_len items keys hle ihh true y hy
                simp; omega
              · cases ha
            · cases ha
def WrAt (t : VT) : Prop := ∀ (a : List UInt8), t.txt = some a → ∀ (w : World) (B : Nat) (v : Value), Rd w B v t → B ≤ w.heap.size → t.bw ≤ 4294967296 → Calls Tryd.prog 19 #[v] w (T1.StrB w a)
set_option maxRecDepth 100000 in
set_option maxHeartbeats 8000000 in
theorem write_any (t : VT) : WrAt t := by
  induction t using VT.ind with
  | h k n s items keys ih =>
  intro a ha w B v h hB hbw
  have hal := txt_len _ w B v h a ha
  cases h with
  | @mk _ _ _ A li ci K lk ck _ _ V hk hn hs hks hli hlk hbi hbk hA hr hK =>
  rw [bw_eq] at hbw hal
  have bz : Below w.heap.size w (w.alloc (.cells #[.int .i64 k, .int .i64 n, .string s, .slice A li ci, .slice K lk ck] 25 (0, 0))) := (Below.refl _ _).alloc (Nat.le_refl _) _
  have HB1 := Lib.hid bz
  have Y1 := Lib.hid (Box.new w (.int .i64 k) (.int .i64 n) (.string s) (.slice A li ci) (.slice K lk ck))
  have HA := Lib.hid hA
  have HR := Lib.hid hr
  have HK := Lib.hid hK
  have HLI := Lib.hid hli
  have HLK := Lib.hid hlk
  have IH := Lib.hid ih
  have hlm : (li : Int) ≤ 140737488351232 := by omega
  have hlm' : (lk : Int) ≤ 140737488351232 := by omega
  rw [VT.txt] at ha
  have HTX := Lib.hid ha
  clear bz hA hr hK hli hlk ih hbi hbk ha hks
  by_cases hk0 : k = 0
  · subst hk0
    have hav : a = nullB := by have h := HTX.out; simpa using h.symm
    subst hav
    clear HTX
    obtain ⟨x0, x1, x2, x3, x4⟩ := Y1.out.cells
    go_enter Tryd.func19, Tryd.ntmps19
    go_wp2_with fail
    go_ret
    exact ⟨rfl, HB1.out⟩
  by_cases hk1 : k = 1
  · subst hk1
    by_cases hn0 : n = 0
    · subst hn0
      have hav : a = falseB := by have h := HTX.out; simpa using h.symm
      subst hav
      clear HTX
      obtain ⟨x0, x1, x2, x3, x4⟩ := Y1.out.cells
      go_enter Tryd.func19, Tryd.ntmps19
      go_wp2_with fail
      go_ret
      exact ⟨rfl, HB1.out⟩
    · have hn0' : (n == 0) = false := by simp [hn0]
      have hav : a = trueB := by have h := HTX.out; simpa [hn0] using h.symm
      subst hav
      clear HTX hn0
      obtain ⟨x0, x1, x2, x3, x4⟩ := Y1.out.cells
      go_enter Tryd.func19, Tryd.ntmps19
      go_wp2_with fail
      go_ret
      exact ⟨rfl, HB1.out⟩
  by_cases hk2 : k = 2
  · subst hk2
    have hav : a = Lib.itoa n := by have h := HTX.out; simpa using h.symm
    subst hav
    clear HTX
    obtain ⟨x0, x1, x2, x3, x4⟩ := Y1.out.cells
    go_enter Tryd.func19, Tryd.ntmps19
    go_wp2_with fail
    refine (T1.rdecimal_any n _ hn.1 hn.2).mono ?_
    rintro e w6 ⟨rfl, hb6⟩
    have HB6 := Lib.hid (HB1.out.trans (hb6.mono HB1.out.size))
    clear hb6
    go_wp2_with fail
    go_ret
    exact ⟨rfl, HB6.out⟩
  by_cases hk3 : k = 3
  · subst hk3
    have hav : a = qL s := by have h := HTX.out; simpa using h.symm
    subst hav
    clear HTX
    obtain ⟨x0, x1, x2, x3, x4⟩ := Y1.out.cells
    go_enter Tryd.func19, Tryd.ntmps19
    go_wp2_with fail
    refine (T1.rquote_any s _ (by omega)).mono ?_
    rintro e w6 ⟨rfl, hb6⟩
    have HB6 := Lib.hid (HB1.out.trans (hb6.mono HB1.out.size))
    clear hb6
    go_wp2_with fail
    go_ret
    exact ⟨rfl, HB6.out⟩
  by_cases hk4 : k = 4
  · subst hk4
    have hav : a = qL s := by have h := HTX.out; simpa using h.symm
    subst hav
    clear HTX
    obtain ⟨x0, x1, x2, x3, x4⟩ := Y1.out.cells
    go_enter Tryd.func19, Tryd.ntmps19
    go_wp2_with fail
    refine (T1.rquote_any s _ (by omega)).mono ?_
    rintro e w6 ⟨rfl, hb6⟩
    have HB6 := Lib.hid (HB1.out.trans (hb6.mono HB1.out.size))
    clear hb6
    go_wp2_with fail
    go_ret
    exact ⟨rfl, HB6.out⟩
  by_cases hk5 : k = 5
  · subst hk5
    obtain ⟨l, hl, rfl⟩ : ∃ l, VT.txtL items true = some l ∧ a = 91 :: l ++ [93] := by
      have h := HTX.out
      simp at h
      obtain ⟨l, h1, h2⟩ := h
      exact ⟨l, h1, by simp [← h2]⟩
    have HL := Lib.hid hl
    simp at hal
    clear hl HTX
    obtain ⟨x0, x1, x2, x3, x4⟩ := Y1.out.cells
    go_enter Tryd.func19, Tryd.ntmps19
    go_wp2_with fail
    clear x0 x1 x2 x3 x4
    go_loopw [5, 6] (fun v i wr => ∃ (j : Nat) (acc rest : List UInt8), j ≤ li ∧ i = .int .i64 j ∧ v = .string ⟨(91 :: acc).toArray⟩ ∧ VT.txtL (items.drop j) (j == 0) = some rest ∧ l = acc ++ rest ∧ Below w.heap.size w wr ∧ Box wr w.heap.size (.int .i64 5) (.int .i64 n) (.string s) (.slice A li ci) (.slice K lk ck)) (fun _ i _ => li - (intOf i).toNat)
    case atStart => exact ⟨0, [], l, Nat.zero_le _, rfl, rfl, by simpa using HL.out, rfl, HB1.out, Y1.out⟩
    case round =>
      obtain ⟨j, acc, rest, hj, rfl, rfl, hrest, hla, hb, hy⟩ := hrel
      have HB := Lib.hid hb
      have HY := Lib.hid hy
      have HREST := Lib.hid hrest
      have HLA0 := Lib.hid hla
      have hlal : l.length = acc.length + rest.length := by rw [hla]; simp
      obtain ⟨x0, x1, x2, x3, x4⟩ := hy.cells
      clear hb hy HB1 Y1 hrest hla
      by_cases hlt : j < li
      · have hlt' : (j : Int) < li := by omega
        obtain ⟨a5, t, k1, n1, s1, A1, li1, ci1, K1, lk1, ck1, rfl, ht, e, hrd, h0, h1, h2, h3, h4⟩ := round_at HA.out HR.out HLI.out (HB.out.mono hB) hlt
        have hst := HREST.out
        rw [txtL_step ht] at hst
        obtain ⟨z, hz, r', hr', hre⟩ : ∃ z, t.txt = some z ∧ ∃ r', VT.txtL (items.drop (j + 1)) false = some r' ∧ rest = ((if (j == 0) = true then [] else [44]) ++ z) ++ r' := by
          cases hz : t.txt with
          | none => rw [hz] at hst; cases hst
          | some z =>
            rw [hz] at hst
            obtain ⟨r', h5, h6⟩ := Option.map_eq_some_iff.1 hst
            exact ⟨z, rfl, r', h5, h6.symm⟩
        have hzl : z.length ≤ rest.length := by rw [hre]; simp <;> omega
        have HT := Lib.hid ht
        have HZ := Lib.hid hz
        have HR2 := Lib.hid hr'
        have hwt := bws_take ht
        have hwl := bws_le items (j + 1)
        have HRD : Hid (Rd w B (.agg #[.int .i64 k1, .int .i64 n1, .string s1, .slice A1 li1 ci1, .slice K1 lk1 ck1]) t) := Lib.hid (by rw [← e]; exact HR.out j t ht)
        have HLA : Hid (l = acc ++ (((if (j == 0) = true then [] else [44]) ++ z) ++ r')) := Lib.hid (by rw [HLA0.out, hre])
        clear ht e hrd hst hz hr' hre
        by_cases hj0 : j = 0
        · have hj0' : ¬ (j : Int) > 0 := by omega
          have HJ0 := Lib.hid hj0
          clear hj0
          have hadd4 : ∀ w, (Op.stringOp .add ⟨(91 :: acc).toArray⟩ ⟨(z).toArray⟩).run Tryd.prog w = .ok (.string ⟨(91 :: (acc ++ z)).toArray⟩) w := fun w => by have h := T1.add_L w (91 :: acc) (z) (by simp <;> omega); simpa using h
          go_wp2_with fail
          refine (IH.out j t HT.out z HZ.out _ B (.agg #[.int .i64 k1, .int .i64 n1, .string s1, .slice A1 li1 ci1, .slice K1 lk1 ck1]) (HRD.out.kept (HB.out.mono hB)) (Nat.le_trans hB HB.out.size) (by omega)).mono ?_
          rintro e w5 ⟨rfl, hb5⟩
          have HB5 := Lib.hid (HB.out.trans (hb5.mono HB.out.size))
          have HY5 := Lib.hid (HY.out.kept hb5)
          clear hb5
          go_wp2_with fail
          go_roundw
          case rel => exact ⟨j + 1, acc ++ z, r', by omega, by go_num, by simp, by simpa using HR2.out, by rw [HLA.out]; simp [HJ0.out], HB5.out, HY5.out⟩
          case measure => simp [intOf]; omega
        · have hj0' : (j : Int) > 0 := by omega
          have HJ0 := Lib.hid hj0
          clear hj0
          have hadd1 : ∀ w, (Op.stringOp .add ⟨(91 :: acc).toArray⟩ ⟨([44]).toArray⟩).run Tryd.prog w = .ok (.string ⟨(91 :: (acc ++ [44])).toArray⟩) w := fun w => by have h := T1.add_L w (91 :: acc) ([44]) (by simp <;> omega); simpa using h
          have hadd4 : ∀ w, (Op.stringOp .add ⟨(91 :: (acc ++ [44])).toArray⟩ ⟨(z).toArray⟩).run Tryd.prog w = .ok (.string ⟨(91 :: (acc ++ 44 :: z)).toArray⟩) w := fun w => by have h := T1.add_L w (91 :: (acc ++ [44])) (z) (by simp <;> omega); simpa using h
          go_wp2_with fail
          refine (IH.out j t HT.out z HZ.out _ B (.agg #[.int .i64 k1, .int .i64 n1, .string s1, .slice A1 li1 ci1, .slice K1 lk1 ck1]) (HRD.out.kept (HB.out.mono hB)) (Nat.le_trans hB HB.out.size) (by omega)).mono ?_
          rintro e w5 ⟨rfl, hb5⟩
          have HB5 := Lib.hid (HB.out.trans (hb5.mono HB.out.size))
          have HY5 := Lib.hid (HY.out.kept hb5)
          clear hb5
          go_wp2_with fail
          go_roundw
          case rel => exact ⟨j + 1, acc ++ [44] ++ z, r', by omega, by go_num, by simp, by simpa using HR2.out, by rw [HLA.out]; simp [HJ0.out], HB5.out, HY5.out⟩
          case measure => simp [intOf]; omega
      · have hji : j = li := by omega
        have hre : rest = [] := by
          have h := HREST.out
          rw [List.drop_eq_nil_of_le (by have := HLI.out; omega)] at h
          simpa [VT.txtL] using h.symm
        have hl2 : l = acc := by rw [HLA0.out, hre]; simp
        have HL2 := Lib.hid hl2
        have hadd := fun w => T1.add_L w (91 :: acc) [93] (by simp; omega)
        have hlt' : ¬ (j : Int) < li := by omega
        clear hji hre hl2
        go_wp2_with fail
        go_ret
        exact ⟨by rw [HL2.out]; rfl, HB.out⟩
  by_cases hk6 : k = 6
  · subst hk6
    have hle : keys.length = items.length := by
      have h := HTX.out
      by_cases hle : keys.length = items.length
      · exact hle
      · simp [hle] at h
    have hll : lk = li := by rw [← HLK.out, ← HLI.out, hle]
    have HLL := Lib.hid hll
    clear hll
    obtain ⟨l, hl, rfl⟩ : ∃ l, VT.txtO items keys true = some l ∧ a = 123 :: l ++ [125] := by
      have h := HTX.out
      simp [hle] at h
      obtain ⟨l, h1, h2⟩ := h
      exact ⟨l, h1, by simp [← h2]⟩
    have HL := Lib.hid hl
    simp at hal
    clear hl HTX hle
    obtain ⟨x0, x1, x2, x3, x4⟩ := Y1.out.cells
    go_enter Tryd.func19, Tryd.ntmps19
    go_wp2_with fail
    clear x0 x1 x2 x3 x4
    go_loopw [5, 6] (fun v i wr => ∃ (j : Nat) (acc rest : List UInt8), j ≤ li ∧ i = .int .i64 j ∧ v = .string ⟨(123 :: acc).toArray⟩ ∧ VT.txtO (items.drop j) (keys.drop j) (j == 0) = some rest ∧ l = acc ++ rest ∧ Below w.heap.size w wr ∧ Box wr w.heap.size (.int .i64 6) (.int .i64 n) (.string s) (.slice A li ci) (.slice K lk ck)) (fun _ i _ => li - (intOf i).toNat)
    case atStart => exact ⟨0, [], l, Nat.zero_le _, rfl, rfl, by simpa using HL.out, rfl, HB1.out, Y1.out⟩
    case round =>
      obtain ⟨j, acc, rest, hj, rfl, rfl, hrest, hla, hb, hy⟩ := hrel
      have HB := Lib.hid hb
      have HY := Lib.hid hy
      have HREST := Lib.hid hrest
      have HLA0 := Lib.hid hla
      have hlal : l.length = acc.length + rest.length := by rw [hla]; simp
      obtain ⟨x0, x1, x2, x3, x4⟩ := hy.cells
      clear hb hy HB1 Y1 hrest hla
      by_cases hlt : j < li
      · have hlt' : (j : Int) < li := by omega
        obtain ⟨a5, t, k1, n1, s1, A1, li1, ci1, K1, lk1, ck1, rfl, ht, e, hrd, h0, h1, h2, h3, h4⟩ := round_at HA.out HR.out HLI.out (HB.out.mono hB) hlt
        obtain ⟨ka, hka, hkab, hkc0⟩ := HK.out (by have := HLK.out; have := HLL.out; omega)
        obtain ⟨x, hx⟩ : ∃ x, keys[j]? = some x := ⟨_, List.getElem?_eq_getElem (by have := HLK.out; have := HLL.out; omega)⟩
        have hkc : wr.cell? (ka.add j) = some (.string x) := by rw [HB.out.cell (by rw [add_block]; omega)]; exact hkc0 j x hx
        have hkt := ksum_take hx
        have hkl := ksum_le keys (j + 1)
        have hjk : (j : Int) < lk := by have := HLL.out; omega
        obtain ⟨_, ea, hab0, hcc⟩ := HA.out (by omega)
        have hab : (a5.add (j * 5)).block < w.heap.size := by cases ea; rw [add_block]; omega
        have hw0 := (HB.out.cell (p := a5.add (j * 5)) hab).symm.trans h0
        have hw1 := (HB.out.cell (p := ⟨(a5.add (j * 5)).block, (a5.add (j * 5)).off + 1, none⟩) hab).symm.trans h1
        have hw2 := (HB.out.cell (p := ⟨(a5.add (j * 5)).block, (a5.add (j * 5)).off + 2, none⟩) hab).symm.trans h2
        have hw3 := (HB.out.cell (p := ⟨(a5.add (j * 5)).block, (a5.add (j * 5)).off + 3, none⟩) hab).symm.trans h3
        have hw4 := (HB.out.cell (p := ⟨(a5.add (j * 5)).block, (a5.add (j * 5)).off + 4, none⟩) hab).symm.trans h4
        subst hka
        have hst := HREST.out
        rw [txtO_step ht hx] at hst
        obtain ⟨z, hz, r', hr', hre⟩ : ∃ z, t.txt = some z ∧ ∃ r', VT.txtO (items.drop (j + 1)) (keys.drop (j + 1)) false = some r' ∧ rest = ((if (j == 0) = true then [] else [44]) ++ qL x ++ [58] ++ z) ++ r' := by
          cases hz : t.txt with
          | none => rw [hz] at hst; cases hst
          | some z =>
            rw [hz] at hst
            obtain ⟨r', h5, h6⟩ := Option.map_eq_some_iff.1 hst
            exact ⟨z, rfl, r', h5, h6.symm⟩
        have hzl : z.length ≤ rest.length := by rw [hre]; simp <;> omega
        have HT := Lib.hid ht
        have HZ := Lib.hid hz
        have HR2 := Lib.hid hr'
        have hwt := bws_take ht
        have hwl := bws_le items (j + 1)
        have HRD : Hid (Rd w B (.agg #[.int .i64 k1, .int .i64 n1, .string s1, .slice A1 li1 ci1, .slice K1 lk1 ck1]) t) := Lib.hid (by rw [← e]; exact HR.out j t ht)
        have HLA : Hid (l = acc ++ (((if (j == 0) = true then [] else [44]) ++ qL x ++ [58] ++ z) ++ r')) := Lib.hid (by rw [HLA0.out, hre])
        clear ht e hrd hst hz hr' hre hx hkc0 ea hcc
        by_cases hj0 : j = 0
        · have hj0' : ¬ (j : Int) > 0 := by omega
          have HJ0 := Lib.hid hj0
          clear hj0
          have h5len : (T1.quoteL x.data.toList).length = (qL x).length := rfl
          have hq3 := qL_len x
          have hadd2 : ∀ w, (Op.stringOp .add ⟨(123 :: acc).toArray⟩ ⟨(T1.quoteL x.data.toList).toArray⟩).run Tryd.prog w = .ok (.string ⟨(123 :: (acc ++ T1.quoteL x.data.toList)).toArray⟩) w := fun w => by have h := T1.add_L w (123 :: acc) (T1.quoteL x.data.toList) (by simp [h5len] <;> omega); simpa using h
          have hadd3 : ∀ w, (Op.stringOp .add ⟨(123 :: (acc ++ T1.quoteL x.data.toList)).toArray⟩ ⟨([58]).toArray⟩).run Tryd.prog w = .ok (.string ⟨(123 :: (acc ++ (T1.quoteL x.data.toList ++ [58]))).toArray⟩) w := fun w => by have h := T1.add_L w (123 :: (acc ++ T1.quoteL x.data.toList)) ([58]) (by simp [h5len] <;> omega); simpa using h
          have hadd4 : ∀ w, (Op.stringOp .add ⟨(123 :: (acc ++ (T1.quoteL x.data.toList ++ [58]))).toArray⟩ ⟨(z).toArray⟩).run Tryd.prog w = .ok (.string ⟨(123 :: (acc ++ (T1.quoteL x.data.toList ++ 58 :: z))).toArray⟩) w := fun w => by have h := T1.add_L w (123 :: (acc ++ (T1.quoteL x.data.toList ++ [58]))) (z) (by simp [h5len] <;> omega); simpa using h
          clear h5len
          go_wp2_with fail
          refine (T1.rquote_any x _ (by omega)).mono ?_
          rintro e w6 ⟨rfl, hb6⟩
          have HB6 := Lib.hid (HB.out.trans (hb6.mono HB.out.size))
          have HY6 := Lib.hid (HY.out.kept hb6)
          obtain ⟨u0, u1, u2, u3, u4⟩ := HY6.out.cells
          have r0 := (HB6.out.cell (p := a5.add (j * 5)) hab).trans hw0
          have r1 := (HB6.out.cell (p := ⟨(a5.add (j * 5)).block, (a5.add (j * 5)).off + 1, none⟩) hab).trans hw1
          have r2 := (HB6.out.cell (p := ⟨(a5.add (j * 5)).block, (a5.add (j * 5)).off + 2, none⟩) hab).trans hw2
          have r3 := (HB6.out.cell (p := ⟨(a5.add (j * 5)).block, (a5.add (j * 5)).off + 3, none⟩) hab).trans hw3
          have r4 := (HB6.out.cell (p := ⟨(a5.add (j * 5)).block, (a5.add (j * 5)).off + 4, none⟩) hab).trans hw4
          clear hb6
          go_wp2_with fail
          refine (IH.out j t HT.out z HZ.out _ B (.agg #[.int .i64 k1, .int .i64 n1, .string s1, .slice A1 li1 ci1, .slice K1 lk1 ck1]) (HRD.out.kept (HB6.out.mono hB)) (Nat.le_trans hB HB6.out.size) (by omega)).mono ?_
          rintro e w5 ⟨rfl, hb5⟩
          have HB5 := Lib.hid (HB6.out.trans (hb5.mono HB6.out.size))
          have HY5 := Lib.hid (HY6.out.kept hb5)
          clear hb5
          go_wp2_with fail
          go_roundw
          case rel => exact ⟨j + 1, acc ++ qL x ++ [58] ++ z, r', by omega, by go_num, by simp [qL], by simpa using HR2.out, by rw [HLA.out]; simp [HJ0.out], HB5.out, HY5.out⟩
          case measure => simp [intOf]; omega
        · have hj0' : (j : Int) > 0 := by omega
          have HJ0 := Lib.hid hj0
          clear hj0
          have h5len : (T1.quoteL x.data.toList).length = (qL x).length := rfl
          have hq3 := qL_len x
          have hadd1 : ∀ w, (Op.stringOp .add ⟨(123 :: acc).toArray⟩ ⟨([44]).toArray⟩).run Tryd.prog w = .ok (.string ⟨(123 :: (acc ++ [44])).toArray⟩) w := fun w => by have h := T1.add_L w (123 :: acc) ([44]) (by simp <;> omega); simpa using h
          have hadd2 : ∀ w, (Op.stringOp .add ⟨(123 :: (acc ++ [44])).toArray⟩ ⟨(T1.quoteL x.data.toList).toArray⟩).run Tryd.prog w = .ok (.string ⟨(123 :: (acc ++ 44 :: T1.quoteL x.data.toList)).toArray⟩) w := fun w => by have h := T1.add_L w (123 :: (acc ++ [44])) (T1.quoteL x.data.toList) (by simp [h5len] <;> omega); simpa using h
          have hadd3 : ∀ w, (Op.stringOp .add ⟨(123 :: (acc ++ 44 :: T1.quoteL x.data.toList)).toArray⟩ ⟨([58]).toArray⟩).run Tryd.prog w = .ok (.string ⟨(123 :: (acc ++ 44 :: (T1.quoteL x.data.toList ++ [58]))).toArray⟩) w := fun w => by have h := T1.add_L w (123 :: (acc ++ 44 :: T1.quoteL x.data.toList)) ([58]) (by simp [h5len] <;> omega); simpa using h
          have hadd4 : ∀ w, (Op.stringOp .add ⟨(123 :: (acc ++ 44 :: (T1.quoteL x.data.toList ++ [58]))).toArray⟩ ⟨(z).toArray⟩).run Tryd.prog w = .ok (.string ⟨(123 :: (acc ++ 44 :: (T1.quoteL x.data.toList ++ 58 :: z))).toArray⟩) w := fun w => by have h := T1.add_L w (123 :: (acc ++ 44 :: (T1.quoteL x.data.toList ++ [58]))) (z) (by simp [h5len] <;> omega); simpa using h
          clear h5len
          go_wp2_with fail
          refine (T1.rquote_any x _ (by omega)).mono ?_
          rintro e w6 ⟨rfl, hb6⟩
          have HB6 := Lib.hid (HB.out.trans (hb6.mono HB.out.size))
          have HY6 := Lib.hid (HY.out.kept hb6)
          obtain ⟨u0, u1, u2, u3, u4⟩ := HY6.out.cells
          have r0 := (HB6.out.cell (p := a5.add (j * 5)) hab).trans hw0
          have r1 := (HB6.out.cell (p := ⟨(a5.add (j * 5)).block, (a5.add (j * 5)).off + 1, none⟩) hab).trans hw1
          have r2 := (HB6.out.cell (p := ⟨(a5.add (j * 5)).block, (a5.add (j * 5)).off + 2, none⟩) hab).trans hw2
          have r3 := (HB6.out.cell (p := ⟨(a5.add (j * 5)).block, (a5.add (j * 5)).off + 3, none⟩) hab).trans hw3
          have r4 := (HB6.out.cell (p := ⟨(a5.add (j * 5)).block, (a5.add (j * 5)).off + 4, none⟩) hab).trans hw4
          clear hb6
          go_wp2_with fail
          refine (IH.out j t HT.out z HZ.out _ B (.agg #[.int .i64 k1, .int .i64 n1, .string s1, .slice A1 li1 ci1, .slice K1 lk1 ck1]) (HRD.out.kept (HB6.out.mono hB)) (Nat.le_trans hB HB6.out.size) (by omega)).mono ?_
          rintro e w5 ⟨rfl, hb5⟩
          have HB5 := Lib.hid (HB6.out.trans (hb5.mono HB6.out.size))
          have HY5 := Lib.hid (HY6.out.kept hb5)
          clear hb5
          go_wp2_with fail
          go_roundw
          case rel => exact ⟨j + 1, acc ++ [44] ++ qL x ++ [58] ++ z, r', by omega, by go_num, by simp [qL], by simpa using HR2.out, by rw [HLA.out]; simp [HJ0.out], HB5.out, HY5.out⟩
          case measure => simp [intOf]; omega
      · have hji : j = li := by omega
        have hre : rest = [] := by
          have h := HREST.out
          rw [List.drop_eq_nil_of_le (by have := HLI.out; omega)] at h
          simpa [VT.txtO] using h.symm
        have hl2 : l = acc := by rw [HLA0.out, hre]; simp
        have HL2 := Lib.hid hl2
        have hadd := fun w => T1.add_L w (123 :: acc) [125] (by simp; omega)
        have hlt' : ¬ (j : Int) < li := by omega
        clear hji hre hl2
        go_wp2_with fail
        go_ret
        exact ⟨by rw [HL2.out]; rfl, HB.out⟩
  have h := HTX.out
  simp [hk0, hk1, hk2, hk3, hk4, hk5, hk6] at h
end Go.Proofs.YtgbckpihlklnlaaDoor
