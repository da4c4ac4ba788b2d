
/-
  The law TokenSeparates.
-/
import Derived.Test.YtpmahimlpajdcaaDoorLaw04d
import Derived.Deep.RegionWith
namespace Go.Proofs.YtpmahimlpajdcaaDoor
open Go.RowKit
def moreL : Nat → List UInt8
  | 0 => [32]
  | 1 => [44]
  | 2 => [10]
  | 3 => [35, 120, 32, 34, 123, 10]
  | 4 => [9, 44, 13]
  | _ => [35, 13]
theorem more_run : ∀ n : Fin 6, ∀ b : Bool, runL sepS b (10 :: moreL n.val) = some false := by decide
/- What separators in front of a token give. -/
theorem scan_seps {l : List UInt8} {ts : List Tk} (hl : l.length ≤ 2000) (h : scR l = .ok ts) {q : Nat} {p : Tk} (hq : ts[q]? = some p) (m : Nat) (hm : m < 6) :
    p.2.2 ≤ l.length ∧ ∃ ts2, scR (l.take p.2.2 ++ (10 :: moreL m) ++ l.drop p.2.2) = .ok ts2 ∧ alike ts ts2 := by
  have hml : ∀ m : Nat, m < 6 → (moreL m).length ≤ 6 := by decide
  unfold scR at h
  rw [if_neg (by omega)] at h
  have hge := scF_ge _ _ _ _ q p h hq
  have hp : p.2.2 ≤ l.length := by omega
  refine ⟨hp, ?_⟩
  have hs := scF_seps (10 :: moreL m) (fun b => more_run ⟨m, hm⟩ b) (fun r => by unfold wdH; exact (by decide : wdB 10 = false)) (l.length + 1) 0 0 (l.take p.2.2) (l.drop p.2.2) ts q p (by rw [List.take_append_drop]; exact h) hq (by rw [List.length_take]; omega)
  obtain ⟨ts2, e1, e2⟩ := hs
  obtain ⟨ts3, e3, e4⟩ := scF_shift _ ((l.take p.2.2 ++ (10 :: moreL m) ++ l.drop p.2.2).length + 1) 0 0 _ ts2 e1 (by
    simp only [List.length_append, List.length_cons, List.length_take, List.length_drop]; omega)
  refine ⟨ts3, ?_, ?_⟩
  · unfold scR
    have := hml m hm
    rw [if_neg (by simp only [List.length_append, List.length_cons, List.length_take, List.length_drop]; omega)]
    exact e3
  · unfold alike at *; rw [e2, e4]
def SepTrue (s : ByteArray) (i b : Int) (w : World) : Prop := Calls Tryd.prog 7 #[.string s, .int .i64 i, .int .i64 b] w fun e w' => e = .returned (.bool true) ∧ Below w.heap.size w w'
set_option maxRecDepth 100000 in
set_option maxHeartbeats 4000000 in
theorem sep_early (s : ByteArray) (i b : Int) (w : World) (hL : LK w) (h : 2000 < s.size ∨ b < 0 ∨ 5 < b) : SepTrue s i b w := by
  have CALL := Lib.hid (long_any s w)
  have EX := Lib.hid (example_any w hL)
  clear hL
  unfold SepTrue
  have fin : ∀ w2 : World, Below w.heap.size w w2 → Hid (Below w.heap.size w w2) := fun _ h => Lib.hid h
  by_cases c0 : 2000 < s.size ∧ s.size ≤ 65536
  · rw [decide_eq_true c0] at CALL
    clear h
    go_enter Tryd.func7, Tryd.ntmps7
    go_wp2_with fail
    refine CALL.out.mono ?_
    rintro e w1 ⟨rfl, rfl⟩
    go_wp2_with fail
    refine EX.out.mono ?_
    rintro e w2 ⟨rfl, hb⟩
    have HB := fin w2 hb
    clear hb fin
    go_wp2_with fail
    go_ret
    exact ⟨rfl, HB.out⟩
  rw [decide_eq_false c0] at CALL
  by_cases c1 : (s.size : Int) > 2000
  · clear h c0
    go_enter Tryd.func7, Tryd.ntmps7
    go_wp2_with fail
    refine CALL.out.mono ?_
    rintro e w1 ⟨rfl, rfl⟩
    go_wp2_with fail
    refine EX.out.mono ?_
    rintro e w2 ⟨rfl, hb⟩
    have HB := fin w2 hb
    clear hb fin
    go_wp2_with fail
    go_ret
    exact ⟨rfl, HB.out⟩
  by_cases c2 : b < 0
  · clear h c0
    go_enter Tryd.func7, Tryd.ntmps7
    go_wp2_with fail
    refine CALL.out.mono ?_
    rintro e w1 ⟨rfl, rfl⟩
    go_wp2_with fail
    refine EX.out.mono ?_
    rintro e w2 ⟨rfl, hb⟩
    have HB := fin w2 hb
    clear hb fin
    go_wp2_with fail
    go_ret
    exact ⟨rfl, HB.out⟩
  have c3 : b > 5 := by
    rcases h with h | h | h
    · omega
    · exact absurd h c2
    · exact h
  clear h c0
  go_enter Tryd.func7, Tryd.ntmps7
  go_wp2_with fail
  refine CALL.out.mono ?_
  rintro e w1 ⟨rfl, rfl⟩
  go_wp2_with fail
  refine EX.out.mono ?_
  rintro e w2 ⟨rfl, hb⟩
  have HB := fin w2 hb
  clear hb fin
  go_wp2_with fail
  go_ret
  exact ⟨rfl, HB.out⟩
/- No tokens, or no token of that number. -/
set_option maxRecDepth 100000 in
set_option maxHeartbeats 4000000 in
theorem sep_none' (s : ByteArray) (i b : Int) (w : World) (hL : LK w) (hs : s.size ≤ 2000) (hb0 : 0 ≤ b) (hb5 : b ≤ 5) (h : (∃ x, scR s.data.toList = .error x) ∨ ∃ ts, scR s.data.toList = .ok ts ∧ (i < 0 ∨ (ts.length : Int) ≤ i)) : SepTrue s i b w := by
  have CALL := Lib.hid (long_any s w)
  rw [decide_eq_false (fun h2 => by omega)] at CALL
  have SC := Lib.hid (scan_any s w hL)
  have HL := Lib.hid hL
  have g1 : ¬ (s.size : Int) > 2000 := by omega
  have g2 : ¬ b < 0 := by omega
  have g3 : ¬ b > 5 := by omega
  unfold SepTrue
  clear hL hs
  rcases h with ⟨⟨j, c⟩, hR⟩ | ⟨ts, hR, hi⟩
  · rw [hR] at SC
    clear hR
    go_enter Tryd.func7, Tryd.ntmps7
    go_wp2_with fail
    refine CALL.out.mono ?_
    rintro e w1 ⟨rfl, rfl⟩
    go_wp2_with fail
    refine SC.out.mono ?_
    rintro e w2 ⟨⟨rfl, hc⟩, hb⟩
    have hc0 : (c == 0) = false := beq_false_of_ne hc
    have hc1 : (c != 0) = true := by simpa using hc
    have HB := Lib.hid hb
    have EX := Lib.hid (example_any w2 (HL.out.below hb))
    clear hb hc
    go_wp2_with fail
    refine EX.out.mono ?_
    rintro e w3 ⟨rfl, hb⟩
    have HB3 := Lib.hid (HB.out.trans (hb.mono HB.out.size))
    clear hb
    go_wp2_with fail
    go_ret
    exact ⟨rfl, HB3.out⟩
  · rw [hR] at SC
    clear hR
    by_cases hi0 : i < 0
    · clear hi
      go_enter Tryd.func7, Tryd.ntmps7
      go_wp2_with fail
      refine CALL.out.mono ?_
      rintro e w1 ⟨rfl, rfl⟩
      go_wp2_with fail
      refine SC.out.mono ?_
      rintro e w2 ⟨⟨v, rfl, hown⟩, hb⟩
      have HB := Lib.hid hb
      have EX := Lib.hid (example_any w2 (HL.out.below hb))
      clear hb hown
      go_wp2_with fail
      refine EX.out.mono ?_
      rintro e w3 ⟨rfl, hb⟩
      have HB3 := Lib.hid (HB.out.trans (hb.mono HB.out.size))
      clear hb
      go_wp2_with fail
      go_ret
      exact ⟨rfl, HB3.out⟩
    · have hge : i ≥ (ts.length : Int) := by omega
      go_enter Tryd.func7, Tryd.ntmps7
      go_wp2_with fail
      refine CALL.out.mono ?_
      rintro e w1 ⟨rfl, rfl⟩
      go_wp2_with fail
      refine SC.out.mono ?_
      rintro e w2 ⟨⟨v, rfl, hown⟩, hb⟩
      obtain ⟨A, c, rfl, hz, hc⟩ := hown.z.at
      rw [tz_len]
      have HB := Lib.hid hb
      have EX := Lib.hid (example_any w2 (HL.out.below hb))
      clear hb hown hz hc
      go_wp2_with fail
      refine EX.out.mono ?_
      rintro e w3 ⟨rfl, hb⟩
      have HB3 := Lib.hid (HB.out.trans (hb.mono HB.out.size))
      clear hb
      go_wp2_with fail
      go_ret
      exact ⟨rfl, HB3.out⟩
abbrev moreO : Obj := .cells #[.string ⟨#[32]⟩, .string ⟨#[44]⟩, .string ⟨#[10]⟩, .string ⟨#[35, 120, 32, 34, 123, 10]⟩, .string ⟨#[9, 44, 13]⟩, .string ⟨#[35, 13]⟩] 9 (0, 0)
set_option maxRecDepth 100000 in
set_option maxHeartbeats 8000000 in
theorem sep_late (s : ByteArray) (q m : Nat) (hm : m < 6) (w : World) (hL : LK w) (hs : s.size ≤ 2000) (ts : List Tk) (hR : scR s.data.toList = .ok ts) (hq : q < ts.length) : SepTrue s (q : Int) (m : Int) w := by
  have CALL := Lib.hid (long_any s w)
  rw [decide_eq_false (fun h2 => by omega)] at CALL
  have SC0 := scan_any s w hL
  rw [hR] at SC0
  have SC := Lib.hid SC0
  have HL := Lib.hid hL
  have g1 : ¬ (s.size : Int) > 2000 := by omega
  obtain ⟨⟨kd, t, at'⟩, hp⟩ : ∃ p, ts[q]? = some p := ⟨_, List.getElem?_eq_getElem hq⟩
  obtain ⟨hat, ts2, hR2, hal⟩ := scan_seps (by rw [T1.size_eq]; exact hs) hR hp m hm
  have hat : at' ≤ s.data.toList.length := hat
  rw [T1.size_eq] at hat
  have htl := (scan_small (by rw [T1.size_eq]; omega) hR).2
  have HTL := Lib.hid htl
  have HTS2 := Lib.hid (alike_len hal)
  have HAL := Lib.hid (alike_z hal)
  have HR2 := Lib.hid hR2
  have HPZ : Hid ((tz ts)[q]? = some (kd, t, (at' : Int))) := Lib.hid (by unfold tz; rw [List.getElem?_map, hp]; rfl)
  have hqi : ¬ (q : Int) ≥ ((tz ts).length : Int) := by rw [tz_len]; omega
  have hqj : (q : Int) < ((tz ts).length : Int) := by rw [tz_len]; omega
  have HQ : Hid (q < (tz ts).length) := Lib.hid (by rw [tz_len]; exact hq)
  have ha1 : (at' : Int) ≤ s.size := by omega
  have g2 : ¬ (m : Int) < 0 := by omega
  have g3 : ¬ (m : Int) > 5 := by omega
  have g4 : (m : Int) < 6 := by omega
  have hmo : ∀ W : World, (W.alloc (.cells #[.string ⟨#[32]⟩, .string ⟨#[44]⟩, .string ⟨#[10]⟩, .string ⟨#[35, 120, 32, 34, 123, 10]⟩, .string ⟨#[9, 44, 13]⟩, .string ⟨#[35, 13]⟩] 9 (0, 0))).cell? ((⟨W.heap.size, 0, none⟩ : Addr).add m) = some (.string ⟨(moreL m).toArray⟩) := fun W => by
    have := T1.cell_new W #[.string ⟨#[32]⟩, .string ⟨#[44]⟩, .string ⟨#[10]⟩, .string ⟨#[35, 120, 32, 34, 123, 10]⟩, .string ⟨#[9, 44, 13]⟩, .string ⟨#[35, 13]⟩] 9 m (by simpa using hm)
    have hc : m = 0 ∨ m = 1 ∨ m = 2 ∨ m = 3 ∨ m = 4 ∨ m = 5 := by omega
    rcases hc with rfl | rfl | rfl | rfl | rfl | rfl <;> exact this
  have hml : (moreL m).length ≤ 6 := (by decide : ∀ m : Nat, m < 6 → (moreL m).length ≤ 6) m hm
  obtain ⟨mo, hmo2⟩ : ∃ mo : ByteArray, (⟨(moreL m).toArray⟩ : ByteArray) = mo := ⟨_, rfl⟩
  have hmol : mo.data.toList = moreL m := by rw [← hmo2]
  have HMOL := Lib.hid hmol
  have hmos : mo.size ≤ 6 := by rw [← T1.size_eq, hmol]; exact hml
  rw [hmo2] at hmo
  have HMO := Lib.hid hmo
  unfold SepTrue
  clear hL hR hp hal hR2 SC0 htl hq hm hmo hmo2 hmol hml
  go_enter Tryd.func7, Tryd.ntmps7
  go_wp2_with fail
  refine CALL.out.mono ?_
  rintro e w1 ⟨rfl, rfl⟩
  go_wp2_with fail
  refine SC.out.mono ?_
  rintro e w2 ⟨⟨v, rfl, hown⟩, hb⟩
  have HB := Lib.hid hb
  have HL2 := Lib.hid (HL.out.below hb)
  have HOA := Lib.hid hown.z
  obtain ⟨A, c, rfl, hz, hc⟩ := hown.z.at
  obtain ⟨a, kd', t', i', rfl, hp', h0, h1, h2⟩ := z_round (wr := w2.alloc (.cells #[.string ⟨#[32]⟩, .string ⟨#[44]⟩, .string ⟨#[10]⟩, .string ⟨#[35, 120, 32, 34, 123, 10]⟩, .string ⟨#[9, 44, 13]⟩, .string ⟨#[35, 13]⟩] 9 (0, 0))) (j := q) hz ((Below.refl _ _).alloc (Nat.le_refl _) _) HQ.out
  have hp' := HPZ.out.symm.trans hp'
  injection hp' with hp'
  injection hp' with p1 hp'
  injection hp' with p2 p3
  subst p1 p2 p3
  obtain ⟨a3, ea3, ha3, hc3⟩ := hz (by have := HQ.out; omega)
  obtain rfl : a = a3 := Option.some.inj ea3
  have HAB : Hid ((a.add (q * 3)).block < w2.heap.size) := Lib.hid (by rw [add_block]; exact ha3)
  clear hb hown hz hc CALL SC hc3 ha3 ea3 h0 h1
  go_wp2_with fail
  have hx1 : (s.extract 0 at').size = at' := by rw [← T1.size_eq, ext_to, List.length_take]; omega
  have hx2 : (s.extract at' s.size).size = s.size - at' := by rw [← T1.size_eq, ext_drop, List.length_drop, T1.size_eq]
  have hbm := ((Below.refl w2.heap.size w2).alloc (Nat.le_refl _) (.cells #[.string ⟨#[32]⟩, .string ⟨#[44]⟩, .string ⟨#[10]⟩, .string ⟨#[35, 120, 32, 34, 123, 10]⟩, .string ⟨#[9, 44, 13]⟩, .string ⟨#[35, 13]⟩] 9 (0, 0))).drew
  have SC3 := scan_any (s.extract 0 at' ++ ⟨#[10]⟩ ++ mo ++ s.extract at' s.size) (w2.alloc (.cells #[.string ⟨#[32]⟩, .string ⟨#[44]⟩, .string ⟨#[10]⟩, .string ⟨#[35, 120, 32, 34, 123, 10]⟩, .string ⟨#[9, 44, 13]⟩, .string ⟨#[35, 13]⟩] 9 (0, 0))).drew (HL2.out.below hbm)
  have e0 : (s.extract 0 at' ++ ⟨#[10]⟩ ++ mo ++ s.extract at' s.size).data.toList = s.data.toList.take at' ++ (10 :: moreL m) ++ s.data.toList.drop at' := by
    simp only [ByteArray.data_append, Array.toList_append, ext_to, ext_drop]
    rw [HMOL.out]; simp
  rw [e0, HR2.out] at SC3
  have SC4 := Lib.hid SC3
  have hmw := HMO.out w2
  have eadd : (⟨w2.heap.size, 0, none⟩ : Addr).add m = ⟨w2.heap.size, m, none⟩ := by unfold Addr.add; split <;> simp_all
  have hmw2 : (w2.alloc (.cells #[.string ⟨#[32]⟩, .string ⟨#[44]⟩, .string ⟨#[10]⟩, .string ⟨#[35, 120, 32, 34, 123, 10]⟩, .string ⟨#[9, 44, 13]⟩, .string ⟨#[35, 13]⟩] 9 (0, 0))).cell? ⟨w2.heap.size, m, none⟩ = some (.string mo) := by rw [← eadd]; exact hmw
  have HBM := Lib.hid hbm
  clear e0 SC3 hbm
  go_region_with (go_at_call 9; refine SC4.out.mono ?_; rintro e w4 ⟨⟨v2, rfl, hown2⟩, hb⟩)
  all_goals
    have hb24 := HBM.out.trans (hb.mono HBM.out.size)
    have HB4 := Lib.hid (HB.out.trans (hb24.mono HB.out.size))
    have HOA4 := Lib.hid (HOA.out.stay hb24)
    have HOB4 := Lib.hid hown2.z
    have HL4 := Lib.hid (HL2.out.below hb24)
    obtain ⟨A4, c4, e4, hz4, _⟩ := HOA4.out.at
    injection e4 with e5 e6 e7
    subst e5 e7
    obtain ⟨B, d, rfl, hzb, _⟩ := HOB4.out.at
    have OA := Lib.hid (own_any (tz ts) (by rw [tz_len]; have := HTL.out; omega) (some a) c w4 hz4)
    have HTL2 : Hid (ts2.length ≤ 3001) := Lib.hid (by rw [← HTS2.out]; exact HTL.out)
    clear hb hb24 SC4 hown2 hz4 hzb HOA4 hmw hmw2 eadd hx1 hx2 h2
    go_wp2_with fail
    refine OA.out.mono ?_
    rintro e w5 ⟨⟨va, rfl, howa⟩, hb⟩
    have HB5 := Lib.hid (HB4.out.trans (hb.mono HB4.out.size))
    have HVA := Lib.hid howa
    have HOB5 := Lib.hid (HOB4.out.stay hb)
    have HL5 := Lib.hid (HL4.out.below hb)
    obtain ⟨B5, d5, e8, hz5, _⟩ := HOB5.out.at
    injection e8 with e9 e10 e11
    subst e9 e11
    have OB := Lib.hid (own_any (tz ts2) (by rw [tz_len]; have := HTL2.out; omega) B d w5 hz5)
    clear hb OA howa hz5 HOB4 HOB5
    go_wp2_with fail
    refine OB.out.mono ?_
    rintro e w6 ⟨⟨vb, rfl, howb⟩, hb⟩
    have HB6 := Lib.hid (HB5.out.trans (hb.mono HB5.out.size))
    have HL6 := Lib.hid (HL5.out.below hb)
    obtain ⟨A6, c6, ea6, hza6, _⟩ := (HVA.out.stay hb).at
    obtain ⟨B6, d6, eb6, hzb6, _⟩ := howb.at
    subst ea6 eb6
    have AK := Lib.hid (alike_any (tz ts) (tz ts2) (by rw [tz_len]; have := HTL.out; omega) HAL.out A6 B6 c6 d6 w6 hza6 hzb6)
    clear hb OB howb hza6 hzb6 HVA
    go_wp2_with fail
    refine AK.out.mono ?_
    rintro e w7 ⟨rfl, hb⟩
    have HB7 := Lib.hid (HB6.out.trans (hb.mono HB6.out.size))
    have EX := Lib.hid (example_any w7 (HL6.out.below hb))
    clear hb AK
    go_wp2_with fail
    refine EX.out.mono ?_
    rintro e w8 ⟨rfl, hb⟩
    have HB8 := Lib.hid (HB7.out.trans (hb.mono HB7.out.size))
    clear hb
    go_wp2_with fail
    go_ret
    exact ⟨rfl, HB8.out⟩
theorem separates_any (s : ByteArray) (i b : Int) (w : World) (hL : LK w) (_hs : s.size ≤ maxLen) (_w1 : (Lit.int .i64 i).wf = true) (_w2 : (Lit.int .i64 b).wf = true) :
    Calls Tryd.prog 7 #[.string s, .int .i64 i, .int .i64 b] w fun e w' => e = .returned (.bool true) ∧ Below w.heap.size w w' := by
  show SepTrue s i b w
  by_cases c1 : 2000 < s.size
  · exact sep_early s i b w hL (.inl c1)
  by_cases c2 : b < 0
  · exact sep_early s i b w hL (.inr (.inl c2))
  by_cases c3 : 5 < b
  · exact sep_early s i b w hL (.inr (.inr c3))
  cases hR : scR s.data.toList with
  | error x => exact sep_none' s i b w hL (by omega) (by omega) (by omega) (.inl ⟨x, hR⟩)
  | ok ts =>
    by_cases c4 : i < 0 ∨ (ts.length : Int) ≤ i
    · exact sep_none' s i b w hL (by omega) (by omega) (by omega) (.inr ⟨ts, hR, c4⟩)
    · obtain ⟨q, rfl⟩ : ∃ q : Nat, i = q := ⟨i.toNat, by omega⟩
      obtain ⟨m, rfl⟩ : ∃ m : Nat, b = m := ⟨b.toNat, by omega⟩
      exact sep_late s q m (by omega) w hL (by omega) ts hR (by omega)
end Go.Proofs.YtpmahimlpajdcaaDoor
