
/-
  The reference's Strings.
-/
import Derived.Test.YtcbajgcblfgmgaaDoorStrs0
namespace Go.Proofs.YtcbajgcblfgmgaaDoor
open Go.RowKit
theorem strsL_take {r : List VT} {j : Nat} {t : VT} (h : r[j]? = some t) : VT.strsL (r.take (j + 1)) = VT.strsL (r.take j) ++ [t.strs] := by
  obtain ⟨hj, e⟩ := List.getElem?_eq_some_iff.1 h
  rw [List.take_succ_eq_append_getElem hj, e]
  have app : ∀ a b : List VT, VT.strsL (a ++ b) = VT.strsL a ++ VT.strsL b := by
    intro a b
    induction a with
    | nil => simp [VT.strsL]
    | cons x a ih => simp [VT.strsL, ih]
  rw [app]; simp [VT.strsL]
theorem strsL_len (r : List VT) : (VT.strsL r).length = r.length := by
  induction r with
  | nil => rfl
  | cons t r ih => simp [VT.strsL, ih]
def StrAt (t : VT) : Prop := ∀ (w : World) (B : Nat) (v : Value), Rd w B v t → B ≤ w.heap.size →
    Calls Tryd.prog 12 #[v] w fun e w' => (∃ u, e = .returned u ∧ RdS w' (Fresh w.heap.size w') u t.strs) ∧ Below w.heap.size w w'
abbrev aggV (k n : Int) (s : ByteArray) (v v2 : Value) : Obj := .cells #[.int .i64 k, .int .i64 n, .string s, v, v2] 25 (0, 0)
theorem SInv.start (w : World) (c0 c1 c2 c3 c4 : Value) (k n : Int) (s : ByteArray) :
    SInv (((w.alloc (.cells #[c0, c1, c2, c3, c4] 25 (0, 0))).alloc (aggV 0 0 ⟨#[]⟩ (.slice none 0 0) (.slice none 0 0))).alloc (aggV k n s (.slice none 0 0) (.slice none 0 0))) (w.heap.size + 3) (w.heap.size + 1 + 1) k n s [] [] (.slice none 0 0) (.slice none 0 0) [] ∧
    Box (((w.alloc (.cells #[c0, c1, c2, c3, c4] 25 (0, 0))).alloc (aggV 0 0 ⟨#[]⟩ (.slice none 0 0) (.slice none 0 0))).alloc (aggV k n s (.slice none 0 0) (.slice none 0 0))) w.heap.size c0 c1 c2 c3 c4 ∧
    Box (((w.alloc (.cells #[c0, c1, c2, c3, c4] 25 (0, 0))).alloc (aggV 0 0 ⟨#[]⟩ (.slice none 0 0) (.slice none 0 0))).alloc (aggV k n s (.slice none 0 0) (.slice none 0 0))) (w.heap.size + 1) (.int .i64 0) (.int .i64 0) (.string ⟨#[]⟩) (.slice none 0 0) (.slice none 0 0) ∧
    Below w.heap.size w (((w.alloc (.cells #[c0, c1, c2, c3, c4] 25 (0, 0))).alloc (aggV 0 0 ⟨#[]⟩ (.slice none 0 0) (.slice none 0 0))).alloc (aggV k n s (.slice none 0 0) (.slice none 0 0))) := by
  obtain ⟨f1, f2, f3⟩ := Box.two w c0 c1 c2 c3 c4 (.int .i64 0) (.int .i64 0) (.string ⟨#[]⟩) (.slice none 0 0) (.slice none 0 0)
  have f4 := Box.new ((w.alloc (.cells #[c0, c1, c2, c3, c4] 25 (0, 0))).alloc (aggV 0 0 ⟨#[]⟩ (.slice none 0 0) (.slice none 0 0))) (.int .i64 k) (.int .i64 n) (.string s) (.slice none 0 0) (.slice none 0 0)
  have hz : ((w.alloc (.cells #[c0, c1, c2, c3, c4] 25 (0, 0))).alloc (aggV 0 0 ⟨#[]⟩ (.slice none 0 0) (.slice none 0 0))).heap.size = w.heap.size + 1 + 1 := by simp
  rw [hz] at f4
  exact ⟨⟨f4, World.ownsRow_nil _ _ _ _, Elems.nil _ _, World.ownsRow_nil _ _ _ _, fun b e => (by cases e), by omega, by simp⟩, f1.alloc _, f2.alloc _, f3.alloc (by rw [hz]; omega) _⟩
def StW (w W : World) (k kk n : Int) (s : ByteArray) (A : Option Addr) (li ci : Nat) (K : Option Addr) (lk ck : Nat) : Prop :=
  SInv W (w.heap.size + 3) (w.heap.size + 1 + 1) kk n s [] [] (.slice none 0 0) (.slice none 0 0) [] ∧ Box W w.heap.size (.int .i64 k) (.int .i64 n) (.string s) (.slice A li ci) (.slice K lk ck) ∧
  Box W (w.heap.size + 1) (.int .i64 0) (.int .i64 0) (.string ⟨#[]⟩) (.slice none 0 0) (.slice none 0 0) ∧ Below w.heap.size w W
theorem take_snoc' {α : Type} {l : List α} {j : Nat} {x : α} (h : l[j]? = some x) : l.take (j + 1) = l.take j ++ [x] := by
  obtain ⟨hj, e⟩ := List.getElem?_eq_some_iff.1 h
  rw [List.take_succ_eq_append_getElem hj, e]
set_option maxRecDepth 100000 in
set_option maxHeartbeats 4000000 in
theorem strings_any (t : VT) : StrAt t := by
  induction t using VT.ind with
  | h k n s items keys ih =>
  intro w B v h hB
  cases h with
  | @mk _ _ _ A li ci K lk ck _ _ V hk hn hs hks hli hlk hbi hbk hA hr hK =>
  have IH := Lib.hid ih
  have HA := Lib.hid hA
  have HR := Lib.hid hr
  have HL := Lib.hid hli
  have HLK := Lib.hid hlk
  have HK := Lib.hid hK
  have HKS := Lib.hid hks
  have HKN := Lib.hid (And.intro hk (And.intro hn hs))
  have hlm : (li : Int) ≤ 140737488351232 := by omega
  have hlm' : (lk : Int) ≤ 140737488351232 := by omega
  have HBI := Lib.hid hbi
  have HBK := Lib.hid hbk
  clear ih hA hr hli hlk hK hks hk hn hs
  have hkk : small (if k = 4 then 3 else k) := by
    split
    · unfold small; omega
    · exact HKN.out.1
  have HKK := Lib.hid hkk
  rw [VT.strs]
  obtain ⟨kk, ekk⟩ : ∃ kk : Int, kk = (if k = 4 then 3 else k) := ⟨_, rfl⟩
  rw [← ekk] at HKK ⊢
  have hcase : k = 4 ∨ ¬ k = 4 := by omega
  have hST : (k = 4 ∧ StW w (((w.alloc (aggV 4 n s (.slice A li ci) (.slice K lk ck))).alloc (aggV 0 0 ⟨#[]⟩ (.slice none 0 0) (.slice none 0 0))).alloc (aggV 3 n s (.slice none 0 0) (.slice none 0 0))) 4 kk n s A li ci K lk ck) ∨ ((k == 4) = false ∧ StW w (((w.alloc (aggV k n s (.slice A li ci) (.slice K lk ck))).alloc (aggV 0 0 ⟨#[]⟩ (.slice none 0 0) (.slice none 0 0))).alloc (aggV k n s (.slice none 0 0) (.slice none 0 0))) k kk n s A li ci K lk ck) := by
    by_cases h4 : k = 4
    · refine .inl ⟨h4, ?_⟩
      rw [ekk, if_pos h4]
      exact SInv.start w _ _ _ _ _ 3 n s
    · refine .inr ⟨by simp [h4], ?_⟩
      rw [ekk, if_neg h4]
      exact SInv.start w _ _ _ _ _ k n s
  clear hcase ekk hkk
  obtain ⟨iS, hiS, hzS0, hzS1, hzS2⟩ := info_parts5 infoS
  obtain ⟨i0, hi0, hz0, hz1, hz2⟩ := info_parts5 infoVal
  rcases hST with ⟨rfl, hst⟩ | ⟨hk4, hst⟩
  all_goals
    have ST := Lib.hid hst
    clear hst
    go_enter Tryd.func12, Tryd.ntmps12
    go_wp2_with fail
    go_loopw [4] (fun i wr => ∃ (j : Nat) (v2 : Value), j ≤ lk ∧ i = .int .i64 j ∧ SInv wr (w.heap.size + 3) (w.heap.size + 1 + 1) kk n s [] (keys.take j) (.slice none 0 0) v2 [] ∧ (∃ k1, Box wr w.heap.size (.int .i64 k1) (.int .i64 n) (.string s) (.slice A li ci) (.slice K lk ck)) ∧ Box wr (w.heap.size + 1) (.int .i64 0) (.int .i64 0) (.string ⟨#[]⟩) (.slice none 0 0) (.slice none 0 0) ∧ Below w.heap.size w wr) (fun i _ => lk - (intOf i).toNat)
    case atStart => exact ⟨0, _, Nat.zero_le _, rfl, ST.out.1, ⟨_, ST.out.2.1⟩, ST.out.2.2.1, ST.out.2.2.2⟩
    case round =>
      obtain ⟨j, v2, hj, rfl, hS, ⟨k1, hp⟩, hzr, hb⟩ := hrel
      clear ST
      by_cases hlt : j < lk
      · obtain ⟨ka, hka, hkab, hkc0⟩ := HK.out (by have := HLK.out; omega)
        obtain ⟨x, hx⟩ : ∃ x, keys[j]? = some x := ⟨_, List.getElem?_eq_getElem (by have := HLK.out; omega)⟩
        have HTK := Lib.hid (take_snoc' hx)
        have hkc : wr.cell? (ka.add j) = some (.string x) := by rw [hb.cell (by rw [add_block]; omega)]; exact hkc0 j x hx
        have hkl : (keys.take j).length ≤ lk := by rw [List.length_take]; omega
        subst hka
        clear hkc0 hx hkab
        generalize keys.take j = ks at *
        obtain ⟨K2, d2, rfl⟩ := own_slice hS.keys
        have b1 : Below wr.heap.size wr (wr.alloc (.cells #[.string x] 9 (0, 0))).drew := ((Below.refl _ _).alloc (Nat.le_refl _) _).drew
        have HSW := Lib.hid (hS.below b1)
        have HNEWS := Lib.hid (cells_Z wr [.string x] 9)
        have HNE : Hid ((Value.slice K2 ks.length d2).ownBlock ≠ some (w.heap.size + 1 + 1)) := Lib.hid (fun e => by have := own_lt hS.keys e; omega)
        have HP := Lib.hid hp
        have HZ := Lib.hid hzr
        have HB := Lib.hid hb
        have HB1 := Lib.hid b1
        have hbs := hS.bw
        obtain ⟨p0, p1, p2, p3, p4⟩ := hp.cells
        obtain ⟨q0, q1, q2, q3, q4⟩ := hS.box.cells
        obtain ⟨r0, r1, r2, r3, r4⟩ := HSW.out.box.cells
        have hlt' : (j : Int) < lk := by omega
        have hbk := HBK.out
        clear hS hp hzr hb b1
        go_wp2_with fail
        go_region_law (refine step_append_lies _ rfl (.tmp 26) (.tmp 32) 23 rfl (w.heap.size + 3) 9 iS (.string ⟨#[]⟩) 1 16 Tryd.underlying23 hiS hzS0 hzS1 hzS2 rfl (by decide) (.slice K2 ks.length d2) ks.length (ks.map Value.string) rfl HSW.out.keys _ 1 1 [.string x] rfl rfl HNEWS.out (by intro u hu; simp at hu; subst hu; rfl) (by decide) (by unfold maxLen; omega) (by omega) (by simp; omega) _ rfl ?_; intro g cap w3 h1 h2 h3 h4; have HB3 := Box.grown HSW.out.box h2 HNE.out; have e4 := HB3.cells.2.2.2.2; have f4 := HB3.frz 4)
        all_goals
          go_wp2_with fail
          have hpk := SInv.pushKey HSW.out h1 h2 (by simpa using h3)
          go_roundw
          case rel => exact ⟨j + 1, _, by omega, by go_num, by rw [HTK.out]; exact hpk.1, ⟨k1, (hpk.2.block _ (by omega)).trans (HP.out.kept HB1.out)⟩, (hpk.2.block _ (by omega)).trans (HZ.out.kept HB1.out), HB.out.trans ((HB1.out.mono HB.out.size).trans (hpk.2.mono (by omega)))⟩
          case measure => simp [intOf]; omega
      · have hlt' : ¬ (j : Int) < lk := by omega
        have hjk : keys.take j = keys := List.take_of_length_le (by have := HLK.out; omega)
        rw [hjk] at hS
        have HS := Lib.hid hS
        have HP := Lib.hid hp
        have HZ := Lib.hid hzr
        have HB := Lib.hid hb
        obtain ⟨p0, p1, p2, p3, p4⟩ := hp.cells
        clear hjk hS hp hzr hb
        go_wp2_with fail
        clear p0 p1 p2 p3 p4
        go_loopw [5] (fun i wr2 => ∃ (j2 : Nat) (v : Value) (xs : List Value), j2 ≤ li ∧ i = .int .i64 j2 ∧ SInv wr2 (w.heap.size + 3) (w.heap.size + 1 + 1) kk n s (VT.strsL (items.take j2)) keys v v2 xs ∧ Box wr2 w.heap.size (.int .i64 k1) (.int .i64 n) (.string s) (.slice A li ci) (.slice K lk ck) ∧ Box wr2 (w.heap.size + 1) (.int .i64 0) (.int .i64 0) (.string ⟨#[]⟩) (.slice none 0 0) (.slice none 0 0) ∧ Below w.heap.size w wr2) (fun i _ => li - (intOf i).toNat)
        case atStart => exact ⟨0, _, _, Nat.zero_le _, rfl, HS.out, HP.out, HZ.out, HB.out⟩
        case round =>
          obtain ⟨j2, v, xs, hj2, rfl, hS, hp, hzr, hb⟩ := hrel
          clear HS HP HZ HB
          by_cases hlt2 : j2 < li
          · obtain ⟨a, t, k5, n5, s5, A5, li5, ci5, K5, lk5, ck5, rfl, ht, e, hrd, h0, h1, h2, h3, h4⟩ := round_at HA.out HR.out HL.out (hb.mono hB) hlt2
            have CALL0 := IH.out j2 t ht _ B _ hrd (Nat.le_trans hB hb.size)
            rw [e] at CALL0
            have CALL := Lib.hid CALL0
            have HTK := Lib.hid (strsL_take ht)
            have hml : (VT.strsL (items.take j2)).length ≤ li := by rw [strsL_len, List.length_take]; omega
            have hlt2' : (j2 : Int) < li := by omega
            have HS := Lib.hid hS
            have HP := Lib.hid hp
            have HZ := Lib.hid hzr
            have HB := Lib.hid hb
            obtain ⟨p0, p1, p2, p3, p4⟩ := hp.cells
            clear CALL0 ht e hrd hS hp hzr hb
            generalize VT.strsL (items.take j2) = its at *
            go_wp2_with fail
            refine CALL.out.mono ?_
            rintro e w3 ⟨⟨u, rfl, hu⟩, hb3⟩
            obtain ⟨k6, n6, s6, A6, li6, ci6, K6, lk6, ck6, rfl⟩ := hu.fiveV
            obtain ⟨Av, cv, rfl⟩ := own_slice HS.out.own
            have b1 : Below w3.heap.size w3 ((w3.alloc (aggV k6 n6 s6 (.slice A6 li6 ci6) (.slice K6 lk6 ck6))).alloc (aggV k6 n6 s6 (.slice A6 li6 ci6) (.slice K6 lk6 ck6))) := ((Below.refl _ _).alloc (Nat.le_refl _) _).alloc (by simp) _
            have b2 := hb3.trans (b1.mono hb3.size)
            have HSW := Lib.hid (HS.out.below b2)
            have HS3 := Lib.hid ((HS.out.below hb3).below ((Below.refl _ _).alloc (Nat.le_refl _) (aggV k6 n6 s6 (.slice A6 li6 ci6) (.slice K6 lk6 ck6))))
            have HX := Lib.hid (Box.new w3 (.int .i64 k6) (.int .i64 n6) (.string s6) (.slice A6 li6 ci6) (.slice K6 lk6 ck6))
            have HU := Lib.hid (hu.kept (fun b hb => b1.block b hb.2) (fun b hb => (⟨by have := hb.1; have := HS.out.bw; omega, Nat.lt_of_lt_of_le hb.2 b1.size, fun e => by have := own_lt HS.out.own e; have := hb.1; omega, fun e => by have := own_lt HS.out.keys e; have := hb.1; omega⟩ : w.heap.size + 3 ≤ b ∧ b < ((w3.alloc (aggV k6 n6 s6 (.slice A6 li6 ci6) (.slice K6 lk6 ck6))).alloc (aggV k6 n6 s6 (.slice A6 li6 ci6) (.slice K6 lk6 ck6))).heap.size ∧ (Value.slice Av its.length cv).ownBlock ≠ some b ∧ v2.ownBlock ≠ some b)))
            have HNK : Hid (∀ (q : Nat) (x : Value), [Value.int .i64 k6, .int .i64 n6, .string s6, .slice A6 li6 ci6, .slice K6 lk6 ck6][q]? = some x → ((w3.alloc (aggV k6 n6 s6 (.slice A6 li6 ci6) (.slice K6 lk6 ck6))).alloc (aggV k6 n6 s6 (.slice A6 li6 ci6) (.slice K6 lk6 ck6))).cell? ((⟨w3.heap.size + 1, 0, none⟩ : Addr).add q) = some x) := Lib.hid (by
              have h := cells_Z (w3.alloc (aggV k6 n6 s6 (.slice A6 li6 ci6) (.slice K6 lk6 ck6))) [Value.int .i64 k6, .int .i64 n6, .string s6, .slice A6 li6 ci6, .slice K6 lk6 ck6] 25
              rw [World.size_alloc] at h
              exact h)
            have HNE : Hid ((Value.slice Av its.length cv).ownBlock ≠ some (w.heap.size + 1 + 1)) := Lib.hid (fun e => by have := own_lt HS.out.own e; omega)
            have HB2 := Lib.hid b2
            have hbs := HS.out.bw
            have hb3s := hb3.size
            have hbi := HBI.out
            have hszW : w.heap.size + 3 ≤ ((w3.alloc (aggV k6 n6 s6 (.slice A6 li6 ci6) (.slice K6 lk6 ck6))).alloc (aggV k6 n6 s6 (.slice A6 li6 ci6) (.slice K6 lk6 ck6))).heap.size := by simp; omega
            obtain ⟨q0, q1, q2, q3, q4⟩ := HS3.out.box.cells
            obtain ⟨x0, x1, x2, x3, x4⟩ := HX.out.cells
            clear hu hb3 b1 b2 p0 p1 p2 p3 p4 h0 h1 h2 h3 h4 CALL
            go_wp2_with (at_builtin; refine wpList_append_lies _ rfl _ _ 22 rfl (w.heap.size + 3) 25 i0 (.agg #[.int .i64 0, .int .i64 0, .string ⟨#[]⟩, .slice none 0 0, .slice none 0 0]) 5 80 Tryd.underlying22 hi0 hz0 hz1 hz2 rfl (by decide) (.slice Av its.length cv) its.length xs rfl HSW.out.own ⟨w3.heap.size + 1, 0, none⟩ 1 1 [.int .i64 k6, .int .i64 n6, .string s6, .slice A6 li6 ci6, .slice K6 lk6 ck6] rfl rfl HNK.out (by intro u hu; simp at hu; rcases hu with rfl | rfl | rfl | rfl | rfl <;> rfl) (by decide) (by unfold maxLen; omega) (by omega) hszW _ rfl ?_; intro g2 cap2 w4 g1 g2' g3 g4; have hbox4 := Box.grown HSW.out.box g2' HNE.out; have r3 := hbox4.cells.2.2.2.1; have f3 := hbox4.frz 3)
            have hpk := SInv.pushItem HSW.out HU.out g1 g2' (by simpa using g3)
            go_roundw
            case rel => exact ⟨j2 + 1, _, _, by omega, by go_num, by rw [HTK.out]; exact hpk.1, (hpk.2.block _ (by omega)).trans (HP.out.kept HB2.out), (hpk.2.block _ (by omega)).trans (HZ.out.kept HB2.out), HB.out.trans ((HB2.out.mono HB.out.size).trans (hpk.2.mono (by omega)))⟩
            case measure => simp [intOf]; omega
          · have hlt2' : ¬ (j2 : Int) < li := by omega
            have hjk : items.take j2 = items := List.take_of_length_le (by have := HL.out; omega)
            rw [hjk] at hS
            have hRD := SInv.read hS HKK.out HKN.out.2.1 HKN.out.2.2 (by rw [strsL_len, HL.out]; exact HBI.out) (by rw [HLK.out]; exact HBK.out) HKS.out
            have HS := Lib.hid hS
            have HRD := Lib.hid hRD
            have HZ := Lib.hid hzr
            have HB := Lib.hid hb
            obtain ⟨Av, cv, rfl⟩ := own_slice hS.own
            obtain ⟨Kv, dv, rfl⟩ := own_slice hS.keys
            obtain ⟨p0, p1, p2, p3, p4⟩ := hp.cells
            obtain ⟨q0, q1, q2, q3, q4⟩ := hS.box.cells
            obtain ⟨y0, y1, y2, y3, y4⟩ := hzr.cells
            have g0 := hzr.frz 0
            have g1 := hzr.frz 1
            have g2 := hzr.frz 2
            have g3 := hzr.frz 3
            have g4 := hzr.frz 4
            clear hjk hS hp hzr hb hRD
            generalize (VT.strsL items).length = lv at *
            generalize keys.length = lq at *
            have ZZ := Lib.hid (Box.five HZ.out (.int .i64 kk) (.int .i64 n) (.string s) (.slice Av lv cv) (.slice Kv lq dv)).cells
            go_wp2_with fail
            obtain ⟨z0, z1, z2, z3, z4⟩ := ZZ.out
            refine bodyPost_ret (v := .agg #[.int .i64 kk, .int .i64 n, .string s, .slice Av lv cv, .slice Kv lq dv]) (by simp [results, Tryd.results12, go_sem, z0, z1, z2, z3, z4]) rfl ⟨⟨_, rfl, ?_⟩, ?_⟩
            · refine HRD.out.kept (fun b hb => ?_) (fun b hb => ?_)
              · have hk : b ≠ w.heap.size + 1 := by have := hb.1; omega
                rw [Below.heap_setCell _ _ _ _ hk, Below.heap_setCell _ _ _ _ hk, Below.heap_setCell _ _ _ _ hk, Below.heap_setCell _ _ _ _ hk, Below.heap_setCell _ _ _ _ hk]
              · exact ⟨by have := hb.1; omega, by have := hb.2; simpa [World.setCell] using this⟩
            · exact Below.five HB.out (by omega) _ _ _ _ _
end Go.Proofs.YtcbajgcblfgmgaaDoor
