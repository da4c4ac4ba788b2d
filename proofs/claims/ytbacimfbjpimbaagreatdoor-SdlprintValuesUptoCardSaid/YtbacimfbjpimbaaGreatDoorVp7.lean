
/-
  Texts joined: YBuild YMake YParts YCmp YPrint.
-/
import Derived.Test.YtbacimfbjpimbaaGreatDoorVp1
import Derived.Shelf.Strings.BuilderK
import Derived.Test.YtbacimfbjpimbaaGreatDoorVp6
import Derived.Shelf.Abstract
namespace Go.Proofs.YtbacimfbjpimbaaGreatDoor.K
open Go.RowKit
abbrev pp (b : Nat) : Value := .pointer (some ⟨b, 0, none⟩)
open Go.RowKit
def layW : Go.Shelf.Ren := ⟨fun | 166 => 118 | 240 => 178 | 276 => 235 | n => n, fun | 0 => 0 | 3 => 3 | 4 => 4 | 5 => 5 | 9 => 9 | 20 => 20 | 37 => 55 | 70 => 54 | 72 => 57 | 75 => 160 | 80 => 61 | 164 => 251 | n => n, fun n => n⟩
theorem lay166 : Go.Proofs.Lays.n166 Tryz.prog layW := {
  mixed := by kernel_rfl
  f166 := Tryz.func118.trans (congrArg some (by kernel_rfl))
  f240 := Tryz.func178.trans (congrArg some (by kernel_rfl))
  f276 := Tryz.func235.trans (congrArg some (by kernel_rfl))
  t0 := Tryz.underlying0
  a0 := Tryz.isAgg0
  z0 := Tryz.sizeOf0
  v0 := Tryz.zeroValue0
  t3 := Tryz.underlying3
  a3 := Tryz.isAgg3
  z3 := Tryz.sizeOf3
  v3 := Tryz.zeroValue3
  t4 := Tryz.underlying4
  a4 := Tryz.isAgg4
  z4 := Tryz.sizeOf4
  v4 := Tryz.zeroValue4
  t9 := Tryz.underlying9
  a9 := Tryz.isAgg9
  z9 := Tryz.sizeOf9
  v9 := Tryz.zeroValue9
  t20 := Tryz.underlying20
  a20 := Tryz.isAgg20
  z20 := Tryz.sizeOf20
  v20 := Tryz.zeroValue20
  t37 := Tryz.underlying55
  a37 := Tryz.isAgg55
  z37 := Tryz.sizeOf55
  v37 := Tryz.zeroValue55
  t70 := Tryz.underlying54
  a70 := Tryz.isAgg54
  z70 := Tryz.sizeOf54
  v70 := Tryz.zeroValue54
  t72 := Tryz.underlying57
  a72 := Tryz.isAgg57
  z72 := Tryz.sizeOf57
  v72 := Tryz.zeroValue57
  t75 := Tryz.underlying160
  a75 := Tryz.isAgg160
  z75 := Tryz.sizeOf160
  v75 := Tryz.zeroValue160
  t164 := Tryz.underlying251
  a164 := Tryz.isAgg251
  z164 := Tryz.sizeOf251
  v164 := Tryz.zeroValue251 }
theorem layX : Builder.Extra Tryz.prog layW := {
  sizeBuilder := by kernel_rfl
  liesBuilder := by kernel_rfl
  t5 := Tryz.underlying5
  a5 := Tryz.isAgg5
  z5 := Tryz.sizeOf5
  v5 := Tryz.zeroValue5
  infoByte := by kernel_rfl
  cellsByte := by kernel_rfl
  sizeByte := by kernel_rfl
  neB5 := by decide }
abbrev BD (B b : Nat) (l : List UInt8) (w : World) : Prop := Lib.IsBuilderF 57 5 B b (Lib.byteCells l) w
theorem writeString_any (B b : Nat) (l : List UInt8) (s : ByteArray) (w : World) (h : BD B b l w) (hl : l.length + s.size ≤ 1099511627776) (hB : B ≤ w.heap.size) :
    Calls Tryz.prog 118 #[pp b, .string s] w fun e w' => e = .returned (.tuple #[.int .i64 s.size, .nilIface]) ∧ BD B b (l ++ s.data.toList) w' ∧ Below B w w' ∧ Lib.OthersKept 5 (some b) w w' := by
  refine (Any.Builder_WriteString_k lay166 layX B b (Lib.byteCells l) s w h (by simp [Lib.byteCells]; omega) hB).mono ?_
  rintro e w' ⟨rfl, h1, h2⟩
  refine ⟨rfl, .inr ?_, h2⟩
  have e1 : Lib.byteCells l ++ Lib.strCells s = Lib.byteCells (l ++ s.data.toList) := by simp [Lib.byteCells, Lib.strCells]
  rw [← e1]
  exact h1
end Go.Proofs.YtbacimfbjpimbaaGreatDoor.K
namespace Go.Proofs.YtbacimfbjpimbaaGreatDoor.K
open Go.RowKit
end Go.Proofs.YtbacimfbjpimbaaGreatDoor.K
namespace Go.Proofs.YtbacimfbjpimbaaGreatDoor.K
open Go.RowKit
def BoolPost (b : Bool) (w : World) (e : Ending) (w' : World) : Prop := e = .returned (.bool b) ∧ Below w.heap.size w w'
def OptPost (n : ByteArray) (o : Option Ws) (w : World) (e : Ending) (w' : World) : Prop :=
  (∃ u, e = .returned (.tuple #[u, .bool o.isSome]) ∧ match o with | some xs => RefV w' w'.heap.size u n xs | none => u = .agg #[.string ⟨#[]⟩, .slice none 0 0]) ∧ Below w.heap.size w w'
theorem OptPost.none {n : ByteArray} {w w' : World} {e : Ending} (h : OptPost n none w e w') : e = .returned (.tuple #[.agg #[.string ⟨#[]⟩, .slice none 0 0], .bool false]) ∧ Below w.heap.size w w' := by
  obtain ⟨⟨u, rfl, rfl⟩, hb⟩ := h; exact ⟨rfl, hb⟩
theorem OptPost.some {n : ByteArray} {zs : Ws} {w w' : World} {e : Ending} (h : OptPost n (some zs) w e w') : (∃ u, e = .returned (.tuple #[u, .bool true]) ∧ RefV w' w'.heap.size u n zs) ∧ Below w.heap.size w w' := by
  obtain ⟨⟨u, rfl, hu⟩, hb⟩ := h; exact ⟨⟨u, rfl, hu⟩, hb⟩
end Go.Proofs.YtbacimfbjpimbaaGreatDoor.K
namespace Go.Proofs.YtbacimfbjpimbaaGreatDoor.K
open Go.RowKit
theorem ints_round {w wr : World} {B k : Nat} {A : Option Addr} {xs : Ws} (h : IntsAt w B A xs) (hb : Below B w wr) (hk : k < xs.length) : ∃ a x, A = some a ∧ a.block < B ∧ xs[k]? = some x ∧ wr.cell? (a.add k) = some (.int .i64 x) := by
  obtain ⟨a, e, ha, hc⟩ := (h.kept hb) (by omega)
  exact ⟨a, xs[k], e, ha, List.getElem?_eq_getElem hk, hc k _ (List.getElem?_eq_getElem hk)⟩
theorem cell_past {W : World} {a : Addr} {v : Value} (h : W.cell? a = some v) (ha : a.block < W.heap.size) (x : Past W) : x.w.cell? a = some v := (World.cell?_of_block (w := W) (x.b.block _ ha)).trans h
theorem take_one {xs : Ws} {k : Nat} {x : Int} (h : xs[k]? = some x) : xs.take (k + 1) = xs.take k ++ [x] := by
  obtain ⟨h1, h2⟩ := List.getElem?_eq_some_iff.1 h
  rw [← h2]; exact (List.take_append_getElem h1).symm
set_option maxRecDepth 100000 in
set_option maxHeartbeats 2000000 in
theorem equal_any (xs ys : Ws) (v u : Value) (w : World) (hx : SlV w w.heap.size v xs) (hy : SlV w w.heap.size u ys) (hl : xs.length ≤ 1000000) : Calls Tryz.prog 233 #[v, u] w (BoolPost (decide (xs = ys)) w) := by
  obtain ⟨A, c, rfl, hc, hi⟩ := hx
  obtain ⟨B, d, rfl, hd, hj⟩ := hy
  by_cases hlen : xs.length = ys.length
  · have HA := Lib.hid hi
    have HB := Lib.hid hj
    have HLEN : Hid ((xs.length : Int) ≤ 1000000) := Lib.hid (by omega)
    have HL := Lib.hid hlen
    rw [← hlen]
    clear hc hi hd hj hl hlen
    go_enter Tryz.func233, Tryz.ntmps233
    go_wp2_with fail
    go_loopw [5, 13] (fun z i wr => ∃ k : Nat, i = .int .i64 k ∧ k ≤ xs.length ∧ xs.take k = ys.take k ∧ Below w.heap.size w wr) (fun _ i _ => xs.length - (intOf i).toNat)
    case atStart => exact ⟨0, rfl, Nat.zero_le _, rfl, Below.refl _ _⟩
    case round =>
      obtain ⟨k, rfl, hk, he, hw⟩ := hrel
      have HE := Lib.hid he
      have HW := Lib.hid hw
      have hlm := HLEN.out
      clear he
      by_cases hlt : k < xs.length
      · obtain ⟨a, x, rfl, ha, hp, h0⟩ := ints_round HA.out hw hlt
        obtain ⟨b, y, rfl, hb, hq, h1⟩ := ints_round HB.out hw (by rw [← HL.out]; exact hlt)
        have hlt' : (k : Int) < xs.length := by omega
        have HP := Lib.hid hp
        have HQ := Lib.hid hq
        have HA0 : Hid ((a.add k).block < wr.heap.size) := Lib.hid (by rw [add_block]; exact Nat.lt_of_lt_of_le ha hw.size)
        have HB0 : Hid ((b.add k).block < wr.heap.size) := Lib.hid (by rw [add_block]; exact Nat.lt_of_lt_of_le hb hw.size)
        have H0 := Lib.hid h0
        have H1 := Lib.hid h1
        clear hp hq hw ha hb h0 h1
        by_cases hxy : x = y
        · subst hxy
          have hn : (x != x) = false := by simp
          go_wp2_with fail
          refine wp_region_past (fun W => W.cell? (a.add k) = some (.int .i64 x) ∧ W.cell? (b.add k) = some (.int .i64 x) ∧ Below wr.heap.size wr W) ⟨H0.out, H1.out, Below.refl _ _⟩ (by kernel_rfl) ?_
          intro W ⟨f1, f2, f3⟩ hbw
          have y0 := cell_past f1 (Nat.lt_of_lt_of_le HA0.out f3.size)
          have y1 := cell_past f2 (Nat.lt_of_lt_of_le HB0.out f3.size)
          repeat (go_big_quiet_step (fail))
          refine wpQuiet_nil ?_
          intro _ hw'
          obtain ⟨xw, rfl⟩ := hw'
          have HBY := Lib.hid (HW.out.trans ((f3.trans (xw.b.mono f3.size)).mono HW.out.size))
          clear y0 y1 f1 f2 f3 hbw
          generalize xw.w = wy at *
          go_wp2_with fail
          go_roundw
          case rel => exact ⟨k + 1, by go_num, by omega, by rw [take_one HP.out, take_one HQ.out, HE.out], HBY.out⟩
          case measure => simp [intOf]; omega
        · have hn : (x != y) = true := by simp [hxy]
          have HN : Hid (decide (xs = ys) = false) := Lib.hid (by
            rw [decide_eq_false_iff_not]; rintro rfl
            rw [HP.out] at HQ; exact hxy (Option.some.inj HQ.out))
          clear hxy
          go_wp2_with fail
          refine wp_region_past (fun W => W.cell? (a.add k) = some (.int .i64 x) ∧ W.cell? (b.add k) = some (.int .i64 y) ∧ Below wr.heap.size wr W) ⟨H0.out, H1.out, Below.refl _ _⟩ (by kernel_rfl) ?_
          intro W ⟨f1, f2, f3⟩ hbw
          have y0 := cell_past f1 (Nat.lt_of_lt_of_le HA0.out f3.size)
          have y1 := cell_past f2 (Nat.lt_of_lt_of_le HB0.out f3.size)
          repeat (go_big_quiet_step (fail))
          refine wpQuiet_nil ?_
          intro _ hw'
          obtain ⟨xw, rfl⟩ := hw'
          have HBY := Lib.hid (HW.out.trans ((f3.trans (xw.b.mono f3.size)).mono HW.out.size))
          clear y0 y1 f1 f2 f3 hbw
          generalize xw.w = wy at *
          go_wp2_with fail
          go_ret
          exact ⟨by rw [HN.out]; rfl, HBY.out⟩
      · have hlt' : ¬ (k : Int) < xs.length := by omega
        have HN : Hid (decide (xs = ys) = true) := Lib.hid (by
          have e := HE.out
          rw [List.take_of_length_le (by omega), List.take_of_length_le (by have := HL.out; omega)] at e
          exact decide_eq_true e)
        clear hw
        go_wp2_with fail
        go_ret
        exact ⟨by rw [HN.out]; rfl, HW.out⟩
  · have HN : Hid (decide (xs = ys) = false) := Lib.hid (by rw [decide_eq_false_iff_not]; rintro rfl; exact hlen rfl)
    have hne : ((xs.length : Int) != (ys.length : Int)) = true := by
      rw [bne_iff_ne]; omega
    have hne' : ¬ ((xs.length : Int) = (ys.length : Int)) := by omega
    clear hc hi hd hj hl hlen
    go_enter Tryz.func233, Tryz.ntmps233
    go_wp2_with fail
    all_goals exact bodyPost_ret (v := .bool false) (by simp [results, Tryz.results233, go_sem]) rfl ⟨by rw [HN.out], Below.refl _ _⟩
set_option maxRecDepth 100000 in
set_option maxHeartbeats 2000000 in
theorem tsame2_any (n m : ByteArray) (xs ys : Ws) (v u : Value) (w : World) (hx : RefV w w.heap.size v n xs) (hy : RefV w w.heap.size u m ys) (hl : xs.length ≤ 1000000) : Calls Tryz.prog 176 #[v, u] w (BoolPost (decide (n = m ∧ xs = ys)) w) := by
  obtain ⟨A, c, rfl, hc, hi⟩ := hx
  obtain ⟨B, d, rfl, hd, hj⟩ := hy
  obtain ⟨x1, x2, x3, x4⟩ := BxR.both w (.string n) (.slice A xs.length c) (.string m) (.slice B ys.length d)
  have CALL : Hid (Calls Tryz.prog 233 #[.slice A xs.length c, .slice B ys.length d] ((w.alloc (.cells #[.string n, .slice A xs.length c] 43 (0, 0))).alloc (.cells #[.string m, .slice B ys.length d] 43 (0, 0))) (BoolPost (decide (xs = ys)) ((w.alloc (.cells #[.string n, .slice A xs.length c] 43 (0, 0))).alloc (.cells #[.string m, .slice B ys.length d] 43 (0, 0))))) :=
    Lib.hid (equal_any xs ys _ _ _ ⟨A, c, rfl, hc, hi.stay x3⟩ ⟨B, d, rfl, hd, hj.stay x3⟩ hl)
  have hs := str_eq n m
  have B0 := Lib.hid x3
  clear hc hd hi hj x1 x2 x3 x4 hl
  by_cases hnm : n = m
  · have HV : Hid (decide (n = m ∧ xs = ys) = decide (xs = ys)) := Lib.hid (by simp [hnm])
    rw [decide_eq_true hnm] at hs
    clear hnm
    go_enter Tryz.func176, Tryz.ntmps176
    go_wp2_with fail
    refine CALL.out.mono ?_
    rintro e w1 ⟨rfl, hb1⟩
    have HB := Lib.hid (B0.out.trans (hb1.mono B0.out.size))
    clear hb1 CALL
    go_wp2_with fail
    exact bodyPost_ret (v := .bool (decide (xs = ys))) (by simp [results, Tryz.results176, go_sem]) rfl ⟨by rw [HV.out], HB.out⟩
  · have HV : Hid (decide (n = m ∧ xs = ys) = false) := Lib.hid (by simp [hnm])
    rw [decide_eq_false hnm] at hs
    clear hnm
    go_enter Tryz.func176, Tryz.ntmps176
    go_wp2_with fail
    all_goals exact bodyPost_ret (v := .bool false) (by simp [results, Tryz.results176, go_sem]) rfl ⟨by rw [HV.out], B0.out⟩
theorem append_I {w : World} {ops : Array Oper} {rest : List Oper} {o : Oper} {a : Act} {Q : Exit → Act → World → Prop} (hgd : o.guard = none) (s x : Operand)
    (ho : o.op = .call { callee := .builtin .append, args := #[s, x], argTypes := #[41, 41] }) (base : Nat) (v : Value) (ss : Ws) (hs : a.eval s = v) (hown : OwnI w base v ss)
    (ad : Addr) (c : Nat) (p : Int) (hx : a.eval x = .slice (some ad) 1 c) (hnews : w.cell? ad = some (.int .i64 p)) (had : ad.add 0 = ad)
    (hlen : ss.length ≤ 1000000) (hbase : base ≤ w.heap.size)
    (h : ∀ v' w', OwnI w' base v' (ss ++ [p]) → w.grownBy w' v.ownBlock → wpList Tryz.prog ops Q rest (a.put o.dst v') w') : wpList Tryz.prog ops Q (o :: rest) a w := by
  obtain ⟨i0, hi, hz0, hz1, hz2⟩ := infoIp
  refine wpList_append_own w hgd s x 41 ho base 3 i0 (.int .i64 0) 1 8 Tryz.underlying41 hi hz0 hz1 hz2 rfl (by decide) v ss.length _ hs hown ad 1 c [.int .i64 p] hx rfl ?_ ?_ (by unfold maxLen; omega) (by omega) hbase ?_
  · intro j u hj
    cases j with
    | zero => cases hj; rw [had]; exact hnews
    | succ j => simp at hj
  · intro u hu
    simp at hu; subst hu; rfl
  · intro v' w' h1 h2 _
    refine h v' w' ?_ h2
    unfold OwnI
    rw [List.length_append, inC_app]
    exact h1
theorem str_one {xs : Ws} {k : Nat} {x : Int} (h : xs[k]? = some x) : strL (xs.take (k + 1)) = if x = 1 then strL (xs.take k) else strL (xs.take k) ++ [x] := by
  rw [take_one h, str_app]
  by_cases hx : x = 1
  · subst hx; rw [if_pos rfl]; show _ ++ [] = _; rw [List.append_nil]
  · rw [if_neg hx]; simp [strL, hx]
theorem str_le (xs : Ws) : (strL xs).length ≤ xs.length := List.length_filter_le _ _
theorem str_take_le (xs : Ws) (k : Nat) : (strL (xs.take k)).length ≤ xs.length := Nat.le_trans (str_le _) (by rw [List.length_take]; omega)
set_option maxRecDepth 100000 in
set_option maxHeartbeats 2000000 in
theorem without_any (xs : Ws) (v0 : Value) (w : World) (h : SlV w w.heap.size v0 xs) (hl : xs.length ≤ 900000) : Calls Tryz.prog 183 #[v0] w fun e w' => (∃ u, e = .returned u ∧ OwnI w' w.heap.size u (strL xs)) ∧ Below w.heap.size w w' := by
  obtain ⟨A, c0, rfl, hc, hi⟩ := h
  have HI := Lib.hid hi
  have hle : w.heap.size ≤ w.heap.size := Nat.le_refl _
  have HLE := Lib.hid hle
  clear hc hi hle
  have HLEN : Hid ((xs.length : Int) ≤ 900000) := Lib.hid (by omega)
  go_enter Tryz.func183, Tryz.ntmps183
  go_wp2_with fail
  go_loopw [3, 5, 8] (fun v _ i wr => ∃ k : Nat, i = .int .i64 k ∧ k ≤ xs.length ∧ OwnI wr w.heap.size v (strL (xs.take k)) ∧ Below w.heap.size w wr) (fun _ _ i _ => xs.length - (intOf i).toNat)
  case atStart => exact ⟨0, rfl, Nat.zero_le _, OwnI.nil _ _, Below.refl _ _⟩
  case round =>
    obtain ⟨k, rfl, hk, hown, hb⟩ := hrel
    have HO := Lib.hid hown
    have HB := Lib.hid hb
    have hlm := HLEN.out
    clear hown
    by_cases hlt : k < xs.length
    · obtain ⟨a, x, rfl, ha, hp, h0⟩ := ints_round HI.out hb hlt
      have hlt' : (k : Int) < xs.length := by omega
      have hs := str_one hp
      have HKL := Lib.hid (str_take_le xs k)
      clear hp hb ha
      by_cases hx : x = 1
      · subst hx
        rw [if_pos rfl] at hs
        have HS := Lib.hid hs
        clear hs
        go_wp2_with fail
        go_roundw
        case rel => exact ⟨k + 1, by go_num, by omega, by rw [HS.out]; exact HO.out, HB.out⟩
        case measure => simp [intOf]; omega
      · rw [if_neg hx] at hs
        have HS := Lib.hid hs
        have hxb : (x != 1) = true := by simp [hx]
        clear hs
        go_wp2_with (at_builtin; refine append_I rfl (.tmp 14) (.tmp 16) rfl w.heap.size _ _ rfl ((HO.out).stay ((Below.refl _ _).alloc (Nat.le_refl _) _)) ⟨wr.heap.size, 0, none⟩ 1 x rfl (by simp) rfl (by have := HKL.out; have := HLEN.out; omega) (by have := HB.out.size; simp; omega) ?_; intro v' w1 hv hg; have HV := Lib.hid hv; have HG := Lib.hid ((HB.out.alloc HB.out.size _).grown hg (by have := HB.out.size; simp; omega) (fun g hg => (HO.out.lt g hg).1)); clear hv hg)
        go_roundw
        case rel => exact ⟨k + 1, by go_num, by omega, by rw [HS.out]; exact HV.out, HG.out⟩
        case measure => simp [intOf]; omega
    · have hlt' : ¬ (k : Int) < xs.length := by omega
      have HT : Hid (xs.take k = xs) := Lib.hid (List.take_of_length_le (by omega))
      clear hb
      go_wp2_with fail
      go_ret
      exact ⟨⟨_, rfl, by have := HO.out; rw [HT.out] at this; exact this⟩, HB.out⟩
theorem without_sl (xs : Ws) (v0 : Value) (w : World) (h : SlV w w.heap.size v0 xs) (hl : xs.length ≤ 900000) : Calls Tryz.prog 183 #[v0] w (SlPost (strL xs) w) :=
  (without_any xs v0 w h hl).mono fun _ _ ⟨⟨u, e, hu⟩, hb⟩ => ⟨⟨u, e, hu.sl⟩, hb⟩
end Go.Proofs.YtbacimfbjpimbaaGreatDoor.K
namespace Go.Proofs.YtbacimfbjpimbaaGreatDoor.K
open Go.RowKit Go.Shelf
attribute [local go_sem] Oper.semAt_some
theorem cells_turn {W W' : World} {row : Option Nat} {k : Nat} {c : Array Value} {e : TypeId} {f : Nat × Nat} (h : W.heap[k]? = some (.cells c e f)) (hg : W.grownBy W' row) (hr : ∀ r, row = some r → ∃ o : Obj, W.heap[r]? = some o ∧ o.isCells = false) : W'.heap[k]? = some (.cells c e f) := by
  have hlt : k < W.heap.size := by
    rcases Nat.lt_or_ge k W.heap.size with h' | h'
    · exact h'
    · rw [Array.getElem?_eq_none h'] at h; cases h
  refine (hg.block k hlt (fun e => ?_)).trans h
  obtain ⟨o, ho, hc⟩ := hr k e.symm
  rw [h] at ho; cases ho; cases hc
theorem BD.any {B b : Nat} {l : List UInt8} {w w' : World} (h : BD B b l w) (hb : ∀ (k : Nat) (c : Array Value) (e : TypeId) (f : Nat × Nat), w.heap[k]? = some (Obj.cells c e f) → w'.heap[k]? = some (Obj.cells c e f)) : BD B b l w' := by
  have key : ∀ {p : Value}, Lib.BuilderAtF 57 5 B b p (Lib.byteCells l) w → Lib.BuilderAtF 57 5 B b p (Lib.byteCells l) w' := by
    intro p h
    obtain ⟨hB, v, hbk, hown, hne⟩ := h
    refine ⟨hB, v, hb _ _ _ _ hbk, ⟨hown.1, hown.2.imp id ?_⟩, hne⟩
    rintro ⟨g, cap, cur, fz, e1, e2, e3, r⟩
    exact ⟨g, cap, cur, fz, e1, e2, hb _ _ _ _ e3, r⟩
  exact h.imp key key
theorem BD.stay {B b : Nat} {l : List UInt8} {w w' : World} (h : BD B b l w) (hb : Below w.heap.size w w') : BD B b l w' :=
  BD.any h fun k c e f hk => by
    have hlt : k < w.heap.size := by
      rcases Nat.lt_or_ge k w.heap.size with h' | h'
      · exact h'
      · rw [Array.getElem?_eq_none h'] at hk; cases hk
    exact (hb.block k hlt).trans hk
theorem BD.lt {B b : Nat} {l : List UInt8} {w : World} (h : BD B b l w) : b < w.heap.size := by
  have key : ∀ {p v : Value}, w.heap[b]? = some (Obj.cells #[p, v] 57 (0, 0)) → b < w.heap.size := by
    intro p v hbk
    rcases Nat.lt_or_ge b w.heap.size with h' | h'
    · exact h'
    · rw [Array.getElem?_eq_none h'] at hbk; cases hbk
  rcases h with h | h
  · obtain ⟨_, v, hbk, _⟩ := h; exact key hbk
  · obtain ⟨_, v, hbk, _⟩ := h; exact key hbk
theorem BD.fresh (w : World) : BD w.heap.size w.heap.size [] (w.alloc (.cells #[.pointer none, .slice none 0 0] 57 (0, 0))) :=
  .inl ⟨Nat.le_refl _, .slice none 0 0, heap_alloc_new _ _, ⟨rfl, .inl ⟨rfl, rfl⟩⟩, fun e => by cases e⟩
theorem keepsFrom_others {e : TypeId} {b B : Nat} {W W' : World} (h : Lib.OthersKept e (some b) W W') (hs : W.heap.size ≤ W'.heap.size) (hb : b < B) : KeepsFrom B W W' :=
  ⟨hs, fun k o hk ho hc => h k o ho (fun e => by cases e; omega) (fun c fz e => by subst e; cases hc)⟩
theorem pr_app (n : List UInt8) (xs : Ws) : prL n xs = List.replicate (strL xs).length 91 ++ n ++ (bwL xs xs.length).map (fun p => endB p.2) := by
  unfold prL; rw [← bw_all, List.map_map]; rfl
theorem rep_eq (k : Nat) : Lib.repeatL [91] k = List.replicate k (91 : UInt8) := by
  induction k with
  | zero => rfl
  | succ k ih => first | (simp [Lib.repeatL, List.replicate_succ] at *; done) | (rw [List.replicate_succ, ← ih]; rfl)
set_option maxRecDepth 100000 in
set_option maxHeartbeats 2000000 in
theorem tprint_any (n : ByteArray) (xs : Ws) (v : Value) (w : World) (h : RefV w w.heap.size v n xs) (hn : n.size ≤ 1000000000) (hl : xs.length ≤ 900000) : Calls Tryz.prog 129 #[v] w fun e w' => e = .returned (.string ⟨(prL n.data.toList xs).toArray⟩) ∧ Below w.heap.size w w' := by
  refine (callsIn_wide (n := 5)).1 ?_
  obtain ⟨A, c, rfl, hc, hi⟩ := h
  have X : Hid (BxR (w.alloc (.cells #[.string n, .slice A xs.length c] 43 (0, 0))) w.heap.size (.string n) (.slice A xs.length c)) := Lib.hid (BxR.new w _ _)
  have hb0 := (Below.refl w.heap.size w).alloc (Nat.le_refl _) (.cells #[.string n, .slice A xs.length c] 43 (0, 0))
  have HC := Lib.hid hc
  have HL := Lib.hid hl
  have HN := Lib.hid hn
  have I := Lib.hid (hi.stay hb0)
  have B0 := Lib.hid hb0
  have I00 := Lib.hid hi
  clear hc hi hl hn hb0
  refine callsIn_of_wp_marks Tryz.func129 rfl trivial ?_ rfl
  simp only [Tryz.ntmps129, List.size_toArray, List.length_cons, List.length_nil, Nat.reduceAdd, Nat.reduceSub, Array.replicate_succ, Array.replicate_zero, List.push_toArray, List.append_toArray, List.nil_append, List.cons_append]
  gi_wp2_with fail
  have hb1 := (Below.refl (w.heap.size + 1) (w.alloc (.cells #[.string n, .slice A xs.length c] 43 (0, 0)))).alloc (by simp) (.cells #[.pointer none, .slice none 0 0] 57 (0, 0))
  have BDF := Lib.hid (BD.fresh (w.alloc (.cells #[.string n, .slice A xs.length c] 43 (0, 0))))
  have hz : (w.alloc (.cells #[.string n, .slice A xs.length c] 43 (0, 0))).heap.size = w.heap.size + 1 := by simp
  have HB1 := Lib.hid hb1
  rw [hz] at BDF
  have HZ := Lib.hid hz
  clear hb1 hz
  generalize (w.alloc (.cells #[.string n, .slice A xs.length c] 43 (0, 0))) = W0 at *
  have I1 : Hid (IntsAt (W0.alloc (.cells #[.pointer none, .slice none 0 0] 57 (0, 0))) (W0.alloc (.cells #[.pointer none, .slice none 0 0] 57 (0, 0))).heap.size A xs) := Lib.hid (I.out.stay ((Below.refl _ _).alloc (Nat.le_refl _) _))
  have hsz : w.heap.size + 1 ≤ W0.heap.size := by have := HZ.out; omega
  have X1 : Hid (BxR (W0.alloc (.cells #[.pointer none, .slice none 0 0] 57 (0, 0))) w.heap.size (.string n) (.slice A xs.length c)) := Lib.hid (X.out.alloc _)
  have B1 : Hid (Below w.heap.size w (W0.alloc (.cells #[.pointer none, .slice none 0 0] 57 (0, 0)))) := Lib.hid (B0.out.alloc B0.out.size _)
  have BW : Hid (w.heap.size + 1 < (W0.alloc (.cells #[.pointer none, .slice none 0 0] 57 (0, 0))).heap.size) := Lib.hid (by have := HZ.out; simp; omega)
  clear hsz HB1 X I B0
  generalize (W0.alloc (.cells #[.pointer none, .slice none 0 0] 57 (0, 0))) = W1 at *
  have hcall := without_sl xs (.slice A xs.length c) W1 ⟨A, c, rfl, HC.out, I1.out⟩ HL.out
  have hpl := str_le xs
  have hpr := pr_app n.data.toList xs
  generalize strL xs = ss at hcall hpl hpr
  refine ⟨trivial, (callsIn_wide.2 hcall).mono ?_⟩
  clear hcall
  rintro e w2 ⟨⟨u, rfl, A2, c2, rfl, _, _⟩, hb2⟩
  have HPL := Lib.hid hpl
  have HPR := Lib.hid hpr
  replace BDF := Lib.hid (BD.stay BDF.out hb2)
  have I2 := Lib.hid (I1.out.stay hb2)
  replace X1 := Lib.hid (X1.out.stay hb2)
  replace B1 := Lib.hid (B1.out.trans (hb2.mono B1.out.size))
  replace BW := Lib.hid (Nat.lt_of_lt_of_le BW.out hb2.size)
  clear hb2 hpl hpr I1
  gi_wp2_with fail
  refine ⟨trivial, (callsIn_wide.2 (Tryz.strings_Repeat ⟨#[91]⟩ ss.length _ (by have := HPL.out; have := HL.out; omega) (by have := HPL.out; have := HL.out; show 1 * _ ≤ _; omega))).mono ?_⟩
  rintro e w3 ⟨rfl, hb2⟩
  rw [show Lib.repeatL (⟨#[91]⟩ : ByteArray).data.toList ss.length = List.replicate ss.length 91 from rep_eq _]
  replace BDF := Lib.hid (BD.stay BDF.out hb2)
  replace I2 := Lib.hid (I2.out.stay hb2)
  replace X1 := Lib.hid (X1.out.stay hb2)
  replace B1 := Lib.hid (B1.out.trans (hb2.mono B1.out.size))
  replace BW := Lib.hid (Nat.lt_of_lt_of_le BW.out hb2.size)
  clear hb2
  have HRS : Hid ((⟨(List.replicate ss.length (91 : UInt8)).toArray⟩ : ByteArray).size = ss.length) := Lib.hid (by show (List.replicate ss.length (91 : UInt8)).toArray.size = _; simp)
  have HRD : Hid ((⟨(List.replicate ss.length (91 : UInt8)).toArray⟩ : ByteArray).data.toList = List.replicate ss.length 91) := Lib.hid (by simp)
  generalize (⟨(List.replicate ss.length (91 : UInt8)).toArray⟩ : ByteArray) = rs at *
  gi_wp2_with fail
  refine ⟨trivial, (callsIn_wide.2 (writeString_any (w.heap.size + 1) (w.heap.size + 1) [] rs w3 BDF.out (by have := HRS.out; have := HPL.out; have := HL.out; simp; omega) (by have := BW.out; omega))).mono ?_⟩
  rintro e w4 ⟨rfl, hbd, hb2, hoth⟩
  replace BDF := Lib.hid hbd
  replace X1 := Lib.hid (X1.out.kept (hb2.block _ (Nat.lt_succ_self _)))
  replace B1 := Lib.hid (B1.out.trans (hb2.mono (Nat.le_succ _)))
  replace BW := Lib.hid (Nat.lt_of_lt_of_le BW.out hb2.size)
  have q0 := X1.out.cells.1
  have q1 := X1.out.cells.2
  clear hbd hb2 hoth I2
  gi_wp2_with fail
  refine ⟨trivial, (callsIn_wide.2 (writeString_any (w.heap.size + 1) (w.heap.size + 1) _ n w4 BDF.out (by have := HRS.out; have := HRD.out; have := HPL.out; have := HL.out; have := HN.out; simp only [List.nil_append]; rw [HRD.out, List.length_replicate]; omega) (by have := BW.out; omega))).mono ?_⟩
  rintro e w5 ⟨rfl, hbd, hb2, hoth⟩
  replace BDF := Lib.hid hbd
  replace X1 := Lib.hid (X1.out.kept (hb2.block _ (Nat.lt_succ_self _)))
  replace B1 := Lib.hid (B1.out.trans (hb2.mono (Nat.le_succ _)))
  replace BW := Lib.hid (Nat.lt_of_lt_of_le BW.out hb2.size)
  replace q0 := X1.out.cells.1
  replace q1 := X1.out.cells.2
  clear hbd hb2 hoth
  gi_wp2_with fail
  refine ⟨trivial, (bwd_in Fence.wide _ trivial rfl _ _ _ _).mono ?_⟩
  rintro e w6 ⟨rfl, hw6⟩
  have hbx : w6.heap[w5.heap.size]? = some (Obj.cells #[.slice A xs.length c] 41 (0, 0)) := by rw [hw6]; exact heap_alloc_new _ _
  have hb6 : Below w5.heap.size w5 w6 := by rw [hw6]; exact (Below.refl _ _).alloc (Nat.le_refl _) _
  have hs6 : w6.heap.size = w5.heap.size + 1 := by rw [hw6]; simp
  clear hw6 q0 q1
  replace BDF := Lib.hid (BD.stay BDF.out hb6)
  replace B1 := Lib.hid (B1.out.trans (hb6.mono B1.out.size))
  have HBX := Lib.hid hbx
  have HS6 := Lib.hid hs6
  clear hbx hb6 hs6 X1
  gi_wp2_with fail
  have HI6 : Hid (IntsAt w6 w.heap.size A xs) := Lib.hid (I00.out.kept B1.out)
  have hcb : w6.cell? ⟨w5.heap.size, 0, none⟩ = some (.slice A xs.length c) := by
    rw [cell_of_row _ _ _ _ _ _ HBX.out]; rfl
  have HCB := Lib.hid hcb
  have HBL : Hid (([] ++ rs.data.toList ++ n.data.toList : List UInt8).length ≤ 1000900000) := Lib.hid (by
    rw [List.nil_append, List.length_append, HRD.out, List.length_replicate, T1.size_eq]; have := HPL.out; have := HL.out; have := HN.out; omega)
  clear hcb
  generalize hbs : ([] ++ rs.data.toList ++ n.data.toList : List UInt8) = base at *
  have HBS := Lib.hid hbs
  clear hbs
  refine wpIn_rangeFunc_ownG rfl (by omega) (gf := 240) (lb := #[.pointer (some ⟨w5.heap.size, 0, none⟩)]) rfl trivial (enters_of Tryz.func240 (by kernel_rfl) rfl)
    (bwd_stops Fence.wide (5 - 1) trivial rfl (by omega) w5.heap.size w.heap.size A c xs (by have := HL.out; omega) w6 (by have := HS6.out; omega) B1.out.size HCB.out HI6.out) KpB.trans (fun W l o o' hl ho hc hwk => ⟨belowK_b (w := w6) B1.out.size W l o o' hl ho hc hwk, World.putObj_heap_other (fun e => by have := HS6.out; omega)⟩) (Below.refl _ _) (fun _ => rfl)
    (fun pre W => (BD (w.heap.size + 1) (w.heap.size + 1) (base ++ pre.map (fun p => endB p.2)) W ∧ W.heap[w5.heap.size]? = some (Obj.cells #[.slice A xs.length c] 41 (0, 0))) ∧ Below w.heap.size w W)
    (fun _ _ _ => False)
    (OwnFrom.and (fun s W W' row hs hg hr => ⟨BD.any hs.1 (fun k c e f hk => cells_turn hk hg (fun r e => (hr r e).2)), cells_turn hs.2 hg (fun r e => (hr r e).2)⟩) (ownFrom_below (Nat.le_refl _) B1.out.size))
    (fun _ _ _ _ _ hs _ _ => hs)
    ⟨⟨by rw [List.map_nil, List.append_nil]; exact BDF.out, HBX.out⟩, B1.out⟩
    (fun x => { tmps := #[.agg #[.string n, .slice A xs.length c], .pointer (some ⟨w.heap.size, 0, none⟩), .string ⟨#[]⟩, .pointer (some ⟨w.heap.size + 1, 0, none⟩), undef, .int .i64 x.2, .pointer (some ⟨w.heap.size, 1, none⟩), .slice A xs.length c, .slice A2 ss.length c2, .int .i64 ss.length, .string rs, .tuple #[.int .i64 rs.size, .nilIface], .pointer (some ⟨w.heap.size, 0, none⟩), .string n, .tuple #[.int .i64 n.size, .nilIface], .pointer (some ⟨w.heap.size, 1, none⟩), .slice A xs.length c, .func (.func 240) #[] #[.pointer (some ⟨w5.heap.size, 0, none⟩)], .int .i64 x.1, .int .i64 x.2, undef, undef, undef, undef, undef], defers := [] }) ?assign ?body ?done ?stop
  case assign =>
    intro l x W K hK
    gi_wp2
    exact hK
  case body =>
    rintro l pre x W ⟨⟨hbd, hbx⟩, hB⟩ hlen
    have hpl : pre.length ≤ 900000 := by have := HL.out; omega
    by_cases hx : x.2 = 1
    · have HX := Lib.hid hx
      have hxb : (x.2 == 1) = true := by simp [hx]
      clear hx
      gi_wp2_with fail
      refine ⟨trivial, (CallsIn.inRound l (callsIn_wide.2 (writeString_any (w.heap.size + 1) (w.heap.size + 1) _ ⟨#[33]⟩ W hbd (by have h5 := HBL.out; have h6 := HL.out; simp only [List.length_append, List.length_map]; show _ + 1 ≤ _; omega) (by have := BD.lt hbd; omega)))).mono ?_⟩
      rintro e W2 ⟨rfl, hbd2, hb2, hoth⟩
      have HBD2 := Lib.hid hbd2
      have HB2 := Lib.hid hb2
      have HO2 := Lib.hid hoth
      have HBDX := Lib.hid hbx
      have HBB := Lib.hid hB
      clear hbd2 hb2 hoth hbx hB hbd
      gi_wp2_with fail
      refine ⟨keepsFrom_others HO2.out HB2.out.size (by have := BW.out; have := HS6.out; omega), ⟨HB2.out.mono (Nat.le_succ _), (HO2.out _ _ HBDX.out (fun e => by have := BW.out; have h8 := Option.some.inj e; omega) (fun c fz e => by injection e with _ e2 _; exact absurd e2 (by decide))).trans HBDX.out.symm⟩, ⟨?_, HO2.out _ _ HBDX.out (fun e => by have := BW.out; have h8 := Option.some.inj e; omega) (fun c fz e => by injection e with _ e2 _; exact absurd e2 (by decide))⟩, HBB.out.trans (HB2.out.mono (Nat.le_succ _))⟩
      have h7 := HBD2.out
      rw [List.map_append, ← List.append_assoc]
      rw [show List.map (fun p : Int × Int => endB p.2) [x] = [33] by show [endB x.2] = _; unfold endB; rw [if_pos HX.out]]
      exact h7
    · have HX := Lib.hid hx
      have hxb : (x.2 == 1) = false := by simp [hx]
      clear hx
      gi_wp2_with fail
      refine ⟨trivial, (CallsIn.inRound l (callsIn_wide.2 (writeString_any (w.heap.size + 1) (w.heap.size + 1) _ ⟨#[93]⟩ W hbd (by have h5 := HBL.out; have h6 := HL.out; simp only [List.length_append, List.length_map]; show _ + 1 ≤ _; omega) (by have := BD.lt hbd; omega)))).mono ?_⟩
      rintro e W2 ⟨rfl, hbd2, hb2, hoth⟩
      have HBD2 := Lib.hid hbd2
      have HB2 := Lib.hid hb2
      have HO2 := Lib.hid hoth
      have HBDX := Lib.hid hbx
      have HBB := Lib.hid hB
      clear hbd2 hb2 hoth hbx hB hbd
      gi_wp2_with fail
      refine ⟨keepsFrom_others HO2.out HB2.out.size (by have := BW.out; have := HS6.out; omega), ⟨HB2.out.mono (Nat.le_succ _), (HO2.out _ _ HBDX.out (fun e => by have := BW.out; have h8 := Option.some.inj e; omega) (fun c fz e => by injection e with _ e2 _; exact absurd e2 (by decide))).trans HBDX.out.symm⟩, ⟨?_, HO2.out _ _ HBDX.out (fun e => by have := BW.out; have h8 := Option.some.inj e; omega) (fun c fz e => by injection e with _ e2 _; exact absurd e2 (by decide))⟩, HBB.out.trans (HB2.out.mono (Nat.le_succ _))⟩
      have h7 := HBD2.out
      rw [List.map_append, ← List.append_assoc]
      rw [show List.map (fun p : Int × Int => endB p.2) [x] = [93] by show [endB x.2] = _; unfold endB; rw [if_neg HX.out]]
      exact h7
  case done =>
    rintro D ys W hD rfl ⟨⟨hbd, hbx⟩, hB⟩ hK
    have HB := Lib.hid hB
    have HK := Lib.hid hK
    have HD := Lib.hid hD
    have hbl := BD.lt hbd
    have hstr := Tryz.Builder_String_any_k (w.heap.size + 1) (w.heap.size + 1) _ W hbd (by omega)
    rw [show base ++ List.map (fun p : Int × Int => endB p.2) (bwL xs xs.length) = prL n.data.toList xs by rw [HPR.out, ← HRD.out, ← HBS.out, List.nil_append]] at hstr
    clear hbd hbx hB hK hD hbl
    generalize hout : (⟨(prL n.data.toList xs).toArray⟩ : ByteArray) = out at *
    have HOUT := Lib.hid hout
    clear hout
    gi_wp2_with fail
    refine ⟨trivial, (callsIn_wide.2 hstr).mono ?_⟩
    rintro e W2 ⟨rfl, hbd2, hb2, hoth⟩
    have hK2 : W2.heap[D]? = some (.deferred (some [])) := hoth _ _ HK.out (fun e => by have := BW.out; have := HS6.out; have := HD.out; have h8 := Option.some.inj e; omega) (fun c fz e => by cases e)
    have HK2 := Lib.hid hK2
    have HB2 := Lib.hid (HB.out.trans (hb2.mono (Nat.le_succ _)))
    clear hstr hbd2 hb2 hoth hK2
    gi_wp2_with fail
    refine ⟨by simp, .inl ⟨_, _, rfl, run_takeDeferred HK2.out, ?_⟩⟩
    exact ⟨_, results_tmp rfl _ _ _, by rw [HOUT.out]; rfl, HB2.out.trans (belowK_b (w := w) (Nat.le_refl _) W2 D _ _ (by have := BW.out; have := HS6.out; have := HD.out; omega) HK2.out rfl rfl)⟩
  case stop =>
    rintro D c pre W _ _ h _
    exact h.elim
def StrPost (l : List UInt8) (w : World) (e : Ending) (w' : World) : Prop := e = .returned (.string ⟨l.toArray⟩) ∧ Below w.heap.size w w'
end Go.Proofs.YtbacimfbjpimbaaGreatDoor.K
