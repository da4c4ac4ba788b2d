
/-
  The text of tokens.
-/
import Derived.Test.YtpmahimlpajdcaaGreatDoorKList
import Derived.Test.YtpmahimlpajdcaaGreatDoorKFact3
namespace Go.Proofs.YtpmahimlpajdcaaGreatDoor
open Go.RowKit
def wordZ (p : Tz) : List UInt8 := if p.1 = 4 then T1.quoteL p.2.1 else p.2.1
def wordsZ (zs : List Tz) : List (List UInt8) := (zs.filter fun p => decide (p.1 ≠ 5)).map wordZ
def joinZ (zs : List Tz) : List UInt8 := Lib.join (wordsZ zs) [32]
theorem wordsZ_take (zs : List Tz) (k : Nat) (p : Tz) (h : zs[k]? = some p) : wordsZ (zs.take (k + 1)) = wordsZ (zs.take k) ++ (if p.1 = 5 then [] else [wordZ p]) := by
  have e : zs.take (k + 1) = zs.take k ++ [p] := by
    obtain ⟨h1, h2⟩ := List.getElem?_eq_some_iff.1 h
    rw [← h2]; exact (List.take_append_getElem h1).symm
  unfold wordsZ
  rw [e, List.filter_append, List.map_append]
  by_cases h5 : p.1 = 5
  · rw [if_pos h5]; simp [h5]
  · rw [if_neg h5]; simp [h5]
theorem wordsZ_le (zs : List Tz) (k : Nat) : (wordsZ (zs.take k)).length ≤ k := by
  unfold wordsZ
  rw [List.length_map]
  have h1 := List.length_filter_le (fun p : Tz => decide (p.1 ≠ 5)) (zs.take k)
  rw [List.length_take] at h1
  omega
theorem wordZ_le (p : Tz) (n : Nat) (h : p.2.1.length ≤ n) : (wordZ p).length ≤ 6 * n + 2 := by
  unfold wordZ
  split
  · have := T1.flat_len p.2.1
    unfold T1.quoteL
    simp only [List.length_cons, List.length_append, List.length_nil]
    omega
  · omega
theorem join_len (ws : List (List UInt8)) (n : Nat) (h : ∀ w ∈ ws, w.length ≤ n) : (Lib.join ws [32]).length ≤ ws.length * (n + 1) := by
  cases ws with
  | nil => exact Nat.zero_le _
  | cons x r =>
    rw [Lib.join_cons, List.length_append]
    have h1 : (Lib.joinTail [32] r).length ≤ r.length * (n + 1) := by
      have hr : ∀ w ∈ r, w.length ≤ n := fun w hw => h w (List.mem_cons_of_mem _ hw)
      clear h
      induction r with
      | nil => exact Nat.zero_le _
      | cons y r ih =>
        have e : Lib.joinTail [32] (y :: r) = 32 :: (y ++ Lib.joinTail [32] r) := by unfold Lib.joinTail; simp
        have h2 := ih (fun w hw => hr w (List.mem_cons_of_mem _ hw))
        have h3 := hr y List.mem_cons_self
        rw [e, List.length_cons, List.length_append, List.length_cons, Nat.add_mul]
        omega
    have h2 := h x List.mem_cons_self
    rw [List.length_cons, Nat.add_mul]
    omega
theorem join_K (ps : List Tk) (n : Nat) (h : ∀ p ∈ ps, p.1 ≠ 5) : joinZ (tz (ps ++ [(5, [], n)])) = joinK ps := by
  have e : wordsZ (tz (ps ++ [(5, [], n)])) = ps.map wordK := by
    unfold wordsZ tz
    rw [List.map_append, List.filter_append, List.filter_eq_self.2 (by
      intro p hp
      obtain ⟨q, hq, rfl⟩ := List.mem_map.1 hp
      exact decide_eq_true (h q hq)), List.map_append, List.map_map]
    simp
    intro a b c _
    rfl
  unfold joinZ
  rw [e]
  have ht : ∀ r : List Tk, Lib.joinTail [32] (r.map wordK) = tailK r := by
    intro r
    induction r with
    | nil => rfl
    | cons p r ih => rw [tailK, ← ih]; unfold Lib.joinTail; simp
  cases ps with
  | nil => rfl
  | cons p r => rw [List.map_cons, Lib.join_cons, ht]; rfl
structure ZOk (zs : List Tz) : Prop where
  len : zs.length ≤ 70000
  txt : ∀ p ∈ zs, p.2.1.length ≤ 70000
theorem ZOk.words {zs : List Tz} (h : ZOk zs) : ∀ w ∈ wordsZ zs, w.length ≤ 420002 := by
  intro w hw
  obtain ⟨p, hp, rfl⟩ := List.mem_map.1 hw
  exact wordZ_le p 70000 (h.txt p (List.mem_filter.1 hp).1)
theorem ZOk.join {zs : List Tz} (h : ZOk zs) : (joinZ zs).length ≤ 100000000000 := by
  have h1 := join_len (wordsZ zs) 420002 h.words
  have h2 := wordsZ_le zs zs.length
  rw [List.take_length] at h2
  have h3 := h.len
  have h4 : (wordsZ zs).length * (420002 + 1) ≤ 70000 * (420002 + 1) := Nat.mul_le_mul_right _ (by omega)
  unfold joinZ
  omega
theorem join_any (v : Value) (ss : List (List UInt8)) (w : World) (base : Nat) (h : OwnS w base v ss) (hl : ss.length ≤ 100000) (hj : (Lib.join ss [32]).length ≤ 100000000000) :
    Calls Tryz.prog 16 #[v, .string ⟨#[32]⟩] w fun e w' => e = .returned (.string ⟨(Lib.join ss [32]).toArray⟩) ∧ Below w.heap.size w w' := by
  have hh : w.ownsRow base 9 1 v ss.length (ss.map fun s => .string ⟨s.toArray⟩) := h
  have e1 : (ss.map fun s => (⟨s.toArray⟩ : ByteArray)).map (·.data.toList) = ss := by rw [List.map_map]; exact (List.map_congr_left (fun _ _ => rfl)).trans (List.map_id ss)
  rcases hh.2 with ⟨rfl, hz⟩ | ⟨g, cap, cur, rfl, h1, h2, h3⟩
  · have : ss = [] := by simpa using hz
    subst this
    refine (Tryz.strings_Join_none none 0 ⟨#[32]⟩ w).mono ?_
    rintro e w' ⟨rfl, rfl⟩
    exact ⟨rfl, Below.refl _ _⟩
  · have hlt := (World.ownsRow.lt hh g rfl).2
    have hcell := hh.cells (g := g) rfl
    have e : ∀ n, (⟨g, 0, none⟩ : Addr).add n = ⟨g, n, none⟩ := fun n => by unfold Addr.add; split <;> simp_all
    have C := Tryz.strings_Join g 0 cap (ss.map fun s => (⟨s.toArray⟩ : ByteArray)) ⟨#[32]⟩ w (fun j x hx => by
      rw [List.getElem?_map] at hx
      obtain ⟨s, hs, rfl⟩ := Option.map_eq_some_iff.1 hx
      have := hcell j (.string ⟨s.toArray⟩) (by rw [List.getElem?_map, hs]; rfl)
      rw [e] at this
      simpa using this) hlt (by rw [List.length_map]; omega) (by rw [List.length_map]; exact h3.1) (by rw [e1]; exact Nat.le_trans hj (by decide))
    rw [e1, List.length_map] at C
    exact C
set_option maxRecDepth 100000 in
set_option maxHeartbeats 4000000 in
theorem print_any (zs : List Tz) (hz : ZOk zs) (A : Option Addr) (c : Nat) (w : World) (h : ZAt w w.heap.size A zs) : Calls Tryz.prog 10 #[.slice A zs.length c] w fun e w' => e = .returned (.string ⟨(joinZ zs).toArray⟩) ∧ Below w.heap.size w w' := by
  have HA := Lib.hid h
  have HZ := Lib.hid hz
  have hlen := hz.len
  have HLEN : Hid ((zs.length : Int) ≤ 70000) := Lib.hid (by omega)
  clear h hz
  go_enter Tryz.func10, Tryz.ntmps10
  go_wp2_with fail
  go_loopw [3, 8] (fun v i wr => ∃ k : Nat, i = .int .i64 k ∧ k ≤ zs.length ∧ OwnS wr w.heap.size v (wordsZ (zs.take k)) ∧ Below w.heap.size w wr) (fun _ i _ => zs.length - (intOf i).toNat)
  case atStart => exact ⟨0, rfl, Nat.zero_le _, OwnS.nil _ _, Below.refl _ _⟩
  case round =>
    obtain ⟨k, rfl, hk, hown, hb⟩ := hrel
    have HO := Lib.hid hown
    have HB := Lib.hid hb
    clear hown hb
    by_cases hlt : k < zs.length
    · obtain ⟨a, kd, t, at', rfl, hp, h0, h1, h2⟩ := z_round HA.out HB.out hlt
      have hlt' : (k : Int) < zs.length := by omega
      have HW := Lib.hid (wordsZ_take zs k _ hp)
      have HWL := Lib.hid (wordsZ_le zs k)
      have htx : t.length ≤ 70000 := HZ.out.txt _ (List.mem_of_getElem? hp)
      have HTX := Lib.hid htx
      clear hp htx
      have hX : TB (wr.alloc (.cells #[.int .i64 kd, .string ⟨t.toArray⟩, .int .i64 at'] 34 (0, 0))) wr.heap.size (.int .i64 kd) (.string ⟨t.toArray⟩) (.int .i64 at') := heap_alloc_new wr _
      have hb1 := (Below.refl wr.heap.size wr).alloc (Nat.le_refl _) (.cells #[.int .i64 kd, .string ⟨t.toArray⟩, .int .i64 at'] 34 (0, 0))
      have HO1 := Lib.hid (HO.out.stay hb1)
      have HB1 := Lib.hid (HB.out.trans (hb1.mono HB.out.size))
      obtain ⟨x0, x1, x2⟩ := hX.cells
      have HXX := Lib.hid hX
      clear hb1 hX
      by_cases h5 : kd = 5
      · subst h5
        have HW1 : Hid (wordsZ (zs.take (k + 1)) = wordsZ (zs.take k)) := Lib.hid (by rw [HW.out]; simp)
        clear HW
        go_wp2_with fail
        go_roundw
        case rel => exact ⟨k + 1, by go_num, by omega, by rw [HW1.out]; exact HO1.out, HB1.out⟩
        case measure => simp [intOf]; omega
      · have n5 : (kd == 5) = false := beq_false_of_ne h5
        have HW1 : Hid (wordsZ (zs.take (k + 1)) = wordsZ (zs.take k) ++ [wordZ (kd, t, at')]) := Lib.hid (by rw [HW.out]; exact congrArg _ (if_neg h5))
        clear HW h5
        by_cases h4 : kd = 4
        · subst h4
          have CALL := Lib.hid (T1.quote_any ⟨t.toArray⟩ (wr.alloc (.cells #[.int .i64 4, .string ⟨t.toArray⟩, .int .i64 at'] 34 (0, 0))) (by rw [← T1.size_eq]; have := HTX.out; show t.toArray.toList.length ≤ _; simp; omega))
          go_wp2_with fail
          refine CALL.out.mono ?_
          rintro e w2 ⟨rfl, hb⟩
          have HB2 := Lib.hid (HB1.out.trans (hb.mono HB1.out.size))
          have hb3 := (Below.refl w2.heap.size w2).alloc (Nat.le_refl _) (.cells #[.string ⟨(T1.quoteL t).toArray⟩] 9 (0, 0))
          have HO2 := Lib.hid ((HO1.out.stay hb).stay hb3)
          have HB3 := Lib.hid (HB2.out.trans (hb3.mono HB2.out.size))
          have e8 : wordZ (4, t, at') = T1.quoteL t := rfl
          rw [e8] at HW1
          clear hb hb3 x0 x1 x2 e8 CALL
          generalize T1.quoteL t = qt at *
          go_wp2_with (at_builtin; refine append_S rfl _ _ rfl w.heap.size _ _ rfl HO2.out _ _ qt rfl ?_ rfl ?_ ?_ ?_)
          · simp
          · have := HWL.out; omega
          · have := HB2.out.size; simp; omega
          · intro v' w5 g1 g2
            have HO5 := Lib.hid g1
            have HB5 := Lib.hid (HB3.out.grown g2 HB3.out.size (fun g hg => (HO2.out.lt g hg).1))
            clear g1 g2
            go_wp2_with fail
            go_roundw
            case rel => exact ⟨k + 1, by go_num, by omega, by rw [HW1.out]; exact HO5.out, HB5.out⟩
            case measure => simp [intOf]; omega
        · have n4 : (kd == 4) = false := beq_false_of_ne h4
          have e8 : wordZ (kd, t, at') = t := if_neg h4
          rw [e8] at HW1
          have hb3 := (Below.refl (wr.alloc (.cells #[.int .i64 kd, .string ⟨t.toArray⟩, .int .i64 at'] 34 (0, 0))).heap.size (wr.alloc (.cells #[.int .i64 kd, .string ⟨t.toArray⟩, .int .i64 at'] 34 (0, 0)))).alloc (Nat.le_refl _) (.cells #[.string ⟨t.toArray⟩] 9 (0, 0))
          have HO2 := Lib.hid (HO1.out.stay hb3)
          have HB3 := Lib.hid (HB1.out.trans (hb3.mono HB1.out.size))
          clear hb3 e8 h4
          go_wp2_with (at_builtin; refine append_S rfl _ _ rfl w.heap.size _ _ rfl HO2.out _ _ t rfl ?_ rfl ?_ ?_ ?_)
          · simp
          · have := HWL.out; omega
          · have := HB1.out.size; simp at this; simp; omega
          · intro v' w5 g1 g2
            have HO5 := Lib.hid g1
            have HB5 := Lib.hid (HB3.out.grown g2 HB3.out.size (fun g hg => (HO2.out.lt g hg).1))
            clear g1 g2
            go_wp2_with fail
            go_roundw
            case rel => exact ⟨k + 1, by go_num, by omega, by rw [HW1.out]; exact HO5.out, HB5.out⟩
            case measure => simp [intOf]; omega
    · have hji : k = zs.length := by omega
      have hlt' : ¬ (k : Int) < zs.length := by omega
      have HW : Hid (wordsZ (zs.take k) = wordsZ zs) := Lib.hid (by rw [hji, List.take_length])
      have hwl := wordsZ_le zs zs.length
      rw [List.take_length] at hwl
      clear hji
      go_wp2_with fail
      rw [HW.out] at HO
      refine (join_any _ _ _ _ HO.out (by omega) HZ.out.join).mono ?_
      rintro e w5 ⟨rfl, hb⟩
      have HB5 := Lib.hid (HB.out.trans (hb.mono HB.out.size))
      clear hb
      go_wp2_with fail
      go_ret
      exact ⟨rfl, HB5.out⟩
end Go.Proofs.YtpmahimlpajdcaaGreatDoor
