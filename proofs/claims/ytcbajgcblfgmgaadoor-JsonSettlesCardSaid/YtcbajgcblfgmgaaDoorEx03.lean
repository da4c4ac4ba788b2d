
/-
  Which values are large; the chapter's examples.
-/
import Derived.Test.YtcbajgcblfgmgaaDoorJPrintV
import Derived.Test.YtcbajgcblfgmgaaDoorJParse
namespace Go.Proofs.YtcbajgcblfgmgaaDoor
open Go.RowKit
set_option maxHeartbeats 2000000 in
theorem large_any (t : VT) (w : World) (v : Value) (h : Rd w w.heap.size v t) (hl : t.bw ≤ 1099511627776) :
    Calls Tryd.prog 6 #[v] w fun e w' => e = .returned (.bool (decide (3000 < t.bw))) ∧ Below w.heap.size w w' := by
  have HRD := Lib.hid h
  obtain ⟨k, n, s, A, li, ci, K, lk, ck, rfl⟩ := h.shape
  have b1 : Below w.heap.size w (w.alloc (.cells #[.int .i64 k, .int .i64 n, .string s, .slice A li ci, .slice K lk ck] 25 (0, 0))) := (Below.refl _ _).alloc (Nat.le_refl _) _
  have Y1 := Lib.hid (Box.new w (.int .i64 k) (.int .i64 n) (.string s) (.slice A li ci) (.slice K lk ck))
  have HB1 := Lib.hid b1
  have CALL := Lib.hid (weight_any t _ w.heap.size _ (HRD.out.kept b1) b1.size hl)
  clear h b1
  obtain ⟨x0, x1, x2, x3, x4⟩ := Y1.out.cells
  go_enter Tryd.func6, Tryd.ntmps6
  go_wp2_with fail
  refine CALL.out.mono ?_
  rintro e w6 ⟨⟨x, rfl, hx1, hx2⟩, hb6⟩
  have HB6 := Lib.hid (HB1.out.trans (hb6.mono HB1.out.size))
  have hdec : Hid (decide ((x : Int) > 3000) = decide (3000 < t.bw)) := Lib.hid (by
    apply decide_eq_decide.2
    constructor
    · intro h; omega
    · intro h
      rcases Nat.lt_or_ge 3000 x with h3 | h3
      · omega
      · have := hx2 h3; omega)
  clear hb6 x0 x1 x2 x3 x4 CALL hx1 hx2
  cases hb : decide (3000 < t.bw) with
  | true =>
    have h5 : (x : Int) > 3000 := of_decide_eq_true (hdec.out.trans hb)
    go_wp2_with fail
    go_ret
    exact ⟨by rw [hb]; rfl, HB6.out⟩
  | false =>
    have h5 : ¬ (x : Int) > 3000 := of_decide_eq_false (hdec.out.trans hb)
    go_wp2_with fail
    go_ret
    refine ⟨?_, HB6.out⟩
    rw [hb]
    show Ending.returned (.bool (decide ((3000 : Int) < x))) = _
    rw [decide_eq_false (by omega)]
def exT : VT := .mk 6 0 ⟨#[]⟩ [.mk 5 0 ⟨#[]⟩ [intT 1, nullT] [], .mk 4 0 ⟨#[82, 69, 68]⟩ [] []] [⟨#[97]⟩, ⟨#[98]⟩]
def exS1 : ByteArray := ⟨#[91, 49, 44, 32, 123, 34, 97, 34, 58, 32, 116, 114, 117, 101, 125, 93]⟩
def exS2 : ByteArray := ⟨#[91, 49, 44, 93]⟩
theorem ex_txt : exT.txt = some [123, 34, 97, 34, 58, 91, 49, 44, 110, 117, 108, 108, 93, 44, 34, 98, 34, 58, 34, 82, 69, 68, 34, 125] := by kernel_rfl
theorem ex_one : parseR exS1 = .ok (.mk 5 0 ⟨#[]⟩ [intT 1, .mk 6 0 ⟨#[]⟩ [boolT 1] [⟨#[97]⟩]] []) := by kernel_rfl
theorem ex_two : parseR exS2 = .error (3, 3) := by kernel_rfl
theorem ex_rd (w : World) (b : Nat) (h0 : w.heap[b]? = some (.cells #[.string ⟨#[97]⟩, .string ⟨#[98]⟩] 9 (0, 0))) (h1 : w.heap[b + 1]? = some (.cells #[.int .i64 2, .int .i64 1, .string ⟨#[]⟩, .slice none 0 0, .slice none 0 0, .int .i64 0, .int .i64 0, .string ⟨#[]⟩, .slice none 0 0, .slice none 0 0] 25 (0, 0))) (h2 : w.heap[b + 2]? = some (.cells #[.int .i64 5, .int .i64 0, .string ⟨#[]⟩, .slice (some ⟨b + 1, 0, none⟩) 2 2, .slice none 0 0, .int .i64 4, .int .i64 0, .string ⟨#[82, 69, 68]⟩, .slice none 0 0, .slice none 0 0] 25 (0, 0))) (hb : b + 2 < w.heap.size) :
    Rd w w.heap.size (.agg #[.int .i64 6, .int .i64 0, .string ⟨#[]⟩, .slice (some ⟨b + 2, 0, none⟩) 2 2, .slice (some ⟨b, 0, none⟩) 2 2]) exT := by
  have z0 : small 0 := by unfold small; omega
  have inner : Rd w w.heap.size (.agg #[.int .i64 5, .int .i64 0, .string ⟨#[]⟩, .slice (some ⟨b + 1, 0, none⟩) 2 2, .slice none 0 0]) (.mk 5 0 ⟨#[]⟩ [intT 1, nullT] []) := by
    refine .mk (fun i => if i = 0 then .agg #[.int .i64 2, .int .i64 1, .string ⟨#[]⟩, .slice none 0 0, .slice none 0 0] else .agg #[.int .i64 0, .int .i64 0, .string ⟨#[]⟩, .slice none 0 0, .slice none 0 0]) (by unfold small; omega) z0 (by decide) (by simp) rfl rfl (by omega) (by omega) (fun _ => ⟨_, rfl, by show b + 1 < _; omega, fun i hi => ?_⟩) (fun i t hi => ?_) (fun h => by simp at h)
    · rw [Addr.add_mid]
      have hc : i = 0 ∨ i = 1 := by omega
      rcases hc with rfl | rfl
      · refine ⟨_, _, _, _, _, rfl, ?_, ?_, ?_, ?_, ?_⟩ <;> (rw [cell_of_row _ _ _ _ _ _ h1]; rfl)
      · refine ⟨_, _, _, _, _, rfl, ?_, ?_, ?_, ?_, ?_⟩ <;> (rw [cell_of_row _ _ _ _ _ _ h1]; rfl)
    · match i, hi with
      | 0, hi => cases hi; exact .mk (fun _ => undef) (by unfold small; omega) (by unfold small; omega) (by decide) (by simp) rfl rfl (by omega) (by omega) (by omega) (by simp) (fun h => absurd h (by simp))
      | 1, hi => cases hi; exact .mk (fun _ => undef) z0 z0 (by decide) (by simp) rfl rfl (by omega) (by omega) (by omega) (by simp) (fun h => absurd h (by simp))
  refine .mk (fun i => if i = 0 then .agg #[.int .i64 5, .int .i64 0, .string ⟨#[]⟩, .slice (some ⟨b + 1, 0, none⟩) 2 2, .slice none 0 0] else .agg #[.int .i64 4, .int .i64 0, .string ⟨#[82, 69, 68]⟩, .slice none 0 0, .slice none 0 0]) (by unfold small; omega) z0 (by decide) (by decide) rfl rfl (by omega) (by omega) (fun _ => ⟨_, rfl, by show b + 2 < _; omega, fun i hi => ?_⟩) (fun i t hi => ?_) (fun _ => ⟨_, rfl, by show b < _; omega, fun i s hs => ?_⟩)
  · rw [Addr.add_mid]
    have hc : i = 0 ∨ i = 1 := by omega
    rcases hc with rfl | rfl
    · refine ⟨_, _, _, _, _, rfl, ?_, ?_, ?_, ?_, ?_⟩ <;> (rw [cell_of_row _ _ _ _ _ _ h2]; rfl)
    · refine ⟨_, _, _, _, _, rfl, ?_, ?_, ?_, ?_, ?_⟩ <;> (rw [cell_of_row _ _ _ _ _ _ h2]; rfl)
  · match i, hi with
    | 0, hi => cases hi; exact inner
    | 1, hi => cases hi; exact .mk (fun _ => undef) (by unfold small; omega) z0 (by decide) (by simp) rfl rfl (by omega) (by omega) (by omega) (by simp) (fun h => absurd h (by simp))
  · rw [Addr.add_mid, cell_of_row _ _ _ _ _ _ h0]
    match i, hs with
    | 0, hs => cases hs; rfl
    | 1, hs => cases hs; rfl
theorem ex_bw : exT.bw ≤ 100 := by decide +kernel
set_option maxRecDepth 100000 in
set_option maxHeartbeats 4000000 in
theorem jexample_any (w : World) (hL : T1.Laid w) : Calls Tryd.prog 8 #[] w fun e w' => e = .returned (.bool true) ∧ Below w.heap.size w w' := by
  have s1 : (w.alloc (.cells #[.string ⟨#[97]⟩, .string ⟨#[98]⟩] 9 (0, 0))).heap.size = w.heap.size + 1 := by simp
  have s2 : ((w.alloc (.cells #[.string ⟨#[97]⟩, .string ⟨#[98]⟩] 9 (0, 0))).alloc (.cells #[.int .i64 2, .int .i64 1, .string ⟨#[]⟩, .slice none 0 0, .slice none 0 0, .int .i64 0, .int .i64 0, .string ⟨#[]⟩, .slice none 0 0, .slice none 0 0] 25 (0, 0))).heap.size = w.heap.size + 2 := by simp
  have s3 : (((w.alloc (.cells #[.string ⟨#[97]⟩, .string ⟨#[98]⟩] 9 (0, 0))).alloc (.cells #[.int .i64 2, .int .i64 1, .string ⟨#[]⟩, .slice none 0 0, .slice none 0 0, .int .i64 0, .int .i64 0, .string ⟨#[]⟩, .slice none 0 0, .slice none 0 0] 25 (0, 0))).alloc (.cells #[.int .i64 5, .int .i64 0, .string ⟨#[]⟩, .slice (some ⟨w.heap.size + 1, 0, none⟩) 2 2, .slice none 0 0, .int .i64 4, .int .i64 0, .string ⟨#[82, 69, 68]⟩, .slice none 0 0, .slice none 0 0] 25 (0, 0))).heap.size = w.heap.size + 3 := by simp
  have s4 : ((((w.alloc (.cells #[.string ⟨#[97]⟩, .string ⟨#[98]⟩] 9 (0, 0))).alloc (.cells #[.int .i64 2, .int .i64 1, .string ⟨#[]⟩, .slice none 0 0, .slice none 0 0, .int .i64 0, .int .i64 0, .string ⟨#[]⟩, .slice none 0 0, .slice none 0 0] 25 (0, 0))).alloc (.cells #[.int .i64 5, .int .i64 0, .string ⟨#[]⟩, .slice (some ⟨w.heap.size + 1, 0, none⟩) 2 2, .slice none 0 0, .int .i64 4, .int .i64 0, .string ⟨#[82, 69, 68]⟩, .slice none 0 0, .slice none 0 0] 25 (0, 0))).alloc (.cells #[.int .i64 6, .int .i64 0, .string ⟨#[]⟩, .slice (some ⟨w.heap.size + 2, 0, none⟩) 2 2, .slice (some ⟨w.heap.size, 0, none⟩) 2 2] 25 (0, 0))).heap.size = w.heap.size + 4 := by simp
  have h0 : ((((w.alloc (.cells #[.string ⟨#[97]⟩, .string ⟨#[98]⟩] 9 (0, 0))).alloc (.cells #[.int .i64 2, .int .i64 1, .string ⟨#[]⟩, .slice none 0 0, .slice none 0 0, .int .i64 0, .int .i64 0, .string ⟨#[]⟩, .slice none 0 0, .slice none 0 0] 25 (0, 0))).alloc (.cells #[.int .i64 5, .int .i64 0, .string ⟨#[]⟩, .slice (some ⟨w.heap.size + 1, 0, none⟩) 2 2, .slice none 0 0, .int .i64 4, .int .i64 0, .string ⟨#[82, 69, 68]⟩, .slice none 0 0, .slice none 0 0] 25 (0, 0))).alloc (.cells #[.int .i64 6, .int .i64 0, .string ⟨#[]⟩, .slice (some ⟨w.heap.size + 2, 0, none⟩) 2 2, .slice (some ⟨w.heap.size, 0, none⟩) 2 2] 25 (0, 0))).heap[w.heap.size]? = some (.cells #[.string ⟨#[97]⟩, .string ⟨#[98]⟩] 9 (0, 0)) := by
    rw [Below.heap_alloc _ _ _ (by omega), Below.heap_alloc _ _ _ (by omega), Below.heap_alloc _ _ _ (by omega)]
    exact heap_alloc_new w _
  have h1 : ((((w.alloc (.cells #[.string ⟨#[97]⟩, .string ⟨#[98]⟩] 9 (0, 0))).alloc (.cells #[.int .i64 2, .int .i64 1, .string ⟨#[]⟩, .slice none 0 0, .slice none 0 0, .int .i64 0, .int .i64 0, .string ⟨#[]⟩, .slice none 0 0, .slice none 0 0] 25 (0, 0))).alloc (.cells #[.int .i64 5, .int .i64 0, .string ⟨#[]⟩, .slice (some ⟨w.heap.size + 1, 0, none⟩) 2 2, .slice none 0 0, .int .i64 4, .int .i64 0, .string ⟨#[82, 69, 68]⟩, .slice none 0 0, .slice none 0 0] 25 (0, 0))).alloc (.cells #[.int .i64 6, .int .i64 0, .string ⟨#[]⟩, .slice (some ⟨w.heap.size + 2, 0, none⟩) 2 2, .slice (some ⟨w.heap.size, 0, none⟩) 2 2] 25 (0, 0))).heap[w.heap.size + 1]? = some (.cells #[.int .i64 2, .int .i64 1, .string ⟨#[]⟩, .slice none 0 0, .slice none 0 0, .int .i64 0, .int .i64 0, .string ⟨#[]⟩, .slice none 0 0, .slice none 0 0] 25 (0, 0)) := by
    rw [Below.heap_alloc _ _ _ (by omega), Below.heap_alloc _ _ _ (by omega)]
    exact s1 ▸ heap_alloc_new (w.alloc (.cells #[.string ⟨#[97]⟩, .string ⟨#[98]⟩] 9 (0, 0))) (.cells #[.int .i64 2, .int .i64 1, .string ⟨#[]⟩, .slice none 0 0, .slice none 0 0, .int .i64 0, .int .i64 0, .string ⟨#[]⟩, .slice none 0 0, .slice none 0 0] 25 (0, 0))
  have h2 : ((((w.alloc (.cells #[.string ⟨#[97]⟩, .string ⟨#[98]⟩] 9 (0, 0))).alloc (.cells #[.int .i64 2, .int .i64 1, .string ⟨#[]⟩, .slice none 0 0, .slice none 0 0, .int .i64 0, .int .i64 0, .string ⟨#[]⟩, .slice none 0 0, .slice none 0 0] 25 (0, 0))).alloc (.cells #[.int .i64 5, .int .i64 0, .string ⟨#[]⟩, .slice (some ⟨w.heap.size + 1, 0, none⟩) 2 2, .slice none 0 0, .int .i64 4, .int .i64 0, .string ⟨#[82, 69, 68]⟩, .slice none 0 0, .slice none 0 0] 25 (0, 0))).alloc (.cells #[.int .i64 6, .int .i64 0, .string ⟨#[]⟩, .slice (some ⟨w.heap.size + 2, 0, none⟩) 2 2, .slice (some ⟨w.heap.size, 0, none⟩) 2 2] 25 (0, 0))).heap[w.heap.size + 2]? = some (.cells #[.int .i64 5, .int .i64 0, .string ⟨#[]⟩, .slice (some ⟨w.heap.size + 1, 0, none⟩) 2 2, .slice none 0 0, .int .i64 4, .int .i64 0, .string ⟨#[82, 69, 68]⟩, .slice none 0 0, .slice none 0 0] 25 (0, 0)) := by
    rw [Below.heap_alloc _ _ _ (by omega)]
    exact s2 ▸ heap_alloc_new ((w.alloc (.cells #[.string ⟨#[97]⟩, .string ⟨#[98]⟩] 9 (0, 0))).alloc (.cells #[.int .i64 2, .int .i64 1, .string ⟨#[]⟩, .slice none 0 0, .slice none 0 0, .int .i64 0, .int .i64 0, .string ⟨#[]⟩, .slice none 0 0, .slice none 0 0] 25 (0, 0))) (.cells #[.int .i64 5, .int .i64 0, .string ⟨#[]⟩, .slice (some ⟨w.heap.size + 1, 0, none⟩) 2 2, .slice none 0 0, .int .i64 4, .int .i64 0, .string ⟨#[82, 69, 68]⟩, .slice none 0 0, .slice none 0 0] 25 (0, 0))
  have hrd := ex_rd _ _ h0 h1 h2 (by omega)
  have e4 : Below w.heap.size w ((((w.alloc (.cells #[.string ⟨#[97]⟩, .string ⟨#[98]⟩] 9 (0, 0))).alloc (.cells #[.int .i64 2, .int .i64 1, .string ⟨#[]⟩, .slice none 0 0, .slice none 0 0, .int .i64 0, .int .i64 0, .string ⟨#[]⟩, .slice none 0 0, .slice none 0 0] 25 (0, 0))).alloc (.cells #[.int .i64 5, .int .i64 0, .string ⟨#[]⟩, .slice (some ⟨w.heap.size + 1, 0, none⟩) 2 2, .slice none 0 0, .int .i64 4, .int .i64 0, .string ⟨#[82, 69, 68]⟩, .slice none 0 0, .slice none 0 0] 25 (0, 0))).alloc (.cells #[.int .i64 6, .int .i64 0, .string ⟨#[]⟩, .slice (some ⟨w.heap.size + 2, 0, none⟩) 2 2, .slice (some ⟨w.heap.size, 0, none⟩) 2 2] 25 (0, 0))) := ((((Below.refl _ _).alloc (Nat.le_refl _) _).alloc (by omega) _).alloc (by omega) _).alloc (by omega) _
  have h3 : Box ((((w.alloc (.cells #[.string ⟨#[97]⟩, .string ⟨#[98]⟩] 9 (0, 0))).alloc (.cells #[.int .i64 2, .int .i64 1, .string ⟨#[]⟩, .slice none 0 0, .slice none 0 0, .int .i64 0, .int .i64 0, .string ⟨#[]⟩, .slice none 0 0, .slice none 0 0] 25 (0, 0))).alloc (.cells #[.int .i64 5, .int .i64 0, .string ⟨#[]⟩, .slice (some ⟨w.heap.size + 1, 0, none⟩) 2 2, .slice none 0 0, .int .i64 4, .int .i64 0, .string ⟨#[82, 69, 68]⟩, .slice none 0 0, .slice none 0 0] 25 (0, 0))).alloc (.cells #[.int .i64 6, .int .i64 0, .string ⟨#[]⟩, .slice (some ⟨w.heap.size + 2, 0, none⟩) 2 2, .slice (some ⟨w.heap.size, 0, none⟩) 2 2] 25 (0, 0))) (w.heap.size + 3) (.int .i64 6) (.int .i64 0) (.string ⟨#[]⟩) (.slice (some ⟨w.heap.size + 2, 0, none⟩) 2 2) (.slice (some ⟨w.heap.size, 0, none⟩) 2 2) := s3 ▸ heap_alloc_new (((w.alloc (.cells #[.string ⟨#[97]⟩, .string ⟨#[98]⟩] 9 (0, 0))).alloc (.cells #[.int .i64 2, .int .i64 1, .string ⟨#[]⟩, .slice none 0 0, .slice none 0 0, .int .i64 0, .int .i64 0, .string ⟨#[]⟩, .slice none 0 0, .slice none 0 0] 25 (0, 0))).alloc (.cells #[.int .i64 5, .int .i64 0, .string ⟨#[]⟩, .slice (some ⟨w.heap.size + 1, 0, none⟩) 2 2, .slice none 0 0, .int .i64 4, .int .i64 0, .string ⟨#[82, 69, 68]⟩, .slice none 0 0, .slice none 0 0] 25 (0, 0))) (.cells #[.int .i64 6, .int .i64 0, .string ⟨#[]⟩, .slice (some ⟨w.heap.size + 2, 0, none⟩) 2 2, .slice (some ⟨w.heap.size, 0, none⟩) 2 2] 25 (0, 0))
  have HPR := Lib.hid (print_any exT _ _ hrd (hL.below e4) (by have := ex_bw; omega))
  have HB4 := Lib.hid e4
  have HL := Lib.hid hL
  obtain ⟨x0, x1, x2, x3, x4⟩ := h3.cells
  clear h0 h1 h2 hrd e4 h3 hL s1 s2 s3 s4
  go_enter Tryd.func8, Tryd.ntmps8
  go_wp2_with fail
  refine HPR.out.mono ?_
  rintro e w5 ⟨h5, hb5⟩
  rw [ex_txt] at h5
  subst h5
  have HB5 := Lib.hid (HB4.out.trans (hb5.mono HB4.out.size))
  clear hb5 x0 x1 x2 x3 x4 HPR
  go_wp2_with fail
  refine (parse_any exS1 w5 (HL.out.below HB5.out) (by decide)).mono ?_
  rintro e w6 ⟨h6 | h6, hb6⟩
  rotate_left
  · obtain ⟨x, hx, _⟩ := h6
    rw [ex_one] at hx; cases hx
  obtain ⟨t, u, hx, rfl, hu⟩ := h6
  rw [ex_one] at hx
  cases hx
  have HB6 := Lib.hid (HB5.out.trans (hb6.mono HB5.out.size))
  clear hb6
  cases hu with
  | @mk _ _ _ A li ci K lk ck _ _ V hk hn hs hks hli hlk hbi hbk hA hr hK =>
  have hl2 : li = 2 := hli.symm
  subst hl2
  obtain ⟨a, rfl, ⟨_, hab⟩, hc⟩ := hA (by omega)
  have hv0 := hr 0 _ rfl
  have hv1 := hr 1 _ rfl
  obtain ⟨d0, d1, d2, d3, d4, e0, f0, f1, f2, f3, f4⟩ := hc 0 (by omega)
  obtain ⟨m0, m1, m2, m3, m4, e1, g0, g1, g2, g3, g4⟩ := hc 1 (by omega)
  rw [e0] at hv0
  rw [e1] at hv1
  have hd1 : d1 = .int .i64 1 := by cases hv0; rfl
  have hm0 : m0 = .int .i64 6 := by cases hv1; rfl
  subst hd1 hm0
  obtain ⟨ab, ao, spot⟩ := a
  have hsp : spot = none := by
    cases spot with
    | none => rfl
    | some z =>
      simp only [Addr.add, World.cell?] at f0
      split at f0 <;> simp at f0
  subst hsp
  rw [Addr.add_mid] at f1 g0
  simp at f1 g0 hab
  have q1 := Lib.hid f1
  have q2 := Lib.hid g0
  clear hc hr hK hv0 hv1 e0 e1 f0 f1 f2 f3 f4 g0 g1 g2 g3 g4 hbi hbk hA hks hs hn hk
  have b7 : Below w6.heap.size w6 (w6.alloc (.cells #[.int .i64 5, .int .i64 0, .string ⟨#[]⟩, .slice (some ⟨ab, ao, none⟩) 2 ci, .slice K lk ck] 25 (0, 0))) := (Below.refl _ _).alloc (Nat.le_refl _) _
  have HB7 := Lib.hid (HB6.out.trans (b7.mono HB6.out.size))
  have Y7 := Lib.hid (Box.new w6 (.int .i64 5) (.int .i64 0) (.string ⟨#[]⟩) (.slice (some ⟨ab, ao, none⟩) 2 ci) (.slice K lk ck))
  have HB67 := Lib.hid b7
  clear b7
  go_wp2_with fail
  refine (parse_any exS2 _ (HL.out.below HB7.out) (by decide)).mono ?_
  rintro e w8 ⟨h8 | h8, hb8⟩
  · obtain ⟨t, u, hx, _⟩ := h8
    rw [ex_two] at hx; cases hx
  obtain ⟨x, hx, rfl⟩ := h8
  rw [ex_two] at hx
  cases hx
  have HB8 := Lib.hid (HB7.out.trans (hb8.mono HB7.out.size))
  have Y8 := Lib.hid (Y7.out.kept hb8)
  have hs67 := HB67.out.size
  have c1 := (hb8.cell (p := ⟨ab, ao + 1, none⟩) (by show ab < _; omega)).trans ((HB67.out.cell (p := ⟨ab, ao + 1, none⟩) hab).trans q1.out)
  have c2 := (hb8.cell (p := ⟨ab, ao + 5, none⟩) (by show ab < _; omega)).trans ((HB67.out.cell (p := ⟨ab, ao + 5, none⟩) hab).trans q2.out)
  have hab8 : ab < w8.heap.size := by have := hb8.size; omega
  obtain ⟨x0, x1, x2, x3, x4⟩ := Y8.out.cells
  have hy8 := Y8.out.lt
  clear hb8
  unfold zeroV
  go_wp2_with fail
  go_ret
  have h10 := HB8.out.size
  exact ⟨rfl, HB8.out.alloc h10 _⟩
def prE (r : Option (List UInt8)) : ByteArray := match r with | some a => ⟨a.toArray⟩ | none => ⟨#[]⟩
def prC (r : Option (List UInt8)) : Int := match r with | some _ => 0 | none => 9
theorem pr_val {r : Option (List UInt8)} {w w' : World} {e : Ending} (h : PrintPost w r e w') : e = .returned (.tuple #[.string (prE r), .int .i64 (prC r)]) ∧ Below w.heap.size w w' := by
  refine ⟨?_, h.2⟩
  rw [h.1]
  cases r <;> rfl
end Go.Proofs.YtcbajgcblfgmgaaDoor
