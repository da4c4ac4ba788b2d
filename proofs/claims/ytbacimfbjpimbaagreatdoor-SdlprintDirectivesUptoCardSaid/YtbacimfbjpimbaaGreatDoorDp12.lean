
/-
  Texts joined: NG Twice RNodeD RNodeA RNodeB RNodeC RNodeE RWholeL Measure.
-/
import Derived.Test.YtbacimfbjpimbaaGreatDoorDp11
import Derived.Test.YtbacimfbjpimbaaGreatDoorDp2
import Derived.Test.YtbacimfbjpimbaaGreatDoorDp1
namespace Go.Proofs.YtbacimfbjpimbaaGreatDoor
open Go.RowKit
def exF : FldT := ⟨⟨#[120]⟩, [], ⟨#[73, 110, 116]⟩, [], []⟩
def exD : DefT := ⟨1, ⟨#[84]⟩, [], [], [exF], [], []⟩
theorem nil_sl {α : Type} (k bytes : Nat) (R : World → Nat → (Nat → Value) → α → Prop) (W : World) (B : Nat) : Sl k bytes R W B (.slice none 0 0) ([] : List α) :=
  ⟨none, 0, rfl, Nat.le_refl _, by simp, fun _ _ => undef, fun h => absurd h (by simp), fun i x h => by simp at h⟩
theorem one_sl {α : Type} (k bytes : Nat) (R : World → Nat → (Nat → Value) → α → Prop) (W : World) (B g : Nat) (x : α) (cs : Array Value) (T : TypeId) (hb : bytes ≤ big) (hg : g < B) (hk : Bk W g cs T) (hs : cs.size = k) (hr : R W B (fun j => cs.getD j undef) x) : Sl k bytes R W B (.slice (some ⟨g, 0, none⟩) 1 1) [x] := by
  refine ⟨_, 1, rfl, Nat.le_refl _, by simpa using hb, fun _ j => cs.getD j undef, fun _ => ⟨_, rfl, hg, fun i hi j hj => ?_⟩, fun i y hy => ?_⟩
  · obtain rfl : i = 0 := by simpa using hi
    have h1 := hk.cell j (cs.getD j undef) (by rw [Array.getD_eq_getD_getElem?, Array.getElem?_eq_getElem (by omega)]; rfl)
    rw [Nat.zero_mul]
    cases j with
    | zero => exact h1
    | succ j => simpa [at_, Addr.add] using h1
  · cases i with
    | zero => simp at hy; subst hy; exact hr
    | succ i => simp at hy
theorem ex_defs (W : World) (B g d : Nat) (hg : g < B) (hd : d < B) (h1 : Bk W g #[.string ⟨#[120]⟩, .slice none 0 0, .string ⟨#[73, 110, 116]⟩, .slice none 0 0, .slice none 0 0] 45)
    (h2 : Bk W d #[.int .i64 1, .string ⟨#[84]⟩, .slice none 0 0, .slice none 0 0, .slice (some ⟨g, 0, none⟩) 1 1, .slice none 0 0, .slice none 0 0] 39) : DefsR W B (.slice (some ⟨d, 0, none⟩) 1 1) [exD] := by
  refine one_sl 7 144 DefR W B d exD _ _ (by decide) hd h2 rfl ?_
  refine ⟨rfl, ⟨by decide, by decide⟩, rfl, by decide, nil_sl _ _ _ _ _, nil_sl _ _ _ _ _, ?_, nil_sl _ _ _ _ _, nil_sl _ _ _ _ _⟩
  refine one_sl 5 104 FldR W B g exF _ _ (by decide) hg h1 rfl ?_
  exact ⟨rfl, by decide, nil_sl _ _ _ _ _, ⟨rfl, by decide, nil_sl _ _ _ _ _⟩, nil_sl _ _ _ _ _⟩
theorem ex_fit : ∀ x ∈ [exD], defFit x := by
  intro x hx
  obtain rfl : x = exD := by simpa using hx
  refine ⟨by decide, ?_, ?_, ?_, ?_⟩
  · intro d hd; cases hd
  · intro y hy
    obtain rfl : y = exF := by simpa [exD] using hy
    refine ⟨⟨by decide, by decide⟩, ?_, ?_⟩
    · intro y hy; cases hy
    · intro y hy; cases hy
  · intro y hy; cases hy
  · intro y hy; cases hy
theorem LaidB.mono {B B' : Nat} {w : World} (h : LaidB B w) (hb : B ≤ B') : LaidB B' w := fun w' h' => h w' (h'.mono hb)
theorem ex_txt : docTxt [exD] = [116, 121, 112, 101, 32, 84, 32, 123, 10, 32, 32, 120, 58, 32, 73, 110, 116, 10, 125, 10] := by decide
theorem ex_val : (VT.mk 3 0 ⟨#[97]⟩ [] []).src = [34, 97, 34] := by decide
theorem ex_vfit : (VT.mk 3 0 ⟨#[97]⟩ [] []).fit := by
  rw [VT.fit]
  exact ⟨by decide, fun h => absurd h (by decide), fun h => absurd h (by decide), fun h => absurd h (by decide), by decide, trivial⟩
set_option maxRecDepth 100000 in
set_option maxHeartbeats 4000000 in
theorem example_any (w : World) (hL : LaidB w.heap.size w) : Calls Tryz.prog 11 #[] w fun e w' => e = .returned (.bool true) ∧ Below w.heap.size w w' := by
  have z1 : (w.alloc (.cells #[.string ⟨#[120]⟩, .slice none 0 0, .string ⟨#[73, 110, 116]⟩, .slice none 0 0, .slice none 0 0] 45 (0, 0))).heap.size = w.heap.size + 1 := by simp
  have z2 : ((w.alloc (.cells #[.string ⟨#[120]⟩, .slice none 0 0, .string ⟨#[73, 110, 116]⟩, .slice none 0 0, .slice none 0 0] 45 (0, 0))).alloc (.cells #[.int .i64 1, .string ⟨#[84]⟩, .slice none 0 0, .slice none 0 0, .slice (some ⟨w.heap.size, 0, none⟩) 1 1, .slice none 0 0, .slice none 0 0] 39 (0, 0))).heap.size = w.heap.size + 2 := by simp
  have z3 : (((w.alloc (.cells #[.string ⟨#[120]⟩, .slice none 0 0, .string ⟨#[73, 110, 116]⟩, .slice none 0 0, .slice none 0 0] 45 (0, 0))).alloc (.cells #[.int .i64 1, .string ⟨#[84]⟩, .slice none 0 0, .slice none 0 0, .slice (some ⟨w.heap.size, 0, none⟩) 1 1, .slice none 0 0, .slice none 0 0] 39 (0, 0))).alloc (.cells #[.slice (some ⟨w.heap.size + 1, 0, none⟩) 1 1] 32 (0, 0))).heap.size = w.heap.size + 3 := by simp
  have b1 : Below w.heap.size w (w.alloc (.cells #[.string ⟨#[120]⟩, .slice none 0 0, .string ⟨#[73, 110, 116]⟩, .slice none 0 0, .slice none 0 0] 45 (0, 0))) := below_new _ _
  have b2 : Below w.heap.size w ((w.alloc (.cells #[.string ⟨#[120]⟩, .slice none 0 0, .string ⟨#[73, 110, 116]⟩, .slice none 0 0, .slice none 0 0] 45 (0, 0))).alloc (.cells #[.int .i64 1, .string ⟨#[84]⟩, .slice none 0 0, .slice none 0 0, .slice (some ⟨w.heap.size, 0, none⟩) 1 1, .slice none 0 0, .slice none 0 0] 39 (0, 0))) := b1.alloc (by omega) _
  have b3 : Below w.heap.size w (((w.alloc (.cells #[.string ⟨#[120]⟩, .slice none 0 0, .string ⟨#[73, 110, 116]⟩, .slice none 0 0, .slice none 0 0] 45 (0, 0))).alloc (.cells #[.int .i64 1, .string ⟨#[84]⟩, .slice none 0 0, .slice none 0 0, .slice (some ⟨w.heap.size, 0, none⟩) 1 1, .slice none 0 0, .slice none 0 0] 39 (0, 0))).alloc (.cells #[.slice (some ⟨w.heap.size + 1, 0, none⟩) 1 1] 32 (0, 0))) := b2.alloc (by omega) _
  have h1 : Bk (((w.alloc (.cells #[.string ⟨#[120]⟩, .slice none 0 0, .string ⟨#[73, 110, 116]⟩, .slice none 0 0, .slice none 0 0] 45 (0, 0))).alloc (.cells #[.int .i64 1, .string ⟨#[84]⟩, .slice none 0 0, .slice none 0 0, .slice (some ⟨w.heap.size, 0, none⟩) 1 1, .slice none 0 0, .slice none 0 0] 39 (0, 0))).alloc (.cells #[.slice (some ⟨w.heap.size + 1, 0, none⟩) 1 1] 32 (0, 0))) w.heap.size #[.string ⟨#[120]⟩, .slice none 0 0, .string ⟨#[73, 110, 116]⟩, .slice none 0 0, .slice none 0 0] 45 := ((Bk.new w #[.string ⟨#[120]⟩, .slice none 0 0, .string ⟨#[73, 110, 116]⟩, .slice none 0 0, .slice none 0 0] 45).stay (below_new _ _)).stay (below_new _ _)
  have h2 : Bk (((w.alloc (.cells #[.string ⟨#[120]⟩, .slice none 0 0, .string ⟨#[73, 110, 116]⟩, .slice none 0 0, .slice none 0 0] 45 (0, 0))).alloc (.cells #[.int .i64 1, .string ⟨#[84]⟩, .slice none 0 0, .slice none 0 0, .slice (some ⟨w.heap.size, 0, none⟩) 1 1, .slice none 0 0, .slice none 0 0] 39 (0, 0))).alloc (.cells #[.slice (some ⟨w.heap.size + 1, 0, none⟩) 1 1] 32 (0, 0))) (w.heap.size + 1) #[.int .i64 1, .string ⟨#[84]⟩, .slice none 0 0, .slice none 0 0, .slice (some ⟨w.heap.size, 0, none⟩) 1 1, .slice none 0 0, .slice none 0 0] 39 := by
    have h := (Bk.new (w.alloc (.cells #[.string ⟨#[120]⟩, .slice none 0 0, .string ⟨#[73, 110, 116]⟩, .slice none 0 0, .slice none 0 0] 45 (0, 0))) #[.int .i64 1, .string ⟨#[84]⟩, .slice none 0 0, .slice none 0 0, .slice (some ⟨w.heap.size, 0, none⟩) 1 1, .slice none 0 0, .slice none 0 0] 39).stay (below_new _ (.cells #[.slice (some ⟨w.heap.size + 1, 0, none⟩) 1 1] 32 (0, 0)))
    rwa [z1] at h
  have h3 : Bk (((w.alloc (.cells #[.string ⟨#[120]⟩, .slice none 0 0, .string ⟨#[73, 110, 116]⟩, .slice none 0 0, .slice none 0 0] 45 (0, 0))).alloc (.cells #[.int .i64 1, .string ⟨#[84]⟩, .slice none 0 0, .slice none 0 0, .slice (some ⟨w.heap.size, 0, none⟩) 1 1, .slice none 0 0, .slice none 0 0] 39 (0, 0))).alloc (.cells #[.slice (some ⟨w.heap.size + 1, 0, none⟩) 1 1] 32 (0, 0))) (w.heap.size + 1 + 1) #[.slice (some ⟨w.heap.size + 1, 0, none⟩) 1 1] 32 := by
    have h := Bk.new ((w.alloc (.cells #[.string ⟨#[120]⟩, .slice none 0 0, .string ⟨#[73, 110, 116]⟩, .slice none 0 0, .slice none 0 0] 45 (0, 0))).alloc (.cells #[.int .i64 1, .string ⟨#[84]⟩, .slice none 0 0, .slice none 0 0, .slice (some ⟨w.heap.size, 0, none⟩) 1 1, .slice none 0 0, .slice none 0 0] 39 (0, 0))) #[.slice (some ⟨w.heap.size + 1, 0, none⟩) 1 1] 32
    rwa [z2] at h
  have CP := print_any [exD] ex_fit (.slice (some ⟨w.heap.size + 1, 0, none⟩) 1 1) (((w.alloc (.cells #[.string ⟨#[120]⟩, .slice none 0 0, .string ⟨#[73, 110, 116]⟩, .slice none 0 0, .slice none 0 0] 45 (0, 0))).alloc (.cells #[.int .i64 1, .string ⟨#[84]⟩, .slice none 0 0, .slice none 0 0, .slice (some ⟨w.heap.size, 0, none⟩) 1 1, .slice none 0 0, .slice none 0 0] 39 (0, 0))).alloc (.cells #[.slice (some ⟨w.heap.size + 1, 0, none⟩) 1 1] 32 (0, 0))) (ex_defs _ _ _ _ (by omega) (by omega) h1 h2) ((hL.kept b3).mono (by omega)) (by rw [ex_txt]; decide) (by rw [ex_txt]; decide)
  rw [ex_txt] at CP
  have CALLP := Lib.hid CP
  have H1 := Lib.hid h1
  have H2 := Lib.hid h2
  have H3 := Lib.hid h3
  have HB3 := Lib.hid b3
  have HL := Lib.hid hL
  have y0 := h3.cell 0 _ rfl
  clear hL CP z1 z2 b1 b2 b3 h1 h2 h3
  go_enter Tryz.func11, Tryz.ntmps11
  go_wp2_with fail
  refine CALLP.out.mono ?_
  rintro e w4 ⟨rfl, hb⟩
  have HW4 := Lib.hid (HB3.out.trans (hb.mono HB3.out.size))
  have H14 := Lib.hid (H1.out.stay hb)
  have H24 := Lib.hid (H2.out.stay hb)
  have h34 := H3.out.stay hb
  clear hb CALLP y0 z3 H1 H2 H3 HB3
  have y0 := h34.cell 0 _ rfl
  clear h34
  go_wp2_with fail
  refine (same_ex w.heap.size (w.heap.size + 1) w4 H14.out H24.out).mono ?_
  rintro e w5 ⟨rfl, hb⟩
  have HW5 := Lib.hid (HW4.out.trans (hb.mono HW4.out.size))
  clear hb y0
  go_wp2_with fail
  refine (rtext_any ⟨#[97]⟩ w5).mono ?_
  rintro e w6 ⟨rfl, hb⟩
  have HW6 := Lib.hid (HW5.out.trans (hb.mono HW5.out.size))
  clear hb
  have CV := valueText_any (.mk 3 0 ⟨#[97]⟩ [] []) ex_vfit (.agg #[.int .i64 3, .int .i64 0, .string ⟨#[97]⟩, .slice none 0 0, .slice none 0 0]) w6 (Rd.leaf ⟨by decide, by decide⟩ ⟨by decide, by decide⟩ (by decide)) ((HL.out.kept HW6.out).mono HW6.out.size) (by rw [ex_val]; decide) (by rw [ex_val]; decide)
  rw [ex_val] at CV
  have CALLV := Lib.hid CV
  clear CV
  go_wp2_with fail
  refine CALLV.out.mono ?_
  rintro e w7 ⟨rfl, hb⟩
  have HW7 := Lib.hid (HW6.out.trans (hb.mono HW6.out.size))
  clear hb CALLV
  go_wp2_with fail
  go_ret
  exact ⟨rfl, HW7.out⟩
end Go.Proofs.YtbacimfbjpimbaaGreatDoor
namespace Go.Proofs.YtbacimfbjpimbaaGreatDoor
open Go.RowKit
set_option maxHeartbeats 1000000 in
theorem rtwice_any (K : Option Addr) (lk ck : Nat) (keys : List ByteArray) (w : World) (B : Nat) (hlk : keys.length = lk) (hbk : lk * 16 ≤ 140737488351232) (hK : KeysAt w B K keys) (hB : B ≤ w.heap.size) :
    Calls Tryz.prog 115 #[.slice K lk ck] w fun e w' => e = .returned (.bool (!decide keys.Nodup)) ∧ Below w.heap.size w w' := by
  have HL := Lib.hid hlk
  have HK : Hid (0 < lk → ∃ a, K = some a ∧ ∀ W, Below w.heap.size w W → ∀ i s, keys[i]? = some s → W.cell? (a.add i) = some (.string s)) := Lib.hid (fun h0 => by
    obtain ⟨a, e, hab, hc⟩ := hK (by omega)
    exact ⟨a, e, fun W hb i s hi => (hb.cell (p := a.add i) (by rw [add_block]; omega)).trans (hc i s hi)⟩)
  have hlm : (lk : Int) ≤ 140737488351232 := by omega
  clear hlk hK
  go_enter Tryz.func115, Tryz.ntmps115
  go_wp2_with fail
  go_loopw [3] (fun i wr => ∃ j : Nat, j ≤ lk ∧ i = .int .i64 j ∧ (keys.take j).Nodup ∧ Below w.heap.size w wr) (fun i _ => lk - (intOf i).toNat)
  case atStart => exact ⟨0, Nat.zero_le _, rfl, List.nodup_nil, Below.refl _ _⟩
  case round =>
    obtain ⟨j, hj, rfl, hnd, hb⟩ := hrel
    have HND := Lib.hid hnd
    have HB := Lib.hid hb
    clear hnd hb
    by_cases hlt : j < lk
    · obtain ⟨a, rfl, hc⟩ := HK.out (by omega)
      have hjl : j < keys.length := by have := HL.out; omega
      have HC := Lib.hid hc
      have HSN := Lib.hid (nodup_snoc hjl)
      have HJ : Hid (∀ W, Below w.heap.size w W → W.cell? (a.add j) = some (.string keys[j])) := Lib.hid fun W hb => hc W hb j _ (List.getElem?_eq_getElem hjl)
      clear hc
      generalize hs : keys[j] = s at *
      clear hs
      go_wp2_with fail
      go_loopw [4] (fun k wr => ∃ m : Nat, m ≤ j ∧ k = .int .i64 m ∧ s ∉ keys.take m ∧ Below w.heap.size w wr) (fun k _ => j - (intOf k).toNat)
      case atStart => exact ⟨0, Nat.zero_le _, rfl, by simp, HB.out⟩
      case round =>
        obtain ⟨m, hm, rfl, hni, hb2⟩ := hrel
        have HNI := Lib.hid hni
        have HB2 := Lib.hid hb2
        clear hni hb2
        by_cases hmj : m < j
        · have hml : m < keys.length := by omega
          have HM : Hid (∀ W, Below w.heap.size w W → W.cell? (a.add m) = some (.string keys[m])) := Lib.hid fun W hb => HC.out W hb m _ (List.getElem?_eq_getElem hml)
          have HTK : Hid (keys.take (m + 1) = keys.take m ++ [keys[m]]) := Lib.hid (List.take_succ_eq_append_getElem hml)
          have HME : Hid (keys[m] ∈ keys.take j) := Lib.hid (List.mem_take_iff_getElem.2 ⟨m, by omega, rfl⟩)
          generalize keys[m] = u at *
          go_wp2_with fail
          refine wp_region_past (fun W => Below w.heap.size w W) HB2.out (by kernel_rfl) ?_
          intro W hbW _
          have hcj : ∀ x : Past W, x.w.cell? (a.add j) = some (.string s) := fun x => HJ.out x.w (hbW.trans (x.b.mono hbW.size))
          have hcm : ∀ x : Past W, x.w.cell? (a.add m) = some (.string u) := fun x => HM.out x.w (hbW.trans (x.b.mono hbW.size))
          have HW := Lib.hid hbW
          clear hbW
          repeat (go_big_quiet_step (fail))
          refine wpQuiet_nil ?_
          intro _ hw'
          obtain ⟨x, rfl⟩ := hw'
          have HX := Lib.hid (HW.out.trans (x.b.mono HW.out.size))
          by_cases he : s = u
          · have heq : (s.toList == u.toList) = true := by rw [he]; simp
            rw [heq]
            subst he
            clear heq
            have HNO : Hid (decide keys.Nodup = false) := Lib.hid (by
              simp only [decide_eq_false_iff_not]
              intro h
              exact (HSN.out.1 (nodup_take h)).2 HME.out)
            go_wp2_with fail
            go_ret
            exact ⟨by rw [HNO.out]; rfl, HX.out⟩
          · have hne : (s.toList == u.toList) = false := by
              rw [Lib.toList_data, Lib.toList_data, beq_eq_false_iff_ne]
              intro h
              exact he (by cases s; cases u; simp only [ByteArray.mk.injEq]; exact Array.toList_inj.1 h)
            have HNI2 : Hid (s ∉ keys.take (m + 1)) := Lib.hid (by
              rw [HTK.out, List.mem_append]
              rintro (h | h)
              · exact HNI.out h
              · exact he (by simpa using h))
            clear he
            rw [hne]
            go_wp2_with fail
            go_roundw
            case rel => exact ⟨m + 1, by omega, by go_num, HNI2.out, HX.out⟩
            case measure => simp [intOf]; omega
        · have hmj' : m = j := by omega
          subst hmj'
          go_wp2_with fail
          trace_state
          go_roundw
          case rel => exact ⟨m + 1, by omega, by go_num, HSN.out.2 ⟨HND.out, HNI.out⟩, HB2.out⟩
          case measure => simp [intOf]; omega
    · have HJ : Hid (decide keys.Nodup = true) := Lib.hid (by
        have := HND.out
        rw [List.take_of_length_le (by have := HL.out; omega)] at this
        simpa using this)
      go_wp2_with fail
      go_ret
      exact ⟨by rw [HJ.out]; rfl, HB.out⟩
end Go.Proofs.YtbacimfbjpimbaaGreatDoor
namespace Go.Proofs.YtbacimfbjpimbaaGreatDoor
open Go.RowKit
def rnodeB (lit : Bool) : VT → Bool
  | .mk k n s is ks =>
    if k = 0 then decide (n = 0) && decide (s.size = 0) && leafB is ks
    else if k = 1 then (decide (n = 0) || decide (n = 1)) && decide (s.size = 0) && leafB is ks
    else if k = 2 then decide (s.size = 0) && leafB is ks
    else if k = 3 then decide (n = 0) && leafB is ks
    else if k = 4 then decide (n = 0) && leafB is ks && enumB s
    else if k = 5 then decide (n = 0) && decide (s.size = 0) && decide (ks.length = 0)
    else if k = 6 then decide (n = 0) && decide (s.size = 0) && decide (ks.length = is.length) && decide ks.Nodup
    else if k = 7 then lit && decide (n = 0) && leafB is ks && nmA s
    else false
end Go.Proofs.YtbacimfbjpimbaaGreatDoor
namespace Go.Proofs.YtbacimfbjpimbaaGreatDoor
open Go.RowKit
set_option maxRecDepth 100000 in
set_option maxHeartbeats 8000000 in
theorem rnode_0 (lit : Bool) (n : Int) (s : ByteArray) (items : List VT) (keys : List ByteArray) (w : World) (B : Nat) (v : Value) (h : Rd w B v (.mk 0 n s items keys)) (hB : B ≤ w.heap.size) :
    Calls Tryz.prog 54 #[v, .bool lit] w fun e w' => e = .returned (.bool (rnodeB lit (.mk 0 n s items keys))) ∧ Below w.heap.size w w' := by
  have HRD := Lib.hid h
  cases h with
  | @mk _ _ _ A li ci K lk ck _ _ V hk hn hs hks hli hlk hbi hbk hA hr hK =>
  have b1 : Below w.heap.size w (w.alloc (.cells #[.int .i64 0, .int .i64 n, .string s, .slice A li ci, .slice K lk ck] 25 (0, 0))) := (Below.refl _ _).alloc (Nat.le_refl _) _
  have B1 := Lib.hid b1
  have HTW : Hid (Calls Tryz.prog 115 #[.slice K lk ck] (w.alloc (.cells #[.int .i64 0, .int .i64 n, .string s, .slice A li ci, .slice K lk ck] 25 (0, 0))) fun e w' => e = .returned (.bool (!decide keys.Nodup)) ∧ Below _ _ w') := Lib.hid (rtwice_any K lk ck keys _ B hlk hbk.1 (hK.kept (b1.mono hB)) (by simp; omega))
  have HNAME : Hid (Calls Tryz.prog 55 #[.string s] (w.alloc (.cells #[.int .i64 0, .int .i64 n, .string s, .slice A li ci, .slice K lk ck] 25 (0, 0))) fun e w' => e = .returned (.bool (nmA s)) ∧ _ = w') := Lib.hid (rname_any s _ (by unfold maxLen; omega))
  have hlm : (li : Int) ≤ 140737488351232 := by omega
  have hlm' : (lk : Int) ≤ 140737488351232 := by omega
  have HL := Lib.hid hli
  have HLK := Lib.hid hlk
  clear hA hr hK hks hn hs hk hli hlk b1 hbi hbk
  by_cases n0 : n = 0
  · subst n0
    by_cases s0 : s.size = 0
    · obtain ⟨s1, s2, s3⟩ := s_empty s0
      by_cases i0 : li = 0
      · have i1 : items.length = 0 := by have := HL.out; omega
        subst i0
        by_cases q0 : lk = 0
        · have q1 : keys.length = 0 := by have := HLK.out; omega
          subst q0
          have HV : Hid (rnodeB lit (.mk 0 0 s items keys) = true) := Lib.hid (by simp [rnodeB, leafB, s0, i1, q1])
          clear HRD HL HLK
          go_enter Tryz.func54, Tryz.ntmps54
          go_wp2_with fail
          go_ret
          exact ⟨by rw [HV.out]; rfl, B1.out⟩
        · have q1 : ¬ keys.length = 0 := by have := HLK.out; omega
          have q2 : ((lk : Int) == 0) = false := beq_eq_false_iff_ne.2 (by omega)
          clear q0
          have HV : Hid (rnodeB lit (.mk 0 0 s items keys) = false) := Lib.hid (by simp [rnodeB, leafB, s0, i1, q1])
          clear HRD HL HLK
          go_enter Tryz.func54, Tryz.ntmps54
          go_wp2_with fail
          go_ret
          exact ⟨by rw [HV.out]; rfl, B1.out⟩
      · have i1 : ¬ items.length = 0 := by have := HL.out; omega
        have i2 : ((li : Int) == 0) = false := beq_eq_false_iff_ne.2 (by omega)
        clear i0
        have HV : Hid (rnodeB lit (.mk 0 0 s items keys) = false) := Lib.hid (by simp [rnodeB, leafB, s0, i1])
        clear HRD HL HLK
        go_enter Tryz.func54, Tryz.ntmps54
        go_wp2_with fail
        go_ret
        exact ⟨by rw [HV.out]; rfl, B1.out⟩
    · obtain ⟨s1, s2, s3⟩ := s_full s0
      have HV : Hid (rnodeB lit (.mk 0 0 s items keys) = false) := Lib.hid (by simp [rnodeB, leafB, s0])
      clear HRD HL HLK
      go_enter Tryz.func54, Tryz.ntmps54
      go_wp2_with fail
      go_ret
      exact ⟨by rw [HV.out]; rfl, B1.out⟩
  · have n0' : (n == 0) = false := beq_eq_false_iff_ne.2 n0
    have HV : Hid (rnodeB lit (.mk 0 n s items keys) = false) := Lib.hid (by simp [rnodeB, leafB, n0])
    clear HRD HL HLK
    go_enter Tryz.func54, Tryz.ntmps54
    go_wp2_with fail
    go_ret
    exact ⟨by rw [HV.out]; rfl, B1.out⟩
set_option maxRecDepth 100000 in
set_option maxHeartbeats 8000000 in
theorem rnode_1 (lit : Bool) (n : Int) (s : ByteArray) (items : List VT) (keys : List ByteArray) (w : World) (B : Nat) (v : Value) (h : Rd w B v (.mk 1 n s items keys)) (hB : B ≤ w.heap.size) :
    Calls Tryz.prog 54 #[v, .bool lit] w fun e w' => e = .returned (.bool (rnodeB lit (.mk 1 n s items keys))) ∧ Below w.heap.size w w' := by
  have HRD := Lib.hid h
  cases h with
  | @mk _ _ _ A li ci K lk ck _ _ V hk hn hs hks hli hlk hbi hbk hA hr hK =>
  have b1 : Below w.heap.size w (w.alloc (.cells #[.int .i64 1, .int .i64 n, .string s, .slice A li ci, .slice K lk ck] 25 (0, 0))) := (Below.refl _ _).alloc (Nat.le_refl _) _
  have B1 := Lib.hid b1
  have HTW : Hid (Calls Tryz.prog 115 #[.slice K lk ck] (w.alloc (.cells #[.int .i64 1, .int .i64 n, .string s, .slice A li ci, .slice K lk ck] 25 (0, 0))) fun e w' => e = .returned (.bool (!decide keys.Nodup)) ∧ Below _ _ w') := Lib.hid (rtwice_any K lk ck keys _ B hlk hbk.1 (hK.kept (b1.mono hB)) (by simp; omega))
  have HNAME : Hid (Calls Tryz.prog 55 #[.string s] (w.alloc (.cells #[.int .i64 1, .int .i64 n, .string s, .slice A li ci, .slice K lk ck] 25 (0, 0))) fun e w' => e = .returned (.bool (nmA s)) ∧ _ = w') := Lib.hid (rname_any s _ (by unfold maxLen; omega))
  have hlm : (li : Int) ≤ 140737488351232 := by omega
  have hlm' : (lk : Int) ≤ 140737488351232 := by omega
  have HL := Lib.hid hli
  have HLK := Lib.hid hlk
  clear hA hr hK hks hn hs hk hli hlk b1 hbi hbk
  by_cases n0 : n = 0
  · subst n0
    by_cases s0 : s.size = 0
    · obtain ⟨s1, s2, s3⟩ := s_empty s0
      by_cases i0 : li = 0
      · have i1 : items.length = 0 := by have := HL.out; omega
        subst i0
        by_cases q0 : lk = 0
        · have q1 : keys.length = 0 := by have := HLK.out; omega
          subst q0
          have HV : Hid (rnodeB lit (.mk 1 0 s items keys) = true) := Lib.hid (by simp [rnodeB, leafB, s0, i1, q1])
          clear HRD HL HLK
          go_enter Tryz.func54, Tryz.ntmps54
          go_wp2_with fail
          go_ret
          exact ⟨by rw [HV.out]; rfl, B1.out⟩
        · have q1 : ¬ keys.length = 0 := by have := HLK.out; omega
          have q2 : ((lk : Int) == 0) = false := beq_eq_false_iff_ne.2 (by omega)
          clear q0
          have HV : Hid (rnodeB lit (.mk 1 0 s items keys) = false) := Lib.hid (by simp [rnodeB, leafB, s0, i1, q1])
          clear HRD HL HLK
          go_enter Tryz.func54, Tryz.ntmps54
          go_wp2_with fail
          go_ret
          exact ⟨by rw [HV.out]; rfl, B1.out⟩
      · have i1 : ¬ items.length = 0 := by have := HL.out; omega
        have i2 : ((li : Int) == 0) = false := beq_eq_false_iff_ne.2 (by omega)
        clear i0
        have HV : Hid (rnodeB lit (.mk 1 0 s items keys) = false) := Lib.hid (by simp [rnodeB, leafB, s0, i1])
        clear HRD HL HLK
        go_enter Tryz.func54, Tryz.ntmps54
        go_wp2_with fail
        go_ret
        exact ⟨by rw [HV.out]; rfl, B1.out⟩
    · obtain ⟨s1, s2, s3⟩ := s_full s0
      have HV : Hid (rnodeB lit (.mk 1 0 s items keys) = false) := Lib.hid (by simp [rnodeB, leafB, s0])
      clear HRD HL HLK
      go_enter Tryz.func54, Tryz.ntmps54
      go_wp2_with fail
      go_ret
      exact ⟨by rw [HV.out]; rfl, B1.out⟩
  · have n0' : (n == 0) = false := beq_eq_false_iff_ne.2 n0
    by_cases n1 : n = 1
    · subst n1
      by_cases s0 : s.size = 0
      · obtain ⟨s1, s2, s3⟩ := s_empty s0
        by_cases i0 : li = 0
        · have i1 : items.length = 0 := by have := HL.out; omega
          subst i0
          by_cases q0 : lk = 0
          · have q1 : keys.length = 0 := by have := HLK.out; omega
            subst q0
            have HV : Hid (rnodeB lit (.mk 1 1 s items keys) = true) := Lib.hid (by simp [rnodeB, leafB, s0, i1, q1])
            clear HRD HL HLK
            go_enter Tryz.func54, Tryz.ntmps54
            go_wp2_with fail
            go_ret
            exact ⟨by rw [HV.out]; rfl, B1.out⟩
          · have q1 : ¬ keys.length = 0 := by have := HLK.out; omega
            have q2 : ((lk : Int) == 0) = false := beq_eq_false_iff_ne.2 (by omega)
            clear q0
            have HV : Hid (rnodeB lit (.mk 1 1 s items keys) = false) := Lib.hid (by simp [rnodeB, leafB, s0, i1, q1])
            clear HRD HL HLK
            go_enter Tryz.func54, Tryz.ntmps54
            go_wp2_with fail
            go_ret
            exact ⟨by rw [HV.out]; rfl, B1.out⟩
        · have i1 : ¬ items.length = 0 := by have := HL.out; omega
          have i2 : ((li : Int) == 0) = false := beq_eq_false_iff_ne.2 (by omega)
          clear i0
          have HV : Hid (rnodeB lit (.mk 1 1 s items keys) = false) := Lib.hid (by simp [rnodeB, leafB, s0, i1])
          clear HRD HL HLK
          go_enter Tryz.func54, Tryz.ntmps54
          go_wp2_with fail
          go_ret
          exact ⟨by rw [HV.out]; rfl, B1.out⟩
      · obtain ⟨s1, s2, s3⟩ := s_full s0
        have HV : Hid (rnodeB lit (.mk 1 1 s items keys) = false) := Lib.hid (by simp [rnodeB, leafB, s0])
        clear HRD HL HLK
        go_enter Tryz.func54, Tryz.ntmps54
        go_wp2_with fail
        go_ret
        exact ⟨by rw [HV.out]; rfl, B1.out⟩
    · have n1' : (n == 1) = false := beq_eq_false_iff_ne.2 n1
      have HV : Hid (rnodeB lit (.mk 1 n s items keys) = false) := Lib.hid (by simp [rnodeB, leafB, n0, n1])
      clear HRD HL HLK
      go_enter Tryz.func54, Tryz.ntmps54
      go_wp2_with fail
      go_ret
      exact ⟨by rw [HV.out]; rfl, B1.out⟩
set_option maxRecDepth 100000 in
set_option maxHeartbeats 8000000 in
theorem rnode_2 (lit : Bool) (n : Int) (s : ByteArray) (items : List VT) (keys : List ByteArray) (w : World) (B : Nat) (v : Value) (h : Rd w B v (.mk 2 n s items keys)) (hB : B ≤ w.heap.size) :
    Calls Tryz.prog 54 #[v, .bool lit] w fun e w' => e = .returned (.bool (rnodeB lit (.mk 2 n s items keys))) ∧ Below w.heap.size w w' := by
  have HRD := Lib.hid h
  cases h with
  | @mk _ _ _ A li ci K lk ck _ _ V hk hn hs hks hli hlk hbi hbk hA hr hK =>
  have b1 : Below w.heap.size w (w.alloc (.cells #[.int .i64 2, .int .i64 n, .string s, .slice A li ci, .slice K lk ck] 25 (0, 0))) := (Below.refl _ _).alloc (Nat.le_refl _) _
  have B1 := Lib.hid b1
  have HTW : Hid (Calls Tryz.prog 115 #[.slice K lk ck] (w.alloc (.cells #[.int .i64 2, .int .i64 n, .string s, .slice A li ci, .slice K lk ck] 25 (0, 0))) fun e w' => e = .returned (.bool (!decide keys.Nodup)) ∧ Below _ _ w') := Lib.hid (rtwice_any K lk ck keys _ B hlk hbk.1 (hK.kept (b1.mono hB)) (by simp; omega))
  have HNAME : Hid (Calls Tryz.prog 55 #[.string s] (w.alloc (.cells #[.int .i64 2, .int .i64 n, .string s, .slice A li ci, .slice K lk ck] 25 (0, 0))) fun e w' => e = .returned (.bool (nmA s)) ∧ _ = w') := Lib.hid (rname_any s _ (by unfold maxLen; omega))
  have hlm : (li : Int) ≤ 140737488351232 := by omega
  have hlm' : (lk : Int) ≤ 140737488351232 := by omega
  have HL := Lib.hid hli
  have HLK := Lib.hid hlk
  clear hA hr hK hks hn hs hk hli hlk b1 hbi hbk
  by_cases s0 : s.size = 0
  · obtain ⟨s1, s2, s3⟩ := s_empty s0
    by_cases i0 : li = 0
    · have i1 : items.length = 0 := by have := HL.out; omega
      subst i0
      by_cases q0 : lk = 0
      · have q1 : keys.length = 0 := by have := HLK.out; omega
        subst q0
        have HV : Hid (rnodeB lit (.mk 2 n s items keys) = true) := Lib.hid (by simp [rnodeB, leafB, s0, i1, q1])
        clear HRD HL HLK
        go_enter Tryz.func54, Tryz.ntmps54
        go_wp2_with fail
        go_ret
        exact ⟨by rw [HV.out]; rfl, B1.out⟩
      · have q1 : ¬ keys.length = 0 := by have := HLK.out; omega
        have q2 : ((lk : Int) == 0) = false := beq_eq_false_iff_ne.2 (by omega)
        clear q0
        have HV : Hid (rnodeB lit (.mk 2 n s items keys) = false) := Lib.hid (by simp [rnodeB, leafB, s0, i1, q1])
        clear HRD HL HLK
        go_enter Tryz.func54, Tryz.ntmps54
        go_wp2_with fail
        go_ret
        exact ⟨by rw [HV.out]; rfl, B1.out⟩
    · have i1 : ¬ items.length = 0 := by have := HL.out; omega
      have i2 : ((li : Int) == 0) = false := beq_eq_false_iff_ne.2 (by omega)
      clear i0
      have HV : Hid (rnodeB lit (.mk 2 n s items keys) = false) := Lib.hid (by simp [rnodeB, leafB, s0, i1])
      clear HRD HL HLK
      go_enter Tryz.func54, Tryz.ntmps54
      go_wp2_with fail
      go_ret
      exact ⟨by rw [HV.out]; rfl, B1.out⟩
  · obtain ⟨s1, s2, s3⟩ := s_full s0
    have HV : Hid (rnodeB lit (.mk 2 n s items keys) = false) := Lib.hid (by simp [rnodeB, leafB, s0])
    clear HRD HL HLK
    go_enter Tryz.func54, Tryz.ntmps54
    go_wp2_with fail
    go_ret
    exact ⟨by rw [HV.out]; rfl, B1.out⟩
end Go.Proofs.YtbacimfbjpimbaaGreatDoor
namespace Go.Proofs.YtbacimfbjpimbaaGreatDoor
open Go.RowKit
set_option maxRecDepth 100000 in
set_option maxHeartbeats 8000000 in
theorem rnode_3 (lit : Bool) (n : Int) (s : ByteArray) (items : List VT) (keys : List ByteArray) (w : World) (B : Nat) (v : Value) (h : Rd w B v (.mk 3 n s items keys)) (hB : B ≤ w.heap.size) :
    Calls Tryz.prog 54 #[v, .bool lit] w fun e w' => e = .returned (.bool (rnodeB lit (.mk 3 n s items keys))) ∧ Below w.heap.size w w' := by
  have HRD := Lib.hid h
  cases h with
  | @mk _ _ _ A li ci K lk ck _ _ V hk hn hs hks hli hlk hbi hbk hA hr hK =>
  have b1 : Below w.heap.size w (w.alloc (.cells #[.int .i64 3, .int .i64 n, .string s, .slice A li ci, .slice K lk ck] 25 (0, 0))) := (Below.refl _ _).alloc (Nat.le_refl _) _
  have B1 := Lib.hid b1
  have HTW : Hid (Calls Tryz.prog 115 #[.slice K lk ck] (w.alloc (.cells #[.int .i64 3, .int .i64 n, .string s, .slice A li ci, .slice K lk ck] 25 (0, 0))) fun e w' => e = .returned (.bool (!decide keys.Nodup)) ∧ Below _ _ w') := Lib.hid (rtwice_any K lk ck keys _ B hlk hbk.1 (hK.kept (b1.mono hB)) (by simp; omega))
  have HNAME : Hid (Calls Tryz.prog 55 #[.string s] (w.alloc (.cells #[.int .i64 3, .int .i64 n, .string s, .slice A li ci, .slice K lk ck] 25 (0, 0))) fun e w' => e = .returned (.bool (nmA s)) ∧ _ = w') := Lib.hid (rname_any s _ (by unfold maxLen; omega))
  have hlm : (li : Int) ≤ 140737488351232 := by omega
  have hlm' : (lk : Int) ≤ 140737488351232 := by omega
  have HL := Lib.hid hli
  have HLK := Lib.hid hlk
  clear hA hr hK hks hn hs hk hli hlk b1 hbi hbk
  by_cases n0 : n = 0
  · subst n0
    by_cases i0 : li = 0
    · have i1 : items.length = 0 := by have := HL.out; omega
      subst i0
      by_cases q0 : lk = 0
      · have q1 : keys.length = 0 := by have := HLK.out; omega
        subst q0
        have HV : Hid (rnodeB lit (.mk 3 0 s items keys) = true) := Lib.hid (by simp [rnodeB, leafB, i1, q1])
        clear HRD HL HLK
        go_enter Tryz.func54, Tryz.ntmps54
        go_wp2_with fail
        go_ret
        exact ⟨by rw [HV.out]; rfl, B1.out⟩
      · have q1 : ¬ keys.length = 0 := by have := HLK.out; omega
        have q2 : ((lk : Int) == 0) = false := beq_eq_false_iff_ne.2 (by omega)
        clear q0
        have HV : Hid (rnodeB lit (.mk 3 0 s items keys) = false) := Lib.hid (by simp [rnodeB, leafB, i1, q1])
        clear HRD HL HLK
        go_enter Tryz.func54, Tryz.ntmps54
        go_wp2_with fail
        go_ret
        exact ⟨by rw [HV.out]; rfl, B1.out⟩
    · have i1 : ¬ items.length = 0 := by have := HL.out; omega
      have i2 : ((li : Int) == 0) = false := beq_eq_false_iff_ne.2 (by omega)
      clear i0
      have HV : Hid (rnodeB lit (.mk 3 0 s items keys) = false) := Lib.hid (by simp [rnodeB, leafB, i1])
      clear HRD HL HLK
      go_enter Tryz.func54, Tryz.ntmps54
      go_wp2_with fail
      go_ret
      exact ⟨by rw [HV.out]; rfl, B1.out⟩
  · have n0' : (n == 0) = false := beq_eq_false_iff_ne.2 n0
    have HV : Hid (rnodeB lit (.mk 3 n s items keys) = false) := Lib.hid (by simp [rnodeB, leafB, n0])
    clear HRD HL HLK
    go_enter Tryz.func54, Tryz.ntmps54
    go_wp2_with fail
    go_ret
    exact ⟨by rw [HV.out]; rfl, B1.out⟩
set_option maxRecDepth 100000 in
set_option maxHeartbeats 8000000 in
theorem rnode_5 (lit : Bool) (n : Int) (s : ByteArray) (items : List VT) (keys : List ByteArray) (w : World) (B : Nat) (v : Value) (h : Rd w B v (.mk 5 n s items keys)) (hB : B ≤ w.heap.size) :
    Calls Tryz.prog 54 #[v, .bool lit] w fun e w' => e = .returned (.bool (rnodeB lit (.mk 5 n s items keys))) ∧ Below w.heap.size w w' := by
  have HRD := Lib.hid h
  cases h with
  | @mk _ _ _ A li ci K lk ck _ _ V hk hn hs hks hli hlk hbi hbk hA hr hK =>
  have b1 : Below w.heap.size w (w.alloc (.cells #[.int .i64 5, .int .i64 n, .string s, .slice A li ci, .slice K lk ck] 25 (0, 0))) := (Below.refl _ _).alloc (Nat.le_refl _) _
  have B1 := Lib.hid b1
  have HTW : Hid (Calls Tryz.prog 115 #[.slice K lk ck] (w.alloc (.cells #[.int .i64 5, .int .i64 n, .string s, .slice A li ci, .slice K lk ck] 25 (0, 0))) fun e w' => e = .returned (.bool (!decide keys.Nodup)) ∧ Below _ _ w') := Lib.hid (rtwice_any K lk ck keys _ B hlk hbk.1 (hK.kept (b1.mono hB)) (by simp; omega))
  have HNAME : Hid (Calls Tryz.prog 55 #[.string s] (w.alloc (.cells #[.int .i64 5, .int .i64 n, .string s, .slice A li ci, .slice K lk ck] 25 (0, 0))) fun e w' => e = .returned (.bool (nmA s)) ∧ _ = w') := Lib.hid (rname_any s _ (by unfold maxLen; omega))
  have hlm : (li : Int) ≤ 140737488351232 := by omega
  have hlm' : (lk : Int) ≤ 140737488351232 := by omega
  have HL := Lib.hid hli
  have HLK := Lib.hid hlk
  clear hA hr hK hks hn hs hk hli hlk b1 hbi hbk
  by_cases n0 : n = 0
  · subst n0
    by_cases s0 : s.size = 0
    · obtain ⟨s1, s2, s3⟩ := s_empty s0
      by_cases q0 : lk = 0
      · have q1 : keys.length = 0 := by have := HLK.out; omega
        subst q0
        have HV : Hid (rnodeB lit (.mk 5 0 s items keys) = true) := Lib.hid (by simp [rnodeB, s0, q1])
        clear HRD HL HLK
        go_enter Tryz.func54, Tryz.ntmps54
        go_wp2_with fail
        go_ret
        exact ⟨by rw [HV.out]; rfl, B1.out⟩
      · have q1 : ¬ keys.length = 0 := by have := HLK.out; omega
        have q2 : ((lk : Int) == 0) = false := beq_eq_false_iff_ne.2 (by omega)
        clear q0
        have HV : Hid (rnodeB lit (.mk 5 0 s items keys) = false) := Lib.hid (by simp [rnodeB, s0, q1])
        clear HRD HL HLK
        go_enter Tryz.func54, Tryz.ntmps54
        go_wp2_with fail
        go_ret
        exact ⟨by rw [HV.out]; rfl, B1.out⟩
    · obtain ⟨s1, s2, s3⟩ := s_full s0
      have HV : Hid (rnodeB lit (.mk 5 0 s items keys) = false) := Lib.hid (by simp [rnodeB, s0])
      clear HRD HL HLK
      go_enter Tryz.func54, Tryz.ntmps54
      go_wp2_with fail
      go_ret
      exact ⟨by rw [HV.out]; rfl, B1.out⟩
  · have n0' : (n == 0) = false := beq_eq_false_iff_ne.2 n0
    have HV : Hid (rnodeB lit (.mk 5 n s items keys) = false) := Lib.hid (by simp [rnodeB, n0])
    clear HRD HL HLK
    go_enter Tryz.func54, Tryz.ntmps54
    go_wp2_with fail
    go_ret
    exact ⟨by rw [HV.out]; rfl, B1.out⟩
set_option maxRecDepth 100000 in
set_option maxHeartbeats 8000000 in
theorem rnode_else (lit : Bool) (k : Int) (n : Int) (s : ByteArray) (items : List VT) (keys : List ByteArray) (w : World) (B : Nat) (v : Value) (h : Rd w B v (.mk k n s items keys)) (hB : B ≤ w.heap.size) (k0 : ¬ k = 0) (k1 : ¬ k = 1) (k2 : ¬ k = 2) (k3 : ¬ k = 3) (k4 : ¬ k = 4) (k5 : ¬ k = 5) (k6 : ¬ k = 6) (k7 : ¬ k = 7) :
    Calls Tryz.prog 54 #[v, .bool lit] w fun e w' => e = .returned (.bool (rnodeB lit (.mk k n s items keys))) ∧ Below w.heap.size w w' := by
  have HRD := Lib.hid h
  cases h with
  | @mk _ _ _ A li ci K lk ck _ _ V hk hn hs hks hli hlk hbi hbk hA hr hK =>
  have b1 : Below w.heap.size w (w.alloc (.cells #[.int .i64 k, .int .i64 n, .string s, .slice A li ci, .slice K lk ck] 25 (0, 0))) := (Below.refl _ _).alloc (Nat.le_refl _) _
  have B1 := Lib.hid b1
  have HTW : Hid (Calls Tryz.prog 115 #[.slice K lk ck] (w.alloc (.cells #[.int .i64 k, .int .i64 n, .string s, .slice A li ci, .slice K lk ck] 25 (0, 0))) fun e w' => e = .returned (.bool (!decide keys.Nodup)) ∧ Below _ _ w') := Lib.hid (rtwice_any K lk ck keys _ B hlk hbk.1 (hK.kept (b1.mono hB)) (by simp; omega))
  have HNAME : Hid (Calls Tryz.prog 55 #[.string s] (w.alloc (.cells #[.int .i64 k, .int .i64 n, .string s, .slice A li ci, .slice K lk ck] 25 (0, 0))) fun e w' => e = .returned (.bool (nmA s)) ∧ _ = w') := Lib.hid (rname_any s _ (by unfold maxLen; omega))
  have hlm : (li : Int) ≤ 140737488351232 := by omega
  have hlm' : (lk : Int) ≤ 140737488351232 := by omega
  have HL := Lib.hid hli
  have HLK := Lib.hid hlk
  clear hA hr hK hks hn hs hk hli hlk b1 hbi hbk
  have k0' : (k == 0) = false := beq_eq_false_iff_ne.2 k0
  have k1' : (k == 1) = false := beq_eq_false_iff_ne.2 k1
  have k2' : (k == 2) = false := beq_eq_false_iff_ne.2 k2
  have k3' : (k == 3) = false := beq_eq_false_iff_ne.2 k3
  have k4' : (k == 4) = false := beq_eq_false_iff_ne.2 k4
  have k5' : (k == 5) = false := beq_eq_false_iff_ne.2 k5
  have k6' : (k == 6) = false := beq_eq_false_iff_ne.2 k6
  have k7' : (k == 7) = false := beq_eq_false_iff_ne.2 k7
  have HV : Hid (rnodeB lit (.mk k n s items keys) = false) := Lib.hid (by simp [rnodeB, k0, k1, k2, k3, k4, k5, k6, k7])
  clear HRD HL HLK
  go_enter Tryz.func54, Tryz.ntmps54
  go_wp2_with fail
  go_ret
  exact ⟨by rw [HV.out]; rfl, B1.out⟩
end Go.Proofs.YtbacimfbjpimbaaGreatDoor
namespace Go.Proofs.YtbacimfbjpimbaaGreatDoor
open Go.RowKit
set_option maxRecDepth 100000 in
set_option maxHeartbeats 8000000 in
theorem rnode_6 (lit : Bool) (n : Int) (s : ByteArray) (items : List VT) (keys : List ByteArray) (w : World) (B : Nat) (v : Value) (h : Rd w B v (.mk 6 n s items keys)) (hB : B ≤ w.heap.size) :
    Calls Tryz.prog 54 #[v, .bool lit] w fun e w' => e = .returned (.bool (rnodeB lit (.mk 6 n s items keys))) ∧ Below w.heap.size w w' := by
  have HRD := Lib.hid h
  cases h with
  | @mk _ _ _ A li ci K lk ck _ _ V hk hn hs hks hli hlk hbi hbk hA hr hK =>
  have b1 : Below w.heap.size w (w.alloc (.cells #[.int .i64 6, .int .i64 n, .string s, .slice A li ci, .slice K lk ck] 25 (0, 0))) := (Below.refl _ _).alloc (Nat.le_refl _) _
  have B1 := Lib.hid b1
  have HTW : Hid (Calls Tryz.prog 115 #[.slice K lk ck] (w.alloc (.cells #[.int .i64 6, .int .i64 n, .string s, .slice A li ci, .slice K lk ck] 25 (0, 0))) fun e w' => e = .returned (.bool (!decide keys.Nodup)) ∧ Below _ _ w') := Lib.hid (rtwice_any K lk ck keys _ B hlk hbk.1 (hK.kept (b1.mono hB)) (by simp; omega))
  have HNAME : Hid (Calls Tryz.prog 55 #[.string s] (w.alloc (.cells #[.int .i64 6, .int .i64 n, .string s, .slice A li ci, .slice K lk ck] 25 (0, 0))) fun e w' => e = .returned (.bool (nmA s)) ∧ _ = w') := Lib.hid (rname_any s _ (by unfold maxLen; omega))
  have hlm : (li : Int) ≤ 140737488351232 := by omega
  have hlm' : (lk : Int) ≤ 140737488351232 := by omega
  have HL := Lib.hid hli
  have HLK := Lib.hid hlk
  clear hA hr hK hks hn hs hk hli hlk b1 hbi hbk
  by_cases n0 : n = 0
  · subst n0
    by_cases s0 : s.size = 0
    · obtain ⟨s1, s2, s3⟩ := s_empty s0
      by_cases e0 : lk = li
      · have e1 : keys.length = items.length := by have := HL.out; have := HLK.out; omega
        subst e0
        cases hnd : decide keys.Nodup
        · have hn2 : ¬ keys.Nodup := by simpa using hnd
          have HV : Hid (rnodeB lit (.mk 6 0 s items keys) = false) := Lib.hid (by simp [rnodeB, s0, e1, hn2])
          clear HRD HL HLK
          go_enter Tryz.func54, Tryz.ntmps54
          go_wp2_with fail
          refine HTW.out.mono ?_
          rintro e w' ⟨rfl, hb⟩
          have HB := Lib.hid (B1.out.trans (hb.mono B1.out.size))
          clear hb
          rw [hnd]
          go_wp2_with fail
          go_ret
          exact ⟨by rw [HV.out]; rfl, HB.out⟩
        · have hn2 : keys.Nodup := by simpa using hnd
          have HV : Hid (rnodeB lit (.mk 6 0 s items keys) = true) := Lib.hid (by simp [rnodeB, s0, e1, hn2])
          clear HRD HL HLK
          go_enter Tryz.func54, Tryz.ntmps54
          go_wp2_with fail
          refine HTW.out.mono ?_
          rintro e w' ⟨rfl, hb⟩
          have HB := Lib.hid (B1.out.trans (hb.mono B1.out.size))
          clear hb
          rw [hnd]
          go_wp2_with fail
          go_ret
          exact ⟨by rw [HV.out]; rfl, HB.out⟩
      · have e1 : ¬ keys.length = items.length := by have := HL.out; have := HLK.out; omega
        have e2 : ((lk : Int) == (li : Int)) = false := beq_eq_false_iff_ne.2 (by omega)
        clear e0
        have HV : Hid (rnodeB lit (.mk 6 0 s items keys) = false) := Lib.hid (by simp [rnodeB, s0, e1])
        clear HRD HL HLK
        go_enter Tryz.func54, Tryz.ntmps54
        go_wp2_with fail
        go_ret
        exact ⟨by rw [HV.out]; rfl, B1.out⟩
    · obtain ⟨s1, s2, s3⟩ := s_full s0
      have HV : Hid (rnodeB lit (.mk 6 0 s items keys) = false) := Lib.hid (by simp [rnodeB, s0])
      clear HRD HL HLK
      go_enter Tryz.func54, Tryz.ntmps54
      go_wp2_with fail
      go_ret
      exact ⟨by rw [HV.out]; rfl, B1.out⟩
  · have n0' : (n == 0) = false := beq_eq_false_iff_ne.2 n0
    have HV : Hid (rnodeB lit (.mk 6 n s items keys) = false) := Lib.hid (by simp [rnodeB, n0])
    clear HRD HL HLK
    go_enter Tryz.func54, Tryz.ntmps54
    go_wp2_with fail
    go_ret
    exact ⟨by rw [HV.out]; rfl, B1.out⟩
set_option maxRecDepth 100000 in
set_option maxHeartbeats 8000000 in
theorem rnode_7 (lit : Bool) (n : Int) (s : ByteArray) (items : List VT) (keys : List ByteArray) (w : World) (B : Nat) (v : Value) (h : Rd w B v (.mk 7 n s items keys)) (hB : B ≤ w.heap.size) :
    Calls Tryz.prog 54 #[v, .bool lit] w fun e w' => e = .returned (.bool (rnodeB lit (.mk 7 n s items keys))) ∧ Below w.heap.size w w' := by
  have HRD := Lib.hid h
  cases h with
  | @mk _ _ _ A li ci K lk ck _ _ V hk hn hs hks hli hlk hbi hbk hA hr hK =>
  have b1 : Below w.heap.size w (w.alloc (.cells #[.int .i64 7, .int .i64 n, .string s, .slice A li ci, .slice K lk ck] 25 (0, 0))) := (Below.refl _ _).alloc (Nat.le_refl _) _
  have B1 := Lib.hid b1
  have HTW : Hid (Calls Tryz.prog 115 #[.slice K lk ck] (w.alloc (.cells #[.int .i64 7, .int .i64 n, .string s, .slice A li ci, .slice K lk ck] 25 (0, 0))) fun e w' => e = .returned (.bool (!decide keys.Nodup)) ∧ Below _ _ w') := Lib.hid (rtwice_any K lk ck keys _ B hlk hbk.1 (hK.kept (b1.mono hB)) (by simp; omega))
  have HNAME : Hid (Calls Tryz.prog 55 #[.string s] (w.alloc (.cells #[.int .i64 7, .int .i64 n, .string s, .slice A li ci, .slice K lk ck] 25 (0, 0))) fun e w' => e = .returned (.bool (nmA s)) ∧ _ = w') := Lib.hid (rname_any s _ (by unfold maxLen; omega))
  have hlm : (li : Int) ≤ 140737488351232 := by omega
  have hlm' : (lk : Int) ≤ 140737488351232 := by omega
  have HL := Lib.hid hli
  have HLK := Lib.hid hlk
  clear hA hr hK hks hn hs hk hli hlk b1 hbi hbk
  cases lit
  · skip
    have HV : Hid (rnodeB false (.mk 7 n s items keys) = false) := Lib.hid (by simp [rnodeB, leafB])
    clear HRD HL HLK
    go_enter Tryz.func54, Tryz.ntmps54
    go_wp2_with fail
    go_ret
    exact ⟨by rw [HV.out]; rfl, B1.out⟩
  · skip
    by_cases n0 : n = 0
    · subst n0
      by_cases i0 : li = 0
      · have i1 : items.length = 0 := by have := HL.out; omega
        subst i0
        by_cases q0 : lk = 0
        · have q1 : keys.length = 0 := by have := HLK.out; omega
          subst q0
          cases hnm : nmA s
          · skip
            have HV : Hid (rnodeB true (.mk 7 0 s items keys) = false) := Lib.hid (by simp [rnodeB, leafB, i1, q1, hnm])
            clear HRD HL HLK
            go_enter Tryz.func54, Tryz.ntmps54
            go_wp2_with fail
            refine HNAME.out.mono ?_
            rintro e w' ⟨rfl, rfl⟩
            rw [hnm]
            go_wp2_with fail
            go_ret
            exact ⟨by rw [HV.out]; rfl, B1.out⟩
          · skip
            have HV : Hid (rnodeB true (.mk 7 0 s items keys) = true) := Lib.hid (by simp [rnodeB, leafB, i1, q1, hnm])
            clear HRD HL HLK
            go_enter Tryz.func54, Tryz.ntmps54
            go_wp2_with fail
            refine HNAME.out.mono ?_
            rintro e w' ⟨rfl, rfl⟩
            rw [hnm]
            go_wp2_with fail
            go_ret
            exact ⟨by rw [HV.out]; rfl, B1.out⟩
        · have q1 : ¬ keys.length = 0 := by have := HLK.out; omega
          have q2 : ((lk : Int) == 0) = false := beq_eq_false_iff_ne.2 (by omega)
          clear q0
          have HV : Hid (rnodeB true (.mk 7 0 s items keys) = false) := Lib.hid (by simp [rnodeB, leafB, i1, q1])
          clear HRD HL HLK
          go_enter Tryz.func54, Tryz.ntmps54
          go_wp2_with fail
          go_ret
          exact ⟨by rw [HV.out]; rfl, B1.out⟩
      · have i1 : ¬ items.length = 0 := by have := HL.out; omega
        have i2 : ((li : Int) == 0) = false := beq_eq_false_iff_ne.2 (by omega)
        clear i0
        have HV : Hid (rnodeB true (.mk 7 0 s items keys) = false) := Lib.hid (by simp [rnodeB, leafB, i1])
        clear HRD HL HLK
        go_enter Tryz.func54, Tryz.ntmps54
        go_wp2_with fail
        go_ret
        exact ⟨by rw [HV.out]; rfl, B1.out⟩
    · have n0' : (n == 0) = false := beq_eq_false_iff_ne.2 n0
      have HV : Hid (rnodeB true (.mk 7 n s items keys) = false) := Lib.hid (by simp [rnodeB, leafB, n0])
      clear HRD HL HLK
      go_enter Tryz.func54, Tryz.ntmps54
      go_wp2_with fail
      go_ret
      exact ⟨by rw [HV.out]; rfl, B1.out⟩
end Go.Proofs.YtbacimfbjpimbaaGreatDoor
namespace Go.Proofs.YtbacimfbjpimbaaGreatDoor
open Go.RowKit
set_option maxRecDepth 100000 in
set_option maxHeartbeats 8000000 in
theorem rnode_4 (lit : Bool) (n : Int) (s : ByteArray) (items : List VT) (keys : List ByteArray) (w : World) (B : Nat) (v : Value) (h : Rd w B v (.mk 4 n s items keys)) (hB : B ≤ w.heap.size) :
    Calls Tryz.prog 54 #[v, .bool lit] w fun e w' => e = .returned (.bool (rnodeB lit (.mk 4 n s items keys))) ∧ Below w.heap.size w w' := by
  have HRD := Lib.hid h
  cases h with
  | @mk _ _ _ A li ci K lk ck _ _ V hk hn hs hks hli hlk hbi hbk hA hr hK =>
  have b1 : Below w.heap.size w (w.alloc (.cells #[.int .i64 4, .int .i64 n, .string s, .slice A li ci, .slice K lk ck] 25 (0, 0))) := (Below.refl _ _).alloc (Nat.le_refl _) _
  have B1 := Lib.hid b1
  have HTW : Hid (Calls Tryz.prog 115 #[.slice K lk ck] (w.alloc (.cells #[.int .i64 4, .int .i64 n, .string s, .slice A li ci, .slice K lk ck] 25 (0, 0))) fun e w' => e = .returned (.bool (!decide keys.Nodup)) ∧ Below _ _ w') := Lib.hid (rtwice_any K lk ck keys _ B hlk hbk.1 (hK.kept (b1.mono hB)) (by simp; omega))
  have HNAME : Hid (Calls Tryz.prog 55 #[.string s] (w.alloc (.cells #[.int .i64 4, .int .i64 n, .string s, .slice A li ci, .slice K lk ck] 25 (0, 0))) fun e w' => e = .returned (.bool (nmA s)) ∧ _ = w') := Lib.hid (rname_any s _ (by unfold maxLen; omega))
  have hlm : (li : Int) ≤ 140737488351232 := by omega
  have hlm' : (lk : Int) ≤ 140737488351232 := by omega
  have HL := Lib.hid hli
  have HLK := Lib.hid hlk
  clear hA hr hK hks hn hs hk hli hlk b1 hbi hbk
  by_cases n0 : n = 0
  · subst n0
    by_cases i0 : li = 0
    · have i1 : items.length = 0 := by have := HL.out; omega
      subst i0
      by_cases q0 : lk = 0
      · have q1 : keys.length = 0 := by have := HLK.out; omega
        subst q0
        cases hnm : nmA s
        · skip
          have HV : Hid (rnodeB lit (.mk 4 0 s items keys) = false) := Lib.hid (by simp [rnodeB, leafB, enumB, i1, q1, hnm])
          clear HRD HL HLK
          go_enter Tryz.func54, Tryz.ntmps54
          go_wp2_with fail
          refine HNAME.out.mono ?_
          rintro e w' ⟨rfl, rfl⟩
          rw [hnm]
          go_wp2_with fail
          go_ret
          exact ⟨by rw [HV.out]; rfl, B1.out⟩
        · skip
          by_cases x1 : s = ⟨#[116, 114, 117, 101]⟩
          · have y1 : (s.toList == [116, 114, 117, 101]) = true := by rw [list_eq]; simpa using x1
            have HV : Hid (rnodeB lit (.mk 4 0 s items keys) = false) := Lib.hid (by simp [rnodeB, leafB, enumB, i1, q1, x1])
            clear HRD HL HLK
            clear x1
            go_enter Tryz.func54, Tryz.ntmps54
            go_wp2_with fail
            refine HNAME.out.mono ?_
            rintro e w' ⟨rfl, rfl⟩
            rw [hnm]
            go_wp2_with fail
            go_ret
            exact ⟨by rw [HV.out]; rfl, B1.out⟩
          · have y1 : (s.toList == [116, 114, 117, 101]) = false := by rw [list_eq]; simpa using x1
            by_cases x2 : s = ⟨#[102, 97, 108, 115, 101]⟩
            · have y2 : (s.toList == [102, 97, 108, 115, 101]) = true := by rw [list_eq]; simpa using x2
              have HV : Hid (rnodeB lit (.mk 4 0 s items keys) = false) := Lib.hid (by simp [rnodeB, leafB, enumB, i1, q1, x2])
              clear HRD HL HLK
              clear x1 x2
              go_enter Tryz.func54, Tryz.ntmps54
              go_wp2_with fail
              refine HNAME.out.mono ?_
              rintro e w' ⟨rfl, rfl⟩
              rw [hnm]
              go_wp2_with fail
              go_ret
              exact ⟨by rw [HV.out]; rfl, B1.out⟩
            · have y2 : (s.toList == [102, 97, 108, 115, 101]) = false := by rw [list_eq]; simpa using x2
              by_cases x3 : s = ⟨#[110, 117, 108, 108]⟩
              · have y3 : (s.toList == [110, 117, 108, 108]) = true := by rw [list_eq]; simpa using x3
                have HV : Hid (rnodeB lit (.mk 4 0 s items keys) = false) := Lib.hid (by simp [rnodeB, leafB, enumB, i1, q1, x3])
                clear HRD HL HLK
                clear x1 x2 x3
                go_enter Tryz.func54, Tryz.ntmps54
                go_wp2_with fail
                refine HNAME.out.mono ?_
                rintro e w' ⟨rfl, rfl⟩
                rw [hnm]
                go_wp2_with fail
                go_ret
                exact ⟨by rw [HV.out]; rfl, B1.out⟩
              · have y3 : (s.toList == [110, 117, 108, 108]) = false := by rw [list_eq]; simpa using x3
                have HV : Hid (rnodeB lit (.mk 4 0 s items keys) = true) := Lib.hid (by simp [rnodeB, leafB, enumB, i1, q1, hnm, x1, x2, x3])
                clear HRD HL HLK
                clear x1 x2 x3
                go_enter Tryz.func54, Tryz.ntmps54
                go_wp2_with fail
                refine HNAME.out.mono ?_
                rintro e w' ⟨rfl, rfl⟩
                rw [hnm]
                go_wp2_with fail
                go_ret
                exact ⟨by rw [HV.out]; rfl, B1.out⟩
      · have q1 : ¬ keys.length = 0 := by have := HLK.out; omega
        have q2 : ((lk : Int) == 0) = false := beq_eq_false_iff_ne.2 (by omega)
        clear q0
        have HV : Hid (rnodeB lit (.mk 4 0 s items keys) = false) := Lib.hid (by simp [rnodeB, leafB, enumB, i1, q1])
        clear HRD HL HLK
        go_enter Tryz.func54, Tryz.ntmps54
        go_wp2_with fail
        go_ret
        exact ⟨by rw [HV.out]; rfl, B1.out⟩
    · have i1 : ¬ items.length = 0 := by have := HL.out; omega
      have i2 : ((li : Int) == 0) = false := beq_eq_false_iff_ne.2 (by omega)
      clear i0
      have HV : Hid (rnodeB lit (.mk 4 0 s items keys) = false) := Lib.hid (by simp [rnodeB, leafB, enumB, i1])
      clear HRD HL HLK
      go_enter Tryz.func54, Tryz.ntmps54
      go_wp2_with fail
      go_ret
      exact ⟨by rw [HV.out]; rfl, B1.out⟩
  · have n0' : (n == 0) = false := beq_eq_false_iff_ne.2 n0
    have HV : Hid (rnodeB lit (.mk 4 n s items keys) = false) := Lib.hid (by simp [rnodeB, leafB, enumB, n0])
    clear HRD HL HLK
    go_enter Tryz.func54, Tryz.ntmps54
    go_wp2_with fail
    go_ret
    exact ⟨by rw [HV.out]; rfl, B1.out⟩
end Go.Proofs.YtbacimfbjpimbaaGreatDoor
namespace Go.Proofs.YtbacimfbjpimbaaGreatDoor
open Go.RowKit
theorem all_false_at {α : Type} {l : List α} {p : α → Bool} {k : Nat} {x : α} (h : l[k]? = some x) (hp : p x = false) : l.all p = false := by
  rw [Bool.eq_false_iff]
  intro ha
  have := List.all_eq_true.1 ha x (List.mem_of_getElem? h)
  rw [hp] at this; cases this
theorem all_take_step {α : Type} {l : List α} {p : α → Bool} {k : Nat} {x : α} (h : l[k]? = some x) (ha : (l.take k).all p = true) (hp : p x = true) : (l.take (k + 1)).all p = true := by
  rw [List.take_add_one, h, List.all_append, ha]
  simp [hp]
theorem wholes_all (lit : Bool) : ∀ l : List VT, wholesB lit l = l.all (wholeB lit)
  | [] => rfl
  | t :: u => by rw [wholesB, wholes_all lit u, List.all_cons]
theorem rnode_eq (lit : Bool) (k n : Int) (s : ByteArray) (is : List VT) (ks : List ByteArray) :
    nodeB lit (.mk k n s is ks) = (rnodeB lit (.mk k n s is ks) && (!lit || ks.all nmA)) := by
  unfold nodeB rnodeB
  have e6 : ∀ a b c d e : Bool, (a && b && c && (d && e)) = (a && b && c && e && d) := by decide
  have e4 : ∀ a b c : Bool, (a && b && c) = (a && c && b) := by decide
  by_cases hk : ks = []
  · subst hk
    simp only [List.all_nil, Bool.or_true, Bool.and_true]
    repeat' split
    all_goals first
      | rfl
      | exact e4 _ _ _
      | (cases lit <;> simp [keysB])
      | skip
  · have hl : ks.length ≠ 0 := fun e => hk (List.eq_nil_of_length_eq_zero e)
    have hf : leafB is ks = false := by simp [leafB, hk]
    simp only [hf, Bool.and_false, hl, decide_false]
    repeat' split
    all_goals first
      | rfl
      | exact e6 _ _ _ _ _
      | skip
end Go.Proofs.YtbacimfbjpimbaaGreatDoor
namespace Go.Proofs.YtbacimfbjpimbaaGreatDoor
open Go.RowKit
set_option maxHeartbeats 400000 in
theorem rsize_any (t : VT) : ∀ (w : World) (B : Nat) (v : Value), Rd w B v t → B ≤ w.heap.size → t.size ≤ 2000000 →
    Calls Tryz.prog 9 #[v] w fun e w' => e = .returned (.int .i64 t.size) ∧ Below w.heap.size w w' := by
  induction t using VT.ind with
  | h k n s items keys ih =>
  intro w B v h hB hz
  cases h with
  | @mk _ _ _ A li ci K lk ck _ _ V hk hn hs hks hli hlk hbi hbk hA hr hK =>
  have HA := Lib.hid hA
  have HR := Lib.hid hr
  have IH := Lib.hid ih
  have HL := Lib.hid hli
  have hz1 : 1 + VT.sizes items ≤ 2000000 := hz
  clear hA hr ih hK hks hk hn hs hbk hli hlk hz
  go_enter Tryz.func9, Tryz.ntmps9
  go_wp2_with fail
  go_loopw [3, 4] (fun nn i wr => ∃ j : Nat, j ≤ li ∧ i = .int .i64 j ∧ nn = .int .i64 (1 + (VT.sizes (items.take j) : Int)) ∧ Below w.heap.size w wr ∧ w.heap.size < wr.heap.size ∧ wr.cell? ⟨w.heap.size, 3, none⟩ = some (.slice A li ci)) (fun _ i _ => li - (intOf i).toNat)
  case atStart => exact ⟨0, Nat.zero_le _, rfl, by simp [VT.sizes], (Below.refl _ _).alloc (Nat.le_refl _) _, by simp, by simp [World.cell?_alloc_at]⟩
  case round =>
    obtain ⟨j, hj, rfl, rfl, hb, hsz, hbox⟩ := hrel
    have hlm : (li : Int) ≤ 140737488351232 := by omega
    have HB := Lib.hid hb
    have hz2 := sizes_take_le items (j + 1)
    by_cases hlt : j < li
    · obtain ⟨a, t, k1, n1, s1, A1, li1, ci1, K1, lk1, ck1, rfl, ht, e, hrd, h0, h1, h2, h3, h4⟩ := round_at HA.out HR.out HL.out (hb.mono hB) hlt
      have HST := Lib.hid (sizes_take items j t ht)
      have hzt : VT.sizes (items.take j) + t.size ≤ 1999999 := by have := HST.out; omega
      have HT := Lib.hid ht
      have HRD := Lib.hid hrd
      have E := Lib.hid e
      clear e hrd ht hb
      go_wp2_with fail
      rw [← E.out]
      refine (IH.out j t HT.out _ B _ HRD.out (by omega) (by omega)).mono ?_
      rintro e w1 ⟨rfl, hb1⟩
      have hs1 := hb1.size
      have HB1 := Lib.hid ((HB.out.trans (hb1.mono (by omega))) : Below w.heap.size w w1)
      have hbox1 := (hb1.cell (p := ⟨w.heap.size, 3, none⟩) hsz).trans hbox
      clear hb1
      go_wp2_with fail
      go_roundw
      case rel => exact ⟨j + 1, by omega, by go_num, by rw [HST.out]; go_num, HB1.out, by omega, hbox1⟩
      case measure => simp [intOf]; omega
    · have hji : j = li := by omega
      have HJ : Hid (VT.sizes (items.take j) = VT.sizes items) := Lib.hid (by rw [hji, List.take_of_length_le (by have := HL.out; omega)])
      clear hji hb
      go_wp2_with fail
      go_ret
      exact ⟨by rw [HJ.out]; simp [VT.size], HB.out⟩
set_option maxHeartbeats 400000 in
theorem rdepth_any (t : VT) : ∀ (w : World) (B : Nat) (v : Value), Rd w B v t → B ≤ w.heap.size → t.depth ≤ 2000000 →
    Calls Tryz.prog 25 #[v] w fun e w' => e = .returned (.int .i64 t.depth) ∧ Below w.heap.size w w' := by
  induction t using VT.ind with
  | h k n s items keys ih =>
  intro w B v h hB hz
  cases h with
  | @mk _ _ _ A li ci K lk ck _ _ V hk hn hs hks hli hlk hbi hbk hA hr hK =>
  have HA := Lib.hid hA
  have HR := Lib.hid hr
  have IH := Lib.hid ih
  have HL := Lib.hid hli
  have hz1 : 1 + VT.depths items ≤ 2000000 := hz
  clear hA hr ih hK hks hk hn hs hbk hli hlk hz
  go_enter Tryz.func25, Tryz.ntmps25
  go_wp2_with fail
  go_loopw [3, 4] (fun nn i wr => ∃ j : Nat, j ≤ li ∧ i = .int .i64 j ∧ nn = .int .i64 (VT.depths (items.take j) : Int) ∧ Below w.heap.size w wr ∧ w.heap.size < wr.heap.size ∧ wr.cell? ⟨w.heap.size, 3, none⟩ = some (.slice A li ci)) (fun _ i _ => li - (intOf i).toNat)
  case atStart => exact ⟨0, Nat.zero_le _, rfl, by simp [VT.depths], (Below.refl _ _).alloc (Nat.le_refl _) _, by simp, by simp [World.cell?_alloc_at]⟩
  case round =>
    obtain ⟨j, hj, rfl, rfl, hb, hsz, hbox⟩ := hrel
    have hlm : (li : Int) ≤ 140737488351232 := by omega
    have HB := Lib.hid hb
    have hz2 := depths_take_le items (j + 1)
    by_cases hlt : j < li
    · obtain ⟨a, t, k1, n1, s1, A1, li1, ci1, K1, lk1, ck1, rfl, ht, e, hrd, h0, h1, h2, h3, h4⟩ := round_at HA.out HR.out HL.out (hb.mono hB) hlt
      have HST := Lib.hid (depths_take items j t ht)
      have hzt : max (VT.depths (items.take j)) t.depth ≤ 1999999 := by have := HST.out; omega
      have HT := Lib.hid ht
      have HRD := Lib.hid hrd
      have E := Lib.hid e
      clear e hrd ht hb
      go_wp2_with fail
      rw [← E.out]
      refine (IH.out j t HT.out _ B _ HRD.out (by omega) (by omega)).mono ?_
      rintro e w1 ⟨rfl, hb1⟩
      have hs1 := hb1.size
      have HB1 := Lib.hid ((HB.out.trans (hb1.mono (by omega))) : Below w.heap.size w w1)
      have hbox1 := (hb1.cell (p := ⟨w.heap.size, 3, none⟩) hsz).trans hbox
      clear hb1
      go_wp2_with fail
      go_roundw
      case rel => exact ⟨j + 1, by omega, by go_num, by rw [HST.out]; go_num, HB1.out, by omega, hbox1⟩
      case measure => simp [intOf]; omega
    · have hji : j = li := by omega
      have hz3 := depths_take_le items j
      have HJ : Hid (VT.depths (items.take j) = VT.depths items) := Lib.hid (by rw [hji, List.take_of_length_le (by have := HL.out; omega)])
      clear hji hb
      go_wp2_with fail
      go_ret
      exact ⟨by rw [HJ.out]; simp [VT.depth]; try (try simp only [Int.add_comm]), HB.out⟩
end Go.Proofs.YtbacimfbjpimbaaGreatDoor
