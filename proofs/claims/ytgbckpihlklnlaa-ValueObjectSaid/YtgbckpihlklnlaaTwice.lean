
/-
  Contract of the reference's twice.
-/
import Derived.Test.YtgbckpihlklnlaaDistinct
import Derived.Test.YtgbckpihlklnlaaPast
namespace Go.Proofs.Ytgbckpihlklnlaa
open Go.RowKit
set_option maxHeartbeats 1000000 in
theorem rtwice_any (K : Option Addr) (lk ck : Nat) (keys : List ByteArray) (w : World) (B : Nat) (hlk : keys.length = lk) (hbk : lk * 16 ≤ 140737488351232) (hK : KeysAt w B K keys) (hB : B ≤ w.heap.size) :
    Calls Try.prog 26 #[.slice K lk ck] w fun e w' => e = .returned (.bool (!decide keys.Nodup)) ∧ Below w.heap.size w w' := by
  have HL := Lib.hid hlk
  have HK : Hid (0 < lk → ∃ a, K = some a ∧ ∀ W, Below w.heap.size w W → ∀ i s, keys[i]? = some s → W.cell? (a.add i) = some (.string s)) := Lib.hid (fun h0 => by
    obtain ⟨a, e, hab, hc⟩ := hK (by omega)
    exact ⟨a, e, fun W hb i s hi => (hb.cell (p := a.add i) (by rw [add_block]; omega)).trans (hc i s hi)⟩)
  have hlm : (lk : Int) ≤ 140737488351232 := by omega
  clear hlk hK
  go_enter Try.func26, Try.ntmps26
  go_wp2_with fail
  go_loopw [3] (fun i wr => ∃ j : Nat, j ≤ lk ∧ i = .int .i64 j ∧ (keys.take j).Nodup ∧ Below w.heap.size w wr) (fun i _ => lk - (intOf i).toNat)
  case atStart => exact ⟨0, Nat.zero_le _, rfl, List.nodup_nil, Below.refl _ _⟩
  case round =>
    obtain ⟨j, hj, rfl, hnd, hb⟩ := hrel
    have HND := Lib.hid hnd
    have HB := Lib.hid hb
    clear hnd hb
    by_cases hlt : j < lk
    · obtain ⟨a, rfl, hc⟩ := HK.out (by omega)
      have hjl : j < keys.length := by have := HL.out; omega
      have HC := Lib.hid hc
      have HSN := Lib.hid (nodup_snoc hjl)
      have HJ : Hid (∀ W, Below w.heap.size w W → W.cell? (a.add j) = some (.string keys[j])) := Lib.hid fun W hb => hc W hb j _ (List.getElem?_eq_getElem hjl)
      clear hc
      generalize hs : keys[j] = s at *
      clear hs
      go_wp2_with fail
      go_loopw [4] (fun k wr => ∃ m : Nat, m ≤ j ∧ k = .int .i64 m ∧ s ∉ keys.take m ∧ Below w.heap.size w wr) (fun k _ => j - (intOf k).toNat)
      case atStart => exact ⟨0, Nat.zero_le _, rfl, by simp, HB.out⟩
      case round =>
        obtain ⟨m, hm, rfl, hni, hb2⟩ := hrel
        have HNI := Lib.hid hni
        have HB2 := Lib.hid hb2
        clear hni hb2
        by_cases hmj : m < j
        · have hml : m < keys.length := by omega
          have HM : Hid (∀ W, Below w.heap.size w W → W.cell? (a.add m) = some (.string keys[m])) := Lib.hid fun W hb => HC.out W hb m _ (List.getElem?_eq_getElem hml)
          have HTK : Hid (keys.take (m + 1) = keys.take m ++ [keys[m]]) := Lib.hid (List.take_succ_eq_append_getElem hml)
          have HME : Hid (keys[m] ∈ keys.take j) := Lib.hid (List.mem_take_iff_getElem.2 ⟨m, by omega, rfl⟩)
          generalize keys[m] = u at *
          go_wp2_with fail
          refine wp_region_past (fun W => Below w.heap.size w W) HB2.out (by kernel_rfl) ?_
          intro W hbW _
          have hcj : ∀ x : Past W, x.w.cell? (a.add j) = some (.string s) := fun x => HJ.out x.w (hbW.trans (x.b.mono hbW.size))
          have hcm : ∀ x : Past W, x.w.cell? (a.add m) = some (.string u) := fun x => HM.out x.w (hbW.trans (x.b.mono hbW.size))
          have HW := Lib.hid hbW
          clear hbW
          repeat (go_big_quiet_step (fail))
          refine wpQuiet_nil ?_
          intro _ hw'
          obtain ⟨x, rfl⟩ := hw'
          have HX := Lib.hid (HW.out.trans (x.b.mono HW.out.size))
          by_cases he : s = u
          · have heq : (s.toList == u.toList) = true := by rw [he]; simp
            rw [heq]
            subst he
            clear heq
            have HNO : Hid (decide keys.Nodup = false) := Lib.hid (by
              simp only [decide_eq_false_iff_not]
              intro h
              exact (HSN.out.1 (nodup_take h)).2 HME.out)
            go_wp2_with fail
            go_ret
            exact ⟨by rw [HNO.out]; rfl, HX.out⟩
          · have hne : (s.toList == u.toList) = false := by
              rw [Lib.toList_data, Lib.toList_data, beq_eq_false_iff_ne]
              intro h
              exact he (by cases s; cases u; simp only [ByteArray.mk.injEq]; exact Array.toList_inj.1 h)
            have HNI2 : Hid (s ∉ keys.take (m + 1)) := Lib.hid (by
              rw [HTK.out, List.mem_append]
              rintro (h | h)
              · exact HNI.out h
              · exact he (by simpa using h))
            clear he
            rw [hne]
            go_wp2_with fail
            go_roundw
            case rel => exact ⟨m + 1, by omega, by go_num, HNI2.out, HX.out⟩
            case measure => simp [intOf]; omega
        · have hmj' : m = j := by omega
          subst hmj'
          go_wp2_with fail
          trace_state
          go_roundw
          case rel => exact ⟨m + 1, by omega, by go_num, HSN.out.2 ⟨HND.out, HNI.out⟩, HB2.out⟩
          case measure => simp [intOf]; omega
    · have HJ : Hid (decide keys.Nodup = true) := Lib.hid (by
        have := HND.out
        rw [List.take_of_length_le (by have := HL.out; omega)] at this
        simpa using this)
      go_wp2_with fail
      go_ret
      exact ⟨by rw [HJ.out]; rfl, HB.out⟩
end Go.Proofs.Ytgbckpihlklnlaa
