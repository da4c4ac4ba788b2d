
/-
  The law TokenPrints.
-/
import Derived.Test.YtpmahimlpajdcaaDoorRPrint
namespace Go.Proofs.YtpmahimlpajdcaaDoor
open Go.RowKit
theorem infoTz : (Tryd.prog.info? 32).map (fun i => (i.zero, i.size, i.bytes)) = some (some (.agg #[.int .i64 0, .string ⟨#[]⟩, .int .i64 0]), 3, 32) := infoT
theorem prints_long (zs : List Tz) (A : Option Addr) (c : Nat) (w : World) (hL : LK w) (h : 200 < zs.length) (hl : zs.length * 32 ≤ 140737488351232) :
    Calls Tryd.prog 4 #[.slice A zs.length c] w fun e w' => e = .returned (.bool true) ∧ Below w.heap.size w w' := by
  have EX := Lib.hid (example_any w hL)
  have g : (zs.length : Int) > 200 := by omega
  clear hL
  go_enter Tryd.func4, Tryd.ntmps4
  go_wp2_with fail
  refine EX.out.mono ?_
  rintro e w2 ⟨rfl, hb⟩
  have HB := Lib.hid hb
  clear hb
  go_wp2_with fail
  go_ret
  exact ⟨rfl, HB.out⟩
set_option maxRecDepth 100000 in
set_option maxHeartbeats 8000000 in
theorem prints_short (zs : List Tz) (A : Option Addr) (c : Nat) (w : World) (hL : LK w) (h : ¬ 200 < zs.length) (hz : ZAt w w.heap.size A zs) :
    Calls Tryd.prog 4 #[.slice A zs.length c] w fun e w' => e = .returned (.bool true) ∧ Below w.heap.size w w' := by
  have HL := Lib.hid hL
  have HA := Lib.hid hz
  have g : ¬ (zs.length : Int) > 200 := by omega
  have HLEN : Hid (zs.length ≤ 200) := Lib.hid (by omega)
  clear hL hz h
  go_enter Tryd.func4, Tryd.ntmps4
  go_wp2_with fail
  go_loopw [3, 4] (fun v i wr => ∃ k : Nat, i = .int .i64 k ∧ k ≤ zs.length ∧ OwnZ 32 wr w.heap.size v (zs.take k) ∧ (∀ p ∈ zs.take k, p.2.1.length ≤ 200) ∧ Below w.heap.size w wr) (fun _ i _ => zs.length - (intOf i).toNat)
  case atStart => exact ⟨0, rfl, Nat.zero_le _, OwnZ.nil _ _ _, fun p hp => by simp at hp, Below.refl _ _⟩
  case round =>
    obtain ⟨k, rfl, hk, hown, htx, hb⟩ := hrel
    have HO := Lib.hid hown
    have HB := Lib.hid hb
    have HTX := Lib.hid htx
    clear hown htx
    by_cases hlt : k < zs.length
    · obtain ⟨a, kd, t, at', rfl, hp, h0, h1, h2⟩ := z_round HA.out HB.out hlt
      have hlt' : (k : Int) < zs.length := by omega
      have HT : Hid (zs.take (k + 1) = zs.take k ++ [(kd, t, at')]) := Lib.hid (by
        obtain ⟨h1, h2⟩ := List.getElem?_eq_some_iff.1 hp
        rw [← h2]; exact (List.take_append_getElem h1).symm)
      have HKK : Hid ((zs.take k).length = k) := Lib.hid (by rw [List.length_take]; omega)
      have EX := Lib.hid (example_any wr (HL.out.below hb))
      have hts : (⟨t.toArray⟩ : ByteArray).size = t.length := by rw [← T1.size_eq]
      have HTS := Lib.hid hts
      obtain ⟨tb, htb⟩ : ∃ tb : ByteArray, (⟨t.toArray⟩ : ByteArray) = tb := ⟨_, rfl⟩
      have HTB := Lib.hid htb
      rw [htb] at h1 HTS
      clear hp hb hts htb
      by_cases h200 : (tb.size : Int) > 200
      · go_wp2_with fail
        refine EX.out.mono ?_
        rintro e w2 ⟨rfl, hb⟩
        have HB2 := Lib.hid (HB.out.trans (hb.mono HB.out.size))
        clear hb
        go_wp2_with fail
        go_ret
        exact ⟨rfl, HB2.out⟩
      · have HTL : Hid (t.length ≤ 200) := Lib.hid (by have := HTS.out; omega)
        have HLK := Lib.hid HLEN.out
        go_wp2_with fail
        obtain ⟨i0, hi, hz0, hz1, hz2⟩ := info_parts infoTz
        have HI := Lib.hid hi
        have HZ0 := Lib.hid hz0
        have HZ1 := Lib.hid hz1
        have HZ2 := Lib.hid hz2
        have hzc : zC [(kd, t, at')] = [.int .i64 kd, .string tb, .int .i64 at'] := by rw [← HTB.out]; rfl
        have HZC := Lib.hid hzc
        clear hi hz0 hz1 hz2 hzc
        go_region_law ((refine step_append_lies _ rfl (.tmp 23) (.tmp 40) 24 rfl w.heap.size 32 i0 (.agg #[.int .i64 0, .string ⟨#[]⟩, .int .i64 0]) 3 32 Tryd.underlying24 HI.out HZ0.out HZ1.out HZ2.out rfl (by decide) _ (zs.take k).length (zC (zs.take k)) rfl (World.ownsRow.drew (World.ownsRow.alloc HO.out _)) _ 1 _ [.int .i64 kd, .string tb, .int .i64 at'] rfl rfl (T1.cells_L _ _ _ _ rfl) (by simp; exact ⟨rfl, rfl, rfl⟩) (by decide) (by have := HKK.out; have := HLEN.out; unfold maxLen; omega) (by have := HKK.out; have := HLEN.out; omega) (by have := HB.out.size; simp; omega) _ rfl ?_); intro g cap w1 q1 q2 q3 q4)
        all_goals
          have HO5 : Hid (OwnZ 32 w1 w.heap.size _ (zs.take (k + 1))) := Lib.hid (by rw [HT.out]; unfold OwnZ; rw [List.length_append, zC_app, HZC.out]; exact q1)
          have HB5 := Lib.hid ((((HB.out.alloc HB.out.size _).drew).grown q2 (by have := HB.out.size; simp; omega) (fun g hg => (HO.out.lt g hg).1)) : Below w.heap.size w w1)
          have HTX5 : Hid (∀ p ∈ zs.take (k + 1), p.2.1.length ≤ 200) := Lib.hid (by
            rw [HT.out]
            intro p hp
            rcases List.mem_append.1 hp with hp | hp
            · exact HTX.out p hp
            · simp at hp; subst hp; exact HTL.out)
          clear q1 q2 q3 q4
          go_wp2_with fail
          go_roundw
          case rel => exact ⟨k + 1, by go_num, by omega, by have := HO5.out; rw [HKK.out] at this; exact this, HTX5.out, HB5.out⟩
          case measure => simp [intOf]; omega
    · have hji : k = zs.length := by omega
      have hlt' : ¬ (k : Int) < zs.length := by omega
      have HT : Hid (zs.take k = zs) := Lib.hid (by rw [hji, List.take_length])
      have hlen := HLEN.out
      have hzok : ZOk zs := ⟨by omega, fun p hp => by have := HTX.out p (by rw [HT.out]; exact hp); omega⟩
      rw [HT.out] at HO
      obtain ⟨A4, c4, rfl, hz4, _⟩ := HO.out.at
      have PR := Lib.hid (print_any zs hzok A4 c4 wr hz4)
      have HZK := Lib.hid hzok
      clear hji hzok hz4
      go_wp2_with fail
      refine PR.out.mono ?_
      rintro e w2 ⟨rfl, hb2⟩
      have HB2 := Lib.hid (HB.out.trans (hb2.mono HB.out.size))
      have RP := Lib.hid (rprint_any zs HZK.out A c w2 (HA.out.stay HB2.out))
      clear hb2 PR
      go_wp2_with fail
      refine RP.out.mono ?_
      rintro e w3 ⟨rfl, hb3⟩
      have HB3 := Lib.hid (HB2.out.trans (hb3.mono HB2.out.size))
      have EX := Lib.hid (example_any w3 (HL.out.below HB3.out))
      clear hb3 RP hb
      go_wp2_with fail
      refine EX.out.mono ?_
      rintro e w4 ⟨rfl, hb4⟩
      have HB4 := Lib.hid (HB3.out.trans (hb4.mono HB3.out.size))
      clear hb4
      go_wp2_with fail
      go_ret
      exact ⟨by first | rfl | simp, HB4.out⟩
theorem prints_any (zs : List Tz) (A : Option Addr) (c : Nat) (w : World) (hL : LK w) (hl : zs.length * 32 ≤ 140737488351232) (hz : ZAt w w.heap.size A zs) :
    Calls Tryd.prog 4 #[.slice A zs.length c] w fun e w' => e = .returned (.bool true) ∧ Below w.heap.size w w' := by
  by_cases h : 200 < zs.length
  · exact prints_long zs A c w hL h hl
  · exact prints_short zs A c w hL h hz
end Go.Proofs.YtpmahimlpajdcaaDoor
