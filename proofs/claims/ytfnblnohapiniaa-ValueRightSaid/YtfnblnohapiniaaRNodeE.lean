/-
  Contract of the reference's node, kinds [4].
-/
import Derived.Test.YtfnblnohapiniaaRNodeD
namespace Go.Proofs.Ytfnblnohapiniaa
open Go.RowKit
set_option maxRecDepth 100000 in
set_option maxHeartbeats 8000000 in
theorem rnode_4 (lit : Bool) (n : Int) (s : ByteArray) (items : List VT) (keys : List ByteArray) (w : World) (B : Nat) (v : Value) (h : Rd w B v (.mk 4 n s items keys)) (hB : B ≤ w.heap.size) :
    Calls Try.prog 61 #[v, .bool lit] w fun e w' => e = .returned (.bool (rnodeB lit (.mk 4 n s items keys))) ∧ Below w.heap.size w w' := by
  have HRD := Lib.hid h
  cases h with
  | @mk _ _ _ A li ci K lk ck _ _ V hk hn hs hks hli hlk hbi hbk hA hr hK =>
  have b1 : Below w.heap.size w (w.alloc (.cells #[.int .i64 4, .int .i64 n, .string s, .slice A li ci, .slice K lk ck] 25 (0, 0))) := (Below.refl _ _).alloc (Nat.le_refl _) _
  have B1 := Lib.hid b1
  have HTW : Hid (Calls Try.prog 51 #[.slice K lk ck] (w.alloc (.cells #[.int .i64 4, .int .i64 n, .string s, .slice A li ci, .slice K lk ck] 25 (0, 0))) fun e w' => e = .returned (.bool (!decide keys.Nodup)) ∧ Below _ _ w') := Lib.hid (rtwice_any K lk ck keys _ B hlk hbk (hK.kept (b1.mono hB)) (by simp; omega))
  have HNAME : Hid (Calls Try.prog 62 #[.string s] (w.alloc (.cells #[.int .i64 4, .int .i64 n, .string s, .slice A li ci, .slice K lk ck] 25 (0, 0))) fun e w' => e = .returned (.bool (nmA s)) ∧ _ = w') := Lib.hid (rname_any s _ (by unfold maxLen; omega))
  have hlm : (li : Int) ≤ 140737488351232 := by omega
  have hlm' : (lk : Int) ≤ 140737488351232 := by omega
  have HL := Lib.hid hli
  have HLK := Lib.hid hlk
  clear hA hr hK hks hn hs hk hli hlk b1 hbi hbk
  by_cases n0 : n = 0
  · subst n0
    by_cases i0 : li = 0
    · have i1 : items.length = 0 := by have := HL.out; omega
      subst i0
      by_cases q0 : lk = 0
      · have q1 : keys.length = 0 := by have := HLK.out; omega
        subst q0
        cases hnm : nmA s
        · skip
          have HV : Hid (rnodeB lit (.mk 4 0 s items keys) = false) := Lib.hid (by simp [rnodeB, leafB, enumB, i1, q1, hnm])
          clear HRD HL HLK
          go_enter Try.func61, Try.ntmps61
          go_wp2_with fail
          refine HNAME.out.mono ?_
          rintro e w' ⟨rfl, rfl⟩
          rw [hnm]
          go_wp2_with fail
          go_ret
          exact ⟨by rw [HV.out]; rfl, B1.out⟩
        · skip
          by_cases x1 : s = ⟨#[116, 114, 117, 101]⟩
          · have y1 : (s.toList == [116, 114, 117, 101]) = true := by rw [list_eq]; simpa using x1
            have HV : Hid (rnodeB lit (.mk 4 0 s items keys) = false) := Lib.hid (by simp [rnodeB, leafB, enumB, i1, q1, x1])
            clear HRD HL HLK
            clear x1
            go_enter Try.func61, Try.ntmps61
            go_wp2_with fail
            refine HNAME.out.mono ?_
            rintro e w' ⟨rfl, rfl⟩
            rw [hnm]
            go_wp2_with fail
            go_ret
            exact ⟨by rw [HV.out]; rfl, B1.out⟩
          · have y1 : (s.toList == [116, 114, 117, 101]) = false := by rw [list_eq]; simpa using x1
            by_cases x2 : s = ⟨#[102, 97, 108, 115, 101]⟩
            · have y2 : (s.toList == [102, 97, 108, 115, 101]) = true := by rw [list_eq]; simpa using x2
              have HV : Hid (rnodeB lit (.mk 4 0 s items keys) = false) := Lib.hid (by simp [rnodeB, leafB, enumB, i1, q1, x2])
              clear HRD HL HLK
              clear x1 x2
              go_enter Try.func61, Try.ntmps61
              go_wp2_with fail
              refine HNAME.out.mono ?_
              rintro e w' ⟨rfl, rfl⟩
              rw [hnm]
              go_wp2_with fail
              go_ret
              exact ⟨by rw [HV.out]; rfl, B1.out⟩
            · have y2 : (s.toList == [102, 97, 108, 115, 101]) = false := by rw [list_eq]; simpa using x2
              by_cases x3 : s = ⟨#[110, 117, 108, 108]⟩
              · have y3 : (s.toList == [110, 117, 108, 108]) = true := by rw [list_eq]; simpa using x3
                have HV : Hid (rnodeB lit (.mk 4 0 s items keys) = false) := Lib.hid (by simp [rnodeB, leafB, enumB, i1, q1, x3])
                clear HRD HL HLK
                clear x1 x2 x3
                go_enter Try.func61, Try.ntmps61
                go_wp2_with fail
                refine HNAME.out.mono ?_
                rintro e w' ⟨rfl, rfl⟩
                rw [hnm]
                go_wp2_with fail
                go_ret
                exact ⟨by rw [HV.out]; rfl, B1.out⟩
              · have y3 : (s.toList == [110, 117, 108, 108]) = false := by rw [list_eq]; simpa using x3
                have HV : Hid (rnodeB lit (.mk 4 0 s items keys) = true) := Lib.hid (by simp [rnodeB, leafB, enumB, i1, q1, hnm, x1, x2, x3])
                clear HRD HL HLK
                clear x1 x2 x3
                go_enter Try.func61, Try.ntmps61
                go_wp2_with fail
                refine HNAME.out.mono ?_
                rintro e w' ⟨rfl, rfl⟩
                rw [hnm]
                go_wp2_with fail
                go_ret
                exact ⟨by rw [HV.out]; rfl, B1.out⟩
      · have q1 : ¬ keys.length = 0 := by have := HLK.out; omega
        have q2 : ((lk : Int) == 0) = false := beq_eq_false_iff_ne.2 (by omega)
        clear q0
        have HV : Hid (rnodeB lit (.mk 4 0 s items keys) = false) := Lib.hid (by simp [rnodeB, leafB, enumB, i1, q1])
        clear HRD HL HLK
        go_enter Try.func61, Try.ntmps61
        go_wp2_with fail
        go_ret
        exact ⟨by rw [HV.out]; rfl, B1.out⟩
    · have i1 : ¬ items.length = 0 := by have := HL.out; omega
      have i2 : ((li : Int) == 0) = false := beq_eq_false_iff_ne.2 (by omega)
      clear i0
      have HV : Hid (rnodeB lit (.mk 4 0 s items keys) = false) := Lib.hid (by simp [rnodeB, leafB, enumB, i1])
      clear HRD HL HLK
      go_enter Try.func61, Try.ntmps61
      go_wp2_with fail
      go_ret
      exact ⟨by rw [HV.out]; rfl, B1.out⟩
  · have n0' : (n == 0) = false := beq_eq_false_iff_ne.2 n0
    have HV : Hid (rnodeB lit (.mk 4 n s items keys) = false) := Lib.hid (by simp [rnodeB, leafB, enumB, n0])
    clear HRD HL HLK
    go_enter Try.func61, Try.ntmps61
    go_wp2_with fail
    go_ret
    exact ⟨by rw [HV.out]; rfl, B1.out⟩
end Go.Proofs.Ytfnblnohapiniaa
