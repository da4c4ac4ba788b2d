/-
  Contract of the reference's node, kinds [0, 1, 2].
-/
import Derived.Test.YtfnblnohapiniaaRNodeD
namespace Go.Proofs.Ytfnblnohapiniaa
open Go.RowKit
set_option maxRecDepth 100000 in
set_option maxHeartbeats 8000000 in
theorem rnode_0 (lit : Bool) (n : Int) (s : ByteArray) (items : List VT) (keys : List ByteArray) (w : World) (B : Nat) (v : Value) (h : Rd w B v (.mk 0 n s items keys)) (hB : B ≤ w.heap.size) :
    Calls Try.prog 61 #[v, .bool lit] w fun e w' => e = .returned (.bool (rnodeB lit (.mk 0 n s items keys))) ∧ Below w.heap.size w w' := by
  have HRD := Lib.hid h
  cases h with
  | @mk _ _ _ A li ci K lk ck _ _ V hk hn hs hks hli hlk hbi hbk hA hr hK =>
  have b1 : Below w.heap.size w (w.alloc (.cells #[.int .i64 0, .int .i64 n, .string s, .slice A li ci, .slice K lk ck] 25 (0, 0))) := (Below.refl _ _).alloc (Nat.le_refl _) _
  have B1 := Lib.hid b1
  have HTW : Hid (Calls Try.prog 51 #[.slice K lk ck] (w.alloc (.cells #[.int .i64 0, .int .i64 n, .string s, .slice A li ci, .slice K lk ck] 25 (0, 0))) fun e w' => e = .returned (.bool (!decide keys.Nodup)) ∧ Below _ _ w') := Lib.hid (rtwice_any K lk ck keys _ B hlk hbk (hK.kept (b1.mono hB)) (by simp; omega))
  have HNAME : Hid (Calls Try.prog 62 #[.string s] (w.alloc (.cells #[.int .i64 0, .int .i64 n, .string s, .slice A li ci, .slice K lk ck] 25 (0, 0))) fun e w' => e = .returned (.bool (nmA s)) ∧ _ = w') := Lib.hid (rname_any s _ (by unfold maxLen; omega))
  have hlm : (li : Int) ≤ 140737488351232 := by omega
  have hlm' : (lk : Int) ≤ 140737488351232 := by omega
  have HL := Lib.hid hli
  have HLK := Lib.hid hlk
  clear hA hr hK hks hn hs hk hli hlk b1 hbi hbk
  by_cases n0 : n = 0
  · subst n0
    by_cases s0 : s.size = 0
    · obtain ⟨s1, s2, s3⟩ := s_empty s0
      by_cases i0 : li = 0
      · have i1 : items.length = 0 := by have := HL.out; omega
        subst i0
        by_cases q0 : lk = 0
        · have q1 : keys.length = 0 := by have := HLK.out; omega
          subst q0
          have HV : Hid (rnodeB lit (.mk 0 0 s items keys) = true) := Lib.hid (by simp [rnodeB, leafB, s0, i1, q1])
          clear HRD HL HLK
          go_enter Try.func61, Try.ntmps61
          go_wp2_with fail
          go_ret
          exact ⟨by rw [HV.out]; rfl, B1.out⟩
        · have q1 : ¬ keys.length = 0 := by have := HLK.out; omega
          have q2 : ((lk : Int) == 0) = false := beq_eq_false_iff_ne.2 (by omega)
          clear q0
          have HV : Hid (rnodeB lit (.mk 0 0 s items keys) = false) := Lib.hid (by simp [rnodeB, leafB, s0, i1, q1])
          clear HRD HL HLK
          go_enter Try.func61, Try.ntmps61
          go_wp2_with fail
          go_ret
          exact ⟨by rw [HV.out]; rfl, B1.out⟩
      · have i1 : ¬ items.length = 0 := by have := HL.out; omega
        have i2 : ((li : Int) == 0) = false := beq_eq_false_iff_ne.2 (by omega)
        clear i0
        have HV : Hid (rnodeB lit (.mk 0 0 s items keys) = false) := Lib.hid (by simp [rnodeB, leafB, s0, i1])
        clear HRD HL HLK
        go_enter Try.func61, Try.ntmps61
        go_wp2_with fail
        go_ret
        exact ⟨by rw [HV.out]; rfl, B1.out⟩
    · obtain ⟨s1, s2, s3⟩ := s_full s0
      have HV : Hid (rnodeB lit (.mk 0 0 s items keys) = false) := Lib.hid (by simp [rnodeB, leafB, s0])
      clear HRD HL HLK
      go_enter Try.func61, Try.ntmps61
      go_wp2_with fail
      go_ret
      exact ⟨by rw [HV.out]; rfl, B1.out⟩
  · have n0' : (n == 0) = false := beq_eq_false_iff_ne.2 n0
    have HV : Hid (rnodeB lit (.mk 0 n s items keys) = false) := Lib.hid (by simp [rnodeB, leafB, n0])
    clear HRD HL HLK
    go_enter Try.func61, Try.ntmps61
    go_wp2_with fail
    go_ret
    exact ⟨by rw [HV.out]; rfl, B1.out⟩
set_option maxRecDepth 100000 in
set_option maxHeartbeats 8000000 in
theorem rnode_1 (lit : Bool) (n : Int) (s : ByteArray) (items : List VT) (keys : List ByteArray) (w : World) (B : Nat) (v : Value) (h : Rd w B v (.mk 1 n s items keys)) (hB : B ≤ w.heap.size) :
    Calls Try.prog 61 #[v, .bool lit] w fun e w' => e = .returned (.bool (rnodeB lit (.mk 1 n s items keys))) ∧ Below w.heap.size w w' := by
  have HRD := Lib.hid h
  cases h with
  | @mk _ _ _ A li ci K lk ck _ _ V hk hn hs hks hli hlk hbi hbk hA hr hK =>
  have b1 : Below w.heap.size w (w.alloc (.cells #[.int .i64 1, .int .i64 n, .string s, .slice A li ci, .slice K lk ck] 25 (0, 0))) := (Below.refl _ _).alloc (Nat.le_refl _) _
  have B1 := Lib.hid b1
  have HTW : Hid (Calls Try.prog 51 #[.slice K lk ck] (w.alloc (.cells #[.int .i64 1, .int .i64 n, .string s, .slice A li ci, .slice K lk ck] 25 (0, 0))) fun e w' => e = .returned (.bool (!decide keys.Nodup)) ∧ Below _ _ w') := Lib.hid (rtwice_any K lk ck keys _ B hlk hbk (hK.kept (b1.mono hB)) (by simp; omega))
  have HNAME : Hid (Calls Try.prog 62 #[.string s] (w.alloc (.cells #[.int .i64 1, .int .i64 n, .string s, .slice A li ci, .slice K lk ck] 25 (0, 0))) fun e w' => e = .returned (.bool (nmA s)) ∧ _ = w') := Lib.hid (rname_any s _ (by unfold maxLen; omega))
  have hlm : (li : Int) ≤ 140737488351232 := by omega
  have hlm' : (lk : Int) ≤ 140737488351232 := by omega
  have HL := Lib.hid hli
  have HLK := Lib.hid hlk
  clear hA hr hK hks hn hs hk hli hlk b1 hbi hbk
  by_cases n0 : n = 0
  · subst n0
    by_cases s0 : s.size = 0
    · obtain ⟨s1, s2, s3⟩ := s_empty s0
      by_cases i0 : li = 0
      · have i1 : items.length = 0 := by have := HL.out; omega
        subst i0
        by_cases q0 : lk = 0
        · have q1 : keys.length = 0 := by have := HLK.out; omega
          subst q0
          have HV : Hid (rnodeB lit (.mk 1 0 s items keys) = true) := Lib.hid (by simp [rnodeB, leafB, s0, i1, q1])
          clear HRD HL HLK
          go_enter Try.func61, Try.ntmps61
          go_wp2_with fail
          go_ret
          exact ⟨by rw [HV.out]; rfl, B1.out⟩
        · have q1 : ¬ keys.length = 0 := by have := HLK.out; omega
          have q2 : ((lk : Int) == 0) = false := beq_eq_false_iff_ne.2 (by omega)
          clear q0
          have HV : Hid (rnodeB lit (.mk 1 0 s items keys) = false) := Lib.hid (by simp [rnodeB, leafB, s0, i1, q1])
          clear HRD HL HLK
          go_enter Try.func61, Try.ntmps61
          go_wp2_with fail
          go_ret
          exact ⟨by rw [HV.out]; rfl, B1.out⟩
      · have i1 : ¬ items.length = 0 := by have := HL.out; omega
        have i2 : ((li : Int) == 0) = false := beq_eq_false_iff_ne.2 (by omega)
        clear i0
        have HV : Hid (rnodeB lit (.mk 1 0 s items keys) = false) := Lib.hid (by simp [rnodeB, leafB, s0, i1])
        clear HRD HL HLK
        go_enter Try.func61, Try.ntmps61
        go_wp2_with fail
        go_ret
        exact ⟨by rw [HV.out]; rfl, B1.out⟩
    · obtain ⟨s1, s2, s3⟩ := s_full s0
      have HV : Hid (rnodeB lit (.mk 1 0 s items keys) = false) := Lib.hid (by simp [rnodeB, leafB, s0])
      clear HRD HL HLK
      go_enter Try.func61, Try.ntmps61
      go_wp2_with fail
      go_ret
      exact ⟨by rw [HV.out]; rfl, B1.out⟩
  · have n0' : (n == 0) = false := beq_eq_false_iff_ne.2 n0
    by_cases n1 : n = 1
    · subst n1
      by_cases s0 : s.size = 0
      · obtain ⟨s1, s2, s3⟩ := s_empty s0
        by_cases i0 : li = 0
        · have i1 : items.length = 0 := by have := HL.out; omega
          subst i0
          by_cases q0 : lk = 0
          · have q1 : keys.length = 0 := by have := HLK.out; omega
            subst q0
            have HV : Hid (rnodeB lit (.mk 1 1 s items keys) = true) := Lib.hid (by simp [rnodeB, leafB, s0, i1, q1])
            clear HRD HL HLK
            go_enter Try.func61, Try.ntmps61
            go_wp2_with fail
            go_ret
            exact ⟨by rw [HV.out]; rfl, B1.out⟩
          · have q1 : ¬ keys.length = 0 := by have := HLK.out; omega
            have q2 : ((lk : Int) == 0) = false := beq_eq_false_iff_ne.2 (by omega)
            clear q0
            have HV : Hid (rnodeB lit (.mk 1 1 s items keys) = false) := Lib.hid (by simp [rnodeB, leafB, s0, i1, q1])
            clear HRD HL HLK
            go_enter Try.func61, Try.ntmps61
            go_wp2_with fail
            go_ret
            exact ⟨by rw [HV.out]; rfl, B1.out⟩
        · have i1 : ¬ items.length = 0 := by have := HL.out; omega
          have i2 : ((li : Int) == 0) = false := beq_eq_false_iff_ne.2 (by omega)
          clear i0
          have HV : Hid (rnodeB lit (.mk 1 1 s items keys) = false) := Lib.hid (by simp [rnodeB, leafB, s0, i1])
          clear HRD HL HLK
          go_enter Try.func61, Try.ntmps61
          go_wp2_with fail
          go_ret
          exact ⟨by rw [HV.out]; rfl, B1.out⟩
      · obtain ⟨s1, s2, s3⟩ := s_full s0
        have HV : Hid (rnodeB lit (.mk 1 1 s items keys) = false) := Lib.hid (by simp [rnodeB, leafB, s0])
        clear HRD HL HLK
        go_enter Try.func61, Try.ntmps61
        go_wp2_with fail
        go_ret
        exact ⟨by rw [HV.out]; rfl, B1.out⟩
    · have n1' : (n == 1) = false := beq_eq_false_iff_ne.2 n1
      have HV : Hid (rnodeB lit (.mk 1 n s items keys) = false) := Lib.hid (by simp [rnodeB, leafB, n0, n1])
      clear HRD HL HLK
      go_enter Try.func61, Try.ntmps61
      go_wp2_with fail
      go_ret
      exact ⟨by rw [HV.out]; rfl, B1.out⟩
set_option maxRecDepth 100000 in
set_option maxHeartbeats 8000000 in
theorem rnode_2 (lit : Bool) (n : Int) (s : ByteArray) (items : List VT) (keys : List ByteArray) (w : World) (B : Nat) (v : Value) (h : Rd w B v (.mk 2 n s items keys)) (hB : B ≤ w.heap.size) :
    Calls Try.prog 61 #[v, .bool lit] w fun e w' => e = .returned (.bool (rnodeB lit (.mk 2 n s items keys))) ∧ Below w.heap.size w w' := by
  have HRD := Lib.hid h
  cases h with
  | @mk _ _ _ A li ci K lk ck _ _ V hk hn hs hks hli hlk hbi hbk hA hr hK =>
  have b1 : Below w.heap.size w (w.alloc (.cells #[.int .i64 2, .int .i64 n, .string s, .slice A li ci, .slice K lk ck] 25 (0, 0))) := (Below.refl _ _).alloc (Nat.le_refl _) _
  have B1 := Lib.hid b1
  have HTW : Hid (Calls Try.prog 51 #[.slice K lk ck] (w.alloc (.cells #[.int .i64 2, .int .i64 n, .string s, .slice A li ci, .slice K lk ck] 25 (0, 0))) fun e w' => e = .returned (.bool (!decide keys.Nodup)) ∧ Below _ _ w') := Lib.hid (rtwice_any K lk ck keys _ B hlk hbk (hK.kept (b1.mono hB)) (by simp; omega))
  have HNAME : Hid (Calls Try.prog 62 #[.string s] (w.alloc (.cells #[.int .i64 2, .int .i64 n, .string s, .slice A li ci, .slice K lk ck] 25 (0, 0))) fun e w' => e = .returned (.bool (nmA s)) ∧ _ = w') := Lib.hid (rname_any s _ (by unfold maxLen; omega))
  have hlm : (li : Int) ≤ 140737488351232 := by omega
  have hlm' : (lk : Int) ≤ 140737488351232 := by omega
  have HL := Lib.hid hli
  have HLK := Lib.hid hlk
  clear hA hr hK hks hn hs hk hli hlk b1 hbi hbk
  by_cases s0 : s.size = 0
  · obtain ⟨s1, s2, s3⟩ := s_empty s0
    by_cases i0 : li = 0
    · have i1 : items.length = 0 := by have := HL.out; omega
      subst i0
      by_cases q0 : lk = 0
      · have q1 : keys.length = 0 := by have := HLK.out; omega
        subst q0
        have HV : Hid (rnodeB lit (.mk 2 n s items keys) = true) := Lib.hid (by simp [rnodeB, leafB, s0, i1, q1])
        clear HRD HL HLK
        go_enter Try.func61, Try.ntmps61
        go_wp2_with fail
        go_ret
        exact ⟨by rw [HV.out]; rfl, B1.out⟩
      · have q1 : ¬ keys.length = 0 := by have := HLK.out; omega
        have q2 : ((lk : Int) == 0) = false := beq_eq_false_iff_ne.2 (by omega)
        clear q0
        have HV : Hid (rnodeB lit (.mk 2 n s items keys) = false) := Lib.hid (by simp [rnodeB, leafB, s0, i1, q1])
        clear HRD HL HLK
        go_enter Try.func61, Try.ntmps61
        go_wp2_with fail
        go_ret
        exact ⟨by rw [HV.out]; rfl, B1.out⟩
    · have i1 : ¬ items.length = 0 := by have := HL.out; omega
      have i2 : ((li : Int) == 0) = false := beq_eq_false_iff_ne.2 (by omega)
      clear i0
      have HV : Hid (rnodeB lit (.mk 2 n s items keys) = false) := Lib.hid (by simp [rnodeB, leafB, s0, i1])
      clear HRD HL HLK
      go_enter Try.func61, Try.ntmps61
      go_wp2_with fail
      go_ret
      exact ⟨by rw [HV.out]; rfl, B1.out⟩
  · obtain ⟨s1, s2, s3⟩ := s_full s0
    have HV : Hid (rnodeB lit (.mk 2 n s items keys) = false) := Lib.hid (by simp [rnodeB, leafB, s0])
    clear HRD HL HLK
    go_enter Try.func61, Try.ntmps61
    go_wp2_with fail
    go_ret
    exact ⟨by rw [HV.out]; rfl, B1.out⟩
end Go.Proofs.Ytfnblnohapiniaa
