
/-
  Contract of node.
-/
import Derived.Test.YtcbajgcblfgmgaaDoorMake
namespace Go.Proofs.YtcbajgcblfgmgaaDoor
open Go.RowKit
theorem s_empty {s : ByteArray} (h : s.size = 0) : (s.toList.isEmpty = true) ∧ s.toList = [] ∧ (s.toList == []) = true := by rw [nil_of h]; exact ⟨rfl, rfl, rfl⟩
theorem s_full {s : ByteArray} (h : ¬ s.size = 0) : (s.toList.isEmpty = false) ∧ s.toList ≠ [] ∧ (s.toList == []) = false := by
  have h1 := isEmpty_of (s := s) (by omega)
  exact ⟨h1, ne_nil_of (by omega), beq_eq_false_iff_ne.2 (ne_nil_of (by omega))⟩
set_option maxHeartbeats 4000000 in
theorem node_any (lit : Bool) (r : Int) (c : Nat) (t : VT) (w : World) (B : Nat) (v : Value) (hc : Chk w c lit r) (h : Rd w B v t) (hB : B ≤ w.heap.size) :
    Calls Tryd.prog 20 #[.pointer (some ⟨c, 0, none⟩), v] w fun e w' => e = .returned (.bool (nodeB lit t)) ∧ Below w.heap.size w w' := by
  have HRD := Lib.hid h
  cases h with
  | @mk k n s A li ci K lk ck items keys V hk hn hs hks hli hlk hbi hbk hA hr hK =>
  have b1 : Below w.heap.size w (w.alloc (.cells #[.int .i64 k, .int .i64 n, .string s, .slice A li ci, .slice K lk ck] 25 (0, 0))) := (Below.refl _ _).alloc (Nat.le_refl _) _
  have hcl := hc.lt
  have hc1 := hc.kept b1 hcl
  obtain ⟨c0, c1, c2⟩ := hc1.cells
  have B1 := Lib.hid b1
  have HKEY : Hid (Calls Tryd.prog 37 #[.pointer (some ⟨c, 0, none⟩), .slice K lk ck] _ fun e w' => e = .returned (.bool (keysB lit keys)) ∧ Below _ _ w') := Lib.hid (keys_any lit r c K lk ck keys _ B hc1 hlk hbk hks (hK.kept (b1.mono hB)) (by have := b1.size; omega))
  have HLEAF : Hid (Calls Tryd.prog 35 #[.agg #[.int .i64 k, .int .i64 n, .string s, .slice A li ci, .slice K lk ck]] _ fun e w' => e = .returned (.bool (leafB items keys)) ∧ Below _ _ w') := Lib.hid (isLeaf_any _ _ B _ (HRD.out.kept (b1.mono hB)))
  have HENUM : Hid (Calls Tryd.prog 36 #[.string s] (w.alloc (.cells #[.int .i64 k, .int .i64 n, .string s, .slice A li ci, .slice K lk ck] 25 (0, 0))) fun e w' => e = .returned (.bool (enumB s)) ∧ _ = w') := Lib.hid (isEnumName_any s _ hs)
  have HNAME : Hid (Calls Tryd.prog 38 #[.string s] (w.alloc (.cells #[.int .i64 k, .int .i64 n, .string s, .slice A li ci, .slice K lk ck] 25 (0, 0))) fun e w' => e = .returned (.bool (nmA s)) ∧ _ = w') := Lib.hid (name_any s _ (by unfold maxLen; omega))
  have hlm : (li : Int) ≤ 140737488351232 := by omega
  have hlm' : (lk : Int) ≤ 140737488351232 := by omega
  have HL := Lib.hid hli
  have HLK := Lib.hid hlk
  clear hA hr hK hks hn hs hk hli hlk b1 hc hc1
  by_cases k0 : k = 0
  · subst k0
    by_cases n0 : n = 0
    · subst n0
      by_cases s0 : s.size = 0
      · obtain ⟨s1, s2, s3⟩ := s_empty s0
        have HV : Hid (nodeB lit (.mk 0 0 s items keys) = leafB items keys) := Lib.hid (by simp [nodeB, s0])
        clear HRD HL HLK
        clear s0
        go_enter Tryd.func20, Tryd.ntmps20
        go_wp2_with fail
        refine HLEAF.out.mono ?_
        rintro e w' ⟨rfl, hb⟩
        have HB := Lib.hid (B1.out.trans (hb.mono B1.out.size))
        clear hb
        go_wp2_with fail
        go_ret
        exact ⟨by rw [HV.out]; rfl, HB.out⟩
      · obtain ⟨s1, s2, s3⟩ := s_full s0
        have HV : Hid (nodeB lit (.mk 0 0 s items keys) = false) := Lib.hid (by simp [nodeB, s0])
        clear HRD HL HLK
        clear s0
        go_enter Tryd.func20, Tryd.ntmps20
        go_wp2_with fail
        go_ret
        exact ⟨by rw [HV.out]; rfl, B1.out⟩
    · have n0' : (n == 0) = false := beq_eq_false_iff_ne.2 n0
      have HV : Hid (nodeB lit (.mk 0 n s items keys) = false) := Lib.hid (by simp [nodeB, n0])
      clear HRD HL HLK
      clear n0
      go_enter Tryd.func20, Tryd.ntmps20
      go_wp2_with fail
      go_ret
      exact ⟨by rw [HV.out]; rfl, B1.out⟩
  have k0' : (k == 0) = false := beq_eq_false_iff_ne.2 k0
  by_cases k1 : k = 1
  · subst k1
    by_cases n0 : n = 0
    · subst n0
      by_cases s0 : s.size = 0
      · obtain ⟨s1, s2, s3⟩ := s_empty s0
        have HV : Hid (nodeB lit (.mk 1 0 s items keys) = leafB items keys) := Lib.hid (by simp [nodeB, s0])
        clear HRD HL HLK
        clear s0
        go_enter Tryd.func20, Tryd.ntmps20
        go_wp2_with fail
        refine HLEAF.out.mono ?_
        rintro e w' ⟨rfl, hb⟩
        have HB := Lib.hid (B1.out.trans (hb.mono B1.out.size))
        clear hb
        go_wp2_with fail
        go_ret
        exact ⟨by rw [HV.out]; rfl, HB.out⟩
      · obtain ⟨s1, s2, s3⟩ := s_full s0
        have HV : Hid (nodeB lit (.mk 1 0 s items keys) = false) := Lib.hid (by simp [nodeB, s0])
        clear HRD HL HLK
        clear s0
        go_enter Tryd.func20, Tryd.ntmps20
        go_wp2_with fail
        go_ret
        exact ⟨by rw [HV.out]; rfl, B1.out⟩
    · have n0' : (n == 0) = false := beq_eq_false_iff_ne.2 n0
      by_cases n1 : n = 1
      · subst n1
        by_cases s0 : s.size = 0
        · obtain ⟨s1, s2, s3⟩ := s_empty s0
          have HV : Hid (nodeB lit (.mk 1 1 s items keys) = leafB items keys) := Lib.hid (by simp [nodeB, s0])
          clear HRD HL HLK
          clear s0
          go_enter Tryd.func20, Tryd.ntmps20
          go_wp2_with fail
          refine HLEAF.out.mono ?_
          rintro e w' ⟨rfl, hb⟩
          have HB := Lib.hid (B1.out.trans (hb.mono B1.out.size))
          clear hb
          go_wp2_with fail
          go_ret
          exact ⟨by rw [HV.out]; rfl, HB.out⟩
        · obtain ⟨s1, s2, s3⟩ := s_full s0
          have HV : Hid (nodeB lit (.mk 1 1 s items keys) = false) := Lib.hid (by simp [nodeB, s0])
          clear HRD HL HLK
          clear s0
          go_enter Tryd.func20, Tryd.ntmps20
          go_wp2_with fail
          go_ret
          exact ⟨by rw [HV.out]; rfl, B1.out⟩
      · have n1' : (n == 1) = false := beq_eq_false_iff_ne.2 n1
        have HV : Hid (nodeB lit (.mk 1 n s items keys) = false) := Lib.hid (by simp [nodeB, n0, n1])
        clear HRD HL HLK
        clear n0
        clear n1
        go_enter Tryd.func20, Tryd.ntmps20
        go_wp2_with fail
        go_ret
        exact ⟨by rw [HV.out]; rfl, B1.out⟩
  have k1' : (k == 1) = false := beq_eq_false_iff_ne.2 k1
  by_cases k2 : k = 2
  · subst k2
    by_cases s0 : s.size = 0
    · obtain ⟨s1, s2, s3⟩ := s_empty s0
      have HV : Hid (nodeB lit (.mk 2 n s items keys) = leafB items keys) := Lib.hid (by simp [nodeB, s0])
      clear HRD HL HLK
      clear s0
      go_enter Tryd.func20, Tryd.ntmps20
      go_wp2_with fail
      refine HLEAF.out.mono ?_
      rintro e w' ⟨rfl, hb⟩
      have HB := Lib.hid (B1.out.trans (hb.mono B1.out.size))
      clear hb
      go_wp2_with fail
      go_ret
      exact ⟨by rw [HV.out]; rfl, HB.out⟩
    · obtain ⟨s1, s2, s3⟩ := s_full s0
      have HV : Hid (nodeB lit (.mk 2 n s items keys) = false) := Lib.hid (by simp [nodeB, s0])
      clear HRD HL HLK
      clear s0
      go_enter Tryd.func20, Tryd.ntmps20
      go_wp2_with fail
      go_ret
      exact ⟨by rw [HV.out]; rfl, B1.out⟩
  have k2' : (k == 2) = false := beq_eq_false_iff_ne.2 k2
  by_cases k3 : k = 3
  · subst k3
    by_cases n0 : n = 0
    · subst n0
      have HV : Hid (nodeB lit (.mk 3 0 s items keys) = leafB items keys) := Lib.hid (by simp [nodeB])
      clear HRD HL HLK
      go_enter Tryd.func20, Tryd.ntmps20
      go_wp2_with fail
      refine HLEAF.out.mono ?_
      rintro e w' ⟨rfl, hb⟩
      have HB := Lib.hid (B1.out.trans (hb.mono B1.out.size))
      clear hb
      go_wp2_with fail
      go_ret
      exact ⟨by rw [HV.out]; rfl, HB.out⟩
    · have n0' : (n == 0) = false := beq_eq_false_iff_ne.2 n0
      have HV : Hid (nodeB lit (.mk 3 n s items keys) = false) := Lib.hid (by simp [nodeB, n0])
      clear HRD HL HLK
      clear n0
      go_enter Tryd.func20, Tryd.ntmps20
      go_wp2_with fail
      go_ret
      exact ⟨by rw [HV.out]; rfl, B1.out⟩
  have k3' : (k == 3) = false := beq_eq_false_iff_ne.2 k3
  by_cases k4 : k = 4
  · subst k4
    by_cases n0 : n = 0
    · subst n0
      cases q : enumB s
      · rw [q] at HENUM
        have HV : Hid (nodeB lit (.mk 4 0 s items keys) = false) := Lib.hid (by simp [nodeB, q])
        clear HRD HL HLK
        clear q
        go_enter Tryd.func20, Tryd.ntmps20
        go_wp2_with fail
        refine HENUM.out.mono ?_
        rintro e w' ⟨rfl, rfl⟩
        go_wp2_with fail
        go_ret
        exact ⟨by rw [HV.out]; rfl, B1.out⟩
      · rw [q] at HENUM
        have HV : Hid (nodeB lit (.mk 4 0 s items keys) = leafB items keys) := Lib.hid (by simp [nodeB, q])
        clear HRD HL HLK
        clear q
        go_enter Tryd.func20, Tryd.ntmps20
        go_wp2_with fail
        refine HENUM.out.mono ?_
        rintro e w' ⟨rfl, rfl⟩
        go_wp2_with fail
        refine HLEAF.out.mono ?_
        rintro e w' ⟨rfl, hb⟩
        have HB := Lib.hid (B1.out.trans (hb.mono B1.out.size))
        clear hb
        go_wp2_with fail
        go_ret
        exact ⟨by rw [HV.out]; rfl, HB.out⟩
    · have n0' : (n == 0) = false := beq_eq_false_iff_ne.2 n0
      have HV : Hid (nodeB lit (.mk 4 n s items keys) = false) := Lib.hid (by simp [nodeB, n0])
      clear HRD HL HLK
      clear n0
      go_enter Tryd.func20, Tryd.ntmps20
      go_wp2_with fail
      go_ret
      exact ⟨by rw [HV.out]; rfl, B1.out⟩
  have k4' : (k == 4) = false := beq_eq_false_iff_ne.2 k4
  by_cases k5 : k = 5
  · subst k5
    by_cases n0 : n = 0
    · subst n0
      by_cases s0 : s.size = 0
      · obtain ⟨s1, s2, s3⟩ := s_empty s0
        by_cases k0 : lk = 0
        · subst k0
          have HV : Hid (nodeB lit (.mk 5 0 s items keys) = true) := Lib.hid (by simp [nodeB, s0, HLK.out])
          clear HRD HL HLK
          clear s0
          go_enter Tryd.func20, Tryd.ntmps20
          go_wp2_with fail
          go_ret
          exact ⟨by rw [HV.out]; rfl, B1.out⟩
        · have k1 : decide (lk = 0) = false := by simpa using k0
          have k2 : ((lk : Int) == 0) = false := by rw [beq_eq_false_iff_ne]; omega
          have HV : Hid (nodeB lit (.mk 5 0 s items keys) = false) := Lib.hid (by simp [nodeB, s0, HLK.out, k0])
          clear HRD HL HLK
          clear s0
          clear k0
          go_enter Tryd.func20, Tryd.ntmps20
          go_wp2_with fail
          go_ret
          exact ⟨by rw [HV.out]; rfl, B1.out⟩
      · obtain ⟨s1, s2, s3⟩ := s_full s0
        have HV : Hid (nodeB lit (.mk 5 0 s items keys) = false) := Lib.hid (by simp [nodeB, s0])
        clear HRD HL HLK
        clear s0
        go_enter Tryd.func20, Tryd.ntmps20
        go_wp2_with fail
        go_ret
        exact ⟨by rw [HV.out]; rfl, B1.out⟩
    · have n0' : (n == 0) = false := beq_eq_false_iff_ne.2 n0
      have HV : Hid (nodeB lit (.mk 5 n s items keys) = false) := Lib.hid (by simp [nodeB, n0])
      clear HRD HL HLK
      clear n0
      go_enter Tryd.func20, Tryd.ntmps20
      go_wp2_with fail
      go_ret
      exact ⟨by rw [HV.out]; rfl, B1.out⟩
  have k5' : (k == 5) = false := beq_eq_false_iff_ne.2 k5
  by_cases k6 : k = 6
  · subst k6
    by_cases n0 : n = 0
    · subst n0
      by_cases s0 : s.size = 0
      · obtain ⟨s1, s2, s3⟩ := s_empty s0
        by_cases k0 : lk = li
        · subst k0
          have HV : Hid (nodeB lit (.mk 6 0 s items keys) = keysB lit keys) := Lib.hid (by simp [nodeB, s0, HL.out, HLK.out])
          clear HRD HL HLK
          clear s0
          go_enter Tryd.func20, Tryd.ntmps20
          go_wp2_with fail
          refine HKEY.out.mono ?_
          rintro e w' ⟨rfl, hb⟩
          have HB := Lib.hid (B1.out.trans (hb.mono B1.out.size))
          clear hb
          go_wp2_with fail
          go_ret
          exact ⟨by rw [HV.out]; rfl, HB.out⟩
        · have k1 : decide (lk = li) = false := by simpa using k0
          have k2 : ((lk : Int) == (li : Int)) = false := by rw [beq_eq_false_iff_ne]; omega
          have k3 : (lk == li) = false := by rw [beq_eq_false_iff_ne]; omega
          have HV : Hid (nodeB lit (.mk 6 0 s items keys) = false) := Lib.hid (by simp [nodeB, s0, HL.out, HLK.out, k0])
          clear HRD HL HLK
          clear s0
          clear k0
          go_enter Tryd.func20, Tryd.ntmps20
          go_wp2_with fail
          go_ret
          exact ⟨by rw [HV.out]; rfl, B1.out⟩
      · obtain ⟨s1, s2, s3⟩ := s_full s0
        have HV : Hid (nodeB lit (.mk 6 0 s items keys) = false) := Lib.hid (by simp [nodeB, s0])
        clear HRD HL HLK
        clear s0
        go_enter Tryd.func20, Tryd.ntmps20
        go_wp2_with fail
        go_ret
        exact ⟨by rw [HV.out]; rfl, B1.out⟩
    · have n0' : (n == 0) = false := beq_eq_false_iff_ne.2 n0
      have HV : Hid (nodeB lit (.mk 6 n s items keys) = false) := Lib.hid (by simp [nodeB, n0])
      clear HRD HL HLK
      clear n0
      go_enter Tryd.func20, Tryd.ntmps20
      go_wp2_with fail
      go_ret
      exact ⟨by rw [HV.out]; rfl, B1.out⟩
  have k6' : (k == 6) = false := beq_eq_false_iff_ne.2 k6
  by_cases k7 : k = 7
  · subst k7
    cases lit
    · skip
      have HV : Hid (nodeB false (.mk 7 n s items keys) = false) := Lib.hid (by simp [nodeB])
      clear HRD HL HLK
      go_enter Tryd.func20, Tryd.ntmps20
      go_wp2_with fail
      go_ret
      exact ⟨by rw [HV.out]; rfl, B1.out⟩
    · skip
      by_cases n0 : n = 0
      · subst n0
        cases q : nmA s
        · rw [q] at HNAME
          have HV : Hid (nodeB true (.mk 7 0 s items keys) = false) := Lib.hid (by simp [nodeB, q])
          clear HRD HL HLK
          clear q
          go_enter Tryd.func20, Tryd.ntmps20
          go_wp2_with fail
          refine HNAME.out.mono ?_
          rintro e w' ⟨rfl, rfl⟩
          go_wp2_with fail
          go_ret
          exact ⟨by rw [HV.out]; rfl, B1.out⟩
        · rw [q] at HNAME
          have HV : Hid (nodeB true (.mk 7 0 s items keys) = leafB items keys) := Lib.hid (by simp [nodeB, q])
          clear HRD HL HLK
          clear q
          go_enter Tryd.func20, Tryd.ntmps20
          go_wp2_with fail
          refine HNAME.out.mono ?_
          rintro e w' ⟨rfl, rfl⟩
          go_wp2_with fail
          refine HLEAF.out.mono ?_
          rintro e w' ⟨rfl, hb⟩
          have HB := Lib.hid (B1.out.trans (hb.mono B1.out.size))
          clear hb
          go_wp2_with fail
          go_ret
          exact ⟨by rw [HV.out]; rfl, HB.out⟩
      · have n0' : (n == 0) = false := beq_eq_false_iff_ne.2 n0
        have HV : Hid (nodeB true (.mk 7 n s items keys) = false) := Lib.hid (by simp [nodeB, n0])
        clear HRD HL HLK
        clear n0
        go_enter Tryd.func20, Tryd.ntmps20
        go_wp2_with fail
        go_ret
        exact ⟨by rw [HV.out]; rfl, B1.out⟩
  have k7' : (k == 7) = false := beq_eq_false_iff_ne.2 k7
  have HV : Hid (nodeB lit (.mk k n s items keys) = false) := Lib.hid (by simp [nodeB, k0, k1, k2, k3, k4, k5, k6, k7])
  clear HRD HL HLK k0 k1 k2 k3 k4 k5 k6 k7
  go_enter Tryd.func20, Tryd.ntmps20
  go_wp2_with fail
  go_ret
  exact ⟨by rw [HV.out]; rfl, B1.out⟩
end Go.Proofs.YtcbajgcblfgmgaaDoor
