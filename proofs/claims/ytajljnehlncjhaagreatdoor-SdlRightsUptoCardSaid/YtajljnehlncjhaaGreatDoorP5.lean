
/-
  Texts joined: Node Chk W1 Open Open2 Bulk.
-/
import Derived.Test.YtajljnehlncjhaaGreatDoorP4
import Derived.Test.YtajljnehlncjhaaGreatDoorP2
import Derived.ChangeArms
import Derived.Deep.Strs
import Derived.SizedLaws
import Derived.ChangeMaps
import Derived.WideShapes
import Derived.OpenShut
import Derived.Test.YtajljnehlncjhaaGreatDoorRows
namespace Go.Proofs.YtajljnehlncjhaaGreatDoor
open Go.RowKit
theorem s_empty {s : ByteArray} (h : s.size = 0) : (s.toList.isEmpty = true) ∧ s.toList = [] ∧ (s.toList == []) = true := by rw [nil_of h]; exact ⟨rfl, rfl, rfl⟩
theorem s_full {s : ByteArray} (h : ¬ s.size = 0) : (s.toList.isEmpty = false) ∧ s.toList ≠ [] ∧ (s.toList == []) = false := by
  have h1 := isEmpty_of (s := s) (by omega)
  exact ⟨h1, ne_nil_of (by omega), beq_eq_false_iff_ne.2 (ne_nil_of (by omega))⟩
set_option maxHeartbeats 4000000 in
theorem node_any (lit : Bool) (r : Int) (c : Nat) (t : VT) (w : World) (B : Nat) (v : Value) (hc : Chk w c lit r) (h : Rd w B v t) (hB : B ≤ w.heap.size) :
    Calls Tryz.prog 208 #[.pointer (some ⟨c, 0, none⟩), v] w fun e w' => e = .returned (.bool (nodeB lit t)) ∧ Below w.heap.size w w' := by
  have HRD := Lib.hid h
  cases h with
  | @mk k n s A li ci K lk ck items keys V hk hn hs hks hli hlk hbi hbk hA hr hK =>
  have b1 : Below w.heap.size w (w.alloc (.cells #[.int .i64 k, .int .i64 n, .string s, .slice A li ci, .slice K lk ck] 53 (0, 0))) := (Below.refl _ _).alloc (Nat.le_refl _) _
  have hcl := hc.lt
  have hc1 := hc.kept b1 hcl
  obtain ⟨c0, c1, c2⟩ := hc1.cells
  have B1 := Lib.hid b1
  have HKEY : Hid (Calls Tryz.prog 215 #[.pointer (some ⟨c, 0, none⟩), .slice K lk ck] _ fun e w' => e = .returned (.bool (keysB lit keys)) ∧ Below _ _ w') := Lib.hid (keys_any lit r c K lk ck keys _ B hc1 hlk hbk hks (hK.kept (b1.mono hB)) (by have := b1.size; omega))
  have HLEAF : Hid (Calls Tryz.prog 213 #[.agg #[.int .i64 k, .int .i64 n, .string s, .slice A li ci, .slice K lk ck]] _ fun e w' => e = .returned (.bool (leafB items keys)) ∧ Below _ _ w') := Lib.hid (isLeaf_any _ _ B _ (HRD.out.kept (b1.mono hB)))
  have HENUM : Hid (Calls Tryz.prog 214 #[.string s] (w.alloc (.cells #[.int .i64 k, .int .i64 n, .string s, .slice A li ci, .slice K lk ck] 53 (0, 0))) fun e w' => e = .returned (.bool (enumB s)) ∧ _ = w') := Lib.hid (isEnumName_any s _ hs)
  have HNAME : Hid (Calls Tryz.prog 56 #[.string s] (w.alloc (.cells #[.int .i64 k, .int .i64 n, .string s, .slice A li ci, .slice K lk ck] 53 (0, 0))) fun e w' => e = .returned (.bool (nmA s)) ∧ _ = w') := Lib.hid (name_any s _ (by unfold maxLen; omega))
  have hlm : (li : Int) ≤ 140737488351232 := by omega
  have hlm' : (lk : Int) ≤ 140737488351232 := by omega
  have HL := Lib.hid hli
  have HLK := Lib.hid hlk
  clear hA hr hK hks hn hs hk hli hlk b1 hc hc1
  by_cases k0 : k = 0
  · subst k0
    by_cases n0 : n = 0
    · subst n0
      by_cases s0 : s.size = 0
      · obtain ⟨s1, s2, s3⟩ := s_empty s0
        have HV : Hid (nodeB lit (.mk 0 0 s items keys) = leafB items keys) := Lib.hid (by simp [nodeB, s0])
        clear HRD HL HLK
        clear s0
        go_enter Tryz.func208, Tryz.ntmps208
        go_wp2_with fail
        refine HLEAF.out.mono ?_
        rintro e w' ⟨rfl, hb⟩
        have HB := Lib.hid (B1.out.trans (hb.mono B1.out.size))
        clear hb
        go_wp2_with fail
        go_ret
        exact ⟨by rw [HV.out]; rfl, HB.out⟩
      · obtain ⟨s1, s2, s3⟩ := s_full s0
        have HV : Hid (nodeB lit (.mk 0 0 s items keys) = false) := Lib.hid (by simp [nodeB, s0])
        clear HRD HL HLK
        clear s0
        go_enter Tryz.func208, Tryz.ntmps208
        go_wp2_with fail
        go_ret
        exact ⟨by rw [HV.out]; rfl, B1.out⟩
    · have n0' : (n == 0) = false := beq_eq_false_iff_ne.2 n0
      have HV : Hid (nodeB lit (.mk 0 n s items keys) = false) := Lib.hid (by simp [nodeB, n0])
      clear HRD HL HLK
      clear n0
      go_enter Tryz.func208, Tryz.ntmps208
      go_wp2_with fail
      go_ret
      exact ⟨by rw [HV.out]; rfl, B1.out⟩
  have k0' : (k == 0) = false := beq_eq_false_iff_ne.2 k0
  by_cases k1 : k = 1
  · subst k1
    by_cases n0 : n = 0
    · subst n0
      by_cases s0 : s.size = 0
      · obtain ⟨s1, s2, s3⟩ := s_empty s0
        have HV : Hid (nodeB lit (.mk 1 0 s items keys) = leafB items keys) := Lib.hid (by simp [nodeB, s0])
        clear HRD HL HLK
        clear s0
        go_enter Tryz.func208, Tryz.ntmps208
        go_wp2_with fail
        refine HLEAF.out.mono ?_
        rintro e w' ⟨rfl, hb⟩
        have HB := Lib.hid (B1.out.trans (hb.mono B1.out.size))
        clear hb
        go_wp2_with fail
        go_ret
        exact ⟨by rw [HV.out]; rfl, HB.out⟩
      · obtain ⟨s1, s2, s3⟩ := s_full s0
        have HV : Hid (nodeB lit (.mk 1 0 s items keys) = false) := Lib.hid (by simp [nodeB, s0])
        clear HRD HL HLK
        clear s0
        go_enter Tryz.func208, Tryz.ntmps208
        go_wp2_with fail
        go_ret
        exact ⟨by rw [HV.out]; rfl, B1.out⟩
    · have n0' : (n == 0) = false := beq_eq_false_iff_ne.2 n0
      by_cases n1 : n = 1
      · subst n1
        by_cases s0 : s.size = 0
        · obtain ⟨s1, s2, s3⟩ := s_empty s0
          have HV : Hid (nodeB lit (.mk 1 1 s items keys) = leafB items keys) := Lib.hid (by simp [nodeB, s0])
          clear HRD HL HLK
          clear s0
          go_enter Tryz.func208, Tryz.ntmps208
          go_wp2_with fail
          refine HLEAF.out.mono ?_
          rintro e w' ⟨rfl, hb⟩
          have HB := Lib.hid (B1.out.trans (hb.mono B1.out.size))
          clear hb
          go_wp2_with fail
          go_ret
          exact ⟨by rw [HV.out]; rfl, HB.out⟩
        · obtain ⟨s1, s2, s3⟩ := s_full s0
          have HV : Hid (nodeB lit (.mk 1 1 s items keys) = false) := Lib.hid (by simp [nodeB, s0])
          clear HRD HL HLK
          clear s0
          go_enter Tryz.func208, Tryz.ntmps208
          go_wp2_with fail
          go_ret
          exact ⟨by rw [HV.out]; rfl, B1.out⟩
      · have n1' : (n == 1) = false := beq_eq_false_iff_ne.2 n1
        have HV : Hid (nodeB lit (.mk 1 n s items keys) = false) := Lib.hid (by simp [nodeB, n0, n1])
        clear HRD HL HLK
        clear n0
        clear n1
        go_enter Tryz.func208, Tryz.ntmps208
        go_wp2_with fail
        go_ret
        exact ⟨by rw [HV.out]; rfl, B1.out⟩
  have k1' : (k == 1) = false := beq_eq_false_iff_ne.2 k1
  by_cases k2 : k = 2
  · subst k2
    by_cases s0 : s.size = 0
    · obtain ⟨s1, s2, s3⟩ := s_empty s0
      have HV : Hid (nodeB lit (.mk 2 n s items keys) = leafB items keys) := Lib.hid (by simp [nodeB, s0])
      clear HRD HL HLK
      clear s0
      go_enter Tryz.func208, Tryz.ntmps208
      go_wp2_with fail
      refine HLEAF.out.mono ?_
      rintro e w' ⟨rfl, hb⟩
      have HB := Lib.hid (B1.out.trans (hb.mono B1.out.size))
      clear hb
      go_wp2_with fail
      go_ret
      exact ⟨by rw [HV.out]; rfl, HB.out⟩
    · obtain ⟨s1, s2, s3⟩ := s_full s0
      have HV : Hid (nodeB lit (.mk 2 n s items keys) = false) := Lib.hid (by simp [nodeB, s0])
      clear HRD HL HLK
      clear s0
      go_enter Tryz.func208, Tryz.ntmps208
      go_wp2_with fail
      go_ret
      exact ⟨by rw [HV.out]; rfl, B1.out⟩
  have k2' : (k == 2) = false := beq_eq_false_iff_ne.2 k2
  by_cases k3 : k = 3
  · subst k3
    by_cases n0 : n = 0
    · subst n0
      have HV : Hid (nodeB lit (.mk 3 0 s items keys) = leafB items keys) := Lib.hid (by simp [nodeB])
      clear HRD HL HLK
      go_enter Tryz.func208, Tryz.ntmps208
      go_wp2_with fail
      refine HLEAF.out.mono ?_
      rintro e w' ⟨rfl, hb⟩
      have HB := Lib.hid (B1.out.trans (hb.mono B1.out.size))
      clear hb
      go_wp2_with fail
      go_ret
      exact ⟨by rw [HV.out]; rfl, HB.out⟩
    · have n0' : (n == 0) = false := beq_eq_false_iff_ne.2 n0
      have HV : Hid (nodeB lit (.mk 3 n s items keys) = false) := Lib.hid (by simp [nodeB, n0])
      clear HRD HL HLK
      clear n0
      go_enter Tryz.func208, Tryz.ntmps208
      go_wp2_with fail
      go_ret
      exact ⟨by rw [HV.out]; rfl, B1.out⟩
  have k3' : (k == 3) = false := beq_eq_false_iff_ne.2 k3
  by_cases k4 : k = 4
  · subst k4
    by_cases n0 : n = 0
    · subst n0
      cases q : enumB s
      · rw [q] at HENUM
        have HV : Hid (nodeB lit (.mk 4 0 s items keys) = false) := Lib.hid (by simp [nodeB, q])
        clear HRD HL HLK
        clear q
        go_enter Tryz.func208, Tryz.ntmps208
        go_wp2_with fail
        refine HENUM.out.mono ?_
        rintro e w' ⟨rfl, rfl⟩
        go_wp2_with fail
        go_ret
        exact ⟨by rw [HV.out]; rfl, B1.out⟩
      · rw [q] at HENUM
        have HV : Hid (nodeB lit (.mk 4 0 s items keys) = leafB items keys) := Lib.hid (by simp [nodeB, q])
        clear HRD HL HLK
        clear q
        go_enter Tryz.func208, Tryz.ntmps208
        go_wp2_with fail
        refine HENUM.out.mono ?_
        rintro e w' ⟨rfl, rfl⟩
        go_wp2_with fail
        refine HLEAF.out.mono ?_
        rintro e w' ⟨rfl, hb⟩
        have HB := Lib.hid (B1.out.trans (hb.mono B1.out.size))
        clear hb
        go_wp2_with fail
        go_ret
        exact ⟨by rw [HV.out]; rfl, HB.out⟩
    · have n0' : (n == 0) = false := beq_eq_false_iff_ne.2 n0
      have HV : Hid (nodeB lit (.mk 4 n s items keys) = false) := Lib.hid (by simp [nodeB, n0])
      clear HRD HL HLK
      clear n0
      go_enter Tryz.func208, Tryz.ntmps208
      go_wp2_with fail
      go_ret
      exact ⟨by rw [HV.out]; rfl, B1.out⟩
  have k4' : (k == 4) = false := beq_eq_false_iff_ne.2 k4
  by_cases k5 : k = 5
  · subst k5
    by_cases n0 : n = 0
    · subst n0
      by_cases s0 : s.size = 0
      · obtain ⟨s1, s2, s3⟩ := s_empty s0
        by_cases k0 : lk = 0
        · subst k0
          have HV : Hid (nodeB lit (.mk 5 0 s items keys) = true) := Lib.hid (by simp [nodeB, s0, HLK.out])
          clear HRD HL HLK
          clear s0
          go_enter Tryz.func208, Tryz.ntmps208
          go_wp2_with fail
          go_ret
          exact ⟨by rw [HV.out]; rfl, B1.out⟩
        · have k1 : decide (lk = 0) = false := by simpa using k0
          have k2 : ((lk : Int) == 0) = false := by rw [beq_eq_false_iff_ne]; omega
          have HV : Hid (nodeB lit (.mk 5 0 s items keys) = false) := Lib.hid (by simp [nodeB, s0, HLK.out, k0])
          clear HRD HL HLK
          clear s0
          clear k0
          go_enter Tryz.func208, Tryz.ntmps208
          go_wp2_with fail
          go_ret
          exact ⟨by rw [HV.out]; rfl, B1.out⟩
      · obtain ⟨s1, s2, s3⟩ := s_full s0
        have HV : Hid (nodeB lit (.mk 5 0 s items keys) = false) := Lib.hid (by simp [nodeB, s0])
        clear HRD HL HLK
        clear s0
        go_enter Tryz.func208, Tryz.ntmps208
        go_wp2_with fail
        go_ret
        exact ⟨by rw [HV.out]; rfl, B1.out⟩
    · have n0' : (n == 0) = false := beq_eq_false_iff_ne.2 n0
      have HV : Hid (nodeB lit (.mk 5 n s items keys) = false) := Lib.hid (by simp [nodeB, n0])
      clear HRD HL HLK
      clear n0
      go_enter Tryz.func208, Tryz.ntmps208
      go_wp2_with fail
      go_ret
      exact ⟨by rw [HV.out]; rfl, B1.out⟩
  have k5' : (k == 5) = false := beq_eq_false_iff_ne.2 k5
  by_cases k6 : k = 6
  · subst k6
    by_cases n0 : n = 0
    · subst n0
      by_cases s0 : s.size = 0
      · obtain ⟨s1, s2, s3⟩ := s_empty s0
        by_cases k0 : lk = li
        · subst k0
          have HV : Hid (nodeB lit (.mk 6 0 s items keys) = keysB lit keys) := Lib.hid (by simp [nodeB, s0, HL.out, HLK.out])
          clear HRD HL HLK
          clear s0
          go_enter Tryz.func208, Tryz.ntmps208
          go_wp2_with fail
          refine HKEY.out.mono ?_
          rintro e w' ⟨rfl, hb⟩
          have HB := Lib.hid (B1.out.trans (hb.mono B1.out.size))
          clear hb
          go_wp2_with fail
          go_ret
          exact ⟨by rw [HV.out]; rfl, HB.out⟩
        · have k1 : decide (lk = li) = false := by simpa using k0
          have k2 : ((lk : Int) == (li : Int)) = false := by rw [beq_eq_false_iff_ne]; omega
          have k3 : (lk == li) = false := by rw [beq_eq_false_iff_ne]; omega
          have HV : Hid (nodeB lit (.mk 6 0 s items keys) = false) := Lib.hid (by simp [nodeB, s0, HL.out, HLK.out, k0])
          clear HRD HL HLK
          clear s0
          clear k0
          go_enter Tryz.func208, Tryz.ntmps208
          go_wp2_with fail
          go_ret
          exact ⟨by rw [HV.out]; rfl, B1.out⟩
      · obtain ⟨s1, s2, s3⟩ := s_full s0
        have HV : Hid (nodeB lit (.mk 6 0 s items keys) = false) := Lib.hid (by simp [nodeB, s0])
        clear HRD HL HLK
        clear s0
        go_enter Tryz.func208, Tryz.ntmps208
        go_wp2_with fail
        go_ret
        exact ⟨by rw [HV.out]; rfl, B1.out⟩
    · have n0' : (n == 0) = false := beq_eq_false_iff_ne.2 n0
      have HV : Hid (nodeB lit (.mk 6 n s items keys) = false) := Lib.hid (by simp [nodeB, n0])
      clear HRD HL HLK
      clear n0
      go_enter Tryz.func208, Tryz.ntmps208
      go_wp2_with fail
      go_ret
      exact ⟨by rw [HV.out]; rfl, B1.out⟩
  have k6' : (k == 6) = false := beq_eq_false_iff_ne.2 k6
  by_cases k7 : k = 7
  · subst k7
    cases lit
    · skip
      have HV : Hid (nodeB false (.mk 7 n s items keys) = false) := Lib.hid (by simp [nodeB])
      clear HRD HL HLK
      go_enter Tryz.func208, Tryz.ntmps208
      go_wp2_with fail
      go_ret
      exact ⟨by rw [HV.out]; rfl, B1.out⟩
    · skip
      by_cases n0 : n = 0
      · subst n0
        cases q : nmA s
        · rw [q] at HNAME
          have HV : Hid (nodeB true (.mk 7 0 s items keys) = false) := Lib.hid (by simp [nodeB, q])
          clear HRD HL HLK
          clear q
          go_enter Tryz.func208, Tryz.ntmps208
          go_wp2_with fail
          refine HNAME.out.mono ?_
          rintro e w' ⟨rfl, rfl⟩
          go_wp2_with fail
          go_ret
          exact ⟨by rw [HV.out]; rfl, B1.out⟩
        · rw [q] at HNAME
          have HV : Hid (nodeB true (.mk 7 0 s items keys) = leafB items keys) := Lib.hid (by simp [nodeB, q])
          clear HRD HL HLK
          clear q
          go_enter Tryz.func208, Tryz.ntmps208
          go_wp2_with fail
          refine HNAME.out.mono ?_
          rintro e w' ⟨rfl, rfl⟩
          go_wp2_with fail
          refine HLEAF.out.mono ?_
          rintro e w' ⟨rfl, hb⟩
          have HB := Lib.hid (B1.out.trans (hb.mono B1.out.size))
          clear hb
          go_wp2_with fail
          go_ret
          exact ⟨by rw [HV.out]; rfl, HB.out⟩
      · have n0' : (n == 0) = false := beq_eq_false_iff_ne.2 n0
        have HV : Hid (nodeB true (.mk 7 n s items keys) = false) := Lib.hid (by simp [nodeB, n0])
        clear HRD HL HLK
        clear n0
        go_enter Tryz.func208, Tryz.ntmps208
        go_wp2_with fail
        go_ret
        exact ⟨by rw [HV.out]; rfl, B1.out⟩
  have k7' : (k == 7) = false := beq_eq_false_iff_ne.2 k7
  have HV : Hid (nodeB lit (.mk k n s items keys) = false) := Lib.hid (by simp [nodeB, k0, k1, k2, k3, k4, k5, k6, k7])
  clear HRD HL HLK k0 k1 k2 k3 k4 k5 k6 k7
  go_enter Tryz.func208, Tryz.ntmps208
  go_wp2_with fail
  go_ret
  exact ⟨by rw [HV.out]; rfl, B1.out⟩
end Go.Proofs.YtajljnehlncjhaaGreatDoor
namespace Go.Proofs.YtajljnehlncjhaaGreatDoor
open Go.RowKit
mutual
def VT.chk (lit : Bool) : VT → Nat → Nat → Option Nat
  | .mk k n s is ks, L, r => if L = 0 then none else if is.length ≤ r ∧ nodeB lit (.mk k n s is ks) = true then VT.chks lit is (L - 1) (r - is.length) else none
def VT.chks (lit : Bool) : List VT → Nat → Nat → Option Nat
  | [], _, r => some r
  | t :: u, L, r => match t.chk lit L r with
    | none => none
    | some r' => VT.chks lit u L r'
end
mutual
theorem VT.chk_le {lit : Bool} {t : VT} {L r r' : Nat} (h : t.chk lit L r = some r') : r' ≤ r := by
  cases t with
  | mk k n s is ks =>
    simp only [VT.chk] at h
    split at h
    · cases h
    · split at h
      · have := VT.chks_le h; omega
      · cases h
theorem VT.chks_le {lit : Bool} {l : List VT} {L r r' : Nat} (h : VT.chks lit l L r = some r') : r' ≤ r := by
  cases l with
  | nil => simp [VT.chks] at h; omega
  | cons t u =>
    simp only [VT.chks] at h
    cases q : t.chk lit L r with
    | none => rw [q] at h; cases h
    | some r1 =>
      rw [q] at h
      have h1 := VT.chk_le q
      have h2 := VT.chks_le h
      omega
end
theorem take_yes (c : Nat) (lit : Bool) (r n : Nat) (w : World) (hc : Chk w c lit r) (h : n ≤ r) (_hr : r ≤ 100000) :
    Calls Tryz.prog 207 #[.pointer (some ⟨c, 0, none⟩), .int .i64 n] w fun e w' => e = .returned (.bool true) ∧ w.setCell ⟨c, 1, none⟩ (.int .i64 ((r - n : Nat) : Int)) = w' := by
  obtain ⟨c0, c1, c2⟩ := hc.cells
  have e : ((r - n : Nat) : Int) = (r : Int) - n := by omega
  rw [e]
  have h1 : ¬ (r : Int) < (n : Int) := by omega
  clear hc e
  go_enter Tryz.func207, Tryz.ntmps207
  go_wp2_with fail
  go_ret
  exact ⟨rfl, rfl⟩
theorem take_no (c : Nat) (lit : Bool) (r n : Nat) (w : World) (hc : Chk w c lit r) (h : ¬ n ≤ r) (_hr : r ≤ 100000) :
    Calls Tryz.prog 207 #[.pointer (some ⟨c, 0, none⟩), .int .i64 n] w fun e w' => e = .returned (.bool false) ∧ w = w' := by
  obtain ⟨c0, c1, c2⟩ := hc.cells
  have h1 : (r : Int) < (n : Int) := by omega
  clear hc
  go_enter Tryz.func207, Tryz.ntmps207
  go_wp2_with fail
  go_ret
  exact ⟨rfl, rfl⟩
theorem Chk.set {w : World} {c : Nat} {lit : Bool} {r : Int} (h : Chk w c lit r) (r' : Int) : Chk (w.setCell ⟨c, 1, none⟩ (.int .i64 r')) c lit r' := by
  unfold Chk at h ⊢
  simp [World.setCell, Array.getElem?_modify, h]
def ChkPost (w : World) (c : Nat) (lit : Bool) (o : Option Nat) (e : Ending) (w' : World) : Prop :=
  (match o with | none => e = .returned (.bool false) | some r' => e = .returned (.bool true) ∧ Chk w' c lit r' ) ∧ Below c w w'
def ChkAt (lit : Bool) (t : VT) : Prop := ∀ (c L r : Nat) (w : World) (B : Nat) (v : Value), Chk w c lit r → r ≤ 100000 → L ≤ 1000 → Rd w B v t → B ≤ c →
    Calls Tryz.prog 192 #[.pointer (some ⟨c, 0, none⟩), v, .int .i64 L] w (ChkPost w c lit (t.chk lit L r))
set_option maxHeartbeats 2000000 in
theorem chk_any (lit : Bool) (t : VT) : ChkAt lit t := by
  induction t using VT.ind with
  | h k n s items keys ih =>
  intro c L r w B v hc hr hL h hB
  have HRD := Lib.hid h
  have IH := Lib.hid ih
  clear ih
  cases h with
  | @mk _ _ _ A li ci K lk ck _ _ V hk hn hs hks hli hlk hbi hbk hA hr' hK =>
  have HA := Lib.hid hA
  have HR := Lib.hid hr'
  have HL := Lib.hid hli
  have hlm : (li : Int) ≤ 140737488351232 := by omega
  have hcl := hc.lt
  have b1 : Below w.heap.size w (w.alloc (.cells #[.int .i64 k, .int .i64 n, .string s, .slice A li ci, .slice K lk ck] 53 (0, 0))) := (Below.refl _ _).alloc (Nat.le_refl _) _
  have HC1 := Lib.hid (hc.kept b1 hcl)
  have HX := Lib.hid (Box.new w (.int .i64 k) (.int .i64 n) (.string s) (.slice A li ci) (.slice K lk ck))
  have B1 := Lib.hid b1
  clear hA hr' hli hlk hK hks hn hs hk hc b1
  by_cases l0 : L = 0
  · subst l0
    have HV : Hid ((VT.mk k n s items keys).chk lit 0 r = none) := Lib.hid (by simp [VT.chk])
    go_enter Tryz.func192, Tryz.ntmps192
    go_wp2_with fail
    go_ret
    exact ⟨by rw [HV.out]; rfl, B1.out.mono (by omega)⟩
  have l0' : ((L : Int) == 0) = false := by rw [beq_eq_false_iff_ne]; omega
  have l0'' : decide (L = 0) = false := by simpa using l0
  have hLp : 1 ≤ L := by omega
  by_cases h1 : li ≤ r
  · have HT := Lib.hid (take_yes c lit r li _ HC1.out h1 hr)
    have HC2 := Lib.hid (HC1.out.set ((r - li : Nat) : Int))
    have HX2 := HX.out.set (p := ⟨c, 1, none⟩) (by show w.heap.size ≠ c; omega) (.int .i64 ((r - li : Nat) : Int))
    obtain ⟨x0, x1, x2, x3, x4⟩ := HX2.cells
    have HXH := Lib.hid HX2
    have B2 : Hid (Below c w ((w.alloc (.cells #[.int .i64 k, .int .i64 n, .string s, .slice A li ci, .slice K lk ck] 53 (0, 0))).setCell ⟨c, 1, none⟩ (.int .i64 ((r - li : Nat) : Int)))) := Lib.hid (Below.setCell (p := ⟨c, 1, none⟩) (B1.out.mono (by omega : c ≤ w.heap.size)) (Nat.le_refl _) _)
    have S2 : Hid (w.heap.size + 1 = ((w.alloc (.cells #[.int .i64 k, .int .i64 n, .string s, .slice A li ci, .slice K lk ck] 53 (0, 0))).setCell ⟨c, 1, none⟩ (.int .i64 ((r - li : Nat) : Int))).heap.size) := Lib.hid (by simp [World.setCell])
    generalize (w.alloc (.cells #[.int .i64 k, .int .i64 n, .string s, .slice A li ci, .slice K lk ck] 53 (0, 0))).setCell ⟨c, 1, none⟩ (.int .i64 ((r - li : Nat) : Int)) = w2 at *
    have HN := Lib.hid (node_any lit _ c _ w2 B _ HC2.out (HRD.out.kept (B2.out.mono hB)) (by have := B2.out.size; omega))
    clear HX2
    cases q : nodeB lit (.mk k n s items keys)
    · have HV : Hid ((VT.mk k n s items keys).chk lit L r = none) := Lib.hid (by simp only [VT.chk]; rw [if_neg l0, if_neg (by rw [q]; simp)])
      rw [q] at HN
      clear l0 q
      go_enter Tryz.func192, Tryz.ntmps192
      go_wp2_with fail
      refine HT.out.mono ?_
      rintro e w' ⟨rfl, rfl⟩
      go_wp2_with fail
      refine HN.out.mono ?_
      rintro e w' ⟨rfl, hb⟩
      have HB3 := Lib.hid (B2.out.trans (hb.mono (by have := S2.out; omega)))
      clear hb
      go_wp2_with fail
      go_ret
      exact ⟨by rw [HV.out]; rfl, HB3.out⟩
    · have HV : Hid ((VT.mk k n s items keys).chk lit L r = VT.chks lit items (L - 1) (r - li)) := Lib.hid (by simp only [VT.chk]; rw [if_neg l0, if_pos ⟨by have := HL.out; omega, q⟩, HL.out])
      rw [q] at HN
      clear l0 q
      go_enter Tryz.func192, Tryz.ntmps192
      go_wp2_with fail
      refine HT.out.mono ?_
      rintro e w' ⟨rfl, rfl⟩
      go_wp2_with fail
      refine HN.out.mono ?_
      rintro e w3 ⟨rfl, hb⟩
      have hs3 := hb.size
      have HB3 := Lib.hid (B2.out.trans (hb.mono (by have := S2.out; omega)))
      have HC3 := Lib.hid (HC2.out.kept hb (by have := S2.out; omega))
      obtain ⟨y0, y1, y2, y3, y4⟩ := (HXH.out.kept hb).cells
      clear hb x0 x1 x2 x3 x4
      go_wp2_with fail
      clear y0 y1 y2 y3 y4
      go_loopw [28] (fun i wr => ∃ (j rr : Nat), j ≤ li ∧ rr ≤ 100000 ∧ i = .int .i64 j ∧ VT.chks lit items (L - 1) (r - li) = VT.chks lit (items.drop j) (L - 1) rr ∧ Chk wr c lit rr ∧ Below c w wr) (fun i _ => li - (intOf i).toNat)
      case atStart => exact ⟨0, r - li, Nat.zero_le _, by omega, rfl, rfl, HC3.out, HB3.out⟩
      case round =>
        obtain ⟨j, rr, hj, hrr, rfl, hch, hck, hb⟩ := hrel
        have HCH := Lib.hid hch
        have HCK := Lib.hid hck
        have HB := Lib.hid hb
        have hcl2 := hck.lt
        clear hch hck
        by_cases hlt : j < li
        · obtain ⟨a, t, k1, n1, s1, A1, li1, ci1, K1, lk1, ck1, rfl, ht, e, hrd, h0, h1, h2, h3, h4⟩ := round_at HA.out HR.out HL.out (hb.mono hB) hlt
          have HD : Hid (items.drop j = t :: items.drop (j + 1)) := Lib.hid (by obtain ⟨h1, rfl⟩ := List.getElem?_eq_some_iff.1 ht; exact List.drop_eq_getElem_cons h1)
          have HI : Hid (Calls Tryz.prog 192 #[.pointer (some ⟨c, 0, none⟩), V j, .int .i64 ((L - 1 : Nat) : Int)] (wr.alloc (.cells #[.int .i64 k1, .int .i64 n1, .string s1, .slice A1 li1 ci1, .slice K1 lk1 ck1] 53 (0, 0))) (ChkPost _ c lit (t.chk lit (L - 1) rr))) :=
            Lib.hid (IH.out j t ht c (L - 1) rr _ B _ (HCK.out.kept ((Below.refl _ _).alloc (Nat.le_refl _) _) hcl2) hrr (by omega) (hrd.kept ((Below.refl _ _).alloc (by omega) _)) hB)
          rw [e, show ((L - 1 : Nat) : Int) = (L : Int) - 1 by omega] at HI
          clear e hrd ht hb
          go_wp2_with fail
          refine HI.out.mono ?_
          cases q : t.chk lit (L - 1) rr with
          | none =>
            rintro e w4 ⟨rfl, hb4⟩
            have HV2 : Hid ((VT.mk k n s items keys).chk lit L r = none) := Lib.hid (by rw [HV.out, HCH.out, HD.out, VT.chks, q])
            have HB4 := Lib.hid ((HB.out.alloc (by omega) _).trans hb4)
            clear hb4 q
            go_wp2_with fail
            go_ret
            exact ⟨by rw [HV2.out]; rfl, HB4.out⟩
          | some r' =>
            rintro e w4 ⟨⟨rfl, hck4⟩, hb4⟩
            have HCH2 : Hid (VT.chks lit items (L - 1) (r - li) = VT.chks lit (items.drop (j + 1)) (L - 1) r') := Lib.hid (by rw [HCH.out, HD.out, VT.chks, q])
            have HB4 := Lib.hid ((HB.out.alloc (by omega) _).trans hb4)
            have HCK4 := Lib.hid hck4
            have hr' := Lib.hid (VT.chk_le q)
            clear hb4 q hck4
            go_wp2_with fail
            go_roundw
            case rel => exact ⟨j + 1, r', by omega, by have := hr'.out; omega, by go_num, HCH2.out, HCK4.out, HB4.out⟩
            case measure => simp [intOf]; omega
        · have HV2 : Hid ((VT.mk k n s items keys).chk lit L r = some rr) := Lib.hid (by rw [HV.out, HCH.out, List.drop_of_length_le (by have := HL.out; omega)]; rfl)
          clear hb
          go_wp2_with fail
          go_ret
          exact ⟨by rw [HV2.out]; exact ⟨rfl, HCK.out⟩, HB.out⟩
  · have HV : Hid ((VT.mk k n s items keys).chk lit L r = none) := Lib.hid (by simp only [VT.chk]; rw [if_neg l0, if_neg (by have := HL.out; omega)])
    have HT := Lib.hid (take_no c lit r li _ HC1.out h1 hr)
    clear l0
    go_enter Tryz.func192, Tryz.ntmps192
    go_wp2_with fail
    refine HT.out.mono ?_
    rintro e w' ⟨rfl, rfl⟩
    go_wp2_with fail
    go_ret
    exact ⟨by rw [HV.out]; rfl, B1.out.mono (by omega)⟩
mutual
def wholeB (lit : Bool) : VT → Bool
  | .mk k n s is ks => nodeB lit (.mk k n s is ks) && wholesB lit is
def wholesB (lit : Bool) : List VT → Bool
  | [] => true
  | t :: u => wholeB lit t && wholesB lit u
end
theorem sizes_ge (l : List VT) : l.length ≤ VT.sizes l := by
  induction l with
  | nil => simp
  | cons t u ih =>
    have : 1 ≤ t.size := by cases t; simp only [VT.size]; omega
    simp only [List.length_cons, VT.sizes]; omega
mutual
theorem VT.chk_eq (lit : Bool) (t : VT) (L r : Nat) : t.chk lit L r = if wholeB lit t = true ∧ t.depth ≤ L ∧ t.size ≤ r + 1 then some (r + 1 - t.size) else none := by
  cases t with
  | mk k n s is ks =>
    simp only [VT.chk, VT.depth, VT.size, wholeB, Bool.and_eq_true]
    have hg := sizes_ge is
    by_cases l0 : L = 0
    · rw [if_pos l0, if_neg (by omega)]
    · rw [if_neg l0]
      by_cases h1 : is.length ≤ r ∧ nodeB lit (.mk k n s is ks) = true
      · rw [if_pos h1, VT.chks_eq lit is (L - 1) (r - is.length)]
        by_cases h2 : wholesB lit is = true ∧ VT.depths is ≤ L - 1 ∧ VT.sizes is ≤ r - is.length + is.length
        · rw [if_pos h2, if_pos ⟨⟨h1.2, h2.1⟩, by omega, by omega⟩]; congr 1; omega
        · rw [if_neg h2, if_neg (fun h => h2 ⟨h.1.2, by omega, by omega⟩)]
      · rw [if_neg h1, if_neg (fun h => h1 ⟨by omega, h.1.1⟩)]
theorem VT.chks_eq (lit : Bool) (l : List VT) (L r : Nat) : VT.chks lit l L r = if wholesB lit l = true ∧ VT.depths l ≤ L ∧ VT.sizes l ≤ r + l.length then some (r + l.length - VT.sizes l) else none := by
  cases l with
  | nil => simp [VT.chks, wholesB, VT.depths, VT.sizes]
  | cons t u =>
    simp only [VT.chks, VT.depths, VT.sizes, wholesB, Bool.and_eq_true, List.length_cons]
    have hg := sizes_ge u
    rw [VT.chk_eq lit t L r]
    by_cases h1 : wholeB lit t = true ∧ t.depth ≤ L ∧ t.size ≤ r + 1
    · rw [if_pos h1]
      show VT.chks lit u L (r + 1 - t.size) = _
      rw [VT.chks_eq lit u L (r + 1 - t.size)]
      by_cases h2 : wholesB lit u = true ∧ VT.depths u ≤ L ∧ VT.sizes u ≤ r + 1 - t.size + u.length
      · rw [if_pos h2, if_pos ⟨⟨h1.1, h2.1⟩, by omega, by omega⟩]; congr 1; omega
      · rw [if_neg h2, if_neg (fun h => h2 ⟨h.1.2, by omega, by omega⟩)]
    · rw [if_neg h1, if_neg (fun h => h1 ⟨h.1.1, by omega, by omega⟩)]
end
def rightB (lit : Bool) (t : VT) : Bool := decide (t.size ≤ 4096) && decide (t.depth ≤ 24) && wholeB lit t
theorem chk_top (lit : Bool) (t : VT) : (∃ r, t.chk lit 24 4095 = some r ∧ rightB lit t = true) ∨ (t.chk lit 24 4095 = none ∧ rightB lit t = false) := by
  rw [VT.chk_eq]
  unfold rightB
  by_cases h : wholeB lit t = true ∧ t.depth ≤ 24 ∧ t.size ≤ 4095 + 1
  · exact .inl ⟨_, if_pos h, by simp [h.1]; omega⟩
  · refine .inr ⟨if_neg h, ?_⟩
    cases q : wholeB lit t
    · simp
    · by_cases h2 : t.size ≤ 4096
      · have h3 : ¬ t.depth ≤ 24 := fun h3 => h ⟨q, h3, h2⟩
        simp [h3]
      · simp [h2]
theorem right_any (t : VT) (w : World) (B : Nat) (v : Value) (h : Rd w B v t) (hB : B ≤ w.heap.size) :
    Calls Tryz.prog 173 #[v] w fun e w' => e = .returned (.bool (rightB false t)) ∧ Below w.heap.size w w' := by
  have HRD := Lib.hid h
  obtain ⟨k, n, s, A, li, ci, K, lk, ck, rfl⟩ := h.shape
  have b1 : Below w.heap.size w ((w.alloc (.cells #[.int .i64 k, .int .i64 n, .string s, .slice A li ci, .slice K lk ck] 53 (0, 0))).alloc (.cells #[.bool false, .int .i64 4095] 199 (0, 0))) := ((Below.refl _ _).alloc (Nat.le_refl _) _).alloc (by simp) _
  have hck : Chk ((w.alloc (.cells #[.int .i64 k, .int .i64 n, .string s, .slice A li ci, .slice K lk ck] 53 (0, 0))).alloc (.cells #[.bool false, .int .i64 4095] 199 (0, 0))) (w.heap.size + 1) false 4095 := by
    have := heap_alloc_new (w.alloc (.cells #[.int .i64 k, .int .i64 n, .string s, .slice A li ci, .slice K lk ck] 53 (0, 0))) (.cells #[.bool false, .int .i64 4095] 199 (0, 0))
    simpa [Chk] using this
  have HC := Lib.hid (chk_any false t (w.heap.size + 1) 24 4095 _ B _ hck (by omega) (by omega) (h.kept (b1.mono hB)) (by omega))
  have B1 := Lib.hid b1
  clear b1 hck h
  rcases chk_top false t with ⟨r, q, hv⟩ | ⟨q, hv⟩
  all_goals
    rw [q] at HC
    have HV := Lib.hid hv
    clear q hv
    go_enter Tryz.func173, Tryz.ntmps173
    go_wp2_with fail
    refine HC.out.mono ?_
    first
      | (rintro e w4 ⟨⟨rfl, _⟩, hb4⟩; have HB4 := Lib.hid (B1.out.trans (hb4.mono (by omega))); clear hb4)
      | (rintro e w4 ⟨rfl, hb4⟩; have HB4 := Lib.hid (B1.out.trans (hb4.mono (by omega))); clear hb4)
    go_wp2_with fail
    go_ret
    exact ⟨by rw [HV.out]; rfl, HB4.out⟩
theorem literal_any (t : VT) (w : World) (B : Nat) (v : Value) (h : Rd w B v t) (hB : B ≤ w.heap.size) :
    Calls Tryz.prog 191 #[v] w fun e w' => e = .returned (.bool (rightB true t)) ∧ Below w.heap.size w w' := by
  have HRD := Lib.hid h
  obtain ⟨k, n, s, A, li, ci, K, lk, ck, rfl⟩ := h.shape
  have b1 : Below w.heap.size w ((w.alloc (.cells #[.int .i64 k, .int .i64 n, .string s, .slice A li ci, .slice K lk ck] 53 (0, 0))).alloc (.cells #[.bool true, .int .i64 4095] 199 (0, 0))) := ((Below.refl _ _).alloc (Nat.le_refl _) _).alloc (by simp) _
  have hck : Chk ((w.alloc (.cells #[.int .i64 k, .int .i64 n, .string s, .slice A li ci, .slice K lk ck] 53 (0, 0))).alloc (.cells #[.bool true, .int .i64 4095] 199 (0, 0))) (w.heap.size + 1) true 4095 := by
    have := heap_alloc_new (w.alloc (.cells #[.int .i64 k, .int .i64 n, .string s, .slice A li ci, .slice K lk ck] 53 (0, 0))) (.cells #[.bool true, .int .i64 4095] 199 (0, 0))
    simpa [Chk] using this
  have HC := Lib.hid (chk_any true t (w.heap.size + 1) 24 4095 _ B _ hck (by omega) (by omega) (h.kept (b1.mono hB)) (by omega))
  have B1 := Lib.hid b1
  clear b1 hck h
  rcases chk_top true t with ⟨r, q, hv⟩ | ⟨q, hv⟩
  all_goals
    rw [q] at HC
    have HV := Lib.hid hv
    clear q hv
    go_enter Tryz.func191, Tryz.ntmps191
    go_wp2_with fail
    refine HC.out.mono ?_
    first
      | (rintro e w4 ⟨⟨rfl, _⟩, hb4⟩; have HB4 := Lib.hid (B1.out.trans (hb4.mono (by omega))); clear hb4)
      | (rintro e w4 ⟨rfl, hb4⟩; have HB4 := Lib.hid (B1.out.trans (hb4.mono (by omega))); clear hb4)
    go_wp2_with fail
    go_ret
    exact ⟨by rw [HV.out]; rfl, HB4.out⟩
end Go.Proofs.YtajljnehlncjhaaGreatDoor
namespace Go.Proofs.YtajljnehlncjhaaGreatDoor
open Go.RowKit
mutual
def VT.bw : VT → Nat
  | .mk _ _ s items keys => 1 + s.size + (keys.map (fun k => 1 + k.size)).sum + VT.bws items
def VT.bws : List VT → Nat
  | [] => 0
  | t :: r => VT.bw t + VT.bws r
end
def ksum (keys : List ByteArray) : Nat := (keys.map (fun k => 1 + k.size)).sum
theorem bw_eq (k n : Int) (s : ByteArray) (items : List VT) (keys : List ByteArray) : (VT.mk k n s items keys).bw = 1 + s.size + ksum keys + VT.bws items := by rw [VT.bw]; rfl
def wk : Nat → List ByteArray → Nat
  | n, [] => n
  | n, k :: r => if n ≤ 2000 then wk (n + 1 + k.size) r else n
mutual
def VT.wv : VT → Nat
  | .mk _ _ s items keys => VT.wvs (wk (1 + s.size) keys) items
def VT.wvs : Nat → List VT → Nat
  | n, [] => n
  | n, t :: r => if n ≤ 2000 then VT.wvs (n + VT.wv t) r else n
end
theorem wk_big {n : Nat} (h : 2000 < n) : ∀ l, wk n l = n
  | [] => rfl
  | k :: r => by rw [wk, if_neg (by omega)]
theorem wvs_big {n : Nat} (h : 2000 < n) : ∀ l, VT.wvs n l = n
  | [] => by rw [VT.wvs]
  | k :: r => by rw [VT.wvs, if_neg (by omega)]
theorem wvs_cons (n : Nat) (t : VT) (r : List VT) : VT.wvs n (t :: r) = if n ≤ 2000 then VT.wvs (n + VT.wv t) r else n := by rw [VT.wvs]
theorem wv_eq (k n : Int) (s : ByteArray) (items : List VT) (keys : List ByteArray) : (VT.mk k n s items keys).wv = VT.wvs (wk (1 + s.size) keys) items := by rw [VT.wv]
theorem wk_le : ∀ (l : List ByteArray) (n : Nat), wk n l ≤ n + ksum l
  | [], n => by simp [wk]
  | k :: r, n => by
    have h1 : ksum (k :: r) = 1 + k.size + ksum r := by simp [ksum]
    rw [wk]
    split
    · have := wk_le r (n + 1 + k.size)
      omega
    · omega
theorem wv_le (t : VT) : t.wv ≤ t.bw := by
  induction t using VT.ind with
  | h k n s items keys ih =>
    rw [wv_eq, bw_eq]
    have h0 := wk_le keys (1 + s.size)
    have hs : ∀ (l : List VT) (m : Nat), (∀ (i : Nat) (t : VT), l[i]? = some t → t.wv ≤ t.bw) → VT.wvs m l ≤ m + VT.bws l := by
      intro l
      induction l with
      | nil => intro m _; rw [VT.wvs, VT.bws]; omega
      | cons t r ihr =>
        intro m hm
        rw [wvs_cons, VT.bws]
        split
        · have h1 := hm 0 t rfl
          have h2 := ihr (m + t.wv) (fun i t h => hm (i + 1) t h)
          omega
        · omega
    have h2 := hs items (wk (1 + s.size) keys) ih
    omega
theorem bws_at {items : List VT} {j : Nat} {t : VT} (h : items[j]? = some t) : t.bw ≤ VT.bws items := by
  induction items generalizing j with
  | nil => simp at h
  | cons a r ih =>
    rw [VT.bws]
    cases j with
    | zero => simp at h; subst h; omega
    | succ j => have := ih (j := j) (by simpa using h); omega
theorem key_le {keys : List ByteArray} {j : Nat} {x : ByteArray} (h : keys[j]? = some x) : x.size ≤ ksum keys := by
  induction keys generalizing j with
  | nil => simp at h
  | cons a r ih =>
    have h1 : ksum (a :: r) = 1 + a.size + ksum r := by simp [ksum]
    cases j with
    | zero => simp at h; subst h; omega
    | succ j => have := ih (j := j) (by simpa using h); omega
theorem drop_at {α : Type} {l : List α} {j : Nat} {x : α} (h : l[j]? = some x) : l.drop j = x :: l.drop (j + 1) := by
  obtain ⟨hj, e⟩ := List.getElem?_eq_some_iff.1 h
  rw [List.drop_eq_getElem_cons hj, e]
def WtPost (m : Nat) (w : World) (e : Ending) (w' : World) : Prop := e = .returned (.int .i64 m) ∧ Below w.heap.size w w'
set_option maxRecDepth 100000 in
set_option maxHeartbeats 4000000 in
theorem weight_any (t : VT) : ∀ (w : World) (B : Nat) (v : Value), Rd w B v t → B ≤ w.heap.size → t.bw ≤ 1099511627776 → Calls Tryz.prog 55 #[v, .int .i64 2000] w (WtPost t.wv w) := by
  induction t using VT.ind with
  | h k n s items keys ih =>
  intro w B v h hB hbw
  cases h with
  | @mk _ _ _ A li ci K lk ck _ _ V hk hn hs hks hli hlk hbi hbk hA hr hK =>
  rw [bw_eq] at hbw
  have HWE : Hid ((VT.mk k n s items keys).wv = VT.wvs (wk (1 + s.size) keys) items) := Lib.hid (wv_eq _ _ _ _ _)
  generalize (VT.mk k n s items keys).wv = R at *
  have HKL := Lib.hid (wk_le keys (1 + s.size))
  have bz : Below w.heap.size w (w.alloc (.cells #[.int .i64 k, .int .i64 n, .string s, .slice A li ci, .slice K lk ck] 53 (0, 0))) := (Below.refl _ _).alloc (Nat.le_refl _) _
  have HB1 := Lib.hid bz
  have Y1 := Lib.hid (Box.new w (.int .i64 k) (.int .i64 n) (.string s) (.slice A li ci) (.slice K lk ck))
  have HA := Lib.hid hA
  have HR := Lib.hid hr
  have HK := Lib.hid hK
  have HLI := Lib.hid hli
  have HLK := Lib.hid hlk
  have IH := Lib.hid ih
  have HKS := Lib.hid hks
  have HBW := Lib.hid hbw
  have hlm : (li : Int) ≤ 140737488351232 := by omega
  have hlm' : (lk : Int) ≤ 140737488351232 := by omega
  have hss : (s.size : Int) ≤ 140737488351232 := by omega
  have hky : s.size ≤ 1099511627776 := by omega
  clear bz hA hr hK hli hlk ih hks hbi hbk hk hn hs hbw
  obtain ⟨x0, x1, x2, x3, x4⟩ := Y1.out.cells
  go_enter Tryz.func55, Tryz.ntmps55
  go_wp2_with fail
  clear x0 x1 x2 x3 x4
  go_loopw [5, 6] (fun nn i wr => ∃ (j x : Nat), j ≤ lk ∧ i = .int .i64 j ∧ nn = .int .i64 x ∧ x ≤ 1099511640000 ∧ Hid (wk (1 + s.size) keys = wk x (keys.drop j) ∧ Below w.heap.size w wr ∧ Box wr w.heap.size (.int .i64 k) (.int .i64 n) (.string s) (.slice A li ci) (.slice K lk ck))) (fun _ i _ => lk - (intOf i).toNat)
  case atStart => exact ⟨0, 1 + s.size, Nat.zero_le _, rfl, by go_num, by have := HBW.out; omega, Lib.hid ⟨rfl, HB1.out, Y1.out⟩⟩
  case round =>
    obtain ⟨j, x, hj, rfl, rfl, hxb, hq⟩ := hrel
    obtain ⟨x0, x1, x2, x3, x4⟩ := hq.out.2.2.cells
    clear HB1 Y1
    by_cases hgo : j < lk ∧ x ≤ 2000
    · obtain ⟨hlt, hle⟩ := hgo
      have hlt' : (j : Int) < lk := by omega
      have hle' : (x : Int) ≤ 2000 := by omega
      obtain ⟨ka, hka, hkab, hkc0⟩ := HK.out (by have := HLK.out; omega)
      obtain ⟨y, hy⟩ : ∃ y, keys[j]? = some y := ⟨_, List.getElem?_eq_getElem (by have := HLK.out; omega)⟩
      have hyl := key_le hy
      have hyb : y.size ≤ 1099511627776 := by have := HBW.out; omega
      have HN : Hid (wk (1 + s.size) keys = wk (x + 1 + y.size) (keys.drop (j + 1))) := Lib.hid (by rw [hq.out.1, drop_at hy, wk, if_pos hle])
      have hkc : wr.cell? (ka.add j) = some (.string y) := by rw [hq.out.2.1.cell (by rw [add_block]; omega)]; exact hkc0 j y hy
      subst hka
      clear hkc0 hy hyl
      go_wp2_with fail
      go_roundw
      case rel => exact ⟨j + 1, x + 1 + y.size, by omega, by go_num, by go_num, by omega, Lib.hid ⟨HN.out, hq.out.2.1, hq.out.2.2⟩⟩
      case measure => simp [intOf]; omega
    · have HX : Hid (R = VT.wvs x items) := Lib.hid (by
        rw [HWE.out, hq.out.1]
        rcases Nat.lt_or_ge 2000 x with h | h
        · rw [wk_big h]
        · rw [List.drop_eq_nil_of_le (by have := HLK.out; omega)]; rfl)
      have hcase : (∃ _ : (j : Int) < lk, ¬ (x : Int) ≤ 2000) ∨ ¬ (j : Int) < lk := by
        by_cases h : (j : Int) < lk
        · exact .inl ⟨h, fun h2 => hgo ⟨by omega, by omega⟩⟩
        · exact .inr h
      clear hgo
      rcases hcase with ⟨hlt', hle'⟩ | hlt'
      all_goals
        go_wp2_with fail
        clear x0 x1 x2 x3 x4
        go_loopw [5, 7] (fun nn i wr2 => ∃ (j2 x2 : Nat), j2 ≤ li ∧ i = .int .i64 j2 ∧ nn = .int .i64 x2 ∧ x2 ≤ 1099511640000 ∧ Hid (R = VT.wvs x2 (items.drop j2) ∧ Below w.heap.size w wr2 ∧ Box wr2 w.heap.size (.int .i64 k) (.int .i64 n) (.string s) (.slice A li ci) (.slice K lk ck))) (fun _ i _ => li - (intOf i).toNat)
        case atStart => exact ⟨0, x, Nat.zero_le _, rfl, rfl, by omega, Lib.hid ⟨HX.out, hq.out.2.1, hq.out.2.2⟩⟩
        case round =>
          obtain ⟨j2, x2, hj2, rfl, rfl, hxb2, hq2⟩ := hrel
          obtain ⟨y0, y1, y2, y3, y4⟩ := hq2.out.2.2.cells
          by_cases hgo2 : j2 < li ∧ x2 ≤ 2000
          · obtain ⟨hlt2, hle2⟩ := hgo2
            have hlt2' : (j2 : Int) < li := by omega
            have hle2' : (x2 : Int) ≤ 2000 := by omega
            obtain ⟨a, t, k1, n1, s1, A1, li1, ci1, K1, lk1, ck1, rfl, ht, e, hrd, h0, h1, h2, h3, h4⟩ := round_at HA.out HR.out HLI.out (hq2.out.2.1.mono hB) hlt2
            have hwt := bws_at ht
            have htb : t.bw ≤ 1099511627776 := by have := HBW.out; omega
            have hwv := wv_le t
            have CALL := Lib.hid (IH.out j2 t ht _ B (.agg #[.int .i64 k1, .int .i64 n1, .string s1, .slice A1 li1 ci1, .slice K1 lk1 ck1]) (by rw [← e]; exact hrd) (Nat.le_trans hB hq2.out.2.1.size) htb)
            have HN : Hid (R = VT.wvs (x2 + t.wv) (items.drop (j2 + 1))) := Lib.hid (by rw [hq2.out.1, drop_at ht, wvs_cons, if_pos hle2])
            have hb1 : (t.wv : Int) ≤ 1099511627776 := by omega
            generalize t.wv = tw at *
            clear ht e hrd hwt htb hwv
            go_wp2_with fail
            refine CALL.out.mono ?_
            rintro e w5 ⟨rfl, hb5⟩
            have HB5 := Lib.hid (hq2.out.2.1.trans (hb5.mono hq2.out.2.1.size))
            have HY5 := Lib.hid (hq2.out.2.2.kept hb5)
            clear hb5 y0 y1 y2 y3 y4 h0 h1 h2 h3 h4 CALL
            go_wp2_with fail
            go_roundw
            case rel => exact ⟨j2 + 1, x2 + tw, by omega, by go_num, by go_num, by omega, Lib.hid ⟨HN.out, HB5.out, HY5.out⟩⟩
            case measure => simp [intOf]; omega
          · have HF : Hid (R = x2) := Lib.hid (by
              rw [hq2.out.1]
              rcases Nat.lt_or_ge 2000 x2 with h | h
              · rw [wvs_big h]
              · rw [List.drop_eq_nil_of_le (by have := HLI.out; omega)]; rw [VT.wvs])
            by_cases hlt2 : j2 < li
            · have hlt2' : (j2 : Int) < li := by omega
              have hle2' : ¬ (x2 : Int) ≤ 2000 := fun h => hgo2 ⟨hlt2, by omega⟩
              clear hgo2
              go_wp2_with fail
              go_ret
              exact ⟨by rw [HF.out]; rfl, hq2.out.2.1⟩
            · have hlt2' : ¬ (j2 : Int) < li := by omega
              clear hgo2
              go_wp2_with fail
              go_ret
              exact ⟨by rw [HF.out]; rfl, hq2.out.2.1⟩
end Go.Proofs.YtajljnehlncjhaaGreatDoor
namespace Go.Proofs.YtajljnehlncjhaaGreatDoor
open Go.RowKit Go.ChangeShapes Go.WideShapes
theorem cellsV : Tryz.prog.cellsOf 53 = 5 := by kernel_rfl
theorem cellsS : Tryz.prog.cellsOf 9 = 1 := by kernel_rfl
theorem bytesV : Tryz.prog.bytesOf 53 = 80 := by kernel_rfl
theorem bytesS : Tryz.prog.bytesOf 9 = 16 := by kernel_rfl
theorem cellsI : Tryz.prog.cellsOf 3 = 1 := by kernel_rfl
theorem cellsLV : Tryz.prog.cellsOf 51 = 1 := by kernel_rfl
theorem cellsLS : Tryz.prog.cellsOf 39 = 1 := by kernel_rfl
section
variable {H : Type} {enc : TypeId × Value → H} {w : World} {spare : Nat → Bool} {held : Bool}
theorem lt_cell {a : Addr} {v : Value} (h : w.cell? a = some v) : a.block < w.heap.size := by
  unfold World.cell? at h
  rcases Nat.lt_or_ge a.block w.heap.size with h' | h'
  · exact h'
  · rw [Array.getElem?_eq_none h'] at h; simp at h
theorem weights_all {e : TypeId} : ∀ {l : List (DataW H)} {d : DataW H}, d ∈ l → ∀ n ∈ d.weights Tryz.prog e, n ∈ DataW.weightsAll Tryz.prog e l
  | [], _, h, _, _ => by simp at h
  | x :: r, d, h, n, hn => by
    rw [DataW.weightsAll, List.mem_append]
    rcases List.mem_cons.1 h with rfl | h
    · exact .inl hn
    · exact .inr (weights_all h n hn)
theorem small_of {n : Int} (wf : (Lit.int .i64 n).wf = true) : small n := by
  exact bounds_i64 wf
end
end Go.Proofs.YtajljnehlncjhaaGreatDoor
namespace Go.Proofs.YtajljnehlncjhaaGreatDoor
open Go.RowKit Go.ChangeShapes Go.WideShapes
section
variable {H : Type} {enc : TypeId × Value → H} {W : World} {spare : Nat → Bool} {held : Bool}
end
end Go.Proofs.YtajljnehlncjhaaGreatDoor
namespace Go.Proofs.YtajljnehlncjhaaGreatDoor
open Go.RowKit Go.ChangeShapes Go.WideShapes
section
variable {H : Type} {enc : TypeId × Value → H} {w : World} {spare : Nat → Bool} {held : Bool}
theorem bulk_strs (Sx : Nat → ByteArray) : ∀ (l : List Nat), Rows.uptoBulkAll (l.map fun i => (.lit (.string (Sx i).data.toList) : DataW H)) = ksum (l.map Sx)
  | [] => rfl
  | i :: r => by
    have h := bulk_strs Sx r
    simp only [List.map_cons, Rows.uptoBulkAll, Rows.uptoBulk, h, ksum, List.sum_cons, T1.size_eq]
    omega
theorem bws_map : ∀ (ds : List (DataW H)) (f : Nat → VT), (∀ i d, ds[i]? = some d → (f i).bw ≤ Rows.uptoBulk d) → VT.bws ((List.range ds.length).map f) ≤ Rows.uptoBulkAll ds
  | [], _, _ => by simp [VT.bws]
  | d :: r, f, h => by
    have h0 := h 0 d rfl
    have h1 := bws_map r (fun i => f (i + 1)) (fun i d hd => h (i + 1) d hd)
    rw [List.length_cons, List.range_succ_eq_map, List.map_cons, List.map_map, VT.bws, Rows.uptoBulkAll]
    have e : (f ∘ Nat.succ) = fun i => f (i + 1) := rfl
    rw [e]
    omega
set_option maxRecDepth 100000 in
theorem open_keys_b {fuel : Nat} {cs : List Value} {x : DataW H × List MemPlace} (h : DataW.trod enc Tryz.prog w 0 spare held fuel 39 cs = some x) (hw : ∀ n ∈ x.1.weights Tryz.prog 39, n ≤ reachBytes) :
    ∃ (K : Option Addr) (lk ck : Nat) (keys : List ByteArray), cs = [.slice K lk ck] ∧ keys.length = lk ∧ lk * 16 ≤ 140737488351232 ∧ (∀ s ∈ keys, s.size ≤ 140737488351232) ∧ KeysAt w w.heap.size K keys ∧ ksum keys + 1 ≤ Rows.uptoBulk x.1 := by
  rcases Go.Deep.open_strs Tryz.underlying39 Tryz.underlying9 cellsS h with ⟨rfl, rfl⟩ | ⟨a, len, cap, m, Sx, rfl, _, hl, hm, hmm, rfl, hx⟩
  · exact ⟨none, 0, 0, [], rfl, rfl, by decide, by simp, fun h => by simp at h, by simp [ksum, Rows.uptoBulk]⟩
  · have hml : len ≤ m := by rw [hmm]; split <;> omega
    have hw0 : ∀ n ∈ (m * 16) :: (DataW.weightsAll Tryz.prog 9 ((List.range len).map fun i => (.lit (.string (Sx i).data.toList) : DataW H))), n ≤ reachBytes := by
      intro n hn
      refine hw n ?_
      simp only [DataW.weights, Tryz.underlying39, bytesS, List.length_map, List.length_range]
      rcases List.mem_cons.1 hn with rfl | hn
      · rw [show len + (m - len) = m by omega]; simp
      · simp [hn]
    have h1 := hw0 _ (List.mem_cons_self ..)
    unfold reachBytes at h1
    refine ⟨some a, len, cap, (List.range len).map Sx, rfl, by simp, by omega, ?_, fun h0 => ⟨a, rfl, ?_, ?_⟩, by simp only [Rows.uptoBulk]; rw [bulk_strs]; omega⟩
    · intro s hs
      obtain ⟨i, hi, rfl⟩ := List.mem_map.1 hs
      have h2 := hw0 (Sx i).data.toList.length (List.mem_cons_of_mem _ (weights_all (d := .lit (.string (Sx i).data.toList)) (List.mem_map.2 ⟨i, hi, rfl⟩) _ (by simp [DataW.weights])))
      unfold reachBytes at h2
      rw [size_eq] at h2; exact h2
    · have h2 : 0 < len := by simpa using h0
      have := lt_cell (hx 0 (by omega)).1
      rwa [add_block] at this
    · intro i s hi
      have h2 : i < len := by simpa using (List.getElem?_eq_some_iff.1 hi).1
      rw [(hx i (by omega)).1]
      simp [h2] at hi
      rw [hi]
set_option maxRecDepth 100000 in
theorem open_tree_b : ∀ (fuel : Nat) {cs : List Value} {x : DataW H × List MemPlace}, DataW.trod enc Tryz.prog w 0 spare held fuel 53 cs = some x → (∀ n ∈ x.1.weights Tryz.prog 53, n ≤ reachBytes) →
    ∃ c0 c1 c2 c3 c4 t, cs = [c0, c1, c2, c3, c4] ∧ Rd w w.heap.size (.agg #[c0, c1, c2, c3, c4]) t ∧ t.bw ≤ Rows.uptoBulk x.1 := by
  intro fuel
  induction fuel using Nat.strongRecOn with
  | ind fuel ih =>
  intro cs x h hw
  obtain ⟨xs, n, rfl, rfl, hl, hxl, hf⟩ := DataW.trod_struct Tryz.underlying53 h
  rw [cellsV] at hl
  match cs, hl, xs, hxl with
  | [c0, c1, c2, c3, c4], _, [x0, x1, x2, x3, x4], _ =>
  have f0 : DataW.trod enc Tryz.prog w 0 spare held n 3 [c0] = some x0 := by
    have this : DataW.trod enc Tryz.prog w 0 spare held n 3 (([c0, c1, c2, c3, c4].drop 0).take (Tryz.prog.cellsOf 3)) = some x0 := hf 0 _ rfl
    rw [cellsI] at this; exact this
  have f1 : DataW.trod enc Tryz.prog w 0 spare held n 3 [c1] = some x1 := by
    have this : DataW.trod enc Tryz.prog w 0 spare held n 3 (([c0, c1, c2, c3, c4].drop 1).take (Tryz.prog.cellsOf 3)) = some x1 := hf 1 _ rfl
    rw [cellsI] at this; exact this
  have f2 : DataW.trod enc Tryz.prog w 0 spare held n 9 [c2] = some x2 := by
    have this : DataW.trod enc Tryz.prog w 0 spare held n 9 (([c0, c1, c2, c3, c4].drop 2).take (Tryz.prog.cellsOf 9)) = some x2 := hf 2 _ rfl
    rw [cellsS] at this; exact this
  have f3 : DataW.trod enc Tryz.prog w 0 spare held n 51 [c3] = some x3 := by
    have this : DataW.trod enc Tryz.prog w 0 spare held n 51 (([c0, c1, c2, c3, c4].drop 3).take (Tryz.prog.cellsOf 51)) = some x3 := hf 3 _ rfl
    rw [cellsLV] at this; exact this
  have f4 : DataW.trod enc Tryz.prog w 0 spare held n 39 [c4] = some x4 := by
    have this : DataW.trod enc Tryz.prog w 0 spare held n 39 (([c0, c1, c2, c3, c4].drop 4).take (Tryz.prog.cellsOf 39)) = some x4 := hf 4 _ rfl
    rw [cellsLS] at this; exact this
  obtain ⟨k0, e0, rfl, wf0⟩ := DataW.trod_int Tryz.underlying3 f0
  obtain ⟨k1, e1, rfl, wf1⟩ := DataW.trod_int Tryz.underlying3 f1
  obtain ⟨s, e2, rfl, hs⟩ := DataW.trod_string Tryz.underlying9 f2
  have hw' : ∀ n ∈ (Lit.int .i64 k0 |> (.lit : Lit → DataW H)).weights Tryz.prog 3 ++ ((Lit.int .i64 k1 |> (.lit : Lit → DataW H)).weights Tryz.prog 3 ++ ((Lit.string s.data.toList |> (.lit : Lit → DataW H)).weights Tryz.prog 9 ++ (x3.1.weights Tryz.prog 51 ++ (x4.1.weights Tryz.prog 39 ++ [])))), n ≤ reachBytes := by
    intro n hn
    refine hw n ?_
    simpa only [DataW.weights, Tryz.underlying53, DataW.weightsEach, List.map_cons, List.map_nil] using hn
  obtain ⟨K, lk, ck, keys, e4, hlk, hbk, hks, hK, hkb⟩ := open_keys_b f4 (fun n hn => hw' n (by simp [hn]))
  have hss : s.size ≤ 140737488351232 := by
    have := hw' s.data.toList.length (by simp [DataW.weights])
    unfold reachBytes at this
    rw [size_eq] at this; exact this
  simp only [List.cons.injEq, and_true] at e0 e1 e2 e4
  subst e0 e1 e2 e4
  have hk0 : small k0 := small_of wf0
  have hk1 : small k1 := small_of wf1
  rcases DataW.trod_slice Tryz.underlying51 f3 with ⟨e3, _⟩ | ⟨a, len, cap, elems, rest, m, rfl, e3, rfl, _, hlc, hcm, hel, hat, hsp, hns⟩
  · simp only [List.cons.injEq, and_true] at e3
    subst e3
    exact ⟨_, _, _, _, _, .mk k0 k1 s [] keys, rfl, .mk (fun _ => undef) hk0 hk1 hss hks rfl hlk (by decide) hbk (fun h0 => by omega) (fun i t hi => by simp at hi) hK, by
      rw [bw_eq]
      simp only [Rows.uptoBulk, Rows.uptoBulkAll, List.map_cons, List.map_nil, T1.size_eq, VT.bws] at hkb ⊢
      omega⟩
  · simp only [List.cons.injEq, and_true] at e3
    subst e3
    have hw3 : ∀ d ∈ elems.map (·.1), ∀ q ∈ d.weights Tryz.prog 53, q ≤ reachBytes := by
      intro d hd q hq
      refine hw' q ?_
      simp only [DataW.weights, Tryz.underlying51, List.mem_append, List.mem_cons]
      exact .inr (.inr (.inr (.inl (.inr (.inl (weights_all hd q hq))))))
    have hb3 : len * 80 ≤ 140737488351232 := by
      have := hw' ((elems.length + rest.length) * 80) (by
        simp only [DataW.weights, Tryz.underlying51, List.mem_append, List.mem_cons, bytesV, List.length_map]
        simp)
      unfold reachBytes at this
      omega
    rw [cellsV] at hat
    have hitem : ∀ i, i < len → ∃ T : Value × VT, C5 w (a.add (i * 5)) T.1 ∧ Rd w w.heap.size T.1 T.2 ∧ ∀ d, (elems.map (·.1))[i]? = some d → T.2.bw ≤ Rows.uptoBulk d := by
      intro i hi
      have h1 := hat i hi
      have hlt : i < elems.length := by omega
      rw [List.getElem?_eq_getElem hlt, Option.bind_eq_some_iff] at h1
      obtain ⟨cs', hc, ht⟩ := h1
      obtain ⟨d0, d1, d2, d3, d4, t, rfl, hrd, hbk2⟩ := ih m (by omega) ht (hw3 _ (List.mem_map_of_mem (List.getElem_mem hlt)))
      obtain ⟨_, _, hg⟩ := World.cells?_some hc
      refine ⟨⟨_, t⟩, ⟨_, _, _, _, _, rfl, ?_, ?_, ?_, ?_, ?_⟩, hrd, fun d hd => ?_⟩
      · have := hg 0 (by omega); simpa [Addr.add] using this
      · have := hg 1 (by omega); simpa [Addr.add] using this
      · have := hg 2 (by omega); simpa [Addr.add] using this
      · have := hg 3 (by omega); simpa [Addr.add] using this
      · have := hg 4 (by omega); simpa [Addr.add] using this
      · rw [List.getElem?_map, List.getElem?_eq_getElem hlt] at hd
        cases hd
        exact hbk2
    obtain ⟨T, hT⟩ : ∃ T : Nat → Value × VT, ∀ i, i < len → C5 w (a.add (i * 5)) (T i).1 ∧ Rd w w.heap.size (T i).1 (T i).2 ∧ ∀ d, (elems.map (·.1))[i]? = some d → (T i).2.bw ≤ Rows.uptoBulk d := by
      refine ⟨fun i => if h : i < len then (hitem i h).choose else (undef, .mk 0 0 ⟨#[]⟩ [] []), fun i h => ?_⟩
      simp only [dif_pos h]
      exact (hitem i h).choose_spec
    have hsum := bws_map (elems.map (·.1)) (fun i => (T i).2) (fun i d hd => (hT i (by
      have := (List.getElem?_eq_some_iff.1 hd).1
      simp at this; omega)).2.2 d hd)
    have hll : (elems.map (·.1)).length = len := by simp; omega
    rw [hll] at hsum
    refine ⟨_, _, _, _, _, .mk k0 k1 s ((List.range len).map fun i => (T i).2) keys, rfl, .mk (fun i => (T i).1) hk0 hk1 hss hks (by simp) hlk hb3 hbk (fun h0 => ⟨a, rfl, ?_, fun i hi => (hT i hi).1⟩) (fun i t hi => ?_) hK, ?_⟩
    · obtain ⟨_, _, _, _, _, _, h0, _⟩ := (hT 0 h0).1
      have := lt_cell h0
      rwa [add_block] at this
    · have hlt : i < len := by simpa using (List.getElem?_eq_some_iff.1 hi).1
      simp [hlt] at hi
      subst hi
      exact (hT i hlt).2.1
    · rw [bw_eq]
      simp only [Rows.uptoBulk, Rows.uptoBulkAll, List.map_cons, List.map_nil, T1.size_eq] at hkb ⊢
      omega
end
end Go.Proofs.YtajljnehlncjhaaGreatDoor
