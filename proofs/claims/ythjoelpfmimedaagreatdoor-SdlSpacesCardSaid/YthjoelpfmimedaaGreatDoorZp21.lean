
/-
 Texts joined: Node Chk W1 W2 W3 EQ1 JEqual EQ2 YPure.
-/
import Derived.Test.YthjoelpfmimedaaGreatDoorZp8
import Derived.Test.YthjoelpfmimedaaGreatDoorZp7
import Derived.Test.YthjoelpfmimedaaGreatDoorZp2
import Derived.Test.YthjoelpfmimedaaGreatDoorZp4
import Derived.Test.YthjoelpfmimedaaGreatDoorZp5
import Derived.BigQuiet
import Derived.WalkKit
namespace Go.Proofs.YthjoelpfmimedaaGreatDoor
open Go.RowKit
theorem zh9 {s:ByteArray} (h:s.size = 0):(s.toList.isEmpty = true) ∧ s.toList = [] ∧ (s.toList == []) = true:=by rw [zp8 h]; exact ⟨rfl,rfl,rfl⟩
theorem zl6 {s:ByteArray} (h:¬ s.size = 0):(s.toList.isEmpty = false) ∧ s.toList ≠ [] ∧ (s.toList == []) = false:=by
 have h1:=zc6 (s:=s) (by omega)
 exact ⟨h1,zd3 (by omega),beq_eq_false_iff_ne.2 (zd3 (by omega))⟩
set_option maxHeartbeats 4000000 in
theorem node_any (lit:Bool) (r:Int) (c:Nat) (t:VT) (w:World) (B:Nat) (v:Value) (hc:Chk w c lit r) (h:Rd w B v t) (hB:B ≤ w.heap.size) :
  Calls Tryz.prog 236 #[.pointer (some ⟨c,0,none⟩),v] w fun e w' => e = .returned (.bool (nodeB lit t)) ∧ Below w.heap.size w w':=by
 have HRD:=Lib.hid h
 cases h with
 | @mk k n s A li ci K lk ck items keys V hk hn hs hks hli hlk hbi hbk hA hr hK =>
 have b1:Below w.heap.size w (w.alloc (.cells #[.int .i64 k,.int .i64 n,.string s,.slice A li ci,.slice K lk ck] 59 (0,0))):=(Below.refl _ _).alloc (Nat.le_refl _) _
 have hcl:=hc.lt
 have hc1:=hc.kept b1 hcl
 obtain ⟨c0,c1,c2⟩:=hc1.cells
 have B1:=Lib.hid b1
 have HKEY:Hid (Calls Tryz.prog 258 #[.pointer (some ⟨c,0,none⟩),.slice K lk ck] _ fun e w' => e = .returned (.bool (keysB lit keys)) ∧ Below _ _ w'):=Lib.hid (keys_any lit r c K lk ck keys _ B hc1 hlk hbk hks (hK.kept (b1.mono hB)) (by have:=b1.size; omega))
 have HLEAF:Hid (Calls Tryz.prog 256 #[.agg #[.int .i64 k,.int .i64 n,.string s,.slice A li ci,.slice K lk ck]] _ fun e w' => e = .returned (.bool (leafB items keys)) ∧ Below _ _ w'):=Lib.hid (zW9 _ _ B _ (HRD.out.kept (b1.mono hB)))
 have HENUM:Hid (Calls Tryz.prog 257 #[.string s] (w.alloc (.cells #[.int .i64 k,.int .i64 n,.string s,.slice A li ci,.slice K lk ck] 59 (0,0))) fun e w' => e = .returned (.bool (enumB s)) ∧ _ = w'):=Lib.hid (zz5 s _ hs)
 have HNAME:Hid (Calls Tryz.prog 43 #[.string s] (w.alloc (.cells #[.int .i64 k,.int .i64 n,.string s,.slice A li ci,.slice K lk ck] 59 (0,0))) fun e w' => e = .returned (.bool (nmA s)) ∧ _ = w'):=Lib.hid (zl2 s _ (by unfold maxLen; omega))
 have hlm:(li:Int) ≤ 140737488351232:=by omega
 have hlm':(lk:Int) ≤ 140737488351232:=by omega
 have HL:=Lib.hid hli
 have HLK:=Lib.hid hlk
 clear hA hr hK hks hn hs hk hli hlk b1 hc hc1
 by_cases k0:k = 0
 ·subst k0
  by_cases n0:n = 0
  ·subst n0
   by_cases s0:s.size = 0
   ·obtain ⟨s1,s2,s3⟩:=zh9 s0
    have HV:Hid (nodeB lit (.mk 0 0 s items keys) = leafB items keys):=Lib.hid (by simp [nodeB,s0])
    clear HRD HL HLK
    clear s0
    go_enter Tryz.func236, Tryz.ntmps236
    go_wp2_with fail
    refine HLEAF.out.mono ?_
    rintro e w' ⟨rfl,hb⟩
    have HB:=Lib.hid (B1.out.trans (hb.mono B1.out.size))
    clear hb
    go_wp2_with fail
    go_ret
    exact ⟨by rw [HV.out]; rfl,HB.out⟩
   ·obtain ⟨s1,s2,s3⟩:=zl6 s0
    have HV:Hid (nodeB lit (.mk 0 0 s items keys) = false):=Lib.hid (by simp [nodeB,s0])
    clear HRD HL HLK
    clear s0
    go_enter Tryz.func236, Tryz.ntmps236
    go_wp2_with fail
    go_ret
    exact ⟨by rw [HV.out]; rfl,B1.out⟩
  ·have n0':(n == 0) = false:=beq_eq_false_iff_ne.2 n0
   have HV:Hid (nodeB lit (.mk 0 n s items keys) = false):=Lib.hid (by simp [nodeB,n0])
   clear HRD HL HLK
   clear n0
   go_enter Tryz.func236, Tryz.ntmps236
   go_wp2_with fail
   go_ret
   exact ⟨by rw [HV.out]; rfl,B1.out⟩
 have k0':(k == 0) = false:=beq_eq_false_iff_ne.2 k0
 by_cases k1:k = 1
 ·subst k1
  by_cases n0:n = 0
  ·subst n0
   by_cases s0:s.size = 0
   ·obtain ⟨s1,s2,s3⟩:=zh9 s0
    have HV:Hid (nodeB lit (.mk 1 0 s items keys) = leafB items keys):=Lib.hid (by simp [nodeB,s0])
    clear HRD HL HLK
    clear s0
    go_enter Tryz.func236, Tryz.ntmps236
    go_wp2_with fail
    refine HLEAF.out.mono ?_
    rintro e w' ⟨rfl,hb⟩
    have HB:=Lib.hid (B1.out.trans (hb.mono B1.out.size))
    clear hb
    go_wp2_with fail
    go_ret
    exact ⟨by rw [HV.out]; rfl,HB.out⟩
   ·obtain ⟨s1,s2,s3⟩:=zl6 s0
    have HV:Hid (nodeB lit (.mk 1 0 s items keys) = false):=Lib.hid (by simp [nodeB,s0])
    clear HRD HL HLK
    clear s0
    go_enter Tryz.func236, Tryz.ntmps236
    go_wp2_with fail
    go_ret
    exact ⟨by rw [HV.out]; rfl,B1.out⟩
  ·have n0':(n == 0) = false:=beq_eq_false_iff_ne.2 n0
   by_cases n1:n = 1
   ·subst n1
    by_cases s0:s.size = 0
    ·obtain ⟨s1,s2,s3⟩:=zh9 s0
     have HV:Hid (nodeB lit (.mk 1 1 s items keys) = leafB items keys):=Lib.hid (by simp [nodeB,s0])
     clear HRD HL HLK
     clear s0
     go_enter Tryz.func236, Tryz.ntmps236
     go_wp2_with fail
     refine HLEAF.out.mono ?_
     rintro e w' ⟨rfl,hb⟩
     have HB:=Lib.hid (B1.out.trans (hb.mono B1.out.size))
     clear hb
     go_wp2_with fail
     go_ret
     exact ⟨by rw [HV.out]; rfl,HB.out⟩
    ·obtain ⟨s1,s2,s3⟩:=zl6 s0
     have HV:Hid (nodeB lit (.mk 1 1 s items keys) = false):=Lib.hid (by simp [nodeB,s0])
     clear HRD HL HLK
     clear s0
     go_enter Tryz.func236, Tryz.ntmps236
     go_wp2_with fail
     go_ret
     exact ⟨by rw [HV.out]; rfl,B1.out⟩
   ·have n1':(n == 1) = false:=beq_eq_false_iff_ne.2 n1
    have HV:Hid (nodeB lit (.mk 1 n s items keys) = false):=Lib.hid (by simp [nodeB,n0,n1])
    clear HRD HL HLK
    clear n0
    clear n1
    go_enter Tryz.func236, Tryz.ntmps236
    go_wp2_with fail
    go_ret
    exact ⟨by rw [HV.out]; rfl,B1.out⟩
 have k1':(k == 1) = false:=beq_eq_false_iff_ne.2 k1
 by_cases k2:k = 2
 ·subst k2
  by_cases s0:s.size = 0
  ·obtain ⟨s1,s2,s3⟩:=zh9 s0
   have HV:Hid (nodeB lit (.mk 2 n s items keys) = leafB items keys):=Lib.hid (by simp [nodeB,s0])
   clear HRD HL HLK
   clear s0
   go_enter Tryz.func236, Tryz.ntmps236
   go_wp2_with fail
   refine HLEAF.out.mono ?_
   rintro e w' ⟨rfl,hb⟩
   have HB:=Lib.hid (B1.out.trans (hb.mono B1.out.size))
   clear hb
   go_wp2_with fail
   go_ret
   exact ⟨by rw [HV.out]; rfl,HB.out⟩
  ·obtain ⟨s1,s2,s3⟩:=zl6 s0
   have HV:Hid (nodeB lit (.mk 2 n s items keys) = false):=Lib.hid (by simp [nodeB,s0])
   clear HRD HL HLK
   clear s0
   go_enter Tryz.func236, Tryz.ntmps236
   go_wp2_with fail
   go_ret
   exact ⟨by rw [HV.out]; rfl,B1.out⟩
 have k2':(k == 2) = false:=beq_eq_false_iff_ne.2 k2
 by_cases k3:k = 3
 ·subst k3
  by_cases n0:n = 0
  ·subst n0
   have HV:Hid (nodeB lit (.mk 3 0 s items keys) = leafB items keys):=Lib.hid (by simp [nodeB])
   clear HRD HL HLK
   go_enter Tryz.func236, Tryz.ntmps236
   go_wp2_with fail
   refine HLEAF.out.mono ?_
   rintro e w' ⟨rfl,hb⟩
   have HB:=Lib.hid (B1.out.trans (hb.mono B1.out.size))
   clear hb
   go_wp2_with fail
   go_ret
   exact ⟨by rw [HV.out]; rfl,HB.out⟩
  ·have n0':(n == 0) = false:=beq_eq_false_iff_ne.2 n0
   have HV:Hid (nodeB lit (.mk 3 n s items keys) = false):=Lib.hid (by simp [nodeB,n0])
   clear HRD HL HLK
   clear n0
   go_enter Tryz.func236, Tryz.ntmps236
   go_wp2_with fail
   go_ret
   exact ⟨by rw [HV.out]; rfl,B1.out⟩
 have k3':(k == 3) = false:=beq_eq_false_iff_ne.2 k3
 by_cases k4:k = 4
 ·subst k4
  by_cases n0:n = 0
  ·subst n0
   cases q:enumB s
   ·rw [q] at HENUM
    have HV:Hid (nodeB lit (.mk 4 0 s items keys) = false):=Lib.hid (by simp [nodeB,q])
    clear HRD HL HLK
    clear q
    go_enter Tryz.func236, Tryz.ntmps236
    go_wp2_with fail
    refine HENUM.out.mono ?_
    rintro e w' ⟨rfl,rfl⟩
    go_wp2_with fail
    go_ret
    exact ⟨by rw [HV.out]; rfl,B1.out⟩
   ·rw [q] at HENUM
    have HV:Hid (nodeB lit (.mk 4 0 s items keys) = leafB items keys):=Lib.hid (by simp [nodeB,q])
    clear HRD HL HLK
    clear q
    go_enter Tryz.func236, Tryz.ntmps236
    go_wp2_with fail
    refine HENUM.out.mono ?_
    rintro e w' ⟨rfl,rfl⟩
    go_wp2_with fail
    refine HLEAF.out.mono ?_
    rintro e w' ⟨rfl,hb⟩
    have HB:=Lib.hid (B1.out.trans (hb.mono B1.out.size))
    clear hb
    go_wp2_with fail
    go_ret
    exact ⟨by rw [HV.out]; rfl,HB.out⟩
  ·have n0':(n == 0) = false:=beq_eq_false_iff_ne.2 n0
   have HV:Hid (nodeB lit (.mk 4 n s items keys) = false):=Lib.hid (by simp [nodeB,n0])
   clear HRD HL HLK
   clear n0
   go_enter Tryz.func236, Tryz.ntmps236
   go_wp2_with fail
   go_ret
   exact ⟨by rw [HV.out]; rfl,B1.out⟩
 have k4':(k == 4) = false:=beq_eq_false_iff_ne.2 k4
 by_cases k5:k = 5
 ·subst k5
  by_cases n0:n = 0
  ·subst n0
   by_cases s0:s.size = 0
   ·obtain ⟨s1,s2,s3⟩:=zh9 s0
    by_cases k0:lk = 0
    ·subst k0
     have HV:Hid (nodeB lit (.mk 5 0 s items keys) = true):=Lib.hid (by simp [nodeB,s0,HLK.out])
     clear HRD HL HLK
     clear s0
     go_enter Tryz.func236, Tryz.ntmps236
     go_wp2_with fail
     go_ret
     exact ⟨by rw [HV.out]; rfl,B1.out⟩
    ·have k1:decide (lk = 0) = false:=by simpa using k0
     have k2:((lk:Int) == 0) = false:=by rw [beq_eq_false_iff_ne]; omega
     have HV:Hid (nodeB lit (.mk 5 0 s items keys) = false):=Lib.hid (by simp [nodeB,s0,HLK.out,k0])
     clear HRD HL HLK
     clear s0
     clear k0
     go_enter Tryz.func236, Tryz.ntmps236
     go_wp2_with fail
     go_ret
     exact ⟨by rw [HV.out]; rfl,B1.out⟩
   ·obtain ⟨s1,s2,s3⟩:=zl6 s0
    have HV:Hid (nodeB lit (.mk 5 0 s items keys) = false):=Lib.hid (by simp [nodeB,s0])
    clear HRD HL HLK
    clear s0
    go_enter Tryz.func236, Tryz.ntmps236
    go_wp2_with fail
    go_ret
    exact ⟨by rw [HV.out]; rfl,B1.out⟩
  ·have n0':(n == 0) = false:=beq_eq_false_iff_ne.2 n0
   have HV:Hid (nodeB lit (.mk 5 n s items keys) = false):=Lib.hid (by simp [nodeB,n0])
   clear HRD HL HLK
   clear n0
   go_enter Tryz.func236, Tryz.ntmps236
   go_wp2_with fail
   go_ret
   exact ⟨by rw [HV.out]; rfl,B1.out⟩
 have k5':(k == 5) = false:=beq_eq_false_iff_ne.2 k5
 by_cases k6:k = 6
 ·subst k6
  by_cases n0:n = 0
  ·subst n0
   by_cases s0:s.size = 0
   ·obtain ⟨s1,s2,s3⟩:=zh9 s0
    by_cases k0:lk = li
    ·subst k0
     have HV:Hid (nodeB lit (.mk 6 0 s items keys) = keysB lit keys):=Lib.hid (by simp [nodeB,s0,HL.out,HLK.out])
     clear HRD HL HLK
     clear s0
     go_enter Tryz.func236, Tryz.ntmps236
     go_wp2_with fail
     refine HKEY.out.mono ?_
     rintro e w' ⟨rfl,hb⟩
     have HB:=Lib.hid (B1.out.trans (hb.mono B1.out.size))
     clear hb
     go_wp2_with fail
     go_ret
     exact ⟨by rw [HV.out]; rfl,HB.out⟩
    ·have k1:decide (lk = li) = false:=by simpa using k0
     have k2:((lk:Int) == (li:Int)) = false:=by rw [beq_eq_false_iff_ne]; omega
     have k3:(lk == li) = false:=by rw [beq_eq_false_iff_ne]; omega
     have HV:Hid (nodeB lit (.mk 6 0 s items keys) = false):=Lib.hid (by simp [nodeB,s0,HL.out,HLK.out,k0])
     clear HRD HL HLK
     clear s0
     clear k0
     go_enter Tryz.func236, Tryz.ntmps236
     go_wp2_with fail
     go_ret
     exact ⟨by rw [HV.out]; rfl,B1.out⟩
   ·obtain ⟨s1,s2,s3⟩:=zl6 s0
    have HV:Hid (nodeB lit (.mk 6 0 s items keys) = false):=Lib.hid (by simp [nodeB,s0])
    clear HRD HL HLK
    clear s0
    go_enter Tryz.func236, Tryz.ntmps236
    go_wp2_with fail
    go_ret
    exact ⟨by rw [HV.out]; rfl,B1.out⟩
  ·have n0':(n == 0) = false:=beq_eq_false_iff_ne.2 n0
   have HV:Hid (nodeB lit (.mk 6 n s items keys) = false):=Lib.hid (by simp [nodeB,n0])
   clear HRD HL HLK
   clear n0
   go_enter Tryz.func236, Tryz.ntmps236
   go_wp2_with fail
   go_ret
   exact ⟨by rw [HV.out]; rfl,B1.out⟩
 have k6':(k == 6) = false:=beq_eq_false_iff_ne.2 k6
 by_cases k7:k = 7
 ·subst k7
  cases lit
  ·skip
   have HV:Hid (nodeB false (.mk 7 n s items keys) = false):=Lib.hid (by simp [nodeB])
   clear HRD HL HLK
   go_enter Tryz.func236, Tryz.ntmps236
   go_wp2_with fail
   go_ret
   exact ⟨by rw [HV.out]; rfl,B1.out⟩
  ·skip
   by_cases n0:n = 0
   ·subst n0
    cases q:nmA s
    ·rw [q] at HNAME
     have HV:Hid (nodeB true (.mk 7 0 s items keys) = false):=Lib.hid (by simp [nodeB,q])
     clear HRD HL HLK
     clear q
     go_enter Tryz.func236, Tryz.ntmps236
     go_wp2_with fail
     refine HNAME.out.mono ?_
     rintro e w' ⟨rfl,rfl⟩
     go_wp2_with fail
     go_ret
     exact ⟨by rw [HV.out]; rfl,B1.out⟩
    ·rw [q] at HNAME
     have HV:Hid (nodeB true (.mk 7 0 s items keys) = leafB items keys):=Lib.hid (by simp [nodeB,q])
     clear HRD HL HLK
     clear q
     go_enter Tryz.func236, Tryz.ntmps236
     go_wp2_with fail
     refine HNAME.out.mono ?_
     rintro e w' ⟨rfl,rfl⟩
     go_wp2_with fail
     refine HLEAF.out.mono ?_
     rintro e w' ⟨rfl,hb⟩
     have HB:=Lib.hid (B1.out.trans (hb.mono B1.out.size))
     clear hb
     go_wp2_with fail
     go_ret
     exact ⟨by rw [HV.out]; rfl,HB.out⟩
   ·have n0':(n == 0) = false:=beq_eq_false_iff_ne.2 n0
    have HV:Hid (nodeB true (.mk 7 n s items keys) = false):=Lib.hid (by simp [nodeB,n0])
    clear HRD HL HLK
    clear n0
    go_enter Tryz.func236, Tryz.ntmps236
    go_wp2_with fail
    go_ret
    exact ⟨by rw [HV.out]; rfl,B1.out⟩
 have k7':(k == 7) = false:=beq_eq_false_iff_ne.2 k7
 have HV:Hid (nodeB lit (.mk k n s items keys) = false):=Lib.hid (by simp [nodeB,k0,k1,k2,k3,k4,k5,k6,k7])
 clear HRD HL HLK k0 k1 k2 k3 k4 k5 k6 k7
 go_enter Tryz.func236, Tryz.ntmps236
 go_wp2_with fail
 go_ret
 exact ⟨by rw [HV.out]; rfl,B1.out⟩
end Go.Proofs.YthjoelpfmimedaaGreatDoor
namespace Go.Proofs.YthjoelpfmimedaaGreatDoor
open Go.RowKit
mutual
def VT.chk (lit:Bool):VT → Nat → Nat → Option Nat
 | .mk k n s is ks,L,r => if L = 0 then none else if is.length ≤ r ∧ nodeB lit (.mk k n s is ks) = true then VT.chks lit is (L - 1) (r - is.length) else none
def VT.chks (lit:Bool):List VT → Nat → Nat → Option Nat
 | [],_,r => some r
 | t :: u,L,r => match t.chk lit L r with
   | none => none
   | some r' => VT.chks lit u L r'
end
mutual
theorem VT.chk_le {lit:Bool} {t:VT} {L r r':Nat} (h:t.chk lit L r = some r'):r' ≤ r:=by
 cases t with
 | mk k n s is ks =>
   simp only [VT.chk] at h
   split at h
   ·cases h
   ·split at h
    ·have:=VT.chks_le h; omega
    ·cases h
theorem VT.chks_le {lit:Bool} {l:List VT} {L r r':Nat} (h:VT.chks lit l L r = some r'):r' ≤ r:=by
 cases l with
 | nil => simp [VT.chks] at h; omega
 | cons t u =>
   simp only [VT.chks] at h
   cases q:t.chk lit L r with
   | none => rw [q] at h; cases h
   | some r1 =>
     rw [q] at h
     have h1:=VT.chk_le q
     have h2:=VT.chks_le h
     omega
end
theorem take_yes (c:Nat) (lit:Bool) (r n:Nat) (w:World) (hc:Chk w c lit r) (h:n ≤ r) (_hr:r ≤ 100000) :
  Calls Tryz.prog 235 #[.pointer (some ⟨c,0,none⟩),.int .i64 n] w fun e w' => e = .returned (.bool true) ∧ w.setCell ⟨c,1,none⟩ (.int .i64 ((r - n:Nat):Int)) = w':=by
 obtain ⟨c0,c1,c2⟩:=hc.cells
 have e:((r - n:Nat):Int) = (r:Int) - n:=by omega
 rw [e]
 have h1:¬ (r:Int) < (n:Int):=by omega
 clear hc e
 go_enter Tryz.func235, Tryz.ntmps235
 go_wp2_with fail
 go_ret
 exact ⟨rfl,rfl⟩
theorem take_no (c:Nat) (lit:Bool) (r n:Nat) (w:World) (hc:Chk w c lit r) (h:¬ n ≤ r) (_hr:r ≤ 100000) :
  Calls Tryz.prog 235 #[.pointer (some ⟨c,0,none⟩),.int .i64 n] w fun e w' => e = .returned (.bool false) ∧ w = w':=by
 obtain ⟨c0,c1,c2⟩:=hc.cells
 have h1:(r:Int) < (n:Int):=by omega
 clear hc
 go_enter Tryz.func235, Tryz.ntmps235
 go_wp2_with fail
 go_ret
 exact ⟨rfl,rfl⟩
theorem Chk.set {w:World} {c:Nat} {lit:Bool} {r:Int} (h:Chk w c lit r) (r':Int):Chk (w.setCell ⟨c,1,none⟩ (.int .i64 r')) c lit r':=by
 unfold Chk at h ⊢
 simp [World.setCell,Array.getElem?_modify,h]
def yi5 (w:World) (c:Nat) (lit:Bool) (o:Option Nat) (e:Ending) (w':World):Prop :=
 (match o with | none => e = .returned (.bool false) | some r' => e = .returned (.bool true) ∧ Chk w' c lit r' ) ∧ Below c w w'
def ChkAt (lit:Bool) (t:VT):Prop:=∀ (c L r:Nat) (w:World) (B:Nat) (v:Value),Chk w c lit r → r ≤ 100000 → L ≤ 1000 → Rd w B v t → B ≤ c →
  Calls Tryz.prog 203 #[.pointer (some ⟨c,0,none⟩),v,.int .i64 L] w (yi5 w c lit (t.chk lit L r))
set_option maxHeartbeats 2000000 in
theorem yh7 (lit:Bool) (t:VT):ChkAt lit t:=by
 induction t using VT.ind with
 | h k n s items keys ih =>
 intro c L r w B v hc hr hL h hB
 have HRD:=Lib.hid h
 have IH:=Lib.hid ih
 clear ih
 cases h with
 | @mk _ _ _ A li ci K lk ck _ _ V hk hn hs hks hli hlk hbi hbk hA hr' hK =>
 have HA:=Lib.hid hA
 have HR:=Lib.hid hr'
 have HL:=Lib.hid hli
 have hlm:(li:Int) ≤ 140737488351232:=by omega
 have hcl:=hc.lt
 have b1:Below w.heap.size w (w.alloc (.cells #[.int .i64 k,.int .i64 n,.string s,.slice A li ci,.slice K lk ck] 59 (0,0))):=(Below.refl _ _).alloc (Nat.le_refl _) _
 have HC1:=Lib.hid (hc.kept b1 hcl)
 have HX:=Lib.hid (Box.new w (.int .i64 k) (.int .i64 n) (.string s) (.slice A li ci) (.slice K lk ck))
 have B1:=Lib.hid b1
 clear hA hr' hli hlk hK hks hn hs hk hc b1
 by_cases l0:L = 0
 ·subst l0
  have HV:Hid ((VT.mk k n s items keys).chk lit 0 r = none):=Lib.hid (by simp [VT.chk])
  go_enter Tryz.func203, Tryz.ntmps203
  go_wp2_with fail
  go_ret
  exact ⟨by rw [HV.out]; rfl,B1.out.mono (by omega)⟩
 have l0':((L:Int) == 0) = false:=by rw [beq_eq_false_iff_ne]; omega
 have l0'':decide (L = 0) = false:=by simpa using l0
 have hLp:1 ≤ L:=by omega
 by_cases h1:li ≤ r
 ·have HT:=Lib.hid (take_yes c lit r li _ HC1.out h1 hr)
  have HC2:=Lib.hid (HC1.out.set ((r - li:Nat):Int))
  have HX2:=HX.out.set (p:=⟨c,1,none⟩) (by show w.heap.size ≠ c; omega) (.int .i64 ((r - li:Nat):Int))
  obtain ⟨x0,x1,x2,x3,x4⟩:=HX2.cells
  have HXH:=Lib.hid HX2
  have B2:Hid (Below c w ((w.alloc (.cells #[.int .i64 k,.int .i64 n,.string s,.slice A li ci,.slice K lk ck] 59 (0,0))).setCell ⟨c,1,none⟩ (.int .i64 ((r - li:Nat):Int)))):=Lib.hid (Below.setCell (p:=⟨c,1,none⟩) (B1.out.mono (by omega:c ≤ w.heap.size)) (Nat.le_refl _) _)
  have S2:Hid (w.heap.size + 1 = ((w.alloc (.cells #[.int .i64 k,.int .i64 n,.string s,.slice A li ci,.slice K lk ck] 59 (0,0))).setCell ⟨c,1,none⟩ (.int .i64 ((r - li:Nat):Int))).heap.size):=Lib.hid (by simp [World.setCell])
  generalize (w.alloc (.cells #[.int .i64 k,.int .i64 n,.string s,.slice A li ci,.slice K lk ck] 59 (0,0))).setCell ⟨c,1,none⟩ (.int .i64 ((r - li:Nat):Int)) = w2 at *
  have HN:=Lib.hid (node_any lit _ c _ w2 B _ HC2.out (HRD.out.kept (B2.out.mono hB)) (by have:=B2.out.size; omega))
  clear HX2
  cases q:nodeB lit (.mk k n s items keys)
  ·have HV:Hid ((VT.mk k n s items keys).chk lit L r = none):=Lib.hid (by simp only [VT.chk]; rw [if_neg l0,if_neg (by rw [q]; simp)])
   rw [q] at HN
   clear l0 q
   go_enter Tryz.func203, Tryz.ntmps203
   go_wp2_with fail
   refine HT.out.mono ?_
   rintro e w' ⟨rfl,rfl⟩
   go_wp2_with fail
   refine HN.out.mono ?_
   rintro e w' ⟨rfl,hb⟩
   have HB3:=Lib.hid (B2.out.trans (hb.mono (by have:=S2.out; omega)))
   clear hb
   go_wp2_with fail
   go_ret
   exact ⟨by rw [HV.out]; rfl,HB3.out⟩
  ·have HV:Hid ((VT.mk k n s items keys).chk lit L r = VT.chks lit items (L - 1) (r - li)):=Lib.hid (by simp only [VT.chk]; rw [if_neg l0,if_pos ⟨by have:=HL.out; omega,q⟩,HL.out])
   rw [q] at HN
   clear l0 q
   go_enter Tryz.func203, Tryz.ntmps203
   go_wp2_with fail
   refine HT.out.mono ?_
   rintro e w' ⟨rfl,rfl⟩
   go_wp2_with fail
   refine HN.out.mono ?_
   rintro e w3 ⟨rfl,hb⟩
   have hs3:=hb.size
   have HB3:=Lib.hid (B2.out.trans (hb.mono (by have:=S2.out; omega)))
   have HC3:=Lib.hid (HC2.out.kept hb (by have:=S2.out; omega))
   obtain ⟨y0,y1,y2,y3,y4⟩:=(HXH.out.kept hb).cells
   clear hb x0 x1 x2 x3 x4
   go_wp2_with fail
   clear y0 y1 y2 y3 y4
   go_loopw [28] (fun i wr => ∃ (j rr:Nat),j ≤ li ∧ rr ≤ 100000 ∧ i = .int .i64 j ∧ VT.chks lit items (L - 1) (r - li) = VT.chks lit (items.drop j) (L - 1) rr ∧ Chk wr c lit rr ∧ Below c w wr) (fun i _ => li - (intOf i).toNat)
   case atStart => exact ⟨0,r - li,Nat.zero_le _,by omega,rfl,rfl,HC3.out,HB3.out⟩
   case round =>
    obtain ⟨j,rr,hj,hrr,rfl,hch,hck,hb⟩:=hrel
    have HCH:=Lib.hid hch
    have HCK:=Lib.hid hck
    have HB:=Lib.hid hb
    have hcl2:=hck.lt
    clear hch hck
    by_cases hlt:j < li
    ·obtain ⟨a,t,k1,n1,s1,A1,li1,ci1,K1,lk1,ck1,rfl,ht,e,hrd,h0,h1,h2,h3,h4⟩:=zl0 HA.out HR.out HL.out (hb.mono hB) hlt
     have HD:Hid (items.drop j = t :: items.drop (j + 1)):=Lib.hid (by obtain ⟨h1,rfl⟩:=List.getElem?_eq_some_iff.1 ht; exact List.drop_eq_getElem_cons h1)
     have HI:Hid (Calls Tryz.prog 203 #[.pointer (some ⟨c,0,none⟩),V j,.int .i64 ((L - 1:Nat):Int)] (wr.alloc (.cells #[.int .i64 k1,.int .i64 n1,.string s1,.slice A1 li1 ci1,.slice K1 lk1 ck1] 59 (0,0))) (yi5 _ c lit (t.chk lit (L - 1) rr))) :=
      Lib.hid (IH.out j t ht c (L - 1) rr _ B _ (HCK.out.kept ((Below.refl _ _).alloc (Nat.le_refl _) _) hcl2) hrr (by omega) (hrd.kept ((Below.refl _ _).alloc (by omega) _)) hB)
     rw [e,show ((L - 1:Nat):Int) = (L:Int) - 1 by omega] at HI
     clear e hrd ht hb
     go_wp2_with fail
     refine HI.out.mono ?_
     cases q:t.chk lit (L - 1) rr with
     | none =>
       rintro e w4 ⟨rfl,hb4⟩
       have HV2:Hid ((VT.mk k n s items keys).chk lit L r = none):=Lib.hid (by rw [HV.out,HCH.out,HD.out,VT.chks,q])
       have HB4:=Lib.hid ((HB.out.alloc (by omega) _).trans hb4)
       clear hb4 q
       go_wp2_with fail
       go_ret
       exact ⟨by rw [HV2.out]; rfl,HB4.out⟩
     | some r' =>
       rintro e w4 ⟨⟨rfl,hck4⟩,hb4⟩
       have HCH2:Hid (VT.chks lit items (L - 1) (r - li) = VT.chks lit (items.drop (j + 1)) (L - 1) r'):=Lib.hid (by rw [HCH.out,HD.out,VT.chks,q])
       have HB4:=Lib.hid ((HB.out.alloc (by omega) _).trans hb4)
       have HCK4:=Lib.hid hck4
       have hr':=Lib.hid (VT.chk_le q)
       clear hb4 q hck4
       go_wp2_with fail
       go_roundw
       case rel => exact ⟨j + 1,r',by omega,by have:=hr'.out; omega,by go_num,HCH2.out,HCK4.out,HB4.out⟩
       case measure => simp [intOf]; omega
    ·have HV2:Hid ((VT.mk k n s items keys).chk lit L r = some rr):=Lib.hid (by rw [HV.out,HCH.out,List.drop_of_length_le (by have:=HL.out; omega)]; rfl)
     clear hb
     go_wp2_with fail
     go_ret
     exact ⟨by rw [HV2.out]; exact ⟨rfl,HCK.out⟩,HB.out⟩
 ·have HV:Hid ((VT.mk k n s items keys).chk lit L r = none):=Lib.hid (by simp only [VT.chk]; rw [if_neg l0,if_neg (by have:=HL.out; omega)])
  have HT:=Lib.hid (take_no c lit r li _ HC1.out h1 hr)
  clear l0
  go_enter Tryz.func203, Tryz.ntmps203
  go_wp2_with fail
  refine HT.out.mono ?_
  rintro e w' ⟨rfl,rfl⟩
  go_wp2_with fail
  go_ret
  exact ⟨by rw [HV.out]; rfl,B1.out.mono (by omega)⟩
mutual
def zb2 (lit:Bool):VT → Bool
 | .mk k n s is ks => nodeB lit (.mk k n s is ks) && zb1 lit is
def zb1 (lit:Bool):List VT → Bool
 | [] => true
 | t :: u => zb2 lit t && zb1 lit u
end
theorem zR2 (l:List VT):l.length ≤ VT.sizes l:=by
 induction l with
 | nil => simp
 | cons t u ih =>
   have:1 ≤ t.size:=by cases t; simp only [VT.size]; omega
   simp only [List.length_cons,VT.sizes]; omega
mutual
theorem VT.chk_eq (lit:Bool) (t:VT) (L r:Nat):t.chk lit L r = if zb2 lit t = true ∧ t.depth ≤ L ∧ t.size ≤ r + 1 then some (r + 1 - t.size) else none:=by
 cases t with
 | mk k n s is ks =>
   simp only [VT.chk,VT.depth,VT.size,zb2,Bool.and_eq_true]
   have hg:=zR2 is
   by_cases l0:L = 0
   ·rw [if_pos l0,if_neg (by omega)]
   ·rw [if_neg l0]
    by_cases h1:is.length ≤ r ∧ nodeB lit (.mk k n s is ks) = true
    ·rw [if_pos h1,VT.chks_eq lit is (L - 1) (r - is.length)]
     by_cases h2:zb1 lit is = true ∧ VT.depths is ≤ L - 1 ∧ VT.sizes is ≤ r - is.length + is.length
     ·rw [if_pos h2,if_pos ⟨⟨h1.2,h2.1⟩,by omega,by omega⟩]; congr 1; omega
     ·rw [if_neg h2,if_neg (fun h => h2 ⟨h.1.2,by omega,by omega⟩)]
    ·rw [if_neg h1,if_neg (fun h => h1 ⟨by omega,h.1.1⟩)]
theorem VT.chks_eq (lit:Bool) (l:List VT) (L r:Nat):VT.chks lit l L r = if zb1 lit l = true ∧ VT.depths l ≤ L ∧ VT.sizes l ≤ r + l.length then some (r + l.length - VT.sizes l) else none:=by
 cases l with
 | nil => simp [VT.chks,zb1,VT.depths,VT.sizes]
 | cons t u =>
   simp only [VT.chks,VT.depths,VT.sizes,zb1,Bool.and_eq_true,List.length_cons]
   have hg:=zR2 u
   rw [VT.chk_eq lit t L r]
   by_cases h1:zb2 lit t = true ∧ t.depth ≤ L ∧ t.size ≤ r + 1
   ·rw [if_pos h1]
    show VT.chks lit u L (r + 1 - t.size) = _
    rw [VT.chks_eq lit u L (r + 1 - t.size)]
    by_cases h2:zb1 lit u = true ∧ VT.depths u ≤ L ∧ VT.sizes u ≤ r + 1 - t.size + u.length
    ·rw [if_pos h2,if_pos ⟨⟨h1.1,h2.1⟩,by omega,by omega⟩]; congr 1; omega
    ·rw [if_neg h2,if_neg (fun h => h2 ⟨h.1.2,by omega,by omega⟩)]
   ·rw [if_neg h1,if_neg (fun h => h1 ⟨h.1.1,by omega,by omega⟩)]
end
def zc0 (lit:Bool) (t:VT):Bool:=decide (t.size ≤ 4096) && decide (t.depth ≤ 24) && zb2 lit t
theorem yh6 (lit:Bool) (t:VT):(∃ r,t.chk lit 24 4095 = some r ∧ zc0 lit t = true) ∨ (t.chk lit 24 4095 = none ∧ zc0 lit t = false):=by
 rw [VT.chk_eq]
 unfold zc0
 by_cases h:zb2 lit t = true ∧ t.depth ≤ 24 ∧ t.size ≤ 4095 + 1
 ·exact .inl ⟨_,if_pos h,by simp [h.1]; omega⟩
 ·refine .inr ⟨if_neg h, ?_⟩
  cases q:zb2 lit t
  ·simp
  ·by_cases h2:t.size ≤ 4096
   ·have h3:¬ t.depth ≤ 24:=fun h3 => h ⟨q,h3,h2⟩
    simp [h3]
   ·simp [h2]
theorem zI8 (t:VT) (w:World) (B:Nat) (v:Value) (h:Rd w B v t) (hB:B ≤ w.heap.size) :
  Calls Tryz.prog 159 #[v] w fun e w' => e = .returned (.bool (zc0 false t)) ∧ Below w.heap.size w w':=by
 have HRD:=Lib.hid h
 obtain ⟨k,n,s,A,li,ci,K,lk,ck,rfl⟩:=h.shape
 have b1:Below w.heap.size w ((w.alloc (.cells #[.int .i64 k,.int .i64 n,.string s,.slice A li ci,.slice K lk ck] 59 (0,0))).alloc (.cells #[.bool false,.int .i64 4095] 219 (0,0))):=((Below.refl _ _).alloc (Nat.le_refl _) _).alloc (by simp) _
 have hck:Chk ((w.alloc (.cells #[.int .i64 k,.int .i64 n,.string s,.slice A li ci,.slice K lk ck] 59 (0,0))).alloc (.cells #[.bool false,.int .i64 4095] 219 (0,0))) (w.heap.size + 1) false 4095:=by
  have:=heap_alloc_new (w.alloc (.cells #[.int .i64 k,.int .i64 n,.string s,.slice A li ci,.slice K lk ck] 59 (0,0))) (.cells #[.bool false,.int .i64 4095] 219 (0,0))
  simpa [Chk] using this
 have HC:=Lib.hid (yh7 false t (w.heap.size + 1) 24 4095 _ B _ hck (by omega) (by omega) (h.kept (b1.mono hB)) (by omega))
 have B1:=Lib.hid b1
 clear b1 hck h
 rcases yh6 false t with ⟨r,q,hv⟩ | ⟨q,hv⟩
 all_goals
  rw [q] at HC
  have HV:=Lib.hid hv
  clear q hv
  go_enter Tryz.func159, Tryz.ntmps159
  go_wp2_with fail
  refine HC.out.mono ?_
  first
   | (rintro e w4 ⟨⟨rfl,_⟩,hb4⟩; have HB4:=Lib.hid (B1.out.trans (hb4.mono (by omega))); clear hb4)
   | (rintro e w4 ⟨rfl,hb4⟩; have HB4:=Lib.hid (B1.out.trans (hb4.mono (by omega))); clear hb4)
  go_wp2_with fail
  go_ret
  exact ⟨by rw [HV.out]; rfl,HB4.out⟩
theorem zO6 (t:VT) (w:World) (B:Nat) (v:Value) (h:Rd w B v t) (hB:B ≤ w.heap.size) :
  Calls Tryz.prog 158 #[v] w fun e w' => e = .returned (.bool (zc0 true t)) ∧ Below w.heap.size w w':=by
 have HRD:=Lib.hid h
 obtain ⟨k,n,s,A,li,ci,K,lk,ck,rfl⟩:=h.shape
 have b1:Below w.heap.size w ((w.alloc (.cells #[.int .i64 k,.int .i64 n,.string s,.slice A li ci,.slice K lk ck] 59 (0,0))).alloc (.cells #[.bool true,.int .i64 4095] 219 (0,0))):=((Below.refl _ _).alloc (Nat.le_refl _) _).alloc (by simp) _
 have hck:Chk ((w.alloc (.cells #[.int .i64 k,.int .i64 n,.string s,.slice A li ci,.slice K lk ck] 59 (0,0))).alloc (.cells #[.bool true,.int .i64 4095] 219 (0,0))) (w.heap.size + 1) true 4095:=by
  have:=heap_alloc_new (w.alloc (.cells #[.int .i64 k,.int .i64 n,.string s,.slice A li ci,.slice K lk ck] 59 (0,0))) (.cells #[.bool true,.int .i64 4095] 219 (0,0))
  simpa [Chk] using this
 have HC:=Lib.hid (yh7 true t (w.heap.size + 1) 24 4095 _ B _ hck (by omega) (by omega) (h.kept (b1.mono hB)) (by omega))
 have B1:=Lib.hid b1
 clear b1 hck h
 rcases yh6 true t with ⟨r,q,hv⟩ | ⟨q,hv⟩
 all_goals
  rw [q] at HC
  have HV:=Lib.hid hv
  clear q hv
  go_enter Tryz.func158, Tryz.ntmps158
  go_wp2_with fail
  refine HC.out.mono ?_
  first
   | (rintro e w4 ⟨⟨rfl,_⟩,hb4⟩; have HB4:=Lib.hid (B1.out.trans (hb4.mono (by omega))); clear hb4)
   | (rintro e w4 ⟨rfl,hb4⟩; have HB4:=Lib.hid (B1.out.trans (hb4.mono (by omega))); clear hb4)
  go_wp2_with fail
  go_ret
  exact ⟨by rw [HV.out]; rfl,HB4.out⟩
end Go.Proofs.YthjoelpfmimedaaGreatDoor
namespace Go.Proofs.YthjoelpfmimedaaGreatDoor
open Go.RowKit
end Go.Proofs.YthjoelpfmimedaaGreatDoor
namespace Go.Proofs.YthjoelpfmimedaaGreatDoor
open Go.RowKit
end Go.Proofs.YthjoelpfmimedaaGreatDoor
namespace Go.Proofs.YthjoelpfmimedaaGreatDoor
open Go.RowKit
theorem pastc {w W:World} {B:Nat} (hW:Below B w W) (x:Past W) (hB:B ≤ W.heap.size) {p:Addr} (hp:p.block < B):x.w.cell? p = w.cell? p:=(x.b.cell (by omega)).trans (hW.cell hp)
end Go.Proofs.YthjoelpfmimedaaGreatDoor
namespace Go.Proofs.YthjoelpfmimedaaGreatDoor
open Go.RowKit
set_option maxRecDepth 100000 in
set_option maxHeartbeats 4000000 in
theorem zZ4 (l:List ByteArray) (v v':Value) (w:World) (h:NamesR w w.heap.size v l) (h':NamesR w w.heap.size v' l):Calls Tryz.prog 66 #[v,v'] w (BP true w):=by
 obtain ⟨A,c,rfl,hc,hbb,V,hA,hr⟩:=h
 obtain ⟨A',c',rfl,hc',_,V',hA',hr'⟩:=h'
 obtain ⟨ll,hll⟩ : ∃ ll,ll = l.length:=⟨_,rfl⟩
 have HLL:=Lib.hid hll
 rw [← hll] at hbb hA hA' ⊢
 have hlb:(ll:Int) ≤ 140737488351232:=by unfold big at hbb; omega
 have HA:=Lib.hid hA
 have HRR:=Lib.hid hr
 have HA':=Lib.hid hA'
 have HRR':=Lib.hid hr'
 clear hA hr hA' hr' hll hbb hc hc'
 go_enter Tryz.func66, Tryz.ntmps66
 go_wp2_with fail
 go_loopw [5] (fun i wr => ∃ j:Nat,j ≤ ll ∧ i = .int .i64 j ∧ Hid (Below w.heap.size w wr)) (fun i _ => ll - (intOf i).toNat)
 case atStart => exact ⟨0,Nat.zero_le _,rfl,Lib.hid (Below.refl _ _)⟩
 case round =>
  obtain ⟨j,hj,rfl,hq⟩:=hrel
  by_cases hlt:j < ll
  ·skip
   have hlt':(j:Int) < ll:=by omega
   obtain ⟨d,hd⟩ : ∃ d,l[j]? = some d:=⟨_,List.getElem?_eq_getElem (by have:=HLL.out; omega)⟩
   obtain ⟨a,rfl,ha,hx⟩:=HA.out (by omega)
   obtain ⟨a',rfl,ha',hx'⟩:=HA'.out (by omega)
   have hdr:=HRR.out j d hd
   have hdr':=HRR'.out j d hd
   have hcell:=hx j hlt
   have hcell':=hx' j hlt
   have hxx:decide (d = d) = true:=by simp
   have H0:Hid (w.cell? (a.add j) = some (.string d)):=Lib.hid (by have:=hcell 0 (by omega); rw [Nat.mul_one] at this; exact this.trans (by rw [hdr.1]))
   have H1:Hid (w.cell? (a'.add j) = some (.string d)):=Lib.hid (by have:=hcell' 0 (by omega); rw [Nat.mul_one] at this; exact this.trans (by rw [hdr'.1]))
   have HAB:=Lib.hid ha
   have HAB':=Lib.hid ha'
   clear hx hx' hdr hdr' hcell hcell' hd ha ha'
   go_wp2_with fail
   refine za8 (fun W => Below w.heap.size w W) hq.out (by kernel_rfl) ?_
   intro W hW _
   have p0:∀ x:Past W,x.w.cell? (a.add j) = some (.string d):=fun x => (pastc hW x hW.size (by rw [za1]; exact HAB.out)).trans H0.out
   have p1:∀ x:Past W,x.w.cell? (a'.add j) = some (.string d):=fun x => (pastc hW x hW.size (by rw [za1]; exact HAB'.out)).trans H1.out
   have HWW:=Lib.hid hW
   clear hW
   repeat (go_big_quiet_step (fail))
   refine wpQuiet_nil ?_
   intro _ hw'
   obtain ⟨y,rfl⟩:=hw'
   go_wp2_with fail
   go_roundw
   case rel => exact ⟨j + 1,by omega,by go_num,Lib.hid (HWW.out.trans (y.b.mono HWW.out.size))⟩
   case measure => simp [intOf]; omega
  ·have hlt':¬ (j:Int) < ll:=by omega
   go_wp2_with fail
   go_ret
   exact ⟨rfl,hq.out⟩
end Go.Proofs.YthjoelpfmimedaaGreatDoor
namespace Go.Proofs.YthjoelpfmimedaaGreatDoor
open Go.RowKit
def EqAt (t:VT):Prop:=∀ (w:World) (B:Nat) (v v':Value),Rd w B v t → Rd w B v' t → B ≤ w.heap.size → Calls Tryz.prog 129 #[v,v'] w fun e w' => e = .returned (.bool true) ∧ Below w.heap.size w w'
set_option maxRecDepth 100000 in
set_option maxHeartbeats 4000000 in
theorem zx7 (t:VT):EqAt t:=by
 induction t using VT.ind with
 | h k n s items keys ih =>
 intro w B v v' h h' hB
 have IH:=Lib.hid ih
 clear ih
 cases h with
 | @mk _ _ _ A li ci K lk ck _ _ V hk hn hs hks hli hlk hbi hbk hA hr hK =>
 cases h' with
 | @mk _ _ _ A' li' ci' K' lk' ck' _ _ V' hk' hn' hs' hks' hli' hlk' hbi' hbk' hA' hr' hK' =>
 obtain rfl:li = li':=hli.symm.trans hli'
 obtain rfl:lk = lk':=hlk.symm.trans hlk'
 have HA:=Lib.hid hA
 have HR:=Lib.hid hr
 have HL:=Lib.hid hli
 have HLK:=Lib.hid hlk
 have HA':=Lib.hid hA'
 have HR':=Lib.hid hr'
 have HK:=Lib.hid hK
 have HK':=Lib.hid hK'
 clear hA hr hA' hr' hli hli' hK hK' hks hks' hk hk' hn hn' hs hs' hlk hlk'
 obtain ⟨f1,f2,f3⟩:=Box.two w (.int .i64 k) (.int .i64 n) (.string s) (.slice A li ci) (.slice K lk ck) (.int .i64 k) (.int .i64 n) (.string s) (.slice A' li ci') (.slice K' lk ck')
 have F1:=Lib.hid f1
 have F2:=Lib.hid f2
 have F3:=Lib.hid f3
 obtain ⟨p0,p1,p2,p3,p4⟩:=f1.cells
 obtain ⟨q0,q1,q2,q3,q4⟩:=f2.cells
 clear f1 f2 f3
 have hlm:(li:Int) ≤ 140737488351232:=by omega
 have hlm':(lk:Int) ≤ 140737488351232:=by omega
 clear hbi hbk hbi' hbk'
 have hss:decide (s = s) = true:=by simp
 go_enter Tryz.func129, Tryz.ntmps129
 go_wp2_with fail
 clear p0 p1 p2 p3 p4 q0 q1 q2 q3 q4
 go_loopw [5] (fun i wr => ∃ j:Nat,j ≤ lk ∧ i = .int .i64 j ∧ Below w.heap.size w wr ∧
  Box wr w.heap.size (.int .i64 k) (.int .i64 n) (.string s) (.slice A li ci) (.slice K lk ck) ∧ Box wr (w.heap.size + 1) (.int .i64 k) (.int .i64 n) (.string s) (.slice A' li ci') (.slice K' lk ck')) (fun i _ => lk - (intOf i).toNat)
 case atStart => exact ⟨0,Nat.zero_le _,rfl,F3.out,F1.out,F2.out⟩
 case round =>
  obtain ⟨j,hj,rfl,hb,hx1,hx2⟩:=hrel
  have HB:=Lib.hid hb
  have HX1:=Lib.hid hx1
  have HX2:=Lib.hid hx2
  obtain ⟨p0,p1,p2,p3,p4⟩:=hx1.cells
  obtain ⟨q0,q1,q2,q3,q4⟩:=hx2.cells
  clear hb hx1 hx2 F1 F2 F3
  by_cases hlt:j < lk
  ·obtain ⟨a,rfl,hab,hkc⟩:=HK.out (by have:=HLK.out; omega)
   obtain ⟨a',rfl,hab',hkc'⟩:=HK'.out (by have:=HLK.out; omega)
   obtain ⟨x,hx⟩ : ∃ x,keys[j]? = some x:=⟨_,List.getElem?_eq_getElem (by have:=HLK.out; omega)⟩
   have HC:Hid (w.cell? (a.add j) = some (.string x)):=Lib.hid (hkc j x hx)
   have HC':Hid (w.cell? (a'.add j) = some (.string x)):=Lib.hid (hkc' j x hx)
   have HAB:Hid ((a.add j).block < w.heap.size):=Lib.hid (by rw [za1]; omega)
   have HAB':Hid ((a'.add j).block < w.heap.size):=Lib.hid (by rw [za1]; omega)
   have hlt':(j:Int) < lk:=by omega
   have hxx:decide (x = x) = true:=by simp
   clear hkc hkc' hx hab hab'
   go_wp2_with fail
   refine za8 (fun W => Box W w.heap.size (.int .i64 k) (.int .i64 n) (.string s) (.slice A li ci) (.slice (some a) lk ck) ∧ Box W (w.heap.size + 1) (.int .i64 k) (.int .i64 n) (.string s) (.slice A' li ci') (.slice (some a') lk ck') ∧ Below w.heap.size w W) ⟨HX1.out,HX2.out,HB.out⟩ (by kernel_rfl) ?_
   clear p0 p1 p2 p3 p4 q0 q1 q2 q3 q4
   intro W ⟨f1,f2,f3⟩ _
   obtain ⟨p0,p1,p2,p3,p4⟩:=f1.past
   obtain ⟨q0,q1,q2,q3,q4⟩:=f2.past
   have G1:=Lib.hid f1
   have G2:=Lib.hid f2
   have G3:=Lib.hid f3
   clear f1 f2 f3
   have r0:∀ y:Past W,y.w.cell? (a.add j) = some (.string x):=fun y => by
    rw [(G3.out.trans (y.b.mono G3.out.size)).cell HAB.out]; exact HC.out
   have u0:∀ y:Past W,y.w.cell? (a'.add j) = some (.string x):=fun y => by
    rw [(G3.out.trans (y.b.mono G3.out.size)).cell HAB'.out]; exact HC'.out
   repeat (go_big_quiet_step (fail))
   refine wpQuiet_nil ?_
   intro _ hw'
   obtain ⟨y,rfl⟩:=hw'
   have HBx:=Lib.hid (G3.out.trans (y.b.mono G3.out.size))
   have HX1':=Lib.hid (G1.out.kept y.b)
   have HX2':=Lib.hid (G2.out.kept y.b)
   clear p0 p1 p2 p3 p4 q0 q1 q2 q3 q4 r0 u0
   generalize y.w = wx at *
   go_wp2_with fail
   go_roundw
   case rel => exact ⟨j + 1,by omega,by go_num,HBx.out,HX1'.out,HX2'.out⟩
   case measure => simp [intOf]; omega
  ·have hlt':¬ (j:Int) < lk:=by omega
   go_wp2_with fail
   clear p0 p1 p2 p3 p4 q0 q1 q2 q3 q4
   go_loopw [6] (fun i wr2 => ∃ j2:Nat,j2 ≤ li ∧ i = .int .i64 j2 ∧ Below w.heap.size w wr2 ∧
    Box wr2 w.heap.size (.int .i64 k) (.int .i64 n) (.string s) (.slice A li ci) (.slice K lk ck) ∧ Box wr2 (w.heap.size + 1) (.int .i64 k) (.int .i64 n) (.string s) (.slice A' li ci') (.slice K' lk ck')) (fun i _ => li - (intOf i).toNat)
   case atStart => exact ⟨0,Nat.zero_le _,rfl,HB.out,HX1.out,HX2.out⟩
   case round =>
    obtain ⟨j2,hj2,rfl,hb,hx1,hx2⟩:=hrel
    have HB2:=Lib.hid hb
    have HY1:=Lib.hid hx1
    have HY2:=Lib.hid hx2
    obtain ⟨p0,p1,p2,p3,p4⟩:=hx1.cells
    obtain ⟨q0,q1,q2,q3,q4⟩:=hx2.cells
    clear hb hx1 hx2 HB HX1 HX2
    by_cases hlt2:j2 < li
    ·obtain ⟨a,t,k1,n1,s1,A1,li1,ci1,K1,lk1,ck1,rfl,ht,e,hrd,_,_,_,_,_⟩:=zl0 HA.out HR.out HL.out (Below.refl _ _) hlt2
     obtain ⟨a',t',k1',n1',s1',A1',li1',ci1',K1',lk1',ck1',rfl,ht',e',hrd',_,_,_,_,_⟩:=zl0 HA'.out HR'.out HL.out (Below.refl _ _) hlt2
     obtain rfl:t = t':=Option.some.inj (ht.symm.trans ht')
     have HC:Hid (C5 w (a.add (j2 * 5)) (V j2)):=Lib.hid (by obtain ⟨_,e,_,h⟩:=HA.out (by omega); cases e; exact h j2 hlt2)
     have HC':Hid (C5 w (a'.add (j2 * 5)) (V' j2)):=Lib.hid (by obtain ⟨_,e,_,h⟩:=HA'.out (by omega); cases e; exact h j2 hlt2)
     have hab:(a.add (j2 * 5)).block < B:=by obtain ⟨_,e,h,_⟩:=HA.out (by omega); cases e; rw [za1]; exact h
     have hab':(a'.add (j2 * 5)).block < B:=by obtain ⟨_,e,h,_⟩:=HA'.out (by omega); cases e; rw [za1]; exact h
     have IHH:=Lib.hid (IH.out j2 t ht)
     have E:=Lib.hid e
     have E':=Lib.hid e'
     have HT:=Lib.hid hrd
     have HT':=Lib.hid hrd'
     have hlt2':(j2:Int) < li:=by omega
     clear e e' hrd hrd' ht ht'
     go_wp2_with fail
     refine za8 (fun W => Box W w.heap.size (.int .i64 k) (.int .i64 n) (.string s) (.slice (some a) li ci) (.slice K lk ck) ∧ Box W (w.heap.size + 1) (.int .i64 k) (.int .i64 n) (.string s) (.slice (some a') li ci') (.slice K' lk ck') ∧ Below w.heap.size w W) ⟨HY1.out,HY2.out,HB2.out⟩ (by kernel_rfl) ?_
     clear p0 p1 p2 p3 p4 q0 q1 q2 q3 q4
     intro W2 ⟨f1,f2,f3⟩ _
     obtain ⟨p0,p1,p2,p3,p4⟩:=f1.past
     obtain ⟨q0,q1,q2,q3,q4⟩:=f2.past
     obtain ⟨r0,r1,r2,r3,r4⟩:=(HC.out.kept (by omega) f3).past E.out (Nat.lt_of_lt_of_le (Nat.lt_of_lt_of_le hab hB) f3.size)
     obtain ⟨u0,u1,u2,u3,u4⟩:=(HC'.out.kept (by omega) f3).past E'.out (Nat.lt_of_lt_of_le (Nat.lt_of_lt_of_le hab' hB) f3.size)
     have Z1:=Lib.hid f1
     have Z2:=Lib.hid f2
     have Z3:=Lib.hid f3
     clear f1 f2 f3
     have C4:Hid (∀ x:Past W2,Calls Tryz.prog 129 #[.agg #[.int .i64 k1,.int .i64 n1,.string s1,.slice A1 li1 ci1,.slice K1 lk1 ck1],.agg #[.int .i64 k1',.int .i64 n1',.string s1',.slice A1' li1' ci1',.slice K1' lk1' ck1']] x.w fun e w'' => e = .returned (.bool true) ∧ ∃ y:Past W2,w'' = y.w) :=
      Lib.hid fun x => zl1 x (by
       have g:=Z3.out.trans (x.b.mono Z3.out.size)
       have:=IHH.out x.w B (V j2) (V' j2) (HT.out.kept (g.mono hB)) (HT'.out.kept (g.mono hB)) (Nat.le_trans hB g.size)
       rwa [E.out,E'.out] at this)
     have hi0:(0:Int) ≤ (j2:Int):=by omega
     repeat (go_big_quiet_step (with_reducible exact C4.out _))
     refine wpQuiet_nil ?_
     intro _ hw'
     obtain ⟨x,rfl⟩:=hw'
     have HBy:=Lib.hid (Z3.out.trans (x.b.mono Z3.out.size))
     have HY1':=Lib.hid (Z1.out.kept x.b)
     have HY2':=Lib.hid (Z2.out.kept x.b)
     clear p0 p1 p2 p3 p4 q0 q1 q2 q3 q4 r0 r1 r2 r3 r4 u0 u1 u2 u3 u4
     generalize x.w = wy at *
     go_wp2_with fail
     go_roundw
     case rel => exact ⟨j2 + 1,by omega,by go_num,HBy.out,HY1'.out,HY2'.out⟩
     case measure => simp [intOf]; omega
    ·have hlt2':¬ (j2:Int) < li:=by omega
     go_wp2_with fail
     go_ret
     exact ⟨rfl,HB2.out⟩
end Go.Proofs.YthjoelpfmimedaaGreatDoor
namespace Go.Proofs.YthjoelpfmimedaaGreatDoor
open Go.RowKit
set_option maxRecDepth 100000 in
set_option maxHeartbeats 8000000 in
theorem zi3 (l:List DirT) (v v':Value) (w:World) (h:DirsR w w.heap.size v l) (h':DirsR w w.heap.size v' l):Calls Tryz.prog 67 #[v,v'] w (BP true w):=by
 obtain ⟨A,c,rfl,hc,hbb,V,hA,hr⟩:=h
 obtain ⟨A',c',rfl,hc',_,V',hA',hr'⟩:=h'
 obtain ⟨ll,hll⟩ : ∃ ll,ll = l.length:=⟨_,rfl⟩
 have HLL:=Lib.hid hll
 rw [← hll] at hbb hA hA' ⊢
 have hlb:(ll:Int) ≤ 140737488351232:=by unfold big at hbb; omega
 have HA:=Lib.hid hA
 have HRR:=Lib.hid hr
 have HA':=Lib.hid hA'
 have HRR':=Lib.hid hr'
 clear hA hr hA' hr' hll hbb hc hc'
 go_enter Tryz.func67, Tryz.ntmps67
 go_wp2_with fail
 go_loopw [5] (fun i wr => ∃ j:Nat,j ≤ ll ∧ i = .int .i64 j ∧ Hid (Below w.heap.size w wr)) (fun i _ => ll - (intOf i).toNat)
 case atStart => exact ⟨0,Nat.zero_le _,rfl,Lib.hid (Below.refl _ _)⟩
 case round =>
  obtain ⟨j,hj,rfl,hq⟩:=hrel
  by_cases hlt:j < ll
  ·skip
   have hlt':(j:Int) < ll:=by omega
   obtain ⟨d,hd⟩ : ∃ d,l[j]? = some d:=⟨_,List.getElem?_eq_getElem (by have:=HLL.out; omega)⟩
   obtain ⟨a,rfl,ha,hx⟩:=HA.out (by omega)
   obtain ⟨a',rfl,ha',hx'⟩:=HA'.out (by omega)
   have hdr:=HRR.out j d hd
   have hdr':=HRR'.out j d hd
   have hcell:=hx j hlt
   have hcell':=hx' j hlt
   obtain ⟨A1,c1,ea,_,hb1,V1,hA1,hr1⟩:=hdr.args
   obtain ⟨A1',c1',ea',_,_,V1',hA1',hr1'⟩:=hdr'.args
   have hxx:decide (d.name = d.name) = true:=by simp
   obtain ⟨la,hla⟩ : ∃ la,la = d.args.length:=⟨_,rfl⟩
   have HLA:=Lib.hid hla
   rw [← hla] at ea ea' hb1 hA1 hA1'
   have hlab:(la:Int) ≤ 140737488351232:=by unfold big at hb1; omega
   have HA1:=Lib.hid hA1
   have HR1:=Lib.hid hr1
   have HA1':=Lib.hid hA1'
   have HR1':=Lib.hid hr1'
   have H0:=Lib.hid ((hcell 0 (by omega)).trans (by rw [hdr.name]):w.cell? (a.add (j * 2)) = some (.string d.name))
   have H1:=Lib.hid ((hcell 1 (by omega)).trans (by rw [ea]):w.cell? ⟨(a.add (j * 2)).block,(a.add (j * 2)).off + 1,none⟩ = some (.slice A1 la c1))
   have H0':=Lib.hid ((hcell' 0 (by omega)).trans (by rw [hdr'.name]):w.cell? (a'.add (j * 2)) = some (.string d.name))
   have H1':=Lib.hid ((hcell' 1 (by omega)).trans (by rw [ea']):w.cell? ⟨(a'.add (j * 2)).block,(a'.add (j * 2)).off + 1,none⟩ = some (.slice A1' la c1'))
   have HAB:=Lib.hid ha
   have HAB':=Lib.hid ha'
   clear hx hx' hdr hdr' hcell hcell' hd ha ha' hA1 hr1 hA1' hr1' hla ea ea' hb1
   generalize d.name = nm at *
   go_wp2_with fail
   refine za8 (fun W => Below w.heap.size w W) hq.out (by kernel_rfl) ?_
   intro W hW _
   have p0:∀ x:Past W,x.w.cell? (a.add (j * 2)) = some (.string nm):=fun x => (pastc hW x hW.size (by rw [za1]; exact HAB.out)).trans H0.out
   have p1:∀ x:Past W,x.w.cell? (a'.add (j * 2)) = some (.string nm):=fun x => (pastc hW x hW.size (by rw [za1]; exact HAB'.out)).trans H0'.out
   have p2:∀ x:Past W,x.w.cell? ⟨(a.add (j * 2)).block,(a.add (j * 2)).off + 1,none⟩ = some (.slice A1 la c1):=fun x => (pastc hW x hW.size (p:=⟨(a.add (j * 2)).block,(a.add (j * 2)).off + 1,none⟩) (by rw [za1]; exact HAB.out)).trans H1.out
   have p3:∀ x:Past W,x.w.cell? ⟨(a'.add (j * 2)).block,(a'.add (j * 2)).off + 1,none⟩ = some (.slice A1' la c1'):=fun x => (pastc hW x hW.size (p:=⟨(a'.add (j * 2)).block,(a'.add (j * 2)).off + 1,none⟩) (by rw [za1]; exact HAB'.out)).trans H1'.out
   have HWW:=Lib.hid hW
   clear hW hq
   repeat (go_big_quiet_step (fail))
   refine wpQuiet_nil ?_
   intro _ hw'
   obtain ⟨y,rfl⟩:=hw'
   have HB6:=Lib.hid (HWW.out.trans (y.b.mono HWW.out.size))
   clear p0 p1 p2 p3 HWW
   generalize y.w = w6 at *
   go_wp2_with fail
   go_loopw [6] (fun i wr => ∃ j2:Nat,j2 ≤ la ∧ i = .int .i64 j2 ∧ Hid (Below w.heap.size w wr)) (fun i _ => la - (intOf i).toNat)
   case atStart => exact ⟨0,Nat.zero_le _,rfl,HB6⟩
   case round =>
    obtain ⟨j2,hj2,rfl,hq2⟩:=hrel
    have z1:wr.cell? ⟨(a.add (j * 2)).block,(a.add (j * 2)).off + 1,none⟩ = some (.slice A1 la c1):=(hq2.out.cell (p:=⟨(a.add (j * 2)).block,(a.add (j * 2)).off + 1,none⟩) (by rw [za1]; exact HAB.out)).trans H1.out
    by_cases hlt2:j2 < la
    ·have hlt2':(j2:Int) < la:=by omega
     obtain ⟨g,hg⟩ : ∃ g,d.args[j2]? = some g:=⟨_,List.getElem?_eq_getElem (by have:=HLA.out; omega)⟩
     obtain ⟨b,rfl,hb,hy⟩:=HA1.out (by omega)
     obtain ⟨b',rfl,hb',hy'⟩:=HA1'.out (by omega)
     have hgr:=HR1.out j2 g hg
     have hgr':=HR1'.out j2 g hg
     have ycell:=hy j2 hlt2
     have ycell':=hy' j2 hlt2
     obtain ⟨k1,n1,s1,B1,li1,ci1,K1,lk1,ck1,e1,e2,e3,e4,e5⟩:=Rd.form hgr.val
     obtain ⟨k2,n2,s2,B2,li2,ci2,K2,lk2,ck2,f1,f2,f3,f4,f5⟩:=Rd.form hgr'.val
     have hvv:Rd w w.heap.size (.agg #[.int .i64 k1,.int .i64 n1,.string s1,.slice B1 li1 ci1,.slice K1 lk1 ck1]) g.2:=by
      have:=hgr.val
      rw [e1,e2,e3,e4,e5] at this
      exact this
     have hvv':Rd w w.heap.size (.agg #[.int .i64 k2,.int .i64 n2,.string s2,.slice B2 li2 ci2,.slice K2 lk2 ck2]) g.2:=by
      have:=hgr'.val
      rw [f1,f2,f3,f4,f5] at this
      exact this
     have hxx2:decide (g.1 = g.1) = true:=by simp
     have G0:=Lib.hid ((ycell 0 (by omega)).trans (by rw [hgr.name]):w.cell? (b.add (j2 * 6)) = some (.string g.1))
     have G1:=Lib.hid ((ycell 1 (by omega)).trans (by rw [e1]):w.cell? ⟨(b.add (j2 * 6)).block,(b.add (j2 * 6)).off + 1,none⟩ = some (.int .i64 k1))
     have G2:=Lib.hid ((ycell 2 (by omega)).trans (by rw [e2]):w.cell? ⟨(b.add (j2 * 6)).block,(b.add (j2 * 6)).off + 2,none⟩ = some (.int .i64 n1))
     have G3:=Lib.hid ((ycell 3 (by omega)).trans (by rw [e3]):w.cell? ⟨(b.add (j2 * 6)).block,(b.add (j2 * 6)).off + 3,none⟩ = some (.string s1))
     have G4:=Lib.hid ((ycell 4 (by omega)).trans (by rw [e4]):w.cell? ⟨(b.add (j2 * 6)).block,(b.add (j2 * 6)).off + 4,none⟩ = some (.slice B1 li1 ci1))
     have G5:=Lib.hid ((ycell 5 (by omega)).trans (by rw [e5]):w.cell? ⟨(b.add (j2 * 6)).block,(b.add (j2 * 6)).off + 5,none⟩ = some (.slice K1 lk1 ck1))
     have G'0:=Lib.hid ((ycell' 0 (by omega)).trans (by rw [hgr'.name]):w.cell? (b'.add (j2 * 6)) = some (.string g.1))
     have G'1:=Lib.hid ((ycell' 1 (by omega)).trans (by rw [f1]):w.cell? ⟨(b'.add (j2 * 6)).block,(b'.add (j2 * 6)).off + 1,none⟩ = some (.int .i64 k2))
     have G'2:=Lib.hid ((ycell' 2 (by omega)).trans (by rw [f2]):w.cell? ⟨(b'.add (j2 * 6)).block,(b'.add (j2 * 6)).off + 2,none⟩ = some (.int .i64 n2))
     have G'3:=Lib.hid ((ycell' 3 (by omega)).trans (by rw [f3]):w.cell? ⟨(b'.add (j2 * 6)).block,(b'.add (j2 * 6)).off + 3,none⟩ = some (.string s2))
     have G'4:=Lib.hid ((ycell' 4 (by omega)).trans (by rw [f4]):w.cell? ⟨(b'.add (j2 * 6)).block,(b'.add (j2 * 6)).off + 4,none⟩ = some (.slice B2 li2 ci2))
     have G'5:=Lib.hid ((ycell' 5 (by omega)).trans (by rw [f5]):w.cell? ⟨(b'.add (j2 * 6)).block,(b'.add (j2 * 6)).off + 5,none⟩ = some (.slice K2 lk2 ck2))
     have HE:=Lib.hid (fun (W:World) (hW:Below w.heap.size w W) => zx7 g.2 W w.heap.size _ _ (hvv.kept hW) (hvv'.kept hW) hW.size)
     have HBB:=Lib.hid hb
     have HBB':=Lib.hid hb'
     clear hy hy' hgr hgr' ycell ycell' hg hb hb' e1 e2 e3 e4 e5 f1 f2 f3 f4 f5 hvv hvv'
     generalize g.1 = gn at *
     go_wp2_with fail
     refine za8 (fun W => Below w.heap.size w W) hq2.out (by kernel_rfl) ?_
     intro W hW _
     have p2:∀ x:Past W,x.w.cell? ⟨(a.add (j * 2)).block,(a.add (j * 2)).off + 1,none⟩ = some (.slice (some b) la c1):=fun x => (pastc hW x hW.size (p:=⟨(a.add (j * 2)).block,(a.add (j * 2)).off + 1,none⟩) (by rw [za1]; exact HAB.out)).trans H1.out
     have p3:∀ x:Past W,x.w.cell? ⟨(a'.add (j * 2)).block,(a'.add (j * 2)).off + 1,none⟩ = some (.slice (some b') la c1'):=fun x => (pastc hW x hW.size (p:=⟨(a'.add (j * 2)).block,(a'.add (j * 2)).off + 1,none⟩) (by rw [za1]; exact HAB'.out)).trans H1'.out
     have r10:∀ x:Past W,x.w.cell? (b.add (j2 * 6)) = some (.string gn):=fun x => (pastc hW x hW.size (p:=(b.add (j2 * 6))) (by rw [za1]; exact HBB.out)).trans G0.out
     have r11:∀ x:Past W,x.w.cell? ⟨(b.add (j2 * 6)).block,(b.add (j2 * 6)).off + 1,none⟩ = some (.int .i64 k1):=fun x => (pastc hW x hW.size (p:=⟨(b.add (j2 * 6)).block,(b.add (j2 * 6)).off + 1,none⟩) (by rw [za1]; exact HBB.out)).trans G1.out
     have r12:∀ x:Past W,x.w.cell? ⟨(b.add (j2 * 6)).block,(b.add (j2 * 6)).off + 2,none⟩ = some (.int .i64 n1):=fun x => (pastc hW x hW.size (p:=⟨(b.add (j2 * 6)).block,(b.add (j2 * 6)).off + 2,none⟩) (by rw [za1]; exact HBB.out)).trans G2.out
     have r13:∀ x:Past W,x.w.cell? ⟨(b.add (j2 * 6)).block,(b.add (j2 * 6)).off + 3,none⟩ = some (.string s1):=fun x => (pastc hW x hW.size (p:=⟨(b.add (j2 * 6)).block,(b.add (j2 * 6)).off + 3,none⟩) (by rw [za1]; exact HBB.out)).trans G3.out
     have r14:∀ x:Past W,x.w.cell? ⟨(b.add (j2 * 6)).block,(b.add (j2 * 6)).off + 4,none⟩ = some (.slice B1 li1 ci1):=fun x => (pastc hW x hW.size (p:=⟨(b.add (j2 * 6)).block,(b.add (j2 * 6)).off + 4,none⟩) (by rw [za1]; exact HBB.out)).trans G4.out
     have r15:∀ x:Past W,x.w.cell? ⟨(b.add (j2 * 6)).block,(b.add (j2 * 6)).off + 5,none⟩ = some (.slice K1 lk1 ck1):=fun x => (pastc hW x hW.size (p:=⟨(b.add (j2 * 6)).block,(b.add (j2 * 6)).off + 5,none⟩) (by rw [za1]; exact HBB.out)).trans G5.out
     have r20:∀ x:Past W,x.w.cell? (b'.add (j2 * 6)) = some (.string gn):=fun x => (pastc hW x hW.size (p:=(b'.add (j2 * 6))) (by rw [za1]; exact HBB'.out)).trans G'0.out
     have r21:∀ x:Past W,x.w.cell? ⟨(b'.add (j2 * 6)).block,(b'.add (j2 * 6)).off + 1,none⟩ = some (.int .i64 k2):=fun x => (pastc hW x hW.size (p:=⟨(b'.add (j2 * 6)).block,(b'.add (j2 * 6)).off + 1,none⟩) (by rw [za1]; exact HBB'.out)).trans G'1.out
     have r22:∀ x:Past W,x.w.cell? ⟨(b'.add (j2 * 6)).block,(b'.add (j2 * 6)).off + 2,none⟩ = some (.int .i64 n2):=fun x => (pastc hW x hW.size (p:=⟨(b'.add (j2 * 6)).block,(b'.add (j2 * 6)).off + 2,none⟩) (by rw [za1]; exact HBB'.out)).trans G'2.out
     have r23:∀ x:Past W,x.w.cell? ⟨(b'.add (j2 * 6)).block,(b'.add (j2 * 6)).off + 3,none⟩ = some (.string s2):=fun x => (pastc hW x hW.size (p:=⟨(b'.add (j2 * 6)).block,(b'.add (j2 * 6)).off + 3,none⟩) (by rw [za1]; exact HBB'.out)).trans G'3.out
     have r24:∀ x:Past W,x.w.cell? ⟨(b'.add (j2 * 6)).block,(b'.add (j2 * 6)).off + 4,none⟩ = some (.slice B2 li2 ci2):=fun x => (pastc hW x hW.size (p:=⟨(b'.add (j2 * 6)).block,(b'.add (j2 * 6)).off + 4,none⟩) (by rw [za1]; exact HBB'.out)).trans G'4.out
     have r25:∀ x:Past W,x.w.cell? ⟨(b'.add (j2 * 6)).block,(b'.add (j2 * 6)).off + 5,none⟩ = some (.slice K2 lk2 ck2):=fun x => (pastc hW x hW.size (p:=⟨(b'.add (j2 * 6)).block,(b'.add (j2 * 6)).off + 5,none⟩) (by rw [za1]; exact HBB'.out)).trans G'5.out
     have kE:∀ x:Past W,Calls Tryz.prog 129 #[.agg #[.int .i64 k1,.int .i64 n1,.string s1,.slice B1 li1 ci1,.slice K1 lk1 ck1],.agg #[.int .i64 k2,.int .i64 n2,.string s2,.slice B2 li2 ci2,.slice K2 lk2 ck2]] x.w fun e w'' => e = .returned (.bool true) ∧ ∃ y:Past W,w'' = y.w:=fun x => zl1 x (HE.out _ (hW.trans (x.b.mono hW.size)))
     have CE:=Lib.hid kE
     have HWW:=Lib.hid hW
     clear hW hq2 kE z1
     repeat (go_big_quiet_step (with_reducible exact CE.out _))
     refine wpQuiet_nil ?_
     intro _ hw'
     obtain ⟨y,rfl⟩:=hw'
     go_wp2_with fail
     go_roundw
     case rel => exact ⟨j2 + 1,by omega,by go_num,Lib.hid (HWW.out.trans (y.b.mono HWW.out.size))⟩
     case measure => simp [intOf]; omega
    ·have hlt2':¬ (j2:Int) < la:=by omega
     go_wp2_with fail
     go_roundw
     case rel => exact ⟨j + 1,by omega,by go_num,hq2⟩
     case measure => simp [intOf]; omega
  ·have hlt':¬ (j:Int) < ll:=by omega
   go_wp2_with fail
   go_ret
   exact ⟨rfl,hq.out⟩
end Go.Proofs.YthjoelpfmimedaaGreatDoor
namespace Go.Proofs.YthjoelpfmimedaaGreatDoor.K
abbrev Ws:=List Int
def lvL:Bool → Ws → List Bool
 | b,[] => [b]
 | b,w :: r => if w = 1 then lvL true r else b :: lvL false r
def rtF:Bool → Ws → Bool
 | _,[] => true
 | p,w :: r => (w == 2 || (w == 1 && !p)) && rtF (w == 1) r
def lv (ws:Ws):List Bool:=lvL false ws
abbrev K2:=Int × List UInt8
def sgB (c:UInt8) (ts:List K2):Bool:=match ts with | [] => false | p :: _ => decide (p.1 = 1 ∧ p.2 = [c])
def cntO:List K2 → Nat
 | [] => 0
 | p :: r => if p.1 = 1 ∧ p.2 = [91] then cntO r + 1 else 0
def bangR (ws:Ws) (ts:List K2):Ws × List K2:=if sgB 33 ts = true then (ws ++ [1],ts.tail) else (ws,ts)
def clsR:Nat → Ws → List K2 → Option (Ws × List K2)
 | 0,ws,ts => some (ws,ts)
 | k + 1,ws,ts => if sgB 93 ts = true then clsR k (bangR (ws ++ [2]) ts.tail).1 (bangR (ws ++ [2]) ts.tail).2 else none
def nmO (ts:List K2):Option (List UInt8):=match ts with | [] => none | p :: _ => if p.1 = 2 then some p.2 else none
def refP (ts:List K2):Option (List UInt8 × Ws × List K2) :=
 match nmO (ts.drop (cntO ts)) with
 | none => none
 | some n => match clsR (cntO ts) (bangR [] (ts.drop (cntO ts)).tail).1 (bangR [] (ts.drop (cntO ts)).tail).2 with
   | none => none
   | some (ws,r) => some (n,ws.reverse,r)
end Go.Proofs.YthjoelpfmimedaaGreatDoor.K
