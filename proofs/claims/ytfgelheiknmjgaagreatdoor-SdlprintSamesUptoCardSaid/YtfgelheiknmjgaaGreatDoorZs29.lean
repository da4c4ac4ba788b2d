
/-
 Texts joined: RNodeA RNodeB RNodeC RNodeE RWholeL Measure RWhole.
-/
import Derived.Test.YtfgelheiknmjgaaGreatDoorZs28
import Derived.Test.YtfgelheiknmjgaaGreatDoorZs8
import Derived.Test.YtfgelheiknmjgaaGreatDoorZs5
namespace Go.Proofs.YtfgelheiknmjgaaGreatDoor
open Go.RowKit
set_option maxRecDepth 100000 in
set_option maxHeartbeats 8000000 in
theorem rnode_0 (lit:Bool) (n:Int) (s:ByteArray) (items:List VT) (keys:List ByteArray) (w:World) (B:Nat) (v:Value) (h:Rd w B v (.mk 0 n s items keys)) (hB:B ≤ w.heap.size) :
  Calls Tryz.prog 189 #[v,.bool lit] w fun e w' => e = .returned (.bool (za3 lit (.mk 0 n s items keys))) ∧ Below w.heap.size w w':=by
 have HRD:=Lib.hid h
 cases h with
 | @mk _ _ _ A li ci K lk ck _ _ V hk hn hs hks hli hlk hbi hbk hA hr hK =>
 have b1:Below w.heap.size w (w.alloc (.cells #[.int .i64 0,.int .i64 n,.string s,.slice A li ci,.slice K lk ck] 53 (0,0))):=(Below.refl _ _).alloc (Nat.le_refl _) _
 have B1:=Lib.hid b1
 have HTW:Hid (Calls Tryz.prog 226 #[.slice K lk ck] (w.alloc (.cells #[.int .i64 0,.int .i64 n,.string s,.slice A li ci,.slice K lk ck] 53 (0,0))) fun e w' => e = .returned (.bool (!decide keys.Nodup)) ∧ Below _ _ w'):=Lib.hid (ze0 K lk ck keys _ B hlk hbk.1 (hK.kept (b1.mono hB)) (by simp; omega))
 have HNAME:Hid (Calls Tryz.prog 42 #[.string s] (w.alloc (.cells #[.int .i64 0,.int .i64 n,.string s,.slice A li ci,.slice K lk ck] 53 (0,0))) fun e w' => e = .returned (.bool (nmA s)) ∧ _ = w'):=Lib.hid (zd0 s _ (by unfold maxLen; omega))
 have hlm:(li:Int) ≤ 140737488351232:=by omega
 have hlm':(lk:Int) ≤ 140737488351232:=by omega
 have HL:=Lib.hid hli
 have HLK:=Lib.hid hlk
 clear hA hr hK hks hn hs hk hli hlk b1 hbi hbk
 by_cases n0:n = 0
 ·subst n0
  by_cases s0:s.size = 0
  ·obtain ⟨s1,s2,s3⟩:=zq3 s0
   by_cases i0:li = 0
   ·have i1:items.length = 0:=by have:=HL.out; omega
    subst i0
    by_cases q0:lk = 0
    ·have q1:keys.length = 0:=by have:=HLK.out; omega
     subst q0
     have HV:Hid (za3 lit (.mk 0 0 s items keys) = true):=Lib.hid (by simp [za3,leafB,s0,i1,q1])
     clear HRD HL HLK
     go_enter Tryz.func189, Tryz.ntmps189
     go_wp2_with fail
     go_ret
     exact ⟨by rw [HV.out]; rfl,B1.out⟩
    ·have q1:¬ keys.length = 0:=by have:=HLK.out; omega
     have q2:((lk:Int) == 0) = false:=beq_eq_false_iff_ne.2 (by omega)
     clear q0
     have HV:Hid (za3 lit (.mk 0 0 s items keys) = false):=Lib.hid (by simp [za3,leafB,s0,i1,q1])
     clear HRD HL HLK
     go_enter Tryz.func189, Tryz.ntmps189
     go_wp2_with fail
     go_ret
     exact ⟨by rw [HV.out]; rfl,B1.out⟩
   ·have i1:¬ items.length = 0:=by have:=HL.out; omega
    have i2:((li:Int) == 0) = false:=beq_eq_false_iff_ne.2 (by omega)
    clear i0
    have HV:Hid (za3 lit (.mk 0 0 s items keys) = false):=Lib.hid (by simp [za3,leafB,s0,i1])
    clear HRD HL HLK
    go_enter Tryz.func189, Tryz.ntmps189
    go_wp2_with fail
    go_ret
    exact ⟨by rw [HV.out]; rfl,B1.out⟩
  ·obtain ⟨s1,s2,s3⟩:=zv2 s0
   have HV:Hid (za3 lit (.mk 0 0 s items keys) = false):=Lib.hid (by simp [za3,leafB,s0])
   clear HRD HL HLK
   go_enter Tryz.func189, Tryz.ntmps189
   go_wp2_with fail
   go_ret
   exact ⟨by rw [HV.out]; rfl,B1.out⟩
 ·have n0':(n == 0) = false:=beq_eq_false_iff_ne.2 n0
  have HV:Hid (za3 lit (.mk 0 n s items keys) = false):=Lib.hid (by simp [za3,leafB,n0])
  clear HRD HL HLK
  go_enter Tryz.func189, Tryz.ntmps189
  go_wp2_with fail
  go_ret
  exact ⟨by rw [HV.out]; rfl,B1.out⟩
set_option maxRecDepth 100000 in
set_option maxHeartbeats 8000000 in
theorem rnode_1 (lit:Bool) (n:Int) (s:ByteArray) (items:List VT) (keys:List ByteArray) (w:World) (B:Nat) (v:Value) (h:Rd w B v (.mk 1 n s items keys)) (hB:B ≤ w.heap.size) :
  Calls Tryz.prog 189 #[v,.bool lit] w fun e w' => e = .returned (.bool (za3 lit (.mk 1 n s items keys))) ∧ Below w.heap.size w w':=by
 have HRD:=Lib.hid h
 cases h with
 | @mk _ _ _ A li ci K lk ck _ _ V hk hn hs hks hli hlk hbi hbk hA hr hK =>
 have b1:Below w.heap.size w (w.alloc (.cells #[.int .i64 1,.int .i64 n,.string s,.slice A li ci,.slice K lk ck] 53 (0,0))):=(Below.refl _ _).alloc (Nat.le_refl _) _
 have B1:=Lib.hid b1
 have HTW:Hid (Calls Tryz.prog 226 #[.slice K lk ck] (w.alloc (.cells #[.int .i64 1,.int .i64 n,.string s,.slice A li ci,.slice K lk ck] 53 (0,0))) fun e w' => e = .returned (.bool (!decide keys.Nodup)) ∧ Below _ _ w'):=Lib.hid (ze0 K lk ck keys _ B hlk hbk.1 (hK.kept (b1.mono hB)) (by simp; omega))
 have HNAME:Hid (Calls Tryz.prog 42 #[.string s] (w.alloc (.cells #[.int .i64 1,.int .i64 n,.string s,.slice A li ci,.slice K lk ck] 53 (0,0))) fun e w' => e = .returned (.bool (nmA s)) ∧ _ = w'):=Lib.hid (zd0 s _ (by unfold maxLen; omega))
 have hlm:(li:Int) ≤ 140737488351232:=by omega
 have hlm':(lk:Int) ≤ 140737488351232:=by omega
 have HL:=Lib.hid hli
 have HLK:=Lib.hid hlk
 clear hA hr hK hks hn hs hk hli hlk b1 hbi hbk
 by_cases n0:n = 0
 ·subst n0
  by_cases s0:s.size = 0
  ·obtain ⟨s1,s2,s3⟩:=zq3 s0
   by_cases i0:li = 0
   ·have i1:items.length = 0:=by have:=HL.out; omega
    subst i0
    by_cases q0:lk = 0
    ·have q1:keys.length = 0:=by have:=HLK.out; omega
     subst q0
     have HV:Hid (za3 lit (.mk 1 0 s items keys) = true):=Lib.hid (by simp [za3,leafB,s0,i1,q1])
     clear HRD HL HLK
     go_enter Tryz.func189, Tryz.ntmps189
     go_wp2_with fail
     go_ret
     exact ⟨by rw [HV.out]; rfl,B1.out⟩
    ·have q1:¬ keys.length = 0:=by have:=HLK.out; omega
     have q2:((lk:Int) == 0) = false:=beq_eq_false_iff_ne.2 (by omega)
     clear q0
     have HV:Hid (za3 lit (.mk 1 0 s items keys) = false):=Lib.hid (by simp [za3,leafB,s0,i1,q1])
     clear HRD HL HLK
     go_enter Tryz.func189, Tryz.ntmps189
     go_wp2_with fail
     go_ret
     exact ⟨by rw [HV.out]; rfl,B1.out⟩
   ·have i1:¬ items.length = 0:=by have:=HL.out; omega
    have i2:((li:Int) == 0) = false:=beq_eq_false_iff_ne.2 (by omega)
    clear i0
    have HV:Hid (za3 lit (.mk 1 0 s items keys) = false):=Lib.hid (by simp [za3,leafB,s0,i1])
    clear HRD HL HLK
    go_enter Tryz.func189, Tryz.ntmps189
    go_wp2_with fail
    go_ret
    exact ⟨by rw [HV.out]; rfl,B1.out⟩
  ·obtain ⟨s1,s2,s3⟩:=zv2 s0
   have HV:Hid (za3 lit (.mk 1 0 s items keys) = false):=Lib.hid (by simp [za3,leafB,s0])
   clear HRD HL HLK
   go_enter Tryz.func189, Tryz.ntmps189
   go_wp2_with fail
   go_ret
   exact ⟨by rw [HV.out]; rfl,B1.out⟩
 ·have n0':(n == 0) = false:=beq_eq_false_iff_ne.2 n0
  by_cases n1:n = 1
  ·subst n1
   by_cases s0:s.size = 0
   ·obtain ⟨s1,s2,s3⟩:=zq3 s0
    by_cases i0:li = 0
    ·have i1:items.length = 0:=by have:=HL.out; omega
     subst i0
     by_cases q0:lk = 0
     ·have q1:keys.length = 0:=by have:=HLK.out; omega
      subst q0
      have HV:Hid (za3 lit (.mk 1 1 s items keys) = true):=Lib.hid (by simp [za3,leafB,s0,i1,q1])
      clear HRD HL HLK
      go_enter Tryz.func189, Tryz.ntmps189
      go_wp2_with fail
      go_ret
      exact ⟨by rw [HV.out]; rfl,B1.out⟩
     ·have q1:¬ keys.length = 0:=by have:=HLK.out; omega
      have q2:((lk:Int) == 0) = false:=beq_eq_false_iff_ne.2 (by omega)
      clear q0
      have HV:Hid (za3 lit (.mk 1 1 s items keys) = false):=Lib.hid (by simp [za3,leafB,s0,i1,q1])
      clear HRD HL HLK
      go_enter Tryz.func189, Tryz.ntmps189
      go_wp2_with fail
      go_ret
      exact ⟨by rw [HV.out]; rfl,B1.out⟩
    ·have i1:¬ items.length = 0:=by have:=HL.out; omega
     have i2:((li:Int) == 0) = false:=beq_eq_false_iff_ne.2 (by omega)
     clear i0
     have HV:Hid (za3 lit (.mk 1 1 s items keys) = false):=Lib.hid (by simp [za3,leafB,s0,i1])
     clear HRD HL HLK
     go_enter Tryz.func189, Tryz.ntmps189
     go_wp2_with fail
     go_ret
     exact ⟨by rw [HV.out]; rfl,B1.out⟩
   ·obtain ⟨s1,s2,s3⟩:=zv2 s0
    have HV:Hid (za3 lit (.mk 1 1 s items keys) = false):=Lib.hid (by simp [za3,leafB,s0])
    clear HRD HL HLK
    go_enter Tryz.func189, Tryz.ntmps189
    go_wp2_with fail
    go_ret
    exact ⟨by rw [HV.out]; rfl,B1.out⟩
  ·have n1':(n == 1) = false:=beq_eq_false_iff_ne.2 n1
   have HV:Hid (za3 lit (.mk 1 n s items keys) = false):=Lib.hid (by simp [za3,leafB,n0,n1])
   clear HRD HL HLK
   go_enter Tryz.func189, Tryz.ntmps189
   go_wp2_with fail
   go_ret
   exact ⟨by rw [HV.out]; rfl,B1.out⟩
set_option maxRecDepth 100000 in
set_option maxHeartbeats 8000000 in
theorem rnode_2 (lit:Bool) (n:Int) (s:ByteArray) (items:List VT) (keys:List ByteArray) (w:World) (B:Nat) (v:Value) (h:Rd w B v (.mk 2 n s items keys)) (hB:B ≤ w.heap.size) :
  Calls Tryz.prog 189 #[v,.bool lit] w fun e w' => e = .returned (.bool (za3 lit (.mk 2 n s items keys))) ∧ Below w.heap.size w w':=by
 have HRD:=Lib.hid h
 cases h with
 | @mk _ _ _ A li ci K lk ck _ _ V hk hn hs hks hli hlk hbi hbk hA hr hK =>
 have b1:Below w.heap.size w (w.alloc (.cells #[.int .i64 2,.int .i64 n,.string s,.slice A li ci,.slice K lk ck] 53 (0,0))):=(Below.refl _ _).alloc (Nat.le_refl _) _
 have B1:=Lib.hid b1
 have HTW:Hid (Calls Tryz.prog 226 #[.slice K lk ck] (w.alloc (.cells #[.int .i64 2,.int .i64 n,.string s,.slice A li ci,.slice K lk ck] 53 (0,0))) fun e w' => e = .returned (.bool (!decide keys.Nodup)) ∧ Below _ _ w'):=Lib.hid (ze0 K lk ck keys _ B hlk hbk.1 (hK.kept (b1.mono hB)) (by simp; omega))
 have HNAME:Hid (Calls Tryz.prog 42 #[.string s] (w.alloc (.cells #[.int .i64 2,.int .i64 n,.string s,.slice A li ci,.slice K lk ck] 53 (0,0))) fun e w' => e = .returned (.bool (nmA s)) ∧ _ = w'):=Lib.hid (zd0 s _ (by unfold maxLen; omega))
 have hlm:(li:Int) ≤ 140737488351232:=by omega
 have hlm':(lk:Int) ≤ 140737488351232:=by omega
 have HL:=Lib.hid hli
 have HLK:=Lib.hid hlk
 clear hA hr hK hks hn hs hk hli hlk b1 hbi hbk
 by_cases s0:s.size = 0
 ·obtain ⟨s1,s2,s3⟩:=zq3 s0
  by_cases i0:li = 0
  ·have i1:items.length = 0:=by have:=HL.out; omega
   subst i0
   by_cases q0:lk = 0
   ·have q1:keys.length = 0:=by have:=HLK.out; omega
    subst q0
    have HV:Hid (za3 lit (.mk 2 n s items keys) = true):=Lib.hid (by simp [za3,leafB,s0,i1,q1])
    clear HRD HL HLK
    go_enter Tryz.func189, Tryz.ntmps189
    go_wp2_with fail
    go_ret
    exact ⟨by rw [HV.out]; rfl,B1.out⟩
   ·have q1:¬ keys.length = 0:=by have:=HLK.out; omega
    have q2:((lk:Int) == 0) = false:=beq_eq_false_iff_ne.2 (by omega)
    clear q0
    have HV:Hid (za3 lit (.mk 2 n s items keys) = false):=Lib.hid (by simp [za3,leafB,s0,i1,q1])
    clear HRD HL HLK
    go_enter Tryz.func189, Tryz.ntmps189
    go_wp2_with fail
    go_ret
    exact ⟨by rw [HV.out]; rfl,B1.out⟩
  ·have i1:¬ items.length = 0:=by have:=HL.out; omega
   have i2:((li:Int) == 0) = false:=beq_eq_false_iff_ne.2 (by omega)
   clear i0
   have HV:Hid (za3 lit (.mk 2 n s items keys) = false):=Lib.hid (by simp [za3,leafB,s0,i1])
   clear HRD HL HLK
   go_enter Tryz.func189, Tryz.ntmps189
   go_wp2_with fail
   go_ret
   exact ⟨by rw [HV.out]; rfl,B1.out⟩
 ·obtain ⟨s1,s2,s3⟩:=zv2 s0
  have HV:Hid (za3 lit (.mk 2 n s items keys) = false):=Lib.hid (by simp [za3,leafB,s0])
  clear HRD HL HLK
  go_enter Tryz.func189, Tryz.ntmps189
  go_wp2_with fail
  go_ret
  exact ⟨by rw [HV.out]; rfl,B1.out⟩
end Go.Proofs.YtfgelheiknmjgaaGreatDoor
namespace Go.Proofs.YtfgelheiknmjgaaGreatDoor
open Go.RowKit
set_option maxRecDepth 100000 in
set_option maxHeartbeats 8000000 in
theorem rnode_3 (lit:Bool) (n:Int) (s:ByteArray) (items:List VT) (keys:List ByteArray) (w:World) (B:Nat) (v:Value) (h:Rd w B v (.mk 3 n s items keys)) (hB:B ≤ w.heap.size) :
  Calls Tryz.prog 189 #[v,.bool lit] w fun e w' => e = .returned (.bool (za3 lit (.mk 3 n s items keys))) ∧ Below w.heap.size w w':=by
 have HRD:=Lib.hid h
 cases h with
 | @mk _ _ _ A li ci K lk ck _ _ V hk hn hs hks hli hlk hbi hbk hA hr hK =>
 have b1:Below w.heap.size w (w.alloc (.cells #[.int .i64 3,.int .i64 n,.string s,.slice A li ci,.slice K lk ck] 53 (0,0))):=(Below.refl _ _).alloc (Nat.le_refl _) _
 have B1:=Lib.hid b1
 have HTW:Hid (Calls Tryz.prog 226 #[.slice K lk ck] (w.alloc (.cells #[.int .i64 3,.int .i64 n,.string s,.slice A li ci,.slice K lk ck] 53 (0,0))) fun e w' => e = .returned (.bool (!decide keys.Nodup)) ∧ Below _ _ w'):=Lib.hid (ze0 K lk ck keys _ B hlk hbk.1 (hK.kept (b1.mono hB)) (by simp; omega))
 have HNAME:Hid (Calls Tryz.prog 42 #[.string s] (w.alloc (.cells #[.int .i64 3,.int .i64 n,.string s,.slice A li ci,.slice K lk ck] 53 (0,0))) fun e w' => e = .returned (.bool (nmA s)) ∧ _ = w'):=Lib.hid (zd0 s _ (by unfold maxLen; omega))
 have hlm:(li:Int) ≤ 140737488351232:=by omega
 have hlm':(lk:Int) ≤ 140737488351232:=by omega
 have HL:=Lib.hid hli
 have HLK:=Lib.hid hlk
 clear hA hr hK hks hn hs hk hli hlk b1 hbi hbk
 by_cases n0:n = 0
 ·subst n0
  by_cases i0:li = 0
  ·have i1:items.length = 0:=by have:=HL.out; omega
   subst i0
   by_cases q0:lk = 0
   ·have q1:keys.length = 0:=by have:=HLK.out; omega
    subst q0
    have HV:Hid (za3 lit (.mk 3 0 s items keys) = true):=Lib.hid (by simp [za3,leafB,i1,q1])
    clear HRD HL HLK
    go_enter Tryz.func189, Tryz.ntmps189
    go_wp2_with fail
    go_ret
    exact ⟨by rw [HV.out]; rfl,B1.out⟩
   ·have q1:¬ keys.length = 0:=by have:=HLK.out; omega
    have q2:((lk:Int) == 0) = false:=beq_eq_false_iff_ne.2 (by omega)
    clear q0
    have HV:Hid (za3 lit (.mk 3 0 s items keys) = false):=Lib.hid (by simp [za3,leafB,i1,q1])
    clear HRD HL HLK
    go_enter Tryz.func189, Tryz.ntmps189
    go_wp2_with fail
    go_ret
    exact ⟨by rw [HV.out]; rfl,B1.out⟩
  ·have i1:¬ items.length = 0:=by have:=HL.out; omega
   have i2:((li:Int) == 0) = false:=beq_eq_false_iff_ne.2 (by omega)
   clear i0
   have HV:Hid (za3 lit (.mk 3 0 s items keys) = false):=Lib.hid (by simp [za3,leafB,i1])
   clear HRD HL HLK
   go_enter Tryz.func189, Tryz.ntmps189
   go_wp2_with fail
   go_ret
   exact ⟨by rw [HV.out]; rfl,B1.out⟩
 ·have n0':(n == 0) = false:=beq_eq_false_iff_ne.2 n0
  have HV:Hid (za3 lit (.mk 3 n s items keys) = false):=Lib.hid (by simp [za3,leafB,n0])
  clear HRD HL HLK
  go_enter Tryz.func189, Tryz.ntmps189
  go_wp2_with fail
  go_ret
  exact ⟨by rw [HV.out]; rfl,B1.out⟩
set_option maxRecDepth 100000 in
set_option maxHeartbeats 8000000 in
theorem rnode_5 (lit:Bool) (n:Int) (s:ByteArray) (items:List VT) (keys:List ByteArray) (w:World) (B:Nat) (v:Value) (h:Rd w B v (.mk 5 n s items keys)) (hB:B ≤ w.heap.size) :
  Calls Tryz.prog 189 #[v,.bool lit] w fun e w' => e = .returned (.bool (za3 lit (.mk 5 n s items keys))) ∧ Below w.heap.size w w':=by
 have HRD:=Lib.hid h
 cases h with
 | @mk _ _ _ A li ci K lk ck _ _ V hk hn hs hks hli hlk hbi hbk hA hr hK =>
 have b1:Below w.heap.size w (w.alloc (.cells #[.int .i64 5,.int .i64 n,.string s,.slice A li ci,.slice K lk ck] 53 (0,0))):=(Below.refl _ _).alloc (Nat.le_refl _) _
 have B1:=Lib.hid b1
 have HTW:Hid (Calls Tryz.prog 226 #[.slice K lk ck] (w.alloc (.cells #[.int .i64 5,.int .i64 n,.string s,.slice A li ci,.slice K lk ck] 53 (0,0))) fun e w' => e = .returned (.bool (!decide keys.Nodup)) ∧ Below _ _ w'):=Lib.hid (ze0 K lk ck keys _ B hlk hbk.1 (hK.kept (b1.mono hB)) (by simp; omega))
 have HNAME:Hid (Calls Tryz.prog 42 #[.string s] (w.alloc (.cells #[.int .i64 5,.int .i64 n,.string s,.slice A li ci,.slice K lk ck] 53 (0,0))) fun e w' => e = .returned (.bool (nmA s)) ∧ _ = w'):=Lib.hid (zd0 s _ (by unfold maxLen; omega))
 have hlm:(li:Int) ≤ 140737488351232:=by omega
 have hlm':(lk:Int) ≤ 140737488351232:=by omega
 have HL:=Lib.hid hli
 have HLK:=Lib.hid hlk
 clear hA hr hK hks hn hs hk hli hlk b1 hbi hbk
 by_cases n0:n = 0
 ·subst n0
  by_cases s0:s.size = 0
  ·obtain ⟨s1,s2,s3⟩:=zq3 s0
   by_cases q0:lk = 0
   ·have q1:keys.length = 0:=by have:=HLK.out; omega
    subst q0
    have HV:Hid (za3 lit (.mk 5 0 s items keys) = true):=Lib.hid (by simp [za3,s0,q1])
    clear HRD HL HLK
    go_enter Tryz.func189, Tryz.ntmps189
    go_wp2_with fail
    go_ret
    exact ⟨by rw [HV.out]; rfl,B1.out⟩
   ·have q1:¬ keys.length = 0:=by have:=HLK.out; omega
    have q2:((lk:Int) == 0) = false:=beq_eq_false_iff_ne.2 (by omega)
    clear q0
    have HV:Hid (za3 lit (.mk 5 0 s items keys) = false):=Lib.hid (by simp [za3,s0,q1])
    clear HRD HL HLK
    go_enter Tryz.func189, Tryz.ntmps189
    go_wp2_with fail
    go_ret
    exact ⟨by rw [HV.out]; rfl,B1.out⟩
  ·obtain ⟨s1,s2,s3⟩:=zv2 s0
   have HV:Hid (za3 lit (.mk 5 0 s items keys) = false):=Lib.hid (by simp [za3,s0])
   clear HRD HL HLK
   go_enter Tryz.func189, Tryz.ntmps189
   go_wp2_with fail
   go_ret
   exact ⟨by rw [HV.out]; rfl,B1.out⟩
 ·have n0':(n == 0) = false:=beq_eq_false_iff_ne.2 n0
  have HV:Hid (za3 lit (.mk 5 n s items keys) = false):=Lib.hid (by simp [za3,n0])
  clear HRD HL HLK
  go_enter Tryz.func189, Tryz.ntmps189
  go_wp2_with fail
  go_ret
  exact ⟨by rw [HV.out]; rfl,B1.out⟩
set_option maxRecDepth 100000 in
set_option maxHeartbeats 8000000 in
theorem zJ9 (lit:Bool) (k:Int) (n:Int) (s:ByteArray) (items:List VT) (keys:List ByteArray) (w:World) (B:Nat) (v:Value) (h:Rd w B v (.mk k n s items keys)) (hB:B ≤ w.heap.size) (k0:¬ k = 0) (k1:¬ k = 1) (k2:¬ k = 2) (k3:¬ k = 3) (k4:¬ k = 4) (k5:¬ k = 5) (k6:¬ k = 6) (k7:¬ k = 7) :
  Calls Tryz.prog 189 #[v,.bool lit] w fun e w' => e = .returned (.bool (za3 lit (.mk k n s items keys))) ∧ Below w.heap.size w w':=by
 have HRD:=Lib.hid h
 cases h with
 | @mk _ _ _ A li ci K lk ck _ _ V hk hn hs hks hli hlk hbi hbk hA hr hK =>
 have b1:Below w.heap.size w (w.alloc (.cells #[.int .i64 k,.int .i64 n,.string s,.slice A li ci,.slice K lk ck] 53 (0,0))):=(Below.refl _ _).alloc (Nat.le_refl _) _
 have B1:=Lib.hid b1
 have HTW:Hid (Calls Tryz.prog 226 #[.slice K lk ck] (w.alloc (.cells #[.int .i64 k,.int .i64 n,.string s,.slice A li ci,.slice K lk ck] 53 (0,0))) fun e w' => e = .returned (.bool (!decide keys.Nodup)) ∧ Below _ _ w'):=Lib.hid (ze0 K lk ck keys _ B hlk hbk.1 (hK.kept (b1.mono hB)) (by simp; omega))
 have HNAME:Hid (Calls Tryz.prog 42 #[.string s] (w.alloc (.cells #[.int .i64 k,.int .i64 n,.string s,.slice A li ci,.slice K lk ck] 53 (0,0))) fun e w' => e = .returned (.bool (nmA s)) ∧ _ = w'):=Lib.hid (zd0 s _ (by unfold maxLen; omega))
 have hlm:(li:Int) ≤ 140737488351232:=by omega
 have hlm':(lk:Int) ≤ 140737488351232:=by omega
 have HL:=Lib.hid hli
 have HLK:=Lib.hid hlk
 clear hA hr hK hks hn hs hk hli hlk b1 hbi hbk
 have k0':(k == 0) = false:=beq_eq_false_iff_ne.2 k0
 have k1':(k == 1) = false:=beq_eq_false_iff_ne.2 k1
 have k2':(k == 2) = false:=beq_eq_false_iff_ne.2 k2
 have k3':(k == 3) = false:=beq_eq_false_iff_ne.2 k3
 have k4':(k == 4) = false:=beq_eq_false_iff_ne.2 k4
 have k5':(k == 5) = false:=beq_eq_false_iff_ne.2 k5
 have k6':(k == 6) = false:=beq_eq_false_iff_ne.2 k6
 have k7':(k == 7) = false:=beq_eq_false_iff_ne.2 k7
 have HV:Hid (za3 lit (.mk k n s items keys) = false):=Lib.hid (by simp [za3,k0,k1,k2,k3,k4,k5,k6,k7])
 clear HRD HL HLK
 go_enter Tryz.func189, Tryz.ntmps189
 go_wp2_with fail
 go_ret
 exact ⟨by rw [HV.out]; rfl,B1.out⟩
end Go.Proofs.YtfgelheiknmjgaaGreatDoor
namespace Go.Proofs.YtfgelheiknmjgaaGreatDoor
open Go.RowKit
set_option maxRecDepth 100000 in
set_option maxHeartbeats 8000000 in
theorem rnode_6 (lit:Bool) (n:Int) (s:ByteArray) (items:List VT) (keys:List ByteArray) (w:World) (B:Nat) (v:Value) (h:Rd w B v (.mk 6 n s items keys)) (hB:B ≤ w.heap.size) :
  Calls Tryz.prog 189 #[v,.bool lit] w fun e w' => e = .returned (.bool (za3 lit (.mk 6 n s items keys))) ∧ Below w.heap.size w w':=by
 have HRD:=Lib.hid h
 cases h with
 | @mk _ _ _ A li ci K lk ck _ _ V hk hn hs hks hli hlk hbi hbk hA hr hK =>
 have b1:Below w.heap.size w (w.alloc (.cells #[.int .i64 6,.int .i64 n,.string s,.slice A li ci,.slice K lk ck] 53 (0,0))):=(Below.refl _ _).alloc (Nat.le_refl _) _
 have B1:=Lib.hid b1
 have HTW:Hid (Calls Tryz.prog 226 #[.slice K lk ck] (w.alloc (.cells #[.int .i64 6,.int .i64 n,.string s,.slice A li ci,.slice K lk ck] 53 (0,0))) fun e w' => e = .returned (.bool (!decide keys.Nodup)) ∧ Below _ _ w'):=Lib.hid (ze0 K lk ck keys _ B hlk hbk.1 (hK.kept (b1.mono hB)) (by simp; omega))
 have HNAME:Hid (Calls Tryz.prog 42 #[.string s] (w.alloc (.cells #[.int .i64 6,.int .i64 n,.string s,.slice A li ci,.slice K lk ck] 53 (0,0))) fun e w' => e = .returned (.bool (nmA s)) ∧ _ = w'):=Lib.hid (zd0 s _ (by unfold maxLen; omega))
 have hlm:(li:Int) ≤ 140737488351232:=by omega
 have hlm':(lk:Int) ≤ 140737488351232:=by omega
 have HL:=Lib.hid hli
 have HLK:=Lib.hid hlk
 clear hA hr hK hks hn hs hk hli hlk b1 hbi hbk
 by_cases n0:n = 0
 ·subst n0
  by_cases s0:s.size = 0
  ·obtain ⟨s1,s2,s3⟩:=zq3 s0
   by_cases e0:lk = li
   ·have e1:keys.length = items.length:=by have:=HL.out; have:=HLK.out; omega
    subst e0
    cases hnd:decide keys.Nodup
    ·have hn2:¬ keys.Nodup:=by simpa using hnd
     have HV:Hid (za3 lit (.mk 6 0 s items keys) = false):=Lib.hid (by simp [za3,s0,e1,hn2])
     clear HRD HL HLK
     go_enter Tryz.func189, Tryz.ntmps189
     go_wp2_with fail
     refine HTW.out.mono ?_
     rintro e w' ⟨rfl,hb⟩
     have HB:=Lib.hid (B1.out.trans (hb.mono B1.out.size))
     clear hb
     rw [hnd]
     go_wp2_with fail
     go_ret
     exact ⟨by rw [HV.out]; rfl,HB.out⟩
    ·have hn2:keys.Nodup:=by simpa using hnd
     have HV:Hid (za3 lit (.mk 6 0 s items keys) = true):=Lib.hid (by simp [za3,s0,e1,hn2])
     clear HRD HL HLK
     go_enter Tryz.func189, Tryz.ntmps189
     go_wp2_with fail
     refine HTW.out.mono ?_
     rintro e w' ⟨rfl,hb⟩
     have HB:=Lib.hid (B1.out.trans (hb.mono B1.out.size))
     clear hb
     rw [hnd]
     go_wp2_with fail
     go_ret
     exact ⟨by rw [HV.out]; rfl,HB.out⟩
   ·have e1:¬ keys.length = items.length:=by have:=HL.out; have:=HLK.out; omega
    have e2:((lk:Int) == (li:Int)) = false:=beq_eq_false_iff_ne.2 (by omega)
    clear e0
    have HV:Hid (za3 lit (.mk 6 0 s items keys) = false):=Lib.hid (by simp [za3,s0,e1])
    clear HRD HL HLK
    go_enter Tryz.func189, Tryz.ntmps189
    go_wp2_with fail
    go_ret
    exact ⟨by rw [HV.out]; rfl,B1.out⟩
  ·obtain ⟨s1,s2,s3⟩:=zv2 s0
   have HV:Hid (za3 lit (.mk 6 0 s items keys) = false):=Lib.hid (by simp [za3,s0])
   clear HRD HL HLK
   go_enter Tryz.func189, Tryz.ntmps189
   go_wp2_with fail
   go_ret
   exact ⟨by rw [HV.out]; rfl,B1.out⟩
 ·have n0':(n == 0) = false:=beq_eq_false_iff_ne.2 n0
  have HV:Hid (za3 lit (.mk 6 n s items keys) = false):=Lib.hid (by simp [za3,n0])
  clear HRD HL HLK
  go_enter Tryz.func189, Tryz.ntmps189
  go_wp2_with fail
  go_ret
  exact ⟨by rw [HV.out]; rfl,B1.out⟩
set_option maxRecDepth 100000 in
set_option maxHeartbeats 8000000 in
theorem rnode_7 (lit:Bool) (n:Int) (s:ByteArray) (items:List VT) (keys:List ByteArray) (w:World) (B:Nat) (v:Value) (h:Rd w B v (.mk 7 n s items keys)) (hB:B ≤ w.heap.size) :
  Calls Tryz.prog 189 #[v,.bool lit] w fun e w' => e = .returned (.bool (za3 lit (.mk 7 n s items keys))) ∧ Below w.heap.size w w':=by
 have HRD:=Lib.hid h
 cases h with
 | @mk _ _ _ A li ci K lk ck _ _ V hk hn hs hks hli hlk hbi hbk hA hr hK =>
 have b1:Below w.heap.size w (w.alloc (.cells #[.int .i64 7,.int .i64 n,.string s,.slice A li ci,.slice K lk ck] 53 (0,0))):=(Below.refl _ _).alloc (Nat.le_refl _) _
 have B1:=Lib.hid b1
 have HTW:Hid (Calls Tryz.prog 226 #[.slice K lk ck] (w.alloc (.cells #[.int .i64 7,.int .i64 n,.string s,.slice A li ci,.slice K lk ck] 53 (0,0))) fun e w' => e = .returned (.bool (!decide keys.Nodup)) ∧ Below _ _ w'):=Lib.hid (ze0 K lk ck keys _ B hlk hbk.1 (hK.kept (b1.mono hB)) (by simp; omega))
 have HNAME:Hid (Calls Tryz.prog 42 #[.string s] (w.alloc (.cells #[.int .i64 7,.int .i64 n,.string s,.slice A li ci,.slice K lk ck] 53 (0,0))) fun e w' => e = .returned (.bool (nmA s)) ∧ _ = w'):=Lib.hid (zd0 s _ (by unfold maxLen; omega))
 have hlm:(li:Int) ≤ 140737488351232:=by omega
 have hlm':(lk:Int) ≤ 140737488351232:=by omega
 have HL:=Lib.hid hli
 have HLK:=Lib.hid hlk
 clear hA hr hK hks hn hs hk hli hlk b1 hbi hbk
 cases lit
 ·skip
  have HV:Hid (za3 false (.mk 7 n s items keys) = false):=Lib.hid (by simp [za3,leafB])
  clear HRD HL HLK
  go_enter Tryz.func189, Tryz.ntmps189
  go_wp2_with fail
  go_ret
  exact ⟨by rw [HV.out]; rfl,B1.out⟩
 ·skip
  by_cases n0:n = 0
  ·subst n0
   by_cases i0:li = 0
   ·have i1:items.length = 0:=by have:=HL.out; omega
    subst i0
    by_cases q0:lk = 0
    ·have q1:keys.length = 0:=by have:=HLK.out; omega
     subst q0
     cases hnm:nmA s
     ·skip
      have HV:Hid (za3 true (.mk 7 0 s items keys) = false):=Lib.hid (by simp [za3,leafB,i1,q1,hnm])
      clear HRD HL HLK
      go_enter Tryz.func189, Tryz.ntmps189
      go_wp2_with fail
      refine HNAME.out.mono ?_
      rintro e w' ⟨rfl,rfl⟩
      rw [hnm]
      go_wp2_with fail
      go_ret
      exact ⟨by rw [HV.out]; rfl,B1.out⟩
     ·skip
      have HV:Hid (za3 true (.mk 7 0 s items keys) = true):=Lib.hid (by simp [za3,leafB,i1,q1,hnm])
      clear HRD HL HLK
      go_enter Tryz.func189, Tryz.ntmps189
      go_wp2_with fail
      refine HNAME.out.mono ?_
      rintro e w' ⟨rfl,rfl⟩
      rw [hnm]
      go_wp2_with fail
      go_ret
      exact ⟨by rw [HV.out]; rfl,B1.out⟩
    ·have q1:¬ keys.length = 0:=by have:=HLK.out; omega
     have q2:((lk:Int) == 0) = false:=beq_eq_false_iff_ne.2 (by omega)
     clear q0
     have HV:Hid (za3 true (.mk 7 0 s items keys) = false):=Lib.hid (by simp [za3,leafB,i1,q1])
     clear HRD HL HLK
     go_enter Tryz.func189, Tryz.ntmps189
     go_wp2_with fail
     go_ret
     exact ⟨by rw [HV.out]; rfl,B1.out⟩
   ·have i1:¬ items.length = 0:=by have:=HL.out; omega
    have i2:((li:Int) == 0) = false:=beq_eq_false_iff_ne.2 (by omega)
    clear i0
    have HV:Hid (za3 true (.mk 7 0 s items keys) = false):=Lib.hid (by simp [za3,leafB,i1])
    clear HRD HL HLK
    go_enter Tryz.func189, Tryz.ntmps189
    go_wp2_with fail
    go_ret
    exact ⟨by rw [HV.out]; rfl,B1.out⟩
  ·have n0':(n == 0) = false:=beq_eq_false_iff_ne.2 n0
   have HV:Hid (za3 true (.mk 7 n s items keys) = false):=Lib.hid (by simp [za3,leafB,n0])
   clear HRD HL HLK
   go_enter Tryz.func189, Tryz.ntmps189
   go_wp2_with fail
   go_ret
   exact ⟨by rw [HV.out]; rfl,B1.out⟩
end Go.Proofs.YtfgelheiknmjgaaGreatDoor
namespace Go.Proofs.YtfgelheiknmjgaaGreatDoor
open Go.RowKit
set_option maxRecDepth 100000 in
set_option maxHeartbeats 8000000 in
theorem rnode_4 (lit:Bool) (n:Int) (s:ByteArray) (items:List VT) (keys:List ByteArray) (w:World) (B:Nat) (v:Value) (h:Rd w B v (.mk 4 n s items keys)) (hB:B ≤ w.heap.size) :
  Calls Tryz.prog 189 #[v,.bool lit] w fun e w' => e = .returned (.bool (za3 lit (.mk 4 n s items keys))) ∧ Below w.heap.size w w':=by
 have HRD:=Lib.hid h
 cases h with
 | @mk _ _ _ A li ci K lk ck _ _ V hk hn hs hks hli hlk hbi hbk hA hr hK =>
 have b1:Below w.heap.size w (w.alloc (.cells #[.int .i64 4,.int .i64 n,.string s,.slice A li ci,.slice K lk ck] 53 (0,0))):=(Below.refl _ _).alloc (Nat.le_refl _) _
 have B1:=Lib.hid b1
 have HTW:Hid (Calls Tryz.prog 226 #[.slice K lk ck] (w.alloc (.cells #[.int .i64 4,.int .i64 n,.string s,.slice A li ci,.slice K lk ck] 53 (0,0))) fun e w' => e = .returned (.bool (!decide keys.Nodup)) ∧ Below _ _ w'):=Lib.hid (ze0 K lk ck keys _ B hlk hbk.1 (hK.kept (b1.mono hB)) (by simp; omega))
 have HNAME:Hid (Calls Tryz.prog 42 #[.string s] (w.alloc (.cells #[.int .i64 4,.int .i64 n,.string s,.slice A li ci,.slice K lk ck] 53 (0,0))) fun e w' => e = .returned (.bool (nmA s)) ∧ _ = w'):=Lib.hid (zd0 s _ (by unfold maxLen; omega))
 have hlm:(li:Int) ≤ 140737488351232:=by omega
 have hlm':(lk:Int) ≤ 140737488351232:=by omega
 have HL:=Lib.hid hli
 have HLK:=Lib.hid hlk
 clear hA hr hK hks hn hs hk hli hlk b1 hbi hbk
 by_cases n0:n = 0
 ·subst n0
  by_cases i0:li = 0
  ·have i1:items.length = 0:=by have:=HL.out; omega
   subst i0
   by_cases q0:lk = 0
   ·have q1:keys.length = 0:=by have:=HLK.out; omega
    subst q0
    cases hnm:nmA s
    ·skip
     have HV:Hid (za3 lit (.mk 4 0 s items keys) = false):=Lib.hid (by simp [za3,leafB,enumB,i1,q1,hnm])
     clear HRD HL HLK
     go_enter Tryz.func189, Tryz.ntmps189
     go_wp2_with fail
     refine HNAME.out.mono ?_
     rintro e w' ⟨rfl,rfl⟩
     rw [hnm]
     go_wp2_with fail
     go_ret
     exact ⟨by rw [HV.out]; rfl,B1.out⟩
    ·skip
     by_cases x1:s = ⟨#[116,114,117,101]⟩
     ·have y1:(s.toList == [116,114,117,101]) = true:=by rw [zo0]; simpa using x1
      have HV:Hid (za3 lit (.mk 4 0 s items keys) = false):=Lib.hid (by simp [za3,leafB,enumB,i1,q1,x1])
      clear HRD HL HLK
      clear x1
      go_enter Tryz.func189, Tryz.ntmps189
      go_wp2_with fail
      refine HNAME.out.mono ?_
      rintro e w' ⟨rfl,rfl⟩
      rw [hnm]
      go_wp2_with fail
      go_ret
      exact ⟨by rw [HV.out]; rfl,B1.out⟩
     ·have y1:(s.toList == [116,114,117,101]) = false:=by rw [zo0]; simpa using x1
      by_cases x2:s = ⟨#[102,97,108,115,101]⟩
      ·have y2:(s.toList == [102,97,108,115,101]) = true:=by rw [zo0]; simpa using x2
       have HV:Hid (za3 lit (.mk 4 0 s items keys) = false):=Lib.hid (by simp [za3,leafB,enumB,i1,q1,x2])
       clear HRD HL HLK
       clear x1 x2
       go_enter Tryz.func189, Tryz.ntmps189
       go_wp2_with fail
       refine HNAME.out.mono ?_
       rintro e w' ⟨rfl,rfl⟩
       rw [hnm]
       go_wp2_with fail
       go_ret
       exact ⟨by rw [HV.out]; rfl,B1.out⟩
      ·have y2:(s.toList == [102,97,108,115,101]) = false:=by rw [zo0]; simpa using x2
       by_cases x3:s = ⟨#[110,117,108,108]⟩
       ·have y3:(s.toList == [110,117,108,108]) = true:=by rw [zo0]; simpa using x3
        have HV:Hid (za3 lit (.mk 4 0 s items keys) = false):=Lib.hid (by simp [za3,leafB,enumB,i1,q1,x3])
        clear HRD HL HLK
        clear x1 x2 x3
        go_enter Tryz.func189, Tryz.ntmps189
        go_wp2_with fail
        refine HNAME.out.mono ?_
        rintro e w' ⟨rfl,rfl⟩
        rw [hnm]
        go_wp2_with fail
        go_ret
        exact ⟨by rw [HV.out]; rfl,B1.out⟩
       ·have y3:(s.toList == [110,117,108,108]) = false:=by rw [zo0]; simpa using x3
        have HV:Hid (za3 lit (.mk 4 0 s items keys) = true):=Lib.hid (by simp [za3,leafB,enumB,i1,q1,hnm,x1,x2,x3])
        clear HRD HL HLK
        clear x1 x2 x3
        go_enter Tryz.func189, Tryz.ntmps189
        go_wp2_with fail
        refine HNAME.out.mono ?_
        rintro e w' ⟨rfl,rfl⟩
        rw [hnm]
        go_wp2_with fail
        go_ret
        exact ⟨by rw [HV.out]; rfl,B1.out⟩
   ·have q1:¬ keys.length = 0:=by have:=HLK.out; omega
    have q2:((lk:Int) == 0) = false:=beq_eq_false_iff_ne.2 (by omega)
    clear q0
    have HV:Hid (za3 lit (.mk 4 0 s items keys) = false):=Lib.hid (by simp [za3,leafB,enumB,i1,q1])
    clear HRD HL HLK
    go_enter Tryz.func189, Tryz.ntmps189
    go_wp2_with fail
    go_ret
    exact ⟨by rw [HV.out]; rfl,B1.out⟩
  ·have i1:¬ items.length = 0:=by have:=HL.out; omega
   have i2:((li:Int) == 0) = false:=beq_eq_false_iff_ne.2 (by omega)
   clear i0
   have HV:Hid (za3 lit (.mk 4 0 s items keys) = false):=Lib.hid (by simp [za3,leafB,enumB,i1])
   clear HRD HL HLK
   go_enter Tryz.func189, Tryz.ntmps189
   go_wp2_with fail
   go_ret
   exact ⟨by rw [HV.out]; rfl,B1.out⟩
 ·have n0':(n == 0) = false:=beq_eq_false_iff_ne.2 n0
  have HV:Hid (za3 lit (.mk 4 n s items keys) = false):=Lib.hid (by simp [za3,leafB,enumB,n0])
  clear HRD HL HLK
  go_enter Tryz.func189, Tryz.ntmps189
  go_wp2_with fail
  go_ret
  exact ⟨by rw [HV.out]; rfl,B1.out⟩
end Go.Proofs.YtfgelheiknmjgaaGreatDoor
namespace Go.Proofs.YtfgelheiknmjgaaGreatDoor
open Go.RowKit
theorem zr6 {α:Type} {l:List α} {p : α → Bool} {k:Nat} {x : α} (h:l[k]? = some x) (hp:p x = false):l.all p = false:=by
 rw [Bool.eq_false_iff]
 intro ha
 have:=List.all_eq_true.1 ha x (List.mem_of_getElem? h)
 rw [hp] at this; cases this
theorem zp8 {α:Type} {l:List α} {p : α → Bool} {k:Nat} {x : α} (h:l[k]? = some x) (ha:(l.take k).all p = true) (hp:p x = true):(l.take (k + 1)).all p = true:=by
 rw [List.take_add_one,h,List.all_append,ha]
 simp [hp]
theorem zp9 (lit:Bool):∀ l:List VT,zg4 lit l = l.all (zb4 lit)
 | [] => rfl
 | t :: u => by rw [zg4,zp9 lit u,List.all_cons]
theorem rnode_eq (lit:Bool) (k n:Int) (s:ByteArray) (is:List VT) (ks:List ByteArray) :
  nodeB lit (.mk k n s is ks) = (za3 lit (.mk k n s is ks) && (!lit || ks.all nmA)):=by
 unfold nodeB za3
 have e6:∀ a b c d e:Bool,(a && b && c && (d && e)) = (a && b && c && e && d):=by decide
 have e4:∀ a b c:Bool,(a && b && c) = (a && c && b):=by decide
 by_cases hk:ks = []
 ·subst hk
  simp only [List.all_nil,Bool.or_true,Bool.and_true]
  repeat' split
  all_goals first
   | rfl
   | exact e4 _ _ _
   | (cases lit <;> simp [keysB])
   | skip
 ·have hl:ks.length ≠ 0:=fun e => hk (List.eq_nil_of_length_eq_zero e)
  have hf:leafB is ks = false:=by simp [leafB,hk]
  simp only [hf,Bool.and_false,hl,decide_false]
  repeat' split
  all_goals first
   | rfl
   | exact e6 _ _ _ _ _
   | skip
end Go.Proofs.YtfgelheiknmjgaaGreatDoor
namespace Go.Proofs.YtfgelheiknmjgaaGreatDoor
open Go.RowKit
set_option maxHeartbeats 400000 in
theorem zN2 (t:VT):∀ (w:World) (B:Nat) (v:Value),Rd w B v t → B ≤ w.heap.size → t.size ≤ 2000000 →
  Calls Tryz.prog 148 #[v] w fun e w' => e = .returned (.int .i64 t.size) ∧ Below w.heap.size w w':=by
 induction t using VT.ind with
 | h k n s items keys ih =>
 intro w B v h hB hz
 cases h with
 | @mk _ _ _ A li ci K lk ck _ _ V hk hn hs hks hli hlk hbi hbk hA hr hK =>
 have HA:=Lib.hid hA
 have HR:=Lib.hid hr
 have IH:=Lib.hid ih
 have HL:=Lib.hid hli
 have hz1:1 + VT.sizes items ≤ 2000000:=hz
 clear hA hr ih hK hks hk hn hs hbk hli hlk hz
 go_enter Tryz.func148, Tryz.ntmps148
 go_wp2_with fail
 go_loopw [3,4] (fun nn i wr => ∃ j:Nat,j ≤ li ∧ i = .int .i64 j ∧ nn = .int .i64 (1 + (VT.sizes (items.take j):Int)) ∧ Below w.heap.size w wr ∧ w.heap.size < wr.heap.size ∧ wr.cell? ⟨w.heap.size,3,none⟩ = some (.slice A li ci)) (fun _ i _ => li - (intOf i).toNat)
 case atStart => exact ⟨0,Nat.zero_le _,rfl,by simp [VT.sizes],(Below.refl _ _).alloc (Nat.le_refl _) _,by simp,by simp [World.cell?_alloc_at]⟩
 case round =>
  obtain ⟨j,hj,rfl,rfl,hb,hsz,hbox⟩:=hrel
  have hlm:(li:Int) ≤ 140737488351232:=by omega
  have HB:=Lib.hid hb
  have hz2:=zx0 items (j + 1)
  by_cases hlt:j < li
  ·obtain ⟨a,t,k1,n1,s1,A1,li1,ci1,K1,lk1,ck1,rfl,ht,e,hrd,h0,h1,h2,h3,h4⟩:=ze5 HA.out HR.out HL.out (hb.mono hB) hlt
   have HST:=Lib.hid (zI9 items j t ht)
   have hzt:VT.sizes (items.take j) + t.size ≤ 1999999:=by have:=HST.out; omega
   have HT:=Lib.hid ht
   have HRD:=Lib.hid hrd
   have E:=Lib.hid e
   clear e hrd ht hb
   go_wp2_with fail
   rw [← E.out]
   refine (IH.out j t HT.out _ B _ HRD.out (by omega) (by omega)).mono ?_
   rintro e w1 ⟨rfl,hb1⟩
   have hs1:=hb1.size
   have HB1:=Lib.hid ((HB.out.trans (hb1.mono (by omega))):Below w.heap.size w w1)
   have hbox1:=(hb1.cell (p:=⟨w.heap.size,3,none⟩) hsz).trans hbox
   clear hb1
   go_wp2_with fail
   go_roundw
   case rel => exact ⟨j + 1,by omega,by go_num,by rw [HST.out]; go_num,HB1.out,by omega,hbox1⟩
   case measure => simp [intOf]; omega
  ·have hji:j = li:=by omega
   have HJ:Hid (VT.sizes (items.take j) = VT.sizes items):=Lib.hid (by rw [hji,List.take_of_length_le (by have:=HL.out; omega)])
   clear hji hb
   go_wp2_with fail
   go_ret
   exact ⟨by rw [HJ.out]; simp [VT.size],HB.out⟩
set_option maxHeartbeats 400000 in
theorem zK1 (t:VT):∀ (w:World) (B:Nat) (v:Value),Rd w B v t → B ≤ w.heap.size → t.depth ≤ 2000000 →
  Calls Tryz.prog 149 #[v] w fun e w' => e = .returned (.int .i64 t.depth) ∧ Below w.heap.size w w':=by
 induction t using VT.ind with
 | h k n s items keys ih =>
 intro w B v h hB hz
 cases h with
 | @mk _ _ _ A li ci K lk ck _ _ V hk hn hs hks hli hlk hbi hbk hA hr hK =>
 have HA:=Lib.hid hA
 have HR:=Lib.hid hr
 have IH:=Lib.hid ih
 have HL:=Lib.hid hli
 have hz1:1 + VT.depths items ≤ 2000000:=hz
 clear hA hr ih hK hks hk hn hs hbk hli hlk hz
 go_enter Tryz.func149, Tryz.ntmps149
 go_wp2_with fail
 go_loopw [3,4] (fun nn i wr => ∃ j:Nat,j ≤ li ∧ i = .int .i64 j ∧ nn = .int .i64 (VT.depths (items.take j):Int) ∧ Below w.heap.size w wr ∧ w.heap.size < wr.heap.size ∧ wr.cell? ⟨w.heap.size,3,none⟩ = some (.slice A li ci)) (fun _ i _ => li - (intOf i).toNat)
 case atStart => exact ⟨0,Nat.zero_le _,rfl,by simp [VT.depths],(Below.refl _ _).alloc (Nat.le_refl _) _,by simp,by simp [World.cell?_alloc_at]⟩
 case round =>
  obtain ⟨j,hj,rfl,rfl,hb,hsz,hbox⟩:=hrel
  have hlm:(li:Int) ≤ 140737488351232:=by omega
  have HB:=Lib.hid hb
  have hz2:=zn5 items (j + 1)
  by_cases hlt:j < li
  ·obtain ⟨a,t,k1,n1,s1,A1,li1,ci1,K1,lk1,ck1,rfl,ht,e,hrd,h0,h1,h2,h3,h4⟩:=ze5 HA.out HR.out HL.out (hb.mono hB) hlt
   have HST:=Lib.hid (zF0 items j t ht)
   have hzt:max (VT.depths (items.take j)) t.depth ≤ 1999999:=by have:=HST.out; omega
   have HT:=Lib.hid ht
   have HRD:=Lib.hid hrd
   have E:=Lib.hid e
   clear e hrd ht hb
   go_wp2_with fail
   rw [← E.out]
   refine (IH.out j t HT.out _ B _ HRD.out (by omega) (by omega)).mono ?_
   rintro e w1 ⟨rfl,hb1⟩
   have hs1:=hb1.size
   have HB1:=Lib.hid ((HB.out.trans (hb1.mono (by omega))):Below w.heap.size w w1)
   have hbox1:=(hb1.cell (p:=⟨w.heap.size,3,none⟩) hsz).trans hbox
   clear hb1
   go_wp2_with fail
   go_roundw
   case rel => exact ⟨j + 1,by omega,by go_num,by rw [HST.out]; go_num,HB1.out,by omega,hbox1⟩
   case measure => simp [intOf]; omega
  ·have hji:j = li:=by omega
   have hz3:=zn5 items j
   have HJ:Hid (VT.depths (items.take j) = VT.depths items):=Lib.hid (by rw [hji,List.take_of_length_le (by have:=HL.out; omega)])
   clear hji hb
   go_wp2_with fail
   go_ret
   exact ⟨by rw [HJ.out]; simp [VT.depth]; try (try simp only [Int.add_comm]),HB.out⟩
end Go.Proofs.YtfgelheiknmjgaaGreatDoor
namespace Go.Proofs.YtfgelheiknmjgaaGreatDoor
open Go.RowKit
def zF4:Prop:=∀ (lit:Bool) (t:VT) (w:World) (B:Nat) (v:Value),Rd w B v t → B ≤ w.heap.size →
  Calls Tryz.prog 189 #[v,.bool lit] w fun e w' => e = .returned (.bool (za3 lit t)) ∧ Below w.heap.size w w'
set_option maxRecDepth 100000 in
set_option maxHeartbeats 2000000 in
theorem zJ7 (hnode:zF4) (lit:Bool) (t:VT):∀ (w:World) (B:Nat) (v:Value),Rd w B v t → B ≤ w.heap.size →
  Calls Tryz.prog 150 #[v,.bool lit] w fun e w' => e = .returned (.bool (zb4 lit t)) ∧ Below w.heap.size w w':=by
 induction t using VT.ind with
 | h k n s items keys ih =>
 intro w B v h hB
 have HRD:=Lib.hid h
 cases h with
 | @mk _ _ _ A li ci K lk ck _ _ V hk hn hs hks hli hlk hbi hbk hA hr hK =>
 have HA:=Lib.hid hA
 have HR:=Lib.hid hr
 have IH:=Lib.hid ih
 have HL:=Lib.hid hli
 have HLK:=Lib.hid hlk
 have HKS:=Lib.hid hks
 have HK:Hid (0 < lk → ∃ a,K = some a ∧ ∀ W,Below w.heap.size w W → ∀ i s,keys[i]? = some s → W.cell? (a.add i) = some (.string s)):=Lib.hid (fun h0 => by
  obtain ⟨a,e,hab,hc⟩:=hK (by omega)
  exact ⟨a,e,fun W hb i s hi => (hb.cell (p:=a.add i) (by rw [za1]; omega)).trans (hc i s hi)⟩)
 have hlm:(li:Int) ≤ 140737488351232:=by omega
 have hlm':(lk:Int) ≤ 140737488351232:=by omega
 have b1:Below w.heap.size w (w.alloc (.cells #[.int .i64 k,.int .i64 n,.string s,.slice A li ci,.slice K lk ck] 53 (0,0))):=(Below.refl _ _).alloc (Nat.le_refl _) _
 have HN:=Lib.hid (hnode lit _ _ B _ (HRD.out.kept (b1.mono hB)) (by simp; omega))
 have HW:Hid (zb4 lit (.mk k n s items keys) = (za3 lit (.mk k n s items keys) && (!lit || keys.all nmA) && items.all (zb4 lit))):=Lib.hid (by rw [zb4,zp9,rnode_eq])
 have X1:=Lib.hid (Box.new w (.int .i64 k) (.int .i64 n) (.string s) (.slice A li ci) (.slice K lk ck))
 have B1:=Lib.hid b1
 clear hA hr ih hK hks hk hn hs hbi hbk hli hlk b1
 go_enter Tryz.func150, Tryz.ntmps150
 go_wp2_with fail
 refine HN.out.mono ?_
 rintro e w1 ⟨rfl,hb1⟩
 have HB1:=Lib.hid (B1.out.trans (hb1.mono B1.out.size))
 have XB:=Lib.hid (X1.out.kept hb1)
 have hz1:w.heap.size < w1.heap.size:=by have:=hb1.size; simp at this; omega
 clear hb1 X1 B1 HN
 cases hnode2:za3 lit (.mk k n s items keys)
 ·rw [hnode2] at HW
  go_wp2_with fail
  go_ret
  exact ⟨by rw [HW.out]; rfl,HB1.out⟩
 ·rw [hnode2] at HW
  go_wp2_with fail
  go_loopw [5] (fun i wr => ∃ j:Nat,j ≤ lk ∧ i = .int .i64 j ∧ (!lit || (keys.take j).all nmA) = true ∧ Below w.heap.size w wr ∧ w.heap.size < wr.heap.size ∧ Box wr w.heap.size (.int .i64 k) (.int .i64 n) (.string s) (.slice A li ci) (.slice K lk ck)) (fun i _ => lk - (intOf i).toNat)
  case atStart => exact ⟨0,Nat.zero_le _,rfl,by simp,HB1.out,hz1,XB.out⟩
  case round =>
   obtain ⟨j,hj,rfl,hall,hb,hz,hx⟩:=hrel
   have HALL:=Lib.hid hall
   have HB:=Lib.hid hb
   have HX:=Lib.hid hx
   obtain ⟨p0,p1,p2,p3,p4⟩:=hx.cells
   clear hall hb hx
   by_cases hlt:j < lk
   ·obtain ⟨a,rfl,hc⟩:=HK.out (by omega)
    have hjl:j < keys.length:=by have:=HLK.out; omega
    have hcell:=hc _ HB.out j _ (List.getElem?_eq_getElem hjl)
    have hsz:=HKS.out _ (List.getElem_mem hjl)
    have HAT:Hid (keys[j]? = some keys[j]):=Lib.hid (List.getElem?_eq_getElem hjl)
    generalize keys[j] = x at *
    have HNM:=fun w => Lib.hid (zd0 x w (by unfold maxLen; omega))
    clear hc hsz
    cases lit
    ·go_wp2_with fail
     go_roundw
     case rel => exact ⟨j + 1,by omega,by go_num,rfl,HB.out,hz,HX.out⟩
     case measure => simp [intOf]; omega
    ·go_wp2_with fail
     refine (HNM _).out.mono ?_
     rintro e w' ⟨rfl,rfl⟩
     cases hnm:nameL x.data.toList
     ·have HF:Hid (keys.all nmA = false):=Lib.hid (zr6 HAT.out hnm)
      go_wp2_with fail
      go_ret
      exact ⟨by rw [HW.out,HF.out]; rfl,HB.out⟩
     ·have HT:Hid ((keys.take (j + 1)).all nmA = true):=Lib.hid (zp8 HAT.out (by simpa using HALL.out) hnm)
      go_wp2_with fail
      go_roundw
      case rel => exact ⟨j + 1,by omega,by go_num,by rw [HT.out]; rfl,HB.out,hz,HX.out⟩
      case measure => simp [intOf]; omega
   ·have HA2:Hid ((!lit || keys.all nmA) = true):=Lib.hid (by
     have:=HALL.out
     rwa [List.take_of_length_le (by have:=HLK.out; omega)] at this)
    clear HALL
    obtain rfl:lk = j:=by omega
    go_wp2_with fail
    go_loopw [6] (fun i wr => ∃ j:Nat,j ≤ li ∧ i = .int .i64 j ∧ (items.take j).all (zb4 lit) = true ∧ Below w.heap.size w wr ∧ w.heap.size < wr.heap.size ∧ Box wr w.heap.size (.int .i64 k) (.int .i64 n) (.string s) (.slice A li ci) (.slice K lk ck)) (fun i _ => li - (intOf i).toNat)
    case atStart => exact ⟨0,Nat.zero_le _,rfl,by simp,HB.out,hz,HX.out⟩
    case round =>
     obtain ⟨m,hm,rfl,hall2,hb2,hz2,hx2⟩:=hrel
     have HALL2:=Lib.hid hall2
     have HB2:=Lib.hid hb2
     have HX2:=Lib.hid hx2
     obtain ⟨q0,q1,q2,q3,q4⟩:=hx2.cells
     clear hall2 hx2
     by_cases hlt2:m < li
     ·obtain ⟨a,t,k1,n1,s1,A1,li1,ci1,K1,lk1,ck1,rfl,ht,e,hrd,h0,h1,h2,h3,h4⟩:=ze5 HA.out HR.out HL.out (hb2.mono hB) hlt2
      have HT:=Lib.hid ht
      have HRD2:=Lib.hid hrd
      have E:=Lib.hid e
      clear e hrd ht hb2
      go_wp2_with fail
      rw [← E.out]
      refine (IH.out m t HT.out _ B _ HRD2.out (by omega)).mono ?_
      rintro e w2 ⟨rfl,hb3⟩
      have hs3:=hb3.size
      have HB3:=Lib.hid ((HB2.out.trans (hb3.mono (by omega))):Below w.heap.size w w2)
      have HX3:=Lib.hid (HX2.out.kept hb3)
      clear hb3
      cases hw:zb4 lit t
      ·have HF:Hid (items.all (zb4 lit) = false):=Lib.hid (zr6 HT.out hw)
       go_wp2_with fail
       go_ret
       exact ⟨by rw [HW.out,HF.out,Bool.and_false]; rfl,HB3.out⟩
      ·have HT2:Hid ((items.take (m + 1)).all (zb4 lit) = true):=Lib.hid (zp8 HT.out HALL2.out hw)
       go_wp2_with fail
       go_roundw
       case rel => exact ⟨m + 1,by omega,by go_num,HT2.out,HB3.out,by omega,HX3.out⟩
       case measure => simp [intOf]; omega
     ·have HT2:Hid (items.all (zb4 lit) = true):=Lib.hid (by
       have:=HALL2.out
       rwa [List.take_of_length_le (by have:=HL.out; omega)] at this)
      clear hb2
      go_wp2_with fail
      go_ret
      exact ⟨by rw [HW.out,HT2.out,HA2.out]; rfl,HB2.out⟩
end Go.Proofs.YtfgelheiknmjgaaGreatDoor

