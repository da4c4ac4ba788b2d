
/-
 Texts joined: RRight RNodeAll.
-/
import Derived.Test.YtfgelheiknmjgaaGreatDoorZs29
namespace Go.Proofs.YtfgelheiknmjgaaGreatDoor
open Go.RowKit
set_option maxHeartbeats 2000000 in
theorem zr1 (hnode:zF4) (t:VT) (w:World) (B:Nat) (v:Value) (h:Rd w B v t) (hB:B ≤ w.heap.size) (hz:t.size ≤ 2000000) :
  Calls Tryz.prog 95 #[v] w fun e w' => e = .returned (.bool (zc0 true t)) ∧ Below w.heap.size w w':=by
 have hdz:=Nat.le_trans (VT.depth_le t) hz
 have HS:Hid (∀ w2,Below w.heap.size w w2 → Calls Tryz.prog 148 #[v] w2 fun e w' => e = .returned (.int .i64 t.size) ∧ Below w2.heap.size w2 w') :=
  Lib.hid fun w2 hb => zN2 t w2 B v (h.kept (hb.mono hB)) (Nat.le_trans hB hb.size) hz
 have HD:Hid (∀ w2,Below w.heap.size w w2 → Calls Tryz.prog 149 #[v] w2 fun e w' => e = .returned (.int .i64 t.depth) ∧ Below w2.heap.size w2 w') :=
  Lib.hid fun w2 hb => zK1 t w2 B v (h.kept (hb.mono hB)) (Nat.le_trans hB hb.size) hdz
 have HWH:Hid (∀ w2,Below w.heap.size w w2 → Calls Tryz.prog 150 #[v,.bool true] w2 fun e w' => e = .returned (.bool (zb4 true t)) ∧ Below w2.heap.size w2 w') :=
  Lib.hid fun w2 hb => zJ7 hnode true t w2 B v (h.kept (hb.mono hB)) (Nat.le_trans hB hb.size)
 obtain ⟨k,n,s,A,li,ci,K,lk,ck,rfl⟩:=h.shape
 clear h
 have X0:=Lib.hid (Box.new w (.int .i64 k) (.int .i64 n) (.string s) (.slice A li ci) (.slice K lk ck))
 have B0:Hid (Below w.heap.size w (w.alloc (.cells #[.int .i64 k,.int .i64 n,.string s,.slice A li ci,.slice K lk ck] 53 (0,0)))):=Lib.hid ((Below.refl _ _).alloc (Nat.le_refl _) _)
 have HV:Hid (zc0 true t = (decide (t.size ≤ 4096) && decide (t.depth ≤ 24) && zb4 true t)):=Lib.hid rfl
 generalize t.size = z at *
 generalize t.depth = d at *
 generalize zb4 true t = wb at *
 by_cases z1:z ≤ 4096
 ·have z2:decide (z ≤ 4096) = true:=by simpa using z1
  rw [z2] at HV
  have z3:decide ((z:Int) ≤ 4096) = true:=by simp; omega
  by_cases d1:d ≤ 24
  ·have d2:decide (d ≤ 24) = true:=by simpa using d1
   rw [d2] at HV
   have d3:decide ((d:Int) ≤ 24) = true:=by simp; omega
   clear z1 z2 d1 d2
   go_enter Tryz.func95, Tryz.ntmps95
   go_wp2_with fail
   refine (HS.out _ B0.out).mono ?_
   rintro e w1 ⟨rfl,b1⟩
   have B1:=Lib.hid (B0.out.trans (b1.mono B0.out.size))
   have X1:=Lib.hid (X0.out.kept b1)
   obtain ⟨p0,p1,p2,p3,p4⟩:=X1.out.cells
   clear b1
   go_wp2_with fail
   refine (HD.out _ B1.out).mono ?_
   rintro e w2 ⟨rfl,b2⟩
   have B2:=Lib.hid (B1.out.trans (b2.mono B1.out.size))
   have X2:=Lib.hid (X1.out.kept b2)
   clear p0 p1 p2 p3 p4
   obtain ⟨p0,p1,p2,p3,p4⟩:=X2.out.cells
   clear b2
   go_wp2_with fail
   refine (HWH.out _ B2.out).mono ?_
   rintro e w3 ⟨rfl,b3⟩
   have B3:=Lib.hid (B2.out.trans (b3.mono B2.out.size))
   clear b3
   go_wp2_with fail
   go_ret
   exact ⟨by rw [HV.out]; rfl,B3.out⟩
  ·have d2:decide (d ≤ 24) = false:=by simpa using d1
   rw [d2] at HV
   have d3:decide ((d:Int) ≤ 24) = false:=by simp; omega
   clear z1 z2 d1 d2
   go_enter Tryz.func95, Tryz.ntmps95
   go_wp2_with fail
   refine (HS.out _ B0.out).mono ?_
   rintro e w1 ⟨rfl,b1⟩
   have B1:=Lib.hid (B0.out.trans (b1.mono B0.out.size))
   have X1:=Lib.hid (X0.out.kept b1)
   obtain ⟨p0,p1,p2,p3,p4⟩:=X1.out.cells
   clear b1
   go_wp2_with fail
   refine (HD.out _ B1.out).mono ?_
   rintro e w2 ⟨rfl,b2⟩
   have B2:=Lib.hid (B1.out.trans (b2.mono B1.out.size))
   clear b2
   go_wp2_with fail
   go_ret
   exact ⟨by rw [HV.out]; rfl,B2.out⟩
 ·have z2:decide (z ≤ 4096) = false:=by simpa using z1
  rw [z2] at HV
  have z3:decide ((z:Int) ≤ 4096) = false:=by simp; omega
  clear z1 z2
  go_enter Tryz.func95, Tryz.ntmps95
  go_wp2_with fail
  refine (HS.out _ B0.out).mono ?_
  rintro e w1 ⟨rfl,b1⟩
  have B1:=Lib.hid (B0.out.trans (b1.mono B0.out.size))
  clear b1
  go_wp2_with fail
  go_ret
  exact ⟨by rw [HV.out]; rfl,B1.out⟩
end Go.Proofs.YtfgelheiknmjgaaGreatDoor
namespace Go.Proofs.YtfgelheiknmjgaaGreatDoor
open Go.RowKit
theorem zB3:zF4:=by
 intro lit t w B v h hB
 obtain ⟨k,n,s,items,keys⟩:=t
 by_cases k0:k = 0
 ·subst k0; exact rnode_0 lit n s items keys w B v h hB
 by_cases k1:k = 1
 ·subst k1; exact rnode_1 lit n s items keys w B v h hB
 by_cases k2:k = 2
 ·subst k2; exact rnode_2 lit n s items keys w B v h hB
 by_cases k3:k = 3
 ·subst k3; exact rnode_3 lit n s items keys w B v h hB
 by_cases k4:k = 4
 ·subst k4; exact rnode_4 lit n s items keys w B v h hB
 by_cases k5:k = 5
 ·subst k5; exact rnode_5 lit n s items keys w B v h hB
 by_cases k6:k = 6
 ·subst k6; exact rnode_6 lit n s items keys w B v h hB
 by_cases k7:k = 7
 ·subst k7; exact rnode_7 lit n s items keys w B v h hB
 exact zJ9 lit k n s items keys w B v h hB k0 k1 k2 k3 k4 k5 k6 k7
end Go.Proofs.YtfgelheiknmjgaaGreatDoor

