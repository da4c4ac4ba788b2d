
/-
 Texts joined: Measure RWhole RRight RNodeAll.
-/
import Derived.Test.YthjoelpfmimedaaGreatDoorZp4
import Derived.Test.YthjoelpfmimedaaGreatDoorZp26
namespace Go.Proofs.YthjoelpfmimedaaGreatDoor
open Go.RowKit
set_option maxHeartbeats 400000 in
theorem zI5 (t:VT):∀ (w:World) (B:Nat) (v:Value),Rd w B v t → B ≤ w.heap.size → t.size ≤ 1000000 →
  Calls Tryz.prog 162 #[v] w fun e w' => e = .returned (.int .i64 t.size) ∧ Below w.heap.size w w':=by
 induction t using VT.ind with
 | h k n s items keys ih =>
 intro w B v h hB hz
 cases h with
 | @mk _ _ _ A li ci K lk ck _ _ V hk hn hs hks hli hlk hbi hbk hA hr hK =>
 have HA:=Lib.hid hA
 have HR:=Lib.hid hr
 have IH:=Lib.hid ih
 have HL:=Lib.hid hli
 have hz1:1 + VT.sizes items ≤ 1000000:=hz
 clear hA hr ih hK hks hk hn hs hbk hli hlk hz
 go_enter Tryz.func162, Tryz.ntmps162
 go_wp2_with fail
 go_loopw [3,4] (fun nn i wr => ∃ j:Nat,j ≤ li ∧ i = .int .i64 j ∧ nn = .int .i64 (1 + (VT.sizes (items.take j):Int)) ∧ Below w.heap.size w wr ∧ w.heap.size < wr.heap.size ∧ wr.cell? ⟨w.heap.size,3,none⟩ = some (.slice A li ci)) (fun _ i _ => li - (intOf i).toNat)
 case atStart => exact ⟨0,Nat.zero_le _,rfl,by simp [VT.sizes],(Below.refl _ _).alloc (Nat.le_refl _) _,by simp,by simp [World.cell?_alloc_at]⟩
 case round =>
  obtain ⟨j,hj,rfl,rfl,hb,hsz,hbox⟩:=hrel
  have hlm:(li:Int) ≤ 140737488351232:=by omega
  have HB:=Lib.hid hb
  have hz2:=zD6 items (j + 1)
  by_cases hlt:j < li
  ·obtain ⟨a,t,k1,n1,s1,A1,li1,ci1,K1,lk1,ck1,rfl,ht,e,hrd,h0,h1,h2,h3,h4⟩:=zl0 HA.out HR.out HL.out (hb.mono hB) hlt
   have HST:=Lib.hid (zU7 items j t ht)
   have hzt:VT.sizes (items.take j) + t.size ≤ 999999:=by have:=HST.out; omega
   have HT:=Lib.hid ht
   have HRD:=Lib.hid hrd
   have E:=Lib.hid e
   clear e hrd ht hb
   go_wp2_with fail
   rw [← E.out]
   refine (IH.out j t HT.out _ B _ HRD.out (by omega) (by omega)).mono ?_
   rintro e w1 ⟨rfl,hb1⟩
   have hs1:=hb1.size
   have HB1:=Lib.hid ((HB.out.trans (hb1.mono (by omega))):Below w.heap.size w w1)
   have hbox1:=(hb1.cell (p:=⟨w.heap.size,3,none⟩) hsz).trans hbox
   clear hb1
   go_wp2_with fail
   go_roundw
   case rel => exact ⟨j + 1,by omega,by go_num,by rw [HST.out]; go_num,HB1.out,by omega,hbox1⟩
   case measure => simp [intOf]; omega
  ·have hji:j = li:=by omega
   have HJ:Hid (VT.sizes (items.take j) = VT.sizes items):=Lib.hid (by rw [hji,List.take_of_length_le (by have:=HL.out; omega)])
   clear hji hb
   go_wp2_with fail
   go_ret
   exact ⟨by rw [HJ.out]; simp [VT.size],HB.out⟩
set_option maxHeartbeats 400000 in
theorem zA9 (t:VT):∀ (w:World) (B:Nat) (v:Value),Rd w B v t → B ≤ w.heap.size → t.depth ≤ 1000000 →
  Calls Tryz.prog 163 #[v] w fun e w' => e = .returned (.int .i64 t.depth) ∧ Below w.heap.size w w':=by
 induction t using VT.ind with
 | h k n s items keys ih =>
 intro w B v h hB hz
 cases h with
 | @mk _ _ _ A li ci K lk ck _ _ V hk hn hs hks hli hlk hbi hbk hA hr hK =>
 have HA:=Lib.hid hA
 have HR:=Lib.hid hr
 have IH:=Lib.hid ih
 have HL:=Lib.hid hli
 have hz1:1 + VT.depths items ≤ 1000000:=hz
 clear hA hr ih hK hks hk hn hs hbk hli hlk hz
 go_enter Tryz.func163, Tryz.ntmps163
 go_wp2_with fail
 go_loopw [3,4] (fun nn i wr => ∃ j:Nat,j ≤ li ∧ i = .int .i64 j ∧ nn = .int .i64 (VT.depths (items.take j):Int) ∧ Below w.heap.size w wr ∧ w.heap.size < wr.heap.size ∧ wr.cell? ⟨w.heap.size,3,none⟩ = some (.slice A li ci)) (fun _ i _ => li - (intOf i).toNat)
 case atStart => exact ⟨0,Nat.zero_le _,rfl,by simp [VT.depths],(Below.refl _ _).alloc (Nat.le_refl _) _,by simp,by simp [World.cell?_alloc_at]⟩
 case round =>
  obtain ⟨j,hj,rfl,rfl,hb,hsz,hbox⟩:=hrel
  have hlm:(li:Int) ≤ 140737488351232:=by omega
  have HB:=Lib.hid hb
  have hz2:=zn9 items (j + 1)
  by_cases hlt:j < li
  ·obtain ⟨a,t,k1,n1,s1,A1,li1,ci1,K1,lk1,ck1,rfl,ht,e,hrd,h0,h1,h2,h3,h4⟩:=zl0 HA.out HR.out HL.out (hb.mono hB) hlt
   have HST:=Lib.hid (zQ0 items j t ht)
   have hzt:max (VT.depths (items.take j)) t.depth ≤ 999999:=by have:=HST.out; omega
   have HT:=Lib.hid ht
   have HRD:=Lib.hid hrd
   have E:=Lib.hid e
   clear e hrd ht hb
   go_wp2_with fail
   rw [← E.out]
   refine (IH.out j t HT.out _ B _ HRD.out (by omega) (by omega)).mono ?_
   rintro e w1 ⟨rfl,hb1⟩
   have hs1:=hb1.size
   have HB1:=Lib.hid ((HB.out.trans (hb1.mono (by omega))):Below w.heap.size w w1)
   have hbox1:=(hb1.cell (p:=⟨w.heap.size,3,none⟩) hsz).trans hbox
   clear hb1
   go_wp2_with fail
   go_roundw
   case rel => exact ⟨j + 1,by omega,by go_num,by rw [HST.out]; go_num,HB1.out,by omega,hbox1⟩
   case measure => simp [intOf]; omega
  ·have hji:j = li:=by omega
   have hz3:=zn9 items j
   have HJ:Hid (VT.depths (items.take j) = VT.depths items):=Lib.hid (by rw [hji,List.take_of_length_le (by have:=HL.out; omega)])
   clear hji hb
   go_wp2_with fail
   go_ret
   exact ⟨by rw [HJ.out]; simp [VT.depth]; try (try simp only [Int.add_comm]),HB.out⟩
end Go.Proofs.YthjoelpfmimedaaGreatDoor
namespace Go.Proofs.YthjoelpfmimedaaGreatDoor
open Go.RowKit
def zG3:Prop:=∀ (lit:Bool) (t:VT) (w:World) (B:Nat) (v:Value),Rd w B v t → B ≤ w.heap.size →
  Calls Tryz.prog 204 #[v,.bool lit] w fun e w' => e = .returned (.bool (za3 lit t)) ∧ Below w.heap.size w w'
set_option maxRecDepth 100000 in
set_option maxHeartbeats 2000000 in
theorem zA4 (hnode:zG3) (lit:Bool) (t:VT):∀ (w:World) (B:Nat) (v:Value),Rd w B v t → B ≤ w.heap.size →
  Calls Tryz.prog 164 #[v,.bool lit] w fun e w' => e = .returned (.bool (zb2 lit t)) ∧ Below w.heap.size w w':=by
 induction t using VT.ind with
 | h k n s items keys ih =>
 intro w B v h hB
 have HRD:=Lib.hid h
 cases h with
 | @mk _ _ _ A li ci K lk ck _ _ V hk hn hs hks hli hlk hbi hbk hA hr hK =>
 have HA:=Lib.hid hA
 have HR:=Lib.hid hr
 have IH:=Lib.hid ih
 have HL:=Lib.hid hli
 have HLK:=Lib.hid hlk
 have HKS:=Lib.hid hks
 have HK:Hid (0 < lk → ∃ a,K = some a ∧ ∀ W,Below w.heap.size w W → ∀ i s,keys[i]? = some s → W.cell? (a.add i) = some (.string s)):=Lib.hid (fun h0 => by
  obtain ⟨a,e,hab,hc⟩:=hK (by omega)
  exact ⟨a,e,fun W hb i s hi => (hb.cell (p:=a.add i) (by rw [za1]; omega)).trans (hc i s hi)⟩)
 have hlm:(li:Int) ≤ 140737488351232:=by omega
 have hlm':(lk:Int) ≤ 140737488351232:=by omega
 have b1:Below w.heap.size w (w.alloc (.cells #[.int .i64 k,.int .i64 n,.string s,.slice A li ci,.slice K lk ck] 59 (0,0))):=(Below.refl _ _).alloc (Nat.le_refl _) _
 have HN:=Lib.hid (hnode lit _ _ B _ (HRD.out.kept (b1.mono hB)) (by simp; omega))
 have HW:Hid (zb2 lit (.mk k n s items keys) = (za3 lit (.mk k n s items keys) && (!lit || keys.all nmA) && items.all (zb2 lit))):=Lib.hid (by rw [zb2,zz7,rnode_eq])
 have X1:=Lib.hid (Box.new w (.int .i64 k) (.int .i64 n) (.string s) (.slice A li ci) (.slice K lk ck))
 have B1:=Lib.hid b1
 clear hA hr ih hK hks hk hn hs hbi hbk hli hlk b1
 go_enter Tryz.func164, Tryz.ntmps164
 go_wp2_with fail
 refine HN.out.mono ?_
 rintro e w1 ⟨rfl,hb1⟩
 have HB1:=Lib.hid (B1.out.trans (hb1.mono B1.out.size))
 have XB:=Lib.hid (X1.out.kept hb1)
 have hz1:w.heap.size < w1.heap.size:=by have:=hb1.size; simp at this; omega
 clear hb1 X1 B1 HN
 cases hnode2:za3 lit (.mk k n s items keys)
 ·rw [hnode2] at HW
  go_wp2_with fail
  go_ret
  exact ⟨by rw [HW.out]; rfl,HB1.out⟩
 ·rw [hnode2] at HW
  go_wp2_with fail
  go_loopw [5] (fun i wr => ∃ j:Nat,j ≤ lk ∧ i = .int .i64 j ∧ (!lit || (keys.take j).all nmA) = true ∧ Below w.heap.size w wr ∧ w.heap.size < wr.heap.size ∧ Box wr w.heap.size (.int .i64 k) (.int .i64 n) (.string s) (.slice A li ci) (.slice K lk ck)) (fun i _ => lk - (intOf i).toNat)
  case atStart => exact ⟨0,Nat.zero_le _,rfl,by simp,HB1.out,hz1,XB.out⟩
  case round =>
   obtain ⟨j,hj,rfl,hall,hb,hz,hx⟩:=hrel
   have HALL:=Lib.hid hall
   have HB:=Lib.hid hb
   have HX:=Lib.hid hx
   obtain ⟨p0,p1,p2,p3,p4⟩:=hx.cells
   clear hall hb hx
   by_cases hlt:j < lk
   ·obtain ⟨a,rfl,hc⟩:=HK.out (by omega)
    have hjl:j < keys.length:=by have:=HLK.out; omega
    have hcell:=hc _ HB.out j _ (List.getElem?_eq_getElem hjl)
    have hsz:=HKS.out _ (List.getElem_mem hjl)
    have HAT:Hid (keys[j]? = some keys[j]):=Lib.hid (List.getElem?_eq_getElem hjl)
    generalize keys[j] = x at *
    have HNM:=fun w => Lib.hid (zd0 x w (by unfold maxLen; omega))
    clear hc hsz
    cases lit
    ·go_wp2_with fail
     go_roundw
     case rel => exact ⟨j + 1,by omega,by go_num,rfl,HB.out,hz,HX.out⟩
     case measure => simp [intOf]; omega
    ·go_wp2_with fail
     refine (HNM _).out.mono ?_
     rintro e w' ⟨rfl,rfl⟩
     cases hnm:nameL x.data.toList
     ·have HF:Hid (keys.all nmA = false):=Lib.hid (zt1 HAT.out hnm)
      go_wp2_with fail
      go_ret
      exact ⟨by rw [HW.out,HF.out]; rfl,HB.out⟩
     ·have HT:Hid ((keys.take (j + 1)).all nmA = true):=Lib.hid (zq6 HAT.out (by simpa using HALL.out) hnm)
      go_wp2_with fail
      go_roundw
      case rel => exact ⟨j + 1,by omega,by go_num,by rw [HT.out]; rfl,HB.out,hz,HX.out⟩
      case measure => simp [intOf]; omega
   ·have HA2:Hid ((!lit || keys.all nmA) = true):=Lib.hid (by
     have:=HALL.out
     rwa [List.take_of_length_le (by have:=HLK.out; omega)] at this)
    clear HALL
    obtain rfl:lk = j:=by omega
    go_wp2_with fail
    go_loopw [6] (fun i wr => ∃ j:Nat,j ≤ li ∧ i = .int .i64 j ∧ (items.take j).all (zb2 lit) = true ∧ Below w.heap.size w wr ∧ w.heap.size < wr.heap.size ∧ Box wr w.heap.size (.int .i64 k) (.int .i64 n) (.string s) (.slice A li ci) (.slice K lk ck)) (fun i _ => li - (intOf i).toNat)
    case atStart => exact ⟨0,Nat.zero_le _,rfl,by simp,HB.out,hz,HX.out⟩
    case round =>
     obtain ⟨m,hm,rfl,hall2,hb2,hz2,hx2⟩:=hrel
     have HALL2:=Lib.hid hall2
     have HB2:=Lib.hid hb2
     have HX2:=Lib.hid hx2
     obtain ⟨q0,q1,q2,q3,q4⟩:=hx2.cells
     clear hall2 hx2
     by_cases hlt2:m < li
     ·obtain ⟨a,t,k1,n1,s1,A1,li1,ci1,K1,lk1,ck1,rfl,ht,e,hrd,h0,h1,h2,h3,h4⟩:=zl0 HA.out HR.out HL.out (hb2.mono hB) hlt2
      have HT:=Lib.hid ht
      have HRD2:=Lib.hid hrd
      have E:=Lib.hid e
      clear e hrd ht hb2
      go_wp2_with fail
      rw [← E.out]
      refine (IH.out m t HT.out _ B _ HRD2.out (by omega)).mono ?_
      rintro e w2 ⟨rfl,hb3⟩
      have hs3:=hb3.size
      have HB3:=Lib.hid ((HB2.out.trans (hb3.mono (by omega))):Below w.heap.size w w2)
      have HX3:=Lib.hid (HX2.out.kept hb3)
      clear hb3
      cases hw:zb2 lit t
      ·have HF:Hid (items.all (zb2 lit) = false):=Lib.hid (zt1 HT.out hw)
       go_wp2_with fail
       go_ret
       exact ⟨by rw [HW.out,HF.out,Bool.and_false]; rfl,HB3.out⟩
      ·have HT2:Hid ((items.take (m + 1)).all (zb2 lit) = true):=Lib.hid (zq6 HT.out HALL2.out hw)
       go_wp2_with fail
       go_roundw
       case rel => exact ⟨m + 1,by omega,by go_num,HT2.out,HB3.out,by omega,HX3.out⟩
       case measure => simp [intOf]; omega
     ·have HT2:Hid (items.all (zb2 lit) = true):=Lib.hid (by
       have:=HALL2.out
       rwa [List.take_of_length_le (by have:=HL.out; omega)] at this)
      clear hb2
      go_wp2_with fail
      go_ret
      exact ⟨by rw [HW.out,HT2.out,HA2.out]; rfl,HB2.out⟩
end Go.Proofs.YthjoelpfmimedaaGreatDoor
namespace Go.Proofs.YthjoelpfmimedaaGreatDoor
open Go.RowKit
set_option maxHeartbeats 1000000 in
theorem zs2 (hnode:zG3) (t:VT) (w:World) (B:Nat) (v:Value) (h:Rd w B v t) (hB:B ≤ w.heap.size) (hz:t.size ≤ 1000000) :
  Calls Tryz.prog 102 #[v] w fun e w' => e = .returned (.bool (zc0 true t)) ∧ Below w.heap.size w w':=by
 have hdz:=Nat.le_trans (VT.depth_le t) hz
 have HS:Hid (∀ w2,Below w.heap.size w w2 → Calls Tryz.prog 162 #[v] w2 fun e w' => e = .returned (.int .i64 t.size) ∧ Below w2.heap.size w2 w') :=
  Lib.hid fun w2 hb => zI5 t w2 B v (h.kept (hb.mono hB)) (Nat.le_trans hB hb.size) hz
 have HD:Hid (∀ w2,Below w.heap.size w w2 → Calls Tryz.prog 163 #[v] w2 fun e w' => e = .returned (.int .i64 t.depth) ∧ Below w2.heap.size w2 w') :=
  Lib.hid fun w2 hb => zA9 t w2 B v (h.kept (hb.mono hB)) (Nat.le_trans hB hb.size) hdz
 have HWH:Hid (∀ w2,Below w.heap.size w w2 → Calls Tryz.prog 164 #[v,.bool true] w2 fun e w' => e = .returned (.bool (zb2 true t)) ∧ Below w2.heap.size w2 w') :=
  Lib.hid fun w2 hb => zA4 hnode true t w2 B v (h.kept (hb.mono hB)) (Nat.le_trans hB hb.size)
 obtain ⟨k,n,s,A,li,ci,K,lk,ck,rfl⟩:=h.shape
 clear h
 have X0:=Lib.hid (Box.new w (.int .i64 k) (.int .i64 n) (.string s) (.slice A li ci) (.slice K lk ck))
 have B0:Hid (Below w.heap.size w (w.alloc (.cells #[.int .i64 k,.int .i64 n,.string s,.slice A li ci,.slice K lk ck] 59 (0,0)))):=Lib.hid ((Below.refl _ _).alloc (Nat.le_refl _) _)
 have HV:Hid (zc0 true t = (decide (t.size ≤ 4096) && decide (t.depth ≤ 24) && zb2 true t)):=Lib.hid rfl
 generalize t.size = z at *
 generalize t.depth = d at *
 generalize zb2 true t = wb at *
 by_cases z1:z ≤ 4096
 ·have z2:decide (z ≤ 4096) = true:=by simpa using z1
  rw [z2] at HV
  have z3:decide ((z:Int) ≤ 4096) = true:=by simp; omega
  by_cases d1:d ≤ 24
  ·have d2:decide (d ≤ 24) = true:=by simpa using d1
   rw [d2] at HV
   have d3:decide ((d:Int) ≤ 24) = true:=by simp; omega
   clear z1 z2 d1 d2
   go_enter Tryz.func102, Tryz.ntmps102
   go_wp2_with fail
   refine (HS.out _ B0.out).mono ?_
   rintro e w1 ⟨rfl,b1⟩
   have B1:=Lib.hid (B0.out.trans (b1.mono B0.out.size))
   have X1:=Lib.hid (X0.out.kept b1)
   obtain ⟨p0,p1,p2,p3,p4⟩:=X1.out.cells
   clear b1
   go_wp2_with fail
   refine (HD.out _ B1.out).mono ?_
   rintro e w2 ⟨rfl,b2⟩
   have B2:=Lib.hid (B1.out.trans (b2.mono B1.out.size))
   have X2:=Lib.hid (X1.out.kept b2)
   clear p0 p1 p2 p3 p4
   obtain ⟨p0,p1,p2,p3,p4⟩:=X2.out.cells
   clear b2
   go_wp2_with fail
   refine (HWH.out _ B2.out).mono ?_
   rintro e w3 ⟨rfl,b3⟩
   have B3:=Lib.hid (B2.out.trans (b3.mono B2.out.size))
   clear b3
   go_wp2_with fail
   go_ret
   exact ⟨by rw [HV.out]; rfl,B3.out⟩
  ·have d2:decide (d ≤ 24) = false:=by simpa using d1
   rw [d2] at HV
   have d3:decide ((d:Int) ≤ 24) = false:=by simp; omega
   clear z1 z2 d1 d2
   go_enter Tryz.func102, Tryz.ntmps102
   go_wp2_with fail
   refine (HS.out _ B0.out).mono ?_
   rintro e w1 ⟨rfl,b1⟩
   have B1:=Lib.hid (B0.out.trans (b1.mono B0.out.size))
   have X1:=Lib.hid (X0.out.kept b1)
   obtain ⟨p0,p1,p2,p3,p4⟩:=X1.out.cells
   clear b1
   go_wp2_with fail
   refine (HD.out _ B1.out).mono ?_
   rintro e w2 ⟨rfl,b2⟩
   have B2:=Lib.hid (B1.out.trans (b2.mono B1.out.size))
   clear b2
   go_wp2_with fail
   go_ret
   exact ⟨by rw [HV.out]; rfl,B2.out⟩
 ·have z2:decide (z ≤ 4096) = false:=by simpa using z1
  rw [z2] at HV
  have z3:decide ((z:Int) ≤ 4096) = false:=by simp; omega
  clear z1 z2
  go_enter Tryz.func102, Tryz.ntmps102
  go_wp2_with fail
  refine (HS.out _ B0.out).mono ?_
  rintro e w1 ⟨rfl,b1⟩
  have B1:=Lib.hid (B0.out.trans (b1.mono B0.out.size))
  clear b1
  go_wp2_with fail
  go_ret
  exact ⟨by rw [HV.out]; rfl,B1.out⟩
end Go.Proofs.YthjoelpfmimedaaGreatDoor
namespace Go.Proofs.YthjoelpfmimedaaGreatDoor
open Go.RowKit
theorem zI7:zG3:=by
 intro lit t w B v h hB
 obtain ⟨k,n,s,items,keys⟩:=t
 by_cases k0:k = 0
 ·subst k0; exact rnode_0 lit n s items keys w B v h hB
 by_cases k1:k = 1
 ·subst k1; exact rnode_1 lit n s items keys w B v h hB
 by_cases k2:k = 2
 ·subst k2; exact rnode_2 lit n s items keys w B v h hB
 by_cases k3:k = 3
 ·subst k3; exact rnode_3 lit n s items keys w B v h hB
 by_cases k4:k = 4
 ·subst k4; exact rnode_4 lit n s items keys w B v h hB
 by_cases k5:k = 5
 ·subst k5; exact rnode_5 lit n s items keys w B v h hB
 by_cases k6:k = 6
 ·subst k6; exact rnode_6 lit n s items keys w B v h hB
 by_cases k7:k = 7
 ·subst k7; exact rnode_7 lit n s items keys w B v h hB
 exact zV4 lit k n s items keys w B v h hB k0 k1 k2 k3 k4 k5 k6 k7
end Go.Proofs.YthjoelpfmimedaaGreatDoor
