
/-
 Texts joined: D6 D7 S7 Own RPrint.
-/
import Derived.Test.YthjoelpfmimedaaGreatDoorZp28
import Derived.Test.YthjoelpfmimedaaGreatDoorZp26
import Derived.Test.YthjoelpfmimedaaGreatDoorZp6
import Derived.StillTailTactics
import Derived.Test.YthjoelpfmimedaaGreatDoorZp1
namespace Go.Proofs.YthjoelpfmimedaaGreatDoor
open Go.RowKit
def zv3 (x:DefT):Bool :=
 if x.kind = 1 then zj9 x.fields && (decide (x.members.length = 0) && decide (x.inputs.length = 0))
 else if x.kind = 2 then decide (x.impl.length = 0) && (zj9 x.fields && (decide (x.members.length = 0) && decide (x.inputs.length = 0)))
 else if x.kind = 3 then decide (x.impl.length = 0) && (decide (x.fields.length = 0) && (zf8 true x.members && decide (x.inputs.length = 0)))
 else if x.kind = 4 then decide (x.impl.length = 0) && (decide (x.fields.length = 0) && (zf8 false x.members && decide (x.inputs.length = 0)))
 else if x.kind = 5 then decide (x.impl.length = 0) && (decide (x.fields.length = 0) && (decide (x.members.length = 0) && (decide (x.inputs.length ≠ 0) && zg6 x.inputs)))
 else false
def zi0 (x:DefT):Bool:=nmA x.name && (zd6 x.dirs && (decide (x.impl.length ≤ 64) && (x.impl.all nmA && zv3 x)))
def defsZ (l:List DefT):Prop:=∀ x ∈ l,dirsZ x.dirs ∧ fldsZ x.fields ∧ memsZ x.members ∧ inpsZ x.inputs
set_option maxRecDepth 100000 in
set_option maxHeartbeats 16000000 in
theorem zD8 (x:DefT) (f:Nat → Value) (w:World) (h:DefR w w.heap.size f x) (hz:dirsZ x.dirs ∧ fldsZ x.fields ∧ memsZ x.members ∧ inpsZ x.inputs):Calls Tryz.prog 25 #[.agg #[f 0,f 1,f 2,f 3,f 4,f 5,f 6]] w (BP (zi0 x) w):=by
 obtain ⟨A2,c2,e2,hc2,hb2,V2,hA2,hR2⟩:=h.impl
 obtain ⟨A3,c3,e3,_,_⟩:=h.dirs.form
 obtain ⟨A4,c4,e4,_,hb4⟩:=h.fields.form
 obtain ⟨A5,c5,e5,_,hb5⟩:=h.members.form
 obtain ⟨A6,c6,e6,_,hb6⟩:=h.inputs.form
 have H3:=h.dirs
 have H4:=h.fields
 have H5:=h.members
 have H6:=h.inputs
 rw [e3] at H3
 rw [e4] at H4
 rw [e5] at H5
 rw [e6] at H6
 rw [h.kind,h.name,e2,e3,e4,e5,e6]
 replace H3:=Lib.hid H3
 have HN:=Lib.hid h.size
 have HZ:=Lib.hid hz
 unfold big at hb2 hb4 hb5 hb6
 have m2:(x.impl.length:Int) ≤ 140737488351232:=by omega
 have m4:(x.fields.length:Int) ≤ 140737488351232:=by omega
 have m5:(x.members.length:Int) ≤ 140737488351232:=by omega
 have m6:(x.inputs.length:Int) ≤ 140737488351232:=by omega
 clear e2 e3 e4 e5 e6 h hz hb2 hb4 hb5 hb6 hc2
 have HV:Hid (zi0 x = (nmA x.name && (zd6 x.dirs && (decide (x.impl.length ≤ 64) && (x.impl.all nmA && zv3 x))))):=Lib.hid rfl
 have HT:Hid (zv3 x = if x.kind = 1 then zj9 x.fields && (decide (x.members.length = 0) && decide (x.inputs.length = 0))
  else if x.kind = 2 then decide (x.impl.length = 0) && (zj9 x.fields && (decide (x.members.length = 0) && decide (x.inputs.length = 0)))
  else if x.kind = 3 then decide (x.impl.length = 0) && (decide (x.fields.length = 0) && (zf8 true x.members && decide (x.inputs.length = 0)))
  else if x.kind = 4 then decide (x.impl.length = 0) && (decide (x.fields.length = 0) && (zf8 false x.members && decide (x.inputs.length = 0)))
  else if x.kind = 5 then decide (x.impl.length = 0) && (decide (x.fields.length = 0) && (decide (x.members.length = 0) && (decide (x.inputs.length ≠ 0) && zg6 x.inputs)))
  else false):=Lib.hid rfl
 generalize zi0 x = RB at *
 generalize zv3 x = TB at *
 obtain ⟨l2,h2⟩ : ∃ l2,l2 = x.impl.length:=⟨_,rfl⟩
 obtain ⟨l4,h4⟩ : ∃ l4,l4 = x.fields.length:=⟨_,rfl⟩
 obtain ⟨l5,h5⟩ : ∃ l5,l5 = x.members.length:=⟨_,rfl⟩
 obtain ⟨l6,h6⟩ : ∃ l6,l6 = x.inputs.length:=⟨_,rfl⟩
 rw [← h2] at HV HT m2 hA2 ⊢
 rw [← h4] at HT m4 H4 ⊢
 rw [← h5] at HT m5 H5 ⊢
 rw [← h6] at HT m6 H6 ⊢
 generalize x.kind = kd at *
 replace H4:=Lib.hid H4
 replace H5:=Lib.hid H5
 replace H6:=Lib.hid H6
 have HA2:=Lib.hid hA2
 have HR2:=Lib.hid hR2
 have HL2:=Lib.hid h2
 clear h4 h5 h6 h2 hA2 hR2
 have HB0:Hid (Below w.heap.size w (w.alloc (.cells #[.int .i64 kd,.string x.name,.slice A2 l2 c2,.slice A3 x.dirs.length c3,.slice A4 l4 c4,.slice A5 l5 c5,.slice A6 l6 c6] 45 (0,0)))):=Lib.hid (za0 _ _)
 have HX0:Hid (Bk (w.alloc (.cells #[.int .i64 kd,.string x.name,.slice A2 l2 c2,.slice A3 x.dirs.length c3,.slice A4 l4 c4,.slice A5 l5 c5,.slice A6 l6 c6] 45 (0,0))) w.heap.size #[.int .i64 kd,.string x.name,.slice A2 l2 c2,.slice A3 x.dirs.length c3,.slice A4 l4 c4,.slice A5 l5 c5,.slice A6 l6 c6] 45):=Lib.hid (Bk.new _ _ _)
 go_enter Tryz.func25, Tryz.ntmps25
 go_wp2_with fail
 refine (zm5 x.name _ HN.out).mono ?_
 rintro e w1 ⟨rfl,rfl⟩
 cases v:nmA x.name with
 | false =>
   have v0:=Lib.hid v
   clear v
   go_wp2_with fail
   go_ret
   exact ⟨by rw [HV.out,v0.out,Bool.false_and]; rfl,HB0.out⟩
 | true =>
   have v0:=Lib.hid v
   clear v
   have q0:=HX0.out.cell 0 _ rfl
   have q1:=HX0.out.cell 1 _ rfl
   have q2:=HX0.out.cell 2 _ rfl
   have q3:=HX0.out.cell 3 _ rfl
   have q4:=HX0.out.cell 4 _ rfl
   have q5:=HX0.out.cell 5 _ rfl
   have q6:=HX0.out.cell 6 _ rfl
   go_wp2_with fail
   refine (zf0 x.dirs _ _ ((H3.out.kept HB0.out).mono HB0.out.size) HZ.out.1).mono ?_
   rintro e w2 ⟨rfl,hb⟩
   clear q0 q1 q2 q3 q4 q5 q6
   have HB1:=Lib.hid (HB0.out.trans (Below.mono hb HB0.out.size))
   have HX1:=Lib.hid (HX0.out.stay hb)
   clear hb
   have q0:=HX1.out.cell 0 _ rfl
   have q1:=HX1.out.cell 1 _ rfl
   have q2:=HX1.out.cell 2 _ rfl
   have q3:=HX1.out.cell 3 _ rfl
   have q4:=HX1.out.cell 4 _ rfl
   have q5:=HX1.out.cell 5 _ rfl
   have q6:=HX1.out.cell 6 _ rfl
   cases v:zd6 x.dirs with
   | false =>
     have v1:=Lib.hid v
     clear v
     go_wp2_with fail
     go_ret
     exact ⟨by rw [HV.out,v0.out,Bool.true_and,v1.out,Bool.false_and]; rfl,HB1.out⟩
   | true =>
     have v1:=Lib.hid v
     clear v
     by_cases hg1:64 < l2
     ·have hg3:(l2:Int) > 64:=by omega
      have v2:Hid (decide (l2 ≤ 64) = false):=Lib.hid (decide_eq_false (by omega))
      clear hg1
      go_wp2_with fail
      go_ret
      exact ⟨by rw [HV.out,v0.out,Bool.true_and,v1.out,Bool.true_and,v2.out,Bool.false_and]; rfl,HB1.out⟩
     have hg3:¬ (l2:Int) > 64:=by omega
     have v2:Hid (decide (l2 ≤ 64) = true):=Lib.hid (decide_eq_true (by omega))
     clear hg1
     go_wp2_with fail
     clear hg3
     clear q0 q1 q2 q3 q4 q5 q6
     go_loopw [3] (fun u wr => ∃ i:Nat,i ≤ l2 ∧ u = .int .i64 i ∧ Hid ((∀ (j:Nat) (y:ByteArray),j < i → x.impl[j]? = some y → nmA y = true) ∧ Below w.heap.size w wr ∧ Bk wr w.heap.size #[.int .i64 kd,.string x.name,.slice A2 l2 c2,.slice A3 x.dirs.length c3,.slice A4 l4 c4,.slice A5 l5 c5,.slice A6 l6 c6] 45)) (fun u _ => l2 - (intOf u).toNat)
     case atStart => exact ⟨0,Nat.zero_le _,rfl,Lib.hid ⟨fun _ _ h => absurd h (Nat.not_lt_zero _),HB1.out,HX1.out⟩⟩
     case round =>
      obtain ⟨i,hi,rfl,hr⟩:=hrel
      have HB2:=Lib.hid hr.out.2.1
      have HX2:=Lib.hid hr.out.2.2
      have q0:=HX2.out.cell 0 _ rfl
      have q1:=HX2.out.cell 1 _ rfl
      have q2:=HX2.out.cell 2 _ rfl
      have q3:=HX2.out.cell 3 _ rfl
      have q4:=HX2.out.cell 4 _ rfl
      have q5:=HX2.out.cell 5 _ rfl
      have q6:=HX2.out.cell 6 _ rfl
      by_cases hlt:i < l2
      ·have hlt':(i:Int) < l2:=by omega
       obtain ⟨a,ea,ha,hcell⟩:=HA2.out (by omega)
       subst ea
       obtain ⟨y,hy⟩ : ∃ y,x.impl[i]? = some y:=⟨_,List.getElem?_eq_getElem (by have:=HL2.out; omega)⟩
       have hry:=HR2.out i y hy
       have k0:wr.cell? (a.add i) = some (.string y):=by
        have h1:=((HB2.out.cell (by rw [zb6,za1]; exact ha)).trans (hcell i hlt 0 (by omega))).trans (congrArg some hry.1)
        simpa [at_] using h1
       have HNY:=Lib.hid hry.2
       have HY:=Lib.hid hy
       clear hcell hry hy
       go_wp2_with fail
       refine (zm5 y _ HNY.out).mono ?_
       rintro e w1 ⟨rfl,rfl⟩
       cases v:nmA y with
       | false =>
         have v3:=Lib.hid v
         clear v
         go_wp2_with fail
         go_ret
         exact ⟨by rw [HV.out,v0.out,Bool.true_and,v1.out,Bool.true_and,v2.out,Bool.true_and,zb0 HY.out v3.out,Bool.false_and]; rfl,HB2.out⟩
       | true =>
         have v3:=Lib.hid v
         clear v
         go_wp2_with fail
         go_roundw
         case rel => exact ⟨i + 1,by omega,by simp,Lib.hid ⟨ze9 hr.out.1 HY.out v3.out,HB2.out,HX2.out⟩⟩
         case measure => simp [intOf]; omega
      ·have:i = l2:=by omega
       subst this
       have HV2:Hid (RB = TB):=Lib.hid (by rw [HV.out,v0.out,Bool.true_and,v1.out,Bool.true_and,v2.out,Bool.true_and,zi5 fun j y h1 h2 => hr.out.1 j y (by have:=HL2.out; omega) h2,Bool.true_and])
       clear hi
       by_cases k1:kd = 1
       ·skip
        have HT2:Hid (TB = _):=Lib.hid (HT.out.trans (by rw [if_pos k1]))
        subst k1
        go_wp2_with fail
        go_quiet (fail)
        have HB3:Hid (Below w.heap.size w (wr.drewN nq)):=Lib.hid (_root_.Go.below_drewN HB2.out nq)
        have HX3:Hid (Bk (wr.drewN nq) w.heap.size #[.int .i64 1,.string x.name,.slice A2 i c2,.slice A3 x.dirs.length c3,.slice A4 l4 c4,.slice A5 l5 c5,.slice A6 l6 c6] 45):=Lib.hid HX2.out
        go_wp2_with fail
        refine (zl9 x.fields _ _ ((H4.out.kept HB3.out).mono HB3.out.size) HZ.out.2.1).mono ?_
        rintro e w6 ⟨rfl,hb⟩
        clear q0 q1 q2 q3 q4 q5 q6
        have HB4:=Lib.hid (HB3.out.trans (Below.mono hb HB3.out.size))
        have HX4:=Lib.hid (HX3.out.stay hb)
        clear hb
        have q0:=HX4.out.cell 0 _ rfl
        have q1:=HX4.out.cell 1 _ rfl
        have q2:=HX4.out.cell 2 _ rfl
        have q3:=HX4.out.cell 3 _ rfl
        have q4:=HX4.out.cell 4 _ rfl
        have q5:=HX4.out.cell 5 _ rfl
        have q6:=HX4.out.cell 6 _ rfl
        cases v:zj9 x.fields with
        | false =>
          have u4:=Lib.hid v
          clear v
          go_wp2_with fail
          go_ret
          exact ⟨by rw [HV2.out,HT2.out,u4.out,Bool.false_and]; rfl,HB4.out⟩
        | true =>
          have u4:=Lib.hid v
          clear v
          by_cases z5:l5 = 0
          ·skip
           have u5:Hid (decide (l5 = 0) = true):=Lib.hid (by simp [z5])
           have y5:((l5:Int) == 0) = true:=by rw [z5]; rfl
           have y5':decide (l5 = 0) = true:=by rw [z5]; rfl
           clear z5
           by_cases z6:l6 = 0
           ·skip
            have u6:Hid (decide (l6 = 0) = true):=Lib.hid (by simp [z6])
            have y6:((l6:Int) == 0) = true:=by rw [z6]; rfl
            have y6':decide (l6 = 0) = true:=by rw [z6]; rfl
            clear z6
            go_wp2_with fail
            go_ret
            exact ⟨by rw [HV2.out,HT2.out,u4.out,Bool.true_and,u5.out,Bool.true_and,u6.out]; rfl,HB4.out⟩
           ·skip
            have u6:Hid (decide (l6 = 0) = false):=Lib.hid (by simp [z6])
            have y6:((l6:Int) == 0) = false:=by rw [beq_eq_false_iff_ne]; omega
            have y6':decide (l6 = 0) = false:=decide_eq_false z6
            clear z6
            go_wp2_with fail
            go_ret
            exact ⟨by rw [HV2.out,HT2.out,u4.out,Bool.true_and,u5.out,Bool.true_and,u6.out]; rfl,HB4.out⟩
          ·skip
           have u5:Hid (decide (l5 = 0) = false):=Lib.hid (by simp [z5])
           have y5:((l5:Int) == 0) = false:=by rw [beq_eq_false_iff_ne]; omega
           have y5':decide (l5 = 0) = false:=decide_eq_false z5
           clear z5
           go_wp2_with fail
           go_ret
           exact ⟨by rw [HV2.out,HT2.out,u4.out,Bool.true_and,u5.out,Bool.false_and]; rfl,HB4.out⟩
       by_cases k2:kd = 2
       ·skip
        have HT2:Hid (TB = _):=Lib.hid (HT.out.trans (by rw [if_neg k1,if_pos k2]))
        subst k2
        clear k1
        by_cases z4:i = 0
        ·skip
         have u4:Hid (decide (i = 0) = true):=Lib.hid (by simp [z4])
         have y4:((i:Int) == 0) = true:=by rw [z4]; rfl
         have y4':decide (i = 0) = true:=by rw [z4]; rfl
         clear z4
         go_wp2_with fail
         go_quiet (fail)
         have HB3:Hid (Below w.heap.size w (wr.drewN nq)):=Lib.hid (_root_.Go.below_drewN HB2.out nq)
         have HX3:Hid (Bk (wr.drewN nq) w.heap.size #[.int .i64 2,.string x.name,.slice A2 i c2,.slice A3 x.dirs.length c3,.slice A4 l4 c4,.slice A5 l5 c5,.slice A6 l6 c6] 45):=Lib.hid HX2.out
         go_wp2_with fail
         refine (zl9 x.fields _ _ ((H4.out.kept HB3.out).mono HB3.out.size) HZ.out.2.1).mono ?_
         rintro e w6 ⟨rfl,hb⟩
         clear q0 q1 q2 q3 q4 q5 q6
         have HB4:=Lib.hid (HB3.out.trans (Below.mono hb HB3.out.size))
         have HX4:=Lib.hid (HX3.out.stay hb)
         clear hb
         have q0:=HX4.out.cell 0 _ rfl
         have q1:=HX4.out.cell 1 _ rfl
         have q2:=HX4.out.cell 2 _ rfl
         have q3:=HX4.out.cell 3 _ rfl
         have q4:=HX4.out.cell 4 _ rfl
         have q5:=HX4.out.cell 5 _ rfl
         have q6:=HX4.out.cell 6 _ rfl
         cases v:zj9 x.fields with
         | false =>
           have u5:=Lib.hid v
           clear v
           go_wp2_with fail
           go_ret
           exact ⟨by rw [HV2.out,HT2.out,u4.out,Bool.true_and,u5.out,Bool.false_and]; rfl,HB4.out⟩
         | true =>
           have u5:=Lib.hid v
           clear v
           by_cases z6:l5 = 0
           ·skip
            have u6:Hid (decide (l5 = 0) = true):=Lib.hid (by simp [z6])
            have y6:((l5:Int) == 0) = true:=by rw [z6]; rfl
            have y6':decide (l5 = 0) = true:=by rw [z6]; rfl
            clear z6
            by_cases z7:l6 = 0
            ·skip
             have u7:Hid (decide (l6 = 0) = true):=Lib.hid (by simp [z7])
             have y7:((l6:Int) == 0) = true:=by rw [z7]; rfl
             have y7':decide (l6 = 0) = true:=by rw [z7]; rfl
             clear z7
             go_wp2_with fail
             go_ret
             exact ⟨by rw [HV2.out,HT2.out,u4.out,Bool.true_and,u5.out,Bool.true_and,u6.out,Bool.true_and,u7.out]; rfl,HB4.out⟩
            ·skip
             have u7:Hid (decide (l6 = 0) = false):=Lib.hid (by simp [z7])
             have y7:((l6:Int) == 0) = false:=by rw [beq_eq_false_iff_ne]; omega
             have y7':decide (l6 = 0) = false:=decide_eq_false z7
             clear z7
             go_wp2_with fail
             go_ret
             exact ⟨by rw [HV2.out,HT2.out,u4.out,Bool.true_and,u5.out,Bool.true_and,u6.out,Bool.true_and,u7.out]; rfl,HB4.out⟩
           ·skip
            have u6:Hid (decide (l5 = 0) = false):=Lib.hid (by simp [z6])
            have y6:((l5:Int) == 0) = false:=by rw [beq_eq_false_iff_ne]; omega
            have y6':decide (l5 = 0) = false:=decide_eq_false z6
            clear z6
            go_wp2_with fail
            go_ret
            exact ⟨by rw [HV2.out,HT2.out,u4.out,Bool.true_and,u5.out,Bool.true_and,u6.out,Bool.false_and]; rfl,HB4.out⟩
        ·skip
         have u4:Hid (decide (i = 0) = false):=Lib.hid (by simp [z4])
         have y4:((i:Int) == 0) = false:=by rw [beq_eq_false_iff_ne]; omega
         have y4':decide (i = 0) = false:=decide_eq_false z4
         clear z4
         go_wp2_with fail
         go_quiet (fail)
         have HB3:Hid (Below w.heap.size w (wr.drewN nq)):=Lib.hid (_root_.Go.below_drewN HB2.out nq)
         have HX3:Hid (Bk (wr.drewN nq) w.heap.size #[.int .i64 2,.string x.name,.slice A2 i c2,.slice A3 x.dirs.length c3,.slice A4 l4 c4,.slice A5 l5 c5,.slice A6 l6 c6] 45):=Lib.hid HX2.out
         go_wp2_with fail
         go_ret
         exact ⟨by rw [HV2.out,HT2.out,u4.out,Bool.false_and]; rfl,HB3.out⟩
       by_cases k3:kd = 3
       ·skip
        have HT2:Hid (TB = _):=Lib.hid (HT.out.trans (by rw [if_neg k1,if_neg k2,if_pos k3]))
        subst k3
        clear k1 k2
        by_cases z4:i = 0
        ·skip
         have u4:Hid (decide (i = 0) = true):=Lib.hid (by simp [z4])
         have y4:((i:Int) == 0) = true:=by rw [z4]; rfl
         have y4':decide (i = 0) = true:=by rw [z4]; rfl
         clear z4
         by_cases z5:l4 = 0
         ·skip
          have u5:Hid (decide (l4 = 0) = true):=Lib.hid (by simp [z5])
          have y5:((l4:Int) == 0) = true:=by rw [z5]; rfl
          have y5':decide (l4 = 0) = true:=by rw [z5]; rfl
          clear z5
          go_wp2_with fail
          go_quiet (fail)
          have HB3:Hid (Below w.heap.size w (wr.drewN nq)):=Lib.hid (_root_.Go.below_drewN HB2.out nq)
          have HX3:Hid (Bk (wr.drewN nq) w.heap.size #[.int .i64 3,.string x.name,.slice A2 i c2,.slice A3 x.dirs.length c3,.slice A4 l4 c4,.slice A5 l5 c5,.slice A6 l6 c6] 45):=Lib.hid HX2.out
          go_wp2_with fail
          refine (zp1 x.members _ _ ((H5.out.kept HB3.out).mono HB3.out.size) HZ.out.2.2.1).mono ?_
          rintro e w6 ⟨rfl,hb⟩
          clear q0 q1 q2 q3 q4 q5 q6
          have HB4:=Lib.hid (HB3.out.trans (Below.mono hb HB3.out.size))
          have HX4:=Lib.hid (HX3.out.stay hb)
          clear hb
          have q0:=HX4.out.cell 0 _ rfl
          have q1:=HX4.out.cell 1 _ rfl
          have q2:=HX4.out.cell 2 _ rfl
          have q3:=HX4.out.cell 3 _ rfl
          have q4:=HX4.out.cell 4 _ rfl
          have q5:=HX4.out.cell 5 _ rfl
          have q6:=HX4.out.cell 6 _ rfl
          cases v:zf8 true x.members with
          | false =>
            have u6:=Lib.hid v
            clear v
            go_wp2_with fail
            go_ret
            exact ⟨by rw [HV2.out,HT2.out,u4.out,Bool.true_and,u5.out,Bool.true_and,u6.out,Bool.false_and]; rfl,HB4.out⟩
          | true =>
            have u6:=Lib.hid v
            clear v
            by_cases z7:l6 = 0
            ·skip
             have u7:Hid (decide (l6 = 0) = true):=Lib.hid (by simp [z7])
             have y7:((l6:Int) == 0) = true:=by rw [z7]; rfl
             have y7':decide (l6 = 0) = true:=by rw [z7]; rfl
             clear z7
             go_wp2_with fail
             go_ret
             exact ⟨by rw [HV2.out,HT2.out,u4.out,Bool.true_and,u5.out,Bool.true_and,u6.out,Bool.true_and,u7.out]; rfl,HB4.out⟩
            ·skip
             have u7:Hid (decide (l6 = 0) = false):=Lib.hid (by simp [z7])
             have y7:((l6:Int) == 0) = false:=by rw [beq_eq_false_iff_ne]; omega
             have y7':decide (l6 = 0) = false:=decide_eq_false z7
             clear z7
             go_wp2_with fail
             go_ret
             exact ⟨by rw [HV2.out,HT2.out,u4.out,Bool.true_and,u5.out,Bool.true_and,u6.out,Bool.true_and,u7.out]; rfl,HB4.out⟩
         ·skip
          have u5:Hid (decide (l4 = 0) = false):=Lib.hid (by simp [z5])
          have y5:((l4:Int) == 0) = false:=by rw [beq_eq_false_iff_ne]; omega
          have y5':decide (l4 = 0) = false:=decide_eq_false z5
          clear z5
          go_wp2_with fail
          go_quiet (fail)
          have HB3:Hid (Below w.heap.size w (wr.drewN nq)):=Lib.hid (_root_.Go.below_drewN HB2.out nq)
          have HX3:Hid (Bk (wr.drewN nq) w.heap.size #[.int .i64 3,.string x.name,.slice A2 i c2,.slice A3 x.dirs.length c3,.slice A4 l4 c4,.slice A5 l5 c5,.slice A6 l6 c6] 45):=Lib.hid HX2.out
          go_wp2_with fail
          go_ret
          exact ⟨by rw [HV2.out,HT2.out,u4.out,Bool.true_and,u5.out,Bool.false_and]; rfl,HB3.out⟩
        ·skip
         have u4:Hid (decide (i = 0) = false):=Lib.hid (by simp [z4])
         have y4:((i:Int) == 0) = false:=by rw [beq_eq_false_iff_ne]; omega
         have y4':decide (i = 0) = false:=decide_eq_false z4
         clear z4
         go_wp2_with fail
         go_quiet (fail)
         have HB3:Hid (Below w.heap.size w (wr.drewN nq)):=Lib.hid (_root_.Go.below_drewN HB2.out nq)
         have HX3:Hid (Bk (wr.drewN nq) w.heap.size #[.int .i64 3,.string x.name,.slice A2 i c2,.slice A3 x.dirs.length c3,.slice A4 l4 c4,.slice A5 l5 c5,.slice A6 l6 c6] 45):=Lib.hid HX2.out
         go_wp2_with fail
         go_ret
         exact ⟨by rw [HV2.out,HT2.out,u4.out,Bool.false_and]; rfl,HB3.out⟩
       by_cases k4:kd = 4
       ·skip
        have HT2:Hid (TB = _):=Lib.hid (HT.out.trans (by rw [if_neg k1,if_neg k2,if_neg k3,if_pos k4]))
        subst k4
        clear k1 k2 k3
        by_cases z4:i = 0
        ·skip
         have u4:Hid (decide (i = 0) = true):=Lib.hid (by simp [z4])
         have y4:((i:Int) == 0) = true:=by rw [z4]; rfl
         have y4':decide (i = 0) = true:=by rw [z4]; rfl
         clear z4
         by_cases z5:l4 = 0
         ·skip
          have u5:Hid (decide (l4 = 0) = true):=Lib.hid (by simp [z5])
          have y5:((l4:Int) == 0) = true:=by rw [z5]; rfl
          have y5':decide (l4 = 0) = true:=by rw [z5]; rfl
          clear z5
          go_wp2_with fail
          go_quiet (fail)
          have HB3:Hid (Below w.heap.size w (wr.drewN nq)):=Lib.hid (_root_.Go.below_drewN HB2.out nq)
          have HX3:Hid (Bk (wr.drewN nq) w.heap.size #[.int .i64 4,.string x.name,.slice A2 i c2,.slice A3 x.dirs.length c3,.slice A4 l4 c4,.slice A5 l5 c5,.slice A6 l6 c6] 45):=Lib.hid HX2.out
          go_wp2_with fail
          refine (zp2 x.members _ _ ((H5.out.kept HB3.out).mono HB3.out.size) HZ.out.2.2.1).mono ?_
          rintro e w6 ⟨rfl,hb⟩
          clear q0 q1 q2 q3 q4 q5 q6
          have HB4:=Lib.hid (HB3.out.trans (Below.mono hb HB3.out.size))
          have HX4:=Lib.hid (HX3.out.stay hb)
          clear hb
          have q0:=HX4.out.cell 0 _ rfl
          have q1:=HX4.out.cell 1 _ rfl
          have q2:=HX4.out.cell 2 _ rfl
          have q3:=HX4.out.cell 3 _ rfl
          have q4:=HX4.out.cell 4 _ rfl
          have q5:=HX4.out.cell 5 _ rfl
          have q6:=HX4.out.cell 6 _ rfl
          cases v:zf8 false x.members with
          | false =>
            have u6:=Lib.hid v
            clear v
            go_wp2_with fail
            go_ret
            exact ⟨by rw [HV2.out,HT2.out,u4.out,Bool.true_and,u5.out,Bool.true_and,u6.out,Bool.false_and]; rfl,HB4.out⟩
          | true =>
            have u6:=Lib.hid v
            clear v
            by_cases z7:l6 = 0
            ·skip
             have u7:Hid (decide (l6 = 0) = true):=Lib.hid (by simp [z7])
             have y7:((l6:Int) == 0) = true:=by rw [z7]; rfl
             have y7':decide (l6 = 0) = true:=by rw [z7]; rfl
             clear z7
             go_wp2_with fail
             go_ret
             exact ⟨by rw [HV2.out,HT2.out,u4.out,Bool.true_and,u5.out,Bool.true_and,u6.out,Bool.true_and,u7.out]; rfl,HB4.out⟩
            ·skip
             have u7:Hid (decide (l6 = 0) = false):=Lib.hid (by simp [z7])
             have y7:((l6:Int) == 0) = false:=by rw [beq_eq_false_iff_ne]; omega
             have y7':decide (l6 = 0) = false:=decide_eq_false z7
             clear z7
             go_wp2_with fail
             go_ret
             exact ⟨by rw [HV2.out,HT2.out,u4.out,Bool.true_and,u5.out,Bool.true_and,u6.out,Bool.true_and,u7.out]; rfl,HB4.out⟩
         ·skip
          have u5:Hid (decide (l4 = 0) = false):=Lib.hid (by simp [z5])
          have y5:((l4:Int) == 0) = false:=by rw [beq_eq_false_iff_ne]; omega
          have y5':decide (l4 = 0) = false:=decide_eq_false z5
          clear z5
          go_wp2_with fail
          go_quiet (fail)
          have HB3:Hid (Below w.heap.size w (wr.drewN nq)):=Lib.hid (_root_.Go.below_drewN HB2.out nq)
          have HX3:Hid (Bk (wr.drewN nq) w.heap.size #[.int .i64 4,.string x.name,.slice A2 i c2,.slice A3 x.dirs.length c3,.slice A4 l4 c4,.slice A5 l5 c5,.slice A6 l6 c6] 45):=Lib.hid HX2.out
          go_wp2_with fail
          go_ret
          exact ⟨by rw [HV2.out,HT2.out,u4.out,Bool.true_and,u5.out,Bool.false_and]; rfl,HB3.out⟩
        ·skip
         have u4:Hid (decide (i = 0) = false):=Lib.hid (by simp [z4])
         have y4:((i:Int) == 0) = false:=by rw [beq_eq_false_iff_ne]; omega
         have y4':decide (i = 0) = false:=decide_eq_false z4
         clear z4
         go_wp2_with fail
         go_quiet (fail)
         have HB3:Hid (Below w.heap.size w (wr.drewN nq)):=Lib.hid (_root_.Go.below_drewN HB2.out nq)
         have HX3:Hid (Bk (wr.drewN nq) w.heap.size #[.int .i64 4,.string x.name,.slice A2 i c2,.slice A3 x.dirs.length c3,.slice A4 l4 c4,.slice A5 l5 c5,.slice A6 l6 c6] 45):=Lib.hid HX2.out
         go_wp2_with fail
         go_ret
         exact ⟨by rw [HV2.out,HT2.out,u4.out,Bool.false_and]; rfl,HB3.out⟩
       by_cases k5:kd = 5
       ·skip
        have HT2:Hid (TB = _):=Lib.hid (HT.out.trans (by rw [if_neg k1,if_neg k2,if_neg k3,if_neg k4,if_pos k5]))
        subst k5
        clear k1 k2 k3 k4
        by_cases z4:i = 0
        ·skip
         have u4:Hid (decide (i = 0) = true):=Lib.hid (by simp [z4])
         have y4:((i:Int) == 0) = true:=by rw [z4]; rfl
         have y4':decide (i = 0) = true:=by rw [z4]; rfl
         clear z4
         by_cases z5:l4 = 0
         ·skip
          have u5:Hid (decide (l4 = 0) = true):=Lib.hid (by simp [z5])
          have y5:((l4:Int) == 0) = true:=by rw [z5]; rfl
          have y5':decide (l4 = 0) = true:=by rw [z5]; rfl
          clear z5
          by_cases z6:l5 = 0
          ·skip
           have u6:Hid (decide (l5 = 0) = true):=Lib.hid (by simp [z6])
           have y6:((l5:Int) == 0) = true:=by rw [z6]; rfl
           have y6':decide (l5 = 0) = true:=by rw [z6]; rfl
           clear z6
           by_cases z7:l6 = 0
           ·skip
            have u7:Hid (decide (l6 ≠ 0) = false):=Lib.hid (by simp [z7])
            have y7:((l6:Int) == 0) = true:=by rw [z7]; rfl
            have y7':decide (l6 = 0) = true:=by rw [z7]; rfl
            have yy7:¬ (l6:Int) > 0:=by omega
            clear z7
            go_wp2_with fail
            go_quiet (fail)
            have HB3:Hid (Below w.heap.size w (wr.drewN nq)):=Lib.hid (_root_.Go.below_drewN HB2.out nq)
            have HX3:Hid (Bk (wr.drewN nq) w.heap.size #[.int .i64 5,.string x.name,.slice A2 i c2,.slice A3 x.dirs.length c3,.slice A4 l4 c4,.slice A5 l5 c5,.slice A6 l6 c6] 45):=Lib.hid HX2.out
            go_wp2_with fail
            go_ret
            exact ⟨by rw [HV2.out,HT2.out,u4.out,Bool.true_and,u5.out,Bool.true_and,u6.out,Bool.true_and,u7.out,Bool.false_and]; rfl,HB3.out⟩
           ·skip
            have u7:Hid (decide (l6 ≠ 0) = true):=Lib.hid (by simp [z7])
            have y7:((l6:Int) == 0) = false:=by rw [beq_eq_false_iff_ne]; omega
            have y7':decide (l6 = 0) = false:=decide_eq_false z7
            have yy7:(l6:Int) > 0:=by omega
            clear z7
            go_wp2_with fail
            go_quiet (fail)
            have HB3:Hid (Below w.heap.size w (wr.drewN nq)):=Lib.hid (_root_.Go.below_drewN HB2.out nq)
            have HX3:Hid (Bk (wr.drewN nq) w.heap.size #[.int .i64 5,.string x.name,.slice A2 i c2,.slice A3 x.dirs.length c3,.slice A4 l4 c4,.slice A5 l5 c5,.slice A6 l6 c6] 45):=Lib.hid HX2.out
            go_wp2_with fail
            refine (zl8 x.inputs _ _ ((H6.out.kept HB3.out).mono HB3.out.size) HZ.out.2.2.2).mono ?_
            rintro e w6 ⟨rfl,hb⟩
            clear q0 q1 q2 q3 q4 q5 q6
            have HB4:=Lib.hid (HB3.out.trans (Below.mono hb HB3.out.size))
            have HX4:=Lib.hid (HX3.out.stay hb)
            clear hb
            have q0:=HX4.out.cell 0 _ rfl
            have q1:=HX4.out.cell 1 _ rfl
            have q2:=HX4.out.cell 2 _ rfl
            have q3:=HX4.out.cell 3 _ rfl
            have q4:=HX4.out.cell 4 _ rfl
            have q5:=HX4.out.cell 5 _ rfl
            have q6:=HX4.out.cell 6 _ rfl
            cases v:zg6 x.inputs with
            | false =>
              have u8:=Lib.hid v
              clear v
              go_wp2_with fail
              go_ret
              exact ⟨by rw [HV2.out,HT2.out,u4.out,Bool.true_and,u5.out,Bool.true_and,u6.out,Bool.true_and,u7.out,Bool.true_and,u8.out]; rfl,HB4.out⟩
            | true =>
              have u8:=Lib.hid v
              clear v
              go_wp2_with fail
              go_ret
              exact ⟨by rw [HV2.out,HT2.out,u4.out,Bool.true_and,u5.out,Bool.true_and,u6.out,Bool.true_and,u7.out,Bool.true_and,u8.out]; rfl,HB4.out⟩
          ·skip
           have u6:Hid (decide (l5 = 0) = false):=Lib.hid (by simp [z6])
           have y6:((l5:Int) == 0) = false:=by rw [beq_eq_false_iff_ne]; omega
           have y6':decide (l5 = 0) = false:=decide_eq_false z6
           clear z6
           go_wp2_with fail
           go_quiet (fail)
           have HB3:Hid (Below w.heap.size w (wr.drewN nq)):=Lib.hid (_root_.Go.below_drewN HB2.out nq)
           have HX3:Hid (Bk (wr.drewN nq) w.heap.size #[.int .i64 5,.string x.name,.slice A2 i c2,.slice A3 x.dirs.length c3,.slice A4 l4 c4,.slice A5 l5 c5,.slice A6 l6 c6] 45):=Lib.hid HX2.out
           go_wp2_with fail
           go_ret
           exact ⟨by rw [HV2.out,HT2.out,u4.out,Bool.true_and,u5.out,Bool.true_and,u6.out,Bool.false_and]; rfl,HB3.out⟩
         ·skip
          have u5:Hid (decide (l4 = 0) = false):=Lib.hid (by simp [z5])
          have y5:((l4:Int) == 0) = false:=by rw [beq_eq_false_iff_ne]; omega
          have y5':decide (l4 = 0) = false:=decide_eq_false z5
          clear z5
          go_wp2_with fail
          go_quiet (fail)
          have HB3:Hid (Below w.heap.size w (wr.drewN nq)):=Lib.hid (_root_.Go.below_drewN HB2.out nq)
          have HX3:Hid (Bk (wr.drewN nq) w.heap.size #[.int .i64 5,.string x.name,.slice A2 i c2,.slice A3 x.dirs.length c3,.slice A4 l4 c4,.slice A5 l5 c5,.slice A6 l6 c6] 45):=Lib.hid HX2.out
          go_wp2_with fail
          go_ret
          exact ⟨by rw [HV2.out,HT2.out,u4.out,Bool.true_and,u5.out,Bool.false_and]; rfl,HB3.out⟩
        ·skip
         have u4:Hid (decide (i = 0) = false):=Lib.hid (by simp [z4])
         have y4:((i:Int) == 0) = false:=by rw [beq_eq_false_iff_ne]; omega
         have y4':decide (i = 0) = false:=decide_eq_false z4
         clear z4
         go_wp2_with fail
         go_quiet (fail)
         have HB3:Hid (Below w.heap.size w (wr.drewN nq)):=Lib.hid (_root_.Go.below_drewN HB2.out nq)
         have HX3:Hid (Bk (wr.drewN nq) w.heap.size #[.int .i64 5,.string x.name,.slice A2 i c2,.slice A3 x.dirs.length c3,.slice A4 l4 c4,.slice A5 l5 c5,.slice A6 l6 c6] 45):=Lib.hid HX2.out
         go_wp2_with fail
         go_ret
         exact ⟨by rw [HV2.out,HT2.out,u4.out,Bool.false_and]; rfl,HB3.out⟩
       have HT2:Hid (TB = false):=Lib.hid (HT.out.trans (by rw [if_neg k1,if_neg k2,if_neg k3,if_neg k4,if_neg k5]))
       have j1:(kd == 1) = false:=by rw [beq_eq_false_iff_ne]; exact k1
       have j2:(kd == 2) = false:=by rw [beq_eq_false_iff_ne]; exact k2
       have j3:(kd == 3) = false:=by rw [beq_eq_false_iff_ne]; exact k3
       have j4:(kd == 4) = false:=by rw [beq_eq_false_iff_ne]; exact k4
       have j5:(kd == 5) = false:=by rw [beq_eq_false_iff_ne]; exact k5
       clear k1 k2 k3 k4 k5
       go_wp2_with fail
       go_quiet (fail)
       have HB3:Hid (Below w.heap.size w (wr.drewN nq)):=Lib.hid (_root_.Go.below_drewN HB2.out nq)
       go_wp2_with fail
       go_ret
       exact ⟨by rw [HV2.out,HT2.out]; rfl,HB3.out⟩
theorem zN7 (x:DefT) (f:Nat → Value) (w:World) (h:DefR w w.heap.size f x) (hz:dirsZ x.dirs ∧ fldsZ x.fields ∧ memsZ x.members ∧ inpsZ x.inputs) (cs:Array Value) (hc : #[f 0,f 1,f 2,f 3,f 4,f 5,f 6] = cs):Calls Tryz.prog 25 #[.agg cs] w (BP (zi0 x) w):=by
 subst hc
 exact zD8 x f w h hz
end Go.Proofs.YthjoelpfmimedaaGreatDoor
namespace Go.Proofs.YthjoelpfmimedaaGreatDoor
open Go.RowKit
set_option maxRecDepth 100000 in
set_option maxHeartbeats 8000000 in
theorem zV3 (xs:List DefT) (v:Value) (w:World) (h:DefsR w w.heap.size v xs) (hz:defsZ xs):Calls Tryz.prog 10 #[.agg #[v]] w (BP (ltB 1 64 xs zi0) w):=by
 have HZ:=Lib.hid hz
 clear hz
 have HV:Hid (ltB 1 64 xs zi0 = (decide (1 ≤ xs.length) && (decide (xs.length ≤ 64) && xs.all zi0))):=Lib.hid rfl
 generalize ltB 1 64 xs zi0 = RB at *
 obtain ⟨A,c,rfl,hc,hb,V,hA,hr⟩:=h
 have HA:=Lib.hid hA
 have HR:=Lib.hid hr
 unfold big at hb
 obtain ⟨len,hlen⟩ : ∃ len,len = xs.length:=⟨_,rfl⟩
 rw [← hlen] at HV HA hb ⊢
 have HL:=Lib.hid hlen
 clear hA hr hc hlen
 have hlm:(len:Int) ≤ 140737488351232:=by omega
 clear hb
 by_cases hz1:len < 1
 ·have hz2:(len:Int) < 1:=by omega
  have HV2:Hid (RB = false):=Lib.hid (by rw [HV.out,decide_eq_false (by omega)]; rfl)
  clear hz1
  go_enter Tryz.func10, Tryz.ntmps10
  go_wp2_with fail
  go_ret
  exact ⟨by rw [HV2.out]; rfl,za0 _ _⟩
 have hz2:¬ (len:Int) < 1:=by omega
 by_cases hg:64 < len
 ·have hg2:(len:Int) > 64:=by omega
  have HV2:Hid (RB = false):=Lib.hid (by rw [HV.out,decide_eq_false (by omega:¬ len ≤ 64)]; simp)
  clear hg
  go_enter Tryz.func10, Tryz.ntmps10
  go_wp2_with fail
  go_ret
  exact ⟨by rw [HV2.out]; rfl,za0 _ _⟩
 have hg2:¬ (len:Int) > 64:=by omega
 have HV2:Hid (RB = xs.all zi0):=Lib.hid (by rw [HV.out,decide_eq_true (by omega:1 ≤ len),decide_eq_true (by omega:len ≤ 64)]; rfl)
 have HBD:Hid (Below w.heap.size w (w.alloc (.cells #[.slice A len c] 24 (0,0)))):=Lib.hid (za0 _ _)
 have HXD:Hid (Bk (w.alloc (.cells #[.slice A len c] 24 (0,0))) w.heap.size #[.slice A len c] 24):=Lib.hid (Bk.new _ _ _)
 go_enter Tryz.func10, Tryz.ntmps10
 go_wp2_with fail
 clear hg hg2 hz1 hz2
 go_loopw [3] (fun u wr => ∃ i:Nat,i ≤ len ∧ u = .int .i64 i ∧ Hid ((∀ (j:Nat) (y:DefT),j < i → xs[j]? = some y → zi0 y = true) ∧ Below w.heap.size w wr ∧ Bk wr w.heap.size #[.slice A len c] 24)) (fun u _ => len - (intOf u).toNat)
 case atStart => exact ⟨0,Nat.zero_le _,rfl,Lib.hid ⟨fun _ _ h => absurd h (Nat.not_lt_zero _),HBD.out,HXD.out⟩⟩
 case round =>
  obtain ⟨i,hi,rfl,hr⟩:=hrel
  have qd:=hr.out.2.2.cell 0 _ rfl
  by_cases hlt:i < len
  ·skip
   have hlt':(i:Int) < len:=by omega
   obtain ⟨a,rfl,ha,hcell⟩:=HA.out (by omega)
   have hcell:=hcell i hlt
   obtain ⟨x,hx⟩ : ∃ x,xs[i]? = some x:=⟨_,List.getElem?_eq_getElem (by have:=HL.out; omega)⟩
   have hrx:=HR.out i x hx
   obtain ⟨A2,c2,e2,_,_⟩:=hrx.impl.form
   obtain ⟨A3,c3,e3,_,_⟩:=hrx.dirs.form
   obtain ⟨A4,c4,e4,_,_⟩:=hrx.fields.form
   obtain ⟨A5,c5,e5,_,_⟩:=hrx.members.form
   obtain ⟨A6,c6,e6,_,_⟩:=hrx.inputs.form
   have e0:=hrx.kind
   have e1:=hrx.name
   have HCE:Hid (∀ W:World,Below w.heap.size w W → W.cell? (a.add (i * 7)) = some (.int .i64 x.kind) ∧ W.cell? ⟨(a.add (i * 7)).block,(a.add (i * 7)).off + 1,none⟩ = some (.string x.name) ∧ W.cell? ⟨(a.add (i * 7)).block,(a.add (i * 7)).off + 2,none⟩ = some (.slice A2 x.impl.length c2) ∧ W.cell? ⟨(a.add (i * 7)).block,(a.add (i * 7)).off + 3,none⟩ = some (.slice A3 x.dirs.length c3) ∧ W.cell? ⟨(a.add (i * 7)).block,(a.add (i * 7)).off + 4,none⟩ = some (.slice A4 x.fields.length c4) ∧ W.cell? ⟨(a.add (i * 7)).block,(a.add (i * 7)).off + 5,none⟩ = some (.slice A5 x.members.length c5) ∧ W.cell? ⟨(a.add (i * 7)).block,(a.add (i * 7)).off + 6,none⟩ = some (.slice A6 x.inputs.length c6)):=Lib.hid fun W hW => by
    have hh:∀ j,j < 7 → W.cell? (at_ (a.add (i * 7)) j) = some (V i j):=fun j hj => (hW.cell (by rw [zb6,za1]; exact ha)).trans (hcell j hj)
    exact ⟨(hh 0 (by omega)).trans (congrArg some e0),(hh 1 (by omega)).trans (congrArg some e1),(hh 2 (by omega)).trans (congrArg some e2),(hh 3 (by omega)).trans (congrArg some e3),(hh 4 (by omega)).trans (congrArg some e4),(hh 5 (by omega)).trans (congrArg some e5),(hh 6 (by omega)).trans (congrArg some e6)⟩
   have HF:=Lib.hid hrx
   have hff : #[V i 0,V i 1,V i 2,V i 3,V i 4,V i 5,V i 6] = #[.int .i64 x.kind,.string x.name,.slice A2 x.impl.length c2,.slice A3 x.dirs.length c3,.slice A4 x.fields.length c4,.slice A5 x.members.length c5,.slice A6 x.inputs.length c6]:=by rw [e0,e1,e2,e3,e4,e5,e6]
   replace hff:=Lib.hid hff
   have HZX:=Lib.hid (HZ.out x (List.mem_of_getElem? hx))
   have HPX:Hid (zi0 x = (zi0 x && true)):=Lib.hid (Bool.and_true _).symm
   have HX:=Lib.hid hx
   have HB0:=Lib.hid hr.out.2.1
   clear hcell hrx hx e0 e1 e2 e3 e4 e5 e6
   obtain ⟨k0,k1,k2,k3,k4,k5,k6⟩:=HCE.out _ HB0.out
   go_wp2_with fail
   refine (zN7 x (V i) _ (DefR.stays.mono (DefR.stays.kept HF.out HB0.out) HB0.out.size) HZX.out _ hff.out).mono ?_
   rintro e w2 ⟨rfl,hb⟩
   clear k0 k1 k2 k3 k4 k5 k6
   have HB1:=Lib.hid (HB0.out.trans (Below.mono hb HB0.out.size))
   have HXX:=Lib.hid (hr.out.2.2.stay hb)
   clear hb qd
   cases v:zi0 x with
   | false =>
     have v0:=Lib.hid v
     clear v
     go_wp2_with fail
     go_ret
     exact ⟨by rw [HV2.out,zb0 HX.out (by rw [HPX.out,v0.out,Bool.false_and])]; rfl,HB1.out⟩
   | true =>
     have v0:=Lib.hid v
     clear v
     go_wp2_with fail
     go_roundw
     case rel => exact ⟨i + 1,by omega,by simp,Lib.hid ⟨ze9 hr.out.1 HX.out (by rw [HPX.out,v0.out,Bool.true_and]),HB1.out,HXX.out⟩⟩
     case measure => simp [intOf]; omega
  ·have:i = len:=by omega
   subst this
   have HVT:Hid (RB = true):=Lib.hid (by rw [HV2.out]; exact zi5 fun j y h1 h2 => hr.out.1 j y (by have:=HL.out; omega) h2)
   go_wp2_with fail
   go_ret
   exact ⟨by rw [HVT.out]; rfl,hr.out.2.1⟩
end Go.Proofs.YthjoelpfmimedaaGreatDoor
namespace Go.Proofs.YthjoelpfmimedaaGreatDoor.K
open Go.RowKit
theorem esc_pos:∀ c:UInt8,1 ≤ (T1.escL c).length:=zh7 (by decide +kernel)
theorem yf9:∀ t:List UInt8,t.length ≤ (t.flatMap T1.escL).length
 | [] => Nat.le_refl _
 | c :: t => by
   have h1:=esc_pos c
   have h2:=yf9 t
   rw [List.flatMap_cons,List.length_append,List.length_cons]; omega
theorem word_ge (p:Tk):p.2.1.length ≤ (wordK p).length:=by
 unfold wordK
 split
 ·have:=yf9 p.2.1
  unfold T1.ze3
  simp only [List.length_cons,List.length_append,List.length_nil]; omega
 ·exact Nat.le_refl _
theorem zZ5:∀ (ps:List Tk) (p:Tk),p ∈ ps → (wordK p).length ≤ (tailK ps).length
 | [],_,h => by simp at h
 | q :: r,p,h => by
   show _ ≤ (32 :: (wordK q ++ tailK r)).length
   rw [List.length_cons,List.length_append]
   rcases List.mem_cons.1 h with rfl | h
   ·omega
   ·have:=zZ5 r p h; omega
theorem zN1 {l:List UInt8} {ts:List Tk} (hl:l.length ≤ 9000) (h:scR l = .ok ts):ZOk (tz ts) ∧ ts.length ≤ 9001:=by
 unfold scR at h
 rw [if_neg (by omega)] at h
 obtain ⟨ps,rfl,h1,_⟩:=zk1 l _ 0 l ts h rfl (Nat.zero_le _)
 obtain ⟨g1,g2,g3⟩:=zt9 _ _ _ _ ps _ h rfl
 refine ⟨⟨by rw [zH4,List.length_append]; show ps.length + 1 ≤ _; omega, ?_⟩,by rw [List.length_append]; show ps.length + 1 ≤ _; omega⟩
 intro q hq
 unfold tz at hq
 obtain ⟨p,hp,rfl⟩:=List.mem_map.1 hq
 show p.2.1.length ≤ 70000
 rcases List.mem_append.1 hp with hp | hp
 ·have:=word_ge p
  have:=zZ5 ps p hp
  omega
 ·simp at hp; subst hp; exact Nat.zero_le _
end Go.Proofs.YthjoelpfmimedaaGreatDoor.K
namespace Go.Proofs.YthjoelpfmimedaaGreatDoor
open Go.RowKit
theorem zo4 {α:Type} {a b:Int} {l:List α} {P : α → Bool} (h:inB a b l P = true):∀ x ∈ l,P x = true:=by
 unfold inB at h
 simp only [Bool.and_eq_true] at h
 exact List.all_eq_true.1 h.2
theorem yb6 {lit:Bool} {t:VT} (h:zc0 lit t = true):t.size ≤ 1000000:=by
 unfold zc0 at h
 simp only [Bool.and_eq_true,decide_eq_true_eq] at h
 omega
theorem zT4 {l:List DirT} (h:zh5 l = true):dirsZ l:=fun d hd a ha => by
 have h1:=zo4 h d hd
 unfold dirOk at h1
 simp only [Bool.and_eq_true] at h1
 have h2:=zo4 h1.2 a ha
 unfold argOk litOk at h2
 simp only [Bool.and_eq_true] at h2
 exact yb6 h2.2.1
theorem inp_z {x:InpT} (h:inpOk x = true):x.dflt.size ≤ 1000000 ∧ dirsZ x.dirs:=by
 unfold inpOk at h
 simp only [Bool.and_eq_true] at h
 refine ⟨?_,zT4 h.2.2.2⟩
 have:=h.2.2.1
 unfold dflOk litOk at this
 split at this <;> simp only [Bool.and_eq_true] at this <;> exact yb6 this.2
theorem fld_z {x:FldT} (h:fldOk x = true):inpsZ x.args ∧ dirsZ x.dirs:=by
 unfold fldOk at h
 simp only [Bool.and_eq_true] at h
 exact ⟨fun y hy => inp_z (zo4 h.2.1 y hy),zT4 h.2.2.2⟩
theorem mem_u {x:MemT} (h:zd4 x = true):dirsZ x.dirs:=by
 unfold zd4 at h
 simp only [Bool.and_eq_true,decide_eq_true_eq] at h
 rw [List.length_eq_zero_iff.1 h.2]
 exact fun d hd => by cases hd
theorem mem_e {x:MemT} (h:zi1 x = true):dirsZ x.dirs:=by
 unfold zi1 at h
 simp only [Bool.and_eq_true] at h
 exact zT4 h.2
theorem zw6 {im f m i mf mm mi:Int} {pm:MemT → Bool} {d:DefT} (hp:∀ x,pm x = true → dirsZ x.dirs) (h:zk5 im f m i mf mm mi pm d = true):fldsZ d.fields ∧ memsZ d.members ∧ inpsZ d.inputs:=by
 unfold zk5 at h
 simp only [Bool.and_eq_true] at h
 exact ⟨fun x hx => fld_z (zo4 h.2.1 x hx),fun x hx => hp x (zo4 h.2.2.1 x hx),fun x hx => inp_z (zo4 h.2.2.2 x hx)⟩
theorem doc_z {l:List DefT} (h:docOk l = true):defsZ l:=fun x hx => by
 have h1:=zo4 h x hx
 unfold defOk at h1
 simp only [Bool.and_eq_true] at h1
 have h2:=h1.2.2
 unfold zb5 at h2
 refine ⟨zT4 h1.2.1, ?_⟩
 split at h2
 ·exact zw6 (fun _ => mem_u) h2
 split at h2
 ·exact zw6 (fun _ => mem_u) h2
 split at h2
 ·exact zw6 (fun _ => mem_u) h2
 split at h2
 ·exact zw6 (fun _ => mem_e) h2
 split at h2
 ·exact zw6 (fun _ => mem_u) h2
 ·cases h2
end Go.Proofs.YthjoelpfmimedaaGreatDoor
namespace Go.Proofs.YthjoelpfmimedaaGreatDoor.K
open Go.RowKit
theorem infoR:(Tryz.prog.info? 76).map (fun i => (i.zero,i.size,i.bytes)) = some (some (.agg #[.int .i64 0,.string ⟨#[]⟩,.int .i64 0]),3,32):=by kernel_rfl
theorem zT9 {w:World} {ops:Array Oper} {rest:List Oper} {o:Oper} {a:Act} {Q:Exit → Act → World → Prop} (hgd:o.guard = none) (s x:Operand)
  (ho:o.op = .call { callee:=.builtin .append,args:=#[s,x],argTypes:=#[31, 31] }) (base:Nat) (v:Value) (zs:List Tz) (hs:a.eval s = v) (hown:OwnZ 76 w base v zs)
  (ad:Addr) (c:Nat) (p:Tz) (hx:a.eval x = .slice (some ad) 1 c) (hnews:∀ j u,(zC [p])[j]? = some u → w.cell? (ad.add j) = some u)
  (hlen:zs.length + 1 ≤ 1099511627776) (hbase:base ≤ w.heap.size)
  (h:∀ v' w',OwnZ 76 w' base v' (zs ++ [p]) → w.grownBy w' v.ownBlock → wpList Tryz.prog ops Q rest (a.put o.dst v') w'):wpList Tryz.prog ops Q (o :: rest) a w:=by
 obtain ⟨i0,hi,hz0,hz1,hz2⟩:=info_parts infoR
 refine wpList_append_own w hgd s x 31 ho base 76 i0 (.agg #[.int .i64 0,.string ⟨#[]⟩,.int .i64 0]) 3 32 Tryz.underlying31 hi hz0 hz1 hz2 rfl (by decide) v zs.length (zC zs) hs hown ad 1 c (zC [p]) hx rfl hnews ?_ (by unfold maxLen; omega) (by omega) hbase ?_
 ·intro u hu
  simp [zC] at hu
  rcases hu with rfl | rfl | rfl <;> rfl
 ·intro v' w' h1 h2 _
  refine h v' w' ?_ h2
  unfold OwnZ
  rw [List.length_append,zC_app]
  exact h1
end Go.Proofs.YthjoelpfmimedaaGreatDoor.K
namespace Go.Proofs.YthjoelpfmimedaaGreatDoor.K
open Go.RowKit
theorem zE7 (ws:List (List UInt8)) (x:List UInt8):Lib.joinTail [32] (ws ++ [x]) = Lib.joinTail [32] ws ++ ([32] ++ x):=by
 unfold Lib.joinTail; simp
theorem yf3 (ws:List (List UInt8)) (x:List UInt8):Lib.join (ws ++ [x]) [32] = if ws = [] then x else Lib.join ws [32] ++ [32] ++ x:=by
 cases ws with
 | nil => rw [if_pos rfl]; exact Lib.join_one x [32]
 | cons y r =>
   rw [if_neg (by simp),List.cons_append,Lib.join_cons,zE7,Lib.join_cons]
   simp [List.append_assoc]
theorem ZOk.take {zs:List Tz} (h:ZOk zs) (k:Nat):ZOk (zs.take k):=⟨by have:=h.len; rw [List.length_take]; omega,fun p hp => h.txt p (List.mem_of_mem_take hp)⟩
set_option maxRecDepth 100000 in
set_option maxHeartbeats 4000000 in
theorem zA8 (zs:List Tz) (hz:ZOk zs) (A:Option Addr) (c:Nat) (w:World) (h:ZAt w w.heap.size A zs):Calls Tryz.prog 14 #[.slice A zs.length c] w fun e w' => e = .returned (.string ⟨(joinZ zs).toArray⟩) ∧ Below w.heap.size w w':=by
 have HA:=Lib.hid h
 have HZ:=Lib.hid hz
 have hlen:=hz.len
 clear h hz
 go_enter Tryz.func14, Tryz.ntmps14
 go_wp2_with fail
 go_loopw [3,4,5] (fun v f i wr => ∃ (k:Nat) (a:List UInt8),i = .int .i64 k ∧ k ≤ zs.length ∧ v = .string ⟨a.toArray⟩ ∧ f = .bool (decide (ze2 (zs.take k) = [])) ∧ a = joinZ (zs.take k) ∧ Below w.heap.size w wr) (fun _ _ i _ => zs.length - (intOf i).toNat)
 case atStart => exact ⟨0,[],rfl,Nat.zero_le _,rfl,rfl,rfl,Below.refl _ _⟩
 case round =>
  obtain ⟨k,a,rfl,hk,rfl,rfl,hja,hb⟩:=hrel
  have HB:=Lib.hid hb
  have hal:a.length ≤ 100000000000:=by rw [hja]; exact (HZ.out.take k).join
  have HJA:=Lib.hid hja
  clear hja
  by_cases hlt:k < zs.length
  ·obtain ⟨ad,kd,t,at',rfl,hp,h0,h1,h2⟩:=z_round HA.out hb hlt
   have hlt':(k:Int) < zs.length:=by omega
   have HW:=Lib.hid (zM3 zs k _ hp)
   have htx:t.length ≤ 70000:=HZ.out.txt _ (List.mem_of_getElem? hp)
   clear hp hb
   by_cases h5:kd = 5
   ·subst h5
    have HW1:Hid (ze2 (zs.take (k + 1)) = ze2 (zs.take k)):=Lib.hid (by rw [HW.out]; simp)
    have HJ1:Hid (joinZ (zs.take (k + 1)) = joinZ (zs.take k)):=Lib.hid (by unfold joinZ; rw [HW1.out])
    clear HW
    obtain ⟨fb,hfb⟩ : ∃ fb,decide (ze2 (zs.take k) = []) = fb:=⟨_,rfl⟩
    rw [hfb]
    have HFB:=Lib.hid hfb
    clear hfb
    go_wp2_with fail
    go_roundw
    case rel => exact ⟨k + 1,a,by go_num,by omega,rfl,by rw [HW1.out,HFB.out],by rw [HJ1.out]; exact HJA.out,HB.out⟩
    case measure => simp [intOf]; omega
   ·have n5:(kd == 5) = false:=beq_false_of_ne h5
    have HW1:Hid (ze2 (zs.take (k + 1)) = ze2 (zs.take k) ++ [wordZ (kd,t,at')]):=Lib.hid (by rw [HW.out]; exact congrArg _ (if_neg h5))
    have HJ1:Hid (joinZ (zs.take (k + 1)) = if ze2 (zs.take k) = [] then wordZ (kd,t,at') else joinZ (zs.take k) ++ [32] ++ wordZ (kd,t,at')):=Lib.hid (by unfold joinZ; rw [HW1.out,yf3])
    have HF:Hid (decide (ze2 (zs.take (k + 1)) = []) = false):=Lib.hid (decide_eq_false (by rw [HW1.out]; simp))
    have hwl:=zQ5 (kd,t,at') 70000 htx
    clear HW HW1 h5
    by_cases hf:ze2 (zs.take k) = []
    ·have d1:decide (ze2 (zs.take k) = []) = true:=decide_eq_true hf
     have HJ2:=Lib.hid (HJ1.out.trans (if_pos hf))
     have ha0:a = []:=by rw [HJA.out]; unfold joinZ; rw [hf]; rfl
     subst ha0
     rw [d1]
     clear HJ1 hf d1 HJA
     by_cases h4:kd = 4
     ·subst h4
      have e8:wordZ (4,t,at') = T1.ze3 t:=rfl
      rw [e8] at HJ2 hwl
      have CALL:=Lib.hid (T1.zA7 ⟨t.toArray⟩)
      have hadd:=fun w => T1.add_L w [] (T1.ze3 t) (by simp; omega)
      have hts:(⟨t.toArray⟩ : ByteArray).size ≤ 137438953472:=by rw [← T1.size_eq]; show t.toArray.toList.length ≤ _; simp; omega
      go_wp2_with fail
      refine (CALL.out _ (Nat.le_trans hts (by decide))).mono ?_
      rintro e w1 ⟨rfl,hb1⟩
      have HB1:=Lib.hid (HB.out.trans (hb1.mono HB.out.size))
      clear hb1 hts CALL
      go_wp2_with fail
      go_roundw
      case rel => exact ⟨k + 1,T1.ze3 t,by go_num,by omega,rfl,by rw [HF.out],HJ2.out.symm,HB1.out⟩
      case measure => simp [intOf]; omega
     ·have n4:(kd == 4) = false:=beq_false_of_ne h4
      have e8:wordZ (kd,t,at') = t:=if_neg h4
      rw [e8] at HJ2
      have hadd:=fun w => T1.add_L w [] t (by simp; omega)
      clear h4 e8
      go_wp2_with fail
      go_roundw
      case rel => exact ⟨k + 1,t,by go_num,by omega,rfl,by rw [HF.out],HJ2.out.symm,HB.out⟩
      case measure => simp [intOf]; omega
    ·have d1:decide (ze2 (zs.take k) = []) = false:=decide_eq_false hf
     have HJ2:=Lib.hid (HJ1.out.trans (if_neg hf))
     rw [← HJA.out,List.append_assoc,List.singleton_append] at HJ2
     rw [d1]
     have hadd0:=fun w => T1.add_L w a [32] (by simp; omega)
     clear HJ1 hf d1 HJA
     by_cases h4:kd = 4
     ·subst h4
      have e8:wordZ (4,t,at') = T1.ze3 t:=rfl
      rw [e8] at HJ2 hwl
      have CALL:=Lib.hid (T1.zA7 ⟨t.toArray⟩)
      have hadd:=fun w => T1.add_L w (a ++ [32]) (T1.ze3 t) (by simp; omega)
      have hts:(⟨t.toArray⟩ : ByteArray).size ≤ 137438953472:=by rw [← T1.size_eq]; show t.toArray.toList.length ≤ _; simp; omega
      go_wp2_with fail
      refine (CALL.out _ (Nat.le_trans hts (by decide))).mono ?_
      rintro e w1 ⟨rfl,hb1⟩
      have HB1:=Lib.hid (HB.out.trans (hb1.mono HB.out.size))
      clear hb1 hts CALL
      go_wp2_with fail
      go_roundw
      case rel => exact ⟨k + 1,a ++ 32 :: T1.ze3 t,by go_num,by omega,rfl,by rw [HF.out],HJ2.out.symm,HB1.out⟩
      case measure => simp [intOf]; omega
     ·have n4:(kd == 4) = false:=beq_false_of_ne h4
      have e8:wordZ (kd,t,at') = t:=if_neg h4
      rw [e8] at HJ2
      have hadd:=fun w => T1.add_L w (a ++ [32]) t (by simp; omega)
      clear h4 e8
      go_wp2_with fail
      go_roundw
      case rel => exact ⟨k + 1,a ++ 32 :: t,by go_num,by omega,rfl,by rw [HF.out],HJ2.out.symm,HB.out⟩
      case measure => simp [intOf]; omega
  ·have hji:k = zs.length:=by omega
   have hlt':¬ (k:Int) < zs.length:=by omega
   have HJ1:Hid (a = joinZ zs):=Lib.hid (by rw [HJA.out,hji,List.take_length])
   clear hji hb
   generalize decide (ze2 (zs.take k) = []) = fb at *
   go_wp2_with fail
   go_ret
   exact ⟨by rw [HJ1.out]; rfl,HB.out⟩
end Go.Proofs.YthjoelpfmimedaaGreatDoor.K
