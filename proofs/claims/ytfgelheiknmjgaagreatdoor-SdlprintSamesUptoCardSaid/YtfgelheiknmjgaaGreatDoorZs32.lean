
/-
 Texts joined: D6 D7 W4.
-/
import Derived.Test.YtfgelheiknmjgaaGreatDoorZs31
import Derived.Test.YtfgelheiknmjgaaGreatDoorZs28
namespace Go.Proofs.YtfgelheiknmjgaaGreatDoor
open Go.RowKit
def zq4 (x:DefT):Bool :=
 if x.kind = 1 then zg5 x.fields && (decide (x.members.length = 0) && decide (x.inputs.length = 0))
 else if x.kind = 2 then decide (x.impl.length = 0) && (zg5 x.fields && (decide (x.members.length = 0) && decide (x.inputs.length = 0)))
 else if x.kind = 3 then decide (x.impl.length = 0) && (decide (x.fields.length = 0) && (ze1 true x.members && decide (x.inputs.length = 0)))
 else if x.kind = 4 then decide (x.impl.length = 0) && (decide (x.fields.length = 0) && (ze1 false x.members && decide (x.inputs.length = 0)))
 else if x.kind = 5 then decide (x.impl.length = 0) && (decide (x.fields.length = 0) && (decide (x.members.length = 0) && (decide (x.inputs.length ≠ 0) && ze7 x.inputs)))
 else false
def zb9 (x:DefT):Bool:=nmA x.name && (zb6 x.dirs && (decide (x.impl.length ≤ 64) && (x.impl.all nmA && zq4 x)))
def defsZ (l:List DefT):Prop:=∀ x ∈ l,dirsZ x.dirs ∧ fldsZ x.fields ∧ memsZ x.members ∧ inpsZ x.inputs
set_option maxRecDepth 100000 in
set_option maxHeartbeats 16000000 in
theorem zx1 (x:DefT) (f:Nat → Value) (w:World) (h:DefR w w.heap.size f x) (hz:dirsZ x.dirs ∧ fldsZ x.fields ∧ memsZ x.members ∧ inpsZ x.inputs):Calls Tryz.prog 23 #[.agg #[f 0,f 1,f 2,f 3,f 4,f 5,f 6]] w (BP (zb9 x) w):=by
 obtain ⟨A2,c2,e2,hc2,hb2,V2,hA2,hR2⟩:=h.impl
 obtain ⟨A3,c3,e3,_,_⟩:=h.dirs.form
 obtain ⟨A4,c4,e4,_,hb4⟩:=h.fields.form
 obtain ⟨A5,c5,e5,_,hb5⟩:=h.members.form
 obtain ⟨A6,c6,e6,_,hb6⟩:=h.inputs.form
 have H3:=h.dirs
 have H4:=h.fields
 have H5:=h.members
 have H6:=h.inputs
 rw [e3] at H3
 rw [e4] at H4
 rw [e5] at H5
 rw [e6] at H6
 rw [h.kind,h.name,e2,e3,e4,e5,e6]
 replace H3:=Lib.hid H3
 have HN:=Lib.hid h.size
 have HZ:=Lib.hid hz
 unfold big at hb2 hb4 hb5 hb6
 have m2:(x.impl.length:Int) ≤ 140737488351232:=by omega
 have m4:(x.fields.length:Int) ≤ 140737488351232:=by omega
 have m5:(x.members.length:Int) ≤ 140737488351232:=by omega
 have m6:(x.inputs.length:Int) ≤ 140737488351232:=by omega
 clear e2 e3 e4 e5 e6 h hz hb2 hb4 hb5 hb6 hc2
 have HV:Hid (zb9 x = (nmA x.name && (zb6 x.dirs && (decide (x.impl.length ≤ 64) && (x.impl.all nmA && zq4 x))))):=Lib.hid rfl
 have HT:Hid (zq4 x = if x.kind = 1 then zg5 x.fields && (decide (x.members.length = 0) && decide (x.inputs.length = 0))
  else if x.kind = 2 then decide (x.impl.length = 0) && (zg5 x.fields && (decide (x.members.length = 0) && decide (x.inputs.length = 0)))
  else if x.kind = 3 then decide (x.impl.length = 0) && (decide (x.fields.length = 0) && (ze1 true x.members && decide (x.inputs.length = 0)))
  else if x.kind = 4 then decide (x.impl.length = 0) && (decide (x.fields.length = 0) && (ze1 false x.members && decide (x.inputs.length = 0)))
  else if x.kind = 5 then decide (x.impl.length = 0) && (decide (x.fields.length = 0) && (decide (x.members.length = 0) && (decide (x.inputs.length ≠ 0) && ze7 x.inputs)))
  else false):=Lib.hid rfl
 generalize zb9 x = RB at *
 generalize zq4 x = TB at *
 obtain ⟨l2,h2⟩ : ∃ l2,l2 = x.impl.length:=⟨_,rfl⟩
 obtain ⟨l4,h4⟩ : ∃ l4,l4 = x.fields.length:=⟨_,rfl⟩
 obtain ⟨l5,h5⟩ : ∃ l5,l5 = x.members.length:=⟨_,rfl⟩
 obtain ⟨l6,h6⟩ : ∃ l6,l6 = x.inputs.length:=⟨_,rfl⟩
 rw [← h2] at HV HT m2 hA2 ⊢
 rw [← h4] at HT m4 H4 ⊢
 rw [← h5] at HT m5 H5 ⊢
 rw [← h6] at HT m6 H6 ⊢
 generalize x.kind = kd at *
 replace H4:=Lib.hid H4
 replace H5:=Lib.hid H5
 replace H6:=Lib.hid H6
 have HA2:=Lib.hid hA2
 have HR2:=Lib.hid hR2
 have HL2:=Lib.hid h2
 clear h4 h5 h6 h2 hA2 hR2
 have HB0:Hid (Below w.heap.size w (w.alloc (.cells #[.int .i64 kd,.string x.name,.slice A2 l2 c2,.slice A3 x.dirs.length c3,.slice A4 l4 c4,.slice A5 l5 c5,.slice A6 l6 c6] 39 (0,0)))):=Lib.hid (za0 _ _)
 have HX0:Hid (Bk (w.alloc (.cells #[.int .i64 kd,.string x.name,.slice A2 l2 c2,.slice A3 x.dirs.length c3,.slice A4 l4 c4,.slice A5 l5 c5,.slice A6 l6 c6] 39 (0,0))) w.heap.size #[.int .i64 kd,.string x.name,.slice A2 l2 c2,.slice A3 x.dirs.length c3,.slice A4 l4 c4,.slice A5 l5 c5,.slice A6 l6 c6] 39):=Lib.hid (Bk.new _ _ _)
 go_enter Tryz.func23, Tryz.ntmps23
 go_wp2_with fail
 refine (zk6 x.name _ HN.out).mono ?_
 rintro e w1 ⟨rfl,rfl⟩
 cases v:nmA x.name with
 | false =>
   have v0:=Lib.hid v
   clear v
   go_wp2_with fail
   go_ret
   exact ⟨by rw [HV.out,v0.out,Bool.false_and]; rfl,HB0.out⟩
 | true =>
   have v0:=Lib.hid v
   clear v
   have q0:=HX0.out.cell 0 _ rfl
   have q1:=HX0.out.cell 1 _ rfl
   have q2:=HX0.out.cell 2 _ rfl
   have q3:=HX0.out.cell 3 _ rfl
   have q4:=HX0.out.cell 4 _ rfl
   have q5:=HX0.out.cell 5 _ rfl
   have q6:=HX0.out.cell 6 _ rfl
   go_wp2_with fail
   refine (ze3 x.dirs _ _ ((H3.out.kept HB0.out).mono HB0.out.size) HZ.out.1).mono ?_
   rintro e w2 ⟨rfl,hb⟩
   clear q0 q1 q2 q3 q4 q5 q6
   have HB1:=Lib.hid (HB0.out.trans (Below.mono hb HB0.out.size))
   have HX1:=Lib.hid (HX0.out.stay hb)
   clear hb
   have q0:=HX1.out.cell 0 _ rfl
   have q1:=HX1.out.cell 1 _ rfl
   have q2:=HX1.out.cell 2 _ rfl
   have q3:=HX1.out.cell 3 _ rfl
   have q4:=HX1.out.cell 4 _ rfl
   have q5:=HX1.out.cell 5 _ rfl
   have q6:=HX1.out.cell 6 _ rfl
   cases v:zb6 x.dirs with
   | false =>
     have v1:=Lib.hid v
     clear v
     go_wp2_with fail
     go_ret
     exact ⟨by rw [HV.out,v0.out,Bool.true_and,v1.out,Bool.false_and]; rfl,HB1.out⟩
   | true =>
     have v1:=Lib.hid v
     clear v
     by_cases hg1:64 < l2
     ·have hg3:(l2:Int) > 64:=by omega
      have v2:Hid (decide (l2 ≤ 64) = false):=Lib.hid (decide_eq_false (by omega))
      clear hg1
      go_wp2_with fail
      go_ret
      exact ⟨by rw [HV.out,v0.out,Bool.true_and,v1.out,Bool.true_and,v2.out,Bool.false_and]; rfl,HB1.out⟩
     have hg3:¬ (l2:Int) > 64:=by omega
     have v2:Hid (decide (l2 ≤ 64) = true):=Lib.hid (decide_eq_true (by omega))
     clear hg1
     go_wp2_with fail
     clear hg3
     clear q0 q1 q2 q3 q4 q5 q6
     go_loopw [3] (fun u wr => ∃ i:Nat,i ≤ l2 ∧ u = .int .i64 i ∧ Hid ((∀ (j:Nat) (y:ByteArray),j < i → x.impl[j]? = some y → nmA y = true) ∧ Below w.heap.size w wr ∧ Bk wr w.heap.size #[.int .i64 kd,.string x.name,.slice A2 l2 c2,.slice A3 x.dirs.length c3,.slice A4 l4 c4,.slice A5 l5 c5,.slice A6 l6 c6] 39)) (fun u _ => l2 - (intOf u).toNat)
     case atStart => exact ⟨0,Nat.zero_le _,rfl,Lib.hid ⟨fun _ _ h => absurd h (Nat.not_lt_zero _),HB1.out,HX1.out⟩⟩
     case round =>
      obtain ⟨i,hi,rfl,hr⟩:=hrel
      have HB2:=Lib.hid hr.out.2.1
      have HX2:=Lib.hid hr.out.2.2
      have q0:=HX2.out.cell 0 _ rfl
      have q1:=HX2.out.cell 1 _ rfl
      have q2:=HX2.out.cell 2 _ rfl
      have q3:=HX2.out.cell 3 _ rfl
      have q4:=HX2.out.cell 4 _ rfl
      have q5:=HX2.out.cell 5 _ rfl
      have q6:=HX2.out.cell 6 _ rfl
      by_cases hlt:i < l2
      ·have hlt':(i:Int) < l2:=by omega
       obtain ⟨a,ea,ha,hcell⟩:=HA2.out (by omega)
       subst ea
       obtain ⟨y,hy⟩ : ∃ y,x.impl[i]? = some y:=⟨_,List.getElem?_eq_getElem (by have:=HL2.out; omega)⟩
       have hry:=HR2.out i y hy
       have k0:wr.cell? (a.add i) = some (.string y):=by
        have h1:=((HB2.out.cell (by rw [za7,za1]; exact ha)).trans (hcell i hlt 0 (by omega))).trans (congrArg some hry.1)
        simpa [at_] using h1
       have HNY:=Lib.hid hry.2
       have HY:=Lib.hid hy
       clear hcell hry hy
       go_wp2_with fail
       refine (zk6 y _ HNY.out).mono ?_
       rintro e w1 ⟨rfl,rfl⟩
       cases v:nmA y with
       | false =>
         have v3:=Lib.hid v
         clear v
         go_wp2_with fail
         go_ret
         exact ⟨by rw [HV.out,v0.out,Bool.true_and,v1.out,Bool.true_and,v2.out,Bool.true_and,za9 HY.out v3.out,Bool.false_and]; rfl,HB2.out⟩
       | true =>
         have v3:=Lib.hid v
         clear v
         go_wp2_with fail
         go_roundw
         case rel => exact ⟨i + 1,by omega,by simp,Lib.hid ⟨ze2 hr.out.1 HY.out v3.out,HB2.out,HX2.out⟩⟩
         case measure => simp [intOf]; omega
      ·have:i = l2:=by omega
       subst this
       have HV2:Hid (RB = TB):=Lib.hid (by rw [HV.out,v0.out,Bool.true_and,v1.out,Bool.true_and,v2.out,Bool.true_and,zh1 fun j y h1 h2 => hr.out.1 j y (by have:=HL2.out; omega) h2,Bool.true_and])
       clear hi
       by_cases k1:kd = 1
       ·skip
        have HT2:Hid (TB = _):=Lib.hid (HT.out.trans (by rw [if_pos k1]))
        subst k1
        go_wp2_with fail
        go_quiet (fail)
        have HB3:Hid (Below w.heap.size w (wr.drewN nq)):=Lib.hid (_root_.Go.below_drewN HB2.out nq)
        have HX3:Hid (Bk (wr.drewN nq) w.heap.size #[.int .i64 1,.string x.name,.slice A2 i c2,.slice A3 x.dirs.length c3,.slice A4 l4 c4,.slice A5 l5 c5,.slice A6 l6 c6] 39):=Lib.hid HX2.out
        go_wp2_with fail
        refine (zk2 x.fields _ _ ((H4.out.kept HB3.out).mono HB3.out.size) HZ.out.2.1).mono ?_
        rintro e w6 ⟨rfl,hb⟩
        clear q0 q1 q2 q3 q4 q5 q6
        have HB4:=Lib.hid (HB3.out.trans (Below.mono hb HB3.out.size))
        have HX4:=Lib.hid (HX3.out.stay hb)
        clear hb
        have q0:=HX4.out.cell 0 _ rfl
        have q1:=HX4.out.cell 1 _ rfl
        have q2:=HX4.out.cell 2 _ rfl
        have q3:=HX4.out.cell 3 _ rfl
        have q4:=HX4.out.cell 4 _ rfl
        have q5:=HX4.out.cell 5 _ rfl
        have q6:=HX4.out.cell 6 _ rfl
        cases v:zg5 x.fields with
        | false =>
          have u4:=Lib.hid v
          clear v
          go_wp2_with fail
          go_ret
          exact ⟨by rw [HV2.out,HT2.out,u4.out,Bool.false_and]; rfl,HB4.out⟩
        | true =>
          have u4:=Lib.hid v
          clear v
          by_cases z5:l5 = 0
          ·skip
           have u5:Hid (decide (l5 = 0) = true):=Lib.hid (by simp [z5])
           have y5:((l5:Int) == 0) = true:=by rw [z5]; rfl
           have y5':decide (l5 = 0) = true:=by rw [z5]; rfl
           clear z5
           by_cases z6:l6 = 0
           ·skip
            have u6:Hid (decide (l6 = 0) = true):=Lib.hid (by simp [z6])
            have y6:((l6:Int) == 0) = true:=by rw [z6]; rfl
            have y6':decide (l6 = 0) = true:=by rw [z6]; rfl
            clear z6
            go_wp2_with fail
            go_ret
            exact ⟨by rw [HV2.out,HT2.out,u4.out,Bool.true_and,u5.out,Bool.true_and,u6.out]; rfl,HB4.out⟩
           ·skip
            have u6:Hid (decide (l6 = 0) = false):=Lib.hid (by simp [z6])
            have y6:((l6:Int) == 0) = false:=by rw [beq_eq_false_iff_ne]; omega
            have y6':decide (l6 = 0) = false:=decide_eq_false z6
            clear z6
            go_wp2_with fail
            go_ret
            exact ⟨by rw [HV2.out,HT2.out,u4.out,Bool.true_and,u5.out,Bool.true_and,u6.out]; rfl,HB4.out⟩
          ·skip
           have u5:Hid (decide (l5 = 0) = false):=Lib.hid (by simp [z5])
           have y5:((l5:Int) == 0) = false:=by rw [beq_eq_false_iff_ne]; omega
           have y5':decide (l5 = 0) = false:=decide_eq_false z5
           clear z5
           go_wp2_with fail
           go_ret
           exact ⟨by rw [HV2.out,HT2.out,u4.out,Bool.true_and,u5.out,Bool.false_and]; rfl,HB4.out⟩
       by_cases k2:kd = 2
       ·skip
        have HT2:Hid (TB = _):=Lib.hid (HT.out.trans (by rw [if_neg k1,if_pos k2]))
        subst k2
        clear k1
        by_cases z4:i = 0
        ·skip
         have u4:Hid (decide (i = 0) = true):=Lib.hid (by simp [z4])
         have y4:((i:Int) == 0) = true:=by rw [z4]; rfl
         have y4':decide (i = 0) = true:=by rw [z4]; rfl
         clear z4
         go_wp2_with fail
         go_quiet (fail)
         have HB3:Hid (Below w.heap.size w (wr.drewN nq)):=Lib.hid (_root_.Go.below_drewN HB2.out nq)
         have HX3:Hid (Bk (wr.drewN nq) w.heap.size #[.int .i64 2,.string x.name,.slice A2 i c2,.slice A3 x.dirs.length c3,.slice A4 l4 c4,.slice A5 l5 c5,.slice A6 l6 c6] 39):=Lib.hid HX2.out
         go_wp2_with fail
         refine (zk2 x.fields _ _ ((H4.out.kept HB3.out).mono HB3.out.size) HZ.out.2.1).mono ?_
         rintro e w6 ⟨rfl,hb⟩
         clear q0 q1 q2 q3 q4 q5 q6
         have HB4:=Lib.hid (HB3.out.trans (Below.mono hb HB3.out.size))
         have HX4:=Lib.hid (HX3.out.stay hb)
         clear hb
         have q0:=HX4.out.cell 0 _ rfl
         have q1:=HX4.out.cell 1 _ rfl
         have q2:=HX4.out.cell 2 _ rfl
         have q3:=HX4.out.cell 3 _ rfl
         have q4:=HX4.out.cell 4 _ rfl
         have q5:=HX4.out.cell 5 _ rfl
         have q6:=HX4.out.cell 6 _ rfl
         cases v:zg5 x.fields with
         | false =>
           have u5:=Lib.hid v
           clear v
           go_wp2_with fail
           go_ret
           exact ⟨by rw [HV2.out,HT2.out,u4.out,Bool.true_and,u5.out,Bool.false_and]; rfl,HB4.out⟩
         | true =>
           have u5:=Lib.hid v
           clear v
           by_cases z6:l5 = 0
           ·skip
            have u6:Hid (decide (l5 = 0) = true):=Lib.hid (by simp [z6])
            have y6:((l5:Int) == 0) = true:=by rw [z6]; rfl
            have y6':decide (l5 = 0) = true:=by rw [z6]; rfl
            clear z6
            by_cases z7:l6 = 0
            ·skip
             have u7:Hid (decide (l6 = 0) = true):=Lib.hid (by simp [z7])
             have y7:((l6:Int) == 0) = true:=by rw [z7]; rfl
             have y7':decide (l6 = 0) = true:=by rw [z7]; rfl
             clear z7
             go_wp2_with fail
             go_ret
             exact ⟨by rw [HV2.out,HT2.out,u4.out,Bool.true_and,u5.out,Bool.true_and,u6.out,Bool.true_and,u7.out]; rfl,HB4.out⟩
            ·skip
             have u7:Hid (decide (l6 = 0) = false):=Lib.hid (by simp [z7])
             have y7:((l6:Int) == 0) = false:=by rw [beq_eq_false_iff_ne]; omega
             have y7':decide (l6 = 0) = false:=decide_eq_false z7
             clear z7
             go_wp2_with fail
             go_ret
             exact ⟨by rw [HV2.out,HT2.out,u4.out,Bool.true_and,u5.out,Bool.true_and,u6.out,Bool.true_and,u7.out]; rfl,HB4.out⟩
           ·skip
            have u6:Hid (decide (l5 = 0) = false):=Lib.hid (by simp [z6])
            have y6:((l5:Int) == 0) = false:=by rw [beq_eq_false_iff_ne]; omega
            have y6':decide (l5 = 0) = false:=decide_eq_false z6
            clear z6
            go_wp2_with fail
            go_ret
            exact ⟨by rw [HV2.out,HT2.out,u4.out,Bool.true_and,u5.out,Bool.true_and,u6.out,Bool.false_and]; rfl,HB4.out⟩
        ·skip
         have u4:Hid (decide (i = 0) = false):=Lib.hid (by simp [z4])
         have y4:((i:Int) == 0) = false:=by rw [beq_eq_false_iff_ne]; omega
         have y4':decide (i = 0) = false:=decide_eq_false z4
         clear z4
         go_wp2_with fail
         go_quiet (fail)
         have HB3:Hid (Below w.heap.size w (wr.drewN nq)):=Lib.hid (_root_.Go.below_drewN HB2.out nq)
         have HX3:Hid (Bk (wr.drewN nq) w.heap.size #[.int .i64 2,.string x.name,.slice A2 i c2,.slice A3 x.dirs.length c3,.slice A4 l4 c4,.slice A5 l5 c5,.slice A6 l6 c6] 39):=Lib.hid HX2.out
         go_wp2_with fail
         go_ret
         exact ⟨by rw [HV2.out,HT2.out,u4.out,Bool.false_and]; rfl,HB3.out⟩
       by_cases k3:kd = 3
       ·skip
        have HT2:Hid (TB = _):=Lib.hid (HT.out.trans (by rw [if_neg k1,if_neg k2,if_pos k3]))
        subst k3
        clear k1 k2
        by_cases z4:i = 0
        ·skip
         have u4:Hid (decide (i = 0) = true):=Lib.hid (by simp [z4])
         have y4:((i:Int) == 0) = true:=by rw [z4]; rfl
         have y4':decide (i = 0) = true:=by rw [z4]; rfl
         clear z4
         by_cases z5:l4 = 0
         ·skip
          have u5:Hid (decide (l4 = 0) = true):=Lib.hid (by simp [z5])
          have y5:((l4:Int) == 0) = true:=by rw [z5]; rfl
          have y5':decide (l4 = 0) = true:=by rw [z5]; rfl
          clear z5
          go_wp2_with fail
          go_quiet (fail)
          have HB3:Hid (Below w.heap.size w (wr.drewN nq)):=Lib.hid (_root_.Go.below_drewN HB2.out nq)
          have HX3:Hid (Bk (wr.drewN nq) w.heap.size #[.int .i64 3,.string x.name,.slice A2 i c2,.slice A3 x.dirs.length c3,.slice A4 l4 c4,.slice A5 l5 c5,.slice A6 l6 c6] 39):=Lib.hid HX2.out
          go_wp2_with fail
          refine (zo7 x.members _ _ ((H5.out.kept HB3.out).mono HB3.out.size) HZ.out.2.2.1).mono ?_
          rintro e w6 ⟨rfl,hb⟩
          clear q0 q1 q2 q3 q4 q5 q6
          have HB4:=Lib.hid (HB3.out.trans (Below.mono hb HB3.out.size))
          have HX4:=Lib.hid (HX3.out.stay hb)
          clear hb
          have q0:=HX4.out.cell 0 _ rfl
          have q1:=HX4.out.cell 1 _ rfl
          have q2:=HX4.out.cell 2 _ rfl
          have q3:=HX4.out.cell 3 _ rfl
          have q4:=HX4.out.cell 4 _ rfl
          have q5:=HX4.out.cell 5 _ rfl
          have q6:=HX4.out.cell 6 _ rfl
          cases v:ze1 true x.members with
          | false =>
            have u6:=Lib.hid v
            clear v
            go_wp2_with fail
            go_ret
            exact ⟨by rw [HV2.out,HT2.out,u4.out,Bool.true_and,u5.out,Bool.true_and,u6.out,Bool.false_and]; rfl,HB4.out⟩
          | true =>
            have u6:=Lib.hid v
            clear v
            by_cases z7:l6 = 0
            ·skip
             have u7:Hid (decide (l6 = 0) = true):=Lib.hid (by simp [z7])
             have y7:((l6:Int) == 0) = true:=by rw [z7]; rfl
             have y7':decide (l6 = 0) = true:=by rw [z7]; rfl
             clear z7
             go_wp2_with fail
             go_ret
             exact ⟨by rw [HV2.out,HT2.out,u4.out,Bool.true_and,u5.out,Bool.true_and,u6.out,Bool.true_and,u7.out]; rfl,HB4.out⟩
            ·skip
             have u7:Hid (decide (l6 = 0) = false):=Lib.hid (by simp [z7])
             have y7:((l6:Int) == 0) = false:=by rw [beq_eq_false_iff_ne]; omega
             have y7':decide (l6 = 0) = false:=decide_eq_false z7
             clear z7
             go_wp2_with fail
             go_ret
             exact ⟨by rw [HV2.out,HT2.out,u4.out,Bool.true_and,u5.out,Bool.true_and,u6.out,Bool.true_and,u7.out]; rfl,HB4.out⟩
         ·skip
          have u5:Hid (decide (l4 = 0) = false):=Lib.hid (by simp [z5])
          have y5:((l4:Int) == 0) = false:=by rw [beq_eq_false_iff_ne]; omega
          have y5':decide (l4 = 0) = false:=decide_eq_false z5
          clear z5
          go_wp2_with fail
          go_quiet (fail)
          have HB3:Hid (Below w.heap.size w (wr.drewN nq)):=Lib.hid (_root_.Go.below_drewN HB2.out nq)
          have HX3:Hid (Bk (wr.drewN nq) w.heap.size #[.int .i64 3,.string x.name,.slice A2 i c2,.slice A3 x.dirs.length c3,.slice A4 l4 c4,.slice A5 l5 c5,.slice A6 l6 c6] 39):=Lib.hid HX2.out
          go_wp2_with fail
          go_ret
          exact ⟨by rw [HV2.out,HT2.out,u4.out,Bool.true_and,u5.out,Bool.false_and]; rfl,HB3.out⟩
        ·skip
         have u4:Hid (decide (i = 0) = false):=Lib.hid (by simp [z4])
         have y4:((i:Int) == 0) = false:=by rw [beq_eq_false_iff_ne]; omega
         have y4':decide (i = 0) = false:=decide_eq_false z4
         clear z4
         go_wp2_with fail
         go_quiet (fail)
         have HB3:Hid (Below w.heap.size w (wr.drewN nq)):=Lib.hid (_root_.Go.below_drewN HB2.out nq)
         have HX3:Hid (Bk (wr.drewN nq) w.heap.size #[.int .i64 3,.string x.name,.slice A2 i c2,.slice A3 x.dirs.length c3,.slice A4 l4 c4,.slice A5 l5 c5,.slice A6 l6 c6] 39):=Lib.hid HX2.out
         go_wp2_with fail
         go_ret
         exact ⟨by rw [HV2.out,HT2.out,u4.out,Bool.false_and]; rfl,HB3.out⟩
       by_cases k4:kd = 4
       ·skip
        have HT2:Hid (TB = _):=Lib.hid (HT.out.trans (by rw [if_neg k1,if_neg k2,if_neg k3,if_pos k4]))
        subst k4
        clear k1 k2 k3
        by_cases z4:i = 0
        ·skip
         have u4:Hid (decide (i = 0) = true):=Lib.hid (by simp [z4])
         have y4:((i:Int) == 0) = true:=by rw [z4]; rfl
         have y4':decide (i = 0) = true:=by rw [z4]; rfl
         clear z4
         by_cases z5:l4 = 0
         ·skip
          have u5:Hid (decide (l4 = 0) = true):=Lib.hid (by simp [z5])
          have y5:((l4:Int) == 0) = true:=by rw [z5]; rfl
          have y5':decide (l4 = 0) = true:=by rw [z5]; rfl
          clear z5
          go_wp2_with fail
          go_quiet (fail)
          have HB3:Hid (Below w.heap.size w (wr.drewN nq)):=Lib.hid (_root_.Go.below_drewN HB2.out nq)
          have HX3:Hid (Bk (wr.drewN nq) w.heap.size #[.int .i64 4,.string x.name,.slice A2 i c2,.slice A3 x.dirs.length c3,.slice A4 l4 c4,.slice A5 l5 c5,.slice A6 l6 c6] 39):=Lib.hid HX2.out
          go_wp2_with fail
          refine (zo8 x.members _ _ ((H5.out.kept HB3.out).mono HB3.out.size) HZ.out.2.2.1).mono ?_
          rintro e w6 ⟨rfl,hb⟩
          clear q0 q1 q2 q3 q4 q5 q6
          have HB4:=Lib.hid (HB3.out.trans (Below.mono hb HB3.out.size))
          have HX4:=Lib.hid (HX3.out.stay hb)
          clear hb
          have q0:=HX4.out.cell 0 _ rfl
          have q1:=HX4.out.cell 1 _ rfl
          have q2:=HX4.out.cell 2 _ rfl
          have q3:=HX4.out.cell 3 _ rfl
          have q4:=HX4.out.cell 4 _ rfl
          have q5:=HX4.out.cell 5 _ rfl
          have q6:=HX4.out.cell 6 _ rfl
          cases v:ze1 false x.members with
          | false =>
            have u6:=Lib.hid v
            clear v
            go_wp2_with fail
            go_ret
            exact ⟨by rw [HV2.out,HT2.out,u4.out,Bool.true_and,u5.out,Bool.true_and,u6.out,Bool.false_and]; rfl,HB4.out⟩
          | true =>
            have u6:=Lib.hid v
            clear v
            by_cases z7:l6 = 0
            ·skip
             have u7:Hid (decide (l6 = 0) = true):=Lib.hid (by simp [z7])
             have y7:((l6:Int) == 0) = true:=by rw [z7]; rfl
             have y7':decide (l6 = 0) = true:=by rw [z7]; rfl
             clear z7
             go_wp2_with fail
             go_ret
             exact ⟨by rw [HV2.out,HT2.out,u4.out,Bool.true_and,u5.out,Bool.true_and,u6.out,Bool.true_and,u7.out]; rfl,HB4.out⟩
            ·skip
             have u7:Hid (decide (l6 = 0) = false):=Lib.hid (by simp [z7])
             have y7:((l6:Int) == 0) = false:=by rw [beq_eq_false_iff_ne]; omega
             have y7':decide (l6 = 0) = false:=decide_eq_false z7
             clear z7
             go_wp2_with fail
             go_ret
             exact ⟨by rw [HV2.out,HT2.out,u4.out,Bool.true_and,u5.out,Bool.true_and,u6.out,Bool.true_and,u7.out]; rfl,HB4.out⟩
         ·skip
          have u5:Hid (decide (l4 = 0) = false):=Lib.hid (by simp [z5])
          have y5:((l4:Int) == 0) = false:=by rw [beq_eq_false_iff_ne]; omega
          have y5':decide (l4 = 0) = false:=decide_eq_false z5
          clear z5
          go_wp2_with fail
          go_quiet (fail)
          have HB3:Hid (Below w.heap.size w (wr.drewN nq)):=Lib.hid (_root_.Go.below_drewN HB2.out nq)
          have HX3:Hid (Bk (wr.drewN nq) w.heap.size #[.int .i64 4,.string x.name,.slice A2 i c2,.slice A3 x.dirs.length c3,.slice A4 l4 c4,.slice A5 l5 c5,.slice A6 l6 c6] 39):=Lib.hid HX2.out
          go_wp2_with fail
          go_ret
          exact ⟨by rw [HV2.out,HT2.out,u4.out,Bool.true_and,u5.out,Bool.false_and]; rfl,HB3.out⟩
        ·skip
         have u4:Hid (decide (i = 0) = false):=Lib.hid (by simp [z4])
         have y4:((i:Int) == 0) = false:=by rw [beq_eq_false_iff_ne]; omega
         have y4':decide (i = 0) = false:=decide_eq_false z4
         clear z4
         go_wp2_with fail
         go_quiet (fail)
         have HB3:Hid (Below w.heap.size w (wr.drewN nq)):=Lib.hid (_root_.Go.below_drewN HB2.out nq)
         have HX3:Hid (Bk (wr.drewN nq) w.heap.size #[.int .i64 4,.string x.name,.slice A2 i c2,.slice A3 x.dirs.length c3,.slice A4 l4 c4,.slice A5 l5 c5,.slice A6 l6 c6] 39):=Lib.hid HX2.out
         go_wp2_with fail
         go_ret
         exact ⟨by rw [HV2.out,HT2.out,u4.out,Bool.false_and]; rfl,HB3.out⟩
       by_cases k5:kd = 5
       ·skip
        have HT2:Hid (TB = _):=Lib.hid (HT.out.trans (by rw [if_neg k1,if_neg k2,if_neg k3,if_neg k4,if_pos k5]))
        subst k5
        clear k1 k2 k3 k4
        by_cases z4:i = 0
        ·skip
         have u4:Hid (decide (i = 0) = true):=Lib.hid (by simp [z4])
         have y4:((i:Int) == 0) = true:=by rw [z4]; rfl
         have y4':decide (i = 0) = true:=by rw [z4]; rfl
         clear z4
         by_cases z5:l4 = 0
         ·skip
          have u5:Hid (decide (l4 = 0) = true):=Lib.hid (by simp [z5])
          have y5:((l4:Int) == 0) = true:=by rw [z5]; rfl
          have y5':decide (l4 = 0) = true:=by rw [z5]; rfl
          clear z5
          by_cases z6:l5 = 0
          ·skip
           have u6:Hid (decide (l5 = 0) = true):=Lib.hid (by simp [z6])
           have y6:((l5:Int) == 0) = true:=by rw [z6]; rfl
           have y6':decide (l5 = 0) = true:=by rw [z6]; rfl
           clear z6
           by_cases z7:l6 = 0
           ·skip
            have u7:Hid (decide (l6 ≠ 0) = false):=Lib.hid (by simp [z7])
            have y7:((l6:Int) == 0) = true:=by rw [z7]; rfl
            have y7':decide (l6 = 0) = true:=by rw [z7]; rfl
            have yy7:¬ (l6:Int) > 0:=by omega
            clear z7
            go_wp2_with fail
            go_quiet (fail)
            have HB3:Hid (Below w.heap.size w (wr.drewN nq)):=Lib.hid (_root_.Go.below_drewN HB2.out nq)
            have HX3:Hid (Bk (wr.drewN nq) w.heap.size #[.int .i64 5,.string x.name,.slice A2 i c2,.slice A3 x.dirs.length c3,.slice A4 l4 c4,.slice A5 l5 c5,.slice A6 l6 c6] 39):=Lib.hid HX2.out
            go_wp2_with fail
            go_ret
            exact ⟨by rw [HV2.out,HT2.out,u4.out,Bool.true_and,u5.out,Bool.true_and,u6.out,Bool.true_and,u7.out,Bool.false_and]; rfl,HB3.out⟩
           ·skip
            have u7:Hid (decide (l6 ≠ 0) = true):=Lib.hid (by simp [z7])
            have y7:((l6:Int) == 0) = false:=by rw [beq_eq_false_iff_ne]; omega
            have y7':decide (l6 = 0) = false:=decide_eq_false z7
            have yy7:(l6:Int) > 0:=by omega
            clear z7
            go_wp2_with fail
            go_quiet (fail)
            have HB3:Hid (Below w.heap.size w (wr.drewN nq)):=Lib.hid (_root_.Go.below_drewN HB2.out nq)
            have HX3:Hid (Bk (wr.drewN nq) w.heap.size #[.int .i64 5,.string x.name,.slice A2 i c2,.slice A3 x.dirs.length c3,.slice A4 l4 c4,.slice A5 l5 c5,.slice A6 l6 c6] 39):=Lib.hid HX2.out
            go_wp2_with fail
            refine (zj9 x.inputs _ _ ((H6.out.kept HB3.out).mono HB3.out.size) HZ.out.2.2.2).mono ?_
            rintro e w6 ⟨rfl,hb⟩
            clear q0 q1 q2 q3 q4 q5 q6
            have HB4:=Lib.hid (HB3.out.trans (Below.mono hb HB3.out.size))
            have HX4:=Lib.hid (HX3.out.stay hb)
            clear hb
            have q0:=HX4.out.cell 0 _ rfl
            have q1:=HX4.out.cell 1 _ rfl
            have q2:=HX4.out.cell 2 _ rfl
            have q3:=HX4.out.cell 3 _ rfl
            have q4:=HX4.out.cell 4 _ rfl
            have q5:=HX4.out.cell 5 _ rfl
            have q6:=HX4.out.cell 6 _ rfl
            cases v:ze7 x.inputs with
            | false =>
              have u8:=Lib.hid v
              clear v
              go_wp2_with fail
              go_ret
              exact ⟨by rw [HV2.out,HT2.out,u4.out,Bool.true_and,u5.out,Bool.true_and,u6.out,Bool.true_and,u7.out,Bool.true_and,u8.out]; rfl,HB4.out⟩
            | true =>
              have u8:=Lib.hid v
              clear v
              go_wp2_with fail
              go_ret
              exact ⟨by rw [HV2.out,HT2.out,u4.out,Bool.true_and,u5.out,Bool.true_and,u6.out,Bool.true_and,u7.out,Bool.true_and,u8.out]; rfl,HB4.out⟩
          ·skip
           have u6:Hid (decide (l5 = 0) = false):=Lib.hid (by simp [z6])
           have y6:((l5:Int) == 0) = false:=by rw [beq_eq_false_iff_ne]; omega
           have y6':decide (l5 = 0) = false:=decide_eq_false z6
           clear z6
           go_wp2_with fail
           go_quiet (fail)
           have HB3:Hid (Below w.heap.size w (wr.drewN nq)):=Lib.hid (_root_.Go.below_drewN HB2.out nq)
           have HX3:Hid (Bk (wr.drewN nq) w.heap.size #[.int .i64 5,.string x.name,.slice A2 i c2,.slice A3 x.dirs.length c3,.slice A4 l4 c4,.slice A5 l5 c5,.slice A6 l6 c6] 39):=Lib.hid HX2.out
           go_wp2_with fail
           go_ret
           exact ⟨by rw [HV2.out,HT2.out,u4.out,Bool.true_and,u5.out,Bool.true_and,u6.out,Bool.false_and]; rfl,HB3.out⟩
         ·skip
          have u5:Hid (decide (l4 = 0) = false):=Lib.hid (by simp [z5])
          have y5:((l4:Int) == 0) = false:=by rw [beq_eq_false_iff_ne]; omega
          have y5':decide (l4 = 0) = false:=decide_eq_false z5
          clear z5
          go_wp2_with fail
          go_quiet (fail)
          have HB3:Hid (Below w.heap.size w (wr.drewN nq)):=Lib.hid (_root_.Go.below_drewN HB2.out nq)
          have HX3:Hid (Bk (wr.drewN nq) w.heap.size #[.int .i64 5,.string x.name,.slice A2 i c2,.slice A3 x.dirs.length c3,.slice A4 l4 c4,.slice A5 l5 c5,.slice A6 l6 c6] 39):=Lib.hid HX2.out
          go_wp2_with fail
          go_ret
          exact ⟨by rw [HV2.out,HT2.out,u4.out,Bool.true_and,u5.out,Bool.false_and]; rfl,HB3.out⟩
        ·skip
         have u4:Hid (decide (i = 0) = false):=Lib.hid (by simp [z4])
         have y4:((i:Int) == 0) = false:=by rw [beq_eq_false_iff_ne]; omega
         have y4':decide (i = 0) = false:=decide_eq_false z4
         clear z4
         go_wp2_with fail
         go_quiet (fail)
         have HB3:Hid (Below w.heap.size w (wr.drewN nq)):=Lib.hid (_root_.Go.below_drewN HB2.out nq)
         have HX3:Hid (Bk (wr.drewN nq) w.heap.size #[.int .i64 5,.string x.name,.slice A2 i c2,.slice A3 x.dirs.length c3,.slice A4 l4 c4,.slice A5 l5 c5,.slice A6 l6 c6] 39):=Lib.hid HX2.out
         go_wp2_with fail
         go_ret
         exact ⟨by rw [HV2.out,HT2.out,u4.out,Bool.false_and]; rfl,HB3.out⟩
       have HT2:Hid (TB = false):=Lib.hid (HT.out.trans (by rw [if_neg k1,if_neg k2,if_neg k3,if_neg k4,if_neg k5]))
       have j1:(kd == 1) = false:=by rw [beq_eq_false_iff_ne]; exact k1
       have j2:(kd == 2) = false:=by rw [beq_eq_false_iff_ne]; exact k2
       have j3:(kd == 3) = false:=by rw [beq_eq_false_iff_ne]; exact k3
       have j4:(kd == 4) = false:=by rw [beq_eq_false_iff_ne]; exact k4
       have j5:(kd == 5) = false:=by rw [beq_eq_false_iff_ne]; exact k5
       clear k1 k2 k3 k4 k5
       go_wp2_with fail
       go_quiet (fail)
       have HB3:Hid (Below w.heap.size w (wr.drewN nq)):=Lib.hid (_root_.Go.below_drewN HB2.out nq)
       go_wp2_with fail
       go_ret
       exact ⟨by rw [HV2.out,HT2.out]; rfl,HB3.out⟩
theorem zE4 (x:DefT) (f:Nat → Value) (w:World) (h:DefR w w.heap.size f x) (hz:dirsZ x.dirs ∧ fldsZ x.fields ∧ memsZ x.members ∧ inpsZ x.inputs) (cs:Array Value) (hc : #[f 0,f 1,f 2,f 3,f 4,f 5,f 6] = cs):Calls Tryz.prog 23 #[.agg cs] w (BP (zb9 x) w):=by
 subst hc
 exact zx1 x f w h hz
end Go.Proofs.YtfgelheiknmjgaaGreatDoor
namespace Go.Proofs.YtfgelheiknmjgaaGreatDoor
open Go.RowKit
set_option maxRecDepth 100000 in
set_option maxHeartbeats 8000000 in
theorem zv4 (xs:List DefT) (v:Value) (w:World) (h:DefsR w w.heap.size v xs) (hz:defsZ xs):Calls Tryz.prog 9 #[.agg #[v]] w (BP (ltB 1 64 xs zb9) w):=by
 have HZ:=Lib.hid hz
 clear hz
 have HV:Hid (ltB 1 64 xs zb9 = (decide (1 ≤ xs.length) && (decide (xs.length ≤ 64) && xs.all zb9))):=Lib.hid rfl
 generalize ltB 1 64 xs zb9 = RB at *
 obtain ⟨A,c,rfl,hc,hb,V,hA,hr⟩:=h
 have HA:=Lib.hid hA
 have HR:=Lib.hid hr
 unfold big at hb
 obtain ⟨len,hlen⟩ : ∃ len,len = xs.length:=⟨_,rfl⟩
 rw [← hlen] at HV HA hb ⊢
 have HL:=Lib.hid hlen
 clear hA hr hc hlen
 have hlm:(len:Int) ≤ 140737488351232:=by omega
 clear hb
 by_cases hz1:len < 1
 ·have hz2:(len:Int) < 1:=by omega
  have HV2:Hid (RB = false):=Lib.hid (by rw [HV.out,decide_eq_false (by omega)]; rfl)
  clear hz1
  go_enter Tryz.func9, Tryz.ntmps9
  go_wp2_with fail
  go_ret
  exact ⟨by rw [HV2.out]; rfl,za0 _ _⟩
 have hz2:¬ (len:Int) < 1:=by omega
 by_cases hg:64 < len
 ·have hg2:(len:Int) > 64:=by omega
  have HV2:Hid (RB = false):=Lib.hid (by rw [HV.out,decide_eq_false (by omega:¬ len ≤ 64)]; simp)
  clear hg
  go_enter Tryz.func9, Tryz.ntmps9
  go_wp2_with fail
  go_ret
  exact ⟨by rw [HV2.out]; rfl,za0 _ _⟩
 have hg2:¬ (len:Int) > 64:=by omega
 have HV2:Hid (RB = xs.all zb9):=Lib.hid (by rw [HV.out,decide_eq_true (by omega:1 ≤ len),decide_eq_true (by omega:len ≤ 64)]; rfl)
 have HBD:Hid (Below w.heap.size w (w.alloc (.cells #[.slice A len c] 24 (0,0)))):=Lib.hid (za0 _ _)
 have HXD:Hid (Bk (w.alloc (.cells #[.slice A len c] 24 (0,0))) w.heap.size #[.slice A len c] 24):=Lib.hid (Bk.new _ _ _)
 go_enter Tryz.func9, Tryz.ntmps9
 go_wp2_with fail
 clear hg hg2 hz1 hz2
 go_loopw [3] (fun u wr => ∃ i:Nat,i ≤ len ∧ u = .int .i64 i ∧ Hid ((∀ (j:Nat) (y:DefT),j < i → xs[j]? = some y → zb9 y = true) ∧ Below w.heap.size w wr ∧ Bk wr w.heap.size #[.slice A len c] 24)) (fun u _ => len - (intOf u).toNat)
 case atStart => exact ⟨0,Nat.zero_le _,rfl,Lib.hid ⟨fun _ _ h => absurd h (Nat.not_lt_zero _),HBD.out,HXD.out⟩⟩
 case round =>
  obtain ⟨i,hi,rfl,hr⟩:=hrel
  have qd:=hr.out.2.2.cell 0 _ rfl
  by_cases hlt:i < len
  ·skip
   have hlt':(i:Int) < len:=by omega
   obtain ⟨a,rfl,ha,hcell⟩:=HA.out (by omega)
   have hcell:=hcell i hlt
   obtain ⟨x,hx⟩ : ∃ x,xs[i]? = some x:=⟨_,List.getElem?_eq_getElem (by have:=HL.out; omega)⟩
   have hrx:=HR.out i x hx
   obtain ⟨A2,c2,e2,_,_⟩:=hrx.impl.form
   obtain ⟨A3,c3,e3,_,_⟩:=hrx.dirs.form
   obtain ⟨A4,c4,e4,_,_⟩:=hrx.fields.form
   obtain ⟨A5,c5,e5,_,_⟩:=hrx.members.form
   obtain ⟨A6,c6,e6,_,_⟩:=hrx.inputs.form
   have e0:=hrx.kind
   have e1:=hrx.name
   have HCE:Hid (∀ W:World,Below w.heap.size w W → W.cell? (a.add (i * 7)) = some (.int .i64 x.kind) ∧ W.cell? ⟨(a.add (i * 7)).block,(a.add (i * 7)).off + 1,none⟩ = some (.string x.name) ∧ W.cell? ⟨(a.add (i * 7)).block,(a.add (i * 7)).off + 2,none⟩ = some (.slice A2 x.impl.length c2) ∧ W.cell? ⟨(a.add (i * 7)).block,(a.add (i * 7)).off + 3,none⟩ = some (.slice A3 x.dirs.length c3) ∧ W.cell? ⟨(a.add (i * 7)).block,(a.add (i * 7)).off + 4,none⟩ = some (.slice A4 x.fields.length c4) ∧ W.cell? ⟨(a.add (i * 7)).block,(a.add (i * 7)).off + 5,none⟩ = some (.slice A5 x.members.length c5) ∧ W.cell? ⟨(a.add (i * 7)).block,(a.add (i * 7)).off + 6,none⟩ = some (.slice A6 x.inputs.length c6)):=Lib.hid fun W hW => by
    have hh:∀ j,j < 7 → W.cell? (at_ (a.add (i * 7)) j) = some (V i j):=fun j hj => (hW.cell (by rw [za7,za1]; exact ha)).trans (hcell j hj)
    exact ⟨(hh 0 (by omega)).trans (congrArg some e0),(hh 1 (by omega)).trans (congrArg some e1),(hh 2 (by omega)).trans (congrArg some e2),(hh 3 (by omega)).trans (congrArg some e3),(hh 4 (by omega)).trans (congrArg some e4),(hh 5 (by omega)).trans (congrArg some e5),(hh 6 (by omega)).trans (congrArg some e6)⟩
   have HF:=Lib.hid hrx
   have hff : #[V i 0,V i 1,V i 2,V i 3,V i 4,V i 5,V i 6] = #[.int .i64 x.kind,.string x.name,.slice A2 x.impl.length c2,.slice A3 x.dirs.length c3,.slice A4 x.fields.length c4,.slice A5 x.members.length c5,.slice A6 x.inputs.length c6]:=by rw [e0,e1,e2,e3,e4,e5,e6]
   replace hff:=Lib.hid hff
   have HZX:=Lib.hid (HZ.out x (List.mem_of_getElem? hx))
   have HPX:Hid (zb9 x = (zb9 x && true)):=Lib.hid (Bool.and_true _).symm
   have HX:=Lib.hid hx
   have HB0:=Lib.hid hr.out.2.1
   clear hcell hrx hx e0 e1 e2 e3 e4 e5 e6
   obtain ⟨k0,k1,k2,k3,k4,k5,k6⟩:=HCE.out _ HB0.out
   go_wp2_with fail
   refine (zE4 x (V i) _ (DefR.stays.mono (DefR.stays.kept HF.out HB0.out) HB0.out.size) HZX.out _ hff.out).mono ?_
   rintro e w2 ⟨rfl,hb⟩
   clear k0 k1 k2 k3 k4 k5 k6
   have HB1:=Lib.hid (HB0.out.trans (Below.mono hb HB0.out.size))
   have HXX:=Lib.hid (hr.out.2.2.stay hb)
   clear hb qd
   cases v:zb9 x with
   | false =>
     have v0:=Lib.hid v
     clear v
     go_wp2_with fail
     go_ret
     exact ⟨by rw [HV2.out,za9 HX.out (by rw [HPX.out,v0.out,Bool.false_and])]; rfl,HB1.out⟩
   | true =>
     have v0:=Lib.hid v
     clear v
     go_wp2_with fail
     go_roundw
     case rel => exact ⟨i + 1,by omega,by simp,Lib.hid ⟨ze2 hr.out.1 HX.out (by rw [HPX.out,v0.out,Bool.true_and]),HB1.out,HXX.out⟩⟩
     case measure => simp [intOf]; omega
  ·have:i = len:=by omega
   subst this
   have HVT:Hid (RB = true):=Lib.hid (by rw [HV2.out]; exact zh1 fun j y h1 h2 => hr.out.1 j y (by have:=HL.out; omega) h2)
   go_wp2_with fail
   go_ret
   exact ⟨by rw [HVT.out]; rfl,hr.out.2.1⟩
end Go.Proofs.YtfgelheiknmjgaaGreatDoor
namespace Go.Proofs.YtfgelheiknmjgaaGreatDoor
open Go.RowKit
theorem zy9 (t:VT):zb4 true t = true → zb4 false t = t.closed:=by
 induction t using VT.ind with
 | h k n s is ks ih =>
   have hl:∀ (l:List VT),(∀ (i:Nat) (t:VT),l[i]? = some t → zb4 true t = true → zb4 false t = t.closed) → zg4 true l = true → zg4 false l = VT.closeds l:=by
    intro l
    induction l with
    | nil => intro _ _; rw [zg4,VT.closeds]
    | cons t r ihr =>
      intro hm hw
      rw [zg4,Bool.and_eq_true] at hw
      rw [zg4,VT.closeds,hm 0 t rfl hw.1,ihr (fun i t h => hm (i + 1) t h) hw.2]
   intro hw
   rw [zb4,Bool.and_eq_true] at hw
   rw [zb4,VT.closed,hl is ih hw.2]
   have hn:nodeB false (.mk k n s is ks) = decide (k ≠ 7):=by
    have h1:=hw.1
    unfold nodeB keysB at h1 ⊢
    by_cases e0:k = 0
    ·subst e0; simpa using h1
    by_cases e1:k = 1
    ·subst e1; simpa using h1
    by_cases e2:k = 2
    ·subst e2; simpa using h1
    by_cases e3:k = 3
    ·subst e3; simpa using h1
    by_cases e4:k = 4
    ·subst e4; simpa using h1
    by_cases e5:k = 5
    ·subst e5; simpa using h1
    by_cases e6:k = 6
    ·subst e6
     simp at h1 ⊢
     exact ⟨h1.1,h1.2.2⟩
    by_cases e7:k = 7
    ·subst e7; simp
    ·simp [e0,e1,e2,e3,e4,e5,e6,e7] at h1
   rw [hn,Bool.and_comm]
theorem lit_eq (t:VT):litOk t = (zc0 true t && t.closed):=by
 unfold litOk
 cases h:zc0 true t with
 | false => rfl
 | true =>
   rw [Bool.true_and,Bool.true_and]
   unfold zc0 at h ⊢
   simp only [Bool.and_eq_true] at h
   rw [h.1.1,h.1.2,zy9 t h.2]; rfl
theorem zP2 (t:VT):dflOk false t = nulB t:=by
 obtain ⟨k,n,s,is,ks⟩:=t
 show (decide (k = 0) && zc0 false (.mk k n s is ks)) = (decide (k = 0) && (decide (n = 0) && (decide (s.size = 0) && (decide (is.length = 0) && decide (ks.length = 0)))))
 by_cases hk:k = 0
 ·subst hk
  rw [decide_eq_true rfl,Bool.true_and,Bool.true_and]
  cases is with
  | nil =>
    unfold zc0
    rw [zb4,zg4]
    unfold nodeB leafB
    simp [VT.size,VT.sizes,VT.depth,VT.depths]
    cases decide (n = 0) <;> cases decide (s = ByteArray.empty) <;> cases decide (ks = []) <;> rfl
  | cons a r =>
    unfold zc0
    rw [zb4]
    unfold nodeB leafB
    simp
 ·rw [decide_eq_false hk]; rfl
theorem zp5 {α:Type} (a b:Nat) (xs:List α) (p : α → Bool):inB a b xs p = ltB a b xs p:=by
 unfold inB ltB
 rw [Bool.and_assoc]
 congr 1
 ·exact decide_eq_decide.2 (by omega)
 ·congr 1
  exact decide_eq_decide.2 (by omega)
theorem inB_zero {α:Type} (xs:List α) (p : α → Bool):inB 0 0 xs p = decide (xs.length = 0):=by
 cases xs with
 | nil => simp [inB]
 | cons a r => simp [inB]; omega
theorem arg_eq:argOk = zp0:=by funext x; unfold argOk zp0; rw [lit_eq]
theorem dir_eq:dirOk = zo9:=by
 funext x
 unfold dirOk zo9
 have h:=zp5 0 16 x.args argOk
 rw [show inB 0 16 x.args argOk = _ from h,arg_eq]
 unfold ltB
 simp
theorem zx9:zp6 = zb6:=by
 funext l
 unfold zp6 zb6
 rw [show inB 0 16 l dirOk = _ from zp5 0 16 l dirOk,dir_eq]
theorem dfl_eq (has:Bool) (t:VT):dflOk has t = if has then zc0 true t && t.closed else nulB t:=by
 cases has with
 | true => exact lit_eq t
 | false => exact zP2 t
theorem inp_eq:inpOk = zk0:=by
 funext x
 unfold inpOk zk0
 rw [zx9,dfl_eq]
 congr 2
 exact Bool.and_comm _ _
theorem inps_eq:zQ3 = ze7:=by
 funext l
 unfold zQ3 ze7
 rw [show inB 0 16 l inpOk = _ from zp5 0 16 l inpOk,inp_eq]
theorem fld_eq:fldOk = zk1:=by funext x; unfold fldOk zk1; rw [zx9,inps_eq]
theorem memU_eq:zk3 = zf8 true:=by
 funext x
 unfold zk3 zf8
 congr 1
 by_cases h:x.dirs.length = 0
 ·have e:x.dirs = []:=List.length_eq_zero_iff.1 h
  rw [e]; decide
 ·have h2:0 < x.dirs.length:=by omega
  rw [decide_eq_false h,decide_eq_true h2]; simp
theorem memE_eq:zg0 = zf8 false:=by
 funext x
 unfold zg0 zf8
 rw [zx9]; simp
theorem def_eq:defOk = zb9:=by
 funext x
 unfold defOk zb9 zt5 zq4 zi9
 rw [zx9]
 congr 2
 have h64:inB 0 64 x.impl nmA = (decide (x.impl.length ≤ 64) && x.impl.all nmA):=by rw [show inB 0 64 x.impl nmA = _ from zp5 0 64 x.impl nmA]; unfold ltB; simp
 have hf:inB 1 64 x.fields fldOk = zg5 x.fields:=by rw [show inB 1 64 x.fields fldOk = _ from zp5 1 64 _ _,fld_eq]; rfl
 have hmu:inB 1 64 x.members zk3 = ze1 true x.members:=by rw [show inB 1 64 x.members zk3 = _ from zp5 1 64 _ _,memU_eq]; rfl
 have hme:inB 1 64 x.members zg0 = ze1 false x.members:=by rw [show inB 1 64 x.members zg0 = _ from zp5 1 64 _ _,memE_eq]; rfl
 have hi:inB 1 16 x.inputs inpOk = (decide (x.inputs.length ≠ 0) && ze7 x.inputs):=by
  rw [show inB 1 16 x.inputs inpOk = _ from zp5 1 16 _ _,inp_eq]
  unfold ze7 ltB
  simp only [Nat.zero_le,decide_true,Bool.true_and]
  congr 1
  exact decide_eq_decide.2 (by omega)
 have hz:x.impl.length = 0 → (decide (x.impl.length ≤ 64) && x.impl.all nmA) = true:=fun h => by rw [List.length_eq_zero_iff.1 h]; rfl
 simp only [inB_zero,h64,hf,hmu,hme,hi]
 by_cases k1:x.kind = 1
 ·simp only [k1,if_true,Bool.and_assoc]
 by_cases k2:x.kind = 2
 ·simp only [k2,if_true]
  by_cases h:x.impl.length = 0
  ·have:=hz h; simp only [Bool.and_eq_true] at this; simp [h,this.2]
  ·simp [h]
 by_cases k3:x.kind = 3
 ·simp only [k3,if_true]
  by_cases h:x.impl.length = 0
  ·have:=hz h; simp only [Bool.and_eq_true] at this; simp [h,this.2]
  ·simp [h]
 by_cases k4:x.kind = 4
 ·simp only [k4,if_true]
  by_cases h:x.impl.length = 0
  ·have:=hz h; simp only [Bool.and_eq_true] at this; simp [h,this.2]
  ·simp [h]
 by_cases k5:x.kind = 5
 ·simp only [k5,if_true]
  by_cases h:x.impl.length = 0
  ·have:=hz h; simp only [Bool.and_eq_true] at this; simp [h,this.2]
  ·simp [h]
 ·simp [k1,k2,k3,k4,k5]
theorem doc_eq (l:List DefT):docOk l = ltB 1 64 l zb9:=by
 unfold docOk
 rw [show inB 1 64 l defOk = _ from zp5 1 64 l defOk,def_eq]
end Go.Proofs.YtfgelheiknmjgaaGreatDoor

