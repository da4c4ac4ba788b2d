
/-
 Texts joined: D6 D7.
-/
import Derived.Test.YtfgelheiknmjgaaGreatDoorZt31
set_option maxRecDepth 1000000
set_option maxHeartbeats 8000000
namespace Go.Proofs.YtfgelheiknmjgaaGreatDoor
open Go.RowKit
def zw4 (x:DefT):Bool :=
 if x.kind=1 then zj9 x.fields&&(decide (x.members.length=0)&&decide (x.inputs.length=0))
 else if x.kind=2 then decide (x.impl.length=0)&&(zj9 x.fields&&(decide (x.members.length=0)&&decide (x.inputs.length=0)))
 else if x.kind=3 then decide (x.impl.length=0)&&(decide (x.fields.length=0)&&(zf6 true x.members&&decide (x.inputs.length=0)))
 else if x.kind=4 then decide (x.impl.length=0)&&(decide (x.fields.length=0)&&(zf6 false x.members&&decide (x.inputs.length=0)))
 else if x.kind=5 then decide (x.impl.length=0)&&(decide (x.fields.length=0)&&(decide (x.members.length=0)&&(decide (x.inputs.length≠0)&&zg5 x.inputs)))
 else false
def ze2 (x:DefT):Bool:=nmA x.name&&(zd3 x.dirs&&(decide (x.impl.length<=64)&&(x.impl.all nmA&&zw4 x)))
def defsZ (l:List DefT):Prop:=∀ x∈l,dirsZ x.dirs/\fldsZ x.fields/\memsZ x.members/\inpsZ x.inputs
theorem zG7 (x:DefT) (f:Nat->Value) (w:World) (h:DefR w w.heap.size f x) (hz:dirsZ x.dirs/\fldsZ x.fields/\memsZ x.members/\inpsZ x.inputs):Calls Tryz.prog 23 #[.agg #[f 0,f 1,f 2,f 3,f 4,f 5,f 6]] w (BP (ze2 x) w):=by
 obtain ⟨A2,c2,e2,hc2,hb2,V2,hA2,hR2⟩:=h.impl;obtain ⟨A3,c3,e3,_,_⟩:=h.dirs.form;obtain ⟨A4,c4,e4,_,hb4⟩:=h.fields.form;obtain ⟨A5,c5,e5,_,hb5⟩:=h.members.form;obtain ⟨A6,c6,e6,_,hb6⟩:=h.inputs.form;have H3:=h.dirs;have H4:=h.fields;have H5:=h.members;have H6:=h.inputs;rw [e3] at H3;rw [e4] at H4;rw [e5] at H5;rw [e6] at H6;rw [h.kind,h.name,e2,e3,e4,e5,e6];replace H3:=Lh H3;have HN:=Lh h.size;have HZ:=Lh hz;unfold big at hb2 hb4 hb5 hb6;have m2:(x.impl.length:Int)<=140737488351232:=by omega
 have m4:(x.fields.length:Int)<=140737488351232:=by omega
 have m5:(x.members.length:Int)<=140737488351232:=by omega
 have m6:(x.inputs.length:Int)<=140737488351232:=by omega
 clear e2 e3 e4 e5 e6 h hz hb2 hb4 hb5 hb6 hc2;have HV:Hid (ze2 x=(nmA x.name&&(zd3 x.dirs&&(decide (x.impl.length<=64)&&(x.impl.all nmA&&zw4 x))))):=Lh rfl;have HT:Hid (zw4 x=if x.kind=1 then zj9 x.fields&&(decide (x.members.length=0)&&decide (x.inputs.length=0))
  else if x.kind=2 then decide (x.impl.length=0)&&(zj9 x.fields&&(decide (x.members.length=0)&&decide (x.inputs.length=0)))
  else if x.kind=3 then decide (x.impl.length=0)&&(decide (x.fields.length=0)&&(zf6 true x.members&&decide (x.inputs.length=0)))
  else if x.kind=4 then decide (x.impl.length=0)&&(decide (x.fields.length=0)&&(zf6 false x.members&&decide (x.inputs.length=0)))
  else if x.kind=5 then decide (x.impl.length=0)&&(decide (x.fields.length=0)&&(decide (x.members.length=0)&&(decide (x.inputs.length≠0)&&zg5 x.inputs)))
  else false):=Lh rfl
 generalize ze2 x=RB at *;generalize zw4 x=TB at *;obtain ⟨l2,h2⟩ : ∃ l2,l2=x.impl.length:=⟨_,rfl⟩;obtain ⟨l4,h4⟩ : ∃ l4,l4=x.fields.length:=⟨_,rfl⟩;obtain ⟨l5,h5⟩ : ∃ l5,l5=x.members.length:=⟨_,rfl⟩;obtain ⟨l6,h6⟩ : ∃ l6,l6=x.inputs.length:=⟨_,rfl⟩;rw [<- h2] at HV HT m2 hA2 ⊢;rw [<- h4] at HT m4 H4 ⊢;rw [<- h5] at HT m5 H5 ⊢;rw [<- h6] at HT m6 H6 ⊢;generalize x.kind=kd at *;replace H4:=Lh H4;replace H5:=Lh H5;replace H6:=Lh H6;have HA2:=Lh hA2;have HR2:=Lh hR2;have HL2:=Lh h2;clear h4 h5 h6 h2 hA2 hR2;have HB0:Hid (Below w.heap.size w (w.alloc (.cells #[.int .i64 kd,.string x.name,.slice A2 l2 c2,.slice A3 x.dirs.length c3,.slice A4 l4 c4,.slice A5 l5 c5,.slice A6 l6 c6] 39 (0,0)))):=Lh (za0 _ _);have HX0:Hid (Bk (w.alloc (.cells #[.int .i64 kd,.string x.name,.slice A2 l2 c2,.slice A3 x.dirs.length c3,.slice A4 l4 c4,.slice A5 l5 c5,.slice A6 l6 c6] 39 (0,0))) w.heap.size #[.int .i64 kd,.string x.name,.slice A2 l2 c2,.slice A3 x.dirs.length c3,.slice A4 l4 c4,.slice A5 l5 c5,.slice A6 l6 c6] 39):=Lh (Bk.new _ _ _)
 go_enter Tryz.func23, Tryz.ntmps23
 go_wp2_with fail
 refine (zp2 x.name _ HN.out).mono ?_
 rintro e w1 ⟨rfl,rfl⟩
 cases v:nmA x.name with
 | false =>
   have v0:=Lh v;clear v;go_wp2_with fail;go_ret
   exact ⟨by rw [HV.out,v0.out,Bool.false_and]; rfl,HB0.out⟩
 | true =>
   have v0:=Lh v;clear v;obtain ⟨q0,q1,q2,q3,q4,q5,q6⟩:=HX0.out.c7;go_wp2_with fail;refine (zf8 x.dirs _ _ ((H3.out.kept HB0.out).mono HB0.out.size) HZ.out.1).mono ?_
   rintro e w2 ⟨rfl,hb⟩;clear q0 q1 q2 q3 q4 q5 q6;have HB1:=Lh (HB0.out.trans (Below.mono hb HB0.out.size));have HX1:=Lh (HX0.out.stay hb);clear hb;obtain ⟨q0,q1,q2,q3,q4,q5,q6⟩:=HX1.out.c7
   cases v:zd3 x.dirs with
   | false =>
     have v1:=Lh v;clear v;go_wp2_with fail;go_ret
     exact ⟨by rw [HV.out,v0.out,Bool.true_and,v1.out,Bool.false_and]; rfl,HB1.out⟩
   | true =>
     have v1:=Lh v;clear v;by_cases hg1:64<l2
     ·have hg3:(l2:Int) > 64:=by omega
      have v2:Hid (decide (l2<=64)=false):=Lh (decide_eq_false (by omega));clear hg1;go_wp2_with fail;go_ret
      exact ⟨by rw [HV.out,v0.out,Bool.true_and,v1.out,Bool.true_and,v2.out,Bool.false_and]; rfl,HB1.out⟩
     have hg3:¬ (l2:Int) > 64:=by omega
     have v2:Hid (decide (l2<=64)=true):=Lh (decide_eq_true (by omega));clear hg1;go_wp2_with fail;clear hg3;clear q0 q1 q2 q3 q4 q5 q6
     go_loopw [3] (fun u wr=>∃ i:Nat,i<=l2/\u=.int .i64 i/\Hid ((∀ (j:Nat) (y:ByteArray),j<i->x.impl[j]?=some y->nmA y=true)/\Below w.heap.size w wr/\Bk wr w.heap.size #[.int .i64 kd,.string x.name,.slice A2 l2 c2,.slice A3 x.dirs.length c3,.slice A4 l4 c4,.slice A5 l5 c5,.slice A6 l6 c6] 39)) (fun u _=>l2-(intOf u).toNat)
     case atStart=>exact ⟨0,Nat.zero_le _,rfl,Lh ⟨fun _ _ h=>absurd h (Nat.not_lt_zero _),HB1.out,HX1.out⟩⟩
     case round =>
      obtain ⟨i,hi,rfl,hr⟩:=hrel;have HB2:=Lh hr.out.2.1;have HX2:=Lh hr.out.2.2;obtain ⟨q0,q1,q2,q3,q4,q5,q6⟩:=HX2.out.c7;by_cases hlt:i<l2
      ·have hlt':(i:Int)<l2:=by omega
       obtain ⟨a,ea,ha,hcell⟩:=HA2.out (by omega);subst ea;obtain ⟨y,hy⟩ : ∃ y,x.impl[i]?=some y:=⟨_,List.getElem?_eq_getElem (by have:=HL2.out; omega)⟩;have hry:=HR2.out i y hy;have k0:wr.cell? (a.add i)=some (.string y):=by
        have h1:=((HB2.out.cell (by rw [zb5,za1]; exact ha)).trans (hcell i hlt 0 (by omega))).trans (congrArg some hry.1);simpa [at_] using h1
       have HNY:=Lh hry.2;have HY:=Lh hy;clear hcell hry hy;go_wp2_with fail;refine (zp2 y _ HNY.out).mono ?_
       rintro e w1 ⟨rfl,rfl⟩
       cases v:nmA y with
       | false =>
         have v3:=Lh v;clear v;go_wp2_with fail;go_ret
         exact ⟨by rw [HV.out,v0.out,Bool.true_and,v1.out,Bool.true_and,v2.out,Bool.true_and,zb4 HY.out v3.out,Bool.false_and]; rfl,HB2.out⟩
       | true =>
         have v3:=Lh v;clear v;go_wp2_with fail
         go_roundw
         case rel=>exact ⟨i+1,by omega,by simp,Lh ⟨zf7 hr.out.1 HY.out v3.out,HB2.out,HX2.out⟩⟩
         case measure=>simp [intOf]; omega
      ·have:i=l2:=by omega
       subst this;have HV2:Hid (RB=TB):=Lh (by rw [HV.out,v0.out,Bool.true_and,v1.out,Bool.true_and,v2.out,Bool.true_and,zk7 fun j y h1 h2=>hr.out.1 j y (by have:=HL2.out; omega) h2,Bool.true_and]);clear hi;by_cases k1:kd=1
       ·skip
        have HT2:Hid (TB=_):=Lh (HT.out.trans (by rw [if_pos k1]));subst k1;go_wp2_with fail
        go_quiet (fail)
        have HB3:Hid (Below w.heap.size w (wr.drewN nq)):=Lh (_root_.Go.below_drewN HB2.out nq);have HX3:Hid (Bk (wr.drewN nq) w.heap.size #[.int .i64 1,.string x.name,.slice A2 i c2,.slice A3 x.dirs.length c3,.slice A4 l4 c4,.slice A5 l5 c5,.slice A6 l6 c6] 39):=Lh HX2.out;go_wp2_with fail;refine (zo6 x.fields _ _ ((H4.out.kept HB3.out).mono HB3.out.size) HZ.out.2.1).mono ?_
        rintro e w6 ⟨rfl,hb⟩;clear q0 q1 q2 q3 q4 q5 q6;have HB4:=Lh (HB3.out.trans (Below.mono hb HB3.out.size));have HX4:=Lh (HX3.out.stay hb);clear hb;obtain ⟨q0,q1,q2,q3,q4,q5,q6⟩:=HX4.out.c7
        cases v:zj9 x.fields with
        | false =>
          have u4:=Lh v;clear v;go_wp2_with fail;go_ret
          exact ⟨by rw [HV2.out,HT2.out,u4.out,Bool.false_and]; rfl,HB4.out⟩
        | true =>
          have u4:=Lh v;clear v;by_cases z5:l5=0
          ·skip
           have u5:Hid (decide (l5=0)=true):=Lh (by simp [z5]);have y5:((l5:Int)==0)=true:=by rw [z5]; rfl
           have y5':decide (l5=0)=true:=by rw [z5]; rfl
           clear z5;by_cases z6:l6=0
           ·skip
            have u6:Hid (decide (l6=0)=true):=Lh (by simp [z6]);have y6:((l6:Int)==0)=true:=by rw [z6]; rfl
            have y6':decide (l6=0)=true:=by rw [z6]; rfl
            clear z6;go_wp2_with fail;go_ret
            exact ⟨by rw [HV2.out,HT2.out,u4.out,Bool.true_and,u5.out,Bool.true_and,u6.out]; rfl,HB4.out⟩
           ·skip
            have u6:Hid (decide (l6=0)=false):=Lh (by simp [z6]);have y6:((l6:Int)==0)=false:=by rw [beq_eq_false_iff_ne]; omega
            have y6':decide (l6=0)=false:=decide_eq_false z6;clear z6;go_wp2_with fail;go_ret
            exact ⟨by rw [HV2.out,HT2.out,u4.out,Bool.true_and,u5.out,Bool.true_and,u6.out]; rfl,HB4.out⟩
          ·skip
           have u5:Hid (decide (l5=0)=false):=Lh (by simp [z5]);have y5:((l5:Int)==0)=false:=by rw [beq_eq_false_iff_ne]; omega
           have y5':decide (l5=0)=false:=decide_eq_false z5;clear z5;go_wp2_with fail;go_ret
           exact ⟨by rw [HV2.out,HT2.out,u4.out,Bool.true_and,u5.out,Bool.false_and]; rfl,HB4.out⟩
       by_cases k2:kd=2
       ·skip
        have HT2:Hid (TB=_):=Lh (HT.out.trans (by rw [if_neg k1,if_pos k2]));subst k2;clear k1;by_cases z4:i=0
        ·skip
         have u4:Hid (decide (i=0)=true):=Lh (by simp [z4]);have y4:((i:Int)==0)=true:=by rw [z4]; rfl
         have y4':decide (i=0)=true:=by rw [z4]; rfl
         clear z4;go_wp2_with fail
         go_quiet (fail)
         have HB3:Hid (Below w.heap.size w (wr.drewN nq)):=Lh (_root_.Go.below_drewN HB2.out nq);have HX3:Hid (Bk (wr.drewN nq) w.heap.size #[.int .i64 2,.string x.name,.slice A2 i c2,.slice A3 x.dirs.length c3,.slice A4 l4 c4,.slice A5 l5 c5,.slice A6 l6 c6] 39):=Lh HX2.out;go_wp2_with fail;refine (zo6 x.fields _ _ ((H4.out.kept HB3.out).mono HB3.out.size) HZ.out.2.1).mono ?_
         rintro e w6 ⟨rfl,hb⟩;clear q0 q1 q2 q3 q4 q5 q6;have HB4:=Lh (HB3.out.trans (Below.mono hb HB3.out.size));have HX4:=Lh (HX3.out.stay hb);clear hb;obtain ⟨q0,q1,q2,q3,q4,q5,q6⟩:=HX4.out.c7
         cases v:zj9 x.fields with
         | false =>
           have u5:=Lh v;clear v;go_wp2_with fail;go_ret
           exact ⟨by rw [HV2.out,HT2.out,u4.out,Bool.true_and,u5.out,Bool.false_and]; rfl,HB4.out⟩
         | true =>
           have u5:=Lh v;clear v;by_cases z6:l5=0
           ·skip
            have u6:Hid (decide (l5=0)=true):=Lh (by simp [z6]);have y6:((l5:Int)==0)=true:=by rw [z6]; rfl
            have y6':decide (l5=0)=true:=by rw [z6]; rfl
            clear z6;by_cases z7:l6=0
            ·skip
             have u7:Hid (decide (l6=0)=true):=Lh (by simp [z7]);have y7:((l6:Int)==0)=true:=by rw [z7]; rfl
             have y7':decide (l6=0)=true:=by rw [z7]; rfl
             clear z7;go_wp2_with fail;go_ret
             exact ⟨by rw [HV2.out,HT2.out,u4.out,Bool.true_and,u5.out,Bool.true_and,u6.out,Bool.true_and,u7.out]; rfl,HB4.out⟩
            ·skip
             have u7:Hid (decide (l6=0)=false):=Lh (by simp [z7]);have y7:((l6:Int)==0)=false:=by rw [beq_eq_false_iff_ne]; omega
             have y7':decide (l6=0)=false:=decide_eq_false z7;clear z7;go_wp2_with fail;go_ret
             exact ⟨by rw [HV2.out,HT2.out,u4.out,Bool.true_and,u5.out,Bool.true_and,u6.out,Bool.true_and,u7.out]; rfl,HB4.out⟩
           ·skip
            have u6:Hid (decide (l5=0)=false):=Lh (by simp [z6]);have y6:((l5:Int)==0)=false:=by rw [beq_eq_false_iff_ne]; omega
            have y6':decide (l5=0)=false:=decide_eq_false z6;clear z6;go_wp2_with fail;go_ret
            exact ⟨by rw [HV2.out,HT2.out,u4.out,Bool.true_and,u5.out,Bool.true_and,u6.out,Bool.false_and]; rfl,HB4.out⟩
        ·skip
         have u4:Hid (decide (i=0)=false):=Lh (by simp [z4]);have y4:((i:Int)==0)=false:=by rw [beq_eq_false_iff_ne]; omega
         have y4':decide (i=0)=false:=decide_eq_false z4;clear z4;go_wp2_with fail
         go_quiet (fail)
         have HB3:Hid (Below w.heap.size w (wr.drewN nq)):=Lh (_root_.Go.below_drewN HB2.out nq);have HX3:Hid (Bk (wr.drewN nq) w.heap.size #[.int .i64 2,.string x.name,.slice A2 i c2,.slice A3 x.dirs.length c3,.slice A4 l4 c4,.slice A5 l5 c5,.slice A6 l6 c6] 39):=Lh HX2.out;go_wp2_with fail;go_ret
         exact ⟨by rw [HV2.out,HT2.out,u4.out,Bool.false_and]; rfl,HB3.out⟩
       by_cases k3:kd=3
       ·skip
        have HT2:Hid (TB=_):=Lh (HT.out.trans (by rw [if_neg k1,if_neg k2,if_pos k3]));subst k3;clear k1 k2;by_cases z4:i=0
        ·skip
         have u4:Hid (decide (i=0)=true):=Lh (by simp [z4]);have y4:((i:Int)==0)=true:=by rw [z4]; rfl
         have y4':decide (i=0)=true:=by rw [z4]; rfl
         clear z4;by_cases z5:l4=0
         ·skip
          have u5:Hid (decide (l4=0)=true):=Lh (by simp [z5]);have y5:((l4:Int)==0)=true:=by rw [z5]; rfl
          have y5':decide (l4=0)=true:=by rw [z5]; rfl
          clear z5;go_wp2_with fail
          go_quiet (fail)
          have HB3:Hid (Below w.heap.size w (wr.drewN nq)):=Lh (_root_.Go.below_drewN HB2.out nq);have HX3:Hid (Bk (wr.drewN nq) w.heap.size #[.int .i64 3,.string x.name,.slice A2 i c2,.slice A3 x.dirs.length c3,.slice A4 l4 c4,.slice A5 l5 c5,.slice A6 l6 c6] 39):=Lh HX2.out;go_wp2_with fail;refine (zu1 x.members _ _ ((H5.out.kept HB3.out).mono HB3.out.size) HZ.out.2.2.1).mono ?_
          rintro e w6 ⟨rfl,hb⟩;clear q0 q1 q2 q3 q4 q5 q6;have HB4:=Lh (HB3.out.trans (Below.mono hb HB3.out.size));have HX4:=Lh (HX3.out.stay hb);clear hb;obtain ⟨q0,q1,q2,q3,q4,q5,q6⟩:=HX4.out.c7
          cases v:zf6 true x.members with
          | false =>
            have u6:=Lh v;clear v;go_wp2_with fail;go_ret
            exact ⟨by rw [HV2.out,HT2.out,u4.out,Bool.true_and,u5.out,Bool.true_and,u6.out,Bool.false_and]; rfl,HB4.out⟩
          | true =>
            have u6:=Lh v;clear v;by_cases z7:l6=0
            ·skip
             have u7:Hid (decide (l6=0)=true):=Lh (by simp [z7]);have y7:((l6:Int)==0)=true:=by rw [z7]; rfl
             have y7':decide (l6=0)=true:=by rw [z7]; rfl
             clear z7;go_wp2_with fail;go_ret
             exact ⟨by rw [HV2.out,HT2.out,u4.out,Bool.true_and,u5.out,Bool.true_and,u6.out,Bool.true_and,u7.out]; rfl,HB4.out⟩
            ·skip
             have u7:Hid (decide (l6=0)=false):=Lh (by simp [z7]);have y7:((l6:Int)==0)=false:=by rw [beq_eq_false_iff_ne]; omega
             have y7':decide (l6=0)=false:=decide_eq_false z7;clear z7;go_wp2_with fail;go_ret
             exact ⟨by rw [HV2.out,HT2.out,u4.out,Bool.true_and,u5.out,Bool.true_and,u6.out,Bool.true_and,u7.out]; rfl,HB4.out⟩
         ·skip
          have u5:Hid (decide (l4=0)=false):=Lh (by simp [z5]);have y5:((l4:Int)==0)=false:=by rw [beq_eq_false_iff_ne]; omega
          have y5':decide (l4=0)=false:=decide_eq_false z5;clear z5;go_wp2_with fail
          go_quiet (fail)
          have HB3:Hid (Below w.heap.size w (wr.drewN nq)):=Lh (_root_.Go.below_drewN HB2.out nq);have HX3:Hid (Bk (wr.drewN nq) w.heap.size #[.int .i64 3,.string x.name,.slice A2 i c2,.slice A3 x.dirs.length c3,.slice A4 l4 c4,.slice A5 l5 c5,.slice A6 l6 c6] 39):=Lh HX2.out;go_wp2_with fail;go_ret
          exact ⟨by rw [HV2.out,HT2.out,u4.out,Bool.true_and,u5.out,Bool.false_and]; rfl,HB3.out⟩
        ·skip
         have u4:Hid (decide (i=0)=false):=Lh (by simp [z4]);have y4:((i:Int)==0)=false:=by rw [beq_eq_false_iff_ne]; omega
         have y4':decide (i=0)=false:=decide_eq_false z4;clear z4;go_wp2_with fail
         go_quiet (fail)
         have HB3:Hid (Below w.heap.size w (wr.drewN nq)):=Lh (_root_.Go.below_drewN HB2.out nq);have HX3:Hid (Bk (wr.drewN nq) w.heap.size #[.int .i64 3,.string x.name,.slice A2 i c2,.slice A3 x.dirs.length c3,.slice A4 l4 c4,.slice A5 l5 c5,.slice A6 l6 c6] 39):=Lh HX2.out;go_wp2_with fail;go_ret
         exact ⟨by rw [HV2.out,HT2.out,u4.out,Bool.false_and]; rfl,HB3.out⟩
       by_cases k4:kd=4
       ·skip
        have HT2:Hid (TB=_):=Lh (HT.out.trans (by rw [if_neg k1,if_neg k2,if_neg k3,if_pos k4]));subst k4;clear k1 k2 k3;by_cases z4:i=0
        ·skip
         have u4:Hid (decide (i=0)=true):=Lh (by simp [z4]);have y4:((i:Int)==0)=true:=by rw [z4]; rfl
         have y4':decide (i=0)=true:=by rw [z4]; rfl
         clear z4;by_cases z5:l4=0
         ·skip
          have u5:Hid (decide (l4=0)=true):=Lh (by simp [z5]);have y5:((l4:Int)==0)=true:=by rw [z5]; rfl
          have y5':decide (l4=0)=true:=by rw [z5]; rfl
          clear z5;go_wp2_with fail
          go_quiet (fail)
          have HB3:Hid (Below w.heap.size w (wr.drewN nq)):=Lh (_root_.Go.below_drewN HB2.out nq);have HX3:Hid (Bk (wr.drewN nq) w.heap.size #[.int .i64 4,.string x.name,.slice A2 i c2,.slice A3 x.dirs.length c3,.slice A4 l4 c4,.slice A5 l5 c5,.slice A6 l6 c6] 39):=Lh HX2.out;go_wp2_with fail;refine (zu2 x.members _ _ ((H5.out.kept HB3.out).mono HB3.out.size) HZ.out.2.2.1).mono ?_
          rintro e w6 ⟨rfl,hb⟩;clear q0 q1 q2 q3 q4 q5 q6;have HB4:=Lh (HB3.out.trans (Below.mono hb HB3.out.size));have HX4:=Lh (HX3.out.stay hb);clear hb;obtain ⟨q0,q1,q2,q3,q4,q5,q6⟩:=HX4.out.c7
          cases v:zf6 false x.members with
          | false =>
            have u6:=Lh v;clear v;go_wp2_with fail;go_ret
            exact ⟨by rw [HV2.out,HT2.out,u4.out,Bool.true_and,u5.out,Bool.true_and,u6.out,Bool.false_and]; rfl,HB4.out⟩
          | true =>
            have u6:=Lh v;clear v;by_cases z7:l6=0
            ·skip
             have u7:Hid (decide (l6=0)=true):=Lh (by simp [z7]);have y7:((l6:Int)==0)=true:=by rw [z7]; rfl
             have y7':decide (l6=0)=true:=by rw [z7]; rfl
             clear z7;go_wp2_with fail;go_ret
             exact ⟨by rw [HV2.out,HT2.out,u4.out,Bool.true_and,u5.out,Bool.true_and,u6.out,Bool.true_and,u7.out]; rfl,HB4.out⟩
            ·skip
             have u7:Hid (decide (l6=0)=false):=Lh (by simp [z7]);have y7:((l6:Int)==0)=false:=by rw [beq_eq_false_iff_ne]; omega
             have y7':decide (l6=0)=false:=decide_eq_false z7;clear z7;go_wp2_with fail;go_ret
             exact ⟨by rw [HV2.out,HT2.out,u4.out,Bool.true_and,u5.out,Bool.true_and,u6.out,Bool.true_and,u7.out]; rfl,HB4.out⟩
         ·skip
          have u5:Hid (decide (l4=0)=false):=Lh (by simp [z5]);have y5:((l4:Int)==0)=false:=by rw [beq_eq_false_iff_ne]; omega
          have y5':decide (l4=0)=false:=decide_eq_false z5;clear z5;go_wp2_with fail
          go_quiet (fail)
          have HB3:Hid (Below w.heap.size w (wr.drewN nq)):=Lh (_root_.Go.below_drewN HB2.out nq);have HX3:Hid (Bk (wr.drewN nq) w.heap.size #[.int .i64 4,.string x.name,.slice A2 i c2,.slice A3 x.dirs.length c3,.slice A4 l4 c4,.slice A5 l5 c5,.slice A6 l6 c6] 39):=Lh HX2.out;go_wp2_with fail;go_ret
          exact ⟨by rw [HV2.out,HT2.out,u4.out,Bool.true_and,u5.out,Bool.false_and]; rfl,HB3.out⟩
        ·skip
         have u4:Hid (decide (i=0)=false):=Lh (by simp [z4]);have y4:((i:Int)==0)=false:=by rw [beq_eq_false_iff_ne]; omega
         have y4':decide (i=0)=false:=decide_eq_false z4;clear z4;go_wp2_with fail
         go_quiet (fail)
         have HB3:Hid (Below w.heap.size w (wr.drewN nq)):=Lh (_root_.Go.below_drewN HB2.out nq);have HX3:Hid (Bk (wr.drewN nq) w.heap.size #[.int .i64 4,.string x.name,.slice A2 i c2,.slice A3 x.dirs.length c3,.slice A4 l4 c4,.slice A5 l5 c5,.slice A6 l6 c6] 39):=Lh HX2.out;go_wp2_with fail;go_ret
         exact ⟨by rw [HV2.out,HT2.out,u4.out,Bool.false_and]; rfl,HB3.out⟩
       by_cases k5:kd=5
       ·skip
        have HT2:Hid (TB=_):=Lh (HT.out.trans (by rw [if_neg k1,if_neg k2,if_neg k3,if_neg k4,if_pos k5]));subst k5;clear k1 k2 k3 k4;by_cases z4:i=0
        ·skip
         have u4:Hid (decide (i=0)=true):=Lh (by simp [z4]);have y4:((i:Int)==0)=true:=by rw [z4]; rfl
         have y4':decide (i=0)=true:=by rw [z4]; rfl
         clear z4;by_cases z5:l4=0
         ·skip
          have u5:Hid (decide (l4=0)=true):=Lh (by simp [z5]);have y5:((l4:Int)==0)=true:=by rw [z5]; rfl
          have y5':decide (l4=0)=true:=by rw [z5]; rfl
          clear z5;by_cases z6:l5=0
          ·skip
           have u6:Hid (decide (l5=0)=true):=Lh (by simp [z6]);have y6:((l5:Int)==0)=true:=by rw [z6]; rfl
           have y6':decide (l5=0)=true:=by rw [z6]; rfl
           clear z6;by_cases z7:l6=0
           ·skip
            have u7:Hid (decide (l6≠0)=false):=Lh (by simp [z7]);have y7:((l6:Int)==0)=true:=by rw [z7]; rfl
            have y7':decide (l6=0)=true:=by rw [z7]; rfl
            have yy7:¬ (l6:Int) > 0:=by omega
            clear z7;go_wp2_with fail
            go_quiet (fail)
            have HB3:Hid (Below w.heap.size w (wr.drewN nq)):=Lh (_root_.Go.below_drewN HB2.out nq);have HX3:Hid (Bk (wr.drewN nq) w.heap.size #[.int .i64 5,.string x.name,.slice A2 i c2,.slice A3 x.dirs.length c3,.slice A4 l4 c4,.slice A5 l5 c5,.slice A6 l6 c6] 39):=Lh HX2.out;go_wp2_with fail;go_ret
            exact ⟨by rw [HV2.out,HT2.out,u4.out,Bool.true_and,u5.out,Bool.true_and,u6.out,Bool.true_and,u7.out,Bool.false_and]; rfl,HB3.out⟩
           ·skip
            have u7:Hid (decide (l6≠0)=true):=Lh (by simp [z7]);have y7:((l6:Int)==0)=false:=by rw [beq_eq_false_iff_ne]; omega
            have y7':decide (l6=0)=false:=decide_eq_false z7;have yy7:(l6:Int) > 0:=by omega
            clear z7;go_wp2_with fail
            go_quiet (fail)
            have HB3:Hid (Below w.heap.size w (wr.drewN nq)):=Lh (_root_.Go.below_drewN HB2.out nq);have HX3:Hid (Bk (wr.drewN nq) w.heap.size #[.int .i64 5,.string x.name,.slice A2 i c2,.slice A3 x.dirs.length c3,.slice A4 l4 c4,.slice A5 l5 c5,.slice A6 l6 c6] 39):=Lh HX2.out;go_wp2_with fail;refine (zo3 x.inputs _ _ ((H6.out.kept HB3.out).mono HB3.out.size) HZ.out.2.2.2).mono ?_
            rintro e w6 ⟨rfl,hb⟩;clear q0 q1 q2 q3 q4 q5 q6;have HB4:=Lh (HB3.out.trans (Below.mono hb HB3.out.size));have HX4:=Lh (HX3.out.stay hb);clear hb;obtain ⟨q0,q1,q2,q3,q4,q5,q6⟩:=HX4.out.c7
            cases v:zg5 x.inputs with
            | false =>
              have u8:=Lh v;clear v;go_wp2_with fail;go_ret
              exact ⟨by rw [HV2.out,HT2.out,u4.out,Bool.true_and,u5.out,Bool.true_and,u6.out,Bool.true_and,u7.out,Bool.true_and,u8.out]; rfl,HB4.out⟩
            | true =>
              have u8:=Lh v;clear v;go_wp2_with fail;go_ret
              exact ⟨by rw [HV2.out,HT2.out,u4.out,Bool.true_and,u5.out,Bool.true_and,u6.out,Bool.true_and,u7.out,Bool.true_and,u8.out]; rfl,HB4.out⟩
          ·skip
           have u6:Hid (decide (l5=0)=false):=Lh (by simp [z6]);have y6:((l5:Int)==0)=false:=by rw [beq_eq_false_iff_ne]; omega
           have y6':decide (l5=0)=false:=decide_eq_false z6;clear z6;go_wp2_with fail
           go_quiet (fail)
           have HB3:Hid (Below w.heap.size w (wr.drewN nq)):=Lh (_root_.Go.below_drewN HB2.out nq);have HX3:Hid (Bk (wr.drewN nq) w.heap.size #[.int .i64 5,.string x.name,.slice A2 i c2,.slice A3 x.dirs.length c3,.slice A4 l4 c4,.slice A5 l5 c5,.slice A6 l6 c6] 39):=Lh HX2.out;go_wp2_with fail;go_ret
           exact ⟨by rw [HV2.out,HT2.out,u4.out,Bool.true_and,u5.out,Bool.true_and,u6.out,Bool.false_and]; rfl,HB3.out⟩
         ·skip
          have u5:Hid (decide (l4=0)=false):=Lh (by simp [z5]);have y5:((l4:Int)==0)=false:=by rw [beq_eq_false_iff_ne]; omega
          have y5':decide (l4=0)=false:=decide_eq_false z5;clear z5;go_wp2_with fail
          go_quiet (fail)
          have HB3:Hid (Below w.heap.size w (wr.drewN nq)):=Lh (_root_.Go.below_drewN HB2.out nq);have HX3:Hid (Bk (wr.drewN nq) w.heap.size #[.int .i64 5,.string x.name,.slice A2 i c2,.slice A3 x.dirs.length c3,.slice A4 l4 c4,.slice A5 l5 c5,.slice A6 l6 c6] 39):=Lh HX2.out;go_wp2_with fail;go_ret
          exact ⟨by rw [HV2.out,HT2.out,u4.out,Bool.true_and,u5.out,Bool.false_and]; rfl,HB3.out⟩
        ·skip
         have u4:Hid (decide (i=0)=false):=Lh (by simp [z4]);have y4:((i:Int)==0)=false:=by rw [beq_eq_false_iff_ne]; omega
         have y4':decide (i=0)=false:=decide_eq_false z4;clear z4;go_wp2_with fail
         go_quiet (fail)
         have HB3:Hid (Below w.heap.size w (wr.drewN nq)):=Lh (_root_.Go.below_drewN HB2.out nq);have HX3:Hid (Bk (wr.drewN nq) w.heap.size #[.int .i64 5,.string x.name,.slice A2 i c2,.slice A3 x.dirs.length c3,.slice A4 l4 c4,.slice A5 l5 c5,.slice A6 l6 c6] 39):=Lh HX2.out;go_wp2_with fail;go_ret
         exact ⟨by rw [HV2.out,HT2.out,u4.out,Bool.false_and]; rfl,HB3.out⟩
       have HT2:Hid (TB=false):=Lh (HT.out.trans (by rw [if_neg k1,if_neg k2,if_neg k3,if_neg k4,if_neg k5]));have j1:(kd==1)=false:=by rw [beq_eq_false_iff_ne]; exact k1
       have j2:(kd==2)=false:=by rw [beq_eq_false_iff_ne]; exact k2
       have j3:(kd==3)=false:=by rw [beq_eq_false_iff_ne]; exact k3
       have j4:(kd==4)=false:=by rw [beq_eq_false_iff_ne]; exact k4
       have j5:(kd==5)=false:=by rw [beq_eq_false_iff_ne]; exact k5
       clear k1 k2 k3 k4 k5;go_wp2_with fail
       go_quiet (fail)
       have HB3:Hid (Below w.heap.size w (wr.drewN nq)):=Lh (_root_.Go.below_drewN HB2.out nq);go_wp2_with fail;go_ret
       exact ⟨by rw [HV2.out,HT2.out]; rfl,HB3.out⟩
theorem zP8 (x:DefT) (f:Nat->Value) (w:World) (h:DefR w w.heap.size f x) (hz:dirsZ x.dirs/\fldsZ x.fields/\memsZ x.members/\inpsZ x.inputs) (cs:Array Value) (hc : #[f 0,f 1,f 2,f 3,f 4,f 5,f 6]=cs):Calls Tryz.prog 23 #[.agg cs] w (BP (ze2 x) w):=by
 subst hc;exact zG7 x f w h hz
theorem zZ2 (xs:List DefT) (v:Value) (w:World) (h:DefsR w w.heap.size v xs) (hz:defsZ xs):Calls Tryz.prog 9 #[.agg #[v]] w (BP (ltB 1 64 xs ze2) w):=by
 have HZ:=Lh hz;clear hz;have HV:Hid (ltB 1 64 xs ze2=(decide (1<=xs.length)&&(decide (xs.length<=64)&&xs.all ze2))):=Lh rfl;generalize ltB 1 64 xs ze2=RB at *;obtain ⟨A,c,rfl,hc,hb,V,hA,hr⟩:=h;have HA:=Lh hA;have HR:=Lh hr;unfold big at hb;obtain ⟨len,hlen⟩ : ∃ len,len=xs.length:=⟨_,rfl⟩;rw [<- hlen] at HV HA hb ⊢;have HL:=Lh hlen;clear hA hr hc hlen;have hlm:(len:Int)<=140737488351232:=by omega
 clear hb;by_cases hz1:len<1
 ·have hz2:(len:Int)<1:=by omega
  have HV2:Hid (RB=false):=Lh (by rw [HV.out,decide_eq_false (by omega)]; rfl);clear hz1
  go_enter Tryz.func9, Tryz.ntmps9
  go_wp2_with fail
  go_ret
  exact ⟨by rw [HV2.out]; rfl,za0 _ _⟩
 have hz2:¬ (len:Int)<1:=by omega
 by_cases hg:64<len
 ·have hg2:(len:Int) > 64:=by omega
  have HV2:Hid (RB=false):=Lh (by rw [HV.out,decide_eq_false (by omega:¬ len<=64)]; simp);clear hg
  go_enter Tryz.func9, Tryz.ntmps9
  go_wp2_with fail
  go_ret
  exact ⟨by rw [HV2.out]; rfl,za0 _ _⟩
 have hg2:¬ (len:Int) > 64:=by omega
 have HV2:Hid (RB=xs.all ze2):=Lh (by rw [HV.out,decide_eq_true (by omega:1<=len),decide_eq_true (by omega:len<=64)]; rfl);have HBD:Hid (Below w.heap.size w (w.alloc (.cells #[.slice A len c] 24 (0,0)))):=Lh (za0 _ _);have HXD:Hid (Bk (w.alloc (.cells #[.slice A len c] 24 (0,0))) w.heap.size #[.slice A len c] 24):=Lh (Bk.new _ _ _)
 go_enter Tryz.func9, Tryz.ntmps9
 go_wp2_with fail
 clear hg hg2 hz1 hz2
 go_loopw [3] (fun u wr=>∃ i:Nat,i<=len/\u=.int .i64 i/\Hid ((∀ (j:Nat) (y:DefT),j<i->xs[j]?=some y->ze2 y=true)/\Below w.heap.size w wr/\Bk wr w.heap.size #[.slice A len c] 24)) (fun u _=>len-(intOf u).toNat)
 case atStart=>exact ⟨0,Nat.zero_le _,rfl,Lh ⟨fun _ _ h=>absurd h (Nat.not_lt_zero _),HBD.out,HXD.out⟩⟩
 case round =>
  obtain ⟨i,hi,rfl,hr⟩:=hrel;have qd:=hr.out.2.2.cell 0 _ rfl;by_cases hlt:i<len
  ·skip
   have hlt':(i:Int)<len:=by omega
   obtain ⟨a,rfl,ha,hcell⟩:=HA.out (by omega);have hcell:=hcell i hlt;obtain ⟨x,hx⟩ : ∃ x,xs[i]?=some x:=⟨_,List.getElem?_eq_getElem (by have:=HL.out; omega)⟩;have hrx:=HR.out i x hx;obtain ⟨A2,c2,e2,_,_⟩:=hrx.impl.form;obtain ⟨A3,c3,e3,_,_⟩:=hrx.dirs.form;obtain ⟨A4,c4,e4,_,_⟩:=hrx.fields.form;obtain ⟨A5,c5,e5,_,_⟩:=hrx.members.form;obtain ⟨A6,c6,e6,_,_⟩:=hrx.inputs.form;have e0:=hrx.kind;have e1:=hrx.name;have HCE:Hid (∀ W:World,Below w.heap.size w W->W.cell? (a.add (i*7))=some (.int .i64 x.kind)/\W.cell? ⟨(a.add (i*7)).block,(a.add (i*7)).off+1,none⟩=some (.string x.name)/\W.cell? ⟨(a.add (i*7)).block,(a.add (i*7)).off+2,none⟩=some (.slice A2 x.impl.length c2)/\W.cell? ⟨(a.add (i*7)).block,(a.add (i*7)).off+3,none⟩=some (.slice A3 x.dirs.length c3)/\W.cell? ⟨(a.add (i*7)).block,(a.add (i*7)).off+4,none⟩=some (.slice A4 x.fields.length c4)/\W.cell? ⟨(a.add (i*7)).block,(a.add (i*7)).off+5,none⟩=some (.slice A5 x.members.length c5)/\W.cell? ⟨(a.add (i*7)).block,(a.add (i*7)).off+6,none⟩=some (.slice A6 x.inputs.length c6)):=Lh fun W hW=>by
    have hh:∀ j,j<7->W.cell? (at_ (a.add (i*7)) j)=some (V i j):=fun j hj=>(hW.cell (by rw [zb5,za1]; exact ha)).trans (hcell j hj);exact ⟨(hh 0 (by omega)).trans (congrArg some e0),(hh 1 (by omega)).trans (congrArg some e1),(hh 2 (by omega)).trans (congrArg some e2),(hh 3 (by omega)).trans (congrArg some e3),(hh 4 (by omega)).trans (congrArg some e4),(hh 5 (by omega)).trans (congrArg some e5),(hh 6 (by omega)).trans (congrArg some e6)⟩
   have HF:=Lh hrx;have hff : #[V i 0,V i 1,V i 2,V i 3,V i 4,V i 5,V i 6]=#[.int .i64 x.kind,.string x.name,.slice A2 x.impl.length c2,.slice A3 x.dirs.length c3,.slice A4 x.fields.length c4,.slice A5 x.members.length c5,.slice A6 x.inputs.length c6]:=by rw [e0,e1,e2,e3,e4,e5,e6]
   replace hff:=Lh hff;have HZX:=Lh (HZ.out x (List.mem_of_getElem? hx));have HPX:Hid (ze2 x=(ze2 x&&true)):=Lh (Bool.and_true _).symm;have HX:=Lh hx;have HB0:=Lh hr.out.2.1;clear hcell hrx hx e0 e1 e2 e3 e4 e5 e6;obtain ⟨k0,k1,k2,k3,k4,k5,k6⟩:=HCE.out _ HB0.out;go_wp2_with fail;refine (zP8 x (V i) _ (DefR.stays.mono (DefR.stays.kept HF.out HB0.out) HB0.out.size) HZX.out _ hff.out).mono ?_
   rintro e w2 ⟨rfl,hb⟩;clear k0 k1 k2 k3 k4 k5 k6;have HB1:=Lh (HB0.out.trans (Below.mono hb HB0.out.size));have HXX:=Lh (hr.out.2.2.stay hb);clear hb qd
   cases v:ze2 x with
   | false =>
     have v0:=Lh v;clear v;go_wp2_with fail;go_ret
     exact ⟨by rw [HV2.out,zb4 HX.out (by rw [HPX.out,v0.out,Bool.false_and])]; rfl,HB1.out⟩
   | true =>
     have v0:=Lh v;clear v;go_wp2_with fail
     go_roundw
     case rel=>exact ⟨i+1,by omega,by simp,Lh ⟨zf7 hr.out.1 HX.out (by rw [HPX.out,v0.out,Bool.true_and]),HB1.out,HXX.out⟩⟩
     case measure=>simp [intOf]; omega
  ·have:i=len:=by omega
   subst this;have HVT:Hid (RB=true):=Lh (by rw [HV2.out]; exact zk7 fun j y h1 h2=>hr.out.1 j y (by have:=HL.out; omega) h2);go_wp2_with fail
   go_ret
   exact ⟨by rw [HVT.out]; rfl,hr.out.2.1⟩
end Go.Proofs.YtfgelheiknmjgaaGreatDoor

