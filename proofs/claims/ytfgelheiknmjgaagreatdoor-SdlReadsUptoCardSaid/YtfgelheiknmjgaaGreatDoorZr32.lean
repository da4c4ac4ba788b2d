
/-
 Texts joined: D6 D7 W4.
-/
import Derived.Test.YtfgelheiknmjgaaGreatDoorZr31
import Derived.Test.YtfgelheiknmjgaaGreatDoorZr7
set_option maxRecDepth 1000000
set_option maxHeartbeats 8000000
namespace Go.Proofs.YtfgelheiknmjgaaGreatDoor
open Go.RowKit
def zw8 (x:DefT):Bool :=
 if x.kind=1 then zk3 x.fields&&(decide (x.members.length=0)&&decide (x.inputs.length=0))
 else if x.kind=2 then decide (x.impl.length=0)&&(zk3 x.fields&&(decide (x.members.length=0)&&decide (x.inputs.length=0)))
 else if x.kind=3 then decide (x.impl.length=0)&&(decide (x.fields.length=0)&&(zg4 true x.members&&decide (x.inputs.length=0)))
 else if x.kind=4 then decide (x.impl.length=0)&&(decide (x.fields.length=0)&&(zg4 false x.members&&decide (x.inputs.length=0)))
 else if x.kind=5 then decide (x.impl.length=0)&&(decide (x.fields.length=0)&&(decide (x.members.length=0)&&(decide (x.inputs.length≠0)&&zh0 x.inputs)))
 else false
def zi3 (x:DefT):Bool:=nmA x.name&&(zd8 x.dirs&&(decide (x.impl.length<=64)&&(x.impl.all nmA&&zw8 x)))
def defsZ (l:List DefT):Prop:=∀ x∈l,dirsZ x.dirs/\fldsZ x.fields/\memsZ x.members/\inpsZ x.inputs
theorem zE0 (x:DefT) (f:Nat->Value) (w:World) (h:DefR w w.heap.size f x) (hz:dirsZ x.dirs/\fldsZ x.fields/\memsZ x.members/\inpsZ x.inputs):Calls Tryz.prog 23 #[.agg #[f 0,f 1,f 2,f 3,f 4,f 5,f 6]] w (BP (zi3 x) w):=by
 obtain ⟨A2,c2,e2,hc2,hb2,V2,hA2,hR2⟩:=h.impl;obtain ⟨A3,c3,e3,_,_⟩:=h.dirs.form;obtain ⟨A4,c4,e4,_,hb4⟩:=h.fields.form;obtain ⟨A5,c5,e5,_,hb5⟩:=h.members.form;obtain ⟨A6,c6,e6,_,hb6⟩:=h.inputs.form;have H3:=h.dirs;have H4:=h.fields;have H5:=h.members;have H6:=h.inputs;rw [e3] at H3;rw [e4] at H4;rw [e5] at H5;rw [e6] at H6;rw [h.kind,h.name,e2,e3,e4,e5,e6];replace H3:=Lh H3;have HN:=Lh h.size;have HZ:=Lh hz;unfold big at hb2 hb4 hb5 hb6;have m2:(x.impl.length:Int)<=140737488351232:=by omega
 have m4:(x.fields.length:Int)<=140737488351232:=by omega
 have m5:(x.members.length:Int)<=140737488351232:=by omega
 have m6:(x.inputs.length:Int)<=140737488351232:=by omega
 clear e2 e3 e4 e5 e6 h hz hb2 hb4 hb5 hb6 hc2;have HV:Hid (zi3 x=(nmA x.name&&(zd8 x.dirs&&(decide (x.impl.length<=64)&&(x.impl.all nmA&&zw8 x))))):=Lh rfl;have HT:Hid (zw8 x=if x.kind=1 then zk3 x.fields&&(decide (x.members.length=0)&&decide (x.inputs.length=0))
  else if x.kind=2 then decide (x.impl.length=0)&&(zk3 x.fields&&(decide (x.members.length=0)&&decide (x.inputs.length=0)))
  else if x.kind=3 then decide (x.impl.length=0)&&(decide (x.fields.length=0)&&(zg4 true x.members&&decide (x.inputs.length=0)))
  else if x.kind=4 then decide (x.impl.length=0)&&(decide (x.fields.length=0)&&(zg4 false x.members&&decide (x.inputs.length=0)))
  else if x.kind=5 then decide (x.impl.length=0)&&(decide (x.fields.length=0)&&(decide (x.members.length=0)&&(decide (x.inputs.length≠0)&&zh0 x.inputs)))
  else false):=Lh rfl
 generalize zi3 x=RB at *;generalize zw8 x=TB at *;obtain ⟨l2,h2⟩ : ∃ l2,l2=x.impl.length:=⟨_,rfl⟩;obtain ⟨l4,h4⟩ : ∃ l4,l4=x.fields.length:=⟨_,rfl⟩;obtain ⟨l5,h5⟩ : ∃ l5,l5=x.members.length:=⟨_,rfl⟩;obtain ⟨l6,h6⟩ : ∃ l6,l6=x.inputs.length:=⟨_,rfl⟩;rw [<- h2] at HV HT m2 hA2 ⊢;rw [<- h4] at HT m4 H4 ⊢;rw [<- h5] at HT m5 H5 ⊢;rw [<- h6] at HT m6 H6 ⊢;generalize x.kind=kd at *;replace H4:=Lh H4;replace H5:=Lh H5;replace H6:=Lh H6;have HA2:=Lh hA2;have HR2:=Lh hR2;have HL2:=Lh h2;clear h4 h5 h6 h2 hA2 hR2;have HB0:Hid (Below w.heap.size w (w.alloc (.cells #[.int .i64 kd,.string x.name,.slice A2 l2 c2,.slice A3 x.dirs.length c3,.slice A4 l4 c4,.slice A5 l5 c5,.slice A6 l6 c6] 39 (0,0)))):=Lh (za1 _ _);have HX0:Hid (Bk (w.alloc (.cells #[.int .i64 kd,.string x.name,.slice A2 l2 c2,.slice A3 x.dirs.length c3,.slice A4 l4 c4,.slice A5 l5 c5,.slice A6 l6 c6] 39 (0,0))) w.heap.size #[.int .i64 kd,.string x.name,.slice A2 l2 c2,.slice A3 x.dirs.length c3,.slice A4 l4 c4,.slice A5 l5 c5,.slice A6 l6 c6] 39):=Lh (Bk.new _ _ _)
 go_enter Tryz.func23, Tryz.ntmps23
 go_wp2_with fail
 refine (zn1 x.name _ HN.out).mono ?_
 rintro e w1 ⟨rfl,rfl⟩
 cases v:nmA x.name with
 | false =>
   have v0:=Lh v;clear v;go_wp2_with fail
   go_ret
   exact ⟨by rw [HV.out,v0.out,Bool.false_and]; rfl,HB0.out⟩
 | true =>
   have v0:=Lh v;clear v;have q0:=HX0.out.cell 0 _ rfl;have q1:=HX0.out.cell 1 _ rfl;have q2:=HX0.out.cell 2 _ rfl;have q3:=HX0.out.cell 3 _ rfl;have q4:=HX0.out.cell 4 _ rfl;have q5:=HX0.out.cell 5 _ rfl;have q6:=HX0.out.cell 6 _ rfl;go_wp2_with fail
   refine (zf5 x.dirs _ _ ((H3.out.kept HB0.out).mono HB0.out.size) HZ.out.1).mono ?_
   rintro e w2 ⟨rfl,hb⟩;clear q0 q1 q2 q3 q4 q5 q6;have HB1:=Lh (HB0.out.trans (Below.mono hb HB0.out.size));have HX1:=Lh (HX0.out.stay hb);clear hb;have q0:=HX1.out.cell 0 _ rfl;have q1:=HX1.out.cell 1 _ rfl;have q2:=HX1.out.cell 2 _ rfl;have q3:=HX1.out.cell 3 _ rfl;have q4:=HX1.out.cell 4 _ rfl;have q5:=HX1.out.cell 5 _ rfl;have q6:=HX1.out.cell 6 _ rfl
   cases v:zd8 x.dirs with
   | false =>
     have v1:=Lh v;clear v;go_wp2_with fail
     go_ret
     exact ⟨by rw [HV.out,v0.out,Bool.true_and,v1.out,Bool.false_and]; rfl,HB1.out⟩
   | true =>
     have v1:=Lh v;clear v;by_cases hg1:64<l2
     ·have hg3:(l2:Int) > 64:=by omega
      have v2:Hid (decide (l2<=64)=false):=Lh (decide_eq_false (by omega))
      clear hg1;go_wp2_with fail
      go_ret
      exact ⟨by rw [HV.out,v0.out,Bool.true_and,v1.out,Bool.true_and,v2.out,Bool.false_and]; rfl,HB1.out⟩
     have hg3:¬ (l2:Int) > 64:=by omega
     have v2:Hid (decide (l2<=64)=true):=Lh (decide_eq_true (by omega))
     clear hg1;go_wp2_with fail
     clear hg3;clear q0 q1 q2 q3 q4 q5 q6
     go_loopw [3] (fun u wr=>∃ i:Nat,i<=l2/\u=.int .i64 i/\Hid ((∀ (j:Nat) (y:ByteArray),j<i->x.impl[j]?=some y->nmA y=true)/\Below w.heap.size w wr/\Bk wr w.heap.size #[.int .i64 kd,.string x.name,.slice A2 l2 c2,.slice A3 x.dirs.length c3,.slice A4 l4 c4,.slice A5 l5 c5,.slice A6 l6 c6] 39)) (fun u _=>l2-(intOf u).toNat)
     case atStart=>exact ⟨0,Nat.zero_le _,rfl,Lh ⟨fun _ _ h=>absurd h (Nat.not_lt_zero _),HB1.out,HX1.out⟩⟩
     case round =>
      obtain ⟨i,hi,rfl,hr⟩:=hrel;have HB2:=Lh hr.out.2.1;have HX2:=Lh hr.out.2.2;have q0:=HX2.out.cell 0 _ rfl;have q1:=HX2.out.cell 1 _ rfl;have q2:=HX2.out.cell 2 _ rfl;have q3:=HX2.out.cell 3 _ rfl;have q4:=HX2.out.cell 4 _ rfl;have q5:=HX2.out.cell 5 _ rfl;have q6:=HX2.out.cell 6 _ rfl;by_cases hlt:i<l2
      ·have hlt':(i:Int)<l2:=by omega
       obtain ⟨a,ea,ha,hcell⟩:=HA2.out (by omega)
       subst ea;obtain ⟨y,hy⟩ : ∃ y,x.impl[i]?=some y:=⟨_,List.getElem?_eq_getElem (by have:=HL2.out; omega)⟩
       have hry:=HR2.out i y hy;have k0:wr.cell? (a.add i)=some (.string y):=by
        have h1:=((HB2.out.cell (by rw [zb3,za0]; exact ha)).trans (hcell i hlt 0 (by omega))).trans (congrArg some hry.1)
        simpa [at_] using h1
       have HNY:=Lh hry.2;have HY:=Lh hy;clear hcell hry hy;go_wp2_with fail
       refine (zn1 y _ HNY.out).mono ?_
       rintro e w1 ⟨rfl,rfl⟩
       cases v:nmA y with
       | false =>
         have v3:=Lh v;clear v;go_wp2_with fail
         go_ret
         exact ⟨by rw [HV.out,v0.out,Bool.true_and,v1.out,Bool.true_and,v2.out,Bool.true_and,zb2 HY.out v3.out,Bool.false_and]; rfl,HB2.out⟩
       | true =>
         have v3:=Lh v;clear v;go_wp2_with fail
         go_roundw
         case rel=>exact ⟨i+1,by omega,by simp,Lh ⟨zf4 hr.out.1 HY.out v3.out,HB2.out,HX2.out⟩⟩
         case measure=>simp [intOf]; omega
      ·have:i=l2:=by omega
       subst this;have HV2:Hid (RB=TB):=Lh (by rw [HV.out,v0.out,Bool.true_and,v1.out,Bool.true_and,v2.out,Bool.true_and,zi8 fun j y h1 h2=>hr.out.1 j y (by have:=HL2.out; omega) h2,Bool.true_and])
       clear hi;by_cases k1:kd=1
       ·skip
        have HT2:Hid (TB=_):=Lh (HT.out.trans (by rw [if_pos k1]))
        subst k1;go_wp2_with fail
        go_quiet (fail)
        have HB3:Hid (Below w.heap.size w (wr.drewN nq)):=Lh (_root_.Go.below_drewN HB2.out nq);have HX3:Hid (Bk (wr.drewN nq) w.heap.size #[.int .i64 1,.string x.name,.slice A2 i c2,.slice A3 x.dirs.length c3,.slice A4 l4 c4,.slice A5 l5 c5,.slice A6 l6 c6] 39):=Lh HX2.out;go_wp2_with fail
        refine (zm6 x.fields _ _ ((H4.out.kept HB3.out).mono HB3.out.size) HZ.out.2.1).mono ?_
        rintro e w6 ⟨rfl,hb⟩;clear q0 q1 q2 q3 q4 q5 q6;have HB4:=Lh (HB3.out.trans (Below.mono hb HB3.out.size));have HX4:=Lh (HX3.out.stay hb);clear hb;have q0:=HX4.out.cell 0 _ rfl;have q1:=HX4.out.cell 1 _ rfl;have q2:=HX4.out.cell 2 _ rfl;have q3:=HX4.out.cell 3 _ rfl;have q4:=HX4.out.cell 4 _ rfl;have q5:=HX4.out.cell 5 _ rfl;have q6:=HX4.out.cell 6 _ rfl
        cases v:zk3 x.fields with
        | false =>
          have u4:=Lh v;clear v;go_wp2_with fail
          go_ret
          exact ⟨by rw [HV2.out,HT2.out,u4.out,Bool.false_and]; rfl,HB4.out⟩
        | true =>
          have u4:=Lh v;clear v;by_cases z5:l5=0
          ·skip
           have u5:Hid (decide (l5=0)=true):=Lh (by simp [z5])
           have y5:((l5:Int)==0)=true:=by rw [z5]; rfl
           have y5':decide (l5=0)=true:=by rw [z5]; rfl
           clear z5;by_cases z6:l6=0
           ·skip
            have u6:Hid (decide (l6=0)=true):=Lh (by simp [z6])
            have y6:((l6:Int)==0)=true:=by rw [z6]; rfl
            have y6':decide (l6=0)=true:=by rw [z6]; rfl
            clear z6;go_wp2_with fail
            go_ret
            exact ⟨by rw [HV2.out,HT2.out,u4.out,Bool.true_and,u5.out,Bool.true_and,u6.out]; rfl,HB4.out⟩
           ·skip
            have u6:Hid (decide (l6=0)=false):=Lh (by simp [z6])
            have y6:((l6:Int)==0)=false:=by rw [beq_eq_false_iff_ne]; omega
            have y6':decide (l6=0)=false:=decide_eq_false z6;clear z6;go_wp2_with fail
            go_ret
            exact ⟨by rw [HV2.out,HT2.out,u4.out,Bool.true_and,u5.out,Bool.true_and,u6.out]; rfl,HB4.out⟩
          ·skip
           have u5:Hid (decide (l5=0)=false):=Lh (by simp [z5])
           have y5:((l5:Int)==0)=false:=by rw [beq_eq_false_iff_ne]; omega
           have y5':decide (l5=0)=false:=decide_eq_false z5;clear z5;go_wp2_with fail
           go_ret
           exact ⟨by rw [HV2.out,HT2.out,u4.out,Bool.true_and,u5.out,Bool.false_and]; rfl,HB4.out⟩
       by_cases k2:kd=2
       ·skip
        have HT2:Hid (TB=_):=Lh (HT.out.trans (by rw [if_neg k1,if_pos k2]))
        subst k2;clear k1;by_cases z4:i=0
        ·skip
         have u4:Hid (decide (i=0)=true):=Lh (by simp [z4])
         have y4:((i:Int)==0)=true:=by rw [z4]; rfl
         have y4':decide (i=0)=true:=by rw [z4]; rfl
         clear z4;go_wp2_with fail
         go_quiet (fail)
         have HB3:Hid (Below w.heap.size w (wr.drewN nq)):=Lh (_root_.Go.below_drewN HB2.out nq);have HX3:Hid (Bk (wr.drewN nq) w.heap.size #[.int .i64 2,.string x.name,.slice A2 i c2,.slice A3 x.dirs.length c3,.slice A4 l4 c4,.slice A5 l5 c5,.slice A6 l6 c6] 39):=Lh HX2.out;go_wp2_with fail
         refine (zm6 x.fields _ _ ((H4.out.kept HB3.out).mono HB3.out.size) HZ.out.2.1).mono ?_
         rintro e w6 ⟨rfl,hb⟩;clear q0 q1 q2 q3 q4 q5 q6;have HB4:=Lh (HB3.out.trans (Below.mono hb HB3.out.size));have HX4:=Lh (HX3.out.stay hb);clear hb;have q0:=HX4.out.cell 0 _ rfl;have q1:=HX4.out.cell 1 _ rfl;have q2:=HX4.out.cell 2 _ rfl;have q3:=HX4.out.cell 3 _ rfl;have q4:=HX4.out.cell 4 _ rfl;have q5:=HX4.out.cell 5 _ rfl;have q6:=HX4.out.cell 6 _ rfl
         cases v:zk3 x.fields with
         | false =>
           have u5:=Lh v;clear v;go_wp2_with fail
           go_ret
           exact ⟨by rw [HV2.out,HT2.out,u4.out,Bool.true_and,u5.out,Bool.false_and]; rfl,HB4.out⟩
         | true =>
           have u5:=Lh v;clear v;by_cases z6:l5=0
           ·skip
            have u6:Hid (decide (l5=0)=true):=Lh (by simp [z6])
            have y6:((l5:Int)==0)=true:=by rw [z6]; rfl
            have y6':decide (l5=0)=true:=by rw [z6]; rfl
            clear z6;by_cases z7:l6=0
            ·skip
             have u7:Hid (decide (l6=0)=true):=Lh (by simp [z7])
             have y7:((l6:Int)==0)=true:=by rw [z7]; rfl
             have y7':decide (l6=0)=true:=by rw [z7]; rfl
             clear z7;go_wp2_with fail
             go_ret
             exact ⟨by rw [HV2.out,HT2.out,u4.out,Bool.true_and,u5.out,Bool.true_and,u6.out,Bool.true_and,u7.out]; rfl,HB4.out⟩
            ·skip
             have u7:Hid (decide (l6=0)=false):=Lh (by simp [z7])
             have y7:((l6:Int)==0)=false:=by rw [beq_eq_false_iff_ne]; omega
             have y7':decide (l6=0)=false:=decide_eq_false z7;clear z7;go_wp2_with fail
             go_ret
             exact ⟨by rw [HV2.out,HT2.out,u4.out,Bool.true_and,u5.out,Bool.true_and,u6.out,Bool.true_and,u7.out]; rfl,HB4.out⟩
           ·skip
            have u6:Hid (decide (l5=0)=false):=Lh (by simp [z6])
            have y6:((l5:Int)==0)=false:=by rw [beq_eq_false_iff_ne]; omega
            have y6':decide (l5=0)=false:=decide_eq_false z6;clear z6;go_wp2_with fail
            go_ret
            exact ⟨by rw [HV2.out,HT2.out,u4.out,Bool.true_and,u5.out,Bool.true_and,u6.out,Bool.false_and]; rfl,HB4.out⟩
        ·skip
         have u4:Hid (decide (i=0)=false):=Lh (by simp [z4])
         have y4:((i:Int)==0)=false:=by rw [beq_eq_false_iff_ne]; omega
         have y4':decide (i=0)=false:=decide_eq_false z4;clear z4;go_wp2_with fail
         go_quiet (fail)
         have HB3:Hid (Below w.heap.size w (wr.drewN nq)):=Lh (_root_.Go.below_drewN HB2.out nq);have HX3:Hid (Bk (wr.drewN nq) w.heap.size #[.int .i64 2,.string x.name,.slice A2 i c2,.slice A3 x.dirs.length c3,.slice A4 l4 c4,.slice A5 l5 c5,.slice A6 l6 c6] 39):=Lh HX2.out;go_wp2_with fail
         go_ret
         exact ⟨by rw [HV2.out,HT2.out,u4.out,Bool.false_and]; rfl,HB3.out⟩
       by_cases k3:kd=3
       ·skip
        have HT2:Hid (TB=_):=Lh (HT.out.trans (by rw [if_neg k1,if_neg k2,if_pos k3]))
        subst k3;clear k1 k2;by_cases z4:i=0
        ·skip
         have u4:Hid (decide (i=0)=true):=Lh (by simp [z4])
         have y4:((i:Int)==0)=true:=by rw [z4]; rfl
         have y4':decide (i=0)=true:=by rw [z4]; rfl
         clear z4;by_cases z5:l4=0
         ·skip
          have u5:Hid (decide (l4=0)=true):=Lh (by simp [z5])
          have y5:((l4:Int)==0)=true:=by rw [z5]; rfl
          have y5':decide (l4=0)=true:=by rw [z5]; rfl
          clear z5;go_wp2_with fail
          go_quiet (fail)
          have HB3:Hid (Below w.heap.size w (wr.drewN nq)):=Lh (_root_.Go.below_drewN HB2.out nq);have HX3:Hid (Bk (wr.drewN nq) w.heap.size #[.int .i64 3,.string x.name,.slice A2 i c2,.slice A3 x.dirs.length c3,.slice A4 l4 c4,.slice A5 l5 c5,.slice A6 l6 c6] 39):=Lh HX2.out;go_wp2_with fail
          refine (zq5 x.members _ _ ((H5.out.kept HB3.out).mono HB3.out.size) HZ.out.2.2.1).mono ?_
          rintro e w6 ⟨rfl,hb⟩;clear q0 q1 q2 q3 q4 q5 q6;have HB4:=Lh (HB3.out.trans (Below.mono hb HB3.out.size));have HX4:=Lh (HX3.out.stay hb);clear hb;have q0:=HX4.out.cell 0 _ rfl;have q1:=HX4.out.cell 1 _ rfl;have q2:=HX4.out.cell 2 _ rfl;have q3:=HX4.out.cell 3 _ rfl;have q4:=HX4.out.cell 4 _ rfl;have q5:=HX4.out.cell 5 _ rfl;have q6:=HX4.out.cell 6 _ rfl
          cases v:zg4 true x.members with
          | false =>
            have u6:=Lh v;clear v;go_wp2_with fail
            go_ret
            exact ⟨by rw [HV2.out,HT2.out,u4.out,Bool.true_and,u5.out,Bool.true_and,u6.out,Bool.false_and]; rfl,HB4.out⟩
          | true =>
            have u6:=Lh v;clear v;by_cases z7:l6=0
            ·skip
             have u7:Hid (decide (l6=0)=true):=Lh (by simp [z7])
             have y7:((l6:Int)==0)=true:=by rw [z7]; rfl
             have y7':decide (l6=0)=true:=by rw [z7]; rfl
             clear z7;go_wp2_with fail
             go_ret
             exact ⟨by rw [HV2.out,HT2.out,u4.out,Bool.true_and,u5.out,Bool.true_and,u6.out,Bool.true_and,u7.out]; rfl,HB4.out⟩
            ·skip
             have u7:Hid (decide (l6=0)=false):=Lh (by simp [z7])
             have y7:((l6:Int)==0)=false:=by rw [beq_eq_false_iff_ne]; omega
             have y7':decide (l6=0)=false:=decide_eq_false z7;clear z7;go_wp2_with fail
             go_ret
             exact ⟨by rw [HV2.out,HT2.out,u4.out,Bool.true_and,u5.out,Bool.true_and,u6.out,Bool.true_and,u7.out]; rfl,HB4.out⟩
         ·skip
          have u5:Hid (decide (l4=0)=false):=Lh (by simp [z5])
          have y5:((l4:Int)==0)=false:=by rw [beq_eq_false_iff_ne]; omega
          have y5':decide (l4=0)=false:=decide_eq_false z5;clear z5;go_wp2_with fail
          go_quiet (fail)
          have HB3:Hid (Below w.heap.size w (wr.drewN nq)):=Lh (_root_.Go.below_drewN HB2.out nq);have HX3:Hid (Bk (wr.drewN nq) w.heap.size #[.int .i64 3,.string x.name,.slice A2 i c2,.slice A3 x.dirs.length c3,.slice A4 l4 c4,.slice A5 l5 c5,.slice A6 l6 c6] 39):=Lh HX2.out;go_wp2_with fail
          go_ret
          exact ⟨by rw [HV2.out,HT2.out,u4.out,Bool.true_and,u5.out,Bool.false_and]; rfl,HB3.out⟩
        ·skip
         have u4:Hid (decide (i=0)=false):=Lh (by simp [z4])
         have y4:((i:Int)==0)=false:=by rw [beq_eq_false_iff_ne]; omega
         have y4':decide (i=0)=false:=decide_eq_false z4;clear z4;go_wp2_with fail
         go_quiet (fail)
         have HB3:Hid (Below w.heap.size w (wr.drewN nq)):=Lh (_root_.Go.below_drewN HB2.out nq);have HX3:Hid (Bk (wr.drewN nq) w.heap.size #[.int .i64 3,.string x.name,.slice A2 i c2,.slice A3 x.dirs.length c3,.slice A4 l4 c4,.slice A5 l5 c5,.slice A6 l6 c6] 39):=Lh HX2.out;go_wp2_with fail
         go_ret
         exact ⟨by rw [HV2.out,HT2.out,u4.out,Bool.false_and]; rfl,HB3.out⟩
       by_cases k4:kd=4
       ·skip
        have HT2:Hid (TB=_):=Lh (HT.out.trans (by rw [if_neg k1,if_neg k2,if_neg k3,if_pos k4]))
        subst k4;clear k1 k2 k3;by_cases z4:i=0
        ·skip
         have u4:Hid (decide (i=0)=true):=Lh (by simp [z4])
         have y4:((i:Int)==0)=true:=by rw [z4]; rfl
         have y4':decide (i=0)=true:=by rw [z4]; rfl
         clear z4;by_cases z5:l4=0
         ·skip
          have u5:Hid (decide (l4=0)=true):=Lh (by simp [z5])
          have y5:((l4:Int)==0)=true:=by rw [z5]; rfl
          have y5':decide (l4=0)=true:=by rw [z5]; rfl
          clear z5;go_wp2_with fail
          go_quiet (fail)
          have HB3:Hid (Below w.heap.size w (wr.drewN nq)):=Lh (_root_.Go.below_drewN HB2.out nq);have HX3:Hid (Bk (wr.drewN nq) w.heap.size #[.int .i64 4,.string x.name,.slice A2 i c2,.slice A3 x.dirs.length c3,.slice A4 l4 c4,.slice A5 l5 c5,.slice A6 l6 c6] 39):=Lh HX2.out;go_wp2_with fail
          refine (zq6 x.members _ _ ((H5.out.kept HB3.out).mono HB3.out.size) HZ.out.2.2.1).mono ?_
          rintro e w6 ⟨rfl,hb⟩;clear q0 q1 q2 q3 q4 q5 q6;have HB4:=Lh (HB3.out.trans (Below.mono hb HB3.out.size));have HX4:=Lh (HX3.out.stay hb);clear hb;have q0:=HX4.out.cell 0 _ rfl;have q1:=HX4.out.cell 1 _ rfl;have q2:=HX4.out.cell 2 _ rfl;have q3:=HX4.out.cell 3 _ rfl;have q4:=HX4.out.cell 4 _ rfl;have q5:=HX4.out.cell 5 _ rfl;have q6:=HX4.out.cell 6 _ rfl
          cases v:zg4 false x.members with
          | false =>
            have u6:=Lh v;clear v;go_wp2_with fail
            go_ret
            exact ⟨by rw [HV2.out,HT2.out,u4.out,Bool.true_and,u5.out,Bool.true_and,u6.out,Bool.false_and]; rfl,HB4.out⟩
          | true =>
            have u6:=Lh v;clear v;by_cases z7:l6=0
            ·skip
             have u7:Hid (decide (l6=0)=true):=Lh (by simp [z7])
             have y7:((l6:Int)==0)=true:=by rw [z7]; rfl
             have y7':decide (l6=0)=true:=by rw [z7]; rfl
             clear z7;go_wp2_with fail
             go_ret
             exact ⟨by rw [HV2.out,HT2.out,u4.out,Bool.true_and,u5.out,Bool.true_and,u6.out,Bool.true_and,u7.out]; rfl,HB4.out⟩
            ·skip
             have u7:Hid (decide (l6=0)=false):=Lh (by simp [z7])
             have y7:((l6:Int)==0)=false:=by rw [beq_eq_false_iff_ne]; omega
             have y7':decide (l6=0)=false:=decide_eq_false z7;clear z7;go_wp2_with fail
             go_ret
             exact ⟨by rw [HV2.out,HT2.out,u4.out,Bool.true_and,u5.out,Bool.true_and,u6.out,Bool.true_and,u7.out]; rfl,HB4.out⟩
         ·skip
          have u5:Hid (decide (l4=0)=false):=Lh (by simp [z5])
          have y5:((l4:Int)==0)=false:=by rw [beq_eq_false_iff_ne]; omega
          have y5':decide (l4=0)=false:=decide_eq_false z5;clear z5;go_wp2_with fail
          go_quiet (fail)
          have HB3:Hid (Below w.heap.size w (wr.drewN nq)):=Lh (_root_.Go.below_drewN HB2.out nq);have HX3:Hid (Bk (wr.drewN nq) w.heap.size #[.int .i64 4,.string x.name,.slice A2 i c2,.slice A3 x.dirs.length c3,.slice A4 l4 c4,.slice A5 l5 c5,.slice A6 l6 c6] 39):=Lh HX2.out;go_wp2_with fail
          go_ret
          exact ⟨by rw [HV2.out,HT2.out,u4.out,Bool.true_and,u5.out,Bool.false_and]; rfl,HB3.out⟩
        ·skip
         have u4:Hid (decide (i=0)=false):=Lh (by simp [z4])
         have y4:((i:Int)==0)=false:=by rw [beq_eq_false_iff_ne]; omega
         have y4':decide (i=0)=false:=decide_eq_false z4;clear z4;go_wp2_with fail
         go_quiet (fail)
         have HB3:Hid (Below w.heap.size w (wr.drewN nq)):=Lh (_root_.Go.below_drewN HB2.out nq);have HX3:Hid (Bk (wr.drewN nq) w.heap.size #[.int .i64 4,.string x.name,.slice A2 i c2,.slice A3 x.dirs.length c3,.slice A4 l4 c4,.slice A5 l5 c5,.slice A6 l6 c6] 39):=Lh HX2.out;go_wp2_with fail
         go_ret
         exact ⟨by rw [HV2.out,HT2.out,u4.out,Bool.false_and]; rfl,HB3.out⟩
       by_cases k5:kd=5
       ·skip
        have HT2:Hid (TB=_):=Lh (HT.out.trans (by rw [if_neg k1,if_neg k2,if_neg k3,if_neg k4,if_pos k5]))
        subst k5;clear k1 k2 k3 k4;by_cases z4:i=0
        ·skip
         have u4:Hid (decide (i=0)=true):=Lh (by simp [z4])
         have y4:((i:Int)==0)=true:=by rw [z4]; rfl
         have y4':decide (i=0)=true:=by rw [z4]; rfl
         clear z4;by_cases z5:l4=0
         ·skip
          have u5:Hid (decide (l4=0)=true):=Lh (by simp [z5])
          have y5:((l4:Int)==0)=true:=by rw [z5]; rfl
          have y5':decide (l4=0)=true:=by rw [z5]; rfl
          clear z5;by_cases z6:l5=0
          ·skip
           have u6:Hid (decide (l5=0)=true):=Lh (by simp [z6])
           have y6:((l5:Int)==0)=true:=by rw [z6]; rfl
           have y6':decide (l5=0)=true:=by rw [z6]; rfl
           clear z6;by_cases z7:l6=0
           ·skip
            have u7:Hid (decide (l6≠0)=false):=Lh (by simp [z7])
            have y7:((l6:Int)==0)=true:=by rw [z7]; rfl
            have y7':decide (l6=0)=true:=by rw [z7]; rfl
            have yy7:¬ (l6:Int) > 0:=by omega
            clear z7;go_wp2_with fail
            go_quiet (fail)
            have HB3:Hid (Below w.heap.size w (wr.drewN nq)):=Lh (_root_.Go.below_drewN HB2.out nq);have HX3:Hid (Bk (wr.drewN nq) w.heap.size #[.int .i64 5,.string x.name,.slice A2 i c2,.slice A3 x.dirs.length c3,.slice A4 l4 c4,.slice A5 l5 c5,.slice A6 l6 c6] 39):=Lh HX2.out;go_wp2_with fail
            go_ret
            exact ⟨by rw [HV2.out,HT2.out,u4.out,Bool.true_and,u5.out,Bool.true_and,u6.out,Bool.true_and,u7.out,Bool.false_and]; rfl,HB3.out⟩
           ·skip
            have u7:Hid (decide (l6≠0)=true):=Lh (by simp [z7])
            have y7:((l6:Int)==0)=false:=by rw [beq_eq_false_iff_ne]; omega
            have y7':decide (l6=0)=false:=decide_eq_false z7;have yy7:(l6:Int) > 0:=by omega
            clear z7;go_wp2_with fail
            go_quiet (fail)
            have HB3:Hid (Below w.heap.size w (wr.drewN nq)):=Lh (_root_.Go.below_drewN HB2.out nq);have HX3:Hid (Bk (wr.drewN nq) w.heap.size #[.int .i64 5,.string x.name,.slice A2 i c2,.slice A3 x.dirs.length c3,.slice A4 l4 c4,.slice A5 l5 c5,.slice A6 l6 c6] 39):=Lh HX2.out;go_wp2_with fail
            refine (zm5 x.inputs _ _ ((H6.out.kept HB3.out).mono HB3.out.size) HZ.out.2.2.2).mono ?_
            rintro e w6 ⟨rfl,hb⟩;clear q0 q1 q2 q3 q4 q5 q6;have HB4:=Lh (HB3.out.trans (Below.mono hb HB3.out.size));have HX4:=Lh (HX3.out.stay hb);clear hb;have q0:=HX4.out.cell 0 _ rfl;have q1:=HX4.out.cell 1 _ rfl;have q2:=HX4.out.cell 2 _ rfl;have q3:=HX4.out.cell 3 _ rfl;have q4:=HX4.out.cell 4 _ rfl;have q5:=HX4.out.cell 5 _ rfl;have q6:=HX4.out.cell 6 _ rfl
            cases v:zh0 x.inputs with
            | false =>
              have u8:=Lh v;clear v;go_wp2_with fail
              go_ret
              exact ⟨by rw [HV2.out,HT2.out,u4.out,Bool.true_and,u5.out,Bool.true_and,u6.out,Bool.true_and,u7.out,Bool.true_and,u8.out]; rfl,HB4.out⟩
            | true =>
              have u8:=Lh v;clear v;go_wp2_with fail
              go_ret
              exact ⟨by rw [HV2.out,HT2.out,u4.out,Bool.true_and,u5.out,Bool.true_and,u6.out,Bool.true_and,u7.out,Bool.true_and,u8.out]; rfl,HB4.out⟩
          ·skip
           have u6:Hid (decide (l5=0)=false):=Lh (by simp [z6])
           have y6:((l5:Int)==0)=false:=by rw [beq_eq_false_iff_ne]; omega
           have y6':decide (l5=0)=false:=decide_eq_false z6;clear z6;go_wp2_with fail
           go_quiet (fail)
           have HB3:Hid (Below w.heap.size w (wr.drewN nq)):=Lh (_root_.Go.below_drewN HB2.out nq);have HX3:Hid (Bk (wr.drewN nq) w.heap.size #[.int .i64 5,.string x.name,.slice A2 i c2,.slice A3 x.dirs.length c3,.slice A4 l4 c4,.slice A5 l5 c5,.slice A6 l6 c6] 39):=Lh HX2.out;go_wp2_with fail
           go_ret
           exact ⟨by rw [HV2.out,HT2.out,u4.out,Bool.true_and,u5.out,Bool.true_and,u6.out,Bool.false_and]; rfl,HB3.out⟩
         ·skip
          have u5:Hid (decide (l4=0)=false):=Lh (by simp [z5])
          have y5:((l4:Int)==0)=false:=by rw [beq_eq_false_iff_ne]; omega
          have y5':decide (l4=0)=false:=decide_eq_false z5;clear z5;go_wp2_with fail
          go_quiet (fail)
          have HB3:Hid (Below w.heap.size w (wr.drewN nq)):=Lh (_root_.Go.below_drewN HB2.out nq);have HX3:Hid (Bk (wr.drewN nq) w.heap.size #[.int .i64 5,.string x.name,.slice A2 i c2,.slice A3 x.dirs.length c3,.slice A4 l4 c4,.slice A5 l5 c5,.slice A6 l6 c6] 39):=Lh HX2.out;go_wp2_with fail
          go_ret
          exact ⟨by rw [HV2.out,HT2.out,u4.out,Bool.true_and,u5.out,Bool.false_and]; rfl,HB3.out⟩
        ·skip
         have u4:Hid (decide (i=0)=false):=Lh (by simp [z4])
         have y4:((i:Int)==0)=false:=by rw [beq_eq_false_iff_ne]; omega
         have y4':decide (i=0)=false:=decide_eq_false z4;clear z4;go_wp2_with fail
         go_quiet (fail)
         have HB3:Hid (Below w.heap.size w (wr.drewN nq)):=Lh (_root_.Go.below_drewN HB2.out nq);have HX3:Hid (Bk (wr.drewN nq) w.heap.size #[.int .i64 5,.string x.name,.slice A2 i c2,.slice A3 x.dirs.length c3,.slice A4 l4 c4,.slice A5 l5 c5,.slice A6 l6 c6] 39):=Lh HX2.out;go_wp2_with fail
         go_ret
         exact ⟨by rw [HV2.out,HT2.out,u4.out,Bool.false_and]; rfl,HB3.out⟩
       have HT2:Hid (TB=false):=Lh (HT.out.trans (by rw [if_neg k1,if_neg k2,if_neg k3,if_neg k4,if_neg k5]))
       have j1:(kd==1)=false:=by rw [beq_eq_false_iff_ne]; exact k1
       have j2:(kd==2)=false:=by rw [beq_eq_false_iff_ne]; exact k2
       have j3:(kd==3)=false:=by rw [beq_eq_false_iff_ne]; exact k3
       have j4:(kd==4)=false:=by rw [beq_eq_false_iff_ne]; exact k4
       have j5:(kd==5)=false:=by rw [beq_eq_false_iff_ne]; exact k5
       clear k1 k2 k3 k4 k5;go_wp2_with fail
       go_quiet (fail)
       have HB3:Hid (Below w.heap.size w (wr.drewN nq)):=Lh (_root_.Go.below_drewN HB2.out nq);go_wp2_with fail
       go_ret
       exact ⟨by rw [HV2.out,HT2.out]; rfl,HB3.out⟩
theorem zM7 (x:DefT) (f:Nat->Value) (w:World) (h:DefR w w.heap.size f x) (hz:dirsZ x.dirs/\fldsZ x.fields/\memsZ x.members/\inpsZ x.inputs) (cs:Array Value) (hc : #[f 0,f 1,f 2,f 3,f 4,f 5,f 6]=cs):Calls Tryz.prog 23 #[.agg cs] w (BP (zi3 x) w):=by
 subst hc;exact zE0 x f w h hz
theorem zV0 (xs:List DefT) (v:Value) (w:World) (h:DefsR w w.heap.size v xs) (hz:defsZ xs):Calls Tryz.prog 9 #[.agg #[v]] w (BP (ltB 1 64 xs zi3) w):=by
 have HZ:=Lh hz;clear hz;have HV:Hid (ltB 1 64 xs zi3=(decide (1<=xs.length)&&(decide (xs.length<=64)&&xs.all zi3))):=Lh rfl;generalize ltB 1 64 xs zi3=RB at *;obtain ⟨A,c,rfl,hc,hb,V,hA,hr⟩:=h;have HA:=Lh hA;have HR:=Lh hr;unfold big at hb;obtain ⟨len,hlen⟩ : ∃ len,len=xs.length:=⟨_,rfl⟩;rw [<- hlen] at HV HA hb ⊢;have HL:=Lh hlen;clear hA hr hc hlen;have hlm:(len:Int)<=140737488351232:=by omega
 clear hb;by_cases hz1:len<1
 ·have hz2:(len:Int)<1:=by omega
  have HV2:Hid (RB=false):=Lh (by rw [HV.out,decide_eq_false (by omega)]; rfl)
  clear hz1
  go_enter Tryz.func9, Tryz.ntmps9
  go_wp2_with fail
  go_ret
  exact ⟨by rw [HV2.out]; rfl,za1 _ _⟩
 have hz2:¬ (len:Int)<1:=by omega
 by_cases hg:64<len
 ·have hg2:(len:Int) > 64:=by omega
  have HV2:Hid (RB=false):=Lh (by rw [HV.out,decide_eq_false (by omega:¬ len<=64)]; simp)
  clear hg
  go_enter Tryz.func9, Tryz.ntmps9
  go_wp2_with fail
  go_ret
  exact ⟨by rw [HV2.out]; rfl,za1 _ _⟩
 have hg2:¬ (len:Int) > 64:=by omega
 have HV2:Hid (RB=xs.all zi3):=Lh (by rw [HV.out,decide_eq_true (by omega:1<=len),decide_eq_true (by omega:len<=64)]; rfl)
 have HBD:Hid (Below w.heap.size w (w.alloc (.cells #[.slice A len c] 24 (0,0)))):=Lh (za1 _ _);have HXD:Hid (Bk (w.alloc (.cells #[.slice A len c] 24 (0,0))) w.heap.size #[.slice A len c] 24):=Lh (Bk.new _ _ _)
 go_enter Tryz.func9, Tryz.ntmps9
 go_wp2_with fail
 clear hg hg2 hz1 hz2
 go_loopw [3] (fun u wr=>∃ i:Nat,i<=len/\u=.int .i64 i/\Hid ((∀ (j:Nat) (y:DefT),j<i->xs[j]?=some y->zi3 y=true)/\Below w.heap.size w wr/\Bk wr w.heap.size #[.slice A len c] 24)) (fun u _=>len-(intOf u).toNat)
 case atStart=>exact ⟨0,Nat.zero_le _,rfl,Lh ⟨fun _ _ h=>absurd h (Nat.not_lt_zero _),HBD.out,HXD.out⟩⟩
 case round =>
  obtain ⟨i,hi,rfl,hr⟩:=hrel;have qd:=hr.out.2.2.cell 0 _ rfl;by_cases hlt:i<len
  ·skip
   have hlt':(i:Int)<len:=by omega
   obtain ⟨a,rfl,ha,hcell⟩:=HA.out (by omega)
   have hcell:=hcell i hlt;obtain ⟨x,hx⟩ : ∃ x,xs[i]?=some x:=⟨_,List.getElem?_eq_getElem (by have:=HL.out; omega)⟩
   have hrx:=HR.out i x hx;obtain ⟨A2,c2,e2,_,_⟩:=hrx.impl.form;obtain ⟨A3,c3,e3,_,_⟩:=hrx.dirs.form;obtain ⟨A4,c4,e4,_,_⟩:=hrx.fields.form;obtain ⟨A5,c5,e5,_,_⟩:=hrx.members.form;obtain ⟨A6,c6,e6,_,_⟩:=hrx.inputs.form;have e0:=hrx.kind;have e1:=hrx.name;have HCE:Hid (∀ W:World,Below w.heap.size w W->W.cell? (a.add (i*7))=some (.int .i64 x.kind)/\W.cell? ⟨(a.add (i*7)).block,(a.add (i*7)).off+1,none⟩=some (.string x.name)/\W.cell? ⟨(a.add (i*7)).block,(a.add (i*7)).off+2,none⟩=some (.slice A2 x.impl.length c2)/\W.cell? ⟨(a.add (i*7)).block,(a.add (i*7)).off+3,none⟩=some (.slice A3 x.dirs.length c3)/\W.cell? ⟨(a.add (i*7)).block,(a.add (i*7)).off+4,none⟩=some (.slice A4 x.fields.length c4)/\W.cell? ⟨(a.add (i*7)).block,(a.add (i*7)).off+5,none⟩=some (.slice A5 x.members.length c5)/\W.cell? ⟨(a.add (i*7)).block,(a.add (i*7)).off+6,none⟩=some (.slice A6 x.inputs.length c6)):=Lh fun W hW=>by
    have hh:∀ j,j<7->W.cell? (at_ (a.add (i*7)) j)=some (V i j):=fun j hj=>(hW.cell (by rw [zb3,za0]; exact ha)).trans (hcell j hj)
    exact ⟨(hh 0 (by omega)).trans (congrArg some e0),(hh 1 (by omega)).trans (congrArg some e1),(hh 2 (by omega)).trans (congrArg some e2),(hh 3 (by omega)).trans (congrArg some e3),(hh 4 (by omega)).trans (congrArg some e4),(hh 5 (by omega)).trans (congrArg some e5),(hh 6 (by omega)).trans (congrArg some e6)⟩
   have HF:=Lh hrx;have hff : #[V i 0,V i 1,V i 2,V i 3,V i 4,V i 5,V i 6]=#[.int .i64 x.kind,.string x.name,.slice A2 x.impl.length c2,.slice A3 x.dirs.length c3,.slice A4 x.fields.length c4,.slice A5 x.members.length c5,.slice A6 x.inputs.length c6]:=by rw [e0,e1,e2,e3,e4,e5,e6]
   replace hff:=Lh hff;have HZX:=Lh (HZ.out x (List.mem_of_getElem? hx));have HPX:Hid (zi3 x=(zi3 x&&true)):=Lh (Bool.and_true _).symm;have HX:=Lh hx;have HB0:=Lh hr.out.2.1;clear hcell hrx hx e0 e1 e2 e3 e4 e5 e6;obtain ⟨k0,k1,k2,k3,k4,k5,k6⟩:=HCE.out _ HB0.out;go_wp2_with fail
   refine (zM7 x (V i) _ (DefR.stays.mono (DefR.stays.kept HF.out HB0.out) HB0.out.size) HZX.out _ hff.out).mono ?_
   rintro e w2 ⟨rfl,hb⟩;clear k0 k1 k2 k3 k4 k5 k6;have HB1:=Lh (HB0.out.trans (Below.mono hb HB0.out.size));have HXX:=Lh (hr.out.2.2.stay hb);clear hb qd
   cases v:zi3 x with
   | false =>
     have v0:=Lh v;clear v;go_wp2_with fail
     go_ret
     exact ⟨by rw [HV2.out,zb2 HX.out (by rw [HPX.out,v0.out,Bool.false_and])]; rfl,HB1.out⟩
   | true =>
     have v0:=Lh v;clear v;go_wp2_with fail
     go_roundw
     case rel=>exact ⟨i+1,by omega,by simp,Lh ⟨zf4 hr.out.1 HX.out (by rw [HPX.out,v0.out,Bool.true_and]),HB1.out,HXX.out⟩⟩
     case measure=>simp [intOf]; omega
  ·have:i=len:=by omega
   subst this;have HVT:Hid (RB=true):=Lh (by rw [HV2.out]; exact zi8 fun j y h1 h2=>hr.out.1 j y (by have:=HL.out; omega) h2)
   go_wp2_with fail
   go_ret
   exact ⟨by rw [HVT.out]; rfl,hr.out.2.1⟩
theorem wk_ge:∀ (l:List ByteArray) (n:Nat),n<=wk n l
 | [],n=>Nat.le_refl _
 | k::r,n=>by
   rw [wk]
   split
   ·have:=wk_ge r (n+1+k.size); omega
   ·omega
theorem ya1 (t:VT):t.wv<=2000->t.size<=t.wv:=by
 induction t using VT.ind with
 | h k n s items keys ih =>
   rw [wv_eq];have h0:=wk_ge keys (1+s.size);have hs:∀ (l:List VT) (m:Nat),(∀ (i:Nat) (t:VT),l[i]?=some t->t.wv<=2000->t.size<=t.wv)->VT.wvs m l<=2000->m+VT.sizes l<=VT.wvs m l:=by
    intro l
    induction l with
    | nil=>intro m _ _; rw [VT.wvs]; simp [VT.sizes]
    | cons t r ihr =>
      intro m hm hle;rw [zv4] at hle ⊢;by_cases hc:m<=2000
      ·rw [if_pos hc] at hle ⊢
       have h2:=ihr (m+t.wv) (fun i t h=>hm (i+1) t h) hle;have h1:=hm 0 t rfl (by omega)
       simp [VT.sizes]; omega
      ·rw [if_neg hc] at hle; omega
   intro hle;have h2:=hs items (wk (1+s.size) keys) ih hle;simp [VT.size]; omega
theorem wda_z:∀ (l:List (ByteArray × VT)) (n:Nat),wda n l<=2000->n<=2000/\∀ a∈l,a.2.size<=2000000
 | [],n,h=>⟨h,fun a ha=>by cases ha⟩
 | a::r,n,h=>by
   rw [wda] at h;by_cases hc:n<=2000
   ·rw [if_pos hc] at h
    obtain ⟨h1,h2⟩:=wda_z r _ h;have h3:=ya1 a.2 (by omega)
    refine ⟨hc,fun b hb=>?_⟩
    rcases List.mem_cons.1 hb with rfl | hb
    ·omega
    ·exact h2 b hb
   ·rw [if_neg hc] at h; omega
theorem wds_z:∀ (l:List DirT) (n:Nat),wds n l<=2000->n<=2000/\dirsZ l
 | [],n,h=>⟨h,fun a ha=>by cases ha⟩
 | a::r,n,h=>by
   rw [wds] at h;by_cases hc:n<=2000
   ·rw [if_pos hc] at h
    obtain ⟨h1,h2⟩:=wds_z r _ h;have h3:=wda_z a.args _ h1;refine ⟨hc,fun b hb=>?_⟩
    rcases List.mem_cons.1 hb with rfl | hb
    ·exact h3.2
    ·exact h2 b hb
   ·rw [if_neg hc] at h; omega
theorem wis_z:∀ (l:List InpT) (n:Nat),wis n l<=2000->n<=2000/\inpsZ l
 | [],n,h=>⟨h,fun a ha=>by cases ha⟩
 | a::r,n,h=>by
   rw [wis] at h;by_cases hc:n<=2000
   ·rw [if_pos hc] at h
    obtain ⟨h1,h2⟩:=wis_z r _ h;have h3:=wds_z a.dirs 0 (by omega)
    have h4:=ya1 a.dflt (by omega)
    refine ⟨hc,fun b hb=>?_⟩
    rcases List.mem_cons.1 hb with rfl | hb
    ·exact ⟨by omega,h3.2⟩
    ·exact h2 b hb
   ·rw [if_neg hc] at h; omega
theorem wfs_z:∀ (l:List FldT) (n:Nat),wfs n l<=2000->n<=2000/\fldsZ l
 | [],n,h=>⟨h,fun a ha=>by cases ha⟩
 | a::r,n,h=>by
   rw [wfs] at h;by_cases hc:n<=2000
   ·rw [if_pos hc] at h
    obtain ⟨h1,h2⟩:=wfs_z r _ h;have h3:=wds_z a.dirs 0 (by omega)
    have h4:=wis_z a.args 0 (by omega)
    refine ⟨hc,fun b hb=>?_⟩
    rcases List.mem_cons.1 hb with rfl | hb
    ·exact ⟨h4.2,h3.2⟩
    ·exact h2 b hb
   ·rw [if_neg hc] at h; omega
theorem wms_z:∀ (l:List MemT) (n:Nat),wms n l<=2000->n<=2000/\memsZ l
 | [],n,h=>⟨h,fun a ha=>by cases ha⟩
 | a::r,n,h=>by
   rw [wms] at h;by_cases hc:n<=2000
   ·rw [if_pos hc] at h
    obtain ⟨h1,h2⟩:=wms_z r _ h;have h3:=wds_z a.dirs 0 (by omega)
    refine ⟨hc,fun b hb=>?_⟩
    rcases List.mem_cons.1 hb with rfl | hb
    ·exact h3.2
    ·exact h2 b hb
   ·rw [if_neg hc] at h; omega
theorem zM2:∀ (l:List DefT) (n:Nat),wdefs n l<=2000->n<=2000/\defsZ l
 | [],n,h=>⟨h,fun a ha=>by cases ha⟩
 | a::r,n,h=>by
   rw [wdefs] at h;by_cases hc:n<=2000
   ·rw [if_pos hc] at h
    obtain ⟨h1,h2⟩:=zM2 r _ h;obtain ⟨h3,h4⟩:=wms_z a.members _ h1;obtain ⟨h5,h6⟩:=wfs_z a.fields _ h3;have h7:=wds_z a.dirs 0 (by omega)
    have h8:=wis_z a.inputs 0 (by omega)
    refine ⟨hc,fun b hb=>?_⟩
    rcases List.mem_cons.1 hb with rfl | hb
    ·exact ⟨h7.2,h6,h4,h8.2⟩
    ·exact h2 b hb
   ·rw [if_neg hc] at h; omega
theorem zG8 (t:VT):zb7 true t=true->zb7 false t=t.closed:=by
 induction t using VT.ind with
 | h k n s is ks ih =>
   have hl:∀ (l:List VT),(∀ (i:Nat) (t:VT),l[i]?=some t->zb7 true t=true->zb7 false t=t.closed)->ze6 true l=true->ze6 false l=VT.closeds l:=by
    intro l
    induction l with
    | nil=>intro _ _; rw [ze6,VT.closeds]
    | cons t r ihr =>
      intro hm hw;rw [ze6,Bool.and_eq_true] at hw;rw [ze6,VT.closeds,hm 0 t rfl hw.1,ihr (fun i t h=>hm (i+1) t h) hw.2]
   intro hw;rw [zb7,Bool.and_eq_true] at hw;rw [zb7,VT.closed,hl is ih hw.2];have hn:nodeB false (.mk k n s is ks)=decide (k≠7):=by
    have h1:=hw.1;unfold nodeB keysB at h1 ⊢;by_cases e0:k=0
    ·subst e0; simpa using h1
    by_cases e1:k=1
    ·subst e1; simpa using h1
    by_cases e2:k=2
    ·subst e2; simpa using h1
    by_cases e3:k=3
    ·subst e3; simpa using h1
    by_cases e4:k=4
    ·subst e4; simpa using h1
    by_cases e5:k=5
    ·subst e5; simpa using h1
    by_cases e6:k=6
    ·subst e6
     simp at h1 ⊢
     exact ⟨h1.1,h1.2.2⟩
    by_cases e7:k=7
    ·subst e7; simp
    ·simp [e0,e1,e2,e3,e4,e5,e6,e7] at h1
   rw [hn,Bool.and_comm]
theorem lit_eq (t:VT):litOk t=(zb9 true t&&t.closed):=by
 unfold litOk
 cases h:zb9 true t with
 | false=>rfl
 | true =>
   rw [Bool.true_and,Bool.true_and];unfold zb9 at h ⊢;simp only [Bool.and_eq_true] at h
   rw [h.1.1,h.1.2,zG8 t h.2]; rfl
theorem null_eq (t:VT):dflOk false t=nulB t:=by
 obtain ⟨k,n,s,is,ks⟩:=t;show (decide (k=0)&&zb9 false (.mk k n s is ks))=(decide (k=0)&&(decide (n=0)&&(decide (s.size=0)&&(decide (is.length=0)&&decide (ks.length=0)))))
 by_cases hk:k=0
 ·subst hk
  rw [decide_eq_true rfl,Bool.true_and,Bool.true_and]
  cases is with
  | nil =>
    unfold zb9;rw [zb7,ze6];unfold nodeB leafB;simp [VT.size,VT.sizes,VT.depth,VT.depths]
    cases decide (n=0) <;> cases decide (s=ByteArray.empty) <;> cases decide (ks=[]) <;> rfl
  | cons a r =>
    unfold zb9;rw [zb7];unfold nodeB leafB;simp
 ·rw [decide_eq_false hk]; rfl
theorem zr5 {α:Type} (a b:Nat) (xs:List α) (p : α->Bool):inB a b xs p=ltB a b xs p:=by
 unfold inB ltB;rw [Bool.and_assoc]
 congr 1
 ·exact decide_eq_decide.2 (by omega)
 ·congr 1
  exact decide_eq_decide.2 (by omega)
theorem inB_zero {α:Type} (xs:List α) (p : α->Bool):inB 0 0 xs p=decide (xs.length=0):=by
 cases xs with
 | nil=>simp [inB]
 | cons a r=>simp [inB]; omega
theorem arg_eq:argOk=zx5:=by funext x; unfold argOk zx5; rw [lit_eq]
theorem dir_eq:dirOk=zx2:=by
 funext x
 unfold dirOk zx2;have h:=zr5 0 16 x.args argOk;rw [show inB 0 16 x.args argOk=_ from h,arg_eq];unfold ltB;simp
theorem zF7:zg7=zd8:=by
 funext l
 unfold zg7 zd8;rw [show inB 0 16 l dirOk=_ from zr5 0 16 l dirOk,dir_eq]
theorem dfl_eq (has:Bool) (t:VT):dflOk has t=if has then zb9 true t&&t.closed else nulB t:=by
 cases has with
 | true=>exact lit_eq t
 | false=>exact null_eq t
theorem inp_eq:inpOk=zx0:=by
 funext x
 unfold inpOk zx0;rw [zF7,dfl_eq]
 congr 2
 exact Bool.and_comm _ _
theorem inps_eq:zB9=zh0:=by
 funext l
 unfold zB9 zh0;rw [show inB 0 16 l inpOk=_ from zr5 0 16 l inpOk,inp_eq]
theorem fld_eq:fldOk=zx1:=by funext x; unfold fldOk zx1; rw [zF7,inps_eq]
theorem memU_eq:zd6=zj5 true:=by
 funext x
 unfold zd6 zj5
 congr 1
 by_cases h:x.dirs.length=0
 ·have e:x.dirs=[]:=List.length_eq_zero_iff.1 h
  rw [e]; decide
 ·have h2:0<x.dirs.length:=by omega
  rw [decide_eq_false h,decide_eq_true h2]; simp
theorem memE_eq:ze7=zj5 false:=by
 funext x
 unfold ze7 zj5;rw [zF7]; simp
theorem def_eq:defOk=zi3:=by
 funext x
 unfold defOk zi3 zb4 zw8 zh9;rw [zF7]
 congr 2
 have h64:inB 0 64 x.impl nmA=(decide (x.impl.length<=64)&&x.impl.all nmA):=by rw [show inB 0 64 x.impl nmA=_ from zr5 0 64 x.impl nmA]; unfold ltB; simp
 have hf:inB 1 64 x.fields fldOk=zk3 x.fields:=by rw [show inB 1 64 x.fields fldOk=_ from zr5 1 64 _ _,fld_eq]; rfl
 have hmu:inB 1 64 x.members zd6=zg4 true x.members:=by rw [show inB 1 64 x.members zd6=_ from zr5 1 64 _ _,memU_eq]; rfl
 have hme:inB 1 64 x.members ze7=zg4 false x.members:=by rw [show inB 1 64 x.members ze7=_ from zr5 1 64 _ _,memE_eq]; rfl
 have hi:inB 1 16 x.inputs inpOk=(decide (x.inputs.length≠0)&&zh0 x.inputs):=by
  rw [show inB 1 16 x.inputs inpOk=_ from zr5 1 16 _ _,inp_eq];unfold zh0 ltB;simp only [Nat.zero_le,decide_true,Bool.true_and]
  congr 1
  exact decide_eq_decide.2 (by omega)
 have hz:x.impl.length=0->(decide (x.impl.length<=64)&&x.impl.all nmA)=true:=fun h=>by rw [List.length_eq_zero_iff.1 h]; rfl
 simp only [inB_zero,h64,hf,hmu,hme,hi]
 by_cases k1:x.kind=1
 ·simp only [k1,if_true,Bool.and_assoc]
 by_cases k2:x.kind=2
 ·simp only [k2,if_true]
  by_cases h:x.impl.length=0
  ·have:=hz h; simp only [Bool.and_eq_true] at this; simp [h,this.2]
  ·simp [h]
 by_cases k3:x.kind=3
 ·simp only [k3,if_true]
  by_cases h:x.impl.length=0
  ·have:=hz h; simp only [Bool.and_eq_true] at this; simp [h,this.2]
  ·simp [h]
 by_cases k4:x.kind=4
 ·simp only [k4,if_true]
  by_cases h:x.impl.length=0
  ·have:=hz h; simp only [Bool.and_eq_true] at this; simp [h,this.2]
  ·simp [h]
 by_cases k5:x.kind=5
 ·simp only [k5,if_true]
  by_cases h:x.impl.length=0
  ·have:=hz h; simp only [Bool.and_eq_true] at this; simp [h,this.2]
  ·simp [h]
 ·simp [k1,k2,k3,k4,k5]
theorem doc_eq (l:List DefT):docOk l=ltB 1 64 l zi3:=by
 unfold docOk;rw [show inB 1 64 l defOk=_ from zr5 1 64 l defOk,def_eq]
end Go.Proofs.YtfgelheiknmjgaaGreatDoor
