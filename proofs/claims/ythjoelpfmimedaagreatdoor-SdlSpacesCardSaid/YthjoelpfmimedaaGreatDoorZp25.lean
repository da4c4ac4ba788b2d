
/-
 Texts joined: D4 S3 S4.
-/
import Derived.Test.YthjoelpfmimedaaGreatDoorZp22
import Derived.Test.YthjoelpfmimedaaGreatDoorZp24
namespace Go.Proofs.YthjoelpfmimedaaGreatDoor
open Go.RowKit
set_option maxHeartbeats 2000000 in
theorem zE9 (b:Bool) (t:VT) (v:Value) (w:World) (h:Rd w w.heap.size v t):Calls Tryz.prog 161 #[.bool b,v] w (BP (dflOk b t) w):=by
 have HR:=Lib.hid h
 obtain ⟨k,n,s,is,ks⟩:=t
 cases h with
 | @mk _ _ _ A li ci K lk ck _ _ V hk hn hs hks hli hlk hbi hbk hA hr hK =>
 have HB0:Hid (Below w.heap.size w (w.alloc (.cells #[.int .i64 k,.int .i64 n,.string s,.slice A li ci,.slice K lk ck] 59 (0,0)))):=Lib.hid (za0 _ _)
 have HV:Hid (dflOk b (.mk k n s is ks) = if b then litOk (.mk k n s is ks) else decide (k = 0) && zc0 false (.mk k n s is ks)):=Lib.hid rfl
 generalize dflOk b (.mk k n s is ks) = RB at *
 have HC1:=Lib.hid (zn8 (.mk k n s is ks) _ _ ((HR.out.kept HB0.out).mono HB0.out.size))
 have HC2:=Lib.hid (zI8 (.mk k n s is ks) _ w.heap.size _ (HR.out.kept HB0.out) HB0.out.size)
 clear hk hn hs hks hli hlk hbi hbk hA hr hK HR
 cases b with
 | true =>
   go_enter Tryz.func161, Tryz.ntmps161
   go_wp2_with fail
   refine HC1.out.mono ?_
   rintro e w1 ⟨rfl,hb⟩
   have HB:=Lib.hid (HB0.out.trans (Below.mono hb HB0.out.size))
   clear hb
   go_wp2_with fail
   go_ret
   exact ⟨by rw [HV.out]; rfl,HB.out⟩
 | false =>
   by_cases hz:k = 0
   ·subst hz
    go_enter Tryz.func161, Tryz.ntmps161
    go_wp2_with fail
    refine HC2.out.mono ?_
    rintro e w1 ⟨rfl,hb⟩
    have HB:=Lib.hid (HB0.out.trans (Below.mono hb HB0.out.size))
    clear hb
    go_wp2_with fail
    go_ret
    exact ⟨by rw [HV.out]; rfl,HB.out⟩
   ·have hz':(k == 0) = false:=by rw [beq_eq_false_iff_ne]; exact hz
    have HV2:Hid (RB = false):=Lib.hid (by rw [HV.out]; simp [hz])
    clear hz
    go_enter Tryz.func161, Tryz.ntmps161
    go_wp2_with fail
    go_ret
    exact ⟨by rw [HV2.out]; rfl,HB0.out⟩
set_option maxHeartbeats 2000000 in
theorem zh0 (x:InpT) (f:Nat → Value) (w:World) (h:InpR w w.heap.size f x):Calls Tryz.prog 99 #[.agg #[f 0,f 1,f 2,f 3,f 4,f 5,f 6,f 7,f 8,f 9]] w (BP (inpOk x) w):=by
 obtain ⟨k,n,s,A,li,ci,KA,lk,ck,e4,e5,e6,e7,e8⟩:=Rd.form h.val
 obtain ⟨A2,c2,e2,_,_⟩:=h.type.wraps.form
 obtain ⟨A9,c9,e9,_,_⟩:=h.dirs.form
 have HR:=h.val
 have HT:=h.type
 have HD:=h.dirs
 have HN:=Lib.hid h.size
 rw [e4,e5,e6,e7,e8] at HR
 rw [h.type.name,e2] at HT
 rw [e9] at HD
 rw [h.name,h.type.name,e2,h.has,e4,e5,e6,e7,e8,e9]
 clear e2 e4 e5 e6 e7 e8 e9 h
 replace HR:=Lib.hid HR
 replace HT:=Lib.hid HT
 replace HD:=Lib.hid HD
 have HV:Hid (inpOk x = (nmA x.name && (K.okB x.tn x.tw && (dflOk x.has x.dflt && (zh5 x.dirs))))):=Lib.hid rfl
 generalize inpOk x = RB at *
 have HB0:Hid (Below w.heap.size w (w.alloc (.cells #[.string x.name,.string x.tn,.slice A2 x.tw.length c2,.bool x.has,.int .i64 k,.int .i64 n,.string s,.slice A li ci,.slice KA lk ck,.slice A9 x.dirs.length c9] 61 (0,0)))):=Lib.hid (za0 _ _)
 have HX0:Hid (Bk (w.alloc (.cells #[.string x.name,.string x.tn,.slice A2 x.tw.length c2,.bool x.has,.int .i64 k,.int .i64 n,.string s,.slice A li ci,.slice KA lk ck,.slice A9 x.dirs.length c9] 61 (0,0))) w.heap.size #[.string x.name,.string x.tn,.slice A2 x.tw.length c2,.bool x.has,.int .i64 k,.int .i64 n,.string s,.slice A li ci,.slice KA lk ck,.slice A9 x.dirs.length c9] 61):=Lib.hid (Bk.new _ _ _)
 go_enter Tryz.func99, Tryz.ntmps99
 go_wp2_with fail
 refine (zk6 x.name _ HN.out).mono ?_
 rintro e w1 ⟨rfl,rfl⟩
 cases v:nmA x.name with
 | false =>
   have v0:=Lib.hid v
   clear v
   go_wp2_with fail
   go_ret
   exact ⟨by rw [HV.out,v0.out,Bool.false_and]; rfl,HB0.out⟩
 | true =>
   have v0:=Lib.hid v
   clear v
   have q0:=HX0.out.cell 0 _ rfl
   have q1:=HX0.out.cell 1 _ rfl
   have q2:=HX0.out.cell 2 _ rfl
   have q3:=HX0.out.cell 3 _ rfl
   have q4:=HX0.out.cell 4 _ rfl
   have q5:=HX0.out.cell 5 _ rfl
   have q6:=HX0.out.cell 6 _ rfl
   have q7:=HX0.out.cell 7 _ rfl
   have q8:=HX0.out.cell 8 _ rfl
   have q9:=HX0.out.cell 9 _ rfl
   go_wp2_with fail
   refine (K.zA2 x.tn x.tw _ _ (zs3 ((HT.out.kept HB0.out).mono HB0.out.size)) (by have:=HT.out.size; unfold maxLen; unfold big at this; omega)).mono ?_
   rintro e w2 ⟨rfl,hb⟩
   clear q0 q1 q2 q3 q4 q5 q6 q7 q8 q9
   have HB1:=Lib.hid (HB0.out.trans (Below.mono hb HB0.out.size))
   have HX1:=Lib.hid (HX0.out.stay hb)
   clear hb
   cases v:K.okB x.tn x.tw with
   | false =>
     have v1:=Lib.hid v
     clear v
     go_wp2_with fail
     go_ret
     exact ⟨by rw [HV.out,v0.out,Bool.true_and,v1.out,Bool.false_and]; rfl,HB1.out⟩
   | true =>
     have v1:=Lib.hid v
     clear v
     have q0:=HX1.out.cell 0 _ rfl
     have q1:=HX1.out.cell 1 _ rfl
     have q2:=HX1.out.cell 2 _ rfl
     have q3:=HX1.out.cell 3 _ rfl
     have q4:=HX1.out.cell 4 _ rfl
     have q5:=HX1.out.cell 5 _ rfl
     have q6:=HX1.out.cell 6 _ rfl
     have q7:=HX1.out.cell 7 _ rfl
     have q8:=HX1.out.cell 8 _ rfl
     have q9:=HX1.out.cell 9 _ rfl
     go_wp2_with fail
     refine (zE9 x.has x.dflt _ _ ((HR.out.kept HB1.out).mono HB1.out.size)).mono ?_
     rintro e w3 ⟨rfl,hb⟩
     clear q0 q1 q2 q3 q4 q5 q6 q7 q8 q9
     have HB2:=Lib.hid (HB1.out.trans (Below.mono hb HB1.out.size))
     have HX2:=Lib.hid (HX1.out.stay hb)
     clear hb
     cases v:dflOk x.has x.dflt with
     | false =>
       have v2:=Lib.hid v
       clear v
       go_wp2_with fail
       go_ret
       exact ⟨by rw [HV.out,v0.out,Bool.true_and,v1.out,Bool.true_and,v2.out,Bool.false_and]; rfl,HB2.out⟩
     | true =>
       have v2:=Lib.hid v
       clear v
       have q0:=HX2.out.cell 0 _ rfl
       have q1:=HX2.out.cell 1 _ rfl
       have q2:=HX2.out.cell 2 _ rfl
       have q3:=HX2.out.cell 3 _ rfl
       have q4:=HX2.out.cell 4 _ rfl
       have q5:=HX2.out.cell 5 _ rfl
       have q6:=HX2.out.cell 6 _ rfl
       have q7:=HX2.out.cell 7 _ rfl
       have q8:=HX2.out.cell 8 _ rfl
       have q9:=HX2.out.cell 9 _ rfl
       go_wp2_with fail
       refine (ze8 x.dirs _ _ ((HD.out.kept HB2.out).mono HB2.out.size)).mono ?_
       rintro e w4 ⟨rfl,hb⟩
       clear q0 q1 q2 q3 q4 q5 q6 q7 q8 q9
       have HB3:=Lib.hid (HB2.out.trans (Below.mono hb HB2.out.size))
       have HX3:=Lib.hid (HX2.out.stay hb)
       clear hb
       go_wp2_with fail
       go_ret
       exact ⟨by rw [HV.out,v0.out,Bool.true_and,v1.out,Bool.true_and,v2.out,Bool.true_and]; rfl,HB3.out⟩
set_option maxHeartbeats 2000000 in
theorem zj1 (x:FldT) (f:Nat → Value) (w:World) (h:FldR w w.heap.size f x):Calls Tryz.prog 96 #[.agg #[f 0,f 1,f 2,f 3,f 4]] w (BP (fldOk x) w):=by
 obtain ⟨A1,c1,e1,_,_⟩:=h.args.form
 obtain ⟨A3,c3,e3,_,_⟩:=h.type.wraps.form
 obtain ⟨A4,c4,e4,_,_⟩:=h.dirs.form
 have HR:=h.args
 have HT:=h.type
 have HD:=h.dirs
 have HN:=Lib.hid h.size
 rw [e1] at HR
 rw [h.type.name,e3] at HT
 rw [e4] at HD
 rw [h.name,e1,h.type.name,e3,e4]
 clear e1 e3 e4 h
 replace HR:=Lib.hid HR
 replace HT:=Lib.hid HT
 replace HD:=Lib.hid HD
 have HV:Hid (fldOk x = (nmA x.name && (zx4 x.args && (K.okB x.tn x.tw && (zh5 x.dirs))))):=Lib.hid rfl
 generalize fldOk x = RB at *
 have HB0:Hid (Below w.heap.size w (w.alloc (.cells #[.string x.name,.slice A1 x.args.length c1,.string x.tn,.slice A3 x.tw.length c3,.slice A4 x.dirs.length c4] 52 (0,0)))):=Lib.hid (za0 _ _)
 have HX0:Hid (Bk (w.alloc (.cells #[.string x.name,.slice A1 x.args.length c1,.string x.tn,.slice A3 x.tw.length c3,.slice A4 x.dirs.length c4] 52 (0,0))) w.heap.size #[.string x.name,.slice A1 x.args.length c1,.string x.tn,.slice A3 x.tw.length c3,.slice A4 x.dirs.length c4] 52):=Lib.hid (Bk.new _ _ _)
 go_enter Tryz.func96, Tryz.ntmps96
 go_wp2_with fail
 refine (zk6 x.name _ HN.out).mono ?_
 rintro e w1 ⟨rfl,rfl⟩
 cases v:nmA x.name with
 | false =>
   have v0:=Lib.hid v
   clear v
   go_wp2_with fail
   go_ret
   exact ⟨by rw [HV.out,v0.out,Bool.false_and]; rfl,HB0.out⟩
 | true =>
   have v0:=Lib.hid v
   clear v
   have q0:=HX0.out.cell 0 _ rfl
   have q1:=HX0.out.cell 1 _ rfl
   have q2:=HX0.out.cell 2 _ rfl
   have q3:=HX0.out.cell 3 _ rfl
   have q4:=HX0.out.cell 4 _ rfl
   go_wp2_with fail
   refine (zg4 x.args _ _ 0 16 ((HR.out.kept HB0.out).mono HB0.out.size) inpOk (fun W f y hy => zh0 y f W hy)).mono ?_
   rintro e w2 ⟨rfl,hb⟩
   clear q0 q1 q2 q3 q4
   have HB1:=Lib.hid (HB0.out.trans (Below.mono hb HB0.out.size))
   have HX1:=Lib.hid (HX0.out.stay hb)
   clear hb
   rw [show inB 0 16 x.args inpOk = zx4 x.args from rfl]
   cases v:zx4 x.args with
   | false =>
     have v1:=Lib.hid v
     clear v
     go_wp2_with fail
     go_ret
     exact ⟨by rw [HV.out,v0.out,Bool.true_and,v1.out,Bool.false_and]; rfl,HB1.out⟩
   | true =>
     have v1:=Lib.hid v
     clear v
     have q0:=HX1.out.cell 0 _ rfl
     have q1:=HX1.out.cell 1 _ rfl
     have q2:=HX1.out.cell 2 _ rfl
     have q3:=HX1.out.cell 3 _ rfl
     have q4:=HX1.out.cell 4 _ rfl
     go_wp2_with fail
     refine (K.zA2 x.tn x.tw _ _ (zs3 ((HT.out.kept HB1.out).mono HB1.out.size)) (by have:=HT.out.size; unfold maxLen; unfold big at this; omega)).mono ?_
     rintro e w3 ⟨rfl,hb⟩
     clear q0 q1 q2 q3 q4
     have HB2:=Lib.hid (HB1.out.trans (Below.mono hb HB1.out.size))
     have HX2:=Lib.hid (HX1.out.stay hb)
     clear hb
     cases v:K.okB x.tn x.tw with
     | false =>
       have v2:=Lib.hid v
       clear v
       go_wp2_with fail
       go_ret
       exact ⟨by rw [HV.out,v0.out,Bool.true_and,v1.out,Bool.true_and,v2.out,Bool.false_and]; rfl,HB2.out⟩
     | true =>
       have v2:=Lib.hid v
       clear v
       have q0:=HX2.out.cell 0 _ rfl
       have q1:=HX2.out.cell 1 _ rfl
       have q2:=HX2.out.cell 2 _ rfl
       have q3:=HX2.out.cell 3 _ rfl
       have q4:=HX2.out.cell 4 _ rfl
       go_wp2_with fail
       refine (ze8 x.dirs _ _ ((HD.out.kept HB2.out).mono HB2.out.size)).mono ?_
       rintro e w4 ⟨rfl,hb⟩
       clear q0 q1 q2 q3 q4
       have HB3:=Lib.hid (HB2.out.trans (Below.mono hb HB2.out.size))
       have HX3:=Lib.hid (HX2.out.stay hb)
       clear hb
       go_wp2_with fail
       go_ret
       exact ⟨by rw [HV.out,v0.out,Bool.true_and,v1.out,Bool.true_and,v2.out,Bool.true_and]; rfl,HB3.out⟩
def zk5 (im f m i:Int) (mf mm mi:Int) (pm:MemT → Bool) (d:DefT):Bool:=inB 0 im d.impl nmA && (inB mf f d.fields fldOk && (inB mm m d.members pm && inB mi i d.inputs inpOk))
def zb5 (d:DefT):Bool :=
 if d.kind = 1 then zk5 64 64 0 0 1 0 0 zd4 d
 else if d.kind = 2 then zk5 0 64 0 0 1 0 0 zd4 d
 else if d.kind = 3 then zk5 0 0 64 0 0 1 0 zd4 d
 else if d.kind = 4 then zk5 0 0 64 0 0 1 0 zi1 d
 else if d.kind = 5 then zk5 0 0 0 16 0 0 1 zd4 d
 else false
set_option maxHeartbeats 2000000 in
theorem zF4 (x:DefT) (f:Nat → Value) (w:World) (h:DefR w w.heap.size f x) (hkd:x.kind = 1):Calls Tryz.prog 45 #[.agg #[f 0,f 1,f 2,f 3,f 4,f 5,f 6]] w (BP (zb5 x) w):=by
 obtain ⟨A2,c2,e2,_,_⟩:=h.impl.form
 obtain ⟨A3,c3,e3,_,_⟩:=h.dirs.form
 obtain ⟨A4,c4,e4,_,_⟩:=h.fields.form
 obtain ⟨A5,c5,e5,_,_⟩:=h.members.form
 obtain ⟨A6,c6,e6,_,_⟩:=h.inputs.form
 have H2:=h.impl
 have H3:=h.dirs
 have H4:=h.fields
 have H5:=h.members
 have H6:=h.inputs
 rw [e2] at H2
 rw [e3] at H3
 rw [e4] at H4
 rw [e5] at H5
 rw [e6] at H6
 rw [h.kind,h.name,e2,e3,e4,e5,e6]
 replace H2:=Lib.hid H2
 replace H3:=Lib.hid H3
 replace H4:=Lib.hid H4
 replace H5:=Lib.hid H5
 replace H6:=Lib.hid H6
 clear e2 e3 e4 e5 e6 h H3
 rw [hkd]
 have HV:Hid (zb5 x = (inB 0 64 x.impl nmA && (inB 1 64 x.fields fldOk && (inB 0 0 x.members zd4 && (inB 0 0 x.inputs inpOk))))):=Lib.hid (by unfold zb5; rw [hkd]; rfl)
 generalize zb5 x = RB at *
 have HB0:Hid (Below w.heap.size w (w.alloc (.cells #[.int .i64 1,.string x.name,.slice A2 x.impl.length c2,.slice A3 x.dirs.length c3,.slice A4 x.fields.length c4,.slice A5 x.members.length c5,.slice A6 x.inputs.length c6] 45 (0,0)))):=Lib.hid (za0 _ _)
 have HX0:Hid (Bk (w.alloc (.cells #[.int .i64 1,.string x.name,.slice A2 x.impl.length c2,.slice A3 x.dirs.length c3,.slice A4 x.fields.length c4,.slice A5 x.members.length c5,.slice A6 x.inputs.length c6] 45 (0,0))) w.heap.size #[.int .i64 1,.string x.name,.slice A2 x.impl.length c2,.slice A3 x.dirs.length c3,.slice A4 x.fields.length c4,.slice A5 x.members.length c5,.slice A6 x.inputs.length c6] 45):=Lib.hid (Bk.new _ _ _)
 go_enter Tryz.func45, Tryz.ntmps45
 go_wp2_with fail
 refine (zi6 x.impl _ _ 0 64 ((H2.out.kept HB0.out).mono HB0.out.size) nmA (fun W f y hy => by rw [hy.1]; exact (zk6 y W hy.2).mono fun e w1 he => ⟨he.1,by rw [← he.2]; exact Below.refl _ _⟩)).mono ?_
 rintro e w2 ⟨rfl,hb⟩
 have HB1:=Lib.hid (HB0.out.trans (Below.mono hb HB0.out.size))
 have HX1:=Lib.hid (HX0.out.stay hb)
 clear hb
 cases v:inB 0 64 x.impl nmA with
 | false =>
   have v0:=Lib.hid v
   clear v
   go_wp2_with fail
   go_ret
   exact ⟨by rw [HV.out,v0.out,Bool.false_and]; rfl,HB1.out⟩
 | true =>
   have v0:=Lib.hid v
   clear v
   have q0:=HX1.out.cell 0 _ rfl
   have q1:=HX1.out.cell 1 _ rfl
   have q2:=HX1.out.cell 2 _ rfl
   have q3:=HX1.out.cell 3 _ rfl
   have q4:=HX1.out.cell 4 _ rfl
   have q5:=HX1.out.cell 5 _ rfl
   have q6:=HX1.out.cell 6 _ rfl
   go_wp2_with fail
   refine (zi7 x.fields _ _ 1 64 ((H4.out.kept HB1.out).mono HB1.out.size) fldOk (fun W f y hy => zj1 y f W hy)).mono ?_
   rintro e w3 ⟨rfl,hb⟩
   clear q0 q1 q2 q3 q4 q5 q6
   have HB2:=Lib.hid (HB1.out.trans (Below.mono hb HB1.out.size))
   have HX2:=Lib.hid (HX1.out.stay hb)
   clear hb
   cases v:inB 1 64 x.fields fldOk with
   | false =>
     have v1:=Lib.hid v
     clear v
     go_wp2_with fail
     go_ret
     exact ⟨by rw [HV.out,v0.out,Bool.true_and,v1.out,Bool.false_and]; rfl,HB2.out⟩
   | true =>
     have v1:=Lib.hid v
     clear v
     have q0:=HX2.out.cell 0 _ rfl
     have q1:=HX2.out.cell 1 _ rfl
     have q2:=HX2.out.cell 2 _ rfl
     have q3:=HX2.out.cell 3 _ rfl
     have q4:=HX2.out.cell 4 _ rfl
     have q5:=HX2.out.cell 5 _ rfl
     have q6:=HX2.out.cell 6 _ rfl
     go_wp2_with fail
     refine (zj3 x.members _ _ 0 0 ((H5.out.kept HB2.out).mono HB2.out.size) zd4 (fun W f y hy => ze7 y f W hy)).mono ?_
     rintro e w4 ⟨rfl,hb⟩
     clear q0 q1 q2 q3 q4 q5 q6
     have HB3:=Lib.hid (HB2.out.trans (Below.mono hb HB2.out.size))
     have HX3:=Lib.hid (HX2.out.stay hb)
     clear hb
     cases v:inB 0 0 x.members zd4 with
     | false =>
       have v2:=Lib.hid v
       clear v
       go_wp2_with fail
       go_ret
       exact ⟨by rw [HV.out,v0.out,Bool.true_and,v1.out,Bool.true_and,v2.out,Bool.false_and]; rfl,HB3.out⟩
     | true =>
       have v2:=Lib.hid v
       clear v
       have q0:=HX3.out.cell 0 _ rfl
       have q1:=HX3.out.cell 1 _ rfl
       have q2:=HX3.out.cell 2 _ rfl
       have q3:=HX3.out.cell 3 _ rfl
       have q4:=HX3.out.cell 4 _ rfl
       have q5:=HX3.out.cell 5 _ rfl
       have q6:=HX3.out.cell 6 _ rfl
       go_wp2_with fail
       refine (zg4 x.inputs _ _ 0 0 ((H6.out.kept HB3.out).mono HB3.out.size) inpOk (fun W f y hy => zh0 y f W hy)).mono ?_
       rintro e w5 ⟨rfl,hb⟩
       clear q0 q1 q2 q3 q4 q5 q6
       have HB4:=Lib.hid (HB3.out.trans (Below.mono hb HB3.out.size))
       have HX4:=Lib.hid (HX3.out.stay hb)
       clear hb
       go_wp2_with fail
       go_ret
       exact ⟨by rw [HV.out,v0.out,Bool.true_and,v1.out,Bool.true_and,v2.out,Bool.true_and]; rfl,HB4.out⟩
set_option maxHeartbeats 2000000 in
theorem zF3 (x:DefT) (f:Nat → Value) (w:World) (h:DefR w w.heap.size f x) (hkd:x.kind = 2):Calls Tryz.prog 45 #[.agg #[f 0,f 1,f 2,f 3,f 4,f 5,f 6]] w (BP (zb5 x) w):=by
 obtain ⟨A2,c2,e2,_,_⟩:=h.impl.form
 obtain ⟨A3,c3,e3,_,_⟩:=h.dirs.form
 obtain ⟨A4,c4,e4,_,_⟩:=h.fields.form
 obtain ⟨A5,c5,e5,_,_⟩:=h.members.form
 obtain ⟨A6,c6,e6,_,_⟩:=h.inputs.form
 have H2:=h.impl
 have H3:=h.dirs
 have H4:=h.fields
 have H5:=h.members
 have H6:=h.inputs
 rw [e2] at H2
 rw [e3] at H3
 rw [e4] at H4
 rw [e5] at H5
 rw [e6] at H6
 rw [h.kind,h.name,e2,e3,e4,e5,e6]
 replace H2:=Lib.hid H2
 replace H3:=Lib.hid H3
 replace H4:=Lib.hid H4
 replace H5:=Lib.hid H5
 replace H6:=Lib.hid H6
 clear e2 e3 e4 e5 e6 h H3
 rw [hkd]
 have HV:Hid (zb5 x = (inB 0 0 x.impl nmA && (inB 1 64 x.fields fldOk && (inB 0 0 x.members zd4 && (inB 0 0 x.inputs inpOk))))):=Lib.hid (by unfold zb5; rw [hkd]; rfl)
 generalize zb5 x = RB at *
 have HB0:Hid (Below w.heap.size w (w.alloc (.cells #[.int .i64 2,.string x.name,.slice A2 x.impl.length c2,.slice A3 x.dirs.length c3,.slice A4 x.fields.length c4,.slice A5 x.members.length c5,.slice A6 x.inputs.length c6] 45 (0,0)))):=Lib.hid (za0 _ _)
 have HX0:Hid (Bk (w.alloc (.cells #[.int .i64 2,.string x.name,.slice A2 x.impl.length c2,.slice A3 x.dirs.length c3,.slice A4 x.fields.length c4,.slice A5 x.members.length c5,.slice A6 x.inputs.length c6] 45 (0,0))) w.heap.size #[.int .i64 2,.string x.name,.slice A2 x.impl.length c2,.slice A3 x.dirs.length c3,.slice A4 x.fields.length c4,.slice A5 x.members.length c5,.slice A6 x.inputs.length c6] 45):=Lib.hid (Bk.new _ _ _)
 go_enter Tryz.func45, Tryz.ntmps45
 go_wp2_with fail
 refine (zi6 x.impl _ _ 0 0 ((H2.out.kept HB0.out).mono HB0.out.size) nmA (fun W f y hy => by rw [hy.1]; exact (zk6 y W hy.2).mono fun e w1 he => ⟨he.1,by rw [← he.2]; exact Below.refl _ _⟩)).mono ?_
 rintro e w2 ⟨rfl,hb⟩
 have HB1:=Lib.hid (HB0.out.trans (Below.mono hb HB0.out.size))
 have HX1:=Lib.hid (HX0.out.stay hb)
 clear hb
 cases v:inB 0 0 x.impl nmA with
 | false =>
   have v0:=Lib.hid v
   clear v
   go_wp2_with fail
   go_ret
   exact ⟨by rw [HV.out,v0.out,Bool.false_and]; rfl,HB1.out⟩
 | true =>
   have v0:=Lib.hid v
   clear v
   have q0:=HX1.out.cell 0 _ rfl
   have q1:=HX1.out.cell 1 _ rfl
   have q2:=HX1.out.cell 2 _ rfl
   have q3:=HX1.out.cell 3 _ rfl
   have q4:=HX1.out.cell 4 _ rfl
   have q5:=HX1.out.cell 5 _ rfl
   have q6:=HX1.out.cell 6 _ rfl
   go_wp2_with fail
   refine (zi7 x.fields _ _ 1 64 ((H4.out.kept HB1.out).mono HB1.out.size) fldOk (fun W f y hy => zj1 y f W hy)).mono ?_
   rintro e w3 ⟨rfl,hb⟩
   clear q0 q1 q2 q3 q4 q5 q6
   have HB2:=Lib.hid (HB1.out.trans (Below.mono hb HB1.out.size))
   have HX2:=Lib.hid (HX1.out.stay hb)
   clear hb
   cases v:inB 1 64 x.fields fldOk with
   | false =>
     have v1:=Lib.hid v
     clear v
     go_wp2_with fail
     go_ret
     exact ⟨by rw [HV.out,v0.out,Bool.true_and,v1.out,Bool.false_and]; rfl,HB2.out⟩
   | true =>
     have v1:=Lib.hid v
     clear v
     have q0:=HX2.out.cell 0 _ rfl
     have q1:=HX2.out.cell 1 _ rfl
     have q2:=HX2.out.cell 2 _ rfl
     have q3:=HX2.out.cell 3 _ rfl
     have q4:=HX2.out.cell 4 _ rfl
     have q5:=HX2.out.cell 5 _ rfl
     have q6:=HX2.out.cell 6 _ rfl
     go_wp2_with fail
     refine (zj3 x.members _ _ 0 0 ((H5.out.kept HB2.out).mono HB2.out.size) zd4 (fun W f y hy => ze7 y f W hy)).mono ?_
     rintro e w4 ⟨rfl,hb⟩
     clear q0 q1 q2 q3 q4 q5 q6
     have HB3:=Lib.hid (HB2.out.trans (Below.mono hb HB2.out.size))
     have HX3:=Lib.hid (HX2.out.stay hb)
     clear hb
     cases v:inB 0 0 x.members zd4 with
     | false =>
       have v2:=Lib.hid v
       clear v
       go_wp2_with fail
       go_ret
       exact ⟨by rw [HV.out,v0.out,Bool.true_and,v1.out,Bool.true_and,v2.out,Bool.false_and]; rfl,HB3.out⟩
     | true =>
       have v2:=Lib.hid v
       clear v
       have q0:=HX3.out.cell 0 _ rfl
       have q1:=HX3.out.cell 1 _ rfl
       have q2:=HX3.out.cell 2 _ rfl
       have q3:=HX3.out.cell 3 _ rfl
       have q4:=HX3.out.cell 4 _ rfl
       have q5:=HX3.out.cell 5 _ rfl
       have q6:=HX3.out.cell 6 _ rfl
       go_wp2_with fail
       refine (zg4 x.inputs _ _ 0 0 ((H6.out.kept HB3.out).mono HB3.out.size) inpOk (fun W f y hy => zh0 y f W hy)).mono ?_
       rintro e w5 ⟨rfl,hb⟩
       clear q0 q1 q2 q3 q4 q5 q6
       have HB4:=Lib.hid (HB3.out.trans (Below.mono hb HB3.out.size))
       have HX4:=Lib.hid (HX3.out.stay hb)
       clear hb
       go_wp2_with fail
       go_ret
       exact ⟨by rw [HV.out,v0.out,Bool.true_and,v1.out,Bool.true_and,v2.out,Bool.true_and]; rfl,HB4.out⟩
set_option maxHeartbeats 2000000 in
theorem zF2 (x:DefT) (f:Nat → Value) (w:World) (h:DefR w w.heap.size f x) (hkd:x.kind = 3):Calls Tryz.prog 45 #[.agg #[f 0,f 1,f 2,f 3,f 4,f 5,f 6]] w (BP (zb5 x) w):=by
 obtain ⟨A2,c2,e2,_,_⟩:=h.impl.form
 obtain ⟨A3,c3,e3,_,_⟩:=h.dirs.form
 obtain ⟨A4,c4,e4,_,_⟩:=h.fields.form
 obtain ⟨A5,c5,e5,_,_⟩:=h.members.form
 obtain ⟨A6,c6,e6,_,_⟩:=h.inputs.form
 have H2:=h.impl
 have H3:=h.dirs
 have H4:=h.fields
 have H5:=h.members
 have H6:=h.inputs
 rw [e2] at H2
 rw [e3] at H3
 rw [e4] at H4
 rw [e5] at H5
 rw [e6] at H6
 rw [h.kind,h.name,e2,e3,e4,e5,e6]
 replace H2:=Lib.hid H2
 replace H3:=Lib.hid H3
 replace H4:=Lib.hid H4
 replace H5:=Lib.hid H5
 replace H6:=Lib.hid H6
 clear e2 e3 e4 e5 e6 h H3
 rw [hkd]
 have HV:Hid (zb5 x = (inB 0 0 x.impl nmA && (inB 0 0 x.fields fldOk && (inB 1 64 x.members zd4 && (inB 0 0 x.inputs inpOk))))):=Lib.hid (by unfold zb5; rw [hkd]; rfl)
 generalize zb5 x = RB at *
 have HB0:Hid (Below w.heap.size w (w.alloc (.cells #[.int .i64 3,.string x.name,.slice A2 x.impl.length c2,.slice A3 x.dirs.length c3,.slice A4 x.fields.length c4,.slice A5 x.members.length c5,.slice A6 x.inputs.length c6] 45 (0,0)))):=Lib.hid (za0 _ _)
 have HX0:Hid (Bk (w.alloc (.cells #[.int .i64 3,.string x.name,.slice A2 x.impl.length c2,.slice A3 x.dirs.length c3,.slice A4 x.fields.length c4,.slice A5 x.members.length c5,.slice A6 x.inputs.length c6] 45 (0,0))) w.heap.size #[.int .i64 3,.string x.name,.slice A2 x.impl.length c2,.slice A3 x.dirs.length c3,.slice A4 x.fields.length c4,.slice A5 x.members.length c5,.slice A6 x.inputs.length c6] 45):=Lib.hid (Bk.new _ _ _)
 go_enter Tryz.func45, Tryz.ntmps45
 go_wp2_with fail
 refine (zi6 x.impl _ _ 0 0 ((H2.out.kept HB0.out).mono HB0.out.size) nmA (fun W f y hy => by rw [hy.1]; exact (zk6 y W hy.2).mono fun e w1 he => ⟨he.1,by rw [← he.2]; exact Below.refl _ _⟩)).mono ?_
 rintro e w2 ⟨rfl,hb⟩
 have HB1:=Lib.hid (HB0.out.trans (Below.mono hb HB0.out.size))
 have HX1:=Lib.hid (HX0.out.stay hb)
 clear hb
 cases v:inB 0 0 x.impl nmA with
 | false =>
   have v0:=Lib.hid v
   clear v
   go_wp2_with fail
   go_ret
   exact ⟨by rw [HV.out,v0.out,Bool.false_and]; rfl,HB1.out⟩
 | true =>
   have v0:=Lib.hid v
   clear v
   have q0:=HX1.out.cell 0 _ rfl
   have q1:=HX1.out.cell 1 _ rfl
   have q2:=HX1.out.cell 2 _ rfl
   have q3:=HX1.out.cell 3 _ rfl
   have q4:=HX1.out.cell 4 _ rfl
   have q5:=HX1.out.cell 5 _ rfl
   have q6:=HX1.out.cell 6 _ rfl
   go_wp2_with fail
   refine (zi7 x.fields _ _ 0 0 ((H4.out.kept HB1.out).mono HB1.out.size) fldOk (fun W f y hy => zj1 y f W hy)).mono ?_
   rintro e w3 ⟨rfl,hb⟩
   clear q0 q1 q2 q3 q4 q5 q6
   have HB2:=Lib.hid (HB1.out.trans (Below.mono hb HB1.out.size))
   have HX2:=Lib.hid (HX1.out.stay hb)
   clear hb
   cases v:inB 0 0 x.fields fldOk with
   | false =>
     have v1:=Lib.hid v
     clear v
     go_wp2_with fail
     go_ret
     exact ⟨by rw [HV.out,v0.out,Bool.true_and,v1.out,Bool.false_and]; rfl,HB2.out⟩
   | true =>
     have v1:=Lib.hid v
     clear v
     have q0:=HX2.out.cell 0 _ rfl
     have q1:=HX2.out.cell 1 _ rfl
     have q2:=HX2.out.cell 2 _ rfl
     have q3:=HX2.out.cell 3 _ rfl
     have q4:=HX2.out.cell 4 _ rfl
     have q5:=HX2.out.cell 5 _ rfl
     have q6:=HX2.out.cell 6 _ rfl
     go_wp2_with fail
     refine (zj3 x.members _ _ 1 64 ((H5.out.kept HB2.out).mono HB2.out.size) zd4 (fun W f y hy => ze7 y f W hy)).mono ?_
     rintro e w4 ⟨rfl,hb⟩
     clear q0 q1 q2 q3 q4 q5 q6
     have HB3:=Lib.hid (HB2.out.trans (Below.mono hb HB2.out.size))
     have HX3:=Lib.hid (HX2.out.stay hb)
     clear hb
     cases v:inB 1 64 x.members zd4 with
     | false =>
       have v2:=Lib.hid v
       clear v
       go_wp2_with fail
       go_ret
       exact ⟨by rw [HV.out,v0.out,Bool.true_and,v1.out,Bool.true_and,v2.out,Bool.false_and]; rfl,HB3.out⟩
     | true =>
       have v2:=Lib.hid v
       clear v
       have q0:=HX3.out.cell 0 _ rfl
       have q1:=HX3.out.cell 1 _ rfl
       have q2:=HX3.out.cell 2 _ rfl
       have q3:=HX3.out.cell 3 _ rfl
       have q4:=HX3.out.cell 4 _ rfl
       have q5:=HX3.out.cell 5 _ rfl
       have q6:=HX3.out.cell 6 _ rfl
       go_wp2_with fail
       refine (zg4 x.inputs _ _ 0 0 ((H6.out.kept HB3.out).mono HB3.out.size) inpOk (fun W f y hy => zh0 y f W hy)).mono ?_
       rintro e w5 ⟨rfl,hb⟩
       clear q0 q1 q2 q3 q4 q5 q6
       have HB4:=Lib.hid (HB3.out.trans (Below.mono hb HB3.out.size))
       have HX4:=Lib.hid (HX3.out.stay hb)
       clear hb
       go_wp2_with fail
       go_ret
       exact ⟨by rw [HV.out,v0.out,Bool.true_and,v1.out,Bool.true_and,v2.out,Bool.true_and]; rfl,HB4.out⟩
set_option maxHeartbeats 2000000 in
theorem zF1 (x:DefT) (f:Nat → Value) (w:World) (h:DefR w w.heap.size f x) (hkd:x.kind = 4):Calls Tryz.prog 45 #[.agg #[f 0,f 1,f 2,f 3,f 4,f 5,f 6]] w (BP (zb5 x) w):=by
 obtain ⟨A2,c2,e2,_,_⟩:=h.impl.form
 obtain ⟨A3,c3,e3,_,_⟩:=h.dirs.form
 obtain ⟨A4,c4,e4,_,_⟩:=h.fields.form
 obtain ⟨A5,c5,e5,_,_⟩:=h.members.form
 obtain ⟨A6,c6,e6,_,_⟩:=h.inputs.form
 have H2:=h.impl
 have H3:=h.dirs
 have H4:=h.fields
 have H5:=h.members
 have H6:=h.inputs
 rw [e2] at H2
 rw [e3] at H3
 rw [e4] at H4
 rw [e5] at H5
 rw [e6] at H6
 rw [h.kind,h.name,e2,e3,e4,e5,e6]
 replace H2:=Lib.hid H2
 replace H3:=Lib.hid H3
 replace H4:=Lib.hid H4
 replace H5:=Lib.hid H5
 replace H6:=Lib.hid H6
 clear e2 e3 e4 e5 e6 h H3
 rw [hkd]
 have HV:Hid (zb5 x = (inB 0 0 x.impl nmA && (inB 0 0 x.fields fldOk && (inB 1 64 x.members zi1 && (inB 0 0 x.inputs inpOk))))):=Lib.hid (by unfold zb5; rw [hkd]; rfl)
 generalize zb5 x = RB at *
 have HB0:Hid (Below w.heap.size w (w.alloc (.cells #[.int .i64 4,.string x.name,.slice A2 x.impl.length c2,.slice A3 x.dirs.length c3,.slice A4 x.fields.length c4,.slice A5 x.members.length c5,.slice A6 x.inputs.length c6] 45 (0,0)))):=Lib.hid (za0 _ _)
 have HX0:Hid (Bk (w.alloc (.cells #[.int .i64 4,.string x.name,.slice A2 x.impl.length c2,.slice A3 x.dirs.length c3,.slice A4 x.fields.length c4,.slice A5 x.members.length c5,.slice A6 x.inputs.length c6] 45 (0,0))) w.heap.size #[.int .i64 4,.string x.name,.slice A2 x.impl.length c2,.slice A3 x.dirs.length c3,.slice A4 x.fields.length c4,.slice A5 x.members.length c5,.slice A6 x.inputs.length c6] 45):=Lib.hid (Bk.new _ _ _)
 go_enter Tryz.func45, Tryz.ntmps45
 go_wp2_with fail
 refine (zi6 x.impl _ _ 0 0 ((H2.out.kept HB0.out).mono HB0.out.size) nmA (fun W f y hy => by rw [hy.1]; exact (zk6 y W hy.2).mono fun e w1 he => ⟨he.1,by rw [← he.2]; exact Below.refl _ _⟩)).mono ?_
 rintro e w2 ⟨rfl,hb⟩
 have HB1:=Lib.hid (HB0.out.trans (Below.mono hb HB0.out.size))
 have HX1:=Lib.hid (HX0.out.stay hb)
 clear hb
 cases v:inB 0 0 x.impl nmA with
 | false =>
   have v0:=Lib.hid v
   clear v
   go_wp2_with fail
   go_ret
   exact ⟨by rw [HV.out,v0.out,Bool.false_and]; rfl,HB1.out⟩
 | true =>
   have v0:=Lib.hid v
   clear v
   have q0:=HX1.out.cell 0 _ rfl
   have q1:=HX1.out.cell 1 _ rfl
   have q2:=HX1.out.cell 2 _ rfl
   have q3:=HX1.out.cell 3 _ rfl
   have q4:=HX1.out.cell 4 _ rfl
   have q5:=HX1.out.cell 5 _ rfl
   have q6:=HX1.out.cell 6 _ rfl
   go_wp2_with fail
   refine (zi7 x.fields _ _ 0 0 ((H4.out.kept HB1.out).mono HB1.out.size) fldOk (fun W f y hy => zj1 y f W hy)).mono ?_
   rintro e w3 ⟨rfl,hb⟩
   clear q0 q1 q2 q3 q4 q5 q6
   have HB2:=Lib.hid (HB1.out.trans (Below.mono hb HB1.out.size))
   have HX2:=Lib.hid (HX1.out.stay hb)
   clear hb
   cases v:inB 0 0 x.fields fldOk with
   | false =>
     have v1:=Lib.hid v
     clear v
     go_wp2_with fail
     go_ret
     exact ⟨by rw [HV.out,v0.out,Bool.true_and,v1.out,Bool.false_and]; rfl,HB2.out⟩
   | true =>
     have v1:=Lib.hid v
     clear v
     have q0:=HX2.out.cell 0 _ rfl
     have q1:=HX2.out.cell 1 _ rfl
     have q2:=HX2.out.cell 2 _ rfl
     have q3:=HX2.out.cell 3 _ rfl
     have q4:=HX2.out.cell 4 _ rfl
     have q5:=HX2.out.cell 5 _ rfl
     have q6:=HX2.out.cell 6 _ rfl
     go_wp2_with fail
     refine (zG6 x.members _ _ 1 64 ((H5.out.kept HB2.out).mono HB2.out.size) zi1 (fun W f y hy => zt4 y f W hy)).mono ?_
     rintro e w4 ⟨rfl,hb⟩
     clear q0 q1 q2 q3 q4 q5 q6
     have HB3:=Lib.hid (HB2.out.trans (Below.mono hb HB2.out.size))
     have HX3:=Lib.hid (HX2.out.stay hb)
     clear hb
     cases v:inB 1 64 x.members zi1 with
     | false =>
       have v2:=Lib.hid v
       clear v
       go_wp2_with fail
       go_ret
       exact ⟨by rw [HV.out,v0.out,Bool.true_and,v1.out,Bool.true_and,v2.out,Bool.false_and]; rfl,HB3.out⟩
     | true =>
       have v2:=Lib.hid v
       clear v
       have q0:=HX3.out.cell 0 _ rfl
       have q1:=HX3.out.cell 1 _ rfl
       have q2:=HX3.out.cell 2 _ rfl
       have q3:=HX3.out.cell 3 _ rfl
       have q4:=HX3.out.cell 4 _ rfl
       have q5:=HX3.out.cell 5 _ rfl
       have q6:=HX3.out.cell 6 _ rfl
       go_wp2_with fail
       refine (zg4 x.inputs _ _ 0 0 ((H6.out.kept HB3.out).mono HB3.out.size) inpOk (fun W f y hy => zh0 y f W hy)).mono ?_
       rintro e w5 ⟨rfl,hb⟩
       clear q0 q1 q2 q3 q4 q5 q6
       have HB4:=Lib.hid (HB3.out.trans (Below.mono hb HB3.out.size))
       have HX4:=Lib.hid (HX3.out.stay hb)
       clear hb
       go_wp2_with fail
       go_ret
       exact ⟨by rw [HV.out,v0.out,Bool.true_and,v1.out,Bool.true_and,v2.out,Bool.true_and]; rfl,HB4.out⟩
set_option maxHeartbeats 2000000 in
theorem zF0 (x:DefT) (f:Nat → Value) (w:World) (h:DefR w w.heap.size f x) (hkd:x.kind = 5):Calls Tryz.prog 45 #[.agg #[f 0,f 1,f 2,f 3,f 4,f 5,f 6]] w (BP (zb5 x) w):=by
 obtain ⟨A2,c2,e2,_,_⟩:=h.impl.form
 obtain ⟨A3,c3,e3,_,_⟩:=h.dirs.form
 obtain ⟨A4,c4,e4,_,_⟩:=h.fields.form
 obtain ⟨A5,c5,e5,_,_⟩:=h.members.form
 obtain ⟨A6,c6,e6,_,_⟩:=h.inputs.form
 have H2:=h.impl
 have H3:=h.dirs
 have H4:=h.fields
 have H5:=h.members
 have H6:=h.inputs
 rw [e2] at H2
 rw [e3] at H3
 rw [e4] at H4
 rw [e5] at H5
 rw [e6] at H6
 rw [h.kind,h.name,e2,e3,e4,e5,e6]
 replace H2:=Lib.hid H2
 replace H3:=Lib.hid H3
 replace H4:=Lib.hid H4
 replace H5:=Lib.hid H5
 replace H6:=Lib.hid H6
 clear e2 e3 e4 e5 e6 h H3
 rw [hkd]
 have HV:Hid (zb5 x = (inB 0 0 x.impl nmA && (inB 0 0 x.fields fldOk && (inB 0 0 x.members zd4 && (inB 1 16 x.inputs inpOk))))):=Lib.hid (by unfold zb5; rw [hkd]; rfl)
 generalize zb5 x = RB at *
 have HB0:Hid (Below w.heap.size w (w.alloc (.cells #[.int .i64 5,.string x.name,.slice A2 x.impl.length c2,.slice A3 x.dirs.length c3,.slice A4 x.fields.length c4,.slice A5 x.members.length c5,.slice A6 x.inputs.length c6] 45 (0,0)))):=Lib.hid (za0 _ _)
 have HX0:Hid (Bk (w.alloc (.cells #[.int .i64 5,.string x.name,.slice A2 x.impl.length c2,.slice A3 x.dirs.length c3,.slice A4 x.fields.length c4,.slice A5 x.members.length c5,.slice A6 x.inputs.length c6] 45 (0,0))) w.heap.size #[.int .i64 5,.string x.name,.slice A2 x.impl.length c2,.slice A3 x.dirs.length c3,.slice A4 x.fields.length c4,.slice A5 x.members.length c5,.slice A6 x.inputs.length c6] 45):=Lib.hid (Bk.new _ _ _)
 go_enter Tryz.func45, Tryz.ntmps45
 go_wp2_with fail
 refine (zi6 x.impl _ _ 0 0 ((H2.out.kept HB0.out).mono HB0.out.size) nmA (fun W f y hy => by rw [hy.1]; exact (zk6 y W hy.2).mono fun e w1 he => ⟨he.1,by rw [← he.2]; exact Below.refl _ _⟩)).mono ?_
 rintro e w2 ⟨rfl,hb⟩
 have HB1:=Lib.hid (HB0.out.trans (Below.mono hb HB0.out.size))
 have HX1:=Lib.hid (HX0.out.stay hb)
 clear hb
 cases v:inB 0 0 x.impl nmA with
 | false =>
   have v0:=Lib.hid v
   clear v
   go_wp2_with fail
   go_ret
   exact ⟨by rw [HV.out,v0.out,Bool.false_and]; rfl,HB1.out⟩
 | true =>
   have v0:=Lib.hid v
   clear v
   have q0:=HX1.out.cell 0 _ rfl
   have q1:=HX1.out.cell 1 _ rfl
   have q2:=HX1.out.cell 2 _ rfl
   have q3:=HX1.out.cell 3 _ rfl
   have q4:=HX1.out.cell 4 _ rfl
   have q5:=HX1.out.cell 5 _ rfl
   have q6:=HX1.out.cell 6 _ rfl
   go_wp2_with fail
   refine (zi7 x.fields _ _ 0 0 ((H4.out.kept HB1.out).mono HB1.out.size) fldOk (fun W f y hy => zj1 y f W hy)).mono ?_
   rintro e w3 ⟨rfl,hb⟩
   clear q0 q1 q2 q3 q4 q5 q6
   have HB2:=Lib.hid (HB1.out.trans (Below.mono hb HB1.out.size))
   have HX2:=Lib.hid (HX1.out.stay hb)
   clear hb
   cases v:inB 0 0 x.fields fldOk with
   | false =>
     have v1:=Lib.hid v
     clear v
     go_wp2_with fail
     go_ret
     exact ⟨by rw [HV.out,v0.out,Bool.true_and,v1.out,Bool.false_and]; rfl,HB2.out⟩
   | true =>
     have v1:=Lib.hid v
     clear v
     have q0:=HX2.out.cell 0 _ rfl
     have q1:=HX2.out.cell 1 _ rfl
     have q2:=HX2.out.cell 2 _ rfl
     have q3:=HX2.out.cell 3 _ rfl
     have q4:=HX2.out.cell 4 _ rfl
     have q5:=HX2.out.cell 5 _ rfl
     have q6:=HX2.out.cell 6 _ rfl
     go_wp2_with fail
     refine (zj3 x.members _ _ 0 0 ((H5.out.kept HB2.out).mono HB2.out.size) zd4 (fun W f y hy => ze7 y f W hy)).mono ?_
     rintro e w4 ⟨rfl,hb⟩
     clear q0 q1 q2 q3 q4 q5 q6
     have HB3:=Lib.hid (HB2.out.trans (Below.mono hb HB2.out.size))
     have HX3:=Lib.hid (HX2.out.stay hb)
     clear hb
     cases v:inB 0 0 x.members zd4 with
     | false =>
       have v2:=Lib.hid v
       clear v
       go_wp2_with fail
       go_ret
       exact ⟨by rw [HV.out,v0.out,Bool.true_and,v1.out,Bool.true_and,v2.out,Bool.false_and]; rfl,HB3.out⟩
     | true =>
       have v2:=Lib.hid v
       clear v
       have q0:=HX3.out.cell 0 _ rfl
       have q1:=HX3.out.cell 1 _ rfl
       have q2:=HX3.out.cell 2 _ rfl
       have q3:=HX3.out.cell 3 _ rfl
       have q4:=HX3.out.cell 4 _ rfl
       have q5:=HX3.out.cell 5 _ rfl
       have q6:=HX3.out.cell 6 _ rfl
       go_wp2_with fail
       refine (zg4 x.inputs _ _ 1 16 ((H6.out.kept HB3.out).mono HB3.out.size) inpOk (fun W f y hy => zh0 y f W hy)).mono ?_
       rintro e w5 ⟨rfl,hb⟩
       clear q0 q1 q2 q3 q4 q5 q6
       have HB4:=Lib.hid (HB3.out.trans (Below.mono hb HB3.out.size))
       have HX4:=Lib.hid (HX3.out.stay hb)
       clear hb
       go_wp2_with fail
       go_ret
       exact ⟨by rw [HV.out,v0.out,Bool.true_and,v1.out,Bool.true_and,v2.out,Bool.true_and]; rfl,HB4.out⟩
set_option maxHeartbeats 2000000 in
theorem zK8 (x:DefT) (f:Nat → Value) (w:World) (h:DefR w w.heap.size f x):Calls Tryz.prog 45 #[.agg #[f 0,f 1,f 2,f 3,f 4,f 5,f 6]] w (BP (zb5 x) w):=by
 by_cases k1:x.kind = 1
 ·exact zF4 x f w h k1
 by_cases k2:x.kind = 2
 ·exact zF3 x f w h k2
 by_cases k3:x.kind = 3
 ·exact zF2 x f w h k3
 by_cases k4:x.kind = 4
 ·exact zF1 x f w h k4
 by_cases k5:x.kind = 5
 ·exact zF0 x f w h k5
 have HV:Hid (zb5 x = false):=Lib.hid (by unfold zb5; rw [if_neg k1,if_neg k2,if_neg k3,if_neg k4,if_neg k5])
 generalize zb5 x = RB at *
 obtain ⟨A2,c2,e2,_,_⟩:=h.impl.form
 obtain ⟨A3,c3,e3,_,_⟩:=h.dirs.form
 obtain ⟨A4,c4,e4,_,_⟩:=h.fields.form
 obtain ⟨A5,c5,e5,_,_⟩:=h.members.form
 obtain ⟨A6,c6,e6,_,_⟩:=h.inputs.form
 rw [h.kind,h.name,e2,e3,e4,e5,e6]
 clear e2 e3 e4 e5 e6 h
 generalize x.kind = kd at *
 have j1:(kd == 1) = false:=by rw [beq_eq_false_iff_ne]; exact k1
 have j2:(kd == 2) = false:=by rw [beq_eq_false_iff_ne]; exact k2
 have j3:(kd == 3) = false:=by rw [beq_eq_false_iff_ne]; exact k3
 have j4:(kd == 4) = false:=by rw [beq_eq_false_iff_ne]; exact k4
 have j5:(kd == 5) = false:=by rw [beq_eq_false_iff_ne]; exact k5
 have HB0:Hid (Below w.heap.size w (w.alloc (.cells #[.int .i64 kd,.string x.name,.slice A2 x.impl.length c2,.slice A3 x.dirs.length c3,.slice A4 x.fields.length c4,.slice A5 x.members.length c5,.slice A6 x.inputs.length c6] 45 (0,0)))):=Lib.hid (za0 _ _)
 clear k1 k2 k3 k4 k5
 go_enter Tryz.func45, Tryz.ntmps45
 go_wp2_with fail
 go_ret
 exact ⟨by rw [HV.out]; rfl,HB0.out⟩
theorem zX1 (x:DefT) (f:Nat → Value) (w:World) (h:DefR w w.heap.size f x) (cs:Array Value) (hc : #[f 0,f 1,f 2,f 3,f 4,f 5,f 6] = cs):Calls Tryz.prog 45 #[.agg cs] w (BP (zb5 x) w):=by
 subst hc
 exact zK8 x f w h
def defOk (x:DefT):Bool:=nmA x.name && (zh5 x.dirs && zb5 x)
def docOk (l:List DefT):Bool:=inB 1 64 l defOk
set_option maxHeartbeats 2000000 in
theorem zt5 (x:DefT) (f:Nat → Value) (w:World) (h:DefR w w.heap.size f x):Calls Tryz.prog 24 #[.agg #[f 0,f 1,f 2,f 3,f 4,f 5,f 6]] w (BP (defOk x) w):=by
 have HF:=h
 have HN:=Lib.hid h.size
 obtain ⟨A2,c2,e2,_,_⟩:=h.impl.form
 obtain ⟨A3,c3,e3,_,_⟩:=h.dirs.form
 obtain ⟨A4,c4,e4,_,_⟩:=h.fields.form
 obtain ⟨A5,c5,e5,_,_⟩:=h.members.form
 obtain ⟨A6,c6,e6,_,_⟩:=h.inputs.form
 have H2:=h.impl
 have H3:=h.dirs
 have H4:=h.fields
 have H5:=h.members
 have H6:=h.inputs
 rw [e2] at H2
 rw [e3] at H3
 rw [e4] at H4
 rw [e5] at H5
 rw [e6] at H6
 rw [h.kind,h.name,e2,e3,e4,e5,e6]
 replace H2:=Lib.hid H2
 replace H3:=Lib.hid H3
 replace H4:=Lib.hid H4
 replace H5:=Lib.hid H5
 replace H6:=Lib.hid H6
 have hff : #[f 0,f 1,f 2,f 3,f 4,f 5,f 6] = #[.int .i64 x.kind,.string x.name,.slice A2 x.impl.length c2,.slice A3 x.dirs.length c3,.slice A4 x.fields.length c4,.slice A5 x.members.length c5,.slice A6 x.inputs.length c6]:=by rw [h.kind,h.name,e2,e3,e4,e5,e6]
 replace hff:=Lib.hid hff
 clear e2 e3 e4 e5 e6 h H2 H4 H5 H6
 replace HF:=Lib.hid HF
 have HV:Hid (defOk x = (nmA x.name && (zh5 x.dirs && (zb5 x)))):=Lib.hid rfl
 generalize defOk x = RB at *
 have HB0:Hid (Below w.heap.size w (w.alloc (.cells #[.int .i64 x.kind,.string x.name,.slice A2 x.impl.length c2,.slice A3 x.dirs.length c3,.slice A4 x.fields.length c4,.slice A5 x.members.length c5,.slice A6 x.inputs.length c6] 45 (0,0)))):=Lib.hid (za0 _ _)
 have HX0:Hid (Bk (w.alloc (.cells #[.int .i64 x.kind,.string x.name,.slice A2 x.impl.length c2,.slice A3 x.dirs.length c3,.slice A4 x.fields.length c4,.slice A5 x.members.length c5,.slice A6 x.inputs.length c6] 45 (0,0))) w.heap.size #[.int .i64 x.kind,.string x.name,.slice A2 x.impl.length c2,.slice A3 x.dirs.length c3,.slice A4 x.fields.length c4,.slice A5 x.members.length c5,.slice A6 x.inputs.length c6] 45):=Lib.hid (Bk.new _ _ _)
 go_enter Tryz.func24, Tryz.ntmps24
 go_wp2_with fail
 refine (zk6 x.name _ HN.out).mono ?_
 rintro e w1 ⟨rfl,rfl⟩
 cases v:nmA x.name with
 | false =>
   have v0:=Lib.hid v
   clear v
   go_wp2_with fail
   go_ret
   exact ⟨by rw [HV.out,v0.out,Bool.false_and]; rfl,HB0.out⟩
 | true =>
   have v0:=Lib.hid v
   clear v
   have q0:=HX0.out.cell 0 _ rfl
   have q1:=HX0.out.cell 1 _ rfl
   have q2:=HX0.out.cell 2 _ rfl
   have q3:=HX0.out.cell 3 _ rfl
   have q4:=HX0.out.cell 4 _ rfl
   have q5:=HX0.out.cell 5 _ rfl
   have q6:=HX0.out.cell 6 _ rfl
   go_wp2_with fail
   refine (ze8 x.dirs _ _ ((H3.out.kept HB0.out).mono HB0.out.size)).mono ?_
   rintro e w2 ⟨rfl,hb⟩
   clear q0 q1 q2 q3 q4 q5 q6
   have HB1:=Lib.hid (HB0.out.trans (Below.mono hb HB0.out.size))
   have HX1:=Lib.hid (HX0.out.stay hb)
   clear hb
   cases v:zh5 x.dirs with
   | false =>
     have v1:=Lib.hid v
     clear v
     go_wp2_with fail
     go_ret
     exact ⟨by rw [HV.out,v0.out,Bool.true_and,v1.out,Bool.false_and]; rfl,HB1.out⟩
   | true =>
     have v1:=Lib.hid v
     clear v
     have q0:=HX1.out.cell 0 _ rfl
     have q1:=HX1.out.cell 1 _ rfl
     have q2:=HX1.out.cell 2 _ rfl
     have q3:=HX1.out.cell 3 _ rfl
     have q4:=HX1.out.cell 4 _ rfl
     have q5:=HX1.out.cell 5 _ rfl
     have q6:=HX1.out.cell 6 _ rfl
     go_wp2_with fail
     refine (zX1 x f _ (DefR.stays.mono (DefR.stays.kept HF.out HB1.out) HB1.out.size) _ hff.out).mono ?_
     rintro e w3 ⟨rfl,hb⟩
     clear q0 q1 q2 q3 q4 q5 q6
     have HB2:=Lib.hid (HB1.out.trans (Below.mono hb HB1.out.size))
     have HX2:=Lib.hid (HX1.out.stay hb)
     clear hb
     go_wp2_with fail
     go_ret
     exact ⟨by rw [HV.out,v0.out,Bool.true_and,v1.out,Bool.true_and]; rfl,HB2.out⟩
theorem zq8 (l:List DefT) (v:Value) (w:World) (h:DefsR w w.heap.size v l):Calls Tryz.prog 9 #[.agg #[v]] w (BP (docOk l) w):=by
 have HR:=Lib.hid h
 have HV:Hid (docOk l = inB 1 64 l defOk):=Lib.hid rfl
 generalize docOk l = RB at *
 obtain ⟨A,c,rfl,_,_⟩:=h.form
 clear h
 have HB0:Hid (Below w.heap.size w (w.alloc (.cells #[.slice A l.length c] 24 (0,0)))):=Lib.hid (za0 _ _)
 go_enter Tryz.func9, Tryz.ntmps9
 go_wp2_with fail
 refine (zM5 l _ _ 1 64 ((HR.out.kept HB0.out).mono HB0.out.size) defOk fun W f y hy => zt5 y f W hy).mono ?_
 rintro e w1 ⟨rfl,hb⟩
 have HB:=Lib.hid (HB0.out.trans (Below.mono hb HB0.out.size))
 clear hb
 go_wp2_with fail
 go_ret
 exact ⟨by rw [HV.out]; rfl,HB.out⟩
end Go.Proofs.YthjoelpfmimedaaGreatDoor
namespace Go.Proofs.YthjoelpfmimedaaGreatDoor
open Go.RowKit
def TG (ts:List Tk):Prop:=∀ p ∈ ts,p.1 = 2 → T1.nameL p.2.1 = true
theorem zK3 (l:List UInt8):T1.nameL l = nameL l:=rfl
theorem TG.tail {ts:List Tk} (h:TG ts):TG ts.tail:=fun p hp => h p (List.mem_of_mem_tail hp)
theorem nm_g {ts:List Tk} {x:ByteArray} {ts':List Tk} (hg:TG ts) (h:nmR ts = .ok (x,ts')):nmA x = true ∧ TG ts':=by
 unfold nmR at h
 split at h
 ·next hn =>
  cases h
  refine ⟨?_,hg.tail⟩
  cases ts with
  | nil => exact absurd hn (by decide)
  | cons t r =>
    have:t.1 = 2:=by unfold isNm hd at hn; simpa using hn
    have:=hg t List.mem_cons_self this
    rw [zK3] at this
    simpa [nmA,hd] using this
 ·cases h
theorem sg_g {s:List UInt8} {ts ts':List Tk} (hg:TG ts) (h:sgR s ts = .ok ts'):TG ts':=by
 unfold sgR at h
 split at h
 ·cases h; exact hg.tail
 ·cases h
theorem zk0 (lit:Bool):∀ (a b:List VT),zb1 lit (a ++ b) = (zb1 lit a && zb1 lit b)
 | [],b => by simp [zb1]
 | t :: u,b => by simp only [List.cons_append,zb1,zk0 lit u b,Bool.and_assoc]
theorem zu7:∀ (a b:List VT),VT.sizes (a ++ b) = VT.sizes a + VT.sizes b
 | [],b => by simp [VT.sizes]
 | t :: u,b => by simp only [List.cons_append,VT.sizes,zu7 u b]; omega
theorem zs0 (D:Nat):∀ (a b:List VT),VT.depths a ≤ D → VT.depths b ≤ D → VT.depths (a ++ b) ≤ D
 | [],b,_,h => h
 | t :: u,b,h1,h2 => by
   simp only [VT.depths] at h1
   simp only [List.cons_append,VT.depths]
   have:=zs0 D u b (by omega) h2
   omega
structure VG (D n n':Nat) (t:VT) (ts':List Tk):Prop where
 g:TG ts'
 w1:zb2 true t = true
 w0:zb2 false t = true
 d:t.depth ≤ D
 n:n' = n + t.size
 m:n' ≤ 4096
def VGs (D:Nat) (el:ElT):Prop:=∀ ts n t ts' n',TG ts → n ≤ 4096 → el ts n = .ok (t,ts',n') → VG D n n' t ts'
theorem ls_g {D:Nat} {el:ElT} (he:VGs D el):∀ (f:Nat) (l:List VT) (ts:List Tk) (n:Nat) (l':List VT) (ts':List Tk) (n':Nat),lsP el f l ts n = .ok (l',ts',n') → TG ts → n ≤ 4096 → zb1 true l = true → zb1 false l = true → VT.depths l ≤ D →
  TG ts' ∧ zb1 true l' = true ∧ zb1 false l' = true ∧ VT.depths l' ≤ D ∧ n' + VT.sizes l = n + VT.sizes l' ∧ n' ≤ 4096
 | 0,_,_,_,_,_,_,h,_,_,_,_,_ => by cases h
 | f + 1,l,ts,n,l',ts',n',h,hg,hn,h1,h0,hd => by
   rw [zj5] at h
   split at h
   ·cases h; exact ⟨hg.tail,h1,h0,hd,rfl,hn⟩
   ·obtain ⟨q,h2,h⟩:=za2 h
    have hv:=he _ _ _ _ _ hg hn (show el ts n = .ok (q.1,q.2.1,q.2.2) from h2)
    have:=ls_g he f _ _ _ _ _ _ h hv.g hv.m (by rw [zk0,h1]; simp [zb1,hv.w1]) (by rw [zk0,h0]; simp [zb1,hv.w0]) (zs0 D _ _ hd (by simp only [VT.depths]; have:=hv.d; omega))
    obtain ⟨q1,q2,q3,q4,q5,q6⟩:=this
    refine ⟨q1,q2,q3,q4, ?_,q6⟩
    rw [zu7] at q5
    simp only [VT.sizes] at q5
    have:=hv.n
    omega
theorem lsV_g {D:Nat} {el:ElT} (he:VGs D el) (ts:List Tk) (n:Nat) (t:VT) (ts':List Tk) (n':Nat) (hg:TG ts) (hn:n ≤ 4096) (h:lsV el ts n = .ok (t,ts',n')):TG ts' ∧ zb2 true t = true ∧ zb2 false t = true ∧ t.depth ≤ D + 1 ∧ n' + 1 = n + t.size ∧ n' ≤ 4096:=by
 obtain ⟨q,h1,h⟩:=za2 h
 cases h
 obtain ⟨q1,q2,q3,q4,q5,q6⟩:=ls_g he _ _ _ _ _ _ _ (show lsP el _ [] ts n = .ok (q.1,q.2.1,q.2.2) from h1) hg hn (by simp [zb1]) (by simp [zb1]) (by simp [VT.depths])
 simp only [VT.sizes] at q5
 refine ⟨q1, ?_, ?_, ?_, ?_,q6⟩
 ·simp [zb2,nodeB,q2]; rfl
 ·simp [zb2,nodeB,q3]; rfl
 ·simp only [VT.depth]; omega
 ·simp only [VT.size]; omega
theorem ob_g {D:Nat} {el:ElT} (he:VGs D el):∀ (f:Nat) (ks:List ByteArray) (l:List VT) (ts:List Tk) (n:Nat) (ks':List ByteArray) (l':List VT) (ts':List Tk) (n':Nat),obP el f ks l ts n = .ok (ks',l',ts',n') → TG ts → n ≤ 4096 → zb1 true l = true → zb1 false l = true → VT.depths l ≤ D → ks.length = l.length → ks.Nodup → ks.all nmA = true →
  (TG ts' ∧ zb1 true l' = true ∧ zb1 false l' = true ∧ VT.depths l' ≤ D ∧ n' + VT.sizes l = n + VT.sizes l' ∧ n' ≤ 4096) ∧ ks'.length = l'.length ∧ ks'.Nodup ∧ ks'.all nmA = true
 | 0,_,_,_,_,_,_,_,_,h,_,_,_,_,_,_,_,_ => by cases h
 | f + 1,ks,l,ts,n,ks',l',ts',n',h,hg,hn,h1,h0,hd,hl,hnd,hnm => by
   rw [zj4] at h
   split at h
   ·cases h; exact ⟨⟨hg.tail,h1,h0,hd,rfl,hn⟩,hl,hnd,hnm⟩
   ·obtain ⟨k,hk,h⟩:=za2 h
    obtain ⟨t2,ht2,h⟩:=za2 h
    obtain ⟨q,h2,h⟩:=za2 h
    obtain ⟨k0,hk0,hk⟩:=za2 hk
    split at hk
    ·cases hk
    ·next hnin =>
     cases hk
     obtain ⟨g1,g2⟩:=nm_g hg (show nmR ts = .ok (k.1,k.2) from hk0)
     have g3:=sg_g g2 ht2
     have hv:=he _ _ _ _ _ g3 hn (show el t2 n = .ok (q.1,q.2.1,q.2.2) from h2)
     have:=ob_g he f _ _ _ _ _ _ _ _ h hv.g hv.m (by rw [zk0,h1]; simp [zb1,hv.w1]) (by rw [zk0,h0]; simp [zb1,hv.w0]) (zs0 D _ _ hd (by simp only [VT.depths]; have:=hv.d; omega)) (by simp [hl]) (by
      rw [List.nodup_append]
      refine ⟨hnd,by simp,fun a ha b hb => ?_⟩
      rw [List.mem_singleton.1 hb]
      rintro rfl
      exact hnin ha) (by rw [List.all_append,hnm]; simp [g1])
     obtain ⟨⟨q1,q2,q3,q4,q5,q6⟩,q7⟩:=this
     refine ⟨⟨q1,q2,q3,q4, ?_,q6⟩,q7⟩
     rw [zu7] at q5
     simp only [VT.sizes] at q5
     have:=hv.n
     omega
theorem obV_g {D:Nat} {el:ElT} (he:VGs D el) (ts:List Tk) (n:Nat) (t:VT) (ts':List Tk) (n':Nat) (hg:TG ts) (hn:n ≤ 4096) (h:obV el ts n = .ok (t,ts',n')):TG ts' ∧ zb2 true t = true ∧ zb2 false t = true ∧ t.depth ≤ D + 1 ∧ n' + 1 = n + t.size ∧ n' ≤ 4096:=by
 obtain ⟨q,h1,h⟩:=za2 h
 cases h
 obtain ⟨⟨q1,q2,q3,q4,q5,q6⟩,q7,q8,q9⟩:=ob_g he _ _ _ _ _ _ _ _ _ (show obP el _ [] [] ts n = .ok (q.1,q.2.1,q.2.2.1,q.2.2.2) from h1) hg hn (by simp [zb1]) (by simp [zb1]) (by simp [VT.depths]) rfl (by simp) (by simp)
 simp only [VT.sizes] at q5
 refine ⟨q1, ?_, ?_, ?_, ?_,q6⟩
 ·simp [zb2,nodeB,q2,keysB,q7,q8,q9]; rfl
 ·simp [zb2,nodeB,q3,keysB,q7,q8]; rfl
 ·simp only [VT.depth]; omega
 ·simp only [VT.size]; omega
theorem nm_v {x:ByteArray} (h:nmA x = true):zb2 true (nmV x) = true ∧ zb2 false (nmV x) = true ∧ (nmV x).depth = 1 ∧ (nmV x).size = 1:=by
 unfold nmV
 split
 ·exact ⟨by rfl,by rfl,by rfl,by rfl⟩
 split
 ·exact ⟨by rfl,by rfl,by rfl,by rfl⟩
 split
 ·exact ⟨by rfl,by rfl,by rfl,by rfl⟩
 ·next h1 h2 h3 =>
  refine ⟨?_, ?_,by rfl,by rfl⟩
  ·simp [zb2,zb1,nodeB,leafB,enumB,h,h1,h2,h3]
  ·simp [zb2,zb1,nodeB,leafB,enumB,h,h1,h2,h3]
theorem va_g {lv D:Nat} {L O:ElT} (hlv:lv + D = 25)
  (hL:lv ≤ 24 → ∀ ts n t ts' n',TG ts → n ≤ 4096 → L ts n = .ok (t,ts',n') → TG ts' ∧ zb2 true t = true ∧ zb2 false t = true ∧ t.depth ≤ D ∧ n' + 1 = n + t.size ∧ n' ≤ 4096)
  (hO:lv ≤ 24 → ∀ ts n t ts' n',TG ts → n ≤ 4096 → O ts n = .ok (t,ts',n') → TG ts' ∧ zb2 true t = true ∧ zb2 false t = true ∧ t.depth ≤ D ∧ n' + 1 = n + t.size ∧ n' ≤ 4096):VGs D (vaP lv L O):=by
 intro ts n t ts' n' hg hn h
 obtain ⟨_,hb,h⟩:=za2 h
 obtain ⟨hv,h24,hn1⟩:=bv_ok hb
 have hD:1 ≤ D:=by omega
 split at h
 ·next h2 =>
  cases h
  have hnm:nmA ⟨(hd ts).2.1.toArray⟩ = true:=by
   cases ts with
   | nil => exact absurd h2 (by decide)
   | cons p r =>
     have:=hg p List.mem_cons_self h2
     rw [zK3] at this
     simpa [nmA,hd] using this
  obtain ⟨a,b,c,d⟩:=nm_v hnm
  exact ⟨hg.tail,a,b,by omega,by omega,hn1⟩
 split at h
 ·cases h
  exact ⟨hg.tail,by rfl,by rfl,by show 1 ≤ D; exact hD,by rfl,hn1⟩
 split at h
 ·cases h
  exact ⟨hg.tail,by rfl,by rfl,by show 1 ≤ D; exact hD,by rfl,hn1⟩
 split at h
 ·obtain ⟨a,b,c,d,e,f⟩:=hL h24 _ _ _ _ _ hg.tail hn1 h
  exact ⟨a,b,c,d,by omega,f⟩
 ·obtain ⟨a,b,c,d,e,f⟩:=hO h24 _ _ _ _ _ hg.tail hn1 h
  exact ⟨a,b,c,d,by omega,f⟩
theorem vF_g:∀ (f lv:Nat),lv + f = 25 → VGs (25 - lv) (vF obV f lv)
 | 0,lv,h => va_g (by omega) (fun h => by omega) (fun h => by omega)
 | f + 1,lv,h => by
   have ih:=vF_g f (lv + 1) (by omega)
   refine va_g (by omega) (fun _ ts n t ts' n' hg hn h => ?_) (fun _ ts n t ts' n' hg hn h => ?_)
   ·obtain ⟨a,b,c,d,e⟩:=lsV_g ih ts n t ts' n' hg hn h
    exact ⟨a,b,c,by omega,e⟩
   ·obtain ⟨a,b,c,d,e⟩:=obV_g ih ts n t ts' n' hg hn h
    exact ⟨a,b,c,by omega,e⟩
theorem wv_g {ts:List Tk} {t:VT} {ts':List Tk} (hg:TG ts) (h:wvP ts = .ok (t,ts')):litOk t = true ∧ TG ts':=by
 obtain ⟨q,h1,h⟩:=za2 h
 cases h
 have:=vF_g 24 1 rfl _ _ _ _ _ hg (Nat.zero_le _) (show vF obV 24 1 ts 0 = .ok (q.1,q.2.1,q.2.2) from h1)
 have h2:=this.n
 have h3:=this.m
 have h4:=this.d
 refine ⟨?_,this.g⟩
 simp only [litOk,zc0,this.w1,this.w0,Bool.and_eq_true,decide_eq_true_eq,and_true]
 omega
end Go.Proofs.YthjoelpfmimedaaGreatDoor
namespace Go.Proofs.YthjoelpfmimedaaGreatDoor
open Go.RowKit
def Gd {α:Type} (el:List Tk → Except Er (α × List Tk)) (P : α → Bool):Prop:=∀ ts x ts',TG ts → el ts = .ok (x,ts') → P x = true ∧ TG ts'
theorem zj6 {α:Type} {a b:Int} {l:List α} {P : α → Bool} (h1:a ≤ (l.length:Int)) (h2:(l.length:Int) ≤ b) (h3:l.all P = true):inB a b l P = true:=by
 unfold inB; simp only [h1,h2,h3,decide_true,Bool.and_self]
theorem bls_g {α:Type} {cl:List UInt8} {most:Nat} {el:List Tk → Except Er (α × List Tk)} {P : α → Bool} (he:Gd el P):∀ (f:Nat) (l:List α) (ts:List Tk) (l':List α) (ts':List Tk),bls cl most el f l ts = .ok (l',ts') → TG ts → l.all P = true → l.length ≤ most → (l'.all P = true ∧ 1 ≤ l'.length ∧ l'.length ≤ most) ∧ TG ts'
 | 0,_,_,_,_,h,_,_,_ => by cases h
 | f + 1,l,ts,l',ts',h,hg,hp,hm => by
   rw [zd7] at h
   split at h
   ·next h0 => cases h; exact ⟨⟨hp,by omega,hm⟩,hg.tail⟩
   ·obtain ⟨_,h1,h⟩:=za2 h
    obtain ⟨q,h2,h⟩:=za2 h
    obtain ⟨g1,g2⟩:=he ts q.1 q.2 hg h2
    have:=(bg_ok h1).2
    exact bls_g he f _ _ _ _ h g2 (by rw [List.all_append,hp]; simp [g1]) (by rw [List.length_append,List.length_singleton]; omega)
theorem bl_g {α:Type} {op cl:List UInt8} {most:Nat} {el:List Tk → Except Er (α × List Tk)} {P : α → Bool} (he:Gd el P) {ts:List Tk} {l':List α} {ts':List Tk} (hg:TG ts) (h:blR op cl most el ts = .ok (l',ts')):(l'.all P = true ∧ 1 ≤ l'.length ∧ l'.length ≤ most) ∧ TG ts':=by
 obtain ⟨t1,h1,h⟩:=za2 h
 exact bls_g he _ _ _ _ _ h (sg_g hg h1) (by simp) (by simp)
theorem nms_g {sep:List UInt8}:∀ (f:Nat) (l:List ByteArray) (ts:List Tk) (l':List ByteArray) (ts':List Tk),nms sep f l ts = .ok (l',ts') → TG ts → l.all nmA = true → l.length ≤ 64 → (l'.all nmA = true ∧ 1 ≤ l'.length ∧ l'.length ≤ 64) ∧ TG ts'
 | 0,_,_,_,_,h,_,_,_ => by cases h
 | f + 1,l,ts,l',ts',h,hg,hp,hm => by
   rw [zi2] at h
   split at h
   ·next h0 => cases h; exact ⟨⟨hp,by omega,hm⟩,hg⟩
   ·obtain ⟨_,h1,h⟩:=za2 h
    obtain ⟨q,h2,h⟩:=za2 h
    have hg2:TG (if l.length = 0 then ts else ts.tail):=by split; exact hg; exact hg.tail
    obtain ⟨g1,g2⟩:=nm_g hg2 (show nmR _ = .ok (q.1,q.2) from h2)
    have:=(bg_ok h1).2
    exact nms_g f _ _ _ _ h g2 (by rw [List.all_append,hp]; simp [g1]) (by rw [List.length_append,List.length_singleton]; omega)
theorem drs_g {el:List Tk → Except Er (DirT × List Tk)} (he:Gd el dirOk):∀ (f:Nat) (l:List DirT) (ts:List Tk) (l':List DirT) (ts':List Tk),drs el f l ts = .ok (l',ts') → TG ts → l.all dirOk = true → l.length ≤ 16 → zh5 l' = true ∧ TG ts'
 | 0,_,_,_,_,h,_,_,_ => by cases h
 | f + 1,l,ts,l',ts',h,hg,hp,hm => by
   rw [zj7] at h
   split at h
   ·cases h; exact ⟨zj6 (by omega) (by omega) hp,hg⟩
   ·obtain ⟨_,h1,h⟩:=za2 h
    obtain ⟨q,h2,h⟩:=za2 h
    obtain ⟨g1,g2⟩:=he ts q.1 q.2 hg h2
    have:=(bg_ok h1).2
    exact drs_g he f _ _ _ _ h g2 (by rw [List.all_append,hp]; simp [g1]) (by rw [List.length_append,List.length_singleton]; omega)
theorem arg_g:Gd argX argOk:=fun ts x ts' hg h => by
 obtain ⟨q,h1,h⟩:=za2 h
 obtain ⟨t1,h2,h⟩:=za2 h
 obtain ⟨r,h3,h⟩:=za2 h
 cases h
 obtain ⟨a,b⟩:=nm_g hg (show nmR _ = .ok (q.1,q.2) from h1)
 obtain ⟨c,d⟩:=wv_g (sg_g b h2) (show wvP _ = .ok (r.1,r.2) from h3)
 exact ⟨by simp [argOk,a,c],d⟩
theorem dir_g:Gd dirX dirOk:=fun ts x ts' hg h => by
 obtain ⟨t1,h2,h⟩:=za2 h
 obtain ⟨q,h1,h⟩:=za2 h
 obtain ⟨a,b⟩:=nm_g (sg_g hg h2) (show nmR _ = .ok (q.1,q.2) from h1)
 split at h
 ·obtain ⟨r,h3,h⟩:=za2 h
  cases h
  obtain ⟨⟨c,d,e⟩,g⟩:=bl_g arg_g b (show blR _ _ _ _ _ = .ok (r.1,r.2) from h3)
  exact ⟨by simp only [dirOk,a,Bool.true_and]; exact zj6 (by omega) (by omega) c,g⟩
 ·cases h
  exact ⟨by simp only [dirOk,a,Bool.true_and]; exact zj6 (by simp) (by simp) (by simp),b⟩
theorem zq2 {ts:List Tk} {l:List DirT} {ts':List Tk} (hg:TG ts) (h:drsR dirX ts = .ok (l,ts')):zh5 l = true ∧ TG ts' :=
 drs_g dir_g _ _ _ _ _ h hg (by simp) (by simp)
end Go.Proofs.YthjoelpfmimedaaGreatDoor
