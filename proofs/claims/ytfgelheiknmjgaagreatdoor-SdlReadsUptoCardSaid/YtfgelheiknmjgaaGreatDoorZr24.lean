
/-
 Texts joined: D3 D4.
-/
import Derived.Test.YtfgelheiknmjgaaGreatDoorZr7
import Derived.Test.YtfgelheiknmjgaaGreatDoorZr5
import Derived.Test.YtfgelheiknmjgaaGreatDoorZr23
set_option maxRecDepth 1000000
set_option maxHeartbeats 8000000
namespace Go.Proofs.YtfgelheiknmjgaaGreatDoor
open Go.RowKit
theorem zo9 {w:World} {B:Nat} {c0 c1:Value} {n:ByteArray} {xs:List Int} (h:RfR w B c0 c1 n xs):K.RefV w B (.agg #[c0,c1]) n xs:=by
 obtain ⟨A,c,q,hc,hb,V,hA,hr⟩:=h.wraps;refine ⟨A,c,by rw [h.name,q],hc,fun h0=>?_⟩
 obtain ⟨a,e,ha,hx⟩:=hA h0;refine ⟨a,e,ha,fun i x hi=>?_⟩
 have h1:=hx i (List.getElem?_eq_some_iff.1 hi).1 0 (by omega)
 rw [Nat.mul_one] at h1;exact h1.trans (congrArg some (hr i x hi).1)
theorem zk9 (s:ByteArray) (w:World) (hs:s.size<=big):Calls Tryz.prog 39 #[.string s] w fun e w'=>e=.returned (.bool (nmA s))/\w=w':=zl7 s w (by unfold maxLen; unfold big at hs; omega)
def litOk (t:VT):Bool:=zb9 true t&&zb9 false t
def argOk (x:ByteArray × VT):Bool:=nmA x.1&&litOk x.2
def dirOk (x:DirT):Bool:=nmA x.name&&inB 0 16 x.args argOk
def zg7 (l:List DirT):Bool:=inB 0 16 l dirOk
def dflOk (has:Bool) (t:VT):Bool:=if has then litOk t else (match t with | .mk k _ _ _ _=>decide (k=0))&&zb9 false t
def inpOk (x:InpT):Bool:=nmA x.name&&(K.okB x.tn x.tw&&(dflOk x.has x.dflt&&zg7 x.dirs))
def zB9 (l:List InpT):Bool:=inB 0 16 l inpOk
def fldOk (x:FldT):Bool:=nmA x.name&&(zB9 x.args&&(K.okB x.tn x.tw&&zg7 x.dirs))
def zd6 (x:MemT):Bool:=nmA x.name&&decide (x.dirs.length=0)
def ze7 (x:MemT):Bool:=nmA x.name&&zg7 x.dirs
theorem zp1 (t:VT) (v:Value) (w:World) (h:Rd w w.heap.size v t):Calls Tryz.prog 84 #[v] w (BP (litOk t) w):=by
 obtain ⟨k,n,s,A,li,ci,K,lk,ck,rfl⟩:=h.shape;have HR:=Lh h;clear h;have HV:Hid (litOk t=(zb9 true t&&(zb9 false t))):=Lh rfl;generalize litOk t=RB at *;have HB0:Hid (Below w.heap.size w (w.alloc (.cells #[.int .i64 k,.int .i64 n,.string s,.slice A li ci,.slice K lk ck] 53 (0,0)))):=Lh (za1 _ _);have HX0:Hid (Bk (w.alloc (.cells #[.int .i64 k,.int .i64 n,.string s,.slice A li ci,.slice K lk ck] 53 (0,0))) w.heap.size #[.int .i64 k,.int .i64 n,.string s,.slice A li ci,.slice K lk ck] 53):=Lh (Bk.new _ _ _)
 go_enter Tryz.func84, Tryz.ntmps84
 go_wp2_with fail
 refine (zO0 t _ w.heap.size _ (HR.out.kept HB0.out) HB0.out.size).mono ?_
 rintro e w2 ⟨rfl,hb⟩;have HB1:=Lh (HB0.out.trans (Below.mono hb HB0.out.size));have HX1:=Lh (HX0.out.stay hb);clear hb
 cases v:zb9 true t with
 | false =>
   have v0:=Lh v;clear v;go_wp2_with fail
   go_ret
   exact ⟨by rw [HV.out,v0.out,Bool.false_and]; rfl,HB1.out⟩
 | true =>
   have v0:=Lh v;clear v;have q0:=HX1.out.cell 0 _ rfl;have q1:=HX1.out.cell 1 _ rfl;have q2:=HX1.out.cell 2 _ rfl;have q3:=HX1.out.cell 3 _ rfl;have q4:=HX1.out.cell 4 _ rfl;go_wp2_with fail
   refine (zI0 t _ w.heap.size _ (HR.out.kept HB1.out) HB1.out.size).mono ?_
   rintro e w3 ⟨rfl,hb⟩;clear q0 q1 q2 q3 q4;have HB2:=Lh (HB1.out.trans (Below.mono hb HB1.out.size));have HX2:=Lh (HX1.out.stay hb);clear hb;go_wp2_with fail
   go_ret
   exact ⟨by rw [HV.out,v0.out,Bool.true_and]; rfl,HB2.out⟩
abbrev cnV:Value:=.func (.func 84) #[] #[]
theorem zA0 (q:Nat) (x:ByteArray × VT) (f:Nat->Value) (w:World) (hq:w.cell? ⟨q,0,none⟩=some cnV) (hql:q<w.heap.size) (h:ArgR w w.heap.size f x):Calls Tryz.prog 187 (#[.agg #[f 0,f 1,f 2,f 3,f 4,f 5]]++#[.pointer (some ⟨q,0,none⟩)]) w (BP (argOk x) w):=by
 obtain ⟨k,n,s,A,li,ci,K,lk,ck,e1,e2,e3,e4,e5⟩:=Rd.form h.val;have HR:=h.val;have HN:=Lh h.size;rw [e1,e2,e3,e4,e5] at HR;rw [h.name,e1,e2,e3,e4,e5];clear e1 e2 e3 e4 e5 h;replace HR:=Lh HR;have HV:Hid (argOk x=(nmA x.1&&(litOk x.2))):=Lh rfl;generalize argOk x=RB at *;have HB0:Hid (Below w.heap.size w (w.alloc (.cells #[.string x.1,.int .i64 k,.int .i64 n,.string s,.slice A li ci,.slice K lk ck] 88 (0,0)))):=Lh (za1 _ _);have HX0:Hid (Bk (w.alloc (.cells #[.string x.1,.int .i64 k,.int .i64 n,.string s,.slice A li ci,.slice K lk ck] 88 (0,0))) w.heap.size #[.string x.1,.int .i64 k,.int .i64 n,.string s,.slice A li ci,.slice K lk ck] 88):=Lh (Bk.new _ _ _);show Calls _ _ #[_,_] w _
 have HQ:Hid ((w.alloc (.cells #[.string x.1,.int .i64 k,.int .i64 n,.string s,.slice A li ci,.slice K lk ck] 88 (0,0))).cell? ⟨q,0,none⟩=some cnV):=Lh ((HB0.out.cell (p:=⟨q,0,none⟩) hql).trans hq);clear hq hql
 go_enter Tryz.func187, Tryz.ntmps187
 go_wp2_with fail
 refine (zk9 x.1 _ HN.out).mono ?_
 rintro e w1 ⟨rfl,rfl⟩
 cases v:nmA x.1 with
 | false =>
   have v0:=Lh v;clear v;go_wp2_with fail
   go_ret
   exact ⟨by rw [HV.out,v0.out,Bool.false_and]; rfl,HB0.out⟩
 | true =>
   have v0:=Lh v;clear v;have q0:=HX0.out.cell 0 _ rfl;have q1:=HX0.out.cell 1 _ rfl;have q2:=HX0.out.cell 2 _ rfl;have q3:=HX0.out.cell 3 _ rfl;have q4:=HX0.out.cell 4 _ rfl;have q5:=HX0.out.cell 5 _ rfl;have q6:=HQ.out;go_wp2_with fail
   refine (zp1 x.2 _ _ ((HR.out.kept HB0.out).mono HB0.out.size)).mono ?_
   rintro e w2 ⟨rfl,hb⟩;clear q0 q1 q2 q3 q4 q5 q6;have HB1:=Lh (HB0.out.trans (Below.mono hb HB0.out.size));have HX1:=Lh (HX0.out.stay hb);clear hb;go_wp2_with fail
   go_ret
   exact ⟨by rw [HV.out,v0.out,Bool.true_and]; rfl,HB1.out⟩
theorem zv3 (xs:List (ByteArray × VT)) (v:Value) (w:World) (h:ArgsR w w.heap.size v xs):Calls Tryz.prog 143 #[v,cnV] w (BP (inB 0 16 xs argOk) w):=by
 have hB:Below w.heap.size w (w.alloc (.cells #[cnV] 130 (0,0))):=za1 _ _;have hq0:(w.alloc (.cells #[cnV] 130 (0,0))).cell? ⟨w.heap.size,0,none⟩=some cnV:=(Bk.new _ _ _).cell 0 _ rfl;have HC:=Lh (zM0 w.heap.size xs v _ 0 16 (Sl.mono ArgR.stays (Sl.kept ArgR.stays h hB) hB.size) argOk fun W f y hW hy=>zA0 w.heap.size y f W ((hW.cell (p:=⟨w.heap.size,0,none⟩) (by simp)).trans hq0) (by have:=hW.size; simp at this; omega) hy)
 have HB:=Lh hB;obtain ⟨A,c,rfl,_,_⟩:=h.form;clear h hq0 hB;generalize inB 0 16 xs argOk=RB at *
 go_enter Tryz.func143, Tryz.ntmps143
 go_wp2_with fail
 refine HC.out.mono ?_
 rintro e w1 ⟨rfl,hb⟩;have HB2:=Lh (HB.out.trans (hb.mono HB.out.size));clear hb;go_wp2_with fail
 go_ret
 exact ⟨rfl,HB2.out⟩
theorem zy4 (q:Nat) (x:DirT) (f:Nat->Value) (w:World) (hq:w.cell? ⟨q,0,none⟩=some cnV) (hql:q<w.heap.size) (h:DirR w w.heap.size f x):Calls Tryz.prog 142 (#[.agg #[f 0,f 1]]++#[.pointer (some ⟨q,0,none⟩)]) w (BP (dirOk x) w):=by
 obtain ⟨A,c,e1,_,_⟩:=h.args.form;have HR:=h.args;have HN:=Lh h.size;rw [e1] at HR;rw [h.name,e1];clear e1 h;replace HR:=Lh HR;have HV:Hid (dirOk x=(nmA x.name&&(inB 0 16 x.args argOk))):=Lh rfl;generalize dirOk x=RB at *;have HB0:Hid (Below w.heap.size w (w.alloc (.cells #[.string x.name,.slice A x.args.length c] 85 (0,0)))):=Lh (za1 _ _);have HX0:Hid (Bk (w.alloc (.cells #[.string x.name,.slice A x.args.length c] 85 (0,0))) w.heap.size #[.string x.name,.slice A x.args.length c] 85):=Lh (Bk.new _ _ _);show Calls _ _ #[_,_] w _
 have HQ:Hid ((w.alloc (.cells #[.string x.name,.slice A x.args.length c] 85 (0,0))).cell? ⟨q,0,none⟩=some cnV):=Lh ((HB0.out.cell (p:=⟨q,0,none⟩) hql).trans hq);clear hq hql
 go_enter Tryz.func142, Tryz.ntmps142
 go_wp2_with fail
 refine (zk9 x.name _ HN.out).mono ?_
 rintro e w1 ⟨rfl,rfl⟩
 cases v:nmA x.name with
 | false =>
   have v0:=Lh v;clear v;go_wp2_with fail
   go_ret
   exact ⟨by rw [HV.out,v0.out,Bool.false_and]; rfl,HB0.out⟩
 | true =>
   have v0:=Lh v;clear v;have q0:=HX0.out.cell 0 _ rfl;have q1:=HX0.out.cell 1 _ rfl;have q6:=HQ.out;go_wp2_with fail
   refine (zv3 x.args _ _ ((HR.out.kept HB0.out).mono HB0.out.size)).mono ?_
   rintro e w2 ⟨rfl,hb⟩;clear q0 q1 q6;have HB1:=Lh (HB0.out.trans (Below.mono hb HB0.out.size));have HX1:=Lh (HX0.out.stay hb);clear hb;go_wp2_with fail
   go_ret
   exact ⟨by rw [HV.out,v0.out,Bool.true_and]; rfl,HB1.out⟩
theorem zs0 (xs:List DirT) (v:Value) (w:World) (h:DirsR w w.heap.size v xs):Calls Tryz.prog 83 #[v,cnV] w (BP (inB 0 16 xs dirOk) w):=by
 have hB:Below w.heap.size w (w.alloc (.cells #[cnV] 130 (0,0))):=za1 _ _;have hq0:(w.alloc (.cells #[cnV] 130 (0,0))).cell? ⟨w.heap.size,0,none⟩=some cnV:=(Bk.new _ _ _).cell 0 _ rfl;have HC:=Lh (zL8 w.heap.size xs v _ 0 16 (Sl.mono DirR.stays (Sl.kept DirR.stays h hB) hB.size) dirOk fun W f y hW hy=>zy4 w.heap.size y f W ((hW.cell (p:=⟨w.heap.size,0,none⟩) (by simp)).trans hq0) (by have:=hW.size; simp at this; omega) hy)
 have HB:=Lh hB;obtain ⟨A,c,rfl,_,_⟩:=h.form;clear h hq0 hB;generalize inB 0 16 xs dirOk=RB at *
 go_enter Tryz.func83, Tryz.ntmps83
 go_wp2_with fail
 refine HC.out.mono ?_
 rintro e w1 ⟨rfl,hb⟩;have HB2:=Lh (HB.out.trans (hb.mono HB.out.size));clear hb;go_wp2_with fail
 go_ret
 exact ⟨rfl,HB2.out⟩
theorem zf2 (xs:List DirT) (v:Value) (w:World) (h:DirsR w w.heap.size v xs):Calls Tryz.prog 40 #[v] w (BP (zg7 xs) w):=by
 have HC:=Lh (zs0 xs v w h);have HV:Hid (zg7 xs=inB 0 16 xs dirOk):=Lh rfl;generalize zg7 xs=RB at *;obtain ⟨A,c,rfl,_,_⟩:=h.form;clear h
 go_enter Tryz.func40, Tryz.ntmps40
 go_wp2_with fail
 refine HC.out.mono ?_
 rintro e w1 ⟨rfl,hb⟩;have HB:=Lh hb;clear hb;go_wp2_with fail
 go_ret
 exact ⟨by rw [HV.out]; rfl,HB.out⟩
theorem zv0 (x:MemT) (f:Nat->Value) (w:World) (h:MemR w w.heap.size f x):Calls Tryz.prog 86 #[.agg #[f 0,f 1]] w (BP (ze7 x) w):=by
 obtain ⟨A,c,e1,_,_⟩:=h.dirs.form;have HR:=h.dirs;have HN:=Lh h.size;rw [e1] at HR;rw [h.name,e1];clear e1 h;replace HR:=Lh HR;have HV:Hid (ze7 x=(nmA x.name&&(zg7 x.dirs))):=Lh rfl;generalize ze7 x=RB at *;have HB0:Hid (Below w.heap.size w (w.alloc (.cells #[.string x.name,.slice A x.dirs.length c] 48 (0,0)))):=Lh (za1 _ _);have HX0:Hid (Bk (w.alloc (.cells #[.string x.name,.slice A x.dirs.length c] 48 (0,0))) w.heap.size #[.string x.name,.slice A x.dirs.length c] 48):=Lh (Bk.new _ _ _)
 go_enter Tryz.func86, Tryz.ntmps86
 go_wp2_with fail
 refine (zk9 x.name _ HN.out).mono ?_
 rintro e w1 ⟨rfl,rfl⟩
 cases v:nmA x.name with
 | false =>
   have v0:=Lh v;clear v;go_wp2_with fail
   go_ret
   exact ⟨by rw [HV.out,v0.out,Bool.false_and]; rfl,HB0.out⟩
 | true =>
   have v0:=Lh v;clear v;have q0:=HX0.out.cell 0 _ rfl;have q1:=HX0.out.cell 1 _ rfl;go_wp2_with fail
   refine (zf2 x.dirs _ _ ((HR.out.kept HB0.out).mono HB0.out.size)).mono ?_
   rintro e w2 ⟨rfl,hb⟩;clear q0 q1;have HB1:=Lh (HB0.out.trans (Below.mono hb HB0.out.size));have HX1:=Lh (HX0.out.stay hb);clear hb;go_wp2_with fail
   go_ret
   exact ⟨by rw [HV.out,v0.out,Bool.true_and]; rfl,HB1.out⟩
theorem zf1 (x:MemT) (f:Nat->Value) (w:World) (h:MemR w w.heap.size f x):Calls Tryz.prog 85 #[.agg #[f 0,f 1]] w (BP (zd6 x) w):=by
 obtain ⟨A,c,e1,_,hbi⟩:=h.dirs.form;have HN:=Lh h.size;rw [h.name,e1];clear e1 h;obtain ⟨nm,dirs⟩:=x;unfold big at hbi;have hlen:(dirs.length:Int)<=140737488351232:=by simp only at hbi; omega
 have HV:Hid (zd6 ⟨nm,dirs⟩=(nmA nm&&decide (dirs.length=0))):=Lh rfl;generalize zd6 ⟨nm,dirs⟩=RB at *;have HB0:Hid (Below w.heap.size w (w.alloc (.cells #[.string nm,.slice A dirs.length c] 48 (0,0)))):=Lh (za1 _ _);clear hbi;show Calls _ _ #[.agg #[.string nm,.slice A dirs.length c]] _ _
 generalize dirs.length=len at *
 cases v:nmA nm with
 | false =>
   have v0:=Lh v;clear v
   go_enter Tryz.func85, Tryz.ntmps85
   go_wp2_with fail
   refine (zk9 nm _ HN.out).mono ?_
   rintro e w1 ⟨rfl,rfl⟩;rw [v0.out];go_wp2_with fail
   go_ret
   exact ⟨by rw [HV.out,v0.out]; rfl,HB0.out⟩
 | true =>
   have v0:=Lh v;clear v
   go_enter Tryz.func85, Tryz.ntmps85
   go_wp2_with fail
   refine (zk9 nm _ HN.out).mono ?_
   rintro e w1 ⟨rfl,rfl⟩;rw [v0.out];by_cases hz:len=0
   ·subst hz
    go_wp2_with fail
    go_ret
    exact ⟨by rw [HV.out,v0.out]; rfl,HB0.out⟩
   ·have hz':((len:Int)==0)=false:=by rw [beq_eq_false_iff_ne]; omega
    have HV2:Hid (RB=false):=Lh (by rw [HV.out,v0.out]; simp [hz])
    go_wp2_with fail
    go_ret
    exact ⟨by rw [HV2.out]; rfl,HB0.out⟩
theorem zF0 (b:Bool) (t:VT) (v:Value) (w:World) (h:Rd w w.heap.size v t):Calls Tryz.prog 147 #[.bool b,v] w (BP (dflOk b t) w):=by
 have HR:=Lh h;obtain ⟨k,n,s,is,ks⟩:=t
 cases h with
 | @mk _ _ _ A li ci K lk ck _ _ V hk hn hs hks hli hlk hbi hbk hA hr hK =>
 have HB0:Hid (Below w.heap.size w (w.alloc (.cells #[.int .i64 k,.int .i64 n,.string s,.slice A li ci,.slice K lk ck] 53 (0,0)))):=Lh (za1 _ _);have HV:Hid (dflOk b (.mk k n s is ks)=if b then litOk (.mk k n s is ks) else decide (k=0)&&zb9 false (.mk k n s is ks)):=Lh rfl
 generalize dflOk b (.mk k n s is ks)=RB at *;have HC1:=Lh (zp1 (.mk k n s is ks) _ _ ((HR.out.kept HB0.out).mono HB0.out.size));have HC2:=Lh (zI0 (.mk k n s is ks) _ w.heap.size _ (HR.out.kept HB0.out) HB0.out.size);clear hk hn hs hks hli hlk hbi hbk hA hr hK HR
 cases b with
 | true =>
   go_enter Tryz.func147, Tryz.ntmps147
   go_wp2_with fail
   refine HC1.out.mono ?_
   rintro e w1 ⟨rfl,hb⟩;have HB:=Lh (HB0.out.trans (Below.mono hb HB0.out.size));clear hb;go_wp2_with fail
   go_ret
   exact ⟨by rw [HV.out]; rfl,HB.out⟩
 | false =>
   by_cases hz:k=0
   ·subst hz
    go_enter Tryz.func147, Tryz.ntmps147
    go_wp2_with fail
    refine HC2.out.mono ?_
    rintro e w1 ⟨rfl,hb⟩;have HB:=Lh (HB0.out.trans (Below.mono hb HB0.out.size));clear hb;go_wp2_with fail
    go_ret
    exact ⟨by rw [HV.out]; rfl,HB.out⟩
   ·have hz':(k==0)=false:=by rw [beq_eq_false_iff_ne]; exact hz
    have HV2:Hid (RB=false):=Lh (by rw [HV.out]; simp [hz])
    clear hz
    go_enter Tryz.func147, Tryz.ntmps147
    go_wp2_with fail
    go_ret
    exact ⟨by rw [HV2.out]; rfl,HB0.out⟩
theorem zh4 (x:InpT) (f:Nat->Value) (w:World) (h:InpR w w.heap.size f x):Calls Tryz.prog 92 #[.agg #[f 0,f 1,f 2,f 3,f 4,f 5,f 6,f 7,f 8,f 9]] w (BP (inpOk x) w):=by
 obtain ⟨k,n,s,A,li,ci,KA,lk,ck,e4,e5,e6,e7,e8⟩:=Rd.form h.val;obtain ⟨A2,c2,e2,_,_⟩:=h.type.wraps.form;obtain ⟨A9,c9,e9,_,_⟩:=h.dirs.form;have HR:=h.val;have HT:=h.type;have HD:=h.dirs;have HN:=Lh h.size;rw [e4,e5,e6,e7,e8] at HR;rw [h.type.name,e2] at HT;rw [e9] at HD;rw [h.name,h.type.name,e2,h.has,e4,e5,e6,e7,e8,e9];clear e2 e4 e5 e6 e7 e8 e9 h;replace HR:=Lh HR;replace HT:=Lh HT;replace HD:=Lh HD;have HV:Hid (inpOk x=(nmA x.name&&(K.okB x.tn x.tw&&(dflOk x.has x.dflt&&(zg7 x.dirs))))):=Lh rfl;generalize inpOk x=RB at *;have HB0:Hid (Below w.heap.size w (w.alloc (.cells #[.string x.name,.string x.tn,.slice A2 x.tw.length c2,.bool x.has,.int .i64 k,.int .i64 n,.string s,.slice A li ci,.slice KA lk ck,.slice A9 x.dirs.length c9] 55 (0,0)))):=Lh (za1 _ _);have HX0:Hid (Bk (w.alloc (.cells #[.string x.name,.string x.tn,.slice A2 x.tw.length c2,.bool x.has,.int .i64 k,.int .i64 n,.string s,.slice A li ci,.slice KA lk ck,.slice A9 x.dirs.length c9] 55 (0,0))) w.heap.size #[.string x.name,.string x.tn,.slice A2 x.tw.length c2,.bool x.has,.int .i64 k,.int .i64 n,.string s,.slice A li ci,.slice KA lk ck,.slice A9 x.dirs.length c9] 55):=Lh (Bk.new _ _ _)
 go_enter Tryz.func92, Tryz.ntmps92
 go_wp2_with fail
 refine (zk9 x.name _ HN.out).mono ?_
 rintro e w1 ⟨rfl,rfl⟩
 cases v:nmA x.name with
 | false =>
   have v0:=Lh v;clear v;go_wp2_with fail
   go_ret
   exact ⟨by rw [HV.out,v0.out,Bool.false_and]; rfl,HB0.out⟩
 | true =>
   have v0:=Lh v;clear v;have q0:=HX0.out.cell 0 _ rfl;have q1:=HX0.out.cell 1 _ rfl;have q2:=HX0.out.cell 2 _ rfl;have q3:=HX0.out.cell 3 _ rfl;have q4:=HX0.out.cell 4 _ rfl;have q5:=HX0.out.cell 5 _ rfl;have q6:=HX0.out.cell 6 _ rfl;have q7:=HX0.out.cell 7 _ rfl;have q8:=HX0.out.cell 8 _ rfl;have q9:=HX0.out.cell 9 _ rfl;go_wp2_with fail
   refine (K.zA6 x.tn x.tw _ _ (zo9 ((HT.out.kept HB0.out).mono HB0.out.size)) (by have:=HT.out.size; unfold maxLen; unfold big at this; omega)).mono ?_
   rintro e w2 ⟨rfl,hb⟩;clear q0 q1 q2 q3 q4 q5 q6 q7 q8 q9;have HB1:=Lh (HB0.out.trans (Below.mono hb HB0.out.size));have HX1:=Lh (HX0.out.stay hb);clear hb
   cases v:K.okB x.tn x.tw with
   | false =>
     have v1:=Lh v;clear v;go_wp2_with fail
     go_ret
     exact ⟨by rw [HV.out,v0.out,Bool.true_and,v1.out,Bool.false_and]; rfl,HB1.out⟩
   | true =>
     have v1:=Lh v;clear v;have q0:=HX1.out.cell 0 _ rfl;have q1:=HX1.out.cell 1 _ rfl;have q2:=HX1.out.cell 2 _ rfl;have q3:=HX1.out.cell 3 _ rfl;have q4:=HX1.out.cell 4 _ rfl;have q5:=HX1.out.cell 5 _ rfl;have q6:=HX1.out.cell 6 _ rfl;have q7:=HX1.out.cell 7 _ rfl;have q8:=HX1.out.cell 8 _ rfl;have q9:=HX1.out.cell 9 _ rfl;go_wp2_with fail
     refine (zF0 x.has x.dflt _ _ ((HR.out.kept HB1.out).mono HB1.out.size)).mono ?_
     rintro e w3 ⟨rfl,hb⟩;clear q0 q1 q2 q3 q4 q5 q6 q7 q8 q9;have HB2:=Lh (HB1.out.trans (Below.mono hb HB1.out.size));have HX2:=Lh (HX1.out.stay hb);clear hb
     cases v:dflOk x.has x.dflt with
     | false =>
       have v2:=Lh v;clear v;go_wp2_with fail
       go_ret
       exact ⟨by rw [HV.out,v0.out,Bool.true_and,v1.out,Bool.true_and,v2.out,Bool.false_and]; rfl,HB2.out⟩
     | true =>
       have v2:=Lh v;clear v;have q0:=HX2.out.cell 0 _ rfl;have q1:=HX2.out.cell 1 _ rfl;have q2:=HX2.out.cell 2 _ rfl;have q3:=HX2.out.cell 3 _ rfl;have q4:=HX2.out.cell 4 _ rfl;have q5:=HX2.out.cell 5 _ rfl;have q6:=HX2.out.cell 6 _ rfl;have q7:=HX2.out.cell 7 _ rfl;have q8:=HX2.out.cell 8 _ rfl;have q9:=HX2.out.cell 9 _ rfl;go_wp2_with fail
       refine (zf2 x.dirs _ _ ((HD.out.kept HB2.out).mono HB2.out.size)).mono ?_
       rintro e w4 ⟨rfl,hb⟩;clear q0 q1 q2 q3 q4 q5 q6 q7 q8 q9;have HB3:=Lh (HB2.out.trans (Below.mono hb HB2.out.size));have HX3:=Lh (HX2.out.stay hb);clear hb;go_wp2_with fail
       go_ret
       exact ⟨by rw [HV.out,v0.out,Bool.true_and,v1.out,Bool.true_and,v2.out,Bool.true_and]; rfl,HB3.out⟩
theorem zj7 (x:FldT) (f:Nat->Value) (w:World) (h:FldR w w.heap.size f x):Calls Tryz.prog 89 #[.agg #[f 0,f 1,f 2,f 3,f 4]] w (BP (fldOk x) w):=by
 obtain ⟨A1,c1,e1,_,_⟩:=h.args.form;obtain ⟨A3,c3,e3,_,_⟩:=h.type.wraps.form;obtain ⟨A4,c4,e4,_,_⟩:=h.dirs.form;have HR:=h.args;have HT:=h.type;have HD:=h.dirs;have HN:=Lh h.size;rw [e1] at HR;rw [h.type.name,e3] at HT;rw [e4] at HD;rw [h.name,e1,h.type.name,e3,e4];clear e1 e3 e4 h;replace HR:=Lh HR;replace HT:=Lh HT;replace HD:=Lh HD;have HV:Hid (fldOk x=(nmA x.name&&(zB9 x.args&&(K.okB x.tn x.tw&&(zg7 x.dirs))))):=Lh rfl;generalize fldOk x=RB at *;have HB0:Hid (Below w.heap.size w (w.alloc (.cells #[.string x.name,.slice A1 x.args.length c1,.string x.tn,.slice A3 x.tw.length c3,.slice A4 x.dirs.length c4] 46 (0,0)))):=Lh (za1 _ _);have HX0:Hid (Bk (w.alloc (.cells #[.string x.name,.slice A1 x.args.length c1,.string x.tn,.slice A3 x.tw.length c3,.slice A4 x.dirs.length c4] 46 (0,0))) w.heap.size #[.string x.name,.slice A1 x.args.length c1,.string x.tn,.slice A3 x.tw.length c3,.slice A4 x.dirs.length c4] 46):=Lh (Bk.new _ _ _)
 go_enter Tryz.func89, Tryz.ntmps89
 go_wp2_with fail
 refine (zk9 x.name _ HN.out).mono ?_
 rintro e w1 ⟨rfl,rfl⟩
 cases v:nmA x.name with
 | false =>
   have v0:=Lh v;clear v;go_wp2_with fail
   go_ret
   exact ⟨by rw [HV.out,v0.out,Bool.false_and]; rfl,HB0.out⟩
 | true =>
   have v0:=Lh v;clear v;have q0:=HX0.out.cell 0 _ rfl;have q1:=HX0.out.cell 1 _ rfl;have q2:=HX0.out.cell 2 _ rfl;have q3:=HX0.out.cell 3 _ rfl;have q4:=HX0.out.cell 4 _ rfl;go_wp2_with fail
   refine (zg9 x.args _ _ 0 16 ((HR.out.kept HB0.out).mono HB0.out.size) inpOk (fun W f y hy=>zh4 y f W hy)).mono ?_
   rintro e w2 ⟨rfl,hb⟩;clear q0 q1 q2 q3 q4;have HB1:=Lh (HB0.out.trans (Below.mono hb HB0.out.size));have HX1:=Lh (HX0.out.stay hb);clear hb;rw [show inB 0 16 x.args inpOk=zB9 x.args from rfl]
   cases v:zB9 x.args with
   | false =>
     have v1:=Lh v;clear v;go_wp2_with fail
     go_ret
     exact ⟨by rw [HV.out,v0.out,Bool.true_and,v1.out,Bool.false_and]; rfl,HB1.out⟩
   | true =>
     have v1:=Lh v;clear v;have q0:=HX1.out.cell 0 _ rfl;have q1:=HX1.out.cell 1 _ rfl;have q2:=HX1.out.cell 2 _ rfl;have q3:=HX1.out.cell 3 _ rfl;have q4:=HX1.out.cell 4 _ rfl;go_wp2_with fail
     refine (K.zA6 x.tn x.tw _ _ (zo9 ((HT.out.kept HB1.out).mono HB1.out.size)) (by have:=HT.out.size; unfold maxLen; unfold big at this; omega)).mono ?_
     rintro e w3 ⟨rfl,hb⟩;clear q0 q1 q2 q3 q4;have HB2:=Lh (HB1.out.trans (Below.mono hb HB1.out.size));have HX2:=Lh (HX1.out.stay hb);clear hb
     cases v:K.okB x.tn x.tw with
     | false =>
       have v2:=Lh v;clear v;go_wp2_with fail
       go_ret
       exact ⟨by rw [HV.out,v0.out,Bool.true_and,v1.out,Bool.true_and,v2.out,Bool.false_and]; rfl,HB2.out⟩
     | true =>
       have v2:=Lh v;clear v;have q0:=HX2.out.cell 0 _ rfl;have q1:=HX2.out.cell 1 _ rfl;have q2:=HX2.out.cell 2 _ rfl;have q3:=HX2.out.cell 3 _ rfl;have q4:=HX2.out.cell 4 _ rfl;go_wp2_with fail
       refine (zf2 x.dirs _ _ ((HD.out.kept HB2.out).mono HB2.out.size)).mono ?_
       rintro e w4 ⟨rfl,hb⟩;clear q0 q1 q2 q3 q4;have HB3:=Lh (HB2.out.trans (Below.mono hb HB2.out.size));have HX3:=Lh (HX2.out.stay hb);clear hb;go_wp2_with fail
       go_ret
       exact ⟨by rw [HV.out,v0.out,Bool.true_and,v1.out,Bool.true_and,v2.out,Bool.true_and]; rfl,HB3.out⟩
def zh9 (im f m i:Int) (mf mm mi:Int) (pm:MemT->Bool) (d:DefT):Bool:=inB 0 im d.impl nmA&&(inB mf f d.fields fldOk&&(inB mm m d.members pm&&inB mi i d.inputs inpOk))
def zb4 (d:DefT):Bool :=
 if d.kind=1 then zh9 64 64 0 0 1 0 0 zd6 d
 else if d.kind=2 then zh9 0 64 0 0 1 0 0 zd6 d
 else if d.kind=3 then zh9 0 0 64 0 0 1 0 zd6 d
 else if d.kind=4 then zh9 0 0 64 0 0 1 0 ze7 d
 else if d.kind=5 then zh9 0 0 0 16 0 0 1 zd6 d
 else false
theorem zF5 (x:DefT) (f:Nat->Value) (w:World) (h:DefR w w.heap.size f x) (hkd:x.kind=1):Calls Tryz.prog 41 #[.agg #[f 0,f 1,f 2,f 3,f 4,f 5,f 6]] w (BP (zb4 x) w):=by
 obtain ⟨A2,c2,e2,_,_⟩:=h.impl.form;obtain ⟨A3,c3,e3,_,_⟩:=h.dirs.form;obtain ⟨A4,c4,e4,_,_⟩:=h.fields.form;obtain ⟨A5,c5,e5,_,_⟩:=h.members.form;obtain ⟨A6,c6,e6,_,_⟩:=h.inputs.form;have H2:=h.impl;have H3:=h.dirs;have H4:=h.fields;have H5:=h.members;have H6:=h.inputs;rw [e2] at H2;rw [e3] at H3;rw [e4] at H4;rw [e5] at H5;rw [e6] at H6;rw [h.kind,h.name,e2,e3,e4,e5,e6];replace H2:=Lh H2;replace H3:=Lh H3;replace H4:=Lh H4;replace H5:=Lh H5;replace H6:=Lh H6;clear e2 e3 e4 e5 e6 h H3;rw [hkd];have HV:Hid (zb4 x=(inB 0 64 x.impl nmA&&(inB 1 64 x.fields fldOk&&(inB 0 0 x.members zd6&&(inB 0 0 x.inputs inpOk))))):=Lh (by unfold zb4; rw [hkd]; rfl)
 generalize zb4 x=RB at *;have HB0:Hid (Below w.heap.size w (w.alloc (.cells #[.int .i64 1,.string x.name,.slice A2 x.impl.length c2,.slice A3 x.dirs.length c3,.slice A4 x.fields.length c4,.slice A5 x.members.length c5,.slice A6 x.inputs.length c6] 39 (0,0)))):=Lh (za1 _ _);have HX0:Hid (Bk (w.alloc (.cells #[.int .i64 1,.string x.name,.slice A2 x.impl.length c2,.slice A3 x.dirs.length c3,.slice A4 x.fields.length c4,.slice A5 x.members.length c5,.slice A6 x.inputs.length c6] 39 (0,0))) w.heap.size #[.int .i64 1,.string x.name,.slice A2 x.impl.length c2,.slice A3 x.dirs.length c3,.slice A4 x.fields.length c4,.slice A5 x.members.length c5,.slice A6 x.inputs.length c6] 39):=Lh (Bk.new _ _ _)
 go_enter Tryz.func41, Tryz.ntmps41
 go_wp2_with fail
 refine (zj2 x.impl _ _ 0 64 ((H2.out.kept HB0.out).mono HB0.out.size) nmA (fun W f y hy=>by rw [hy.1]; exact (zk9 y W hy.2).mono fun e w1 he=>⟨he.1,by rw [<- he.2]; exact Below.refl _ _⟩)).mono ?_
 rintro e w2 ⟨rfl,hb⟩;have HB1:=Lh (HB0.out.trans (Below.mono hb HB0.out.size));have HX1:=Lh (HX0.out.stay hb);clear hb
 cases v:inB 0 64 x.impl nmA with
 | false =>
   have v0:=Lh v;clear v;go_wp2_with fail
   go_ret
   exact ⟨by rw [HV.out,v0.out,Bool.false_and]; rfl,HB1.out⟩
 | true =>
   have v0:=Lh v;clear v;have q0:=HX1.out.cell 0 _ rfl;have q1:=HX1.out.cell 1 _ rfl;have q2:=HX1.out.cell 2 _ rfl;have q3:=HX1.out.cell 3 _ rfl;have q4:=HX1.out.cell 4 _ rfl;have q5:=HX1.out.cell 5 _ rfl;have q6:=HX1.out.cell 6 _ rfl;go_wp2_with fail
   refine (zj3 x.fields _ _ 1 64 ((H4.out.kept HB1.out).mono HB1.out.size) fldOk (fun W f y hy=>zj7 y f W hy)).mono ?_
   rintro e w3 ⟨rfl,hb⟩;clear q0 q1 q2 q3 q4 q5 q6;have HB2:=Lh (HB1.out.trans (Below.mono hb HB1.out.size));have HX2:=Lh (HX1.out.stay hb);clear hb
   cases v:inB 1 64 x.fields fldOk with
   | false =>
     have v1:=Lh v;clear v;go_wp2_with fail
     go_ret
     exact ⟨by rw [HV.out,v0.out,Bool.true_and,v1.out,Bool.false_and]; rfl,HB2.out⟩
   | true =>
     have v1:=Lh v;clear v;have q0:=HX2.out.cell 0 _ rfl;have q1:=HX2.out.cell 1 _ rfl;have q2:=HX2.out.cell 2 _ rfl;have q3:=HX2.out.cell 3 _ rfl;have q4:=HX2.out.cell 4 _ rfl;have q5:=HX2.out.cell 5 _ rfl;have q6:=HX2.out.cell 6 _ rfl;go_wp2_with fail
     refine (zj9 x.members _ _ 0 0 ((H5.out.kept HB2.out).mono HB2.out.size) zd6 (fun W f y hy=>zf1 y f W hy)).mono ?_
     rintro e w4 ⟨rfl,hb⟩;clear q0 q1 q2 q3 q4 q5 q6;have HB3:=Lh (HB2.out.trans (Below.mono hb HB2.out.size));have HX3:=Lh (HX2.out.stay hb);clear hb
     cases v:inB 0 0 x.members zd6 with
     | false =>
       have v2:=Lh v;clear v;go_wp2_with fail
       go_ret
       exact ⟨by rw [HV.out,v0.out,Bool.true_and,v1.out,Bool.true_and,v2.out,Bool.false_and]; rfl,HB3.out⟩
     | true =>
       have v2:=Lh v;clear v;have q0:=HX3.out.cell 0 _ rfl;have q1:=HX3.out.cell 1 _ rfl;have q2:=HX3.out.cell 2 _ rfl;have q3:=HX3.out.cell 3 _ rfl;have q4:=HX3.out.cell 4 _ rfl;have q5:=HX3.out.cell 5 _ rfl;have q6:=HX3.out.cell 6 _ rfl;go_wp2_with fail
       refine (zg9 x.inputs _ _ 0 0 ((H6.out.kept HB3.out).mono HB3.out.size) inpOk (fun W f y hy=>zh4 y f W hy)).mono ?_
       rintro e w5 ⟨rfl,hb⟩;clear q0 q1 q2 q3 q4 q5 q6;have HB4:=Lh (HB3.out.trans (Below.mono hb HB3.out.size));have HX4:=Lh (HX3.out.stay hb);clear hb;go_wp2_with fail
       go_ret
       exact ⟨by rw [HV.out,v0.out,Bool.true_and,v1.out,Bool.true_and,v2.out,Bool.true_and]; rfl,HB4.out⟩
theorem zF4 (x:DefT) (f:Nat->Value) (w:World) (h:DefR w w.heap.size f x) (hkd:x.kind=2):Calls Tryz.prog 41 #[.agg #[f 0,f 1,f 2,f 3,f 4,f 5,f 6]] w (BP (zb4 x) w):=by
 obtain ⟨A2,c2,e2,_,_⟩:=h.impl.form;obtain ⟨A3,c3,e3,_,_⟩:=h.dirs.form;obtain ⟨A4,c4,e4,_,_⟩:=h.fields.form;obtain ⟨A5,c5,e5,_,_⟩:=h.members.form;obtain ⟨A6,c6,e6,_,_⟩:=h.inputs.form;have H2:=h.impl;have H3:=h.dirs;have H4:=h.fields;have H5:=h.members;have H6:=h.inputs;rw [e2] at H2;rw [e3] at H3;rw [e4] at H4;rw [e5] at H5;rw [e6] at H6;rw [h.kind,h.name,e2,e3,e4,e5,e6];replace H2:=Lh H2;replace H3:=Lh H3;replace H4:=Lh H4;replace H5:=Lh H5;replace H6:=Lh H6;clear e2 e3 e4 e5 e6 h H3;rw [hkd];have HV:Hid (zb4 x=(inB 0 0 x.impl nmA&&(inB 1 64 x.fields fldOk&&(inB 0 0 x.members zd6&&(inB 0 0 x.inputs inpOk))))):=Lh (by unfold zb4; rw [hkd]; rfl)
 generalize zb4 x=RB at *;have HB0:Hid (Below w.heap.size w (w.alloc (.cells #[.int .i64 2,.string x.name,.slice A2 x.impl.length c2,.slice A3 x.dirs.length c3,.slice A4 x.fields.length c4,.slice A5 x.members.length c5,.slice A6 x.inputs.length c6] 39 (0,0)))):=Lh (za1 _ _);have HX0:Hid (Bk (w.alloc (.cells #[.int .i64 2,.string x.name,.slice A2 x.impl.length c2,.slice A3 x.dirs.length c3,.slice A4 x.fields.length c4,.slice A5 x.members.length c5,.slice A6 x.inputs.length c6] 39 (0,0))) w.heap.size #[.int .i64 2,.string x.name,.slice A2 x.impl.length c2,.slice A3 x.dirs.length c3,.slice A4 x.fields.length c4,.slice A5 x.members.length c5,.slice A6 x.inputs.length c6] 39):=Lh (Bk.new _ _ _)
 go_enter Tryz.func41, Tryz.ntmps41
 go_wp2_with fail
 refine (zj2 x.impl _ _ 0 0 ((H2.out.kept HB0.out).mono HB0.out.size) nmA (fun W f y hy=>by rw [hy.1]; exact (zk9 y W hy.2).mono fun e w1 he=>⟨he.1,by rw [<- he.2]; exact Below.refl _ _⟩)).mono ?_
 rintro e w2 ⟨rfl,hb⟩;have HB1:=Lh (HB0.out.trans (Below.mono hb HB0.out.size));have HX1:=Lh (HX0.out.stay hb);clear hb
 cases v:inB 0 0 x.impl nmA with
 | false =>
   have v0:=Lh v;clear v;go_wp2_with fail
   go_ret
   exact ⟨by rw [HV.out,v0.out,Bool.false_and]; rfl,HB1.out⟩
 | true =>
   have v0:=Lh v;clear v;have q0:=HX1.out.cell 0 _ rfl;have q1:=HX1.out.cell 1 _ rfl;have q2:=HX1.out.cell 2 _ rfl;have q3:=HX1.out.cell 3 _ rfl;have q4:=HX1.out.cell 4 _ rfl;have q5:=HX1.out.cell 5 _ rfl;have q6:=HX1.out.cell 6 _ rfl;go_wp2_with fail
   refine (zj3 x.fields _ _ 1 64 ((H4.out.kept HB1.out).mono HB1.out.size) fldOk (fun W f y hy=>zj7 y f W hy)).mono ?_
   rintro e w3 ⟨rfl,hb⟩;clear q0 q1 q2 q3 q4 q5 q6;have HB2:=Lh (HB1.out.trans (Below.mono hb HB1.out.size));have HX2:=Lh (HX1.out.stay hb);clear hb
   cases v:inB 1 64 x.fields fldOk with
   | false =>
     have v1:=Lh v;clear v;go_wp2_with fail
     go_ret
     exact ⟨by rw [HV.out,v0.out,Bool.true_and,v1.out,Bool.false_and]; rfl,HB2.out⟩
   | true =>
     have v1:=Lh v;clear v;have q0:=HX2.out.cell 0 _ rfl;have q1:=HX2.out.cell 1 _ rfl;have q2:=HX2.out.cell 2 _ rfl;have q3:=HX2.out.cell 3 _ rfl;have q4:=HX2.out.cell 4 _ rfl;have q5:=HX2.out.cell 5 _ rfl;have q6:=HX2.out.cell 6 _ rfl;go_wp2_with fail
     refine (zj9 x.members _ _ 0 0 ((H5.out.kept HB2.out).mono HB2.out.size) zd6 (fun W f y hy=>zf1 y f W hy)).mono ?_
     rintro e w4 ⟨rfl,hb⟩;clear q0 q1 q2 q3 q4 q5 q6;have HB3:=Lh (HB2.out.trans (Below.mono hb HB2.out.size));have HX3:=Lh (HX2.out.stay hb);clear hb
     cases v:inB 0 0 x.members zd6 with
     | false =>
       have v2:=Lh v;clear v;go_wp2_with fail
       go_ret
       exact ⟨by rw [HV.out,v0.out,Bool.true_and,v1.out,Bool.true_and,v2.out,Bool.false_and]; rfl,HB3.out⟩
     | true =>
       have v2:=Lh v;clear v;have q0:=HX3.out.cell 0 _ rfl;have q1:=HX3.out.cell 1 _ rfl;have q2:=HX3.out.cell 2 _ rfl;have q3:=HX3.out.cell 3 _ rfl;have q4:=HX3.out.cell 4 _ rfl;have q5:=HX3.out.cell 5 _ rfl;have q6:=HX3.out.cell 6 _ rfl;go_wp2_with fail
       refine (zg9 x.inputs _ _ 0 0 ((H6.out.kept HB3.out).mono HB3.out.size) inpOk (fun W f y hy=>zh4 y f W hy)).mono ?_
       rintro e w5 ⟨rfl,hb⟩;clear q0 q1 q2 q3 q4 q5 q6;have HB4:=Lh (HB3.out.trans (Below.mono hb HB3.out.size));have HX4:=Lh (HX3.out.stay hb);clear hb;go_wp2_with fail
       go_ret
       exact ⟨by rw [HV.out,v0.out,Bool.true_and,v1.out,Bool.true_and,v2.out,Bool.true_and]; rfl,HB4.out⟩
theorem zF3 (x:DefT) (f:Nat->Value) (w:World) (h:DefR w w.heap.size f x) (hkd:x.kind=3):Calls Tryz.prog 41 #[.agg #[f 0,f 1,f 2,f 3,f 4,f 5,f 6]] w (BP (zb4 x) w):=by
 obtain ⟨A2,c2,e2,_,_⟩:=h.impl.form;obtain ⟨A3,c3,e3,_,_⟩:=h.dirs.form;obtain ⟨A4,c4,e4,_,_⟩:=h.fields.form;obtain ⟨A5,c5,e5,_,_⟩:=h.members.form;obtain ⟨A6,c6,e6,_,_⟩:=h.inputs.form;have H2:=h.impl;have H3:=h.dirs;have H4:=h.fields;have H5:=h.members;have H6:=h.inputs;rw [e2] at H2;rw [e3] at H3;rw [e4] at H4;rw [e5] at H5;rw [e6] at H6;rw [h.kind,h.name,e2,e3,e4,e5,e6];replace H2:=Lh H2;replace H3:=Lh H3;replace H4:=Lh H4;replace H5:=Lh H5;replace H6:=Lh H6;clear e2 e3 e4 e5 e6 h H3;rw [hkd];have HV:Hid (zb4 x=(inB 0 0 x.impl nmA&&(inB 0 0 x.fields fldOk&&(inB 1 64 x.members zd6&&(inB 0 0 x.inputs inpOk))))):=Lh (by unfold zb4; rw [hkd]; rfl)
 generalize zb4 x=RB at *;have HB0:Hid (Below w.heap.size w (w.alloc (.cells #[.int .i64 3,.string x.name,.slice A2 x.impl.length c2,.slice A3 x.dirs.length c3,.slice A4 x.fields.length c4,.slice A5 x.members.length c5,.slice A6 x.inputs.length c6] 39 (0,0)))):=Lh (za1 _ _);have HX0:Hid (Bk (w.alloc (.cells #[.int .i64 3,.string x.name,.slice A2 x.impl.length c2,.slice A3 x.dirs.length c3,.slice A4 x.fields.length c4,.slice A5 x.members.length c5,.slice A6 x.inputs.length c6] 39 (0,0))) w.heap.size #[.int .i64 3,.string x.name,.slice A2 x.impl.length c2,.slice A3 x.dirs.length c3,.slice A4 x.fields.length c4,.slice A5 x.members.length c5,.slice A6 x.inputs.length c6] 39):=Lh (Bk.new _ _ _)
 go_enter Tryz.func41, Tryz.ntmps41
 go_wp2_with fail
 refine (zj2 x.impl _ _ 0 0 ((H2.out.kept HB0.out).mono HB0.out.size) nmA (fun W f y hy=>by rw [hy.1]; exact (zk9 y W hy.2).mono fun e w1 he=>⟨he.1,by rw [<- he.2]; exact Below.refl _ _⟩)).mono ?_
 rintro e w2 ⟨rfl,hb⟩;have HB1:=Lh (HB0.out.trans (Below.mono hb HB0.out.size));have HX1:=Lh (HX0.out.stay hb);clear hb
 cases v:inB 0 0 x.impl nmA with
 | false =>
   have v0:=Lh v;clear v;go_wp2_with fail
   go_ret
   exact ⟨by rw [HV.out,v0.out,Bool.false_and]; rfl,HB1.out⟩
 | true =>
   have v0:=Lh v;clear v;have q0:=HX1.out.cell 0 _ rfl;have q1:=HX1.out.cell 1 _ rfl;have q2:=HX1.out.cell 2 _ rfl;have q3:=HX1.out.cell 3 _ rfl;have q4:=HX1.out.cell 4 _ rfl;have q5:=HX1.out.cell 5 _ rfl;have q6:=HX1.out.cell 6 _ rfl;go_wp2_with fail
   refine (zj3 x.fields _ _ 0 0 ((H4.out.kept HB1.out).mono HB1.out.size) fldOk (fun W f y hy=>zj7 y f W hy)).mono ?_
   rintro e w3 ⟨rfl,hb⟩;clear q0 q1 q2 q3 q4 q5 q6;have HB2:=Lh (HB1.out.trans (Below.mono hb HB1.out.size));have HX2:=Lh (HX1.out.stay hb);clear hb
   cases v:inB 0 0 x.fields fldOk with
   | false =>
     have v1:=Lh v;clear v;go_wp2_with fail
     go_ret
     exact ⟨by rw [HV.out,v0.out,Bool.true_and,v1.out,Bool.false_and]; rfl,HB2.out⟩
   | true =>
     have v1:=Lh v;clear v;have q0:=HX2.out.cell 0 _ rfl;have q1:=HX2.out.cell 1 _ rfl;have q2:=HX2.out.cell 2 _ rfl;have q3:=HX2.out.cell 3 _ rfl;have q4:=HX2.out.cell 4 _ rfl;have q5:=HX2.out.cell 5 _ rfl;have q6:=HX2.out.cell 6 _ rfl;go_wp2_with fail
     refine (zj9 x.members _ _ 1 64 ((H5.out.kept HB2.out).mono HB2.out.size) zd6 (fun W f y hy=>zf1 y f W hy)).mono ?_
     rintro e w4 ⟨rfl,hb⟩;clear q0 q1 q2 q3 q4 q5 q6;have HB3:=Lh (HB2.out.trans (Below.mono hb HB2.out.size));have HX3:=Lh (HX2.out.stay hb);clear hb
     cases v:inB 1 64 x.members zd6 with
     | false =>
       have v2:=Lh v;clear v;go_wp2_with fail
       go_ret
       exact ⟨by rw [HV.out,v0.out,Bool.true_and,v1.out,Bool.true_and,v2.out,Bool.false_and]; rfl,HB3.out⟩
     | true =>
       have v2:=Lh v;clear v;have q0:=HX3.out.cell 0 _ rfl;have q1:=HX3.out.cell 1 _ rfl;have q2:=HX3.out.cell 2 _ rfl;have q3:=HX3.out.cell 3 _ rfl;have q4:=HX3.out.cell 4 _ rfl;have q5:=HX3.out.cell 5 _ rfl;have q6:=HX3.out.cell 6 _ rfl;go_wp2_with fail
       refine (zg9 x.inputs _ _ 0 0 ((H6.out.kept HB3.out).mono HB3.out.size) inpOk (fun W f y hy=>zh4 y f W hy)).mono ?_
       rintro e w5 ⟨rfl,hb⟩;clear q0 q1 q2 q3 q4 q5 q6;have HB4:=Lh (HB3.out.trans (Below.mono hb HB3.out.size));have HX4:=Lh (HX3.out.stay hb);clear hb;go_wp2_with fail
       go_ret
       exact ⟨by rw [HV.out,v0.out,Bool.true_and,v1.out,Bool.true_and,v2.out,Bool.true_and]; rfl,HB4.out⟩
theorem zF2 (x:DefT) (f:Nat->Value) (w:World) (h:DefR w w.heap.size f x) (hkd:x.kind=4):Calls Tryz.prog 41 #[.agg #[f 0,f 1,f 2,f 3,f 4,f 5,f 6]] w (BP (zb4 x) w):=by
 obtain ⟨A2,c2,e2,_,_⟩:=h.impl.form;obtain ⟨A3,c3,e3,_,_⟩:=h.dirs.form;obtain ⟨A4,c4,e4,_,_⟩:=h.fields.form;obtain ⟨A5,c5,e5,_,_⟩:=h.members.form;obtain ⟨A6,c6,e6,_,_⟩:=h.inputs.form;have H2:=h.impl;have H3:=h.dirs;have H4:=h.fields;have H5:=h.members;have H6:=h.inputs;rw [e2] at H2;rw [e3] at H3;rw [e4] at H4;rw [e5] at H5;rw [e6] at H6;rw [h.kind,h.name,e2,e3,e4,e5,e6];replace H2:=Lh H2;replace H3:=Lh H3;replace H4:=Lh H4;replace H5:=Lh H5;replace H6:=Lh H6;clear e2 e3 e4 e5 e6 h H3;rw [hkd];have HV:Hid (zb4 x=(inB 0 0 x.impl nmA&&(inB 0 0 x.fields fldOk&&(inB 1 64 x.members ze7&&(inB 0 0 x.inputs inpOk))))):=Lh (by unfold zb4; rw [hkd]; rfl)
 generalize zb4 x=RB at *;have HB0:Hid (Below w.heap.size w (w.alloc (.cells #[.int .i64 4,.string x.name,.slice A2 x.impl.length c2,.slice A3 x.dirs.length c3,.slice A4 x.fields.length c4,.slice A5 x.members.length c5,.slice A6 x.inputs.length c6] 39 (0,0)))):=Lh (za1 _ _);have HX0:Hid (Bk (w.alloc (.cells #[.int .i64 4,.string x.name,.slice A2 x.impl.length c2,.slice A3 x.dirs.length c3,.slice A4 x.fields.length c4,.slice A5 x.members.length c5,.slice A6 x.inputs.length c6] 39 (0,0))) w.heap.size #[.int .i64 4,.string x.name,.slice A2 x.impl.length c2,.slice A3 x.dirs.length c3,.slice A4 x.fields.length c4,.slice A5 x.members.length c5,.slice A6 x.inputs.length c6] 39):=Lh (Bk.new _ _ _)
 go_enter Tryz.func41, Tryz.ntmps41
 go_wp2_with fail
 refine (zj2 x.impl _ _ 0 0 ((H2.out.kept HB0.out).mono HB0.out.size) nmA (fun W f y hy=>by rw [hy.1]; exact (zk9 y W hy.2).mono fun e w1 he=>⟨he.1,by rw [<- he.2]; exact Below.refl _ _⟩)).mono ?_
 rintro e w2 ⟨rfl,hb⟩;have HB1:=Lh (HB0.out.trans (Below.mono hb HB0.out.size));have HX1:=Lh (HX0.out.stay hb);clear hb
 cases v:inB 0 0 x.impl nmA with
 | false =>
   have v0:=Lh v;clear v;go_wp2_with fail
   go_ret
   exact ⟨by rw [HV.out,v0.out,Bool.false_and]; rfl,HB1.out⟩
 | true =>
   have v0:=Lh v;clear v;have q0:=HX1.out.cell 0 _ rfl;have q1:=HX1.out.cell 1 _ rfl;have q2:=HX1.out.cell 2 _ rfl;have q3:=HX1.out.cell 3 _ rfl;have q4:=HX1.out.cell 4 _ rfl;have q5:=HX1.out.cell 5 _ rfl;have q6:=HX1.out.cell 6 _ rfl;go_wp2_with fail
   refine (zj3 x.fields _ _ 0 0 ((H4.out.kept HB1.out).mono HB1.out.size) fldOk (fun W f y hy=>zj7 y f W hy)).mono ?_
   rintro e w3 ⟨rfl,hb⟩;clear q0 q1 q2 q3 q4 q5 q6;have HB2:=Lh (HB1.out.trans (Below.mono hb HB1.out.size));have HX2:=Lh (HX1.out.stay hb);clear hb
   cases v:inB 0 0 x.fields fldOk with
   | false =>
     have v1:=Lh v;clear v;go_wp2_with fail
     go_ret
     exact ⟨by rw [HV.out,v0.out,Bool.true_and,v1.out,Bool.false_and]; rfl,HB2.out⟩
   | true =>
     have v1:=Lh v;clear v;have q0:=HX2.out.cell 0 _ rfl;have q1:=HX2.out.cell 1 _ rfl;have q2:=HX2.out.cell 2 _ rfl;have q3:=HX2.out.cell 3 _ rfl;have q4:=HX2.out.cell 4 _ rfl;have q5:=HX2.out.cell 5 _ rfl;have q6:=HX2.out.cell 6 _ rfl;go_wp2_with fail
     refine (zG7 x.members _ _ 1 64 ((H5.out.kept HB2.out).mono HB2.out.size) ze7 (fun W f y hy=>zv0 y f W hy)).mono ?_
     rintro e w4 ⟨rfl,hb⟩;clear q0 q1 q2 q3 q4 q5 q6;have HB3:=Lh (HB2.out.trans (Below.mono hb HB2.out.size));have HX3:=Lh (HX2.out.stay hb);clear hb
     cases v:inB 1 64 x.members ze7 with
     | false =>
       have v2:=Lh v;clear v;go_wp2_with fail
       go_ret
       exact ⟨by rw [HV.out,v0.out,Bool.true_and,v1.out,Bool.true_and,v2.out,Bool.false_and]; rfl,HB3.out⟩
     | true =>
       have v2:=Lh v;clear v;have q0:=HX3.out.cell 0 _ rfl;have q1:=HX3.out.cell 1 _ rfl;have q2:=HX3.out.cell 2 _ rfl;have q3:=HX3.out.cell 3 _ rfl;have q4:=HX3.out.cell 4 _ rfl;have q5:=HX3.out.cell 5 _ rfl;have q6:=HX3.out.cell 6 _ rfl;go_wp2_with fail
       refine (zg9 x.inputs _ _ 0 0 ((H6.out.kept HB3.out).mono HB3.out.size) inpOk (fun W f y hy=>zh4 y f W hy)).mono ?_
       rintro e w5 ⟨rfl,hb⟩;clear q0 q1 q2 q3 q4 q5 q6;have HB4:=Lh (HB3.out.trans (Below.mono hb HB3.out.size));have HX4:=Lh (HX3.out.stay hb);clear hb;go_wp2_with fail
       go_ret
       exact ⟨by rw [HV.out,v0.out,Bool.true_and,v1.out,Bool.true_and,v2.out,Bool.true_and]; rfl,HB4.out⟩
theorem zF1 (x:DefT) (f:Nat->Value) (w:World) (h:DefR w w.heap.size f x) (hkd:x.kind=5):Calls Tryz.prog 41 #[.agg #[f 0,f 1,f 2,f 3,f 4,f 5,f 6]] w (BP (zb4 x) w):=by
 obtain ⟨A2,c2,e2,_,_⟩:=h.impl.form;obtain ⟨A3,c3,e3,_,_⟩:=h.dirs.form;obtain ⟨A4,c4,e4,_,_⟩:=h.fields.form;obtain ⟨A5,c5,e5,_,_⟩:=h.members.form;obtain ⟨A6,c6,e6,_,_⟩:=h.inputs.form;have H2:=h.impl;have H3:=h.dirs;have H4:=h.fields;have H5:=h.members;have H6:=h.inputs;rw [e2] at H2;rw [e3] at H3;rw [e4] at H4;rw [e5] at H5;rw [e6] at H6;rw [h.kind,h.name,e2,e3,e4,e5,e6];replace H2:=Lh H2;replace H3:=Lh H3;replace H4:=Lh H4;replace H5:=Lh H5;replace H6:=Lh H6;clear e2 e3 e4 e5 e6 h H3;rw [hkd];have HV:Hid (zb4 x=(inB 0 0 x.impl nmA&&(inB 0 0 x.fields fldOk&&(inB 0 0 x.members zd6&&(inB 1 16 x.inputs inpOk))))):=Lh (by unfold zb4; rw [hkd]; rfl)
 generalize zb4 x=RB at *;have HB0:Hid (Below w.heap.size w (w.alloc (.cells #[.int .i64 5,.string x.name,.slice A2 x.impl.length c2,.slice A3 x.dirs.length c3,.slice A4 x.fields.length c4,.slice A5 x.members.length c5,.slice A6 x.inputs.length c6] 39 (0,0)))):=Lh (za1 _ _);have HX0:Hid (Bk (w.alloc (.cells #[.int .i64 5,.string x.name,.slice A2 x.impl.length c2,.slice A3 x.dirs.length c3,.slice A4 x.fields.length c4,.slice A5 x.members.length c5,.slice A6 x.inputs.length c6] 39 (0,0))) w.heap.size #[.int .i64 5,.string x.name,.slice A2 x.impl.length c2,.slice A3 x.dirs.length c3,.slice A4 x.fields.length c4,.slice A5 x.members.length c5,.slice A6 x.inputs.length c6] 39):=Lh (Bk.new _ _ _)
 go_enter Tryz.func41, Tryz.ntmps41
 go_wp2_with fail
 refine (zj2 x.impl _ _ 0 0 ((H2.out.kept HB0.out).mono HB0.out.size) nmA (fun W f y hy=>by rw [hy.1]; exact (zk9 y W hy.2).mono fun e w1 he=>⟨he.1,by rw [<- he.2]; exact Below.refl _ _⟩)).mono ?_
 rintro e w2 ⟨rfl,hb⟩;have HB1:=Lh (HB0.out.trans (Below.mono hb HB0.out.size));have HX1:=Lh (HX0.out.stay hb);clear hb
 cases v:inB 0 0 x.impl nmA with
 | false =>
   have v0:=Lh v;clear v;go_wp2_with fail
   go_ret
   exact ⟨by rw [HV.out,v0.out,Bool.false_and]; rfl,HB1.out⟩
 | true =>
   have v0:=Lh v;clear v;have q0:=HX1.out.cell 0 _ rfl;have q1:=HX1.out.cell 1 _ rfl;have q2:=HX1.out.cell 2 _ rfl;have q3:=HX1.out.cell 3 _ rfl;have q4:=HX1.out.cell 4 _ rfl;have q5:=HX1.out.cell 5 _ rfl;have q6:=HX1.out.cell 6 _ rfl;go_wp2_with fail
   refine (zj3 x.fields _ _ 0 0 ((H4.out.kept HB1.out).mono HB1.out.size) fldOk (fun W f y hy=>zj7 y f W hy)).mono ?_
   rintro e w3 ⟨rfl,hb⟩;clear q0 q1 q2 q3 q4 q5 q6;have HB2:=Lh (HB1.out.trans (Below.mono hb HB1.out.size));have HX2:=Lh (HX1.out.stay hb);clear hb
   cases v:inB 0 0 x.fields fldOk with
   | false =>
     have v1:=Lh v;clear v;go_wp2_with fail
     go_ret
     exact ⟨by rw [HV.out,v0.out,Bool.true_and,v1.out,Bool.false_and]; rfl,HB2.out⟩
   | true =>
     have v1:=Lh v;clear v;have q0:=HX2.out.cell 0 _ rfl;have q1:=HX2.out.cell 1 _ rfl;have q2:=HX2.out.cell 2 _ rfl;have q3:=HX2.out.cell 3 _ rfl;have q4:=HX2.out.cell 4 _ rfl;have q5:=HX2.out.cell 5 _ rfl;have q6:=HX2.out.cell 6 _ rfl;go_wp2_with fail
     refine (zj9 x.members _ _ 0 0 ((H5.out.kept HB2.out).mono HB2.out.size) zd6 (fun W f y hy=>zf1 y f W hy)).mono ?_
     rintro e w4 ⟨rfl,hb⟩;clear q0 q1 q2 q3 q4 q5 q6;have HB3:=Lh (HB2.out.trans (Below.mono hb HB2.out.size));have HX3:=Lh (HX2.out.stay hb);clear hb
     cases v:inB 0 0 x.members zd6 with
     | false =>
       have v2:=Lh v;clear v;go_wp2_with fail
       go_ret
       exact ⟨by rw [HV.out,v0.out,Bool.true_and,v1.out,Bool.true_and,v2.out,Bool.false_and]; rfl,HB3.out⟩
     | true =>
       have v2:=Lh v;clear v;have q0:=HX3.out.cell 0 _ rfl;have q1:=HX3.out.cell 1 _ rfl;have q2:=HX3.out.cell 2 _ rfl;have q3:=HX3.out.cell 3 _ rfl;have q4:=HX3.out.cell 4 _ rfl;have q5:=HX3.out.cell 5 _ rfl;have q6:=HX3.out.cell 6 _ rfl;go_wp2_with fail
       refine (zg9 x.inputs _ _ 1 16 ((H6.out.kept HB3.out).mono HB3.out.size) inpOk (fun W f y hy=>zh4 y f W hy)).mono ?_
       rintro e w5 ⟨rfl,hb⟩;clear q0 q1 q2 q3 q4 q5 q6;have HB4:=Lh (HB3.out.trans (Below.mono hb HB3.out.size));have HX4:=Lh (HX3.out.stay hb);clear hb;go_wp2_with fail
       go_ret
       exact ⟨by rw [HV.out,v0.out,Bool.true_and,v1.out,Bool.true_and,v2.out,Bool.true_and]; rfl,HB4.out⟩
theorem zJ8 (x:DefT) (f:Nat->Value) (w:World) (h:DefR w w.heap.size f x):Calls Tryz.prog 41 #[.agg #[f 0,f 1,f 2,f 3,f 4,f 5,f 6]] w (BP (zb4 x) w):=by
 by_cases k1:x.kind=1
 ·exact zF5 x f w h k1
 by_cases k2:x.kind=2
 ·exact zF4 x f w h k2
 by_cases k3:x.kind=3
 ·exact zF3 x f w h k3
 by_cases k4:x.kind=4
 ·exact zF2 x f w h k4
 by_cases k5:x.kind=5
 ·exact zF1 x f w h k5
 have HV:Hid (zb4 x=false):=Lh (by unfold zb4; rw [if_neg k1,if_neg k2,if_neg k3,if_neg k4,if_neg k5])
 generalize zb4 x=RB at *;obtain ⟨A2,c2,e2,_,_⟩:=h.impl.form;obtain ⟨A3,c3,e3,_,_⟩:=h.dirs.form;obtain ⟨A4,c4,e4,_,_⟩:=h.fields.form;obtain ⟨A5,c5,e5,_,_⟩:=h.members.form;obtain ⟨A6,c6,e6,_,_⟩:=h.inputs.form;rw [h.kind,h.name,e2,e3,e4,e5,e6];clear e2 e3 e4 e5 e6 h;generalize x.kind=kd at *;have j1:(kd==1)=false:=by rw [beq_eq_false_iff_ne]; exact k1
 have j2:(kd==2)=false:=by rw [beq_eq_false_iff_ne]; exact k2
 have j3:(kd==3)=false:=by rw [beq_eq_false_iff_ne]; exact k3
 have j4:(kd==4)=false:=by rw [beq_eq_false_iff_ne]; exact k4
 have j5:(kd==5)=false:=by rw [beq_eq_false_iff_ne]; exact k5
 have HB0:Hid (Below w.heap.size w (w.alloc (.cells #[.int .i64 kd,.string x.name,.slice A2 x.impl.length c2,.slice A3 x.dirs.length c3,.slice A4 x.fields.length c4,.slice A5 x.members.length c5,.slice A6 x.inputs.length c6] 39 (0,0)))):=Lh (za1 _ _);clear k1 k2 k3 k4 k5
 go_enter Tryz.func41, Tryz.ntmps41
 go_wp2_with fail
 go_ret
 exact ⟨by rw [HV.out]; rfl,HB0.out⟩
theorem zX2 (x:DefT) (f:Nat->Value) (w:World) (h:DefR w w.heap.size f x) (cs:Array Value) (hc : #[f 0,f 1,f 2,f 3,f 4,f 5,f 6]=cs):Calls Tryz.prog 41 #[.agg cs] w (BP (zb4 x) w):=by
 subst hc;exact zJ8 x f w h
def defOk (x:DefT):Bool:=nmA x.name&&(zg7 x.dirs&&zb4 x)
def docOk (l:List DefT):Bool:=inB 1 64 l defOk
theorem zv1 (x:DefT) (f:Nat->Value) (w:World) (h:DefR w w.heap.size f x):Calls Tryz.prog 22 #[.agg #[f 0,f 1,f 2,f 3,f 4,f 5,f 6]] w (BP (defOk x) w):=by
 have HF:=h;have HN:=Lh h.size;obtain ⟨A2,c2,e2,_,_⟩:=h.impl.form;obtain ⟨A3,c3,e3,_,_⟩:=h.dirs.form;obtain ⟨A4,c4,e4,_,_⟩:=h.fields.form;obtain ⟨A5,c5,e5,_,_⟩:=h.members.form;obtain ⟨A6,c6,e6,_,_⟩:=h.inputs.form;have H2:=h.impl;have H3:=h.dirs;have H4:=h.fields;have H5:=h.members;have H6:=h.inputs;rw [e2] at H2;rw [e3] at H3;rw [e4] at H4;rw [e5] at H5;rw [e6] at H6;rw [h.kind,h.name,e2,e3,e4,e5,e6];replace H2:=Lh H2;replace H3:=Lh H3;replace H4:=Lh H4;replace H5:=Lh H5;replace H6:=Lh H6;have hff : #[f 0,f 1,f 2,f 3,f 4,f 5,f 6]=#[.int .i64 x.kind,.string x.name,.slice A2 x.impl.length c2,.slice A3 x.dirs.length c3,.slice A4 x.fields.length c4,.slice A5 x.members.length c5,.slice A6 x.inputs.length c6]:=by rw [h.kind,h.name,e2,e3,e4,e5,e6]
 replace hff:=Lh hff;clear e2 e3 e4 e5 e6 h H2 H4 H5 H6;replace HF:=Lh HF;have HV:Hid (defOk x=(nmA x.name&&(zg7 x.dirs&&(zb4 x)))):=Lh rfl;generalize defOk x=RB at *;have HB0:Hid (Below w.heap.size w (w.alloc (.cells #[.int .i64 x.kind,.string x.name,.slice A2 x.impl.length c2,.slice A3 x.dirs.length c3,.slice A4 x.fields.length c4,.slice A5 x.members.length c5,.slice A6 x.inputs.length c6] 39 (0,0)))):=Lh (za1 _ _);have HX0:Hid (Bk (w.alloc (.cells #[.int .i64 x.kind,.string x.name,.slice A2 x.impl.length c2,.slice A3 x.dirs.length c3,.slice A4 x.fields.length c4,.slice A5 x.members.length c5,.slice A6 x.inputs.length c6] 39 (0,0))) w.heap.size #[.int .i64 x.kind,.string x.name,.slice A2 x.impl.length c2,.slice A3 x.dirs.length c3,.slice A4 x.fields.length c4,.slice A5 x.members.length c5,.slice A6 x.inputs.length c6] 39):=Lh (Bk.new _ _ _)
 go_enter Tryz.func22, Tryz.ntmps22
 go_wp2_with fail
 refine (zk9 x.name _ HN.out).mono ?_
 rintro e w1 ⟨rfl,rfl⟩
 cases v:nmA x.name with
 | false =>
   have v0:=Lh v;clear v;go_wp2_with fail
   go_ret
   exact ⟨by rw [HV.out,v0.out,Bool.false_and]; rfl,HB0.out⟩
 | true =>
   have v0:=Lh v;clear v;have q0:=HX0.out.cell 0 _ rfl;have q1:=HX0.out.cell 1 _ rfl;have q2:=HX0.out.cell 2 _ rfl;have q3:=HX0.out.cell 3 _ rfl;have q4:=HX0.out.cell 4 _ rfl;have q5:=HX0.out.cell 5 _ rfl;have q6:=HX0.out.cell 6 _ rfl;go_wp2_with fail
   refine (zf2 x.dirs _ _ ((H3.out.kept HB0.out).mono HB0.out.size)).mono ?_
   rintro e w2 ⟨rfl,hb⟩;clear q0 q1 q2 q3 q4 q5 q6;have HB1:=Lh (HB0.out.trans (Below.mono hb HB0.out.size));have HX1:=Lh (HX0.out.stay hb);clear hb
   cases v:zg7 x.dirs with
   | false =>
     have v1:=Lh v;clear v;go_wp2_with fail
     go_ret
     exact ⟨by rw [HV.out,v0.out,Bool.true_and,v1.out,Bool.false_and]; rfl,HB1.out⟩
   | true =>
     have v1:=Lh v;clear v;have q0:=HX1.out.cell 0 _ rfl;have q1:=HX1.out.cell 1 _ rfl;have q2:=HX1.out.cell 2 _ rfl;have q3:=HX1.out.cell 3 _ rfl;have q4:=HX1.out.cell 4 _ rfl;have q5:=HX1.out.cell 5 _ rfl;have q6:=HX1.out.cell 6 _ rfl;go_wp2_with fail
     refine (zX2 x f _ (DefR.stays.mono (DefR.stays.kept HF.out HB1.out) HB1.out.size) _ hff.out).mono ?_
     rintro e w3 ⟨rfl,hb⟩;clear q0 q1 q2 q3 q4 q5 q6;have HB2:=Lh (HB1.out.trans (Below.mono hb HB1.out.size));have HX2:=Lh (HX1.out.stay hb);clear hb;go_wp2_with fail
     go_ret
     exact ⟨by rw [HV.out,v0.out,Bool.true_and,v1.out,Bool.true_and]; rfl,HB2.out⟩
theorem zA7 (l:List DefT) (v:Value) (w:World) (h:DefsR w w.heap.size v l):Calls Tryz.prog 8 #[.agg #[v]] w (BP (docOk l) w):=by
 have HR:=Lh h;have HV:Hid (docOk l=inB 1 64 l defOk):=Lh rfl;generalize docOk l=RB at *;obtain ⟨A,c,rfl,_,_⟩:=h.form;clear h;have HB0:Hid (Below w.heap.size w (w.alloc (.cells #[.slice A l.length c] 24 (0,0)))):=Lh (za1 _ _)
 go_enter Tryz.func8, Tryz.ntmps8
 go_wp2_with fail
 refine (zL9 l _ _ 1 64 ((HR.out.kept HB0.out).mono HB0.out.size) defOk fun W f y hy=>zv1 y f W hy).mono ?_
 rintro e w1 ⟨rfl,hb⟩;have HB:=Lh (HB0.out.trans (Below.mono hb HB0.out.size));clear hb;go_wp2_with fail
 go_ret
 exact ⟨by rw [HV.out]; rfl,HB.out⟩
end Go.Proofs.YtfgelheiknmjgaaGreatDoor
