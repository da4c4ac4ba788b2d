
/-
 Texts joined: N6 N7Mem.
-/
import Derived.Test.YtfgelheiknmjgaaGreatDoorZt41
set_option maxRecDepth 1000000
set_option maxHeartbeats 8000000
namespace Go.Proofs.YtfgelheiknmjgaaGreatDoor
open Go.RowKit
def rfFit (n:ByteArray) (ws:List Int):Prop:=n.size<=1000/\ws.length<=1000
def yn0 (x:InpT):Prop:=rfFit x.tn x.tw/\(x.has=true->x.dflt.fit)/\zk0 x.dirs
theorem zr0 (B:Nat) (n:ByteArray) (ws:List Int) (hf:rfFit n ws) (w:World) (c0 c1:Value) (h:RfR w B c0 c1 n ws) (hB:B<=w.heap.size) :
  Calls Tryz.prog 133 #[.agg #[c0,c1]] w fun e w'=>e=.returned (.string ⟨(zp4 n ws).toArray⟩)/\Below w.heap.size w w' :=
 K.zX6 n ws _ w ((zz9 h).mono hB) (by have:=hf.1; omega) (by have:=hf.2; omega)
theorem zV6:∀ (args:Array Value) (w:World),(callFunc 133 args).run Tryz.prog w=.ok (.enter 133 args) w:=enters_of Tryz.func133 (by kernel_rfl) rfl
theorem en_put:∀ (args:Array Value) (w:World),(callFunc 61 args).run Tryz.prog w=.ok (.enter 61 args) w:=enters_of Tryz.func61 (by kernel_rfl) rfl
def npvI (b g:Nat) (nm:ByteArray) (rf:Value) (out:ByteArray):Nat->Option Value
 | 0=>some (pp b)
 | 1=>some (.pointer (some ⟨g,0,none⟩))
 | 2=>some (.string nm)
 | 3=>some (.pointer (some ⟨g,1,none⟩))
 | 4=>some rf
 | 5=>some (.string out)
 | _=>none
theorem zM8 (B b:Nat) (hO:ValOk B b) (x:InpT) (hf:yn0 x) (f:Nat->Value) (w:World) (h:InpR w B f x):zg1 B b w 69 (.agg #[f 0,f 1,f 2,f 3,f 4,f 5,f 6,f 7,f 8,f 9]) (zm3 x):=by
 intro l hp hL hl hB;obtain ⟨k,n,s,VA,vli,vci,VK,vlk,vck,e4,e5,e6,e7,e8⟩:=Rd.form h.val;obtain ⟨A2,c2,e2,_,_⟩:=h.type.wraps.form;obtain ⟨A9,c9,e9,_,_⟩:=h.dirs.form;have hv:=h.val;have ht:=h.type;have hd:=h.dirs;rw [h.name,h.type.name,e2,h.has,e4,e5,e6,e7,e8,e9];rw [e4,e5,e6,e7,e8] at hv;rw [h.type.name,e2] at ht;rw [e9] at hd;clear e2 e4 e5 e6 e7 e8 e9 h;generalize x.tw.length=n2 at ht ⊢;generalize x.dirs.length=n9 at hd ⊢;have HO:=Lh hO;have HF:=Lh hf;clear hO hf;obtain ⟨hs,hhs⟩ : ∃ hs,x.has=hs:=⟨_,rfl⟩;unfold zm3 at hl ⊢;rw [hhs] at hl ⊢;have HHS:=Lh hhs;clear hhs
 cases hs with
 | true =>
   have HV0:=Lh (hv.kept (za0 w (.cells #[.string x.name,.string x.tn,.slice A2 n2 c2,.bool true,.int .i64 k,.int .i64 n,.string s,.slice VA vli vci,.slice VK vlk vck,.slice A9 n9 c9] 55 (0,0)) |>.mono hB));have HT0:=Lh (ht.kept (za0 w (.cells #[.string x.name,.string x.tn,.slice A2 n2 c2,.bool true,.int .i64 k,.int .i64 n,.string s,.slice VA vli vci,.slice VK vlk vck,.slice A9 n9 c9] 55 (0,0)) |>.mono hB));have HD0:=Lh (hd.kept (za0 w (.cells #[.string x.name,.string x.tn,.slice A2 n2 c2,.bool true,.int .i64 k,.int .i64 n,.string s,.slice VA vli vci,.slice VK vlk vck,.slice A9 n9 c9] 55 (0,0)) |>.mono hB));clear hv ht hd;rw [if_pos rfl] at hl ⊢;have HW0:Hid (Wr B b w (w.alloc (.cells #[.string x.name,.string x.tn,.slice A2 n2 c2,.bool true,.int .i64 k,.int .i64 n,.string s,.slice VA vli vci,.slice VK vlk vck,.slice A9 n9 c9] 55 (0,0)))):=Lh ((Wr.refl B b w).alloc hB _);have HP0:=Lh (hp.alloc (.cells #[.string x.name,.string x.tn,.slice A2 n2 c2,.bool true,.int .i64 k,.int .i64 n,.string s,.slice VA vli vci,.slice VK vlk vck,.slice A9 n9 c9] 55 (0,0)));have HK0:=Lh (Bk.new w #[.string x.name,.string x.tn,.slice A2 n2 c2,.bool true,.int .i64 k,.int .i64 n,.string s,.slice VA vli vci,.slice VK vlk vck,.slice A9 n9 c9] 55);have HL:=Lh hL;have HLL:=Lh hl;have HBB:=Lh hB;have hbw:=hp.lt;clear hL hl hB hp;have CALL0:=fun (W:World) (hW:Below B (w.alloc (.cells #[.string x.name,.string x.tn,.slice A2 n2 c2,.bool true,.int .i64 k,.int .i64 n,.string s,.slice VA vli vci,.slice VK vlk vck,.slice A9 n9 c9] 55 (0,0))) W) (hz:B<=W.heap.size)=>zr0 B x.tn x.tw HF.out.1 W _ _ (HT0.out.kept hW) hz;have CALLP:=Lh CALL0;clear CALL0;generalize hrf:zp4 x.tn x.tw=out at *;obtain ⟨o,rfl⟩ : ∃ o:ByteArray,o.data.toList=out:=⟨⟨out.toArray⟩,by simp⟩;have ho2:(⟨o.data.toList.toArray⟩ : ByteArray)=o:=by cases o; simp
   rw [ho2] at CALLP;clear hrf ho2;have hob:o.data.toList=bL o:=rfl;rw [hob] at HLL ⊢;clear hob
   go_enter Tryz.func69, Tryz.ntmps69
   go_wp2_with fail
   have B0:Hid (Below w.heap.size w ((w.alloc (.cells #[.string x.name,.string x.tn,.slice A2 n2 c2,.bool true,.int .i64 k,.int .i64 n,.string s,.slice VA vli vci,.slice VK vlk vck,.slice A9 n9 c9] 55 (0,0))).drew)):=Lh ((za0 w _).trans (Below.drew (Below.refl _ _)));have HPD:Hid (PB B b l ((w.alloc (.cells #[.string x.name,.string x.tn,.slice A2 n2 c2,.bool true,.int .i64 k,.int .i64 n,.string s,.slice VA vli vci,.slice VK vlk vck,.slice A9 n9 c9] 55 (0,0))).drew)):=Lh HP0.out;have HWD:Hid (Wr B b w ((w.alloc (.cells #[.string x.name,.string x.tn,.slice A2 n2 c2,.bool true,.int .i64 k,.int .i64 n,.string s,.slice VA vli vci,.slice VK vlk vck,.slice A9 n9 c9] 55 (0,0))).drew)):=Lh (HW0.out.trans (Wr.of (Nat.le_trans HBB.out HW0.out.below.size) (Below.drew (Below.refl _ _))));have HKD:Hid (Bk ((w.alloc (.cells #[.string x.name,.string x.tn,.slice A2 n2 c2,.bool true,.int .i64 k,.int .i64 n,.string s,.slice VA vli vci,.slice VK vlk vck,.slice A9 n9 c9] 55 (0,0))).drew) w.heap.size #[.string x.name,.string x.tn,.slice A2 n2 c2,.bool true,.int .i64 k,.int .i64 n,.string s,.slice VA vli vci,.slice VK vlk vck,.slice A9 n9 c9] 55):=Lh HK0.out;have HVD:Hid (Rd ((w.alloc (.cells #[.string x.name,.string x.tn,.slice A2 n2 c2,.bool true,.int .i64 k,.int .i64 n,.string s,.slice VA vli vci,.slice VK vlk vck,.slice A9 n9 c9] 55 (0,0))).drew) B (.agg #[.int .i64 k,.int .i64 n,.string s,.slice VA vli vci,.slice VK vlk vck]) x.dflt):=Lh (HV0.out.kept ((Below.drew (Below.refl _ _)).mono (Nat.le_trans HBB.out HW0.out.below.size)));have HDD:Hid (DirsR ((w.alloc (.cells #[.string x.name,.string x.tn,.slice A2 n2 c2,.bool true,.int .i64 k,.int .i64 n,.string s,.slice VA vli vci,.slice VK vlk vck,.slice A9 n9 c9] 55 (0,0))).drew) B (.slice A9 n9 c9) x.dirs):=Lh (HD0.out.kept ((Below.drew (Below.refl _ _)).mono (Nat.le_trans HBB.out HW0.out.below.size)));have CP2:Hid (∀ W:World,Below B ((w.alloc (.cells #[.string x.name,.string x.tn,.slice A2 n2 c2,.bool true,.int .i64 k,.int .i64 n,.string s,.slice VA vli vci,.slice VK vlk vck,.slice A9 n9 c9] 55 (0,0))).drew) W->B<=W.heap.size->Calls Tryz.prog 133 #[.agg #[.string x.tn,.slice A2 n2 c2]] W fun e w'=>e=.returned (.string o)/\Below W.heap.size W w'):=Lh fun W hW hz=>CALLP.out W (((Below.drew (Below.refl _ _)).mono (Nat.le_trans HBB.out HW0.out.below.size)).trans hW) hz;clear CALLP HP0 HW0 HK0 HV0 HD0 HT0;have hz0:B<=((w.alloc (.cells #[.string x.name,.string x.tn,.slice A2 n2 c2,.bool true,.int .i64 k,.int .i64 n,.string s,.slice VA vli vci,.slice VK vlk vck,.slice A9 n9 c9] 55 (0,0))).drew).heap.size:=by have:=B0.out.size; have:=HBB.out; omega
   obtain ⟨W,hW⟩ : ∃ W,(w.alloc (.cells #[.string x.name,.string x.tn,.slice A2 n2 c2,.bool true,.int .i64 k,.int .i64 n,.string s,.slice VA vli vci,.slice VK vlk vck,.slice A9 n9 c9] 55 (0,0))).drew=W:=⟨_,rfl⟩;rw [hW] at B0 HPD HWD HKD HVD HDD CP2 hz0;have hKb:w.heap.size<W.heap.size:=HKD.out.lt;refine zr4 (pv:=npvI b w.heap.size x.name (.agg #[.string x.tn,.slice A2 n2 c2]) o) (b:=5) (c:=6) (e:=7) (x:=100) (C:=fun w1=>Below W.heap.size W w1)
    (G:=fun u w2=>∃ w1,Below W.heap.size W w1/\u=.slice (some ⟨w1.heap.size,0,none⟩) 3 3/\w2=w1.alloc (.cells #[.string x.name,.string ⟨#[58,32]⟩,.string o] 9 (0,0)))
    (E:=fun u w3=>u=.tuple #[]/\PB B b (l++(bL x.name++(bL ⟨#[58,32]⟩++bL o))) w3/\Wr B b W w3) (by kernel_rfl) (by kernel_rfl) (by kernel_rfl) ⟨by decide,by decide,by decide,by decide,by decide,by decide,rfl,rfl,rfl,by decide,by decide,by decide⟩ ?_ ?_ ?_ ?_ ?_ ?_ ?_ ?_ ?_
   ·intro o ho d _ hall; cases ho; exact hall ⟨5,.data⟩ (by simp) rfl
   ·intro o ho; cases ho; exact ⟨⟨6,.data⟩,by simp,rfl,rfl⟩
   ·intro o ho; cases ho
   ·intro i o ho q1 q2 q3 q4 d a w2 hf hcl hdi _ had hw
    rw [hW] at hw;have hi:i<8:=(Array.getElem?_eq_some_iff.1 ho).1;have hc:i=0∨i=1∨i=2∨i=3∨i=4:=by omega
    have hbx:(d 2=false∨d 4=false)->Bk w2 w.heap.size #[.string x.name,.string x.tn,.slice A2 n2 c2,.bool true,.int .i64 k,.int .i64 n,.string s,.slice VA vli vci,.slice VK vlk vck,.slice A9 n9 c9] 55 := by
     intro hd24;rcases hw with rfl | hb | ⟨u,w1,hb,_,rfl⟩ | ⟨hde,_⟩
     ·exact HKD.out
     ·exact HKD.out.stay hb
     ·exact (HKD.out.stay hb).stay (za0 _ _)
     ·have d6:d 6=true:=hcl 7 _ rfl hde ⟨6,.data⟩ (by simp) rfl
      have d2:d 2=true:=hcl 6 _ rfl d6 ⟨2,.data⟩ (by simp) rfl;have d5:d 5=true:=hcl 6 _ rfl d6 ⟨5,.data⟩ (by simp) rfl;have d4:d 4=true:=hcl 5 _ rfl d5 ⟨4,.data⟩ (by simp) rfl;rcases hd24 with h | h
      ·rw [d2] at h; cases h
      ·rw [d4] at h; cases h
    rcases hc with rfl | rfl | rfl | rfl | rfl
    ·cases ho
     have hx:a.eval (.tmp 0)=pp b:=K.Fr.slot hf 0 (by kernel_rfl);exact yj0 rfl (.tmp 0) rfl hx ⟨rfl,fun z hz=>by cases hz; rfl⟩
    ·cases ho
     have hx:a.eval (.tmp 3)=.pointer (some ⟨w.heap.size,0,none⟩):=K.Fr.slot hf 3 (by kernel_rfl);exact yj2 rfl (.tmp 3) rfl hx ⟨rfl,fun z hz=>by cases hz; rfl⟩
    ·cases ho
     have hx:a.eval (.tmp 5)=.pointer (some ⟨w.heap.size,0,none⟩):=had ⟨1,.data⟩ (by simp) rfl _ rfl;have h0:=(hbx (.inl hdi)).cell 0 _ rfl;exact op_ldS rfl (.tmp 5) rfl hx h0 ⟨rfl,fun z hz=>by cases hz; rfl⟩
    ·cases ho
     have hx:a.eval (.tmp 3)=.pointer (some ⟨w.heap.size,0,none⟩):=K.Fr.slot hf 3 (by kernel_rfl);exact yj1 rfl (.tmp 3) rfl hx ⟨rfl,fun z hz=>by cases hz; rfl⟩
    ·cases ho
     have hx:a.eval (.tmp 7)=.pointer (some ⟨w.heap.size,1,none⟩):=had ⟨3,.data⟩ (by simp) rfl _ rfl;have h1:=(hbx (.inr hdi)).cell 1 _ rfl;have h2:=(hbx (.inr hdi)).cell 2 _ rfl;exact op_ldR rfl (.tmp 7) rfl hx h1 h2 ⟨rfl,fun z hz=>by cases hz; rfl⟩
   ·intro o' ho a hf had
    cases ho
    rw [hW];have h4:K.vof _ a 4=.agg #[.string x.tn,.slice A2 n2 c2]:=had ⟨4,.data⟩ (by simp) rfl _ rfl;refine zn4 rfl _ _ _ rfl zV6 #[.agg #[.string x.tn,.slice A2 n2 c2]] (by rw [K.map1,show a.eval (.tmp 8)=_ from h4]) ?_
    refine (CP2.out _ (Below.refl _ _) hz0).mono ?_
    rintro e w4 ⟨rfl,hb⟩;exact ⟨_,rfl,hb,fun z hz=>by cases hz; rfl⟩
   ·intro o' ho a w2 hf had hb
    cases ho
    have h2:a.eval (.tmp 6)=.string x.name:=had ⟨2,.data⟩ (by simp) rfl _ rfl;have h5:a.eval (.tmp 9)=.string o:=had ⟨5,.data⟩ (by simp) rfl _ rfl;have h6:a.eval (.const (.string ⟨#[58,32]⟩))=.string ⟨#[58,32]⟩:=rfl;exact op_mk3 rfl (.tmp 6) (.const (.string ⟨#[58,32]⟩)) (.tmp 9) rfl h2 h6 h5 ⟨w2,hb,rfl,rfl⟩
   ·intro o' ho a w2 hf had ⟨w1,hb,hu,hw⟩
    cases ho
    have h0:K.vof _ a 0=pp b:=had ⟨0,.data⟩ (by simp) rfl _ rfl;refine zn4 rfl _ _ _ rfl en_put #[pp b,.slice (some ⟨w1.heap.size,0,none⟩) 3 3] (by rw [K.map2,show a.eval (.tmp 4)=_ from h0,show a.eval (.tmp 10)=_ from hu]) ?_
    subst hw;refine (put3 x.name ⟨#[58,32]⟩ o B b _ l w1 rfl (HPD.out.kept hb) (by have h1:=HLL.out; (try simp only [za8,List.length_append,List.length_cons,List.length_nil,za5,za3] at h1 ⊢); omega) (Nat.le_trans hz0 hb.size)).mono ?_;rintro e w4 ⟨rfl,hp,hw⟩;exact ⟨_,rfl,rfl,hp,(Wr.of hz0 hb).trans hw⟩
   ·intro o ho; cases ho
   intro a w1 hf hE _;obtain ⟨_,hp,hw⟩:=hE;have ha:=K.zg2 hf [4,5,6,7,8,9,10,11] (by kernel_rfl);generalize (fun d=>a.tmps.getD d undef)=f9 at ha;subst ha;clear hf;simp only [K.over,List.foldl_cons,List.foldl_nil,Act.put,List.setIfInBounds_toArray,List.set_cons_succ,List.set_cons_zero];generalize f9 4=u4;generalize f9 5=u5;generalize f9 6=u6;generalize f9 7=u7;generalize f9 8=u8;generalize f9 9=u9;generalize f9 10=u10;generalize f9 11=u11;have HP1:=Lh hp;have HW1:=Lh (HWD.out.trans hw);have HK1:=Lh (HKD.out.wr hw (by omega) (by decide));have HV1:=Lh (HVD.out.kept hw.below);have HD1:=Lh (HDD.out.kept hw.below);clear hp hw HPD HWD HKD HVD HDD CP2 B0;obtain ⟨y0,y1,y2,y3,y4,y5,y6,y7,y8,y9⟩:=HK1.out.c10;go_wp2_with fail;refine (put1 _ B b _ _ _ (by simp) HP1.out (by have h1:=HLL.out; (try simp only [za8,List.length_append,List.length_cons,List.length_nil,za5,za3] at h1 ⊢); omega) (Nat.le_trans HBB.out HW1.out.below.size)).mono ?_
   rintro e w2 ⟨rfl,hp,hw⟩;have HP2:=Lh hp;have HW2:=Lh (HW1.out.trans hw);have HK2:=Lh (HK1.out.wr hw (by omega) (by decide));have HV2:=Lh (Rd.kept HV1.out hw.below);have HD2:=Lh (DirsR.kept HD1.out hw.below);clear hp hw;clear y0 y1 y2 y3 y4 y5 y6 y7 y8 y9;obtain ⟨y0,y1,y2,y3,y4,y5,y6,y7,y8,y9⟩:=HK2.out.c10;go_wp2_with fail;refine (HO.out x.dflt (HF.out.2.1 HHS.out) (fun j=>(#[.int .i64 k,.int .i64 n,.string s,.slice VA vli vci,.slice VK vlk vck]:Array Value).getD j undef) _ HV2.out _ HP2.out (HL.out.kept HW2.out.below) (by have h1:=HLL.out; (try simp only [za8,List.length_append,List.length_cons,List.length_nil,za5,za3] at h1 ⊢); omega) (Nat.le_trans HBB.out HW2.out.below.size)).mono ?_
   rintro e w3 ⟨rfl,hp,hw⟩;have HP3:=Lh hp;have HW3:=Lh (HW2.out.trans hw);have HK3:=Lh (HK2.out.wr hw (by omega) (by decide));have HV3:=Lh (Rd.kept HV2.out hw.below);have HD3:=Lh (DirsR.kept HD2.out hw.below);clear hp hw;clear y0 y1 y2 y3 y4 y5 y6 y7 y8 y9;obtain ⟨y0,y1,y2,y3,y4,y5,y6,y7,y8,y9⟩:=HK3.out.c10;go_wp2_with fail;refine (zb8 B b HO.out x.dirs HF.out.2.2 _ _ HD3.out _ HP3.out (HL.out.kept HW3.out.below) (by have h1:=HLL.out; (try simp only [za8,List.length_append,List.length_cons,List.length_nil,za5,za3] at h1 ⊢); omega) (Nat.le_trans HBB.out HW3.out.below.size)).mono ?_
   rintro e w4 ⟨rfl,hp,hw⟩;have HP4:=Lh hp;have HW4:=Lh (HW3.out.trans hw);have HK4:=Lh (HK3.out.wr hw (by omega) (by decide));have HV4:=Lh (Rd.kept HV3.out hw.below);have HD4:=Lh (DirsR.kept HD3.out hw.below);clear hp hw;clear y0 y1 y2 y3 y4 y5 y6 y7 y8 y9;obtain ⟨y0,y1,y2,y3,y4,y5,y6,y7,y8,y9⟩:=HK4.out.c10;go_wp2_with fail
   go_end0
   exact ⟨rfl,by have h1:=HP4.out; (try simp only [List.append_assoc,List.append_nil] at h1); (try simp only [List.append_assoc]); (try simp only [List.append_nil]); exact h1,HW4.out⟩
 | false =>
   have HV0:=Lh (hv.kept (za0 w (.cells #[.string x.name,.string x.tn,.slice A2 n2 c2,.bool false,.int .i64 k,.int .i64 n,.string s,.slice VA vli vci,.slice VK vlk vck,.slice A9 n9 c9] 55 (0,0)) |>.mono hB));have HT0:=Lh (ht.kept (za0 w (.cells #[.string x.name,.string x.tn,.slice A2 n2 c2,.bool false,.int .i64 k,.int .i64 n,.string s,.slice VA vli vci,.slice VK vlk vck,.slice A9 n9 c9] 55 (0,0)) |>.mono hB));have HD0:=Lh (hd.kept (za0 w (.cells #[.string x.name,.string x.tn,.slice A2 n2 c2,.bool false,.int .i64 k,.int .i64 n,.string s,.slice VA vli vci,.slice VK vlk vck,.slice A9 n9 c9] 55 (0,0)) |>.mono hB));clear hv ht hd;rw [if_neg (by decide)] at hl ⊢;have HW0:Hid (Wr B b w (w.alloc (.cells #[.string x.name,.string x.tn,.slice A2 n2 c2,.bool false,.int .i64 k,.int .i64 n,.string s,.slice VA vli vci,.slice VK vlk vck,.slice A9 n9 c9] 55 (0,0)))):=Lh ((Wr.refl B b w).alloc hB _);have HP0:=Lh (hp.alloc (.cells #[.string x.name,.string x.tn,.slice A2 n2 c2,.bool false,.int .i64 k,.int .i64 n,.string s,.slice VA vli vci,.slice VK vlk vck,.slice A9 n9 c9] 55 (0,0)));have HK0:=Lh (Bk.new w #[.string x.name,.string x.tn,.slice A2 n2 c2,.bool false,.int .i64 k,.int .i64 n,.string s,.slice VA vli vci,.slice VK vlk vck,.slice A9 n9 c9] 55);have HL:=Lh hL;have HLL:=Lh hl;have HBB:=Lh hB;have hbw:=hp.lt;clear hL hl hB hp;have CALL0:=fun (W:World) (hW:Below B (w.alloc (.cells #[.string x.name,.string x.tn,.slice A2 n2 c2,.bool false,.int .i64 k,.int .i64 n,.string s,.slice VA vli vci,.slice VK vlk vck,.slice A9 n9 c9] 55 (0,0))) W) (hz:B<=W.heap.size)=>zr0 B x.tn x.tw HF.out.1 W _ _ (HT0.out.kept hW) hz;have CALLP:=Lh CALL0;clear CALL0;generalize hrf:zp4 x.tn x.tw=out at *;obtain ⟨o,rfl⟩ : ∃ o:ByteArray,o.data.toList=out:=⟨⟨out.toArray⟩,by simp⟩;have ho2:(⟨o.data.toList.toArray⟩ : ByteArray)=o:=by cases o; simp
   rw [ho2] at CALLP;clear hrf ho2;have hob:o.data.toList=bL o:=rfl;rw [hob] at HLL ⊢;clear hob
   go_enter Tryz.func69, Tryz.ntmps69
   go_wp2_with fail
   have B0:Hid (Below w.heap.size w ((w.alloc (.cells #[.string x.name,.string x.tn,.slice A2 n2 c2,.bool false,.int .i64 k,.int .i64 n,.string s,.slice VA vli vci,.slice VK vlk vck,.slice A9 n9 c9] 55 (0,0))).drew)):=Lh ((za0 w _).trans (Below.drew (Below.refl _ _)));have HPD:Hid (PB B b l ((w.alloc (.cells #[.string x.name,.string x.tn,.slice A2 n2 c2,.bool false,.int .i64 k,.int .i64 n,.string s,.slice VA vli vci,.slice VK vlk vck,.slice A9 n9 c9] 55 (0,0))).drew)):=Lh HP0.out;have HWD:Hid (Wr B b w ((w.alloc (.cells #[.string x.name,.string x.tn,.slice A2 n2 c2,.bool false,.int .i64 k,.int .i64 n,.string s,.slice VA vli vci,.slice VK vlk vck,.slice A9 n9 c9] 55 (0,0))).drew)):=Lh (HW0.out.trans (Wr.of (Nat.le_trans HBB.out HW0.out.below.size) (Below.drew (Below.refl _ _))));have HKD:Hid (Bk ((w.alloc (.cells #[.string x.name,.string x.tn,.slice A2 n2 c2,.bool false,.int .i64 k,.int .i64 n,.string s,.slice VA vli vci,.slice VK vlk vck,.slice A9 n9 c9] 55 (0,0))).drew) w.heap.size #[.string x.name,.string x.tn,.slice A2 n2 c2,.bool false,.int .i64 k,.int .i64 n,.string s,.slice VA vli vci,.slice VK vlk vck,.slice A9 n9 c9] 55):=Lh HK0.out;have HVD:Hid (Rd ((w.alloc (.cells #[.string x.name,.string x.tn,.slice A2 n2 c2,.bool false,.int .i64 k,.int .i64 n,.string s,.slice VA vli vci,.slice VK vlk vck,.slice A9 n9 c9] 55 (0,0))).drew) B (.agg #[.int .i64 k,.int .i64 n,.string s,.slice VA vli vci,.slice VK vlk vck]) x.dflt):=Lh (HV0.out.kept ((Below.drew (Below.refl _ _)).mono (Nat.le_trans HBB.out HW0.out.below.size)));have HDD:Hid (DirsR ((w.alloc (.cells #[.string x.name,.string x.tn,.slice A2 n2 c2,.bool false,.int .i64 k,.int .i64 n,.string s,.slice VA vli vci,.slice VK vlk vck,.slice A9 n9 c9] 55 (0,0))).drew) B (.slice A9 n9 c9) x.dirs):=Lh (HD0.out.kept ((Below.drew (Below.refl _ _)).mono (Nat.le_trans HBB.out HW0.out.below.size)));have CP2:Hid (∀ W:World,Below B ((w.alloc (.cells #[.string x.name,.string x.tn,.slice A2 n2 c2,.bool false,.int .i64 k,.int .i64 n,.string s,.slice VA vli vci,.slice VK vlk vck,.slice A9 n9 c9] 55 (0,0))).drew) W->B<=W.heap.size->Calls Tryz.prog 133 #[.agg #[.string x.tn,.slice A2 n2 c2]] W fun e w'=>e=.returned (.string o)/\Below W.heap.size W w'):=Lh fun W hW hz=>CALLP.out W (((Below.drew (Below.refl _ _)).mono (Nat.le_trans HBB.out HW0.out.below.size)).trans hW) hz;clear CALLP HP0 HW0 HK0 HV0 HD0 HT0;have hz0:B<=((w.alloc (.cells #[.string x.name,.string x.tn,.slice A2 n2 c2,.bool false,.int .i64 k,.int .i64 n,.string s,.slice VA vli vci,.slice VK vlk vck,.slice A9 n9 c9] 55 (0,0))).drew).heap.size:=by have:=B0.out.size; have:=HBB.out; omega
   obtain ⟨W,hW⟩ : ∃ W,(w.alloc (.cells #[.string x.name,.string x.tn,.slice A2 n2 c2,.bool false,.int .i64 k,.int .i64 n,.string s,.slice VA vli vci,.slice VK vlk vck,.slice A9 n9 c9] 55 (0,0))).drew=W:=⟨_,rfl⟩;rw [hW] at B0 HPD HWD HKD HVD HDD CP2 hz0;have hKb:w.heap.size<W.heap.size:=HKD.out.lt;refine zr4 (pv:=npvI b w.heap.size x.name (.agg #[.string x.tn,.slice A2 n2 c2]) o) (b:=5) (c:=6) (e:=7) (x:=100) (C:=fun w1=>Below W.heap.size W w1)
    (G:=fun u w2=>∃ w1,Below W.heap.size W w1/\u=.slice (some ⟨w1.heap.size,0,none⟩) 3 3/\w2=w1.alloc (.cells #[.string x.name,.string ⟨#[58,32]⟩,.string o] 9 (0,0)))
    (E:=fun u w3=>u=.tuple #[]/\PB B b (l++(bL x.name++(bL ⟨#[58,32]⟩++bL o))) w3/\Wr B b W w3) (by kernel_rfl) (by kernel_rfl) (by kernel_rfl) ⟨by decide,by decide,by decide,by decide,by decide,by decide,rfl,rfl,rfl,by decide,by decide,by decide⟩ ?_ ?_ ?_ ?_ ?_ ?_ ?_ ?_ ?_
   ·intro o ho d _ hall; cases ho; exact hall ⟨5,.data⟩ (by simp) rfl
   ·intro o ho; cases ho; exact ⟨⟨6,.data⟩,by simp,rfl,rfl⟩
   ·intro o ho; cases ho
   ·intro i o ho q1 q2 q3 q4 d a w2 hf hcl hdi _ had hw
    rw [hW] at hw;have hi:i<8:=(Array.getElem?_eq_some_iff.1 ho).1;have hc:i=0∨i=1∨i=2∨i=3∨i=4:=by omega
    have hbx:(d 2=false∨d 4=false)->Bk w2 w.heap.size #[.string x.name,.string x.tn,.slice A2 n2 c2,.bool false,.int .i64 k,.int .i64 n,.string s,.slice VA vli vci,.slice VK vlk vck,.slice A9 n9 c9] 55 := by
     intro hd24;rcases hw with rfl | hb | ⟨u,w1,hb,_,rfl⟩ | ⟨hde,_⟩
     ·exact HKD.out
     ·exact HKD.out.stay hb
     ·exact (HKD.out.stay hb).stay (za0 _ _)
     ·have d6:d 6=true:=hcl 7 _ rfl hde ⟨6,.data⟩ (by simp) rfl
      have d2:d 2=true:=hcl 6 _ rfl d6 ⟨2,.data⟩ (by simp) rfl;have d5:d 5=true:=hcl 6 _ rfl d6 ⟨5,.data⟩ (by simp) rfl;have d4:d 4=true:=hcl 5 _ rfl d5 ⟨4,.data⟩ (by simp) rfl;rcases hd24 with h | h
      ·rw [d2] at h; cases h
      ·rw [d4] at h; cases h
    rcases hc with rfl | rfl | rfl | rfl | rfl
    ·cases ho
     have hx:a.eval (.tmp 0)=pp b:=K.Fr.slot hf 0 (by kernel_rfl);exact yj0 rfl (.tmp 0) rfl hx ⟨rfl,fun z hz=>by cases hz; rfl⟩
    ·cases ho
     have hx:a.eval (.tmp 3)=.pointer (some ⟨w.heap.size,0,none⟩):=K.Fr.slot hf 3 (by kernel_rfl);exact yj2 rfl (.tmp 3) rfl hx ⟨rfl,fun z hz=>by cases hz; rfl⟩
    ·cases ho
     have hx:a.eval (.tmp 5)=.pointer (some ⟨w.heap.size,0,none⟩):=had ⟨1,.data⟩ (by simp) rfl _ rfl;have h0:=(hbx (.inl hdi)).cell 0 _ rfl;exact op_ldS rfl (.tmp 5) rfl hx h0 ⟨rfl,fun z hz=>by cases hz; rfl⟩
    ·cases ho
     have hx:a.eval (.tmp 3)=.pointer (some ⟨w.heap.size,0,none⟩):=K.Fr.slot hf 3 (by kernel_rfl);exact yj1 rfl (.tmp 3) rfl hx ⟨rfl,fun z hz=>by cases hz; rfl⟩
    ·cases ho
     have hx:a.eval (.tmp 7)=.pointer (some ⟨w.heap.size,1,none⟩):=had ⟨3,.data⟩ (by simp) rfl _ rfl;have h1:=(hbx (.inr hdi)).cell 1 _ rfl;have h2:=(hbx (.inr hdi)).cell 2 _ rfl;exact op_ldR rfl (.tmp 7) rfl hx h1 h2 ⟨rfl,fun z hz=>by cases hz; rfl⟩
   ·intro o' ho a hf had
    cases ho
    rw [hW];have h4:K.vof _ a 4=.agg #[.string x.tn,.slice A2 n2 c2]:=had ⟨4,.data⟩ (by simp) rfl _ rfl;refine zn4 rfl _ _ _ rfl zV6 #[.agg #[.string x.tn,.slice A2 n2 c2]] (by rw [K.map1,show a.eval (.tmp 8)=_ from h4]) ?_
    refine (CP2.out _ (Below.refl _ _) hz0).mono ?_
    rintro e w4 ⟨rfl,hb⟩;exact ⟨_,rfl,hb,fun z hz=>by cases hz; rfl⟩
   ·intro o' ho a w2 hf had hb
    cases ho
    have h2:a.eval (.tmp 6)=.string x.name:=had ⟨2,.data⟩ (by simp) rfl _ rfl;have h5:a.eval (.tmp 9)=.string o:=had ⟨5,.data⟩ (by simp) rfl _ rfl;have h6:a.eval (.const (.string ⟨#[58,32]⟩))=.string ⟨#[58,32]⟩:=rfl;exact op_mk3 rfl (.tmp 6) (.const (.string ⟨#[58,32]⟩)) (.tmp 9) rfl h2 h6 h5 ⟨w2,hb,rfl,rfl⟩
   ·intro o' ho a w2 hf had ⟨w1,hb,hu,hw⟩
    cases ho
    have h0:K.vof _ a 0=pp b:=had ⟨0,.data⟩ (by simp) rfl _ rfl;refine zn4 rfl _ _ _ rfl en_put #[pp b,.slice (some ⟨w1.heap.size,0,none⟩) 3 3] (by rw [K.map2,show a.eval (.tmp 4)=_ from h0,show a.eval (.tmp 10)=_ from hu]) ?_
    subst hw;refine (put3 x.name ⟨#[58,32]⟩ o B b _ l w1 rfl (HPD.out.kept hb) (by have h1:=HLL.out; (try simp only [za8,List.length_append,List.length_cons,List.length_nil,za5,za3] at h1 ⊢); omega) (Nat.le_trans hz0 hb.size)).mono ?_;rintro e w4 ⟨rfl,hp,hw⟩;exact ⟨_,rfl,rfl,hp,(Wr.of hz0 hb).trans hw⟩
   ·intro o ho; cases ho
   intro a w1 hf hE _;obtain ⟨_,hp,hw⟩:=hE;have ha:=K.zg2 hf [4,5,6,7,8,9,10,11] (by kernel_rfl);generalize (fun d=>a.tmps.getD d undef)=f9 at ha;subst ha;clear hf;simp only [K.over,List.foldl_cons,List.foldl_nil,Act.put,List.setIfInBounds_toArray,List.set_cons_succ,List.set_cons_zero];generalize f9 4=u4;generalize f9 5=u5;generalize f9 6=u6;generalize f9 7=u7;generalize f9 8=u8;generalize f9 9=u9;generalize f9 10=u10;generalize f9 11=u11;have HP1:=Lh hp;have HW1:=Lh (HWD.out.trans hw);have HK1:=Lh (HKD.out.wr hw (by omega) (by decide));have HV1:=Lh (HVD.out.kept hw.below);have HD1:=Lh (HDD.out.kept hw.below);clear hp hw HPD HWD HKD HVD HDD CP2 B0;obtain ⟨y0,y1,y2,y3,y4,y5,y6,y7,y8,y9⟩:=HK1.out.c10;go_wp2_with fail;refine (zb8 B b HO.out x.dirs HF.out.2.2 _ _ HD1.out _ HP1.out (HL.out.kept HW1.out.below) (by have h1:=HLL.out; (try simp only [za8,List.length_append,List.length_cons,List.length_nil,za5,za3] at h1 ⊢); omega) (Nat.le_trans HBB.out HW1.out.below.size)).mono ?_
   rintro e w2 ⟨rfl,hp,hw⟩;have HP2:=Lh hp;have HW2:=Lh (HW1.out.trans hw);have HK2:=Lh (HK1.out.wr hw (by omega) (by decide));have HV2:=Lh (Rd.kept HV1.out hw.below);have HD2:=Lh (DirsR.kept HD1.out hw.below);clear hp hw;clear y0 y1 y2 y3 y4 y5 y6 y7 y8 y9;obtain ⟨y0,y1,y2,y3,y4,y5,y6,y7,y8,y9⟩:=HK2.out.c10;go_wp2_with fail
   go_end0
   exact ⟨rfl,by have h1:=HP2.out; (try simp only [List.append_assoc,List.append_nil] at h1); (try simp only [List.append_assoc]); (try simp only [List.append_nil]); exact h1,HW2.out⟩
theorem zr2 {α:Type} (tx : α->List UInt8) {xs:List α} {i:Nat} {x : α} (h:xs[i]?=some x):(((xs.take (i+1)).map tx).map zb6).flatten=(((xs.take i).map tx).map zb6).flatten++zb6 (tx x):=by
 rw [zG2 h,List.map_append,List.map_append,List.flatten_append]; simp
theorem zH7 {α:Type} (tx : α->List UInt8) {xs:List α} {i:Nat} {x : α} (h:xs[i]?=some x):(((xs.take i).map tx).map zb6).flatten.length+((tx x).length+3)<=((xs.map tx).map zb6).flatten.length:=by
 have e:xs.map tx=(xs.take (i+1)).map tx++(xs.drop (i+1)).map tx:=by rw [<- List.map_append,List.take_append_drop]
 rw [e,List.map_append,List.flatten_append,zr2 tx h,List.length_append,List.length_append];unfold zb6;simp only [List.length_append,List.length_cons,List.length_nil];omega
theorem yb7 (B b:Nat) (hO:ValOk B b) (ds:List DirT) (hds:zk0 ds) (xs:List MemT) (tx:MemT->List UInt8) (hF:∀ x∈xs, ∀ (f:Nat->Value) (W:World),MemR W B f x->zg1 B b W 67 (.agg #[f 0,f 1]) (tx x))
  (u v:Value) (l:List UInt8) (w:World) (hd:DirsR w B u ds) (h:MemsR w B v xs) (hp:PB B b l w) (hL:LaidB B w) (hl:l.length+(zj7 ds (xs.map tx)).length<=140737488355328) (hB:B<=w.heap.size) :
  Calls Tryz.prog 66 #[pp b,u,v,.func (.func 67) #[pp b] #[]] w (PP B b l (zj7 ds (xs.map tx)) w):=by
 obtain ⟨A,c,rfl,hc,hbg,V,hA,hr⟩:=h;unfold big at hbg;obtain ⟨len,hlen⟩ : ∃ len,xs.length=len:=⟨_,rfl⟩;rw [hlen] at hA hbg ⊢;unfold zj7 at hl ⊢;have hlm:(len:Int)<=140737488351232:=by omega
 have HLEN:=Lh hlen;have HF:=Lh hF;have HA:=Lh hA;have HR:=Lh hr;have HL:=Lh hL;have HLL:=Lh hl;have HBB:=Lh hB;have HDS:=Lh hds;have CALLD:=Lh (zb8 B b hO ds hds u w hd l hp hL (by simp only [List.length_append] at hl; omega) hB);clear hlen hF hA hr hL hl hc hbg hds hd hp
 go_enter Tryz.func66, Tryz.ntmps66
 go_wp2_with fail
 refine CALLD.out.mono ?_
 rintro e w1 ⟨rfl,hp1,hw1⟩;have HP1:=Lh hp1;have HW1:=Lh hw1;clear hp1 hw1 CALLD;go_wp2_with fail;refine (put1 _ B b _ _ _ (by simp) HP1.out (by have h1:=HLL.out; (try simp only [za8,List.length_append,List.length_cons,List.length_nil,za5,za3] at h1 ⊢); omega) (Nat.le_trans HBB.out HW1.out.below.size)).mono ?_
 rintro e w2 ⟨rfl,hp2,hw2⟩;have HP2:=Lh hp2;have HW2:=Lh (HW1.out.trans hw2);clear hp2 hw2;go_wp2_with fail
 go_loopw [18] (fun u wr=>∃ i:Nat,i<=len/\u=.int .i64 i/\Hid (PB B b (l++zd2 ds++[32,123,10]++(((xs.take i).map tx).map zb6).flatten) wr/\Wr B b w wr)) (fun u _=>len-(intOf u).toNat)
 case atStart=>exact ⟨0,Nat.zero_le _,rfl,Lh ⟨by rw [List.take_zero,List.map_nil,List.map_nil,List.flatten_nil,List.append_nil]; exact HP2.out,HW2.out⟩⟩
 case round =>
  obtain ⟨i,hi,rfl,hr⟩:=hrel;by_cases hlt:i<len
  ·obtain ⟨x,hxi⟩ : ∃ x,xs[i]?=some x:=⟨_,List.getElem?_eq_getElem (by rw [HLEN.out]; exact hlt)⟩
   have hlt':(i:Int)<len:=by omega
   have HXI:=Lh hxi;have hx:MemR wr B (V i) x:=MemR.stays.kept (HR.out i x hxi) hr.out.2.below;have HF1:=Lh (HF.out x (List.mem_of_getElem? hxi));obtain ⟨a,rfl,ha,hc0⟩:=HA.out (by omega);have hcc:∀ j,j<2->wr.cell? (at_ (a.add (i*2)) j)=some (V i j):=fun j hj=>(hr.out.2.below.cell (by rw [zb5,za1]; exact ha)).trans (hc0 i hlt j hj);have k0:wr.cell? (a.add (i*2))=some (V i 0):=hcc 0 (by omega);have k1:wr.cell? ⟨((a.add (i*2))).block,((a.add (i*2))).off+1,none⟩=some (V i 1):=hcc 1 (by omega);obtain ⟨A1,c1,e1,_,_⟩:=hx.dirs.form;have e0:=hx.name;rw [e0] at k0;rw [e1] at k1;have HX:=Lh hx;have HE:Hid (#[V i 0,V i 1]=#[.string x.name,.slice A1 x.dirs.length c1]):=Lh (by rw [e0,e1]);clear hc0 hcc hx hxi e0 e1;have hsz:=hr.out.2.below.size;have HTK:=Lh (zr2 tx HXI.out);have HST:=Lh (zH7 tx HXI.out);generalize x.dirs.length=n0 at k0 k1 HE;have HB1:Hid (Wr B b w (wr.alloc (.cells #[.string x.name,.slice A1 n0 c1] 48 (0,0)))):=Lh (hr.out.2.alloc HBB.out _);have HX1:Hid (MemR (wr.alloc (.cells #[.string x.name,.slice A1 n0 c1] 48 (0,0))) B (V i) x):=Lh (MemR.stays.kept HX.out ((Below.refl B wr).alloc (by omega) _));have HPR:=Lh (hr.out.1.alloc (.cells #[.string x.name,.slice A1 n0 c1] 48 (0,0)));have HK1:=Lh (Bk.new wr #[.string x.name,.slice A1 n0 c1] 48);have hbw:=hr.out.1.lt;clear hr;go_wp2_with fail;refine (put1 _ B b _ _ _ (by simp) HPR.out (by have h1:=HST.out; have h2:=HLL.out; (try simp only [za8,List.length_append,List.length_cons,List.length_nil,za5,za3] at h1 h2 ⊢); omega) (Nat.le_trans HBB.out HB1.out.below.size)).mono ?_
   rintro e w4 ⟨rfl,hp4,hw4⟩;have HP4:=Lh hp4;have HW4:=Lh (HB1.out.trans hw4);have HX4:Hid (MemR w4 B (V i) x):=Lh (MemR.stays.kept HX1.out hw4.below);have hK4:Bk w4 wr.heap.size #[.string x.name,.slice A1 n0 c1] 48 := HK1.out.wr hw4 (by omega) (by decide);obtain ⟨y0,y1⟩:=hK4.c2;clear hp4 hw4 hK4 k0 k1;have CALL:=Lh (HF1.out (V i) _ HX4.out _ HP4.out (HL.out.kept HW4.out.below) (by have h1:=HST.out; have h2:=HLL.out; (try simp only [za8,List.length_append,List.length_cons,List.length_nil,za5,za3] at h1 h2 ⊢); omega) (Nat.le_trans HBB.out HW4.out.below.size));rw [HE.out] at CALL;go_wp2_with fail;refine CALL.out.mono ?_
   rintro e w5 ⟨rfl,hp5,hw5⟩;have HP5:=Lh hp5;have HW5:=Lh (HW4.out.trans hw5);clear hp5 hw5 CALL y0 y1;go_wp2_with fail;refine (put1 _ B b _ _ _ (by simp) HP5.out (by have h1:=HST.out; have h2:=HLL.out; (try simp only [za8,List.length_append,List.length_cons,List.length_nil,za5,za3] at h1 h2 ⊢); omega) (Nat.le_trans HBB.out HW5.out.below.size)).mono ?_
   rintro e w6 ⟨rfl,hp6,hw6⟩;have HP6:Hid (PB B b (l++zd2 ds++[32,123,10]++(((xs.take (i+1)).map tx).map zb6).flatten) w6):=Lh (by
    rw [HTK.out]; unfold zb6; (try simp only [List.append_assoc] at hp6); (try simp only [List.append_assoc]); exact hp6)
   have HW6:=Lh (HW5.out.trans hw6);clear hp6 hw6;go_wp2_with fail
   go_roundw
   case rel=>exact ⟨i+1,by omega,by go_num,Lh ⟨HP6.out,HW6.out⟩⟩
   case measure=>simp [intOf]; omega
  ·have:i=len:=by omega
   subst this;have HPF:Hid (PB B b (l++zd2 ds++[32,123,10]++((xs.map tx).map zb6).flatten) wr):=Lh (by have:=hr.out.1; rwa [List.take_of_length_le (by rw [HLEN.out]; exact Nat.le_refl _)] at this);have HWF:=Lh hr.out.2;clear hr;go_wp2_with fail;refine (put1 _ B b _ _ _ (by simp) HPF.out (by have h1:=HLL.out; (try simp only [za8,List.length_append,List.length_cons,List.length_nil,za5,za3] at h1 ⊢); omega) (Nat.le_trans HBB.out HWF.out.below.size)).mono ?_
   rintro e w7 ⟨rfl,hp7,hw7⟩;have HP7:=Lh hp7;have HW7:=Lh (HWF.out.trans hw7);clear hp7 hw7;go_wp2_with fail
   go_end0
   exact ⟨rfl,by have h1:=HP7.out; (try simp only [List.append_assoc] at h1); (try simp only [List.append_assoc]); exact h1,HW7.out⟩
end Go.Proofs.YtfgelheiknmjgaaGreatDoor

