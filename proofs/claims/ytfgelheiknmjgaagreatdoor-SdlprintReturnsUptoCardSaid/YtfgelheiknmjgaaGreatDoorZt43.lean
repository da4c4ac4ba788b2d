
/-
 Texts joined: N7Fld N7Inp N1Inp N1Def NS.
-/
import Derived.Test.YtfgelheiknmjgaaGreatDoorZt42
set_option maxRecDepth 1000000
set_option maxHeartbeats 8000000
namespace Go.Proofs.YtfgelheiknmjgaaGreatDoor
open Go.RowKit
theorem zF7 (B b:Nat) (hO:ValOk B b) (ds:List DirT) (hds:zk0 ds) (xs:List FldT) (tx:FldT->List UInt8) (hF:∀ x∈xs, ∀ (f:Nat->Value) (W:World),FldR W B f x->zg1 B b W 64 (.agg #[f 0,f 1,f 2,f 3,f 4]) (tx x))
  (u v:Value) (l:List UInt8) (w:World) (hd:DirsR w B u ds) (h:FldsR w B v xs) (hp:PB B b l w) (hL:LaidB B w) (hl:l.length+(zj7 ds (xs.map tx)).length<=140737488355328) (hB:B<=w.heap.size) :
  Calls Tryz.prog 63 #[pp b,u,v,.func (.func 64) #[pp b] #[]] w (PP B b l (zj7 ds (xs.map tx)) w):=by
 obtain ⟨A,c,rfl,hc,hbg,V,hA,hr⟩:=h;unfold big at hbg;obtain ⟨len,hlen⟩ : ∃ len,xs.length=len:=⟨_,rfl⟩;rw [hlen] at hA hbg ⊢;unfold zj7 at hl ⊢;have hlm:(len:Int)<=140737488351232:=by omega
 have HLEN:=Lh hlen;have HF:=Lh hF;have HA:=Lh hA;have HR:=Lh hr;have HL:=Lh hL;have HLL:=Lh hl;have HBB:=Lh hB;have HDS:=Lh hds;have CALLD:=Lh (zb8 B b hO ds hds u w hd l hp hL (by simp only [List.length_append] at hl; omega) hB);clear hlen hF hA hr hL hl hc hbg hds hd hp
 go_enter Tryz.func63, Tryz.ntmps63
 go_wp2_with fail
 refine CALLD.out.mono ?_
 rintro e w1 ⟨rfl,hp1,hw1⟩;have HP1:=Lh hp1;have HW1:=Lh hw1;clear hp1 hw1 CALLD;go_wp2_with fail;refine (put1 _ B b _ _ _ (by simp) HP1.out (by have h1:=HLL.out; (try simp only [za8,List.length_append,List.length_cons,List.length_nil,za5,za3] at h1 ⊢); omega) (Nat.le_trans HBB.out HW1.out.below.size)).mono ?_
 rintro e w2 ⟨rfl,hp2,hw2⟩;have HP2:=Lh hp2;have HW2:=Lh (HW1.out.trans hw2);clear hp2 hw2;go_wp2_with fail
 go_loopw [18] (fun u wr=>∃ i:Nat,i<=len/\u=.int .i64 i/\Hid (PB B b (l++zd2 ds++[32,123,10]++(((xs.take i).map tx).map zb6).flatten) wr/\Wr B b w wr)) (fun u _=>len-(intOf u).toNat)
 case atStart=>exact ⟨0,Nat.zero_le _,rfl,Lh ⟨by rw [List.take_zero,List.map_nil,List.map_nil,List.flatten_nil,List.append_nil]; exact HP2.out,HW2.out⟩⟩
 case round =>
  obtain ⟨i,hi,rfl,hr⟩:=hrel;by_cases hlt:i<len
  ·obtain ⟨x,hxi⟩ : ∃ x,xs[i]?=some x:=⟨_,List.getElem?_eq_getElem (by rw [HLEN.out]; exact hlt)⟩
   have hlt':(i:Int)<len:=by omega
   have HXI:=Lh hxi;have hx:FldR wr B (V i) x:=FldR.stays.kept (HR.out i x hxi) hr.out.2.below;have HF1:=Lh (HF.out x (List.mem_of_getElem? hxi));obtain ⟨a,rfl,ha,hc0⟩:=HA.out (by omega);have hcc:∀ j,j<5->wr.cell? (at_ (a.add (i*5)) j)=some (V i j):=fun j hj=>(hr.out.2.below.cell (by rw [zb5,za1]; exact ha)).trans (hc0 i hlt j hj);have k0:wr.cell? (a.add (i*5))=some (V i 0):=hcc 0 (by omega);have k1:wr.cell? ⟨((a.add (i*5))).block,((a.add (i*5))).off+1,none⟩=some (V i 1):=hcc 1 (by omega);have k2:wr.cell? ⟨((a.add (i*5))).block,((a.add (i*5))).off+2,none⟩=some (V i 2):=hcc 2 (by omega);have k3:wr.cell? ⟨((a.add (i*5))).block,((a.add (i*5))).off+3,none⟩=some (V i 3):=hcc 3 (by omega);have k4:wr.cell? ⟨((a.add (i*5))).block,((a.add (i*5))).off+4,none⟩=some (V i 4):=hcc 4 (by omega);obtain ⟨A1,c1,e1,_,_⟩:=hx.args.form;obtain ⟨A3,c3,e3,_,_⟩:=hx.type.wraps.form;obtain ⟨A4,c4,e4,_,_⟩:=hx.dirs.form;have e0:=hx.name;have e2:=hx.type.name;rw [e0] at k0;rw [e1] at k1;rw [e2] at k2;rw [e3] at k3;rw [e4] at k4;have HX:=Lh hx;have HE:Hid (#[V i 0,V i 1,V i 2,V i 3,V i 4]=#[.string x.name,.slice A1 x.args.length c1,.string x.tn,.slice A3 x.tw.length c3,.slice A4 x.dirs.length c4]):=Lh (by rw [e0,e1,e2,e3,e4]);clear hc0 hcc hx hxi e0 e1 e2 e3 e4;have hsz:=hr.out.2.below.size;have HTK:=Lh (zr2 tx HXI.out);have HST:=Lh (zH7 tx HXI.out);generalize x.args.length=n0 at k0 k1 k2 k3 k4 HE;generalize x.tw.length=n1 at k0 k1 k2 k3 k4 HE;generalize x.dirs.length=n2 at k0 k1 k2 k3 k4 HE;have HB1:Hid (Wr B b w (wr.alloc (.cells #[.string x.name,.slice A1 n0 c1,.string x.tn,.slice A3 n1 c3,.slice A4 n2 c4] 46 (0,0)))):=Lh (hr.out.2.alloc HBB.out _);have HX1:Hid (FldR (wr.alloc (.cells #[.string x.name,.slice A1 n0 c1,.string x.tn,.slice A3 n1 c3,.slice A4 n2 c4] 46 (0,0))) B (V i) x):=Lh (FldR.stays.kept HX.out ((Below.refl B wr).alloc (by omega) _));have HPR:=Lh (hr.out.1.alloc (.cells #[.string x.name,.slice A1 n0 c1,.string x.tn,.slice A3 n1 c3,.slice A4 n2 c4] 46 (0,0)));have HK1:=Lh (Bk.new wr #[.string x.name,.slice A1 n0 c1,.string x.tn,.slice A3 n1 c3,.slice A4 n2 c4] 46);have hbw:=hr.out.1.lt;clear hr;go_wp2_with fail;refine (put1 _ B b _ _ _ (by simp) HPR.out (by have h1:=HST.out; have h2:=HLL.out; (try simp only [za8,List.length_append,List.length_cons,List.length_nil,za5,za3] at h1 h2 ⊢); omega) (Nat.le_trans HBB.out HB1.out.below.size)).mono ?_
   rintro e w4 ⟨rfl,hp4,hw4⟩;have HP4:=Lh hp4;have HW4:=Lh (HB1.out.trans hw4);have HX4:Hid (FldR w4 B (V i) x):=Lh (FldR.stays.kept HX1.out hw4.below);have hK4:Bk w4 wr.heap.size #[.string x.name,.slice A1 n0 c1,.string x.tn,.slice A3 n1 c3,.slice A4 n2 c4] 46 := HK1.out.wr hw4 (by omega) (by decide);obtain ⟨y0,y1,y2,y3,y4⟩:=hK4.c5;clear hp4 hw4 hK4 k0 k1 k2 k3 k4;have CALL:=Lh (HF1.out (V i) _ HX4.out _ HP4.out (HL.out.kept HW4.out.below) (by have h1:=HST.out; have h2:=HLL.out; (try simp only [za8,List.length_append,List.length_cons,List.length_nil,za5,za3] at h1 h2 ⊢); omega) (Nat.le_trans HBB.out HW4.out.below.size));rw [HE.out] at CALL;go_wp2_with fail;refine CALL.out.mono ?_
   rintro e w5 ⟨rfl,hp5,hw5⟩;have HP5:=Lh hp5;have HW5:=Lh (HW4.out.trans hw5);clear hp5 hw5 CALL y0 y1 y2 y3 y4;go_wp2_with fail;refine (put1 _ B b _ _ _ (by simp) HP5.out (by have h1:=HST.out; have h2:=HLL.out; (try simp only [za8,List.length_append,List.length_cons,List.length_nil,za5,za3] at h1 h2 ⊢); omega) (Nat.le_trans HBB.out HW5.out.below.size)).mono ?_
   rintro e w6 ⟨rfl,hp6,hw6⟩;have HP6:Hid (PB B b (l++zd2 ds++[32,123,10]++(((xs.take (i+1)).map tx).map zb6).flatten) w6):=Lh (by
    rw [HTK.out]; unfold zb6; (try simp only [List.append_assoc] at hp6); (try simp only [List.append_assoc]); exact hp6)
   have HW6:=Lh (HW5.out.trans hw6);clear hp6 hw6;go_wp2_with fail
   go_roundw
   case rel=>exact ⟨i+1,by omega,by go_num,Lh ⟨HP6.out,HW6.out⟩⟩
   case measure=>simp [intOf]; omega
  ·have:i=len:=by omega
   subst this;have HPF:Hid (PB B b (l++zd2 ds++[32,123,10]++((xs.map tx).map zb6).flatten) wr):=Lh (by have:=hr.out.1; rwa [List.take_of_length_le (by rw [HLEN.out]; exact Nat.le_refl _)] at this);have HWF:=Lh hr.out.2;clear hr;go_wp2_with fail;refine (put1 _ B b _ _ _ (by simp) HPF.out (by have h1:=HLL.out; (try simp only [za8,List.length_append,List.length_cons,List.length_nil,za5,za3] at h1 ⊢); omega) (Nat.le_trans HBB.out HWF.out.below.size)).mono ?_
   rintro e w7 ⟨rfl,hp7,hw7⟩;have HP7:=Lh hp7;have HW7:=Lh (HWF.out.trans hw7);clear hp7 hw7;go_wp2_with fail
   go_end0
   exact ⟨rfl,by have h1:=HP7.out; (try simp only [List.append_assoc] at h1); (try simp only [List.append_assoc]); exact h1,HW7.out⟩
theorem yb8 (B b:Nat) (hO:ValOk B b) (ds:List DirT) (hds:zk0 ds) (xs:List InpT) (tx:InpT->List UInt8) (hF:∀ x∈xs, ∀ (f:Nat->Value) (W:World),InpR W B f x->zg1 B b W 69 (.agg #[f 0,f 1,f 2,f 3,f 4,f 5,f 6,f 7,f 8,f 9]) (tx x))
  (u v:Value) (l:List UInt8) (w:World) (hd:DirsR w B u ds) (h:InpsR w B v xs) (hp:PB B b l w) (hL:LaidB B w) (hl:l.length+(zj7 ds (xs.map tx)).length<=140737488355328) (hB:B<=w.heap.size) :
  Calls Tryz.prog 68 #[pp b,u,v,.func (.func 69) #[pp b] #[]] w (PP B b l (zj7 ds (xs.map tx)) w):=by
 obtain ⟨A,c,rfl,hc,hbg,V,hA,hr⟩:=h;unfold big at hbg;obtain ⟨len,hlen⟩ : ∃ len,xs.length=len:=⟨_,rfl⟩;rw [hlen] at hA hbg ⊢;unfold zj7 at hl ⊢;have hlm:(len:Int)<=140737488351232:=by omega
 have HLEN:=Lh hlen;have HF:=Lh hF;have HA:=Lh hA;have HR:=Lh hr;have HL:=Lh hL;have HLL:=Lh hl;have HBB:=Lh hB;have HDS:=Lh hds;have CALLD:=Lh (zb8 B b hO ds hds u w hd l hp hL (by simp only [List.length_append] at hl; omega) hB);clear hlen hF hA hr hL hl hc hbg hds hd hp
 go_enter Tryz.func68, Tryz.ntmps68
 go_wp2_with fail
 refine CALLD.out.mono ?_
 rintro e w1 ⟨rfl,hp1,hw1⟩;have HP1:=Lh hp1;have HW1:=Lh hw1;clear hp1 hw1 CALLD;go_wp2_with fail;refine (put1 _ B b _ _ _ (by simp) HP1.out (by have h1:=HLL.out; (try simp only [za8,List.length_append,List.length_cons,List.length_nil,za5,za3] at h1 ⊢); omega) (Nat.le_trans HBB.out HW1.out.below.size)).mono ?_
 rintro e w2 ⟨rfl,hp2,hw2⟩;have HP2:=Lh hp2;have HW2:=Lh (HW1.out.trans hw2);clear hp2 hw2;go_wp2_with fail
 go_loopw [18] (fun u wr=>∃ i:Nat,i<=len/\u=.int .i64 i/\Hid (PB B b (l++zd2 ds++[32,123,10]++(((xs.take i).map tx).map zb6).flatten) wr/\Wr B b w wr)) (fun u _=>len-(intOf u).toNat)
 case atStart=>exact ⟨0,Nat.zero_le _,rfl,Lh ⟨by rw [List.take_zero,List.map_nil,List.map_nil,List.flatten_nil,List.append_nil]; exact HP2.out,HW2.out⟩⟩
 case round =>
  obtain ⟨i,hi,rfl,hr⟩:=hrel;by_cases hlt:i<len
  ·obtain ⟨x,hxi⟩ : ∃ x,xs[i]?=some x:=⟨_,List.getElem?_eq_getElem (by rw [HLEN.out]; exact hlt)⟩
   have hlt':(i:Int)<len:=by omega
   have HXI:=Lh hxi;have hx:InpR wr B (V i) x:=InpR.stays.kept (HR.out i x hxi) hr.out.2.below;have HF1:=Lh (HF.out x (List.mem_of_getElem? hxi));obtain ⟨a,rfl,ha,hc0⟩:=HA.out (by omega);have hcc:∀ j,j<10->wr.cell? (at_ (a.add (i*10)) j)=some (V i j):=fun j hj=>(hr.out.2.below.cell (by rw [zb5,za1]; exact ha)).trans (hc0 i hlt j hj);have k0:wr.cell? (a.add (i*10))=some (V i 0):=hcc 0 (by omega);have k1:wr.cell? ⟨((a.add (i*10))).block,((a.add (i*10))).off+1,none⟩=some (V i 1):=hcc 1 (by omega);have k2:wr.cell? ⟨((a.add (i*10))).block,((a.add (i*10))).off+2,none⟩=some (V i 2):=hcc 2 (by omega);have k3:wr.cell? ⟨((a.add (i*10))).block,((a.add (i*10))).off+3,none⟩=some (V i 3):=hcc 3 (by omega);have k4:wr.cell? ⟨((a.add (i*10))).block,((a.add (i*10))).off+4,none⟩=some (V i 4):=hcc 4 (by omega);have k5:wr.cell? ⟨((a.add (i*10))).block,((a.add (i*10))).off+5,none⟩=some (V i 5):=hcc 5 (by omega);have k6:wr.cell? ⟨((a.add (i*10))).block,((a.add (i*10))).off+6,none⟩=some (V i 6):=hcc 6 (by omega);have k7:wr.cell? ⟨((a.add (i*10))).block,((a.add (i*10))).off+7,none⟩=some (V i 7):=hcc 7 (by omega);have k8:wr.cell? ⟨((a.add (i*10))).block,((a.add (i*10))).off+8,none⟩=some (V i 8):=hcc 8 (by omega);have k9:wr.cell? ⟨((a.add (i*10))).block,((a.add (i*10))).off+9,none⟩=some (V i 9):=hcc 9 (by omega);obtain ⟨k,n,s,VA,vli,vci,VK,vlk,vck,e4,e5,e6,e7,e8⟩:=Rd.form hx.val;obtain ⟨A2,c2,e2,_,_⟩:=hx.type.wraps.form;obtain ⟨A9,c9,e9,_,_⟩:=hx.dirs.form;have e0:=hx.name;have e1:=hx.type.name;have e3:=hx.has;rw [e0] at k0;rw [e1] at k1;rw [e2] at k2;rw [e3] at k3;rw [e4] at k4;rw [e5] at k5;rw [e6] at k6;rw [e7] at k7;rw [e8] at k8;rw [e9] at k9;have HX:=Lh hx;have HE:Hid (#[V i 0,V i 1,V i 2,V i 3,V i 4,V i 5,V i 6,V i 7,V i 8,V i 9]=#[.string x.name,.string x.tn,.slice A2 x.tw.length c2,.bool x.has,.int .i64 k,.int .i64 n,.string s,.slice VA vli vci,.slice VK vlk vck,.slice A9 x.dirs.length c9]):=Lh (by rw [e0,e1,e2,e3,e4,e5,e6,e7,e8,e9]);clear hc0 hcc hx hxi e0 e1 e2 e3 e4 e5 e6 e7 e8 e9;have hsz:=hr.out.2.below.size;have HTK:=Lh (zr2 tx HXI.out);have HST:=Lh (zH7 tx HXI.out);generalize x.tw.length=n0 at k0 k1 k2 k3 k4 k5 k6 k7 k8 k9 HE;generalize x.dirs.length=n1 at k0 k1 k2 k3 k4 k5 k6 k7 k8 k9 HE;have HB1:Hid (Wr B b w (wr.alloc (.cells #[.string x.name,.string x.tn,.slice A2 n0 c2,.bool x.has,.int .i64 k,.int .i64 n,.string s,.slice VA vli vci,.slice VK vlk vck,.slice A9 n1 c9] 55 (0,0)))):=Lh (hr.out.2.alloc HBB.out _);have HX1:Hid (InpR (wr.alloc (.cells #[.string x.name,.string x.tn,.slice A2 n0 c2,.bool x.has,.int .i64 k,.int .i64 n,.string s,.slice VA vli vci,.slice VK vlk vck,.slice A9 n1 c9] 55 (0,0))) B (V i) x):=Lh (InpR.stays.kept HX.out ((Below.refl B wr).alloc (by omega) _));have HPR:=Lh (hr.out.1.alloc (.cells #[.string x.name,.string x.tn,.slice A2 n0 c2,.bool x.has,.int .i64 k,.int .i64 n,.string s,.slice VA vli vci,.slice VK vlk vck,.slice A9 n1 c9] 55 (0,0)));have HK1:=Lh (Bk.new wr #[.string x.name,.string x.tn,.slice A2 n0 c2,.bool x.has,.int .i64 k,.int .i64 n,.string s,.slice VA vli vci,.slice VK vlk vck,.slice A9 n1 c9] 55);have hbw:=hr.out.1.lt;clear hr;go_wp2_with fail;refine (put1 _ B b _ _ _ (by simp) HPR.out (by have h1:=HST.out; have h2:=HLL.out; (try simp only [za8,List.length_append,List.length_cons,List.length_nil,za5,za3] at h1 h2 ⊢); omega) (Nat.le_trans HBB.out HB1.out.below.size)).mono ?_
   rintro e w4 ⟨rfl,hp4,hw4⟩;have HP4:=Lh hp4;have HW4:=Lh (HB1.out.trans hw4);have HX4:Hid (InpR w4 B (V i) x):=Lh (InpR.stays.kept HX1.out hw4.below);have hK4:Bk w4 wr.heap.size #[.string x.name,.string x.tn,.slice A2 n0 c2,.bool x.has,.int .i64 k,.int .i64 n,.string s,.slice VA vli vci,.slice VK vlk vck,.slice A9 n1 c9] 55 := HK1.out.wr hw4 (by omega) (by decide);obtain ⟨y0,y1,y2,y3,y4,y5,y6,y7,y8,y9⟩:=hK4.c10;clear hp4 hw4 hK4 k0 k1 k2 k3 k4 k5 k6 k7 k8 k9;have CALL:=Lh (HF1.out (V i) _ HX4.out _ HP4.out (HL.out.kept HW4.out.below) (by have h1:=HST.out; have h2:=HLL.out; (try simp only [za8,List.length_append,List.length_cons,List.length_nil,za5,za3] at h1 h2 ⊢); omega) (Nat.le_trans HBB.out HW4.out.below.size));rw [HE.out] at CALL;go_wp2_with fail;refine CALL.out.mono ?_
   rintro e w5 ⟨rfl,hp5,hw5⟩;have HP5:=Lh hp5;have HW5:=Lh (HW4.out.trans hw5);clear hp5 hw5 CALL y0 y1 y2 y3 y4 y5 y6 y7 y8 y9;go_wp2_with fail;refine (put1 _ B b _ _ _ (by simp) HP5.out (by have h1:=HST.out; have h2:=HLL.out; (try simp only [za8,List.length_append,List.length_cons,List.length_nil,za5,za3] at h1 h2 ⊢); omega) (Nat.le_trans HBB.out HW5.out.below.size)).mono ?_
   rintro e w6 ⟨rfl,hp6,hw6⟩;have HP6:Hid (PB B b (l++zd2 ds++[32,123,10]++(((xs.take (i+1)).map tx).map zb6).flatten) w6):=Lh (by
    rw [HTK.out]; unfold zb6; (try simp only [List.append_assoc] at hp6); (try simp only [List.append_assoc]); exact hp6)
   have HW6:=Lh (HW5.out.trans hw6);clear hp6 hw6;go_wp2_with fail
   go_roundw
   case rel=>exact ⟨i+1,by omega,by go_num,Lh ⟨HP6.out,HW6.out⟩⟩
   case measure=>simp [intOf]; omega
  ·have:i=len:=by omega
   subst this;have HPF:Hid (PB B b (l++zd2 ds++[32,123,10]++((xs.map tx).map zb6).flatten) wr):=Lh (by have:=hr.out.1; rwa [List.take_of_length_le (by rw [HLEN.out]; exact Nat.le_refl _)] at this);have HWF:=Lh hr.out.2;clear hr;go_wp2_with fail;refine (put1 _ B b _ _ _ (by simp) HPF.out (by have h1:=HLL.out; (try simp only [za8,List.length_append,List.length_cons,List.length_nil,za5,za3] at h1 ⊢); omega) (Nat.le_trans HBB.out HWF.out.below.size)).mono ?_
   rintro e w7 ⟨rfl,hp7,hw7⟩;have HP7:=Lh hp7;have HW7:=Lh (HWF.out.trans hw7);clear hp7 hw7;go_wp2_with fail
   go_end0
   exact ⟨rfl,by have h1:=HP7.out; (try simp only [List.append_assoc] at h1); (try simp only [List.append_assoc]); exact h1,HW7.out⟩
theorem zY3 (B b:Nat) (xs:List InpT) (tx:InpT->List UInt8) (hF:∀ x∈xs, ∀ (f:Nat->Value) (W:World),InpR W B f x->zg1 B b W 69 (.agg #[f 0,f 1,f 2,f 3,f 4,f 5,f 6,f 7,f 8,f 9]) (tx x))
  (sep:ByteArray) (v:Value) (l:List UInt8) (w:World) (h:InpsR w B v xs) (hp:PB B b l w) (hL:LaidB B w) (hl:l.length+(jn (bL sep) (xs.map tx)).length<=140737488355328) (hB:B<=w.heap.size) :
  Calls Tryz.prog 132 #[pp b,v,.string sep,.func (.func 69) #[pp b] #[]] w (PP B b l (jn (bL sep) (xs.map tx)) w):=by
 obtain ⟨A,c,rfl,hc,hbg,V,hA,hr⟩:=h;unfold big at hbg;obtain ⟨len,hlen⟩ : ∃ len,xs.length=len:=⟨_,rfl⟩;rw [hlen] at hA hbg ⊢;have hlm:(len:Int)<=140737488351232:=by omega
 have HLEN:=Lh hlen;have HF:=Lh hF;have HA:=Lh hA;have HR:=Lh hr;have HP:=Lh hp;have HL:=Lh hL;have HLL:=Lh hl;have HBB:=Lh hB;clear hlen hF hA hr hp hL hl hc hbg
 go_enter Tryz.func132, Tryz.ntmps132
 go_wp2_with fail
 go_loopw [12] (fun u wr=>∃ i:Nat,i<=len/\u=.int .i64 i/\Hid (PB B b (l++jn (bL sep) ((xs.take i).map tx)) wr/\Wr B b w wr)) (fun u _=>len-(intOf u).toNat)
 case atStart=>exact ⟨0,Nat.zero_le _,rfl,Lh ⟨by simpa [jn] using HP.out,Wr.refl _ _ _⟩⟩
 case round =>
  obtain ⟨i,hi,rfl,hr⟩:=hrel;by_cases hlt:i<len
  ·obtain ⟨x,hxi⟩ : ∃ x,xs[i]?=some x:=⟨_,List.getElem?_eq_getElem (by rw [HLEN.out]; exact hlt)⟩
   have hlt':(i:Int)<len:=by omega
   have HXI:=Lh hxi;have hx:InpR wr B (V i) x:=InpR.stays.kept (HR.out i x hxi) hr.out.2.below;have HF1:=Lh (HF.out x (List.mem_of_getElem? hxi));obtain ⟨a,rfl,ha,hc0⟩:=HA.out (by omega);have hcc:∀ j,j<10->wr.cell? (at_ (a.add (i*10)) j)=some (V i j):=fun j hj=>(hr.out.2.below.cell (by rw [zb5,za1]; exact ha)).trans (hc0 i hlt j hj);have k0:wr.cell? (a.add (i*10))=some (V i 0):=hcc 0 (by omega);have k1:wr.cell? ⟨((a.add (i*10))).block,((a.add (i*10))).off+1,none⟩=some (V i 1):=hcc 1 (by omega);have k2:wr.cell? ⟨((a.add (i*10))).block,((a.add (i*10))).off+2,none⟩=some (V i 2):=hcc 2 (by omega);have k3:wr.cell? ⟨((a.add (i*10))).block,((a.add (i*10))).off+3,none⟩=some (V i 3):=hcc 3 (by omega);have k4:wr.cell? ⟨((a.add (i*10))).block,((a.add (i*10))).off+4,none⟩=some (V i 4):=hcc 4 (by omega);have k5:wr.cell? ⟨((a.add (i*10))).block,((a.add (i*10))).off+5,none⟩=some (V i 5):=hcc 5 (by omega);have k6:wr.cell? ⟨((a.add (i*10))).block,((a.add (i*10))).off+6,none⟩=some (V i 6):=hcc 6 (by omega);have k7:wr.cell? ⟨((a.add (i*10))).block,((a.add (i*10))).off+7,none⟩=some (V i 7):=hcc 7 (by omega);have k8:wr.cell? ⟨((a.add (i*10))).block,((a.add (i*10))).off+8,none⟩=some (V i 8):=hcc 8 (by omega);have k9:wr.cell? ⟨((a.add (i*10))).block,((a.add (i*10))).off+9,none⟩=some (V i 9):=hcc 9 (by omega);obtain ⟨k,n,s,VA,vli,vci,VK,vlk,vck,e4,e5,e6,e7,e8⟩:=Rd.form hx.val;obtain ⟨A2,c2,e2,_,_⟩:=hx.type.wraps.form;obtain ⟨A9,c9,e9,_,_⟩:=hx.dirs.form;have e0:=hx.name;have e1:=hx.type.name;have e3:=hx.has;rw [e0] at k0;rw [e1] at k1;rw [e2] at k2;rw [e3] at k3;rw [e4] at k4;rw [e5] at k5;rw [e6] at k6;rw [e7] at k7;rw [e8] at k8;rw [e9] at k9;have HX:=Lh hx;have HE:Hid (#[V i 0,V i 1,V i 2,V i 3,V i 4,V i 5,V i 6,V i 7,V i 8,V i 9]=#[.string x.name,.string x.tn,.slice A2 x.tw.length c2,.bool x.has,.int .i64 k,.int .i64 n,.string s,.slice VA vli vci,.slice VK vlk vck,.slice A9 x.dirs.length c9]):=Lh (by rw [e0,e1,e2,e3,e4,e5,e6,e7,e8,e9]);clear hc0 hcc hx hxi e0 e1 e2 e3 e4 e5 e6 e7 e8 e9;have hsz:=hr.out.2.below.size;have HT:Hid ((xs.map tx)[i]?=some (tx x)):=Lh (by rw [List.getElem?_map,HXI.out]; rfl);have HST:=Lh (zh1 (bL sep) HT.out);have HTK:Hid (jn (bL sep) ((xs.take (i+1)).map tx)=jn (bL sep) ((xs.take i).map tx)++((if i=0 then [] else bL sep)++tx x)):=Lh (by
    rw [List.map_take,List.map_take]; exact zp8 (bL sep) HT.out)
   have HMT:Hid ((xs.map tx).take i=(xs.take i).map tx):=Lh (by rw [List.map_take]);generalize x.tw.length=n0 at k0 k1 k2 k3 k4 k5 k6 k7 k8 k9 HE;generalize x.dirs.length=n1 at k0 k1 k2 k3 k4 k5 k6 k7 k8 k9 HE;have HB1:Hid (Wr B b w (wr.alloc (.cells #[.string x.name,.string x.tn,.slice A2 n0 c2,.bool x.has,.int .i64 k,.int .i64 n,.string s,.slice VA vli vci,.slice VK vlk vck,.slice A9 n1 c9] 55 (0,0)))):=Lh (hr.out.2.alloc HBB.out _);have HX1:Hid (InpR (wr.alloc (.cells #[.string x.name,.string x.tn,.slice A2 n0 c2,.bool x.has,.int .i64 k,.int .i64 n,.string s,.slice VA vli vci,.slice VK vlk vck,.slice A9 n1 c9] 55 (0,0))) B (V i) x):=Lh (InpR.stays.kept HX.out ((Below.refl B wr).alloc (by omega) _));have HP1:=Lh (hr.out.1.alloc (.cells #[.string x.name,.string x.tn,.slice A2 n0 c2,.bool x.has,.int .i64 k,.int .i64 n,.string s,.slice VA vli vci,.slice VK vlk vck,.slice A9 n1 c9] 55 (0,0)));have HK1:=Lh (Bk.new wr #[.string x.name,.string x.tn,.slice A2 n0 c2,.bool x.has,.int .i64 k,.int .i64 n,.string s,.slice VA vli vci,.slice VK vlk vck,.slice A9 n1 c9] 55);have hbw:=hr.out.1.lt;by_cases hi0:i=0
   ·have hi0':¬ (i:Int) > 0:=by omega
    have HI0:=Lh hi0;have CALL:=Lh (HF1.out (V i) _ HX1.out _ HP1.out (HL.out.kept HB1.out.below) (by
     have h1:=HST.out; rw [HMT.out,if_pos HI0.out] at h1; have h2:=HLL.out; simp only [List.length_append,List.length_nil] at h1 ⊢; omega) (Nat.le_trans HBB.out HB1.out.below.size))
    rw [HE.out] at CALL;clear hi0;go_wp2_with fail;refine CALL.out.mono ?_
    rintro e w5 ⟨rfl,hp5,hw5⟩;have HP5:Hid (PB B b (l++jn (bL sep) ((xs.take (i+1)).map tx)) w5):=Lh (by rw [HTK.out,if_pos HI0.out,List.nil_append, <- List.append_assoc]; exact hp5);have HW5:=Lh (HB1.out.trans hw5);clear hp5 hw5 CALL;go_wp2_with fail
    go_roundw
    case rel=>exact ⟨i+1,by omega,by go_num,Lh ⟨HP5.out,HW5.out⟩⟩
    case measure=>simp [intOf]; omega
   ·have hi0':(i:Int) > 0:=by omega
    have HI0:=Lh hi0;clear hi0;go_wp2_with fail;refine (put1 sep B b _ _ _ (by simp) HP1.out (by
     have h1:=HST.out; rw [HMT.out,if_neg HI0.out] at h1; have h2:=HLL.out; simp only [List.length_append,za5] at h1 h2 ⊢; omega) (Nat.le_trans HBB.out HB1.out.below.size)).mono ?_
    rintro e w4 ⟨rfl,hp4,hw4⟩;have HP4:=Lh hp4;have HW4:=Lh (HB1.out.trans hw4);have HX4:Hid (InpR w4 B (V i) x):=Lh (InpR.stays.kept HX1.out hw4.below);have hK4:Bk w4 wr.heap.size #[.string x.name,.string x.tn,.slice A2 n0 c2,.bool x.has,.int .i64 k,.int .i64 n,.string s,.slice VA vli vci,.slice VK vlk vck,.slice A9 n1 c9] 55 := HK1.out.wr hw4 (by omega) (by decide);obtain ⟨y0,y1,y2,y3,y4,y5,y6,y7,y8,y9⟩:=hK4.c10;clear hp4 hw4 hK4 k0 k1 k2 k3 k4 k5 k6 k7 k8 k9;have CALL:=Lh (HF1.out (V i) _ HX4.out _ HP4.out (HL.out.kept HW4.out.below) (by
     have h1:=HST.out; rw [HMT.out,if_neg HI0.out] at h1; have h2:=HLL.out; simp only [List.length_append] at h1 ⊢; omega) (Nat.le_trans HBB.out HW4.out.below.size))
    rw [HE.out] at CALL;go_wp2_with fail;refine CALL.out.mono ?_
    rintro e w5 ⟨rfl,hp5,hw5⟩;have HP5:Hid (PB B b (l++jn (bL sep) ((xs.take (i+1)).map tx)) w5):=Lh (by rw [HTK.out,if_neg HI0.out]; simpa only [List.append_assoc] using hp5);have HW5:=Lh (HW4.out.trans hw5);clear hp5 hw5 CALL y0 y1 y2 y3 y4 y5 y6 y7 y8 y9;go_wp2_with fail
    go_roundw
    case rel=>exact ⟨i+1,by omega,by go_num,Lh ⟨HP5.out,HW5.out⟩⟩
    case measure=>simp [intOf]; omega
  ·have:i=len:=by omega
   subst this;have HF:Hid (PB B b (l++jn (bL sep) (xs.map tx)) wr):=Lh (by have:=hr.out.1; rwa [List.take_of_length_le (by rw [HLEN.out]; exact Nat.le_refl _)] at this);go_wp2_with fail
   go_end0
   exact ⟨rfl,HF.out,hr.out.2⟩
theorem zY6 (B b:Nat) (xs:List DefT) (tx:DefT->List UInt8) (hF:∀ x∈xs, ∀ (f:Nat->Value) (W:World),DefR W B f x->zg1 B b W 33 (.agg #[f 0,f 1,f 2,f 3,f 4,f 5,f 6]) (tx x))
  (sep:ByteArray) (v:Value) (l:List UInt8) (w:World) (h:DefsR w B v xs) (hp:PB B b l w) (hL:LaidB B w) (hl:l.length+(jn (bL sep) (xs.map tx)).length<=140737488355328) (hB:B<=w.heap.size) :
  Calls Tryz.prog 32 #[pp b,v,.string sep,.func (.func 33) #[pp b] #[]] w (PP B b l (jn (bL sep) (xs.map tx)) w):=by
 obtain ⟨A,c,rfl,hc,hbg,V,hA,hr⟩:=h;unfold big at hbg;obtain ⟨len,hlen⟩ : ∃ len,xs.length=len:=⟨_,rfl⟩;rw [hlen] at hA hbg ⊢;have hlm:(len:Int)<=140737488351232:=by omega
 have HLEN:=Lh hlen;have HF:=Lh hF;have HA:=Lh hA;have HR:=Lh hr;have HP:=Lh hp;have HL:=Lh hL;have HLL:=Lh hl;have HBB:=Lh hB;clear hlen hF hA hr hp hL hl hc hbg
 go_enter Tryz.func32, Tryz.ntmps32
 go_wp2_with fail
 go_loopw [12] (fun u wr=>∃ i:Nat,i<=len/\u=.int .i64 i/\Hid (PB B b (l++jn (bL sep) ((xs.take i).map tx)) wr/\Wr B b w wr)) (fun u _=>len-(intOf u).toNat)
 case atStart=>exact ⟨0,Nat.zero_le _,rfl,Lh ⟨by simpa [jn] using HP.out,Wr.refl _ _ _⟩⟩
 case round =>
  obtain ⟨i,hi,rfl,hr⟩:=hrel;by_cases hlt:i<len
  ·obtain ⟨x,hxi⟩ : ∃ x,xs[i]?=some x:=⟨_,List.getElem?_eq_getElem (by rw [HLEN.out]; exact hlt)⟩
   have hlt':(i:Int)<len:=by omega
   have HXI:=Lh hxi;have hx:DefR wr B (V i) x:=DefR.stays.kept (HR.out i x hxi) hr.out.2.below;have HF1:=Lh (HF.out x (List.mem_of_getElem? hxi));obtain ⟨a,rfl,ha,hc0⟩:=HA.out (by omega);have hcc:∀ j,j<7->wr.cell? (at_ (a.add (i*7)) j)=some (V i j):=fun j hj=>(hr.out.2.below.cell (by rw [zb5,za1]; exact ha)).trans (hc0 i hlt j hj);have k0:wr.cell? (a.add (i*7))=some (V i 0):=hcc 0 (by omega);have k1:wr.cell? ⟨((a.add (i*7))).block,((a.add (i*7))).off+1,none⟩=some (V i 1):=hcc 1 (by omega);have k2:wr.cell? ⟨((a.add (i*7))).block,((a.add (i*7))).off+2,none⟩=some (V i 2):=hcc 2 (by omega);have k3:wr.cell? ⟨((a.add (i*7))).block,((a.add (i*7))).off+3,none⟩=some (V i 3):=hcc 3 (by omega);have k4:wr.cell? ⟨((a.add (i*7))).block,((a.add (i*7))).off+4,none⟩=some (V i 4):=hcc 4 (by omega);have k5:wr.cell? ⟨((a.add (i*7))).block,((a.add (i*7))).off+5,none⟩=some (V i 5):=hcc 5 (by omega);have k6:wr.cell? ⟨((a.add (i*7))).block,((a.add (i*7))).off+6,none⟩=some (V i 6):=hcc 6 (by omega);obtain ⟨A2,c2,e2,_,_⟩:=hx.impl.form;obtain ⟨A3,c3,e3,_,_⟩:=hx.dirs.form;obtain ⟨A4,c4,e4,_,_⟩:=hx.fields.form;obtain ⟨A5,c5,e5,_,_⟩:=hx.members.form;obtain ⟨A6,c6,e6,_,_⟩:=hx.inputs.form;have e0:=hx.kind;have e1:=hx.name;rw [e0] at k0;rw [e1] at k1;rw [e2] at k2;rw [e3] at k3;rw [e4] at k4;rw [e5] at k5;rw [e6] at k6;have HX:=Lh hx;have HE:Hid (#[V i 0,V i 1,V i 2,V i 3,V i 4,V i 5,V i 6]=#[.int .i64 x.kind,.string x.name,.slice A2 x.impl.length c2,.slice A3 x.dirs.length c3,.slice A4 x.fields.length c4,.slice A5 x.members.length c5,.slice A6 x.inputs.length c6]):=Lh (by rw [e0,e1,e2,e3,e4,e5,e6]);clear hc0 hcc hx hxi e0 e1 e2 e3 e4 e5 e6;have hsz:=hr.out.2.below.size;have HT:Hid ((xs.map tx)[i]?=some (tx x)):=Lh (by rw [List.getElem?_map,HXI.out]; rfl);have HST:=Lh (zh1 (bL sep) HT.out);have HTK:Hid (jn (bL sep) ((xs.take (i+1)).map tx)=jn (bL sep) ((xs.take i).map tx)++((if i=0 then [] else bL sep)++tx x)):=Lh (by
    rw [List.map_take,List.map_take]; exact zp8 (bL sep) HT.out)
   have HMT:Hid ((xs.map tx).take i=(xs.take i).map tx):=Lh (by rw [List.map_take]);generalize x.impl.length=n0 at k0 k1 k2 k3 k4 k5 k6 HE;generalize x.dirs.length=n1 at k0 k1 k2 k3 k4 k5 k6 HE;generalize x.fields.length=n2 at k0 k1 k2 k3 k4 k5 k6 HE;generalize x.members.length=n3 at k0 k1 k2 k3 k4 k5 k6 HE;generalize x.inputs.length=n4 at k0 k1 k2 k3 k4 k5 k6 HE;have HB1:Hid (Wr B b w (wr.alloc (.cells #[.int .i64 x.kind,.string x.name,.slice A2 n0 c2,.slice A3 n1 c3,.slice A4 n2 c4,.slice A5 n3 c5,.slice A6 n4 c6] 39 (0,0)))):=Lh (hr.out.2.alloc HBB.out _);have HX1:Hid (DefR (wr.alloc (.cells #[.int .i64 x.kind,.string x.name,.slice A2 n0 c2,.slice A3 n1 c3,.slice A4 n2 c4,.slice A5 n3 c5,.slice A6 n4 c6] 39 (0,0))) B (V i) x):=Lh (DefR.stays.kept HX.out ((Below.refl B wr).alloc (by omega) _));have HP1:=Lh (hr.out.1.alloc (.cells #[.int .i64 x.kind,.string x.name,.slice A2 n0 c2,.slice A3 n1 c3,.slice A4 n2 c4,.slice A5 n3 c5,.slice A6 n4 c6] 39 (0,0)));have HK1:=Lh (Bk.new wr #[.int .i64 x.kind,.string x.name,.slice A2 n0 c2,.slice A3 n1 c3,.slice A4 n2 c4,.slice A5 n3 c5,.slice A6 n4 c6] 39);have hbw:=hr.out.1.lt;by_cases hi0:i=0
   ·have hi0':¬ (i:Int) > 0:=by omega
    have HI0:=Lh hi0;have CALL:=Lh (HF1.out (V i) _ HX1.out _ HP1.out (HL.out.kept HB1.out.below) (by
     have h1:=HST.out; rw [HMT.out,if_pos HI0.out] at h1; have h2:=HLL.out; simp only [List.length_append,List.length_nil] at h1 ⊢; omega) (Nat.le_trans HBB.out HB1.out.below.size))
    rw [HE.out] at CALL;clear hi0;go_wp2_with fail;refine CALL.out.mono ?_
    rintro e w5 ⟨rfl,hp5,hw5⟩;have HP5:Hid (PB B b (l++jn (bL sep) ((xs.take (i+1)).map tx)) w5):=Lh (by rw [HTK.out,if_pos HI0.out,List.nil_append, <- List.append_assoc]; exact hp5);have HW5:=Lh (HB1.out.trans hw5);clear hp5 hw5 CALL;go_wp2_with fail
    go_roundw
    case rel=>exact ⟨i+1,by omega,by go_num,Lh ⟨HP5.out,HW5.out⟩⟩
    case measure=>simp [intOf]; omega
   ·have hi0':(i:Int) > 0:=by omega
    have HI0:=Lh hi0;clear hi0;go_wp2_with fail;refine (put1 sep B b _ _ _ (by simp) HP1.out (by
     have h1:=HST.out; rw [HMT.out,if_neg HI0.out] at h1; have h2:=HLL.out; simp only [List.length_append,za5] at h1 h2 ⊢; omega) (Nat.le_trans HBB.out HB1.out.below.size)).mono ?_
    rintro e w4 ⟨rfl,hp4,hw4⟩;have HP4:=Lh hp4;have HW4:=Lh (HB1.out.trans hw4);have HX4:Hid (DefR w4 B (V i) x):=Lh (DefR.stays.kept HX1.out hw4.below);have hK4:Bk w4 wr.heap.size #[.int .i64 x.kind,.string x.name,.slice A2 n0 c2,.slice A3 n1 c3,.slice A4 n2 c4,.slice A5 n3 c5,.slice A6 n4 c6] 39 := HK1.out.wr hw4 (by omega) (by decide);obtain ⟨y0,y1,y2,y3,y4,y5,y6⟩:=hK4.c7;clear hp4 hw4 hK4 k0 k1 k2 k3 k4 k5 k6;have CALL:=Lh (HF1.out (V i) _ HX4.out _ HP4.out (HL.out.kept HW4.out.below) (by
     have h1:=HST.out; rw [HMT.out,if_neg HI0.out] at h1; have h2:=HLL.out; simp only [List.length_append] at h1 ⊢; omega) (Nat.le_trans HBB.out HW4.out.below.size))
    rw [HE.out] at CALL;go_wp2_with fail;refine CALL.out.mono ?_
    rintro e w5 ⟨rfl,hp5,hw5⟩;have HP5:Hid (PB B b (l++jn (bL sep) ((xs.take (i+1)).map tx)) w5):=Lh (by rw [HTK.out,if_neg HI0.out]; simpa only [List.append_assoc] using hp5);have HW5:=Lh (HW4.out.trans hw5);clear hp5 hw5 CALL y0 y1 y2 y3 y4 y5 y6;go_wp2_with fail
    go_roundw
    case rel=>exact ⟨i+1,by omega,by go_num,Lh ⟨HP5.out,HW5.out⟩⟩
    case measure=>simp [intOf]; omega
  ·have:i=len:=by omega
   subst this;have HF:Hid (PB B b (l++jn (bL sep) (xs.map tx)) wr):=Lh (by have:=hr.out.1; rwa [List.take_of_length_le (by rw [HLEN.out]; exact Nat.le_refl _)] at this);go_wp2_with fail
   go_end0
   exact ⟨rfl,HF.out,hr.out.2⟩
theorem cells8 : Tryz.prog.cellsOf 5 = 1:=by kernel_rfl
theorem zD8 (B b:Nat) (l:List UInt8) (w:World) (h:PB B b l w) (h0:l≠[]) :
  Calls Tryz.prog 34 #[pp b] w fun e w'=>e=.returned (.string ⟨l.toArray⟩)/\Below B w w':=by
 obtain ⟨p,hB,v,hbk,hown,hne⟩ : ∃ p,PAt B b p (Lib.byteCells l) w:=by
  rcases h with h | h
  ·exact ⟨_,h⟩
  ·exact ⟨_,h⟩
 have hl0:l.length≠0:=by simpa using h0
 obtain ⟨g,cap,cur,fz,rfl,hbg,hg,hnc,hcm,hcs⟩ : ∃ g cap cur fz,v=.slice (some ⟨g,0,none⟩) l.length cap/\B<=g/\w.heap[g]?=some (.cells cur 5 fz)/\l.length<=cap/\cap<=maxLen/\cur.size=cap:=by
  rcases hown.2 with ⟨_,hz⟩ | ⟨g,cap,cur,fz,hv,r1,r2,r3,r4,r5,r6,r7⟩
  ·exact absurd (by rw [Lib.byteCells_length] at hz; exact hz) hl0
  ·exact ⟨g,cap,cur,fz,by rw [hv,Lib.byteCells_length],r1,r2,by rw [Lib.byteCells_length] at r4; exact r4,r5,by omega⟩
 have HC:Hid (∀ j x,l[j]?=some x->w.drew.cell? ((⟨g,0,none⟩ : Addr).add j)=some (.int .u8 x.toNat)):=Lh fun j x hx=>by
  have:=hown.cells (g:=g) rfl j (.int .u8 x.toNat) (by simp [Lib.byteCells,hx]);exact this
 have c1:w.drew.cell? ⟨b,1,none⟩=some (.slice (some ⟨g,0,none⟩) l.length cap):=by
  have:w.drew.heap[b]?=some (.cells #[p,.slice (some ⟨g,0,none⟩) l.length cap] 77 (0,0)):=hbk;rw [Lib.cell_of_heap this]; rfl
 have r1:(Builtin.unsafeSliceData_ #[73] 121 #[.slice (some ⟨g,0,none⟩) l.length cap]).run Tryz.prog w.drew=.ok (.pointer (some ⟨g,0,none⟩)) w.drew:=Lib.run_unsafeSliceData_row w.drew _ _ _ _ _ (by omega);have r2:(Builtin.unsafeString_ #[121, 3] 9 #[.pointer (some ⟨g,0,none⟩),.int .i64 l.length]).run Tryz.prog w.drew=.ok (.string ⟨l.toArray⟩) (w.drew.freeze ⟨g,0,none⟩ l.length) :=
  Lib.run_unsafeString_row w.drew 121 3 9 5 Tryz.underlying121 cells8 g cur.size (by have hg':w.drew.heap[g]?=some (.cells cur 5 fz):=hg; simp [World.shape?,hg']) l h0 (by omega) (by unfold maxLen at hcm; omega) HC.out
 clear hown hne hbk h hnc hcm hcs h0;have mixed : Tryz.prog.follows .mixedOrders=true:=by kernel_rfl
 go_enter Tryz.func34, Tryz.ntmps34
 go_wp2
 go_region_o
 all_goals (go_wp2; go_ret; exact ⟨rfl,Lib.below_freeze (Below.drew (Below.refl B w)) (p:=⟨g,0,none⟩) hbg _⟩)
end Go.Proofs.YtfgelheiknmjgaaGreatDoor

