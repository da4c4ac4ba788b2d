
/-
 Texts joined: N1Mem N2 Shelf2 N3 N1Val.
-/
import Derived.Test.YtfgelheiknmjgaaGreatDoorZt37
import Derived.Shelf.Strings.OnBuilder
import Derived.Lib.Join
set_option maxRecDepth 1000000
set_option maxHeartbeats 8000000
namespace Go.Proofs.YtfgelheiknmjgaaGreatDoor
open Go.RowKit
theorem zY2 (B b:Nat) (xs:List MemT) (tx:MemT->List UInt8) (hF:∀ x∈xs, ∀ (f:Nat->Value) (W:World),MemR W B f x->zg1 B b W 67 (.agg #[f 0,f 1]) (tx x))
  (sep:ByteArray) (v:Value) (l:List UInt8) (w:World) (h:MemsR w B v xs) (hp:PB B b l w) (hL:LaidB B w) (hl:l.length+(jn (bL sep) (xs.map tx)).length<=140737488355328) (hB:B<=w.heap.size) :
  Calls Tryz.prog 134 #[pp b,v,.string sep,.func (.func 67) #[pp b] #[]] w (PP B b l (jn (bL sep) (xs.map tx)) w):=by
 obtain ⟨A,c,rfl,hc,hbg,V,hA,hr⟩:=h;unfold big at hbg;obtain ⟨len,hlen⟩ : ∃ len,xs.length=len:=⟨_,rfl⟩;rw [hlen] at hA hbg ⊢;have hlm:(len:Int)<=140737488351232:=by omega
 have HLEN:=Lh hlen;have HF:=Lh hF;have HA:=Lh hA;have HR:=Lh hr;have HP:=Lh hp;have HL:=Lh hL;have HLL:=Lh hl;have HBB:=Lh hB;clear hlen hF hA hr hp hL hl hc hbg
 go_enter Tryz.func134, Tryz.ntmps134
 go_wp2_with fail
 go_loopw [12] (fun u wr=>∃ i:Nat,i<=len/\u=.int .i64 i/\Hid (PB B b (l++jn (bL sep) ((xs.take i).map tx)) wr/\Wr B b w wr)) (fun u _=>len-(intOf u).toNat)
 case atStart=>exact ⟨0,Nat.zero_le _,rfl,Lh ⟨by simpa [jn] using HP.out,Wr.refl _ _ _⟩⟩
 case round =>
  obtain ⟨i,hi,rfl,hr⟩:=hrel;by_cases hlt:i<len
  ·obtain ⟨x,hxi⟩ : ∃ x,xs[i]?=some x:=⟨_,List.getElem?_eq_getElem (by rw [HLEN.out]; exact hlt)⟩
   have hlt':(i:Int)<len:=by omega
   have HXI:=Lh hxi;have hx:MemR wr B (V i) x:=MemR.stays.kept (HR.out i x hxi) hr.out.2.below;have HF1:=Lh (HF.out x (List.mem_of_getElem? hxi));obtain ⟨a,rfl,ha,hc0⟩:=HA.out (by omega);have hcc:∀ j,j<2->wr.cell? (at_ (a.add (i*2)) j)=some (V i j):=fun j hj=>(hr.out.2.below.cell (by rw [zb5,za1]; exact ha)).trans (hc0 i hlt j hj);have k0:wr.cell? (a.add (i*2))=some (V i 0):=hcc 0 (by omega);have k1:wr.cell? ⟨((a.add (i*2))).block,((a.add (i*2))).off+1,none⟩=some (V i 1):=hcc 1 (by omega);obtain ⟨A1,c1,e1,_,_⟩:=hx.dirs.form;have e0:=hx.name;rw [e0] at k0;rw [e1] at k1;have HX:=Lh hx;have HE:Hid (#[V i 0,V i 1]=#[.string x.name,.slice A1 x.dirs.length c1]):=Lh (by rw [e0,e1]);clear hc0 hcc hx hxi e0 e1;have hsz:=hr.out.2.below.size;have HT:Hid ((xs.map tx)[i]?=some (tx x)):=Lh (by rw [List.getElem?_map,HXI.out]; rfl);have HST:=Lh (zh1 (bL sep) HT.out);have HTK:Hid (jn (bL sep) ((xs.take (i+1)).map tx)=jn (bL sep) ((xs.take i).map tx)++((if i=0 then [] else bL sep)++tx x)):=Lh (by
    rw [List.map_take,List.map_take]; exact zp8 (bL sep) HT.out)
   have HMT:Hid ((xs.map tx).take i=(xs.take i).map tx):=Lh (by rw [List.map_take]);generalize x.dirs.length=n0 at k0 k1 HE;have HB1:Hid (Wr B b w (wr.alloc (.cells #[.string x.name,.slice A1 n0 c1] 48 (0,0)))):=Lh (hr.out.2.alloc HBB.out _);have HX1:Hid (MemR (wr.alloc (.cells #[.string x.name,.slice A1 n0 c1] 48 (0,0))) B (V i) x):=Lh (MemR.stays.kept HX.out ((Below.refl B wr).alloc (by omega) _));have HP1:=Lh (hr.out.1.alloc (.cells #[.string x.name,.slice A1 n0 c1] 48 (0,0)));have HK1:=Lh (Bk.new wr #[.string x.name,.slice A1 n0 c1] 48);have hbw:=hr.out.1.lt;by_cases hi0:i=0
   ·have hi0':¬ (i:Int) > 0:=by omega
    have HI0:=Lh hi0;have CALL:=Lh (HF1.out (V i) _ HX1.out _ HP1.out (HL.out.kept HB1.out.below) (by
     have h1:=HST.out; rw [HMT.out,if_pos HI0.out] at h1; have h2:=HLL.out; simp only [List.length_append,List.length_nil] at h1 ⊢; omega) (Nat.le_trans HBB.out HB1.out.below.size))
    rw [HE.out] at CALL;clear hi0;go_wp2_with fail;refine CALL.out.mono ?_
    rintro e w5 ⟨rfl,hp5,hw5⟩;have HP5:Hid (PB B b (l++jn (bL sep) ((xs.take (i+1)).map tx)) w5):=Lh (by rw [HTK.out,if_pos HI0.out,List.nil_append, <- List.append_assoc]; exact hp5);have HW5:=Lh (HB1.out.trans hw5);clear hp5 hw5 CALL;go_wp2_with fail
    go_roundw
    case rel=>exact ⟨i+1,by omega,by go_num,Lh ⟨HP5.out,HW5.out⟩⟩
    case measure=>simp [intOf]; omega
   ·have hi0':(i:Int) > 0:=by omega
    have HI0:=Lh hi0;clear hi0;go_wp2_with fail;refine (put1 sep B b _ _ _ (by simp) HP1.out (by
     have h1:=HST.out; rw [HMT.out,if_neg HI0.out] at h1; have h2:=HLL.out; simp only [List.length_append,za5] at h1 h2 ⊢; omega) (Nat.le_trans HBB.out HB1.out.below.size)).mono ?_
    rintro e w4 ⟨rfl,hp4,hw4⟩;have HP4:=Lh hp4;have HW4:=Lh (HB1.out.trans hw4);have HX4:Hid (MemR w4 B (V i) x):=Lh (MemR.stays.kept HX1.out hw4.below);have hK4:Bk w4 wr.heap.size #[.string x.name,.slice A1 n0 c1] 48 := HK1.out.wr hw4 (by omega) (by decide);obtain ⟨y0,y1⟩:=hK4.c2;clear hp4 hw4 hK4 k0 k1;have CALL:=Lh (HF1.out (V i) _ HX4.out _ HP4.out (HL.out.kept HW4.out.below) (by
     have h1:=HST.out; rw [HMT.out,if_neg HI0.out] at h1; have h2:=HLL.out; simp only [List.length_append] at h1 ⊢; omega) (Nat.le_trans HBB.out HW4.out.below.size))
    rw [HE.out] at CALL;go_wp2_with fail;refine CALL.out.mono ?_
    rintro e w5 ⟨rfl,hp5,hw5⟩;have HP5:Hid (PB B b (l++jn (bL sep) ((xs.take (i+1)).map tx)) w5):=Lh (by rw [HTK.out,if_neg HI0.out]; simpa only [List.append_assoc] using hp5);have HW5:=Lh (HW4.out.trans hw5);clear hp5 hw5 CALL y0 y1;go_wp2_with fail
    go_roundw
    case rel=>exact ⟨i+1,by omega,by go_num,Lh ⟨HP5.out,HW5.out⟩⟩
    case measure=>simp [intOf]; omega
  ·have:i=len:=by omega
   subst this;have HF:Hid (PB B b (l++jn (bL sep) (xs.map tx)) wr):=Lh (by have:=hr.out.1; rwa [List.take_of_length_le (by rw [HLEN.out]; exact Nat.le_refl _)] at this);go_wp2_with fail
   go_end0
   exact ⟨rfl,HF.out,hr.out.2⟩
def ValOk (B b:Nat):Prop:=∀ (x:VT),x.fit->∀ (f:Nat->Value) (W:World),ValR W B f x->zg1 B b W 60 (.agg #[f 0,f 1,f 2,f 3,f 4]) x.src
def dirFit (d:DirT):Prop:=∀ a∈d.args,a.2.fit
def zk0 (l:List DirT):Prop:=∀ d∈l,dirFit d
theorem zO7 (B b:Nat) (hO:ValOk B b) (x:ByteArray × VT) (hf:x.2.fit) (f:Nat->Value) (w:World) (h:ArgR w B f x):zg1 B b w 211 (.agg #[f 0,f 1,f 2,f 3,f 4,f 5]) (zy3 x):=by
 intro l hp hL hl hB;obtain ⟨k,n,s,VA,vli,vci,VK,vlk,vck,e1,e2,e3,e4,e5⟩:=Rd.form h.val;have hv:=h.val;rw [h.name,e1,e2,e3,e4,e5];rw [e1,e2,e3,e4,e5] at hv;clear e1 e2 e3 e4 e5 h;have HV0:=Lh (hv.kept (za0 w (.cells #[.string x.1,.int .i64 k,.int .i64 n,.string s,.slice VA vli vci,.slice VK vlk vck] 88 (0,0)) |>.mono hB));have HO:=Lh hO;have HF:=Lh hf;unfold zy3 at hl ⊢;clear hv hO hf;have HW0:Hid (Wr B b w (w.alloc (.cells #[.string x.1,.int .i64 k,.int .i64 n,.string s,.slice VA vli vci,.slice VK vlk vck] 88 (0,0)))):=Lh ((Wr.refl B b w).alloc hB _);have HP0:=Lh (hp.alloc (.cells #[.string x.1,.int .i64 k,.int .i64 n,.string s,.slice VA vli vci,.slice VK vlk vck] 88 (0,0)));have HK0:=Lh (Bk.new w #[.string x.1,.int .i64 k,.int .i64 n,.string s,.slice VA vli vci,.slice VK vlk vck] 88);have HL:=Lh hL;have HLL:=Lh hl;have HBB:=Lh hB;have hbw:=hp.lt;clear hL hl hB hp
 go_enter Tryz.func211, Tryz.ntmps211
 have y0:=HK0.out.cell 0 _ rfl;have y1:=HK0.out.cell 1 _ rfl;have y2:=HK0.out.cell 2 _ rfl;have y3:=HK0.out.cell 3 _ rfl;have y4:=HK0.out.cell 4 _ rfl;have y5:=HK0.out.cell 5 _ rfl;go_wp2_with fail;refine (put2 _ _ B b _ _ _ (by simp) HP0.out (by have h1:=HLL.out; (try simp only [za8,List.length_append,List.length_cons,List.length_nil,za5,za3] at h1 ⊢); omega) (Nat.le_trans HBB.out HW0.out.below.size)).mono ?_
 rintro e w1 ⟨rfl,hp,hw⟩;have HP1:=Lh hp;have HW1:=Lh (HW0.out.trans hw);have HK1:=Lh (HK0.out.wr hw (by omega) (by decide));have HV1:=Lh (Rd.kept HV0.out hw.below);clear hp hw;clear y0 y1 y2 y3 y4 y5;have y0:=HK1.out.cell 0 _ rfl;have y1:=HK1.out.cell 1 _ rfl;have y2:=HK1.out.cell 2 _ rfl;have y3:=HK1.out.cell 3 _ rfl;have y4:=HK1.out.cell 4 _ rfl;have y5:=HK1.out.cell 5 _ rfl;go_wp2_with fail;refine (HO.out x.2 HF.out (fun j=>(#[.int .i64 k,.int .i64 n,.string s,.slice VA vli vci,.slice VK vlk vck]:Array Value).getD j undef) _ HV1.out _ HP1.out (HL.out.kept HW1.out.below) (by have h1:=HLL.out; (try simp only [za8,List.length_append,List.length_cons,List.length_nil,za5,za3] at h1 ⊢); omega) (Nat.le_trans HBB.out HW1.out.below.size)).mono ?_
 rintro e w2 ⟨rfl,hp,hw⟩;have HP2:=Lh hp;have HW2:=Lh (HW1.out.trans hw);have HK2:=Lh (HK1.out.wr hw (by omega) (by decide));have HV2:=Lh (Rd.kept HV1.out hw.below);clear hp hw;clear y0 y1 y2 y3 y4 y5;have y0:=HK2.out.cell 0 _ rfl;have y1:=HK2.out.cell 1 _ rfl;have y2:=HK2.out.cell 2 _ rfl;have y3:=HK2.out.cell 3 _ rfl;have y4:=HK2.out.cell 4 _ rfl;have y5:=HK2.out.cell 5 _ rfl;go_wp2_with fail
 go_end0
 exact ⟨rfl,by have h1:=HP2.out; (try simp only [List.append_assoc,List.append_nil] at h1); (try simp only [List.append_assoc]); (try simp only [List.append_nil]); exact h1,HW2.out⟩
theorem zI4 (B b:Nat) (hO:ValOk B b) (x:DirT) (hf:dirFit x) (f:Nat->Value) (w:World) (h:DirR w B f x):zg1 B b w 178 (.agg #[f 0,f 1]) (zy0 x):=by
 intro l hp hL hl hB;obtain ⟨A1,c1,e1,_,_⟩:=h.args.form;have hv:=h.args;rw [h.name,e1];rw [e1] at hv;clear e1 h;obtain ⟨n0,hn0⟩ : ∃ n0,x.args.length=n0:=⟨_,rfl⟩;rw [hn0] at hv ⊢;have HV0:=Lh (hv.kept (za0 w (.cells #[.string x.name,.slice A1 n0 c1] 85 (0,0)) |>.mono hB));have HO:=Lh hO;have HF:=Lh hf;unfold zy0 at hl ⊢;rw [hn0] at hl ⊢;clear hv hO hf hn0;have HW0:Hid (Wr B b w (w.alloc (.cells #[.string x.name,.slice A1 n0 c1] 85 (0,0)))):=Lh ((Wr.refl B b w).alloc hB _);have HP0:=Lh (hp.alloc (.cells #[.string x.name,.slice A1 n0 c1] 85 (0,0)));have HK0:=Lh (Bk.new w #[.string x.name,.slice A1 n0 c1] 85);have HL:=Lh hL;have HLL:=Lh hl;have HBB:=Lh hB;have hbw:=hp.lt;clear hL hl hB hp;by_cases h0:n0=0
 ·subst h0
  rw [if_pos rfl] at HLL ⊢
  go_enter Tryz.func178, Tryz.ntmps178
  obtain ⟨y0,y1⟩:=HK0.out.c2;go_wp2_with fail;refine (put2 _ _ B b _ _ _ (by simp) HP0.out (by have h1:=HLL.out; (try simp only [za8,List.length_append,List.length_cons,List.length_nil,za5,za3] at h1 ⊢); omega) (Nat.le_trans HBB.out HW0.out.below.size)).mono ?_
  rintro e w1 ⟨rfl,hp,hw⟩;have HP1:=Lh hp;have HW1:=Lh (HW0.out.trans hw);have HK1:=Lh (HK0.out.wr hw (by omega) (by decide));have HV1:=Lh (ArgsR.kept HV0.out hw.below);clear hp hw;clear y0 y1;obtain ⟨y0,y1⟩:=HK1.out.c2;go_wp2_with fail
  go_end0
  exact ⟨rfl,by have h1:=HP1.out; (try simp only [List.append_assoc,List.append_nil] at h1); (try simp only [List.append_assoc]); (try simp only [List.append_nil]); exact h1,HW1.out⟩
 ·have h0':(n0:Int) > 0:=by omega
  rw [if_neg h0] at HLL ⊢;clear h0
  go_enter Tryz.func178, Tryz.ntmps178
  obtain ⟨y0,y1⟩:=HK0.out.c2;go_wp2_with fail;refine (put2 _ _ B b _ _ _ (by simp) HP0.out (by have h1:=HLL.out; (try simp only [za8,List.length_append,List.length_cons,List.length_nil,za5,za3] at h1 ⊢); omega) (Nat.le_trans HBB.out HW0.out.below.size)).mono ?_
  rintro e w1 ⟨rfl,hp,hw⟩;have HP1:=Lh hp;have HW1:=Lh (HW0.out.trans hw);have HK1:=Lh (HK0.out.wr hw (by omega) (by decide));have HV1:=Lh (ArgsR.kept HV0.out hw.below);clear hp hw;clear y0 y1;obtain ⟨y0,y1⟩:=HK1.out.c2;go_wp2_with fail;refine (put1 _ B b _ _ _ (by simp) HP1.out (by have h1:=HLL.out; (try simp only [za8,List.length_append,List.length_cons,List.length_nil,za5,za3] at h1 ⊢); omega) (Nat.le_trans HBB.out HW1.out.below.size)).mono ?_
  rintro e w2 ⟨rfl,hp,hw⟩;have HP2:=Lh hp;have HW2:=Lh (HW1.out.trans hw);have HK2:=Lh (HK1.out.wr hw (by omega) (by decide));have HV2:=Lh (ArgsR.kept HV1.out hw.below);clear hp hw;clear y0 y1;obtain ⟨y0,y1⟩:=HK2.out.c2;go_wp2_with fail;refine (zY7 B b x.args zy3 (fun y hy f W hR=>zO7 B b HO.out y (HF.out y hy) f W hR) _ _ _ _ HV2.out HP2.out (HL.out.kept HW2.out.below) (by have h1:=HLL.out; (try simp only [za8,List.length_append,List.length_cons,List.length_nil,za5,za3] at h1 ⊢); omega) (Nat.le_trans HBB.out HW2.out.below.size)).mono ?_
  rintro e w3 ⟨rfl,hp,hw⟩;have HP3:=Lh hp;have HW3:=Lh (HW2.out.trans hw);have HK3:=Lh (HK2.out.wr hw (by omega) (by decide));have HV3:=Lh (ArgsR.kept HV2.out hw.below);clear hp hw;clear y0 y1;obtain ⟨y0,y1⟩:=HK3.out.c2;go_wp2_with fail;refine (put1 _ B b _ _ _ (by simp) HP3.out (by have h1:=HLL.out; (try simp only [za8,List.length_append,List.length_cons,List.length_nil,za5,za3] at h1 ⊢); omega) (Nat.le_trans HBB.out HW3.out.below.size)).mono ?_
  rintro e w4 ⟨rfl,hp,hw⟩;have HP4:=Lh hp;have HW4:=Lh (HW3.out.trans hw);have HK4:=Lh (HK3.out.wr hw (by omega) (by decide));have HV4:=Lh (ArgsR.kept HV3.out hw.below);clear hp hw;clear y0 y1;obtain ⟨y0,y1⟩:=HK4.out.c2;go_wp2_with fail
  go_end0
  exact ⟨rfl,by have h1:=HP4.out; (try simp only [List.append_assoc,List.append_nil] at h1); (try simp only [List.append_assoc]); (try simp only [List.append_nil]); exact h1,HW4.out⟩
end Go.Proofs.YtfgelheiknmjgaaGreatDoor
namespace Go.Proofs
open Go.Shelf
def Tryz.lays156_ren:Go.Shelf.Ren:=⟨fun | 156=>130 | 165=>176 | 166=>129 | 169=>34 | 240=>175 | 241=>209 | 276=>208 | 277=>237 | n=>n,fun | 31=>33 | 9=>9 | 3=>3 | 4=>4 | 0=>0 | 20=>20 | 72=>75 | 76=>164 | 70=>72 | 37=>73 | 75=>163 | 127=>121 | 164=>223 | 5=>5 | 80=>81 | n=>n,fun | n=>n⟩
theorem Tryz.lays156:Go.Proofs.Lays.n156 Tryz.prog Tryz.lays156_ren:={
 mixed:=by kernel_rfl
 f156:=Tryz.func130.trans (congrArg some (by kernel_rfl))
 f165:=Tryz.func176.trans (congrArg some (by kernel_rfl))
 f166:=Tryz.func129.trans (congrArg some (by kernel_rfl))
 f169:=Tryz.func34.trans (congrArg some (by kernel_rfl))
 f240:=Tryz.func175.trans (congrArg some (by kernel_rfl))
 f241:=Tryz.func209.trans (congrArg some (by kernel_rfl))
 f276:=Tryz.func208.trans (congrArg some (by kernel_rfl))
 f277:=Tryz.func237.trans (congrArg some (by kernel_rfl))
 t0:=Tryz.underlying0
 a0:=Tryz.isAgg0
 z0:=Tryz.sizeOf0
 v0:=Tryz.zeroValue0
 t3:=Tryz.underlying3
 a3:=Tryz.isAgg3
 z3:=Tryz.sizeOf3
 v3:=Tryz.zeroValue3
 t4:=Tryz.underlying4
 a4:=Tryz.isAgg4
 z4:=Tryz.sizeOf4
 v4:=Tryz.zeroValue4
 t9:=Tryz.underlying9
 a9:=Tryz.isAgg9
 z9:=Tryz.sizeOf9
 v9:=Tryz.zeroValue9
 t20:=Tryz.underlying20
 a20:=Tryz.isAgg20
 z20:=Tryz.sizeOf20
 v20:=Tryz.zeroValue20
 t31:=Tryz.underlying33
 a31:=Tryz.isAgg33
 z31:=Tryz.sizeOf33
 v31:=Tryz.zeroValue33
 t37:=Tryz.underlying73
 a37:=Tryz.isAgg73
 z37:=Tryz.sizeOf73
 v37:=Tryz.zeroValue73
 t70:=Tryz.underlying72
 a70:=Tryz.isAgg72
 z70:=Tryz.sizeOf72
 v70:=Tryz.zeroValue72
 t72:=Tryz.underlying75
 a72:=Tryz.isAgg75
 z72:=Tryz.sizeOf75
 v72:=Tryz.zeroValue75
 t75:=Tryz.underlying163
 a75:=Tryz.isAgg163
 z75:=Tryz.sizeOf163
 v75:=Tryz.zeroValue163
 t76:=Tryz.underlying164
 a76:=Tryz.isAgg164
 z76:=Tryz.sizeOf164
 v76:=Tryz.zeroValue164
 t127:=Tryz.underlying121
 a127:=Tryz.isAgg121
 z127:=Tryz.sizeOf121
 v127:=Tryz.zeroValue121
 t164:=Tryz.underlying223
 a164:=Tryz.isAgg223
 z164:=Tryz.sizeOf223
 v164:=Tryz.zeroValue223 }
theorem Tryz.Builder_Extra_156:Builder.Extra Tryz.prog Tryz.lays156_ren:={
 sizeBuilder:=by kernel_rfl
 liesBuilder:=by kernel_rfl
 t5:=Tryz.underlying5
 a5:=Tryz.isAgg5
 z5:=Tryz.sizeOf5
 v5:=Tryz.zeroValue5
 infoByte:=by kernel_rfl
 cellsByte:=by kernel_rfl
 sizeByte:=by kernel_rfl
 neB5:=by decide }
open Go.RowKit in
theorem Tryz.strings_Join (bk o c:Nat) (xs:List ByteArray) (sep:ByteArray) (w:World) (hcells:∀ (j:Nat) x,xs[j]?=some x->w.cell? ⟨bk,o+j,none⟩=some (.string x)) (hbk:bk<w.heap.size) (hN:xs.length<=140737488355328) (hcap:xs.length<=c) (hlen:(Lib.join (xs.map (·.data.toList)) sep.data.toList).length<=140737488355328) :
  Calls Tryz.prog 130 #[.slice (some ⟨bk,o,none⟩) xs.length c,.string sep] w fun e w'=>e=.returned (.string ⟨(Lib.join (xs.map (·.data.toList)) sep.data.toList).toArray⟩)/\Below w.heap.size w w':=Any.strings_Join Tryz.lays156 Tryz.Builder_Extra_156 bk o c xs sep w hcells hbk hN hcap hlen
end Go.Proofs
namespace Go.Proofs.YtfgelheiknmjgaaGreatDoor
open Go.RowKit
theorem ym3 (xs:List (List UInt8)) (sep:List UInt8):Lib.join xs sep=jn sep xs:=by
 cases xs with
 | nil=>rfl
 | cons x r=>rw [Lib.join_cons]; rfl
theorem NamesR.flat {w:World} {B:Nat} {A:Option Addr} {n c:Nat} {xs:List ByteArray} (h:NamesR w B (.slice A n c) xs) (h0:0<xs.length):n=xs.length/\xs.length<=c/\xs.length<=140737488351232/\∃ b off,A=some ⟨b,off,none⟩/\b<B/\∀ (j:Nat) x,xs[j]?=some x->w.cell? ⟨b,off+j,none⟩=some (.string x):=by
 obtain ⟨A',c',e,hc,hb,V,hA,hr⟩:=h;cases e;unfold big at hb;obtain ⟨a,rfl,hab,hx⟩:=hA h0;obtain ⟨b,off,spot⟩:=a;have hs:spot=none:=by
  have h1:=hx 0 h0 0 (by omega)
  cases spot with
  | none=>rfl
  | some i=>simp [at_,Addr.add,World.cell?] at h1; split at h1 <;> simp at h1
 subst hs;refine ⟨rfl,hc,by omega,b,off,rfl,hab,fun j x hj=>?_⟩;have h2:=hx j (List.getElem?_eq_some_iff.1 hj).1 0 (by omega);rw [Nat.mul_one] at h2;have h3:w.cell? ((⟨b,off,none⟩ : Addr).add j)=some (V j 0):=h2;rw [Addr.add_mid,(hr j x hj).1] at h3;exact h3
theorem zb8 (B b:Nat) (hO:ValOk B b) (xs:List DirT) (hf:zk0 xs) (v:Value) (w:World) (h:DirsR w B v xs):zg1 B b w 131 v (zd2 xs):=by
 intro l hp hL hl hB;obtain ⟨A1,c1,rfl,_,_⟩:=h.form;obtain ⟨n0,hn0⟩ : ∃ n0,xs.length=n0:=⟨_,rfl⟩;rw [hn0] at h ⊢;have HV0:=Lh h;have HO:=Lh hO;have HF:=Lh hf;unfold zd2 zI2 at hl ⊢;rw [hn0] at hl ⊢;clear h hO hf hn0;have HW0:Hid (Wr B b w w):=Lh (Wr.refl B b w);have HP0:=Lh hp;have HL:=Lh hL;have HLL:=Lh hl;have HBB:=Lh hB;have hbw:=hp.lt;clear hL hl hB hp;by_cases h0:n0=0
 ·subst h0
  rw [if_pos rfl] at HLL ⊢
  go_enter Tryz.func131, Tryz.ntmps131
  go_wp2_with fail
  go_end0
  exact ⟨rfl,by have h1:=HP0.out; (try simp only [List.append_assoc,List.append_nil] at h1); (try simp only [List.append_assoc]); (try simp only [List.append_nil]); exact h1,HW0.out⟩
 ·have h0':(n0:Int) > 0:=by omega
  rw [if_neg h0] at HLL ⊢;clear h0
  go_enter Tryz.func131, Tryz.ntmps131
  go_wp2_with fail
  refine (put1 _ B b _ _ _ (by simp) HP0.out (by have h1:=HLL.out; (try simp only [za8,List.length_append,List.length_cons,List.length_nil,za5,za3] at h1 ⊢); omega) (Nat.le_trans HBB.out HW0.out.below.size)).mono ?_
  rintro e w1 ⟨rfl,hp,hw⟩;have HP1:=Lh hp;have HW1:=Lh (HW0.out.trans hw);have HV1:=Lh (DirsR.kept HV0.out hw.below);clear hp hw;go_wp2_with fail;refine (zY5 B b xs zy0 (fun y hy f W hR=>zI4 B b HO.out y (HF.out y hy) f W hR) _ _ _ _ HV1.out HP1.out (HL.out.kept HW1.out.below) (by have h1:=HLL.out; (try simp only [za8,List.length_append,List.length_cons,List.length_nil,za5,za3] at h1 ⊢); omega) (Nat.le_trans HBB.out HW1.out.below.size)).mono ?_
  rintro e w2 ⟨rfl,hp,hw⟩;have HP2:=Lh hp;have HW2:=Lh (HW1.out.trans hw);have HV2:=Lh (DirsR.kept HV1.out hw.below);clear hp hw;go_wp2_with fail
  go_end0
  exact ⟨rfl,by have h1:=HP2.out; (try simp only [List.append_assoc,List.append_nil] at h1); (try simp only [List.append_assoc]); (try simp only [List.append_nil]); exact h1,HW2.out⟩
theorem zE7 (B b:Nat) (hO:ValOk B b) (x:MemT) (hf:zk0 x.dirs) (f:Nat->Value) (w:World) (h:MemR w B f x):zg1 B b w 67 (.agg #[f 0,f 1]) (zi6 x):=by
 intro l hp hL hl hB;obtain ⟨A1,c1,e1,_,_⟩:=h.dirs.form;have hv:=h.dirs;rw [h.name,e1];rw [e1] at hv;clear e1 h;generalize x.dirs.length=n0 at hv ⊢;have HV0:=Lh (hv.kept (za0 w (.cells #[.string x.name,.slice A1 n0 c1] 48 (0,0)) |>.mono hB));have HO:=Lh hO;have HF:=Lh hf;unfold zi6 at hl ⊢;clear hv hO hf;have HW0:Hid (Wr B b w (w.alloc (.cells #[.string x.name,.slice A1 n0 c1] 48 (0,0)))):=Lh ((Wr.refl B b w).alloc hB _);have HP0:=Lh (hp.alloc (.cells #[.string x.name,.slice A1 n0 c1] 48 (0,0)));have HK0:=Lh (Bk.new w #[.string x.name,.slice A1 n0 c1] 48);have HL:=Lh hL;have HLL:=Lh hl;have HBB:=Lh hB;have hbw:=hp.lt;clear hL hl hB hp
 go_enter Tryz.func67, Tryz.ntmps67
 obtain ⟨y0,y1⟩:=HK0.out.c2;go_wp2_with fail;refine (put1 _ B b _ _ _ (by simp) HP0.out (by have h1:=HLL.out; (try simp only [za8,List.length_append,List.length_cons,List.length_nil,za5,za3] at h1 ⊢); omega) (Nat.le_trans HBB.out HW0.out.below.size)).mono ?_
 rintro e w1 ⟨rfl,hp,hw⟩;have HP1:=Lh hp;have HW1:=Lh (HW0.out.trans hw);have HK1:=Lh (HK0.out.wr hw (by omega) (by decide));have HV1:=Lh (DirsR.kept HV0.out hw.below);clear hp hw;clear y0 y1;obtain ⟨y0,y1⟩:=HK1.out.c2;go_wp2_with fail;refine (zb8 B b HO.out x.dirs HF.out _ _ HV1.out _ HP1.out (HL.out.kept HW1.out.below) (by have h1:=HLL.out; (try simp only [za8,List.length_append,List.length_cons,List.length_nil,za5,za3] at h1 ⊢); omega) (Nat.le_trans HBB.out HW1.out.below.size)).mono ?_
 rintro e w2 ⟨rfl,hp,hw⟩;have HP2:=Lh hp;have HW2:=Lh (HW1.out.trans hw);have HK2:=Lh (HK1.out.wr hw (by omega) (by decide));have HV2:=Lh (DirsR.kept HV1.out hw.below);clear hp hw;clear y0 y1;obtain ⟨y0,y1⟩:=HK2.out.c2;go_wp2_with fail
 go_end0
 exact ⟨rfl,by have h1:=HP2.out; (try simp only [List.append_assoc,List.append_nil] at h1); (try simp only [List.append_assoc]); (try simp only [List.append_nil]); exact h1,HW2.out⟩
def Prints2 (B b:Nat) (W:World) (F:Nat) (v u:Value) (a:List UInt8):Prop:=∀ l,PB B b l W->LaidB B W->l.length+a.length<=140737488355328->B<=W.heap.size->Calls Tryz.prog F #[pp b,v,u] W (PP B b l a W)
theorem yd9 (B b:Nat) (hO:ValOk B b) (ds:List DirT) (hf:zk0 ds) (xs:List MemT) (hg:∀ x∈xs,zk0 x.dirs) (v u:Value) (w:World) (h:DirsR w B v ds) (hm:MemsR w B u xs):Prints2 B b w 65 v u (zJ8 ds xs):=by
 intro l hp hL hl hB;have HV0:=Lh h;have HM0:=Lh hm;have HO:=Lh hO;have HF:=Lh hf;have HG:=Lh hg;unfold zJ8 at hl ⊢;clear h hm hO hf hg;have HW0:Hid (Wr B b w w):=Lh (Wr.refl B b w);have HP0:=Lh hp;have HL:=Lh hL;have HLL:=Lh hl;have HBB:=Lh hB;have hbw:=hp.lt;clear hL hl hB hp
 go_enter Tryz.func65, Tryz.ntmps65
 go_wp2_with fail
 refine (zb8 B b HO.out ds HF.out _ _ HV0.out _ HP0.out (HL.out.kept HW0.out.below) (by have h1:=HLL.out; (try simp only [za8,List.length_append,List.length_cons,List.length_nil,za5,za3] at h1 ⊢); omega) (Nat.le_trans HBB.out HW0.out.below.size)).mono ?_
 rintro e w1 ⟨rfl,hp,hw⟩;have HP1:=Lh hp;have HW1:=Lh (HW0.out.trans hw);have HV1:=Lh (DirsR.kept HV0.out hw.below);have HM1:=Lh (MemsR.kept HM0.out hw.below);clear hp hw;go_wp2_with fail;refine (put1 _ B b _ _ _ (by simp) HP1.out (by have h1:=HLL.out; (try simp only [za8,List.length_append,List.length_cons,List.length_nil,za5,za3] at h1 ⊢); omega) (Nat.le_trans HBB.out HW1.out.below.size)).mono ?_
 rintro e w2 ⟨rfl,hp,hw⟩;have HP2:=Lh hp;have HW2:=Lh (HW1.out.trans hw);have HV2:=Lh (DirsR.kept HV1.out hw.below);have HM2:=Lh (MemsR.kept HM1.out hw.below);clear hp hw;go_wp2_with fail;refine (zY2 B b xs zi6 (fun y hy f W hR=>zE7 B b HO.out y (HG.out y hy) f W hR) _ _ _ _ HM2.out HP2.out (HL.out.kept HW2.out.below) (by have h1:=HLL.out; (try simp only [za8,List.length_append,List.length_cons,List.length_nil,za5,za3] at h1 ⊢); omega) (Nat.le_trans HBB.out HW2.out.below.size)).mono ?_
 rintro e w3 ⟨rfl,hp,hw⟩;have HP3:=Lh hp;have HW3:=Lh (HW2.out.trans hw);have HV3:=Lh (DirsR.kept HV2.out hw.below);have HM3:=Lh (MemsR.kept HM2.out hw.below);clear hp hw;go_wp2_with fail;refine (put1 _ B b _ _ _ (by simp) HP3.out (by have h1:=HLL.out; (try simp only [za8,List.length_append,List.length_cons,List.length_nil,za5,za3] at h1 ⊢); omega) (Nat.le_trans HBB.out HW3.out.below.size)).mono ?_
 rintro e w4 ⟨rfl,hp,hw⟩;have HP4:=Lh hp;have HW4:=Lh (HW3.out.trans hw);have HV4:=Lh (DirsR.kept HV3.out hw.below);have HM4:=Lh (MemsR.kept HM3.out hw.below);clear hp hw;go_wp2_with fail
 go_end0
 exact ⟨rfl,by have h1:=HP4.out; (try simp only [List.append_assoc,List.append_nil] at h1); (try simp only [List.append_assoc]); (try simp only [List.append_nil]); exact h1,HW4.out⟩
theorem Wr.of {B b:Nat} {w w':World} (hB:B<=w.heap.size) (h:Below w.heap.size w w'):Wr B b w w' :=
 ⟨h.mono hB,fun k o hk _ _=>(h.block k (by
  rcases Nat.lt_or_ge k w.heap.size with h' | h'
  ·exact h'
  ·rw [Array.getElem?_eq_none h'] at hk; cases hk)).trans hk⟩
theorem zD4 (B b:Nat) (xs:List ByteArray) (v:Value) (w:World) (h:NamesR w B v xs):zg1 B b w 62 v (zp9 xs):=by
 intro l hp hL hl hB;obtain ⟨A1,c1,rfl,_,_⟩:=h.form;unfold zp9 at hl ⊢;by_cases h0:xs.length=0
 ·rw [if_pos h0] at hl ⊢
  rw [h0];clear h h0;have HW0:Hid (Wr B b w w):=Lh (Wr.refl B b w);have HP0:=Lh hp;have HL:=Lh hL;have HLL:=Lh hl;have HBB:=Lh hB;have hbw:=hp.lt;clear hL hl hB hp
  go_enter Tryz.func62, Tryz.ntmps62
  go_wp2_with fail
  go_end0
  exact ⟨rfl,by have h1:=HP0.out; (try simp only [List.append_assoc,List.append_nil] at h1); (try simp only [List.append_assoc]); (try simp only [List.append_nil]); exact h1,HW0.out⟩
 ·rw [if_neg h0] at hl ⊢
  obtain ⟨_,hc,hz,bk,off,rfl,hbk,hcs⟩:=h.flat (by omega);have hj:=Tryz.strings_Join bk off c1 xs ⟨#[32,38,32]⟩ w hcs (by omega) (by omega) hc (by
   rw [ym3]; simp only [List.length_append] at hl;have:jn [32,38,32] (xs.map bL)=jn (⟨#[32,38,32]⟩ : ByteArray).data.toList (xs.map (·.data.toList)):=rfl;rw [<- this]; omega)
  rw [ym3,show jn (⟨#[32,38,32]⟩ : ByteArray).data.toList (xs.map (·.data.toList))=jn [32,38,32] (xs.map bL) from rfl] at hj;have HJ:=Lh hj;obtain ⟨n0,hn0⟩ : ∃ n0,xs.length=n0:=⟨_,rfl⟩;rw [hn0] at h0 HJ hz ⊢;have h0':(n0:Int) > 0:=by omega
  generalize jn [32,38,32] (xs.map bL)=J at HJ hl ⊢;clear h hcs hj hn0 h0;have HW0:Hid (Wr B b w w):=Lh (Wr.refl B b w);have HP0:=Lh hp;have HL:=Lh hL;have HLL:=Lh hl;have HBB:=Lh hB;have hbw:=hp.lt;clear hL hl hB hp
  go_enter Tryz.func62, Tryz.ntmps62
  go_wp2_with fail
  refine HJ.out.mono ?_
  rintro e w1 ⟨rfl,hb1⟩;have HP1:=Lh (HP0.out.kept hb1);have HW1:Hid (Wr B b w w1):=Lh (Wr.of HBB.out hb1);clear hb1;go_wp2_with fail;refine (put2 _ _ B b _ _ _ (by simp) HP1.out (by have h1:=HLL.out; (try simp only [za8,List.length_append,List.length_cons,List.length_nil,za5,za3] at h1 ⊢); omega) (Nat.le_trans HBB.out HW1.out.below.size)).mono ?_
  rintro e w2 ⟨rfl,hp,hw⟩;have HP2:=Lh hp;have HW2:=Lh (HW1.out.trans hw);clear hp hw;go_wp2_with fail
  go_end0
  exact ⟨rfl,by have h1:=HP2.out; (try simp only [List.append_assoc,List.append_nil] at h1); (try simp only [List.append_assoc]); (try simp only [List.append_nil]); exact h1,HW2.out⟩
theorem zY1 (B b:Nat) (xs:List VT) (tx:VT->List UInt8) (hF:∀ x∈xs, ∀ (f:Nat->Value) (W:World),ValR W B f x->zg1 B b W 60 (.agg #[f 0,f 1,f 2,f 3,f 4]) (tx x))
  (sep:ByteArray) (v:Value) (l:List UInt8) (w:World) (h:ValsR w B v xs) (hp:PB B b l w) (hL:LaidB B w) (hl:l.length+(jn (bL sep) (xs.map tx)).length<=140737488355328) (hB:B<=w.heap.size) :
  Calls Tryz.prog 127 #[pp b,v,.string sep,.func (.func 60) #[pp b] #[]] w (PP B b l (jn (bL sep) (xs.map tx)) w):=by
 obtain ⟨A,c,rfl,hc,hbg,V,hA,hr⟩:=h;unfold big at hbg;obtain ⟨len,hlen⟩ : ∃ len,xs.length=len:=⟨_,rfl⟩;rw [hlen] at hA hbg ⊢;have hlm:(len:Int)<=140737488351232:=by omega
 have HLEN:=Lh hlen;have HF:=Lh hF;have HA:=Lh hA;have HR:=Lh hr;have HP:=Lh hp;have HL:=Lh hL;have HLL:=Lh hl;have HBB:=Lh hB;clear hlen hF hA hr hp hL hl hc hbg
 go_enter Tryz.func127, Tryz.ntmps127
 go_wp2_with fail
 go_loopw [12] (fun u wr=>∃ i:Nat,i<=len/\u=.int .i64 i/\Hid (PB B b (l++jn (bL sep) ((xs.take i).map tx)) wr/\Wr B b w wr)) (fun u _=>len-(intOf u).toNat)
 case atStart=>exact ⟨0,Nat.zero_le _,rfl,Lh ⟨by simpa [jn] using HP.out,Wr.refl _ _ _⟩⟩
 case round =>
  obtain ⟨i,hi,rfl,hr⟩:=hrel;by_cases hlt:i<len
  ·obtain ⟨x,hxi⟩ : ∃ x,xs[i]?=some x:=⟨_,List.getElem?_eq_getElem (by rw [HLEN.out]; exact hlt)⟩
   have hlt':(i:Int)<len:=by omega
   have HXI:=Lh hxi;have hx:ValR wr B (V i) x:=ValR.stays.kept (HR.out i x hxi) hr.out.2.below;have HF1:=Lh (HF.out x (List.mem_of_getElem? hxi));obtain ⟨a,rfl,ha,hc0⟩:=HA.out (by omega);have hcc:∀ j,j<5->wr.cell? (at_ (a.add (i*5)) j)=some (V i j):=fun j hj=>(hr.out.2.below.cell (by rw [zb5,za1]; exact ha)).trans (hc0 i hlt j hj);have k0:wr.cell? (a.add (i*5))=some (V i 0):=hcc 0 (by omega);have k1:wr.cell? ⟨((a.add (i*5))).block,((a.add (i*5))).off+1,none⟩=some (V i 1):=hcc 1 (by omega);have k2:wr.cell? ⟨((a.add (i*5))).block,((a.add (i*5))).off+2,none⟩=some (V i 2):=hcc 2 (by omega);have k3:wr.cell? ⟨((a.add (i*5))).block,((a.add (i*5))).off+3,none⟩=some (V i 3):=hcc 3 (by omega);have k4:wr.cell? ⟨((a.add (i*5))).block,((a.add (i*5))).off+4,none⟩=some (V i 4):=hcc 4 (by omega);obtain ⟨k,n,s,VA,vli,vci,VK,vlk,vck,e0,e1,e2,e3,e4⟩:=Rd.form hx;rw [e0] at k0;rw [e1] at k1;rw [e2] at k2;rw [e3] at k3;rw [e4] at k4;have HX:=Lh hx;have HE:Hid (#[V i 0,V i 1,V i 2,V i 3,V i 4]=#[.int .i64 k,.int .i64 n,.string s,.slice VA vli vci,.slice VK vlk vck]):=Lh (by rw [e0,e1,e2,e3,e4]);clear hc0 hcc hx hxi e0 e1 e2 e3 e4;have hsz:=hr.out.2.below.size;have HT:Hid ((xs.map tx)[i]?=some (tx x)):=Lh (by rw [List.getElem?_map,HXI.out]; rfl);have HST:=Lh (zh1 (bL sep) HT.out);have HTK:Hid (jn (bL sep) ((xs.take (i+1)).map tx)=jn (bL sep) ((xs.take i).map tx)++((if i=0 then [] else bL sep)++tx x)):=Lh (by
    rw [List.map_take,List.map_take]; exact zp8 (bL sep) HT.out)
   have HMT:Hid ((xs.map tx).take i=(xs.take i).map tx):=Lh (by rw [List.map_take]);have HB1:Hid (Wr B b w (wr.alloc (.cells #[.int .i64 k,.int .i64 n,.string s,.slice VA vli vci,.slice VK vlk vck] 53 (0,0)))):=Lh (hr.out.2.alloc HBB.out _);have HX1:Hid (ValR (wr.alloc (.cells #[.int .i64 k,.int .i64 n,.string s,.slice VA vli vci,.slice VK vlk vck] 53 (0,0))) B (V i) x):=Lh (ValR.stays.kept HX.out ((Below.refl B wr).alloc (by omega) _));have HP1:=Lh (hr.out.1.alloc (.cells #[.int .i64 k,.int .i64 n,.string s,.slice VA vli vci,.slice VK vlk vck] 53 (0,0)));have HK1:=Lh (Bk.new wr #[.int .i64 k,.int .i64 n,.string s,.slice VA vli vci,.slice VK vlk vck] 53);have hbw:=hr.out.1.lt;by_cases hi0:i=0
   ·have hi0':¬ (i:Int) > 0:=by omega
    have HI0:=Lh hi0;have CALL:=Lh (HF1.out (V i) _ HX1.out _ HP1.out (HL.out.kept HB1.out.below) (by
     have h1:=HST.out; rw [HMT.out,if_pos HI0.out] at h1; have h2:=HLL.out; simp only [List.length_append,List.length_nil] at h1 ⊢; omega) (Nat.le_trans HBB.out HB1.out.below.size))
    rw [HE.out] at CALL;clear hi0;go_wp2_with fail;refine CALL.out.mono ?_
    rintro e w5 ⟨rfl,hp5,hw5⟩;have HP5:Hid (PB B b (l++jn (bL sep) ((xs.take (i+1)).map tx)) w5):=Lh (by rw [HTK.out,if_pos HI0.out,List.nil_append, <- List.append_assoc]; exact hp5);have HW5:=Lh (HB1.out.trans hw5);clear hp5 hw5 CALL;go_wp2_with fail
    go_roundw
    case rel=>exact ⟨i+1,by omega,by go_num,Lh ⟨HP5.out,HW5.out⟩⟩
    case measure=>simp [intOf]; omega
   ·have hi0':(i:Int) > 0:=by omega
    have HI0:=Lh hi0;clear hi0;go_wp2_with fail;refine (put1 sep B b _ _ _ (by simp) HP1.out (by
     have h1:=HST.out; rw [HMT.out,if_neg HI0.out] at h1; have h2:=HLL.out; simp only [List.length_append,za5] at h1 h2 ⊢; omega) (Nat.le_trans HBB.out HB1.out.below.size)).mono ?_
    rintro e w4 ⟨rfl,hp4,hw4⟩;have HP4:=Lh hp4;have HW4:=Lh (HB1.out.trans hw4);have HX4:Hid (ValR w4 B (V i) x):=Lh (ValR.stays.kept HX1.out hw4.below);have hK4:Bk w4 wr.heap.size #[.int .i64 k,.int .i64 n,.string s,.slice VA vli vci,.slice VK vlk vck] 53 := HK1.out.wr hw4 (by omega) (by decide);obtain ⟨y0,y1,y2,y3,y4⟩:=hK4.c5;clear hp4 hw4 hK4 k0 k1 k2 k3 k4;have CALL:=Lh (HF1.out (V i) _ HX4.out _ HP4.out (HL.out.kept HW4.out.below) (by
     have h1:=HST.out; rw [HMT.out,if_neg HI0.out] at h1; have h2:=HLL.out; simp only [List.length_append] at h1 ⊢; omega) (Nat.le_trans HBB.out HW4.out.below.size))
    rw [HE.out] at CALL;go_wp2_with fail;refine CALL.out.mono ?_
    rintro e w5 ⟨rfl,hp5,hw5⟩;have HP5:Hid (PB B b (l++jn (bL sep) ((xs.take (i+1)).map tx)) w5):=Lh (by rw [HTK.out,if_neg HI0.out]; simpa only [List.append_assoc] using hp5);have HW5:=Lh (HW4.out.trans hw5);clear hp5 hw5 CALL y0 y1 y2 y3 y4;go_wp2_with fail
    go_roundw
    case rel=>exact ⟨i+1,by omega,by go_num,Lh ⟨HP5.out,HW5.out⟩⟩
    case measure=>simp [intOf]; omega
  ·have:i=len:=by omega
   subst this;have HF:Hid (PB B b (l++jn (bL sep) (xs.map tx)) wr):=Lh (by have:=hr.out.1; rwa [List.take_of_length_le (by rw [HLEN.out]; exact Nat.le_refl _)] at this);go_wp2_with fail
   go_end0
   exact ⟨rfl,HF.out,hr.out.2⟩
end Go.Proofs.YtfgelheiknmjgaaGreatDoor

