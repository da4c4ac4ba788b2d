
/-
 Texts joined: N5 YIter YBuild.
-/
import Derived.Test.YtfgelheiknmjgaaGreatDoorZt39
import Derived.RangeFuncBox
import Derived.RangeFuncLeaves
import Derived.RangeFuncWrites
import Derived.RangeFuncBound
import Derived.RangeFuncCalls
import Derived.Shelf.RegionOpen
import Derived.OwnWalkIn
import Derived.TacticsInMore
import Derived.LoopNIn
import Derived.LoopIn
set_option maxRecDepth 1000000
set_option maxHeartbeats 8000000
namespace Go.Proofs.YtfgelheiknmjgaaGreatDoor
open Go.RowKit
theorem Rd.same {w:World} {B:Nat} {k' n' k n:Int} {s' s:ByteArray} {A:Option Addr} {li ci:Nat} {K:Option Addr} {lk ck:Nat} {items:List VT} {keys:List ByteArray}
  (h:Rd w B (.agg #[.int .i64 k',.int .i64 n',.string s',.slice A li ci,.slice K lk ck]) (.mk k n s items keys)):k'=k/\n'=n/\s'=s/\small n/\s.size<=140737488351232:=by
 cases h with
 | mk V hk hn hs=>exact ⟨rfl,rfl,rfl,hn,hs⟩
theorem fb1_t (w:World):Calls Tryz.prog 172 #[.bool true] w fun e w'=>e=.returned (.string ⟨#[116,114,117,101]⟩)/\w=w':=by
 go_enter Tryz.func172, Tryz.ntmps172
 go_wp2_with fail
 go_ret
 exact ⟨rfl,rfl⟩
theorem fb_t (w:World):Calls Tryz.prog 124 #[.bool true] w fun e w'=>e=.returned (.string ⟨#[116,114,117,101]⟩)/\w=w':=by
 go_enter Tryz.func124, Tryz.ntmps124
 go_wp2_with fail
 refine (fb1_t w).mono ?_
 rintro e w1 ⟨rfl,rfl⟩;go_wp2_with fail;go_ret
 exact ⟨rfl,rfl⟩
theorem fb1_f (w:World):Calls Tryz.prog 172 #[.bool false] w fun e w'=>e=.returned (.string ⟨#[102,97,108,115,101]⟩)/\w=w':=by
 go_enter Tryz.func172, Tryz.ntmps172
 go_wp2_with fail
 go_ret
 exact ⟨rfl,rfl⟩
theorem fb_f (w:World):Calls Tryz.prog 124 #[.bool false] w fun e w'=>e=.returned (.string ⟨#[102,97,108,115,101]⟩)/\w=w':=by
 go_enter Tryz.func124, Tryz.ntmps124
 go_wp2_with fail
 refine (fb1_f w).mono ?_
 rintro e w1 ⟨rfl,rfl⟩;go_wp2_with fail;go_ret
 exact ⟨rfl,rfl⟩
theorem zJ4 (B b:Nat):ValOk B b:=by
 intro t
 induction t using VT.ind with
 | h k n s items keys ih =>
 intro hf f w h l hp hL hl hB;obtain ⟨k',n',s',A,li,ci,K,lk,ck,e0,e1,e2,e3,e4⟩:=Rd.form h;have hv:Rd w B (.agg #[f 0,f 1,f 2,f 3,f 4]) (.mk k n s items keys):=h;rw [e0,e1,e2,e3,e4] at hv ⊢;clear e0 e1 e2 e3 e4 h;obtain ⟨rfl,rfl,rfl,hn,hsz⟩:=hv.same;rw [VT.fit] at hf;obtain ⟨hk,hf1,hf6,_,hs40,hfi⟩:=hf;have IH:Hid (∀ (i:Nat) (t:VT),items[i]?=some t->∀ (f:Nat->Value) (W:World),ValR W B f t->zg1 B b W 60 (.agg #[f 0,f 1,f 2,f 3,f 4]) t.src):=Lh fun i t hi f W=>ih i t hi (yn7 hfi hi) f W;clear ih hfi;have HR0:=Lh (hv.kept (za0 w (.cells #[.int .i64 k',.int .i64 n',.string s',.slice A li ci,.slice K lk ck] 53 (0,0)) |>.mono hB));clear hv;have HW0:Hid (Wr B b w (w.alloc (.cells #[.int .i64 k',.int .i64 n',.string s',.slice A li ci,.slice K lk ck] 53 (0,0)))):=Lh ((Wr.refl B b w).alloc hB _);have HP0:=Lh (hp.alloc (.cells #[.int .i64 k',.int .i64 n',.string s',.slice A li ci,.slice K lk ck] 53 (0,0)));have HK0:=Lh (Bk.new w #[.int .i64 k',.int .i64 n',.string s',.slice A li ci,.slice K lk ck] 53);have HL:=Lh hL;have HLL:=Lh hl;have HBB:=Lh hB;have hbw:=hp.lt;clear hL hl hB hp;by_cases hk0:k'=0
 ·subst hk0
  have hsrc:(VT.mk 0 n' s' items keys).src=[110,117,108,108]:=by rw [zo9]; rfl
  rw [hsrc] at HLL ⊢;clear hsrc hf1 hf6 hk
  go_enter Tryz.func60, Tryz.ntmps60
  obtain ⟨y0,y1,y2,y3,y4⟩:=HK0.out.c5;go_wp2_with fail;refine (put1 _ B b _ _ _ (by simp) HP0.out (by have h1:=HLL.out; (try simp only [za8,List.length_append,List.length_cons,List.length_nil,za5,za3] at h1 ⊢); omega) (Nat.le_trans HBB.out HW0.out.below.size)).mono ?_
  rintro e w1 ⟨rfl,hp,hw⟩;have HP1:=Lh hp;have HW1:=Lh (HW0.out.trans hw);have HK1:=Lh (HK0.out.wr hw (by omega) (by decide));have HR1:=Lh (Rd.kept HR0.out hw.below);clear hp hw;clear y0 y1 y2 y3 y4;obtain ⟨y0,y1,y2,y3,y4⟩:=HK1.out.c5;go_wp2_with fail
  go_end0
  exact ⟨rfl,by have h1:=HP1.out; (try simp only [List.append_assoc,List.append_nil] at h1); (try simp only [List.append_assoc]); (try simp only [List.append_nil]); exact h1,HW1.out⟩
 by_cases hk1:k'=1
 ·subst hk1
  by_cases hn0:n'=0
  ·subst hn0
   have hsrc:(VT.mk 1 0 s' items keys).src=[102,97,108,115,101]:=by rw [zo9]; rfl
   rw [hsrc] at HLL ⊢;clear hsrc hf1 hf6 hk
   go_enter Tryz.func60, Tryz.ntmps60
   obtain ⟨y0,y1,y2,y3,y4⟩:=HK0.out.c5;go_wp2_with fail;refine (fb_f _).mono ?_
   rintro e w' ⟨rfl,rfl⟩;go_wp2_with fail;refine (put1 _ B b _ _ _ (by simp) HP0.out (by have h1:=HLL.out; (try simp only [za8,List.length_append,List.length_cons,List.length_nil,za5,za3] at h1 ⊢); omega) (Nat.le_trans HBB.out HW0.out.below.size)).mono ?_
   rintro e w1 ⟨rfl,hp,hw⟩;have HP1:=Lh hp;have HW1:=Lh (HW0.out.trans hw);have HK1:=Lh (HK0.out.wr hw (by omega) (by decide));have HR1:=Lh (Rd.kept HR0.out hw.below);clear hp hw;clear y0 y1 y2 y3 y4;obtain ⟨y0,y1,y2,y3,y4⟩:=HK1.out.c5;go_wp2_with fail
   go_end0
   exact ⟨rfl,by have h1:=HP1.out; (try simp only [List.append_assoc,List.append_nil] at h1); (try simp only [List.append_assoc]); (try simp only [List.append_nil]); exact h1,HW1.out⟩
  ·have hn0':(n' != 0)=true:=by simp [hn0]
   have hsrc:(VT.mk 1 n' s' items keys).src=[116,114,117,101]:=by rw [zo9]; simp [hn0,trueB]
   rw [hsrc] at HLL ⊢;clear hsrc hf1 hf6 hk hn0
   go_enter Tryz.func60, Tryz.ntmps60
   obtain ⟨y0,y1,y2,y3,y4⟩:=HK0.out.c5;go_wp2_with fail;refine (fb_t _).mono ?_
   rintro e w' ⟨rfl,rfl⟩;go_wp2_with fail;refine (put1 _ B b _ _ _ (by simp) HP0.out (by have h1:=HLL.out; (try simp only [za8,List.length_append,List.length_cons,List.length_nil,za5,za3] at h1 ⊢); omega) (Nat.le_trans HBB.out HW0.out.below.size)).mono ?_
   rintro e w1 ⟨rfl,hp,hw⟩;have HP1:=Lh hp;have HW1:=Lh (HW0.out.trans hw);have HK1:=Lh (HK0.out.wr hw (by omega) (by decide));have HR1:=Lh (Rd.kept HR0.out hw.below);clear hp hw;clear y0 y1 y2 y3 y4;obtain ⟨y0,y1,y2,y3,y4⟩:=HK1.out.c5;go_wp2_with fail
   go_end0
   exact ⟨rfl,by have h1:=HP1.out; (try simp only [List.append_assoc,List.append_nil] at h1); (try simp only [List.append_assoc]); (try simp only [List.append_nil]); exact h1,HW1.out⟩
 by_cases hk2:k'=2
 ·subst hk2
  have hsrc:(VT.mk 2 n' s' items keys).src=Lib.itoa n':=by rw [zo9]; rfl
  rw [hsrc] at HLL ⊢;clear hsrc hf1 hf6 hk
  go_enter Tryz.func60, Tryz.ntmps60
  obtain ⟨y0,y1,y2,y3,y4⟩:=HK0.out.c5;go_wp2_with fail;refine (T1.decimalP_any n' _ (HL.out.kept HW0.out.below).is hn.1 hn.2).mono ?_
  rintro e w1 ⟨rfl,hb1⟩;have HP1:=Lh (HP0.out.kept hb1);have HW1:Hid (Wr B b w w1):=Lh (HW0.out.trans (Wr.of (Nat.le_trans HBB.out HW0.out.below.size) hb1));have HK1:=Lh (HK0.out.stay hb1);clear hb1;clear y0 y1 y2 y3 y4;obtain ⟨y0,y1,y2,y3,y4⟩:=HK1.out.c5;go_wp2_with fail;refine (put1 _ B b _ _ _ (by simp) HP1.out (by have h1:=HLL.out; (try simp only [za8,List.length_append,List.length_cons,List.length_nil,za5,za3] at h1 ⊢); omega) (Nat.le_trans HBB.out HW1.out.below.size)).mono ?_
  rintro e w2 ⟨rfl,hp,hw⟩;have HP2:=Lh hp;have HW2:=Lh (HW1.out.trans hw);have HK2:=Lh (HK1.out.wr hw (by omega) (by decide));clear hp hw;clear y0 y1 y2 y3 y4;obtain ⟨y0,y1,y2,y3,y4⟩:=HK2.out.c5;go_wp2_with fail
  go_end0
  exact ⟨rfl,by have h1:=HP2.out; (try simp only [List.append_assoc,List.append_nil] at h1); (try simp only [List.append_assoc]); (try simp only [List.append_nil]); exact h1,HW2.out⟩
 by_cases hk3:k'=3
 ·subst hk3
  have hsrc:(VT.mk 3 n' s' items keys).src=T1.zj4 s'.data.toList:=by rw [zo9]; rfl
  rw [hsrc] at HLL ⊢;clear hsrc hf1 hf6 hk
  go_enter Tryz.func60, Tryz.ntmps60
  obtain ⟨y0,y1,y2,y3,y4⟩:=HK0.out.c5;go_wp2_with fail;refine (T1.yh1 s' _ hs40).mono ?_
  rintro e w1 ⟨rfl,hb1⟩;have HP1:=Lh (HP0.out.kept hb1);have HW1:Hid (Wr B b w w1):=Lh (HW0.out.trans (Wr.of (Nat.le_trans HBB.out HW0.out.below.size) hb1));have HK1:=Lh (HK0.out.stay hb1);clear hb1;clear y0 y1 y2 y3 y4;obtain ⟨y0,y1,y2,y3,y4⟩:=HK1.out.c5;go_wp2_with fail;refine (put1 _ B b _ _ _ (by simp) HP1.out (by have h1:=HLL.out; (try simp only [za8,List.length_append,List.length_cons,List.length_nil,za5,za3] at h1 ⊢); omega) (Nat.le_trans HBB.out HW1.out.below.size)).mono ?_
  rintro e w2 ⟨rfl,hp,hw⟩;have HP2:=Lh hp;have HW2:=Lh (HW1.out.trans hw);have HK2:=Lh (HK1.out.wr hw (by omega) (by decide));clear hp hw;clear y0 y1 y2 y3 y4;obtain ⟨y0,y1,y2,y3,y4⟩:=HK2.out.c5;go_wp2_with fail
  go_end0
  exact ⟨rfl,by have h1:=HP2.out; (try simp only [List.append_assoc,List.append_nil] at h1); (try simp only [List.append_assoc]); (try simp only [List.append_nil]); exact h1,HW2.out⟩
 by_cases hk4:k'=4
 ·subst hk4
  have hsrc:(VT.mk 4 n' s' items keys).src=bL s':=by rw [zo9]; rfl
  rw [hsrc] at HLL ⊢;clear hsrc hf1 hf6 hk
  go_enter Tryz.func60, Tryz.ntmps60
  obtain ⟨y0,y1,y2,y3,y4⟩:=HK0.out.c5;go_wp2_with fail;refine (put1 _ B b _ _ _ (by simp) HP0.out (by have h1:=HLL.out; (try simp only [za8,List.length_append,List.length_cons,List.length_nil,za5,za3] at h1 ⊢); omega) (Nat.le_trans HBB.out HW0.out.below.size)).mono ?_
  rintro e w1 ⟨rfl,hp,hw⟩;have HP1:=Lh hp;have HW1:=Lh (HW0.out.trans hw);have HK1:=Lh (HK0.out.wr hw (by omega) (by decide));have HR1:=Lh (Rd.kept HR0.out hw.below);clear hp hw;clear y0 y1 y2 y3 y4;obtain ⟨y0,y1,y2,y3,y4⟩:=HK1.out.c5;go_wp2_with fail
  go_end0
  exact ⟨rfl,by have h1:=HP1.out; (try simp only [List.append_assoc,List.append_nil] at h1); (try simp only [List.append_assoc]); (try simp only [List.append_nil]); exact h1,HW1.out⟩
 by_cases hk7:k'=7
 ·subst hk7
  have hsrc:(VT.mk 7 n' s' items keys).src=36::bL s':=by rw [zo9]; rfl
  rw [hsrc] at HLL ⊢;clear hsrc hf1 hf6 hk
  go_enter Tryz.func60, Tryz.ntmps60
  obtain ⟨y0,y1,y2,y3,y4⟩:=HK0.out.c5;go_wp2_with fail;refine (put2 _ _ B b _ _ _ (by simp) HP0.out (by have h1:=HLL.out; (try simp only [za8,List.length_append,List.length_cons,List.length_nil,za5,za3] at h1 ⊢); omega) (Nat.le_trans HBB.out HW0.out.below.size)).mono ?_
  rintro e w1 ⟨rfl,hp,hw⟩;have HP1:=Lh hp;have HW1:=Lh (HW0.out.trans hw);have HK1:=Lh (HK0.out.wr hw (by omega) (by decide));have HR1:=Lh (Rd.kept HR0.out hw.below);clear hp hw;clear y0 y1 y2 y3 y4;obtain ⟨y0,y1,y2,y3,y4⟩:=HK1.out.c5;go_wp2_with fail
  go_end0
  exact ⟨rfl,by have h1:=HP1.out; (try simp only [List.append_assoc,List.append_nil] at h1); (try simp only [List.append_assoc]); (try simp only [List.append_nil]); exact h1,HW1.out⟩
 by_cases hk5:k'=5
 ·subst hk5
  have hsrc:(VT.mk 5 n' s' items keys).src=91::(jn [44,32] (items.map VT.src)++[93]):=by rw [zo9]; rfl
  rw [hsrc] at HLL ⊢;clear hsrc hf1 hf6 hk
  go_enter Tryz.func60, Tryz.ntmps60
  obtain ⟨y0,y1,y2,y3,y4⟩:=HK0.out.c5;go_wp2_with fail;refine (put1 _ B b _ _ _ (by simp) HP0.out (by have h1:=HLL.out; (try simp only [za8,List.length_append,List.length_cons,List.length_nil,za5,za3] at h1 ⊢); omega) (Nat.le_trans HBB.out HW0.out.below.size)).mono ?_
  rintro e w1 ⟨rfl,hp,hw⟩;have HP1:=Lh hp;have HW1:=Lh (HW0.out.trans hw);have HK1:=Lh (HK0.out.wr hw (by omega) (by decide));have HR1:=Lh (Rd.kept HR0.out hw.below);clear hp hw;clear y0 y1 y2 y3 y4;obtain ⟨y0,y1,y2,y3,y4⟩:=HK1.out.c5;go_wp2_with fail;refine (zY1 B b items VT.src (fun y hy f W hR=>by obtain ⟨i,hi⟩:=List.mem_iff_getElem?.1 hy; exact IH.out i y hi f W hR) _ _ _ _ HR1.out.vals HP1.out (HL.out.kept HW1.out.below) (by have h1:=HLL.out; (try simp only [za8,List.length_append,List.length_cons,List.length_nil,za5,za3] at h1 ⊢); omega) (Nat.le_trans HBB.out HW1.out.below.size)).mono ?_
  rintro e w2 ⟨rfl,hp,hw⟩;have HP2:=Lh hp;have HW2:=Lh (HW1.out.trans hw);have HK2:=Lh (HK1.out.wr hw (by omega) (by decide));have HR2:=Lh (Rd.kept HR1.out hw.below);clear hp hw;clear y0 y1 y2 y3 y4;obtain ⟨y0,y1,y2,y3,y4⟩:=HK2.out.c5;go_wp2_with fail;refine (put1 _ B b _ _ _ (by simp) HP2.out (by have h1:=HLL.out; (try simp only [za8,List.length_append,List.length_cons,List.length_nil,za5,za3] at h1 ⊢); omega) (Nat.le_trans HBB.out HW2.out.below.size)).mono ?_
  rintro e w3 ⟨rfl,hp,hw⟩;have HP3:=Lh hp;have HW3:=Lh (HW2.out.trans hw);have HK3:=Lh (HK2.out.wr hw (by omega) (by decide));have HR3:=Lh (Rd.kept HR2.out hw.below);clear hp hw;clear y0 y1 y2 y3 y4;obtain ⟨y0,y1,y2,y3,y4⟩:=HK3.out.c5;go_wp2_with fail
  go_end0
  exact ⟨rfl,by have h1:=HP3.out; (try simp only [List.append_assoc,List.append_nil] at h1); (try simp only [List.append_assoc]); (try simp only [List.append_nil]); exact h1,HW3.out⟩
 by_cases hk6:k'=6
 ·subst hk6
  have HKL:=Lh (hf6 rfl);have hsrc:(VT.mk 6 n' s' items keys).src=123::(jn [44,32] (zh6 keys items)++[125]):=by rw [zo9]; rfl
  rw [hsrc] at HLL ⊢;clear hsrc hf1 hf6 hk
  go_enter Tryz.func60, Tryz.ntmps60
  obtain ⟨y0,y1,y2,y3,y4⟩:=HK0.out.c5;go_wp2_with fail;refine (zQ8 B b _ _ _ _ _ HKL.out IH.out _ _ _ _ _ _ _ HR0.out _ HP0.out (HL.out.kept HW0.out.below) (by have h1:=HLL.out; (try simp only [za8,List.length_append,List.length_cons,List.length_nil,za5,za3] at h1 ⊢); omega) (Nat.le_trans HBB.out HW0.out.below.size)).mono ?_
  rintro e w1 ⟨rfl,hp,hw⟩;have HP1:=Lh hp;have HW1:=Lh (HW0.out.trans hw);have HK1:=Lh (HK0.out.wr hw (by omega) (by decide));have HR1:=Lh (Rd.kept HR0.out hw.below);clear hp hw;clear y0 y1 y2 y3 y4;obtain ⟨y0,y1,y2,y3,y4⟩:=HK1.out.c5;go_wp2_with fail
  go_end0
  exact ⟨rfl,by have h1:=HP1.out; (try simp only [List.append_assoc,List.append_nil] at h1); (try simp only [List.append_assoc]); (try simp only [List.append_nil]); exact h1,HW1.out⟩
 exfalso; omega
end Go.Proofs.YtfgelheiknmjgaaGreatDoor
namespace Go.Proofs.YtfgelheiknmjgaaGreatDoor.K
open Go.RowKit Go.Shelf
attribute [local go_sem] Oper.semAt_some
def bwL (xs:Ws) (k:Nat):List (Int × Int):=(List.range k).map fun j=>(((xs.length-1-j:Nat):Int),xs.getD (xs.length-1-j) 0)
theorem bw_succ (xs:Ws) (k:Nat):bwL xs (k+1)=bwL xs k++[(((xs.length-1-k:Nat):Int),xs.getD (xs.length-1-k) 0)]:=by simp [bwL,List.range_succ]
theorem bw_len (xs:Ws) (k:Nat):(bwL xs k).length=k:=by simp [bwL]
theorem bw_all (xs:Ws):(bwL xs xs.length).map (fun p=>p.2)=xs.reverse:=by
 apply List.ext_getElem
 ·simp [bwL]
 ·intro i h1 h2
  have hi:i<xs.length:=by simpa [bwL] using h1
  have h3:xs.length-1-i<xs.length:=by omega
  simp [bwL,h3]
def KpB (n0 b:Nat) (W W':World):Prop:=Below n0 W W'/\W'.heap[b]?=W.heap[b]?
theorem KpB.trans {n0 b:Nat} {A B C:World} (h:KpB n0 b A B) (k:KpB n0 b B C):KpB n0 b A C:=⟨h.1.trans k.1,k.2.trans h.2⟩
theorem KpB.refl (n0 b:Nat) (W:World):KpB n0 b W W:=⟨Below.refl _ _,rfl⟩
theorem bwd1_in (F:Fence) (n:Nat) (h7:F.fn 214) (hro:F.round=none) (hn:1<=n) (l Bs n0:Nat) (A:Option Addr) (c:Nat) (xs:Ws) (hl:xs.length<=1000000) (J Jx:List (Int × Int)->World->Prop)
  (hY:∀ pre x W,J pre W->pre.length<xs.length->YieldAt F (n-1) Tryz.prog l #[.int .i64 x.1,.int .i64 x.2] W fun e W' =>
    (e=.returned (.bool true)/\J (pre++[x]) W'/\KpB n0 Bs W W')∨(e=.returned (.bool false)/\Jx (pre++[x]) W'))
  (W:World) (hBs:W.cell? ⟨Bs,0,none⟩=some (.slice A xs.length c)) (hc:IntsAt W n0 A xs) (h0:J [] W) :
  CallsIn F n Tryz.prog 214 #[.func (.yield l) #[] #[],.pointer (some ⟨Bs,0,none⟩)] W fun e W'=>(∃ v,e=.returned v) /\
   ((∃ ys,ys=bwL xs xs.length/\J ys W')∨(∃ pre,(∃ k,k<=xs.length/\pre=bwL xs k)/\Jx pre W')):=by
 refine callsIn_of_wp Tryz.func214 rfl h7 ?_ hro
 simp only [Tryz.ntmps214,List.size_toArray,List.length_cons,List.length_nil,Nat.reduceAdd,Nat.reduceSub,Array.replicate_succ,Array.replicate_zero,List.push_toArray,List.append_toArray,List.nil_append,List.cons_append]
 have hlm:((xs.length:Int)<=1000000):=by omega
 gi_wp2
 gi_loopw [3] (fun i wr=>∃ m:Nat,m<=xs.length/\i=.int .i64 ((m:Int)-1)/\J (bwL xs (xs.length-m)) wr/\KpB n0 Bs W wr)
  (fun i _=>(intOf i+1).toNat)
 case atStart=>exact ⟨xs.length,Nat.le_refl _,rfl,by rw [Nat.sub_self]; exact h0,KpB.refl _ _ _⟩
 case round =>
  obtain ⟨m,hm,rfl,hJs,hnx⟩:=hrel;have hbs:wr.cell? ⟨Bs,0,none⟩=some (.slice A xs.length c):=(World.cell?_of_block (w:=W) hnx.2).trans hBs
  cases m with
  | zero =>
    gi_wp2
    go_end0
    exact ⟨⟨_,rfl⟩,.inl ⟨_,rfl,hJs⟩⟩
  | succ j =>
    obtain ⟨a,ea,ha,hcell⟩:=hc.kept hnx.1 (by omega);subst ea;have hj:j<xs.length:=by omega
    have hcx:=hcell j _ (List.getElem?_eq_getElem hj);have e1:xs.length-1-(xs.length-(j+1))=j:=by omega
    have e2:xs.length-(j+1)+1=xs.length-j:=by omega
    have e3:xs.getD j 0=xs[j]:=by simp [hj]
    have hbw:=bw_succ xs (xs.length-(j+1));rw [e1,e2,e3] at hbw;generalize xs[j]=x at *;have hjl:(j:Int)<xs.length:=by omega
    obtain ⟨fn,tmps,assign,body,hy,hR⟩:=hY _ ((j:Int),x) wr hJs (by rw [bw_len]; omega)
    dsimp only at hy
    have HBW:=Lh hbw;have HNX:=Lh hnx;clear hbw hnx e1 e2 e3 hcell hj
    gi_wp2
    refine hR.mono ?_
    rintro e W3 (⟨rfl,hJ3,hk3⟩ | ⟨rfl,hJx3⟩)
    ·have HJ3:=Lh hJ3
     have HK3:=Lh hk3;clear hJ3 hk3
     gi_wp2
     go_roundw
     case rel=>exact ⟨j,by omega,by go_num,by rw [HBW.out]; exact HJ3.out,HNX.out.trans HK3.out⟩
     case measure=>simp [intOf]
    ·have HJ3:=Lh hJx3
     clear hJx3
     gi_wp2
     refine bodyPost_ret (results_none rfl _ _ _) rfl ?_
     exact ⟨⟨_,rfl⟩,.inr ⟨_,⟨_,by omega,HBW.out.symm⟩,HJ3.out⟩⟩
theorem bwd_in (F:Fence) (n:Nat) (h5:F.fn 181) (hro:F.round=none) (a:Option Addr) (len cap:Nat) (w:World) :
  CallsIn F n Tryz.prog 181 #[.slice a len cap] w fun e w'=>e=.returned (.func (.func 214) #[] #[.pointer (some ⟨w.heap.size,0,none⟩)])/\w'=w.alloc (.cells #[.slice a len cap] 42):=by
 refine callsIn_of_wp Tryz.func181 rfl h5 ?_ hro
 simp only [Tryz.ntmps181,List.size_toArray,List.length_cons,List.length_nil,Nat.reduceAdd,Nat.reduceSub,Array.replicate_succ,Array.replicate_zero,List.push_toArray,List.append_toArray,List.nil_append,List.cons_append]
 gi_wp2
 go_ret
 exact ⟨rfl,rfl⟩
theorem yq3 (F:Fence) (n:Nat) (h7:F.fn 214) (hro:F.round=none) (hn:1<=n) (Bs n0:Nat) (A:Option Addr) (c:Nat) (xs:Ws) (hl:xs.length<=1000000) (w:World) (hBs:Bs<w.heap.size) (hn0:n0<=w.heap.size)
  (hc:w.cell? ⟨Bs,0,none⟩=some (.slice A xs.length c)) (hI:IntsAt w n0 A xs) :
  SeqStopsK F n Tryz.prog 214 #[.pointer (some ⟨Bs,0,none⟩)] (fun x:Int × Int=>#[Value.int .i64 x.1,Value.int .i64 x.2]) (KpB n0 Bs) (fun ys=>ys=bwL xs xs.length)
   (fun pre=>∃ k,k<=xs.length/\pre=bwL xs k) xs.length w:=fun l J Jx W hW _ _ hY h0 =>
 bwd1_in F n h7 hro hn l Bs n0 A c xs hl J Jx hY W ((hW.cell (p:=⟨Bs,0,none⟩) hBs).trans hc) (hI.kept (hW.mono hn0)) h0
end Go.Proofs.YtfgelheiknmjgaaGreatDoor.K
namespace Go.Proofs.YtfgelheiknmjgaaGreatDoor.K
open Go.RowKit
abbrev ypp (b:Nat):Value:=.pointer (some ⟨b,0,none⟩)
open Go.RowKit
def layW:Go.Shelf.Ren:=⟨fun | 166 => 129 | 240 => 175 | 276 => 208 | n=>n,fun | 0 => 0 | 3 => 3 | 4 => 4 | 5 => 5 | 9 => 9 | 20 => 20 | 37 => 73 | 70 => 72 | 72 => 75 | 75 => 163 | 80 => 81 | 164 => 223 | n=>n,fun n=>n⟩
theorem lay166:Go.Proofs.Lays.n166 Tryz.prog layW:={
 mixed:=by kernel_rfl
 f166:=Tryz.func129.trans (congrArg some (by kernel_rfl))
 f240:=Tryz.func175.trans (congrArg some (by kernel_rfl))
 f276:=Tryz.func208.trans (congrArg some (by kernel_rfl))
 t0:=Tryz.underlying0
 a0:=Tryz.isAgg0
 z0:=Tryz.sizeOf0
 v0:=Tryz.zeroValue0
 t3:=Tryz.underlying3
 a3:=Tryz.isAgg3
 z3:=Tryz.sizeOf3
 v3:=Tryz.zeroValue3
 t4:=Tryz.underlying4
 a4:=Tryz.isAgg4
 z4:=Tryz.sizeOf4
 v4:=Tryz.zeroValue4
 t9:=Tryz.underlying9
 a9:=Tryz.isAgg9
 z9:=Tryz.sizeOf9
 v9:=Tryz.zeroValue9
 t20:=Tryz.underlying20
 a20:=Tryz.isAgg20
 z20:=Tryz.sizeOf20
 v20:=Tryz.zeroValue20
 t37:=Tryz.underlying73
 a37:=Tryz.isAgg73
 z37:=Tryz.sizeOf73
 v37:=Tryz.zeroValue73
 t70:=Tryz.underlying72
 a70:=Tryz.isAgg72
 z70:=Tryz.sizeOf72
 v70:=Tryz.zeroValue72
 t72:=Tryz.underlying75
 a72:=Tryz.isAgg75
 z72:=Tryz.sizeOf75
 v72:=Tryz.zeroValue75
 t75:=Tryz.underlying163
 a75:=Tryz.isAgg163
 z75:=Tryz.sizeOf163
 v75:=Tryz.zeroValue163
 t164:=Tryz.underlying223
 a164:=Tryz.isAgg223
 z164:=Tryz.sizeOf223
 v164:=Tryz.zeroValue223 }
theorem layX:Builder.Extra Tryz.prog layW:={
 sizeBuilder:=by kernel_rfl
 liesBuilder:=by kernel_rfl
 t5:=Tryz.underlying5
 a5:=Tryz.isAgg5
 z5:=Tryz.sizeOf5
 v5:=Tryz.zeroValue5
 infoByte:=by kernel_rfl
 cellsByte:=by kernel_rfl
 sizeByte:=by kernel_rfl
 neB5:=by decide }
abbrev BD (B b:Nat) (l:List UInt8) (w:World):Prop:=Lib.IsBuilderF 75 5 B b (Lib.byteCells l) w
theorem zh3 (B b:Nat) (l:List UInt8) (s:ByteArray) (w:World) (h:BD B b l w) (hl:l.length+s.size<=1099511627776) (hB:B<=w.heap.size) :
  Calls Tryz.prog 129 #[ypp b,.string s] w fun e w'=>e=.returned (.tuple #[.int .i64 s.size,.nilIface])/\BD B b (l++s.data.toList) w'/\Below B w w'/\Lib.OthersKept 5 (some b) w w':=by
 refine (Any.Builder_WriteString_k lay166 layX B b (Lib.byteCells l) s w h (by simp [Lib.byteCells]; omega) hB).mono ?_
 rintro e w' ⟨rfl,h1,h2⟩;refine ⟨rfl,.inr ?_,h2⟩;have e1:Lib.byteCells l++Lib.strCells s=Lib.byteCells (l++s.data.toList):=by simp [Lib.byteCells,Lib.strCells]
 rw [<- e1];exact h1
end Go.Proofs.YtfgelheiknmjgaaGreatDoor.K

