
/-
 Texts joined: YMem YMake YParts YCmp YRight D3.
-/
import Derived.Test.YthjoelpfmimedaaGreatDoorZp6
import Derived.Test.YthjoelpfmimedaaGreatDoorZp21
import Derived.ArgAppend
import Derived.DataElems
import Derived.Shelf.Abstract
import Derived.Test.YthjoelpfmimedaaGreatDoorZp1
import Derived.Test.YthjoelpfmimedaaGreatDoorZp5
namespace Go.Proofs.YthjoelpfmimedaaGreatDoor.K
open Go.RowKit
def IntsAt (w:World) (B:Nat) (A:Option Addr) (xs:Ws):Prop:=0 < xs.length → ∃ a,A = some a ∧ a.block < B ∧ ∀ (i:Nat) (x:Int),xs[i]? = some x → w.cell? (a.add i) = some (.int .i64 x)
theorem IntsAt.kept {w w':World} {B:Nat} {A:Option Addr} {xs:Ws} (h:IntsAt w B A xs) (hb:Below B w w'):IntsAt w' B A xs:=fun h0 => by
 obtain ⟨a,e,ha,hc⟩:=h h0
 exact ⟨a,e,ha,fun i x hx => (World.cell?_of_block (w:=w) (hb.block _ (by rw [za1]; exact ha))).trans (hc i x hx)⟩
theorem IntsAt.mono {w:World} {B B':Nat} {A:Option Addr} {xs:Ws} (h:IntsAt w B A xs) (hB:B ≤ B'):IntsAt w B' A xs:=fun h0 => by
 obtain ⟨a,e,ha,hc⟩:=h h0
 exact ⟨a,e,Nat.lt_of_lt_of_le ha hB,hc⟩
theorem IntsAt.stay {w w':World} {A:Option Addr} {xs:Ws} (h:IntsAt w w.heap.size A xs) (hb:Below w.heap.size w w'):IntsAt w' w'.heap.size A xs:=(h.kept hb).mono hb.size
def SlV (w:World) (B:Nat) (v:Value) (xs:Ws):Prop:=∃ A c,v = .slice A xs.length c ∧ xs.length ≤ c ∧ IntsAt w B A xs
def RefV (w:World) (B:Nat) (v:Value) (n:ByteArray) (xs:Ws):Prop:=∃ A c,v = .agg #[.string n,.slice A xs.length c] ∧ xs.length ≤ c ∧ IntsAt w B A xs
theorem RefV.kept {w w':World} {B:Nat} {v:Value} {n:ByteArray} {xs:Ws} (h:RefV w B v n xs) (hb:Below B w w'):RefV w' B v n xs:=by
 obtain ⟨A,c,e,hc,h⟩:=h; exact ⟨A,c,e,hc,h.kept hb⟩
theorem RefV.mono {w:World} {B B':Nat} {v:Value} {n:ByteArray} {xs:Ws} (h:RefV w B v n xs) (hB:B ≤ B'):RefV w B' v n xs:=by
 obtain ⟨A,c,e,hc,h⟩:=h; exact ⟨A,c,e,hc,h.mono hB⟩
def BxR (W:World) (b:Nat) (c0 c1:Value):Prop:=W.heap[b]? = some (.cells #[c0,c1] 50 (0,0))
theorem BxR.cells {W:World} {b:Nat} {c0 c1:Value} (h:BxR W b c0 c1):W.cell? ⟨b,0,none⟩ = some c0 ∧ W.cell? ⟨b,1,none⟩ = some c1:=by
 refine ⟨?_, ?_⟩ <;> rw [cell_of_row _ _ _ _ _ _ h] <;> rfl
theorem BxR.lt {W:World} {b:Nat} {c0 c1:Value} (h:BxR W b c0 c1):b < W.heap.size:=by
 unfold BxR at h
 rcases Nat.lt_or_ge b W.heap.size with h' | h'
 ·exact h'
 ·rw [Array.getElem?_eq_none h'] at h; cases h
theorem BxR.kept {W W':World} {b:Nat} {c0 c1:Value} (h:BxR W b c0 c1) (hb:W'.heap[b]? = W.heap[b]?):BxR W' b c0 c1:=hb.trans h
theorem BxR.stay {W W':World} {b:Nat} {c0 c1:Value} (h:BxR W b c0 c1) (hb:Below W.heap.size W W'):BxR W' b c0 c1:=h.kept (hb.block b h.lt)
theorem BxR.new (W:World) (c0 c1:Value):BxR (W.alloc (.cells #[c0,c1] 50 (0,0))) W.heap.size c0 c1:=heap_alloc_new _ _
theorem BxR.alloc {W:World} {b:Nat} {c0 c1:Value} (h:BxR W b c0 c1) (o:Obj):BxR (W.alloc o) b c0 c1:=h.stay ((Below.refl _ _).alloc (Nat.le_refl _) _)
theorem BxR.both (w:World) (c0 c1 d0 d1:Value):let W:=(w.alloc (.cells #[c0,c1] 50 (0,0))).alloc (.cells #[d0,d1] 50 (0,0))
  BxR W w.heap.size c0 c1 ∧ BxR W (w.heap.size + 1) d0 d1 ∧ Below w.heap.size w W ∧ W.heap.size = w.heap.size + 2:=by
 refine ⟨(BxR.new _ _ _).alloc _, ?_,((Below.refl _ _).alloc (Nat.le_refl _) _).alloc (by simp) _,by simp⟩
 have:=BxR.new (w.alloc (.cells #[c0,c1] 50 (0,0))) d0 d1
 simpa using this
section
variable {ops:Array Oper} {Q:Exit → Act → World → Prop} {o:Oper} {a:Act} {w:World} {R:Value → World → Prop}
theorem str_eq (n m:ByteArray):(n.toList == m.toList) = decide (n = m):=by
 rw [Lib.toList_data,Lib.toList_data]
 by_cases h:n = m
 ·subst h; simp
 ·have:¬ n.data = m.data:=fun e => h (by cases n; cases m; simp at e; rw [e])
  simp [h,this]
end
end Go.Proofs.YthjoelpfmimedaaGreatDoor.K
namespace Go.Proofs.YthjoelpfmimedaaGreatDoor.K
open Go.RowKit
end Go.Proofs.YthjoelpfmimedaaGreatDoor.K
namespace Go.Proofs.YthjoelpfmimedaaGreatDoor.K
open Go.RowKit
def zj8 (b:Bool) (w:World) (e:Ending) (w':World):Prop:=e = .returned (.bool b) ∧ Below w.heap.size w w'
end Go.Proofs.YthjoelpfmimedaaGreatDoor.K
namespace Go.Proofs.YthjoelpfmimedaaGreatDoor.K
open Go.RowKit
theorem zh1 {w wr:World} {B k:Nat} {A:Option Addr} {xs:Ws} (h:IntsAt w B A xs) (hb:Below B w wr) (hk:k < xs.length):∃ a x,A = some a ∧ a.block < B ∧ xs[k]? = some x ∧ wr.cell? (a.add k) = some (.int .i64 x):=by
 obtain ⟨a,e,ha,hc⟩:=(h.kept hb) (by omega)
 exact ⟨a,xs[k],e,ha,List.getElem?_eq_getElem hk,hc k _ (List.getElem?_eq_getElem hk)⟩
theorem zh6 {W:World} {a:Addr} {v:Value} (h:W.cell? a = some v) (ha:a.block < W.heap.size) (x:Past W):x.w.cell? a = some v:=(World.cell?_of_block (w:=W) (x.b.block _ ha)).trans h
theorem zt8 {xs:Ws} {k:Nat} {x:Int} (h:xs[k]? = some x):xs.take (k + 1) = xs.take k ++ [x]:=by
 obtain ⟨h1,h2⟩:=List.getElem?_eq_some_iff.1 h
 rw [← h2]; exact (List.take_append_getElem h1).symm
theorem drop_one {xs:Ws} {k:Nat} {x:Int} (h:xs[k]? = some x):xs.drop k = x :: xs.drop (k + 1):=by
 obtain ⟨h1,h2⟩:=List.getElem?_eq_some_iff.1 h
 rw [← h2]; exact List.drop_eq_getElem_cons h1
set_option maxRecDepth 100000 in
set_option maxHeartbeats 2000000 in
theorem same_any (xs ys:Ws) (v u:Value) (w:World) (hx:SlV w w.heap.size v xs) (hy:SlV w w.heap.size u ys) (hl:xs.length ≤ 1000000):Calls Tryz.prog 130 #[v,u] w (zj8 (decide (xs = ys)) w):=by
 obtain ⟨A,c,rfl,hc,hi⟩:=hx
 obtain ⟨B,d,rfl,hd,hj⟩:=hy
 by_cases hlen:xs.length = ys.length
 ·have HA:=Lib.hid hi
  have HB:=Lib.hid hj
  have HLEN:Hid ((xs.length:Int) ≤ 1000000):=Lib.hid (by omega)
  have HL:=Lib.hid hlen
  rw [← hlen]
  clear hc hi hd hj hl hlen
  go_enter Tryz.func130, Tryz.ntmps130
  go_wp2_with fail
  go_loopw [5] (fun i wr => ∃ k:Nat,i = .int .i64 k ∧ k ≤ xs.length ∧ xs.take k = ys.take k ∧ Below w.heap.size w wr) (fun i _ => xs.length - (intOf i).toNat)
  case atStart => exact ⟨0,rfl,Nat.zero_le _,rfl,Below.refl _ _⟩
  case round =>
   obtain ⟨k,rfl,hk,he,hw⟩:=hrel
   have HE:=Lib.hid he
   have HW:=Lib.hid hw
   have hlm:=HLEN.out
   clear he
   by_cases hlt:k < xs.length
   ·obtain ⟨a,x,rfl,ha,hp,h0⟩:=zh1 HA.out hw hlt
    obtain ⟨b,y,rfl,hb,hq,h1⟩:=zh1 HB.out hw (by rw [← HL.out]; exact hlt)
    have hlt':(k:Int) < xs.length:=by omega
    have HP:=Lib.hid hp
    have HQ:=Lib.hid hq
    have HA0:Hid ((a.add k).block < wr.heap.size):=Lib.hid (by rw [za1]; exact Nat.lt_of_lt_of_le ha hw.size)
    have HB0:Hid ((b.add k).block < wr.heap.size):=Lib.hid (by rw [za1]; exact Nat.lt_of_lt_of_le hb hw.size)
    have H0:=Lib.hid h0
    have H1:=Lib.hid h1
    clear hp hq hw ha hb h0 h1
    by_cases hxy:x = y
    ·subst hxy
     have hn:(x != x) = false:=by simp
     go_wp2_with fail
     refine za8 (fun W => W.cell? (a.add k) = some (.int .i64 x) ∧ W.cell? (b.add k) = some (.int .i64 x) ∧ Below wr.heap.size wr W) ⟨H0.out,H1.out,Below.refl _ _⟩ (by kernel_rfl) ?_
     intro W ⟨f1,f2,f3⟩ hbw
     have y0:=zh6 f1 (Nat.lt_of_lt_of_le HA0.out f3.size)
     have y1:=zh6 f2 (Nat.lt_of_lt_of_le HB0.out f3.size)
     repeat (go_big_quiet_step (fail))
     refine wpQuiet_nil ?_
     intro _ hw'
     obtain ⟨xw,rfl⟩:=hw'
     have HBY:=Lib.hid (HW.out.trans ((f3.trans (xw.b.mono f3.size)).mono HW.out.size))
     clear y0 y1 f1 f2 f3 hbw
     generalize xw.w = wy at *
     go_wp2_with fail
     go_roundw
     case rel => exact ⟨k + 1,by go_num,by omega,by rw [zt8 HP.out,zt8 HQ.out,HE.out],HBY.out⟩
     case measure => simp [intOf]; omega
    ·have hn:(x != y) = true:=by simp [hxy]
     have HN:Hid (decide (xs = ys) = false):=Lib.hid (by
      rw [decide_eq_false_iff_not]; rintro rfl
      rw [HP.out] at HQ; exact hxy (Option.some.inj HQ.out))
     clear hxy
     go_wp2_with fail
     refine za8 (fun W => W.cell? (a.add k) = some (.int .i64 x) ∧ W.cell? (b.add k) = some (.int .i64 y) ∧ Below wr.heap.size wr W) ⟨H0.out,H1.out,Below.refl _ _⟩ (by kernel_rfl) ?_
     intro W ⟨f1,f2,f3⟩ hbw
     have y0:=zh6 f1 (Nat.lt_of_lt_of_le HA0.out f3.size)
     have y1:=zh6 f2 (Nat.lt_of_lt_of_le HB0.out f3.size)
     repeat (go_big_quiet_step (fail))
     refine wpQuiet_nil ?_
     intro _ hw'
     obtain ⟨xw,rfl⟩:=hw'
     have HBY:=Lib.hid (HW.out.trans ((f3.trans (xw.b.mono f3.size)).mono HW.out.size))
     clear y0 y1 f1 f2 f3 hbw
     generalize xw.w = wy at *
     go_wp2_with fail
     go_ret
     exact ⟨by rw [HN.out]; rfl,HBY.out⟩
   ·have hlt':¬ (k:Int) < xs.length:=by omega
    have HN:Hid (decide (xs = ys) = true):=Lib.hid (by
     have e:=HE.out
     rw [List.take_of_length_le (by omega),List.take_of_length_le (by have:=HL.out; omega)] at e
     exact decide_eq_true e)
    clear hw
    go_wp2_with fail
    go_ret
    exact ⟨by rw [HN.out]; rfl,HW.out⟩
 ·have HN:Hid (decide (xs = ys) = false):=Lib.hid (by rw [decide_eq_false_iff_not]; rintro rfl; exact hlen rfl)
  have hne:((xs.length:Int) != (ys.length:Int)) = true:=by
   rw [bne_iff_ne]; omega
  have hne':¬ ((xs.length:Int) = (ys.length:Int)):=by omega
  clear hc hi hd hj hl hlen
  go_enter Tryz.func130, Tryz.ntmps130
  go_wp2_with fail
  all_goals exact bodyPost_ret (v:=.bool false) (by simp [results,Tryz.results130,go_sem]) rfl ⟨by rw [HN.out],Below.refl _ _⟩
set_option maxRecDepth 100000 in
set_option maxHeartbeats 2000000 in
theorem zx7 (xs ys:Ws) (v u:Value) (w:World) (hx:SlV w w.heap.size v xs) (hy:SlV w w.heap.size u ys) (hl:xs.length ≤ 1000000):Calls Tryz.prog 221 #[v,u] w (zj8 (decide (xs = ys)) w):=by
 obtain ⟨A,c,rfl,hc,hi⟩:=hx
 obtain ⟨B,d,rfl,hd,hj⟩:=hy
 by_cases hlen:xs.length = ys.length
 ·have HA:=Lib.hid hi
  have HB:=Lib.hid hj
  have HLEN:Hid ((xs.length:Int) ≤ 1000000):=Lib.hid (by omega)
  have HL:=Lib.hid hlen
  rw [← hlen]
  clear hc hi hd hj hl hlen
  go_enter Tryz.func221, Tryz.ntmps221
  go_wp2_with fail
  go_loopw [5,13] (fun z i wr => ∃ k:Nat,i = .int .i64 k ∧ k ≤ xs.length ∧ xs.take k = ys.take k ∧ Below w.heap.size w wr) (fun _ i _ => xs.length - (intOf i).toNat)
  case atStart => exact ⟨0,rfl,Nat.zero_le _,rfl,Below.refl _ _⟩
  case round =>
   obtain ⟨k,rfl,hk,he,hw⟩:=hrel
   have HE:=Lib.hid he
   have HW:=Lib.hid hw
   have hlm:=HLEN.out
   clear he
   by_cases hlt:k < xs.length
   ·obtain ⟨a,x,rfl,ha,hp,h0⟩:=zh1 HA.out hw hlt
    obtain ⟨b,y,rfl,hb,hq,h1⟩:=zh1 HB.out hw (by rw [← HL.out]; exact hlt)
    have hlt':(k:Int) < xs.length:=by omega
    have HP:=Lib.hid hp
    have HQ:=Lib.hid hq
    have HA0:Hid ((a.add k).block < wr.heap.size):=Lib.hid (by rw [za1]; exact Nat.lt_of_lt_of_le ha hw.size)
    have HB0:Hid ((b.add k).block < wr.heap.size):=Lib.hid (by rw [za1]; exact Nat.lt_of_lt_of_le hb hw.size)
    have H0:=Lib.hid h0
    have H1:=Lib.hid h1
    clear hp hq hw ha hb h0 h1
    by_cases hxy:x = y
    ·subst hxy
     have hn:(x != x) = false:=by simp
     go_wp2_with fail
     refine za8 (fun W => W.cell? (a.add k) = some (.int .i64 x) ∧ W.cell? (b.add k) = some (.int .i64 x) ∧ Below wr.heap.size wr W) ⟨H0.out,H1.out,Below.refl _ _⟩ (by kernel_rfl) ?_
     intro W ⟨f1,f2,f3⟩ hbw
     have y0:=zh6 f1 (Nat.lt_of_lt_of_le HA0.out f3.size)
     have y1:=zh6 f2 (Nat.lt_of_lt_of_le HB0.out f3.size)
     repeat (go_big_quiet_step (fail))
     refine wpQuiet_nil ?_
     intro _ hw'
     obtain ⟨xw,rfl⟩:=hw'
     have HBY:=Lib.hid (HW.out.trans ((f3.trans (xw.b.mono f3.size)).mono HW.out.size))
     clear y0 y1 f1 f2 f3 hbw
     generalize xw.w = wy at *
     go_wp2_with fail
     go_roundw
     case rel => exact ⟨k + 1,by go_num,by omega,by rw [zt8 HP.out,zt8 HQ.out,HE.out],HBY.out⟩
     case measure => simp [intOf]; omega
    ·have hn:(x != y) = true:=by simp [hxy]
     have HN:Hid (decide (xs = ys) = false):=Lib.hid (by
      rw [decide_eq_false_iff_not]; rintro rfl
      rw [HP.out] at HQ; exact hxy (Option.some.inj HQ.out))
     clear hxy
     go_wp2_with fail
     refine za8 (fun W => W.cell? (a.add k) = some (.int .i64 x) ∧ W.cell? (b.add k) = some (.int .i64 y) ∧ Below wr.heap.size wr W) ⟨H0.out,H1.out,Below.refl _ _⟩ (by kernel_rfl) ?_
     intro W ⟨f1,f2,f3⟩ hbw
     have y0:=zh6 f1 (Nat.lt_of_lt_of_le HA0.out f3.size)
     have y1:=zh6 f2 (Nat.lt_of_lt_of_le HB0.out f3.size)
     repeat (go_big_quiet_step (fail))
     refine wpQuiet_nil ?_
     intro _ hw'
     obtain ⟨xw,rfl⟩:=hw'
     have HBY:=Lib.hid (HW.out.trans ((f3.trans (xw.b.mono f3.size)).mono HW.out.size))
     clear y0 y1 f1 f2 f3 hbw
     generalize xw.w = wy at *
     go_wp2_with fail
     go_ret
     exact ⟨by rw [HN.out]; rfl,HBY.out⟩
   ·have hlt':¬ (k:Int) < xs.length:=by omega
    have HN:Hid (decide (xs = ys) = true):=Lib.hid (by
     have e:=HE.out
     rw [List.take_of_length_le (by omega),List.take_of_length_le (by have:=HL.out; omega)] at e
     exact decide_eq_true e)
    clear hw
    go_wp2_with fail
    go_ret
    exact ⟨by rw [HN.out]; rfl,HW.out⟩
 ·have HN:Hid (decide (xs = ys) = false):=Lib.hid (by rw [decide_eq_false_iff_not]; rintro rfl; exact hlen rfl)
  have hne:((xs.length:Int) != (ys.length:Int)) = true:=by
   rw [bne_iff_ne]; omega
  have hne':¬ ((xs.length:Int) = (ys.length:Int)):=by omega
  clear hc hi hd hj hl hlen
  go_enter Tryz.func221, Tryz.ntmps221
  go_wp2_with fail
  all_goals exact bodyPost_ret (v:=.bool false) (by simp [results,Tryz.results221,go_sem]) rfl ⟨by rw [HN.out],Below.refl _ _⟩
set_option maxRecDepth 100000 in
set_option maxHeartbeats 2000000 in
theorem zA6 (n m:ByteArray) (xs ys:Ws) (v u:Value) (w:World) (hx:RefV w w.heap.size v n xs) (hy:RefV w w.heap.size u m ys) (hl:xs.length ≤ 1000000):Calls Tryz.prog 69 #[v,u] w (zj8 (decide (n = m ∧ xs = ys)) w):=by
 obtain ⟨A,c,rfl,hc,hi⟩:=hx
 obtain ⟨B,d,rfl,hd,hj⟩:=hy
 obtain ⟨x1,x2,x3,x4⟩:=BxR.both w (.string n) (.slice A xs.length c) (.string m) (.slice B ys.length d)
 have CALL:Hid (Calls Tryz.prog 130 #[.slice A xs.length c,.slice B ys.length d] ((w.alloc (.cells #[.string n,.slice A xs.length c] 50 (0,0))).alloc (.cells #[.string m,.slice B ys.length d] 50 (0,0))) (zj8 (decide (xs = ys)) ((w.alloc (.cells #[.string n,.slice A xs.length c] 50 (0,0))).alloc (.cells #[.string m,.slice B ys.length d] 50 (0,0))))) :=
  Lib.hid (same_any xs ys _ _ _ ⟨A,c,rfl,hc,hi.stay x3⟩ ⟨B,d,rfl,hd,hj.stay x3⟩ hl)
 have hs:=str_eq n m
 have B0:=Lib.hid x3
 clear hc hd hi hj x1 x2 x3 x4 hl
 by_cases hnm:n = m
 ·have HV:Hid (decide (n = m ∧ xs = ys) = decide (xs = ys)):=Lib.hid (by simp [hnm])
  rw [decide_eq_true hnm] at hs
  clear hnm
  go_enter Tryz.func69, Tryz.ntmps69
  go_wp2_with fail
  refine CALL.out.mono ?_
  rintro e w1 ⟨rfl,hb1⟩
  have HB:=Lib.hid (B0.out.trans (hb1.mono B0.out.size))
  clear hb1 CALL
  go_wp2_with fail
  exact bodyPost_ret (v:=.bool (decide (xs = ys))) (by simp [results,Tryz.results69,go_sem]) rfl ⟨by rw [HV.out],HB.out⟩
 ·have HV:Hid (decide (n = m ∧ xs = ys) = false):=Lib.hid (by simp [hnm])
  rw [decide_eq_false hnm] at hs
  clear hnm
  go_enter Tryz.func69, Tryz.ntmps69
  go_wp2_with fail
  all_goals exact bodyPost_ret (v:=.bool false) (by simp [results,Tryz.results69,go_sem]) rfl ⟨by rw [HV.out],B0.out⟩
end Go.Proofs.YthjoelpfmimedaaGreatDoor.K
namespace Go.Proofs.YthjoelpfmimedaaGreatDoor.K
open Go.RowKit
def okB (n:ByteArray) (xs:Ws):Bool:=T1.nameL n.data.toList && decide (xs.length ≤ 24) && rtF false xs
def pvB (xs:Ws) (k:Nat):Bool:=match k with | 0 => false | j + 1 => xs[j]? == some 1
theorem zv4 (p:Bool) (x:Int) (r:Ws):rtF p (x :: r) = ((x == 2 || (x == 1 && !p)) && rtF (x == 1) r):=rfl
set_option maxRecDepth 100000 in
set_option maxHeartbeats 2000000 in
theorem zA2 (n:ByteArray) (xs:Ws) (v:Value) (w:World) (h:RefV w w.heap.size v n xs) (hn:n.size ≤ maxLen):Calls Tryz.prog 160 #[v] w (zj8 (okB n xs) w):=by
 obtain ⟨A,c,rfl,hc,hi⟩:=h
 have x3:=(Below.refl w.heap.size w).alloc (Nat.le_refl _) (.cells #[.string n,.slice A xs.length c] 50 (0,0))
 have X0:=Lib.hid (BxR.new w (.string n) (.slice A xs.length c))
 have I0:=Lib.hid (hi.stay x3)
 have B0:=Lib.hid x3
 clear hc hi x3
 have CALL:=Lib.hid (T1.zl2 n (w.alloc (.cells #[.string n,.slice A xs.length c] 50 (0,0))) hn)
 by_cases hnm:T1.nameL n.data.toList = true
 ·by_cases hle:xs.length ≤ 24
  ·have HV:Hid (okB n xs = rtF false xs):=Lib.hid (by unfold okB; rw [hnm,decide_eq_true hle]; rfl)
   have HNM:=Lib.hid hnm
   have HLE:Hid ((xs.length:Int) ≤ 24):=Lib.hid (by omega)
   have hgt:¬ ((xs.length:Int) > 24):=by omega
   clear hnm hle
   go_enter Tryz.func160, Tryz.ntmps160
   go_wp2_with fail
   generalize (w.alloc (.cells #[.string n,.slice A xs.length c] 50 (0,0))) = W0 at *
   have hcall:=CALL.out
   rw [HNM.out] at hcall
   refine hcall.mono ?_
   rintro e w1 ⟨rfl,rfl⟩
   clear hcall CALL
   have q1:=X0.out.cells.2
   go_wp2_with fail
   go_loopw [3,5,19] (fun o _ i wr => ∃ (k:Nat) (q:Int),i = .int .i64 k ∧ o = .int .i64 q ∧ k ≤ xs.length ∧ rtF (q == 1) (xs.drop k) = rtF false xs ∧ Below W0.heap.size W0 wr) (fun _ _ i _ => xs.length - (intOf i).toNat)
   case atStart => exact ⟨0,2,rfl,rfl,Nat.zero_le _,rfl,Below.refl _ _⟩
   case round =>
    obtain ⟨k,q,rfl,rfl,hk,hr,hb⟩:=hrel
    have HB:=Lib.hid hb
    have hlm:=HLE.out
    by_cases hlt:k < xs.length
    ·obtain ⟨a,x,rfl,ha,hp,h0⟩:=zh1 I0.out hb hlt
     have hlt':(k:Int) < xs.length:=by omega
     rw [drop_one hp,zv4] at hr
     clear hb ha hp
     by_cases h2:x = 2
     ·subst h2
      have HR:=Lib.hid hr
      clear hr
      go_wp2_with fail
      go_roundw
      case rel => exact ⟨k + 1,2,by go_num,rfl,by omega,HR.out,HB.out⟩
      case measure => simp [intOf]; omega
     ·have hb2:(x != 2) = true:=by simp [h2]
      by_cases h1:x = 1
      ·subst h1
       by_cases hq:q = 1
       ·subst hq
        have HF:Hid (rtF false xs = false):=Lib.hid hr.symm
        clear hr
        go_wp2_with fail
        go_ret
        exact ⟨by rw [HV.out,HF.out]; rfl,B0.out.trans (HB.out.mono B0.out.size)⟩
       ·have hqb:(q == 1) = false:=by simp [hq]
        rw [hqb] at hr
        have HR:=Lib.hid hr
        clear hr hq
        go_wp2_with fail
        go_roundw
        case rel => exact ⟨k + 1,1,by go_num,rfl,by omega,HR.out,HB.out⟩
        case measure => simp [intOf]; omega
      ·have hb1:(x != 1) = true:=by simp [h1]
       have e2:(x == 2) = false:=by simp [h2]
       have e1:(x == 1) = false:=by simp [h1]
       rw [e1,e2] at hr
       have HF:Hid (rtF false xs = false):=Lib.hid hr.symm
       clear hr e1 e2
       go_wp2_with fail
       go_ret
       exact ⟨by rw [HV.out,HF.out]; rfl,B0.out.trans (HB.out.mono B0.out.size)⟩
    ·have hlt':¬ (k:Int) < xs.length:=by omega
     have HF:Hid (rtF false xs = true):=Lib.hid (by rw [← hr,List.drop_eq_nil_of_le (by omega)]; rfl)
     clear hr hb
     go_wp2_with fail
     go_ret
     exact ⟨by rw [HV.out,HF.out]; rfl,B0.out.trans (HB.out.mono B0.out.size)⟩
  ·have HV:Hid (okB n xs = false):=Lib.hid (by unfold okB; rw [hnm,decide_eq_false hle]; rfl)
   have HNM:=Lib.hid hnm
   have hgt:((xs.length:Int) > 24):=by omega
   clear hnm hle
   go_enter Tryz.func160, Tryz.ntmps160
   go_wp2_with fail
   generalize (w.alloc (.cells #[.string n,.slice A xs.length c] 50 (0,0))) = W0 at *
   have hcall:=CALL.out
   rw [HNM.out] at hcall
   refine hcall.mono ?_
   rintro e w1 ⟨rfl,rfl⟩
   clear hcall CALL
   have q1:=X0.out.cells.2
   go_wp2_with fail
   all_goals exact bodyPost_ret (v:=.bool false) (by simp [results,Tryz.results160,go_sem]) rfl ⟨by rw [HV.out],B0.out⟩
 ·have HV:Hid (okB n xs = false):=Lib.hid (by unfold okB; simp [hnm])
  have hnm':T1.nameL n.data.toList = false:=by simpa using hnm
  have HNM:=Lib.hid hnm'
  clear hnm hnm'
  go_enter Tryz.func160, Tryz.ntmps160
  go_wp2_with fail
  generalize (w.alloc (.cells #[.string n,.slice A xs.length c] 50 (0,0))) = W0 at *
  have hcall:=CALL.out
  rw [HNM.out] at hcall
  refine hcall.mono ?_
  rintro e w1 ⟨rfl,rfl⟩
  clear hcall CALL
  have q1:=X0.out.cells.2
  go_wp2_with fail
  all_goals exact bodyPost_ret (v:=.bool false) (by simp [results,Tryz.results160,go_sem]) rfl ⟨by rw [HV.out],B0.out⟩
set_option maxRecDepth 100000 in
set_option maxHeartbeats 2000000 in
theorem zq9 (n:ByteArray) (xs:Ws) (v:Value) (w:World) (h:RefV w w.heap.size v n xs) (hn:n.size ≤ maxLen):Calls Tryz.prog 104 #[v] w (zj8 (okB n xs) w):=by
 obtain ⟨A,c,rfl,hc,hi⟩:=h
 have x3:=(Below.refl w.heap.size w).alloc (Nat.le_refl _) (.cells #[.string n,.slice A xs.length c] 50 (0,0))
 have X0:=Lib.hid (BxR.new w (.string n) (.slice A xs.length c))
 have I0:=Lib.hid (hi.stay x3)
 have B0:=Lib.hid x3
 clear hc hi x3
 have CALL:=Lib.hid (T1.zd0 n (w.alloc (.cells #[.string n,.slice A xs.length c] 50 (0,0))) hn)
 by_cases hnm:T1.nameL n.data.toList = true
 ·by_cases hle:xs.length ≤ 24
  ·have HV:Hid (okB n xs = rtF false xs):=Lib.hid (by unfold okB; rw [hnm,decide_eq_true hle]; rfl)
   have HNM:=Lib.hid hnm
   have HLE:Hid ((xs.length:Int) ≤ 24):=Lib.hid (by omega)
   have hgt:¬ ((xs.length:Int) > 24):=by omega
   clear hnm hle
   go_enter Tryz.func104, Tryz.ntmps104
   go_wp2_with fail
   generalize (w.alloc (.cells #[.string n,.slice A xs.length c] 50 (0,0))) = W0 at *
   have hcall:=CALL.out
   rw [HNM.out] at hcall
   refine hcall.mono ?_
   rintro e w1 ⟨rfl,rfl⟩
   clear hcall CALL
   have q1:=X0.out.cells.2
   go_wp2_with fail
   go_loopw [3] (fun i wr => ∃ k:Nat,i = .int .i64 k ∧ k ≤ xs.length ∧ rtF (pvB xs k) (xs.drop k) = rtF false xs ∧ Below W0.heap.size W0 wr) (fun i _ => xs.length - (intOf i).toNat)
   case atStart => exact ⟨0,rfl,Nat.zero_le _,rfl,Below.refl _ _⟩
   case round =>
    obtain ⟨k,rfl,hk,hr,hb⟩:=hrel
    have HB:=Lib.hid hb
    have hlm:=HLE.out
    have q2:=(X0.out.stay hb).cells.2
    by_cases hlt:k < xs.length
    ·obtain ⟨a,x,rfl,ha,hp,h0⟩:=zh1 I0.out hb hlt
     have hlt':(k:Int) < xs.length:=by omega
     rw [drop_one hp,zv4] at hr
     have hnx:rtF (x == 1) (xs.drop (k + 1)) = rtF (pvB xs (k + 1)) (xs.drop (k + 1)):=by
      show _ = rtF (xs[k]? == some 1) _; rw [hp]; rfl
     rw [hnx] at hr
     clear ha hp hnx
     by_cases h2:x = 2
     ·subst h2
      have HR:=Lib.hid hr
      clear hr hb
      by_cases hkp:(k:Int) > 0
      ·go_wp2_with fail
       go_roundw
       case rel => exact ⟨k + 1,by go_num,by omega,HR.out,HB.out⟩
       case measure => simp [intOf]; omega
      ·go_wp2_with fail
       go_roundw
       case rel => exact ⟨k + 1,by go_num,by omega,HR.out,HB.out⟩
       case measure => simp [intOf]; omega
     ·have hb2:(x != 2) = true:=by simp [h2]
      by_cases h1:x = 1
      ·subst h1
       by_cases hk0:k = 0
       ·have HR:Hid (rtF (pvB xs (k + 1)) (xs.drop (k + 1)) = rtF false xs):=Lib.hid (by rw [← hr]; subst hk0; rfl)
        have hkp:¬ ((k:Int) > 0):=by omega
        clear hr hb hk0
        go_wp2_with fail
        go_roundw
        case rel => exact ⟨k + 1,by go_num,by omega,HR.out,HB.out⟩
        case measure => simp [intOf]; omega
       ·obtain ⟨a',y,ea,_,hpy,h9⟩:=zh1 I0.out hb (k:=k - 1) (by omega)
        obtain rfl:a = a':=Option.some.inj ea
        have hkp:((k:Int) > 0):=by omega
        have hpv:pvB xs k = (y == 1):=by
         obtain ⟨j,rfl⟩ : ∃ j,k = j + 1:=⟨k - 1,by omega⟩
         show (xs[j]? == some 1) = _
         have e:xs[j]? = some y:=hpy
         rw [e]; rfl
        rw [hpv] at hr
        have hc9:wr.cell? (a.add ((k:Int) - 1).toNat) = some (.int .i64 y):=by rw [show ((k:Int) - 1).toNat = k - 1 by omega]; exact h9
        have hi9:(k:Int) - 1 < xs.length:=by omega
        have hi8:0 ≤ (k:Int) - 1:=by omega
        by_cases hy:y = 1
        ·subst hy
         have HF:Hid (rtF false xs = false):=Lib.hid hr.symm
         clear hr hb hpy ea hc9 hpv
         go_wp2_with fail
         go_ret
         exact ⟨by rw [HV.out,HF.out]; rfl,B0.out.trans (HB.out.mono B0.out.size)⟩
        ·have hyb:(y == 1) = false:=by simp [hy]
         rw [hyb] at hr
         have HR:=Lib.hid hr
         clear hr hb hpy ea hy hc9 hpv
         go_wp2_with fail
         go_roundw
         case rel => exact ⟨k + 1,by go_num,by omega,HR.out,HB.out⟩
         case measure => simp [intOf]; omega
      ·have hb1:(x != 1) = true:=by simp [h1]
       have e2:(x == 2) = false:=by simp [h2]
       have e1:(x == 1) = false:=by simp [h1]
       rw [e1,e2] at hr
       have HF:Hid (rtF false xs = false):=Lib.hid hr.symm
       clear hr e1 e2 hb
       go_wp2_with fail
       go_ret
       exact ⟨by rw [HV.out,HF.out]; rfl,B0.out.trans (HB.out.mono B0.out.size)⟩
    ·have hlt':¬ (k:Int) < xs.length:=by omega
     have HF:Hid (rtF false xs = true):=Lib.hid (by rw [← hr,List.drop_eq_nil_of_le (by omega)]; rfl)
     clear hr hb
     go_wp2_with fail
     go_ret
     exact ⟨by rw [HV.out,HF.out]; rfl,B0.out.trans (HB.out.mono B0.out.size)⟩
  ·have HV:Hid (okB n xs = false):=Lib.hid (by unfold okB; rw [hnm,decide_eq_false hle]; rfl)
   have HNM:=Lib.hid hnm
   have hgt:((xs.length:Int) > 24):=by omega
   clear hnm hle
   go_enter Tryz.func104, Tryz.ntmps104
   go_wp2_with fail
   generalize (w.alloc (.cells #[.string n,.slice A xs.length c] 50 (0,0))) = W0 at *
   have hcall:=CALL.out
   rw [HNM.out] at hcall
   refine hcall.mono ?_
   rintro e w1 ⟨rfl,rfl⟩
   clear hcall CALL
   have q1:=X0.out.cells.2
   go_wp2_with fail
   all_goals exact bodyPost_ret (v:=.bool false) (by simp [results,Tryz.results104,go_sem]) rfl ⟨by rw [HV.out],B0.out⟩
 ·have HV:Hid (okB n xs = false):=Lib.hid (by unfold okB; simp [hnm])
  have hnm':T1.nameL n.data.toList = false:=by simpa using hnm
  have HNM:=Lib.hid hnm'
  clear hnm hnm'
  go_enter Tryz.func104, Tryz.ntmps104
  go_wp2_with fail
  generalize (w.alloc (.cells #[.string n,.slice A xs.length c] 50 (0,0))) = W0 at *
  have hcall:=CALL.out
  rw [HNM.out] at hcall
  refine hcall.mono ?_
  rintro e w1 ⟨rfl,rfl⟩
  clear hcall CALL
  have q1:=X0.out.cells.2
  go_wp2_with fail
  all_goals exact bodyPost_ret (v:=.bool false) (by simp [results,Tryz.results104,go_sem]) rfl ⟨by rw [HV.out],B0.out⟩
end Go.Proofs.YthjoelpfmimedaaGreatDoor.K
namespace Go.Proofs.YthjoelpfmimedaaGreatDoor
open Go.RowKit
theorem zs3 {w:World} {B:Nat} {c0 c1:Value} {n:ByteArray} {xs:List Int} (h:RfR w B c0 c1 n xs):K.RefV w B (.agg #[c0,c1]) n xs:=by
 obtain ⟨A,c,q,hc,hb,V,hA,hr⟩:=h.wraps
 refine ⟨A,c,by rw [h.name,q],hc,fun h0 => ?_⟩
 obtain ⟨a,e,ha,hx⟩:=hA h0
 refine ⟨a,e,ha,fun i x hi => ?_⟩
 have h1:=hx i (List.getElem?_eq_some_iff.1 hi).1 0 (by omega)
 rw [Nat.mul_one] at h1
 exact h1.trans (congrArg some (hr i x hi).1)
theorem zk6 (s:ByteArray) (w:World) (hs:s.size ≤ big):Calls Tryz.prog 43 #[.string s] w fun e w' => e = .returned (.bool (nmA s)) ∧ w = w':=zl2 s w (by unfold maxLen; unfold big at hs; omega)
def litOk (t:VT):Bool:=zc0 true t && zc0 false t
def argOk (x:ByteArray × VT):Bool:=nmA x.1 && litOk x.2
def dirOk (x:DirT):Bool:=nmA x.name && inB 0 16 x.args argOk
def zh5 (l:List DirT):Bool:=inB 0 16 l dirOk
def dflOk (has:Bool) (t:VT):Bool:=if has then litOk t else (match t with | .mk k _ _ _ _ => decide (k = 0)) && zc0 false t
def inpOk (x:InpT):Bool:=nmA x.name && (K.okB x.tn x.tw && (dflOk x.has x.dflt && zh5 x.dirs))
def zx4 (l:List InpT):Bool:=inB 0 16 l inpOk
def fldOk (x:FldT):Bool:=nmA x.name && (zx4 x.args && (K.okB x.tn x.tw && zh5 x.dirs))
def zd4 (x:MemT):Bool:=nmA x.name && decide (x.dirs.length = 0)
def zi1 (x:MemT):Bool:=nmA x.name && zh5 x.dirs
set_option maxHeartbeats 2000000 in
theorem zn8 (t:VT) (v:Value) (w:World) (h:Rd w w.heap.size v t):Calls Tryz.prog 91 #[v] w (BP (litOk t) w):=by
 obtain ⟨k,n,s,A,li,ci,K,lk,ck,rfl⟩:=h.shape
 have HR:=Lib.hid h
 clear h
 have HV:Hid (litOk t = (zc0 true t && (zc0 false t))):=Lib.hid rfl
 generalize litOk t = RB at *
 have HB0:Hid (Below w.heap.size w (w.alloc (.cells #[.int .i64 k,.int .i64 n,.string s,.slice A li ci,.slice K lk ck] 59 (0,0)))):=Lib.hid (za0 _ _)
 have HX0:Hid (Bk (w.alloc (.cells #[.int .i64 k,.int .i64 n,.string s,.slice A li ci,.slice K lk ck] 59 (0,0))) w.heap.size #[.int .i64 k,.int .i64 n,.string s,.slice A li ci,.slice K lk ck] 59):=Lib.hid (Bk.new _ _ _)
 go_enter Tryz.func91, Tryz.ntmps91
 go_wp2_with fail
 refine (zO6 t _ w.heap.size _ (HR.out.kept HB0.out) HB0.out.size).mono ?_
 rintro e w2 ⟨rfl,hb⟩
 have HB1:=Lib.hid (HB0.out.trans (Below.mono hb HB0.out.size))
 have HX1:=Lib.hid (HX0.out.stay hb)
 clear hb
 cases v:zc0 true t with
 | false =>
   have v0:=Lib.hid v
   clear v
   go_wp2_with fail
   go_ret
   exact ⟨by rw [HV.out,v0.out,Bool.false_and]; rfl,HB1.out⟩
 | true =>
   have v0:=Lib.hid v
   clear v
   have q0:=HX1.out.cell 0 _ rfl
   have q1:=HX1.out.cell 1 _ rfl
   have q2:=HX1.out.cell 2 _ rfl
   have q3:=HX1.out.cell 3 _ rfl
   have q4:=HX1.out.cell 4 _ rfl
   go_wp2_with fail
   refine (zI8 t _ w.heap.size _ (HR.out.kept HB1.out) HB1.out.size).mono ?_
   rintro e w3 ⟨rfl,hb⟩
   clear q0 q1 q2 q3 q4
   have HB2:=Lib.hid (HB1.out.trans (Below.mono hb HB1.out.size))
   have HX2:=Lib.hid (HX1.out.stay hb)
   clear hb
   go_wp2_with fail
   go_ret
   exact ⟨by rw [HV.out,v0.out,Bool.true_and]; rfl,HB2.out⟩
abbrev cnV:Value:=.func (.func 91) #[] #[]
set_option maxHeartbeats 2000000 in
theorem zz6 (q:Nat) (x:ByteArray × VT) (f:Nat → Value) (w:World) (hq:w.cell? ⟨q,0,none⟩ = some cnV) (hql:q < w.heap.size) (h:ArgR w w.heap.size f x):Calls Tryz.prog 202 (#[.agg #[f 0,f 1,f 2,f 3,f 4,f 5]] ++ #[.pointer (some ⟨q,0,none⟩)]) w (BP (argOk x) w):=by
 obtain ⟨k,n,s,A,li,ci,K,lk,ck,e1,e2,e3,e4,e5⟩:=Rd.form h.val
 have HR:=h.val
 have HN:=Lib.hid h.size
 rw [e1,e2,e3,e4,e5] at HR
 rw [h.name,e1,e2,e3,e4,e5]
 clear e1 e2 e3 e4 e5 h
 replace HR:=Lib.hid HR
 have HV:Hid (argOk x = (nmA x.1 && (litOk x.2))):=Lib.hid rfl
 generalize argOk x = RB at *
 have HB0:Hid (Below w.heap.size w (w.alloc (.cells #[.string x.1,.int .i64 k,.int .i64 n,.string s,.slice A li ci,.slice K lk ck] 99 (0,0)))):=Lib.hid (za0 _ _)
 have HX0:Hid (Bk (w.alloc (.cells #[.string x.1,.int .i64 k,.int .i64 n,.string s,.slice A li ci,.slice K lk ck] 99 (0,0))) w.heap.size #[.string x.1,.int .i64 k,.int .i64 n,.string s,.slice A li ci,.slice K lk ck] 99):=Lib.hid (Bk.new _ _ _)
 show Calls _ _ #[_,_] w _
 have HQ:Hid ((w.alloc (.cells #[.string x.1,.int .i64 k,.int .i64 n,.string s,.slice A li ci,.slice K lk ck] 99 (0,0))).cell? ⟨q,0,none⟩ = some cnV):=Lib.hid ((HB0.out.cell (p:=⟨q,0,none⟩) hql).trans hq)
 clear hq hql
 go_enter Tryz.func202, Tryz.ntmps202
 go_wp2_with fail
 refine (zk6 x.1 _ HN.out).mono ?_
 rintro e w1 ⟨rfl,rfl⟩
 cases v:nmA x.1 with
 | false =>
   have v0:=Lib.hid v
   clear v
   go_wp2_with fail
   go_ret
   exact ⟨by rw [HV.out,v0.out,Bool.false_and]; rfl,HB0.out⟩
 | true =>
   have v0:=Lib.hid v
   clear v
   have q0:=HX0.out.cell 0 _ rfl
   have q1:=HX0.out.cell 1 _ rfl
   have q2:=HX0.out.cell 2 _ rfl
   have q3:=HX0.out.cell 3 _ rfl
   have q4:=HX0.out.cell 4 _ rfl
   have q5:=HX0.out.cell 5 _ rfl
   have q6:=HQ.out
   go_wp2_with fail
   refine (zn8 x.2 _ _ ((HR.out.kept HB0.out).mono HB0.out.size)).mono ?_
   rintro e w2 ⟨rfl,hb⟩
   clear q0 q1 q2 q3 q4 q5 q6
   have HB1:=Lib.hid (HB0.out.trans (Below.mono hb HB0.out.size))
   have HX1:=Lib.hid (HX0.out.stay hb)
   clear hb
   go_wp2_with fail
   go_ret
   exact ⟨by rw [HV.out,v0.out,Bool.true_and]; rfl,HB1.out⟩
theorem zt6 (xs:List (ByteArray × VT)) (v:Value) (w:World) (h:ArgsR w w.heap.size v xs):Calls Tryz.prog 157 #[v,cnV] w (BP (inB 0 16 xs argOk) w):=by
 have hB:Below w.heap.size w (w.alloc (.cells #[cnV] 139 (0,0))):=za0 _ _
 have hq0:(w.alloc (.cells #[cnV] 139 (0,0))).cell? ⟨w.heap.size,0,none⟩ = some cnV:=(Bk.new _ _ _).cell 0 _ rfl
 have HC:=Lib.hid (zM6 w.heap.size xs v _ 0 16 (Sl.mono ArgR.stays (Sl.kept ArgR.stays h hB) hB.size) argOk fun W f y hW hy => zz6 w.heap.size y f W ((hW.cell (p:=⟨w.heap.size,0,none⟩) (by simp)).trans hq0) (by have:=hW.size; simp at this; omega) hy)
 have HB:=Lib.hid hB
 obtain ⟨A,c,rfl,_,_⟩:=h.form
 clear h hq0 hB
 generalize inB 0 16 xs argOk = RB at *
 go_enter Tryz.func157, Tryz.ntmps157
 go_wp2_with fail
 refine HC.out.mono ?_
 rintro e w1 ⟨rfl,hb⟩
 have HB2:=Lib.hid (HB.out.trans (hb.mono HB.out.size))
 clear hb
 go_wp2_with fail
 go_ret
 exact ⟨rfl,HB2.out⟩
set_option maxHeartbeats 2000000 in
theorem zx3 (q:Nat) (x:DirT) (f:Nat → Value) (w:World) (hq:w.cell? ⟨q,0,none⟩ = some cnV) (hql:q < w.heap.size) (h:DirR w w.heap.size f x):Calls Tryz.prog 156 (#[.agg #[f 0,f 1]] ++ #[.pointer (some ⟨q,0,none⟩)]) w (BP (dirOk x) w):=by
 obtain ⟨A,c,e1,_,_⟩:=h.args.form
 have HR:=h.args
 have HN:=Lib.hid h.size
 rw [e1] at HR
 rw [h.name,e1]
 clear e1 h
 replace HR:=Lib.hid HR
 have HV:Hid (dirOk x = (nmA x.name && (inB 0 16 x.args argOk))):=Lib.hid rfl
 generalize dirOk x = RB at *
 have HB0:Hid (Below w.heap.size w (w.alloc (.cells #[.string x.name,.slice A x.args.length c] 96 (0,0)))):=Lib.hid (za0 _ _)
 have HX0:Hid (Bk (w.alloc (.cells #[.string x.name,.slice A x.args.length c] 96 (0,0))) w.heap.size #[.string x.name,.slice A x.args.length c] 96):=Lib.hid (Bk.new _ _ _)
 show Calls _ _ #[_,_] w _
 have HQ:Hid ((w.alloc (.cells #[.string x.name,.slice A x.args.length c] 96 (0,0))).cell? ⟨q,0,none⟩ = some cnV):=Lib.hid ((HB0.out.cell (p:=⟨q,0,none⟩) hql).trans hq)
 clear hq hql
 go_enter Tryz.func156, Tryz.ntmps156
 go_wp2_with fail
 refine (zk6 x.name _ HN.out).mono ?_
 rintro e w1 ⟨rfl,rfl⟩
 cases v:nmA x.name with
 | false =>
   have v0:=Lib.hid v
   clear v
   go_wp2_with fail
   go_ret
   exact ⟨by rw [HV.out,v0.out,Bool.false_and]; rfl,HB0.out⟩
 | true =>
   have v0:=Lib.hid v
   clear v
   have q0:=HX0.out.cell 0 _ rfl
   have q1:=HX0.out.cell 1 _ rfl
   have q6:=HQ.out
   go_wp2_with fail
   refine (zt6 x.args _ _ ((HR.out.kept HB0.out).mono HB0.out.size)).mono ?_
   rintro e w2 ⟨rfl,hb⟩
   clear q0 q1 q6
   have HB1:=Lib.hid (HB0.out.trans (Below.mono hb HB0.out.size))
   have HX1:=Lib.hid (HX0.out.stay hb)
   clear hb
   go_wp2_with fail
   go_ret
   exact ⟨by rw [HV.out,v0.out,Bool.true_and]; rfl,HB1.out⟩
theorem zq5 (xs:List DirT) (v:Value) (w:World) (h:DirsR w w.heap.size v xs):Calls Tryz.prog 90 #[v,cnV] w (BP (inB 0 16 xs dirOk) w):=by
 have hB:Below w.heap.size w (w.alloc (.cells #[cnV] 139 (0,0))):=za0 _ _
 have hq0:(w.alloc (.cells #[cnV] 139 (0,0))).cell? ⟨w.heap.size,0,none⟩ = some cnV:=(Bk.new _ _ _).cell 0 _ rfl
 have HC:=Lib.hid (zM4 w.heap.size xs v _ 0 16 (Sl.mono DirR.stays (Sl.kept DirR.stays h hB) hB.size) dirOk fun W f y hW hy => zx3 w.heap.size y f W ((hW.cell (p:=⟨w.heap.size,0,none⟩) (by simp)).trans hq0) (by have:=hW.size; simp at this; omega) hy)
 have HB:=Lib.hid hB
 obtain ⟨A,c,rfl,_,_⟩:=h.form
 clear h hq0 hB
 generalize inB 0 16 xs dirOk = RB at *
 go_enter Tryz.func90, Tryz.ntmps90
 go_wp2_with fail
 refine HC.out.mono ?_
 rintro e w1 ⟨rfl,hb⟩
 have HB2:=Lib.hid (HB.out.trans (hb.mono HB.out.size))
 clear hb
 go_wp2_with fail
 go_ret
 exact ⟨rfl,HB2.out⟩
theorem ze8 (xs:List DirT) (v:Value) (w:World) (h:DirsR w w.heap.size v xs):Calls Tryz.prog 44 #[v] w (BP (zh5 xs) w):=by
 have HC:=Lib.hid (zq5 xs v w h)
 have HV:Hid (zh5 xs = inB 0 16 xs dirOk):=Lib.hid rfl
 generalize zh5 xs = RB at *
 obtain ⟨A,c,rfl,_,_⟩:=h.form
 clear h
 go_enter Tryz.func44, Tryz.ntmps44
 go_wp2_with fail
 refine HC.out.mono ?_
 rintro e w1 ⟨rfl,hb⟩
 have HB:=Lib.hid hb
 clear hb
 go_wp2_with fail
 go_ret
 exact ⟨by rw [HV.out]; rfl,HB.out⟩
set_option maxHeartbeats 2000000 in
theorem zt4 (x:MemT) (f:Nat → Value) (w:World) (h:MemR w w.heap.size f x):Calls Tryz.prog 93 #[.agg #[f 0,f 1]] w (BP (zi1 x) w):=by
 obtain ⟨A,c,e1,_,_⟩:=h.dirs.form
 have HR:=h.dirs
 have HN:=Lib.hid h.size
 rw [e1] at HR
 rw [h.name,e1]
 clear e1 h
 replace HR:=Lib.hid HR
 have HV:Hid (zi1 x = (nmA x.name && (zh5 x.dirs))):=Lib.hid rfl
 generalize zi1 x = RB at *
 have HB0:Hid (Below w.heap.size w (w.alloc (.cells #[.string x.name,.slice A x.dirs.length c] 54 (0,0)))):=Lib.hid (za0 _ _)
 have HX0:Hid (Bk (w.alloc (.cells #[.string x.name,.slice A x.dirs.length c] 54 (0,0))) w.heap.size #[.string x.name,.slice A x.dirs.length c] 54):=Lib.hid (Bk.new _ _ _)
 go_enter Tryz.func93, Tryz.ntmps93
 go_wp2_with fail
 refine (zk6 x.name _ HN.out).mono ?_
 rintro e w1 ⟨rfl,rfl⟩
 cases v:nmA x.name with
 | false =>
   have v0:=Lib.hid v
   clear v
   go_wp2_with fail
   go_ret
   exact ⟨by rw [HV.out,v0.out,Bool.false_and]; rfl,HB0.out⟩
 | true =>
   have v0:=Lib.hid v
   clear v
   have q0:=HX0.out.cell 0 _ rfl
   have q1:=HX0.out.cell 1 _ rfl
   go_wp2_with fail
   refine (ze8 x.dirs _ _ ((HR.out.kept HB0.out).mono HB0.out.size)).mono ?_
   rintro e w2 ⟨rfl,hb⟩
   clear q0 q1
   have HB1:=Lib.hid (HB0.out.trans (Below.mono hb HB0.out.size))
   have HX1:=Lib.hid (HX0.out.stay hb)
   clear hb
   go_wp2_with fail
   go_ret
   exact ⟨by rw [HV.out,v0.out,Bool.true_and]; rfl,HB1.out⟩
theorem ze7 (x:MemT) (f:Nat → Value) (w:World) (h:MemR w w.heap.size f x):Calls Tryz.prog 92 #[.agg #[f 0,f 1]] w (BP (zd4 x) w):=by
 obtain ⟨A,c,e1,_,hbi⟩:=h.dirs.form
 have HN:=Lib.hid h.size
 rw [h.name,e1]
 clear e1 h
 obtain ⟨nm,dirs⟩:=x
 unfold big at hbi
 have hlen:(dirs.length:Int) ≤ 140737488351232:=by simp only at hbi; omega
 have HV:Hid (zd4 ⟨nm,dirs⟩ = (nmA nm && decide (dirs.length = 0))):=Lib.hid rfl
 generalize zd4 ⟨nm,dirs⟩ = RB at *
 have HB0:Hid (Below w.heap.size w (w.alloc (.cells #[.string nm,.slice A dirs.length c] 54 (0,0)))):=Lib.hid (za0 _ _)
 clear hbi
 show Calls _ _ #[.agg #[.string nm,.slice A dirs.length c]] _ _
 generalize dirs.length = len at *
 cases v:nmA nm with
 | false =>
   have v0:=Lib.hid v
   clear v
   go_enter Tryz.func92, Tryz.ntmps92
   go_wp2_with fail
   refine (zk6 nm _ HN.out).mono ?_
   rintro e w1 ⟨rfl,rfl⟩
   rw [v0.out]
   go_wp2_with fail
   go_ret
   exact ⟨by rw [HV.out,v0.out]; rfl,HB0.out⟩
 | true =>
   have v0:=Lib.hid v
   clear v
   go_enter Tryz.func92, Tryz.ntmps92
   go_wp2_with fail
   refine (zk6 nm _ HN.out).mono ?_
   rintro e w1 ⟨rfl,rfl⟩
   rw [v0.out]
   by_cases hz:len = 0
   ·subst hz
    go_wp2_with fail
    go_ret
    exact ⟨by rw [HV.out,v0.out]; rfl,HB0.out⟩
   ·have hz':((len:Int) == 0) = false:=by rw [beq_eq_false_iff_ne]; omega
    have HV2:Hid (RB = false):=Lib.hid (by rw [HV.out,v0.out]; simp [hz])
    go_wp2_with fail
    go_ret
    exact ⟨by rw [HV2.out]; rfl,HB0.out⟩
end Go.Proofs.YthjoelpfmimedaaGreatDoor
