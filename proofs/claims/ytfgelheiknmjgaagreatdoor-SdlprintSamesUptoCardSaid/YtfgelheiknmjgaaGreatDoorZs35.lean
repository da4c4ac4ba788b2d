
/-
 Texts joined: SbInp SbMem SbFld Sc2.
-/
import Derived.Test.YtfgelheiknmjgaaGreatDoorZs33
import Derived.Test.YtfgelheiknmjgaaGreatDoorZs34
import Derived.Test.YtfgelheiknmjgaaGreatDoorZs27
namespace Go.Proofs.YtfgelheiknmjgaaGreatDoor
open Go.RowKit
set_option maxRecDepth 100000 in
set_option maxHeartbeats 4000000 in
theorem zD1 (s:InpT → InpT → Bool) (xs ys:List (InpT)) (v1 v2:Value) (w:World) (hx:Sl 10 168 InpR w w.heap.size v1 xs) (hy:Sl 10 168 InpR w w.heap.size v2 ys)
  (hC:∀ (W:World) (x y:InpT) (f g:Nat → Value),Below w.heap.size w W → x ∈ xs → y ∈ ys → InpR W W.heap.size f x → InpR W W.heap.size g y → Calls Tryz.prog 80 #[.agg #[f 0,f 1,f 2,f 3,f 4,f 5,f 6,f 7,f 8,f 9],.agg #[g 0,g 1,g 2,g 3,g 4,g 5,g 6,g 7,g 8,g 9]] W (BP (s x y) W)) :
  Calls Tryz.prog 79 #[v1,v2,.func (.func 80) #[] #[]] w (BP (allS s xs ys) w):=by
 obtain ⟨A1,c1,rfl,hc1,hb1,V1,hA1,hr1⟩:=hx
 obtain ⟨A2,c2,rfl,hc2,hb2,V2,hA2,hr2⟩:=hy
 obtain ⟨n,hn⟩ : ∃ n,n = xs.length:=⟨_,rfl⟩
 obtain ⟨m,hm⟩ : ∃ m,m = ys.length:=⟨_,rfl⟩
 obtain ⟨R,hR⟩ : ∃ R,R = allS s xs ys:=⟨_,rfl⟩
 rw [← hn] at hb1 hA1
 rw [← hm] at hb2 hA2
 rw [← hR, ← hn, ← hm]
 unfold big at hb1 hb2
 have g1:(n:Int) ≤ 140737488351232:=by omega
 have g2:(m:Int) ≤ 140737488351232:=by omega
 have HN:=Lib.hid hn
 have HM:=Lib.hid hm
 have HR:=Lib.hid hR
 have HA1:=Lib.hid hA1
 have HA2:=Lib.hid hA2
 have HR1:=Lib.hid hr1
 have HR2:=Lib.hid hr2
 have HC:=Lib.hid hC
 clear hn hm hA1 hA2 hr1 hr2 hc1 hc2 hb1 hb2 hC hR
 by_cases hnm:n = m
 rotate_left
 ·have hRF:R = false:=by rw [HR.out]; exact zd3 (by rw [← HN.out, ← HM.out]; exact hnm)
  have hd:((n:Int) != (m:Int)) = true:=by simp; omega
  subst hRF
  go_enter Tryz.func79, Tryz.ntmps79
  go_wp2_with fail
  go_ret
  exact ⟨rfl,Below.refl _ _⟩
 subst hnm
 clear g2
 go_enter Tryz.func79, Tryz.ntmps79
 go_wp2_with fail
 go_loopw [17] (fun u wr => ∃ j:Nat,j ≤ n ∧ u = .int .i64 j ∧ Hid (allS s (xs.drop j) (ys.drop j) = R ∧ Below w.heap.size w wr)) (fun u _ => n - (intOf u).toNat)
 case atStart => exact ⟨0,Nat.zero_le _,rfl,Lib.hid ⟨by rw [List.drop_zero,List.drop_zero,HR.out],Below.refl _ _⟩⟩
 case round =>
  obtain ⟨j,hj,rfl,hq⟩:=hrel
  by_cases hlt:j < n
  ·have hlt':(j:Int) < n:=by omega
   obtain ⟨x,hx⟩ : ∃ x,xs[j]? = some x:=⟨_,List.getElem?_eq_getElem (by have:=HN.out; omega)⟩
   obtain ⟨y,hy⟩ : ∃ y,ys[j]? = some y:=⟨_,List.getElem?_eq_getElem (by have:=HM.out; omega)⟩
   obtain ⟨a1,rfl,ha1,hx1⟩:=HA1.out (by omega)
   obtain ⟨a2,rfl,ha2,hx2⟩:=HA2.out (by omega)
   have hst:=zf3 (f:=s) hx hy
   obtain ⟨xs0,xs1,xA2,xl2,xc2,xb3,xi4,xi5,xs6,xA7,xl7,xc7,xA8,xl8,xc8,xA9,xl9,xc9,ex0,ex1,ex2,ex3,ex4,ex5,ex6,ex7,ex8,ex9⟩:=InpR.form3 (HR1.out j x hx)
   obtain ⟨ys0,ys1,yA2,yl2,yc2,yb3,yi4,yi5,ys6,yA7,yl7,yc7,yA8,yl8,yc8,yA9,yl9,yc9,ey0,ey1,ey2,ey3,ey4,ey5,ey6,ey7,ey8,ey9⟩:=InpR.form3 (HR2.out j y hy)
   have hcl1:∀ q,q < 10 → wr.cell? (at_ (a1.add (j * 10)) q) = some (V1 j q):=fun q hq2 => (hq.out.2.cell (by rw [za7,za1]; exact ha1)).trans (hx1 j hlt q hq2)
   have hcl2:∀ q,q < 10 → (wr.alloc (.cells #[.string xs0,.string xs1,.slice xA2 xl2 xc2,.bool xb3,.int .i64 xi4,.int .i64 xi5,.string xs6,.slice xA7 xl7 xc7,.slice xA8 xl8 xc8,.slice xA9 xl9 xc9] 55 (0,0))).cell? (at_ (a2.add (j * 10)) q) = some (V2 j q):=fun q hq2 => ((hq.out.2.trans ((za0 wr _).mono hq.out.2.size)).cell (by rw [za7,za1]; exact ha2)).trans (hx2 j hlt q hq2)
   have r0:wr.cell? (a1.add (j * 10)) = some (.string xs0):=(hcl1 0 (by omega)).trans (by rw [ex0])
   have r1:wr.cell? ⟨(a1.add (j * 10)).block,(a1.add (j * 10)).off + 1,none⟩ = some (.string xs1):=(hcl1 1 (by omega)).trans (by rw [ex1])
   have r2:wr.cell? ⟨(a1.add (j * 10)).block,(a1.add (j * 10)).off + 2,none⟩ = some (.slice xA2 xl2 xc2):=(hcl1 2 (by omega)).trans (by rw [ex2])
   have r3:wr.cell? ⟨(a1.add (j * 10)).block,(a1.add (j * 10)).off + 3,none⟩ = some (.bool xb3):=(hcl1 3 (by omega)).trans (by rw [ex3])
   have r4:wr.cell? ⟨(a1.add (j * 10)).block,(a1.add (j * 10)).off + 4,none⟩ = some (.int .i64 xi4):=(hcl1 4 (by omega)).trans (by rw [ex4])
   have r5:wr.cell? ⟨(a1.add (j * 10)).block,(a1.add (j * 10)).off + 5,none⟩ = some (.int .i64 xi5):=(hcl1 5 (by omega)).trans (by rw [ex5])
   have r6:wr.cell? ⟨(a1.add (j * 10)).block,(a1.add (j * 10)).off + 6,none⟩ = some (.string xs6):=(hcl1 6 (by omega)).trans (by rw [ex6])
   have r7:wr.cell? ⟨(a1.add (j * 10)).block,(a1.add (j * 10)).off + 7,none⟩ = some (.slice xA7 xl7 xc7):=(hcl1 7 (by omega)).trans (by rw [ex7])
   have r8:wr.cell? ⟨(a1.add (j * 10)).block,(a1.add (j * 10)).off + 8,none⟩ = some (.slice xA8 xl8 xc8):=(hcl1 8 (by omega)).trans (by rw [ex8])
   have r9:wr.cell? ⟨(a1.add (j * 10)).block,(a1.add (j * 10)).off + 9,none⟩ = some (.slice xA9 xl9 xc9):=(hcl1 9 (by omega)).trans (by rw [ex9])
   have t0:(wr.alloc (.cells #[.string xs0,.string xs1,.slice xA2 xl2 xc2,.bool xb3,.int .i64 xi4,.int .i64 xi5,.string xs6,.slice xA7 xl7 xc7,.slice xA8 xl8 xc8,.slice xA9 xl9 xc9] 55 (0,0))).cell? (a2.add (j * 10)) = some (.string ys0):=(hcl2 0 (by omega)).trans (by rw [ey0])
   have t1:(wr.alloc (.cells #[.string xs0,.string xs1,.slice xA2 xl2 xc2,.bool xb3,.int .i64 xi4,.int .i64 xi5,.string xs6,.slice xA7 xl7 xc7,.slice xA8 xl8 xc8,.slice xA9 xl9 xc9] 55 (0,0))).cell? ⟨(a2.add (j * 10)).block,(a2.add (j * 10)).off + 1,none⟩ = some (.string ys1):=(hcl2 1 (by omega)).trans (by rw [ey1])
   have t2:(wr.alloc (.cells #[.string xs0,.string xs1,.slice xA2 xl2 xc2,.bool xb3,.int .i64 xi4,.int .i64 xi5,.string xs6,.slice xA7 xl7 xc7,.slice xA8 xl8 xc8,.slice xA9 xl9 xc9] 55 (0,0))).cell? ⟨(a2.add (j * 10)).block,(a2.add (j * 10)).off + 2,none⟩ = some (.slice yA2 yl2 yc2):=(hcl2 2 (by omega)).trans (by rw [ey2])
   have t3:(wr.alloc (.cells #[.string xs0,.string xs1,.slice xA2 xl2 xc2,.bool xb3,.int .i64 xi4,.int .i64 xi5,.string xs6,.slice xA7 xl7 xc7,.slice xA8 xl8 xc8,.slice xA9 xl9 xc9] 55 (0,0))).cell? ⟨(a2.add (j * 10)).block,(a2.add (j * 10)).off + 3,none⟩ = some (.bool yb3):=(hcl2 3 (by omega)).trans (by rw [ey3])
   have t4:(wr.alloc (.cells #[.string xs0,.string xs1,.slice xA2 xl2 xc2,.bool xb3,.int .i64 xi4,.int .i64 xi5,.string xs6,.slice xA7 xl7 xc7,.slice xA8 xl8 xc8,.slice xA9 xl9 xc9] 55 (0,0))).cell? ⟨(a2.add (j * 10)).block,(a2.add (j * 10)).off + 4,none⟩ = some (.int .i64 yi4):=(hcl2 4 (by omega)).trans (by rw [ey4])
   have t5:(wr.alloc (.cells #[.string xs0,.string xs1,.slice xA2 xl2 xc2,.bool xb3,.int .i64 xi4,.int .i64 xi5,.string xs6,.slice xA7 xl7 xc7,.slice xA8 xl8 xc8,.slice xA9 xl9 xc9] 55 (0,0))).cell? ⟨(a2.add (j * 10)).block,(a2.add (j * 10)).off + 5,none⟩ = some (.int .i64 yi5):=(hcl2 5 (by omega)).trans (by rw [ey5])
   have t6:(wr.alloc (.cells #[.string xs0,.string xs1,.slice xA2 xl2 xc2,.bool xb3,.int .i64 xi4,.int .i64 xi5,.string xs6,.slice xA7 xl7 xc7,.slice xA8 xl8 xc8,.slice xA9 xl9 xc9] 55 (0,0))).cell? ⟨(a2.add (j * 10)).block,(a2.add (j * 10)).off + 6,none⟩ = some (.string ys6):=(hcl2 6 (by omega)).trans (by rw [ey6])
   have t7:(wr.alloc (.cells #[.string xs0,.string xs1,.slice xA2 xl2 xc2,.bool xb3,.int .i64 xi4,.int .i64 xi5,.string xs6,.slice xA7 xl7 xc7,.slice xA8 xl8 xc8,.slice xA9 xl9 xc9] 55 (0,0))).cell? ⟨(a2.add (j * 10)).block,(a2.add (j * 10)).off + 7,none⟩ = some (.slice yA7 yl7 yc7):=(hcl2 7 (by omega)).trans (by rw [ey7])
   have t8:(wr.alloc (.cells #[.string xs0,.string xs1,.slice xA2 xl2 xc2,.bool xb3,.int .i64 xi4,.int .i64 xi5,.string xs6,.slice xA7 xl7 xc7,.slice xA8 xl8 xc8,.slice xA9 xl9 xc9] 55 (0,0))).cell? ⟨(a2.add (j * 10)).block,(a2.add (j * 10)).off + 8,none⟩ = some (.slice yA8 yl8 yc8):=(hcl2 8 (by omega)).trans (by rw [ey8])
   have t9:(wr.alloc (.cells #[.string xs0,.string xs1,.slice xA2 xl2 xc2,.bool xb3,.int .i64 xi4,.int .i64 xi5,.string xs6,.slice xA7 xl7 xc7,.slice xA8 xl8 xc8,.slice xA9 xl9 xc9] 55 (0,0))).cell? ⟨(a2.add (j * 10)).block,(a2.add (j * 10)).off + 9,none⟩ = some (.slice yA9 yl9 yc9):=(hcl2 9 (by omega)).trans (by rw [ey9])
   have hbw:Below w.heap.size w ((wr.alloc (.cells #[.string xs0,.string xs1,.slice xA2 xl2 xc2,.bool xb3,.int .i64 xi4,.int .i64 xi5,.string xs6,.slice xA7 xl7 xc7,.slice xA8 xl8 xc8,.slice xA9 xl9 xc9] 55 (0,0))).alloc (.cells #[.string ys0,.string ys1,.slice yA2 yl2 yc2,.bool yb3,.int .i64 yi4,.int .i64 yi5,.string ys6,.slice yA7 yl7 yc7,.slice yA8 yl8 yc8,.slice yA9 yl9 yc9] 55 (0,0))):=(hq.out.2.trans ((za0 wr _).mono hq.out.2.size)).alloc (by have:=hq.out.2.size; simp; omega) _
   have HBW:=Lib.hid hbw
   have CALL:=Lib.hid (HC.out _ x y (V1 j) (V2 j) hbw (List.mem_of_getElem? hx) (List.mem_of_getElem? hy) (InpR.stays.mono (InpR.stays.kept (HR1.out j x hx) hbw) hbw.size) (InpR.stays.mono (InpR.stays.kept (HR2.out j y hy) hbw) hbw.size))
   obtain ⟨b,hb⟩ : ∃ b,b = s x y:=⟨_,rfl⟩
   rw [← hb,ex0,ey0,ex1,ey1,ex2,ey2,ex3,ey3,ex4,ey4,ex5,ey5,ex6,ey6,ex7,ey7,ex8,ey8,ex9,ey9] at CALL
   rw [← hb] at hst
   have HST:=Lib.hid hst
   clear ex0 ey0 ex1 ey1 ex2 ey2 ex3 ey3 ex4 ey4 ex5 ey5 ex6 ey6 ex7 ey7 ex8 ey8 ex9 ey9 hx hy hst hcl1 hcl2 hx1 hx2 ha1 ha2 hbw hb
   cases b with
   | true =>
     go_wp2_with fail
     refine CALL.out.mono ?_
     rintro e w5 ⟨rfl,hb⟩
     have HB5:=Lib.hid (HBW.out.trans (hb.mono HBW.out.size))
     clear hb CALL
     go_wp2_with fail
     go_roundw
     case rel => exact ⟨j + 1,by omega,by go_num,Lib.hid ⟨by have:=HST.out; rw [hq.out.1] at this; rw [this]; rfl,HB5.out⟩⟩
     case measure => simp [intOf]; omega
   | false =>
     have hRF:R = false:=by have:=HST.out; rw [hq.out.1] at this; rw [this]; rfl
     subst hRF
     go_wp2_with fail
     refine CALL.out.mono ?_
     rintro e w5 ⟨rfl,hb⟩
     have HB5:=Lib.hid (HBW.out.trans (hb.mono HBW.out.size))
     clear hb CALL
     go_wp2_with fail
     go_ret
     exact ⟨rfl,HB5.out⟩
  ·have hjn:j = n:=by omega
   have hlt':¬ (j:Int) < n:=by omega
   have hRT:R = true:=by rw [← hq.out.1]; exact zd6 (by rw [← HN.out]; omega) (by rw [← HM.out]; omega)
   subst hRT
   go_wp2_with fail
   go_ret
   exact ⟨rfl,hq.out.2⟩
end Go.Proofs.YtfgelheiknmjgaaGreatDoor
namespace Go.Proofs.YtfgelheiknmjgaaGreatDoor
open Go.RowKit
set_option maxRecDepth 100000 in
set_option maxHeartbeats 4000000 in
theorem zR6 (s:MemT → MemT → Bool) (xs ys:List (MemT)) (v1 v2:Value) (w:World) (hx:Sl 2 40 MemR w w.heap.size v1 xs) (hy:Sl 2 40 MemR w w.heap.size v2 ys)
  (hC:∀ (W:World) (x y:MemT) (f g:Nat → Value),Below w.heap.size w W → x ∈ xs → y ∈ ys → MemR W W.heap.size f x → MemR W W.heap.size g y → Calls Tryz.prog 78 #[.agg #[f 0,f 1],.agg #[g 0,g 1]] W (BP (s x y) W)) :
  Calls Tryz.prog 77 #[v1,v2,.func (.func 78) #[] #[]] w (BP (allS s xs ys) w):=by
 obtain ⟨A1,c1,rfl,hc1,hb1,V1,hA1,hr1⟩:=hx
 obtain ⟨A2,c2,rfl,hc2,hb2,V2,hA2,hr2⟩:=hy
 obtain ⟨n,hn⟩ : ∃ n,n = xs.length:=⟨_,rfl⟩
 obtain ⟨m,hm⟩ : ∃ m,m = ys.length:=⟨_,rfl⟩
 obtain ⟨R,hR⟩ : ∃ R,R = allS s xs ys:=⟨_,rfl⟩
 rw [← hn] at hb1 hA1
 rw [← hm] at hb2 hA2
 rw [← hR, ← hn, ← hm]
 unfold big at hb1 hb2
 have g1:(n:Int) ≤ 140737488351232:=by omega
 have g2:(m:Int) ≤ 140737488351232:=by omega
 have HN:=Lib.hid hn
 have HM:=Lib.hid hm
 have HR:=Lib.hid hR
 have HA1:=Lib.hid hA1
 have HA2:=Lib.hid hA2
 have HR1:=Lib.hid hr1
 have HR2:=Lib.hid hr2
 have HC:=Lib.hid hC
 clear hn hm hA1 hA2 hr1 hr2 hc1 hc2 hb1 hb2 hC hR
 by_cases hnm:n = m
 rotate_left
 ·have hRF:R = false:=by rw [HR.out]; exact zd3 (by rw [← HN.out, ← HM.out]; exact hnm)
  have hd:((n:Int) != (m:Int)) = true:=by simp; omega
  subst hRF
  go_enter Tryz.func77, Tryz.ntmps77
  go_wp2_with fail
  go_ret
  exact ⟨rfl,Below.refl _ _⟩
 subst hnm
 clear g2
 go_enter Tryz.func77, Tryz.ntmps77
 go_wp2_with fail
 go_loopw [17] (fun u wr => ∃ j:Nat,j ≤ n ∧ u = .int .i64 j ∧ Hid (allS s (xs.drop j) (ys.drop j) = R ∧ Below w.heap.size w wr)) (fun u _ => n - (intOf u).toNat)
 case atStart => exact ⟨0,Nat.zero_le _,rfl,Lib.hid ⟨by rw [List.drop_zero,List.drop_zero,HR.out],Below.refl _ _⟩⟩
 case round =>
  obtain ⟨j,hj,rfl,hq⟩:=hrel
  by_cases hlt:j < n
  ·have hlt':(j:Int) < n:=by omega
   obtain ⟨x,hx⟩ : ∃ x,xs[j]? = some x:=⟨_,List.getElem?_eq_getElem (by have:=HN.out; omega)⟩
   obtain ⟨y,hy⟩ : ∃ y,ys[j]? = some y:=⟨_,List.getElem?_eq_getElem (by have:=HM.out; omega)⟩
   obtain ⟨a1,rfl,ha1,hx1⟩:=HA1.out (by omega)
   obtain ⟨a2,rfl,ha2,hx2⟩:=HA2.out (by omega)
   have hst:=zf3 (f:=s) hx hy
   obtain ⟨xs0,xA1,xl1,xc1,ex0,ex1⟩:=MemR.form3 (HR1.out j x hx)
   obtain ⟨ys0,yA1,yl1,yc1,ey0,ey1⟩:=MemR.form3 (HR2.out j y hy)
   have hcl1:∀ q,q < 2 → wr.cell? (at_ (a1.add (j * 2)) q) = some (V1 j q):=fun q hq2 => (hq.out.2.cell (by rw [za7,za1]; exact ha1)).trans (hx1 j hlt q hq2)
   have hcl2:∀ q,q < 2 → (wr.alloc (.cells #[.string xs0,.slice xA1 xl1 xc1] 48 (0,0))).cell? (at_ (a2.add (j * 2)) q) = some (V2 j q):=fun q hq2 => ((hq.out.2.trans ((za0 wr _).mono hq.out.2.size)).cell (by rw [za7,za1]; exact ha2)).trans (hx2 j hlt q hq2)
   have r0:wr.cell? (a1.add (j * 2)) = some (.string xs0):=(hcl1 0 (by omega)).trans (by rw [ex0])
   have r1:wr.cell? ⟨(a1.add (j * 2)).block,(a1.add (j * 2)).off + 1,none⟩ = some (.slice xA1 xl1 xc1):=(hcl1 1 (by omega)).trans (by rw [ex1])
   have t0:(wr.alloc (.cells #[.string xs0,.slice xA1 xl1 xc1] 48 (0,0))).cell? (a2.add (j * 2)) = some (.string ys0):=(hcl2 0 (by omega)).trans (by rw [ey0])
   have t1:(wr.alloc (.cells #[.string xs0,.slice xA1 xl1 xc1] 48 (0,0))).cell? ⟨(a2.add (j * 2)).block,(a2.add (j * 2)).off + 1,none⟩ = some (.slice yA1 yl1 yc1):=(hcl2 1 (by omega)).trans (by rw [ey1])
   have hbw:Below w.heap.size w ((wr.alloc (.cells #[.string xs0,.slice xA1 xl1 xc1] 48 (0,0))).alloc (.cells #[.string ys0,.slice yA1 yl1 yc1] 48 (0,0))):=(hq.out.2.trans ((za0 wr _).mono hq.out.2.size)).alloc (by have:=hq.out.2.size; simp; omega) _
   have HBW:=Lib.hid hbw
   have CALL:=Lib.hid (HC.out _ x y (V1 j) (V2 j) hbw (List.mem_of_getElem? hx) (List.mem_of_getElem? hy) (MemR.stays.mono (MemR.stays.kept (HR1.out j x hx) hbw) hbw.size) (MemR.stays.mono (MemR.stays.kept (HR2.out j y hy) hbw) hbw.size))
   obtain ⟨b,hb⟩ : ∃ b,b = s x y:=⟨_,rfl⟩
   rw [← hb,ex0,ey0,ex1,ey1] at CALL
   rw [← hb] at hst
   have HST:=Lib.hid hst
   clear ex0 ey0 ex1 ey1 hx hy hst hcl1 hcl2 hx1 hx2 ha1 ha2 hbw hb
   cases b with
   | true =>
     go_wp2_with fail
     refine CALL.out.mono ?_
     rintro e w5 ⟨rfl,hb⟩
     have HB5:=Lib.hid (HBW.out.trans (hb.mono HBW.out.size))
     clear hb CALL
     go_wp2_with fail
     go_roundw
     case rel => exact ⟨j + 1,by omega,by go_num,Lib.hid ⟨by have:=HST.out; rw [hq.out.1] at this; rw [this]; rfl,HB5.out⟩⟩
     case measure => simp [intOf]; omega
   | false =>
     have hRF:R = false:=by have:=HST.out; rw [hq.out.1] at this; rw [this]; rfl
     subst hRF
     go_wp2_with fail
     refine CALL.out.mono ?_
     rintro e w5 ⟨rfl,hb⟩
     have HB5:=Lib.hid (HBW.out.trans (hb.mono HBW.out.size))
     clear hb CALL
     go_wp2_with fail
     go_ret
     exact ⟨rfl,HB5.out⟩
  ·have hjn:j = n:=by omega
   have hlt':¬ (j:Int) < n:=by omega
   have hRT:R = true:=by rw [← hq.out.1]; exact zd6 (by rw [← HN.out]; omega) (by rw [← HM.out]; omega)
   subst hRT
   go_wp2_with fail
   go_ret
   exact ⟨rfl,hq.out.2⟩
end Go.Proofs.YtfgelheiknmjgaaGreatDoor
namespace Go.Proofs.YtfgelheiknmjgaaGreatDoor
open Go.RowKit
set_option maxRecDepth 100000 in
set_option maxHeartbeats 4000000 in
theorem zR8 (s:FldT → FldT → Bool) (xs ys:List (FldT)) (v1 v2:Value) (w:World) (hx:Sl 5 104 FldR w w.heap.size v1 xs) (hy:Sl 5 104 FldR w w.heap.size v2 ys)
  (hC:∀ (W:World) (x y:FldT) (f g:Nat → Value),Below w.heap.size w W → x ∈ xs → y ∈ ys → FldR W W.heap.size f x → FldR W W.heap.size g y → Calls Tryz.prog 76 #[.agg #[f 0,f 1,f 2,f 3,f 4],.agg #[g 0,g 1,g 2,g 3,g 4]] W (BP (s x y) W)) :
  Calls Tryz.prog 75 #[v1,v2,.func (.func 76) #[] #[]] w (BP (allS s xs ys) w):=by
 obtain ⟨A1,c1,rfl,hc1,hb1,V1,hA1,hr1⟩:=hx
 obtain ⟨A2,c2,rfl,hc2,hb2,V2,hA2,hr2⟩:=hy
 obtain ⟨n,hn⟩ : ∃ n,n = xs.length:=⟨_,rfl⟩
 obtain ⟨m,hm⟩ : ∃ m,m = ys.length:=⟨_,rfl⟩
 obtain ⟨R,hR⟩ : ∃ R,R = allS s xs ys:=⟨_,rfl⟩
 rw [← hn] at hb1 hA1
 rw [← hm] at hb2 hA2
 rw [← hR, ← hn, ← hm]
 unfold big at hb1 hb2
 have g1:(n:Int) ≤ 140737488351232:=by omega
 have g2:(m:Int) ≤ 140737488351232:=by omega
 have HN:=Lib.hid hn
 have HM:=Lib.hid hm
 have HR:=Lib.hid hR
 have HA1:=Lib.hid hA1
 have HA2:=Lib.hid hA2
 have HR1:=Lib.hid hr1
 have HR2:=Lib.hid hr2
 have HC:=Lib.hid hC
 clear hn hm hA1 hA2 hr1 hr2 hc1 hc2 hb1 hb2 hC hR
 by_cases hnm:n = m
 rotate_left
 ·have hRF:R = false:=by rw [HR.out]; exact zd3 (by rw [← HN.out, ← HM.out]; exact hnm)
  have hd:((n:Int) != (m:Int)) = true:=by simp; omega
  subst hRF
  go_enter Tryz.func75, Tryz.ntmps75
  go_wp2_with fail
  go_ret
  exact ⟨rfl,Below.refl _ _⟩
 subst hnm
 clear g2
 go_enter Tryz.func75, Tryz.ntmps75
 go_wp2_with fail
 go_loopw [17] (fun u wr => ∃ j:Nat,j ≤ n ∧ u = .int .i64 j ∧ Hid (allS s (xs.drop j) (ys.drop j) = R ∧ Below w.heap.size w wr)) (fun u _ => n - (intOf u).toNat)
 case atStart => exact ⟨0,Nat.zero_le _,rfl,Lib.hid ⟨by rw [List.drop_zero,List.drop_zero,HR.out],Below.refl _ _⟩⟩
 case round =>
  obtain ⟨j,hj,rfl,hq⟩:=hrel
  by_cases hlt:j < n
  ·have hlt':(j:Int) < n:=by omega
   obtain ⟨x,hx⟩ : ∃ x,xs[j]? = some x:=⟨_,List.getElem?_eq_getElem (by have:=HN.out; omega)⟩
   obtain ⟨y,hy⟩ : ∃ y,ys[j]? = some y:=⟨_,List.getElem?_eq_getElem (by have:=HM.out; omega)⟩
   obtain ⟨a1,rfl,ha1,hx1⟩:=HA1.out (by omega)
   obtain ⟨a2,rfl,ha2,hx2⟩:=HA2.out (by omega)
   have hst:=zf3 (f:=s) hx hy
   obtain ⟨xs0,xA1,xl1,xc1,xs2,xA3,xl3,xc3,xA4,xl4,xc4,ex0,ex1,ex2,ex3,ex4⟩:=FldR.form3 (HR1.out j x hx)
   obtain ⟨ys0,yA1,yl1,yc1,ys2,yA3,yl3,yc3,yA4,yl4,yc4,ey0,ey1,ey2,ey3,ey4⟩:=FldR.form3 (HR2.out j y hy)
   have hcl1:∀ q,q < 5 → wr.cell? (at_ (a1.add (j * 5)) q) = some (V1 j q):=fun q hq2 => (hq.out.2.cell (by rw [za7,za1]; exact ha1)).trans (hx1 j hlt q hq2)
   have hcl2:∀ q,q < 5 → (wr.alloc (.cells #[.string xs0,.slice xA1 xl1 xc1,.string xs2,.slice xA3 xl3 xc3,.slice xA4 xl4 xc4] 46 (0,0))).cell? (at_ (a2.add (j * 5)) q) = some (V2 j q):=fun q hq2 => ((hq.out.2.trans ((za0 wr _).mono hq.out.2.size)).cell (by rw [za7,za1]; exact ha2)).trans (hx2 j hlt q hq2)
   have r0:wr.cell? (a1.add (j * 5)) = some (.string xs0):=(hcl1 0 (by omega)).trans (by rw [ex0])
   have r1:wr.cell? ⟨(a1.add (j * 5)).block,(a1.add (j * 5)).off + 1,none⟩ = some (.slice xA1 xl1 xc1):=(hcl1 1 (by omega)).trans (by rw [ex1])
   have r2:wr.cell? ⟨(a1.add (j * 5)).block,(a1.add (j * 5)).off + 2,none⟩ = some (.string xs2):=(hcl1 2 (by omega)).trans (by rw [ex2])
   have r3:wr.cell? ⟨(a1.add (j * 5)).block,(a1.add (j * 5)).off + 3,none⟩ = some (.slice xA3 xl3 xc3):=(hcl1 3 (by omega)).trans (by rw [ex3])
   have r4:wr.cell? ⟨(a1.add (j * 5)).block,(a1.add (j * 5)).off + 4,none⟩ = some (.slice xA4 xl4 xc4):=(hcl1 4 (by omega)).trans (by rw [ex4])
   have t0:(wr.alloc (.cells #[.string xs0,.slice xA1 xl1 xc1,.string xs2,.slice xA3 xl3 xc3,.slice xA4 xl4 xc4] 46 (0,0))).cell? (a2.add (j * 5)) = some (.string ys0):=(hcl2 0 (by omega)).trans (by rw [ey0])
   have t1:(wr.alloc (.cells #[.string xs0,.slice xA1 xl1 xc1,.string xs2,.slice xA3 xl3 xc3,.slice xA4 xl4 xc4] 46 (0,0))).cell? ⟨(a2.add (j * 5)).block,(a2.add (j * 5)).off + 1,none⟩ = some (.slice yA1 yl1 yc1):=(hcl2 1 (by omega)).trans (by rw [ey1])
   have t2:(wr.alloc (.cells #[.string xs0,.slice xA1 xl1 xc1,.string xs2,.slice xA3 xl3 xc3,.slice xA4 xl4 xc4] 46 (0,0))).cell? ⟨(a2.add (j * 5)).block,(a2.add (j * 5)).off + 2,none⟩ = some (.string ys2):=(hcl2 2 (by omega)).trans (by rw [ey2])
   have t3:(wr.alloc (.cells #[.string xs0,.slice xA1 xl1 xc1,.string xs2,.slice xA3 xl3 xc3,.slice xA4 xl4 xc4] 46 (0,0))).cell? ⟨(a2.add (j * 5)).block,(a2.add (j * 5)).off + 3,none⟩ = some (.slice yA3 yl3 yc3):=(hcl2 3 (by omega)).trans (by rw [ey3])
   have t4:(wr.alloc (.cells #[.string xs0,.slice xA1 xl1 xc1,.string xs2,.slice xA3 xl3 xc3,.slice xA4 xl4 xc4] 46 (0,0))).cell? ⟨(a2.add (j * 5)).block,(a2.add (j * 5)).off + 4,none⟩ = some (.slice yA4 yl4 yc4):=(hcl2 4 (by omega)).trans (by rw [ey4])
   have hbw:Below w.heap.size w ((wr.alloc (.cells #[.string xs0,.slice xA1 xl1 xc1,.string xs2,.slice xA3 xl3 xc3,.slice xA4 xl4 xc4] 46 (0,0))).alloc (.cells #[.string ys0,.slice yA1 yl1 yc1,.string ys2,.slice yA3 yl3 yc3,.slice yA4 yl4 yc4] 46 (0,0))):=(hq.out.2.trans ((za0 wr _).mono hq.out.2.size)).alloc (by have:=hq.out.2.size; simp; omega) _
   have HBW:=Lib.hid hbw
   have CALL:=Lib.hid (HC.out _ x y (V1 j) (V2 j) hbw (List.mem_of_getElem? hx) (List.mem_of_getElem? hy) (FldR.stays.mono (FldR.stays.kept (HR1.out j x hx) hbw) hbw.size) (FldR.stays.mono (FldR.stays.kept (HR2.out j y hy) hbw) hbw.size))
   obtain ⟨b,hb⟩ : ∃ b,b = s x y:=⟨_,rfl⟩
   rw [← hb,ex0,ey0,ex1,ey1,ex2,ey2,ex3,ey3,ex4,ey4] at CALL
   rw [← hb] at hst
   have HST:=Lib.hid hst
   clear ex0 ey0 ex1 ey1 ex2 ey2 ex3 ey3 ex4 ey4 hx hy hst hcl1 hcl2 hx1 hx2 ha1 ha2 hbw hb
   cases b with
   | true =>
     go_wp2_with fail
     refine CALL.out.mono ?_
     rintro e w5 ⟨rfl,hb⟩
     have HB5:=Lib.hid (HBW.out.trans (hb.mono HBW.out.size))
     clear hb CALL
     go_wp2_with fail
     go_roundw
     case rel => exact ⟨j + 1,by omega,by go_num,Lib.hid ⟨by have:=HST.out; rw [hq.out.1] at this; rw [this]; rfl,HB5.out⟩⟩
     case measure => simp [intOf]; omega
   | false =>
     have hRF:R = false:=by have:=HST.out; rw [hq.out.1] at this; rw [this]; rfl
     subst hRF
     go_wp2_with fail
     refine CALL.out.mono ?_
     rintro e w5 ⟨rfl,hb⟩
     have HB5:=Lib.hid (HBW.out.trans (hb.mono HBW.out.size))
     clear hb CALL
     go_wp2_with fail
     go_ret
     exact ⟨rfl,HB5.out⟩
  ·have hjn:j = n:=by omega
   have hlt':¬ (j:Int) < n:=by omega
   have hRT:R = true:=by rw [← hq.out.1]; exact zd6 (by rw [← HN.out]; omega) (by rw [← HM.out]; omega)
   subst hRT
   go_wp2_with fail
   go_ret
   exact ⟨rfl,hq.out.2⟩
end Go.Proofs.YtfgelheiknmjgaaGreatDoor
namespace Go.Proofs.YtfgelheiknmjgaaGreatDoor
open Go.RowKit
set_option maxRecDepth 100000 in
set_option maxHeartbeats 4000000 in
theorem zz6 (x y:InpT) (f g:Nat → Value) (w:World) (hx:InpR w w.heap.size f x) (hy:InpR w w.heap.size g y) (hl:x.tw.length ≤ 17592186044416):Calls Tryz.prog 80 #[.agg #[f 0,f 1,f 2,f 3,f 4,f 5,f 6,f 7,f 8,f 9],.agg #[g 0,g 1,g 2,g 3,g 4,g 5,g 6,g 7,g 8,g 9]] w (BP (sInp x y) w):=by
 obtain ⟨xs0,xs1,xA2,xl2,xc2,xb3,xi4,xi5,xs6,xA7,xl7,xc7,xA8,xl8,xc8,xA9,xl9,xc9,ex0,ex1,ex2,ex3,ex4,ex5,ex6,ex7,ex8,ex9⟩:=InpR.form3 hx
 obtain ⟨ys0,ys1,yA2,yl2,yc2,yb3,yi4,yi5,ys6,yA7,yl7,yc7,yA8,yl8,yc8,yA9,yl9,yc9,ey0,ey1,ey2,ey3,ey4,ey5,ey6,ey7,ey8,ey9⟩:=InpR.form3 hy
 obtain ⟨b0,e0⟩ : ∃ b:Bool,b = (decide (x.name = y.name)):=⟨_,rfl⟩
 obtain ⟨b1,e1⟩ : ∃ b:Bool,b = (decide (x.tn = y.tn ∧ x.tw = y.tw)):=⟨_,rfl⟩
 obtain ⟨b2,e2⟩ : ∃ b:Bool,b = (decide (x.has = y.has)):=⟨_,rfl⟩
 obtain ⟨b3,e3⟩ : ∃ b:Bool,b = (decide (x.dflt.cmp y.dflt = 0)):=⟨_,rfl⟩
 obtain ⟨b4,e4⟩ : ∃ b:Bool,b = (allS sDir x.dirs y.dirs):=⟨_,rfl⟩
 have HS:Hid (sInp x y = (b0 && (b1 && (b2 && (b3 && b4))))):=Lib.hid (by rw [e0,e1,e2,e3,e4]; rfl)
 generalize sInp x y = S at HS ⊢
 have hxn0:x.name = xs0:=by have h:=(ex0.symm.trans hx.name).symm; simpa using h
 have hyn0:y.name = ys0:=by have h:=(ey0.symm.trans hy.name).symm; simpa using h
 have hxn3:x.has = xb3:=by have h:=(ex3.symm.trans hx.has).symm; simpa using h
 have hyn3:y.has = yb3:=by have h:=(ey3.symm.trans hy.has).symm; simpa using h
 rw [hxn0,hyn0] at e0
 rw [hxn3,hyn3] at e2
 have B0:Below w.heap.size w ((w.alloc (.cells #[.string xs0,.string xs1,.slice xA2 xl2 xc2,.bool xb3,.int .i64 xi4,.int .i64 xi5,.string xs6,.slice xA7 xl7 xc7,.slice xA8 xl8 xc8,.slice xA9 xl9 xc9] 55 (0,0))).alloc (.cells #[.string ys0,.string ys1,.slice yA2 yl2 yc2,.bool yb3,.int .i64 yi4,.int .i64 yi5,.string ys6,.slice yA7 yl7 yc7,.slice yA8 yl8 yc8,.slice yA9 yl9 yc9] 55 (0,0))):=(za0 w _).alloc (by simp) _
 have XA0:Bk ((w.alloc (.cells #[.string xs0,.string xs1,.slice xA2 xl2 xc2,.bool xb3,.int .i64 xi4,.int .i64 xi5,.string xs6,.slice xA7 xl7 xc7,.slice xA8 xl8 xc8,.slice xA9 xl9 xc9] 55 (0,0))).alloc (.cells #[.string ys0,.string ys1,.slice yA2 yl2 yc2,.bool yb3,.int .i64 yi4,.int .i64 yi5,.string ys6,.slice yA7 yl7 yc7,.slice yA8 yl8 yc8,.slice yA9 yl9 yc9] 55 (0,0))) w.heap.size #[.string xs0,.string xs1,.slice xA2 xl2 xc2,.bool xb3,.int .i64 xi4,.int .i64 xi5,.string xs6,.slice xA7 xl7 xc7,.slice xA8 xl8 xc8,.slice xA9 xl9 xc9] 55 := (Bk.new w _ _).stay (za0 _ _)
 have XB0:Bk ((w.alloc (.cells #[.string xs0,.string xs1,.slice xA2 xl2 xc2,.bool xb3,.int .i64 xi4,.int .i64 xi5,.string xs6,.slice xA7 xl7 xc7,.slice xA8 xl8 xc8,.slice xA9 xl9 xc9] 55 (0,0))).alloc (.cells #[.string ys0,.string ys1,.slice yA2 yl2 yc2,.bool yb3,.int .i64 yi4,.int .i64 yi5,.string ys6,.slice yA7 yl7 yc7,.slice yA8 yl8 yc8,.slice yA9 yl9 yc9] 55 (0,0))) (w.heap.size + 1) #[.string ys0,.string ys1,.slice yA2 yl2 yc2,.bool yb3,.int .i64 yi4,.int .i64 yi5,.string ys6,.slice yA7 yl7 yc7,.slice yA8 yl8 yc8,.slice yA9 yl9 yc9] 55 := by
  have h:=Bk.new (w.alloc (.cells #[.string xs0,.string xs1,.slice xA2 xl2 xc2,.bool xb3,.int .i64 xi4,.int .i64 xi5,.string xs6,.slice xA7 xl7 xc7,.slice xA8 xl8 xc8,.slice xA9 xl9 xc9] 55 (0,0))) #[.string ys0,.string ys1,.slice yA2 yl2 yc2,.bool yb3,.int .i64 yi4,.int .i64 yi5,.string ys6,.slice yA7 yl7 yc7,.slice yA8 yl8 yc8,.slice yA9 yl9 yc9] 55
  rwa [show (w.alloc (.cells #[.string xs0,.string xs1,.slice xA2 xl2 xc2,.bool xb3,.int .i64 xi4,.int .i64 xi5,.string xs6,.slice xA7 xl7 xc7,.slice xA8 xl8 xc8,.slice xA9 xl9 xc9] 55 (0,0))).heap.size = w.heap.size + 1 by simp] at h
 have C1:Hid (∀ W:World,Below w.heap.size w W → Calls Tryz.prog 138 #[.agg #[.string xs1,.slice xA2 xl2 xc2],.agg #[.string ys1,.slice yA2 yl2 yc2]] W (BP b1 W)):=Lib.hid fun W hW => by
  rw [← ex1, ← ey1, ← ex2, ← ey2,e1]
  exact K.zq0 x.tn y.tn x.tw y.tw _ _ W (((zk7 hx.type).kept hW).mono hW.size) (((zk7 hy.type).kept hW).mono hW.size) hl
 have C3:Hid (∀ W:World,Below w.heap.size w W → Calls Tryz.prog 139 #[.agg #[.int .i64 xi4,.int .i64 xi5,.string xs6,.slice xA7 xl7 xc7,.slice xA8 xl8 xc8],.agg #[.int .i64 yi4,.int .i64 yi5,.string ys6,.slice yA7 yl7 yc7,.slice yA8 yl8 yc8]] W (BP b3 W)):=Lib.hid fun W hW => by
  rw [← ex4, ← ey4, ← ex5, ← ey5, ← ex6, ← ey6, ← ex7, ← ey7, ← ex8, ← ey8,e3]
  exact zs7 x.dflt y.dflt W w.heap.size _ _ (hx.val.kept hW) (hy.val.kept hW) hW.size
 have C4:Hid (∀ W:World,Below w.heap.size w W → Calls Tryz.prog 74 #[.slice xA9 xl9 xc9,.slice yA9 yl9 yc9] W (BP b4 W)):=Lib.hid fun W hW => by
  rw [← ex9, ← ey9,e4]
  exact zh8 x.dirs y.dirs _ _ W ((hx.dirs.kept hW).mono hW.size) ((hy.dirs.kept hW).mono hW.size)
 rw [ex0,ey0,ex1,ey1,ex2,ey2,ex3,ey3,ex4,ey4,ex5,ey5,ex6,ey6,ex7,ey7,ex8,ey8,ex9,ey9]
 have h0:(xs0.toList == ys0.toList) = b0:=by (rw [e0,K.zf7]) <;> exact decide_eq_decide.2 Iff.rfl
 have k0:=e0.symm
 have h2:(xb3 == yb3) = b2:=by rw [e2]; rfl
 have k2:=e2.symm
 have HB:=Lib.hid B0
 have XA:=Lib.hid XA0
 have XB:=Lib.hid XB0
 have y0:=XA.out.cell 0 _ rfl
 have z0:=XB.out.cell 0 _ rfl
 have y1:=XA.out.cell 1 _ rfl
 have z1:=XB.out.cell 1 _ rfl
 have y2:=XA.out.cell 2 _ rfl
 have z2:=XB.out.cell 2 _ rfl
 have y3:=XA.out.cell 3 _ rfl
 have z3:=XB.out.cell 3 _ rfl
 have y4:=XA.out.cell 4 _ rfl
 have z4:=XB.out.cell 4 _ rfl
 have y5:=XA.out.cell 5 _ rfl
 have z5:=XB.out.cell 5 _ rfl
 have y6:=XA.out.cell 6 _ rfl
 have z6:=XB.out.cell 6 _ rfl
 have y7:=XA.out.cell 7 _ rfl
 have z7:=XB.out.cell 7 _ rfl
 have y8:=XA.out.cell 8 _ rfl
 have z8:=XB.out.cell 8 _ rfl
 have y9:=XA.out.cell 9 _ rfl
 have z9:=XB.out.cell 9 _ rfl
 clear B0 XA0 XB0 hx hy e0 e1 e2 e3 e4 hxn0 hyn0 hxn3 hyn3 ex0 ey0 ex1 ey1 ex2 ey2 ex3 ey3 ex4 ey4 ex5 ey5 ex6 ey6 ex7 ey7 ex8 ey8 ex9 ey9
 go_enter Tryz.func80, Tryz.ntmps80
 cases b0 with
 | false =>
   go_wp2_with fail
   all_goals (go_ret; exact ⟨by rw [HS.out]; rfl,HB.out⟩)
 | true =>
 go_wp2_with fail
 refine (C1.out _ HB.out).mono ?_
 rintro e w1 ⟨rfl,hb⟩
 replace HB:=Lib.hid (HB.out.trans (hb.mono HB.out.size))
 replace XA:=Lib.hid (XA.out.stay hb)
 replace XB:=Lib.hid (XB.out.stay hb)
 clear hb C1 y0 z0 y1 z1 y2 z2 y3 z3 y4 z4 y5 z5 y6 z6 y7 z7 y8 z8 y9 z9
 have y0:=XA.out.cell 0 _ rfl
 have z0:=XB.out.cell 0 _ rfl
 have y1:=XA.out.cell 1 _ rfl
 have z1:=XB.out.cell 1 _ rfl
 have y2:=XA.out.cell 2 _ rfl
 have z2:=XB.out.cell 2 _ rfl
 have y3:=XA.out.cell 3 _ rfl
 have z3:=XB.out.cell 3 _ rfl
 have y4:=XA.out.cell 4 _ rfl
 have z4:=XB.out.cell 4 _ rfl
 have y5:=XA.out.cell 5 _ rfl
 have z5:=XB.out.cell 5 _ rfl
 have y6:=XA.out.cell 6 _ rfl
 have z6:=XB.out.cell 6 _ rfl
 have y7:=XA.out.cell 7 _ rfl
 have z7:=XB.out.cell 7 _ rfl
 have y8:=XA.out.cell 8 _ rfl
 have z8:=XB.out.cell 8 _ rfl
 have y9:=XA.out.cell 9 _ rfl
 have z9:=XB.out.cell 9 _ rfl
 cases b1 with
 | false =>
   go_wp2_with fail
   go_ret
   exact ⟨by rw [HS.out]; rfl,HB.out⟩
 | true =>
 cases b2 with
 | false =>
   go_wp2_with fail
   all_goals (go_ret; exact ⟨by rw [HS.out]; rfl,HB.out⟩)
 | true =>
 go_wp2_with fail
 refine (C3.out _ HB.out).mono ?_
 rintro e w1 ⟨rfl,hb⟩
 replace HB:=Lib.hid (HB.out.trans (hb.mono HB.out.size))
 replace XA:=Lib.hid (XA.out.stay hb)
 replace XB:=Lib.hid (XB.out.stay hb)
 clear hb C3 y0 z0 y1 z1 y2 z2 y3 z3 y4 z4 y5 z5 y6 z6 y7 z7 y8 z8 y9 z9
 have y0:=XA.out.cell 0 _ rfl
 have z0:=XB.out.cell 0 _ rfl
 have y1:=XA.out.cell 1 _ rfl
 have z1:=XB.out.cell 1 _ rfl
 have y2:=XA.out.cell 2 _ rfl
 have z2:=XB.out.cell 2 _ rfl
 have y3:=XA.out.cell 3 _ rfl
 have z3:=XB.out.cell 3 _ rfl
 have y4:=XA.out.cell 4 _ rfl
 have z4:=XB.out.cell 4 _ rfl
 have y5:=XA.out.cell 5 _ rfl
 have z5:=XB.out.cell 5 _ rfl
 have y6:=XA.out.cell 6 _ rfl
 have z6:=XB.out.cell 6 _ rfl
 have y7:=XA.out.cell 7 _ rfl
 have z7:=XB.out.cell 7 _ rfl
 have y8:=XA.out.cell 8 _ rfl
 have z8:=XB.out.cell 8 _ rfl
 have y9:=XA.out.cell 9 _ rfl
 have z9:=XB.out.cell 9 _ rfl
 cases b3 with
 | false =>
   go_wp2_with fail
   go_ret
   exact ⟨by rw [HS.out]; rfl,HB.out⟩
 | true =>
 go_wp2_with fail
 refine (C4.out _ HB.out).mono ?_
 rintro e w1 ⟨rfl,hb⟩
 replace HB:=Lib.hid (HB.out.trans (hb.mono HB.out.size))
 clear hb C4 y0 z0 y1 z1 y2 z2 y3 z3 y4 z4 y5 z5 y6 z6 y7 z7 y8 z8 y9 z9
 go_wp2_with fail
 go_ret
 exact ⟨by rw [HS.out]; rfl,HB.out⟩
set_option maxRecDepth 100000 in
set_option maxHeartbeats 4000000 in
theorem zL8 (x y:MemT) (f g:Nat → Value) (w:World) (hx:MemR w w.heap.size f x) (hy:MemR w w.heap.size g y):Calls Tryz.prog 78 #[.agg #[f 0,f 1],.agg #[g 0,g 1]] w (BP (sMem x y) w):=by
 obtain ⟨xs0,xA1,xl1,xc1,ex0,ex1⟩:=MemR.form3 hx
 obtain ⟨ys0,yA1,yl1,yc1,ey0,ey1⟩:=MemR.form3 hy
 obtain ⟨b0,e0⟩ : ∃ b:Bool,b = (decide (x.name = y.name)):=⟨_,rfl⟩
 obtain ⟨b1,e1⟩ : ∃ b:Bool,b = (allS sDir x.dirs y.dirs):=⟨_,rfl⟩
 have HS:Hid (sMem x y = (b0 && b1)):=Lib.hid (by rw [e0,e1]; rfl)
 generalize sMem x y = S at HS ⊢
 have hxn0:x.name = xs0:=by have h:=(ex0.symm.trans hx.name).symm; simpa using h
 have hyn0:y.name = ys0:=by have h:=(ey0.symm.trans hy.name).symm; simpa using h
 rw [hxn0,hyn0] at e0
 have B0:Below w.heap.size w ((w.alloc (.cells #[.string xs0,.slice xA1 xl1 xc1] 48 (0,0))).alloc (.cells #[.string ys0,.slice yA1 yl1 yc1] 48 (0,0))):=(za0 w _).alloc (by simp) _
 have XA0:Bk ((w.alloc (.cells #[.string xs0,.slice xA1 xl1 xc1] 48 (0,0))).alloc (.cells #[.string ys0,.slice yA1 yl1 yc1] 48 (0,0))) w.heap.size #[.string xs0,.slice xA1 xl1 xc1] 48 := (Bk.new w _ _).stay (za0 _ _)
 have XB0:Bk ((w.alloc (.cells #[.string xs0,.slice xA1 xl1 xc1] 48 (0,0))).alloc (.cells #[.string ys0,.slice yA1 yl1 yc1] 48 (0,0))) (w.heap.size + 1) #[.string ys0,.slice yA1 yl1 yc1] 48 := by
  have h:=Bk.new (w.alloc (.cells #[.string xs0,.slice xA1 xl1 xc1] 48 (0,0))) #[.string ys0,.slice yA1 yl1 yc1] 48
  rwa [show (w.alloc (.cells #[.string xs0,.slice xA1 xl1 xc1] 48 (0,0))).heap.size = w.heap.size + 1 by simp] at h
 have C1:Hid (∀ W:World,Below w.heap.size w W → Calls Tryz.prog 74 #[.slice xA1 xl1 xc1,.slice yA1 yl1 yc1] W (BP b1 W)):=Lib.hid fun W hW => by
  rw [← ex1, ← ey1,e1]
  exact zh8 x.dirs y.dirs _ _ W ((hx.dirs.kept hW).mono hW.size) ((hy.dirs.kept hW).mono hW.size)
 rw [ex0,ey0,ex1,ey1]
 have h0:(xs0.toList == ys0.toList) = b0:=by (rw [e0,K.zf7]) <;> exact decide_eq_decide.2 Iff.rfl
 have k0:=e0.symm
 have HB:=Lib.hid B0
 have XA:=Lib.hid XA0
 have XB:=Lib.hid XB0
 have y0:=XA.out.cell 0 _ rfl
 have z0:=XB.out.cell 0 _ rfl
 have y1:=XA.out.cell 1 _ rfl
 have z1:=XB.out.cell 1 _ rfl
 clear B0 XA0 XB0 hx hy e0 e1 hxn0 hyn0 ex0 ey0 ex1 ey1
 go_enter Tryz.func78, Tryz.ntmps78
 cases b0 with
 | false =>
   go_wp2_with fail
   all_goals (go_ret; exact ⟨by rw [HS.out]; rfl,HB.out⟩)
 | true =>
 go_wp2_with fail
 refine (C1.out _ HB.out).mono ?_
 rintro e w1 ⟨rfl,hb⟩
 replace HB:=Lib.hid (HB.out.trans (hb.mono HB.out.size))
 clear hb C1 y0 z0 y1 z1
 go_wp2_with fail
 go_ret
 exact ⟨by rw [HS.out]; rfl,HB.out⟩
set_option maxRecDepth 100000 in
set_option maxHeartbeats 4000000 in
theorem zL9 (x y:FldT) (f g:Nat → Value) (w:World) (hx:FldR w w.heap.size f x) (hy:FldR w w.heap.size g y) (hl:x.tw.length ≤ 17592186044416) (hI:∀ i ∈ x.args,i.tw.length ≤ 17592186044416):Calls Tryz.prog 76 #[.agg #[f 0,f 1,f 2,f 3,f 4],.agg #[g 0,g 1,g 2,g 3,g 4]] w (BP (sFld x y) w):=by
 obtain ⟨xs0,xA1,xl1,xc1,xs2,xA3,xl3,xc3,xA4,xl4,xc4,ex0,ex1,ex2,ex3,ex4⟩:=FldR.form3 hx
 obtain ⟨ys0,yA1,yl1,yc1,ys2,yA3,yl3,yc3,yA4,yl4,yc4,ey0,ey1,ey2,ey3,ey4⟩:=FldR.form3 hy
 obtain ⟨b0,e0⟩ : ∃ b:Bool,b = (decide (x.name = y.name)):=⟨_,rfl⟩
 obtain ⟨b1,e1⟩ : ∃ b:Bool,b = (decide (x.tn = y.tn ∧ x.tw = y.tw)):=⟨_,rfl⟩
 obtain ⟨b2,e2⟩ : ∃ b:Bool,b = (allS sInp x.args y.args):=⟨_,rfl⟩
 obtain ⟨b3,e3⟩ : ∃ b:Bool,b = (allS sDir x.dirs y.dirs):=⟨_,rfl⟩
 have HS:Hid (sFld x y = (b0 && (b1 && (b2 && b3)))):=Lib.hid (by rw [e0,e1,e2,e3]; rfl)
 generalize sFld x y = S at HS ⊢
 have hxn0:x.name = xs0:=by have h:=(ex0.symm.trans hx.name).symm; simpa using h
 have hyn0:y.name = ys0:=by have h:=(ey0.symm.trans hy.name).symm; simpa using h
 rw [hxn0,hyn0] at e0
 have B0:Below w.heap.size w ((w.alloc (.cells #[.string xs0,.slice xA1 xl1 xc1,.string xs2,.slice xA3 xl3 xc3,.slice xA4 xl4 xc4] 46 (0,0))).alloc (.cells #[.string ys0,.slice yA1 yl1 yc1,.string ys2,.slice yA3 yl3 yc3,.slice yA4 yl4 yc4] 46 (0,0))):=(za0 w _).alloc (by simp) _
 have XA0:Bk ((w.alloc (.cells #[.string xs0,.slice xA1 xl1 xc1,.string xs2,.slice xA3 xl3 xc3,.slice xA4 xl4 xc4] 46 (0,0))).alloc (.cells #[.string ys0,.slice yA1 yl1 yc1,.string ys2,.slice yA3 yl3 yc3,.slice yA4 yl4 yc4] 46 (0,0))) w.heap.size #[.string xs0,.slice xA1 xl1 xc1,.string xs2,.slice xA3 xl3 xc3,.slice xA4 xl4 xc4] 46 := (Bk.new w _ _).stay (za0 _ _)
 have XB0:Bk ((w.alloc (.cells #[.string xs0,.slice xA1 xl1 xc1,.string xs2,.slice xA3 xl3 xc3,.slice xA4 xl4 xc4] 46 (0,0))).alloc (.cells #[.string ys0,.slice yA1 yl1 yc1,.string ys2,.slice yA3 yl3 yc3,.slice yA4 yl4 yc4] 46 (0,0))) (w.heap.size + 1) #[.string ys0,.slice yA1 yl1 yc1,.string ys2,.slice yA3 yl3 yc3,.slice yA4 yl4 yc4] 46 := by
  have h:=Bk.new (w.alloc (.cells #[.string xs0,.slice xA1 xl1 xc1,.string xs2,.slice xA3 xl3 xc3,.slice xA4 xl4 xc4] 46 (0,0))) #[.string ys0,.slice yA1 yl1 yc1,.string ys2,.slice yA3 yl3 yc3,.slice yA4 yl4 yc4] 46
  rwa [show (w.alloc (.cells #[.string xs0,.slice xA1 xl1 xc1,.string xs2,.slice xA3 xl3 xc3,.slice xA4 xl4 xc4] 46 (0,0))).heap.size = w.heap.size + 1 by simp] at h
 have C1:Hid (∀ W:World,Below w.heap.size w W → Calls Tryz.prog 138 #[.agg #[.string xs2,.slice xA3 xl3 xc3],.agg #[.string ys2,.slice yA3 yl3 yc3]] W (BP b1 W)):=Lib.hid fun W hW => by
  rw [← ex2, ← ey2, ← ex3, ← ey3,e1]
  exact K.zq0 x.tn y.tn x.tw y.tw _ _ W (((zk7 hx.type).kept hW).mono hW.size) (((zk7 hy.type).kept hW).mono hW.size) hl
 have C2:Hid (∀ W:World,Below w.heap.size w W → Calls Tryz.prog 79 #[.slice xA1 xl1 xc1,.slice yA1 yl1 yc1,.func (.func 80) #[] #[]] W (BP b2 W)):=Lib.hid fun W hW => by
  rw [← ex1, ← ey1,e2]
  exact zD1 sInp x.args y.args _ _ W ((hx.args.kept hW).mono hW.size) ((hy.args.kept hW).mono hW.size) (fun W x y f g _ hm _ h1 h2 => zz6 x y f g W h1 h2 (hI x hm))
 have C3:Hid (∀ W:World,Below w.heap.size w W → Calls Tryz.prog 74 #[.slice xA4 xl4 xc4,.slice yA4 yl4 yc4] W (BP b3 W)):=Lib.hid fun W hW => by
  rw [← ex4, ← ey4,e3]
  exact zh8 x.dirs y.dirs _ _ W ((hx.dirs.kept hW).mono hW.size) ((hy.dirs.kept hW).mono hW.size)
 rw [ex0,ey0,ex1,ey1,ex2,ey2,ex3,ey3,ex4,ey4]
 have h0:(xs0.toList == ys0.toList) = b0:=by (rw [e0,K.zf7]) <;> exact decide_eq_decide.2 Iff.rfl
 have k0:=e0.symm
 have HB:=Lib.hid B0
 have XA:=Lib.hid XA0
 have XB:=Lib.hid XB0
 have y0:=XA.out.cell 0 _ rfl
 have z0:=XB.out.cell 0 _ rfl
 have y1:=XA.out.cell 1 _ rfl
 have z1:=XB.out.cell 1 _ rfl
 have y2:=XA.out.cell 2 _ rfl
 have z2:=XB.out.cell 2 _ rfl
 have y3:=XA.out.cell 3 _ rfl
 have z3:=XB.out.cell 3 _ rfl
 have y4:=XA.out.cell 4 _ rfl
 have z4:=XB.out.cell 4 _ rfl
 clear B0 XA0 XB0 hx hy e0 e1 e2 e3 hxn0 hyn0 ex0 ey0 ex1 ey1 ex2 ey2 ex3 ey3 ex4 ey4
 go_enter Tryz.func76, Tryz.ntmps76
 cases b0 with
 | false =>
   go_wp2_with fail
   all_goals (go_ret; exact ⟨by rw [HS.out]; rfl,HB.out⟩)
 | true =>
 go_wp2_with fail
 refine (C1.out _ HB.out).mono ?_
 rintro e w1 ⟨rfl,hb⟩
 replace HB:=Lib.hid (HB.out.trans (hb.mono HB.out.size))
 replace XA:=Lib.hid (XA.out.stay hb)
 replace XB:=Lib.hid (XB.out.stay hb)
 clear hb C1 y0 z0 y1 z1 y2 z2 y3 z3 y4 z4
 have y0:=XA.out.cell 0 _ rfl
 have z0:=XB.out.cell 0 _ rfl
 have y1:=XA.out.cell 1 _ rfl
 have z1:=XB.out.cell 1 _ rfl
 have y2:=XA.out.cell 2 _ rfl
 have z2:=XB.out.cell 2 _ rfl
 have y3:=XA.out.cell 3 _ rfl
 have z3:=XB.out.cell 3 _ rfl
 have y4:=XA.out.cell 4 _ rfl
 have z4:=XB.out.cell 4 _ rfl
 cases b1 with
 | false =>
   go_wp2_with fail
   go_ret
   exact ⟨by rw [HS.out]; rfl,HB.out⟩
 | true =>
 go_wp2_with fail
 refine (C2.out _ HB.out).mono ?_
 rintro e w1 ⟨rfl,hb⟩
 replace HB:=Lib.hid (HB.out.trans (hb.mono HB.out.size))
 replace XA:=Lib.hid (XA.out.stay hb)
 replace XB:=Lib.hid (XB.out.stay hb)
 clear hb C2 y0 z0 y1 z1 y2 z2 y3 z3 y4 z4
 have y0:=XA.out.cell 0 _ rfl
 have z0:=XB.out.cell 0 _ rfl
 have y1:=XA.out.cell 1 _ rfl
 have z1:=XB.out.cell 1 _ rfl
 have y2:=XA.out.cell 2 _ rfl
 have z2:=XB.out.cell 2 _ rfl
 have y3:=XA.out.cell 3 _ rfl
 have z3:=XB.out.cell 3 _ rfl
 have y4:=XA.out.cell 4 _ rfl
 have z4:=XB.out.cell 4 _ rfl
 cases b2 with
 | false =>
   go_wp2_with fail
   go_ret
   exact ⟨by rw [HS.out]; rfl,HB.out⟩
 | true =>
 go_wp2_with fail
 refine (C3.out _ HB.out).mono ?_
 rintro e w1 ⟨rfl,hb⟩
 replace HB:=Lib.hid (HB.out.trans (hb.mono HB.out.size))
 clear hb C3 y0 z0 y1 z1 y2 z2 y3 z3 y4 z4
 go_wp2_with fail
 go_ret
 exact ⟨by rw [HS.out]; rfl,HB.out⟩
end Go.Proofs.YtfgelheiknmjgaaGreatDoor

