
/-
 Texts joined: SbDef W3 Sg Sd1 Sc3 Sc4 Sd2.
-/
import Derived.Test.YtfgelheiknmjgaaGreatDoorZs33
import Derived.Test.YtfgelheiknmjgaaGreatDoorZs28
import Derived.Test.YtfgelheiknmjgaaGreatDoorZs7
import Derived.BigQuiet
import Derived.Test.YtfgelheiknmjgaaGreatDoorZs27
import Derived.Test.YtfgelheiknmjgaaGreatDoorZs35
import Derived.Test.YtfgelheiknmjgaaGreatDoorZs34
namespace Go.Proofs.YtfgelheiknmjgaaGreatDoor
open Go.RowKit
set_option maxRecDepth 100000 in
set_option maxHeartbeats 4000000 in
theorem zS2 (s:DefT → DefT → Bool) (xs ys:List (DefT)) (v1 v2:Value) (w:World) (hx:Sl 7 144 DefR w w.heap.size v1 xs) (hy:Sl 7 144 DefR w w.heap.size v2 ys)
  (hC:∀ (W:World) (x y:DefT) (f g:Nat → Value),Below w.heap.size w W → x ∈ xs → y ∈ ys → DefR W W.heap.size f x → DefR W W.heap.size g y → Calls Tryz.prog 37 #[.agg #[f 0,f 1,f 2,f 3,f 4,f 5,f 6],.agg #[g 0,g 1,g 2,g 3,g 4,g 5,g 6]] W (BP (s x y) W)) :
  Calls Tryz.prog 36 #[v1,v2,.func (.func 37) #[] #[]] w (BP (allS s xs ys) w):=by
 obtain ⟨A1,c1,rfl,hc1,hb1,V1,hA1,hr1⟩:=hx
 obtain ⟨A2,c2,rfl,hc2,hb2,V2,hA2,hr2⟩:=hy
 obtain ⟨n,hn⟩ : ∃ n,n = xs.length:=⟨_,rfl⟩
 obtain ⟨m,hm⟩ : ∃ m,m = ys.length:=⟨_,rfl⟩
 obtain ⟨R,hR⟩ : ∃ R,R = allS s xs ys:=⟨_,rfl⟩
 rw [← hn] at hb1 hA1
 rw [← hm] at hb2 hA2
 rw [← hR, ← hn, ← hm]
 unfold big at hb1 hb2
 have g1:(n:Int) ≤ 140737488351232:=by omega
 have g2:(m:Int) ≤ 140737488351232:=by omega
 have HN:=Lib.hid hn
 have HM:=Lib.hid hm
 have HR:=Lib.hid hR
 have HA1:=Lib.hid hA1
 have HA2:=Lib.hid hA2
 have HR1:=Lib.hid hr1
 have HR2:=Lib.hid hr2
 have HC:=Lib.hid hC
 clear hn hm hA1 hA2 hr1 hr2 hc1 hc2 hb1 hb2 hC hR
 by_cases hnm:n = m
 rotate_left
 ·have hRF:R = false:=by rw [HR.out]; exact zd3 (by rw [← HN.out, ← HM.out]; exact hnm)
  have hd:((n:Int) != (m:Int)) = true:=by simp; omega
  subst hRF
  go_enter Tryz.func36, Tryz.ntmps36
  go_wp2_with fail
  go_ret
  exact ⟨rfl,Below.refl _ _⟩
 subst hnm
 clear g2
 go_enter Tryz.func36, Tryz.ntmps36
 go_wp2_with fail
 go_loopw [17] (fun u wr => ∃ j:Nat,j ≤ n ∧ u = .int .i64 j ∧ Hid (allS s (xs.drop j) (ys.drop j) = R ∧ Below w.heap.size w wr)) (fun u _ => n - (intOf u).toNat)
 case atStart => exact ⟨0,Nat.zero_le _,rfl,Lib.hid ⟨by rw [List.drop_zero,List.drop_zero,HR.out],Below.refl _ _⟩⟩
 case round =>
  obtain ⟨j,hj,rfl,hq⟩:=hrel
  by_cases hlt:j < n
  ·have hlt':(j:Int) < n:=by omega
   obtain ⟨x,hx⟩ : ∃ x,xs[j]? = some x:=⟨_,List.getElem?_eq_getElem (by have:=HN.out; omega)⟩
   obtain ⟨y,hy⟩ : ∃ y,ys[j]? = some y:=⟨_,List.getElem?_eq_getElem (by have:=HM.out; omega)⟩
   obtain ⟨a1,rfl,ha1,hx1⟩:=HA1.out (by omega)
   obtain ⟨a2,rfl,ha2,hx2⟩:=HA2.out (by omega)
   have hst:=zf3 (f:=s) hx hy
   obtain ⟨xi0,xs1,xA2,xl2,xc2,xA3,xl3,xc3,xA4,xl4,xc4,xA5,xl5,xc5,xA6,xl6,xc6,ex0,ex1,ex2,ex3,ex4,ex5,ex6⟩:=DefR.form3 (HR1.out j x hx)
   obtain ⟨yi0,ys1,yA2,yl2,yc2,yA3,yl3,yc3,yA4,yl4,yc4,yA5,yl5,yc5,yA6,yl6,yc6,ey0,ey1,ey2,ey3,ey4,ey5,ey6⟩:=DefR.form3 (HR2.out j y hy)
   have hcl1:∀ q,q < 7 → wr.cell? (at_ (a1.add (j * 7)) q) = some (V1 j q):=fun q hq2 => (hq.out.2.cell (by rw [za7,za1]; exact ha1)).trans (hx1 j hlt q hq2)
   have hcl2:∀ q,q < 7 → (wr.alloc (.cells #[.int .i64 xi0,.string xs1,.slice xA2 xl2 xc2,.slice xA3 xl3 xc3,.slice xA4 xl4 xc4,.slice xA5 xl5 xc5,.slice xA6 xl6 xc6] 39 (0,0))).cell? (at_ (a2.add (j * 7)) q) = some (V2 j q):=fun q hq2 => ((hq.out.2.trans ((za0 wr _).mono hq.out.2.size)).cell (by rw [za7,za1]; exact ha2)).trans (hx2 j hlt q hq2)
   have r0:wr.cell? (a1.add (j * 7)) = some (.int .i64 xi0):=(hcl1 0 (by omega)).trans (by rw [ex0])
   have r1:wr.cell? ⟨(a1.add (j * 7)).block,(a1.add (j * 7)).off + 1,none⟩ = some (.string xs1):=(hcl1 1 (by omega)).trans (by rw [ex1])
   have r2:wr.cell? ⟨(a1.add (j * 7)).block,(a1.add (j * 7)).off + 2,none⟩ = some (.slice xA2 xl2 xc2):=(hcl1 2 (by omega)).trans (by rw [ex2])
   have r3:wr.cell? ⟨(a1.add (j * 7)).block,(a1.add (j * 7)).off + 3,none⟩ = some (.slice xA3 xl3 xc3):=(hcl1 3 (by omega)).trans (by rw [ex3])
   have r4:wr.cell? ⟨(a1.add (j * 7)).block,(a1.add (j * 7)).off + 4,none⟩ = some (.slice xA4 xl4 xc4):=(hcl1 4 (by omega)).trans (by rw [ex4])
   have r5:wr.cell? ⟨(a1.add (j * 7)).block,(a1.add (j * 7)).off + 5,none⟩ = some (.slice xA5 xl5 xc5):=(hcl1 5 (by omega)).trans (by rw [ex5])
   have r6:wr.cell? ⟨(a1.add (j * 7)).block,(a1.add (j * 7)).off + 6,none⟩ = some (.slice xA6 xl6 xc6):=(hcl1 6 (by omega)).trans (by rw [ex6])
   have t0:(wr.alloc (.cells #[.int .i64 xi0,.string xs1,.slice xA2 xl2 xc2,.slice xA3 xl3 xc3,.slice xA4 xl4 xc4,.slice xA5 xl5 xc5,.slice xA6 xl6 xc6] 39 (0,0))).cell? (a2.add (j * 7)) = some (.int .i64 yi0):=(hcl2 0 (by omega)).trans (by rw [ey0])
   have t1:(wr.alloc (.cells #[.int .i64 xi0,.string xs1,.slice xA2 xl2 xc2,.slice xA3 xl3 xc3,.slice xA4 xl4 xc4,.slice xA5 xl5 xc5,.slice xA6 xl6 xc6] 39 (0,0))).cell? ⟨(a2.add (j * 7)).block,(a2.add (j * 7)).off + 1,none⟩ = some (.string ys1):=(hcl2 1 (by omega)).trans (by rw [ey1])
   have t2:(wr.alloc (.cells #[.int .i64 xi0,.string xs1,.slice xA2 xl2 xc2,.slice xA3 xl3 xc3,.slice xA4 xl4 xc4,.slice xA5 xl5 xc5,.slice xA6 xl6 xc6] 39 (0,0))).cell? ⟨(a2.add (j * 7)).block,(a2.add (j * 7)).off + 2,none⟩ = some (.slice yA2 yl2 yc2):=(hcl2 2 (by omega)).trans (by rw [ey2])
   have t3:(wr.alloc (.cells #[.int .i64 xi0,.string xs1,.slice xA2 xl2 xc2,.slice xA3 xl3 xc3,.slice xA4 xl4 xc4,.slice xA5 xl5 xc5,.slice xA6 xl6 xc6] 39 (0,0))).cell? ⟨(a2.add (j * 7)).block,(a2.add (j * 7)).off + 3,none⟩ = some (.slice yA3 yl3 yc3):=(hcl2 3 (by omega)).trans (by rw [ey3])
   have t4:(wr.alloc (.cells #[.int .i64 xi0,.string xs1,.slice xA2 xl2 xc2,.slice xA3 xl3 xc3,.slice xA4 xl4 xc4,.slice xA5 xl5 xc5,.slice xA6 xl6 xc6] 39 (0,0))).cell? ⟨(a2.add (j * 7)).block,(a2.add (j * 7)).off + 4,none⟩ = some (.slice yA4 yl4 yc4):=(hcl2 4 (by omega)).trans (by rw [ey4])
   have t5:(wr.alloc (.cells #[.int .i64 xi0,.string xs1,.slice xA2 xl2 xc2,.slice xA3 xl3 xc3,.slice xA4 xl4 xc4,.slice xA5 xl5 xc5,.slice xA6 xl6 xc6] 39 (0,0))).cell? ⟨(a2.add (j * 7)).block,(a2.add (j * 7)).off + 5,none⟩ = some (.slice yA5 yl5 yc5):=(hcl2 5 (by omega)).trans (by rw [ey5])
   have t6:(wr.alloc (.cells #[.int .i64 xi0,.string xs1,.slice xA2 xl2 xc2,.slice xA3 xl3 xc3,.slice xA4 xl4 xc4,.slice xA5 xl5 xc5,.slice xA6 xl6 xc6] 39 (0,0))).cell? ⟨(a2.add (j * 7)).block,(a2.add (j * 7)).off + 6,none⟩ = some (.slice yA6 yl6 yc6):=(hcl2 6 (by omega)).trans (by rw [ey6])
   have hbw:Below w.heap.size w ((wr.alloc (.cells #[.int .i64 xi0,.string xs1,.slice xA2 xl2 xc2,.slice xA3 xl3 xc3,.slice xA4 xl4 xc4,.slice xA5 xl5 xc5,.slice xA6 xl6 xc6] 39 (0,0))).alloc (.cells #[.int .i64 yi0,.string ys1,.slice yA2 yl2 yc2,.slice yA3 yl3 yc3,.slice yA4 yl4 yc4,.slice yA5 yl5 yc5,.slice yA6 yl6 yc6] 39 (0,0))):=(hq.out.2.trans ((za0 wr _).mono hq.out.2.size)).alloc (by have:=hq.out.2.size; simp; omega) _
   have HBW:=Lib.hid hbw
   have CALL:=Lib.hid (HC.out _ x y (V1 j) (V2 j) hbw (List.mem_of_getElem? hx) (List.mem_of_getElem? hy) (DefR.stays.mono (DefR.stays.kept (HR1.out j x hx) hbw) hbw.size) (DefR.stays.mono (DefR.stays.kept (HR2.out j y hy) hbw) hbw.size))
   obtain ⟨b,hb⟩ : ∃ b,b = s x y:=⟨_,rfl⟩
   rw [← hb,ex0,ey0,ex1,ey1,ex2,ey2,ex3,ey3,ex4,ey4,ex5,ey5,ex6,ey6] at CALL
   rw [← hb] at hst
   have HST:=Lib.hid hst
   clear ex0 ey0 ex1 ey1 ex2 ey2 ex3 ey3 ex4 ey4 ex5 ey5 ex6 ey6 hx hy hst hcl1 hcl2 hx1 hx2 ha1 ha2 hbw hb
   cases b with
   | true =>
     go_wp2_with fail
     refine CALL.out.mono ?_
     rintro e w5 ⟨rfl,hb⟩
     have HB5:=Lib.hid (HBW.out.trans (hb.mono HBW.out.size))
     clear hb CALL
     go_wp2_with fail
     go_roundw
     case rel => exact ⟨j + 1,by omega,by go_num,Lib.hid ⟨by have:=HST.out; rw [hq.out.1] at this; rw [this]; rfl,HB5.out⟩⟩
     case measure => simp [intOf]; omega
   | false =>
     have hRF:R = false:=by have:=HST.out; rw [hq.out.1] at this; rw [this]; rfl
     subst hRF
     go_wp2_with fail
     refine CALL.out.mono ?_
     rintro e w5 ⟨rfl,hb⟩
     have HB5:=Lib.hid (HBW.out.trans (hb.mono HBW.out.size))
     clear hb CALL
     go_wp2_with fail
     go_ret
     exact ⟨rfl,HB5.out⟩
  ·have hjn:j = n:=by omega
   have hlt':¬ (j:Int) < n:=by omega
   have hRT:R = true:=by rw [← hq.out.1]; exact zd6 (by rw [← HN.out]; omega) (by rw [← HM.out]; omega)
   subst hRT
   go_wp2_with fail
   go_ret
   exact ⟨rfl,hq.out.2⟩
end Go.Proofs.YtfgelheiknmjgaaGreatDoor
namespace Go.Proofs.YtfgelheiknmjgaaGreatDoor
open Go.RowKit
theorem pastc {w W:World} {B:Nat} (hW:Below B w W) (x:Past W) (hB:B ≤ W.heap.size) {p:Addr} (hp:p.block < B):x.w.cell? p = w.cell? p:=(x.b.cell (by omega)).trans (hW.cell hp)
end Go.Proofs.YtfgelheiknmjgaaGreatDoor
namespace Go.Proofs.YtfgelheiknmjgaaGreatDoor
open Go.RowKit
theorem qcA1 {w:World} {p:Addr} {v:Value} (h:w.cell? p = some v) (o:Obj):(w.alloc o).cell? p = some v:=((za0 w o).cell (Lib.lt_of_cell h)).trans h
theorem qcA2 {w:World} {p:Addr} {v:Value} (h:w.cell? p = some v) (o o':Obj):((w.alloc o).alloc o').cell? p = some v:=qcA1 (qcA1 h o) o'
theorem qcAb {w W:World} (hW:Below w.heap.size w W) {p:Addr} {v:Value} (h:w.cell? p = some v):W.cell? p = some v:=(hW.cell (Lib.lt_of_cell h)).trans h
theorem qcAp {w W:World} (hW:Below w.heap.size w W) {p:Addr} {v:Value} (h:w.cell? p = some v) (x:Past W):x.w.cell? p = some v:=(pastc hW x hW.size (Lib.lt_of_cell h)).trans h
end Go.Proofs.YtfgelheiknmjgaaGreatDoor
namespace Go.Proofs.YtfgelheiknmjgaaGreatDoor
open Go.RowKit
theorem zy7 {α:Type} [DecidableEq α]:∀ (l m:List α),allS (fun x y => decide (x = y)) l m = decide (l = m)
 | [],[] => by simp [allS]
 | [],_ :: _ => by simp [allS]
 | _ :: _,[] => by simp [allS]
 | a :: r,b :: s => by
   rw [allS,zy7 r s]
   by_cases h1:a = b <;> by_cases h2:r = s <;> simp [h1,h2]
set_option maxRecDepth 100000 in
set_option maxHeartbeats 8000000 in
theorem zJ8 (l m:List ByteArray) (v v':Value) (w:World) (h:NamesR w w.heap.size v l) (h':NamesR w w.heap.size v' m):Calls Tryz.prog 70 #[v,v'] w (BP (decide (l = m)) w):=by
 rw [← zy7 l m]
 obtain ⟨A,c,rfl,hc,hbb,V,hA,hr⟩:=h
 obtain ⟨A',c',rfl,hc',hbb',V',hA',hr'⟩:=h'
 obtain ⟨ll,hll⟩ : ∃ ll,ll = l.length:=⟨_,rfl⟩
 obtain ⟨mm,hmm⟩ : ∃ mm,mm = m.length:=⟨_,rfl⟩
 obtain ⟨R,hR⟩ : ∃ R,R = allS (fun x y => decide (x = y)) l m:=⟨_,rfl⟩
 have HLL:=Lib.hid hll
 have HMM:=Lib.hid hmm
 have HRX:=Lib.hid hR
 rw [← hll] at hbb hA
 rw [← hmm] at hbb' hA'
 rw [← hll, ← hmm, ← hR]
 have hlb:(ll:Int) ≤ 140737488351232:=by unfold big at hbb; omega
 have hmb:(mm:Int) ≤ 140737488351232:=by unfold big at hbb'; omega
 have HA:=Lib.hid hA
 have HRR:=Lib.hid hr
 have HA':=Lib.hid hA'
 have HRR':=Lib.hid hr'
 clear hA hr hA' hr' hll hmm hbb hbb' hc hc' hR
 by_cases hnm:ll = mm
 rotate_left
 ·have hRF:R = false:=by rw [HRX.out]; exact zd3 (by rw [← HLL.out, ← HMM.out]; exact hnm)
  have hd:((ll:Int) != (mm:Int)) = true:=by simp; omega
  subst hRF
  go_enter Tryz.func70, Tryz.ntmps70
  go_wp2_with fail
  go_ret
  exact ⟨rfl,Below.refl _ _⟩
 subst hnm
 clear hmb
 go_enter Tryz.func70, Tryz.ntmps70
 go_wp2_with fail
 go_loopw [5] (fun i wr => ∃ j:Nat,j ≤ ll ∧ i = .int .i64 j ∧ Hid (allS (fun x y => decide (x = y)) (l.drop j) (m.drop j) = R ∧ Below w.heap.size w wr)) (fun i _ => ll - (intOf i).toNat)
 case atStart => exact ⟨0,Nat.zero_le _,rfl,Lib.hid ⟨by rw [List.drop_zero,List.drop_zero,HRX.out],Below.refl _ _⟩⟩
 case round =>
  obtain ⟨j,hj,rfl,hq⟩:=hrel
  by_cases hlt:j < ll
  ·have hlt':(j:Int) < ll:=by omega
   obtain ⟨x,hx⟩ : ∃ x,l[j]? = some x:=⟨_,List.getElem?_eq_getElem (by have:=HLL.out; omega)⟩
   obtain ⟨y,hy⟩ : ∃ y,m[j]? = some y:=⟨_,List.getElem?_eq_getElem (by have:=HMM.out; omega)⟩
   obtain ⟨a,rfl,ha,hax⟩:=HA.out (by omega)
   obtain ⟨a',rfl,ha',hax'⟩:=HA'.out (by omega)
   have hxr:=HRR.out j x hx
   have hyr:=HRR'.out j y hy
   have hst:=zf3 (f:=(fun x y => decide (x = y))) hx hy
   have HXM:=Lib.hid (List.mem_of_getElem? hx)
   have HYM:=Lib.hid (List.mem_of_getElem? hy)
   have hcell:=hax j hlt
   have hcell':=hax' j hlt
   clear hx hy hax hax'
   obtain ⟨x0,hx0⟩ : ∃ x0,x0 = x:=⟨_,rfl⟩
   have H0:Hid (w.cell? (a.add j) = some (.string x0)):=Lib.hid (by have:=hcell 0 (by omega); rw [Nat.mul_one] at this; exact this.trans (by rw [hxr.1,hx0]))
   have H1:Hid (w.cell? (a'.add j) = some (.string y)):=Lib.hid (by have:=hcell' 0 (by omega); rw [Nat.mul_one] at this; exact this.trans (by rw [hyr.1]))
   have HAB:=Lib.hid ha
   have HAB':=Lib.hid ha'
   obtain ⟨b0,e0⟩ : ∃ b:Bool,b = decide (x = y):=⟨_,rfl⟩
   rw [← hx0] at hst e0
   have h0:(x0.toList == y.toList) = b0:=by (rw [e0,K.zf7]) <;> exact decide_eq_decide.2 Iff.rfl
   rw [← e0] at hst
   have k0:=e0.symm
   have HST:=Lib.hid hst
   clear HXM hx0 hcell hcell' ha ha' hxr hyr hst e0
   go_wp2_with fail
   refine za5 (fun W => Below w.heap.size w W) hq.out.2 (by kernel_rfl) ?_
   intro W hW _
   have p0:=qcAp hW H0.out
   have p1:=qcAp hW H1.out
   have HWW:=Lib.hid hW
   clear hW
   cases b0 with
   | false =>
     have hRF:R = false:=by have:=HST.out; rw [hq.out.1] at this; rw [this]; rfl
     subst hRF
     repeat (go_big_quiet_step (fail))
     refine wpQuiet_nil ?_
     intro _ hw'
     obtain ⟨z,rfl⟩:=hw'
     go_wp2_with fail
     go_ret
     exact ⟨rfl,HWW.out.trans (z.b.mono HWW.out.size)⟩
   | true =>
     repeat (go_big_quiet_step (fail))
     refine wpQuiet_nil ?_
     intro _ hw'
     obtain ⟨z,rfl⟩:=hw'
     go_wp2_with fail
     go_roundw
     case rel => exact ⟨j + 1,by omega,by go_num,Lib.hid ⟨by have:=HST.out; rw [hq.out.1] at this; rw [this]; rfl,HWW.out.trans (z.b.mono HWW.out.size)⟩⟩
     case measure => simp [intOf]; omega
  ·have hlt':¬ (j:Int) < ll:=by omega
   have hRT:R = true:=by rw [← hq.out.1]; exact zd6 (by have:=HLL.out; omega) (by have:=HMM.out; omega)
   subst hRT
   go_wp2_with fail
   go_ret
   exact ⟨rfl,hq.out.2⟩
set_option maxRecDepth 100000 in
set_option maxHeartbeats 8000000 in
theorem zE9 (l m:List ByteArray) (v v':Value) (w:World) (h:NamesR w w.heap.size v l) (h':NamesR w w.heap.size v' m):Calls Tryz.prog 73 #[v,v'] w (BP (decide (l = m)) w):=by
 rw [← zy7 l m]
 obtain ⟨A,c,rfl,hc,hbb,V,hA,hr⟩:=h
 obtain ⟨A',c',rfl,hc',hbb',V',hA',hr'⟩:=h'
 obtain ⟨ll,hll⟩ : ∃ ll,ll = l.length:=⟨_,rfl⟩
 obtain ⟨mm,hmm⟩ : ∃ mm,mm = m.length:=⟨_,rfl⟩
 obtain ⟨R,hR⟩ : ∃ R,R = allS (fun x y => decide (x = y)) l m:=⟨_,rfl⟩
 have HLL:=Lib.hid hll
 have HMM:=Lib.hid hmm
 have HRX:=Lib.hid hR
 rw [← hll] at hbb hA
 rw [← hmm] at hbb' hA'
 rw [← hll, ← hmm, ← hR]
 have hlb:(ll:Int) ≤ 140737488351232:=by unfold big at hbb; omega
 have hmb:(mm:Int) ≤ 140737488351232:=by unfold big at hbb'; omega
 have HA:=Lib.hid hA
 have HRR:=Lib.hid hr
 have HA':=Lib.hid hA'
 have HRR':=Lib.hid hr'
 clear hA hr hA' hr' hll hmm hbb hbb' hc hc' hR
 by_cases hnm:ll = mm
 rotate_left
 ·have hRF:R = false:=by rw [HRX.out]; exact zd3 (by rw [← HLL.out, ← HMM.out]; exact hnm)
  have hd:((ll:Int) != (mm:Int)) = true:=by simp; omega
  subst hRF
  go_enter Tryz.func73, Tryz.ntmps73
  go_wp2_with fail
  go_ret
  exact ⟨rfl,Below.refl _ _⟩
 subst hnm
 clear hmb
 go_enter Tryz.func73, Tryz.ntmps73
 go_wp2_with fail
 go_loopw [13] (fun i wr => ∃ j:Nat,j ≤ ll ∧ i = .int .i64 j ∧ Hid (allS (fun x y => decide (x = y)) (l.drop j) (m.drop j) = R ∧ Below w.heap.size w wr)) (fun i _ => ll - (intOf i).toNat)
 case atStart => exact ⟨0,Nat.zero_le _,rfl,Lib.hid ⟨by rw [List.drop_zero,List.drop_zero,HRX.out],Below.refl _ _⟩⟩
 case round =>
  obtain ⟨j,hj,rfl,hq⟩:=hrel
  by_cases hlt:j < ll
  ·have hlt':(j:Int) < ll:=by omega
   obtain ⟨x,hx⟩ : ∃ x,l[j]? = some x:=⟨_,List.getElem?_eq_getElem (by have:=HLL.out; omega)⟩
   obtain ⟨y,hy⟩ : ∃ y,m[j]? = some y:=⟨_,List.getElem?_eq_getElem (by have:=HMM.out; omega)⟩
   obtain ⟨a,rfl,ha,hax⟩:=HA.out (by omega)
   obtain ⟨a',rfl,ha',hax'⟩:=HA'.out (by omega)
   have hxr:=HRR.out j x hx
   have hyr:=HRR'.out j y hy
   have hst:=zf3 (f:=(fun x y => decide (x = y))) hx hy
   have HXM:=Lib.hid (List.mem_of_getElem? hx)
   have HYM:=Lib.hid (List.mem_of_getElem? hy)
   have hcell:=hax j hlt
   have hcell':=hax' j hlt
   clear hx hy hax hax'
   obtain ⟨x0,hx0⟩ : ∃ x0,x0 = x:=⟨_,rfl⟩
   have H0:Hid (w.cell? (a.add j) = some (.string x0)):=Lib.hid (by have:=hcell 0 (by omega); rw [Nat.mul_one] at this; exact this.trans (by rw [hxr.1,hx0]))
   have H1:Hid (w.cell? (a'.add j) = some (.string y)):=Lib.hid (by have:=hcell' 0 (by omega); rw [Nat.mul_one] at this; exact this.trans (by rw [hyr.1]))
   have HAB:=Lib.hid ha
   have HAB':=Lib.hid ha'
   obtain ⟨b0,e0⟩ : ∃ b:Bool,b = decide (x = y):=⟨_,rfl⟩
   rw [← hx0] at hst e0
   have h0:(x0.toList == y.toList) = b0:=by (rw [e0,K.zf7]) <;> exact decide_eq_decide.2 Iff.rfl
   rw [← e0] at hst
   have k0:=e0.symm
   have HST:=Lib.hid hst
   clear HXM hx0 hcell hcell' ha ha' hxr hyr hst e0
   go_wp2_with fail
   refine za5 (fun W => Below w.heap.size w W) hq.out.2 (by kernel_rfl) ?_
   intro W hW _
   have p0:=qcAp hW H0.out
   have p1:=qcAp hW H1.out
   have HWW:=Lib.hid hW
   clear hW
   cases b0 with
   | false =>
     have hRF:R = false:=by have:=HST.out; rw [hq.out.1] at this; rw [this]; rfl
     subst hRF
     repeat (go_big_quiet_step (fail))
     refine wpQuiet_nil ?_
     intro _ hw'
     obtain ⟨z,rfl⟩:=hw'
     go_wp2_with fail
     go_ret
     exact ⟨rfl,HWW.out.trans (z.b.mono HWW.out.size)⟩
   | true =>
     repeat (go_big_quiet_step (fail))
     refine wpQuiet_nil ?_
     intro _ hw'
     obtain ⟨z,rfl⟩:=hw'
     go_wp2_with fail
     go_roundw
     case rel => exact ⟨j + 1,by omega,by go_num,Lib.hid ⟨by have:=HST.out; rw [hq.out.1] at this; rw [this]; rfl,HWW.out.trans (z.b.mono HWW.out.size)⟩⟩
     case measure => simp [intOf]; omega
  ·have hlt':¬ (j:Int) < ll:=by omega
   have hRT:R = true:=by rw [← hq.out.1]; exact zd6 (by have:=HLL.out; omega) (by have:=HMM.out; omega)
   subst hRT
   go_wp2_with fail
   go_ret
   exact ⟨rfl,hq.out.2⟩
end Go.Proofs.YtfgelheiknmjgaaGreatDoor
namespace Go.Proofs.YtfgelheiknmjgaaGreatDoor
open Go.RowKit
set_option maxRecDepth 100000 in
set_option maxHeartbeats 4000000 in
theorem zM1 (x y:DefT) (f g:Nat → Value) (w:World) (hx:DefR w w.heap.size f x) (hy:DefR w w.heap.size g y) (hI:∀ i ∈ x.inputs,i.tw.length ≤ 17592186044416) (hF:∀ i ∈ x.fields,i.tw.length ≤ 17592186044416 ∧ ∀ j ∈ i.args,j.tw.length ≤ 17592186044416):Calls Tryz.prog 37 #[.agg #[f 0,f 1,f 2,f 3,f 4,f 5,f 6],.agg #[g 0,g 1,g 2,g 3,g 4,g 5,g 6]] w (BP (sDef x y) w):=by
 obtain ⟨xi0,xs1,xA2,xl2,xc2,xA3,xl3,xc3,xA4,xl4,xc4,xA5,xl5,xc5,xA6,xl6,xc6,ex0,ex1,ex2,ex3,ex4,ex5,ex6⟩:=DefR.form3 hx
 obtain ⟨yi0,ys1,yA2,yl2,yc2,yA3,yl3,yc3,yA4,yl4,yc4,yA5,yl5,yc5,yA6,yl6,yc6,ey0,ey1,ey2,ey3,ey4,ey5,ey6⟩:=DefR.form3 hy
 obtain ⟨b0,e0⟩ : ∃ b:Bool,b = (decide (x.kind = y.kind)):=⟨_,rfl⟩
 obtain ⟨b1,e1⟩ : ∃ b:Bool,b = (decide (x.name = y.name)):=⟨_,rfl⟩
 obtain ⟨b2,e2⟩ : ∃ b:Bool,b = (decide (x.impl = y.impl)):=⟨_,rfl⟩
 obtain ⟨b3,e3⟩ : ∃ b:Bool,b = (allS sDir x.dirs y.dirs):=⟨_,rfl⟩
 obtain ⟨b4,e4⟩ : ∃ b:Bool,b = (allS sFld x.fields y.fields):=⟨_,rfl⟩
 obtain ⟨b5,e5⟩ : ∃ b:Bool,b = (allS sMem x.members y.members):=⟨_,rfl⟩
 obtain ⟨b6,e6⟩ : ∃ b:Bool,b = (allS sInp x.inputs y.inputs):=⟨_,rfl⟩
 have HS:Hid (sDef x y = (b0 && (b1 && (b2 && (b3 && (b4 && (b5 && b6))))))):=Lib.hid (by rw [e0,e1,e2,e3,e4,e5,e6]; rfl)
 generalize sDef x y = S at HS ⊢
 have hxn0:x.kind = xi0:=by have h:=(ex0.symm.trans hx.kind).symm; simpa using h
 have hyn0:y.kind = yi0:=by have h:=(ey0.symm.trans hy.kind).symm; simpa using h
 have hxn1:x.name = xs1:=by have h:=(ex1.symm.trans hx.name).symm; simpa using h
 have hyn1:y.name = ys1:=by have h:=(ey1.symm.trans hy.name).symm; simpa using h
 rw [hxn0,hyn0] at e0
 rw [hxn1,hyn1] at e1
 have B0:Below w.heap.size w ((w.alloc (.cells #[.int .i64 xi0,.string xs1,.slice xA2 xl2 xc2,.slice xA3 xl3 xc3,.slice xA4 xl4 xc4,.slice xA5 xl5 xc5,.slice xA6 xl6 xc6] 39 (0,0))).alloc (.cells #[.int .i64 yi0,.string ys1,.slice yA2 yl2 yc2,.slice yA3 yl3 yc3,.slice yA4 yl4 yc4,.slice yA5 yl5 yc5,.slice yA6 yl6 yc6] 39 (0,0))):=(za0 w _).alloc (by simp) _
 have XA0:Bk ((w.alloc (.cells #[.int .i64 xi0,.string xs1,.slice xA2 xl2 xc2,.slice xA3 xl3 xc3,.slice xA4 xl4 xc4,.slice xA5 xl5 xc5,.slice xA6 xl6 xc6] 39 (0,0))).alloc (.cells #[.int .i64 yi0,.string ys1,.slice yA2 yl2 yc2,.slice yA3 yl3 yc3,.slice yA4 yl4 yc4,.slice yA5 yl5 yc5,.slice yA6 yl6 yc6] 39 (0,0))) w.heap.size #[.int .i64 xi0,.string xs1,.slice xA2 xl2 xc2,.slice xA3 xl3 xc3,.slice xA4 xl4 xc4,.slice xA5 xl5 xc5,.slice xA6 xl6 xc6] 39 := (Bk.new w _ _).stay (za0 _ _)
 have XB0:Bk ((w.alloc (.cells #[.int .i64 xi0,.string xs1,.slice xA2 xl2 xc2,.slice xA3 xl3 xc3,.slice xA4 xl4 xc4,.slice xA5 xl5 xc5,.slice xA6 xl6 xc6] 39 (0,0))).alloc (.cells #[.int .i64 yi0,.string ys1,.slice yA2 yl2 yc2,.slice yA3 yl3 yc3,.slice yA4 yl4 yc4,.slice yA5 yl5 yc5,.slice yA6 yl6 yc6] 39 (0,0))) (w.heap.size + 1) #[.int .i64 yi0,.string ys1,.slice yA2 yl2 yc2,.slice yA3 yl3 yc3,.slice yA4 yl4 yc4,.slice yA5 yl5 yc5,.slice yA6 yl6 yc6] 39 := by
  have h:=Bk.new (w.alloc (.cells #[.int .i64 xi0,.string xs1,.slice xA2 xl2 xc2,.slice xA3 xl3 xc3,.slice xA4 xl4 xc4,.slice xA5 xl5 xc5,.slice xA6 xl6 xc6] 39 (0,0))) #[.int .i64 yi0,.string ys1,.slice yA2 yl2 yc2,.slice yA3 yl3 yc3,.slice yA4 yl4 yc4,.slice yA5 yl5 yc5,.slice yA6 yl6 yc6] 39
  rwa [show (w.alloc (.cells #[.int .i64 xi0,.string xs1,.slice xA2 xl2 xc2,.slice xA3 xl3 xc3,.slice xA4 xl4 xc4,.slice xA5 xl5 xc5,.slice xA6 xl6 xc6] 39 (0,0))).heap.size = w.heap.size + 1 by simp] at h
 have C2:Hid (∀ W:World,Below w.heap.size w W → Calls Tryz.prog 73 #[.slice xA2 xl2 xc2,.slice yA2 yl2 yc2] W (BP b2 W)):=Lib.hid fun W hW => by
  rw [← ex2, ← ey2,e2]
  exact zE9 x.impl y.impl _ _ W ((hx.impl.kept hW).mono hW.size) ((hy.impl.kept hW).mono hW.size)
 have C3:Hid (∀ W:World,Below w.heap.size w W → Calls Tryz.prog 74 #[.slice xA3 xl3 xc3,.slice yA3 yl3 yc3] W (BP b3 W)):=Lib.hid fun W hW => by
  rw [← ex3, ← ey3,e3]
  exact zh8 x.dirs y.dirs _ _ W ((hx.dirs.kept hW).mono hW.size) ((hy.dirs.kept hW).mono hW.size)
 have C4:Hid (∀ W:World,Below w.heap.size w W → Calls Tryz.prog 75 #[.slice xA4 xl4 xc4,.slice yA4 yl4 yc4,.func (.func 76) #[] #[]] W (BP b4 W)):=Lib.hid fun W hW => by
  rw [← ex4, ← ey4,e4]
  exact zR8 sFld x.fields y.fields _ _ W ((hx.fields.kept hW).mono hW.size) ((hy.fields.kept hW).mono hW.size) (fun W x y f g _ hm _ h1 h2 => zL9 x y f g W h1 h2 (hF x hm).1 (hF x hm).2)
 have C5:Hid (∀ W:World,Below w.heap.size w W → Calls Tryz.prog 77 #[.slice xA5 xl5 xc5,.slice yA5 yl5 yc5,.func (.func 78) #[] #[]] W (BP b5 W)):=Lib.hid fun W hW => by
  rw [← ex5, ← ey5,e5]
  exact zR6 sMem x.members y.members _ _ W ((hx.members.kept hW).mono hW.size) ((hy.members.kept hW).mono hW.size) (fun W x y f g _ hm _ h1 h2 => zL8 x y f g W h1 h2)
 have C6:Hid (∀ W:World,Below w.heap.size w W → Calls Tryz.prog 79 #[.slice xA6 xl6 xc6,.slice yA6 yl6 yc6,.func (.func 80) #[] #[]] W (BP b6 W)):=Lib.hid fun W hW => by
  rw [← ex6, ← ey6,e6]
  exact zD1 sInp x.inputs y.inputs _ _ W ((hx.inputs.kept hW).mono hW.size) ((hy.inputs.kept hW).mono hW.size) (fun W x y f g _ hm _ h1 h2 => zz6 x y f g W h1 h2 (hI x hm))
 rw [ex0,ey0,ex1,ey1,ex2,ey2,ex3,ey3,ex4,ey4,ex5,ey5,ex6,ey6]
 have h0:(xi0 == yi0) = b0:=by rw [e0]; rfl
 have k0:=e0.symm
 have h1:(xs1.toList == ys1.toList) = b1:=by (rw [e1,K.zf7]) <;> exact decide_eq_decide.2 Iff.rfl
 have k1:=e1.symm
 have HB:=Lib.hid B0
 have XA:=Lib.hid XA0
 have XB:=Lib.hid XB0
 have y0:=XA.out.cell 0 _ rfl
 have z0:=XB.out.cell 0 _ rfl
 have y1:=XA.out.cell 1 _ rfl
 have z1:=XB.out.cell 1 _ rfl
 have y2:=XA.out.cell 2 _ rfl
 have z2:=XB.out.cell 2 _ rfl
 have y3:=XA.out.cell 3 _ rfl
 have z3:=XB.out.cell 3 _ rfl
 have y4:=XA.out.cell 4 _ rfl
 have z4:=XB.out.cell 4 _ rfl
 have y5:=XA.out.cell 5 _ rfl
 have z5:=XB.out.cell 5 _ rfl
 have y6:=XA.out.cell 6 _ rfl
 have z6:=XB.out.cell 6 _ rfl
 clear B0 XA0 XB0 hx hy e0 e1 e2 e3 e4 e5 e6 hxn0 hyn0 hxn1 hyn1 ex0 ey0 ex1 ey1 ex2 ey2 ex3 ey3 ex4 ey4 ex5 ey5 ex6 ey6
 go_enter Tryz.func37, Tryz.ntmps37
 cases b0 with
 | false =>
   go_wp2_with fail
   all_goals (go_ret; exact ⟨by rw [HS.out]; rfl,HB.out⟩)
 | true =>
 cases b1 with
 | false =>
   go_wp2_with fail
   all_goals (go_ret; exact ⟨by rw [HS.out]; rfl,HB.out⟩)
 | true =>
 go_wp2_with fail
 refine (C2.out _ HB.out).mono ?_
 rintro e w1 ⟨rfl,hb⟩
 replace HB:=Lib.hid (HB.out.trans (hb.mono HB.out.size))
 replace XA:=Lib.hid (XA.out.stay hb)
 replace XB:=Lib.hid (XB.out.stay hb)
 clear hb C2 y0 z0 y1 z1 y2 z2 y3 z3 y4 z4 y5 z5 y6 z6
 have y0:=XA.out.cell 0 _ rfl
 have z0:=XB.out.cell 0 _ rfl
 have y1:=XA.out.cell 1 _ rfl
 have z1:=XB.out.cell 1 _ rfl
 have y2:=XA.out.cell 2 _ rfl
 have z2:=XB.out.cell 2 _ rfl
 have y3:=XA.out.cell 3 _ rfl
 have z3:=XB.out.cell 3 _ rfl
 have y4:=XA.out.cell 4 _ rfl
 have z4:=XB.out.cell 4 _ rfl
 have y5:=XA.out.cell 5 _ rfl
 have z5:=XB.out.cell 5 _ rfl
 have y6:=XA.out.cell 6 _ rfl
 have z6:=XB.out.cell 6 _ rfl
 cases b2 with
 | false =>
   go_wp2_with fail
   go_ret
   exact ⟨by rw [HS.out]; rfl,HB.out⟩
 | true =>
 go_wp2_with fail
 refine (C3.out _ HB.out).mono ?_
 rintro e w1 ⟨rfl,hb⟩
 replace HB:=Lib.hid (HB.out.trans (hb.mono HB.out.size))
 replace XA:=Lib.hid (XA.out.stay hb)
 replace XB:=Lib.hid (XB.out.stay hb)
 clear hb C3 y0 z0 y1 z1 y2 z2 y3 z3 y4 z4 y5 z5 y6 z6
 have y0:=XA.out.cell 0 _ rfl
 have z0:=XB.out.cell 0 _ rfl
 have y1:=XA.out.cell 1 _ rfl
 have z1:=XB.out.cell 1 _ rfl
 have y2:=XA.out.cell 2 _ rfl
 have z2:=XB.out.cell 2 _ rfl
 have y3:=XA.out.cell 3 _ rfl
 have z3:=XB.out.cell 3 _ rfl
 have y4:=XA.out.cell 4 _ rfl
 have z4:=XB.out.cell 4 _ rfl
 have y5:=XA.out.cell 5 _ rfl
 have z5:=XB.out.cell 5 _ rfl
 have y6:=XA.out.cell 6 _ rfl
 have z6:=XB.out.cell 6 _ rfl
 cases b3 with
 | false =>
   go_wp2_with fail
   go_ret
   exact ⟨by rw [HS.out]; rfl,HB.out⟩
 | true =>
 go_wp2_with fail
 refine (C4.out _ HB.out).mono ?_
 rintro e w1 ⟨rfl,hb⟩
 replace HB:=Lib.hid (HB.out.trans (hb.mono HB.out.size))
 replace XA:=Lib.hid (XA.out.stay hb)
 replace XB:=Lib.hid (XB.out.stay hb)
 clear hb C4 y0 z0 y1 z1 y2 z2 y3 z3 y4 z4 y5 z5 y6 z6
 have y0:=XA.out.cell 0 _ rfl
 have z0:=XB.out.cell 0 _ rfl
 have y1:=XA.out.cell 1 _ rfl
 have z1:=XB.out.cell 1 _ rfl
 have y2:=XA.out.cell 2 _ rfl
 have z2:=XB.out.cell 2 _ rfl
 have y3:=XA.out.cell 3 _ rfl
 have z3:=XB.out.cell 3 _ rfl
 have y4:=XA.out.cell 4 _ rfl
 have z4:=XB.out.cell 4 _ rfl
 have y5:=XA.out.cell 5 _ rfl
 have z5:=XB.out.cell 5 _ rfl
 have y6:=XA.out.cell 6 _ rfl
 have z6:=XB.out.cell 6 _ rfl
 cases b4 with
 | false =>
   go_wp2_with fail
   go_ret
   exact ⟨by rw [HS.out]; rfl,HB.out⟩
 | true =>
 go_wp2_with fail
 refine (C5.out _ HB.out).mono ?_
 rintro e w1 ⟨rfl,hb⟩
 replace HB:=Lib.hid (HB.out.trans (hb.mono HB.out.size))
 replace XA:=Lib.hid (XA.out.stay hb)
 replace XB:=Lib.hid (XB.out.stay hb)
 clear hb C5 y0 z0 y1 z1 y2 z2 y3 z3 y4 z4 y5 z5 y6 z6
 have y0:=XA.out.cell 0 _ rfl
 have z0:=XB.out.cell 0 _ rfl
 have y1:=XA.out.cell 1 _ rfl
 have z1:=XB.out.cell 1 _ rfl
 have y2:=XA.out.cell 2 _ rfl
 have z2:=XB.out.cell 2 _ rfl
 have y3:=XA.out.cell 3 _ rfl
 have z3:=XB.out.cell 3 _ rfl
 have y4:=XA.out.cell 4 _ rfl
 have z4:=XB.out.cell 4 _ rfl
 have y5:=XA.out.cell 5 _ rfl
 have z5:=XB.out.cell 5 _ rfl
 have y6:=XA.out.cell 6 _ rfl
 have z6:=XB.out.cell 6 _ rfl
 cases b5 with
 | false =>
   go_wp2_with fail
   go_ret
   exact ⟨by rw [HS.out]; rfl,HB.out⟩
 | true =>
 go_wp2_with fail
 refine (C6.out _ HB.out).mono ?_
 rintro e w1 ⟨rfl,hb⟩
 replace HB:=Lib.hid (HB.out.trans (hb.mono HB.out.size))
 clear hb C6 y0 z0 y1 z1 y2 z2 y3 z3 y4 z4 y5 z5 y6 z6
 go_wp2_with fail
 go_ret
 exact ⟨by rw [HS.out]; rfl,HB.out⟩
end Go.Proofs.YtfgelheiknmjgaaGreatDoor
namespace Go.Proofs.YtfgelheiknmjgaaGreatDoor
open Go.RowKit
set_option maxRecDepth 100000 in
set_option maxHeartbeats 4000000 in
theorem zB5 (xs ys:List DefT) (u v:Value) (w:World) (hx:DefsR w w.heap.size u xs) (hy:DefsR w w.heap.size v ys) (hs:∀ x ∈ xs,(∀ i ∈ x.inputs,i.tw.length ≤ 17592186044416) ∧ ∀ i ∈ x.fields,i.tw.length ≤ 17592186044416 ∧ ∀ j ∈ i.args,j.tw.length ≤ 17592186044416):Calls Tryz.prog 18 #[.agg #[u],.agg #[v]] w (BP (allS sDef xs ys) w):=by
 obtain ⟨A,l,c,rfl⟩:=Sl.form3 hx
 obtain ⟨A',l',c',rfl⟩:=Sl.form3 hy
 have B0:Below w.heap.size w ((w.alloc (.cells #[.slice A l c] 24 (0,0))).alloc (.cells #[.slice A' l' c'] 24 (0,0))):=(za0 w _).alloc (by simp) _
 have CALL:=Lib.hid (zS2 sDef xs ys _ _ _ ((hx.kept B0).mono B0.size) ((hy.kept B0).mono B0.size) (fun W x y f g _ hm _ h1 h2 => zM1 x y f g W h1 h2 (hs x hm).1 (hs x hm).2))
 have HB:=Lib.hid B0
 have XA:=Lib.hid ((Bk.new w #[.slice A l c] 24).stay (za0 _ (.cells #[.slice A' l' c'] 24 (0,0))))
 have XB:Hid (Bk ((w.alloc (.cells #[.slice A l c] 24 (0,0))).alloc (.cells #[.slice A' l' c'] 24 (0,0))) (w.heap.size + 1) #[.slice A' l' c'] 24):=Lib.hid (by
  have h:=Bk.new (w.alloc (.cells #[.slice A l c] 24 (0,0))) #[.slice A' l' c'] 24
  rwa [show (w.alloc (.cells #[.slice A l c] 24 (0,0))).heap.size = w.heap.size + 1 by simp] at h)
 have y0:=XA.out.cell 0 _ rfl
 have z0:=XB.out.cell 0 _ rfl
 generalize allS sDef xs ys = S at CALL ⊢
 clear hx hy hs B0
 go_enter Tryz.func18, Tryz.ntmps18
 go_wp2_with fail
 refine CALL.out.mono ?_
 rintro e w1 ⟨rfl,hb⟩
 have HB1:=Lib.hid (HB.out.trans (hb.mono HB.out.size))
 clear hb CALL y0 z0
 go_wp2_with fail
 go_ret
 exact ⟨rfl,HB1.out⟩
end Go.Proofs.YtfgelheiknmjgaaGreatDoor
namespace Go.Proofs.YtfgelheiknmjgaaGreatDoor
open Go.RowKit
set_option maxRecDepth 100000 in
set_option maxHeartbeats 8000000 in
theorem zg8 (l m:List DirT) (v v':Value) (w:World) (h:DirsR w w.heap.size v l) (h':DirsR w w.heap.size v' m):Calls Tryz.prog 71 #[v,v'] w (BP (allS sDir l m) w):=by
 obtain ⟨A,c,rfl,hc,hbb,V,hA,hr⟩:=h
 obtain ⟨A',c',rfl,hc',hbb',V',hA',hr'⟩:=h'
 obtain ⟨ll,hll⟩ : ∃ ll,ll = l.length:=⟨_,rfl⟩
 obtain ⟨mm,hmm⟩ : ∃ mm,mm = m.length:=⟨_,rfl⟩
 obtain ⟨R,hR⟩ : ∃ R,R = allS sDir l m:=⟨_,rfl⟩
 have HLL:=Lib.hid hll
 have HMM:=Lib.hid hmm
 have HRX:=Lib.hid hR
 rw [← hll] at hbb hA
 rw [← hmm] at hbb' hA'
 rw [← hll, ← hmm, ← hR]
 have hlb:(ll:Int) ≤ 140737488351232:=by unfold big at hbb; omega
 have hmb:(mm:Int) ≤ 140737488351232:=by unfold big at hbb'; omega
 have HA:=Lib.hid hA
 have HRR:=Lib.hid hr
 have HA':=Lib.hid hA'
 have HRR':=Lib.hid hr'
 clear hA hr hA' hr' hll hmm hbb hbb' hc hc' hR
 by_cases hnm:ll = mm
 rotate_left
 ·have hRF:R = false:=by rw [HRX.out]; exact zd3 (by rw [← HLL.out, ← HMM.out]; exact hnm)
  have hd:((ll:Int) != (mm:Int)) = true:=by simp; omega
  subst hRF
  go_enter Tryz.func71, Tryz.ntmps71
  go_wp2_with fail
  go_ret
  exact ⟨rfl,Below.refl _ _⟩
 subst hnm
 clear hmb
 go_enter Tryz.func71, Tryz.ntmps71
 go_wp2_with fail
 go_loopw [5] (fun i wr => ∃ j:Nat,j ≤ ll ∧ i = .int .i64 j ∧ Hid (allS sDir (l.drop j) (m.drop j) = R ∧ Below w.heap.size w wr)) (fun i _ => ll - (intOf i).toNat)
 case atStart => exact ⟨0,Nat.zero_le _,rfl,Lib.hid ⟨by rw [List.drop_zero,List.drop_zero,HRX.out],Below.refl _ _⟩⟩
 case round =>
  obtain ⟨j,hj,rfl,hq⟩:=hrel
  by_cases hlt:j < ll
  ·have hlt':(j:Int) < ll:=by omega
   obtain ⟨x,hx⟩ : ∃ x,l[j]? = some x:=⟨_,List.getElem?_eq_getElem (by have:=HLL.out; omega)⟩
   obtain ⟨y,hy⟩ : ∃ y,m[j]? = some y:=⟨_,List.getElem?_eq_getElem (by have:=HMM.out; omega)⟩
   obtain ⟨a,rfl,ha,hax⟩:=HA.out (by omega)
   obtain ⟨a',rfl,ha',hax'⟩:=HA'.out (by omega)
   have hxr:=HRR.out j x hx
   have hyr:=HRR'.out j y hy
   have hst:=zf3 (f:=sDir) hx hy
   have HXM:=Lib.hid (List.mem_of_getElem? hx)
   have HYM:=Lib.hid (List.mem_of_getElem? hy)
   have hcell:=hax j hlt
   have hcell':=hax' j hlt
   clear hx hy hax hax'
   obtain ⟨A1,c1,ea,_,hb1,V1,hA1,hr1⟩:=hxr.args
   obtain ⟨A1',c1',ea',_,hb1',V1',hA1',hr1'⟩:=hyr.args
   obtain ⟨la,hla⟩ : ∃ la,la = x.args.length:=⟨_,rfl⟩
   obtain ⟨lb,hlb2⟩ : ∃ la,la = y.args.length:=⟨_,rfl⟩
   obtain ⟨nx,hnx⟩ : ∃ la,la = x.name:=⟨_,rfl⟩
   obtain ⟨ny,hny⟩ : ∃ la,la = y.name:=⟨_,rfl⟩
   obtain ⟨b0,e0⟩ : ∃ b:Bool,b = decide (nx = ny):=⟨_,rfl⟩
   obtain ⟨b1,e1⟩ : ∃ b:Bool,b = allS sArg x.args y.args:=⟨_,rfl⟩
   have HS2:Hid (sDir x y = (b0 && b1)):=Lib.hid (by rw [e0,e1,hnx,hny]; rfl)
   rw [HS2.out] at hst
   have HST:=Lib.hid hst
   have HLA:=Lib.hid hla
   have HLB:=Lib.hid hlb2
   have HE1:=Lib.hid e1
   rw [← hla] at ea hb1 hA1
   rw [← hlb2] at ea' hb1' hA1'
   have hlab:(la:Int) ≤ 140737488351232:=by unfold big at hb1; omega
   have hlab':(lb:Int) ≤ 140737488351232:=by unfold big at hb1'; omega
   have HA1:=Lib.hid hA1
   have HR1:=Lib.hid hr1
   have HA1':=Lib.hid hA1'
   have HR1':=Lib.hid hr1'
   have H0:Hid (w.cell? (a.add (j * 2)) = some (.string nx)):=Lib.hid ((hcell 0 (by omega)).trans (by rw [hxr.name,hnx]))
   have H1:Hid (w.cell? ⟨(a.add (j * 2)).block,(a.add (j * 2)).off + 1,none⟩ = some (.slice A1 la c1)):=Lib.hid ((hcell 1 (by omega)).trans (by rw [ea]))
   have H0':Hid (w.cell? (a'.add (j * 2)) = some (.string ny)):=Lib.hid ((hcell' 0 (by omega)).trans (by rw [hyr.name,hny]))
   have H1':Hid (w.cell? ⟨(a'.add (j * 2)).block,(a'.add (j * 2)).off + 1,none⟩ = some (.slice A1' lb c1')):=Lib.hid ((hcell' 1 (by omega)).trans (by rw [ea']))
   have HAB:=Lib.hid ha
   have HAB':=Lib.hid ha'
   have h0:(nx.toList == ny.toList) = b0:=by (rw [e0,K.zf7]) <;> exact decide_eq_decide.2 Iff.rfl
   have k0:=e0.symm
   clear hxr hyr hcell hcell' ha ha' hA1 hr1 hA1' hr1' hla hlb2 ea ea' hb1 hb1' hst e0 e1 hnx hny HXM HYM
   go_wp2_with fail
   refine za5 (fun W => Below w.heap.size w W) hq.out.2 (by kernel_rfl) ?_
   intro W hW _
   have p0:=qcAp hW H0.out
   have p1:=qcAp hW H0'.out
   have p2:=qcAp hW H1.out
   have p3:=qcAp hW H1'.out
   have HWW:=Lib.hid hW
   clear hW
   have hlx:((la:Int) != (lb:Int)) = !decide (la = lb):=by rw [Bool.eq_iff_iff]; simp; omega
   cases b0 with
   | false =>
     have hRF:R = false:=by have:=HST.out; rw [hq.out.1] at this; rw [this]; rfl
     subst hRF
     repeat (go_big_quiet_step (fail))
     refine wpQuiet_nil ?_
     intro _ hw'
     obtain ⟨z,rfl⟩:=hw'
     go_wp2_with fail
     go_ret
     exact ⟨rfl,HWW.out.trans (z.b.mono HWW.out.size)⟩
   | true =>
   by_cases hlq:la = lb
   rotate_left
   ·have hb1f:b1 = false:=by rw [HE1.out]; exact zd3 (by rw [← HLA.out, ← HLB.out]; exact hlq)
    subst hb1f
    have hRF:R = false:=by have:=HST.out; rw [hq.out.1] at this; rw [this]; rfl
    subst hRF
    rw [decide_eq_false hlq] at hlx
    repeat (go_big_quiet_step (fail))
    refine wpQuiet_nil ?_
    intro _ hw'
    obtain ⟨z,rfl⟩:=hw'
    go_wp2_with fail
    go_ret
    exact ⟨rfl,HWW.out.trans (z.b.mono HWW.out.size)⟩
   rw [decide_eq_true hlq] at hlx
   subst hlq
   repeat (go_big_quiet_step (fail))
   refine wpQuiet_nil ?_
   intro _ hw'
   obtain ⟨z,rfl⟩:=hw'
   have HB6:=Lib.hid (HWW.out.trans (z.b.mono HWW.out.size))
   clear p0 p1 p2 p3 HWW
   generalize z.w = w6 at *
   go_wp2_with fail
   go_loopw [6] (fun i wr => ∃ j2:Nat,j2 ≤ la ∧ i = .int .i64 j2 ∧ Hid (allS sArg (x.args.drop j2) (y.args.drop j2) = b1 ∧ Below w.heap.size w wr)) (fun i _ => la - (intOf i).toNat)
   case atStart => exact ⟨0,Nat.zero_le _,rfl,Lib.hid ⟨by rw [List.drop_zero,List.drop_zero,HE1.out],HB6.out⟩⟩
   case round =>
    obtain ⟨j2,hj2,rfl,hq2⟩:=hrel
    have z1:wr.cell? ⟨(a.add (j * 2)).block,(a.add (j * 2)).off + 1,none⟩ = some (.slice A1 la c1):=(hq2.out.2.cell (p:=⟨(a.add (j * 2)).block,(a.add (j * 2)).off + 1,none⟩) (by rw [za1]; exact HAB.out)).trans H1.out
    by_cases hlt2:j2 < la
    ·have hlt2':(j2:Int) < la:=by omega
     obtain ⟨g,hg⟩ : ∃ g,x.args[j2]? = some g:=⟨_,List.getElem?_eq_getElem (by have:=HLA.out; omega)⟩
     obtain ⟨g',hg'⟩ : ∃ g,y.args[j2]? = some g:=⟨_,List.getElem?_eq_getElem (by have:=HLB.out; omega)⟩
     obtain ⟨b,rfl,hb,hy⟩:=HA1.out (by omega)
     obtain ⟨b',rfl,hb',hy'⟩:=HA1'.out (by omega)
     have hgr:=HR1.out j2 g hg
     have hgr':=HR1'.out j2 g' hg'
     have ycell:=hy j2 hlt2
     have ycell':=hy' j2 hlt2
     have hs2:=zf3 (f:=sArg) hg hg'
     obtain ⟨gx,hgx⟩ : ∃ la,la = g.1:=⟨_,rfl⟩
     obtain ⟨gy,hgy⟩ : ∃ la,la = g'.1:=⟨_,rfl⟩
     obtain ⟨d0,f0⟩ : ∃ b:Bool,b = decide (gx = gy):=⟨_,rfl⟩
     obtain ⟨d1,f1⟩ : ∃ b:Bool,b = decide (g.2.cmp g'.2 = 0):=⟨_,rfl⟩
     have hs3:sArg g g' = (d0 && d1):=by rw [f0,f1,hgx,hgy]; rfl
     rw [hs3] at hs2
     have HS2A:=Lib.hid hs2
     have G0:Hid (w.cell? (b.add (j2 * 6)) = some (.string gx)):=Lib.hid ((ycell 0 (by omega)).trans (by rw [hgr.name,hgx]))
     have G'0:Hid (w.cell? (b'.add (j2 * 6)) = some (.string gy)):=Lib.hid ((ycell' 0 (by omega)).trans (by rw [hgr'.name,hgy]))
     have G1:Hid (w.cell? ⟨(b.add (j2 * 6)).block,(b.add (j2 * 6)).off + 1,none⟩ = some (V1 j2 1)):=Lib.hid (ycell 1 (by omega))
     have G'1:Hid (w.cell? ⟨(b'.add (j2 * 6)).block,(b'.add (j2 * 6)).off + 1,none⟩ = some (V1' j2 1)):=Lib.hid (ycell' 1 (by omega))
     have G2:Hid (w.cell? ⟨(b.add (j2 * 6)).block,(b.add (j2 * 6)).off + 2,none⟩ = some (V1 j2 2)):=Lib.hid (ycell 2 (by omega))
     have G'2:Hid (w.cell? ⟨(b'.add (j2 * 6)).block,(b'.add (j2 * 6)).off + 2,none⟩ = some (V1' j2 2)):=Lib.hid (ycell' 2 (by omega))
     have G3:Hid (w.cell? ⟨(b.add (j2 * 6)).block,(b.add (j2 * 6)).off + 3,none⟩ = some (V1 j2 3)):=Lib.hid (ycell 3 (by omega))
     have G'3:Hid (w.cell? ⟨(b'.add (j2 * 6)).block,(b'.add (j2 * 6)).off + 3,none⟩ = some (V1' j2 3)):=Lib.hid (ycell' 3 (by omega))
     have G4:Hid (w.cell? ⟨(b.add (j2 * 6)).block,(b.add (j2 * 6)).off + 4,none⟩ = some (V1 j2 4)):=Lib.hid (ycell 4 (by omega))
     have G'4:Hid (w.cell? ⟨(b'.add (j2 * 6)).block,(b'.add (j2 * 6)).off + 4,none⟩ = some (V1' j2 4)):=Lib.hid (ycell' 4 (by omega))
     have G5:Hid (w.cell? ⟨(b.add (j2 * 6)).block,(b.add (j2 * 6)).off + 5,none⟩ = some (V1 j2 5)):=Lib.hid (ycell 5 (by omega))
     have G'5:Hid (w.cell? ⟨(b'.add (j2 * 6)).block,(b'.add (j2 * 6)).off + 5,none⟩ = some (V1' j2 5)):=Lib.hid (ycell' 5 (by omega))
     have HE:=Lib.hid (fun (W:World) (hW:Below w.heap.size w W) => (by
      have:=zB1 g.2 g'.2 W w.heap.size _ _ (hgr.val.kept hW) (hgr'.val.kept hW) hW.size
      rw [← f1] at this
      exact this:Calls Tryz.prog 135 #[.agg #[V1 j2 1,V1 j2 2,V1 j2 3,V1 j2 4,V1 j2 5],.agg #[V1' j2 1,V1' j2 2,V1' j2 3,V1' j2 4,V1' j2 5]] W (BP d1 W)))
     have HBB:=Lib.hid hb
     have HBB':=Lib.hid hb'
     have i0:(gx.toList == gy.toList) = d0:=by (rw [f0,K.zf7]) <;> exact decide_eq_decide.2 Iff.rfl
     have i1:=f0.symm
     clear hy hy' hgr hgr' ycell ycell' hg hg' hb hb' hs2 hs3 f0 f1 hgx hgy
     go_wp2_with fail
     refine za5 (fun W => Below w.heap.size w W) hq2.out.2 (by kernel_rfl) ?_
     intro W hW _
     have p2:=qcAp hW H1.out
     have p3:=qcAp hW H1'.out
     have r10:=qcAp hW G0.out
     have r20:=qcAp hW G'0.out
     have r11:∀ x:Past W,x.w.cell? ⟨(b.add (j2 * 6)).block,(b.add (j2 * 6)).off + 1,none⟩ = some (V1 j2 1):=fun x => (pastc hW x hW.size (p:=⟨(b.add (j2 * 6)).block,(b.add (j2 * 6)).off + 1,none⟩) (by rw [za1]; exact HBB.out)).trans G1.out
     have r21:∀ x:Past W,x.w.cell? ⟨(b'.add (j2 * 6)).block,(b'.add (j2 * 6)).off + 1,none⟩ = some (V1' j2 1):=fun x => (pastc hW x hW.size (p:=⟨(b'.add (j2 * 6)).block,(b'.add (j2 * 6)).off + 1,none⟩) (by rw [za1]; exact HBB'.out)).trans G'1.out
     have r12:∀ x:Past W,x.w.cell? ⟨(b.add (j2 * 6)).block,(b.add (j2 * 6)).off + 2,none⟩ = some (V1 j2 2):=fun x => (pastc hW x hW.size (p:=⟨(b.add (j2 * 6)).block,(b.add (j2 * 6)).off + 2,none⟩) (by rw [za1]; exact HBB.out)).trans G2.out
     have r22:∀ x:Past W,x.w.cell? ⟨(b'.add (j2 * 6)).block,(b'.add (j2 * 6)).off + 2,none⟩ = some (V1' j2 2):=fun x => (pastc hW x hW.size (p:=⟨(b'.add (j2 * 6)).block,(b'.add (j2 * 6)).off + 2,none⟩) (by rw [za1]; exact HBB'.out)).trans G'2.out
     have r13:∀ x:Past W,x.w.cell? ⟨(b.add (j2 * 6)).block,(b.add (j2 * 6)).off + 3,none⟩ = some (V1 j2 3):=fun x => (pastc hW x hW.size (p:=⟨(b.add (j2 * 6)).block,(b.add (j2 * 6)).off + 3,none⟩) (by rw [za1]; exact HBB.out)).trans G3.out
     have r23:∀ x:Past W,x.w.cell? ⟨(b'.add (j2 * 6)).block,(b'.add (j2 * 6)).off + 3,none⟩ = some (V1' j2 3):=fun x => (pastc hW x hW.size (p:=⟨(b'.add (j2 * 6)).block,(b'.add (j2 * 6)).off + 3,none⟩) (by rw [za1]; exact HBB'.out)).trans G'3.out
     have r14:∀ x:Past W,x.w.cell? ⟨(b.add (j2 * 6)).block,(b.add (j2 * 6)).off + 4,none⟩ = some (V1 j2 4):=fun x => (pastc hW x hW.size (p:=⟨(b.add (j2 * 6)).block,(b.add (j2 * 6)).off + 4,none⟩) (by rw [za1]; exact HBB.out)).trans G4.out
     have r24:∀ x:Past W,x.w.cell? ⟨(b'.add (j2 * 6)).block,(b'.add (j2 * 6)).off + 4,none⟩ = some (V1' j2 4):=fun x => (pastc hW x hW.size (p:=⟨(b'.add (j2 * 6)).block,(b'.add (j2 * 6)).off + 4,none⟩) (by rw [za1]; exact HBB'.out)).trans G'4.out
     have r15:∀ x:Past W,x.w.cell? ⟨(b.add (j2 * 6)).block,(b.add (j2 * 6)).off + 5,none⟩ = some (V1 j2 5):=fun x => (pastc hW x hW.size (p:=⟨(b.add (j2 * 6)).block,(b.add (j2 * 6)).off + 5,none⟩) (by rw [za1]; exact HBB.out)).trans G5.out
     have r25:∀ x:Past W,x.w.cell? ⟨(b'.add (j2 * 6)).block,(b'.add (j2 * 6)).off + 5,none⟩ = some (V1' j2 5):=fun x => (pastc hW x hW.size (p:=⟨(b'.add (j2 * 6)).block,(b'.add (j2 * 6)).off + 5,none⟩) (by rw [za1]; exact HBB'.out)).trans G'5.out
     have kE:∀ x:Past W,Calls Tryz.prog 135 #[.agg #[V1 j2 1,V1 j2 2,V1 j2 3,V1 j2 4,V1 j2 5],.agg #[V1' j2 1,V1' j2 2,V1' j2 3,V1' j2 4,V1' j2 5]] x.w fun e w'' => e = .returned (.bool d1) ∧ ∃ y:Past W,w'' = y.w:=fun x => zd2 x (HE.out _ (hW.trans (x.b.mono hW.size)))
     have CE:=Lib.hid kE
     have HWW:=Lib.hid hW
     clear hW kE z1
     by_cases hdd:(d0 && d1) = true
     ·rw [Bool.and_eq_true] at hdd
      obtain ⟨rfl,rfl⟩:=hdd
      repeat (go_big_quiet_step (with_reducible exact CE.out _))
      refine wpQuiet_nil ?_
      intro _ hw'
      obtain ⟨z,rfl⟩:=hw'
      go_wp2_with fail
      go_roundw
      case rel => exact ⟨j2 + 1,by omega,by go_num,Lib.hid ⟨by have:=HS2A.out; rw [hq2.out.1] at this; rw [this]; rfl,HWW.out.trans (z.b.mono HWW.out.size)⟩⟩
      case measure => simp [intOf]; omega
     ·have hdf:(d0 && d1) = false:=by simpa using hdd
      have hb1f:b1 = false:=by have:=HS2A.out; rw [hq2.out.1,hdf] at this; rw [this]; rfl
      subst hb1f
      have hRF:R = false:=by have:=HST.out; rw [hq.out.1] at this; rw [this]; rfl
      subst hRF
      clear hdd
      cases d0 with
      | false =>
        repeat (go_big_quiet_step (with_reducible exact CE.out _))
        refine wpQuiet_nil ?_
        intro _ hw'
        obtain ⟨z,rfl⟩:=hw'
        go_wp2_with fail
        go_ret
        exact ⟨rfl,HWW.out.trans (z.b.mono HWW.out.size)⟩
      | true =>
        have hd1:d1 = false:=by simpa using hdf
        subst hd1
        repeat (go_big_quiet_step (with_reducible exact CE.out _))
        refine wpQuiet_nil ?_
        intro _ hw'
        obtain ⟨z,rfl⟩:=hw'
        go_wp2_with fail
        go_ret
        exact ⟨rfl,HWW.out.trans (z.b.mono HWW.out.size)⟩
    ·have hlt2':¬ (j2:Int) < la:=by omega
     have hb1t:b1 = true:=by rw [← hq2.out.1]; exact zd6 (by have:=HLA.out; omega) (by have:=HLB.out; omega)
     go_wp2_with fail
     go_roundw
     case rel => exact ⟨j + 1,by omega,by go_num,Lib.hid ⟨by have:=HST.out; rw [hq.out.1,hb1t] at this; rw [this]; rfl,hq2.out.2⟩⟩
     case measure => simp [intOf]; omega
  ·have hlt':¬ (j:Int) < ll:=by omega
   have hRT:R = true:=by rw [← hq.out.1]; exact zd6 (by have:=HLL.out; omega) (by have:=HMM.out; omega)
   subst hRT
   go_wp2_with fail
   go_ret
   exact ⟨rfl,hq.out.2⟩
end Go.Proofs.YtfgelheiknmjgaaGreatDoor

