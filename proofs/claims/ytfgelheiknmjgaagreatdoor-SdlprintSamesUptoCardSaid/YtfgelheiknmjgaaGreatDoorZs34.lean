
/-
 Texts joined: RCompare Same Sc1.
-/
import Derived.Test.YtfgelheiknmjgaaGreatDoorZs8
import Derived.Test.YtfgelheiknmjgaaGreatDoorZs33
import Derived.Test.YtfgelheiknmjgaaGreatDoorZs27
namespace Go.Proofs.YtfgelheiknmjgaaGreatDoor
open Go.RowKit
theorem zm4 {is:List VT} {ks:List ByteArray} {is':List VT} {ks':List ByteArray} {j:Nat} (h:j = min is.length is'.length):zb7 is ks is' ks' j = Lib.compareInt is.length is'.length:=by
 by_cases h1:j < is.length ∨ j < is'.length
 ·unfold zb7 Lib.compareInt
  by_cases h2:j < is.length
  ·rw [List.drop_eq_getElem_cons h2,List.drop_of_length_le (by omega:is'.length ≤ j),VT.cmps,if_neg (by omega),if_pos (by omega)]
  ·have h3:j < is'.length:=by omega
   rw [List.drop_of_length_le (by omega:is.length ≤ j),List.drop_eq_getElem_cons h3,VT.cmps,if_pos (by omega)]
 ·rw [zu3 (by omega) (by omega)]
  unfold Lib.compareInt
  rw [if_neg (by omega),if_neg (by omega)]
theorem ze6 (y:Int):orE 0 y = y:=by unfold orE; rw [if_pos rfl]
theorem zh4 {x:Int} (y:Int) (h:x ≠ 0):orE x y = x:=by unfold orE; rw [if_neg h]
theorem zx2 (x y z:Int):orE (orE x y) z = orE x (orE y z):=by
 unfold orE
 by_cases h:x = 0
 ·rw [if_pos h,if_pos h]
 ·rw [if_neg h,if_neg h,if_neg h]
set_option maxRecDepth 100000 in
set_option maxHeartbeats 2000000 in
theorem zB4 (t:VT):CmpAt 182 t:=by
 induction t using VT.ind with
 | h k n s items keys ih =>
 intro t' w B v v' h h' hB
 have HRD:=Lib.hid h
 have HRD':=Lib.hid h'
 have IH:=Lib.hid ih
 clear ih
 cases h with
 | @mk _ _ _ A li ci K lk ck _ _ V hk hn hs hks hli hlk hbi hbk hA hr hK =>
 cases h' with
 | @mk k' n' s' A' li' ci' K' lk' ck' items' keys' V' hk' hn' hs' hks' hli' hlk' hbi' hbk' hA' hr' hK' =>
 have HA:=Lib.hid hA
 have HR:=Lib.hid hr
 have HL:=Lib.hid hli
 have HA':=Lib.hid hA'
 have HR':=Lib.hid hr'
 have HL':=Lib.hid hli'
 clear hA hr hA' hr' hli hli' hK hK' hks hks' hk hk' hn hn' hs hs' hlk hlk' hbk hbk'
 obtain ⟨f1,f2,f3⟩:=Box.two w (.int .i64 k) (.int .i64 n) (.string s) (.slice A li ci) (.slice K lk ck) (.int .i64 k') (.int .i64 n') (.string s') (.slice A' li' ci') (.slice K' lk' ck')
 have F1:=Lib.hid f1
 have F2:=Lib.hid f2
 have F3:=Lib.hid f3
 clear f1 f2 f3
 have hlm:(li:Int) ≤ 140737488351232:=by omega
 have hlm':(li':Int) ≤ 140737488351232:=by omega
 have HE:Hid ((VT.mk k n s items keys).cmp (VT.mk k' n' s' items' keys') = orE (orE (Lib.compareInt k k') (orE (Lib.compareInt n n') (cmpB s s'))) (zb7 items keys items' keys' 0)):=Lib.hid (by unfold VT.cmp; rw [← zx2]; rfl)
 generalize (VT.mk k n s items keys).cmp (VT.mk k' n' s' items' keys') = res at *
 by_cases e1:Lib.compareInt k k' = 0
 ·have E1:Hid (Lib.compareInt k k' = 0):=Lib.hid e1
  have e1':(Lib.compareInt k k' == 0) = true:=by simp [e1]
  clear e1
  by_cases e2:Lib.compareInt n n' = 0
  ·have HS:Hid (res = orE (cmpB s s') (zb7 items keys items' keys' 0)):=Lib.hid (by rw [HE.out,E1.out,e2,ze6,ze6])
   have e2':(Lib.compareInt n n' == 0) = true:=by simp [e2]
   clear e2
   go_enter Tryz.func182, Tryz.ntmps182
   go_wp2_with fail
   refine (zf2 _ _ _).mono ?_
   rintro e w' ⟨rfl,rfl⟩
   go_wp2_with fail
   refine (zf2 _ _ _).mono ?_
   rintro e w' ⟨rfl,rfl⟩
   go_wp2_with fail
   refine (zj2 _ _ _).mono ?_
   rintro e w' ⟨rfl,rfl⟩
   go_wp2_with fail
   go_loopw [5,6] (fun o i wr => ∃ (j:Nat) (c:Int),j ≤ min li li' + 1 ∧ (c = 0 → j ≤ min li li') ∧ i = .int .i64 j ∧ o = .int .i64 c ∧ res = orE c (zb7 items keys items' keys' j) ∧ Below w.heap.size w wr ∧
    Box wr w.heap.size (.int .i64 k) (.int .i64 n) (.string s) (.slice A li ci) (.slice K lk ck) ∧ Box wr (w.heap.size + 1) (.int .i64 k') (.int .i64 n') (.string s') (.slice A' li' ci') (.slice K' lk' ck')) (fun _ i _ => min li li' + 2 - (intOf i).toNat)
   case atStart => exact ⟨0,cmpB s s',Nat.zero_le _,fun _ => Nat.zero_le _,rfl,rfl,HS.out,F3.out,F1.out,F2.out⟩
   case round =>
    obtain ⟨j,c,hj,hjc,rfl,rfl,hres,hb,hx1,hx2⟩:=hrel
    have HRES:=Lib.hid hres
    have HB:=Lib.hid hb
    have hl1:=hx1.lt
    have hl2:=hx2.lt
    have HX1:=Lib.hid hx1
    have HX2:=Lib.hid hx2
    obtain ⟨p0,p1,p2,p3,p4⟩:=hx1.cells
    obtain ⟨q0,q1,q2,q3,q4⟩:=hx2.cells
    clear hres hb hx1 hx2
    by_cases hc:c = 0
    ·subst hc
     have hj':j ≤ min li li':=hjc rfl
     clear hjc
     by_cases hlt:j < min li li'
     ·have h1:j < li:=by omega
      have h2:j < li':=by omega
      obtain ⟨a,t,k1,n1,s1,A1,li1,ci1,K1,lk1,ck1,rfl,ht,e,hrd,_,_,_,_,_⟩:=ze5 HA.out HR.out HL.out (Below.refl _ _) h1
      obtain ⟨a',t',k1',n1',s1',A1',li1',ci1',K1',lk1',ck1',rfl,ht',e',hrd',_,_,_,_,_⟩:=ze5 HA'.out HR'.out HL'.out (Below.refl _ _) h2
      have HC:Hid (C5 w (a.add (j * 5)) (V j)):=Lib.hid (by obtain ⟨_,e,_,h⟩:=HA.out (by omega); cases e; exact h j h1)
      have HC':Hid (C5 w (a'.add (j * 5)) (V' j)):=Lib.hid (by obtain ⟨_,e,_,h⟩:=HA'.out (by omega); cases e; exact h j h2)
      have hab:(a.add (j * 5)).block < B:=by obtain ⟨_,e,h,_⟩:=HA.out (by omega); cases e; rw [za1]; exact h
      have hab':(a'.add (j * 5)).block < B:=by obtain ⟨_,e,h,_⟩:=HA'.out (by omega); cases e; rw [za1]; exact h
      have HST:Hid (res = orE (cmpB (keyI keys j) (keyI keys' j)) (orE (t.cmp t') (zb7 items keys items' keys' (j + 1)))):=Lib.hid (by
       rw [HRES.out,ze6,zj6 (.inl (by have:=HL.out; omega))]
       unfold zd7
       rw [ht,ht', ← zx2])
      have IHH:=Lib.hid (IH.out j t ht t')
      have E:=Lib.hid e
      have E':=Lib.hid e'
      have HT:=Lib.hid hrd
      have HT':=Lib.hid hrd'
      clear e e' hrd hrd' ht ht'
      go_wp2_with fail
      refine za5 (fun W => Box W w.heap.size (.int .i64 k) (.int .i64 n) (.string s) (.slice (some a) li ci) (.slice K lk ck) ∧ Box W (w.heap.size + 1) (.int .i64 k') (.int .i64 n') (.string s') (.slice (some a') li' ci') (.slice K' lk' ck') ∧ Below w.heap.size w W) ⟨HX1.out,HX2.out,HB.out⟩ (by kernel_rfl) ?_
      clear p0 p1 p2 p3 p4 q0 q1 q2 q3 q4
      intro W ⟨f1,f2,f3⟩ _
      obtain ⟨p0,p1,p2,p3,p4⟩:=f1.past
      obtain ⟨q0,q1,q2,q3,q4⟩:=f2.past
      have G1:=Lib.hid f1
      have G2:=Lib.hid f2
      have G3:=Lib.hid f3
      clear f1 f2 f3
      have C1:Hid (∀ x:Past W,Calls Tryz.prog 217 #[.agg #[.int .i64 k,.int .i64 n,.string s,.slice (some a) li ci,.slice K lk ck],.int .i64 j] x.w fun e w'' => e = .returned (.string (keyI keys j)) ∧ ∃ y:Past W,w'' = y.w) :=
       Lib.hid fun x => zd2 x (zn1 _ j _ W.heap.size _ (((HRD.out.mono hB).kept G3.out).kept (x.b.mono G3.out.size) |>.mono G3.out.size) x.le (by omega))
      have C2:Hid (∀ x:Past W,Calls Tryz.prog 217 #[.agg #[.int .i64 k',.int .i64 n',.string s',.slice (some a') li' ci',.slice K' lk' ck'],.int .i64 j] x.w fun e w'' => e = .returned (.string (keyI keys' j)) ∧ ∃ y:Past W,w'' = y.w) :=
       Lib.hid fun x => zd2 x (zn1 _ j _ W.heap.size _ (((HRD'.out.mono hB).kept G3.out).kept (x.b.mono G3.out.size) |>.mono G3.out.size) x.le (by omega))
      generalize keyI keys j = y at *
      generalize keyI keys' j = y' at *
      have C3:Hid (∀ x:Past W,Calls Tryz.prog 216 #[.string y,.string y'] x.w fun e w'' => e = .returned (.int .i64 (cmpB y y')) ∧ ∃ y:Past W,w'' = y.w) :=
       Lib.hid fun x => zp1 x (zj2 y y' x.w)
      repeat (go_big_quiet_step (first | with_reducible exact C1.out _ | with_reducible exact C2.out _ | with_reducible exact C3.out _))
      refine wpQuiet_nil ?_
      intro _ hw'
      obtain ⟨x,rfl⟩:=hw'
      have HBx:=Lib.hid (G3.out.trans (x.b.mono G3.out.size))
      have HX1':=Lib.hid (G1.out.kept x.b)
      have HX2':=Lib.hid (G2.out.kept x.b)
      clear p0 p1 p2 p3 p4 q0 q1 q2 q3 q4
      generalize x.w = wx at *
      generalize cmpB y y' = c1 at *
      by_cases hc:c1 = 0
      ·subst hc
       have HST2:Hid (res = orE (t.cmp t') (zb7 items keys items' keys' (j + 1))):=Lib.hid (by rw [HST.out,ze6])
       go_wp2_with fail
       refine za5 (fun W => Box W w.heap.size (.int .i64 k) (.int .i64 n) (.string s) (.slice (some a) li ci) (.slice K lk ck) ∧ Box W (w.heap.size + 1) (.int .i64 k') (.int .i64 n') (.string s') (.slice (some a') li' ci') (.slice K' lk' ck') ∧ Below w.heap.size w W) ⟨HX1'.out,HX2'.out,HBx.out⟩ (by kernel_rfl) ?_
       intro W2 ⟨f1,f2,f3⟩ _
       obtain ⟨p0,p1,p2,p3,p4⟩:=f1.past
       obtain ⟨q0,q1,q2,q3,q4⟩:=f2.past
       obtain ⟨r0,r1,r2,r3,r4⟩:=(HC.out.kept (by omega) f3).past E.out (Nat.lt_of_lt_of_le (Nat.lt_of_lt_of_le hab hB) f3.size)
       obtain ⟨u0,u1,u2,u3,u4⟩:=(HC'.out.kept (by omega) f3).past E'.out (Nat.lt_of_lt_of_le (Nat.lt_of_lt_of_le hab' hB) f3.size)
       have Z1:=Lib.hid f1
       have Z2:=Lib.hid f2
       have Z3:=Lib.hid f3
       clear f1 f2 f3
       have C4:Hid (∀ x:Past W2,Calls Tryz.prog 182 #[.agg #[.int .i64 k1,.int .i64 n1,.string s1,.slice A1 li1 ci1,.slice K1 lk1 ck1],.agg #[.int .i64 k1',.int .i64 n1',.string s1',.slice A1' li1' ci1',.slice K1' lk1' ck1']] x.w fun e w'' => e = .returned (.int .i64 (t.cmp t')) ∧ ∃ y:Past W2,w'' = y.w) :=
        Lib.hid fun x => zd2 x (by
         have g:=Z3.out.trans (x.b.mono Z3.out.size)
         have:=IHH.out x.w B (V j) (V' j) (HT.out.kept (g.mono hB)) (HT'.out.kept (g.mono hB)) (Nat.le_trans hB g.size)
         rwa [E.out,E'.out] at this)
       have hi0:(0:Int) ≤ (j:Int):=by omega
       have hi1:(j:Int) < (li:Int):=by omega
       have hi2:(j:Int) < (li':Int):=by omega
       repeat (go_big_quiet_step (with_reducible exact C4.out _))
       refine wpQuiet_nil ?_
       intro _ hw'
       obtain ⟨x,rfl⟩:=hw'
       have HBy:=Lib.hid (Z3.out.trans (x.b.mono Z3.out.size))
       have HY1:=Lib.hid (Z1.out.kept x.b)
       have HY2:=Lib.hid (Z2.out.kept x.b)
       clear p0 p1 p2 p3 p4 q0 q1 q2 q3 q4 r0 r1 r2 r3 r4 u0 u1 u2 u3 u4
       generalize x.w = wy at *
       go_wp2_with fail
       go_roundw
       case rel => exact ⟨j + 1,t.cmp t',by omega,fun _ => by omega,by go_num,rfl,HST2.out,HBy.out,HY1.out,HY2.out⟩
       case measure => simp [intOf]; omega
      ·have hc':(c1 == 0) = false:=by simp [hc]
       have HST2:Hid (res = orE c1 (zb7 items keys items' keys' (j + 1))):=Lib.hid (by rw [HST.out,zh4 _ hc,zh4 _ hc])
       have HCN:=Lib.hid hc
       clear hc
       go_wp2_with fail
       go_roundw
       case rel => exact ⟨j + 1,c1,by omega,fun h => absurd h HCN.out,by go_num,rfl,HST2.out,HBx.out,HX1'.out,HX2'.out⟩
       case measure => simp [intOf]; omega
     ·have hj2:j = min items.length items'.length:=by have:=HL.out; have:=HL'.out; omega
      have HJ:Hid (res = Lib.compareInt li li'):=Lib.hid (by rw [HRES.out,ze6,zm4 hj2,HL.out,HL'.out])
      clear hj2
      by_cases h1:li ≤ j
      ·have h1':(li:Int) ≤ (j:Int):=by omega
       have hd:decide (li ≤ j) = true:=by simpa using h1
       go_wp2_with fail
       refine (zf2 _ _ _).mono ?_
       rintro e w' ⟨rfl,rfl⟩
       go_wp2_with fail
       go_ret
       exact ⟨by rw [HJ.out]; rfl,HB.out⟩
      ·have h2:li' ≤ j:=by omega
       have h2':(li':Int) ≤ (j:Int):=by omega
       have hd:decide (li ≤ j) = false:=by simpa using h1
       have hd2:decide (li' ≤ j) = true:=by simpa using h2
       go_wp2_with fail
       refine (zf2 _ _ _).mono ?_
       rintro e w' ⟨rfl,rfl⟩
       go_wp2_with fail
       go_ret
       exact ⟨by rw [HJ.out]; rfl,HB.out⟩
    ·have hc':(c == 0) = false:=by simp [hc]
     have HR2:Hid (res = c):=Lib.hid (by rw [HRES.out,zh4 _ hc])
     clear hc hjc
     go_wp2_with fail
     go_ret
     exact ⟨by rw [HR2.out]; rfl,HB.out⟩
  ·have HS:Hid (res = orE (Lib.compareInt n n') (zb7 items keys items' keys' 0)):=Lib.hid (by rw [HE.out,E1.out,ze6,zh4 _ e2])
   have e2':(Lib.compareInt n n' == 0) = false:=by simp [e2]
   clear e2
   go_enter Tryz.func182, Tryz.ntmps182
   go_wp2_with fail
   refine (zf2 _ _ _).mono ?_
   rintro e w' ⟨rfl,rfl⟩
   go_wp2_with fail
   refine (zf2 _ _ _).mono ?_
   rintro e w' ⟨rfl,rfl⟩
   go_wp2_with fail
   go_loopw [5,6] (fun o i wr => ∃ (j:Nat) (c:Int),j ≤ min li li' + 1 ∧ (c = 0 → j ≤ min li li') ∧ i = .int .i64 j ∧ o = .int .i64 c ∧ res = orE c (zb7 items keys items' keys' j) ∧ Below w.heap.size w wr ∧
    Box wr w.heap.size (.int .i64 k) (.int .i64 n) (.string s) (.slice A li ci) (.slice K lk ck) ∧ Box wr (w.heap.size + 1) (.int .i64 k') (.int .i64 n') (.string s') (.slice A' li' ci') (.slice K' lk' ck')) (fun _ i _ => min li li' + 2 - (intOf i).toNat)
   case atStart => exact ⟨0,Lib.compareInt n n',Nat.zero_le _,fun _ => Nat.zero_le _,rfl,rfl,HS.out,F3.out,F1.out,F2.out⟩
   case round =>
    obtain ⟨j,c,hj,hjc,rfl,rfl,hres,hb,hx1,hx2⟩:=hrel
    have HRES:=Lib.hid hres
    have HB:=Lib.hid hb
    have hl1:=hx1.lt
    have hl2:=hx2.lt
    have HX1:=Lib.hid hx1
    have HX2:=Lib.hid hx2
    obtain ⟨p0,p1,p2,p3,p4⟩:=hx1.cells
    obtain ⟨q0,q1,q2,q3,q4⟩:=hx2.cells
    clear hres hb hx1 hx2
    by_cases hc:c = 0
    ·subst hc
     have hj':j ≤ min li li':=hjc rfl
     clear hjc
     by_cases hlt:j < min li li'
     ·have h1:j < li:=by omega
      have h2:j < li':=by omega
      obtain ⟨a,t,k1,n1,s1,A1,li1,ci1,K1,lk1,ck1,rfl,ht,e,hrd,_,_,_,_,_⟩:=ze5 HA.out HR.out HL.out (Below.refl _ _) h1
      obtain ⟨a',t',k1',n1',s1',A1',li1',ci1',K1',lk1',ck1',rfl,ht',e',hrd',_,_,_,_,_⟩:=ze5 HA'.out HR'.out HL'.out (Below.refl _ _) h2
      have HC:Hid (C5 w (a.add (j * 5)) (V j)):=Lib.hid (by obtain ⟨_,e,_,h⟩:=HA.out (by omega); cases e; exact h j h1)
      have HC':Hid (C5 w (a'.add (j * 5)) (V' j)):=Lib.hid (by obtain ⟨_,e,_,h⟩:=HA'.out (by omega); cases e; exact h j h2)
      have hab:(a.add (j * 5)).block < B:=by obtain ⟨_,e,h,_⟩:=HA.out (by omega); cases e; rw [za1]; exact h
      have hab':(a'.add (j * 5)).block < B:=by obtain ⟨_,e,h,_⟩:=HA'.out (by omega); cases e; rw [za1]; exact h
      have HST:Hid (res = orE (cmpB (keyI keys j) (keyI keys' j)) (orE (t.cmp t') (zb7 items keys items' keys' (j + 1)))):=Lib.hid (by
       rw [HRES.out,ze6,zj6 (.inl (by have:=HL.out; omega))]
       unfold zd7
       rw [ht,ht', ← zx2])
      have IHH:=Lib.hid (IH.out j t ht t')
      have E:=Lib.hid e
      have E':=Lib.hid e'
      have HT:=Lib.hid hrd
      have HT':=Lib.hid hrd'
      clear e e' hrd hrd' ht ht'
      go_wp2_with fail
      refine za5 (fun W => Box W w.heap.size (.int .i64 k) (.int .i64 n) (.string s) (.slice (some a) li ci) (.slice K lk ck) ∧ Box W (w.heap.size + 1) (.int .i64 k') (.int .i64 n') (.string s') (.slice (some a') li' ci') (.slice K' lk' ck') ∧ Below w.heap.size w W) ⟨HX1.out,HX2.out,HB.out⟩ (by kernel_rfl) ?_
      clear p0 p1 p2 p3 p4 q0 q1 q2 q3 q4
      intro W ⟨f1,f2,f3⟩ _
      obtain ⟨p0,p1,p2,p3,p4⟩:=f1.past
      obtain ⟨q0,q1,q2,q3,q4⟩:=f2.past
      have G1:=Lib.hid f1
      have G2:=Lib.hid f2
      have G3:=Lib.hid f3
      clear f1 f2 f3
      have C1:Hid (∀ x:Past W,Calls Tryz.prog 217 #[.agg #[.int .i64 k,.int .i64 n,.string s,.slice (some a) li ci,.slice K lk ck],.int .i64 j] x.w fun e w'' => e = .returned (.string (keyI keys j)) ∧ ∃ y:Past W,w'' = y.w) :=
       Lib.hid fun x => zd2 x (zn1 _ j _ W.heap.size _ (((HRD.out.mono hB).kept G3.out).kept (x.b.mono G3.out.size) |>.mono G3.out.size) x.le (by omega))
      have C2:Hid (∀ x:Past W,Calls Tryz.prog 217 #[.agg #[.int .i64 k',.int .i64 n',.string s',.slice (some a') li' ci',.slice K' lk' ck'],.int .i64 j] x.w fun e w'' => e = .returned (.string (keyI keys' j)) ∧ ∃ y:Past W,w'' = y.w) :=
       Lib.hid fun x => zd2 x (zn1 _ j _ W.heap.size _ (((HRD'.out.mono hB).kept G3.out).kept (x.b.mono G3.out.size) |>.mono G3.out.size) x.le (by omega))
      generalize keyI keys j = y at *
      generalize keyI keys' j = y' at *
      have C3:Hid (∀ x:Past W,Calls Tryz.prog 216 #[.string y,.string y'] x.w fun e w'' => e = .returned (.int .i64 (cmpB y y')) ∧ ∃ y:Past W,w'' = y.w) :=
       Lib.hid fun x => zp1 x (zj2 y y' x.w)
      repeat (go_big_quiet_step (first | with_reducible exact C1.out _ | with_reducible exact C2.out _ | with_reducible exact C3.out _))
      refine wpQuiet_nil ?_
      intro _ hw'
      obtain ⟨x,rfl⟩:=hw'
      have HBx:=Lib.hid (G3.out.trans (x.b.mono G3.out.size))
      have HX1':=Lib.hid (G1.out.kept x.b)
      have HX2':=Lib.hid (G2.out.kept x.b)
      clear p0 p1 p2 p3 p4 q0 q1 q2 q3 q4
      generalize x.w = wx at *
      generalize cmpB y y' = c1 at *
      by_cases hc:c1 = 0
      ·subst hc
       have HST2:Hid (res = orE (t.cmp t') (zb7 items keys items' keys' (j + 1))):=Lib.hid (by rw [HST.out,ze6])
       go_wp2_with fail
       refine za5 (fun W => Box W w.heap.size (.int .i64 k) (.int .i64 n) (.string s) (.slice (some a) li ci) (.slice K lk ck) ∧ Box W (w.heap.size + 1) (.int .i64 k') (.int .i64 n') (.string s') (.slice (some a') li' ci') (.slice K' lk' ck') ∧ Below w.heap.size w W) ⟨HX1'.out,HX2'.out,HBx.out⟩ (by kernel_rfl) ?_
       intro W2 ⟨f1,f2,f3⟩ _
       obtain ⟨p0,p1,p2,p3,p4⟩:=f1.past
       obtain ⟨q0,q1,q2,q3,q4⟩:=f2.past
       obtain ⟨r0,r1,r2,r3,r4⟩:=(HC.out.kept (by omega) f3).past E.out (Nat.lt_of_lt_of_le (Nat.lt_of_lt_of_le hab hB) f3.size)
       obtain ⟨u0,u1,u2,u3,u4⟩:=(HC'.out.kept (by omega) f3).past E'.out (Nat.lt_of_lt_of_le (Nat.lt_of_lt_of_le hab' hB) f3.size)
       have Z1:=Lib.hid f1
       have Z2:=Lib.hid f2
       have Z3:=Lib.hid f3
       clear f1 f2 f3
       have C4:Hid (∀ x:Past W2,Calls Tryz.prog 182 #[.agg #[.int .i64 k1,.int .i64 n1,.string s1,.slice A1 li1 ci1,.slice K1 lk1 ck1],.agg #[.int .i64 k1',.int .i64 n1',.string s1',.slice A1' li1' ci1',.slice K1' lk1' ck1']] x.w fun e w'' => e = .returned (.int .i64 (t.cmp t')) ∧ ∃ y:Past W2,w'' = y.w) :=
        Lib.hid fun x => zd2 x (by
         have g:=Z3.out.trans (x.b.mono Z3.out.size)
         have:=IHH.out x.w B (V j) (V' j) (HT.out.kept (g.mono hB)) (HT'.out.kept (g.mono hB)) (Nat.le_trans hB g.size)
         rwa [E.out,E'.out] at this)
       have hi0:(0:Int) ≤ (j:Int):=by omega
       have hi1:(j:Int) < (li:Int):=by omega
       have hi2:(j:Int) < (li':Int):=by omega
       repeat (go_big_quiet_step (with_reducible exact C4.out _))
       refine wpQuiet_nil ?_
       intro _ hw'
       obtain ⟨x,rfl⟩:=hw'
       have HBy:=Lib.hid (Z3.out.trans (x.b.mono Z3.out.size))
       have HY1:=Lib.hid (Z1.out.kept x.b)
       have HY2:=Lib.hid (Z2.out.kept x.b)
       clear p0 p1 p2 p3 p4 q0 q1 q2 q3 q4 r0 r1 r2 r3 r4 u0 u1 u2 u3 u4
       generalize x.w = wy at *
       go_wp2_with fail
       go_roundw
       case rel => exact ⟨j + 1,t.cmp t',by omega,fun _ => by omega,by go_num,rfl,HST2.out,HBy.out,HY1.out,HY2.out⟩
       case measure => simp [intOf]; omega
      ·have hc':(c1 == 0) = false:=by simp [hc]
       have HST2:Hid (res = orE c1 (zb7 items keys items' keys' (j + 1))):=Lib.hid (by rw [HST.out,zh4 _ hc,zh4 _ hc])
       have HCN:=Lib.hid hc
       clear hc
       go_wp2_with fail
       go_roundw
       case rel => exact ⟨j + 1,c1,by omega,fun h => absurd h HCN.out,by go_num,rfl,HST2.out,HBx.out,HX1'.out,HX2'.out⟩
       case measure => simp [intOf]; omega
     ·have hj2:j = min items.length items'.length:=by have:=HL.out; have:=HL'.out; omega
      have HJ:Hid (res = Lib.compareInt li li'):=Lib.hid (by rw [HRES.out,ze6,zm4 hj2,HL.out,HL'.out])
      clear hj2
      by_cases h1:li ≤ j
      ·have h1':(li:Int) ≤ (j:Int):=by omega
       have hd:decide (li ≤ j) = true:=by simpa using h1
       go_wp2_with fail
       refine (zf2 _ _ _).mono ?_
       rintro e w' ⟨rfl,rfl⟩
       go_wp2_with fail
       go_ret
       exact ⟨by rw [HJ.out]; rfl,HB.out⟩
      ·have h2:li' ≤ j:=by omega
       have h2':(li':Int) ≤ (j:Int):=by omega
       have hd:decide (li ≤ j) = false:=by simpa using h1
       have hd2:decide (li' ≤ j) = true:=by simpa using h2
       go_wp2_with fail
       refine (zf2 _ _ _).mono ?_
       rintro e w' ⟨rfl,rfl⟩
       go_wp2_with fail
       go_ret
       exact ⟨by rw [HJ.out]; rfl,HB.out⟩
    ·have hc':(c == 0) = false:=by simp [hc]
     have HR2:Hid (res = c):=Lib.hid (by rw [HRES.out,zh4 _ hc])
     clear hc hjc
     go_wp2_with fail
     go_ret
     exact ⟨by rw [HR2.out]; rfl,HB.out⟩
 ·have HS:Hid (res = orE (Lib.compareInt k k') (zb7 items keys items' keys' 0)):=Lib.hid (by rw [HE.out,zh4 _ e1])
  have e1':(Lib.compareInt k k' == 0) = false:=by simp [e1]
  clear e1
  go_enter Tryz.func182, Tryz.ntmps182
  go_wp2_with fail
  refine (zf2 _ _ _).mono ?_
  rintro e w' ⟨rfl,rfl⟩
  go_wp2_with fail
  go_loopw [5,6] (fun o i wr => ∃ (j:Nat) (c:Int),j ≤ min li li' + 1 ∧ (c = 0 → j ≤ min li li') ∧ i = .int .i64 j ∧ o = .int .i64 c ∧ res = orE c (zb7 items keys items' keys' j) ∧ Below w.heap.size w wr ∧
   Box wr w.heap.size (.int .i64 k) (.int .i64 n) (.string s) (.slice A li ci) (.slice K lk ck) ∧ Box wr (w.heap.size + 1) (.int .i64 k') (.int .i64 n') (.string s') (.slice A' li' ci') (.slice K' lk' ck')) (fun _ i _ => min li li' + 2 - (intOf i).toNat)
  case atStart => exact ⟨0,Lib.compareInt k k',Nat.zero_le _,fun _ => Nat.zero_le _,rfl,rfl,HS.out,F3.out,F1.out,F2.out⟩
  case round =>
   obtain ⟨j,c,hj,hjc,rfl,rfl,hres,hb,hx1,hx2⟩:=hrel
   have HRES:=Lib.hid hres
   have HB:=Lib.hid hb
   have hl1:=hx1.lt
   have hl2:=hx2.lt
   have HX1:=Lib.hid hx1
   have HX2:=Lib.hid hx2
   obtain ⟨p0,p1,p2,p3,p4⟩:=hx1.cells
   obtain ⟨q0,q1,q2,q3,q4⟩:=hx2.cells
   clear hres hb hx1 hx2
   by_cases hc:c = 0
   ·subst hc
    have hj':j ≤ min li li':=hjc rfl
    clear hjc
    by_cases hlt:j < min li li'
    ·have h1:j < li:=by omega
     have h2:j < li':=by omega
     obtain ⟨a,t,k1,n1,s1,A1,li1,ci1,K1,lk1,ck1,rfl,ht,e,hrd,_,_,_,_,_⟩:=ze5 HA.out HR.out HL.out (Below.refl _ _) h1
     obtain ⟨a',t',k1',n1',s1',A1',li1',ci1',K1',lk1',ck1',rfl,ht',e',hrd',_,_,_,_,_⟩:=ze5 HA'.out HR'.out HL'.out (Below.refl _ _) h2
     have HC:Hid (C5 w (a.add (j * 5)) (V j)):=Lib.hid (by obtain ⟨_,e,_,h⟩:=HA.out (by omega); cases e; exact h j h1)
     have HC':Hid (C5 w (a'.add (j * 5)) (V' j)):=Lib.hid (by obtain ⟨_,e,_,h⟩:=HA'.out (by omega); cases e; exact h j h2)
     have hab:(a.add (j * 5)).block < B:=by obtain ⟨_,e,h,_⟩:=HA.out (by omega); cases e; rw [za1]; exact h
     have hab':(a'.add (j * 5)).block < B:=by obtain ⟨_,e,h,_⟩:=HA'.out (by omega); cases e; rw [za1]; exact h
     have HST:Hid (res = orE (cmpB (keyI keys j) (keyI keys' j)) (orE (t.cmp t') (zb7 items keys items' keys' (j + 1)))):=Lib.hid (by
      rw [HRES.out,ze6,zj6 (.inl (by have:=HL.out; omega))]
      unfold zd7
      rw [ht,ht', ← zx2])
     have IHH:=Lib.hid (IH.out j t ht t')
     have E:=Lib.hid e
     have E':=Lib.hid e'
     have HT:=Lib.hid hrd
     have HT':=Lib.hid hrd'
     clear e e' hrd hrd' ht ht'
     go_wp2_with fail
     refine za5 (fun W => Box W w.heap.size (.int .i64 k) (.int .i64 n) (.string s) (.slice (some a) li ci) (.slice K lk ck) ∧ Box W (w.heap.size + 1) (.int .i64 k') (.int .i64 n') (.string s') (.slice (some a') li' ci') (.slice K' lk' ck') ∧ Below w.heap.size w W) ⟨HX1.out,HX2.out,HB.out⟩ (by kernel_rfl) ?_
     clear p0 p1 p2 p3 p4 q0 q1 q2 q3 q4
     intro W ⟨f1,f2,f3⟩ _
     obtain ⟨p0,p1,p2,p3,p4⟩:=f1.past
     obtain ⟨q0,q1,q2,q3,q4⟩:=f2.past
     have G1:=Lib.hid f1
     have G2:=Lib.hid f2
     have G3:=Lib.hid f3
     clear f1 f2 f3
     have C1:Hid (∀ x:Past W,Calls Tryz.prog 217 #[.agg #[.int .i64 k,.int .i64 n,.string s,.slice (some a) li ci,.slice K lk ck],.int .i64 j] x.w fun e w'' => e = .returned (.string (keyI keys j)) ∧ ∃ y:Past W,w'' = y.w) :=
      Lib.hid fun x => zd2 x (zn1 _ j _ W.heap.size _ (((HRD.out.mono hB).kept G3.out).kept (x.b.mono G3.out.size) |>.mono G3.out.size) x.le (by omega))
     have C2:Hid (∀ x:Past W,Calls Tryz.prog 217 #[.agg #[.int .i64 k',.int .i64 n',.string s',.slice (some a') li' ci',.slice K' lk' ck'],.int .i64 j] x.w fun e w'' => e = .returned (.string (keyI keys' j)) ∧ ∃ y:Past W,w'' = y.w) :=
      Lib.hid fun x => zd2 x (zn1 _ j _ W.heap.size _ (((HRD'.out.mono hB).kept G3.out).kept (x.b.mono G3.out.size) |>.mono G3.out.size) x.le (by omega))
     generalize keyI keys j = y at *
     generalize keyI keys' j = y' at *
     have C3:Hid (∀ x:Past W,Calls Tryz.prog 216 #[.string y,.string y'] x.w fun e w'' => e = .returned (.int .i64 (cmpB y y')) ∧ ∃ y:Past W,w'' = y.w) :=
      Lib.hid fun x => zp1 x (zj2 y y' x.w)
     repeat (go_big_quiet_step (first | with_reducible exact C1.out _ | with_reducible exact C2.out _ | with_reducible exact C3.out _))
     refine wpQuiet_nil ?_
     intro _ hw'
     obtain ⟨x,rfl⟩:=hw'
     have HBx:=Lib.hid (G3.out.trans (x.b.mono G3.out.size))
     have HX1':=Lib.hid (G1.out.kept x.b)
     have HX2':=Lib.hid (G2.out.kept x.b)
     clear p0 p1 p2 p3 p4 q0 q1 q2 q3 q4
     generalize x.w = wx at *
     generalize cmpB y y' = c1 at *
     by_cases hc:c1 = 0
     ·subst hc
      have HST2:Hid (res = orE (t.cmp t') (zb7 items keys items' keys' (j + 1))):=Lib.hid (by rw [HST.out,ze6])
      go_wp2_with fail
      refine za5 (fun W => Box W w.heap.size (.int .i64 k) (.int .i64 n) (.string s) (.slice (some a) li ci) (.slice K lk ck) ∧ Box W (w.heap.size + 1) (.int .i64 k') (.int .i64 n') (.string s') (.slice (some a') li' ci') (.slice K' lk' ck') ∧ Below w.heap.size w W) ⟨HX1'.out,HX2'.out,HBx.out⟩ (by kernel_rfl) ?_
      intro W2 ⟨f1,f2,f3⟩ _
      obtain ⟨p0,p1,p2,p3,p4⟩:=f1.past
      obtain ⟨q0,q1,q2,q3,q4⟩:=f2.past
      obtain ⟨r0,r1,r2,r3,r4⟩:=(HC.out.kept (by omega) f3).past E.out (Nat.lt_of_lt_of_le (Nat.lt_of_lt_of_le hab hB) f3.size)
      obtain ⟨u0,u1,u2,u3,u4⟩:=(HC'.out.kept (by omega) f3).past E'.out (Nat.lt_of_lt_of_le (Nat.lt_of_lt_of_le hab' hB) f3.size)
      have Z1:=Lib.hid f1
      have Z2:=Lib.hid f2
      have Z3:=Lib.hid f3
      clear f1 f2 f3
      have C4:Hid (∀ x:Past W2,Calls Tryz.prog 182 #[.agg #[.int .i64 k1,.int .i64 n1,.string s1,.slice A1 li1 ci1,.slice K1 lk1 ck1],.agg #[.int .i64 k1',.int .i64 n1',.string s1',.slice A1' li1' ci1',.slice K1' lk1' ck1']] x.w fun e w'' => e = .returned (.int .i64 (t.cmp t')) ∧ ∃ y:Past W2,w'' = y.w) :=
       Lib.hid fun x => zd2 x (by
        have g:=Z3.out.trans (x.b.mono Z3.out.size)
        have:=IHH.out x.w B (V j) (V' j) (HT.out.kept (g.mono hB)) (HT'.out.kept (g.mono hB)) (Nat.le_trans hB g.size)
        rwa [E.out,E'.out] at this)
      have hi0:(0:Int) ≤ (j:Int):=by omega
      have hi1:(j:Int) < (li:Int):=by omega
      have hi2:(j:Int) < (li':Int):=by omega
      repeat (go_big_quiet_step (with_reducible exact C4.out _))
      refine wpQuiet_nil ?_
      intro _ hw'
      obtain ⟨x,rfl⟩:=hw'
      have HBy:=Lib.hid (Z3.out.trans (x.b.mono Z3.out.size))
      have HY1:=Lib.hid (Z1.out.kept x.b)
      have HY2:=Lib.hid (Z2.out.kept x.b)
      clear p0 p1 p2 p3 p4 q0 q1 q2 q3 q4 r0 r1 r2 r3 r4 u0 u1 u2 u3 u4
      generalize x.w = wy at *
      go_wp2_with fail
      go_roundw
      case rel => exact ⟨j + 1,t.cmp t',by omega,fun _ => by omega,by go_num,rfl,HST2.out,HBy.out,HY1.out,HY2.out⟩
      case measure => simp [intOf]; omega
     ·have hc':(c1 == 0) = false:=by simp [hc]
      have HST2:Hid (res = orE c1 (zb7 items keys items' keys' (j + 1))):=Lib.hid (by rw [HST.out,zh4 _ hc,zh4 _ hc])
      have HCN:=Lib.hid hc
      clear hc
      go_wp2_with fail
      go_roundw
      case rel => exact ⟨j + 1,c1,by omega,fun h => absurd h HCN.out,by go_num,rfl,HST2.out,HBx.out,HX1'.out,HX2'.out⟩
      case measure => simp [intOf]; omega
    ·have hj2:j = min items.length items'.length:=by have:=HL.out; have:=HL'.out; omega
     have HJ:Hid (res = Lib.compareInt li li'):=Lib.hid (by rw [HRES.out,ze6,zm4 hj2,HL.out,HL'.out])
     clear hj2
     by_cases h1:li ≤ j
     ·have h1':(li:Int) ≤ (j:Int):=by omega
      have hd:decide (li ≤ j) = true:=by simpa using h1
      go_wp2_with fail
      refine (zf2 _ _ _).mono ?_
      rintro e w' ⟨rfl,rfl⟩
      go_wp2_with fail
      go_ret
      exact ⟨by rw [HJ.out]; rfl,HB.out⟩
     ·have h2:li' ≤ j:=by omega
      have h2':(li':Int) ≤ (j:Int):=by omega
      have hd:decide (li ≤ j) = false:=by simpa using h1
      have hd2:decide (li' ≤ j) = true:=by simpa using h2
      go_wp2_with fail
      refine (zf2 _ _ _).mono ?_
      rintro e w' ⟨rfl,rfl⟩
      go_wp2_with fail
      go_ret
      exact ⟨by rw [HJ.out]; rfl,HB.out⟩
   ·have hc':(c == 0) = false:=by simp [hc]
    have HR2:Hid (res = c):=Lib.hid (by rw [HRES.out,zh4 _ hc])
    clear hc hjc
    go_wp2_with fail
    go_ret
    exact ⟨by rw [HR2.out]; rfl,HB.out⟩
end Go.Proofs.YtfgelheiknmjgaaGreatDoor
namespace Go.Proofs.YtfgelheiknmjgaaGreatDoor
open Go.RowKit
theorem zs7 (t t':VT) (w:World) (B:Nat) (v v':Value) (h:Rd w B v t) (h':Rd w B v' t') (hB:B ≤ w.heap.size) :
  Calls Tryz.prog 139 #[v,v'] w fun e w' => e = .returned (.bool (decide (t.cmp t' = 0))) ∧ Below w.heap.size w w':=by
 have HC:Hid (∀ w2,Below w.heap.size w w2 → Calls Tryz.prog 185 #[v,v'] w2 fun e w' => e = .returned (.int .i64 (t.cmp t')) ∧ Below w2.heap.size w2 w') :=
  Lib.hid fun w2 hb => zF1 t t' w2 B v v' (h.kept (hb.mono hB)) (h'.kept (hb.mono hB)) (Nat.le_trans hB hb.size)
 obtain ⟨k,n,s,A,li,ci,K,lk,ck,rfl⟩:=h.shape
 obtain ⟨k',n',s',A',li',ci',K',lk',ck',rfl⟩:=h'.shape
 clear h h'
 obtain ⟨f1,f2,f3⟩:=Box.two w (.int .i64 k) (.int .i64 n) (.string s) (.slice A li ci) (.slice K lk ck) (.int .i64 k') (.int .i64 n') (.string s') (.slice A' li' ci') (.slice K' lk' ck')
 have HC2:=Lib.hid (HC.out _ f3)
 have F3:=Lib.hid f3
 obtain ⟨c0,c1,c2,c3,c4⟩:=f1.cells
 obtain ⟨d0,d1,d2,d3,d4⟩:=f2.cells
 clear f1 f2 f3 HC
 go_enter Tryz.func139, Tryz.ntmps139
 go_wp2_with fail
 refine HC2.out.mono ?_
 rintro e w1 ⟨rfl,hb⟩
 have HB:=Lib.hid (F3.out.trans (hb.mono F3.out.size))
 clear hb
 clear c0 c1 c2 c3 c4 d0 d1 d2 d3 d4
 go_wp2_with fail
 go_ret
 exact ⟨rfl,HB.out⟩
theorem zB1 (t t':VT) (w:World) (B:Nat) (v v':Value) (h:Rd w B v t) (h':Rd w B v' t') (hB:B ≤ w.heap.size) :
  Calls Tryz.prog 135 #[v,v'] w fun e w' => e = .returned (.bool (decide (t.cmp t' = 0))) ∧ Below w.heap.size w w':=by
 have HC:Hid (∀ w2,Below w.heap.size w w2 → Calls Tryz.prog 182 #[v,v'] w2 fun e w' => e = .returned (.int .i64 (t.cmp t')) ∧ Below w2.heap.size w2 w') :=
  Lib.hid fun w2 hb => zB4 t t' w2 B v v' (h.kept (hb.mono hB)) (h'.kept (hb.mono hB)) (Nat.le_trans hB hb.size)
 obtain ⟨k,n,s,A,li,ci,K,lk,ck,rfl⟩:=h.shape
 obtain ⟨k',n',s',A',li',ci',K',lk',ck',rfl⟩:=h'.shape
 clear h h'
 obtain ⟨f1,f2,f3⟩:=Box.two w (.int .i64 k) (.int .i64 n) (.string s) (.slice A li ci) (.slice K lk ck) (.int .i64 k') (.int .i64 n') (.string s') (.slice A' li' ci') (.slice K' lk' ck')
 have HC2:=Lib.hid (HC.out _ f3)
 have F3:=Lib.hid f3
 obtain ⟨c0,c1,c2,c3,c4⟩:=f1.cells
 obtain ⟨d0,d1,d2,d3,d4⟩:=f2.cells
 clear f1 f2 f3 HC
 go_enter Tryz.func135, Tryz.ntmps135
 go_wp2_with fail
 refine HC2.out.mono ?_
 rintro e w1 ⟨rfl,hb⟩
 have HB:=Lib.hid (F3.out.trans (hb.mono F3.out.size))
 clear hb
 clear c0 c1 c2 c3 c4 d0 d1 d2 d3 d4
 go_wp2_with fail
 go_ret
 exact ⟨rfl,HB.out⟩
end Go.Proofs.YtfgelheiknmjgaaGreatDoor
namespace Go.Proofs.YtfgelheiknmjgaaGreatDoor
open Go.RowKit
set_option maxRecDepth 100000 in
set_option maxHeartbeats 4000000 in
theorem zM2 (x y:ByteArray × VT) (f g:Nat → Value) (w:World) (hx:ArgR w w.heap.size f x) (hy:ArgR w w.heap.size g y):Calls Tryz.prog 219 #[.agg #[f 0,f 1,f 2,f 3,f 4,f 5],.agg #[g 0,g 1,g 2,g 3,g 4,g 5]] w (BP (sArg x y) w):=by
 obtain ⟨xs0,xi1,xi2,xs3,xA4,xl4,xc4,xA5,xl5,xc5,ex0,ex1,ex2,ex3,ex4,ex5⟩:=ArgR.form3 hx
 obtain ⟨ys0,yi1,yi2,ys3,yA4,yl4,yc4,yA5,yl5,yc5,ey0,ey1,ey2,ey3,ey4,ey5⟩:=ArgR.form3 hy
 obtain ⟨b0,e0⟩ : ∃ b:Bool,b = (decide (x.1 = y.1)):=⟨_,rfl⟩
 obtain ⟨b1,e1⟩ : ∃ b:Bool,b = (decide (x.2.cmp y.2 = 0)):=⟨_,rfl⟩
 have HS:Hid (sArg x y = (b0 && b1)):=Lib.hid (by rw [e0,e1]; rfl)
 generalize sArg x y = S at HS ⊢
 have hxn0:x.1 = xs0:=by have h:=(ex0.symm.trans hx.name).symm; simpa using h
 have hyn0:y.1 = ys0:=by have h:=(ey0.symm.trans hy.name).symm; simpa using h
 rw [hxn0,hyn0] at e0
 have B0:Below w.heap.size w ((w.alloc (.cells #[.string xs0,.int .i64 xi1,.int .i64 xi2,.string xs3,.slice xA4 xl4 xc4,.slice xA5 xl5 xc5] 88 (0,0))).alloc (.cells #[.string ys0,.int .i64 yi1,.int .i64 yi2,.string ys3,.slice yA4 yl4 yc4,.slice yA5 yl5 yc5] 88 (0,0))):=(za0 w _).alloc (by simp) _
 have XA0:Bk ((w.alloc (.cells #[.string xs0,.int .i64 xi1,.int .i64 xi2,.string xs3,.slice xA4 xl4 xc4,.slice xA5 xl5 xc5] 88 (0,0))).alloc (.cells #[.string ys0,.int .i64 yi1,.int .i64 yi2,.string ys3,.slice yA4 yl4 yc4,.slice yA5 yl5 yc5] 88 (0,0))) w.heap.size #[.string xs0,.int .i64 xi1,.int .i64 xi2,.string xs3,.slice xA4 xl4 xc4,.slice xA5 xl5 xc5] 88 := (Bk.new w _ _).stay (za0 _ _)
 have XB0:Bk ((w.alloc (.cells #[.string xs0,.int .i64 xi1,.int .i64 xi2,.string xs3,.slice xA4 xl4 xc4,.slice xA5 xl5 xc5] 88 (0,0))).alloc (.cells #[.string ys0,.int .i64 yi1,.int .i64 yi2,.string ys3,.slice yA4 yl4 yc4,.slice yA5 yl5 yc5] 88 (0,0))) (w.heap.size + 1) #[.string ys0,.int .i64 yi1,.int .i64 yi2,.string ys3,.slice yA4 yl4 yc4,.slice yA5 yl5 yc5] 88 := by
  have h:=Bk.new (w.alloc (.cells #[.string xs0,.int .i64 xi1,.int .i64 xi2,.string xs3,.slice xA4 xl4 xc4,.slice xA5 xl5 xc5] 88 (0,0))) #[.string ys0,.int .i64 yi1,.int .i64 yi2,.string ys3,.slice yA4 yl4 yc4,.slice yA5 yl5 yc5] 88
  rwa [show (w.alloc (.cells #[.string xs0,.int .i64 xi1,.int .i64 xi2,.string xs3,.slice xA4 xl4 xc4,.slice xA5 xl5 xc5] 88 (0,0))).heap.size = w.heap.size + 1 by simp] at h
 have C1:Hid (∀ W:World,Below w.heap.size w W → Calls Tryz.prog 139 #[.agg #[.int .i64 xi1,.int .i64 xi2,.string xs3,.slice xA4 xl4 xc4,.slice xA5 xl5 xc5],.agg #[.int .i64 yi1,.int .i64 yi2,.string ys3,.slice yA4 yl4 yc4,.slice yA5 yl5 yc5]] W (BP b1 W)):=Lib.hid fun W hW => by
  rw [← ex1, ← ey1, ← ex2, ← ey2, ← ex3, ← ey3, ← ex4, ← ey4, ← ex5, ← ey5,e1]
  exact zs7 x.2 y.2 W w.heap.size _ _ (hx.val.kept hW) (hy.val.kept hW) hW.size
 rw [ex0,ey0,ex1,ey1,ex2,ey2,ex3,ey3,ex4,ey4,ex5,ey5]
 have h0:(xs0.toList == ys0.toList) = b0:=by (rw [e0,K.zf7]) <;> exact decide_eq_decide.2 Iff.rfl
 have k0:=e0.symm
 have HB:=Lib.hid B0
 have XA:=Lib.hid XA0
 have XB:=Lib.hid XB0
 have y0:=XA.out.cell 0 _ rfl
 have z0:=XB.out.cell 0 _ rfl
 have y1:=XA.out.cell 1 _ rfl
 have z1:=XB.out.cell 1 _ rfl
 have y2:=XA.out.cell 2 _ rfl
 have z2:=XB.out.cell 2 _ rfl
 have y3:=XA.out.cell 3 _ rfl
 have z3:=XB.out.cell 3 _ rfl
 have y4:=XA.out.cell 4 _ rfl
 have z4:=XB.out.cell 4 _ rfl
 have y5:=XA.out.cell 5 _ rfl
 have z5:=XB.out.cell 5 _ rfl
 clear B0 XA0 XB0 hx hy e0 e1 hxn0 hyn0 ex0 ey0 ex1 ey1 ex2 ey2 ex3 ey3 ex4 ey4 ex5 ey5
 go_enter Tryz.func219, Tryz.ntmps219
 cases b0 with
 | false =>
   go_wp2_with fail
   all_goals (go_ret; exact ⟨by rw [HS.out]; rfl,HB.out⟩)
 | true =>
 go_wp2_with fail
 refine (C1.out _ HB.out).mono ?_
 rintro e w1 ⟨rfl,hb⟩
 replace HB:=Lib.hid (HB.out.trans (hb.mono HB.out.size))
 clear hb C1 y0 z0 y1 z1 y2 z2 y3 z3 y4 z4 y5 z5
 go_wp2_with fail
 go_ret
 exact ⟨by rw [HS.out]; rfl,HB.out⟩
theorem zz9 (xs ys:List (ByteArray × VT)) (v1 v2:Value) (w:World) (hx:ArgsR w w.heap.size v1 xs) (hy:ArgsR w w.heap.size v2 ys):Calls Tryz.prog 183 #[v1,v2] w (BP (allS sArg xs ys) w):=by
 have CALL:=Lib.hid (zS3 sArg xs ys v1 v2 w hx hy (fun W x y f g _ _ _ h1 h2 => zM2 x y f g W h1 h2))
 go_enter Tryz.func183, Tryz.ntmps183
 go_wp2_with fail
 refine CALL.out.mono ?_
 rintro e w1 ⟨rfl,hb⟩
 go_wp2_with fail
 go_ret
 exact ⟨rfl,hb⟩
set_option maxRecDepth 100000 in
set_option maxHeartbeats 4000000 in
theorem zM0 (x y:DirT) (f g:Nat → Value) (w:World) (hx:DirR w w.heap.size f x) (hy:DirR w w.heap.size g y):Calls Tryz.prog 137 #[.agg #[f 0,f 1],.agg #[g 0,g 1]] w (BP (sDir x y) w):=by
 obtain ⟨xs0,xA1,xl1,xc1,ex0,ex1⟩:=DirR.form3 hx
 obtain ⟨ys0,yA1,yl1,yc1,ey0,ey1⟩:=DirR.form3 hy
 obtain ⟨b0,e0⟩ : ∃ b:Bool,b = (decide (x.name = y.name)):=⟨_,rfl⟩
 obtain ⟨b1,e1⟩ : ∃ b:Bool,b = (allS sArg x.args y.args):=⟨_,rfl⟩
 have HS:Hid (sDir x y = (b0 && b1)):=Lib.hid (by rw [e0,e1]; rfl)
 generalize sDir x y = S at HS ⊢
 have hxn0:x.name = xs0:=by have h:=(ex0.symm.trans hx.name).symm; simpa using h
 have hyn0:y.name = ys0:=by have h:=(ey0.symm.trans hy.name).symm; simpa using h
 rw [hxn0,hyn0] at e0
 have B0:Below w.heap.size w ((w.alloc (.cells #[.string xs0,.slice xA1 xl1 xc1] 85 (0,0))).alloc (.cells #[.string ys0,.slice yA1 yl1 yc1] 85 (0,0))):=(za0 w _).alloc (by simp) _
 have XA0:Bk ((w.alloc (.cells #[.string xs0,.slice xA1 xl1 xc1] 85 (0,0))).alloc (.cells #[.string ys0,.slice yA1 yl1 yc1] 85 (0,0))) w.heap.size #[.string xs0,.slice xA1 xl1 xc1] 85 := (Bk.new w _ _).stay (za0 _ _)
 have XB0:Bk ((w.alloc (.cells #[.string xs0,.slice xA1 xl1 xc1] 85 (0,0))).alloc (.cells #[.string ys0,.slice yA1 yl1 yc1] 85 (0,0))) (w.heap.size + 1) #[.string ys0,.slice yA1 yl1 yc1] 85 := by
  have h:=Bk.new (w.alloc (.cells #[.string xs0,.slice xA1 xl1 xc1] 85 (0,0))) #[.string ys0,.slice yA1 yl1 yc1] 85
  rwa [show (w.alloc (.cells #[.string xs0,.slice xA1 xl1 xc1] 85 (0,0))).heap.size = w.heap.size + 1 by simp] at h
 have C1:Hid (∀ W:World,Below w.heap.size w W → Calls Tryz.prog 183 #[.slice xA1 xl1 xc1,.slice yA1 yl1 yc1] W (BP b1 W)):=Lib.hid fun W hW => by
  rw [← ex1, ← ey1,e1]
  exact zz9 x.args y.args _ _ W ((hx.args.kept hW).mono hW.size) ((hy.args.kept hW).mono hW.size)
 rw [ex0,ey0,ex1,ey1]
 have h0:(xs0.toList == ys0.toList) = b0:=by (rw [e0,K.zf7]) <;> exact decide_eq_decide.2 Iff.rfl
 have k0:=e0.symm
 have HB:=Lib.hid B0
 have XA:=Lib.hid XA0
 have XB:=Lib.hid XB0
 have y0:=XA.out.cell 0 _ rfl
 have z0:=XB.out.cell 0 _ rfl
 have y1:=XA.out.cell 1 _ rfl
 have z1:=XB.out.cell 1 _ rfl
 clear B0 XA0 XB0 hx hy e0 e1 hxn0 hyn0 ex0 ey0 ex1 ey1
 go_enter Tryz.func137, Tryz.ntmps137
 cases b0 with
 | false =>
   go_wp2_with fail
   all_goals (go_ret; exact ⟨by rw [HS.out]; rfl,HB.out⟩)
 | true =>
 go_wp2_with fail
 refine (C1.out _ HB.out).mono ?_
 rintro e w1 ⟨rfl,hb⟩
 replace HB:=Lib.hid (HB.out.trans (hb.mono HB.out.size))
 clear hb C1 y0 z0 y1 z1
 go_wp2_with fail
 go_ret
 exact ⟨by rw [HS.out]; rfl,HB.out⟩
theorem zh8 (xs ys:List (DirT)) (v1 v2:Value) (w:World) (hx:DirsR w w.heap.size v1 xs) (hy:DirsR w w.heap.size v2 ys):Calls Tryz.prog 74 #[v1,v2] w (BP (allS sDir xs ys) w):=by
 have CALL:=Lib.hid (zS0 sDir xs ys v1 v2 w hx hy (fun W x y f g _ _ _ h1 h2 => zM0 x y f g W h1 h2))
 go_enter Tryz.func74, Tryz.ntmps74
 go_wp2_with fail
 refine CALL.out.mono ?_
 rintro e w1 ⟨rfl,hb⟩
 go_wp2_with fail
 go_ret
 exact ⟨rfl,hb⟩
end Go.Proofs.YtfgelheiknmjgaaGreatDoor

