
/-
 Texts joined: Compare Make Right Node Chk W1 Open Open2 Bulk W2Q.
-/
import Derived.Test.YtfgelheiknmjgaaGreatDoorZs7
import Derived.Test.YtfgelheiknmjgaaGreatDoorZs3
import Derived.Deep.RegionHeld3
import Derived.Test.YtfgelheiknmjgaaGreatDoorZs5
import Derived.ChangeArms
import Derived.Deep.Strs
import Derived.SizedLaws
import Derived.ChangeMaps
import Derived.WideShapes
import Derived.OpenShut
import Derived.Test.YtfgelheiknmjgaaGreatDoorRows
import Derived.Test.YtfgelheiknmjgaaGreatDoorZs6
namespace Go.Proofs.YtfgelheiknmjgaaGreatDoor
open Go.RowKit
theorem zH1:∀ a b:List UInt8,Op.bytesLess a b = decide (Lib.compareBytes a b = -1)
 | [],[] => by simp [Op.bytesLess,Lib.compareBytes]
 | _ :: _,[] => by simp [Op.bytesLess,Lib.compareBytes]
 | [],_ :: _ => by simp [Op.bytesLess,Lib.compareBytes]
 | a :: xs,b :: ys => by
   have ih:=zH1 xs ys
   unfold Op.bytesLess Lib.compareBytes
   simp only [UInt8.lt_iff_toNat_lt]
   by_cases h1:a.toNat < b.toNat
   ·simp [h1]
   ·by_cases h2:b.toNat < a.toNat
    ·simp [h1,h2]; intro e; rw [e] at h2; omega
    ·have e:a = b:=UInt8.toNat_inj.1 (by omega)
     subst e
     simp [ih]
theorem zp7:∀ a b:List UInt8,Lib.compareBytes a b = 0 ↔ a = b
 | [],[] => by simp [Lib.compareBytes]
 | _ :: _,[] => by simp [Lib.compareBytes]
 | [],_ :: _ => by simp [Lib.compareBytes]
 | a :: xs,b :: ys => by
   have ih:=zp7 xs ys
   unfold Lib.compareBytes
   simp only [UInt8.lt_iff_toNat_lt]
   by_cases h1:a.toNat < b.toNat
   ·simp [h1]; intro e; rw [e] at h1; omega
   ·by_cases h2:b.toNat < a.toNat
    ·simp [h1,h2]; intro e; rw [e] at h2; omega
    ·have e:a = b:=UInt8.toNat_inj.1 (by omega)
     subst e
     simp [ih]
theorem zf2 (a b:Int) (w:World):Calls Tryz.prog 215 #[.int .i64 a,.int .i64 b] w fun e w' => e = .returned (.int .i64 (Lib.compareInt a b)) ∧ w = w':=by
 by_cases h1:a < b
 ·go_enter Tryz.func215, Tryz.ntmps215
  go_wp2_with fail
  go_ret
  exact ⟨by simp [Lib.compareInt,h1],rfl⟩
 ·by_cases h2:b < a
  ·go_enter Tryz.func215, Tryz.ntmps215
   go_wp2_with fail
   go_ret
   exact ⟨by simp [Lib.compareInt]; omega,rfl⟩
  ·go_enter Tryz.func215, Tryz.ntmps215
   go_wp2_with fail
   go_ret
   exact ⟨by simp [Lib.compareInt]; omega,rfl⟩
theorem zj2 (a b:ByteArray) (w:World):Calls Tryz.prog 216 #[.string a,.string b] w fun e w' => e = .returned (.int .i64 (cmpB a b)) ∧ w = w':=by
 have e1:Op.bytesLess a.toList b.toList = decide (cmpB a b = -1):=by rw [zH1,Lib.toList_data,Lib.toList_data]; rfl
 have e2:(a.toList == b.toList) = decide (cmpB a b = 0):=by
  rw [Lib.toList_data,Lib.toList_data]
  unfold cmpB
  by_cases h:a.data.toList = b.data.toList
  ·rw [h]; simp [(zp7 _ _).2 rfl]
  ·have:=mt (zp7 _ _).1 h
   rw [beq_eq_false_iff_ne.2 h]; simp [this]
 have hr:cmpB a b = -1 ∨ cmpB a b = 0 ∨ cmpB a b = 1:=zw2 _ _
 rcases hr with h | h | h
 ·rw [h] at e1 e2 ⊢
  have e1':Op.bytesLess a.toList b.toList = true:=by rw [e1]; rfl
  clear e1 e2 h
  go_enter Tryz.func216, Tryz.ntmps216
  go_wp2_with fail
  go_ret
  exact ⟨rfl,rfl⟩
 ·rw [h] at e1 e2 ⊢
  have e1':Op.bytesLess a.toList b.toList = false:=by rw [e1]; rfl
  have e2':(a.toList == b.toList) = true:=by rw [e2]; rfl
  clear e1 e2 h
  go_enter Tryz.func216, Tryz.ntmps216
  go_wp2_with fail
  go_ret
  exact ⟨rfl,rfl⟩
 ·rw [h] at e1 e2 ⊢
  have e1':Op.bytesLess a.toList b.toList = false:=by rw [e1]; rfl
  have e2':(a.toList == b.toList) = false:=by rw [e2]; rfl
  clear e1 e2 h
  go_enter Tryz.func216, Tryz.ntmps216
  go_wp2_with fail
  go_ret
  exact ⟨rfl,rfl⟩
def VT.keys:VT → List ByteArray | .mk _ _ _ _ ks => ks
def VT.items:VT → List VT | .mk _ _ _ is _ => is
theorem zC4 (t:VT) (i:Nat) (w:World) (B:Nat) (v:Value) (h:Rd w B v t) (hB:B ≤ w.heap.size) (hi:i ≤ 140737488351232) :
  Calls Tryz.prog 242 #[v,.int .i64 i] w fun e w' => e = .returned (.string (keyI t.keys i)) ∧ Below w.heap.size w w':=by
 cases h with
 | @mk k n s A li ci K lk ck items keys V hk hn hs hks hli hlk hbi hbk hA hr hK =>
 have HB:Hid (Below w.heap.size w (w.alloc (.cells #[.int .i64 k,.int .i64 n,.string s,.slice A li ci,.slice K lk ck] 53 (0,0)))):=Lib.hid ((Below.refl _ _).alloc (Nat.le_refl _) _)
 by_cases hlt:i < lk
 ·obtain ⟨a,rfl,hab,hc⟩:=hK (by omega)
  have e:keys[i]? = some (keyI keys i):=by unfold keyI; rw [List.getElem?_eq_getElem (by omega)]; rfl
  have hc1:=hc i _ e
  have hc2:(w.alloc (.cells #[.int .i64 k,.int .i64 n,.string s,.slice A li ci,.slice (some a) lk ck] 53 (0,0))).cell? (a.add i) = some (.string (keyI keys i)):=((Below.refl _ _).alloc (Nat.le_refl _) _:Below w.heap.size w _).cell (by rw [za1]; omega) |>.trans hc1
  show Calls _ _ _ _ fun e w' => e = .returned (.string (keyI keys i)) ∧ _
  generalize keyI keys i = y at *
  clear hA hr hK hks hk hn hs hli hlk e hc hc1
  go_enter Tryz.func242, Tryz.ntmps242
  go_wp2_with fail
  go_ret
  exact ⟨rfl,HB.out⟩
 ·have e:keyI keys i = ⟨#[]⟩:=by unfold keyI; rw [List.getElem?_eq_none (by omega)]; rfl
  show Calls _ _ _ _ fun e w' => e = .returned (.string (keyI keys i)) ∧ _
  rw [e]
  clear hA hr hK hks hk hn hs hli hlk e
  go_enter Tryz.func242, Tryz.ntmps242
  go_wp2_with fail
  go_ret
  exact ⟨rfl,HB.out⟩
theorem zn1 (t:VT) (i:Nat) (w:World) (B:Nat) (v:Value) (h:Rd w B v t) (hB:B ≤ w.heap.size) (hi:i ≤ 140737488351232) :
  Calls Tryz.prog 217 #[v,.int .i64 i] w fun e w' => e = .returned (.string (keyI t.keys i)) ∧ Below w.heap.size w w':=by
 cases h with
 | @mk k n s A li ci K lk ck items keys V hk hn hs hks hli hlk hbi hbk hA hr hK =>
 have HB:Hid (Below w.heap.size w (w.alloc (.cells #[.int .i64 k,.int .i64 n,.string s,.slice A li ci,.slice K lk ck] 53 (0,0)))):=Lib.hid ((Below.refl _ _).alloc (Nat.le_refl _) _)
 by_cases hlt:i < lk
 ·obtain ⟨a,rfl,hab,hc⟩:=hK (by omega)
  have e:keys[i]? = some (keyI keys i):=by unfold keyI; rw [List.getElem?_eq_getElem (by omega)]; rfl
  have hc1:=hc i _ e
  have hc2:(w.alloc (.cells #[.int .i64 k,.int .i64 n,.string s,.slice A li ci,.slice (some a) lk ck] 53 (0,0))).cell? (a.add i) = some (.string (keyI keys i)):=((Below.refl _ _).alloc (Nat.le_refl _) _:Below w.heap.size w _).cell (by rw [za1]; omega) |>.trans hc1
  show Calls _ _ _ _ fun e w' => e = .returned (.string (keyI keys i)) ∧ _
  generalize keyI keys i = y at *
  clear hA hr hK hks hk hn hs hli hlk e hc hc1
  go_enter Tryz.func217, Tryz.ntmps217
  go_wp2_with fail
  go_ret
  exact ⟨rfl,HB.out⟩
 ·have e:keyI keys i = ⟨#[]⟩:=by unfold keyI; rw [List.getElem?_eq_none (by omega)]; rfl
  show Calls _ _ _ _ fun e w' => e = .returned (.string (keyI keys i)) ∧ _
  rw [e]
  clear hA hr hK hks hk hn hs hli hlk e
  go_enter Tryz.func217, Tryz.ntmps217
  go_wp2_with fail
  go_ret
  exact ⟨rfl,HB.out⟩
theorem Rd.shape {w:World} {B:Nat} {v:Value} {t:VT} (h:Rd w B v t):∃ (k n:Int) (s:ByteArray) (A:Option Addr) (li ci:Nat) (K:Option Addr) (lk ck:Nat),v = .agg #[.int .i64 k,.int .i64 n,.string s,.slice A li ci,.slice K lk ck]:=by
 cases h with
 | mk V hk hn hs hks hli hlk hbi hbk hA hr hK => exact ⟨_,_,_,_,_,_,_,_,_,rfl⟩
theorem or_any (b:Nat) (x y:Int) (w:World) (h0:w.cell? ⟨b,0,none⟩ = some (.int .i64 x)) (h1:w.cell? ⟨b,1,none⟩ = some (.int .i64 y)) :
  Calls Tryz.prog 221 #[.slice (some ⟨b,0,none⟩) 2 2] w fun e w' => e = .returned (.int .i64 (orE x y)) ∧ w = w':=by
 go_enter Tryz.func221, Tryz.ntmps221
 go_wp2_with fail
 go_loop [8] (fun i => (i = .int .i64 0) ∨ (i = .int .i64 1 ∧ x = 0) ∨ (i = .int .i64 2 ∧ x = 0 ∧ y = 0)) (fun i => 2 - (intOf i).toNat)
 case atStart => exact .inl rfl
 case round =>
  rcases hrel with rfl | ⟨rfl,hx⟩ | ⟨rfl,hx,hy⟩
  ·by_cases hx:x = 0
   ·have hx':(x != 0) = false:=by rw [hx]; rfl
    have HX:=Lib.hid hx
    clear hx
    go_wp2_with fail
    go_round
    case rel => exact .inr (.inl ⟨rfl,HX.out⟩)
    case measure => simp [intOf]
   ·have hx':(x != 0) = true:=by simp [hx]
    have HX:=Lib.hid hx
    clear hx
    go_wp2_with fail
    go_ret
    exact ⟨by unfold orE; rw [if_neg HX.out]; rfl,rfl⟩
  ·have HX:=Lib.hid hx
   by_cases hy:y = 0
   ·have hy':(y != 0) = false:=by rw [hy]; rfl
    have HY:=Lib.hid hy
    clear hx hy
    go_wp2_with fail
    go_round
    case rel => exact .inr (.inr ⟨rfl,HX.out,HY.out⟩)
    case measure => simp [intOf]
   ·have hy':(y != 0) = true:=by simp [hy]
    clear hx hy
    go_wp2_with fail
    go_ret
    exact ⟨by unfold orE; rw [if_pos HX.out]; rfl,rfl⟩
  ·have HX:=Lib.hid hx
   have HY:=Lib.hid hy
   clear hx hy
   go_wp2_with fail
   go_ret
   exact ⟨by unfold orE; rw [if_pos HX.out,HY.out]; rfl,rfl⟩
def CmpAt (f:FuncId) (t:VT):Prop:=∀ (t':VT) (w:World) (B:Nat) (v v':Value),Rd w B v t → Rd w B v' t' → B ≤ w.heap.size →
  Calls Tryz.prog f #[v,v'] w fun e w' => e = .returned (.int .i64 (t.cmp t')) ∧ Below w.heap.size w w'
set_option maxHeartbeats 1000000 in
theorem zD2 (t t':VT) (ih:∀ (i:Nat) (u:VT),t.items[i]? = some u → CmpAt 185 u) (i:Nat) (w:World) (B:Nat) (v v':Value) (h:Rd w B v t) (h':Rd w B v' t') (hB:B ≤ w.heap.size) :
  Calls Tryz.prog 223 #[v,v',.int .i64 i] w fun e w' => e = .returned (.int .i64 (zd7 t.items t.keys t'.items t'.keys i)) ∧ Below w.heap.size w w':=by
 have HRD:=Lib.hid h
 have HRD':=Lib.hid h'
 have IH:=Lib.hid ih
 clear ih
 cases h with
 | @mk k n s A li ci K lk ck items keys V hk hn hs hks hli hlk hbi hbk hA hr hK =>
 cases h' with
 | @mk k' n' s' A' li' ci' K' lk' ck' items' keys' V' hk' hn' hs' hks' hli' hlk' hbi' hbk' hA' hr' hK' =>
 have HA:=Lib.hid hA
 have HR:=Lib.hid hr
 have HL:=Lib.hid hli
 have HA':=Lib.hid hA'
 have HR':=Lib.hid hr'
 have HL':=Lib.hid hli'
 show Calls _ _ _ _ fun e w' => e = .returned (.int .i64 (zd7 items keys items' keys' i)) ∧ _
 clear hA hr hA' hr' hli hli' hK hK' hks hks' hk hk' hn hn' hs hs' hlk hlk' hbk hbk'
 by_cases h1:i < li
 ·by_cases h2:i < li'
  ·obtain ⟨a,t,k1,n1,s1,A1,li1,ci1,K1,lk1,ck1,rfl,ht,e,hrd,h0,h1',h2',h3,h4⟩:=ze5 HA.out HR.out HL.out (Below.refl _ _) h1
   obtain ⟨a',t',k1',n1',s1',A1',li1',ci1',K1',lk1',ck1',rfl,ht',e',hrd',h0',h1'',h2'',h3',h4'⟩:=ze5 HA'.out HR'.out HL'.out (Below.refl _ _) h2
   have HC:Hid (C5 w (a.add (i * 5)) (V i)):=Lib.hid ⟨_,_,_,_,_,e,h0,h1',h2',h3,h4⟩
   have HC':Hid (C5 w (a'.add (i * 5)) (V' i)):=Lib.hid ⟨_,_,_,_,_,e',h0',h1'',h2'',h3',h4'⟩
   have hab:(a.add (i * 5)).block < B:=by obtain ⟨_,e,h,_⟩:=HA.out (by omega); cases e; rw [za1]; exact h
   have hab':(a'.add (i * 5)).block < B:=by obtain ⟨_,e,h,_⟩:=HA'.out (by omega); cases e; rw [za1]; exact h
   have HE:Hid (zd7 items keys items' keys' i = orE (cmpB (keyI keys i) (keyI keys' i)) (t.cmp t')):=Lib.hid (by unfold zd7; rw [ht,ht'])
   have IHt:=IH.out i t ht t'
   have IHH:=Lib.hid IHt
   have E:=Lib.hid e
   have E':=Lib.hid e'
   have HT:=Lib.hid hrd
   have HT':=Lib.hid hrd'
   clear e e' hrd hrd' h0 h1' h2' h3 h4 h0' h1'' h2'' h3' h4' ht ht' IHt IH
   go_enter Tryz.func223, Tryz.ntmps223
   go_wp2_with fail
   refine za5 (fun W => Box W w.heap.size (.int .i64 k) (.int .i64 n) (.string s) (.slice (some a) li ci) (.slice K lk ck) ∧ Box W (w.heap.size + 1) (.int .i64 k') (.int .i64 n') (.string s') (.slice (some a') li' ci') (.slice K' lk' ck') ∧ Below w.heap.size w W) (Box.two w _ _ _ _ _ _ _ _ _ _) (by kernel_rfl) ?_
   intro W ⟨f1,f2,f3⟩ _
   obtain ⟨p0,p1,p2,p3,p4⟩:=f1.past
   obtain ⟨q0,q1,q2,q3,q4⟩:=f2.past
   have F1:=Lib.hid f1
   have F2:=Lib.hid f2
   have F3:=Lib.hid f3
   clear f1 f2 f3
   have C1:Hid (∀ x:Past W,Calls Tryz.prog 242 #[.agg #[.int .i64 k,.int .i64 n,.string s,.slice (some a) li ci,.slice K lk ck],.int .i64 i] x.w fun e w'' => e = .returned (.string (keyI keys i)) ∧ ∃ y:Past W,w'' = y.w) :=
    Lib.hid fun x => zd2 x (zC4 _ i _ W.heap.size _ (((HRD.out.mono hB).kept F3.out).kept (x.b.mono F3.out.size) |>.mono F3.out.size) x.le (by omega))
   have C2:Hid (∀ x:Past W,Calls Tryz.prog 242 #[.agg #[.int .i64 k',.int .i64 n',.string s',.slice (some a') li' ci',.slice K' lk' ck'],.int .i64 i] x.w fun e w'' => e = .returned (.string (keyI keys' i)) ∧ ∃ y:Past W,w'' = y.w) :=
    Lib.hid fun x => zd2 x (zC4 _ i _ W.heap.size _ (((HRD'.out.mono hB).kept F3.out).kept (x.b.mono F3.out.size) |>.mono F3.out.size) x.le (by omega))
   generalize keyI keys i = y at *
   generalize keyI keys' i = y' at *
   have C3:Hid (∀ x:Past W,Calls Tryz.prog 222 #[.string y,.string y'] x.w fun e w'' => e = .returned (.int .i64 (cmpB y y')) ∧ ∃ y:Past W,w'' = y.w) :=
    Lib.hid fun x => zp1 x ((Tryz.strings_Compare y y' x.w).mono fun _ _ ⟨h1,h2⟩ => ⟨h1,h2.symm⟩)
   repeat (go_big_quiet_step (first | with_reducible exact C1.out _ | with_reducible exact C2.out _ | with_reducible exact C3.out _))
   refine wpQuiet_nil ?_
   intro _ hw'
   obtain ⟨x,rfl⟩:=hw'
   have HBx:=Lib.hid (F3.out.trans (x.b.mono F3.out.size))
   by_cases hc:cmpB y y' = 0
   ·have hc':(cmpB y y' != 0) = false:=by rw [hc]; rfl
    have HE2:Hid (zd7 items keys items' keys' i = t.cmp t'):=Lib.hid (by rw [HE.out]; unfold orE; rw [if_pos hc])
    have HX1:=Lib.hid (F1.out.kept x.b)
    have HX2:=Lib.hid (F2.out.kept x.b)
    clear hc p0 p1 p2 p3 p4 q0 q1 q2 q3 q4
    generalize x.w = wx at *
    go_wp2_with fail
    refine za5 (fun W => Box W w.heap.size (.int .i64 k) (.int .i64 n) (.string s) (.slice (some a) li ci) (.slice K lk ck) ∧ Box W (w.heap.size + 1) (.int .i64 k') (.int .i64 n') (.string s') (.slice (some a') li' ci') (.slice K' lk' ck') ∧ Below w.heap.size w W) ⟨HX1.out,HX2.out,HBx.out⟩ (by kernel_rfl) ?_
    intro W2 ⟨f1,f2,f3⟩ _
    obtain ⟨p0,p1,p2,p3,p4⟩:=f1.past
    obtain ⟨q0,q1,q2,q3,q4⟩:=f2.past
    obtain ⟨r0,r1,r2,r3,r4⟩:=(HC.out.kept (by omega) f3).past E.out (Nat.lt_of_lt_of_le (Nat.lt_of_lt_of_le hab hB) f3.size)
    obtain ⟨u0,u1,u2,u3,u4⟩:=(HC'.out.kept (by omega) f3).past E'.out (Nat.lt_of_lt_of_le (Nat.lt_of_lt_of_le hab' hB) f3.size)
    have G3:=Lib.hid f3
    clear f1 f2 f3
    have C4:Hid (∀ x:Past W2,Calls Tryz.prog 185 #[.agg #[.int .i64 k1,.int .i64 n1,.string s1,.slice A1 li1 ci1,.slice K1 lk1 ck1],.agg #[.int .i64 k1',.int .i64 n1',.string s1',.slice A1' li1' ci1',.slice K1' lk1' ck1']] x.w fun e w'' => e = .returned (.int .i64 (t.cmp t')) ∧ ∃ y:Past W2,w'' = y.w) :=
     Lib.hid fun x => zd2 x (by
      have g:=G3.out.trans (x.b.mono G3.out.size)
      have:=IHH.out x.w B (V i) (V' i) (HT.out.kept (g.mono hB)) (HT'.out.kept (g.mono hB)) (Nat.le_trans hB g.size)
      rwa [E.out,E'.out] at this)
    have hi0:(0:Int) ≤ (i:Int):=by omega
    have hi1:(i:Int) < (li:Int):=by omega
    have hi2:(i:Int) < (li':Int):=by omega
    repeat (go_big_quiet_step (with_reducible exact C4.out _))
    refine wpQuiet_nil ?_
    intro _ hw'
    obtain ⟨x,rfl⟩:=hw'
    go_wp2_with fail
    go_ret
    exact ⟨by rw [HE2.out]; rfl,G3.out.trans (x.b.mono G3.out.size)⟩
   ·have hc':(cmpB y y' != 0) = true:=by simp [hc]
    have HE2:Hid (zd7 items keys items' keys' i = cmpB y y'):=Lib.hid (by rw [HE.out]; unfold orE; rw [if_neg hc])
    clear hc
    go_wp2_with fail
    go_ret
    exact ⟨by rw [HE2.out]; rfl,HBx.out⟩
  ·have HE:Hid (zd7 items keys items' keys' i = 1):=Lib.hid (by
    unfold zd7
    rw [List.getElem?_eq_getElem (by have:=HL.out; omega),List.getElem?_eq_none (by have:=HL'.out; omega)])
   go_enter Tryz.func223, Tryz.ntmps223
   go_wp2_with fail
   go_ret
   exact ⟨by rw [HE.out]; rfl,((Below.refl _ _).alloc (Nat.le_refl _) _).alloc (by simp) _⟩
 ·have HE:Hid (zd7 items keys items' keys' i = -1):=Lib.hid (by
   unfold zd7
   rw [List.getElem?_eq_none (by have:=HL.out; omega)])
  go_enter Tryz.func223, Tryz.ntmps223
  go_wp2_with fail
  go_ret
  exact ⟨by rw [HE.out]; rfl,((Below.refl _ _).alloc (Nat.le_refl _) _).alloc (by simp) _⟩
set_option maxHeartbeats 2000000 in
theorem zF1 (t:VT):CmpAt 185 t:=by
 induction t using VT.ind with
 | h k n s items keys ih =>
 intro t' w B v v' h h' hB
 have HRD:=Lib.hid h
 have HRD':=Lib.hid h'
 have IH:=Lib.hid ih
 clear ih
 cases h with
 | @mk _ _ _ A li ci K lk ck _ _ V hk hn hs hks hli hlk hbi hbk hA hr hK =>
 cases h' with
 | @mk k' n' s' A' li' ci' K' lk' ck' items' keys' V' hk' hn' hs' hks' hli' hlk' hbi' hbk' hA' hr' hK' =>
 have HL:=Lib.hid hli
 have HL':=Lib.hid hli'
 clear hA hr hA' hr' hli hli' hK hK' hks hks' hk hk' hn hn' hs hs' hlk hlk' hbk hbk'
 obtain ⟨f1,f2,f3⟩:=Box.two w (.int .i64 k) (.int .i64 n) (.string s) (.slice A li ci) (.slice K lk ck) (.int .i64 k') (.int .i64 n') (.string s') (.slice A' li' ci') (.slice K' lk' ck')
 have F1:=Lib.hid f1
 have F2:=Lib.hid f2
 have F3:=Lib.hid f3
 clear f1 f2 f3
 by_cases hkk:k = k'
 ·subst hkk
  have e0:Lib.compareInt k k = 0:=by unfold Lib.compareInt; rw [if_neg (by omega),if_neg (by omega)]
  have E0:=Lib.hid e0
  clear e0
  go_enter Tryz.func185, Tryz.ntmps185
  go_wp2_with fail
  go_step3
  go_wp2_with fail
  refine (Tryz.cmp_Compare_int _ _ _).mono ?_
  rintro e w' ⟨rfl,rfl⟩
  rw [E0.out]
  go_wp2_with fail
  go_step3
  go_wp2_with fail
  go_region_held3 (fun w' => w'.cell? ⟨w.heap.size,1,none⟩ = some (.int .i64 n) ∧ w'.cell? ⟨w.heap.size,2,none⟩ = some (.string s) ∧ w'.cell? ⟨w.heap.size + 1,1,none⟩ = some (.int .i64 n') ∧ w'.cell? ⟨w.heap.size + 1,2,none⟩ = some (.string s'))
   (go_keep)
   (first
     | (go_at_call 220; refine (Tryz.cmp_Compare_int _ _ _).mono ?_; rintro e w' ⟨rfl,rfl⟩)
     | (go_at_call 222; refine (Tryz.strings_Compare _ _ _).mono ?_; rintro e w' ⟨rfl,rfl⟩)
     | (go_at_call 221; refine (or_any _ (Lib.compareInt n n') (Lib.compareBytes s.data.toList s'.data.toList) _ (by simp [go_sem]) (by simp [go_sem])).mono ?_; rintro e w' ⟨rfl,rfl⟩))
  generalize hcc:orE (Lib.compareInt n n') (Lib.compareBytes s.data.toList s'.data.toList) = c at *
  have HCC:=Lib.hid hcc
  clear hcc
  by_cases hc:c = 0
  ·subst hc
   have HE:Hid ((VT.mk k n s items keys).cmp (VT.mk k n' s' items' keys') = zb7 items keys items' keys' 0):=Lib.hid (by
    unfold VT.cmp cmpB; rw [E0.out,HCC.out]; unfold orE; rw [if_pos rfl,if_pos rfl]; rfl)
   have hlm:(li:Int) ≤ 140737488351232:=by omega
   have hlm':(li':Int) ≤ 140737488351232:=by omega
   go_wp2_with fail
   go_loopw [5,39] (fun o i wr => ∃ j:Nat,j ≤ max li li' ∧ i = .int .i64 j ∧ o = .int .i64 0 ∧ zb7 items keys items' keys' 0 = zb7 items keys items' keys' j ∧ Below w.heap.size w wr ∧
    Box wr w.heap.size (.int .i64 k) (.int .i64 n) (.string s) (.slice A li ci) (.slice K lk ck) ∧ Box wr (w.heap.size + 1) (.int .i64 k) (.int .i64 n') (.string s') (.slice A' li' ci') (.slice K' lk' ck')) (fun _ i _ => max li li' - (intOf i).toNat)
   case atStart => exact ⟨0,Nat.zero_le _,rfl,rfl,rfl,(F3.out.drew).alloc (by simp; omega) _,(F1.out.kept (Below.refl _ _).drew).alloc _,(F2.out.kept (Below.refl _ _).drew).alloc _⟩
   case round =>
    obtain ⟨j,hj,rfl,rfl,hcm,hb,hx1,hx2⟩:=hrel
    have HCM:=Lib.hid hcm
    have HB:=Lib.hid hb
    have hl1:=hx1.lt
    have hl2:=hx2.lt
    have HX1:=Lib.hid hx1
    have HX2:=Lib.hid hx2
    obtain ⟨p0,p1,p2,p3,p4⟩:=hx1.cells
    obtain ⟨q0,q1,q2,q3,q4⟩:=hx2.cells
    clear hcm hb hx1 hx2
    by_cases hlt:j < max li li'
    ·have hlt':(j:Int) < max (li:Int) (li':Int):=by omega
     have HST:=Lib.hid (zj6 (is:=items) (ks:=keys) (is':=items') (ks':=keys') (j:=j) (by have:=HL.out; have:=HL'.out; omega))
     have HEL:Hid (Calls Tryz.prog 223 #[.agg #[.int .i64 k,.int .i64 n,.string s,.slice A li ci,.slice K lk ck],.agg #[.int .i64 k,.int .i64 n',.string s',.slice A' li' ci',.slice K' lk' ck'],.int .i64 j] wr fun e w' => e = .returned (.int .i64 (zd7 items keys items' keys' j)) ∧ Below wr.heap.size wr w') :=
      Lib.hid (zD2 (.mk k n s items keys) (.mk k n' s' items' keys') IH.out j wr B _ _ (HRD.out.kept (HB.out.mono hB)) (HRD'.out.kept (HB.out.mono hB)) (by have:=HB.out.size; omega))
     generalize zd7 items keys items' keys' j = d at *
     go_wp2_with fail
     refine HEL.out.mono ?_
     rintro e w1 ⟨rfl,hb1⟩
     have HB1:=Lib.hid (HB.out.trans (hb1.mono HB.out.size))
     have HX1':=Lib.hid (HX1.out.kept hb1)
     have HX2':=Lib.hid (HX2.out.kept hb1)
     clear hb1 p0 p1 p2 p3 p4 q0 q1 q2 q3 q4
     by_cases hd:d = 0
     ·subst hd
      have HCM1:=Lib.hid (HCM.out.trans (by rw [HST.out]; rfl):zb7 items keys items' keys' 0 = zb7 items keys items' keys' (j + 1))
      go_wp2_with fail
      go_roundw
      case rel => exact ⟨j + 1,by omega,by go_num,rfl,HCM1.out,HB1.out,HX1'.out,HX2'.out⟩
      case measure => simp [intOf]; omega
     ·have hd':(d != 0) = true:=by simp [hd]
      have HD:Hid (zb7 items keys items' keys' 0 = d):=Lib.hid (by rw [HCM.out,HST.out]; unfold orE; rw [if_neg hd])
      clear hd
      go_wp2_with fail
      try rw [Exit.noGoto_ret]
      go_ret
      exact ⟨by rw [HE.out,HD.out]; rfl,HB1.out⟩
    ·have hlt':¬ (j:Int) < max (li:Int) (li':Int):=by omega
     have HJ:Hid (zb7 items keys items' keys' 0 = 0):=Lib.hid (by rw [HCM.out]; exact zu3 (by have:=HL.out; omega) (by have:=HL'.out; omega))
     go_wp2_with fail
     try rw [Exit.noGoto_ret]
     go_ret
     exact ⟨by rw [HE.out,HJ.out]; rfl,HB.out⟩
  ·have hc':(c != 0) = true:=by simp [hc]
   have HE:Hid ((VT.mk k n s items keys).cmp (VT.mk k n' s' items' keys') = c):=Lib.hid (by
    unfold VT.cmp cmpB; rw [E0.out,HCC.out]; unfold orE; rw [if_pos rfl,if_neg hc])
   clear hc
   go_wp2_with fail
   try rw [Exit.noGoto_ret]
   go_ret
   exact ⟨by rw [HE.out]; rfl,(F3.out.drew).alloc (by simp; omega) _⟩
 ·have e0:Lib.compareInt k k' ≠ 0:=by (unfold Lib.compareInt; split) <;> first | omega | (split <;> omega)
  have e1:(k == k') = false:=beq_eq_false_iff_ne.2 hkk
  have E0:Hid ((VT.mk k n s items keys).cmp (VT.mk k' n' s' items' keys') = Lib.compareInt k k'):=Lib.hid (by unfold VT.cmp orE; rw [if_neg e0])
  clear e0 hkk
  go_enter Tryz.func185, Tryz.ntmps185
  go_wp2_with fail
  go_step3
  go_wp2_with fail
  refine (Tryz.cmp_Compare_int _ _ _).mono ?_
  rintro e w' ⟨rfl,rfl⟩
  go_wp2_with fail
  go_step3
  go_wp2_with fail
  try rw [Exit.noGoto_ret]
  go_ret
  exact ⟨by rw [E0.out]; rfl,F3.out⟩
end Go.Proofs.YtfgelheiknmjgaaGreatDoor
namespace Go.Proofs.YtfgelheiknmjgaaGreatDoor
open Go.RowKit
def leafV (k n:Int) (s:ByteArray):Value:=.agg #[.int .i64 k,.int .i64 n,.string s,.slice none 0 0,.slice none 0 0]
def leafT (k n:Int) (s:ByteArray):VT:=.mk k n s [] []
theorem Rd.leaf {w:World} {B:Nat} {k n:Int} {s:ByteArray} (hk:small k) (hn:small n) (hs:s.size ≤ 140737488351232):Rd w B (leafV k n s) (leafT k n s) :=
 .mk (fun _ => undef) hk hn hs (by simp) rfl rfl (by decide) (by decide) (fun h => by omega) (fun i t hi => by simp at hi) (fun h => by simp at h)
theorem zN1 (s:ByteArray) (w:World):Calls Tryz.prog 31 #[.string s] w fun e w' => e = .returned (.agg #[.int .i64 3,.int .i64 0,.string s,.slice none 0 0,.slice none 0 0]) ∧ Below w.heap.size w w':=by
 go_enter Tryz.func31, Tryz.ntmps31
 go_wp2_with fail
 exact bodyPost_ret (v:=.agg #[.int .i64 3,.int .i64 0,.string s,.slice none 0 0,.slice none 0 0]) (by simp [results,Tryz.results31,go_sem]) rfl ⟨rfl,(Below.refl _ _).alloc (Nat.le_refl _) _⟩
def yesI (y:Bool):Int:=if y then 1 else 0
end Go.Proofs.YtfgelheiknmjgaaGreatDoor
namespace Go.Proofs.YtfgelheiknmjgaaGreatDoor
open Go.RowKit
def nmA (s:ByteArray):Bool:=nameL s.data.toList
def enumB (s:ByteArray):Bool:=!decide (s = ⟨#[116,114,117,101]⟩) && !decide (s = ⟨#[102,97,108,115,101]⟩) && !decide (s = ⟨#[110,117,108,108]⟩) && nmA s
def keysB (lit:Bool) (ks:List ByteArray):Bool:=(!lit || ks.all nmA) && decide ks.Nodup
def leafB (is:List VT) (ks:List ByteArray):Bool:=decide (is.length = 0) && decide (ks.length = 0)
def nodeB (lit:Bool):VT → Bool
 | .mk k n s is ks =>
   if k = 0 then decide (n = 0) && decide (s.size = 0) && leafB is ks
   else if k = 1 then (decide (n = 0) || decide (n = 1)) && decide (s.size = 0) && leafB is ks
   else if k = 2 then decide (s.size = 0) && leafB is ks
   else if k = 3 then decide (n = 0) && leafB is ks
   else if k = 4 then decide (n = 0) && enumB s && leafB is ks
   else if k = 5 then decide (n = 0) && decide (s.size = 0) && decide (ks.length = 0)
   else if k = 6 then decide (n = 0) && decide (s.size = 0) && decide (ks.length = is.length) && keysB lit ks
   else if k = 7 then lit && decide (n = 0) && nmA s && leafB is ks
   else false
theorem zo0 (s:ByteArray) (l:List UInt8):(s.toList == l) = decide (s = ⟨l.toArray⟩):=by
 rw [Lib.toList_data,Bool.eq_iff_iff]
 obtain ⟨d⟩:=s
 simp only [beq_iff_eq,decide_eq_true_eq,ByteArray.mk.injEq]
 constructor
 ·rintro rfl; simp
 ·rintro rfl; simp
def Chk (w:World) (c:Nat) (lit:Bool) (r:Int):Prop:=w.heap[c]? = some (.cells #[.bool lit,.int .i64 r] 207 (0,0))
end Go.Proofs.YtfgelheiknmjgaaGreatDoor
namespace Go.Proofs.YtfgelheiknmjgaaGreatDoor
open Go.RowKit
theorem zq3 {s:ByteArray} (h:s.size = 0):(s.toList.isEmpty = true) ∧ s.toList = [] ∧ (s.toList == []) = true:=by rw [nil_of h]; exact ⟨rfl,rfl,rfl⟩
theorem zv2 {s:ByteArray} (h:¬ s.size = 0):(s.toList.isEmpty = false) ∧ s.toList ≠ [] ∧ (s.toList == []) = false:=by
 have h1:=zK5 (s:=s) (by omega)
 exact ⟨h1,zu0 (by omega),beq_eq_false_iff_ne.2 (zu0 (by omega))⟩
end Go.Proofs.YtfgelheiknmjgaaGreatDoor
namespace Go.Proofs.YtfgelheiknmjgaaGreatDoor
open Go.RowKit
mutual
def zb4 (lit:Bool):VT → Bool
 | .mk k n s is ks => nodeB lit (.mk k n s is ks) && zg4 lit is
def zg4 (lit:Bool):List VT → Bool
 | [] => true
 | t :: u => zb4 lit t && zg4 lit u
end
def zc0 (lit:Bool) (t:VT):Bool:=decide (t.size ≤ 4096) && decide (t.depth ≤ 24) && zb4 lit t
end Go.Proofs.YtfgelheiknmjgaaGreatDoor
namespace Go.Proofs.YtfgelheiknmjgaaGreatDoor
open Go.RowKit
mutual
def VT.bw:VT → Nat
 | .mk _ _ s items keys => 1 + s.size + (keys.map (fun k => 1 + k.size)).sum + VT.bws items
def VT.bws:List VT → Nat
 | [] => 0
 | t :: r => VT.bw t + VT.bws r
end
def ksum (keys:List ByteArray):Nat:=(keys.map (fun k => 1 + k.size)).sum
theorem bw_eq (k n:Int) (s:ByteArray) (items:List VT) (keys:List ByteArray):(VT.mk k n s items keys).bw = 1 + s.size + ksum keys + VT.bws items:=by rw [VT.bw]; rfl
theorem zM3 (t:VT):t.size ≤ t.bw:=by
 induction t using VT.ind with
 | h k n s items keys ih =>
   rw [bw_eq]
   have hs:∀ (l:List VT),(∀ (i:Nat) (t:VT),l[i]? = some t → t.size ≤ t.bw) → VT.sizes l ≤ VT.bws l:=by
    intro l
    induction l with
    | nil => intro _; rw [VT.bws]; simp [VT.sizes]
    | cons t r ihr =>
      intro hm
      rw [VT.bws]
      have h1:=hm 0 t rfl
      have h2:=ihr (fun i t h => hm (i + 1) t h)
      simp [VT.sizes]; omega
   have h2:=hs items ih
   simp [VT.size]; omega
theorem bws_at {items:List VT} {j:Nat} {t:VT} (h:items[j]? = some t):t.bw ≤ VT.bws items:=by
 induction items generalizing j with
 | nil => simp at h
 | cons a r ih =>
   rw [VT.bws]
   cases j with
   | zero => simp at h; subst h; omega
   | succ j => have:=ih (j:=j) (by simpa using h); omega
end Go.Proofs.YtfgelheiknmjgaaGreatDoor
namespace Go.Proofs.YtfgelheiknmjgaaGreatDoor
open Go.RowKit Go.ChangeShapes Go.WideShapes
theorem cellsV : Tryz.prog.cellsOf 53 = 5:=by kernel_rfl
theorem cellsS : Tryz.prog.cellsOf 9 = 1:=by kernel_rfl
theorem bytesV : Tryz.prog.bytesOf 53 = 80:=by kernel_rfl
theorem bytesS : Tryz.prog.bytesOf 9 = 16:=by kernel_rfl
theorem cellsI : Tryz.prog.cellsOf 3 = 1:=by kernel_rfl
theorem cellsLV : Tryz.prog.cellsOf 51 = 1:=by kernel_rfl
theorem cellsLS : Tryz.prog.cellsOf 33 = 1:=by kernel_rfl
section
variable {H:Type} {enc:TypeId × Value → H} {w:World} {spare:Nat → Bool} {held:Bool}
theorem zE8 {a:Addr} {v:Value} (h:w.cell? a = some v):a.block < w.heap.size:=by
 unfold World.cell? at h
 rcases Nat.lt_or_ge a.block w.heap.size with h' | h'
 ·exact h'
 ·rw [Array.getElem?_eq_none h'] at h; simp at h
theorem zj1 {e:TypeId}:∀ {l:List (DataW H)} {d:DataW H},d ∈ l → ∀ n ∈ d.weights Tryz.prog e,n ∈ DataW.weightsAll Tryz.prog e l
 | [],_,h,_,_ => by simp at h
 | x :: r,d,h,n,hn => by
   rw [DataW.weightsAll,List.mem_append]
   rcases List.mem_cons.1 h with rfl | h
   ·exact .inl hn
   ·exact .inr (zj1 h n hn)
theorem zs4 {n:Int} (wf:(Lit.int .i64 n).wf = true):small n:=by
 exact bounds_i64 wf
end
end Go.Proofs.YtfgelheiknmjgaaGreatDoor
namespace Go.Proofs.YtfgelheiknmjgaaGreatDoor
open Go.RowKit Go.ChangeShapes Go.WideShapes
section
variable {H:Type} {enc:TypeId × Value → H} {W:World} {spare:Nat → Bool} {held:Bool}
end
end Go.Proofs.YtfgelheiknmjgaaGreatDoor
namespace Go.Proofs.YtfgelheiknmjgaaGreatDoor
open Go.RowKit Go.ChangeShapes Go.WideShapes
section
variable {H:Type} {enc:TypeId × Value → H} {w:World} {spare:Nat → Bool} {held:Bool}
theorem zD8 (Sx:Nat → ByteArray):∀ (l:List Nat),Rows.uptoBulkAll (l.map fun i => (.lit (.string (Sx i).data.toList):DataW H)) = ksum (l.map Sx)
 | [] => rfl
 | i :: r => by
   have h:=zD8 Sx r
   simp only [List.map_cons,Rows.uptoBulkAll,Rows.uptoBulk,h,ksum,List.sum_cons,T1.zb8]
   omega
theorem zT6:∀ (ds:List (DataW H)) (f:Nat → VT),(∀ i d,ds[i]? = some d → (f i).bw ≤ Rows.uptoBulk d) → VT.bws ((List.range ds.length).map f) ≤ Rows.uptoBulkAll ds
 | [],_,_ => by simp [VT.bws]
 | d :: r,f,h => by
   have h0:=h 0 d rfl
   have h1:=zT6 r (fun i => f (i + 1)) (fun i d hd => h (i + 1) d hd)
   rw [List.length_cons,List.range_succ_eq_map,List.map_cons,List.map_map,VT.bws,Rows.uptoBulkAll]
   have e:(f ∘ Nat.succ) = fun i => f (i + 1):=rfl
   rw [e]
   omega
set_option maxRecDepth 100000 in
theorem zE6 {fuel:Nat} {cs:List Value} {x:DataW H × List MemPlace} (h:DataW.trod enc Tryz.prog w 0 spare held fuel 33 cs = some x) (hw:∀ n ∈ x.1.weights Tryz.prog 33,n ≤ reachBytes) :
  ∃ (K:Option Addr) (lk ck:Nat) (keys:List ByteArray),cs = [.slice K lk ck] ∧ keys.length = lk ∧ (lk * 16 ≤ 140737488351232 ∧ lk ≤ ck) ∧ (∀ s ∈ keys,s.size ≤ 140737488351232) ∧ KeysAt w w.heap.size K keys ∧ ksum keys + 1 ≤ Rows.uptoBulk x.1:=by
 rcases Go.Deep.open_strs Tryz.underlying33 Tryz.underlying9 cellsS h with ⟨rfl,rfl⟩ | ⟨a,len,cap,m,Sx,rfl,_,hl,hm,hmm,rfl,hx⟩
 ·exact ⟨none,0,0,[],rfl,rfl,⟨by decide,Nat.le_refl _⟩,by simp,fun h => by simp at h,by simp [ksum,Rows.uptoBulk]⟩
 ·have hml:len ≤ m:=by rw [hmm]; split <;> omega
  have hw0:∀ n ∈ (m * 16) :: (DataW.weightsAll Tryz.prog 9 ((List.range len).map fun i => (.lit (.string (Sx i).data.toList):DataW H))),n ≤ reachBytes:=by
   intro n hn
   refine hw n ?_
   simp only [DataW.weights,Tryz.underlying33,bytesS,List.length_map,List.length_range]
   rcases List.mem_cons.1 hn with rfl | hn
   ·rw [show len + (m - len) = m by omega]; simp
   ·simp [hn]
  have h1:=hw0 _ (List.mem_cons_self ..)
  unfold reachBytes at h1
  refine ⟨some a,len,cap,(List.range len).map Sx,rfl,by simp,by omega, ?_,fun h0 => ⟨a,rfl, ?_, ?_⟩,by simp only [Rows.uptoBulk]; rw [zD8]; omega⟩
  ·intro s hs
   obtain ⟨i,hi,rfl⟩:=List.mem_map.1 hs
   have h2:=hw0 (Sx i).data.toList.length (List.mem_cons_of_mem _ (zj1 (d:=.lit (.string (Sx i).data.toList)) (List.mem_map.2 ⟨i,hi,rfl⟩) _ (by simp [DataW.weights])))
   unfold reachBytes at h2
   rw [zb8] at h2; exact h2
  ·have h2:0 < len:=by simpa using h0
   have:=zE8 (hx 0 (by omega)).1
   rwa [za1] at this
  ·intro i s hi
   have h2:i < len:=by simpa using (List.getElem?_eq_some_iff.1 hi).1
   rw [(hx i (by omega)).1]
   simp [h2] at hi
   rw [hi]
set_option maxRecDepth 100000 in
theorem zt8:∀ (fuel:Nat) {cs:List Value} {x:DataW H × List MemPlace},DataW.trod enc Tryz.prog w 0 spare held fuel 53 cs = some x → (∀ n ∈ x.1.weights Tryz.prog 53,n ≤ reachBytes) →
  ∃ c0 c1 c2 c3 c4 t,cs = [c0,c1,c2,c3,c4] ∧ Rd w w.heap.size (.agg #[c0,c1,c2,c3,c4]) t ∧ t.bw ≤ Rows.uptoBulk x.1:=by
 intro fuel
 induction fuel using Nat.strongRecOn with
 | ind fuel ih =>
 intro cs x h hw
 obtain ⟨xs,n,rfl,rfl,hl,hxl,hf⟩:=DataW.trod_struct Tryz.underlying53 h
 rw [cellsV] at hl
 match cs,hl,xs,hxl with
 | [c0,c1,c2,c3,c4],_,[x0,x1,x2,x3,x4],_ =>
 have f0:DataW.trod enc Tryz.prog w 0 spare held n 3 [c0] = some x0:=by
  have this:DataW.trod enc Tryz.prog w 0 spare held n 3 (([c0,c1,c2,c3,c4].drop 0).take (Tryz.prog.cellsOf 3)) = some x0:=hf 0 _ rfl
  rw [cellsI] at this; exact this
 have f1:DataW.trod enc Tryz.prog w 0 spare held n 3 [c1] = some x1:=by
  have this:DataW.trod enc Tryz.prog w 0 spare held n 3 (([c0,c1,c2,c3,c4].drop 1).take (Tryz.prog.cellsOf 3)) = some x1:=hf 1 _ rfl
  rw [cellsI] at this; exact this
 have f2:DataW.trod enc Tryz.prog w 0 spare held n 9 [c2] = some x2:=by
  have this:DataW.trod enc Tryz.prog w 0 spare held n 9 (([c0,c1,c2,c3,c4].drop 2).take (Tryz.prog.cellsOf 9)) = some x2:=hf 2 _ rfl
  rw [cellsS] at this; exact this
 have f3:DataW.trod enc Tryz.prog w 0 spare held n 51 [c3] = some x3:=by
  have this:DataW.trod enc Tryz.prog w 0 spare held n 51 (([c0,c1,c2,c3,c4].drop 3).take (Tryz.prog.cellsOf 51)) = some x3:=hf 3 _ rfl
  rw [cellsLV] at this; exact this
 have f4:DataW.trod enc Tryz.prog w 0 spare held n 33 [c4] = some x4:=by
  have this:DataW.trod enc Tryz.prog w 0 spare held n 33 (([c0,c1,c2,c3,c4].drop 4).take (Tryz.prog.cellsOf 33)) = some x4:=hf 4 _ rfl
  rw [cellsLS] at this; exact this
 obtain ⟨k0,e0,rfl,wf0⟩:=DataW.trod_int Tryz.underlying3 f0
 obtain ⟨k1,e1,rfl,wf1⟩:=DataW.trod_int Tryz.underlying3 f1
 obtain ⟨s,e2,rfl,hs⟩:=DataW.trod_string Tryz.underlying9 f2
 have hw':∀ n ∈ (Lit.int .i64 k0 |> (.lit:Lit → DataW H)).weights Tryz.prog 3 ++ ((Lit.int .i64 k1 |> (.lit:Lit → DataW H)).weights Tryz.prog 3 ++ ((Lit.string s.data.toList |> (.lit:Lit → DataW H)).weights Tryz.prog 9 ++ (x3.1.weights Tryz.prog 51 ++ (x4.1.weights Tryz.prog 33 ++ [])))),n ≤ reachBytes:=by
  intro n hn
  refine hw n ?_
  simpa only [DataW.weights,Tryz.underlying53,DataW.weightsEach,List.map_cons,List.map_nil] using hn
 obtain ⟨K,lk,ck,keys,e4,hlk,hbk,hks,hK,hkb⟩:=zE6 f4 (fun n hn => hw' n (by simp [hn]))
 have hss:s.size ≤ 140737488351232:=by
  have:=hw' s.data.toList.length (by simp [DataW.weights])
  unfold reachBytes at this
  rw [zb8] at this; exact this
 simp only [List.cons.injEq,and_true] at e0 e1 e2 e4
 subst e0 e1 e2 e4
 have hk0:small k0:=zs4 wf0
 have hk1:small k1:=zs4 wf1
 rcases DataW.trod_slice Tryz.underlying51 f3 with ⟨e3,_⟩ | ⟨a,len,cap,elems,rest,m,rfl,e3,rfl,_,hlc,hcm,hel,hat,hsp,hns⟩
 ·simp only [List.cons.injEq,and_true] at e3
  subst e3
  exact ⟨_,_,_,_,_,.mk k0 k1 s [] keys,rfl,.mk (fun _ => undef) hk0 hk1 hss hks rfl hlk (by decide) hbk (fun h0 => by omega) (fun i t hi => by simp at hi) hK,by
   rw [bw_eq]
   simp only [Rows.uptoBulk,Rows.uptoBulkAll,List.map_cons,List.map_nil,T1.zb8,VT.bws] at hkb ⊢
   omega⟩
 ·simp only [List.cons.injEq,and_true] at e3
  subst e3
  have hw3:∀ d ∈ elems.map (·.1), ∀ q ∈ d.weights Tryz.prog 53,q ≤ reachBytes:=by
   intro d hd q hq
   refine hw' q ?_
   simp only [DataW.weights,Tryz.underlying51,List.mem_append,List.mem_cons]
   exact .inr (.inr (.inr (.inl (.inr (.inl (zj1 hd q hq))))))
  have hb3:len * 80 ≤ 140737488351232:=by
   have:=hw' ((elems.length + rest.length) * 80) (by
    simp only [DataW.weights,Tryz.underlying51,List.mem_append,List.mem_cons,bytesV,List.length_map]
    simp)
   unfold reachBytes at this
   omega
  rw [cellsV] at hat
  have hitem:∀ i,i < len → ∃ T:Value × VT,C5 w (a.add (i * 5)) T.1 ∧ Rd w w.heap.size T.1 T.2 ∧ ∀ d,(elems.map (·.1))[i]? = some d → T.2.bw ≤ Rows.uptoBulk d:=by
   intro i hi
   have h1:=hat i hi
   have hlt:i < elems.length:=by omega
   rw [List.getElem?_eq_getElem hlt,Option.bind_eq_some_iff] at h1
   obtain ⟨cs',hc,ht⟩:=h1
   obtain ⟨d0,d1,d2,d3,d4,t,rfl,hrd,hbk2⟩:=ih m (by omega) ht (hw3 _ (List.mem_map_of_mem (List.getElem_mem hlt)))
   obtain ⟨_,_,hg⟩:=World.cells?_some hc
   refine ⟨⟨_,t⟩,⟨_,_,_,_,_,rfl, ?_, ?_, ?_, ?_, ?_⟩,hrd,fun d hd => ?_⟩
   ·have:=hg 0 (by omega); simpa [Addr.add] using this
   ·have:=hg 1 (by omega); simpa [Addr.add] using this
   ·have:=hg 2 (by omega); simpa [Addr.add] using this
   ·have:=hg 3 (by omega); simpa [Addr.add] using this
   ·have:=hg 4 (by omega); simpa [Addr.add] using this
   ·rw [List.getElem?_map,List.getElem?_eq_getElem hlt] at hd
    cases hd
    exact hbk2
  obtain ⟨T,hT⟩ : ∃ T:Nat → Value × VT, ∀ i,i < len → C5 w (a.add (i * 5)) (T i).1 ∧ Rd w w.heap.size (T i).1 (T i).2 ∧ ∀ d,(elems.map (·.1))[i]? = some d → (T i).2.bw ≤ Rows.uptoBulk d:=by
   refine ⟨fun i => if h:i < len then (hitem i h).choose else (undef,.mk 0 0 ⟨#[]⟩ [] []),fun i h => ?_⟩
   simp only [dif_pos h]
   exact (hitem i h).choose_spec
  have hsum:=zT6 (elems.map (·.1)) (fun i => (T i).2) (fun i d hd => (hT i (by
   have:=(List.getElem?_eq_some_iff.1 hd).1
   simp at this; omega)).2.2 d hd)
  have hll:(elems.map (·.1)).length = len:=by simp; omega
  rw [hll] at hsum
  refine ⟨_,_,_,_,_,.mk k0 k1 s ((List.range len).map fun i => (T i).2) keys,rfl,.mk (fun i => (T i).1) hk0 hk1 hss hks (by simp) hlk hb3 hbk (fun h0 => ⟨a,rfl, ?_,fun i hi => (hT i hi).1⟩) (fun i t hi => ?_) hK, ?_⟩
  ·obtain ⟨_,_,_,_,_,_,h0,_⟩:=(hT 0 h0).1
   have:=zE8 h0
   rwa [za1] at this
  ·have hlt:i < len:=by simpa using (List.getElem?_eq_some_iff.1 hi).1
   simp [hlt] at hi
   subst hi
   exact (hT i hlt).2.1
  ·rw [bw_eq]
   simp only [Rows.uptoBulk,Rows.uptoBulkAll,List.map_cons,List.map_nil,T1.zb8] at hkb ⊢
   omega
end
end Go.Proofs.YtfgelheiknmjgaaGreatDoor
namespace Go.Proofs.YtfgelheiknmjgaaGreatDoor
open Go.RowKit
def argsQ (l:List (ByteArray × VT)):Prop:=∀ a ∈ l,a.2.bw ≤ 1048576
def dirsQ (l:List DirT):Prop:=∀ d ∈ l,argsQ d.args
def inpsQ (l:List InpT):Prop:=∀ x ∈ l,x.dflt.bw ≤ 1048576 ∧ dirsQ x.dirs ∧ x.tw.length ≤ 17592186044416
def fldsQ (l:List FldT):Prop:=∀ x ∈ l,inpsQ x.args ∧ dirsQ x.dirs ∧ x.tw.length ≤ 17592186044416
def memsQ (l:List MemT):Prop:=∀ x ∈ l,dirsQ x.dirs
def defsQ (l:List DefT):Prop:=∀ x ∈ l,dirsQ x.dirs ∧ inpsQ x.inputs ∧ fldsQ x.fields ∧ memsQ x.members ∧ x.impl.length ≤ 17592186044416
end Go.Proofs.YtfgelheiknmjgaaGreatDoor

