
/-
 Texts joined: KTok KFirst KLaid WitK Base Val Open Open2 D0 D1Dir.
-/
import Derived.Test.YthjoelpfmimedaaGreatDoorZp3
import Derived.Test.YthjoelpfmimedaaGreatDoorCards
import Derived.Test.YthjoelpfmimedaaGreatDoorTie
import Derived.Deep.DeepWitnessRowRef
import Derived.Stop.LaidErr
import Derived.OpenShut
import Derived.Lib.LaidU8
import Derived.PinnedBridge
import Derived.Lay
import Derived.ChangeSame
import Derived.JoinedOf
import Derived.JoinedAt
import Derived.RowKit
import Derived.RowKit2
import Derived.ReadAgain
import Derived.Carry
import Derived.SizedLaws
import Derived.Test.YthjoelpfmimedaaGreatDoorProg
import Derived.WalkKit
import Derived.ProofKit
import Derived.Outline
import Derived.WalkSpells
import Derived.WalkLawsBesides
import Derived.Deep.QuietTactic
import Derived.BigQuiet
import Derived.StillTailTactics
import Derived.Lib.Hide
import Derived.Lib.Strings
import Derived.Deep.AppendLies
import Derived.Deep.RegionLaw
import Derived.ChangeAlike
import Derived.Deep.MidRow
import Derived.ChangeArms
import Derived.Deep.Strs
import Derived.ChangeMaps
import Derived.WideShapes
namespace Go.Proofs.YthjoelpfmimedaaGreatDoor.K
open Go.RowKit
structure LK (w:World):Prop where
 num:T1.Laid w
 utf:Lib.Utf8Tabs 0 1 w
theorem LK.below {w w':World} (h:LK w) (hb:Below w.heap.size w w'):LK w':=⟨h.num.below hb,Utf8Tabs_below h.utf hb⟩
def TB (W:World) (b:Nat) (c0 c1 c2:Value):Prop:=W.heap[b]? = some (.cells #[c0,c1,c2] 105 (0,0))
theorem TB.cells {W:World} {b:Nat} {c0 c1 c2:Value} (h:TB W b c0 c1 c2):W.cell? ⟨b,0,none⟩ = some c0 ∧ W.cell? ⟨b,1,none⟩ = some c1 ∧ W.cell? ⟨b,2,none⟩ = some c2:=by
 refine ⟨?_, ?_, ?_⟩ <;> rw [cell_of_row _ _ _ _ _ _ h] <;> rfl
theorem TB.frz {W:World} {b:Nat} {c0 c1 c2:Value} (h:TB W b c0 c1 c2) (i:Nat):W.frozen? ⟨b,i,none⟩ = false:=by
 unfold TB at h; simp [World.frozen?,h]
theorem TB.three {W:World} {b:Nat} {c0 c1 c2:Value} (h:TB W b c0 c1 c2) (u0 u1 u2:Value):TB (((W.setCell ⟨b,0,none⟩ u0).setCell ⟨b,1,none⟩ u1).setCell ⟨b,2,none⟩ u2) b u0 u1 u2:=by
 unfold TB at h ⊢; simp [World.setCell,Array.getElem?_modify,h]
theorem TB.kept {W W':World} {b:Nat} {c0 c1 c2:Value} (h:TB W b c0 c1 c2) (hb:W'.heap[b]? = W.heap[b]?):TB W' b c0 c1 c2:=hb.trans h
theorem TB.lt {W:World} {b:Nat} {c0 c1 c2:Value} (h:TB W b c0 c1 c2):b < W.heap.size:=by
 unfold TB at h
 rcases Nat.lt_or_ge b W.heap.size with h' | h'
 ·exact h'
 ·rw [Array.getElem?_eq_none h'] at h; cases h
theorem TB.stay {W W':World} {b:Nat} {c0 c1 c2:Value} (h:TB W b c0 c1 c2) (hb:Below W.heap.size W W'):TB W' b c0 c1 c2:=h.kept (hb.block b h.lt)
theorem Below.three {N b:Nat} {w w':World} (h:Below N w w') (hb:N ≤ b) (u0 u1 u2:Value):Below N w (((w'.setCell ⟨b,0,none⟩ u0).setCell ⟨b,1,none⟩ u1).setCell ⟨b,2,none⟩ u2) :=
 ((h.setCell (p:=⟨b,0,none⟩) hb u0).setCell (p:=⟨b,1,none⟩) hb u1).setCell (p:=⟨b,2,none⟩) hb u2
abbrev tkV (k:Int) (t:ByteArray) (a:Int):Value:=.agg #[.int .i64 k,.string t,.int .i64 a]
def TokAns (o:Except Int (Int × List UInt8 × Nat)) (e:Ending):Prop :=
 match o with
 | .ok (k,t,n) => e = .returned (.tuple #[tkV k ⟨t.toArray⟩ 0,.int .i64 n,.int .i64 0])
 | .error c => c ≠ 0 ∧ ∃ (k:Int) (t:ByteArray) (n:Int),e = .returned (.tuple #[tkV k t 0,.int .i64 n,.int .i64 c])
def zG1 (o:Except Int (Int × List UInt8 × Nat)) (w:World) (e:Ending) (w':World):Prop:=TokAns o e ∧ Below w.heap.size w w'
def nameR (l:List UInt8):Except Int (Int × List UInt8 × Nat):=if T1.nameL (l.take (wdN l)) = true then .ok (2,l.take (wdN l),wdN l) else .error 3
def intR (l:List UInt8):Except Int (Int × List UInt8 × Nat):=if (T1.numL (l.take (wdN (l.drop 1) + 1))).2 = 0 then .ok (3,l.take (wdN (l.drop 1) + 1),wdN (l.drop 1) + 1) else .error (T1.numL (l.take (wdN (l.drop 1) + 1))).2
def textR (l:List UInt8):Except Int (Int × List UInt8 × Nat):=if l.length < ltN (l.drop 1) + 2 then .error 3 else match T1.zb4 (l.take (ltN (l.drop 1) + 2)) with
 | none => .error 3
 | some t => .ok (4,t,ltN (l.drop 1) + 2)
theorem zT1 (s:ByteArray) (n:Nat):(s.extract 0 n).data.toList = s.data.toList.take n:=by
 rw [ByteArray.data_extract,Array.toList_extract]; simp
theorem zP3 (s:ByteArray) (n:Nat):s.extract 0 n = ⟨(s.data.toList.take n).toArray⟩:=by
 rw [← zT1]
set_option maxHeartbeats 2000000 in
theorem zU3 (s:ByteArray) (hs:s.size ≤ maxLen) (w:World) :
  Calls Tryz.prog 112 #[.string s] w (zG1 (nameR s.data.toList) w):=by
 have HX:Hid (TB (w.alloc (.cells #[.int .i64 0,.string ⟨#[]⟩,.int .i64 0] 105 (0,0))) w.heap.size (.int .i64 0) (.string ⟨#[]⟩) (.int .i64 0)):=Lib.hid (heap_alloc_new w _)
 have HB:Hid (Below w.heap.size w (w.alloc (.cells #[.int .i64 0,.string ⟨#[]⟩,.int .i64 0] 105 (0,0)))):=Lib.hid ((Below.refl _ _).alloc (Nat.le_refl _) _)
 have hn:=zu4 s.data.toList
 have hsz:=T1.size_eq s
 have hml:maxLen ≤ 9223372036854775807:=by decide
 go_enter Tryz.func112, Tryz.ntmps112
 go_wp2_with fail
 refine (zQ4 s hs _).mono ?_
 rintro e w1 ⟨rfl,hb⟩
 have HB1:=Lib.hid (HB.out.trans (hb.mono (by simp)))
 have HX1:=Lib.hid (HX.out.stay hb)
 clear hb
 have HE:=Lib.hid (zT1 s (wdN s.data.toList))
 have HR:Hid (nameR s.data.toList = if T1.nameL (s.data.toList.take (wdN s.data.toList)) = true then .ok (2,s.data.toList.take (wdN s.data.toList),wdN s.data.toList) else .error 3):=Lib.hid rfl
 generalize nameR s.data.toList = R at *
 generalize hwn:wdN s.data.toList = n at *
 have hn2:(n:Int) ≤ s.size:=by omega
 have hes:(s.extract 0 n).size ≤ maxLen:=by
  have h1:=T1.size_eq (s.extract 0 n)
  have h2:=congrArg List.length HE.out
  rw [List.length_take] at h2
  omega
 have CALL:=Lib.hid (T1.zl2 (s.extract 0 n) w1 hes)
 clear hes
 go_wp2_with fail
 refine CALL.out.mono ?_
 rintro e w2 ⟨rfl,rfl⟩
 rw [HE.out]
 obtain ⟨x0,x1,x2⟩:=HX1.out.cells
 have g0:=HX1.out.frz 0
 have g1:=HX1.out.frz 1
 have g2:=HX1.out.frz 2
 cases hc:T1.nameL (s.data.toList.take n) with
 | true =>
   have E1:Hid (R = .ok (2,s.data.toList.take n,n)):=Lib.hid (by rw [HR.out,hc]; rfl)
   have ZZ:=Lib.hid (HX1.out.three (.int .i64 2) (.string (s.extract 0 n)) (.int .i64 0)).cells
   go_wp2_with fail
   obtain ⟨z0,z1,z2⟩:=ZZ.out
   refine bodyPost_ret (v:=.tuple #[tkV 2 (s.extract 0 n) 0,.int .i64 n,.int .i64 0]) (by simp [results,Tryz.results112,go_sem,z0,z1,z2]) rfl ⟨?_,Below.three HB1.out (Nat.le_refl _) _ _ _⟩
   rw [E1.out,zP3]; rfl
 | false =>
   have E1:Hid (R = .error 3):=Lib.hid (by rw [HR.out,hc]; rfl)
   have ZZ:=Lib.hid (HX1.out.three (.int .i64 0) (.string ⟨#[]⟩) (.int .i64 0)).cells
   go_wp2_with fail
   obtain ⟨z0,z1,z2⟩:=ZZ.out
   refine bodyPost_ret (v:=.tuple #[tkV 0 ⟨#[]⟩ 0,.int .i64 0,.int .i64 3]) (by simp [results,Tryz.results112,go_sem,z0,z1,z2]) rfl ⟨?_,Below.three HB1.out (Nat.le_refl _) _ _ _⟩
   rw [E1.out]
   exact ⟨by decide,_,_,_,rfl⟩
theorem zu2 (s:ByteArray) (k:Nat):(s.extract k s.size).data.toList = s.data.toList.drop k:=T1.zx8 s k
set_option maxHeartbeats 2000000 in
theorem zZ3 (s:ByteArray) (h0:0 < s.size) (hs:s.size ≤ 281474976710656) (w:World) (hL:T1.Laid w) :
  Calls Tryz.prog 113 #[.string s] w (zG1 (intR s.data.toList) w):=by
 have HX:Hid (TB (w.alloc (.cells #[.int .i64 0,.string ⟨#[]⟩,.int .i64 0] 105 (0,0))) w.heap.size (.int .i64 0) (.string ⟨#[]⟩) (.int .i64 0)):=Lib.hid (heap_alloc_new w _)
 have HB:Hid (Below w.heap.size w (w.alloc (.cells #[.int .i64 0,.string ⟨#[]⟩,.int .i64 0] 105 (0,0)))):=Lib.hid ((Below.refl _ _).alloc (Nat.le_refl _) _)
 have hn:=zu4 (s.data.toList.drop 1)
 have hsz:=T1.size_eq s
 rw [List.length_drop] at hn
 have HD:=Lib.hid (zu2 s 1)
 have HL:=Lib.hid hL
 have HWS:Hid ((s.extract 1 s.size).size ≤ maxLen):=Lib.hid (by
  have h1:=T1.size_eq (s.extract 1 s.size)
  rw [HD.out,List.length_drop] at h1
  unfold maxLen; omega)
 have CALL1:=Lib.hid (zQ4 (s.extract 1 s.size) HWS.out (w.alloc (.cells #[.int .i64 0,.string ⟨#[]⟩,.int .i64 0] 105 (0,0))))
 have h1s:(1:Int) ≤ s.size:=by omega
 clear hL
 go_enter Tryz.func113, Tryz.ntmps113
 go_wp2_with fail
 refine CALL1.out.mono ?_
 rintro e w1 ⟨rfl,hb⟩
 rw [HD.out]
 have HB1:=Lib.hid (HB.out.trans (hb.mono (by simp)))
 have HX1:=Lib.hid (HX.out.stay hb)
 clear hb CALL1
 have HE:=Lib.hid (zT1 s (wdN (s.data.toList.drop 1) + 1))
 have HR:Hid (intR s.data.toList = if (T1.numL (s.data.toList.take (wdN (s.data.toList.drop 1) + 1))).2 = 0 then .ok (3,s.data.toList.take (wdN (s.data.toList.drop 1) + 1),wdN (s.data.toList.drop 1) + 1) else .error (T1.numL (s.data.toList.take (wdN (s.data.toList.drop 1) + 1))).2):=Lib.hid rfl
 generalize intR s.data.toList = R at *
 generalize hwn:wdN (s.data.toList.drop 1) = m at *
 have hn2:(m:Int) + 1 ≤ s.size:=by omega
 have hn3:(1:Int) + m ≤ s.size:=by omega
 have hn4:(0:Int) ≤ 1 + (m:Int):=by omega
 have hn5:((1:Int) + m).toNat = m + 1:=by omega
 have hes:(s.extract 0 (m + 1)).size ≤ 281474976710656:=by
  have h1:=T1.size_eq (s.extract 0 (m + 1))
  have h2:=congrArg List.length HE.out
  rw [List.length_take] at h2
  omega
 have CALL:=Lib.hid (T1.zB5 (s.extract 0 (m + 1)) w1 (HL.out.below HB1.out) hes)
 clear hes
 go_wp2_with fail
 refine CALL.out.mono ?_
 rintro e w2 ⟨rfl,hb⟩
 rw [HE.out]
 have HB2:=Lib.hid (HB1.out.trans (hb.mono HB1.out.size))
 have HX2:=Lib.hid (HX1.out.stay hb)
 obtain ⟨x0,x1,x2⟩:=HX2.out.cells
 have g0:=HX2.out.frz 0
 have g1:=HX2.out.frz 1
 have g2:=HX2.out.frz 2
 clear hb CALL
 generalize T1.numL (s.data.toList.take (m + 1)) = p at *
 obtain ⟨v,c⟩:=p
 have ZZ:=Lib.hid (HX2.out.three (.int .i64 3) (.string (s.extract 0 (m + 1))) (.int .i64 0)).cells
 unfold T1.num2
 go_wp2_with fail
 obtain ⟨z0,z1,z2⟩:=ZZ.out
 have e1:(1 + (m:Int)) = ((m + 1:Nat):Int):=by omega
 refine bodyPost_ret (v:=.tuple #[tkV 3 (s.extract 0 (m + 1)) 0,.int .i64 (1 + (m:Int)),.int .i64 c]) (by simp [results,Tryz.results113,go_sem,z0,z1,z2]) rfl ⟨?_,Below.three HB2.out (Nat.le_refl _) _ _ _⟩
 by_cases hc:c = 0
 ·subst hc
  rw [HR.out,zP3,e1]; rfl
 ·rw [HR.out,if_neg hc]
  exact ⟨hc,_,_,_,rfl⟩
set_option maxHeartbeats 2000000 in
theorem zU2 (s:ByteArray) (h0:0 < s.size) (hs:s.size ≤ 137438953472) (w:World) :
  Calls Tryz.prog 114 #[.string s] w (zG1 (textR s.data.toList) w):=by
 have HX0:TB (w.alloc (.cells #[.int .i64 0,.string ⟨#[]⟩,.int .i64 0] 105 (0,0))) w.heap.size (.int .i64 0) (.string ⟨#[]⟩) (.int .i64 0):=heap_alloc_new w _
 have HB0:Below w.heap.size w (w.alloc (.cells #[.int .i64 0,.string ⟨#[]⟩,.int .i64 0] 105 (0,0))):=(Below.refl _ _).alloc (Nat.le_refl _) _
 have hsz1:(w.alloc (.cells #[.int .i64 0,.string ⟨#[]⟩,.int .i64 0] 105 (0,0))).heap.size = w.heap.size + 1:=by simp
 have HV:Hid (BoxB (w.heap.size + 1) false ((w.alloc (.cells #[.int .i64 0,.string ⟨#[]⟩,.int .i64 0] 105 (0,0))).alloc (.cells #[.bool false] 4 (0,0)))):=Lib.hid (hsz1 ▸ heap_alloc_new (w.alloc (.cells #[.int .i64 0,.string ⟨#[]⟩,.int .i64 0] 105 (0,0))) _)
 have HB1:Below w.heap.size w ((w.alloc (.cells #[.int .i64 0,.string ⟨#[]⟩,.int .i64 0] 105 (0,0))).alloc (.cells #[.bool false] 4 (0,0))):=HB0.alloc (by omega) _
 have HX1:TB ((w.alloc (.cells #[.int .i64 0,.string ⟨#[]⟩,.int .i64 0] 105 (0,0))).alloc (.cells #[.bool false] 4 (0,0))) w.heap.size (.int .i64 0) (.string ⟨#[]⟩) (.int .i64 0):=HX0.stay ((Below.refl _ _).alloc (Nat.le_refl _) _)
 have hsz2:((w.alloc (.cells #[.int .i64 0,.string ⟨#[]⟩,.int .i64 0] 105 (0,0))).alloc (.cells #[.bool false] 4 (0,0))).heap.size = w.heap.size + 2:=by simp
 have HB:=Lib.hid HB1
 have HX:=Lib.hid HX1
 have HZ2:=Lib.hid hsz2
 have hn:=ltN_le (s.data.toList.drop 1)
 have hsz:=T1.size_eq s
 rw [List.length_drop] at hn
 have HD:=Lib.hid (zu2 s 1)
 have HWS:Hid ((s.extract 1 s.size).size ≤ maxLen):=Lib.hid (by
  have h1:=T1.size_eq (s.extract 1 s.size)
  rw [HD.out,List.length_drop] at h1
  unfold maxLen; omega)
 have CALL1:=Lib.hid (zD4 (Inv:=BoxB (w.heap.size + 1)) (p:=w.heap.size + 1) 170 (.inr (.inr rfl)) #[pp (w.heap.size + 1)] lt_high ye8 (fun st r w' h hr _ => lit1_any _ st r w' h hr) (fun st a b h e => h.kept a b e) (s.extract 1 s.size) HWS.out false _ HV.out (by omega))
 have h1s:(1:Int) ≤ s.size:=by omega
 clear HX0 HB0 hsz1 HB1 HX1 hsz2
 go_enter Tryz.func114, Tryz.ntmps114
 go_wp2_with fail
 refine CALL1.out.mono ?_
 rintro e w1 ⟨rfl,hb⟩
 rw [HD.out]
 have HB2:=Lib.hid (HB.out.trans (hb.below (by omega) (by have:=HZ2.out; omega)))
 have HX2:Hid (TB w1 w.heap.size (.int .i64 0) (.string ⟨#[]⟩) (.int .i64 0)):=Lib.hid (HX.out.kept (hb.block _ (by have:=HZ2.out; omega) (by omega)))
 clear hb CALL1
 have HE:=Lib.hid (zT1 s (ltN (s.data.toList.drop 1) + 2))
 have HR:Hid (textR s.data.toList = if s.data.toList.length < ltN (s.data.toList.drop 1) + 2 then .error 3 else match T1.zb4 (s.data.toList.take (ltN (s.data.toList.drop 1) + 2)) with
  | none => .error 3
  | some t => .ok (4,t,ltN (s.data.toList.drop 1) + 2)):=Lib.hid rfl
 generalize textR s.data.toList = R at *
 have hln:spanL ltS false (s.data.toList.drop 1) = ltN (s.data.toList.drop 1):=rfl
 rw [hln]
 generalize hwn:ltN (s.data.toList.drop 1) = m at *
 obtain ⟨x0,x1,x2⟩:=HX2.out.cells
 have g0:=HX2.out.frz 0
 have g1:=HX2.out.frz 1
 have g2:=HX2.out.frz 2
 by_cases hlt:s.size < m + 2
 ·have E1:Hid (R = .error 3):=Lib.hid (by rw [HR.out,if_pos (by omega)])
  have hgt:((m:Int) + 2 > s.size):=by omega
  have ZZ:=Lib.hid (HX2.out.three (.int .i64 0) (.string ⟨#[]⟩) (.int .i64 0)).cells
  clear HR hln
  go_wp2_with fail
  obtain ⟨z0,z1,z2⟩:=ZZ.out
  refine bodyPost_ret (v:=.tuple #[tkV 0 ⟨#[]⟩ 0,.int .i64 0,.int .i64 3]) (by simp [results,Tryz.results114,go_sem,z0,z1,z2]) rfl ⟨?_,Below.three HB2.out (Nat.le_refl _) _ _ _⟩
  rw [E1.out]
  exact ⟨by decide,_,_,_,rfl⟩
 ·have hgt:¬ ((m:Int) + 2 > s.size):=by omega
  have hle:((m:Int) + 2 ≤ s.size):=by omega
  have E1:Hid (R = match T1.zb4 (s.data.toList.take (m + 2)) with | none => .error 3 | some t => .ok (4,t,m + 2)):=Lib.hid (by rw [HR.out,if_neg (by omega)])
  have hes:(s.extract 0 (m + 2)).size ≤ 137438953472:=by
   have h1:=T1.size_eq (s.extract 0 (m + 2))
   have h2:=congrArg List.length HE.out
   rw [List.length_take] at h2
   omega
  have CALL:=Lib.hid (T1.zN0 (s.extract 0 (m + 2)) w1 hes)
  clear hes HR hln hlt x0 x1 x2 g0 g1 g2
  go_wp2_with fail
  refine CALL.out.mono ?_
  rintro e w2 ⟨rfl,hb⟩
  rw [HE.out]
  have HB3:=Lib.hid (HB2.out.trans (hb.mono HB2.out.size))
  have HX3:=Lib.hid (HX2.out.stay hb)
  obtain ⟨x0,x1,x2⟩:=HX3.out.cells
  have g0:=HX3.out.frz 0
  have g1:=HX3.out.frz 1
  have g2:=HX3.out.frz 2
  clear hb CALL
  have e1:((m:Int) + 2) = ((m + 2:Nat):Int):=by omega
  cases hu:T1.zb4 (s.data.toList.take (m + 2)) with
  | none =>
    have E2:Hid (R = .error 3):=Lib.hid (by rw [E1.out,hu])
    have ZZ:=Lib.hid (HX3.out.three (.int .i64 4) (.string ⟨#[]⟩) (.int .i64 0)).cells
    clear hu e1
    unfold T1.uq2
    go_wp2_with fail
    obtain ⟨z0,z1,z2⟩:=ZZ.out
    refine bodyPost_ret (v:=.tuple #[tkV 4 ⟨#[]⟩ 0,.int .i64 (m + 2),.int .i64 3]) (by simp [results,Tryz.results114,go_sem,z0,z1,z2]) rfl ⟨?_,Below.three HB3.out (Nat.le_refl _) _ _ _⟩
    rw [E2.out]
    exact ⟨by decide,_,_,_,rfl⟩
  | some t =>
    have E2:Hid (R = .ok (4,t,m + 2)):=Lib.hid (by rw [E1.out,hu])
    have ZZ:=Lib.hid (HX3.out.three (.int .i64 4) (.string ⟨t.toArray⟩) (.int .i64 0)).cells
    have EE:=Lib.hid e1
    clear hu e1
    unfold T1.uq2
    go_wp2_with fail
    obtain ⟨z0,z1,z2⟩:=ZZ.out
    refine bodyPost_ret (v:=.tuple #[tkV 4 ⟨t.toArray⟩ 0,.int .i64 (m + 2),.int .i64 0]) (by simp [results,Tryz.results114,go_sem,z0,z1,z2]) rfl ⟨?_,Below.three HB3.out (Nat.le_refl _) _ _ _⟩
    rw [E2.out,EE.out]
    rfl
end Go.Proofs.YthjoelpfmimedaaGreatDoor.K
namespace Go.Proofs.YthjoelpfmimedaaGreatDoor.K
open Go.RowKit
def RB (p:Nat) (r:Int) (w:World):Prop:=w.heap[p]? = some (.cells #[.int .i32 r] 21 (0,0))
theorem RB.cell {p:Nat} {r:Int} {w:World} (h:RB p r w):w.cell? ⟨p,0,none⟩ = some (.int .i32 r) ∧ w.frozen? ⟨p,0,none⟩ = false:=by
 unfold RB at h
 exact ⟨by rw [cell_of_row _ _ _ _ _ _ h]; rfl,by simp [World.frozen?,h]⟩
theorem RB.stay {p:Nat} {r:Int} {w w':World} (h:RB p r w) (hb:Below w.heap.size w w'):RB p r w':=by
 unfold RB at *
 have:p < w.heap.size:=by
  rcases Nat.lt_or_ge p w.heap.size with h' | h'
  ·exact h'
  ·rw [Array.getElem?_eq_none h'] at h; cases h
 exact (hb.block p this).trans h
set_option maxHeartbeats 2000000 in
theorem zE8 (p:Nat) (r:Nat) (hr:r < 128 ∨ Utf8.valid r = true) (set:ByteArray) (hset:AscSet set) (w:World) (h:RB p r w) :
  Calls Tryz.prog 109 #[.string set,pp p] w fun e w' => e = .returned (.bool (decide (r < 128 ∧ r.toUInt8 ∈ set.data.toList))) ∧ Below w.heap.size w w':=by
 have CALL:=Lib.hid (zt0 set hset r hr w)
 obtain ⟨q0,f0⟩:=h.cell
 clear h
 generalize decide (r < 128 ∧ r.toUInt8 ∈ set.data.toList) = b at *
 go_enter Tryz.func109, Tryz.ntmps109
 go_wp2_with fail
 refine CALL.out.mono ?_
 rintro e w1 ⟨rfl,hb⟩
 have HB:=Lib.hid hb
 clear hb
 go_wp2_with fail
 go_ret
 exact ⟨rfl,HB.out⟩
def sgS:ByteArray:=⟨#[33,36,38,40,41,58,61,64,91,93,123,124,125]⟩
def leS:ByteArray:=⟨#[65,66,67,68,69,70,71,72,73,74,75,76,77,78,79,80,81,82,83,84,85,86,87,88,89,90,97,98,99,100,101,102,103,104,105,106,107,108,109,110,111,112,113,114,115,116,117,118,119,120,121,122,95]⟩
def dmS:ByteArray:=⟨#[45,48,49,50,51,52,53,54,55,56,57]⟩
theorem ya0:AscSet sgS:=⟨by decide +kernel,by decide,by decide⟩
theorem ye9:AscSet leS:=⟨by decide +kernel,by decide,by decide⟩
theorem yh1:AscSet dmS:=⟨by decide +kernel,by decide,by decide⟩
theorem sgS_is:∀ c:UInt8,decide (c ∈ sgS.data.toList) = decide (c ∈ sgL):=fun _ => rfl
theorem leS_is:∀ c:UInt8,decide (c ∈ leS.data.toList) = T1.letU (c.toNat:Int):=zh7 (by decide +kernel)
theorem dmS_is:∀ c:UInt8,decide (c ∈ dmS.data.toList) = dmB c:=zh7 (by decide +kernel)
theorem zX3 (s:ByteArray) (h:0 < s.size):∃ r k:Nat,Lib.decodeGo s = (r,k) ∧ (r < 128 ∨ Utf8.valid r = true) ∧ (∀ set,AscSet set → decide (r < 128 ∧ r.toUInt8 ∈ set.data.toList) = decide (s[0] ∈ set.data.toList)) ∧ ((r:Int) == 34) = decide (s[0] = 34):=by
 have hd:Lib.decodeGo s = Utf8.decode s 0:=by unfold Lib.decodeGo; rw [if_neg (by omega)]
 refine ⟨(Utf8.decode s 0).1,(Utf8.decode s 0).2,hd,zL5 s 0 h, ?_, ?_⟩
 ·intro set hs
  apply decide_eq_decide.2
  rcases Nat.lt_or_ge (s[0]).toNat 128 with ha | ha
  ·rw [decode_ascii s 0 h ha]
   have e:((s[0]).toNat).toUInt8 = s[0]:=by rw [Nat.toUInt8_eq,UInt8.ofNat_toNat]
   show (s[0]).toNat < 128 ∧ ((s[0]).toNat).toUInt8 ∈ _ ↔ _
   rw [e]
   exact ⟨fun x => x.2,fun x => ⟨ha,x⟩⟩
  ·have:=(decode_high s 0 h ha).1
   exact ⟨fun x => by omega,fun x => by have:=hs.asc _ x; omega⟩
 ·rcases Nat.lt_or_ge (s[0]).toNat 128 with ha | ha
  ·rw [decode_ascii s 0 h ha]
   show (((s[0]).toNat:Int) == 34) = _
   by_cases hc:s[0] = 34
   ·rw [hc]; rfl
   ·rw [decide_eq_false hc]
    exact beq_false_of_ne (fun e => hc (UInt8.toNat_inj.1 (by
     have e:((s[0]).toNat:Int) = 34:=e
     show (s[0]).toNat = 34
     omega)))
  ·have h1:=(decode_high s 0 h ha).1
   have hc:¬ s[0] = 34:=by
    intro e
    rw [e] at ha
    revert ha; decide
   rw [decide_eq_false hc]
   exact beq_false_of_ne (by omega)
theorem tokR_eq (s:ByteArray) (h:0 < s.size):tokR s.data.toList = if s[0] ∈ sgL then .ok (1,s.data.toList.take 1,1) else if s.data.toList.take 3 = elL then .ok (1,elL,3)
  else if T1.letU ((s[0]).toNat:Int) = true then nameR s.data.toList else if dmB s[0] = true then intR s.data.toList else if s[0] = 34 then textR s.data.toList else .error 3:=by
 have e:s.data.toList.getD 0 0 = s[0]:=T1.zg0 s 0 h
 rw [← e]; rfl
theorem zK7 (l:List UInt8):Lib.hasPrefix l [46,46,46] = decide (l.take 3 = elL):=by
 unfold Lib.hasPrefix
 rw [Bool.eq_iff_iff,List.isPrefixOf_iff_prefix,List.prefix_iff_eq_take,decide_eq_true_iff]
 exact ⟨fun h => h.symm,fun h => h.symm⟩
theorem TokAns.parts {o:Except Int (Int × List UInt8 × Nat)} {e:Ending} (h:TokAns o e):∃ (k:Int) (t:ByteArray) (n c:Int),e = .returned (.tuple #[tkV k t 0,.int .i64 n,.int .i64 c]):=by
 cases o with
 | ok p => obtain ⟨k,t,n⟩:=p; exact ⟨_,_,_,_,h⟩
 | error c => obtain ⟨_,k,t,n,h⟩:=h; exact ⟨_,_,_,_,h⟩
set_option maxRecDepth 100000 in
set_option maxHeartbeats 4000000 in
theorem zx6 (s:ByteArray) (h0:0 < s.size) (hs:s.size ≤ 137438953472) (w:World) (hL:LK w) :
  Calls Tryz.prog 52 #[.string s] w (zG1 (tokR s.data.toList) w):=by
 have HX0:Hid (TB (w.alloc (.cells #[.int .i64 0,.string ⟨#[]⟩,.int .i64 0] 105 (0,0))) w.heap.size (.int .i64 0) (.string ⟨#[]⟩) (.int .i64 0)):=Lib.hid (heap_alloc_new w _)
 have hb0:Below w.heap.size w (w.alloc (.cells #[.int .i64 0,.string ⟨#[]⟩,.int .i64 0] 105 (0,0))):=(Below.refl _ _).alloc (Nat.le_refl _) _
 have HB0:=Lib.hid hb0
 have CALL0:=Lib.hid (Tryz.utf8_DecodeRuneInString s (w.alloc (.cells #[.int .i64 0,.string ⟨#[]⟩,.int .i64 0] 105 (0,0))) (hL.below hb0).utf)
 obtain ⟨r,k,e1,hr,hset,h34⟩:=zX3 s h0
 rw [e1] at CALL0
 have HR:=Lib.hid hr
 have HSET:=Lib.hid hset
 have H34:=Lib.hid h34
 have HL:=Lib.hid hL
 have HT:=Lib.hid (tokR_eq s h0)
 have HS:=Lib.hid hs
 have H0:=Lib.hid h0
 have h1s:(1:Int) ≤ s.size:=by omega
 clear hb0 e1 hr hset h34 hL hs
 generalize tokR s.data.toList = R at *
 generalize hc:s[0] = c at *
 clear hc
 go_enter Tryz.func52, Tryz.ntmps52
 go_wp2_with fail
 refine CALL0.out.mono ?_
 rintro e w1 ⟨rfl,hb⟩
 have HB1:=Lib.hid (HB0.out.trans (hb.mono (by simp)))
 have HX1:=Lib.hid (HX0.out.stay hb)
 have HV:Hid (RB w1.heap.size r (w1.alloc (.cells #[.int .i32 r] 21 (0,0)))):=Lib.hid (heap_alloc_new w1 _)
 have HB2:Hid (Below w.heap.size w (w1.alloc (.cells #[.int .i32 r] 21 (0,0)))):=Lib.hid (HB1.out.alloc HB1.out.size _)
 have HX2:Hid (TB (w1.alloc (.cells #[.int .i32 r] 21 (0,0))) w.heap.size (.int .i64 0) (.string ⟨#[]⟩) (.int .i64 0)):=Lib.hid (HX1.out.stay ((Below.refl _ _).alloc (Nat.le_refl _) _))
 have CALL1:=Lib.hid (zE8 w1.heap.size r HR.out sgS ya0 _ HV.out)
 clear hb CALL0
 go_wp2_with fail
 refine CALL1.out.mono ?_
 rintro e w2 ⟨rfl,hb⟩
 rw [HSET.out _ ya0,sgS_is]
 have HB3:=Lib.hid (HB2.out.trans (hb.mono HB2.out.size))
 have HX3:=Lib.hid (HX2.out.stay hb)
 have HV3:=Lib.hid (HV.out.stay hb)
 clear hb CALL1 HX0 HB0 HX1 HB1 HX2 HB2 HV
 generalize w1.heap.size = p at *
 by_cases c1:c ∈ sgL
 ·have d1:decide (c ∈ sgL) = true:=decide_eq_true c1
  have E1:=Lib.hid (HT.out.trans (if_pos c1))
  have HE:=Lib.hid (zP3 s 1)
  have ZZ:=Lib.hid (HX3.out.three (.int .i64 1) (.string (s.extract 0 1)) (.int .i64 0)).cells
  obtain ⟨x0,x1,x2⟩:=HX3.out.cells
  have g0:=HX3.out.frz 0
  have g1:=HX3.out.frz 1
  have g2:=HX3.out.frz 2
  rw [d1]
  clear HT c1 d1
  go_wp2_with fail
  obtain ⟨z0,z1,z2⟩:=ZZ.out
  refine bodyPost_ret (v:=.tuple #[tkV 1 (s.extract 0 1) 0,.int .i64 1,.int .i64 0]) (by simp [results,Tryz.results52,go_sem,z0,z1,z2]) rfl ⟨?_,Below.three HB3.out (Nat.le_refl _) _ _ _⟩
  rw [E1.out,HE.out]
  rfl
 have d1:decide (c ∈ sgL) = false:=decide_eq_false c1
 have HT1:=Lib.hid (HT.out.trans (if_neg c1))
 rw [d1]
 clear HT c1 d1
 go_wp2_with fail
 refine (Tryz.strings_HasPrefix s ⟨#[46,46,46]⟩ w2).mono ?_
 rintro e w3 ⟨rfl,rfl⟩
 rw [zK7]
 by_cases c2:s.data.toList.take 3 = elL
 ·have d2:decide (s.data.toList.take 3 = elL) = true:=decide_eq_true c2
  have E1:=Lib.hid (HT1.out.trans (if_pos c2))
  have ZZ:=Lib.hid (HX3.out.three (.int .i64 1) (.string ⟨#[46,46,46]⟩) (.int .i64 0)).cells
  obtain ⟨x0,x1,x2⟩:=HX3.out.cells
  have g0:=HX3.out.frz 0
  have g1:=HX3.out.frz 1
  have g2:=HX3.out.frz 2
  rw [d2]
  clear HT1 c2 d2
  go_wp2_with fail
  obtain ⟨z0,z1,z2⟩:=ZZ.out
  refine bodyPost_ret (v:=.tuple #[tkV 1 ⟨#[46,46,46]⟩ 0,.int .i64 3,.int .i64 0]) (by simp [results,Tryz.results52,go_sem,z0,z1,z2]) rfl ⟨?_,Below.three HB3.out (Nat.le_refl _) _ _ _⟩
  rw [E1.out]
  rfl
 have d2:decide (s.data.toList.take 3 = elL) = false:=decide_eq_false c2
 have HT2:=Lib.hid (HT1.out.trans (if_neg c2))
 have CALL2:=Lib.hid (zE8 p r HR.out leS ye9 _ HV3.out)
 rw [d2]
 clear HT1 c2 d2
 go_wp2_with fail
 refine CALL2.out.mono ?_
 rintro e w4 ⟨rfl,hb⟩
 rw [HSET.out _ ye9,leS_is]
 have HB4:=Lib.hid (HB3.out.trans (hb.mono HB3.out.size))
 have HX4:=Lib.hid (HX3.out.stay hb)
 have HV4:=Lib.hid (HV3.out.stay hb)
 clear hb CALL2 HB3 HX3 HV3
 by_cases c3:T1.letU (c.toNat:Int) = true
 ·have E1:=Lib.hid (HT2.out.trans (if_pos c3))
  have CALL3:=Lib.hid (zU3 s (by have:=HS.out; unfold maxLen; omega) w4)
  rw [c3]
  clear HT2 c3
  go_wp2_with fail
  refine CALL3.out.mono ?_
  rintro e w5 ⟨ha,hb⟩
  have HB5:=Lib.hid (HB4.out.trans (hb.mono HB4.out.size))
  have HX5:=Lib.hid (HX4.out.stay hb)
  clear hb CALL3 HB4 HX4
  obtain ⟨k1,t1,n1,q1,rfl⟩:=ha.parts
  have HA:=Lib.hid ha
  have ZZ:=Lib.hid (HX5.out.three (.int .i64 k1) (.string t1) (.int .i64 0)).cells
  obtain ⟨x0,x1,x2⟩:=HX5.out.cells
  have g0:=HX5.out.frz 0
  have g1:=HX5.out.frz 1
  have g2:=HX5.out.frz 2
  clear ha
  go_wp2_with fail
  obtain ⟨z0,z1,z2⟩:=ZZ.out
  refine bodyPost_ret (v:=.tuple #[tkV k1 t1 0,.int .i64 n1,.int .i64 q1]) (by simp [results,Tryz.results52,go_sem,z0,z1,z2]) rfl ⟨?_,Below.three HB5.out (Nat.le_refl _) _ _ _⟩
  rw [E1.out]
  exact HA.out
 have c3':T1.letU (c.toNat:Int) = false:=by simpa using c3
 have HT3:=Lib.hid (HT2.out.trans (if_neg c3))
 have CALL3:=Lib.hid (zE8 p r HR.out dmS yh1 _ HV4.out)
 rw [c3']
 clear HT2 c3 c3'
 go_wp2_with fail
 refine CALL3.out.mono ?_
 rintro e w5 ⟨rfl,hb⟩
 rw [HSET.out _ yh1,dmS_is]
 have HB5:=Lib.hid (HB4.out.trans (hb.mono HB4.out.size))
 have HX5:=Lib.hid (HX4.out.stay hb)
 have HV5:=Lib.hid (HV4.out.stay hb)
 clear hb CALL3 HB4 HX4 HV4
 by_cases c4:dmB c = true
 ·have E1:=Lib.hid (HT3.out.trans (if_pos c4))
  have CALL4:=Lib.hid (zZ3 s H0.out (by have:=HS.out; omega) w5 (HL.out.below HB5.out).num)
  rw [c4]
  clear HT3 c4
  go_wp2_with fail
  refine CALL4.out.mono ?_
  rintro e w6 ⟨ha,hb⟩
  have HB6:=Lib.hid (HB5.out.trans (hb.mono HB5.out.size))
  have HX6:=Lib.hid (HX5.out.stay hb)
  clear hb CALL4 HB5 HX5
  obtain ⟨k1,t1,n1,q1,rfl⟩:=ha.parts
  have HA:=Lib.hid ha
  have ZZ:=Lib.hid (HX6.out.three (.int .i64 k1) (.string t1) (.int .i64 0)).cells
  obtain ⟨x0,x1,x2⟩:=HX6.out.cells
  have g0:=HX6.out.frz 0
  have g1:=HX6.out.frz 1
  have g2:=HX6.out.frz 2
  clear ha
  go_wp2_with fail
  obtain ⟨z0,z1,z2⟩:=ZZ.out
  refine bodyPost_ret (v:=.tuple #[tkV k1 t1 0,.int .i64 n1,.int .i64 q1]) (by simp [results,Tryz.results52,go_sem,z0,z1,z2]) rfl ⟨?_,Below.three HB6.out (Nat.le_refl _) _ _ _⟩
  rw [E1.out]
  exact HA.out
 have c4':dmB c = false:=by simpa using c4
 have HT4:=Lib.hid (HT3.out.trans (if_neg c4))
 rw [c4']
 obtain ⟨y0,y1⟩:=HV5.out.cell
 have h34:=H34.out
 clear HT3 c4 c4'
 by_cases c5:c = 34
 ·have E1:=Lib.hid (HT4.out.trans (if_pos c5))
  have CALL4:=Lib.hid (zU2 s H0.out HS.out w5)
  rw [decide_eq_true c5] at h34
  clear HT4 c5
  go_wp2_with fail
  refine CALL4.out.mono ?_
  rintro e w6 ⟨ha,hb⟩
  have HB6:=Lib.hid (HB5.out.trans (hb.mono HB5.out.size))
  have HX6:=Lib.hid (HX5.out.stay hb)
  clear hb CALL4 HB5 HX5 y0 y1
  obtain ⟨k1,t1,n1,q1,rfl⟩:=ha.parts
  have HA:=Lib.hid ha
  have ZZ:=Lib.hid (HX6.out.three (.int .i64 k1) (.string t1) (.int .i64 0)).cells
  obtain ⟨x0,x1,x2⟩:=HX6.out.cells
  have g0:=HX6.out.frz 0
  have g1:=HX6.out.frz 1
  have g2:=HX6.out.frz 2
  clear ha
  go_wp2_with fail
  obtain ⟨z0,z1,z2⟩:=ZZ.out
  refine bodyPost_ret (v:=.tuple #[tkV k1 t1 0,.int .i64 n1,.int .i64 q1]) (by simp [results,Tryz.results52,go_sem,z0,z1,z2]) rfl ⟨?_,Below.three HB6.out (Nat.le_refl _) _ _ _⟩
  rw [E1.out]
  exact HA.out
 have E1:=Lib.hid (HT4.out.trans (if_neg c5))
 rw [decide_eq_false c5] at h34
 have ZZ:=Lib.hid (HX5.out.three (.int .i64 0) (.string ⟨#[]⟩) (.int .i64 0)).cells
 obtain ⟨x0,x1,x2⟩:=HX5.out.cells
 have g0:=HX5.out.frz 0
 have g1:=HX5.out.frz 1
 have g2:=HX5.out.frz 2
 clear HT4 c5
 go_wp2_with fail
 obtain ⟨z0,z1,z2⟩:=ZZ.out
 refine bodyPost_ret (v:=.tuple #[tkV 0 ⟨#[]⟩ 0,.int .i64 0,.int .i64 3]) (by simp [results,Tryz.results52,go_sem,z0,z1,z2]) rfl ⟨?_,Below.three HB5.out (Nat.le_refl _) _ _ _⟩
 rw [E1.out]
 exact ⟨by decide,_,_,_,rfl⟩
end Go.Proofs.YthjoelpfmimedaaGreatDoor.K
namespace Go.Proofs.YthjoelpfmimedaaGreatDoor.K
open Go.ChangeShapes Go.WideShapes Go.ChangeAt Go.RowKit
theorem own:ownKnob Tryz.prog.godebug = none:=by kernel_rfl
theorem gPowType:(Tryz.prog.globals[5]?).map (·.type) = some 289 := by kernel_rfl
theorem gRng : Tryz.prog.globalNamed "strconv.ErrRange" = some 4 := by kernel_rfl
theorem gRngType:(Tryz.prog.globals[4]?).map (·.type) = some 179 := by kernel_rfl
theorem cellsPow : Tryz.prog.cellsOf 289 = 20:=by kernel_rfl
theorem cellsU64 : Tryz.prog.cellsOf 262 = 1:=by kernel_rfl
theorem cellsErr : Tryz.prog.cellsOf 294 = 1:=by kernel_rfl
theorem cellsStr : Tryz.prog.cellsOf 9 = 1:=by kernel_rfl
theorem zS8 : "*" ++ "errors.errorString" = "*errors.errorString" := by decide
theorem rowErr (u:TypeId) (h : Tryz.prog.typeName? 3 u = some "*errors.errorString"):u = 292 :=
 typeName_ptr_named (nm := "errors.errorString") (by rw [zS8]; kernel_rfl) (by kernel_rfl) (by decide) u (by rw [zS8]; exact h)
abbrev zE6:List (String × DataW Unit):=[("math/bits.deBruijn32tab",Rows.laid_math_bits_deBruijn32tab),("math/bits.deBruijn64tab",Rows.laid_math_bits_deBruijn64tab),("internal/strconv.uint64pow10",Rows.laid_internal_strconv_uint64pow10),("unicode/utf8.acceptRanges",Rows.laid_unicode_utf8_acceptRanges),("strconv.ErrRange",Rows.laid_strconv_ErrRange),("strconv.ErrSyntax",Rows.laid_strconv_ErrSyntax),("unicode/utf8.first",Rows.laid_unicode_utf8_first)]
theorem firstIs:Rows.laid_unicode_utf8_first = Lib.firstData:=Pinned.utf8First_eq
theorem acceptIs:(Rows.laid_unicode_utf8_acceptRanges:DataW Unit) = Lib.acceptData:=by kernel_rfl
theorem laid_of {W:World} (h:laidMet Tryz.prog zE6 W):LK W:=by
 refine ⟨⟨Lib.tabIs_of_head T1.gPow gPowType Tryz.underlying289 Tryz.underlying262 cellsU64 cellsPow h.tail.tail, ?_⟩, ?_⟩
 ·obtain ⟨a,s,hv,_⟩:=laid_sentinel h.tail.tail.tail.tail gRng gRngType Tryz.underlying179 rowErr Tryz.underlying292 Tryz.underlying294 rfl rfl Tryz.underlying9 cellsErr cellsStr
  exact ⟨_,_,by simpa using World.var?_cell gRng hv 0⟩
 ·exact utf8Tabs_of_reads (ρ:=Tryz.lays260_ren) { Tryz.lays260 with } ⟨by kernel_rfl,by kernel_rfl,by kernel_rfl,by kernel_rfl,by kernel_rfl,by kernel_rfl,by kernel_rfl⟩
   (firstIs ▸ Lib.laidMet.reads h (.tail _ (.tail _ (.tail _ (.tail _ (.tail _ (.tail _ (.head _)))))))) (acceptIs ▸ Lib.laidMet.reads h (.tail _ (.tail _ (.tail _ (.head _)))))
noncomputable def zp9 (os:Os):World:=World.laidAll Tryz.prog os zE6
theorem laid_os (os:Os):(zp9 os).os = os:=World.laidAll_os _ _ _
set_option maxRecDepth 100000 in
theorem laid_met (os:Os) (args:Array Value):laidMet Tryz.prog zE6 ((zp9 os).forCall (fun _ _ => 0) ⟨#[],args,[]⟩).memory :=
 laidMet_laidAll args (by kernel_rfl) (by kernel_rfl)
end Go.Proofs.YthjoelpfmimedaaGreatDoor.K
namespace Go.Proofs.YthjoelpfmimedaaGreatDoor
open Go.ChangeShapes Go.WideShapes Go.ChangeAt Go.RowKit
end Go.Proofs.YthjoelpfmimedaaGreatDoor
namespace Go.Proofs.YthjoelpfmimedaaGreatDoor
open Go.RowKit
theorem zq4 (w:World) (xs:Array Value) (t:TypeId) (j:Nat) (h:j < xs.size):(w.alloc (.cells xs t)).cell? ((⟨w.heap.size,0,none⟩ : Addr).add j) = some xs[j]:=by
 have e:(⟨w.heap.size,0,none⟩ : Addr).add j = ⟨w.heap.size,j,none⟩:=by
  unfold Addr.add; split <;> simp_all
 rw [e,World.cell?_alloc_at _ _ _ _ rfl,Array.getElem?_eq_getElem h]
theorem zm0 (l:List UInt8) (k:Nat) (h:k < l.length):l.take (k + 1) = l.take k ++ [l[k]]:=by
 rw [List.take_succ_eq_append_getElem h]
theorem size_eq (s:ByteArray):s.data.toList.length = s.size:=by rw [Array.length_toList]; rfl
theorem zd3 {s:ByteArray} (h:0 < s.size):s.toList ≠ []:=by
 rw [Lib.toList_data]; intro e
 have:=congrArg List.length e
 rw [size_eq,List.length_nil] at this; omega
theorem zc6 {s:ByteArray} (h:0 < s.size):s.toList.isEmpty = false:=by
 have:=zd3 h
 cases e:s.toList with
 | nil => exact absurd e this
 | cons => rfl
theorem zp8 {s:ByteArray} (h:s.size = 0):s.toList = []:=by
 rw [Lib.toList_data]; have:=size_eq s; exact List.eq_nil_of_length_eq_zero (by omega)
theorem zb7 (c:UInt8):(c.toNat:Int) ≤ 255:=by have:=c.toNat_lt; omega
theorem u8_ne {c d:UInt8} (h:c ≠ d):((c.toNat:Int) == (d.toNat:Int)) = false:=by
 rw [beq_eq_false_iff_ne]; intro e; exact h (UInt8.toNat_inj.1 (by omega))
end Go.Proofs.YthjoelpfmimedaaGreatDoor
namespace Go.Proofs.YthjoelpfmimedaaGreatDoor
open Go.RowKit
inductive VT where
 | mk (k n:Int) (s:ByteArray) (items:List VT) (keys:List ByteArray)
mutual
def VT.size:VT → Nat
 | .mk _ _ _ is _ => 1 + VT.sizes is
def VT.sizes:List VT → Nat
 | [] => 0
 | t :: r => t.size + VT.sizes r
end
mutual
def VT.depth:VT → Nat
 | .mk _ _ _ is _ => 1 + VT.depths is
def VT.depths:List VT → Nat
 | [] => 0
 | t :: r => max t.depth (VT.depths r)
end
theorem VT.ind {P:VT → Prop} (h:∀ k n s is ks,(∀ (i:Nat) (t:VT),is[i]? = some t → P t) → P (.mk k n s is ks)) (t:VT):P t :=
 VT.rec (motive_1:=P) (motive_2:=fun l => ∀ (i:Nat) (t:VT),l[i]? = some t → P t) (fun k n s is ks ih => h k n s is ks ih)
  (fun i t hi => by simp at hi) (fun x r hx hr i t hi => by
    cases i with
    | zero => simp at hi; subst hi; exact hx
    | succ j => exact hr j t (by simpa using hi)) t
def C5 (w:World) (a:Addr) (v:Value):Prop:=∃ c0 c1 c2 c3 c4,v = .agg #[c0,c1,c2,c3,c4] ∧ w.cell? a = some c0 ∧ w.cell? ⟨a.block,a.off + 1,none⟩ = some c1 ∧ w.cell? ⟨a.block,a.off + 2,none⟩ = some c2 ∧ w.cell? ⟨a.block,a.off + 3,none⟩ = some c3 ∧ w.cell? ⟨a.block,a.off + 4,none⟩ = some c4
def KeysAt (w:World) (B:Nat) (K:Option Addr) (keys:List ByteArray):Prop :=
 0 < keys.length → ∃ a,K = some a ∧ a.block < B ∧ ∀ i s,keys[i]? = some s → w.cell? (a.add i) = some (.string s)
def small (k:Int):Prop:=-9223372036854775808 ≤ k ∧ k ≤ 9223372036854775807
inductive Rd (w:World) (B:Nat):Value → VT → Prop
 | mk {k n:Int} {s:ByteArray} {A:Option Addr} {li ci:Nat} {K:Option Addr} {lk ck:Nat} {items:List VT} {keys:List ByteArray} (V:Nat → Value)
    (hk:small k) (hn:small n) (hs:s.size ≤ 140737488351232) (hks:∀ s ∈ keys,s.size ≤ 140737488351232)
    (hli:items.length = li) (hlk:keys.length = lk) (hbi:li * 80 ≤ 140737488351232) (hbk:lk * 16 ≤ 140737488351232)
    (hA:0 < li → ∃ a,A = some a ∧ a.block < B ∧ ∀ i,i < li → C5 w (a.add (i * 5)) (V i))
    (hr:∀ (i:Nat) (t:VT),items[i]? = some t → Rd w B (V i) t)
    (hK:KeysAt w B K keys) :
    Rd w B (.agg #[.int .i64 k,.int .i64 n,.string s,.slice A li ci,.slice K lk ck]) (.mk k n s items keys)
theorem za1 (a:Addr) (n:Nat):(a.add n).block = a.block:=by unfold Addr.add; split <;> rfl
theorem C5.kept {w w':World} {B:Nat} {a:Addr} {v:Value} (h:C5 w a v) (ha:a.block < B) (hb:Below B w w'):C5 w' a v:=by
 obtain ⟨c0,c1,c2,c3,c4,e,h0,h1,h2,h3,h4⟩:=h
 exact ⟨c0,c1,c2,c3,c4,e,(hb.cell ha).trans h0,(hb.cell (p:=⟨a.block,a.off + 1,none⟩) ha).trans h1,(hb.cell (p:=⟨a.block,a.off + 2,none⟩) ha).trans h2,(hb.cell (p:=⟨a.block,a.off + 3,none⟩) ha).trans h3,(hb.cell (p:=⟨a.block,a.off + 4,none⟩) ha).trans h4⟩
theorem KeysAt.kept {w w':World} {B:Nat} {K:Option Addr} {keys:List ByteArray} (h:KeysAt w B K keys) (hb:Below B w w'):KeysAt w' B K keys:=by
 intro hl
 obtain ⟨a,e,ha,hc⟩:=h hl
 exact ⟨a,e,ha,fun i s hi => (hb.cell (by rw [za1]; exact ha)).trans (hc i s hi)⟩
theorem Rd.kept {w w':World} {B:Nat} {v:Value} {t:VT} (h:Rd w B v t) (hb:Below B w w'):Rd w' B v t:=by
 induction h with
 | mk V hk hn hs hks hli hlk hbi hbk hA hr hK ih =>
   refine .mk V hk hn hs hks hli hlk hbi hbk (fun h0 => ?_) ih (hK.kept hb)
   obtain ⟨a,e,ha,hc⟩:=hA h0
   exact ⟨a,e,ha,fun i hi => (hc i hi).kept (by rw [za1]; exact ha) hb⟩
theorem Rd.mono {w:World} {B B':Nat} {v:Value} {t:VT} (h:Rd w B v t) (hb:B ≤ B'):Rd w B' v t:=by
 induction h with
 | mk V hk hn hs hks hli hlk hbi hbk hA hr hK ih =>
   refine .mk V hk hn hs hks hli hlk hbi hbk (fun h0 => ?_) ih (fun h0 => ?_)
   ·obtain ⟨a,e,ha,hc⟩:=hA h0
    exact ⟨a,e,by omega,hc⟩
   ·obtain ⟨a,e,ha,hc⟩:=hK h0
    exact ⟨a,e,by omega,hc⟩
theorem Rd.cells {w w':World} {B:Nat} {v:Value} {t:VT} {a:Addr} (h:Rd w B v t) (hc:C5 w' a v) :
  ∃ (k n:Int) (s:ByteArray) (A:Option Addr) (li ci:Nat) (K:Option Addr) (lk ck:Nat),v = .agg #[.int .i64 k,.int .i64 n,.string s,.slice A li ci,.slice K lk ck] ∧
   w'.cell? a = some (.int .i64 k) ∧ w'.cell? ⟨a.block,a.off + 1,none⟩ = some (.int .i64 n) ∧ w'.cell? ⟨a.block,a.off + 2,none⟩ = some (.string s) ∧
   w'.cell? ⟨a.block,a.off + 3,none⟩ = some (.slice A li ci) ∧ w'.cell? ⟨a.block,a.off + 4,none⟩ = some (.slice K lk ck):=by
 cases h with
 | mk V hk hn hs hks hli hlk hbi hbk hA hr hK =>
   obtain ⟨c0,c1,c2,c3,c4,e,h0,h1,h2,h3,h4⟩:=hc
   simp only [Value.agg.injEq,Array.mk.injEq,List.cons.injEq,and_true] at e
   obtain ⟨rfl,rfl,rfl,rfl,rfl⟩:=e
   exact ⟨_,_,_,_,_,_,_,_,_,rfl,h0,h1,h2,h3,h4⟩
theorem items_at {items:List VT} {li j:Nat} (hli:items.length = li) (hj:j < li):∃ t,items[j]? = some t:=⟨items[j]'(by omega),List.getElem?_eq_getElem (by omega)⟩
theorem zU7 (l:List VT) (k:Nat) (t:VT) (h:l[k]? = some t):VT.sizes (l.take (k+1)) = VT.sizes (l.take k) + t.size:=by
 induction l generalizing k with
 | nil => simp at h
 | cons x r ih =>
   cases k with
   | zero => simp at h; subst h; simp [VT.sizes]
   | succ j => simp only [List.take_succ_cons,VT.sizes]; rw [ih j (by simpa using h)]; omega
theorem zD6 (l:List VT) (k:Nat):VT.sizes (l.take k) ≤ VT.sizes l:=by
 induction l generalizing k with
 | nil => simp
 | cons x r ih =>
   cases k with
   | zero => simp [VT.sizes]
   | succ j => simp only [List.take_succ_cons,VT.sizes]; have:=ih j; omega
theorem zl0 {w wr:World} {B li j:Nat} {A:Option Addr} {V:Nat → Value} {items:List VT} (hA:0 < li → ∃ a,A = some a ∧ a.block < B ∧ ∀ i,i < li → C5 w (a.add (i * 5)) (V i))
  (hR:∀ (i:Nat) (t:VT),items[i]? = some t → Rd w B (V i) t) (hli:items.length = li) (hb:Below B w wr) (hj:j < li) :
  ∃ (a:Addr) (t:VT) (k n:Int) (s:ByteArray) (A1:Option Addr) (l1 c1:Nat) (K:Option Addr) (lk ck:Nat),A = some a ∧ items[j]? = some t ∧ V j = .agg #[.int .i64 k,.int .i64 n,.string s,.slice A1 l1 c1,.slice K lk ck] ∧ Rd wr B (V j) t ∧
   wr.cell? (a.add (j * 5)) = some (.int .i64 k) ∧ wr.cell? ⟨(a.add (j * 5)).block,(a.add (j * 5)).off + 1,none⟩ = some (.int .i64 n) ∧ wr.cell? ⟨(a.add (j * 5)).block,(a.add (j * 5)).off + 2,none⟩ = some (.string s) ∧
   wr.cell? ⟨(a.add (j * 5)).block,(a.add (j * 5)).off + 3,none⟩ = some (.slice A1 l1 c1) ∧ wr.cell? ⟨(a.add (j * 5)).block,(a.add (j * 5)).off + 4,none⟩ = some (.slice K lk ck):=by
 obtain ⟨a,e,ha,hc⟩:=hA (by omega)
 obtain ⟨t,ht⟩:=items_at hli hj
 have hrd:=(hR j t ht).kept hb
 obtain ⟨k,n,s,A1,l1,c1,K,lk,ck,e1,h⟩:=hrd.cells ((hc j hj).kept (by rw [za1]; exact ha) hb)
 exact ⟨a,t,k,n,s,A1,l1,c1,K,lk,ck,e,ht,e1,hrd,h⟩
theorem zQ0 (l:List VT) (k:Nat) (t:VT) (h:l[k]? = some t):VT.depths (l.take (k+1)) = max (VT.depths (l.take k)) t.depth:=by
 induction l generalizing k with
 | nil => simp at h
 | cons x r ih =>
   cases k with
   | zero => simp at h; subst h; simp [VT.depths]
   | succ j => simp only [List.take_succ_cons,VT.depths]; rw [ih j (by simpa using h)]; omega
theorem zn9 (l:List VT) (k:Nat):VT.depths (l.take k) ≤ VT.depths l:=by
 induction l generalizing k with
 | nil => simp
 | cons x r ih =>
   cases k with
   | zero => simp [VT.depths]
   | succ j => simp only [List.take_succ_cons,VT.depths]; have:=ih j; omega
mutual
theorem VT.depth_le (t:VT):t.depth ≤ t.size:=by
 cases t with
 | mk k n s is ks => simp only [VT.depth,VT.size]; have:=VT.depths_le is; omega
theorem VT.depths_le (l:List VT):VT.depths l ≤ VT.sizes l:=by
 cases l with
 | nil => simp [VT.depths]
 | cons t r => simp only [VT.depths,VT.sizes]; have:=VT.depth_le t; have:=VT.depths_le r; omega
end
end Go.Proofs.YthjoelpfmimedaaGreatDoor
namespace Go.Proofs.YthjoelpfmimedaaGreatDoor
open Go.RowKit Go.ChangeShapes Go.WideShapes
section
variable {H:Type} {enc:TypeId × Value → H} {w:World} {spare:Nat → Bool} {held:Bool}
end
end Go.Proofs.YthjoelpfmimedaaGreatDoor
namespace Go.Proofs.YthjoelpfmimedaaGreatDoor
open Go.RowKit Go.ChangeShapes Go.WideShapes
section
variable {H:Type} {enc:TypeId × Value → H} {W:World} {spare:Nat → Bool} {held:Bool}
end
end Go.Proofs.YthjoelpfmimedaaGreatDoor
namespace Go.Proofs.YthjoelpfmimedaaGreatDoor
open Go.RowKit
def at_ (a:Addr):Nat → Addr
 | 0 => a
 | j + 1 => ⟨a.block,a.off + (j + 1),none⟩
theorem zb6 (a:Addr) (j:Nat):(at_ a j).block = a.block:=by cases j <;> rfl
abbrev big:Nat:=140737488351232
structure Stays {α:Type} (R:World → Nat → (Nat → Value) → α → Prop):Prop where
 kept:∀ {w w':World} {B:Nat} {f:Nat → Value} {x : α},R w B f x → Below B w w' → R w' B f x
 mono:∀ {w:World} {B B':Nat} {f:Nat → Value} {x : α},R w B f x → B ≤ B' → R w B' f x
def Sl {α:Type} (k bytes:Nat) (R:World → Nat → (Nat → Value) → α → Prop) (w:World) (B:Nat) (v:Value) (xs:List α):Prop :=
 ∃ A c,v = .slice A xs.length c ∧ xs.length ≤ c ∧ xs.length * bytes ≤ big ∧ ∃ V:Nat → Nat → Value,
  (0 < xs.length → ∃ a,A = some a ∧ a.block < B ∧ ∀ i,i < xs.length → ∀ j,j < k → w.cell? (at_ (a.add (i * k)) j) = some (V i j)) ∧ ∀ i x,xs[i]? = some x → R w B (V i) x
theorem Sl.kept {α:Type} {k bytes:Nat} {R:World → Nat → (Nat → Value) → α → Prop} (hR:Stays R) {w w':World} {B:Nat} {v:Value} {xs:List α} (h:Sl k bytes R w B v xs) (hw:Below B w w'):Sl k bytes R w' B v xs:=by
 obtain ⟨A,c,e,hc,hb,V,hA,hr⟩:=h
 refine ⟨A,c,e,hc,hb,V,fun h0 => ?_,fun i x hx => hR.kept (hr i x hx) hw⟩
 obtain ⟨a,ea,ha,hx⟩:=hA h0
 exact ⟨a,ea,ha,fun i hi j hj => (hw.cell (by rw [zb6,za1]; exact ha)).trans (hx i hi j hj)⟩
theorem Sl.mono {α:Type} {k bytes:Nat} {R:World → Nat → (Nat → Value) → α → Prop} (hR:Stays R) {w:World} {B B':Nat} {v:Value} {xs:List α} (h:Sl k bytes R w B v xs) (hB:B ≤ B'):Sl k bytes R w B' v xs:=by
 obtain ⟨A,c,e,hc,hb,V,hA,hr⟩:=h
 refine ⟨A,c,e,hc,hb,V,fun h0 => ?_,fun i x hx => hR.mono (hr i x hx) hB⟩
 obtain ⟨a,ea,ha,hx⟩:=hA h0
 exact ⟨a,ea,Nat.lt_of_lt_of_le ha hB,hx⟩
structure DirT where
 name:ByteArray
 args:List (ByteArray × VT)
structure InpT where
 name:ByteArray
 tn:ByteArray
 tw:List Int
 has:Bool
 dflt:VT
 dirs:List DirT
structure FldT where
 name:ByteArray
 args:List InpT
 tn:ByteArray
 tw:List Int
 dirs:List DirT
structure MemT where
 name:ByteArray
 dirs:List DirT
structure DefT where
 kind:Int
 name:ByteArray
 impl:List ByteArray
 dirs:List DirT
 fields:List FldT
 members:List MemT
 inputs:List InpT
def StrR (_:World) (_:Nat) (f:Nat → Value) (s:ByteArray):Prop:=f 0 = .string s ∧ s.size ≤ big
def IntR (_:World) (_:Nat) (f:Nat → Value) (n:Int):Prop:=f 0 = .int .i64 n ∧ small n
def WrapsR:=Sl 1 8 IntR
def NamesR:=Sl 1 16 StrR
structure RfR (w:World) (B:Nat) (c0 c1:Value) (n:ByteArray) (xs:List Int):Prop where
 name:c0 = .string n
 size:n.size ≤ big
 wraps:WrapsR w B c1 xs
structure ArgR (w:World) (B:Nat) (f:Nat → Value) (x:ByteArray × VT):Prop where
 name:f 0 = .string x.1
 size:x.1.size ≤ big
 val:Rd w B (.agg #[f 1,f 2,f 3,f 4,f 5]) x.2
def ArgsR:=Sl 6 96 ArgR
structure DirR (w:World) (B:Nat) (f:Nat → Value) (x:DirT):Prop where
 name:f 0 = .string x.name
 size:x.name.size ≤ big
 args:ArgsR w B (f 1) x.args
def DirsR:=Sl 2 40 DirR
structure InpR (w:World) (B:Nat) (f:Nat → Value) (x:InpT):Prop where
 name:f 0 = .string x.name
 size:x.name.size ≤ big
 type:RfR w B (f 1) (f 2) x.tn x.tw
 has:f 3 = .bool x.has
 val:Rd w B (.agg #[f 4,f 5,f 6,f 7,f 8]) x.dflt
 dirs:DirsR w B (f 9) x.dirs
def InpsR:=Sl 10 168 InpR
structure FldR (w:World) (B:Nat) (f:Nat → Value) (x:FldT):Prop where
 name:f 0 = .string x.name
 size:x.name.size ≤ big
 args:InpsR w B (f 1) x.args
 type:RfR w B (f 2) (f 3) x.tn x.tw
 dirs:DirsR w B (f 4) x.dirs
def FldsR:=Sl 5 104 FldR
structure MemR (w:World) (B:Nat) (f:Nat → Value) (x:MemT):Prop where
 name:f 0 = .string x.name
 size:x.name.size ≤ big
 dirs:DirsR w B (f 1) x.dirs
def MemsR:=Sl 2 40 MemR
structure DefR (w:World) (B:Nat) (f:Nat → Value) (x:DefT):Prop where
 kind:f 0 = .int .i64 x.kind
 small:small x.kind
 name:f 1 = .string x.name
 size:x.name.size ≤ big
 impl:NamesR w B (f 2) x.impl
 dirs:DirsR w B (f 3) x.dirs
 fields:FldsR w B (f 4) x.fields
 members:MemsR w B (f 5) x.members
 inputs:InpsR w B (f 6) x.inputs
def DefsR:=Sl 7 144 DefR
theorem StrR.stays:Stays StrR:=⟨fun h _ => h,fun h _ => h⟩
theorem IntR.stays:Stays IntR:=⟨fun h _ => h,fun h _ => h⟩
section
variable {w w':World} {B B':Nat}
theorem WrapsR.kept {v:Value} {xs:List Int} (h:WrapsR w B v xs) (hb:Below B w w'):WrapsR w' B v xs:=Sl.kept IntR.stays h hb
theorem WrapsR.mono {v:Value} {xs:List Int} (h:WrapsR w B v xs) (hb:B ≤ B'):WrapsR w B' v xs:=Sl.mono IntR.stays h hb
theorem NamesR.kept {v:Value} {xs:List ByteArray} (h:NamesR w B v xs) (hb:Below B w w'):NamesR w' B v xs:=Sl.kept StrR.stays h hb
theorem NamesR.mono {v:Value} {xs:List ByteArray} (h:NamesR w B v xs) (hb:B ≤ B'):NamesR w B' v xs:=Sl.mono StrR.stays h hb
theorem RfR.kept {c0 c1:Value} {n:ByteArray} {xs:List Int} (h:RfR w B c0 c1 n xs) (hb:Below B w w'):RfR w' B c0 c1 n xs:=⟨h.name,h.size,h.wraps.kept hb⟩
theorem RfR.mono {c0 c1:Value} {n:ByteArray} {xs:List Int} (h:RfR w B c0 c1 n xs) (hb:B ≤ B'):RfR w B' c0 c1 n xs:=⟨h.name,h.size,h.wraps.mono hb⟩
theorem ArgR.stays:Stays ArgR:=⟨fun h hb => ⟨h.name,h.size,h.val.kept hb⟩,fun h hb => ⟨h.name,h.size,h.val.mono hb⟩⟩
theorem ArgsR.kept {v:Value} {xs:List (ByteArray × VT)} (h:ArgsR w B v xs) (hb:Below B w w'):ArgsR w' B v xs:=Sl.kept ArgR.stays h hb
theorem ArgsR.mono {v:Value} {xs:List (ByteArray × VT)} (h:ArgsR w B v xs) (hb:B ≤ B'):ArgsR w B' v xs:=Sl.mono ArgR.stays h hb
theorem DirR.stays:Stays DirR:=⟨fun h hb => ⟨h.name,h.size,h.args.kept hb⟩,fun h hb => ⟨h.name,h.size,h.args.mono hb⟩⟩
theorem DirsR.kept {v:Value} {xs:List DirT} (h:DirsR w B v xs) (hb:Below B w w'):DirsR w' B v xs:=Sl.kept DirR.stays h hb
theorem DirsR.mono {v:Value} {xs:List DirT} (h:DirsR w B v xs) (hb:B ≤ B'):DirsR w B' v xs:=Sl.mono DirR.stays h hb
theorem InpR.stays:Stays InpR:=⟨fun h hb => ⟨h.name,h.size,h.type.kept hb,h.has,h.val.kept hb,h.dirs.kept hb⟩,fun h hb => ⟨h.name,h.size,h.type.mono hb,h.has,h.val.mono hb,h.dirs.mono hb⟩⟩
theorem InpsR.kept {v:Value} {xs:List InpT} (h:InpsR w B v xs) (hb:Below B w w'):InpsR w' B v xs:=Sl.kept InpR.stays h hb
theorem InpsR.mono {v:Value} {xs:List InpT} (h:InpsR w B v xs) (hb:B ≤ B'):InpsR w B' v xs:=Sl.mono InpR.stays h hb
theorem FldR.stays:Stays FldR:=⟨fun h hb => ⟨h.name,h.size,h.args.kept hb,h.type.kept hb,h.dirs.kept hb⟩,fun h hb => ⟨h.name,h.size,h.args.mono hb,h.type.mono hb,h.dirs.mono hb⟩⟩
theorem FldsR.kept {v:Value} {xs:List FldT} (h:FldsR w B v xs) (hb:Below B w w'):FldsR w' B v xs:=Sl.kept FldR.stays h hb
theorem FldsR.mono {v:Value} {xs:List FldT} (h:FldsR w B v xs) (hb:B ≤ B'):FldsR w B' v xs:=Sl.mono FldR.stays h hb
theorem MemR.stays:Stays MemR:=⟨fun h hb => ⟨h.name,h.size,h.dirs.kept hb⟩,fun h hb => ⟨h.name,h.size,h.dirs.mono hb⟩⟩
theorem MemsR.kept {v:Value} {xs:List MemT} (h:MemsR w B v xs) (hb:Below B w w'):MemsR w' B v xs:=Sl.kept MemR.stays h hb
theorem MemsR.mono {v:Value} {xs:List MemT} (h:MemsR w B v xs) (hb:B ≤ B'):MemsR w B' v xs:=Sl.mono MemR.stays h hb
theorem DefR.stays:Stays DefR:=⟨fun h hb => ⟨h.kind,h.small,h.name,h.size,h.impl.kept hb,h.dirs.kept hb,h.fields.kept hb,h.members.kept hb,h.inputs.kept hb⟩,fun h hb => ⟨h.kind,h.small,h.name,h.size,h.impl.mono hb,h.dirs.mono hb,h.fields.mono hb,h.members.mono hb,h.inputs.mono hb⟩⟩
theorem DefsR.kept {v:Value} {xs:List DefT} (h:DefsR w B v xs) (hb:Below B w w'):DefsR w' B v xs:=Sl.kept DefR.stays h hb
theorem DefsR.mono {v:Value} {xs:List DefT} (h:DefsR w B v xs) (hb:B ≤ B'):DefsR w B' v xs:=Sl.mono DefR.stays h hb
end
theorem Sl.form {α:Type} {k bytes:Nat} {R:World → Nat → (Nat → Value) → α → Prop} {w:World} {B:Nat} {v:Value} {xs:List α} (h:Sl k bytes R w B v xs):∃ A c,v = .slice A xs.length c ∧ xs.length ≤ c ∧ xs.length * bytes ≤ big:=by
 obtain ⟨A,c,e,hc,hb,_⟩:=h; exact ⟨A,c,e,hc,hb⟩
theorem Rd.form {w:World} {B:Nat} {c0 c1 c2 c3 c4:Value} {t:VT} (h:Rd w B (.agg #[c0,c1,c2,c3,c4]) t):∃ (k n:Int) (s:ByteArray) (A:Option Addr) (li ci:Nat) (K:Option Addr) (lk ck:Nat),c0 = .int .i64 k ∧ c1 = .int .i64 n ∧ c2 = .string s ∧ c3 = .slice A li ci ∧ c4 = .slice K lk ck:=by
 cases h with
 | mk V => exact ⟨_,_,_,_,_,_,_,_,_,rfl,rfl,rfl,rfl,rfl⟩
theorem zt2 {α:Type} (p : α → Bool) (xs:List α) (f:Nat → Bool) (h:∀ i x,xs[i]? = some x → f i = p x):(decide (∀ i,i < xs.length → f i = true)) = xs.all p:=by
 rw [Bool.eq_iff_iff]
 simp only [decide_eq_true_eq,List.all_eq_true]
 constructor
 ·intro H x hx
  obtain ⟨i,hi,rfl⟩:=List.mem_iff_getElem.1 hx
  rw [← h i _ (List.getElem?_eq_getElem hi)]
  exact H i hi
 ·intro H i hi
  rw [h i _ (List.getElem?_eq_getElem hi)]
  exact H _ (List.getElem_mem hi)
end Go.Proofs.YthjoelpfmimedaaGreatDoor
namespace Go.Proofs.YthjoelpfmimedaaGreatDoor
open Go.RowKit
set_option maxHeartbeats 2000000 in
theorem zD0 (q:Nat) (A:Option Addr) (len c:Nat) (least most:Int) (V:Nat → Nat → Value) (p:Nat → Bool) (w:World) (hlen:len ≤ 140737488351232)
  (hA:0 < len → ∃ a,A = some a ∧ a.block < w.heap.size ∧ ∀ i,i < len → ∀ j,j < 2 → w.cell? (at_ (a.add (i * 2)) j) = some (V i j))
  (hS:∀ i,i < len → ∃ (s0:ByteArray) (A1:Option Addr) (l1 z1:Nat),V i 0 = .string s0 ∧ V i 1 = .slice A1 l1 z1)
  (hC:∀ i,i < len → ∀ x:World,Below w.heap.size w x → Calls Tryz.prog 156 (#[(.agg #[(V i 0),(V i 1)])] ++ #[.pointer (some ⟨q,0,none⟩)]) x fun e w' => e = .returned (.bool (p i)) ∧ Below x.heap.size x w') :
  Calls Tryz.prog 155 #[.slice A len c,.int .i64 least,.int .i64 most,.func (.func 156) #[] #[.pointer (some ⟨q,0,none⟩)]] w fun e w' => e = .returned (.bool (decide (least ≤ len) && decide (len ≤ most) && decide (∀ i,i < len → p i = true))) ∧ Below w.heap.size w w':=by
 have HA:=Lib.hid hA
 have HC:=Lib.hid hC
 have HS:=Lib.hid hS
 obtain ⟨RB,hRB⟩ : ∃ RB,RB = (decide (least ≤ (len:Int)) && decide ((len:Int) ≤ most) && decide (∀ i,i < len → p i = true)):=⟨_,rfl⟩
 rw [← hRB]
 have hl:(len:Int) ≤ 140737488351232:=by omega
 clear hA hC hS
 by_cases h1:(len:Int) < least
 ·have HV:Hid (RB = false):=Lib.hid (by rw [hRB,decide_eq_false (by omega:¬ least ≤ (len:Int))]; rfl)
  clear hlen hl hRB
  go_enter Tryz.func155, Tryz.ntmps155
  go_wp2_with fail
  go_ret
  exact ⟨by rw [HV.out]; rfl,Below.refl _ _⟩
 ·by_cases h2:(len:Int) > most
  ·have HV:Hid (RB = false):=Lib.hid (by rw [hRB,decide_eq_false (by omega:¬ (len:Int) ≤ most)]; simp)
   clear hlen hl hRB
   go_enter Tryz.func155, Tryz.ntmps155
   go_wp2_with fail
   go_ret
   exact ⟨by rw [HV.out]; rfl,Below.refl _ _⟩
  ·have HV:Hid (RB = decide (∀ i,i < len → p i = true)):=Lib.hid (by rw [hRB,decide_eq_true (by omega:least ≤ (len:Int)),decide_eq_true (by omega:(len:Int) ≤ most)]; rfl)
   go_enter Tryz.func155, Tryz.ntmps155
   go_wp2_with fail
   clear h1 h2 hRB
   go_loopw [23] (fun u wr => ∃ i:Nat,i ≤ len ∧ u = .int .i64 i ∧ Hid ((∀ j,j < i → p j = true) ∧ Below w.heap.size w wr)) (fun u _ => len - (intOf u).toNat)
   case atStart => exact ⟨0,Nat.zero_le _,rfl,Lib.hid ⟨fun j hj => absurd hj (Nat.not_lt_zero _),Below.refl _ _⟩⟩
   case round =>
    obtain ⟨i,hi,rfl,hr⟩:=hrel
    by_cases hlt:i < len
    ·have hlt':(i:Int) < len:=by omega
     obtain ⟨a,rfl,ha,hc0⟩:=HA.out (by omega)
     have hc:∀ j,j < 2 → wr.cell? (at_ (a.add (i * 2)) j) = some (V i j):=fun j hj => (hr.out.2.cell (by rw [zb6,za1]; exact ha)).trans (hc0 i hlt j hj)
     have hs:=hr.out.2.size
     have k0:wr.cell? (a.add (i * 2)) = some (V i 0):=hc 0 (by omega)
     have k1:wr.cell? ⟨(a.add (i * 2)).block,(a.add (i * 2)).off + 1,none⟩ = some (V i 1):=hc 1 (by omega)
     obtain ⟨s0,A1,l1,z1,e0,e1⟩:=HS.out i hlt
     have HCC:=Lib.hid fun x hx => HC.out i hlt x (hr.out.2.trans (Below.mono hx hs))
     clear hc0 hc
     rw [e0] at k0 HCC
     rw [e1] at k1 HCC
     clear e0 e1
     cases hp:p i with
     | true =>
       go_wp2_with fail
       refine (HCC.out _ ((Below.refl _ _).alloc (Nat.le_refl _) _)).mono ?_
       rintro e w1 ⟨rfl,hb⟩
       rw [hp]
       have HB1:=Lib.hid (hr.out.2.trans (Below.mono (((Below.refl _ _).alloc (Nat.le_refl _) _:Below wr.heap.size wr _).trans (Below.mono hb (by simp))) hs))
       have HAL:Hid (∀ j,j < i + 1 → p j = true):=Lib.hid (fun j hj => by
        rcases Nat.lt_or_ge j i with h | h
        ·exact hr.out.1 j h
        ·have:j = i:=by omega
         rw [this]; exact hp)
       clear hb
       go_wp2_with fail
       go_roundw
       case rel => exact ⟨i + 1,by omega,by simp,Lib.hid ⟨HAL.out,HB1.out⟩⟩
       case measure => simp [intOf]; omega
     | false =>
       go_wp2_with fail
       refine (HCC.out _ ((Below.refl _ _).alloc (Nat.le_refl _) _)).mono ?_
       rintro e w1 ⟨rfl,hb⟩
       rw [hp]
       have HB1:=Lib.hid (hr.out.2.trans (Below.mono (((Below.refl _ _).alloc (Nat.le_refl _) _:Below wr.heap.size wr _).trans (Below.mono hb (by simp))) hs))
       have HVF:Hid (decide (∀ i,i < len → p i = true) = false):=Lib.hid (decide_eq_false fun h => by rw [h i hlt] at hp; cases hp)
       clear hb
       go_wp2_with fail
       go_ret
       exact ⟨by rw [HV.out,HVF.out]; rfl,HB1.out⟩
    ·have:i = len:=by omega
     subst this
     have HVT:Hid (decide (∀ j,j < i → p j = true) = true):=Lib.hid (decide_eq_true hr.out.1)
     go_wp2_with fail
     go_ret
     exact ⟨by rw [HV.out,HVT.out]; rfl,hr.out.2⟩
end Go.Proofs.YthjoelpfmimedaaGreatDoor
