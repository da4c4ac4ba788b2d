
/-
 Texts joined: KTok KFirst KLaid WitK Base Name Val.
-/
import Derived.Test.YtfgelheiknmjgaaGreatDoorZr3
import Derived.Test.YtfgelheiknmjgaaGreatDoorCards
import Derived.Test.YtfgelheiknmjgaaGreatDoorTie
import Derived.Deep.DeepWitnessRowRef
import Derived.Stop.LaidErr
import Derived.OpenShut
import Derived.Lib.LaidU8
import Derived.PinnedBridge
import Derived.Lay
import Derived.ChangeSame
import Derived.JoinedOf
import Derived.JoinedAt
import Derived.RowKit
import Derived.RowKit2
import Derived.ReadAgain
import Derived.Carry
import Derived.SizedLaws
import Derived.Test.YtfgelheiknmjgaaGreatDoorProg
import Derived.WalkKit
import Derived.ProofKit
import Derived.Outline
import Derived.WalkSpells
import Derived.WalkLawsBesides
import Derived.Deep.QuietTactic
import Derived.BigQuiet
import Derived.StillTailTactics
import Derived.Lib.Hide
import Derived.Lib.Strings
import Derived.Deep.AppendLies
import Derived.Deep.RegionLaw
import Derived.ChangeAlike
import Derived.Deep.MidRow
set_option maxRecDepth 1000000
set_option maxHeartbeats 8000000
namespace Go.Proofs.YtfgelheiknmjgaaGreatDoor.K
open Go.RowKit
structure LK (w:World):Prop where
 num:T1.Laid w
 utf:Lib.Utf8Tabs 0 1 w
theorem LK.below {w w':World} (h:LK w) (hb:Below w.heap.size w w'):LK w':=⟨h.num.below hb,Utf8Tabs_below h.utf hb⟩
def TB (W:World) (b:Nat) (c0 c1 c2:Value):Prop:=W.heap[b]?=some (.cells #[c0,c1,c2] 99 (0,0))
theorem TB.cells {W:World} {b:Nat} {c0 c1 c2:Value} (h:TB W b c0 c1 c2):W.cell? ⟨b,0,none⟩=some c0/\W.cell? ⟨b,1,none⟩=some c1/\W.cell? ⟨b,2,none⟩=some c2:=by
 refine ⟨?_, ?_, ?_⟩ <;> rw [cell_of_row _ _ _ _ _ _ h] <;> rfl
theorem TB.frz {W:World} {b:Nat} {c0 c1 c2:Value} (h:TB W b c0 c1 c2) (i:Nat):W.frozen? ⟨b,i,none⟩=false:=by
 unfold TB at h; simp [World.frozen?,h]
theorem TB.three {W:World} {b:Nat} {c0 c1 c2:Value} (h:TB W b c0 c1 c2) (u0 u1 u2:Value):TB (((W.setCell ⟨b,0,none⟩ u0).setCell ⟨b,1,none⟩ u1).setCell ⟨b,2,none⟩ u2) b u0 u1 u2:=by
 unfold TB at h ⊢; simp [World.setCell,Array.getElem?_modify,h]
theorem TB.kept {W W':World} {b:Nat} {c0 c1 c2:Value} (h:TB W b c0 c1 c2) (hb:W'.heap[b]?=W.heap[b]?):TB W' b c0 c1 c2:=hb.trans h
theorem TB.lt {W:World} {b:Nat} {c0 c1 c2:Value} (h:TB W b c0 c1 c2):b<W.heap.size:=by
 unfold TB at h;rcases Nat.lt_or_ge b W.heap.size with h' | h'
 ·exact h'
 ·rw [Array.getElem?_eq_none h'] at h; cases h
theorem TB.stay {W W':World} {b:Nat} {c0 c1 c2:Value} (h:TB W b c0 c1 c2) (hb:Below W.heap.size W W'):TB W' b c0 c1 c2:=h.kept (hb.block b h.lt)
theorem Below.three {N b:Nat} {w w':World} (h:Below N w w') (hb:N<=b) (u0 u1 u2:Value):Below N w (((w'.setCell ⟨b,0,none⟩ u0).setCell ⟨b,1,none⟩ u1).setCell ⟨b,2,none⟩ u2) :=
 ((h.setCell (p:=⟨b,0,none⟩) hb u0).setCell (p:=⟨b,1,none⟩) hb u1).setCell (p:=⟨b,2,none⟩) hb u2
abbrev tkV (k:Int) (t:ByteArray) (a:Int):Value:=.agg #[.int .i64 k,.string t,.int .i64 a]
def TokAns (o:Except Int (Int × List UInt8 × Nat)) (e:Ending):Prop :=
 match o with
 | .ok (k,t,n)=>e=.returned (.tuple #[tkV k ⟨t.toArray⟩ 0,.int .i64 n,.int .i64 0])
 | .error c=>c≠0/\∃ (k:Int) (t:ByteArray) (n:Int),e=.returned (.tuple #[tkV k t 0,.int .i64 n,.int .i64 c])
def zG2 (o:Except Int (Int × List UInt8 × Nat)) (w:World) (e:Ending) (w':World):Prop:=TokAns o e/\Below w.heap.size w w'
def nameR (l:List UInt8):Except Int (Int × List UInt8 × Nat):=if T1.nameL (l.take (wdN l))=true then .ok (2,l.take (wdN l),wdN l) else .error 3
def intR (l:List UInt8):Except Int (Int × List UInt8 × Nat):=if (T1.numL (l.take (wdN (l.drop 1)+1))).2=0 then .ok (3,l.take (wdN (l.drop 1)+1),wdN (l.drop 1)+1) else .error (T1.numL (l.take (wdN (l.drop 1)+1))).2
def textR (l:List UInt8):Except Int (Int × List UInt8 × Nat):=if l.length<ltN (l.drop 1)+2 then .error 3 else match T1.zc7 (l.take (ltN (l.drop 1)+2)) with
 | none=>.error 3
 | some t=>.ok (4,t,ltN (l.drop 1)+2)
theorem zS8 (s:ByteArray) (n:Nat):(s.extract 0 n).data.toList=s.data.toList.take n:=by
 rw [ByteArray.data_extract,Array.toList_extract]; simp
theorem zO9 (s:ByteArray) (n:Nat):s.extract 0 n=⟨(s.data.toList.take n).toArray⟩:=by
 rw [<- zS8]
theorem zU3 (s:ByteArray) (hs:s.size<=maxLen) (w:World) :
  Calls Tryz.prog 108 #[.string s] w (zG2 (nameR s.data.toList) w):=by
 have HX:Hid (TB (w.alloc (.cells #[.int .i64 0,.string ⟨#[]⟩,.int .i64 0] 99 (0,0))) w.heap.size (.int .i64 0) (.string ⟨#[]⟩) (.int .i64 0)):=Lh (heap_alloc_new w _);have HB:Hid (Below w.heap.size w (w.alloc (.cells #[.int .i64 0,.string ⟨#[]⟩,.int .i64 0] 99 (0,0)))):=Lh ((Below.refl _ _).alloc (Nat.le_refl _) _);have hn:=zQ3 s.data.toList;have hsz:=T1.size_eq s;have hml:maxLen<=9223372036854775807:=by decide
 go_enter Tryz.func108, Tryz.ntmps108
 go_wp2_with fail
 refine (zQ2 s hs _).mono ?_
 rintro e w1 ⟨rfl,hb⟩;have HB1:=Lh (HB.out.trans (hb.mono (by simp)))
 have HX1:=Lh (HX.out.stay hb);clear hb;have HE:=Lh (zS8 s (wdN s.data.toList));have HR:Hid (nameR s.data.toList=if T1.nameL (s.data.toList.take (wdN s.data.toList))=true then .ok (2,s.data.toList.take (wdN s.data.toList),wdN s.data.toList) else .error 3):=Lh rfl
 generalize nameR s.data.toList=R at *;generalize hwn:wdN s.data.toList=n at *;have hn2:(n:Int)<=s.size:=by omega
 have hes:(s.extract 0 n).size<=maxLen:=by
  have h1:=T1.size_eq (s.extract 0 n);have h2:=congrArg List.length HE.out;rw [List.length_take] at h2;omega
 have CALL:=Lh (T1.zl7 (s.extract 0 n) w1 hes);clear hes;go_wp2_with fail
 refine CALL.out.mono ?_
 rintro e w2 ⟨rfl,rfl⟩;rw [HE.out];obtain ⟨x0,x1,x2⟩:=HX1.out.cells;have g0:=HX1.out.frz 0;have g1:=HX1.out.frz 1;have g2:=HX1.out.frz 2
 cases hc:T1.nameL (s.data.toList.take n) with
 | true =>
   have E1:Hid (R=.ok (2,s.data.toList.take n,n)):=Lh (by rw [HR.out,hc]; rfl)
   have ZZ:=Lh (HX1.out.three (.int .i64 2) (.string (s.extract 0 n)) (.int .i64 0)).cells;go_wp2_with fail
   obtain ⟨z0,z1,z2⟩:=ZZ.out;refine bodyPost_ret (v:=.tuple #[tkV 2 (s.extract 0 n) 0,.int .i64 n,.int .i64 0]) (by simp [results,Tryz.results108,go_sem,z0,z1,z2]) rfl ⟨?_,Below.three HB1.out (Nat.le_refl _) _ _ _⟩
   rw [E1.out,zO9]; rfl
 | false =>
   have E1:Hid (R=.error 3):=Lh (by rw [HR.out,hc]; rfl)
   have ZZ:=Lh (HX1.out.three (.int .i64 0) (.string ⟨#[]⟩) (.int .i64 0)).cells;go_wp2_with fail
   obtain ⟨z0,z1,z2⟩:=ZZ.out;refine bodyPost_ret (v:=.tuple #[tkV 0 ⟨#[]⟩ 0,.int .i64 0,.int .i64 3]) (by simp [results,Tryz.results108,go_sem,z0,z1,z2]) rfl ⟨?_,Below.three HB1.out (Nat.le_refl _) _ _ _⟩
   rw [E1.out];exact ⟨by decide,_,_,_,rfl⟩
theorem zw2 (s:ByteArray) (k:Nat):(s.extract k s.size).data.toList=s.data.toList.drop k:=T1.zP5 s k
theorem zZ5 (s:ByteArray) (h0:0<s.size) (hs:s.size<=281474976710656) (w:World) (hL:T1.Laid w) :
  Calls Tryz.prog 109 #[.string s] w (zG2 (intR s.data.toList) w):=by
 have HX:Hid (TB (w.alloc (.cells #[.int .i64 0,.string ⟨#[]⟩,.int .i64 0] 99 (0,0))) w.heap.size (.int .i64 0) (.string ⟨#[]⟩) (.int .i64 0)):=Lh (heap_alloc_new w _);have HB:Hid (Below w.heap.size w (w.alloc (.cells #[.int .i64 0,.string ⟨#[]⟩,.int .i64 0] 99 (0,0)))):=Lh ((Below.refl _ _).alloc (Nat.le_refl _) _);have hn:=zQ3 (s.data.toList.drop 1);have hsz:=T1.size_eq s;rw [List.length_drop] at hn;have HD:=Lh (zw2 s 1);have HL:=Lh hL;have HWS:Hid ((s.extract 1 s.size).size<=maxLen):=Lh (by
  have h1:=T1.size_eq (s.extract 1 s.size);rw [HD.out,List.length_drop] at h1;unfold maxLen; omega)
 have CALL1:=Lh (zQ2 (s.extract 1 s.size) HWS.out (w.alloc (.cells #[.int .i64 0,.string ⟨#[]⟩,.int .i64 0] 99 (0,0))));have h1s:(1:Int)<=s.size:=by omega
 clear hL
 go_enter Tryz.func109, Tryz.ntmps109
 go_wp2_with fail
 refine CALL1.out.mono ?_
 rintro e w1 ⟨rfl,hb⟩;rw [HD.out];have HB1:=Lh (HB.out.trans (hb.mono (by simp)))
 have HX1:=Lh (HX.out.stay hb);clear hb CALL1;have HE:=Lh (zS8 s (wdN (s.data.toList.drop 1)+1));have HR:Hid (intR s.data.toList=if (T1.numL (s.data.toList.take (wdN (s.data.toList.drop 1)+1))).2=0 then .ok (3,s.data.toList.take (wdN (s.data.toList.drop 1)+1),wdN (s.data.toList.drop 1)+1) else .error (T1.numL (s.data.toList.take (wdN (s.data.toList.drop 1)+1))).2):=Lh rfl
 generalize intR s.data.toList=R at *;generalize hwn:wdN (s.data.toList.drop 1)=m at *;have hn2:(m:Int)+1<=s.size:=by omega
 have hn3:(1:Int)+m<=s.size:=by omega
 have hn4:(0:Int)<=1+(m:Int):=by omega
 have hn5:((1:Int)+m).toNat=m+1:=by omega
 have hes:(s.extract 0 (m+1)).size<=281474976710656:=by
  have h1:=T1.size_eq (s.extract 0 (m+1));have h2:=congrArg List.length HE.out;rw [List.length_take] at h2;omega
 have CALL:=Lh (T1.zB4 (s.extract 0 (m+1)) w1 (HL.out.below HB1.out) hes);clear hes;go_wp2_with fail
 refine CALL.out.mono ?_
 rintro e w2 ⟨rfl,hb⟩;rw [HE.out];have HB2:=Lh (HB1.out.trans (hb.mono HB1.out.size));have HX2:=Lh (HX1.out.stay hb);obtain ⟨x0,x1,x2⟩:=HX2.out.cells;have g0:=HX2.out.frz 0;have g1:=HX2.out.frz 1;have g2:=HX2.out.frz 2;clear hb CALL;generalize T1.numL (s.data.toList.take (m+1))=p at *;obtain ⟨v,c⟩:=p;have ZZ:=Lh (HX2.out.three (.int .i64 3) (.string (s.extract 0 (m+1))) (.int .i64 0)).cells;unfold T1.num2;go_wp2_with fail
 obtain ⟨z0,z1,z2⟩:=ZZ.out;have e1:(1+(m:Int))=((m+1:Nat):Int):=by omega
 refine bodyPost_ret (v:=.tuple #[tkV 3 (s.extract 0 (m+1)) 0,.int .i64 (1+(m:Int)),.int .i64 c]) (by simp [results,Tryz.results109,go_sem,z0,z1,z2]) rfl ⟨?_,Below.three HB2.out (Nat.le_refl _) _ _ _⟩
 by_cases hc:c=0
 ·subst hc
  rw [HR.out,zO9,e1]; rfl
 ·rw [HR.out,if_neg hc]
  exact ⟨hc,_,_,_,rfl⟩
theorem zU2 (s:ByteArray) (h0:0<s.size) (hs:s.size<=137438953472) (w:World) :
  Calls Tryz.prog 110 #[.string s] w (zG2 (textR s.data.toList) w):=by
 have HX0:TB (w.alloc (.cells #[.int .i64 0,.string ⟨#[]⟩,.int .i64 0] 99 (0,0))) w.heap.size (.int .i64 0) (.string ⟨#[]⟩) (.int .i64 0):=heap_alloc_new w _;have HB0:Below w.heap.size w (w.alloc (.cells #[.int .i64 0,.string ⟨#[]⟩,.int .i64 0] 99 (0,0))):=(Below.refl _ _).alloc (Nat.le_refl _) _;have hsz1:(w.alloc (.cells #[.int .i64 0,.string ⟨#[]⟩,.int .i64 0] 99 (0,0))).heap.size=w.heap.size+1:=by simp
 have HV:Hid (BoxB (w.heap.size+1) false ((w.alloc (.cells #[.int .i64 0,.string ⟨#[]⟩,.int .i64 0] 99 (0,0))).alloc (.cells #[.bool false] 4 (0,0)))):=Lh (hsz1▸heap_alloc_new (w.alloc (.cells #[.int .i64 0,.string ⟨#[]⟩,.int .i64 0] 99 (0,0))) _);have HB1:Below w.heap.size w ((w.alloc (.cells #[.int .i64 0,.string ⟨#[]⟩,.int .i64 0] 99 (0,0))).alloc (.cells #[.bool false] 4 (0,0))):=HB0.alloc (by omega) _
 have HX1:TB ((w.alloc (.cells #[.int .i64 0,.string ⟨#[]⟩,.int .i64 0] 99 (0,0))).alloc (.cells #[.bool false] 4 (0,0))) w.heap.size (.int .i64 0) (.string ⟨#[]⟩) (.int .i64 0):=HX0.stay ((Below.refl _ _).alloc (Nat.le_refl _) _);have hsz2:((w.alloc (.cells #[.int .i64 0,.string ⟨#[]⟩,.int .i64 0] 99 (0,0))).alloc (.cells #[.bool false] 4 (0,0))).heap.size=w.heap.size+2:=by simp
 have HB:=Lh HB1;have HX:=Lh HX1;have HZ2:=Lh hsz2;have hn:=ltN_le (s.data.toList.drop 1);have hsz:=T1.size_eq s;rw [List.length_drop] at hn;have HD:=Lh (zw2 s 1);have HWS:Hid ((s.extract 1 s.size).size<=maxLen):=Lh (by
  have h1:=T1.size_eq (s.extract 1 s.size);rw [HD.out,List.length_drop] at h1;unfold maxLen; omega)
 have CALL1:=Lh (zD6 (Inv:=BoxB (w.heap.size+1)) (p:=w.heap.size+1) 158 (.inr (.inr rfl)) #[pp (w.heap.size+1)] lt_high yf5 (fun st r w' h hr _=>lit1_any _ st r w' h hr) (fun st a b h e=>h.kept a b e) (s.extract 1 s.size) HWS.out false _ HV.out (by omega))
 have h1s:(1:Int)<=s.size:=by omega
 clear HX0 HB0 hsz1 HB1 HX1 hsz2
 go_enter Tryz.func110, Tryz.ntmps110
 go_wp2_with fail
 refine CALL1.out.mono ?_
 rintro e w1 ⟨rfl,hb⟩;rw [HD.out];have HB2:=Lh (HB.out.trans (hb.below (by omega) (by have:=HZ2.out; omega)))
 have HX2:Hid (TB w1 w.heap.size (.int .i64 0) (.string ⟨#[]⟩) (.int .i64 0)):=Lh (HX.out.kept (hb.block _ (by have:=HZ2.out; omega) (by omega)))
 clear hb CALL1;have HE:=Lh (zS8 s (ltN (s.data.toList.drop 1)+2));have HR:Hid (textR s.data.toList=if s.data.toList.length<ltN (s.data.toList.drop 1)+2 then .error 3 else match T1.zc7 (s.data.toList.take (ltN (s.data.toList.drop 1)+2)) with
  | none=>.error 3
  | some t=>.ok (4,t,ltN (s.data.toList.drop 1)+2)):=Lh rfl
 generalize textR s.data.toList=R at *;have hln:spanL ltS false (s.data.toList.drop 1)=ltN (s.data.toList.drop 1):=rfl;rw [hln];generalize hwn:ltN (s.data.toList.drop 1)=m at *;obtain ⟨x0,x1,x2⟩:=HX2.out.cells;have g0:=HX2.out.frz 0;have g1:=HX2.out.frz 1;have g2:=HX2.out.frz 2;by_cases hlt:s.size<m+2
 ·have E1:Hid (R=.error 3):=Lh (by rw [HR.out,if_pos (by omega)])
  have hgt:((m:Int)+2 > s.size):=by omega
  have ZZ:=Lh (HX2.out.three (.int .i64 0) (.string ⟨#[]⟩) (.int .i64 0)).cells;clear HR hln;go_wp2_with fail
  obtain ⟨z0,z1,z2⟩:=ZZ.out;refine bodyPost_ret (v:=.tuple #[tkV 0 ⟨#[]⟩ 0,.int .i64 0,.int .i64 3]) (by simp [results,Tryz.results110,go_sem,z0,z1,z2]) rfl ⟨?_,Below.three HB2.out (Nat.le_refl _) _ _ _⟩
  rw [E1.out];exact ⟨by decide,_,_,_,rfl⟩
 ·have hgt:¬ ((m:Int)+2 > s.size):=by omega
  have hle:((m:Int)+2<=s.size):=by omega
  have E1:Hid (R=match T1.zc7 (s.data.toList.take (m+2)) with | none=>.error 3 | some t=>.ok (4,t,m+2)):=Lh (by rw [HR.out,if_neg (by omega)])
  have hes:(s.extract 0 (m+2)).size<=137438953472:=by
   have h1:=T1.size_eq (s.extract 0 (m+2));have h2:=congrArg List.length HE.out;rw [List.length_take] at h2;omega
  have CALL:=Lh (T1.zM4 (s.extract 0 (m+2)) w1 hes);clear hes HR hln hlt x0 x1 x2 g0 g1 g2;go_wp2_with fail
  refine CALL.out.mono ?_
  rintro e w2 ⟨rfl,hb⟩;rw [HE.out];have HB3:=Lh (HB2.out.trans (hb.mono HB2.out.size));have HX3:=Lh (HX2.out.stay hb);obtain ⟨x0,x1,x2⟩:=HX3.out.cells;have g0:=HX3.out.frz 0;have g1:=HX3.out.frz 1;have g2:=HX3.out.frz 2;clear hb CALL;have e1:((m:Int)+2)=((m+2:Nat):Int):=by omega
  cases hu:T1.zc7 (s.data.toList.take (m+2)) with
  | none =>
    have E2:Hid (R=.error 3):=Lh (by rw [E1.out,hu])
    have ZZ:=Lh (HX3.out.three (.int .i64 4) (.string ⟨#[]⟩) (.int .i64 0)).cells;clear hu e1;unfold T1.uq2;go_wp2_with fail
    obtain ⟨z0,z1,z2⟩:=ZZ.out;refine bodyPost_ret (v:=.tuple #[tkV 4 ⟨#[]⟩ 0,.int .i64 (m+2),.int .i64 3]) (by simp [results,Tryz.results110,go_sem,z0,z1,z2]) rfl ⟨?_,Below.three HB3.out (Nat.le_refl _) _ _ _⟩
    rw [E2.out];exact ⟨by decide,_,_,_,rfl⟩
  | some t =>
    have E2:Hid (R=.ok (4,t,m+2)):=Lh (by rw [E1.out,hu])
    have ZZ:=Lh (HX3.out.three (.int .i64 4) (.string ⟨t.toArray⟩) (.int .i64 0)).cells;have EE:=Lh e1;clear hu e1;unfold T1.uq2;go_wp2_with fail
    obtain ⟨z0,z1,z2⟩:=ZZ.out;refine bodyPost_ret (v:=.tuple #[tkV 4 ⟨t.toArray⟩ 0,.int .i64 (m+2),.int .i64 0]) (by simp [results,Tryz.results110,go_sem,z0,z1,z2]) rfl ⟨?_,Below.three HB3.out (Nat.le_refl _) _ _ _⟩
    rw [E2.out,EE.out]
    rfl
def RB (p:Nat) (r:Int) (w:World):Prop:=w.heap[p]?=some (.cells #[.int .i32 r] 21 (0,0))
theorem RB.cell {p:Nat} {r:Int} {w:World} (h:RB p r w):w.cell? ⟨p,0,none⟩=some (.int .i32 r)/\w.frozen? ⟨p,0,none⟩=false:=by
 unfold RB at h;exact ⟨by rw [cell_of_row _ _ _ _ _ _ h]; rfl,by simp [World.frozen?,h]⟩
theorem RB.stay {p:Nat} {r:Int} {w w':World} (h:RB p r w) (hb:Below w.heap.size w w'):RB p r w':=by
 unfold RB at *;have:p<w.heap.size:=by
  rcases Nat.lt_or_ge p w.heap.size with h' | h'
  ·exact h'
  ·rw [Array.getElem?_eq_none h'] at h; cases h
 exact (hb.block p this).trans h
theorem zE9 (p:Nat) (r:Nat) (hr:r<128∨Utf8.valid r=true) (set:ByteArray) (hset:AscSet set) (w:World) (h:RB p r w) :
  Calls Tryz.prog 105 #[.string set,pp p] w fun e w'=>e=.returned (.bool (decide (r<128/\r.toUInt8∈set.data.toList)))/\Below w.heap.size w w':=by
 have CALL:=Lh (zu5 set hset r hr w);obtain ⟨q0,f0⟩:=h.cell;clear h;generalize decide (r<128/\r.toUInt8∈set.data.toList)=b at *
 go_enter Tryz.func105, Tryz.ntmps105
 go_wp2_with fail
 refine CALL.out.mono ?_
 rintro e w1 ⟨rfl,hb⟩;have HB:=Lh hb;clear hb;go_wp2_with fail
 go_ret
 exact ⟨rfl,HB.out⟩
def sgS:ByteArray:=⟨#[33,36,38,40,41,58,61,64,91,93,123,124,125]⟩
def leS:ByteArray:=⟨#[65,66,67,68,69,70,71,72,73,74,75,76,77,78,79,80,81,82,83,84,85,86,87,88,89,90,97,98,99,100,101,102,103,104,105,106,107,108,109,110,111,112,113,114,115,116,117,118,119,120,121,122,95]⟩
def dmS:ByteArray:=⟨#[45,48,49,50,51,52,53,54,55,56,57]⟩
theorem ya5:AscSet sgS:=⟨by decide +kernel,by decide,by decide⟩
theorem yg1:AscSet leS:=⟨by decide +kernel,by decide,by decide⟩
theorem yh9:AscSet dmS:=⟨by decide +kernel,by decide,by decide⟩
theorem sgS_is:∀ c:UInt8,decide (c∈sgS.data.toList)=decide (c∈sgL):=fun _=>rfl
theorem leS_is:∀ c:UInt8,decide (c∈leS.data.toList)=T1.letU (c.toNat:Int):=zp6 (by decide +kernel)
theorem dmS_is:∀ c:UInt8,decide (c∈dmS.data.toList)=dmB c:=zp6 (by decide +kernel)
theorem zX3 (s:ByteArray) (h:0<s.size):∃ r k:Nat,Lib.decodeGo s=(r,k)/\(r<128∨Utf8.valid r=true)/\(∀ set,AscSet set->decide (r<128/\r.toUInt8∈set.data.toList)=decide (s[0]∈set.data.toList))/\((r:Int)==34)=decide (s[0]=34):=by
 have hd:Lib.decodeGo s=Utf8.decode s 0:=by unfold Lib.decodeGo; rw [if_neg (by omega)]
 refine ⟨(Utf8.decode s 0).1,(Utf8.decode s 0).2,hd,zK6 s 0 h, ?_, ?_⟩
 ·intro set hs
  apply decide_eq_decide.2
  rcases Nat.lt_or_ge (s[0]).toNat 128 with ha | ha
  ·rw [decode_ascii s 0 h ha]
   have e:((s[0]).toNat).toUInt8=s[0]:=by rw [Nat.toUInt8_eq,UInt8.ofNat_toNat]
   show (s[0]).toNat<128/\((s[0]).toNat).toUInt8∈_ ↔ _
   rw [e];exact ⟨fun x=>x.2,fun x=>⟨ha,x⟩⟩
  ·have:=(decode_high s 0 h ha).1
   exact ⟨fun x=>by omega,fun x=>by have:=hs.asc _ x; omega⟩
 ·rcases Nat.lt_or_ge (s[0]).toNat 128 with ha | ha
  ·rw [decode_ascii s 0 h ha]
   show (((s[0]).toNat:Int)==34)=_
   by_cases hc:s[0]=34
   ·rw [hc]; rfl
   ·rw [decide_eq_false hc]
    exact beq_false_of_ne (fun e=>hc (UInt8.toNat_inj.1 (by
     have e:((s[0]).toNat:Int)=34:=e;show (s[0]).toNat=34
     omega)))
  ·have h1:=(decode_high s 0 h ha).1
   have hc:¬ s[0]=34:=by
    intro e;rw [e] at ha
    revert ha; decide
   rw [decide_eq_false hc];exact beq_false_of_ne (by omega)
theorem tokR_eq (s:ByteArray) (h:0<s.size):tokR s.data.toList=if s[0]∈sgL then .ok (1,s.data.toList.take 1,1) else if s.data.toList.take 3=elL then .ok (1,elL,3)
  else if T1.letU ((s[0]).toNat:Int)=true then nameR s.data.toList else if dmB s[0]=true then intR s.data.toList else if s[0]=34 then textR s.data.toList else .error 3:=by
 have e:s.data.toList.getD 0 0=s[0]:=T1.zt4 s 0 h;rw [<- e]; rfl
theorem zJ7 (l:List UInt8):Lib.hasPrefix l [46,46,46]=decide (l.take 3=elL):=by
 unfold Lib.hasPrefix;rw [Bool.eq_iff_iff,List.isPrefixOf_iff_prefix,List.prefix_iff_eq_take,decide_eq_true_iff];exact ⟨fun h=>h.symm,fun h=>h.symm⟩
theorem TokAns.parts {o:Except Int (Int × List UInt8 × Nat)} {e:Ending} (h:TokAns o e):∃ (k:Int) (t:ByteArray) (n c:Int),e=.returned (.tuple #[tkV k t 0,.int .i64 n,.int .i64 c]):=by
 cases o with
 | ok p=>obtain ⟨k,t,n⟩:=p; exact ⟨_,_,_,_,h⟩
 | error c=>obtain ⟨_,k,t,n,h⟩:=h; exact ⟨_,_,_,_,h⟩
theorem zy7 (s:ByteArray) (h0:0<s.size) (hs:s.size<=137438953472) (w:World) (hL:LK w) :
  Calls Tryz.prog 51 #[.string s] w (zG2 (tokR s.data.toList) w):=by
 have HX0:Hid (TB (w.alloc (.cells #[.int .i64 0,.string ⟨#[]⟩,.int .i64 0] 99 (0,0))) w.heap.size (.int .i64 0) (.string ⟨#[]⟩) (.int .i64 0)):=Lh (heap_alloc_new w _);have hb0:Below w.heap.size w (w.alloc (.cells #[.int .i64 0,.string ⟨#[]⟩,.int .i64 0] 99 (0,0))):=(Below.refl _ _).alloc (Nat.le_refl _) _;have HB0:=Lh hb0;have CALL0:=Lh (Tryz.utf8_DecodeRuneInString s (w.alloc (.cells #[.int .i64 0,.string ⟨#[]⟩,.int .i64 0] 99 (0,0))) (hL.below hb0).utf);obtain ⟨r,k,e1,hr,hset,h34⟩:=zX3 s h0;rw [e1] at CALL0;have HR:=Lh hr;have HSET:=Lh hset;have H34:=Lh h34;have HL:=Lh hL;have HT:=Lh (tokR_eq s h0);have HS:=Lh hs;have H0:=Lh h0;have h1s:(1:Int)<=s.size:=by omega
 clear hb0 e1 hr hset h34 hL hs;generalize tokR s.data.toList=R at *;generalize hc:s[0]=c at *;clear hc
 go_enter Tryz.func51, Tryz.ntmps51
 go_wp2_with fail
 refine CALL0.out.mono ?_
 rintro e w1 ⟨rfl,hb⟩;have HB1:=Lh (HB0.out.trans (hb.mono (by simp)))
 have HX1:=Lh (HX0.out.stay hb);have HV:Hid (RB w1.heap.size r (w1.alloc (.cells #[.int .i32 r] 21 (0,0)))):=Lh (heap_alloc_new w1 _);have HB2:Hid (Below w.heap.size w (w1.alloc (.cells #[.int .i32 r] 21 (0,0)))):=Lh (HB1.out.alloc HB1.out.size _);have HX2:Hid (TB (w1.alloc (.cells #[.int .i32 r] 21 (0,0))) w.heap.size (.int .i64 0) (.string ⟨#[]⟩) (.int .i64 0)):=Lh (HX1.out.stay ((Below.refl _ _).alloc (Nat.le_refl _) _));have CALL1:=Lh (zE9 w1.heap.size r HR.out sgS ya5 _ HV.out);clear hb CALL0;go_wp2_with fail
 refine CALL1.out.mono ?_
 rintro e w2 ⟨rfl,hb⟩;rw [HSET.out _ ya5,sgS_is];have HB3:=Lh (HB2.out.trans (hb.mono HB2.out.size));have HX3:=Lh (HX2.out.stay hb);have HV3:=Lh (HV.out.stay hb);clear hb CALL1 HX0 HB0 HX1 HB1 HX2 HB2 HV;generalize w1.heap.size=p at *;by_cases c1:c∈sgL
 ·have d1:decide (c∈sgL)=true:=decide_eq_true c1
  have E1:=Lh (HT.out.trans (if_pos c1));have HE:=Lh (zO9 s 1);have ZZ:=Lh (HX3.out.three (.int .i64 1) (.string (s.extract 0 1)) (.int .i64 0)).cells;obtain ⟨x0,x1,x2⟩:=HX3.out.cells;have g0:=HX3.out.frz 0;have g1:=HX3.out.frz 1;have g2:=HX3.out.frz 2;rw [d1];clear HT c1 d1;go_wp2_with fail
  obtain ⟨z0,z1,z2⟩:=ZZ.out;refine bodyPost_ret (v:=.tuple #[tkV 1 (s.extract 0 1) 0,.int .i64 1,.int .i64 0]) (by simp [results,Tryz.results51,go_sem,z0,z1,z2]) rfl ⟨?_,Below.three HB3.out (Nat.le_refl _) _ _ _⟩
  rw [E1.out,HE.out]
  rfl
 have d1:decide (c∈sgL)=false:=decide_eq_false c1;have HT1:=Lh (HT.out.trans (if_neg c1));rw [d1];clear HT c1 d1;go_wp2_with fail
 refine (Tryz.strings_HasPrefix s ⟨#[46,46,46]⟩ w2).mono ?_
 rintro e w3 ⟨rfl,rfl⟩;rw [zJ7];by_cases c2:s.data.toList.take 3=elL
 ·have d2:decide (s.data.toList.take 3=elL)=true:=decide_eq_true c2
  have E1:=Lh (HT1.out.trans (if_pos c2));have ZZ:=Lh (HX3.out.three (.int .i64 1) (.string ⟨#[46,46,46]⟩) (.int .i64 0)).cells;obtain ⟨x0,x1,x2⟩:=HX3.out.cells;have g0:=HX3.out.frz 0;have g1:=HX3.out.frz 1;have g2:=HX3.out.frz 2;rw [d2];clear HT1 c2 d2;go_wp2_with fail
  obtain ⟨z0,z1,z2⟩:=ZZ.out;refine bodyPost_ret (v:=.tuple #[tkV 1 ⟨#[46,46,46]⟩ 0,.int .i64 3,.int .i64 0]) (by simp [results,Tryz.results51,go_sem,z0,z1,z2]) rfl ⟨?_,Below.three HB3.out (Nat.le_refl _) _ _ _⟩
  rw [E1.out]
  rfl
 have d2:decide (s.data.toList.take 3=elL)=false:=decide_eq_false c2;have HT2:=Lh (HT1.out.trans (if_neg c2));have CALL2:=Lh (zE9 p r HR.out leS yg1 _ HV3.out);rw [d2];clear HT1 c2 d2;go_wp2_with fail
 refine CALL2.out.mono ?_
 rintro e w4 ⟨rfl,hb⟩;rw [HSET.out _ yg1,leS_is];have HB4:=Lh (HB3.out.trans (hb.mono HB3.out.size));have HX4:=Lh (HX3.out.stay hb);have HV4:=Lh (HV3.out.stay hb);clear hb CALL2 HB3 HX3 HV3;by_cases c3:T1.letU (c.toNat:Int)=true
 ·have E1:=Lh (HT2.out.trans (if_pos c3))
  have CALL3:=Lh (zU3 s (by have:=HS.out; unfold maxLen; omega) w4)
  rw [c3];clear HT2 c3;go_wp2_with fail
  refine CALL3.out.mono ?_
  rintro e w5 ⟨ha,hb⟩;have HB5:=Lh (HB4.out.trans (hb.mono HB4.out.size));have HX5:=Lh (HX4.out.stay hb);clear hb CALL3 HB4 HX4;obtain ⟨k1,t1,n1,q1,rfl⟩:=ha.parts;have HA:=Lh ha;have ZZ:=Lh (HX5.out.three (.int .i64 k1) (.string t1) (.int .i64 0)).cells;obtain ⟨x0,x1,x2⟩:=HX5.out.cells;have g0:=HX5.out.frz 0;have g1:=HX5.out.frz 1;have g2:=HX5.out.frz 2;clear ha;go_wp2_with fail
  obtain ⟨z0,z1,z2⟩:=ZZ.out;refine bodyPost_ret (v:=.tuple #[tkV k1 t1 0,.int .i64 n1,.int .i64 q1]) (by simp [results,Tryz.results51,go_sem,z0,z1,z2]) rfl ⟨?_,Below.three HB5.out (Nat.le_refl _) _ _ _⟩
  rw [E1.out];exact HA.out
 have c3':T1.letU (c.toNat:Int)=false:=by simpa using c3
 have HT3:=Lh (HT2.out.trans (if_neg c3));have CALL3:=Lh (zE9 p r HR.out dmS yh9 _ HV4.out);rw [c3'];clear HT2 c3 c3';go_wp2_with fail
 refine CALL3.out.mono ?_
 rintro e w5 ⟨rfl,hb⟩;rw [HSET.out _ yh9,dmS_is];have HB5:=Lh (HB4.out.trans (hb.mono HB4.out.size));have HX5:=Lh (HX4.out.stay hb);have HV5:=Lh (HV4.out.stay hb);clear hb CALL3 HB4 HX4 HV4;by_cases c4:dmB c=true
 ·have E1:=Lh (HT3.out.trans (if_pos c4))
  have CALL4:=Lh (zZ5 s H0.out (by have:=HS.out; omega) w5 (HL.out.below HB5.out).num)
  rw [c4];clear HT3 c4;go_wp2_with fail
  refine CALL4.out.mono ?_
  rintro e w6 ⟨ha,hb⟩;have HB6:=Lh (HB5.out.trans (hb.mono HB5.out.size));have HX6:=Lh (HX5.out.stay hb);clear hb CALL4 HB5 HX5;obtain ⟨k1,t1,n1,q1,rfl⟩:=ha.parts;have HA:=Lh ha;have ZZ:=Lh (HX6.out.three (.int .i64 k1) (.string t1) (.int .i64 0)).cells;obtain ⟨x0,x1,x2⟩:=HX6.out.cells;have g0:=HX6.out.frz 0;have g1:=HX6.out.frz 1;have g2:=HX6.out.frz 2;clear ha;go_wp2_with fail
  obtain ⟨z0,z1,z2⟩:=ZZ.out;refine bodyPost_ret (v:=.tuple #[tkV k1 t1 0,.int .i64 n1,.int .i64 q1]) (by simp [results,Tryz.results51,go_sem,z0,z1,z2]) rfl ⟨?_,Below.three HB6.out (Nat.le_refl _) _ _ _⟩
  rw [E1.out];exact HA.out
 have c4':dmB c=false:=by simpa using c4
 have HT4:=Lh (HT3.out.trans (if_neg c4));rw [c4'];obtain ⟨y0,y1⟩:=HV5.out.cell;have h34:=H34.out;clear HT3 c4 c4';by_cases c5:c=34
 ·have E1:=Lh (HT4.out.trans (if_pos c5))
  have CALL4:=Lh (zU2 s H0.out HS.out w5);rw [decide_eq_true c5] at h34;clear HT4 c5;go_wp2_with fail
  refine CALL4.out.mono ?_
  rintro e w6 ⟨ha,hb⟩;have HB6:=Lh (HB5.out.trans (hb.mono HB5.out.size));have HX6:=Lh (HX5.out.stay hb);clear hb CALL4 HB5 HX5 y0 y1;obtain ⟨k1,t1,n1,q1,rfl⟩:=ha.parts;have HA:=Lh ha;have ZZ:=Lh (HX6.out.three (.int .i64 k1) (.string t1) (.int .i64 0)).cells;obtain ⟨x0,x1,x2⟩:=HX6.out.cells;have g0:=HX6.out.frz 0;have g1:=HX6.out.frz 1;have g2:=HX6.out.frz 2;clear ha;go_wp2_with fail
  obtain ⟨z0,z1,z2⟩:=ZZ.out;refine bodyPost_ret (v:=.tuple #[tkV k1 t1 0,.int .i64 n1,.int .i64 q1]) (by simp [results,Tryz.results51,go_sem,z0,z1,z2]) rfl ⟨?_,Below.three HB6.out (Nat.le_refl _) _ _ _⟩
  rw [E1.out];exact HA.out
 have E1:=Lh (HT4.out.trans (if_neg c5));rw [decide_eq_false c5] at h34;have ZZ:=Lh (HX5.out.three (.int .i64 0) (.string ⟨#[]⟩) (.int .i64 0)).cells;obtain ⟨x0,x1,x2⟩:=HX5.out.cells;have g0:=HX5.out.frz 0;have g1:=HX5.out.frz 1;have g2:=HX5.out.frz 2;clear HT4 c5;go_wp2_with fail
 obtain ⟨z0,z1,z2⟩:=ZZ.out;refine bodyPost_ret (v:=.tuple #[tkV 0 ⟨#[]⟩ 0,.int .i64 0,.int .i64 3]) (by simp [results,Tryz.results51,go_sem,z0,z1,z2]) rfl ⟨?_,Below.three HB5.out (Nat.le_refl _) _ _ _⟩
 rw [E1.out];exact ⟨by decide,_,_,_,rfl⟩
end Go.Proofs.YtfgelheiknmjgaaGreatDoor.K
namespace Go.Proofs.YtfgelheiknmjgaaGreatDoor.K
open Go.ChangeShapes Go.WideShapes Go.ChangeAt Go.RowKit
theorem own:ownKnob Tryz.prog.godebug=none:=by kernel_rfl
theorem gPowType:(Tryz.prog.globals[5]?).map (·.type)=some 278 := by kernel_rfl
theorem gRng : Tryz.prog.globalNamed "strconv.ErrRange" = some 4 := by kernel_rfl
theorem gRngType:(Tryz.prog.globals[4]?).map (·.type)=some 163 := by kernel_rfl
theorem cellsPow : Tryz.prog.cellsOf 278 = 20:=by kernel_rfl
theorem cellsU64 : Tryz.prog.cellsOf 251 = 1:=by kernel_rfl
theorem cellsErr : Tryz.prog.cellsOf 283 = 1:=by kernel_rfl
theorem cellsStr : Tryz.prog.cellsOf 9 = 1:=by kernel_rfl
theorem zS4 : "*" ++ "errors.errorString" = "*errors.errorString" := by decide
theorem rowErr (u:TypeId) (h : Tryz.prog.typeName? 3 u=some "*errors.errorString"):u = 281 :=
 typeName_ptr_named (nm := "errors.errorString") (by rw [zS4]; kernel_rfl) (by kernel_rfl) (by decide) u (by rw [zS4]; exact h)
abbrev zE8:List (String × DataW Unit):=[("math/bits.deBruijn32tab",Rows.laid_math_bits_deBruijn32tab),("math/bits.deBruijn64tab",Rows.laid_math_bits_deBruijn64tab),("internal/strconv.uint64pow10",Rows.laid_internal_strconv_uint64pow10),("unicode/utf8.acceptRanges",Rows.laid_unicode_utf8_acceptRanges),("strconv.ErrRange",Rows.laid_strconv_ErrRange),("strconv.ErrSyntax",Rows.laid_strconv_ErrSyntax),("unicode/utf8.first",Rows.laid_unicode_utf8_first)]
theorem firstIs:Rows.laid_unicode_utf8_first=Lib.firstData:=Pinned.utf8First_eq
theorem acceptIs:(Rows.laid_unicode_utf8_acceptRanges:DataW Unit)=Lib.acceptData:=by kernel_rfl
theorem laid_of {W:World} (h:laidMet Tryz.prog zE8 W):LK W:=by
 refine ⟨⟨Lib.tabIs_of_head T1.gPow gPowType Tryz.underlying278 Tryz.underlying251 cellsU64 cellsPow h.tail.tail, ?_⟩, ?_⟩
 ·obtain ⟨a,s,hv,_⟩:=laid_sentinel h.tail.tail.tail.tail gRng gRngType Tryz.underlying163 rowErr Tryz.underlying281 Tryz.underlying283 rfl rfl Tryz.underlying9 cellsErr cellsStr
  exact ⟨_,_,by simpa using World.var?_cell gRng hv 0⟩
 ·exact utf8Tabs_of_reads (ρ:=Tryz.lays260_ren) { Tryz.lays260 with } ⟨by kernel_rfl,by kernel_rfl,by kernel_rfl,by kernel_rfl,by kernel_rfl,by kernel_rfl,by kernel_rfl⟩
   (firstIs▸Lib.laidMet.reads h (.tail _ (.tail _ (.tail _ (.tail _ (.tail _ (.tail _ (.head _)))))))) (acceptIs▸Lib.laidMet.reads h (.tail _ (.tail _ (.tail _ (.head _)))))
noncomputable def zr4 (os:Os):World:=World.laidAll Tryz.prog os zE8
theorem laid_os (os:Os):(zr4 os).os=os:=World.laidAll_os _ _ _
theorem laid_met (os:Os) (args:Array Value):laidMet Tryz.prog zE8 ((zr4 os).forCall (fun _ _=>0) ⟨#[],args,[]⟩).memory :=
 laidMet_laidAll args (by kernel_rfl) (by kernel_rfl)
end Go.Proofs.YtfgelheiknmjgaaGreatDoor.K
namespace Go.Proofs.YtfgelheiknmjgaaGreatDoor
open Go.ChangeShapes Go.WideShapes Go.ChangeAt Go.RowKit
theorem laidOut:laidOutB Tryz.prog=true:=by kernel_rfl
end Go.Proofs.YtfgelheiknmjgaaGreatDoor
namespace Go.Proofs.YtfgelheiknmjgaaGreatDoor
open Go.RowKit
theorem zr9 (w:World) (xs:Array Value) (t:TypeId) (j:Nat) (h:j<xs.size):(w.alloc (.cells xs t)).cell? ((⟨w.heap.size,0,none⟩ : Addr).add j)=some xs[j]:=by
 have e:(⟨w.heap.size,0,none⟩ : Addr).add j=⟨w.heap.size,j,none⟩:=by
  unfold Addr.add; split <;> simp_all
 rw [e,World.cell?_alloc_at _ _ _ _ rfl,Array.getElem?_eq_getElem h]
theorem zq1 (l:List UInt8) (k:Nat) (h:k<l.length):l.take (k+1)=l.take k++[l[k]]:=by
 rw [List.take_succ_eq_append_getElem h]
theorem size_eq (s:ByteArray):s.data.toList.length=s.size:=by rw [Array.length_toList]; rfl
theorem zd5 {s:ByteArray} (h:0<s.size):s.toList≠[]:=by
 rw [Lib.toList_data]; intro e;have:=congrArg List.length e;rw [size_eq,List.length_nil] at this; omega
theorem zc8 {s:ByteArray} (h:0<s.size):s.toList.isEmpty=false:=by
 have:=zd5 h
 cases e:s.toList with
 | nil=>exact absurd e this
 | cons=>rfl
theorem zr2 {s:ByteArray} (h:s.size=0):s.toList=[]:=by
 rw [Lib.toList_data]; have:=size_eq s; exact List.eq_nil_of_length_eq_zero (by omega)
theorem ze3 (c:UInt8):(c.toNat:Int)<=255:=by have:=c.toNat_lt; omega
theorem u8_ne {c d:UInt8} (h:c≠d):((c.toNat:Int)==(d.toNat:Int))=false:=by
 rw [beq_eq_false_iff_ne]; intro e; exact h (UInt8.toNat_inj.1 (by omega))
def digB (n:Int):Bool:=decide (48<=n)&&decide (n<=57)
def letB (n:Int):Bool:=(decide (97<=n)&&decide (n<=122))||(decide (65<=n)&&decide (n<=90))
def nmB (n:Int):Bool:=letB n||digB n||n==95
theorem zc0 (n:Int) (w:World) (h0:0<=n) (h1:n<=255) :
  Calls Tryz.prog 81 #[.int .u8 n] w fun e w'=>e=.returned (.bool (digB n))/\w=w':=by
 go_enter Tryz.func81,Tryz.ntmps81
 go_wp2
 all_goals go_ret
 all_goals (simp [digB, *]; try omega)
theorem zn5 (n:Int) (w:World) (h0:0<=n) (h1:n<=255) :
  Calls Tryz.prog 140 #[.int .u8 n] w fun e w'=>e=.returned (.bool (letB n))/\w=w':=by
 go_enter Tryz.func140,Tryz.ntmps140
 go_wp2
 all_goals go_ret
 all_goals simp [letB, *]
 all_goals omega
theorem zf7 (n:Int) (w:World) (h0:0<=n) (h1:n<=255) :
  Calls Tryz.prog 82 #[.int .u8 n] w fun e w'=>e=.returned (.bool (nmB n))/\w=w':=by
 go_enter Tryz.func82,Tryz.ntmps82
 go_wp2_with (first | (go_at_call 140; refine (zn5 _ _ (by omega) (by omega)).mono ?_; rintro e w' ⟨rfl,rfl⟩) | (go_at_call 81; refine (zc0 _ _ (by omega) (by omega)).mono ?_; rintro e w' ⟨rfl,rfl⟩))
 all_goals go_ret
 all_goals simp [nmB, *]
def allNm (l:List UInt8):Bool:=l.all fun c=>nmB (c.toNat:Int)
def nameL (l:List UInt8):Bool:=!l.isEmpty&&decide (l.length<=64)&&!digB ((l.getD 0 0).toNat:Int)&&allNm l
theorem zl1 (l:List UInt8) (p:UInt8->Bool) (k:Nat) (h:k<l.length) (hp:p l[k]=false):l.all p=false:=by
 rw [List.all_eq_false]; exact ⟨l[k],List.getElem_mem h,by simp [hp]⟩
theorem zf3 (l:List UInt8) (p:UInt8->Bool) (k:Nat) (h:k<l.length) (ha:(l.take k).all p=true) (hp:p l[k]=true):(l.take (k+1)).all p=true:=by
 rw [zq1 l k h,List.all_append,ha]; simp [hp]
theorem zt0 (s:ByteArray) (w:World) (h:s.toList=[]) :
  Calls Tryz.prog 39 #[.string s] w fun e w'=>e=.returned (.bool false)/\w=w':=by
 go_enter Tryz.func39,Tryz.ntmps39
 go_wp2_with fail
 go_ret
 exact ⟨rfl,rfl⟩
theorem zy3 (s:ByteArray) (w:World) (hs:s.size<=maxLen) (h:64<s.size) :
  Calls Tryz.prog 39 #[.string s] w fun e w'=>e=.returned (.bool false)/\w=w':=by
 unfold maxLen at hs;have h2:s.toList.isEmpty=false:=zc8 (by omega)
 have h3:s.toList≠[]:=zd5 (by omega)
 go_enter Tryz.func39,Tryz.ntmps39
 go_wp2_with fail
 go_ret
 exact ⟨rfl,rfl⟩
theorem zt1 (s:ByteArray) (w:World) (h0:0<s.size) (h:s.size<=64) (hd:digB s[0].toNat=true) :
  Calls Tryz.prog 39 #[.string s] w fun e w'=>e=.returned (.bool false)/\w=w':=by
 have h2:s.toList.isEmpty=false:=zc8 (by omega)
 have h3:s.toList≠[]:=zd5 (by omega)
 have hb:=ze3 s[0];go_enter Tryz.func39,Tryz.ntmps39
 go_wp2_with (go_at_call 81; refine (zc0 _ _ (by omega) (by omega)).mono ?_; rintro e w' ⟨rfl,rfl⟩)
 go_ret
 exact ⟨rfl,rfl⟩
theorem zy2 (s:ByteArray) (w:World) (h0:0<s.size) (h:s.size<=64) (hd:digB s[0].toNat=false) :
  Calls Tryz.prog 39 #[.string s] w fun e w'=>e=.returned (.bool (allNm s.data.toList))/\w=w':=by
 have h2:s.toList.isEmpty=false:=zc8 (by omega)
 have h3:s.toList≠[]:=zd5 (by omega)
 have hb:=ze3 s[0];go_enter Tryz.func39,Tryz.ntmps39
 go_wp2_with (go_at_call 81; refine (zc0 _ _ (by omega) (by omega)).mono ?_; rintro e w' ⟨rfl,rfl⟩)
 go_loop [3] (fun i=>∃ k:Nat,k<=s.size/\i=.int .i64 k/\(s.data.toList.take k).all (fun c=>nmB (c.toNat:Int))=true) (fun i=>s.size-(intOf i).toNat)
 case atStart=>exact ⟨0,Nat.zero_le _,rfl,rfl⟩
 case round =>
  obtain ⟨k,hk,rfl,hall⟩:=hrel;have HA:=Lh hall;clear hall;by_cases hlt:k<s.size
  ·have hbk:=ze3 s[k]
   have e:s.data.toList[k]'(by simpa using hlt)=s[k]:=rfl
   cases hn:nmB (s[k].toNat:Int)
   ·have H1:Hid (allNm s.data.toList=false):=Lh (zl1 s.data.toList (fun c=>nmB (c.toNat:Int)) k (by simpa using hlt) hn)
    clear e;go_wp2_with (go_at_call 82; refine (zf7 _ _ (by omega) (by omega)).mono ?_; rintro e w' ⟨rfl,rfl⟩)
    go_ret
    exact ⟨by rw [H1.out]; rfl,rfl⟩
   ·have H1:=Lh (zf3 s.data.toList (fun c=>nmB (c.toNat:Int)) k (by simpa using hlt) HA.out hn)
    clear e;go_wp2_with (go_at_call 82; refine (zf7 _ _ (by omega) (by omega)).mono ?_; rintro e w' ⟨rfl,rfl⟩)
    go_round
    case rel=>exact ⟨k+1,by omega,by go_num,H1.out⟩
    case measure=>simp [intOf]; omega
  ·have H1:Hid (allNm s.data.toList=true):=by
    have:=HA.out;rw [List.take_of_length_le (by simp; omega)] at this
    exact Lh this
   go_wp2
   go_ret
   exact ⟨by rw [H1.out]; rfl,rfl⟩
theorem zl7 (s:ByteArray) (w:World) (hs:s.size<=maxLen) :
  Calls Tryz.prog 39 #[.string s] w fun e w'=>e=.returned (.bool (nameL s.data.toList))/\w=w':=by
 have hl:=size_eq s;by_cases h0:s.size=0
 ·have e:s.data.toList=[]:=List.eq_nil_of_length_eq_zero (by omega)
  rw [e]; exact zt0 s w (zr2 h0)
 have hne:s.data.toList.isEmpty=false:=by
  rw [<- Lib.toList_data]; exact zc8 (by omega)
 by_cases h1:64<s.size
 ·have e:nameL s.data.toList=false:=by unfold nameL; rw [hl]; simp; omega
  rw [e]; exact zy3 s w hs h1
 have e0:s.data.toList.getD 0 0=s[0]'(by omega):=by
  rw [List.getD_eq_getElem?_getD,List.getElem?_eq_getElem (by omega)]; rfl
 cases hd:digB ((s[0]'(by omega)).toNat:Int)
 ·have e:nameL s.data.toList=allNm s.data.toList:=by
   unfold nameL; rw [e0,hd,hne,hl]; simp; omega
  rw [e]; exact zy2 s w (by omega) (by omega) hd
 ·have e:nameL s.data.toList=false:=by unfold nameL; rw [e0,hd]; simp
  rw [e]; exact zt1 s w (by omega) (by omega) hd
def letU (n:Int):Bool:=letB n||n==95
theorem zh1 (n:Int) (w:World) (h0:0<=n) (h1:n<=255) :
  Calls Tryz.prog 94 #[.int .u8 n] w fun e w'=>e=.returned (.bool (digB n))/\w=w':=by
 go_enter Tryz.func94,Tryz.ntmps94
 go_wp2
 all_goals go_ret
 all_goals (simp [digB, *]; try omega)
theorem zd7 (n:Int) (w:World) (h0:0<=n) (h1:n<=255) :
  Calls Tryz.prog 93 #[.int .u8 n] w fun e w'=>e=.returned (.bool (letU n))/\w=w':=by
 go_enter Tryz.func93,Tryz.ntmps93
 go_wp2
 all_goals go_ret
 all_goals refine ⟨congrArg Ending.returned (congrArg Value.bool ?_),rfl⟩
 all_goals (rw [Bool.eq_iff_iff]; simp [letU,letB, *]; try omega)
theorem zp8 (s:ByteArray) (w:World) (h:s.size=0) :
  Calls Tryz.prog 42 #[.string s] w fun e w'=>e=.returned (.bool false)/\w=w':=by
 have h':(s.size:Int)<1:=by omega
 clear h;go_enter Tryz.func42,Tryz.ntmps42
 go_wp2_with fail
 go_ret
 exact ⟨rfl,rfl⟩
theorem zs7 (s:ByteArray) (w:World) (hs:s.size<=maxLen) (h:64<s.size) :
  Calls Tryz.prog 42 #[.string s] w fun e w'=>e=.returned (.bool false)/\w=w':=by
 unfold maxLen at hs;go_enter Tryz.func42,Tryz.ntmps42
 go_wp2_with fail
 go_ret
 exact ⟨rfl,rfl⟩
theorem nm_of (n:Int):nmB n=(letU n||digB n):=by unfold nmB letU; cases letB n <;> cases digB n <;> simp
def zo3 (l:List UInt8) (k:Nat):Prop:=allNm (l.take k)=true/\(0<k->digB ((l.getD 0 0).toNat:Int)=false)
theorem zq0 (l:List UInt8):zo3 l 0:=⟨rfl,fun h=>absurd h (by omega)⟩
theorem zj8 {l:List UInt8} {k:Nat} (h:zo3 l k) (hk:k<l.length) (h1:nmB (l[k].toNat:Int)=true) (h2:k=0->digB (l[k].toNat:Int)=false):zo3 l (k+1):=by
 refine ⟨zf3 l (fun c=>nmB (c.toNat:Int)) k hk h.1 h1,fun _=>?_⟩
 by_cases e:k=0
 ·subst e; rw [List.getD_eq_getElem?_getD,List.getElem?_eq_getElem hk]; exact h2 rfl
 ·exact h.2 (by omega)
theorem zt3 {l:List UInt8} (h:zo3 l l.length) (h0:0<l.length) (h1:l.length<=64):nameL l=true:=by
 unfold nameL;have e:=h.1;rw [List.take_length] at e;rw [h.2 h0,e]
 cases l with
 | nil=>simp at h0
 | cons a l=>simp at h1 ⊢; omega
theorem zs9 {l:List UInt8} {k:Nat} (hk:k<l.length) (h:nmB (l[k].toNat:Int)=false):nameL l=false:=by
 unfold nameL;rw [show allNm l=false from zl1 l (fun c=>nmB (c.toNat:Int)) k hk h]; simp
theorem zn4 {l:List UInt8} (hk:0<l.length) (h:digB (l[0].toNat:Int)=true):nameL l=false:=by
 unfold nameL;rw [List.getD_eq_getElem?_getD,List.getElem?_eq_getElem hk,Option.getD_some,h]; simp
theorem zs6 (s:ByteArray) (w:World) (h0:0<s.size) (h:s.size<=64) :
  Calls Tryz.prog 42 #[.string s] w fun e w'=>e=.returned (.bool (nameL s.data.toList))/\w=w':=by
 have hl:=Lh (size_eq s);go_enter Tryz.func42,Tryz.ntmps42
 go_wp2_with fail
 go_loop [3] (fun i=>∃ k:Nat,k<=s.size/\i=.int .i64 k/\zo3 s.data.toList k) (fun i=>s.size-(intOf i).toNat)
 case atStart=>exact ⟨0,Nat.zero_le _,rfl,zq0 _⟩
 case round =>
  obtain ⟨k,hk,rfl,hH⟩:=hrel;by_cases hlt:k<s.size
  ·have hbk:=ze3 s[k]
   have hlk:k<s.data.toList.length:=by rw [hl.out]; exact hlt
   cases n1:letU (s[k].toNat:Int)
   ·cases n2:digB (s[k].toNat:Int)
    ·have H2:Hid (nameL s.data.toList=false):=Lh (zs9 hlk (by show nmB (s[k].toNat:Int)=false; rw [nm_of,n1,n2]; rfl))
     go_wp2_with (first | (go_at_call 93; refine (zd7 _ _ (by omega) (by omega)).mono ?_; rintro e w' ⟨rfl,rfl⟩) | (go_at_call 94; refine (zh1 _ _ (by omega) (by omega)).mono ?_; rintro e w' ⟨rfl,rfl⟩))
     all_goals go_ret
     all_goals exact ⟨by rw [H2.out]; rfl,rfl⟩
    ·by_cases hd:k=0
     ·subst hd
      have H2:Hid (nameL s.data.toList=false):=Lh (zn4 hlk n2);go_wp2_with (first | (go_at_call 93; refine (zd7 _ _ (by omega) (by omega)).mono ?_; rintro e w' ⟨rfl,rfl⟩) | (go_at_call 94; refine (zh1 _ _ (by omega) (by omega)).mono ?_; rintro e w' ⟨rfl,rfl⟩))
      all_goals go_ret
      all_goals exact ⟨by rw [H2.out]; rfl,rfl⟩
     ·have hd':((k:Int)==0)=false:=by rw [beq_eq_false_iff_ne]; omega
      have H3:=Lh (zj8 hH hlk (by show nmB (s[k].toNat:Int)=true; rw [nm_of,n1,n2]; rfl) (fun e=>absurd e hd))
      clear hH;go_wp2_with (first | (go_at_call 93; refine (zd7 _ _ (by omega) (by omega)).mono ?_; rintro e w' ⟨rfl,rfl⟩) | (go_at_call 94; refine (zh1 _ _ (by omega) (by omega)).mono ?_; rintro e w' ⟨rfl,rfl⟩))
      go_round
      case rel=>exact ⟨k+1,by omega,by go_num,H3.out⟩
      case measure=>simp [intOf]; omega
   ·have hnd:digB (s[k].toNat:Int)=false:=by
     unfold letU letB at n1; unfold digB; simp at n1 ⊢; omega
    have H3:=Lh (zj8 hH hlk (by show nmB (s[k].toNat:Int)=true; rw [nm_of,n1]; rfl) (fun _=>hnd))
    clear hH hnd;go_wp2_with (go_at_call 93; refine (zd7 _ _ (by omega) (by omega)).mono ?_; rintro e w' ⟨rfl,rfl⟩)
    go_round
    case rel=>exact ⟨k+1,by omega,by go_num,H3.out⟩
    case measure=>simp [intOf]; omega
  ·obtain rfl:k=s.size:=by omega
   have H1:Hid (nameL s.data.toList=true):=Lh (zt3 (by rw [hl.out]; exact hH) (by rw [hl.out]; exact h0) (by rw [hl.out]; exact h))
   go_wp2
   go_ret
   exact ⟨by rw [H1.out]; rfl,rfl⟩
theorem zd2 (s:ByteArray) (w:World) (hs:s.size<=maxLen) :
  Calls Tryz.prog 42 #[.string s] w fun e w'=>e=.returned (.bool (nameL s.data.toList))/\w=w':=by
 have hl:=size_eq s;by_cases h0:s.size=0
 ·have e:s.data.toList=[]:=List.eq_nil_of_length_eq_zero (by omega)
  rw [e]; exact zp8 s w h0
 by_cases h1:64<s.size
 ·have e:nameL s.data.toList=false:=by unfold nameL; rw [hl]; simp; omega
  rw [e]; exact zs7 s w hs h1
 exact zs6 s w (by omega) (by omega)
inductive VT where
 | mk (k n:Int) (s:ByteArray) (items:List VT) (keys:List ByteArray)
mutual
def VT.size:VT->Nat
 | .mk _ _ _ is _=>1+VT.sizes is
def VT.sizes:List VT->Nat
 | []=>0
 | t::r=>t.size+VT.sizes r
end
mutual
def VT.depth:VT->Nat
 | .mk _ _ _ is _=>1+VT.depths is
def VT.depths:List VT->Nat
 | []=>0
 | t::r=>max t.depth (VT.depths r)
end
theorem VT.ind {P:VT->Prop} (h:∀ k n s is ks,(∀ (i:Nat) (t:VT),is[i]?=some t->P t)->P (.mk k n s is ks)) (t:VT):P t :=
 VT.rec (motive_1:=P) (motive_2:=fun l=>∀ (i:Nat) (t:VT),l[i]?=some t->P t) (fun k n s is ks ih=>h k n s is ks ih)
  (fun i t hi=>by simp at hi) (fun x r hx hr i t hi=>by
    cases i with
    | zero=>simp at hi; subst hi; exact hx
    | succ j=>exact hr j t (by simpa using hi)) t
def C5 (w:World) (a:Addr) (v:Value):Prop:=∃ c0 c1 c2 c3 c4,v=.agg #[c0,c1,c2,c3,c4]/\w.cell? a=some c0/\w.cell? ⟨a.block,a.off+1,none⟩=some c1/\w.cell? ⟨a.block,a.off+2,none⟩=some c2/\w.cell? ⟨a.block,a.off+3,none⟩=some c3/\w.cell? ⟨a.block,a.off+4,none⟩=some c4
def KeysAt (w:World) (B:Nat) (K:Option Addr) (keys:List ByteArray):Prop :=
 0<keys.length->∃ a,K=some a/\a.block<B/\∀ i s,keys[i]?=some s->w.cell? (a.add i)=some (.string s)
def small (k:Int):Prop:=-9223372036854775808<=k/\k<=9223372036854775807
inductive Rd (w:World) (B:Nat):Value->VT->Prop
 | mk {k n:Int} {s:ByteArray} {A:Option Addr} {li ci:Nat} {K:Option Addr} {lk ck:Nat} {items:List VT} {keys:List ByteArray} (V:Nat->Value)
    (hk:small k) (hn:small n) (hs:s.size<=140737488351232) (hks:∀ s∈keys,s.size<=140737488351232)
    (hli:items.length=li) (hlk:keys.length=lk) (hbi:li*80<=140737488351232) (hbk:lk*16<=140737488351232/\lk<=ck)
    (hA:0<li->∃ a,A=some a/\a.block<B/\∀ i,i<li->C5 w (a.add (i*5)) (V i))
    (hr:∀ (i:Nat) (t:VT),items[i]?=some t->Rd w B (V i) t)
    (hK:KeysAt w B K keys) :
    Rd w B (.agg #[.int .i64 k,.int .i64 n,.string s,.slice A li ci,.slice K lk ck]) (.mk k n s items keys)
theorem za0 (a:Addr) (n:Nat):(a.add n).block=a.block:=by unfold Addr.add; split <;> rfl
theorem C5.kept {w w':World} {B:Nat} {a:Addr} {v:Value} (h:C5 w a v) (ha:a.block<B) (hb:Below B w w'):C5 w' a v:=by
 obtain ⟨c0,c1,c2,c3,c4,e,h0,h1,h2,h3,h4⟩:=h;exact ⟨c0,c1,c2,c3,c4,e,(hb.cell ha).trans h0,(hb.cell (p:=⟨a.block,a.off+1,none⟩) ha).trans h1,(hb.cell (p:=⟨a.block,a.off+2,none⟩) ha).trans h2,(hb.cell (p:=⟨a.block,a.off+3,none⟩) ha).trans h3,(hb.cell (p:=⟨a.block,a.off+4,none⟩) ha).trans h4⟩
theorem KeysAt.kept {w w':World} {B:Nat} {K:Option Addr} {keys:List ByteArray} (h:KeysAt w B K keys) (hb:Below B w w'):KeysAt w' B K keys:=by
 intro hl;obtain ⟨a,e,ha,hc⟩:=h hl;exact ⟨a,e,ha,fun i s hi=>(hb.cell (by rw [za0]; exact ha)).trans (hc i s hi)⟩
theorem Rd.kept {w w':World} {B:Nat} {v:Value} {t:VT} (h:Rd w B v t) (hb:Below B w w'):Rd w' B v t:=by
 induction h with
 | mk V hk hn hs hks hli hlk hbi hbk hA hr hK ih =>
   refine .mk V hk hn hs hks hli hlk hbi hbk (fun h0=>?_) ih (hK.kept hb)
   obtain ⟨a,e,ha,hc⟩:=hA h0;exact ⟨a,e,ha,fun i hi=>(hc i hi).kept (by rw [za0]; exact ha) hb⟩
theorem Rd.mono {w:World} {B B':Nat} {v:Value} {t:VT} (h:Rd w B v t) (hb:B<=B'):Rd w B' v t:=by
 induction h with
 | mk V hk hn hs hks hli hlk hbi hbk hA hr hK ih =>
   refine .mk V hk hn hs hks hli hlk hbi hbk (fun h0=>?_) ih (fun h0=>?_)
   ·obtain ⟨a,e,ha,hc⟩:=hA h0
    exact ⟨a,e,by omega,hc⟩
   ·obtain ⟨a,e,ha,hc⟩:=hK h0
    exact ⟨a,e,by omega,hc⟩
theorem Rd.cells {w w':World} {B:Nat} {v:Value} {t:VT} {a:Addr} (h:Rd w B v t) (hc:C5 w' a v) :
  ∃ (k n:Int) (s:ByteArray) (A:Option Addr) (li ci:Nat) (K:Option Addr) (lk ck:Nat),v=.agg #[.int .i64 k,.int .i64 n,.string s,.slice A li ci,.slice K lk ck] /\
   w'.cell? a=some (.int .i64 k)/\w'.cell? ⟨a.block,a.off+1,none⟩=some (.int .i64 n)/\w'.cell? ⟨a.block,a.off+2,none⟩=some (.string s) /\
   w'.cell? ⟨a.block,a.off+3,none⟩=some (.slice A li ci)/\w'.cell? ⟨a.block,a.off+4,none⟩=some (.slice K lk ck):=by
 cases h with
 | mk V hk hn hs hks hli hlk hbi hbk hA hr hK =>
   obtain ⟨c0,c1,c2,c3,c4,e,h0,h1,h2,h3,h4⟩:=hc;simp only [Value.agg.injEq,Array.mk.injEq,List.cons.injEq,and_true] at e
   obtain ⟨rfl,rfl,rfl,rfl,rfl⟩:=e;exact ⟨_,_,_,_,_,_,_,_,_,rfl,h0,h1,h2,h3,h4⟩
theorem items_at {items:List VT} {li j:Nat} (hli:items.length=li) (hj:j<li):∃ t,items[j]?=some t:=⟨items[j]'(by omega),List.getElem?_eq_getElem (by omega)⟩
theorem zU6 (l:List VT) (k:Nat) (t:VT) (h:l[k]?=some t):VT.sizes (l.take (k+1))=VT.sizes (l.take k)+t.size:=by
 induction l generalizing k with
 | nil=>simp at h
 | cons x r ih =>
   cases k with
   | zero=>simp at h; subst h; simp [VT.sizes]
   | succ j=>simp only [List.take_succ_cons,VT.sizes]; rw [ih j (by simpa using h)]; omega
theorem zD8 (l:List VT) (k:Nat):VT.sizes (l.take k)<=VT.sizes l:=by
 induction l generalizing k with
 | nil=>simp
 | cons x r ih =>
   cases k with
   | zero=>simp [VT.sizes]
   | succ j=>simp only [List.take_succ_cons,VT.sizes]; have:=ih j; omega
theorem zk0 {w wr:World} {B li j:Nat} {A:Option Addr} {V:Nat->Value} {items:List VT} (hA:0<li->∃ a,A=some a/\a.block<B/\∀ i,i<li->C5 w (a.add (i*5)) (V i))
  (hR:∀ (i:Nat) (t:VT),items[i]?=some t->Rd w B (V i) t) (hli:items.length=li) (hb:Below B w wr) (hj:j<li) :
  ∃ (a:Addr) (t:VT) (k n:Int) (s:ByteArray) (A1:Option Addr) (l1 c1:Nat) (K:Option Addr) (lk ck:Nat),A=some a/\items[j]?=some t/\V j=.agg #[.int .i64 k,.int .i64 n,.string s,.slice A1 l1 c1,.slice K lk ck]/\Rd wr B (V j) t /\
   wr.cell? (a.add (j*5))=some (.int .i64 k)/\wr.cell? ⟨(a.add (j*5)).block,(a.add (j*5)).off+1,none⟩=some (.int .i64 n)/\wr.cell? ⟨(a.add (j*5)).block,(a.add (j*5)).off+2,none⟩=some (.string s) /\
   wr.cell? ⟨(a.add (j*5)).block,(a.add (j*5)).off+3,none⟩=some (.slice A1 l1 c1)/\wr.cell? ⟨(a.add (j*5)).block,(a.add (j*5)).off+4,none⟩=some (.slice K lk ck):=by
 obtain ⟨a,e,ha,hc⟩:=hA (by omega)
 obtain ⟨t,ht⟩:=items_at hli hj;have hrd:=(hR j t ht).kept hb;obtain ⟨k,n,s,A1,l1,c1,K,lk,ck,e1,h⟩:=hrd.cells ((hc j hj).kept (by rw [za0]; exact ha) hb)
 exact ⟨a,t,k,n,s,A1,l1,c1,K,lk,ck,e,ht,e1,hrd,h⟩
theorem zP6 (l:List VT) (k:Nat) (t:VT) (h:l[k]?=some t):VT.depths (l.take (k+1))=max (VT.depths (l.take k)) t.depth:=by
 induction l generalizing k with
 | nil=>simp at h
 | cons x r ih =>
   cases k with
   | zero=>simp at h; subst h; simp [VT.depths]
   | succ j=>simp only [List.take_succ_cons,VT.depths]; rw [ih j (by simpa using h)]; omega
theorem zp2 (l:List VT) (k:Nat):VT.depths (l.take k)<=VT.depths l:=by
 induction l generalizing k with
 | nil=>simp
 | cons x r ih =>
   cases k with
   | zero=>simp [VT.depths]
   | succ j=>simp only [List.take_succ_cons,VT.depths]; have:=ih j; omega
mutual
theorem VT.depth_le (t:VT):t.depth<=t.size:=by
 cases t with
 | mk k n s is ks=>simp only [VT.depth,VT.size]; have:=VT.depths_le is; omega
theorem VT.depths_le (l:List VT):VT.depths l<=VT.sizes l:=by
 cases l with
 | nil=>simp [VT.depths]
 | cons t r=>simp only [VT.depths,VT.sizes]; have:=VT.depth_le t; have:=VT.depths_le r; omega
end
end Go.Proofs.YtfgelheiknmjgaaGreatDoor
