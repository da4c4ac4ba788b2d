
/-
 Texts joined: ROne RScan I8 W4.
-/
import Derived.Test.YthjoelpfmimedaaGreatDoorZp30
import Derived.Test.YthjoelpfmimedaaGreatDoorZp4
import Derived.Test.YthjoelpfmimedaaGreatDoorZp29
import Derived.Test.YthjoelpfmimedaaGreatDoorZp20
import Derived.Test.YthjoelpfmimedaaGreatDoorZp25
import Derived.Test.YthjoelpfmimedaaGreatDoorZp21
namespace Go.Proofs.YthjoelpfmimedaaGreatDoor.K
open Go.RowKit
theorem sg_drop (c:UInt8):∀ k,k < 13 → decide (c ∈ sgL.drop k) = (decide (c = sgL.getD k 0) || decide (c ∈ sgL.drop (k + 1))):=by
 intro k hk
 have h:k < sgL.length:=hk
 have e:sgL.drop k = sgL.getD k 0 :: sgL.drop (k + 1):=by
  rw [zg1 h,List.getD_eq_getElem?_getD,List.getElem?_eq_getElem h,Option.getD_some]
 rw [e,Bool.eq_iff_iff,Bool.or_eq_true,decide_eq_true_iff,decide_eq_true_iff,decide_eq_true_iff,List.mem_cons]
theorem sg_at (k:Nat) (h:k < (⟨#[33,36,38,40,41,58,61,64,91,93,123,124,125]⟩ : ByteArray).size):(⟨#[33,36,38,40,41,58,61,64,91,93,123,124,125]⟩ : ByteArray)[k] = sgL.getD k 0:=by
 have:sgL.getD k 0 = (⟨#[33,36,38,40,41,58,61,64,91,93,123,124,125]⟩ : ByteArray).data.toList.getD k 0:=rfl
 rw [this,T1.zg0 _ k h]
set_option maxHeartbeats 2000000 in
theorem zk2 (c:UInt8) (w:World):Calls Tryz.prog 58 #[.int .u8 c.toNat] w fun e w' => e = .returned (.bool (decide (c ∈ sgL))) ∧ w = w':=by
 have ST:Hid (decide (c ∈ sgL) = decide (c ∈ sgL.drop 0)):=Lib.hid rfl
 generalize decide (c ∈ sgL) = b at *
 have hbc:=T1.zb7 c
 go_enter Tryz.func58, Tryz.ntmps58
 go_wp2_with fail
 go_loop [4] (fun v => ∃ k:Nat,v = .int .i64 k ∧ k ≤ 13 ∧ b = decide (c ∈ sgL.drop k)) (fun v => 13 - (intOf v).toNat)
 case atStart => exact ⟨0,rfl,by omega,ST.out⟩
 case round =>
  obtain ⟨k,rfl,hk,hat⟩:=hrel
  have HA:=Lib.hid hat
  clear hat ST
  by_cases hlt:k < 13
  ·have hsz:k < (⟨#[33,36,38,40,41,58,61,64,91,93,123,124,125]⟩ : ByteArray).size:=hlt
   have e1:=sg_at k hsz
   have HD:=Lib.hid (sg_drop c k hlt)
   by_cases hc:c = sgL.getD k 0
   ·have g:(((⟨#[33,36,38,40,41,58,61,64,91,93,123,124,125]⟩ : ByteArray)[k].toNat:Int) == (c.toNat:Int)) = true:=by rw [e1,hc]; simp
    have HB:Hid (b = true):=Lib.hid (by rw [HA.out,HD.out,decide_eq_true hc]; rfl)
    clear e1 hc
    go_wp2_with fail
    go_ret
    exact ⟨by rw [HB.out]; rfl,rfl⟩
   ·have g:(((⟨#[33,36,38,40,41,58,61,64,91,93,123,124,125]⟩ : ByteArray)[k].toNat:Int) == (c.toNat:Int)) = false:=T1.u8_ne (by rw [e1]; exact fun e => hc e.symm)
    have HB:Hid (b = decide (c ∈ sgL.drop (k + 1))):=Lib.hid (by rw [HA.out,HD.out,decide_eq_false hc]; rfl)
    clear e1 hc
    go_wp2_with fail
    go_round
    case rel => exact ⟨k + 1,by go_num,by omega,HB.out⟩
    case measure => simp [intOf]; omega
  ·obtain rfl:k = 13:=by omega
   have HB:Hid (b = false):=Lib.hid (by rw [HA.out]; rfl)
   go_wp2_with fail
   go_ret
   exact ⟨by rw [HB.out]; rfl,rfl⟩
def RT (W:World) (b:Nat) (c0 c1 c2:Value):Prop:=W.heap[b]? = some (.cells #[c0,c1,c2] 76 (0,0))
theorem RT.cells {W:World} {b:Nat} {c0 c1 c2:Value} (h:RT W b c0 c1 c2):W.cell? ⟨b,0,none⟩ = some c0 ∧ W.cell? ⟨b,1,none⟩ = some c1 ∧ W.cell? ⟨b,2,none⟩ = some c2:=by
 refine ⟨?_, ?_, ?_⟩ <;> rw [cell_of_row _ _ _ _ _ _ h] <;> rfl
theorem RT.frz {W:World} {b:Nat} {c0 c1 c2:Value} (h:RT W b c0 c1 c2) (i:Nat):W.frozen? ⟨b,i,none⟩ = false:=by
 unfold RT at h; simp [World.frozen?,h]
theorem RT.three {W:World} {b:Nat} {c0 c1 c2:Value} (h:RT W b c0 c1 c2) (u0 u1 u2:Value):RT (((W.setCell ⟨b,0,none⟩ u0).setCell ⟨b,1,none⟩ u1).setCell ⟨b,2,none⟩ u2) b u0 u1 u2:=by
 unfold RT at h ⊢; simp [World.setCell,Array.getElem?_modify,h]
theorem RT.lt {W:World} {b:Nat} {c0 c1 c2:Value} (h:RT W b c0 c1 c2):b < W.heap.size:=by
 unfold RT at h
 rcases Nat.lt_or_ge b W.heap.size with h' | h'
 ·exact h'
 ·rw [Array.getElem?_eq_none h'] at h; cases h
theorem RT.stay {W W':World} {b:Nat} {c0 c1 c2:Value} (h:RT W b c0 c1 c2) (hb:Below W.heap.size W W'):RT W' b c0 c1 c2:=(hb.block b h.lt).trans h
def yi3 (o:Except Int (Int × List UInt8 × Nat)) (i:Nat) (e:Ending):Prop :=
 match o with
 | .ok (k,t,n) => e = .returned (.tuple #[tkV k ⟨t.toArray⟩ i,.int .i64 (i + n:Nat),.int .i64 0])
 | .error c => c ≠ 0 ∧ ∃ (k:Int) (t:ByteArray) (a n:Int),e = .returned (.tuple #[tkV k t a,.int .i64 n,.int .i64 c])
def zo7 (o:Except Int (Int × List UInt8 × Nat)) (i:Nat) (w:World) (e:Ending) (w':World):Prop:=yi3 o i e ∧ Below w.heap.size w w'
theorem yg1 (s:ByteArray) (i j:Nat):s.extract i j = ⟨((s.data.toList.drop i).take (j - i)).toArray⟩:=by
 have:(s.extract i j).data.toList = (s.data.toList.drop i).take (j - i):=by
  rw [ByteArray.data_extract,Array.toList_extract]
 rw [← this]
theorem zP4 (s:ByteArray) (i j:Nat):(s.extract i j).data.toList = (s.data.toList.drop i).take (j - i):=by
 rw [ByteArray.data_extract,Array.toList_extract]
theorem zA3 (s:ByteArray) (i:Nat) (h:i < s.size):tokR (s.data.toList.drop i) = if s[i] ∈ sgL then .ok (1,(s.data.toList.drop i).take 1,1) else if (s.data.toList.drop i).take 3 = elL then .ok (1,elL,3)
  else if T1.letU ((s[i]).toNat:Int) = true then nameR (s.data.toList.drop i) else if dmB s[i] = true then intR (s.data.toList.drop i) else if s[i] = 34 then textR (s.data.toList.drop i) else .error 3:=by
 have e:(s.data.toList.drop i).getD 0 0 = s[i]:=by
  rw [List.getD_eq_getElem?_getD,List.getElem?_drop,Nat.add_zero, ← List.getD_eq_getElem?_getD]; exact T1.zg0 s i h
 rw [← e]; rfl
theorem drop_ne (s:ByteArray) (i:Nat) (h:i < s.size):s.data.toList.drop i ≠ []:=by
 intro e; have:=congrArg List.length e; rw [List.length_drop,T1.size_eq] at this; simp at this; omega
abbrev W0 (w:World):World:=w.alloc (.cells #[.int .i64 0,.string ⟨#[]⟩,.int .i64 0] 76 (0,0))
theorem W0.rt (w:World):RT (W0 w) w.heap.size (.int .i64 0) (.string ⟨#[]⟩) (.int .i64 0):=heap_alloc_new w _
theorem W0.below (w:World):Below w.heap.size w (W0 w):=(Below.refl _ _).alloc (Nat.le_refl _) _
set_option maxRecDepth 100000 in
set_option maxHeartbeats 4000000 in
theorem one_sign (s:ByteArray) (i:Nat) (hi:i < s.size) (hs:s.size ≤ 100000) (w:World) (c1:s[i] ∈ sgL):Calls Tryz.prog 31 #[.string s,.int .i64 i] w (zo7 (tokR (s.data.toList.drop i)) i w):=by
 have E1:Hid (tokR (s.data.toList.drop i) = .ok (1,(s.data.toList.drop i).take 1,1)):=Lib.hid (by rw [zA3 s i hi,if_pos c1])
 have HE:=Lib.hid (yg1 s i (i + 1))
 have CALL:=Lib.hid (zk2 s[i] (W0 w))
 rw [decide_eq_true c1] at CALL
 have n1:((i:Int) + 1).toNat = i + 1:=by omega
 have n2:(i:Int) + 1 ≤ s.size:=by omega
 have hbk:=T1.zb7 s[i]
 clear c1
 generalize tokR (s.data.toList.drop i) = R at *
 go_enter Tryz.func31, Tryz.ntmps31
 go_wp2_with fail
 refine CALL.out.mono ?_
 rintro e w1 ⟨rfl,rfl⟩
 go_wp2_with fail
 refine bodyPost_ret (v:=.tuple #[tkV 1 (s.extract i (i + 1)) i,.int .i64 (i + 1:Nat),.int .i64 0]) (by simp [results,Tryz.results31,go_sem]) rfl ⟨?_,(Below.refl _ _).alloc (Nat.le_refl _) _⟩
 rw [E1.out,HE.out,show i + 1 - i = 1 by omega]
 rfl
theorem zx9 (s:ByteArray) (i:Nat) (hi:i < s.size):(s.data.toList.drop i).take 3 = elL → (s[i] = 46 ∧ i + 3 ≤ s.size):=by
 have hsz:=T1.size_eq s
 intro h
 have hl:=congrArg List.length h
 rw [List.length_take,List.length_drop] at hl
 have hl:min 3 (s.data.toList.length - i) = 3:=hl
 refine ⟨?_,by omega⟩
 have h0:((s.data.toList.drop i).take 3).getD 0 0 = 46:=by rw [h]; rfl
 rw [zg1 (l:=s.data.toList) (k:=i) (by omega)] at h0
 exact h0
theorem yh0 (s:ByteArray) (i:Nat):((s.extract i (i + 3)).toList == [46,46,46]) = decide ((s.data.toList.drop i).take 3 = elL):=by
 rw [Lib.toList_data,zP4,show i + 3 - i = 3 by omega,Bool.eq_iff_iff,beq_iff_eq,decide_eq_true_iff]
 exact Iff.rfl
theorem yh9:¬ (46:UInt8) ∈ sgL ∧ T1.letU ((46:UInt8).toNat:Int) = false ∧ dmB 46 = false:=by decide
set_option maxRecDepth 100000 in
set_option maxHeartbeats 4000000 in
theorem one_dots (s:ByteArray) (i:Nat) (hi:i < s.size) (hs:s.size ≤ 100000) (w:World) (c1:s[i] = 46):Calls Tryz.prog 31 #[.string s,.int .i64 i] w (zo7 (tokR (s.data.toList.drop i)) i w):=by
 have hn:=yh9
 rw [← c1] at hn
 have HT:=zA3 s i hi
 rw [if_neg hn.1] at HT
 have CALL0:=zk2 46 (W0 w)
 rw [decide_eq_false yh9.1] at CALL0
 have CALL:Hid (Calls Tryz.prog 58 #[.int .u8 46] (W0 w) fun e w' => e = .returned (.bool false) ∧ W0 w = w'):=Lib.hid CALL0
 clear CALL0
 have n1:((i:Int) + 3).toNat = i + 3:=by omega
 by_cases c2:(s.data.toList.drop i).take 3 = elL
 ·rw [if_pos c2] at HT
  have E1:=Lib.hid HT
  have q1:=(zx9 s i hi c2).2
  have q2:=(yh0 s i).trans (decide_eq_true c2)
  have n2:(i:Int) + 3 ≤ s.size:=by omega
  clear hn HT c2
  generalize tokR (s.data.toList.drop i) = R at *
  go_enter Tryz.func31, Tryz.ntmps31
  go_wp2_with fail
  refine CALL.out.mono ?_
  rintro e w1 ⟨rfl,rfl⟩
  go_wp2_with fail
  refine bodyPost_ret (v:=.tuple #[tkV 1 ⟨#[46,46,46]⟩ i,.int .i64 (i + 3:Nat),.int .i64 0]) (by simp [results,Tryz.results31,go_sem]) rfl ⟨?_,(Below.refl _ _).alloc (Nat.le_refl _) _⟩
  rw [E1.out]
  rfl
 ·have LET:=Lib.hid (ze4 46 (W0 w) (by omega) (by omega))
  have DIG:=Lib.hid (zg9 46 (W0 w) (by omega) (by omega))
  rw [if_neg c2,if_neg (by rw [hn.2.1]; decide),if_neg (by rw [hn.2.2]; decide),if_neg (by rw [c1]; decide)] at HT
  have E1:=Lib.hid HT
  rw [show T1.letU 46 = false from rfl] at LET
  rw [show T1.digB 46 = false from rfl] at DIG
  have hcase:(¬ (i:Int) + 3 ≤ s.size) ∨ ((i:Int) + 3 ≤ s.size ∧ ((s.extract i (i + 3)).toList == [46,46,46]) = false):=by
   by_cases q:(i:Int) + 3 ≤ s.size
   ·exact .inr ⟨q,(yh0 s i).trans (decide_eq_false c2)⟩
   ·exact .inl q
  clear hn HT c2
  generalize tokR (s.data.toList.drop i) = R at *
  rcases hcase with q1 | ⟨q1,q2⟩
  ·go_enter Tryz.func31, Tryz.ntmps31
   go_wp2_with fail
   refine CALL.out.mono ?_
   rintro e w1 ⟨rfl,rfl⟩
   go_wp2_with fail
   refine LET.out.mono ?_
   rintro e w1 ⟨rfl,rfl⟩
   go_wp2_with fail
   refine DIG.out.mono ?_
   rintro e w1 ⟨rfl,rfl⟩
   go_wp2_with fail
   refine bodyPost_ret (v:=.tuple #[tkV 0 ⟨#[]⟩ 0,.int .i64 0,.int .i64 3]) (by simp [results,Tryz.results31,go_sem]) rfl ⟨?_,(Below.refl _ _).alloc (Nat.le_refl _) _⟩
   rw [E1.out]
   exact ⟨by decide,_,_,_,_,rfl⟩
  ·go_enter Tryz.func31, Tryz.ntmps31
   go_wp2_with fail
   refine CALL.out.mono ?_
   rintro e w1 ⟨rfl,rfl⟩
   go_wp2_with fail
   refine LET.out.mono ?_
   rintro e w1 ⟨rfl,rfl⟩
   go_wp2_with fail
   refine DIG.out.mono ?_
   rintro e w1 ⟨rfl,rfl⟩
   go_wp2_with fail
   refine bodyPost_ret (v:=.tuple #[tkV 0 ⟨#[]⟩ 0,.int .i64 0,.int .i64 3]) (by simp [results,Tryz.results31,go_sem]) rfl ⟨?_,(Below.refl _ _).alloc (Nat.le_refl _) _⟩
   rw [E1.out]
   exact ⟨by decide,_,_,_,_,rfl⟩
set_option maxRecDepth 100000 in
set_option maxHeartbeats 4000000 in
theorem one_none (s:ByteArray) (i:Nat) (hi:i < s.size) (_hs:s.size ≤ 100000) (w:World) (c1:¬ s[i] ∈ sgL) (c2:s[i] ≠ 46) (c3:T1.letU (s[i].toNat:Int) = false) (c4:dmB s[i] = false) (c5:s[i] ≠ 34):Calls Tryz.prog 31 #[.string s,.int .i64 i] w (zo7 (tokR (s.data.toList.drop i)) i w):=by
 have hel:¬ (s.data.toList.drop i).take 3 = elL:=fun h => c2 (zx9 s i hi h).1
 have E1:Hid (tokR (s.data.toList.drop i) = .error 3):=Lib.hid (by rw [zA3 s i hi,if_neg c1,if_neg hel,if_neg (by rw [c3]; decide),if_neg (by rw [c4]; decide),if_neg c5])
 have hbk:=T1.zb7 s[i]
 have CALL:=Lib.hid (zk2 s[i] (W0 w))
 have LET:=Lib.hid (ze4 (s[i].toNat:Int) (W0 w) (by omega) (by omega))
 have DIG:=Lib.hid (zg9 (s[i].toNat:Int) (W0 w) (by omega) (by omega))
 have c4':=c4
 unfold dmB at c4'
 rw [Bool.or_eq_false_iff] at c4'
 rw [decide_eq_false c1] at CALL
 rw [c3] at LET
 rw [c4'.1] at DIG
 have b1:((s[i].toNat:Int) == 46) = false:=T1.u8_ne c2
 have b2:((s[i].toNat:Int) == 45) = false:=T1.u8_ne (of_decide_eq_false c4'.2)
 have b3:((s[i].toNat:Int) == 34) = false:=T1.u8_ne c5
 clear c1 c2 c3 c4 c5 c4' hel
 generalize tokR (s.data.toList.drop i) = R at *
 go_enter Tryz.func31, Tryz.ntmps31
 go_wp2_with fail
 refine CALL.out.mono ?_
 rintro e w1 ⟨rfl,rfl⟩
 go_wp2_with fail
 refine LET.out.mono ?_
 rintro e w1 ⟨rfl,rfl⟩
 go_wp2_with fail
 refine DIG.out.mono ?_
 rintro e w1 ⟨rfl,rfl⟩
 go_wp2_with fail
 refine bodyPost_ret (v:=.tuple #[tkV 0 ⟨#[]⟩ 0,.int .i64 0,.int .i64 3]) (by simp [results,Tryz.results31,go_sem]) rfl ⟨?_,(Below.refl _ _).alloc (Nat.le_refl _) _⟩
 rw [E1.out]
 exact ⟨by decide,_,_,_,_,rfl⟩
set_option maxRecDepth 100000 in
set_option maxHeartbeats 4000000 in
theorem one_name (s:ByteArray) (i:Nat) (hi:i < s.size) (hs:s.size ≤ 100000) (w:World) (c3:T1.letU (s[i].toNat:Int) = true):Calls Tryz.prog 31 #[.string s,.int .i64 i] w (zo7 (tokR (s.data.toList.drop i)) i w):=by
 obtain ⟨c1,c2⟩:=zH7 _ (.inl (zO7 _ c3))
 have hel:¬ (s.data.toList.drop i).take 3 = elL:=fun h => c2 (zx9 s i hi h).1
 have hc:(s.data.toList.drop i).getD 0 0 = s[i]:=by
  rw [List.getD_eq_getElem?_getD,List.getElem?_drop,Nat.add_zero, ← List.getD_eq_getElem?_getD]; exact T1.zg0 s i hi
 have E1:tokR (s.data.toList.drop i) = nameR (s.data.toList.drop i):=by rw [zA3 s i hi,if_neg c1,if_neg hel,if_pos c3]
 unfold nameR at E1
 rw [name_wd (drop_ne s i hi) (by rw [hc]; exact c3)] at E1
 have hbk:=T1.zb7 s[i]
 have hwl:=zu4 (s.data.toList.drop i)
 rw [List.length_drop,T1.size_eq] at hwl
 have CALL:=Lib.hid (zk2 s[i] (W0 w))
 have LET:=Lib.hid (ze4 (s[i].toNat:Int) (W0 w) (by omega) (by omega))
 have WRD:=Lib.hid (zI0 s hs i (by omega) (W0 w))
 rw [decide_eq_false c1] at CALL
 rw [c3] at LET
 have b1:((s[i].toNat:Int) == 46) = false:=T1.u8_ne c2
 have HE:=Lib.hid (yg1 s i (i + wdN (s.data.toList.drop i)))
 generalize wdN (s.data.toList.drop i) = n at *
 have n1:((i + n:Nat):Int).toNat = i + n:=by omega
 have n2:((i + n:Nat):Int) ≤ s.size:=by omega
 have n3:(i:Int) ≤ ((i + n:Nat):Int):=by omega
 have hil:(i:Int) < s.size:=by omega
 clear c1 c2 c3 hel hc
 by_cases hn:n ≤ 64
 ·have E2:=Lib.hid (E1.trans (if_pos (decide_eq_true hn)))
  have hgt:¬ (((i + n:Nat):Int) - i > 64):=by omega
  clear E1
  generalize tokR (s.data.toList.drop i) = R at *
  go_enter Tryz.func31, Tryz.ntmps31
  go_wp2_with fail
  refine CALL.out.mono ?_
  rintro e w1 ⟨rfl,rfl⟩
  go_wp2_with fail
  refine LET.out.mono ?_
  rintro e w1 ⟨rfl,rfl⟩
  go_wp2_with fail
  refine WRD.out.mono ?_
  rintro e w1 ⟨rfl,rfl⟩
  go_wp2_with fail
  refine bodyPost_ret (v:=.tuple #[tkV 2 (s.extract i (i + n)) i,.int .i64 (i + n:Nat),.int .i64 0]) (by simp [results,Tryz.results31,go_sem]) rfl ⟨?_,(Below.refl _ _).alloc (Nat.le_refl _) _⟩
  rw [E2.out,HE.out,show i + n - i = n by omega]
  rfl
 ·have E2:=Lib.hid (E1.trans (if_neg (by rw [decide_eq_false hn]; decide)))
  have hgt:(((i + n:Nat):Int) - i > 64):=by omega
  clear E1
  generalize tokR (s.data.toList.drop i) = R at *
  go_enter Tryz.func31, Tryz.ntmps31
  go_wp2_with fail
  refine CALL.out.mono ?_
  rintro e w1 ⟨rfl,rfl⟩
  go_wp2_with fail
  refine LET.out.mono ?_
  rintro e w1 ⟨rfl,rfl⟩
  go_wp2_with fail
  refine WRD.out.mono ?_
  rintro e w1 ⟨rfl,rfl⟩
  go_wp2_with fail
  refine bodyPost_ret (v:=.tuple #[tkV 0 ⟨#[]⟩ 0,.int .i64 0,.int .i64 3]) (by simp [results,Tryz.results31,go_sem]) rfl ⟨?_,(Below.refl _ _).alloc (Nat.le_refl _) _⟩
  rw [E2.out]
  exact ⟨by decide,_,_,_,_,rfl⟩
set_option maxRecDepth 100000 in
set_option maxHeartbeats 4000000 in
theorem one_int (s:ByteArray) (i:Nat) (hi:i < s.size) (hs:s.size ≤ 100000) (w:World) (c4:dmB s[i] = true):Calls Tryz.prog 31 #[.string s,.int .i64 i] w (zo7 (tokR (s.data.toList.drop i)) i w):=by
 have c3:=dm_let _ c4
 obtain ⟨c1,c2⟩:=zH7 _ ((zF7 _ c4).elim .inl (fun x => .inr (.inr x)))
 have hel:¬ (s.data.toList.drop i).take 3 = elL:=fun h => c2 (zx9 s i hi h).1
 have E1:tokR (s.data.toList.drop i) = intR (s.data.toList.drop i):=by rw [zA3 s i hi,if_neg c1,if_neg hel,if_neg (by rw [c3]; decide),if_pos c4]
 unfold intR at E1
 rw [List.drop_drop] at E1
 have hbk:=T1.zb7 s[i]
 have hwl:=zu4 (s.data.toList.drop (i + 1))
 rw [List.length_drop,T1.size_eq] at hwl
 have CALL:=Lib.hid (zk2 s[i] (W0 w))
 have LET:=Lib.hid (ze4 (s[i].toNat:Int) (W0 w) (by omega) (by omega))
 have DIG:=Lib.hid (zg9 (s[i].toNat:Int) (W0 w) (by omega) (by omega))
 have WRD:=Lib.hid (zI0 s hs (i + 1) (by omega) (W0 w))
 rw [decide_eq_false c1] at CALL
 rw [c3] at LET
 have b1:((s[i].toNat:Int) == 46) = false:=T1.u8_ne c2
 have ee:((i + 1:Nat):Int) = (i:Int) + 1:=by omega
 rw [ee] at WRD
 generalize wdN (s.data.toList.drop (i + 1)) = n at *
 have HE:=yg1 s i (i + 1 + n)
 have HE':=zP4 s i (i + 1 + n)
 rw [show i + 1 + n - i = n + 1 by omega] at HE HE'
 have NUM0:=T1.zN6 (s.extract i (i + 1 + n)) (W0 w) (by rw [← T1.size_eq,HE',List.length_take,List.length_drop,T1.size_eq]; unfold maxLen; omega)
 rw [HE'] at NUM0
 have ANS0:yi3 (tokR (s.data.toList.drop i)) i (.returned (.tuple #[tkV 3 (s.extract i (i + 1 + n)) i,.int .i64 (i + 1 + n:Nat),.int .i64 (T1.numL ((s.data.toList.drop i).take (n + 1))).2])):=by
  rw [E1,HE]
  by_cases h0:(T1.numL ((s.data.toList.drop i).take (n + 1))).2 = 0
  ·rw [if_pos h0,h0]
   show Ending.returned _ = Ending.returned _
   rw [show i + (n + 1) = i + 1 + n by omega]
  ·rw [if_neg h0]
   exact ⟨h0,_,_,_,_,rfl⟩
 unfold T1.zG4 T1.num2 at NUM0
 generalize (T1.numL ((s.data.toList.drop i).take (n + 1))).2 = er at *
 generalize (T1.numL ((s.data.toList.drop i).take (n + 1))).1 = val at *
 have NUM:=Lib.hid NUM0
 have ANS:=Lib.hid ANS0
 have n1:((i + 1 + n:Nat):Int).toNat = i + 1 + n:=by omega
 have n2:((i + 1 + n:Nat):Int) ≤ s.size:=by omega
 have n3:(i:Int) ≤ ((i + 1 + n:Nat):Int):=by omega
 have hil:(i:Int) < s.size:=by omega
 clear c1 c2 c3 hel E1 NUM0 ANS0 HE HE' ee hwl
 generalize tokR (s.data.toList.drop i) = R at *
 cases hd:T1.digB (s[i].toNat:Int)
 ·unfold dmB at c4
  rw [hd,Bool.false_or] at c4
  have b2:((s[i].toNat:Int) == 45) = true:=by rw [of_decide_eq_true c4]; rfl
  rw [hd] at DIG
  clear c4
  go_enter Tryz.func31, Tryz.ntmps31
  go_wp2_with fail
  refine CALL.out.mono ?_
  rintro e w1 ⟨rfl,rfl⟩
  go_wp2_with fail
  refine LET.out.mono ?_
  rintro e w1 ⟨rfl,rfl⟩
  go_wp2_with fail
  refine DIG.out.mono ?_
  rintro e w1 ⟨rfl,rfl⟩
  go_wp2_with fail
  refine WRD.out.mono ?_
  rintro e w1 ⟨rfl,rfl⟩
  go_wp2_with fail
  refine NUM.out.mono ?_
  rintro e w1 ⟨rfl,rfl⟩
  go_wp2_with fail
  refine bodyPost_ret (v:=.tuple #[tkV 3 (s.extract i (i + 1 + n)) i,.int .i64 (i + 1 + n:Nat),.int .i64 er]) (by simp [results,Tryz.results31,go_sem]) rfl ⟨?_,(Below.refl _ _).alloc (Nat.le_refl _) _⟩
  exact ANS.out
 ·rw [hd] at DIG
  clear c4
  go_enter Tryz.func31, Tryz.ntmps31
  go_wp2_with fail
  refine CALL.out.mono ?_
  rintro e w1 ⟨rfl,rfl⟩
  go_wp2_with fail
  refine LET.out.mono ?_
  rintro e w1 ⟨rfl,rfl⟩
  go_wp2_with fail
  refine DIG.out.mono ?_
  rintro e w1 ⟨rfl,rfl⟩
  go_wp2_with fail
  refine WRD.out.mono ?_
  rintro e w1 ⟨rfl,rfl⟩
  go_wp2_with fail
  refine NUM.out.mono ?_
  rintro e w1 ⟨rfl,rfl⟩
  go_wp2_with fail
  refine bodyPost_ret (v:=.tuple #[tkV 3 (s.extract i (i + 1 + n)) i,.int .i64 (i + 1 + n:Nat),.int .i64 er]) (by simp [results,Tryz.results31,go_sem]) rfl ⟨?_,(Below.refl _ _).alloc (Nat.le_refl _) _⟩
  exact ANS.out
set_option maxRecDepth 100000 in
set_option maxHeartbeats 4000000 in
theorem one_text (s:ByteArray) (i:Nat) (hi:i < s.size) (hs:s.size ≤ 100000) (w:World) (c5:s[i] = 34):Calls Tryz.prog 31 #[.string s,.int .i64 i] w (zo7 (tokR (s.data.toList.drop i)) i w):=by
 have c1:¬ s[i] ∈ sgL:=by rw [c5]; decide
 have hel:¬ (s.data.toList.drop i).take 3 = elL:=fun h => by have:=(zx9 s i hi h).1; rw [c5] at this; revert this; decide
 have E1:tokR (s.data.toList.drop i) = textR (s.data.toList.drop i):=by rw [zA3 s i hi,if_neg c1,if_neg hel,if_neg (by rw [c5]; decide),if_neg (by rw [c5]; decide),if_pos c5]
 unfold textR at E1
 rw [List.drop_drop,List.length_drop,T1.size_eq] at E1
 have CALL0:=zk2 34 (W0 w)
 rw [decide_eq_false (by decide)] at CALL0
 have CALL:Hid (Calls Tryz.prog 58 #[.int .u8 34] (W0 w) fun e w' => e = .returned (.bool false) ∧ W0 w = w'):=Lib.hid CALL0
 have LET:=Lib.hid (ze4 34 (W0 w) (by omega) (by omega))
 have DIG:=Lib.hid (zg9 34 (W0 w) (by omega) (by omega))
 rw [show T1.letU 34 = false from rfl] at LET
 rw [show T1.digB 34 = false from rfl] at DIG
 have CLO:=Lib.hid (zJ0 s hs i hi (W0 w))
 unfold clR at CLO
 rw [T1.size_eq] at CLO
 have hwl:=ltN_le (s.data.toList.drop (i + 1))
 generalize ltN (s.data.toList.drop (i + 1)) = n at *
 clear c1 hel CALL0
 by_cases hn:i + 1 + n < s.size
 ·rw [if_pos hn] at CLO
  rw [if_neg (by omega)] at E1
  have HE':=zP4 s i (i + n + 2)
  rw [show i + n + 2 - i = n + 2 by omega] at HE'
  have UNQ0:=T1.zI3 (s.extract i (i + n + 2)) (W0 w) (by rw [← T1.size_eq,HE',List.length_take,List.length_drop,T1.size_eq]; omega)
  rw [HE'] at UNQ0
  unfold T1.zy7 at UNQ0
  have n1:((i + n + 2:Nat):Int).toNat = i + n + 2:=by omega
  have n2:((i + n + 2:Nat):Int) ≤ s.size:=by omega
  have n3:(i:Int) ≤ ((i + n + 2:Nat):Int):=by omega
  have n4:¬ ((i + n + 2:Nat):Int) < 0:=by omega
  have HX1:=Lib.hid (W0.rt w)
  have HB1:=Lib.hid (W0.below w)
  obtain ⟨t,er,hq,ANS0⟩ : ∃ (t:ByteArray) (er:Int),T1.uq2 (T1.zb4 ((s.data.toList.drop i).take (n + 2))) = .tuple #[.string t,.int .i64 er] ∧ yi3 (tokR (s.data.toList.drop i)) i (.returned (.tuple #[tkV 4 t i,.int .i64 (i + n + 2:Nat),.int .i64 er])):=by
   cases hu:T1.zb4 ((s.data.toList.drop i).take (n + 2)) with
   | none => exact ⟨_,_,rfl,by rw [E1,hu]; exact ⟨by decide,_,_,_,_,rfl⟩⟩
   | some t => exact ⟨_,_,rfl,by rw [E1,hu]; rfl⟩
  rw [hq] at UNQ0
  have UNQ:=Lib.hid UNQ0
  have ANS:=Lib.hid ANS0
  clear UNQ0 ANS0 hq E1 HE' hn hwl
  generalize tokR (s.data.toList.drop i) = R at *
  generalize i + n + 2 = j at *
  go_enter Tryz.func31, Tryz.ntmps31
  go_wp2_with fail
  refine CALL.out.mono ?_
  rintro e w1 ⟨rfl,rfl⟩
  go_wp2_with fail
  refine LET.out.mono ?_
  rintro e w1 ⟨rfl,rfl⟩
  go_wp2_with fail
  refine DIG.out.mono ?_
  rintro e w1 ⟨rfl,rfl⟩
  go_wp2_with fail
  refine CLO.out.mono ?_
  rintro e w1 ⟨rfl,rfl⟩
  go_wp2_with fail
  refine UNQ.out.mono ?_
  rintro e w2 ⟨rfl,hb⟩
  have HB2:=Lib.hid (HB1.out.trans (hb.mono HB1.out.size))
  have HX2:=Lib.hid (HX1.out.stay hb)
  clear hb
  have ZZ:=Lib.hid (HX2.out.three (.int .i64 4) (.string t) (.int .i64 i)).cells
  obtain ⟨x0,x1,x2⟩:=HX2.out.cells
  have g0:=HX2.out.frz 0
  have g1:=HX2.out.frz 1
  have g2:=HX2.out.frz 2
  go_wp2_with fail
  obtain ⟨z0,z1,z2⟩:=ZZ.out
  refine bodyPost_ret (v:=.tuple #[tkV 4 t i,.int .i64 j,.int .i64 er]) (by simp [results,Tryz.results31,go_sem,z0,z1,z2]) rfl ⟨ANS.out,Below.three HB2.out (Nat.le_refl _) _ _ _⟩
 ·rw [if_neg hn] at CLO
  rw [if_pos (by omega)] at E1
  have E2:=Lib.hid E1
  clear E1 hn hwl
  generalize tokR (s.data.toList.drop i) = R at *
  go_enter Tryz.func31, Tryz.ntmps31
  go_wp2_with fail
  refine CALL.out.mono ?_
  rintro e w1 ⟨rfl,rfl⟩
  go_wp2_with fail
  refine LET.out.mono ?_
  rintro e w1 ⟨rfl,rfl⟩
  go_wp2_with fail
  refine DIG.out.mono ?_
  rintro e w1 ⟨rfl,rfl⟩
  go_wp2_with fail
  refine CLO.out.mono ?_
  rintro e w1 ⟨rfl,rfl⟩
  go_wp2_with fail
  refine bodyPost_ret (v:=.tuple #[tkV 0 ⟨#[]⟩ 0,.int .i64 0,.int .i64 3]) (by simp [results,Tryz.results31,go_sem]) rfl ⟨?_,(Below.refl _ _).alloc (Nat.le_refl _) _⟩
  rw [E2.out]
  exact ⟨by decide,_,_,_,_,rfl⟩
theorem one_any (s:ByteArray) (i:Nat) (hi:i < s.size) (hs:s.size ≤ 100000) (w:World):Calls Tryz.prog 31 #[.string s,.int .i64 i] w (zo7 (tokR (s.data.toList.drop i)) i w):=by
 by_cases c1:s[i] ∈ sgL
 ·exact one_sign s i hi hs w c1
 by_cases c2:s[i] = 46
 ·exact one_dots s i hi hs w c2
 by_cases c3:T1.letU (s[i].toNat:Int) = true
 ·exact one_name s i hi hs w c3
 by_cases c4:dmB s[i] = true
 ·exact one_int s i hi hs w c4
 by_cases c5:s[i] = 34
 ·exact one_text s i hi hs w c5
 exact one_none s i hi hs w c1 c2 (by simpa using c3) (by simpa using c4) c5
end Go.Proofs.YthjoelpfmimedaaGreatDoor.K
namespace Go.Proofs.YthjoelpfmimedaaGreatDoor.K
open Go.RowKit
def RAns (R:Except (Nat × Int) (List Tk)) (base:Nat) (e:Ending) (w':World):Prop:=match R with
 | .ok ts => ∃ v,e = .returned (.tuple #[v,.int .i64 0,.int .i64 0]) ∧ OwnZ 76 w' base v (tz ts)
 | .error x => e = .returned (.tuple #[.slice none 0 0,.int .i64 x.1,.int .i64 x.2]) ∧ x.2 ≠ 0
def zy8 (R:Except (Nat × Int) (List Tk)) (w:World) (e:Ending) (w':World):Prop:=RAns R w.heap.size e w' ∧ Below w.heap.size w w'
set_option maxHeartbeats 2000000 in
theorem zV2 (s:ByteArray) (h:65536 < s.size) (w:World):Calls Tryz.prog 13 #[.string s] w (zy8 (scR s.data.toList) w):=by
 have E1:Hid (scR s.data.toList = .error (65536,4)):=Lib.hid (by unfold scR; rw [T1.size_eq,if_pos h])
 have hgt:((s.size:Int) > 65536):=by omega
 generalize scR s.data.toList = R at *
 go_enter Tryz.func13, Tryz.ntmps13
 go_wp2_with fail
 refine bodyPost_ret (v:=.tuple #[.slice none 0 0,.int .i64 65536,.int .i64 4]) (by simp [results,Tryz.results13,go_sem]) rfl ⟨?_,Below.refl _ _⟩
 rw [E1.out]
 exact ⟨rfl,by decide⟩
theorem zZ1 (ts:List Tk) (k:Int) (t:List UInt8) (i:Nat):tz (ts ++ [(k,t,i)]) = tz ts ++ [(k,t,(i:Int))]:=by unfold tz; simp
set_option maxRecDepth 100000 in
set_option maxHeartbeats 4000000 in
theorem zN5 (s:ByteArray) (h:s.size ≤ 65536) (w:World):Calls Tryz.prog 13 #[.string s] w (zy8 (scR s.data.toList) w):=by
 have hsz:=T1.size_eq s
 have ST:=Lib.hid (ScAt.start s.data.toList (by omega))
 have hgt:¬ ((s.size:Int) > 65536):=by omega
 have SK:Hid (Calls Tryz.prog 30 #[.string s,.int .i64 0] w fun e w' => e = .returned (.int .i64 (sepN s.data.toList:Nat)) ∧ w = w'):=Lib.hid (by
  have:=zI4 s (by omega) 0 (Nat.zero_le _) w
  rw [List.drop_zero,Nat.zero_add] at this
  exact this)
 generalize scR s.data.toList = R at *
 generalize sepN s.data.toList = m at *
 go_enter Tryz.func13, Tryz.ntmps13
 go_wp2_with fail
 refine SK.out.mono ?_
 rintro e w1 ⟨rfl,rfl⟩
 go_wp2_with fail
 go_loopw [5,6] (fun v i wr => ∃ (f k:Nat) (ts:List Tk),i = .int .i64 k ∧ OwnZ 76 wr w.heap.size v (tz ts) ∧ ScAt s.data.toList R f k ts ∧ Below w.heap.size w wr) (fun _ i _ => s.size - (intOf i).toNat)
 case atStart => exact ⟨_,m,[],rfl,OwnZ.nil _ _ _,ST.out,Below.refl _ _⟩
 case round =>
  obtain ⟨f,k,ts,rfl,hown,hat,hb⟩:=hrel
  have HO:=Lib.hid hown
  have HA:=Lib.hid hat
  have HB:=Lib.hid hb
  clear hown hat hb ST SK
  have hkl:=HA.out.hi
  by_cases hlt:k < s.size
  ·have hlt':(k:Int) < s.size:=by omega
   have hle':(k:Int) ≤ s.size:=by omega
   have CALL:=Lib.hid (one_any s k hlt (by omega) wr)
   go_wp2_with fail
   refine CALL.out.mono ?_
   rintro e w2 ⟨ha,hb⟩
   have HB2:=Lib.hid (HB.out.trans (hb.mono HB.out.size))
   have HO2:=Lib.hid (HO.out.stay hb)
   clear hb CALL HB HO
   cases ht:tokR (s.data.toList.drop k) with
   | error c =>
     rw [ht] at ha
     obtain ⟨hc,k1,t1,a1,n1,rfl⟩:=ha
     have E1:=Lib.hid (HA.out.bad (by omega) ht)
     have HC:=Lib.hid hc
     have hc0:(c != 0) = true:=by unfold bne; rw [beq_false_of_ne hc]; rfl
     clear ht hc
     go_wp2_with fail
     refine bodyPost_ret (v:=.tuple #[.slice none 0 0,.int .i64 k,.int .i64 c]) (by simp [results,Tryz.results13,go_sem]) rfl ⟨?_,HB2.out.alloc HB2.out.size _⟩
     rw [E1.out]
     exact ⟨rfl,HC.out⟩
   | ok p =>
     obtain ⟨k1,t1,n⟩:=p
     rw [ht] at ha
     have ha:e = .returned (.tuple #[tkV k1 ⟨t1.toArray⟩ k,.int .i64 (k + n:Nat),.int .i64 0]):=ha
     subst ha
     obtain ⟨hn1,hn2,f',hnx⟩:=HA.out.next (by omega) ht
     have HN:=Lib.hid hnx
     have HZ:=Lib.hid (zZ1 ts k1 t1 k)
     clear ht hnx
     have hb3:=((Below.refl w2.heap.size w2).alloc (Nat.le_refl _) (.cells #[.int .i64 k1,.string ⟨t1.toArray⟩,.int .i64 k] 76 (0,0))).alloc (by simp) (.cells #[.int .i64 k1,.string ⟨t1.toArray⟩,.int .i64 k] 76 (0,0))
     have HO4:=Lib.hid (HO2.out.stay hb3)
     have HB4:=Lib.hid (HB2.out.trans (hb3.mono HB2.out.size))
     have HNL:=Lib.hid HA.out.len
     have HTL:Hid ((tz ts).length = ts.length):=Lib.hid (zH4 ts)
     have h00:((0:Int) != 0) = false:=rfl
     have hsm:=hsz
     clear hb3
     generalize hzs:tz ts = zs at *
     have SK2:=Lib.hid (fun w5 => zI4 s (by omega) (k + n) (by omega) w5)
     have hq:=zm2 (s.data.toList.drop (k + n))
     rw [List.length_drop] at hq
     generalize sepN (s.data.toList.drop (k + n)) = q at *
     generalize hkn:k + n = kn at *
     go_wp2_with (at_builtin; refine zT9 rfl _ _ rfl w.heap.size _ zs rfl HO4.out _ _ (k1,t1,(k:Int)) rfl ?_ ?_ ?_ ?_)
     ·intro j u hj
      have h9:=zT5 (w2.alloc (.cells #[.int .i64 k1,.string ⟨t1.toArray⟩,.int .i64 k] 76)) #[.int .i64 k1,.string ⟨t1.toArray⟩,.int .i64 k] 76 (zC [(k1,t1,(k:Int))]) rfl j u hj
      rw [show (w2.alloc (.cells #[.int .i64 k1,.string ⟨t1.toArray⟩,.int .i64 k] 76)).heap.size = w2.heap.size + 1 by simp] at h9
      exact h9
     ·have:=HNL.out; have:=HTL.out; omega
     ·exact HB4.out.size
     ·intro v' w5 h1 h2
      have HO5:=Lib.hid h1
      have HB5:=Lib.hid (HB4.out.grown h2 HB4.out.size (fun g hg => (HO4.out.lt g hg).1))
      clear h1 h2
      go_wp2_with fail
      refine (SK2.out w5).mono ?_
      rintro e w6 ⟨rfl,rfl⟩
      go_wp2_with fail
      go_roundw
      case rel => exact ⟨f',kn + q,ts ++ [(k1,t1,k)],by push_cast; rfl,by rw [HZ.out]; exact HO5.out,HN.out,HB5.out⟩
      case measure =>
       simp only [intOf]
       omega
  ·have E1:=Lib.hid (HA.out.done (by omega))
   have hlt':¬ (k:Int) < s.size:=by omega
   have hks:k = s.size:=by omega
   have hb3:=(Below.refl wr.heap.size wr).alloc (Nat.le_refl _) (.cells #[.int .i64 5,.string ⟨#[]⟩,.int .i64 s.size] 76 (0,0))
   have HO4:=Lib.hid (HO.out.stay hb3)
   have HB4:=Lib.hid (HB.out.trans (hb3.mono HB.out.size))
   have HNL:=Lib.hid HA.out.len
   have HTL:Hid ((tz ts).length = ts.length):=Lib.hid (zH4 ts)
   have HZ:=Lib.hid (zZ1 ts 5 [] k)
   have HKS:=Lib.hid hks
   generalize hzs:tz ts = zs at *
   clear hb3 hks
   go_wp2_with (at_builtin; refine zT9 rfl _ _ rfl w.heap.size _ zs rfl HO4.out _ _ (5,[],(s.size:Int)) rfl ?_ ?_ ?_ ?_)
   ·exact fun j u h => h
   ·have:=HNL.out; have:=HTL.out; omega
   ·have:=HB.out.size; omega
   ·intro v' w5 h1 h2
    have HO5:=Lib.hid h1
    have HB5:=Lib.hid (HB4.out.grown h2 HB4.out.size (fun g hg => (HO4.out.lt g hg).1))
    clear h1 h2
    go_wp2_with fail
    refine bodyPost_ret (v:=.tuple #[v',.int .i64 0,.int .i64 0]) (by simp [results,Tryz.results13,go_sem]) rfl ⟨?_,HB5.out⟩
    rw [E1.out]
    refine ⟨_,rfl, ?_⟩
    rw [HZ.out,HKS.out]
    exact HO5.out
theorem yb3 (s:ByteArray) (w:World):Calls Tryz.prog 13 #[.string s] w (zy8 (scR s.data.toList) w):=by
 rcases Nat.lt_or_ge 65536 s.size with h | h
 ·exact zV2 s h w
 ·exact zN5 s h w
end Go.Proofs.YthjoelpfmimedaaGreatDoor.K
namespace Go.Proofs.YthjoelpfmimedaaGreatDoor
open Go.RowKit
def exT:List UInt8:=[116,121,112,101,32,65,32,123,32,120,40,97,58,32,73,110,116,32,61,32,49,41,58,32,91,73,110,116,33,93,32,64,98,32,125]
def exU:List UInt8:=[116,121,112,101,32,65,32,123,32,125]
def exI:InpT:=⟨⟨#[97]⟩,⟨#[73,110,116]⟩,[],true,.mk 2 1 ⟨#[]⟩ [] [],[]⟩
def exF:FldT:=⟨⟨#[120]⟩,[exI],⟨#[73,110,116]⟩,[2,1],[⟨⟨#[98]⟩,[]⟩]⟩
def exD:DefT:=⟨1,⟨#[65]⟩,[],[],[exF],[],[]⟩
theorem ex_ok:sdlR exT = .ok [exD]:=by kernel_rfl
theorem ex_bad:sdlR exU = .error (9,3):=by kernel_rfl
theorem exD_ok:docOk [exD] = true:=by kernel_rfl
theorem ex_nil:docOk [] = false:=by kernel_rfl
theorem Sl.one {α:Type} {k bytes:Nat} {R:World → Nat → (Nat → Value) → α → Prop} {w:World} {B:Nat} {v:Value} {x : α} (h:Sl k bytes R w B v [x]):∃ a c f,v = .slice (some a) 1 c ∧ 1 ≤ c ∧ a.block < B ∧ (∀ j,j < k → w.cell? (at_ a j) = some (f j)) ∧ R w B f x:=by
 obtain ⟨A,c,e,hc,_,V,hA,hr⟩:=h
 obtain ⟨a,rfl,ha,hx⟩:=hA (by simp)
 refine ⟨a,c,V 0,e,hc,ha,fun j hj => ?_,hr 0 x rfl⟩
 have:=hx 0 (by simp) j hj
 rw [Nat.zero_mul,show a.add 0 = a by simp [Addr.add]] at this
 exact this
structure ExAt (w:World) (B:Nat) (v:Value) (a0 a1 a2:Addr) (c0 c1 c2:Nat) (A3 A4:Option Addr) (c3 c4:Nat):Prop where
 v:v = .slice (some a0) 1 c0
 b0:a0.block < B
 b1:a1.block < B
 b2:a2.block < B
 d0:1 ≤ c0
 d1:1 ≤ c1
 d2:1 ≤ c2
 n:w.cell? (at_ a0 1) = some (.string ⟨#[65]⟩)
 f:w.cell? (at_ a0 4) = some (.slice (some a1) 1 c1)
 f0:w.cell? (at_ a1 0) = some (.string ⟨#[120]⟩)
 f1:w.cell? (at_ a1 1) = some (.slice (some a2) 1 c2)
 f2:w.cell? (at_ a1 2) = some (.string ⟨#[73,110,116]⟩)
 f3:w.cell? (at_ a1 3) = some (.slice A3 2 c3)
 f4:w.cell? (at_ a1 4) = some (.slice A4 1 c4)
 i3:w.cell? (at_ a2 3) = some (.bool true)
 i5:w.cell? (at_ a2 5) = some (.int .i64 1)
theorem ExAt.of {w:World} {B:Nat} {v:Value} (h:DefsR w B v [exD]):∃ a0 a1 a2 c0 c1 c2 A3 A4 c3 c4,ExAt w B v a0 a1 a2 c0 c1 c2 A3 A4 c3 c4:=by
 obtain ⟨a0,c0,f,e0,d0,b0,hf,hd⟩:=Sl.one h
 obtain ⟨a1,c1,g,e1,d1,b1,hg,hh⟩:=Sl.one (hd.fields:Sl _ _ _ _ _ _ [exF])
 obtain ⟨a2,c2,i,e2,d2,b2,hi,hk⟩:=Sl.one (hh.args:Sl _ _ _ _ _ _ [exI])
 obtain ⟨A3,c3,e3,_⟩:=hh.type.wraps.form
 obtain ⟨A4,c4,e4,_⟩:=hh.dirs.form
 have hv:=hk.val
 have h5:i 5 = .int .i64 1:=by
  generalize hz:(Value.agg #[i 4,i 5,i 6,i 7,i 8]) = z at hv
  cases hv with
  | mk V => simp only [Value.agg.injEq,Array.mk.injEq,List.cons.injEq] at hz; exact hz.2.1
 exact ⟨a0,a1,a2,c0,c1,c2,A3,A4,c3,c4,e0,b0,b1,b2,d0,d1,d2,(hf 1 (by omega)).trans (by rw [hd.name]; rfl),(hf 4 (by omega)).trans (by rw [e1]),(hg 0 (by omega)).trans (by rw [hh.name]; rfl),(hg 1 (by omega)).trans (by rw [e2]),(hg 2 (by omega)).trans (by rw [hh.type.name]; rfl),(hg 3 (by omega)).trans (by rw [e3]; rfl),(hg 4 (by omega)).trans (by rw [e4]; rfl),(hi 3 (by omega)).trans (by rw [hk.has]; rfl),(hi 5 (by omega)).trans (by rw [h5])⟩
theorem ExAt.kept {w w':World} {B:Nat} {v:Value} {a0 a1 a2:Addr} {c0 c1 c2:Nat} {A3 A4:Option Addr} {c3 c4:Nat} (h:ExAt w B v a0 a1 a2 c0 c1 c2 A3 A4 c3 c4) (hb:Below B w w'):ExAt w' B v a0 a1 a2 c0 c1 c2 A3 A4 c3 c4:=by
 have k0:∀ j,w'.cell? (at_ a0 j) = w.cell? (at_ a0 j):=fun j => hb.cell (by rw [zb6]; exact h.b0)
 have k1:∀ j,w'.cell? (at_ a1 j) = w.cell? (at_ a1 j):=fun j => hb.cell (by rw [zb6]; exact h.b1)
 have k2:∀ j,w'.cell? (at_ a2 j) = w.cell? (at_ a2 j):=fun j => hb.cell (by rw [zb6]; exact h.b2)
 exact ⟨h.v,h.b0,h.b1,h.b2,h.d0,h.d1,h.d2,(k0 1).trans h.n,(k0 4).trans h.f,(k1 0).trans h.f0,(k1 1).trans h.f1,(k1 2).trans h.f2,(k1 3).trans h.f3,(k1 4).trans h.f4,(k2 3).trans h.i3,(k2 5).trans h.i5⟩
theorem zE3 {s:ByteArray} {l:List DefT} {w:World} (hL:K.LK w) (h:sdlR s.data.toList = .ok l):Calls Tryz.prog 12 #[.string s] w fun e w' => Below w.heap.size w w' ∧ ∃ v,e = .returned (.tuple #[.agg #[v],.int .i64 0,.int .i64 0]) ∧ DefsC w' (fun b => w.heap.size ≤ b ∧ b < w'.heap.size) v l:=by
 refine (zm3 s w hL).mono fun e w' hh => ?_
 unfold zq7 at hh
 rw [h] at hh
 exact hh
theorem zp7 {s:ByteArray} {x:Er} {w:World} (hL:K.LK w) (h:sdlR s.data.toList = .error x):Calls Tryz.prog 12 #[.string s] w fun e w' => Below w.heap.size w w' ∧ e = .returned (.tuple #[.agg #[.slice none 0 0],.int .i64 x.1,.int .i64 x.2]):=by
 refine (zm3 s w hL).mono fun e w' hh => ?_
 unfold zq7 at hh
 rw [h] at hh
 exact hh
theorem exT_at:(⟨exT.toArray⟩ : ByteArray).data.toList = exT:=by simp
theorem exU_at:(⟨exU.toArray⟩ : ByteArray).data.toList = exU:=by simp
theorem yd6 (w:World) (hL:K.LK w):Calls Tryz.prog 12 #[.string ⟨exT.toArray⟩] w fun e w' => Below w.heap.size w w' ∧ ∃ v,e = .returned (.tuple #[.agg #[v],.int .i64 0,.int .i64 0]) ∧ DefsC w' (fun b => w.heap.size ≤ b ∧ b < w'.heap.size) v [exD] :=
 zE3 hL ((congrArg sdlR exT_at).trans ex_ok)
theorem yd5 (w:World) (hL:K.LK w):Calls Tryz.prog 12 #[.string ⟨exU.toArray⟩] w fun e w' => Below w.heap.size w w' ∧ e = .returned (.tuple #[.agg #[.slice none 0 0],.int .i64 9,.int .i64 3]) :=
 zp7 (x:=(9,3)) hL ((congrArg sdlR exU_at).trans ex_bad)
theorem zn5 {w w':World} {v:Value} {l:List DefT} (h:DefsR w w.heap.size v l) (hb:Below w.heap.size w w'):DefsR w' w'.heap.size v l:=(DefsR.kept h hb).mono hb.size
theorem zy9 (w:World) (B:Nat):DefsR w B (.slice none 0 0) []:=⟨none,0,rfl,Nat.le_refl _,by simp,fun _ _ => undef,fun h => absurd h (by simp),fun i x h => by simp at h⟩
set_option maxRecDepth 100000 in
set_option maxHeartbeats 2000000 in
theorem zP5 (w:World) (hL:K.LK w):Calls Tryz.prog 11 #[] w fun e w' => e = .returned (.bool true) ∧ Below w.heap.size w w':=by
 have HL:=Lib.hid hL
 have H1:=Lib.hid (yd6 w hL)
 have H2:=Lib.hid yd5
 clear hL
 go_enter Tryz.func11, Tryz.ntmps11
 go_wp2_with fail
 refine H1.out.mono ?_
 rintro e w1 ⟨hb1,v,rfl,hx⟩
 have hr:DefsR w1 w1.heap.size v [exD]:=DefsC.toR (fun b hb => hb.2) hx
 obtain ⟨a0,a1,a2,c0,c1,c2,A3,A4,c3,c4,hea⟩:=ExAt.of hr
 obtain rfl:=hea.v
 have HR:=Lib.hid hr
 have HEA:=Lib.hid hea
 have HB1:=Lib.hid hb1
 clear hx hr hea hb1
 go_wp2_with fail
 refine (H2.out _ (HL.out.below (HB1.out.trans ((za0 w1 _).mono HB1.out.size)))).mono ?_
 rintro e w2 ⟨hb2,rfl⟩
 have b2:Below w1.heap.size w1 w2:=(za0 w1 _).trans (hb2.mono (by rw [World.size_alloc]; omega))
 have hX:=(Bk.new w1 #[.slice (some a0) 1 c0] 24).stay hb2
 have hea:=HEA.out.kept (w':=w2.alloc (.cells #[.slice none 0 0] 24 (0,0))) (b2.trans ((za0 w2 _).mono b2.size))
 have HX:=Lib.hid (hX.stay (za0 w2 (.cells #[.slice none 0 0] 24 (0,0))))
 have HEB:=Lib.hid hea
 have q0:=HX.out.cell 0 _ rfl
 have q1:(w2.alloc (.cells #[.slice none 0 0] 24 (0,0))).cell? ⟨a0.block,a0.off + 1,none⟩ = some (.string ⟨#[65]⟩):=hea.n
 have q2:(w2.alloc (.cells #[.slice none 0 0] 24 (0,0))).cell? ⟨a0.block,a0.off + 4,none⟩ = some (.slice (some a1) 1 c1):=hea.f
 have q3:(w2.alloc (.cells #[.slice none 0 0] 24 (0,0))).cell? a1 = some (.string ⟨#[120]⟩):=hea.f0
 have q4:(w2.alloc (.cells #[.slice none 0 0] 24 (0,0))).cell? ⟨a1.block,a1.off + 1,none⟩ = some (.slice (some a2) 1 c2):=hea.f1
 have q5:(w2.alloc (.cells #[.slice none 0 0] 24 (0,0))).cell? ⟨a1.block,a1.off + 2,none⟩ = some (.string ⟨#[73,110,116]⟩):=hea.f2
 have q6:(w2.alloc (.cells #[.slice none 0 0] 24 (0,0))).cell? ⟨a1.block,a1.off + 3,none⟩ = some (.slice A3 2 c3):=hea.f3
 have q7:(w2.alloc (.cells #[.slice none 0 0] 24 (0,0))).cell? ⟨a1.block,a1.off + 4,none⟩ = some (.slice A4 1 c4):=hea.f4
 have q8:(w2.alloc (.cells #[.slice none 0 0] 24 (0,0))).cell? ⟨a2.block,a2.off + 3,none⟩ = some (.bool true):=hea.i3
 have q9:(w2.alloc (.cells #[.slice none 0 0] 24 (0,0))).cell? ⟨a2.block,a2.off + 5,none⟩ = some (.int .i64 1):=hea.i5
 have d0:=hea.d0
 have d1:=hea.d1
 have d2:=hea.d2
 have hs2:=b2.size
 have HB2:=Lib.hid b2
 clear hX hea hb2 b2
 have hXF:=HX.out.stay (za0 (w2.alloc (.cells #[.slice none 0 0] 24 (0,0))) (.cells #[.string ⟨#[120]⟩,.slice (some a2) 1 c2,.string ⟨#[73,110,116]⟩,.slice A3 2 c3,.slice A4 1 c4] 52 (0,0)))
 have p0:=hXF.cell 0 _ rfl
 have HXF:=Lib.hid hXF
 have hFB:=Bk.new (w2.alloc (.cells #[.slice none 0 0] 24 (0,0))) #[.string ⟨#[120]⟩,.slice (some a2) 1 c2,.string ⟨#[73,110,116]⟩,.slice A3 2 c3,.slice A4 1 c4] 52
 rw [World.size_alloc] at hFB
 have HFB:=Lib.hid hFB
 have hb3:Below w1.heap.size w1 ((w2.alloc (.cells #[.slice none 0 0] 24 (0,0))).alloc (.cells #[.string ⟨#[120]⟩,.slice (some a2) 1 c2,.string ⟨#[73,110,116]⟩,.slice A3 2 c3,.slice A4 1 c4] 52 (0,0))):=(HB2.out.trans ((za0 w2 _).mono HB2.out.size)).trans ((za0 _ _).mono (by rw [World.size_alloc]; omega))
 have HB3:=Lib.hid hb3
 have HS3:Hid (w1.heap.size ≤ ((w2.alloc (.cells #[.slice none 0 0] 24 (0,0))).alloc (.cells #[.string ⟨#[120]⟩,.slice (some a2) 1 c2,.string ⟨#[73,110,116]⟩,.slice A3 2 c3,.slice A4 1 c4] 52 (0,0))).heap.size):=Lib.hid hb3.size
 clear hXF hFB hb3
 go_wp2_with fail
 have hrt:Calls Tryz.prog 9 #[.agg #[.slice (some a0) 1 c0]] ((w2.alloc (.cells #[.slice none 0 0] 24 (0,0))).alloc (.cells #[.string ⟨#[120]⟩,.slice (some a2) 1 c2,.string ⟨#[73,110,116]⟩,.slice A3 2 c3,.slice A4 1 c4] 52 (0,0))) (BP true ((w2.alloc (.cells #[.slice none 0 0] 24 (0,0))).alloc (.cells #[.string ⟨#[120]⟩,.slice (some a2) 1 c2,.string ⟨#[73,110,116]⟩,.slice A3 2 c3,.slice A4 1 c4] 52 (0,0)))):=by
  have hh:=zq8 [exD] (.slice (some a0) 1 c0) ((w2.alloc (.cells #[.slice none 0 0] 24 (0,0))).alloc (.cells #[.string ⟨#[120]⟩,.slice (some a2) 1 c2,.string ⟨#[73,110,116]⟩,.slice A3 2 c3,.slice A4 1 c4] 52 (0,0))) (zn5 HR.out HB3.out)
  rw [exD_ok] at hh
  exact hh
 refine hrt.mono ?_
 clear hrt p0 q0 q1 q2 q3 q4 q5 q6 q7 q8 q9
 generalize hW3:((w2.alloc (.cells #[.slice none 0 0] 24 (0,0))).alloc (.cells #[.string ⟨#[120]⟩,.slice (some a2) 1 c2,.string ⟨#[73,110,116]⟩,.slice A3 2 c3,.slice A4 1 c4] 52 (0,0))) = W3 at *
 clear hW3
 rintro e w4 ⟨rfl,hb4⟩
 have HB4:=Lib.hid hb4
 clear hb4
 go_wp2_with fail
 have hrt:Calls Tryz.prog 9 #[.agg #[.slice none 0 0]] w4 (BP false w4):=by
  have hh:=zq8 [] (.slice none 0 0) w4 (zy9 _ _)
  rw [ex_nil] at hh
  exact hh
 refine hrt.mono ?_
 clear hrt
 rintro e w5 ⟨rfl,hb5⟩
 have hb35:Below W3.heap.size W3 w5:=HB4.out.trans (hb5.mono HB4.out.size)
 have hea:=HEA.out.kept (HB3.out.trans (hb35.mono HS3.out))
 have hXF:=HXF.out.stay hb35
 have hFB:=HFB.out.stay hb35
 have p0:=hXF.cell 0 _ rfl
 have r0:=hFB.cell 0 _ rfl
 have r1:=hFB.cell 1 _ rfl
 have r2:=hFB.cell 2 _ rfl
 have r3:=hFB.cell 3 _ rfl
 have r4:=hFB.cell 4 _ rfl
 have q1:w5.cell? ⟨a0.block,a0.off + 1,none⟩ = some (.string ⟨#[65]⟩):=hea.n
 have q8:w5.cell? ⟨a2.block,a2.off + 3,none⟩ = some (.bool true):=hea.i3
 have q9:w5.cell? ⟨a2.block,a2.off + 5,none⟩ = some (.int .i64 1):=hea.i5
 have d0:=hea.d0
 have d2:=hea.d2
 have HB5:=Lib.hid ((HB1.out.trans (HB3.out.mono HB1.out.size)).trans (hb35.mono (Nat.le_trans HB1.out.size HS3.out)))
 clear hb35 hb5 hea hXF hFB
 go_wp2_with fail
 exact bodyPost_ret (v:=.bool true) (by simp [results,Tryz.results11,go_sem]) rfl ⟨rfl,HB5.out⟩
end Go.Proofs.YthjoelpfmimedaaGreatDoor
namespace Go.Proofs.YthjoelpfmimedaaGreatDoor
open Go.RowKit
theorem zG7 (t:VT):zb2 true t = true → zb2 false t = t.closed:=by
 induction t using VT.ind with
 | h k n s is ks ih =>
   have hl:∀ (l:List VT),(∀ (i:Nat) (t:VT),l[i]? = some t → zb2 true t = true → zb2 false t = t.closed) → zb1 true l = true → zb1 false l = VT.closeds l:=by
    intro l
    induction l with
    | nil => intro _ _; rw [zb1,VT.closeds]
    | cons t r ihr =>
      intro hm hw
      rw [zb1,Bool.and_eq_true] at hw
      rw [zb1,VT.closeds,hm 0 t rfl hw.1,ihr (fun i t h => hm (i + 1) t h) hw.2]
   intro hw
   rw [zb2,Bool.and_eq_true] at hw
   rw [zb2,VT.closed,hl is ih hw.2]
   have hn:nodeB false (.mk k n s is ks) = decide (k ≠ 7):=by
    have h1:=hw.1
    unfold nodeB keysB at h1 ⊢
    by_cases e0:k = 0
    ·subst e0; simpa using h1
    by_cases e1:k = 1
    ·subst e1; simpa using h1
    by_cases e2:k = 2
    ·subst e2; simpa using h1
    by_cases e3:k = 3
    ·subst e3; simpa using h1
    by_cases e4:k = 4
    ·subst e4; simpa using h1
    by_cases e5:k = 5
    ·subst e5; simpa using h1
    by_cases e6:k = 6
    ·subst e6
     simp at h1 ⊢
     exact ⟨h1.1,h1.2.2⟩
    by_cases e7:k = 7
    ·subst e7; simp
    ·simp [e0,e1,e2,e3,e4,e5,e6,e7] at h1
   rw [hn,Bool.and_comm]
theorem lit_eq (t:VT):litOk t = (zc0 true t && t.closed):=by
 unfold litOk
 cases h:zc0 true t with
 | false => rfl
 | true =>
   rw [Bool.true_and,Bool.true_and]
   unfold zc0 at h ⊢
   simp only [Bool.and_eq_true] at h
   rw [h.1.1,h.1.2,zG7 t h.2]; rfl
theorem null_eq (t:VT):dflOk false t = nulB t:=by
 obtain ⟨k,n,s,is,ks⟩:=t
 show (decide (k = 0) && zc0 false (.mk k n s is ks)) = (decide (k = 0) && (decide (n = 0) && (decide (s.size = 0) && (decide (is.length = 0) && decide (ks.length = 0)))))
 by_cases hk:k = 0
 ·subst hk
  rw [decide_eq_true rfl,Bool.true_and,Bool.true_and]
  cases is with
  | nil =>
    unfold zc0
    rw [zb2,zb1]
    unfold nodeB leafB
    simp [VT.size,VT.sizes,VT.depth,VT.depths]
    cases decide (n = 0) <;> cases decide (s = ByteArray.empty) <;> cases decide (ks = []) <;> rfl
  | cons a r =>
    unfold zc0
    rw [zb2]
    unfold nodeB leafB
    simp
 ·rw [decide_eq_false hk]; rfl
theorem zq0 {α:Type} (a b:Nat) (xs:List α) (p : α → Bool):inB a b xs p = ltB a b xs p:=by
 unfold inB ltB
 rw [Bool.and_assoc]
 congr 1
 ·exact decide_eq_decide.2 (by omega)
 ·congr 1
  exact decide_eq_decide.2 (by omega)
theorem inB_zero {α:Type} (xs:List α) (p : α → Bool):inB 0 0 xs p = decide (xs.length = 0):=by
 cases xs with
 | nil => simp [inB]
 | cons a r => simp [inB]; omega
theorem arg_eq:argOk = zv9:=by funext x; unfold argOk zv9; rw [lit_eq]
theorem dir_eq:dirOk = zv7:=by
 funext x
 unfold dirOk zv7
 have h:=zq0 0 16 x.args argOk
 rw [show inB 0 16 x.args argOk = _ from h,arg_eq]
 unfold ltB
 simp
theorem zF8:zh5 = zd6:=by
 funext l
 unfold zh5 zd6
 rw [show inB 0 16 l dirOk = _ from zq0 0 16 l dirOk,dir_eq]
theorem dfl_eq (has:Bool) (t:VT):dflOk has t = if has then zc0 true t && t.closed else nulB t:=by
 cases has with
 | true => exact lit_eq t
 | false => exact null_eq t
theorem inp_eq:inpOk = zv5:=by
 funext x
 unfold inpOk zv5
 rw [zF8,dfl_eq]
 congr 2
 exact Bool.and_comm _ _
theorem inps_eq:zx4 = zg6:=by
 funext l
 unfold zx4 zg6
 rw [show inB 0 16 l inpOk = _ from zq0 0 16 l inpOk,inp_eq]
theorem fld_eq:fldOk = zv6:=by funext x; unfold fldOk zv6; rw [zF8,inps_eq]
theorem memU_eq:zd4 = zi8 true:=by
 funext x
 unfold zd4 zi8
 congr 1
 by_cases h:x.dirs.length = 0
 ·have e:x.dirs = []:=List.length_eq_zero_iff.1 h
  rw [e]; decide
 ·have h2:0 < x.dirs.length:=by omega
  rw [decide_eq_false h,decide_eq_true h2]; simp
theorem memE_eq:zi1 = zi8 false:=by
 funext x
 unfold zi1 zi8
 rw [zF8]; simp
theorem def_eq:defOk = zi0:=by
 funext x
 unfold defOk zi0 zb5 zv3 zk5
 rw [zF8]
 congr 2
 have h64:inB 0 64 x.impl nmA = (decide (x.impl.length ≤ 64) && x.impl.all nmA):=by rw [show inB 0 64 x.impl nmA = _ from zq0 0 64 x.impl nmA]; unfold ltB; simp
 have hf:inB 1 64 x.fields fldOk = zj9 x.fields:=by rw [show inB 1 64 x.fields fldOk = _ from zq0 1 64 _ _,fld_eq]; rfl
 have hmu:inB 1 64 x.members zd4 = zf8 true x.members:=by rw [show inB 1 64 x.members zd4 = _ from zq0 1 64 _ _,memU_eq]; rfl
 have hme:inB 1 64 x.members zi1 = zf8 false x.members:=by rw [show inB 1 64 x.members zi1 = _ from zq0 1 64 _ _,memE_eq]; rfl
 have hi:inB 1 16 x.inputs inpOk = (decide (x.inputs.length ≠ 0) && zg6 x.inputs):=by
  rw [show inB 1 16 x.inputs inpOk = _ from zq0 1 16 _ _,inp_eq]
  unfold zg6 ltB
  simp only [Nat.zero_le,decide_true,Bool.true_and]
  congr 1
  exact decide_eq_decide.2 (by omega)
 have hz:x.impl.length = 0 → (decide (x.impl.length ≤ 64) && x.impl.all nmA) = true:=fun h => by rw [List.length_eq_zero_iff.1 h]; rfl
 simp only [inB_zero,h64,hf,hmu,hme,hi]
 by_cases k1:x.kind = 1
 ·simp only [k1,if_true,Bool.and_assoc]
 by_cases k2:x.kind = 2
 ·simp only [k2,if_true]
  by_cases h:x.impl.length = 0
  ·have:=hz h; simp only [Bool.and_eq_true] at this; simp [h,this.2]
  ·simp [h]
 by_cases k3:x.kind = 3
 ·simp only [k3,if_true]
  by_cases h:x.impl.length = 0
  ·have:=hz h; simp only [Bool.and_eq_true] at this; simp [h,this.2]
  ·simp [h]
 by_cases k4:x.kind = 4
 ·simp only [k4,if_true]
  by_cases h:x.impl.length = 0
  ·have:=hz h; simp only [Bool.and_eq_true] at this; simp [h,this.2]
  ·simp [h]
 by_cases k5:x.kind = 5
 ·simp only [k5,if_true]
  by_cases h:x.impl.length = 0
  ·have:=hz h; simp only [Bool.and_eq_true] at this; simp [h,this.2]
  ·simp [h]
 ·simp [k1,k2,k3,k4,k5]
theorem doc_eq (l:List DefT):docOk l = ltB 1 64 l zi0:=by
 unfold docOk
 rw [show inB 1 64 l defOk = _ from zq0 1 64 l defOk,def_eq]
end Go.Proofs.YthjoelpfmimedaaGreatDoor
