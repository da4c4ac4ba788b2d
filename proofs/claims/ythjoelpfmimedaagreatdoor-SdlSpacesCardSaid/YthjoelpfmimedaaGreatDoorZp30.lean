
/-
 Texts joined: RPure RWords RefNumber RefNumber2 RefUnquote2.
-/
import Derived.Test.YthjoelpfmimedaaGreatDoorZp3
import Derived.Test.YthjoelpfmimedaaGreatDoorZp13
import Derived.Test.YthjoelpfmimedaaGreatDoorZp1
import Derived.Deep.Cut
namespace Go.Proofs.YthjoelpfmimedaaGreatDoor.K
open Go.RowKit
section
variable {σ:Type} {step : σ → UInt8 → Option σ}
def SpAt (step : σ → UInt8 → Option σ) (l:List UInt8) (n:Nat) (st : σ) (k:Nat):Prop:=k ≤ l.length ∧ n = k + spanL step st (l.drop k)
theorem SpAt.start {l:List UInt8} {st : σ} {k:Nat} (hk:k ≤ l.length):SpAt step l (k + spanL step st (l.drop k)) st k:=⟨hk,rfl⟩
theorem zg1 {l:List UInt8} {k:Nat} (h:k < l.length):l.drop k = l[k] :: l.drop (k + 1):=List.drop_eq_getElem_cons h
theorem SpAt.next {l:List UInt8} {n:Nat} {st st2 : σ} {k:Nat} (h:SpAt step l n st k) (hk:k < l.length) (hs:step st l[k] = some st2):SpAt step l n st2 (k + 1):=by
 refine ⟨by omega, ?_⟩
 rw [h.2,zg1 hk,spanL,hs]
 show k + (spanL step st2 (l.drop (k + 1)) + 1) = _
 omega
theorem SpAt.stop {l:List UInt8} {n:Nat} {st : σ} {k:Nat} (h:SpAt step l n st k) (hk:k < l.length) (hs:step st l[k] = none):n = k:=by
 rw [h.2,zg1 hk,spanL,hs]; rfl
theorem SpAt.done {l:List UInt8} {n:Nat} {st : σ} {k:Nat} (h:SpAt step l n st k) (hk:¬ k < l.length):n = k:=by
 rw [h.2,List.drop_eq_nil_of_le (by omega)]; rfl
theorem SpAt.swap {l:List UInt8} {n:Nat} {st st2 : σ} {k:Nat} (h:SpAt step l n st k) (hs:∀ hk:k < l.length,step st l[k] = step st2 l[k]):SpAt step l n st2 k:=by
 refine ⟨h.1, ?_⟩
 rw [h.2]
 by_cases hk:k < l.length
 ·rw [zg1 hk,spanL,spanL,hs hk]
 ·rw [List.drop_eq_nil_of_le (by omega)]; rfl
end
theorem ya2:∀ c:UInt8,(c = 32 ∨ c = 9 ∨ c = 10 ∨ c = 13 ∨ c = 44) → sepS false c = some false:=zh7 (by decide +kernel)
theorem sep_in_c:∀ c:UInt8,c ≠ 10 → c ≠ 13 → sepS true c = some true:=zh7 (by decide +kernel)
theorem zR3:∀ c:UInt8,(c = 10 ∨ c = 13) → sepS true c = sepS false c:=zh7 (by decide +kernel)
theorem sep_stop:∀ c:UInt8, ¬ (c = 32 ∨ c = 9 ∨ c = 10 ∨ c = 13 ∨ c = 44) → c ≠ 35 → sepS false c = none:=zh7 (by decide +kernel)
def spcB (n:Int):Bool:=n == 32 || n == 9 || n == 10 || n == 13 || n == 44
theorem spc_is:∀ c:UInt8,spcB (c.toNat:Int) = decide (c = 32 ∨ c = 9 ∨ c = 10 ∨ c = 13 ∨ c = 44):=zh7 (by decide +kernel)
theorem wd_is (c:UInt8):wdB c = (T1.letU (c.toNat:Int) || T1.digB (c.toNat:Int)):=T1.nm_of _
def clR (l:List UInt8) (i:Nat):Int:=if i + 1 + ltN (l.drop (i + 1)) < l.length then ((i + ltN (l.drop (i + 1)) + 2:Nat):Int) else -1
def LtAt (l:List UInt8) (n k:Nat):Prop:=(k ≤ l.length ∧ n = k + spanL ltS false (l.drop k)) ∨ (k = l.length + 1 ∧ n = l.length)
theorem LtAt.quote {l:List UInt8} {n k:Nat} (h:LtAt l n k) (hk:k < l.length) (hc:l[k] = 34):n = k:=by
 rcases h with ⟨_,h⟩ | ⟨h,_⟩
 ·rw [h,zg1 hk,spanL,hc]; rfl
 ·omega
theorem LtAt.back {l:List UInt8} {n k:Nat} (h:LtAt l n k) (hk:k < l.length) (hc:l[k] = 92):LtAt l n (k + 2):=by
 rcases h with ⟨_,h⟩ | ⟨h,_⟩
 ·rw [zg1 hk,spanL,hc] at h
  have h:n = k + (spanL ltS true (l.drop (k + 1)) + 1):=h
  by_cases hk2:k + 1 < l.length
  ·rw [zg1 hk2,spanL] at h
   have e:ltS true l[k + 1] = some false:=by unfold ltS; simp
   rw [e] at h
   have h:n = k + ((spanL ltS false (l.drop (k + 2)) + 1) + 1):=h
   exact .inl ⟨by omega,by omega⟩
  ·rw [List.drop_eq_nil_of_le (by omega)] at h
   have h:n = k + (0 + 1):=h
   exact .inr ⟨by omega,by omega⟩
 ·omega
theorem LtAt.other {l:List UInt8} {n k:Nat} (h:LtAt l n k) (hk:k < l.length) (h1:l[k] ≠ 34) (h2:l[k] ≠ 92):LtAt l n (k + 1):=by
 rcases h with ⟨_,h⟩ | ⟨h,_⟩
 ·rw [zg1 hk,spanL] at h
  have e:ltS false l[k] = some false:=by unfold ltS; rw [if_neg (fun x => h1 x.1),decide_eq_false h2]; rfl
  rw [e] at h
  have h:n = k + (spanL ltS false (l.drop (k + 1)) + 1):=h
  exact .inl ⟨by omega,by omega⟩
 ·omega
theorem LtAt.done {l:List UInt8} {n k:Nat} (h:LtAt l n k) (hk:¬ k < l.length):n = l.length:=by
 rcases h with ⟨h1,h⟩ | ⟨_,h⟩
 ·rw [List.drop_eq_nil_of_le (by omega)] at h
  have h:n = k + 0:=h
  omega
 ·exact h
theorem clR_of (l:List UInt8) (i:Nat) (hi:i < l.length):∃ n,LtAt l n (i + 1) ∧ clR l i = (if n < l.length then ((n + 1:Nat):Int) else -1):=by
 refine ⟨i + 1 + ltN (l.drop (i + 1)),.inl ⟨by omega,rfl⟩, ?_⟩
 unfold clR
 rw [show i + ltN (l.drop (i + 1)) + 2 = i + 1 + ltN (l.drop (i + 1)) + 1 by omega]
theorem zY1:∀ l:List UInt8,(l.take (wdN l)).all wdB = true
 | [] => rfl
 | c :: r => by
   unfold wdN spanL wdS
   cases hc:wdB c with
   | true =>
     show (List.take (wdN r + 1) (c :: r)).all wdB = true
     rw [List.take_succ_cons,List.all_cons,hc,zY1 r]; rfl
   | false => rfl
theorem let_dig:∀ c:UInt8,T1.letU (c.toNat:Int) = true → T1.digB (c.toNat:Int) = false:=zh7 (by decide +kernel)
theorem name_wd {l:List UInt8} (hl:l ≠ []) (h:T1.letU ((l.getD 0 0).toNat:Int) = true):T1.nameL (l.take (wdN l)) = decide (wdN l ≤ 64):=by
 have h1:=zY3 hl h
 have h2:=zu4 l
 have h3:=zY1 l
 obtain ⟨c,r,rfl⟩:=List.exists_cons_of_ne_nil hl
 obtain ⟨m,hm⟩ : ∃ m,wdN (c :: r) = m + 1:=⟨wdN (c :: r) - 1,by omega⟩
 have hd:T1.digB (c.toNat:Int) = false:=by
  exact let_dig c h
 unfold T1.nameL
 have e1:T1.allNm ((c :: r).take (wdN (c :: r))) = true:=h3
 have e2:((c :: r).take (wdN (c :: r))).length = wdN (c :: r):=by rw [List.length_take]; omega
 have e3:((c :: r).take (wdN (c :: r))).getD 0 0 = c:=by rw [hm]; rfl
 rw [e1,e2,e3,hd]
 rw [Bool.eq_iff_iff]; simp; omega
end Go.Proofs.YthjoelpfmimedaaGreatDoor.K
namespace Go.Proofs.YthjoelpfmimedaaGreatDoor.K
open Go.RowKit
theorem zZ0 {c d:UInt8} (h:c ≠ d):((c.toNat:Int) != (d.toNat:Int)) = true:=by
 unfold bne; rw [T1.u8_ne h]; rfl
theorem zg9 (n:Int) (w:World) (h0:0 ≤ n) (h1:n ≤ 255) :
  Calls Tryz.prog 61 #[.int .u8 n] w fun e w' => e = .returned (.bool (T1.digB n)) ∧ w = w':=by
 go_enter Tryz.func61, Tryz.ntmps61
 go_wp2
 all_goals go_ret
 all_goals (simp [T1.digB, *]; try omega)
theorem ze4 (n:Int) (w:World) (h0:0 ≤ n) (h1:n ≤ 255) :
  Calls Tryz.prog 59 #[.int .u8 n] w fun e w' => e = .returned (.bool (T1.letU n)) ∧ w = w':=by
 go_enter Tryz.func59, Tryz.ntmps59
 go_wp2
 all_goals go_ret
 all_goals refine ⟨congrArg Ending.returned (congrArg Value.bool ?_),rfl⟩
 all_goals (rw [Bool.eq_iff_iff]; simp [T1.letU,T1.letB, *]; try omega)
theorem zr7 (n:Int) (w:World) (_h0:0 ≤ n) (_h1:n ≤ 255) :
  Calls Tryz.prog 57 #[.int .u8 n] w fun e w' => e = .returned (.bool (spcB n)) ∧ w = w':=by
 go_enter Tryz.func57, Tryz.ntmps57
 go_wp2
 all_goals go_ret
 all_goals refine ⟨congrArg Ending.returned (congrArg Value.bool ?_),rfl⟩
 all_goals (rw [Bool.eq_iff_iff]; simp [spcB, *]; try omega)
theorem zI0 (s:ByteArray) (hs:s.size ≤ 100000) (i:Nat) (hi:i ≤ s.size) (w:World) :
  Calls Tryz.prog 60 #[.string s,.int .i64 i] w fun e w' => e = .returned (.int .i64 (i + wdN (s.data.toList.drop i):Nat)) ∧ w = w':=by
 have hsz:=T1.size_eq s
 have ST:Hid (SpAt wdS s.data.toList (i + wdN (s.data.toList.drop i)) () i):=Lib.hid (SpAt.start (by omega))
 generalize (i + wdN (s.data.toList.drop i)) = n at *
 go_enter Tryz.func60, Tryz.ntmps60
 go_wp2_with fail
 go_loop [1] (fun v => ∃ k:Nat,v = .int .i64 k ∧ SpAt wdS s.data.toList n () k) (fun v => s.size - (intOf v).toNat)
 case atStart => exact ⟨i,rfl,ST.out⟩
 case round =>
  obtain ⟨k,rfl,hat⟩:=hrel
  have HA:=Lib.hid hat
  have hk:=hat.1
  clear hat ST
  by_cases hlt:k < s.size
  ·have hbk:=T1.zb7 s[k]
   have hlk:k < s.data.toList.length:=by omega
   have HX:∀ st2,wdS () s[k] = some st2 → Hid (SpAt wdS s.data.toList n st2 (k + 1)):=fun st2 h => Lib.hid (HA.out.next hlk h)
   have HY:wdS () s[k] = none → Hid (n = k):=fun h => Lib.hid (HA.out.stop hlk h)
   have e:wdS () s[k] = if (T1.letU (s[k].toNat:Int) || T1.digB (s[k].toNat:Int)) = true then some () else none:=by unfold wdS; rw [wd_is]
   rw [e] at HX HY
   clear e
   cases n1:T1.letU (s[k].toNat:Int)
   ·cases n2:T1.digB (s[k].toNat:Int)
    ·have H2:=HY (by rw [n1,n2]; rfl)
     clear HX HY
     go_wp2_with (first | (go_at_call 59; refine (ze4 _ _ (by omega) (by omega)).mono ?_; rintro e w' ⟨rfl,rfl⟩) | (go_at_call 61; refine (zg9 _ _ (by omega) (by omega)).mono ?_; rintro e w' ⟨rfl,rfl⟩))
     go_ret
     exact ⟨by rw [H2.out]; rfl,rfl⟩
    ·have H2:=HX () (by rw [n1,n2]; rfl)
     clear HX HY
     go_wp2_with (first | (go_at_call 59; refine (ze4 _ _ (by omega) (by omega)).mono ?_; rintro e w' ⟨rfl,rfl⟩) | (go_at_call 61; refine (zg9 _ _ (by omega) (by omega)).mono ?_; rintro e w' ⟨rfl,rfl⟩))
     go_round
     case rel => exact ⟨k + 1,by go_num,H2.out⟩
     case measure => simp [intOf]; omega
   ·have H2:=HX () (by rw [n1]; rfl)
    clear HX HY
    go_wp2_with (first | (go_at_call 59; refine (ze4 _ _ (by omega) (by omega)).mono ?_; rintro e w' ⟨rfl,rfl⟩) | (go_at_call 61; refine (zg9 _ _ (by omega) (by omega)).mono ?_; rintro e w' ⟨rfl,rfl⟩))
    go_round
    case rel => exact ⟨k + 1,by go_num,H2.out⟩
    case measure => simp [intOf]; omega
  ·have H1:Hid (n = k):=Lib.hid (HA.out.done (by omega))
   go_wp2_with fail
   go_ret
   exact ⟨by rw [H1.out]; rfl,rfl⟩
theorem zJ0 (s:ByteArray) (hs:s.size ≤ 100000) (i:Nat) (hi:i < s.size) (w:World) :
  Calls Tryz.prog 63 #[.string s,.int .i64 i] w fun e w' => e = .returned (.int .i64 (clR s.data.toList i)) ∧ w = w':=by
 have hsz:=T1.size_eq s
 obtain ⟨n,hn,en⟩:=clR_of s.data.toList i (by omega)
 have ST:=Lib.hid hn
 have EN:=Lib.hid en
 clear hn en
 generalize clR s.data.toList i = R at *
 go_enter Tryz.func63, Tryz.ntmps63
 go_wp2_with fail
 go_loop [1] (fun v => ∃ k:Nat,v = .int .i64 k ∧ k ≤ s.size + 1 ∧ LtAt s.data.toList n k) (fun v => s.size + 1 - (intOf v).toNat)
 case atStart => exact ⟨i + 1,by go_num,by omega,ST.out⟩
 case round =>
  obtain ⟨k,rfl,hk,hat⟩:=hrel
  have HA:=Lib.hid hat
  clear hat ST
  by_cases hlt:k < s.size
  ·have hbk:=T1.zb7 s[k]
   have hlk:k < s.data.toList.length:=by omega
   by_cases h1:s[k] = 34
   ·have g1:((s[k].toNat:Int) == 34) = true:=by rw [h1]; rfl
    have H1:Hid (R = ((k + 1:Nat):Int)):=Lib.hid (by rw [EN.out,HA.out.quote hlk h1,if_pos hlk])
    go_wp2_with fail
    go_ret
    exact ⟨by rw [H1.out]; rfl,rfl⟩
   have g1:((s[k].toNat:Int) == 34) = false:=T1.u8_ne h1
   by_cases h2:s[k] = 92
   ·have g2:((s[k].toNat:Int) == 92) = true:=by rw [h2]; rfl
    have H1:=Lib.hid (HA.out.back hlk h2)
    clear h1 h2
    go_wp2_with fail
    go_round
    case rel => exact ⟨k + 2,by go_num,by omega,H1.out⟩
    case measure => simp [intOf]; omega
   ·have g2:((s[k].toNat:Int) == 92) = false:=T1.u8_ne h2
    have H1:=Lib.hid (HA.out.other hlk h1 h2)
    clear h1 h2
    go_wp2_with fail
    go_round
    case rel => exact ⟨k + 1,by go_num,by omega,H1.out⟩
    case measure => simp [intOf]; omega
  ·have H1:Hid (R = -1):=Lib.hid (by rw [EN.out,HA.out.done (by omega),if_neg (by omega)])
   go_wp2_with fail
   go_ret
   exact ⟨by rw [H1.out]; rfl,rfl⟩
theorem zI4 (s:ByteArray) (hs:s.size ≤ 100000) (i:Nat) (hi:i ≤ s.size) (w:World) :
  Calls Tryz.prog 30 #[.string s,.int .i64 i] w fun e w' => e = .returned (.int .i64 (i + sepN (s.data.toList.drop i):Nat)) ∧ w = w':=by
 have hsz:=T1.size_eq s
 have ST:Hid (SpAt sepS s.data.toList (i + sepN (s.data.toList.drop i)) false i):=Lib.hid (SpAt.start (by omega))
 generalize (i + sepN (s.data.toList.drop i)) = n at *
 go_enter Tryz.func30, Tryz.ntmps30
 go_wp2_with fail
 go_loop [1] (fun v => ∃ k:Nat,v = .int .i64 k ∧ SpAt sepS s.data.toList n false k) (fun v => s.size - (intOf v).toNat)
 case atStart => exact ⟨i,rfl,ST.out⟩
 case round =>
  obtain ⟨k,rfl,hat⟩:=hrel
  have HA:=Lib.hid hat
  have hk:=hat.1
  clear hat ST
  by_cases hlt:k < s.size
  ·have hbk:=T1.zb7 s[k]
   have hlk:k < s.data.toList.length:=by omega
   by_cases h1:s[k] = 32 ∨ s[k] = 9 ∨ s[k] = 10 ∨ s[k] = 13 ∨ s[k] = 44
   ·have g1:spcB (s[k].toNat:Int) = true:=by rw [spc_is,decide_eq_true h1]
    have H1:=Lib.hid (HA.out.next hlk (ya2 _ h1))
    clear h1
    go_wp2_with (go_at_call 57; refine (zr7 _ _ (by omega) (by omega)).mono ?_; rintro e w' ⟨rfl,rfl⟩)
    go_round
    case rel => exact ⟨k + 1,by go_num,H1.out⟩
    case measure => simp [intOf]; omega
   have g1:spcB (s[k].toNat:Int) = false:=by rw [spc_is,decide_eq_false h1]
   by_cases h2:s[k] = 35
   ·have g2:((s[k].toNat:Int) != 35) = false:=by rw [h2]; rfl
    have H1:=Lib.hid (HA.out.swap (st2:=true) (fun _ => by show sepS false s[k] = sepS true s[k]; rw [h2]; rfl))
    have g3:=Lib.hid h2
    clear h1 h2
    go_wp2_with (go_at_call 57; refine (zr7 _ _ (by omega) (by omega)).mono ?_; rintro e w' ⟨rfl,rfl⟩)
    go_loop [1] (fun v => ∃ j:Nat,v = .int .i64 j ∧ k ≤ j ∧ SpAt sepS s.data.toList n true j) (fun v => s.size - (intOf v).toNat)
    case atStart => exact ⟨k,rfl,Nat.le_refl _,H1.out⟩
    case round =>
     obtain ⟨j,rfl,hkj,hat⟩:=hrel
     have HA2:=Lib.hid hat
     have hj:=hat.1
     clear hat H1
     by_cases hlt2:j < s.size
     ·have hbk2:=T1.zb7 s[j]
      have hlj:j < s.data.toList.length:=by omega
      by_cases c1:s[j] = 10
      ·have q1:((s[j].toNat:Int) != 10) = false:=by rw [c1]; rfl
       have H2:=Lib.hid (HA2.out.swap (st2:=false) (fun _ => zR3 _ (.inl c1)))
       have hkj':k < j:=Nat.lt_of_le_of_ne hkj (fun e => by subst e; rw [g3.out] at c1; cases c1)
       clear c1
       go_wp2_with fail
       go_round
       case rel => exact ⟨j,rfl,H2.out⟩
       case measure => simp [intOf]; omega
      have q1:((s[j].toNat:Int) != 10) = true:=zZ0 c1
      by_cases c2:s[j] = 13
      ·have q2:((s[j].toNat:Int) != 13) = false:=by rw [c2]; rfl
       have H2:=Lib.hid (HA2.out.swap (st2:=false) (fun _ => zR3 _ (.inr c2)))
       have hkj':k < j:=Nat.lt_of_le_of_ne hkj (fun e => by subst e; rw [g3.out] at c2; cases c2)
       clear c1 c2
       go_wp2_with fail
       go_round
       case rel => exact ⟨j,rfl,H2.out⟩
       case measure => simp [intOf]; omega
      have q2:((s[j].toNat:Int) != 13) = true:=zZ0 c2
      have H2:=Lib.hid (HA2.out.next hlj (sep_in_c _ c1 c2))
      clear c1 c2
      go_wp2_with fail
      go_round
      case rel => exact ⟨j + 1,by go_num,by omega,H2.out⟩
      case measure => simp [intOf]; omega
     ·have H2:=Lib.hid (HA2.out.swap (st2:=false) (fun h => absurd h (by omega)))
      go_wp2_with fail
      go_round
      case rel => exact ⟨j,rfl,H2.out⟩
      case measure => simp [intOf]; omega
   ·have g2:((s[k].toNat:Int) != 35) = true:=zZ0 h2
    have H1:Hid (n = k):=Lib.hid (HA.out.stop hlk (sep_stop _ h1 h2))
    clear h1 h2
    go_wp2_with (go_at_call 57; refine (zr7 _ _ (by omega) (by omega)).mono ?_; rintro e w' ⟨rfl,rfl⟩)
    go_ret
    exact ⟨by rw [H1.out]; rfl,rfl⟩
  ·have H1:Hid (n = k):=Lib.hid (HA.out.done (by omega))
   go_wp2_with fail
   go_ret
   exact ⟨by rw [H1.out]; rfl,rfl⟩
end Go.Proofs.YthjoelpfmimedaaGreatDoor.K
namespace Go.Proofs.YthjoelpfmimedaaGreatDoor.T1
open Go.RowKit
theorem tdiv_neg (u:Nat):(-(u:Int)).tdiv 10 = -((u / 10:Nat):Int):=by
 rw [Int.neg_tdiv]; congr 1
def rForm (neg:Bool) (t:List UInt8):Bool:=decide (t ≠ []) && !(decide (t.getD 0 0 = 48) && (decide (1 < t.length) || neg)) && allDg t
def rNum (neg:Bool) (t:List UInt8):Int × Int :=
 if rForm neg t then
  if 9223372036854775808 < val t then (0,4)
  else if neg then (-(val t:Int),0)
  else if val t = 9223372036854775808 then (0,4) else ((val t:Int),0)
 else (0,3)
theorem zw1 {neg:Bool} {t:List UInt8} (h:rForm neg t = true):Canon t ∧ (neg = true → t.getD 0 0 ≠ 48):=by
 unfold rForm at h
 simp only [Bool.and_eq_true,decide_eq_true_eq,Bool.not_eq_true',Bool.and_eq_false_iff,Bool.or_eq_false_iff,decide_eq_false_iff_not] at h
 obtain ⟨⟨h0,h1⟩,h2⟩:=h
 refine ⟨⟨h0,h2,fun e => ?_⟩,fun hn e => ?_⟩
 ·rcases h1 with h1 | h1
  ·exact absurd e h1
  ·match t,h0,e,h1 with
   | [c],_,e,_ => have:c = 48:=e; rw [this]
   | _ :: _ :: _,_,_,h1 => exact absurd h1.1 (by simp)
 ·rcases h1 with h1 | h1
  ·exact h1 e
  ·rw [hn] at h1; cases h1.2
theorem zB0 {l:List UInt8} (h:l.getD 0 0 ≠ 45 ∨ l = []):rNum false l = numL l:=by
 unfold rNum
 cases hf:rForm false l
 ·have:decL l = false:=by
   cases hd:decL l
   ·rfl
   ·exfalso
    rcases zy3 hd with ⟨d,rfl,hc⟩ | ⟨d,rfl,hc,hz⟩
    ·have:rForm false l = true:=by
      unfold rForm
      simp only [Bool.and_eq_true,decide_eq_true_eq,Bool.not_eq_true',Bool.and_eq_false_iff,Bool.or_eq_false_iff,decide_eq_false_iff_not]
      refine ⟨⟨hc.ne, ?_⟩,hc.dg⟩
      by_cases e:l.getD 0 0 = 48
      ·right; rw [hc.lead e]; simp
      ·left; exact e
     rw [this] at hf; cases hf
    ·rcases h with h | h
     ·exact h rfl
     ·cases h
  rw [zu1 this]; rfl
 ·obtain ⟨hc,_⟩:=zw1 hf
  rw [zJ9 hc]
  simp only [if_true]
  by_cases e1:9223372036854775808 < val l
  ·rw [if_pos e1,if_neg (by omega)]
  ·rw [if_neg e1]
   simp only [Bool.false_eq_true,if_false]
   by_cases e2:val l = 9223372036854775808
   ·rw [if_pos e2,if_neg (by omega)]
   ·rw [if_neg e2,if_pos (by omega)]
theorem zV7 (d:List UInt8):rNum true d = numL (45 :: d):=by
 unfold rNum
 cases hf:rForm true d
 ·have:decL (45 :: d) = false:=by
   cases hd:decL (45 :: d)
   ·rfl
   ·exfalso
    rcases zy3 hd with ⟨d',e,hc⟩ | ⟨d',e,hc,hz⟩
    ·have:=hc.dg
     rw [← e] at this
     have:=(zk8.1 this).1
     revert this; decide
    ·cases e
     have:rForm true d = true:=by
      unfold rForm
      simp only [Bool.and_eq_true,decide_eq_true_eq,Bool.not_eq_true',Bool.and_eq_false_iff,Bool.or_eq_false_iff,decide_eq_false_iff_not]
      exact ⟨⟨hc.ne,Or.inl hz⟩,hc.dg⟩
     rw [this] at hf; cases hf
  rw [zu1 this]; rfl
 ·obtain ⟨hc,hz⟩:=zw1 hf
  rw [zK0 hc (hz rfl)]
  simp only [if_true]
  by_cases e1:9223372036854775808 < val d
  ·rw [if_pos e1,if_neg (by omega)]
  ·rw [if_neg e1,if_pos (by omega)]
end Go.Proofs.YthjoelpfmimedaaGreatDoor.T1
namespace Go.Proofs.YthjoelpfmimedaaGreatDoor.T1
open Go.RowKit
def zG4 (p:Int × Int) (w:World) (e:Ending) (w':World):Prop:=e = .returned (num2 p) ∧ w = w'
theorem zi9 {neg:Bool} {t:List UInt8} (h:rForm neg t = false):rNum neg t = (0,3):=by unfold rNum; rw [h]; rfl
theorem zw0 (neg:Bool) {t:ByteArray} (h:t.size = 0):rForm neg t.data.toList = false:=by
 have e:t.data.toList = []:=List.eq_nil_of_length_eq_zero (by rw [size_eq]; exact h)
 rw [e]; rfl
theorem zB2 {neg:Bool} {t:ByteArray} (h:0 < t.size) (h0:t[0] = 48) (h1:neg = true ∨ 1 < t.size):rForm neg t.data.toList = false:=by
 unfold rForm
 rw [get0 h,h0,size_eq]
 rcases h1 with h1 | h1
 ·rw [h1]; simp
 ·simp [h1]
theorem zw2 {neg:Bool} {t:List UInt8} (h:allDg t = false):rForm neg t = false:=by unfold rForm; rw [h]; simp
def zC6 (neg:Bool) (t:ByteArray):Prop:=t.data.toList.getD 0 0 ≠ 48 ∨ (neg = false ∧ t.size ≤ 1)
theorem zE0 {neg:Bool} {t:ByteArray} (h:0 < t.size) (h0:zC6 neg t) (h1:allDg t.data.toList = true):rForm neg t.data.toList = true:=by
 have hne:t.data.toList ≠ []:=by intro e; have:=size_eq t; rw [e] at this; simp at this; omega
 unfold rForm
 rw [get0 h,h1,size_eq]
 unfold zC6 at h0
 rw [get0 h] at h0
 rcases h0 with h0 | ⟨rfl,h0⟩
 ·simp [h0,hne]
 ·simp [hne]; omega
def vk (t:ByteArray) (k:Nat):Nat:=val (t.data.toList.take k)
theorem zM7 (t:ByteArray) (k:Nat) (h:k < t.size):vk t (k + 1) = vk t k * 10 + (t[k].toNat - 48):=by
 unfold vk val
 rw [zm0 t.data.toList k (by rw [size_eq]; exact h),zY7]; rfl
theorem vk_le (t:ByteArray) (k:Nat):vk t k ≤ val t.data.toList:=by
 unfold vk val
 conv => rhs; rw [← List.take_append_drop k t.data.toList]
 unfold valF
 rw [List.foldl_append]
 exact zM8 _ _
theorem zY6 (t:ByteArray):vk t t.size = val t.data.toList:=by
 unfold vk; rw [List.take_of_length_le (by rw [size_eq]; omega)]
theorem dg_at {t:ByteArray} (h:allDg t.data.toList = true) (k:Nat) (hk:k < t.size):48 ≤ t[k].toNat ∧ t[k].toNat ≤ 57:=by
 unfold allDg at h
 rw [List.all_eq_true] at h
 exact zy0 (h _ (List.getElem_mem (by rw [size_eq]; exact hk):t.data.toList[k] ∈ t.data.toList))
theorem yc3 {v c:Nat} (h1:48 ≤ c) (h2:c ≤ 57):(-(v:Int) < (-9223372036854775808 + ((c:Int) - 48)).tdiv 10) ↔ 9223372036854775808 < v * 10 + (c - 48):=by
 have e:(-9223372036854775808 + ((c:Int) - 48)) = -((9223372036854775808 - (c - 48):Nat):Int):=by omega
 rw [e,tdiv_neg]
 omega
theorem zD9 {neg:Bool} {t:List UInt8} (h:rForm neg t = true) (hv:9223372036854775808 < val t):rNum neg t = (0,4):=by
 unfold rNum; rw [h,if_pos rfl,if_pos hv]
theorem rNum_neg {t:List UInt8} (h:rForm true t = true) (hv:val t ≤ 9223372036854775808):rNum true t = (-(val t:Int),0):=by
 unfold rNum; rw [h,if_pos rfl,if_neg (by omega),if_pos rfl]
theorem zB1 {t:List UInt8} (h:rForm false t = true) (hv:val t = 9223372036854775808):rNum false t = (0,4):=by
 unfold rNum; rw [h,if_pos rfl,if_neg (by omega)]; simp [hv]
theorem zS2 {t:List UInt8} (h:rForm false t = true) (hv:val t < 9223372036854775808):rNum false t = ((val t:Int),0):=by
 unfold rNum; rw [h,if_pos rfl,if_neg (by omega)]; simp; omega
set_option maxHeartbeats 1000000 in
theorem zp0 (s:ByteArray) (w:World) (hs:s.size ≤ maxLen) (h:s.size = 0 ∨ s.data.toList.getD 0 0 ≠ 45) :
  Calls Tryz.prog 62 #[.string s] w (zG4 (rNum false s.data.toList) w):=by
 unfold maxLen at hs
 by_cases h0:s.size = 0
 ·have H:=Lib.hid (zi9 (zw0 false h0))
  have g0:(s.size:Int) = 0:=by omega
  have g1:((s.size:Int) == 0) = true:=by rw [g0]; rfl
  have g2:¬ (0:Int) < s.size:=by omega
  clear h h0
  go_enter Tryz.func62,Tryz.ntmps62
  go_wp2_with fail
  go_ret2
  exact ⟨by rw [H.out]; rfl,rfl⟩
 have h0':0 < s.size:=by omega
 have g0:(0:Int) < s.size:=by omega
 have g1:((s.size:Int) == 0) = false:=by rw [beq_eq_false_iff_ne]; omega
 have hc:s[0] ≠ 45:=by
  rcases h with h | h
  ·exact absurd h h0
  ·rwa [get0 h0'] at h
 have g2:((s[0].toNat:Int) == 45) = false:=u8_ne hc
 clear h h0 hc
 by_cases hz:s[0] = 48 ∧ 1 < s.size
 ·have H:=Lib.hid (zi9 (zB2 (neg:=false) h0' hz.1 (Or.inr hz.2)))
  have g3:((s[0].toNat:Int) == 48) = true:=by rw [hz.1]; rfl
  have g4:(1:Int) < s.size:=by have:=hz.2; omega
  clear hz
  go_enter Tryz.func62,Tryz.ntmps62
  go_wp2_with fail
  go_ret2
  exact ⟨by rw [H.out]; rfl,rfl⟩
 have hz':s[0] ≠ 48 ∨ (false = false ∧ s.size ≤ 1):=by
  by_cases e:s[0] = 48
  ·right; by_cases e2:1 < s.size
   ·exact absurd ⟨e,e2⟩ hz
   ·exact ⟨rfl,by omega⟩
  ·left; exact e
 have HZ:Hid (zC6 false s):=Lib.hid (by unfold zC6; rw [get0 h0']; exact hz')
 have hcase:((s[0].toNat:Int) == 48) = false ∨ (((s[0].toNat:Int) == 48) = true ∧ (s.size:Int) ≤ 1):=by
  by_cases e:s[0] = 48
  ·right; refine ⟨by rw [e]; rfl, ?_⟩
   rcases hz' with h | h
   ·exact absurd e h
   ·omega
  ·left; exact u8_ne e
 clear hz hz'
 rcases hcase with g3 | ⟨g3,g4⟩
 ·go_enter Tryz.func62,Tryz.ntmps62
  go_wp2_with fail
  go_loop [6] (fun i => ∃ k:Nat,k ≤ s.size ∧ i = .int .i64 k ∧ allDg (s.data.toList.take k) = true) (fun i => s.size - (intOf i).toNat)
  case atStart => exact ⟨0,Nat.zero_le _,rfl,rfl⟩
  case round =>
   obtain ⟨k,hk,rfl,hall⟩:=hrel
   have HAK:=Lib.hid hall
   clear hall
   by_cases hlt:k < s.size
   ·have hbk:=zb7 s[k]
    have hlk:k < s.data.toList.length:=by rw [size_eq]; exact hlt
    cases hn:digB (s[k].toNat:Int)
    ·have H:=Lib.hid (zi9 (zw2 (neg:=false) (zg3 s.data.toList (fun c => digB (c.toNat:Int)) k hlk hn)))
     go_wp2_with (go_at_call 101; refine (zb3 _ _ (by omega) (by omega)).mono ?_; rintro e w' ⟨rfl,rfl⟩)
     go_ret2
     exact ⟨by rw [H.out]; rfl,rfl⟩
    ·have H1:Hid (allDg (s.data.toList.take (k + 1)) = true):=Lib.hid (zc3 s.data.toList (fun c => digB (c.toNat:Int)) k hlk HAK.out hn)
     go_wp2_with (go_at_call 101; refine (zb3 _ _ (by omega) (by omega)).mono ?_; rintro e w' ⟨rfl,rfl⟩)
     go_round
     case rel => exact ⟨k + 1,by omega,by go_num,H1.out⟩
     case measure => simp [intOf]; omega
   ·have HA:Hid (allDg s.data.toList = true):=Lib.hid (by
     have:=HAK.out
     rwa [List.take_of_length_le (by rw [size_eq]; omega)] at this)
    have HF:=Lib.hid (zE0 (neg:=false) h0' HZ.out HA.out)
    clear HAK
    go_wp2_with fail
    go_loop [7,8] (fun n i => ∃ k:Nat,k ≤ s.size ∧ i = .int .i64 k ∧ n = .int .i64 (-(vk s k:Int)) ∧ vk s k ≤ 9223372036854775808) (fun _ i => s.size - (intOf i).toNat)
    case atStart => exact ⟨0,Nat.zero_le _,rfl,rfl,Nat.zero_le _⟩
    case round =>
     obtain ⟨j,hj,rfl,rfl,hv⟩:=hrel
     by_cases hlt2:j < s.size
     ·obtain ⟨d1,d2⟩:=dg_at HA.out j hlt2
      have hs1:=zM7 s j hlt2
      have hq:=yc3 (v:=vk s j) d1 d2
      have hle:=vk_le s (j + 1)
      by_cases hb:9223372036854775808 < vk s j * 10 + (s[j].toNat - 48)
      ·have hq':=hq.2 hb
       have H:=Lib.hid (zD9 HF.out (by omega))
       clear hs1 hq hle
       go_wp2
       go_ret2
       exact ⟨by rw [H.out]; rfl,rfl⟩
      ·have hq':¬ (-(vk s j:Int) < (-9223372036854775808 + ((s[j].toNat:Int) - 48)).tdiv 10):=fun x => hb (hq.1 x)
       have hb':vk s j * 10 + (s[j].toNat - 48) ≤ 9223372036854775808:=by omega
       have HS1:=Lib.hid hs1
       clear hs1 hq hle hb
       go_wp2
       go_round
       case rel => exact ⟨j + 1,by omega,by go_num,by rw [HS1.out]; congr 1; omega,by rw [HS1.out]; exact hb'⟩
       case measure => simp [intOf]; omega
     ·obtain rfl:j = s.size:=by omega
      have hva:=zY6 s
      rw [hva] at hv
      by_cases hm:val s.data.toList = 9223372036854775808
      ·have H:=Lib.hid (zB1 HF.out hm)
       have hb:((-(vk s s.size:Int)) == -9223372036854775808) = true:=by rw [hva,hm]; rfl
       clear hva hm
       go_wp2
       go_ret2
       exact ⟨by rw [H.out]; rfl,rfl⟩
      ·have H:=Lib.hid (zS2 HF.out (by omega))
       have hb:((-(vk s s.size:Int)) == -9223372036854775808) = false:=by rw [hva,beq_eq_false_iff_ne]; omega
       have hlo:vk s s.size < 9223372036854775808:=by rw [hva]; omega
       have HV:=Lib.hid hva
       clear hva hm
       go_wp2
       go_ret2
       exact ⟨by rw [H.out, ← HV.out]; rfl,rfl⟩
 ·go_enter Tryz.func62,Tryz.ntmps62
  go_wp2_with fail
  go_loop [6] (fun i => ∃ k:Nat,k ≤ s.size ∧ i = .int .i64 k ∧ allDg (s.data.toList.take k) = true) (fun i => s.size - (intOf i).toNat)
  case atStart => exact ⟨0,Nat.zero_le _,rfl,rfl⟩
  case round =>
   obtain ⟨k,hk,rfl,hall⟩:=hrel
   have HAK:=Lib.hid hall
   clear hall
   by_cases hlt:k < s.size
   ·have hbk:=zb7 s[k]
    have hlk:k < s.data.toList.length:=by rw [size_eq]; exact hlt
    cases hn:digB (s[k].toNat:Int)
    ·have H:=Lib.hid (zi9 (zw2 (neg:=false) (zg3 s.data.toList (fun c => digB (c.toNat:Int)) k hlk hn)))
     go_wp2_with (go_at_call 101; refine (zb3 _ _ (by omega) (by omega)).mono ?_; rintro e w' ⟨rfl,rfl⟩)
     go_ret2
     exact ⟨by rw [H.out]; rfl,rfl⟩
    ·have H1:Hid (allDg (s.data.toList.take (k + 1)) = true):=Lib.hid (zc3 s.data.toList (fun c => digB (c.toNat:Int)) k hlk HAK.out hn)
     go_wp2_with (go_at_call 101; refine (zb3 _ _ (by omega) (by omega)).mono ?_; rintro e w' ⟨rfl,rfl⟩)
     go_round
     case rel => exact ⟨k + 1,by omega,by go_num,H1.out⟩
     case measure => simp [intOf]; omega
   ·have HA:Hid (allDg s.data.toList = true):=Lib.hid (by
     have:=HAK.out
     rwa [List.take_of_length_le (by rw [size_eq]; omega)] at this)
    have HF:=Lib.hid (zE0 (neg:=false) h0' HZ.out HA.out)
    clear HAK
    go_wp2_with fail
    go_loop [7,8] (fun n i => ∃ k:Nat,k ≤ s.size ∧ i = .int .i64 k ∧ n = .int .i64 (-(vk s k:Int)) ∧ vk s k ≤ 9223372036854775808) (fun _ i => s.size - (intOf i).toNat)
    case atStart => exact ⟨0,Nat.zero_le _,rfl,rfl,Nat.zero_le _⟩
    case round =>
     obtain ⟨j,hj,rfl,rfl,hv⟩:=hrel
     by_cases hlt2:j < s.size
     ·obtain ⟨d1,d2⟩:=dg_at HA.out j hlt2
      have hs1:=zM7 s j hlt2
      have hq:=yc3 (v:=vk s j) d1 d2
      have hle:=vk_le s (j + 1)
      by_cases hb:9223372036854775808 < vk s j * 10 + (s[j].toNat - 48)
      ·have hq':=hq.2 hb
       have H:=Lib.hid (zD9 HF.out (by omega))
       clear hs1 hq hle
       go_wp2
       go_ret2
       exact ⟨by rw [H.out]; rfl,rfl⟩
      ·have hq':¬ (-(vk s j:Int) < (-9223372036854775808 + ((s[j].toNat:Int) - 48)).tdiv 10):=fun x => hb (hq.1 x)
       have hb':vk s j * 10 + (s[j].toNat - 48) ≤ 9223372036854775808:=by omega
       have HS1:=Lib.hid hs1
       clear hs1 hq hle hb
       go_wp2
       go_round
       case rel => exact ⟨j + 1,by omega,by go_num,by rw [HS1.out]; congr 1; omega,by rw [HS1.out]; exact hb'⟩
       case measure => simp [intOf]; omega
     ·obtain rfl:j = s.size:=by omega
      have hva:=zY6 s
      rw [hva] at hv
      by_cases hm:val s.data.toList = 9223372036854775808
      ·have H:=Lib.hid (zB1 HF.out hm)
       have hb:((-(vk s s.size:Int)) == -9223372036854775808) = true:=by rw [hva,hm]; rfl
       clear hva hm
       go_wp2
       go_ret2
       exact ⟨by rw [H.out]; rfl,rfl⟩
      ·have H:=Lib.hid (zS2 HF.out (by omega))
       have hb:((-(vk s s.size:Int)) == -9223372036854775808) = false:=by rw [hva,beq_eq_false_iff_ne]; omega
       have hlo:vk s s.size < 9223372036854775808:=by rw [hva]; omega
       have HV:=Lib.hid hva
       clear hva hm
       go_wp2
       go_ret2
       exact ⟨by rw [H.out, ← HV.out]; rfl,rfl⟩
set_option maxHeartbeats 1000000 in
theorem zD7 (s:ByteArray) (w:World) (hs:s.size ≤ maxLen) (hp:0 < s.size) (hc:s[0] = 45) :
  Calls Tryz.prog 62 #[.string s] w (zG4 (rNum true (s.data.toList.drop 1)) w):=by
 unfold maxLen at hs
 have g0:(0:Int) < s.size:=by omega
 have g2:((s[0].toNat:Int) == 45) = true:=by rw [hc]; rfl
 clear hc
 rw [← zx8 s 1]
 have hts:(s.extract 1 s.size).size ≤ 9223372036854775807:=by rw [← size_eq,zx8,List.length_drop,size_eq]; omega
 go_enter Tryz.func62,Tryz.ntmps62
 go_upto_region 5 with fail
 generalize s.extract 1 s.size = t at *
 by_cases h0:t.size = 0
 ·have H:=Lib.hid (zi9 (zw0 true h0))
  have g3:((t.size:Int) == 0) = true:=by rw [h0]; rfl
  clear h0
  go_wp2_with fail
  go_ret2
  exact ⟨by rw [H.out]; rfl,rfl⟩
 have h0':0 < t.size:=by omega
 have g3:((t.size:Int) == 0) = false:=by rw [beq_eq_false_iff_ne]; omega
 clear h0
 by_cases hz:t[0] = 48
 ·have H:=Lib.hid (zi9 (zB2 (neg:=true) h0' hz (Or.inl rfl)))
  have g4:((t[0].toNat:Int) == 48) = true:=by rw [hz]; rfl
  clear hz
  by_cases g5:(1:Int) < t.size
  all_goals
   go_wp2_with fail
   go_ret2
   exact ⟨by rw [H.out]; rfl,rfl⟩
 have HZ:Hid (zC6 true t):=Lib.hid (by unfold zC6; rw [get0 h0']; exact Or.inl hz)
 have g4:((t[0].toNat:Int) == 48) = false:=u8_ne hz
 clear hz
 go_wp2_with fail
 go_loop [6] (fun i => ∃ k:Nat,k ≤ t.size ∧ i = .int .i64 k ∧ allDg (t.data.toList.take k) = true) (fun i => t.size - (intOf i).toNat)
 case atStart => exact ⟨0,Nat.zero_le _,rfl,rfl⟩
 case round =>
  obtain ⟨k,hk,rfl,hall⟩:=hrel
  have HAK:=Lib.hid hall
  clear hall
  by_cases hlt:k < t.size
  ·have hbk:=zb7 t[k]
   have hlk:k < t.data.toList.length:=by rw [size_eq]; exact hlt
   cases hn:digB (t[k].toNat:Int)
   ·have H:=Lib.hid (zi9 (zw2 (neg:=true) (zg3 t.data.toList (fun c => digB (c.toNat:Int)) k hlk hn)))
    go_wp2_with (go_at_call 101; refine (zb3 _ _ (by omega) (by omega)).mono ?_; rintro e w' ⟨rfl,rfl⟩)
    go_ret2
    exact ⟨by rw [H.out]; rfl,rfl⟩
   ·have H1:Hid (allDg (t.data.toList.take (k + 1)) = true):=Lib.hid (zc3 t.data.toList (fun c => digB (c.toNat:Int)) k hlk HAK.out hn)
    go_wp2_with (go_at_call 101; refine (zb3 _ _ (by omega) (by omega)).mono ?_; rintro e w' ⟨rfl,rfl⟩)
    go_round
    case rel => exact ⟨k + 1,by omega,by go_num,H1.out⟩
    case measure => simp [intOf]; omega
  ·have HA:Hid (allDg t.data.toList = true):=Lib.hid (by
    have:=HAK.out
    rwa [List.take_of_length_le (by rw [size_eq]; omega)] at this)
   have HF:=Lib.hid (zE0 (neg:=true) h0' HZ.out HA.out)
   clear HAK
   go_wp2_with fail
   go_loop [7,8] (fun n i => ∃ k:Nat,k ≤ t.size ∧ i = .int .i64 k ∧ n = .int .i64 (-(vk t k:Int)) ∧ vk t k ≤ 9223372036854775808) (fun _ i => t.size - (intOf i).toNat)
   case atStart => exact ⟨0,Nat.zero_le _,rfl,rfl,Nat.zero_le _⟩
   case round =>
    obtain ⟨j,hj,rfl,rfl,hv⟩:=hrel
    by_cases hlt2:j < t.size
    ·obtain ⟨d1,d2⟩:=dg_at HA.out j hlt2
     have hs1:=zM7 t j hlt2
     have hq:=yc3 (v:=vk t j) d1 d2
     have hle:=vk_le t (j + 1)
     by_cases hb:9223372036854775808 < vk t j * 10 + (t[j].toNat - 48)
     ·have hq':=hq.2 hb
      have H:=Lib.hid (zD9 HF.out (by omega))
      clear hs1 hq hle
      go_wp2
      go_ret2
      exact ⟨by rw [H.out]; rfl,rfl⟩
     ·have hq':¬ (-(vk t j:Int) < (-9223372036854775808 + ((t[j].toNat:Int) - 48)).tdiv 10):=fun x => hb (hq.1 x)
      have hb':vk t j * 10 + (t[j].toNat - 48) ≤ 9223372036854775808:=by omega
      have HS1:=Lib.hid hs1
      clear hs1 hq hle hb
      go_wp2
      go_round
      case rel => exact ⟨j + 1,by omega,by go_num,by rw [HS1.out]; congr 1; omega,by rw [HS1.out]; exact hb'⟩
      case measure => simp [intOf]; omega
    ·obtain rfl:j = t.size:=by omega
     have hva:=zY6 t
     rw [hva] at hv
     have H:=Lib.hid (rNum_neg HF.out hv)
     have HV:=Lib.hid hva
     clear hva
     go_wp2
     go_ret2
     exact ⟨by rw [H.out, ← HV.out]; rfl,rfl⟩
theorem zN6 (s:ByteArray) (w:World) (hs:s.size ≤ maxLen) :
  Calls Tryz.prog 62 #[.string s] w (zG4 (numL s.data.toList) w):=by
 by_cases h0:s.size = 0
 ·rw [← zB0 (Or.inr (List.eq_nil_of_length_eq_zero (by rw [size_eq]; exact h0)))]
  exact zp0 s w hs (Or.inl h0)
 have hp:0 < s.size:=by omega
 by_cases hc:s[0] = 45
 ·have e:s.data.toList = 45 :: s.data.toList.drop 1:=by
   conv => lhs; rw [zx2 hp,hc]
  have:=zD7 s w hs hp hc
  rw [zV7, ← e] at this
  exact this
 ·have hg:s.data.toList.getD 0 0 ≠ 45:=by rw [get0 hp]; exact hc
  rw [← zB0 (Or.inl hg)]
  exact zp0 s w hs (Or.inr hg)
end Go.Proofs.YthjoelpfmimedaaGreatDoor.T1
namespace Go.Proofs.YthjoelpfmimedaaGreatDoor.T1
open Go.RowKit
theorem zN3 (s:ByteArray) (w:World) (hs:s.size ≤ maxLen) (h:¬ (2 ≤ s.size ∧ s.data.toList.getD 0 0 = 34 ∧ s.data.toList.getD (s.size - 1) 0 = 34)) :
  Calls Tryz.prog 64 #[.string s] w (zy7 (zb4 s.data.toList) w):=by
 have e:zb4 s.data.toList = none:=by unfold zb4; rw [size_eq,if_neg h]
 rw [e]
 unfold maxLen at hs
 by_cases h2:2 ≤ s.size
 ·have h0':0 < s.size:=by omega
  have h1':s.size - 1 < s.size:=by omega
  rw [zg0 s 0 h0',zg0 s (s.size - 1) h1'] at h
  by_cases ha:s[0] = 34
  ·have hb:s[s.size - 1] ≠ 34:=fun e => h ⟨h2,ha,e⟩
   have g1:((s[0].toNat:Int) != 34) = false:=by rw [ha]; rfl
   have g2:((s[s.size - 1].toNat:Int) != 34) = true:=by
    have:=u8_ne hb
    rw [bne]; rw [show ((s[s.size - 1].toNat:Int) == 34) = false from this]; rfl
   clear h ha hb
   go_enter Tryz.func64,Tryz.ntmps64
   go_wp2_with fail
   go_ret2
   exact ⟨rfl,Below.refl _ _⟩
  ·have g1:((s[0].toNat:Int) != 34) = true:=by
    have:=u8_ne ha
    rw [bne]; rw [show ((s[0].toNat:Int) == 34) = false from this]; rfl
   clear h ha
   go_enter Tryz.func64,Tryz.ntmps64
   go_wp2_with fail
   go_ret2
   exact ⟨rfl,Below.refl _ _⟩
 ·have h2':(s.size:Int) < 2:=by omega
  clear h h2
  go_enter Tryz.func64,Tryz.ntmps64
  go_wp2_with fail
  go_ret2
  exact ⟨rfl,Below.refl _ _⟩
theorem zr2 (m:ByteArray) (k:Nat) (h:k < m.size):m.data.toList.drop k = m[k] :: m.data.toList.drop (k + 1) :=
 (List.getElem_cons_drop (by rw [size_eq]; exact h)).symm
theorem step_bad (m:ByteArray) (k:Nat) (h:k < m.size) (hb:m[k] = 34 ∨ prB (m[k].toNat:Int) = false):stepL (m.data.toList.drop k) = none:=by
 rw [zr2 m k h,zg5,if_pos hb]
theorem zU4 (m:ByteArray) (k:Nat) (h:k < m.size) (h1:m[k] ≠ 34) (h2:prB (m[k].toNat:Int) = true) (h3:m[k] ≠ 92):stepL (m.data.toList.drop k) = some (m[k],1):=by
 rw [zr2 m k h,zg5,if_neg (by simp [h1,h2]),if_pos h3]
theorem zZ6 (m:ByteArray) (k:Nat) (h:k < m.size) (h3:m[k] = 92) (hl:m.size ≤ k + 1):stepL (m.data.toList.drop k) = none:=by
 rw [zr2 m k h,List.drop_eq_nil_of_le (by rw [size_eq]; omega),h3]; decide
theorem step_esc (m:ByteArray) (k:Nat) (h:k + 1 < m.size) (h3:m[k] = 92):stepL (m.data.toList.drop k) = if m[k + 1] = 117 then (numL4 (m.data.toList.drop (k + 2))).map (·,6) else (zh8 m[k + 1]).map (·,2):=by
 rw [zr2 m k (by omega),zr2 m (k + 1) h,h3,zh4]
theorem zJ3 {n:Int} (h:prB n = true):32 ≤ n ∧ n ≤ 126:=by unfold prB at h; simpa using h
theorem prB_not {n:Int} (h:prB n = false):n < 32 ∨ 126 < n:=by unfold prB at h; simp at h; omega
structure Rd (l:List UInt8) (m:ByteArray) (B:World) (k:Nat) (done:List UInt8) (w:World):Prop where
 le:k ≤ m.size
 len:done.length ≤ k
 at':UnqAt l done (m.data.toList.drop k)
 below:Below B.heap.size B w
theorem Rd.step {l:List UInt8} {m:ByteArray} {B w w':World} {k j:Nat} {done:List UInt8} {b:UInt8} (h:Rd l m B k done w) (hs:stepL (m.data.toList.drop k) = some (b,j)) (hb:Below w.heap.size w w'):Rd l m B (k + j) (done ++ [b]) w':=by
 have hl:=zm1 hs
 rw [List.length_drop,size_eq] at hl
 have h1:=h.le
 have h2:=h.len
 refine ⟨by omega,by rw [List.length_append]; simp; omega, ?_,zT7 h.below hb⟩
 have:=zz9 h.at' hs
 rwa [List.drop_drop] at this
theorem Rd.bad {l:List UInt8} {m:ByteArray} {B w:World} {k:Nat} {done:List UInt8} (h:Rd l m B k done w) (hk:k < m.size) (hs:stepL (m.data.toList.drop k) = none):unqR l = none :=
 zH2 h.at' (by rw [zr2 m k hk]; simp) hs
theorem Rd.fin {l:List UInt8} {m:ByteArray} {B w:World} {k:Nat} {done:List UInt8} (h:Rd l m B k done w) (hk:¬ k < m.size):unqR l = some done :=
 zH1 h.at' (List.drop_eq_nil_of_le (by rw [size_eq]; omega))
set_option maxRecDepth 100000 in
set_option maxHeartbeats 1000000 in
theorem zI2 (s:ByteArray) (w:World) (hs:s.size ≤ 137438953472) (h2:2 ≤ s.size) (ha:s.data.toList.getD 0 0 = 34) (hb:s.data.toList.getD (s.size - 1) 0 = 34) :
  Calls Tryz.prog 64 #[.string s] w (zy7 (zb4 s.data.toList) w):=by
 have e:zb4 s.data.toList = unqR (midL s.data.toList):=by unfold zb4; rw [size_eq,if_pos ⟨h2,ha,hb⟩]
 rw [e]
 clear e
 have h0':0 < s.size:=by omega
 have h1':s.size - 1 < s.size:=by omega
 rw [zg0 s 0 h0'] at ha
 rw [zg0 s (s.size - 1) h1'] at hb
 have g1:((s[0].toNat:Int) != 34) = false:=by rw [ha]; rfl
 have g2:((s[s.size - 1].toNat:Int) != 34) = false:=by rw [hb]; rfl
 clear ha hb
 go_enter Tryz.func64,Tryz.ntmps64
 go_wp2_with fail
 have hml:(s.extract 1 (s.size - 1)).size ≤ s.size:=by
  rw [← size_eq,zS5, ← size_eq s]; unfold midL; rw [List.length_take,List.length_drop]; omega
 have hat:UnqAt (midL s.data.toList) [] (s.extract 1 (s.size - 1)).data.toList:=by rw [zS5]; exact zu5 _
 generalize s.extract 1 (s.size - 1) = m at *
 generalize midL s.data.toList = l at *
 go_loopw [5,6] (fun o i wr => ∃ (k:Nat) (done:List UInt8),i = .int .i64 k ∧ o = .string ⟨done.toArray⟩ ∧ Rd l m w k done wr) (fun _ i _ => m.size - (intOf i).toNat)
 case atStart => exact ⟨0,[],rfl,rfl,Nat.zero_le _,Nat.le_refl _,hat,Below.refl _ _⟩
 case round =>
  obtain ⟨k,done,rfl,rfl,hR⟩:=hrel
  have hk:=hR.le
  have hd:=hR.len
  clear hat
  by_cases hlt:k < m.size
  ·have hbk:=zb7 m[k]
   by_cases c1:m[k] = 34 ∨ prB (m[k].toNat:Int) = false
   ·have H:=Lib.hid (hR.bad hlt (step_bad m k hlt c1))
    have HB:=Lib.hid hR.below
    by_cases c2:prB (m[k].toNat:Int) = false
    ·rcases prB_not c2 with c3 | c3
     all_goals
      clear c1 c2 hR
      go_wp2_with fail
      go_ret2
      exact ⟨by rw [H.out]; rfl,HB.out⟩
    ·have c3:m[k] = 34:=c1.resolve_right c2
     have c4:((m[k].toNat:Int) == 34) = true:=by rw [c3]; rfl
     obtain ⟨c5,c6⟩:=zJ3 (by simpa using c2)
     clear c1 c2 c3 hR
     go_wp2_with fail
     go_ret2
     exact ⟨by rw [H.out]; rfl,HB.out⟩
   have c2:m[k] ≠ 34:=fun e => c1 (Or.inl e)
   have c3:prB (m[k].toNat:Int) = true:=by
    cases e:prB (m[k].toNat:Int)
    ·exact absurd (Or.inr e) c1
    ·rfl
   have c4:((m[k].toNat:Int) == 34) = false:=u8_ne c2
   obtain ⟨c5,c6⟩:=zJ3 c3
   clear c1
   by_cases c7:m[k] = 92
   ·have c8:((m[k].toNat:Int) != 92) = false:=by rw [c7]; rfl
    clear c2 c3
    by_cases c9:m.size ≤ k + 1
    ·have H:=Lib.hid (hR.bad hlt (zZ6 m k hlt c7 c9))
     have HB:=Lib.hid hR.below
     have c10:(m.size:Int) ≤ (k:Int) + 1:=by omega
     clear c7 hR c9
     go_wp2_with fail
     go_ret2
     exact ⟨by rw [H.out]; rfl,HB.out⟩
    have c10:k + 1 < m.size:=by omega
    have c11:(k:Int) + 1 < m.size:=by omega
    have HS:=Lib.hid (step_esc m k c10 c7)
    have HR:=Lib.hid hR
    clear c7 hR c9
    go_wp2_with fail
    refine (zN4 _ _).mono ?_
    cases ho:zh8 m[k + 1] with
    | some x =>
      rintro e w2 ⟨rfl,rfl⟩
      have hne:m[k + 1] ≠ 117:=by intro e; rw [e,show zh8 117 = none by decide] at ho; cases ho
      have H:Hid (stepL (m.data.toList.drop k) = some (x,2)):=Lib.hid (by rw [HS.out,if_neg hne,ho]; rfl)
      have hcv:=fun w => zL6 w #[.int .u8 (x.toNat:Int)] [x] 1 1 rfl rfl
      have hadd:=fun w => add_L w done [x] (by simp; omega)
      clear ho hne HS
      unfold sb2
      go_wp2
      go_roundw
      case rel => exact ⟨k + 2,done ++ [x],by go_num,rfl,HR.out.step H.out ((Below.refl _ _).alloc (Nat.le_refl _) _)⟩
      case measure => simp [intOf]; omega
    | none =>
      rintro e w2 ⟨rfl,rfl⟩
      by_cases d1:m[k + 1] = 117
      ·have d2:((m[k + 1].toNat:Int) != 117) = false:=by rw [d1]; rfl
       by_cases d3:m.size < k + 6
       ·have H:Hid (unqR l = none):=Lib.hid (HR.out.bad hlt (by rw [HS.out,if_pos d1,zw8 (by rw [List.length_drop,size_eq]; omega)]; rfl))
        have HB:=Lib.hid HR.out.below
        have d4:(m.size:Int) < (k:Int) + 6:=by omega
        clear ho d1 HS d3
        unfold sb2
        go_wp2
        go_ret2
        exact ⟨by rw [H.out]; rfl,HB.out⟩
       ·have d3':k + 6 ≤ m.size:=by omega
        have d4:(k:Int) + 6 ≤ m.size:=by omega
        have hx:(m.extract (k + 2) (k + 6)).data.toList = (m.data.toList.drop (k + 2)).take 4:=by
         rw [Lib.extract_data]; congr 1; omega
        have hxs:(m.extract (k + 2) (k + 6)).size = 4:=by rw [← size_eq,hx,List.length_take,List.length_drop,size_eq]; omega
        have HX:Hid (codeV (m.extract (k + 2) (k + 6)).data.toList = codeV (m.data.toList.drop (k + 2))):=Lib.hid (by rw [hx,zX8])
        have HC:=Lib.hid (zW7 (t:=m.data.toList.drop (k + 2)) (by rw [List.length_drop,size_eq]; omega))
        have HXS:=Lib.hid hxs
        have HS2:Hid (stepL (m.data.toList.drop k) = (numL4 (m.data.toList.drop (k + 2))).map (·,6)):=Lib.hid (by rw [HS.out,if_pos d1])
        have hcb:=zL7 (m.data.toList.drop (k + 2))
        clear ho d1 HS d3 hx hxs
        unfold sb2
        go_wp2_with fail
        refine (yc1 _ _ HXS.out).mono ?_
        rw [HX.out]
        generalize hv:codeV (m.data.toList.drop (k + 2)) = v at *
        have HV:=Lib.hid hv
        clear hv
        rintro e w2 ⟨rfl,rfl⟩
        obtain ⟨b1,b2⟩:=hcb
        by_cases e1:v < 0
        ·have H:Hid (unqR l = none):=Lib.hid (HR.out.bad hlt (by rw [HS2.out,HC.out,if_neg (by omega)]; rfl))
         have HB:=Lib.hid HR.out.below
         go_wp2
         go_ret2
         exact ⟨by rw [H.out]; rfl,HB.out⟩
        ·have e1':0 ≤ v:=by omega
         by_cases e2:255 < v
         ·have H:Hid (unqR l = none):=Lib.hid (HR.out.bad hlt (by rw [HS2.out,HC.out,if_neg (by omega)]; rfl))
          have HB:=Lib.hid HR.out.below
          clear e1
          go_wp2
          go_ret2
          exact ⟨by rw [H.out]; rfl,HB.out⟩
         ·have e2':v ≤ 255:=by omega
          have H:Hid (stepL (m.data.toList.drop k) = some (UInt8.ofNat v.toNat,6)):=Lib.hid (by rw [HS2.out,HC.out,if_pos ⟨e1',e2'⟩]; rfl)
          have hcv:=fun w => zL6 w #[.int .u8 v] [UInt8.ofNat v.toNat] 1 1 rfl (by rw [List.map_cons,ofNat_toNat e1' e2']; rfl)
          have hadd:=fun w => add_L w done [UInt8.ofNat v.toNat] (by simp; omega)
          clear e1 e2
          go_wp2
          go_roundw
          case rel => exact ⟨k + 6,done ++ [UInt8.ofNat v.toNat],by go_num,rfl,HR.out.step H.out ((Below.refl _ _).alloc (Nat.le_refl _) _)⟩
          case measure => simp [intOf]; omega
      ·have d2:((m[k + 1].toNat:Int) != 117) = true:=by
        have:=u8_ne d1
        rw [bne]; rw [show ((m[k + 1].toNat:Int) == 117) = false from this]; rfl
       have H:Hid (unqR l = none):=Lib.hid (HR.out.bad hlt (by rw [HS.out,if_neg d1,ho]; rfl))
       have HB:=Lib.hid HR.out.below
       clear ho d1 HS
       unfold sb2
       go_wp2
       go_ret2
       exact ⟨by rw [H.out]; rfl,HB.out⟩
   ·have H:=Lib.hid (zU4 m k hlt c2 c3 c7)
    have HR:=Lib.hid hR
    have c8:((m[k].toNat:Int) != 92) = true:=by
     have:=u8_ne c7
     rw [bne]; rw [show ((m[k].toNat:Int) == 92) = false from this]; rfl
    have hcv:=fun w => zL6 w #[.int .u8 (m[k].toNat:Int)] [m[k]] 1 1 rfl rfl
    have hadd:=fun w => add_L w done [m[k]] (by simp; omega)
    clear c2 c3 c7 hR
    go_wp2_with fail
    go_roundw
    case rel => exact ⟨k + 1,done ++ [m[k]],by go_num,rfl,HR.out.step H.out ((Below.refl _ _).alloc (Nat.le_refl _) _)⟩
    case measure => simp [intOf]; omega
  ·have H:=Lib.hid (hR.fin hlt)
   have HB:=Lib.hid hR.below
   clear hR
   go_wp2_with fail
   go_ret2
   exact ⟨by rw [H.out]; rfl,HB.out⟩
theorem zI3 (s:ByteArray) (w:World) (hs:s.size ≤ 137438953472) :
  Calls Tryz.prog 64 #[.string s] w (zy7 (zb4 s.data.toList) w):=by
 by_cases h:2 ≤ s.size ∧ s.data.toList.getD 0 0 = 34 ∧ s.data.toList.getD (s.size - 1) 0 = 34
 ·exact zI2 s w hs h.1 h.2.1 h.2.2
 ·exact zN3 s w (by unfold maxLen; omega) h
end Go.Proofs.YthjoelpfmimedaaGreatDoor.T1
