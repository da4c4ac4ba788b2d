
/-
  Texts joined: Name Val Past Distinct Cmp Compare Make Right.
-/
import Derived.Test.YtajljnehlncjhaaGreatDoorP3
import Derived.Deep.MidRow
import Derived.Maps.Own
import Derived.StringKeys
import Derived.Maps.OwnOps
import Derived.Maps.OwnSet
import Derived.Lib.Bytealg
import Derived.Lib.Small
import Derived.Test.YtajljnehlncjhaaGreatDoorP2
import Derived.Deep.RegionHeld3
namespace Go.Proofs.YtajljnehlncjhaaGreatDoor
open Go.RowKit
def digB (n : Int) : Bool := decide (48 ≤ n) && decide (n ≤ 57)
def letB (n : Int) : Bool := (decide (97 ≤ n) && decide (n ≤ 122)) || (decide (65 ≤ n) && decide (n ≤ 90))
def nmB (n : Int) : Bool := letB n || digB n || n == 95
theorem isDigit_any (n : Int) (w : World) (h0 : 0 ≤ n) (h1 : n ≤ 255) :
    Calls Tryz.prog 103 #[.int .u8 n] w fun e w' => e = .returned (.bool (digB n)) ∧ w = w' := by
  go_enter Tryz.func103, Tryz.ntmps103
  go_wp2
  all_goals go_ret
  all_goals (simp [digB, *]; try omega)
theorem isLetter_any (n : Int) (w : World) (h0 : 0 ≤ n) (h1 : n ≤ 255) :
    Calls Tryz.prog 144 #[.int .u8 n] w fun e w' => e = .returned (.bool (letB n)) ∧ w = w' := by
  go_enter Tryz.func144, Tryz.ntmps144
  go_wp2
  all_goals go_ret
  all_goals simp [letB, *]
  all_goals omega
theorem isNamePart_any (n : Int) (w : World) (h0 : 0 ≤ n) (h1 : n ≤ 255) :
    Calls Tryz.prog 104 #[.int .u8 n] w fun e w' => e = .returned (.bool (nmB n)) ∧ w = w' := by
  go_enter Tryz.func104, Tryz.ntmps104
  go_wp2_with (first | (go_at_call 144; refine (isLetter_any _ _ (by omega) (by omega)).mono ?_; rintro e w' ⟨rfl, rfl⟩) | (go_at_call 103; refine (isDigit_any _ _ (by omega) (by omega)).mono ?_; rintro e w' ⟨rfl, rfl⟩))
  all_goals go_ret
  all_goals simp [nmB, *]
def allNm (l : List UInt8) : Bool := l.all fun c => nmB (c.toNat : Int)
def nameL (l : List UInt8) : Bool := !l.isEmpty && decide (l.length ≤ 64) && !digB ((l.getD 0 0).toNat : Int) && allNm l
theorem all_of_at (l : List UInt8) (p : UInt8 → Bool) (k : Nat) (h : k < l.length) (hp : p l[k] = false) : l.all p = false := by
  rw [List.all_eq_false]; exact ⟨l[k], List.getElem_mem h, by simp [hp]⟩
theorem all_take_succ (l : List UInt8) (p : UInt8 → Bool) (k : Nat) (h : k < l.length) (ha : (l.take k).all p = true) (hp : p l[k] = true) : (l.take (k+1)).all p = true := by
  rw [take_snoc l k h, List.all_append, ha]; simp [hp]
theorem name_empty (s : ByteArray) (w : World) (h : s.toList = []) :
    Calls Tryz.prog 56 #[.string s] w fun e w' => e = .returned (.bool false) ∧ w = w' := by
  go_enter Tryz.func56, Tryz.ntmps56
  go_wp2_with fail
  go_ret
  exact ⟨rfl, rfl⟩
theorem name_long (s : ByteArray) (w : World) (hs : s.size ≤ maxLen) (h : 64 < s.size) :
    Calls Tryz.prog 56 #[.string s] w fun e w' => e = .returned (.bool false) ∧ w = w' := by
  unfold maxLen at hs
  have h2 : s.toList.isEmpty = false := isEmpty_of (by omega)
  have h3 : s.toList ≠ [] := ne_nil_of (by omega)
  go_enter Tryz.func56, Tryz.ntmps56
  go_wp2_with fail
  go_ret
  exact ⟨rfl, rfl⟩
theorem name_digit (s : ByteArray) (w : World) (h0 : 0 < s.size) (h : s.size ≤ 64) (hd : digB s[0].toNat = true) :
    Calls Tryz.prog 56 #[.string s] w fun e w' => e = .returned (.bool false) ∧ w = w' := by
  have h2 : s.toList.isEmpty = false := isEmpty_of (by omega)
  have h3 : s.toList ≠ [] := ne_nil_of (by omega)
  have hb := byte_lt s[0]
  go_enter Tryz.func56, Tryz.ntmps56
  go_wp2_with (go_at_call 103; refine (isDigit_any _ _ (by omega) (by omega)).mono ?_; rintro e w' ⟨rfl, rfl⟩)
  go_ret
  exact ⟨rfl, rfl⟩
theorem name_loop (s : ByteArray) (w : World) (h0 : 0 < s.size) (h : s.size ≤ 64) (hd : digB s[0].toNat = false) :
    Calls Tryz.prog 56 #[.string s] w fun e w' => e = .returned (.bool (allNm s.data.toList)) ∧ w = w' := by
  have h2 : s.toList.isEmpty = false := isEmpty_of (by omega)
  have h3 : s.toList ≠ [] := ne_nil_of (by omega)
  have hb := byte_lt s[0]
  go_enter Tryz.func56, Tryz.ntmps56
  go_wp2_with (go_at_call 103; refine (isDigit_any _ _ (by omega) (by omega)).mono ?_; rintro e w' ⟨rfl, rfl⟩)
  go_loop [3] (fun i => ∃ k : Nat, k ≤ s.size ∧ i = .int .i64 k ∧ (s.data.toList.take k).all (fun c => nmB (c.toNat : Int)) = true) (fun i => s.size - (intOf i).toNat)
  case atStart => exact ⟨0, Nat.zero_le _, rfl, rfl⟩
  case round =>
    obtain ⟨k, hk, rfl, hall⟩ := hrel
    have HA := Lib.hid hall
    clear hall
    by_cases hlt : k < s.size
    · have hbk := byte_lt s[k]
      have e : s.data.toList[k]'(by simpa using hlt) = s[k] := rfl
      cases hn : nmB (s[k].toNat : Int)
      · have H1 : Hid (allNm s.data.toList = false) := Lib.hid (all_of_at s.data.toList (fun c => nmB (c.toNat : Int)) k (by simpa using hlt) hn)
        clear e
        go_wp2_with (go_at_call 104; refine (isNamePart_any _ _ (by omega) (by omega)).mono ?_; rintro e w' ⟨rfl, rfl⟩)
        go_ret
        exact ⟨by rw [H1.out]; rfl, rfl⟩
      · have H1 := Lib.hid (all_take_succ s.data.toList (fun c => nmB (c.toNat : Int)) k (by simpa using hlt) HA.out hn)
        clear e
        go_wp2_with (go_at_call 104; refine (isNamePart_any _ _ (by omega) (by omega)).mono ?_; rintro e w' ⟨rfl, rfl⟩)
        go_round
        case rel => exact ⟨k + 1, by omega, by go_num, H1.out⟩
        case measure => simp [intOf]; omega
    · have H1 : Hid (allNm s.data.toList = true) := by
        have := HA.out
        rw [List.take_of_length_le (by simp; omega)] at this
        exact Lib.hid this
      go_wp2
      go_ret
      exact ⟨by rw [H1.out]; rfl, rfl⟩
theorem name_any (s : ByteArray) (w : World) (hs : s.size ≤ maxLen) :
    Calls Tryz.prog 56 #[.string s] w fun e w' => e = .returned (.bool (nameL s.data.toList)) ∧ w = w' := by
  have hl := size_eq s
  by_cases h0 : s.size = 0
  · have e : s.data.toList = [] := List.eq_nil_of_length_eq_zero (by omega)
    rw [e]; exact name_empty s w (nil_of h0)
  have hne : s.data.toList.isEmpty = false := by
    rw [← Lib.toList_data]; exact isEmpty_of (by omega)
  by_cases h1 : 64 < s.size
  · have e : nameL s.data.toList = false := by unfold nameL; rw [hl]; simp; omega
    rw [e]; exact name_long s w hs h1
  have e0 : s.data.toList.getD 0 0 = s[0]'(by omega) := by
    rw [List.getD_eq_getElem?_getD, List.getElem?_eq_getElem (by omega)]; rfl
  cases hd : digB ((s[0]'(by omega)).toNat : Int)
  · have e : nameL s.data.toList = allNm s.data.toList := by
      unfold nameL; rw [e0, hd, hne, hl]; simp; omega
    rw [e]; exact name_loop s w (by omega) (by omega) hd
  · have e : nameL s.data.toList = false := by unfold nameL; rw [e0, hd]; simp
    rw [e]; exact name_digit s w (by omega) (by omega) hd
def letU (n : Int) : Bool := letB n || n == 95
theorem rdigit_any (n : Int) (w : World) (h0 : 0 ≤ n) (h1 : n ≤ 255) :
    Calls Tryz.prog 116 #[.int .u8 n] w fun e w' => e = .returned (.bool (digB n)) ∧ w = w' := by
  go_enter Tryz.func116, Tryz.ntmps116
  go_wp2
  all_goals go_ret
  all_goals (simp [digB, *]; try omega)
theorem rletter_any (n : Int) (w : World) (h0 : 0 ≤ n) (h1 : n ≤ 255) :
    Calls Tryz.prog 115 #[.int .u8 n] w fun e w' => e = .returned (.bool (letU n)) ∧ w = w' := by
  go_enter Tryz.func115, Tryz.ntmps115
  go_wp2
  all_goals go_ret
  all_goals refine ⟨congrArg Ending.returned (congrArg Value.bool ?_), rfl⟩
  all_goals (rw [Bool.eq_iff_iff]; simp [letU, letB, *]; try omega)
theorem rname_short (s : ByteArray) (w : World) (h : s.size = 0) :
    Calls Tryz.prog 59 #[.string s] w fun e w' => e = .returned (.bool false) ∧ w = w' := by
  have h' : (s.size : Int) < 1 := by omega
  clear h
  go_enter Tryz.func59, Tryz.ntmps59
  go_wp2_with fail
  go_ret
  exact ⟨rfl, rfl⟩
theorem rname_long (s : ByteArray) (w : World) (hs : s.size ≤ maxLen) (h : 64 < s.size) :
    Calls Tryz.prog 59 #[.string s] w fun e w' => e = .returned (.bool false) ∧ w = w' := by
  unfold maxLen at hs
  go_enter Tryz.func59, Tryz.ntmps59
  go_wp2_with fail
  go_ret
  exact ⟨rfl, rfl⟩
theorem nm_of (n : Int) : nmB n = (letU n || digB n) := by unfold nmB letU; cases letB n <;> cases digB n <;> simp
def HeadOk (l : List UInt8) (k : Nat) : Prop := allNm (l.take k) = true ∧ (0 < k → digB ((l.getD 0 0).toNat : Int) = false)
theorem headOk_zero (l : List UInt8) : HeadOk l 0 := ⟨rfl, fun h => absurd h (by omega)⟩
theorem headOk_succ {l : List UInt8} {k : Nat} (h : HeadOk l k) (hk : k < l.length) (h1 : nmB (l[k].toNat : Int) = true) (h2 : k = 0 → digB (l[k].toNat : Int) = false) : HeadOk l (k + 1) := by
  refine ⟨all_take_succ l (fun c => nmB (c.toNat : Int)) k hk h.1 h1, fun _ => ?_⟩
  by_cases e : k = 0
  · subst e; rw [List.getD_eq_getElem?_getD, List.getElem?_eq_getElem hk]; exact h2 rfl
  · exact h.2 (by omega)
theorem headOk_end {l : List UInt8} (h : HeadOk l l.length) (h0 : 0 < l.length) (h1 : l.length ≤ 64) : nameL l = true := by
  unfold nameL
  have e := h.1
  rw [List.take_length] at e
  rw [h.2 h0, e]
  cases l with
  | nil => simp at h0
  | cons a l => simp at h1 ⊢; omega
theorem name_no_at {l : List UInt8} {k : Nat} (hk : k < l.length) (h : nmB (l[k].toNat : Int) = false) : nameL l = false := by
  unfold nameL
  rw [show allNm l = false from all_of_at l (fun c => nmB (c.toNat : Int)) k hk h]; simp
theorem name_no_head {l : List UInt8} (hk : 0 < l.length) (h : digB (l[0].toNat : Int) = true) : nameL l = false := by
  unfold nameL
  rw [List.getD_eq_getElem?_getD, List.getElem?_eq_getElem hk, Option.getD_some, h]; simp
theorem rname_loop (s : ByteArray) (w : World) (h0 : 0 < s.size) (h : s.size ≤ 64) :
    Calls Tryz.prog 59 #[.string s] w fun e w' => e = .returned (.bool (nameL s.data.toList)) ∧ w = w' := by
  have hl := Lib.hid (size_eq s)
  go_enter Tryz.func59, Tryz.ntmps59
  go_wp2_with fail
  go_loop [3] (fun i => ∃ k : Nat, k ≤ s.size ∧ i = .int .i64 k ∧ HeadOk s.data.toList k) (fun i => s.size - (intOf i).toNat)
  case atStart => exact ⟨0, Nat.zero_le _, rfl, headOk_zero _⟩
  case round =>
    obtain ⟨k, hk, rfl, hH⟩ := hrel
    by_cases hlt : k < s.size
    · have hbk := byte_lt s[k]
      have hlk : k < s.data.toList.length := by rw [hl.out]; exact hlt
      cases n1 : letU (s[k].toNat : Int)
      · cases n2 : digB (s[k].toNat : Int)
        · have H2 : Hid (nameL s.data.toList = false) := Lib.hid (name_no_at hlk (by show nmB (s[k].toNat : Int) = false; rw [nm_of, n1, n2]; rfl))
          go_wp2_with (first | (go_at_call 115; refine (rletter_any _ _ (by omega) (by omega)).mono ?_; rintro e w' ⟨rfl, rfl⟩) | (go_at_call 116; refine (rdigit_any _ _ (by omega) (by omega)).mono ?_; rintro e w' ⟨rfl, rfl⟩))
          all_goals go_ret
          all_goals exact ⟨by rw [H2.out]; rfl, rfl⟩
        · by_cases hd : k = 0
          · subst hd
            have H2 : Hid (nameL s.data.toList = false) := Lib.hid (name_no_head hlk n2)
            go_wp2_with (first | (go_at_call 115; refine (rletter_any _ _ (by omega) (by omega)).mono ?_; rintro e w' ⟨rfl, rfl⟩) | (go_at_call 116; refine (rdigit_any _ _ (by omega) (by omega)).mono ?_; rintro e w' ⟨rfl, rfl⟩))
            all_goals go_ret
            all_goals exact ⟨by rw [H2.out]; rfl, rfl⟩
          · have hd' : ((k : Int) == 0) = false := by rw [beq_eq_false_iff_ne]; omega
            have H3 := Lib.hid (headOk_succ hH hlk (by show nmB (s[k].toNat : Int) = true; rw [nm_of, n1, n2]; rfl) (fun e => absurd e hd))
            clear hH
            go_wp2_with (first | (go_at_call 115; refine (rletter_any _ _ (by omega) (by omega)).mono ?_; rintro e w' ⟨rfl, rfl⟩) | (go_at_call 116; refine (rdigit_any _ _ (by omega) (by omega)).mono ?_; rintro e w' ⟨rfl, rfl⟩))
            go_round
            case rel => exact ⟨k + 1, by omega, by go_num, H3.out⟩
            case measure => simp [intOf]; omega
      · have hnd : digB (s[k].toNat : Int) = false := by
          unfold letU letB at n1; unfold digB; simp at n1 ⊢; omega
        have H3 := Lib.hid (headOk_succ hH hlk (by show nmB (s[k].toNat : Int) = true; rw [nm_of, n1]; rfl) (fun _ => hnd))
        clear hH hnd
        go_wp2_with (go_at_call 115; refine (rletter_any _ _ (by omega) (by omega)).mono ?_; rintro e w' ⟨rfl, rfl⟩)
        go_round
        case rel => exact ⟨k + 1, by omega, by go_num, H3.out⟩
        case measure => simp [intOf]; omega
    · obtain rfl : k = s.size := by omega
      have H1 : Hid (nameL s.data.toList = true) := Lib.hid (headOk_end (by rw [hl.out]; exact hH) (by rw [hl.out]; exact h0) (by rw [hl.out]; exact h))
      go_wp2
      go_ret
      exact ⟨by rw [H1.out]; rfl, rfl⟩
theorem rname_any (s : ByteArray) (w : World) (hs : s.size ≤ maxLen) :
    Calls Tryz.prog 59 #[.string s] w fun e w' => e = .returned (.bool (nameL s.data.toList)) ∧ w = w' := by
  have hl := size_eq s
  by_cases h0 : s.size = 0
  · have e : s.data.toList = [] := List.eq_nil_of_length_eq_zero (by omega)
    rw [e]; exact rname_short s w h0
  by_cases h1 : 64 < s.size
  · have e : nameL s.data.toList = false := by unfold nameL; rw [hl]; simp; omega
    rw [e]; exact rname_long s w hs h1
  exact rname_loop s w (by omega) (by omega)
end Go.Proofs.YtajljnehlncjhaaGreatDoor
namespace Go.Proofs.YtajljnehlncjhaaGreatDoor
open Go.RowKit
inductive VT where
  | mk (k n : Int) (s : ByteArray) (items : List VT) (keys : List ByteArray)
mutual
def VT.size : VT → Nat
  | .mk _ _ _ is _ => 1 + VT.sizes is
def VT.sizes : List VT → Nat
  | [] => 0
  | t :: r => t.size + VT.sizes r
end
mutual
def VT.depth : VT → Nat
  | .mk _ _ _ is _ => 1 + VT.depths is
def VT.depths : List VT → Nat
  | [] => 0
  | t :: r => max t.depth (VT.depths r)
end
theorem VT.ind {P : VT → Prop} (h : ∀ k n s is ks, (∀ (i : Nat) (t : VT), is[i]? = some t → P t) → P (.mk k n s is ks)) (t : VT) : P t :=
  VT.rec (motive_1 := P) (motive_2 := fun l => ∀ (i : Nat) (t : VT), l[i]? = some t → P t) (fun k n s is ks ih => h k n s is ks ih)
    (fun i t hi => by simp at hi) (fun x r hx hr i t hi => by
      cases i with
      | zero => simp at hi; subst hi; exact hx
      | succ j => exact hr j t (by simpa using hi)) t
def C5 (w : World) (a : Addr) (v : Value) : Prop := ∃ c0 c1 c2 c3 c4, v = .agg #[c0, c1, c2, c3, c4] ∧ w.cell? a = some c0 ∧ w.cell? ⟨a.block, a.off + 1, none⟩ = some c1 ∧ w.cell? ⟨a.block, a.off + 2, none⟩ = some c2 ∧ w.cell? ⟨a.block, a.off + 3, none⟩ = some c3 ∧ w.cell? ⟨a.block, a.off + 4, none⟩ = some c4
def KeysAt (w : World) (B : Nat) (K : Option Addr) (keys : List ByteArray) : Prop :=
  0 < keys.length → ∃ a, K = some a ∧ a.block < B ∧ ∀ i s, keys[i]? = some s → w.cell? (a.add i) = some (.string s)
def small (k : Int) : Prop := -9223372036854775808 ≤ k ∧ k ≤ 9223372036854775807
inductive Rd (w : World) (B : Nat) : Value → VT → Prop
  | mk {k n : Int} {s : ByteArray} {A : Option Addr} {li ci : Nat} {K : Option Addr} {lk ck : Nat} {items : List VT} {keys : List ByteArray} (V : Nat → Value)
      (hk : small k) (hn : small n) (hs : s.size ≤ 140737488351232) (hks : ∀ s ∈ keys, s.size ≤ 140737488351232)
      (hli : items.length = li) (hlk : keys.length = lk) (hbi : li * 80 ≤ 140737488351232) (hbk : lk * 16 ≤ 140737488351232)
      (hA : 0 < li → ∃ a, A = some a ∧ a.block < B ∧ ∀ i, i < li → C5 w (a.add (i * 5)) (V i))
      (hr : ∀ (i : Nat) (t : VT), items[i]? = some t → Rd w B (V i) t)
      (hK : KeysAt w B K keys) :
      Rd w B (.agg #[.int .i64 k, .int .i64 n, .string s, .slice A li ci, .slice K lk ck]) (.mk k n s items keys)
theorem add_block (a : Addr) (n : Nat) : (a.add n).block = a.block := by unfold Addr.add; split <;> rfl
theorem C5.kept {w w' : World} {B : Nat} {a : Addr} {v : Value} (h : C5 w a v) (ha : a.block < B) (hb : Below B w w') : C5 w' a v := by
  obtain ⟨c0, c1, c2, c3, c4, e, h0, h1, h2, h3, h4⟩ := h
  exact ⟨c0, c1, c2, c3, c4, e, (hb.cell ha).trans h0, (hb.cell (p := ⟨a.block, a.off + 1, none⟩) ha).trans h1, (hb.cell (p := ⟨a.block, a.off + 2, none⟩) ha).trans h2, (hb.cell (p := ⟨a.block, a.off + 3, none⟩) ha).trans h3, (hb.cell (p := ⟨a.block, a.off + 4, none⟩) ha).trans h4⟩
theorem KeysAt.kept {w w' : World} {B : Nat} {K : Option Addr} {keys : List ByteArray} (h : KeysAt w B K keys) (hb : Below B w w') : KeysAt w' B K keys := by
  intro hl
  obtain ⟨a, e, ha, hc⟩ := h hl
  exact ⟨a, e, ha, fun i s hi => (hb.cell (by rw [add_block]; exact ha)).trans (hc i s hi)⟩
theorem Rd.kept {w w' : World} {B : Nat} {v : Value} {t : VT} (h : Rd w B v t) (hb : Below B w w') : Rd w' B v t := by
  induction h with
  | mk V hk hn hs hks hli hlk hbi hbk hA hr hK ih =>
    refine .mk V hk hn hs hks hli hlk hbi hbk (fun h0 => ?_) ih (hK.kept hb)
    obtain ⟨a, e, ha, hc⟩ := hA h0
    exact ⟨a, e, ha, fun i hi => (hc i hi).kept (by rw [add_block]; exact ha) hb⟩
theorem Rd.mono {w : World} {B B' : Nat} {v : Value} {t : VT} (h : Rd w B v t) (hb : B ≤ B') : Rd w B' v t := by
  induction h with
  | mk V hk hn hs hks hli hlk hbi hbk hA hr hK ih =>
    refine .mk V hk hn hs hks hli hlk hbi hbk (fun h0 => ?_) ih (fun h0 => ?_)
    · obtain ⟨a, e, ha, hc⟩ := hA h0
      exact ⟨a, e, by omega, hc⟩
    · obtain ⟨a, e, ha, hc⟩ := hK h0
      exact ⟨a, e, by omega, hc⟩
theorem Rd.cells {w w' : World} {B : Nat} {v : Value} {t : VT} {a : Addr} (h : Rd w B v t) (hc : C5 w' a v) :
    ∃ (k n : Int) (s : ByteArray) (A : Option Addr) (li ci : Nat) (K : Option Addr) (lk ck : Nat), v = .agg #[.int .i64 k, .int .i64 n, .string s, .slice A li ci, .slice K lk ck] ∧
      w'.cell? a = some (.int .i64 k) ∧ w'.cell? ⟨a.block, a.off + 1, none⟩ = some (.int .i64 n) ∧ w'.cell? ⟨a.block, a.off + 2, none⟩ = some (.string s) ∧
      w'.cell? ⟨a.block, a.off + 3, none⟩ = some (.slice A li ci) ∧ w'.cell? ⟨a.block, a.off + 4, none⟩ = some (.slice K lk ck) := by
  cases h with
  | mk V hk hn hs hks hli hlk hbi hbk hA hr hK =>
    obtain ⟨c0, c1, c2, c3, c4, e, h0, h1, h2, h3, h4⟩ := hc
    simp only [Value.agg.injEq, Array.mk.injEq, List.cons.injEq, and_true] at e
    obtain ⟨rfl, rfl, rfl, rfl, rfl⟩ := e
    exact ⟨_, _, _, _, _, _, _, _, _, rfl, h0, h1, h2, h3, h4⟩
theorem items_at {items : List VT} {li j : Nat} (hli : items.length = li) (hj : j < li) : ∃ t, items[j]? = some t := ⟨items[j]'(by omega), List.getElem?_eq_getElem (by omega)⟩
theorem sizes_take (l : List VT) (k : Nat) (t : VT) (h : l[k]? = some t) : VT.sizes (l.take (k+1)) = VT.sizes (l.take k) + t.size := by
  induction l generalizing k with
  | nil => simp at h
  | cons x r ih =>
    cases k with
    | zero => simp at h; subst h; simp [VT.sizes]
    | succ j => simp only [List.take_succ_cons, VT.sizes]; rw [ih j (by simpa using h)]; omega
theorem sizes_take_le (l : List VT) (k : Nat) : VT.sizes (l.take k) ≤ VT.sizes l := by
  induction l generalizing k with
  | nil => simp
  | cons x r ih =>
    cases k with
    | zero => simp [VT.sizes]
    | succ j => simp only [List.take_succ_cons, VT.sizes]; have := ih j; omega
theorem round_at {w wr : World} {B li j : Nat} {A : Option Addr} {V : Nat → Value} {items : List VT} (hA : 0 < li → ∃ a, A = some a ∧ a.block < B ∧ ∀ i, i < li → C5 w (a.add (i * 5)) (V i))
    (hR : ∀ (i : Nat) (t : VT), items[i]? = some t → Rd w B (V i) t) (hli : items.length = li) (hb : Below B w wr) (hj : j < li) :
    ∃ (a : Addr) (t : VT) (k n : Int) (s : ByteArray) (A1 : Option Addr) (l1 c1 : Nat) (K : Option Addr) (lk ck : Nat), A = some a ∧ items[j]? = some t ∧ V j = .agg #[.int .i64 k, .int .i64 n, .string s, .slice A1 l1 c1, .slice K lk ck] ∧ Rd wr B (V j) t ∧
      wr.cell? (a.add (j * 5)) = some (.int .i64 k) ∧ wr.cell? ⟨(a.add (j * 5)).block, (a.add (j * 5)).off + 1, none⟩ = some (.int .i64 n) ∧ wr.cell? ⟨(a.add (j * 5)).block, (a.add (j * 5)).off + 2, none⟩ = some (.string s) ∧
      wr.cell? ⟨(a.add (j * 5)).block, (a.add (j * 5)).off + 3, none⟩ = some (.slice A1 l1 c1) ∧ wr.cell? ⟨(a.add (j * 5)).block, (a.add (j * 5)).off + 4, none⟩ = some (.slice K lk ck) := by
  obtain ⟨a, e, ha, hc⟩ := hA (by omega)
  obtain ⟨t, ht⟩ := items_at hli hj
  have hrd := (hR j t ht).kept hb
  obtain ⟨k, n, s, A1, l1, c1, K, lk, ck, e1, h⟩ := hrd.cells ((hc j hj).kept (by rw [add_block]; exact ha) hb)
  exact ⟨a, t, k, n, s, A1, l1, c1, K, lk, ck, e, ht, e1, hrd, h⟩
theorem depths_take (l : List VT) (k : Nat) (t : VT) (h : l[k]? = some t) : VT.depths (l.take (k+1)) = max (VT.depths (l.take k)) t.depth := by
  induction l generalizing k with
  | nil => simp at h
  | cons x r ih =>
    cases k with
    | zero => simp at h; subst h; simp [VT.depths]
    | succ j => simp only [List.take_succ_cons, VT.depths]; rw [ih j (by simpa using h)]; omega
theorem depths_take_le (l : List VT) (k : Nat) : VT.depths (l.take k) ≤ VT.depths l := by
  induction l generalizing k with
  | nil => simp
  | cons x r ih =>
    cases k with
    | zero => simp [VT.depths]
    | succ j => simp only [List.take_succ_cons, VT.depths]; have := ih j; omega
mutual
theorem VT.depth_le (t : VT) : t.depth ≤ t.size := by
  cases t with
  | mk k n s is ks => simp only [VT.depth, VT.size]; have := VT.depths_le is; omega
theorem VT.depths_le (l : List VT) : VT.depths l ≤ VT.sizes l := by
  cases l with
  | nil => simp [VT.depths]
  | cons t r => simp only [VT.depths, VT.sizes]; have := VT.depth_le t; have := VT.depths_le r; omega
end
end Go.Proofs.YtajljnehlncjhaaGreatDoor
namespace Go.Proofs.YtajljnehlncjhaaGreatDoor
open Go.RowKit
structure Past (W : World) where
  w : World
  b : Below W.heap.size W w
instance {W : World} : Nonempty (Past W) := ⟨⟨W, Below.refl _ _⟩⟩
theorem Past.le {W : World} (x : Past W) : W.heap.size ≤ x.w.heap.size := x.b.size
theorem Past.below {W : World} {B : Nat} (x : Past W) (h : B ≤ W.heap.size) : Below B W x.w := x.b.mono h
theorem past_of {P : Program} {W : World} {f : FuncId} {args : Array Value} {v : Value} (x : Past W) (h : Calls P f args x.w fun e w' => e = .returned v ∧ Below x.w.heap.size x.w w') :
    Calls P f args x.w fun e w'' => e = .returned v ∧ ∃ y : Past W, w'' = y.w :=
  h.mono fun _ _ ⟨he, hb⟩ => ⟨he, ⟨_, x.b.trans (hb.mono x.le)⟩, rfl⟩
theorem past_block {W : World} {b : Nat} {o : Obj} (h : W.heap[b]? = some o) (x : Past W) : x.w.heap[b]? = some o := by
  have hb : b < W.heap.size := by
    rcases Nat.lt_or_ge b W.heap.size with h' | h'
    · exact h'
    · rw [Array.getElem?_eq_none h'] at h; cases h
  exact (x.b.block b hb).trans h
def Box (W : World) (b : Nat) (c0 c1 c2 c3 c4 : Value) : Prop := W.heap[b]? = some (.cells #[c0, c1, c2, c3, c4] 53 (0, 0))
theorem Box.cells {W : World} {b : Nat} {c0 c1 c2 c3 c4 : Value} (h : Box W b c0 c1 c2 c3 c4) :
    W.cell? ⟨b, 0, none⟩ = some c0 ∧ W.cell? ⟨b, 1, none⟩ = some c1 ∧ W.cell? ⟨b, 2, none⟩ = some c2 ∧ W.cell? ⟨b, 3, none⟩ = some c3 ∧ W.cell? ⟨b, 4, none⟩ = some c4 := by
  refine ⟨?_, ?_, ?_, ?_, ?_⟩ <;> rw [cell_of_row _ _ _ _ _ _ h] <;> rfl
theorem Box.kept {W W' : World} {b : Nat} {c0 c1 c2 c3 c4 : Value} (h : Box W b c0 c1 c2 c3 c4) (hb : Below W.heap.size W W') : Box W' b c0 c1 c2 c3 c4 := past_block h ⟨W', hb⟩
theorem Box.new (W : World) (c0 c1 c2 c3 c4 : Value) : Box (W.alloc (.cells #[c0, c1, c2, c3, c4] 53 (0, 0))) W.heap.size c0 c1 c2 c3 c4 := heap_alloc_new _ _
theorem Box.alloc {W : World} {b : Nat} {c0 c1 c2 c3 c4 : Value} (h : Box W b c0 c1 c2 c3 c4) (o : Obj) : Box (W.alloc o) b c0 c1 c2 c3 c4 := h.kept ((Below.refl _ _).alloc (Nat.le_refl _) _)
theorem Box.set {W : World} {b : Nat} {c0 c1 c2 c3 c4 : Value} (h : Box W b c0 c1 c2 c3 c4) {p : Addr} (hp : b ≠ p.block) (u : Value) : Box (W.setCell p u) b c0 c1 c2 c3 c4 := (Below.heap_setCell W p u b hp).trans h
theorem Box.lt {W : World} {b : Nat} {c0 c1 c2 c3 c4 : Value} (h : Box W b c0 c1 c2 c3 c4) : b < W.heap.size := by
  unfold Box at h
  rcases Nat.lt_or_ge b W.heap.size with h' | h'
  · exact h'
  · rw [Array.getElem?_eq_none h'] at h; cases h
theorem Box.two (w : World) (c0 c1 c2 c3 c4 d0 d1 d2 d3 d4 : Value) : let W := (w.alloc (.cells #[c0, c1, c2, c3, c4] 53 (0, 0))).alloc (.cells #[d0, d1, d2, d3, d4] 53 (0, 0))
    Box W w.heap.size c0 c1 c2 c3 c4 ∧ Box W (w.heap.size + 1) d0 d1 d2 d3 d4 ∧ Below w.heap.size w W := by
  refine ⟨(Box.new _ _ _ _ _ _).alloc _, ?_, ((Below.refl _ _).alloc (Nat.le_refl _) _).alloc (by simp) _⟩
  have := Box.new (w.alloc (.cells #[c0, c1, c2, c3, c4] 53 (0, 0))) d0 d1 d2 d3 d4
  simpa using this
theorem wp_region_past {id : Nat} {Q : Exit → Act → World → Prop} {a : Act} {w : World} {l : List Oper} (F : World → Prop) (hF : F w) (hB : Region.lexB .any l.toArray = true)
    (h : ∀ W, F W → Below w.heap.size w W → wpQuiet Tryz.prog l.toArray (fun w' => ∃ x : Past W, w' = x.w) (fun a' => ∀ w', (∃ x : Past W, w' = x.w) → Q .normal a' w') l a) : (Code.region id l.toArray true).wp Tryz.prog Q a w :=
  wp_region_quiet (C := fun w' => ∃ x : Past w, w' = x.w) (by kernel_rfl) hB ⟨⟨_, (Below.refl _ _).drew⟩, rfl⟩ (by simpa using h w hF (Below.refl _ _))
end Go.Proofs.YtajljnehlncjhaaGreatDoor
namespace Go.Proofs.YtajljnehlncjhaaGreatDoor
open Go.RowKit Go.Maps
theorem run_makeMap_hint {P : Program} (t k e : TypeId) (kd : IntKind) (n : Int) (ht : P.underlying t = some (.map k e)) (w : World) :
    (Instr.makeMap t (some (.int kd n))).run P w = .ok (.map (some w.heap.size)) (w.alloc (.map #[] 0)) := by
  simp [Instr.makeMap, run_underlying ht]; rfl
theorem plainElem_bool_inv {H : Type} {P : Program} {e : TypeId} (he : P.underlying e = some .bool) {v : Value} {z : DataW H × List MemPlace} (h : plainElem P e v = some z) : ∃ x, v = .bool x ∧ z = (.lit (.bool x), []) := by
  unfold plainElem at h
  rw [he] at h
  cases v <;> simp at h
  exact ⟨_, rfl, h.symm⟩
theorem at_fold {H : Type} (u z : DataW H) (k : Lit) : ∀ (acc : List Lit) (m : DataW H), IsMap m → (∀ x ∈ acc, WideAt.IsKeyLit x) → (acc.foldl (fun m x => m.put x u) m).atKey k z = if acc.any (fun x => x.sameKey k) then u else m.atKey k z
  | [], m, _, _ => by simp
  | x :: r, m, hm, h => by
    rw [List.foldl_cons, at_fold u z k r (m.put x u) (hm.put x u) (fun y hy => h y (by simp [hy])), List.any_cons]
    by_cases e : k = x
    · subst e
      rw [atKey_put_same hm (h k (by simp)), WideAt.sameKey_self (h k (by simp))]
      simp
    · rw [atKey_put_other e, sameKey_ne (fun e' => e e'.symm)]
      simp
instance decBA : DecidableEq ByteArray := fun a b => decidable_of_iff (a.data = b.data) ⟨fun h => by cases a; cases b; simp at h; subst h; rfl, fun h => by rw [h]⟩
instance memBA (s : ByteArray) (l : List ByteArray) : Decidable (s ∈ l) := decidable_of_iff (l.any (fun a => decide (a = s)) = true) (by simp)
def lits (l : List ByteArray) : List Lit := l.map fun s => .string s.data.toList
def setD (l : List ByteArray) : DataW Unit := setOf (.lit (.bool true)) (lits l)
theorem lit_inj {a b : ByteArray} : (Lit.string a.data.toList = Lit.string b.data.toList) ↔ a = b := by
  constructor
  · intro h
    injection h with h
    obtain ⟨a⟩ := a; obtain ⟨b⟩ := b
    simp only [ByteArray.mk.injEq]
    exact Array.toList_inj.1 h
  · rintro rfl; rfl
theorem key_lit (s : ByteArray) : WideAt.IsKeyLit (.string s.data.toList) := by first | exact trivial | simp [WideAt.IsKeyLit]
theorem any_lits (l : List ByteArray) (s : ByteArray) : (lits l).any (fun x => x.sameKey (.string s.data.toList)) = decide (s ∈ l) := by
  unfold lits
  induction l with
  | nil => simp
  | cons a r ih =>
    rw [List.map_cons, List.any_cons, ih]
    by_cases e : a = s
    · subst e; rw [WideAt.sameKey_self (key_lit a)]; simp
    · rw [sameKey_ne (fun h => e (lit_inj.1 h))]
      have e2 : ¬ s = a := fun h => e h.symm
      simp [e2]
theorem setD_at (l : List ByteArray) (s : ByteArray) : (setD l).atKey (.string s.data.toList) (.lit (.bool false)) = .lit (.bool (decide (s ∈ l))) := by
  unfold setD setOf
  rw [at_fold _ _ _ _ _ isMap_empty (fun x hx => by obtain ⟨s, _, rfl⟩ := List.mem_map.1 hx; exact key_lit s), any_lits]
  by_cases h : s ∈ l
  · simp [h]
  · simp [h, DataW.atKey]
theorem setD_snoc (l : List ByteArray) (s : ByteArray) : setD (l ++ [s]) = (setD l).put (.string s.data.toList) (.lit (.bool true)) := by
  unfold setD lits; rw [List.map_append]; exact setOf_snoc _ _ _
theorem nodup_snoc {l : List ByteArray} {k : Nat} (h : k < l.length) : (l.take (k + 1)).Nodup ↔ (l.take k).Nodup ∧ l[k] ∉ l.take k := by
  rw [List.take_succ_eq_append_getElem h, List.nodup_append]
  constructor
  · rintro ⟨h1, _, h3⟩
    exact ⟨h1, fun hm => h3 _ hm _ (by simp) rfl⟩
  · rintro ⟨h1, h2⟩
    exact ⟨h1, by simp, fun a ha b hb => by simp at hb; subst hb; exact fun e => h2 (e ▸ ha)⟩
theorem nodup_take {l : List ByteArray} {k : Nat} (h : l.Nodup) : (l.take k).Nodup := h.sublist (List.take_sublist _ _)
theorem wpList_lookup_own_bool {H : Type} {P : Program} (w : World) {ops : Array Oper} {rest : List Oper} {o : Oper} {a : Act} {Q : Exit → Act → World → Prop}
    (hg : o.guard = none) (m x : Operand) (t : TypeId) (hop : o.op = Op.lookup t m x false)
    (k e : TypeId) (K : Keyed P k) (ht : P.underlying t = some (.map k e)) (he : P.underlying e = some .bool) (hz : (zeroValue e).run P w = .ok (.bool false) w) (b n : Nat) (D : DataW H)
    (hm : a.eval m = .map (some b)) (hown : w.ownsMap P k (plainElem P e) b n D) (key : Value) (kl : Lit) (hx : a.eval x = key) (hkey : keyOf P k key = some kl)
    (y : Bool) (hy : D.atKey kl (.lit (.bool false)) = .lit (.bool y)) (hK : wpList P ops Q rest (a.put o.dst (.bool y)) w) :
    wpList P ops Q (o :: rest) a w := by
  refine wpList_plain hg fun K' hK' => ?_
  obtain ⟨v, ps, hrun, hv⟩ := hown.lookup K ht hz (plainElem_bool he false) hkey
  obtain ⟨c, rfl, hc⟩ := plainElem_bool_inv he hv
  simp only [Prod.mk.injEq] at hc
  rw [hy] at hc
  obtain ⟨hc, _⟩ := hc
  injection hc with hc
  injection hc with hc
  subst hc
  unfold Oper.wp
  simp [execOp, hop, hm, hx, hrun, Result.andThen]
  exact hK' _ _ hK
theorem keyLaw : Keyed Tryz.prog 9 := string_keyed Tryz.underlying9
theorem zeroB (w : World) : (zeroValue 4).run Tryz.prog w = .ok (.bool false) w := by kernel_rfl
set_option maxHeartbeats 1000000 in
theorem distinct_any (K : Option Addr) (lk ck : Nat) (keys : List ByteArray) (w : World) (B : Nat) (hlk : keys.length = lk) (hbk : lk * 16 ≤ 140737488351232) (hks : ∀ s ∈ keys, s.size ≤ 140737488351232) (hK : KeysAt w B K keys) (hB : B ≤ w.heap.size) :
    Calls Tryz.prog 219 #[.slice K lk ck] w fun e w' => e = .returned (.bool (decide keys.Nodup)) ∧ Below w.heap.size w w' := by
  have HL := Lib.hid hlk
  have HS := Lib.hid hks
  have HK := Lib.hid hK
  clear hlk hks hK
  have hmk := fun w => run_makeMap_hint (P := Tryz.prog) 212 9 4 .i64 lk Tryz.underlying212 w
  go_enter Tryz.func219, Tryz.ntmps219
  go_wp2_with fail
  clear hmk
  go_loopw [11] (fun i wr => ∃ j : Nat, j ≤ lk ∧ i = .int .i64 j ∧ (keys.take j).Nodup ∧ wr.ownsMap Tryz.prog 9 (plainElem Tryz.prog 4) w.heap.size j (setD (keys.take j)) ∧ Below w.heap.size w wr) (fun i _ => lk - (intOf i).toNat)
  case atStart => exact ⟨0, Nat.zero_le _, rfl, List.nodup_nil, World.ownsMap_made _ _ _ _, (Below.refl _ _).alloc (Nat.le_refl _) _⟩
  case round =>
    obtain ⟨j, hj, rfl, hnd, hown, hb⟩ := hrel
    have HND := Lib.hid hnd
    have HOWN := Lib.hid hown
    have HB := Lib.hid hb
    clear hnd hown
    have hlm : (lk : Int) ≤ 140737488351232 := by omega
    by_cases hlt : j < lk
    · obtain ⟨a, rfl, hab, hc⟩ := HK.out (by have := HL.out; omega)
      have hjl : j < keys.length := by have := HL.out; omega
      have hcell := (hb.cell (p := a.add j) (by rw [add_block]; omega)).trans (hc j _ (List.getElem?_eq_getElem hjl))
      have hsz := HS.out _ (List.getElem_mem hjl)
      have HSN := Lib.hid (nodup_snoc hjl)
      have HTK : Hid (keys.take (j + 1) = keys.take j ++ [keys[j]]) := Lib.hid (List.take_succ_eq_append_getElem hjl)
      generalize keys[j] = s at *
      have hat := setD_at (keys.take j) s
      have HAT := Lib.hid hat
      clear hat hc hb
      by_cases hm : s ∈ keys.take j
      · have hy : decide (s ∈ keys.take j) = true := by simpa using hm
        rw [hy] at HAT
        have HNO : Hid (decide keys.Nodup = false) := Lib.hid (by
          simp only [decide_eq_false_iff_not]
          intro h
          exact (HSN.out.1 (nodup_take h)).2 hm)
        clear hm hy
        go_wp2_with (at_lookup; refine wpList_lookup_own_bool _ rfl _ _ 212 rfl 9 4 keyLaw Tryz.underlying212 Tryz.underlying4 (zeroB _) w.heap.size j _ rfl HOWN.out _ _ rfl (WideMaps.keyOf_string_mk Tryz.underlying9 (by unfold maxLen; omega)) _ HAT.out ?_)
        go_ret
        exact ⟨by rw [HNO.out]; rfl, HB.out⟩
      · have hy : decide (s ∈ keys.take j) = false := by simpa using hm
        rw [hy] at HAT
        have HND1 : Hid (keys.take (j + 1)).Nodup := Lib.hid (HSN.out.2 ⟨HND.out, hm⟩)
        clear hm hy
        go_wp2_with (first
          | (at_lookup; refine wpList_lookup_own_bool _ rfl _ _ 212 rfl 9 4 keyLaw Tryz.underlying212 Tryz.underlying4 (zeroB _) w.heap.size j _ rfl HOWN.out _ _ rfl (WideMaps.keyOf_string_mk Tryz.underlying9 (by unfold maxLen; omega)) _ HAT.out ?_)
          | (at_mapUpdate; refine wpList_mapUpdate_own _ rfl _ _ _ 212 rfl 9 4 keyLaw Tryz.underlying212 _ w.heap.size j _ rfl HOWN.out (by unfold maxLen; omega) _ _ _ rfl rfl (WideMaps.keyOf_string_mk Tryz.underlying9 (by unfold maxLen; omega)) _ [] (plainElem_bool Tryz.underlying4 true) ?_; intro w1 hown1 hgrow1))
        go_roundw
        case rel => exact ⟨j + 1, by omega, by go_num, HND1.out, by rw [HTK.out, setD_snoc]; exact hown1, HB.out.grown hgrow1 HB.out.size (fun k e => by cases e; exact Nat.le_refl _)⟩
        case measure => simp [intOf]; omega
    · have HJ : Hid (decide keys.Nodup = true) := Lib.hid (by
        have := HND.out
        rw [List.take_of_length_le (by have := HL.out; omega)] at this
        simpa using this)
      clear hb
      go_wp2_with fail
      go_ret
      exact ⟨by rw [HJ.out]; rfl, HB.out⟩
end Go.Proofs.YtajljnehlncjhaaGreatDoor
namespace Go.Proofs.YtajljnehlncjhaaGreatDoor
end Go.Proofs.YtajljnehlncjhaaGreatDoor
namespace Go.Proofs.YtajljnehlncjhaaGreatDoor
open Go.RowKit
def VT.keys : VT → List ByteArray | .mk _ _ _ _ ks => ks
def VT.items : VT → List VT | .mk _ _ _ is _ => is
theorem Rd.shape {w : World} {B : Nat} {v : Value} {t : VT} (h : Rd w B v t) : ∃ (k n : Int) (s : ByteArray) (A : Option Addr) (li ci : Nat) (K : Option Addr) (lk ck : Nat), v = .agg #[.int .i64 k, .int .i64 n, .string s, .slice A li ci, .slice K lk ck] := by
  cases h with
  | mk V hk hn hs hks hli hlk hbi hbk hA hr hK => exact ⟨_, _, _, _, _, _, _, _, _, rfl⟩
end Go.Proofs.YtajljnehlncjhaaGreatDoor
namespace Go.Proofs.YtajljnehlncjhaaGreatDoor
open Go.RowKit
theorem int_any (n : Int) (w : World) : Calls Tryz.prog 185 #[.int .i64 n] w fun e w' => e = .returned (.agg #[.int .i64 2, .int .i64 n, .string ⟨#[]⟩, .slice none 0 0, .slice none 0 0]) ∧ Below w.heap.size w w' := by
  go_enter Tryz.func185, Tryz.ntmps185
  go_wp2_with fail
  exact bodyPost_ret (v := .agg #[.int .i64 2, .int .i64 n, .string ⟨#[]⟩, .slice none 0 0, .slice none 0 0]) (by simp [results, Tryz.results185, go_sem]) rfl ⟨rfl, (Below.refl _ _).alloc (Nat.le_refl _) _⟩
theorem text_any (s : ByteArray) (w : World) : Calls Tryz.prog 186 #[.string s] w fun e w' => e = .returned (.agg #[.int .i64 3, .int .i64 0, .string s, .slice none 0 0, .slice none 0 0]) ∧ Below w.heap.size w w' := by
  go_enter Tryz.func186, Tryz.ntmps186
  go_wp2_with fail
  exact bodyPost_ret (v := .agg #[.int .i64 3, .int .i64 0, .string s, .slice none 0 0, .slice none 0 0]) (by simp [results, Tryz.results186, go_sem]) rfl ⟨rfl, (Below.refl _ _).alloc (Nat.le_refl _) _⟩
theorem enum_any (s : ByteArray) (w : World) : Calls Tryz.prog 204 #[.string s] w fun e w' => e = .returned (.agg #[.int .i64 4, .int .i64 0, .string s, .slice none 0 0, .slice none 0 0]) ∧ Below w.heap.size w w' := by
  go_enter Tryz.func204, Tryz.ntmps204
  go_wp2_with fail
  exact bodyPost_ret (v := .agg #[.int .i64 4, .int .i64 0, .string s, .slice none 0 0, .slice none 0 0]) (by simp [results, Tryz.results204, go_sem]) rfl ⟨rfl, (Below.refl _ _).alloc (Nat.le_refl _) _⟩
def yesI (y : Bool) : Int := if y then 1 else 0
theorem bool_any (y : Bool) (w : World) : Calls Tryz.prog 203 #[.bool y] w fun e w' => e = .returned (.agg #[.int .i64 1, .int .i64 (yesI y), .string ⟨#[]⟩, .slice none 0 0, .slice none 0 0]) ∧ Below w.heap.size w w' := by
  cases y
  · go_enter Tryz.func203, Tryz.ntmps203
    go_wp2_with fail
    exact bodyPost_ret (v := .agg #[.int .i64 1, .int .i64 0, .string ⟨#[]⟩, .slice none 0 0, .slice none 0 0]) (by simp [results, Tryz.results203, go_sem]) rfl ⟨rfl, (Below.refl _ _).alloc (Nat.le_refl _) _⟩
  · go_enter Tryz.func203, Tryz.ntmps203
    go_wp2_with fail
    exact bodyPost_ret (v := .agg #[.int .i64 1, .int .i64 1, .string ⟨#[]⟩, .slice none 0 0, .slice none 0 0]) (by simp [results, Tryz.results203, go_sem]) rfl ⟨rfl, (Below.refl _ _).alloc (Nat.le_refl _) _⟩
end Go.Proofs.YtajljnehlncjhaaGreatDoor
namespace Go.Proofs.YtajljnehlncjhaaGreatDoor
open Go.RowKit
def nmA (s : ByteArray) : Bool := nameL s.data.toList
def enumB (s : ByteArray) : Bool := !decide (s = ⟨#[116, 114, 117, 101]⟩) && !decide (s = ⟨#[102, 97, 108, 115, 101]⟩) && !decide (s = ⟨#[110, 117, 108, 108]⟩) && nmA s
def keysB (lit : Bool) (ks : List ByteArray) : Bool := (!lit || ks.all nmA) && decide ks.Nodup
def leafB (is : List VT) (ks : List ByteArray) : Bool := decide (is.length = 0) && decide (ks.length = 0)
def nodeB (lit : Bool) : VT → Bool
  | .mk k n s is ks =>
    if k = 0 then decide (n = 0) && decide (s.size = 0) && leafB is ks
    else if k = 1 then (decide (n = 0) || decide (n = 1)) && decide (s.size = 0) && leafB is ks
    else if k = 2 then decide (s.size = 0) && leafB is ks
    else if k = 3 then decide (n = 0) && leafB is ks
    else if k = 4 then decide (n = 0) && enumB s && leafB is ks
    else if k = 5 then decide (n = 0) && decide (s.size = 0) && decide (ks.length = 0)
    else if k = 6 then decide (n = 0) && decide (s.size = 0) && decide (ks.length = is.length) && keysB lit ks
    else if k = 7 then lit && decide (n = 0) && nmA s && leafB is ks
    else false
theorem isLeaf_any (t : VT) (w : World) (B : Nat) (v : Value) (h : Rd w B v t) :
    Calls Tryz.prog 213 #[v] w fun e w' => e = .returned (.bool (leafB t.items t.keys)) ∧ Below w.heap.size w w' := by
  cases h with
  | @mk k n s A li ci K lk ck items keys V hk hn hs hks hli hlk hbi hbk hA hr hK =>
  have HV : Hid (leafB items keys = (decide (li = 0) && decide (lk = 0))) := Lib.hid (by unfold leafB; rw [hli, hlk])
  show Calls _ _ _ _ fun e w' => e = .returned (.bool (leafB items keys)) ∧ _
  clear hA hr hli hlk hK hks hn hs hk
  by_cases h1 : li = 0
  · subst h1
    by_cases h2 : lk = 0
    · subst h2
      go_enter Tryz.func213, Tryz.ntmps213
      go_wp2_with fail
      go_ret
      exact ⟨by rw [HV.out]; rfl, (Below.refl _ _).alloc (Nat.le_refl _) _⟩
    · have h2' : decide (lk = 0) = false := by simpa using h2
      have h2'' : ((lk : Int) == 0) = false := by rw [beq_eq_false_iff_ne]; omega
      go_enter Tryz.func213, Tryz.ntmps213
      go_wp2_with fail
      go_ret
      exact ⟨by rw [HV.out]; simp [h2], (Below.refl _ _).alloc (Nat.le_refl _) _⟩
  · have h1' : decide (li = 0) = false := by simpa using h1
    have h1'' : ((li : Int) == 0) = false := by rw [beq_eq_false_iff_ne]; omega
    go_enter Tryz.func213, Tryz.ntmps213
    go_wp2_with fail
    go_ret
    exact ⟨by rw [HV.out]; simp [h1], (Below.refl _ _).alloc (Nat.le_refl _) _⟩
theorem list_eq (s : ByteArray) (l : List UInt8) : (s.toList == l) = decide (s = ⟨l.toArray⟩) := by
  rw [Lib.toList_data, Bool.eq_iff_iff]
  obtain ⟨d⟩ := s
  simp only [beq_iff_eq, decide_eq_true_eq, ByteArray.mk.injEq]
  constructor
  · rintro rfl; simp
  · rintro rfl; simp
set_option maxHeartbeats 1000000 in
theorem isEnumName_any (s : ByteArray) (w : World) (hs : s.size ≤ 140737488351232) :
    Calls Tryz.prog 214 #[.string s] w fun e w' => e = .returned (.bool (enumB s)) ∧ w = w' := by
  have e1 := list_eq s [116, 114, 117, 101]
  have e2 := list_eq s [102, 97, 108, 115, 101]
  have e3 := list_eq s [110, 117, 108, 108]
  have HV : Hid (enumB s = (!decide (s = ⟨#[116, 114, 117, 101]⟩) && !decide (s = ⟨#[102, 97, 108, 115, 101]⟩) && !decide (s = ⟨#[110, 117, 108, 108]⟩) && nmA s)) := Lib.hid rfl
  have HN := Lib.hid (name_any s w (by unfold maxLen; omega))
  rw [← e1, ← e2, ← e3] at HV
  cases h1 : (s.toList == [116, 114, 117, 101])
  · cases h2 : (s.toList == [102, 97, 108, 115, 101])
    · cases h3 : (s.toList == [110, 117, 108, 108])
      · rw [h1, h2, h3] at HV
        clear e1 e2 e3
        go_enter Tryz.func214, Tryz.ntmps214
        go_wp2_with fail
        refine HN.out.mono ?_
        rintro e w' ⟨rfl, rfl⟩
        go_wp2_with fail
        go_ret
        exact ⟨by rw [HV.out]; rfl, rfl⟩
      · rw [h1, h2, h3] at HV
        clear e1 e2 e3
        go_enter Tryz.func214, Tryz.ntmps214
        go_wp2_with fail
        go_ret
        exact ⟨by rw [HV.out]; rfl, rfl⟩
    · rw [h1, h2] at HV
      clear e1 e2 e3
      go_enter Tryz.func214, Tryz.ntmps214
      go_wp2_with fail
      go_ret
      exact ⟨by rw [HV.out]; rfl, rfl⟩
  · rw [h1] at HV
    clear e1 e2 e3
    go_enter Tryz.func214, Tryz.ntmps214
    go_wp2_with fail
    go_ret
    exact ⟨by rw [HV.out]; rfl, rfl⟩
def Chk (w : World) (c : Nat) (lit : Bool) (r : Int) : Prop := w.heap[c]? = some (.cells #[.bool lit, .int .i64 r] 199 (0, 0))
theorem Chk.cells {w : World} {c : Nat} {lit : Bool} {r : Int} (h : Chk w c lit r) : w.cell? ⟨c, 0, none⟩ = some (.bool lit) ∧ w.cell? ⟨c, 1, none⟩ = some (.int .i64 r) ∧ w.frozen? ⟨c, 1, none⟩ = false := by
  refine ⟨?_, ?_, by unfold Chk at h; simp [World.frozen?, h]⟩ <;> rw [cell_of_row _ _ _ _ _ _ h] <;> rfl
theorem Chk.lt {w : World} {c : Nat} {lit : Bool} {r : Int} (h : Chk w c lit r) : c < w.heap.size := by
  unfold Chk at h
  rcases Nat.lt_or_ge c w.heap.size with h' | h'
  · exact h'
  · rw [Array.getElem?_eq_none h'] at h; cases h
theorem Chk.kept {w w' : World} {c B : Nat} {lit : Bool} {r : Int} (h : Chk w c lit r) (hb : Below B w w') (hc : c < B) : Chk w' c lit r := (hb.block c hc).trans h
theorem keys_any (lit : Bool) (r : Int) (c : Nat) (K : Option Addr) (lk ck : Nat) (keys : List ByteArray) (w : World) (B : Nat) (hc : Chk w c lit r) (hlk : keys.length = lk) (hbk : lk * 16 ≤ 140737488351232) (hks : ∀ s ∈ keys, s.size ≤ 140737488351232) (hK : KeysAt w B K keys) (hB : B ≤ w.heap.size) :
    Calls Tryz.prog 215 #[.pointer (some ⟨c, 0, none⟩), .slice K lk ck] w fun e w' => e = .returned (.bool (keysB lit keys)) ∧ Below w.heap.size w w' := by
  have HD := Lib.hid (distinct_any K lk ck keys w B hlk hbk hks hK hB)
  have HL := Lib.hid hlk
  have HS := Lib.hid hks
  have HK := Lib.hid hK
  obtain ⟨c0, c1, c2⟩ := hc.cells
  clear hlk hks hK hc
  have hlm : (lk : Int) ≤ 140737488351232 := by omega
  cases lit
  · go_enter Tryz.func215, Tryz.ntmps215
    go_wp2_with fail
    refine HD.out.mono ?_
    rintro e w' ⟨rfl, hb⟩
    have HB := Lib.hid hb
    clear hb
    go_wp2_with fail
    go_ret
    exact ⟨by simp [keysB], HB.out⟩
  · go_enter Tryz.func215, Tryz.ntmps215
    go_wp2_with fail
    go_loop [13] (fun i => ∃ j : Nat, j ≤ lk ∧ i = .int .i64 j ∧ (keys.take j).all nmA = true) (fun i => lk - (intOf i).toNat)
    case atStart => exact ⟨0, Nat.zero_le _, rfl, rfl⟩
    case round =>
      obtain ⟨j, hj, rfl, hal⟩ := hrel
      have HAL := Lib.hid hal
      clear hal
      by_cases hlt : j < lk
      · obtain ⟨a, rfl, hab, hc⟩ := HK.out (by have := HL.out; omega)
        have hjl : j < keys.length := by have := HL.out; omega
        have hcell := hc j _ (List.getElem?_eq_getElem hjl)
        have HN := Lib.hid (name_any keys[j] w (by unfold maxLen; have := HS.out _ (List.getElem_mem hjl); omega))
        have HTK : Hid (keys.take (j + 1) = keys.take j ++ [keys[j]]) := Lib.hid (List.take_succ_eq_append_getElem hjl)
        have HM : Hid (keys[j] ∈ keys) := Lib.hid (List.getElem_mem hjl)
        generalize keys[j] = s at *
        clear hc
        cases hn : nmA s
        · have HN' : Hid (nameL s.data.toList = false) := Lib.hid hn
          have HV : Hid (keysB true keys = false) := Lib.hid (by
            unfold keysB
            rw [show keys.all nmA = false from List.all_eq_false.2 ⟨s, HM.out, by simp [hn]⟩]; rfl)
          clear hn
          go_wp2_with fail
          refine HN.out.mono ?_
          rintro e w' ⟨rfl, rfl⟩
          rw [HN'.out]
          go_wp2_with fail
          go_ret
          exact ⟨by rw [HV.out]; rfl, Below.refl _ _⟩
        · have HN' : Hid (nameL s.data.toList = true) := Lib.hid hn
          have HA1 : Hid ((keys.take (j + 1)).all nmA = true) := Lib.hid (by rw [HTK.out, List.all_append, HAL.out]; simp [hn])
          clear hn
          go_wp2_with fail
          refine HN.out.mono ?_
          rintro e w' ⟨rfl, rfl⟩
          rw [HN'.out]
          go_wp2_with fail
          go_round
          case rel => exact ⟨j + 1, by omega, by go_num, HA1.out⟩
          case measure => simp [intOf]; omega
      · have HV : Hid (keysB true keys = decide keys.Nodup) := Lib.hid (by
          have := HAL.out
          rw [List.take_of_length_le (by have := HL.out; omega)] at this
          unfold keysB; rw [this]; rfl)
        go_wp2_with fail
        refine HD.out.mono ?_
        rintro e w' ⟨rfl, hb⟩
        have HB := Lib.hid hb
        clear hb
        go_wp2_with fail
        go_ret
        exact ⟨by rw [HV.out]; rfl, HB.out⟩
end Go.Proofs.YtajljnehlncjhaaGreatDoor
