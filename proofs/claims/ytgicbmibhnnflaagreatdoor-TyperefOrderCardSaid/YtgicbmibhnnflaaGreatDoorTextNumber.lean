
/-
  Contracts of package text: integers as text (Decimal, Number), and Reserved.
-/
import Derived.Test.YtgicbmibhnnflaaGreatDoorTextQuote
import Derived.Test.YtgicbmibhnnflaaGreatDoorShelf
import Derived.WalkSmall
import Derived.Lib.AppendIntMem
namespace Go.Proofs.YtgicbmibhnnflaaGreatDoor.T1
open Go.RowKit
structure Laid (w : World) : Prop where
  pow : Lib.TabIs Tryz.prog w "internal/strconv.uint64pow10" .u64 Lib.pow10Tab
  rng : ∃ te pe, w.cell? ⟨4, 0, none⟩ = some (.iface te pe)
theorem gPow : Tryz.prog.globalNamed "internal/strconv.uint64pow10" = some 5 := by kernel_rfl
theorem Laid.below {w w' : World} (h : Laid w) (hb : Below w.heap.size w w') : Laid w' := by
  have l1 := Lib.lt_of_cell (h.pow.cell gPow 0 (by decide))
  obtain ⟨te, pe, hc⟩ := h.rng
  have l2 := Lib.lt_of_cell hc
  exact ⟨var?_below hb gPow l1 h.pow, te, pe, (hb.cell (p := ⟨4, 0, none⟩) l2).trans hc⟩
def allDg (l : List UInt8) : Bool := l.all fun c => digB (c.toNat : Int)
def decL (l : List UInt8) : Bool :=
  let d := Lib.trimPrefix l [45]
  if d = [] then false else if d.getD 0 0 = 48 then decide (l = [48]) else allDg d
theorem trim_any (s : ByteArray) (w : World) :
    Calls Tryz.prog 119 #[.string s, .string ⟨#[45]⟩] w fun e w' => ∃ d : ByteArray, d.data.toList = Lib.trimPrefix s.data.toList [45] ∧ e = .returned (.string d) ∧ w = w' :=
  (Tryz.strings_TrimPrefix s ⟨#[45]⟩ w).mono fun _ _ ⟨he, hw⟩ => ⟨⟨(Lib.trimPrefix s.data.toList [45]).toArray⟩, by simp, he, hw.symm⟩
theorem dec_empty {s d : ByteArray} (h : d.data.toList = Lib.trimPrefix s.data.toList [45]) (h0 : d.size = 0) : decL s.data.toList = false := by
  have := size_eq d
  unfold decL
  rw [← h, if_pos (List.eq_nil_of_length_eq_zero (by omega))]
theorem get0 {d : ByteArray} (h0 : 0 < d.size) : d.data.toList.getD 0 0 = d[0] := by
  have := size_eq d
  rw [List.getD_eq_getElem?_getD, List.getElem?_eq_getElem (by omega)]; rfl
theorem dec_zero {s d : ByteArray} (h : d.data.toList = Lib.trimPrefix s.data.toList [45]) (h0 : 0 < d.size) (h1 : d[0] = 48) : decL s.data.toList = (s.toList == [48]) := by
  have := size_eq d
  unfold decL
  rw [← h, if_neg (by intro e; rw [e] at this; simp at this; omega), get0 h0, if_pos h1, Lib.toList_data]
  rw [Bool.eq_iff_iff]; simp
theorem dec_digits {s d : ByteArray} (h : d.data.toList = Lib.trimPrefix s.data.toList [45]) (h0 : 0 < d.size) (h1 : d[0] ≠ 48) : decL s.data.toList = allDg d.data.toList := by
  have := size_eq d
  unfold decL
  rw [← h, if_neg (by intro e; rw [e] at this; simp at this; omega), get0 h0, if_neg h1]
theorem trim_len (l : List UInt8) : (Lib.trimPrefix l [45]).length ≤ l.length := by
  unfold Lib.trimPrefix; split <;> simp
theorem isDecimal_any (s : ByteArray) (w : World) (hs : s.size ≤ maxLen) :
    Calls Tryz.prog 114 #[.string s] w fun e w' => e = .returned (.bool (decL s.data.toList)) ∧ w = w' := by
  unfold maxLen at hs
  go_enter Tryz.func114, Tryz.ntmps114
  go_wp2_with fail
  refine (trim_any _ _).mono ?_
  rintro e w' ⟨d, hd, rfl, rfl⟩
  have hdl : d.size ≤ 9223372036854775807 := by
    have h1 := size_eq d; have h2 := size_eq s; have h3 := trim_len s.data.toList; rw [hd] at h1; omega
  have HD := Lib.hid hd
  clear hd
  by_cases h0 : d.size = 0
  · have H1 := Lib.hid (dec_empty HD.out h0)
    have h2 : d.toList.isEmpty = true := by rw [nil_of h0]; rfl
    have h3 : d.toList = [] := nil_of h0
    clear h0 hdl
    go_wp2
    go_ret
    exact ⟨by rw [H1.out]; rfl, rfl⟩
  have h0' : 0 < d.size := by omega
  have h2 : d.toList.isEmpty = false := isEmpty_of h0'
  have h3 : d.toList ≠ [] := ne_nil_of h0'
  clear h0
  by_cases h1 : d[0] = 48
  · have H1 := Lib.hid (dec_zero HD.out h0' h1)
    have h4 : ((d[0].toNat : Int) == 48) = true := by rw [h1]; rfl
    clear h1
    go_wp2
    go_ret
    exact ⟨by rw [H1.out]; rfl, rfl⟩
  have H1 := Lib.hid (dec_digits HD.out h0' h1)
  have h4 : ((d[0].toNat : Int) == 48) = false := u8_ne h1
  clear h1
  go_wp2
  go_loop [4] (fun i => ∃ k : Nat, k ≤ d.size ∧ i = .int .i64 k ∧ allDg (d.data.toList.take k) = true) (fun i => d.size - (intOf i).toNat)
  case atStart => exact ⟨0, Nat.zero_le _, rfl, rfl⟩
  case round =>
    obtain ⟨k, hk, rfl, hall⟩ := hrel
    have HA := Lib.hid hall
    clear hall
    by_cases hlt : k < d.size
    · have hbk := byte_lt d[k]
      have hlk : k < d.data.toList.length := by rw [size_eq]; exact hlt
      cases hn : digB (d[k].toNat : Int)
      · have H2 : Hid (allDg d.data.toList = false) := Lib.hid (all_of_at d.data.toList (fun c => digB (c.toNat : Int)) k hlk hn)
        go_wp2_with (go_at_call 59; refine (isDigit_any _ _ (by omega) (by omega)).mono ?_; rintro e w' ⟨rfl, rfl⟩)
        go_ret
        exact ⟨by rw [H1.out, H2.out]; rfl, rfl⟩
      · have H2 : Hid (allDg (d.data.toList.take (k+1)) = true) := Lib.hid (all_take_succ d.data.toList (fun c => digB (c.toNat : Int)) k hlk HA.out hn)
        go_wp2_with (go_at_call 59; refine (isDigit_any _ _ (by omega) (by omega)).mono ?_; rintro e w' ⟨rfl, rfl⟩)
        go_round
        case rel => exact ⟨k + 1, by omega, by go_num, H2.out⟩
        case measure => simp [intOf]; omega
    · have H2 : Hid (allDg d.data.toList = true) := by
        have := HA.out
        rw [List.take_of_length_le (by rw [size_eq]; omega)] at this
        exact Lib.hid this
      go_wp2
      go_ret
      exact ⟨by rw [H1.out, H2.out]; rfl, rfl⟩
/- The plain function of Number. -/
def numL (l : List UInt8) : Int × Int := if decL l then (match Lib.atoiAll l with | .ok v => (v, 0) | _ => (0, 4)) else (0, 3)
def num2 (p : Int × Int) : Value := .tuple #[.int .i64 p.1, .int .i64 p.2]
theorem number_no (s : ByteArray) (w : World) (hs : s.size ≤ maxLen) (h : decL s.data.toList = false) :
    Calls Tryz.prog 103 #[.string s] w fun e w' => e = .returned (num2 (0, 3)) ∧ Below w.heap.size w w' := by
  go_enter Tryz.func103, Tryz.ntmps103
  go_wp2_with (go_at_call 114; refine (isDecimal_any _ _ hs).mono ?_; rintro e w' ⟨rfl, rfl⟩)
  go_ret2
  exact ⟨rfl, Below.refl _ _⟩
theorem parse_digits : ∀ (l : List UInt8) (acc : Nat), allDg l = true → (∃ u, Lib.parseUint10 acc l = .ok u) ∨ Lib.parseUint10 acc l = .range
  | [], acc, _ => Or.inl ⟨acc, rfl⟩
  | c :: r, acc, h => by
    unfold allDg at h
    rw [List.all_cons, Bool.and_eq_true] at h
    have hc : 48 ≤ c.toNat ∧ c.toNat ≤ 57 := by have := h.1; unfold digB at this; simp at this; omega
    unfold Lib.parseUint10
    rw [if_pos hc]
    split
    · exact Or.inr rfl
    · split
      · exact Or.inr rfl
      · exact parse_digits r _ h.2
theorem mag_digits {l : List UInt8} (h0 : l ≠ []) (h : allDg l = true) : (∃ u, Lib.parseMag l = .ok u) ∨ Lib.parseMag l = .range := by
  unfold Lib.parseMag; rw [if_neg h0]; exact parse_digits l 0 h
theorem trim_minus (l : List UInt8) : Lib.trimPrefix (45 :: l) [45] = l := by
  unfold Lib.trimPrefix Lib.hasPrefix; simp
theorem trim_other {c : UInt8} (l : List UInt8) (h : c ≠ 45) : Lib.trimPrefix (c :: l) [45] = c :: l := by
  unfold Lib.trimPrefix Lib.hasPrefix
  rw [if_neg]; simp [h.symm]
theorem dec_parts {l : List UInt8} (h : decL l = true) : l = [48] ∨ ∃ d : List UInt8, d ≠ [] ∧ d.getD 0 0 ≠ 48 ∧ allDg d = true ∧ (l = d ∨ l = 45 :: d) ∧ d.getD 0 0 ≠ 45 ∧ d.getD 0 0 ≠ 43 := by
  cases l with
  | nil => exact absurd h (by decide)
  | cons c r =>
    have key : ∀ d : List UInt8, Lib.trimPrefix (c :: r) [45] = d → (c :: r = d ∨ c :: r = 45 :: d) → c :: r = [48] ∨ ∃ d : List UInt8, d ≠ [] ∧ d.getD 0 0 ≠ 48 ∧ allDg d = true ∧ (c :: r = d ∨ c :: r = 45 :: d) ∧ d.getD 0 0 ≠ 45 ∧ d.getD 0 0 ≠ 43 := by
      intro d hd hl
      unfold decL at h
      rw [hd] at h
      by_cases h0 : d = []
      · rw [if_pos h0] at h; cases h
      rw [if_neg h0] at h
      by_cases h1 : d.getD 0 0 = 48
      · rw [if_pos h1] at h; exact Or.inl (by simpa using h)
      rw [if_neg h1] at h
      refine Or.inr ⟨d, h0, h1, h, hl, ?_, ?_⟩
      all_goals
        cases d with
        | nil => exact absurd rfl h0
        | cons a d =>
          unfold allDg at h
          rw [List.all_cons, Bool.and_eq_true] at h
          have := h.1
          intro e
          simp at e
          subst e
          revert this; decide
    by_cases hc : c = 45
    · subst hc; exact key r (trim_minus r) (Or.inr rfl)
    · exact key (c :: r) (trim_other r hc) (Or.inl rfl)
theorem signed_or {e : Lib.NumEnd Nat} (h : (∃ u, e = .ok u) ∨ e = .range) : ((∃ v, Lib.signed e = .ok v) ∨ Lib.signed e = .range) ∧ ((∃ v, Lib.signless e = .ok v) ∨ Lib.signless e = .range) := by
  rcases h with ⟨u, rfl⟩ | rfl
  · unfold Lib.signed Lib.signless
    constructor
    all_goals
      simp only
      split
      · exact Or.inr rfl
      · exact Or.inl ⟨_, rfl⟩
  · exact ⟨Or.inr rfl, Or.inr rfl⟩
theorem u8_val_ne {c d : UInt8} (h : c ≠ d) : c.toNat ≠ d.toNat := fun e => h (UInt8.toNat_inj.1 e)
theorem atoi_of_dec {l : List UInt8} (h : decL l = true) : (∃ v, Lib.atoiAll l = .ok v) ∨ Lib.atoiAll l = .range := by
  rcases dec_parts h with rfl | ⟨d, h0, _, h2, h3, h4, h5⟩
  · exact Or.inl ⟨0, by decide⟩
  · have hm := signed_or (mag_digits h0 h2)
    rcases h3 with rfl | rfl
    · cases l with
      | nil => exact absurd rfl h0
      | cons a l =>
        simp at h4 h5
        rw [Lib.atoiAll_plain a l (u8_val_ne h5) (u8_val_ne h4)]; exact hm.2
    · rw [Lib.atoiAll_minus]; exact hm.1
theorem number_ok (s : ByteArray) (w : World) (hs : s.size ≤ 281474976710656) (h : decL s.data.toList = true) (v : Int) (hv : Lib.atoiAll s.data.toList = .ok v) :
    Calls Tryz.prog 103 #[.string s] w fun e w' => e = .returned (num2 (v, 0)) ∧ Below w.heap.size w w' := by
  have HC := Lib.hid (Tryz.strconv_Atoi_ok s (by omega) v hv w)
  clear hv
  go_enter Tryz.func103, Tryz.ntmps103
  go_wp2_with (go_at_call 114; refine (isDecimal_any _ _ (by unfold maxLen; omega)).mono ?_; rintro e w' ⟨rfl, rfl⟩)
  refine HC.out.mono ?_
  rintro e w' ⟨rfl, hw⟩
  have hb : Below w.heap.size w w' := by
    rcases hw with rfl | ⟨t, rfl⟩
    · exact Below.refl _ _
    · exact Lib.bytesWorld_below _ _ _
  clear hw
  go_wp2
  go_ret2
  exact ⟨rfl, hb⟩
theorem number_range (s : ByteArray) (w : World) (hL : Laid w) (hs : s.size ≤ 281474976710656) (h : decL s.data.toList = true) (hv : Lib.atoiAll s.data.toList = .range) :
    Calls Tryz.prog 103 #[.string s] w fun e w' => e = .returned (num2 (0, 4)) ∧ Below w.heap.size w w' := by
  obtain ⟨te, pe, hc⟩ := hL.rng
  have HC := Lib.hid (Tryz.strconv_Atoi_range s hs hv _ w hc (Or.inr ⟨te, pe, rfl⟩))
  clear hv hc
  go_enter Tryz.func103, Tryz.ntmps103
  go_wp2_with (go_at_call 114; refine (isDecimal_any _ _ (by unfold maxLen; omega)).mono ?_; rintro e w' ⟨rfl, rfl⟩)
  refine HC.out.mono ?_
  rintro e w' ⟨N, rfl, _, _, hb⟩
  go_wp2
  go_ret2
  exact ⟨rfl, hb⟩
theorem number_any (s : ByteArray) (w : World) (hL : Laid w) (hs : s.size ≤ 281474976710656) :
    Calls Tryz.prog 103 #[.string s] w fun e w' => e = .returned (num2 (numL s.data.toList)) ∧ Below w.heap.size w w' := by
  unfold numL
  cases h : decL s.data.toList
  · exact number_no s w (by unfold maxLen; omega) h
  · rcases atoi_of_dec h with ⟨v, hv⟩ | hv
    · rw [hv]; exact number_ok s w hs h v hv
    · rw [hv]; exact number_range s w hL hs h hv
end Go.Proofs.YtgicbmibhnnflaaGreatDoor.T1
