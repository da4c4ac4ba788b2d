
/-
  Texts joined: RefQuote RefNumber NB N1Arg N1Dir N1Mem N2.
-/
import Derived.Test.YtieklhplalgmmaaGreatDoorVr3
import Derived.Lib.ItoaLen
import Derived.Test.YtieklhplalgmmaaGreatDoorVr2
import Derived.Test.YtieklhplalgmmaaGreatDoorVr1
import Derived.Shelf.Strings.BuilderK
namespace Go.Proofs.YtieklhplalgmmaaGreatDoor.T1
open Go.RowKit
theorem conv_B (w : World) (xs : Array Value) (l : List UInt8) (k c : Nat) (hk : k = l.length) (hx : xs = (l.map fun c : UInt8 => Value.int .u8 (c.toNat : Int)).toArray) :
    (convert 48 9 (.slice (some ⟨w.heap.size, 0, none⟩) k c)).run Tryz.prog (w.alloc (.cells xs 5)) = .ok (.string ⟨l.toArray⟩) (w.alloc (.cells xs 5)) := by
  subst hk
  exact run_convert_bytes_back _ 48 9 5 _ c l Tryz.underlying48 Tryz.underlying5 Tryz.underlying9 (cells_B w xs _ l hx)
theorem hexC_lo : ∀ n : Fin 10, (48 + (n.val : Int)) = ((hexC n.val).toNat : Int) := by decide +kernel
theorem hexC_hi : ∀ n : Fin 16, 10 ≤ n.val → (87 + (n.val : Int)) = ((hexC n.val).toNat : Int) := by decide +kernel
theorem rhex_any (n : Int) (w : World) (h0 : 0 ≤ n) (h1 : n < 16) :
    Calls Tryz.prog 136 #[.int .u8 n] w fun e w' => e = .returned (.int .u8 ((hexC n.toNat).toNat : Int)) ∧ w = w' := by
  by_cases h : n < 10
  · have e : Hid (48 + n = ((hexC n.toNat).toNat : Int)) := Lib.hid (by
      have := hexC_lo ⟨n.toNat, by omega⟩
      simp only at this; omega)
    go_enter Tryz.func136, Tryz.ntmps136
    go_wp2_with fail
    go_ret
    exact ⟨congrArg Ending.returned (congrArg (Value.int .u8) e.out), rfl⟩
  · have e : Hid (87 + n = ((hexC n.toNat).toNat : Int)) := Lib.hid (by
      have := hexC_hi ⟨n.toNat, by omega⟩ (by simp only; omega)
      simp only at this; omega)
    go_enter Tryz.func136, Tryz.ntmps136
    go_wp2_with fail
    go_ret
    exact ⟨congrArg Ending.returned (congrArg (Value.int .u8) e.out), rfl⟩
theorem below_tr {a b c : World} (h : Below a.heap.size a b) (k : Below b.heap.size b c) : Below a.heap.size a c := h.trans (k.mono h.size)
def StrB (w : World) (l : List UInt8) (e : Ending) (w' : World) : Prop := e = .returned (.string ⟨l.toArray⟩) ∧ Below w.heap.size w w'
theorem resc_const (n : Int) (w : World) (l : List UInt8) (h : (n = 34 ∧ l = [92, 34]) ∨ (n = 92 ∧ l = [92, 92]) ∨ (n = 10 ∧ l = [92, 110]) ∨ (n = 13 ∧ l = [92, 114]) ∨ (n = 9 ∧ l = [92, 116])) :
    Calls Tryz.prog 128 #[.int .u8 n] w (StrB w l) := by
  rcases h with ⟨rfl, rfl⟩ | ⟨rfl, rfl⟩ | ⟨rfl, rfl⟩ | ⟨rfl, rfl⟩ | ⟨rfl, rfl⟩
  all_goals
    go_enter Tryz.func128, Tryz.ntmps128
    go_wp2_with fail
    go_ret
    exact ⟨rfl, Below.refl _ _⟩
theorem resc_plain (c : UInt8) (w : World) (h1 : c ≠ 34) (h2 : c ≠ 92) (h3 : c ≠ 10) (h4 : c ≠ 13) (h5 : c ≠ 9) (hp : prB (c.toNat : Int) = true) :
    Calls Tryz.prog 128 #[.int .u8 c.toNat] w (StrB w [c]) := by
  have hb := byte_lt c
  have g1 : ((c.toNat : Int) == 34) = false := u8_ne h1
  have g2 : ((c.toNat : Int) == 92) = false := u8_ne h2
  have g3 : ((c.toNat : Int) == 10) = false := u8_ne h3
  have g4 : ((c.toNat : Int) == 13) = false := u8_ne h4
  have g5 : ((c.toNat : Int) == 9) = false := u8_ne h5
  unfold prB at hp
  simp only [Bool.and_eq_true, decide_eq_true_eq] at hp
  obtain ⟨p1, p2⟩ := hp
  have hcv := fun w => conv_B w #[.int .u8 (c.toNat : Int)] [c] 1 1 rfl rfl
  go_enter Tryz.func128, Tryz.ntmps128
  go_wp2_with fail
  go_ret
  exact ⟨rfl, (Below.refl _ _).alloc (Nat.le_refl _) _⟩
theorem resc_hex (c : UInt8) (w : World) (h1 : c ≠ 34) (h2 : c ≠ 92) (h3 : c ≠ 10) (h4 : c ≠ 13) (h5 : c ≠ 9) (hp : prB (c.toNat : Int) = false) :
    Calls Tryz.prog 128 #[.int .u8 c.toNat] w (StrB w [92, 117, 48, 48, hexC (c.toNat / 16), hexC (c.toNat % 16)]) := by
  have hb := byte_lt c
  have g1 : ((c.toNat : Int) == 34) = false := u8_ne h1
  have g2 : ((c.toNat : Int) == 92) = false := u8_ne h2
  have g3 : ((c.toNat : Int) == 10) = false := u8_ne h3
  have g4 : ((c.toNat : Int) == 13) = false := u8_ne h4
  have g5 : ((c.toNat : Int) == 9) = false := u8_ne h5
  have p : (c.toNat : Int) < 32 ∨ 126 < (c.toNat : Int) := by unfold prB at hp; simp at hp; omega
  clear hp
  have hcv := fun w => conv_B w #[.int .u8 ((hexC (c.toNat / 16)).toNat : Int), .int .u8 ((hexC (c.toNat % 16)).toNat : Int)] [hexC (c.toNat / 16), hexC (c.toNat % 16)] 2 2 rfl rfl
  have e1 : ((c.toNat : Int) / 16).toNat = c.toNat / 16 := by omega
  have e2 : ((c.toNat : Int) % 16).toNat = c.toNat % 16 := by omega
  rcases p with p | p
  all_goals
    go_enter Tryz.func128, Tryz.ntmps128
    go_wp2_with fail
    refine (rhex_any _ _ (by omega) (by omega)).mono ?_
    rintro e w1 ⟨rfl, rfl⟩
    go_wp2_with fail
    refine (rhex_any _ _ (by omega) (by omega)).mono ?_
    rintro e w1 ⟨rfl, rfl⟩
    go_wp2_with fail
    go_ret
    exact ⟨rfl, (Below.refl _ _).alloc (Nat.le_refl _) _⟩
theorem resc_any (c : UInt8) (w : World) :
    Calls Tryz.prog 128 #[.int .u8 c.toNat] w (StrB w (escL c)) := by
  unfold escL
  by_cases h1 : c = 34
  · subst h1; exact resc_const 34 w _ (by simp)
  by_cases h2 : c = 92
  · subst h2; exact resc_const 92 w _ (by simp)
  by_cases h3 : c = 10
  · subst h3; exact resc_const 10 w _ (by simp)
  by_cases h4 : c = 13
  · subst h4; exact resc_const 13 w _ (by simp)
  by_cases h5 : c = 9
  · subst h5; exact resc_const 9 w _ (by simp)
  rw [if_neg h1, if_neg h2, if_neg h3, if_neg h4, if_neg h5]
  cases hp : prB (c.toNat : Int)
  · exact resc_hex c w h1 h2 h3 h4 h5 hp
  · exact resc_plain c w h1 h2 h3 h4 h5 hp
theorem add_L (w : World) (a b : List UInt8) (h : a.length + b.length ≤ 9223372036854775807) :
    (Op.stringOp .add ⟨a.toArray⟩ ⟨b.toArray⟩).run Tryz.prog w = .ok (.string ⟨(a ++ b).toArray⟩) w := by
  rw [run_string_add_sum w _ _ (by simp [ByteArray.size]; omega), ByteArray.mk_append_mk]
def QuoteAt (l : List UInt8) (k : Nat) (a : List UInt8) : Prop := a = 34 :: (l.take k).flatMap escL
theorem quoteAt_len {l a : List UInt8} {k : Nat} (h : QuoteAt l k a) : a.length ≤ 6 * k + 1 := by
  unfold QuoteAt at h
  have h1 := flat_len (l.take k)
  have h2 : (l.take k).length ≤ k := List.length_take_le _ _
  rw [h, List.length_cons]; omega
theorem quoteAt_succ {l a : List UInt8} {k : Nat} (h : QuoteAt l k a) (hk : k < l.length) : QuoteAt l (k + 1) (a ++ escL l[k]) := by
  unfold QuoteAt at h ⊢
  rw [h, take_snoc l k hk, List.flatMap_append]
  simp only [List.flatMap_cons, List.flatMap_nil, List.append_nil, List.cons_append]
theorem quoteAt_end {l a : List UInt8} (h : QuoteAt l l.length a) : a ++ [34] = quoteL l := by
  unfold QuoteAt at h
  rw [List.take_length] at h
  rw [h]; rfl
theorem rquote_any (s : ByteArray) (w : World) (hs : s.size ≤ 1099511627776) :
    Calls Tryz.prog 109 #[.string s] w (StrB w (quoteL s.data.toList)) := by
  have hl := Lib.hid (size_eq s)
  go_enter Tryz.func109, Tryz.ntmps109
  go_wp2_with fail
  go_loopw [3, 4] (fun v i wr => ∃ (k : Nat) (a : List UInt8), k ≤ s.size ∧ i = .int .i64 k ∧ v = .string ⟨a.toArray⟩ ∧ QuoteAt s.data.toList k a ∧ Below w.heap.size w wr) (fun _ i _ => s.size - (intOf i).toNat)
  case atStart => exact ⟨0, [34], Nat.zero_le _, rfl, rfl, rfl, Below.refl _ _⟩
  case round =>
    obtain ⟨k, a, hk, rfl, rfl, hq, hb⟩ := hrel
    have hal := quoteAt_len hq
    have HB := Lib.hid hb
    clear hb
    by_cases hlt : k < s.size
    · have hlk : k < s.data.toList.length := by rw [hl.out]; exact hlt
      have hqs : QuoteAt s.data.toList (k + 1) (a ++ escL s[k]) := quoteAt_succ hq hlk
      have hel := esc_len s[k]
      have hadd := fun w => add_L w a (escL s[k]) (by omega)
      clear hq
      go_wp2_with fail
      refine (resc_any _ _).mono ?_
      rintro e w1 ⟨rfl, hb1⟩
      go_wp2
      go_roundw
      case rel => exact ⟨k + 1, a ++ escL s[k], by omega, by go_num, rfl, hqs, below_tr HB.out hb1⟩
      case measure => simp [intOf]; omega
    · obtain rfl : k = s.size := by omega
      have he := Lib.hid (quoteAt_end (l := s.data.toList) (by rw [hl.out]; exact hq))
      have hadd := fun w => add_L w a [34] (by simp; omega)
      clear hq
      go_wp2
      go_ret
      exact ⟨by rw [← he.out]; rfl, HB.out⟩
end Go.Proofs.YtieklhplalgmmaaGreatDoor.T1
namespace Go.Proofs.YtieklhplalgmmaaGreatDoor.T1
open Go.RowKit
theorem digit_byte {x : Nat} (h : x < 10) : (UInt8.ofNat (48 + x)).toNat = 48 + x := by rw [UInt8.toNat_ofNat']; omega
theorem nDig_le (u : Nat) : (Lib.decDigits u).length ≤ u / 2 + 1 := by
  induction u using Nat.strongRecOn with
  | _ u ih =>
    by_cases h : u < 10
    · rw [Lib.decDigits_one h]; simp
    · rw [Lib.decDigits, dif_neg h, List.length_append]
      have := ih (u / 10) (by omega)
      simp; omega
theorem tmod_neg (u : Nat) : (-(u : Int)).tmod 10 = -((u % 10 : Nat) : Int) := by
  rw [Int.neg_tmod]; congr 1
theorem tdiv_neg (u : Nat) : (-(u : Int)).tdiv 10 = -((u / 10 : Nat) : Int) := by
  rw [Int.neg_tdiv]; congr 1
theorem rdigits_any (u : Nat) : ∀ (n : Int) (w : World), u ≤ 9223372036854775808 → n = -(u : Int) →
    Calls Tryz.prog 127 #[.int .i64 n] w (StrB w (Lib.decDigits u)) := by
  induction u using Nat.strongRecOn with
  | _ u ih =>
    intro n w hu hn
    have b0 : n ≤ 0 := by omega
    have b1 : -9223372036854775808 ≤ n := by omega
    have e1 : n.tmod 10 = -((u % 10 : Nat) : Int) := by rw [hn]; exact tmod_neg u
    have e2 : n.tdiv 10 = -((u / 10 : Nat) : Int) := by rw [hn]; exact tdiv_neg u
    have hb := digit_byte (x := u % 10) (by omega)
    have hdd : Lib.decDigits u = if u < 10 then [UInt8.ofNat (48 + u % 10)] else Lib.decDigits (u / 10) ++ [UInt8.ofNat (48 + u % 10)] := by
      by_cases h : u < 10
      · rw [if_pos h, Lib.decDigits_one h, Nat.mod_eq_of_lt h]
      · rw [if_neg h]; conv => lhs; rw [Lib.decDigits, dif_neg h]
    generalize UInt8.ofNat (48 + u % 10) = b at *
    have hcv := fun w => conv_B w #[.int .u8 (48 + (u : Int) % 10)] [b] 1 1 rfl (by rw [List.map_cons, hb]; rfl)
    have HDD := Lib.hid hdd
    clear hdd
    have IH := Lib.hid ih
    clear ih hb
    by_cases h : u < 10
    · have hd : Hid (Lib.decDigits u = [b]) := Lib.hid (by rw [HDD.out, if_pos h])
      have h' : -10 < n := by omega
      clear hn
      go_enter Tryz.func127, Tryz.ntmps127
      go_wp2_with fail
      go_ret
      exact ⟨by rw [hd.out]; rfl, (Below.refl _ _).alloc (Nat.le_refl _) _⟩
    · have hd : Hid (Lib.decDigits u = Lib.decDigits (u / 10) ++ [b]) := Lib.hid (by rw [HDD.out, if_neg h])
      have h' : n ≤ -10 := by omega
      have hl := nDig_le (u / 10)
      have hadd := fun w => add_L w (Lib.decDigits (u / 10)) [b] (by simp; omega)
      clear hn
      go_enter Tryz.func127, Tryz.ntmps127
      go_wp2_with fail
      refine (IH.out (u / 10) (by omega) _ _ (by omega) (by omega)).mono ?_
      rintro e w2 ⟨rfl, hb2⟩
      have HB := Lib.hid (((Below.refl w.heap.size w).alloc (Nat.le_refl _) _).trans (hb2.mono (by simp)))
      clear hb2
      go_wp2_with fail
      go_ret
      exact ⟨by rw [hd.out]; rfl, HB.out⟩
theorem rdecimal_any (n : Int) (w : World) (h0 : -9223372036854775808 ≤ n) (h1 : n ≤ 9223372036854775807) :
    Calls Tryz.prog 108 #[.int .i64 n] w (StrB w (Lib.itoa n)) := by
  by_cases h : n < 0
  · have e : Hid (Lib.itoa n = [45] ++ Lib.decDigits n.natAbs) := Lib.hid (by unfold Lib.itoa; rw [if_pos h]; rfl)
    have hl := nDig_le n.natAbs
    have hadd := fun w => add_L w [45] (Lib.decDigits n.natAbs) (by simp; omega)
    go_enter Tryz.func108, Tryz.ntmps108
    go_wp2_with fail
    refine (rdigits_any n.natAbs _ _ (by omega) (by omega)).mono ?_
    rintro e w2 ⟨rfl, hb2⟩
    have HB := Lib.hid hb2
    clear hb2
    go_wp2_with fail
    go_ret
    exact ⟨by rw [e.out]; rfl, HB.out⟩
  · have e : Hid (Lib.itoa n = Lib.decDigits n.toNat) := Lib.hid (by unfold Lib.itoa; rw [if_neg h])
    have h' : 0 ≤ n := by omega
    clear h
    go_enter Tryz.func108, Tryz.ntmps108
    go_wp2_with fail
    refine (rdigits_any n.toNat _ _ (by omega) (by omega)).mono ?_
    rintro e2 w2 ⟨rfl, hb2⟩
    have HB := Lib.hid hb2
    clear hb2
    go_wp2_with fail
    go_ret
    exact ⟨by rw [e.out]; rfl, HB.out⟩
end Go.Proofs.YtieklhplalgmmaaGreatDoor.T1
namespace Go.Proofs.YtieklhplalgmmaaGreatDoor
open Go.RowKit
abbrev pp (b : Nat) : Value := .pointer (some ⟨b, 0, none⟩)
abbrev PAt (B b : Nat) (p : Value) (bs : List Value) (w : World) : Prop := Lib.BuilderAtF 52 5 B b p bs w
abbrev PB (B b : Nat) (l : List UInt8) (w : World) : Prop := Lib.IsBuilderF 52 5 B b (Lib.byteCells l) w
structure Wr (B b : Nat) (w w' : World) : Prop where
  below : Below B w w'
  others : Lib.OthersKept 5 (some b) w w'
theorem Wr.refl (B b : Nat) (w : World) : Wr B b w w := ⟨Below.refl _ _, Lib.OthersKept.refl _ _ _⟩
theorem lies_pt : liesAt Tryz.prog Tryz.prog.depth 52 (2 / Tryz.prog.cellsOf 52) 0 50 1 = true := by kernel_rfl
theorem size_bu : ((Tryz.prog.info? 50).map fun i => decide (i.size ≠ 0)) = some true := by kernel_rfl
set_option maxRecDepth 100000 in
set_option maxHeartbeats 1000000 in
theorem check_any (B b : Nat) (bs : List Value) (w : World) (h : Lib.IsBuilderF 52 5 B b bs w) :
    Calls Tryz.prog 84 #[pp b] w fun e w' => e = .returned (.tuple #[]) ∧ PAt B b (pp b) bs w' ∧ Wr B b w w' := by
  obtain ⟨j, hj, hjs⟩ := Option.map_eq_some_iff.1 size_bu
  rcases h with h | h
  · have h0 := h.cell0
    have hf := h.frozen0
    have hs := Lib.hid h.shape
    have HH := Lib.hid h
    clear h
    go_enter Tryz.func84, Tryz.ntmps84
    go_wp2
    rw [Lib.run_to_unsafe w ⟨b, 0, none⟩ Tryz.underlying47 Tryz.underlying132 hj (by simpa using hjs) hs.out (Nat.zero_lt_succ 1)]
    simp only [Result.andThen]
    rw [Oper.upon_value]
    go_wp2
    rw [run_callFunc_extern Tryz.func100 (by kernel_rfl) (by kernel_rfl) (by kernel_rfl) (e := Extern.AbiNoEscape.same) (by kernel_rfl)]
    rw [Lib.run_noEscape]
    simp only [Result.andThen]
    rw [Oper.upon_value]
    go_wp2
    rw [Lib.run_from_unsafe w ⟨b, 0, none⟩ Tryz.underlying132 Tryz.underlying47 hj hs.out lies_pt]
    simp only [Result.andThen]
    rw [Oper.upon_value]
    go_wp2
    go_end0
    exact ⟨rfl, HH.out.used _, (Below.refl B w).setCell (p := ⟨b, 0, none⟩) HH.out.1 _, (Lib.OthersKept.refl _ _ w).setCell ⟨b, 0, none⟩ rfl _⟩
  · have h0 := h.cell0
    have HH := Lib.hid h
    clear h
    go_enter Tryz.func84, Tryz.ntmps84
    go_wp2
    rw [Lib.run_neq_ptr_same w _ Tryz.underlying47 hj]
    go_wp2
    go_end0
    exact ⟨rfl, HH.out, Wr.refl _ _ _⟩
theorem Wr.trans {B b : Nat} {w w' w'' : World} (h : Wr B b w w') (h2 : Wr B b w' w'') : Wr B b w w'' := ⟨h.below.trans h2.below, h.others.trans h2.others⟩
theorem Wr.alloc {B b : Nat} {w w' : World} (h : Wr B b w w') (hB : B ≤ w.heap.size) (o : Obj) : Wr B b w (w'.alloc o) := ⟨h.below.alloc (Nat.le_trans hB h.below.size) o, h.others.alloc o⟩
set_option maxRecDepth 100000 in
set_option maxHeartbeats 2000000 in
theorem write_any (B b : Nat) (l : List UInt8) (s : ByteArray) (w : World) (h : PB B b l w) (hl : l.length + s.size ≤ 140737488355328) (hB : B ≤ w.heap.size) :
    Calls Tryz.prog 63 #[pp b, .string s] w fun e w' => e = .returned (.tuple #[.int .i64 s.size, .nilIface]) ∧ PB B b (l ++ bL s) w' ∧ Wr B b w w' := by
  obtain ⟨i0, hi, hz0, hz1, hz2⟩ := info_parts T1.info5
  have CH := Lib.hid (check_any B b (Lib.byteCells l) w h)
  go_enter Tryz.func63, Tryz.ntmps63
  go_wp2_with fail
  refine CH.out.mono ?_
  rintro e w1 ⟨rfl, hp1, hw1⟩
  have HW1 := Lib.hid hw1
  have hs1 := hw1.below.size
  clear hw1 CH
  obtain ⟨hBb, v, hbk, hown, hne⟩ := hp1
  have HBK := Lib.hid hbk
  have HOW := Lib.hid hown
  have HNE := Lib.hid hne
  have c1 : w1.cell? ⟨b, 1, none⟩ = some v := by rw [Lib.cell_of_heap hbk]; rfl
  have hlb : (Lib.byteCells l).length = l.length := Lib.byteCells_length l
  clear hbk hown hne
  go_wp2_with (at_builtin; refine Lib.wpList_append_own_stringF _ rfl _ _ 48 9 rfl B 5 i0 Tryz.underlying48 Tryz.underlying9 hi hz0 hz1 hz2 _ _ _ rfl HOW.out s rfl ?_ ?_ ?_ ?_)
  · rw [hlb]; unfold maxLen; omega
  · rw [hlb]; omega
  · omega
  · intro v' w2 ho2 hg2 _
    have HO2 := Lib.hid ho2
    have HG2 := Lib.hid hg2
    have hbl : b < w1.heap.size := Bk.lt HBK.out
    have hb2 : Bk w2 b #[pp b, v] 52 := (hg2.block b hbl (fun e => HNE.out e.symm)).trans HBK.out
    have HB2 := Lib.hid hb2
    have d1 := hb2.cell 1 v rfl
    have d0 := hb2.cell 0 _ rfl
    have f1 := hb2.frz 1
    obtain ⟨a2, n2, c2, rfl⟩ : ∃ a2 n2 c2, v' = .slice a2 n2 c2 := by
      rcases ho2.2 with ⟨hv, _⟩ | ⟨g, cap, cur, fz, hv, _⟩
      · exact ⟨_, _, _, hv⟩
      · exact ⟨_, _, _, hv⟩
    clear ho2 hg2 hb2 hbl
    go_wp2_with fail
    go_ret2
    have e1 : Lib.byteCells l ++ Lib.strCells s = Lib.byteCells (l ++ bL s) := by simp [Lib.byteCells, Lib.strCells, bL]
    refine ⟨rfl, .inr ?_, HW1.out.below.trans ?_, HW1.out.others.trans ?_⟩
    · rw [← e1]
      exact Lib.BuilderAtF.put hBb HB2.out (by have := HO2.out; rw [List.length_append, Lib.strCells_length, hlb]; exact this) (by decide)
    · exact ((Below.refl B w1).grown HG2.out (by omega) (fun k hk => (HOW.out.lt k hk).1)).setCell (p := ⟨b, 1, none⟩) hBb _
    · exact ((Lib.OthersKept.refl _ _ w1).grown HG2.out (Lib.ownsRowF_kind HOW.out)).setCell ⟨b, 1, none⟩ rfl _
theorem PB.alloc {B b : Nat} {l : List UInt8} {w : World} (h : PB B b l w) (o : Obj) : PB B b l (w.alloc o) := h.imp (fun x => x.alloc o) (fun x => x.alloc o)
theorem PB.lt {B b : Nat} {l : List UInt8} {w : World} (h : PB B b l w) : b < w.heap.size := h.elim (fun x => x.lt) (fun x => x.lt)
theorem PB.le {B b : Nat} {l : List UInt8} {w : World} (h : PB B b l w) : B ≤ b := h.elim (fun x => x.1) (fun x => x.1)
theorem PB.kept {B b : Nat} {l : List UInt8} {w w' : World} (h : PB B b l w) (hb : Below w.heap.size w w') : PB B b l w' := by
  have key : ∀ {p : Value}, PAt B b p (Lib.byteCells l) w → PAt B b p (Lib.byteCells l) w' := by
    intro p h
    have hlt := h.lt
    obtain ⟨hB, v, hbk, hown, hne⟩ := h
    refine ⟨hB, v, (hb.block b hlt).trans hbk, ⟨hown.1, hown.2.imp id ?_⟩, hne⟩
    rintro ⟨g, cap, cur, fz, e1, e2, e3, r⟩
    have hg : g < w.heap.size := by
      rcases Nat.lt_or_ge g w.heap.size with h' | h'
      · exact h'
      · rw [Array.getElem?_eq_none h'] at e3; cases e3
    exact ⟨g, cap, cur, fz, e1, e2, (hb.block g hg).trans e3, r⟩
  exact h.imp key key
theorem Bk.wr {W W' : World} {B b k : Nat} {cs : Array Value} {T : TypeId} (h : Bk W k cs T) (hw : Wr B b W W') (hk : k ≠ b) (hT : T ≠ 5) : Bk W' k cs T :=
  hw.others k _ h (fun e => hk (Option.some.inj e)) (fun c fz e => by injection e with _ e2 _; exact absurd e2 hT)
def LaidB (B : Nat) (w : World) : Prop := ∀ w', Below B w w' → T1.Laid w'
theorem LaidB.kept {B : Nat} {w w' : World} (h : LaidB B w) (hb : Below B w w') : LaidB B w' := fun w2 h2 => h w2 (hb.trans h2)
theorem LaidB.is {B : Nat} {w : World} (h : LaidB B w) : T1.Laid w := h w (Below.refl _ _)
def PP (B b : Nat) (l a : List UInt8) (w : World) (e : Ending) (w' : World) : Prop := e = .returned (.tuple #[]) ∧ PB B b (l ++ a) w' ∧ Wr B b w w'
theorem flat_take {xs : List ByteArray} {i : Nat} {s : ByteArray} (h : xs[i]? = some s) : ((xs.take (i + 1)).map bL).flatten = ((xs.take i).map bL).flatten ++ bL s := by
  rw [take_sn h, List.map_append, List.flatten_append]; simp
theorem flat_le (xs : List ByteArray) (i : Nat) : ((xs.take i).map bL).flatten.length ≤ (xs.map bL).flatten.length := by
  have : (xs.map bL).flatten = ((xs.take i).map bL).flatten ++ ((xs.drop i).map bL).flatten := by rw [← List.flatten_append, ← List.map_append, List.take_append_drop]
  rw [this, List.length_append]; omega
set_option maxRecDepth 100000 in
set_option maxHeartbeats 1000000 in
theorem put_any (ps : List ByteArray) (B b r : Nat) (l : List UInt8) (w : World) (hr : Bk w r (ps.map Value.string).toArray 9) (hrb : r ≠ b) (h : PB B b l w) (n : Nat) (hn : ps.length = n) (hs : n ≤ 100000)
    (hl : l.length + (ps.map bL).flatten.length ≤ 140737488355328) (hB : B ≤ w.heap.size) :
    Calls Tryz.prog 29 #[pp b, .slice (some ⟨r, 0, none⟩) n n] w (PP B b l (ps.map bL).flatten w) := by
  have HR := Lib.hid hr
  have HP := Lib.hid h
  have HN := Lib.hid hn
  have HLL := Lib.hid hl
  have hni : (n : Int) ≤ 100000 := by omega
  clear hr h hn hl
  go_enter Tryz.func29, Tryz.ntmps29
  go_wp2_with fail
  go_loopw [8] (fun v wr => ∃ i : Nat, i ≤ n ∧ v = .int .i64 i ∧ Hid (PB B b (l ++ ((ps.take i).map bL).flatten) wr ∧ Wr B b w wr)) (fun v _ => n - (intOf v).toNat)
  case atStart => exact ⟨0, Nat.zero_le _, rfl, Lib.hid ⟨by simpa using HP.out, Wr.refl _ _ _⟩⟩
  case round =>
    obtain ⟨i, hi, rfl, hr⟩ := hrel
    by_cases hlt : i < n
    · obtain ⟨s, hx⟩ : ∃ s, ps[i]? = some s := ⟨_, List.getElem?_eq_getElem (by rw [HN.out]; exact hlt)⟩
      have HX := Lib.hid hx
      have c0 : wr.cell? ⟨r, i, none⟩ = some (.string s) := (HR.out.wr hr.out.2 hrb (by decide)).cell i (.string s) (by simp [hx])
      have hsz := hr.out.2.below.size
      have hfl := flat_le ps (i + 1)
      rw [flat_take hx, List.length_append, bL_len] at hfl
      have hll := HLL.out
      have CALL := Lib.hid (write_any B b (l ++ ((ps.take i).map bL).flatten) s wr hr.out.1 (by rw [List.length_append]; omega) (by omega))
      clear hx hfl hll
      go_wp2_with fail
      refine CALL.out.mono ?_
      rintro e w1 ⟨rfl, hp1, hw1⟩
      have HP1 : Hid (PB B b (l ++ ((ps.take (i + 1)).map bL).flatten) w1) := Lib.hid (by rw [flat_take HX.out, ← List.append_assoc]; exact hp1)
      have HW1 := Lib.hid (hr.out.2.trans hw1)
      clear hp1 hw1
      go_wp2_with fail
      go_roundw
      case rel => exact ⟨i + 1, by omega, by go_num, Lib.hid ⟨HP1.out, HW1.out⟩⟩
      case measure => simp [intOf]; omega
    · have : i = n := by omega
      subst this
      have HF : Hid (PB B b (l ++ (ps.map bL).flatten) wr) := Lib.hid (by have := hr.out.1; rwa [List.take_of_length_le (by rw [HN.out]; exact Nat.le_refl _)] at this)
      go_wp2_with fail
      go_end0
      exact ⟨rfl, HF.out, hr.out.2⟩
theorem PP.of {B b : Nat} {l a : List UInt8} {w w0 : World} {e : Ending} {w' : World} (h : PP B b l a w e w') (hw : Wr B b w0 w) : PP B b l a w0 e w' := ⟨h.1, h.2.1, hw.trans h.2.2⟩
theorem put1 (x : ByteArray) (B b r : Nat) (l : List UInt8) (w : World) (hr : w.heap.size = r) (h : PB B b l w) (hl : l.length + x.size ≤ 140737488355328) (hB : B ≤ w.heap.size) :
    Calls Tryz.prog 29 #[pp b, .slice (some ⟨r, 0, none⟩) 1 1] (w.alloc (.cells #[.string x] 9 (0, 0))) (PP B b l (bL x) w) := by
  subst hr
  have h1 := put_any [x] B b w.heap.size l _ (Bk.new w #[.string x] 9) (by have := h.lt; omega) (h.alloc _) 1 rfl (by omega) (by simp [bL_len]; omega) (by simp; omega)
  refine h1.mono ?_
  intro e w' h2
  have h3 := h2.of ((Wr.refl B b w).alloc hB _)
  simpa using h3
theorem put2 (x y : ByteArray) (B b r : Nat) (l : List UInt8) (w : World) (hr : w.heap.size = r) (h : PB B b l w) (hl : l.length + x.size + y.size ≤ 140737488355328) (hB : B ≤ w.heap.size) :
    Calls Tryz.prog 29 #[pp b, .slice (some ⟨r, 0, none⟩) 2 2] (w.alloc (.cells #[.string x, .string y] 9 (0, 0))) (PP B b l (bL x ++ bL y) w) := by
  subst hr
  have h1 := put_any [x, y] B b w.heap.size l _ (Bk.new w #[.string x, .string y] 9) (by have := h.lt; omega) (h.alloc _) 2 rfl (by omega) (by simp [bL_len]; omega) (by simp; omega)
  refine h1.mono ?_
  intro e w' h2
  have h3 := h2.of ((Wr.refl B b w).alloc hB _)
  simpa using h3
theorem put3 (x y z : ByteArray) (B b r : Nat) (l : List UInt8) (w : World) (hr : w.heap.size = r) (h : PB B b l w) (hl : l.length + x.size + y.size + z.size ≤ 140737488355328) (hB : B ≤ w.heap.size) :
    Calls Tryz.prog 29 #[pp b, .slice (some ⟨r, 0, none⟩) 3 3] (w.alloc (.cells #[.string x, .string y, .string z] 9 (0, 0))) (PP B b l (bL x ++ (bL y ++ bL z)) w) := by
  subst hr
  have h1 := put_any [x, y, z] B b w.heap.size l _ (Bk.new w #[.string x, .string y, .string z] 9) (by have := h.lt; omega) (h.alloc _) 3 rfl (by omega) (by simp [bL_len]; omega) (by simp; omega)
  refine h1.mono ?_
  intro e w' h2
  have h3 := h2.of ((Wr.refl B b w).alloc hB _)
  simpa using h3
def Prints (B b : Nat) (W : World) (F : Nat) (v : Value) (a : List UInt8) : Prop := ∀ l, PB B b l W → LaidB B W → l.length + a.length ≤ 140737488355328 → B ≤ W.heap.size → Calls Tryz.prog F #[pp b, v] W (PP B b l a W)
def ValR (w : World) (B : Nat) (f : Nat → Value) (x : VT) : Prop := Rd w B (.agg #[f 0, f 1, f 2, f 3, f 4]) x
def ValsR (w : World) (B : Nat) (v : Value) (xs : List VT) : Prop :=
  ∃ A c, v = .slice A xs.length c ∧ True ∧ xs.length * 80 ≤ big ∧ ∃ V : Nat → Nat → Value,
    (0 < xs.length → ∃ a, A = some a ∧ a.block < B ∧ ∀ i, i < xs.length → ∀ j, j < 5 → w.cell? (at_ (a.add (i * 5)) j) = some (V i j)) ∧ ∀ i x, xs[i]? = some x → ValR w B (V i) x
theorem ValR.stays : Stays ValR := ⟨fun h hb => Rd.kept h hb, fun h hb => Rd.mono h hb⟩
end Go.Proofs.YtieklhplalgmmaaGreatDoor
namespace Go.Proofs.YtieklhplalgmmaaGreatDoor
open Go.RowKit
set_option maxRecDepth 100000 in
set_option maxHeartbeats 2000000 in
theorem sepArg_any (B b : Nat) (xs : List (ByteArray × VT)) (tx : (ByteArray × VT) → List UInt8) (hF : ∀ x ∈ xs, ∀ (f : Nat → Value) (W : World), ArgR W B f x → Prints B b W 103 (.agg #[f 0, f 1, f 2, f 3, f 4, f 5]) (tx x))
    (sep : ByteArray) (v : Value) (l : List UInt8) (w : World) (h : ArgsR w B v xs) (hp : PB B b l w) (hL : LaidB B w) (hl : l.length + (jn (bL sep) (xs.map tx)).length ≤ 140737488355328) (hB : B ≤ w.heap.size) :
    Calls Tryz.prog 102 #[pp b, v, .string sep, .func (.func 103) #[pp b] #[]] w (PP B b l (jn (bL sep) (xs.map tx)) w) := by
  obtain ⟨A, c, rfl, hc, hbg, V, hA, hr⟩ := h
  unfold big at hbg
  obtain ⟨len, hlen⟩ : ∃ len, xs.length = len := ⟨_, rfl⟩
  rw [hlen] at hA hbg ⊢
  have hlm : (len : Int) ≤ 140737488351232 := by omega
  have HLEN := Lib.hid hlen
  have HF := Lib.hid hF
  have HA := Lib.hid hA
  have HR := Lib.hid hr
  have HP := Lib.hid hp
  have HL := Lib.hid hL
  have HLL := Lib.hid hl
  have HBB := Lib.hid hB
  clear hlen hF hA hr hp hL hl hc hbg
  go_enter Tryz.func102, Tryz.ntmps102
  go_wp2_with fail
  go_loopw [12] (fun u wr => ∃ i : Nat, i ≤ len ∧ u = .int .i64 i ∧ Hid (PB B b (l ++ jn (bL sep) ((xs.take i).map tx)) wr ∧ Wr B b w wr)) (fun u _ => len - (intOf u).toNat)
  case atStart => exact ⟨0, Nat.zero_le _, rfl, Lib.hid ⟨by simpa [jn] using HP.out, Wr.refl _ _ _⟩⟩
  case round =>
    obtain ⟨i, hi, rfl, hr⟩ := hrel
    by_cases hlt : i < len
    · obtain ⟨x, hxi⟩ : ∃ x, xs[i]? = some x := ⟨_, List.getElem?_eq_getElem (by rw [HLEN.out]; exact hlt)⟩
      have hlt' : (i : Int) < len := by omega
      have HXI := Lib.hid hxi
      have hx : ArgR wr B (V i) x := ArgR.stays.kept (HR.out i x hxi) hr.out.2.below
      have HF1 := Lib.hid (HF.out x (List.mem_of_getElem? hxi))
      obtain ⟨a, rfl, ha, hc0⟩ := HA.out (by omega)
      have hcc : ∀ j, j < 6 → wr.cell? (at_ (a.add (i * 6)) j) = some (V i j) := fun j hj => (hr.out.2.below.cell (by rw [at_block, add_block]; exact ha)).trans (hc0 i hlt j hj)
      have k0 : wr.cell? (a.add (i * 6)) = some (V i 0) := hcc 0 (by omega)
      have k1 : wr.cell? ⟨((a.add (i * 6))).block, ((a.add (i * 6))).off + 1, none⟩ = some (V i 1) := hcc 1 (by omega)
      have k2 : wr.cell? ⟨((a.add (i * 6))).block, ((a.add (i * 6))).off + 2, none⟩ = some (V i 2) := hcc 2 (by omega)
      have k3 : wr.cell? ⟨((a.add (i * 6))).block, ((a.add (i * 6))).off + 3, none⟩ = some (V i 3) := hcc 3 (by omega)
      have k4 : wr.cell? ⟨((a.add (i * 6))).block, ((a.add (i * 6))).off + 4, none⟩ = some (V i 4) := hcc 4 (by omega)
      have k5 : wr.cell? ⟨((a.add (i * 6))).block, ((a.add (i * 6))).off + 5, none⟩ = some (V i 5) := hcc 5 (by omega)
      obtain ⟨k, n, s, VA, vli, vci, VK, vlk, vck, e1, e2, e3, e4, e5⟩ := Rd.form hx.val
      have e0 := hx.name
      rw [e0] at k0
      rw [e1] at k1
      rw [e2] at k2
      rw [e3] at k3
      rw [e4] at k4
      rw [e5] at k5
      have HX := Lib.hid hx
      have HE : Hid (#[V i 0, V i 1, V i 2, V i 3, V i 4, V i 5] = #[.string x.1, .int .i64 k, .int .i64 n, .string s, .slice VA vli vci, .slice VK vlk vck]) := Lib.hid (by rw [e0, e1, e2, e3, e4, e5])
      clear hc0 hcc hx hxi e0 e1 e2 e3 e4 e5
      have hsz := hr.out.2.below.size
      have HT : Hid ((xs.map tx)[i]? = some (tx x)) := Lib.hid (by rw [List.getElem?_map, HXI.out]; rfl)
      have HST := Lib.hid (jn_step_le (bL sep) HT.out)
      have HTK : Hid (jn (bL sep) ((xs.take (i + 1)).map tx) = jn (bL sep) ((xs.take i).map tx) ++ ((if i = 0 then [] else bL sep) ++ tx x)) := Lib.hid (by
        rw [List.map_take, List.map_take]; exact jn_take (bL sep) HT.out)
      have HMT : Hid ((xs.map tx).take i = (xs.take i).map tx) := Lib.hid (by rw [List.map_take])
      have HB1 : Hid (Wr B b w (wr.alloc (.cells #[.string x.1, .int .i64 k, .int .i64 n, .string s, .slice VA vli vci, .slice VK vlk vck] 97 (0, 0)))) := Lib.hid (hr.out.2.alloc HBB.out _)
      have HX1 : Hid (ArgR (wr.alloc (.cells #[.string x.1, .int .i64 k, .int .i64 n, .string s, .slice VA vli vci, .slice VK vlk vck] 97 (0, 0))) B (V i) x) := Lib.hid (ArgR.stays.kept HX.out ((Below.refl B wr).alloc (by omega) _))
      have HP1 := Lib.hid (hr.out.1.alloc (.cells #[.string x.1, .int .i64 k, .int .i64 n, .string s, .slice VA vli vci, .slice VK vlk vck] 97 (0, 0)))
      have HK1 := Lib.hid (Bk.new wr #[.string x.1, .int .i64 k, .int .i64 n, .string s, .slice VA vli vci, .slice VK vlk vck] 97)
      have hbw := hr.out.1.lt
      by_cases hi0 : i = 0
      · have hi0' : ¬ (i : Int) > 0 := by omega
        have HI0 := Lib.hid hi0
        have CALL := Lib.hid (HF1.out (V i) _ HX1.out _ HP1.out (HL.out.kept HB1.out.below) (by
          have h1 := HST.out; rw [HMT.out, if_pos HI0.out] at h1; have h2 := HLL.out; simp only [List.length_append, List.length_nil] at h1 ⊢; omega) (Nat.le_trans HBB.out HB1.out.below.size))
        rw [HE.out] at CALL
        clear hi0
        go_wp2_with fail
        refine CALL.out.mono ?_
        rintro e w5 ⟨rfl, hp5, hw5⟩
        have HP5 : Hid (PB B b (l ++ jn (bL sep) ((xs.take (i + 1)).map tx)) w5) := Lib.hid (by rw [HTK.out, if_pos HI0.out, List.nil_append, ← List.append_assoc]; exact hp5)
        have HW5 := Lib.hid (HB1.out.trans hw5)
        clear hp5 hw5 CALL
        go_wp2_with fail
        go_roundw
        case rel => exact ⟨i + 1, by omega, by go_num, Lib.hid ⟨HP5.out, HW5.out⟩⟩
        case measure => simp [intOf]; omega
      · have hi0' : (i : Int) > 0 := by omega
        have HI0 := Lib.hid hi0
        clear hi0
        go_wp2_with fail
        refine (put1 sep B b _ _ _ (by simp) HP1.out (by
          have h1 := HST.out; rw [HMT.out, if_neg HI0.out] at h1; have h2 := HLL.out; simp only [List.length_append, bL_len] at h1 h2 ⊢; omega) (Nat.le_trans HBB.out HB1.out.below.size)).mono ?_
        rintro e w4 ⟨rfl, hp4, hw4⟩
        have HP4 := Lib.hid hp4
        have HW4 := Lib.hid (HB1.out.trans hw4)
        have HX4 : Hid (ArgR w4 B (V i) x) := Lib.hid (ArgR.stays.kept HX1.out hw4.below)
        have hK4 : Bk w4 wr.heap.size #[.string x.1, .int .i64 k, .int .i64 n, .string s, .slice VA vli vci, .slice VK vlk vck] 97 := HK1.out.wr hw4 (by omega) (by decide)
        have y0 := hK4.cell 0 _ rfl
        have y1 := hK4.cell 1 _ rfl
        have y2 := hK4.cell 2 _ rfl
        have y3 := hK4.cell 3 _ rfl
        have y4 := hK4.cell 4 _ rfl
        have y5 := hK4.cell 5 _ rfl
        clear hp4 hw4 hK4 k0 k1 k2 k3 k4 k5
        have CALL := Lib.hid (HF1.out (V i) _ HX4.out _ HP4.out (HL.out.kept HW4.out.below) (by
          have h1 := HST.out; rw [HMT.out, if_neg HI0.out] at h1; have h2 := HLL.out; simp only [List.length_append] at h1 ⊢; omega) (Nat.le_trans HBB.out HW4.out.below.size))
        rw [HE.out] at CALL
        go_wp2_with fail
        refine CALL.out.mono ?_
        rintro e w5 ⟨rfl, hp5, hw5⟩
        have HP5 : Hid (PB B b (l ++ jn (bL sep) ((xs.take (i + 1)).map tx)) w5) := Lib.hid (by rw [HTK.out, if_neg HI0.out]; simpa only [List.append_assoc] using hp5)
        have HW5 := Lib.hid (HW4.out.trans hw5)
        clear hp5 hw5 CALL y0 y1 y2 y3 y4 y5
        go_wp2_with fail
        go_roundw
        case rel => exact ⟨i + 1, by omega, by go_num, Lib.hid ⟨HP5.out, HW5.out⟩⟩
        case measure => simp [intOf]; omega
    · have : i = len := by omega
      subst this
      have HF : Hid (PB B b (l ++ jn (bL sep) (xs.map tx)) wr) := Lib.hid (by have := hr.out.1; rwa [List.take_of_length_le (by rw [HLEN.out]; exact Nat.le_refl _)] at this)
      go_wp2_with fail
      go_end0
      exact ⟨rfl, HF.out, hr.out.2⟩
end Go.Proofs.YtieklhplalgmmaaGreatDoor
namespace Go.Proofs.YtieklhplalgmmaaGreatDoor
open Go.RowKit
set_option maxRecDepth 100000 in
set_option maxHeartbeats 2000000 in
theorem sepDir_any (B b : Nat) (xs : List DirT) (tx : DirT → List UInt8) (hF : ∀ x ∈ xs, ∀ (f : Nat → Value) (W : World), DirR W B f x → Prints B b W 87 (.agg #[f 0, f 1]) (tx x))
    (sep : ByteArray) (v : Value) (l : List UInt8) (w : World) (h : DirsR w B v xs) (hp : PB B b l w) (hL : LaidB B w) (hl : l.length + (jn (bL sep) (xs.map tx)).length ≤ 140737488355328) (hB : B ≤ w.heap.size) :
    Calls Tryz.prog 86 #[pp b, v, .string sep, .func (.func 87) #[pp b] #[]] w (PP B b l (jn (bL sep) (xs.map tx)) w) := by
  obtain ⟨A, c, rfl, hc, hbg, V, hA, hr⟩ := h
  unfold big at hbg
  obtain ⟨len, hlen⟩ : ∃ len, xs.length = len := ⟨_, rfl⟩
  rw [hlen] at hA hbg ⊢
  have hlm : (len : Int) ≤ 140737488351232 := by omega
  have HLEN := Lib.hid hlen
  have HF := Lib.hid hF
  have HA := Lib.hid hA
  have HR := Lib.hid hr
  have HP := Lib.hid hp
  have HL := Lib.hid hL
  have HLL := Lib.hid hl
  have HBB := Lib.hid hB
  clear hlen hF hA hr hp hL hl hc hbg
  go_enter Tryz.func86, Tryz.ntmps86
  go_wp2_with fail
  go_loopw [12] (fun u wr => ∃ i : Nat, i ≤ len ∧ u = .int .i64 i ∧ Hid (PB B b (l ++ jn (bL sep) ((xs.take i).map tx)) wr ∧ Wr B b w wr)) (fun u _ => len - (intOf u).toNat)
  case atStart => exact ⟨0, Nat.zero_le _, rfl, Lib.hid ⟨by simpa [jn] using HP.out, Wr.refl _ _ _⟩⟩
  case round =>
    obtain ⟨i, hi, rfl, hr⟩ := hrel
    by_cases hlt : i < len
    · obtain ⟨x, hxi⟩ : ∃ x, xs[i]? = some x := ⟨_, List.getElem?_eq_getElem (by rw [HLEN.out]; exact hlt)⟩
      have hlt' : (i : Int) < len := by omega
      have HXI := Lib.hid hxi
      have hx : DirR wr B (V i) x := DirR.stays.kept (HR.out i x hxi) hr.out.2.below
      have HF1 := Lib.hid (HF.out x (List.mem_of_getElem? hxi))
      obtain ⟨a, rfl, ha, hc0⟩ := HA.out (by omega)
      have hcc : ∀ j, j < 2 → wr.cell? (at_ (a.add (i * 2)) j) = some (V i j) := fun j hj => (hr.out.2.below.cell (by rw [at_block, add_block]; exact ha)).trans (hc0 i hlt j hj)
      have k0 : wr.cell? (a.add (i * 2)) = some (V i 0) := hcc 0 (by omega)
      have k1 : wr.cell? ⟨((a.add (i * 2))).block, ((a.add (i * 2))).off + 1, none⟩ = some (V i 1) := hcc 1 (by omega)
      obtain ⟨A1, c1, e1, _, _⟩ := hx.args.form
      have e0 := hx.name
      rw [e0] at k0
      rw [e1] at k1
      have HX := Lib.hid hx
      have HE : Hid (#[V i 0, V i 1] = #[.string x.name, .slice A1 x.args.length c1]) := Lib.hid (by rw [e0, e1])
      clear hc0 hcc hx hxi e0 e1
      have hsz := hr.out.2.below.size
      have HT : Hid ((xs.map tx)[i]? = some (tx x)) := Lib.hid (by rw [List.getElem?_map, HXI.out]; rfl)
      have HST := Lib.hid (jn_step_le (bL sep) HT.out)
      have HTK : Hid (jn (bL sep) ((xs.take (i + 1)).map tx) = jn (bL sep) ((xs.take i).map tx) ++ ((if i = 0 then [] else bL sep) ++ tx x)) := Lib.hid (by
        rw [List.map_take, List.map_take]; exact jn_take (bL sep) HT.out)
      have HMT : Hid ((xs.map tx).take i = (xs.take i).map tx) := Lib.hid (by rw [List.map_take])
      generalize x.args.length = n0 at k0 k1 HE
      have HB1 : Hid (Wr B b w (wr.alloc (.cells #[.string x.name, .slice A1 n0 c1] 95 (0, 0)))) := Lib.hid (hr.out.2.alloc HBB.out _)
      have HX1 : Hid (DirR (wr.alloc (.cells #[.string x.name, .slice A1 n0 c1] 95 (0, 0))) B (V i) x) := Lib.hid (DirR.stays.kept HX.out ((Below.refl B wr).alloc (by omega) _))
      have HP1 := Lib.hid (hr.out.1.alloc (.cells #[.string x.name, .slice A1 n0 c1] 95 (0, 0)))
      have HK1 := Lib.hid (Bk.new wr #[.string x.name, .slice A1 n0 c1] 95)
      have hbw := hr.out.1.lt
      by_cases hi0 : i = 0
      · have hi0' : ¬ (i : Int) > 0 := by omega
        have HI0 := Lib.hid hi0
        have CALL := Lib.hid (HF1.out (V i) _ HX1.out _ HP1.out (HL.out.kept HB1.out.below) (by
          have h1 := HST.out; rw [HMT.out, if_pos HI0.out] at h1; have h2 := HLL.out; simp only [List.length_append, List.length_nil] at h1 ⊢; omega) (Nat.le_trans HBB.out HB1.out.below.size))
        rw [HE.out] at CALL
        clear hi0
        go_wp2_with fail
        refine CALL.out.mono ?_
        rintro e w5 ⟨rfl, hp5, hw5⟩
        have HP5 : Hid (PB B b (l ++ jn (bL sep) ((xs.take (i + 1)).map tx)) w5) := Lib.hid (by rw [HTK.out, if_pos HI0.out, List.nil_append, ← List.append_assoc]; exact hp5)
        have HW5 := Lib.hid (HB1.out.trans hw5)
        clear hp5 hw5 CALL
        go_wp2_with fail
        go_roundw
        case rel => exact ⟨i + 1, by omega, by go_num, Lib.hid ⟨HP5.out, HW5.out⟩⟩
        case measure => simp [intOf]; omega
      · have hi0' : (i : Int) > 0 := by omega
        have HI0 := Lib.hid hi0
        clear hi0
        go_wp2_with fail
        refine (put1 sep B b _ _ _ (by simp) HP1.out (by
          have h1 := HST.out; rw [HMT.out, if_neg HI0.out] at h1; have h2 := HLL.out; simp only [List.length_append, bL_len] at h1 h2 ⊢; omega) (Nat.le_trans HBB.out HB1.out.below.size)).mono ?_
        rintro e w4 ⟨rfl, hp4, hw4⟩
        have HP4 := Lib.hid hp4
        have HW4 := Lib.hid (HB1.out.trans hw4)
        have HX4 : Hid (DirR w4 B (V i) x) := Lib.hid (DirR.stays.kept HX1.out hw4.below)
        have hK4 : Bk w4 wr.heap.size #[.string x.name, .slice A1 n0 c1] 95 := HK1.out.wr hw4 (by omega) (by decide)
        have y0 := hK4.cell 0 _ rfl
        have y1 := hK4.cell 1 _ rfl
        clear hp4 hw4 hK4 k0 k1
        have CALL := Lib.hid (HF1.out (V i) _ HX4.out _ HP4.out (HL.out.kept HW4.out.below) (by
          have h1 := HST.out; rw [HMT.out, if_neg HI0.out] at h1; have h2 := HLL.out; simp only [List.length_append] at h1 ⊢; omega) (Nat.le_trans HBB.out HW4.out.below.size))
        rw [HE.out] at CALL
        go_wp2_with fail
        refine CALL.out.mono ?_
        rintro e w5 ⟨rfl, hp5, hw5⟩
        have HP5 : Hid (PB B b (l ++ jn (bL sep) ((xs.take (i + 1)).map tx)) w5) := Lib.hid (by rw [HTK.out, if_neg HI0.out]; simpa only [List.append_assoc] using hp5)
        have HW5 := Lib.hid (HW4.out.trans hw5)
        clear hp5 hw5 CALL y0 y1
        go_wp2_with fail
        go_roundw
        case rel => exact ⟨i + 1, by omega, by go_num, Lib.hid ⟨HP5.out, HW5.out⟩⟩
        case measure => simp [intOf]; omega
    · have : i = len := by omega
      subst this
      have HF : Hid (PB B b (l ++ jn (bL sep) (xs.map tx)) wr) := Lib.hid (by have := hr.out.1; rwa [List.take_of_length_le (by rw [HLEN.out]; exact Nat.le_refl _)] at this)
      go_wp2_with fail
      go_end0
      exact ⟨rfl, HF.out, hr.out.2⟩
end Go.Proofs.YtieklhplalgmmaaGreatDoor
namespace Go.Proofs.YtieklhplalgmmaaGreatDoor
open Go.RowKit
set_option maxRecDepth 100000 in
set_option maxHeartbeats 2000000 in
theorem sepMem_any (B b : Nat) (xs : List MemT) (tx : MemT → List UInt8) (hF : ∀ x ∈ xs, ∀ (f : Nat → Value) (W : World), MemR W B f x → Prints B b W 35 (.agg #[f 0, f 1]) (tx x))
    (sep : ByteArray) (v : Value) (l : List UInt8) (w : World) (h : MemsR w B v xs) (hp : PB B b l w) (hL : LaidB B w) (hl : l.length + (jn (bL sep) (xs.map tx)).length ≤ 140737488355328) (hB : B ≤ w.heap.size) :
    Calls Tryz.prog 68 #[pp b, v, .string sep, .func (.func 35) #[pp b] #[]] w (PP B b l (jn (bL sep) (xs.map tx)) w) := by
  obtain ⟨A, c, rfl, hc, hbg, V, hA, hr⟩ := h
  unfold big at hbg
  obtain ⟨len, hlen⟩ : ∃ len, xs.length = len := ⟨_, rfl⟩
  rw [hlen] at hA hbg ⊢
  have hlm : (len : Int) ≤ 140737488351232 := by omega
  have HLEN := Lib.hid hlen
  have HF := Lib.hid hF
  have HA := Lib.hid hA
  have HR := Lib.hid hr
  have HP := Lib.hid hp
  have HL := Lib.hid hL
  have HLL := Lib.hid hl
  have HBB := Lib.hid hB
  clear hlen hF hA hr hp hL hl hc hbg
  go_enter Tryz.func68, Tryz.ntmps68
  go_wp2_with fail
  go_loopw [12] (fun u wr => ∃ i : Nat, i ≤ len ∧ u = .int .i64 i ∧ Hid (PB B b (l ++ jn (bL sep) ((xs.take i).map tx)) wr ∧ Wr B b w wr)) (fun u _ => len - (intOf u).toNat)
  case atStart => exact ⟨0, Nat.zero_le _, rfl, Lib.hid ⟨by simpa [jn] using HP.out, Wr.refl _ _ _⟩⟩
  case round =>
    obtain ⟨i, hi, rfl, hr⟩ := hrel
    by_cases hlt : i < len
    · obtain ⟨x, hxi⟩ : ∃ x, xs[i]? = some x := ⟨_, List.getElem?_eq_getElem (by rw [HLEN.out]; exact hlt)⟩
      have hlt' : (i : Int) < len := by omega
      have HXI := Lib.hid hxi
      have hx : MemR wr B (V i) x := MemR.stays.kept (HR.out i x hxi) hr.out.2.below
      have HF1 := Lib.hid (HF.out x (List.mem_of_getElem? hxi))
      obtain ⟨a, rfl, ha, hc0⟩ := HA.out (by omega)
      have hcc : ∀ j, j < 2 → wr.cell? (at_ (a.add (i * 2)) j) = some (V i j) := fun j hj => (hr.out.2.below.cell (by rw [at_block, add_block]; exact ha)).trans (hc0 i hlt j hj)
      have k0 : wr.cell? (a.add (i * 2)) = some (V i 0) := hcc 0 (by omega)
      have k1 : wr.cell? ⟨((a.add (i * 2))).block, ((a.add (i * 2))).off + 1, none⟩ = some (V i 1) := hcc 1 (by omega)
      obtain ⟨A1, c1, e1, _, _⟩ := hx.dirs.form
      have e0 := hx.name
      rw [e0] at k0
      rw [e1] at k1
      have HX := Lib.hid hx
      have HE : Hid (#[V i 0, V i 1] = #[.string x.name, .slice A1 x.dirs.length c1]) := Lib.hid (by rw [e0, e1])
      clear hc0 hcc hx hxi e0 e1
      have hsz := hr.out.2.below.size
      have HT : Hid ((xs.map tx)[i]? = some (tx x)) := Lib.hid (by rw [List.getElem?_map, HXI.out]; rfl)
      have HST := Lib.hid (jn_step_le (bL sep) HT.out)
      have HTK : Hid (jn (bL sep) ((xs.take (i + 1)).map tx) = jn (bL sep) ((xs.take i).map tx) ++ ((if i = 0 then [] else bL sep) ++ tx x)) := Lib.hid (by
        rw [List.map_take, List.map_take]; exact jn_take (bL sep) HT.out)
      have HMT : Hid ((xs.map tx).take i = (xs.take i).map tx) := Lib.hid (by rw [List.map_take])
      generalize x.dirs.length = n0 at k0 k1 HE
      have HB1 : Hid (Wr B b w (wr.alloc (.cells #[.string x.name, .slice A1 n0 c1] 74 (0, 0)))) := Lib.hid (hr.out.2.alloc HBB.out _)
      have HX1 : Hid (MemR (wr.alloc (.cells #[.string x.name, .slice A1 n0 c1] 74 (0, 0))) B (V i) x) := Lib.hid (MemR.stays.kept HX.out ((Below.refl B wr).alloc (by omega) _))
      have HP1 := Lib.hid (hr.out.1.alloc (.cells #[.string x.name, .slice A1 n0 c1] 74 (0, 0)))
      have HK1 := Lib.hid (Bk.new wr #[.string x.name, .slice A1 n0 c1] 74)
      have hbw := hr.out.1.lt
      by_cases hi0 : i = 0
      · have hi0' : ¬ (i : Int) > 0 := by omega
        have HI0 := Lib.hid hi0
        have CALL := Lib.hid (HF1.out (V i) _ HX1.out _ HP1.out (HL.out.kept HB1.out.below) (by
          have h1 := HST.out; rw [HMT.out, if_pos HI0.out] at h1; have h2 := HLL.out; simp only [List.length_append, List.length_nil] at h1 ⊢; omega) (Nat.le_trans HBB.out HB1.out.below.size))
        rw [HE.out] at CALL
        clear hi0
        go_wp2_with fail
        refine CALL.out.mono ?_
        rintro e w5 ⟨rfl, hp5, hw5⟩
        have HP5 : Hid (PB B b (l ++ jn (bL sep) ((xs.take (i + 1)).map tx)) w5) := Lib.hid (by rw [HTK.out, if_pos HI0.out, List.nil_append, ← List.append_assoc]; exact hp5)
        have HW5 := Lib.hid (HB1.out.trans hw5)
        clear hp5 hw5 CALL
        go_wp2_with fail
        go_roundw
        case rel => exact ⟨i + 1, by omega, by go_num, Lib.hid ⟨HP5.out, HW5.out⟩⟩
        case measure => simp [intOf]; omega
      · have hi0' : (i : Int) > 0 := by omega
        have HI0 := Lib.hid hi0
        clear hi0
        go_wp2_with fail
        refine (put1 sep B b _ _ _ (by simp) HP1.out (by
          have h1 := HST.out; rw [HMT.out, if_neg HI0.out] at h1; have h2 := HLL.out; simp only [List.length_append, bL_len] at h1 h2 ⊢; omega) (Nat.le_trans HBB.out HB1.out.below.size)).mono ?_
        rintro e w4 ⟨rfl, hp4, hw4⟩
        have HP4 := Lib.hid hp4
        have HW4 := Lib.hid (HB1.out.trans hw4)
        have HX4 : Hid (MemR w4 B (V i) x) := Lib.hid (MemR.stays.kept HX1.out hw4.below)
        have hK4 : Bk w4 wr.heap.size #[.string x.name, .slice A1 n0 c1] 74 := HK1.out.wr hw4 (by omega) (by decide)
        have y0 := hK4.cell 0 _ rfl
        have y1 := hK4.cell 1 _ rfl
        clear hp4 hw4 hK4 k0 k1
        have CALL := Lib.hid (HF1.out (V i) _ HX4.out _ HP4.out (HL.out.kept HW4.out.below) (by
          have h1 := HST.out; rw [HMT.out, if_neg HI0.out] at h1; have h2 := HLL.out; simp only [List.length_append] at h1 ⊢; omega) (Nat.le_trans HBB.out HW4.out.below.size))
        rw [HE.out] at CALL
        go_wp2_with fail
        refine CALL.out.mono ?_
        rintro e w5 ⟨rfl, hp5, hw5⟩
        have HP5 : Hid (PB B b (l ++ jn (bL sep) ((xs.take (i + 1)).map tx)) w5) := Lib.hid (by rw [HTK.out, if_neg HI0.out]; simpa only [List.append_assoc] using hp5)
        have HW5 := Lib.hid (HW4.out.trans hw5)
        clear hp5 hw5 CALL y0 y1
        go_wp2_with fail
        go_roundw
        case rel => exact ⟨i + 1, by omega, by go_num, Lib.hid ⟨HP5.out, HW5.out⟩⟩
        case measure => simp [intOf]; omega
    · have : i = len := by omega
      subst this
      have HF : Hid (PB B b (l ++ jn (bL sep) (xs.map tx)) wr) := Lib.hid (by have := hr.out.1; rwa [List.take_of_length_le (by rw [HLEN.out]; exact Nat.le_refl _)] at this)
      go_wp2_with fail
      go_end0
      exact ⟨rfl, HF.out, hr.out.2⟩
end Go.Proofs.YtieklhplalgmmaaGreatDoor
namespace Go.Proofs.YtieklhplalgmmaaGreatDoor
open Go.RowKit
def ValOk (B b : Nat) : Prop := ∀ (x : VT), x.fit → ∀ (f : Nat → Value) (W : World), ValR W B f x → Prints B b W 28 (.agg #[f 0, f 1, f 2, f 3, f 4]) x.src
def dirFit (d : DirT) : Prop := ∀ a ∈ d.args, a.2.fit
def dirsFit (l : List DirT) : Prop := ∀ d ∈ l, dirFit d
set_option maxRecDepth 100000 in
set_option maxHeartbeats 2000000 in
theorem argument_any (B b : Nat) (hO : ValOk B b) (x : ByteArray × VT) (hf : x.2.fit) (f : Nat → Value) (w : World) (h : ArgR w B f x) : Prints B b w 103 (.agg #[f 0, f 1, f 2, f 3, f 4, f 5]) (argTxt x) := by
  intro l hp hL hl hB
  obtain ⟨k, n, s, VA, vli, vci, VK, vlk, vck, e1, e2, e3, e4, e5⟩ := Rd.form h.val
  have hv := h.val
  rw [h.name, e1, e2, e3, e4, e5]
  rw [e1, e2, e3, e4, e5] at hv
  clear e1 e2 e3 e4 e5 h
  have HV0 := Lib.hid (hv.kept (below_new w (.cells #[.string x.1, .int .i64 k, .int .i64 n, .string s, .slice VA vli vci, .slice VK vlk vck] 97 (0, 0)) |>.mono hB))
  have HO := Lib.hid hO
  have HF := Lib.hid hf
  unfold argTxt at hl ⊢
  clear hv hO hf
  have HW0 : Hid (Wr B b w (w.alloc (.cells #[.string x.1, .int .i64 k, .int .i64 n, .string s, .slice VA vli vci, .slice VK vlk vck] 97 (0, 0)))) := Lib.hid ((Wr.refl B b w).alloc hB _)
  have HP0 := Lib.hid (hp.alloc (.cells #[.string x.1, .int .i64 k, .int .i64 n, .string s, .slice VA vli vci, .slice VK vlk vck] 97 (0, 0)))
  have HK0 := Lib.hid (Bk.new w #[.string x.1, .int .i64 k, .int .i64 n, .string s, .slice VA vli vci, .slice VK vlk vck] 97)
  have HL := Lib.hid hL
  have HLL := Lib.hid hl
  have HBB := Lib.hid hB
  have hbw := hp.lt
  clear hL hl hB hp
  go_enter Tryz.func103, Tryz.ntmps103
  have y0 := HK0.out.cell 0 _ rfl
  have y1 := HK0.out.cell 1 _ rfl
  have y2 := HK0.out.cell 2 _ rfl
  have y3 := HK0.out.cell 3 _ rfl
  have y4 := HK0.out.cell 4 _ rfl
  have y5 := HK0.out.cell 5 _ rfl
  go_wp2_with fail
  refine (put2 _ _ B b _ _ _ (by simp) HP0.out (by have h1 := HLL.out; (try simp only [lit_bL] at h1 ⊢); (try simp only [List.length_append] at h1 ⊢); (try simp only [List.length_cons] at h1 ⊢); (try simp only [List.length_nil] at h1 ⊢); (try simp only [bL_len] at h1 ⊢); (try simp only [lit_size] at h1 ⊢); (try simp only [List.length_cons] at h1 ⊢); (try simp only [List.length_nil] at h1 ⊢); omega) (Nat.le_trans HBB.out HW0.out.below.size)).mono ?_
  rintro e w1 ⟨rfl, hp, hw⟩
  have HP1 := Lib.hid hp
  have HW1 := Lib.hid (HW0.out.trans hw)
  have HK1 := Lib.hid (HK0.out.wr hw (by omega) (by decide))
  have HV1 := Lib.hid (Rd.kept HV0.out hw.below)
  clear hp hw
  clear y0 y1 y2 y3 y4 y5
  have y0 := HK1.out.cell 0 _ rfl
  have y1 := HK1.out.cell 1 _ rfl
  have y2 := HK1.out.cell 2 _ rfl
  have y3 := HK1.out.cell 3 _ rfl
  have y4 := HK1.out.cell 4 _ rfl
  have y5 := HK1.out.cell 5 _ rfl
  go_wp2_with fail
  refine (HO.out x.2 HF.out (fun j => (#[.int .i64 k, .int .i64 n, .string s, .slice VA vli vci, .slice VK vlk vck] : Array Value).getD j undef) _ HV1.out _ HP1.out (HL.out.kept HW1.out.below) (by have h1 := HLL.out; (try simp only [lit_bL] at h1 ⊢); (try simp only [List.length_append] at h1 ⊢); (try simp only [List.length_cons] at h1 ⊢); (try simp only [List.length_nil] at h1 ⊢); (try simp only [bL_len] at h1 ⊢); (try simp only [lit_size] at h1 ⊢); (try simp only [List.length_cons] at h1 ⊢); (try simp only [List.length_nil] at h1 ⊢); omega) (Nat.le_trans HBB.out HW1.out.below.size)).mono ?_
  rintro e w2 ⟨rfl, hp, hw⟩
  have HP2 := Lib.hid hp
  have HW2 := Lib.hid (HW1.out.trans hw)
  have HK2 := Lib.hid (HK1.out.wr hw (by omega) (by decide))
  have HV2 := Lib.hid (Rd.kept HV1.out hw.below)
  clear hp hw
  clear y0 y1 y2 y3 y4 y5
  have y0 := HK2.out.cell 0 _ rfl
  have y1 := HK2.out.cell 1 _ rfl
  have y2 := HK2.out.cell 2 _ rfl
  have y3 := HK2.out.cell 3 _ rfl
  have y4 := HK2.out.cell 4 _ rfl
  have y5 := HK2.out.cell 5 _ rfl
  go_wp2_with fail
  go_end0
  exact ⟨rfl, by have h1 := HP2.out; (try simp only [List.append_assoc] at h1); (try simp only [List.append_nil] at h1); (try simp only [List.append_assoc]); (try simp only [List.append_nil]); exact h1, HW2.out⟩
set_option maxRecDepth 100000 in
set_option maxHeartbeats 2000000 in
theorem directive_any (B b : Nat) (hO : ValOk B b) (x : DirT) (hf : dirFit x) (f : Nat → Value) (w : World) (h : DirR w B f x) : Prints B b w 87 (.agg #[f 0, f 1]) (dirTxt x) := by
  intro l hp hL hl hB
  obtain ⟨A1, c1, e1, _, _⟩ := h.args.form
  have hv := h.args
  rw [h.name, e1]
  rw [e1] at hv
  clear e1 h
  obtain ⟨n0, hn0⟩ : ∃ n0, x.args.length = n0 := ⟨_, rfl⟩
  rw [hn0] at hv ⊢
  have HV0 := Lib.hid (hv.kept (below_new w (.cells #[.string x.name, .slice A1 n0 c1] 95 (0, 0)) |>.mono hB))
  have HO := Lib.hid hO
  have HF := Lib.hid hf
  unfold dirTxt at hl ⊢
  rw [hn0] at hl ⊢
  clear hv hO hf hn0
  have HW0 : Hid (Wr B b w (w.alloc (.cells #[.string x.name, .slice A1 n0 c1] 95 (0, 0)))) := Lib.hid ((Wr.refl B b w).alloc hB _)
  have HP0 := Lib.hid (hp.alloc (.cells #[.string x.name, .slice A1 n0 c1] 95 (0, 0)))
  have HK0 := Lib.hid (Bk.new w #[.string x.name, .slice A1 n0 c1] 95)
  have HL := Lib.hid hL
  have HLL := Lib.hid hl
  have HBB := Lib.hid hB
  have hbw := hp.lt
  clear hL hl hB hp
  by_cases h0 : n0 = 0
  · subst h0
    rw [if_pos rfl] at HLL ⊢
    go_enter Tryz.func87, Tryz.ntmps87
    have y0 := HK0.out.cell 0 _ rfl
    have y1 := HK0.out.cell 1 _ rfl
    go_wp2_with fail
    refine (put2 _ _ B b _ _ _ (by simp) HP0.out (by have h1 := HLL.out; (try simp only [lit_bL] at h1 ⊢); (try simp only [List.length_append] at h1 ⊢); (try simp only [List.length_cons] at h1 ⊢); (try simp only [List.length_nil] at h1 ⊢); (try simp only [bL_len] at h1 ⊢); (try simp only [lit_size] at h1 ⊢); (try simp only [List.length_cons] at h1 ⊢); (try simp only [List.length_nil] at h1 ⊢); omega) (Nat.le_trans HBB.out HW0.out.below.size)).mono ?_
    rintro e w1 ⟨rfl, hp, hw⟩
    have HP1 := Lib.hid hp
    have HW1 := Lib.hid (HW0.out.trans hw)
    have HK1 := Lib.hid (HK0.out.wr hw (by omega) (by decide))
    have HV1 := Lib.hid (ArgsR.kept HV0.out hw.below)
    clear hp hw
    clear y0 y1
    have y0 := HK1.out.cell 0 _ rfl
    have y1 := HK1.out.cell 1 _ rfl
    go_wp2_with fail
    go_end0
    exact ⟨rfl, by have h1 := HP1.out; (try simp only [List.append_assoc] at h1); (try simp only [List.append_nil] at h1); (try simp only [List.append_assoc]); (try simp only [List.append_nil]); exact h1, HW1.out⟩
  · have h0' : (n0 : Int) > 0 := by omega
    rw [if_neg h0] at HLL ⊢
    clear h0
    go_enter Tryz.func87, Tryz.ntmps87
    have y0 := HK0.out.cell 0 _ rfl
    have y1 := HK0.out.cell 1 _ rfl
    go_wp2_with fail
    refine (put2 _ _ B b _ _ _ (by simp) HP0.out (by have h1 := HLL.out; (try simp only [lit_bL] at h1 ⊢); (try simp only [List.length_append] at h1 ⊢); (try simp only [List.length_cons] at h1 ⊢); (try simp only [List.length_nil] at h1 ⊢); (try simp only [bL_len] at h1 ⊢); (try simp only [lit_size] at h1 ⊢); (try simp only [List.length_cons] at h1 ⊢); (try simp only [List.length_nil] at h1 ⊢); omega) (Nat.le_trans HBB.out HW0.out.below.size)).mono ?_
    rintro e w1 ⟨rfl, hp, hw⟩
    have HP1 := Lib.hid hp
    have HW1 := Lib.hid (HW0.out.trans hw)
    have HK1 := Lib.hid (HK0.out.wr hw (by omega) (by decide))
    have HV1 := Lib.hid (ArgsR.kept HV0.out hw.below)
    clear hp hw
    clear y0 y1
    have y0 := HK1.out.cell 0 _ rfl
    have y1 := HK1.out.cell 1 _ rfl
    go_wp2_with fail
    refine (put1 _ B b _ _ _ (by simp) HP1.out (by have h1 := HLL.out; (try simp only [lit_bL] at h1 ⊢); (try simp only [List.length_append] at h1 ⊢); (try simp only [List.length_cons] at h1 ⊢); (try simp only [List.length_nil] at h1 ⊢); (try simp only [bL_len] at h1 ⊢); (try simp only [lit_size] at h1 ⊢); (try simp only [List.length_cons] at h1 ⊢); (try simp only [List.length_nil] at h1 ⊢); omega) (Nat.le_trans HBB.out HW1.out.below.size)).mono ?_
    rintro e w2 ⟨rfl, hp, hw⟩
    have HP2 := Lib.hid hp
    have HW2 := Lib.hid (HW1.out.trans hw)
    have HK2 := Lib.hid (HK1.out.wr hw (by omega) (by decide))
    have HV2 := Lib.hid (ArgsR.kept HV1.out hw.below)
    clear hp hw
    clear y0 y1
    have y0 := HK2.out.cell 0 _ rfl
    have y1 := HK2.out.cell 1 _ rfl
    go_wp2_with fail
    refine (sepArg_any B b x.args argTxt (fun y hy f W hR => argument_any B b HO.out y (HF.out y hy) f W hR) _ _ _ _ HV2.out HP2.out (HL.out.kept HW2.out.below) (by have h1 := HLL.out; (try simp only [lit_bL] at h1 ⊢); (try simp only [List.length_append] at h1 ⊢); (try simp only [List.length_cons] at h1 ⊢); (try simp only [List.length_nil] at h1 ⊢); (try simp only [bL_len] at h1 ⊢); (try simp only [lit_size] at h1 ⊢); (try simp only [List.length_cons] at h1 ⊢); (try simp only [List.length_nil] at h1 ⊢); omega) (Nat.le_trans HBB.out HW2.out.below.size)).mono ?_
    rintro e w3 ⟨rfl, hp, hw⟩
    have HP3 := Lib.hid hp
    have HW3 := Lib.hid (HW2.out.trans hw)
    have HK3 := Lib.hid (HK2.out.wr hw (by omega) (by decide))
    have HV3 := Lib.hid (ArgsR.kept HV2.out hw.below)
    clear hp hw
    clear y0 y1
    have y0 := HK3.out.cell 0 _ rfl
    have y1 := HK3.out.cell 1 _ rfl
    go_wp2_with fail
    refine (put1 _ B b _ _ _ (by simp) HP3.out (by have h1 := HLL.out; (try simp only [lit_bL] at h1 ⊢); (try simp only [List.length_append] at h1 ⊢); (try simp only [List.length_cons] at h1 ⊢); (try simp only [List.length_nil] at h1 ⊢); (try simp only [bL_len] at h1 ⊢); (try simp only [lit_size] at h1 ⊢); (try simp only [List.length_cons] at h1 ⊢); (try simp only [List.length_nil] at h1 ⊢); omega) (Nat.le_trans HBB.out HW3.out.below.size)).mono ?_
    rintro e w4 ⟨rfl, hp, hw⟩
    have HP4 := Lib.hid hp
    have HW4 := Lib.hid (HW3.out.trans hw)
    have HK4 := Lib.hid (HK3.out.wr hw (by omega) (by decide))
    have HV4 := Lib.hid (ArgsR.kept HV3.out hw.below)
    clear hp hw
    clear y0 y1
    have y0 := HK4.out.cell 0 _ rfl
    have y1 := HK4.out.cell 1 _ rfl
    go_wp2_with fail
    go_end0
    exact ⟨rfl, by have h1 := HP4.out; (try simp only [List.append_assoc] at h1); (try simp only [List.append_nil] at h1); (try simp only [List.append_assoc]); (try simp only [List.append_nil]); exact h1, HW4.out⟩
end Go.Proofs.YtieklhplalgmmaaGreatDoor
