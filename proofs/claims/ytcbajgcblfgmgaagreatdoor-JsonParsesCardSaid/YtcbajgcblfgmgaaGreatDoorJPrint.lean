
/-
  Print, and the text of a value.
-/
import Derived.Test.YtcbajgcblfgmgaaGreatDoorJBuild
namespace Go.Proofs.YtcbajgcblfgmgaaGreatDoor
open Go.RowKit
def nullB : List UInt8 := [110, 117, 108, 108]
def falseB : List UInt8 := [102, 97, 108, 115, 101]
def trueB : List UInt8 := [116, 114, 117, 101]
def qL (s : ByteArray) : List UInt8 := T1.quoteL s.data.toList
mutual
def VT.txt : VT → Option (List UInt8)
  | .mk k n s items keys =>
    if k = 0 then some nullB else if k = 1 then some (if n = 0 then falseB else trueB) else if k = 2 then some (Lib.itoa n) else if k = 3 ∨ k = 4 then some (qL s)
    else if k = 5 then (VT.txtL items true).map (fun l => 91 :: l ++ [93])
    else if k = 6 then (if keys.length = items.length then (VT.txtO items keys true).map (fun l => 123 :: l ++ [125]) else none) else none
def VT.txtL : List VT → Bool → Option (List UInt8)
  | [], _ => some []
  | t :: r, first => match VT.txt t with
    | none => none
    | some a => (VT.txtL r false).map (fun b => ((if first then [] else [44]) ++ a) ++ b)
def VT.txtO : List VT → List ByteArray → Bool → Option (List UInt8)
  | [], _, _ => some []
  | t :: r, ks, first => match VT.txt t with
    | none => none
    | some a => (VT.txtO r (ks.drop 1) false).map (fun b => ((if first then [] else [44]) ++ qL (ks.getD 0 ByteArray.empty) ++ [58] ++ a) ++ b)
end
mutual
def VT.bw : VT → Nat
  | .mk _ _ s items keys => 1 + s.size + (keys.map (fun k => 1 + k.size)).sum + VT.bws items
def VT.bws : List VT → Nat
  | [] => 0
  | t :: r => VT.bw t + VT.bws r
end
theorem bws_append : ∀ (a b : List VT), VT.bws (a ++ b) = VT.bws a + VT.bws b
  | [], b => by simp [VT.bws]
  | t :: r, b => by simp [VT.bws, bws_append r b]; omega
theorem bws_take {items : List VT} {j : Nat} {t : VT} (h : items[j]? = some t) : VT.bws (items.take (j + 1)) = VT.bws (items.take j) + t.bw := by
  obtain ⟨hj, e⟩ := List.getElem?_eq_some_iff.1 h
  rw [List.take_succ_eq_append_getElem hj, e, bws_append]; simp [VT.bws]
theorem bws_le (items : List VT) (j : Nat) : VT.bws (items.take j) ≤ VT.bws items := by
  have := bws_append (items.take j) (items.drop j)
  rw [List.take_append_drop] at this; omega
theorem BD.kept {B b : Nat} {l : List UInt8} {w w' : World} (h : BD B b l w) (hb : Below w.heap.size w w') : BD B b l w' := by
  have key : ∀ {p : Value}, Lib.BuilderAtF 47 5 B b p (Lib.byteCells l) w → Lib.BuilderAtF 47 5 B b p (Lib.byteCells l) w' := by
    intro p h
    obtain ⟨hB, v, hbk, hown, hne⟩ := h
    have hlt : b < w.heap.size := by
      rcases Nat.lt_or_ge b w.heap.size with h' | h'
      · exact h'
      · rw [Array.getElem?_eq_none h'] at hbk; cases hbk
    refine ⟨hB, v, (hb.block b hlt).trans hbk, ⟨hown.1, hown.2.imp id ?_⟩, hne⟩
    rintro ⟨g, cap, cur, fz, e1, e2, e3, r⟩
    have hg : g < w.heap.size := by
      rcases Nat.lt_or_ge g w.heap.size with h' | h'
      · exact h'
      · rw [Array.getElem?_eq_none h'] at e3; cases e3
    exact ⟨g, cap, cur, fz, e1, e2, (hb.block g hg).trans e3, r⟩
  exact h.imp key key
theorem Box.others {W W' : World} {b k : Nat} {c0 c1 c2 c3 c4 : Value} (h : Box W k c0 c1 c2 c3 c4) (ho : Lib.OthersKept 5 (some b) W W') (hb : k ≠ b) : Box W' k c0 c1 c2 c3 c4 :=
  ho k _ h (fun e => hb (Option.some.inj e)) (fun c fz e => by injection e with _ e2 _; exact absurd e2 (by decide))
theorem BD.lt {B b : Nat} {l : List UInt8} {w : World} (h : BD B b l w) : b < w.heap.size := by
  have key : ∀ {p v : Value}, w.heap[b]? = some (.cells #[p, v] 47 (0, 0)) → b < w.heap.size := by
    intro p v hbk
    rcases Nat.lt_or_ge b w.heap.size with h' | h'
    · exact h'
    · rw [Array.getElem?_eq_none h'] at hbk; cases hbk
  rcases h with h | h
  · obtain ⟨_, v, hbk, _⟩ := h; exact key hbk
  · obtain ⟨_, v, hbk, _⟩ := h; exact key hbk
theorem BD.le {B b : Nat} {l : List UInt8} {w : World} (h : BD B b l w) : B ≤ b := by
  rcases h with h | h
  · exact h.1
  · exact h.1
def LaidB (B : Nat) (w : World) : Prop := ∀ w', Below B w w' → T1.Laid w'
theorem LaidB.kept {B : Nat} {w w' : World} (h : LaidB B w) (hb : Below B w w') : LaidB B w' := fun w2 h2 => h w2 (hb.trans h2)
theorem LaidB.is {B : Nat} {w : World} (h : LaidB B w) : T1.Laid w := h w (Below.refl _ _)
def PrPost (B b : Nat) (l : List UInt8) (r : Option (List UInt8)) (m : Nat) (w : World) (e : Ending) (w' : World) : Prop :=
  e = .returned (.bool r.isSome) ∧ Below B w w' ∧ ∀ a, r = some a → BD B b (l ++ a) w' ∧ a.length + 1 ≤ m
def PrAt (t : VT) : Prop := ∀ (B b : Nat) (l : List UInt8) (w : World) (v : Value), Rd w B v t → BD B b l w → LaidB B w → l.length + 30 * t.bw ≤ 1099511627776 → B ≤ w.heap.size →
  Calls Tryz.prog 14 #[pp b, v] w (PrPost B b l t.txt (30 * t.bw) w)
theorem qL_len (s : ByteArray) : (qL s).length ≤ 6 * s.size + 2 := by
  have h := T1.flat_len s.data.toList
  rw [T1.size_eq] at h
  unfold qL T1.quoteL
  simp only [List.length_append, List.length_cons, List.length_nil, List.length_flatMap] at h ⊢
  omega
theorem txtL_step {items : List VT} {j : Nat} {t : VT} {first : Bool} (h : items[j]? = some t) : VT.txtL (items.drop j) first = match VT.txt t with
    | none => none
    | some a => (VT.txtL (items.drop (j + 1)) false).map (fun b => ((if first then [] else [44]) ++ a) ++ b) := by
  obtain ⟨hj, e⟩ := List.getElem?_eq_some_iff.1 h
  rw [List.drop_eq_getElem_cons hj, e, VT.txtL]
set_option maxRecDepth 100000 in
set_option maxHeartbeats 4000000 in
theorem printList_any (items : List VT) (ih : ∀ (i : Nat) (t : VT), items[i]? = some t → PrAt t) (A : Option Addr) (li ci : Nat) (V : Nat → Value) (B b : Nat) (l : List UInt8) (w : World)
    (hli : items.length = li) (hbi : li * 80 ≤ 140737488351232) (hA : 0 < li → ∃ a, A = some a ∧ a.block < B ∧ ∀ i, i < li → C5 w (a.add (i * 5)) (V i)) (hr : ∀ (i : Nat) (t : VT), items[i]? = some t → Rd w B (V i) t) (hB : B ≤ w.heap.size)
    (hd : BD B b l w) (hL : LaidB B w) (hl : l.length + 30 * (1 + VT.bws items) ≤ 1099511627776) :
    Calls Tryz.prog 35 #[pp b, .slice A li ci] w (PrPost B b l ((VT.txtL items true).map (fun l => 91 :: l ++ [93])) (30 * (1 + VT.bws items)) w) := by
  have HA := Lib.hid hA
  have HR := Lib.hid hr
  have HLI := Lib.hid hli
  have IH := Lib.hid ih
  have HD := Lib.hid hd
  have HL := Lib.hid hL
  have hlm : (li : Int) ≤ 140737488351232 := by omega
  clear hA hr hli ih hd hL hbi
  go_enter Tryz.func35, Tryz.ntmps35
  go_wp2_with fail
  refine (writeByte_any B b l 91 w HD.out (by omega) hB).mono ?_
  rintro e w1 ⟨rfl, hd1, hb1, _⟩
  have HD1 := Lib.hid hd1
  have HB1 := Lib.hid hb1
  clear hd1 hb1
  go_wp2_with fail
  go_loopw [11] (fun v wr => ∃ (j : Nat) (acc : List UInt8), j ≤ li ∧ v = .int .i64 j ∧ BD B b (l ++ [91] ++ acc) wr ∧ VT.txtL items true = (VT.txtL (items.drop j) (j == 0)).map (fun r => acc ++ r) ∧ acc.length ≤ 30 * VT.bws (items.take j) ∧ Below B w wr) (fun v _ => li - (intOf v).toNat)
  case atStart => exact ⟨0, [], Nat.zero_le _, rfl, by rw [List.append_nil]; exact HD1.out, by simp, by simp, HB1.out⟩
  case round =>
    obtain ⟨j, acc, hj, rfl, hd, he, hal, hb⟩ := hrel
    have HDJ := Lib.hid hd
    have HE := Lib.hid he
    have HB := Lib.hid hb
    clear hd he hb HD1 HB1
    by_cases hlt : j < li
    · obtain ⟨a, t, k1, n1, s1, A1, li1, ci1, K1, lk1, ck1, rfl, ht, e, hrd, h0, h1, h2, h3, h4⟩ := round_at HA.out HR.out HLI.out HB.out hlt
      have HT := Lib.hid ht
      have E := Lib.hid e
      have HRD := Lib.hid hrd
      have HST := Lib.hid (txtL_step (first := j == 0) ht)
      have hwt := bws_take ht
      have hwl := bws_le items (j + 1)
      clear ht e hrd
      have bz : Below wr.heap.size wr (wr.alloc (.cells #[.int .i64 k1, .int .i64 n1, .string s1, .slice A1 li1 ci1, .slice K1 lk1 ck1] 26 (0, 0))) := (Below.refl _ _).alloc (Nat.le_refl _) _
      have hszr := HB.out.size
      have HD2 := Lib.hid (HDJ.out.kept bz)
      have HB2 := Lib.hid (HB.out.trans (bz.mono (by omega)))
      have Y2 := Lib.hid (Box.new wr (.int .i64 k1) (.int .i64 n1) (.string s1) (.slice A1 li1 ci1) (.slice K1 lk1 ck1))
      have HRD2 := Lib.hid (HRD.out.kept (bz.mono (by omega)))
      clear bz
      by_cases hj0 : j = 0
      · have hj0' : ¬ (j : Int) > 0 := by omega
        have HJ0 := Lib.hid hj0
        clear hj0
        go_wp2_with fail
        have CALL := Lib.hid (IH.out j t HT.out B b (l ++ [91] ++ acc) (wr.alloc (.cells #[.int .i64 k1, .int .i64 n1, .string s1, .slice A1 li1 ci1, .slice K1 lk1 ck1] 26 (0, 0))) (.agg #[.int .i64 k1, .int .i64 n1, .string s1, .slice A1 li1 ci1, .slice K1 lk1 ck1]) (by rw [← E.out]; exact HRD2.out) HD2.out (HL.out.kept HB2.out) (by simp; omega) (by have := HB2.out.size; omega))
        obtain ⟨x0, x1, x2, x3, x4⟩ := Y2.out.cells
        go_wp2_with fail
        refine CALL.out.mono ?_
        rintro e w5 ⟨rfl, hb5, hp5⟩
        have HB5 := Lib.hid (HB2.out.trans hb5)
        have HP5 := Lib.hid hp5
        clear hb5 hp5 x0 x1 x2 x3 x4 h0 h1 h2 h3 h4 CALL
        cases hx : VT.txt t with
        | none =>
          have HE2 : Hid (VT.txtL items true = none) := Lib.hid (by rw [HE.out, HST.out, hx]; rfl)
          go_wp2_with fail
          go_ret
          exact ⟨by rw [HE2.out]; rfl, HB5.out, fun y hy => by rw [HE2.out] at hy; cases hy⟩
        | some z =>
          obtain ⟨hd6, hz6⟩ := HP5.out z hx
          have HD6 := Lib.hid hd6
          have HE2 : Hid (VT.txtL items true = (VT.txtL (items.drop (j + 1)) false).map (fun r => (acc ++ [] ++ z) ++ r)) := Lib.hid (by
            rw [HE.out, HST.out, hx]
            simp only [Option.map_map]
            congr 1
            funext r
            simp [HJ0.out])
          clear hd6 HP5
          go_wp2_with fail
          go_roundw
          case rel => exact ⟨j + 1, acc ++ [] ++ z, by omega, by go_num, by have := HD6.out; simpa using this, by simpa using HE2.out, by simp; omega, HB5.out⟩
          case measure => simp [intOf]; omega
      · have hj0' : (j : Int) > 0 := by omega
        have HJ0 := Lib.hid hj0
        clear hj0
        go_wp2_with fail
        refine (writeByte_any B b _ 44 _ HD2.out (by simp; omega) (by have := HB2.out.size; omega)).mono ?_
        rintro e w4 ⟨rfl, hd4, hb4, ho4⟩
        have HD4 := Lib.hid hd4
        have HB4 := Lib.hid (HB2.out.trans hb4)
        have HRD4 := Lib.hid (HRD2.out.kept hb4)
        have Y4 : Hid (Box w4 wr.heap.size (.int .i64 k1) (.int .i64 n1) (.string s1) (.slice A1 li1 ci1) (.slice K1 lk1 ck1)) := Lib.hid (Box.others Y2.out ho4 (by have := HDJ.out.lt; omega))
        clear hd4 hb4 ho4
        have CALL := Lib.hid (IH.out j t HT.out B b (l ++ [91] ++ acc ++ [44]) w4 (.agg #[.int .i64 k1, .int .i64 n1, .string s1, .slice A1 li1 ci1, .slice K1 lk1 ck1]) (by rw [← E.out]; exact HRD4.out) HD4.out (HL.out.kept HB4.out) (by simp; omega) (by have := HB4.out.size; omega))
        obtain ⟨x0, x1, x2, x3, x4⟩ := Y4.out.cells
        go_wp2_with fail
        refine CALL.out.mono ?_
        rintro e w5 ⟨rfl, hb5, hp5⟩
        have HB5 := Lib.hid (HB4.out.trans hb5)
        have HP5 := Lib.hid hp5
        clear hb5 hp5 x0 x1 x2 x3 x4 h0 h1 h2 h3 h4 CALL
        cases hx : VT.txt t with
        | none =>
          have HE2 : Hid (VT.txtL items true = none) := Lib.hid (by rw [HE.out, HST.out, hx]; rfl)
          go_wp2_with fail
          go_ret
          exact ⟨by rw [HE2.out]; rfl, HB5.out, fun y hy => by rw [HE2.out] at hy; cases hy⟩
        | some z =>
          obtain ⟨hd6, hz6⟩ := HP5.out z hx
          have HD6 := Lib.hid hd6
          have HE2 : Hid (VT.txtL items true = (VT.txtL (items.drop (j + 1)) false).map (fun r => (acc ++ [44] ++ z) ++ r)) := Lib.hid (by
            rw [HE.out, HST.out, hx]
            simp only [Option.map_map]
            congr 1
            funext r
            simp [HJ0.out])
          clear hd6 HP5
          go_wp2_with fail
          go_roundw
          case rel => exact ⟨j + 1, acc ++ [44] ++ z, by omega, by go_num, by have := HD6.out; simpa using this, by simpa using HE2.out, by simp; omega, HB5.out⟩
          case measure => simp [intOf]; omega
    · have hji : j = li := by omega
      subst hji
      have hdr : items.drop j = [] := List.drop_eq_nil_of_le (by have := HLI.out; omega)
      have hE2 : VT.txtL items true = some acc := by rw [HE.out, hdr]; simp [VT.txtL]
      have HE2 := Lib.hid hE2
      have hwl := bws_le items j
      have hsz := HB.out.size
      clear hdr hE2
      go_wp2_with fail
      refine (writeByte_any B b _ 93 wr HDJ.out (by simp; omega) (by omega)).mono ?_
      rintro e w3 ⟨rfl, hd3, hb3, _⟩
      have HD3 := Lib.hid hd3
      have HB3 := Lib.hid (HB.out.trans hb3)
      clear hd3 hb3
      go_wp2_with fail
      go_ret
      refine ⟨by rw [HE2.out]; rfl, HB3.out, fun x hx => ?_⟩
      rw [HE2.out] at hx
      cases hx
      exact ⟨by simpa using HD3.out, by simp; omega⟩
end Go.Proofs.YtcbajgcblfgmgaaGreatDoor
