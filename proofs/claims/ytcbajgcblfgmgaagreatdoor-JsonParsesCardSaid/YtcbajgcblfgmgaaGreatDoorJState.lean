
/-
  The reader's state in memory.
-/
import Derived.Test.YtcbajgcblfgmgaaGreatDoorJPure
namespace Go.Proofs.YtcbajgcblfgmgaaGreatDoor
open Go.RowKit
def PBox (W : World) (b : Nat) (c0 c1 c2 c3 c4 : Value) : Prop := W.heap[b]? = some (.cells #[c0, c1, c2, c3, c4] 35 (0, 0))
theorem PBox.cells {W : World} {b : Nat} {c0 c1 c2 c3 c4 : Value} (h : PBox W b c0 c1 c2 c3 c4) :
    W.cell? ⟨b, 0, none⟩ = some c0 ∧ W.cell? ⟨b, 1, none⟩ = some c1 ∧ W.cell? ⟨b, 2, none⟩ = some c2 ∧ W.cell? ⟨b, 3, none⟩ = some c3 ∧ W.cell? ⟨b, 4, none⟩ = some c4 := by
  refine ⟨?_, ?_, ?_, ?_, ?_⟩ <;> rw [cell_of_row _ _ _ _ _ _ h] <;> rfl
theorem PBox.frz {W : World} {b : Nat} {c0 c1 c2 c3 c4 : Value} (h : PBox W b c0 c1 c2 c3 c4) (i : Nat) : W.frozen? ⟨b, i, none⟩ = false := by
  unfold PBox at h; simp [World.frozen?, h]
theorem PBox.s1 {W : World} {b : Nat} {c0 c1 c2 c3 c4 : Value} (h : PBox W b c0 c1 c2 c3 c4) (u : Value) : PBox (W.setCell ⟨b, 1, none⟩ u) b c0 u c2 c3 c4 := by
  unfold PBox at h ⊢; simp [World.setCell, Array.getElem?_modify, h]
theorem PBox.s2 {W : World} {b : Nat} {c0 c1 c2 c3 c4 : Value} (h : PBox W b c0 c1 c2 c3 c4) (u : Value) : PBox (W.setCell ⟨b, 2, none⟩ u) b c0 c1 u c3 c4 := by
  unfold PBox at h ⊢; simp [World.setCell, Array.getElem?_modify, h]
theorem PBox.s3 {W : World} {b : Nat} {c0 c1 c2 c3 c4 : Value} (h : PBox W b c0 c1 c2 c3 c4) (u : Value) : PBox (W.setCell ⟨b, 3, none⟩ u) b c0 c1 c2 u c4 := by
  unfold PBox at h ⊢; simp [World.setCell, Array.getElem?_modify, h]
theorem PBox.s4 {W : World} {b : Nat} {c0 c1 c2 c3 c4 : Value} (h : PBox W b c0 c1 c2 c3 c4) (u : Value) : PBox (W.setCell ⟨b, 4, none⟩ u) b c0 c1 c2 c3 u := by
  unfold PBox at h ⊢; simp [World.setCell, Array.getElem?_modify, h]
/- The reader p stands at i, behind n values, and has noted ea and c. -/
structure PS (w : World) (p : Nat) (s : ByteArray) (i n : Nat) (ea c : Int) : Prop where
  box : PBox w p (.string s) (.int .i64 i) (.int .i64 n) (.int .i64 ea) (.int .i64 c)
  laid : ∀ w', Below p w w' → T1.Laid w'
  hi : i ≤ s.size
  hs : s.size ≤ 1073741824
  hn : n ≤ 4097
theorem PS.lt {w : World} {p : Nat} {s : ByteArray} {i n : Nat} {ea c : Int} (h : PS w p s i n ea c) : p < w.heap.size := by
  have h := h.box
  unfold PBox at h
  rcases Nat.lt_or_ge p w.heap.size with h' | h'
  · exact h'
  · rw [Array.getElem?_eq_none h'] at h; cases h
/- Of what lies below N nothing but block p has turned. -/
structure Bes (p N : Nat) (w w' : World) : Prop where
  os : w'.os = w.os
  tape : w'.tape = w.tape
  output : w'.output = w.output
  size : w.heap.size ≤ w'.heap.size
  block : ∀ k, k < N → k ≠ p → w'.heap[k]? = w.heap[k]?
theorem Bes.refl (p N : Nat) (w : World) : Bes p N w w := ⟨rfl, rfl, rfl, Nat.le_refl _, fun _ _ _ => rfl⟩
theorem Bes.trans {p N : Nat} {a b c : World} (h : Bes p N a b) (k : Bes p N b c) : Bes p N a c :=
  ⟨k.os.trans h.os, k.tape.trans h.tape, k.output.trans h.output, Nat.le_trans h.size k.size, fun i hi hp => (k.block i hi hp).trans (h.block i hi hp)⟩
theorem Bes.mono {p N N' : Nat} {w w' : World} (h : Bes p N w w') (hN : N' ≤ N) : Bes p N' w w' := ⟨h.os, h.tape, h.output, h.size, fun k hk hp => h.block k (Nat.lt_of_lt_of_le hk hN) hp⟩
theorem Bes.below {p N : Nat} {w w' : World} (h : Bes p N w w') (hp : p ≤ N) : Below p w w' := ⟨h.os, h.tape, h.output, h.size, fun k hk => h.block k (by omega) (by omega)⟩
theorem Bes.of {p N : Nat} {w w' : World} (h : Below N w w') : Bes p N w w' := ⟨h.os, h.tape, h.output, h.size, fun k hk _ => h.block k hk⟩
theorem Bes.set {p N : Nat} {a w : World} (h : Bes p N a w) (i : Nat) (u : Value) : Bes p N a (w.setCell ⟨p, i, none⟩ u) :=
  h.trans ⟨rfl, rfl, rfl, by simp [World.setCell], fun k _ hp => Below.heap_setCell _ _ _ _ hp⟩
theorem Bes.alloc {p N : Nat} {a w : World} (h : Bes p N a w) (hN : N ≤ w.heap.size) (o : Obj) : Bes p N a (w.alloc o) :=
  h.trans (Bes.of ((Below.refl _ _).alloc hN o))
theorem PS.same {w w' : World} {p : Nat} {s : ByteArray} {i n : Nat} {ea c : Int} (h : PS w p s i n ea c) (hb : Below (p + 1) w w') : PS w' p s i n ea c :=
  ⟨(hb.block p (by omega)).trans h.box, fun w2 h2 => h.laid w2 ((hb.mono (by omega)).trans h2), h.hi, h.hs, h.hn⟩
theorem PS.kept {w w' : World} {p : Nat} {s : ByteArray} {i n : Nat} {ea c : Int} (h : PS w p s i n ea c) (hb : Below w.heap.size w w') : PS w' p s i n ea c :=
  h.same (hb.mono h.lt)
theorem PS.lay {w w' : World} {p : Nat} {s : ByteArray} {i n : Nat} {ea c : Int} (h : PS w p s i n ea c) (u : Nat) (v : Value) (hw : w' = w.setCell ⟨p, u, none⟩ v) : ∀ w2, Below p w' w2 → T1.Laid w2 := fun w2 h2 => by
  subst hw
  exact h.laid w2 (((Below.refl p w).setCell (Nat.le_refl _) v).trans h2)
theorem PS.at1 {w : World} {p : Nat} {s : ByteArray} {i n : Nat} {ea c : Int} (h : PS w p s i n ea c) {j : Nat} (hj : j ≤ s.size) : PS (w.setCell ⟨p, 1, none⟩ (.int .i64 j)) p s j n ea c :=
  ⟨h.box.s1 _, h.lay 1 _ rfl, hj, h.hs, h.hn⟩
theorem PS.at2 {w : World} {p : Nat} {s : ByteArray} {i n : Nat} {ea c : Int} (h : PS w p s i n ea c) {m : Nat} (hm : m ≤ 4097) : PS (w.setCell ⟨p, 2, none⟩ (.int .i64 m)) p s i m ea c :=
  ⟨h.box.s2 _, h.lay 2 _ rfl, h.hi, h.hs, hm⟩
theorem PS.at34 {w : World} {p : Nat} {s : ByteArray} {i n : Nat} {ea c : Int} (h : PS w p s i n ea c) (ea' c' : Int) : PS ((w.setCell ⟨p, 3, none⟩ (.int .i64 ea')).setCell ⟨p, 4, none⟩ (.int .i64 c')) p s i n ea' c' :=
  ⟨(h.box.s3 _).s4 _, fun w2 h2 => h.laid w2 ((((Below.refl p w).setCell (Nat.le_refl _) _).setCell (Nat.le_refl _) _).trans h2), h.hi, h.hs, h.hn⟩
theorem PS.is {w : World} {p : Nat} {s : ByteArray} {i n : Nat} {ea c : Int} (h : PS w p s i n ea c) : T1.Laid w := h.laid w (Below.refl _ _)
abbrev pp (p : Nat) : Value := .pointer (some ⟨p, 0, none⟩)
theorem fail_any {w : World} {p : Nat} {s : ByteArray} {i n : Nat} {e0 c0 : Int} (h : PS w p s i n e0 c0) (ea c : Int) :
    Calls Tryz.prog 37 #[pp p, .int .i64 ea, .int .i64 c] w fun e w' => e = .returned (.bool false) ∧ PS w' p s i n ea c ∧ Bes p w.heap.size w w' := by
  obtain ⟨q0, q1, q2, q3, q4⟩ := h.box.cells
  have f3 := h.box.frz 3
  have f4 := h.box.frz 4
  have HP := Lib.hid h
  clear h
  go_enter Tryz.func37, Tryz.ntmps37
  go_wp2_with fail
  go_ret
  exact ⟨rfl, HP.out.at34 ea c, ((Bes.refl _ _ _).set 3 _).set 4 _⟩
theorem next_any {w : World} {p : Nat} {s : ByteArray} {i n : Nat} {e0 c0 : Int} (h : PS w p s i n e0 c0) :
    Calls Tryz.prog 17 #[pp p] w fun e w' => e = .returned (.int .u8 (bt s i).toNat) ∧ Below w.heap.size w w' := by
  obtain ⟨q0, q1, q2, q3, q4⟩ := h.box.cells
  have hi := h.hi
  have hs := h.hs
  clear h
  by_cases hlt : i < s.size
  · have h1 : (i : Int) < s.size := by omega
    have hb : Hid (bt s i = s[i]) := Lib.hid (by unfold bt; rw [List.getD_eq_getElem?_getD, List.getElem?_eq_getElem (by rw [T1.size_eq]; exact hlt)]; rfl)
    go_enter Tryz.func17, Tryz.ntmps17
    go_wp2_with fail
    go_region
    go_wp2_with fail
    go_region
    go_wp2_with fail
    go_ret
    exact ⟨by rw [hb.out]; rfl, (Below.refl _ _).drew.drew⟩
  · have h1 : ¬ (i : Int) < s.size := by omega
    have hb : Hid (bt s i = 0) := Lib.hid (bt_end s i (by omega))
    go_enter Tryz.func17, Tryz.ntmps17
    go_wp2_with fail
    go_region
    go_wp2_with fail
    go_ret
    exact ⟨by rw [hb.out]; rfl, (Below.refl _ _).drew⟩
theorem u8_back (c : UInt8) : ((c.toNat : Int)).toNat.toUInt8 = c := by
  rw [Int.toNat_natCast]; exact UInt8.ofNat_toNat
theorem nextIn_any {w : World} {p : Nat} {s : ByteArray} {i n : Nat} {e0 c0 : Int} (h : PS w p s i n e0 c0) (set : ByteArray) :
    Calls Tryz.prog 23 #[pp p, .string set] w fun e w' => e = .returned (.bool (isIn set.data.toList (bt s i))) ∧ Below w.heap.size w w' := by
  have HP := Lib.hid h
  clear h
  go_enter Tryz.func23, Tryz.ntmps23
  go_wp2_with fail
  refine (next_any HP.out).mono ?_
  rintro e w1 ⟨rfl, hb⟩
  have HB := Lib.hid hb
  clear hb
  go_wp2_with fail
  refine (Tryz.strings_IndexByte _ _ _).mono ?_
  rintro e w2 ⟨rfl, rfl⟩
  have hx : Hid (decide (0 ≤ Lib.indexByte set.data.toList ((bt s i).toNat : Int).toNat.toUInt8) = isIn set.data.toList (bt s i)) := Lib.hid (by rw [u8_back]; rfl)
  generalize Lib.indexByte set.data.toList ((bt s i).toNat : Int).toNat.toUInt8 = z at *
  go_wp2_with fail
  go_ret
  exact ⟨by rw [← hx.out]; rfl, HB.out⟩
/- take: a byte of the set is read, or the error noted. -/
def TakePost (w : World) (p : Nat) (s : ByteArray) (n : Nat) (r : Except Er Nat) (e : Ending) (w' : World) : Prop :=
  (match r with
    | .ok j => e = .returned (.bool true) ∧ PS w' p s j n 0 0
    | .error x => e = .returned (.bool false) ∧ ∃ j, PS w' p s j n x.1 x.2) ∧ Bes p w.heap.size w w'
theorem TakePost.ok {w : World} {p : Nat} {s : ByteArray} {n j : Nat} {w' : World} (h : PS w' p s j n 0 0) (hb : Bes p w.heap.size w w') : TakePost w p s n (.ok j) (.returned (.bool true)) w' := ⟨⟨rfl, h⟩, hb⟩
theorem TakePost.bad {w : World} {p : Nat} {s : ByteArray} {n j : Nat} {x : Er} {w' : World} (h : PS w' p s j n x.1 x.2) (hb : Bes p w.heap.size w w') : TakePost w p s n (.error x) (.returned (.bool false)) w' := ⟨⟨rfl, j, h⟩, hb⟩
theorem TakePost.parts {w : World} {p : Nat} {s : ByteArray} {n : Nat} {r : Except Er Nat} {e : Ending} {w' : World} (h : TakePost w p s n r e w') :
    (∃ j, r = .ok j ∧ e = .returned (.bool true) ∧ PS w' p s j n 0 0 ∧ Bes p w.heap.size w w') ∨ (∃ x j, r = .error x ∧ e = .returned (.bool false) ∧ PS w' p s j n x.1 x.2 ∧ Bes p w.heap.size w w') := by
  obtain ⟨h1, h2⟩ := h
  cases r with
  | ok j => exact .inl ⟨j, rfl, h1.1, h1.2, h2⟩
  | error x =>
    obtain ⟨he, j, h3⟩ := h1
    exact .inr ⟨x, j, rfl, he, h3, h2⟩
theorem u8_beq {a : UInt8} (c : UInt8) (h : a ≠ c) : ((a.toNat : Int) == (c.toNat : Int)) = false := by
  rw [beq_eq_false_iff_ne]; intro e; exact h (UInt8.toNat_inj.1 (by omega))
theorem u8_bne {a : UInt8} (c : UInt8) (h : a ≠ c) : ((a.toNat : Int) != (c.toNat : Int)) = true := by
  rw [bne_iff_ne]; intro e; exact h (UInt8.toNat_inj.1 (by omega))
theorem u8_beq' {a : UInt8} (c : UInt8) (h : a = c) : ((a.toNat : Int) == (c.toNat : Int)) = true := by subst h; simp
theorem u8_bne' {a : UInt8} (c : UInt8) (h : a = c) : ((a.toNat : Int) != (c.toNat : Int)) = false := by subst h; simp
theorem take_any {w : World} {p : Nat} {s : ByteArray} {i n : Nat} (h : PS w p s i n 0 0) (set : ByteArray) (h0 : (0 : UInt8) ∉ set.data.toList) :
    Calls Tryz.prog 38 #[pp p, .string set] w (TakePost w p s n (takeR s set.data.toList i)) := by
  have HP := Lib.hid h
  have H0 := Lib.hid h0
  clear h h0
  go_enter Tryz.func38, Tryz.ntmps38
  go_wp2_with fail
  refine (nextIn_any HP.out set).mono ?_
  rintro e w1 ⟨rfl, hb⟩
  have HB := Lib.hid hb
  have HP1 := Lib.hid (HP.out.kept hb)
  have hsz := hb.size
  clear hb
  obtain ⟨q0, q1, q2, q3, q4⟩ := HP1.out.box.cells
  have f1 := HP1.out.box.frz 1
  cases hx : isIn set.data.toList (bt s i)
  · have e1 : takeR s set.data.toList i = .error (i, 3) := by unfold takeR; rw [hx]; rfl
    have E1 := Lib.hid e1
    clear hx e1
    go_wp2_with fail
    refine (fail_any HP1.out _ _).mono ?_
    rintro e w2 ⟨rfl, hp2, hb2⟩
    have HP2 := Lib.hid hp2
    have HB2 := Lib.hid ((Bes.of HB.out).trans (hb2.mono hsz))
    clear hp2 hb2 q0 q1 q2 q3 q4 f1
    go_wp2_with fail
    go_ret
    rw [E1.out]
    exact .bad HP2.out HB2.out
  · have hlt := lt_of_in H0.out hx
    have e1 : takeR s set.data.toList i = .ok (i + 1) := by unfold takeR; rw [hx]; rfl
    have E1 := Lib.hid e1
    have hs := HP1.out.hs
    clear hx e1
    go_wp2_with fail
    go_ret
    rw [E1.out]
    exact .ok (by have := HP1.out.at1 (j := i + 1) (by omega); simpa using this) (by simpa using (Bes.of HB.out).set 1 _)
end Go.Proofs.YtcbajgcblfgmgaaGreatDoor
