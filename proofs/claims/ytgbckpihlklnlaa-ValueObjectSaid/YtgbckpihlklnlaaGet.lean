
/-
  Contract of Get.
-/
import Derived.Test.YtgbckpihlklnlaaMake
namespace Go.Proofs.Ytgbckpihlklnlaa
open Go.RowKit
def VT.get : VT → ByteArray → Option VT
  | .mk k _ _ is ks, x => if k = 6 ∧ 0 ≤ Lib.idxOfS ks x then is[(Lib.idxOfS ks x).toNat]? else none
def GetPost (w : World) (B : Nat) (r : Option VT) (e : Ending) (w' : World) : Prop :=
  (∃ u, (match r with | none => e = .returned (.tuple #[zeroV, .bool false]) | some t => e = .returned (.tuple #[u, .bool true]) ∧ Rd w B u t)) ∧ Below w.heap.size w w'
theorem KeysAt.flat {w : World} {B : Nat} {K : Option Addr} {keys : List ByteArray} (h : KeysAt w B K keys) (hl : 0 < keys.length) : ∃ b off, K = some ⟨b, off, none⟩ ∧ b < B ∧ ∀ j, j < keys.length → w.cell? ⟨b, off + j, none⟩ = some (.string (keys.getD j ByteArray.empty)) := by
  obtain ⟨a, rfl, hab, hc⟩ := h hl
  have h0 := hc 0 _ (List.getElem?_eq_getElem hl)
  obtain ⟨b, off, spot⟩ := a
  have hs : spot = none := by
    cases spot with
    | none => rfl
    | some i =>
      simp only [Addr.add, World.cell?] at h0
      split at h0 <;> simp at h0
  subst hs
  refine ⟨b, off, rfl, hab, fun j hj => ?_⟩
  have := hc j _ (List.getElem?_eq_getElem hj)
  rw [Addr.add_mid] at this
  rw [this, List.getD_eq_getElem?_getD, List.getElem?_eq_getElem hj]
  rfl
theorem index_any (K : Option Addr) (lk ck : Nat) (keys : List ByteArray) (x : ByteArray) (w : World) (B : Nat) (hlk : keys.length = lk) (hbk : lk * 16 ≤ 140737488351232) (hK : KeysAt w B K keys) :
    Calls Try.prog 29 #[.slice K lk ck, .string x] w fun e w' => e = .returned (.int .i64 (Lib.idxOfS keys x)) ∧ w = w' := by
  by_cases h0 : 0 < lk
  · obtain ⟨b, off, rfl, _, hc⟩ := hK.flat (by omega)
    have h := Try.slices_Index_string b off lk ck keys x w (by omega) (by omega) hc
    rw [List.take_of_length_le (by omega)] at h
    exact h.mono fun _ _ ⟨h1, h2⟩ => ⟨h1, h2.symm⟩
  · have e : keys = [] := List.eq_nil_of_length_eq_zero (by omega)
    subst e
    obtain rfl : lk = 0 := by simpa using hlk.symm
    exact (Try.slices_Index_string_empty K ck x w).mono fun _ _ ⟨h1, h2⟩ => ⟨h1, h2.symm⟩
theorem idxF_ge (x : ByteArray) : ∀ (keys : List ByteArray) (i : Nat), Lib.idxFromS keys x i = -1 ∨ ∃ k : Nat, k < keys.length ∧ Lib.idxFromS keys x i = ((i + k : Nat) : Int)
  | [], i => .inl rfl
  | z :: r, i => by
    unfold Lib.idxFromS
    split
    · exact .inr ⟨0, by simp, by simp⟩
    · rcases idxF_ge x r (i + 1) with h | ⟨k, hk, h⟩
      · exact .inl h
      · exact .inr ⟨k + 1, by simp; omega, by rw [h]; congr 1; omega⟩
theorem idx_ge (keys : List ByteArray) (x : ByteArray) : Lib.idxOfS keys x = -1 ∨ ∃ k : Nat, k < keys.length ∧ Lib.idxOfS keys x = k := by
  rcases idxF_ge x keys 0 with h | ⟨k, hk, h⟩
  · exact .inl h
  · exact .inr ⟨k, hk, by unfold Lib.idxOfS; rw [h]; simp⟩
set_option maxHeartbeats 400000 in
theorem get_any (t : VT) (x : ByteArray) (w : World) (B : Nat) (v : Value) (h : Rd w B v t) (hB : B ≤ w.heap.size) :
    Calls Try.prog 10 #[v, .string x] w (GetPost w B (t.get x)) := by
  cases h with
  | @mk k n s A li ci K lk ck items keys V hk hn hs hks hli hlk hbi hbk hA hr hK =>
  have HA := Lib.hid hA
  have HR := Lib.hid hr
  have HL := Lib.hid hli
  have HLK := Lib.hid hlk
  have HK := Lib.hid hK
  have hlm : (li : Int) ≤ 140737488351232 := by omega
  obtain ⟨f1, f2, f3⟩ := Box.two w (.int .i64 k) (.int .i64 n) (.string s) (.slice A li ci) (.slice K lk ck) (.int .i64 0) (.int .i64 0) (.string ⟨#[]⟩) (.slice none 0 0) (.slice none 0 0)
  have F3 := Lib.hid f3
  have HI : Hid (Calls Try.prog 29 #[.slice K lk ck, .string x] _ fun e w' => e = .returned (.int .i64 (Lib.idxOfS keys x)) ∧ _ = w') := Lib.hid (index_any K lk ck keys x _ B hlk hbk (hK.kept (f3.mono hB)))
  clear hA hr hli hlk hK f1 f2 f3 hks hn hs
  by_cases hk6 : k = 6
  · have hk6' : (k != 6) = false := by rw [hk6]; rfl
    rcases idx_ge keys x with hi | ⟨i, hik, hi⟩
    · have HG : Hid ((VT.mk k n s items keys).get x = none) := Lib.hid (by simp only [VT.get]; rw [if_neg (by omega)])
      have HII := Lib.hid hi
      clear hk6 hi
      go_enter Try.func10, Try.ntmps10
      go_wp2_with fail
      refine HI.out.mono ?_
      rintro e w' ⟨rfl, rfl⟩
      rw [HII.out]
      go_wp2_with fail
      exact bodyPost_ret (v := .tuple #[zeroV, .bool false]) (by simp [results, Try.results10, zeroV, go_sem]) rfl ⟨⟨undef, by rw [HG.out]⟩, F3.out⟩
    · have HII := Lib.hid hi
      have hlk' : (i : Int) ≤ 140737488351232 := by have := HLK.out; omega
      by_cases hil : i < li
      · obtain ⟨a, t, k1, n1, s1, A1, li1, ci1, K1, lk1, ck1, rfl, ht, e, hrd, h0, h1, h2, h3, h4⟩ := round_at HA.out HR.out HL.out (Below.refl _ _) hil
        have HG : Hid ((VT.mk k n s items keys).get x = some t) := Lib.hid (by simp only [VT.get]; rw [if_pos ⟨hk6, by omega⟩, hi]; simpa using ht)
        have hab : (a.add (i * 5)).block < w.heap.size := by obtain ⟨_, e, h, _⟩ := HA.out (by omega); cases e; rw [add_block]; omega
        obtain ⟨c0, c1, c2, c3, c4⟩ := (show C5 w (a.add (i * 5)) (.agg #[.int .i64 k1, .int .i64 n1, .string s1, .slice A1 li1 ci1, .slice K1 lk1 ck1]) from ⟨_, _, _, _, _, rfl, h0, h1, h2, h3, h4⟩).past rfl hab
        have d0 := c0 ⟨_, F3.out⟩
        have d1 := c1 ⟨_, F3.out⟩
        have d2 := c2 ⟨_, F3.out⟩
        have d3 := c3 ⟨_, F3.out⟩
        have d4 := c4 ⟨_, F3.out⟩
        have E := Lib.hid e
        have HT := Lib.hid hrd
        clear hk6 hi h0 h1 h2 h3 h4 c0 c1 c2 c3 c4 ht e hrd hik
        dsimp only at d0 d1 d2 d3 d4
        go_enter Try.func10, Try.ntmps10
        go_wp2_with fail
        refine HI.out.mono ?_
        rintro e w' ⟨rfl, rfl⟩
        rw [HII.out]
        go_wp2_with fail
        refine bodyPost_ret (v := .tuple #[.agg #[.int .i64 k1, .int .i64 n1, .string s1, .slice A1 li1 ci1, .slice K1 lk1 ck1], .bool true]) (by simp [results, Try.results10, go_sem]) rfl ⟨⟨V i, by rw [HG.out]; exact ⟨by rw [E.out], HT.out⟩⟩, ?_⟩
        exact (Box.two w _ _ _ _ _ _ _ _ _ _).2.2
      · have HG : Hid ((VT.mk k n s items keys).get x = none) := Lib.hid (by simp only [VT.get]; rw [if_pos ⟨hk6, by omega⟩, hi, List.getElem?_eq_none (by have := HL.out; simp; omega)])
        have h2 : decide (li ≤ i) = true := by simp; omega
        have h2' : (li : Int) ≤ (i : Int) := by omega
        clear hk6 hi hik
        go_enter Try.func10, Try.ntmps10
        go_wp2_with fail
        refine HI.out.mono ?_
        rintro e w' ⟨rfl, rfl⟩
        rw [HII.out]
        go_wp2_with fail
        exact bodyPost_ret (v := .tuple #[zeroV, .bool false]) (by simp [results, Try.results10, zeroV, go_sem]) rfl ⟨⟨undef, by rw [HG.out]⟩, F3.out⟩
  · have hk6' : (k != 6) = true := by simp [hk6]
    have HG : Hid ((VT.mk k n s items keys).get x = none) := Lib.hid (by simp only [VT.get]; rw [if_neg (by omega)])
    clear hk6
    go_enter Try.func10, Try.ntmps10
    go_wp2_with fail
    exact bodyPost_ret (v := .tuple #[zeroV, .bool false]) (by simp [results, Try.results10, zeroV, go_sem]) rfl ⟨⟨undef, by rw [HG.out]⟩, F3.out⟩
end Go.Proofs.Ytgbckpihlklnlaa
