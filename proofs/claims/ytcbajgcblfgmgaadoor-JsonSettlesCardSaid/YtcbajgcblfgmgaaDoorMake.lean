
/-
  Contracts of the constructors, of Object and of Get. Contracts of Right and Literal.
-/
import Derived.Test.YtcbajgcblfgmgaaDoorPast
import Derived.Test.YtcbajgcblfgmgaaDoorCompare
import Derived.Test.YtcbajgcblfgmgaaDoorName
namespace Go.Proofs.YtcbajgcblfgmgaaDoor
open Go.RowKit
def leafV (k n : Int) (s : ByteArray) : Value := .agg #[.int .i64 k, .int .i64 n, .string s, .slice none 0 0, .slice none 0 0]
def leafT (k n : Int) (s : ByteArray) : VT := .mk k n s [] []
theorem Rd.leaf {w : World} {B : Nat} {k n : Int} {s : ByteArray} (hk : small k) (hn : small n) (hs : s.size ≤ 140737488351232) : Rd w B (leafV k n s) (leafT k n s) :=
  .mk (fun _ => undef) hk hn hs (by simp) rfl rfl (by decide) (by decide) (fun h => by omega) (fun i t hi => by simp at hi) (fun h => by simp at h)
def yesI (y : Bool) : Int := if y then 1 else 0
theorem below_five {a w : World} {b : Nat} (h : Below b a w) (u0 u1 u2 u3 u4 : Value) : Below b a (((((w.setCell ⟨b, 0, none⟩ u0).setCell ⟨b, 1, none⟩ u1).setCell ⟨b, 2, none⟩ u2).setCell ⟨b, 3, none⟩ u3).setCell ⟨b, 4, none⟩ u4) :=
  ((((h.setCell (Nat.le_refl _) _).setCell (Nat.le_refl _) _).setCell (Nat.le_refl _) _).setCell (Nat.le_refl _) _).setCell (Nat.le_refl _) _
def zeroV : Value := .agg #[.int .i64 0, .int .i64 0, .string ⟨#[]⟩, .slice none 0 0, .slice none 0 0]
/- What Object returns. -/
def objectV (K : Option Addr) (lk ck : Nat) (A : Option Addr) (li ci : Nat) (keys : List ByteArray) : Value :=
  if lk ≠ li then .tuple #[zeroV, .int .i64 2] else if keys.Nodup then .tuple #[.agg #[.int .i64 6, .int .i64 0, .string ⟨#[]⟩, .slice A li ci, .slice K lk ck], .int .i64 0] else .tuple #[zeroV, .int .i64 7]
end Go.Proofs.YtcbajgcblfgmgaaDoor
namespace Go.Proofs.YtcbajgcblfgmgaaDoor
open Go.RowKit
def nmA (s : ByteArray) : Bool := nameL s.data.toList
def enumB (s : ByteArray) : Bool := !decide (s = ⟨#[116, 114, 117, 101]⟩) && !decide (s = ⟨#[102, 97, 108, 115, 101]⟩) && !decide (s = ⟨#[110, 117, 108, 108]⟩) && nmA s
def keysB (lit : Bool) (ks : List ByteArray) : Bool := (!lit || ks.all nmA) && decide ks.Nodup
def leafB (is : List VT) (ks : List ByteArray) : Bool := decide (is.length = 0) && decide (ks.length = 0)
def nodeB (lit : Bool) : VT → Bool
  | .mk k n s is ks =>
    if k = 0 then decide (n = 0) && decide (s.size = 0) && leafB is ks
    else if k = 1 then (decide (n = 0) || decide (n = 1)) && decide (s.size = 0) && leafB is ks
    else if k = 2 then decide (s.size = 0) && leafB is ks
    else if k = 3 then decide (n = 0) && leafB is ks
    else if k = 4 then decide (n = 0) && enumB s && leafB is ks
    else if k = 5 then decide (n = 0) && decide (s.size = 0) && decide (ks.length = 0)
    else if k = 6 then decide (n = 0) && decide (s.size = 0) && decide (ks.length = is.length) && keysB lit ks
    else if k = 7 then lit && decide (n = 0) && nmA s && leafB is ks
    else false
theorem isLeaf_any (t : VT) (w : World) (B : Nat) (v : Value) (h : Rd w B v t) :
    Calls Tryd.prog 35 #[v] w fun e w' => e = .returned (.bool (leafB t.items t.keys)) ∧ Below w.heap.size w w' := by
  cases h with
  | @mk k n s A li ci K lk ck items keys V hk hn hs hks hli hlk hbi hbk hA hr hK =>
  have HV : Hid (leafB items keys = (decide (li = 0) && decide (lk = 0))) := Lib.hid (by unfold leafB; rw [hli, hlk])
  show Calls _ _ _ _ fun e w' => e = .returned (.bool (leafB items keys)) ∧ _
  clear hA hr hli hlk hK hks hn hs hk
  by_cases h1 : li = 0
  · subst h1
    by_cases h2 : lk = 0
    · subst h2
      go_enter Tryd.func35, Tryd.ntmps35
      go_wp2_with fail
      go_ret
      exact ⟨by rw [HV.out]; rfl, (Below.refl _ _).alloc (Nat.le_refl _) _⟩
    · have h2' : decide (lk = 0) = false := by simpa using h2
      have h2'' : ((lk : Int) == 0) = false := by rw [beq_eq_false_iff_ne]; omega
      go_enter Tryd.func35, Tryd.ntmps35
      go_wp2_with fail
      go_ret
      exact ⟨by rw [HV.out]; simp [h2], (Below.refl _ _).alloc (Nat.le_refl _) _⟩
  · have h1' : decide (li = 0) = false := by simpa using h1
    have h1'' : ((li : Int) == 0) = false := by rw [beq_eq_false_iff_ne]; omega
    go_enter Tryd.func35, Tryd.ntmps35
    go_wp2_with fail
    go_ret
    exact ⟨by rw [HV.out]; simp [h1], (Below.refl _ _).alloc (Nat.le_refl _) _⟩
theorem list_eq (s : ByteArray) (l : List UInt8) : (s.toList == l) = decide (s = ⟨l.toArray⟩) := by
  rw [Lib.toList_data, Bool.eq_iff_iff]
  obtain ⟨d⟩ := s
  simp only [beq_iff_eq, decide_eq_true_eq, ByteArray.mk.injEq]
  constructor
  · rintro rfl; simp
  · rintro rfl; simp
set_option maxHeartbeats 1000000 in
theorem isEnumName_any (s : ByteArray) (w : World) (hs : s.size ≤ 140737488351232) :
    Calls Tryd.prog 36 #[.string s] w fun e w' => e = .returned (.bool (enumB s)) ∧ w = w' := by
  have e1 := list_eq s [116, 114, 117, 101]
  have e2 := list_eq s [102, 97, 108, 115, 101]
  have e3 := list_eq s [110, 117, 108, 108]
  have HV : Hid (enumB s = (!decide (s = ⟨#[116, 114, 117, 101]⟩) && !decide (s = ⟨#[102, 97, 108, 115, 101]⟩) && !decide (s = ⟨#[110, 117, 108, 108]⟩) && nmA s)) := Lib.hid rfl
  have HN := Lib.hid (name_any s w (by unfold maxLen; omega))
  rw [← e1, ← e2, ← e3] at HV
  cases h1 : (s.toList == [116, 114, 117, 101])
  · cases h2 : (s.toList == [102, 97, 108, 115, 101])
    · cases h3 : (s.toList == [110, 117, 108, 108])
      · rw [h1, h2, h3] at HV
        clear e1 e2 e3
        go_enter Tryd.func36, Tryd.ntmps36
        go_wp2_with fail
        refine HN.out.mono ?_
        rintro e w' ⟨rfl, rfl⟩
        go_wp2_with fail
        go_ret
        exact ⟨by rw [HV.out]; rfl, rfl⟩
      · rw [h1, h2, h3] at HV
        clear e1 e2 e3
        go_enter Tryd.func36, Tryd.ntmps36
        go_wp2_with fail
        go_ret
        exact ⟨by rw [HV.out]; rfl, rfl⟩
    · rw [h1, h2] at HV
      clear e1 e2 e3
      go_enter Tryd.func36, Tryd.ntmps36
      go_wp2_with fail
      go_ret
      exact ⟨by rw [HV.out]; rfl, rfl⟩
  · rw [h1] at HV
    clear e1 e2 e3
    go_enter Tryd.func36, Tryd.ntmps36
    go_wp2_with fail
    go_ret
    exact ⟨by rw [HV.out]; rfl, rfl⟩
/- The checker's struct. -/
def Chk (w : World) (c : Nat) (lit : Bool) (r : Int) : Prop := w.heap[c]? = some (.cells #[.bool lit, .int .i64 r] 39 (0, 0))
theorem Chk.cells {w : World} {c : Nat} {lit : Bool} {r : Int} (h : Chk w c lit r) : w.cell? ⟨c, 0, none⟩ = some (.bool lit) ∧ w.cell? ⟨c, 1, none⟩ = some (.int .i64 r) ∧ w.frozen? ⟨c, 1, none⟩ = false := by
  refine ⟨?_, ?_, by unfold Chk at h; simp [World.frozen?, h]⟩ <;> rw [cell_of_row _ _ _ _ _ _ h] <;> rfl
theorem Chk.lt {w : World} {c : Nat} {lit : Bool} {r : Int} (h : Chk w c lit r) : c < w.heap.size := by
  unfold Chk at h
  rcases Nat.lt_or_ge c w.heap.size with h' | h'
  · exact h'
  · rw [Array.getElem?_eq_none h'] at h; cases h
theorem Chk.kept {w w' : World} {c B : Nat} {lit : Bool} {r : Int} (h : Chk w c lit r) (hb : Below B w w') (hc : c < B) : Chk w' c lit r := (hb.block c hc).trans h
theorem keys_any (lit : Bool) (r : Int) (c : Nat) (K : Option Addr) (lk ck : Nat) (keys : List ByteArray) (w : World) (B : Nat) (hc : Chk w c lit r) (hlk : keys.length = lk) (hbk : lk * 16 ≤ 140737488351232) (hks : ∀ s ∈ keys, s.size ≤ 140737488351232) (hK : KeysAt w B K keys) (hB : B ≤ w.heap.size) :
    Calls Tryd.prog 37 #[.pointer (some ⟨c, 0, none⟩), .slice K lk ck] w fun e w' => e = .returned (.bool (keysB lit keys)) ∧ Below w.heap.size w w' := by
  have HD := Lib.hid (distinct_any K lk ck keys w B hlk hbk hks hK hB)
  have HL := Lib.hid hlk
  have HS := Lib.hid hks
  have HK := Lib.hid hK
  obtain ⟨c0, c1, c2⟩ := hc.cells
  clear hlk hks hK hc
  have hlm : (lk : Int) ≤ 140737488351232 := by omega
  cases lit
  · go_enter Tryd.func37, Tryd.ntmps37
    go_wp2_with fail
    refine HD.out.mono ?_
    rintro e w' ⟨rfl, hb⟩
    have HB := Lib.hid hb
    clear hb
    go_wp2_with fail
    go_ret
    exact ⟨by simp [keysB], HB.out⟩
  · go_enter Tryd.func37, Tryd.ntmps37
    go_wp2_with fail
    go_loop [13] (fun i => ∃ j : Nat, j ≤ lk ∧ i = .int .i64 j ∧ (keys.take j).all nmA = true) (fun i => lk - (intOf i).toNat)
    case atStart => exact ⟨0, Nat.zero_le _, rfl, rfl⟩
    case round =>
      obtain ⟨j, hj, rfl, hal⟩ := hrel
      have HAL := Lib.hid hal
      clear hal
      by_cases hlt : j < lk
      · obtain ⟨a, rfl, hab, hc⟩ := HK.out (by have := HL.out; omega)
        have hjl : j < keys.length := by have := HL.out; omega
        have hcell := hc j _ (List.getElem?_eq_getElem hjl)
        have HN := Lib.hid (name_any keys[j] w (by unfold maxLen; have := HS.out _ (List.getElem_mem hjl); omega))
        have HTK : Hid (keys.take (j + 1) = keys.take j ++ [keys[j]]) := Lib.hid (List.take_succ_eq_append_getElem hjl)
        have HM : Hid (keys[j] ∈ keys) := Lib.hid (List.getElem_mem hjl)
        generalize keys[j] = s at *
        clear hc
        cases hn : nmA s
        · have HN' : Hid (nameL s.data.toList = false) := Lib.hid hn
          have HV : Hid (keysB true keys = false) := Lib.hid (by
            unfold keysB
            rw [show keys.all nmA = false from List.all_eq_false.2 ⟨s, HM.out, by simp [hn]⟩]; rfl)
          clear hn
          go_wp2_with fail
          refine HN.out.mono ?_
          rintro e w' ⟨rfl, rfl⟩
          rw [HN'.out]
          go_wp2_with fail
          go_ret
          exact ⟨by rw [HV.out]; rfl, Below.refl _ _⟩
        · have HN' : Hid (nameL s.data.toList = true) := Lib.hid hn
          have HA1 : Hid ((keys.take (j + 1)).all nmA = true) := Lib.hid (by rw [HTK.out, List.all_append, HAL.out]; simp [hn])
          clear hn
          go_wp2_with fail
          refine HN.out.mono ?_
          rintro e w' ⟨rfl, rfl⟩
          rw [HN'.out]
          go_wp2_with fail
          go_round
          case rel => exact ⟨j + 1, by omega, by go_num, HA1.out⟩
          case measure => simp [intOf]; omega
      · have HV : Hid (keysB true keys = decide keys.Nodup) := Lib.hid (by
          have := HAL.out
          rw [List.take_of_length_le (by have := HL.out; omega)] at this
          unfold keysB; rw [this]; rfl)
        go_wp2_with fail
        refine HD.out.mono ?_
        rintro e w' ⟨rfl, hb⟩
        have HB := Lib.hid hb
        clear hb
        go_wp2_with fail
        go_ret
        exact ⟨by rw [HV.out]; rfl, HB.out⟩
end Go.Proofs.YtcbajgcblfgmgaaDoor
