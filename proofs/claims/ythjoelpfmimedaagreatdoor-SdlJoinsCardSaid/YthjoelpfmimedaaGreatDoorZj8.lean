
/-
  Texts joined: Name Right E8 E5Arg.
-/
import Derived.Test.YthjoelpfmimedaaGreatDoorZj3
import Derived.Test.YthjoelpfmimedaaGreatDoorZj7
namespace Go.Proofs.YthjoelpfmimedaaGreatDoor
open Go.RowKit
def digB (n : Int) : Bool := decide (48 ≤ n) && decide (n ≤ 57)
def letB (n : Int) : Bool := (decide (97 ≤ n) && decide (n ≤ 122)) || (decide (65 ≤ n) && decide (n ≤ 90))
def nmB (n : Int) : Bool := letB n || digB n || n == 95
theorem isDigit_any (n : Int) (w : World) (h0 : 0 ≤ n) (h1 : n ≤ 255) :
    Calls Tryz.prog 88 #[.int .u8 n] w fun e w' => e = .returned (.bool (digB n)) ∧ w = w' := by
  go_enter Tryz.func88, Tryz.ntmps88
  go_wp2
  all_goals go_ret
  all_goals (simp [digB, *]; try omega)
theorem isLetter_any (n : Int) (w : World) (h0 : 0 ≤ n) (h1 : n ≤ 255) :
    Calls Tryz.prog 154 #[.int .u8 n] w fun e w' => e = .returned (.bool (letB n)) ∧ w = w' := by
  go_enter Tryz.func154, Tryz.ntmps154
  go_wp2
  all_goals go_ret
  all_goals simp [letB, *]
  all_goals omega
theorem isNamePart_any (n : Int) (w : World) (h0 : 0 ≤ n) (h1 : n ≤ 255) :
    Calls Tryz.prog 89 #[.int .u8 n] w fun e w' => e = .returned (.bool (nmB n)) ∧ w = w' := by
  go_enter Tryz.func89, Tryz.ntmps89
  go_wp2_with (first | (go_at_call 154; refine (isLetter_any _ _ (by omega) (by omega)).mono ?_; rintro e w' ⟨rfl, rfl⟩) | (go_at_call 88; refine (isDigit_any _ _ (by omega) (by omega)).mono ?_; rintro e w' ⟨rfl, rfl⟩))
  all_goals go_ret
  all_goals simp [nmB, *]
def allNm (l : List UInt8) : Bool := l.all fun c => nmB (c.toNat : Int)
def nameL (l : List UInt8) : Bool := !l.isEmpty && decide (l.length ≤ 64) && !digB ((l.getD 0 0).toNat : Int) && allNm l
theorem all_of_at (l : List UInt8) (p : UInt8 → Bool) (k : Nat) (h : k < l.length) (hp : p l[k] = false) : l.all p = false := by
  rw [List.all_eq_false]; exact ⟨l[k], List.getElem_mem h, by simp [hp]⟩
theorem all_take_succ (l : List UInt8) (p : UInt8 → Bool) (k : Nat) (h : k < l.length) (ha : (l.take k).all p = true) (hp : p l[k] = true) : (l.take (k+1)).all p = true := by
  rw [take_snoc l k h, List.all_append, ha]; simp [hp]
theorem name_empty (s : ByteArray) (w : World) (h : s.toList = []) :
    Calls Tryz.prog 43 #[.string s] w fun e w' => e = .returned (.bool false) ∧ w = w' := by
  go_enter Tryz.func43, Tryz.ntmps43
  go_wp2_with fail
  go_ret
  exact ⟨rfl, rfl⟩
theorem name_long (s : ByteArray) (w : World) (hs : s.size ≤ maxLen) (h : 64 < s.size) :
    Calls Tryz.prog 43 #[.string s] w fun e w' => e = .returned (.bool false) ∧ w = w' := by
  unfold maxLen at hs
  have h2 : s.toList.isEmpty = false := isEmpty_of (by omega)
  have h3 : s.toList ≠ [] := ne_nil_of (by omega)
  go_enter Tryz.func43, Tryz.ntmps43
  go_wp2_with fail
  go_ret
  exact ⟨rfl, rfl⟩
theorem name_digit (s : ByteArray) (w : World) (h0 : 0 < s.size) (h : s.size ≤ 64) (hd : digB s[0].toNat = true) :
    Calls Tryz.prog 43 #[.string s] w fun e w' => e = .returned (.bool false) ∧ w = w' := by
  have h2 : s.toList.isEmpty = false := isEmpty_of (by omega)
  have h3 : s.toList ≠ [] := ne_nil_of (by omega)
  have hb := byte_lt s[0]
  go_enter Tryz.func43, Tryz.ntmps43
  go_wp2_with (go_at_call 88; refine (isDigit_any _ _ (by omega) (by omega)).mono ?_; rintro e w' ⟨rfl, rfl⟩)
  go_ret
  exact ⟨rfl, rfl⟩
theorem name_loop (s : ByteArray) (w : World) (h0 : 0 < s.size) (h : s.size ≤ 64) (hd : digB s[0].toNat = false) :
    Calls Tryz.prog 43 #[.string s] w fun e w' => e = .returned (.bool (allNm s.data.toList)) ∧ w = w' := by
  have h2 : s.toList.isEmpty = false := isEmpty_of (by omega)
  have h3 : s.toList ≠ [] := ne_nil_of (by omega)
  have hb := byte_lt s[0]
  go_enter Tryz.func43, Tryz.ntmps43
  go_wp2_with (go_at_call 88; refine (isDigit_any _ _ (by omega) (by omega)).mono ?_; rintro e w' ⟨rfl, rfl⟩)
  go_loop [3] (fun i => ∃ k : Nat, k ≤ s.size ∧ i = .int .i64 k ∧ (s.data.toList.take k).all (fun c => nmB (c.toNat : Int)) = true) (fun i => s.size - (intOf i).toNat)
  case atStart => exact ⟨0, Nat.zero_le _, rfl, rfl⟩
  case round =>
    obtain ⟨k, hk, rfl, hall⟩ := hrel
    have HA := Lib.hid hall
    clear hall
    by_cases hlt : k < s.size
    · have hbk := byte_lt s[k]
      have e : s.data.toList[k]'(by simpa using hlt) = s[k] := rfl
      cases hn : nmB (s[k].toNat : Int)
      · have H1 : Hid (allNm s.data.toList = false) := Lib.hid (all_of_at s.data.toList (fun c => nmB (c.toNat : Int)) k (by simpa using hlt) hn)
        clear e
        go_wp2_with (go_at_call 89; refine (isNamePart_any _ _ (by omega) (by omega)).mono ?_; rintro e w' ⟨rfl, rfl⟩)
        go_ret
        exact ⟨by rw [H1.out]; rfl, rfl⟩
      · have H1 := Lib.hid (all_take_succ s.data.toList (fun c => nmB (c.toNat : Int)) k (by simpa using hlt) HA.out hn)
        clear e
        go_wp2_with (go_at_call 89; refine (isNamePart_any _ _ (by omega) (by omega)).mono ?_; rintro e w' ⟨rfl, rfl⟩)
        go_round
        case rel => exact ⟨k + 1, by omega, by go_num, H1.out⟩
        case measure => simp [intOf]; omega
    · have H1 : Hid (allNm s.data.toList = true) := by
        have := HA.out
        rw [List.take_of_length_le (by simp; omega)] at this
        exact Lib.hid this
      go_wp2
      go_ret
      exact ⟨by rw [H1.out]; rfl, rfl⟩
theorem name_any (s : ByteArray) (w : World) (hs : s.size ≤ maxLen) :
    Calls Tryz.prog 43 #[.string s] w fun e w' => e = .returned (.bool (nameL s.data.toList)) ∧ w = w' := by
  have hl := size_eq s
  by_cases h0 : s.size = 0
  · have e : s.data.toList = [] := List.eq_nil_of_length_eq_zero (by omega)
    rw [e]; exact name_empty s w (nil_of h0)
  have hne : s.data.toList.isEmpty = false := by
    rw [← Lib.toList_data]; exact isEmpty_of (by omega)
  by_cases h1 : 64 < s.size
  · have e : nameL s.data.toList = false := by unfold nameL; rw [hl]; simp; omega
    rw [e]; exact name_long s w hs h1
  have e0 : s.data.toList.getD 0 0 = s[0]'(by omega) := by
    rw [List.getD_eq_getElem?_getD, List.getElem?_eq_getElem (by omega)]; rfl
  cases hd : digB ((s[0]'(by omega)).toNat : Int)
  · have e : nameL s.data.toList = allNm s.data.toList := by
      unfold nameL; rw [e0, hd, hne, hl]; simp; omega
    rw [e]; exact name_loop s w (by omega) (by omega) hd
  · have e : nameL s.data.toList = false := by unfold nameL; rw [e0, hd]; simp
    rw [e]; exact name_digit s w (by omega) (by omega) hd
def letU (n : Int) : Bool := letB n || n == 95
theorem nm_of (n : Int) : nmB n = (letU n || digB n) := by unfold nmB letU; cases letB n <;> cases digB n <;> simp
end Go.Proofs.YthjoelpfmimedaaGreatDoor
namespace Go.Proofs.YthjoelpfmimedaaGreatDoor
open Go.RowKit
def nmA (s : ByteArray) : Bool := nameL s.data.toList
def enumB (s : ByteArray) : Bool := !decide (s = ⟨#[116, 114, 117, 101]⟩) && !decide (s = ⟨#[102, 97, 108, 115, 101]⟩) && !decide (s = ⟨#[110, 117, 108, 108]⟩) && nmA s
def keysB (lit : Bool) (ks : List ByteArray) : Bool := (!lit || ks.all nmA) && decide ks.Nodup
def leafB (is : List VT) (ks : List ByteArray) : Bool := decide (is.length = 0) && decide (ks.length = 0)
def nodeB (lit : Bool) : VT → Bool
  | .mk k n s is ks =>
    if k = 0 then decide (n = 0) && decide (s.size = 0) && leafB is ks
    else if k = 1 then (decide (n = 0) || decide (n = 1)) && decide (s.size = 0) && leafB is ks
    else if k = 2 then decide (s.size = 0) && leafB is ks
    else if k = 3 then decide (n = 0) && leafB is ks
    else if k = 4 then decide (n = 0) && enumB s && leafB is ks
    else if k = 5 then decide (n = 0) && decide (s.size = 0) && decide (ks.length = 0)
    else if k = 6 then decide (n = 0) && decide (s.size = 0) && decide (ks.length = is.length) && keysB lit ks
    else if k = 7 then lit && decide (n = 0) && nmA s && leafB is ks
    else false
theorem isLeaf_any (t : VT) (w : World) (B : Nat) (v : Value) (h : Rd w B v t) :
    Calls Tryz.prog 256 #[v] w fun e w' => e = .returned (.bool (leafB t.items t.keys)) ∧ Below w.heap.size w w' := by
  cases h with
  | @mk k n s A li ci K lk ck items keys V hk hn hs hks hli hlk hbi hbk hA hr hK =>
  have HV : Hid (leafB items keys = (decide (li = 0) && decide (lk = 0))) := Lib.hid (by unfold leafB; rw [hli, hlk])
  show Calls _ _ _ _ fun e w' => e = .returned (.bool (leafB items keys)) ∧ _
  clear hA hr hli hlk hK hks hn hs hk
  by_cases h1 : li = 0
  · subst h1
    by_cases h2 : lk = 0
    · subst h2
      go_enter Tryz.func256, Tryz.ntmps256
      go_wp2_with fail
      go_ret
      exact ⟨by rw [HV.out]; rfl, (Below.refl _ _).alloc (Nat.le_refl _) _⟩
    · have h2' : decide (lk = 0) = false := by simpa using h2
      have h2'' : ((lk : Int) == 0) = false := by rw [beq_eq_false_iff_ne]; omega
      go_enter Tryz.func256, Tryz.ntmps256
      go_wp2_with fail
      go_ret
      exact ⟨by rw [HV.out]; simp [h2], (Below.refl _ _).alloc (Nat.le_refl _) _⟩
  · have h1' : decide (li = 0) = false := by simpa using h1
    have h1'' : ((li : Int) == 0) = false := by rw [beq_eq_false_iff_ne]; omega
    go_enter Tryz.func256, Tryz.ntmps256
    go_wp2_with fail
    go_ret
    exact ⟨by rw [HV.out]; simp [h1], (Below.refl _ _).alloc (Nat.le_refl _) _⟩
theorem list_eq (s : ByteArray) (l : List UInt8) : (s.toList == l) = decide (s = ⟨l.toArray⟩) := by
  rw [Lib.toList_data, Bool.eq_iff_iff]
  obtain ⟨d⟩ := s
  simp only [beq_iff_eq, decide_eq_true_eq, ByteArray.mk.injEq]
  constructor
  · rintro rfl; simp
  · rintro rfl; simp
set_option maxHeartbeats 1000000 in
theorem isEnumName_any (s : ByteArray) (w : World) (hs : s.size ≤ 140737488351232) :
    Calls Tryz.prog 257 #[.string s] w fun e w' => e = .returned (.bool (enumB s)) ∧ w = w' := by
  have e1 := list_eq s [116, 114, 117, 101]
  have e2 := list_eq s [102, 97, 108, 115, 101]
  have e3 := list_eq s [110, 117, 108, 108]
  have HV : Hid (enumB s = (!decide (s = ⟨#[116, 114, 117, 101]⟩) && !decide (s = ⟨#[102, 97, 108, 115, 101]⟩) && !decide (s = ⟨#[110, 117, 108, 108]⟩) && nmA s)) := Lib.hid rfl
  have HN := Lib.hid (name_any s w (by unfold maxLen; omega))
  rw [← e1, ← e2, ← e3] at HV
  cases h1 : (s.toList == [116, 114, 117, 101])
  · cases h2 : (s.toList == [102, 97, 108, 115, 101])
    · cases h3 : (s.toList == [110, 117, 108, 108])
      · rw [h1, h2, h3] at HV
        clear e1 e2 e3
        go_enter Tryz.func257, Tryz.ntmps257
        go_wp2_with fail
        refine HN.out.mono ?_
        rintro e w' ⟨rfl, rfl⟩
        go_wp2_with fail
        go_ret
        exact ⟨by rw [HV.out]; rfl, rfl⟩
      · rw [h1, h2, h3] at HV
        clear e1 e2 e3
        go_enter Tryz.func257, Tryz.ntmps257
        go_wp2_with fail
        go_ret
        exact ⟨by rw [HV.out]; rfl, rfl⟩
    · rw [h1, h2] at HV
      clear e1 e2 e3
      go_enter Tryz.func257, Tryz.ntmps257
      go_wp2_with fail
      go_ret
      exact ⟨by rw [HV.out]; rfl, rfl⟩
  · rw [h1] at HV
    clear e1 e2 e3
    go_enter Tryz.func257, Tryz.ntmps257
    go_wp2_with fail
    go_ret
    exact ⟨by rw [HV.out]; rfl, rfl⟩
def Chk (w : World) (c : Nat) (lit : Bool) (r : Int) : Prop := w.heap[c]? = some (.cells #[.bool lit, .int .i64 r] 219 (0, 0))
theorem Chk.cells {w : World} {c : Nat} {lit : Bool} {r : Int} (h : Chk w c lit r) : w.cell? ⟨c, 0, none⟩ = some (.bool lit) ∧ w.cell? ⟨c, 1, none⟩ = some (.int .i64 r) ∧ w.frozen? ⟨c, 1, none⟩ = false := by
  refine ⟨?_, ?_, by unfold Chk at h; simp [World.frozen?, h]⟩ <;> rw [cell_of_row _ _ _ _ _ _ h] <;> rfl
theorem Chk.lt {w : World} {c : Nat} {lit : Bool} {r : Int} (h : Chk w c lit r) : c < w.heap.size := by
  unfold Chk at h
  rcases Nat.lt_or_ge c w.heap.size with h' | h'
  · exact h'
  · rw [Array.getElem?_eq_none h'] at h; cases h
theorem Chk.kept {w w' : World} {c B : Nat} {lit : Bool} {r : Int} (h : Chk w c lit r) (hb : Below B w w') (hc : c < B) : Chk w' c lit r := (hb.block c hc).trans h
theorem keys_any (lit : Bool) (r : Int) (c : Nat) (K : Option Addr) (lk ck : Nat) (keys : List ByteArray) (w : World) (B : Nat) (hc : Chk w c lit r) (hlk : keys.length = lk) (hbk : lk * 16 ≤ 140737488351232) (hks : ∀ s ∈ keys, s.size ≤ 140737488351232) (hK : KeysAt w B K keys) (hB : B ≤ w.heap.size) :
    Calls Tryz.prog 258 #[.pointer (some ⟨c, 0, none⟩), .slice K lk ck] w fun e w' => e = .returned (.bool (keysB lit keys)) ∧ Below w.heap.size w w' := by
  have HD := Lib.hid (distinct_any K lk ck keys w B hlk hbk hks hK hB)
  have HL := Lib.hid hlk
  have HS := Lib.hid hks
  have HK := Lib.hid hK
  obtain ⟨c0, c1, c2⟩ := hc.cells
  clear hlk hks hK hc
  have hlm : (lk : Int) ≤ 140737488351232 := by omega
  cases lit
  · go_enter Tryz.func258, Tryz.ntmps258
    go_wp2_with fail
    refine HD.out.mono ?_
    rintro e w' ⟨rfl, hb⟩
    have HB := Lib.hid hb
    clear hb
    go_wp2_with fail
    go_ret
    exact ⟨by simp [keysB], HB.out⟩
  · go_enter Tryz.func258, Tryz.ntmps258
    go_wp2_with fail
    go_loop [13] (fun i => ∃ j : Nat, j ≤ lk ∧ i = .int .i64 j ∧ (keys.take j).all nmA = true) (fun i => lk - (intOf i).toNat)
    case atStart => exact ⟨0, Nat.zero_le _, rfl, rfl⟩
    case round =>
      obtain ⟨j, hj, rfl, hal⟩ := hrel
      have HAL := Lib.hid hal
      clear hal
      by_cases hlt : j < lk
      · obtain ⟨a, rfl, hab, hc⟩ := HK.out (by have := HL.out; omega)
        have hjl : j < keys.length := by have := HL.out; omega
        have hcell := hc j _ (List.getElem?_eq_getElem hjl)
        have HN := Lib.hid (name_any keys[j] w (by unfold maxLen; have := HS.out _ (List.getElem_mem hjl); omega))
        have HTK : Hid (keys.take (j + 1) = keys.take j ++ [keys[j]]) := Lib.hid (List.take_succ_eq_append_getElem hjl)
        have HM : Hid (keys[j] ∈ keys) := Lib.hid (List.getElem_mem hjl)
        generalize keys[j] = s at *
        clear hc
        cases hn : nmA s
        · have HN' : Hid (nameL s.data.toList = false) := Lib.hid hn
          have HV : Hid (keysB true keys = false) := Lib.hid (by
            unfold keysB
            rw [show keys.all nmA = false from List.all_eq_false.2 ⟨s, HM.out, by simp [hn]⟩]; rfl)
          clear hn
          go_wp2_with fail
          refine HN.out.mono ?_
          rintro e w' ⟨rfl, rfl⟩
          rw [HN'.out]
          go_wp2_with fail
          go_ret
          exact ⟨by rw [HV.out]; rfl, Below.refl _ _⟩
        · have HN' : Hid (nameL s.data.toList = true) := Lib.hid hn
          have HA1 : Hid ((keys.take (j + 1)).all nmA = true) := Lib.hid (by rw [HTK.out, List.all_append, HAL.out]; simp [hn])
          clear hn
          go_wp2_with fail
          refine HN.out.mono ?_
          rintro e w' ⟨rfl, rfl⟩
          rw [HN'.out]
          go_wp2_with fail
          go_round
          case rel => exact ⟨j + 1, by omega, by go_num, HA1.out⟩
          case measure => simp [intOf]; omega
      · have HV : Hid (keysB true keys = decide keys.Nodup) := Lib.hid (by
          have := HAL.out
          rw [List.take_of_length_le (by have := HL.out; omega)] at this
          unfold keysB; rw [this]; rfl)
        go_wp2_with fail
        refine HD.out.mono ?_
        rintro e w' ⟨rfl, hb⟩
        have HB := Lib.hid hb
        clear hb
        go_wp2_with fail
        go_ret
        exact ⟨by rw [HV.out]; rfl, HB.out⟩
end Go.Proofs.YthjoelpfmimedaaGreatDoor
namespace Go.Proofs.YthjoelpfmimedaaGreatDoor
open Go.RowKit
def isVal (ts : List Tk) : Bool := decide ((hd ts).1 = 2) || (decide ((hd ts).1 = 3) || (decide ((hd ts).1 = 4) || (isSg [91] ts || isSg [123] ts)))
def bvR (lv : Nat) (ts : List Tk) (n : Nat) : Except Er Unit := if isVal ts = false then .error (erR ts 3) else if 24 < lv then .error (erR ts 5) else if 4096 < n + 1 then .error (erR ts 4) else .ok ()
def nmV (x : ByteArray) : VT := if x = ⟨#[116, 114, 117, 101]⟩ then .mk 1 1 ⟨#[]⟩ [] [] else if x = ⟨#[102, 97, 108, 115, 101]⟩ then .mk 1 0 ⟨#[]⟩ [] [] else if x = ⟨#[110, 117, 108, 108]⟩ then .mk 0 0 ⟨#[]⟩ [] [] else .mk 4 0 x [] []
theorem PSt.vars {w : World} {p : Nat} {ts : List Tk} {n : Nat} (h : PSt w p ts n) : w.cell? ⟨p, 2, none⟩ = some (.bool false) := by
  obtain ⟨A, c, hb, _⟩ := h.box
  exact hb.cell 2 _ rfl
set_option maxRecDepth 100000 in
set_option maxHeartbeats 2000000 in
theorem pisValue_any {w : World} {p : Nat} {ts : List Tk} {n : Nat} (h : PSt w p ts n) : Calls Tryz.prog 286 #[pP p] w (fun e w' => e = .returned (.bool (isVal ts)) ∧ Below w.heap.size w w') := by
  have hf0 := fld0
  obtain ⟨⟨k, tx, i⟩, r, rfl⟩ := h.good.ne
  have HP := Lib.hid h
  have HV : Hid (isVal ((k, tx, i) :: r) = (decide (k = 2) || (decide (k = 3) || (decide (k = 4) || (isSg [91] ((k, tx, i) :: r) || isSg [123] ((k, tx, i) :: r)))))) := Lib.hid rfl
  have hnx : Calls Tryz.prog 53 #[pP p] w fun e w' => e = .returned (.agg #[.int .i64 k, .string ⟨tx.toArray⟩, .int .i64 i]) ∧ Below w.heap.size w w' := pnext_any h
  have HN := Lib.hid hnx
  clear h hnx
  generalize isVal ((k, tx, i) :: r) = RB at *
  by_cases k2 : k = 2
  · have HV2 : Hid (RB = true) := Lib.hid (by rw [HV.out, decide_eq_true k2]; rfl)
    subst k2
    go_enter Tryz.func286, Tryz.ntmps286
    go_wp2_with fail
    refine HN.out.mono ?_
    rintro e w1 ⟨rfl, hb⟩
    have HB := Lib.hid hb
    clear hb
    go_wp2_with fail
    go_ret
    exact ⟨by rw [HV2.out]; rfl, HB.out⟩
  have j2 : (k == 2) = false := by rw [beq_eq_false_iff_ne]; exact k2
  by_cases k3 : k = 3
  · have HV2 : Hid (RB = true) := Lib.hid (by rw [HV.out, decide_eq_true k3]; simp)
    subst k3
    clear k2
    go_enter Tryz.func286, Tryz.ntmps286
    go_wp2_with fail
    refine HN.out.mono ?_
    rintro e w1 ⟨rfl, hb⟩
    have HB := Lib.hid hb
    clear hb
    go_wp2_with fail
    go_ret
    exact ⟨by rw [HV2.out]; rfl, HB.out⟩
  have j3 : (k == 3) = false := by rw [beq_eq_false_iff_ne]; exact k3
  by_cases k4 : k = 4
  · have HV2 : Hid (RB = true) := Lib.hid (by rw [HV.out, decide_eq_true k4]; simp)
    subst k4
    clear k2 k3
    go_enter Tryz.func286, Tryz.ntmps286
    go_wp2_with fail
    refine HN.out.mono ?_
    rintro e w1 ⟨rfl, hb⟩
    have HB := Lib.hid hb
    clear hb
    go_wp2_with fail
    go_ret
    exact ⟨by rw [HV2.out]; rfl, HB.out⟩
  have j4 : (k == 4) = false := by rw [beq_eq_false_iff_ne]; exact k4
  have HV3 : Hid (RB = (isSg [91] ((k, tx, i) :: r) || isSg [123] ((k, tx, i) :: r))) := Lib.hid (by rw [HV.out, decide_eq_false k2, decide_eq_false k3, decide_eq_false k4]; rfl)
  clear k2 k3 k4 HV
  have h1 := fun (W : World) (hb : Below w.heap.size w W) => pisSign_any (HP.out.stay hb) ⟨#[91]⟩
  have h2 := fun (W : World) (hb : Below w.heap.size w W) => pisSign_any (HP.out.stay hb) ⟨#[123]⟩
  cases b1 : isSg [91] ((k, tx, i) :: r) with
  | true =>
    rw [show isSg (⟨#[91]⟩ : ByteArray).data.toList ((k, tx, i) :: r) = true from b1] at h1
    have H1 := Lib.hid h1
    have HV4 : Hid (RB = true) := Lib.hid (by rw [HV3.out, b1]; rfl)
    clear h1 h2 b1
    go_enter Tryz.func286, Tryz.ntmps286
    go_wp2_with fail
    refine HN.out.mono ?_
    rintro e w1 ⟨rfl, hb⟩
    have HB := Lib.hid hb
    clear hb
    go_wp2_with fail
    refine (H1.out _ HB.out).mono ?_
    rintro e w2 ⟨rfl, hb⟩
    have HB2 := Lib.hid (HB.out.trans (hb.mono HB.out.size))
    clear hb
    go_wp2_with fail
    go_ret
    exact ⟨by rw [HV4.out]; rfl, HB2.out⟩
  | false =>
    rw [show isSg (⟨#[91]⟩ : ByteArray).data.toList ((k, tx, i) :: r) = false from b1] at h1
    have H1 := Lib.hid h1
    cases b2 : isSg [123] ((k, tx, i) :: r) with
    | true =>
      rw [show isSg (⟨#[123]⟩ : ByteArray).data.toList ((k, tx, i) :: r) = true from b2] at h2
      have H2 := Lib.hid h2
      have HV4 : Hid (RB = true) := Lib.hid (by rw [HV3.out, b1, b2]; rfl)
      clear h1 h2 b1 b2
      go_enter Tryz.func286, Tryz.ntmps286
      go_wp2_with fail
      refine HN.out.mono ?_
      rintro e w1 ⟨rfl, hb⟩
      have HB := Lib.hid hb
      clear hb
      go_wp2_with fail
      refine (H1.out _ HB.out).mono ?_
      rintro e w2 ⟨rfl, hb⟩
      have HB2 := Lib.hid (HB.out.trans (hb.mono HB.out.size))
      clear hb
      go_wp2_with fail
      refine (H2.out _ HB2.out).mono ?_
      rintro e w3 ⟨rfl, hb⟩
      have HB3 := Lib.hid (HB2.out.trans (hb.mono HB2.out.size))
      have c2 := (HP.out.stay HB3.out).vars
      clear hb
      go_wp2_with fail
      go_ret
      exact ⟨by rw [HV4.out]; rfl, HB3.out⟩
    | false =>
      rw [show isSg (⟨#[123]⟩ : ByteArray).data.toList ((k, tx, i) :: r) = false from b2] at h2
      have H2 := Lib.hid h2
      have HV4 : Hid (RB = false) := Lib.hid (by rw [HV3.out, b1, b2]; rfl)
      clear h1 h2 b1 b2
      go_enter Tryz.func286, Tryz.ntmps286
      go_wp2_with fail
      refine HN.out.mono ?_
      rintro e w1 ⟨rfl, hb⟩
      have HB := Lib.hid hb
      clear hb
      go_wp2_with fail
      refine (H1.out _ HB.out).mono ?_
      rintro e w2 ⟨rfl, hb⟩
      have HB2 := Lib.hid (HB.out.trans (hb.mono HB.out.size))
      clear hb
      go_wp2_with fail
      refine (H2.out _ HB2.out).mono ?_
      rintro e w3 ⟨rfl, hb⟩
      have HB3 := Lib.hid (HB2.out.trans (hb.mono HB2.out.size))
      have c2 := (HP.out.stay HB3.out).vars
      clear hb
      go_wp2_with fail
      go_ret
      exact ⟨by rw [HV4.out]; rfl, HB3.out⟩
theorem PSt.count {w : World} {p : Nat} {ts : List Tk} {n m : Nat} (h : PSt w p ts n) (hm : m ≤ 4097) : PSt (w.setCell ⟨p, 3, none⟩ (.int .i64 m)) p ts m := by
  obtain ⟨A, c, hb, hc, ht⟩ := h.box
  have hbel : Below p w (w.setCell ⟨p, 3, none⟩ (.int .i64 m)) := (Below.refl p w).setCell (p := ⟨p, 3, none⟩) (Nat.le_refl _) _
  exact ⟨⟨A, c, hb.n4 _, hc, ht.kept hbel⟩, h.good, hm, fun w2 h2 => h.laid w2 (hbel.trans h2)⟩
theorem PSt.cells {w : World} {p : Nat} {ts : List Tk} {n : Nat} (h : PSt w p ts n) : w.cell? ⟨p, 3, none⟩ = some (.int .i64 n) ∧ w.frozen? ⟨p, 3, none⟩ = false := by
  obtain ⟨A, c, hb, _⟩ := h.box
  exact ⟨hb.cell 3 _ rfl, hb.frz 3⟩
set_option maxRecDepth 100000 in
set_option maxHeartbeats 4000000 in
theorem pbeginValue_any {w : World} {p : Nat} {ts : List Tk} {n : Nat} (h : PSt w p ts n) (hn : n ≤ 4096) (lv : Nat) (x : Int) (hx : x = lv) : Calls Tryz.prog 269 #[pP p, .int .i64 x] w (fun e w' => (bvR lv ts n = .ok () ∧ e = .returned (.tuple #[]) ∧ PSt w' p ts (n + 1) ∧ Tw p w.heap.size w w') ∨ (∃ z, bvR lv ts n = .error z ∧ e = badV z ∧ Tw p w.heap.size w w')) := by
  have HP := Lib.hid h
  have HV : Hid (bvR lv ts n = if isVal ts = false then .error (erR ts 3) else if 24 < lv then .error (erR ts 5) else if 4096 < n + 1 then .error (erR ts 4) else .ok ()) := Lib.hid rfl
  have hc := pisValue_any h
  clear h
  generalize bvR lv ts n = R at *
  cases hv : isVal ts with
  | false =>
    rw [hv] at hc
    have HC := Lib.hid hc
    have HV2 : Hid (R = .error (erR ts 3)) := Lib.hid (by rw [HV.out, hv]; rfl)
    clear hc hv HV
    go_enter Tryz.func269, Tryz.ntmps269
    go_wp2_with fail
    refine HC.out.mono ?_
    rintro e w1 ⟨rfl, hb⟩
    have HB := Lib.hid hb
    clear hb
    go_wp2_with fail
    exact fail_region 7 (HP.out.stay HB.out) (by kernel_rfl) rfl (by kernel_rfl) fun a w3 hf hb => ⟨hf.1.trans rfl, .inr ⟨_, HV2.out, rfl, (Tw.of HB.out).step HB.out.size (.of hb)⟩⟩
  | true =>
    rw [hv] at hc
    have HC := Lib.hid hc
    have HV1 : Hid (R = if 24 < lv then .error (erR ts 5) else if 4096 < n + 1 then .error (erR ts 4) else .ok ()) := Lib.hid (by rw [HV.out, hv]; rfl)
    clear hc hv HV
    by_cases hl : 24 < lv
    · have hl' : x > 24 := by omega
      have HV2 : Hid (R = .error (erR ts 5)) := Lib.hid (by rw [HV1.out, if_pos hl])
      clear hl HV1 hx
      go_enter Tryz.func269, Tryz.ntmps269
      go_wp2_with fail
      refine HC.out.mono ?_
      rintro e w1 ⟨rfl, hb⟩
      have HB := Lib.hid hb
      clear hb
      go_wp2_with fail
      exact fail_region 16 (HP.out.stay HB.out) (by kernel_rfl) rfl (by kernel_rfl) fun a w3 hf hb => ⟨hf.1.trans rfl, .inr ⟨_, HV2.out, rfl, (Tw.of HB.out).step HB.out.size (.of hb)⟩⟩
    · have hl' : ¬ x > 24 := by omega
      have HV2 : Hid (R = if 4096 < n + 1 then .error (erR ts 4) else .ok ()) := Lib.hid (by rw [HV1.out, if_neg hl])
      clear hl HV1 hx
      by_cases hn4 : 4096 < n + 1
      · have hn5 : (n : Int) + 1 > 4096 := by omega
        have hn6 : (n : Int) ≤ 4097 := by omega
        have HV3 : Hid (R = .error (erR ts 4)) := Lib.hid (by rw [HV2.out, if_pos hn4])
        clear hn4 HV2
        go_enter Tryz.func269, Tryz.ntmps269
        go_wp2_with fail
        refine HC.out.mono ?_
        rintro e w1 ⟨rfl, hb⟩
        have HB := Lib.hid hb
        have HP1 := Lib.hid (HP.out.stay hb)
        clear hb
        obtain ⟨q1, f1⟩ := HP1.out.cells
        have hHT : Tw p w.heap.size w w1 := .of HB.out
        have HT1 := Lib.hid hHT
        clear hHT
        go_wp2_with fail
        have HP2 : Hid (PSt (w1.setCell ⟨p, 3, none⟩ (.int .i64 ((n : Int) + 1))) p ts (n + 1)) := Lib.hid (HP1.out.count (m := n + 1) (by omega))
        exact fail_region 35 HP2.out (by kernel_rfl) rfl (by kernel_rfl) fun a w3 hf hb => ⟨hf.1.trans rfl, .inr ⟨_, HV3.out, rfl, (HT1.out.set 3 (.int .i64 ((n : Int) + 1))).trans ((Tw.of hb : Tw p _ _ w3).mono (by have := HB.out.size; simp [World.setCell]; omega))⟩⟩
      · have hn5 : ¬ (n : Int) + 1 > 4096 := by omega
        have hn6 : (n : Int) ≤ 4096 := by omega
        have HV3 : Hid (R = .ok ()) := Lib.hid (by rw [HV2.out, if_neg hn4])
        clear hn4 HV2
        go_enter Tryz.func269, Tryz.ntmps269
        go_wp2_with fail
        refine HC.out.mono ?_
        rintro e w1 ⟨rfl, hb⟩
        have HB := Lib.hid hb
        have HP1 := Lib.hid (HP.out.stay hb)
        clear hb
        obtain ⟨q1, f1⟩ := HP1.out.cells
        have hHT : Tw p w.heap.size w w1 := .of HB.out
        have HT1 := Lib.hid hHT
        clear hHT
        go_wp2_with fail
        have HP2 : Hid (PSt (w1.setCell ⟨p, 3, none⟩ (.int .i64 ((n : Int) + 1))) p ts (n + 1)) := Lib.hid (HP1.out.count (m := n + 1) (by omega))
        go_end0
        exact .inl ⟨HV3.out, rfl, HP2.out, HT1.out.set 3 _⟩
def ValPost (w : World) (p : Nat) (n len : Nat) (r : Except Er (VT × List Tk × Nat)) (e : Ending) (w' : World) : Prop :=
  (∃ t ts m v, r = .ok (t, ts, m) ∧ e = .returned v ∧ RdS w' (fun b => w.heap.size ≤ b ∧ b < w'.heap.size) v t ∧ PSt w' p ts m ∧ Tw p w.heap.size w w' ∧ n < m ∧ m ≤ 4096 ∧ ts.length < len) ∨ (∃ x, r = .error x ∧ e = badV x ∧ Tw p w.heap.size w w')
theorem rd_simple (w : World) (S : Nat → Prop) (k n : Int) (s : ByteArray) (hk : small k) (hn : small n) (hs : s.size ≤ 140737488351232) : RdS w S (.agg #[.int .i64 k, .int .i64 n, .string s, .slice none 0 0, .slice none 0 0]) (.mk k n s [] []) :=
  .mk (fun _ => undef) hk hn hs (by simp) rfl rfl (by omega) (by omega) (fun h => absurd h (Nat.lt_irrefl _)) (fun i t h => by simp at h) (fun h => by simp at h)
theorem bool_t (w : World) : Calls Tryz.prog 287 #[.bool true] w fun e w' => e = .returned (.agg #[.int .i64 1, .int .i64 1, .string ⟨#[]⟩, .slice none 0 0, .slice none 0 0]) ∧ Below w.heap.size w w' := bool_any true w
theorem bool_f (w : World) : Calls Tryz.prog 287 #[.bool false] w fun e w' => e = .returned (.agg #[.int .i64 1, .int .i64 0, .string ⟨#[]⟩, .slice none 0 0, .slice none 0 0]) ∧ Below w.heap.size w w' := bool_any false w
theorem nm_eq (x : ByteArray) (l : List UInt8) : (x.toList == l) = decide (x = ⟨l.toArray⟩) := list_eq x l
set_option maxRecDepth 100000 in
set_option maxHeartbeats 4000000 in
theorem pnamed_any (x : ByteArray) (hx : x.size ≤ 1000000) (w : World) : Calls Tryz.prog 270 #[.string x] w (fun e w' => (∃ k n s, e = .returned (.agg #[.int .i64 k, .int .i64 n, .string s, .slice none 0 0, .slice none 0 0]) ∧ nmV x = .mk k n s [] [] ∧ small k ∧ small n ∧ s.size ≤ 1000000) ∧ Below w.heap.size w w') := by
  have e1 := nm_eq x [116, 114, 117, 101]
  have e2 := nm_eq x [102, 97, 108, 115, 101]
  have e3 := nm_eq x [110, 117, 108, 108]
  have HX := Lib.hid hx
  have HV : Hid (nmV x = if x = ⟨#[116, 114, 117, 101]⟩ then .mk 1 1 ⟨#[]⟩ [] [] else if x = ⟨#[102, 97, 108, 115, 101]⟩ then .mk 1 0 ⟨#[]⟩ [] [] else if x = ⟨#[110, 117, 108, 108]⟩ then .mk 0 0 ⟨#[]⟩ [] [] else .mk 4 0 x [] []) := Lib.hid rfl
  have hX : Bk (w.alloc (.cells #[.int .i64 0, .int .i64 0, .string ⟨#[]⟩, .slice none 0 0, .slice none 0 0] 59 (0, 0))) w.heap.size #[.int .i64 0, .int .i64 0, .string ⟨#[]⟩, .slice none 0 0, .slice none 0 0] 59 := Bk.new _ _ _
  have HX0 := Lib.hid hX
  have HB0 := Lib.hid (below_new w (.cells #[.int .i64 0, .int .i64 0, .string ⟨#[]⟩, .slice none 0 0, .slice none 0 0] 59 (0, 0)))
  generalize nmV x = V at *
  clear hx hX
  by_cases h1 : x = ⟨#[116, 114, 117, 101]⟩
  · rw [decide_eq_true h1] at e1
    have HV2 : Hid (V = .mk 1 1 ⟨#[]⟩ [] []) := Lib.hid (by rw [HV.out, if_pos h1])
    clear h1 e2 e3 HV
    go_enter Tryz.func270, Tryz.ntmps270
    go_wp2_with fail
    refine (bool_t _).mono ?_
    rintro e w1 ⟨rfl, hb⟩
    have hx1 := HX0.out.stay hb
    have HB1 := Lib.hid (HB0.out.trans (hb.mono HB0.out.size))
    have x0 := hx1.cell 0 _ rfl
    have x1 := hx1.cell 1 _ rfl
    have x2 := hx1.cell 2 _ rfl
    have x3 := hx1.cell 3 _ rfl
    have x4 := hx1.cell 4 _ rfl
    have g0 := hx1.frz 0
    have g1 := hx1.frz 1
    have g2 := hx1.frz 2
    have g3 := hx1.frz 3
    have g4 := hx1.frz 4
    have HZ := Lib.hid (((((hx1.set 0 (.int .i64 1)).set 1 (.int .i64 1)).set 2 (.string ⟨#[]⟩)).set 3 (.slice none 0 0)).set 4 (.slice none 0 0))
    have HB2 := Lib.hid (((((HB1.out.setCell (p := ⟨w.heap.size, 0, none⟩) (Nat.le_refl _) (.int .i64 1)).setCell (p := ⟨w.heap.size, 1, none⟩) (Nat.le_refl _) (.int .i64 1)).setCell (p := ⟨w.heap.size, 2, none⟩) (Nat.le_refl _) (.string ⟨#[]⟩)).setCell (p := ⟨w.heap.size, 3, none⟩) (Nat.le_refl _) (.slice none 0 0)).setCell (p := ⟨w.heap.size, 4, none⟩) (Nat.le_refl _) (.slice none 0 0))
    clear hb hx1
    go_wp2_with fail
    have z0 := HZ.out.cell 0 _ rfl
    have z1 := HZ.out.cell 1 _ rfl
    have z2 := HZ.out.cell 2 _ rfl
    have z3 := HZ.out.cell 3 _ rfl
    have z4 := HZ.out.cell 4 _ rfl
    refine bodyPost_ret (v := .agg #[.int .i64 1, .int .i64 1, .string ⟨#[]⟩, .slice none 0 0, .slice none 0 0]) (by simp [results, Tryz.results270, go_sem, z0, z1, z2, z3, z4]) rfl ⟨⟨_, _, _, rfl, HV2.out, by unfold small; omega, by unfold small; omega, by first | exact HX.out | decide⟩, HB2.out⟩
  rw [decide_eq_false h1] at e1
  by_cases h2 : x = ⟨#[102, 97, 108, 115, 101]⟩
  · rw [decide_eq_true h2] at e2
    have HV2 : Hid (V = .mk 1 0 ⟨#[]⟩ [] []) := Lib.hid (by rw [HV.out, if_neg h1, if_pos h2])
    clear h1 h2 e3 HV
    go_enter Tryz.func270, Tryz.ntmps270
    go_wp2_with fail
    refine (bool_f _).mono ?_
    rintro e w1 ⟨rfl, hb⟩
    have hx1 := HX0.out.stay hb
    have HB1 := Lib.hid (HB0.out.trans (hb.mono HB0.out.size))
    have x0 := hx1.cell 0 _ rfl
    have x1 := hx1.cell 1 _ rfl
    have x2 := hx1.cell 2 _ rfl
    have x3 := hx1.cell 3 _ rfl
    have x4 := hx1.cell 4 _ rfl
    have g0 := hx1.frz 0
    have g1 := hx1.frz 1
    have g2 := hx1.frz 2
    have g3 := hx1.frz 3
    have g4 := hx1.frz 4
    have HZ := Lib.hid (((((hx1.set 0 (.int .i64 1)).set 1 (.int .i64 0)).set 2 (.string ⟨#[]⟩)).set 3 (.slice none 0 0)).set 4 (.slice none 0 0))
    have HB2 := Lib.hid (((((HB1.out.setCell (p := ⟨w.heap.size, 0, none⟩) (Nat.le_refl _) (.int .i64 1)).setCell (p := ⟨w.heap.size, 1, none⟩) (Nat.le_refl _) (.int .i64 0)).setCell (p := ⟨w.heap.size, 2, none⟩) (Nat.le_refl _) (.string ⟨#[]⟩)).setCell (p := ⟨w.heap.size, 3, none⟩) (Nat.le_refl _) (.slice none 0 0)).setCell (p := ⟨w.heap.size, 4, none⟩) (Nat.le_refl _) (.slice none 0 0))
    clear hb hx1
    go_wp2_with fail
    have z0 := HZ.out.cell 0 _ rfl
    have z1 := HZ.out.cell 1 _ rfl
    have z2 := HZ.out.cell 2 _ rfl
    have z3 := HZ.out.cell 3 _ rfl
    have z4 := HZ.out.cell 4 _ rfl
    refine bodyPost_ret (v := .agg #[.int .i64 1, .int .i64 0, .string ⟨#[]⟩, .slice none 0 0, .slice none 0 0]) (by simp [results, Tryz.results270, go_sem, z0, z1, z2, z3, z4]) rfl ⟨⟨_, _, _, rfl, HV2.out, by unfold small; omega, by unfold small; omega, by first | exact HX.out | decide⟩, HB2.out⟩
  rw [decide_eq_false h2] at e2
  by_cases h3 : x = ⟨#[110, 117, 108, 108]⟩
  · rw [decide_eq_true h3] at e3
    have HV2 : Hid (V = .mk 0 0 ⟨#[]⟩ [] []) := Lib.hid (by rw [HV.out, if_neg h1, if_neg h2, if_pos h3])
    clear h1 h2 h3 HV
    go_enter Tryz.func270, Tryz.ntmps270
    go_wp2_with fail
    refine bodyPost_ret (v := .agg #[.int .i64 0, .int .i64 0, .string ⟨#[]⟩, .slice none 0 0, .slice none 0 0]) (by simp [results, Tryz.results270, go_sem]) rfl ⟨⟨_, _, _, rfl, HV2.out, by unfold small; omega, by unfold small; omega, by decide⟩, HB0.out⟩
  · rw [decide_eq_false h3] at e3
    have HV2 : Hid (V = .mk 4 0 x [] []) := Lib.hid (by rw [HV.out, if_neg h1, if_neg h2, if_neg h3])
    clear h1 h2 h3 HV
    go_enter Tryz.func270, Tryz.ntmps270
    go_wp2_with fail
    refine (enum_any x _).mono ?_
    rintro e w1 ⟨rfl, hb⟩
    have hx1 := HX0.out.stay hb
    have HB1 := Lib.hid (HB0.out.trans (hb.mono HB0.out.size))
    have x0 := hx1.cell 0 _ rfl
    have x1 := hx1.cell 1 _ rfl
    have x2 := hx1.cell 2 _ rfl
    have x3 := hx1.cell 3 _ rfl
    have x4 := hx1.cell 4 _ rfl
    have g0 := hx1.frz 0
    have g1 := hx1.frz 1
    have g2 := hx1.frz 2
    have g3 := hx1.frz 3
    have g4 := hx1.frz 4
    have HZ := Lib.hid (((((hx1.set 0 (.int .i64 4)).set 1 (.int .i64 0)).set 2 (.string x)).set 3 (.slice none 0 0)).set 4 (.slice none 0 0))
    have HB2 := Lib.hid (((((HB1.out.setCell (p := ⟨w.heap.size, 0, none⟩) (Nat.le_refl _) (.int .i64 4)).setCell (p := ⟨w.heap.size, 1, none⟩) (Nat.le_refl _) (.int .i64 0)).setCell (p := ⟨w.heap.size, 2, none⟩) (Nat.le_refl _) (.string x)).setCell (p := ⟨w.heap.size, 3, none⟩) (Nat.le_refl _) (.slice none 0 0)).setCell (p := ⟨w.heap.size, 4, none⟩) (Nat.le_refl _) (.slice none 0 0))
    clear hb hx1
    go_wp2_with fail
    have z0 := HZ.out.cell 0 _ rfl
    have z1 := HZ.out.cell 1 _ rfl
    have z2 := HZ.out.cell 2 _ rfl
    have z3 := HZ.out.cell 3 _ rfl
    have z4 := HZ.out.cell 4 _ rfl
    refine bodyPost_ret (v := .agg #[.int .i64 4, .int .i64 0, .string x, .slice none 0 0, .slice none 0 0]) (by simp [results, Tryz.results270, go_sem, z0, z1, z2, z3, z4]) rfl ⟨⟨_, _, _, rfl, HV2.out, by unfold small; omega, by unfold small; omega, by first | exact HX.out | decide⟩, HB2.out⟩
end Go.Proofs.YthjoelpfmimedaaGreatDoor
namespace Go.Proofs.YthjoelpfmimedaaGreatDoor
open Go.RowKit
theorem infoArg : (Tryz.prog.info? 99).map (fun i => (i.zero, i.size, i.bytes)) = some (some (.agg #[.string ⟨#[]⟩, .int .i64 0, .int .i64 0, .string ⟨#[]⟩, .slice none 0 0, .slice none 0 0]), 6, 96) := by kernel_rfl
set_option maxRecDepth 100000 in
set_option maxHeartbeats 8000000 in
theorem blockArg_any (q1 q2 p : Nat) (el : List Tk → Except Er ((ByteArray × VT) × List Tk)) (w : World) (hel : ∀ (W : World) (ts : List Tk) (m : Nat), Tw p w.heap.size w W → PSt W p ts m → isNm ts = true → Calls Tryz.prog 268 #[.pointer (some ⟨q1, 0, none⟩), .pointer (some ⟨q2, 0, none⟩)] W (WPost ArgV W p (el ts)))
    (hlt : ∀ (ts : List Tk) (x : (ByteArray × VT)) (ts' : List Tk), Good ts → isNm ts = true → el ts = .ok (x, ts') → ts'.length < ts.length) (ts : List Tk) (n : Nat) (h : PSt w p ts n) (ca cb : UInt8) (most : Nat) (hm : most ≤ 64) (y : Int) (hy : y = most) :
    Calls Tryz.prog 267 #[pP p, .string ⟨#[ca, cb]⟩, .int .i64 y, .func (.func 172) #[pP p] #[], .func (.func 268) #[] #[.pointer (some ⟨q1, 0, none⟩), .pointer (some ⟨q2, 0, none⟩)]] w (WPost (SlS 6 96 ArgC) w p (blR [ca] [cb] most el ts)) := by
  have HS : Hid (Calls Tryz.prog 179 #[pP p, .string ⟨#[ca]⟩] w (UPost w p n (sgR [ca] ts))) := Lib.hid (psign_any h ⟨#[ca]⟩)
  have HV : Hid (blR [ca] [cb] most el ts = exB (sgR [ca] ts) fun ts1 => bls [cb] most el (ts1.length + 1) [] ts1) := Lib.hid rfl
  have HEL := Lib.hid hel
  have HLT := Lib.hid hlt
  have HY := Lib.hid hy
  have hpw := h.lt
  clear h hel hlt hy
  generalize blR [ca] [cb] most el ts = R at *
  go_enter Tryz.func267, Tryz.ntmps267
  go_wp2_with fail
  refine HS.out.mono ?_
  rintro e w1 (⟨ts1, hr, rfl, hp, ht⟩ | ⟨x, hr, rfl, ht⟩)
  rotate_left
  · have HV2 : Hid (R = .error x) := Lib.hid (by rw [HV.out, exB_er hr])
    have HT := Lib.hid ht
    clear hr ht
    exact ⟨rfl, .inr ⟨x, HV2.out, rfl, HT.out⟩⟩
  have HV2 : Hid (R = bls [cb] most el (ts1.length + 1) [] ts1) := Lib.hid (by rw [HV.out, exB_ok hr])
  have HP1 := Lib.hid hp
  have HT1 := Lib.hid ht
  clear hr hp ht HV HS
  go_wp2_with fail
  go_loopw [11] (fun u wr => ∃ (l : List (ByteArray × VT)) (tr : List Tk) (cells : List Value) (f m : Nat), l.length ≤ most ∧ Hid (R = bls [cb] most el f l tr ∧ tr.length < f ∧ Els 99 6 ArgC wr w.heap.size u cells l ∧ PSt wr p tr m ∧ Tw p w.heap.size w wr)) (fun _ wr => tlen p wr)
  case atStart => exact ⟨[], ts1, [], _, n, Nat.zero_le _, Lib.hid ⟨HV2.out, Nat.lt_succ_self _, Els.nil _ _ _ _ _, HP1.out, HT1.out⟩⟩
  case round =>
    obtain ⟨l, tr, cells, f, m, hlm, hr⟩ := hrel
    obtain ⟨AL, c, hu⟩ := hr.out.2.2.1.slice
    subst hu
    have hlb : (l.length : Int) ≤ 64 := by omega
    obtain ⟨f', hf'⟩ : ∃ f', f = f' + 1 := ⟨f - 1, by have := hr.out.2.1; omega⟩
    subst hf'
    obtain ⟨ll, hll⟩ : ∃ ll, ll = l.length := ⟨_, rfl⟩
    rw [← hll] at hlb
    have HLL := Lib.hid hll
    have hz : ll = 0 ∨ ll ≠ 0 := by omega
    by_cases hdone : ll ≠ 0 ∧ isSg [cb] tr = true
    · obtain ⟨hz, hsg⟩ := hdone
      have hz0 : ((ll : Int) == 0) = false := by rw [beq_eq_false_iff_ne]; omega
      have HD : Hid (R = .ok (l, tr.tail)) := Lib.hid (hr.out.1.trans (by rw [bls_succ, if_pos ⟨by rw [← HLL.out]; exact hz, hsg⟩]))
      have HC := Lib.hid (ptakeSign_b hr.out.2.2.2.1 ⟨#[cb]⟩ _ hsg)
      clear hz hsg hll
      rw [← HLL.out]
      go_wp2_with fail
      refine HC.out.mono ?_
      rintro e w2 ⟨rfl, hp2, ht2⟩
      have HP2 : Hid (PSt w2 p tr.tail m) := Lib.hid hp2
      have HT2 := Lib.hid (hr.out.2.2.2.2.step hr.out.2.2.2.2.size ht2)
      have HE2 := Lib.hid (hr.out.2.2.1.tw ArgC.stays hpw ht2)
      clear hp2 ht2
      go_wp2_with fail
      go_ret
      refine .inl ⟨l, _, _, m, HD.out, rfl, ?_, HP2.out, HT2.out⟩
      have := HE2.out.read (bytes := 96) ArgC.stays (by have := HLL.out; unfold big; omega)
      rw [HLL.out]
      exact this
    · have HD : Hid (R = exB (bgR (isNm tr) l.length most tr) fun _ => exB (el tr) fun q => bls [cb] most el f' (l ++ [q.1]) q.2) := Lib.hid (hr.out.1.trans (by rw [bls_succ, if_neg (by rw [← HLL.out]; exact hdone)]))
      have hwalk : ∃ W, W = wr := ⟨_, rfl⟩
      have hcase : ll = 0 ∨ (ll ≠ 0 ∧ isSg [cb] tr = false) := by
        by_cases h0 : ll = 0
        · exact .inl h0
        · exact .inr ⟨h0, by cases hh : isSg [cb] tr with
            | true => exact absurd ⟨h0, hh⟩ hdone
            | false => rfl⟩
      rw [← hll]
      clear hz hdone hll hwalk
      rcases hcase with hz | ⟨hz, hsg⟩
      focus
        have hz0 : ((ll : Int) == 0) = true := by rw [hz]; rfl
        have HPC := Lib.hid hr.out.2.2.2.1
        have HTC : Hid (Tw p wr.heap.size wr wr) := Lib.hid (.refl _ _ _)
        clear hz
        go_wp2_with fail
      rotate_left
      focus
        have hz0 : ((ll : Int) == 0) = false := by rw [beq_eq_false_iff_ne]; omega
        have HC := Lib.hid (ptakeSign_b hr.out.2.2.2.1 ⟨#[cb]⟩ _ hsg)
        clear hz hsg
        go_wp2_with fail
        refine HC.out.mono ?_
        rintro e wa ⟨rfl, hp2, ht2⟩
        have HPC : Hid (PSt wa p tr m) := Lib.hid hp2
        have HTC := Lib.hid ht2
        clear hp2 ht2 HC
        go_wp2_with fail
      all_goals
        refine (pisName_any HPC.out).mono ?_
        rintro e wb ⟨rfl, hb⟩
        have HPB := Lib.hid (HPC.out.stay hb)
        have HTB := Lib.hid (HTC.out.step HTC.out.size (.of hb))
        clear hb
        go_wp2_with fail
        refine (pbegin_any HPB.out (isNm tr) l.length most _ _ (by have := HLL.out; omega) HY.out).mono ?_
        rintro e wc (⟨hbg, rfl, hb⟩ | ⟨x, hbg, rfl, ht⟩)
        rotate_left
        · have HD2 : Hid (R = .error x) := Lib.hid (by rw [HD.out, exB_er hbg])
          have HT2 := Lib.hid (hr.out.2.2.2.2.step hr.out.2.2.2.2.size (HTB.out.step HTB.out.size ht))
          clear hbg ht
          exact ⟨rfl, .inr ⟨x, HD2.out, rfl, HT2.out⟩⟩
        obtain ⟨hnm, hlm2⟩ := bgR_lt hbg hlm
        have HD2 : Hid (R = exB (el tr) fun q => bls [cb] most el f' (l ++ [q.1]) q.2) := Lib.hid (by rw [HD.out, exB_ok hbg])
        have HPB2 := Lib.hid (HPB.out.stay hb)
        have HTB2 := Lib.hid (HTB.out.step HTB.out.size (.of hb))
        have HNM := Lib.hid hnm
        clear hbg hb hnm
        go_wp2_with fail
        refine (HEL.out _ tr m (hr.out.2.2.2.2.step hr.out.2.2.2.2.size HTB2.out) HPB2.out HNM.out).mono ?_
        rintro e wd (⟨x, ts', v, m', hre, rfl, hx, hp, ht⟩ | ⟨x, hre, rfl, ht⟩)
        rotate_left
        · have HD3 : Hid (R = .error x) := Lib.hid (by rw [HD2.out, exB_er hre])
          have HT3 := Lib.hid (hr.out.2.2.2.2.step hr.out.2.2.2.2.size (HTB2.out.step HTB2.out.size ht))
          clear hre ht
          exact ⟨rfl, .inr ⟨x, HD3.out, rfl, HT3.out⟩⟩
        have HD3 : Hid (R = bls [cb] most el f' (l ++ [x]) ts') := Lib.hid (by rw [HD2.out, exB_ok hre])
        have hlt3 := HLT.out tr x ts' HPB2.out.good HNM.out hre
        obtain ⟨A, KA, ci, ck, k, li, lk, s, z, rfl, hxc⟩ := hx.shape
        have HTD := Lib.hid (HTB2.out.step HTB2.out.size ht)
        have hE := hr.out.2.2.1.tw ArgC.stays hpw HTD.out
        have hws : w.heap.size ≤ wc.heap.size := Nat.le_trans hr.out.2.2.2.2.size HTB2.out.size
        have hwd : wc.heap.size ≤ wd.heap.size := ht.size
        have hxS := ArgC.stays.kept (w' := wd) (S' := fun b => w.heap.size ≤ b ∧ b < wd.heap.size ∧ (Value.slice AL l.length c).ownBlock ≠ some b) hxc (fun _ _ => rfl) (fun b hb => ⟨by have := hb.1; omega, hb.2, fun e => by have h8 := (hr.out.2.2.1.own).lt b e; have h9 := HTB2.out.size; have := hb.1; omega⟩)
        have HX := Lib.hid hxS
        have HPD := Lib.hid hp
        have HE := Lib.hid hE
        have b0 : Below wd.heap.size wd (wd.alloc (.cells #[.string x.1, .int .i64 k, .int .i64 z, .string s, .slice A li ci, .slice KA lk ck] 99 (0, 0))) := below_new _ _
        have HB0 := Lib.hid b0
        have HOWN : Hid ((wd.alloc (.cells #[.string x.1, .int .i64 k, .int .i64 z, .string s, .slice A li ci, .slice KA lk ck] 99 (0, 0))).ownsRow w.heap.size 99 6 (.slice AL ll c) ll cells) := Lib.hid (by
          have h8 := own_kept hE.own (fun g hg => b0.block g hg)
          rw [← HLL.out] at h8; exact h8)
        have HNEWS : Hid (∀ (j : Nat) (u : Value), ([.string x.1, .int .i64 k, .int .i64 z, .string s, .slice A li ci, .slice KA lk ck] : List Value)[j]? = some u → (wd.alloc (.cells #[.string x.1, .int .i64 k, .int .i64 z, .string s, .slice A li ci, .slice KA lk ck] 99 (0, 0))).cell? ((⟨wd.heap.size, 0, none⟩ : Addr).add j) = some u) := Lib.hid (cells_at wd [.string x.1, .int .i64 k, .int .i64 z, .string s, .slice A li ci, .slice KA lk ck] 99)
        have HONE : Hid (∀ u ∈ ([.string x.1, .int .i64 k, .int .i64 z, .string s, .slice A li ci, .slice KA lk ck] : List Value), u.oneCell' = true) := Lib.hid (by intro u hu; simp only [List.mem_cons, List.not_mem_nil, or_false] at hu; rcases hu with rfl | rfl | rfl | rfl | rfl | rfl <;> rfl)
        have HSZ : Hid (w.heap.size ≤ (wd.alloc (.cells #[.string x.1, .int .i64 k, .int .i64 z, .string s, .slice A li ci, .slice KA lk ck] 99 (0, 0))).heap.size) := Lib.hid (by rw [World.size_alloc]; omega)
        clear hre ht hx hxc hp hE hxS b0
        go_wp2_with (at_builtin; refine wpList_append_fresh _ rfl _ _ 94 rfl w.heap.size 99 _ 6 96 Tryz.underlying94 infoArg rfl (by decide) _ ll cells rfl HOWN.out ⟨wd.heap.size, 0, none⟩ 1 1 (by decide) [.string x.1, .int .i64 k, .int .i64 z, .string s, .slice A li ci, .slice KA lk ck] rfl rfl HNEWS.out HONE.out (by unfold maxLen; omega) (by omega) HSZ.out ?_; intro v' w' hown' hg' hf')
        have hpush := Els.push (x := x) ArgC.stays HE.out HB0.out (by have := HSZ.out; omega) HX.out (news := [.string x.1, .int .i64 k, .int .i64 z, .string s, .slice A li ci, .slice KA lk ck]) (fun j hj => rfl) (ArgV.cong (Nat.le_refl _)) (by rw [← HLL.out]; exact hown') (by rw [← HLL.out]; exact hg') (by rw [← HLL.out]; exact hf')
        have HE2 := Lib.hid hpush.1
        have HT2 : Hid (Tw p w.heap.size w w') := Lib.hid ((hr.out.2.2.2.2.trans (HTD.out.mono hr.out.2.2.2.2.size)).trans (.of hpush.2))
        have HP2 := Lib.hid (HPD.out.same (hpush.2.mono (by omega)))
        clear hpush hown' hg' hf'
        go_roundw
        case rel => exact ⟨l ++ [x], ts', _, f', m', by rw [List.length_append, List.length_singleton]; omega, Lib.hid ⟨HD3.out, by have := hr.out.2.1; omega, HE2.out, HP2.out, HT2.out⟩⟩
        case measure => rw [HP2.out.tlen, hr.out.2.2.2.1.tlen]; exact hlt3
end Go.Proofs.YthjoelpfmimedaaGreatDoor
