
/-
  Contract of the checker's descent; Right and Literal.
-/
import Derived.Test.YtcbajgcblfgmgaaDoorNode
namespace Go.Proofs.YtcbajgcblfgmgaaDoor
open Go.RowKit
mutual
/- The room that is left when a tree is right, or none. -/
def VT.chk (lit : Bool) : VT → Nat → Nat → Option Nat
  | .mk k n s is ks, L, r => if L = 0 then none else if is.length ≤ r ∧ nodeB lit (.mk k n s is ks) = true then VT.chks lit is (L - 1) (r - is.length) else none
def VT.chks (lit : Bool) : List VT → Nat → Nat → Option Nat
  | [], _, r => some r
  | t :: u, L, r => match t.chk lit L r with
    | none => none
    | some r' => VT.chks lit u L r'
end
mutual
theorem VT.chk_le {lit : Bool} {t : VT} {L r r' : Nat} (h : t.chk lit L r = some r') : r' ≤ r := by
  cases t with
  | mk k n s is ks =>
    simp only [VT.chk] at h
    split at h
    · cases h
    · split at h
      · have := VT.chks_le h; omega
      · cases h
theorem VT.chks_le {lit : Bool} {l : List VT} {L r r' : Nat} (h : VT.chks lit l L r = some r') : r' ≤ r := by
  cases l with
  | nil => simp [VT.chks] at h; omega
  | cons t u =>
    simp only [VT.chks] at h
    cases q : t.chk lit L r with
    | none => rw [q] at h; cases h
    | some r1 =>
      rw [q] at h
      have h1 := VT.chk_le q
      have h2 := VT.chks_le h
      omega
end
theorem take_yes (c : Nat) (lit : Bool) (r n : Nat) (w : World) (hc : Chk w c lit r) (h : n ≤ r) (_hr : r ≤ 100000) :
    Calls Tryd.prog 19 #[.pointer (some ⟨c, 0, none⟩), .int .i64 n] w fun e w' => e = .returned (.bool true) ∧ w.setCell ⟨c, 1, none⟩ (.int .i64 ((r - n : Nat) : Int)) = w' := by
  obtain ⟨c0, c1, c2⟩ := hc.cells
  have e : ((r - n : Nat) : Int) = (r : Int) - n := by omega
  rw [e]
  have h1 : ¬ (r : Int) < (n : Int) := by omega
  clear hc e
  go_enter Tryd.func19, Tryd.ntmps19
  go_wp2_with fail
  go_ret
  exact ⟨rfl, rfl⟩
theorem take_no (c : Nat) (lit : Bool) (r n : Nat) (w : World) (hc : Chk w c lit r) (h : ¬ n ≤ r) (_hr : r ≤ 100000) :
    Calls Tryd.prog 19 #[.pointer (some ⟨c, 0, none⟩), .int .i64 n] w fun e w' => e = .returned (.bool false) ∧ w = w' := by
  obtain ⟨c0, c1, c2⟩ := hc.cells
  have h1 : (r : Int) < (n : Int) := by omega
  clear hc
  go_enter Tryd.func19, Tryd.ntmps19
  go_wp2_with fail
  go_ret
  exact ⟨rfl, rfl⟩
theorem Chk.set {w : World} {c : Nat} {lit : Bool} {r : Int} (h : Chk w c lit r) (r' : Int) : Chk (w.setCell ⟨c, 1, none⟩ (.int .i64 r')) c lit r' := by
  unfold Chk at h ⊢
  simp [World.setCell, Array.getElem?_modify, h]
def ChkPost (w : World) (c : Nat) (lit : Bool) (o : Option Nat) (e : Ending) (w' : World) : Prop :=
  (match o with | none => e = .returned (.bool false) | some r' => e = .returned (.bool true) ∧ Chk w' c lit r' ) ∧ Below c w w'
def ChkAt (lit : Bool) (t : VT) : Prop := ∀ (c L r : Nat) (w : World) (B : Nat) (v : Value), Chk w c lit r → r ≤ 100000 → L ≤ 1000 → Rd w B v t → B ≤ c →
    Calls Tryd.prog 14 #[.pointer (some ⟨c, 0, none⟩), v, .int .i64 L] w (ChkPost w c lit (t.chk lit L r))
set_option maxHeartbeats 2000000 in
theorem chk_any (lit : Bool) (t : VT) : ChkAt lit t := by
  induction t using VT.ind with
  | h k n s items keys ih =>
  intro c L r w B v hc hr hL h hB
  have HRD := Lib.hid h
  have IH := Lib.hid ih
  clear ih
  cases h with
  | @mk _ _ _ A li ci K lk ck _ _ V hk hn hs hks hli hlk hbi hbk hA hr' hK =>
  have HA := Lib.hid hA
  have HR := Lib.hid hr'
  have HL := Lib.hid hli
  have hlm : (li : Int) ≤ 140737488351232 := by omega
  have hcl := hc.lt
  have b1 : Below w.heap.size w (w.alloc (.cells #[.int .i64 k, .int .i64 n, .string s, .slice A li ci, .slice K lk ck] 25 (0, 0))) := (Below.refl _ _).alloc (Nat.le_refl _) _
  have HC1 := Lib.hid (hc.kept b1 hcl)
  have HX := Lib.hid (Box.new w (.int .i64 k) (.int .i64 n) (.string s) (.slice A li ci) (.slice K lk ck))
  have B1 := Lib.hid b1
  clear hA hr' hli hlk hK hks hn hs hk hc b1
  by_cases l0 : L = 0
  · subst l0
    have HV : Hid ((VT.mk k n s items keys).chk lit 0 r = none) := Lib.hid (by simp [VT.chk])
    go_enter Tryd.func14, Tryd.ntmps14
    go_wp2_with fail
    go_ret
    exact ⟨by rw [HV.out]; rfl, B1.out.mono (by omega)⟩
  have l0' : ((L : Int) == 0) = false := by rw [beq_eq_false_iff_ne]; omega
  have l0'' : decide (L = 0) = false := by simpa using l0
  have hLp : 1 ≤ L := by omega
  by_cases h1 : li ≤ r
  · have HT := Lib.hid (take_yes c lit r li _ HC1.out h1 hr)
    have HC2 := Lib.hid (HC1.out.set ((r - li : Nat) : Int))
    have HX2 := HX.out.set (p := ⟨c, 1, none⟩) (by show w.heap.size ≠ c; omega) (.int .i64 ((r - li : Nat) : Int))
    obtain ⟨x0, x1, x2, x3, x4⟩ := HX2.cells
    have HXH := Lib.hid HX2
    have B2 : Hid (Below c w ((w.alloc (.cells #[.int .i64 k, .int .i64 n, .string s, .slice A li ci, .slice K lk ck] 25 (0, 0))).setCell ⟨c, 1, none⟩ (.int .i64 ((r - li : Nat) : Int)))) := Lib.hid (Below.setCell (p := ⟨c, 1, none⟩) (B1.out.mono (by omega : c ≤ w.heap.size)) (Nat.le_refl _) _)
    have S2 : Hid (w.heap.size + 1 = ((w.alloc (.cells #[.int .i64 k, .int .i64 n, .string s, .slice A li ci, .slice K lk ck] 25 (0, 0))).setCell ⟨c, 1, none⟩ (.int .i64 ((r - li : Nat) : Int))).heap.size) := Lib.hid (by simp [World.setCell])
    generalize (w.alloc (.cells #[.int .i64 k, .int .i64 n, .string s, .slice A li ci, .slice K lk ck] 25 (0, 0))).setCell ⟨c, 1, none⟩ (.int .i64 ((r - li : Nat) : Int)) = w2 at *
    have HN := Lib.hid (node_any lit _ c _ w2 B _ HC2.out (HRD.out.kept (B2.out.mono hB)) (by have := B2.out.size; omega))
    clear HX2
    cases q : nodeB lit (.mk k n s items keys)
    · have HV : Hid ((VT.mk k n s items keys).chk lit L r = none) := Lib.hid (by simp only [VT.chk]; rw [if_neg l0, if_neg (by rw [q]; simp)])
      rw [q] at HN
      clear l0 q
      go_enter Tryd.func14, Tryd.ntmps14
      go_wp2_with fail
      refine HT.out.mono ?_
      rintro e w' ⟨rfl, rfl⟩
      go_wp2_with fail
      refine HN.out.mono ?_
      rintro e w' ⟨rfl, hb⟩
      have HB3 := Lib.hid (B2.out.trans (hb.mono (by have := S2.out; omega)))
      clear hb
      go_wp2_with fail
      go_ret
      exact ⟨by rw [HV.out]; rfl, HB3.out⟩
    · have HV : Hid ((VT.mk k n s items keys).chk lit L r = VT.chks lit items (L - 1) (r - li)) := Lib.hid (by simp only [VT.chk]; rw [if_neg l0, if_pos ⟨by have := HL.out; omega, q⟩, HL.out])
      rw [q] at HN
      clear l0 q
      go_enter Tryd.func14, Tryd.ntmps14
      go_wp2_with fail
      refine HT.out.mono ?_
      rintro e w' ⟨rfl, rfl⟩
      go_wp2_with fail
      refine HN.out.mono ?_
      rintro e w3 ⟨rfl, hb⟩
      have hs3 := hb.size
      have HB3 := Lib.hid (B2.out.trans (hb.mono (by have := S2.out; omega)))
      have HC3 := Lib.hid (HC2.out.kept hb (by have := S2.out; omega))
      obtain ⟨y0, y1, y2, y3, y4⟩ := (HXH.out.kept hb).cells
      clear hb x0 x1 x2 x3 x4
      go_wp2_with fail
      clear y0 y1 y2 y3 y4
      go_loopw [28] (fun i wr => ∃ (j rr : Nat), j ≤ li ∧ rr ≤ 100000 ∧ i = .int .i64 j ∧ VT.chks lit items (L - 1) (r - li) = VT.chks lit (items.drop j) (L - 1) rr ∧ Chk wr c lit rr ∧ Below c w wr) (fun i _ => li - (intOf i).toNat)
      case atStart => exact ⟨0, r - li, Nat.zero_le _, by omega, rfl, rfl, HC3.out, HB3.out⟩
      case round =>
        obtain ⟨j, rr, hj, hrr, rfl, hch, hck, hb⟩ := hrel
        have HCH := Lib.hid hch
        have HCK := Lib.hid hck
        have HB := Lib.hid hb
        have hcl2 := hck.lt
        clear hch hck
        by_cases hlt : j < li
        · obtain ⟨a, t, k1, n1, s1, A1, li1, ci1, K1, lk1, ck1, rfl, ht, e, hrd, h0, h1, h2, h3, h4⟩ := round_at HA.out HR.out HL.out (hb.mono hB) hlt
          have HD : Hid (items.drop j = t :: items.drop (j + 1)) := Lib.hid (by obtain ⟨h1, rfl⟩ := List.getElem?_eq_some_iff.1 ht; exact List.drop_eq_getElem_cons h1)
          have HI : Hid (Calls Tryd.prog 14 #[.pointer (some ⟨c, 0, none⟩), V j, .int .i64 ((L - 1 : Nat) : Int)] (wr.alloc (.cells #[.int .i64 k1, .int .i64 n1, .string s1, .slice A1 li1 ci1, .slice K1 lk1 ck1] 25 (0, 0))) (ChkPost _ c lit (t.chk lit (L - 1) rr))) :=
            Lib.hid (IH.out j t ht c (L - 1) rr _ B _ (HCK.out.kept ((Below.refl _ _).alloc (Nat.le_refl _) _) hcl2) hrr (by omega) (hrd.kept ((Below.refl _ _).alloc (by omega) _)) hB)
          rw [e, show ((L - 1 : Nat) : Int) = (L : Int) - 1 by omega] at HI
          clear e hrd ht hb
          go_wp2_with fail
          refine HI.out.mono ?_
          cases q : t.chk lit (L - 1) rr with
          | none =>
            rintro e w4 ⟨rfl, hb4⟩
            have HV2 : Hid ((VT.mk k n s items keys).chk lit L r = none) := Lib.hid (by rw [HV.out, HCH.out, HD.out, VT.chks, q])
            have HB4 := Lib.hid ((HB.out.alloc (by omega) _).trans hb4)
            clear hb4 q
            go_wp2_with fail
            go_ret
            exact ⟨by rw [HV2.out]; rfl, HB4.out⟩
          | some r' =>
            rintro e w4 ⟨⟨rfl, hck4⟩, hb4⟩
            have HCH2 : Hid (VT.chks lit items (L - 1) (r - li) = VT.chks lit (items.drop (j + 1)) (L - 1) r') := Lib.hid (by rw [HCH.out, HD.out, VT.chks, q])
            have HB4 := Lib.hid ((HB.out.alloc (by omega) _).trans hb4)
            have HCK4 := Lib.hid hck4
            have hr' := Lib.hid (VT.chk_le q)
            clear hb4 q hck4
            go_wp2_with fail
            go_roundw
            case rel => exact ⟨j + 1, r', by omega, by have := hr'.out; omega, by go_num, HCH2.out, HCK4.out, HB4.out⟩
            case measure => simp [intOf]; omega
        · have HV2 : Hid ((VT.mk k n s items keys).chk lit L r = some rr) := Lib.hid (by rw [HV.out, HCH.out, List.drop_of_length_le (by have := HL.out; omega)]; rfl)
          clear hb
          go_wp2_with fail
          go_ret
          exact ⟨by rw [HV2.out]; exact ⟨rfl, HCK.out⟩, HB.out⟩
  · have HV : Hid ((VT.mk k n s items keys).chk lit L r = none) := Lib.hid (by simp only [VT.chk]; rw [if_neg l0, if_neg (by have := HL.out; omega)])
    have HT := Lib.hid (take_no c lit r li _ HC1.out h1 hr)
    clear l0
    go_enter Tryd.func14, Tryd.ntmps14
    go_wp2_with fail
    refine HT.out.mono ?_
    rintro e w' ⟨rfl, rfl⟩
    go_wp2_with fail
    go_ret
    exact ⟨by rw [HV.out]; rfl, B1.out.mono (by omega)⟩
mutual
def wholeB (lit : Bool) : VT → Bool
  | .mk k n s is ks => nodeB lit (.mk k n s is ks) && wholesB lit is
def wholesB (lit : Bool) : List VT → Bool
  | [] => true
  | t :: u => wholeB lit t && wholesB lit u
end
theorem sizes_ge (l : List VT) : l.length ≤ VT.sizes l := by
  induction l with
  | nil => simp
  | cons t u ih =>
    have : 1 ≤ t.size := by cases t; simp only [VT.size]; omega
    simp only [List.length_cons, VT.sizes]; omega
mutual
theorem VT.chk_eq (lit : Bool) (t : VT) (L r : Nat) : t.chk lit L r = if wholeB lit t = true ∧ t.depth ≤ L ∧ t.size ≤ r + 1 then some (r + 1 - t.size) else none := by
  cases t with
  | mk k n s is ks =>
    simp only [VT.chk, VT.depth, VT.size, wholeB, Bool.and_eq_true]
    have hg := sizes_ge is
    by_cases l0 : L = 0
    · rw [if_pos l0, if_neg (by omega)]
    · rw [if_neg l0]
      by_cases h1 : is.length ≤ r ∧ nodeB lit (.mk k n s is ks) = true
      · rw [if_pos h1, VT.chks_eq lit is (L - 1) (r - is.length)]
        by_cases h2 : wholesB lit is = true ∧ VT.depths is ≤ L - 1 ∧ VT.sizes is ≤ r - is.length + is.length
        · rw [if_pos h2, if_pos ⟨⟨h1.2, h2.1⟩, by omega, by omega⟩]; congr 1; omega
        · rw [if_neg h2, if_neg (fun h => h2 ⟨h.1.2, by omega, by omega⟩)]
      · rw [if_neg h1, if_neg (fun h => h1 ⟨by omega, h.1.1⟩)]
theorem VT.chks_eq (lit : Bool) (l : List VT) (L r : Nat) : VT.chks lit l L r = if wholesB lit l = true ∧ VT.depths l ≤ L ∧ VT.sizes l ≤ r + l.length then some (r + l.length - VT.sizes l) else none := by
  cases l with
  | nil => simp [VT.chks, wholesB, VT.depths, VT.sizes]
  | cons t u =>
    simp only [VT.chks, VT.depths, VT.sizes, wholesB, Bool.and_eq_true, List.length_cons]
    have hg := sizes_ge u
    rw [VT.chk_eq lit t L r]
    by_cases h1 : wholeB lit t = true ∧ t.depth ≤ L ∧ t.size ≤ r + 1
    · rw [if_pos h1]
      show VT.chks lit u L (r + 1 - t.size) = _
      rw [VT.chks_eq lit u L (r + 1 - t.size)]
      by_cases h2 : wholesB lit u = true ∧ VT.depths u ≤ L ∧ VT.sizes u ≤ r + 1 - t.size + u.length
      · rw [if_pos h2, if_pos ⟨⟨h1.1, h2.1⟩, by omega, by omega⟩]; congr 1; omega
      · rw [if_neg h2, if_neg (fun h => h2 ⟨h.1.2, by omega, by omega⟩)]
    · rw [if_neg h1, if_neg (fun h => h1 ⟨h.1.1, by omega, by omega⟩)]
end
def rightB (lit : Bool) (t : VT) : Bool := decide (t.size ≤ 4096) && decide (t.depth ≤ 24) && wholeB lit t
theorem chk_top (lit : Bool) (t : VT) : (∃ r, t.chk lit 24 4095 = some r ∧ rightB lit t = true) ∨ (t.chk lit 24 4095 = none ∧ rightB lit t = false) := by
  rw [VT.chk_eq]
  unfold rightB
  by_cases h : wholeB lit t = true ∧ t.depth ≤ 24 ∧ t.size ≤ 4095 + 1
  · exact .inl ⟨_, if_pos h, by simp [h.1]; omega⟩
  · refine .inr ⟨if_neg h, ?_⟩
    cases q : wholeB lit t
    · simp
    · by_cases h2 : t.size ≤ 4096
      · have h3 : ¬ t.depth ≤ 24 := fun h3 => h ⟨q, h3, h2⟩
        simp [h3]
      · simp [h2]
theorem right_any (t : VT) (w : World) (B : Nat) (v : Value) (h : Rd w B v t) (hB : B ≤ w.heap.size) :
    Calls Tryd.prog 7 #[v] w fun e w' => e = .returned (.bool (rightB false t)) ∧ Below w.heap.size w w' := by
  have HRD := Lib.hid h
  obtain ⟨k, n, s, A, li, ci, K, lk, ck, rfl⟩ := h.shape
  have b1 : Below w.heap.size w ((w.alloc (.cells #[.int .i64 k, .int .i64 n, .string s, .slice A li ci, .slice K lk ck] 25 (0, 0))).alloc (.cells #[.bool false, .int .i64 4095] 39 (0, 0))) := ((Below.refl _ _).alloc (Nat.le_refl _) _).alloc (by simp) _
  have hck : Chk ((w.alloc (.cells #[.int .i64 k, .int .i64 n, .string s, .slice A li ci, .slice K lk ck] 25 (0, 0))).alloc (.cells #[.bool false, .int .i64 4095] 39 (0, 0))) (w.heap.size + 1) false 4095 := by
    have := heap_alloc_new (w.alloc (.cells #[.int .i64 k, .int .i64 n, .string s, .slice A li ci, .slice K lk ck] 25 (0, 0))) (.cells #[.bool false, .int .i64 4095] 39 (0, 0))
    simpa [Chk] using this
  have HC := Lib.hid (chk_any false t (w.heap.size + 1) 24 4095 _ B _ hck (by omega) (by omega) (h.kept (b1.mono hB)) (by omega))
  have B1 := Lib.hid b1
  clear b1 hck h
  rcases chk_top false t with ⟨r, q, hv⟩ | ⟨q, hv⟩
  all_goals
    rw [q] at HC
    have HV := Lib.hid hv
    clear q hv
    go_enter Tryd.func7, Tryd.ntmps7
    go_wp2_with fail
    refine HC.out.mono ?_
    first
      | (rintro e w4 ⟨⟨rfl, _⟩, hb4⟩; have HB4 := Lib.hid (B1.out.trans (hb4.mono (by omega))); clear hb4)
      | (rintro e w4 ⟨rfl, hb4⟩; have HB4 := Lib.hid (B1.out.trans (hb4.mono (by omega))); clear hb4)
    go_wp2_with fail
    go_ret
    exact ⟨by rw [HV.out]; rfl, HB4.out⟩
end Go.Proofs.YtcbajgcblfgmgaaDoor
