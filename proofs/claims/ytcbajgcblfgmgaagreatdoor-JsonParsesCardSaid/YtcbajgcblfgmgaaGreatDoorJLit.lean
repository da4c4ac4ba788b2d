
/-
  String literals and integers.
-/
import Derived.Test.YtcbajgcblfgmgaaGreatDoorJRead
namespace Go.Proofs.YtcbajgcblfgmgaaGreatDoor
open Go.RowKit
theorem chrR_gt {s : ByteArray} {i j : Nat} (h : chrR s i = .ok j) : i < j ∧ j ≤ s.size := by
  have tk : ∀ {set : List UInt8} {a b : Nat}, (0 : UInt8) ∉ set → takeR s set a = .ok b → a < b ∧ b ≤ s.size := by
    intro set a b h0 h
    unfold takeR at h
    split at h
    · next hx => cases h; exact ⟨by omega, lt_of_in h0 hx⟩
    · cases h
  unfold chrR at h
  split at h
  · cases h
  · next h1 =>
    have hlt : i < s.size := lt_of_bt (fun e => h1 (.inl (by rw [e]; decide)))
    split at h
    · cases h; omega
    · unfold escR at h
      split at h
      · have := tk (by decide) h; omega
      · split at h
        · cases h
        · next a ha =>
          have := tk (by decide) ha
          split at h
          · cases h
          · next b hb =>
            have := tk (by decide) hb
            split at h
            · cases h
            · next c hc =>
              have := tk (by decide) hc
              have := tk (by decide) h
              omega
theorem charsF_gt {s : ByteArray} : ∀ (f i j : Nat), i ≤ s.size → charsF s f i = .ok j → i ≤ j ∧ j < s.size ∧ bt s j = 34
  | 0, i, j, hi, h => by cases h
  | f + 1, i, j, hi, h => by
    unfold charsF at h
    split at h
    · next h1 => cases h; exact ⟨Nat.le_refl _, lt_of_bt (by rw [h1]; decide), h1⟩
    · split at h
      · cases h
      · next k hk =>
        have h2 := chrR_gt hk
        obtain ⟨h3, h4, h5⟩ := charsF_gt f k j h2.2 h
        exact ⟨by omega, h4, h5⟩
theorem sub_extract (s : ByteArray) (i j : Nat) : (s.extract i j).data.toList = sub s i j := by
  rw [Lib.extract_data]; rfl
theorem sub_len (s : ByteArray) (i j : Nat) : (sub s i j).length ≤ j - i := by
  unfold sub; rw [List.length_take]; omega
theorem unqF_len : ∀ (f : Nat) (l x : List UInt8), T1.unqF f l = some x → x.length ≤ l.length
  | 0, l, x, h => by
    unfold T1.unqF at h
    split at h
    · cases h; simp
    · cases h
  | f + 1, l, x, h => by
    unfold T1.unqF at h
    split at h
    · cases h; simp
    · next hl =>
      split at h
      · cases h
      · next b k hk =>
        have hk0 : 0 < k := by
          unfold T1.stepL at hk
          split at hk
          · cases hk
          · split at hk
            · cases hk
            · split at hk
              · cases hk; decide
              · split at hk <;> first | (cases hk; done) | skip
                split at hk
                · obtain ⟨_, _, e⟩ := Option.map_eq_some_iff.1 hk
                  cases e; decide
                · obtain ⟨_, _, e⟩ := Option.map_eq_some_iff.1 hk
                  cases e; decide
        obtain ⟨y, hy, rfl⟩ := Option.map_eq_some_iff.1 h
        have h3 := unqF_len f _ y hy
        have h4 : 0 < l.length := List.length_pos_iff.2 hl
        simp only [List.length_cons, List.length_drop] at h3 ⊢
        omega
theorem litS_size (s : ByteArray) (i j : Nat) : (litS s i j).size ≤ j - i := by
  have e : (litS s i j).size = ((T1.unquoteL (sub s i j)).getD []).length := by
    rw [← T1.size_eq]; unfold litS; rfl
  rw [e]
  cases h : T1.unquoteL (sub s i j) with
  | none => simp
  | some x =>
    have h2 : x.length ≤ (sub s i j).length := by
      unfold T1.unquoteL at h
      split at h
      · have h3 := unqF_len _ _ _ h
        unfold T1.midL at h3
        simp only [List.length_take, List.length_drop] at h3
        omega
      · cases h
    have := sub_len s i j
    simp only [Option.getD_some]
    omega
theorem PBox.past {W : World} {b : Nat} {c0 c1 c2 c3 c4 : Value} (h : PBox W b c0 c1 c2 c3 c4) :
    (∀ x : Past W, x.w.cell? ⟨b, 0, none⟩ = some c0) ∧ (∀ x : Past W, x.w.cell? ⟨b, 1, none⟩ = some c1) ∧ (∀ x : Past W, x.w.cell? ⟨b, 2, none⟩ = some c2) ∧ (∀ x : Past W, x.w.cell? ⟨b, 3, none⟩ = some c3) ∧ (∀ x : Past W, x.w.cell? ⟨b, 4, none⟩ = some c4) := by
  have hx := fun x : Past W => PBox.cells (W := x.w) (past_block h x)
  exact ⟨fun x => (hx x).1, fun x => (hx x).2.1, fun x => (hx x).2.2.1, fun x => (hx x).2.2.2.1, fun x => (hx x).2.2.2.2⟩
theorem uq2_is (s : ByteArray) (i j : Nat) : ∃ c : Int, T1.uq2 (T1.unquoteL (sub s i j)) = .tuple #[.string (litS s i j), .int .i64 c] := by
  unfold litS
  cases T1.unquoteL (sub s i j) with
  | none => exact ⟨3, rfl⟩
  | some l => exact ⟨0, rfl⟩
def LitPost (w : World) (p : Nat) (s : ByteArray) (n : Nat) (r : Except Er (ByteArray × Nat)) (e : Ending) (w' : World) : Prop :=
  (∃ x j, r = .ok (x, j) ∧ e = .returned (.tuple #[.string x, .bool true]) ∧ PS w' p s j n 0 0 ∧ Bes p w.heap.size w w') ∨ (∃ x j, r = .error x ∧ e = .returned (.tuple #[.string ⟨#[]⟩, .bool false]) ∧ PS w' p s j n x.1 x.2 ∧ Bes p w.heap.size w w')
set_option maxRecDepth 100000 in
set_option maxHeartbeats 2000000 in
theorem literal_any {w : World} {p : Nat} {s : ByteArray} {i n : Nat} (h : PS w p s i n 0 0) :
    Calls Tryz.prog 19 #[pp p] w (LitPost w p s n (litR s i)) := by
  have HP := Lib.hid h
  have hs := h.hs
  have hi := h.hi
  obtain ⟨q0, q1, q2, q3, q4⟩ := h.box.cells
  clear h
  go_enter Tryz.func19, Tryz.ntmps19
  go_wp2_with fail
  refine (take_any HP.out ⟨#[34]⟩ (by decide)).mono ?_
  intro e w1 hh
  clear q0 q1 q2 q3 q4
  obtain ⟨j1, hr, rfl, hp, hb⟩ | ⟨x, j, hr, rfl, hp, hb⟩ := hh.parts
  rotate_left
  · have E1 : Hid (litR s i = .error x) := Lib.hid (by
      have hr : takeR s [34] i = .error x := hr
      unfold takeR at hr
      split at hr
      · cases hr
      · next h1 =>
        cases hr
        unfold litR
        rw [if_neg]
        intro h2
        rw [isIn_eq, h2] at h1
        exact h1 (by decide))
    have HPX := Lib.hid hp
    have HBX := Lib.hid hb
    clear hp hb hr hh
    go_wp2_with fail
    go_ret2
    exact .inr ⟨x, j, E1.out, rfl, HPX.out, HBX.out⟩
  have hr : takeR s [34] i = .ok j1 := hr
  have h34 : bt s i = 34 ∧ j1 = i + 1 := by
    unfold takeR at hr
    split at hr
    · next h1 =>
      cases hr
      refine ⟨?_, rfl⟩
      rw [isIn_eq] at h1
      have := of_decide_eq_true h1
      simpa using this
    · cases hr
  obtain ⟨h34, rfl⟩ := h34
  have E0 : Hid (litR s i = match charsF s (s.size + 1) (i + 1) with | .error e => .error e | .ok j => .ok (litS s i (j + 1), j + 1)) := Lib.hid (by unfold litR; rw [if_pos h34]; rfl)
  have HP1 := Lib.hid hp
  have HB1 := Lib.hid hb
  clear hp hb hr hh h34
  go_wp2_with fail
  go_loopw [] (fun wr => ∃ (j f : Nat), PS wr p s j n 0 0 ∧ charsF s (s.size + 1) (i + 1) = charsF s f j ∧ s.size + 1 ≤ f + j ∧ i < j ∧ Bes p w.heap.size w wr) (fun wr => s.size - (match wr.cell? ⟨p, 1, none⟩ with | some (.int _ k) => k.toNat | _ => 0))
  case atStart => exact ⟨i + 1, s.size + 1, HP1.out, rfl, by omega, by omega, HB1.out⟩
  case round =>
    obtain ⟨j, f, hp, he, hf, hij, hb⟩ := hrel
    have hj := hp.hi
    obtain ⟨f, rfl⟩ : ∃ g, f = g + 1 := ⟨f - 1, by omega⟩
    have HPJ := Lib.hid hp
    have HE := Lib.hid he
    have HB := Lib.hid hb
    clear hp he hb HP1 HB1
    go_wp2_with fail
    refine (next_any HPJ.out).mono ?_
    rintro e w2 ⟨rfl, hb⟩
    have HB2 := Lib.hid (HB.out.trans ((Bes.of hb).mono HB.out.size))
    have HP2 := Lib.hid (HPJ.out.kept hb)
    clear hb
    by_cases hc : bt s j = 34
    · have hcc : (((bt s j).toNat : Int) != 34) = false := u8_bne' 34 hc
      have hlt : j < s.size := lt_of_bt (by rw [hc]; decide)
      have E1 : Hid (litR s i = .ok (litS s i (j + 1), j + 1)) := Lib.hid (by rw [E0.out, HE.out]; unfold charsF; rw [if_pos hc])
      have HP3 : Hid (PS (w2.setCell ⟨p, 1, none⟩ (.int .i64 ((j : Int) + 1))) p s (j + 1) n 0 0) := Lib.hid (by have := HP2.out.at1 (j := j + 1) (by omega); simpa using this)
      have HB3 : Hid (Bes p w.heap.size w (w2.setCell ⟨p, 1, none⟩ (.int .i64 ((j : Int) + 1)))) := Lib.hid (HB2.out.set 1 _)
      obtain ⟨q0, q1, q2, q3, q4⟩ := HP2.out.box.cells
      have f1 := HP2.out.box.frz 1
      clear hc
      go_wp2_with fail
      refine wp_region_past (fun W => PS W p s (j + 1) n 0 0 ∧ Bes p w.heap.size w W) ⟨HP3.out, HB3.out⟩ (by kernel_rfl) ?_
      clear q0 q1 q2 q3 q4 f1 HP3 HB3
      intro W ⟨g1, g2⟩ _
      obtain ⟨p0, p1, p2, p3, p4⟩ := g1.box.past
      have G1 := Lib.hid g1
      have G2 := Lib.hid g2
      clear g1 g2
      have l1 : (i : Int) ≤ (j : Int) + 1 := by omega
      have l2 : (j : Int) + 1 ≤ (s.size : Int) := by omega
      obtain ⟨cc, hcc2⟩ := uq2_is s i (j + 1)
      have HCC := Lib.hid hcc2
      have C1 : Hid (∀ x : Past W, Calls Tryz.prog 40 #[.string (s.extract i (j + 1))] x.w fun e w'' => e = .returned (.tuple #[.string (litS s i (j + 1)), .int .i64 cc]) ∧ ∃ y : Past W, w'' = y.w) :=
        Lib.hid fun x => past_of x ((T1.unquote_any _ x.w (by rw [← T1.size_eq, sub_extract]; have := sub_len s i (j + 1); omega)).mono (fun e w' h => ⟨by rw [h.1, sub_extract]; exact congrArg _ HCC.out, h.2⟩))
      clear hcc2
      generalize hxx : litS s i (j + 1) = xx at *
      go_big_quiet_step (first | with_reducible exact C1.out _)
      go_big_quiet_step (first | with_reducible exact C1.out _)
      go_big_quiet_step (first | with_reducible exact C1.out _)
      repeat (go_big_quiet_step (first | with_reducible exact C1.out _))
      refine wpQuiet_nil ?_
      intro _ hw'
      obtain ⟨x, rfl⟩ := hw'
      have HPx := Lib.hid (G1.out.kept x.b)
      have HBx := Lib.hid (G2.out.trans ((Bes.of x.b).mono G2.out.size))
      clear p0 p1 p2 p3 p4
      generalize x.w = wx at *
      go_wp2_with fail
      go_ret2
      exact .inl ⟨xx, j + 1, E1.out, rfl, HPx.out, HBx.out⟩
    · have hcc : (((bt s j).toNat : Int) != 34) = true := u8_bne 34 hc
      have HCH := Lib.hid (character_any HP2.out)
      have HST : Hid (charsF s (f + 1) j = match chrR s j with | .error e => .error e | .ok k => charsF s f k) := Lib.hid (by rw [charsF, if_neg hc]; rfl)
      clear hc
      go_wp2_with fail
      refine HCH.out.mono ?_
      intro e w3 hh
      obtain ⟨k, hr, rfl, hp, hb⟩ | ⟨x, k, hr, rfl, hp, hb⟩ := hh.parts
      · have HP3 := Lib.hid hp
        have HB3 := Lib.hid (HB2.out.trans (hb.mono HB2.out.size))
        have E2 : Hid (charsF s (s.size + 1) (i + 1) = charsF s f k) := Lib.hid (by rw [HE.out, HST.out, hr])
        have hjk := (chrR_gt hr).1
        have hks := (chrR_gt hr).2
        have hz : Hid (wr.cell? ⟨p, 1, none⟩ = some (.int .i64 j)) := Lib.hid HPJ.out.box.cells.2.1
        have hz3 : Hid (w3.cell? ⟨p, 1, none⟩ = some (.int .i64 k)) := Lib.hid hp.box.cells.2.1
        clear hp hb hr hh
        go_wp2_with fail
        go_roundw
        case rel => exact ⟨k, f, HP3.out, E2.out, by omega, by omega, HB3.out⟩
        case measure =>
          rw [hz.out, hz3.out]
          simp
          omega
      · have HP3 := Lib.hid hp
        have HB3 := Lib.hid (HB2.out.trans (hb.mono HB2.out.size))
        have E2 : Hid (litR s i = .error x) := Lib.hid (by rw [E0.out, HE.out, HST.out, hr])
        clear hp hb hr hh
        go_wp2_with fail
        go_ret2
        exact .inr ⟨x, k, E2.out, rfl, HP3.out, HB3.out⟩
end Go.Proofs.YtcbajgcblfgmgaaGreatDoor
