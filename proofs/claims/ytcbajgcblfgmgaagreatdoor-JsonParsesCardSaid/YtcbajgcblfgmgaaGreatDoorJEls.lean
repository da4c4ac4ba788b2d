
/-
  The elements of a list or an object, whatever reads one.
-/
import Derived.Test.YtcbajgcblfgmgaaGreatDoorJInt
namespace Go.Proofs.YtcbajgcblfgmgaaGreatDoor
open Go.RowKit
theorem isIn_one (c x : UInt8) : isIn [c] x = decide (x = c) := by
  rw [isIn_eq]; simp
section
variable {α : Type}
def StepPost (step : Except Er (α × Nat × Nat)) (i : Nat) (Inv : α → Nat → Nat → World → Prop) (Bad : Er → World → Prop) (e : Ending) (w' : World) : Prop :=
  (∃ a' i' n', step = .ok (a', i', n') ∧ e = .returned (.bool true) ∧ Inv a' i' n' w' ∧ i ≤ i') ∨ (∃ x, step = .error x ∧ e = .returned (.bool false) ∧ Bad x w')
set_option maxRecDepth 100000 in
set_option maxHeartbeats 4000000 in
theorem elements_any {p : Nat} {s : ByteArray} (F : FuncId) (hF : F = 42 ∨ F = 43) (caps : Array Value) (cl : UInt8) (hcl : cl ≠ 0)
    (step : α → Nat → Nat → Except Er (α × Nat × Nat)) (Inv : α → Nat → Nat → World → Prop) (Bad : Er → World → Prop)
    (hps : ∀ a i n w, Inv a i n w → PS w p s i n 0 0)
    (hmv : ∀ a i i' n w w', Inv a i n w → i ≤ i' → Bes p w.heap.size w w' → PS w' p s i' n 0 0 → Inv a i' n w')
    (hbad : ∀ a i n w w' x j, Inv a i n w → Bes p w.heap.size w w' → PS w' p s j n x.1 x.2 → Bad x w')
    (L : Nat) (hst : ∀ a i n w, Inv a i n w → L ≤ i → Calls Tryz.prog F caps w (StepPost (step a i n) i Inv Bad))
    (a : α) (i n : Nat) (w : World) (h : Inv a i n w) (hlt : i < s.size) (hL : L = i + 1) :
    Calls Tryz.prog 41 #[pp p, .string ⟨#[cl]⟩, .func (.func F) #[] caps] w (StepPost (els s cl step a i n) i Inv Bad) := by
  have HI := Lib.hid h
  have HPS := Lib.hid hps
  have HMV := Lib.hid hmv
  have HBAD := Lib.hid hbad
  have HST := Lib.hid hst
  have HP := Lib.hid (hps _ _ _ _ h)
  have HCL : Hid ((0 : UInt8) ∉ (ByteArray.mk #[cl]).data.toList) := Lib.hid (by intro h; simp at h; exact hcl h.symm)
  have HISP : Hid ((0 : UInt8) ∉ (ByteArray.mk #[32, 9, 10, 13]).data.toList) := Lib.hid (by decide)
  clear h hps hmv hbad hst hcl
  have HP1 : Hid (PS (w.setCell ⟨p, 1, none⟩ (.int .i64 ((i : Int) + 1))) p s (i + 1) n 0 0) := Lib.hid (by have := HP.out.at1 (j := i + 1) (by omega); simpa using this)
  have HB1 : Hid (Bes p w.heap.size w (w.setCell ⟨p, 1, none⟩ (.int .i64 ((i : Int) + 1)))) := Lib.hid ((Bes.refl _ _ _).set 1 _)
  obtain ⟨q0, q1, q2, q3, q4⟩ := HP.out.box.cells
  have f1 := HP.out.box.frz 1
  have hs := HP.out.hs
  go_enter Tryz.func41, Tryz.ntmps41
  go_wp2_with fail
  clear q0 q1 q2 q3 q4 f1
  refine (skip_any HP1.out ⟨#[32, 9, 10, 13]⟩ HISP.out).mono ?_
  rintro e w2 ⟨rfl, hp2, hb2⟩
  have hp2 : PS w2 p s (sk spL s (i + 1)) n 0 0 := hp2
  have hsk := sk_le spL s (i + 1)
  have hEL : els s cl step a i n = if bt s (sk spL s (i + 1)) = cl then .ok (a, sk spL s (i + 1) + 1, n) else elsF s cl step (s.size + 1) a (sk spL s (i + 1)) n := rfl
  have HEL := Lib.hid hEL
  clear hEL
  generalize sk spL s (i + 1) = i1 at *
  have HP2 := Lib.hid hp2
  have HB2 := Lib.hid (HB1.out.trans (hb2.mono HB1.out.size))
  clear hp2 hb2
  go_wp2_with fail
  refine (nextIn_any HP2.out ⟨#[cl]⟩).mono ?_
  rintro e w3 ⟨rfl, hb3⟩
  have HP3 := Lib.hid (HP2.out.kept hb3)
  have HB3 := Lib.hid (HB2.out.trans ((Bes.of hb3).mono HB2.out.size))
  clear hb3
  have hin : isIn (ByteArray.mk #[cl]).data.toList (bt s i1) = decide (bt s i1 = cl) := isIn_one cl _
  rw [hin]
  clear hin
  by_cases hc : bt s i1 = cl
  · have hcd : decide (bt s i1 = cl) = true := decide_eq_true hc
    have hi1 : i1 < s.size := by
      rcases Nat.lt_or_ge i1 s.size with h | h
      · exact h
      · exfalso
        apply HCL.out
        rw [← hc, bt_end s i1 h]
        simp
    have E1 := Lib.hid (HEL.out.trans (if_pos hc))
    have HP4 : Hid (PS (w3.setCell ⟨p, 1, none⟩ (.int .i64 ((i1 : Int) + 1))) p s (i1 + 1) n 0 0) := Lib.hid (by have := HP3.out.at1 (j := i1 + 1) (by omega); simpa using this)
    have HB4 : Hid (Bes p w.heap.size w (w3.setCell ⟨p, 1, none⟩ (.int .i64 ((i1 : Int) + 1)))) := Lib.hid (HB3.out.set 1 _)
    obtain ⟨q0, q1, q2, q3, q4⟩ := HP3.out.box.cells
    have f1 := HP3.out.box.frz 1
    rw [hcd]
    clear hcd hc
    go_wp2_with fail
    go_ret
    exact .inl ⟨a, i1 + 1, n, E1.out, rfl, HMV.out _ _ _ _ _ _ HI.out (by omega) HB4.out HP4.out, by omega⟩
  · have hcd : decide (bt s i1 = cl) = false := decide_eq_false hc
    have E1 := Lib.hid (HEL.out.trans (if_neg hc))
    have HI3 := Lib.hid (HMV.out _ _ _ _ _ _ HI.out (by omega) HB3.out HP3.out)
    rw [hcd]
    clear hcd hc
    go_wp2_with fail
    go_loopw [] (fun wr => ∃ (b : α) (j m f : Nat), Inv b j m wr ∧ els s cl step a i n = elsF s cl step f b j m ∧ s.size + 1 ≤ f + j ∧ i < j) (fun wr => s.size - (match wr.cell? ⟨p, 1, none⟩ with | some (.int _ k) => k.toNat | _ => 0))
    case atStart => exact ⟨a, i1, n, s.size + 1, HI3.out, E1.out, by omega, by omega⟩
    case round =>
      obtain ⟨b, j, m, f, hi, he, hf, hij⟩ := hrel
      have HIJ := Lib.hid hi
      have HPJ := Lib.hid (HPS.out _ _ _ _ hi)
      have HE := Lib.hid he
      have hjs := HPJ.out.hi
      obtain ⟨f, rfl⟩ : ∃ g, f = g + 1 := ⟨f - 1, by omega⟩
      clear hi he HP1 HB1 HP2 HB2 HP3 HB3 HI3 E1 HI HEL
      have HCC := Lib.hid (HST.out b j m wr HIJ.out (by omega))
      rcases hF with rfl | rfl
      · go_wp2_with fail
        refine HCC.out.mono ?_
        rintro e w4 (⟨b', j', m', hr, rfl, hi', hjj⟩ | ⟨x, hr, rfl, hbd⟩)
        rotate_left
        · have E1 : Hid (els s cl step a i n = .error x) := Lib.hid (by rw [HE.out, elsF, hr])
          have HBD := Lib.hid hbd
          clear hr hbd
          go_wp2_with fail
          go_ret
          exact .inr ⟨x, E1.out, rfl, HBD.out⟩
        have HI4 := Lib.hid hi'
        have HP4 := Lib.hid (HPS.out _ _ _ _ hi')
        have hE2 : els s cl step a i n = (if bt s (sk spL s j') = cl then .ok (b', sk spL s j' + 1, m') else if bt s (sk spL s j') = 44 then elsF s cl step f b' (sk spL s j' + 1) m' else .error (sk spL s j', 3)) := by rw [HE.out, elsF, hr]
        have HE2 := Lib.hid hE2
        clear hr hi' hE2
        have hz : Hid (wr.cell? ⟨p, 1, none⟩ = some (.int .i64 j)) := Lib.hid HPJ.out.box.cells.2.1
        go_wp2_with fail
        refine (skip_any HP4.out ⟨#[32, 9, 10, 13]⟩ HISP.out).mono ?_
        rintro e w5 ⟨rfl, hp5, hb5⟩
        have hp5 : PS w5 p s (sk spL s j') m' 0 0 := hp5
        have hsk2 := sk_le spL s j'
        generalize sk spL s j' = i2 at *
        have HP5 := Lib.hid hp5
        have HB5 := Lib.hid hb5
        clear hp5 hb5
        go_wp2_with fail
        refine (nextIn_any HP5.out ⟨#[cl]⟩).mono ?_
        rintro e w6 ⟨rfl, hb6⟩
        have HP6 := Lib.hid (HP5.out.kept hb6)
        have HB6 := Lib.hid (HB5.out.trans ((Bes.of hb6).mono HB5.out.size))
        clear hb6
        have hin : isIn (ByteArray.mk #[cl]).data.toList (bt s i2) = decide (bt s i2 = cl) := isIn_one cl _
        rw [hin]
        clear hin
        by_cases hc : bt s i2 = cl
        · have hcd : decide (bt s i2 = cl) = true := decide_eq_true hc
          have hi2 : i2 < s.size := by
            rcases Nat.lt_or_ge i2 s.size with h | h
            · exact h
            · exfalso
              apply HCL.out
              rw [← hc, bt_end s i2 h]
              simp
          have E1 := Lib.hid (HE2.out.trans (if_pos hc))
          have HP7 : Hid (PS (w6.setCell ⟨p, 1, none⟩ (.int .i64 ((i2 : Int) + 1))) p s (i2 + 1) m' 0 0) := Lib.hid (by have := HP6.out.at1 (j := i2 + 1) (by omega); simpa using this)
          have HB7 : Hid (Bes p w4.heap.size w4 (w6.setCell ⟨p, 1, none⟩ (.int .i64 ((i2 : Int) + 1)))) := Lib.hid (HB6.out.set 1 _)
          obtain ⟨q0, q1, q2, q3, q4⟩ := HP6.out.box.cells
          have f1 := HP6.out.box.frz 1
          rw [hcd]
          clear hcd hc
          go_wp2_with fail
          go_ret
          exact .inl ⟨b', i2 + 1, m', E1.out, rfl, HMV.out _ _ _ _ _ _ HI4.out (by omega) HB7.out HP7.out, by omega⟩
        · have hcd : decide (bt s i2 = cl) = false := decide_eq_false hc
          have HE3 := Lib.hid (HE2.out.trans (if_neg hc))
          rw [hcd]
          clear hcd hc
          go_wp2_with fail
          refine (take_any HP6.out ⟨#[44]⟩ (by decide)).mono ?_
          intro e w7 hh
          obtain ⟨j1, hr, rfl, hp, hb⟩ | ⟨x, j1, hr, rfl, hp, hb⟩ := hh.parts
          · have hr : takeR s [44] i2 = .ok j1 := hr
            have h44 : bt s i2 = 44 ∧ j1 = i2 + 1 := by
              unfold takeR at hr
              rw [isIn_one] at hr
              split at hr
              · next h1 => cases hr; exact ⟨of_decide_eq_true h1, rfl⟩
              · cases hr
            obtain ⟨h44, rfl⟩ := h44
            have E2 := Lib.hid (HE3.out.trans (if_pos h44))
            have HI7 := Lib.hid (HMV.out _ _ _ _ _ _ HI4.out (by omega) (HB6.out.trans (hb.mono HB6.out.size)) hp)
            have hz7 : Hid (w7.cell? ⟨p, 1, none⟩ = some (.int .i64 ((i2 + 1 : Nat) : Int))) := Lib.hid hp.box.cells.2.1
            have hi7 := hp.hi
            clear hp hb hr hh h44
            go_wp2_with fail
            go_roundw
            case rel => exact ⟨b', i2 + 1, m', f, HI7.out, E2.out, by omega, by omega⟩
            case measure =>
              rw [hz.out, hz7.out]
              show s.size - (i2 + 1) < s.size - j
              omega
          · have hr : takeR s [44] i2 = .error x := hr
            have h44 : bt s i2 ≠ 44 ∧ x = (i2, 3) := by
              unfold takeR at hr
              rw [isIn_one] at hr
              split at hr
              · cases hr
              · next h1 => cases hr; exact ⟨fun h => h1 (decide_eq_true h), rfl⟩
            obtain ⟨h44, rfl⟩ := h44
            have E2 := Lib.hid (HE3.out.trans (if_neg h44))
            have HBD := Lib.hid (HBAD.out _ _ _ _ _ _ _ HI4.out (HB6.out.trans (hb.mono HB6.out.size)) hp)
            clear hp hb hr hh h44
            go_wp2_with fail
            go_ret
            exact .inr ⟨(i2, 3), E2.out, rfl, HBD.out⟩
      · go_wp2_with fail
        refine HCC.out.mono ?_
        rintro e w4 (⟨b', j', m', hr, rfl, hi', hjj⟩ | ⟨x, hr, rfl, hbd⟩)
        rotate_left
        · have E1 : Hid (els s cl step a i n = .error x) := Lib.hid (by rw [HE.out, elsF, hr])
          have HBD := Lib.hid hbd
          clear hr hbd
          go_wp2_with fail
          go_ret
          exact .inr ⟨x, E1.out, rfl, HBD.out⟩
        have HI4 := Lib.hid hi'
        have HP4 := Lib.hid (HPS.out _ _ _ _ hi')
        have hE2 : els s cl step a i n = (if bt s (sk spL s j') = cl then .ok (b', sk spL s j' + 1, m') else if bt s (sk spL s j') = 44 then elsF s cl step f b' (sk spL s j' + 1) m' else .error (sk spL s j', 3)) := by rw [HE.out, elsF, hr]
        have HE2 := Lib.hid hE2
        clear hr hi' hE2
        have hz : Hid (wr.cell? ⟨p, 1, none⟩ = some (.int .i64 j)) := Lib.hid HPJ.out.box.cells.2.1
        go_wp2_with fail
        refine (skip_any HP4.out ⟨#[32, 9, 10, 13]⟩ HISP.out).mono ?_
        rintro e w5 ⟨rfl, hp5, hb5⟩
        have hp5 : PS w5 p s (sk spL s j') m' 0 0 := hp5
        have hsk2 := sk_le spL s j'
        generalize sk spL s j' = i2 at *
        have HP5 := Lib.hid hp5
        have HB5 := Lib.hid hb5
        clear hp5 hb5
        go_wp2_with fail
        refine (nextIn_any HP5.out ⟨#[cl]⟩).mono ?_
        rintro e w6 ⟨rfl, hb6⟩
        have HP6 := Lib.hid (HP5.out.kept hb6)
        have HB6 := Lib.hid (HB5.out.trans ((Bes.of hb6).mono HB5.out.size))
        clear hb6
        have hin : isIn (ByteArray.mk #[cl]).data.toList (bt s i2) = decide (bt s i2 = cl) := isIn_one cl _
        rw [hin]
        clear hin
        by_cases hc : bt s i2 = cl
        · have hcd : decide (bt s i2 = cl) = true := decide_eq_true hc
          have hi2 : i2 < s.size := by
            rcases Nat.lt_or_ge i2 s.size with h | h
            · exact h
            · exfalso
              apply HCL.out
              rw [← hc, bt_end s i2 h]
              simp
          have E1 := Lib.hid (HE2.out.trans (if_pos hc))
          have HP7 : Hid (PS (w6.setCell ⟨p, 1, none⟩ (.int .i64 ((i2 : Int) + 1))) p s (i2 + 1) m' 0 0) := Lib.hid (by have := HP6.out.at1 (j := i2 + 1) (by omega); simpa using this)
          have HB7 : Hid (Bes p w4.heap.size w4 (w6.setCell ⟨p, 1, none⟩ (.int .i64 ((i2 : Int) + 1)))) := Lib.hid (HB6.out.set 1 _)
          obtain ⟨q0, q1, q2, q3, q4⟩ := HP6.out.box.cells
          have f1 := HP6.out.box.frz 1
          rw [hcd]
          clear hcd hc
          go_wp2_with fail
          go_ret
          exact .inl ⟨b', i2 + 1, m', E1.out, rfl, HMV.out _ _ _ _ _ _ HI4.out (by omega) HB7.out HP7.out, by omega⟩
        · have hcd : decide (bt s i2 = cl) = false := decide_eq_false hc
          have HE3 := Lib.hid (HE2.out.trans (if_neg hc))
          rw [hcd]
          clear hcd hc
          go_wp2_with fail
          refine (take_any HP6.out ⟨#[44]⟩ (by decide)).mono ?_
          intro e w7 hh
          obtain ⟨j1, hr, rfl, hp, hb⟩ | ⟨x, j1, hr, rfl, hp, hb⟩ := hh.parts
          · have hr : takeR s [44] i2 = .ok j1 := hr
            have h44 : bt s i2 = 44 ∧ j1 = i2 + 1 := by
              unfold takeR at hr
              rw [isIn_one] at hr
              split at hr
              · next h1 => cases hr; exact ⟨of_decide_eq_true h1, rfl⟩
              · cases hr
            obtain ⟨h44, rfl⟩ := h44
            have E2 := Lib.hid (HE3.out.trans (if_pos h44))
            have HI7 := Lib.hid (HMV.out _ _ _ _ _ _ HI4.out (by omega) (HB6.out.trans (hb.mono HB6.out.size)) hp)
            have hz7 : Hid (w7.cell? ⟨p, 1, none⟩ = some (.int .i64 ((i2 + 1 : Nat) : Int))) := Lib.hid hp.box.cells.2.1
            have hi7 := hp.hi
            clear hp hb hr hh h44
            go_wp2_with fail
            go_roundw
            case rel => exact ⟨b', i2 + 1, m', f, HI7.out, E2.out, by omega, by omega⟩
            case measure =>
              rw [hz.out, hz7.out]
              show s.size - (i2 + 1) < s.size - j
              omega
          · have hr : takeR s [44] i2 = .error x := hr
            have h44 : bt s i2 ≠ 44 ∧ x = (i2, 3) := by
              unfold takeR at hr
              rw [isIn_one] at hr
              split at hr
              · cases hr
              · next h1 => cases hr; exact ⟨fun h => h1 (decide_eq_true h), rfl⟩
            obtain ⟨h44, rfl⟩ := h44
            have E2 := Lib.hid (HE3.out.trans (if_neg h44))
            have HBD := Lib.hid (HBAD.out _ _ _ _ _ _ _ HI4.out (HB6.out.trans (hb.mono HB6.out.size)) hp)
            clear hp hb hr hh h44
            go_wp2_with fail
            go_ret
            exact .inr ⟨(i2, 3), E2.out, rfl, HBD.out⟩
end
end Go.Proofs.YtcbajgcblfgmgaaGreatDoor
