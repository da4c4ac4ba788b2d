
/-
  Contract of the reference package of layer 1: Unquote.
-/
import Derived.Test.YtgicbmibhnnflaaGreatDoorRefUnquote
namespace Go.Proofs.YtgicbmibhnnflaaGreatDoor.T1
open Go.RowKit
theorem runquote_no (s : ByteArray) (w : World) (hs : s.size ≤ maxLen) (h : ¬ (2 ≤ s.size ∧ s.data.toList.getD 0 0 = 34 ∧ s.data.toList.getD (s.size - 1) 0 = 34)) :
    Calls Tryz.prog 94 #[.string s] w (UqPost (unquoteL s.data.toList) w) := by
  have e : unquoteL s.data.toList = none := by unfold unquoteL; rw [size_eq, if_neg h]
  rw [e]
  unfold maxLen at hs
  by_cases h2 : 2 ≤ s.size
  · have h0' : 0 < s.size := by omega
    have h1' : s.size - 1 < s.size := by omega
    rw [getD_at s 0 h0', getD_at s (s.size - 1) h1'] at h
    by_cases ha : s[0] = 34
    · have hb : s[s.size - 1] ≠ 34 := fun e => h ⟨h2, ha, e⟩
      have g1 : ((s[0].toNat : Int) != 34) = false := by rw [ha]; rfl
      have g2 : ((s[s.size - 1].toNat : Int) != 34) = true := by
        have := u8_ne hb
        rw [bne]; rw [show ((s[s.size - 1].toNat : Int) == 34) = false from this]; rfl
      clear h ha hb
      go_enter Tryz.func94, Tryz.ntmps94
      go_wp2_with fail
      go_ret2
      exact ⟨rfl, Below.refl _ _⟩
    · have g1 : ((s[0].toNat : Int) != 34) = true := by
        have := u8_ne ha
        rw [bne]; rw [show ((s[0].toNat : Int) == 34) = false from this]; rfl
      clear h ha
      go_enter Tryz.func94, Tryz.ntmps94
      go_wp2_with fail
      go_ret2
      exact ⟨rfl, Below.refl _ _⟩
  · have h2' : (s.size : Int) < 2 := by omega
    clear h h2
    go_enter Tryz.func94, Tryz.ntmps94
    go_wp2_with fail
    go_ret2
    exact ⟨rfl, Below.refl _ _⟩
theorem rest_at (m : ByteArray) (k : Nat) (h : k < m.size) : m.data.toList.drop k = m[k] :: m.data.toList.drop (k + 1) :=
  (List.getElem_cons_drop (by rw [size_eq]; exact h)).symm
theorem step_bad (m : ByteArray) (k : Nat) (h : k < m.size) (hb : m[k] = 34 ∨ prB (m[k].toNat : Int) = false) : stepL (m.data.toList.drop k) = none := by
  rw [rest_at m k h, stepL_cons, if_pos hb]
theorem step_plain (m : ByteArray) (k : Nat) (h : k < m.size) (h1 : m[k] ≠ 34) (h2 : prB (m[k].toNat : Int) = true) (h3 : m[k] ≠ 92) : stepL (m.data.toList.drop k) = some (m[k], 1) := by
  rw [rest_at m k h, stepL_cons, if_neg (by simp [h1, h2]), if_pos h3]
theorem step_last (m : ByteArray) (k : Nat) (h : k < m.size) (h3 : m[k] = 92) (hl : m.size ≤ k + 1) : stepL (m.data.toList.drop k) = none := by
  rw [rest_at m k h, List.drop_eq_nil_of_le (by rw [size_eq]; omega), h3]; decide
theorem step_esc (m : ByteArray) (k : Nat) (h : k + 1 < m.size) (h3 : m[k] = 92) : stepL (m.data.toList.drop k) = if m[k + 1] = 117 then (numL4 (m.data.toList.drop (k + 2))).map (·, 6) else (simpleL m[k + 1]).map (·, 2) := by
  rw [rest_at m k (by omega), rest_at m (k + 1) h, h3, stepL_esc]
theorem prB_parts {n : Int} (h : prB n = true) : 32 ≤ n ∧ n ≤ 126 := by unfold prB at h; simpa using h
theorem prB_not {n : Int} (h : prB n = false) : n < 32 ∨ 126 < n := by unfold prB at h; simp at h; omega
/- What a round does: the content m, its place k, what was read so far. -/
structure Rd (l : List UInt8) (m : ByteArray) (B : World) (k : Nat) (done : List UInt8) (w : World) : Prop where
  le : k ≤ m.size
  len : done.length ≤ k
  at' : UnqAt l done (m.data.toList.drop k)
  below : Below B.heap.size B w
theorem Rd.step {l : List UInt8} {m : ByteArray} {B w w' : World} {k j : Nat} {done : List UInt8} {b : UInt8} (h : Rd l m B k done w) (hs : stepL (m.data.toList.drop k) = some (b, j)) (hb : Below w.heap.size w w') : Rd l m B (k + j) (done ++ [b]) w' := by
  have hl := stepL_len hs
  rw [List.length_drop, size_eq] at hl
  have h1 := h.le
  have h2 := h.len
  refine ⟨by omega, by rw [List.length_append]; simp; omega, ?_, below_tr h.below hb⟩
  have := unqAt_step h.at' hs
  rwa [List.drop_drop] at this
theorem Rd.bad {l : List UInt8} {m : ByteArray} {B w : World} {k : Nat} {done : List UInt8} (h : Rd l m B k done w) (hk : k < m.size) (hs : stepL (m.data.toList.drop k) = none) : unqR l = none :=
  unqAt_bad h.at' (by rw [rest_at m k hk]; simp) hs
theorem Rd.fin {l : List UInt8} {m : ByteArray} {B w : World} {k : Nat} {done : List UInt8} (h : Rd l m B k done w) (hk : ¬ k < m.size) : unqR l = some done :=
  unqAt_end h.at' (List.drop_eq_nil_of_le (by rw [size_eq]; omega))
set_option maxRecDepth 100000 in
set_option maxHeartbeats 1000000 in
theorem runquote_yes (s : ByteArray) (w : World) (hs : s.size ≤ 137438953472) (h2 : 2 ≤ s.size) (ha : s.data.toList.getD 0 0 = 34) (hb : s.data.toList.getD (s.size - 1) 0 = 34) :
    Calls Tryz.prog 94 #[.string s] w (UqPost (unquoteL s.data.toList) w) := by
  have e : unquoteL s.data.toList = unqR (midL s.data.toList) := by unfold unquoteL; rw [size_eq, if_pos ⟨h2, ha, hb⟩]
  rw [e]
  clear e
  have h0' : 0 < s.size := by omega
  have h1' : s.size - 1 < s.size := by omega
  rw [getD_at s 0 h0'] at ha
  rw [getD_at s (s.size - 1) h1'] at hb
  have g1 : ((s[0].toNat : Int) != 34) = false := by rw [ha]; rfl
  have g2 : ((s[s.size - 1].toNat : Int) != 34) = false := by rw [hb]; rfl
  clear ha hb
  go_enter Tryz.func94, Tryz.ntmps94
  go_wp2_with fail
  have hml : (s.extract 1 (s.size - 1)).size ≤ s.size := by
    rw [← size_eq, mid_of, ← size_eq s]; unfold midL; rw [List.length_take, List.length_drop]; omega
  have hat : UnqAt (midL s.data.toList) [] (s.extract 1 (s.size - 1)).data.toList := by rw [mid_of]; exact unqAt_start _
  generalize s.extract 1 (s.size - 1) = m at *
  generalize midL s.data.toList = l at *
  go_loopw [5, 6] (fun o i wr => ∃ (k : Nat) (done : List UInt8), i = .int .i64 k ∧ o = .string ⟨done.toArray⟩ ∧ Rd l m w k done wr) (fun _ i _ => m.size - (intOf i).toNat)
  case atStart => exact ⟨0, [], rfl, rfl, Nat.zero_le _, Nat.le_refl _, hat, Below.refl _ _⟩
  case round =>
    obtain ⟨k, done, rfl, rfl, hR⟩ := hrel
    have hk := hR.le
    have hd := hR.len
    clear hat
    by_cases hlt : k < m.size
    · have hbk := byte_lt m[k]
      by_cases c1 : m[k] = 34 ∨ prB (m[k].toNat : Int) = false
      · have H := Lib.hid (hR.bad hlt (step_bad m k hlt c1))
        have HB := Lib.hid hR.below
        by_cases c2 : prB (m[k].toNat : Int) = false
        · rcases prB_not c2 with c3 | c3
          all_goals
            clear c1 c2 hR
            go_wp2_with fail
            go_ret2
            exact ⟨by rw [H.out]; rfl, HB.out⟩
        · have c3 : m[k] = 34 := c1.resolve_right c2
          have c4 : ((m[k].toNat : Int) == 34) = true := by rw [c3]; rfl
          obtain ⟨c5, c6⟩ := prB_parts (by simpa using c2)
          clear c1 c2 c3 hR
          go_wp2_with fail
          go_ret2
          exact ⟨by rw [H.out]; rfl, HB.out⟩
      have c2 : m[k] ≠ 34 := fun e => c1 (Or.inl e)
      have c3 : prB (m[k].toNat : Int) = true := by
        cases e : prB (m[k].toNat : Int)
        · exact absurd (Or.inr e) c1
        · rfl
      have c4 : ((m[k].toNat : Int) == 34) = false := u8_ne c2
      obtain ⟨c5, c6⟩ := prB_parts c3
      clear c1
      by_cases c7 : m[k] = 92
      · have c8 : ((m[k].toNat : Int) != 92) = false := by rw [c7]; rfl
        clear c2 c3
        by_cases c9 : m.size ≤ k + 1
        · have H := Lib.hid (hR.bad hlt (step_last m k hlt c7 c9))
          have HB := Lib.hid hR.below
          have c10 : (m.size : Int) ≤ (k : Int) + 1 := by omega
          clear c7 hR c9
          go_wp2_with fail
          go_ret2
          exact ⟨by rw [H.out]; rfl, HB.out⟩
        have c10 : k + 1 < m.size := by omega
        have c11 : (k : Int) + 1 < m.size := by omega
        have HS := Lib.hid (step_esc m k c10 c7)
        have HR := Lib.hid hR
        clear c7 hR c9
        go_wp2_with fail
        refine (rsimple_any _ _).mono ?_
        cases ho : simpleL m[k + 1] with
        | some x =>
          rintro e w2 ⟨rfl, rfl⟩
          have hne : m[k + 1] ≠ 117 := by intro e; rw [e, show simpleL 117 = none by decide] at ho; cases ho
          have H : Hid (stepL (m.data.toList.drop k) = some (x, 2)) := Lib.hid (by rw [HS.out, if_neg hne, ho]; rfl)
          have hcv := fun w => conv_B w #[.int .u8 (x.toNat : Int)] [x] 1 1 rfl rfl
          have hadd := fun w => add_L w done [x] (by simp; omega)
          clear ho hne HS
          unfold sb2
          go_wp2
          go_roundw
          case rel => exact ⟨k + 2, done ++ [x], by go_num, rfl, HR.out.step H.out ((Below.refl _ _).alloc (Nat.le_refl _) _)⟩
          case measure => simp [intOf]; omega
        | none =>
          rintro e w2 ⟨rfl, rfl⟩
          by_cases d1 : m[k + 1] = 117
          · have d2 : ((m[k + 1].toNat : Int) != 117) = false := by rw [d1]; rfl
            by_cases d3 : m.size < k + 6
            · have H : Hid (unqR l = none) := Lib.hid (HR.out.bad hlt (by rw [HS.out, if_pos d1, numL4_short (by rw [List.length_drop, size_eq]; omega)]; rfl))
              have HB := Lib.hid HR.out.below
              have d4 : (m.size : Int) < (k : Int) + 6 := by omega
              clear ho d1 HS d3
              unfold sb2
              go_wp2
              go_ret2
              exact ⟨by rw [H.out]; rfl, HB.out⟩
            · have d3' : k + 6 ≤ m.size := by omega
              have d4 : (k : Int) + 6 ≤ m.size := by omega
              have hx : (m.extract (k + 2) (k + 6)).data.toList = (m.data.toList.drop (k + 2)).take 4 := by
                rw [Lib.extract_data]; congr 1; omega
              have hxs : (m.extract (k + 2) (k + 6)).size = 4 := by rw [← size_eq, hx, List.length_take, List.length_drop, size_eq]; omega
              have HX : Hid (codeV (m.extract (k + 2) (k + 6)).data.toList = codeV (m.data.toList.drop (k + 2))) := Lib.hid (by rw [hx, codeV_take])
              have HC := Lib.hid (numL4_code (t := m.data.toList.drop (k + 2)) (by rw [List.length_drop, size_eq]; omega))
              have HXS := Lib.hid hxs
              have HS2 : Hid (stepL (m.data.toList.drop k) = (numL4 (m.data.toList.drop (k + 2))).map (·, 6)) := Lib.hid (by rw [HS.out, if_pos d1])
              have hcb := codeV_bounds (m.data.toList.drop (k + 2))
              clear ho d1 HS d3 hx hxs
              unfold sb2
              go_wp2_with fail
              refine (rcode_any _ _ HXS.out).mono ?_
              rw [HX.out]
              generalize hv : codeV (m.data.toList.drop (k + 2)) = v at *
              have HV := Lib.hid hv
              clear hv
              rintro e w2 ⟨rfl, rfl⟩
              obtain ⟨b1, b2⟩ := hcb
              by_cases e1 : v < 0
              · have H : Hid (unqR l = none) := Lib.hid (HR.out.bad hlt (by rw [HS2.out, HC.out, if_neg (by omega)]; rfl))
                have HB := Lib.hid HR.out.below
                go_wp2
                go_ret2
                exact ⟨by rw [H.out]; rfl, HB.out⟩
              · have e1' : 0 ≤ v := by omega
                by_cases e2 : 255 < v
                · have H : Hid (unqR l = none) := Lib.hid (HR.out.bad hlt (by rw [HS2.out, HC.out, if_neg (by omega)]; rfl))
                  have HB := Lib.hid HR.out.below
                  clear e1
                  go_wp2
                  go_ret2
                  exact ⟨by rw [H.out]; rfl, HB.out⟩
                · have e2' : v ≤ 255 := by omega
                  have H : Hid (stepL (m.data.toList.drop k) = some (UInt8.ofNat v.toNat, 6)) := Lib.hid (by rw [HS2.out, HC.out, if_pos ⟨e1', e2'⟩]; rfl)
                  have hcv := fun w => conv_B w #[.int .u8 v] [UInt8.ofNat v.toNat] 1 1 rfl (by rw [List.map_cons, ofNat_toNat e1' e2']; rfl)
                  have hadd := fun w => add_L w done [UInt8.ofNat v.toNat] (by simp; omega)
                  clear e1 e2
                  go_wp2
                  go_roundw
                  case rel => exact ⟨k + 6, done ++ [UInt8.ofNat v.toNat], by go_num, rfl, HR.out.step H.out ((Below.refl _ _).alloc (Nat.le_refl _) _)⟩
                  case measure => simp [intOf]; omega
          · have d2 : ((m[k + 1].toNat : Int) != 117) = true := by
              have := u8_ne d1
              rw [bne]; rw [show ((m[k + 1].toNat : Int) == 117) = false from this]; rfl
            have H : Hid (unqR l = none) := Lib.hid (HR.out.bad hlt (by rw [HS.out, if_neg d1, ho]; rfl))
            have HB := Lib.hid HR.out.below
            clear ho d1 HS
            unfold sb2
            go_wp2
            go_ret2
            exact ⟨by rw [H.out]; rfl, HB.out⟩
      · have H := Lib.hid (step_plain m k hlt c2 c3 c7)
        have HR := Lib.hid hR
        have c8 : ((m[k].toNat : Int) != 92) = true := by
          have := u8_ne c7
          rw [bne]; rw [show ((m[k].toNat : Int) == 92) = false from this]; rfl
        have hcv := fun w => conv_B w #[.int .u8 (m[k].toNat : Int)] [m[k]] 1 1 rfl rfl
        have hadd := fun w => add_L w done [m[k]] (by simp; omega)
        clear c2 c3 c7 hR
        go_wp2_with fail
        go_roundw
        case rel => exact ⟨k + 1, done ++ [m[k]], by go_num, rfl, HR.out.step H.out ((Below.refl _ _).alloc (Nat.le_refl _) _)⟩
        case measure => simp [intOf]; omega
    · have H := Lib.hid (hR.fin hlt)
      have HB := Lib.hid hR.below
      clear hR
      go_wp2_with fail
      go_ret2
      exact ⟨by rw [H.out]; rfl, HB.out⟩
theorem runquote_any (s : ByteArray) (w : World) (hs : s.size ≤ 137438953472) :
    Calls Tryz.prog 94 #[.string s] w (UqPost (unquoteL s.data.toList) w) := by
  by_cases h : 2 ≤ s.size ∧ s.data.toList.getD 0 0 = 34 ∧ s.data.toList.getD (s.size - 1) 0 = 34
  · exact runquote_yes s w hs h.1 h.2.1 h.2.2
  · exact runquote_no s w (by unfold maxLen; omega) h
end Go.Proofs.YtgicbmibhnnflaaGreatDoor.T1
