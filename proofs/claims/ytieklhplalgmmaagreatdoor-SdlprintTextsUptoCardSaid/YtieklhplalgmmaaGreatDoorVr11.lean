
/-
  Texts joined: N8 N9 NX NO3.
-/
import Derived.Test.YtieklhplalgmmaaGreatDoorVr9
import Derived.Test.YtieklhplalgmmaaGreatDoorVr10
import Derived.Test.YtieklhplalgmmaaGreatDoorVr7
import Derived.Test.YtieklhplalgmmaaGreatDoorVr6
namespace Go.Proofs.YtieklhplalgmmaaGreatDoor
open Go.RowKit
def inpsFit (l : List InpT) : Prop := ∀ x ∈ l, inpFit x
def fldFit (x : FldT) : Prop := rfFit x.tn x.tw ∧ inpsFit x.args ∧ dirsFit x.dirs
def defFit (x : DefT) : Prop := (1 ≤ x.kind ∧ x.kind ≤ 5) ∧ dirsFit x.dirs ∧ (∀ y ∈ x.fields, fldFit y) ∧ (∀ y ∈ x.members, dirsFit y.dirs) ∧ inpsFit x.inputs
set_option maxRecDepth 100000 in
set_option maxHeartbeats 4000000 in
theorem field_any (B b : Nat) (hO : ValOk B b) (x : FldT) (hf : fldFit x) (f : Nat → Value) (w : World) (h : FldR w B f x) : Prints B b w 32 (.agg #[f 0, f 1, f 2, f 3, f 4]) (fldTxt x) := by
  intro l hp hL hl hB
  obtain ⟨A1, c1, e1, _, _⟩ := h.args.form
  obtain ⟨A3, c3, e3, _, _⟩ := h.type.wraps.form
  obtain ⟨A4, c4, e4, _, _⟩ := h.dirs.form
  have ha := h.args
  have ht := h.type
  have hd := h.dirs
  rw [h.name, h.type.name, e1, e3, e4]
  rw [e1] at ha
  rw [h.type.name, e3] at ht
  rw [e4] at hd
  clear e1 e3 e4 h
  obtain ⟨n1, hn1⟩ : ∃ n1, x.args.length = n1 := ⟨_, rfl⟩
  unfold fldTxt at hl ⊢
  rw [hn1] at ha hl ⊢
  generalize x.tw.length = n3 at ht ⊢
  generalize x.dirs.length = n4 at hd ⊢
  have HA0 := Lib.hid (ha.kept (below_new w (.cells #[.string x.name, .slice A1 n1 c1, .string x.tn, .slice A3 n3 c3, .slice A4 n4 c4] 40 (0, 0)) |>.mono hB))
  have HT0 := Lib.hid (ht.kept (below_new w (.cells #[.string x.name, .slice A1 n1 c1, .string x.tn, .slice A3 n3 c3, .slice A4 n4 c4] 40 (0, 0)) |>.mono hB))
  have HD0 := Lib.hid (hd.kept (below_new w (.cells #[.string x.name, .slice A1 n1 c1, .string x.tn, .slice A3 n3 c3, .slice A4 n4 c4] 40 (0, 0)) |>.mono hB))
  have HO := Lib.hid hO
  have HF := Lib.hid hf
  clear ha ht hd hO hf hn1
  by_cases h0 : n1 = 0
  · subst h0
    rw [if_pos rfl] at hl ⊢
    have HW0 : Hid (Wr B b w (w.alloc (.cells #[.string x.name, .slice A1 0 c1, .string x.tn, .slice A3 n3 c3, .slice A4 n4 c4] 40 (0, 0)))) := Lib.hid ((Wr.refl B b w).alloc hB _)
    have HP0 := Lib.hid (hp.alloc (.cells #[.string x.name, .slice A1 0 c1, .string x.tn, .slice A3 n3 c3, .slice A4 n4 c4] 40 (0, 0)))
    have HK0 := Lib.hid (Bk.new w #[.string x.name, .slice A1 0 c1, .string x.tn, .slice A3 n3 c3, .slice A4 n4 c4] 40)
    have HL := Lib.hid hL
    have HLL := Lib.hid hl
    have HBB := Lib.hid hB
    have hbw := hp.lt
    clear hL hl hB hp
    generalize hrf : refTxt x.tn x.tw = out at *
    obtain ⟨o, rfl⟩ : ∃ o : ByteArray, o.data.toList = out := ⟨⟨out.toArray⟩, by simp⟩
    have ho2 : (⟨o.data.toList.toArray⟩ : ByteArray) = o := by cases o; simp
    have hob : o.data.toList = bL o := rfl
    have CALLP : Hid (∀ (W : World), RfR W B (.string x.tn) (.slice A3 n3 c3) x.tn x.tw → B ≤ W.heap.size → Calls Tryz.prog 67 #[.agg #[.string x.tn, .slice A3 n3 c3]] W fun e w' => e = .returned (.string o) ∧ Below W.heap.size W w') := Lib.hid fun W h1 h2 => by
      have h3 := pprint_any B x.tn x.tw HF.out.1 W _ _ h1 h2
      rw [hrf, ho2] at h3; exact h3
    rw [hob] at HLL ⊢
    clear hrf ho2 hob
    go_enter Tryz.func32, Tryz.ntmps32
    have y0 := HK0.out.cell 0 _ rfl
    have y1 := HK0.out.cell 1 _ rfl
    have y2 := HK0.out.cell 2 _ rfl
    have y3 := HK0.out.cell 3 _ rfl
    have y4 := HK0.out.cell 4 _ rfl
    go_wp2_with fail
    refine (put1 _ B b _ _ _ (by simp) HP0.out (by have h1 := HLL.out; (try simp only [lit_bL] at h1 ⊢); (try simp only [List.length_append] at h1 ⊢); (try simp only [List.length_cons] at h1 ⊢); (try simp only [List.length_append] at h1 ⊢); (try simp only [List.length_nil] at h1 ⊢); (try simp only [bL_len] at h1 ⊢); (try simp only [lit_size] at h1 ⊢); (try simp only [List.length_cons] at h1 ⊢); (try simp only [List.length_nil] at h1 ⊢); omega) (Nat.le_trans HBB.out HW0.out.below.size)).mono ?_
    rintro e w1 ⟨rfl, hp, hw⟩
    have HP1 := Lib.hid hp
    have HW1 := Lib.hid (HW0.out.trans hw)
    have HK1 := Lib.hid (HK0.out.wr hw (by omega) (by decide))
    have HA1 := Lib.hid (InpsR.kept HA0.out hw.below)
    have HT1 := Lib.hid (RfR.kept HT0.out hw.below)
    have HD1 := Lib.hid (DirsR.kept HD0.out hw.below)
    clear hp hw
    clear y0 y1 y2 y3 y4
    have y0 := HK1.out.cell 0 _ rfl
    have y1 := HK1.out.cell 1 _ rfl
    have y2 := HK1.out.cell 2 _ rfl
    have y3 := HK1.out.cell 3 _ rfl
    have y4 := HK1.out.cell 4 _ rfl
    go_wp2_with fail
    refine (CALLP.out _ HT1.out (Nat.le_trans HBB.out HW1.out.below.size)).mono ?_
    rintro e w2 ⟨rfl, hb⟩
    have HP2 := Lib.hid (HP1.out.kept hb)
    have HW2 := Lib.hid (HW1.out.trans (Wr.of (Nat.le_trans HBB.out HW1.out.below.size) hb))
    have HK2 := Lib.hid (HK1.out.stay hb)
    have HA2 := Lib.hid (InpsR.kept HA1.out (hb.mono (Nat.le_trans HBB.out HW1.out.below.size)))
    have HT2 := Lib.hid (RfR.kept HT1.out (hb.mono (Nat.le_trans HBB.out HW1.out.below.size)))
    have HD2 := Lib.hid (DirsR.kept HD1.out (hb.mono (Nat.le_trans HBB.out HW1.out.below.size)))
    clear hb
    clear y0 y1 y2 y3 y4
    have y0 := HK2.out.cell 0 _ rfl
    have y1 := HK2.out.cell 1 _ rfl
    have y2 := HK2.out.cell 2 _ rfl
    have y3 := HK2.out.cell 3 _ rfl
    have y4 := HK2.out.cell 4 _ rfl
    go_wp2_with fail
    refine (put2 _ _ B b _ _ _ (by simp) HP2.out (by have h1 := HLL.out; (try simp only [lit_bL] at h1 ⊢); (try simp only [List.length_append] at h1 ⊢); (try simp only [List.length_cons] at h1 ⊢); (try simp only [List.length_append] at h1 ⊢); (try simp only [List.length_nil] at h1 ⊢); (try simp only [bL_len] at h1 ⊢); (try simp only [lit_size] at h1 ⊢); (try simp only [List.length_cons] at h1 ⊢); (try simp only [List.length_nil] at h1 ⊢); omega) (Nat.le_trans HBB.out HW2.out.below.size)).mono ?_
    rintro e w3 ⟨rfl, hp, hw⟩
    have HP3 := Lib.hid hp
    have HW3 := Lib.hid (HW2.out.trans hw)
    have HK3 := Lib.hid (HK2.out.wr hw (by omega) (by decide))
    have HA3 := Lib.hid (InpsR.kept HA2.out hw.below)
    have HT3 := Lib.hid (RfR.kept HT2.out hw.below)
    have HD3 := Lib.hid (DirsR.kept HD2.out hw.below)
    clear hp hw
    clear y0 y1 y2 y3 y4
    have y0 := HK3.out.cell 0 _ rfl
    have y1 := HK3.out.cell 1 _ rfl
    have y2 := HK3.out.cell 2 _ rfl
    have y3 := HK3.out.cell 3 _ rfl
    have y4 := HK3.out.cell 4 _ rfl
    go_wp2_with fail
    refine (directives_any B b HO.out x.dirs HF.out.2.2 _ _ HD3.out _ HP3.out (HL.out.kept HW3.out.below) (by have h1 := HLL.out; (try simp only [lit_bL] at h1 ⊢); (try simp only [List.length_append] at h1 ⊢); (try simp only [List.length_cons] at h1 ⊢); (try simp only [List.length_append] at h1 ⊢); (try simp only [List.length_nil] at h1 ⊢); (try simp only [bL_len] at h1 ⊢); (try simp only [lit_size] at h1 ⊢); (try simp only [List.length_cons] at h1 ⊢); (try simp only [List.length_nil] at h1 ⊢); omega) (Nat.le_trans HBB.out HW3.out.below.size)).mono ?_
    rintro e w4 ⟨rfl, hp, hw⟩
    have HP4 := Lib.hid hp
    have HW4 := Lib.hid (HW3.out.trans hw)
    have HK4 := Lib.hid (HK3.out.wr hw (by omega) (by decide))
    have HA4 := Lib.hid (InpsR.kept HA3.out hw.below)
    have HT4 := Lib.hid (RfR.kept HT3.out hw.below)
    have HD4 := Lib.hid (DirsR.kept HD3.out hw.below)
    clear hp hw
    clear y0 y1 y2 y3 y4
    have y0 := HK4.out.cell 0 _ rfl
    have y1 := HK4.out.cell 1 _ rfl
    have y2 := HK4.out.cell 2 _ rfl
    have y3 := HK4.out.cell 3 _ rfl
    have y4 := HK4.out.cell 4 _ rfl
    go_wp2_with fail
    go_end0
    exact ⟨rfl, by have h1 := HP4.out; (try simp only [List.append_assoc] at h1); (try simp only [List.append_nil] at h1); (try simp only [List.append_assoc]); (try simp only [List.append_nil]); exact h1, HW4.out⟩
  · have h0' : (n1 : Int) > 0 := by omega
    rw [if_neg h0] at hl ⊢
    clear h0
    have HW0 : Hid (Wr B b w (w.alloc (.cells #[.string x.name, .slice A1 n1 c1, .string x.tn, .slice A3 n3 c3, .slice A4 n4 c4] 40 (0, 0)))) := Lib.hid ((Wr.refl B b w).alloc hB _)
    have HP0 := Lib.hid (hp.alloc (.cells #[.string x.name, .slice A1 n1 c1, .string x.tn, .slice A3 n3 c3, .slice A4 n4 c4] 40 (0, 0)))
    have HK0 := Lib.hid (Bk.new w #[.string x.name, .slice A1 n1 c1, .string x.tn, .slice A3 n3 c3, .slice A4 n4 c4] 40)
    have HL := Lib.hid hL
    have HLL := Lib.hid hl
    have HBB := Lib.hid hB
    have hbw := hp.lt
    clear hL hl hB hp
    generalize hrf : refTxt x.tn x.tw = out at *
    obtain ⟨o, rfl⟩ : ∃ o : ByteArray, o.data.toList = out := ⟨⟨out.toArray⟩, by simp⟩
    have ho2 : (⟨o.data.toList.toArray⟩ : ByteArray) = o := by cases o; simp
    have hob : o.data.toList = bL o := rfl
    have CALLP : Hid (∀ (W : World), RfR W B (.string x.tn) (.slice A3 n3 c3) x.tn x.tw → B ≤ W.heap.size → Calls Tryz.prog 67 #[.agg #[.string x.tn, .slice A3 n3 c3]] W fun e w' => e = .returned (.string o) ∧ Below W.heap.size W w') := Lib.hid fun W h1 h2 => by
      have h3 := pprint_any B x.tn x.tw HF.out.1 W _ _ h1 h2
      rw [hrf, ho2] at h3; exact h3
    rw [hob] at HLL ⊢
    clear hrf ho2 hob
    go_enter Tryz.func32, Tryz.ntmps32
    have y0 := HK0.out.cell 0 _ rfl
    have y1 := HK0.out.cell 1 _ rfl
    have y2 := HK0.out.cell 2 _ rfl
    have y3 := HK0.out.cell 3 _ rfl
    have y4 := HK0.out.cell 4 _ rfl
    go_wp2_with fail
    refine (put1 _ B b _ _ _ (by simp) HP0.out (by have h1 := HLL.out; (try simp only [lit_bL] at h1 ⊢); (try simp only [List.length_append] at h1 ⊢); (try simp only [List.length_cons] at h1 ⊢); (try simp only [List.length_append] at h1 ⊢); (try simp only [List.length_nil] at h1 ⊢); (try simp only [bL_len] at h1 ⊢); (try simp only [lit_size] at h1 ⊢); (try simp only [List.length_cons] at h1 ⊢); (try simp only [List.length_nil] at h1 ⊢); omega) (Nat.le_trans HBB.out HW0.out.below.size)).mono ?_
    rintro e w1 ⟨rfl, hp, hw⟩
    have HP1 := Lib.hid hp
    have HW1 := Lib.hid (HW0.out.trans hw)
    have HK1 := Lib.hid (HK0.out.wr hw (by omega) (by decide))
    have HA1 := Lib.hid (InpsR.kept HA0.out hw.below)
    have HT1 := Lib.hid (RfR.kept HT0.out hw.below)
    have HD1 := Lib.hid (DirsR.kept HD0.out hw.below)
    clear hp hw
    clear y0 y1 y2 y3 y4
    have y0 := HK1.out.cell 0 _ rfl
    have y1 := HK1.out.cell 1 _ rfl
    have y2 := HK1.out.cell 2 _ rfl
    have y3 := HK1.out.cell 3 _ rfl
    have y4 := HK1.out.cell 4 _ rfl
    go_wp2_with fail
    refine (put1 _ B b _ _ _ (by simp) HP1.out (by have h1 := HLL.out; (try simp only [lit_bL] at h1 ⊢); (try simp only [List.length_append] at h1 ⊢); (try simp only [List.length_cons] at h1 ⊢); (try simp only [List.length_append] at h1 ⊢); (try simp only [List.length_nil] at h1 ⊢); (try simp only [bL_len] at h1 ⊢); (try simp only [lit_size] at h1 ⊢); (try simp only [List.length_cons] at h1 ⊢); (try simp only [List.length_nil] at h1 ⊢); omega) (Nat.le_trans HBB.out HW1.out.below.size)).mono ?_
    rintro e w2 ⟨rfl, hp, hw⟩
    have HP2 := Lib.hid hp
    have HW2 := Lib.hid (HW1.out.trans hw)
    have HK2 := Lib.hid (HK1.out.wr hw (by omega) (by decide))
    have HA2 := Lib.hid (InpsR.kept HA1.out hw.below)
    have HT2 := Lib.hid (RfR.kept HT1.out hw.below)
    have HD2 := Lib.hid (DirsR.kept HD1.out hw.below)
    clear hp hw
    clear y0 y1 y2 y3 y4
    have y0 := HK2.out.cell 0 _ rfl
    have y1 := HK2.out.cell 1 _ rfl
    have y2 := HK2.out.cell 2 _ rfl
    have y3 := HK2.out.cell 3 _ rfl
    have y4 := HK2.out.cell 4 _ rfl
    go_wp2_with fail
    refine (sepInp_any B b x.args inpTxt (fun y hy f W hR => input_any B b HO.out y (HF.out.2.1 y hy) f W hR) _ _ _ _ HA2.out HP2.out (HL.out.kept HW2.out.below) (by have h1 := HLL.out; (try simp only [lit_bL] at h1 ⊢); (try simp only [List.length_append] at h1 ⊢); (try simp only [List.length_cons] at h1 ⊢); (try simp only [List.length_append] at h1 ⊢); (try simp only [List.length_nil] at h1 ⊢); (try simp only [bL_len] at h1 ⊢); (try simp only [lit_size] at h1 ⊢); (try simp only [List.length_cons] at h1 ⊢); (try simp only [List.length_nil] at h1 ⊢); omega) (Nat.le_trans HBB.out HW2.out.below.size)).mono ?_
    rintro e w3 ⟨rfl, hp, hw⟩
    have HP3 := Lib.hid hp
    have HW3 := Lib.hid (HW2.out.trans hw)
    have HK3 := Lib.hid (HK2.out.wr hw (by omega) (by decide))
    have HA3 := Lib.hid (InpsR.kept HA2.out hw.below)
    have HT3 := Lib.hid (RfR.kept HT2.out hw.below)
    have HD3 := Lib.hid (DirsR.kept HD2.out hw.below)
    clear hp hw
    clear y0 y1 y2 y3 y4
    have y0 := HK3.out.cell 0 _ rfl
    have y1 := HK3.out.cell 1 _ rfl
    have y2 := HK3.out.cell 2 _ rfl
    have y3 := HK3.out.cell 3 _ rfl
    have y4 := HK3.out.cell 4 _ rfl
    go_wp2_with fail
    refine (put1 _ B b _ _ _ (by simp) HP3.out (by have h1 := HLL.out; (try simp only [lit_bL] at h1 ⊢); (try simp only [List.length_append] at h1 ⊢); (try simp only [List.length_cons] at h1 ⊢); (try simp only [List.length_append] at h1 ⊢); (try simp only [List.length_nil] at h1 ⊢); (try simp only [bL_len] at h1 ⊢); (try simp only [lit_size] at h1 ⊢); (try simp only [List.length_cons] at h1 ⊢); (try simp only [List.length_nil] at h1 ⊢); omega) (Nat.le_trans HBB.out HW3.out.below.size)).mono ?_
    rintro e w4 ⟨rfl, hp, hw⟩
    have HP4 := Lib.hid hp
    have HW4 := Lib.hid (HW3.out.trans hw)
    have HK4 := Lib.hid (HK3.out.wr hw (by omega) (by decide))
    have HA4 := Lib.hid (InpsR.kept HA3.out hw.below)
    have HT4 := Lib.hid (RfR.kept HT3.out hw.below)
    have HD4 := Lib.hid (DirsR.kept HD3.out hw.below)
    clear hp hw
    clear y0 y1 y2 y3 y4
    have y0 := HK4.out.cell 0 _ rfl
    have y1 := HK4.out.cell 1 _ rfl
    have y2 := HK4.out.cell 2 _ rfl
    have y3 := HK4.out.cell 3 _ rfl
    have y4 := HK4.out.cell 4 _ rfl
    go_wp2_with fail
    refine (CALLP.out _ HT4.out (Nat.le_trans HBB.out HW4.out.below.size)).mono ?_
    rintro e w5 ⟨rfl, hb⟩
    have HP5 := Lib.hid (HP4.out.kept hb)
    have HW5 := Lib.hid (HW4.out.trans (Wr.of (Nat.le_trans HBB.out HW4.out.below.size) hb))
    have HK5 := Lib.hid (HK4.out.stay hb)
    have HA5 := Lib.hid (InpsR.kept HA4.out (hb.mono (Nat.le_trans HBB.out HW4.out.below.size)))
    have HT5 := Lib.hid (RfR.kept HT4.out (hb.mono (Nat.le_trans HBB.out HW4.out.below.size)))
    have HD5 := Lib.hid (DirsR.kept HD4.out (hb.mono (Nat.le_trans HBB.out HW4.out.below.size)))
    clear hb
    clear y0 y1 y2 y3 y4
    have y0 := HK5.out.cell 0 _ rfl
    have y1 := HK5.out.cell 1 _ rfl
    have y2 := HK5.out.cell 2 _ rfl
    have y3 := HK5.out.cell 3 _ rfl
    have y4 := HK5.out.cell 4 _ rfl
    go_wp2_with fail
    refine (put2 _ _ B b _ _ _ (by simp) HP5.out (by have h1 := HLL.out; (try simp only [lit_bL] at h1 ⊢); (try simp only [List.length_append] at h1 ⊢); (try simp only [List.length_cons] at h1 ⊢); (try simp only [List.length_append] at h1 ⊢); (try simp only [List.length_nil] at h1 ⊢); (try simp only [bL_len] at h1 ⊢); (try simp only [lit_size] at h1 ⊢); (try simp only [List.length_cons] at h1 ⊢); (try simp only [List.length_nil] at h1 ⊢); omega) (Nat.le_trans HBB.out HW5.out.below.size)).mono ?_
    rintro e w6 ⟨rfl, hp, hw⟩
    have HP6 := Lib.hid hp
    have HW6 := Lib.hid (HW5.out.trans hw)
    have HK6 := Lib.hid (HK5.out.wr hw (by omega) (by decide))
    have HA6 := Lib.hid (InpsR.kept HA5.out hw.below)
    have HT6 := Lib.hid (RfR.kept HT5.out hw.below)
    have HD6 := Lib.hid (DirsR.kept HD5.out hw.below)
    clear hp hw
    clear y0 y1 y2 y3 y4
    have y0 := HK6.out.cell 0 _ rfl
    have y1 := HK6.out.cell 1 _ rfl
    have y2 := HK6.out.cell 2 _ rfl
    have y3 := HK6.out.cell 3 _ rfl
    have y4 := HK6.out.cell 4 _ rfl
    go_wp2_with fail
    refine (directives_any B b HO.out x.dirs HF.out.2.2 _ _ HD6.out _ HP6.out (HL.out.kept HW6.out.below) (by have h1 := HLL.out; (try simp only [lit_bL] at h1 ⊢); (try simp only [List.length_append] at h1 ⊢); (try simp only [List.length_cons] at h1 ⊢); (try simp only [List.length_append] at h1 ⊢); (try simp only [List.length_nil] at h1 ⊢); (try simp only [bL_len] at h1 ⊢); (try simp only [lit_size] at h1 ⊢); (try simp only [List.length_cons] at h1 ⊢); (try simp only [List.length_nil] at h1 ⊢); omega) (Nat.le_trans HBB.out HW6.out.below.size)).mono ?_
    rintro e w7 ⟨rfl, hp, hw⟩
    have HP7 := Lib.hid hp
    have HW7 := Lib.hid (HW6.out.trans hw)
    have HK7 := Lib.hid (HK6.out.wr hw (by omega) (by decide))
    have HA7 := Lib.hid (InpsR.kept HA6.out hw.below)
    have HT7 := Lib.hid (RfR.kept HT6.out hw.below)
    have HD7 := Lib.hid (DirsR.kept HD6.out hw.below)
    clear hp hw
    clear y0 y1 y2 y3 y4
    have y0 := HK7.out.cell 0 _ rfl
    have y1 := HK7.out.cell 1 _ rfl
    have y2 := HK7.out.cell 2 _ rfl
    have y3 := HK7.out.cell 3 _ rfl
    have y4 := HK7.out.cell 4 _ rfl
    go_wp2_with fail
    go_end0
    exact ⟨rfl, by have h1 := HP7.out; (try simp only [List.append_assoc] at h1); (try simp only [List.append_nil] at h1); (try simp only [List.append_assoc]); (try simp only [List.append_nil]); exact h1, HW7.out⟩
set_option maxRecDepth 100000 in
set_option maxHeartbeats 4000000 in
theorem definition_any (B b : Nat) (hO : ValOk B b) (x : DefT) (hf : defFit x) (f : Nat → Value) (w : World) (h : DefR w B f x) : Prints B b w 16 (.agg #[f 0, f 1, f 2, f 3, f 4, f 5, f 6]) (defTxt x) := by
  intro l hp hL hl hB
  obtain ⟨A2, c2, e2, _, _⟩ := h.impl.form
  obtain ⟨A3, c3, e3, _, _⟩ := h.dirs.form
  obtain ⟨A4, c4, e4, _, _⟩ := h.fields.form
  obtain ⟨A5, c5, e5, _, _⟩ := h.members.form
  obtain ⟨A6, c6, e6, _, _⟩ := h.inputs.form
  have hi := h.impl
  have hd := h.dirs
  have hg := h.fields
  have hm := h.members
  have hz := h.inputs
  rw [h.kind, h.name, e2, e3, e4, e5, e6]
  rw [e2] at hi
  rw [e3] at hd
  rw [e4] at hg
  rw [e5] at hm
  rw [e6] at hz
  clear e2 e3 e4 e5 e6 h
  generalize x.impl.length = n2 at hi ⊢
  generalize x.dirs.length = n3 at hd ⊢
  generalize x.fields.length = n4 at hg ⊢
  generalize x.members.length = n5 at hm ⊢
  generalize x.inputs.length = n6 at hz ⊢
  have HO := Lib.hid hO
  have HF := Lib.hid hf
  unfold defTxt at hl ⊢
  have hk := hf.1
  obtain ⟨kd, hkd⟩ : ∃ kd, x.kind = kd := ⟨_, rfl⟩
  rw [hkd] at hl hk ⊢
  clear hO hf hkd
  by_cases h1 : kd = 1
  · subst h1
    rw [if_pos rfl] at hl ⊢
    unfold wType at hl ⊢
    have HD0 := Lib.hid (hd.kept (below_new w (.cells #[.int .i64 1, .string x.name, .slice A2 n2 c2, .slice A3 n3 c3, .slice A4 n4 c4, .slice A5 n5 c5, .slice A6 n6 c6] 35 (0, 0)) |>.mono hB))
    have HG0 := Lib.hid (hg.kept (below_new w (.cells #[.int .i64 1, .string x.name, .slice A2 n2 c2, .slice A3 n3 c3, .slice A4 n4 c4, .slice A5 n5 c5, .slice A6 n6 c6] 35 (0, 0)) |>.mono hB))
    have HI0 := Lib.hid (hi.kept (below_new w (.cells #[.int .i64 1, .string x.name, .slice A2 n2 c2, .slice A3 n3 c3, .slice A4 n4 c4, .slice A5 n5 c5, .slice A6 n6 c6] 35 (0, 0)) |>.mono hB))
    clear hi hd hg hm hz hk
    have HW0 : Hid (Wr B b w (w.alloc (.cells #[.int .i64 1, .string x.name, .slice A2 n2 c2, .slice A3 n3 c3, .slice A4 n4 c4, .slice A5 n5 c5, .slice A6 n6 c6] 35 (0, 0)))) := Lib.hid ((Wr.refl B b w).alloc hB _)
    have HP0 := Lib.hid (hp.alloc (.cells #[.int .i64 1, .string x.name, .slice A2 n2 c2, .slice A3 n3 c3, .slice A4 n4 c4, .slice A5 n5 c5, .slice A6 n6 c6] 35 (0, 0)))
    have HK0 := Lib.hid (Bk.new w #[.int .i64 1, .string x.name, .slice A2 n2 c2, .slice A3 n3 c3, .slice A4 n4 c4, .slice A5 n5 c5, .slice A6 n6 c6] 35)
    have HL := Lib.hid hL
    have HLL := Lib.hid hl
    have HBB := Lib.hid hB
    have hbw := hp.lt
    clear hL hl hB hp
    go_enter Tryz.func16, Tryz.ntmps16
    have y0 := HK0.out.cell 0 _ rfl
    have y1 := HK0.out.cell 1 _ rfl
    have y2 := HK0.out.cell 2 _ rfl
    have y3 := HK0.out.cell 3 _ rfl
    have y4 := HK0.out.cell 4 _ rfl
    have y5 := HK0.out.cell 5 _ rfl
    have y6 := HK0.out.cell 6 _ rfl
    go_wp2_with fail
    refine (put2 _ _ B b _ _ _ (by simp) HP0.out (by have h1 := HLL.out; (try simp only [lit_bL] at h1 ⊢); (try simp only [List.length_append] at h1 ⊢); (try simp only [List.length_cons] at h1 ⊢); (try simp only [List.length_append] at h1 ⊢); (try simp only [List.length_nil] at h1 ⊢); (try simp only [bL_len] at h1 ⊢); (try simp only [lit_size] at h1 ⊢); (try simp only [List.length_cons] at h1 ⊢); (try simp only [List.length_nil] at h1 ⊢); omega) (Nat.le_trans HBB.out HW0.out.below.size)).mono ?_
    rintro e w1 ⟨rfl, hp, hw⟩
    have HP1 := Lib.hid hp
    have HW1 := Lib.hid (HW0.out.trans hw)
    have HK1 := Lib.hid (HK0.out.wr hw (by omega) (by decide))
    have HD1 := Lib.hid (DirsR.kept HD0.out hw.below)
    have HG1 := Lib.hid (FldsR.kept HG0.out hw.below)
    have HI1 := Lib.hid (NamesR.kept HI0.out hw.below)
    clear hp hw
    clear y0 y1 y2 y3 y4 y5 y6
    have y0 := HK1.out.cell 0 _ rfl
    have y1 := HK1.out.cell 1 _ rfl
    have y2 := HK1.out.cell 2 _ rfl
    have y3 := HK1.out.cell 3 _ rfl
    have y4 := HK1.out.cell 4 _ rfl
    have y5 := HK1.out.cell 5 _ rfl
    have y6 := HK1.out.cell 6 _ rfl
    go_wp2_with fail
    refine (implements_any B b x.impl _ _ HI1.out _ HP1.out (HL.out.kept HW1.out.below) (by have h1 := HLL.out; (try simp only [lit_bL] at h1 ⊢); (try simp only [List.length_append] at h1 ⊢); (try simp only [List.length_cons] at h1 ⊢); (try simp only [List.length_append] at h1 ⊢); (try simp only [List.length_nil] at h1 ⊢); (try simp only [bL_len] at h1 ⊢); (try simp only [lit_size] at h1 ⊢); (try simp only [List.length_cons] at h1 ⊢); (try simp only [List.length_nil] at h1 ⊢); omega) (Nat.le_trans HBB.out HW1.out.below.size)).mono ?_
    rintro e w2 ⟨rfl, hp, hw⟩
    have HP2 := Lib.hid hp
    have HW2 := Lib.hid (HW1.out.trans hw)
    have HK2 := Lib.hid (HK1.out.wr hw (by omega) (by decide))
    have HD2 := Lib.hid (DirsR.kept HD1.out hw.below)
    have HG2 := Lib.hid (FldsR.kept HG1.out hw.below)
    have HI2 := Lib.hid (NamesR.kept HI1.out hw.below)
    clear hp hw
    clear y0 y1 y2 y3 y4 y5 y6
    have y0 := HK2.out.cell 0 _ rfl
    have y1 := HK2.out.cell 1 _ rfl
    have y2 := HK2.out.cell 2 _ rfl
    have y3 := HK2.out.cell 3 _ rfl
    have y4 := HK2.out.cell 4 _ rfl
    have y5 := HK2.out.cell 5 _ rfl
    have y6 := HK2.out.cell 6 _ rfl
    go_wp2_with fail
    refine (blkFld_any B b HO.out x.dirs HF.out.2.1 x.fields fldTxt (fun y hy f W hR => field_any B b HO.out y (HF.out.2.2.1 y hy) f W hR) _ _ _ _ HD2.out HG2.out HP2.out (HL.out.kept HW2.out.below) (by have h1 := HLL.out; (try simp only [lit_bL] at h1 ⊢); (try simp only [List.length_append] at h1 ⊢); (try simp only [List.length_cons] at h1 ⊢); (try simp only [List.length_append] at h1 ⊢); (try simp only [List.length_nil] at h1 ⊢); (try simp only [bL_len] at h1 ⊢); (try simp only [lit_size] at h1 ⊢); (try simp only [List.length_cons] at h1 ⊢); (try simp only [List.length_nil] at h1 ⊢); omega) (Nat.le_trans HBB.out HW2.out.below.size)).mono ?_
    rintro e w3 ⟨rfl, hp, hw⟩
    have HP3 := Lib.hid hp
    have HW3 := Lib.hid (HW2.out.trans hw)
    have HK3 := Lib.hid (HK2.out.wr hw (by omega) (by decide))
    have HD3 := Lib.hid (DirsR.kept HD2.out hw.below)
    have HG3 := Lib.hid (FldsR.kept HG2.out hw.below)
    have HI3 := Lib.hid (NamesR.kept HI2.out hw.below)
    clear hp hw
    clear y0 y1 y2 y3 y4 y5 y6
    have y0 := HK3.out.cell 0 _ rfl
    have y1 := HK3.out.cell 1 _ rfl
    have y2 := HK3.out.cell 2 _ rfl
    have y3 := HK3.out.cell 3 _ rfl
    have y4 := HK3.out.cell 4 _ rfl
    have y5 := HK3.out.cell 5 _ rfl
    have y6 := HK3.out.cell 6 _ rfl
    go_wp2_with fail
    go_end0
    exact ⟨rfl, by have h1 := HP3.out; (try simp only [List.append_assoc] at h1); (try simp only [List.append_nil] at h1); (try simp only [List.append_assoc]); (try simp only [List.append_nil]); exact h1, HW3.out⟩
  by_cases h2 : kd = 2
  · subst h2
    rw [if_neg (by decide)] at hl ⊢
    rw [if_pos rfl] at hl ⊢
    unfold wInterface at hl ⊢
    have HD0 := Lib.hid (hd.kept (below_new w (.cells #[.int .i64 2, .string x.name, .slice A2 n2 c2, .slice A3 n3 c3, .slice A4 n4 c4, .slice A5 n5 c5, .slice A6 n6 c6] 35 (0, 0)) |>.mono hB))
    have HG0 := Lib.hid (hg.kept (below_new w (.cells #[.int .i64 2, .string x.name, .slice A2 n2 c2, .slice A3 n3 c3, .slice A4 n4 c4, .slice A5 n5 c5, .slice A6 n6 c6] 35 (0, 0)) |>.mono hB))
    clear hi hd hg hm hz hk
    have HW0 : Hid (Wr B b w (w.alloc (.cells #[.int .i64 2, .string x.name, .slice A2 n2 c2, .slice A3 n3 c3, .slice A4 n4 c4, .slice A5 n5 c5, .slice A6 n6 c6] 35 (0, 0)))) := Lib.hid ((Wr.refl B b w).alloc hB _)
    have HP0 := Lib.hid (hp.alloc (.cells #[.int .i64 2, .string x.name, .slice A2 n2 c2, .slice A3 n3 c3, .slice A4 n4 c4, .slice A5 n5 c5, .slice A6 n6 c6] 35 (0, 0)))
    have HK0 := Lib.hid (Bk.new w #[.int .i64 2, .string x.name, .slice A2 n2 c2, .slice A3 n3 c3, .slice A4 n4 c4, .slice A5 n5 c5, .slice A6 n6 c6] 35)
    have HL := Lib.hid hL
    have HLL := Lib.hid hl
    have HBB := Lib.hid hB
    have hbw := hp.lt
    clear hL hl hB hp
    go_enter Tryz.func16, Tryz.ntmps16
    have y0 := HK0.out.cell 0 _ rfl
    have y1 := HK0.out.cell 1 _ rfl
    have y2 := HK0.out.cell 2 _ rfl
    have y3 := HK0.out.cell 3 _ rfl
    have y4 := HK0.out.cell 4 _ rfl
    have y5 := HK0.out.cell 5 _ rfl
    have y6 := HK0.out.cell 6 _ rfl
    go_wp2_with fail
    refine (put2 _ _ B b _ _ _ (by simp) HP0.out (by have h1 := HLL.out; (try simp only [lit_bL] at h1 ⊢); (try simp only [List.length_append] at h1 ⊢); (try simp only [List.length_cons] at h1 ⊢); (try simp only [List.length_append] at h1 ⊢); (try simp only [List.length_nil] at h1 ⊢); (try simp only [bL_len] at h1 ⊢); (try simp only [lit_size] at h1 ⊢); (try simp only [List.length_cons] at h1 ⊢); (try simp only [List.length_nil] at h1 ⊢); omega) (Nat.le_trans HBB.out HW0.out.below.size)).mono ?_
    rintro e w1 ⟨rfl, hp, hw⟩
    have HP1 := Lib.hid hp
    have HW1 := Lib.hid (HW0.out.trans hw)
    have HK1 := Lib.hid (HK0.out.wr hw (by omega) (by decide))
    have HD1 := Lib.hid (DirsR.kept HD0.out hw.below)
    have HG1 := Lib.hid (FldsR.kept HG0.out hw.below)
    clear hp hw
    clear y0 y1 y2 y3 y4 y5 y6
    have y0 := HK1.out.cell 0 _ rfl
    have y1 := HK1.out.cell 1 _ rfl
    have y2 := HK1.out.cell 2 _ rfl
    have y3 := HK1.out.cell 3 _ rfl
    have y4 := HK1.out.cell 4 _ rfl
    have y5 := HK1.out.cell 5 _ rfl
    have y6 := HK1.out.cell 6 _ rfl
    go_wp2_with fail
    refine (blkFld_any B b HO.out x.dirs HF.out.2.1 x.fields fldTxt (fun y hy f W hR => field_any B b HO.out y (HF.out.2.2.1 y hy) f W hR) _ _ _ _ HD1.out HG1.out HP1.out (HL.out.kept HW1.out.below) (by have h1 := HLL.out; (try simp only [lit_bL] at h1 ⊢); (try simp only [List.length_append] at h1 ⊢); (try simp only [List.length_cons] at h1 ⊢); (try simp only [List.length_append] at h1 ⊢); (try simp only [List.length_nil] at h1 ⊢); (try simp only [bL_len] at h1 ⊢); (try simp only [lit_size] at h1 ⊢); (try simp only [List.length_cons] at h1 ⊢); (try simp only [List.length_nil] at h1 ⊢); omega) (Nat.le_trans HBB.out HW1.out.below.size)).mono ?_
    rintro e w2 ⟨rfl, hp, hw⟩
    have HP2 := Lib.hid hp
    have HW2 := Lib.hid (HW1.out.trans hw)
    have HK2 := Lib.hid (HK1.out.wr hw (by omega) (by decide))
    have HD2 := Lib.hid (DirsR.kept HD1.out hw.below)
    have HG2 := Lib.hid (FldsR.kept HG1.out hw.below)
    clear hp hw
    clear y0 y1 y2 y3 y4 y5 y6
    have y0 := HK2.out.cell 0 _ rfl
    have y1 := HK2.out.cell 1 _ rfl
    have y2 := HK2.out.cell 2 _ rfl
    have y3 := HK2.out.cell 3 _ rfl
    have y4 := HK2.out.cell 4 _ rfl
    have y5 := HK2.out.cell 5 _ rfl
    have y6 := HK2.out.cell 6 _ rfl
    go_wp2_with fail
    go_end0
    exact ⟨rfl, by have h1 := HP2.out; (try simp only [List.append_assoc] at h1); (try simp only [List.append_nil] at h1); (try simp only [List.append_assoc]); (try simp only [List.append_nil]); exact h1, HW2.out⟩
  by_cases h3 : kd = 3
  · subst h3
    rw [if_neg (by decide)] at hl ⊢
    rw [if_neg (by decide)] at hl ⊢
    rw [if_pos rfl] at hl ⊢
    unfold wUnion at hl ⊢
    have HD0 := Lib.hid (hd.kept (below_new w (.cells #[.int .i64 3, .string x.name, .slice A2 n2 c2, .slice A3 n3 c3, .slice A4 n4 c4, .slice A5 n5 c5, .slice A6 n6 c6] 35 (0, 0)) |>.mono hB))
    have HM0 := Lib.hid (hm.kept (below_new w (.cells #[.int .i64 3, .string x.name, .slice A2 n2 c2, .slice A3 n3 c3, .slice A4 n4 c4, .slice A5 n5 c5, .slice A6 n6 c6] 35 (0, 0)) |>.mono hB))
    clear hi hd hg hm hz hk
    have HW0 : Hid (Wr B b w (w.alloc (.cells #[.int .i64 3, .string x.name, .slice A2 n2 c2, .slice A3 n3 c3, .slice A4 n4 c4, .slice A5 n5 c5, .slice A6 n6 c6] 35 (0, 0)))) := Lib.hid ((Wr.refl B b w).alloc hB _)
    have HP0 := Lib.hid (hp.alloc (.cells #[.int .i64 3, .string x.name, .slice A2 n2 c2, .slice A3 n3 c3, .slice A4 n4 c4, .slice A5 n5 c5, .slice A6 n6 c6] 35 (0, 0)))
    have HK0 := Lib.hid (Bk.new w #[.int .i64 3, .string x.name, .slice A2 n2 c2, .slice A3 n3 c3, .slice A4 n4 c4, .slice A5 n5 c5, .slice A6 n6 c6] 35)
    have HL := Lib.hid hL
    have HLL := Lib.hid hl
    have HBB := Lib.hid hB
    have hbw := hp.lt
    clear hL hl hB hp
    go_enter Tryz.func16, Tryz.ntmps16
    have y0 := HK0.out.cell 0 _ rfl
    have y1 := HK0.out.cell 1 _ rfl
    have y2 := HK0.out.cell 2 _ rfl
    have y3 := HK0.out.cell 3 _ rfl
    have y4 := HK0.out.cell 4 _ rfl
    have y5 := HK0.out.cell 5 _ rfl
    have y6 := HK0.out.cell 6 _ rfl
    go_wp2_with fail
    refine (put2 _ _ B b _ _ _ (by simp) HP0.out (by have h1 := HLL.out; (try simp only [lit_bL] at h1 ⊢); (try simp only [List.length_append] at h1 ⊢); (try simp only [List.length_cons] at h1 ⊢); (try simp only [List.length_append] at h1 ⊢); (try simp only [List.length_nil] at h1 ⊢); (try simp only [bL_len] at h1 ⊢); (try simp only [lit_size] at h1 ⊢); (try simp only [List.length_cons] at h1 ⊢); (try simp only [List.length_nil] at h1 ⊢); omega) (Nat.le_trans HBB.out HW0.out.below.size)).mono ?_
    rintro e w1 ⟨rfl, hp, hw⟩
    have HP1 := Lib.hid hp
    have HW1 := Lib.hid (HW0.out.trans hw)
    have HK1 := Lib.hid (HK0.out.wr hw (by omega) (by decide))
    have HD1 := Lib.hid (DirsR.kept HD0.out hw.below)
    have HM1 := Lib.hid (MemsR.kept HM0.out hw.below)
    clear hp hw
    clear y0 y1 y2 y3 y4 y5 y6
    have y0 := HK1.out.cell 0 _ rfl
    have y1 := HK1.out.cell 1 _ rfl
    have y2 := HK1.out.cell 2 _ rfl
    have y3 := HK1.out.cell 3 _ rfl
    have y4 := HK1.out.cell 4 _ rfl
    have y5 := HK1.out.cell 5 _ rfl
    have y6 := HK1.out.cell 6 _ rfl
    go_wp2_with fail
    refine (union_any B b HO.out x.dirs HF.out.2.1 x.members HF.out.2.2.2.1 _ _ _ HD1.out HM1.out _ HP1.out (HL.out.kept HW1.out.below) (by have h1 := HLL.out; (try simp only [lit_bL] at h1 ⊢); (try simp only [List.length_append] at h1 ⊢); (try simp only [List.length_cons] at h1 ⊢); (try simp only [List.length_append] at h1 ⊢); (try simp only [List.length_nil] at h1 ⊢); (try simp only [bL_len] at h1 ⊢); (try simp only [lit_size] at h1 ⊢); (try simp only [List.length_cons] at h1 ⊢); (try simp only [List.length_nil] at h1 ⊢); omega) (Nat.le_trans HBB.out HW1.out.below.size)).mono ?_
    rintro e w2 ⟨rfl, hp, hw⟩
    have HP2 := Lib.hid hp
    have HW2 := Lib.hid (HW1.out.trans hw)
    have HK2 := Lib.hid (HK1.out.wr hw (by omega) (by decide))
    have HD2 := Lib.hid (DirsR.kept HD1.out hw.below)
    have HM2 := Lib.hid (MemsR.kept HM1.out hw.below)
    clear hp hw
    clear y0 y1 y2 y3 y4 y5 y6
    have y0 := HK2.out.cell 0 _ rfl
    have y1 := HK2.out.cell 1 _ rfl
    have y2 := HK2.out.cell 2 _ rfl
    have y3 := HK2.out.cell 3 _ rfl
    have y4 := HK2.out.cell 4 _ rfl
    have y5 := HK2.out.cell 5 _ rfl
    have y6 := HK2.out.cell 6 _ rfl
    go_wp2_with fail
    go_end0
    exact ⟨rfl, by have h1 := HP2.out; (try simp only [List.append_assoc] at h1); (try simp only [List.append_nil] at h1); (try simp only [List.append_assoc]); (try simp only [List.append_nil]); exact h1, HW2.out⟩
  by_cases h4 : kd = 4
  · subst h4
    rw [if_neg (by decide)] at hl ⊢
    rw [if_neg (by decide)] at hl ⊢
    rw [if_neg (by decide)] at hl ⊢
    rw [if_pos rfl] at hl ⊢
    unfold wEnum at hl ⊢
    have HD0 := Lib.hid (hd.kept (below_new w (.cells #[.int .i64 4, .string x.name, .slice A2 n2 c2, .slice A3 n3 c3, .slice A4 n4 c4, .slice A5 n5 c5, .slice A6 n6 c6] 35 (0, 0)) |>.mono hB))
    have HM0 := Lib.hid (hm.kept (below_new w (.cells #[.int .i64 4, .string x.name, .slice A2 n2 c2, .slice A3 n3 c3, .slice A4 n4 c4, .slice A5 n5 c5, .slice A6 n6 c6] 35 (0, 0)) |>.mono hB))
    clear hi hd hg hm hz hk
    have HW0 : Hid (Wr B b w (w.alloc (.cells #[.int .i64 4, .string x.name, .slice A2 n2 c2, .slice A3 n3 c3, .slice A4 n4 c4, .slice A5 n5 c5, .slice A6 n6 c6] 35 (0, 0)))) := Lib.hid ((Wr.refl B b w).alloc hB _)
    have HP0 := Lib.hid (hp.alloc (.cells #[.int .i64 4, .string x.name, .slice A2 n2 c2, .slice A3 n3 c3, .slice A4 n4 c4, .slice A5 n5 c5, .slice A6 n6 c6] 35 (0, 0)))
    have HK0 := Lib.hid (Bk.new w #[.int .i64 4, .string x.name, .slice A2 n2 c2, .slice A3 n3 c3, .slice A4 n4 c4, .slice A5 n5 c5, .slice A6 n6 c6] 35)
    have HL := Lib.hid hL
    have HLL := Lib.hid hl
    have HBB := Lib.hid hB
    have hbw := hp.lt
    clear hL hl hB hp
    go_enter Tryz.func16, Tryz.ntmps16
    have y0 := HK0.out.cell 0 _ rfl
    have y1 := HK0.out.cell 1 _ rfl
    have y2 := HK0.out.cell 2 _ rfl
    have y3 := HK0.out.cell 3 _ rfl
    have y4 := HK0.out.cell 4 _ rfl
    have y5 := HK0.out.cell 5 _ rfl
    have y6 := HK0.out.cell 6 _ rfl
    go_wp2_with fail
    refine (put2 _ _ B b _ _ _ (by simp) HP0.out (by have h1 := HLL.out; (try simp only [lit_bL] at h1 ⊢); (try simp only [List.length_append] at h1 ⊢); (try simp only [List.length_cons] at h1 ⊢); (try simp only [List.length_append] at h1 ⊢); (try simp only [List.length_nil] at h1 ⊢); (try simp only [bL_len] at h1 ⊢); (try simp only [lit_size] at h1 ⊢); (try simp only [List.length_cons] at h1 ⊢); (try simp only [List.length_nil] at h1 ⊢); omega) (Nat.le_trans HBB.out HW0.out.below.size)).mono ?_
    rintro e w1 ⟨rfl, hp, hw⟩
    have HP1 := Lib.hid hp
    have HW1 := Lib.hid (HW0.out.trans hw)
    have HK1 := Lib.hid (HK0.out.wr hw (by omega) (by decide))
    have HD1 := Lib.hid (DirsR.kept HD0.out hw.below)
    have HM1 := Lib.hid (MemsR.kept HM0.out hw.below)
    clear hp hw
    clear y0 y1 y2 y3 y4 y5 y6
    have y0 := HK1.out.cell 0 _ rfl
    have y1 := HK1.out.cell 1 _ rfl
    have y2 := HK1.out.cell 2 _ rfl
    have y3 := HK1.out.cell 3 _ rfl
    have y4 := HK1.out.cell 4 _ rfl
    have y5 := HK1.out.cell 5 _ rfl
    have y6 := HK1.out.cell 6 _ rfl
    go_wp2_with fail
    refine (blkMem_any B b HO.out x.dirs HF.out.2.1 x.members memTxt (fun y hy f W hR => member_any B b HO.out y (HF.out.2.2.2.1 y hy) f W hR) _ _ _ _ HD1.out HM1.out HP1.out (HL.out.kept HW1.out.below) (by have h1 := HLL.out; (try simp only [lit_bL] at h1 ⊢); (try simp only [List.length_append] at h1 ⊢); (try simp only [List.length_cons] at h1 ⊢); (try simp only [List.length_append] at h1 ⊢); (try simp only [List.length_nil] at h1 ⊢); (try simp only [bL_len] at h1 ⊢); (try simp only [lit_size] at h1 ⊢); (try simp only [List.length_cons] at h1 ⊢); (try simp only [List.length_nil] at h1 ⊢); omega) (Nat.le_trans HBB.out HW1.out.below.size)).mono ?_
    rintro e w2 ⟨rfl, hp, hw⟩
    have HP2 := Lib.hid hp
    have HW2 := Lib.hid (HW1.out.trans hw)
    have HK2 := Lib.hid (HK1.out.wr hw (by omega) (by decide))
    have HD2 := Lib.hid (DirsR.kept HD1.out hw.below)
    have HM2 := Lib.hid (MemsR.kept HM1.out hw.below)
    clear hp hw
    clear y0 y1 y2 y3 y4 y5 y6
    have y0 := HK2.out.cell 0 _ rfl
    have y1 := HK2.out.cell 1 _ rfl
    have y2 := HK2.out.cell 2 _ rfl
    have y3 := HK2.out.cell 3 _ rfl
    have y4 := HK2.out.cell 4 _ rfl
    have y5 := HK2.out.cell 5 _ rfl
    have y6 := HK2.out.cell 6 _ rfl
    go_wp2_with fail
    go_end0
    exact ⟨rfl, by have h1 := HP2.out; (try simp only [List.append_assoc] at h1); (try simp only [List.append_nil] at h1); (try simp only [List.append_assoc]); (try simp only [List.append_nil]); exact h1, HW2.out⟩
  by_cases h5 : kd = 5
  · subst h5
    rw [if_neg (by decide)] at hl ⊢
    rw [if_neg (by decide)] at hl ⊢
    rw [if_neg (by decide)] at hl ⊢
    rw [if_neg (by decide)] at hl ⊢
    rw [if_pos rfl] at hl ⊢
    unfold wInput at hl ⊢
    have HD0 := Lib.hid (hd.kept (below_new w (.cells #[.int .i64 5, .string x.name, .slice A2 n2 c2, .slice A3 n3 c3, .slice A4 n4 c4, .slice A5 n5 c5, .slice A6 n6 c6] 35 (0, 0)) |>.mono hB))
    have HZ0 := Lib.hid (hz.kept (below_new w (.cells #[.int .i64 5, .string x.name, .slice A2 n2 c2, .slice A3 n3 c3, .slice A4 n4 c4, .slice A5 n5 c5, .slice A6 n6 c6] 35 (0, 0)) |>.mono hB))
    clear hi hd hg hm hz hk
    have HW0 : Hid (Wr B b w (w.alloc (.cells #[.int .i64 5, .string x.name, .slice A2 n2 c2, .slice A3 n3 c3, .slice A4 n4 c4, .slice A5 n5 c5, .slice A6 n6 c6] 35 (0, 0)))) := Lib.hid ((Wr.refl B b w).alloc hB _)
    have HP0 := Lib.hid (hp.alloc (.cells #[.int .i64 5, .string x.name, .slice A2 n2 c2, .slice A3 n3 c3, .slice A4 n4 c4, .slice A5 n5 c5, .slice A6 n6 c6] 35 (0, 0)))
    have HK0 := Lib.hid (Bk.new w #[.int .i64 5, .string x.name, .slice A2 n2 c2, .slice A3 n3 c3, .slice A4 n4 c4, .slice A5 n5 c5, .slice A6 n6 c6] 35)
    have HL := Lib.hid hL
    have HLL := Lib.hid hl
    have HBB := Lib.hid hB
    have hbw := hp.lt
    clear hL hl hB hp
    go_enter Tryz.func16, Tryz.ntmps16
    have y0 := HK0.out.cell 0 _ rfl
    have y1 := HK0.out.cell 1 _ rfl
    have y2 := HK0.out.cell 2 _ rfl
    have y3 := HK0.out.cell 3 _ rfl
    have y4 := HK0.out.cell 4 _ rfl
    have y5 := HK0.out.cell 5 _ rfl
    have y6 := HK0.out.cell 6 _ rfl
    go_wp2_with fail
    refine (put2 _ _ B b _ _ _ (by simp) HP0.out (by have h1 := HLL.out; (try simp only [lit_bL] at h1 ⊢); (try simp only [List.length_append] at h1 ⊢); (try simp only [List.length_cons] at h1 ⊢); (try simp only [List.length_append] at h1 ⊢); (try simp only [List.length_nil] at h1 ⊢); (try simp only [bL_len] at h1 ⊢); (try simp only [lit_size] at h1 ⊢); (try simp only [List.length_cons] at h1 ⊢); (try simp only [List.length_nil] at h1 ⊢); omega) (Nat.le_trans HBB.out HW0.out.below.size)).mono ?_
    rintro e w1 ⟨rfl, hp, hw⟩
    have HP1 := Lib.hid hp
    have HW1 := Lib.hid (HW0.out.trans hw)
    have HK1 := Lib.hid (HK0.out.wr hw (by omega) (by decide))
    have HD1 := Lib.hid (DirsR.kept HD0.out hw.below)
    have HZ1 := Lib.hid (InpsR.kept HZ0.out hw.below)
    clear hp hw
    clear y0 y1 y2 y3 y4 y5 y6
    have y0 := HK1.out.cell 0 _ rfl
    have y1 := HK1.out.cell 1 _ rfl
    have y2 := HK1.out.cell 2 _ rfl
    have y3 := HK1.out.cell 3 _ rfl
    have y4 := HK1.out.cell 4 _ rfl
    have y5 := HK1.out.cell 5 _ rfl
    have y6 := HK1.out.cell 6 _ rfl
    go_wp2_with fail
    refine (blkInp_any B b HO.out x.dirs HF.out.2.1 x.inputs inpTxt (fun y hy f W hR => input_any B b HO.out y (HF.out.2.2.2.2 y hy) f W hR) _ _ _ _ HD1.out HZ1.out HP1.out (HL.out.kept HW1.out.below) (by have h1 := HLL.out; (try simp only [lit_bL] at h1 ⊢); (try simp only [List.length_append] at h1 ⊢); (try simp only [List.length_cons] at h1 ⊢); (try simp only [List.length_append] at h1 ⊢); (try simp only [List.length_nil] at h1 ⊢); (try simp only [bL_len] at h1 ⊢); (try simp only [lit_size] at h1 ⊢); (try simp only [List.length_cons] at h1 ⊢); (try simp only [List.length_nil] at h1 ⊢); omega) (Nat.le_trans HBB.out HW1.out.below.size)).mono ?_
    rintro e w2 ⟨rfl, hp, hw⟩
    have HP2 := Lib.hid hp
    have HW2 := Lib.hid (HW1.out.trans hw)
    have HK2 := Lib.hid (HK1.out.wr hw (by omega) (by decide))
    have HD2 := Lib.hid (DirsR.kept HD1.out hw.below)
    have HZ2 := Lib.hid (InpsR.kept HZ1.out hw.below)
    clear hp hw
    clear y0 y1 y2 y3 y4 y5 y6
    have y0 := HK2.out.cell 0 _ rfl
    have y1 := HK2.out.cell 1 _ rfl
    have y2 := HK2.out.cell 2 _ rfl
    have y3 := HK2.out.cell 3 _ rfl
    have y4 := HK2.out.cell 4 _ rfl
    have y5 := HK2.out.cell 5 _ rfl
    have y6 := HK2.out.cell 6 _ rfl
    go_wp2_with fail
    go_end0
    exact ⟨rfl, by have h1 := HP2.out; (try simp only [List.append_assoc] at h1); (try simp only [List.append_nil] at h1); (try simp only [List.append_assoc]); (try simp only [List.append_nil]); exact h1, HW2.out⟩
  exfalso; omega
end Go.Proofs.YtieklhplalgmmaaGreatDoor
namespace Go.Proofs.YtieklhplalgmmaaGreatDoor
open Go.RowKit
theorem PB.fresh (w : World) (B : Nat) (hB : B ≤ w.heap.size) : PB B w.heap.size [] (w.alloc (.cells #[.pointer none, .slice none 0 0] 52 (0, 0))) :=
  .inl ⟨hB, _, heap_alloc_new _ _, ⟨rfl, .inl ⟨rfl, rfl⟩⟩, by simp [Value.ownBlock]⟩
theorem Rd.shp {w : World} {B : Nat} {v : Value} {t : VT} (h : Rd w B v t) : ∃ (k n : Int) (s : ByteArray) (A : Option Addr) (li ci : Nat) (K : Option Addr) (lk ck : Nat), v = .agg #[.int .i64 k, .int .i64 n, .string s, .slice A li ci, .slice K lk ck] := by
  cases h with
  | mk V => exact ⟨_, _, _, _, _, _, _, _, _, rfl⟩
def StrPost (l : List UInt8) (w : World) (e : Ending) (w' : World) : Prop := e = .returned (.string ⟨l.toArray⟩) ∧ Below w.heap.size w w'
set_option maxRecDepth 100000 in
set_option maxHeartbeats 2000000 in
theorem print_any (xs : List DefT) (hf : ∀ x ∈ xs, defFit x) (u : Value) (w : World) (h : DefsR w w.heap.size u xs) (hL : LaidB w.heap.size w) (hl : (docTxt xs).length ≤ 140737488355328) (hne : docTxt xs ≠ []) :
    Calls Tryz.prog 8 #[.agg #[u]] w (StrPost (docTxt xs) w) := by
  obtain ⟨A, c, rfl, _, _⟩ := h.form
  obtain ⟨n, hn⟩ : ∃ n, xs.length = n := ⟨_, rfl⟩
  rw [hn] at h ⊢
  have b1 := below_new w (.cells #[.slice A n c] 24 (0, 0))
  have b2 : Below w.heap.size w ((w.alloc (.cells #[.slice A n c] 24 (0, 0))).alloc (.cells #[.pointer none, .slice none 0 0] 52 (0, 0))) := b1.alloc b1.size _
  have HK := Lib.hid (Bk.stay (Bk.new w #[.slice A n c] 24) (below_new _ (.cells #[.pointer none, .slice none 0 0] 52 (0, 0))))
  have HP := PB.fresh (w.alloc (.cells #[.slice A n c] 24 (0, 0))) w.heap.size b1.size
  have CALL := Lib.hid (sepDef_any w.heap.size _ xs defTxt (fun x hx f W hR => definition_any _ _ (value_any _ _) x (hf x hx) f W hR) ⟨#[10]⟩ _ [] _ (h.kept b2) HP (hL.kept b2) (by
    show 0 + (docTxt xs).length ≤ _
    omega) b2.size)
  have HB2 := Lib.hid b2
  have HNE := Lib.hid hne
  have hsz : (w.alloc (.cells #[.slice A n c] 24 (0, 0))).heap.size = w.heap.size + 1 := by simp
  rw [hsz] at CALL
  have y0 := HK.out.cell 0 _ rfl
  clear h hL hl hne b1 b2 HP hf hn hsz
  go_enter Tryz.func8, Tryz.ntmps8
  go_wp2_with fail
  refine CALL.out.mono ?_
  rintro e w1 ⟨rfl, hp, hw⟩
  have HP1 : Hid (PB w.heap.size (w.heap.size + 1) (docTxt xs) w1) := Lib.hid hp
  have HW1 := Lib.hid (HB2.out.trans hw.below)
  clear hp hw CALL y0
  go_wp2_with fail
  refine (string_any _ _ _ _ HP1.out HNE.out).mono ?_
  rintro e w2 ⟨rfl, hb⟩
  have HW2 := Lib.hid (HW1.out.trans hb)
  clear hb
  go_wp2_with fail
  go_ret
  exact ⟨rfl, HW2.out⟩
set_option maxRecDepth 100000 in
set_option maxHeartbeats 2000000 in
theorem valueText_any (t : VT) (hf : t.fit) (v : Value) (w : World) (h : Rd w w.heap.size v t) (hL : LaidB w.heap.size w) (hl : t.src.length ≤ 140737488355328) (hne : t.src ≠ []) :
    Calls Tryz.prog 13 #[v] w (StrPost t.src w) := by
  obtain ⟨k, n, s, A, li, ci, K, lk, ck, rfl⟩ := h.shp
  have b1 := below_new w (.cells #[.int .i64 k, .int .i64 n, .string s, .slice A li ci, .slice K lk ck] 45 (0, 0))
  have b2 : Below w.heap.size w ((w.alloc (.cells #[.int .i64 k, .int .i64 n, .string s, .slice A li ci, .slice K lk ck] 45 (0, 0))).alloc (.cells #[.pointer none, .slice none 0 0] 52 (0, 0))) := b1.alloc b1.size _
  have HK := Lib.hid (Bk.stay (Bk.new w #[.int .i64 k, .int .i64 n, .string s, .slice A li ci, .slice K lk ck] 45) (below_new _ (.cells #[.pointer none, .slice none 0 0] 52 (0, 0))))
  have HP := PB.fresh (w.alloc (.cells #[.int .i64 k, .int .i64 n, .string s, .slice A li ci, .slice K lk ck] 45 (0, 0))) w.heap.size b1.size
  have CALL := Lib.hid (value_any w.heap.size (w.alloc (.cells #[.int .i64 k, .int .i64 n, .string s, .slice A li ci, .slice K lk ck] 45 (0, 0))).heap.size t hf (fun j => (#[.int .i64 k, .int .i64 n, .string s, .slice A li ci, .slice K lk ck] : Array Value).getD j undef) _ (h.kept b2) [] HP (hL.kept b2) (by
    show 0 + t.src.length ≤ _
    omega) b2.size)
  have HB2 := Lib.hid b2
  have HNE := Lib.hid hne
  have hsz : (w.alloc (.cells #[.int .i64 k, .int .i64 n, .string s, .slice A li ci, .slice K lk ck] 45 (0, 0))).heap.size = w.heap.size + 1 := by simp
  rw [hsz] at CALL
  have y0 := HK.out.cell 0 _ rfl
  have y1 := HK.out.cell 1 _ rfl
  have y2 := HK.out.cell 2 _ rfl
  have y3 := HK.out.cell 3 _ rfl
  have y4 := HK.out.cell 4 _ rfl
  clear h hL hl hne b1 b2 HP hf hsz
  go_enter Tryz.func13, Tryz.ntmps13
  go_wp2_with fail
  refine CALL.out.mono ?_
  rintro e w1 ⟨rfl, hp, hw⟩
  have HP1 : Hid (PB w.heap.size (w.heap.size + 1) t.src w1) := Lib.hid hp
  have HW1 := Lib.hid (HB2.out.trans hw.below)
  clear hp hw CALL y0 y1 y2 y3 y4
  go_wp2_with fail
  refine (string_any _ _ _ _ HP1.out HNE.out).mono ?_
  rintro e w2 ⟨rfl, hb⟩
  have HW2 := Lib.hid (HW1.out.trans hb)
  clear hb
  go_wp2_with fail
  go_ret
  exact ⟨rfl, HW2.out⟩
end Go.Proofs.YtieklhplalgmmaaGreatDoor
namespace Go.Proofs.YtieklhplalgmmaaGreatDoor
open Go.RowKit
set_option maxRecDepth 100000 in
set_option maxHeartbeats 4000000 in
theorem rvalue_any (t : VT) : RValAt t := by
  induction t using VT.ind with
  | h k n s items keys ih =>
  intro w B v h hB hf hl
  obtain ⟨k', n', s', A, li, ci, K, lk, ck, rfl⟩ := h.shp
  obtain ⟨rfl, rfl, rfl, hn, hsz⟩ := h.same
  have hf' := hf
  rw [VT.fit] at hf
  obtain ⟨hk, hf1, hf6, _, hs40, hfi⟩ := hf
  have IH : ∀ (i : Nat) (t : VT), items[i]? = some t → t.fit ∧ RValAt t := fun i t hi => ⟨fits_at hfi hi, ih i t hi⟩
  clear ih hfi hf'
  have HLL := Lib.hid hl
  have HB0 : Hid (Below w.heap.size w (w.alloc (.cells #[.int .i64 k', .int .i64 n', .string s', .slice A li ci, .slice K lk ck] 45 (0, 0)))) := Lib.hid (below_new _ _)
  have HK0 := Lib.hid (Bk.new w #[.int .i64 k', .int .i64 n', .string s', .slice A li ci, .slice K lk ck] 45)
  by_cases hk0 : k' = 0
  · subst hk0
    have hsrc : (VT.mk 0 n' s' items keys).src = [110, 117, 108, 108] := by rw [src_eq]; rfl
    rw [hsrc] at HLL ⊢
    clear hsrc hf1 hf6 hk IH h hl
    have y0 := HK0.out.cell 0 _ rfl
    have y1 := HK0.out.cell 1 _ rfl
    have y2 := HK0.out.cell 2 _ rfl
    have y3 := HK0.out.cell 3 _ rfl
    have y4 := HK0.out.cell 4 _ rfl
    go_enter Tryz.func91, Tryz.ntmps91
    go_wp2_with fail
    go_ret
    exact ⟨⟨⟨#[110, 117, 108, 108]⟩, rfl, rfl⟩, HB0.out⟩
  by_cases hk1 : k' = 1
  · subst hk1
    rcases hf1 rfl with rfl | rfl
    · have hsrc : (VT.mk 1 0 s' items keys).src = [102, 97, 108, 115, 101] := by rw [src_eq]; rfl
      rw [hsrc] at HLL ⊢
      clear hsrc hf6 hk IH h hl
      have y0 := HK0.out.cell 0 _ rfl
      have y1 := HK0.out.cell 1 _ rfl
      have y2 := HK0.out.cell 2 _ rfl
      have y3 := HK0.out.cell 3 _ rfl
      have y4 := HK0.out.cell 4 _ rfl
      go_enter Tryz.func91, Tryz.ntmps91
      go_wp2_with fail
      go_ret
      exact ⟨⟨⟨#[102, 97, 108, 115, 101]⟩, rfl, rfl⟩, HB0.out⟩
    · have hsrc : (VT.mk 1 1 s' items keys).src = [116, 114, 117, 101] := by rw [src_eq]; rfl
      rw [hsrc] at HLL ⊢
      clear hsrc hf6 hk IH h hl
      have y0 := HK0.out.cell 0 _ rfl
      have y1 := HK0.out.cell 1 _ rfl
      have y2 := HK0.out.cell 2 _ rfl
      have y3 := HK0.out.cell 3 _ rfl
      have y4 := HK0.out.cell 4 _ rfl
      go_enter Tryz.func91, Tryz.ntmps91
      go_wp2_with fail
      go_ret
      exact ⟨⟨⟨#[116, 114, 117, 101]⟩, rfl, rfl⟩, HB0.out⟩
  by_cases hk2 : k' = 2
  · subst hk2
    have hsrc : (VT.mk 2 n' s' items keys).src = Lib.itoa n' := by rw [src_eq]; rfl
    rw [hsrc] at HLL ⊢
    clear hsrc hf1 hf6 hk IH h hl
    have y0 := HK0.out.cell 0 _ rfl
    have y1 := HK0.out.cell 1 _ rfl
    have y2 := HK0.out.cell 2 _ rfl
    have y3 := HK0.out.cell 3 _ rfl
    have y4 := HK0.out.cell 4 _ rfl
    go_enter Tryz.func91, Tryz.ntmps91
    go_wp2_with fail
    refine (T1.rdecimal_any n' _ hn.1 hn.2).mono ?_
    rintro e w1 ⟨rfl, hb1⟩
    have HB1 := Lib.hid (HB0.out.trans (hb1.mono HB0.out.size))
    clear hb1 y0 y1 y2 y3 y4
    go_wp2_with fail
    go_ret
    exact ⟨⟨_, rfl, bL_mk _⟩, HB1.out⟩
  by_cases hk3 : k' = 3
  · subst hk3
    have hsrc : (VT.mk 3 n' s' items keys).src = T1.quoteL s'.data.toList := by rw [src_eq]; rfl
    rw [hsrc] at HLL ⊢
    clear hsrc hf1 hf6 hk IH h hl
    have y0 := HK0.out.cell 0 _ rfl
    have y1 := HK0.out.cell 1 _ rfl
    have y2 := HK0.out.cell 2 _ rfl
    have y3 := HK0.out.cell 3 _ rfl
    have y4 := HK0.out.cell 4 _ rfl
    go_enter Tryz.func91, Tryz.ntmps91
    go_wp2_with fail
    refine (T1.rquote_any s' _ hs40).mono ?_
    rintro e w1 ⟨rfl, hb1⟩
    have HB1 := Lib.hid (HB0.out.trans (hb1.mono HB0.out.size))
    clear hb1 y0 y1 y2 y3 y4
    go_wp2_with fail
    go_ret
    exact ⟨⟨_, rfl, bL_mk _⟩, HB1.out⟩
  by_cases hk4 : k' = 4
  · subst hk4
    have hsrc : (VT.mk 4 n' s' items keys).src = bL s' := by rw [src_eq]; rfl
    rw [hsrc] at HLL ⊢
    clear hsrc hf1 hf6 hk IH h hl
    have y0 := HK0.out.cell 0 _ rfl
    have y1 := HK0.out.cell 1 _ rfl
    have y2 := HK0.out.cell 2 _ rfl
    have y3 := HK0.out.cell 3 _ rfl
    have y4 := HK0.out.cell 4 _ rfl
    go_enter Tryz.func91, Tryz.ntmps91
    go_wp2_with fail
    go_ret
    exact ⟨⟨s', rfl, rfl⟩, HB0.out⟩
  by_cases hk7 : k' = 7
  · subst hk7
    obtain ⟨u, hu, hadd⟩ := cat_ex ⟨#[36]⟩ s' (by show 1 + s'.size ≤ _; omega)
    have HU : Hid (bL u = 36 :: bL s') := Lib.hid hu
    have hsrc : (VT.mk 7 n' s' items keys).src = 36 :: bL s' := by rw [src_eq]; rfl
    rw [hsrc] at HLL ⊢
    clear hsrc hf1 hf6 hk IH h hl hu
    have y0 := HK0.out.cell 0 _ rfl
    have y1 := HK0.out.cell 1 _ rfl
    have y2 := HK0.out.cell 2 _ rfl
    have y3 := HK0.out.cell 3 _ rfl
    have y4 := HK0.out.cell 4 _ rfl
    go_enter Tryz.func91, Tryz.ntmps91
    go_wp2_with fail
    go_ret
    exact ⟨⟨u, rfl, HU.out⟩, HB0.out⟩
  by_cases hk5 : k' = 5
  · subst hk5
    have hsrc : (VT.mk 5 n' s' items keys).src = 91 :: (jn [44, 32] (items.map VT.src) ++ [93]) := by rw [src_eq]; rfl
    rw [hsrc] at hl ⊢
    exact rvlist_any n' s' items keys IH A li ci K lk ck w B h hB hl
  by_cases hk6 : k' = 6
  · subst hk6
    have hsrc : (VT.mk 6 n' s' items keys).src = 123 :: (jn [44, 32] (objTxt keys items) ++ [125]) := by rw [src_eq]; rfl
    rw [hsrc] at hl ⊢
    exact rvobj_any n' s' items keys (hf6 rfl) IH A li ci K lk ck w B h hB hl
  exfalso; omega
end Go.Proofs.YtieklhplalgmmaaGreatDoor
namespace Go.Proofs.YtieklhplalgmmaaGreatDoor
open Go.RowKit
section
variable {ops : Array Oper} {Q : Exit → Act → World → Prop} {o : Oper} {a : Act} {w : World} {R : Value → World → Prop}
theorem op_faD1 (hw : Region.wanted o (yielded ops a.tmps) = true) (x : Operand) {p : Addr} (ho : o.op = .fieldAddr 95 x 1) (hx : a.eval x = .pointer (some p)) (h : R (.pointer (some ⟨p.block, p.off + 1, none⟩)) w) : K.Runs Tryz.prog ops Q o a w R :=
  K.runs_value hw (by generalize a.eval = ρ at hx; simp [execOp, ho, go_sem, hx]) h
theorem op_faA0 (hw : Region.wanted o (yielded ops a.tmps) = true) (x : Operand) {p : Addr} (ho : o.op = .fieldAddr 97 x 0) (hx : a.eval x = .pointer (some p)) (h : R (.pointer (some p)) w) : K.Runs Tryz.prog ops Q o a w R :=
  K.runs_value hw (by generalize a.eval = ρ at hx; simp [execOp, ho, go_sem, hx]) h
theorem op_faA1 (hw : Region.wanted o (yielded ops a.tmps) = true) (x : Operand) {p : Addr} (ho : o.op = .fieldAddr 97 x 1) (hx : a.eval x = .pointer (some p)) (h : R (.pointer (some ⟨p.block, p.off + 1, none⟩)) w) : K.Runs Tryz.prog ops Q o a w R :=
  K.runs_value hw (by generalize a.eval = ρ at hx; simp [execOp, ho, go_sem, hx]) h
theorem op_ldLA (hw : Region.wanted o (yielded ops a.tmps) = true) (x : Operand) {p : Addr} {A : Option Addr} {l c : Nat} (ho : o.op = .load 93 x) (hx : a.eval x = .pointer (some p)) (hc : w.cell? p = some (.slice A l c)) (h : R (.slice A l c) w) : K.Runs Tryz.prog ops Q o a w R :=
  K.runs_value hw (by generalize a.eval = ρ at hx; simp [execOp, ho, go_sem, hx, hc]) h
theorem op_ixD (hw : Region.wanted o (yielded ops a.tmps) = true) (x y : Operand) {p : Addr} {l c i : Nat} (ho : o.op = .indexAddr 30 x y) (hx : a.eval x = .slice (some p) l c) (hy : a.eval y = .int .i64 i) (hi : i < l) (h : R (.pointer (some (p.add (i * 2)))) w) : K.Runs Tryz.prog ops Q o a w R :=
  K.runs_value hw (by
    have hi' : (i : Int) < l := by omega
    generalize a.eval = ρ at hx hy
    simp [execOp, ho, go_sem, hx, hy, hi']) h
theorem op_ixA (hw : Region.wanted o (yielded ops a.tmps) = true) (x y : Operand) {p : Addr} {l c i : Nat} (ho : o.op = .indexAddr 93 x y) (hx : a.eval x = .slice (some p) l c) (hy : a.eval y = .int .i64 i) (hi : i < l) (h : R (.pointer (some (p.add (i * 6)))) w) : K.Runs Tryz.prog ops Q o a w R :=
  K.runs_value hw (by
    have hi' : (i : Int) < l := by omega
    generalize a.eval = ρ at hx hy
    simp [execOp, ho, go_sem, hx, hy, hi']) h
end
theorem OwnR.other {w w' : World} {base : Nat} {v v2 : Value} {ss : List ByteArray} (h : OwnR w base v ss) (hg : w.grownBy w' v2.ownBlock) (hne : ∀ g, v.ownBlock = some g → v2.ownBlock ≠ some g) : OwnR w' base v ss := by
  have hh : w.ownsRow base 9 1 v ss.length (ss.map Value.string) := h
  refine ⟨hh.1, hh.2.imp id ?_⟩
  rintro ⟨g, cap, cur, e1, e2, e3, r⟩
  have hlt : g < w.heap.size := by
    rcases Nat.lt_or_ge g w.heap.size with h' | h'
    · exact h'
    · rw [Array.getElem?_eq_none h'] at e3; cases e3
  refine ⟨g, cap, cur, e1, e2, (hg.block g hlt (fun e => ?_)).trans e3, r⟩
  exact hne g (by rw [e1]; rfl) e.symm
end Go.Proofs.YtieklhplalgmmaaGreatDoor
