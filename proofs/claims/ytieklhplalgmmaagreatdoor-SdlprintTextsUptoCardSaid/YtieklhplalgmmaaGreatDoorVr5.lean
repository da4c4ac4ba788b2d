
/-
  Texts joined: N3 N1Val N4a N4 NM NV.
-/
import Derived.Test.YtieklhplalgmmaaGreatDoorVr4
import Derived.Lib.Join
import Derived.Test.YtieklhplalgmmaaGreatDoorVr3
namespace Go.Proofs.YtieklhplalgmmaaGreatDoor
open Go.RowKit
theorem jn_join (xs : List (List UInt8)) (sep : List UInt8) : Lib.join xs sep = jn sep xs := by
  cases xs with
  | nil => rfl
  | cons x r => rw [Lib.join_cons]; rfl
theorem NamesR.flat {w : World} {B : Nat} {A : Option Addr} {n c : Nat} {xs : List ByteArray} (h : NamesR w B (.slice A n c) xs) (h0 : 0 < xs.length) : n = xs.length ∧ xs.length ≤ c ∧ xs.length ≤ 140737488351232 ∧ ∃ b off, A = some ⟨b, off, none⟩ ∧ b < B ∧ ∀ (j : Nat) x, xs[j]? = some x → w.cell? ⟨b, off + j, none⟩ = some (.string x) := by
  obtain ⟨A', c', e, hc, hb, V, hA, hr⟩ := h
  cases e
  unfold big at hb
  obtain ⟨a, rfl, hab, hx⟩ := hA h0
  obtain ⟨b, off, spot⟩ := a
  have hs : spot = none := by
    have h1 := hx 0 h0 0 (by omega)
    cases spot with
    | none => rfl
    | some i => simp [at_, Addr.add, World.cell?] at h1; split at h1 <;> simp at h1
  subst hs
  refine ⟨rfl, hc, by omega, b, off, rfl, hab, fun j x hj => ?_⟩
  have h2 := hx j (List.getElem?_eq_some_iff.1 hj).1 0 (by omega)
  rw [Nat.mul_one] at h2
  have h3 : w.cell? ((⟨b, off, none⟩ : Addr).add j) = some (V j 0) := h2
  rw [Addr.add_mid, (hr j x hj).1] at h3
  exact h3
set_option maxRecDepth 100000 in
set_option maxHeartbeats 2000000 in
theorem directives_any (B b : Nat) (hO : ValOk B b) (xs : List DirT) (hf : dirsFit xs) (v : Value) (w : World) (h : DirsR w B v xs) : Prints B b w 65 v (tailTxt xs) := by
  intro l hp hL hl hB
  obtain ⟨A1, c1, rfl, _, _⟩ := h.form
  obtain ⟨n0, hn0⟩ : ∃ n0, xs.length = n0 := ⟨_, rfl⟩
  rw [hn0] at h ⊢
  have HV0 := Lib.hid h
  have HO := Lib.hid hO
  have HF := Lib.hid hf
  unfold tailTxt dirsTxt at hl ⊢
  rw [hn0] at hl ⊢
  clear h hO hf hn0
  have HW0 : Hid (Wr B b w w) := Lib.hid (Wr.refl B b w)
  have HP0 := Lib.hid hp
  have HL := Lib.hid hL
  have HLL := Lib.hid hl
  have HBB := Lib.hid hB
  have hbw := hp.lt
  clear hL hl hB hp
  by_cases h0 : n0 = 0
  · subst h0
    rw [if_pos rfl] at HLL ⊢
    go_enter Tryz.func65, Tryz.ntmps65
    go_wp2_with fail
    go_end0
    exact ⟨rfl, by have h1 := HP0.out; (try simp only [List.append_assoc] at h1); (try simp only [List.append_nil] at h1); (try simp only [List.append_assoc]); (try simp only [List.append_nil]); exact h1, HW0.out⟩
  · have h0' : (n0 : Int) > 0 := by omega
    rw [if_neg h0] at HLL ⊢
    clear h0
    go_enter Tryz.func65, Tryz.ntmps65
    go_wp2_with fail
    refine (put1 _ B b _ _ _ (by simp) HP0.out (by have h1 := HLL.out; (try simp only [lit_bL] at h1 ⊢); (try simp only [List.length_append] at h1 ⊢); (try simp only [List.length_cons] at h1 ⊢); (try simp only [List.length_append] at h1 ⊢); (try simp only [List.length_nil] at h1 ⊢); (try simp only [bL_len] at h1 ⊢); (try simp only [lit_size] at h1 ⊢); (try simp only [List.length_cons] at h1 ⊢); (try simp only [List.length_nil] at h1 ⊢); omega) (Nat.le_trans HBB.out HW0.out.below.size)).mono ?_
    rintro e w1 ⟨rfl, hp, hw⟩
    have HP1 := Lib.hid hp
    have HW1 := Lib.hid (HW0.out.trans hw)
    have HV1 := Lib.hid (DirsR.kept HV0.out hw.below)
    clear hp hw
    go_wp2_with fail
    refine (sepDir_any B b xs dirTxt (fun y hy f W hR => directive_any B b HO.out y (HF.out y hy) f W hR) _ _ _ _ HV1.out HP1.out (HL.out.kept HW1.out.below) (by have h1 := HLL.out; (try simp only [lit_bL] at h1 ⊢); (try simp only [List.length_append] at h1 ⊢); (try simp only [List.length_cons] at h1 ⊢); (try simp only [List.length_append] at h1 ⊢); (try simp only [List.length_nil] at h1 ⊢); (try simp only [bL_len] at h1 ⊢); (try simp only [lit_size] at h1 ⊢); (try simp only [List.length_cons] at h1 ⊢); (try simp only [List.length_nil] at h1 ⊢); omega) (Nat.le_trans HBB.out HW1.out.below.size)).mono ?_
    rintro e w2 ⟨rfl, hp, hw⟩
    have HP2 := Lib.hid hp
    have HW2 := Lib.hid (HW1.out.trans hw)
    have HV2 := Lib.hid (DirsR.kept HV1.out hw.below)
    clear hp hw
    go_wp2_with fail
    go_end0
    exact ⟨rfl, by have h1 := HP2.out; (try simp only [List.append_assoc] at h1); (try simp only [List.append_nil] at h1); (try simp only [List.append_assoc]); (try simp only [List.append_nil]); exact h1, HW2.out⟩
set_option maxRecDepth 100000 in
set_option maxHeartbeats 2000000 in
theorem member_any (B b : Nat) (hO : ValOk B b) (x : MemT) (hf : dirsFit x.dirs) (f : Nat → Value) (w : World) (h : MemR w B f x) : Prints B b w 35 (.agg #[f 0, f 1]) (memTxt x) := by
  intro l hp hL hl hB
  obtain ⟨A1, c1, e1, _, _⟩ := h.dirs.form
  have hv := h.dirs
  rw [h.name, e1]
  rw [e1] at hv
  clear e1 h
  generalize x.dirs.length = n0 at hv ⊢
  have HV0 := Lib.hid (hv.kept (below_new w (.cells #[.string x.name, .slice A1 n0 c1] 74 (0, 0)) |>.mono hB))
  have HO := Lib.hid hO
  have HF := Lib.hid hf
  unfold memTxt at hl ⊢
  clear hv hO hf
  have HW0 : Hid (Wr B b w (w.alloc (.cells #[.string x.name, .slice A1 n0 c1] 74 (0, 0)))) := Lib.hid ((Wr.refl B b w).alloc hB _)
  have HP0 := Lib.hid (hp.alloc (.cells #[.string x.name, .slice A1 n0 c1] 74 (0, 0)))
  have HK0 := Lib.hid (Bk.new w #[.string x.name, .slice A1 n0 c1] 74)
  have HL := Lib.hid hL
  have HLL := Lib.hid hl
  have HBB := Lib.hid hB
  have hbw := hp.lt
  clear hL hl hB hp
  go_enter Tryz.func35, Tryz.ntmps35
  have y0 := HK0.out.cell 0 _ rfl
  have y1 := HK0.out.cell 1 _ rfl
  go_wp2_with fail
  refine (put1 _ B b _ _ _ (by simp) HP0.out (by have h1 := HLL.out; (try simp only [lit_bL] at h1 ⊢); (try simp only [List.length_append] at h1 ⊢); (try simp only [List.length_cons] at h1 ⊢); (try simp only [List.length_append] at h1 ⊢); (try simp only [List.length_nil] at h1 ⊢); (try simp only [bL_len] at h1 ⊢); (try simp only [lit_size] at h1 ⊢); (try simp only [List.length_cons] at h1 ⊢); (try simp only [List.length_nil] at h1 ⊢); omega) (Nat.le_trans HBB.out HW0.out.below.size)).mono ?_
  rintro e w1 ⟨rfl, hp, hw⟩
  have HP1 := Lib.hid hp
  have HW1 := Lib.hid (HW0.out.trans hw)
  have HK1 := Lib.hid (HK0.out.wr hw (by omega) (by decide))
  have HV1 := Lib.hid (DirsR.kept HV0.out hw.below)
  clear hp hw
  clear y0 y1
  have y0 := HK1.out.cell 0 _ rfl
  have y1 := HK1.out.cell 1 _ rfl
  go_wp2_with fail
  refine (directives_any B b HO.out x.dirs HF.out _ _ HV1.out _ HP1.out (HL.out.kept HW1.out.below) (by have h1 := HLL.out; (try simp only [lit_bL] at h1 ⊢); (try simp only [List.length_append] at h1 ⊢); (try simp only [List.length_cons] at h1 ⊢); (try simp only [List.length_append] at h1 ⊢); (try simp only [List.length_nil] at h1 ⊢); (try simp only [bL_len] at h1 ⊢); (try simp only [lit_size] at h1 ⊢); (try simp only [List.length_cons] at h1 ⊢); (try simp only [List.length_nil] at h1 ⊢); omega) (Nat.le_trans HBB.out HW1.out.below.size)).mono ?_
  rintro e w2 ⟨rfl, hp, hw⟩
  have HP2 := Lib.hid hp
  have HW2 := Lib.hid (HW1.out.trans hw)
  have HK2 := Lib.hid (HK1.out.wr hw (by omega) (by decide))
  have HV2 := Lib.hid (DirsR.kept HV1.out hw.below)
  clear hp hw
  clear y0 y1
  have y0 := HK2.out.cell 0 _ rfl
  have y1 := HK2.out.cell 1 _ rfl
  go_wp2_with fail
  go_end0
  exact ⟨rfl, by have h1 := HP2.out; (try simp only [List.append_assoc] at h1); (try simp only [List.append_nil] at h1); (try simp only [List.append_assoc]); (try simp only [List.append_nil]); exact h1, HW2.out⟩
def Prints2 (B b : Nat) (W : World) (F : Nat) (v u : Value) (a : List UInt8) : Prop := ∀ l, PB B b l W → LaidB B W → l.length + a.length ≤ 140737488355328 → B ≤ W.heap.size → Calls Tryz.prog F #[pp b, v, u] W (PP B b l a W)
set_option maxRecDepth 100000 in
set_option maxHeartbeats 2000000 in
theorem union_any (B b : Nat) (hO : ValOk B b) (ds : List DirT) (hf : dirsFit ds) (xs : List MemT) (hg : ∀ x ∈ xs, dirsFit x.dirs) (v u : Value) (w : World) (h : DirsR w B v ds) (hm : MemsR w B u xs) : Prints2 B b w 33 v u (uniTxt ds xs) := by
  intro l hp hL hl hB
  have HV0 := Lib.hid h
  have HM0 := Lib.hid hm
  have HO := Lib.hid hO
  have HF := Lib.hid hf
  have HG := Lib.hid hg
  unfold uniTxt at hl ⊢
  clear h hm hO hf hg
  have HW0 : Hid (Wr B b w w) := Lib.hid (Wr.refl B b w)
  have HP0 := Lib.hid hp
  have HL := Lib.hid hL
  have HLL := Lib.hid hl
  have HBB := Lib.hid hB
  have hbw := hp.lt
  clear hL hl hB hp
  go_enter Tryz.func33, Tryz.ntmps33
  go_wp2_with fail
  refine (directives_any B b HO.out ds HF.out _ _ HV0.out _ HP0.out (HL.out.kept HW0.out.below) (by have h1 := HLL.out; (try simp only [lit_bL] at h1 ⊢); (try simp only [List.length_append] at h1 ⊢); (try simp only [List.length_cons] at h1 ⊢); (try simp only [List.length_append] at h1 ⊢); (try simp only [List.length_nil] at h1 ⊢); (try simp only [bL_len] at h1 ⊢); (try simp only [lit_size] at h1 ⊢); (try simp only [List.length_cons] at h1 ⊢); (try simp only [List.length_nil] at h1 ⊢); omega) (Nat.le_trans HBB.out HW0.out.below.size)).mono ?_
  rintro e w1 ⟨rfl, hp, hw⟩
  have HP1 := Lib.hid hp
  have HW1 := Lib.hid (HW0.out.trans hw)
  have HV1 := Lib.hid (DirsR.kept HV0.out hw.below)
  have HM1 := Lib.hid (MemsR.kept HM0.out hw.below)
  clear hp hw
  go_wp2_with fail
  refine (put1 _ B b _ _ _ (by simp) HP1.out (by have h1 := HLL.out; (try simp only [lit_bL] at h1 ⊢); (try simp only [List.length_append] at h1 ⊢); (try simp only [List.length_cons] at h1 ⊢); (try simp only [List.length_append] at h1 ⊢); (try simp only [List.length_nil] at h1 ⊢); (try simp only [bL_len] at h1 ⊢); (try simp only [lit_size] at h1 ⊢); (try simp only [List.length_cons] at h1 ⊢); (try simp only [List.length_nil] at h1 ⊢); omega) (Nat.le_trans HBB.out HW1.out.below.size)).mono ?_
  rintro e w2 ⟨rfl, hp, hw⟩
  have HP2 := Lib.hid hp
  have HW2 := Lib.hid (HW1.out.trans hw)
  have HV2 := Lib.hid (DirsR.kept HV1.out hw.below)
  have HM2 := Lib.hid (MemsR.kept HM1.out hw.below)
  clear hp hw
  go_wp2_with fail
  refine (sepMem_any B b xs memTxt (fun y hy f W hR => member_any B b HO.out y (HG.out y hy) f W hR) _ _ _ _ HM2.out HP2.out (HL.out.kept HW2.out.below) (by have h1 := HLL.out; (try simp only [lit_bL] at h1 ⊢); (try simp only [List.length_append] at h1 ⊢); (try simp only [List.length_cons] at h1 ⊢); (try simp only [List.length_append] at h1 ⊢); (try simp only [List.length_nil] at h1 ⊢); (try simp only [bL_len] at h1 ⊢); (try simp only [lit_size] at h1 ⊢); (try simp only [List.length_cons] at h1 ⊢); (try simp only [List.length_nil] at h1 ⊢); omega) (Nat.le_trans HBB.out HW2.out.below.size)).mono ?_
  rintro e w3 ⟨rfl, hp, hw⟩
  have HP3 := Lib.hid hp
  have HW3 := Lib.hid (HW2.out.trans hw)
  have HV3 := Lib.hid (DirsR.kept HV2.out hw.below)
  have HM3 := Lib.hid (MemsR.kept HM2.out hw.below)
  clear hp hw
  go_wp2_with fail
  refine (put1 _ B b _ _ _ (by simp) HP3.out (by have h1 := HLL.out; (try simp only [lit_bL] at h1 ⊢); (try simp only [List.length_append] at h1 ⊢); (try simp only [List.length_cons] at h1 ⊢); (try simp only [List.length_append] at h1 ⊢); (try simp only [List.length_nil] at h1 ⊢); (try simp only [bL_len] at h1 ⊢); (try simp only [lit_size] at h1 ⊢); (try simp only [List.length_cons] at h1 ⊢); (try simp only [List.length_nil] at h1 ⊢); omega) (Nat.le_trans HBB.out HW3.out.below.size)).mono ?_
  rintro e w4 ⟨rfl, hp, hw⟩
  have HP4 := Lib.hid hp
  have HW4 := Lib.hid (HW3.out.trans hw)
  have HV4 := Lib.hid (DirsR.kept HV3.out hw.below)
  have HM4 := Lib.hid (MemsR.kept HM3.out hw.below)
  clear hp hw
  go_wp2_with fail
  go_end0
  exact ⟨rfl, by have h1 := HP4.out; (try simp only [List.append_assoc] at h1); (try simp only [List.append_nil] at h1); (try simp only [List.append_assoc]); (try simp only [List.append_nil]); exact h1, HW4.out⟩
theorem Wr.of {B b : Nat} {w w' : World} (hB : B ≤ w.heap.size) (h : Below w.heap.size w w') : Wr B b w w' :=
  ⟨h.mono hB, fun k o hk _ _ => (h.block k (by
    rcases Nat.lt_or_ge k w.heap.size with h' | h'
    · exact h'
    · rw [Array.getElem?_eq_none h'] at hk; cases hk)).trans hk⟩
set_option maxRecDepth 100000 in
set_option maxHeartbeats 2000000 in
theorem implements_any (B b : Nat) (xs : List ByteArray) (v : Value) (w : World) (h : NamesR w B v xs) : Prints B b w 30 v (implTxt xs) := by
  intro l hp hL hl hB
  obtain ⟨A1, c1, rfl, _, _⟩ := h.form
  unfold implTxt at hl ⊢
  by_cases h0 : xs.length = 0
  · rw [if_pos h0] at hl ⊢
    rw [h0]
    clear h h0
    have HW0 : Hid (Wr B b w w) := Lib.hid (Wr.refl B b w)
    have HP0 := Lib.hid hp
    have HL := Lib.hid hL
    have HLL := Lib.hid hl
    have HBB := Lib.hid hB
    have hbw := hp.lt
    clear hL hl hB hp
    go_enter Tryz.func30, Tryz.ntmps30
    go_wp2_with fail
    go_end0
    exact ⟨rfl, by have h1 := HP0.out; (try simp only [List.append_assoc] at h1); (try simp only [List.append_nil] at h1); (try simp only [List.append_assoc]); (try simp only [List.append_nil]); exact h1, HW0.out⟩
  · rw [if_neg h0] at hl ⊢
    obtain ⟨_, hc, hz, bk, off, rfl, hbk, hcs⟩ := h.flat (by omega)
    have hj := Tryz.strings_Join bk off c1 xs ⟨#[32, 38, 32]⟩ w hcs (by omega) (by omega) hc (by
      rw [jn_join]; simp only [List.length_append] at hl
      have : jn [32, 38, 32] (xs.map bL) = jn (⟨#[32, 38, 32]⟩ : ByteArray).data.toList (xs.map (·.data.toList)) := rfl
      rw [← this]; omega)
    rw [jn_join, show jn (⟨#[32, 38, 32]⟩ : ByteArray).data.toList (xs.map (·.data.toList)) = jn [32, 38, 32] (xs.map bL) from rfl] at hj
    have HJ := Lib.hid hj
    obtain ⟨n0, hn0⟩ : ∃ n0, xs.length = n0 := ⟨_, rfl⟩
    rw [hn0] at h0 HJ hz ⊢
    have h0' : (n0 : Int) > 0 := by omega
    generalize jn [32, 38, 32] (xs.map bL) = J at HJ hl ⊢
    clear h hcs hj hn0 h0
    have HW0 : Hid (Wr B b w w) := Lib.hid (Wr.refl B b w)
    have HP0 := Lib.hid hp
    have HL := Lib.hid hL
    have HLL := Lib.hid hl
    have HBB := Lib.hid hB
    have hbw := hp.lt
    clear hL hl hB hp
    go_enter Tryz.func30, Tryz.ntmps30
    go_wp2_with fail
    refine HJ.out.mono ?_
    rintro e w1 ⟨rfl, hb1⟩
    have HP1 := Lib.hid (HP0.out.kept hb1)
    have HW1 : Hid (Wr B b w w1) := Lib.hid (Wr.of HBB.out hb1)
    clear hb1
    go_wp2_with fail
    refine (put2 _ _ B b _ _ _ (by simp) HP1.out (by have h1 := HLL.out; (try simp only [lit_bL] at h1 ⊢); (try simp only [List.length_append] at h1 ⊢); (try simp only [List.length_cons] at h1 ⊢); (try simp only [List.length_append] at h1 ⊢); (try simp only [List.length_nil] at h1 ⊢); (try simp only [bL_len] at h1 ⊢); (try simp only [lit_size] at h1 ⊢); (try simp only [List.length_cons] at h1 ⊢); (try simp only [List.length_nil] at h1 ⊢); omega) (Nat.le_trans HBB.out HW1.out.below.size)).mono ?_
    rintro e w2 ⟨rfl, hp, hw⟩
    have HP2 := Lib.hid hp
    have HW2 := Lib.hid (HW1.out.trans hw)
    clear hp hw
    go_wp2_with fail
    go_end0
    exact ⟨rfl, by have h1 := HP2.out; (try simp only [List.append_assoc] at h1); (try simp only [List.append_nil] at h1); (try simp only [List.append_assoc]); (try simp only [List.append_nil]); exact h1, HW2.out⟩
end Go.Proofs.YtieklhplalgmmaaGreatDoor
namespace Go.Proofs.YtieklhplalgmmaaGreatDoor
open Go.RowKit
set_option maxRecDepth 100000 in
set_option maxHeartbeats 2000000 in
theorem sepVal_any (B b : Nat) (xs : List VT) (tx : VT → List UInt8) (hF : ∀ x ∈ xs, ∀ (f : Nat → Value) (W : World), ValR W B f x → Prints B b W 28 (.agg #[f 0, f 1, f 2, f 3, f 4]) (tx x))
    (sep : ByteArray) (v : Value) (l : List UInt8) (w : World) (h : ValsR w B v xs) (hp : PB B b l w) (hL : LaidB B w) (hl : l.length + (jn (bL sep) (xs.map tx)).length ≤ 140737488355328) (hB : B ≤ w.heap.size) :
    Calls Tryz.prog 61 #[pp b, v, .string sep, .func (.func 28) #[pp b] #[]] w (PP B b l (jn (bL sep) (xs.map tx)) w) := by
  obtain ⟨A, c, rfl, hc, hbg, V, hA, hr⟩ := h
  unfold big at hbg
  obtain ⟨len, hlen⟩ : ∃ len, xs.length = len := ⟨_, rfl⟩
  rw [hlen] at hA hbg ⊢
  have hlm : (len : Int) ≤ 140737488351232 := by omega
  have HLEN := Lib.hid hlen
  have HF := Lib.hid hF
  have HA := Lib.hid hA
  have HR := Lib.hid hr
  have HP := Lib.hid hp
  have HL := Lib.hid hL
  have HLL := Lib.hid hl
  have HBB := Lib.hid hB
  clear hlen hF hA hr hp hL hl hc hbg
  go_enter Tryz.func61, Tryz.ntmps61
  go_wp2_with fail
  go_loopw [12] (fun u wr => ∃ i : Nat, i ≤ len ∧ u = .int .i64 i ∧ Hid (PB B b (l ++ jn (bL sep) ((xs.take i).map tx)) wr ∧ Wr B b w wr)) (fun u _ => len - (intOf u).toNat)
  case atStart => exact ⟨0, Nat.zero_le _, rfl, Lib.hid ⟨by simpa [jn] using HP.out, Wr.refl _ _ _⟩⟩
  case round =>
    obtain ⟨i, hi, rfl, hr⟩ := hrel
    by_cases hlt : i < len
    · obtain ⟨x, hxi⟩ : ∃ x, xs[i]? = some x := ⟨_, List.getElem?_eq_getElem (by rw [HLEN.out]; exact hlt)⟩
      have hlt' : (i : Int) < len := by omega
      have HXI := Lib.hid hxi
      have hx : ValR wr B (V i) x := ValR.stays.kept (HR.out i x hxi) hr.out.2.below
      have HF1 := Lib.hid (HF.out x (List.mem_of_getElem? hxi))
      obtain ⟨a, rfl, ha, hc0⟩ := HA.out (by omega)
      have hcc : ∀ j, j < 5 → wr.cell? (at_ (a.add (i * 5)) j) = some (V i j) := fun j hj => (hr.out.2.below.cell (by rw [at_block, add_block]; exact ha)).trans (hc0 i hlt j hj)
      have k0 : wr.cell? (a.add (i * 5)) = some (V i 0) := hcc 0 (by omega)
      have k1 : wr.cell? ⟨((a.add (i * 5))).block, ((a.add (i * 5))).off + 1, none⟩ = some (V i 1) := hcc 1 (by omega)
      have k2 : wr.cell? ⟨((a.add (i * 5))).block, ((a.add (i * 5))).off + 2, none⟩ = some (V i 2) := hcc 2 (by omega)
      have k3 : wr.cell? ⟨((a.add (i * 5))).block, ((a.add (i * 5))).off + 3, none⟩ = some (V i 3) := hcc 3 (by omega)
      have k4 : wr.cell? ⟨((a.add (i * 5))).block, ((a.add (i * 5))).off + 4, none⟩ = some (V i 4) := hcc 4 (by omega)
      obtain ⟨k, n, s, VA, vli, vci, VK, vlk, vck, e0, e1, e2, e3, e4⟩ := Rd.form hx
      rw [e0] at k0
      rw [e1] at k1
      rw [e2] at k2
      rw [e3] at k3
      rw [e4] at k4
      have HX := Lib.hid hx
      have HE : Hid (#[V i 0, V i 1, V i 2, V i 3, V i 4] = #[.int .i64 k, .int .i64 n, .string s, .slice VA vli vci, .slice VK vlk vck]) := Lib.hid (by rw [e0, e1, e2, e3, e4])
      clear hc0 hcc hx hxi e0 e1 e2 e3 e4
      have hsz := hr.out.2.below.size
      have HT : Hid ((xs.map tx)[i]? = some (tx x)) := Lib.hid (by rw [List.getElem?_map, HXI.out]; rfl)
      have HST := Lib.hid (jn_step_le (bL sep) HT.out)
      have HTK : Hid (jn (bL sep) ((xs.take (i + 1)).map tx) = jn (bL sep) ((xs.take i).map tx) ++ ((if i = 0 then [] else bL sep) ++ tx x)) := Lib.hid (by
        rw [List.map_take, List.map_take]; exact jn_take (bL sep) HT.out)
      have HMT : Hid ((xs.map tx).take i = (xs.take i).map tx) := Lib.hid (by rw [List.map_take])
      have HB1 : Hid (Wr B b w (wr.alloc (.cells #[.int .i64 k, .int .i64 n, .string s, .slice VA vli vci, .slice VK vlk vck] 45 (0, 0)))) := Lib.hid (hr.out.2.alloc HBB.out _)
      have HX1 : Hid (ValR (wr.alloc (.cells #[.int .i64 k, .int .i64 n, .string s, .slice VA vli vci, .slice VK vlk vck] 45 (0, 0))) B (V i) x) := Lib.hid (ValR.stays.kept HX.out ((Below.refl B wr).alloc (by omega) _))
      have HP1 := Lib.hid (hr.out.1.alloc (.cells #[.int .i64 k, .int .i64 n, .string s, .slice VA vli vci, .slice VK vlk vck] 45 (0, 0)))
      have HK1 := Lib.hid (Bk.new wr #[.int .i64 k, .int .i64 n, .string s, .slice VA vli vci, .slice VK vlk vck] 45)
      have hbw := hr.out.1.lt
      by_cases hi0 : i = 0
      · have hi0' : ¬ (i : Int) > 0 := by omega
        have HI0 := Lib.hid hi0
        have CALL := Lib.hid (HF1.out (V i) _ HX1.out _ HP1.out (HL.out.kept HB1.out.below) (by
          have h1 := HST.out; rw [HMT.out, if_pos HI0.out] at h1; have h2 := HLL.out; simp only [List.length_append, List.length_nil] at h1 ⊢; omega) (Nat.le_trans HBB.out HB1.out.below.size))
        rw [HE.out] at CALL
        clear hi0
        go_wp2_with fail
        refine CALL.out.mono ?_
        rintro e w5 ⟨rfl, hp5, hw5⟩
        have HP5 : Hid (PB B b (l ++ jn (bL sep) ((xs.take (i + 1)).map tx)) w5) := Lib.hid (by rw [HTK.out, if_pos HI0.out, List.nil_append, ← List.append_assoc]; exact hp5)
        have HW5 := Lib.hid (HB1.out.trans hw5)
        clear hp5 hw5 CALL
        go_wp2_with fail
        go_roundw
        case rel => exact ⟨i + 1, by omega, by go_num, Lib.hid ⟨HP5.out, HW5.out⟩⟩
        case measure => simp [intOf]; omega
      · have hi0' : (i : Int) > 0 := by omega
        have HI0 := Lib.hid hi0
        clear hi0
        go_wp2_with fail
        refine (put1 sep B b _ _ _ (by simp) HP1.out (by
          have h1 := HST.out; rw [HMT.out, if_neg HI0.out] at h1; have h2 := HLL.out; simp only [List.length_append, bL_len] at h1 h2 ⊢; omega) (Nat.le_trans HBB.out HB1.out.below.size)).mono ?_
        rintro e w4 ⟨rfl, hp4, hw4⟩
        have HP4 := Lib.hid hp4
        have HW4 := Lib.hid (HB1.out.trans hw4)
        have HX4 : Hid (ValR w4 B (V i) x) := Lib.hid (ValR.stays.kept HX1.out hw4.below)
        have hK4 : Bk w4 wr.heap.size #[.int .i64 k, .int .i64 n, .string s, .slice VA vli vci, .slice VK vlk vck] 45 := HK1.out.wr hw4 (by omega) (by decide)
        have y0 := hK4.cell 0 _ rfl
        have y1 := hK4.cell 1 _ rfl
        have y2 := hK4.cell 2 _ rfl
        have y3 := hK4.cell 3 _ rfl
        have y4 := hK4.cell 4 _ rfl
        clear hp4 hw4 hK4 k0 k1 k2 k3 k4
        have CALL := Lib.hid (HF1.out (V i) _ HX4.out _ HP4.out (HL.out.kept HW4.out.below) (by
          have h1 := HST.out; rw [HMT.out, if_neg HI0.out] at h1; have h2 := HLL.out; simp only [List.length_append] at h1 ⊢; omega) (Nat.le_trans HBB.out HW4.out.below.size))
        rw [HE.out] at CALL
        go_wp2_with fail
        refine CALL.out.mono ?_
        rintro e w5 ⟨rfl, hp5, hw5⟩
        have HP5 : Hid (PB B b (l ++ jn (bL sep) ((xs.take (i + 1)).map tx)) w5) := Lib.hid (by rw [HTK.out, if_neg HI0.out]; simpa only [List.append_assoc] using hp5)
        have HW5 := Lib.hid (HW4.out.trans hw5)
        clear hp5 hw5 CALL y0 y1 y2 y3 y4
        go_wp2_with fail
        go_roundw
        case rel => exact ⟨i + 1, by omega, by go_num, Lib.hid ⟨HP5.out, HW5.out⟩⟩
        case measure => simp [intOf]; omega
    · have : i = len := by omega
      subst this
      have HF : Hid (PB B b (l ++ jn (bL sep) (xs.map tx)) wr) := Lib.hid (by have := hr.out.1; rwa [List.take_of_length_le (by rw [HLEN.out]; exact Nat.le_refl _)] at this)
      go_wp2_with fail
      go_end0
      exact ⟨rfl, HF.out, hr.out.2⟩
end Go.Proofs.YtieklhplalgmmaaGreatDoor
namespace Go.Proofs.YtieklhplalgmmaaGreatDoor
open Go.RowKit
def cellAt (v : Value) (j : Nat) : Value := match v with | .agg cs => cs.getD j undef | _ => undef
theorem Rd.vals {w : World} {B : Nat} {k n : Int} {s : ByteArray} {A : Option Addr} {li ci : Nat} {K : Option Addr} {lk ck : Nat} {items : List VT} {keys : List ByteArray}
    (h : Rd w B (.agg #[.int .i64 k, .int .i64 n, .string s, .slice A li ci, .slice K lk ck]) (.mk k n s items keys)) : ValsR w B (.slice A li ci) items := by
  cases h with
  | @mk _ _ _ _ _ _ _ _ _ _ _ V hk hn hs hks hli hlk hbi hbk hA hr hK =>
  subst hli
  have hv : ∀ i, i < items.length → ∃ d0 d1 d2 d3 d4, V i = .agg #[d0, d1, d2, d3, d4] := fun i hi => by
    obtain ⟨a, _, _, hc⟩ := hA (by omega)
    obtain ⟨d0, d1, d2, d3, d4, e, _⟩ := hc i hi
    exact ⟨d0, d1, d2, d3, d4, e⟩
  refine ⟨A, ci, rfl, trivial, by unfold big; omega, fun i j => cellAt (V i) j, fun h0 => ?_, fun i x hx => ?_⟩
  · obtain ⟨a, e, ha, hc⟩ := hA h0
    refine ⟨a, e, ha, fun i hi j hj => ?_⟩
    obtain ⟨d0, d1, d2, d3, d4, e, q0, q1, q2, q3, q4⟩ := hc i hi
    show _ = some (cellAt (V i) j)
    rw [e]
    match j, hj with
    | 0, _ => exact q0
    | 1, _ => exact q1
    | 2, _ => exact q2
    | 3, _ => exact q3
    | 4, _ => exact q4
  · obtain ⟨d0, d1, d2, d3, d4, e⟩ := hv i (List.getElem?_eq_some_iff.1 hx).1
    have h1 := hr i x hx
    show Rd w B (.agg #[cellAt (V i) 0, cellAt (V i) 1, cellAt (V i) 2, cellAt (V i) 3, cellAt (V i) 4]) x
    rw [e] at h1 ⊢
    exact h1
end Go.Proofs.YtieklhplalgmmaaGreatDoor
namespace Go.Proofs.YtieklhplalgmmaaGreatDoor
open Go.RowKit
theorem Rd.keysOf {w : World} {B : Nat} {k n : Int} {s : ByteArray} {A : Option Addr} {li ci : Nat} {K : Option Addr} {lk ck : Nat} {items : List VT} {keys : List ByteArray}
    (h : Rd w B (.agg #[.int .i64 k, .int .i64 n, .string s, .slice A li ci, .slice K lk ck]) (.mk k n s items keys)) : keys.length = lk ∧ items.length = li ∧ li * 80 ≤ 140737488351232 ∧ lk * 16 ≤ 140737488351232 ∧ lk ≤ ck ∧ KeysAt w B K keys := by
  cases h with
  | @mk _ _ _ _ _ _ _ _ _ _ _ V hk hn hs hks hli hlk hbi hbk hA hr hK => exact ⟨hlk, hli, hbi, hbk.1, hbk.2, hK⟩
set_option maxRecDepth 100000 in
set_option maxHeartbeats 2000000 in
theorem object_any (B b : Nat) (k n : Int) (s : ByteArray) (items : List VT) (keys : List ByteArray) (hkl : keys.length = items.length)
    (ih : ∀ (i : Nat) (t : VT), items[i]? = some t → ∀ (f : Nat → Value) (W : World), ValR W B f t → Prints B b W 28 (.agg #[f 0, f 1, f 2, f 3, f 4]) t.src)
    (A : Option Addr) (li ci : Nat) (K : Option Addr) (lk ck : Nat) (w : World) (h : Rd w B (.agg #[.int .i64 k, .int .i64 n, .string s, .slice A li ci, .slice K lk ck]) (.mk k n s items keys)) :
    Prints B b w 62 (.agg #[.int .i64 k, .int .i64 n, .string s, .slice A li ci, .slice K lk ck]) (123 :: (jn [44, 32] (objTxt keys items) ++ [125])) := by
  intro l hp hL hl hB
  obtain ⟨hlk, hli, hbi, hbk, hck, hK⟩ := h.keysOf
  obtain ⟨A', c', e', _, _, V, hA, hr⟩ := h.vals
  cases e'
  clear hli
  rw [← hkl] at hbi hA
  rw [← hkl]
  obtain ⟨L, hL0⟩ : ∃ L, keys.length = L := ⟨_, rfl⟩
  rw [hL0] at hlk hbi hA ⊢
  subst hlk
  have hlm : (L : Int) ≤ 140737488351232 := by omega
  have hcm : (L : Int) ≤ ck := by omega
  have HA := Lib.hid hA
  have HR := Lib.hid hr
  have HK := Lib.hid hK
  have HKL := Lib.hid hkl
  have HL0 := Lib.hid hL0
  have IH := Lib.hid ih
  have HW0 : Hid (Wr B b w (w.alloc (.cells #[.int .i64 k, .int .i64 n, .string s, .slice A L ci, .slice K L ck] 45 (0, 0)))) := Lib.hid ((Wr.refl B b w).alloc hB _)
  have HP0 := Lib.hid (hp.alloc (.cells #[.int .i64 k, .int .i64 n, .string s, .slice A L ci, .slice K L ck] 45 (0, 0)))
  have HK0 := Lib.hid (Bk.new w #[.int .i64 k, .int .i64 n, .string s, .slice A L ci, .slice K L ck] 45)
  have HL := Lib.hid hL
  have HLL := Lib.hid hl
  have HBB := Lib.hid hB
  have hbw := hp.lt
  clear hL hl hB hp hA hr hK hkl hL0 ih h hbi hbk hck
  have y0 := HK0.out.cell 0 _ rfl
  have y1 := HK0.out.cell 1 _ rfl
  have y2 := HK0.out.cell 2 _ rfl
  have y3 := HK0.out.cell 3 _ rfl
  have y4 := HK0.out.cell 4 _ rfl
  go_enter Tryz.func62, Tryz.ntmps62
  go_wp2_with fail
  refine (put1 _ B b _ _ _ (by simp) HP0.out (by have h1 := HLL.out; (try simp only [lit_bL] at h1 ⊢); (try simp only [List.length_append] at h1 ⊢); (try simp only [List.length_cons] at h1 ⊢); (try simp only [List.length_append] at h1 ⊢); (try simp only [List.length_nil] at h1 ⊢); (try simp only [bL_len] at h1 ⊢); (try simp only [lit_size] at h1 ⊢); (try simp only [List.length_cons] at h1 ⊢); (try simp only [List.length_nil] at h1 ⊢); omega) (Nat.le_trans HBB.out HW0.out.below.size)).mono ?_
  rintro e w1 ⟨rfl, hp, hw⟩
  have HP1 := Lib.hid hp
  have HW1 := Lib.hid (HW0.out.trans hw)
  have HK1 := Lib.hid (HK0.out.wr hw (by omega) (by decide))
  clear hp hw y0 y1 y2 y3 y4
  have HOL : Hid ((objTxt keys items).length = L) := Lib.hid (by unfold objTxt; rw [List.length_zipWith, List.length_map, ← HKL.out, HL0.out, Nat.min_self])
  go_wp2_with fail
  go_loopw [22] (fun u wr => ∃ i : Nat, i ≤ L ∧ u = .int .i64 i ∧ Hid (PB B b (l ++ [123] ++ jn [44, 32] ((objTxt keys items).take i)) wr ∧ Wr B b w wr ∧ Bk wr w.heap.size #[.int .i64 k, .int .i64 n, .string s, .slice A L ci, .slice K L ck] 45)) (fun u _ => L - (intOf u).toNat)
  case atStart => exact ⟨0, Nat.zero_le _, rfl, Lib.hid ⟨by rw [List.take_zero, jn_nil, List.append_nil]; exact HP1.out, HW1.out, HK1.out⟩⟩
  case round =>
    obtain ⟨i, hi, rfl, hr⟩ := hrel
    by_cases hlt : i < L
    · have hlt' : (i : Int) < L := by omega
      obtain ⟨x, hxi⟩ : ∃ x, items[i]? = some x := ⟨_, List.getElem?_eq_getElem (by rw [← HKL.out, HL0.out]; exact hlt)⟩
      obtain ⟨y, hyi⟩ : ∃ y, keys[i]? = some y := ⟨_, List.getElem?_eq_getElem (by rw [HL0.out]; exact hlt)⟩
      have HXI := Lib.hid hxi
      have hx : ValR wr B (V i) x := ValR.stays.kept (HR.out i x hxi) hr.out.2.1.below
      have HF1 := Lib.hid (IH.out i x hxi)
      obtain ⟨a, rfl, ha, hc0⟩ := HA.out (by omega)
      obtain ⟨a', rfl, ha', hk0⟩ := HK.out (by rw [HL0.out]; omega)
      have HA2 : Hid (∀ W, Below B w W → ∀ j, j < 5 → W.cell? (at_ (a.add (i * 5)) j) = some (V i j)) := Lib.hid fun W hb j hj => (hb.cell (by rw [at_block, add_block]; exact ha)).trans (hc0 i hlt j hj)
      have q0 : wr.cell? (a'.add i) = some (.string y) := (hr.out.2.1.below.cell (by rw [add_block]; exact ha')).trans (hk0 i y hyi)
      obtain ⟨k', n', s', VA, vli, vci, VK, vlk, vck, e0, e1, e2, e3, e4⟩ := Rd.form hx
      have HX := Lib.hid hx
      have HE : Hid (#[V i 0, V i 1, V i 2, V i 3, V i 4] = #[.int .i64 k', .int .i64 n', .string s', .slice VA vli vci, .slice VK vlk vck]) := Lib.hid (by rw [e0, e1, e2, e3, e4])
      have E0 := Lib.hid e0; have E1 := Lib.hid e1; have E2 := Lib.hid e2; have E3 := Lib.hid e3; have E4 := Lib.hid e4
      have HT : Hid ((objTxt keys items)[i]? = some (bL y ++ (58 :: 32 :: x.src))) := Lib.hid (by unfold objTxt; rw [List.getElem?_zipWith, hyi, List.getElem?_map, hxi]; rfl)
      have HST := Lib.hid (jn_step_le [44, 32] HT.out)
      have HTK := Lib.hid (jn_take [44, 32] HT.out)
      have hsz := hr.out.2.1.below.size
      have hbl := hr.out.1.lt
      have hwl := hr.out.2.2.lt
      clear hc0 hk0 hx hxi hyi e0 e1 e2 e3 e4
      have HPr := Lib.hid hr.out.1
      have HWr := Lib.hid hr.out.2.1
      have HKr := Lib.hid hr.out.2.2
      clear hr
      by_cases hi0 : i = 0
      · have hi0' : ¬ (i : Int) > 0 := by omega
        have HI0 := Lib.hid hi0
        clear hi0
        go_wp2_with fail
        refine (put2 _ _ B b _ _ _ (by simp) HPr.out (by have h1 := HST.out; have h2 := HLL.out; rw [if_pos HI0.out] at h1; (try simp only [lit_bL] at h1 h2 ⊢); (try simp only [List.length_append] at h1 h2 ⊢); (try simp only [List.length_cons] at h1 h2 ⊢); (try simp only [List.length_nil] at h1 h2 ⊢); (try simp only [bL_len] at h1 h2 ⊢); (try simp only [lit_size] at h1 h2 ⊢); (try simp only [List.length_append] at h1 h2 ⊢); (try simp only [List.length_cons] at h1 h2 ⊢); (try simp only [List.length_nil] at h1 h2 ⊢); omega) (Nat.le_trans HBB.out HWr.out.below.size)).mono ?_
        rintro e w5 ⟨rfl, hp, hw⟩
        have HP5 := Lib.hid hp
        have HW5 := Lib.hid (HWr.out.trans hw)
        have HK5 := Lib.hid (HKr.out.wr hw (by omega) (by decide))
        have HX5 : Hid (ValR w5 B (V i) x) := Lib.hid (HX |>.out |> fun h => ValR.stays.kept h hw.below)
        clear hp hw
        have y0 := HK5.out.cell 0 _ rfl
        have y1 := HK5.out.cell 1 _ rfl
        have y2 := HK5.out.cell 2 _ rfl
        have y3 := HK5.out.cell 3 _ rfl
        have y4 := HK5.out.cell 4 _ rfl
        have k0 : w5.cell? (a.add (i * 5)) = some (V i 0) := HA2.out w5 HW5.out.below 0 (by omega)
        have k1 : w5.cell? ⟨(a.add (i * 5)).block, (a.add (i * 5)).off + 1, none⟩ = some (V i 1) := HA2.out w5 HW5.out.below 1 (by omega)
        have k2 : w5.cell? ⟨(a.add (i * 5)).block, (a.add (i * 5)).off + 2, none⟩ = some (V i 2) := HA2.out w5 HW5.out.below 2 (by omega)
        have k3 : w5.cell? ⟨(a.add (i * 5)).block, (a.add (i * 5)).off + 3, none⟩ = some (V i 3) := HA2.out w5 HW5.out.below 3 (by omega)
        have k4 : w5.cell? ⟨(a.add (i * 5)).block, (a.add (i * 5)).off + 4, none⟩ = some (V i 4) := HA2.out w5 HW5.out.below 4 (by omega)
        rw [E0.out] at k0; rw [E1.out] at k1; rw [E2.out] at k2; rw [E3.out] at k3; rw [E4.out] at k4
        have CALL := Lib.hid (HF1.out (V i) _ HX5.out _ HP5.out (HL.out.kept HW5.out.below) (by have h1 := HST.out; have h2 := HLL.out; rw [if_pos HI0.out] at h1; (try simp only [lit_bL] at h1 h2 ⊢); (try simp only [List.length_append] at h1 h2 ⊢); (try simp only [List.length_cons] at h1 h2 ⊢); (try simp only [List.length_nil] at h1 h2 ⊢); (try simp only [bL_len] at h1 h2 ⊢); (try simp only [lit_size] at h1 h2 ⊢); (try simp only [List.length_append] at h1 h2 ⊢); (try simp only [List.length_cons] at h1 h2 ⊢); (try simp only [List.length_nil] at h1 h2 ⊢); omega) (Nat.le_trans HBB.out HW5.out.below.size))
        rw [HE.out] at CALL
        go_wp2_with fail
        refine CALL.out.mono ?_
        rintro e w6 ⟨rfl, hp, hw⟩
        have HP6 : Hid (PB B b (l ++ [123] ++ jn [44, 32] ((objTxt keys items).take (i + 1))) w6) := Lib.hid (by
          rw [HTK.out, if_pos HI0.out]; (try simp only [List.append_assoc] at hp); (try simp only [List.nil_append]); (try simp only [List.append_assoc]); exact hp)
        have HW6 := Lib.hid (HW5.out.trans hw)
        have HK6 := Lib.hid (HK5.out.wr hw (by have := HW5.out.below.size; omega) (by decide))
        clear hp hw CALL y0 y1 y2 y3 y4 k0 k1 k2 k3 k4
        go_wp2_with fail
        go_roundw
        case rel => exact ⟨i + 1, by omega, by go_num, Lib.hid ⟨HP6.out, HW6.out, HK6.out⟩⟩
        case measure => simp [intOf]; omega
      · have hi0' : (i : Int) > 0 := by omega
        have HI0 := Lib.hid hi0
        clear hi0
        go_wp2_with fail
        refine (put1 _ B b _ _ _ (by simp) HPr.out (by have h1 := HST.out; have h2 := HLL.out; rw [if_neg HI0.out] at h1; (try simp only [lit_bL] at h1 h2 ⊢); (try simp only [List.length_append] at h1 h2 ⊢); (try simp only [List.length_cons] at h1 h2 ⊢); (try simp only [List.length_nil] at h1 h2 ⊢); (try simp only [bL_len] at h1 h2 ⊢); (try simp only [lit_size] at h1 h2 ⊢); (try simp only [List.length_append] at h1 h2 ⊢); (try simp only [List.length_cons] at h1 h2 ⊢); (try simp only [List.length_nil] at h1 h2 ⊢); omega) (Nat.le_trans HBB.out HWr.out.below.size)).mono ?_
        rintro e w4 ⟨rfl, hp, hw⟩
        have HP4 := Lib.hid hp
        have HW4 := Lib.hid (HWr.out.trans hw)
        have HK4 := Lib.hid (HKr.out.wr hw (by omega) (by decide))
        have HX4 : Hid (ValR w4 B (V i) x) := Lib.hid (ValR.stays.kept HX.out hw.below)
        have hsz4 := hw.below.size
        clear hp hw
        go_wp2_with fail
        refine (put2 _ _ B b _ _ _ (by simp) HP4.out (by have h1 := HST.out; have h2 := HLL.out; rw [if_neg HI0.out] at h1; (try simp only [lit_bL] at h1 h2 ⊢); (try simp only [List.length_append] at h1 h2 ⊢); (try simp only [List.length_cons] at h1 h2 ⊢); (try simp only [List.length_nil] at h1 h2 ⊢); (try simp only [bL_len] at h1 h2 ⊢); (try simp only [lit_size] at h1 h2 ⊢); (try simp only [List.length_append] at h1 h2 ⊢); (try simp only [List.length_cons] at h1 h2 ⊢); (try simp only [List.length_nil] at h1 h2 ⊢); omega) (Nat.le_trans HBB.out HW4.out.below.size)).mono ?_
        rintro e w5 ⟨rfl, hp, hw⟩
        have HP5 := Lib.hid hp
        have HW5 := Lib.hid (HW4.out.trans hw)
        have HK5 := Lib.hid (HK4.out.wr hw (by omega) (by decide))
        have HX5 : Hid (ValR w5 B (V i) x) := Lib.hid (HX4 |>.out |> fun h => ValR.stays.kept h hw.below)
        clear hp hw
        have y0 := HK5.out.cell 0 _ rfl
        have y1 := HK5.out.cell 1 _ rfl
        have y2 := HK5.out.cell 2 _ rfl
        have y3 := HK5.out.cell 3 _ rfl
        have y4 := HK5.out.cell 4 _ rfl
        have k0 : w5.cell? (a.add (i * 5)) = some (V i 0) := HA2.out w5 HW5.out.below 0 (by omega)
        have k1 : w5.cell? ⟨(a.add (i * 5)).block, (a.add (i * 5)).off + 1, none⟩ = some (V i 1) := HA2.out w5 HW5.out.below 1 (by omega)
        have k2 : w5.cell? ⟨(a.add (i * 5)).block, (a.add (i * 5)).off + 2, none⟩ = some (V i 2) := HA2.out w5 HW5.out.below 2 (by omega)
        have k3 : w5.cell? ⟨(a.add (i * 5)).block, (a.add (i * 5)).off + 3, none⟩ = some (V i 3) := HA2.out w5 HW5.out.below 3 (by omega)
        have k4 : w5.cell? ⟨(a.add (i * 5)).block, (a.add (i * 5)).off + 4, none⟩ = some (V i 4) := HA2.out w5 HW5.out.below 4 (by omega)
        rw [E0.out] at k0; rw [E1.out] at k1; rw [E2.out] at k2; rw [E3.out] at k3; rw [E4.out] at k4
        have CALL := Lib.hid (HF1.out (V i) _ HX5.out _ HP5.out (HL.out.kept HW5.out.below) (by have h1 := HST.out; have h2 := HLL.out; rw [if_neg HI0.out] at h1; (try simp only [lit_bL] at h1 h2 ⊢); (try simp only [List.length_append] at h1 h2 ⊢); (try simp only [List.length_cons] at h1 h2 ⊢); (try simp only [List.length_nil] at h1 h2 ⊢); (try simp only [bL_len] at h1 h2 ⊢); (try simp only [lit_size] at h1 h2 ⊢); (try simp only [List.length_append] at h1 h2 ⊢); (try simp only [List.length_cons] at h1 h2 ⊢); (try simp only [List.length_nil] at h1 h2 ⊢); omega) (Nat.le_trans HBB.out HW5.out.below.size))
        rw [HE.out] at CALL
        go_wp2_with fail
        refine CALL.out.mono ?_
        rintro e w6 ⟨rfl, hp, hw⟩
        have HP6 : Hid (PB B b (l ++ [123] ++ jn [44, 32] ((objTxt keys items).take (i + 1))) w6) := Lib.hid (by
          rw [HTK.out, if_neg HI0.out]; (try simp only [List.append_assoc] at hp); (try simp only [List.nil_append]); (try simp only [List.append_assoc]); exact hp)
        have HW6 := Lib.hid (HW5.out.trans hw)
        have HK6 := Lib.hid (HK5.out.wr hw (by have := HW5.out.below.size; omega) (by decide))
        clear hp hw CALL y0 y1 y2 y3 y4 k0 k1 k2 k3 k4
        go_wp2_with fail
        go_roundw
        case rel => exact ⟨i + 1, by omega, by go_num, Lib.hid ⟨HP6.out, HW6.out, HK6.out⟩⟩
        case measure => simp [intOf]; omega
    · have : i = L := by omega
      subst this
      have HPF : Hid (PB B b (l ++ [123] ++ jn [44, 32] (objTxt keys items)) wr) := Lib.hid (by have := hr.out.1; rwa [List.take_of_length_le (by rw [HOL.out]; exact Nat.le_refl _)] at this)
      have HWF := Lib.hid hr.out.2.1
      clear hr
      go_wp2_with fail
      refine (put1 _ B b _ _ _ (by simp) HPF.out (by have h1 := HLL.out; (try simp only [lit_bL] at h1 ⊢); (try simp only [List.length_append] at h1 ⊢); (try simp only [List.length_cons] at h1 ⊢); (try simp only [List.length_append] at h1 ⊢); (try simp only [List.length_nil] at h1 ⊢); (try simp only [bL_len] at h1 ⊢); (try simp only [lit_size] at h1 ⊢); (try simp only [List.length_cons] at h1 ⊢); (try simp only [List.length_nil] at h1 ⊢); omega) (Nat.le_trans HBB.out HWF.out.below.size)).mono ?_
      rintro e w7 ⟨rfl, hp, hw⟩
      have HP7 := Lib.hid hp
      have HW7 := Lib.hid (HWF.out.trans hw)
      clear hp hw
      go_wp2_with fail
      go_end0
      exact ⟨rfl, by have h1 := HP7.out; (try simp only [List.append_assoc] at h1); exact h1, HW7.out⟩
end Go.Proofs.YtieklhplalgmmaaGreatDoor
namespace Go.Proofs.YtieklhplalgmmaaGreatDoor
open Go.RowKit
theorem infoStr : (Tryz.prog.info? 9).map (fun i => (i.zero, i.size, i.bytes)) = some (some (.string ⟨#[]⟩), 1, 16) := by kernel_rfl
theorem ownsRow_stay {w w' : World} {base : Nat} {e : TypeId} {size : Nat} {v : Value} {n : Nat} {xs : List Value} (h : w.ownsRow base e size v n xs) (hb : Below w.heap.size w w') : w'.ownsRow base e size v n xs := by
  refine ⟨h.1, h.2.imp id ?_⟩
  rintro ⟨g, cap, cur, e1, e2, e3, r⟩
  have hg : g < w.heap.size := by
    rcases Nat.lt_or_ge g w.heap.size with h' | h'
    · exact h'
    · rw [Array.getElem?_eq_none h'] at e3; cases e3
  exact ⟨g, cap, cur, e1, e2, (hb.block g hg).trans e3, r⟩
def OwnR (w : World) (base : Nat) (v : Value) (ss : List ByteArray) : Prop := w.ownsRow base 9 1 v ss.length (ss.map Value.string)
theorem OwnR.stay {w w' : World} {base : Nat} {v : Value} {ss : List ByteArray} (h : OwnR w base v ss) (hb : Below w.heap.size w w') : OwnR w' base v ss := ownsRow_stay h hb
theorem OwnR.nil (w : World) (base : Nat) : OwnR w base (.slice none 0 0) [] := ⟨rfl, .inl ⟨rfl, rfl⟩⟩
theorem OwnR.lt {w : World} {base : Nat} {v : Value} {ss : List ByteArray} (h : OwnR w base v ss) : ∀ k, v.ownBlock = some k → base ≤ k ∧ k < w.heap.size := World.ownsRow.lt h
theorem OwnR.strs {w : World} {base : Nat} {v : Value} {ss : List ByteArray} (h : OwnR w base v ss) : ∃ A c, v = .slice A ss.length c ∧ StrsV w A ss := by
  have hh : w.ownsRow base 9 1 v ss.length (ss.map Value.string) := h
  rcases hh.2 with ⟨rfl, hz⟩ | ⟨g, cap, cur, rfl, h1, h2, h3⟩
  · have : ss = [] := by simpa using hz
    subst this
    exact ⟨none, 0, rfl, fun h0 => absurd h0 (by simp)⟩
  · exact ⟨some ⟨g, 0, none⟩, cap, rfl, fun _ => ⟨_, rfl, fun j s hs => hh.cells (g := g) rfl j (.string s) (by rw [List.getElem?_map, hs]; rfl)⟩⟩
theorem append_R {w : World} {ops : Array Oper} {rest : List Oper} {o : Oper} {a : Act} {Q : Exit → Act → World → Prop} (hgd : o.guard = none) (s x : Operand)
    (ho : o.op = .call { callee := .builtin .append, args := #[s, x], argTypes := #[29, 29] }) (base : Nat) (v : Value) (ss : List ByteArray) (hs : a.eval s = v) (hown : OwnR w base v ss)
    (r c : Nat) (p : ByteArray) (hx : a.eval x = .slice (some ⟨r, 0, none⟩) 1 c) (hnews : w.cell? ⟨r, 0, none⟩ = some (.string p))
    (hlen : ss.length + 1 ≤ 8000000000000) (hbase : base ≤ w.heap.size)
    (h : ∀ v' w', OwnR w' base v' (ss ++ [p]) → w.grownBy w' v.ownBlock → wpList Tryz.prog ops Q rest (a.put o.dst v') w') : wpList Tryz.prog ops Q (o :: rest) a w := by
  obtain ⟨i0, hi, hz0, hz1, hz2⟩ := info_parts infoStr
  refine wpList_append_own w hgd s x 29 ho base 9 i0 (.string ⟨#[]⟩) 1 16 Tryz.underlying29 hi hz0 hz1 hz2 rfl (by decide) v ss.length _ hs hown ⟨r, 0, none⟩ 1 c [.string p] hx rfl ?_ ?_ (by unfold maxLen; omega) (by omega) hbase ?_
  · intro j u hj
    cases j with
    | zero => cases hj; exact hnews
    | succ j => simp at hj
  · intro u hu
    simp at hu; subst hu; rfl
  · intro v' w' h1 h2 _
    refine h v' w' ?_ h2
    unfold OwnR
    rw [List.length_append, List.map_append]
    exact h1
def SP (l : List UInt8) (w : World) (e : Ending) (w' : World) : Prop := (∃ o : ByteArray, e = .returned (.string o) ∧ bL o = l) ∧ Below w.heap.size w w'
theorem bL_mk (l : List UInt8) : bL ⟨l.toArray⟩ = l := by simp [bL]
theorem Bk.grown {w w' : World} {b : Nat} {cs : Array Value} {T : TypeId} {v : Value} (h : Bk w b cs T) (hg : w.grownBy w' v.ownBlock) (hb : ∀ k, v.ownBlock = some k → k ≠ b) : Bk w' b cs T :=
  (hg.block b h.lt (fun e => hb b e.symm rfl)).trans h
end Go.Proofs.YtieklhplalgmmaaGreatDoor
namespace Go.Proofs.YtieklhplalgmmaaGreatDoor
open Go.RowKit
def RValAt (t : VT) : Prop := ∀ (w : World) (B : Nat) (v : Value), Rd w B v t → B ≤ w.heap.size → t.fit → t.src.length ≤ 140737488355328 → Calls Tryz.prog 91 #[v] w (SP t.src w)
set_option maxRecDepth 100000 in
set_option maxHeartbeats 4000000 in
theorem rvlist_any (n' : Int) (s' : ByteArray) (items : List VT) (keys : List ByteArray) (ih : ∀ (i : Nat) (t : VT), items[i]? = some t → t.fit ∧ RValAt t) (A : Option Addr) (li ci : Nat) (K : Option Addr) (lk ck : Nat) (w : World) (B : Nat)
    (h : Rd w B (.agg #[.int .i64 5, .int .i64 n', .string s', .slice A li ci, .slice K lk ck]) (.mk 5 n' s' items keys)) (hB : B ≤ w.heap.size) (hl : (91 :: (jn [44, 32] (items.map VT.src) ++ [93])).length ≤ 140737488355328) :
    Calls Tryz.prog 91 #[.agg #[.int .i64 5, .int .i64 n', .string s', .slice A li ci, .slice K lk ck]] w (SP (91 :: (jn [44, 32] (items.map VT.src) ++ [93])) w) := by
  obtain ⟨_, hli0, hbi, _, _, _⟩ := h.keysOf
  obtain ⟨A', c', e', _, _, V, hA, hr⟩ := h.vals
  cases e'
  obtain ⟨L, hL0⟩ : ∃ L, items.length = L := ⟨_, rfl⟩
  rw [hL0] at hA hbi ⊢
  have hlm : (L : Int) ≤ 140737488351232 := by omega
  have HA := Lib.hid hA
  have HR := Lib.hid hr
  have IH := Lib.hid ih
  have HL0 := Lib.hid hL0
  have HLL := Lib.hid hl
  have HBB := Lib.hid hB
  have HBI := Lib.hid hbi
  have HB0 : Hid (Below w.heap.size w (w.alloc (.cells #[.int .i64 5, .int .i64 n', .string s', .slice A L ci, .slice K lk ck] 45 (0, 0)))) := Lib.hid (below_new _ _)
  have HK0 := Lib.hid (Bk.new w #[.int .i64 5, .int .i64 n', .string s', .slice A L ci, .slice K lk ck] 45)
  have hz0 : (w.alloc (.cells #[.int .i64 5, .int .i64 n', .string s', .slice A L ci, .slice K lk ck] 45 (0, 0))).heap.size = w.heap.size + 1 := by simp
  clear hA hr ih hL0 hl hbi hli0 h
  have y0 := HK0.out.cell 0 _ rfl
  have y1 := HK0.out.cell 1 _ rfl
  have y2 := HK0.out.cell 2 _ rfl
  have y3 := HK0.out.cell 3 _ rfl
  have y4 := HK0.out.cell 4 _ rfl
  go_enter Tryz.func91, Tryz.ntmps91
  go_wp2_with fail
  clear y0 y1 y2 y3 y4
  go_loopw [3, 4] (fun v i wr => ∃ (j : Nat) (ss : List ByteArray), j ≤ L ∧ i = .int .i64 j ∧ Hid (OwnR wr (w.heap.size + 1) v ss ∧ ss.map bL = (items.take j).map VT.src ∧ Below w.heap.size w wr ∧ Bk wr w.heap.size #[.int .i64 5, .int .i64 n', .string s', .slice A L ci, .slice K lk ck] 45)) (fun _ i _ => L - (intOf i).toNat)
  case atStart => exact ⟨0, [], Nat.zero_le _, rfl, Lib.hid ⟨OwnR.nil _ _, by simp, HB0.out, HK0.out⟩⟩
  case round =>
    obtain ⟨j, ss, hj, rfl, hr⟩ := hrel
    obtain ⟨hown, hss, hb, hk⟩ := hr.out
    have HOW := Lib.hid hown
    have HSS := Lib.hid hss
    have HB := Lib.hid hb
    have HKB := Lib.hid hk
    have hwl := hk.lt
    clear hown hss hb hk hr
    have y0 := HKB.out.cell 0 _ rfl
    have y1 := HKB.out.cell 1 _ rfl
    have y2 := HKB.out.cell 2 _ rfl
    have y3 := HKB.out.cell 3 _ rfl
    have y4 := HKB.out.cell 4 _ rfl
    by_cases hlt : j < L
    · have hlt' : (j : Int) < L := by omega
      obtain ⟨x, hxi⟩ : ∃ x, items[j]? = some x := ⟨_, List.getElem?_eq_getElem (by rw [HL0.out]; exact hlt)⟩
      have hx : ValR wr B (V j) x := ValR.stays.kept (HR.out j x hxi) (HB.out.mono HBB.out)
      obtain ⟨a, rfl, ha, hc0⟩ := HA.out (by omega)
      have hcc : ∀ q, q < 5 → wr.cell? (at_ (a.add (j * 5)) q) = some (V j q) := fun q hq => ((HB.out.mono HBB.out).cell (by rw [at_block, add_block]; exact ha)).trans (hc0 j hlt q hq)
      have k0 : wr.cell? (a.add (j * 5)) = some (V j 0) := hcc 0 (by omega)
      have k1 : wr.cell? ⟨(a.add (j * 5)).block, (a.add (j * 5)).off + 1, none⟩ = some (V j 1) := hcc 1 (by omega)
      have k2 : wr.cell? ⟨(a.add (j * 5)).block, (a.add (j * 5)).off + 2, none⟩ = some (V j 2) := hcc 2 (by omega)
      have k3 : wr.cell? ⟨(a.add (j * 5)).block, (a.add (j * 5)).off + 3, none⟩ = some (V j 3) := hcc 3 (by omega)
      have k4 : wr.cell? ⟨(a.add (j * 5)).block, (a.add (j * 5)).off + 4, none⟩ = some (V j 4) := hcc 4 (by omega)
      obtain ⟨k', n1, s1, VA, vli, vci, VK, vlk, vck, e0, e1, e2, e3, e4⟩ := Rd.form hx
      have hxm : (items.map VT.src)[j]? = some x.src := by rw [List.getElem?_map, hxi]; rfl
      have hst := jn_step_le [44, 32] hxm
      have CALL := Lib.hid ((IH.out j x hxi).2 wr B _ hx (Nat.le_trans HBB.out HB.out.size) (IH.out j x hxi).1 (by have h2 := HLL.out; simp only [List.length_cons, List.length_append] at h2; omega))
      have HXS : Hid ((items.take (j + 1)).map VT.src = (items.take j).map VT.src ++ [x.src]) := Lib.hid (by rw [take_sn hxi, List.map_append]; rfl)
      rw [e0, e1, e2, e3, e4] at CALL
      rw [e0] at k0; rw [e1] at k1; rw [e2] at k2; rw [e3] at k3; rw [e4] at k4
      clear hx hc0 hcc e0 e1 e2 e3 e4 hxi hxm hst
      go_wp2_with fail
      refine CALL.out.mono ?_
      rintro e w5 ⟨⟨o, rfl, ho⟩, hb5⟩
      have HO := Lib.hid ho
      have hbn := below_new w5 (.cells #[.string o] 9 (0, 0))
      have HOW5 := Lib.hid ((HOW.out.stay hb5).stay hbn)
      have HB5 := Lib.hid (HB.out.trans ((hb5.trans (hbn.mono hb5.size)).mono HB.out.size))
      have HK5 := Lib.hid ((HKB.out.stay hb5).stay hbn)
      have HN5 := Lib.hid (Bk.new w5 #[.string o] 9)
      have hz5 : w.heap.size + 1 ≤ w5.heap.size := by have := hb5.size; omega
      have HSL : Hid (ss.length = j) := Lib.hid (by have := congrArg List.length HSS.out; simp at this; have := HL0.out; omega)
      clear ho hb5 hbn CALL k0 k1 k2 k3 k4 y0 y1 y2 y3 y4
      go_wp2_with (at_builtin; refine append_R rfl _ _ rfl (w.heap.size + 1) _ ss rfl HOW5.out w5.heap.size 1 o rfl (HN5.out.cell 0 _ rfl) (by have := HSL.out; have := HBI.out; omega) (by simp; omega) ?_)
      intro v' w6 ho6 hg6
      have HK6 := Lib.hid (HK5.out.grown hg6 (fun k hk => by have := (HOW5.out.lt k hk).1; omega))
      have HB6 := Lib.hid (HB5.out.grown hg6 HB5.out.size (fun k hk => by have := (HOW5.out.lt k hk).1; omega))
      have HO6 := Lib.hid ho6
      clear ho6 hg6
      go_wp2_with fail
      go_roundw
      case rel => exact ⟨j + 1, ss ++ [o], by omega, by go_num, Lib.hid ⟨HO6.out, by rw [HXS.out, List.map_append, HSS.out, List.map_cons, List.map_nil, HO.out], HB6.out, HK6.out⟩⟩
      case measure => simp [intOf]; omega
    · have : j = L := by omega
      subst this
      obtain ⟨A2, c2, hv2, hst2⟩ := HOW.out.strs
      have HST2 := Lib.hid hst2
      have HFS : Hid (ss.map bL = items.map VT.src) := Lib.hid (by have := HSS.out; rwa [List.take_of_length_le (by rw [HL0.out]; exact Nat.le_refl _)] at this)
      have hsl : ss.length = j := by have := congrArg List.length HFS.out; simp at this; have := HL0.out; omega
      subst hv2
      rw [hsl]
      have HJ := Lib.hid (rjoin_any ss A2 j c2 ⟨#[44, 32]⟩ wr HST2.out hsl (by have := HBI.out; omega) (by rw [HFS.out, lit_bL]; have := HLL.out; simp only [List.length_cons, List.length_append] at this; omega))
      clear hst2 hsl HOW
      go_wp2_with fail
      refine HJ.out.mono ?_
      rintro e w7 ⟨⟨o, rfl, ho⟩, rfl⟩
      rw [HFS.out, show bL ⟨#[44, 32]⟩ = [44, 32] from rfl] at ho
      have hol : o.size = (jn [44, 32] (items.map VT.src)).length := by rw [← bL_len, ho]
      have hll := HLL.out
      simp only [List.length_cons, List.length_append, List.length_nil] at hll
      obtain ⟨q, hq, hadd1⟩ := cat_ex ⟨#[91]⟩ o (by rw [hol, lit_size]; simp only [List.length_cons, List.length_nil]; omega)
      have hql : q.size = o.size + 1 := by rw [← bL_len, hq, List.length_append, bL_len, bL_len, lit_size]; simp; omega
      obtain ⟨u, hu, hadd2⟩ := cat_ex q ⟨#[93]⟩ (by rw [hql, hol, lit_size]; simp only [List.length_cons, List.length_nil]; omega)
      have HU : Hid (bL u = 91 :: (jn [44, 32] (items.map VT.src) ++ [93])) := Lib.hid (by rw [hu, hq, ho]; rfl)
      clear hu hq hol hll hql ho
      go_wp2_with fail
      go_ret
      exact ⟨⟨u, rfl, HU.out⟩, HB.out⟩
end Go.Proofs.YtieklhplalgmmaaGreatDoor
