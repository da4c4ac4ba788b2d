
/-
  Texts joined: NF NG Twice RNodeD RNodeA RNodeB RNodeC.
-/
import Derived.Test.YtieklhplalgmmaaGreatDoorVr14
import Derived.Test.YtieklhplalgmmaaGreatDoorVr2
import Derived.Test.YtieklhplalgmmaaGreatDoorVr1
namespace Go.Proofs.YtieklhplalgmmaaGreatDoor
open Go.RowKit
theorem sameDirs_nil (A A2 : Option Addr) (c c2 : Nat) (w : World) : Calls Tryz.prog 41 #[.slice A 0 c, .slice A2 0 c2] w fun e w' => e = .returned (.bool true) ∧ w = w' := by
  go_enter Tryz.func41, Tryz.ntmps41
  go_wp2_with fail
  refine (eqDir_nil A A2 c c2 _ w).mono ?_
  rintro e w1 ⟨rfl, rfl⟩
  go_wp2_with fail
  go_ret
  exact ⟨rfl, rfl⟩
set_option maxRecDepth 100000 in
set_option maxHeartbeats 4000000 in
theorem sameField_ex (w : World) : Calls Tryz.prog 43 #[.agg #[.string ⟨#[120]⟩, .slice none 0 0, .string ⟨#[73, 110, 116]⟩, .slice none 0 0, .slice none 0 0], .agg #[.string ⟨#[120]⟩, .slice none 0 0, .string ⟨#[73, 110, 116]⟩, .slice none 0 0, .slice none 0 0]] w fun e w' => e = .returned (.bool true) ∧ Below w.heap.size w w' := by
  have HA : Hid (Bk ((w.alloc (.cells #[.string ⟨#[120]⟩, .slice none 0 0, .string ⟨#[73, 110, 116]⟩, .slice none 0 0, .slice none 0 0] 40 (0, 0))).alloc (.cells #[.string ⟨#[120]⟩, .slice none 0 0, .string ⟨#[73, 110, 116]⟩, .slice none 0 0, .slice none 0 0] 40 (0, 0))) w.heap.size #[.string ⟨#[120]⟩, .slice none 0 0, .string ⟨#[73, 110, 116]⟩, .slice none 0 0, .slice none 0 0] 40) := Lib.hid ((Bk.new w #[.string ⟨#[120]⟩, .slice none 0 0, .string ⟨#[73, 110, 116]⟩, .slice none 0 0, .slice none 0 0] 40).stay (below_new _ _))
  have HB : Hid (Bk ((w.alloc (.cells #[.string ⟨#[120]⟩, .slice none 0 0, .string ⟨#[73, 110, 116]⟩, .slice none 0 0, .slice none 0 0] 40 (0, 0))).alloc (.cells #[.string ⟨#[120]⟩, .slice none 0 0, .string ⟨#[73, 110, 116]⟩, .slice none 0 0, .slice none 0 0] 40 (0, 0))) (w.heap.size + 1) #[.string ⟨#[120]⟩, .slice none 0 0, .string ⟨#[73, 110, 116]⟩, .slice none 0 0, .slice none 0 0] 40) := Lib.hid (by
    have h := Bk.new (w.alloc (.cells #[.string ⟨#[120]⟩, .slice none 0 0, .string ⟨#[73, 110, 116]⟩, .slice none 0 0, .slice none 0 0] 40 (0, 0))) #[.string ⟨#[120]⟩, .slice none 0 0, .string ⟨#[73, 110, 116]⟩, .slice none 0 0, .slice none 0 0] 40
    rwa [show (w.alloc (.cells #[.string ⟨#[120]⟩, .slice none 0 0, .string ⟨#[73, 110, 116]⟩, .slice none 0 0, .slice none 0 0] 40 (0, 0))).heap.size = w.heap.size + 1 by simp] at h)
  have HW : Hid (Below w.heap.size w ((w.alloc (.cells #[.string ⟨#[120]⟩, .slice none 0 0, .string ⟨#[73, 110, 116]⟩, .slice none 0 0, .slice none 0 0] 40 (0, 0))).alloc (.cells #[.string ⟨#[120]⟩, .slice none 0 0, .string ⟨#[73, 110, 116]⟩, .slice none 0 0, .slice none 0 0] 40 (0, 0)))) := Lib.hid ((below_new w _).alloc (by simp) _)
  have y0 := HA.out.cell 0 _ rfl
  have y1 := HA.out.cell 1 _ rfl
  have y2 := HA.out.cell 2 _ rfl
  have y3 := HA.out.cell 3 _ rfl
  have y4 := HA.out.cell 4 _ rfl
  have z0 := HB.out.cell 0 _ rfl
  have z1 := HB.out.cell 1 _ rfl
  have z2 := HB.out.cell 2 _ rfl
  have z3 := HB.out.cell 3 _ rfl
  have z4 := HB.out.cell 4 _ rfl
  have CALL := fun W => K.tsame2_any ⟨#[73, 110, 116]⟩ ⟨#[73, 110, 116]⟩ [] [] (.agg #[.string ⟨#[73, 110, 116]⟩, .slice none 0 0]) (.agg #[.string ⟨#[73, 110, 116]⟩, .slice none 0 0]) W ⟨none, 0, rfl, Nat.le_refl _, fun h => absurd h (by simp)⟩ ⟨none, 0, rfl, Nat.le_refl _, fun h => absurd h (by simp)⟩ (by simp)
  rw [show decide ((⟨#[73, 110, 116]⟩ : ByteArray) = ⟨#[73, 110, 116]⟩ ∧ ([] : K.Ws) = []) = true by simp] at CALL
  go_enter Tryz.func43, Tryz.ntmps43
  go_wp2_with fail
  refine (CALL _).mono ?_
  rintro e w1 ⟨rfl, hb⟩
  have HW1 := Lib.hid (HW.out.trans (hb.mono HW.out.size))
  have ha := HA.out.stay hb
  have hb2 := HB.out.stay hb
  clear hb CALL y0 z0 y1 z1 y2 z2 y3 z3 y4 z4
  have y0 := ha.cell 0 _ rfl
  have y1 := ha.cell 1 _ rfl
  have y2 := ha.cell 2 _ rfl
  have y3 := ha.cell 3 _ rfl
  have y4 := ha.cell 4 _ rfl
  have z0 := hb2.cell 0 _ rfl
  have z1 := hb2.cell 1 _ rfl
  have z2 := hb2.cell 2 _ rfl
  have z3 := hb2.cell 3 _ rfl
  have z4 := hb2.cell 4 _ rfl
  clear ha hb2
  go_wp2_with fail
  refine (eqInp_nil none none 0 0 _ _).mono ?_
  rintro e w2 ⟨rfl, rfl⟩
  go_wp2_with fail
  refine (sameDirs_nil none none 0 0 _).mono ?_
  rintro e w2 ⟨rfl, rfl⟩
  go_wp2_with fail
  go_ret
  exact ⟨rfl, HW1.out⟩
set_option maxRecDepth 100000 in
set_option maxHeartbeats 4000000 in
theorem sameDef_ex (g : Nat) (w : World) (hg : Bk w g #[.string ⟨#[120]⟩, .slice none 0 0, .string ⟨#[73, 110, 116]⟩, .slice none 0 0, .slice none 0 0] 40) : Calls Tryz.prog 21 #[.agg #[.int .i64 1, .string ⟨#[84]⟩, .slice none 0 0, .slice none 0 0, .slice (some ⟨g, 0, none⟩) 1 1, .slice none 0 0, .slice none 0 0], .agg #[.int .i64 1, .string ⟨#[84]⟩, .slice none 0 0, .slice none 0 0, .slice (some ⟨g, 0, none⟩) 1 1, .slice none 0 0, .slice none 0 0]] w fun e w' => e = .returned (.bool true) ∧ Below w.heap.size w w' := by
  have HA : Hid (Bk ((w.alloc (.cells #[.int .i64 1, .string ⟨#[84]⟩, .slice none 0 0, .slice none 0 0, .slice (some ⟨g, 0, none⟩) 1 1, .slice none 0 0, .slice none 0 0] 35 (0, 0))).alloc (.cells #[.int .i64 1, .string ⟨#[84]⟩, .slice none 0 0, .slice none 0 0, .slice (some ⟨g, 0, none⟩) 1 1, .slice none 0 0, .slice none 0 0] 35 (0, 0))) w.heap.size #[.int .i64 1, .string ⟨#[84]⟩, .slice none 0 0, .slice none 0 0, .slice (some ⟨g, 0, none⟩) 1 1, .slice none 0 0, .slice none 0 0] 35) := Lib.hid ((Bk.new w #[.int .i64 1, .string ⟨#[84]⟩, .slice none 0 0, .slice none 0 0, .slice (some ⟨g, 0, none⟩) 1 1, .slice none 0 0, .slice none 0 0] 35).stay (below_new _ _))
  have HB : Hid (Bk ((w.alloc (.cells #[.int .i64 1, .string ⟨#[84]⟩, .slice none 0 0, .slice none 0 0, .slice (some ⟨g, 0, none⟩) 1 1, .slice none 0 0, .slice none 0 0] 35 (0, 0))).alloc (.cells #[.int .i64 1, .string ⟨#[84]⟩, .slice none 0 0, .slice none 0 0, .slice (some ⟨g, 0, none⟩) 1 1, .slice none 0 0, .slice none 0 0] 35 (0, 0))) (w.heap.size + 1) #[.int .i64 1, .string ⟨#[84]⟩, .slice none 0 0, .slice none 0 0, .slice (some ⟨g, 0, none⟩) 1 1, .slice none 0 0, .slice none 0 0] 35) := Lib.hid (by
    have h := Bk.new (w.alloc (.cells #[.int .i64 1, .string ⟨#[84]⟩, .slice none 0 0, .slice none 0 0, .slice (some ⟨g, 0, none⟩) 1 1, .slice none 0 0, .slice none 0 0] 35 (0, 0))) #[.int .i64 1, .string ⟨#[84]⟩, .slice none 0 0, .slice none 0 0, .slice (some ⟨g, 0, none⟩) 1 1, .slice none 0 0, .slice none 0 0] 35
    rwa [show (w.alloc (.cells #[.int .i64 1, .string ⟨#[84]⟩, .slice none 0 0, .slice none 0 0, .slice (some ⟨g, 0, none⟩) 1 1, .slice none 0 0, .slice none 0 0] 35 (0, 0))).heap.size = w.heap.size + 1 by simp] at h)
  have HW : Hid (Below w.heap.size w ((w.alloc (.cells #[.int .i64 1, .string ⟨#[84]⟩, .slice none 0 0, .slice none 0 0, .slice (some ⟨g, 0, none⟩) 1 1, .slice none 0 0, .slice none 0 0] 35 (0, 0))).alloc (.cells #[.int .i64 1, .string ⟨#[84]⟩, .slice none 0 0, .slice none 0 0, .slice (some ⟨g, 0, none⟩) 1 1, .slice none 0 0, .slice none 0 0] 35 (0, 0)))) := Lib.hid ((below_new w _).alloc (by simp) _)
  have y0 := HA.out.cell 0 _ rfl
  have y1 := HA.out.cell 1 _ rfl
  have y2 := HA.out.cell 2 _ rfl
  have y3 := HA.out.cell 3 _ rfl
  have y4 := HA.out.cell 4 _ rfl
  have y5 := HA.out.cell 5 _ rfl
  have y6 := HA.out.cell 6 _ rfl
  have z0 := HB.out.cell 0 _ rfl
  have z1 := HB.out.cell 1 _ rfl
  have z2 := HB.out.cell 2 _ rfl
  have z3 := HB.out.cell 3 _ rfl
  have z4 := HB.out.cell 4 _ rfl
  have z5 := HB.out.cell 5 _ rfl
  have z6 := HB.out.cell 6 _ rfl
  have CALL := Lib.hid (eqFld_one ⟨#[120]⟩ ⟨#[73, 110, 116]⟩ none none none 0 0 0 0 0 0 g 1 _ (hg.stay HW.out) (fun W _ => sameField_ex W))
  go_enter Tryz.func21, Tryz.ntmps21
  go_wp2_with fail
  refine (eqStr_nil none none 0 0 _).mono ?_
  rintro e w2 ⟨rfl, rfl⟩
  go_wp2_with fail
  refine (sameDirs_nil none none 0 0 _).mono ?_
  rintro e w2 ⟨rfl, rfl⟩
  go_wp2_with fail
  refine CALL.out.mono ?_
  rintro e w1 ⟨rfl, hb⟩
  have HW1 := Lib.hid (HW.out.trans (hb.mono HW.out.size))
  have ha := HA.out.stay hb
  have hb2 := HB.out.stay hb
  clear hb CALL y0 z0 y1 z1 y2 z2 y3 z3 y4 z4 y5 z5 y6 z6
  have y0 := ha.cell 0 _ rfl
  have y1 := ha.cell 1 _ rfl
  have y2 := ha.cell 2 _ rfl
  have y3 := ha.cell 3 _ rfl
  have y4 := ha.cell 4 _ rfl
  have y5 := ha.cell 5 _ rfl
  have y6 := ha.cell 6 _ rfl
  have z0 := hb2.cell 0 _ rfl
  have z1 := hb2.cell 1 _ rfl
  have z2 := hb2.cell 2 _ rfl
  have z3 := hb2.cell 3 _ rfl
  have z4 := hb2.cell 4 _ rfl
  have z5 := hb2.cell 5 _ rfl
  have z6 := hb2.cell 6 _ rfl
  clear ha hb2
  go_wp2_with fail
  refine (eqMem_nil none none 0 0 _ _).mono ?_
  rintro e w2 ⟨rfl, rfl⟩
  go_wp2_with fail
  refine (eqInp_nil none none 0 0 _ _).mono ?_
  rintro e w2 ⟨rfl, rfl⟩
  go_wp2_with fail
  go_ret
  exact ⟨rfl, HW1.out⟩
set_option maxRecDepth 100000 in
set_option maxHeartbeats 4000000 in
theorem same_ex (g d : Nat) (w : World) (hg : Bk w g #[.string ⟨#[120]⟩, .slice none 0 0, .string ⟨#[73, 110, 116]⟩, .slice none 0 0, .slice none 0 0] 40) (hd : Bk w d #[.int .i64 1, .string ⟨#[84]⟩, .slice none 0 0, .slice none 0 0, .slice (some ⟨g, 0, none⟩) 1 1, .slice none 0 0, .slice none 0 0] 35) : Calls Tryz.prog 10 #[.agg #[.slice (some ⟨d, 0, none⟩) 1 1], .agg #[.slice (some ⟨d, 0, none⟩) 1 1]] w fun e w' => e = .returned (.bool true) ∧ Below w.heap.size w w' := by
  have HA : Hid (Bk ((w.alloc (.cells #[.slice (some ⟨d, 0, none⟩) 1 1] 24 (0, 0))).alloc (.cells #[.slice (some ⟨d, 0, none⟩) 1 1] 24 (0, 0))) w.heap.size #[.slice (some ⟨d, 0, none⟩) 1 1] 24) := Lib.hid ((Bk.new w #[.slice (some ⟨d, 0, none⟩) 1 1] 24).stay (below_new _ _))
  have HB : Hid (Bk ((w.alloc (.cells #[.slice (some ⟨d, 0, none⟩) 1 1] 24 (0, 0))).alloc (.cells #[.slice (some ⟨d, 0, none⟩) 1 1] 24 (0, 0))) (w.heap.size + 1) #[.slice (some ⟨d, 0, none⟩) 1 1] 24) := Lib.hid (by
    have h := Bk.new (w.alloc (.cells #[.slice (some ⟨d, 0, none⟩) 1 1] 24 (0, 0))) #[.slice (some ⟨d, 0, none⟩) 1 1] 24
    rwa [show (w.alloc (.cells #[.slice (some ⟨d, 0, none⟩) 1 1] 24 (0, 0))).heap.size = w.heap.size + 1 by simp] at h)
  have HW : Hid (Below w.heap.size w ((w.alloc (.cells #[.slice (some ⟨d, 0, none⟩) 1 1] 24 (0, 0))).alloc (.cells #[.slice (some ⟨d, 0, none⟩) 1 1] 24 (0, 0)))) := Lib.hid ((below_new w _).alloc (by simp) _)
  have y0 := HA.out.cell 0 _ rfl
  have z0 := HB.out.cell 0 _ rfl
  have CALL := Lib.hid (eqDef_one 1 ⟨#[84]⟩ none none (some ⟨g, 0, none⟩) none none 0 0 0 0 1 1 0 0 0 0 d 1 _ (hd.stay HW.out) (fun W hW => sameDef_ex g W ((hg.stay HW.out).stay hW)))
  go_enter Tryz.func10, Tryz.ntmps10
  go_wp2_with fail
  refine CALL.out.mono ?_
  rintro e w1 ⟨rfl, hb⟩
  have HW1 := Lib.hid (HW.out.trans (hb.mono HW.out.size))
  clear hb CALL y0 z0
  go_wp2_with fail
  go_ret
  exact ⟨rfl, HW1.out⟩
end Go.Proofs.YtieklhplalgmmaaGreatDoor
namespace Go.Proofs.YtieklhplalgmmaaGreatDoor
open Go.RowKit
def exF : FldT := ⟨⟨#[120]⟩, [], ⟨#[73, 110, 116]⟩, [], []⟩
def exD : DefT := ⟨1, ⟨#[84]⟩, [], [], [exF], [], []⟩
theorem nil_sl {α : Type} (k bytes : Nat) (R : World → Nat → (Nat → Value) → α → Prop) (W : World) (B : Nat) : Sl k bytes R W B (.slice none 0 0) ([] : List α) :=
  ⟨none, 0, rfl, Nat.le_refl _, by simp, fun _ _ => undef, fun h => absurd h (by simp), fun i x h => by simp at h⟩
theorem one_sl {α : Type} (k bytes : Nat) (R : World → Nat → (Nat → Value) → α → Prop) (W : World) (B g : Nat) (x : α) (cs : Array Value) (T : TypeId) (hb : bytes ≤ big) (hg : g < B) (hk : Bk W g cs T) (hs : cs.size = k) (hr : R W B (fun j => cs.getD j undef) x) : Sl k bytes R W B (.slice (some ⟨g, 0, none⟩) 1 1) [x] := by
  refine ⟨_, 1, rfl, Nat.le_refl _, by simpa using hb, fun _ j => cs.getD j undef, fun _ => ⟨_, rfl, hg, fun i hi j hj => ?_⟩, fun i y hy => ?_⟩
  · obtain rfl : i = 0 := by simpa using hi
    have h1 := hk.cell j (cs.getD j undef) (by rw [Array.getD_eq_getD_getElem?, Array.getElem?_eq_getElem (by omega)]; rfl)
    rw [Nat.zero_mul]
    cases j with
    | zero => exact h1
    | succ j => simpa [at_, Addr.add] using h1
  · cases i with
    | zero => simp at hy; subst hy; exact hr
    | succ i => simp at hy
theorem ex_defs (W : World) (B g d : Nat) (hg : g < B) (hd : d < B) (h1 : Bk W g #[.string ⟨#[120]⟩, .slice none 0 0, .string ⟨#[73, 110, 116]⟩, .slice none 0 0, .slice none 0 0] 40)
    (h2 : Bk W d #[.int .i64 1, .string ⟨#[84]⟩, .slice none 0 0, .slice none 0 0, .slice (some ⟨g, 0, none⟩) 1 1, .slice none 0 0, .slice none 0 0] 35) : DefsR W B (.slice (some ⟨d, 0, none⟩) 1 1) [exD] := by
  refine one_sl 7 144 DefR W B d exD _ _ (by decide) hd h2 rfl ?_
  refine ⟨rfl, ⟨by decide, by decide⟩, rfl, by decide, nil_sl _ _ _ _ _, nil_sl _ _ _ _ _, ?_, nil_sl _ _ _ _ _, nil_sl _ _ _ _ _⟩
  refine one_sl 5 104 FldR W B g exF _ _ (by decide) hg h1 rfl ?_
  exact ⟨rfl, by decide, nil_sl _ _ _ _ _, ⟨rfl, by decide, nil_sl _ _ _ _ _⟩, nil_sl _ _ _ _ _⟩
theorem ex_fit : ∀ x ∈ [exD], defFit x := by
  intro x hx
  obtain rfl : x = exD := by simpa using hx
  refine ⟨by decide, ?_, ?_, ?_, ?_⟩
  · intro d hd; cases hd
  · intro y hy
    obtain rfl : y = exF := by simpa [exD] using hy
    refine ⟨⟨by decide, by decide⟩, ?_, ?_⟩
    · intro y hy; cases hy
    · intro y hy; cases hy
  · intro y hy; cases hy
  · intro y hy; cases hy
theorem LaidB.mono {B B' : Nat} {w : World} (h : LaidB B w) (hb : B ≤ B') : LaidB B' w := fun w' h' => h w' (h'.mono hb)
theorem ex_txt : docTxt [exD] = [116, 121, 112, 101, 32, 84, 32, 123, 10, 32, 32, 120, 58, 32, 73, 110, 116, 10, 125, 10] := by decide
theorem ex_val : (VT.mk 3 0 ⟨#[97]⟩ [] []).src = [34, 97, 34] := by decide
theorem ex_vfit : (VT.mk 3 0 ⟨#[97]⟩ [] []).fit := by
  rw [VT.fit]
  exact ⟨by decide, fun h => absurd h (by decide), fun h => absurd h (by decide), fun h => absurd h (by decide), by decide, trivial⟩
set_option maxRecDepth 100000 in
set_option maxHeartbeats 4000000 in
theorem example_any (w : World) (hL : LaidB w.heap.size w) : Calls Tryz.prog 7 #[] w fun e w' => e = .returned (.bool true) ∧ Below w.heap.size w w' := by
  have z1 : (w.alloc (.cells #[.string ⟨#[120]⟩, .slice none 0 0, .string ⟨#[73, 110, 116]⟩, .slice none 0 0, .slice none 0 0] 40 (0, 0))).heap.size = w.heap.size + 1 := by simp
  have z2 : ((w.alloc (.cells #[.string ⟨#[120]⟩, .slice none 0 0, .string ⟨#[73, 110, 116]⟩, .slice none 0 0, .slice none 0 0] 40 (0, 0))).alloc (.cells #[.int .i64 1, .string ⟨#[84]⟩, .slice none 0 0, .slice none 0 0, .slice (some ⟨w.heap.size, 0, none⟩) 1 1, .slice none 0 0, .slice none 0 0] 35 (0, 0))).heap.size = w.heap.size + 2 := by simp
  have z3 : (((w.alloc (.cells #[.string ⟨#[120]⟩, .slice none 0 0, .string ⟨#[73, 110, 116]⟩, .slice none 0 0, .slice none 0 0] 40 (0, 0))).alloc (.cells #[.int .i64 1, .string ⟨#[84]⟩, .slice none 0 0, .slice none 0 0, .slice (some ⟨w.heap.size, 0, none⟩) 1 1, .slice none 0 0, .slice none 0 0] 35 (0, 0))).alloc (.cells #[.slice (some ⟨w.heap.size + 1, 0, none⟩) 1 1] 24 (0, 0))).heap.size = w.heap.size + 3 := by simp
  have b1 : Below w.heap.size w (w.alloc (.cells #[.string ⟨#[120]⟩, .slice none 0 0, .string ⟨#[73, 110, 116]⟩, .slice none 0 0, .slice none 0 0] 40 (0, 0))) := below_new _ _
  have b2 : Below w.heap.size w ((w.alloc (.cells #[.string ⟨#[120]⟩, .slice none 0 0, .string ⟨#[73, 110, 116]⟩, .slice none 0 0, .slice none 0 0] 40 (0, 0))).alloc (.cells #[.int .i64 1, .string ⟨#[84]⟩, .slice none 0 0, .slice none 0 0, .slice (some ⟨w.heap.size, 0, none⟩) 1 1, .slice none 0 0, .slice none 0 0] 35 (0, 0))) := b1.alloc (by omega) _
  have b3 : Below w.heap.size w (((w.alloc (.cells #[.string ⟨#[120]⟩, .slice none 0 0, .string ⟨#[73, 110, 116]⟩, .slice none 0 0, .slice none 0 0] 40 (0, 0))).alloc (.cells #[.int .i64 1, .string ⟨#[84]⟩, .slice none 0 0, .slice none 0 0, .slice (some ⟨w.heap.size, 0, none⟩) 1 1, .slice none 0 0, .slice none 0 0] 35 (0, 0))).alloc (.cells #[.slice (some ⟨w.heap.size + 1, 0, none⟩) 1 1] 24 (0, 0))) := b2.alloc (by omega) _
  have h1 : Bk (((w.alloc (.cells #[.string ⟨#[120]⟩, .slice none 0 0, .string ⟨#[73, 110, 116]⟩, .slice none 0 0, .slice none 0 0] 40 (0, 0))).alloc (.cells #[.int .i64 1, .string ⟨#[84]⟩, .slice none 0 0, .slice none 0 0, .slice (some ⟨w.heap.size, 0, none⟩) 1 1, .slice none 0 0, .slice none 0 0] 35 (0, 0))).alloc (.cells #[.slice (some ⟨w.heap.size + 1, 0, none⟩) 1 1] 24 (0, 0))) w.heap.size #[.string ⟨#[120]⟩, .slice none 0 0, .string ⟨#[73, 110, 116]⟩, .slice none 0 0, .slice none 0 0] 40 := ((Bk.new w #[.string ⟨#[120]⟩, .slice none 0 0, .string ⟨#[73, 110, 116]⟩, .slice none 0 0, .slice none 0 0] 40).stay (below_new _ _)).stay (below_new _ _)
  have h2 : Bk (((w.alloc (.cells #[.string ⟨#[120]⟩, .slice none 0 0, .string ⟨#[73, 110, 116]⟩, .slice none 0 0, .slice none 0 0] 40 (0, 0))).alloc (.cells #[.int .i64 1, .string ⟨#[84]⟩, .slice none 0 0, .slice none 0 0, .slice (some ⟨w.heap.size, 0, none⟩) 1 1, .slice none 0 0, .slice none 0 0] 35 (0, 0))).alloc (.cells #[.slice (some ⟨w.heap.size + 1, 0, none⟩) 1 1] 24 (0, 0))) (w.heap.size + 1) #[.int .i64 1, .string ⟨#[84]⟩, .slice none 0 0, .slice none 0 0, .slice (some ⟨w.heap.size, 0, none⟩) 1 1, .slice none 0 0, .slice none 0 0] 35 := by
    have h := (Bk.new (w.alloc (.cells #[.string ⟨#[120]⟩, .slice none 0 0, .string ⟨#[73, 110, 116]⟩, .slice none 0 0, .slice none 0 0] 40 (0, 0))) #[.int .i64 1, .string ⟨#[84]⟩, .slice none 0 0, .slice none 0 0, .slice (some ⟨w.heap.size, 0, none⟩) 1 1, .slice none 0 0, .slice none 0 0] 35).stay (below_new _ (.cells #[.slice (some ⟨w.heap.size + 1, 0, none⟩) 1 1] 24 (0, 0)))
    rwa [z1] at h
  have h3 : Bk (((w.alloc (.cells #[.string ⟨#[120]⟩, .slice none 0 0, .string ⟨#[73, 110, 116]⟩, .slice none 0 0, .slice none 0 0] 40 (0, 0))).alloc (.cells #[.int .i64 1, .string ⟨#[84]⟩, .slice none 0 0, .slice none 0 0, .slice (some ⟨w.heap.size, 0, none⟩) 1 1, .slice none 0 0, .slice none 0 0] 35 (0, 0))).alloc (.cells #[.slice (some ⟨w.heap.size + 1, 0, none⟩) 1 1] 24 (0, 0))) (w.heap.size + 1 + 1) #[.slice (some ⟨w.heap.size + 1, 0, none⟩) 1 1] 24 := by
    have h := Bk.new ((w.alloc (.cells #[.string ⟨#[120]⟩, .slice none 0 0, .string ⟨#[73, 110, 116]⟩, .slice none 0 0, .slice none 0 0] 40 (0, 0))).alloc (.cells #[.int .i64 1, .string ⟨#[84]⟩, .slice none 0 0, .slice none 0 0, .slice (some ⟨w.heap.size, 0, none⟩) 1 1, .slice none 0 0, .slice none 0 0] 35 (0, 0))) #[.slice (some ⟨w.heap.size + 1, 0, none⟩) 1 1] 24
    rwa [z2] at h
  have CP := print_any [exD] ex_fit (.slice (some ⟨w.heap.size + 1, 0, none⟩) 1 1) (((w.alloc (.cells #[.string ⟨#[120]⟩, .slice none 0 0, .string ⟨#[73, 110, 116]⟩, .slice none 0 0, .slice none 0 0] 40 (0, 0))).alloc (.cells #[.int .i64 1, .string ⟨#[84]⟩, .slice none 0 0, .slice none 0 0, .slice (some ⟨w.heap.size, 0, none⟩) 1 1, .slice none 0 0, .slice none 0 0] 35 (0, 0))).alloc (.cells #[.slice (some ⟨w.heap.size + 1, 0, none⟩) 1 1] 24 (0, 0))) (ex_defs _ _ _ _ (by omega) (by omega) h1 h2) ((hL.kept b3).mono (by omega)) (by rw [ex_txt]; decide) (by rw [ex_txt]; decide)
  rw [ex_txt] at CP
  have CALLP := Lib.hid CP
  have H1 := Lib.hid h1
  have H2 := Lib.hid h2
  have H3 := Lib.hid h3
  have HB3 := Lib.hid b3
  have HL := Lib.hid hL
  have y0 := h3.cell 0 _ rfl
  clear hL CP z1 z2 b1 b2 b3 h1 h2 h3
  go_enter Tryz.func7, Tryz.ntmps7
  go_wp2_with fail
  refine CALLP.out.mono ?_
  rintro e w4 ⟨rfl, hb⟩
  have HW4 := Lib.hid (HB3.out.trans (hb.mono HB3.out.size))
  have H14 := Lib.hid (H1.out.stay hb)
  have H24 := Lib.hid (H2.out.stay hb)
  have h34 := H3.out.stay hb
  clear hb CALLP y0 z3 H1 H2 H3 HB3
  have y0 := h34.cell 0 _ rfl
  clear h34
  go_wp2_with fail
  refine (same_ex w.heap.size (w.heap.size + 1) w4 H14.out H24.out).mono ?_
  rintro e w5 ⟨rfl, hb⟩
  have HW5 := Lib.hid (HW4.out.trans (hb.mono HW4.out.size))
  clear hb y0
  go_wp2_with fail
  refine (rtext_any ⟨#[97]⟩ w5).mono ?_
  rintro e w6 ⟨rfl, hb⟩
  have HW6 := Lib.hid (HW5.out.trans (hb.mono HW5.out.size))
  clear hb
  have CV := valueText_any (.mk 3 0 ⟨#[97]⟩ [] []) ex_vfit (.agg #[.int .i64 3, .int .i64 0, .string ⟨#[97]⟩, .slice none 0 0, .slice none 0 0]) w6 (Rd.leaf ⟨by decide, by decide⟩ ⟨by decide, by decide⟩ (by decide)) ((HL.out.kept HW6.out).mono HW6.out.size) (by rw [ex_val]; decide) (by rw [ex_val]; decide)
  rw [ex_val] at CV
  have CALLV := Lib.hid CV
  clear CV
  go_wp2_with fail
  refine CALLV.out.mono ?_
  rintro e w7 ⟨rfl, hb⟩
  have HW7 := Lib.hid (HW6.out.trans (hb.mono HW6.out.size))
  clear hb CALLV
  go_wp2_with fail
  go_ret
  exact ⟨rfl, HW7.out⟩
end Go.Proofs.YtieklhplalgmmaaGreatDoor
namespace Go.Proofs.YtieklhplalgmmaaGreatDoor
open Go.RowKit
set_option maxHeartbeats 1000000 in
theorem rtwice_any (K : Option Addr) (lk ck : Nat) (keys : List ByteArray) (w : World) (B : Nat) (hlk : keys.length = lk) (hbk : lk * 16 ≤ 140737488351232) (hK : KeysAt w B K keys) (hB : B ≤ w.heap.size) :
    Calls Tryz.prog 121 #[.slice K lk ck] w fun e w' => e = .returned (.bool (!decide keys.Nodup)) ∧ Below w.heap.size w w' := by
  have HL := Lib.hid hlk
  have HK : Hid (0 < lk → ∃ a, K = some a ∧ ∀ W, Below w.heap.size w W → ∀ i s, keys[i]? = some s → W.cell? (a.add i) = some (.string s)) := Lib.hid (fun h0 => by
    obtain ⟨a, e, hab, hc⟩ := hK (by omega)
    exact ⟨a, e, fun W hb i s hi => (hb.cell (p := a.add i) (by rw [add_block]; omega)).trans (hc i s hi)⟩)
  have hlm : (lk : Int) ≤ 140737488351232 := by omega
  clear hlk hK
  go_enter Tryz.func121, Tryz.ntmps121
  go_wp2_with fail
  go_loopw [3] (fun i wr => ∃ j : Nat, j ≤ lk ∧ i = .int .i64 j ∧ (keys.take j).Nodup ∧ Below w.heap.size w wr) (fun i _ => lk - (intOf i).toNat)
  case atStart => exact ⟨0, Nat.zero_le _, rfl, List.nodup_nil, Below.refl _ _⟩
  case round =>
    obtain ⟨j, hj, rfl, hnd, hb⟩ := hrel
    have HND := Lib.hid hnd
    have HB := Lib.hid hb
    clear hnd hb
    by_cases hlt : j < lk
    · obtain ⟨a, rfl, hc⟩ := HK.out (by omega)
      have hjl : j < keys.length := by have := HL.out; omega
      have HC := Lib.hid hc
      have HSN := Lib.hid (nodup_snoc hjl)
      have HJ : Hid (∀ W, Below w.heap.size w W → W.cell? (a.add j) = some (.string keys[j])) := Lib.hid fun W hb => hc W hb j _ (List.getElem?_eq_getElem hjl)
      clear hc
      generalize hs : keys[j] = s at *
      clear hs
      go_wp2_with fail
      go_loopw [4] (fun k wr => ∃ m : Nat, m ≤ j ∧ k = .int .i64 m ∧ s ∉ keys.take m ∧ Below w.heap.size w wr) (fun k _ => j - (intOf k).toNat)
      case atStart => exact ⟨0, Nat.zero_le _, rfl, by simp, HB.out⟩
      case round =>
        obtain ⟨m, hm, rfl, hni, hb2⟩ := hrel
        have HNI := Lib.hid hni
        have HB2 := Lib.hid hb2
        clear hni hb2
        by_cases hmj : m < j
        · have hml : m < keys.length := by omega
          have HM : Hid (∀ W, Below w.heap.size w W → W.cell? (a.add m) = some (.string keys[m])) := Lib.hid fun W hb => HC.out W hb m _ (List.getElem?_eq_getElem hml)
          have HTK : Hid (keys.take (m + 1) = keys.take m ++ [keys[m]]) := Lib.hid (List.take_succ_eq_append_getElem hml)
          have HME : Hid (keys[m] ∈ keys.take j) := Lib.hid (List.mem_take_iff_getElem.2 ⟨m, by omega, rfl⟩)
          generalize keys[m] = u at *
          go_wp2_with fail
          refine wp_region_past (fun W => Below w.heap.size w W) HB2.out (by kernel_rfl) ?_
          intro W hbW _
          have hcj : ∀ x : Past W, x.w.cell? (a.add j) = some (.string s) := fun x => HJ.out x.w (hbW.trans (x.b.mono hbW.size))
          have hcm : ∀ x : Past W, x.w.cell? (a.add m) = some (.string u) := fun x => HM.out x.w (hbW.trans (x.b.mono hbW.size))
          have HW := Lib.hid hbW
          clear hbW
          repeat (go_big_quiet_step (fail))
          refine wpQuiet_nil ?_
          intro _ hw'
          obtain ⟨x, rfl⟩ := hw'
          have HX := Lib.hid (HW.out.trans (x.b.mono HW.out.size))
          by_cases he : s = u
          · have heq : (s.toList == u.toList) = true := by rw [he]; simp
            rw [heq]
            subst he
            clear heq
            have HNO : Hid (decide keys.Nodup = false) := Lib.hid (by
              simp only [decide_eq_false_iff_not]
              intro h
              exact (HSN.out.1 (nodup_take h)).2 HME.out)
            go_wp2_with fail
            go_ret
            exact ⟨by rw [HNO.out]; rfl, HX.out⟩
          · have hne : (s.toList == u.toList) = false := by
              rw [Lib.toList_data, Lib.toList_data, beq_eq_false_iff_ne]
              intro h
              exact he (by cases s; cases u; simp only [ByteArray.mk.injEq]; exact Array.toList_inj.1 h)
            have HNI2 : Hid (s ∉ keys.take (m + 1)) := Lib.hid (by
              rw [HTK.out, List.mem_append]
              rintro (h | h)
              · exact HNI.out h
              · exact he (by simpa using h))
            clear he
            rw [hne]
            go_wp2_with fail
            go_roundw
            case rel => exact ⟨m + 1, by omega, by go_num, HNI2.out, HX.out⟩
            case measure => simp [intOf]; omega
        · have hmj' : m = j := by omega
          subst hmj'
          go_wp2_with fail
          trace_state
          go_roundw
          case rel => exact ⟨m + 1, by omega, by go_num, HSN.out.2 ⟨HND.out, HNI.out⟩, HB2.out⟩
          case measure => simp [intOf]; omega
    · have HJ : Hid (decide keys.Nodup = true) := Lib.hid (by
        have := HND.out
        rw [List.take_of_length_le (by have := HL.out; omega)] at this
        simpa using this)
      go_wp2_with fail
      go_ret
      exact ⟨by rw [HJ.out]; rfl, HB.out⟩
end Go.Proofs.YtieklhplalgmmaaGreatDoor
namespace Go.Proofs.YtieklhplalgmmaaGreatDoor
open Go.RowKit
def rnodeB (lit : Bool) : VT → Bool
  | .mk k n s is ks =>
    if k = 0 then decide (n = 0) && decide (s.size = 0) && leafB is ks
    else if k = 1 then (decide (n = 0) || decide (n = 1)) && decide (s.size = 0) && leafB is ks
    else if k = 2 then decide (s.size = 0) && leafB is ks
    else if k = 3 then decide (n = 0) && leafB is ks
    else if k = 4 then decide (n = 0) && leafB is ks && enumB s
    else if k = 5 then decide (n = 0) && decide (s.size = 0) && decide (ks.length = 0)
    else if k = 6 then decide (n = 0) && decide (s.size = 0) && decide (ks.length = is.length) && decide ks.Nodup
    else if k = 7 then lit && decide (n = 0) && leafB is ks && nmA s
    else false
end Go.Proofs.YtieklhplalgmmaaGreatDoor
namespace Go.Proofs.YtieklhplalgmmaaGreatDoor
open Go.RowKit
set_option maxRecDepth 100000 in
set_option maxHeartbeats 8000000 in
theorem rnode_0 (lit : Bool) (n : Int) (s : ByteArray) (items : List VT) (keys : List ByteArray) (w : World) (B : Nat) (v : Value) (h : Rd w B v (.mk 0 n s items keys)) (hB : B ≤ w.heap.size) :
    Calls Tryz.prog 97 #[v, .bool lit] w fun e w' => e = .returned (.bool (rnodeB lit (.mk 0 n s items keys))) ∧ Below w.heap.size w w' := by
  have HRD := Lib.hid h
  cases h with
  | @mk _ _ _ A li ci K lk ck _ _ V hk hn hs hks hli hlk hbi hbk hA hr hK =>
  have b1 : Below w.heap.size w (w.alloc (.cells #[.int .i64 0, .int .i64 n, .string s, .slice A li ci, .slice K lk ck] 45 (0, 0))) := (Below.refl _ _).alloc (Nat.le_refl _) _
  have B1 := Lib.hid b1
  have HTW : Hid (Calls Tryz.prog 121 #[.slice K lk ck] (w.alloc (.cells #[.int .i64 0, .int .i64 n, .string s, .slice A li ci, .slice K lk ck] 45 (0, 0))) fun e w' => e = .returned (.bool (!decide keys.Nodup)) ∧ Below _ _ w') := Lib.hid (rtwice_any K lk ck keys _ B hlk hbk.1 (hK.kept (b1.mono hB)) (by simp; omega))
  have HNAME : Hid (Calls Tryz.prog 23 #[.string s] (w.alloc (.cells #[.int .i64 0, .int .i64 n, .string s, .slice A li ci, .slice K lk ck] 45 (0, 0))) fun e w' => e = .returned (.bool (nmA s)) ∧ _ = w') := Lib.hid (rname_any s _ (by unfold maxLen; omega))
  have hlm : (li : Int) ≤ 140737488351232 := by omega
  have hlm' : (lk : Int) ≤ 140737488351232 := by omega
  have HL := Lib.hid hli
  have HLK := Lib.hid hlk
  clear hA hr hK hks hn hs hk hli hlk b1 hbi hbk
  by_cases n0 : n = 0
  · subst n0
    by_cases s0 : s.size = 0
    · obtain ⟨s1, s2, s3⟩ := s_empty s0
      by_cases i0 : li = 0
      · have i1 : items.length = 0 := by have := HL.out; omega
        subst i0
        by_cases q0 : lk = 0
        · have q1 : keys.length = 0 := by have := HLK.out; omega
          subst q0
          have HV : Hid (rnodeB lit (.mk 0 0 s items keys) = true) := Lib.hid (by simp [rnodeB, leafB, s0, i1, q1])
          clear HRD HL HLK
          go_enter Tryz.func97, Tryz.ntmps97
          go_wp2_with fail
          go_ret
          exact ⟨by rw [HV.out]; rfl, B1.out⟩
        · have q1 : ¬ keys.length = 0 := by have := HLK.out; omega
          have q2 : ((lk : Int) == 0) = false := beq_eq_false_iff_ne.2 (by omega)
          clear q0
          have HV : Hid (rnodeB lit (.mk 0 0 s items keys) = false) := Lib.hid (by simp [rnodeB, leafB, s0, i1, q1])
          clear HRD HL HLK
          go_enter Tryz.func97, Tryz.ntmps97
          go_wp2_with fail
          go_ret
          exact ⟨by rw [HV.out]; rfl, B1.out⟩
      · have i1 : ¬ items.length = 0 := by have := HL.out; omega
        have i2 : ((li : Int) == 0) = false := beq_eq_false_iff_ne.2 (by omega)
        clear i0
        have HV : Hid (rnodeB lit (.mk 0 0 s items keys) = false) := Lib.hid (by simp [rnodeB, leafB, s0, i1])
        clear HRD HL HLK
        go_enter Tryz.func97, Tryz.ntmps97
        go_wp2_with fail
        go_ret
        exact ⟨by rw [HV.out]; rfl, B1.out⟩
    · obtain ⟨s1, s2, s3⟩ := s_full s0
      have HV : Hid (rnodeB lit (.mk 0 0 s items keys) = false) := Lib.hid (by simp [rnodeB, leafB, s0])
      clear HRD HL HLK
      go_enter Tryz.func97, Tryz.ntmps97
      go_wp2_with fail
      go_ret
      exact ⟨by rw [HV.out]; rfl, B1.out⟩
  · have n0' : (n == 0) = false := beq_eq_false_iff_ne.2 n0
    have HV : Hid (rnodeB lit (.mk 0 n s items keys) = false) := Lib.hid (by simp [rnodeB, leafB, n0])
    clear HRD HL HLK
    go_enter Tryz.func97, Tryz.ntmps97
    go_wp2_with fail
    go_ret
    exact ⟨by rw [HV.out]; rfl, B1.out⟩
set_option maxRecDepth 100000 in
set_option maxHeartbeats 8000000 in
theorem rnode_1 (lit : Bool) (n : Int) (s : ByteArray) (items : List VT) (keys : List ByteArray) (w : World) (B : Nat) (v : Value) (h : Rd w B v (.mk 1 n s items keys)) (hB : B ≤ w.heap.size) :
    Calls Tryz.prog 97 #[v, .bool lit] w fun e w' => e = .returned (.bool (rnodeB lit (.mk 1 n s items keys))) ∧ Below w.heap.size w w' := by
  have HRD := Lib.hid h
  cases h with
  | @mk _ _ _ A li ci K lk ck _ _ V hk hn hs hks hli hlk hbi hbk hA hr hK =>
  have b1 : Below w.heap.size w (w.alloc (.cells #[.int .i64 1, .int .i64 n, .string s, .slice A li ci, .slice K lk ck] 45 (0, 0))) := (Below.refl _ _).alloc (Nat.le_refl _) _
  have B1 := Lib.hid b1
  have HTW : Hid (Calls Tryz.prog 121 #[.slice K lk ck] (w.alloc (.cells #[.int .i64 1, .int .i64 n, .string s, .slice A li ci, .slice K lk ck] 45 (0, 0))) fun e w' => e = .returned (.bool (!decide keys.Nodup)) ∧ Below _ _ w') := Lib.hid (rtwice_any K lk ck keys _ B hlk hbk.1 (hK.kept (b1.mono hB)) (by simp; omega))
  have HNAME : Hid (Calls Tryz.prog 23 #[.string s] (w.alloc (.cells #[.int .i64 1, .int .i64 n, .string s, .slice A li ci, .slice K lk ck] 45 (0, 0))) fun e w' => e = .returned (.bool (nmA s)) ∧ _ = w') := Lib.hid (rname_any s _ (by unfold maxLen; omega))
  have hlm : (li : Int) ≤ 140737488351232 := by omega
  have hlm' : (lk : Int) ≤ 140737488351232 := by omega
  have HL := Lib.hid hli
  have HLK := Lib.hid hlk
  clear hA hr hK hks hn hs hk hli hlk b1 hbi hbk
  by_cases n0 : n = 0
  · subst n0
    by_cases s0 : s.size = 0
    · obtain ⟨s1, s2, s3⟩ := s_empty s0
      by_cases i0 : li = 0
      · have i1 : items.length = 0 := by have := HL.out; omega
        subst i0
        by_cases q0 : lk = 0
        · have q1 : keys.length = 0 := by have := HLK.out; omega
          subst q0
          have HV : Hid (rnodeB lit (.mk 1 0 s items keys) = true) := Lib.hid (by simp [rnodeB, leafB, s0, i1, q1])
          clear HRD HL HLK
          go_enter Tryz.func97, Tryz.ntmps97
          go_wp2_with fail
          go_ret
          exact ⟨by rw [HV.out]; rfl, B1.out⟩
        · have q1 : ¬ keys.length = 0 := by have := HLK.out; omega
          have q2 : ((lk : Int) == 0) = false := beq_eq_false_iff_ne.2 (by omega)
          clear q0
          have HV : Hid (rnodeB lit (.mk 1 0 s items keys) = false) := Lib.hid (by simp [rnodeB, leafB, s0, i1, q1])
          clear HRD HL HLK
          go_enter Tryz.func97, Tryz.ntmps97
          go_wp2_with fail
          go_ret
          exact ⟨by rw [HV.out]; rfl, B1.out⟩
      · have i1 : ¬ items.length = 0 := by have := HL.out; omega
        have i2 : ((li : Int) == 0) = false := beq_eq_false_iff_ne.2 (by omega)
        clear i0
        have HV : Hid (rnodeB lit (.mk 1 0 s items keys) = false) := Lib.hid (by simp [rnodeB, leafB, s0, i1])
        clear HRD HL HLK
        go_enter Tryz.func97, Tryz.ntmps97
        go_wp2_with fail
        go_ret
        exact ⟨by rw [HV.out]; rfl, B1.out⟩
    · obtain ⟨s1, s2, s3⟩ := s_full s0
      have HV : Hid (rnodeB lit (.mk 1 0 s items keys) = false) := Lib.hid (by simp [rnodeB, leafB, s0])
      clear HRD HL HLK
      go_enter Tryz.func97, Tryz.ntmps97
      go_wp2_with fail
      go_ret
      exact ⟨by rw [HV.out]; rfl, B1.out⟩
  · have n0' : (n == 0) = false := beq_eq_false_iff_ne.2 n0
    by_cases n1 : n = 1
    · subst n1
      by_cases s0 : s.size = 0
      · obtain ⟨s1, s2, s3⟩ := s_empty s0
        by_cases i0 : li = 0
        · have i1 : items.length = 0 := by have := HL.out; omega
          subst i0
          by_cases q0 : lk = 0
          · have q1 : keys.length = 0 := by have := HLK.out; omega
            subst q0
            have HV : Hid (rnodeB lit (.mk 1 1 s items keys) = true) := Lib.hid (by simp [rnodeB, leafB, s0, i1, q1])
            clear HRD HL HLK
            go_enter Tryz.func97, Tryz.ntmps97
            go_wp2_with fail
            go_ret
            exact ⟨by rw [HV.out]; rfl, B1.out⟩
          · have q1 : ¬ keys.length = 0 := by have := HLK.out; omega
            have q2 : ((lk : Int) == 0) = false := beq_eq_false_iff_ne.2 (by omega)
            clear q0
            have HV : Hid (rnodeB lit (.mk 1 1 s items keys) = false) := Lib.hid (by simp [rnodeB, leafB, s0, i1, q1])
            clear HRD HL HLK
            go_enter Tryz.func97, Tryz.ntmps97
            go_wp2_with fail
            go_ret
            exact ⟨by rw [HV.out]; rfl, B1.out⟩
        · have i1 : ¬ items.length = 0 := by have := HL.out; omega
          have i2 : ((li : Int) == 0) = false := beq_eq_false_iff_ne.2 (by omega)
          clear i0
          have HV : Hid (rnodeB lit (.mk 1 1 s items keys) = false) := Lib.hid (by simp [rnodeB, leafB, s0, i1])
          clear HRD HL HLK
          go_enter Tryz.func97, Tryz.ntmps97
          go_wp2_with fail
          go_ret
          exact ⟨by rw [HV.out]; rfl, B1.out⟩
      · obtain ⟨s1, s2, s3⟩ := s_full s0
        have HV : Hid (rnodeB lit (.mk 1 1 s items keys) = false) := Lib.hid (by simp [rnodeB, leafB, s0])
        clear HRD HL HLK
        go_enter Tryz.func97, Tryz.ntmps97
        go_wp2_with fail
        go_ret
        exact ⟨by rw [HV.out]; rfl, B1.out⟩
    · have n1' : (n == 1) = false := beq_eq_false_iff_ne.2 n1
      have HV : Hid (rnodeB lit (.mk 1 n s items keys) = false) := Lib.hid (by simp [rnodeB, leafB, n0, n1])
      clear HRD HL HLK
      go_enter Tryz.func97, Tryz.ntmps97
      go_wp2_with fail
      go_ret
      exact ⟨by rw [HV.out]; rfl, B1.out⟩
set_option maxRecDepth 100000 in
set_option maxHeartbeats 8000000 in
theorem rnode_2 (lit : Bool) (n : Int) (s : ByteArray) (items : List VT) (keys : List ByteArray) (w : World) (B : Nat) (v : Value) (h : Rd w B v (.mk 2 n s items keys)) (hB : B ≤ w.heap.size) :
    Calls Tryz.prog 97 #[v, .bool lit] w fun e w' => e = .returned (.bool (rnodeB lit (.mk 2 n s items keys))) ∧ Below w.heap.size w w' := by
  have HRD := Lib.hid h
  cases h with
  | @mk _ _ _ A li ci K lk ck _ _ V hk hn hs hks hli hlk hbi hbk hA hr hK =>
  have b1 : Below w.heap.size w (w.alloc (.cells #[.int .i64 2, .int .i64 n, .string s, .slice A li ci, .slice K lk ck] 45 (0, 0))) := (Below.refl _ _).alloc (Nat.le_refl _) _
  have B1 := Lib.hid b1
  have HTW : Hid (Calls Tryz.prog 121 #[.slice K lk ck] (w.alloc (.cells #[.int .i64 2, .int .i64 n, .string s, .slice A li ci, .slice K lk ck] 45 (0, 0))) fun e w' => e = .returned (.bool (!decide keys.Nodup)) ∧ Below _ _ w') := Lib.hid (rtwice_any K lk ck keys _ B hlk hbk.1 (hK.kept (b1.mono hB)) (by simp; omega))
  have HNAME : Hid (Calls Tryz.prog 23 #[.string s] (w.alloc (.cells #[.int .i64 2, .int .i64 n, .string s, .slice A li ci, .slice K lk ck] 45 (0, 0))) fun e w' => e = .returned (.bool (nmA s)) ∧ _ = w') := Lib.hid (rname_any s _ (by unfold maxLen; omega))
  have hlm : (li : Int) ≤ 140737488351232 := by omega
  have hlm' : (lk : Int) ≤ 140737488351232 := by omega
  have HL := Lib.hid hli
  have HLK := Lib.hid hlk
  clear hA hr hK hks hn hs hk hli hlk b1 hbi hbk
  by_cases s0 : s.size = 0
  · obtain ⟨s1, s2, s3⟩ := s_empty s0
    by_cases i0 : li = 0
    · have i1 : items.length = 0 := by have := HL.out; omega
      subst i0
      by_cases q0 : lk = 0
      · have q1 : keys.length = 0 := by have := HLK.out; omega
        subst q0
        have HV : Hid (rnodeB lit (.mk 2 n s items keys) = true) := Lib.hid (by simp [rnodeB, leafB, s0, i1, q1])
        clear HRD HL HLK
        go_enter Tryz.func97, Tryz.ntmps97
        go_wp2_with fail
        go_ret
        exact ⟨by rw [HV.out]; rfl, B1.out⟩
      · have q1 : ¬ keys.length = 0 := by have := HLK.out; omega
        have q2 : ((lk : Int) == 0) = false := beq_eq_false_iff_ne.2 (by omega)
        clear q0
        have HV : Hid (rnodeB lit (.mk 2 n s items keys) = false) := Lib.hid (by simp [rnodeB, leafB, s0, i1, q1])
        clear HRD HL HLK
        go_enter Tryz.func97, Tryz.ntmps97
        go_wp2_with fail
        go_ret
        exact ⟨by rw [HV.out]; rfl, B1.out⟩
    · have i1 : ¬ items.length = 0 := by have := HL.out; omega
      have i2 : ((li : Int) == 0) = false := beq_eq_false_iff_ne.2 (by omega)
      clear i0
      have HV : Hid (rnodeB lit (.mk 2 n s items keys) = false) := Lib.hid (by simp [rnodeB, leafB, s0, i1])
      clear HRD HL HLK
      go_enter Tryz.func97, Tryz.ntmps97
      go_wp2_with fail
      go_ret
      exact ⟨by rw [HV.out]; rfl, B1.out⟩
  · obtain ⟨s1, s2, s3⟩ := s_full s0
    have HV : Hid (rnodeB lit (.mk 2 n s items keys) = false) := Lib.hid (by simp [rnodeB, leafB, s0])
    clear HRD HL HLK
    go_enter Tryz.func97, Tryz.ntmps97
    go_wp2_with fail
    go_ret
    exact ⟨by rw [HV.out]; rfl, B1.out⟩
end Go.Proofs.YtieklhplalgmmaaGreatDoor
namespace Go.Proofs.YtieklhplalgmmaaGreatDoor
open Go.RowKit
set_option maxRecDepth 100000 in
set_option maxHeartbeats 8000000 in
theorem rnode_3 (lit : Bool) (n : Int) (s : ByteArray) (items : List VT) (keys : List ByteArray) (w : World) (B : Nat) (v : Value) (h : Rd w B v (.mk 3 n s items keys)) (hB : B ≤ w.heap.size) :
    Calls Tryz.prog 97 #[v, .bool lit] w fun e w' => e = .returned (.bool (rnodeB lit (.mk 3 n s items keys))) ∧ Below w.heap.size w w' := by
  have HRD := Lib.hid h
  cases h with
  | @mk _ _ _ A li ci K lk ck _ _ V hk hn hs hks hli hlk hbi hbk hA hr hK =>
  have b1 : Below w.heap.size w (w.alloc (.cells #[.int .i64 3, .int .i64 n, .string s, .slice A li ci, .slice K lk ck] 45 (0, 0))) := (Below.refl _ _).alloc (Nat.le_refl _) _
  have B1 := Lib.hid b1
  have HTW : Hid (Calls Tryz.prog 121 #[.slice K lk ck] (w.alloc (.cells #[.int .i64 3, .int .i64 n, .string s, .slice A li ci, .slice K lk ck] 45 (0, 0))) fun e w' => e = .returned (.bool (!decide keys.Nodup)) ∧ Below _ _ w') := Lib.hid (rtwice_any K lk ck keys _ B hlk hbk.1 (hK.kept (b1.mono hB)) (by simp; omega))
  have HNAME : Hid (Calls Tryz.prog 23 #[.string s] (w.alloc (.cells #[.int .i64 3, .int .i64 n, .string s, .slice A li ci, .slice K lk ck] 45 (0, 0))) fun e w' => e = .returned (.bool (nmA s)) ∧ _ = w') := Lib.hid (rname_any s _ (by unfold maxLen; omega))
  have hlm : (li : Int) ≤ 140737488351232 := by omega
  have hlm' : (lk : Int) ≤ 140737488351232 := by omega
  have HL := Lib.hid hli
  have HLK := Lib.hid hlk
  clear hA hr hK hks hn hs hk hli hlk b1 hbi hbk
  by_cases n0 : n = 0
  · subst n0
    by_cases i0 : li = 0
    · have i1 : items.length = 0 := by have := HL.out; omega
      subst i0
      by_cases q0 : lk = 0
      · have q1 : keys.length = 0 := by have := HLK.out; omega
        subst q0
        have HV : Hid (rnodeB lit (.mk 3 0 s items keys) = true) := Lib.hid (by simp [rnodeB, leafB, i1, q1])
        clear HRD HL HLK
        go_enter Tryz.func97, Tryz.ntmps97
        go_wp2_with fail
        go_ret
        exact ⟨by rw [HV.out]; rfl, B1.out⟩
      · have q1 : ¬ keys.length = 0 := by have := HLK.out; omega
        have q2 : ((lk : Int) == 0) = false := beq_eq_false_iff_ne.2 (by omega)
        clear q0
        have HV : Hid (rnodeB lit (.mk 3 0 s items keys) = false) := Lib.hid (by simp [rnodeB, leafB, i1, q1])
        clear HRD HL HLK
        go_enter Tryz.func97, Tryz.ntmps97
        go_wp2_with fail
        go_ret
        exact ⟨by rw [HV.out]; rfl, B1.out⟩
    · have i1 : ¬ items.length = 0 := by have := HL.out; omega
      have i2 : ((li : Int) == 0) = false := beq_eq_false_iff_ne.2 (by omega)
      clear i0
      have HV : Hid (rnodeB lit (.mk 3 0 s items keys) = false) := Lib.hid (by simp [rnodeB, leafB, i1])
      clear HRD HL HLK
      go_enter Tryz.func97, Tryz.ntmps97
      go_wp2_with fail
      go_ret
      exact ⟨by rw [HV.out]; rfl, B1.out⟩
  · have n0' : (n == 0) = false := beq_eq_false_iff_ne.2 n0
    have HV : Hid (rnodeB lit (.mk 3 n s items keys) = false) := Lib.hid (by simp [rnodeB, leafB, n0])
    clear HRD HL HLK
    go_enter Tryz.func97, Tryz.ntmps97
    go_wp2_with fail
    go_ret
    exact ⟨by rw [HV.out]; rfl, B1.out⟩
set_option maxRecDepth 100000 in
set_option maxHeartbeats 8000000 in
theorem rnode_5 (lit : Bool) (n : Int) (s : ByteArray) (items : List VT) (keys : List ByteArray) (w : World) (B : Nat) (v : Value) (h : Rd w B v (.mk 5 n s items keys)) (hB : B ≤ w.heap.size) :
    Calls Tryz.prog 97 #[v, .bool lit] w fun e w' => e = .returned (.bool (rnodeB lit (.mk 5 n s items keys))) ∧ Below w.heap.size w w' := by
  have HRD := Lib.hid h
  cases h with
  | @mk _ _ _ A li ci K lk ck _ _ V hk hn hs hks hli hlk hbi hbk hA hr hK =>
  have b1 : Below w.heap.size w (w.alloc (.cells #[.int .i64 5, .int .i64 n, .string s, .slice A li ci, .slice K lk ck] 45 (0, 0))) := (Below.refl _ _).alloc (Nat.le_refl _) _
  have B1 := Lib.hid b1
  have HTW : Hid (Calls Tryz.prog 121 #[.slice K lk ck] (w.alloc (.cells #[.int .i64 5, .int .i64 n, .string s, .slice A li ci, .slice K lk ck] 45 (0, 0))) fun e w' => e = .returned (.bool (!decide keys.Nodup)) ∧ Below _ _ w') := Lib.hid (rtwice_any K lk ck keys _ B hlk hbk.1 (hK.kept (b1.mono hB)) (by simp; omega))
  have HNAME : Hid (Calls Tryz.prog 23 #[.string s] (w.alloc (.cells #[.int .i64 5, .int .i64 n, .string s, .slice A li ci, .slice K lk ck] 45 (0, 0))) fun e w' => e = .returned (.bool (nmA s)) ∧ _ = w') := Lib.hid (rname_any s _ (by unfold maxLen; omega))
  have hlm : (li : Int) ≤ 140737488351232 := by omega
  have hlm' : (lk : Int) ≤ 140737488351232 := by omega
  have HL := Lib.hid hli
  have HLK := Lib.hid hlk
  clear hA hr hK hks hn hs hk hli hlk b1 hbi hbk
  by_cases n0 : n = 0
  · subst n0
    by_cases s0 : s.size = 0
    · obtain ⟨s1, s2, s3⟩ := s_empty s0
      by_cases q0 : lk = 0
      · have q1 : keys.length = 0 := by have := HLK.out; omega
        subst q0
        have HV : Hid (rnodeB lit (.mk 5 0 s items keys) = true) := Lib.hid (by simp [rnodeB, s0, q1])
        clear HRD HL HLK
        go_enter Tryz.func97, Tryz.ntmps97
        go_wp2_with fail
        go_ret
        exact ⟨by rw [HV.out]; rfl, B1.out⟩
      · have q1 : ¬ keys.length = 0 := by have := HLK.out; omega
        have q2 : ((lk : Int) == 0) = false := beq_eq_false_iff_ne.2 (by omega)
        clear q0
        have HV : Hid (rnodeB lit (.mk 5 0 s items keys) = false) := Lib.hid (by simp [rnodeB, s0, q1])
        clear HRD HL HLK
        go_enter Tryz.func97, Tryz.ntmps97
        go_wp2_with fail
        go_ret
        exact ⟨by rw [HV.out]; rfl, B1.out⟩
    · obtain ⟨s1, s2, s3⟩ := s_full s0
      have HV : Hid (rnodeB lit (.mk 5 0 s items keys) = false) := Lib.hid (by simp [rnodeB, s0])
      clear HRD HL HLK
      go_enter Tryz.func97, Tryz.ntmps97
      go_wp2_with fail
      go_ret
      exact ⟨by rw [HV.out]; rfl, B1.out⟩
  · have n0' : (n == 0) = false := beq_eq_false_iff_ne.2 n0
    have HV : Hid (rnodeB lit (.mk 5 n s items keys) = false) := Lib.hid (by simp [rnodeB, n0])
    clear HRD HL HLK
    go_enter Tryz.func97, Tryz.ntmps97
    go_wp2_with fail
    go_ret
    exact ⟨by rw [HV.out]; rfl, B1.out⟩
set_option maxRecDepth 100000 in
set_option maxHeartbeats 8000000 in
theorem rnode_else (lit : Bool) (k : Int) (n : Int) (s : ByteArray) (items : List VT) (keys : List ByteArray) (w : World) (B : Nat) (v : Value) (h : Rd w B v (.mk k n s items keys)) (hB : B ≤ w.heap.size) (k0 : ¬ k = 0) (k1 : ¬ k = 1) (k2 : ¬ k = 2) (k3 : ¬ k = 3) (k4 : ¬ k = 4) (k5 : ¬ k = 5) (k6 : ¬ k = 6) (k7 : ¬ k = 7) :
    Calls Tryz.prog 97 #[v, .bool lit] w fun e w' => e = .returned (.bool (rnodeB lit (.mk k n s items keys))) ∧ Below w.heap.size w w' := by
  have HRD := Lib.hid h
  cases h with
  | @mk _ _ _ A li ci K lk ck _ _ V hk hn hs hks hli hlk hbi hbk hA hr hK =>
  have b1 : Below w.heap.size w (w.alloc (.cells #[.int .i64 k, .int .i64 n, .string s, .slice A li ci, .slice K lk ck] 45 (0, 0))) := (Below.refl _ _).alloc (Nat.le_refl _) _
  have B1 := Lib.hid b1
  have HTW : Hid (Calls Tryz.prog 121 #[.slice K lk ck] (w.alloc (.cells #[.int .i64 k, .int .i64 n, .string s, .slice A li ci, .slice K lk ck] 45 (0, 0))) fun e w' => e = .returned (.bool (!decide keys.Nodup)) ∧ Below _ _ w') := Lib.hid (rtwice_any K lk ck keys _ B hlk hbk.1 (hK.kept (b1.mono hB)) (by simp; omega))
  have HNAME : Hid (Calls Tryz.prog 23 #[.string s] (w.alloc (.cells #[.int .i64 k, .int .i64 n, .string s, .slice A li ci, .slice K lk ck] 45 (0, 0))) fun e w' => e = .returned (.bool (nmA s)) ∧ _ = w') := Lib.hid (rname_any s _ (by unfold maxLen; omega))
  have hlm : (li : Int) ≤ 140737488351232 := by omega
  have hlm' : (lk : Int) ≤ 140737488351232 := by omega
  have HL := Lib.hid hli
  have HLK := Lib.hid hlk
  clear hA hr hK hks hn hs hk hli hlk b1 hbi hbk
  have k0' : (k == 0) = false := beq_eq_false_iff_ne.2 k0
  have k1' : (k == 1) = false := beq_eq_false_iff_ne.2 k1
  have k2' : (k == 2) = false := beq_eq_false_iff_ne.2 k2
  have k3' : (k == 3) = false := beq_eq_false_iff_ne.2 k3
  have k4' : (k == 4) = false := beq_eq_false_iff_ne.2 k4
  have k5' : (k == 5) = false := beq_eq_false_iff_ne.2 k5
  have k6' : (k == 6) = false := beq_eq_false_iff_ne.2 k6
  have k7' : (k == 7) = false := beq_eq_false_iff_ne.2 k7
  have HV : Hid (rnodeB lit (.mk k n s items keys) = false) := Lib.hid (by simp [rnodeB, k0, k1, k2, k3, k4, k5, k6, k7])
  clear HRD HL HLK
  go_enter Tryz.func97, Tryz.ntmps97
  go_wp2_with fail
  go_ret
  exact ⟨by rw [HV.out]; rfl, B1.out⟩
end Go.Proofs.YtieklhplalgmmaaGreatDoor
namespace Go.Proofs.YtieklhplalgmmaaGreatDoor
open Go.RowKit
set_option maxRecDepth 100000 in
set_option maxHeartbeats 8000000 in
theorem rnode_6 (lit : Bool) (n : Int) (s : ByteArray) (items : List VT) (keys : List ByteArray) (w : World) (B : Nat) (v : Value) (h : Rd w B v (.mk 6 n s items keys)) (hB : B ≤ w.heap.size) :
    Calls Tryz.prog 97 #[v, .bool lit] w fun e w' => e = .returned (.bool (rnodeB lit (.mk 6 n s items keys))) ∧ Below w.heap.size w w' := by
  have HRD := Lib.hid h
  cases h with
  | @mk _ _ _ A li ci K lk ck _ _ V hk hn hs hks hli hlk hbi hbk hA hr hK =>
  have b1 : Below w.heap.size w (w.alloc (.cells #[.int .i64 6, .int .i64 n, .string s, .slice A li ci, .slice K lk ck] 45 (0, 0))) := (Below.refl _ _).alloc (Nat.le_refl _) _
  have B1 := Lib.hid b1
  have HTW : Hid (Calls Tryz.prog 121 #[.slice K lk ck] (w.alloc (.cells #[.int .i64 6, .int .i64 n, .string s, .slice A li ci, .slice K lk ck] 45 (0, 0))) fun e w' => e = .returned (.bool (!decide keys.Nodup)) ∧ Below _ _ w') := Lib.hid (rtwice_any K lk ck keys _ B hlk hbk.1 (hK.kept (b1.mono hB)) (by simp; omega))
  have HNAME : Hid (Calls Tryz.prog 23 #[.string s] (w.alloc (.cells #[.int .i64 6, .int .i64 n, .string s, .slice A li ci, .slice K lk ck] 45 (0, 0))) fun e w' => e = .returned (.bool (nmA s)) ∧ _ = w') := Lib.hid (rname_any s _ (by unfold maxLen; omega))
  have hlm : (li : Int) ≤ 140737488351232 := by omega
  have hlm' : (lk : Int) ≤ 140737488351232 := by omega
  have HL := Lib.hid hli
  have HLK := Lib.hid hlk
  clear hA hr hK hks hn hs hk hli hlk b1 hbi hbk
  by_cases n0 : n = 0
  · subst n0
    by_cases s0 : s.size = 0
    · obtain ⟨s1, s2, s3⟩ := s_empty s0
      by_cases e0 : lk = li
      · have e1 : keys.length = items.length := by have := HL.out; have := HLK.out; omega
        subst e0
        cases hnd : decide keys.Nodup
        · have hn2 : ¬ keys.Nodup := by simpa using hnd
          have HV : Hid (rnodeB lit (.mk 6 0 s items keys) = false) := Lib.hid (by simp [rnodeB, s0, e1, hn2])
          clear HRD HL HLK
          go_enter Tryz.func97, Tryz.ntmps97
          go_wp2_with fail
          refine HTW.out.mono ?_
          rintro e w' ⟨rfl, hb⟩
          have HB := Lib.hid (B1.out.trans (hb.mono B1.out.size))
          clear hb
          rw [hnd]
          go_wp2_with fail
          go_ret
          exact ⟨by rw [HV.out]; rfl, HB.out⟩
        · have hn2 : keys.Nodup := by simpa using hnd
          have HV : Hid (rnodeB lit (.mk 6 0 s items keys) = true) := Lib.hid (by simp [rnodeB, s0, e1, hn2])
          clear HRD HL HLK
          go_enter Tryz.func97, Tryz.ntmps97
          go_wp2_with fail
          refine HTW.out.mono ?_
          rintro e w' ⟨rfl, hb⟩
          have HB := Lib.hid (B1.out.trans (hb.mono B1.out.size))
          clear hb
          rw [hnd]
          go_wp2_with fail
          go_ret
          exact ⟨by rw [HV.out]; rfl, HB.out⟩
      · have e1 : ¬ keys.length = items.length := by have := HL.out; have := HLK.out; omega
        have e2 : ((lk : Int) == (li : Int)) = false := beq_eq_false_iff_ne.2 (by omega)
        clear e0
        have HV : Hid (rnodeB lit (.mk 6 0 s items keys) = false) := Lib.hid (by simp [rnodeB, s0, e1])
        clear HRD HL HLK
        go_enter Tryz.func97, Tryz.ntmps97
        go_wp2_with fail
        go_ret
        exact ⟨by rw [HV.out]; rfl, B1.out⟩
    · obtain ⟨s1, s2, s3⟩ := s_full s0
      have HV : Hid (rnodeB lit (.mk 6 0 s items keys) = false) := Lib.hid (by simp [rnodeB, s0])
      clear HRD HL HLK
      go_enter Tryz.func97, Tryz.ntmps97
      go_wp2_with fail
      go_ret
      exact ⟨by rw [HV.out]; rfl, B1.out⟩
  · have n0' : (n == 0) = false := beq_eq_false_iff_ne.2 n0
    have HV : Hid (rnodeB lit (.mk 6 n s items keys) = false) := Lib.hid (by simp [rnodeB, n0])
    clear HRD HL HLK
    go_enter Tryz.func97, Tryz.ntmps97
    go_wp2_with fail
    go_ret
    exact ⟨by rw [HV.out]; rfl, B1.out⟩
set_option maxRecDepth 100000 in
set_option maxHeartbeats 8000000 in
theorem rnode_7 (lit : Bool) (n : Int) (s : ByteArray) (items : List VT) (keys : List ByteArray) (w : World) (B : Nat) (v : Value) (h : Rd w B v (.mk 7 n s items keys)) (hB : B ≤ w.heap.size) :
    Calls Tryz.prog 97 #[v, .bool lit] w fun e w' => e = .returned (.bool (rnodeB lit (.mk 7 n s items keys))) ∧ Below w.heap.size w w' := by
  have HRD := Lib.hid h
  cases h with
  | @mk _ _ _ A li ci K lk ck _ _ V hk hn hs hks hli hlk hbi hbk hA hr hK =>
  have b1 : Below w.heap.size w (w.alloc (.cells #[.int .i64 7, .int .i64 n, .string s, .slice A li ci, .slice K lk ck] 45 (0, 0))) := (Below.refl _ _).alloc (Nat.le_refl _) _
  have B1 := Lib.hid b1
  have HTW : Hid (Calls Tryz.prog 121 #[.slice K lk ck] (w.alloc (.cells #[.int .i64 7, .int .i64 n, .string s, .slice A li ci, .slice K lk ck] 45 (0, 0))) fun e w' => e = .returned (.bool (!decide keys.Nodup)) ∧ Below _ _ w') := Lib.hid (rtwice_any K lk ck keys _ B hlk hbk.1 (hK.kept (b1.mono hB)) (by simp; omega))
  have HNAME : Hid (Calls Tryz.prog 23 #[.string s] (w.alloc (.cells #[.int .i64 7, .int .i64 n, .string s, .slice A li ci, .slice K lk ck] 45 (0, 0))) fun e w' => e = .returned (.bool (nmA s)) ∧ _ = w') := Lib.hid (rname_any s _ (by unfold maxLen; omega))
  have hlm : (li : Int) ≤ 140737488351232 := by omega
  have hlm' : (lk : Int) ≤ 140737488351232 := by omega
  have HL := Lib.hid hli
  have HLK := Lib.hid hlk
  clear hA hr hK hks hn hs hk hli hlk b1 hbi hbk
  cases lit
  · skip
    have HV : Hid (rnodeB false (.mk 7 n s items keys) = false) := Lib.hid (by simp [rnodeB, leafB])
    clear HRD HL HLK
    go_enter Tryz.func97, Tryz.ntmps97
    go_wp2_with fail
    go_ret
    exact ⟨by rw [HV.out]; rfl, B1.out⟩
  · skip
    by_cases n0 : n = 0
    · subst n0
      by_cases i0 : li = 0
      · have i1 : items.length = 0 := by have := HL.out; omega
        subst i0
        by_cases q0 : lk = 0
        · have q1 : keys.length = 0 := by have := HLK.out; omega
          subst q0
          cases hnm : nmA s
          · skip
            have HV : Hid (rnodeB true (.mk 7 0 s items keys) = false) := Lib.hid (by simp [rnodeB, leafB, i1, q1, hnm])
            clear HRD HL HLK
            go_enter Tryz.func97, Tryz.ntmps97
            go_wp2_with fail
            refine HNAME.out.mono ?_
            rintro e w' ⟨rfl, rfl⟩
            rw [hnm]
            go_wp2_with fail
            go_ret
            exact ⟨by rw [HV.out]; rfl, B1.out⟩
          · skip
            have HV : Hid (rnodeB true (.mk 7 0 s items keys) = true) := Lib.hid (by simp [rnodeB, leafB, i1, q1, hnm])
            clear HRD HL HLK
            go_enter Tryz.func97, Tryz.ntmps97
            go_wp2_with fail
            refine HNAME.out.mono ?_
            rintro e w' ⟨rfl, rfl⟩
            rw [hnm]
            go_wp2_with fail
            go_ret
            exact ⟨by rw [HV.out]; rfl, B1.out⟩
        · have q1 : ¬ keys.length = 0 := by have := HLK.out; omega
          have q2 : ((lk : Int) == 0) = false := beq_eq_false_iff_ne.2 (by omega)
          clear q0
          have HV : Hid (rnodeB true (.mk 7 0 s items keys) = false) := Lib.hid (by simp [rnodeB, leafB, i1, q1])
          clear HRD HL HLK
          go_enter Tryz.func97, Tryz.ntmps97
          go_wp2_with fail
          go_ret
          exact ⟨by rw [HV.out]; rfl, B1.out⟩
      · have i1 : ¬ items.length = 0 := by have := HL.out; omega
        have i2 : ((li : Int) == 0) = false := beq_eq_false_iff_ne.2 (by omega)
        clear i0
        have HV : Hid (rnodeB true (.mk 7 0 s items keys) = false) := Lib.hid (by simp [rnodeB, leafB, i1])
        clear HRD HL HLK
        go_enter Tryz.func97, Tryz.ntmps97
        go_wp2_with fail
        go_ret
        exact ⟨by rw [HV.out]; rfl, B1.out⟩
    · have n0' : (n == 0) = false := beq_eq_false_iff_ne.2 n0
      have HV : Hid (rnodeB true (.mk 7 n s items keys) = false) := Lib.hid (by simp [rnodeB, leafB, n0])
      clear HRD HL HLK
      go_enter Tryz.func97, Tryz.ntmps97
      go_wp2_with fail
      go_ret
      exact ⟨by rw [HV.out]; rfl, B1.out⟩
end Go.Proofs.YtieklhplalgmmaaGreatDoor
