
/-
  The law's copy of tokens; whether two lists are alike.
-/
import Derived.Test.YtpmahimlpajdcaaGreatDoorLaw04a
import Derived.StillTailTactics
namespace Go.Proofs.YtpmahimlpajdcaaGreatDoor
open Go.RowKit
theorem infoR : (Tryz.prog.info? 40).map (fun i => (i.zero, i.size, i.bytes)) = some (some (.agg #[.int .i64 0, .string ⟨#[]⟩, .int .i64 0]), 3, 32) := by kernel_rfl
theorem append_R {w : World} {ops : Array Oper} {rest : List Oper} {o : Oper} {a : Act} {Q : Exit → Act → World → Prop} (hgd : o.guard = none) (s x : Operand)
    (ho : o.op = .call { callee := .builtin .append, args := #[s, x], argTypes := #[28, 28] }) (base : Nat) (v : Value) (zs : List Tz) (hs : a.eval s = v) (hown : OwnZ 40 w base v zs)
    (ad : Addr) (c : Nat) (p : Tz) (hx : a.eval x = .slice (some ad) 1 c) (hnews : ∀ j u, (zC [p])[j]? = some u → w.cell? (ad.add j) = some u)
    (hlen : zs.length + 1 ≤ 1099511627776) (hbase : base ≤ w.heap.size)
    (h : ∀ v' w', OwnZ 40 w' base v' (zs ++ [p]) → w.grownBy w' v.ownBlock → wpList Tryz.prog ops Q rest (a.put o.dst v') w') : wpList Tryz.prog ops Q (o :: rest) a w := by
  obtain ⟨i0, hi, hz0, hz1, hz2⟩ := info_parts infoR
  refine wpList_append_own w hgd s x 28 ho base 40 i0 (.agg #[.int .i64 0, .string ⟨#[]⟩, .int .i64 0]) 3 32 Tryz.underlying28 hi hz0 hz1 hz2 rfl (by decide) v zs.length (zC zs) hs hown ad 1 c (zC [p]) hx rfl hnews ?_ (by unfold maxLen; omega) (by omega) hbase ?_
  · intro u hu
    simp [zC] at hu
    rcases hu with rfl | rfl | rfl <;> rfl
  · intro v' w' h1 h2 _
    refine h v' w' ?_ h2
    unfold OwnZ
    rw [List.length_append, zC_app]
    exact h1
set_option maxRecDepth 100000 in
set_option maxHeartbeats 4000000 in
theorem own_any (zs : List Tz) (hl : zs.length ≤ 70000) (A : Option Addr) (c : Nat) (w : World) (h : ZAt w w.heap.size A zs) :
    Calls Tryz.prog 9 #[.slice A zs.length c] w fun e w' => (∃ v, e = .returned v ∧ OwnZ 40 w' w.heap.size v zs) ∧ Below w.heap.size w w' := by
  have HA := Lib.hid h
  have HLEN : Hid ((zs.length : Int) ≤ 70000) := Lib.hid (by omega)
  clear h
  go_enter Tryz.func9, Tryz.ntmps9
  go_wp2_with fail
  go_loopw [3, 4] (fun v i wr => ∃ k : Nat, i = .int .i64 k ∧ k ≤ zs.length ∧ OwnZ 40 wr w.heap.size v (zs.take k) ∧ Below w.heap.size w wr) (fun _ i _ => zs.length - (intOf i).toNat)
  case atStart => exact ⟨0, rfl, Nat.zero_le _, OwnZ.nil _ _ _, Below.refl _ _⟩
  case round =>
    obtain ⟨k, rfl, hk, hown, hb⟩ := hrel
    have HO := Lib.hid hown
    have HB := Lib.hid hb
    clear hown
    by_cases hlt : k < zs.length
    · obtain ⟨a, kd, t, at', rfl, hp, h0, h1, h2⟩ := z_round HA.out HB.out hlt
      have hlt' : (k : Int) < zs.length := by omega
      have HT : Hid (zs.take (k + 1) = zs.take k ++ [(kd, t, at')]) := Lib.hid (by
        obtain ⟨h1, h2⟩ := List.getElem?_eq_some_iff.1 hp
        rw [← h2]; exact (List.take_append_getElem h1).symm)
      have HKK : Hid ((zs.take k).length = k) := Lib.hid (by rw [List.length_take]; omega)
      have HKL : Hid ((zs.take k).length ≤ 70000) := Lib.hid (by rw [List.length_take]; omega)
      clear hp hb
      go_wp2_with fail
      obtain ⟨i0, hi, hz0, hz1, hz2⟩ := info_parts infoR
      have HI := Lib.hid hi
      have HZ0 := Lib.hid hz0
      have HZ1 := Lib.hid hz1
      have HZ2 := Lib.hid hz2
      clear hi hz0 hz1 hz2
      go_region_law ((refine step_append_lies _ rfl (.tmp 11) (.tmp 28) 28 rfl w.heap.size 40 i0 (.agg #[.int .i64 0, .string ⟨#[]⟩, .int .i64 0]) 3 32 Tryz.underlying28 HI.out HZ0.out HZ1.out HZ2.out rfl (by decide) _ (zs.take k).length (zC (zs.take k)) rfl (World.ownsRow.drew (World.ownsRow.alloc HO.out _)) _ 1 _ (zC [(kd, t, at')]) rfl rfl (T1.cells_L _ _ _ _ rfl) (by simp [zC]; exact ⟨rfl, rfl, rfl⟩) (by decide) (by have := HKL.out; unfold maxLen; omega) (by have := HKL.out; omega) (by have := HB.out.size; simp; omega) _ rfl ?_); intro g cap w1 q1 q2 q3 q4)
      all_goals
        have HO5 : Hid (OwnZ 40 w1 w.heap.size _ (zs.take (k + 1))) := Lib.hid (by rw [HT.out]; unfold OwnZ; rw [List.length_append, zC_app]; exact q1)
        have HB5 := Lib.hid ((((HB.out.alloc HB.out.size _).drew).grown q2 (by have := HB.out.size; simp; omega) (fun g hg => (HO.out.lt g hg).1)) : Below w.heap.size w w1)
        clear q1 q2 q3 q4
        go_wp2_with fail
        go_roundw
        case rel => exact ⟨k + 1, by go_num, by omega, by have := HO5.out; rw [HKK.out] at this; exact this, HB5.out⟩
        case measure => simp [intOf]; omega
    · have hji : k = zs.length := by omega
      have hlt' : ¬ (k : Int) < zs.length := by omega
      have HT : Hid (zs.take k = zs) := Lib.hid (by rw [hji, List.take_length])
      clear hji hb
      go_wp2_with fail
      go_ret
      exact ⟨⟨_, rfl, by have := HO.out; rw [HT.out] at this; exact this⟩, HB.out⟩
theorem C3.past {W : World} {a : Addr} {p : Tz} (h : C3 W a p) (ha : a.block < W.heap.size) : (∀ x : Past W, x.w.cell? a = some (.int .i64 p.1)) ∧ (∀ x : Past W, x.w.cell? ⟨a.block, a.off + 1, none⟩ = some (.string ⟨p.2.1.toArray⟩)) ∧ (∀ x : Past W, x.w.cell? ⟨a.block, a.off + 2, none⟩ = some (.int .i64 p.2.2)) := by
  have hx := fun x : Past W => h.kept ha x.b
  exact ⟨fun x => (hx x).1, fun x => (hx x).2.1, fun x => (hx x).2.2⟩
/- The same kinds and texts. -/
def alikeZ (a b : List Tz) : Prop := a.map (fun p => (p.1, p.2.1)) = b.map (fun p => (p.1, p.2.1))
theorem alike_z {a b : List Tk} (h : alike a b) : alikeZ (tz a) (tz b) := by
  unfold alikeZ tz
  rw [List.map_map, List.map_map]
  exact h
end Go.Proofs.YtpmahimlpajdcaaGreatDoor
