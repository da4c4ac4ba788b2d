
/-
  The law's copy of tokens; whether two lists are alike.
-/
import Derived.Test.YtgicbmibhnnflaaGreatDoorKList
import Derived.StillTailTactics
namespace Go.Proofs.YtgicbmibhnnflaaGreatDoor
open Go.RowKit
theorem infoR : (Tryz.prog.info? 83).map (fun i => (i.zero, i.size, i.bytes)) = some (some (.agg #[.int .i64 0, .string ⟨#[]⟩, .int .i64 0]), 3, 32) := by kernel_rfl
theorem append_R {w : World} {ops : Array Oper} {rest : List Oper} {o : Oper} {a : Act} {Q : Exit → Act → World → Prop} (hgd : o.guard = none) (s x : Operand)
    (ho : o.op = .call { callee := .builtin .append, args := #[s, x], argTypes := #[54, 54] }) (base : Nat) (v : Value) (zs : List Tz) (hs : a.eval s = v) (hown : OwnZ 83 w base v zs)
    (ad : Addr) (c : Nat) (p : Tz) (hx : a.eval x = .slice (some ad) 1 c) (hnews : ∀ j u, (zC [p])[j]? = some u → w.cell? (ad.add j) = some u)
    (hlen : zs.length + 1 ≤ 1099511627776) (hbase : base ≤ w.heap.size)
    (h : ∀ v' w', OwnZ 83 w' base v' (zs ++ [p]) → w.grownBy w' v.ownBlock → wpList Tryz.prog ops Q rest (a.put o.dst v') w') : wpList Tryz.prog ops Q (o :: rest) a w := by
  obtain ⟨i0, hi, hz0, hz1, hz2⟩ := info_parts infoR
  refine wpList_append_own w hgd s x 54 ho base 83 i0 (.agg #[.int .i64 0, .string ⟨#[]⟩, .int .i64 0]) 3 32 Tryz.underlying54 hi hz0 hz1 hz2 rfl (by decide) v zs.length (zC zs) hs hown ad 1 c (zC [p]) hx rfl hnews ?_ (by unfold maxLen; omega) (by omega) hbase ?_
  · intro u hu
    simp [zC] at hu
    rcases hu with rfl | rfl | rfl <;> rfl
  · intro v' w' h1 h2 _
    refine h v' w' ?_ h2
    unfold OwnZ
    rw [List.length_append, zC_app]
    exact h1
end Go.Proofs.YtgicbmibhnnflaaGreatDoor
