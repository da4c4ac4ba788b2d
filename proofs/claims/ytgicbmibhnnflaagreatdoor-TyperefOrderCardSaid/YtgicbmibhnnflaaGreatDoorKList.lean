
/-
  Lists of tokens in memory.
-/
import Derived.Test.YtgicbmibhnnflaaGreatDoorKScan
namespace Go.Proofs.YtgicbmibhnnflaaGreatDoor
open Go.RowKit
abbrev Tz := Int × List UInt8 × Int
def zC (zs : List Tz) : List Value := zs.flatMap fun p => [.int .i64 p.1, .string ⟨p.2.1.toArray⟩, .int .i64 p.2.2]
theorem zC_app (a b : List Tz) : zC (a ++ b) = zC a ++ zC b := List.flatMap_append
def tz (ts : List Tk) : List Tz := ts.map fun p => (p.1, p.2.1, (p.2.2 : Int))
theorem tz_len (ts : List Tk) : (tz ts).length = ts.length := List.length_map _
theorem tz_C (ts : List Tk) : zC (tz ts) = tkC ts := by
  induction ts with
  | nil => rfl
  | cons p r ih => show _ :: _ :: _ :: zC (tz r) = _; rw [ih]; rfl
theorem zC_len (zs : List Tz) : (zC zs).length = zs.length * 3 := by
  induction zs with
  | nil => rfl
  | cons p r ih => show (zC r).length + 3 = (r.length + 1) * 3; omega
theorem zC_at (zs : List Tz) (i : Nat) (p : Tz) (h : zs[i]? = some p) : (zC zs)[i * 3]? = some (.int .i64 p.1) ∧ (zC zs)[i * 3 + 1]? = some (.string ⟨p.2.1.toArray⟩) ∧ (zC zs)[i * 3 + 2]? = some (.int .i64 p.2.2) := by
  induction zs generalizing i with
  | nil => simp at h
  | cons q r ih =>
    cases i with
    | zero => simp at h; subst h; exact ⟨rfl, rfl, rfl⟩
    | succ i =>
      have := ih i (by simpa using h)
      have e : zC (q :: r) = .int .i64 q.1 :: .string ⟨q.2.1.toArray⟩ :: .int .i64 q.2.2 :: zC r := rfl
      rw [e, show (i + 1) * 3 = i * 3 + 1 + 1 + 1 by omega]
      simpa using this
/- The cells of one token. -/
def C3 (w : World) (a : Addr) (p : Tz) : Prop := w.cell? a = some (.int .i64 p.1) ∧ w.cell? ⟨a.block, a.off + 1, none⟩ = some (.string ⟨p.2.1.toArray⟩) ∧ w.cell? ⟨a.block, a.off + 2, none⟩ = some (.int .i64 p.2.2)
theorem add_block (a : Addr) (n : Nat) : (a.add n).block = a.block := by
  unfold Addr.add; split <;> rfl
theorem C3.kept {w w' : World} {B : Nat} {a : Addr} {p : Tz} (h : C3 w a p) (ha : a.block < B) (hb : Below B w w') : C3 w' a p := by
  obtain ⟨h0, h1, h2⟩ := h
  have hk := hb.block a.block ha
  exact ⟨(World.cell?_of_block (w := w) hk).trans h0, (World.cell?_of_block (w := w) (a := ⟨a.block, a.off + 1, none⟩) hk).trans h1, (World.cell?_of_block (w := w) (a := ⟨a.block, a.off + 2, none⟩) hk).trans h2⟩
def ZAt (w : World) (B : Nat) (A : Option Addr) (zs : List Tz) : Prop := 0 < zs.length → ∃ a, A = some a ∧ a.block < B ∧ ∀ i p, zs[i]? = some p → C3 w (a.add (i * 3)) p
theorem ZAt.kept {w w' : World} {B : Nat} {A : Option Addr} {zs : List Tz} (h : ZAt w B A zs) (hb : Below B w w') : ZAt w' B A zs := fun h0 => by
  obtain ⟨a, e, ha, hc⟩ := h h0
  exact ⟨a, e, ha, fun i p hp => (hc i p hp).kept (by rw [add_block]; exact ha) hb⟩
theorem ZAt.mono {w : World} {B B' : Nat} {A : Option Addr} {zs : List Tz} (h : ZAt w B A zs) (hB : B ≤ B') : ZAt w B' A zs := fun h0 => by
  obtain ⟨a, e, ha, hc⟩ := h h0
  exact ⟨a, e, Nat.lt_of_lt_of_le ha hB, hc⟩
theorem ZAt.stay {w w' : World} {A : Option Addr} {zs : List Tz} (h : ZAt w w.heap.size A zs) (hb : Below w.heap.size w w') : ZAt w' w'.heap.size A zs := (h.kept hb).mono hb.size
/- Lists that the call owns, of either type of token. -/
def OwnZ (T : TypeId) (w : World) (base : Nat) (v : Value) (zs : List Tz) : Prop := w.ownsRow base T 3 v zs.length (zC zs)
theorem OwnT.z {w : World} {base : Nat} {v : Value} {ts : List Tk} (h : OwnT w base v ts) : OwnZ 75 w base v (tz ts) := by
  unfold OwnZ; rw [tz_len, tz_C]; exact h
theorem OwnZ.stay {T : TypeId} {w w' : World} {base : Nat} {v : Value} {zs : List Tz} (h : OwnZ T w base v zs) (hb : Below w.heap.size w w') : OwnZ T w' base v zs := ownsRow_stay h hb
theorem OwnZ.nil (T : TypeId) (w : World) (base : Nat) : OwnZ T w base (.slice none 0 0) [] := ⟨rfl, .inl ⟨rfl, rfl⟩⟩
theorem OwnZ.lt {T : TypeId} {w : World} {base : Nat} {v : Value} {zs : List Tz} (h : OwnZ T w base v zs) : ∀ k, v.ownBlock = some k → base ≤ k ∧ k < w.heap.size := World.ownsRow.lt h
theorem OwnZ.at {T : TypeId} {w : World} {base : Nat} {v : Value} {zs : List Tz} (h : OwnZ T w base v zs) : ∃ A c, v = .slice A zs.length c ∧ ZAt w w.heap.size A zs ∧ zs.length ≤ c := by
  have hh : w.ownsRow base T 3 v zs.length (zC zs) := h
  rcases hh.2 with ⟨rfl, hz⟩ | ⟨g, cap, cur, rfl, h1, h2, h3⟩
  · have : zs = [] := by
      cases zs with
      | nil => rfl
      | cons p r => simp at hz
    subst this
    exact ⟨none, 0, rfl, fun h => absurd h (Nat.lt_irrefl _), Nat.le_refl _⟩
  · have hlt := (World.ownsRow.lt hh g rfl).2
    refine ⟨some ⟨g, 0, none⟩, cap, rfl, fun _ => ⟨_, rfl, hlt, fun i p hp => ?_⟩, h3.1⟩
    have hcell := hh.cells (g := g) rfl
    obtain ⟨z0, z1, z2⟩ := zC_at zs i p hp
    have e : ∀ n, (⟨g, 0, none⟩ : Addr).add n = ⟨g, n, none⟩ := fun n => by unfold Addr.add; split <;> simp_all
    have k0 := hcell _ _ z0
    have k1 := hcell _ _ z1
    have k2 := hcell _ _ z2
    rw [e] at k0 k1 k2
    unfold C3
    rw [e]
    exact ⟨k0, k1, k2⟩
theorem z_round {w wr : World} {B j : Nat} {A : Option Addr} {zs : List Tz} (hA : ZAt w B A zs) (hb : Below B w wr) (hj : j < zs.length) :
    ∃ (a : Addr) (k : Int) (t : List UInt8) (i : Int), A = some a ∧ zs[j]? = some (k, t, i) ∧ wr.cell? (a.add (j * 3)) = some (.int .i64 k) ∧ wr.cell? ⟨(a.add (j * 3)).block, (a.add (j * 3)).off + 1, none⟩ = some (.string ⟨t.toArray⟩) ∧ wr.cell? ⟨(a.add (j * 3)).block, (a.add (j * 3)).off + 2, none⟩ = some (.int .i64 i) := by
  obtain ⟨a, e, ha, hc⟩ := hA (by omega)
  have hz : zs[j]? = some zs[j] := List.getElem?_eq_getElem hj
  generalize zs[j] = p at hz
  obtain ⟨k, t, i⟩ := p
  obtain ⟨h0, h1, h2⟩ := (hc j _ hz).kept (by rw [add_block]; exact ha) hb
  exact ⟨a, k, t, i, e, hz, h0, h1, h2⟩
/- Strings. -/
theorem infoS : (Tryz.prog.info? 9).map (fun i => (i.zero, i.size, i.bytes)) = some (some (.string ⟨#[]⟩), 1, 16) := by kernel_rfl
def OwnS (w : World) (base : Nat) (v : Value) (ss : List (List UInt8)) : Prop := w.ownsRow base 9 1 v ss.length (ss.map fun s => .string ⟨s.toArray⟩)
theorem OwnS.stay {w w' : World} {base : Nat} {v : Value} {ss : List (List UInt8)} (h : OwnS w base v ss) (hb : Below w.heap.size w w') : OwnS w' base v ss := ownsRow_stay h hb
theorem OwnS.nil (w : World) (base : Nat) : OwnS w base (.slice none 0 0) [] := ⟨rfl, .inl ⟨rfl, rfl⟩⟩
theorem OwnS.lt {w : World} {base : Nat} {v : Value} {ss : List (List UInt8)} (h : OwnS w base v ss) : ∀ k, v.ownBlock = some k → base ≤ k ∧ k < w.heap.size := World.ownsRow.lt h
end Go.Proofs.YtgicbmibhnnflaaGreatDoor
