
/-
  A printed type is scanned; where the tokens of a document end.
-/
import Derived.Test.YtgicbmibhnnflaaGreatDoorYPure
import Derived.Test.YtgicbmibhnnflaaGreatDoorKFact3
namespace Go.Proofs.YtgicbmibhnnflaaGreatDoor
open Go.RowKit
def kt (ts : List Tk) : List K2 := ts.map fun p => (p.1, p.2.1)
theorem scan_sign {c : UInt8} (h : c ∈ sgL) {r : List UInt8} {f b : Nat} {ts : List Tk} (h2 : scF f (b + 1) r = .ok ts) : scF (f + 1) b (c :: r) = .ok ((1, [c], b) :: ts) := by
  have hn : sepN (c :: r) = 0 := by unfold sepN spanL; rw [sep_not _ (.inl h)]
  rw [scF_succ, hn, List.drop_zero, if_neg (by simp), tok_sign h]
  simp only [Nat.add_zero]
  rw [show (c :: r).drop 1 = r from rfl, h2]
theorem end_sg (w : Int) : endB w ∈ sgL := by unfold endB; split <;> decide
theorem end_wd (w : Int) : wdB (endB w) = false := by unfold endB; split <;> decide
theorem scan_ends : ∀ (ws : Ws) (f b : Nat), ws.length < f → ∃ ts, scF f b (ws.map endB) = .ok ts ∧ kt ts = ws.map endK ++ [(5, [])]
  | _, 0, _, h => absurd h (Nat.not_lt_zero _)
  | [], f + 1, b, _ => ⟨[(5, [], b)], rfl, rfl⟩
  | w :: r, f + 1, b, h => by
    obtain ⟨ts, h1, h2⟩ := scan_ends r f (b + 1) (by simpa using h)
    exact ⟨_, scan_sign (end_sg w) h1, by show (1, [endB w]) :: kt ts = _; rw [h2]; rfl⟩
theorem scan_opens {r : List UInt8} {e : List K2} {f0 : Nat} (h : ∀ f b, f0 ≤ f → ∃ ts, scF f b r = .ok ts ∧ kt ts = e) : ∀ (k f b : Nat), f0 + k ≤ f → ∃ ts, scF f b (List.replicate k 91 ++ r) = .ok ts ∧ kt ts = List.replicate k (1, [91]) ++ e
  | 0, f, b, hf => h f b hf
  | k + 1, 0, b, hf => absurd hf (by omega)
  | k + 1, f + 1, b, hf => by
    obtain ⟨ts, h1, h2⟩ := scan_opens h k f (b + 1) (by omega)
    exact ⟨_, scan_sign (by decide) h1, by show (1, [91]) :: kt ts = _; rw [h2]; rfl⟩
theorem scan_pr {n : List UInt8} (hn : T1.nameL n = true) (ws : Ws) (hl : (prL n ws).length ≤ 65536) : ∃ ts, scR (prL n ws) = .ok ts ∧ kt ts = tkP n ws [(5, [])] := by
  have hb : ∀ f b, ws.length + 2 ≤ f → ∃ ts, scF f b (n ++ ws.reverse.map endB) = .ok ts ∧ kt ts = (2, n) :: (ws.reverse.map endK ++ [(5, [])]) := by
    intro f b hf
    obtain ⟨f, rfl⟩ : ∃ g, f = g + 1 := ⟨f - 1, by omega⟩
    obtain ⟨ts, h1, h2⟩ := scan_ends ws.reverse f (b + n.length) (by rw [List.length_reverse]; omega)
    have hw : wdH (ws.reverse.map endB) = false := by
      cases ws.reverse with
      | nil => exact wdB_zero
      | cons w r => exact end_wd w
    exact ⟨_, scan_one (j := 0) (GoodK.name hn) [] (.inl rfl) _ hw f b ts h1, by show (2, n) :: kt ts = _; rw [h2]⟩
  obtain ⟨ts, h1, h2⟩ := scan_opens hb (strL ws).length ((prL n ws).length + 1) 0 (by
    have : 1 ≤ n.length := by
      obtain ⟨c, u, rfl, _⟩ := name_parts hn
      simp
    unfold prL; simp; omega)
  refine ⟨ts, ?_, h2⟩
  unfold scR
  rw [if_neg (by omega)]
  unfold prL at *
  rw [List.append_assoc] at *
  exact h1
theorem scan_last {l : List UInt8} {ts : List Tk} (h : scR l = .ok ts) : ∃ ps n, ts = ps ++ [(5, [], n)] ∧ ∀ p ∈ ps, p.1 ≠ 5 := by
  unfold scR at h
  split at h
  · cases h
  · obtain ⟨ps, rfl, h1, _⟩ := scF_places l _ 0 l ts h rfl (Nat.zero_le _)
    exact ⟨ps, _, rfl, fun p hp => (h1 p hp).kind⟩
theorem kt_len (ts : List Tk) : (kt ts).length = ts.length := List.length_map _
theorem kt_drop (ts : List Tk) (i : Nat) : kt (ts.drop i) = (kt ts).drop i := (List.map_drop ..).symm ▸ rfl
/- What a text reads as. -/
def fivB (r : List K2) : Bool := match r with | [] => false | p :: _ => decide (p.1 = 5)
def paT (ts : List K2) : Except Int (List UInt8 × Ws) := match refP ts with
  | none => .error 3
  | some (n, ws, r) => if fivB r = true then (if 24 < ws.length then .error 5 else .ok (n, ws)) else .error 3
def paL (l : List UInt8) : Except Int (List UInt8 × Ws) := match scR l with
  | .error e => .error e.2
  | .ok ts => paT (kt ts)
theorem pa_pr {n : List UInt8} {ws : Ws} (hn : T1.nameL n = true) (hr : rtF false ws = true) (hl : ws.length ≤ 24) (h : (prL n ws).length ≤ 65536) : paL (prL n ws) = .ok (n, ws) := by
  obtain ⟨ts, h1, h2⟩ := scan_pr hn ws h
  unfold paL
  rw [h1]
  show paT (kt ts) = _
  rw [h2]
  unfold paT
  rw [refP_of _ n ws _ (Nat.le_refl _) hr (.inl rfl)]
  show (if true = true then (if 24 < ws.length then _ else _) else _) = _
  rw [if_pos rfl, if_neg (by omega)]
theorem five_last {ps r : List K2} {q : List K2} (h : ps ++ [(5, [])] = q ++ r) (hp : ∀ p ∈ ps, p.1 ≠ 5) : fivB r = decide (r.length = 1) := by
  cases r with
  | nil => rfl
  | cons p s =>
    cases s with
    | nil =>
      have : (ps ++ [(5, [])]).getLast? = (q ++ [p]).getLast? := by rw [h]
      simp at this
      subst this; rfl
    | cons p2 s2 =>
      have hp' : p ∈ ps := by
        have hl : ps.length = q.length + s2.length + 1 := by have := congrArg List.length h; simp at this; omega
        have e : (ps ++ [(5, [])])[q.length]? = some p := by rw [h]; simp
        rw [List.getElem?_append_left (by omega)] at e
        exact List.mem_of_getElem? e
      have := hp p hp'
      simp [fivB, this]
end Go.Proofs.YtgicbmibhnnflaaGreatDoor
