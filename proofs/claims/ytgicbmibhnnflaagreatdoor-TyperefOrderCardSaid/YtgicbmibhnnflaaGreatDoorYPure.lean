
/-
  Type references: their wrappers, their levels, their text.
-/
import Derived.WalkKit
namespace Go.Proofs.YtgicbmibhnnflaaGreatDoor
/- Wrappers of a type: 1 is non-null, 2 is a list. -/
abbrev Ws := List Int
def nnB (ws : Ws) : Bool := ws.head? == some 1
def l2B (ws : Ws) : Bool := ws.head? == some 2
def nulL (ws : Ws) : Ws := if nnB ws = true then ws.tail else ws
def nnL (ws : Ws) : Ws := 1 :: nulL ws
def lsB (ws : Ws) : Bool := l2B (nulL ws)
def strL (ws : Ws) : Ws := ws.filter (fun w => decide (w ≠ 1))
def lvL : Bool → Ws → List Bool
  | b, [] => [b]
  | b, w :: r => if w = 1 then lvL true r else b :: lvL false r
def bitL (b : Bool) : Ws := if b = true then [1] else []
def mrL (r : List Bool) : Ws := r.flatMap fun c => 2 :: bitL c
def wlL : List Bool → Ws
  | [] => []
  | b :: r => bitL b ++ mrL r
def rtF : Bool → Ws → Bool
  | _, [] => true
  | p, w :: r => (w == 2 || (w == 1 && !p)) && rtF (w == 1) r
def leB : List Bool → List Bool → Bool
  | a :: r, b :: s => (a || !b) && leB r s
  | _, _ => true
def anL : List Bool → List Bool → List Bool
  | a :: r, b :: s => (a && b) :: anL r s
  | _, _ => []
def lv (ws : Ws) : List Bool := lvL false ws
def weL (ws vs : Ws) : Ws := wlL (anL (lv ws) (lv vs))
def fiL (ws vs : Ws) : Bool := decide (strL ws = strL vs) && leB (lv ws) (lv vs)
theorem lvL_len : ∀ (ws : Ws) (b : Bool), (lvL b ws).length = (strL ws).length + 1
  | [], b => rfl
  | w :: r, b => by
    by_cases h : w = 1
    · rw [show lvL b (w :: r) = lvL true r by simp [lvL, h], show strL (w :: r) = strL r by simp [strL, h]]; exact lvL_len r true
    · rw [show lvL b (w :: r) = b :: lvL false r by simp [lvL, h], show strL (w :: r) = w :: strL r by simp [strL, h], List.length_cons, List.length_cons, lvL_len r false]
theorem lv_len (ws : Ws) : (lv ws).length = (strL ws).length + 1 := lvL_len ws false
theorem leB_refl : ∀ a, leB a a = true
  | [] => rfl
  | b :: r => by unfold leB; cases b <;> simp [leB_refl r]
theorem leB_trans : ∀ a b c, a.length = b.length → b.length = c.length → leB a b = true → leB b c = true → leB a c = true
  | [], _, _, _, _, _, _ => by unfold leB; rfl
  | _ :: _, [], _, h, _, _, _ => by simp at h
  | _ :: _, _ :: _, [], _, h, _, _ => by simp at h
  | x :: a, y :: b, z :: c, h1, h2, h3, h4 => by
    unfold leB at *
    simp only [Bool.and_eq_true] at *
    refine ⟨?_, leB_trans a b c (by simpa using h1) (by simpa using h2) h3.2 h4.2⟩
    have := h3.1; have := h4.1
    revert h3 h4; cases x <;> cases y <;> cases z <;> simp
theorem anL_len : ∀ a b : List Bool, a.length = b.length → (anL a b).length = a.length
  | [], _, _ => by unfold anL; rfl
  | _ :: _, [], h => by simp at h
  | x :: a, y :: b, h => by unfold anL; simp [anL_len a b (by simpa using h)]
theorem leB_an : ∀ a b, a.length = b.length → leB a (anL a b) = true ∧ leB b (anL a b) = true
  | [], [], _ => ⟨by unfold leB; rfl, by unfold leB; rfl⟩
  | [], _ :: _, h => by simp at h
  | _ :: _, [], h => by simp at h
  | x :: a, y :: b, h => by
    have := leB_an a b (by simpa using h)
    unfold anL leB; cases x <;> cases y <;> simp [this]
theorem leB_least : ∀ a b c : List Bool, a.length = b.length → a.length = c.length → leB a c = true → leB b c = true → leB (anL a b) c = true
  | [], [], _, _, _, _, _ => by unfold anL leB; rfl
  | [], _ :: _, _, h, _, _, _ => by simp at h
  | _ :: _, [], _, h, _, _, _ => by simp at h
  | _ :: _, _ :: _, [], _, h, _, _ => by simp at h
  | x :: a, y :: b, z :: c, h, h2, h3, h4 => by
    unfold anL; unfold leB at *
    simp only [Bool.and_eq_true] at *
    refine ⟨?_, leB_least a b c (by simpa using h) (by simpa using h2) h3.2 h4.2⟩
    revert h3 h4; cases x <;> cases y <;> cases z <;> simp
theorem str_app (a b : Ws) : strL (a ++ b) = strL a ++ strL b := List.filter_append _ _
theorem str_bit (b : Bool) : strL (bitL b) = [] := by cases b <;> rfl
theorem str_mr : ∀ r, strL (mrL r) = List.replicate r.length 2
  | [] => rfl
  | b :: r => by
    show strL ((2 :: bitL b) ++ mrL r) = _
    rw [str_app, str_mr r]; cases b <;> rfl
theorem str_wl : ∀ ls, strL (wlL ls) = List.replicate (ls.length - 1) 2
  | [] => rfl
  | b :: r => by show strL (bitL b ++ mrL r) = _; rw [str_app, str_bit, str_mr]; rfl
theorem lv_mr : ∀ (r : List Bool) (b : Bool), lvL b (mrL r) = b :: r
  | [], b => rfl
  | c :: r, b => by
    show lvL b (2 :: (bitL c ++ mrL r)) = _
    have h : lvL false (bitL c ++ mrL r) = c :: r := by
      cases c with
      | false => exact lv_mr r false
      | true => show lvL false (1 :: mrL r) = _; unfold lvL; simp [lv_mr r true]
    unfold lvL; simp [h]
theorem lv_wl : ∀ ls, ls ≠ [] → lv (wlL ls) = ls
  | [], h => absurd rfl h
  | c :: r, _ => by
    show lvL false (bitL c ++ mrL r) = _
    cases c with
    | false => exact lv_mr r false
    | true => show lvL false (1 :: mrL r) = _; unfold lvL; simp [lv_mr r true]
theorem mr_lv : ∀ (ws : Ws), (rtF false ws = true → wlL (lvL false ws) = ws) ∧ (rtF true ws = true → wlL (lvL true ws) = 1 :: ws)
  | [] => ⟨fun _ => rfl, fun _ => rfl⟩
  | w :: r => by
    have ih := mr_lv r
    have hm : ∀ b, rtF false r = true → wlL (b :: lvL false r) = bitL b ++ 2 :: r := fun b h => by
      have := ih.1 h
      generalize hx : lvL false r = x at this
      cases x with
      | nil => have := lvL_len r false; rw [hx] at this; simp at this
      | cons c x => show bitL b ++ (2 :: bitL c ++ mrL x) = _; rw [← this]; rfl
    refine ⟨fun h => ?_, fun h => ?_⟩
    · unfold rtF at h
      by_cases h1 : w = 1
      · subst h1; simp at h; unfold lvL; simpa using ih.2 h
      · simp [h1] at h; obtain ⟨rfl, h⟩ := h; unfold lvL; simp; exact hm false h
    · unfold rtF at h
      simp at h
      obtain ⟨rfl, h⟩ := h
      unfold lvL; simp; exact hm true h
theorem wl_lv {ws : Ws} (h : rtF false ws = true) : wlL (lv ws) = ws := (mr_lv ws).1 h
theorem rt_wl : ∀ ls, rtF false (wlL ls) = true := by
  have hm : ∀ (r : List Bool) (p : Bool), rtF p (mrL r) = true := by
    intro r
    induction r with
    | nil => intro p; rfl
    | cons c r ih => intro p; show rtF p (2 :: (bitL c ++ mrL r)) = true; cases c <;> simp [rtF, bitL, ih]
  intro ls
  cases ls with
  | nil => rfl
  | cons c r => show rtF false (bitL c ++ mrL r) = true; cases c <;> simp [rtF, bitL, hm]
theorem str_rt : ∀ (ws : Ws) (p : Bool), rtF p ws = true → strL ws = List.replicate (strL ws).length 2
  | [], _, _ => rfl
  | w :: r, p, h => by
    unfold rtF at h
    simp only [Bool.and_eq_true] at h
    have ih := str_rt r _ h.2
    by_cases h1 : w = 1
    · subst h1; show strL r = _; exact ih
    · have : w = 2 := by simpa [h1] using h.1
      subst this; show (2 : Int) :: strL r = _; rw [show strL (2 :: r) = 2 :: strL r from rfl, List.length_cons, List.replicate_succ, ← ih]
def onesL (l : List Bool) : Nat := (l.filter id).length
theorem wl_len : ∀ ls : List Bool, (wlL ls).length = (ls.length - 1) + onesL ls := by
  have hm : ∀ r, (mrL r).length = r.length + onesL r := by
    intro r
    induction r with
    | nil => rfl
    | cons c r ih => show (2 :: (bitL c ++ mrL r)).length = _; cases c <;> simp [bitL, onesL, ih] <;> omega
  intro ls
  cases ls with
  | nil => rfl
  | cons c r => show (bitL c ++ mrL r).length = _; cases c <;> simp [bitL, onesL, hm] <;> omega
theorem ones_an : ∀ a b, onesL (anL a b) ≤ onesL a
  | [], _ => by unfold anL; exact Nat.zero_le _
  | _ :: _, [] => by unfold anL; exact Nat.zero_le _
  | x :: a, y :: b => by
    have := ones_an a b
    show onesL ((x && y) :: anL a b) ≤ onesL (x :: a)
    unfold onesL at *; cases x <;> cases y <;> simp <;> omega
theorem we_len {ws vs : Ws} (h : rtF false ws = true) (hs : strL ws = strL vs) : (weL ws vs).length ≤ ws.length := by
  have e := congrArg List.length (wl_lv h)
  unfold weL
  rw [wl_len] at *
  rw [anL_len _ _ (by rw [lv_len, lv_len, hs])]
  have := ones_an (lv ws) (lv vs)
  omega
theorem we_lv {ws vs : Ws} (hs : strL ws = strL vs) : lv (weL ws vs) = anL (lv ws) (lv vs) := lv_wl _ (fun h => by
  have := congrArg List.length h
  rw [anL_len _ _ (by rw [lv_len, lv_len, hs]), lv_len] at this; simp at this)
theorem we_str {ws vs : Ws} (h : rtF false ws = true) (hs : strL ws = strL vs) : strL (weL ws vs) = strL ws := by
  unfold weL
  rw [str_wl, anL_len _ _ (by rw [lv_len, lv_len, hs]), lv_len, Nat.add_sub_cancel]
  exact (str_rt ws _ h).symm
/- The order. -/
theorem fi_refl (ws : Ws) : fiL ws ws = true := by unfold fiL; simp [leB_refl]
theorem fi_trans {a b c : Ws} (h1 : fiL a b = true) (h2 : fiL b c = true) : fiL a c = true := by
  unfold fiL at *
  simp at *
  exact ⟨h1.1.trans h2.1, leB_trans _ _ _ (by rw [lv_len, lv_len, h1.1]) (by rw [lv_len, lv_len, h2.1]) h1.2 h2.2⟩
theorem fi_we {a b : Ws} (ha : rtF false a = true) (hs : strL a = strL b) : fiL a (weL a b) = true ∧ fiL b (weL a b) = true := by
  unfold fiL
  rw [we_str ha hs, we_lv hs]
  have := leB_an (lv a) (lv b) (by rw [lv_len, lv_len, hs])
  simp [hs, this]
theorem fi_least {a b c : Ws} (ha : rtF false a = true) (hs : strL a = strL b) (h1 : fiL a c = true) (h2 : fiL b c = true) : fiL (weL a b) c = true := by
  unfold fiL at *
  rw [we_str ha hs, we_lv hs]
  simp at *
  exact ⟨h1.1, leB_least _ _ _ (by rw [lv_len, lv_len, hs]) (by rw [lv_len, lv_len, h1.1]) h1.2 h2.2⟩
/- What the reference does, level by level. -/
def inO (ws : Ws) : Option Ws := if lsB ws = true then some (nulL ws).tail else none
theorem rt_cases {ws : Ws} (h : rtF false ws = true) : ∃ b r, (ws = bitL b ∧ r = none) ∨ (∃ x, r = some x ∧ ws = bitL b ++ 2 :: x ∧ rtF false x = true) := by
  cases ws with
  | nil => exact ⟨false, none, .inl ⟨rfl, rfl⟩⟩
  | cons w r =>
    unfold rtF at h
    by_cases h1 : w = 1
    · subst h1; simp at h
      cases r with
      | nil => exact ⟨true, none, .inl ⟨rfl, rfl⟩⟩
      | cons v r =>
        unfold rtF at h; simp at h
        obtain ⟨rfl, h⟩ := h
        exact ⟨true, some r, .inr ⟨r, rfl, rfl, by simpa using h⟩⟩
    · simp [h1] at h; obtain ⟨rfl, h⟩ := h
      exact ⟨false, some r, .inr ⟨r, rfl, rfl, h⟩⟩
theorem in_bit (b : Bool) : inO (bitL b) = none := by cases b <;> rfl
theorem in_two (b : Bool) (x : Ws) : inO (bitL b ++ 2 :: x) = some x := by cases b <;> rfl
theorem nn_bit (b : Bool) : nnB (bitL b) = b := by cases b <;> rfl
theorem nn_two (b : Bool) (x : Ws) : nnB (bitL b ++ 2 :: x) = b := by cases b <;> rfl
theorem lv_bit (b : Bool) : lv (bitL b) = [b] := by cases b <;> rfl
theorem lv_two (b : Bool) (x : Ws) : lv (bitL b ++ 2 :: x) = b :: lv x := by cases b <;> simp [lv, bitL, lvL]
theorem str_two (b : Bool) (x : Ws) : strL (bitL b ++ 2 :: x) = 2 :: strL x := by cases b <;> rfl
theorem wl_two (b : Bool) (l : List Bool) (h : l ≠ []) : wlL (b :: l) = bitL b ++ 2 :: wlL l := by
  cases l with
  | nil => exact absurd rfl h
  | cons c r => rfl
theorem lv_ne (ws : Ws) : lv ws ≠ [] := fun h => by have := lv_len ws; rw [h] at this; simp at this
theorem in_len {ws x : Ws} (h : inO ws = some x) : x.length < ws.length := by
  unfold inO at h
  split at h <;> rename_i h1 <;> cases h
  unfold lsB l2B nulL at *
  split at h1 <;> rename_i h2
  · cases ws with
    | nil => simp [nnB] at h2
    | cons a r => rw [if_pos h2]; simp; omega
  · cases ws with
    | nil => simp at h1
    | cons a r => rw [if_neg h2]; simp
theorem in_rt {ws x : Ws} (hr : rtF false ws = true) (h : inO ws = some x) : rtF false x = true := by
  obtain ⟨b, r, ⟨rfl, _⟩ | ⟨y, _, rfl, hy⟩⟩ := rt_cases hr
  · rw [in_bit] at h; cases h
  · rw [in_two] at h; cases h; exact hy
theorem we_step {a b : Ws} (ha : rtF false a = true) (hb : rtF false b = true) (hs : strL a = strL b) :
    (∃ x y, inO a = some x ∧ inO b = some y ∧ strL x = strL y ∧ weL a b = (if nnB a = true ∧ nnB b = true then nnL (2 :: weL x y) else 2 :: weL x y) ∧ fiL a b = ((!nnB b || nnB a) && fiL x y)) ∨
      (inO a = none ∧ inO b = none ∧ weL a b = (if nnB a = true ∧ nnB b = true then nnL [] else []) ∧ fiL a b = (!nnB b || nnB a)) := by
  obtain ⟨p, r, ⟨rfl, _⟩ | ⟨x, _, rfl, hx⟩⟩ := rt_cases ha <;> obtain ⟨q, r', ⟨rfl, _⟩ | ⟨y, _, rfl, hy⟩⟩ := rt_cases hb
  · refine .inr ⟨in_bit _, in_bit _, ?_, ?_⟩
    · unfold weL; rw [lv_bit, lv_bit, nn_bit, nn_bit]; cases p <;> cases q <;> rfl
    · unfold fiL; rw [lv_bit, lv_bit, nn_bit, nn_bit, str_bit, str_bit]; cases p <;> cases q <;> rfl
  · rw [str_bit, str_two] at hs; cases hs
  · rw [str_bit, str_two] at hs; cases hs
  · rw [str_two, str_two] at hs
    have hs' : strL x = strL y := by simpa using hs
    refine .inl ⟨x, y, in_two _ _, in_two _ _, hs', ?_, ?_⟩
    · have hne : anL (lv x) (lv y) ≠ [] := fun h => by
        have := congrArg List.length h
        rw [anL_len _ _ (by rw [lv_len, lv_len, hs']), lv_len] at this; simp at this
      unfold weL
      rw [lv_two, lv_two, nn_two, nn_two]
      show wlL ((p && q) :: anL (lv x) (lv y)) = _
      rw [wl_two _ _ hne]
      cases p <;> cases q <;> rfl
    · unfold fiL; rw [lv_two, lv_two, nn_two, nn_two, str_two, str_two]
      show (decide ((2 : Int) :: strL x = 2 :: strL y) && ((p || !q) && leB (lv x) (lv y))) = _
      rw [hs']
      cases p <;> cases q <;> simp
/- The text. -/
def endB (w : Int) : UInt8 := if w = 1 then 33 else 93
def prL (n : List UInt8) (ws : Ws) : List UInt8 := List.replicate (strL ws).length 91 ++ n ++ ws.reverse.map endB
theorem pr_nil (n : List UInt8) : prL n [] = n := by simp [prL, strL]
theorem pr_one (n : List UInt8) (r : Ws) : prL n (1 :: r) = prL n r ++ [33] := by
  unfold prL
  rw [show strL (1 :: r) = strL r from rfl]; simp [endB]
theorem pr_two (n : List UInt8) (w : Int) (r : Ws) (h : w ≠ 1) : prL n (w :: r) = 91 :: prL n r ++ [93] := by
  unfold prL
  rw [show strL (w :: r) = w :: strL r by simp [strL, h]]; simp [endB, h, List.replicate_succ]
/- Reading tokens: their kinds and texts. -/
abbrev K2 := Int × List UInt8
def sgB (c : UInt8) (ts : List K2) : Bool := match ts with | [] => false | p :: _ => decide (p.1 = 1 ∧ p.2 = [c])
def cntO : List K2 → Nat
  | [] => 0
  | p :: r => if p.1 = 1 ∧ p.2 = [91] then cntO r + 1 else 0
def bangR (ws : Ws) (ts : List K2) : Ws × List K2 := if sgB 33 ts = true then (ws ++ [1], ts.tail) else (ws, ts)
def clsR : Nat → Ws → List K2 → Option (Ws × List K2)
  | 0, ws, ts => some (ws, ts)
  | k + 1, ws, ts => if sgB 93 ts = true then clsR k (bangR (ws ++ [2]) ts.tail).1 (bangR (ws ++ [2]) ts.tail).2 else none
def nmO (ts : List K2) : Option (List UInt8) := match ts with | [] => none | p :: _ => if p.1 = 2 then some p.2 else none
def refP (ts : List K2) : Option (List UInt8 × Ws × List K2) :=
  match nmO (ts.drop (cntO ts)) with
  | none => none
  | some n => match clsR (cntO ts) (bangR [] (ts.drop (cntO ts)).tail).1 (bangR [] (ts.drop (cntO ts)).tail).2 with
    | none => none
    | some (ws, r) => some (n, ws.reverse, r)
theorem cls_snoc : ∀ (k : Nat) (ws : Ws) (ts : List K2), clsR (k + 1) ws ts = match clsR k ws ts with | none => none | some (v, r) => clsR 1 v r
  | 0, ws, ts => rfl
  | k + 1, ws, ts => by
    by_cases h : sgB 93 ts = true
    · have e : ∀ j, clsR (j + 1) ws ts = clsR j (bangR (ws ++ [2]) ts.tail).1 (bangR (ws ++ [2]) ts.tail).2 := fun j => by
        show (if _ then _ else _) = _; rw [if_pos h]
      rw [e (k + 1), e k]
      exact cls_snoc k _ _
    · have e : ∀ j, clsR (j + 1) ws ts = none := fun j => by show (if _ then _ else _) = _; rw [if_neg h]
      rw [e (k + 1), e k]
/- How the reference reads. -/
def bang2 (n : List UInt8) (ws : Ws) (ts : List K2) : List UInt8 × Ws × List K2 := if sgB 33 ts = true then (n, nnL ws, ts.tail) else (n, ws, ts)
theorem refP_open {ts : List K2} (h : sgB 91 ts = true) : refP ts = match refP ts.tail with
    | none => none
    | some (n, ws, r) => if sgB 93 r = true then some (bang2 n (2 :: ws) r.tail) else none := by
  cases ts with
  | nil => cases h
  | cons p r =>
    have hp : p.1 = 1 ∧ p.2 = [91] := by simpa [sgB] using h
    have hc : cntO (p :: r) = cntO r + 1 := by show (if _ then _ else _) = _; rw [if_pos hp]
    unfold refP
    rw [hc]
    simp only [List.drop_succ_cons, List.tail_cons]
    cases nmO (r.drop (cntO r)) with
    | none => rfl
    | some n =>
      dsimp only
      rw [cls_snoc]
      cases clsR (cntO r) (bangR [] (r.drop (cntO r)).tail).1 (bangR [] (r.drop (cntO r)).tail).2 with
      | none => rfl
      | some q =>
        obtain ⟨v, s⟩ := q
        dsimp only
        show (match (if sgB 93 s = true then clsR 0 _ _ else none) with | none => none | some (ws, r) => some (n, ws.reverse, r)) = _
        by_cases h9 : sgB 93 s = true
        · rw [if_pos h9, if_pos h9]
          unfold clsR bangR bang2
          by_cases h3 : sgB 33 s.tail = true
          · rw [if_pos h3, if_pos h3]; simp [nnL, nulL, nnB]
          · rw [if_neg h3, if_neg h3]; simp
        · rw [if_neg h9, if_neg h9]
theorem refP_name {ts : List K2} (h : sgB 91 ts = false) : refP ts = match nmO ts with
    | none => none
    | some n => some (bang2 n [] ts.tail) := by
  have hc : cntO ts = 0 := by
    cases ts with
    | nil => rfl
    | cons p r =>
      have hp : ¬ (p.1 = 1 ∧ p.2 = [91]) := by simpa [sgB] using h
      show (if _ then _ else _) = _; rw [if_neg hp]
  unfold refP
  rw [hc]
  simp only [List.drop_zero]
  cases nmO ts with
  | none => rfl
  | some n =>
    unfold bangR bang2 clsR
    dsimp only
    by_cases h3 : sgB 33 ts.tail = true
    · rw [if_pos h3, if_pos h3]; rfl
    · rw [if_neg h3, if_neg h3]; rfl
/- The tokens of a printed type are read as they were. -/
def endK (w : Int) : K2 := (1, [endB w])
def tkP (n : List UInt8) (ws : Ws) (e : List K2) : List K2 := List.replicate (strL ws).length (1, [91]) ++ (2, n) :: (ws.reverse.map endK ++ e)
theorem sg_end {c : UInt8} (w : Int) (r : List K2) : sgB c (endK w :: r) = decide (c = endB w) := by
  unfold sgB endK; simp [eq_comm]
theorem refP_of : ∀ (k : Nat) (n : List UInt8) (ws : Ws) (e : List K2), ws.length ≤ k → rtF false ws = true → (sgB 33 e = false ∨ nnB ws = true) → refP (tkP n ws e) = some (n, ws, e)
  | 0, n, ws, e, hk, _, he => by
    obtain rfl : ws = [] := List.length_eq_zero_iff.1 (by omega)
    have he : sgB 33 e = false := by rcases he with h | h; exact h; cases h
    rw [refP_name rfl]
    show some (bang2 n [] e) = _
    unfold bang2; rw [he]; simp
  | k + 1, n, ws, e, hk, hr, he => by
    obtain ⟨b, r, ⟨rfl, _⟩ | ⟨x, _, rfl, hx⟩⟩ := rt_cases hr
    · rw [refP_name (by cases b <;> rfl)]
      cases b with
      | false =>
        have he : sgB 33 e = false := by rcases he with h | h; exact h; cases h
        show some (bang2 n [] e) = _
        unfold bang2; rw [he]; simp [bitL]
      | true =>
        show some (bang2 n [] (endK 1 :: e)) = _
        unfold bang2; rw [sg_end]; rfl
    · have e1 : tkP n (bitL b ++ 2 :: x) e = (1, [91]) :: tkP n x (endK 2 :: ((bitL b).map endK ++ e)) := by
        unfold tkP; rw [str_two]; simp [List.replicate_succ]; cases b <;> rfl
      rw [e1, refP_open (by simp [sgB]), List.tail_cons, refP_of k n x _ (by simp at hk; omega) hx (.inl (by rw [sg_end]; decide))]
      dsimp only
      rw [sg_end, if_pos (by decide), List.tail_cons]
      unfold bang2
      cases b with
      | false =>
        have he : sgB 33 e = false := by rcases he with h | h; exact h; cases h
        show some (if sgB 33 e = true then _ else _) = _
        rw [he]; rfl
      | true =>
        show some (if sgB 33 (endK 1 :: e) = true then _ else _) = _
        rw [sg_end]; rfl
end Go.Proofs.YtgicbmibhnnflaaGreatDoor
