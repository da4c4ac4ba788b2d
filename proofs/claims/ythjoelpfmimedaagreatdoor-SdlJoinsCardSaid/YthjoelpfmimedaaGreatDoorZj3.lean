
/-
  Texts joined: KPast KRune KWord RefUnquote UQuote KFact KTok KFirst KLaid WitK Base.
-/
import Derived.Test.YthjoelpfmimedaaGreatDoorZj1
import Derived.Deep.QuietTactic
import Derived.BigQuiet
import Derived.Deep.RegionLaw
import Derived.Deep.AppendLies
import Derived.Test.YthjoelpfmimedaaGreatDoorZj2
import Derived.Laws.Runes
import Derived.WalkMore
import Derived.Test.YthjoelpfmimedaaGreatDoorCards
import Derived.Test.YthjoelpfmimedaaGreatDoorTie
import Derived.Deep.DeepWitnessRowRef
import Derived.Stop.LaidErr
import Derived.OpenShut
import Derived.Lib.LaidU8
import Derived.PinnedBridge
import Derived.Lay
import Derived.ChangeSame
import Derived.JoinedOf
import Derived.JoinedAt
import Derived.RowKit
import Derived.RowKit2
import Derived.ReadAgain
import Derived.Carry
import Derived.SizedLaws
import Derived.Test.YthjoelpfmimedaaGreatDoorProg
import Derived.WalkKit
import Derived.ProofKit
import Derived.Outline
import Derived.WalkSpells
import Derived.WalkLawsBesides
import Derived.StillTailTactics
import Derived.Lib.Hide
import Derived.Lib.Strings
import Derived.ChangeAlike
namespace Go.Proofs.YthjoelpfmimedaaGreatDoor.K
open Go.RowKit
structure Past (W : World) where
  w : World
  b : Below W.heap.size W w
instance {W : World} : Nonempty (Past W) := ⟨⟨W, Below.refl _ _⟩⟩
theorem Past.le {W : World} (x : Past W) : W.heap.size ≤ x.w.heap.size := x.b.size
theorem past_of {P : Program} {W : World} {f : FuncId} {args : Array Value} {v : Value} (x : Past W) (h : Calls P f args x.w fun e w' => e = .returned v ∧ Below x.w.heap.size x.w w') :
    Calls P f args x.w fun e w'' => e = .returned v ∧ ∃ y : Past W, w'' = y.w :=
  h.mono fun _ _ ⟨he, hb⟩ => ⟨he, ⟨_, x.b.trans (hb.mono x.le)⟩, rfl⟩
theorem past_block {W : World} {b : Nat} {o : Obj} (h : W.heap[b]? = some o) (x : Past W) : x.w.heap[b]? = some o := by
  have hb : b < W.heap.size := by
    rcases Nat.lt_or_ge b W.heap.size with h' | h'
    · exact h'
    · rw [Array.getElem?_eq_none h'] at h; cases h
  exact (x.b.block b hb).trans h
theorem wp_region_past {id : Nat} {Q : Exit → Act → World → Prop} {a : Act} {w : World} {l : List Oper} (F : World → Prop) (hF : F w) (hB : Region.lexB .any l.toArray = true)
    (h : ∀ W, F W → Below w.heap.size w W → wpQuiet Tryz.prog l.toArray (fun w' => ∃ x : Past W, w' = x.w) (fun a' => ∀ w', (∃ x : Past W, w' = x.w) → Q .normal a' w') l a) : (Code.region id l.toArray true).wp Tryz.prog Q a w :=
  wp_region_quiet (C := fun w' => ∃ x : Past w, w' = x.w) (by kernel_rfl) hB ⟨⟨_, (Below.refl _ _).drew⟩, rfl⟩ (by simpa using h w hF (Below.refl _ _))
end Go.Proofs.YthjoelpfmimedaaGreatDoor.K
namespace Go.Proofs.YthjoelpfmimedaaGreatDoor.K
open Go.RowKit
structure AscSet (s : ByteArray) : Prop where
  asc : ∀ b ∈ s.data.toList, b.toNat < 128
  lo : 4 ≤ s.size
  hi : s.size ≤ 1000
theorem T1.u8_back (c : UInt8) : ((c.toNat : Int)).toNat.toUInt8 = c := by
  rw [Int.toNat_natCast]; exact UInt8.ofNat_toNat
theorem idx_none (l : List UInt8) (c : UInt8) (h : ∀ b ∈ l, b ≠ c) : Lib.indexByte l c = -1 := by
  induction l with
  | nil => rfl
  | cons b l ih =>
    unfold Lib.indexByte
    have h1 : (b == c) = false := by simpa using h b List.mem_cons_self
    simp only [h1, Bool.false_eq_true, if_false]
    rw [ih (fun x hx => h x (List.mem_cons_of_mem _ hx))]
    rfl
theorem idx_mem (l : List UInt8) (c : UInt8) : 0 ≤ Lib.indexByte l c ↔ c ∈ l := by
  induction l with
  | nil => simp [Lib.indexByte]
  | cons b l ih =>
    unfold Lib.indexByte
    by_cases h : b = c
    · subst h; simp
    · have h1 : (b == c) = false := by simpa using h
      have h2 : c ≠ b := fun e => h e.symm
      have := Lib.indexByte_ge l c
      simp only [h1, Bool.false_eq_true, if_false, List.mem_cons, h2, false_or]
      by_cases h3 : Lib.indexByte l c = -1
      · have h4 : ¬ c ∈ l := by rw [← ih]; omega
        simp [h3, h4]
      · have h4 : c ∈ l := by rw [← ih]; omega
        have h5 : (Lib.indexByte l c == -1) = false := by simpa using h3
        simp only [h5, Bool.false_eq_true, if_false, h4, iff_true]
        omega
set_option maxRecDepth 100000 in
set_option maxHeartbeats 4000000 in
theorem index_error (s : ByteArray) (hs : AscSet s) (w : World) :
    Calls Tryz.prog 166 #[.string s, .int .i32 65533] w fun e w' => e = .returned (.int .i64 (-1)) ∧ Below w.heap.size w w' := by
  have HS := Lib.hid hs
  have hhi := hs.hi
  clear hs
  go_enter Tryz.func166, Tryz.ntmps166
  go_wp2_with fail
  go_loopw [] (fun wr => ∃ (pos : Nat), wr.heap[w.heap.size]? = some (.stringIter s pos) ∧ Below w.heap.size w wr)
    (fun wr => s.size - wr.iterPos w.heap.size)
  case atStart => exact ⟨0, World.iter_heap w s 0, (Below.refl _ _).alloc (Nat.le_refl _) _⟩
  case round =>
    obtain ⟨pos, hit, hb⟩ := hrel
    have HB := Lib.hid hb
    clear hb
    by_cases hp : pos < s.size
    · have ha : (s[pos]).toNat < 128 := HS.out.asc _ (Array.getElem_mem_toList (xs := s.data) hp)
      have hnx : ∀ ty, (Instr.next (.pointer (some ⟨w.heap.size, 0, none⟩)) true ty).run Tryz.prog wr = _ := fun ty => Lib.run_next_ascii_at wr w.heap.size s pos ty hit hp ha
      have hne : ¬ (((s[pos]).toNat : Int) = 65533) := by omega
      have HIT := Lib.hid (Lib.iterAt_heap wr w.heap.size s pos (pos + 1) hit)
      have HB2 := Lib.hid (Lib.below_iterAt HB.out (k := w.heap.size) (Nat.le_refl _) s (pos + 1))
      have HI0 := Lib.hid hit
      clear hit
      go_wp2_with fail
      go_roundw
      case rel => exact ⟨pos + 1, HIT.out, HB2.out⟩
      case measure =>
        simp only [World.iterPos, HIT.out, HI0.out]
        omega
    · have hnx : ∀ ty, (Instr.next (.pointer (some ⟨w.heap.size, 0, none⟩)) true ty).run Tryz.prog wr = _ := fun ty => Lib.run_next_end_at wr w.heap.size s pos ty hit hp
      go_wp2_with fail
      go_ret
      exact ⟨rfl, HB.out⟩
set_option maxRecDepth 1000000 in
set_option maxHeartbeats 4000000 in
theorem index_high (s : ByteArray) (hs : AscSet s) (r : Nat) (h : 128 ≤ r) (hv : Utf8.valid r = true) (hr : r ≠ 65533) (w : World) :
    Calls Tryz.prog 166 #[.string s, .int .i32 r] w fun e w' => e = .returned (.int .i64 (-1)) ∧ Below w.heap.size w w' := by
  have HS := Lib.hid hs
  have HE := Lib.hid (encode_facts (r : Int) hv (by omega))
  have HVR : Hid (Lib.validRune (r : Int) = true) := Lib.hid (by rw [validRune_eq] at hv; exact hv)
  have x1 : decide ((r : Int) < 128) = false := decide_eq_false (by omega)
  have x2 : ((r : Int) == 65533) = false := by simpa using (by omega : ¬ (r : Int) = 65533)
  have x0 : decide ((0 : Int) ≤ r) = true := decide_eq_true (by omega)
  have CALL := Lib.hid (Tryz.utf8_ValidRune (r : Int) w)
  clear hs hv h hr
  generalize hri : (r : Int) = ri at *
  go_enter Tryz.func166, Tryz.ntmps166
  go_wp2_with fail
  refine CALL.out.mono ?_
  rintro e w1 ⟨rfl, rfl⟩
  rw [HVR.out]
  have u21 : (Tryz.prog.underlying 21).isSome = true := by kernel_rfl
  obtain ⟨rs, hrs⟩ : ∃ rs, Utf8.encode ri = rs := ⟨_, rfl⟩
  rw [hrs] at HE
  obtain ⟨m, hm⟩ : ∃ m, rs.size = m := ⟨_, rfl⟩
  have hm2 : 2 ≤ m ∧ m ≤ 4 := by rw [← hm]; exact ⟨HE.out.1, HE.out.2.1⟩
  have hlo := HS.out.lo
  have hms : m - 1 < s.size := by omega
  have hmr : m - 1 < rs.size := by omega
  have hx128 : Hid (128 ≤ (rs[m - 1]).toNat) := Lib.hid (by
    have := HE.out.2.2 (by omega)
    simpa [hm] using this)
  have hy128 : Hid ((s[m - 1]).toNat < 128) := Lib.hid (HS.out.asc _ (Array.getElem_mem_toList (xs := s.data) hms))
  have hne : (((s[m - 1]).toNat : Int) == ((rs[m - 1]).toNat : Int)) = false := by
    have := hx128.out
    have := hy128.out
    exact beq_false_of_ne (by omega)
  go_wp2_with fail
  go_step3
  go_wp2_with fail
  go_loopw [9] (fun v wr => v = .int .i64 ((m : Int) - 1) ∧ wr = w1) (fun _ _ => 0)
  case atStart => exact ⟨rfl, rfl⟩
  case round =>
    obtain ⟨rfl, rfl⟩ := hrel
    have h1 : ((m : Int) - 1) < s.size := by omega
    have h2 : (0 : Int) ≤ (m : Int) - 1 := by omega
    have h3 : ((m : Int) - 1).toNat = m - 1 := by omega
    have h4 : (1 : Int) ≤ m := by omega
    have h5 : ((m : Int) - 1) < (m : Int) := by omega
    have h6 : ((m : Int) - 1) < (rs.size : Int) := by omega
    go_wp2_with fail
    go_step3
    go_wp2_with fail
    go_region
    all_goals
      go_wp2_with fail
      refine wp_region_past (fun _ => True) trivial (by kernel_rfl) ?_
      intro W _ hbw
      have C1 : Hid (∀ x0 : Past W, Calls Tryz.prog 205 #[.string (s.extract m s.size), .int .u8 (rs[m - 1]).toNat] x0.w fun e w'' => e = .returned (.int .i64 (-1)) ∧ ∃ y : Past W, w'' = y.w) :=
        Lib.hid fun x0 => past_of x0 ((Tryz.strings_IndexByte (s.extract m s.size) _ x0.w).mono (fun e w' h => ⟨by
          rw [h.1, T1.u8_back, idx_none _ _ (fun b hb hbc => by
            have h1 := HS.out.asc b (mem_extract hb)
            have h2 := hx128.out
            rw [hbc] at h1; omega)], by rw [h.2]; exact Below.refl _ _⟩))
      repeat (go_big_quiet_step (first | with_reducible exact C1.out _))
      refine wpQuiet_nil ?_
      intro _ hw'
      obtain ⟨x0, rfl⟩ := hw'
      have HBX := Lib.hid (((Below.refl _ _).drew.trans (hbw.mono (by simp))).trans (x0.b.mono hbw.size))
      generalize x0.w = wx at *
      go_wp2_with fail
      rw [Exit.noGoto_ret]
      go_wp2_with fail
      first | (rw [Exit.noGoto_ret]; go_wp2_with fail) | skip
      go_ret
      exact ⟨rfl, HBX.out⟩
theorem contains_any (s : ByteArray) (hs : AscSet s) (r : Nat) (hv : r < 128 ∨ Utf8.valid r = true) (w : World) :
    Calls Tryz.prog 110 #[.string s, .int .i32 r] w fun e w' => e = .returned (.bool (decide (r < 128 ∧ r.toUInt8 ∈ s.data.toList))) ∧ Below w.heap.size w w' := by
  by_cases h : r < 128
  · refine (Tryz.strings_ContainsRune_ascii s r w (by omega) (by omega)).mono ?_
    rintro e w' ⟨rfl, rfl⟩
    refine ⟨?_, Below.refl _ _⟩
    rw [Int.toNat_natCast]
    congr 2
    apply decide_eq_decide.2
    rw [idx_mem]
    exact ⟨fun x => ⟨h, x⟩, fun x => x.2⟩
  · have hv := hv.resolve_left h
    have hd : decide (r < 128 ∧ r.toUInt8 ∈ s.data.toList) = false := decide_eq_false (fun x => h x.1)
    rw [hd]
    have hc : Calls Tryz.prog 166 #[.string s, .int .i32 r] w fun e w' => e = .returned (.int .i64 (-1)) ∧ Below w.heap.size w w' := by
      by_cases h3 : r = 65533
      · subst h3; exact index_error s hs w
      · exact index_high s hs r (by omega) hv h3 w
    go_enter Tryz.func110, Tryz.ntmps110
    go_wp2_with fail
    refine hc.mono ?_
    rintro e w1 ⟨rfl, hb⟩
    have HB := Lib.hid hb
    clear hb
    go_wp2_with fail
    go_ret
    exact ⟨rfl, HB.out⟩
end Go.Proofs.YthjoelpfmimedaaGreatDoor.K
namespace Go.Proofs.YthjoelpfmimedaaGreatDoor.K
open Go.RowKit
def ndL : ByteArray := ⟨#[65, 66, 67, 68, 69, 70, 71, 72, 73, 74, 75, 76, 77, 78, 79, 80, 81, 82, 83, 84, 85, 86, 87, 88, 89, 90, 97, 98, 99, 100, 101, 102, 103, 104, 105, 106, 107, 108, 109, 110, 111, 112, 113, 114, 115, 116, 117, 118, 119, 120, 121, 122, 95, 48, 49, 50, 51, 52, 53, 54, 55, 56, 57]⟩
theorem ndL_set : AscSet ndL := ⟨by decide +kernel, by decide, by decide⟩
theorem nd_mem : ∀ n : Fin 128, decide ((UInt8.ofNat n.val) ∈ ndL.data.toList) = wdB (UInt8.ofNat n.val) := by decide +kernel
def wdHi (_ : Unit) : Option Unit := none
theorem wd_high (u : Unit) (c : UInt8) (h : 128 ≤ c.toNat) : wdS u c = wdHi u := by
  have : ∀ c : UInt8, 128 ≤ c.toNat → wdB c = false := fun c h => by
    have h2 : T1.nmB (c.toNat : Int) = false := by
      unfold T1.nmB T1.letB T1.digB
      simp
      omega
    exact h2
  unfold wdS
  rw [this c h]; rfl
theorem wd_rune (r : Nat) : (decide (r < 128 ∧ r.toUInt8 ∈ ndL.data.toList)) = (if r < 128 then wdS () r.toUInt8 else wdHi ()).isSome := by
  by_cases h : r < 128
  · rw [if_pos h]
    have e := nd_mem ⟨r, h⟩
    have e2 : decide (r < 128 ∧ r.toUInt8 ∈ ndL.data.toList) = decide (r.toUInt8 ∈ ndL.data.toList) := decide_eq_decide.2 ⟨fun x => x.2, fun x => ⟨h, x⟩⟩
    rw [e2]
    have e : decide (r.toUInt8 ∈ ndL.data.toList) = wdB r.toUInt8 := e
    rw [e]
    unfold wdS
    cases wdB r.toUInt8 <;> rfl
  · rw [if_neg h, decide_eq_false (fun x => h x.1)]; rfl
set_option maxRecDepth 100000 in
set_option maxHeartbeats 2000000 in
theorem word1_any (p : Nat) (u : Unit) (r : Nat) (w : World) (hr : r < 128 ∨ Utf8.valid r = true) : Calls Tryz.prog 209 (#[.int .i32 r] ++ #[]) w (SpPost (if r < 128 then wdS u r.toUInt8 else wdHi u) (fun _ _ => True) p w) := by
  have CALL0 := contains_any ndL ndL_set r hr w
  rw [wd_rune] at CALL0
  cases u
  generalize (if r < 128 then wdS () r.toUInt8 else wdHi ()) = o at *
  have CALL := Lib.hid CALL0
  clear CALL0
  show Calls _ _ #[.int .i32 r] w _
  go_enter Tryz.func209, Tryz.ntmps209
  go_wp2_with fail
  refine CALL.out.mono ?_
  rintro e w1 ⟨rfl, hb⟩
  have HB := Lib.hid hb
  clear hb
  go_wp2_with fail
  go_ret
  exact ⟨rfl, fun _ _ => trivial, Bes.of HB.out⟩
set_option maxHeartbeats 2000000 in
theorem word_any (s : ByteArray) (hs : s.size ≤ maxLen) (w : World) : Calls Tryz.prog 168 #[.string s] w fun e w' => e = .returned (.int .i64 (wdN s.data.toList)) ∧ Below w.heap.size w w' := by
  have CALL := Lib.hid (span_any (Inv := fun (_ : Unit) (_ : World) => True) (p := w.heap.size + 1) 209 (.inr (.inl rfl)) #[] wd_high (fun _ _ h => by cases h) (fun u r w' _ _ hr => word1_any _ u r w' hr) (fun _ _ _ _ _ => trivial) s hs () w trivial (by omega))
  go_enter Tryz.func168, Tryz.ntmps168
  go_wp2_with fail
  refine CALL.out.mono ?_
  rintro e w1 ⟨rfl, hb⟩
  have HB := Lib.hid (hb.below (Nat.le_succ _) (Nat.le_refl _))
  clear hb
  go_wp2_with fail
  go_ret
  exact ⟨rfl, HB.out⟩
end Go.Proofs.YthjoelpfmimedaaGreatDoor.K
namespace Go.Proofs.YthjoelpfmimedaaGreatDoor.T1
open Go.RowKit
end Go.Proofs.YthjoelpfmimedaaGreatDoor.T1
namespace Go.Proofs.YthjoelpfmimedaaGreatDoor.T1
open Go.RowKit
end Go.Proofs.YthjoelpfmimedaaGreatDoor.T1
namespace Go.Proofs.YthjoelpfmimedaaGreatDoor.K
open Go.RowKit
section
variable {σ : Type} {step : σ → UInt8 → Option σ}
def runL {σ : Type} (step : σ → UInt8 → Option σ) : σ → List UInt8 → Option σ
  | st, [] => some st
  | st, c :: r => match step st c with
    | none => none
    | some s2 => runL step s2 r
theorem spanL_run : ∀ (a : List UInt8) (st st2 : σ) (r : List UInt8), runL step st a = some st2 → spanL step st (a ++ r) = a.length + spanL step st2 r
  | [], st, st2, r, h => by cases h; simp
  | c :: a, st, st2, r, h => by
    unfold runL at h
    rw [List.cons_append, spanL]
    cases hc : step st c with
    | none => rw [hc] at h; cases h
    | some s3 =>
      rw [hc] at h
      show spanL step s3 (a ++ r) + 1 = _
      rw [spanL_run a s3 st2 r h, List.length_cons]; omega
theorem spanL_cut : ∀ (a : List UInt8) (st : σ) (r r' : List UInt8), spanL step st (a ++ r) < a.length → spanL step st (a ++ r') = spanL step st (a ++ r)
  | [], _, _, _, h => absurd h (Nat.not_lt_zero _)
  | c :: a, st, r, r', h => by
    rw [List.cons_append, spanL] at h
    rw [List.cons_append, List.cons_append, spanL, spanL]
    cases hc : step st c with
    | none => rfl
    | some s3 =>
      rw [hc] at h
      show spanL step s3 (a ++ r') + 1 = spanL step s3 (a ++ r) + 1
      have h2 : spanL step s3 (a ++ r) + 1 < a.length + 1 := h
      rw [spanL_cut a s3 r r' (by omega)]
theorem spanL_full {a r : List UInt8} {st : σ} (h : a.length ≤ spanL step st (a ++ r)) : ∃ st2, runL step st a = some st2 := by
  induction a generalizing st with
  | nil => exact ⟨st, rfl⟩
  | cons c a ih =>
    rw [List.cons_append, spanL] at h
    rw [runL]
    cases hc : step st c with
    | none => rw [hc] at h; exact absurd h (Nat.not_succ_le_zero _)
    | some s3 =>
      rw [hc] at h
      exact ih (Nat.le_of_succ_le_succ h)
end
theorem all_u8 {p : UInt8 → Prop} (h : ∀ n : Fin 256, p (UInt8.ofNat n.val)) (c : UInt8) : p c := by
  have := h ⟨c.toNat, c.toNat_lt⟩
  rwa [UInt8.ofNat_toNat] at this
def wdH (r : List UInt8) : Bool := wdB (r.getD 0 0)
theorem wdB_zero : wdB 0 = false := by decide
theorem wd_all : ∀ (a r : List UInt8), wdN (a ++ r) = a.length ↔ (a.all wdB = true ∧ wdH r = false)
  | [], r => by
    cases r with
    | nil => simp [wdN, spanL, wdH, wdB_zero]
    | cons c r =>
      simp only [List.nil_append, List.length_nil, List.all_nil, true_and]
      unfold wdN spanL wdS wdH
      cases hc : wdB c with
      | true => simp [hc]
      | false => simp [hc]
  | c :: a, r => by
    have ih := wd_all a r
    rw [List.cons_append, wdN, spanL, wdS]
    cases hc : wdB c with
    | true =>
      simp only [if_true, List.length_cons, List.all_cons, hc, Bool.true_and]
      rw [← ih]
      show wdN (a ++ r) + 1 = _ ↔ _
      omega
    | false => simp [hc]
theorem sg_not : ∀ c : UInt8, (wdB c = true ∨ c = 34 ∨ c = 45) → ¬ c ∈ sgL ∧ c ≠ 46 := all_u8 (by decide +kernel)
theorem let_not : ∀ c : UInt8, T1.letU (c.toNat : Int) = true → wdB c = true := all_u8 (by decide +kernel)
theorem dm_cases : ∀ c : UInt8, dmB c = true → wdB c = true ∨ c = 45 := all_u8 (by decide +kernel)
theorem quote_not : ∀ c : UInt8, c = 34 → T1.letU (c.toNat : Int) = false ∧ dmB c = false := all_u8 (by decide +kernel)
theorem dm_let : ∀ c : UInt8, dmB c = true → T1.letU (c.toNat : Int) = false := all_u8 (by decide +kernel)
theorem el_not {l : List UInt8} (h : l.getD 0 0 ≠ 46) : l.take 3 ≠ elL := by
  intro e
  cases l with
  | nil => cases e
  | cons c r => injection e with e1 _; exact h e1
theorem tok_sign {c : UInt8} {r : List UInt8} (h : c ∈ sgL) : tokR (c :: r) = .ok (1, [c], 1) := by
  unfold tokR; exact if_pos h
theorem tok_dots (r : List UInt8) : tokR (46 :: 46 :: 46 :: r) = .ok (1, elL, 3) := by
  unfold tokR
  have h : ¬ (46 : UInt8) ∈ sgL := by decide
  simp [h, elL]
theorem tok_name {l : List UInt8} (h : T1.letU ((l.getD 0 0).toNat : Int) = true) : tokR l = if T1.nameL (l.take (wdN l)) = true then .ok (2, l.take (wdN l), wdN l) else .error 3 := by
  have h1 := sg_not _ (.inl (let_not _ h))
  unfold tokR
  simp only
  rw [if_neg h1.1, if_neg (el_not h1.2), if_pos h]
theorem tok_int {l : List UInt8} (h : dmB (l.getD 0 0) = true) : tokR l = if (T1.numL (l.take (wdN (l.drop 1) + 1))).2 = 0 then .ok (3, l.take (wdN (l.drop 1) + 1), wdN (l.drop 1) + 1) else .error (T1.numL (l.take (wdN (l.drop 1) + 1))).2 := by
  have h0 := dm_let _ h
  have h1 := sg_not _ ((dm_cases _ h).elim .inl (fun x => .inr (.inr x)))
  unfold tokR
  simp only
  rw [if_neg h1.1, if_neg (el_not h1.2), if_neg (by rw [h0]; decide), if_pos h]
theorem tok_text (r : List UInt8) : tokR (34 :: r) = if r.length < ltN r + 1 then .error 3 else match T1.unquoteL (34 :: r.take (ltN r + 1)) with
      | none => .error 3
      | some t => .ok (4, t, ltN r + 2) := by
  have h1 := sg_not 34 (.inr (.inl rfl))
  have h2 := quote_not 34 rfl
  have e0 : (34 :: r).getD 0 0 = (34 : UInt8) := rfl
  unfold tokR
  simp only [e0, List.drop_one, List.tail_cons, List.length_cons]
  rw [if_neg h1.1, if_neg (el_not (by rw [e0]; exact h1.2)), if_neg (by rw [h2.1]; decide), if_neg (by rw [h2.2]; decide), if_pos trivial]
  by_cases hlt : r.length < ltN r + 1
  · rw [if_pos hlt, if_pos (by omega)]
  · rw [if_neg hlt, if_neg (by omega)]; rfl
inductive TokIs : List UInt8 → Int → List UInt8 → Nat → Prop
  | sign {c : UInt8} {r : List UInt8} (h : c ∈ sgL) : TokIs (c :: r) 1 [c] 1
  | dots (r : List UInt8) : TokIs (46 :: 46 :: 46 :: r) 1 elL 3
  | name {l : List UInt8} (h : T1.letU ((l.getD 0 0).toNat : Int) = true) (hn : T1.nameL (l.take (wdN l)) = true) : TokIs l 2 (l.take (wdN l)) (wdN l)
  | int {l : List UInt8} (h : dmB (l.getD 0 0) = true) (hn : (T1.numL (l.take (wdN (l.drop 1) + 1))).2 = 0) : TokIs l 3 (l.take (wdN (l.drop 1) + 1)) (wdN (l.drop 1) + 1)
  | text {r t : List UInt8} (hl : ltN r + 1 ≤ r.length) (hu : T1.unquoteL (34 :: r.take (ltN r + 1)) = some t) : TokIs (34 :: r) 4 t (ltN r + 2)
theorem tok_is {l : List UInt8} {k : Int} {t : List UInt8} {n : Nat} (hl : l ≠ []) (h : tokR l = .ok (k, t, n)) : TokIs l k t n := by
  obtain ⟨c, r, rfl⟩ := List.exists_cons_of_ne_nil hl
  by_cases h1 : c ∈ sgL
  · rw [tok_sign h1] at h; cases h; exact .sign h1
  by_cases h2 : (c :: r).take 3 = elL
  · obtain ⟨r2, rfl, rfl⟩ : ∃ r2, c = 46 ∧ r = 46 :: 46 :: r2 := by
      match r, h2 with
      | a :: b :: r2, h2 =>
        have h2 : [c, a, b] = [46, 46, 46] := h2
        injection h2 with e1 h2
        injection h2 with e2 h2
        injection h2 with e3 h2
        subst e1 e2 e3
        exact ⟨r2, rfl, rfl⟩
      | [], h2 => cases h2
      | [a], h2 => cases h2
    rw [tok_dots] at h; cases h; exact .dots _
  by_cases h3 : T1.letU (((c :: r).getD 0 0).toNat : Int) = true
  · rw [tok_name h3] at h
    split at h
    · next hn => cases h; exact .name h3 hn
    · cases h
  by_cases h4 : dmB ((c :: r).getD 0 0) = true
  · rw [tok_int h4] at h
    split at h
    · next hn => cases h; exact .int h4 hn
    · cases h
  by_cases h5 : c = 34
  · subst h5
    rw [tok_text] at h
    split at h
    · cases h
    · next hlt =>
      split at h
      · cases h
      · next t' hu => cases h; exact .text (by omega) hu
  · unfold tokR at h
    simp only at h
    rw [if_neg (show ¬ (c :: r).getD 0 0 ∈ sgL from h1), if_neg h2, if_neg h3, if_neg h4, if_neg (show ¬ (c :: r).getD 0 0 = 34 from h5)] at h
    cases h
theorem TokIs.eq {l : List UInt8} {k : Int} {t : List UInt8} {n : Nat} (h : TokIs l k t n) : tokR l = .ok (k, t, n) := by
  cases h with
  | sign h => exact tok_sign h
  | dots r => exact tok_dots r
  | name h hn => rw [tok_name h, if_pos hn]
  | int h hn => rw [tok_int h, if_pos hn]
  | text hl hu => rw [tok_text, if_neg (by omega), hu]
end Go.Proofs.YthjoelpfmimedaaGreatDoor.K
namespace Go.Proofs.YthjoelpfmimedaaGreatDoor.K
open Go.RowKit
structure LK (w : World) : Prop where
  num : T1.Laid w
  utf : Lib.Utf8Tabs 0 1 w
theorem LK.below {w w' : World} (h : LK w) (hb : Below w.heap.size w w') : LK w' := ⟨h.num.below hb, Utf8Tabs_below h.utf hb⟩
def TB (W : World) (b : Nat) (c0 c1 c2 : Value) : Prop := W.heap[b]? = some (.cells #[c0, c1, c2] 105 (0, 0))
theorem TB.cells {W : World} {b : Nat} {c0 c1 c2 : Value} (h : TB W b c0 c1 c2) : W.cell? ⟨b, 0, none⟩ = some c0 ∧ W.cell? ⟨b, 1, none⟩ = some c1 ∧ W.cell? ⟨b, 2, none⟩ = some c2 := by
  refine ⟨?_, ?_, ?_⟩ <;> rw [cell_of_row _ _ _ _ _ _ h] <;> rfl
theorem TB.frz {W : World} {b : Nat} {c0 c1 c2 : Value} (h : TB W b c0 c1 c2) (i : Nat) : W.frozen? ⟨b, i, none⟩ = false := by
  unfold TB at h; simp [World.frozen?, h]
theorem TB.three {W : World} {b : Nat} {c0 c1 c2 : Value} (h : TB W b c0 c1 c2) (u0 u1 u2 : Value) : TB (((W.setCell ⟨b, 0, none⟩ u0).setCell ⟨b, 1, none⟩ u1).setCell ⟨b, 2, none⟩ u2) b u0 u1 u2 := by
  unfold TB at h ⊢; simp [World.setCell, Array.getElem?_modify, h]
theorem TB.kept {W W' : World} {b : Nat} {c0 c1 c2 : Value} (h : TB W b c0 c1 c2) (hb : W'.heap[b]? = W.heap[b]?) : TB W' b c0 c1 c2 := hb.trans h
theorem TB.lt {W : World} {b : Nat} {c0 c1 c2 : Value} (h : TB W b c0 c1 c2) : b < W.heap.size := by
  unfold TB at h
  rcases Nat.lt_or_ge b W.heap.size with h' | h'
  · exact h'
  · rw [Array.getElem?_eq_none h'] at h; cases h
theorem TB.stay {W W' : World} {b : Nat} {c0 c1 c2 : Value} (h : TB W b c0 c1 c2) (hb : Below W.heap.size W W') : TB W' b c0 c1 c2 := h.kept (hb.block b h.lt)
theorem Below.three {N b : Nat} {w w' : World} (h : Below N w w') (hb : N ≤ b) (u0 u1 u2 : Value) : Below N w (((w'.setCell ⟨b, 0, none⟩ u0).setCell ⟨b, 1, none⟩ u1).setCell ⟨b, 2, none⟩ u2) :=
  ((h.setCell (p := ⟨b, 0, none⟩) hb u0).setCell (p := ⟨b, 1, none⟩) hb u1).setCell (p := ⟨b, 2, none⟩) hb u2
abbrev tkV (k : Int) (t : ByteArray) (a : Int) : Value := .agg #[.int .i64 k, .string t, .int .i64 a]
def TokAns (o : Except Int (Int × List UInt8 × Nat)) (e : Ending) : Prop :=
  match o with
  | .ok (k, t, n) => e = .returned (.tuple #[tkV k ⟨t.toArray⟩ 0, .int .i64 n, .int .i64 0])
  | .error c => c ≠ 0 ∧ ∃ (k : Int) (t : ByteArray) (n : Int), e = .returned (.tuple #[tkV k t 0, .int .i64 n, .int .i64 c])
def TokPost (o : Except Int (Int × List UInt8 × Nat)) (w : World) (e : Ending) (w' : World) : Prop := TokAns o e ∧ Below w.heap.size w w'
def nameR (l : List UInt8) : Except Int (Int × List UInt8 × Nat) := if T1.nameL (l.take (wdN l)) = true then .ok (2, l.take (wdN l), wdN l) else .error 3
def intR (l : List UInt8) : Except Int (Int × List UInt8 × Nat) := if (T1.numL (l.take (wdN (l.drop 1) + 1))).2 = 0 then .ok (3, l.take (wdN (l.drop 1) + 1), wdN (l.drop 1) + 1) else .error (T1.numL (l.take (wdN (l.drop 1) + 1))).2
def textR (l : List UInt8) : Except Int (Int × List UInt8 × Nat) := if l.length < ltN (l.drop 1) + 2 then .error 3 else match T1.unquoteL (l.take (ltN (l.drop 1) + 2)) with
  | none => .error 3
  | some t => .ok (4, t, ltN (l.drop 1) + 2)
theorem ext_to (s : ByteArray) (n : Nat) : (s.extract 0 n).data.toList = s.data.toList.take n := by
  rw [ByteArray.data_extract, Array.toList_extract]; simp
theorem ext_to' (s : ByteArray) (n : Nat) : s.extract 0 n = ⟨(s.data.toList.take n).toArray⟩ := by
  rw [← ext_to]
set_option maxHeartbeats 2000000 in
theorem tkname_any (s : ByteArray) (hs : s.size ≤ maxLen) (w : World) :
    Calls Tryz.prog 112 #[.string s] w (TokPost (nameR s.data.toList) w) := by
  have HX : Hid (TB (w.alloc (.cells #[.int .i64 0, .string ⟨#[]⟩, .int .i64 0] 105 (0, 0))) w.heap.size (.int .i64 0) (.string ⟨#[]⟩) (.int .i64 0)) := Lib.hid (heap_alloc_new w _)
  have HB : Hid (Below w.heap.size w (w.alloc (.cells #[.int .i64 0, .string ⟨#[]⟩, .int .i64 0] 105 (0, 0)))) := Lib.hid ((Below.refl _ _).alloc (Nat.le_refl _) _)
  have hn := wdN_le s.data.toList
  have hsz := T1.size_eq s
  have hml : maxLen ≤ 9223372036854775807 := by decide
  go_enter Tryz.func112, Tryz.ntmps112
  go_wp2_with fail
  refine (word_any s hs _).mono ?_
  rintro e w1 ⟨rfl, hb⟩
  have HB1 := Lib.hid (HB.out.trans (hb.mono (by simp)))
  have HX1 := Lib.hid (HX.out.stay hb)
  clear hb
  have HE := Lib.hid (ext_to s (wdN s.data.toList))
  have HR : Hid (nameR s.data.toList = if T1.nameL (s.data.toList.take (wdN s.data.toList)) = true then .ok (2, s.data.toList.take (wdN s.data.toList), wdN s.data.toList) else .error 3) := Lib.hid rfl
  generalize nameR s.data.toList = R at *
  generalize hwn : wdN s.data.toList = n at *
  have hn2 : (n : Int) ≤ s.size := by omega
  have hes : (s.extract 0 n).size ≤ maxLen := by
    have h1 := T1.size_eq (s.extract 0 n)
    have h2 := congrArg List.length HE.out
    rw [List.length_take] at h2
    omega
  have CALL := Lib.hid (T1.name_any (s.extract 0 n) w1 hes)
  clear hes
  go_wp2_with fail
  refine CALL.out.mono ?_
  rintro e w2 ⟨rfl, rfl⟩
  rw [HE.out]
  obtain ⟨x0, x1, x2⟩ := HX1.out.cells
  have g0 := HX1.out.frz 0
  have g1 := HX1.out.frz 1
  have g2 := HX1.out.frz 2
  cases hc : T1.nameL (s.data.toList.take n) with
  | true =>
    have E1 : Hid (R = .ok (2, s.data.toList.take n, n)) := Lib.hid (by rw [HR.out, hc]; rfl)
    have ZZ := Lib.hid (HX1.out.three (.int .i64 2) (.string (s.extract 0 n)) (.int .i64 0)).cells
    go_wp2_with fail
    obtain ⟨z0, z1, z2⟩ := ZZ.out
    refine bodyPost_ret (v := .tuple #[tkV 2 (s.extract 0 n) 0, .int .i64 n, .int .i64 0]) (by simp [results, Tryz.results112, go_sem, z0, z1, z2]) rfl ⟨?_, Below.three HB1.out (Nat.le_refl _) _ _ _⟩
    rw [E1.out, ext_to']; rfl
  | false =>
    have E1 : Hid (R = .error 3) := Lib.hid (by rw [HR.out, hc]; rfl)
    have ZZ := Lib.hid (HX1.out.three (.int .i64 0) (.string ⟨#[]⟩) (.int .i64 0)).cells
    go_wp2_with fail
    obtain ⟨z0, z1, z2⟩ := ZZ.out
    refine bodyPost_ret (v := .tuple #[tkV 0 ⟨#[]⟩ 0, .int .i64 0, .int .i64 3]) (by simp [results, Tryz.results112, go_sem, z0, z1, z2]) rfl ⟨?_, Below.three HB1.out (Nat.le_refl _) _ _ _⟩
    rw [E1.out]
    exact ⟨by decide, _, _, _, rfl⟩
theorem ext_drop (s : ByteArray) (k : Nat) : (s.extract k s.size).data.toList = s.data.toList.drop k := T1.drop_of s k
set_option maxHeartbeats 2000000 in
theorem tkint_any (s : ByteArray) (h0 : 0 < s.size) (hs : s.size ≤ 281474976710656) (w : World) (hL : T1.Laid w) :
    Calls Tryz.prog 113 #[.string s] w (TokPost (intR s.data.toList) w) := by
  have HX : Hid (TB (w.alloc (.cells #[.int .i64 0, .string ⟨#[]⟩, .int .i64 0] 105 (0, 0))) w.heap.size (.int .i64 0) (.string ⟨#[]⟩) (.int .i64 0)) := Lib.hid (heap_alloc_new w _)
  have HB : Hid (Below w.heap.size w (w.alloc (.cells #[.int .i64 0, .string ⟨#[]⟩, .int .i64 0] 105 (0, 0)))) := Lib.hid ((Below.refl _ _).alloc (Nat.le_refl _) _)
  have hn := wdN_le (s.data.toList.drop 1)
  have hsz := T1.size_eq s
  rw [List.length_drop] at hn
  have HD := Lib.hid (ext_drop s 1)
  have HL := Lib.hid hL
  have HWS : Hid ((s.extract 1 s.size).size ≤ maxLen) := Lib.hid (by
    have h1 := T1.size_eq (s.extract 1 s.size)
    rw [HD.out, List.length_drop] at h1
    unfold maxLen; omega)
  have CALL1 := Lib.hid (word_any (s.extract 1 s.size) HWS.out (w.alloc (.cells #[.int .i64 0, .string ⟨#[]⟩, .int .i64 0] 105 (0, 0))))
  have h1s : (1 : Int) ≤ s.size := by omega
  clear hL
  go_enter Tryz.func113, Tryz.ntmps113
  go_wp2_with fail
  refine CALL1.out.mono ?_
  rintro e w1 ⟨rfl, hb⟩
  rw [HD.out]
  have HB1 := Lib.hid (HB.out.trans (hb.mono (by simp)))
  have HX1 := Lib.hid (HX.out.stay hb)
  clear hb CALL1
  have HE := Lib.hid (ext_to s (wdN (s.data.toList.drop 1) + 1))
  have HR : Hid (intR s.data.toList = if (T1.numL (s.data.toList.take (wdN (s.data.toList.drop 1) + 1))).2 = 0 then .ok (3, s.data.toList.take (wdN (s.data.toList.drop 1) + 1), wdN (s.data.toList.drop 1) + 1) else .error (T1.numL (s.data.toList.take (wdN (s.data.toList.drop 1) + 1))).2) := Lib.hid rfl
  generalize intR s.data.toList = R at *
  generalize hwn : wdN (s.data.toList.drop 1) = m at *
  have hn2 : (m : Int) + 1 ≤ s.size := by omega
  have hn3 : (1 : Int) + m ≤ s.size := by omega
  have hn4 : (0 : Int) ≤ 1 + (m : Int) := by omega
  have hn5 : ((1 : Int) + m).toNat = m + 1 := by omega
  have hes : (s.extract 0 (m + 1)).size ≤ 281474976710656 := by
    have h1 := T1.size_eq (s.extract 0 (m + 1))
    have h2 := congrArg List.length HE.out
    rw [List.length_take] at h2
    omega
  have CALL := Lib.hid (T1.number_any (s.extract 0 (m + 1)) w1 (HL.out.below HB1.out) hes)
  clear hes
  go_wp2_with fail
  refine CALL.out.mono ?_
  rintro e w2 ⟨rfl, hb⟩
  rw [HE.out]
  have HB2 := Lib.hid (HB1.out.trans (hb.mono HB1.out.size))
  have HX2 := Lib.hid (HX1.out.stay hb)
  obtain ⟨x0, x1, x2⟩ := HX2.out.cells
  have g0 := HX2.out.frz 0
  have g1 := HX2.out.frz 1
  have g2 := HX2.out.frz 2
  clear hb CALL
  generalize T1.numL (s.data.toList.take (m + 1)) = p at *
  obtain ⟨v, c⟩ := p
  have ZZ := Lib.hid (HX2.out.three (.int .i64 3) (.string (s.extract 0 (m + 1))) (.int .i64 0)).cells
  unfold T1.num2
  go_wp2_with fail
  obtain ⟨z0, z1, z2⟩ := ZZ.out
  have e1 : (1 + (m : Int)) = ((m + 1 : Nat) : Int) := by omega
  refine bodyPost_ret (v := .tuple #[tkV 3 (s.extract 0 (m + 1)) 0, .int .i64 (1 + (m : Int)), .int .i64 c]) (by simp [results, Tryz.results113, go_sem, z0, z1, z2]) rfl ⟨?_, Below.three HB2.out (Nat.le_refl _) _ _ _⟩
  by_cases hc : c = 0
  · subst hc
    rw [HR.out, ext_to', e1]; rfl
  · rw [HR.out, if_neg hc]
    exact ⟨hc, _, _, _, rfl⟩
set_option maxHeartbeats 2000000 in
theorem tktext_any (s : ByteArray) (h0 : 0 < s.size) (hs : s.size ≤ 137438953472) (w : World) :
    Calls Tryz.prog 114 #[.string s] w (TokPost (textR s.data.toList) w) := by
  have HX0 : TB (w.alloc (.cells #[.int .i64 0, .string ⟨#[]⟩, .int .i64 0] 105 (0, 0))) w.heap.size (.int .i64 0) (.string ⟨#[]⟩) (.int .i64 0) := heap_alloc_new w _
  have HB0 : Below w.heap.size w (w.alloc (.cells #[.int .i64 0, .string ⟨#[]⟩, .int .i64 0] 105 (0, 0))) := (Below.refl _ _).alloc (Nat.le_refl _) _
  have hsz1 : (w.alloc (.cells #[.int .i64 0, .string ⟨#[]⟩, .int .i64 0] 105 (0, 0))).heap.size = w.heap.size + 1 := by simp
  have HV : Hid (BoxB (w.heap.size + 1) false ((w.alloc (.cells #[.int .i64 0, .string ⟨#[]⟩, .int .i64 0] 105 (0, 0))).alloc (.cells #[.bool false] 4 (0, 0)))) := Lib.hid (hsz1 ▸ heap_alloc_new (w.alloc (.cells #[.int .i64 0, .string ⟨#[]⟩, .int .i64 0] 105 (0, 0))) _)
  have HB1 : Below w.heap.size w ((w.alloc (.cells #[.int .i64 0, .string ⟨#[]⟩, .int .i64 0] 105 (0, 0))).alloc (.cells #[.bool false] 4 (0, 0))) := HB0.alloc (by omega) _
  have HX1 : TB ((w.alloc (.cells #[.int .i64 0, .string ⟨#[]⟩, .int .i64 0] 105 (0, 0))).alloc (.cells #[.bool false] 4 (0, 0))) w.heap.size (.int .i64 0) (.string ⟨#[]⟩) (.int .i64 0) := HX0.stay ((Below.refl _ _).alloc (Nat.le_refl _) _)
  have hsz2 : ((w.alloc (.cells #[.int .i64 0, .string ⟨#[]⟩, .int .i64 0] 105 (0, 0))).alloc (.cells #[.bool false] 4 (0, 0))).heap.size = w.heap.size + 2 := by simp
  have HB := Lib.hid HB1
  have HX := Lib.hid HX1
  have HZ2 := Lib.hid hsz2
  have hn := ltN_le (s.data.toList.drop 1)
  have hsz := T1.size_eq s
  rw [List.length_drop] at hn
  have HD := Lib.hid (ext_drop s 1)
  have HWS : Hid ((s.extract 1 s.size).size ≤ maxLen) := Lib.hid (by
    have h1 := T1.size_eq (s.extract 1 s.size)
    rw [HD.out, List.length_drop] at h1
    unfold maxLen; omega)
  have CALL1 := Lib.hid (span_any (Inv := BoxB (w.heap.size + 1)) (p := w.heap.size + 1) 170 (.inr (.inr rfl)) #[pp (w.heap.size + 1)] lt_high ltHi_idem (fun st r w' h hr _ => lit1_any _ st r w' h hr) (fun st a b h e => h.kept a b e) (s.extract 1 s.size) HWS.out false _ HV.out (by omega))
  have h1s : (1 : Int) ≤ s.size := by omega
  clear HX0 HB0 hsz1 HB1 HX1 hsz2
  go_enter Tryz.func114, Tryz.ntmps114
  go_wp2_with fail
  refine CALL1.out.mono ?_
  rintro e w1 ⟨rfl, hb⟩
  rw [HD.out]
  have HB2 := Lib.hid (HB.out.trans (hb.below (by omega) (by have := HZ2.out; omega)))
  have HX2 : Hid (TB w1 w.heap.size (.int .i64 0) (.string ⟨#[]⟩) (.int .i64 0)) := Lib.hid (HX.out.kept (hb.block _ (by have := HZ2.out; omega) (by omega)))
  clear hb CALL1
  have HE := Lib.hid (ext_to s (ltN (s.data.toList.drop 1) + 2))
  have HR : Hid (textR s.data.toList = if s.data.toList.length < ltN (s.data.toList.drop 1) + 2 then .error 3 else match T1.unquoteL (s.data.toList.take (ltN (s.data.toList.drop 1) + 2)) with
    | none => .error 3
    | some t => .ok (4, t, ltN (s.data.toList.drop 1) + 2)) := Lib.hid rfl
  generalize textR s.data.toList = R at *
  have hln : spanL ltS false (s.data.toList.drop 1) = ltN (s.data.toList.drop 1) := rfl
  rw [hln]
  generalize hwn : ltN (s.data.toList.drop 1) = m at *
  obtain ⟨x0, x1, x2⟩ := HX2.out.cells
  have g0 := HX2.out.frz 0
  have g1 := HX2.out.frz 1
  have g2 := HX2.out.frz 2
  by_cases hlt : s.size < m + 2
  · have E1 : Hid (R = .error 3) := Lib.hid (by rw [HR.out, if_pos (by omega)])
    have hgt : ((m : Int) + 2 > s.size) := by omega
    have ZZ := Lib.hid (HX2.out.three (.int .i64 0) (.string ⟨#[]⟩) (.int .i64 0)).cells
    clear HR hln
    go_wp2_with fail
    obtain ⟨z0, z1, z2⟩ := ZZ.out
    refine bodyPost_ret (v := .tuple #[tkV 0 ⟨#[]⟩ 0, .int .i64 0, .int .i64 3]) (by simp [results, Tryz.results114, go_sem, z0, z1, z2]) rfl ⟨?_, Below.three HB2.out (Nat.le_refl _) _ _ _⟩
    rw [E1.out]
    exact ⟨by decide, _, _, _, rfl⟩
  · have hgt : ¬ ((m : Int) + 2 > s.size) := by omega
    have hle : ((m : Int) + 2 ≤ s.size) := by omega
    have E1 : Hid (R = match T1.unquoteL (s.data.toList.take (m + 2)) with | none => .error 3 | some t => .ok (4, t, m + 2)) := Lib.hid (by rw [HR.out, if_neg (by omega)])
    have hes : (s.extract 0 (m + 2)).size ≤ 137438953472 := by
      have h1 := T1.size_eq (s.extract 0 (m + 2))
      have h2 := congrArg List.length HE.out
      rw [List.length_take] at h2
      omega
    have CALL := Lib.hid (T1.unquote_any (s.extract 0 (m + 2)) w1 hes)
    clear hes HR hln hlt x0 x1 x2 g0 g1 g2
    go_wp2_with fail
    refine CALL.out.mono ?_
    rintro e w2 ⟨rfl, hb⟩
    rw [HE.out]
    have HB3 := Lib.hid (HB2.out.trans (hb.mono HB2.out.size))
    have HX3 := Lib.hid (HX2.out.stay hb)
    obtain ⟨x0, x1, x2⟩ := HX3.out.cells
    have g0 := HX3.out.frz 0
    have g1 := HX3.out.frz 1
    have g2 := HX3.out.frz 2
    clear hb CALL
    have e1 : ((m : Int) + 2) = ((m + 2 : Nat) : Int) := by omega
    cases hu : T1.unquoteL (s.data.toList.take (m + 2)) with
    | none =>
      have E2 : Hid (R = .error 3) := Lib.hid (by rw [E1.out, hu])
      have ZZ := Lib.hid (HX3.out.three (.int .i64 4) (.string ⟨#[]⟩) (.int .i64 0)).cells
      clear hu e1
      unfold T1.uq2
      go_wp2_with fail
      obtain ⟨z0, z1, z2⟩ := ZZ.out
      refine bodyPost_ret (v := .tuple #[tkV 4 ⟨#[]⟩ 0, .int .i64 (m + 2), .int .i64 3]) (by simp [results, Tryz.results114, go_sem, z0, z1, z2]) rfl ⟨?_, Below.three HB3.out (Nat.le_refl _) _ _ _⟩
      rw [E2.out]
      exact ⟨by decide, _, _, _, rfl⟩
    | some t =>
      have E2 : Hid (R = .ok (4, t, m + 2)) := Lib.hid (by rw [E1.out, hu])
      have ZZ := Lib.hid (HX3.out.three (.int .i64 4) (.string ⟨t.toArray⟩) (.int .i64 0)).cells
      have EE := Lib.hid e1
      clear hu e1
      unfold T1.uq2
      go_wp2_with fail
      obtain ⟨z0, z1, z2⟩ := ZZ.out
      refine bodyPost_ret (v := .tuple #[tkV 4 ⟨t.toArray⟩ 0, .int .i64 (m + 2), .int .i64 0]) (by simp [results, Tryz.results114, go_sem, z0, z1, z2]) rfl ⟨?_, Below.three HB3.out (Nat.le_refl _) _ _ _⟩
      rw [E2.out, EE.out]
      rfl
end Go.Proofs.YthjoelpfmimedaaGreatDoor.K
namespace Go.Proofs.YthjoelpfmimedaaGreatDoor.K
open Go.RowKit
def RB (p : Nat) (r : Int) (w : World) : Prop := w.heap[p]? = some (.cells #[.int .i32 r] 21 (0, 0))
theorem RB.cell {p : Nat} {r : Int} {w : World} (h : RB p r w) : w.cell? ⟨p, 0, none⟩ = some (.int .i32 r) ∧ w.frozen? ⟨p, 0, none⟩ = false := by
  unfold RB at h
  exact ⟨by rw [cell_of_row _ _ _ _ _ _ h]; rfl, by simp [World.frozen?, h]⟩
theorem RB.stay {p : Nat} {r : Int} {w w' : World} (h : RB p r w) (hb : Below w.heap.size w w') : RB p r w' := by
  unfold RB at *
  have : p < w.heap.size := by
    rcases Nat.lt_or_ge p w.heap.size with h' | h'
    · exact h'
    · rw [Array.getElem?_eq_none h'] at h; cases h
  exact (hb.block p this).trans h
set_option maxHeartbeats 2000000 in
theorem isin_any (p : Nat) (r : Nat) (hr : r < 128 ∨ Utf8.valid r = true) (set : ByteArray) (hset : AscSet set) (w : World) (h : RB p r w) :
    Calls Tryz.prog 109 #[.string set, pp p] w fun e w' => e = .returned (.bool (decide (r < 128 ∧ r.toUInt8 ∈ set.data.toList))) ∧ Below w.heap.size w w' := by
  have CALL := Lib.hid (contains_any set hset r hr w)
  obtain ⟨q0, f0⟩ := h.cell
  clear h
  generalize decide (r < 128 ∧ r.toUInt8 ∈ set.data.toList) = b at *
  go_enter Tryz.func109, Tryz.ntmps109
  go_wp2_with fail
  refine CALL.out.mono ?_
  rintro e w1 ⟨rfl, hb⟩
  have HB := Lib.hid hb
  clear hb
  go_wp2_with fail
  go_ret
  exact ⟨rfl, HB.out⟩
def sgS : ByteArray := ⟨#[33, 36, 38, 40, 41, 58, 61, 64, 91, 93, 123, 124, 125]⟩
def leS : ByteArray := ⟨#[65, 66, 67, 68, 69, 70, 71, 72, 73, 74, 75, 76, 77, 78, 79, 80, 81, 82, 83, 84, 85, 86, 87, 88, 89, 90, 97, 98, 99, 100, 101, 102, 103, 104, 105, 106, 107, 108, 109, 110, 111, 112, 113, 114, 115, 116, 117, 118, 119, 120, 121, 122, 95]⟩
def dmS : ByteArray := ⟨#[45, 48, 49, 50, 51, 52, 53, 54, 55, 56, 57]⟩
theorem sgS_set : AscSet sgS := ⟨by decide +kernel, by decide, by decide⟩
theorem leS_set : AscSet leS := ⟨by decide +kernel, by decide, by decide⟩
theorem dmS_set : AscSet dmS := ⟨by decide +kernel, by decide, by decide⟩
theorem sgS_is : ∀ c : UInt8, decide (c ∈ sgS.data.toList) = decide (c ∈ sgL) := fun _ => rfl
theorem leS_is : ∀ c : UInt8, decide (c ∈ leS.data.toList) = T1.letU (c.toNat : Int) := all_u8 (by decide +kernel)
theorem dmS_is : ∀ c : UInt8, decide (c ∈ dmS.data.toList) = dmB c := all_u8 (by decide +kernel)
theorem first_rune (s : ByteArray) (h : 0 < s.size) : ∃ r k : Nat, Lib.decodeGo s = (r, k) ∧ (r < 128 ∨ Utf8.valid r = true) ∧ (∀ set, AscSet set → decide (r < 128 ∧ r.toUInt8 ∈ set.data.toList) = decide (s[0] ∈ set.data.toList)) ∧ ((r : Int) == 34) = decide (s[0] = 34) := by
  have hd : Lib.decodeGo s = Utf8.decode s 0 := by unfold Lib.decodeGo; rw [if_neg (by omega)]
  refine ⟨(Utf8.decode s 0).1, (Utf8.decode s 0).2, hd, decode_ok s 0 h, ?_, ?_⟩
  · intro set hs
    apply decide_eq_decide.2
    rcases Nat.lt_or_ge (s[0]).toNat 128 with ha | ha
    · rw [decode_ascii s 0 h ha]
      have e : ((s[0]).toNat).toUInt8 = s[0] := by rw [Nat.toUInt8_eq, UInt8.ofNat_toNat]
      show (s[0]).toNat < 128 ∧ ((s[0]).toNat).toUInt8 ∈ _ ↔ _
      rw [e]
      exact ⟨fun x => x.2, fun x => ⟨ha, x⟩⟩
    · have := (decode_high s 0 h ha).1
      exact ⟨fun x => by omega, fun x => by have := hs.asc _ x; omega⟩
  · rcases Nat.lt_or_ge (s[0]).toNat 128 with ha | ha
    · rw [decode_ascii s 0 h ha]
      show (((s[0]).toNat : Int) == 34) = _
      by_cases hc : s[0] = 34
      · rw [hc]; rfl
      · rw [decide_eq_false hc]
        exact beq_false_of_ne (fun e => hc (UInt8.toNat_inj.1 (by
          have e : ((s[0]).toNat : Int) = 34 := e
          show (s[0]).toNat = 34
          omega)))
    · have h1 := (decode_high s 0 h ha).1
      have hc : ¬ s[0] = 34 := by
        intro e
        rw [e] at ha
        revert ha; decide
      rw [decide_eq_false hc]
      exact beq_false_of_ne (by omega)
theorem tokR_eq (s : ByteArray) (h : 0 < s.size) : tokR s.data.toList = if s[0] ∈ sgL then .ok (1, s.data.toList.take 1, 1) else if s.data.toList.take 3 = elL then .ok (1, elL, 3)
    else if T1.letU ((s[0]).toNat : Int) = true then nameR s.data.toList else if dmB s[0] = true then intR s.data.toList else if s[0] = 34 then textR s.data.toList else .error 3 := by
  have e : s.data.toList.getD 0 0 = s[0] := T1.getD_at s 0 h
  rw [← e]; rfl
theorem hasPrefix_el (l : List UInt8) : Lib.hasPrefix l [46, 46, 46] = decide (l.take 3 = elL) := by
  unfold Lib.hasPrefix
  rw [Bool.eq_iff_iff, List.isPrefixOf_iff_prefix, List.prefix_iff_eq_take, decide_eq_true_iff]
  exact ⟨fun h => h.symm, fun h => h.symm⟩
theorem TokAns.parts {o : Except Int (Int × List UInt8 × Nat)} {e : Ending} (h : TokAns o e) : ∃ (k : Int) (t : ByteArray) (n c : Int), e = .returned (.tuple #[tkV k t 0, .int .i64 n, .int .i64 c]) := by
  cases o with
  | ok p => obtain ⟨k, t, n⟩ := p; exact ⟨_, _, _, _, h⟩
  | error c => obtain ⟨_, k, t, n, h⟩ := h; exact ⟨_, _, _, _, h⟩
set_option maxRecDepth 100000 in
set_option maxHeartbeats 4000000 in
theorem first_any (s : ByteArray) (h0 : 0 < s.size) (hs : s.size ≤ 137438953472) (w : World) (hL : LK w) :
    Calls Tryz.prog 52 #[.string s] w (TokPost (tokR s.data.toList) w) := by
  have HX0 : Hid (TB (w.alloc (.cells #[.int .i64 0, .string ⟨#[]⟩, .int .i64 0] 105 (0, 0))) w.heap.size (.int .i64 0) (.string ⟨#[]⟩) (.int .i64 0)) := Lib.hid (heap_alloc_new w _)
  have hb0 : Below w.heap.size w (w.alloc (.cells #[.int .i64 0, .string ⟨#[]⟩, .int .i64 0] 105 (0, 0))) := (Below.refl _ _).alloc (Nat.le_refl _) _
  have HB0 := Lib.hid hb0
  have CALL0 := Lib.hid (Tryz.utf8_DecodeRuneInString s (w.alloc (.cells #[.int .i64 0, .string ⟨#[]⟩, .int .i64 0] 105 (0, 0))) (hL.below hb0).utf)
  obtain ⟨r, k, e1, hr, hset, h34⟩ := first_rune s h0
  rw [e1] at CALL0
  have HR := Lib.hid hr
  have HSET := Lib.hid hset
  have H34 := Lib.hid h34
  have HL := Lib.hid hL
  have HT := Lib.hid (tokR_eq s h0)
  have HS := Lib.hid hs
  have H0 := Lib.hid h0
  have h1s : (1 : Int) ≤ s.size := by omega
  clear hb0 e1 hr hset h34 hL hs
  generalize tokR s.data.toList = R at *
  generalize hc : s[0] = c at *
  clear hc
  go_enter Tryz.func52, Tryz.ntmps52
  go_wp2_with fail
  refine CALL0.out.mono ?_
  rintro e w1 ⟨rfl, hb⟩
  have HB1 := Lib.hid (HB0.out.trans (hb.mono (by simp)))
  have HX1 := Lib.hid (HX0.out.stay hb)
  have HV : Hid (RB w1.heap.size r (w1.alloc (.cells #[.int .i32 r] 21 (0, 0)))) := Lib.hid (heap_alloc_new w1 _)
  have HB2 : Hid (Below w.heap.size w (w1.alloc (.cells #[.int .i32 r] 21 (0, 0)))) := Lib.hid (HB1.out.alloc HB1.out.size _)
  have HX2 : Hid (TB (w1.alloc (.cells #[.int .i32 r] 21 (0, 0))) w.heap.size (.int .i64 0) (.string ⟨#[]⟩) (.int .i64 0)) := Lib.hid (HX1.out.stay ((Below.refl _ _).alloc (Nat.le_refl _) _))
  have CALL1 := Lib.hid (isin_any w1.heap.size r HR.out sgS sgS_set _ HV.out)
  clear hb CALL0
  go_wp2_with fail
  refine CALL1.out.mono ?_
  rintro e w2 ⟨rfl, hb⟩
  rw [HSET.out _ sgS_set, sgS_is]
  have HB3 := Lib.hid (HB2.out.trans (hb.mono HB2.out.size))
  have HX3 := Lib.hid (HX2.out.stay hb)
  have HV3 := Lib.hid (HV.out.stay hb)
  clear hb CALL1 HX0 HB0 HX1 HB1 HX2 HB2 HV
  generalize w1.heap.size = p at *
  by_cases c1 : c ∈ sgL
  · have d1 : decide (c ∈ sgL) = true := decide_eq_true c1
    have E1 := Lib.hid (HT.out.trans (if_pos c1))
    have HE := Lib.hid (ext_to' s 1)
    have ZZ := Lib.hid (HX3.out.three (.int .i64 1) (.string (s.extract 0 1)) (.int .i64 0)).cells
    obtain ⟨x0, x1, x2⟩ := HX3.out.cells
    have g0 := HX3.out.frz 0
    have g1 := HX3.out.frz 1
    have g2 := HX3.out.frz 2
    rw [d1]
    clear HT c1 d1
    go_wp2_with fail
    obtain ⟨z0, z1, z2⟩ := ZZ.out
    refine bodyPost_ret (v := .tuple #[tkV 1 (s.extract 0 1) 0, .int .i64 1, .int .i64 0]) (by simp [results, Tryz.results52, go_sem, z0, z1, z2]) rfl ⟨?_, Below.three HB3.out (Nat.le_refl _) _ _ _⟩
    rw [E1.out, HE.out]
    rfl
  have d1 : decide (c ∈ sgL) = false := decide_eq_false c1
  have HT1 := Lib.hid (HT.out.trans (if_neg c1))
  rw [d1]
  clear HT c1 d1
  go_wp2_with fail
  refine (Tryz.strings_HasPrefix s ⟨#[46, 46, 46]⟩ w2).mono ?_
  rintro e w3 ⟨rfl, rfl⟩
  rw [hasPrefix_el]
  by_cases c2 : s.data.toList.take 3 = elL
  · have d2 : decide (s.data.toList.take 3 = elL) = true := decide_eq_true c2
    have E1 := Lib.hid (HT1.out.trans (if_pos c2))
    have ZZ := Lib.hid (HX3.out.three (.int .i64 1) (.string ⟨#[46, 46, 46]⟩) (.int .i64 0)).cells
    obtain ⟨x0, x1, x2⟩ := HX3.out.cells
    have g0 := HX3.out.frz 0
    have g1 := HX3.out.frz 1
    have g2 := HX3.out.frz 2
    rw [d2]
    clear HT1 c2 d2
    go_wp2_with fail
    obtain ⟨z0, z1, z2⟩ := ZZ.out
    refine bodyPost_ret (v := .tuple #[tkV 1 ⟨#[46, 46, 46]⟩ 0, .int .i64 3, .int .i64 0]) (by simp [results, Tryz.results52, go_sem, z0, z1, z2]) rfl ⟨?_, Below.three HB3.out (Nat.le_refl _) _ _ _⟩
    rw [E1.out]
    rfl
  have d2 : decide (s.data.toList.take 3 = elL) = false := decide_eq_false c2
  have HT2 := Lib.hid (HT1.out.trans (if_neg c2))
  have CALL2 := Lib.hid (isin_any p r HR.out leS leS_set _ HV3.out)
  rw [d2]
  clear HT1 c2 d2
  go_wp2_with fail
  refine CALL2.out.mono ?_
  rintro e w4 ⟨rfl, hb⟩
  rw [HSET.out _ leS_set, leS_is]
  have HB4 := Lib.hid (HB3.out.trans (hb.mono HB3.out.size))
  have HX4 := Lib.hid (HX3.out.stay hb)
  have HV4 := Lib.hid (HV3.out.stay hb)
  clear hb CALL2 HB3 HX3 HV3
  by_cases c3 : T1.letU (c.toNat : Int) = true
  · have E1 := Lib.hid (HT2.out.trans (if_pos c3))
    have CALL3 := Lib.hid (tkname_any s (by have := HS.out; unfold maxLen; omega) w4)
    rw [c3]
    clear HT2 c3
    go_wp2_with fail
    refine CALL3.out.mono ?_
    rintro e w5 ⟨ha, hb⟩
    have HB5 := Lib.hid (HB4.out.trans (hb.mono HB4.out.size))
    have HX5 := Lib.hid (HX4.out.stay hb)
    clear hb CALL3 HB4 HX4
    obtain ⟨k1, t1, n1, q1, rfl⟩ := ha.parts
    have HA := Lib.hid ha
    have ZZ := Lib.hid (HX5.out.three (.int .i64 k1) (.string t1) (.int .i64 0)).cells
    obtain ⟨x0, x1, x2⟩ := HX5.out.cells
    have g0 := HX5.out.frz 0
    have g1 := HX5.out.frz 1
    have g2 := HX5.out.frz 2
    clear ha
    go_wp2_with fail
    obtain ⟨z0, z1, z2⟩ := ZZ.out
    refine bodyPost_ret (v := .tuple #[tkV k1 t1 0, .int .i64 n1, .int .i64 q1]) (by simp [results, Tryz.results52, go_sem, z0, z1, z2]) rfl ⟨?_, Below.three HB5.out (Nat.le_refl _) _ _ _⟩
    rw [E1.out]
    exact HA.out
  have c3' : T1.letU (c.toNat : Int) = false := by simpa using c3
  have HT3 := Lib.hid (HT2.out.trans (if_neg c3))
  have CALL3 := Lib.hid (isin_any p r HR.out dmS dmS_set _ HV4.out)
  rw [c3']
  clear HT2 c3 c3'
  go_wp2_with fail
  refine CALL3.out.mono ?_
  rintro e w5 ⟨rfl, hb⟩
  rw [HSET.out _ dmS_set, dmS_is]
  have HB5 := Lib.hid (HB4.out.trans (hb.mono HB4.out.size))
  have HX5 := Lib.hid (HX4.out.stay hb)
  have HV5 := Lib.hid (HV4.out.stay hb)
  clear hb CALL3 HB4 HX4 HV4
  by_cases c4 : dmB c = true
  · have E1 := Lib.hid (HT3.out.trans (if_pos c4))
    have CALL4 := Lib.hid (tkint_any s H0.out (by have := HS.out; omega) w5 (HL.out.below HB5.out).num)
    rw [c4]
    clear HT3 c4
    go_wp2_with fail
    refine CALL4.out.mono ?_
    rintro e w6 ⟨ha, hb⟩
    have HB6 := Lib.hid (HB5.out.trans (hb.mono HB5.out.size))
    have HX6 := Lib.hid (HX5.out.stay hb)
    clear hb CALL4 HB5 HX5
    obtain ⟨k1, t1, n1, q1, rfl⟩ := ha.parts
    have HA := Lib.hid ha
    have ZZ := Lib.hid (HX6.out.three (.int .i64 k1) (.string t1) (.int .i64 0)).cells
    obtain ⟨x0, x1, x2⟩ := HX6.out.cells
    have g0 := HX6.out.frz 0
    have g1 := HX6.out.frz 1
    have g2 := HX6.out.frz 2
    clear ha
    go_wp2_with fail
    obtain ⟨z0, z1, z2⟩ := ZZ.out
    refine bodyPost_ret (v := .tuple #[tkV k1 t1 0, .int .i64 n1, .int .i64 q1]) (by simp [results, Tryz.results52, go_sem, z0, z1, z2]) rfl ⟨?_, Below.three HB6.out (Nat.le_refl _) _ _ _⟩
    rw [E1.out]
    exact HA.out
  have c4' : dmB c = false := by simpa using c4
  have HT4 := Lib.hid (HT3.out.trans (if_neg c4))
  rw [c4']
  obtain ⟨y0, y1⟩ := HV5.out.cell
  have h34 := H34.out
  clear HT3 c4 c4'
  by_cases c5 : c = 34
  · have E1 := Lib.hid (HT4.out.trans (if_pos c5))
    have CALL4 := Lib.hid (tktext_any s H0.out HS.out w5)
    rw [decide_eq_true c5] at h34
    clear HT4 c5
    go_wp2_with fail
    refine CALL4.out.mono ?_
    rintro e w6 ⟨ha, hb⟩
    have HB6 := Lib.hid (HB5.out.trans (hb.mono HB5.out.size))
    have HX6 := Lib.hid (HX5.out.stay hb)
    clear hb CALL4 HB5 HX5 y0 y1
    obtain ⟨k1, t1, n1, q1, rfl⟩ := ha.parts
    have HA := Lib.hid ha
    have ZZ := Lib.hid (HX6.out.three (.int .i64 k1) (.string t1) (.int .i64 0)).cells
    obtain ⟨x0, x1, x2⟩ := HX6.out.cells
    have g0 := HX6.out.frz 0
    have g1 := HX6.out.frz 1
    have g2 := HX6.out.frz 2
    clear ha
    go_wp2_with fail
    obtain ⟨z0, z1, z2⟩ := ZZ.out
    refine bodyPost_ret (v := .tuple #[tkV k1 t1 0, .int .i64 n1, .int .i64 q1]) (by simp [results, Tryz.results52, go_sem, z0, z1, z2]) rfl ⟨?_, Below.three HB6.out (Nat.le_refl _) _ _ _⟩
    rw [E1.out]
    exact HA.out
  have E1 := Lib.hid (HT4.out.trans (if_neg c5))
  rw [decide_eq_false c5] at h34
  have ZZ := Lib.hid (HX5.out.three (.int .i64 0) (.string ⟨#[]⟩) (.int .i64 0)).cells
  obtain ⟨x0, x1, x2⟩ := HX5.out.cells
  have g0 := HX5.out.frz 0
  have g1 := HX5.out.frz 1
  have g2 := HX5.out.frz 2
  clear HT4 c5
  go_wp2_with fail
  obtain ⟨z0, z1, z2⟩ := ZZ.out
  refine bodyPost_ret (v := .tuple #[tkV 0 ⟨#[]⟩ 0, .int .i64 0, .int .i64 3]) (by simp [results, Tryz.results52, go_sem, z0, z1, z2]) rfl ⟨?_, Below.three HB5.out (Nat.le_refl _) _ _ _⟩
  rw [E1.out]
  exact ⟨by decide, _, _, _, rfl⟩
end Go.Proofs.YthjoelpfmimedaaGreatDoor.K
namespace Go.Proofs.YthjoelpfmimedaaGreatDoor.K
open Go.ChangeShapes Go.WideShapes Go.ChangeAt Go.RowKit
theorem own : ownKnob Tryz.prog.godebug = none := by kernel_rfl
theorem gPowType : (Tryz.prog.globals[5]?).map (·.type) = some 289 := by kernel_rfl
theorem gRng : Tryz.prog.globalNamed "strconv.ErrRange" = some 4 := by kernel_rfl
theorem gRngType : (Tryz.prog.globals[4]?).map (·.type) = some 179 := by kernel_rfl
theorem cellsPow : Tryz.prog.cellsOf 289 = 20 := by kernel_rfl
theorem cellsU64 : Tryz.prog.cellsOf 262 = 1 := by kernel_rfl
theorem cellsErr : Tryz.prog.cellsOf 294 = 1 := by kernel_rfl
theorem cellsStr : Tryz.prog.cellsOf 9 = 1 := by kernel_rfl
theorem gRngStar : "*" ++ "errors.errorString" = "*errors.errorString" := by decide
theorem rowErr (u : TypeId) (h : Tryz.prog.typeName? 3 u = some "*errors.errorString") : u = 292 :=
  typeName_ptr_named (nm := "errors.errorString") (by rw [gRngStar]; kernel_rfl) (by kernel_rfl) (by decide) u (by rw [gRngStar]; exact h)
abbrev laidList : List (String × DataW Unit) := [("math/bits.deBruijn32tab", Rows.laid_math_bits_deBruijn32tab), ("math/bits.deBruijn64tab", Rows.laid_math_bits_deBruijn64tab), ("internal/strconv.uint64pow10", Rows.laid_internal_strconv_uint64pow10), ("unicode/utf8.acceptRanges", Rows.laid_unicode_utf8_acceptRanges), ("strconv.ErrRange", Rows.laid_strconv_ErrRange), ("strconv.ErrSyntax", Rows.laid_strconv_ErrSyntax), ("unicode/utf8.first", Rows.laid_unicode_utf8_first)]
theorem firstIs : Rows.laid_unicode_utf8_first = Lib.firstData := Pinned.utf8First_eq
theorem acceptIs : (Rows.laid_unicode_utf8_acceptRanges : DataW Unit) = Lib.acceptData := by kernel_rfl
theorem laid_of {W : World} (h : laidMet Tryz.prog laidList W) : LK W := by
  refine ⟨⟨Lib.tabIs_of_head T1.gPow gPowType Tryz.underlying289 Tryz.underlying262 cellsU64 cellsPow h.tail.tail, ?_⟩, ?_⟩
  · obtain ⟨a, s, hv, _⟩ := laid_sentinel h.tail.tail.tail.tail gRng gRngType Tryz.underlying179 rowErr Tryz.underlying292 Tryz.underlying294 rfl rfl Tryz.underlying9 cellsErr cellsStr
    exact ⟨_, _, by simpa using World.var?_cell gRng hv 0⟩
  · exact utf8Tabs_of_reads (ρ := Tryz.lays260_ren) { Tryz.lays260 with } ⟨by kernel_rfl, by kernel_rfl, by kernel_rfl, by kernel_rfl, by kernel_rfl, by kernel_rfl, by kernel_rfl⟩
      (firstIs ▸ Lib.laidMet.reads h (.tail _ (.tail _ (.tail _ (.tail _ (.tail _ (.tail _ (.head _)))))))) (acceptIs ▸ Lib.laidMet.reads h (.tail _ (.tail _ (.tail _ (.head _)))))
noncomputable def laidWorld (os : Os) : World := World.laidAll Tryz.prog os laidList
theorem laid_os (os : Os) : (laidWorld os).os = os := World.laidAll_os _ _ _
set_option maxRecDepth 100000 in
theorem laid_met (os : Os) (args : Array Value) : laidMet Tryz.prog laidList ((laidWorld os).forCall (fun _ _ => 0) ⟨#[], args, []⟩).memory :=
  laidMet_laidAll args (by kernel_rfl) (by kernel_rfl)
end Go.Proofs.YthjoelpfmimedaaGreatDoor.K
namespace Go.Proofs.YthjoelpfmimedaaGreatDoor
open Go.ChangeShapes Go.WideShapes Go.ChangeAt Go.RowKit
end Go.Proofs.YthjoelpfmimedaaGreatDoor
namespace Go.Proofs.YthjoelpfmimedaaGreatDoor
open Go.RowKit
theorem cell_new (w : World) (xs : Array Value) (t : TypeId) (j : Nat) (h : j < xs.size) : (w.alloc (.cells xs t)).cell? ((⟨w.heap.size, 0, none⟩ : Addr).add j) = some xs[j] := by
  have e : (⟨w.heap.size, 0, none⟩ : Addr).add j = ⟨w.heap.size, j, none⟩ := by
    unfold Addr.add; split <;> simp_all
  rw [e, World.cell?_alloc_at _ _ _ _ rfl, Array.getElem?_eq_getElem h]
theorem take_snoc (l : List UInt8) (k : Nat) (h : k < l.length) : l.take (k + 1) = l.take k ++ [l[k]] := by
  rw [List.take_succ_eq_append_getElem h]
theorem size_eq (s : ByteArray) : s.data.toList.length = s.size := by rw [Array.length_toList]; rfl
theorem ne_nil_of {s : ByteArray} (h : 0 < s.size) : s.toList ≠ [] := by
  rw [Lib.toList_data]; intro e
  have := congrArg List.length e
  rw [size_eq, List.length_nil] at this; omega
theorem isEmpty_of {s : ByteArray} (h : 0 < s.size) : s.toList.isEmpty = false := by
  have := ne_nil_of h
  cases e : s.toList with
  | nil => exact absurd e this
  | cons => rfl
theorem nil_of {s : ByteArray} (h : s.size = 0) : s.toList = [] := by
  rw [Lib.toList_data]; have := size_eq s; exact List.eq_nil_of_length_eq_zero (by omega)
theorem byte_lt (c : UInt8) : (c.toNat : Int) ≤ 255 := by have := c.toNat_lt; omega
theorem u8_ne {c d : UInt8} (h : c ≠ d) : ((c.toNat : Int) == (d.toNat : Int)) = false := by
  rw [beq_eq_false_iff_ne]; intro e; exact h (UInt8.toNat_inj.1 (by omega))
end Go.Proofs.YthjoelpfmimedaaGreatDoor
