
/-
  The reader of tokens: sign, name, nonNull.
-/
import Derived.Test.YtgicbmibhnnflaaGreatDoorYCmp
import Derived.Test.YtgicbmibhnnflaaGreatDoorYScan
import Derived.Test.YtgicbmibhnnflaaGreatDoorKList
namespace Go.Proofs.YtgicbmibhnnflaaGreatDoor
open Go.RowKit
def kz (zs : List Tz) : List K2 := zs.map fun p => (p.1, p.2.1)
theorem kz_tz (ts : List Tk) : kz (tz ts) = kt ts := by unfold kz tz kt; rw [List.map_map]; rfl
theorem kz_len (zs : List Tz) : (kz zs).length = zs.length := List.length_map _
/- Tokens end with the End, and with it alone. -/
def EndZ (zs : List Tz) : Prop := ∃ ps q, zs = ps ++ [q] ∧ q.1 = 5 ∧ q.2.1 = [] ∧ ∀ p ∈ ps, p.1 ≠ 5
theorem EndZ.pos {zs : List Tz} (h : EndZ zs) : 0 < zs.length := by obtain ⟨ps, q, rfl, _⟩ := h; simp
theorem EndZ.tail {zs : List Tz} {p : Tz} (h : EndZ zs) (hp : zs[0]? = some p) (h5 : p.1 ≠ 5) : EndZ zs.tail ∧ 2 ≤ zs.length := by
  obtain ⟨ps, q, rfl, h1, h2, h3⟩ := h
  cases ps with
  | nil => simp at hp; subst hp; exact absurd h1 h5
  | cons a r => exact ⟨⟨r, q, rfl, h1, h2, fun p hp => h3 p (List.mem_cons_of_mem _ hp)⟩, by simp⟩
/- The reader's variable. -/
def RdP (p : Nat) (zs : List Tz) (w : World) : Prop := ∃ A c, w.heap[p]? = some (Obj.cells #[.slice A zs.length c] 52 (0, 0)) ∧ zs.length ≤ c ∧ ZAt w p A zs
theorem RdP.lt {p : Nat} {zs : List Tz} {w : World} (h : RdP p zs w) : p < w.heap.size := by
  obtain ⟨A, c, h1, _⟩ := h
  rcases Nat.lt_or_ge p w.heap.size with h' | h'
  · exact h'
  · rw [Array.getElem?_eq_none h'] at h1; cases h1
theorem RdP.stay {p : Nat} {zs : List Tz} {w w' : World} (h : RdP p zs w) (hb : Below w.heap.size w w') : RdP p zs w' := by
  have hl := h.lt
  obtain ⟨A, c, h1, h2, h3⟩ := h
  exact ⟨A, c, (hb.block p hl).trans h1, h2, h3.kept (hb.mono (Nat.le_of_lt hl))⟩
theorem RdP.any {p : Nat} {zs : List Tz} {w w' : World} (h : RdP p zs w) (h1 : w'.heap[p]? = w.heap[p]?) (h2 : Below p w w') : RdP p zs w' := by
  obtain ⟨A, c, g1, g2, g3⟩ := h
  exact ⟨A, c, h1.trans g1, g2, g3.kept h2⟩
def SgPost (b : Bool) (p : Nat) (zs : List Tz) (w : World) (e : Ending) (w' : World) : Prop := e = .returned (.bool b) ∧ RdP p (if b = true then zs.tail else zs) w' ∧ Bes p w.heap.size w w'
theorem sg_head {zs : List Tz} {k : Int} {t : List UInt8} {i : Int} (h : zs[0]? = some (k, t, i)) (c : UInt8) : sgB c (kz zs) = decide (k = 1 ∧ t = [c]) := by
  cases zs with
  | nil => simp at h
  | cons q r => simp at h; subst h; rfl
theorem bytes_eq (t : List UInt8) (c : UInt8) : ((⟨t.toArray⟩ : ByteArray) = ⟨#[c]⟩) ↔ t = [c] := by
  constructor
  · intro h
    have := congrArg (fun x : ByteArray => x.data.toList) h
    simpa using this
  · rintro rfl; rfl
/- The store that takes a token. -/
theorem RdP.next {p : Nat} {zs : List Tz} {w : World} {a : Addr} {c : Nat} (hw : w.heap[p]? = some (Obj.cells #[.slice (some a) zs.length c] 52 (0, 0))) (hc : zs.length ≤ c) (h2 : 2 ≤ zs.length) (hz : ZAt w p (some a) zs) :
    RdP p zs.tail (w.setCell ⟨p, 0, none⟩ (.slice (some (a.add 3)) (zs.length - 1) (c - 1))) := by
  refine ⟨some (a.add 3), c - 1, ?_, by rw [List.length_tail]; omega, fun h0 => ?_⟩
  · unfold World.setCell; simp [Array.getElem?_modify, hw]
  · obtain ⟨a', e, ha, hcell⟩ := hz (by omega)
    cases e
    refine ⟨a.add 3, rfl, by rw [add_block]; exact ha, fun i q hq => ?_⟩
    rw [Addr.add_add]
    have hq' : zs[i + 1]? = some q := by
      cases zs with
      | nil => simp at h2
      | cons z r => simpa using hq
    have := (hcell (i + 1) q hq').kept (w' := w.setCell ⟨p, 0, none⟩ (.slice (some (a.add 3)) (zs.length - 1) (c - 1))) (by rw [add_block]; exact ha) ((Below.refl p w).setCell (p := ⟨p, 0, none⟩) (Nat.le_refl _) _)
    rw [show 3 + i * 3 = (i + 1) * 3 by omega]
    exact this
theorem C3.new {w : World} {a : Addr} {q : Tz} (h : C3 w a q) (ha : a.block < w.heap.size) (o : Obj) : C3 (w.alloc o) a q := h.kept ha ((Below.refl _ _).alloc (Nat.le_refl _) _)
set_option maxRecDepth 100000 in
set_option maxHeartbeats 2000000 in
theorem tsign_m (p : Nat) (zs : List Tz) (c : UInt8) (m : ByteArray) (hm : m = ⟨#[c]⟩) (w : World) (h : RdP p zs w) (hE : EndZ zs) : Calls Tryz.prog 65 #[.pointer (some ⟨p, 0, none⟩), .string m] w (SgPost (sgB c (kz zs)) p zs w) := by
  have hpl := h.lt
  have h0 := hE.pos
  obtain ⟨A, c0, hw, hcc, hz⟩ := h
  obtain ⟨a, rfl, ha, hcell⟩ := hz h0
  obtain ⟨⟨k, t, i⟩, hq⟩ : ∃ q, zs[0]? = some q := ⟨zs[0], List.getElem?_eq_getElem h0⟩
  have hc3 := hcell 0 _ hq
  rw [show a.add (0 * 3) = a from rfl] at hc3
  obtain ⟨g0, g1, g2⟩ := hc3
  have hr0 : w.cell? ⟨p, 0, none⟩ = some (.slice (some a) zs.length c0) := by rw [cell_of_row _ _ _ _ _ _ hw]; rfl
  have hrf : w.frozen? ⟨p, 0, none⟩ = false := by simp [World.frozen?, hw]
  have HW := Lib.hid hw
  have HCC := Lib.hid hcc
  have HZ : Hid (ZAt w p (some a) zs) := Lib.hid hz
  have HPL := Lib.hid hpl
  have HQ := Lib.hid hq
  have HE := Lib.hid hE
  have hl0 : (0 : Int) < zs.length := by omega
  have hsg := sg_head hq c
  have hbe := bytes_eq t c
  have hse := str_eq ⟨t.toArray⟩ m
  rw [← hm] at hbe
  clear hm
  generalize hts : (⟨t.toArray⟩ : ByteArray) = tb at *
  have HTS := Lib.hid hts
  clear hts
  by_cases hk : k = 1
  · subst hk
    by_cases ht : t = [c]
    · rw [decide_eq_true ⟨rfl, ht⟩] at hsg
      rw [decide_eq_true (hbe.2 ht)] at hse
      have HT := Lib.hid (hE.tail hq (show (1 : Int) ≠ 5 by decide))
      have HSG := Lib.hid hsg
      have h2 : (2 : Int) ≤ zs.length := by have := HT.out.2; omega
      have hc2 : (1 : Int) ≤ c0 := by omega
      have hc1 : ¬ (c0 = 1) := by have := HT.out.2; omega
      clear hsg ht hbe hq hE hw hcc hz hcell ha hpl h0
      have hr1 : (w.alloc (.cells #[.int .i64 1, .string tb, .int .i64 i] 75 (0, 0))).cell? ⟨p, 0, none⟩ = some (.slice (some a) zs.length c0) := (World.cell?_of_block (w := w) (Below.heap_alloc _ _ _ HPL.out)).trans hr0
      have hrf1 : (w.alloc (.cells #[.int .i64 1, .string tb, .int .i64 i] 75 (0, 0))).frozen? ⟨p, 0, none⟩ = false := (World.frozen?_of_block (w := w) (Below.heap_alloc _ _ _ HPL.out)).trans hrf
      have HN : Hid (RdP p zs.tail ((w.alloc (.cells #[.int .i64 1, .string tb, .int .i64 i] 75 (0, 0))).setCell ⟨p, 0, none⟩ (.slice (some (a.add 3)) (zs.length - 1) (c0 - 1)))) := Lib.hid (RdP.next ((Below.heap_alloc _ _ _ HPL.out).trans HW.out) HCC.out HT.out.2 (HZ.out.kept ((Below.refl p w).alloc (Nat.le_of_lt HPL.out) _)))
      have HB : Hid (Bes p w.heap.size w ((w.alloc (.cells #[.int .i64 1, .string tb, .int .i64 i] 75 (0, 0))).setCell ⟨p, 0, none⟩ (.slice (some (a.add 3)) (zs.length - 1) (c0 - 1)))) := Lib.hid ((Bes.of ((Below.refl _ _).alloc (Nat.le_refl _) _)).set _ _)
      have hcl : (c0 : Int) ≤ 9223372036854775807 → True := fun _ => trivial
      clear hcl
      go_enter Tryz.func65, Tryz.ntmps65
      go_wp2_with fail
      refine bodyPost_ret (v := .bool true) (by simp [results, Tryz.results65, go_sem]) rfl ⟨by rw [HSG.out], ?_, ?_⟩
      · rw [HSG.out]; exact HN.out
      · exact HB.out
    · have hsg' : sgB c (kz zs) = false := by rw [hsg, decide_eq_false (fun h => ht h.2)]
      rw [decide_eq_false (fun h => ht (hbe.1 h))] at hse
      have HSG := Lib.hid hsg'
      clear hsg hsg' ht hbe hq hE hw hcc hz hcell ha hpl h0
      have HN : Hid (RdP p zs (w.alloc (.cells #[.int .i64 1, .string tb, .int .i64 i] 75 (0, 0)))) := Lib.hid (RdP.stay ⟨some a, c0, HW.out, HCC.out, HZ.out⟩ ((Below.refl _ _).alloc (Nat.le_refl _) _))
      have HB : Hid (Bes p w.heap.size w (w.alloc (.cells #[.int .i64 1, .string tb, .int .i64 i] 75 (0, 0)))) := Lib.hid (Bes.of ((Below.refl _ _).alloc (Nat.le_refl _) _))
      go_enter Tryz.func65, Tryz.ntmps65
      go_wp2_with fail
      refine bodyPost_ret (v := .bool false) (by simp [results, Tryz.results65, go_sem]) rfl ⟨by rw [HSG.out], ?_, ?_⟩
      · rw [HSG.out]; exact HN.out
      · exact HB.out
  · have hsg' : sgB c (kz zs) = false := by rw [hsg, decide_eq_false (fun h => hk h.1)]
    have hkb : (k != 1) = true := by simp [hk]
    have HSG := Lib.hid hsg'
    clear hsg hsg' hk hbe hse hq hE hw hcc hz hcell ha hpl h0
    have HN : Hid (RdP p zs (w.alloc (.cells #[.int .i64 k, .string tb, .int .i64 i] 75 (0, 0)))) := Lib.hid (RdP.stay ⟨some a, c0, HW.out, HCC.out, HZ.out⟩ ((Below.refl _ _).alloc (Nat.le_refl _) _))
    have HB : Hid (Bes p w.heap.size w (w.alloc (.cells #[.int .i64 k, .string tb, .int .i64 i] 75 (0, 0)))) := Lib.hid (Bes.of ((Below.refl _ _).alloc (Nat.le_refl _) _))
    go_enter Tryz.func65, Tryz.ntmps65
    go_wp2_with fail
    refine bodyPost_ret (v := .bool false) (by simp [results, Tryz.results65, go_sem]) rfl ⟨by rw [HSG.out], ?_, ?_⟩
    · rw [HSG.out]; exact HN.out
    · exact HB.out
theorem tsign_any (p : Nat) (zs : List Tz) (c : UInt8) (w : World) (h : RdP p zs w) (hE : EndZ zs) : Calls Tryz.prog 65 #[.pointer (some ⟨p, 0, none⟩), .string ⟨#[c]⟩] w (SgPost (sgB c (kz zs)) p zs w) := tsign_m p zs c _ rfl w h hE
theorem nm_head {zs : List Tz} {k : Int} {t : List UInt8} {i : Int} (h : zs[0]? = some (k, t, i)) : nmO (kz zs) = if k = 2 then some t else none := by
  cases zs with
  | nil => simp at h
  | cons q r => simp at h; subst h; rfl
def NmPost (o : Option (List UInt8)) (p : Nat) (zs : List Tz) (w : World) (e : Ending) (w' : World) : Prop :=
  (match o with | none => e = .returned (.tuple #[.string ⟨#[]⟩, .bool false]) ∧ RdP p zs w' | some t => e = .returned (.tuple #[.string ⟨t.toArray⟩, .bool true]) ∧ RdP p zs.tail w') ∧ Bes p w.heap.size w w'
set_option maxRecDepth 100000 in
set_option maxHeartbeats 2000000 in
theorem tname_any (p : Nat) (zs : List Tz) (w : World) (h : RdP p zs w) (hE : EndZ zs) : Calls Tryz.prog 66 #[.pointer (some ⟨p, 0, none⟩)] w (NmPost (nmO (kz zs)) p zs w) := by
  have hpl := h.lt
  have h0 := hE.pos
  obtain ⟨A, c0, hw, hcc, hz⟩ := h
  obtain ⟨a, rfl, ha, hcell⟩ := hz h0
  obtain ⟨⟨k, t, i⟩, hq⟩ : ∃ q, zs[0]? = some q := ⟨zs[0], List.getElem?_eq_getElem h0⟩
  have hc3 := hcell 0 _ hq
  rw [show a.add (0 * 3) = a from rfl] at hc3
  obtain ⟨g0, g1, g2⟩ := hc3
  have hr0 : w.cell? ⟨p, 0, none⟩ = some (.slice (some a) zs.length c0) := by rw [cell_of_row _ _ _ _ _ _ hw]; rfl
  have hrf : w.frozen? ⟨p, 0, none⟩ = false := by simp [World.frozen?, hw]
  have HW := Lib.hid hw
  have HCC := Lib.hid hcc
  have HZ : Hid (ZAt w p (some a) zs) := Lib.hid hz
  have HPL := Lib.hid hpl
  have HQ := Lib.hid hq
  have HE := Lib.hid hE
  have hl0 : (0 : Int) < zs.length := by omega
  have hnm := nm_head hq
  generalize hts : (⟨t.toArray⟩ : ByteArray) = tb at *
  have HTS := Lib.hid hts
  clear hts
  by_cases hk : k = 2
  · subst hk
    rw [if_pos rfl] at hnm
    have HT := Lib.hid (hE.tail hq (show (2 : Int) ≠ 5 by decide))
    have HNM := Lib.hid hnm
    have h2 : (2 : Int) ≤ zs.length := by have := HT.out.2; omega
    have hc2 : (1 : Int) ≤ c0 := by omega
    have hc1 : ¬ (c0 = 1) := by have := HT.out.2; omega
    clear hnm hq hE hw hcc hz hcell ha hpl h0
    have hr1 : (w.alloc (.cells #[.int .i64 2, .string tb, .int .i64 i] 75 (0, 0))).cell? ⟨p, 0, none⟩ = some (.slice (some a) zs.length c0) := (World.cell?_of_block (w := w) (Below.heap_alloc _ _ _ HPL.out)).trans hr0
    have hrf1 : (w.alloc (.cells #[.int .i64 2, .string tb, .int .i64 i] 75 (0, 0))).frozen? ⟨p, 0, none⟩ = false := (World.frozen?_of_block (w := w) (Below.heap_alloc _ _ _ HPL.out)).trans hrf
    have HN : Hid (RdP p zs.tail ((w.alloc (.cells #[.int .i64 2, .string tb, .int .i64 i] 75 (0, 0))).setCell ⟨p, 0, none⟩ (.slice (some (a.add 3)) (zs.length - 1) (c0 - 1)))) := Lib.hid (RdP.next ((Below.heap_alloc _ _ _ HPL.out).trans HW.out) HCC.out HT.out.2 (HZ.out.kept ((Below.refl p w).alloc (Nat.le_of_lt HPL.out) _)))
    have HB : Hid (Bes p w.heap.size w ((w.alloc (.cells #[.int .i64 2, .string tb, .int .i64 i] 75 (0, 0))).setCell ⟨p, 0, none⟩ (.slice (some (a.add 3)) (zs.length - 1) (c0 - 1)))) := Lib.hid ((Bes.of ((Below.refl _ _).alloc (Nat.le_refl _) _)).set _ _)
    go_enter Tryz.func66, Tryz.ntmps66
    go_wp2_with fail
    refine bodyPost_ret (v := .tuple #[.string tb, .bool true]) (by simp [results, Tryz.results66, go_sem]) rfl ⟨?_, HB.out⟩
    rw [HNM.out]
    exact ⟨by rw [HTS.out], HN.out⟩
  · rw [if_neg hk] at hnm
    have hkb : (k != 2) = true := by simp [hk]
    have HNM := Lib.hid hnm
    clear hnm hk hq hE hw hcc hz hcell ha hpl h0
    have HN : Hid (RdP p zs (w.alloc (.cells #[.int .i64 k, .string tb, .int .i64 i] 75 (0, 0)))) := Lib.hid (RdP.stay ⟨some a, c0, HW.out, HCC.out, HZ.out⟩ ((Below.refl _ _).alloc (Nat.le_refl _) _))
    have HB : Hid (Bes p w.heap.size w (w.alloc (.cells #[.int .i64 k, .string tb, .int .i64 i] 75 (0, 0)))) := Lib.hid (Bes.of ((Below.refl _ _).alloc (Nat.le_refl _) _))
    go_enter Tryz.func66, Tryz.ntmps66
    go_wp2_with fail
    refine bodyPost_ret (v := .tuple #[.string ⟨#[]⟩, .bool false]) (by simp [results, Tryz.results66, go_sem]) rfl ⟨?_, HB.out⟩
    rw [HNM.out]
    exact ⟨rfl, HN.out⟩
theorem sg_kind {zs : List Tz} {c : UInt8} (h : sgB c (kz zs) = true) : ∃ q, zs[0]? = some q ∧ q.1 = 1 := by
  cases zs with
  | nil => cases h
  | cons q r => exact ⟨q, rfl, by have : q.1 = 1 ∧ q.2.1 = [c] := by simpa [sgB, kz] using h
                                  exact this.1⟩
theorem EndZ.sg {zs : List Tz} {c : UInt8} (h : EndZ zs) (hs : sgB c (kz zs) = true) : EndZ zs.tail := by
  obtain ⟨q, h1, h2⟩ := sg_kind hs
  exact (h.tail h1 (by rw [h2]; decide)).1
theorem kz_tail (zs : List Tz) : kz zs.tail = (kz zs).tail := by cases zs <;> rfl
def NnPost (p N : Nat) (xs : Ws) (ts : List K2) (w : World) (e : Ending) (w' : World) : Prop :=
  ∃ u rest, e = .returned u ∧ OwnI w' N u (bangR xs ts).1 ∧ RdP p rest w' ∧ kz rest = (bangR xs ts).2 ∧ EndZ rest ∧ Bes p N w w'
set_option maxRecDepth 100000 in
set_option maxHeartbeats 2000000 in
theorem tnonnull_any (p N : Nat) (zs : List Tz) (v : Value) (xs : Ws) (w : World) (h : RdP p zs w) (hE : EndZ zs) (ho : OwnI w N v xs) (hp : p < N) (hN : N ≤ w.heap.size) (hl : xs.length ≤ 900000) : Calls Tryz.prog 67 #[.pointer (some ⟨p, 0, none⟩), v] w (NnPost p N xs (kz zs) w) := by
  have CALL := Lib.hid (tsign_any p zs 33 w h hE)
  have HO := Lib.hid ho
  have HE := Lib.hid hE
  have HP := Lib.hid hp
  have HN := Lib.hid hN
  have HL := Lib.hid hl
  clear ho hE hN h hl
  cases hsg : sgB 33 (kz zs) with
  | true =>
    have HSG := Lib.hid hsg
    clear hsg
    go_enter Tryz.func67, Tryz.ntmps67
    go_wp2_with fail
    have hcall := CALL.out
    rw [HSG.out] at hcall
    refine hcall.mono ?_
    clear hcall
    rintro e w1 ⟨rfl, hr, hb⟩
    have HR : Hid (RdP p zs.tail w1) := Lib.hid hr
    have HB := Lib.hid hb
    have HO1 : Hid (OwnI w1 N v xs) := Lib.hid (row_kept HO.out fun g hg hgl _ => hb.block g hgl (by have := HP.out; omega))
    clear hr hb CALL hp
    go_wp2_with (at_builtin; refine append_I rfl (.tmp 7) (.tmp 8) rfl N _ _ rfl (HO1.out.stay ((Below.refl _ _).alloc (Nat.le_refl _) _)) ⟨w1.heap.size, 0, none⟩ 1 1 rfl (by simp) rfl (by have := HL.out; omega) (by have := HN.out; have := HB.out.size; simp; omega) ?_; intro v' w2 hv hg; have HV := Lib.hid hv; have HG := Lib.hid (((Below.refl N w1).alloc (Nat.le_trans HN.out HB.out.size) _).grown hg (by have := HN.out; have := HB.out.size; simp; omega) (fun g hg => (HO1.out.lt g hg).1)); have HGP : Hid (w2.heap[p]? = w1.heap[p]?) := Lib.hid (HG.out.block p HP.out); clear hv hg)
    refine bodyPost_ret (results_tmp rfl _ _ _) rfl ⟨_, zs.tail, rfl, ?_, HR.out.any HGP.out (HG.out.mono (Nat.le_of_lt HP.out)), ?_, HE.out.sg HSG.out, ?_⟩
    · rw [show (bangR xs (kz zs)).1 = xs ++ [1] by unfold bangR; rw [HSG.out]; rfl]; exact HV.out
    · rw [kz_tail]; unfold bangR; rw [HSG.out]; rfl
    · exact (HB.out.mono HN.out).trans (Bes.of HG.out)
  | false =>
    have HSG := Lib.hid hsg
    clear hsg
    go_enter Tryz.func67, Tryz.ntmps67
    go_wp2_with fail
    have hcall := CALL.out
    rw [HSG.out] at hcall
    refine hcall.mono ?_
    clear hcall
    rintro e w1 ⟨rfl, hr, hb⟩
    have HR : Hid (RdP p zs w1) := Lib.hid hr
    have HB := Lib.hid hb
    have HO1 : Hid (OwnI w1 N v xs) := Lib.hid (row_kept HO.out fun g hg hgl _ => hb.block g hgl (by have := HP.out; omega))
    clear hr hb CALL hp
    go_wp2_with fail
    refine bodyPost_ret (results_tmp rfl _ _ _) rfl ⟨_, zs, rfl, ?_, HR.out, ?_, HE.out, ?_⟩
    · rw [show (bangR xs (kz zs)).1 = xs by unfold bangR; rw [HSG.out]; rfl]; exact HO1.out
    · unfold bangR; rw [HSG.out]; rfl
    · exact HB.out.mono HN.out
end Go.Proofs.YtgicbmibhnnflaaGreatDoor
