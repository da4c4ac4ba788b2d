
/-
  Contract of the reference's Copy.
-/
import Derived.Test.YtgbckpihlklnlaaRCopyOps
namespace Go.Proofs.Ytgbckpihlklnlaa
open Go.RowKit
def GC (n0 b : Nat) (k n : Int) (s : ByteArray) (A : Option Addr) (li ci : Nat) (K : Option Addr) (lk ck : Nat) (items : List VT) (keys : List ByteArray) : Nat → Value → World → Prop
  | 0, v, _ => v = .pointer (some ⟨b, 0, none⟩)
  | 1, v, _ => v = .int .i64 k
  | 2, v, _ => v = .pointer (some ⟨b, 1, none⟩)
  | 3, v, _ => v = .int .i64 n
  | 4, v, _ => v = .pointer (some ⟨b, 2, none⟩)
  | 5, v, _ => v = .string s
  | 6, v, _ => v = .pointer (some ⟨b, 3, none⟩)
  | 7, v, _ => v = .slice A li ci
  | 8, v, w => ListS w (Fresh n0 w) v items
  | 9, v, _ => ∃ a, v = .slice (some a) 0 0
  | 10, v, _ => v = .pointer (some ⟨b, 4, none⟩)
  | 11, v, _ => v = .slice K lk ck
  | 12, v, w => ∃ A2 c2, v = .slice A2 lk c2 ∧ KeysS w (Fresh n0 w) A2 keys
  | 13, v, w => RdS w (Fresh n0 w) v (.mk k n s items keys)
  | _, _, _ => False
theorem ListS.kept {w w' : World} {S S' : Nat → Prop} {v : Value} {ts : List VT} (h : ListS w S v ts) (hb : ∀ b, S b → w'.heap[b]? = w.heap[b]?) (hs : ∀ b, S b → S' b) : ListS w' S' v ts := by
  obtain ⟨A, ci, e, V, h1, h2⟩ := h
  refine ⟨A, ci, e, V, fun h0 => ?_, fun i t hi => (h2 i t hi).kept hb hs⟩
  obtain ⟨a, ea, ha, hc⟩ := h1 h0
  exact ⟨a, ea, hs _ ha, fun i hi => (hc i hi).same (by rw [add_block]; exact hb _ ha)⟩
theorem fresh_same {w w' : World} {n0 : Nat} (hb : Below w.heap.size w w') : (∀ b, Fresh n0 w b → w'.heap[b]? = w.heap[b]?) ∧ (∀ b, Fresh n0 w b → Fresh n0 w' b) :=
  ⟨fun b h => hb.block b h.2, fun b h => ⟨h.1, by have := hb.size; have := h.2; omega⟩⟩
theorem GC.pers (n0 b : Nat) (k n : Int) (s : ByteArray) (A : Option Addr) (li ci : Nat) (K : Option Addr) (lk ck : Nat) (items : List VT) (keys : List ByteArray) (i : Nat) (v : Value) (w w' : World) (h : GC n0 b k n s A li ci K lk ck items keys i v w) (hb : Below w.heap.size w w') : GC n0 b k n s A li ci K lk ck items keys i v w' := by
  obtain ⟨f1, f2⟩ := fresh_same (n0 := n0) hb
  match i, h with
  | 0, h => exact h
  | 1, h => exact h
  | 2, h => exact h
  | 3, h => exact h
  | 4, h => exact h
  | 5, h => exact h
  | 6, h => exact h
  | 7, h => exact h
  | 8, h => exact h.kept f1 f2
  | 9, h => exact h
  | 10, h => exact h
  | 11, h => exact h
  | 12, ⟨A2, c2, e, h⟩ => exact ⟨A2, c2, e, h.kept f1 f2⟩
  | 13, h => exact h.kept f1 f2
theorem en_copies : ∀ (args : Array Value) (w : World), (callFunc 27 args).run Try.prog w = .ok (.enter 27 args) w := enters_of Try.func27 (by kernel_rfl) rfl
set_option maxRecDepth 100000 in
set_option maxHeartbeats 2000000 in
theorem rcopy_any (t : VT) : CopyAt t := by
  induction t using VT.ind with
  | h k n s items keys ih =>
  intro w B v h hB
  cases h with
  | @mk _ _ _ A li ci K lk ck _ _ V hk hn hs hks hli hlk hbi hbk hA hr hK =>
  obtain ⟨f1, f2, f3⟩ := Box.two w (.int .i64 k) (.int .i64 n) (.string s) (.slice A li ci) (.slice K lk ck) (.int .i64 0) (.int .i64 0) (.string ⟨#[]⟩) (.slice none 0 0) (.slice none 0 0)
  have z3 : ((w.alloc (.cells #[.int .i64 k, .int .i64 n, .string s, .slice A li ci, .slice K lk ck] 26 (0, 0))).alloc (.cells #[.int .i64 0, .int .i64 0, .string ⟨#[]⟩, .slice none 0 0, .slice none 0 0] 26 (0, 0))).heap.size = w.heap.size + 1 + 1 := by simp
  have HL := Lib.hid hli
  have HLK := Lib.hid hlk
  have HBI := Lib.hid hbi
  have HBK := Lib.hid hbk
  have HKS := Lib.hid hks
  have HKN := Lib.hid (And.intro hk (And.intro hn hs))
  have HCPY : Hid (∀ wn, Below w.heap.size w wn → Calls Try.prog 27 #[.slice A li ci] wn fun e w' => (∃ v, e = .returned v ∧ ListS w' (Fresh wn.heap.size w') v items) ∧ Below wn.heap.size wn w') :=
    Lib.hid fun wn hb => rcopies_any items ih A li ci V wn B hli hbi (fun h0 => by
      obtain ⟨a, e, ha, hc⟩ := hA h0
      exact ⟨a, e, ha, fun i hi => (hc i hi).kept (by rw [add_block]; exact ha) (hb.mono hB)⟩) (fun i t ht => (hr i t ht).kept (hb.mono hB)) (Nat.le_trans hB hb.size)
  have HKY : Hid (∀ wn, Below w.heap.size w wn → KeysAt wn B K keys) := Lib.hid fun wn hb => hK.kept (hb.mono hB)
  clear hk hn hs hks hli hlk hbi hbk hA hr hK ih
  have X0 := Lib.hid f1
  have Y0 := Lib.hid f2
  have B0 := Lib.hid f3
  have Z0 := Lib.hid z3
  clear f1 f2 f3 z3
  go_enter Try.func30, Try.ntmps30
  go_wp2_with fail
  generalize hW0 : ((w.alloc (.cells #[.int .i64 k, .int .i64 n, .string s, .slice A li ci, .slice K lk ck] 26 (0, 0))).alloc (.cells #[.int .i64 0, .int .i64 0, .string ⟨#[]⟩, .slice none 0 0, .slice none 0 0] 26 (0, 0))) = W0 at *
  have HCP : Hid (∀ wn, Below W0.heap.size W0 wn → Calls Try.prog 27 #[.slice A li ci] wn fun e w' => (∃ v, e = .returned v ∧ ListS w' (Fresh wn.heap.size w') v items) ∧ Below wn.heap.size wn w') := Lib.hid fun wn hb => HCPY.out wn (B0.out.trans (hb.mono B0.out.size))
  have HK : Hid (∀ wn, Below W0.heap.size W0 wn → KeysAt wn B K keys) := Lib.hid fun wn hb => HKY.out wn (B0.out.trans (hb.mono B0.out.size))
  refine wp_region_facts (by kernel_rfl) (by kernel_rfl) 14 13 (by kernel_rfl) (fun _ => false) (by kernel_rfl) (GC W0.heap.size w.heap.size k n s A li ci K lk ck items keys) (fun _ _ => True)
    (fun v w' => ∃ c0 c1 c2 c3 c4, Box w' (w.heap.size + 1) c0 c1 c2 c3 c4 ∧ RdS w' (Fresh w.heap.size w') (.agg #[c0, c1, c2, c3, c4]) (.mk k n s items keys) ∧ Below w.heap.size w w') (fun _ _ _ _ => trivial) (GC.pers _ _ _ _ _ _ _ _ _ _ _ _ _) (fun _ _ _ h => by cases h) ?_ (fun _ _ _ _ h => by cases h) ?_ ?_
  · intro i o ho his _ a wn hf hbl had
    have hi : i < 15 := (Array.getElem?_eq_some_iff.1 ho).1
    have hc : i = 0 ∨ i = 1 ∨ i = 2 ∨ i = 3 ∨ i = 4 ∨ i = 5 ∨ i = 6 ∨ i = 7 ∨ i = 8 ∨ i = 9 ∨ i = 10 ∨ i = 11 ∨ i = 12 ∨ i = 13 := by omega
    rcases hc with rfl | rfl | rfl | rfl | rfl | rfl | rfl | rfl | rfl | rfl | rfl | rfl | rfl | rfl
    · cases ho
      have s1 := hf.slot 1 (by kernel_rfl)
      exact runs_fa0 rfl (.tmp 1) rfl s1 ⟨Below.refl _ _, rfl⟩
    · cases ho
      have h0 : vof _ a 0 = .pointer (some ⟨w.heap.size, 0, none⟩) := had ⟨0, .data⟩ (by simp) rfl (by decide)
      obtain ⟨c0, c1, c2, c3, c4⟩ := (X0.out.kept hbl).cells
      exact runs_ld_int rfl _ rfl h0 c0 ⟨Below.refl _ _, rfl⟩
    · cases ho
      have s1 := hf.slot 1 (by kernel_rfl)
      exact runs_fa1 rfl (.tmp 1) rfl s1 ⟨Below.refl _ _, rfl⟩
    · cases ho
      have h0 : vof _ a 2 = .pointer (some ⟨w.heap.size, 1, none⟩) := had ⟨2, .data⟩ (by simp) rfl (by decide)
      obtain ⟨c0, c1, c2, c3, c4⟩ := (X0.out.kept hbl).cells
      exact runs_ld_int rfl _ rfl h0 c1 ⟨Below.refl _ _, rfl⟩
    · cases ho
      have s1 := hf.slot 1 (by kernel_rfl)
      exact runs_fa2 rfl (.tmp 1) rfl s1 ⟨Below.refl _ _, rfl⟩
    · cases ho
      have h0 : vof _ a 4 = .pointer (some ⟨w.heap.size, 2, none⟩) := had ⟨4, .data⟩ (by simp) rfl (by decide)
      obtain ⟨c0, c1, c2, c3, c4⟩ := (X0.out.kept hbl).cells
      exact runs_ld_str rfl _ rfl h0 c2 ⟨Below.refl _ _, rfl⟩
    · cases ho
      have s1 := hf.slot 1 (by kernel_rfl)
      exact runs_fa3 rfl (.tmp 1) rfl s1 ⟨Below.refl _ _, rfl⟩
    · cases ho
      have h0 : vof _ a 6 = .pointer (some ⟨w.heap.size, 3, none⟩) := had ⟨6, .data⟩ (by simp) rfl (by decide)
      obtain ⟨c0, c1, c2, c3, c4⟩ := (X0.out.kept hbl).cells
      exact runs_ld_vals rfl _ rfl h0 c3 ⟨Below.refl _ _, rfl⟩
    · cases ho
      have h0 : vof _ a 7 = .slice A li ci := had ⟨7, .data⟩ (by simp) rfl (by decide)
      have hs := hbl.size
      refine runs_call rfl _ _ _ rfl en_copies #[.slice A li ci] (by rw [map1]; exact congrArg (fun x => #[x]) h0) ((HCP.out wn hbl).mono fun e w' ⟨⟨u, h1, h2⟩, h3⟩ => ⟨u, h1, h3, h2.kept (fun _ _ => rfl) (fun b hb => ⟨by have := hb.1; omega, hb.2⟩)⟩)
    · cases ho
      exact runs_empty rfl rfl ⟨(Below.refl _ _).alloc (Nat.le_refl _) _, _, rfl⟩
    · cases ho
      have s1 := hf.slot 1 (by kernel_rfl)
      exact runs_fa4 rfl (.tmp 1) rfl s1 ⟨Below.refl _ _, rfl⟩
    · cases ho
      have h0 : vof _ a 10 = .pointer (some ⟨w.heap.size, 4, none⟩) := had ⟨10, .data⟩ (by simp) rfl (by decide)
      obtain ⟨c0, c1, c2, c3, c4⟩ := (X0.out.kept hbl).cells
      exact runs_ld_strs rfl _ rfl h0 c4 ⟨Below.refl _ _, rfl⟩
    · cases ho
      obtain ⟨a0, h0⟩ : ∃ a0, vof _ a 9 = .slice (some a0) 0 0 := had ⟨9, .data⟩ (by simp) rfl (by decide)
      have h1 : vof _ a 11 = .slice K lk ck := had ⟨11, .data⟩ (by simp) rfl (by decide)
      have hs := hbl.size
      refine runs_append_keys rfl _ _ rfl a0 h0 K lk ck h1 keys _ HLK.out HBK.out (HK.out wn hbl) ?_
      intro A2 c2 w' h3 h4
      exact ⟨h3, A2, c2, rfl, h4.kept (fun _ _ => rfl) (fun b hb => ⟨by have := hb.1; omega, hb.2⟩)⟩
    · cases ho
      have h0 : vof _ a 1 = .int .i64 k := had ⟨1, .data⟩ (by simp) rfl (by decide)
      have h1 : vof _ a 3 = .int .i64 n := had ⟨3, .data⟩ (by simp) rfl (by decide)
      have h2 : vof _ a 5 = .string s := had ⟨5, .data⟩ (by simp) rfl (by decide)
      obtain ⟨A1, c1, h3, V1, h4, h5⟩ : ListS wn (Fresh _ wn) (vof _ a 8) items := had ⟨8, .data⟩ (by simp) rfl (by decide)
      obtain ⟨A2, c2, h6, h7⟩ : ∃ A2 c2, vof _ a 12 = .slice A2 lk c2 ∧ KeysS wn (Fresh _ wn) A2 keys := had ⟨12, .data⟩ (by simp) rfl (by decide)
      exact runs_build5 rfl _ _ _ _ _ rfl h0 h1 h2 h3 h6 ⟨Below.refl _ _, .mk V1 HKN.out.1 HKN.out.2.1 HKN.out.2.2 HKS.out rfl HLK.out (by rw [HL.out]; exact HBI.out) HBK.out h4 h5 h7⟩
  · intro o ho a wn hf hbl had
    cases ho
    have s2 : a.eval (.tmp 2) = .pointer (some ⟨w.heap.size + 1, 0, none⟩) := hf.slot 2 (by kernel_rfl)
    have h13 : RdS wn (Fresh W0.heap.size wn) (vof _ a 13) (.mk k n s items keys) := had ⟨13, .data⟩ (by simp) rfl (by decide)
    obtain ⟨c0, c1, c2, c3, c4, e, o0, o1, o2, o3, o4⟩ := h13.five
    rw [e] at h13
    have y1 := Box.kept Y0.out hbl
    refine runs_store5 rfl (.tmp 2) _ rfl s2 e y1 o0 o1 o2 o3 o4 ⟨c0, c1, c2, c3, c4, Box.five y1 _ _ _ _ _, ?_, ?_⟩
    · refine h13.kept ?_ ?_
      · rintro b' ⟨g1, g2⟩
        have z := Z0.out
        have hne : b' ≠ w.heap.size + 1 := by omega
        rw [Below.heap_setCell _ _ _ _ hne, Below.heap_setCell _ _ _ _ hne, Below.heap_setCell _ _ _ _ hne, Below.heap_setCell _ _ _ _ hne, Below.heap_setCell _ _ _ _ hne]
      · rintro b' ⟨g1, g2⟩
        have z := Z0.out
        exact ⟨by omega, by simpa using g2⟩
    · have hle : w.heap.size ≤ w.heap.size + 1 := by omega
      exact (((((B0.out.trans (hbl.mono B0.out.size)).setCell (p := ⟨w.heap.size + 1, 0, none⟩) hle _).setCell (p := ⟨w.heap.size + 1, 1, none⟩) hle _).setCell (p := ⟨w.heap.size + 1, 2, none⟩) hle _).setCell (p := ⟨w.heap.size + 1, 3, none⟩) hle _).setCell (p := ⟨w.heap.size + 1, 4, none⟩) hle _
  · intro a wn hf _ hfin _
    obtain ⟨c0, c1, c2, c3, c4, x1, x2, x3⟩ := hfin (by decide)
    have s2 : a.tmps.getD 2 undef = .pointer (some ⟨w.heap.size + 1, 0, none⟩) := hf.slot 2 (by kernel_rfl)
    have hd : a.defers = [] := hf.1
    obtain ⟨p0, p1, p2, p3, p4⟩ := x1.cells
    have HR := Lib.hid x2
    have HB := Lib.hid x3
    rw [Array.getD_eq_getD_getElem?] at s2
    clear hfin hf x1 x2 x3
    go_wp2_with fail
    exact bodyPost_ret (v := .agg #[c0, c1, c2, c3, c4]) (by simp [results, Try.results30, go_sem, s2, p0, p1, p2, p3, p4]) hd ⟨⟨_, rfl, HR.out⟩, HB.out⟩
end Go.Proofs.Ytgbckpihlklnlaa
