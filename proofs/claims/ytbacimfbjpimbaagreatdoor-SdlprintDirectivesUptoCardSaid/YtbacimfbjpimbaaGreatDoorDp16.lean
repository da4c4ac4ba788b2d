
/-
  Texts joined: NQ NQ2.
-/
import Derived.Test.YtbacimfbjpimbaaGreatDoorDp15
import Derived.Test.YtbacimfbjpimbaaGreatDoorDp1
import Derived.Test.YtbacimfbjpimbaaGreatDoorDp3
namespace Go.Proofs.YtbacimfbjpimbaaGreatDoor
open Go.RowKit
theorem both_dirs (l : List DirT) (hs : dirsS l) (hk : rdirsOk l = true) (v : Value) (w : World) (B : Nat) (h : DirsR w B v l) (hB : B ≤ w.heap.size) (hL : LaidB B w) : ∃ o : ByteArray,
    (∀ W, Below w.heap.size w W → Calls Tryz.prog 16 #[v] W fun e w' => e = .returned (.string o) ∧ Below W.heap.size W w') ∧
    (∀ W, Below w.heap.size w W → Calls Tryz.prog 17 #[v] W fun e w' => e = .returned (.string o) ∧ Below W.heap.size W w') := by
  have hf := dirs_fit hs hk
  have hl := dirs_len h hs hk
  refine ⟨⟨(dirsTxt l).toArray⟩, fun W hW => ?_, fun W hW => ?_⟩
  · have hW' := hW.mono hB
    exact dirsText_any l hf v W ((h.kept hW').mono (Nat.le_trans hB hW.size)) ((hL.kept hW').mono (Nat.le_trans hB hW.size)) (by omega)
  · have hW' := hW.mono hB
    refine (rdirs_any l hf v W B (h.kept hW') (Nat.le_trans hB hW.size) (by omega)).mono ?_
    rintro e w' ⟨⟨o', rfl, ho'⟩, hb⟩
    exact ⟨by rw [bL_inj (ho'.trans (bL_mk _).symm)], hb⟩
set_option maxRecDepth 100000 in
set_option maxHeartbeats 8000000 in
theorem directives_row (u : Value) (xs : List DefT) (w : World) (h : DefsR w w.heap.size u xs) (hs : defsS xs) (hL : LaidB w.heap.size w) : Calls Tryz.prog 4 #[.agg #[u]] w fun e w' => e = .returned (.bool true) ∧ Below w.heap.size w w' := by
  have HRD := Lib.hid h
  obtain ⟨A, c, rfl, hc, hbg, V, hA, hr⟩ := h
  unfold big at hbg
  have CLG := Lib.hid (fun (W : World) (hW : Below w.heap.size w W) => large_any xs (.slice A xs.length c) W w.heap.size (HRD.out.kept hW) hW.size)
  have CRT := Lib.hid (fun (W : World) (hW : Below w.heap.size w W) => rright_doc xs (.slice A xs.length c) W ((HRD.out.kept hW).mono hW.size) (defsS_Z hs))
  have CE := Lib.hid (fun (W : World) (hW : Below w.heap.size w W) => example_any W ((hL.kept hW).mono hW.size))
  obtain ⟨n, hn⟩ : ∃ n, xs.length = n := ⟨_, rfl⟩
  obtain ⟨rb, hrb⟩ : ∃ rb, ltB 1 64 xs rdefOk = rb := ⟨_, rfl⟩
  rw [hn] at hA hbg CLG CRT ⊢
  rw [hrb] at CRT
  have hnm : (n : Int) ≤ 140737488351232 := by omega
  have HN := Lib.hid hn
  have HA := Lib.hid hA
  have HR := Lib.hid hr
  have HS := Lib.hid hs
  have HL := Lib.hid hL
  have HRB := Lib.hid hrb
  have HB0 := Lib.hid (below_new w (.cells #[.slice A n c] 32 (0, 0)))
  have HK0 := Lib.hid (Bk.new w #[.slice A n c] 32)
  clear hn hA hr hc hbg hs hL hrb HRD
  have y0 := HK0.out.cell 0 _ rfl
  go_enter Tryz.func4, Tryz.ntmps4
  go_wp2_with fail
  refine (CLG.out _ HB0.out).mono ?_
  rintro e w1 ⟨⟨b, rfl⟩, hb⟩
  have HB1 := Lib.hid (HB0.out.trans (hb.mono HB0.out.size))
  have hk1 := HK0.out.stay hb
  have HK1 := Lib.hid hk1
  clear hb y0 CLG
  have y0 := hk1.cell 0 _ rfl
  clear hk1
  cases b with
  | true =>
    go_wp2_with fail
    refine (CE.out _ HB1.out).mono ?_
    rintro e w2 ⟨rfl, hb⟩
    have HB2 := Lib.hid (HB1.out.trans (hb.mono HB1.out.size))
    clear hb
    go_wp2_with fail
    go_ret
    exact ⟨rfl, HB2.out⟩
  | false =>
  go_wp2_with fail
  refine (CRT.out _ HB1.out).mono ?_
  rintro e w2 ⟨rfl, hb⟩
  have HB2 := Lib.hid (HB1.out.trans (hb.mono HB1.out.size))
  have HK2 := Lib.hid (HK1.out.stay hb)
  clear hb y0 CRT
  cases rb with
  | false =>
    go_wp2_with fail
    refine (CE.out _ HB2.out).mono ?_
    rintro e w3 ⟨rfl, hb⟩
    have HB3 := Lib.hid (HB2.out.trans (hb.mono HB2.out.size))
    clear hb
    go_wp2_with fail
    go_ret
    exact ⟨rfl, HB3.out⟩
  | true =>
  go_wp2_with fail
  go_loopw [3] (fun i wr => ∃ (j : Nat), j ≤ n ∧ i = .int .i64 j ∧ Hid (Below w.heap.size w wr ∧ Bk wr w.heap.size #[.slice A n c] 32)) (fun i _ => n - (intOf i).toNat)
  case atStart => exact ⟨0, Nat.zero_le _, rfl, Lib.hid ⟨HB2.out, HK2.out⟩⟩
  case round =>
    obtain ⟨j, hj, rfl, hr⟩ := hrel
    have HB := Lib.hid hr.out.1
    have HK := Lib.hid hr.out.2
    clear hr
    have y0 := HK.out.cell 0 _ rfl
    by_cases hlt : j < n
    · have hlt' : (j : Int) < n := by omega
      obtain ⟨x, hxi⟩ : ∃ x, xs[j]? = some x := ⟨_, List.getElem?_eq_getElem (by rw [HN.out]; exact hlt)⟩
      obtain ⟨a, rfl, ha, hc0⟩ := HA.out (by omega)
      have hx0 := HR.out j x hxi
      have hxm := List.mem_of_getElem? hxi
      have hok := def_dirs ((ltB_le HRB.out).2 x hxm)
      have hsx := HS.out x hxm
      have hcc : ∀ q, q < 7 → wr.cell? (at_ (a.add (j * 7)) q) = some (V j q) := fun q hq => (HB.out.cell (by rw [at_block, add_block]; exact ha)).trans (hc0 j hlt q hq)
      have k0 : wr.cell? (a.add (j * 7)) = some (V j 0) := hcc 0 (by omega)
      have k1 : wr.cell? ⟨(a.add (j * 7)).block, (a.add (j * 7)).off + 1, none⟩ = some (V j 1) := hcc 1 (by omega)
      have k2 : wr.cell? ⟨(a.add (j * 7)).block, (a.add (j * 7)).off + 2, none⟩ = some (V j 2) := hcc 2 (by omega)
      have k3 : wr.cell? ⟨(a.add (j * 7)).block, (a.add (j * 7)).off + 3, none⟩ = some (V j 3) := hcc 3 (by omega)
      have k4 : wr.cell? ⟨(a.add (j * 7)).block, (a.add (j * 7)).off + 4, none⟩ = some (V j 4) := hcc 4 (by omega)
      have k5 : wr.cell? ⟨(a.add (j * 7)).block, (a.add (j * 7)).off + 5, none⟩ = some (V j 5) := hcc 5 (by omega)
      have k6 : wr.cell? ⟨(a.add (j * 7)).block, (a.add (j * 7)).off + 6, none⟩ = some (V j 6) := hcc 6 (by omega)
      obtain ⟨A2, c2, e2, _, _⟩ := hx0.impl.form
      obtain ⟨A3, c3, e3, _, _⟩ := hx0.dirs.form
      obtain ⟨A5, c5, e5, _, _⟩ := hx0.members.form
      obtain ⟨A6, c6, e6, _, _⟩ := hx0.inputs.form
      obtain ⟨A4, c4, e4, _, g4, V4, hA4, hr4⟩ := hx0.fields
      have hdr := hx0.dirs
      rw [e3] at hdr
      obtain ⟨o, ho1, ho2⟩ := both_dirs x.dirs hsx.1 hok.1 _ w w.heap.size hdr (Nat.le_refl _) HL.out
      have CD1 := Lib.hid ho1
      have CD2 := Lib.hid ho2
      have HFB : Hid (∀ k y, x.fields[k]? = some y → ∃ (p3 : Option Addr) (l3 q3 : Nat), V4 k 4 = .slice p3 l3 q3 ∧ ∃ o : ByteArray,
          (∀ W, Below w.heap.size w W → Calls Tryz.prog 16 #[.slice p3 l3 q3] W fun e w' => e = .returned (.string o) ∧ Below W.heap.size W w') ∧
          (∀ W, Below w.heap.size w W → Calls Tryz.prog 17 #[.slice p3 l3 q3] W fun e w' => e = .returned (.string o) ∧ Below W.heap.size W w')) := Lib.hid fun k y hy => by
        have hy0 := hr4 k y hy
        have hym := List.mem_of_getElem? hy
        obtain ⟨p3, q3, f3, _, _⟩ := hy0.dirs.form
        have hd := hy0.dirs
        rw [f3] at hd
        exact ⟨p3, _, q3, f3, both_dirs y.dirs (hsx.2.2.1 y hym).2.1 (hok.2 y hym) _ w w.heap.size hd (Nat.le_refl _) HL.out⟩
      rw [hx0.kind] at k0
      rw [hx0.name] at k1
      rw [e2] at k2
      rw [e3] at k3
      rw [e4] at k4
      rw [e5] at k5
      rw [e6] at k6
      unfold big at g4
      clear ho1 ho2 hdr
      generalize x.impl.length = n2 at k2
      generalize x.dirs.length = n3 at k3 CD1 CD2
      generalize x.members.length = n5 at k5
      generalize x.inputs.length = n6 at k6
      generalize x.kind = kd at k0
      generalize x.name = nm at k1
      obtain ⟨n4, hn4⟩ : ∃ n4, x.fields.length = n4 := ⟨_, rfl⟩
      rw [hn4] at k4 g4 hA4
      have m4 : (n4 : Int) ≤ 140737488351232 := by omega
      have HN4 := Lib.hid hn4
      obtain ⟨tb, htb⟩ : ∃ tb, wr.heap.size = tb := ⟨_, rfl⟩
      have HT : Hid (Bk (wr.alloc (.cells #[.int .i64 kd, .string nm, .slice A2 n2 c2, .slice A3 n3 c3, .slice A4 n4 c4, .slice A5 n5 c5, .slice A6 n6 c6] 39 (0, 0))) tb #[.int .i64 kd, .string nm, .slice A2 n2 c2, .slice A3 n3 c3, .slice A4 n4 c4, .slice A5 n5 c5, .slice A6 n6 c6] 39) := Lib.hid (by rw [← htb]; exact Bk.new _ _ _)
      have HBB2 : Hid (Below w.heap.size w (wr.alloc (.cells #[.int .i64 kd, .string nm, .slice A2 n2 c2, .slice A3 n3 c3, .slice A4 n4 c4, .slice A5 n5 c5, .slice A6 n6 c6] 39 (0, 0)))) := Lib.hid (HB.out.trans ((below_new wr _).mono HB.out.size))
      have HKK2 : Hid (Bk (wr.alloc (.cells #[.int .i64 kd, .string nm, .slice A2 n2 c2, .slice A3 n3 c3, .slice A4 n4 c4, .slice A5 n5 c5, .slice A6 n6 c6] 39 (0, 0))) w.heap.size #[.slice (some a) n c] 32) := Lib.hid (HK.out.stay (below_new _ _))
      have HX4 : Hid (∀ k, k < n4 → ∃ b4, A4 = some b4 ∧ ∀ W, Below w.heap.size w W → ∀ q, q < 5 → W.cell? (at_ (b4.add (k * 5)) q) = some (V4 k q)) := Lib.hid fun k hk => by
        obtain ⟨b4, e, hb4, hcells⟩ := hA4 (by omega)
        exact ⟨b4, e, fun W hW q hq => (hW.cell (by rw [at_block, add_block]; exact hb4)).trans (hcells k hk q hq)⟩
      clear hx0 hc0 hcc e2 e3 e4 e5 e6 hr4 hA4 hn4 hxi hxm hok hsx g4
      go_wp2_with fail
      clear htb y0 k0 k1 k2 k3 k4 k5 k6
      refine wp_region_past (fun W => Below w.heap.size w W ∧ Bk W w.heap.size #[.slice (some a) n c] 32 ∧ Bk W tb #[.int .i64 kd, .string nm, .slice A2 n2 c2, .slice A3 n3 c3, .slice A4 n4 c4, .slice A5 n5 c5, .slice A6 n6 c6] 39) ⟨HBB2.out, HKK2.out, HT.out⟩ (by kernel_rfl) ?_
      intro W ⟨hW, hW0, hW1⟩ _
      have p0 : ∀ q : Past W, q.w.cell? ⟨tb, 3, none⟩ = some (.slice A3 n3 c3) := fun q => (q.b.cell (p := ⟨tb, 3, none⟩) hW1.lt).trans (hW1.cell 3 _ rfl)
      have h1 : ∀ q : Past W, Calls Tryz.prog 16 #[.slice A3 n3 c3] q.w fun e w'' => e = .returned (.string o) ∧ ∃ y : Past W, w'' = y.w := fun q => past_of q (CD1.out _ (hW.trans (q.b.mono hW.size)))
      have h2 : ∀ q : Past W, Calls Tryz.prog 17 #[.slice A3 n3 c3] q.w fun e w'' => e = .returned (.string o) ∧ ∃ y : Past W, w'' = y.w := fun q => past_of q (CD2.out _ (hW.trans (q.b.mono hW.size)))
      have C1 := Lib.hid h1
      have C2 := Lib.hid h2
      have HWW := Lib.hid hW
      have HW0 := Lib.hid hW0
      have HW1 := Lib.hid hW1
      clear hW hW0 hW1 h1 h2
      repeat (go_big_quiet_step (first | with_reducible exact C1.out _ | with_reducible exact C2.out _))
      refine wpQuiet_nil ?_
      intro _ hw'
      obtain ⟨q, rfl⟩ := hw'
      have HB5 := Lib.hid (HWW.out.trans (q.b.mono HWW.out.size))
      have HK5 := Lib.hid (HW0.out.stay q.b)
      have HT5 := Lib.hid (HW1.out.stay q.b)
      clear p0 C1 C2
      go_wp2_with fail
      go_loopw [5] (fun i2 wr => ∃ (k : Nat), k ≤ n4 ∧ i2 = .int .i64 k ∧ Hid (Below w.heap.size w wr ∧ Bk wr w.heap.size #[.slice (some a) n c] 32 ∧ Bk wr tb #[.int .i64 kd, .string nm, .slice A2 n2 c2, .slice A3 n3 c3, .slice A4 n4 c4, .slice A5 n5 c5, .slice A6 n6 c6] 39)) (fun i2 _ => n4 - (intOf i2).toNat)
      case atStart => exact ⟨0, Nat.zero_le _, rfl, Lib.hid ⟨HB5.out, HK5.out, HT5.out⟩⟩
      case round =>
        obtain ⟨k, hk, rfl, hr2⟩ := hrel
        have HB3 := Lib.hid hr2.out.1
        have HK3 := Lib.hid hr2.out.2.1
        have HT3 := Lib.hid hr2.out.2.2
        clear hr2
        have t4 := HT3.out.cell 4 _ rfl
        by_cases hlt2 : k < n4
        · have hlt2' : (k : Int) < n4 := by omega
          obtain ⟨y, hyi⟩ : ∃ y, x.fields[k]? = some y := ⟨_, List.getElem?_eq_getElem (by rw [HN4.out]; exact hlt2)⟩
          obtain ⟨p3, l3, q3, f3, o3, ho1, ho2⟩ := HFB.out k y hyi
          obtain ⟨b4, e4b, hcells⟩ := HX4.out k hlt2
          subst e4b
          have HCL := Lib.hid hcells
          have CF1 := Lib.hid ho1
          have CF2 := Lib.hid ho2
          clear hcells hyi ho1 ho2
          go_wp2_with fail
          refine wp_region_past (fun W => Below w.heap.size w W ∧ Bk W w.heap.size #[.slice (some a) n c] 32 ∧ Bk W tb #[.int .i64 kd, .string nm, .slice A2 n2 c2, .slice A3 n3 c3, .slice (some b4) n4 c4, .slice A5 n5 c5, .slice A6 n6 c6] 39) ⟨HB3.out, HK3.out, HT3.out⟩ (by kernel_rfl) ?_
          intro W ⟨hW, hW0, hW1⟩ _
          have p0 : ∀ q : Past W, q.w.cell? ⟨tb, 4, none⟩ = some (.slice (some b4) n4 c4) := fun q => (q.b.cell (p := ⟨tb, 4, none⟩) hW1.lt).trans (hW1.cell 4 _ rfl)
          have hp : ∀ q : Past W, Below w.heap.size w q.w := fun q => hW.trans (q.b.mono hW.size)
          have r3 : ∀ q : Past W, q.w.cell? ⟨(b4.add (k * 5)).block, (b4.add (k * 5)).off + 4, none⟩ = some (.slice p3 l3 q3) := fun q => (HCL.out _ (hp q) 4 (by omega)).trans (congrArg some f3)
          have h1 : ∀ q : Past W, Calls Tryz.prog 16 #[.slice p3 l3 q3] q.w fun e w'' => e = .returned (.string o3) ∧ ∃ y : Past W, w'' = y.w := fun q => past_of q (CF1.out _ (hp q))
          have h2 : ∀ q : Past W, Calls Tryz.prog 17 #[.slice p3 l3 q3] q.w fun e w'' => e = .returned (.string o3) ∧ ∃ y : Past W, w'' = y.w := fun q => past_of q (CF2.out _ (hp q))
          have C1 := Lib.hid h1
          have C2 := Lib.hid h2
          have HWW := Lib.hid hW
          have HW0 := Lib.hid hW0
          have HW1 := Lib.hid hW1
          clear hW hW0 hW1 hp f3 h1 h2
          repeat (go_big_quiet_step (first | with_reducible exact C1.out _ | with_reducible exact C2.out _))
          refine wpQuiet_nil ?_
          intro _ hw'
          obtain ⟨q, rfl⟩ := hw'
          have HB6 := Lib.hid (HWW.out.trans (q.b.mono HWW.out.size))
          have HK6 := Lib.hid (HW0.out.stay q.b)
          have HT6 := Lib.hid (HW1.out.stay q.b)
          clear p0 r3 C1 C2
          go_wp2_with fail
          go_roundw
          case rel => exact ⟨k + 1, by omega, by go_num, Lib.hid ⟨HB6.out, HK6.out, HT6.out⟩⟩
          case measure => simp [intOf]; omega
        · have : k = n4 := by omega
          subst this
          go_wp2_with fail
          go_roundw
          case rel => exact ⟨j + 1, by omega, by go_num, Lib.hid ⟨HB3.out, HK3.out⟩⟩
          case measure => simp [intOf]; omega
    · have : j = n := by omega
      subst this
      go_wp2_with fail
      refine (CE.out _ HB.out).mono ?_
      rintro e w3 ⟨rfl, hb⟩
      have HB3 := Lib.hid (HB.out.trans (hb.mono HB.out.size))
      clear hb
      go_wp2_with fail
      go_ret
      exact ⟨rfl, HB3.out⟩
end Go.Proofs.YtbacimfbjpimbaaGreatDoor
namespace Go.Proofs.YtbacimfbjpimbaaGreatDoor.sdlprintDirectives
open Go.ChangeShapes Go.WideShapes Go.ChangeAt Go.RowKit
set_option maxRecDepth 100000 in
theorem open_doc {H : Type} {enc : TypeId × Value → H} {W : World} {spare : Nat → Bool} {held : Bool} {base : Nat} {v : Value} {d : DataW H} {p : List MemPlace} (hok : Value.okWide Tryz.prog W .any base 32 v) (h : DataW.Trod enc Tryz.prog W 0 spare held 32 v d p)
    (hw : ∀ n ∈ d.weights Tryz.prog 32, n ≤ reachBytes) : ∃ u l, v = .agg #[u] ∧ DefsR W W.heap.size u l ∧ (Rows.uptoBulk d ≤ 1048576 → defsS l) := by
  obtain ⟨cs0, rfl, _⟩ := okWide_struct Tryz.underlying32 hok
  obtain ⟨fuel, hf0⟩ := h
  obtain ⟨xs, n, rfl, hx, hl, hxl, hf⟩ := DataW.trod_struct Tryz.underlying32 hf0
  rw [show Tryz.prog.cellsOf 32 = 1 by kernel_rfl] at hl
  obtain ⟨c0, e0⟩ : ∃ c0, cs0 = #[c0] := by
    have : cs0.toList.length = 1 := by simpa [Value.cells] using hl
    match hq : cs0.toList, this with
    | [c0], _ => exact ⟨c0, Array.toList_inj.1 hq⟩
  subst e0
  match xs, hxl with
  | [x0], _ =>
  have f0 : DataW.trod enc Tryz.prog W 0 spare held n 30 [c0] = some x0 := by
    have this : DataW.trod enc Tryz.prog W 0 spare held n 30 ((([c0] : List Value).drop 0).take (Tryz.prog.cellsOf 30)) = some x0 := hf 0 _ rfl
    rw [show Tryz.prog.cellsOf 30 = 1 by kernel_rfl] at this; exact this
  simp only [Prod.mk.injEq] at hx
  obtain ⟨rfl, _⟩ := hx
  have hw' : ∀ q ∈ (x0.1.weights Tryz.prog 30 ++ []), q ≤ reachBytes := by
    intro q hq
    refine hw q ?_
    simpa only [DataW.weights, Tryz.underlying32, DataW.weightsEach, List.map_cons, List.map_nil] using hq
  obtain ⟨A, l, c, ys, e1, hsl, hS⟩ := open_rows (enc := enc) (spare := spare) (held := held) 39 30 7 144 DefR (fun x => dirsS x.dirs ∧ inpsS x.inputs ∧ fldsS x.fields ∧ memsS x.members ∧ x.impl.length ≤ 17592186044416) Tryz.underlying30 (by kernel_rfl) (by decide) (by kernel_rfl) DefT0 open_Def f0 (fun q hq => hw' q (by simp [hq]))
  simp only [List.cons.injEq, and_true] at e1
  subst e1
  exact ⟨_, ys, rfl, hsl, fun hB => hS (by simp only [Rows.uptoBulk, Rows.uptoBulkAll, List.map_cons, List.map_nil] at hB; omega)⟩
set_option maxRecDepth 1000000 in
set_option maxHeartbeats 2000000 in
theorem contract (H : Type) (enc : TypeId × Value → H) (W : World) (base : Nat) (args : Array Value) (ds gs : List (DataW H)) (before : List MemPlace)
    (hval : ∀ (j : Nat) t v, Tryz.f4.params[j]? = some t → args[j]? = some v → Value.okWide Tryz.prog W .any base t v)
    (hW : DataW.Whole enc Tryz.prog Tryz.f4.params.toList Rows.sdlprintDirectivesSpec.vars false W args.toList ds gs before)
    (hz : (DataW.weightsEach Tryz.prog (Tryz.f4.params.toList ++ (OpenSpec.ofChange Rows.sdlprintDirectivesSpec).bare.plain.varTypes Tryz.prog) (ds ++ gs)).all (· ≤ reachBytes) = true) (hk : Rows.uptoSmall H (ds ++ gs) = true) (hL : laidMetH Tryz.prog Rows.sdlprintDirectivesUptoRow.laid W) :
    Calls Tryz.prog 4 args W fun e W' => ∃ v, e = .returned v ∧ Rows.sdlprintDirectivesSpec.post enc Tryz.prog Tryz.f4 false true false false W args v W' := by
  have hW' := hW
  have hlt : ∀ x ∈ before, x.block < W.heap.size := fun x hx => by simpa using hW.lt x hx
  obtain ⟨p, q, hA0, hV, rfl, hfz, hnd⟩ := hW
  have hA : DataW.TrodAll enc Tryz.prog W 0 (fun _ => true) true Tryz.f4.params.toList args.toList ds p := hA0
  rw [Tryz.params4] at hA hval hz
  obtain ⟨v0, vs0, d0, ds0, p0, q0, hargs, rfl, rfl, h0, r0⟩ := trodAll_cons hA
  obtain ⟨rfl, rfl, rfl⟩ := trodAll_nil r0
  obtain rfl : args = #[v0] := by cases args; simp_all
  obtain ⟨rfl, rfl⟩ := trodVars_none hV
  have k0 := h0
  have hz' : (DataW.weightsEach Tryz.prog ((#[32] : Array TypeId).toList ++ []) ([d0] ++ [])).all (· ≤ reachBytes) = true := hz
  simp only [List.append_nil] at hz'
  obtain ⟨u0, l0, rfl, m0, s0⟩ := open_doc (hval 0 32 v0 rfl rfl) h0 (fun n hn => by have := List.all_eq_true.1 hz' n (DataW.weights_mem_each (j := 0) (t := 32) rfl rfl n hn); simpa using this)
  clear hA0
  simp only [List.append_nil] at hW' hlt
  have hLL : T1.Laid W := T1.laid_of hL
  have hbk := of_decide_eq_true hk
  simp only [List.append_nil, Rows.uptoBulkAll] at hbk
  refine (directives_row u0 l0 W m0 (s0 (by omega)) (fun w' hb' => hLL.below hb')).mono fun e W' ⟨he, hb⟩ => ?_
  subst he
  exact ⟨_, rfl, _, _, _, [], _, [], hW', trodAll_cons_mk (shut_bool Tryz.underlying4 _) trodAll_mk0, trodAll_cons_mk (Below.trod laidOut (by kernel_rfl) (of_decide_eq_true (by kernel_rfl)) k0 hb (fun x hx => hlt x (by simp [hx]))) (trodAll_mk0), rfl, hb.frame _, fun h => by cases h⟩
set_option maxRecDepth 1000000 in
theorem lifted (os : Os) (started : os.Started) (H : Type) (enc : TypeId × Value → H) (F : Stop.Interp) :
    ReturnsInHanded {} Tryz.checked os 4 .any ((Rows.OpenSpec.upto Rows.sdlprintDirectivesSpec).preRow enc Tryz.prog Tryz.f4 Rows.sdlprintDirectivesUptoRow.domain false Rows.sdlprintDirectivesUptoRow.laid) (((Rows.OpenSpec.upto Rows.sdlprintDirectivesSpec).at F).post enc Tryz.prog Tryz.f4 false true false false) := by
  have hx : DataW.whole enc Tryz.prog ((T1.laidWorld os).forCall (fun _ _ => 0) ⟨#[], #[.agg #[.slice none 0 0]], []⟩).memory Tryz.f4.params.toList Rows.sdlprintDirectivesSpec.vars false (#[.agg #[.slice none 0 0]] : Array Value).toList 8 = some ([.agg [.nil]], [], []) := by kernel_rfl
  refine returnsInHanded_of_row (C := Tryz.checked) (s := Rows.OpenSpec.upto Rows.sdlprintDirectivesSpec) own started (by kernel_rfl) Tryz.func4
    (witness_row_atRef (enc := enc) (C := Tryz.checked) false (T1.laidWorld os) #[.agg #[.slice none 0 0]] (T1.laid_os os) (by kernel_rfl) (by kernel_rfl) (by kernel_rfl)
      (OpenSpec.preRow_of_cond 8 hx (by kernel_rfl) (fun k hk => by cases hk; kernel_rfl) (by kernel_rfl) (T1.laid_met os _))) ?_
  intro W base args ds gs before hval hW _ hcond hz hL _ _
  exact contract H enc W base args ds gs before hval hW hz (hcond _ rfl) hL
end Go.Proofs.YtbacimfbjpimbaaGreatDoor.sdlprintDirectives
