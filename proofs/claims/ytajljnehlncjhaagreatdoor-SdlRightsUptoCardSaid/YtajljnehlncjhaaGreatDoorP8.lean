
/-
  Texts joined: W3 W5 YReg YPure KScan.
-/
import Derived.Test.YtajljnehlncjhaaGreatDoorP7
import Derived.Test.YtajljnehlncjhaaGreatDoorP4
import Derived.BigQuiet
import Derived.Test.YtajljnehlncjhaaGreatDoorP3
import Derived.Orders
import Derived.WalkKit
namespace Go.Proofs.YtajljnehlncjhaaGreatDoor
open Go.RowKit
theorem pastc {w W : World} {B : Nat} (hW : Below B w W) (x : Past W) (hB : B ≤ W.heap.size) {p : Addr} (hp : p.block < B) : x.w.cell? p = w.cell? p := (x.b.cell (by omega)).trans (hW.cell hp)
set_option maxRecDepth 100000 in
set_option maxHeartbeats 4000000 in
theorem weightInputs_any (l : List InpT) (v : Value) (w : World) (h : InpsR w w.heap.size v l) (hs : inpsS l) : Calls Tryz.prog 28 #[v, .int .i64 2000] w (WtPost (wis 0 l) w) := by
  obtain ⟨A, c, rfl, hc, hbb, V, hA, hr⟩ := h
  obtain ⟨R, hR⟩ : ∃ R, R = wis 0 l := ⟨_, rfl⟩
  have HR := Lib.hid hR
  rw [← hR]
  obtain ⟨ll, hll⟩ : ∃ ll, ll = l.length := ⟨_, rfl⟩
  have HLL := Lib.hid hll
  rw [← hll] at hbb hA ⊢
  have hlb : (ll : Int) ≤ 140737488351232 := by unfold big at hbb; omega
  have HA := Lib.hid hA
  have HRR := Lib.hid hr
  have HS := Lib.hid hs
  clear hA hr hs hR hll hbb
  go_enter Tryz.func28, Tryz.ntmps28
  go_wp2_with fail
  go_loopw [5, 6] (fun nn i wr => ∃ (j x : Nat), j ≤ ll ∧ i = .int .i64 j ∧ nn = .int .i64 x ∧ x ≤ 20000000000000 ∧ Hid (R = wis x (l.drop j) ∧ Below w.heap.size w wr)) (fun _ i _ => ll - (intOf i).toNat)
  case atStart => exact ⟨0, 0, Nat.zero_le _, rfl, rfl, by omega, Lib.hid ⟨HR.out, Below.refl _ _⟩⟩
  case round =>
    obtain ⟨j, x, hj, rfl, rfl, hxb, hq⟩ := hrel
    by_cases hgo : j < ll ∧ x ≤ 2000
    · obtain ⟨hlt, hle⟩ := hgo
      have hlt' : (j : Int) < ll := by omega
      have hle' : (x : Int) ≤ 2000 := by omega
      obtain ⟨d, hd⟩ : ∃ d, l[j]? = some d := ⟨_, List.getElem?_eq_getElem (by have := HLL.out; omega)⟩
      obtain ⟨a, rfl, ha, hx⟩ := HA.out (by omega)
      have hdr := HRR.out j d hd
      have hcell := hx j hlt
      obtain ⟨hs1, hs2, hs3⟩ := HS.out d (List.mem_of_getElem? hd)
      obtain ⟨A2, c2, e2, _, _⟩ := hdr.type.wraps.form
      obtain ⟨k1, n1, s1, A3, li1, ci1, K1, lk1, ck1, e4, e5, e6, e7, e8⟩ := Rd.form hdr.val
      obtain ⟨A9, c9, e9, _, _⟩ := hdr.dirs.form
      have HN : Hid (R = wis (x + 1 + d.tw.length + d.dflt.wv + wds 0 d.dirs) (l.drop (j + 1))) := Lib.hid (by rw [hq.out.1, drop_at hd, wis, if_pos hle])
      have hbt := wv_le d.dflt
      have hbd := wds_le d.dirs 0 hs2 (by omega)
      have hvv : Rd w w.heap.size (.agg #[.int .i64 k1, .int .i64 n1, .string s1, .slice A3 li1 ci1, .slice K1 lk1 ck1]) d.dflt := by
        have := hdr.val
        rw [e4, e5, e6, e7, e8] at this
        exact this
      have hdd : DirsR w w.heap.size (.slice A9 d.dirs.length c9) d.dirs := by rw [← e9]; exact hdr.dirs
      have hlt3 : (d.tw.length : Int) ≤ 17592186044416 := by omega
      have hbt' : (d.dflt.wv : Int) ≤ 1099511627776 := by omega
      have hbd' : (wds 0 d.dirs : Int) ≤ 1099511700000 := by omega
      have H2 := Lib.hid ((hcell 2 (by omega)).trans (by rw [e2]))
      have H4 := Lib.hid ((hcell 4 (by omega)).trans (by rw [e4]))
      have H5 := Lib.hid ((hcell 5 (by omega)).trans (by rw [e5]))
      have H6 := Lib.hid ((hcell 6 (by omega)).trans (by rw [e6]))
      have H7 := Lib.hid ((hcell 7 (by omega)).trans (by rw [e7]))
      have H8 := Lib.hid ((hcell 8 (by omega)).trans (by rw [e8]))
      have H9 := Lib.hid ((hcell 9 (by omega)).trans (by rw [e9]))
      have W1 := fun (W : World) (hW : Below w.heap.size w W) => weight_any d.dflt W w.heap.size _ (hvv.kept hW) hW.size hs1
      have W2 := fun (W : World) (hW : Below w.heap.size w W) => weightDirs_any d.dirs _ W ((hdd.kept hW).mono hW.size) hs2
      have HW1 := Lib.hid W1
      have HW2 := Lib.hid W2
      have HAB := Lib.hid ha
      clear hx hdr hcell e2 e4 e5 e6 e7 e8 e9 hvv hdd W1 W2 hs1 hs2 hs3 hbt hbd hd ha
      generalize d.tw.length = lw at *
      generalize d.dflt.wv = tv at *
      generalize wds 0 d.dirs = td at *
      generalize d.dirs.length = ld at *
      go_wp2_with fail
      refine wp_region_past (fun W => Below w.heap.size w W) hq.out.2 (by kernel_rfl) ?_
      intro W hW _
      have hc9 : ∀ (x : Past W) (o : Nat), x.w.cell? ⟨(a.add (j * 10)).block, (a.add (j * 10)).off + o, none⟩ = w.cell? ⟨(a.add (j * 10)).block, (a.add (j * 10)).off + o, none⟩ := fun x o => pastc hW x hW.size (by rw [add_block]; exact HAB.out)
      have p2 : ∀ x : Past W, x.w.cell? ⟨(a.add (j * 10)).block, (a.add (j * 10)).off + 2, none⟩ = some (.slice A2 lw c2) := fun x => (hc9 x 2).trans H2.out
      have p4 : ∀ x : Past W, x.w.cell? ⟨(a.add (j * 10)).block, (a.add (j * 10)).off + 4, none⟩ = some (.int .i64 k1) := fun x => (hc9 x 4).trans H4.out
      have p5 : ∀ x : Past W, x.w.cell? ⟨(a.add (j * 10)).block, (a.add (j * 10)).off + 5, none⟩ = some (.int .i64 n1) := fun x => (hc9 x 5).trans H5.out
      have p6 : ∀ x : Past W, x.w.cell? ⟨(a.add (j * 10)).block, (a.add (j * 10)).off + 6, none⟩ = some (.string s1) := fun x => (hc9 x 6).trans H6.out
      have p7 : ∀ x : Past W, x.w.cell? ⟨(a.add (j * 10)).block, (a.add (j * 10)).off + 7, none⟩ = some (.slice A3 li1 ci1) := fun x => (hc9 x 7).trans H7.out
      have p8 : ∀ x : Past W, x.w.cell? ⟨(a.add (j * 10)).block, (a.add (j * 10)).off + 8, none⟩ = some (.slice K1 lk1 ck1) := fun x => (hc9 x 8).trans H8.out
      have p9 : ∀ x : Past W, x.w.cell? ⟨(a.add (j * 10)).block, (a.add (j * 10)).off + 9, none⟩ = some (.slice A9 ld c9) := fun x => (hc9 x 9).trans H9.out
      have k1' : ∀ x : Past W, Calls Tryz.prog 55 #[.agg #[.int .i64 k1, .int .i64 n1, .string s1, .slice A3 li1 ci1, .slice K1 lk1 ck1], .int .i64 2000] x.w fun e w'' => e = .returned (.int .i64 tv) ∧ ∃ y : Past W, w'' = y.w := fun x => past_of x (HW1.out _ (hW.trans (x.b.mono hW.size)))
      have k2' : ∀ x : Past W, Calls Tryz.prog 27 #[.slice A9 ld c9, .int .i64 2000] x.w fun e w'' => e = .returned (.int .i64 td) ∧ ∃ y : Past W, w'' = y.w := fun x => past_of x (HW2.out _ (hW.trans (x.b.mono hW.size)))
      have C1 := Lib.hid k1'
      have C2 := Lib.hid k2'
      have HWW := Lib.hid hW
      clear hc9 k1' k2' hW
      repeat (go_big_quiet_step (first | with_reducible exact C1.out _ | with_reducible exact C2.out _))
      refine wpQuiet_nil ?_
      intro _ hw'
      obtain ⟨y, rfl⟩ := hw'
      go_wp2_with fail
      go_roundw
      case rel => exact ⟨j + 1, x + 1 + lw + tv + td, by omega, by go_num, by go_num, by omega, Lib.hid ⟨HN.out, HWW.out.trans (y.b.mono HWW.out.size)⟩⟩
      case measure => simp [intOf]; omega
    · have HF : Hid (R = x) := Lib.hid (by
        rw [hq.out.1]
        rcases Nat.lt_or_ge 2000 x with h | h
        · rw [wis_big h]
        · rw [List.drop_eq_nil_of_le (by have := HLL.out; omega), wis])
      by_cases hlt : j < ll
      · have hlt' : (j : Int) < ll := by omega
        have hle' : ¬ (x : Int) ≤ 2000 := fun h => hgo ⟨hlt, by omega⟩
        clear hgo
        go_wp2_with fail
        go_ret
        exact ⟨by rw [HF.out]; rfl, hq.out.2⟩
      · have hlt' : ¬ (j : Int) < ll := by omega
        clear hgo
        go_wp2_with fail
        go_ret
        exact ⟨by rw [HF.out]; rfl, hq.out.2⟩
end Go.Proofs.YtajljnehlncjhaaGreatDoor
namespace Go.Proofs.YtajljnehlncjhaaGreatDoor
open Go.RowKit
set_option maxRecDepth 100000 in
set_option maxHeartbeats 8000000 in
theorem weightDoc_any (l : List DefT) (v : Value) (w : World) (h : DefsR w w.heap.size v l) (hs : defsS l) : Calls Tryz.prog 12 #[.agg #[v], .int .i64 2000] w (WtPost (wdefs l.length l) w) := by
  obtain ⟨A, c, rfl, hc, hbb, V, hA, hr⟩ := h
  obtain ⟨R, hR⟩ : ∃ R, R = wdefs l.length l := ⟨_, rfl⟩
  rw [← hR]
  obtain ⟨ll, hll⟩ : ∃ ll, ll = l.length := ⟨_, rfl⟩
  have HLL := Lib.hid hll
  rw [← hll] at hbb hA hR ⊢
  have HR := Lib.hid hR
  have hlb : (ll : Int) ≤ 1099511627776 := by unfold big at hbb; omega
  have HA := Lib.hid hA
  have HRR := Lib.hid hr
  have HS := Lib.hid hs
  have HX0 := Lib.hid (Bk.new w #[.slice A ll c] 25)
  have HB0 := Lib.hid (below_new w (.cells #[.slice A ll c] 25 (0, 0)))
  have q0 := HX0.out.cell 0 _ rfl
  clear hA hr hs hR hll hbb
  go_enter Tryz.func12, Tryz.ntmps12
  go_wp2_with fail
  clear q0
  go_loopw [5, 6] (fun nn i wr => ∃ (j x : Nat), j ≤ ll ∧ i = .int .i64 j ∧ nn = .int .i64 x ∧ x ≤ 60000000000000 ∧ Hid (R = wdefs x (l.drop j) ∧ Below w.heap.size w wr ∧ Bk wr w.heap.size #[.slice A ll c] 25)) (fun _ i _ => ll - (intOf i).toNat)
  case atStart => exact ⟨0, ll, Nat.zero_le _, rfl, rfl, by omega, Lib.hid ⟨HR.out, HB0.out, HX0.out⟩⟩
  case round =>
    obtain ⟨j, x, hj, rfl, rfl, hxb, hq⟩ := hrel
    have q0 := hq.out.2.2.cell 0 _ rfl
    by_cases hgo : j < ll ∧ x ≤ 2000
    · obtain ⟨hlt, hle⟩ := hgo
      have hlt' : (j : Int) < ll := by omega
      have hle' : (x : Int) ≤ 2000 := by omega
      obtain ⟨d, hd⟩ : ∃ d, l[j]? = some d := ⟨_, List.getElem?_eq_getElem (by have := HLL.out; omega)⟩
      obtain ⟨a, rfl, ha, hx⟩ := HA.out (by omega)
      have hdr := HRR.out j d hd
      have hcell := hx j hlt
      obtain ⟨hs1, hs2, hs3, hs4, hs5⟩ := HS.out d (List.mem_of_getElem? hd)
      obtain ⟨A2, c2, e2, _, _⟩ := hdr.impl.form
      obtain ⟨A3, c3, e3, _, _⟩ := hdr.dirs.form
      obtain ⟨A4, c4, e4, _, hb4, V4, hA4, hR4⟩ := hdr.fields
      obtain ⟨A5, c5, e5, _, hb5, V5, hA5, hR5⟩ := hdr.members
      obtain ⟨A6, c6, e6, _, _⟩ := hdr.inputs.form
      have HN : Hid (R = wdefs (wms (wfs (x + d.impl.length + wds 0 d.dirs + wis 0 d.inputs) d.fields) d.members) (l.drop (j + 1))) := Lib.hid (by rw [hq.out.1, drop_at hd, wdefs, if_pos hle])
      have hbd := wds_le d.dirs 0 hs1 (by omega)
      have hbi := wis_le d.inputs 0 hs2 (by omega)
      have hdd : DirsR w w.heap.size (.slice A3 d.dirs.length c3) d.dirs := by rw [← e3]; exact hdr.dirs
      have hii : InpsR w w.heap.size (.slice A6 d.inputs.length c6) d.inputs := by rw [← e6]; exact hdr.inputs
      have W1 := fun (W : World) (hW : Below w.heap.size w W) => weightDirs_any d.dirs _ W ((hdd.kept hW).mono hW.size) hs1
      have W2 := fun (W : World) (hW : Below w.heap.size w W) => weightInputs_any d.inputs _ W ((hii.kept hW).mono hW.size) hs2
      have HW1 := Lib.hid W1
      have HW2 := Lib.hid W2
      have hck : ∀ (j2 : Nat) (u : Value), j2 < 7 → V j j2 = u → wr.cell? (at_ (a.add (j * 7)) j2) = some u := fun j2 u h7 e => (hq.out.2.1.cell (p := at_ (a.add (j * 7)) j2) (by rw [at_block, add_block]; exact ha)).trans ((hcell j2 h7).trans (by rw [e]))
      have r0 : wr.cell? (a.add (j * 7)) = some (.int .i64 d.kind) := hck 0 _ (by omega) hdr.kind
      have r1 : wr.cell? ⟨(a.add (j * 7)).block, (a.add (j * 7)).off + 1, none⟩ = some (.string d.name) := hck 1 _ (by omega) hdr.name
      have r2 : wr.cell? ⟨(a.add (j * 7)).block, (a.add (j * 7)).off + 2, none⟩ = some (.slice A2 d.impl.length c2) := hck 2 _ (by omega) e2
      have r3 : wr.cell? ⟨(a.add (j * 7)).block, (a.add (j * 7)).off + 3, none⟩ = some (.slice A3 d.dirs.length c3) := hck 3 _ (by omega) e3
      have r4 : wr.cell? ⟨(a.add (j * 7)).block, (a.add (j * 7)).off + 4, none⟩ = some (.slice A4 d.fields.length c4) := hck 4 _ (by omega) e4
      have r5 : wr.cell? ⟨(a.add (j * 7)).block, (a.add (j * 7)).off + 5, none⟩ = some (.slice A5 d.members.length c5) := hck 5 _ (by omega) e5
      have r6 : wr.cell? ⟨(a.add (j * 7)).block, (a.add (j * 7)).off + 6, none⟩ = some (.slice A6 d.inputs.length c6) := hck 6 _ (by omega) e6
      have hlt3 : (d.impl.length : Int) ≤ 17592186044416 := by omega
      have hbd' : (wds 0 d.dirs : Int) ≤ 1099511700000 := by omega
      have hbi' : (wis 0 d.inputs : Int) ≤ 20000000000000 := by omega
      have hfb : (d.fields.length : Int) ≤ 140737488351232 := by unfold big at hb4; omega
      have hmb : (d.members.length : Int) ≤ 140737488351232 := by unfold big at hb5; omega
      have HFS := Lib.hid hs3
      have HMS := Lib.hid hs4
      have HA4 := Lib.hid hA4
      have HR4 := Lib.hid hR4
      have HA5 := Lib.hid hA5
      have HR5 := Lib.hid hR5
      generalize hkz : d.kind = kz at *
      generalize hnz : d.name = nz at *
      generalize d.impl.length = li at *
      generalize wds 0 d.dirs = td at *
      generalize wis 0 d.inputs = ti at *
      generalize d.dirs.length = ld at *
      generalize d.inputs.length = lx at *
      obtain ⟨lf, hlf⟩ : ∃ lf, lf = d.fields.length := ⟨_, rfl⟩
      obtain ⟨lm, hlm⟩ : ∃ lm, lm = d.members.length := ⟨_, rfl⟩
      rw [← hlf] at r4 hfb HA4
      rw [← hlm] at r5 hmb HA5
      have HLF := Lib.hid hlf
      have HLM := Lib.hid hlm
      have HX7 := Lib.hid (Bk.new wr #[.int .i64 kz, .string nz, .slice A2 li c2, .slice A3 ld c3, .slice A4 lf c4, .slice A5 lm c5, .slice A6 lx c6] 45)
      have HB7 := Lib.hid (hq.out.2.1.trans ((below_new wr (.cells #[.int .i64 kz, .string nz, .slice A2 li c2, .slice A3 ld c3, .slice A4 lf c4, .slice A5 lm c5, .slice A6 lx c6] 45 (0, 0))).mono hq.out.2.1.size))
      have HX0 := Lib.hid (hq.out.2.2.stay (below_new wr (.cells #[.int .i64 kz, .string nz, .slice A2 li c2, .slice A3 ld c3, .slice A4 lf c4, .slice A5 lm c5, .slice A6 lx c6] 45 (0, 0))))
      have hws := hq.out.2.1.size
      clear hx hdr hcell e2 e3 e4 e5 e6 hdd hii W1 W2 hs1 hs2 hs3 hs4 hs5 hbd hbi hd ha hck hA4 hR4 hA5 hR5 hb4 hb5 hlf hlm hkz hnz
      go_wp2_with fail
      refine wp_region_past (fun W => Below w.heap.size w W ∧ Bk W wr.heap.size #[.int .i64 kz, .string nz, .slice A2 li c2, .slice A3 ld c3, .slice A4 lf c4, .slice A5 lm c5, .slice A6 lx c6] 45 ∧ Bk W w.heap.size #[.slice (some a) ll c] 25) ⟨HB7.out, HX7.out, HX0.out⟩ (by kernel_rfl) ?_
      intro W ⟨hW, hW7, hW0⟩ _
      have hc7 : ∀ (x : Past W) (o : Nat), x.w.cell? ⟨wr.heap.size, o, none⟩ = W.cell? ⟨wr.heap.size, o, none⟩ := fun x o => x.b.cell (p := ⟨wr.heap.size, o, none⟩) hW7.lt
      have p2 : ∀ x : Past W, x.w.cell? ⟨wr.heap.size, 2, none⟩ = some (.slice A2 li c2) := fun x => (hc7 x 2).trans (hW7.cell 2 _ rfl)
      have p3 : ∀ x : Past W, x.w.cell? ⟨wr.heap.size, 3, none⟩ = some (.slice A3 ld c3) := fun x => (hc7 x 3).trans (hW7.cell 3 _ rfl)
      have p6 : ∀ x : Past W, x.w.cell? ⟨wr.heap.size, 6, none⟩ = some (.slice A6 lx c6) := fun x => (hc7 x 6).trans (hW7.cell 6 _ rfl)
      have k1' : ∀ x : Past W, Calls Tryz.prog 27 #[.slice A3 ld c3, .int .i64 2000] x.w fun e w'' => e = .returned (.int .i64 td) ∧ ∃ y : Past W, w'' = y.w := fun x => past_of x (HW1.out _ (hW.trans (x.b.mono hW.size)))
      have k2' : ∀ x : Past W, Calls Tryz.prog 28 #[.slice A6 lx c6, .int .i64 2000] x.w fun e w'' => e = .returned (.int .i64 ti) ∧ ∃ y : Past W, w'' = y.w := fun x => past_of x (HW2.out _ (hW.trans (x.b.mono hW.size)))
      have C1 := Lib.hid k1'
      have C2 := Lib.hid k2'
      have HWW := Lib.hid hW
      have HW7 := Lib.hid hW7
      have HW0 := Lib.hid hW0
      clear hc7 k1' k2' hW hW7 hW0 r0 r1 r2 r3 r4 r5 r6 q0
      repeat (go_big_quiet_step (first | with_reducible exact C1.out _ | with_reducible exact C2.out _))
      refine wpQuiet_nil ?_
      intro _ hw'
      obtain ⟨y, rfl⟩ := hw'
      have HB6 := Lib.hid (HWW.out.trans (y.b.mono HWW.out.size))
      have HY7 := Lib.hid (HW7.out.stay y.b)
      have HY0 := Lib.hid (HW0.out.stay y.b)
      clear C1 C2 HWW HW7 HW0 HB7 HX7 HX0 HW1 HW2 p2 p3 p6 hq
      generalize y.w = w6 at *
      generalize wr.heap.size = b7 at *
      have hn7 : b7 ≠ w.heap.size := by
        rintro rfl
        have h1 := HY7.out
        rw [Bk, HY0.out] at h1
        simp at h1
      go_wp2_with fail
      go_loopw [5, 8] (fun nn i wr => ∃ (j2 x2 : Nat), j2 ≤ lf ∧ i = .int .i64 j2 ∧ nn = .int .i64 x2 ∧ x2 ≤ 60000000000000 ∧ Hid (wfs (x + li + td + ti) d.fields = wfs x2 (d.fields.drop j2) ∧ Below w.heap.size w wr ∧ Bk wr b7 #[.int .i64 kz, .string nz, .slice A2 li c2, .slice A3 ld c3, .slice A4 lf c4, .slice A5 lm c5, .slice A6 lx c6] 45 ∧ Bk wr w.heap.size #[.slice (some a) ll c] 25)) (fun _ i _ => lf - (intOf i).toNat)
      case atStart => exact ⟨0, x + li + td + ti, Nat.zero_le _, rfl, by go_num, by omega, Lib.hid ⟨rfl, HB6.out, HY7.out, HY0.out⟩⟩
      case round =>
        obtain ⟨j2, x2, hj2, rfl, rfl, hxb2, hq2⟩ := hrel
        have q4 := hq2.out.2.2.1.cell 4 _ rfl
        by_cases hgo2 : j2 < lf ∧ x2 ≤ 2000
        · obtain ⟨hlt2, hle2⟩ := hgo2
          have hlt2' : (j2 : Int) < lf := by omega
          have hle2' : (x2 : Int) ≤ 2000 := by omega
          obtain ⟨f, hf⟩ : ∃ f, d.fields[j2]? = some f := ⟨_, List.getElem?_eq_getElem (by have := HLF.out; omega)⟩
          obtain ⟨a4, rfl, ha4, hx4⟩ := HA4.out (by omega)
          have hfr := HR4.out j2 f hf
          have hcell4 := hx4 j2 hlt2
          obtain ⟨fs1, fs2, fs3⟩ := HFS.out f (List.mem_of_getElem? hf)
          obtain ⟨B1, g1, u1, _, _⟩ := hfr.args.form
          obtain ⟨B3, g3, u3, _, _⟩ := hfr.type.wraps.form
          obtain ⟨B4, g4, u4, _, _⟩ := hfr.dirs.form
          have HN2 : Hid (wfs (x + li + td + ti) d.fields = wfs (x2 + 1 + f.tw.length + wis 0 f.args + wds 0 f.dirs) (d.fields.drop (j2 + 1))) := Lib.hid (by rw [hq2.out.1, drop_at hf, wfs, if_pos hle2])
          have gbd := wds_le f.dirs 0 fs2 (by omega)
          have gbi := wis_le f.args 0 fs1 (by omega)
          have hdd : DirsR w w.heap.size (.slice B4 f.dirs.length g4) f.dirs := by rw [← u4]; exact hfr.dirs
          have hii : InpsR w w.heap.size (.slice B1 f.args.length g1) f.args := by rw [← u1]; exact hfr.args
          have HV1 := Lib.hid (fun (W : World) (hW : Below w.heap.size w W) => weightDirs_any f.dirs _ W ((hdd.kept hW).mono hW.size) fs2)
          have HV2 := Lib.hid (fun (W : World) (hW : Below w.heap.size w W) => weightInputs_any f.args _ W ((hii.kept hW).mono hW.size) fs1)
          have H1 := Lib.hid ((hcell4 1 (by omega)).trans (by rw [u1]))
          have H3 := Lib.hid ((hcell4 3 (by omega)).trans (by rw [u3]))
          have H4 := Lib.hid ((hcell4 4 (by omega)).trans (by rw [u4]))
          have HAB := Lib.hid ha4
          have fl3 : (f.tw.length : Int) ≤ 17592186044416 := by omega
          have gbd' : (wds 0 f.dirs : Int) ≤ 1099511700000 := by omega
          have gbi' : (wis 0 f.args : Int) ≤ 20000000000000 := by omega
          clear hx4 hfr hcell4 fs1 fs2 fs3 u1 u3 u4 hdd hii gbd gbi hf ha4
          generalize f.tw.length = lw at *
          generalize wds 0 f.dirs = fd at *
          generalize wis 0 f.args = fi at *
          generalize f.dirs.length = ld2 at *
          generalize f.args.length = la2 at *
          go_wp2_with fail
          refine wp_region_past (fun W => Below w.heap.size w W ∧ Bk W b7 #[.int .i64 kz, .string nz, .slice A2 li c2, .slice A3 ld c3, .slice (some a4) lf c4, .slice A5 lm c5, .slice A6 lx c6] 45 ∧ Bk W w.heap.size #[.slice (some a) ll c] 25) hq2.out.2 (by kernel_rfl) ?_
          intro W ⟨hW, hW7, hW0⟩ _
          have hc9 : ∀ (x : Past W) (o : Nat), x.w.cell? ⟨(a4.add (j2 * 5)).block, (a4.add (j2 * 5)).off + o, none⟩ = w.cell? ⟨(a4.add (j2 * 5)).block, (a4.add (j2 * 5)).off + o, none⟩ := fun x o => pastc hW x hW.size (by rw [add_block]; exact HAB.out)
          have p1 : ∀ x : Past W, x.w.cell? ⟨(a4.add (j2 * 5)).block, (a4.add (j2 * 5)).off + 1, none⟩ = some (.slice B1 la2 g1) := fun x => (hc9 x 1).trans H1.out
          have p3 : ∀ x : Past W, x.w.cell? ⟨(a4.add (j2 * 5)).block, (a4.add (j2 * 5)).off + 3, none⟩ = some (.slice B3 lw g3) := fun x => (hc9 x 3).trans H3.out
          have p4 : ∀ x : Past W, x.w.cell? ⟨(a4.add (j2 * 5)).block, (a4.add (j2 * 5)).off + 4, none⟩ = some (.slice B4 ld2 g4) := fun x => (hc9 x 4).trans H4.out
          have p7 : ∀ x : Past W, x.w.cell? ⟨b7, 4, none⟩ = some (.slice (some a4) lf c4) := fun x => (x.b.cell (p := ⟨b7, 4, none⟩) hW7.lt).trans (hW7.cell 4 _ rfl)
          have k1' : ∀ x : Past W, Calls Tryz.prog 27 #[.slice B4 ld2 g4, .int .i64 2000] x.w fun e w'' => e = .returned (.int .i64 fd) ∧ ∃ y : Past W, w'' = y.w := fun x => past_of x (HV1.out _ (hW.trans (x.b.mono hW.size)))
          have k2' : ∀ x : Past W, Calls Tryz.prog 28 #[.slice B1 la2 g1, .int .i64 2000] x.w fun e w'' => e = .returned (.int .i64 fi) ∧ ∃ y : Past W, w'' = y.w := fun x => past_of x (HV2.out _ (hW.trans (x.b.mono hW.size)))
          have C1 := Lib.hid k1'
          have C2 := Lib.hid k2'
          have HWW := Lib.hid hW
          have HW7 := Lib.hid hW7
          have HW0 := Lib.hid hW0
          clear hc9 k1' k2' hW hW7 hW0 q4
          repeat (go_big_quiet_step (first | with_reducible exact C1.out _ | with_reducible exact C2.out _))
          refine wpQuiet_nil ?_
          intro _ hw'
          obtain ⟨y, rfl⟩ := hw'
          go_wp2_with fail
          go_roundw
          case rel => exact ⟨j2 + 1, x2 + 1 + lw + fi + fd, by omega, by go_num, by go_num, by omega, Lib.hid ⟨HN2.out, HWW.out.trans (y.b.mono HWW.out.size), HW7.out.stay y.b, HW0.out.stay y.b⟩⟩
          case measure => simp [intOf]; omega
        · have HF2 : Hid (wfs (x + li + td + ti) d.fields = x2) := Lib.hid (by
            rw [hq2.out.1]
            rcases Nat.lt_or_ge 2000 x2 with h | h
            · rw [wfs_big h]
            · rw [List.drop_eq_nil_of_le (by have := HLF.out; omega), wfs])
          have hcase : (∃ _ : (j2 : Int) < lf, ¬ (x2 : Int) ≤ 2000) ∨ ¬ (j2 : Int) < lf := by
            by_cases h : (j2 : Int) < lf
            · exact .inl ⟨h, fun h2 => hgo2 ⟨by omega, by omega⟩⟩
            · exact .inr h
          clear hgo2
          rcases hcase with ⟨hlt2', hle2'⟩ | hlt2'
          all_goals
            go_wp2_with fail
            clear q4
            go_loopw [5, 9] (fun nn i wr => ∃ (j3 x3 : Nat), j3 ≤ lm ∧ i = .int .i64 j3 ∧ nn = .int .i64 x3 ∧ x3 ≤ 60000000000000 ∧ Hid (wms x2 d.members = wms x3 (d.members.drop j3) ∧ Below w.heap.size w wr ∧ Bk wr b7 #[.int .i64 kz, .string nz, .slice A2 li c2, .slice A3 ld c3, .slice A4 lf c4, .slice A5 lm c5, .slice A6 lx c6] 45 ∧ Bk wr w.heap.size #[.slice (some a) ll c] 25)) (fun _ i _ => lm - (intOf i).toNat)
            case atStart => exact ⟨0, x2, Nat.zero_le _, rfl, rfl, hxb2, Lib.hid ⟨rfl, hq2.out.2.1, hq2.out.2.2.1, hq2.out.2.2.2⟩⟩
            case round =>
              obtain ⟨j3, x3, hj3, rfl, rfl, hxb3, hq3⟩ := hrel
              have q5 := hq3.out.2.2.1.cell 5 _ rfl
              by_cases hgo3 : j3 < lm ∧ x3 ≤ 2000
              · obtain ⟨hlt3, hle3⟩ := hgo3
                have hlt3' : (j3 : Int) < lm := by omega
                have hle3' : (x3 : Int) ≤ 2000 := by omega
                obtain ⟨f, hf⟩ : ∃ f, d.members[j3]? = some f := ⟨_, List.getElem?_eq_getElem (by have := HLM.out; omega)⟩
                obtain ⟨a5, rfl, ha5, hx5⟩ := HA5.out (by omega)
                have hfr := HR5.out j3 f hf
                have hcell5 := hx5 j3 hlt3
                have fs2 := HMS.out f (List.mem_of_getElem? hf)
                obtain ⟨B4, g4, u4, _, _⟩ := hfr.dirs.form
                have HN3 : Hid (wms x2 d.members = wms (x3 + 1 + wds 0 f.dirs) (d.members.drop (j3 + 1))) := Lib.hid (by rw [hq3.out.1, drop_at hf, wms, if_pos hle3])
                have gbd := wds_le f.dirs 0 fs2 (by omega)
                have hdd : DirsR w w.heap.size (.slice B4 f.dirs.length g4) f.dirs := by rw [← u4]; exact hfr.dirs
                have CALL := Lib.hid (weightDirs_any f.dirs _ wr ((hdd.kept hq3.out.2.1).mono hq3.out.2.1.size) fs2)
                have r1 : wr.cell? ⟨(a5.add (j3 * 2)).block, (a5.add (j3 * 2)).off + 1, none⟩ = some (.slice B4 f.dirs.length g4) := by
                  rw [hq3.out.2.1.cell (p := ⟨(a5.add (j3 * 2)).block, (a5.add (j3 * 2)).off + 1, none⟩) (by rw [add_block]; exact ha5)]
                  exact (hcell5 1 (by omega)).trans (by rw [u4])
                have gbd' : (wds 0 f.dirs : Int) ≤ 1099511700000 := by omega
                clear hx5 hfr hcell5 fs2 u4 hdd hf ha5
                generalize wds 0 f.dirs = fd at *
                generalize f.dirs.length = ld2 at *
                go_wp2_with fail
                refine CALL.out.mono ?_
                rintro e w8 ⟨rfl, hb8⟩
                have HB8 := Lib.hid (hq3.out.2.1.trans (hb8.mono hq3.out.2.1.size))
                have HD7 := Lib.hid (hq3.out.2.2.1.stay hb8)
                have HD0 := Lib.hid (hq3.out.2.2.2.stay hb8)
                clear hb8 q5 r1 CALL
                go_wp2_with fail
                go_roundw
                case rel => exact ⟨j3 + 1, x3 + 1 + fd, by omega, by go_num, by go_num, by omega, Lib.hid ⟨HN3.out, HB8.out, HD7.out, HD0.out⟩⟩
                case measure => simp [intOf]; omega
              · have HF3 : Hid (R = wdefs x3 (l.drop (j + 1))) := Lib.hid (by
                  rw [HN.out, HF2.out, hq3.out.1]
                  rcases Nat.lt_or_ge 2000 x3 with h | h
                  · rw [wms_big h]
                  · rw [List.drop_eq_nil_of_le (by have := HLM.out; omega), wms])
                have hcase : (∃ _ : (j3 : Int) < lm, ¬ (x3 : Int) ≤ 2000) ∨ ¬ (j3 : Int) < lm := by
                  by_cases h : (j3 : Int) < lm
                  · exact .inl ⟨h, fun h2 => hgo3 ⟨by omega, by omega⟩⟩
                  · exact .inr h
                clear hgo3
                rcases hcase with ⟨hlt3', hle3'⟩ | hlt3'
                all_goals
                  go_wp2_with fail
                  go_roundw
                  case rel => exact ⟨j + 1, x3, by omega, by go_num, rfl, hxb3, Lib.hid ⟨HF3.out, hq3.out.2.1, hq3.out.2.2.2⟩⟩
                  case measure => simp [intOf]; omega
    · have HF : Hid (R = x) := Lib.hid (by
        rw [hq.out.1]
        rcases Nat.lt_or_ge 2000 x with h | h
        · rw [wdefs_big h]
        · rw [List.drop_eq_nil_of_le (by have := HLL.out; omega), wdefs])
      by_cases hlt : j < ll
      · have hlt' : (j : Int) < ll := by omega
        have hle' : ¬ (x : Int) ≤ 2000 := fun h => hgo ⟨hlt, by omega⟩
        clear hgo
        go_wp2_with fail
        go_ret
        exact ⟨by rw [HF.out]; rfl, hq.out.2.1⟩
      · have hlt' : ¬ (j : Int) < ll := by omega
        clear hgo
        go_wp2_with fail
        go_ret
        exact ⟨by rw [HF.out]; rfl, hq.out.2.1⟩
end Go.Proofs.YtajljnehlncjhaaGreatDoor
namespace Go.Proofs.YtajljnehlncjhaaGreatDoor.K
open Go.RowKit
section
variable {P : Program} {ops : Array Oper} {n s : Nat} {Q : Exit → Act → World → Prop}
def lowB (ops : Array Oper) : Bool := (List.range ops.size).all fun i => match ops[i]? with | none => true | some o => o.after.all fun e => !Region.binds .any e || decide (e.on < i)
theorem low_of (h : lowB ops = true) {i : Nat} {o : Oper} (ho : ops[i]? = some o) : ∀ e ∈ o.after, Region.binds .any e = true → e.on < i := by
  intro e he hb
  have hi : i < ops.size := (Array.getElem?_eq_some_iff.1 ho).1
  have := List.all_eq_true.1 h i (List.mem_range.2 hi)
  rw [ho] at this
  have h2 := (Array.all_eq_true_iff_forall_mem.1 this) e he
  rw [hb] at h2
  simpa using h2
theorem ready_none (h : lowB ops = true) {L : Array Bool} (hr : Region.ready .any ops L = []) : ∀ i, i < ops.size → L.getD i true = true := by
  intro i
  induction i using Nat.strongRecOn with
  | ind i ih =>
  intro hi
  cases q : L.getD i true with
  | true => rfl
  | false =>
    have hm : i ∈ Region.ready .any ops L := mem_ready.2 ⟨q, ops[i], Array.getElem?_eq_getElem hi, fun e he hb => by
      have hl := low_of h (Array.getElem?_eq_getElem hi) e he hb
      have := ih e.on hl (by omega)
      have hs : e.on < L.size := by
        rcases Nat.lt_or_ge e.on L.size with h' | h'
        · exact h'
        · exfalso
          have h2 : i < L.size := by
            rcases Nat.lt_or_ge i L.size with h3 | h3
            · exact h3
            · simp [Array.getD_eq_getD_getElem?, Array.getElem?_eq_none h3] at q
          omega
      rw [Array.getD_eq_getD_getElem?, Array.getElem?_eq_getElem hs] at this ⊢
      simpa using this⟩
    rw [hr] at hm
    cases hm
def unl (L : Array Bool) : Nat := L.toList.countP (fun b => !b)
theorem unl_set {L : Array Bool} {i : Nat} (h : L.getD i true = false) : unl (L.setIfInBounds i true) + 1 = unl L := by
  have hi : i < L.size := by
    rcases Nat.lt_or_ge i L.size with h3 | h3
    · exact h3
    · simp [Array.getD_eq_getD_getElem?, Array.getElem?_eq_none h3] at h
  have hv : L[i] = false := by simpa [Array.getD_eq_getD_getElem?, Array.getElem?_eq_getElem hi] using h
  unfold unl
  rw [Array.toList_setIfInBounds, List.countP_set (by simpa using hi)]
  have hp : 0 < L.toList.countP (fun b => !b) := List.countP_pos_iff.2 ⟨L[i], by simp, by simp [hv]⟩
  rw [show L.toList[i]'(by simpa using hi) = false from by simpa using hv]
  simp only [Bool.not_false, Bool.not_true, if_true, Bool.false_eq_true, if_false]
  omega
theorem unl_zero {L : Array Bool} (h : unl L = 0) (i : Nat) : L.getD i true = true := by
  unfold unl at h
  rw [List.countP_eq_zero] at h
  rcases Nat.lt_or_ge i L.size with h3 | h3
  · have := h L[i] (by simp)
    rw [Array.getD_eq_getD_getElem?, Array.getElem?_eq_getElem h3]
    simpa using this
  · simp [Array.getD_eq_getD_getElem?, Array.getElem?_eq_none h3]
theorem inv_any (hl : lowB ops = true) (I : Array Bool → Act → World → Prop)
    (hstep : ∀ L a w i, L.size = ops.size → I L a w → i ∈ Region.ready .any ops L → wpOp P ops Q i (I (L.setIfInBounds i true)) a w)
    (hend : ∀ L a w, L.size = ops.size → (∀ i, i < ops.size → L.getD i true = true) → I L a w → Q .normal a w) :
    ∀ (fuel : Nat) (L : Array Bool) (a : Act) (w : World), L.size = ops.size → unl L ≤ fuel → I L a w → wpAny P .any ops Q fuel L a w
  | 0, L, a, w, hs, hu, h => by
    have hz := unl_zero (L := L) (by omega)
    refine ⟨?_, hend L a w hs (fun i _ => hz i) h⟩
    cases hr : Region.ready .any ops L with
    | nil => rfl
    | cons i r =>
      have := (mem_ready.1 (show i ∈ Region.ready .any ops L by rw [hr]; simp)).1
      rw [hz i] at this; cases this
  | fuel + 1, L, a, w, hs, hu, h => by
    refine ⟨fun hr => hend L a w hs (ready_none hl hr) h, fun i hi => ?_⟩
    refine wpOp_mono (fun a' w' h' => ?_) (hstep L a w i hs h hi)
    exact inv_any hl I hstep hend fuel _ a' w' (by simpa using hs) (by have := unl_set (mem_ready.1 hi).1; omega) h'
theorem wp_region_inv (hm : P.follows .mixedOrders = true) {id : Nat} {a : Act} {w : World} (hl : lowB ops = true) (I : Array Bool → Act → World → Prop)
    (h0 : I (Array.replicate ops.size false) a w.drew)
    (hstep : ∀ L a w i, L.size = ops.size → I L a w → i ∈ Region.ready .any ops L → wpOp P ops Q i (I (L.setIfInBounds i true)) a w)
    (hend : ∀ L a w, L.size = ops.size → (∀ i, i < ops.size → L.getD i true = true) → I L a w → Q .normal a w) : (Code.region id ops true).wp P Q a w :=
  wp_region_any hm (inv_any hl I hstep hend ops.size _ a _ (by simp) (by unfold unl; simp only [Array.toList_replicate, List.countP_replicate]; simp) h0)
def dstOf (ops : Array Oper) (i : Nat) : Option Tmp := (ops[i]?).bind (·.dst)
def vof (ops : Array Oper) (a : Act) (i : Nat) : Value := match dstOf ops i with | some d => a.tmps.getD d undef | none => undef
def dstB (ops : Array Oper) (n s : Nat) : Bool := (List.range ops.size).all fun i => (match dstOf ops i with | some d => decide (d < n) && decide (i ≠ s) | none => decide (i = s)) && (List.range ops.size).all fun j => decide (i = j) || decide (dstOf ops i ≠ dstOf ops j) || decide (dstOf ops i = none)
theorem dst_in (h : dstB ops n s = true) {i d : Nat} (hd : dstOf ops i = some d) : d < n := by
  have hi : i < ops.size := by
    rcases Nat.lt_or_ge i ops.size with h' | h'
    · exact h'
    · simp [dstOf, Array.getElem?_eq_none h'] at hd
  have := List.all_eq_true.1 h i (List.mem_range.2 hi)
  rw [hd, Bool.and_eq_true, Bool.and_eq_true] at this
  simpa using this.1.1
theorem dst_nes (h : dstB ops n s = true) {i d : Nat} (hd : dstOf ops i = some d) : i ≠ s := by
  have hi : i < ops.size := by
    rcases Nat.lt_or_ge i ops.size with h' | h'
    · exact h'
    · simp [dstOf, Array.getElem?_eq_none h'] at hd
  have := List.all_eq_true.1 h i (List.mem_range.2 hi)
  rw [hd, Bool.and_eq_true, Bool.and_eq_true] at this
  simpa using this.1.2
theorem dst_some (h : dstB ops n s = true) {i : Nat} (hi : i < ops.size) (hs : i ≠ s) : ∃ d, dstOf ops i = some d := by
  have := List.all_eq_true.1 h i (List.mem_range.2 hi)
  rw [Bool.and_eq_true] at this
  cases q : dstOf ops i with
  | some d => exact ⟨d, rfl⟩
  | none => rw [q] at this; exact absurd (by simpa using this.1) hs
theorem dst_ne (h : dstB ops n s = true) {i j d : Nat} (hd : dstOf ops i = some d) (hj : dstOf ops j = some d) : i = j := by
  have hi : i < ops.size := by
    rcases Nat.lt_or_ge i ops.size with h' | h'
    · exact h'
    · simp [dstOf, Array.getElem?_eq_none h'] at hd
  have hj' : j < ops.size := by
    rcases Nat.lt_or_ge j ops.size with h' | h'
    · exact h'
    · simp [dstOf, Array.getElem?_eq_none h'] at hj
  have := List.all_eq_true.1 h i (List.mem_range.2 hi)
  rw [Bool.and_eq_true] at this
  have := List.all_eq_true.1 this.2 j (List.mem_range.2 hj')
  rw [hd, hj] at this
  simpa using this
def Fr (ops : Array Oper) (a0 a : Act) : Prop := a.defers = a0.defers ∧ a.tmps.size = a0.tmps.size ∧ ∀ k, (∀ i, dstOf ops i ≠ some k) → a.tmps[k]? = a0.tmps[k]?
theorem Fr.put {a0 a : Act} (h : Fr ops a0 a) {i : Nat} {o : Oper} (ho : ops[i]? = some o) (v : Value) : Fr ops a0 (a.put o.dst v) := by
  obtain ⟨h1, h2, h3⟩ := h
  cases q : o.dst with
  | none => exact ⟨h1, h2, h3⟩
  | some d =>
    refine ⟨h1, by simpa [Act.put] using h2, fun k hk => ?_⟩
    have hne : d ≠ k := fun e => hk i (by simp [dstOf, ho, q, e])
    simp only [Act.put]
    rw [Array.getElem?_setIfInBounds_ne hne]
    exact h3 k hk
theorem vof_put {a0 a : Act} (hb : dstB ops a0.tmps.size s = true) (h : Fr ops a0 a) {i j : Nat} {o : Oper} (ho : ops[i]? = some o) (v : Value) : vof ops (a.put o.dst v) j = if i = j ∧ i ≠ s then v else vof ops a j := by
  unfold vof
  have hdi : dstOf ops i = o.dst := by simp [dstOf, ho]
  have hil : i < ops.size := (Array.getElem?_eq_some_iff.1 ho).1
  cases q : dstOf ops j with
  | none =>
    rw [if_neg]
    rintro ⟨rfl, hs⟩
    obtain ⟨d, hd⟩ := dst_some hb hil hs
    rw [hd] at q; cases q
  | some d =>
    simp only
    cases qi : o.dst with
    | none =>
      rw [if_neg]
      · rfl
      · rintro ⟨rfl, _⟩
        rw [hdi, qi] at q; cases q
    | some d' =>
      simp only [Act.put]
      by_cases e : d' = d
      · subst e
        have hij := dst_ne hb (hdi.trans qi) q
        have hs : d' < a.tmps.size := by rw [h.2.1]; exact dst_in hb q
        subst hij
        rw [if_pos ⟨rfl, dst_nes hb q⟩]
        simp [Array.getD_eq_getD_getElem?, hs]
      · rw [if_neg]
        · simp only [Array.getD_eq_getD_getElem?]
          rw [Array.getElem?_setIfInBounds_ne e]
        · rintro ⟨rfl, _⟩
          rw [hdi, qi] at q
          exact e (by injection q)
def Runs (P : Program) (ops : Array Oper) (Q : Exit → Act → World → Prop) (o : Oper) (a : Act) (w : World) (R : Value → World → Prop) : Prop :=
  Region.wanted o (yielded ops a.tmps) = true ∧ o.wp P a w (fun a' w' => ∃ v, a' = a.put o.dst v ∧ R v w') Q
end
def over (a0 : Act) (ds : List Tmp) (f : Tmp → Value) : Act := ds.foldl (fun a d => a.put (some d) (f d)) a0
theorem over_size (ds : List Tmp) (f : Tmp → Value) : ∀ a0 : Act, (over a0 ds f).tmps.size = a0.tmps.size ∧ (over a0 ds f).defers = a0.defers := by
  induction ds with
  | nil => intro a0; exact ⟨rfl, rfl⟩
  | cons d r ih => intro a0; have := ih (a0.put (some d) (f d)); simpa [over, Act.put] using this
theorem over_get (ds : List Tmp) (f : Tmp → Value) : ∀ (a0 : Act) (k : Nat), (over a0 ds f).tmps[k]? = if k ∈ ds ∧ k < a0.tmps.size then some (f k) else a0.tmps[k]? := by
  induction ds with
  | nil => intro a0 k; simp [over]
  | cons d r ih =>
    intro a0 k
    have := ih (a0.put (some d) (f d)) k
    rw [show over a0 (d :: r) f = over (a0.put (some d) (f d)) r f from rfl, this]
    simp only [Act.put, Array.size_setIfInBounds, List.mem_cons]
    by_cases h1 : k ∈ r ∧ k < a0.tmps.size
    · rw [if_pos h1, if_pos ⟨.inr h1.1, h1.2⟩]
    · rw [if_neg h1]
      by_cases e : d = k
      · subst e
        by_cases h2 : d < a0.tmps.size
        · rw [if_pos ⟨.inl rfl, h2⟩]; simp [h2]
        · have h4 : a0.tmps.size ≤ d := Nat.le_of_not_lt h2
          rw [if_neg (fun h => h2 h.2), Array.getElem?_eq_none (by simpa using h4), Array.getElem?_eq_none h4]
      · rw [Array.getElem?_setIfInBounds_ne e, if_neg]
        rintro ⟨h | h, h2⟩
        · exact e h.symm
        · exact h1 ⟨h, h2⟩
theorem over_of {ops : Array Oper} {a0 a : Act} (h : Fr ops a0 a) (ds : List Tmp) (hd : ∀ i k, dstOf ops i = some k → k ∈ ds) : a = over a0 ds (fun d => a.tmps.getD d undef) := by
  obtain ⟨h1, h2, h3⟩ := h
  obtain ⟨s1, s2⟩ := over_size ds (fun d => a.tmps.getD d undef) a0
  have ht : a.tmps = (over a0 ds (fun d => a.tmps.getD d undef)).tmps := by
    apply Array.ext_getElem?
    intro k
    rw [over_get]
    by_cases hk : k ∈ ds ∧ k < a0.tmps.size
    · rw [if_pos hk, Array.getD_eq_getD_getElem?, Array.getElem?_eq_getElem (by omega)]; rfl
    · rw [if_neg hk]
      by_cases hm : k ∈ ds
      · have h4 : a0.tmps.size ≤ k := by
          rcases Nat.lt_or_ge k a0.tmps.size with h | h
          · exact absurd ⟨hm, h⟩ hk
          · exact h
        rw [Array.getElem?_eq_none (by omega), Array.getElem?_eq_none h4]
      · exact h3 k (fun i e => hm (hd i k e))
  cases a
  generalize over _ _ _ = o at *
  cases o
  simp_all
theorem Fr.slot {ops : Array Oper} {a0 a : Act} (h : Fr ops a0 a) (k : Nat) (hk : ((List.range ops.size).all fun i => decide (dstOf ops i ≠ some k)) = true) : a.tmps.getD k undef = a0.tmps.getD k undef := by
  rw [Array.getD_eq_getD_getElem?, Array.getD_eq_getD_getElem?, h.2.2 k]
  intro i e
  have hi : i < ops.size := by
    rcases Nat.lt_or_ge i ops.size with h' | h'
    · exact h'
    · simp [dstOf, Array.getElem?_eq_none h'] at e
  have := List.all_eq_true.1 hk i (List.mem_range.2 hi)
  exact (of_decide_eq_true this) e
theorem runs_value {P : Program} {ops : Array Oper} {Q : Exit → Act → World → Prop} {o : Oper} {a : Act} {w w' : World} {v : Value} {R : Value → World → Prop} (hw : Region.wanted o (yielded ops a.tmps) = true)
    (he : (execOp a.eval o).run P w = .ok (.value v) w') (h : R v w') : Runs P ops Q o a w R := by
  refine ⟨hw, ?_⟩
  unfold Oper.wp
  rw [he]
  exact ⟨v, rfl, h⟩
theorem runs_skip {P : Program} {ops : Array Oper} {Q : Exit → Act → World → Prop} {o : Oper} {a : Act} {w w' : World} {R : Value → World → Prop} (hw : Region.wanted o (yielded ops a.tmps) = true)
    (he : (execOp a.eval o).run P w = .ok .skip w') (h : R undef w') : Runs P ops Q o a w R := by
  refine ⟨hw, ?_⟩
  unfold Oper.wp
  rw [he]
  exact ⟨undef, rfl, h⟩
theorem map2 {α β : Type} (f : α → β) (x y : α) : (#[x, y] : Array α).map f = #[f x, f y] := by simp
structure Fact where
  R : Value → World → Prop
  pers : ∀ v w w', R v w → Below w.heap.size w w' → R v w'
def Fact.is (v : Value) : Fact := ⟨fun u _ => u = v, fun _ _ _ h _ => h⟩
def Fact.any : Fact := ⟨fun _ _ => True, fun _ _ _ _ _ => trivial⟩
section
variable {P : Program} {ops : Array Oper} {Q : Exit → Act → World → Prop}
def dstsB (ops : Array Oper) (ds : List Tmp) : Bool := (List.range ops.size).all fun i => match dstOf ops i with | none => true | some d => ds.contains d
theorem over_ofB {a0 a : Act} (h : Fr ops a0 a) (ds : List Tmp) (hd : dstsB ops ds = true) : a = over a0 ds (fun d => a.tmps.getD d undef) := by
  refine over_of h ds fun i k hk => ?_
  have hi : i < ops.size := by
    rcases Nat.lt_or_ge i ops.size with h' | h'
    · exact h'
    · rw [dstOf, Array.getElem?_eq_none h'] at hk; cases hk
  have := List.all_eq_true.1 hd i (List.mem_range.2 hi)
  rw [hk] at this
  simpa using this
end
section
variable {ops : Array Oper} {Q : Exit → Act → World → Prop} {o : Oper} {a : Act} {w : World} {R : Value → World → Prop}
end
end Go.Proofs.YtajljnehlncjhaaGreatDoor.K
namespace Go.Proofs.YtajljnehlncjhaaGreatDoor.K
abbrev Ws := List Int
def lvL : Bool → Ws → List Bool
  | b, [] => [b]
  | b, w :: r => if w = 1 then lvL true r else b :: lvL false r
def rtF : Bool → Ws → Bool
  | _, [] => true
  | p, w :: r => (w == 2 || (w == 1 && !p)) && rtF (w == 1) r
def lv (ws : Ws) : List Bool := lvL false ws
abbrev K2 := Int × List UInt8
def sgB (c : UInt8) (ts : List K2) : Bool := match ts with | [] => false | p :: _ => decide (p.1 = 1 ∧ p.2 = [c])
def cntO : List K2 → Nat
  | [] => 0
  | p :: r => if p.1 = 1 ∧ p.2 = [91] then cntO r + 1 else 0
def bangR (ws : Ws) (ts : List K2) : Ws × List K2 := if sgB 33 ts = true then (ws ++ [1], ts.tail) else (ws, ts)
def clsR : Nat → Ws → List K2 → Option (Ws × List K2)
  | 0, ws, ts => some (ws, ts)
  | k + 1, ws, ts => if sgB 93 ts = true then clsR k (bangR (ws ++ [2]) ts.tail).1 (bangR (ws ++ [2]) ts.tail).2 else none
def nmO (ts : List K2) : Option (List UInt8) := match ts with | [] => none | p :: _ => if p.1 = 2 then some p.2 else none
def refP (ts : List K2) : Option (List UInt8 × Ws × List K2) :=
  match nmO (ts.drop (cntO ts)) with
  | none => none
  | some n => match clsR (cntO ts) (bangR [] (ts.drop (cntO ts)).tail).1 (bangR [] (ts.drop (cntO ts)).tail).2 with
    | none => none
    | some (ws, r) => some (n, ws.reverse, r)
end Go.Proofs.YtajljnehlncjhaaGreatDoor.K
namespace Go.Proofs.YtajljnehlncjhaaGreatDoor.K
open Go.RowKit
def tkC (ts : List Tk) : List Value := ts.flatMap fun p => [.int .i64 p.1, .string ⟨p.2.1.toArray⟩, .int .i64 (p.2.2 : Int)]
theorem tkC_app (a b : List Tk) : tkC (a ++ b) = tkC a ++ tkC b := List.flatMap_append
theorem infoT : (Tryz.prog.info? 86).map (fun i => (i.zero, i.size, i.bytes)) = some (some (.agg #[.int .i64 0, .string ⟨#[]⟩, .int .i64 0]), 3, 32) := by kernel_rfl
def OwnT (w : World) (base : Nat) (v : Value) (ts : List Tk) : Prop := w.ownsRow base 86 3 v ts.length (tkC ts)
theorem ownsRow_stay {w w' : World} {base : Nat} {e : TypeId} {size : Nat} {v : Value} {n : Nat} {xs : List Value} (h : w.ownsRow base e size v n xs) (hb : Below w.heap.size w w') : w'.ownsRow base e size v n xs := by
  refine ⟨h.1, h.2.imp id ?_⟩
  rintro ⟨g, cap, cur, e1, e2, e3, r⟩
  have hg : g < w.heap.size := by
    rcases Nat.lt_or_ge g w.heap.size with h' | h'
    · exact h'
    · rw [Array.getElem?_eq_none h'] at e3; cases e3
  exact ⟨g, cap, cur, e1, e2, (hb.block g hg).trans e3, r⟩
theorem OwnT.stay {w w' : World} {base : Nat} {v : Value} {ts : List Tk} (h : OwnT w base v ts) (hb : Below w.heap.size w w') : OwnT w' base v ts := ownsRow_stay h hb
theorem OwnT.nil (w : World) (base : Nat) : OwnT w base (.slice none 0 0) [] := ⟨rfl, .inl ⟨rfl, rfl⟩⟩
theorem OwnT.set {w : World} {base : Nat} {v : Value} {ts : List Tk} (h : OwnT w base v ts) {p : Addr} (hp : ∀ g, v.ownBlock = some g → p.block ≠ g) (u : Value) : OwnT (w.setCell p u) base v ts := by
  refine ⟨h.1, h.2.imp id ?_⟩
  rintro ⟨g, cap, cur, e1, e2, e3, r⟩
  have hne := hp g (by rw [e1]; rfl)
  exact ⟨g, cap, cur, e1, e2, (Below.heap_setCell _ _ _ _ (fun e => hne e.symm)).trans e3, r⟩
theorem append_T {w : World} {ops : Array Oper} {rest : List Oper} {o : Oper} {a : Act} {Q : Exit → Act → World → Prop} (hgd : o.guard = none) (s x : Operand)
    (ho : o.op = .call { callee := .builtin .append, args := #[s, x], argTypes := #[56, 56] }) (base : Nat) (v : Value) (ts : List Tk) (hs : a.eval s = v) (hown : OwnT w base v ts)
    (ad : Addr) (c : Nat) (p : Tk) (hx : a.eval x = .slice (some ad) 1 c) (hnews : ∀ j u, (tkC [p])[j]? = some u → w.cell? (ad.add j) = some u)
    (hlen : ts.length + 1 ≤ 1099511627776) (hbase : base ≤ w.heap.size)
    (h : ∀ v' w', OwnT w' base v' (ts ++ [p]) → w.grownBy w' v.ownBlock → wpList Tryz.prog ops Q rest (a.put o.dst v') w') : wpList Tryz.prog ops Q (o :: rest) a w := by
  obtain ⟨i0, hi, hz0, hz1, hz2⟩ := info_parts infoT
  refine wpList_append_own w hgd s x 56 ho base 86 i0 (.agg #[.int .i64 0, .string ⟨#[]⟩, .int .i64 0]) 3 32 Tryz.underlying56 hi hz0 hz1 hz2 rfl (by decide) v ts.length (tkC ts) hs hown ad 1 c (tkC [p]) hx rfl hnews ?_ (by unfold maxLen; omega) (by omega) hbase ?_
  · intro u hu
    simp [tkC] at hu
    rcases hu with rfl | rfl | rfl <;> rfl
  · intro v' w' h1 h2 _
    refine h v' w' ?_ h2
    unfold OwnT
    rw [List.length_append, tkC_app]
    exact h1
theorem cells_L' (w : World) (xs : Array Value) (t : TypeId) (news : List Value) (hx : xs = news.toArray) :
    ∀ j u, news[j]? = some u → (w.alloc (.cells xs t)).cell? ((⟨w.heap.size, 0, none⟩ : Addr).add j) = some u := by
  intro j u h
  obtain ⟨h1, rfl⟩ := List.getElem?_eq_some_iff.1 h
  subst hx
  have := T1.cell_new w news.toArray t j (by simpa using h1)
  simpa using this
theorem OwnT.lt {w : World} {base : Nat} {v : Value} {ts : List Tk} (h : OwnT w base v ts) : ∀ k, v.ownBlock = some k → base ≤ k ∧ k < w.heap.size := World.ownsRow.lt h
def scG (f at' : Nat) (l : List UInt8) : Except (Nat × Int) (List Tk) := if l = [] then .ok [(5, [], at')] else match tokR l with
  | .error c => .error (at', c)
  | .ok (k, t, n) => match scF f (at' + n) (l.drop n) with
    | .error e => .error e
    | .ok ts => .ok ((k, t, at') :: ts)
theorem scG_ok {f at' : Nat} {l : List UInt8} {k : Int} {t : List UInt8} {n : Nat} (hne : l ≠ []) (ht : tokR l = .ok (k, t, n)) : scG f at' l = match scF f (at' + n) (l.drop n) with
    | .error e => .error e
    | .ok ts => .ok ((k, t, at') :: ts) := by
  unfold scG; rw [if_neg hne, ht]
structure ScAt (l : List UInt8) (R : Except (Nat × Int) (List Tk)) (f at' : Nat) (ts : List Tk) : Prop where
  eq : R = match scG f at' (l.drop at') with
    | .error e => .error e
    | .ok r => .ok (ts ++ r)
  fuel : l.length ≤ f + at'
  hi : at' ≤ l.length
  len : ts.length ≤ at'
theorem ScAt.start (l : List UInt8) (h : l.length ≤ 65536) : ScAt l (scR l) l.length (sepN l) [] := by
  refine ⟨?_, Nat.le_add_right _ _, sepN_le l, Nat.zero_le _⟩
  unfold scR
  rw [if_neg (by omega)]
  show scG l.length (0 + sepN l) (l.drop (sepN l)) = _
  rw [Nat.zero_add]
  cases scG l.length (sepN l) (l.drop (sepN l)) <;> rfl
theorem ScAt.done {l : List UInt8} {R : Except (Nat × Int) (List Tk)} {f at' : Nat} {ts : List Tk} (h : ScAt l R f at' ts) (hd : ¬ at' < l.length) : R = .ok (ts ++ [(5, [], at')]) := by
  rw [h.eq, List.drop_eq_nil_of_le (by omega)]; rfl
theorem ScAt.bad {l : List UInt8} {R : Except (Nat × Int) (List Tk)} {f at' : Nat} {ts : List Tk} (h : ScAt l R f at' ts) (hd : at' < l.length) {c : Int} (ht : tokR (l.drop at') = .error c) : R = .error (at', c) := by
  have hne : l.drop at' ≠ [] := by intro e; have := congrArg List.length e; rw [List.length_drop] at this; simp at this; omega
  rw [h.eq]; unfold scG; rw [if_neg hne, ht]
theorem ScAt.next {l : List UInt8} {R : Except (Nat × Int) (List Tk)} {f at' : Nat} {ts : List Tk} (h : ScAt l R f at' ts) (hd : at' < l.length) {k : Int} {t : List UInt8} {n : Nat} (ht : tokR (l.drop at') = .ok (k, t, n)) :
    1 ≤ n ∧ at' + n ≤ l.length ∧ ∃ f', ScAt l R f' (at' + n + sepN (l.drop (at' + n))) (ts ++ [(k, t, at')]) := by
  have hne : l.drop at' ≠ [] := by intro e; have := congrArg List.length e; rw [List.length_drop] at this; simp at this; omega
  obtain ⟨h1, h2⟩ := tokR_len hne ht
  rw [List.length_drop] at h2
  have hs := sepN_le (l.drop (at' + n))
  rw [List.length_drop] at hs
  have hf := h.fuel
  have hl := h.len
  obtain ⟨f', rfl⟩ : ∃ g, f = g + 1 := ⟨f - 1, by omega⟩
  refine ⟨h1, by omega, f', ?_, by omega, by omega, by rw [List.length_append]; show ts.length + 1 ≤ _; omega⟩
  rw [h.eq, scG_ok hne ht, List.drop_drop]
  have e : scF (f' + 1) (at' + n) (l.drop (at' + n)) = scG f' (at' + n + sepN (l.drop (at' + n))) ((l.drop (at' + n)).drop (sepN (l.drop (at' + n)))) := rfl
  rw [e, List.drop_drop]
  generalize (at' + n + sepN (l.drop (at' + n))) = b
  cases scG f' b (l.drop b) with
  | error e => rfl
  | ok r => simp
def ScanAns (R : Except (Nat × Int) (List Tk)) (base : Nat) (e : Ending) (w' : World) : Prop := match R with
  | .ok ts => ∃ v, e = .returned (.tuple #[v, .int .i64 0, .int .i64 0]) ∧ OwnT w' base v ts
  | .error x => e = .returned (.tuple #[.slice none 0 0, .int .i64 x.1, .int .i64 x.2]) ∧ x.2 ≠ 0
def ScanPost (R : Except (Nat × Int) (List Tk)) (w : World) (e : Ending) (w' : World) : Prop := ScanAns R w.heap.size e w' ∧ Below w.heap.size w w'
set_option maxHeartbeats 2000000 in
theorem scan_long (s : ByteArray) (h : 65536 < s.size) (w : World) : Calls Tryz.prog 18 #[.string s] w (ScanPost (scR s.data.toList) w) := by
  have E1 : Hid (scR s.data.toList = .error (65536, 4)) := Lib.hid (by unfold scR; rw [T1.size_eq, if_pos h])
  have hgt : ((s.size : Int) > 65536) := by omega
  generalize scR s.data.toList = R at *
  go_enter Tryz.func18, Tryz.ntmps18
  go_wp2_with fail
  refine bodyPost_ret (v := .tuple #[.slice none 0 0, .int .i64 65536, .int .i64 4]) (by simp [results, Tryz.results18, go_sem]) rfl ⟨?_, Below.refl _ _⟩
  rw [E1.out]
  exact ⟨rfl, by decide⟩
set_option maxRecDepth 100000 in
set_option maxHeartbeats 4000000 in
theorem scan_short (s : ByteArray) (h : s.size ≤ 65536) (w : World) (hL : LK w) : Calls Tryz.prog 18 #[.string s] w (ScanPost (scR s.data.toList) w) := by
  have hsz := T1.size_eq s
  have ST := Lib.hid (ScAt.start s.data.toList (by omega))
  have hgt : ¬ ((s.size : Int) > 65536) := by omega
  have HL := Lib.hid hL
  clear hL
  generalize scR s.data.toList = R at *
  go_enter Tryz.func18, Tryz.ntmps18
  go_wp2_with fail
  refine (separators_any s (by unfold maxLen; omega) w).mono ?_
  rintro e w1 ⟨rfl, hb⟩
  have HB1 := Lib.hid hb
  clear hb
  generalize sepN s.data.toList = m at *
  go_wp2_with fail
  go_loopw [5, 6] (fun v i wr => ∃ (f k : Nat) (ts : List Tk), i = .int .i64 k ∧ OwnT wr w.heap.size v ts ∧ ScAt s.data.toList R f k ts ∧ Below w.heap.size w wr) (fun _ i _ => s.size - (intOf i).toNat)
  case atStart => exact ⟨_, m, [], rfl, OwnT.nil _ _, ST.out, HB1.out⟩
  case round =>
    obtain ⟨f, k, ts, rfl, hown, hat, hb⟩ := hrel
    have HO := Lib.hid hown
    have HA := Lib.hid hat
    have HB := Lib.hid hb
    clear hown hat hb HB1 ST
    have hkl := HA.out.hi
    by_cases hlt : k < s.size
    · have hlt' : (k : Int) < s.size := by omega
      have hle' : (k : Int) ≤ s.size := by omega
      have HD := Lib.hid (ext_drop s k)
      have HES : Hid ((s.extract k s.size).size = s.size - k) := Lib.hid (by rw [← T1.size_eq, HD.out, List.length_drop, hsz])
      have CALL := Lib.hid (first_any (s.extract k s.size) (by rw [HES.out]; omega) (by rw [HES.out]; omega) wr (HL.out.below HB.out))
      rw [HD.out] at CALL
      go_wp2_with fail
      refine CALL.out.mono ?_
      rintro e w2 ⟨ha, hb⟩
      have HB2 := Lib.hid (HB.out.trans (hb.mono HB.out.size))
      have HO2 := Lib.hid (HO.out.stay hb)
      clear hb CALL HB HO
      cases ht : tokR (s.data.toList.drop k) with
      | error c =>
        rw [ht] at ha
        obtain ⟨hc, k1, t1, n1, rfl⟩ := ha
        have E1 := Lib.hid (HA.out.bad (by omega) ht)
        have HC := Lib.hid hc
        have hc0 : (c == 0) = false := beq_false_of_ne hc
        clear ht hc
        go_wp2_with fail
        refine bodyPost_ret (v := .tuple #[.slice none 0 0, .int .i64 k, .int .i64 c]) (by simp [results, Tryz.results18, go_sem]) rfl ⟨?_, HB2.out.alloc HB2.out.size _⟩
        rw [E1.out]
        exact ⟨rfl, HC.out⟩
      | ok p =>
        obtain ⟨k1, t1, n⟩ := p
        rw [ht] at ha
        have ha : e = .returned (.tuple #[tkV k1 ⟨t1.toArray⟩ 0, .int .i64 n, .int .i64 0]) := ha
        subst ha
        obtain ⟨hn1, hn2, f', hnx⟩ := HA.out.next (by omega) ht
        have HN := Lib.hid hnx
        clear ht hnx
        have HX3 : Hid (TB (w2.alloc (.cells #[.int .i64 k1, .string ⟨t1.toArray⟩, .int .i64 0] 86 (0, 0))) w2.heap.size (.int .i64 k1) (.string ⟨t1.toArray⟩) (.int .i64 0)) := Lib.hid (heap_alloc_new w2 _)
        have hb3 := ((Below.refl w2.heap.size w2).alloc (Nat.le_refl _) (.cells #[.int .i64 k1, .string ⟨t1.toArray⟩, .int .i64 k] 86 (0, 0))).alloc (by simp) (.cells #[.int .i64 k1, .string ⟨t1.toArray⟩, .int .i64 k] 86 (0, 0))
        have HO4 := Lib.hid (HO2.out.stay hb3)
        have HB4 := Lib.hid (HB2.out.trans (hb3.mono HB2.out.size))
        have HNL := Lib.hid HA.out.len
        have h00 : ((0 : Int) == 0) = true := rfl
        have hsm := hsz
        obtain ⟨x0, x1, x2⟩ := HX3.out.cells
        have g0 := HX3.out.frz 0
        have g1 := HX3.out.frz 1
        have g2 := HX3.out.frz 2
        clear hb3
        go_wp2_with (at_builtin; refine append_T rfl _ _ rfl w.heap.size _ ts rfl HO4.out _ _ (k1, t1, k) rfl ?_ ?_ ?_ ?_)
        · intro j u hj
          have h9 := cells_L' (w2.alloc (.cells #[.int .i64 k1, .string ⟨t1.toArray⟩, .int .i64 k] 86)) #[.int .i64 k1, .string ⟨t1.toArray⟩, .int .i64 k] 86 (tkC [(k1, t1, k)]) rfl j u hj
          rw [show (w2.alloc (.cells #[.int .i64 k1, .string ⟨t1.toArray⟩, .int .i64 k] 86)).heap.size = w2.heap.size + 1 by simp] at h9
          exact h9
        · have := HNL.out; omega
        · exact HB4.out.size
        · intro v' w5 h1 h2
          have HO5 := Lib.hid h1
          have HB5 := Lib.hid (HB4.out.grown h2 HB4.out.size (fun g hg => (HO4.out.lt g hg).1))
          have HE2 := Lib.hid (ext_drop s (k + n))
          have hk2 : (k : Int) + n ≤ s.size := by omega
          have hk3 : (0 : Int) ≤ (k : Int) + n := by omega
          have hk4 : ((k : Int) + n).toNat = k + n := by omega
          have hes : (s.extract (k + n) s.size).size ≤ maxLen := by
            rw [← T1.size_eq, HE2.out, List.length_drop]; unfold maxLen; omega
          have CALL := Lib.hid (separators_any (s.extract (k + n) s.size) hes w5)
          rw [HE2.out] at CALL
          have hq := sepN_le (s.data.toList.drop (k + n))
          rw [List.length_drop] at hq
          clear h1 h2 hes HX3 x0 x1 x2 g0 g1 g2
          generalize sepN (s.data.toList.drop (k + n)) = q at *
          go_wp2_with fail
          refine CALL.out.mono ?_
          rintro e w6 ⟨rfl, hb⟩
          have HB6 := Lib.hid (HB5.out.trans (hb.mono HB5.out.size))
          have HO6 := Lib.hid (HO5.out.stay hb)
          clear hb CALL
          go_wp2_with fail
          go_roundw
          case rel => exact ⟨f', k + n + q, ts ++ [(k1, t1, k)], by push_cast; rfl, HO6.out, HN.out, HB6.out⟩
          case measure =>
            simp only [intOf]
            omega
    · have E1 := Lib.hid (HA.out.done (by omega))
      have hlt' : ¬ (k : Int) < s.size := by omega
      have hb3 := (Below.refl wr.heap.size wr).alloc (Nat.le_refl _) (.cells #[.int .i64 5, .string ⟨#[]⟩, .int .i64 k] 86 (0, 0))
      have HO4 := Lib.hid (HO.out.stay hb3)
      have HB4 := Lib.hid (HB.out.trans (hb3.mono HB.out.size))
      have HNL := Lib.hid HA.out.len
      clear hb3
      go_wp2_with (at_builtin; refine append_T rfl _ _ rfl w.heap.size _ ts rfl HO4.out _ _ (5, [], k) rfl ?_ ?_ ?_ ?_)
      · exact fun j u h => h
      · have := HNL.out; omega
      · have := HB.out.size; omega
      · intro v' w5 h1 h2
        have HO5 := Lib.hid h1
        have HB5 := Lib.hid (HB4.out.grown h2 HB4.out.size (fun g hg => (HO4.out.lt g hg).1))
        clear h1 h2
        go_wp2_with fail
        refine bodyPost_ret (v := .tuple #[v', .int .i64 0, .int .i64 0]) (by simp [results, Tryz.results18, go_sem]) rfl ⟨?_, HB5.out⟩
        rw [E1.out]
        exact ⟨_, rfl, HO5.out⟩
theorem scan_any (s : ByteArray) (w : World) (hL : LK w) : Calls Tryz.prog 18 #[.string s] w (ScanPost (scR s.data.toList) w) := by
  rcases Nat.lt_or_ge 65536 s.size with h | h
  · exact scan_long s h w
  · exact scan_short s h w hL
end Go.Proofs.YtajljnehlncjhaaGreatDoor.K
