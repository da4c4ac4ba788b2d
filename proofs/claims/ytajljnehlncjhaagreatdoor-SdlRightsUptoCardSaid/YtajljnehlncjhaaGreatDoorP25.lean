
/-
  Texts joined: I6 I7 I8 Law06b.
-/
import Derived.Test.YtajljnehlncjhaaGreatDoorP24
import Derived.Test.YtajljnehlncjhaaGreatDoorP10
import Derived.Test.YtajljnehlncjhaaGreatDoorP8
import Derived.Test.YtajljnehlncjhaaGreatDoorP13
namespace Go.Proofs.YtajljnehlncjhaaGreatDoor
open Go.RowKit
theorem tokR_ok {l : List UInt8} {k : Int} {t : List UInt8} {n : Nat} (h : K.tokR l = .ok (k, t, n)) : 1 ≤ k ∧ k ≤ 4 ∧ t.length ≤ l.length + 3 := by
  unfold K.tokR at h
  simp only at h
  split at h
  · cases h; exact ⟨by omega, by omega, by rw [List.length_take]; omega⟩
  · split at h
    · cases h; exact ⟨by omega, by omega, by show 3 ≤ _; omega⟩
    · split at h
      · split at h
        · cases h; exact ⟨by omega, by omega, by rw [List.length_take]; omega⟩
        · cases h
      · split at h
        · split at h
          · cases h; exact ⟨by omega, by omega, by rw [List.length_take]; omega⟩
          · cases h
        · split at h
          · split at h
            · cases h
            · split at h
              · cases h
              · next hu =>
                have := K.unquote_le hu
                rw [List.length_take] at this
                cases h; exact ⟨by omega, by omega, by omega⟩
          · cases h
theorem scF_good : ∀ (f at' : Nat) (l : List UInt8) (ts : List Tk), K.scF f at' l = .ok ts → at' + l.length ≤ 70000 → (∃ i t, ts = i ++ [t] ∧ t.1 = 5) ∧ (∀ t ∈ ts, TkOk t) ∧ ts.length ≤ l.length + 1
  | 0, _, _, _, h, _ => by simp [K.scF] at h
  | f + 1, at', l, ts, h, hl => by
    have hsp := K.sepN_le l
    unfold K.scF at h
    by_cases he : l.drop (K.sepN l) = []
    · rw [if_pos he] at h
      cases h
      refine ⟨⟨[], _, rfl, rfl⟩, fun t ht => ?_, by simp⟩
      rw [List.mem_singleton] at ht
      subst ht
      exact ⟨by show (0 : Int) ≤ 5; omega, by show (5 : Int) ≤ 5; omega, by simp, by show at' + K.sepN l ≤ _; omega⟩
    · rw [if_neg he] at h
      cases ht : K.tokR (l.drop (K.sepN l)) with
      | error c => rw [ht] at h; cases h
      | ok q =>
        obtain ⟨k, t, n⟩ := q
        rw [ht] at h
        have h1 := K.tokR_len he ht
        have h2 := tokR_ok ht
        rw [List.length_drop] at h1 h2
        simp only at h
        cases hr : K.scF f (at' + K.sepN l + n) ((l.drop (K.sepN l)).drop n) with
        | error e => rw [hr] at h; cases h
        | ok r =>
          rw [hr] at h
          cases h
          have hll : ((l.drop (K.sepN l)).drop n).length = l.length - K.sepN l - n := by rw [List.length_drop, List.length_drop]
          obtain ⟨⟨i, u, e, h5⟩, hok, hlen⟩ := scF_good f _ _ r hr (by rw [hll]; omega)
          refine ⟨⟨_ :: i, u, by rw [e]; rfl, h5⟩, fun v hv => ?_, by rw [List.length_cons]; rw [hll] at hlen; omega⟩
          rcases List.mem_cons.1 hv with rfl | hv
          · exact ⟨by show (0 : Int) ≤ k; omega, by show k ≤ 5; omega, by show t.length ≤ _; omega, by show at' + K.sepN l ≤ _; omega⟩
          · exact hok v hv
theorem scR_good {l : List UInt8} {ts : List Tk} (h : K.scR l = .ok ts) : Good ts := by
  unfold K.scR at h
  split at h
  · cases h
  · obtain ⟨h1, h2, h3⟩ := scF_good _ _ _ _ h (by omega)
    exact ⟨h1, h2, by omega⟩
def sdlF (el : DfT) (s : List UInt8) : Except Er (List DefT) := match K.scR s with
  | .error x => .error x
  | .ok ts => exB (docR el ts) fun q => .ok q.1
def ParsePost (w : World) (r : Except Er (List DefT)) (e : Ending) (w' : World) : Prop := Below w.heap.size w w' ∧ match r with
  | .ok l => ∃ v, e = .returned (.tuple #[.agg #[v], .int .i64 0, .int .i64 0]) ∧ DefsC w' (fun b => w.heap.size ≤ b ∧ b < w'.heap.size) v l
  | .error x => e = .returned (.tuple #[.agg #[.slice none 0 0], .int .i64 x.1, .int .i64 x.2])
abbrev w3 (w : World) : World := ((w.alloc (.cells #[.slice none 0 0] 25 (0, 0))).alloc (.cells #[.int .i64 0] 3 (0, 0))).alloc (.cells #[.int .i64 0] 26 (0, 0))
structure Res3 (w : World) (v0 v1 v2 : Value) (W : World) : Prop where
  d : Bk W w.heap.size #[v0] 25
  a : Bk W (w.heap.size + 1) #[v1] 3
  c : Bk W (w.heap.size + 1 + 1) #[v2] 26
  below : Below w.heap.size w W
  size : w.heap.size + 3 ≤ W.heap.size
theorem Res3.new (w : World) : Res3 w (.slice none 0 0) (.int .i64 0) (.int .i64 0) (w3 w) := by
  have b1 := below_new w (.cells #[.slice none 0 0] 25 (0, 0))
  have x1 := Bk.new w #[.slice none 0 0] 25
  unfold w3
  generalize hw1 : w.alloc (.cells #[.slice none 0 0] 25 (0, 0)) = w1 at *
  have s1 : w1.heap.size = w.heap.size + 1 := by rw [← hw1, World.size_alloc]
  have b2 := below_new w1 (.cells #[.int .i64 0] 3 (0, 0))
  have x2 := Bk.new w1 #[.int .i64 0] 3
  rw [s1] at x2
  generalize hw2 : w1.alloc (.cells #[.int .i64 0] 3 (0, 0)) = w2 at *
  have s2 : w2.heap.size = w.heap.size + 2 := by rw [← hw2, World.size_alloc, s1]
  have b3 := below_new w2 (.cells #[.int .i64 0] 26 (0, 0))
  have x3 := Bk.new w2 #[.int .i64 0] 26
  rw [s2] at x3
  have s3 : (w2.alloc (.cells #[.int .i64 0] 26 (0, 0))).heap.size = w.heap.size + 3 := by rw [World.size_alloc, s2]
  exact ⟨(x1.stay b2).stay b3, x2.stay b3, x3, (b1.trans (b2.mono b1.size)).trans (b3.mono (by omega)), by omega⟩
theorem tat_of {w : World} {base : Nat} {v : Value} {ts : List Tk} (h : K.OwnT w base v ts) (hne : 0 < ts.length) : ∃ a c, v = .slice (some a) ts.length c ∧ ts.length ≤ c ∧ base ≤ a.block ∧ a.block < w.heap.size ∧
    ∀ i t, ts[i]? = some t → w.cell? (a.add (i * 3)) = some (.int .i64 t.1) ∧ w.cell? ⟨(a.add (i * 3)).block, (a.add (i * 3)).off + 1, none⟩ = some (.string ⟨t.2.1.toArray⟩) ∧ w.cell? ⟨(a.add (i * 3)).block, (a.add (i * 3)).off + 2, none⟩ = some (.int .i64 t.2.2) := by
  have hh := K.OwnT.z h
  unfold K.OwnZ at hh
  have hlt := fun g hg => own_lt hh (g := g) hg
  rw [K.tz_len] at hh
  rcases hh.2 with ⟨_, hz⟩ | ⟨g, cap, cur, rfl, h1, h2, h3, _⟩
  · omega
  · have hl := hlt g rfl
    refine ⟨_, _, rfl, h3, hl.1, hl.2, fun i t hi => ?_⟩
    have hcell := hh.cells (g := g) rfl
    have hi2 : (K.tz ts)[i]? = some (t.1, t.2.1, (t.2.2 : Int)) := by unfold K.tz; rw [List.getElem?_map, hi]; rfl
    obtain ⟨z0, z1, z2⟩ := K.zC_at (K.tz ts) i _ hi2
    have e : ∀ n, (⟨g, 0, none⟩ : Addr).add n = ⟨g, n, none⟩ := fun n => by unfold Addr.add; split <;> simp_all
    have k0 := hcell _ _ z0
    have k1 := hcell _ _ z1
    have k2 := hcell _ _ z2
    rw [e] at k0 k1 k2
    rw [e]
    exact ⟨k0, k1, k2⟩
variable {w W W' : World} {v0 v1 v2 : Value}
theorem Res3.stay (h : Res3 w v0 v1 v2 W) (hb : Below W.heap.size W W') : Res3 w v0 v1 v2 W' := ⟨h.d.stay hb, h.a.stay hb, h.c.stay hb, h.below.trans (hb.mono (by have := h.size; omega)), Nat.le_trans h.size hb.size⟩
theorem Res3.setA (h : Res3 w v0 v1 v2 W) (u : Value) : Res3 w v0 u v2 (W.setCell ⟨w.heap.size + 1, 0, none⟩ u) :=
  ⟨h.d.off (by omega) 0 u, h.a.set 0 u, h.c.off (by omega) 0 u, h.below.setCell (p := ⟨w.heap.size + 1, 0, none⟩) (by show w.heap.size ≤ w.heap.size + _; omega) u, by have := h.size; simp [World.setCell]; exact this⟩
theorem Res3.setC (h : Res3 w v0 v1 v2 W) (u : Value) : Res3 w v0 v1 u (W.setCell ⟨w.heap.size + 1 + 1, 0, none⟩ u) :=
  ⟨h.d.off (by omega) 0 u, h.a.off (by omega) 0 u, h.c.set 0 u, h.below.setCell (p := ⟨w.heap.size + 1 + 1, 0, none⟩) (by show w.heap.size ≤ w.heap.size + 1 + 1; omega) u, by have := h.size; simp [World.setCell]; exact this⟩
theorem Res3.setD (h : Res3 w v0 v1 v2 W) (u : Value) : Res3 w u v1 v2 (W.setCell ⟨w.heap.size, 0, none⟩ u) :=
  ⟨h.d.set 0 u, h.a.off (by omega) 0 u, h.c.off (by omega) 0 u, h.below.setCell (p := ⟨w.heap.size, 0, none⟩) (Nat.le_refl _) u, by have := h.size; simp [World.setCell]; exact this⟩
theorem Res3.drew (h : Res3 w v0 v1 v2 W) : Res3 w v0 v1 v2 W.drew := h.stay ((Below.refl _ _).drew)
set_option maxRecDepth 100000 in
set_option maxHeartbeats 1000000 in
theorem sparse_any (el : DfT) (hel : ∀ (p k : Nat) (W : World) (ts : List Tk) (m : Nat), PSt W p ts m → kdR (hd ts) = k → k ≠ 0 → Calls Tryz.prog 41 #[pP p, .int .i64 k] W (WPost DefV W p (el k ts)))
    (hlt : ∀ (k : Nat) (ts : List Tk) (x : DefT) (ts' : List Tk), el k ts = .ok (x, ts') → ts'.length < ts.length) (s : ByteArray) (w : World) (hL : K.LK w) :
    Calls Tryz.prog 9 #[.string s] w (ParsePost w (sdlF el s.data.toList)) := by
  have hmf : ∀ (fn : Fn) (first cap : Array Value) (w : World), (Instr.makeFunc fn first cap).run Tryz.prog w = .ok (.func fn first cap) w := fun _ _ _ _ => rfl
  have HR := Lib.hid (Res3.new w)
  have HSC := Lib.hid (K.scan_any s (w3 w) (hL.below (Res3.new w).below))
  have HL3 := Lib.hid (hL.below (Res3.new w).below)
  have HV : Hid (sdlF el s.data.toList = match K.scR s.data.toList with
    | .error x => .error x
    | .ok ts => exB (docR el ts) fun q => .ok q.1) := Lib.hid rfl
  have HL := Lib.hid hL
  clear hL
  cases hsc : K.scR s.data.toList with
  | error x =>
    rw [hsc] at HSC HV
    have HV2 : Hid (sdlF el s.data.toList = .error x) := HV
    generalize sdlF el s.data.toList = RR at *
    clear hsc HV hel hlt
    go_enter_defers Tryz.func9, Tryz.ntmps9
    go_wp2_with fail
    refine HSC.out.mono ?_
    rintro e w4 ⟨⟨rfl, hx2⟩, hb⟩
    have hr := HR.out.stay hb
    have HR4 := Lib.hid hr
    have p0 := hr.d.cell 0 _ rfl
    have p1 := hr.a.cell 0 _ rfl
    have p2 := hr.c.cell 0 _ rfl
    have g0 := hr.d.frz 0
    have g1 := hr.a.frz 0
    have g2 := hr.c.frz 0
    have hne : (x.2 != 0) = true := by rw [bne_iff_ne]; exact hx2
    clear hb hr hx2
    go_wp2_with fail
    go_region
    go_wp2_with fail
    have HZ := Lib.hid (((((HR4.out.setA (.int .i64 x.1)).setC (.int .i64 x.2)).setD (.slice none 0 0)).setA (.int .i64 x.1)).setC (.int .i64 x.2)).drew
    have z0 := HZ.out.d.cell 0 _ rfl
    have z1 := HZ.out.a.cell 0 _ rfl
    have z2 := HZ.out.c.cell 0 _ rfl
    simp only [bodyPostD, Leaves]
    exact ⟨.tuple #[.agg #[.slice none 0 0], .int .i64 x.1, .int .i64 x.2], by simp [results, Tryz.results9, go_sem, z0, z1, z2], HZ.out.below, by rw [HV2.out]⟩
  | ok ts =>
    rw [hsc] at HSC HV
    have hg := scR_good hsc
    have HV2 : Hid (sdlF el s.data.toList = exB (docR el ts) fun q => .ok q.1) := HV
    have HDOC := Lib.hid (fun p W m (h : PSt W p ts m) => pdocument_any p el (hel p) hlt W ts m h)
    have HG := Lib.hid hg
    have hne0 : 0 < ts.length := by obtain ⟨t, r, e⟩ := hg.ne; rw [e]; simp
    generalize sdlF el s.data.toList = RR at *
    clear hsc HV hel hlt hg
    go_enter_defers Tryz.func9, Tryz.ntmps9
    go_wp2_with fail
    refine HSC.out.mono ?_
    rintro e w4 ⟨⟨v, rfl, hown⟩, hb⟩
    obtain ⟨a, c, rfl, hc, ha1, ha2, hcells⟩ := tat_of hown hne0
    have hr := HR.out.stay hb
    have HR4 := Lib.hid hr
    have HB4 := Lib.hid hb
    have hs3 := HR.out.size
    have hs4 := hb.size
    have hl4 := HL3.out.below hb
    have hr5 : Res3 w (.slice none 0 0) (.int .i64 0) (.int .i64 0) ((w4.setCell ⟨w.heap.size + 1, 0, none⟩ (.int .i64 0)).setCell ⟨w.heap.size + 1 + 1, 0, none⟩ (.int .i64 0)) := (hr.setA (.int .i64 0)).setC (.int .i64 0)
    have hs5 : ((w4.setCell ⟨w.heap.size + 1, 0, none⟩ (.int .i64 0)).setCell ⟨w.heap.size + 1 + 1, 0, none⟩ (.int .i64 0)).heap.size = w4.heap.size := by simp [World.setCell]
    have hb6 := below_new ((w4.setCell ⟨w.heap.size + 1, 0, none⟩ (.int .i64 0)).setCell ⟨w.heap.size + 1 + 1, 0, none⟩ (.int .i64 0)) (.cells #[.slice (some a) ts.length c, .int .i64 0] 63 (0, 0))
    have hk6 := Bk.new ((w4.setCell ⟨w.heap.size + 1, 0, none⟩ (.int .i64 0)).setCell ⟨w.heap.size + 1 + 1, 0, none⟩ (.int .i64 0)) #[.slice (some a) ts.length c, .int .i64 0] 63
    rw [hs5] at hk6 hb6
    have hr6 : Res3 w (.slice none 0 0) (.int .i64 0) (.int .i64 0) (((w4.setCell ⟨w.heap.size + 1, 0, none⟩ (.int .i64 0)).setCell ⟨w.heap.size + 1 + 1, 0, none⟩ (.int .i64 0)).alloc (.cells #[.slice (some a) ts.length c, .int .i64 0] 63 (0, 0))) := hr5.stay (by rw [hs5]; exact hb6)
    have hps : PSt (((w4.setCell ⟨w.heap.size + 1, 0, none⟩ (.int .i64 0)).setCell ⟨w.heap.size + 1 + 1, 0, none⟩ (.int .i64 0)).alloc (.cells #[.slice (some a) ts.length c, .int .i64 0] 63 (0, 0))) w4.heap.size ts 0 := by
      refine ⟨⟨some a, c, hk6, hc, a, rfl, ha2, fun i t hi => ?_⟩, HG.out, by omega, fun w2 h2 => ?_⟩
      · obtain ⟨q0, q1, q2⟩ := hcells i t hi
        have hh : (((w4.setCell ⟨w.heap.size + 1, 0, none⟩ (.int .i64 0)).setCell ⟨w.heap.size + 1 + 1, 0, none⟩ (.int .i64 0)).alloc (.cells #[.slice (some a) ts.length c, .int .i64 0] 63 (0, 0))).heap[a.block]? = w4.heap[a.block]? := by
          rw [hb6.block a.block ha2, Below.heap_setCell _ _ _ _ (by show a.block ≠ w.heap.size + 1 + 1; omega), Below.heap_setCell _ _ _ _ (by show a.block ≠ w.heap.size + 1; omega)]
        have hk : ∀ o, (((w4.setCell ⟨w.heap.size + 1, 0, none⟩ (.int .i64 0)).setCell ⟨w.heap.size + 1 + 1, 0, none⟩ (.int .i64 0)).alloc (.cells #[.slice (some a) ts.length c, .int .i64 0] 63 (0, 0))).cell? ⟨(a.add (i * 3)).block, o, none⟩ = w4.cell? ⟨(a.add (i * 3)).block, o, none⟩ := fun o => cell_of_block (a := ⟨(a.add (i * 3)).block, o, none⟩) (by rw [add_block]; exact hh)
        exact ⟨(cell_of_block (by rw [add_block]; exact hh)).trans q0, (hk _).trans q1, (hk _).trans q2⟩
      · exact HL.out.num.below (hr6.below.trans (h2.mono (by omega)))
    have HP := Lib.hid hps
    have HR6 := Lib.hid hr6
    have p0 := hr.d.cell 0 _ rfl
    have p1 := hr.a.cell 0 _ rfl
    have p2 := hr.c.cell 0 _ rfl
    have g1 := hr.a.frz 0
    have g2 := hr.c.frz 0
    have hs6 : w4.heap.size + 1 = (((w4.setCell ⟨w.heap.size + 1, 0, none⟩ (.int .i64 0)).setCell ⟨w.heap.size + 1 + 1, 0, none⟩ (.int .i64 0)).alloc (.cells #[.slice (some a) ts.length c, .int .i64 0] 63 (0, 0))).heap.size := by rw [World.size_alloc, hs5]
    have HS6 := Lib.hid hs6
    clear hb hr hown hcells hr5 hk6 hb6 hr6 hps hs6
    go_wp2_with fail
    refine (HDOC.out _ _ _ HP.out).mono ?_
    have hs6 := HS6.out
    have hd6 := HR6.out
    clear p0 p1 p2 g1 g2
    generalize ((w4.setCell ⟨w.heap.size + 1, 0, none⟩ (.int .i64 0)).setCell ⟨w.heap.size + 1 + 1, 0, none⟩ (.int .i64 0)).alloc (.cells #[.slice (some a) ts.length c, .int .i64 0] 63 (0, 0)) = w6 at *
    rintro e w7 (⟨l, ts', v, m', hre, rfl, ⟨u, rfl, hx⟩, hp, ht⟩ | ⟨x, hre, rfl, ht⟩)
    · have HD := Lib.hid (HV2.out.trans (exB_ok hre))
      have hr7 : Res3 w (.slice none 0 0) (.int .i64 0) (.int .i64 0) w7 := ⟨hd6.d.far ht (by omega), hd6.a.far ht (by omega), hd6.c.far ht (by omega), hd6.below.trans (ht.below (by omega) |>.mono (by omega)), by have := hd6.size; have := ht.size; omega⟩
      obtain ⟨A, cc, hu, _⟩ := SlS.form hx
      subst hu
      have HR7 := Lib.hid hr7
      have HX := Lib.hid hx
      have p0 := hr7.d.cell 0 _ rfl
      have p1 := hr7.a.cell 0 _ rfl
      have p2 := hr7.c.cell 0 _ rfl
      have g0 := hr7.d.frz 0
      have g1 := hr7.a.frz 0
      have g2 := hr7.c.frz 0
      have hs7 := ht.size
      clear hre hp ht hr7 hx
      go_wp2_with fail
      simp only [bodyPostD]
      refine leaves_cons (f := 19) (args := #[.pointer (some ⟨w.heap.size, 0, none⟩), .pointer (some ⟨w.heap.size + 1, 0, none⟩), .pointer (some ⟨w.heap.size + 1 + 1, 0, none⟩)]) (by simp) (by simp [go_sem]) ?_
      refine (catch_i _ _ _ _).mono ?_
      rintro e u' w9 ⟨rfl, rfl, hb⟩
      have hr8 := ((HR7.out.setD (.slice A l.length cc)).setA (.int .i64 0)).setC (.int .i64 0)
      have hr9 := hr8.stay hb
      have z0 := hr9.d.cell 0 _ rfl
      have z1 := hr9.a.cell 0 _ rfl
      have z2 := hr9.c.cell 0 _ rfl
      have hs8 : (((w7.setCell ⟨w.heap.size, 0, none⟩ (.slice A l.length cc)).setCell ⟨w.heap.size + 1, 0, none⟩ (.int .i64 0)).setCell ⟨w.heap.size + 1 + 1, 0, none⟩ (.int .i64 0)).heap.size = w7.heap.size := by simp [World.setCell]
      have hs9 := hb.size
      rw [hs8] at hs9 hb
      have h6z := HR6.out.size
      simp only [settle, Leaves]
      refine ⟨.tuple #[.agg #[.slice A l.length cc], .int .i64 0, .int .i64 0], by simp [results, Tryz.results9, go_sem, z0, z1, z2], hr9.below, ?_⟩
      rw [HD.out]
      refine ⟨_, rfl, SlS.kept DefC.stays HX.out (fun b hb2 => ?_) (fun b hb2 => ⟨by omega, by omega⟩)⟩
      rw [hb.block b hb2.2, Below.heap_setCell _ _ _ _ (by show b ≠ w.heap.size + 1 + 1; omega), Below.heap_setCell _ _ _ _ (by show b ≠ w.heap.size + 1; omega), Below.heap_setCell _ _ _ _ (by show b ≠ w.heap.size; omega)]
    · have HD := Lib.hid (HV2.out.trans (exB_er hre))
      have hr7 : Res3 w (.slice none 0 0) (.int .i64 0) (.int .i64 0) w7 := ⟨hd6.d.far ht (by omega), hd6.a.far ht (by omega), hd6.c.far ht (by omega), hd6.below.trans (ht.below (by omega) |>.mono (by omega)), by have := hd6.size; have := ht.size; omega⟩
      have HR7 := Lib.hid hr7
      clear hre ht hr7
      unfold badV
      simp only [bodyPostD]
      refine leaves_cons (f := 19) (args := #[.pointer (some ⟨w.heap.size, 0, none⟩), .pointer (some ⟨w.heap.size + 1, 0, none⟩), .pointer (some ⟨w.heap.size + 1 + 1, 0, none⟩)]) (by simp) (by simp [go_sem]) ?_
      refine (catch_p _ _ _ _ x [] _ _ _ HR7.out.d HR7.out.a HR7.out.c (by omega) (by omega) (by omega)).mono ?_
      rintro e u' w9 ⟨rfl, rfl, q0, q1, q2, hoff⟩
      have z0 := q0.cell 0 _ rfl
      have z1 := q1.cell 0 _ rfl
      have z2 := q2.cell 0 _ rfl
      have hbel : Below w.heap.size w w9 := HR7.out.below.trans ⟨hoff.os, hoff.tape, hoff.output, hoff.size, fun b hb => hoff.block b (by have := HR7.out.size; omega) (by omega) (by omega) (by omega)⟩
      simp only [settle, Leaves, List.dropWhile_nil]
      refine ⟨.tuple #[.agg #[.slice none 0 0], .int .i64 x.1, .int .i64 x.2], by simp [results, Tryz.results9, go_sem, z0, z1, z2], hbel, ?_⟩
      rw [HD.out]
end Go.Proofs.YtajljnehlncjhaaGreatDoor
namespace Go.Proofs.YtajljnehlncjhaaGreatDoor
open Go.RowKit
def valP : ElT := vF obV 24 1
def wvP : List Tk → Except Er (VT × List Tk) := whP valP
def argX := argP wvP
def dirX := dirP argX
def inpX := inpP refP wvP dirX
def fldX := fldP inpX refP dirX
def memX := memP dirX
def defX (k : Nat) : List Tk → Except Er (DefT × List Tk) := if k = 1 then df1 fldX dirX else if k = 2 then df2 fldX dirX else if k = 3 then df3 dirX else if k = 4 then df4 memX dirX else df5 inpX dirX
def sdlR (s : List UInt8) : Except Er (List DefT) := sdlF defX s
theorem valP_lt : LtE valP := vF_con (fun _ h => obV_con h) 24 1
theorem wvP_lt : LtT wvP := whP_con valP_lt
theorem argX_lt : LtT argX := argP_con wvP_lt.le
theorem dirX_lt : LtT dirX := dirP_con argX_lt.le
theorem inpX_lt : LtT inpX := inpP_con refP_con.le wvP_lt.le dirX_lt.le
theorem fldX_lt : LtT fldX := fldP_con inpX_lt.le refP_con.le dirX_lt.le
theorem memX_lt : LtT memX := memP_con dirX_lt.le
theorem defX_lt (k : Nat) : LtT (defX k) := by
  unfold defX
  split
  · exact df1_con dirX_lt.le fldX_lt.le
  split
  · exact df2_con dirX_lt.le fldX_lt.le
  split
  · exact df3_con dirX_lt.le
  split
  · exact df4_con dirX_lt.le memX_lt.le
  · exact df5_con dirX_lt.le inpX_lt.le
variable {p : Nat} {W : World} {ts : List Tk} {m : Nat}
theorem pwv (h : PSt W p ts m) : Calls Tryz.prog 141 #[pP p] W (WPost ValW W p (wvP ts)) :=
  pwholeValue_any p valP (fun W ts h => pvalues_any p obV (fun lv el h24 hel => pobject_any p lv el h24 hel) 24 1 (by omega) W ts 0 h (by omega)) W ts m h
theorem parg (h : PSt W p ts m) : Calls Tryz.prog 163 #[pP p] W (WPost ArgV W p (argX ts)) := pargument_any p wvP (fun _ _ _ h => pwv h) W ts m h
theorem pdir (h : PSt W p ts m) : Calls Tryz.prog 137 #[pP p] W (WPost DirV W p (dirX ts)) := pdirective_any p argX (fun _ _ _ h _ => parg h) (fun _ _ _ _ _ h => argX_lt _ _ _ h) W ts m h
theorem pinp (h : PSt W p ts m) : Calls Tryz.prog 96 #[pP p] W (WPost InpV W p (inpX ts)) :=
  pinput_any p refP (fun W ts m h => preference_any p W ts m h) wvP (fun _ _ _ h => pwv h) dirX (fun _ _ _ h _ => pdir h) (fun _ _ _ _ _ h => dirX_lt _ _ _ h) W ts m h
theorem pfld (h : PSt W p ts m) : Calls Tryz.prog 91 #[pP p] W (WPost FldV W p (fldX ts)) :=
  pfield_any p inpX (fun _ _ _ h _ => pinp h) (fun _ _ _ _ _ h => inpX_lt _ _ _ h) refP (fun W ts m h => preference_any p W ts m h) dirX (fun _ _ _ h _ => pdir h) (fun _ _ _ _ _ h => dirX_lt _ _ _ h) W ts m h
theorem pmem (h : PSt W p ts m) : Calls Tryz.prog 94 #[pP p] W (WPost MemV W p (memX ts)) :=
  pmember_any p dirX (fun _ _ _ h _ => pdir h) (fun _ _ _ _ _ h => dirX_lt _ _ _ h) W ts m h
theorem kdR_nm (h : kdR (hd ts) ≠ 0) : isNm ts = true := by
  unfold kdR at h
  split at h
  · next e => exact decide_eq_true e
  · exact absurd rfl h
theorem kdX_le (x : ByteArray) : kdX x ≤ 5 := by
  unfold kdX
  repeat' split
  all_goals omega
theorem kdR_le (t : Tk) : kdR t ≤ 5 := by
  unfold kdR
  split
  · exact kdX_le _
  · omega
theorem pdef (k : Nat) (h : PSt W p ts m) (hk : kdR (hd ts) = k) (h0 : k ≠ 0) : Calls Tryz.prog 41 #[pP p, .int .i64 k] W (WPost DefV W p (defX k ts)) := by
  have hn : isNm ts = true := kdR_nm (by rw [hk]; exact h0)
  have h5 : k ≤ 5 := hk ▸ kdR_le _
  have hc : k = 1 ∨ k = 2 ∨ k = 3 ∨ k = 4 ∨ k = 5 := by omega
  rcases hc with rfl | rfl | rfl | rfl | rfl
  · exact pdef1_any p fldX (fun _ _ _ h _ => pfld h) (fun _ _ _ _ _ h => fldX_lt _ _ _ h) dirX (fun _ _ _ h _ => pdir h) (fun _ _ _ _ _ h => dirX_lt _ _ _ h) W ts m hn h
  · exact pdef2_any p fldX (fun _ _ _ h _ => pfld h) (fun _ _ _ _ _ h => fldX_lt _ _ _ h) dirX (fun _ _ _ h _ => pdir h) (fun _ _ _ _ _ h => dirX_lt _ _ _ h) W ts m hn h
  · exact pdef3_any p dirX (fun _ _ _ h _ => pdir h) (fun _ _ _ _ _ h => dirX_lt _ _ _ h) W ts m hn h
  · exact pdef4_any p memX (fun _ _ _ h _ => pmem h) (fun _ _ _ _ _ h => memX_lt _ _ _ h) dirX (fun _ _ _ h _ => pdir h) (fun _ _ _ _ _ h => dirX_lt _ _ _ h) W ts m hn h
  · exact pdef5_any p inpX (fun _ _ _ h _ => pinp h) (fun _ _ _ _ _ h => inpX_lt _ _ _ h) dirX (fun _ _ _ h _ => pdir h) (fun _ _ _ _ _ h => dirX_lt _ _ _ h) W ts m hn h
theorem sdlparse_any (s : ByteArray) (w : World) (hL : K.LK w) : Calls Tryz.prog 9 #[.string s] w (ParsePost w (sdlR s.data.toList)) :=
  sparse_any defX (fun _ k _ _ _ h hk h0 => pdef k h hk h0) (fun k ts x ts' h => defX_lt k ts x ts' h) s w hL
#print axioms sdlparse_any
end Go.Proofs.YtajljnehlncjhaaGreatDoor
namespace Go.Proofs.YtajljnehlncjhaaGreatDoor
open Go.RowKit
def exT : List UInt8 := [116, 121, 112, 101, 32, 65, 32, 123, 32, 120, 40, 97, 58, 32, 73, 110, 116, 32, 61, 32, 49, 41, 58, 32, 91, 73, 110, 116, 33, 93, 32, 64, 98, 32, 125]
def exU : List UInt8 := [116, 121, 112, 101, 32, 65, 32, 123, 32, 125]
def exI : InpT := ⟨⟨#[97]⟩, ⟨#[73, 110, 116]⟩, [], true, .mk 2 1 ⟨#[]⟩ [] [], []⟩
def exF : FldT := ⟨⟨#[120]⟩, [exI], ⟨#[73, 110, 116]⟩, [2, 1], [⟨⟨#[98]⟩, []⟩]⟩
def exD : DefT := ⟨1, ⟨#[65]⟩, [], [], [exF], [], []⟩
theorem ex_ok : sdlR exT = .ok [exD] := by kernel_rfl
theorem ex_bad : sdlR exU = .error (9, 3) := by kernel_rfl
theorem exD_ok : docOk [exD] = true := by kernel_rfl
theorem ex_nil : docOk [] = false := by kernel_rfl
theorem Sl.one {α : Type} {k bytes : Nat} {R : World → Nat → (Nat → Value) → α → Prop} {w : World} {B : Nat} {v : Value} {x : α} (h : Sl k bytes R w B v [x]) : ∃ a c f, v = .slice (some a) 1 c ∧ 1 ≤ c ∧ a.block < B ∧ (∀ j, j < k → w.cell? (at_ a j) = some (f j)) ∧ R w B f x := by
  obtain ⟨A, c, e, hc, _, V, hA, hr⟩ := h
  obtain ⟨a, rfl, ha, hx⟩ := hA (by simp)
  refine ⟨a, c, V 0, e, hc, ha, fun j hj => ?_, hr 0 x rfl⟩
  have := hx 0 (by simp) j hj
  rw [Nat.zero_mul, show a.add 0 = a by simp [Addr.add]] at this
  exact this
structure ExAt (w : World) (B : Nat) (v : Value) (a0 a1 a2 : Addr) (c0 c1 c2 : Nat) (A3 A4 : Option Addr) (c3 c4 : Nat) : Prop where
  v : v = .slice (some a0) 1 c0
  b0 : a0.block < B
  b1 : a1.block < B
  b2 : a2.block < B
  d0 : 1 ≤ c0
  d1 : 1 ≤ c1
  d2 : 1 ≤ c2
  n : w.cell? (at_ a0 1) = some (.string ⟨#[65]⟩)
  f : w.cell? (at_ a0 4) = some (.slice (some a1) 1 c1)
  f0 : w.cell? (at_ a1 0) = some (.string ⟨#[120]⟩)
  f1 : w.cell? (at_ a1 1) = some (.slice (some a2) 1 c2)
  f2 : w.cell? (at_ a1 2) = some (.string ⟨#[73, 110, 116]⟩)
  f3 : w.cell? (at_ a1 3) = some (.slice A3 2 c3)
  f4 : w.cell? (at_ a1 4) = some (.slice A4 1 c4)
  i3 : w.cell? (at_ a2 3) = some (.bool true)
  i5 : w.cell? (at_ a2 5) = some (.int .i64 1)
theorem ExAt.of {w : World} {B : Nat} {v : Value} (h : DefsR w B v [exD]) : ∃ a0 a1 a2 c0 c1 c2 A3 A4 c3 c4, ExAt w B v a0 a1 a2 c0 c1 c2 A3 A4 c3 c4 := by
  obtain ⟨a0, c0, f, e0, d0, b0, hf, hd⟩ := Sl.one h
  obtain ⟨a1, c1, g, e1, d1, b1, hg, hh⟩ := Sl.one (hd.fields : Sl _ _ _ _ _ _ [exF])
  obtain ⟨a2, c2, i, e2, d2, b2, hi, hk⟩ := Sl.one (hh.args : Sl _ _ _ _ _ _ [exI])
  obtain ⟨A3, c3, e3, _⟩ := hh.type.wraps.form
  obtain ⟨A4, c4, e4, _⟩ := hh.dirs.form
  have hv := hk.val
  have h5 : i 5 = .int .i64 1 := by
    generalize hz : (Value.agg #[i 4, i 5, i 6, i 7, i 8]) = z at hv
    cases hv with
    | mk V => simp only [Value.agg.injEq, Array.mk.injEq, List.cons.injEq] at hz; exact hz.2.1
  exact ⟨a0, a1, a2, c0, c1, c2, A3, A4, c3, c4, e0, b0, b1, b2, d0, d1, d2, (hf 1 (by omega)).trans (by rw [hd.name]; rfl), (hf 4 (by omega)).trans (by rw [e1]), (hg 0 (by omega)).trans (by rw [hh.name]; rfl), (hg 1 (by omega)).trans (by rw [e2]), (hg 2 (by omega)).trans (by rw [hh.type.name]; rfl), (hg 3 (by omega)).trans (by rw [e3]; rfl), (hg 4 (by omega)).trans (by rw [e4]; rfl), (hi 3 (by omega)).trans (by rw [hk.has]; rfl), (hi 5 (by omega)).trans (by rw [h5])⟩
theorem ExAt.kept {w w' : World} {B : Nat} {v : Value} {a0 a1 a2 : Addr} {c0 c1 c2 : Nat} {A3 A4 : Option Addr} {c3 c4 : Nat} (h : ExAt w B v a0 a1 a2 c0 c1 c2 A3 A4 c3 c4) (hb : Below B w w') : ExAt w' B v a0 a1 a2 c0 c1 c2 A3 A4 c3 c4 := by
  have k0 : ∀ j, w'.cell? (at_ a0 j) = w.cell? (at_ a0 j) := fun j => hb.cell (by rw [at_block]; exact h.b0)
  have k1 : ∀ j, w'.cell? (at_ a1 j) = w.cell? (at_ a1 j) := fun j => hb.cell (by rw [at_block]; exact h.b1)
  have k2 : ∀ j, w'.cell? (at_ a2 j) = w.cell? (at_ a2 j) := fun j => hb.cell (by rw [at_block]; exact h.b2)
  exact ⟨h.v, h.b0, h.b1, h.b2, h.d0, h.d1, h.d2, (k0 1).trans h.n, (k0 4).trans h.f, (k1 0).trans h.f0, (k1 1).trans h.f1, (k1 2).trans h.f2, (k1 3).trans h.f3, (k1 4).trans h.f4, (k2 3).trans h.i3, (k2 5).trans h.i5⟩
theorem parse_ok {s : ByteArray} {l : List DefT} {w : World} (hL : K.LK w) (h : sdlR s.data.toList = .ok l) : Calls Tryz.prog 9 #[.string s] w fun e w' => Below w.heap.size w w' ∧ ∃ v, e = .returned (.tuple #[.agg #[v], .int .i64 0, .int .i64 0]) ∧ DefsC w' (fun b => w.heap.size ≤ b ∧ b < w'.heap.size) v l := by
  refine (sdlparse_any s w hL).mono fun e w' hh => ?_
  unfold ParsePost at hh
  rw [h] at hh
  exact hh
theorem parse_err {s : ByteArray} {x : Er} {w : World} (hL : K.LK w) (h : sdlR s.data.toList = .error x) : Calls Tryz.prog 9 #[.string s] w fun e w' => Below w.heap.size w w' ∧ e = .returned (.tuple #[.agg #[.slice none 0 0], .int .i64 x.1, .int .i64 x.2]) := by
  refine (sdlparse_any s w hL).mono fun e w' hh => ?_
  unfold ParsePost at hh
  rw [h] at hh
  exact hh
theorem exT_at : (⟨exT.toArray⟩ : ByteArray).data.toList = exT := by simp
theorem exU_at : (⟨exU.toArray⟩ : ByteArray).data.toList = exU := by simp
theorem parse_exT (w : World) (hL : K.LK w) : Calls Tryz.prog 9 #[.string ⟨exT.toArray⟩] w fun e w' => Below w.heap.size w w' ∧ ∃ v, e = .returned (.tuple #[.agg #[v], .int .i64 0, .int .i64 0]) ∧ DefsC w' (fun b => w.heap.size ≤ b ∧ b < w'.heap.size) v [exD] :=
  parse_ok hL ((congrArg sdlR exT_at).trans ex_ok)
theorem parse_exU (w : World) (hL : K.LK w) : Calls Tryz.prog 9 #[.string ⟨exU.toArray⟩] w fun e w' => Below w.heap.size w w' ∧ e = .returned (.tuple #[.agg #[.slice none 0 0], .int .i64 9, .int .i64 3]) :=
  parse_err (x := (9, 3)) hL ((congrArg sdlR exU_at).trans ex_bad)
theorem DefsR_stay {w w' : World} {v : Value} {l : List DefT} (h : DefsR w w.heap.size v l) (hb : Below w.heap.size w w') : DefsR w' w'.heap.size v l := (DefsR.kept h hb).mono hb.size
theorem DefsR_nil (w : World) (B : Nat) : DefsR w B (.slice none 0 0) [] := ⟨none, 0, rfl, Nat.le_refl _, by simp, fun _ _ => undef, fun h => absurd h (by simp), fun i x h => by simp at h⟩
set_option maxRecDepth 100000 in
set_option maxHeartbeats 2000000 in
theorem example_any (w : World) (hL : K.LK w) : Calls Tryz.prog 8 #[] w fun e w' => e = .returned (.bool true) ∧ Below w.heap.size w w' := by
  have HL := Lib.hid hL
  have H1 := Lib.hid (parse_exT w hL)
  have H2 := Lib.hid parse_exU
  clear hL
  go_enter Tryz.func8, Tryz.ntmps8
  go_wp2_with fail
  refine H1.out.mono ?_
  rintro e w1 ⟨hb1, v, rfl, hx⟩
  have hr : DefsR w1 w1.heap.size v [exD] := DefsC.toR (fun b hb => hb.2) hx
  obtain ⟨a0, a1, a2, c0, c1, c2, A3, A4, c3, c4, hea⟩ := ExAt.of hr
  obtain rfl := hea.v
  have HR := Lib.hid hr
  have HEA := Lib.hid hea
  have HB1 := Lib.hid hb1
  clear hx hr hea hb1
  go_wp2_with fail
  refine (H2.out _ (HL.out.below (HB1.out.trans ((below_new w1 _).mono HB1.out.size)))).mono ?_
  rintro e w2 ⟨hb2, rfl⟩
  have b2 : Below w1.heap.size w1 w2 := (below_new w1 _).trans (hb2.mono (by rw [World.size_alloc]; omega))
  have hX := (Bk.new w1 #[.slice (some a0) 1 c0] 25).stay hb2
  have hea := HEA.out.kept (w' := w2.alloc (.cells #[.slice none 0 0] 25 (0, 0))) (b2.trans ((below_new w2 _).mono b2.size))
  have HX := Lib.hid (hX.stay (below_new w2 (.cells #[.slice none 0 0] 25 (0, 0))))
  have HEB := Lib.hid hea
  have q0 := HX.out.cell 0 _ rfl
  have q1 : (w2.alloc (.cells #[.slice none 0 0] 25 (0, 0))).cell? ⟨a0.block, a0.off + 1, none⟩ = some (.string ⟨#[65]⟩) := hea.n
  have q2 : (w2.alloc (.cells #[.slice none 0 0] 25 (0, 0))).cell? ⟨a0.block, a0.off + 4, none⟩ = some (.slice (some a1) 1 c1) := hea.f
  have q3 : (w2.alloc (.cells #[.slice none 0 0] 25 (0, 0))).cell? a1 = some (.string ⟨#[120]⟩) := hea.f0
  have q4 : (w2.alloc (.cells #[.slice none 0 0] 25 (0, 0))).cell? ⟨a1.block, a1.off + 1, none⟩ = some (.slice (some a2) 1 c2) := hea.f1
  have q5 : (w2.alloc (.cells #[.slice none 0 0] 25 (0, 0))).cell? ⟨a1.block, a1.off + 2, none⟩ = some (.string ⟨#[73, 110, 116]⟩) := hea.f2
  have q6 : (w2.alloc (.cells #[.slice none 0 0] 25 (0, 0))).cell? ⟨a1.block, a1.off + 3, none⟩ = some (.slice A3 2 c3) := hea.f3
  have q7 : (w2.alloc (.cells #[.slice none 0 0] 25 (0, 0))).cell? ⟨a1.block, a1.off + 4, none⟩ = some (.slice A4 1 c4) := hea.f4
  have q8 : (w2.alloc (.cells #[.slice none 0 0] 25 (0, 0))).cell? ⟨a2.block, a2.off + 3, none⟩ = some (.bool true) := hea.i3
  have q9 : (w2.alloc (.cells #[.slice none 0 0] 25 (0, 0))).cell? ⟨a2.block, a2.off + 5, none⟩ = some (.int .i64 1) := hea.i5
  have d0 := hea.d0
  have d1 := hea.d1
  have d2 := hea.d2
  have hs2 := b2.size
  have HB2 := Lib.hid b2
  clear hX hea hb2 b2
  have hXF := HX.out.stay (below_new (w2.alloc (.cells #[.slice none 0 0] 25 (0, 0))) (.cells #[.string ⟨#[120]⟩, .slice (some a2) 1 c2, .string ⟨#[73, 110, 116]⟩, .slice A3 2 c3, .slice A4 1 c4] 50 (0, 0)))
  have p0 := hXF.cell 0 _ rfl
  have HXF := Lib.hid hXF
  have hFB := Bk.new (w2.alloc (.cells #[.slice none 0 0] 25 (0, 0))) #[.string ⟨#[120]⟩, .slice (some a2) 1 c2, .string ⟨#[73, 110, 116]⟩, .slice A3 2 c3, .slice A4 1 c4] 50
  rw [World.size_alloc] at hFB
  have HFB := Lib.hid hFB
  have hb3 : Below w1.heap.size w1 ((w2.alloc (.cells #[.slice none 0 0] 25 (0, 0))).alloc (.cells #[.string ⟨#[120]⟩, .slice (some a2) 1 c2, .string ⟨#[73, 110, 116]⟩, .slice A3 2 c3, .slice A4 1 c4] 50 (0, 0))) := (HB2.out.trans ((below_new w2 _).mono HB2.out.size)).trans ((below_new _ _).mono (by rw [World.size_alloc]; omega))
  have HB3 := Lib.hid hb3
  have HS3 : Hid (w1.heap.size ≤ ((w2.alloc (.cells #[.slice none 0 0] 25 (0, 0))).alloc (.cells #[.string ⟨#[120]⟩, .slice (some a2) 1 c2, .string ⟨#[73, 110, 116]⟩, .slice A3 2 c3, .slice A4 1 c4] 50 (0, 0))).heap.size) := Lib.hid hb3.size
  clear hXF hFB hb3
  go_wp2_with fail
  have hrt : Calls Tryz.prog 13 #[.agg #[.slice (some a0) 1 c0]] ((w2.alloc (.cells #[.slice none 0 0] 25 (0, 0))).alloc (.cells #[.string ⟨#[120]⟩, .slice (some a2) 1 c2, .string ⟨#[73, 110, 116]⟩, .slice A3 2 c3, .slice A4 1 c4] 50 (0, 0))) (BP true ((w2.alloc (.cells #[.slice none 0 0] 25 (0, 0))).alloc (.cells #[.string ⟨#[120]⟩, .slice (some a2) 1 c2, .string ⟨#[73, 110, 116]⟩, .slice A3 2 c3, .slice A4 1 c4] 50 (0, 0)))) := by
    have hh := sright_any [exD] (.slice (some a0) 1 c0) ((w2.alloc (.cells #[.slice none 0 0] 25 (0, 0))).alloc (.cells #[.string ⟨#[120]⟩, .slice (some a2) 1 c2, .string ⟨#[73, 110, 116]⟩, .slice A3 2 c3, .slice A4 1 c4] 50 (0, 0))) (DefsR_stay HR.out HB3.out)
    rw [exD_ok] at hh
    exact hh
  refine hrt.mono ?_
  clear hrt p0 q0 q1 q2 q3 q4 q5 q6 q7 q8 q9
  generalize hW3 : ((w2.alloc (.cells #[.slice none 0 0] 25 (0, 0))).alloc (.cells #[.string ⟨#[120]⟩, .slice (some a2) 1 c2, .string ⟨#[73, 110, 116]⟩, .slice A3 2 c3, .slice A4 1 c4] 50 (0, 0))) = W3 at *
  clear hW3
  rintro e w4 ⟨rfl, hb4⟩
  have HB4 := Lib.hid hb4
  clear hb4
  go_wp2_with fail
  have hrt : Calls Tryz.prog 13 #[.agg #[.slice none 0 0]] w4 (BP false w4) := by
    have hh := sright_any [] (.slice none 0 0) w4 (DefsR_nil _ _)
    rw [ex_nil] at hh
    exact hh
  refine hrt.mono ?_
  clear hrt
  rintro e w5 ⟨rfl, hb5⟩
  have hb35 : Below W3.heap.size W3 w5 := HB4.out.trans (hb5.mono HB4.out.size)
  have hea := HEA.out.kept (HB3.out.trans (hb35.mono HS3.out))
  have hXF := HXF.out.stay hb35
  have hFB := HFB.out.stay hb35
  have p0 := hXF.cell 0 _ rfl
  have r0 := hFB.cell 0 _ rfl
  have r1 := hFB.cell 1 _ rfl
  have r2 := hFB.cell 2 _ rfl
  have r3 := hFB.cell 3 _ rfl
  have r4 := hFB.cell 4 _ rfl
  have q1 : w5.cell? ⟨a0.block, a0.off + 1, none⟩ = some (.string ⟨#[65]⟩) := hea.n
  have q8 : w5.cell? ⟨a2.block, a2.off + 3, none⟩ = some (.bool true) := hea.i3
  have q9 : w5.cell? ⟨a2.block, a2.off + 5, none⟩ = some (.int .i64 1) := hea.i5
  have d0 := hea.d0
  have d2 := hea.d2
  have HB5 := Lib.hid ((HB1.out.trans (HB3.out.mono HB1.out.size)).trans (hb35.mono (Nat.le_trans HB1.out.size HS3.out)))
  clear hb35 hb5 hea hXF hFB
  go_wp2_with fail
  exact bodyPost_ret (v := .bool true) (by simp [results, Tryz.results8, go_sem]) rfl ⟨rfl, HB5.out⟩
end Go.Proofs.YtajljnehlncjhaaGreatDoor
namespace Go.Proofs.YtajljnehlncjhaaGreatDoor
open Go.RowKit
set_option maxRecDepth 100000 in
set_option maxHeartbeats 8000000 in
theorem rights_row (v : Value) (l : List DefT) (w : World) (h : DefsR w w.heap.size v l) (hs : defsS l) (hL : K.LK w) : Calls Tryz.prog 4 #[.agg #[v]] w fun e w' => e = .returned (.bool true) ∧ Below w.heap.size w w' := by
  have HRD := Lib.hid h
  have hz := wdefs_z l l.length
  obtain ⟨A, c, rfl, hc, hbb⟩ := Sl.form h
  have HS := Lib.hid hs
  have HL := Lib.hid hL
  have HZ := Lib.hid hz
  have X0 := Lib.hid (Bk.new w #[.slice A l.length c] 25)
  have B0 := Lib.hid (below_new w (.cells #[.slice A l.length c] 25 (0, 0)))
  obtain ⟨wd, hwd⟩ : ∃ wd, wd = wdefs l.length l := ⟨_, rfl⟩
  have HWD := Lib.hid hwd
  clear h hs hL hz hwd
  generalize hll : l.length = ll at *
  have HLL := Lib.hid hll
  clear hll
  have CW := Lib.hid (fun (W : World) (hW : Below w.heap.size w W) => (by
    have := weightDoc_any l (.slice A ll c) W (DefsR_stay HRD.out hW) HS.out
    rw [HLL.out, ← HWD.out] at this
    exact this : Calls Tryz.prog 12 #[.agg #[.slice A ll c], .int .i64 2000] W (WtPost wd W)))
  have CE := Lib.hid (fun (W : World) (hW : Below w.heap.size w W) => example_any W (HL.out.below hW))
  by_cases hf : wd ≤ 2000
  · have hf2 : decide ((2000 : Int) < wd) = false := by simp; omega
    have hdz := (HZ.out (by rw [← HWD.out]; exact hf)).2
    obtain ⟨rb, hrb⟩ : ∃ rb, rb = docOk l := ⟨_, rfl⟩
    have CP := Lib.hid (fun (W : World) (hW : Below w.heap.size w W) => (by
      have := sright_any l (.slice A ll c) W (DefsR_stay HRD.out hW)
      rw [← hrb] at this
      exact this : Calls Tryz.prog 13 #[.agg #[.slice A ll c]] W (BP rb W)))
    have CR := Lib.hid (fun (W : World) (hW : Below w.heap.size w W) => (by
      have := rright_doc l (.slice A ll c) W (DefsR_stay HRD.out hW) hdz
      rw [← doc_eq, ← hrb] at this
      exact this : Calls Tryz.prog 14 #[.agg #[.slice A ll c]] W (BP rb W)))
    clear hdz hrb
    go_enter Tryz.func4, Tryz.ntmps4
    go_wp2_with fail
    refine wp_region_past (fun W => Below w.heap.size w W ∧ Bk W w.heap.size #[.slice A ll c] 25) ⟨B0.out, X0.out⟩ (by kernel_rfl) ?_
    intro W ⟨hW, hW0⟩ _
    have p0 : ∀ x : Past W, x.w.cell? ⟨w.heap.size, 0, none⟩ = some (.slice A ll c) := fun x => (x.b.cell (p := ⟨w.heap.size, 0, none⟩) hW0.lt).trans (hW0.cell 0 _ rfl)
    have k1 : ∀ x : Past W, Calls Tryz.prog 12 #[.agg #[.slice A ll c], .int .i64 2000] x.w fun e w'' => e = .returned (.int .i64 wd) ∧ ∃ y : Past W, w'' = y.w := fun x => past_of x (CW.out _ (hW.trans (x.b.mono hW.size)))
    have k2 : ∀ x : Past W, Calls Tryz.prog 13 #[.agg #[.slice A ll c]] x.w fun e w'' => e = .returned (.bool rb) ∧ ∃ y : Past W, w'' = y.w := fun x => past_of x (CP.out _ (hW.trans (x.b.mono hW.size)))
    have k3 : ∀ x : Past W, Calls Tryz.prog 14 #[.agg #[.slice A ll c]] x.w fun e w'' => e = .returned (.bool rb) ∧ ∃ y : Past W, w'' = y.w := fun x => past_of x (CR.out _ (hW.trans (x.b.mono hW.size)))
    have k4 : ∀ x : Past W, Calls Tryz.prog 8 #[] x.w fun e w'' => e = .returned (.bool true) ∧ ∃ y : Past W, w'' = y.w := fun x => past_of x (CE.out _ (hW.trans (x.b.mono hW.size)))
    have C1 := Lib.hid k1
    have C2 := Lib.hid k2
    have C3 := Lib.hid k3
    have C4 := Lib.hid k4
    have HWW := Lib.hid hW
    clear k1 k2 k3 k4 hW hW0
    cases rb
    all_goals
      repeat (go_big_quiet_step (first | with_reducible exact C1.out _ | with_reducible exact C2.out _ | with_reducible exact C3.out _ | with_reducible exact C4.out _))
      refine wpQuiet_nil ?_
      intro _ hw'
      obtain ⟨x, rfl⟩ := hw'
      go_wp2_with fail
      go_ret
      exact ⟨rfl, HWW.out.trans (x.b.mono HWW.out.size)⟩
  · have hf2 : decide ((2000 : Int) < wd) = true := by simp; omega
    go_enter Tryz.func4, Tryz.ntmps4
    go_wp2_with fail
    refine wp_region_past (fun W => Below w.heap.size w W ∧ Bk W w.heap.size #[.slice A ll c] 25) ⟨B0.out, X0.out⟩ (by kernel_rfl) ?_
    intro W ⟨hW, hW0⟩ _
    have p0 : ∀ x : Past W, x.w.cell? ⟨w.heap.size, 0, none⟩ = some (.slice A ll c) := fun x => (x.b.cell (p := ⟨w.heap.size, 0, none⟩) hW0.lt).trans (hW0.cell 0 _ rfl)
    have k1 : ∀ x : Past W, Calls Tryz.prog 12 #[.agg #[.slice A ll c], .int .i64 2000] x.w fun e w'' => e = .returned (.int .i64 wd) ∧ ∃ y : Past W, w'' = y.w := fun x => past_of x (CW.out _ (hW.trans (x.b.mono hW.size)))
    have k4 : ∀ x : Past W, Calls Tryz.prog 8 #[] x.w fun e w'' => e = .returned (.bool true) ∧ ∃ y : Past W, w'' = y.w := fun x => past_of x (CE.out _ (hW.trans (x.b.mono hW.size)))
    have C1 := Lib.hid k1
    have C4 := Lib.hid k4
    have HWW := Lib.hid hW
    clear k1 k4 hW hW0
    repeat (go_big_quiet_step (first | with_reducible exact C1.out _ | with_reducible exact C4.out _))
    refine wpQuiet_nil ?_
    intro _ hw'
    obtain ⟨x, rfl⟩ := hw'
    go_wp2_with fail
    go_ret
    exact ⟨rfl, HWW.out.trans (x.b.mono HWW.out.size)⟩
end Go.Proofs.YtajljnehlncjhaaGreatDoor
