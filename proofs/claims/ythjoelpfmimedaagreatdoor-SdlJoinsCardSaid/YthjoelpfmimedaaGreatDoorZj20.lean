
/-
  Texts joined: I6 I7 R1 R2 R3.
-/
import Derived.Test.YthjoelpfmimedaaGreatDoorZj19
namespace Go.Proofs.YthjoelpfmimedaaGreatDoor
open Go.RowKit
theorem tokR_ok {l : List UInt8} {k : Int} {t : List UInt8} {n : Nat} (h : K.tokR l = .ok (k, t, n)) : 1 ≤ k ∧ k ≤ 4 ∧ t.length ≤ l.length + 3 := by
  unfold K.tokR at h
  simp only at h
  split at h
  · cases h; exact ⟨by omega, by omega, by rw [List.length_take]; omega⟩
  · split at h
    · cases h; exact ⟨by omega, by omega, by show 3 ≤ _; omega⟩
    · split at h
      · split at h
        · cases h; exact ⟨by omega, by omega, by rw [List.length_take]; omega⟩
        · cases h
      · split at h
        · split at h
          · cases h; exact ⟨by omega, by omega, by rw [List.length_take]; omega⟩
          · cases h
        · split at h
          · split at h
            · cases h
            · split at h
              · cases h
              · next hu =>
                have := K.unquote_le hu
                rw [List.length_take] at this
                cases h; exact ⟨by omega, by omega, by omega⟩
          · cases h
theorem scF_good : ∀ (f at' : Nat) (l : List UInt8) (ts : List Tk), K.scF f at' l = .ok ts → at' + l.length ≤ 70000 → (∃ i t, ts = i ++ [t] ∧ t.1 = 5) ∧ (∀ t ∈ ts, TkOk t) ∧ ts.length ≤ l.length + 1
  | 0, _, _, _, h, _ => by simp [K.scF] at h
  | f + 1, at', l, ts, h, hl => by
    have hsp := K.sepN_le l
    unfold K.scF at h
    by_cases he : l.drop (K.sepN l) = []
    · rw [if_pos he] at h
      cases h
      refine ⟨⟨[], _, rfl, rfl⟩, fun t ht => ?_, by simp⟩
      rw [List.mem_singleton] at ht
      subst ht
      exact ⟨by show (0 : Int) ≤ 5; omega, by show (5 : Int) ≤ 5; omega, by simp, by show at' + K.sepN l ≤ _; omega⟩
    · rw [if_neg he] at h
      cases ht : K.tokR (l.drop (K.sepN l)) with
      | error c => rw [ht] at h; cases h
      | ok q =>
        obtain ⟨k, t, n⟩ := q
        rw [ht] at h
        have h1 := K.tokR_len he ht
        have h2 := tokR_ok ht
        rw [List.length_drop] at h1 h2
        simp only at h
        cases hr : K.scF f (at' + K.sepN l + n) ((l.drop (K.sepN l)).drop n) with
        | error e => rw [hr] at h; cases h
        | ok r =>
          rw [hr] at h
          cases h
          have hll : ((l.drop (K.sepN l)).drop n).length = l.length - K.sepN l - n := by rw [List.length_drop, List.length_drop]
          obtain ⟨⟨i, u, e, h5⟩, hok, hlen⟩ := scF_good f _ _ r hr (by rw [hll]; omega)
          refine ⟨⟨_ :: i, u, by rw [e]; rfl, h5⟩, fun v hv => ?_, by rw [List.length_cons]; rw [hll] at hlen; omega⟩
          rcases List.mem_cons.1 hv with rfl | hv
          · exact ⟨by show (0 : Int) ≤ k; omega, by show k ≤ 5; omega, by show t.length ≤ _; omega, by show at' + K.sepN l ≤ _; omega⟩
          · exact hok v hv
theorem scR_good {l : List UInt8} {ts : List Tk} (h : K.scR l = .ok ts) : Good ts := by
  unfold K.scR at h
  split at h
  · cases h
  · obtain ⟨h1, h2, h3⟩ := scF_good _ _ _ _ h (by omega)
    exact ⟨h1, h2, by omega⟩
def sdlF (el : DfT) (s : List UInt8) : Except Er (List DefT) := match K.scR s with
  | .error x => .error x
  | .ok ts => exB (docR el ts) fun q => .ok q.1
def ParsePost (w : World) (r : Except Er (List DefT)) (e : Ending) (w' : World) : Prop := Below w.heap.size w w' ∧ match r with
  | .ok l => ∃ v, e = .returned (.tuple #[.agg #[v], .int .i64 0, .int .i64 0]) ∧ DefsC w' (fun b => w.heap.size ≤ b ∧ b < w'.heap.size) v l
  | .error x => e = .returned (.tuple #[.agg #[.slice none 0 0], .int .i64 x.1, .int .i64 x.2])
abbrev w3 (w : World) : World := ((w.alloc (.cells #[.slice none 0 0] 24 (0, 0))).alloc (.cells #[.int .i64 0] 3 (0, 0))).alloc (.cells #[.int .i64 0] 28 (0, 0))
structure Res3 (w : World) (v0 v1 v2 : Value) (W : World) : Prop where
  d : Bk W w.heap.size #[v0] 24
  a : Bk W (w.heap.size + 1) #[v1] 3
  c : Bk W (w.heap.size + 1 + 1) #[v2] 28
  below : Below w.heap.size w W
  size : w.heap.size + 3 ≤ W.heap.size
theorem Res3.new (w : World) : Res3 w (.slice none 0 0) (.int .i64 0) (.int .i64 0) (w3 w) := by
  have b1 := below_new w (.cells #[.slice none 0 0] 24 (0, 0))
  have x1 := Bk.new w #[.slice none 0 0] 24
  unfold w3
  generalize hw1 : w.alloc (.cells #[.slice none 0 0] 24 (0, 0)) = w1 at *
  have s1 : w1.heap.size = w.heap.size + 1 := by rw [← hw1, World.size_alloc]
  have b2 := below_new w1 (.cells #[.int .i64 0] 3 (0, 0))
  have x2 := Bk.new w1 #[.int .i64 0] 3
  rw [s1] at x2
  generalize hw2 : w1.alloc (.cells #[.int .i64 0] 3 (0, 0)) = w2 at *
  have s2 : w2.heap.size = w.heap.size + 2 := by rw [← hw2, World.size_alloc, s1]
  have b3 := below_new w2 (.cells #[.int .i64 0] 28 (0, 0))
  have x3 := Bk.new w2 #[.int .i64 0] 28
  rw [s2] at x3
  have s3 : (w2.alloc (.cells #[.int .i64 0] 28 (0, 0))).heap.size = w.heap.size + 3 := by rw [World.size_alloc, s2]
  exact ⟨(x1.stay b2).stay b3, x2.stay b3, x3, (b1.trans (b2.mono b1.size)).trans (b3.mono (by omega)), by omega⟩
theorem tat_of {w : World} {base : Nat} {v : Value} {ts : List Tk} (h : K.OwnT w base v ts) (hne : 0 < ts.length) : ∃ a c, v = .slice (some a) ts.length c ∧ ts.length ≤ c ∧ base ≤ a.block ∧ a.block < w.heap.size ∧
    ∀ i t, ts[i]? = some t → w.cell? (a.add (i * 3)) = some (.int .i64 t.1) ∧ w.cell? ⟨(a.add (i * 3)).block, (a.add (i * 3)).off + 1, none⟩ = some (.string ⟨t.2.1.toArray⟩) ∧ w.cell? ⟨(a.add (i * 3)).block, (a.add (i * 3)).off + 2, none⟩ = some (.int .i64 t.2.2) := by
  have hh := K.OwnT.z h
  unfold K.OwnZ at hh
  have hlt := fun g hg => own_lt hh (g := g) hg
  rw [K.tz_len] at hh
  rcases hh.2 with ⟨_, hz⟩ | ⟨g, cap, cur, rfl, h1, h2, h3, _⟩
  · omega
  · have hl := hlt g rfl
    refine ⟨_, _, rfl, h3, hl.1, hl.2, fun i t hi => ?_⟩
    have hcell := hh.cells (g := g) rfl
    have hi2 : (K.tz ts)[i]? = some (t.1, t.2.1, (t.2.2 : Int)) := by unfold K.tz; rw [List.getElem?_map, hi]; rfl
    obtain ⟨z0, z1, z2⟩ := K.zC_at (K.tz ts) i _ hi2
    have e : ∀ n, (⟨g, 0, none⟩ : Addr).add n = ⟨g, n, none⟩ := fun n => by unfold Addr.add; split <;> simp_all
    have k0 := hcell _ _ z0
    have k1 := hcell _ _ z1
    have k2 := hcell _ _ z2
    rw [e] at k0 k1 k2
    rw [e]
    exact ⟨k0, k1, k2⟩
variable {w W W' : World} {v0 v1 v2 : Value}
theorem Res3.stay (h : Res3 w v0 v1 v2 W) (hb : Below W.heap.size W W') : Res3 w v0 v1 v2 W' := ⟨h.d.stay hb, h.a.stay hb, h.c.stay hb, h.below.trans (hb.mono (by have := h.size; omega)), Nat.le_trans h.size hb.size⟩
theorem Res3.setA (h : Res3 w v0 v1 v2 W) (u : Value) : Res3 w v0 u v2 (W.setCell ⟨w.heap.size + 1, 0, none⟩ u) :=
  ⟨h.d.off (by omega) 0 u, h.a.set 0 u, h.c.off (by omega) 0 u, h.below.setCell (p := ⟨w.heap.size + 1, 0, none⟩) (by show w.heap.size ≤ w.heap.size + _; omega) u, by have := h.size; simp [World.setCell]; exact this⟩
theorem Res3.setC (h : Res3 w v0 v1 v2 W) (u : Value) : Res3 w v0 v1 u (W.setCell ⟨w.heap.size + 1 + 1, 0, none⟩ u) :=
  ⟨h.d.off (by omega) 0 u, h.a.off (by omega) 0 u, h.c.set 0 u, h.below.setCell (p := ⟨w.heap.size + 1 + 1, 0, none⟩) (by show w.heap.size ≤ w.heap.size + 1 + 1; omega) u, by have := h.size; simp [World.setCell]; exact this⟩
theorem Res3.setD (h : Res3 w v0 v1 v2 W) (u : Value) : Res3 w u v1 v2 (W.setCell ⟨w.heap.size, 0, none⟩ u) :=
  ⟨h.d.set 0 u, h.a.off (by omega) 0 u, h.c.off (by omega) 0 u, h.below.setCell (p := ⟨w.heap.size, 0, none⟩) (Nat.le_refl _) u, by have := h.size; simp [World.setCell]; exact this⟩
theorem Res3.drew (h : Res3 w v0 v1 v2 W) : Res3 w v0 v1 v2 W.drew := h.stay ((Below.refl _ _).drew)
set_option maxRecDepth 100000 in
set_option maxHeartbeats 1000000 in
theorem sparse_any (el : DfT) (hel : ∀ (p k : Nat) (W : World) (ts : List Tk) (m : Nat), PSt W p ts m → kdR (hd ts) = k → k ≠ 0 → Calls Tryz.prog 56 #[pP p, .int .i64 k] W (WPost DefV W p (el k ts)))
    (hlt : ∀ (k : Nat) (ts : List Tk) (x : DefT) (ts' : List Tk), el k ts = .ok (x, ts') → ts'.length < ts.length) (s : ByteArray) (w : World) (hL : K.LK w) :
    Calls Tryz.prog 12 #[.string s] w (ParsePost w (sdlF el s.data.toList)) := by
  have hmf : ∀ (fn : Fn) (first cap : Array Value) (w : World), (Instr.makeFunc fn first cap).run Tryz.prog w = .ok (.func fn first cap) w := fun _ _ _ _ => rfl
  have hsf : ∀ (A : Addr) (w : World), (store A (.func (.func 28) #[] #[])).run Tryz.prog w = stored Tryz.prog w A (.func (.func 28) #[] #[]) .plain := fun A w => run_store _ w A _ _ rfl
  have HR := Lib.hid (Res3.new w)
  have HSC := Lib.hid (K.scan_any s (w3 w) (hL.below (Res3.new w).below))
  have HL3 := Lib.hid (hL.below (Res3.new w).below)
  have HV : Hid (sdlF el s.data.toList = match K.scR s.data.toList with
    | .error x => .error x
    | .ok ts => exB (docR el ts) fun q => .ok q.1) := Lib.hid rfl
  have HL := Lib.hid hL
  clear hL
  cases hsc : K.scR s.data.toList with
  | error x =>
    rw [hsc] at HSC HV
    have HV2 : Hid (sdlF el s.data.toList = .error x) := HV
    generalize sdlF el s.data.toList = RR at *
    clear hsc HV hel hlt
    go_enter_defers Tryz.func12, Tryz.ntmps12
    go_wp2_with fail
    refine HSC.out.mono ?_
    rintro e w4 ⟨⟨rfl, hx2⟩, hb⟩
    have hr := HR.out.stay hb
    have HR4 := Lib.hid hr
    have p0 := hr.d.cell 0 _ rfl
    have p1 := hr.a.cell 0 _ rfl
    have p2 := hr.c.cell 0 _ rfl
    have g0 := hr.d.frz 0
    have g1 := hr.a.frz 0
    have g2 := hr.c.frz 0
    have hne : (x.2 != 0) = true := by rw [bne_iff_ne]; exact hx2
    clear hb hr hx2
    go_wp2_with fail
    go_region
    go_wp2_with fail
    have HZ := Lib.hid (((((HR4.out.setA (.int .i64 x.1)).setC (.int .i64 x.2)).setD (.slice none 0 0)).setA (.int .i64 x.1)).setC (.int .i64 x.2)).drew
    have z0 := HZ.out.d.cell 0 _ rfl
    have z1 := HZ.out.a.cell 0 _ rfl
    have z2 := HZ.out.c.cell 0 _ rfl
    simp only [bodyPostD, Leaves]
    exact ⟨.tuple #[.agg #[.slice none 0 0], .int .i64 x.1, .int .i64 x.2], by simp [results, Tryz.results12, go_sem, z0, z1, z2], HZ.out.below, by rw [HV2.out]⟩
  | ok ts =>
    rw [hsc] at HSC HV
    have hg := scR_good hsc
    have HV2 : Hid (sdlF el s.data.toList = exB (docR el ts) fun q => .ok q.1) := HV
    have HDOC := Lib.hid (fun p W m (h : PSt W p ts m) => pdocument_any p el (hel p) hlt W ts m h)
    have HG := Lib.hid hg
    have hne0 : 0 < ts.length := by obtain ⟨t, r, e⟩ := hg.ne; rw [e]; simp
    generalize sdlF el s.data.toList = RR at *
    clear hsc HV hel hlt hg
    go_enter_defers Tryz.func12, Tryz.ntmps12
    go_wp2_with fail
    refine HSC.out.mono ?_
    rintro e w4 ⟨⟨v, rfl, hown⟩, hb⟩
    obtain ⟨a, c, rfl, hc, ha1, ha2, hcells⟩ := tat_of hown hne0
    have hr := HR.out.stay hb
    have HR4 := Lib.hid hr
    have HB4 := Lib.hid hb
    have hs3 := HR.out.size
    have hs4 := hb.size
    have hl4 := HL3.out.below hb
    have hr5 : Res3 w (.slice none 0 0) (.int .i64 0) (.int .i64 0) ((w4.setCell ⟨w.heap.size + 1, 0, none⟩ (.int .i64 0)).setCell ⟨w.heap.size + 1 + 1, 0, none⟩ (.int .i64 0)) := (hr.setA (.int .i64 0)).setC (.int .i64 0)
    have hs5 : ((w4.setCell ⟨w.heap.size + 1, 0, none⟩ (.int .i64 0)).setCell ⟨w.heap.size + 1 + 1, 0, none⟩ (.int .i64 0)).heap.size = w4.heap.size := by simp [World.setCell]
    have hb6 := below_new ((w4.setCell ⟨w.heap.size + 1, 0, none⟩ (.int .i64 0)).setCell ⟨w.heap.size + 1 + 1, 0, none⟩ (.int .i64 0)) (.cells #[.slice (some a) ts.length c, fnV, .bool false, .int .i64 0] 72 (0, 0))
    have hk6 := Bk.new ((w4.setCell ⟨w.heap.size + 1, 0, none⟩ (.int .i64 0)).setCell ⟨w.heap.size + 1 + 1, 0, none⟩ (.int .i64 0)) #[.slice (some a) ts.length c, fnV, .bool false, .int .i64 0] 72
    rw [hs5] at hk6 hb6
    have hr6 : Res3 w (.slice none 0 0) (.int .i64 0) (.int .i64 0) (((w4.setCell ⟨w.heap.size + 1, 0, none⟩ (.int .i64 0)).setCell ⟨w.heap.size + 1 + 1, 0, none⟩ (.int .i64 0)).alloc (.cells #[.slice (some a) ts.length c, fnV, .bool false, .int .i64 0] 72 (0, 0))) := hr5.stay (by rw [hs5]; exact hb6)
    have hps : PSt (((w4.setCell ⟨w.heap.size + 1, 0, none⟩ (.int .i64 0)).setCell ⟨w.heap.size + 1 + 1, 0, none⟩ (.int .i64 0)).alloc (.cells #[.slice (some a) ts.length c, fnV, .bool false, .int .i64 0] 72 (0, 0))) w4.heap.size ts 0 := by
      refine ⟨⟨some a, c, hk6, hc, a, rfl, ha2, fun i t hi => ?_⟩, HG.out, by omega, fun w2 h2 => ?_⟩
      · obtain ⟨q0, q1, q2⟩ := hcells i t hi
        have hh : (((w4.setCell ⟨w.heap.size + 1, 0, none⟩ (.int .i64 0)).setCell ⟨w.heap.size + 1 + 1, 0, none⟩ (.int .i64 0)).alloc (.cells #[.slice (some a) ts.length c, fnV, .bool false, .int .i64 0] 72 (0, 0))).heap[a.block]? = w4.heap[a.block]? := by
          rw [hb6.block a.block ha2, Below.heap_setCell _ _ _ _ (by show a.block ≠ w.heap.size + 1 + 1; omega), Below.heap_setCell _ _ _ _ (by show a.block ≠ w.heap.size + 1; omega)]
        have hk : ∀ o, (((w4.setCell ⟨w.heap.size + 1, 0, none⟩ (.int .i64 0)).setCell ⟨w.heap.size + 1 + 1, 0, none⟩ (.int .i64 0)).alloc (.cells #[.slice (some a) ts.length c, fnV, .bool false, .int .i64 0] 72 (0, 0))).cell? ⟨(a.add (i * 3)).block, o, none⟩ = w4.cell? ⟨(a.add (i * 3)).block, o, none⟩ := fun o => cell_of_block (a := ⟨(a.add (i * 3)).block, o, none⟩) (by rw [add_block]; exact hh)
        exact ⟨(cell_of_block (by rw [add_block]; exact hh)).trans q0, (hk _).trans q1, (hk _).trans q2⟩
      · exact HL.out.num.below (hr6.below.trans (h2.mono (by omega)))
    have HP := Lib.hid hps
    have HR6 := Lib.hid hr6
    have p0 := hr.d.cell 0 _ rfl
    have p1 := hr.a.cell 0 _ rfl
    have p2 := hr.c.cell 0 _ rfl
    have g1 := hr.a.frz 0
    have g2 := hr.c.frz 0
    have hs6 : w4.heap.size + 1 = (((w4.setCell ⟨w.heap.size + 1, 0, none⟩ (.int .i64 0)).setCell ⟨w.heap.size + 1 + 1, 0, none⟩ (.int .i64 0)).alloc (.cells #[.slice (some a) ts.length c, fnV, .bool false, .int .i64 0] 72 (0, 0))).heap.size := by rw [World.size_alloc, hs5]
    have HS6 := Lib.hid hs6
    clear hb hr hown hcells hr5 hk6 hb6 hr6 hps hs6
    go_wp2_with fail
    refine (HDOC.out _ _ _ HP.out).mono ?_
    have hs6 := HS6.out
    have hd6 := HR6.out
    clear p0 p1 p2 g1 g2
    generalize ((w4.setCell ⟨w.heap.size + 1, 0, none⟩ (.int .i64 0)).setCell ⟨w.heap.size + 1 + 1, 0, none⟩ (.int .i64 0)).alloc (.cells #[.slice (some a) ts.length c, fnV, .bool false, .int .i64 0] 72 (0, 0)) = w6 at *
    rintro e w7 (⟨l, ts', v, m', hre, rfl, ⟨u, rfl, hx⟩, hp, ht⟩ | ⟨x, hre, rfl, ht⟩)
    · have HD := Lib.hid (HV2.out.trans (exB_ok hre))
      have hr7 : Res3 w (.slice none 0 0) (.int .i64 0) (.int .i64 0) w7 := ⟨hd6.d.far ht (by omega), hd6.a.far ht (by omega), hd6.c.far ht (by omega), hd6.below.trans (ht.below (by omega) |>.mono (by omega)), by have := hd6.size; have := ht.size; omega⟩
      obtain ⟨A, cc, hu, _⟩ := SlS.form hx
      subst hu
      have HR7 := Lib.hid hr7
      have HX := Lib.hid hx
      have p0 := hr7.d.cell 0 _ rfl
      have p1 := hr7.a.cell 0 _ rfl
      have p2 := hr7.c.cell 0 _ rfl
      have g0 := hr7.d.frz 0
      have g1 := hr7.a.frz 0
      have g2 := hr7.c.frz 0
      have hs7 := ht.size
      clear hre hp ht hr7 hx
      go_wp2_with fail
      simp only [bodyPostD]
      refine leaves_cons (f := 27) (args := #[.pointer (some ⟨w.heap.size, 0, none⟩), .pointer (some ⟨w.heap.size + 1, 0, none⟩), .pointer (some ⟨w.heap.size + 1 + 1, 0, none⟩)]) (by simp) (by simp [go_sem]) ?_
      refine (catch_i _ _ _ _).mono ?_
      rintro e u' w9 ⟨rfl, rfl, hb⟩
      have hr8 := ((HR7.out.setD (.slice A l.length cc)).setA (.int .i64 0)).setC (.int .i64 0)
      have hr9 := hr8.stay hb
      have z0 := hr9.d.cell 0 _ rfl
      have z1 := hr9.a.cell 0 _ rfl
      have z2 := hr9.c.cell 0 _ rfl
      have hs8 : (((w7.setCell ⟨w.heap.size, 0, none⟩ (.slice A l.length cc)).setCell ⟨w.heap.size + 1, 0, none⟩ (.int .i64 0)).setCell ⟨w.heap.size + 1 + 1, 0, none⟩ (.int .i64 0)).heap.size = w7.heap.size := by simp [World.setCell]
      have hs9 := hb.size
      rw [hs8] at hs9 hb
      have h6z := HR6.out.size
      simp only [settle, Leaves]
      refine ⟨.tuple #[.agg #[.slice A l.length cc], .int .i64 0, .int .i64 0], by simp [results, Tryz.results12, go_sem, z0, z1, z2], hr9.below, ?_⟩
      rw [HD.out]
      refine ⟨_, rfl, SlS.kept DefC.stays HX.out (fun b hb2 => ?_) (fun b hb2 => ⟨by omega, by omega⟩)⟩
      rw [hb.block b hb2.2, Below.heap_setCell _ _ _ _ (by show b ≠ w.heap.size + 1 + 1; omega), Below.heap_setCell _ _ _ _ (by show b ≠ w.heap.size + 1; omega), Below.heap_setCell _ _ _ _ (by show b ≠ w.heap.size; omega)]
    · have HD := Lib.hid (HV2.out.trans (exB_er hre))
      have hr7 : Res3 w (.slice none 0 0) (.int .i64 0) (.int .i64 0) w7 := ⟨hd6.d.far ht (by omega), hd6.a.far ht (by omega), hd6.c.far ht (by omega), hd6.below.trans (ht.below (by omega) |>.mono (by omega)), by have := hd6.size; have := ht.size; omega⟩
      have HR7 := Lib.hid hr7
      clear hre ht hr7
      unfold badV
      simp only [bodyPostD]
      refine leaves_cons (f := 27) (args := #[.pointer (some ⟨w.heap.size, 0, none⟩), .pointer (some ⟨w.heap.size + 1, 0, none⟩), .pointer (some ⟨w.heap.size + 1 + 1, 0, none⟩)]) (by simp) (by simp [go_sem]) ?_
      refine (catch_p _ _ _ _ x [] _ _ _ HR7.out.d HR7.out.a HR7.out.c (by omega) (by omega) (by omega)).mono ?_
      rintro e u' w9 ⟨rfl, rfl, q0, q1, q2, hoff⟩
      have z0 := q0.cell 0 _ rfl
      have z1 := q1.cell 0 _ rfl
      have z2 := q2.cell 0 _ rfl
      have hbel : Below w.heap.size w w9 := HR7.out.below.trans ⟨hoff.os, hoff.tape, hoff.output, hoff.size, fun b hb => hoff.block b (by have := HR7.out.size; omega) (by omega) (by omega) (by omega)⟩
      simp only [settle, Leaves, List.dropWhile_nil]
      refine ⟨.tuple #[.agg #[.slice none 0 0], .int .i64 x.1, .int .i64 x.2], by simp [results, Tryz.results12, go_sem, z0, z1, z2], hbel, ?_⟩
      rw [HD.out]
end Go.Proofs.YthjoelpfmimedaaGreatDoor
namespace Go.Proofs.YthjoelpfmimedaaGreatDoor
open Go.RowKit
def valP : ElT := vF obV 24 1
def wvP : List Tk → Except Er (VT × List Tk) := whP valP
def argX := argP wvP
def dirX := dirP argX
def inpX := inpP refP wvP dirX
def fldX := fldP inpX refP dirX
def memX := memP dirX
def defX (k : Nat) : List Tk → Except Er (DefT × List Tk) := if k = 1 then df1 fldX dirX else if k = 2 then df2 fldX dirX else if k = 3 then df3 dirX else if k = 4 then df4 memX dirX else df5 inpX dirX
def sdlR (s : List UInt8) : Except Er (List DefT) := sdlF defX s
theorem valP_lt : LtE valP := vF_con (fun _ h => obV_con h) 24 1
theorem wvP_lt : LtT wvP := whP_con valP_lt
theorem argX_lt : LtT argX := argP_con wvP_lt.le
theorem dirX_lt : LtT dirX := dirP_con argX_lt.le
theorem inpX_lt : LtT inpX := inpP_con refP_con.le wvP_lt.le dirX_lt.le
theorem fldX_lt : LtT fldX := fldP_con inpX_lt.le refP_con.le dirX_lt.le
theorem memX_lt : LtT memX := memP_con dirX_lt.le
theorem defX_lt (k : Nat) : LtT (defX k) := by
  unfold defX
  split
  · exact df1_con dirX_lt.le fldX_lt.le
  split
  · exact df2_con dirX_lt.le fldX_lt.le
  split
  · exact df3_con dirX_lt.le
  split
  · exact df4_con dirX_lt.le memX_lt.le
  · exact df5_con dirX_lt.le inpX_lt.le
variable {p : Nat} {W : World} {ts : List Tk} {m : Nat}
theorem pwv (h : PSt W p ts m) : Calls Tryz.prog 176 #[pP p] W (WPost ValW W p (wvP ts)) :=
  pwholeValue_any p valP (fun W ts h => pvalues_any p obV (fun lv el h24 hel => pobject_any p lv el h24 hel) 24 1 (by omega) W ts 0 h (by omega)) W ts m h
theorem parg {q1 q2 : Nat} (hq : ∀ W', Tw p W.heap.size W W' → W'.cell? ⟨q1, 0, none⟩ = some (pP p) ∧ W'.cell? ⟨q2, 0, none⟩ = some (whV p)) (h : PSt W p ts m) : Calls Tryz.prog 268 #[.pointer (some ⟨q1, 0, none⟩), .pointer (some ⟨q2, 0, none⟩)] W (WPost ArgV W p (argX ts)) := pargument_any q1 q2 p wvP (fun _ _ _ h => pwv h) W hq ts m h
theorem pargs (h : PSt W p ts m) : Calls Tryz.prog 244 #[pP p, whV p] W (WPost ArgsC W p (argsP argX ts)) := parguments_any p argX (fun _ _ _ _ _ hq h _ => parg hq h) (fun _ _ _ _ _ h => argX_lt _ _ _ h) W ts m h
theorem pdir (h : PSt W p ts m) : Calls Tryz.prog 215 #[pP p, whV p] W (WPost DirV W p (dirX ts)) := pdirective_any p argX (fun _ _ _ h => pargs h) W ts m h
theorem pinp (h : PSt W p ts m) : Calls Tryz.prog 125 #[pP p] W (WPost InpV W p (inpX ts)) :=
  pinput_any p refP (fun W ts m h => preference_any p W ts m h) wvP (fun _ _ _ h => pwv h) dirX (fun _ _ _ h _ => pdir h) (fun _ _ _ _ _ h => dirX_lt _ _ _ h) W ts m h
theorem pfld (h : PSt W p ts m) : Calls Tryz.prog 120 #[pP p] W (WPost FldV W p (fldX ts)) :=
  pfield_any p inpX (fun _ _ _ h _ => pinp h) (fun _ _ _ _ _ h => inpX_lt _ _ _ h) refP (fun W ts m h => preference_any p W ts m h) dirX (fun _ _ _ h _ => pdir h) (fun _ _ _ _ _ h => dirX_lt _ _ _ h) W ts m h
theorem pmem (h : PSt W p ts m) : Calls Tryz.prog 123 #[pP p] W (WPost MemV W p (memX ts)) :=
  pmember_any p dirX (fun _ _ _ h _ => pdir h) (fun _ _ _ _ _ h => dirX_lt _ _ _ h) W ts m h
theorem kdR_nm (h : kdR (hd ts) ≠ 0) : isNm ts = true := by
  unfold kdR at h
  split at h
  · next e => exact decide_eq_true e
  · exact absurd rfl h
theorem kdX_le (x : ByteArray) : kdX x ≤ 5 := by
  unfold kdX
  repeat' split
  all_goals omega
theorem kdR_le (t : Tk) : kdR t ≤ 5 := by
  unfold kdR
  split
  · exact kdX_le _
  · omega
theorem pdef (k : Nat) (h : PSt W p ts m) (hk : kdR (hd ts) = k) (h0 : k ≠ 0) : Calls Tryz.prog 56 #[pP p, .int .i64 k] W (WPost DefV W p (defX k ts)) := by
  have hn : isNm ts = true := kdR_nm (by rw [hk]; exact h0)
  have h5 : k ≤ 5 := hk ▸ kdR_le _
  have hc : k = 1 ∨ k = 2 ∨ k = 3 ∨ k = 4 ∨ k = 5 := by omega
  rcases hc with rfl | rfl | rfl | rfl | rfl
  · exact pdef1_any p fldX (fun _ _ _ h _ => pfld h) (fun _ _ _ _ _ h => fldX_lt _ _ _ h) dirX (fun _ _ _ h _ => pdir h) (fun _ _ _ _ _ h => dirX_lt _ _ _ h) W ts m hn h
  · exact pdef2_any p fldX (fun _ _ _ h _ => pfld h) (fun _ _ _ _ _ h => fldX_lt _ _ _ h) dirX (fun _ _ _ h _ => pdir h) (fun _ _ _ _ _ h => dirX_lt _ _ _ h) W ts m hn h
  · exact pdef3_any p dirX (fun _ _ _ h _ => pdir h) (fun _ _ _ _ _ h => dirX_lt _ _ _ h) W ts m hn h
  · exact pdef4_any p memX (fun _ _ _ h _ => pmem h) (fun _ _ _ _ _ h => memX_lt _ _ _ h) dirX (fun _ _ _ h _ => pdir h) (fun _ _ _ _ _ h => dirX_lt _ _ _ h) W ts m hn h
  · exact pdef5_any p inpX (fun _ _ _ h _ => pinp h) (fun _ _ _ _ _ h => inpX_lt _ _ _ h) dirX (fun _ _ _ h _ => pdir h) (fun _ _ _ _ _ h => dirX_lt _ _ _ h) W ts m hn h
theorem sdlparse_any (s : ByteArray) (w : World) (hL : K.LK w) : Calls Tryz.prog 12 #[.string s] w (ParsePost w (sdlR s.data.toList)) :=
  sparse_any defX (fun _ k _ _ _ h hk h0 => pdef k h hk h0) (fun k ts x ts' h => defX_lt k ts x ts' h) s w hL
#print axioms sdlparse_any
end Go.Proofs.YthjoelpfmimedaaGreatDoor
namespace Go.Proofs.YthjoelpfmimedaaGreatDoor
open Go.RowKit
inductive Lk (tl : List Tk) : List Tk → List Tk → Prop
  | stop {e : Tk} (h : e.1 = 5) : Lk tl [e] tl
  | step {t u : Tk} {ts us : List Tk} (h5 : t.1 ≠ 5) (hk : t.1 = u.1) (hx : t.2.1 = u.2.1) (h : Lk tl ts us) : Lk tl (t :: ts) (u :: us)
def En (tl : List Tk) : Prop := ∃ e : Tk, tl = [e] ∧ e.1 = 5
def TlOk (tl : List Tk) : Prop := En tl ∨ kdR (hd tl) ≠ 0
def Rq {β : Type} (tl : List Tk) (Q : β → β → Prop) (r1 r2 : Except Er β) : Prop := match r1 with
  | .ok b => ∃ b', r2 = .ok b' ∧ Q b b'
  | .error z => En tl → ∃ z', r2 = .error z' ∧ z'.2 = z.2 ∧ z.2 ≠ 0
def Q1 {α : Type} (tl : List Tk) (b b' : α × List Tk) : Prop := b.1 = b'.1 ∧ Lk tl b.2 b'.2
def Q3 {α : Type} (tl : List Tk) (b b' : α × List Tk × Nat) : Prop := b.1 = b'.1 ∧ Lk tl b.2.1 b'.2.1 ∧ b.2.2 = b'.2.2
variable {tl : List Tk}
theorem Rq.ok {β : Type} {Q : β → β → Prop} {b b' : β} (h : Q b b') : Rq tl Q (.ok b) (.ok b') := ⟨b', rfl, h⟩
theorem Rq.er {β : Type} {Q : β → β → Prop} {z z' : Er} (h : z'.2 = z.2 ∧ z.2 ≠ 0) : Rq tl Q (.error z : Except Er β) (.error z') := fun _ => ⟨z', rfl, h⟩
theorem Rq.bind {α β : Type} {Q : α → α → Prop} {Q' : β → β → Prop} {r1 r2 : Except Er α} {k1 k2 : α → Except Er β} (h : Rq tl Q r1 r2) (hk : ∀ b b', Q b b' → Rq tl Q' (k1 b) (k2 b')) : Rq tl Q' (exB r1 k1) (exB r2 k2) := by
  cases r1 with
  | ok b =>
    obtain ⟨b', rfl, hq⟩ := h
    exact hk b b' hq
  | error z =>
    intro he
    obtain ⟨z', rfl, hz⟩ := h he
    exact ⟨z', rfl, hz⟩
theorem Lk.len {ts us : List Tk} (hT : TlOk tl) (h : Lk tl ts us) : ts.length ≤ us.length ∧ (En tl → ts.length = us.length) := by
  induction h with
  | stop he =>
    refine ⟨?_, ?_⟩
    · rcases hT with ⟨e, rfl, _⟩ | hT
      · simp
      · cases tl with
        | nil => exact absurd rfl hT
        | cons a r => simp
    · rintro ⟨e, rfl, _⟩; simp
  | step h5 hk hx h ih =>
    simp only [List.length_cons]
    exact ⟨by omega, fun he => by have := ih.2 he; omega⟩
theorem kd2 {t : Tk} (h : kdR t ≠ 0) : t.1 = 2 := by
  unfold kdR at h
  split at h
  · assumption
  · exact absurd rfl h
theorem hd_end {tl : List Tk} (hT : TlOk tl) : (hd tl).1 = 5 ∨ (hd tl).1 = 2 := by
  rcases hT with ⟨e, rfl, h⟩ | h
  · exact .inl h
  · exact .inr (kd2 h)
theorem Lk.sg {ts us : List Tk} (hT : TlOk tl) (h : Lk tl ts us) (s : List UInt8) : isSg s us = isSg s ts ∧ (isSg s ts = true → Lk tl ts.tail us.tail) := by
  cases h with
  | @stop e he =>
    have h1 : isSg s [e] = false := by unfold isSg hd; simp [he]
    have h2 : isSg s tl = false := by unfold isSg; rcases hd_end hT with h | h <;> simp [h]
    rw [h1, h2]
    exact ⟨rfl, fun h => by cases h⟩
  | @step t u ts us h5 hk hx h =>
    refine ⟨?_, fun _ => h⟩
    unfold isSg hd
    simp [hk, hx]
theorem Lk.nm {ts us : List Tk} (hT : TlOk tl) (h : Lk tl ts us) : (isNm ts = true → isNm us = true ∧ Lk tl ts.tail us.tail ∧ (hd us).2.1 = (hd ts).2.1) ∧ (isNm ts = false → En tl → isNm us = false) := by
  cases h with
  | @stop e he =>
    have h1 : isNm [e] = false := by unfold isNm hd; simp [he]
    rw [h1]
    refine ⟨fun h => (by cases h), fun _ hE => ?_⟩
    obtain ⟨e', rfl, h'⟩ := hE
    unfold isNm hd; simp [h']
  | @step t u ts us h5 hk hx h =>
    have e : isNm (u :: us) = isNm (t :: ts) := by unfold isNm hd; simp [hk]
    rw [e]
    exact ⟨fun hn => ⟨hn, h, hx.symm⟩, fun hn _ => hn⟩
variable (hT : TlOk tl)
include hT
theorem sg_q {ts us : List Tk} (h : Lk tl ts us) (s : List UInt8) : Rq tl (Lk tl) (sgR s ts) (sgR s us) := by
  obtain ⟨h1, h2⟩ := h.sg hT s
  unfold sgR
  rw [h1]
  by_cases e : isSg s ts = true
  · rw [if_pos e, if_pos e]; exact Rq.ok (h2 e)
  · rw [if_neg e, if_neg e]; exact Rq.er ⟨rfl, by first | decide | simp [erR] | (intro hz; cases hz)⟩
theorem nm_q {ts us : List Tk} (h : Lk tl ts us) : Rq tl (Q1 tl) (nmR ts) (nmR us) := by
  obtain ⟨h1, h2⟩ := h.nm hT
  unfold nmR
  by_cases e : isNm ts = true
  · obtain ⟨a, b, c⟩ := h1 e
    rw [if_pos e, if_pos a]
    exact Rq.ok ⟨by rw [c], b⟩
  · rw [if_neg e]
    intro hE
    rw [if_neg (by rw [h2 (by simpa using e) hE]; decide)]
    exact ⟨_, rfl, rfl, by first | decide | simp [erR] | (intro hz; cases hz)⟩
theorem bn_q {ts us : List Tk} (h : Lk tl ts us) (c m : Nat) : Rq tl (fun _ _ => True) (bgR (isNm ts) c m ts) (bgR (isNm us) c m us) := by
  obtain ⟨h1, h2⟩ := h.nm hT
  unfold bgR
  cases e : isNm ts with
  | true =>
    rw [(h1 e).1]
    simp only [if_true]
    split
    · exact Rq.er ⟨rfl, by first | decide | simp [erR] | (intro hz; cases hz)⟩
    · exact Rq.ok trivial
  | false =>
    intro hE
    rw [h2 e hE]
    exact ⟨_, rfl, rfl, by first | decide | simp [erR] | (intro hz; cases hz)⟩
omit hT in
theorem bt_q (ts us : List Tk) (c m : Nat) : Rq tl (fun _ _ => True) (bgR true c m ts) (bgR true c m us) := by
  unfold bgR
  simp only [if_true]
  split
  · exact Rq.er ⟨rfl, by first | decide | simp [erR] | (intro hz; cases hz)⟩
  · exact Rq.ok trivial
def Sim {α : Type} (tl : List Tk) (el : List Tk → Except Er (α × List Tk)) : Prop := ∀ ts us, Lk tl ts us → Rq tl (Q1 tl) (el ts) (el us)
theorem bls_q {α : Type} {cl : List UInt8} {most : Nat} {el : List Tk → Except Er (α × List Tk)} (he : Sim tl el) : ∀ (f g : Nat) (l : List α) (ts us : List Tk), f ≤ g → (En tl → f = g) → Lk tl ts us → Rq tl (Q1 tl) (bls cl most el f l ts) (bls cl most el g l us)
  | 0, g, l, ts, us, _, hE, _ => fun h => by rw [← hE h]; exact ⟨_, rfl, rfl, by first | decide | simp [erR] | (intro hz; cases hz)⟩
  | f + 1, 0, l, ts, us, h, _, _ => absurd h (Nat.not_succ_le_zero _)
  | f + 1, g + 1, l, ts, us, h, hE, hl => by
    rw [bls_succ, bls_succ]
    obtain ⟨h1, h2⟩ := hl.sg hT cl
    rw [h1]
    by_cases e : l.length ≠ 0 ∧ isSg cl ts = true
    · rw [if_pos e, if_pos e]; exact Rq.ok ⟨rfl, h2 e.2⟩
    · rw [if_neg e, if_neg e]
      refine (bn_q hT hl _ _).bind fun _ _ _ => (he _ _ hl).bind fun b b' hb => ?_
      rw [← hb.1]
      exact bls_q he f g _ _ _ (by omega) (fun h => by have := hE h; omega) hb.2
theorem bl_q {α : Type} {op cl : List UInt8} {most : Nat} {el : List Tk → Except Er (α × List Tk)} (he : Sim tl el) : Sim tl (blR op cl most el) := fun ts us h => by
  refine (sg_q hT h op).bind fun b b' hb => ?_
  have := hb.len hT
  exact bls_q hT he _ _ _ _ _ (by omega) (fun h => by have := this.2 h; omega) hb
theorem nms_q {sep : List UInt8} : ∀ (f g : Nat) (l : List ByteArray) (ts us : List Tk), f ≤ g → (En tl → f = g) → Lk tl ts us → Rq tl (Q1 tl) (nms sep f l ts) (nms sep g l us)
  | 0, g, l, ts, us, _, hE, _ => fun h => by rw [← hE h]; exact ⟨_, rfl, rfl, by first | decide | simp [erR] | (intro hz; cases hz)⟩
  | f + 1, 0, l, ts, us, h, _, _ => absurd h (Nat.not_succ_le_zero _)
  | f + 1, g + 1, l, ts, us, h, hE, hl => by
    rw [nms_succ, nms_succ]
    obtain ⟨h1, h2⟩ := hl.sg hT sep
    rw [h1]
    by_cases e : l.length ≠ 0 ∧ isSg sep ts = false
    · rw [if_pos e, if_pos e]; exact Rq.ok ⟨rfl, hl⟩
    · rw [if_neg e, if_neg e]
      have hl2 : Lk tl (if l.length = 0 then ts else ts.tail) (if l.length = 0 then us else us.tail) := by
        by_cases h0 : l.length = 0
        · rw [if_pos h0, if_pos h0]; exact hl
        · rw [if_neg h0, if_neg h0]
          refine h2 ?_
          cases q : isSg sep ts with
          | true => rfl
          | false => exact absurd ⟨h0, q⟩ e
      refine (bn_q hT hl2 _ _).bind fun _ _ _ => (nm_q hT hl2).bind fun b b' hb => ?_
      rw [← hb.1]
      exact nms_q f g _ _ _ (by omega) (fun h => by have := hE h; omega) hb.2
theorem nmsR_q {sep : List UInt8} : Sim tl (nmsR sep) := fun ts us h => by
  have := h.len hT
  exact nms_q hT _ _ _ _ _ (by omega) (fun h => by have := this.2 h; omega) h
theorem drs_q {el : List Tk → Except Er (DirT × List Tk)} (he : Sim tl el) : ∀ (f g : Nat) (l : List DirT) (ts us : List Tk), f ≤ g → (En tl → f = g) → Lk tl ts us → Rq tl (Q1 tl) (drs el f l ts) (drs el g l us)
  | 0, g, l, ts, us, _, hE, _ => fun h => by rw [← hE h]; exact ⟨_, rfl, rfl, by first | decide | simp [erR] | (intro hz; cases hz)⟩
  | f + 1, 0, l, ts, us, h, _, _ => absurd h (Nat.not_succ_le_zero _)
  | f + 1, g + 1, l, ts, us, h, hE, hl => by
    rw [drs_succ, drs_succ]
    obtain ⟨h1, h2⟩ := hl.sg hT [64]
    rw [h1]
    by_cases e : isSg [64] ts = false
    · rw [if_pos e, if_pos e]; exact Rq.ok ⟨rfl, hl⟩
    · rw [if_neg e, if_neg e]
      refine (bt_q _ _ _ _).bind fun _ _ _ => (he _ _ hl).bind fun b b' hb => ?_
      rw [← hb.1]
      exact drs_q he f g _ _ _ (by omega) (fun h => by have := hE h; omega) hb.2
theorem drsR_q {el : List Tk → Except Er (DirT × List Tk)} (he : Sim tl el) : Sim tl (drsR el) := fun ts us h => by
  have := h.len hT
  exact drs_q hT he _ _ _ _ _ (by omega) (fun h => by have := this.2 h; omega) h
theorem brk_q {ts us : List Tk} (h : Lk tl ts us) : (brk ts).1 = (brk us).1 ∧ Lk tl (brk ts).2 (brk us).2 := by
  induction h with
  | @stop e he =>
    have h1 : isSg [91] [e] = false := by unfold isSg hd; simp [he]
    have h2 : isSg [91] tl = false := by unfold isSg; rcases hd_end hT with h | h <;> simp [h]
    have h3 : brk tl = (0, tl) := by
      cases tl with
      | nil => rfl
      | cons a r => rw [brk, if_neg (by rw [h2]; decide)]
    rw [brk, if_neg (by rw [h1]; decide), h3]
    exact ⟨rfl, .stop he⟩
  | @step t u ts us h5 hk hx h ih =>
    have h1 := ((Lk.step h5 hk hx h).sg hT [91]).1
    rw [brk, brk, h1]
    by_cases e : isSg [91] (t :: ts) = true
    · rw [if_pos e, if_pos e]; exact ⟨by rw [ih.1], ih.2⟩
    · rw [if_neg e, if_neg e]; exact ⟨rfl, .step h5 hk hx h⟩
theorem nn_q {ts us : List Tk} (h : Lk tl ts us) (xs : List Int) : (nnP xs ts).1 = (nnP xs us).1 ∧ Lk tl (nnP xs ts).2 (nnP xs us).2 := by
  obtain ⟨h1, h2⟩ := h.sg hT [33]
  unfold nnP
  rw [h1]
  by_cases e : isSg [33] ts = true
  · rw [if_pos e, if_pos e]; exact ⟨rfl, h2 e⟩
  · rw [if_neg e, if_neg e]; exact ⟨rfl, h⟩
theorem cls_q : ∀ (k : Nat) (xs : List Int) (ts us : List Tk), Lk tl ts us → Rq tl (Q1 tl) (cls k xs ts) (cls k xs us)
  | 0, xs, ts, us, h => Rq.ok ⟨rfl, h⟩
  | k + 1, xs, ts, us, h => by
    rw [cls, cls]
    refine (sg_q hT h [93]).bind fun b b' hb => ?_
    obtain ⟨h1, h2⟩ := nn_q hT hb (xs ++ [2])
    rw [← h1]
    exact cls_q k _ _ _ h2
theorem ref_q : Sim tl refP := fun ts us h => by
  obtain ⟨h1, h2⟩ := brk_q hT h
  unfold refP
  rw [← h1]
  refine (nm_q hT h2).bind fun b b' hb => ?_
  obtain ⟨h3, h4⟩ := nn_q hT hb.2 []
  rw [← h3]
  refine (cls_q hT _ _ _ _ h4).bind fun c c' hc => ?_
  unfold refE
  rw [← hc.1, ← hb.1]
  split
  · exact Rq.er ⟨rfl, by first | decide | simp [erR] | (intro hz; cases hz)⟩
  · exact Rq.ok ⟨rfl, hc.2⟩
def Sim3 (tl : List Tk) (el : ElT) : Prop := ∀ ts us n, Lk tl ts us → Rq tl (Q3 tl) (el ts n) (el us n)
theorem ls_q {el : ElT} (he : Sim3 tl el) : ∀ (f g : Nat) (l : List VT) (ts us : List Tk) (n : Nat), f ≤ g → (En tl → f = g) → Lk tl ts us → Rq tl (Q3 tl) (lsP el f l ts n) (lsP el g l us n)
  | 0, g, l, ts, us, n, _, hE, _ => fun h => by rw [← hE h]; exact ⟨_, rfl, rfl, by first | decide | simp [erR] | (intro hz; cases hz)⟩
  | f + 1, 0, l, ts, us, n, h, _, _ => absurd h (Nat.not_succ_le_zero _)
  | f + 1, g + 1, l, ts, us, n, h, hE, hl => by
    rw [lsP_succ, lsP_succ]
    obtain ⟨h1, h2⟩ := hl.sg hT [93]
    rw [h1]
    by_cases e : isSg [93] ts = true
    · rw [if_pos e, if_pos e]; exact Rq.ok ⟨rfl, h2 e, rfl⟩
    · rw [if_neg e, if_neg e]
      refine (he _ _ n hl).bind fun b b' hb => ?_
      rw [← hb.1, ← hb.2.2]
      exact ls_q he f g _ _ _ _ (by omega) (fun h => by have := hE h; omega) hb.2.1
theorem lsV_q {el : ElT} (he : Sim3 tl el) : Sim3 tl (lsV el) := fun ts us n h => by
  have := h.len hT
  refine (ls_q hT he _ _ [] _ _ n (by omega) (fun h => by have := this.2 h; omega) h).bind fun b b' hb => ?_
  exact Rq.ok ⟨by rw [hb.1], hb.2.1, hb.2.2⟩
theorem key_q (ks : List ByteArray) {ts us : List Tk} (h : Lk tl ts us) : Rq tl (Q1 tl) (keyP ks ts) (keyP ks us) := by
  refine (nm_q hT h).bind fun b b' hb => ?_
  rw [← hb.1]
  split
  · exact Rq.er ⟨rfl, by first | decide | simp [erR] | (intro hz; cases hz)⟩
  · exact Rq.ok ⟨hb.1, hb.2⟩
def Q4 {α β : Type} (tl : List Tk) (b b' : α × β × List Tk × Nat) : Prop := b.1 = b'.1 ∧ b.2.1 = b'.2.1 ∧ Lk tl b.2.2.1 b'.2.2.1 ∧ b.2.2.2 = b'.2.2.2
theorem ob_q {el : ElT} (he : Sim3 tl el) : ∀ (f g : Nat) (ks : List ByteArray) (l : List VT) (ts us : List Tk) (n : Nat), f ≤ g → (En tl → f = g) → Lk tl ts us → Rq tl (Q4 tl) (obP el f ks l ts n) (obP el g ks l us n)
  | 0, g, ks, l, ts, us, n, _, hE, _ => fun h => by rw [← hE h]; exact ⟨_, rfl, rfl, by first | decide | simp [erR] | (intro hz; cases hz)⟩
  | f + 1, 0, ks, l, ts, us, n, h, _, _ => absurd h (Nat.not_succ_le_zero _)
  | f + 1, g + 1, ks, l, ts, us, n, h, hE, hl => by
    rw [obP_succ, obP_succ]
    obtain ⟨h1, h2⟩ := hl.sg hT [125]
    rw [h1]
    by_cases e : isSg [125] ts = true
    · rw [if_pos e, if_pos e]; exact Rq.ok ⟨rfl, rfl, h2 e, rfl⟩
    · rw [if_neg e, if_neg e]
      refine (key_q hT ks hl).bind fun b b' hb => (sg_q hT hb.2 [58]).bind fun c c' hc => (he _ _ n hc).bind fun d d' hd => ?_
      rw [← hb.1, ← hd.1, ← hd.2.2]
      exact ob_q he f g _ _ _ _ _ (by omega) (fun h => by have := hE h; omega) hd.2.1
theorem obV_q {el : ElT} (he : Sim3 tl el) : Sim3 tl (obV el) := fun ts us n h => by
  have := h.len hT
  refine (ob_q hT he _ _ [] [] _ _ n (by omega) (fun h => by have := this.2 h; omega) h).bind fun b b' hb => ?_
  exact Rq.ok ⟨by rw [hb.1, hb.2.1], hb.2.2.1, hb.2.2.2⟩
theorem bv_q (lv n : Nat) {ts us : List Tk} (h : Lk tl ts us) : Rq tl (fun _ _ => isVal ts = true) (bvR lv ts n) (bvR lv us n) := by
  have hv : (isVal ts = true → isVal us = true) ∧ (isVal ts = false → En tl → isVal us = false) := by
    cases h with
    | @stop e he =>
      have h1 : isVal [e] = false := by unfold isVal isSg hd; simp [he]
      rw [h1]
      refine ⟨fun h => (by cases h), fun _ hE => ?_⟩
      obtain ⟨e', rfl, h'⟩ := hE
      unfold isVal isSg hd; simp [h']
    | @step t u ts us h5 hk hx h =>
      have e : isVal (u :: us) = isVal (t :: ts) := by unfold isVal isSg hd; simp [hk, hx]
      rw [e]
      exact ⟨fun h => h, fun h _ => h⟩
  unfold bvR
  cases e : isVal ts with
  | false =>
    intro hE
    rw [hv.2 e hE]
    exact ⟨_, rfl, rfl, by first | decide | simp [erR] | (intro hz; cases hz)⟩
  | true =>
    rw [hv.1 e]
    simp only [Bool.true_eq_false, if_false]
    by_cases h24 : 24 < lv
    · rw [if_pos h24, if_pos h24]; exact Rq.er ⟨rfl, by first | decide | simp [erR] | (intro hz; cases hz)⟩
    · rw [if_neg h24, if_neg h24]
      by_cases hn : 4096 < n + 1
      · rw [if_pos hn, if_pos hn]; exact Rq.er ⟨rfl, by first | decide | simp [erR] | (intro hz; cases hz)⟩
      · rw [if_neg hn, if_neg hn]; exact ⟨(), rfl, trivial⟩
theorem va_q (lv : Nat) {L O : ElT} (hL : Sim3 tl L) (hO : Sim3 tl O) : Sim3 tl (vaP lv L O) := fun ts us n h => by
  refine (bv_q hT lv n h).bind fun _ _ hv => ?_
  cases h with
  | @stop e he =>
    exfalso
    unfold isVal isSg hd at hv; simp [he] at hv
  | @step t u ts us h5 hk hx h =>
    show Rq tl (Q3 tl) (if t.1 = 2 then .ok (nmV ⟨t.2.1.toArray⟩, ts, n + 1) else if t.1 = 3 then .ok (nuV ⟨t.2.1.toArray⟩, ts, n + 1) else if t.1 = 4 then .ok (.mk 3 0 ⟨t.2.1.toArray⟩ [] [], ts, n + 1) else if t.2.1 = [91] then L ts (n + 1) else O ts (n + 1))
      (if u.1 = 2 then .ok (nmV ⟨u.2.1.toArray⟩, us, n + 1) else if u.1 = 3 then .ok (nuV ⟨u.2.1.toArray⟩, us, n + 1) else if u.1 = 4 then .ok (.mk 3 0 ⟨u.2.1.toArray⟩ [] [], us, n + 1) else if u.2.1 = [91] then L us (n + 1) else O us (n + 1))
    rw [← hk, ← hx]
    by_cases k2 : t.1 = 2
    · rw [if_pos k2, if_pos k2]; exact Rq.ok ⟨rfl, h, rfl⟩
    rw [if_neg k2, if_neg k2]
    by_cases k3 : t.1 = 3
    · rw [if_pos k3, if_pos k3]; exact Rq.ok ⟨rfl, h, rfl⟩
    rw [if_neg k3, if_neg k3]
    by_cases k4 : t.1 = 4
    · rw [if_pos k4, if_pos k4]; exact Rq.ok ⟨rfl, h, rfl⟩
    rw [if_neg k4, if_neg k4]
    by_cases k5 : t.2.1 = [91]
    · rw [if_pos k5, if_pos k5]; exact hL _ _ _ h
    · rw [if_neg k5, if_neg k5]; exact hO _ _ _ h
theorem vF_q : ∀ f lv, Sim3 tl (vF obV f lv) := by
  intro f
  induction f with
  | zero => exact fun lv => va_q hT lv (fun _ _ _ _ => Rq.er ⟨rfl, by first | decide | simp [erR] | (intro hz; cases hz)⟩) (fun _ _ _ _ => Rq.er ⟨rfl, by first | decide | simp [erR] | (intro hz; cases hz)⟩)
  | succ f ih => exact fun lv => va_q hT lv (lsV_q hT (ih _)) (obV_q hT (ih _))
theorem wv_q : Sim tl wvP := fun ts us h => by
  refine (vF_q hT 24 1 ts us 0 h).bind fun b b' hb => ?_
  exact Rq.ok ⟨hb.1, hb.2.1⟩
theorem arg_q : Sim tl argX := fun ts us h => by
  refine (nm_q hT h).bind fun b b' hb => (sg_q hT hb.2 [58]).bind fun c c' hc => (wv_q hT _ _ hc).bind fun d d' hd => ?_
  exact Rq.ok ⟨by rw [hb.1, hd.1], hd.2⟩
theorem dir_q : Sim tl dirX := fun ts us h => by
  refine (sg_q hT h [64]).bind fun c c' hc => (nm_q hT hc).bind fun b b' hb => ?_
  obtain ⟨h1, _⟩ := hb.2.sg hT [40]
  rw [h1]
  by_cases e : isSg [40] b.2 = true
  · rw [if_pos e, if_pos e]
    refine (bl_q hT (arg_q hT) _ _ hb.2).bind fun d d' hd => ?_
    exact Rq.ok ⟨by rw [hb.1, hd.1], hd.2⟩
  · rw [if_neg e, if_neg e]
    exact Rq.ok ⟨by rw [hb.1], hb.2⟩
theorem inp_q : Sim tl inpX := fun ts us h => by
  refine (nm_q hT h).bind fun b b' hb => (sg_q hT hb.2 [58]).bind fun c c' hc => (ref_q hT _ _ hc).bind fun d d' hd => ?_
  obtain ⟨h1, h2⟩ := hd.2.sg hT [61]
  rw [h1]
  by_cases e : isSg [61] d.2 = true
  · rw [if_pos e, if_pos e]
    refine (wv_q hT _ _ (h2 e)).bind fun x x' hx => (drsR_q hT (dir_q hT) _ _ hx.2).bind fun y y' hy => ?_
    exact Rq.ok ⟨by rw [hb.1, hd.1, hx.1, hy.1], hy.2⟩
  · rw [if_neg e, if_neg e]
    refine (drsR_q hT (dir_q hT) _ _ hd.2).bind fun y y' hy => ?_
    exact Rq.ok ⟨by rw [hb.1, hd.1, hy.1], hy.2⟩
theorem fldQ_q (nm : ByteArray) (gs : List InpT) : Sim tl (fldQ refP dirX nm gs) := fun ts us h => by
  refine (sg_q hT h [58]).bind fun c c' hc => (ref_q hT _ _ hc).bind fun d d' hd => (drsR_q hT (dir_q hT) _ _ hd.2).bind fun y y' hy => ?_
  exact Rq.ok ⟨by rw [hd.1, hy.1], hy.2⟩
theorem fld_q : Sim tl fldX := fun ts us h => by
  refine (nm_q hT h).bind fun b b' hb => ?_
  obtain ⟨h1, _⟩ := hb.2.sg hT [40]
  rw [h1]
  by_cases e : isSg [40] b.2 = true
  · rw [if_pos e, if_pos e]
    refine (bl_q hT (inp_q hT) _ _ hb.2).bind fun d d' hd => ?_
    rw [← hb.1, ← hd.1]
    exact fldQ_q hT _ _ _ _ hd.2
  · rw [if_neg e, if_neg e, ← hb.1]
    exact fldQ_q hT _ _ _ _ hb.2
theorem mem_q : Sim tl memX := fun ts us h => by
  refine (nm_q hT h).bind fun b b' hb => (drsR_q hT (dir_q hT) _ _ hb.2).bind fun y y' hy => ?_
  exact Rq.ok ⟨by rw [hb.1, hy.1], hy.2⟩
omit hT in
theorem kd_imp {x : ByteArray} (h : kdX x ≠ 0) : x ≠ implS := by
  rintro rfl
  exact h (by decide)
theorem imp_q : Sim tl impP := fun ts us h => by
  unfold impP
  cases h with
  | @stop e he =>
    have h1 : isNm [e] = false := by unfold isNm hd; simp [he]
    have h2 : ¬ (isNm tl = true ∧ (⟨(hd tl).2.1.toArray⟩ : ByteArray) = implS) := by
      rintro ⟨h3, h4⟩
      rcases hT with ⟨e', rfl, h'⟩ | hk
      · unfold isNm hd at h3; simp [h'] at h3
      · unfold kdR at hk
        split at hk
        · exact kd_imp hk h4
        · exact hk rfl
    rw [if_neg (by rw [h1]; simp), if_neg h2]
    exact Rq.ok ⟨rfl, .stop he⟩
  | @step t u ts us h5 hk hx h =>
    have e1 : isNm (u :: us) = isNm (t :: ts) := by unfold isNm hd; simp [hk]
    have e2 : (hd (u :: us)).2.1 = (hd (t :: ts)).2.1 := hx.symm
    rw [e1, e2]
    split
    · exact nmsR_q hT _ _ h
    · exact Rq.ok ⟨rfl, .step h5 hk hx h⟩
theorem uni_q : Sim tl uniP := fun ts us h => by
  refine (sg_q hT h [61]).bind fun c c' hc => (nmsR_q hT _ _ hc).bind fun d d' hd => ?_
  exact Rq.ok ⟨by rw [hd.1], hd.2⟩
theorem def_q (k : Nat) {ts us : List Tk} (h : Lk tl ts us) (hk : kdR (hd ts) ≠ 0) : Rq tl (Q1 tl) (defX k ts) (defX k us) := by
  have h0 := ((h.nm hT).1 (kdR_nm hk)).2.1
  have hdr := drsR_q hT (dir_q hT)
  unfold defX
  split
  · refine (nm_q hT h0).bind fun b b' hb => (imp_q hT _ _ hb.2).bind fun c c' hc => (hdr _ _ hc.2).bind fun d d' hd => (bl_q hT (fld_q hT) _ _ hd.2).bind fun e e' he => ?_
    exact Rq.ok ⟨by rw [hb.1, hc.1, hd.1, he.1], he.2⟩
  split
  · refine (nm_q hT h0).bind fun b b' hb => (hdr _ _ hb.2).bind fun d d' hd => (bl_q hT (fld_q hT) _ _ hd.2).bind fun e e' he => ?_
    exact Rq.ok ⟨by rw [hb.1, hd.1, he.1], he.2⟩
  split
  · refine (nm_q hT h0).bind fun b b' hb => (hdr _ _ hb.2).bind fun d d' hd => (uni_q hT _ _ hd.2).bind fun e e' he => ?_
    exact Rq.ok ⟨by rw [hb.1, hd.1, he.1], he.2⟩
  split
  · refine (nm_q hT h0).bind fun b b' hb => (hdr _ _ hb.2).bind fun d d' hd => (bl_q hT (mem_q hT) _ _ hd.2).bind fun e e' he => ?_
    exact Rq.ok ⟨by rw [hb.1, hd.1, he.1], he.2⟩
  · refine (nm_q hT h0).bind fun b b' hb => (hdr _ _ hb.2).bind fun d d' hd => (bl_q hT (inp_q hT) _ _ hd.2).bind fun e e' he => ?_
    exact Rq.ok ⟨by rw [hb.1, hd.1, he.1], he.2⟩
end Go.Proofs.YthjoelpfmimedaaGreatDoor
namespace Go.Proofs.YthjoelpfmimedaaGreatDoor
open Go.RowKit
variable {tl : List Tk}
theorem Lk.hd5 {ts us : List Tk} (h : Lk tl ts us) (h5 : (hd ts).1 ≠ 5) : (hd us).1 = (hd ts).1 ∧ (hd us).2.1 = (hd ts).2.1 := by
  cases h with
  | stop he => exact absurd he h5
  | step _ hk hx h => exact ⟨hk.symm, hx.symm⟩
theorem kdR_eq {t u : Tk} (h : u.1 = t.1) (hx : u.2.1 = t.2.1) : kdR u = kdR t := by unfold kdR; rw [h, hx]
theorem Lk.stop5 {ts us : List Tk} (h : Lk tl ts us) (h5 : (hd ts).1 = 5) : us = tl := by
  cases h with
  | stop he => rfl
  | step hn _ _ _ => exact absurd h5 hn
theorem bg_ok {c : Bool} {a m : Nat} {ts : List Tk} {u : Unit} (h : bgR c a m ts = .ok u) : c = true ∧ a ≠ m := by
  unfold bgR at h
  split at h
  · split at h
    · cases h
    · next h1 h2 => exact ⟨h1, h2⟩
  · cases h
theorem bg_mk {a m : Nat} (ts : List Tk) (h : a ≠ m) : bgR true a m ts = .ok () := by
  unfold bgR; rw [if_pos rfl, if_neg h]
theorem doc_len : ∀ (f : Nat) (l : List DefT) (ts : List Tk) (l' : List DefT) (ts' : List Tk), docP defX f l ts = .ok (l', ts') → l.length ≤ l'.length
  | 0, l, ts, l', ts', h => by simp [docP] at h
  | f + 1, l, ts, l', ts', h => by
    rw [docP_succ] at h
    split at h
    · cases h; exact Nat.le_refl _
    · obtain ⟨_, h1, h⟩ := exB_get h
      obtain ⟨q, h2, h⟩ := exB_get h
      have := doc_len f _ _ _ _ h
      rw [List.length_append, List.length_singleton] at this
      omega
theorem doc_pre (hT : TlOk tl) (hK : kdR (hd tl) ≠ 0) : ∀ (f g : Nat) (l0 : List DefT) (ts us : List Tk) (l : List DefT) (ts' : List Tk), docP defX f l0 ts = .ok (l, ts') → Lk tl ts us → us.length < g → l0.length ≤ 64 →
    l.length ≠ 0 ∧ l.length ≤ 64 ∧ ∃ g', tl.length < g' ∧ docP defX g l0 us = docP defX g' l tl
  | 0, g, l0, ts, us, l, ts', h, _, _, _ => by simp [docP] at h
  | f + 1, 0, l0, ts, us, l, ts', h, _, hg, _ => absurd hg (Nat.not_lt_zero _)
  | f + 1, g + 1, l0, ts, us, l, ts', h, hl, hg, h64 => by
    rw [docP_succ] at h
    by_cases hs : l0.length ≠ 0 ∧ (hd ts).1 = 5
    · rw [if_pos hs] at h
      cases h
      rw [hl.stop5 hs.2] at hg ⊢
      exact ⟨hs.1, h64, g + 1, hg, rfl⟩
    · rw [if_neg hs] at h
      obtain ⟨_, h1, h⟩ := exB_get h
      obtain ⟨q, h2, h⟩ := exB_get h
      obtain ⟨hk, hne⟩ := bg_ok h1
      have hk0 : kdR (hd ts) ≠ 0 := of_decide_eq_true hk
      have h5 : (hd ts).1 ≠ 5 := by rw [kd2 hk0]; decide
      obtain ⟨e1, e2⟩ := hl.hd5 h5
      have hke : kdR (hd us) = kdR (hd ts) := kdR_eq e1 e2
      have hq := def_q hT (kdR (hd ts)) hl hk0
      rw [h2] at hq
      obtain ⟨q', hq1, hq2⟩ := hq
      have hlt := defX_lt _ _ _ _ (show defX (kdR (hd ts)) us = .ok (q'.1, q'.2) from hq1)
      rw [docP_succ, if_neg (by rw [e1]; exact fun hh => h5 hh.2), hke, decide_eq_true hk0, bg_mk us hne]
      show _ ∧ _ ∧ ∃ g', tl.length < g' ∧ exB (defX (kdR (hd ts)) us) (fun q => docP defX g (l0 ++ [q.1]) q.2) = _
      rw [exB_ok hq1, ← hq2.1]
      exact doc_pre hT hK f g _ _ _ _ _ h hq2.2 (by omega) (by rw [List.length_append, List.length_singleton]; omega)
theorem doc_off (hE : En tl) (a : List DefT) : ∀ (f g : Nat) (l0 : List DefT) (ts us : List Tk) (l : List DefT) (ts' : List Tk), docP defX f l0 ts = .ok (l, ts') → Lk tl ts us → us.length < g → (l0.length ≠ 0 ∨ (hd ts).1 ≠ 5) → (a ++ l).length ≤ 64 →
    ∃ us', docP defX g (a ++ l0) us = .ok (a ++ l, us')
  | 0, g, l0, ts, us, l, ts', h, _, _, _, _ => by simp [docP] at h
  | f + 1, 0, l0, ts, us, l, ts', h, _, hg, _, _ => absurd hg (Nat.not_lt_zero _)
  | f + 1, g + 1, l0, ts, us, l, ts', h, hl, hg, h0, h64 => by
    rw [docP_succ] at h
    by_cases hs : l0.length ≠ 0 ∧ (hd ts).1 = 5
    · rw [if_pos hs] at h
      cases h
      rw [hl.stop5 hs.2]
      obtain ⟨e, rfl, he⟩ := hE
      rw [docP_succ, if_pos ⟨by rw [List.length_append]; omega, he⟩]
      exact ⟨_, rfl⟩
    · rw [if_neg hs] at h
      obtain ⟨_, h1, h⟩ := exB_get h
      obtain ⟨q, h2, h⟩ := exB_get h
      obtain ⟨hk, hne⟩ := bg_ok h1
      have hk0 : kdR (hd ts) ≠ 0 := of_decide_eq_true hk
      have h5 : (hd ts).1 ≠ 5 := by rw [kd2 hk0]; decide
      obtain ⟨e1, e2⟩ := hl.hd5 h5
      have hke : kdR (hd us) = kdR (hd ts) := kdR_eq e1 e2
      have hq := def_q (.inl hE) (kdR (hd ts)) hl hk0
      rw [h2] at hq
      obtain ⟨q', hq1, hq2⟩ := hq
      have hlt := defX_lt _ _ _ _ (show defX (kdR (hd ts)) us = .ok (q'.1, q'.2) from hq1)
      have hlen := doc_len _ _ _ _ _ h
      rw [List.length_append, List.length_singleton] at hlen
      have hne2 : (a ++ l0).length ≠ 64 := by rw [List.length_append] at h64 ⊢; omega
      rw [docP_succ, if_neg (by rw [e1]; exact fun hh => h5 hh.2), hke, decide_eq_true hk0, bg_mk us hne2]
      show ∃ us', exB (defX (kdR (hd ts)) us) (fun q => docP defX g (a ++ l0 ++ [q.1]) q.2) = _
      rw [exB_ok hq1, ← hq2.1, List.append_assoc]
      exact doc_off hE a f g _ _ _ _ _ h hq2.2 (by omega) (.inl (by rw [List.length_append, List.length_singleton]; omega)) h64
theorem doc_first {f : Nat} {ts : List Tk} {l : List DefT} {ts' : List Tk} (h : docP defX (f + 1) [] ts = .ok (l, ts')) : kdR (hd ts) ≠ 0 := by
  rw [docP_succ, if_neg (by simp)] at h
  obtain ⟨_, h1, _⟩ := exB_get h
  exact of_decide_eq_true (bg_ok h1).1
theorem doc_join {ts us tl vs : List Tk} {a b : List DefT} {x y : List Tk} (h1 : docR defX ts = .ok (a, x)) (h2 : docR defX vs = .ok (b, y)) (hl : Lk tl ts us) (e : Tk) (he : e.1 = 5) (hv : Lk [e] vs tl) (hab : a.length + b.length ≤ 64) : ∃ z, docR defX us = .ok (a ++ b, z) := by
  unfold docR at h1 h2 ⊢
  have hv5 := doc_first h2
  have h5 : (hd vs).1 ≠ 5 := by rw [kd2 hv5]; decide
  obtain ⟨e1, e2⟩ := hv.hd5 h5
  have hK : kdR (hd tl) ≠ 0 := by rw [kdR_eq e1 e2]; exact hv5
  obtain ⟨_, _, g', hg, hx⟩ := doc_pre (.inr hK) hK _ (us.length + 1) [] ts us a x h1 hl (by omega) (by simp)
  rw [hx]
  have := doc_off ⟨e, rfl, he⟩ a _ g' [] vs tl b y h2 hv hg (.inr h5) (by rw [List.length_append]; exact hab)
  rw [List.append_nil] at this
  exact this
end Go.Proofs.YthjoelpfmimedaaGreatDoor
namespace Go.Proofs.YthjoelpfmimedaaGreatDoor
open Go.RowKit
theorem scF_like : ∀ (f g a b : Nat) (l : List UInt8) (ts : List Tk), K.scF f a l = .ok ts → f ≤ g → ∃ us e, K.scF g b l = .ok us ∧ e.1 = 5 ∧ Lk [e] ts us
  | 0, _, _, _, _, _, h, _ => by cases h
  | f + 1, 0, _, _, _, _, _, hg => absurd hg (Nat.not_succ_le_zero _)
  | f + 1, g + 1, a, b, l, ts, h, hg => by
    rcases K.scF_ok h with ⟨he, rfl⟩ | ⟨k, t, n, ts2, he, ht, hs, rfl⟩
    · exact ⟨[(5, [], b + K.sepN l)], (5, [], b + K.sepN l), by rw [K.scF_succ, if_pos he], rfl, .stop rfl⟩
    · obtain ⟨us, e, e1, e2, e3⟩ := scF_like f g _ (b + K.sepN l + n) _ ts2 hs (Nat.le_of_succ_le_succ hg)
      exact ⟨(k, t, b + K.sepN l) :: us, e, by rw [K.scF_succ, if_neg he, ht.eq]; simp only [e1], e2, .step (ht.at he).2.2.1 rfl rfl e3⟩
theorem nl_sep : ∀ b, K.runL K.sepS b [10] = some false := by decide
theorem scF_two (t : List UInt8) : ∀ (f g a b : Nat) (s : List UInt8) (ts : List Tk), K.scF f a s = .ok ts → s.length + t.length + 1 < g → ∀ (vs : List Tk), K.scF (t.length + 1) 0 t = .ok vs →
    ∃ us tl e, K.scF g b (s ++ 10 :: t) = .ok us ∧ Lk tl ts us ∧ e.1 = 5 ∧ Lk [e] vs tl
  | 0, _, _, _, _, _, h, _, _, _ => by cases h
  | f + 1, 0, _, _, _, _, _, hg, _, _ => absurd hg (Nat.not_lt_zero _)
  | f + 1, g + 1, a, b, s, ts, h, hg, vs, hv => by
    rcases K.scF_ok h with ⟨he, rfl⟩ | ⟨k, x, n, ts2, he, ht, hs, rfl⟩
    · have hfull : s.length ≤ K.spanL K.sepS false (s ++ []) := by
        rw [List.append_nil]
        have := List.drop_eq_nil_iff.1 he
        exact this
      obtain ⟨st, hst⟩ := K.spanL_full hfull
      have hsep : K.sepN (s ++ 10 :: t) = s.length + 1 + K.sepN t := by
        have := K.sep_in [10] hst nl_sep t
        rw [List.append_assoc] at this
        exact this
      obtain ⟨us, e, h1, h2, h3⟩ := scF_like _ (g + 1) _ (b + s.length + 1) _ _ hv (by omega)
      have hdrop : (s ++ 10 :: t).drop (s.length + 1 + K.sepN t) = t.drop (K.sepN t) := by
        rw [List.drop_append, List.drop_eq_nil_of_le (by omega), List.nil_append, show s.length + 1 + K.sepN t - s.length = K.sepN t + 1 by omega]
        rfl
      refine ⟨us, us, e, ?_, .stop rfl, h2, h3⟩
      rw [← h1, K.scF_succ, K.scF_succ, hsep, hdrop, show b + (s.length + 1 + K.sepN t) = b + s.length + 1 + K.sepN t by omega]
    · have hlt : K.sepN s < s.length := by
        rcases Nat.lt_or_ge (K.sepN s) s.length with h | h
        · exact h
        · exact absurd (List.drop_eq_nil_of_le h) he
      have hsep : K.sepN (s ++ 10 :: t) = K.sepN s := by
        have := K.spanL_cut (step := K.sepS) s false [] (10 :: t) (by rw [List.append_nil]; exact hlt)
        rw [List.append_nil] at this
        exact this
      have hdrop : (s ++ 10 :: t).drop (K.sepN s) = s.drop (K.sepN s) ++ 10 :: t := by
        rw [List.drop_append, show K.sepN s - s.length = 0 by omega]; rfl
      obtain ⟨hn1, hn2, hk5, _, _⟩ := ht.at he
      have hw : (s.drop (K.sepN s)).take n ≠ [] := by
        intro e
        have := congrArg List.length e
        rw [List.length_take] at this
        simp only [List.length_nil] at this
        omega
      have hwl : ((s.drop (K.sepN s)).take n).length = n := by rw [List.length_take]; omega
      have ht2 : K.TokIs ((s.drop (K.sepN s)).take n ++ (s.drop (K.sepN s)).drop n) k x ((s.drop (K.sepN s)).take n).length := by
        rw [List.take_append_drop, hwl]; exact ht
      have hwd : K.wdH ((s.drop (K.sepN s)).drop n ++ 10 :: t) = false ∨ K.wdH ((s.drop (K.sepN s)).drop n ++ 10 :: t) = K.wdH ((s.drop (K.sepN s)).drop n) := by
        cases (s.drop (K.sepN s)).drop n with
        | nil => left; show K.wdB 10 = false; decide
        | cons c r => right; rfl
      have ht3 := K.tok_ext hw ht2 hwd
      rw [hwl, ← List.append_assoc, List.take_append_drop] at ht3
      have hd2 : (s.drop (K.sepN s) ++ 10 :: t).drop n = (s.drop (K.sepN s)).drop n ++ 10 :: t := by
        rw [List.drop_append, show n - (s.drop (K.sepN s)).length = 0 by omega]; rfl
      obtain ⟨us, tl, e, h1, h2, h3, h4⟩ := scF_two t f g _ (b + K.sepN s + n) _ ts2 hs (by rw [List.length_drop, List.length_drop]; omega) vs hv
      refine ⟨(k, x, b + K.sepN s) :: us, tl, e, ?_, .step hk5 rfl rfl h2, h3, h4⟩
      rw [K.scF_succ, hsep, hdrop, if_neg (by intro e; simp at e), ht3.eq]
      simp only [hd2, h1]
theorem scR_two {s t : List UInt8} {ts vs : List Tk} (h1 : K.scR s = .ok ts) (h2 : K.scR t = .ok vs) (hl : s.length + t.length + 1 ≤ 65536) : ∃ us tl e, K.scR (s ++ 10 :: t) = .ok us ∧ Lk tl ts us ∧ e.1 = 5 ∧ Lk [e] vs tl := by
  unfold K.scR at h1 h2 ⊢
  rw [if_neg (by omega)] at h1 h2
  rw [if_neg (by rw [List.length_append, List.length_cons]; omega)]
  exact scF_two t _ _ 0 0 s ts h1 (by rw [List.length_append, List.length_cons]; omega) vs h2
theorem sdl_join {s t : List UInt8} {a b : List DefT} (h1 : sdlR s = .ok a) (h2 : sdlR t = .ok b) (hl : s.length + t.length + 1 ≤ 65536) (hab : a.length + b.length ≤ 64) : sdlR (s ++ 10 :: t) = .ok (a ++ b) := by
  unfold sdlR sdlF at h1 h2 ⊢
  cases e1 : K.scR s with
  | error z => rw [e1] at h1; cases h1
  | ok ts =>
    cases e2 : K.scR t with
    | error z => rw [e2] at h2; cases h2
    | ok vs =>
      rw [e1] at h1
      rw [e2] at h2
      obtain ⟨q1, p1, r1⟩ := exB_get h1
      obtain ⟨q2, p2, r2⟩ := exB_get h2
      cases r1
      cases r2
      obtain ⟨us, tl, e, h3, h4, h5, h6⟩ := scR_two e1 e2 hl
      obtain ⟨z, hz⟩ := doc_join (show docR defX ts = .ok (q1.1, q1.2) from p1) (show docR defX vs = .ok (q2.1, q2.2) from p2) h4 e h5 h6 hab
      rw [h3]
      exact exB_ok hz
end Go.Proofs.YthjoelpfmimedaaGreatDoor
