
/-
  Texts joined: D2 W2 DOpen.
-/
import Derived.Test.YtajljnehlncjhaaGreatDoorP6
import Derived.Test.YtajljnehlncjhaaGreatDoorP5
import Derived.ChangeSlices
namespace Go.Proofs.YtajljnehlncjhaaGreatDoor
open Go.RowKit
def Bk (W : World) (b : Nat) (cs : Array Value) (T : TypeId) : Prop := W.heap[b]? = some (.cells cs T (0, 0))
theorem Bk.cell {W : World} {b : Nat} {cs : Array Value} {T : TypeId} (h : Bk W b cs T) (i : Nat) (v : Value) (hv : cs[i]? = some v) : W.cell? ⟨b, i, none⟩ = some v := by
  rw [cell_of_row _ _ _ _ _ _ h, hv]
theorem Bk.frz {W : World} {b : Nat} {cs : Array Value} {T : TypeId} (h : Bk W b cs T) (i : Nat) : W.frozen? ⟨b, i, none⟩ = false := by
  unfold Bk at h; simp [World.frozen?, h]
theorem Bk.lt {W : World} {b : Nat} {cs : Array Value} {T : TypeId} (h : Bk W b cs T) : b < W.heap.size := by
  unfold Bk at h
  rcases Nat.lt_or_ge b W.heap.size with h' | h'
  · exact h'
  · rw [Array.getElem?_eq_none h'] at h; cases h
theorem Bk.new (W : World) (cs : Array Value) (T : TypeId) : Bk (W.alloc (.cells cs T (0, 0))) W.heap.size cs T := heap_alloc_new _ _
theorem Bk.stay {W W' : World} {b : Nat} {cs : Array Value} {T : TypeId} (h : Bk W b cs T) (hb : Below W.heap.size W W') : Bk W' b cs T := (hb.block b h.lt).trans h
theorem below_new (w : World) (o : Obj) : Below w.heap.size w (w.alloc o) := (Below.refl _ _).alloc (Nat.le_refl _) _
def inB {α : Type} (least most : Int) (xs : List α) (pr : α → Bool) : Bool := decide (least ≤ (xs.length : Int)) && decide ((xs.length : Int) ≤ most) && xs.all pr
def BP (b : Bool) (w : World) (e : Ending) (w' : World) : Prop := e = .returned (.bool b) ∧ Below w.heap.size w w'
theorem withinStr_t (xs : List ByteArray) (v : Value) (w : World) (least most : Int) (h : Sl 1 16 StrR w w.heap.size v xs) (pr : ByteArray → Bool) (hC : ∀ (W : World) (f : Nat → Value) (x : ByteArray), StrR W W.heap.size f x → Calls Tryz.prog 56 #[f 0] W (BP (pr x) W)) :
    Calls Tryz.prog 109 #[v, .int .i64 least, .int .i64 most, .func (.func 56) #[] #[]] w (BP (inB least most xs pr) w) := by
  obtain ⟨A, c, rfl, hc, hb, V, hA, hr⟩ := h
  unfold big at hb
  have h1 := withinStr_any A xs.length c least most V (fun i => ((xs[i]?).map pr).getD true) w (by omega) (fun h0 => by simpa using hA h0)
    (fun i hi => by
      have hx := hr i _ (List.getElem?_eq_getElem hi)
      exact ⟨_, hx.1⟩)
    (fun i hi W hW => by
      have hx := List.getElem?_eq_getElem hi
      have h2 := hC W (V i) _ (StrR.stays.mono (StrR.stays.kept (hr i _ hx) hW) hW.size)
      rw [hx]
      exact h2)
  rw [all_at pr xs _ (fun i x hx => by rw [hx]; rfl)] at h1
  exact h1
theorem withinArg_t (xs : List (ByteArray × VT)) (v : Value) (w : World) (least most : Int) (h : Sl 6 96 ArgR w w.heap.size v xs) (pr : (ByteArray × VT) → Bool) (hC : ∀ (W : World) (f : Nat → Value) (x : (ByteArray × VT)), ArgR W W.heap.size f x → Calls Tryz.prog 146 #[.agg #[f 0, f 1, f 2, f 3, f 4, f 5]] W (BP (pr x) W)) :
    Calls Tryz.prog 145 #[v, .int .i64 least, .int .i64 most, .func (.func 146) #[] #[]] w (BP (inB least most xs pr) w) := by
  obtain ⟨A, c, rfl, hc, hb, V, hA, hr⟩ := h
  unfold big at hb
  have h1 := withinArg_any A xs.length c least most V (fun i => ((xs[i]?).map pr).getD true) w (by omega) hA
    (fun i hi => by
      have hx := hr i _ (List.getElem?_eq_getElem hi)
      obtain ⟨k, n, s, A, li, ci, K, lk, ck, q0, q1, q2, q3, q4⟩ := Rd.form hx.val
      exact ⟨_, _, _, _, _, _, _, _, _, _, hx.name, q0, q1, q2, q3, q4⟩)
    (fun i hi W hW => by
      have hx := List.getElem?_eq_getElem hi
      have h2 := hC W (V i) _ (ArgR.stays.mono (ArgR.stays.kept (hr i _ hx) hW) hW.size)
      rw [hx]
      exact h2)
  rw [all_at pr xs _ (fun i x hx => by rw [hx]; rfl)] at h1
  exact h1
theorem withinDir_t (xs : List DirT) (v : Value) (w : World) (least most : Int) (h : Sl 2 40 DirR w w.heap.size v xs) (pr : DirT → Bool) (hC : ∀ (W : World) (f : Nat → Value) (x : DirT), DirR W W.heap.size f x → Calls Tryz.prog 106 #[.agg #[f 0, f 1]] W (BP (pr x) W)) :
    Calls Tryz.prog 105 #[v, .int .i64 least, .int .i64 most, .func (.func 106) #[] #[]] w (BP (inB least most xs pr) w) := by
  obtain ⟨A, c, rfl, hc, hb, V, hA, hr⟩ := h
  unfold big at hb
  have h1 := withinDir_any A xs.length c least most V (fun i => ((xs[i]?).map pr).getD true) w (by omega) hA
    (fun i hi => by
      have hx := hr i _ (List.getElem?_eq_getElem hi)
      obtain ⟨A, c, q, _, _⟩ := hx.args.form
      exact ⟨_, _, _, _, hx.name, q⟩)
    (fun i hi W hW => by
      have hx := List.getElem?_eq_getElem hi
      have h2 := hC W (V i) _ (DirR.stays.mono (DirR.stays.kept (hr i _ hx) hW) hW.size)
      rw [hx]
      exact h2)
  rw [all_at pr xs _ (fun i x hx => by rw [hx]; rfl)] at h1
  exact h1
theorem withinInp_t (xs : List InpT) (v : Value) (w : World) (least most : Int) (h : Sl 10 168 InpR w w.heap.size v xs) (pr : InpT → Bool) (hC : ∀ (W : World) (f : Nat → Value) (x : InpT), InpR W W.heap.size f x → Calls Tryz.prog 114 #[.agg #[f 0, f 1, f 2, f 3, f 4, f 5, f 6, f 7, f 8, f 9]] W (BP (pr x) W)) :
    Calls Tryz.prog 113 #[v, .int .i64 least, .int .i64 most, .func (.func 114) #[] #[]] w (BP (inB least most xs pr) w) := by
  obtain ⟨A, c, rfl, hc, hb, V, hA, hr⟩ := h
  unfold big at hb
  have h1 := withinInp_any A xs.length c least most V (fun i => ((xs[i]?).map pr).getD true) w (by omega) hA
    (fun i hi => by
      have hx := hr i _ (List.getElem?_eq_getElem hi)
      obtain ⟨k, n, s, A, li, ci, K, lk, ck, q0, q1, q2, q3, q4⟩ := Rd.form hx.val
      obtain ⟨A2, c2, p2, _, _⟩ := hx.type.wraps.form
      obtain ⟨A9, c9, p9, _, _⟩ := hx.dirs.form
      exact ⟨_, _, _, _, _, _, _, _, _, _, _, _, _, _, _, _, _, _, hx.name, hx.type.name, p2, hx.has, q0, q1, q2, q3, q4, p9⟩)
    (fun i hi W hW => by
      have hx := List.getElem?_eq_getElem hi
      have h2 := hC W (V i) _ (InpR.stays.mono (InpR.stays.kept (hr i _ hx) hW) hW.size)
      rw [hx]
      exact h2)
  rw [all_at pr xs _ (fun i x hx => by rw [hx]; rfl)] at h1
  exact h1
theorem withinFld_t (xs : List FldT) (v : Value) (w : World) (least most : Int) (h : Sl 5 104 FldR w w.heap.size v xs) (pr : FldT → Bool) (hC : ∀ (W : World) (f : Nat → Value) (x : FldT), FldR W W.heap.size f x → Calls Tryz.prog 111 #[.agg #[f 0, f 1, f 2, f 3, f 4]] W (BP (pr x) W)) :
    Calls Tryz.prog 110 #[v, .int .i64 least, .int .i64 most, .func (.func 111) #[] #[]] w (BP (inB least most xs pr) w) := by
  obtain ⟨A, c, rfl, hc, hb, V, hA, hr⟩ := h
  unfold big at hb
  have h1 := withinFld_any A xs.length c least most V (fun i => ((xs[i]?).map pr).getD true) w (by omega) hA
    (fun i hi => by
      have hx := hr i _ (List.getElem?_eq_getElem hi)
      obtain ⟨A1, c1, p1, _, _⟩ := hx.args.form
      obtain ⟨A3, c3, p3, _, _⟩ := hx.type.wraps.form
      obtain ⟨A4, c4, p4, _, _⟩ := hx.dirs.form
      exact ⟨_, _, _, _, _, _, _, _, _, _, _, hx.name, p1, hx.type.name, p3, p4⟩)
    (fun i hi W hW => by
      have hx := List.getElem?_eq_getElem hi
      have h2 := hC W (V i) _ (FldR.stays.mono (FldR.stays.kept (hr i _ hx) hW) hW.size)
      rw [hx]
      exact h2)
  rw [all_at pr xs _ (fun i x hx => by rw [hx]; rfl)] at h1
  exact h1
theorem withinDef_t (xs : List DefT) (v : Value) (w : World) (least most : Int) (h : Sl 7 144 DefR w w.heap.size v xs) (pr : DefT → Bool) (hC : ∀ (W : World) (f : Nat → Value) (x : DefT), DefR W W.heap.size f x → Calls Tryz.prog 30 #[.agg #[f 0, f 1, f 2, f 3, f 4, f 5, f 6]] W (BP (pr x) W)) :
    Calls Tryz.prog 29 #[v, .int .i64 least, .int .i64 most, .func (.func 30) #[] #[]] w (BP (inB least most xs pr) w) := by
  obtain ⟨A, c, rfl, hc, hb, V, hA, hr⟩ := h
  unfold big at hb
  have h1 := withinDef_any A xs.length c least most V (fun i => ((xs[i]?).map pr).getD true) w (by omega) hA
    (fun i hi => by
      have hx := hr i _ (List.getElem?_eq_getElem hi)
      obtain ⟨A2, c2, p2, _, _⟩ := hx.impl.form
      obtain ⟨A3, c3, p3, _, _⟩ := hx.dirs.form
      obtain ⟨A4, c4, p4, _, _⟩ := hx.fields.form
      obtain ⟨A5, c5, p5, _, _⟩ := hx.members.form
      obtain ⟨A6, c6, p6, _, _⟩ := hx.inputs.form
      exact ⟨_, _, _, _, _, _, _, _, _, _, _, _, _, _, _, _, _, hx.kind, hx.name, p2, p3, p4, p5, p6⟩)
    (fun i hi W hW => by
      have hx := List.getElem?_eq_getElem hi
      have h2 := hC W (V i) _ (DefR.stays.mono (DefR.stays.kept (hr i _ hx) hW) hW.size)
      rw [hx]
      exact h2)
  rw [all_at pr xs _ (fun i x hx => by rw [hx]; rfl)] at h1
  exact h1
theorem withinMemU_t (xs : List MemT) (v : Value) (w : World) (least most : Int) (h : Sl 2 40 MemR w w.heap.size v xs) (pr : MemT → Bool) (hC : ∀ (W : World) (f : Nat → Value) (x : MemT), MemR W W.heap.size f x → Calls Tryz.prog 107 #[.agg #[f 0, f 1]] W (BP (pr x) W)) :
    Calls Tryz.prog 112 #[v, .int .i64 least, .int .i64 most, .func (.func 107) #[] #[]] w (BP (inB least most xs pr) w) := by
  obtain ⟨A, c, rfl, hc, hb, V, hA, hr⟩ := h
  unfold big at hb
  have h1 := withinMemU_any A xs.length c least most V (fun i => ((xs[i]?).map pr).getD true) w (by omega) hA
    (fun i hi => by
      have hx := hr i _ (List.getElem?_eq_getElem hi)
      obtain ⟨A, c, q, _, _⟩ := hx.dirs.form
      exact ⟨_, _, _, _, hx.name, q⟩)
    (fun i hi W hW => by
      have hx := List.getElem?_eq_getElem hi
      have h2 := hC W (V i) _ (MemR.stays.mono (MemR.stays.kept (hr i _ hx) hW) hW.size)
      rw [hx]
      exact h2)
  rw [all_at pr xs _ (fun i x hx => by rw [hx]; rfl)] at h1
  exact h1
theorem withinMemE_t (xs : List MemT) (v : Value) (w : World) (least most : Int) (h : Sl 2 40 MemR w w.heap.size v xs) (pr : MemT → Bool) (hC : ∀ (W : World) (f : Nat → Value) (x : MemT), MemR W W.heap.size f x → Calls Tryz.prog 108 #[.agg #[f 0, f 1]] W (BP (pr x) W)) :
    Calls Tryz.prog 112 #[v, .int .i64 least, .int .i64 most, .func (.func 108) #[] #[]] w (BP (inB least most xs pr) w) := by
  obtain ⟨A, c, rfl, hc, hb, V, hA, hr⟩ := h
  unfold big at hb
  have h1 := withinMemE_any A xs.length c least most V (fun i => ((xs[i]?).map pr).getD true) w (by omega) hA
    (fun i hi => by
      have hx := hr i _ (List.getElem?_eq_getElem hi)
      obtain ⟨A, c, q, _, _⟩ := hx.dirs.form
      exact ⟨_, _, _, _, hx.name, q⟩)
    (fun i hi W hW => by
      have hx := List.getElem?_eq_getElem hi
      have h2 := hC W (V i) _ (MemR.stays.mono (MemR.stays.kept (hr i _ hx) hW) hW.size)
      rw [hx]
      exact h2)
  rw [all_at pr xs _ (fun i x hx => by rw [hx]; rfl)] at h1
  exact h1
end Go.Proofs.YtajljnehlncjhaaGreatDoor
namespace Go.Proofs.YtajljnehlncjhaaGreatDoor
open Go.RowKit
def wda : Nat → List (ByteArray × VT) → Nat
  | n, [] => n
  | n, a :: r => if n ≤ 2000 then wda (n + 1 + a.2.wv) r else n
def wds : Nat → List DirT → Nat
  | n, [] => n
  | n, d :: r => if n ≤ 2000 then wds (wda (n + 1) d.args) r else n
def wis : Nat → List InpT → Nat
  | n, [] => n
  | n, x :: r => if n ≤ 2000 then wis (n + 1 + x.tw.length + x.dflt.wv + wds 0 x.dirs) r else n
def wfs : Nat → List FldT → Nat
  | n, [] => n
  | n, x :: r => if n ≤ 2000 then wfs (n + 1 + x.tw.length + wis 0 x.args + wds 0 x.dirs) r else n
def wms : Nat → List MemT → Nat
  | n, [] => n
  | n, x :: r => if n ≤ 2000 then wms (n + 1 + wds 0 x.dirs) r else n
def wdefs : Nat → List DefT → Nat
  | n, [] => n
  | n, x :: r => if n ≤ 2000 then wdefs (wms (wfs (n + x.impl.length + wds 0 x.dirs + wis 0 x.inputs) x.fields) x.members) r else n
theorem wda_big {n : Nat} (h : 2000 < n) : ∀ l, wda n l = n
  | [] => rfl
  | k :: r => by rw [wda, if_neg (by omega)]
theorem wds_big {n : Nat} (h : 2000 < n) : ∀ l, wds n l = n
  | [] => rfl
  | k :: r => by rw [wds, if_neg (by omega)]
theorem wis_big {n : Nat} (h : 2000 < n) : ∀ l, wis n l = n
  | [] => rfl
  | k :: r => by rw [wis, if_neg (by omega)]
theorem wfs_big {n : Nat} (h : 2000 < n) : ∀ l, wfs n l = n
  | [] => rfl
  | k :: r => by rw [wfs, if_neg (by omega)]
theorem wms_big {n : Nat} (h : 2000 < n) : ∀ l, wms n l = n
  | [] => rfl
  | k :: r => by rw [wms, if_neg (by omega)]
theorem wdefs_big {n : Nat} (h : 2000 < n) : ∀ l, wdefs n l = n
  | [] => rfl
  | k :: r => by rw [wdefs, if_neg (by omega)]
def argsS (l : List (ByteArray × VT)) : Prop := ∀ a ∈ l, a.2.bw ≤ 1099511627776
def dirsS (l : List DirT) : Prop := ∀ d ∈ l, argsS d.args
def inpsS (l : List InpT) : Prop := ∀ x ∈ l, x.dflt.bw ≤ 1099511627776 ∧ dirsS x.dirs ∧ x.tw.length ≤ 17592186044416
def fldsS (l : List FldT) : Prop := ∀ x ∈ l, inpsS x.args ∧ dirsS x.dirs ∧ x.tw.length ≤ 17592186044416
def memsS (l : List MemT) : Prop := ∀ x ∈ l, dirsS x.dirs
def defsS (l : List DefT) : Prop := ∀ x ∈ l, dirsS x.dirs ∧ inpsS x.inputs ∧ fldsS x.fields ∧ memsS x.members ∧ x.impl.length ≤ 17592186044416
theorem wda_le : ∀ (l : List (ByteArray × VT)) (n : Nat), argsS l → n ≤ 1099511700000 → wda n l ≤ 1099511700000
  | [], n, _, h => h
  | a :: r, n, hs, h => by
    rw [wda]
    split
    · have h1 := hs a List.mem_cons_self
      have h2 := wv_le a.2
      exact wda_le r _ (fun b hb => hs b (List.mem_cons_of_mem _ hb)) (by omega)
    · exact h
theorem wds_le : ∀ (l : List DirT) (n : Nat), dirsS l → n ≤ 1099511700000 → wds n l ≤ 1099511700000
  | [], n, _, h => h
  | d :: r, n, hs, h => by
    rw [wds]
    split
    · exact wds_le r _ (fun b hb => hs b (List.mem_cons_of_mem _ hb)) (wda_le _ _ (hs d List.mem_cons_self) (by omega))
    · exact h
theorem wis_le : ∀ (l : List InpT) (n : Nat), inpsS l → n ≤ 20000000000000 → wis n l ≤ 20000000000000
  | [], n, _, h => h
  | x :: r, n, hs, h => by
    rw [wis]
    split
    · obtain ⟨h1, h2, h3⟩ := hs x List.mem_cons_self
      have h4 := wv_le x.dflt
      have h5 := wds_le x.dirs 0 h2 (by omega)
      exact wis_le r _ (fun b hb => hs b (List.mem_cons_of_mem _ hb)) (by omega)
    · exact h
set_option maxRecDepth 100000 in
set_option maxHeartbeats 4000000 in
theorem weightDirs_any (l : List DirT) (v : Value) (w : World) (h : DirsR w w.heap.size v l) (hs : dirsS l) : Calls Tryz.prog 27 #[v, .int .i64 2000] w (WtPost (wds 0 l) w) := by
  obtain ⟨A, c, rfl, hc, hbb, V, hA, hr⟩ := h
  obtain ⟨R, hR⟩ : ∃ R, R = wds 0 l := ⟨_, rfl⟩
  have HR := Lib.hid hR
  rw [← hR]
  obtain ⟨ll, hll⟩ : ∃ ll, ll = l.length := ⟨_, rfl⟩
  have HLL := Lib.hid hll
  rw [← hll] at hbb hA ⊢
  have hlb : (ll : Int) ≤ 140737488351232 := by unfold big at hbb; omega
  have HA := Lib.hid hA
  have HRR := Lib.hid hr
  have HS := Lib.hid hs
  clear hA hr hs hR hll hbb
  go_enter Tryz.func27, Tryz.ntmps27
  go_wp2_with fail
  go_loopw [5, 6] (fun nn i wr => ∃ (j x : Nat), j ≤ ll ∧ i = .int .i64 j ∧ nn = .int .i64 x ∧ x ≤ 1099511700000 ∧ Hid (R = wds x (l.drop j) ∧ Below w.heap.size w wr)) (fun _ i _ => ll - (intOf i).toNat)
  case atStart => exact ⟨0, 0, Nat.zero_le _, rfl, rfl, by omega, Lib.hid ⟨HR.out, Below.refl _ _⟩⟩
  case round =>
    obtain ⟨j, x, hj, rfl, rfl, hxb, hq⟩ := hrel
    by_cases hgo : j < ll ∧ x ≤ 2000
    · obtain ⟨hlt, hle⟩ := hgo
      have hlt' : (j : Int) < ll := by omega
      have hle' : (x : Int) ≤ 2000 := by omega
      obtain ⟨d, hd⟩ : ∃ d, l[j]? = some d := ⟨_, List.getElem?_eq_getElem (by have := HLL.out; omega)⟩
      obtain ⟨a, rfl, ha, hx⟩ := HA.out (by omega)
      have hdr := HRR.out j d hd
      have hcell := hx j hlt
      obtain ⟨A1, c1, ea, hc1, hb1, V1, hA1, hr1⟩ := hdr.args
      have HA1 := Lib.hid hA1
      have HR1 := Lib.hid hr1
      have HS1 := Lib.hid (HS.out d (List.mem_of_getElem? hd))
      obtain ⟨la, hla⟩ : ∃ la, la = d.args.length := ⟨_, rfl⟩
      have HLA := Lib.hid hla
      rw [← hla] at ea hc1 hb1 HA1
      have hlab : (la : Int) ≤ 140737488351232 := by unfold big at hb1; omega
      have HN : Hid (R = wds (wda (x + 1) d.args) (l.drop (j + 1))) := Lib.hid (by rw [hq.out.1, drop_at hd, wds, if_pos hle])
      have q1 : wr.cell? ⟨(a.add (j * 2)).block, (a.add (j * 2)).off + 1, none⟩ = some (.slice A1 la c1) := by
        rw [hq.out.2.cell (p := ⟨(a.add (j * 2)).block, (a.add (j * 2)).off + 1, none⟩) (by rw [add_block]; exact ha)]
        exact (hcell 1 (by omega)).trans (by rw [ea])
      have HAB := Lib.hid ha
      have HCL := Lib.hid ((hcell 1 (by omega)).trans (by rw [ea]))
      clear hx hdr hcell hA1 hr1 hla ha ea hb1
      go_wp2_with fail
      clear q1
      go_loopw [5, 7] (fun nn i wr => ∃ (j2 x2 : Nat), j2 ≤ la ∧ i = .int .i64 j2 ∧ nn = .int .i64 x2 ∧ x2 ≤ 1099511700000 ∧ Hid (wda (x + 1) d.args = wda x2 (d.args.drop j2) ∧ Below w.heap.size w wr)) (fun _ i _ => la - (intOf i).toNat)
      case atStart => exact ⟨0, x + 1, Nat.zero_le _, rfl, by go_num, by omega, Lib.hid ⟨rfl, hq.out.2⟩⟩
      case round =>
        obtain ⟨j2, x2, hj2, rfl, rfl, hxb2, hq2⟩ := hrel
        have q1 : wr.cell? ⟨(a.add (j * 2)).block, (a.add (j * 2)).off + 1, none⟩ = some (.slice A1 la c1) := by
          rw [hq2.out.2.cell (p := ⟨(a.add (j * 2)).block, (a.add (j * 2)).off + 1, none⟩) (by rw [add_block]; exact HAB.out)]
          exact HCL.out
        by_cases hgo2 : j2 < la ∧ x2 ≤ 2000
        · obtain ⟨hlt2, hle2⟩ := hgo2
          have hlt2' : (j2 : Int) < la := by omega
          have hle2' : (x2 : Int) ≤ 2000 := by omega
          obtain ⟨y, hy⟩ : ∃ y, d.args[j2]? = some y := ⟨_, List.getElem?_eq_getElem (by have := HLA.out; omega)⟩
          obtain ⟨a1, rfl, ha1, hx1⟩ := HA1.out (by omega)
          have hyr := HR1.out j2 y hy
          obtain ⟨k1, n1, s1, A3, li1, ci1, K1, lk1, ck1, e1, e2, e3, e4, e5⟩ := Rd.form hyr.val
          have hyc := hx1 j2 hlt2
          have hkk : ∀ o, wr.cell? ⟨(a1.add (j2 * 6)).block, o, none⟩ = w.cell? ⟨(a1.add (j2 * 6)).block, o, none⟩ := fun o => hq2.out.2.cell (p := ⟨(a1.add (j2 * 6)).block, o, none⟩) (by rw [add_block]; exact ha1)
          have r1 : wr.cell? ⟨(a1.add (j2 * 6)).block, (a1.add (j2 * 6)).off + 1, none⟩ = some (.int .i64 k1) := (hkk _).trans ((hyc 1 (by omega)).trans (by rw [e1]))
          have r2 : wr.cell? ⟨(a1.add (j2 * 6)).block, (a1.add (j2 * 6)).off + 2, none⟩ = some (.int .i64 n1) := (hkk _).trans ((hyc 2 (by omega)).trans (by rw [e2]))
          have r3 : wr.cell? ⟨(a1.add (j2 * 6)).block, (a1.add (j2 * 6)).off + 3, none⟩ = some (.string s1) := (hkk _).trans ((hyc 3 (by omega)).trans (by rw [e3]))
          have r4 : wr.cell? ⟨(a1.add (j2 * 6)).block, (a1.add (j2 * 6)).off + 4, none⟩ = some (.slice A3 li1 ci1) := (hkk _).trans ((hyc 4 (by omega)).trans (by rw [e4]))
          have r5 : wr.cell? ⟨(a1.add (j2 * 6)).block, (a1.add (j2 * 6)).off + 5, none⟩ = some (.slice K1 lk1 ck1) := (hkk _).trans ((hyc 5 (by omega)).trans (by rw [e5]))
          have hvv : Rd w w.heap.size (.agg #[.int .i64 k1, .int .i64 n1, .string s1, .slice A3 li1 ci1, .slice K1 lk1 ck1]) y.2 := by
            have := hyr.val
            rw [e1, e2, e3, e4, e5] at this
            exact this
          have hsb := HS1.out y (List.mem_of_getElem? hy)
          have hwv := wv_le y.2
          have CALL := Lib.hid (weight_any y.2 wr w.heap.size _ (hvv.kept hq2.out.2) hq2.out.2.size hsb)
          have HM : Hid (wda (x + 1) d.args = wda (x2 + 1 + y.2.wv) (d.args.drop (j2 + 1))) := Lib.hid (by rw [hq2.out.1, drop_at hy, wda, if_pos hle2])
          have hb2 : (y.2.wv : Int) ≤ 1099511627776 := by omega
          generalize y.2.wv = tw at *
          clear hy hyr e1 e2 e3 e4 e5 hyc hkk hvv hsb hwv hx1 ha1
          go_wp2_with fail
          refine CALL.out.mono ?_
          rintro e w5 ⟨rfl, hb5⟩
          have HB5 := Lib.hid (hq2.out.2.trans (hb5.mono hq2.out.2.size))
          clear hb5 q1 r1 r2 r3 r4 r5 CALL
          go_wp2_with fail
          go_roundw
          case rel => exact ⟨j2 + 1, x2 + 1 + tw, by omega, by go_num, by go_num, by omega, Lib.hid ⟨HM.out, HB5.out⟩⟩
          case measure => simp [intOf]; omega
        · have HF : Hid (R = wds x2 (l.drop (j + 1))) := Lib.hid (by
            rw [HN.out, hq2.out.1]
            rcases Nat.lt_or_ge 2000 x2 with h | h
            · rw [wda_big h]
            · rw [List.drop_eq_nil_of_le (by have := HLA.out; omega), wda])
          by_cases hlt2 : j2 < la
          · have hlt2' : (j2 : Int) < la := by omega
            have hle2' : ¬ (x2 : Int) ≤ 2000 := fun h => hgo2 ⟨hlt2, by omega⟩
            clear hgo2
            go_wp2_with fail
            go_roundw
            case rel => exact ⟨j + 1, x2, by omega, by go_num, rfl, hxb2, Lib.hid ⟨HF.out, hq2.out.2⟩⟩
            case measure => simp [intOf]; omega
          · have hlt2' : ¬ (j2 : Int) < la := by omega
            clear hgo2
            go_wp2_with fail
            go_roundw
            case rel => exact ⟨j + 1, x2, by omega, by go_num, rfl, hxb2, Lib.hid ⟨HF.out, hq2.out.2⟩⟩
            case measure => simp [intOf]; omega
    · have HF : Hid (R = x) := Lib.hid (by
        rw [hq.out.1]
        rcases Nat.lt_or_ge 2000 x with h | h
        · rw [wds_big h]
        · rw [List.drop_eq_nil_of_le (by have := HLL.out; omega), wds])
      by_cases hlt : j < ll
      · have hlt' : (j : Int) < ll := by omega
        have hle' : ¬ (x : Int) ≤ 2000 := fun h => hgo ⟨hlt, by omega⟩
        clear hgo
        go_wp2_with fail
        go_ret
        exact ⟨by rw [HF.out]; rfl, hq.out.2⟩
      · have hlt' : ¬ (j : Int) < ll := by omega
        clear hgo
        go_wp2_with fail
        go_ret
        exact ⟨by rw [HF.out]; rfl, hq.out.2⟩
end Go.Proofs.YtajljnehlncjhaaGreatDoor
namespace Go.Proofs.YtajljnehlncjhaaGreatDoor
open Go.RowKit Go.ChangeShapes Go.WideShapes
theorem at_add (b : Addr) (j : Nat) : b.add j = at_ b j := by cases j <;> rfl
theorem bulk_mem {H : Type} : ∀ (l : List (DataW H)) (d : DataW H), d ∈ l → Rows.uptoBulk d ≤ Rows.uptoBulkAll l
  | a :: r, d, h => by
    rw [Rows.uptoBulkAll]
    rcases List.mem_cons.1 h with rfl | h
    · omega
    · have := bulk_mem r d h; omega
section
variable {H : Type} {enc : TypeId × Value → H} {w : World} {spare : Nat → Bool} {held : Bool}
set_option maxRecDepth 100000 in
theorem open_rows {α : Type} (T SL : TypeId) (k bytes : Nat) (R : World → Nat → (Nat → Value) → α → Prop) (S : α → Prop) (hu : Tryz.prog.underlying SL = some (.slice T)) (hk : Tryz.prog.cellsOf T = k) (hk0 : 0 < k) (hb : Tryz.prog.bytesOf T = bytes) (dflt : α)
    (hel : ∀ (fuel : Nat) (cs : List Value) (x : DataW H × List MemPlace), DataW.trod enc Tryz.prog w 0 spare held fuel T cs = some x → (∀ n ∈ x.1.weights Tryz.prog T, n ≤ reachBytes) → ∃ (f : Nat → Value) (y : α), cs = (List.range k).map f ∧ R w w.heap.size f y ∧ (Rows.uptoBulk x.1 ≤ 1099511627776 → S y))
    {fuel : Nat} {cs : List Value} {x : DataW H × List MemPlace} (h : DataW.trod enc Tryz.prog w 0 spare held fuel SL cs = some x) (hw : ∀ n ∈ x.1.weights Tryz.prog SL, n ≤ reachBytes) :
    ∃ (A : Option Addr) (l c : Nat) (ys : List α), cs = [.slice A l c] ∧ Sl k bytes R w w.heap.size (.slice A l c) ys ∧ (Rows.uptoBulk x.1 ≤ 1099511627776 → ∀ y ∈ ys, S y) := by
  rcases DataW.trod_slice hu h with ⟨e3, _⟩ | ⟨a, len, cap, elems, rest, m, rfl, e3, rfl, _, hlc, hcm, hle, hat, hsp, hns⟩
  · exact ⟨_, _, _, [], e3, ⟨none, 0, rfl, Nat.le_refl _, by simp, fun _ _ => undef, fun h0 => absurd h0 (by simp), fun i y hy => by simp at hy⟩, fun _ y hy => by cases hy⟩
  · have hw3 : ∀ d ∈ elems.map (·.1), ∀ q ∈ d.weights Tryz.prog T, q ≤ reachBytes := by
      intro d hd q hq
      refine hw q ?_
      simp only [DataW.weights, hu, List.mem_append, List.mem_cons]
      exact .inr (.inl (weights_all hd q hq))
    have hb3 : len * bytes ≤ 140737488355328 - 4096 := by
      have := hw ((elems.length + rest.length) * bytes) (by
        simp only [DataW.weights, hu, List.mem_append, List.mem_cons, hb, List.length_map]
        simp)
      unfold reachBytes at this
      rw [hle] at this
      have h2 : len * bytes ≤ (len + rest.length) * bytes := Nat.mul_le_mul_right _ (by omega)
      omega
    rw [hk] at hat
    have hitem : ∀ i, i < len → ∃ T2 : (Nat → Value) × α, (∀ j, j < k → w.cell? (at_ (a.add (i * k)) j) = some (T2.1 j)) ∧ R w w.heap.size T2.1 T2.2 ∧ (Rows.uptoBulkAll (elems.map (·.1)) ≤ 1099511627776 → S T2.2) := by
      intro i hi
      have h1 := hat i hi
      have hlt : i < elems.length := by omega
      rw [List.getElem?_eq_getElem hlt, Option.bind_eq_some_iff] at h1
      obtain ⟨cs', hc, ht⟩ := h1
      have hmem := List.mem_map_of_mem (f := fun q : DataW H × List MemPlace => q.1) (List.getElem_mem hlt)
      obtain ⟨f, y, rfl, hr, hs⟩ := hel m cs' _ ht (hw3 _ hmem)
      obtain ⟨_, _, hg⟩ := World.cells?_some hc
      refine ⟨⟨f, y⟩, fun j hj => ?_, hr, fun hbk => hs (Nat.le_trans (bulk_mem _ _ hmem) hbk)⟩
      rw [← at_add, hg j hj]
      simp [hj]
    obtain ⟨T2, hT⟩ : ∃ T2 : Nat → (Nat → Value) × α, ∀ i, i < len → (∀ j, j < k → w.cell? (at_ (a.add (i * k)) j) = some ((T2 i).1 j)) ∧ R w w.heap.size (T2 i).1 (T2 i).2 ∧ (Rows.uptoBulkAll (elems.map (·.1)) ≤ 1099511627776 → S (T2 i).2) := by
      refine ⟨fun i => if h : i < len then (hitem i h).choose else (fun _ => undef, dflt), fun i h => ?_⟩
      simp only [dif_pos h]
      exact (hitem i h).choose_spec
    refine ⟨some a, len, cap, (List.range len).map fun i => (T2 i).2, e3, ⟨some a, cap, by simp, by simpa using hlc, by simp; unfold big; omega, fun i => (T2 i).1, fun h0 => ⟨a, rfl, ?_, fun i hi j hj => (hT i (by simpa using hi)).1 j hj⟩, fun i y hi => ?_⟩, fun hbk y hy => ?_⟩
    · have := lt_cell ((hT 0 (by simpa using h0)).1 0 hk0)
      rwa [at_block, add_block] at this
    · have hlt : i < len := by simpa using (List.getElem?_eq_some_iff.1 hi).1
      simp [hlt] at hi
      subst hi
      exact (hT i hlt).2.1
    · obtain ⟨i, hi, rfl⟩ := List.mem_map.1 hy
      refine (hT i (List.mem_range.1 hi)).2.2 ?_
      simp only [Rows.uptoBulk] at hbk
      omega
theorem cellsLapi_Arg : Tryz.prog.cellsOf 106 = 1 := by kernel_rfl
theorem cellsLapi_Dir : Tryz.prog.cellsOf 40 = 1 := by kernel_rfl
theorem cellsLapi_Field : Tryz.prog.cellsOf 41 = 1 := by kernel_rfl
theorem cellsLapi_Input : Tryz.prog.cellsOf 43 = 1 := by kernel_rfl
theorem cellsLapi_Member : Tryz.prog.cellsOf 42 = 1 := by kernel_rfl
theorem cellsLstring : Tryz.prog.cellsOf 39 = 1 := by kernel_rfl
theorem cellsapi_Arg : Tryz.prog.cellsOf 111 = 6 := by kernel_rfl
theorem cellsapi_Def : Tryz.prog.cellsOf 45 = 7 := by kernel_rfl
theorem cellsapi_Dir : Tryz.prog.cellsOf 108 = 2 := by kernel_rfl
theorem cellsapi_Field : Tryz.prog.cellsOf 50 = 5 := by kernel_rfl
theorem cellsapi_Input : Tryz.prog.cellsOf 55 = 10 := by kernel_rfl
theorem cellsapi_Member : Tryz.prog.cellsOf 78 = 2 := by kernel_rfl
theorem cellsapi_Ref : Tryz.prog.cellsOf 48 = 2 := by kernel_rfl
theorem cellsapi_Value : Tryz.prog.cellsOf 53 = 5 := by kernel_rfl
theorem cellsbool : Tryz.prog.cellsOf 4 = 1 := by kernel_rfl
theorem cellsint : Tryz.prog.cellsOf 3 = 1 := by kernel_rfl
theorem cellsstring : Tryz.prog.cellsOf 9 = 1 := by kernel_rfl
set_option maxRecDepth 100000 in
theorem open_rf {fuel : Nat} {cs : List Value} {x : DataW H × List MemPlace} (h : DataW.trod enc Tryz.prog w 0 spare held fuel 48 cs = some x) (hw : ∀ n ∈ x.1.weights Tryz.prog 48, n ≤ reachBytes) :
    ∃ (c0 c1 : Value) (n : ByteArray) (xs : List Int), cs = [c0, c1] ∧ RfR w w.heap.size c0 c1 n xs := by
  obtain ⟨xs, n, rfl, rfl, hl, hxl, hf⟩ := DataW.trod_struct Tryz.underlying48 h
  rw [cellsapi_Ref] at hl
  match cs, hl, xs, hxl with
  | [c0, c1], _, [x0, x1], _ =>
  have f0 : DataW.trod enc Tryz.prog w 0 spare held n 9 [c0] = some x0 := by
    have this : DataW.trod enc Tryz.prog w 0 spare held n 9 (([c0, c1].drop 0).take (Tryz.prog.cellsOf 9)) = some x0 := hf 0 _ rfl
    rw [cellsstring] at this; exact this
  have f1 : DataW.trod enc Tryz.prog w 0 spare held n 46 [c1] = some x1 := by
    have this : DataW.trod enc Tryz.prog w 0 spare held n 46 (([c0, c1].drop 1).take (Tryz.prog.cellsOf 46)) = some x1 := hf 1 _ rfl
    rw [show Tryz.prog.cellsOf 46 = 1 by kernel_rfl] at this; exact this
  obtain ⟨s, e0, rfl, hs⟩ := DataW.trod_string Tryz.underlying9 f0
  have hw' : ∀ q ∈ ((Lit.string s.data.toList |> (.lit : Lit → DataW H)).weights Tryz.prog 9 ++ (x1.1.weights Tryz.prog 46 ++ [])), q ≤ reachBytes := by
    intro q hq
    refine hw q ?_
    simpa only [DataW.weights, Tryz.underlying48, DataW.weightsEach, List.map_cons, List.map_nil] using hq
  have hss : s.size ≤ 140737488351232 := by
    have := hw' s.data.toList.length (by simp [DataW.weights])
    unfold reachBytes at this
    rw [size_eq] at this; exact this
  obtain ⟨A, l, c, ys, e1, hsl, _⟩ := open_rows (enc := enc) (spare := spare) (held := held) 3 46 1 8 IntR (fun _ => True) Tryz.underlying46 cellsint (by decide) (by kernel_rfl) 0
    (fun fuel cs x hx _ => by
      obtain ⟨k0, e, rfl, wf0⟩ := DataW.trod_int Tryz.underlying3 hx
      exact ⟨fun _ => .int .i64 k0, k0, e, ⟨rfl, small_of wf0⟩, fun _ => trivial⟩) f1 (fun q hq => hw' q (by simp [hq]))
  simp only [List.cons.injEq, and_true] at e0 e1
  subst e0 e1
  exact ⟨_, _, s, ys, rfl, ⟨rfl, hss, hsl⟩⟩
set_option maxRecDepth 100000 in
theorem open_Arg (fuel : Nat) (cs : List Value) (x : DataW H × List MemPlace) (h : DataW.trod enc Tryz.prog w 0 spare held fuel 111 cs = some x) (hw : ∀ n ∈ x.1.weights Tryz.prog 111, n ≤ reachBytes) :
    ∃ (f : Nat → Value) (y : (ByteArray × VT)), cs = (List.range 6).map f ∧ ArgR w w.heap.size f y ∧ (Rows.uptoBulk x.1 ≤ 1099511627776 → (fun y => y.2.bw ≤ 1099511627776) y) := by
  obtain ⟨xs, n, rfl, rfl, hl, hxl, hf⟩ := DataW.trod_struct Tryz.underlying111 h
  rw [cellsapi_Arg] at hl
  match cs, hl, xs, hxl with
  | [c0, c1, c2, c3, c4, c5], _, [x0, x1], _ =>
  have f0 : DataW.trod enc Tryz.prog w 0 spare held n 9 [c0] = some x0 := by
    have this : DataW.trod enc Tryz.prog w 0 spare held n 9 (([c0, c1, c2, c3, c4, c5].drop 0).take (Tryz.prog.cellsOf 9)) = some x0 := hf 0 _ rfl
    rw [cellsstring] at this; exact this
  have f1 : DataW.trod enc Tryz.prog w 0 spare held n 53 [c1, c2, c3, c4, c5] = some x1 := by
    have this : DataW.trod enc Tryz.prog w 0 spare held n 53 (([c0, c1, c2, c3, c4, c5].drop 1).take (Tryz.prog.cellsOf 53)) = some x1 := hf 1 _ rfl
    rw [cellsapi_Value] at this; exact this
  obtain ⟨s0, e0, rfl, hs0⟩ := DataW.trod_string Tryz.underlying9 f0
  have hw' : ∀ q ∈ (((Lit.string s0.data.toList |> (.lit : Lit → DataW H)).weights Tryz.prog 9) ++ ((x1.1.weights Tryz.prog 53) ++ [])), q ≤ reachBytes := by
    intro q hq
    refine hw q ?_
    simpa only [DataW.weights, Tryz.underlying111, DataW.weightsEach, List.map_cons, List.map_nil] using hq
  have hz0 : s0.size ≤ 140737488351232 := by
    have := hw' s0.data.toList.length (by simp [DataW.weights])
    unfold reachBytes at this
    rw [size_eq] at this; exact this
  obtain ⟨d0, d1, d2, d3, d4, t1, e1, hrd1, hbk1⟩ := open_tree_b n f1 (fun q hq => hw' q (by simp [hq]))
  simp only [List.cons.injEq, and_true] at e0 e1
  subst e0
  obtain ⟨rfl, rfl, rfl, rfl, rfl⟩ := e1
  refine ⟨fun j => ([Value.string s0, c1, c2, c3, c4, c5] : List Value).getD j undef, (s0, t1), rfl, ?_, fun hB => ?_⟩
  · exact ⟨rfl, hz0, hrd1⟩
  · exact by show t1.bw ≤ _; have := hbk1; simp only [Rows.uptoBulk, Rows.uptoBulkAll, List.map_cons, List.map_nil] at hB; omega
def ArgT0 : (ByteArray × VT) := (⟨#[]⟩, .mk 0 0 ⟨#[]⟩ [] [])
set_option maxRecDepth 100000 in
theorem open_Dir (fuel : Nat) (cs : List Value) (x : DataW H × List MemPlace) (h : DataW.trod enc Tryz.prog w 0 spare held fuel 108 cs = some x) (hw : ∀ n ∈ x.1.weights Tryz.prog 108, n ≤ reachBytes) :
    ∃ (f : Nat → Value) (y : DirT), cs = (List.range 2).map f ∧ DirR w w.heap.size f y ∧ (Rows.uptoBulk x.1 ≤ 1099511627776 → (fun y => argsS y.args) y) := by
  obtain ⟨xs, n, rfl, rfl, hl, hxl, hf⟩ := DataW.trod_struct Tryz.underlying108 h
  rw [cellsapi_Dir] at hl
  match cs, hl, xs, hxl with
  | [c0, c1], _, [x0, x1], _ =>
  have f0 : DataW.trod enc Tryz.prog w 0 spare held n 9 [c0] = some x0 := by
    have this : DataW.trod enc Tryz.prog w 0 spare held n 9 (([c0, c1].drop 0).take (Tryz.prog.cellsOf 9)) = some x0 := hf 0 _ rfl
    rw [cellsstring] at this; exact this
  have f1 : DataW.trod enc Tryz.prog w 0 spare held n 106 [c1] = some x1 := by
    have this : DataW.trod enc Tryz.prog w 0 spare held n 106 (([c0, c1].drop 1).take (Tryz.prog.cellsOf 106)) = some x1 := hf 1 _ rfl
    rw [cellsLapi_Arg] at this; exact this
  obtain ⟨s0, e0, rfl, hs0⟩ := DataW.trod_string Tryz.underlying9 f0
  have hw' : ∀ q ∈ (((Lit.string s0.data.toList |> (.lit : Lit → DataW H)).weights Tryz.prog 9) ++ ((x1.1.weights Tryz.prog 106) ++ [])), q ≤ reachBytes := by
    intro q hq
    refine hw q ?_
    simpa only [DataW.weights, Tryz.underlying108, DataW.weightsEach, List.map_cons, List.map_nil] using hq
  have hz0 : s0.size ≤ 140737488351232 := by
    have := hw' s0.data.toList.length (by simp [DataW.weights])
    unfold reachBytes at this
    rw [size_eq] at this; exact this
  obtain ⟨A1, l1, cc1, ys1, e1, hsl1, hS1⟩ := open_rows (enc := enc) (spare := spare) (held := held) 111 106 6 96 ArgR (fun y => y.2.bw ≤ 1099511627776) Tryz.underlying106 cellsapi_Arg (by decide) (by kernel_rfl) ArgT0 open_Arg f1 (fun q hq => hw' q (by simp [hq]))
  simp only [List.cons.injEq, and_true] at e0 e1
  subst e0
  subst e1
  refine ⟨fun j => ([Value.string s0, Value.slice A1 l1 cc1] : List Value).getD j undef, ⟨s0, ys1⟩, rfl, ?_, fun hB => ?_⟩
  · exact ⟨rfl, hz0, hsl1⟩
  · exact hS1 (by simp only [Rows.uptoBulk, Rows.uptoBulkAll, List.map_cons, List.map_nil] at hB; omega)
def DirT0 : DirT := ⟨⟨#[]⟩, []⟩
set_option maxRecDepth 100000 in
theorem open_Inp (fuel : Nat) (cs : List Value) (x : DataW H × List MemPlace) (h : DataW.trod enc Tryz.prog w 0 spare held fuel 55 cs = some x) (hw : ∀ n ∈ x.1.weights Tryz.prog 55, n ≤ reachBytes) :
    ∃ (f : Nat → Value) (y : InpT), cs = (List.range 10).map f ∧ InpR w w.heap.size f y ∧ (Rows.uptoBulk x.1 ≤ 1099511627776 → (fun x => x.dflt.bw ≤ 1099511627776 ∧ dirsS x.dirs ∧ x.tw.length ≤ 17592186044416) y) := by
  obtain ⟨xs, n, rfl, rfl, hl, hxl, hf⟩ := DataW.trod_struct Tryz.underlying55 h
  rw [cellsapi_Input] at hl
  match cs, hl, xs, hxl with
  | [c0, c1, c2, c3, c4, c5, c6, c7, c8, c9], _, [x0, x1, x2, x3, x4], _ =>
  have f0 : DataW.trod enc Tryz.prog w 0 spare held n 9 [c0] = some x0 := by
    have this : DataW.trod enc Tryz.prog w 0 spare held n 9 (([c0, c1, c2, c3, c4, c5, c6, c7, c8, c9].drop 0).take (Tryz.prog.cellsOf 9)) = some x0 := hf 0 _ rfl
    rw [cellsstring] at this; exact this
  have f1 : DataW.trod enc Tryz.prog w 0 spare held n 48 [c1, c2] = some x1 := by
    have this : DataW.trod enc Tryz.prog w 0 spare held n 48 (([c0, c1, c2, c3, c4, c5, c6, c7, c8, c9].drop 1).take (Tryz.prog.cellsOf 48)) = some x1 := hf 1 _ rfl
    rw [cellsapi_Ref] at this; exact this
  have f2 : DataW.trod enc Tryz.prog w 0 spare held n 4 [c3] = some x2 := by
    have this : DataW.trod enc Tryz.prog w 0 spare held n 4 (([c0, c1, c2, c3, c4, c5, c6, c7, c8, c9].drop 3).take (Tryz.prog.cellsOf 4)) = some x2 := hf 2 _ rfl
    rw [cellsbool] at this; exact this
  have f3 : DataW.trod enc Tryz.prog w 0 spare held n 53 [c4, c5, c6, c7, c8] = some x3 := by
    have this : DataW.trod enc Tryz.prog w 0 spare held n 53 (([c0, c1, c2, c3, c4, c5, c6, c7, c8, c9].drop 4).take (Tryz.prog.cellsOf 53)) = some x3 := hf 3 _ rfl
    rw [cellsapi_Value] at this; exact this
  have f4 : DataW.trod enc Tryz.prog w 0 spare held n 40 [c9] = some x4 := by
    have this : DataW.trod enc Tryz.prog w 0 spare held n 40 (([c0, c1, c2, c3, c4, c5, c6, c7, c8, c9].drop 9).take (Tryz.prog.cellsOf 40)) = some x4 := hf 4 _ rfl
    rw [cellsLapi_Dir] at this; exact this
  obtain ⟨s0, e0, rfl, hs0⟩ := DataW.trod_string Tryz.underlying9 f0
  obtain ⟨b2, e2, rfl⟩ := DataW.trod_bool Tryz.underlying4 f2
  have hw' : ∀ q ∈ (((Lit.string s0.data.toList |> (.lit : Lit → DataW H)).weights Tryz.prog 9) ++ ((x1.1.weights Tryz.prog 48) ++ (((Lit.bool b2 |> (.lit : Lit → DataW H)).weights Tryz.prog 4) ++ ((x3.1.weights Tryz.prog 53) ++ ((x4.1.weights Tryz.prog 40) ++ []))))), q ≤ reachBytes := by
    intro q hq
    refine hw q ?_
    simpa only [DataW.weights, Tryz.underlying55, DataW.weightsEach, List.map_cons, List.map_nil] using hq
  have hz0 : s0.size ≤ 140737488351232 := by
    have := hw' s0.data.toList.length (by simp [DataW.weights])
    unfold reachBytes at this
    rw [size_eq] at this; exact this
  obtain ⟨r0, r1, n1, ws1, e1, hrf1⟩ := open_rf f1 (fun q hq => hw' q (by simp [hq]))
  obtain ⟨d0, d1, d2, d3, d4, t3, e3, hrd3, hbk3⟩ := open_tree_b n f3 (fun q hq => hw' q (by simp [hq]))
  obtain ⟨A4, l4, cc4, ys4, e4, hsl4, hS4⟩ := open_rows (enc := enc) (spare := spare) (held := held) 108 40 2 40 DirR (fun y => argsS y.args) Tryz.underlying40 cellsapi_Dir (by decide) (by kernel_rfl) DirT0 open_Dir f4 (fun q hq => hw' q (by simp [hq]))
  simp only [List.cons.injEq, and_true] at e0 e1 e2 e3 e4
  subst e0
  obtain ⟨rfl, rfl⟩ := e1
  subst e2
  obtain ⟨rfl, rfl, rfl, rfl, rfl⟩ := e3
  subst e4
  refine ⟨fun j => ([Value.string s0, c1, c2, Value.bool b2, c4, c5, c6, c7, c8, Value.slice A4 l4 cc4] : List Value).getD j undef, ⟨s0, n1, ws1, b2, t3, ys4⟩, rfl, ?_, fun hB => ?_⟩
  · exact ⟨rfl, hz0, hrf1, rfl, hrd3, hsl4⟩
  · exact ⟨by show t3.bw ≤ _; have := hbk3; simp only [Rows.uptoBulk, Rows.uptoBulkAll, List.map_cons, List.map_nil] at hB; omega, hS4 (by simp only [Rows.uptoBulk, Rows.uptoBulkAll, List.map_cons, List.map_nil] at hB; omega), by obtain ⟨_, _, _, _, h8⟩ := hrf1.wraps.form; show ws1.length ≤ _; unfold big at h8; omega⟩
def InpT0 : InpT := ⟨⟨#[]⟩, ⟨#[]⟩, [], false, .mk 0 0 ⟨#[]⟩ [] [], []⟩
set_option maxRecDepth 100000 in
theorem open_Fld (fuel : Nat) (cs : List Value) (x : DataW H × List MemPlace) (h : DataW.trod enc Tryz.prog w 0 spare held fuel 50 cs = some x) (hw : ∀ n ∈ x.1.weights Tryz.prog 50, n ≤ reachBytes) :
    ∃ (f : Nat → Value) (y : FldT), cs = (List.range 5).map f ∧ FldR w w.heap.size f y ∧ (Rows.uptoBulk x.1 ≤ 1099511627776 → (fun x => inpsS x.args ∧ dirsS x.dirs ∧ x.tw.length ≤ 17592186044416) y) := by
  obtain ⟨xs, n, rfl, rfl, hl, hxl, hf⟩ := DataW.trod_struct Tryz.underlying50 h
  rw [cellsapi_Field] at hl
  match cs, hl, xs, hxl with
  | [c0, c1, c2, c3, c4], _, [x0, x1, x2, x3], _ =>
  have f0 : DataW.trod enc Tryz.prog w 0 spare held n 9 [c0] = some x0 := by
    have this : DataW.trod enc Tryz.prog w 0 spare held n 9 (([c0, c1, c2, c3, c4].drop 0).take (Tryz.prog.cellsOf 9)) = some x0 := hf 0 _ rfl
    rw [cellsstring] at this; exact this
  have f1 : DataW.trod enc Tryz.prog w 0 spare held n 43 [c1] = some x1 := by
    have this : DataW.trod enc Tryz.prog w 0 spare held n 43 (([c0, c1, c2, c3, c4].drop 1).take (Tryz.prog.cellsOf 43)) = some x1 := hf 1 _ rfl
    rw [cellsLapi_Input] at this; exact this
  have f2 : DataW.trod enc Tryz.prog w 0 spare held n 48 [c2, c3] = some x2 := by
    have this : DataW.trod enc Tryz.prog w 0 spare held n 48 (([c0, c1, c2, c3, c4].drop 2).take (Tryz.prog.cellsOf 48)) = some x2 := hf 2 _ rfl
    rw [cellsapi_Ref] at this; exact this
  have f3 : DataW.trod enc Tryz.prog w 0 spare held n 40 [c4] = some x3 := by
    have this : DataW.trod enc Tryz.prog w 0 spare held n 40 (([c0, c1, c2, c3, c4].drop 4).take (Tryz.prog.cellsOf 40)) = some x3 := hf 3 _ rfl
    rw [cellsLapi_Dir] at this; exact this
  obtain ⟨s0, e0, rfl, hs0⟩ := DataW.trod_string Tryz.underlying9 f0
  have hw' : ∀ q ∈ (((Lit.string s0.data.toList |> (.lit : Lit → DataW H)).weights Tryz.prog 9) ++ ((x1.1.weights Tryz.prog 43) ++ ((x2.1.weights Tryz.prog 48) ++ ((x3.1.weights Tryz.prog 40) ++ [])))), q ≤ reachBytes := by
    intro q hq
    refine hw q ?_
    simpa only [DataW.weights, Tryz.underlying50, DataW.weightsEach, List.map_cons, List.map_nil] using hq
  have hz0 : s0.size ≤ 140737488351232 := by
    have := hw' s0.data.toList.length (by simp [DataW.weights])
    unfold reachBytes at this
    rw [size_eq] at this; exact this
  obtain ⟨A1, l1, cc1, ys1, e1, hsl1, hS1⟩ := open_rows (enc := enc) (spare := spare) (held := held) 55 43 10 168 InpR (fun x => x.dflt.bw ≤ 1099511627776 ∧ dirsS x.dirs ∧ x.tw.length ≤ 17592186044416) Tryz.underlying43 cellsapi_Input (by decide) (by kernel_rfl) InpT0 open_Inp f1 (fun q hq => hw' q (by simp [hq]))
  obtain ⟨r0, r1, n2, ws2, e2, hrf2⟩ := open_rf f2 (fun q hq => hw' q (by simp [hq]))
  obtain ⟨A3, l3, cc3, ys3, e3, hsl3, hS3⟩ := open_rows (enc := enc) (spare := spare) (held := held) 108 40 2 40 DirR (fun y => argsS y.args) Tryz.underlying40 cellsapi_Dir (by decide) (by kernel_rfl) DirT0 open_Dir f3 (fun q hq => hw' q (by simp [hq]))
  simp only [List.cons.injEq, and_true] at e0 e1 e2 e3
  subst e0
  subst e1
  obtain ⟨rfl, rfl⟩ := e2
  subst e3
  refine ⟨fun j => ([Value.string s0, Value.slice A1 l1 cc1, c2, c3, Value.slice A3 l3 cc3] : List Value).getD j undef, ⟨s0, ys1, n2, ws2, ys3⟩, rfl, ?_, fun hB => ?_⟩
  · exact ⟨rfl, hz0, hsl1, hrf2, hsl3⟩
  · exact ⟨hS1 (by simp only [Rows.uptoBulk, Rows.uptoBulkAll, List.map_cons, List.map_nil] at hB; omega), hS3 (by simp only [Rows.uptoBulk, Rows.uptoBulkAll, List.map_cons, List.map_nil] at hB; omega), by obtain ⟨_, _, _, _, h8⟩ := hrf2.wraps.form; show ws2.length ≤ _; unfold big at h8; omega⟩
def FldT0 : FldT := ⟨⟨#[]⟩, [], ⟨#[]⟩, [], []⟩
set_option maxRecDepth 100000 in
theorem open_Mem (fuel : Nat) (cs : List Value) (x : DataW H × List MemPlace) (h : DataW.trod enc Tryz.prog w 0 spare held fuel 78 cs = some x) (hw : ∀ n ∈ x.1.weights Tryz.prog 78, n ≤ reachBytes) :
    ∃ (f : Nat → Value) (y : MemT), cs = (List.range 2).map f ∧ MemR w w.heap.size f y ∧ (Rows.uptoBulk x.1 ≤ 1099511627776 → (fun x => dirsS x.dirs) y) := by
  obtain ⟨xs, n, rfl, rfl, hl, hxl, hf⟩ := DataW.trod_struct Tryz.underlying78 h
  rw [cellsapi_Member] at hl
  match cs, hl, xs, hxl with
  | [c0, c1], _, [x0, x1], _ =>
  have f0 : DataW.trod enc Tryz.prog w 0 spare held n 9 [c0] = some x0 := by
    have this : DataW.trod enc Tryz.prog w 0 spare held n 9 (([c0, c1].drop 0).take (Tryz.prog.cellsOf 9)) = some x0 := hf 0 _ rfl
    rw [cellsstring] at this; exact this
  have f1 : DataW.trod enc Tryz.prog w 0 spare held n 40 [c1] = some x1 := by
    have this : DataW.trod enc Tryz.prog w 0 spare held n 40 (([c0, c1].drop 1).take (Tryz.prog.cellsOf 40)) = some x1 := hf 1 _ rfl
    rw [cellsLapi_Dir] at this; exact this
  obtain ⟨s0, e0, rfl, hs0⟩ := DataW.trod_string Tryz.underlying9 f0
  have hw' : ∀ q ∈ (((Lit.string s0.data.toList |> (.lit : Lit → DataW H)).weights Tryz.prog 9) ++ ((x1.1.weights Tryz.prog 40) ++ [])), q ≤ reachBytes := by
    intro q hq
    refine hw q ?_
    simpa only [DataW.weights, Tryz.underlying78, DataW.weightsEach, List.map_cons, List.map_nil] using hq
  have hz0 : s0.size ≤ 140737488351232 := by
    have := hw' s0.data.toList.length (by simp [DataW.weights])
    unfold reachBytes at this
    rw [size_eq] at this; exact this
  obtain ⟨A1, l1, cc1, ys1, e1, hsl1, hS1⟩ := open_rows (enc := enc) (spare := spare) (held := held) 108 40 2 40 DirR (fun y => argsS y.args) Tryz.underlying40 cellsapi_Dir (by decide) (by kernel_rfl) DirT0 open_Dir f1 (fun q hq => hw' q (by simp [hq]))
  simp only [List.cons.injEq, and_true] at e0 e1
  subst e0
  subst e1
  refine ⟨fun j => ([Value.string s0, Value.slice A1 l1 cc1] : List Value).getD j undef, ⟨s0, ys1⟩, rfl, ?_, fun hB => ?_⟩
  · exact ⟨rfl, hz0, hsl1⟩
  · exact hS1 (by simp only [Rows.uptoBulk, Rows.uptoBulkAll, List.map_cons, List.map_nil] at hB; omega)
def MemT0 : MemT := ⟨⟨#[]⟩, []⟩
set_option maxRecDepth 100000 in
theorem open_Def (fuel : Nat) (cs : List Value) (x : DataW H × List MemPlace) (h : DataW.trod enc Tryz.prog w 0 spare held fuel 45 cs = some x) (hw : ∀ n ∈ x.1.weights Tryz.prog 45, n ≤ reachBytes) :
    ∃ (f : Nat → Value) (y : DefT), cs = (List.range 7).map f ∧ DefR w w.heap.size f y ∧ (Rows.uptoBulk x.1 ≤ 1099511627776 → (fun x => dirsS x.dirs ∧ inpsS x.inputs ∧ fldsS x.fields ∧ memsS x.members ∧ x.impl.length ≤ 17592186044416) y) := by
  obtain ⟨xs, n, rfl, rfl, hl, hxl, hf⟩ := DataW.trod_struct Tryz.underlying45 h
  rw [cellsapi_Def] at hl
  match cs, hl, xs, hxl with
  | [c0, c1, c2, c3, c4, c5, c6], _, [x0, x1, x2, x3, x4, x5, x6], _ =>
  have f0 : DataW.trod enc Tryz.prog w 0 spare held n 3 [c0] = some x0 := by
    have this : DataW.trod enc Tryz.prog w 0 spare held n 3 (([c0, c1, c2, c3, c4, c5, c6].drop 0).take (Tryz.prog.cellsOf 3)) = some x0 := hf 0 _ rfl
    rw [cellsint] at this; exact this
  have f1 : DataW.trod enc Tryz.prog w 0 spare held n 9 [c1] = some x1 := by
    have this : DataW.trod enc Tryz.prog w 0 spare held n 9 (([c0, c1, c2, c3, c4, c5, c6].drop 1).take (Tryz.prog.cellsOf 9)) = some x1 := hf 1 _ rfl
    rw [cellsstring] at this; exact this
  have f2 : DataW.trod enc Tryz.prog w 0 spare held n 39 [c2] = some x2 := by
    have this : DataW.trod enc Tryz.prog w 0 spare held n 39 (([c0, c1, c2, c3, c4, c5, c6].drop 2).take (Tryz.prog.cellsOf 39)) = some x2 := hf 2 _ rfl
    rw [cellsLstring] at this; exact this
  have f3 : DataW.trod enc Tryz.prog w 0 spare held n 40 [c3] = some x3 := by
    have this : DataW.trod enc Tryz.prog w 0 spare held n 40 (([c0, c1, c2, c3, c4, c5, c6].drop 3).take (Tryz.prog.cellsOf 40)) = some x3 := hf 3 _ rfl
    rw [cellsLapi_Dir] at this; exact this
  have f4 : DataW.trod enc Tryz.prog w 0 spare held n 41 [c4] = some x4 := by
    have this : DataW.trod enc Tryz.prog w 0 spare held n 41 (([c0, c1, c2, c3, c4, c5, c6].drop 4).take (Tryz.prog.cellsOf 41)) = some x4 := hf 4 _ rfl
    rw [cellsLapi_Field] at this; exact this
  have f5 : DataW.trod enc Tryz.prog w 0 spare held n 42 [c5] = some x5 := by
    have this : DataW.trod enc Tryz.prog w 0 spare held n 42 (([c0, c1, c2, c3, c4, c5, c6].drop 5).take (Tryz.prog.cellsOf 42)) = some x5 := hf 5 _ rfl
    rw [cellsLapi_Member] at this; exact this
  have f6 : DataW.trod enc Tryz.prog w 0 spare held n 43 [c6] = some x6 := by
    have this : DataW.trod enc Tryz.prog w 0 spare held n 43 (([c0, c1, c2, c3, c4, c5, c6].drop 6).take (Tryz.prog.cellsOf 43)) = some x6 := hf 6 _ rfl
    rw [cellsLapi_Input] at this; exact this
  obtain ⟨k0, e0, rfl, wf0⟩ := DataW.trod_int Tryz.underlying3 f0
  obtain ⟨s1, e1, rfl, hs1⟩ := DataW.trod_string Tryz.underlying9 f1
  have hw' : ∀ q ∈ (((Lit.int .i64 k0 |> (.lit : Lit → DataW H)).weights Tryz.prog 3) ++ (((Lit.string s1.data.toList |> (.lit : Lit → DataW H)).weights Tryz.prog 9) ++ ((x2.1.weights Tryz.prog 39) ++ ((x3.1.weights Tryz.prog 40) ++ ((x4.1.weights Tryz.prog 41) ++ ((x5.1.weights Tryz.prog 42) ++ ((x6.1.weights Tryz.prog 43) ++ []))))))), q ≤ reachBytes := by
    intro q hq
    refine hw q ?_
    simpa only [DataW.weights, Tryz.underlying45, DataW.weightsEach, List.map_cons, List.map_nil] using hq
  have hz1 : s1.size ≤ 140737488351232 := by
    have := hw' s1.data.toList.length (by simp [DataW.weights])
    unfold reachBytes at this
    rw [size_eq] at this; exact this
  obtain ⟨A2, l2, cc2, ys2, e2, hsl2, _⟩ := open_rows (enc := enc) (spare := spare) (held := held) 9 39 1 16 StrR (fun _ => True) Tryz.underlying39 cellsstring (by decide) (by kernel_rfl) ⟨#[]⟩
    (fun fuel cs x hx hwx => by
      obtain ⟨s, e, rfl, hs⟩ := DataW.trod_string Tryz.underlying9 hx
      refine ⟨fun _ => .string s, s, e, ⟨rfl, ?_⟩, fun _ => trivial⟩
      have := hwx s.data.toList.length (by simp [DataW.weights])
      unfold reachBytes at this
      rw [size_eq] at this; exact this) f2 (fun q hq => hw' q (by simp [hq]))
  obtain ⟨A3, l3, cc3, ys3, e3, hsl3, hS3⟩ := open_rows (enc := enc) (spare := spare) (held := held) 108 40 2 40 DirR (fun y => argsS y.args) Tryz.underlying40 cellsapi_Dir (by decide) (by kernel_rfl) DirT0 open_Dir f3 (fun q hq => hw' q (by simp [hq]))
  obtain ⟨A4, l4, cc4, ys4, e4, hsl4, hS4⟩ := open_rows (enc := enc) (spare := spare) (held := held) 50 41 5 104 FldR (fun x => inpsS x.args ∧ dirsS x.dirs ∧ x.tw.length ≤ 17592186044416) Tryz.underlying41 cellsapi_Field (by decide) (by kernel_rfl) FldT0 open_Fld f4 (fun q hq => hw' q (by simp [hq]))
  obtain ⟨A5, l5, cc5, ys5, e5, hsl5, hS5⟩ := open_rows (enc := enc) (spare := spare) (held := held) 78 42 2 40 MemR (fun x => dirsS x.dirs) Tryz.underlying42 cellsapi_Member (by decide) (by kernel_rfl) MemT0 open_Mem f5 (fun q hq => hw' q (by simp [hq]))
  obtain ⟨A6, l6, cc6, ys6, e6, hsl6, hS6⟩ := open_rows (enc := enc) (spare := spare) (held := held) 55 43 10 168 InpR (fun x => x.dflt.bw ≤ 1099511627776 ∧ dirsS x.dirs ∧ x.tw.length ≤ 17592186044416) Tryz.underlying43 cellsapi_Input (by decide) (by kernel_rfl) InpT0 open_Inp f6 (fun q hq => hw' q (by simp [hq]))
  simp only [List.cons.injEq, and_true] at e0 e1 e2 e3 e4 e5 e6
  subst e0
  subst e1
  subst e2
  subst e3
  subst e4
  subst e5
  subst e6
  refine ⟨fun j => ([Value.int .i64 k0, Value.string s1, Value.slice A2 l2 cc2, Value.slice A3 l3 cc3, Value.slice A4 l4 cc4, Value.slice A5 l5 cc5, Value.slice A6 l6 cc6] : List Value).getD j undef, ⟨k0, s1, ys2, ys3, ys4, ys5, ys6⟩, rfl, ?_, fun hB => ?_⟩
  · exact ⟨rfl, small_of wf0, rfl, hz1, hsl2, hsl3, hsl4, hsl5, hsl6⟩
  · exact ⟨hS3 (by simp only [Rows.uptoBulk, Rows.uptoBulkAll, List.map_cons, List.map_nil] at hB; omega), hS6 (by simp only [Rows.uptoBulk, Rows.uptoBulkAll, List.map_cons, List.map_nil] at hB; omega), hS4 (by simp only [Rows.uptoBulk, Rows.uptoBulkAll, List.map_cons, List.map_nil] at hB; omega), hS5 (by simp only [Rows.uptoBulk, Rows.uptoBulkAll, List.map_cons, List.map_nil] at hB; omega), by obtain ⟨_, _, _, _, h8⟩ := hsl2.form; show ys2.length ≤ _; unfold big at h8; omega⟩
def DefT0 : DefT := ⟨0, ⟨#[]⟩, [], [], [], [], []⟩
end
end Go.Proofs.YtajljnehlncjhaaGreatDoor
