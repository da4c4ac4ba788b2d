
/-
  Texts joined: D1Arg D2 KScan KList E0 E1.
-/
import Derived.Test.YthjoelpfmimedaaGreatDoorZj4
import Derived.Test.YthjoelpfmimedaaGreatDoorZj3
import Derived.Test.YthjoelpfmimedaaGreatDoorZj2
namespace Go.Proofs.YthjoelpfmimedaaGreatDoor
open Go.RowKit
set_option maxHeartbeats 2000000 in
theorem withinArg_any (q : Nat) (A : Option Addr) (len c : Nat) (least most : Int) (V : Nat → Nat → Value) (p : Nat → Bool) (w : World) (hlen : len ≤ 140737488351232)
    (hA : 0 < len → ∃ a, A = some a ∧ a.block < w.heap.size ∧ ∀ i, i < len → ∀ j, j < 6 → w.cell? (at_ (a.add (i * 6)) j) = some (V i j))
    (hS : ∀ i, i < len → ∃ (s0 : ByteArray) (n1 : Int) (n2 : Int) (s3 : ByteArray) (A4 : Option Addr) (l4 z4 : Nat) (A5 : Option Addr) (l5 z5 : Nat), V i 0 = .string s0 ∧ V i 1 = .int .i64 n1 ∧ V i 2 = .int .i64 n2 ∧ V i 3 = .string s3 ∧ V i 4 = .slice A4 l4 z4 ∧ V i 5 = .slice A5 l5 z5)
    (hC : ∀ i, i < len → ∀ x : World, Below w.heap.size w x → Calls Tryz.prog 202 (#[(.agg #[(V i 0), (V i 1), (V i 2), (V i 3), (V i 4), (V i 5)])] ++ #[.pointer (some ⟨q, 0, none⟩)]) x fun e w' => e = .returned (.bool (p i)) ∧ Below x.heap.size x w') :
    Calls Tryz.prog 201 #[.slice A len c, .int .i64 least, .int .i64 most, .func (.func 202) #[] #[.pointer (some ⟨q, 0, none⟩)]] w fun e w' => e = .returned (.bool (decide (least ≤ len) && decide (len ≤ most) && decide (∀ i, i < len → p i = true))) ∧ Below w.heap.size w w' := by
  have HA := Lib.hid hA
  have HC := Lib.hid hC
  have HS := Lib.hid hS
  obtain ⟨RB, hRB⟩ : ∃ RB, RB = (decide (least ≤ (len : Int)) && decide ((len : Int) ≤ most) && decide (∀ i, i < len → p i = true)) := ⟨_, rfl⟩
  rw [← hRB]
  have hl : (len : Int) ≤ 140737488351232 := by omega
  clear hA hC hS
  by_cases h1 : (len : Int) < least
  · have HV : Hid (RB = false) := Lib.hid (by rw [hRB, decide_eq_false (by omega : ¬ least ≤ (len : Int))]; rfl)
    clear hlen hl hRB
    go_enter Tryz.func201, Tryz.ntmps201
    go_wp2_with fail
    go_ret
    exact ⟨by rw [HV.out]; rfl, Below.refl _ _⟩
  · by_cases h2 : (len : Int) > most
    · have HV : Hid (RB = false) := Lib.hid (by rw [hRB, decide_eq_false (by omega : ¬ (len : Int) ≤ most)]; simp)
      clear hlen hl hRB
      go_enter Tryz.func201, Tryz.ntmps201
      go_wp2_with fail
      go_ret
      exact ⟨by rw [HV.out]; rfl, Below.refl _ _⟩
    · have HV : Hid (RB = decide (∀ i, i < len → p i = true)) := Lib.hid (by rw [hRB, decide_eq_true (by omega : least ≤ (len : Int)), decide_eq_true (by omega : (len : Int) ≤ most)]; rfl)
      go_enter Tryz.func201, Tryz.ntmps201
      go_wp2_with fail
      clear h1 h2 hRB
      go_loopw [23] (fun u wr => ∃ i : Nat, i ≤ len ∧ u = .int .i64 i ∧ Hid ((∀ j, j < i → p j = true) ∧ Below w.heap.size w wr)) (fun u _ => len - (intOf u).toNat)
      case atStart => exact ⟨0, Nat.zero_le _, rfl, Lib.hid ⟨fun j hj => absurd hj (Nat.not_lt_zero _), Below.refl _ _⟩⟩
      case round =>
        obtain ⟨i, hi, rfl, hr⟩ := hrel
        by_cases hlt : i < len
        · have hlt' : (i : Int) < len := by omega
          obtain ⟨a, rfl, ha, hc0⟩ := HA.out (by omega)
          have hc : ∀ j, j < 6 → wr.cell? (at_ (a.add (i * 6)) j) = some (V i j) := fun j hj => (hr.out.2.cell (by rw [at_block, add_block]; exact ha)).trans (hc0 i hlt j hj)
          have hs := hr.out.2.size
          have k0 : wr.cell? (a.add (i * 6)) = some (V i 0) := hc 0 (by omega)
          have k1 : wr.cell? ⟨(a.add (i * 6)).block, (a.add (i * 6)).off + 1, none⟩ = some (V i 1) := hc 1 (by omega)
          have k2 : wr.cell? ⟨(a.add (i * 6)).block, (a.add (i * 6)).off + 2, none⟩ = some (V i 2) := hc 2 (by omega)
          have k3 : wr.cell? ⟨(a.add (i * 6)).block, (a.add (i * 6)).off + 3, none⟩ = some (V i 3) := hc 3 (by omega)
          have k4 : wr.cell? ⟨(a.add (i * 6)).block, (a.add (i * 6)).off + 4, none⟩ = some (V i 4) := hc 4 (by omega)
          have k5 : wr.cell? ⟨(a.add (i * 6)).block, (a.add (i * 6)).off + 5, none⟩ = some (V i 5) := hc 5 (by omega)
          obtain ⟨s0, n1, n2, s3, A4, l4, z4, A5, l5, z5, e0, e1, e2, e3, e4, e5⟩ := HS.out i hlt
          have HCC := Lib.hid fun x hx => HC.out i hlt x (hr.out.2.trans (Below.mono hx hs))
          clear hc0 hc
          rw [e0] at k0 HCC
          rw [e1] at k1 HCC
          rw [e2] at k2 HCC
          rw [e3] at k3 HCC
          rw [e4] at k4 HCC
          rw [e5] at k5 HCC
          clear e0 e1 e2 e3 e4 e5
          cases hp : p i with
          | true =>
            go_wp2_with fail
            refine (HCC.out _ ((Below.refl _ _).alloc (Nat.le_refl _) _)).mono ?_
            rintro e w1 ⟨rfl, hb⟩
            rw [hp]
            have HB1 := Lib.hid (hr.out.2.trans (Below.mono (((Below.refl _ _).alloc (Nat.le_refl _) _ : Below wr.heap.size wr _).trans (Below.mono hb (by simp))) hs))
            have HAL : Hid (∀ j, j < i + 1 → p j = true) := Lib.hid (fun j hj => by
              rcases Nat.lt_or_ge j i with h | h
              · exact hr.out.1 j h
              · have : j = i := by omega
                rw [this]; exact hp)
            clear hb
            go_wp2_with fail
            go_roundw
            case rel => exact ⟨i + 1, by omega, by simp, Lib.hid ⟨HAL.out, HB1.out⟩⟩
            case measure => simp [intOf]; omega
          | false =>
            go_wp2_with fail
            refine (HCC.out _ ((Below.refl _ _).alloc (Nat.le_refl _) _)).mono ?_
            rintro e w1 ⟨rfl, hb⟩
            rw [hp]
            have HB1 := Lib.hid (hr.out.2.trans (Below.mono (((Below.refl _ _).alloc (Nat.le_refl _) _ : Below wr.heap.size wr _).trans (Below.mono hb (by simp))) hs))
            have HVF : Hid (decide (∀ i, i < len → p i = true) = false) := Lib.hid (decide_eq_false fun h => by rw [h i hlt] at hp; cases hp)
            clear hb
            go_wp2_with fail
            go_ret
            exact ⟨by rw [HV.out, HVF.out]; rfl, HB1.out⟩
        · have : i = len := by omega
          subst this
          have HVT : Hid (decide (∀ j, j < i → p j = true) = true) := Lib.hid (decide_eq_true hr.out.1)
          go_wp2_with fail
          go_ret
          exact ⟨by rw [HV.out, HVT.out]; rfl, hr.out.2⟩
end Go.Proofs.YthjoelpfmimedaaGreatDoor
namespace Go.Proofs.YthjoelpfmimedaaGreatDoor
open Go.RowKit
def Bk (W : World) (b : Nat) (cs : Array Value) (T : TypeId) : Prop := W.heap[b]? = some (.cells cs T (0, 0))
theorem Bk.cell {W : World} {b : Nat} {cs : Array Value} {T : TypeId} (h : Bk W b cs T) (i : Nat) (v : Value) (hv : cs[i]? = some v) : W.cell? ⟨b, i, none⟩ = some v := by
  rw [cell_of_row _ _ _ _ _ _ h, hv]
theorem Bk.frz {W : World} {b : Nat} {cs : Array Value} {T : TypeId} (h : Bk W b cs T) (i : Nat) : W.frozen? ⟨b, i, none⟩ = false := by
  unfold Bk at h; simp [World.frozen?, h]
theorem Bk.lt {W : World} {b : Nat} {cs : Array Value} {T : TypeId} (h : Bk W b cs T) : b < W.heap.size := by
  unfold Bk at h
  rcases Nat.lt_or_ge b W.heap.size with h' | h'
  · exact h'
  · rw [Array.getElem?_eq_none h'] at h; cases h
theorem Bk.new (W : World) (cs : Array Value) (T : TypeId) : Bk (W.alloc (.cells cs T (0, 0))) W.heap.size cs T := heap_alloc_new _ _
theorem Bk.stay {W W' : World} {b : Nat} {cs : Array Value} {T : TypeId} (h : Bk W b cs T) (hb : Below W.heap.size W W') : Bk W' b cs T := (hb.block b h.lt).trans h
theorem below_new (w : World) (o : Obj) : Below w.heap.size w (w.alloc o) := (Below.refl _ _).alloc (Nat.le_refl _) _
def inB {α : Type} (least most : Int) (xs : List α) (pr : α → Bool) : Bool := decide (least ≤ (xs.length : Int)) && decide ((xs.length : Int) ≤ most) && xs.all pr
def BP (b : Bool) (w : World) (e : Ending) (w' : World) : Prop := e = .returned (.bool b) ∧ Below w.heap.size w w'
theorem withinStr_t (xs : List ByteArray) (v : Value) (w : World) (least most : Int) (h : Sl 1 16 StrR w w.heap.size v xs) (pr : ByteArray → Bool) (hC : ∀ (W : World) (f : Nat → Value) (x : ByteArray), StrR W W.heap.size f x → Calls Tryz.prog 43 #[f 0] W (BP (pr x) W)) :
    Calls Tryz.prog 94 #[v, .int .i64 least, .int .i64 most, .func (.func 43) #[] #[]] w (BP (inB least most xs pr) w) := by
  obtain ⟨A, c, rfl, hc, hb, V, hA, hr⟩ := h
  unfold big at hb
  have h1 := withinStr_any A xs.length c least most V (fun i => ((xs[i]?).map pr).getD true) w (by omega) (fun h0 => by simpa using hA h0)
    (fun i hi => by
      have hx := hr i _ (List.getElem?_eq_getElem hi)
      exact ⟨_, hx.1⟩)
    (fun i hi W hW => by
      have hx := List.getElem?_eq_getElem hi
      have h2 := hC W (V i) _ (StrR.stays.mono (StrR.stays.kept (hr i _ hx) hW) hW.size)
      rw [hx]
      exact h2)
  rw [all_at pr xs _ (fun i x hx => by rw [hx]; rfl)] at h1
  exact h1
theorem withinArg_t (q : Nat) (xs : List (ByteArray × VT)) (v : Value) (w : World) (least most : Int) (h : Sl 6 96 ArgR w w.heap.size v xs) (pr : (ByteArray × VT) → Bool) (hC : ∀ (W : World) (f : Nat → Value) (x : (ByteArray × VT)), Below w.heap.size w W → ArgR W W.heap.size f x → Calls Tryz.prog 202 (#[.agg #[f 0, f 1, f 2, f 3, f 4, f 5]] ++ #[.pointer (some ⟨q, 0, none⟩)]) W (BP (pr x) W)) :
    Calls Tryz.prog 201 #[v, .int .i64 least, .int .i64 most, .func (.func 202) #[] #[.pointer (some ⟨q, 0, none⟩)]] w (BP (inB least most xs pr) w) := by
  obtain ⟨A, c, rfl, hc, hb, V, hA, hr⟩ := h
  unfold big at hb
  have h1 := withinArg_any q A xs.length c least most V (fun i => ((xs[i]?).map pr).getD true) w (by omega) hA
    (fun i hi => by
      have hx := hr i _ (List.getElem?_eq_getElem hi)
      obtain ⟨k, n, s, A, li, ci, K, lk, ck, q0, q1, q2, q3, q4⟩ := Rd.form hx.val
      exact ⟨_, _, _, _, _, _, _, _, _, _, hx.name, q0, q1, q2, q3, q4⟩)
    (fun i hi W hW => by
      have hx := List.getElem?_eq_getElem hi
      have h2 := hC W (V i) _ hW (ArgR.stays.mono (ArgR.stays.kept (hr i _ hx) hW) hW.size)
      rw [hx]
      exact h2)
  rw [all_at pr xs _ (fun i x hx => by rw [hx]; rfl)] at h1
  exact h1
theorem withinDir_t (q : Nat) (xs : List DirT) (v : Value) (w : World) (least most : Int) (h : Sl 2 40 DirR w w.heap.size v xs) (pr : DirT → Bool) (hC : ∀ (W : World) (f : Nat → Value) (x : DirT), Below w.heap.size w W → DirR W W.heap.size f x → Calls Tryz.prog 156 (#[.agg #[f 0, f 1]] ++ #[.pointer (some ⟨q, 0, none⟩)]) W (BP (pr x) W)) :
    Calls Tryz.prog 155 #[v, .int .i64 least, .int .i64 most, .func (.func 156) #[] #[.pointer (some ⟨q, 0, none⟩)]] w (BP (inB least most xs pr) w) := by
  obtain ⟨A, c, rfl, hc, hb, V, hA, hr⟩ := h
  unfold big at hb
  have h1 := withinDir_any q A xs.length c least most V (fun i => ((xs[i]?).map pr).getD true) w (by omega) hA
    (fun i hi => by
      have hx := hr i _ (List.getElem?_eq_getElem hi)
      obtain ⟨A, c, q, _, _⟩ := hx.args.form
      exact ⟨_, _, _, _, hx.name, q⟩)
    (fun i hi W hW => by
      have hx := List.getElem?_eq_getElem hi
      have h2 := hC W (V i) _ hW (DirR.stays.mono (DirR.stays.kept (hr i _ hx) hW) hW.size)
      rw [hx]
      exact h2)
  rw [all_at pr xs _ (fun i x hx => by rw [hx]; rfl)] at h1
  exact h1
theorem withinInp_t (xs : List InpT) (v : Value) (w : World) (least most : Int) (h : Sl 10 168 InpR w w.heap.size v xs) (pr : InpT → Bool) (hC : ∀ (W : World) (f : Nat → Value) (x : InpT), InpR W W.heap.size f x → Calls Tryz.prog 99 #[.agg #[f 0, f 1, f 2, f 3, f 4, f 5, f 6, f 7, f 8, f 9]] W (BP (pr x) W)) :
    Calls Tryz.prog 98 #[v, .int .i64 least, .int .i64 most, .func (.func 99) #[] #[]] w (BP (inB least most xs pr) w) := by
  obtain ⟨A, c, rfl, hc, hb, V, hA, hr⟩ := h
  unfold big at hb
  have h1 := withinInp_any A xs.length c least most V (fun i => ((xs[i]?).map pr).getD true) w (by omega) hA
    (fun i hi => by
      have hx := hr i _ (List.getElem?_eq_getElem hi)
      obtain ⟨k, n, s, A, li, ci, K, lk, ck, q0, q1, q2, q3, q4⟩ := Rd.form hx.val
      obtain ⟨A2, c2, p2, _, _⟩ := hx.type.wraps.form
      obtain ⟨A9, c9, p9, _, _⟩ := hx.dirs.form
      exact ⟨_, _, _, _, _, _, _, _, _, _, _, _, _, _, _, _, _, _, hx.name, hx.type.name, p2, hx.has, q0, q1, q2, q3, q4, p9⟩)
    (fun i hi W hW => by
      have hx := List.getElem?_eq_getElem hi
      have h2 := hC W (V i) _ (InpR.stays.mono (InpR.stays.kept (hr i _ hx) hW) hW.size)
      rw [hx]
      exact h2)
  rw [all_at pr xs _ (fun i x hx => by rw [hx]; rfl)] at h1
  exact h1
theorem withinFld_t (xs : List FldT) (v : Value) (w : World) (least most : Int) (h : Sl 5 104 FldR w w.heap.size v xs) (pr : FldT → Bool) (hC : ∀ (W : World) (f : Nat → Value) (x : FldT), FldR W W.heap.size f x → Calls Tryz.prog 96 #[.agg #[f 0, f 1, f 2, f 3, f 4]] W (BP (pr x) W)) :
    Calls Tryz.prog 95 #[v, .int .i64 least, .int .i64 most, .func (.func 96) #[] #[]] w (BP (inB least most xs pr) w) := by
  obtain ⟨A, c, rfl, hc, hb, V, hA, hr⟩ := h
  unfold big at hb
  have h1 := withinFld_any A xs.length c least most V (fun i => ((xs[i]?).map pr).getD true) w (by omega) hA
    (fun i hi => by
      have hx := hr i _ (List.getElem?_eq_getElem hi)
      obtain ⟨A1, c1, p1, _, _⟩ := hx.args.form
      obtain ⟨A3, c3, p3, _, _⟩ := hx.type.wraps.form
      obtain ⟨A4, c4, p4, _, _⟩ := hx.dirs.form
      exact ⟨_, _, _, _, _, _, _, _, _, _, _, hx.name, p1, hx.type.name, p3, p4⟩)
    (fun i hi W hW => by
      have hx := List.getElem?_eq_getElem hi
      have h2 := hC W (V i) _ (FldR.stays.mono (FldR.stays.kept (hr i _ hx) hW) hW.size)
      rw [hx]
      exact h2)
  rw [all_at pr xs _ (fun i x hx => by rw [hx]; rfl)] at h1
  exact h1
theorem withinDef_t (xs : List DefT) (v : Value) (w : World) (least most : Int) (h : Sl 7 144 DefR w w.heap.size v xs) (pr : DefT → Bool) (hC : ∀ (W : World) (f : Nat → Value) (x : DefT), DefR W W.heap.size f x → Calls Tryz.prog 24 #[.agg #[f 0, f 1, f 2, f 3, f 4, f 5, f 6]] W (BP (pr x) W)) :
    Calls Tryz.prog 23 #[v, .int .i64 least, .int .i64 most, .func (.func 24) #[] #[]] w (BP (inB least most xs pr) w) := by
  obtain ⟨A, c, rfl, hc, hb, V, hA, hr⟩ := h
  unfold big at hb
  have h1 := withinDef_any A xs.length c least most V (fun i => ((xs[i]?).map pr).getD true) w (by omega) hA
    (fun i hi => by
      have hx := hr i _ (List.getElem?_eq_getElem hi)
      obtain ⟨A2, c2, p2, _, _⟩ := hx.impl.form
      obtain ⟨A3, c3, p3, _, _⟩ := hx.dirs.form
      obtain ⟨A4, c4, p4, _, _⟩ := hx.fields.form
      obtain ⟨A5, c5, p5, _, _⟩ := hx.members.form
      obtain ⟨A6, c6, p6, _, _⟩ := hx.inputs.form
      exact ⟨_, _, _, _, _, _, _, _, _, _, _, _, _, _, _, _, _, hx.kind, hx.name, p2, p3, p4, p5, p6⟩)
    (fun i hi W hW => by
      have hx := List.getElem?_eq_getElem hi
      have h2 := hC W (V i) _ (DefR.stays.mono (DefR.stays.kept (hr i _ hx) hW) hW.size)
      rw [hx]
      exact h2)
  rw [all_at pr xs _ (fun i x hx => by rw [hx]; rfl)] at h1
  exact h1
theorem withinMemU_t (xs : List MemT) (v : Value) (w : World) (least most : Int) (h : Sl 2 40 MemR w w.heap.size v xs) (pr : MemT → Bool) (hC : ∀ (W : World) (f : Nat → Value) (x : MemT), MemR W W.heap.size f x → Calls Tryz.prog 92 #[.agg #[f 0, f 1]] W (BP (pr x) W)) :
    Calls Tryz.prog 97 #[v, .int .i64 least, .int .i64 most, .func (.func 92) #[] #[]] w (BP (inB least most xs pr) w) := by
  obtain ⟨A, c, rfl, hc, hb, V, hA, hr⟩ := h
  unfold big at hb
  have h1 := withinMemU_any A xs.length c least most V (fun i => ((xs[i]?).map pr).getD true) w (by omega) hA
    (fun i hi => by
      have hx := hr i _ (List.getElem?_eq_getElem hi)
      obtain ⟨A, c, q, _, _⟩ := hx.dirs.form
      exact ⟨_, _, _, _, hx.name, q⟩)
    (fun i hi W hW => by
      have hx := List.getElem?_eq_getElem hi
      have h2 := hC W (V i) _ (MemR.stays.mono (MemR.stays.kept (hr i _ hx) hW) hW.size)
      rw [hx]
      exact h2)
  rw [all_at pr xs _ (fun i x hx => by rw [hx]; rfl)] at h1
  exact h1
theorem withinMemE_t (xs : List MemT) (v : Value) (w : World) (least most : Int) (h : Sl 2 40 MemR w w.heap.size v xs) (pr : MemT → Bool) (hC : ∀ (W : World) (f : Nat → Value) (x : MemT), MemR W W.heap.size f x → Calls Tryz.prog 93 #[.agg #[f 0, f 1]] W (BP (pr x) W)) :
    Calls Tryz.prog 97 #[v, .int .i64 least, .int .i64 most, .func (.func 93) #[] #[]] w (BP (inB least most xs pr) w) := by
  obtain ⟨A, c, rfl, hc, hb, V, hA, hr⟩ := h
  unfold big at hb
  have h1 := withinMemE_any A xs.length c least most V (fun i => ((xs[i]?).map pr).getD true) w (by omega) hA
    (fun i hi => by
      have hx := hr i _ (List.getElem?_eq_getElem hi)
      obtain ⟨A, c, q, _, _⟩ := hx.dirs.form
      exact ⟨_, _, _, _, hx.name, q⟩)
    (fun i hi W hW => by
      have hx := List.getElem?_eq_getElem hi
      have h2 := hC W (V i) _ (MemR.stays.mono (MemR.stays.kept (hr i _ hx) hW) hW.size)
      rw [hx]
      exact h2)
  rw [all_at pr xs _ (fun i x hx => by rw [hx]; rfl)] at h1
  exact h1
end Go.Proofs.YthjoelpfmimedaaGreatDoor
namespace Go.Proofs.YthjoelpfmimedaaGreatDoor.K
open Go.RowKit
def tkC (ts : List Tk) : List Value := ts.flatMap fun p => [.int .i64 p.1, .string ⟨p.2.1.toArray⟩, .int .i64 (p.2.2 : Int)]
theorem tkC_app (a b : List Tk) : tkC (a ++ b) = tkC a ++ tkC b := List.flatMap_append
theorem infoT : (Tryz.prog.info? 105).map (fun i => (i.zero, i.size, i.bytes)) = some (some (.agg #[.int .i64 0, .string ⟨#[]⟩, .int .i64 0]), 3, 32) := by kernel_rfl
def OwnT (w : World) (base : Nat) (v : Value) (ts : List Tk) : Prop := w.ownsRow base 105 3 v ts.length (tkC ts)
theorem ownsRow_stay {w w' : World} {base : Nat} {e : TypeId} {size : Nat} {v : Value} {n : Nat} {xs : List Value} (h : w.ownsRow base e size v n xs) (hb : Below w.heap.size w w') : w'.ownsRow base e size v n xs := by
  refine ⟨h.1, h.2.imp id ?_⟩
  rintro ⟨g, cap, cur, e1, e2, e3, r⟩
  have hg : g < w.heap.size := by
    rcases Nat.lt_or_ge g w.heap.size with h' | h'
    · exact h'
    · rw [Array.getElem?_eq_none h'] at e3; cases e3
  exact ⟨g, cap, cur, e1, e2, (hb.block g hg).trans e3, r⟩
theorem OwnT.stay {w w' : World} {base : Nat} {v : Value} {ts : List Tk} (h : OwnT w base v ts) (hb : Below w.heap.size w w') : OwnT w' base v ts := ownsRow_stay h hb
theorem OwnT.nil (w : World) (base : Nat) : OwnT w base (.slice none 0 0) [] := ⟨rfl, .inl ⟨rfl, rfl⟩⟩
theorem OwnT.set {w : World} {base : Nat} {v : Value} {ts : List Tk} (h : OwnT w base v ts) {p : Addr} (hp : ∀ g, v.ownBlock = some g → p.block ≠ g) (u : Value) : OwnT (w.setCell p u) base v ts := by
  refine ⟨h.1, h.2.imp id ?_⟩
  rintro ⟨g, cap, cur, e1, e2, e3, r⟩
  have hne := hp g (by rw [e1]; rfl)
  exact ⟨g, cap, cur, e1, e2, (Below.heap_setCell _ _ _ _ (fun e => hne e.symm)).trans e3, r⟩
theorem append_T {w : World} {ops : Array Oper} {rest : List Oper} {o : Oper} {a : Act} {Q : Exit → Act → World → Prop} (hgd : o.guard = none) (s x : Operand)
    (ho : o.op = .call { callee := .builtin .append, args := #[s, x], argTypes := #[62, 62] }) (base : Nat) (v : Value) (ts : List Tk) (hs : a.eval s = v) (hown : OwnT w base v ts)
    (ad : Addr) (c : Nat) (p : Tk) (hx : a.eval x = .slice (some ad) 1 c) (hnews : ∀ j u, (tkC [p])[j]? = some u → w.cell? (ad.add j) = some u)
    (hlen : ts.length + 1 ≤ 1099511627776) (hbase : base ≤ w.heap.size)
    (h : ∀ v' w', OwnT w' base v' (ts ++ [p]) → w.grownBy w' v.ownBlock → wpList Tryz.prog ops Q rest (a.put o.dst v') w') : wpList Tryz.prog ops Q (o :: rest) a w := by
  obtain ⟨i0, hi, hz0, hz1, hz2⟩ := info_parts infoT
  refine wpList_append_own w hgd s x 62 ho base 105 i0 (.agg #[.int .i64 0, .string ⟨#[]⟩, .int .i64 0]) 3 32 Tryz.underlying62 hi hz0 hz1 hz2 rfl (by decide) v ts.length (tkC ts) hs hown ad 1 c (tkC [p]) hx rfl hnews ?_ (by unfold maxLen; omega) (by omega) hbase ?_
  · intro u hu
    simp [tkC] at hu
    rcases hu with rfl | rfl | rfl <;> rfl
  · intro v' w' h1 h2 _
    refine h v' w' ?_ h2
    unfold OwnT
    rw [List.length_append, tkC_app]
    exact h1
theorem cells_L' (w : World) (xs : Array Value) (t : TypeId) (news : List Value) (hx : xs = news.toArray) :
    ∀ j u, news[j]? = some u → (w.alloc (.cells xs t)).cell? ((⟨w.heap.size, 0, none⟩ : Addr).add j) = some u := by
  intro j u h
  obtain ⟨h1, rfl⟩ := List.getElem?_eq_some_iff.1 h
  subst hx
  have := T1.cell_new w news.toArray t j (by simpa using h1)
  simpa using this
theorem OwnT.lt {w : World} {base : Nat} {v : Value} {ts : List Tk} (h : OwnT w base v ts) : ∀ k, v.ownBlock = some k → base ≤ k ∧ k < w.heap.size := World.ownsRow.lt h
def scG (f at' : Nat) (l : List UInt8) : Except (Nat × Int) (List Tk) := if l = [] then .ok [(5, [], at')] else match tokR l with
  | .error c => .error (at', c)
  | .ok (k, t, n) => match scF f (at' + n) (l.drop n) with
    | .error e => .error e
    | .ok ts => .ok ((k, t, at') :: ts)
theorem scG_ok {f at' : Nat} {l : List UInt8} {k : Int} {t : List UInt8} {n : Nat} (hne : l ≠ []) (ht : tokR l = .ok (k, t, n)) : scG f at' l = match scF f (at' + n) (l.drop n) with
    | .error e => .error e
    | .ok ts => .ok ((k, t, at') :: ts) := by
  unfold scG; rw [if_neg hne, ht]
structure ScAt (l : List UInt8) (R : Except (Nat × Int) (List Tk)) (f at' : Nat) (ts : List Tk) : Prop where
  eq : R = match scG f at' (l.drop at') with
    | .error e => .error e
    | .ok r => .ok (ts ++ r)
  fuel : l.length ≤ f + at'
  hi : at' ≤ l.length
  len : ts.length ≤ at'
theorem ScAt.start (l : List UInt8) (h : l.length ≤ 65536) : ScAt l (scR l) l.length (sepN l) [] := by
  refine ⟨?_, Nat.le_add_right _ _, sepN_le l, Nat.zero_le _⟩
  unfold scR
  rw [if_neg (by omega)]
  show scG l.length (0 + sepN l) (l.drop (sepN l)) = _
  rw [Nat.zero_add]
  cases scG l.length (sepN l) (l.drop (sepN l)) <;> rfl
theorem ScAt.done {l : List UInt8} {R : Except (Nat × Int) (List Tk)} {f at' : Nat} {ts : List Tk} (h : ScAt l R f at' ts) (hd : ¬ at' < l.length) : R = .ok (ts ++ [(5, [], at')]) := by
  rw [h.eq, List.drop_eq_nil_of_le (by omega)]; rfl
theorem ScAt.bad {l : List UInt8} {R : Except (Nat × Int) (List Tk)} {f at' : Nat} {ts : List Tk} (h : ScAt l R f at' ts) (hd : at' < l.length) {c : Int} (ht : tokR (l.drop at') = .error c) : R = .error (at', c) := by
  have hne : l.drop at' ≠ [] := by intro e; have := congrArg List.length e; rw [List.length_drop] at this; simp at this; omega
  rw [h.eq]; unfold scG; rw [if_neg hne, ht]
theorem ScAt.next {l : List UInt8} {R : Except (Nat × Int) (List Tk)} {f at' : Nat} {ts : List Tk} (h : ScAt l R f at' ts) (hd : at' < l.length) {k : Int} {t : List UInt8} {n : Nat} (ht : tokR (l.drop at') = .ok (k, t, n)) :
    1 ≤ n ∧ at' + n ≤ l.length ∧ ∃ f', ScAt l R f' (at' + n + sepN (l.drop (at' + n))) (ts ++ [(k, t, at')]) := by
  have hne : l.drop at' ≠ [] := by intro e; have := congrArg List.length e; rw [List.length_drop] at this; simp at this; omega
  obtain ⟨h1, h2⟩ := tokR_len hne ht
  rw [List.length_drop] at h2
  have hs := sepN_le (l.drop (at' + n))
  rw [List.length_drop] at hs
  have hf := h.fuel
  have hl := h.len
  obtain ⟨f', rfl⟩ : ∃ g, f = g + 1 := ⟨f - 1, by omega⟩
  refine ⟨h1, by omega, f', ?_, by omega, by omega, by rw [List.length_append]; show ts.length + 1 ≤ _; omega⟩
  rw [h.eq, scG_ok hne ht, List.drop_drop]
  have e : scF (f' + 1) (at' + n) (l.drop (at' + n)) = scG f' (at' + n + sepN (l.drop (at' + n))) ((l.drop (at' + n)).drop (sepN (l.drop (at' + n)))) := rfl
  rw [e, List.drop_drop]
  generalize (at' + n + sepN (l.drop (at' + n))) = b
  cases scG f' b (l.drop b) with
  | error e => rfl
  | ok r => simp
def ScanAns (R : Except (Nat × Int) (List Tk)) (base : Nat) (e : Ending) (w' : World) : Prop := match R with
  | .ok ts => ∃ v, e = .returned (.tuple #[v, .int .i64 0, .int .i64 0]) ∧ OwnT w' base v ts
  | .error x => e = .returned (.tuple #[.slice none 0 0, .int .i64 x.1, .int .i64 x.2]) ∧ x.2 ≠ 0
def ScanPost (R : Except (Nat × Int) (List Tk)) (w : World) (e : Ending) (w' : World) : Prop := ScanAns R w.heap.size e w' ∧ Below w.heap.size w w'
set_option maxHeartbeats 2000000 in
theorem scan_long (s : ByteArray) (h : 65536 < s.size) (w : World) : Calls Tryz.prog 26 #[.string s] w (ScanPost (scR s.data.toList) w) := by
  have E1 : Hid (scR s.data.toList = .error (65536, 4)) := Lib.hid (by unfold scR; rw [T1.size_eq, if_pos h])
  have hgt : ((s.size : Int) > 65536) := by omega
  generalize scR s.data.toList = R at *
  go_enter Tryz.func26, Tryz.ntmps26
  go_wp2_with fail
  refine bodyPost_ret (v := .tuple #[.slice none 0 0, .int .i64 65536, .int .i64 4]) (by simp [results, Tryz.results26, go_sem]) rfl ⟨?_, Below.refl _ _⟩
  rw [E1.out]
  exact ⟨rfl, by decide⟩
set_option maxRecDepth 100000 in
set_option maxHeartbeats 4000000 in
theorem scan_short (s : ByteArray) (h : s.size ≤ 65536) (w : World) (hL : LK w) : Calls Tryz.prog 26 #[.string s] w (ScanPost (scR s.data.toList) w) := by
  have hsz := T1.size_eq s
  have ST := Lib.hid (ScAt.start s.data.toList (by omega))
  have hgt : ¬ ((s.size : Int) > 65536) := by omega
  have HL := Lib.hid hL
  clear hL
  generalize scR s.data.toList = R at *
  go_enter Tryz.func26, Tryz.ntmps26
  go_wp2_with fail
  refine (separators_any s (by unfold maxLen; omega) w).mono ?_
  rintro e w1 ⟨rfl, hb⟩
  have HB1 := Lib.hid hb
  clear hb
  generalize sepN s.data.toList = m at *
  go_wp2_with fail
  go_loopw [5, 6] (fun v i wr => ∃ (f k : Nat) (ts : List Tk), i = .int .i64 k ∧ OwnT wr w.heap.size v ts ∧ ScAt s.data.toList R f k ts ∧ Below w.heap.size w wr) (fun _ i _ => s.size - (intOf i).toNat)
  case atStart => exact ⟨_, m, [], rfl, OwnT.nil _ _, ST.out, HB1.out⟩
  case round =>
    obtain ⟨f, k, ts, rfl, hown, hat, hb⟩ := hrel
    have HO := Lib.hid hown
    have HA := Lib.hid hat
    have HB := Lib.hid hb
    clear hown hat hb HB1 ST
    have hkl := HA.out.hi
    by_cases hlt : k < s.size
    · have hlt' : (k : Int) < s.size := by omega
      have hle' : (k : Int) ≤ s.size := by omega
      have HD := Lib.hid (ext_drop s k)
      have HES : Hid ((s.extract k s.size).size = s.size - k) := Lib.hid (by rw [← T1.size_eq, HD.out, List.length_drop, hsz])
      have CALL := Lib.hid (first_any (s.extract k s.size) (by rw [HES.out]; omega) (by rw [HES.out]; omega) wr (HL.out.below HB.out))
      rw [HD.out] at CALL
      go_wp2_with fail
      refine CALL.out.mono ?_
      rintro e w2 ⟨ha, hb⟩
      have HB2 := Lib.hid (HB.out.trans (hb.mono HB.out.size))
      have HO2 := Lib.hid (HO.out.stay hb)
      clear hb CALL HB HO
      cases ht : tokR (s.data.toList.drop k) with
      | error c =>
        rw [ht] at ha
        obtain ⟨hc, k1, t1, n1, rfl⟩ := ha
        have E1 := Lib.hid (HA.out.bad (by omega) ht)
        have HC := Lib.hid hc
        have hc0 : (c == 0) = false := beq_false_of_ne hc
        clear ht hc
        go_wp2_with fail
        refine bodyPost_ret (v := .tuple #[.slice none 0 0, .int .i64 k, .int .i64 c]) (by simp [results, Tryz.results26, go_sem]) rfl ⟨?_, HB2.out.alloc HB2.out.size _⟩
        rw [E1.out]
        exact ⟨rfl, HC.out⟩
      | ok p =>
        obtain ⟨k1, t1, n⟩ := p
        rw [ht] at ha
        have ha : e = .returned (.tuple #[tkV k1 ⟨t1.toArray⟩ 0, .int .i64 n, .int .i64 0]) := ha
        subst ha
        obtain ⟨hn1, hn2, f', hnx⟩ := HA.out.next (by omega) ht
        have HN := Lib.hid hnx
        clear ht hnx
        have HX3 : Hid (TB (w2.alloc (.cells #[.int .i64 k1, .string ⟨t1.toArray⟩, .int .i64 0] 105 (0, 0))) w2.heap.size (.int .i64 k1) (.string ⟨t1.toArray⟩) (.int .i64 0)) := Lib.hid (heap_alloc_new w2 _)
        have hb3 := ((Below.refl w2.heap.size w2).alloc (Nat.le_refl _) (.cells #[.int .i64 k1, .string ⟨t1.toArray⟩, .int .i64 k] 105 (0, 0))).alloc (by simp) (.cells #[.int .i64 k1, .string ⟨t1.toArray⟩, .int .i64 k] 105 (0, 0))
        have HO4 := Lib.hid (HO2.out.stay hb3)
        have HB4 := Lib.hid (HB2.out.trans (hb3.mono HB2.out.size))
        have HNL := Lib.hid HA.out.len
        have h00 : ((0 : Int) == 0) = true := rfl
        have hsm := hsz
        obtain ⟨x0, x1, x2⟩ := HX3.out.cells
        have g0 := HX3.out.frz 0
        have g1 := HX3.out.frz 1
        have g2 := HX3.out.frz 2
        clear hb3
        go_wp2_with (at_builtin; refine append_T rfl _ _ rfl w.heap.size _ ts rfl HO4.out _ _ (k1, t1, k) rfl ?_ ?_ ?_ ?_)
        · intro j u hj
          have h9 := cells_L' (w2.alloc (.cells #[.int .i64 k1, .string ⟨t1.toArray⟩, .int .i64 k] 105)) #[.int .i64 k1, .string ⟨t1.toArray⟩, .int .i64 k] 105 (tkC [(k1, t1, k)]) rfl j u hj
          rw [show (w2.alloc (.cells #[.int .i64 k1, .string ⟨t1.toArray⟩, .int .i64 k] 105)).heap.size = w2.heap.size + 1 by simp] at h9
          exact h9
        · have := HNL.out; omega
        · exact HB4.out.size
        · intro v' w5 h1 h2
          have HO5 := Lib.hid h1
          have HB5 := Lib.hid (HB4.out.grown h2 HB4.out.size (fun g hg => (HO4.out.lt g hg).1))
          have HE2 := Lib.hid (ext_drop s (k + n))
          have hk2 : (k : Int) + n ≤ s.size := by omega
          have hk3 : (0 : Int) ≤ (k : Int) + n := by omega
          have hk4 : ((k : Int) + n).toNat = k + n := by omega
          have hes : (s.extract (k + n) s.size).size ≤ maxLen := by
            rw [← T1.size_eq, HE2.out, List.length_drop]; unfold maxLen; omega
          have CALL := Lib.hid (separators_any (s.extract (k + n) s.size) hes w5)
          rw [HE2.out] at CALL
          have hq := sepN_le (s.data.toList.drop (k + n))
          rw [List.length_drop] at hq
          clear h1 h2 hes HX3 x0 x1 x2 g0 g1 g2
          generalize sepN (s.data.toList.drop (k + n)) = q at *
          go_wp2_with fail
          refine CALL.out.mono ?_
          rintro e w6 ⟨rfl, hb⟩
          have HB6 := Lib.hid (HB5.out.trans (hb.mono HB5.out.size))
          have HO6 := Lib.hid (HO5.out.stay hb)
          clear hb CALL
          go_wp2_with fail
          go_roundw
          case rel => exact ⟨f', k + n + q, ts ++ [(k1, t1, k)], by push_cast; rfl, HO6.out, HN.out, HB6.out⟩
          case measure =>
            simp only [intOf]
            omega
    · have E1 := Lib.hid (HA.out.done (by omega))
      have hlt' : ¬ (k : Int) < s.size := by omega
      have hb3 := (Below.refl wr.heap.size wr).alloc (Nat.le_refl _) (.cells #[.int .i64 5, .string ⟨#[]⟩, .int .i64 k] 105 (0, 0))
      have HO4 := Lib.hid (HO.out.stay hb3)
      have HB4 := Lib.hid (HB.out.trans (hb3.mono HB.out.size))
      have HNL := Lib.hid HA.out.len
      clear hb3
      go_wp2_with (at_builtin; refine append_T rfl _ _ rfl w.heap.size _ ts rfl HO4.out _ _ (5, [], k) rfl ?_ ?_ ?_ ?_)
      · exact fun j u h => h
      · have := HNL.out; omega
      · have := HB.out.size; omega
      · intro v' w5 h1 h2
        have HO5 := Lib.hid h1
        have HB5 := Lib.hid (HB4.out.grown h2 HB4.out.size (fun g hg => (HO4.out.lt g hg).1))
        clear h1 h2
        go_wp2_with fail
        refine bodyPost_ret (v := .tuple #[v', .int .i64 0, .int .i64 0]) (by simp [results, Tryz.results26, go_sem]) rfl ⟨?_, HB5.out⟩
        rw [E1.out]
        exact ⟨_, rfl, HO5.out⟩
theorem scan_any (s : ByteArray) (w : World) (hL : LK w) : Calls Tryz.prog 26 #[.string s] w (ScanPost (scR s.data.toList) w) := by
  rcases Nat.lt_or_ge 65536 s.size with h | h
  · exact scan_long s h w
  · exact scan_short s h w hL
end Go.Proofs.YthjoelpfmimedaaGreatDoor.K
namespace Go.Proofs.YthjoelpfmimedaaGreatDoor.K
open Go.RowKit
abbrev Tz := Int × List UInt8 × Int
def zC (zs : List Tz) : List Value := zs.flatMap fun p => [.int .i64 p.1, .string ⟨p.2.1.toArray⟩, .int .i64 p.2.2]
def tz (ts : List Tk) : List Tz := ts.map fun p => (p.1, p.2.1, (p.2.2 : Int))
theorem tz_len (ts : List Tk) : (tz ts).length = ts.length := List.length_map _
theorem tz_C (ts : List Tk) : zC (tz ts) = tkC ts := by
  induction ts with
  | nil => rfl
  | cons p r ih => show _ :: _ :: _ :: zC (tz r) = _; rw [ih]; rfl
theorem zC_at (zs : List Tz) (i : Nat) (p : Tz) (h : zs[i]? = some p) : (zC zs)[i * 3]? = some (.int .i64 p.1) ∧ (zC zs)[i * 3 + 1]? = some (.string ⟨p.2.1.toArray⟩) ∧ (zC zs)[i * 3 + 2]? = some (.int .i64 p.2.2) := by
  induction zs generalizing i with
  | nil => simp at h
  | cons q r ih =>
    cases i with
    | zero => simp at h; subst h; exact ⟨rfl, rfl, rfl⟩
    | succ i =>
      have := ih i (by simpa using h)
      have e : zC (q :: r) = .int .i64 q.1 :: .string ⟨q.2.1.toArray⟩ :: .int .i64 q.2.2 :: zC r := rfl
      rw [e, show (i + 1) * 3 = i * 3 + 1 + 1 + 1 by omega]
      simpa using this
def C3 (w : World) (a : Addr) (p : Tz) : Prop := w.cell? a = some (.int .i64 p.1) ∧ w.cell? ⟨a.block, a.off + 1, none⟩ = some (.string ⟨p.2.1.toArray⟩) ∧ w.cell? ⟨a.block, a.off + 2, none⟩ = some (.int .i64 p.2.2)
theorem add_block (a : Addr) (n : Nat) : (a.add n).block = a.block := by
  unfold Addr.add; split <;> rfl
theorem C3.kept {w w' : World} {B : Nat} {a : Addr} {p : Tz} (h : C3 w a p) (ha : a.block < B) (hb : Below B w w') : C3 w' a p := by
  obtain ⟨h0, h1, h2⟩ := h
  have hk := hb.block a.block ha
  exact ⟨(World.cell?_of_block (w := w) hk).trans h0, (World.cell?_of_block (w := w) (a := ⟨a.block, a.off + 1, none⟩) hk).trans h1, (World.cell?_of_block (w := w) (a := ⟨a.block, a.off + 2, none⟩) hk).trans h2⟩
def ZAt (w : World) (B : Nat) (A : Option Addr) (zs : List Tz) : Prop := 0 < zs.length → ∃ a, A = some a ∧ a.block < B ∧ ∀ i p, zs[i]? = some p → C3 w (a.add (i * 3)) p
theorem ZAt.kept {w w' : World} {B : Nat} {A : Option Addr} {zs : List Tz} (h : ZAt w B A zs) (hb : Below B w w') : ZAt w' B A zs := fun h0 => by
  obtain ⟨a, e, ha, hc⟩ := h h0
  exact ⟨a, e, ha, fun i p hp => (hc i p hp).kept (by rw [add_block]; exact ha) hb⟩
theorem ZAt.mono {w : World} {B B' : Nat} {A : Option Addr} {zs : List Tz} (h : ZAt w B A zs) (hB : B ≤ B') : ZAt w B' A zs := fun h0 => by
  obtain ⟨a, e, ha, hc⟩ := h h0
  exact ⟨a, e, Nat.lt_of_lt_of_le ha hB, hc⟩
theorem ZAt.stay {w w' : World} {A : Option Addr} {zs : List Tz} (h : ZAt w w.heap.size A zs) (hb : Below w.heap.size w w') : ZAt w' w'.heap.size A zs := (h.kept hb).mono hb.size
def OwnZ (T : TypeId) (w : World) (base : Nat) (v : Value) (zs : List Tz) : Prop := w.ownsRow base T 3 v zs.length (zC zs)
theorem OwnT.z {w : World} {base : Nat} {v : Value} {ts : List Tk} (h : OwnT w base v ts) : OwnZ 105 w base v (tz ts) := by
  unfold OwnZ; rw [tz_len, tz_C]; exact h
theorem OwnZ.stay {T : TypeId} {w w' : World} {base : Nat} {v : Value} {zs : List Tz} (h : OwnZ T w base v zs) (hb : Below w.heap.size w w') : OwnZ T w' base v zs := ownsRow_stay h hb
theorem OwnZ.nil (T : TypeId) (w : World) (base : Nat) : OwnZ T w base (.slice none 0 0) [] := ⟨rfl, .inl ⟨rfl, rfl⟩⟩
theorem OwnZ.lt {T : TypeId} {w : World} {base : Nat} {v : Value} {zs : List Tz} (h : OwnZ T w base v zs) : ∀ k, v.ownBlock = some k → base ≤ k ∧ k < w.heap.size := World.ownsRow.lt h
theorem OwnZ.at {T : TypeId} {w : World} {base : Nat} {v : Value} {zs : List Tz} (h : OwnZ T w base v zs) : ∃ A c, v = .slice A zs.length c ∧ ZAt w w.heap.size A zs ∧ zs.length ≤ c := by
  have hh : w.ownsRow base T 3 v zs.length (zC zs) := h
  rcases hh.2 with ⟨rfl, hz⟩ | ⟨g, cap, cur, rfl, h1, h2, h3⟩
  · have : zs = [] := by
      cases zs with
      | nil => rfl
      | cons p r => simp at hz
    subst this
    exact ⟨none, 0, rfl, fun h => absurd h (Nat.lt_irrefl _), Nat.le_refl _⟩
  · have hlt := (World.ownsRow.lt hh g rfl).2
    refine ⟨some ⟨g, 0, none⟩, cap, rfl, fun _ => ⟨_, rfl, hlt, fun i p hp => ?_⟩, h3.1⟩
    have hcell := hh.cells (g := g) rfl
    obtain ⟨z0, z1, z2⟩ := zC_at zs i p hp
    have e : ∀ n, (⟨g, 0, none⟩ : Addr).add n = ⟨g, n, none⟩ := fun n => by unfold Addr.add; split <;> simp_all
    have k0 := hcell _ _ z0
    have k1 := hcell _ _ z1
    have k2 := hcell _ _ z2
    rw [e] at k0 k1 k2
    unfold C3
    rw [e]
    exact ⟨k0, k1, k2⟩
theorem infoS : (Tryz.prog.info? 9).map (fun i => (i.zero, i.size, i.bytes)) = some (some (.string ⟨#[]⟩), 1, 16) := by kernel_rfl
def OwnS (w : World) (base : Nat) (v : Value) (ss : List (List UInt8)) : Prop := w.ownsRow base 9 1 v ss.length (ss.map fun s => .string ⟨s.toArray⟩)
theorem OwnS.stay {w w' : World} {base : Nat} {v : Value} {ss : List (List UInt8)} (h : OwnS w base v ss) (hb : Below w.heap.size w w') : OwnS w' base v ss := ownsRow_stay h hb
theorem OwnS.nil (w : World) (base : Nat) : OwnS w base (.slice none 0 0) [] := ⟨rfl, .inl ⟨rfl, rfl⟩⟩
theorem OwnS.lt {w : World} {base : Nat} {v : Value} {ss : List (List UInt8)} (h : OwnS w base v ss) : ∀ k, v.ownBlock = some k → base ≤ k ∧ k < w.heap.size := World.ownsRow.lt h
end Go.Proofs.YthjoelpfmimedaaGreatDoor.K
namespace Go.Proofs.YthjoelpfmimedaaGreatDoor
open Go.RowKit
abbrev Tk := Int × List UInt8 × Nat
abbrev Er := Nat × Int
def tkV (t : Tk) : Value := .agg #[.int .i64 t.1, .string ⟨t.2.1.toArray⟩, .int .i64 t.2.2]
def hd (ts : List Tk) : Tk := ts.headD (0, [], 0)
structure TkOk (t : Tk) : Prop where
  k0 : 0 ≤ t.1
  k5 : t.1 ≤ 5
  len : t.2.1.length ≤ 1000000
  at_ : t.2.2 ≤ 1000000
structure Good (ts : List Tk) : Prop where
  last : ∃ i t, ts = i ++ [t] ∧ t.1 = 5
  ok : ∀ t ∈ ts, TkOk t
  len : ts.length ≤ 1000000
theorem Good.ne {ts : List Tk} (h : Good ts) : ∃ t r, ts = t :: r := by
  obtain ⟨i, t, e, _⟩ := h.last
  cases ts with
  | nil => simp at e
  | cons t r => exact ⟨t, r, rfl⟩
theorem Good.tail {ts : List Tk} (h : Good ts) (hk : (hd ts).1 ≠ 5) : Good ts.tail := by
  obtain ⟨i, t, e, h5⟩ := h.last
  subst e
  cases i with
  | nil => exact absurd h5 hk
  | cons a r => exact ⟨⟨r, t, rfl, h5⟩, fun u hu => h.ok u (List.mem_cons_of_mem _ hu), by have := h.len; simp at this ⊢; omega⟩
def TAt (w : World) (B : Nat) (A : Option Addr) (ts : List Tk) : Prop :=
  ∃ a, A = some a ∧ a.block < B ∧ ∀ i t, ts[i]? = some t → w.cell? (a.add (i * 3)) = some (.int .i64 t.1) ∧ w.cell? ⟨(a.add (i * 3)).block, (a.add (i * 3)).off + 1, none⟩ = some (.string ⟨t.2.1.toArray⟩) ∧ w.cell? ⟨(a.add (i * 3)).block, (a.add (i * 3)).off + 2, none⟩ = some (.int .i64 t.2.2)
theorem TAt.kept {w w' : World} {B : Nat} {A : Option Addr} {ts : List Tk} (h : TAt w B A ts) (hb : Below B w w') : TAt w' B A ts := by
  obtain ⟨a, e, ha, hc⟩ := h
  refine ⟨a, e, ha, fun i t hi => ?_⟩
  have hk : ∀ o, w'.cell? ⟨(a.add (i * 3)).block, o, none⟩ = w.cell? ⟨(a.add (i * 3)).block, o, none⟩ := fun o => hb.cell (p := ⟨(a.add (i * 3)).block, o, none⟩) (by rw [add_block]; exact ha)
  obtain ⟨h0, h1, h2⟩ := hc i t hi
  exact ⟨(hb.cell (by rw [add_block]; exact ha)).trans h0, (hk _).trans h1, (hk _).trans h2⟩
abbrev fnV : Value := .func (.func 28) #[] #[]
abbrev rdC (A : Option Addr) (l c : Nat) (n : Int) : Array Value := #[.slice A l c, fnV, .bool false, .int .i64 n]
structure PSt (w : World) (p : Nat) (ts : List Tk) (n : Nat) : Prop where
  box : ∃ A c, Bk w p (rdC A ts.length c n) 72 ∧ ts.length ≤ c ∧ TAt w p A ts
  good : Good ts
  hn : n ≤ 4097
  laid : ∀ w2, Below p w w2 → T1.Laid w2
structure Tw (p N : Nat) (w w' : World) : Prop where
  os : w'.os = w.os
  tape : w'.tape = w.tape
  output : w'.output = w.output
  size : w.heap.size ≤ w'.heap.size
  block : ∀ k, k < N → k ≠ p → w'.heap[k]? = w.heap[k]?
theorem Tw.refl (p N : Nat) (w : World) : Tw p N w w := ⟨rfl, rfl, rfl, Nat.le_refl _, fun _ _ _ => rfl⟩
theorem Tw.trans {p N : Nat} {a b c : World} (h : Tw p N a b) (k : Tw p N b c) : Tw p N a c :=
  ⟨k.os.trans h.os, k.tape.trans h.tape, k.output.trans h.output, Nat.le_trans h.size k.size, fun i hi hp => (k.block i hi hp).trans (h.block i hi hp)⟩
theorem Tw.mono {p N N' : Nat} {w w' : World} (h : Tw p N w w') (hN : N' ≤ N) : Tw p N' w w' := ⟨h.os, h.tape, h.output, h.size, fun k hk hp => h.block k (Nat.lt_of_lt_of_le hk hN) hp⟩
theorem Tw.below {p N : Nat} {w w' : World} (h : Tw p N w w') (hp : p ≤ N) : Below p w w' := ⟨h.os, h.tape, h.output, h.size, fun k hk => h.block k (by omega) (by omega)⟩
theorem Tw.of {p N : Nat} {w w' : World} (h : Below N w w') : Tw p N w w' := ⟨h.os, h.tape, h.output, h.size, fun k hk _ => h.block k hk⟩
theorem Tw.set {p N : Nat} {a w : World} (h : Tw p N a w) (i : Nat) (u : Value) : Tw p N a (w.setCell ⟨p, i, none⟩ u) :=
  h.trans ⟨rfl, rfl, rfl, by simp [World.setCell], fun k _ hp => Below.heap_setCell _ _ _ _ hp⟩
theorem Tw.step {p N : Nat} {a b c : World} (h : Tw p N a b) (hN : N ≤ b.heap.size) (k : Tw p b.heap.size b c) : Tw p N a c := h.trans (k.mono hN)
theorem Bk.far {W W' : World} {p b : Nat} {cs : Array Value} {T : TypeId} (h : Bk W b cs T) (hb : Tw p W.heap.size W W') (hne : b ≠ p) : Bk W' b cs T := (hb.block b h.lt hne).trans h
theorem PSt.lt {w : World} {p : Nat} {ts : List Tk} {n : Nat} (h : PSt w p ts n) : p < w.heap.size := by
  obtain ⟨A, c, hb, _⟩ := h.box
  exact hb.lt
theorem PSt.same {w w' : World} {p : Nat} {ts : List Tk} {n : Nat} (h : PSt w p ts n) (hb : Below (p + 1) w w') : PSt w' p ts n := by
  obtain ⟨A, c, hx, hc, ht⟩ := h.box
  exact ⟨⟨A, c, (hb.block p (by omega)).trans hx, hc, ht.kept (hb.mono (by omega))⟩, h.good, h.hn, fun w2 h2 => h.laid w2 ((hb.mono (by omega)).trans h2)⟩
theorem PSt.stay {w w' : World} {p : Nat} {ts : List Tk} {n : Nat} (h : PSt w p ts n) (hb : Below w.heap.size w w') : PSt w' p ts n := h.same (hb.mono h.lt)
theorem PSt.fail {w : World} {p : Nat} {ts : List Tk} {n : Nat} (h : PSt w p ts n) : w.cell? ⟨p, 1, none⟩ = some fnV := by
  obtain ⟨A, c, hb, _⟩ := h.box
  exact hb.cell 1 _ rfl
abbrev pP (p : Nat) : Value := .pointer (some ⟨p, 0, none⟩)
theorem PSt.head {w : World} {p : Nat} {ts : List Tk} {n : Nat} (h : PSt w p ts n) : ∃ (t : Tk) (r : List Tk) (a : Addr) (c : Nat), ts = t :: r ∧ TkOk t ∧ a.block < p ∧ r.length + 1 ≤ c ∧ Bk w p (rdC (some a) (r.length + 1) c n) 72 ∧
    w.cell? a = some (.int .i64 t.1) ∧ w.cell? ⟨a.block, a.off + 1, none⟩ = some (.string ⟨t.2.1.toArray⟩) ∧ w.cell? ⟨a.block, a.off + 2, none⟩ = some (.int .i64 t.2.2) := by
  obtain ⟨t, r, rfl⟩ := h.good.ne
  obtain ⟨A, c, hx, hc, a, rfl, ha, hcl⟩ := h.box
  have h0 := hcl 0 t rfl
  have ez : a.add (0 * 3) = a := by simp [Addr.add]
  rw [ez] at h0
  exact ⟨t, r, a, c, rfl, h.good.ok t List.mem_cons_self, ha, hc, hx, h0⟩
def isSg (s : List UInt8) (ts : List Tk) : Bool := decide ((hd ts).1 = 1) && decide ((hd ts).2.1 = s)
def isNm (ts : List Tk) : Bool := decide ((hd ts).1 = 2)
def erR (ts : List Tk) (c : Int) : Er := ((hd ts).2.2, c)
def sgR (s : List UInt8) (ts : List Tk) : Except Er (List Tk) := if isSg s ts then .ok ts.tail else .error (erR ts 3)
def nmR (ts : List Tk) : Except Er (ByteArray × List Tk) := if isNm ts then .ok (⟨(hd ts).2.1.toArray⟩, ts.tail) else .error (erR ts 3)
def bgR (can : Bool) (count most : Nat) (ts : List Tk) : Except Er Unit := if can then (if count = most then .error (erR ts 4) else .ok ()) else .error (erR ts 3)
def badV (x : Er) : Ending := .panicked [{ v := .iface 66 (.agg #[.int .i64 x.1, .int .i64 x.2]), recovered := false }]
end Go.Proofs.YthjoelpfmimedaaGreatDoor
namespace Go.Proofs.YthjoelpfmimedaaGreatDoor
open Go.RowKit
set_option maxHeartbeats 2000000 in
theorem pnext_any {w : World} {p : Nat} {ts : List Tk} {n : Nat} (h : PSt w p ts n) : Calls Tryz.prog 53 #[pP p] w fun e w' => e = .returned (tkV (hd ts)) ∧ Below w.heap.size w w' := by
  obtain ⟨t, r, a, c, rfl, _, ha, hc, hx, k0, k1, k2⟩ := h.head
  obtain ⟨k, tx, i⟩ := t
  have q0 := hx.cell 0 _ rfl
  have hl := h.lt
  have hl9 : p ≠ w.heap.size := by omega
  have hal : a.block < w.heap.size := by omega
  have z0 : (w.alloc (.cells #[.int .i64 0, .string ⟨#[]⟩, .int .i64 0] 105 (0, 0))).cell? a = some (.int .i64 k) := ((below_new w _).cell hal).trans k0
  have hlen : (0 : Int) < (r.length : Int) + 1 := by omega
  simp only at k0 k1 k2
  have HB : Hid (Below w.heap.size w (w.alloc (.cells #[.int .i64 k, .string ⟨tx.toArray⟩, .int .i64 i] 105 (0, 0)))) := Lib.hid (below_new _ _)
  show Calls _ _ _ _ fun e w' => e = .returned (.agg #[.int .i64 k, .string ⟨tx.toArray⟩, .int .i64 i]) ∧ _
  clear h hx hc ha
  go_enter Tryz.func53, Tryz.ntmps53
  go_wp2_with fail
  exact bodyPost_ret (v := .agg #[.int .i64 k, .string ⟨tx.toArray⟩, .int .i64 i]) (by simp [results, Tryz.results53, go_sem]) rfl ⟨rfl, HB.out⟩
theorem Tw.setNew {p N b : Nat} {a w : World} (h : Tw p N a w) (hb : N ≤ b) (i : Nat) (u : Value) : Tw p N a (w.setCell ⟨b, i, none⟩ u) :=
  h.trans ⟨rfl, rfl, rfl, by simp [World.setCell], fun k hk _ => Below.heap_setCell _ _ _ _ (by show k ≠ b; omega)⟩
theorem Tw.alloc {p N : Nat} {a w : World} (h : Tw p N a w) (hN : N ≤ w.heap.size) (o : Obj) : Tw p N a (w.alloc o) := h.trans (Tw.of ((Below.refl _ _).alloc hN o))
theorem Bk.off {W : World} {b g : Nat} {cs : Array Value} {T : TypeId} (h : Bk W b cs T) (hne : b ≠ g) (i : Nat) (u : Value) : Bk (W.setCell ⟨g, i, none⟩ u) b cs T := (Below.heap_setCell W ⟨g, i, none⟩ u b hne).trans h
theorem Bk.set {W : World} {b : Nat} {cs : Array Value} {T : TypeId} (h : Bk W b cs T) (i : Nat) (u : Value) : Bk (W.setCell ⟨b, i, none⟩ u) b (cs.setIfInBounds i u) T := by
  unfold Bk at h ⊢; simp [World.setCell, Array.getElem?_modify, h]
theorem Bk.s2 {W : World} {b : Nat} {c0 c1 : Value} {T : TypeId} (h : Bk W b #[c0, c1] T) (u : Value) : Bk (W.setCell ⟨b, 0, none⟩ u) b #[u, c1] T := h.set 0 u
theorem Bk.s4 {W : World} {b : Nat} {c0 c1 c2 c3 : Value} {T : TypeId} (h : Bk W b #[c0, c1, c2, c3] T) (u : Value) : Bk (W.setCell ⟨b, 0, none⟩ u) b #[u, c1, c2, c3] T := h.set 0 u
theorem Bk.n4 {W : World} {b : Nat} {c0 c1 c2 c3 : Value} {T : TypeId} (h : Bk W b #[c0, c1, c2, c3] T) (u : Value) : Bk (W.setCell ⟨b, 3, none⟩ u) b #[c0, c1, c2, u] T := h.set 3 u
theorem Bk.s3 {W : World} {b : Nat} {cs : Array Value} {T : TypeId} (h : Bk W b cs T) (i : Nat) (u : Value) : Bk (W.setCell ⟨b, i, none⟩ u) b (cs.setIfInBounds i u) T := h.set i u
set_option maxHeartbeats 2000000 in
theorem pfail_any (t : Tk) (c : Int) (w : World) : Calls Tryz.prog 28 #[tkV t, .int .i64 c] w fun e w' => e = badV (t.2.2, c) ∧ Below w.heap.size w w' := by
  obtain ⟨k, tx, i⟩ := t
  unfold tkV badV
  have HB : Hid (Below w.heap.size w (w.alloc (.cells #[.int .i64 k, .string ⟨tx.toArray⟩, .int .i64 i] 105 (0, 0)))) := Lib.hid (below_new _ _)
  go_enter Tryz.func28, Tryz.ntmps28
  go_wp2_with fail
  simp [bodyPost]
  exact HB.out
theorem PSt.drop {w : World} {p : Nat} {t : Tk} {r : List Tk} {n : Nat} (h : PSt w p (t :: r) n) (hr : Good r) : ∃ (a : Addr) (c : Nat), a.block < p ∧ r.length + 1 ≤ c ∧ 0 < r.length ∧ Bk w p (rdC (some a) (r.length + 1) c n) 72 ∧
    ∀ W : World, Below p w W → Bk W p (rdC (some (a.add 3)) r.length (c - 1) n) 72 → PSt W p r n := by
  obtain ⟨A, c, hx, hc, a, rfl, ha, hcl⟩ := h.box
  have hl : 0 < r.length := by
    obtain ⟨t2, r2, e⟩ := hr.ne
    rw [e]; simp
  refine ⟨a, c, ha, hc, hl, hx, fun W hb hW => ⟨⟨some (a.add 3), c - 1, hW, by simp at hc; omega, a.add 3, rfl, by rw [add_block]; exact ha, fun i u hu => ?_⟩, hr, h.hn, fun w2 h2 => h.laid w2 (hb.trans h2)⟩⟩
  rw [Addr.add_add, show 3 + i * 3 = (i + 1) * 3 by omega]
  have hk : ∀ o, W.cell? ⟨(a.add ((i + 1) * 3)).block, o, none⟩ = w.cell? ⟨(a.add ((i + 1) * 3)).block, o, none⟩ := fun o => hb.cell (p := ⟨(a.add ((i + 1) * 3)).block, o, none⟩) (by rw [add_block]; exact ha)
  obtain ⟨h0, h1, h2⟩ := hcl (i + 1) u hu
  exact ⟨(hb.cell (by rw [add_block]; exact ha)).trans h0, (hk _).trans h1, (hk _).trans h2⟩
set_option maxHeartbeats 2000000 in
theorem ptake_any {w : World} {p : Nat} {ts : List Tk} {n : Nat} (h : PSt w p ts n) (hk : (hd ts).1 ≠ 5) : Calls Tryz.prog 115 #[pP p] w fun e w' => e = .returned (tkV (hd ts)) ∧ PSt w' p ts.tail n ∧ Tw p w.heap.size w w' := by
  have hg := h.good.tail hk
  obtain ⟨⟨k, tx, i⟩, r, rfl⟩ := h.good.ne
  have hp := h.lt
  have h1 : PSt (w.alloc (.cells #[.int .i64 0, .string ⟨#[]⟩, .int .i64 0] 105 (0, 0))) p ((k, tx, i) :: r) n := h.stay (below_new _ _)
  have HP := Lib.hid h1
  have HG := Lib.hid hg
  have hX : Bk (w.alloc (.cells #[.int .i64 0, .string ⟨#[]⟩, .int .i64 0] 105 (0, 0))) w.heap.size #[.int .i64 0, .string ⟨#[]⟩, .int .i64 0] 105 := Bk.new _ _ _
  have HX := Lib.hid hX
  clear h h1 hg hk hX
  go_enter Tryz.func115, Tryz.ntmps115
  go_wp2_with fail
  have hnx : Calls Tryz.prog 53 #[pP p] _ fun e w' => e = .returned (.agg #[.int .i64 k, .string ⟨tx.toArray⟩, .int .i64 i]) ∧ Below _ _ w' := pnext_any HP.out
  refine hnx.mono ?_
  clear hnx
  rintro e w1 ⟨rfl, hb⟩
  have b1 : Below w.heap.size w w1 := (below_new _ _).trans (hb.mono (by simp))
  have h1 := HP.out.stay hb
  have x1 := HX.out.stay hb
  have s1 := hb.size
  rw [World.size_alloc] at s1
  have b2 : Below w1.heap.size w1 (w1.alloc (.cells #[.int .i64 k, .string ⟨tx.toArray⟩, .int .i64 i] 105 (0, 0))) := below_new _ _
  obtain ⟨a, c, ha, hc, hr0, hbx, hfin⟩ := (h1.stay b2).drop HG.out
  have q0 := hbx.cell 0 _ rfl
  have f0 := hbx.frz 0
  have x2 := x1.stay b2
  have hc1 : (r.length : Int) + 1 ≤ c := by omega
  have hc2 : ¬ (c : Int) = 1 := by omega
  have hc3 : ¬ c = 1 := by omega
  have r0 := x2.cell 0 _ rfl
  have r1 := x2.cell 1 _ rfl
  have r2 := x2.cell 2 _ rfl
  have g0 := x2.frz 0
  have g1 := x2.frz 1
  have g2 := x2.frz 2
  have hp1 : p ≠ w.heap.size := by omega
  have hp2 : w.heap.size ≠ p := by omega
  have ea : a.add 3 = ⟨a.block, a.off + 3, none⟩ := by simp [Addr.add]
  rw [ea] at hfin
  have HF := Lib.hid hfin
  have HBX := Lib.hid hbx
  have HX2 := Lib.hid x2
  have HB := Lib.hid (b1.trans (b2.mono b1.size))
  have hs2 := b2.size
  clear hfin hbx x1 x2 b1 b2 hb h1
  go_wp2_with fail
  have y0 := HX2.out.cell 0 _ rfl
  have HW : Hid (Bk (((((w1.alloc (.cells #[.int .i64 k, .string ⟨tx.toArray⟩, .int .i64 i] 105 (0, 0))).setCell ⟨p, 0, none⟩ (.slice (some ⟨a.block, a.off + 3, none⟩) r.length (c - 1))).setCell ⟨w.heap.size, 0, none⟩ (.int .i64 k)).setCell ⟨w.heap.size, 1, none⟩ (.string ⟨tx.toArray⟩)).setCell ⟨w.heap.size, 2, none⟩ (.int .i64 i)) w.heap.size #[.int .i64 k, .string ⟨tx.toArray⟩, .int .i64 i] 105) := Lib.hid ((((HX2.out.off hp2 _ _).s3 0 _).s3 1 _).s3 2 _)
  have z0 := HW.out.cell 0 _ rfl
  have z1 := HW.out.cell 1 _ rfl
  have z2 := HW.out.cell 2 _ rfl
  refine bodyPost_ret (v := .agg #[.int .i64 k, .string ⟨tx.toArray⟩, .int .i64 i]) (by simp [results, Tryz.results115, go_sem, z0, z1, z2]) rfl ⟨rfl, ?_, ?_⟩
  · refine HF.out _ ⟨rfl, rfl, rfl, by simp [World.setCell], fun g hg => ?_⟩ ((((HBX.out.s4 _).off hp1 _ _).off hp1 _ _).off hp1 _ _)
    rw [Below.heap_setCell _ _ _ _ (by simp; omega), Below.heap_setCell _ _ _ _ (by simp; omega), Below.heap_setCell _ _ _ _ (by simp; omega), Below.heap_setCell _ _ _ _ (by simp; omega)]
  · exact ((((Tw.of HB.out).set 0 _).setNew (Nat.le_refl _) 0 _).setNew (Nat.le_refl _) 1 _).setNew (Nat.le_refl _) 2 _
end Go.Proofs.YthjoelpfmimedaaGreatDoor
