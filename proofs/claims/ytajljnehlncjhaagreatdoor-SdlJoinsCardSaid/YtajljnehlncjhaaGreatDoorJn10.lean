
/-
  Texts joined: F3.
-/
import Derived.Test.YtajljnehlncjhaaGreatDoorJn8
import Derived.Test.YtajljnehlncjhaaGreatDoorJn9
namespace Go.Proofs.YtajljnehlncjhaaGreatDoor
open Go.RowKit
theorem Bk.setl {W : World} {b : Nat} {l : List Value} {T : TypeId} (h : Bk W b l.toArray T) (i : Nat) (u : Value) : Bk (W.setCell ⟨b, i, none⟩ u) b (l.set i u).toArray T := by
  have := h.set i u
  rwa [List.setIfInBounds_toArray] at this
def RefW (w : World) (S : Nat → Prop) (v : Value) (r : ByteArray × List Int) : Prop := ∃ c0 c1, v = .agg #[c0, c1] ∧ RfC w S c0 c1 r.1 r.2
theorem RefW.shape {w : World} {S : Nat → Prop} {v : Value} {r : ByteArray × List Int} (h : RefW w S v r) : ∃ A d, v = .agg #[.string r.1, .slice A r.2.length d] ∧ RfC w S (.string r.1) (.slice A r.2.length d) r.1 r.2 := by
  obtain ⟨c0, c1, rfl, hx⟩ := h
  obtain ⟨A, d, e1, _, _⟩ := hx.wraps.form
  have e0 := hx.name
  subst e0 e1
  exact ⟨A, d, rfl, hx⟩
def nullT0 : VT := .mk 0 0 ⟨#[]⟩ [] []
def inpP (rel : List Tk → Except Er ((ByteArray × List Int) × List Tk)) (vel : List Tk → Except Er (VT × List Tk)) (del : List Tk → Except Er (DirT × List Tk)) (ts : List Tk) : Except Er (InpT × List Tk) := exB (nmR ts) fun q => exB (sgR [58] q.2) fun ts1 => exB (rel ts1) fun r => if isSg [61] r.2 = true then exB (vel r.2.tail) fun t => exB (drsR del t.2) fun d => .ok (⟨q.1, r.1.1, r.1.2, true, t.1, d.1⟩, d.2) else exB (drsR del r.2) fun d => .ok (⟨q.1, r.1.1, r.1.2, false, nullT0, d.1⟩, d.2)
def fldQ (rel : List Tk → Except Er ((ByteArray × List Int) × List Tk)) (del : List Tk → Except Er (DirT × List Tk)) (nm : ByteArray) (args : List InpT) (ts : List Tk) : Except Er (FldT × List Tk) := exB (sgR [58] ts) fun ts1 => exB (rel ts1) fun r => exB (drsR del r.2) fun d => .ok (⟨nm, args, r.1.1, r.1.2, d.1⟩, d.2)
def fldP (iel : List Tk → Except Er (InpT × List Tk)) (rel : List Tk → Except Er ((ByteArray × List Int) × List Tk)) (del : List Tk → Except Er (DirT × List Tk)) (ts : List Tk) : Except Er (FldT × List Tk) := exB (nmR ts) fun q => if isSg [40] q.2 = true then exB (blR [40] [41] 16 iel q.2) fun a => fldQ rel del q.1 a.1 a.2 else fldQ rel del q.1 [] q.2
set_option maxRecDepth 100000 in
set_option maxHeartbeats 8000000 in
theorem pinput_any (p : Nat) (rel : List Tk → Except Er ((ByteArray × List Int) × List Tk)) (hrel : ∀ (W : World) (ts : List Tk) (m : Nat), PSt W p ts m → Calls Tryz.prog 140 #[pP p] W (WPost RefW W p (rel ts))) (vel : List Tk → Except Er (VT × List Tk)) (hvel : ∀ (W : World) (ts : List Tk) (m : Nat), PSt W p ts m → Calls Tryz.prog 141 #[pP p] W (WPost ValW W p (vel ts))) (del : List Tk → Except Er (DirT × List Tk)) (hdel : ∀ (W : World) (ts : List Tk) (m : Nat), PSt W p ts m → isSg [64] ts = true → Calls Tryz.prog 137 #[pP p] W (WPost DirV W p (del ts))) (hdlt : ∀ (ts : List Tk) (x : DirT) (ts' : List Tk), Good ts → isSg [64] ts = true → del ts = .ok (x, ts') → ts'.length < ts.length) (w : World) (ts : List Tk) (n : Nat) (h : PSt w p ts n) :
    Calls Tryz.prog 96 #[pP p] w (WPost InpV w p (inpP rel vel del ts)) := by
  have HREL := Lib.hid hrel
  have HVEL := Lib.hid hvel
  have HDEL := Lib.hid hdel
  have HDLT := Lib.hid hdlt
  clear hrel hvel hdel hdlt
  have HD0 : Hid (inpP rel vel del ts = inpP rel vel del ts) := Lib.hid rfl
  have hpw := h.lt
  have hhp : p ≠ w.heap.size := by omega
  have HP0 : Hid (PSt (w.alloc (.cells #[.string ⟨#[]⟩, .string ⟨#[]⟩, .slice none 0 0, .bool false, .int .i64 0, .int .i64 0, .string ⟨#[]⟩, .slice none 0 0, .slice none 0 0, .slice none 0 0] 55 (0, 0))) p ts n) := Lib.hid (h.stay (below_new _ _))
  have HR0 : Hid (Bk (w.alloc (.cells #[.string ⟨#[]⟩, .string ⟨#[]⟩, .slice none 0 0, .bool false, .int .i64 0, .int .i64 0, .string ⟨#[]⟩, .slice none 0 0, .slice none 0 0, .slice none 0 0] 55 (0, 0))) w.heap.size #[.string ⟨#[]⟩, .string ⟨#[]⟩, .slice none 0 0, .bool false, .int .i64 0, .int .i64 0, .string ⟨#[]⟩, .slice none 0 0, .slice none 0 0, .slice none 0 0] 55) := Lib.hid (Bk.new _ _ _)
  have HT0 : Hid (Tw p w.heap.size w (w.alloc (.cells #[.string ⟨#[]⟩, .string ⟨#[]⟩, .slice none 0 0, .bool false, .int .i64 0, .int .i64 0, .string ⟨#[]⟩, .slice none 0 0, .slice none 0 0, .slice none 0 0] 55 (0, 0)))) := Lib.hid (.of (below_new _ _))
  have hsz0 : w.heap.size < (w.alloc (.cells #[.string ⟨#[]⟩, .string ⟨#[]⟩, .slice none 0 0, .bool false, .int .i64 0, .int .i64 0, .string ⟨#[]⟩, .slice none 0 0, .slice none 0 0, .slice none 0 0] 55 (0, 0))).heap.size := by simp
  clear h
  have HDU : Hid (inpP rel vel del ts = exB (nmR ts) fun q => exB (sgR [58] q.2) fun ts1 => exB (rel ts1) fun r => if isSg [61] r.2 = true then exB (vel r.2.tail) fun t => exB (drsR del t.2) fun d => .ok (⟨q.1, r.1.1, r.1.2, true, t.1, d.1⟩, d.2) else exB (drsR del r.2) fun d => .ok (⟨q.1, r.1.1, r.1.2, false, nullT0, d.1⟩, d.2)) := Lib.hid rfl
  replace HD0 := HDU
  clear HDU
  generalize inpP rel vel del ts = R at *
  go_enter Tryz.func96, Tryz.ntmps96
  go_wp2_with fail
  refine (pname_any HP0.out).mono ?_
  rintro e w1 (⟨nm, ts1, v, hr, rfl, ⟨rfl, hnz⟩, hp, ht⟩ | ⟨x, hr, rfl, ht⟩)
  rotate_left
  · exact ⟨rfl, .inr ⟨_, HD0.out.trans (exB_er hr), rfl, HT0.out.step HT0.out.size ht⟩⟩
  have HD1 := Lib.hid (HD0.out.trans (exB_ok hr))
  have HT1 := Lib.hid (HT0.out.step HT0.out.size ht)
  have HR1 := Lib.hid (HR0.out.far ht (by omega))
  have hsz1 : w.heap.size < w1.heap.size := Nat.lt_of_lt_of_le hsz0 ht.size
  have HP1 := Lib.hid hp
  have HN := Lib.hid hnz
  clear hr hp ht hnz
  go_wp2_with fail
  have ht : Tw p w1.heap.size w1 (w1.alloc (.cells #[.string nm, .string ⟨#[]⟩, .slice none 0 0, .bool false, .int .i64 0, .int .i64 0, .string ⟨#[]⟩, .slice none 0 0, .slice none 0 0, .slice none 0 0] 55 (0, 0))) := .of (below_new _ _)
  have hlv : w.heap.size < w1.heap.size := hsz1
  have hlp : p ≠ w1.heap.size := by omega
  have hlv2 : w1.heap.size < (w1.alloc (.cells #[.string nm, .string ⟨#[]⟩, .slice none 0 0, .bool false, .int .i64 0, .int .i64 0, .string ⟨#[]⟩, .slice none 0 0, .slice none 0 0, .slice none 0 0] 55 (0, 0))).heap.size := by simp
  have HT2 := Lib.hid (HT1.out.step HT1.out.size ht)
  have HR2 := Lib.hid (HR1.out.far ht (by omega))
  have HV2 : Hid (Bk (w1.alloc (.cells #[.string nm, .string ⟨#[]⟩, .slice none 0 0, .bool false, .int .i64 0, .int .i64 0, .string ⟨#[]⟩, .slice none 0 0, .slice none 0 0, .slice none 0 0] 55 (0, 0))) w1.heap.size #[.string nm, .string ⟨#[]⟩, .slice none 0 0, .bool false, .int .i64 0, .int .i64 0, .string ⟨#[]⟩, .slice none 0 0, .slice none 0 0, .slice none 0 0] 55) := Lib.hid (Bk.new _ _ _)
  have HP2 := Lib.hid (HP1.out.stay (below_new w1 (.cells #[.string nm, .string ⟨#[]⟩, .slice none 0 0, .bool false, .int .i64 0, .int .i64 0, .string ⟨#[]⟩, .slice none 0 0, .slice none 0 0, .slice none 0 0] 55 (0, 0))))
  have hsz2 : w.heap.size < (w1.alloc (.cells #[.string nm, .string ⟨#[]⟩, .slice none 0 0, .bool false, .int .i64 0, .int .i64 0, .string ⟨#[]⟩, .slice none 0 0, .slice none 0 0, .slice none 0 0] 55 (0, 0))).heap.size := by simp; omega
  clear ht
  go_wp2_with fail
  refine (psign_any HP2.out ⟨#[58]⟩).mono ?_
  rintro e w3 (⟨ts3, hr, rfl, hp, ht⟩ | ⟨x, hr, rfl, ht⟩)
  rotate_left
  · exact ⟨rfl, .inr ⟨_, HD1.out.trans (exB_er hr), rfl, HT2.out.step HT2.out.size ht⟩⟩
  have HD2 := Lib.hid (HD1.out.trans (exB_ok hr))
  have HT3 := Lib.hid (HT2.out.step HT2.out.size ht)
  have HR3 := Lib.hid (HR2.out.far ht (by omega))
  have HV3 := Lib.hid (HV2.out.far ht (by have := hlv; omega))
  have hsz3 : w.heap.size < w3.heap.size := Nat.lt_of_lt_of_le hsz2 ht.size
  replace hlv2 := Nat.lt_of_lt_of_le hlv2 ht.size
  have HP3 := Lib.hid hp
  clear hr hp ht
  go_wp2_with fail
  have hlw4 : w1.heap.size < w3.heap.size := hlv2
  refine (HREL.out _ _ _ HP3.out).mono ?_
  rintro e w4 (⟨rf, ts4, v4, m4, hr, rfl, hx, hp, ht⟩ | ⟨x, hr, rfl, ht⟩)
  rotate_left
  · exact ⟨rfl, .inr ⟨_, HD2.out.trans (exB_er hr), rfl, HT3.out.step HT3.out.size ht⟩⟩
  have HD3 := Lib.hid (HD2.out.trans (exB_ok hr))
  have HT4 := Lib.hid (HT3.out.step HT3.out.size ht)
  have HR4 := Lib.hid (HR3.out.far ht (by omega))
  have HV4 := Lib.hid (HV3.out.far ht (by have := hlv; omega))
  have hsz4 : w.heap.size < w4.heap.size := Nat.lt_of_lt_of_le hsz3 ht.size
  replace hlv2 := Nat.lt_of_lt_of_le hlv2 ht.size
  have HP4 := Lib.hid hp
  have hlo4 : w3.heap.size ≤ w4.heap.size := ht.size
  obtain ⟨A2, d2, hv1, hxr⟩ := RefW.shape hx
  clear hx
  subst hv1
  have hx := hxr
  clear hxr
  have HREF := Lib.hid hx
  clear hr hp ht hx
  have x0 := HV4.out.cell 0 _ rfl
  have fx0 := HV4.out.frz 0
  have x1 := HV4.out.cell 1 _ rfl
  have fx1 := HV4.out.frz 1
  have x2 := HV4.out.cell 2 _ rfl
  have fx2 := HV4.out.frz 2
  have x3 := HV4.out.cell 3 _ rfl
  have fx3 := HV4.out.frz 3
  have x4 := HV4.out.cell 4 _ rfl
  have fx4 := HV4.out.frz 4
  have x5 := HV4.out.cell 5 _ rfl
  have fx5 := HV4.out.frz 5
  have x6 := HV4.out.cell 6 _ rfl
  have fx6 := HV4.out.frz 6
  have x7 := HV4.out.cell 7 _ rfl
  have fx7 := HV4.out.frz 7
  have x8 := HV4.out.cell 8 _ rfl
  have fx8 := HV4.out.frz 8
  have x9 := HV4.out.cell 9 _ rfl
  have fx9 := HV4.out.frz 9
  go_wp2_with fail
  clear x0 fx0 x1 fx1 x2 fx2 x3 fx3 x4 fx4 x5 fx5 x6 fx6 x7 fx7 x8 fx8 x9 fx9
  have HT5 : Hid (Tw p w.heap.size w ((w4.setCell ⟨w1.heap.size, 1, none⟩ (.string rf.1)).setCell ⟨w1.heap.size, 2, none⟩ (.slice A2 rf.2.length d2))) := Lib.hid ((HT4.out.setNew (by omega) 1 (.string rf.1)).setNew (by omega) 2 (.slice A2 rf.2.length d2))
  have HR5 : Hid (Bk ((w4.setCell ⟨w1.heap.size, 1, none⟩ (.string rf.1)).setCell ⟨w1.heap.size, 2, none⟩ (.slice A2 rf.2.length d2)) w.heap.size #[.string ⟨#[]⟩, .string ⟨#[]⟩, .slice none 0 0, .bool false, .int .i64 0, .int .i64 0, .string ⟨#[]⟩, .slice none 0 0, .slice none 0 0, .slice none 0 0] 55) := Lib.hid ((HR4.out.off (by omega) 1 (.string rf.1)).off (by omega) 2 (.slice A2 rf.2.length d2))
  have HV5 : Hid (Bk ((w4.setCell ⟨w1.heap.size, 1, none⟩ (.string rf.1)).setCell ⟨w1.heap.size, 2, none⟩ (.slice A2 rf.2.length d2)) w1.heap.size #[.string nm, .string rf.1, .slice A2 rf.2.length d2, .bool false, .int .i64 0, .int .i64 0, .string ⟨#[]⟩, .slice none 0 0, .slice none 0 0, .slice none 0 0] 55) := Lib.hid ((HV4.out.setl 1 (.string rf.1)).setl 2 (.slice A2 rf.2.length d2))
  have HP5 := Lib.hid (HP4.out.same (((Below.refl (p + 1) w4).setCell (p := ⟨w1.heap.size, 1, none⟩) (by show p + 1 ≤ w1.heap.size; omega) (.string rf.1)).setCell (p := ⟨w1.heap.size, 2, none⟩) (by show p + 1 ≤ w1.heap.size; omega) (.slice A2 rf.2.length d2)))
  have hsz5 : w.heap.size < ((w4.setCell ⟨w1.heap.size, 1, none⟩ (.string rf.1)).setCell ⟨w1.heap.size, 2, none⟩ (.slice A2 rf.2.length d2)).heap.size := by simp [World.setCell]; omega
  have hse5 : ((w4.setCell ⟨w1.heap.size, 1, none⟩ (.string rf.1)).setCell ⟨w1.heap.size, 2, none⟩ (.slice A2 rf.2.length d2)).heap.size = w4.heap.size := by simp [World.setCell]
  replace HREF := Lib.hid (RfC.kept HREF.out (w' := ((w4.setCell ⟨w1.heap.size, 1, none⟩ (.string rf.1)).setCell ⟨w1.heap.size, 2, none⟩ (.slice A2 rf.2.length d2))) (S' := fun b => w3.heap.size ≤ b ∧ b < ((w4.setCell ⟨w1.heap.size, 1, none⟩ (.string rf.1)).setCell ⟨w1.heap.size, 2, none⟩ (.slice A2 rf.2.length d2)).heap.size) (fun b hb => by rw [Below.heap_setCell _ _ _ _ (show b ≠ w1.heap.size by have := hb.1; omega), Below.heap_setCell _ _ _ _ (show b ≠ w1.heap.size by have := hb.1; omega)]) (fun b hb => ⟨hb.1, by rw [hse5]; exact hb.2⟩))
  replace hlv2 : w1.heap.size < ((w4.setCell ⟨w1.heap.size, 1, none⟩ (.string rf.1)).setCell ⟨w1.heap.size, 2, none⟩ (.slice A2 rf.2.length d2)).heap.size := by rw [hse5]; exact hlv2
  generalize hW : ((w4.setCell ⟨w1.heap.size, 1, none⟩ (.string rf.1)).setCell ⟨w1.heap.size, 2, none⟩ (.slice A2 rf.2.length d2)) = wg5 at *
  clear hW
  cases hsg : isSg [61] ts4 with
  | true =>
    have HD4 := Lib.hid (HD3.out.trans (if_pos hsg))
    refine (ptakeSign_b HP5.out ⟨#[61]⟩ _ hsg).mono ?_
    rintro e wb5 ⟨rfl, hp, ht⟩
    have HT6 := Lib.hid (HT5.out.step HT5.out.size ht)
    have HR6 := Lib.hid (HR5.out.far ht (by omega))
    have HV6 := Lib.hid (HV5.out.far ht (by have := hlv; omega))
    replace HREF := Lib.hid (RfC.kept HREF.out (w' := wb5) (S' := fun b => w3.heap.size ≤ b ∧ b < wb5.heap.size) (fun b hb => ht.block b hb.2 (by have := hb.1; omega)) (fun b hb => ⟨hb.1, Nat.lt_of_lt_of_le hb.2 ht.size⟩))
    have hsz6 : w.heap.size < wb5.heap.size := Nat.lt_of_lt_of_le hsz5 ht.size
    replace hlv2 := Nat.lt_of_lt_of_le hlv2 ht.size
    have HP6 : Hid (PSt wb5 p ts4.tail _) := Lib.hid hp
    clear hp ht hsg
    have x0 := HV6.out.cell 0 _ rfl
    have fx0 := HV6.out.frz 0
    have x1 := HV6.out.cell 1 _ rfl
    have fx1 := HV6.out.frz 1
    have x2 := HV6.out.cell 2 _ rfl
    have fx2 := HV6.out.frz 2
    have x3 := HV6.out.cell 3 _ rfl
    have fx3 := HV6.out.frz 3
    have x4 := HV6.out.cell 4 _ rfl
    have fx4 := HV6.out.frz 4
    have x5 := HV6.out.cell 5 _ rfl
    have fx5 := HV6.out.frz 5
    have x6 := HV6.out.cell 6 _ rfl
    have fx6 := HV6.out.frz 6
    have x7 := HV6.out.cell 7 _ rfl
    have fx7 := HV6.out.frz 7
    have x8 := HV6.out.cell 8 _ rfl
    have fx8 := HV6.out.frz 8
    have x9 := HV6.out.cell 9 _ rfl
    have fx9 := HV6.out.frz 9
    go_wp2_with fail
    clear x0 fx0 x1 fx1 x2 fx2 x3 fx3 x4 fx4 x5 fx5 x6 fx6 x7 fx7 x8 fx8 x9 fx9
    have HT7 : Hid (Tw p w.heap.size w (wb5.setCell ⟨w1.heap.size, 3, none⟩ (.bool true))) := Lib.hid (HT6.out.setNew (by omega) 3 (.bool true))
    have HR7 : Hid (Bk (wb5.setCell ⟨w1.heap.size, 3, none⟩ (.bool true)) w.heap.size #[.string ⟨#[]⟩, .string ⟨#[]⟩, .slice none 0 0, .bool false, .int .i64 0, .int .i64 0, .string ⟨#[]⟩, .slice none 0 0, .slice none 0 0, .slice none 0 0] 55) := Lib.hid (HR6.out.off (by omega) 3 (.bool true))
    have HV7 : Hid (Bk (wb5.setCell ⟨w1.heap.size, 3, none⟩ (.bool true)) w1.heap.size #[.string nm, .string rf.1, .slice A2 rf.2.length d2, .bool true, .int .i64 0, .int .i64 0, .string ⟨#[]⟩, .slice none 0 0, .slice none 0 0, .slice none 0 0] 55) := Lib.hid (HV6.out.setl 3 (.bool true))
    have HP7 := Lib.hid (HP6.out.same ((Below.refl (p + 1) wb5).setCell (p := ⟨w1.heap.size, 3, none⟩) (by show p + 1 ≤ w1.heap.size; omega) (.bool true)))
    have hsz7 : w.heap.size < (wb5.setCell ⟨w1.heap.size, 3, none⟩ (.bool true)).heap.size := by simp [World.setCell]; omega
    have hse7 : (wb5.setCell ⟨w1.heap.size, 3, none⟩ (.bool true)).heap.size = wb5.heap.size := by simp [World.setCell]
    replace HREF := Lib.hid (RfC.kept HREF.out (w' := (wb5.setCell ⟨w1.heap.size, 3, none⟩ (.bool true))) (S' := fun b => w3.heap.size ≤ b ∧ b < (wb5.setCell ⟨w1.heap.size, 3, none⟩ (.bool true)).heap.size) (fun b hb => by rw [Below.heap_setCell _ _ _ _ (show b ≠ w1.heap.size by have := hb.1; omega)]) (fun b hb => ⟨hb.1, by rw [hse7]; exact hb.2⟩))
    replace hlv2 : w1.heap.size < (wb5.setCell ⟨w1.heap.size, 3, none⟩ (.bool true)).heap.size := by rw [hse7]; exact hlv2
    generalize hW : (wb5.setCell ⟨w1.heap.size, 3, none⟩ (.bool true)) = wg7 at *
    clear hW
    have hlw8 : w1.heap.size < wg7.heap.size := hlv2
    refine (HVEL.out _ _ _ HP7.out).mono ?_
    rintro e w8 (⟨val, ts8, v8, m8, hr, rfl, hx, hp, ht⟩ | ⟨x, hr, rfl, ht⟩)
    rotate_left
    · exact ⟨rfl, .inr ⟨_, HD4.out.trans (exB_er hr), rfl, HT7.out.step HT7.out.size ht⟩⟩
    have HD5 := Lib.hid (HD4.out.trans (exB_ok hr))
    have HT8 := Lib.hid (HT7.out.step HT7.out.size ht)
    have HR8 := Lib.hid (HR7.out.far ht (by omega))
    have HV8 := Lib.hid (HV7.out.far ht (by have := hlv; omega))
    replace HREF := Lib.hid (RfC.kept HREF.out (w' := w8) (S' := fun b => w3.heap.size ≤ b ∧ b < w8.heap.size) (fun b hb => ht.block b hb.2 (by have := hb.1; omega)) (fun b hb => ⟨hb.1, Nat.lt_of_lt_of_le hb.2 ht.size⟩))
    have hsz8 : w.heap.size < w8.heap.size := Nat.lt_of_lt_of_le hsz7 ht.size
    replace hlv2 := Nat.lt_of_lt_of_le hlv2 ht.size
    have HP8 := Lib.hid hp
    have hlo8 : wg7.heap.size ≤ w8.heap.size := ht.size
    obtain ⟨k, z, s, A, li, ci, KA, lk, ck, hv1⟩ := RdS.form hx
    subst hv1
    have HX := Lib.hid hx
    clear hr hp ht hx
    have x0 := HV8.out.cell 0 _ rfl
    have fx0 := HV8.out.frz 0
    have x1 := HV8.out.cell 1 _ rfl
    have fx1 := HV8.out.frz 1
    have x2 := HV8.out.cell 2 _ rfl
    have fx2 := HV8.out.frz 2
    have x3 := HV8.out.cell 3 _ rfl
    have fx3 := HV8.out.frz 3
    have x4 := HV8.out.cell 4 _ rfl
    have fx4 := HV8.out.frz 4
    have x5 := HV8.out.cell 5 _ rfl
    have fx5 := HV8.out.frz 5
    have x6 := HV8.out.cell 6 _ rfl
    have fx6 := HV8.out.frz 6
    have x7 := HV8.out.cell 7 _ rfl
    have fx7 := HV8.out.frz 7
    have x8 := HV8.out.cell 8 _ rfl
    have fx8 := HV8.out.frz 8
    have x9 := HV8.out.cell 9 _ rfl
    have fx9 := HV8.out.frz 9
    go_wp2_with fail
    clear x0 fx0 x1 fx1 x2 fx2 x3 fx3 x4 fx4 x5 fx5 x6 fx6 x7 fx7 x8 fx8 x9 fx9
    have HT9 : Hid (Tw p w.heap.size w (((((w8.setCell ⟨w1.heap.size, 4, none⟩ (.int .i64 k)).setCell ⟨w1.heap.size, 5, none⟩ (.int .i64 z)).setCell ⟨w1.heap.size, 6, none⟩ (.string s)).setCell ⟨w1.heap.size, 7, none⟩ (.slice A li ci)).setCell ⟨w1.heap.size, 8, none⟩ (.slice KA lk ck))) := Lib.hid (((((HT8.out.setNew (by omega) 4 (.int .i64 k)).setNew (by omega) 5 (.int .i64 z)).setNew (by omega) 6 (.string s)).setNew (by omega) 7 (.slice A li ci)).setNew (by omega) 8 (.slice KA lk ck))
    have HR9 : Hid (Bk (((((w8.setCell ⟨w1.heap.size, 4, none⟩ (.int .i64 k)).setCell ⟨w1.heap.size, 5, none⟩ (.int .i64 z)).setCell ⟨w1.heap.size, 6, none⟩ (.string s)).setCell ⟨w1.heap.size, 7, none⟩ (.slice A li ci)).setCell ⟨w1.heap.size, 8, none⟩ (.slice KA lk ck)) w.heap.size #[.string ⟨#[]⟩, .string ⟨#[]⟩, .slice none 0 0, .bool false, .int .i64 0, .int .i64 0, .string ⟨#[]⟩, .slice none 0 0, .slice none 0 0, .slice none 0 0] 55) := Lib.hid (((((HR8.out.off (by omega) 4 (.int .i64 k)).off (by omega) 5 (.int .i64 z)).off (by omega) 6 (.string s)).off (by omega) 7 (.slice A li ci)).off (by omega) 8 (.slice KA lk ck))
    have HV9 : Hid (Bk (((((w8.setCell ⟨w1.heap.size, 4, none⟩ (.int .i64 k)).setCell ⟨w1.heap.size, 5, none⟩ (.int .i64 z)).setCell ⟨w1.heap.size, 6, none⟩ (.string s)).setCell ⟨w1.heap.size, 7, none⟩ (.slice A li ci)).setCell ⟨w1.heap.size, 8, none⟩ (.slice KA lk ck)) w1.heap.size #[.string nm, .string rf.1, .slice A2 rf.2.length d2, .bool true, .int .i64 k, .int .i64 z, .string s, .slice A li ci, .slice KA lk ck, .slice none 0 0] 55) := Lib.hid (((((HV8.out.setl 4 (.int .i64 k)).setl 5 (.int .i64 z)).setl 6 (.string s)).setl 7 (.slice A li ci)).setl 8 (.slice KA lk ck))
    have HP9 := Lib.hid (HP8.out.same ((((((Below.refl (p + 1) w8).setCell (p := ⟨w1.heap.size, 4, none⟩) (by show p + 1 ≤ w1.heap.size; omega) (.int .i64 k)).setCell (p := ⟨w1.heap.size, 5, none⟩) (by show p + 1 ≤ w1.heap.size; omega) (.int .i64 z)).setCell (p := ⟨w1.heap.size, 6, none⟩) (by show p + 1 ≤ w1.heap.size; omega) (.string s)).setCell (p := ⟨w1.heap.size, 7, none⟩) (by show p + 1 ≤ w1.heap.size; omega) (.slice A li ci)).setCell (p := ⟨w1.heap.size, 8, none⟩) (by show p + 1 ≤ w1.heap.size; omega) (.slice KA lk ck)))
    have hsz9 : w.heap.size < (((((w8.setCell ⟨w1.heap.size, 4, none⟩ (.int .i64 k)).setCell ⟨w1.heap.size, 5, none⟩ (.int .i64 z)).setCell ⟨w1.heap.size, 6, none⟩ (.string s)).setCell ⟨w1.heap.size, 7, none⟩ (.slice A li ci)).setCell ⟨w1.heap.size, 8, none⟩ (.slice KA lk ck)).heap.size := by simp [World.setCell]; omega
    have hse9 : (((((w8.setCell ⟨w1.heap.size, 4, none⟩ (.int .i64 k)).setCell ⟨w1.heap.size, 5, none⟩ (.int .i64 z)).setCell ⟨w1.heap.size, 6, none⟩ (.string s)).setCell ⟨w1.heap.size, 7, none⟩ (.slice A li ci)).setCell ⟨w1.heap.size, 8, none⟩ (.slice KA lk ck)).heap.size = w8.heap.size := by simp [World.setCell]
    replace HREF := Lib.hid (RfC.kept HREF.out (w' := (((((w8.setCell ⟨w1.heap.size, 4, none⟩ (.int .i64 k)).setCell ⟨w1.heap.size, 5, none⟩ (.int .i64 z)).setCell ⟨w1.heap.size, 6, none⟩ (.string s)).setCell ⟨w1.heap.size, 7, none⟩ (.slice A li ci)).setCell ⟨w1.heap.size, 8, none⟩ (.slice KA lk ck))) (S' := fun b => w3.heap.size ≤ b ∧ b < (((((w8.setCell ⟨w1.heap.size, 4, none⟩ (.int .i64 k)).setCell ⟨w1.heap.size, 5, none⟩ (.int .i64 z)).setCell ⟨w1.heap.size, 6, none⟩ (.string s)).setCell ⟨w1.heap.size, 7, none⟩ (.slice A li ci)).setCell ⟨w1.heap.size, 8, none⟩ (.slice KA lk ck)).heap.size) (fun b hb => by rw [Below.heap_setCell _ _ _ _ (show b ≠ w1.heap.size by have := hb.1; omega), Below.heap_setCell _ _ _ _ (show b ≠ w1.heap.size by have := hb.1; omega), Below.heap_setCell _ _ _ _ (show b ≠ w1.heap.size by have := hb.1; omega), Below.heap_setCell _ _ _ _ (show b ≠ w1.heap.size by have := hb.1; omega), Below.heap_setCell _ _ _ _ (show b ≠ w1.heap.size by have := hb.1; omega)]) (fun b hb => ⟨hb.1, by rw [hse9]; exact hb.2⟩))
    replace HX := Lib.hid (RdS.kept HX.out (w' := (((((w8.setCell ⟨w1.heap.size, 4, none⟩ (.int .i64 k)).setCell ⟨w1.heap.size, 5, none⟩ (.int .i64 z)).setCell ⟨w1.heap.size, 6, none⟩ (.string s)).setCell ⟨w1.heap.size, 7, none⟩ (.slice A li ci)).setCell ⟨w1.heap.size, 8, none⟩ (.slice KA lk ck))) (S' := fun b => wg7.heap.size ≤ b ∧ b < (((((w8.setCell ⟨w1.heap.size, 4, none⟩ (.int .i64 k)).setCell ⟨w1.heap.size, 5, none⟩ (.int .i64 z)).setCell ⟨w1.heap.size, 6, none⟩ (.string s)).setCell ⟨w1.heap.size, 7, none⟩ (.slice A li ci)).setCell ⟨w1.heap.size, 8, none⟩ (.slice KA lk ck)).heap.size) (fun b hb => by rw [Below.heap_setCell _ _ _ _ (show b ≠ w1.heap.size by have := hb.1; omega), Below.heap_setCell _ _ _ _ (show b ≠ w1.heap.size by have := hb.1; omega), Below.heap_setCell _ _ _ _ (show b ≠ w1.heap.size by have := hb.1; omega), Below.heap_setCell _ _ _ _ (show b ≠ w1.heap.size by have := hb.1; omega), Below.heap_setCell _ _ _ _ (show b ≠ w1.heap.size by have := hb.1; omega)]) (fun b hb => ⟨hb.1, by rw [hse9]; exact hb.2⟩))
    replace hlv2 : w1.heap.size < (((((w8.setCell ⟨w1.heap.size, 4, none⟩ (.int .i64 k)).setCell ⟨w1.heap.size, 5, none⟩ (.int .i64 z)).setCell ⟨w1.heap.size, 6, none⟩ (.string s)).setCell ⟨w1.heap.size, 7, none⟩ (.slice A li ci)).setCell ⟨w1.heap.size, 8, none⟩ (.slice KA lk ck)).heap.size := by rw [hse9]; exact hlv2
    generalize hW : (((((w8.setCell ⟨w1.heap.size, 4, none⟩ (.int .i64 k)).setCell ⟨w1.heap.size, 5, none⟩ (.int .i64 z)).setCell ⟨w1.heap.size, 6, none⟩ (.string s)).setCell ⟨w1.heap.size, 7, none⟩ (.slice A li ci)).setCell ⟨w1.heap.size, 8, none⟩ (.slice KA lk ck)) = wg9 at *
    clear hW
    have hlw10 : w1.heap.size < wg9.heap.size := hlv2
    refine (pdirectives_any p del HDEL.out HDLT.out _ _ _ HP9.out).mono ?_
    rintro e w10 (⟨dirs, ts10, v10, m10, hr, rfl, hx, hp, ht⟩ | ⟨x, hr, rfl, ht⟩)
    rotate_left
    · exact ⟨rfl, .inr ⟨_, HD5.out.trans (exB_er hr), rfl, HT9.out.step HT9.out.size ht⟩⟩
    have HD6 := Lib.hid (HD5.out.trans (exB_ok hr))
    have HT10 := Lib.hid (HT9.out.step HT9.out.size ht)
    have HR10 := Lib.hid (HR9.out.far ht (by omega))
    have HV10 := Lib.hid (HV9.out.far ht (by have := hlv; omega))
    replace HREF := Lib.hid (RfC.kept HREF.out (w' := w10) (S' := fun b => w3.heap.size ≤ b ∧ b < w10.heap.size) (fun b hb => ht.block b hb.2 (by have := hb.1; omega)) (fun b hb => ⟨hb.1, Nat.lt_of_lt_of_le hb.2 ht.size⟩))
    replace HX := Lib.hid (RdS.kept HX.out (w' := w10) (S' := fun b => wg7.heap.size ≤ b ∧ b < w10.heap.size) (fun b hb => ht.block b hb.2 (by have := hb.1; omega)) (fun b hb => ⟨hb.1, Nat.lt_of_lt_of_le hb.2 ht.size⟩))
    have hsz10 : w.heap.size < w10.heap.size := Nat.lt_of_lt_of_le hsz9 ht.size
    replace hlv2 := Nat.lt_of_lt_of_le hlv2 ht.size
    have HP10 := Lib.hid hp
    have hlo10 : wg9.heap.size ≤ w10.heap.size := ht.size
    obtain ⟨A9, d9, hv9, _, _⟩ := SlS.form hx
    subst hv9
    have HDI := Lib.hid hx
    clear hr hp ht hx
    have x0 := HV10.out.cell 0 _ rfl
    have fx0 := HV10.out.frz 0
    have x1 := HV10.out.cell 1 _ rfl
    have fx1 := HV10.out.frz 1
    have x2 := HV10.out.cell 2 _ rfl
    have fx2 := HV10.out.frz 2
    have x3 := HV10.out.cell 3 _ rfl
    have fx3 := HV10.out.frz 3
    have x4 := HV10.out.cell 4 _ rfl
    have fx4 := HV10.out.frz 4
    have x5 := HV10.out.cell 5 _ rfl
    have fx5 := HV10.out.frz 5
    have x6 := HV10.out.cell 6 _ rfl
    have fx6 := HV10.out.frz 6
    have x7 := HV10.out.cell 7 _ rfl
    have fx7 := HV10.out.frz 7
    have x8 := HV10.out.cell 8 _ rfl
    have fx8 := HV10.out.frz 8
    have x9 := HV10.out.cell 9 _ rfl
    have fx9 := HV10.out.frz 9
    have y0 := HR10.out.cell 0 _ rfl
    have fy0 := HR10.out.frz 0
    have y1 := HR10.out.cell 1 _ rfl
    have fy1 := HR10.out.frz 1
    have y2 := HR10.out.cell 2 _ rfl
    have fy2 := HR10.out.frz 2
    have y3 := HR10.out.cell 3 _ rfl
    have fy3 := HR10.out.frz 3
    have y4 := HR10.out.cell 4 _ rfl
    have fy4 := HR10.out.frz 4
    have y5 := HR10.out.cell 5 _ rfl
    have fy5 := HR10.out.frz 5
    have y6 := HR10.out.cell 6 _ rfl
    have fy6 := HR10.out.frz 6
    have y7 := HR10.out.cell 7 _ rfl
    have fy7 := HR10.out.frz 7
    have y8 := HR10.out.cell 8 _ rfl
    have fy8 := HR10.out.frz 8
    have y9 := HR10.out.cell 9 _ rfl
    have fy9 := HR10.out.frz 9
    have hne : w.heap.size ≠ w1.heap.size := by omega
    have hne2 : w1.heap.size ≠ w.heap.size := by omega
    go_wp2_with fail
    clear x0 fx0 x1 fx1 x2 fx2 x3 fx3 x4 fx4 x5 fx5 x6 fx6 x7 fx7 x8 fx8 x9 fx9
    clear y0 fy0 y1 fy1 y2 fy2 y3 fy3 y4 fy4 y5 fy5 y6 fy6 y7 fy7 y8 fy8 y9 fy9
    have HT11 : Hid (Tw p w.heap.size w (w10.setCell ⟨w1.heap.size, 9, none⟩ (.slice A9 dirs.length d9))) := Lib.hid (HT10.out.setNew (by omega) 9 (.slice A9 dirs.length d9))
    have HR11 : Hid (Bk (w10.setCell ⟨w1.heap.size, 9, none⟩ (.slice A9 dirs.length d9)) w.heap.size #[.string ⟨#[]⟩, .string ⟨#[]⟩, .slice none 0 0, .bool false, .int .i64 0, .int .i64 0, .string ⟨#[]⟩, .slice none 0 0, .slice none 0 0, .slice none 0 0] 55) := Lib.hid (HR10.out.off (by omega) 9 (.slice A9 dirs.length d9))
    have HV11 : Hid (Bk (w10.setCell ⟨w1.heap.size, 9, none⟩ (.slice A9 dirs.length d9)) w1.heap.size #[.string nm, .string rf.1, .slice A2 rf.2.length d2, .bool true, .int .i64 k, .int .i64 z, .string s, .slice A li ci, .slice KA lk ck, .slice A9 dirs.length d9] 55) := Lib.hid (HV10.out.setl 9 (.slice A9 dirs.length d9))
    have HP11 := Lib.hid (HP10.out.same ((Below.refl (p + 1) w10).setCell (p := ⟨w1.heap.size, 9, none⟩) (by show p + 1 ≤ w1.heap.size; omega) (.slice A9 dirs.length d9)))
    have hsz11 : w.heap.size < (w10.setCell ⟨w1.heap.size, 9, none⟩ (.slice A9 dirs.length d9)).heap.size := by simp [World.setCell]; omega
    have hse11 : (w10.setCell ⟨w1.heap.size, 9, none⟩ (.slice A9 dirs.length d9)).heap.size = w10.heap.size := by simp [World.setCell]
    replace HREF := Lib.hid (RfC.kept HREF.out (w' := (w10.setCell ⟨w1.heap.size, 9, none⟩ (.slice A9 dirs.length d9))) (S' := fun b => w3.heap.size ≤ b ∧ b < (w10.setCell ⟨w1.heap.size, 9, none⟩ (.slice A9 dirs.length d9)).heap.size) (fun b hb => by rw [Below.heap_setCell _ _ _ _ (show b ≠ w1.heap.size by have := hb.1; omega)]) (fun b hb => ⟨hb.1, by rw [hse11]; exact hb.2⟩))
    replace HX := Lib.hid (RdS.kept HX.out (w' := (w10.setCell ⟨w1.heap.size, 9, none⟩ (.slice A9 dirs.length d9))) (S' := fun b => wg7.heap.size ≤ b ∧ b < (w10.setCell ⟨w1.heap.size, 9, none⟩ (.slice A9 dirs.length d9)).heap.size) (fun b hb => by rw [Below.heap_setCell _ _ _ _ (show b ≠ w1.heap.size by have := hb.1; omega)]) (fun b hb => ⟨hb.1, by rw [hse11]; exact hb.2⟩))
    replace HDI := Lib.hid (SlS.kept DirC.stays HDI.out (w' := (w10.setCell ⟨w1.heap.size, 9, none⟩ (.slice A9 dirs.length d9))) (S' := fun b => wg9.heap.size ≤ b ∧ b < (w10.setCell ⟨w1.heap.size, 9, none⟩ (.slice A9 dirs.length d9)).heap.size) (fun b hb => by rw [Below.heap_setCell _ _ _ _ (show b ≠ w1.heap.size by have := hb.1; omega)]) (fun b hb => ⟨hb.1, by rw [hse11]; exact hb.2⟩))
    replace hlv2 : w1.heap.size < (w10.setCell ⟨w1.heap.size, 9, none⟩ (.slice A9 dirs.length d9)).heap.size := by rw [hse11]; exact hlv2
    generalize hW : (w10.setCell ⟨w1.heap.size, 9, none⟩ (.slice A9 dirs.length d9)) = wg11 at *
    clear hW
    have HZ : Hid (Bk ((((((((((wg11.setCell ⟨w.heap.size, 0, none⟩ (.string nm)).setCell ⟨w.heap.size, 1, none⟩ (.string rf.1)).setCell ⟨w.heap.size, 2, none⟩ (.slice A2 rf.2.length d2)).setCell ⟨w.heap.size, 3, none⟩ (.bool true)).setCell ⟨w.heap.size, 4, none⟩ (.int .i64 k)).setCell ⟨w.heap.size, 5, none⟩ (.int .i64 z)).setCell ⟨w.heap.size, 6, none⟩ (.string s)).setCell ⟨w.heap.size, 7, none⟩ (.slice A li ci)).setCell ⟨w.heap.size, 8, none⟩ (.slice KA lk ck)).setCell ⟨w.heap.size, 9, none⟩ (.slice A9 dirs.length d9)) w.heap.size #[.string nm, .string rf.1, .slice A2 rf.2.length d2, .bool true, .int .i64 k, .int .i64 z, .string s, .slice A li ci, .slice KA lk ck, .slice A9 dirs.length d9] 55) := Lib.hid ((((((((((HR11.out.setl 0 (.string nm)).setl 1 (.string rf.1)).setl 2 (.slice A2 rf.2.length d2)).setl 3 (.bool true)).setl 4 (.int .i64 k)).setl 5 (.int .i64 z)).setl 6 (.string s)).setl 7 (.slice A li ci)).setl 8 (.slice KA lk ck)).setl 9 (.slice A9 dirs.length d9))
    have HTZ : Hid (Tw p w.heap.size w ((((((((((wg11.setCell ⟨w.heap.size, 0, none⟩ (.string nm)).setCell ⟨w.heap.size, 1, none⟩ (.string rf.1)).setCell ⟨w.heap.size, 2, none⟩ (.slice A2 rf.2.length d2)).setCell ⟨w.heap.size, 3, none⟩ (.bool true)).setCell ⟨w.heap.size, 4, none⟩ (.int .i64 k)).setCell ⟨w.heap.size, 5, none⟩ (.int .i64 z)).setCell ⟨w.heap.size, 6, none⟩ (.string s)).setCell ⟨w.heap.size, 7, none⟩ (.slice A li ci)).setCell ⟨w.heap.size, 8, none⟩ (.slice KA lk ck)).setCell ⟨w.heap.size, 9, none⟩ (.slice A9 dirs.length d9))) := Lib.hid ((((((((((HT11.out.setNew (Nat.le_refl _) 0 (.string nm)).setNew (Nat.le_refl _) 1 (.string rf.1)).setNew (Nat.le_refl _) 2 (.slice A2 rf.2.length d2)).setNew (Nat.le_refl _) 3 (.bool true)).setNew (Nat.le_refl _) 4 (.int .i64 k)).setNew (Nat.le_refl _) 5 (.int .i64 z)).setNew (Nat.le_refl _) 6 (.string s)).setNew (Nat.le_refl _) 7 (.slice A li ci)).setNew (Nat.le_refl _) 8 (.slice KA lk ck)).setNew (Nat.le_refl _) 9 (.slice A9 dirs.length d9))
    have HPZ := Lib.hid (HP11.out.same (((((((((((Below.refl (p + 1) wg11).setCell (p := ⟨w.heap.size, 0, none⟩) (by show p + 1 ≤ w.heap.size; omega) (.string nm)).setCell (p := ⟨w.heap.size, 1, none⟩) (by show p + 1 ≤ w.heap.size; omega) (.string rf.1)).setCell (p := ⟨w.heap.size, 2, none⟩) (by show p + 1 ≤ w.heap.size; omega) (.slice A2 rf.2.length d2)).setCell (p := ⟨w.heap.size, 3, none⟩) (by show p + 1 ≤ w.heap.size; omega) (.bool true)).setCell (p := ⟨w.heap.size, 4, none⟩) (by show p + 1 ≤ w.heap.size; omega) (.int .i64 k)).setCell (p := ⟨w.heap.size, 5, none⟩) (by show p + 1 ≤ w.heap.size; omega) (.int .i64 z)).setCell (p := ⟨w.heap.size, 6, none⟩) (by show p + 1 ≤ w.heap.size; omega) (.string s)).setCell (p := ⟨w.heap.size, 7, none⟩) (by show p + 1 ≤ w.heap.size; omega) (.slice A li ci)).setCell (p := ⟨w.heap.size, 8, none⟩) (by show p + 1 ≤ w.heap.size; omega) (.slice KA lk ck)).setCell (p := ⟨w.heap.size, 9, none⟩) (by show p + 1 ≤ w.heap.size; omega) (.slice A9 dirs.length d9)))
    have hsez : ((((((((((wg11.setCell ⟨w.heap.size, 0, none⟩ (.string nm)).setCell ⟨w.heap.size, 1, none⟩ (.string rf.1)).setCell ⟨w.heap.size, 2, none⟩ (.slice A2 rf.2.length d2)).setCell ⟨w.heap.size, 3, none⟩ (.bool true)).setCell ⟨w.heap.size, 4, none⟩ (.int .i64 k)).setCell ⟨w.heap.size, 5, none⟩ (.int .i64 z)).setCell ⟨w.heap.size, 6, none⟩ (.string s)).setCell ⟨w.heap.size, 7, none⟩ (.slice A li ci)).setCell ⟨w.heap.size, 8, none⟩ (.slice KA lk ck)).setCell ⟨w.heap.size, 9, none⟩ (.slice A9 dirs.length d9)).heap.size = wg11.heap.size := by simp [World.setCell]
    replace HREF := Lib.hid (RfC.kept HREF.out (w' := ((((((((((wg11.setCell ⟨w.heap.size, 0, none⟩ (.string nm)).setCell ⟨w.heap.size, 1, none⟩ (.string rf.1)).setCell ⟨w.heap.size, 2, none⟩ (.slice A2 rf.2.length d2)).setCell ⟨w.heap.size, 3, none⟩ (.bool true)).setCell ⟨w.heap.size, 4, none⟩ (.int .i64 k)).setCell ⟨w.heap.size, 5, none⟩ (.int .i64 z)).setCell ⟨w.heap.size, 6, none⟩ (.string s)).setCell ⟨w.heap.size, 7, none⟩ (.slice A li ci)).setCell ⟨w.heap.size, 8, none⟩ (.slice KA lk ck)).setCell ⟨w.heap.size, 9, none⟩ (.slice A9 dirs.length d9))) (S' := fun b => w.heap.size ≤ b ∧ b < ((((((((((wg11.setCell ⟨w.heap.size, 0, none⟩ (.string nm)).setCell ⟨w.heap.size, 1, none⟩ (.string rf.1)).setCell ⟨w.heap.size, 2, none⟩ (.slice A2 rf.2.length d2)).setCell ⟨w.heap.size, 3, none⟩ (.bool true)).setCell ⟨w.heap.size, 4, none⟩ (.int .i64 k)).setCell ⟨w.heap.size, 5, none⟩ (.int .i64 z)).setCell ⟨w.heap.size, 6, none⟩ (.string s)).setCell ⟨w.heap.size, 7, none⟩ (.slice A li ci)).setCell ⟨w.heap.size, 8, none⟩ (.slice KA lk ck)).setCell ⟨w.heap.size, 9, none⟩ (.slice A9 dirs.length d9)).heap.size) (fun b hb => by rw [Below.heap_setCell _ _ _ _ (show b ≠ w.heap.size by have := hb.1; omega), Below.heap_setCell _ _ _ _ (show b ≠ w.heap.size by have := hb.1; omega), Below.heap_setCell _ _ _ _ (show b ≠ w.heap.size by have := hb.1; omega), Below.heap_setCell _ _ _ _ (show b ≠ w.heap.size by have := hb.1; omega), Below.heap_setCell _ _ _ _ (show b ≠ w.heap.size by have := hb.1; omega), Below.heap_setCell _ _ _ _ (show b ≠ w.heap.size by have := hb.1; omega), Below.heap_setCell _ _ _ _ (show b ≠ w.heap.size by have := hb.1; omega), Below.heap_setCell _ _ _ _ (show b ≠ w.heap.size by have := hb.1; omega), Below.heap_setCell _ _ _ _ (show b ≠ w.heap.size by have := hb.1; omega), Below.heap_setCell _ _ _ _ (show b ≠ w.heap.size by have := hb.1; omega)]) (fun b hb => ⟨by have := hb.1; omega, by rw [hsez]; exact hb.2⟩))
    replace HX := Lib.hid (RdS.kept HX.out (w' := ((((((((((wg11.setCell ⟨w.heap.size, 0, none⟩ (.string nm)).setCell ⟨w.heap.size, 1, none⟩ (.string rf.1)).setCell ⟨w.heap.size, 2, none⟩ (.slice A2 rf.2.length d2)).setCell ⟨w.heap.size, 3, none⟩ (.bool true)).setCell ⟨w.heap.size, 4, none⟩ (.int .i64 k)).setCell ⟨w.heap.size, 5, none⟩ (.int .i64 z)).setCell ⟨w.heap.size, 6, none⟩ (.string s)).setCell ⟨w.heap.size, 7, none⟩ (.slice A li ci)).setCell ⟨w.heap.size, 8, none⟩ (.slice KA lk ck)).setCell ⟨w.heap.size, 9, none⟩ (.slice A9 dirs.length d9))) (S' := fun b => w.heap.size ≤ b ∧ b < ((((((((((wg11.setCell ⟨w.heap.size, 0, none⟩ (.string nm)).setCell ⟨w.heap.size, 1, none⟩ (.string rf.1)).setCell ⟨w.heap.size, 2, none⟩ (.slice A2 rf.2.length d2)).setCell ⟨w.heap.size, 3, none⟩ (.bool true)).setCell ⟨w.heap.size, 4, none⟩ (.int .i64 k)).setCell ⟨w.heap.size, 5, none⟩ (.int .i64 z)).setCell ⟨w.heap.size, 6, none⟩ (.string s)).setCell ⟨w.heap.size, 7, none⟩ (.slice A li ci)).setCell ⟨w.heap.size, 8, none⟩ (.slice KA lk ck)).setCell ⟨w.heap.size, 9, none⟩ (.slice A9 dirs.length d9)).heap.size) (fun b hb => by rw [Below.heap_setCell _ _ _ _ (show b ≠ w.heap.size by have := hb.1; omega), Below.heap_setCell _ _ _ _ (show b ≠ w.heap.size by have := hb.1; omega), Below.heap_setCell _ _ _ _ (show b ≠ w.heap.size by have := hb.1; omega), Below.heap_setCell _ _ _ _ (show b ≠ w.heap.size by have := hb.1; omega), Below.heap_setCell _ _ _ _ (show b ≠ w.heap.size by have := hb.1; omega), Below.heap_setCell _ _ _ _ (show b ≠ w.heap.size by have := hb.1; omega), Below.heap_setCell _ _ _ _ (show b ≠ w.heap.size by have := hb.1; omega), Below.heap_setCell _ _ _ _ (show b ≠ w.heap.size by have := hb.1; omega), Below.heap_setCell _ _ _ _ (show b ≠ w.heap.size by have := hb.1; omega), Below.heap_setCell _ _ _ _ (show b ≠ w.heap.size by have := hb.1; omega)]) (fun b hb => ⟨by have := hb.1; omega, by rw [hsez]; exact hb.2⟩))
    replace HDI := Lib.hid (SlS.kept DirC.stays HDI.out (w' := ((((((((((wg11.setCell ⟨w.heap.size, 0, none⟩ (.string nm)).setCell ⟨w.heap.size, 1, none⟩ (.string rf.1)).setCell ⟨w.heap.size, 2, none⟩ (.slice A2 rf.2.length d2)).setCell ⟨w.heap.size, 3, none⟩ (.bool true)).setCell ⟨w.heap.size, 4, none⟩ (.int .i64 k)).setCell ⟨w.heap.size, 5, none⟩ (.int .i64 z)).setCell ⟨w.heap.size, 6, none⟩ (.string s)).setCell ⟨w.heap.size, 7, none⟩ (.slice A li ci)).setCell ⟨w.heap.size, 8, none⟩ (.slice KA lk ck)).setCell ⟨w.heap.size, 9, none⟩ (.slice A9 dirs.length d9))) (S' := fun b => w.heap.size ≤ b ∧ b < ((((((((((wg11.setCell ⟨w.heap.size, 0, none⟩ (.string nm)).setCell ⟨w.heap.size, 1, none⟩ (.string rf.1)).setCell ⟨w.heap.size, 2, none⟩ (.slice A2 rf.2.length d2)).setCell ⟨w.heap.size, 3, none⟩ (.bool true)).setCell ⟨w.heap.size, 4, none⟩ (.int .i64 k)).setCell ⟨w.heap.size, 5, none⟩ (.int .i64 z)).setCell ⟨w.heap.size, 6, none⟩ (.string s)).setCell ⟨w.heap.size, 7, none⟩ (.slice A li ci)).setCell ⟨w.heap.size, 8, none⟩ (.slice KA lk ck)).setCell ⟨w.heap.size, 9, none⟩ (.slice A9 dirs.length d9)).heap.size) (fun b hb => by rw [Below.heap_setCell _ _ _ _ (show b ≠ w.heap.size by have := hb.1; omega), Below.heap_setCell _ _ _ _ (show b ≠ w.heap.size by have := hb.1; omega), Below.heap_setCell _ _ _ _ (show b ≠ w.heap.size by have := hb.1; omega), Below.heap_setCell _ _ _ _ (show b ≠ w.heap.size by have := hb.1; omega), Below.heap_setCell _ _ _ _ (show b ≠ w.heap.size by have := hb.1; omega), Below.heap_setCell _ _ _ _ (show b ≠ w.heap.size by have := hb.1; omega), Below.heap_setCell _ _ _ _ (show b ≠ w.heap.size by have := hb.1; omega), Below.heap_setCell _ _ _ _ (show b ≠ w.heap.size by have := hb.1; omega), Below.heap_setCell _ _ _ _ (show b ≠ w.heap.size by have := hb.1; omega), Below.heap_setCell _ _ _ _ (show b ≠ w.heap.size by have := hb.1; omega)]) (fun b hb => ⟨by have := hb.1; omega, by rw [hsez]; exact hb.2⟩))
    have z0 := HZ.out.cell 0 _ rfl
    have z1 := HZ.out.cell 1 _ rfl
    have z2 := HZ.out.cell 2 _ rfl
    have z3 := HZ.out.cell 3 _ rfl
    have z4 := HZ.out.cell 4 _ rfl
    have z5 := HZ.out.cell 5 _ rfl
    have z6 := HZ.out.cell 6 _ rfl
    have z7 := HZ.out.cell 7 _ rfl
    have z8 := HZ.out.cell 8 _ rfl
    have z9 := HZ.out.cell 9 _ rfl
    exact bodyPost_ret (v := .agg #[.string nm, .string rf.1, .slice A2 rf.2.length d2, .bool true, .int .i64 k, .int .i64 z, .string s, .slice A li ci, .slice KA lk ck, .slice A9 dirs.length d9]) (by simp [results, Tryz.results96, go_sem, z0, z1, z2, z3, z4, z5, z6, z7, z8, z9]) rfl (.inl ⟨⟨nm, rf.1, rf.2, true, val, dirs⟩, _, _, _, HD6.out, rfl, ⟨_, _, _, _, _, _, _, _, _, _, rfl, ⟨rfl, Nat.le_trans HN.out (by decide), HREF.out, rfl, HX.out, HDI.out⟩⟩, HPZ.out, HTZ.out⟩)
  | false =>
    have HD4 := Lib.hid (HD3.out.trans (if_neg (by rw [hsg]; decide)))
    refine (ptakeSign_b HP5.out ⟨#[61]⟩ _ hsg).mono ?_
    rintro e wb5 ⟨rfl, hp, ht⟩
    have HT6 := Lib.hid (HT5.out.step HT5.out.size ht)
    have HR6 := Lib.hid (HR5.out.far ht (by omega))
    have HV6 := Lib.hid (HV5.out.far ht (by have := hlv; omega))
    replace HREF := Lib.hid (RfC.kept HREF.out (w' := wb5) (S' := fun b => w3.heap.size ≤ b ∧ b < wb5.heap.size) (fun b hb => ht.block b hb.2 (by have := hb.1; omega)) (fun b hb => ⟨hb.1, Nat.lt_of_lt_of_le hb.2 ht.size⟩))
    have hsz6 : w.heap.size < wb5.heap.size := Nat.lt_of_lt_of_le hsz5 ht.size
    replace hlv2 := Nat.lt_of_lt_of_le hlv2 ht.size
    have HP6 : Hid (PSt wb5 p ts4 _) := Lib.hid hp
    clear hp ht hsg
    have x0 := HV6.out.cell 0 _ rfl
    have fx0 := HV6.out.frz 0
    have x1 := HV6.out.cell 1 _ rfl
    have fx1 := HV6.out.frz 1
    have x2 := HV6.out.cell 2 _ rfl
    have fx2 := HV6.out.frz 2
    have x3 := HV6.out.cell 3 _ rfl
    have fx3 := HV6.out.frz 3
    have x4 := HV6.out.cell 4 _ rfl
    have fx4 := HV6.out.frz 4
    have x5 := HV6.out.cell 5 _ rfl
    have fx5 := HV6.out.frz 5
    have x6 := HV6.out.cell 6 _ rfl
    have fx6 := HV6.out.frz 6
    have x7 := HV6.out.cell 7 _ rfl
    have fx7 := HV6.out.frz 7
    have x8 := HV6.out.cell 8 _ rfl
    have fx8 := HV6.out.frz 8
    have x9 := HV6.out.cell 9 _ rfl
    have fx9 := HV6.out.frz 9
    go_wp2_with fail
    clear x0 fx0 x1 fx1 x2 fx2 x3 fx3 x4 fx4 x5 fx5 x6 fx6 x7 fx7 x8 fx8 x9 fx9
    have hlw7 : w1.heap.size < wb5.heap.size := hlv2
    refine (pdirectives_any p del HDEL.out HDLT.out _ _ _ HP6.out).mono ?_
    rintro e w7 (⟨dirs, ts7, v7, m7, hr, rfl, hx, hp, ht⟩ | ⟨x, hr, rfl, ht⟩)
    rotate_left
    · exact ⟨rfl, .inr ⟨_, HD4.out.trans (exB_er hr), rfl, HT6.out.step HT6.out.size ht⟩⟩
    have HD5 := Lib.hid (HD4.out.trans (exB_ok hr))
    have HT7 := Lib.hid (HT6.out.step HT6.out.size ht)
    have HR7 := Lib.hid (HR6.out.far ht (by omega))
    have HV7 := Lib.hid (HV6.out.far ht (by have := hlv; omega))
    replace HREF := Lib.hid (RfC.kept HREF.out (w' := w7) (S' := fun b => w3.heap.size ≤ b ∧ b < w7.heap.size) (fun b hb => ht.block b hb.2 (by have := hb.1; omega)) (fun b hb => ⟨hb.1, Nat.lt_of_lt_of_le hb.2 ht.size⟩))
    have hsz7 : w.heap.size < w7.heap.size := Nat.lt_of_lt_of_le hsz6 ht.size
    replace hlv2 := Nat.lt_of_lt_of_le hlv2 ht.size
    have HP7 := Lib.hid hp
    have hlo7 : wb5.heap.size ≤ w7.heap.size := ht.size
    obtain ⟨A9, d9, hv9, _, _⟩ := SlS.form hx
    subst hv9
    have HDI := Lib.hid hx
    clear hr hp ht hx
    have x0 := HV7.out.cell 0 _ rfl
    have fx0 := HV7.out.frz 0
    have x1 := HV7.out.cell 1 _ rfl
    have fx1 := HV7.out.frz 1
    have x2 := HV7.out.cell 2 _ rfl
    have fx2 := HV7.out.frz 2
    have x3 := HV7.out.cell 3 _ rfl
    have fx3 := HV7.out.frz 3
    have x4 := HV7.out.cell 4 _ rfl
    have fx4 := HV7.out.frz 4
    have x5 := HV7.out.cell 5 _ rfl
    have fx5 := HV7.out.frz 5
    have x6 := HV7.out.cell 6 _ rfl
    have fx6 := HV7.out.frz 6
    have x7 := HV7.out.cell 7 _ rfl
    have fx7 := HV7.out.frz 7
    have x8 := HV7.out.cell 8 _ rfl
    have fx8 := HV7.out.frz 8
    have x9 := HV7.out.cell 9 _ rfl
    have fx9 := HV7.out.frz 9
    have y0 := HR7.out.cell 0 _ rfl
    have fy0 := HR7.out.frz 0
    have y1 := HR7.out.cell 1 _ rfl
    have fy1 := HR7.out.frz 1
    have y2 := HR7.out.cell 2 _ rfl
    have fy2 := HR7.out.frz 2
    have y3 := HR7.out.cell 3 _ rfl
    have fy3 := HR7.out.frz 3
    have y4 := HR7.out.cell 4 _ rfl
    have fy4 := HR7.out.frz 4
    have y5 := HR7.out.cell 5 _ rfl
    have fy5 := HR7.out.frz 5
    have y6 := HR7.out.cell 6 _ rfl
    have fy6 := HR7.out.frz 6
    have y7 := HR7.out.cell 7 _ rfl
    have fy7 := HR7.out.frz 7
    have y8 := HR7.out.cell 8 _ rfl
    have fy8 := HR7.out.frz 8
    have y9 := HR7.out.cell 9 _ rfl
    have fy9 := HR7.out.frz 9
    have hne : w.heap.size ≠ w1.heap.size := by omega
    have hne2 : w1.heap.size ≠ w.heap.size := by omega
    go_wp2_with fail
    clear x0 fx0 x1 fx1 x2 fx2 x3 fx3 x4 fx4 x5 fx5 x6 fx6 x7 fx7 x8 fx8 x9 fx9
    clear y0 fy0 y1 fy1 y2 fy2 y3 fy3 y4 fy4 y5 fy5 y6 fy6 y7 fy7 y8 fy8 y9 fy9
    have HT8 : Hid (Tw p w.heap.size w (w7.setCell ⟨w1.heap.size, 9, none⟩ (.slice A9 dirs.length d9))) := Lib.hid (HT7.out.setNew (by omega) 9 (.slice A9 dirs.length d9))
    have HR8 : Hid (Bk (w7.setCell ⟨w1.heap.size, 9, none⟩ (.slice A9 dirs.length d9)) w.heap.size #[.string ⟨#[]⟩, .string ⟨#[]⟩, .slice none 0 0, .bool false, .int .i64 0, .int .i64 0, .string ⟨#[]⟩, .slice none 0 0, .slice none 0 0, .slice none 0 0] 55) := Lib.hid (HR7.out.off (by omega) 9 (.slice A9 dirs.length d9))
    have HV8 : Hid (Bk (w7.setCell ⟨w1.heap.size, 9, none⟩ (.slice A9 dirs.length d9)) w1.heap.size #[.string nm, .string rf.1, .slice A2 rf.2.length d2, .bool false, .int .i64 0, .int .i64 0, .string ⟨#[]⟩, .slice none 0 0, .slice none 0 0, .slice A9 dirs.length d9] 55) := Lib.hid (HV7.out.setl 9 (.slice A9 dirs.length d9))
    have HP8 := Lib.hid (HP7.out.same ((Below.refl (p + 1) w7).setCell (p := ⟨w1.heap.size, 9, none⟩) (by show p + 1 ≤ w1.heap.size; omega) (.slice A9 dirs.length d9)))
    have hsz8 : w.heap.size < (w7.setCell ⟨w1.heap.size, 9, none⟩ (.slice A9 dirs.length d9)).heap.size := by simp [World.setCell]; omega
    have hse8 : (w7.setCell ⟨w1.heap.size, 9, none⟩ (.slice A9 dirs.length d9)).heap.size = w7.heap.size := by simp [World.setCell]
    replace HREF := Lib.hid (RfC.kept HREF.out (w' := (w7.setCell ⟨w1.heap.size, 9, none⟩ (.slice A9 dirs.length d9))) (S' := fun b => w3.heap.size ≤ b ∧ b < (w7.setCell ⟨w1.heap.size, 9, none⟩ (.slice A9 dirs.length d9)).heap.size) (fun b hb => by rw [Below.heap_setCell _ _ _ _ (show b ≠ w1.heap.size by have := hb.1; omega)]) (fun b hb => ⟨hb.1, by rw [hse8]; exact hb.2⟩))
    replace HDI := Lib.hid (SlS.kept DirC.stays HDI.out (w' := (w7.setCell ⟨w1.heap.size, 9, none⟩ (.slice A9 dirs.length d9))) (S' := fun b => wb5.heap.size ≤ b ∧ b < (w7.setCell ⟨w1.heap.size, 9, none⟩ (.slice A9 dirs.length d9)).heap.size) (fun b hb => by rw [Below.heap_setCell _ _ _ _ (show b ≠ w1.heap.size by have := hb.1; omega)]) (fun b hb => ⟨hb.1, by rw [hse8]; exact hb.2⟩))
    replace hlv2 : w1.heap.size < (w7.setCell ⟨w1.heap.size, 9, none⟩ (.slice A9 dirs.length d9)).heap.size := by rw [hse8]; exact hlv2
    generalize hW : (w7.setCell ⟨w1.heap.size, 9, none⟩ (.slice A9 dirs.length d9)) = wg8 at *
    clear hW
    have HZ : Hid (Bk ((((((((((wg8.setCell ⟨w.heap.size, 0, none⟩ (.string nm)).setCell ⟨w.heap.size, 1, none⟩ (.string rf.1)).setCell ⟨w.heap.size, 2, none⟩ (.slice A2 rf.2.length d2)).setCell ⟨w.heap.size, 3, none⟩ (.bool false)).setCell ⟨w.heap.size, 4, none⟩ (.int .i64 0)).setCell ⟨w.heap.size, 5, none⟩ (.int .i64 0)).setCell ⟨w.heap.size, 6, none⟩ (.string ⟨#[]⟩)).setCell ⟨w.heap.size, 7, none⟩ (.slice none 0 0)).setCell ⟨w.heap.size, 8, none⟩ (.slice none 0 0)).setCell ⟨w.heap.size, 9, none⟩ (.slice A9 dirs.length d9)) w.heap.size #[.string nm, .string rf.1, .slice A2 rf.2.length d2, .bool false, .int .i64 0, .int .i64 0, .string ⟨#[]⟩, .slice none 0 0, .slice none 0 0, .slice A9 dirs.length d9] 55) := Lib.hid ((((((((((HR8.out.setl 0 (.string nm)).setl 1 (.string rf.1)).setl 2 (.slice A2 rf.2.length d2)).setl 3 (.bool false)).setl 4 (.int .i64 0)).setl 5 (.int .i64 0)).setl 6 (.string ⟨#[]⟩)).setl 7 (.slice none 0 0)).setl 8 (.slice none 0 0)).setl 9 (.slice A9 dirs.length d9))
    have HTZ : Hid (Tw p w.heap.size w ((((((((((wg8.setCell ⟨w.heap.size, 0, none⟩ (.string nm)).setCell ⟨w.heap.size, 1, none⟩ (.string rf.1)).setCell ⟨w.heap.size, 2, none⟩ (.slice A2 rf.2.length d2)).setCell ⟨w.heap.size, 3, none⟩ (.bool false)).setCell ⟨w.heap.size, 4, none⟩ (.int .i64 0)).setCell ⟨w.heap.size, 5, none⟩ (.int .i64 0)).setCell ⟨w.heap.size, 6, none⟩ (.string ⟨#[]⟩)).setCell ⟨w.heap.size, 7, none⟩ (.slice none 0 0)).setCell ⟨w.heap.size, 8, none⟩ (.slice none 0 0)).setCell ⟨w.heap.size, 9, none⟩ (.slice A9 dirs.length d9))) := Lib.hid ((((((((((HT8.out.setNew (Nat.le_refl _) 0 (.string nm)).setNew (Nat.le_refl _) 1 (.string rf.1)).setNew (Nat.le_refl _) 2 (.slice A2 rf.2.length d2)).setNew (Nat.le_refl _) 3 (.bool false)).setNew (Nat.le_refl _) 4 (.int .i64 0)).setNew (Nat.le_refl _) 5 (.int .i64 0)).setNew (Nat.le_refl _) 6 (.string ⟨#[]⟩)).setNew (Nat.le_refl _) 7 (.slice none 0 0)).setNew (Nat.le_refl _) 8 (.slice none 0 0)).setNew (Nat.le_refl _) 9 (.slice A9 dirs.length d9))
    have HPZ := Lib.hid (HP8.out.same (((((((((((Below.refl (p + 1) wg8).setCell (p := ⟨w.heap.size, 0, none⟩) (by show p + 1 ≤ w.heap.size; omega) (.string nm)).setCell (p := ⟨w.heap.size, 1, none⟩) (by show p + 1 ≤ w.heap.size; omega) (.string rf.1)).setCell (p := ⟨w.heap.size, 2, none⟩) (by show p + 1 ≤ w.heap.size; omega) (.slice A2 rf.2.length d2)).setCell (p := ⟨w.heap.size, 3, none⟩) (by show p + 1 ≤ w.heap.size; omega) (.bool false)).setCell (p := ⟨w.heap.size, 4, none⟩) (by show p + 1 ≤ w.heap.size; omega) (.int .i64 0)).setCell (p := ⟨w.heap.size, 5, none⟩) (by show p + 1 ≤ w.heap.size; omega) (.int .i64 0)).setCell (p := ⟨w.heap.size, 6, none⟩) (by show p + 1 ≤ w.heap.size; omega) (.string ⟨#[]⟩)).setCell (p := ⟨w.heap.size, 7, none⟩) (by show p + 1 ≤ w.heap.size; omega) (.slice none 0 0)).setCell (p := ⟨w.heap.size, 8, none⟩) (by show p + 1 ≤ w.heap.size; omega) (.slice none 0 0)).setCell (p := ⟨w.heap.size, 9, none⟩) (by show p + 1 ≤ w.heap.size; omega) (.slice A9 dirs.length d9)))
    have hsez : ((((((((((wg8.setCell ⟨w.heap.size, 0, none⟩ (.string nm)).setCell ⟨w.heap.size, 1, none⟩ (.string rf.1)).setCell ⟨w.heap.size, 2, none⟩ (.slice A2 rf.2.length d2)).setCell ⟨w.heap.size, 3, none⟩ (.bool false)).setCell ⟨w.heap.size, 4, none⟩ (.int .i64 0)).setCell ⟨w.heap.size, 5, none⟩ (.int .i64 0)).setCell ⟨w.heap.size, 6, none⟩ (.string ⟨#[]⟩)).setCell ⟨w.heap.size, 7, none⟩ (.slice none 0 0)).setCell ⟨w.heap.size, 8, none⟩ (.slice none 0 0)).setCell ⟨w.heap.size, 9, none⟩ (.slice A9 dirs.length d9)).heap.size = wg8.heap.size := by simp [World.setCell]
    replace HREF := Lib.hid (RfC.kept HREF.out (w' := ((((((((((wg8.setCell ⟨w.heap.size, 0, none⟩ (.string nm)).setCell ⟨w.heap.size, 1, none⟩ (.string rf.1)).setCell ⟨w.heap.size, 2, none⟩ (.slice A2 rf.2.length d2)).setCell ⟨w.heap.size, 3, none⟩ (.bool false)).setCell ⟨w.heap.size, 4, none⟩ (.int .i64 0)).setCell ⟨w.heap.size, 5, none⟩ (.int .i64 0)).setCell ⟨w.heap.size, 6, none⟩ (.string ⟨#[]⟩)).setCell ⟨w.heap.size, 7, none⟩ (.slice none 0 0)).setCell ⟨w.heap.size, 8, none⟩ (.slice none 0 0)).setCell ⟨w.heap.size, 9, none⟩ (.slice A9 dirs.length d9))) (S' := fun b => w.heap.size ≤ b ∧ b < ((((((((((wg8.setCell ⟨w.heap.size, 0, none⟩ (.string nm)).setCell ⟨w.heap.size, 1, none⟩ (.string rf.1)).setCell ⟨w.heap.size, 2, none⟩ (.slice A2 rf.2.length d2)).setCell ⟨w.heap.size, 3, none⟩ (.bool false)).setCell ⟨w.heap.size, 4, none⟩ (.int .i64 0)).setCell ⟨w.heap.size, 5, none⟩ (.int .i64 0)).setCell ⟨w.heap.size, 6, none⟩ (.string ⟨#[]⟩)).setCell ⟨w.heap.size, 7, none⟩ (.slice none 0 0)).setCell ⟨w.heap.size, 8, none⟩ (.slice none 0 0)).setCell ⟨w.heap.size, 9, none⟩ (.slice A9 dirs.length d9)).heap.size) (fun b hb => by rw [Below.heap_setCell _ _ _ _ (show b ≠ w.heap.size by have := hb.1; omega), Below.heap_setCell _ _ _ _ (show b ≠ w.heap.size by have := hb.1; omega), Below.heap_setCell _ _ _ _ (show b ≠ w.heap.size by have := hb.1; omega), Below.heap_setCell _ _ _ _ (show b ≠ w.heap.size by have := hb.1; omega), Below.heap_setCell _ _ _ _ (show b ≠ w.heap.size by have := hb.1; omega), Below.heap_setCell _ _ _ _ (show b ≠ w.heap.size by have := hb.1; omega), Below.heap_setCell _ _ _ _ (show b ≠ w.heap.size by have := hb.1; omega), Below.heap_setCell _ _ _ _ (show b ≠ w.heap.size by have := hb.1; omega), Below.heap_setCell _ _ _ _ (show b ≠ w.heap.size by have := hb.1; omega), Below.heap_setCell _ _ _ _ (show b ≠ w.heap.size by have := hb.1; omega)]) (fun b hb => ⟨by have := hb.1; omega, by rw [hsez]; exact hb.2⟩))
    replace HDI := Lib.hid (SlS.kept DirC.stays HDI.out (w' := ((((((((((wg8.setCell ⟨w.heap.size, 0, none⟩ (.string nm)).setCell ⟨w.heap.size, 1, none⟩ (.string rf.1)).setCell ⟨w.heap.size, 2, none⟩ (.slice A2 rf.2.length d2)).setCell ⟨w.heap.size, 3, none⟩ (.bool false)).setCell ⟨w.heap.size, 4, none⟩ (.int .i64 0)).setCell ⟨w.heap.size, 5, none⟩ (.int .i64 0)).setCell ⟨w.heap.size, 6, none⟩ (.string ⟨#[]⟩)).setCell ⟨w.heap.size, 7, none⟩ (.slice none 0 0)).setCell ⟨w.heap.size, 8, none⟩ (.slice none 0 0)).setCell ⟨w.heap.size, 9, none⟩ (.slice A9 dirs.length d9))) (S' := fun b => w.heap.size ≤ b ∧ b < ((((((((((wg8.setCell ⟨w.heap.size, 0, none⟩ (.string nm)).setCell ⟨w.heap.size, 1, none⟩ (.string rf.1)).setCell ⟨w.heap.size, 2, none⟩ (.slice A2 rf.2.length d2)).setCell ⟨w.heap.size, 3, none⟩ (.bool false)).setCell ⟨w.heap.size, 4, none⟩ (.int .i64 0)).setCell ⟨w.heap.size, 5, none⟩ (.int .i64 0)).setCell ⟨w.heap.size, 6, none⟩ (.string ⟨#[]⟩)).setCell ⟨w.heap.size, 7, none⟩ (.slice none 0 0)).setCell ⟨w.heap.size, 8, none⟩ (.slice none 0 0)).setCell ⟨w.heap.size, 9, none⟩ (.slice A9 dirs.length d9)).heap.size) (fun b hb => by rw [Below.heap_setCell _ _ _ _ (show b ≠ w.heap.size by have := hb.1; omega), Below.heap_setCell _ _ _ _ (show b ≠ w.heap.size by have := hb.1; omega), Below.heap_setCell _ _ _ _ (show b ≠ w.heap.size by have := hb.1; omega), Below.heap_setCell _ _ _ _ (show b ≠ w.heap.size by have := hb.1; omega), Below.heap_setCell _ _ _ _ (show b ≠ w.heap.size by have := hb.1; omega), Below.heap_setCell _ _ _ _ (show b ≠ w.heap.size by have := hb.1; omega), Below.heap_setCell _ _ _ _ (show b ≠ w.heap.size by have := hb.1; omega), Below.heap_setCell _ _ _ _ (show b ≠ w.heap.size by have := hb.1; omega), Below.heap_setCell _ _ _ _ (show b ≠ w.heap.size by have := hb.1; omega), Below.heap_setCell _ _ _ _ (show b ≠ w.heap.size by have := hb.1; omega)]) (fun b hb => ⟨by have := hb.1; omega, by rw [hsez]; exact hb.2⟩))
    have z0 := HZ.out.cell 0 _ rfl
    have z1 := HZ.out.cell 1 _ rfl
    have z2 := HZ.out.cell 2 _ rfl
    have z3 := HZ.out.cell 3 _ rfl
    have z4 := HZ.out.cell 4 _ rfl
    have z5 := HZ.out.cell 5 _ rfl
    have z6 := HZ.out.cell 6 _ rfl
    have z7 := HZ.out.cell 7 _ rfl
    have z8 := HZ.out.cell 8 _ rfl
    have z9 := HZ.out.cell 9 _ rfl
    exact bodyPost_ret (v := .agg #[.string nm, .string rf.1, .slice A2 rf.2.length d2, .bool false, .int .i64 0, .int .i64 0, .string ⟨#[]⟩, .slice none 0 0, .slice none 0 0, .slice A9 dirs.length d9]) (by simp [results, Tryz.results96, go_sem, z0, z1, z2, z3, z4, z5, z6, z7, z8, z9]) rfl (.inl ⟨⟨nm, rf.1, rf.2, false, nullT0, dirs⟩, _, _, _, HD5.out, rfl, ⟨_, _, _, _, _, _, _, _, _, _, rfl, ⟨rfl, Nat.le_trans HN.out (by decide), HREF.out, rfl, rd_simple _ _ 0 0 ⟨#[]⟩ (by unfold small; omega) (by unfold small; omega) (by decide), HDI.out⟩⟩, HPZ.out, HTZ.out⟩)
set_option maxRecDepth 100000 in
set_option maxHeartbeats 8000000 in
theorem pfield_any (p : Nat) (iel : List Tk → Except Er (InpT × List Tk)) (hiel : ∀ (W : World) (ts : List Tk) (m : Nat), PSt W p ts m → isNm ts = true → Calls Tryz.prog 96 #[pP p] W (WPost InpV W p (iel ts))) (hilt : ∀ (ts : List Tk) (x : InpT) (ts' : List Tk), Good ts → isNm ts = true → iel ts = .ok (x, ts') → ts'.length < ts.length) (rel : List Tk → Except Er ((ByteArray × List Int) × List Tk)) (hrel : ∀ (W : World) (ts : List Tk) (m : Nat), PSt W p ts m → Calls Tryz.prog 140 #[pP p] W (WPost RefW W p (rel ts))) (del : List Tk → Except Er (DirT × List Tk)) (hdel : ∀ (W : World) (ts : List Tk) (m : Nat), PSt W p ts m → isSg [64] ts = true → Calls Tryz.prog 137 #[pP p] W (WPost DirV W p (del ts))) (hdlt : ∀ (ts : List Tk) (x : DirT) (ts' : List Tk), Good ts → isSg [64] ts = true → del ts = .ok (x, ts') → ts'.length < ts.length) (w : World) (ts : List Tk) (n : Nat) (h : PSt w p ts n) :
    Calls Tryz.prog 91 #[pP p] w (WPost FldV w p (fldP iel rel del ts)) := by
  have HIEL := Lib.hid hiel
  have HILT := Lib.hid hilt
  have HREL := Lib.hid hrel
  have HDEL := Lib.hid hdel
  have HDLT := Lib.hid hdlt
  clear hiel hilt hrel hdel hdlt
  have hmf : ∀ (fn : Fn) (first cap : Array Value) (w : World), (Instr.makeFunc fn first cap).run Tryz.prog w = .ok (.func fn first cap) w := fun _ _ _ _ => rfl
  have HD0 : Hid (fldP iel rel del ts = fldP iel rel del ts) := Lib.hid rfl
  have hpw := h.lt
  have hhp : p ≠ w.heap.size := by omega
  have HP0 : Hid (PSt (w.alloc (.cells #[.string ⟨#[]⟩, .slice none 0 0, .string ⟨#[]⟩, .slice none 0 0, .slice none 0 0] 50 (0, 0))) p ts n) := Lib.hid (h.stay (below_new _ _))
  have HR0 : Hid (Bk (w.alloc (.cells #[.string ⟨#[]⟩, .slice none 0 0, .string ⟨#[]⟩, .slice none 0 0, .slice none 0 0] 50 (0, 0))) w.heap.size #[.string ⟨#[]⟩, .slice none 0 0, .string ⟨#[]⟩, .slice none 0 0, .slice none 0 0] 50) := Lib.hid (Bk.new _ _ _)
  have HT0 : Hid (Tw p w.heap.size w (w.alloc (.cells #[.string ⟨#[]⟩, .slice none 0 0, .string ⟨#[]⟩, .slice none 0 0, .slice none 0 0] 50 (0, 0)))) := Lib.hid (.of (below_new _ _))
  have hsz0 : w.heap.size < (w.alloc (.cells #[.string ⟨#[]⟩, .slice none 0 0, .string ⟨#[]⟩, .slice none 0 0, .slice none 0 0] 50 (0, 0))).heap.size := by simp
  clear h
  have HDU : Hid (fldP iel rel del ts = exB (nmR ts) fun q => if isSg [40] q.2 = true then exB (blR [40] [41] 16 iel q.2) fun a => fldQ rel del q.1 a.1 a.2 else fldQ rel del q.1 [] q.2) := Lib.hid rfl
  replace HD0 := HDU
  clear HDU
  generalize fldP iel rel del ts = R at *
  go_enter Tryz.func91, Tryz.ntmps91
  go_wp2_with fail
  refine (pname_any HP0.out).mono ?_
  rintro e w1 (⟨nm, ts1, v, hr, rfl, ⟨rfl, hnz⟩, hp, ht⟩ | ⟨x, hr, rfl, ht⟩)
  rotate_left
  · exact ⟨rfl, .inr ⟨_, HD0.out.trans (exB_er hr), rfl, HT0.out.step HT0.out.size ht⟩⟩
  have HD1 := Lib.hid (HD0.out.trans (exB_ok hr))
  have HT1 := Lib.hid (HT0.out.step HT0.out.size ht)
  have HR1 := Lib.hid (HR0.out.far ht (by omega))
  have hsz1 : w.heap.size < w1.heap.size := Nat.lt_of_lt_of_le hsz0 ht.size
  have HP1 := Lib.hid hp
  have HN := Lib.hid hnz
  clear hr hp ht hnz
  go_wp2_with fail
  have ht : Tw p w1.heap.size w1 (w1.alloc (.cells #[.string nm, .slice none 0 0, .string ⟨#[]⟩, .slice none 0 0, .slice none 0 0] 50 (0, 0))) := .of (below_new _ _)
  have hlv : w.heap.size < w1.heap.size := hsz1
  have hlp : p ≠ w1.heap.size := by omega
  have hlv2 : w1.heap.size < (w1.alloc (.cells #[.string nm, .slice none 0 0, .string ⟨#[]⟩, .slice none 0 0, .slice none 0 0] 50 (0, 0))).heap.size := by simp
  have HT2 := Lib.hid (HT1.out.step HT1.out.size ht)
  have HR2 := Lib.hid (HR1.out.far ht (by omega))
  have HV2 : Hid (Bk (w1.alloc (.cells #[.string nm, .slice none 0 0, .string ⟨#[]⟩, .slice none 0 0, .slice none 0 0] 50 (0, 0))) w1.heap.size #[.string nm, .slice none 0 0, .string ⟨#[]⟩, .slice none 0 0, .slice none 0 0] 50) := Lib.hid (Bk.new _ _ _)
  have HP2 := Lib.hid (HP1.out.stay (below_new w1 (.cells #[.string nm, .slice none 0 0, .string ⟨#[]⟩, .slice none 0 0, .slice none 0 0] 50 (0, 0))))
  have hsz2 : w.heap.size < (w1.alloc (.cells #[.string nm, .slice none 0 0, .string ⟨#[]⟩, .slice none 0 0, .slice none 0 0] 50 (0, 0))).heap.size := by simp; omega
  clear ht
  go_wp2_with fail
  cases hsg : isSg [40] ts1 with
  | true =>
    have HD2 := Lib.hid (HD1.out.trans (if_pos hsg))
    have hc := pisSign_any HP2.out ⟨#[40]⟩
    rw [show isSg (⟨#[40]⟩ : ByteArray).data.toList ts1 = true from hsg] at hc
    refine hc.mono ?_
    clear hc
    rintro e wb2 ⟨rfl, hb⟩
    have ht : Tw p _ _ wb2 := .of hb
    have HT3 := Lib.hid (HT2.out.step HT2.out.size ht)
    have HR3 := Lib.hid (HR2.out.far ht (by omega))
    have HV3 := Lib.hid (HV2.out.far ht (by have := hlv; omega))
    have hsz3 : w.heap.size < wb2.heap.size := Nat.lt_of_lt_of_le hsz2 ht.size
    replace hlv2 := Nat.lt_of_lt_of_le hlv2 ht.size
    have HP3 := Lib.hid (HP2.out.stay hb)
    clear hb ht hsg
    have x0 := HV3.out.cell 0 _ rfl
    have fx0 := HV3.out.frz 0
    have x1 := HV3.out.cell 1 _ rfl
    have fx1 := HV3.out.frz 1
    have x2 := HV3.out.cell 2 _ rfl
    have fx2 := HV3.out.frz 2
    have x3 := HV3.out.cell 3 _ rfl
    have fx3 := HV3.out.frz 3
    have x4 := HV3.out.cell 4 _ rfl
    have fx4 := HV3.out.frz 4
    go_wp2_with fail
    clear x0 fx0 x1 fx1 x2 fx2 x3 fx3 x4 fx4
    have hlw4 : w1.heap.size < wb2.heap.size := hlv2
    refine (blockInp_any p iel HIEL.out HILT.out _ ts1 _ HP3.out ⟨#[40]⟩ ⟨#[41]⟩ 16 (by omega) 16 rfl).mono ?_
    rintro e w4 (⟨args, ts4, v4, m4, hr, rfl, hx, hp, ht⟩ | ⟨x, hr, rfl, ht⟩)
    rotate_left
    · exact ⟨rfl, .inr ⟨_, HD2.out.trans (exB_er hr), rfl, HT3.out.step HT3.out.size ht⟩⟩
    have HD3 := Lib.hid (HD2.out.trans (exB_ok hr))
    have HT4 := Lib.hid (HT3.out.step HT3.out.size ht)
    have HR4 := Lib.hid (HR3.out.far ht (by omega))
    have HV4 := Lib.hid (HV3.out.far ht (by have := hlv; omega))
    have hsz4 : w.heap.size < w4.heap.size := Nat.lt_of_lt_of_le hsz3 ht.size
    replace hlv2 := Nat.lt_of_lt_of_le hlv2 ht.size
    have HP4 := Lib.hid hp
    have hlo4 : wb2.heap.size ≤ w4.heap.size := ht.size
    obtain ⟨A1, d1, hv1, _, _⟩ := SlS.form hx
    subst hv1
    have HX := Lib.hid hx
    clear hr hp ht hx
    have x0 := HV4.out.cell 0 _ rfl
    have fx0 := HV4.out.frz 0
    have x1 := HV4.out.cell 1 _ rfl
    have fx1 := HV4.out.frz 1
    have x2 := HV4.out.cell 2 _ rfl
    have fx2 := HV4.out.frz 2
    have x3 := HV4.out.cell 3 _ rfl
    have fx3 := HV4.out.frz 3
    have x4 := HV4.out.cell 4 _ rfl
    have fx4 := HV4.out.frz 4
    go_wp2_with fail
    clear x0 fx0 x1 fx1 x2 fx2 x3 fx3 x4 fx4
    have HT5 : Hid (Tw p w.heap.size w (w4.setCell ⟨w1.heap.size, 1, none⟩ (.slice A1 args.length d1))) := Lib.hid (HT4.out.setNew (by omega) 1 (.slice A1 args.length d1))
    have HR5 : Hid (Bk (w4.setCell ⟨w1.heap.size, 1, none⟩ (.slice A1 args.length d1)) w.heap.size #[.string ⟨#[]⟩, .slice none 0 0, .string ⟨#[]⟩, .slice none 0 0, .slice none 0 0] 50) := Lib.hid (HR4.out.off (by omega) 1 (.slice A1 args.length d1))
    have HV5 : Hid (Bk (w4.setCell ⟨w1.heap.size, 1, none⟩ (.slice A1 args.length d1)) w1.heap.size #[.string nm, .slice A1 args.length d1, .string ⟨#[]⟩, .slice none 0 0, .slice none 0 0] 50) := Lib.hid (HV4.out.setl 1 (.slice A1 args.length d1))
    have HP5 := Lib.hid (HP4.out.same ((Below.refl (p + 1) w4).setCell (p := ⟨w1.heap.size, 1, none⟩) (by show p + 1 ≤ w1.heap.size; omega) (.slice A1 args.length d1)))
    have hsz5 : w.heap.size < (w4.setCell ⟨w1.heap.size, 1, none⟩ (.slice A1 args.length d1)).heap.size := by simp [World.setCell]; omega
    have hse5 : (w4.setCell ⟨w1.heap.size, 1, none⟩ (.slice A1 args.length d1)).heap.size = w4.heap.size := by simp [World.setCell]
    replace HX := Lib.hid (SlS.kept InpC.stays HX.out (w' := (w4.setCell ⟨w1.heap.size, 1, none⟩ (.slice A1 args.length d1))) (S' := fun b => wb2.heap.size ≤ b ∧ b < (w4.setCell ⟨w1.heap.size, 1, none⟩ (.slice A1 args.length d1)).heap.size) (fun b hb => by rw [Below.heap_setCell _ _ _ _ (show b ≠ w1.heap.size by have := hb.1; omega)]) (fun b hb => ⟨hb.1, by rw [hse5]; exact hb.2⟩))
    replace hlv2 : w1.heap.size < (w4.setCell ⟨w1.heap.size, 1, none⟩ (.slice A1 args.length d1)).heap.size := by rw [hse5]; exact hlv2
    generalize hW : (w4.setCell ⟨w1.heap.size, 1, none⟩ (.slice A1 args.length d1)) = wg5 at *
    clear hW
    refine (psign_any HP5.out ⟨#[58]⟩).mono ?_
    rintro e w6 (⟨ts6, hr, rfl, hp, ht⟩ | ⟨x, hr, rfl, ht⟩)
    rotate_left
    · exact ⟨rfl, .inr ⟨_, HD3.out.trans (exB_er hr), rfl, HT5.out.step HT5.out.size ht⟩⟩
    have HD4 := Lib.hid (HD3.out.trans (exB_ok hr))
    have HT6 := Lib.hid (HT5.out.step HT5.out.size ht)
    have HR6 := Lib.hid (HR5.out.far ht (by omega))
    have HV6 := Lib.hid (HV5.out.far ht (by have := hlv; omega))
    replace HX := Lib.hid (SlS.kept InpC.stays HX.out (w' := w6) (S' := fun b => wb2.heap.size ≤ b ∧ b < w6.heap.size) (fun b hb => ht.block b hb.2 (by have := hb.1; omega)) (fun b hb => ⟨hb.1, Nat.lt_of_lt_of_le hb.2 ht.size⟩))
    have hsz6 : w.heap.size < w6.heap.size := Nat.lt_of_lt_of_le hsz5 ht.size
    replace hlv2 := Nat.lt_of_lt_of_le hlv2 ht.size
    have HP6 := Lib.hid hp
    clear hr hp ht
    go_wp2_with fail
    have hlw7 : w1.heap.size < w6.heap.size := hlv2
    refine (HREL.out _ _ _ HP6.out).mono ?_
    rintro e w7 (⟨rf, ts7, v7, m7, hr, rfl, hx, hp, ht⟩ | ⟨x, hr, rfl, ht⟩)
    rotate_left
    · exact ⟨rfl, .inr ⟨_, HD4.out.trans (exB_er hr), rfl, HT6.out.step HT6.out.size ht⟩⟩
    have HD5 := Lib.hid (HD4.out.trans (exB_ok hr))
    have HT7 := Lib.hid (HT6.out.step HT6.out.size ht)
    have HR7 := Lib.hid (HR6.out.far ht (by omega))
    have HV7 := Lib.hid (HV6.out.far ht (by have := hlv; omega))
    replace HX := Lib.hid (SlS.kept InpC.stays HX.out (w' := w7) (S' := fun b => wb2.heap.size ≤ b ∧ b < w7.heap.size) (fun b hb => ht.block b hb.2 (by have := hb.1; omega)) (fun b hb => ⟨hb.1, Nat.lt_of_lt_of_le hb.2 ht.size⟩))
    have hsz7 : w.heap.size < w7.heap.size := Nat.lt_of_lt_of_le hsz6 ht.size
    replace hlv2 := Nat.lt_of_lt_of_le hlv2 ht.size
    have HP7 := Lib.hid hp
    have hlo7 : w6.heap.size ≤ w7.heap.size := ht.size
    obtain ⟨A2, d2, hv1, hxr⟩ := RefW.shape hx
    clear hx
    subst hv1
    have hx := hxr
    clear hxr
    have HREF := Lib.hid hx
    clear hr hp ht hx
    have x0 := HV7.out.cell 0 _ rfl
    have fx0 := HV7.out.frz 0
    have x1 := HV7.out.cell 1 _ rfl
    have fx1 := HV7.out.frz 1
    have x2 := HV7.out.cell 2 _ rfl
    have fx2 := HV7.out.frz 2
    have x3 := HV7.out.cell 3 _ rfl
    have fx3 := HV7.out.frz 3
    have x4 := HV7.out.cell 4 _ rfl
    have fx4 := HV7.out.frz 4
    go_wp2_with fail
    clear x0 fx0 x1 fx1 x2 fx2 x3 fx3 x4 fx4
    have HT8 : Hid (Tw p w.heap.size w ((w7.setCell ⟨w1.heap.size, 2, none⟩ (.string rf.1)).setCell ⟨w1.heap.size, 3, none⟩ (.slice A2 rf.2.length d2))) := Lib.hid ((HT7.out.setNew (by omega) 2 (.string rf.1)).setNew (by omega) 3 (.slice A2 rf.2.length d2))
    have HR8 : Hid (Bk ((w7.setCell ⟨w1.heap.size, 2, none⟩ (.string rf.1)).setCell ⟨w1.heap.size, 3, none⟩ (.slice A2 rf.2.length d2)) w.heap.size #[.string ⟨#[]⟩, .slice none 0 0, .string ⟨#[]⟩, .slice none 0 0, .slice none 0 0] 50) := Lib.hid ((HR7.out.off (by omega) 2 (.string rf.1)).off (by omega) 3 (.slice A2 rf.2.length d2))
    have HV8 : Hid (Bk ((w7.setCell ⟨w1.heap.size, 2, none⟩ (.string rf.1)).setCell ⟨w1.heap.size, 3, none⟩ (.slice A2 rf.2.length d2)) w1.heap.size #[.string nm, .slice A1 args.length d1, .string rf.1, .slice A2 rf.2.length d2, .slice none 0 0] 50) := Lib.hid ((HV7.out.setl 2 (.string rf.1)).setl 3 (.slice A2 rf.2.length d2))
    have HP8 := Lib.hid (HP7.out.same (((Below.refl (p + 1) w7).setCell (p := ⟨w1.heap.size, 2, none⟩) (by show p + 1 ≤ w1.heap.size; omega) (.string rf.1)).setCell (p := ⟨w1.heap.size, 3, none⟩) (by show p + 1 ≤ w1.heap.size; omega) (.slice A2 rf.2.length d2)))
    have hsz8 : w.heap.size < ((w7.setCell ⟨w1.heap.size, 2, none⟩ (.string rf.1)).setCell ⟨w1.heap.size, 3, none⟩ (.slice A2 rf.2.length d2)).heap.size := by simp [World.setCell]; omega
    have hse8 : ((w7.setCell ⟨w1.heap.size, 2, none⟩ (.string rf.1)).setCell ⟨w1.heap.size, 3, none⟩ (.slice A2 rf.2.length d2)).heap.size = w7.heap.size := by simp [World.setCell]
    replace HX := Lib.hid (SlS.kept InpC.stays HX.out (w' := ((w7.setCell ⟨w1.heap.size, 2, none⟩ (.string rf.1)).setCell ⟨w1.heap.size, 3, none⟩ (.slice A2 rf.2.length d2))) (S' := fun b => wb2.heap.size ≤ b ∧ b < ((w7.setCell ⟨w1.heap.size, 2, none⟩ (.string rf.1)).setCell ⟨w1.heap.size, 3, none⟩ (.slice A2 rf.2.length d2)).heap.size) (fun b hb => by rw [Below.heap_setCell _ _ _ _ (show b ≠ w1.heap.size by have := hb.1; omega), Below.heap_setCell _ _ _ _ (show b ≠ w1.heap.size by have := hb.1; omega)]) (fun b hb => ⟨hb.1, by rw [hse8]; exact hb.2⟩))
    replace HREF := Lib.hid (RfC.kept HREF.out (w' := ((w7.setCell ⟨w1.heap.size, 2, none⟩ (.string rf.1)).setCell ⟨w1.heap.size, 3, none⟩ (.slice A2 rf.2.length d2))) (S' := fun b => w6.heap.size ≤ b ∧ b < ((w7.setCell ⟨w1.heap.size, 2, none⟩ (.string rf.1)).setCell ⟨w1.heap.size, 3, none⟩ (.slice A2 rf.2.length d2)).heap.size) (fun b hb => by rw [Below.heap_setCell _ _ _ _ (show b ≠ w1.heap.size by have := hb.1; omega), Below.heap_setCell _ _ _ _ (show b ≠ w1.heap.size by have := hb.1; omega)]) (fun b hb => ⟨hb.1, by rw [hse8]; exact hb.2⟩))
    replace hlv2 : w1.heap.size < ((w7.setCell ⟨w1.heap.size, 2, none⟩ (.string rf.1)).setCell ⟨w1.heap.size, 3, none⟩ (.slice A2 rf.2.length d2)).heap.size := by rw [hse8]; exact hlv2
    generalize hW : ((w7.setCell ⟨w1.heap.size, 2, none⟩ (.string rf.1)).setCell ⟨w1.heap.size, 3, none⟩ (.slice A2 rf.2.length d2)) = wg8 at *
    clear hW
    have hlw9 : w1.heap.size < wg8.heap.size := hlv2
    refine (pdirectives_any p del HDEL.out HDLT.out _ _ _ HP8.out).mono ?_
    rintro e w9 (⟨dirs, ts9, v9, m9, hr, rfl, hx, hp, ht⟩ | ⟨x, hr, rfl, ht⟩)
    rotate_left
    · exact ⟨rfl, .inr ⟨_, HD5.out.trans (exB_er hr), rfl, HT8.out.step HT8.out.size ht⟩⟩
    have HD6 := Lib.hid (HD5.out.trans (exB_ok hr))
    have HT9 := Lib.hid (HT8.out.step HT8.out.size ht)
    have HR9 := Lib.hid (HR8.out.far ht (by omega))
    have HV9 := Lib.hid (HV8.out.far ht (by have := hlv; omega))
    replace HX := Lib.hid (SlS.kept InpC.stays HX.out (w' := w9) (S' := fun b => wb2.heap.size ≤ b ∧ b < w9.heap.size) (fun b hb => ht.block b hb.2 (by have := hb.1; omega)) (fun b hb => ⟨hb.1, Nat.lt_of_lt_of_le hb.2 ht.size⟩))
    replace HREF := Lib.hid (RfC.kept HREF.out (w' := w9) (S' := fun b => w6.heap.size ≤ b ∧ b < w9.heap.size) (fun b hb => ht.block b hb.2 (by have := hb.1; omega)) (fun b hb => ⟨hb.1, Nat.lt_of_lt_of_le hb.2 ht.size⟩))
    have hsz9 : w.heap.size < w9.heap.size := Nat.lt_of_lt_of_le hsz8 ht.size
    replace hlv2 := Nat.lt_of_lt_of_le hlv2 ht.size
    have HP9 := Lib.hid hp
    have hlo9 : wg8.heap.size ≤ w9.heap.size := ht.size
    obtain ⟨A9, d9, hv9, _, _⟩ := SlS.form hx
    subst hv9
    have HDI := Lib.hid hx
    clear hr hp ht hx
    have x0 := HV9.out.cell 0 _ rfl
    have fx0 := HV9.out.frz 0
    have x1 := HV9.out.cell 1 _ rfl
    have fx1 := HV9.out.frz 1
    have x2 := HV9.out.cell 2 _ rfl
    have fx2 := HV9.out.frz 2
    have x3 := HV9.out.cell 3 _ rfl
    have fx3 := HV9.out.frz 3
    have x4 := HV9.out.cell 4 _ rfl
    have fx4 := HV9.out.frz 4
    have y0 := HR9.out.cell 0 _ rfl
    have fy0 := HR9.out.frz 0
    have y1 := HR9.out.cell 1 _ rfl
    have fy1 := HR9.out.frz 1
    have y2 := HR9.out.cell 2 _ rfl
    have fy2 := HR9.out.frz 2
    have y3 := HR9.out.cell 3 _ rfl
    have fy3 := HR9.out.frz 3
    have y4 := HR9.out.cell 4 _ rfl
    have fy4 := HR9.out.frz 4
    have hne : w.heap.size ≠ w1.heap.size := by omega
    have hne2 : w1.heap.size ≠ w.heap.size := by omega
    go_wp2_with fail
    clear x0 fx0 x1 fx1 x2 fx2 x3 fx3 x4 fx4
    clear y0 fy0 y1 fy1 y2 fy2 y3 fy3 y4 fy4
    have HT10 : Hid (Tw p w.heap.size w (w9.setCell ⟨w1.heap.size, 4, none⟩ (.slice A9 dirs.length d9))) := Lib.hid (HT9.out.setNew (by omega) 4 (.slice A9 dirs.length d9))
    have HR10 : Hid (Bk (w9.setCell ⟨w1.heap.size, 4, none⟩ (.slice A9 dirs.length d9)) w.heap.size #[.string ⟨#[]⟩, .slice none 0 0, .string ⟨#[]⟩, .slice none 0 0, .slice none 0 0] 50) := Lib.hid (HR9.out.off (by omega) 4 (.slice A9 dirs.length d9))
    have HV10 : Hid (Bk (w9.setCell ⟨w1.heap.size, 4, none⟩ (.slice A9 dirs.length d9)) w1.heap.size #[.string nm, .slice A1 args.length d1, .string rf.1, .slice A2 rf.2.length d2, .slice A9 dirs.length d9] 50) := Lib.hid (HV9.out.setl 4 (.slice A9 dirs.length d9))
    have HP10 := Lib.hid (HP9.out.same ((Below.refl (p + 1) w9).setCell (p := ⟨w1.heap.size, 4, none⟩) (by show p + 1 ≤ w1.heap.size; omega) (.slice A9 dirs.length d9)))
    have hsz10 : w.heap.size < (w9.setCell ⟨w1.heap.size, 4, none⟩ (.slice A9 dirs.length d9)).heap.size := by simp [World.setCell]; omega
    have hse10 : (w9.setCell ⟨w1.heap.size, 4, none⟩ (.slice A9 dirs.length d9)).heap.size = w9.heap.size := by simp [World.setCell]
    replace HX := Lib.hid (SlS.kept InpC.stays HX.out (w' := (w9.setCell ⟨w1.heap.size, 4, none⟩ (.slice A9 dirs.length d9))) (S' := fun b => wb2.heap.size ≤ b ∧ b < (w9.setCell ⟨w1.heap.size, 4, none⟩ (.slice A9 dirs.length d9)).heap.size) (fun b hb => by rw [Below.heap_setCell _ _ _ _ (show b ≠ w1.heap.size by have := hb.1; omega)]) (fun b hb => ⟨hb.1, by rw [hse10]; exact hb.2⟩))
    replace HREF := Lib.hid (RfC.kept HREF.out (w' := (w9.setCell ⟨w1.heap.size, 4, none⟩ (.slice A9 dirs.length d9))) (S' := fun b => w6.heap.size ≤ b ∧ b < (w9.setCell ⟨w1.heap.size, 4, none⟩ (.slice A9 dirs.length d9)).heap.size) (fun b hb => by rw [Below.heap_setCell _ _ _ _ (show b ≠ w1.heap.size by have := hb.1; omega)]) (fun b hb => ⟨hb.1, by rw [hse10]; exact hb.2⟩))
    replace HDI := Lib.hid (SlS.kept DirC.stays HDI.out (w' := (w9.setCell ⟨w1.heap.size, 4, none⟩ (.slice A9 dirs.length d9))) (S' := fun b => wg8.heap.size ≤ b ∧ b < (w9.setCell ⟨w1.heap.size, 4, none⟩ (.slice A9 dirs.length d9)).heap.size) (fun b hb => by rw [Below.heap_setCell _ _ _ _ (show b ≠ w1.heap.size by have := hb.1; omega)]) (fun b hb => ⟨hb.1, by rw [hse10]; exact hb.2⟩))
    replace hlv2 : w1.heap.size < (w9.setCell ⟨w1.heap.size, 4, none⟩ (.slice A9 dirs.length d9)).heap.size := by rw [hse10]; exact hlv2
    generalize hW : (w9.setCell ⟨w1.heap.size, 4, none⟩ (.slice A9 dirs.length d9)) = wg10 at *
    clear hW
    have HZ : Hid (Bk (((((wg10.setCell ⟨w.heap.size, 0, none⟩ (.string nm)).setCell ⟨w.heap.size, 1, none⟩ (.slice A1 args.length d1)).setCell ⟨w.heap.size, 2, none⟩ (.string rf.1)).setCell ⟨w.heap.size, 3, none⟩ (.slice A2 rf.2.length d2)).setCell ⟨w.heap.size, 4, none⟩ (.slice A9 dirs.length d9)) w.heap.size #[.string nm, .slice A1 args.length d1, .string rf.1, .slice A2 rf.2.length d2, .slice A9 dirs.length d9] 50) := Lib.hid (((((HR10.out.setl 0 (.string nm)).setl 1 (.slice A1 args.length d1)).setl 2 (.string rf.1)).setl 3 (.slice A2 rf.2.length d2)).setl 4 (.slice A9 dirs.length d9))
    have HTZ : Hid (Tw p w.heap.size w (((((wg10.setCell ⟨w.heap.size, 0, none⟩ (.string nm)).setCell ⟨w.heap.size, 1, none⟩ (.slice A1 args.length d1)).setCell ⟨w.heap.size, 2, none⟩ (.string rf.1)).setCell ⟨w.heap.size, 3, none⟩ (.slice A2 rf.2.length d2)).setCell ⟨w.heap.size, 4, none⟩ (.slice A9 dirs.length d9))) := Lib.hid (((((HT10.out.setNew (Nat.le_refl _) 0 (.string nm)).setNew (Nat.le_refl _) 1 (.slice A1 args.length d1)).setNew (Nat.le_refl _) 2 (.string rf.1)).setNew (Nat.le_refl _) 3 (.slice A2 rf.2.length d2)).setNew (Nat.le_refl _) 4 (.slice A9 dirs.length d9))
    have HPZ := Lib.hid (HP10.out.same ((((((Below.refl (p + 1) wg10).setCell (p := ⟨w.heap.size, 0, none⟩) (by show p + 1 ≤ w.heap.size; omega) (.string nm)).setCell (p := ⟨w.heap.size, 1, none⟩) (by show p + 1 ≤ w.heap.size; omega) (.slice A1 args.length d1)).setCell (p := ⟨w.heap.size, 2, none⟩) (by show p + 1 ≤ w.heap.size; omega) (.string rf.1)).setCell (p := ⟨w.heap.size, 3, none⟩) (by show p + 1 ≤ w.heap.size; omega) (.slice A2 rf.2.length d2)).setCell (p := ⟨w.heap.size, 4, none⟩) (by show p + 1 ≤ w.heap.size; omega) (.slice A9 dirs.length d9)))
    have hsez : (((((wg10.setCell ⟨w.heap.size, 0, none⟩ (.string nm)).setCell ⟨w.heap.size, 1, none⟩ (.slice A1 args.length d1)).setCell ⟨w.heap.size, 2, none⟩ (.string rf.1)).setCell ⟨w.heap.size, 3, none⟩ (.slice A2 rf.2.length d2)).setCell ⟨w.heap.size, 4, none⟩ (.slice A9 dirs.length d9)).heap.size = wg10.heap.size := by simp [World.setCell]
    replace HX := Lib.hid (SlS.kept InpC.stays HX.out (w' := (((((wg10.setCell ⟨w.heap.size, 0, none⟩ (.string nm)).setCell ⟨w.heap.size, 1, none⟩ (.slice A1 args.length d1)).setCell ⟨w.heap.size, 2, none⟩ (.string rf.1)).setCell ⟨w.heap.size, 3, none⟩ (.slice A2 rf.2.length d2)).setCell ⟨w.heap.size, 4, none⟩ (.slice A9 dirs.length d9))) (S' := fun b => w.heap.size ≤ b ∧ b < (((((wg10.setCell ⟨w.heap.size, 0, none⟩ (.string nm)).setCell ⟨w.heap.size, 1, none⟩ (.slice A1 args.length d1)).setCell ⟨w.heap.size, 2, none⟩ (.string rf.1)).setCell ⟨w.heap.size, 3, none⟩ (.slice A2 rf.2.length d2)).setCell ⟨w.heap.size, 4, none⟩ (.slice A9 dirs.length d9)).heap.size) (fun b hb => by rw [Below.heap_setCell _ _ _ _ (show b ≠ w.heap.size by have := hb.1; omega), Below.heap_setCell _ _ _ _ (show b ≠ w.heap.size by have := hb.1; omega), Below.heap_setCell _ _ _ _ (show b ≠ w.heap.size by have := hb.1; omega), Below.heap_setCell _ _ _ _ (show b ≠ w.heap.size by have := hb.1; omega), Below.heap_setCell _ _ _ _ (show b ≠ w.heap.size by have := hb.1; omega)]) (fun b hb => ⟨by have := hb.1; omega, by rw [hsez]; exact hb.2⟩))
    replace HREF := Lib.hid (RfC.kept HREF.out (w' := (((((wg10.setCell ⟨w.heap.size, 0, none⟩ (.string nm)).setCell ⟨w.heap.size, 1, none⟩ (.slice A1 args.length d1)).setCell ⟨w.heap.size, 2, none⟩ (.string rf.1)).setCell ⟨w.heap.size, 3, none⟩ (.slice A2 rf.2.length d2)).setCell ⟨w.heap.size, 4, none⟩ (.slice A9 dirs.length d9))) (S' := fun b => w.heap.size ≤ b ∧ b < (((((wg10.setCell ⟨w.heap.size, 0, none⟩ (.string nm)).setCell ⟨w.heap.size, 1, none⟩ (.slice A1 args.length d1)).setCell ⟨w.heap.size, 2, none⟩ (.string rf.1)).setCell ⟨w.heap.size, 3, none⟩ (.slice A2 rf.2.length d2)).setCell ⟨w.heap.size, 4, none⟩ (.slice A9 dirs.length d9)).heap.size) (fun b hb => by rw [Below.heap_setCell _ _ _ _ (show b ≠ w.heap.size by have := hb.1; omega), Below.heap_setCell _ _ _ _ (show b ≠ w.heap.size by have := hb.1; omega), Below.heap_setCell _ _ _ _ (show b ≠ w.heap.size by have := hb.1; omega), Below.heap_setCell _ _ _ _ (show b ≠ w.heap.size by have := hb.1; omega), Below.heap_setCell _ _ _ _ (show b ≠ w.heap.size by have := hb.1; omega)]) (fun b hb => ⟨by have := hb.1; omega, by rw [hsez]; exact hb.2⟩))
    replace HDI := Lib.hid (SlS.kept DirC.stays HDI.out (w' := (((((wg10.setCell ⟨w.heap.size, 0, none⟩ (.string nm)).setCell ⟨w.heap.size, 1, none⟩ (.slice A1 args.length d1)).setCell ⟨w.heap.size, 2, none⟩ (.string rf.1)).setCell ⟨w.heap.size, 3, none⟩ (.slice A2 rf.2.length d2)).setCell ⟨w.heap.size, 4, none⟩ (.slice A9 dirs.length d9))) (S' := fun b => w.heap.size ≤ b ∧ b < (((((wg10.setCell ⟨w.heap.size, 0, none⟩ (.string nm)).setCell ⟨w.heap.size, 1, none⟩ (.slice A1 args.length d1)).setCell ⟨w.heap.size, 2, none⟩ (.string rf.1)).setCell ⟨w.heap.size, 3, none⟩ (.slice A2 rf.2.length d2)).setCell ⟨w.heap.size, 4, none⟩ (.slice A9 dirs.length d9)).heap.size) (fun b hb => by rw [Below.heap_setCell _ _ _ _ (show b ≠ w.heap.size by have := hb.1; omega), Below.heap_setCell _ _ _ _ (show b ≠ w.heap.size by have := hb.1; omega), Below.heap_setCell _ _ _ _ (show b ≠ w.heap.size by have := hb.1; omega), Below.heap_setCell _ _ _ _ (show b ≠ w.heap.size by have := hb.1; omega), Below.heap_setCell _ _ _ _ (show b ≠ w.heap.size by have := hb.1; omega)]) (fun b hb => ⟨by have := hb.1; omega, by rw [hsez]; exact hb.2⟩))
    have z0 := HZ.out.cell 0 _ rfl
    have z1 := HZ.out.cell 1 _ rfl
    have z2 := HZ.out.cell 2 _ rfl
    have z3 := HZ.out.cell 3 _ rfl
    have z4 := HZ.out.cell 4 _ rfl
    exact bodyPost_ret (v := .agg #[.string nm, .slice A1 args.length d1, .string rf.1, .slice A2 rf.2.length d2, .slice A9 dirs.length d9]) (by simp [results, Tryz.results91, go_sem, z0, z1, z2, z3, z4]) rfl (.inl ⟨⟨nm, args, rf.1, rf.2, dirs⟩, _, _, _, HD6.out, rfl, ⟨_, _, _, _, _, rfl, ⟨rfl, Nat.le_trans HN.out (by decide), HX.out, HREF.out, HDI.out⟩⟩, HPZ.out, HTZ.out⟩)
  | false =>
    have HD2 := Lib.hid (HD1.out.trans (if_neg (by rw [hsg]; decide)))
    have hc := pisSign_any HP2.out ⟨#[40]⟩
    rw [show isSg (⟨#[40]⟩ : ByteArray).data.toList ts1 = false from hsg] at hc
    refine hc.mono ?_
    clear hc
    rintro e wb2 ⟨rfl, hb⟩
    have ht : Tw p _ _ wb2 := .of hb
    have HT3 := Lib.hid (HT2.out.step HT2.out.size ht)
    have HR3 := Lib.hid (HR2.out.far ht (by omega))
    have HV3 := Lib.hid (HV2.out.far ht (by have := hlv; omega))
    have hsz3 : w.heap.size < wb2.heap.size := Nat.lt_of_lt_of_le hsz2 ht.size
    replace hlv2 := Nat.lt_of_lt_of_le hlv2 ht.size
    have HP3 := Lib.hid (HP2.out.stay hb)
    clear hb ht hsg
    have x0 := HV3.out.cell 0 _ rfl
    have fx0 := HV3.out.frz 0
    have x1 := HV3.out.cell 1 _ rfl
    have fx1 := HV3.out.frz 1
    have x2 := HV3.out.cell 2 _ rfl
    have fx2 := HV3.out.frz 2
    have x3 := HV3.out.cell 3 _ rfl
    have fx3 := HV3.out.frz 3
    have x4 := HV3.out.cell 4 _ rfl
    have fx4 := HV3.out.frz 4
    go_wp2_with fail
    clear x0 fx0 x1 fx1 x2 fx2 x3 fx3 x4 fx4
    refine (psign_any HP3.out ⟨#[58]⟩).mono ?_
    rintro e w4 (⟨ts4, hr, rfl, hp, ht⟩ | ⟨x, hr, rfl, ht⟩)
    rotate_left
    · exact ⟨rfl, .inr ⟨_, HD2.out.trans (exB_er hr), rfl, HT3.out.step HT3.out.size ht⟩⟩
    have HD3 := Lib.hid (HD2.out.trans (exB_ok hr))
    have HT4 := Lib.hid (HT3.out.step HT3.out.size ht)
    have HR4 := Lib.hid (HR3.out.far ht (by omega))
    have HV4 := Lib.hid (HV3.out.far ht (by have := hlv; omega))
    have hsz4 : w.heap.size < w4.heap.size := Nat.lt_of_lt_of_le hsz3 ht.size
    replace hlv2 := Nat.lt_of_lt_of_le hlv2 ht.size
    have HP4 := Lib.hid hp
    clear hr hp ht
    go_wp2_with fail
    have hlw5 : w1.heap.size < w4.heap.size := hlv2
    refine (HREL.out _ _ _ HP4.out).mono ?_
    rintro e w5 (⟨rf, ts5, v5, m5, hr, rfl, hx, hp, ht⟩ | ⟨x, hr, rfl, ht⟩)
    rotate_left
    · exact ⟨rfl, .inr ⟨_, HD3.out.trans (exB_er hr), rfl, HT4.out.step HT4.out.size ht⟩⟩
    have HD4 := Lib.hid (HD3.out.trans (exB_ok hr))
    have HT5 := Lib.hid (HT4.out.step HT4.out.size ht)
    have HR5 := Lib.hid (HR4.out.far ht (by omega))
    have HV5 := Lib.hid (HV4.out.far ht (by have := hlv; omega))
    have hsz5 : w.heap.size < w5.heap.size := Nat.lt_of_lt_of_le hsz4 ht.size
    replace hlv2 := Nat.lt_of_lt_of_le hlv2 ht.size
    have HP5 := Lib.hid hp
    have hlo5 : w4.heap.size ≤ w5.heap.size := ht.size
    obtain ⟨A2, d2, hv1, hxr⟩ := RefW.shape hx
    clear hx
    subst hv1
    have hx := hxr
    clear hxr
    have HREF := Lib.hid hx
    clear hr hp ht hx
    have x0 := HV5.out.cell 0 _ rfl
    have fx0 := HV5.out.frz 0
    have x1 := HV5.out.cell 1 _ rfl
    have fx1 := HV5.out.frz 1
    have x2 := HV5.out.cell 2 _ rfl
    have fx2 := HV5.out.frz 2
    have x3 := HV5.out.cell 3 _ rfl
    have fx3 := HV5.out.frz 3
    have x4 := HV5.out.cell 4 _ rfl
    have fx4 := HV5.out.frz 4
    go_wp2_with fail
    clear x0 fx0 x1 fx1 x2 fx2 x3 fx3 x4 fx4
    have HT6 : Hid (Tw p w.heap.size w ((w5.setCell ⟨w1.heap.size, 2, none⟩ (.string rf.1)).setCell ⟨w1.heap.size, 3, none⟩ (.slice A2 rf.2.length d2))) := Lib.hid ((HT5.out.setNew (by omega) 2 (.string rf.1)).setNew (by omega) 3 (.slice A2 rf.2.length d2))
    have HR6 : Hid (Bk ((w5.setCell ⟨w1.heap.size, 2, none⟩ (.string rf.1)).setCell ⟨w1.heap.size, 3, none⟩ (.slice A2 rf.2.length d2)) w.heap.size #[.string ⟨#[]⟩, .slice none 0 0, .string ⟨#[]⟩, .slice none 0 0, .slice none 0 0] 50) := Lib.hid ((HR5.out.off (by omega) 2 (.string rf.1)).off (by omega) 3 (.slice A2 rf.2.length d2))
    have HV6 : Hid (Bk ((w5.setCell ⟨w1.heap.size, 2, none⟩ (.string rf.1)).setCell ⟨w1.heap.size, 3, none⟩ (.slice A2 rf.2.length d2)) w1.heap.size #[.string nm, .slice none 0 0, .string rf.1, .slice A2 rf.2.length d2, .slice none 0 0] 50) := Lib.hid ((HV5.out.setl 2 (.string rf.1)).setl 3 (.slice A2 rf.2.length d2))
    have HP6 := Lib.hid (HP5.out.same (((Below.refl (p + 1) w5).setCell (p := ⟨w1.heap.size, 2, none⟩) (by show p + 1 ≤ w1.heap.size; omega) (.string rf.1)).setCell (p := ⟨w1.heap.size, 3, none⟩) (by show p + 1 ≤ w1.heap.size; omega) (.slice A2 rf.2.length d2)))
    have hsz6 : w.heap.size < ((w5.setCell ⟨w1.heap.size, 2, none⟩ (.string rf.1)).setCell ⟨w1.heap.size, 3, none⟩ (.slice A2 rf.2.length d2)).heap.size := by simp [World.setCell]; omega
    have hse6 : ((w5.setCell ⟨w1.heap.size, 2, none⟩ (.string rf.1)).setCell ⟨w1.heap.size, 3, none⟩ (.slice A2 rf.2.length d2)).heap.size = w5.heap.size := by simp [World.setCell]
    replace HREF := Lib.hid (RfC.kept HREF.out (w' := ((w5.setCell ⟨w1.heap.size, 2, none⟩ (.string rf.1)).setCell ⟨w1.heap.size, 3, none⟩ (.slice A2 rf.2.length d2))) (S' := fun b => w4.heap.size ≤ b ∧ b < ((w5.setCell ⟨w1.heap.size, 2, none⟩ (.string rf.1)).setCell ⟨w1.heap.size, 3, none⟩ (.slice A2 rf.2.length d2)).heap.size) (fun b hb => by rw [Below.heap_setCell _ _ _ _ (show b ≠ w1.heap.size by have := hb.1; omega), Below.heap_setCell _ _ _ _ (show b ≠ w1.heap.size by have := hb.1; omega)]) (fun b hb => ⟨hb.1, by rw [hse6]; exact hb.2⟩))
    replace hlv2 : w1.heap.size < ((w5.setCell ⟨w1.heap.size, 2, none⟩ (.string rf.1)).setCell ⟨w1.heap.size, 3, none⟩ (.slice A2 rf.2.length d2)).heap.size := by rw [hse6]; exact hlv2
    generalize hW : ((w5.setCell ⟨w1.heap.size, 2, none⟩ (.string rf.1)).setCell ⟨w1.heap.size, 3, none⟩ (.slice A2 rf.2.length d2)) = wg6 at *
    clear hW
    have hlw7 : w1.heap.size < wg6.heap.size := hlv2
    refine (pdirectives_any p del HDEL.out HDLT.out _ _ _ HP6.out).mono ?_
    rintro e w7 (⟨dirs, ts7, v7, m7, hr, rfl, hx, hp, ht⟩ | ⟨x, hr, rfl, ht⟩)
    rotate_left
    · exact ⟨rfl, .inr ⟨_, HD4.out.trans (exB_er hr), rfl, HT6.out.step HT6.out.size ht⟩⟩
    have HD5 := Lib.hid (HD4.out.trans (exB_ok hr))
    have HT7 := Lib.hid (HT6.out.step HT6.out.size ht)
    have HR7 := Lib.hid (HR6.out.far ht (by omega))
    have HV7 := Lib.hid (HV6.out.far ht (by have := hlv; omega))
    replace HREF := Lib.hid (RfC.kept HREF.out (w' := w7) (S' := fun b => w4.heap.size ≤ b ∧ b < w7.heap.size) (fun b hb => ht.block b hb.2 (by have := hb.1; omega)) (fun b hb => ⟨hb.1, Nat.lt_of_lt_of_le hb.2 ht.size⟩))
    have hsz7 : w.heap.size < w7.heap.size := Nat.lt_of_lt_of_le hsz6 ht.size
    replace hlv2 := Nat.lt_of_lt_of_le hlv2 ht.size
    have HP7 := Lib.hid hp
    have hlo7 : wg6.heap.size ≤ w7.heap.size := ht.size
    obtain ⟨A9, d9, hv9, _, _⟩ := SlS.form hx
    subst hv9
    have HDI := Lib.hid hx
    clear hr hp ht hx
    have x0 := HV7.out.cell 0 _ rfl
    have fx0 := HV7.out.frz 0
    have x1 := HV7.out.cell 1 _ rfl
    have fx1 := HV7.out.frz 1
    have x2 := HV7.out.cell 2 _ rfl
    have fx2 := HV7.out.frz 2
    have x3 := HV7.out.cell 3 _ rfl
    have fx3 := HV7.out.frz 3
    have x4 := HV7.out.cell 4 _ rfl
    have fx4 := HV7.out.frz 4
    have y0 := HR7.out.cell 0 _ rfl
    have fy0 := HR7.out.frz 0
    have y1 := HR7.out.cell 1 _ rfl
    have fy1 := HR7.out.frz 1
    have y2 := HR7.out.cell 2 _ rfl
    have fy2 := HR7.out.frz 2
    have y3 := HR7.out.cell 3 _ rfl
    have fy3 := HR7.out.frz 3
    have y4 := HR7.out.cell 4 _ rfl
    have fy4 := HR7.out.frz 4
    have hne : w.heap.size ≠ w1.heap.size := by omega
    have hne2 : w1.heap.size ≠ w.heap.size := by omega
    go_wp2_with fail
    clear x0 fx0 x1 fx1 x2 fx2 x3 fx3 x4 fx4
    clear y0 fy0 y1 fy1 y2 fy2 y3 fy3 y4 fy4
    have HT8 : Hid (Tw p w.heap.size w (w7.setCell ⟨w1.heap.size, 4, none⟩ (.slice A9 dirs.length d9))) := Lib.hid (HT7.out.setNew (by omega) 4 (.slice A9 dirs.length d9))
    have HR8 : Hid (Bk (w7.setCell ⟨w1.heap.size, 4, none⟩ (.slice A9 dirs.length d9)) w.heap.size #[.string ⟨#[]⟩, .slice none 0 0, .string ⟨#[]⟩, .slice none 0 0, .slice none 0 0] 50) := Lib.hid (HR7.out.off (by omega) 4 (.slice A9 dirs.length d9))
    have HV8 : Hid (Bk (w7.setCell ⟨w1.heap.size, 4, none⟩ (.slice A9 dirs.length d9)) w1.heap.size #[.string nm, .slice none 0 0, .string rf.1, .slice A2 rf.2.length d2, .slice A9 dirs.length d9] 50) := Lib.hid (HV7.out.setl 4 (.slice A9 dirs.length d9))
    have HP8 := Lib.hid (HP7.out.same ((Below.refl (p + 1) w7).setCell (p := ⟨w1.heap.size, 4, none⟩) (by show p + 1 ≤ w1.heap.size; omega) (.slice A9 dirs.length d9)))
    have hsz8 : w.heap.size < (w7.setCell ⟨w1.heap.size, 4, none⟩ (.slice A9 dirs.length d9)).heap.size := by simp [World.setCell]; omega
    have hse8 : (w7.setCell ⟨w1.heap.size, 4, none⟩ (.slice A9 dirs.length d9)).heap.size = w7.heap.size := by simp [World.setCell]
    replace HREF := Lib.hid (RfC.kept HREF.out (w' := (w7.setCell ⟨w1.heap.size, 4, none⟩ (.slice A9 dirs.length d9))) (S' := fun b => w4.heap.size ≤ b ∧ b < (w7.setCell ⟨w1.heap.size, 4, none⟩ (.slice A9 dirs.length d9)).heap.size) (fun b hb => by rw [Below.heap_setCell _ _ _ _ (show b ≠ w1.heap.size by have := hb.1; omega)]) (fun b hb => ⟨hb.1, by rw [hse8]; exact hb.2⟩))
    replace HDI := Lib.hid (SlS.kept DirC.stays HDI.out (w' := (w7.setCell ⟨w1.heap.size, 4, none⟩ (.slice A9 dirs.length d9))) (S' := fun b => wg6.heap.size ≤ b ∧ b < (w7.setCell ⟨w1.heap.size, 4, none⟩ (.slice A9 dirs.length d9)).heap.size) (fun b hb => by rw [Below.heap_setCell _ _ _ _ (show b ≠ w1.heap.size by have := hb.1; omega)]) (fun b hb => ⟨hb.1, by rw [hse8]; exact hb.2⟩))
    replace hlv2 : w1.heap.size < (w7.setCell ⟨w1.heap.size, 4, none⟩ (.slice A9 dirs.length d9)).heap.size := by rw [hse8]; exact hlv2
    generalize hW : (w7.setCell ⟨w1.heap.size, 4, none⟩ (.slice A9 dirs.length d9)) = wg8 at *
    clear hW
    have HZ : Hid (Bk (((((wg8.setCell ⟨w.heap.size, 0, none⟩ (.string nm)).setCell ⟨w.heap.size, 1, none⟩ (.slice none 0 0)).setCell ⟨w.heap.size, 2, none⟩ (.string rf.1)).setCell ⟨w.heap.size, 3, none⟩ (.slice A2 rf.2.length d2)).setCell ⟨w.heap.size, 4, none⟩ (.slice A9 dirs.length d9)) w.heap.size #[.string nm, .slice none 0 0, .string rf.1, .slice A2 rf.2.length d2, .slice A9 dirs.length d9] 50) := Lib.hid (((((HR8.out.setl 0 (.string nm)).setl 1 (.slice none 0 0)).setl 2 (.string rf.1)).setl 3 (.slice A2 rf.2.length d2)).setl 4 (.slice A9 dirs.length d9))
    have HTZ : Hid (Tw p w.heap.size w (((((wg8.setCell ⟨w.heap.size, 0, none⟩ (.string nm)).setCell ⟨w.heap.size, 1, none⟩ (.slice none 0 0)).setCell ⟨w.heap.size, 2, none⟩ (.string rf.1)).setCell ⟨w.heap.size, 3, none⟩ (.slice A2 rf.2.length d2)).setCell ⟨w.heap.size, 4, none⟩ (.slice A9 dirs.length d9))) := Lib.hid (((((HT8.out.setNew (Nat.le_refl _) 0 (.string nm)).setNew (Nat.le_refl _) 1 (.slice none 0 0)).setNew (Nat.le_refl _) 2 (.string rf.1)).setNew (Nat.le_refl _) 3 (.slice A2 rf.2.length d2)).setNew (Nat.le_refl _) 4 (.slice A9 dirs.length d9))
    have HPZ := Lib.hid (HP8.out.same ((((((Below.refl (p + 1) wg8).setCell (p := ⟨w.heap.size, 0, none⟩) (by show p + 1 ≤ w.heap.size; omega) (.string nm)).setCell (p := ⟨w.heap.size, 1, none⟩) (by show p + 1 ≤ w.heap.size; omega) (.slice none 0 0)).setCell (p := ⟨w.heap.size, 2, none⟩) (by show p + 1 ≤ w.heap.size; omega) (.string rf.1)).setCell (p := ⟨w.heap.size, 3, none⟩) (by show p + 1 ≤ w.heap.size; omega) (.slice A2 rf.2.length d2)).setCell (p := ⟨w.heap.size, 4, none⟩) (by show p + 1 ≤ w.heap.size; omega) (.slice A9 dirs.length d9)))
    have hsez : (((((wg8.setCell ⟨w.heap.size, 0, none⟩ (.string nm)).setCell ⟨w.heap.size, 1, none⟩ (.slice none 0 0)).setCell ⟨w.heap.size, 2, none⟩ (.string rf.1)).setCell ⟨w.heap.size, 3, none⟩ (.slice A2 rf.2.length d2)).setCell ⟨w.heap.size, 4, none⟩ (.slice A9 dirs.length d9)).heap.size = wg8.heap.size := by simp [World.setCell]
    replace HREF := Lib.hid (RfC.kept HREF.out (w' := (((((wg8.setCell ⟨w.heap.size, 0, none⟩ (.string nm)).setCell ⟨w.heap.size, 1, none⟩ (.slice none 0 0)).setCell ⟨w.heap.size, 2, none⟩ (.string rf.1)).setCell ⟨w.heap.size, 3, none⟩ (.slice A2 rf.2.length d2)).setCell ⟨w.heap.size, 4, none⟩ (.slice A9 dirs.length d9))) (S' := fun b => w.heap.size ≤ b ∧ b < (((((wg8.setCell ⟨w.heap.size, 0, none⟩ (.string nm)).setCell ⟨w.heap.size, 1, none⟩ (.slice none 0 0)).setCell ⟨w.heap.size, 2, none⟩ (.string rf.1)).setCell ⟨w.heap.size, 3, none⟩ (.slice A2 rf.2.length d2)).setCell ⟨w.heap.size, 4, none⟩ (.slice A9 dirs.length d9)).heap.size) (fun b hb => by rw [Below.heap_setCell _ _ _ _ (show b ≠ w.heap.size by have := hb.1; omega), Below.heap_setCell _ _ _ _ (show b ≠ w.heap.size by have := hb.1; omega), Below.heap_setCell _ _ _ _ (show b ≠ w.heap.size by have := hb.1; omega), Below.heap_setCell _ _ _ _ (show b ≠ w.heap.size by have := hb.1; omega), Below.heap_setCell _ _ _ _ (show b ≠ w.heap.size by have := hb.1; omega)]) (fun b hb => ⟨by have := hb.1; omega, by rw [hsez]; exact hb.2⟩))
    replace HDI := Lib.hid (SlS.kept DirC.stays HDI.out (w' := (((((wg8.setCell ⟨w.heap.size, 0, none⟩ (.string nm)).setCell ⟨w.heap.size, 1, none⟩ (.slice none 0 0)).setCell ⟨w.heap.size, 2, none⟩ (.string rf.1)).setCell ⟨w.heap.size, 3, none⟩ (.slice A2 rf.2.length d2)).setCell ⟨w.heap.size, 4, none⟩ (.slice A9 dirs.length d9))) (S' := fun b => w.heap.size ≤ b ∧ b < (((((wg8.setCell ⟨w.heap.size, 0, none⟩ (.string nm)).setCell ⟨w.heap.size, 1, none⟩ (.slice none 0 0)).setCell ⟨w.heap.size, 2, none⟩ (.string rf.1)).setCell ⟨w.heap.size, 3, none⟩ (.slice A2 rf.2.length d2)).setCell ⟨w.heap.size, 4, none⟩ (.slice A9 dirs.length d9)).heap.size) (fun b hb => by rw [Below.heap_setCell _ _ _ _ (show b ≠ w.heap.size by have := hb.1; omega), Below.heap_setCell _ _ _ _ (show b ≠ w.heap.size by have := hb.1; omega), Below.heap_setCell _ _ _ _ (show b ≠ w.heap.size by have := hb.1; omega), Below.heap_setCell _ _ _ _ (show b ≠ w.heap.size by have := hb.1; omega), Below.heap_setCell _ _ _ _ (show b ≠ w.heap.size by have := hb.1; omega)]) (fun b hb => ⟨by have := hb.1; omega, by rw [hsez]; exact hb.2⟩))
    have z0 := HZ.out.cell 0 _ rfl
    have z1 := HZ.out.cell 1 _ rfl
    have z2 := HZ.out.cell 2 _ rfl
    have z3 := HZ.out.cell 3 _ rfl
    have z4 := HZ.out.cell 4 _ rfl
    exact bodyPost_ret (v := .agg #[.string nm, .slice none 0 0, .string rf.1, .slice A2 rf.2.length d2, .slice A9 dirs.length d9]) (by simp [results, Tryz.results91, go_sem, z0, z1, z2, z3, z4]) rfl (.inl ⟨⟨nm, [], rf.1, rf.2, dirs⟩, _, _, _, HD5.out, rfl, ⟨_, _, _, _, _, rfl, ⟨rfl, Nat.le_trans HN.out (by decide), SlS.nil _ _, HREF.out, HDI.out⟩⟩, HPZ.out, HTZ.out⟩)
end Go.Proofs.YtajljnehlncjhaaGreatDoor
