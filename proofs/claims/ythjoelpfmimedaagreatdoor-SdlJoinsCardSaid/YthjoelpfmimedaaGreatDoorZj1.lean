
/-
  Texts joined: Kit TextChars TextQuote RefText RefQuote TextUnquote TextUnquote2.
-/
import Derived.Test.YthjoelpfmimedaaGreatDoorProg
import Derived.WalkKit
import Derived.ProofKit
import Derived.Outline
import Derived.WalkSpells
import Derived.WalkLawsBesides
import Derived.Deep.QuietTactic
import Derived.BigQuiet
import Derived.StillTailTactics
import Derived.Lib.Hide
import Derived.Lib.Strings
import Derived.Deep.AppendLies
import Derived.Deep.RegionLaw
import Derived.ChangeAlike
import Derived.Lib.BufferRead
namespace Go.Proofs.YthjoelpfmimedaaGreatDoor.T1
open Go.RowKit
theorem info5 : (Tryz.prog.info? 5).map (fun i => (i.zero, i.size, i.bytes)) = some (some (.int .u8 0), 1, 1) := by kernel_rfl
def OwnB (w : World) (base : Nat) (v : Value) (l : List UInt8) : Prop := w.ownsRow base 5 1 v l.length (l.map fun c => .int .u8 (c.toNat : Int))
theorem OwnB.alloc {w : World} {base : Nat} {v : Value} {l : List UInt8} (h : OwnB w base v l) (o : Obj) : OwnB (w.alloc o) base v l := World.ownsRow.alloc h o
theorem OwnB.drew {w : World} {base : Nat} {v : Value} {l : List UInt8} (h : OwnB w base v l) : OwnB w.drew base v l := World.ownsRow.drew h
theorem append_B {w : World} {ops : Array Oper} {rest : List Oper} {o : Oper} {a : Act} {Q : Exit → Act → World → Prop} (hgd : o.guard = none) (s x : Operand)
    (ho : o.op = .call { callee := .builtin .append, args := #[s, x], argTypes := #[85, 85] }) (base : Nat) (v : Value) (l : List UInt8) (hs : a.eval s = v) (hown : OwnB w base v l)
    (ad : Addr) (c : Nat) (news : List UInt8) (hx : a.eval x = .slice (some ad) news.length c) (hnews : ∀ j (h : j < news.length), w.cell? (ad.add j) = some (.int .u8 (news[j].toNat : Int)))
    (hlen : l.length + news.length ≤ 70368744177664) (hbase : base ≤ w.heap.size)
    (h : ∀ v' w', OwnB w' base v' (l ++ news) → w.grownBy w' v.ownBlock → wpList Tryz.prog ops Q rest (a.put o.dst v') w') : wpList Tryz.prog ops Q (o :: rest) a w := by
  obtain ⟨i0, hi, hz0, hz1, hz2⟩ := info_parts info5
  refine wpList_append_own w hgd s x 85 ho base 5 i0 (.int .u8 0) 1 1 Tryz.underlying85 hi hz0 hz1 hz2 rfl (by decide) v l.length (l.map fun c : UInt8 => .int .u8 (c.toNat : Int)) hs hown ad news.length c (news.map fun c : UInt8 => .int .u8 (c.toNat : Int)) hx (by simp) ?_ ?_ (by unfold maxLen; omega) (by omega) hbase ?_
  · intro j u hj
    obtain ⟨h1, h2⟩ := List.getElem?_eq_some_iff.1 hj
    have h3 : j < news.length := by simpa using h1
    rw [hnews j h3, ← h2]; simp
  · intro u hu
    obtain ⟨c, _, rfl⟩ := List.mem_map.1 hu
    rfl
  · intro v' w' h1 h2 _
    refine h v' w' ?_ h2
    unfold OwnB
    rw [List.length_append, List.map_append]
    exact h1
theorem cell_new (w : World) (xs : Array Value) (t : TypeId) (j : Nat) (h : j < xs.size) : (w.alloc (.cells xs t)).cell? ((⟨w.heap.size, 0, none⟩ : Addr).add j) = some xs[j] := by
  have e : (⟨w.heap.size, 0, none⟩ : Addr).add j = ⟨w.heap.size, j, none⟩ := by
    unfold Addr.add; split <;> simp_all
  rw [e, World.cell?_alloc_at _ _ _ _ rfl, Array.getElem?_eq_getElem h]
theorem cells_B (w : World) (xs : Array Value) (t : TypeId) (news : List UInt8) (hx : xs = (news.map fun c : UInt8 => Value.int .u8 (c.toNat : Int)).toArray) :
    ∀ j (h : j < news.length), (w.alloc (.cells xs t)).cell? ((⟨w.heap.size, 0, none⟩ : Addr).add j) = some (.int .u8 (news[j].toNat : Int)) := by
  intro j h
  subst hx
  rw [cell_new _ _ _ j (by simpa using h)]; simp
def AppB (w : World) (base : Nat) (v : Value) (l : List UInt8) (e : Ending) (w' : World) : Prop := ∃ v', e = .returned v' ∧ OwnB w' base v' l ∧ w.grownBy w' v.ownBlock
theorem AppB.mk {w : World} {base : Nat} {v v' : Value} {l : List UInt8} {o : Obj} {w' : World} (h1 : OwnB w' base v' l) (h2 : (w.alloc o).grownBy w' v.ownBlock) : AppB w base v l (.returned v') w' :=
  ⟨v', rfl, h1, (World.grownBy_alloc w o _).trans h2⟩
theorem take_snoc (l : List UInt8) (k : Nat) (h : k < l.length) : l.take (k + 1) = l.take k ++ [l[k]] := by
  rw [List.take_succ_eq_append_getElem h]
theorem OwnB.lt {w : World} {base : Nat} {v : Value} {l : List UInt8} (h : OwnB w base v l) : ∀ k, v.ownBlock = some k → base ≤ k ∧ k < w.heap.size := World.ownsRow.lt h
theorem size_eq (s : ByteArray) : s.data.toList.length = s.size := by rw [Array.length_toList]; rfl
theorem ne_nil_of {s : ByteArray} (h : 0 < s.size) : s.toList ≠ [] := by
  rw [Lib.toList_data]; intro e
  have := congrArg List.length e
  rw [size_eq, List.length_nil] at this; omega
theorem isEmpty_of {s : ByteArray} (h : 0 < s.size) : s.toList.isEmpty = false := by
  have := ne_nil_of h
  cases e : s.toList with
  | nil => exact absurd e this
  | cons => rfl
theorem nil_of {s : ByteArray} (h : s.size = 0) : s.toList = [] := by
  rw [Lib.toList_data]; have := size_eq s; exact List.eq_nil_of_length_eq_zero (by omega)
theorem byte_lt (c : UInt8) : (c.toNat : Int) ≤ 255 := by have := c.toNat_lt; omega
theorem u8_ne {c d : UInt8} (h : c ≠ d) : ((c.toNat : Int) == (d.toNat : Int)) = false := by
  rw [beq_eq_false_iff_ne]; intro e; exact h (UInt8.toNat_inj.1 (by omega))
theorem OwnB.string {w : World} {base : Nat} {v : Value} {l : List UInt8} (h : OwnB w base v l) (hl : 0 < l.length) :
    (convert 85 9 v).run Tryz.prog w = .ok (.string ⟨l.toArray⟩) w := by
  unfold OwnB at h
  obtain ⟨g, cap, rfl, hb, hg⟩ := World.ownsRow.form h hl
  have hc := fun j (hj : j < l.length) => World.ownsRow.cellAt h j (by omega)
  refine run_convert_bytes_back w 85 9 5 _ cap l Tryz.underlying85 Tryz.underlying5 Tryz.underlying9 ?_
  intro j hj
  have e : (⟨g, 0, none⟩ : Addr).add j = ⟨g, j, none⟩ := by unfold Addr.add; split <;> simp_all
  rw [e, hc j hj]; simp [hj]
end Go.Proofs.YthjoelpfmimedaaGreatDoor.T1
namespace Go.Proofs.YthjoelpfmimedaaGreatDoor.T1
open Go.RowKit
def digB (n : Int) : Bool := decide (48 ≤ n) && decide (n ≤ 57)
def letB (n : Int) : Bool := (decide (97 ≤ n) && decide (n ≤ 122)) || (decide (65 ≤ n) && decide (n ≤ 90))
def nmB (n : Int) : Bool := letB n || digB n || n == 95
theorem isDigit_any (n : Int) (w : World) (h0 : 0 ≤ n) (h1 : n ≤ 255) :
    Calls Tryz.prog 88 #[.int .u8 n] w fun e w' => e = .returned (.bool (digB n)) ∧ w = w' := by
  go_enter Tryz.func88, Tryz.ntmps88
  go_wp2
  all_goals go_ret
  all_goals (simp [digB, *]; try omega)
theorem isLetter_any (n : Int) (w : World) (h0 : 0 ≤ n) (h1 : n ≤ 255) :
    Calls Tryz.prog 154 #[.int .u8 n] w fun e w' => e = .returned (.bool (letB n)) ∧ w = w' := by
  go_enter Tryz.func154, Tryz.ntmps154
  go_wp2
  all_goals go_ret
  all_goals simp [letB, *]
  all_goals omega
theorem isNamePart_any (n : Int) (w : World) (h0 : 0 ≤ n) (h1 : n ≤ 255) :
    Calls Tryz.prog 89 #[.int .u8 n] w fun e w' => e = .returned (.bool (nmB n)) ∧ w = w' := by
  go_enter Tryz.func89, Tryz.ntmps89
  go_wp2_with (first | (go_at_call 154; refine (isLetter_any _ _ (by omega) (by omega)).mono ?_; rintro e w' ⟨rfl, rfl⟩) | (go_at_call 88; refine (isDigit_any _ _ (by omega) (by omega)).mono ?_; rintro e w' ⟨rfl, rfl⟩))
  all_goals go_ret
  all_goals simp [nmB, *]
def allNm (l : List UInt8) : Bool := l.all fun c => nmB (c.toNat : Int)
def nameL (l : List UInt8) : Bool := !l.isEmpty && decide (l.length ≤ 64) && !digB ((l.getD 0 0).toNat : Int) && allNm l
def prB (n : Int) : Bool := decide (32 ≤ n) && decide (n ≤ 126)
theorem isPrintable_any (n : Int) (w : World) (h0 : 0 ≤ n) (h1 : n ≤ 255) :
    Calls Tryz.prog 224 #[.int .u8 n] w fun e w' => e = .returned (.bool (prB n)) ∧ w = w' := by
  go_enter Tryz.func224, Tryz.ntmps224
  go_wp2
  all_goals go_ret
  all_goals (simp [prB, *]; try omega)
theorem all_of_at (l : List UInt8) (p : UInt8 → Bool) (k : Nat) (h : k < l.length) (hp : p l[k] = false) : l.all p = false := by
  rw [List.all_eq_false]; exact ⟨l[k], List.getElem_mem h, by simp [hp]⟩
theorem all_take_succ (l : List UInt8) (p : UInt8 → Bool) (k : Nat) (h : k < l.length) (ha : (l.take k).all p = true) (hp : p l[k] = true) : (l.take (k+1)).all p = true := by
  rw [take_snoc l k h, List.all_append, ha]; simp [hp]
theorem name_empty (s : ByteArray) (w : World) (h : s.toList = []) :
    Calls Tryz.prog 43 #[.string s] w fun e w' => e = .returned (.bool false) ∧ w = w' := by
  go_enter Tryz.func43, Tryz.ntmps43
  go_wp2_with fail
  go_ret
  exact ⟨rfl, rfl⟩
theorem name_long (s : ByteArray) (w : World) (hs : s.size ≤ maxLen) (h : 64 < s.size) :
    Calls Tryz.prog 43 #[.string s] w fun e w' => e = .returned (.bool false) ∧ w = w' := by
  unfold maxLen at hs
  have h2 : s.toList.isEmpty = false := isEmpty_of (by omega)
  have h3 : s.toList ≠ [] := ne_nil_of (by omega)
  go_enter Tryz.func43, Tryz.ntmps43
  go_wp2_with fail
  go_ret
  exact ⟨rfl, rfl⟩
theorem name_digit (s : ByteArray) (w : World) (h0 : 0 < s.size) (h : s.size ≤ 64) (hd : digB s[0].toNat = true) :
    Calls Tryz.prog 43 #[.string s] w fun e w' => e = .returned (.bool false) ∧ w = w' := by
  have h2 : s.toList.isEmpty = false := isEmpty_of (by omega)
  have h3 : s.toList ≠ [] := ne_nil_of (by omega)
  have hb := byte_lt s[0]
  go_enter Tryz.func43, Tryz.ntmps43
  go_wp2_with (go_at_call 88; refine (isDigit_any _ _ (by omega) (by omega)).mono ?_; rintro e w' ⟨rfl, rfl⟩)
  go_ret
  exact ⟨rfl, rfl⟩
theorem name_loop (s : ByteArray) (w : World) (h0 : 0 < s.size) (h : s.size ≤ 64) (hd : digB s[0].toNat = false) :
    Calls Tryz.prog 43 #[.string s] w fun e w' => e = .returned (.bool (allNm s.data.toList)) ∧ w = w' := by
  have h2 : s.toList.isEmpty = false := isEmpty_of (by omega)
  have h3 : s.toList ≠ [] := ne_nil_of (by omega)
  have hb := byte_lt s[0]
  go_enter Tryz.func43, Tryz.ntmps43
  go_wp2_with (go_at_call 88; refine (isDigit_any _ _ (by omega) (by omega)).mono ?_; rintro e w' ⟨rfl, rfl⟩)
  go_loop [3] (fun i => ∃ k : Nat, k ≤ s.size ∧ i = .int .i64 k ∧ (s.data.toList.take k).all (fun c => nmB (c.toNat : Int)) = true) (fun i => s.size - (intOf i).toNat)
  case atStart => exact ⟨0, Nat.zero_le _, rfl, rfl⟩
  case round =>
    obtain ⟨k, hk, rfl, hall⟩ := hrel
    have HA := Lib.hid hall
    clear hall
    by_cases hlt : k < s.size
    · have hbk := byte_lt s[k]
      have e : s.data.toList[k]'(by simpa using hlt) = s[k] := rfl
      cases hn : nmB (s[k].toNat : Int)
      · have H1 : Hid (allNm s.data.toList = false) := Lib.hid (all_of_at s.data.toList (fun c => nmB (c.toNat : Int)) k (by simpa using hlt) hn)
        clear e
        go_wp2_with (go_at_call 89; refine (isNamePart_any _ _ (by omega) (by omega)).mono ?_; rintro e w' ⟨rfl, rfl⟩)
        go_ret
        exact ⟨by rw [H1.out]; rfl, rfl⟩
      · have H1 := Lib.hid (all_take_succ s.data.toList (fun c => nmB (c.toNat : Int)) k (by simpa using hlt) HA.out hn)
        clear e
        go_wp2_with (go_at_call 89; refine (isNamePart_any _ _ (by omega) (by omega)).mono ?_; rintro e w' ⟨rfl, rfl⟩)
        go_round
        case rel => exact ⟨k + 1, by omega, by go_num, H1.out⟩
        case measure => simp [intOf]; omega
    · have H1 : Hid (allNm s.data.toList = true) := by
        have := HA.out
        rw [List.take_of_length_le (by simp; omega)] at this
        exact Lib.hid this
      go_wp2
      go_ret
      exact ⟨by rw [H1.out]; rfl, rfl⟩
theorem name_any (s : ByteArray) (w : World) (hs : s.size ≤ maxLen) :
    Calls Tryz.prog 43 #[.string s] w fun e w' => e = .returned (.bool (nameL s.data.toList)) ∧ w = w' := by
  have hl := size_eq s
  by_cases h0 : s.size = 0
  · have e : s.data.toList = [] := List.eq_nil_of_length_eq_zero (by omega)
    rw [e]; exact name_empty s w (nil_of h0)
  have hne : s.data.toList.isEmpty = false := by
    rw [← Lib.toList_data]; exact isEmpty_of (by omega)
  by_cases h1 : 64 < s.size
  · have e : nameL s.data.toList = false := by unfold nameL; rw [hl]; simp; omega
    rw [e]; exact name_long s w hs h1
  have e0 : s.data.toList.getD 0 0 = s[0]'(by omega) := by
    rw [List.getD_eq_getElem?_getD, List.getElem?_eq_getElem (by omega)]; rfl
  cases hd : digB ((s[0]'(by omega)).toNat : Int)
  · have e : nameL s.data.toList = allNm s.data.toList := by
      unfold nameL; rw [e0, hd, hne, hl]; simp; omega
    rw [e]; exact name_loop s w (by omega) (by omega) hd
  · have e : nameL s.data.toList = false := by unfold nameL; rw [e0, hd]; simp
    rw [e]; exact name_digit s w (by omega) (by omega) hd
end Go.Proofs.YthjoelpfmimedaaGreatDoor.T1
namespace Go.Proofs.YthjoelpfmimedaaGreatDoor.T1
open Go.RowKit
end Go.Proofs.YthjoelpfmimedaaGreatDoor.T1
namespace Go.Proofs.YthjoelpfmimedaaGreatDoor.T1
open Go.RowKit
def letU (n : Int) : Bool := letB n || n == 95
theorem nm_of (n : Int) : nmB n = (letU n || digB n) := by unfold nmB letU; cases letB n <;> cases digB n <;> simp
theorem hp2 : ∀ (l : List UInt8) (h : 2 ≤ l.length), Lib.hasPrefix l [95, 95] = (((l[0]'(by omega)).toNat : Int) == 95 && ((l[1]'(by omega)).toNat : Int) == 95)
  | a :: b :: r, _ => by
    unfold Lib.hasPrefix
    rw [Bool.eq_iff_iff]
    simp only [List.isPrefixOf, Bool.and_true, Bool.and_eq_true, beq_iff_eq, List.getElem_cons_zero, List.getElem_cons_succ]
    constructor
    · rintro ⟨rfl, rfl⟩; exact ⟨rfl, rfl⟩
    · rintro ⟨ha, hb⟩
      exact ⟨(UInt8.toNat_inj.1 (by have : (95 : UInt8).toNat = 95 := rfl; omega)).symm, (UInt8.toNat_inj.1 (by have : (95 : UInt8).toNat = 95 := rfl; omega)).symm⟩
  | [_], h => absurd h (by simp)
  | [], h => absurd h (by simp)
end Go.Proofs.YthjoelpfmimedaaGreatDoor.T1
namespace Go.Proofs.YthjoelpfmimedaaGreatDoor.T1
open Go.RowKit
end Go.Proofs.YthjoelpfmimedaaGreatDoor.T1
namespace Go.Proofs.YthjoelpfmimedaaGreatDoor.T1
open Go.RowKit
def hexV (n : Int) : Int := if 48 ≤ n ∧ n ≤ 57 then n - 48 else if 97 ≤ n ∧ n ≤ 102 then n - 87 else if 65 ≤ n ∧ n ≤ 70 then n - 55 else -1
theorem hexV_bounds (n : Int) : -1 ≤ hexV n ∧ hexV n ≤ 15 := by
  unfold hexV
  split
  · omega
  · split
    · omega
    · split <;> omega
theorem hexDigit_yes (n : Int) (w : World) (h0 : 0 ≤ n) (h1 : n ≤ 255) (h : 0 ≤ hexV n) :
    Calls Tryz.prog 266 #[.int .u8 n] w fun e w' => e = .returned (.tuple #[.int .i64 (hexV n), .bool true]) ∧ w = w' := by
  have hc : (48 ≤ n ∧ n ≤ 57) ∨ (97 ≤ n ∧ n ≤ 102) ∨ (65 ≤ n ∧ n ≤ 70) := by unfold hexV at h; omega
  clear h
  rcases hc with ⟨a, b⟩ | ⟨a, b⟩ | ⟨a, b⟩
  all_goals
    first
      | (have e1 : Hid (hexV n = n - 48) := Lib.hid (by unfold hexV; omega)
         have e2 : digB n = true := by unfold digB; simp; omega
         go_enter Tryz.func266, Tryz.ntmps266
         go_wp2_with (go_at_call 88; refine (isDigit_any _ _ (by omega) (by omega)).mono ?_; rintro e w' ⟨rfl, rfl⟩)
         go_ret2
         exact ⟨by rw [e1.out]; rfl, rfl⟩)
      | (have e1 : Hid (hexV n = n - 97 + 10) := Lib.hid (by unfold hexV; omega)
         have e2 : digB n = false := by unfold digB; simp; omega
         go_enter Tryz.func266, Tryz.ntmps266
         go_wp2_with (go_at_call 88; refine (isDigit_any _ _ (by omega) (by omega)).mono ?_; rintro e w' ⟨rfl, rfl⟩)
         go_ret2
         exact ⟨by rw [e1.out]; rfl, rfl⟩)
      | (have e1 : Hid (hexV n = n - 65 + 10) := Lib.hid (by unfold hexV; omega)
         have e2 : digB n = false := by unfold digB; simp; omega
         go_enter Tryz.func266, Tryz.ntmps266
         go_wp2_with (go_at_call 88; refine (isDigit_any _ _ (by omega) (by omega)).mono ?_; rintro e w' ⟨rfl, rfl⟩)
         go_ret2
         exact ⟨by rw [e1.out]; rfl, rfl⟩)
theorem hexDigit_no (n : Int) (w : World) (h0 : 0 ≤ n) (h1 : n ≤ 255) (h : hexV n < 0) :
    Calls Tryz.prog 266 #[.int .u8 n] w fun e w' => e = .returned (.tuple #[.int .i64 0, .bool false]) ∧ w = w' := by
  have hc : (n < 48) ∨ (57 < n ∧ n < 65) ∨ (70 < n ∧ n < 97) ∨ 102 < n := by unfold hexV at h; omega
  have e2 : digB n = false := by unfold digB; simp; omega
  clear h
  rcases hc with a | ⟨a, b⟩ | ⟨a, b⟩ | a
  all_goals
    go_enter Tryz.func266, Tryz.ntmps266
    go_wp2_with (go_at_call 88; refine (isDigit_any _ _ (by omega) (by omega)).mono ?_; rintro e w' ⟨rfl, rfl⟩)
    go_ret2
    exact ⟨rfl, rfl⟩
def bv (l : List UInt8) (k : Nat) : Int := hexV ((l.getD k 0).toNat : Int)
def cdL (l : List UInt8) : Nat → Int
  | 0 => 0
  | k + 1 => cdL l k * 16 + bv l k
def OkL (l : List UInt8) (k : Nat) : Prop := ∀ j, j < k → 0 ≤ bv l j
theorem okL_zero (l : List UInt8) : OkL l 0 := fun _ h => absurd h (by omega)
theorem okL_succ {l : List UInt8} {k : Nat} (h : OkL l k) (h1 : 0 ≤ bv l k) : OkL l (k + 1) := fun j hj => by
  by_cases e : j = k
  · subst e; exact h1
  · exact h j (by omega)
theorem cdL_bounds {l : List UInt8} : ∀ {k : Nat}, OkL l k → 0 ≤ cdL l k ∧ cdL l k < 16 ^ k
  | 0, _ => by simp [cdL]
  | k + 1, h => by
    have ih := cdL_bounds (l := l) (k := k) (fun j hj => h j (by omega))
    have h1 := h k (by omega)
    have h2 := (hexV_bounds ((l.getD k 0).toNat : Int)).2
    have h3 : bv l k ≤ 15 := h2
    have e : cdL l (k + 1) = cdL l k * 16 + bv l k := rfl
    have p : (16 : Int) ^ (k + 1) = 16 ^ k * 16 := by rw [Int.pow_succ]
    rw [e, p]; omega
def okB (l : List UInt8) : Bool := decide (4 ≤ l.length) && decide (0 ≤ bv l 0) && decide (0 ≤ bv l 1) && decide (0 ≤ bv l 2) && decide (0 ≤ bv l 3) && decide (cdL l 4 ≤ 255)
def numL4 (l : List UInt8) : Option UInt8 := if okB l then some (UInt8.ofNat (cdL l 4).toNat) else none
def nb2 (k : Int) : Option UInt8 → Value
  | some b => .tuple #[.int .u8 b.toNat, .int .i64 k]
  | none => .tuple #[.int .u8 0, .int .i64 0]
theorem nb2_some {k n : Int} {b : UInt8} (h : (b.toNat : Int) = n) : nb2 k (some b) = .tuple #[.int .u8 n, .int .i64 k] := by subst h; rfl
theorem numL4_short {l : List UInt8} (h : l.length < 4) : numL4 l = none := by
  unfold numL4 okB; rw [if_neg]; simp; omega
theorem numL4_bad {l : List UInt8} {k : Nat} (hk : k < 4) (h : bv l k < 0) : numL4 l = none := by
  have : k = 0 ∨ k = 1 ∨ k = 2 ∨ k = 3 := by omega
  unfold numL4 okB; rw [if_neg]
  rcases this with rfl | rfl | rfl | rfl <;> simp <;> omega
theorem numL4_big {l : List UInt8} (h : 255 < cdL l 4) : numL4 l = none := by
  unfold numL4 okB; rw [if_neg]; simp; omega
theorem numL4_yes {l : List UInt8} (h0 : 4 ≤ l.length) (h : OkL l 4) (h1 : cdL l 4 ≤ 255) : numL4 l = some (UInt8.ofNat (cdL l 4).toNat) := by
  unfold numL4 okB
  rw [if_pos]
  simp [h0, h 0 (by omega), h 1 (by omega), h 2 (by omega), h 3 (by omega), h1]
theorem ofNat_toNat {n : Int} (h0 : 0 ≤ n) (h1 : n ≤ 255) : ((UInt8.ofNat n.toNat).toNat : Int) = n := by
  rw [UInt8.toNat_ofNat']; omega
theorem getD_at (s : ByteArray) (k : Nat) (h : k < s.size) : s.data.toList.getD k 0 = s[k] := by
  have := size_eq s
  rw [List.getD_eq_getElem?_getD, List.getElem?_eq_getElem (by omega)]; rfl
def NbPost (k : Int) (o : Option UInt8) (w : World) (e : Ending) (w' : World) : Prop := e = .returned (nb2 k o) ∧ w = w'
theorem numbered_short (s : ByteArray) (w : World) (h : s.size < 4) :
    Calls Tryz.prog 242 #[.string s] w (NbPost 6 (numL4 s.data.toList) w) := by
  rw [numL4_short (by rw [size_eq]; exact h)]
  go_enter Tryz.func242, Tryz.ntmps242
  go_wp2_with fail
  go_ret2
  exact ⟨rfl, rfl⟩
theorem numbered_long (s : ByteArray) (w : World) (h : 4 ≤ s.size) (hs : s.size ≤ maxLen) :
    Calls Tryz.prog 242 #[.string s] w (NbPost 6 (numL4 s.data.toList) w) := by
  unfold maxLen at hs
  have hl := Lib.hid (size_eq s)
  go_enter Tryz.func242, Tryz.ntmps242
  go_wp2_with fail
  go_loop [4, 11] (fun n i => ∃ k : Nat, k ≤ 4 ∧ i = .int .i64 k ∧ n = .int .i64 (cdL s.data.toList k) ∧ OkL s.data.toList k) (fun _ i => 4 - (intOf i).toNat)
  case atStart => exact ⟨0, by omega, rfl, rfl, okL_zero _⟩
  case round =>
    obtain ⟨k, hk, rfl, rfl, hok⟩ := hrel
    obtain ⟨c0, c1⟩ := cdL_bounds hok
    by_cases hlt : k < 4
    · have c2 : cdL s.data.toList k < 65536 := by
        have : k = 0 ∨ k = 1 ∨ k = 2 ∨ k = 3 := by omega
        rcases this with rfl | rfl | rfl | rfl <;> simp at c1 <;> omega
      clear c1
      have hks : k < s.size := by omega
      have hbk := byte_lt s[k]
      have hbv : bv s.data.toList k = hexV (s[k].toNat : Int) := by unfold bv; rw [getD_at s k hks]
      have hv := hexV_bounds (s[k].toNat : Int)
      by_cases hh : 0 ≤ hexV (s[k].toNat : Int)
      · have H1 := Lib.hid (okL_succ hok (by rw [hbv]; exact hh))
        have H2 : Hid (cdL s.data.toList (k + 1) = cdL s.data.toList k * 16 + hexV (s[k].toNat : Int)) := Lib.hid (by rw [← hbv]; rfl)
        clear hbv hok
        go_wp2_with (go_at_call 266; refine (hexDigit_yes _ _ (by omega) (by omega) hh).mono ?_; rintro e w' ⟨rfl, rfl⟩)
        go_round
        case rel => exact ⟨k + 1, by omega, by go_num, by rw [H2.out], H1.out⟩
        case measure => simp [intOf]; omega
      · have H1 : Hid (numL4 s.data.toList = none) := Lib.hid (numL4_bad hlt (by rw [hbv]; omega))
        clear hbv hok
        go_wp2_with (go_at_call 266; refine (hexDigit_no _ _ (by omega) (by omega) (by omega)).mono ?_; rintro e w' ⟨rfl, rfl⟩)
        go_ret2
        exact ⟨by rw [H1.out]; rfl, rfl⟩
    · obtain rfl : k = 4 := by omega
      simp only [Int.reducePow] at c1
      by_cases hbig : 255 < cdL s.data.toList 4
      · have H1 := Lib.hid (numL4_big hbig)
        go_wp2
        go_ret2
        exact ⟨by rw [H1.out]; rfl, rfl⟩
      · have hle : cdL s.data.toList 4 ≤ 255 := by omega
        have H1 := Lib.hid (numL4_yes (by rw [hl.out]; exact h) hok hle)
        have H2 := Lib.hid (ofNat_toNat c0 hle)
        clear hbig hok
        go_wp2
        go_ret2
        exact ⟨by rw [H1.out, nb2_some H2.out]; rfl, rfl⟩
theorem numbered_any (s : ByteArray) (w : World) (hs : s.size ≤ maxLen) :
    Calls Tryz.prog 242 #[.string s] w (NbPost 6 (numL4 s.data.toList) w) := by
  by_cases h : s.size < 4
  · exact numbered_short s w h
  · exact numbered_long s w (by omega) hs
def simpleL (c : UInt8) : Option UInt8 :=
  if c = 34 then some 34 else if c = 92 then some 92 else if c = 47 then some 47 else if c = 98 then some 8 else if c = 102 then some 12
  else if c = 110 then some 10 else if c = 114 then some 13 else if c = 116 then some 9 else none
theorem simple_none {c : UInt8} (h1 : c ≠ 34) (h2 : c ≠ 92) (h3 : c ≠ 47) (h4 : c ≠ 98) (h5 : c ≠ 102) (h6 : c ≠ 110) (h7 : c ≠ 114) (h8 : c ≠ 116) : simpleL c = none := by
  unfold simpleL; rw [if_neg h1, if_neg h2, if_neg h3, if_neg h4, if_neg h5, if_neg h6, if_neg h7, if_neg h8]
theorem escaped_const (n : Int) (x : UInt8) (w : World) (h : (n = 34 ∧ x = 34) ∨ (n = 92 ∧ x = 92) ∨ (n = 47 ∧ x = 47) ∨ (n = 98 ∧ x = 8) ∨ (n = 102 ∧ x = 12) ∨ (n = 110 ∧ x = 10) ∨ (n = 114 ∧ x = 13) ∨ (n = 116 ∧ x = 9)) :
    Calls Tryz.prog 243 #[.int .u8 n] w (NbPost 2 (some x) w) := by
  rcases h with ⟨rfl, rfl⟩ | ⟨rfl, rfl⟩ | ⟨rfl, rfl⟩ | ⟨rfl, rfl⟩ | ⟨rfl, rfl⟩ | ⟨rfl, rfl⟩ | ⟨rfl, rfl⟩ | ⟨rfl, rfl⟩
  all_goals
    go_enter Tryz.func243, Tryz.ntmps243
    go_wp2_with fail
    go_ret2
    exact ⟨rfl, rfl⟩
theorem escaped_none (c : UInt8) (w : World) (h1 : c ≠ 34) (h2 : c ≠ 92) (h3 : c ≠ 47) (h4 : c ≠ 98) (h5 : c ≠ 102) (h6 : c ≠ 110) (h7 : c ≠ 114) (h8 : c ≠ 116) :
    Calls Tryz.prog 243 #[.int .u8 c.toNat] w (NbPost 2 none w) := by
  have g1 : ((c.toNat : Int) == 34) = false := u8_ne h1
  have g2 : ((c.toNat : Int) == 92) = false := u8_ne h2
  have g3 : ((c.toNat : Int) == 47) = false := u8_ne h3
  have g4 : ((c.toNat : Int) == 98) = false := u8_ne h4
  have g5 : ((c.toNat : Int) == 102) = false := u8_ne h5
  have g6 : ((c.toNat : Int) == 110) = false := u8_ne h6
  have g7 : ((c.toNat : Int) == 114) = false := u8_ne h7
  have g8 : ((c.toNat : Int) == 116) = false := u8_ne h8
  go_enter Tryz.func243, Tryz.ntmps243
  go_wp2_with fail
  go_ret2
  exact ⟨rfl, rfl⟩
theorem escaped_any (c : UInt8) (w : World) : Calls Tryz.prog 243 #[.int .u8 c.toNat] w (NbPost 2 (simpleL c) w) := by
  by_cases h1 : c = 34
  · subst h1; exact escaped_const 34 34 w (by simp)
  by_cases h2 : c = 92
  · subst h2; exact escaped_const 92 92 w (by simp)
  by_cases h3 : c = 47
  · subst h3; exact escaped_const 47 47 w (by simp)
  by_cases h4 : c = 98
  · subst h4; exact escaped_const 98 8 w (by simp)
  by_cases h5 : c = 102
  · subst h5; exact escaped_const 102 12 w (by simp)
  by_cases h6 : c = 110
  · subst h6; exact escaped_const 110 10 w (by simp)
  by_cases h7 : c = 114
  · subst h7; exact escaped_const 114 13 w (by simp)
  by_cases h8 : c = 116
  · subst h8; exact escaped_const 116 9 w (by simp)
  rw [simple_none h1 h2 h3 h4 h5 h6 h7 h8]
  exact escaped_none c w h1 h2 h3 h4 h5 h6 h7 h8
def stepL : List UInt8 → Option (UInt8 × Nat)
  | [] => none
  | c :: r =>
    if c = 34 ∨ prB (c.toNat : Int) = false then none
    else if c ≠ 92 then some (c, 1)
    else match r with
      | [] => none
      | d :: t => if d = 117 then (numL4 t).map (·, 6) else (simpleL d).map (·, 2)
def fb2 : Option (UInt8 × Nat) → Value
  | some (b, k) => .tuple #[.int .u8 b.toNat, .int .i64 k]
  | none => .tuple #[.int .u8 0, .int .i64 0]
def FbPost (o : Option (UInt8 × Nat)) (w : World) (e : Ending) (w' : World) : Prop := e = .returned (fb2 o) ∧ w = w'
theorem stepL_cons (c : UInt8) (r : List UInt8) : stepL (c :: r) = if c = 34 ∨ prB (c.toNat : Int) = false then none
    else if c ≠ 92 then some (c, 1)
    else match r with
      | [] => none
      | d :: t => if d = 117 then (numL4 t).map (·, 6) else (simpleL d).map (·, 2) := rfl
theorem stepL_esc (d : UInt8) (t : List UInt8) : stepL (92 :: d :: t) = if d = 117 then (numL4 t).map (·, 6) else (simpleL d).map (·, 2) := by
  rw [stepL_cons, if_neg (by decide), if_neg (by decide)]
theorem list_of {s : ByteArray} (h : 0 < s.size) : s.data.toList = s[0] :: s.data.toList.drop 1 := by
  have h1 := size_eq s
  have h2 : s.data.toList[0]'(by omega) :: s.data.toList.drop (0 + 1) = s.data.toList.drop 0 := List.getElem_cons_drop (by omega)
  rw [List.drop_zero] at h2
  exact h2.symm
theorem list_of2 {s : ByteArray} (h : 2 ≤ s.size) : s.data.toList = s[0]'(by omega) :: s[1]'(by omega) :: s.data.toList.drop 2 := by
  have h1 := size_eq s
  have h2 : s.data.toList[1]'(by omega) :: s.data.toList.drop (1 + 1) = s.data.toList.drop 1 := List.getElem_cons_drop (by omega)
  conv => lhs; rw [list_of (by omega : 0 < s.size)]
  rw [← h2]; rfl
theorem drop_of (s : ByteArray) (k : Nat) : (s.extract k s.size).data.toList = s.data.toList.drop k := by
  rw [Lib.extract_data, List.take_of_length_le (by rw [List.length_drop, size_eq]; omega)]
theorem first_bad (s : ByteArray) (w : World) (h0 : 0 < s.size) (h : s[0] = 34 ∨ prB (s[0].toNat : Int) = false) :
    Calls Tryz.prog 212 #[.string s] w (FbPost (stepL s.data.toList) w) := by
  have H : Hid (stepL s.data.toList = none) := Lib.hid (by rw [list_of h0, stepL_cons, if_pos h])
  have hb := byte_lt s[0]
  by_cases h1 : s[0] = 34
  · have g1 : ((s[0].toNat : Int) == 34) = true := by rw [h1]; rfl
    clear h h1
    go_enter Tryz.func212, Tryz.ntmps212
    go_wp2_with fail
    go_ret2
    exact ⟨by rw [H.out]; rfl, rfl⟩
  · have g1 : ((s[0].toNat : Int) == 34) = false := u8_ne h1
    have g2 : prB (s[0].toNat : Int) = false := h.resolve_left h1
    clear h h1
    go_enter Tryz.func212, Tryz.ntmps212
    go_wp2_with (go_at_call 224; refine (isPrintable_any _ _ (by omega) (by omega)).mono ?_; rintro e w' ⟨rfl, rfl⟩)
    go_ret2
    exact ⟨by rw [H.out]; rfl, rfl⟩
theorem first_plain (s : ByteArray) (w : World) (h0 : 0 < s.size) (h : s[0] ≠ 34) (hp : prB (s[0].toNat : Int) = true) (h2 : s[0] ≠ 92) :
    Calls Tryz.prog 212 #[.string s] w (FbPost (stepL s.data.toList) w) := by
  have H : Hid (stepL s.data.toList = some (s[0], 1)) := Lib.hid (by rw [list_of h0, stepL_cons, if_neg (by simp [h, hp]), if_pos h2])
  have hb := byte_lt s[0]
  have g1 : ((s[0].toNat : Int) == 34) = false := u8_ne h
  have g2 : ((s[0].toNat : Int) == 92) = false := u8_ne h2
  clear h h2
  go_enter Tryz.func212, Tryz.ntmps212
  go_wp2_with (go_at_call 224; refine (isPrintable_any _ _ (by omega) (by omega)).mono ?_; rintro e w' ⟨rfl, rfl⟩)
  go_ret2
  exact ⟨by rw [H.out]; rfl, rfl⟩
theorem first_esc1 (s : ByteArray) (w : World) (h0 : s.size = 1) (h2 : s[0]'(by omega) = 92) :
    Calls Tryz.prog 212 #[.string s] w (FbPost (stepL s.data.toList) w) := by
  have H : Hid (stepL s.data.toList = none) := Lib.hid (by
    have h3 := size_eq s
    rw [list_of (by omega : 0 < s.size), List.drop_eq_nil_of_le (by omega), h2]; decide)
  have h0' : 0 < s.size := by omega
  have hs1 : (s.size : Int) < 2 := by omega
  have hb := byte_lt s[0]
  have g1 : ((s[0].toNat : Int) == 34) = false := by rw [h2]; rfl
  have g2 : ((s[0].toNat : Int) == 92) = true := by rw [h2]; rfl
  have g3 : prB (s[0].toNat : Int) = true := by rw [h2]; decide
  clear h2 h0
  go_enter Tryz.func212, Tryz.ntmps212
  go_wp2_with (go_at_call 224; refine (isPrintable_any _ _ (by omega) (by omega)).mono ?_; rintro e w' ⟨rfl, rfl⟩)
  go_ret2
  exact ⟨by rw [H.out]; rfl, rfl⟩
theorem step_two {s : ByteArray} (h0 : 2 ≤ s.size) (h2 : s[0]'(by omega) = 92) : stepL s.data.toList = if s[1]'(by omega) = 117 then (numL4 (s.data.toList.drop 2)).map (·, 6) else (simpleL (s[1]'(by omega))).map (·, 2) := by
  rw [list_of2 h0]
  generalize s.data.toList = l
  rw [h2, stepL_esc]; rfl
theorem first_esc2 (s : ByteArray) (w : World) (h0 : 2 ≤ s.size) (hs : s.size ≤ maxLen) (h2 : s[0]'(by omega) = 92) :
    Calls Tryz.prog 212 #[.string s] w (FbPost (stepL s.data.toList) w) := by
  have hst := step_two h0 h2
  unfold maxLen at hs
  have h0' : 0 < s.size := by omega
  have h1' : 1 < s.size := by omega
  have hb := byte_lt s[0]
  have hb1 := byte_lt s[1]
  have g1 : ((s[0].toNat : Int) == 34) = false := by rw [h2]; rfl
  have g2 : ((s[0].toNat : Int) == 92) = true := by rw [h2]; rfl
  have g3 : prB (s[0].toNat : Int) = true := by rw [h2]; decide
  clear h2
  by_cases hu : s[1] = 117
  · rw [if_pos hu] at hst
    have g4 : ((s[1].toNat : Int) == 117) = true := by rw [hu]; rfl
    have H := Lib.hid hst
    clear hst hu
    go_enter Tryz.func212, Tryz.ntmps212
    go_wp2_with (go_at_call 224; refine (isPrintable_any _ _ (by omega) (by omega)).mono ?_; rintro e w' ⟨rfl, rfl⟩)
    have hn : (s.extract 2 s.size).data.toList = s.data.toList.drop 2 := drop_of s 2
    have hx : (s.extract 2 s.size).size ≤ maxLen := by
      rw [← size_eq, hn, List.length_drop, size_eq]; unfold maxLen; omega
    have HN := Lib.hid hn
    clear hn
    refine (numbered_any _ _ hx).mono ?_
    rw [HN.out]
    clear hx
    cases ho : numL4 (s.data.toList.drop 2) with
    | none =>
      rintro e w' ⟨rfl, rfl⟩
      have H2 : Hid (stepL s.data.toList = none) := Lib.hid (by rw [H.out, ho]; rfl)
      clear ho
      unfold nb2
      go_wp2
      go_ret2
      exact ⟨by rw [H2.out]; rfl, rfl⟩
    | some b =>
      rintro e w' ⟨rfl, rfl⟩
      have H2 : Hid (stepL s.data.toList = some (b, 6)) := Lib.hid (by rw [H.out, ho]; rfl)
      clear ho
      unfold nb2
      go_wp2
      go_ret2
      exact ⟨by rw [H2.out]; rfl, rfl⟩
  · rw [if_neg hu] at hst
    have g4 : ((s[1].toNat : Int) == 117) = false := u8_ne hu
    have H := Lib.hid hst
    clear hst hu
    go_enter Tryz.func212, Tryz.ntmps212
    go_wp2_with (go_at_call 224; refine (isPrintable_any _ _ (by omega) (by omega)).mono ?_; rintro e w' ⟨rfl, rfl⟩)
    refine (escaped_any _ _).mono ?_
    cases ho : simpleL s[1] with
    | none =>
      rintro e w' ⟨rfl, rfl⟩
      have H2 : Hid (stepL s.data.toList = none) := Lib.hid (by rw [H.out, ho]; rfl)
      clear ho
      unfold nb2
      go_wp2
      go_ret2
      exact ⟨by rw [H2.out]; rfl, rfl⟩
    | some b =>
      rintro e w' ⟨rfl, rfl⟩
      have H2 : Hid (stepL s.data.toList = some (b, 2)) := Lib.hid (by rw [H.out, ho]; rfl)
      clear ho
      unfold nb2
      go_wp2
      go_ret2
      exact ⟨by rw [H2.out]; rfl, rfl⟩
theorem first_any (s : ByteArray) (w : World) (h0 : 0 < s.size) (hs : s.size ≤ maxLen) :
    Calls Tryz.prog 212 #[.string s] w (FbPost (stepL s.data.toList) w) := by
  by_cases h : s[0] = 34 ∨ prB (s[0].toNat : Int) = false
  · exact first_bad s w h0 h
  have h1 : s[0] ≠ 34 := fun e => h (Or.inl e)
  have hp : prB (s[0].toNat : Int) = true := by
    cases e : prB (s[0].toNat : Int)
    · exact absurd (Or.inr e) h
    · rfl
  by_cases h2 : s[0] = 92
  · by_cases h3 : s.size = 1
    · exact first_esc1 s w h3 h2
    · exact first_esc2 s w (by omega) hs h2
  · exact first_plain s w h0 h1 hp h2
end Go.Proofs.YthjoelpfmimedaaGreatDoor.T1
namespace Go.Proofs.YthjoelpfmimedaaGreatDoor.T1
open Go.RowKit
def unqF : Nat → List UInt8 → Option (List UInt8)
  | 0, l => if l = [] then some [] else none
  | f + 1, l => if l = [] then some [] else match stepL l with
    | none => none
    | some (b, k) => (unqF f (l.drop k)).map (b :: ·)
theorem numL4_len {t : List UInt8} {b : UInt8} (h : numL4 t = some b) : 4 ≤ t.length := by
  unfold numL4 at h
  by_cases e : okB t = true
  · unfold okB at e; simp at e; exact e.1.1.1.1.1
  · rw [if_neg e] at h; cases h
theorem stepL_len {l : List UInt8} {b : UInt8} {k : Nat} (h : stepL l = some (b, k)) : 1 ≤ k ∧ k ≤ l.length := by
  cases l with
  | nil => cases h
  | cons c r =>
    rw [stepL_cons] at h
    by_cases h1 : c = 34 ∨ prB (c.toNat : Int) = false
    · rw [if_pos h1] at h; cases h
    rw [if_neg h1] at h
    by_cases h2 : c ≠ 92
    · rw [if_pos h2] at h; cases h; simp
    rw [if_neg h2] at h
    cases r with
    | nil => cases h
    | cons d t =>
      simp only at h
      by_cases h3 : d = 117
      · rw [if_pos h3] at h
        obtain ⟨x, hx, e⟩ := Option.map_eq_some_iff.1 h
        have := numL4_len hx
        cases e; simp; omega
      · rw [if_neg h3] at h
        obtain ⟨x, hx, e⟩ := Option.map_eq_some_iff.1 h
        cases e; simp
theorem unqF_enough : ∀ (f : Nat) (l : List UInt8), l.length ≤ f → unqF f l = unqF l.length l
  | 0, l, h => by
    have : l = [] := List.eq_nil_of_length_eq_zero (by omega)
    subst this; rfl
  | f + 1, [], _ => rfl
  | f + 1, c :: r, h => by
    rw [List.length_cons]
    unfold unqF
    rw [if_neg (by simp), if_neg (by simp)]
    cases hs : stepL (c :: r) with
    | none => rfl
    | some p =>
      obtain ⟨b, k⟩ := p
      have hk := stepL_len hs
      have hl : ((c :: r).drop k).length ≤ r.length := by rw [List.length_drop, List.length_cons]; omega
      simp only
      rw [unqF_enough f _ (by rw [List.length_cons] at h; omega), unqF_enough r.length _ hl]
def unqR (l : List UInt8) : Option (List UInt8) := unqF l.length l
theorem unqR_nil : unqR [] = some [] := rfl
theorem unqR_step {l : List UInt8} {b : UInt8} {k : Nat} (h : stepL l = some (b, k)) : unqR l = (unqR (l.drop k)).map (b :: ·) := by
  cases l with
  | nil => cases h
  | cons c r =>
    have hk := stepL_len h
    unfold unqR
    rw [List.length_cons]
    conv => lhs; unfold unqF
    rw [if_neg (by simp), h]
    simp only
    rw [unqF_enough r.length _ (by rw [List.length_drop, List.length_cons]; omega)]
theorem unqR_bad {l : List UInt8} (h0 : l ≠ []) (h : stepL l = none) : unqR l = none := by
  cases l with
  | nil => exact absurd rfl h0
  | cons c r =>
    unfold unqR
    rw [List.length_cons]
    unfold unqF
    rw [if_neg (by simp), h]
def midL (l : List UInt8) : List UInt8 := (l.drop 1).take (l.length - 2)
def unquoteL (l : List UInt8) : Option (List UInt8) := if 2 ≤ l.length ∧ l.getD 0 0 = 34 ∧ l.getD (l.length - 1) 0 = 34 then unqR (midL l) else none
def uq2 : Option (List UInt8) → Value
  | some l => .tuple #[.string ⟨l.toArray⟩, .int .i64 0]
  | none => .tuple #[.string ⟨#[]⟩, .int .i64 3]
def UqPost (o : Option (List UInt8)) (w : World) (e : Ending) (w' : World) : Prop := e = .returned (uq2 o) ∧ Below w.heap.size w w'
def UnqAt (l done rest : List UInt8) : Prop := unqR l = (unqR rest).map (done ++ ·)
theorem unqAt_start (l : List UInt8) : UnqAt l [] l := by unfold UnqAt; simp
theorem unqAt_step {l done rest : List UInt8} {b : UInt8} {k : Nat} (h : UnqAt l done rest) (hs : stepL rest = some (b, k)) : UnqAt l (done ++ [b]) (rest.drop k) := by
  unfold UnqAt at h ⊢
  rw [h, unqR_step hs, Option.map_map]
  congr 1
  funext x; simp
theorem unqAt_bad {l done rest : List UInt8} (h : UnqAt l done rest) (h0 : rest ≠ []) (hs : stepL rest = none) : unqR l = none := by
  unfold UnqAt at h; rw [h, unqR_bad h0 hs]; rfl
theorem unqAt_end {l done rest : List UInt8} (h : UnqAt l done rest) (h0 : rest = []) : unqR l = some done := by
  unfold UnqAt at h; rw [h, h0, unqR_nil]; simp
theorem OwnB.string' {w : World} {base : Nat} {v : Value} {l : List UInt8} (h : OwnB w base v l) : (convert 85 9 v).run Tryz.prog w = .ok (.string ⟨l.toArray⟩) w := by
  by_cases h0 : 0 < l.length
  · exact h.string h0
  have e : l = [] := List.eq_nil_of_length_eq_zero (by omega)
  subst e
  rcases h.2 with ⟨rfl, _⟩ | ⟨g, cap, cur, rfl, _⟩
  · exact Lib.run_convert_nil_bytes w _ _ _ _ Tryz.underlying85 Tryz.underlying5 Tryz.underlying9
  · exact run_convert_bytes_back w _ _ _ _ cap [] Tryz.underlying85 Tryz.underlying5 Tryz.underlying9 (fun j hj => absurd hj (by simp))
def strLen : Value → Nat
  | .string s => s.size
  | _ => 0
theorem mid_of (s : ByteArray) : (s.extract 1 (s.size - 1)).data.toList = midL s.data.toList := by
  rw [Lib.extract_data]; unfold midL; rw [size_eq]; rfl
theorem unquote_no (s : ByteArray) (w : World) (hs : s.size ≤ maxLen) (h : ¬ (2 ≤ s.size ∧ s.data.toList.getD 0 0 = 34 ∧ s.data.toList.getD (s.size - 1) 0 = 34)) :
    Calls Tryz.prog 171 #[.string s] w (UqPost (unquoteL s.data.toList) w) := by
  have e : unquoteL s.data.toList = none := by unfold unquoteL; rw [size_eq, if_neg h]
  rw [e]
  unfold maxLen at hs
  by_cases h2 : 2 ≤ s.size
  · have h0' : 0 < s.size := by omega
    have h1' : s.size - 1 < s.size := by omega
    rw [getD_at s 0 h0', getD_at s (s.size - 1) h1'] at h
    by_cases ha : s[0] = 34
    · have hb : s[s.size - 1] ≠ 34 := fun e => h ⟨h2, ha, e⟩
      have g1 : ((s[0].toNat : Int) != 34) = false := by rw [ha]; rfl
      have g2 : ((s[s.size - 1].toNat : Int) != 34) = true := by
        have := u8_ne hb
        rw [bne]; rw [show ((s[s.size - 1].toNat : Int) == 34) = false from this]; rfl
      clear h ha hb
      go_enter Tryz.func171, Tryz.ntmps171
      go_wp2_with fail
      go_ret2
      exact ⟨rfl, Below.refl _ _⟩
    · have g1 : ((s[0].toNat : Int) != 34) = true := by
        have := u8_ne ha
        rw [bne]; rw [show ((s[0].toNat : Int) == 34) = false from this]; rfl
      clear h ha
      go_enter Tryz.func171, Tryz.ntmps171
      go_wp2_with fail
      go_ret2
      exact ⟨rfl, Below.refl _ _⟩
  · have h2' : (s.size : Int) < 2 := by omega
    clear h h2
    go_enter Tryz.func171, Tryz.ntmps171
    go_wp2_with fail
    go_ret2
    exact ⟨rfl, Below.refl _ _⟩
set_option maxRecDepth 100000 in
theorem unquote_yes (s : ByteArray) (w : World) (hs : s.size ≤ 137438953472) (h2 : 2 ≤ s.size) (ha : s.data.toList.getD 0 0 = 34) (hb : s.data.toList.getD (s.size - 1) 0 = 34) :
    Calls Tryz.prog 171 #[.string s] w (UqPost (unquoteL s.data.toList) w) := by
  have e : unquoteL s.data.toList = unqR (midL s.data.toList) := by unfold unquoteL; rw [size_eq, if_pos ⟨h2, ha, hb⟩]
  rw [e]
  clear e
  have h0' : 0 < s.size := by omega
  have h1' : s.size - 1 < s.size := by omega
  rw [getD_at s 0 h0'] at ha
  rw [getD_at s (s.size - 1) h1'] at hb
  have g1 : ((s[0].toNat : Int) != 34) = false := by rw [ha]; rfl
  have g2 : ((s[s.size - 1].toNat : Int) != 34) = false := by rw [hb]; rfl
  clear ha hb
  obtain ⟨i0, hi, hz0, hz1, hz2⟩ := info_parts info5
  go_enter Tryz.func171, Tryz.ntmps171
  go_wp2_with (refine wpList_make_own _ rfl _ _ 85 rfl w.heap.size 5 i0 (.int .u8 0) 1 Tryz.underlying85 hi hz0 hz1 _ _ _ (s.size - 1 - 1) rfl rfl rfl ?_ ?_ ?_ ?_)
  · rw [hz2]; omega
  · unfold maxLen; omega
  · exact Nat.le_refl _
  intro w1 hown1 hg1
  have hown1 : OwnB w1 w.heap.size _ [] := hown1
  have hb1 : Below w.heap.size w w1 := (Below.refl _ _).grown hg1 (Nat.le_refl _) (by simp)
  clear hg1
  have hml : (s.extract 1 (s.size - 1)).size ≤ s.size := by
    rw [← size_eq, mid_of, ← size_eq s]; unfold midL; rw [List.length_take, List.length_drop]; omega
  have hat : UnqAt (midL s.data.toList) [] (s.extract 1 (s.size - 1)).data.toList := by rw [mid_of]; exact unqAt_start _
  generalize s.extract 1 (s.size - 1) = m at *
  generalize midL s.data.toList = l at *
  go_wp2
  go_loopw [4, 5] (fun c v wr => ∃ (r : ByteArray) (done : List UInt8), r.size + done.length ≤ s.size ∧ c = .string r ∧ OwnB wr w.heap.size v done ∧ UnqAt l done r.data.toList ∧ Below w.heap.size w wr) (fun c _ _ => strLen c)
  case atStart => exact ⟨m, [], by simpa using hml, rfl, hown1, hat, hb1⟩
  case round =>
    obtain ⟨r, done, hrd, rfl, hown, hq, hb⟩ := hrel
    have hsz := hb.size
    clear hown1 hb1 hml hat
    by_cases h0 : r.size = 0
    · have H := Lib.hid (unqAt_end hq (List.eq_nil_of_length_eq_zero (by rw [size_eq]; exact h0)))
      have e1 : (!r.toList.isEmpty) = false := by rw [nil_of h0]; rfl
      have e2 : r.toList = [] := nil_of h0
      have hcv := hown.string'
      clear hq hown h0
      go_wp2
      go_ret2
      exact ⟨by rw [H.out]; rfl, hb⟩
    have h0' : 0 < r.size := by omega
    have e1 : (!r.toList.isEmpty) = true := by rw [isEmpty_of h0']; rfl
    have e2 : r.toList ≠ [] := ne_nil_of h0'
    clear h0
    go_wp2_with fail
    refine (first_any _ _ h0' (by unfold maxLen; omega)).mono ?_
    cases hs : stepL r.data.toList with
    | none =>
      rintro e w2 ⟨rfl, rfl⟩
      have H := Lib.hid (unqAt_bad hq (by intro e; have := size_eq r; rw [e] at this; simp at this; omega) hs)
      clear hs hq
      unfold fb2
      go_wp2
      go_ret2
      exact ⟨by rw [H.out]; rfl, hb⟩
    | some p =>
      obtain ⟨b, k⟩ := p
      have hk := stepL_len hs
      rw [size_eq] at hk
      obtain ⟨k1, k2⟩ := hk
      have H := Lib.hid (unqAt_step hq hs)
      have k0 : ((k : Int) == 0) = false := by rw [beq_eq_false_iff_ne]; omega
      rintro e w2 ⟨rfl, rfl⟩
      clear hs hq
      unfold fb2
      go_wp2_with (at_builtin; refine append_B rfl _ _ rfl w.heap.size _ _ rfl (hown.alloc _) _ _ [b] rfl (cells_B _ _ _ [b] rfl) ?_ ?_ ?_)
      · simp; omega
      · simp; omega
      intro v3 w3 hown3 hg3
      have hb3 : Below w.heap.size w w3 := (hb.alloc hsz _).grown hg3 (by simp; omega) (by intro j hj; have := hown.lt j hj; omega)
      clear hg3 hown hb hsz
      have hdr := Lib.hid (drop_of r k)
      have hds : (r.extract k r.size).size = r.size - k := by rw [← size_eq, hdr.out, List.length_drop, size_eq]
      have HDS := Lib.hid hds
      clear hds
      go_wp2
      go_roundw
      case rel => exact ⟨r.extract k r.size, done ++ [b], by rw [HDS.out, List.length_append]; simp; omega, rfl, hown3, by rw [hdr.out]; exact H.out, hb3⟩
      case measure => show (r.extract k r.size).size < r.size; rw [HDS.out]; omega
theorem unquote_any (s : ByteArray) (w : World) (hs : s.size ≤ 137438953472) :
    Calls Tryz.prog 171 #[.string s] w (UqPost (unquoteL s.data.toList) w) := by
  by_cases h : 2 ≤ s.size ∧ s.data.toList.getD 0 0 = 34 ∧ s.data.toList.getD (s.size - 1) 0 = 34
  · exact unquote_yes s w hs h.1 h.2.1 h.2.2
  · exact unquote_no s w (by unfold maxLen; omega) h
end Go.Proofs.YthjoelpfmimedaaGreatDoor.T1
