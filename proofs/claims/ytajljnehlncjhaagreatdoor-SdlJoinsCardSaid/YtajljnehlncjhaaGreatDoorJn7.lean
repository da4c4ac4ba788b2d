
/-
  Texts joined: Distinct Cmp Compare Make Name Right E8.
-/
import Derived.Test.YtajljnehlncjhaaGreatDoorJn6
import Derived.Maps.Own
import Derived.StringKeys
import Derived.Maps.OwnOps
import Derived.Maps.OwnSet
import Derived.Test.YtajljnehlncjhaaGreatDoorJn4
import Derived.Lib.Bytealg
import Derived.Lib.Small
import Derived.Test.YtajljnehlncjhaaGreatDoorJn2
import Derived.Deep.RegionHeld3
import Derived.Test.YtajljnehlncjhaaGreatDoorJn3
namespace Go.Proofs.YtajljnehlncjhaaGreatDoor
open Go.RowKit Go.Maps
theorem run_makeMap_hint {P : Program} (t k e : TypeId) (kd : IntKind) (n : Int) (ht : P.underlying t = some (.map k e)) (w : World) :
    (Instr.makeMap t (some (.int kd n))).run P w = .ok (.map (some w.heap.size)) (w.alloc (.map #[] 0)) := by
  simp [Instr.makeMap, run_underlying ht]; rfl
theorem plainElem_bool_inv {H : Type} {P : Program} {e : TypeId} (he : P.underlying e = some .bool) {v : Value} {z : DataW H × List MemPlace} (h : plainElem P e v = some z) : ∃ x, v = .bool x ∧ z = (.lit (.bool x), []) := by
  unfold plainElem at h
  rw [he] at h
  cases v <;> simp at h
  exact ⟨_, rfl, h.symm⟩
theorem at_fold {H : Type} (u z : DataW H) (k : Lit) : ∀ (acc : List Lit) (m : DataW H), IsMap m → (∀ x ∈ acc, WideAt.IsKeyLit x) → (acc.foldl (fun m x => m.put x u) m).atKey k z = if acc.any (fun x => x.sameKey k) then u else m.atKey k z
  | [], m, _, _ => by simp
  | x :: r, m, hm, h => by
    rw [List.foldl_cons, at_fold u z k r (m.put x u) (hm.put x u) (fun y hy => h y (by simp [hy])), List.any_cons]
    by_cases e : k = x
    · subst e
      rw [atKey_put_same hm (h k (by simp)), WideAt.sameKey_self (h k (by simp))]
      simp
    · rw [atKey_put_other e, sameKey_ne (fun e' => e e'.symm)]
      simp
instance decBA : DecidableEq ByteArray := fun a b => decidable_of_iff (a.data = b.data) ⟨fun h => by cases a; cases b; simp at h; subst h; rfl, fun h => by rw [h]⟩
instance memBA (s : ByteArray) (l : List ByteArray) : Decidable (s ∈ l) := decidable_of_iff (l.any (fun a => decide (a = s)) = true) (by simp)
def lits (l : List ByteArray) : List Lit := l.map fun s => .string s.data.toList
def setD (l : List ByteArray) : DataW Unit := setOf (.lit (.bool true)) (lits l)
theorem lit_inj {a b : ByteArray} : (Lit.string a.data.toList = Lit.string b.data.toList) ↔ a = b := by
  constructor
  · intro h
    injection h with h
    obtain ⟨a⟩ := a; obtain ⟨b⟩ := b
    simp only [ByteArray.mk.injEq]
    exact Array.toList_inj.1 h
  · rintro rfl; rfl
theorem key_lit (s : ByteArray) : WideAt.IsKeyLit (.string s.data.toList) := by first | exact trivial | simp [WideAt.IsKeyLit]
theorem any_lits (l : List ByteArray) (s : ByteArray) : (lits l).any (fun x => x.sameKey (.string s.data.toList)) = decide (s ∈ l) := by
  unfold lits
  induction l with
  | nil => simp
  | cons a r ih =>
    rw [List.map_cons, List.any_cons, ih]
    by_cases e : a = s
    · subst e; rw [WideAt.sameKey_self (key_lit a)]; simp
    · rw [sameKey_ne (fun h => e (lit_inj.1 h))]
      have e2 : ¬ s = a := fun h => e h.symm
      simp [e2]
theorem setD_at (l : List ByteArray) (s : ByteArray) : (setD l).atKey (.string s.data.toList) (.lit (.bool false)) = .lit (.bool (decide (s ∈ l))) := by
  unfold setD setOf
  rw [at_fold _ _ _ _ _ isMap_empty (fun x hx => by obtain ⟨s, _, rfl⟩ := List.mem_map.1 hx; exact key_lit s), any_lits]
  by_cases h : s ∈ l
  · simp [h]
  · simp [h, DataW.atKey]
theorem setD_snoc (l : List ByteArray) (s : ByteArray) : setD (l ++ [s]) = (setD l).put (.string s.data.toList) (.lit (.bool true)) := by
  unfold setD lits; rw [List.map_append]; exact setOf_snoc _ _ _
theorem nodup_snoc {l : List ByteArray} {k : Nat} (h : k < l.length) : (l.take (k + 1)).Nodup ↔ (l.take k).Nodup ∧ l[k] ∉ l.take k := by
  rw [List.take_succ_eq_append_getElem h, List.nodup_append]
  constructor
  · rintro ⟨h1, _, h3⟩
    exact ⟨h1, fun hm => h3 _ hm _ (by simp) rfl⟩
  · rintro ⟨h1, h2⟩
    exact ⟨h1, by simp, fun a ha b hb => by simp at hb; subst hb; exact fun e => h2 (e ▸ ha)⟩
theorem nodup_take {l : List ByteArray} {k : Nat} (h : l.Nodup) : (l.take k).Nodup := h.sublist (List.take_sublist _ _)
theorem wpList_lookup_own_bool {H : Type} {P : Program} (w : World) {ops : Array Oper} {rest : List Oper} {o : Oper} {a : Act} {Q : Exit → Act → World → Prop}
    (hg : o.guard = none) (m x : Operand) (t : TypeId) (hop : o.op = Op.lookup t m x false)
    (k e : TypeId) (K : Keyed P k) (ht : P.underlying t = some (.map k e)) (he : P.underlying e = some .bool) (hz : (zeroValue e).run P w = .ok (.bool false) w) (b n : Nat) (D : DataW H)
    (hm : a.eval m = .map (some b)) (hown : w.ownsMap P k (plainElem P e) b n D) (key : Value) (kl : Lit) (hx : a.eval x = key) (hkey : keyOf P k key = some kl)
    (y : Bool) (hy : D.atKey kl (.lit (.bool false)) = .lit (.bool y)) (hK : wpList P ops Q rest (a.put o.dst (.bool y)) w) :
    wpList P ops Q (o :: rest) a w := by
  refine wpList_plain hg fun K' hK' => ?_
  obtain ⟨v, ps, hrun, hv⟩ := hown.lookup K ht hz (plainElem_bool he false) hkey
  obtain ⟨c, rfl, hc⟩ := plainElem_bool_inv he hv
  simp only [Prod.mk.injEq] at hc
  rw [hy] at hc
  obtain ⟨hc, _⟩ := hc
  injection hc with hc
  injection hc with hc
  subst hc
  unfold Oper.wp
  simp [execOp, hop, hm, hx, hrun, Result.andThen]
  exact hK' _ _ hK
theorem keyLaw : Keyed Tryz.prog 9 := string_keyed Tryz.underlying9
theorem zeroB (w : World) : (zeroValue 4).run Tryz.prog w = .ok (.bool false) w := by kernel_rfl
set_option maxHeartbeats 1000000 in
theorem distinct_any (K : Option Addr) (lk ck : Nat) (keys : List ByteArray) (w : World) (B : Nat) (hlk : keys.length = lk) (hbk : lk * 16 ≤ 140737488351232) (hks : ∀ s ∈ keys, s.size ≤ 140737488351232) (hK : KeysAt w B K keys) (hB : B ≤ w.heap.size) :
    Calls Tryz.prog 219 #[.slice K lk ck] w fun e w' => e = .returned (.bool (decide keys.Nodup)) ∧ Below w.heap.size w w' := by
  have HL := Lib.hid hlk
  have HS := Lib.hid hks
  have HK := Lib.hid hK
  clear hlk hks hK
  have hmk := fun w => run_makeMap_hint (P := Tryz.prog) 212 9 4 .i64 lk Tryz.underlying212 w
  go_enter Tryz.func219, Tryz.ntmps219
  go_wp2_with fail
  clear hmk
  go_loopw [11] (fun i wr => ∃ j : Nat, j ≤ lk ∧ i = .int .i64 j ∧ (keys.take j).Nodup ∧ wr.ownsMap Tryz.prog 9 (plainElem Tryz.prog 4) w.heap.size j (setD (keys.take j)) ∧ Below w.heap.size w wr) (fun i _ => lk - (intOf i).toNat)
  case atStart => exact ⟨0, Nat.zero_le _, rfl, List.nodup_nil, World.ownsMap_made _ _ _ _, (Below.refl _ _).alloc (Nat.le_refl _) _⟩
  case round =>
    obtain ⟨j, hj, rfl, hnd, hown, hb⟩ := hrel
    have HND := Lib.hid hnd
    have HOWN := Lib.hid hown
    have HB := Lib.hid hb
    clear hnd hown
    have hlm : (lk : Int) ≤ 140737488351232 := by omega
    by_cases hlt : j < lk
    · obtain ⟨a, rfl, hab, hc⟩ := HK.out (by have := HL.out; omega)
      have hjl : j < keys.length := by have := HL.out; omega
      have hcell := (hb.cell (p := a.add j) (by rw [add_block]; omega)).trans (hc j _ (List.getElem?_eq_getElem hjl))
      have hsz := HS.out _ (List.getElem_mem hjl)
      have HSN := Lib.hid (nodup_snoc hjl)
      have HTK : Hid (keys.take (j + 1) = keys.take j ++ [keys[j]]) := Lib.hid (List.take_succ_eq_append_getElem hjl)
      generalize keys[j] = s at *
      have hat := setD_at (keys.take j) s
      have HAT := Lib.hid hat
      clear hat hc hb
      by_cases hm : s ∈ keys.take j
      · have hy : decide (s ∈ keys.take j) = true := by simpa using hm
        rw [hy] at HAT
        have HNO : Hid (decide keys.Nodup = false) := Lib.hid (by
          simp only [decide_eq_false_iff_not]
          intro h
          exact (HSN.out.1 (nodup_take h)).2 hm)
        clear hm hy
        go_wp2_with (at_lookup; refine wpList_lookup_own_bool _ rfl _ _ 212 rfl 9 4 keyLaw Tryz.underlying212 Tryz.underlying4 (zeroB _) w.heap.size j _ rfl HOWN.out _ _ rfl (WideMaps.keyOf_string_mk Tryz.underlying9 (by unfold maxLen; omega)) _ HAT.out ?_)
        go_ret
        exact ⟨by rw [HNO.out]; rfl, HB.out⟩
      · have hy : decide (s ∈ keys.take j) = false := by simpa using hm
        rw [hy] at HAT
        have HND1 : Hid (keys.take (j + 1)).Nodup := Lib.hid (HSN.out.2 ⟨HND.out, hm⟩)
        clear hm hy
        go_wp2_with (first
          | (at_lookup; refine wpList_lookup_own_bool _ rfl _ _ 212 rfl 9 4 keyLaw Tryz.underlying212 Tryz.underlying4 (zeroB _) w.heap.size j _ rfl HOWN.out _ _ rfl (WideMaps.keyOf_string_mk Tryz.underlying9 (by unfold maxLen; omega)) _ HAT.out ?_)
          | (at_mapUpdate; refine wpList_mapUpdate_own _ rfl _ _ _ 212 rfl 9 4 keyLaw Tryz.underlying212 _ w.heap.size j _ rfl HOWN.out (by unfold maxLen; omega) _ _ _ rfl rfl (WideMaps.keyOf_string_mk Tryz.underlying9 (by unfold maxLen; omega)) _ [] (plainElem_bool Tryz.underlying4 true) ?_; intro w1 hown1 hgrow1))
        go_roundw
        case rel => exact ⟨j + 1, by omega, by go_num, HND1.out, by rw [HTK.out, setD_snoc]; exact hown1, HB.out.grown hgrow1 HB.out.size (fun k e => by cases e; exact Nat.le_refl _)⟩
        case measure => simp [intOf]; omega
    · have HJ : Hid (decide keys.Nodup = true) := Lib.hid (by
        have := HND.out
        rw [List.take_of_length_le (by have := HL.out; omega)] at this
        simpa using this)
      clear hb
      go_wp2_with fail
      go_ret
      exact ⟨by rw [HJ.out]; rfl, HB.out⟩
end Go.Proofs.YtajljnehlncjhaaGreatDoor
namespace Go.Proofs.YtajljnehlncjhaaGreatDoor
end Go.Proofs.YtajljnehlncjhaaGreatDoor
namespace Go.Proofs.YtajljnehlncjhaaGreatDoor
open Go.RowKit
def VT.keys : VT → List ByteArray | .mk _ _ _ _ ks => ks
def VT.items : VT → List VT | .mk _ _ _ is _ => is
theorem Rd.shape {w : World} {B : Nat} {v : Value} {t : VT} (h : Rd w B v t) : ∃ (k n : Int) (s : ByteArray) (A : Option Addr) (li ci : Nat) (K : Option Addr) (lk ck : Nat), v = .agg #[.int .i64 k, .int .i64 n, .string s, .slice A li ci, .slice K lk ck] := by
  cases h with
  | mk V hk hn hs hks hli hlk hbi hbk hA hr hK => exact ⟨_, _, _, _, _, _, _, _, _, rfl⟩
end Go.Proofs.YtajljnehlncjhaaGreatDoor
namespace Go.Proofs.YtajljnehlncjhaaGreatDoor
open Go.RowKit
theorem int_any (n : Int) (w : World) : Calls Tryz.prog 185 #[.int .i64 n] w fun e w' => e = .returned (.agg #[.int .i64 2, .int .i64 n, .string ⟨#[]⟩, .slice none 0 0, .slice none 0 0]) ∧ Below w.heap.size w w' := by
  go_enter Tryz.func185, Tryz.ntmps185
  go_wp2_with fail
  exact bodyPost_ret (v := .agg #[.int .i64 2, .int .i64 n, .string ⟨#[]⟩, .slice none 0 0, .slice none 0 0]) (by simp [results, Tryz.results185, go_sem]) rfl ⟨rfl, (Below.refl _ _).alloc (Nat.le_refl _) _⟩
theorem text_any (s : ByteArray) (w : World) : Calls Tryz.prog 186 #[.string s] w fun e w' => e = .returned (.agg #[.int .i64 3, .int .i64 0, .string s, .slice none 0 0, .slice none 0 0]) ∧ Below w.heap.size w w' := by
  go_enter Tryz.func186, Tryz.ntmps186
  go_wp2_with fail
  exact bodyPost_ret (v := .agg #[.int .i64 3, .int .i64 0, .string s, .slice none 0 0, .slice none 0 0]) (by simp [results, Tryz.results186, go_sem]) rfl ⟨rfl, (Below.refl _ _).alloc (Nat.le_refl _) _⟩
theorem enum_any (s : ByteArray) (w : World) : Calls Tryz.prog 204 #[.string s] w fun e w' => e = .returned (.agg #[.int .i64 4, .int .i64 0, .string s, .slice none 0 0, .slice none 0 0]) ∧ Below w.heap.size w w' := by
  go_enter Tryz.func204, Tryz.ntmps204
  go_wp2_with fail
  exact bodyPost_ret (v := .agg #[.int .i64 4, .int .i64 0, .string s, .slice none 0 0, .slice none 0 0]) (by simp [results, Tryz.results204, go_sem]) rfl ⟨rfl, (Below.refl _ _).alloc (Nat.le_refl _) _⟩
def yesI (y : Bool) : Int := if y then 1 else 0
theorem bool_any (y : Bool) (w : World) : Calls Tryz.prog 203 #[.bool y] w fun e w' => e = .returned (.agg #[.int .i64 1, .int .i64 (yesI y), .string ⟨#[]⟩, .slice none 0 0, .slice none 0 0]) ∧ Below w.heap.size w w' := by
  cases y
  · go_enter Tryz.func203, Tryz.ntmps203
    go_wp2_with fail
    exact bodyPost_ret (v := .agg #[.int .i64 1, .int .i64 0, .string ⟨#[]⟩, .slice none 0 0, .slice none 0 0]) (by simp [results, Tryz.results203, go_sem]) rfl ⟨rfl, (Below.refl _ _).alloc (Nat.le_refl _) _⟩
  · go_enter Tryz.func203, Tryz.ntmps203
    go_wp2_with fail
    exact bodyPost_ret (v := .agg #[.int .i64 1, .int .i64 1, .string ⟨#[]⟩, .slice none 0 0, .slice none 0 0]) (by simp [results, Tryz.results203, go_sem]) rfl ⟨rfl, (Below.refl _ _).alloc (Nat.le_refl _) _⟩
end Go.Proofs.YtajljnehlncjhaaGreatDoor
namespace Go.Proofs.YtajljnehlncjhaaGreatDoor
open Go.RowKit
def digB (n : Int) : Bool := decide (48 ≤ n) && decide (n ≤ 57)
def letB (n : Int) : Bool := (decide (97 ≤ n) && decide (n ≤ 122)) || (decide (65 ≤ n) && decide (n ≤ 90))
def nmB (n : Int) : Bool := letB n || digB n || n == 95
theorem isDigit_any (n : Int) (w : World) (h0 : 0 ≤ n) (h1 : n ≤ 255) :
    Calls Tryz.prog 103 #[.int .u8 n] w fun e w' => e = .returned (.bool (digB n)) ∧ w = w' := by
  go_enter Tryz.func103, Tryz.ntmps103
  go_wp2
  all_goals go_ret
  all_goals (simp [digB, *]; try omega)
theorem isLetter_any (n : Int) (w : World) (h0 : 0 ≤ n) (h1 : n ≤ 255) :
    Calls Tryz.prog 144 #[.int .u8 n] w fun e w' => e = .returned (.bool (letB n)) ∧ w = w' := by
  go_enter Tryz.func144, Tryz.ntmps144
  go_wp2
  all_goals go_ret
  all_goals simp [letB, *]
  all_goals omega
theorem isNamePart_any (n : Int) (w : World) (h0 : 0 ≤ n) (h1 : n ≤ 255) :
    Calls Tryz.prog 104 #[.int .u8 n] w fun e w' => e = .returned (.bool (nmB n)) ∧ w = w' := by
  go_enter Tryz.func104, Tryz.ntmps104
  go_wp2_with (first | (go_at_call 144; refine (isLetter_any _ _ (by omega) (by omega)).mono ?_; rintro e w' ⟨rfl, rfl⟩) | (go_at_call 103; refine (isDigit_any _ _ (by omega) (by omega)).mono ?_; rintro e w' ⟨rfl, rfl⟩))
  all_goals go_ret
  all_goals simp [nmB, *]
def allNm (l : List UInt8) : Bool := l.all fun c => nmB (c.toNat : Int)
def nameL (l : List UInt8) : Bool := !l.isEmpty && decide (l.length ≤ 64) && !digB ((l.getD 0 0).toNat : Int) && allNm l
theorem all_of_at (l : List UInt8) (p : UInt8 → Bool) (k : Nat) (h : k < l.length) (hp : p l[k] = false) : l.all p = false := by
  rw [List.all_eq_false]; exact ⟨l[k], List.getElem_mem h, by simp [hp]⟩
theorem all_take_succ (l : List UInt8) (p : UInt8 → Bool) (k : Nat) (h : k < l.length) (ha : (l.take k).all p = true) (hp : p l[k] = true) : (l.take (k+1)).all p = true := by
  rw [take_snoc l k h, List.all_append, ha]; simp [hp]
theorem name_empty (s : ByteArray) (w : World) (h : s.toList = []) :
    Calls Tryz.prog 56 #[.string s] w fun e w' => e = .returned (.bool false) ∧ w = w' := by
  go_enter Tryz.func56, Tryz.ntmps56
  go_wp2_with fail
  go_ret
  exact ⟨rfl, rfl⟩
theorem name_long (s : ByteArray) (w : World) (hs : s.size ≤ maxLen) (h : 64 < s.size) :
    Calls Tryz.prog 56 #[.string s] w fun e w' => e = .returned (.bool false) ∧ w = w' := by
  unfold maxLen at hs
  have h2 : s.toList.isEmpty = false := isEmpty_of (by omega)
  have h3 : s.toList ≠ [] := ne_nil_of (by omega)
  go_enter Tryz.func56, Tryz.ntmps56
  go_wp2_with fail
  go_ret
  exact ⟨rfl, rfl⟩
theorem name_digit (s : ByteArray) (w : World) (h0 : 0 < s.size) (h : s.size ≤ 64) (hd : digB s[0].toNat = true) :
    Calls Tryz.prog 56 #[.string s] w fun e w' => e = .returned (.bool false) ∧ w = w' := by
  have h2 : s.toList.isEmpty = false := isEmpty_of (by omega)
  have h3 : s.toList ≠ [] := ne_nil_of (by omega)
  have hb := byte_lt s[0]
  go_enter Tryz.func56, Tryz.ntmps56
  go_wp2_with (go_at_call 103; refine (isDigit_any _ _ (by omega) (by omega)).mono ?_; rintro e w' ⟨rfl, rfl⟩)
  go_ret
  exact ⟨rfl, rfl⟩
theorem name_loop (s : ByteArray) (w : World) (h0 : 0 < s.size) (h : s.size ≤ 64) (hd : digB s[0].toNat = false) :
    Calls Tryz.prog 56 #[.string s] w fun e w' => e = .returned (.bool (allNm s.data.toList)) ∧ w = w' := by
  have h2 : s.toList.isEmpty = false := isEmpty_of (by omega)
  have h3 : s.toList ≠ [] := ne_nil_of (by omega)
  have hb := byte_lt s[0]
  go_enter Tryz.func56, Tryz.ntmps56
  go_wp2_with (go_at_call 103; refine (isDigit_any _ _ (by omega) (by omega)).mono ?_; rintro e w' ⟨rfl, rfl⟩)
  go_loop [3] (fun i => ∃ k : Nat, k ≤ s.size ∧ i = .int .i64 k ∧ (s.data.toList.take k).all (fun c => nmB (c.toNat : Int)) = true) (fun i => s.size - (intOf i).toNat)
  case atStart => exact ⟨0, Nat.zero_le _, rfl, rfl⟩
  case round =>
    obtain ⟨k, hk, rfl, hall⟩ := hrel
    have HA := Lib.hid hall
    clear hall
    by_cases hlt : k < s.size
    · have hbk := byte_lt s[k]
      have e : s.data.toList[k]'(by simpa using hlt) = s[k] := rfl
      cases hn : nmB (s[k].toNat : Int)
      · have H1 : Hid (allNm s.data.toList = false) := Lib.hid (all_of_at s.data.toList (fun c => nmB (c.toNat : Int)) k (by simpa using hlt) hn)
        clear e
        go_wp2_with (go_at_call 104; refine (isNamePart_any _ _ (by omega) (by omega)).mono ?_; rintro e w' ⟨rfl, rfl⟩)
        go_ret
        exact ⟨by rw [H1.out]; rfl, rfl⟩
      · have H1 := Lib.hid (all_take_succ s.data.toList (fun c => nmB (c.toNat : Int)) k (by simpa using hlt) HA.out hn)
        clear e
        go_wp2_with (go_at_call 104; refine (isNamePart_any _ _ (by omega) (by omega)).mono ?_; rintro e w' ⟨rfl, rfl⟩)
        go_round
        case rel => exact ⟨k + 1, by omega, by go_num, H1.out⟩
        case measure => simp [intOf]; omega
    · have H1 : Hid (allNm s.data.toList = true) := by
        have := HA.out
        rw [List.take_of_length_le (by simp; omega)] at this
        exact Lib.hid this
      go_wp2
      go_ret
      exact ⟨by rw [H1.out]; rfl, rfl⟩
theorem name_any (s : ByteArray) (w : World) (hs : s.size ≤ maxLen) :
    Calls Tryz.prog 56 #[.string s] w fun e w' => e = .returned (.bool (nameL s.data.toList)) ∧ w = w' := by
  have hl := size_eq s
  by_cases h0 : s.size = 0
  · have e : s.data.toList = [] := List.eq_nil_of_length_eq_zero (by omega)
    rw [e]; exact name_empty s w (nil_of h0)
  have hne : s.data.toList.isEmpty = false := by
    rw [← Lib.toList_data]; exact isEmpty_of (by omega)
  by_cases h1 : 64 < s.size
  · have e : nameL s.data.toList = false := by unfold nameL; rw [hl]; simp; omega
    rw [e]; exact name_long s w hs h1
  have e0 : s.data.toList.getD 0 0 = s[0]'(by omega) := by
    rw [List.getD_eq_getElem?_getD, List.getElem?_eq_getElem (by omega)]; rfl
  cases hd : digB ((s[0]'(by omega)).toNat : Int)
  · have e : nameL s.data.toList = allNm s.data.toList := by
      unfold nameL; rw [e0, hd, hne, hl]; simp; omega
    rw [e]; exact name_loop s w (by omega) (by omega) hd
  · have e : nameL s.data.toList = false := by unfold nameL; rw [e0, hd]; simp
    rw [e]; exact name_digit s w (by omega) (by omega) hd
def letU (n : Int) : Bool := letB n || n == 95
theorem nm_of (n : Int) : nmB n = (letU n || digB n) := by unfold nmB letU; cases letB n <;> cases digB n <;> simp
end Go.Proofs.YtajljnehlncjhaaGreatDoor
namespace Go.Proofs.YtajljnehlncjhaaGreatDoor
open Go.RowKit
def nmA (s : ByteArray) : Bool := nameL s.data.toList
def enumB (s : ByteArray) : Bool := !decide (s = ⟨#[116, 114, 117, 101]⟩) && !decide (s = ⟨#[102, 97, 108, 115, 101]⟩) && !decide (s = ⟨#[110, 117, 108, 108]⟩) && nmA s
def keysB (lit : Bool) (ks : List ByteArray) : Bool := (!lit || ks.all nmA) && decide ks.Nodup
def leafB (is : List VT) (ks : List ByteArray) : Bool := decide (is.length = 0) && decide (ks.length = 0)
def nodeB (lit : Bool) : VT → Bool
  | .mk k n s is ks =>
    if k = 0 then decide (n = 0) && decide (s.size = 0) && leafB is ks
    else if k = 1 then (decide (n = 0) || decide (n = 1)) && decide (s.size = 0) && leafB is ks
    else if k = 2 then decide (s.size = 0) && leafB is ks
    else if k = 3 then decide (n = 0) && leafB is ks
    else if k = 4 then decide (n = 0) && enumB s && leafB is ks
    else if k = 5 then decide (n = 0) && decide (s.size = 0) && decide (ks.length = 0)
    else if k = 6 then decide (n = 0) && decide (s.size = 0) && decide (ks.length = is.length) && keysB lit ks
    else if k = 7 then lit && decide (n = 0) && nmA s && leafB is ks
    else false
theorem isLeaf_any (t : VT) (w : World) (B : Nat) (v : Value) (h : Rd w B v t) :
    Calls Tryz.prog 213 #[v] w fun e w' => e = .returned (.bool (leafB t.items t.keys)) ∧ Below w.heap.size w w' := by
  cases h with
  | @mk k n s A li ci K lk ck items keys V hk hn hs hks hli hlk hbi hbk hA hr hK =>
  have HV : Hid (leafB items keys = (decide (li = 0) && decide (lk = 0))) := Lib.hid (by unfold leafB; rw [hli, hlk])
  show Calls _ _ _ _ fun e w' => e = .returned (.bool (leafB items keys)) ∧ _
  clear hA hr hli hlk hK hks hn hs hk
  by_cases h1 : li = 0
  · subst h1
    by_cases h2 : lk = 0
    · subst h2
      go_enter Tryz.func213, Tryz.ntmps213
      go_wp2_with fail
      go_ret
      exact ⟨by rw [HV.out]; rfl, (Below.refl _ _).alloc (Nat.le_refl _) _⟩
    · have h2' : decide (lk = 0) = false := by simpa using h2
      have h2'' : ((lk : Int) == 0) = false := by rw [beq_eq_false_iff_ne]; omega
      go_enter Tryz.func213, Tryz.ntmps213
      go_wp2_with fail
      go_ret
      exact ⟨by rw [HV.out]; simp [h2], (Below.refl _ _).alloc (Nat.le_refl _) _⟩
  · have h1' : decide (li = 0) = false := by simpa using h1
    have h1'' : ((li : Int) == 0) = false := by rw [beq_eq_false_iff_ne]; omega
    go_enter Tryz.func213, Tryz.ntmps213
    go_wp2_with fail
    go_ret
    exact ⟨by rw [HV.out]; simp [h1], (Below.refl _ _).alloc (Nat.le_refl _) _⟩
theorem list_eq (s : ByteArray) (l : List UInt8) : (s.toList == l) = decide (s = ⟨l.toArray⟩) := by
  rw [Lib.toList_data, Bool.eq_iff_iff]
  obtain ⟨d⟩ := s
  simp only [beq_iff_eq, decide_eq_true_eq, ByteArray.mk.injEq]
  constructor
  · rintro rfl; simp
  · rintro rfl; simp
set_option maxHeartbeats 1000000 in
theorem isEnumName_any (s : ByteArray) (w : World) (hs : s.size ≤ 140737488351232) :
    Calls Tryz.prog 214 #[.string s] w fun e w' => e = .returned (.bool (enumB s)) ∧ w = w' := by
  have e1 := list_eq s [116, 114, 117, 101]
  have e2 := list_eq s [102, 97, 108, 115, 101]
  have e3 := list_eq s [110, 117, 108, 108]
  have HV : Hid (enumB s = (!decide (s = ⟨#[116, 114, 117, 101]⟩) && !decide (s = ⟨#[102, 97, 108, 115, 101]⟩) && !decide (s = ⟨#[110, 117, 108, 108]⟩) && nmA s)) := Lib.hid rfl
  have HN := Lib.hid (name_any s w (by unfold maxLen; omega))
  rw [← e1, ← e2, ← e3] at HV
  cases h1 : (s.toList == [116, 114, 117, 101])
  · cases h2 : (s.toList == [102, 97, 108, 115, 101])
    · cases h3 : (s.toList == [110, 117, 108, 108])
      · rw [h1, h2, h3] at HV
        clear e1 e2 e3
        go_enter Tryz.func214, Tryz.ntmps214
        go_wp2_with fail
        refine HN.out.mono ?_
        rintro e w' ⟨rfl, rfl⟩
        go_wp2_with fail
        go_ret
        exact ⟨by rw [HV.out]; rfl, rfl⟩
      · rw [h1, h2, h3] at HV
        clear e1 e2 e3
        go_enter Tryz.func214, Tryz.ntmps214
        go_wp2_with fail
        go_ret
        exact ⟨by rw [HV.out]; rfl, rfl⟩
    · rw [h1, h2] at HV
      clear e1 e2 e3
      go_enter Tryz.func214, Tryz.ntmps214
      go_wp2_with fail
      go_ret
      exact ⟨by rw [HV.out]; rfl, rfl⟩
  · rw [h1] at HV
    clear e1 e2 e3
    go_enter Tryz.func214, Tryz.ntmps214
    go_wp2_with fail
    go_ret
    exact ⟨by rw [HV.out]; rfl, rfl⟩
def Chk (w : World) (c : Nat) (lit : Bool) (r : Int) : Prop := w.heap[c]? = some (.cells #[.bool lit, .int .i64 r] 199 (0, 0))
theorem Chk.cells {w : World} {c : Nat} {lit : Bool} {r : Int} (h : Chk w c lit r) : w.cell? ⟨c, 0, none⟩ = some (.bool lit) ∧ w.cell? ⟨c, 1, none⟩ = some (.int .i64 r) ∧ w.frozen? ⟨c, 1, none⟩ = false := by
  refine ⟨?_, ?_, by unfold Chk at h; simp [World.frozen?, h]⟩ <;> rw [cell_of_row _ _ _ _ _ _ h] <;> rfl
theorem Chk.lt {w : World} {c : Nat} {lit : Bool} {r : Int} (h : Chk w c lit r) : c < w.heap.size := by
  unfold Chk at h
  rcases Nat.lt_or_ge c w.heap.size with h' | h'
  · exact h'
  · rw [Array.getElem?_eq_none h'] at h; cases h
theorem Chk.kept {w w' : World} {c B : Nat} {lit : Bool} {r : Int} (h : Chk w c lit r) (hb : Below B w w') (hc : c < B) : Chk w' c lit r := (hb.block c hc).trans h
theorem keys_any (lit : Bool) (r : Int) (c : Nat) (K : Option Addr) (lk ck : Nat) (keys : List ByteArray) (w : World) (B : Nat) (hc : Chk w c lit r) (hlk : keys.length = lk) (hbk : lk * 16 ≤ 140737488351232) (hks : ∀ s ∈ keys, s.size ≤ 140737488351232) (hK : KeysAt w B K keys) (hB : B ≤ w.heap.size) :
    Calls Tryz.prog 215 #[.pointer (some ⟨c, 0, none⟩), .slice K lk ck] w fun e w' => e = .returned (.bool (keysB lit keys)) ∧ Below w.heap.size w w' := by
  have HD := Lib.hid (distinct_any K lk ck keys w B hlk hbk hks hK hB)
  have HL := Lib.hid hlk
  have HS := Lib.hid hks
  have HK := Lib.hid hK
  obtain ⟨c0, c1, c2⟩ := hc.cells
  clear hlk hks hK hc
  have hlm : (lk : Int) ≤ 140737488351232 := by omega
  cases lit
  · go_enter Tryz.func215, Tryz.ntmps215
    go_wp2_with fail
    refine HD.out.mono ?_
    rintro e w' ⟨rfl, hb⟩
    have HB := Lib.hid hb
    clear hb
    go_wp2_with fail
    go_ret
    exact ⟨by simp [keysB], HB.out⟩
  · go_enter Tryz.func215, Tryz.ntmps215
    go_wp2_with fail
    go_loop [13] (fun i => ∃ j : Nat, j ≤ lk ∧ i = .int .i64 j ∧ (keys.take j).all nmA = true) (fun i => lk - (intOf i).toNat)
    case atStart => exact ⟨0, Nat.zero_le _, rfl, rfl⟩
    case round =>
      obtain ⟨j, hj, rfl, hal⟩ := hrel
      have HAL := Lib.hid hal
      clear hal
      by_cases hlt : j < lk
      · obtain ⟨a, rfl, hab, hc⟩ := HK.out (by have := HL.out; omega)
        have hjl : j < keys.length := by have := HL.out; omega
        have hcell := hc j _ (List.getElem?_eq_getElem hjl)
        have HN := Lib.hid (name_any keys[j] w (by unfold maxLen; have := HS.out _ (List.getElem_mem hjl); omega))
        have HTK : Hid (keys.take (j + 1) = keys.take j ++ [keys[j]]) := Lib.hid (List.take_succ_eq_append_getElem hjl)
        have HM : Hid (keys[j] ∈ keys) := Lib.hid (List.getElem_mem hjl)
        generalize keys[j] = s at *
        clear hc
        cases hn : nmA s
        · have HN' : Hid (nameL s.data.toList = false) := Lib.hid hn
          have HV : Hid (keysB true keys = false) := Lib.hid (by
            unfold keysB
            rw [show keys.all nmA = false from List.all_eq_false.2 ⟨s, HM.out, by simp [hn]⟩]; rfl)
          clear hn
          go_wp2_with fail
          refine HN.out.mono ?_
          rintro e w' ⟨rfl, rfl⟩
          rw [HN'.out]
          go_wp2_with fail
          go_ret
          exact ⟨by rw [HV.out]; rfl, Below.refl _ _⟩
        · have HN' : Hid (nameL s.data.toList = true) := Lib.hid hn
          have HA1 : Hid ((keys.take (j + 1)).all nmA = true) := Lib.hid (by rw [HTK.out, List.all_append, HAL.out]; simp [hn])
          clear hn
          go_wp2_with fail
          refine HN.out.mono ?_
          rintro e w' ⟨rfl, rfl⟩
          rw [HN'.out]
          go_wp2_with fail
          go_round
          case rel => exact ⟨j + 1, by omega, by go_num, HA1.out⟩
          case measure => simp [intOf]; omega
      · have HV : Hid (keysB true keys = decide keys.Nodup) := Lib.hid (by
          have := HAL.out
          rw [List.take_of_length_le (by have := HL.out; omega)] at this
          unfold keysB; rw [this]; rfl)
        go_wp2_with fail
        refine HD.out.mono ?_
        rintro e w' ⟨rfl, hb⟩
        have HB := Lib.hid hb
        clear hb
        go_wp2_with fail
        go_ret
        exact ⟨by rw [HV.out]; rfl, HB.out⟩
end Go.Proofs.YtajljnehlncjhaaGreatDoor
namespace Go.Proofs.YtajljnehlncjhaaGreatDoor
open Go.RowKit
def isVal (ts : List Tk) : Bool := decide ((hd ts).1 = 2) || (decide ((hd ts).1 = 3) || (decide ((hd ts).1 = 4) || (isSg [91] ts || isSg [123] ts)))
def bvR (lv : Nat) (ts : List Tk) (n : Nat) : Except Er Unit := if isVal ts = false then .error (erR ts 3) else if 24 < lv then .error (erR ts 5) else if 4096 < n + 1 then .error (erR ts 4) else .ok ()
def nmV (x : ByteArray) : VT := if x = ⟨#[116, 114, 117, 101]⟩ then .mk 1 1 ⟨#[]⟩ [] [] else if x = ⟨#[102, 97, 108, 115, 101]⟩ then .mk 1 0 ⟨#[]⟩ [] [] else if x = ⟨#[110, 117, 108, 108]⟩ then .mk 0 0 ⟨#[]⟩ [] [] else .mk 4 0 x [] []
set_option maxRecDepth 100000 in
set_option maxHeartbeats 2000000 in
theorem pisValue_any {w : World} {p : Nat} {ts : List Tk} {n : Nat} (h : PSt w p ts n) : Calls Tryz.prog 202 #[pP p] w (fun e w' => e = .returned (.bool (isVal ts)) ∧ Below w.heap.size w w') := by
  have hf0 := fld0
  obtain ⟨⟨k, tx, i⟩, r, rfl⟩ := h.good.ne
  have HP := Lib.hid h
  have HV : Hid (isVal ((k, tx, i) :: r) = (decide (k = 2) || (decide (k = 3) || (decide (k = 4) || (isSg [91] ((k, tx, i) :: r) || isSg [123] ((k, tx, i) :: r)))))) := Lib.hid rfl
  have hnx : Calls Tryz.prog 38 #[pP p] w fun e w' => e = .returned (.agg #[.int .i64 k, .string ⟨tx.toArray⟩, .int .i64 i]) ∧ Below w.heap.size w w' := pnext_any h
  have HN := Lib.hid hnx
  clear h hnx
  generalize isVal ((k, tx, i) :: r) = RB at *
  by_cases k2 : k = 2
  · have HV2 : Hid (RB = true) := Lib.hid (by rw [HV.out, decide_eq_true k2]; rfl)
    subst k2
    go_enter Tryz.func202, Tryz.ntmps202
    go_wp2_with fail
    refine HN.out.mono ?_
    rintro e w1 ⟨rfl, hb⟩
    have HB := Lib.hid hb
    clear hb
    go_wp2_with fail
    go_ret
    exact ⟨by rw [HV2.out]; rfl, HB.out⟩
  have j2 : (k == 2) = false := by rw [beq_eq_false_iff_ne]; exact k2
  by_cases k3 : k = 3
  · have HV2 : Hid (RB = true) := Lib.hid (by rw [HV.out, decide_eq_true k3]; simp)
    subst k3
    clear k2
    go_enter Tryz.func202, Tryz.ntmps202
    go_wp2_with fail
    refine HN.out.mono ?_
    rintro e w1 ⟨rfl, hb⟩
    have HB := Lib.hid hb
    clear hb
    go_wp2_with fail
    go_ret
    exact ⟨by rw [HV2.out]; rfl, HB.out⟩
  have j3 : (k == 3) = false := by rw [beq_eq_false_iff_ne]; exact k3
  by_cases k4 : k = 4
  · have HV2 : Hid (RB = true) := Lib.hid (by rw [HV.out, decide_eq_true k4]; simp)
    subst k4
    clear k2 k3
    go_enter Tryz.func202, Tryz.ntmps202
    go_wp2_with fail
    refine HN.out.mono ?_
    rintro e w1 ⟨rfl, hb⟩
    have HB := Lib.hid hb
    clear hb
    go_wp2_with fail
    go_ret
    exact ⟨by rw [HV2.out]; rfl, HB.out⟩
  have j4 : (k == 4) = false := by rw [beq_eq_false_iff_ne]; exact k4
  have HV3 : Hid (RB = (isSg [91] ((k, tx, i) :: r) || isSg [123] ((k, tx, i) :: r))) := Lib.hid (by rw [HV.out, decide_eq_false k2, decide_eq_false k3, decide_eq_false k4]; rfl)
  clear k2 k3 k4 HV
  have h1 := fun (W : World) (hb : Below w.heap.size w W) => pisSign_any (HP.out.stay hb) ⟨#[91]⟩
  have h2 := fun (W : World) (hb : Below w.heap.size w W) => pisSign_any (HP.out.stay hb) ⟨#[123]⟩
  cases b1 : isSg [91] ((k, tx, i) :: r) with
  | true =>
    rw [show isSg (⟨#[91]⟩ : ByteArray).data.toList ((k, tx, i) :: r) = true from b1] at h1
    have H1 := Lib.hid h1
    have HV4 : Hid (RB = true) := Lib.hid (by rw [HV3.out, b1]; rfl)
    clear h1 h2 b1
    go_enter Tryz.func202, Tryz.ntmps202
    go_wp2_with fail
    refine HN.out.mono ?_
    rintro e w1 ⟨rfl, hb⟩
    have HB := Lib.hid hb
    clear hb
    go_wp2_with fail
    refine (H1.out _ HB.out).mono ?_
    rintro e w2 ⟨rfl, hb⟩
    have HB2 := Lib.hid (HB.out.trans (hb.mono HB.out.size))
    clear hb
    go_wp2_with fail
    go_ret
    exact ⟨by rw [HV4.out]; rfl, HB2.out⟩
  | false =>
    rw [show isSg (⟨#[91]⟩ : ByteArray).data.toList ((k, tx, i) :: r) = false from b1] at h1
    have H1 := Lib.hid h1
    have H2 := Lib.hid h2
    have HV4 : Hid (RB = isSg (⟨#[123]⟩ : ByteArray).data.toList ((k, tx, i) :: r)) := Lib.hid (by rw [HV3.out, b1]; rfl)
    clear h1 h2 b1
    go_enter Tryz.func202, Tryz.ntmps202
    go_wp2_with fail
    refine HN.out.mono ?_
    rintro e w1 ⟨rfl, hb⟩
    have HB := Lib.hid hb
    clear hb
    go_wp2_with fail
    refine (H1.out _ HB.out).mono ?_
    rintro e w2 ⟨rfl, hb⟩
    have HB2 := Lib.hid (HB.out.trans (hb.mono HB.out.size))
    clear hb
    go_wp2_with fail
    refine (H2.out _ HB2.out).mono ?_
    rintro e w3 ⟨rfl, hb⟩
    have HB3 := Lib.hid (HB2.out.trans (hb.mono HB2.out.size))
    clear hb
    go_wp2_with fail
    go_ret
    exact ⟨by rw [HV4.out]; rfl, HB3.out⟩
theorem PSt.count {w : World} {p : Nat} {ts : List Tk} {n m : Nat} (h : PSt w p ts n) (hm : m ≤ 4097) : PSt (w.setCell ⟨p, 1, none⟩ (.int .i64 m)) p ts m := by
  obtain ⟨A, c, hb, hc, ht⟩ := h.box
  have hbel : Below p w (w.setCell ⟨p, 1, none⟩ (.int .i64 m)) := (Below.refl p w).setCell (p := ⟨p, 1, none⟩) (Nat.le_refl _) _
  exact ⟨⟨A, c, hb.set 1 _, hc, ht.kept hbel⟩, h.good, hm, fun w2 h2 => h.laid w2 (hbel.trans h2)⟩
theorem PSt.cells {w : World} {p : Nat} {ts : List Tk} {n : Nat} (h : PSt w p ts n) : w.cell? ⟨p, 1, none⟩ = some (.int .i64 n) ∧ w.frozen? ⟨p, 1, none⟩ = false := by
  obtain ⟨A, c, hb, _⟩ := h.box
  exact ⟨hb.cell 1 _ rfl, hb.frz 1⟩
set_option maxRecDepth 100000 in
set_option maxHeartbeats 4000000 in
theorem pbeginValue_any {w : World} {p : Nat} {ts : List Tk} {n : Nat} (h : PSt w p ts n) (hn : n ≤ 4096) (lv : Nat) (x : Int) (hx : x = lv) : Calls Tryz.prog 183 #[pP p, .int .i64 x] w (fun e w' => (bvR lv ts n = .ok () ∧ e = .returned (.tuple #[]) ∧ PSt w' p ts (n + 1) ∧ Tw p w.heap.size w w') ∨ (∃ z, bvR lv ts n = .error z ∧ e = badV z ∧ Tw p w.heap.size w w')) := by
  have HP := Lib.hid h
  have HV : Hid (bvR lv ts n = if isVal ts = false then .error (erR ts 3) else if 24 < lv then .error (erR ts 5) else if 4096 < n + 1 then .error (erR ts 4) else .ok ()) := Lib.hid rfl
  have hc := pisValue_any h
  clear h
  generalize bvR lv ts n = R at *
  cases hv : isVal ts with
  | false =>
    rw [hv] at hc
    have HC := Lib.hid hc
    have HV2 : Hid (R = .error (erR ts 3)) := Lib.hid (by rw [HV.out, hv]; rfl)
    clear hc hv HV
    go_enter Tryz.func183, Tryz.ntmps183
    go_wp2_with fail
    refine HC.out.mono ?_
    rintro e w1 ⟨rfl, hb⟩
    have HB := Lib.hid hb
    clear hb
    go_wp2_with fail
    refine (pnext_any (HP.out.stay HB.out)).mono ?_
    rintro e w2 ⟨rfl, hb⟩
    have HT2 : Hid (Tw p w.heap.size w w2) := Lib.hid ((Tw.of HB.out).step HB.out.size (.of hb))
    have HF := Lib.hid (pfail_any (hd ts) 3 w2)
    clear hb
    generalize tkV (hd ts) = tv at *
    go_wp2_with fail
    refine HF.out.mono ?_
    rintro e w3 ⟨rfl, hb⟩
    have HT3 := Lib.hid (HT2.out.step HT2.out.size (.of hb))
    clear hb
    exact ⟨rfl, .inr ⟨_, HV2.out, rfl, HT3.out⟩⟩
  | true =>
    rw [hv] at hc
    have HC := Lib.hid hc
    have HV1 : Hid (R = if 24 < lv then .error (erR ts 5) else if 4096 < n + 1 then .error (erR ts 4) else .ok ()) := Lib.hid (by rw [HV.out, hv]; rfl)
    clear hc hv HV
    by_cases hl : 24 < lv
    · have hl' : x > 24 := by omega
      have HV2 : Hid (R = .error (erR ts 5)) := Lib.hid (by rw [HV1.out, if_pos hl])
      clear hl HV1 hx
      go_enter Tryz.func183, Tryz.ntmps183
      go_wp2_with fail
      refine HC.out.mono ?_
      rintro e w1 ⟨rfl, hb⟩
      have HB := Lib.hid hb
      clear hb
      go_wp2_with fail
      refine (pnext_any (HP.out.stay HB.out)).mono ?_
      rintro e w2 ⟨rfl, hb⟩
      have HT2 : Hid (Tw p w.heap.size w w2) := Lib.hid ((Tw.of HB.out).step HB.out.size (.of hb))
      have HF := Lib.hid (pfail_any (hd ts) 5 w2)
      clear hb
      generalize tkV (hd ts) = tv at *
      go_wp2_with fail
      refine HF.out.mono ?_
      rintro e w3 ⟨rfl, hb⟩
      have HT3 := Lib.hid (HT2.out.step HT2.out.size (.of hb))
      clear hb
      exact ⟨rfl, .inr ⟨_, HV2.out, rfl, HT3.out⟩⟩
    · have hl' : ¬ x > 24 := by omega
      have HV2 : Hid (R = if 4096 < n + 1 then .error (erR ts 4) else .ok ()) := Lib.hid (by rw [HV1.out, if_neg hl])
      clear hl HV1 hx
      by_cases hn4 : 4096 < n + 1
      · have hn5 : (n : Int) + 1 > 4096 := by omega
        have hn6 : (n : Int) ≤ 4097 := by omega
        have HV3 : Hid (R = .error (erR ts 4)) := Lib.hid (by rw [HV2.out, if_pos hn4])
        clear hn4 HV2
        go_enter Tryz.func183, Tryz.ntmps183
        go_wp2_with fail
        refine HC.out.mono ?_
        rintro e w1 ⟨rfl, hb⟩
        have HB := Lib.hid hb
        have HP1 := Lib.hid (HP.out.stay hb)
        clear hb
        obtain ⟨q1, f1⟩ := HP1.out.cells
        have hHT : Tw p w.heap.size w w1 := .of HB.out
        have HT1 := Lib.hid hHT
        clear hHT
        go_wp2_with fail
        have HP2 : Hid (PSt (w1.setCell ⟨p, 1, none⟩ (.int .i64 ((n : Int) + 1))) p ts (n + 1)) := Lib.hid (HP1.out.count (m := n + 1) (by omega))
        refine (pnext_any HP2.out).mono ?_
        rintro e w2 ⟨rfl, hb⟩
        have HT2 := Lib.hid ((HT1.out.set 1 (.int .i64 ((n : Int) + 1))).trans ((Tw.of hb : Tw p _ _ w2).mono (by have := HB.out.size; simp [World.setCell]; omega)))
        have HF := Lib.hid (pfail_any (hd ts) 4 w2)
        clear hb q1 f1
        generalize tkV (hd ts) = tv at *
        go_wp2_with fail
        refine HF.out.mono ?_
        rintro e w3 ⟨rfl, hb⟩
        have HT3 := Lib.hid (HT2.out.step HT2.out.size (.of hb))
        clear hb
        exact ⟨rfl, .inr ⟨_, HV3.out, rfl, HT3.out⟩⟩
      · have hn5 : ¬ (n : Int) + 1 > 4096 := by omega
        have hn6 : (n : Int) ≤ 4096 := by omega
        have HV3 : Hid (R = .ok ()) := Lib.hid (by rw [HV2.out, if_neg hn4])
        clear hn4 HV2
        go_enter Tryz.func183, Tryz.ntmps183
        go_wp2_with fail
        refine HC.out.mono ?_
        rintro e w1 ⟨rfl, hb⟩
        have HB := Lib.hid hb
        have HP1 := Lib.hid (HP.out.stay hb)
        clear hb
        obtain ⟨q1, f1⟩ := HP1.out.cells
        have hHT : Tw p w.heap.size w w1 := .of HB.out
        have HT1 := Lib.hid hHT
        clear hHT
        go_wp2_with fail
        have HP2 : Hid (PSt (w1.setCell ⟨p, 1, none⟩ (.int .i64 ((n : Int) + 1))) p ts (n + 1)) := Lib.hid (HP1.out.count (m := n + 1) (by omega))
        go_end0
        exact .inl ⟨HV3.out, rfl, HP2.out, HT1.out.set 1 _⟩
def ValPost (w : World) (p : Nat) (n len : Nat) (r : Except Er (VT × List Tk × Nat)) (e : Ending) (w' : World) : Prop :=
  (∃ t ts m v, r = .ok (t, ts, m) ∧ e = .returned v ∧ RdS w' (fun b => w.heap.size ≤ b ∧ b < w'.heap.size) v t ∧ PSt w' p ts m ∧ Tw p w.heap.size w w' ∧ n < m ∧ m ≤ 4096 ∧ ts.length < len) ∨ (∃ x, r = .error x ∧ e = badV x ∧ Tw p w.heap.size w w')
theorem rd_simple (w : World) (S : Nat → Prop) (k n : Int) (s : ByteArray) (hk : small k) (hn : small n) (hs : s.size ≤ 140737488351232) : RdS w S (.agg #[.int .i64 k, .int .i64 n, .string s, .slice none 0 0, .slice none 0 0]) (.mk k n s [] []) :=
  .mk (fun _ => undef) hk hn hs (by simp) rfl rfl (by omega) (by omega) (fun h => absurd h (Nat.lt_irrefl _)) (fun i t h => by simp at h) (fun h => by simp at h)
theorem bool_t (w : World) : Calls Tryz.prog 203 #[.bool true] w fun e w' => e = .returned (.agg #[.int .i64 1, .int .i64 1, .string ⟨#[]⟩, .slice none 0 0, .slice none 0 0]) ∧ Below w.heap.size w w' := bool_any true w
theorem bool_f (w : World) : Calls Tryz.prog 203 #[.bool false] w fun e w' => e = .returned (.agg #[.int .i64 1, .int .i64 0, .string ⟨#[]⟩, .slice none 0 0, .slice none 0 0]) ∧ Below w.heap.size w w' := bool_any false w
theorem nm_eq (x : ByteArray) (l : List UInt8) : (x.toList == l) = decide (x = ⟨l.toArray⟩) := list_eq x l
set_option maxRecDepth 100000 in
set_option maxHeartbeats 4000000 in
theorem pnamed_any (x : ByteArray) (hx : x.size ≤ 1000000) (w : World) : Calls Tryz.prog 184 #[.string x] w (fun e w' => (∃ k n s, e = .returned (.agg #[.int .i64 k, .int .i64 n, .string s, .slice none 0 0, .slice none 0 0]) ∧ nmV x = .mk k n s [] [] ∧ small k ∧ small n ∧ s.size ≤ 1000000) ∧ Below w.heap.size w w') := by
  have e1 := nm_eq x [116, 114, 117, 101]
  have e2 := nm_eq x [102, 97, 108, 115, 101]
  have e3 := nm_eq x [110, 117, 108, 108]
  have HX := Lib.hid hx
  have HV : Hid (nmV x = if x = ⟨#[116, 114, 117, 101]⟩ then .mk 1 1 ⟨#[]⟩ [] [] else if x = ⟨#[102, 97, 108, 115, 101]⟩ then .mk 1 0 ⟨#[]⟩ [] [] else if x = ⟨#[110, 117, 108, 108]⟩ then .mk 0 0 ⟨#[]⟩ [] [] else .mk 4 0 x [] []) := Lib.hid rfl
  have hX : Bk (w.alloc (.cells #[.int .i64 0, .int .i64 0, .string ⟨#[]⟩, .slice none 0 0, .slice none 0 0] 53 (0, 0))) w.heap.size #[.int .i64 0, .int .i64 0, .string ⟨#[]⟩, .slice none 0 0, .slice none 0 0] 53 := Bk.new _ _ _
  have HX0 := Lib.hid hX
  have HB0 := Lib.hid (below_new w (.cells #[.int .i64 0, .int .i64 0, .string ⟨#[]⟩, .slice none 0 0, .slice none 0 0] 53 (0, 0)))
  generalize nmV x = V at *
  clear hx hX
  by_cases h1 : x = ⟨#[116, 114, 117, 101]⟩
  · rw [decide_eq_true h1] at e1
    have HV2 : Hid (V = .mk 1 1 ⟨#[]⟩ [] []) := Lib.hid (by rw [HV.out, if_pos h1])
    clear h1 e2 e3 HV
    go_enter Tryz.func184, Tryz.ntmps184
    go_wp2_with fail
    refine (bool_t _).mono ?_
    rintro e w1 ⟨rfl, hb⟩
    have hx1 := HX0.out.stay hb
    have HB1 := Lib.hid (HB0.out.trans (hb.mono HB0.out.size))
    have x0 := hx1.cell 0 _ rfl
    have x1 := hx1.cell 1 _ rfl
    have x2 := hx1.cell 2 _ rfl
    have x3 := hx1.cell 3 _ rfl
    have x4 := hx1.cell 4 _ rfl
    have g0 := hx1.frz 0
    have g1 := hx1.frz 1
    have g2 := hx1.frz 2
    have g3 := hx1.frz 3
    have g4 := hx1.frz 4
    have HZ := Lib.hid (((((hx1.set 0 (.int .i64 1)).set 1 (.int .i64 1)).set 2 (.string ⟨#[]⟩)).set 3 (.slice none 0 0)).set 4 (.slice none 0 0))
    have HB2 := Lib.hid (((((HB1.out.setCell (p := ⟨w.heap.size, 0, none⟩) (Nat.le_refl _) (.int .i64 1)).setCell (p := ⟨w.heap.size, 1, none⟩) (Nat.le_refl _) (.int .i64 1)).setCell (p := ⟨w.heap.size, 2, none⟩) (Nat.le_refl _) (.string ⟨#[]⟩)).setCell (p := ⟨w.heap.size, 3, none⟩) (Nat.le_refl _) (.slice none 0 0)).setCell (p := ⟨w.heap.size, 4, none⟩) (Nat.le_refl _) (.slice none 0 0))
    clear hb hx1
    go_wp2_with fail
    have z0 := HZ.out.cell 0 _ rfl
    have z1 := HZ.out.cell 1 _ rfl
    have z2 := HZ.out.cell 2 _ rfl
    have z3 := HZ.out.cell 3 _ rfl
    have z4 := HZ.out.cell 4 _ rfl
    refine bodyPost_ret (v := .agg #[.int .i64 1, .int .i64 1, .string ⟨#[]⟩, .slice none 0 0, .slice none 0 0]) (by simp [results, Tryz.results184, go_sem, z0, z1, z2, z3, z4]) rfl ⟨⟨_, _, _, rfl, HV2.out, by unfold small; omega, by unfold small; omega, by first | exact HX.out | decide⟩, HB2.out⟩
  rw [decide_eq_false h1] at e1
  by_cases h2 : x = ⟨#[102, 97, 108, 115, 101]⟩
  · rw [decide_eq_true h2] at e2
    have HV2 : Hid (V = .mk 1 0 ⟨#[]⟩ [] []) := Lib.hid (by rw [HV.out, if_neg h1, if_pos h2])
    clear h1 h2 e3 HV
    go_enter Tryz.func184, Tryz.ntmps184
    go_wp2_with fail
    refine (bool_f _).mono ?_
    rintro e w1 ⟨rfl, hb⟩
    have hx1 := HX0.out.stay hb
    have HB1 := Lib.hid (HB0.out.trans (hb.mono HB0.out.size))
    have x0 := hx1.cell 0 _ rfl
    have x1 := hx1.cell 1 _ rfl
    have x2 := hx1.cell 2 _ rfl
    have x3 := hx1.cell 3 _ rfl
    have x4 := hx1.cell 4 _ rfl
    have g0 := hx1.frz 0
    have g1 := hx1.frz 1
    have g2 := hx1.frz 2
    have g3 := hx1.frz 3
    have g4 := hx1.frz 4
    have HZ := Lib.hid (((((hx1.set 0 (.int .i64 1)).set 1 (.int .i64 0)).set 2 (.string ⟨#[]⟩)).set 3 (.slice none 0 0)).set 4 (.slice none 0 0))
    have HB2 := Lib.hid (((((HB1.out.setCell (p := ⟨w.heap.size, 0, none⟩) (Nat.le_refl _) (.int .i64 1)).setCell (p := ⟨w.heap.size, 1, none⟩) (Nat.le_refl _) (.int .i64 0)).setCell (p := ⟨w.heap.size, 2, none⟩) (Nat.le_refl _) (.string ⟨#[]⟩)).setCell (p := ⟨w.heap.size, 3, none⟩) (Nat.le_refl _) (.slice none 0 0)).setCell (p := ⟨w.heap.size, 4, none⟩) (Nat.le_refl _) (.slice none 0 0))
    clear hb hx1
    go_wp2_with fail
    have z0 := HZ.out.cell 0 _ rfl
    have z1 := HZ.out.cell 1 _ rfl
    have z2 := HZ.out.cell 2 _ rfl
    have z3 := HZ.out.cell 3 _ rfl
    have z4 := HZ.out.cell 4 _ rfl
    refine bodyPost_ret (v := .agg #[.int .i64 1, .int .i64 0, .string ⟨#[]⟩, .slice none 0 0, .slice none 0 0]) (by simp [results, Tryz.results184, go_sem, z0, z1, z2, z3, z4]) rfl ⟨⟨_, _, _, rfl, HV2.out, by unfold small; omega, by unfold small; omega, by first | exact HX.out | decide⟩, HB2.out⟩
  rw [decide_eq_false h2] at e2
  by_cases h3 : x = ⟨#[110, 117, 108, 108]⟩
  · rw [decide_eq_true h3] at e3
    have HV2 : Hid (V = .mk 0 0 ⟨#[]⟩ [] []) := Lib.hid (by rw [HV.out, if_neg h1, if_neg h2, if_pos h3])
    clear h1 h2 h3 HV
    go_enter Tryz.func184, Tryz.ntmps184
    go_wp2_with fail
    refine bodyPost_ret (v := .agg #[.int .i64 0, .int .i64 0, .string ⟨#[]⟩, .slice none 0 0, .slice none 0 0]) (by simp [results, Tryz.results184, go_sem]) rfl ⟨⟨_, _, _, rfl, HV2.out, by unfold small; omega, by unfold small; omega, by decide⟩, HB0.out⟩
  · rw [decide_eq_false h3] at e3
    have HV2 : Hid (V = .mk 4 0 x [] []) := Lib.hid (by rw [HV.out, if_neg h1, if_neg h2, if_neg h3])
    clear h1 h2 h3 HV
    go_enter Tryz.func184, Tryz.ntmps184
    go_wp2_with fail
    refine (enum_any x _).mono ?_
    rintro e w1 ⟨rfl, hb⟩
    have hx1 := HX0.out.stay hb
    have HB1 := Lib.hid (HB0.out.trans (hb.mono HB0.out.size))
    have x0 := hx1.cell 0 _ rfl
    have x1 := hx1.cell 1 _ rfl
    have x2 := hx1.cell 2 _ rfl
    have x3 := hx1.cell 3 _ rfl
    have x4 := hx1.cell 4 _ rfl
    have g0 := hx1.frz 0
    have g1 := hx1.frz 1
    have g2 := hx1.frz 2
    have g3 := hx1.frz 3
    have g4 := hx1.frz 4
    have HZ := Lib.hid (((((hx1.set 0 (.int .i64 4)).set 1 (.int .i64 0)).set 2 (.string x)).set 3 (.slice none 0 0)).set 4 (.slice none 0 0))
    have HB2 := Lib.hid (((((HB1.out.setCell (p := ⟨w.heap.size, 0, none⟩) (Nat.le_refl _) (.int .i64 4)).setCell (p := ⟨w.heap.size, 1, none⟩) (Nat.le_refl _) (.int .i64 0)).setCell (p := ⟨w.heap.size, 2, none⟩) (Nat.le_refl _) (.string x)).setCell (p := ⟨w.heap.size, 3, none⟩) (Nat.le_refl _) (.slice none 0 0)).setCell (p := ⟨w.heap.size, 4, none⟩) (Nat.le_refl _) (.slice none 0 0))
    clear hb hx1
    go_wp2_with fail
    have z0 := HZ.out.cell 0 _ rfl
    have z1 := HZ.out.cell 1 _ rfl
    have z2 := HZ.out.cell 2 _ rfl
    have z3 := HZ.out.cell 3 _ rfl
    have z4 := HZ.out.cell 4 _ rfl
    refine bodyPost_ret (v := .agg #[.int .i64 4, .int .i64 0, .string x, .slice none 0 0, .slice none 0 0]) (by simp [results, Tryz.results184, go_sem, z0, z1, z2, z3, z4]) rfl ⟨⟨_, _, _, rfl, HV2.out, by unfold small; omega, by unfold small; omega, by first | exact HX.out | decide⟩, HB2.out⟩
end Go.Proofs.YtajljnehlncjhaaGreatDoor
