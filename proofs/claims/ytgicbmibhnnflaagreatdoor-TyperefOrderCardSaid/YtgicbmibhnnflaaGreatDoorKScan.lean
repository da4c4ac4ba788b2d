
/-
  The tokens of a document.
-/
import Derived.Test.YtgicbmibhnnflaaGreatDoorKFirst
namespace Go.Proofs.YtgicbmibhnnflaaGreatDoor
open Go.RowKit
def tkC (ts : List Tk) : List Value := ts.flatMap fun p => [.int .i64 p.1, .string ⟨p.2.1.toArray⟩, .int .i64 (p.2.2 : Int)]
theorem tkC_app (a b : List Tk) : tkC (a ++ b) = tkC a ++ tkC b := List.flatMap_append
theorem infoT : (Tryz.prog.info? 75).map (fun i => (i.zero, i.size, i.bytes)) = some (some (.agg #[.int .i64 0, .string ⟨#[]⟩, .int .i64 0]), 3, 32) := by kernel_rfl
def OwnT (w : World) (base : Nat) (v : Value) (ts : List Tk) : Prop := w.ownsRow base 75 3 v ts.length (tkC ts)
theorem ownsRow_stay {w w' : World} {base : Nat} {e : TypeId} {size : Nat} {v : Value} {n : Nat} {xs : List Value} (h : w.ownsRow base e size v n xs) (hb : Below w.heap.size w w') : w'.ownsRow base e size v n xs := by
  refine ⟨h.1, h.2.imp id ?_⟩
  rintro ⟨g, cap, cur, e1, e2, e3, r⟩
  have hg : g < w.heap.size := by
    rcases Nat.lt_or_ge g w.heap.size with h' | h'
    · exact h'
    · rw [Array.getElem?_eq_none h'] at e3; cases e3
  exact ⟨g, cap, cur, e1, e2, (hb.block g hg).trans e3, r⟩
theorem OwnT.stay {w w' : World} {base : Nat} {v : Value} {ts : List Tk} (h : OwnT w base v ts) (hb : Below w.heap.size w w') : OwnT w' base v ts := ownsRow_stay h hb
theorem OwnT.nil (w : World) (base : Nat) : OwnT w base (.slice none 0 0) [] := ⟨rfl, .inl ⟨rfl, rfl⟩⟩
theorem OwnT.set {w : World} {base : Nat} {v : Value} {ts : List Tk} (h : OwnT w base v ts) {p : Addr} (hp : ∀ g, v.ownBlock = some g → p.block ≠ g) (u : Value) : OwnT (w.setCell p u) base v ts := by
  refine ⟨h.1, h.2.imp id ?_⟩
  rintro ⟨g, cap, cur, e1, e2, e3, r⟩
  have hne := hp g (by rw [e1]; rfl)
  exact ⟨g, cap, cur, e1, e2, (Below.heap_setCell _ _ _ _ (fun e => hne e.symm)).trans e3, r⟩
theorem append_T {w : World} {ops : Array Oper} {rest : List Oper} {o : Oper} {a : Act} {Q : Exit → Act → World → Prop} (hgd : o.guard = none) (s x : Operand)
    (ho : o.op = .call { callee := .builtin .append, args := #[s, x], argTypes := #[48, 48] }) (base : Nat) (v : Value) (ts : List Tk) (hs : a.eval s = v) (hown : OwnT w base v ts)
    (ad : Addr) (c : Nat) (p : Tk) (hx : a.eval x = .slice (some ad) 1 c) (hnews : ∀ j u, (tkC [p])[j]? = some u → w.cell? (ad.add j) = some u)
    (hlen : ts.length + 1 ≤ 1099511627776) (hbase : base ≤ w.heap.size)
    (h : ∀ v' w', OwnT w' base v' (ts ++ [p]) → w.grownBy w' v.ownBlock → wpList Tryz.prog ops Q rest (a.put o.dst v') w') : wpList Tryz.prog ops Q (o :: rest) a w := by
  obtain ⟨i0, hi, hz0, hz1, hz2⟩ := info_parts infoT
  refine wpList_append_own w hgd s x 48 ho base 75 i0 (.agg #[.int .i64 0, .string ⟨#[]⟩, .int .i64 0]) 3 32 Tryz.underlying48 hi hz0 hz1 hz2 rfl (by decide) v ts.length (tkC ts) hs hown ad 1 c (tkC [p]) hx rfl hnews ?_ (by unfold maxLen; omega) (by omega) hbase ?_
  · intro u hu
    simp [tkC] at hu
    rcases hu with rfl | rfl | rfl <;> rfl
  · intro v' w' h1 h2 _
    refine h v' w' ?_ h2
    unfold OwnT
    rw [List.length_append, tkC_app]
    exact h1
theorem cells_L' (w : World) (xs : Array Value) (t : TypeId) (news : List Value) (hx : xs = news.toArray) :
    ∀ j u, news[j]? = some u → (w.alloc (.cells xs t)).cell? ((⟨w.heap.size, 0, none⟩ : Addr).add j) = some u := by
  intro j u h
  obtain ⟨h1, rfl⟩ := List.getElem?_eq_some_iff.1 h
  subst hx
  have := T1.cell_new w news.toArray t j (by simpa using h1)
  simpa using this
theorem OwnT.lt {w : World} {base : Nat} {v : Value} {ts : List Tk} (h : OwnT w base v ts) : ∀ k, v.ownBlock = some k → base ≤ k ∧ k < w.heap.size := World.ownsRow.lt h
/- The state between two tokens. -/
def scG (f at' : Nat) (l : List UInt8) : Except (Nat × Int) (List Tk) := if l = [] then .ok [(5, [], at')] else match tokR l with
  | .error c => .error (at', c)
  | .ok (k, t, n) => match scF f (at' + n) (l.drop n) with
    | .error e => .error e
    | .ok ts => .ok ((k, t, at') :: ts)
theorem scG_ok {f at' : Nat} {l : List UInt8} {k : Int} {t : List UInt8} {n : Nat} (hne : l ≠ []) (ht : tokR l = .ok (k, t, n)) : scG f at' l = match scF f (at' + n) (l.drop n) with
    | .error e => .error e
    | .ok ts => .ok ((k, t, at') :: ts) := by
  unfold scG; rw [if_neg hne, ht]
structure ScAt (l : List UInt8) (R : Except (Nat × Int) (List Tk)) (f at' : Nat) (ts : List Tk) : Prop where
  eq : R = match scG f at' (l.drop at') with
    | .error e => .error e
    | .ok r => .ok (ts ++ r)
  fuel : l.length ≤ f + at'
  hi : at' ≤ l.length
  len : ts.length ≤ at'
theorem ScAt.start (l : List UInt8) (h : l.length ≤ 65536) : ScAt l (scR l) l.length (sepN l) [] := by
  refine ⟨?_, Nat.le_add_right _ _, sepN_le l, Nat.zero_le _⟩
  unfold scR
  rw [if_neg (by omega)]
  show scG l.length (0 + sepN l) (l.drop (sepN l)) = _
  rw [Nat.zero_add]
  cases scG l.length (sepN l) (l.drop (sepN l)) <;> rfl
theorem ScAt.done {l : List UInt8} {R : Except (Nat × Int) (List Tk)} {f at' : Nat} {ts : List Tk} (h : ScAt l R f at' ts) (hd : ¬ at' < l.length) : R = .ok (ts ++ [(5, [], at')]) := by
  rw [h.eq, List.drop_eq_nil_of_le (by omega)]; rfl
theorem ScAt.bad {l : List UInt8} {R : Except (Nat × Int) (List Tk)} {f at' : Nat} {ts : List Tk} (h : ScAt l R f at' ts) (hd : at' < l.length) {c : Int} (ht : tokR (l.drop at') = .error c) : R = .error (at', c) := by
  have hne : l.drop at' ≠ [] := by intro e; have := congrArg List.length e; rw [List.length_drop] at this; simp at this; omega
  rw [h.eq]; unfold scG; rw [if_neg hne, ht]
theorem ScAt.next {l : List UInt8} {R : Except (Nat × Int) (List Tk)} {f at' : Nat} {ts : List Tk} (h : ScAt l R f at' ts) (hd : at' < l.length) {k : Int} {t : List UInt8} {n : Nat} (ht : tokR (l.drop at') = .ok (k, t, n)) :
    1 ≤ n ∧ at' + n ≤ l.length ∧ ∃ f', ScAt l R f' (at' + n + sepN (l.drop (at' + n))) (ts ++ [(k, t, at')]) := by
  have hne : l.drop at' ≠ [] := by intro e; have := congrArg List.length e; rw [List.length_drop] at this; simp at this; omega
  obtain ⟨h1, h2⟩ := tokR_len hne ht
  rw [List.length_drop] at h2
  have hs := sepN_le (l.drop (at' + n))
  rw [List.length_drop] at hs
  have hf := h.fuel
  have hl := h.len
  obtain ⟨f', rfl⟩ : ∃ g, f = g + 1 := ⟨f - 1, by omega⟩
  refine ⟨h1, by omega, f', ?_, by omega, by omega, by rw [List.length_append]; show ts.length + 1 ≤ _; omega⟩
  rw [h.eq, scG_ok hne ht, List.drop_drop]
  have e : scF (f' + 1) (at' + n) (l.drop (at' + n)) = scG f' (at' + n + sepN (l.drop (at' + n))) ((l.drop (at' + n)).drop (sepN (l.drop (at' + n)))) := rfl
  rw [e, List.drop_drop]
  generalize (at' + n + sepN (l.drop (at' + n))) = b
  cases scG f' b (l.drop b) with
  | error e => rfl
  | ok r => simp
def ScanAns (R : Except (Nat × Int) (List Tk)) (base : Nat) (e : Ending) (w' : World) : Prop := match R with
  | .ok ts => ∃ v, e = .returned (.tuple #[v, .int .i64 0, .int .i64 0]) ∧ OwnT w' base v ts
  | .error x => e = .returned (.tuple #[.slice none 0 0, .int .i64 x.1, .int .i64 x.2]) ∧ x.2 ≠ 0
def ScanPost (R : Except (Nat × Int) (List Tk)) (w : World) (e : Ending) (w' : World) : Prop := ScanAns R w.heap.size e w' ∧ Below w.heap.size w w'
set_option maxHeartbeats 2000000 in
theorem scan_long (s : ByteArray) (h : 65536 < s.size) (w : World) : Calls Tryz.prog 51 #[.string s] w (ScanPost (scR s.data.toList) w) := by
  have E1 : Hid (scR s.data.toList = .error (65536, 4)) := Lib.hid (by unfold scR; rw [T1.size_eq, if_pos h])
  have hgt : ((s.size : Int) > 65536) := by omega
  generalize scR s.data.toList = R at *
  go_enter Tryz.func51, Tryz.ntmps51
  go_wp2_with fail
  refine bodyPost_ret (v := .tuple #[.slice none 0 0, .int .i64 65536, .int .i64 4]) (by simp [results, Tryz.results51, go_sem]) rfl ⟨?_, Below.refl _ _⟩
  rw [E1.out]
  exact ⟨rfl, by decide⟩
set_option maxRecDepth 100000 in
set_option maxHeartbeats 4000000 in
theorem scan_short (s : ByteArray) (h : s.size ≤ 65536) (w : World) (hL : LK w) : Calls Tryz.prog 51 #[.string s] w (ScanPost (scR s.data.toList) w) := by
  have hsz := T1.size_eq s
  have ST := Lib.hid (ScAt.start s.data.toList (by omega))
  have hgt : ¬ ((s.size : Int) > 65536) := by omega
  have HL := Lib.hid hL
  clear hL
  generalize scR s.data.toList = R at *
  go_enter Tryz.func51, Tryz.ntmps51
  go_wp2_with fail
  refine (separators_any s (by unfold maxLen; omega) w).mono ?_
  rintro e w1 ⟨rfl, hb⟩
  have HB1 := Lib.hid hb
  clear hb
  generalize sepN s.data.toList = m at *
  go_wp2_with fail
  go_loopw [5, 6] (fun v i wr => ∃ (f k : Nat) (ts : List Tk), i = .int .i64 k ∧ OwnT wr w.heap.size v ts ∧ ScAt s.data.toList R f k ts ∧ Below w.heap.size w wr) (fun _ i _ => s.size - (intOf i).toNat)
  case atStart => exact ⟨_, m, [], rfl, OwnT.nil _ _, ST.out, HB1.out⟩
  case round =>
    obtain ⟨f, k, ts, rfl, hown, hat, hb⟩ := hrel
    have HO := Lib.hid hown
    have HA := Lib.hid hat
    have HB := Lib.hid hb
    clear hown hat hb HB1 ST
    have hkl := HA.out.hi
    by_cases hlt : k < s.size
    · have hlt' : (k : Int) < s.size := by omega
      have hle' : (k : Int) ≤ s.size := by omega
      have HD := Lib.hid (ext_drop s k)
      have HES : Hid ((s.extract k s.size).size = s.size - k) := Lib.hid (by rw [← T1.size_eq, HD.out, List.length_drop, hsz])
      have CALL := Lib.hid (first_any (s.extract k s.size) (by rw [HES.out]; omega) (by rw [HES.out]; omega) wr (HL.out.below HB.out))
      rw [HD.out] at CALL
      go_wp2_with fail
      refine CALL.out.mono ?_
      rintro e w2 ⟨ha, hb⟩
      have HB2 := Lib.hid (HB.out.trans (hb.mono HB.out.size))
      have HO2 := Lib.hid (HO.out.stay hb)
      clear hb CALL HB HO
      cases ht : tokR (s.data.toList.drop k) with
      | error c =>
        rw [ht] at ha
        obtain ⟨hc, k1, t1, n1, rfl⟩ := ha
        have E1 := Lib.hid (HA.out.bad (by omega) ht)
        have HC := Lib.hid hc
        have hc0 : (c == 0) = false := beq_false_of_ne hc
        clear ht hc
        go_wp2_with fail
        refine bodyPost_ret (v := .tuple #[.slice none 0 0, .int .i64 k, .int .i64 c]) (by simp [results, Tryz.results51, go_sem]) rfl ⟨?_, HB2.out.alloc HB2.out.size _⟩
        rw [E1.out]
        exact ⟨rfl, HC.out⟩
      | ok p =>
        obtain ⟨k1, t1, n⟩ := p
        rw [ht] at ha
        have ha : e = .returned (.tuple #[tkV k1 ⟨t1.toArray⟩ 0, .int .i64 n, .int .i64 0]) := ha
        subst ha
        obtain ⟨hn1, hn2, f', hnx⟩ := HA.out.next (by omega) ht
        have HN := Lib.hid hnx
        clear ht hnx
        have HX3 : Hid (TB (w2.alloc (.cells #[.int .i64 k1, .string ⟨t1.toArray⟩, .int .i64 0] 75 (0, 0))) w2.heap.size (.int .i64 k1) (.string ⟨t1.toArray⟩) (.int .i64 0)) := Lib.hid (heap_alloc_new w2 _)
        have hb3 := ((Below.refl w2.heap.size w2).alloc (Nat.le_refl _) (.cells #[.int .i64 k1, .string ⟨t1.toArray⟩, .int .i64 k] 75 (0, 0))).alloc (by simp) (.cells #[.int .i64 k1, .string ⟨t1.toArray⟩, .int .i64 k] 75 (0, 0))
        have HO4 := Lib.hid (HO2.out.stay hb3)
        have HB4 := Lib.hid (HB2.out.trans (hb3.mono HB2.out.size))
        have HNL := Lib.hid HA.out.len
        have h00 : ((0 : Int) == 0) = true := rfl
        have hsm := hsz
        obtain ⟨x0, x1, x2⟩ := HX3.out.cells
        have g0 := HX3.out.frz 0
        have g1 := HX3.out.frz 1
        have g2 := HX3.out.frz 2
        clear hb3
        go_wp2_with (at_builtin; refine append_T rfl _ _ rfl w.heap.size _ ts rfl HO4.out _ _ (k1, t1, k) rfl ?_ ?_ ?_ ?_)
        · intro j u hj
          have h9 := cells_L' (w2.alloc (.cells #[.int .i64 k1, .string ⟨t1.toArray⟩, .int .i64 k] 75)) #[.int .i64 k1, .string ⟨t1.toArray⟩, .int .i64 k] 75 (tkC [(k1, t1, k)]) rfl j u hj
          rw [show (w2.alloc (.cells #[.int .i64 k1, .string ⟨t1.toArray⟩, .int .i64 k] 75)).heap.size = w2.heap.size + 1 by simp] at h9
          exact h9
        · have := HNL.out; omega
        · exact HB4.out.size
        · intro v' w5 h1 h2
          have HO5 := Lib.hid h1
          have HB5 := Lib.hid (HB4.out.grown h2 HB4.out.size (fun g hg => (HO4.out.lt g hg).1))
          have HE2 := Lib.hid (ext_drop s (k + n))
          have hk2 : (k : Int) + n ≤ s.size := by omega
          have hk3 : (0 : Int) ≤ (k : Int) + n := by omega
          have hk4 : ((k : Int) + n).toNat = k + n := by omega
          have hes : (s.extract (k + n) s.size).size ≤ maxLen := by
            rw [← T1.size_eq, HE2.out, List.length_drop]; unfold maxLen; omega
          have CALL := Lib.hid (separators_any (s.extract (k + n) s.size) hes w5)
          rw [HE2.out] at CALL
          have hq := sepN_le (s.data.toList.drop (k + n))
          rw [List.length_drop] at hq
          clear h1 h2 hes HX3 x0 x1 x2 g0 g1 g2
          generalize sepN (s.data.toList.drop (k + n)) = q at *
          go_wp2_with fail
          refine CALL.out.mono ?_
          rintro e w6 ⟨rfl, hb⟩
          have HB6 := Lib.hid (HB5.out.trans (hb.mono HB5.out.size))
          have HO6 := Lib.hid (HO5.out.stay hb)
          clear hb CALL
          go_wp2_with fail
          go_roundw
          case rel => exact ⟨f', k + n + q, ts ++ [(k1, t1, k)], by push_cast; rfl, HO6.out, HN.out, HB6.out⟩
          case measure =>
            simp only [intOf]
            omega
    · have E1 := Lib.hid (HA.out.done (by omega))
      have hlt' : ¬ (k : Int) < s.size := by omega
      have hb3 := (Below.refl wr.heap.size wr).alloc (Nat.le_refl _) (.cells #[.int .i64 5, .string ⟨#[]⟩, .int .i64 k] 75 (0, 0))
      have HO4 := Lib.hid (HO.out.stay hb3)
      have HB4 := Lib.hid (HB.out.trans (hb3.mono HB.out.size))
      have HNL := Lib.hid HA.out.len
      clear hb3
      go_wp2_with (at_builtin; refine append_T rfl _ _ rfl w.heap.size _ ts rfl HO4.out _ _ (5, [], k) rfl ?_ ?_ ?_ ?_)
      · exact fun j u h => h
      · have := HNL.out; omega
      · have := HB.out.size; omega
      · intro v' w5 h1 h2
        have HO5 := Lib.hid h1
        have HB5 := Lib.hid (HB4.out.grown h2 HB4.out.size (fun g hg => (HO4.out.lt g hg).1))
        clear h1 h2
        go_wp2_with fail
        refine bodyPost_ret (v := .tuple #[v', .int .i64 0, .int .i64 0]) (by simp [results, Tryz.results51, go_sem]) rfl ⟨?_, HB5.out⟩
        rw [E1.out]
        exact ⟨_, rfl, HO5.out⟩
theorem scan_any (s : ByteArray) (w : World) (hL : LK w) : Calls Tryz.prog 51 #[.string s] w (ScanPost (scR s.data.toList) w) := by
  rcases Nat.lt_or_ge 65536 s.size with h | h
  · exact scan_long s h w
  · exact scan_short s h w hL
end Go.Proofs.YtgicbmibhnnflaaGreatDoor
