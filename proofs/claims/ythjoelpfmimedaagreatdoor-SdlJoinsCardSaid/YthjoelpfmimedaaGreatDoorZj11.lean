
/-
  Texts joined: E5w.
-/
import Derived.Test.YthjoelpfmimedaaGreatDoorZj9
import Derived.Test.YthjoelpfmimedaaGreatDoorZj10
namespace Go.Proofs.YthjoelpfmimedaaGreatDoor
open Go.RowKit
theorem map5 {α β : Type} (f : α → β) (x y z u v : α) : (#[x, y, z, u, v] : Array α).map f = #[f x, f y, f z, f u, f v] := by simp
theorem congr5a {x0 x1 x2 x3 x4 y0 y1 y2 y3 y4 : Value} (h0 : x0 = y0) (h1 : x1 = y1) (h2 : x2 = y2) (h3 : x3 = y3) (h4 : x4 = y4) : (#[x0, x1, x2, x3, x4] : Array Value) = #[y0, y1, y2, y3, y4] := by rw [h0, h1, h2, h3, h4]
theorem en_blockFld : ∀ (args : Array Value) (w : World), (callFunc 177 args).run Tryz.prog w = .ok (.enter 177 args) w := enters_of Tryz.func177 (by kernel_rfl) rfl
abbrev blkrFldOps : Array Oper :=
  #[{ dst := some 9, op := .move (.tmp 0), type := 108, pos := "parser.go:24", after := #[], guard := none },
    { dst := some 10, op := .nilCheck (.tmp 9), type := 0, pos := "parser.go:24", after := #[{ on := 0, ground := .data }], guard := none },
    { dst := some 11, op := .fieldAddr 72 (.tmp 10) 0, type := 0, pos := "parser.go:24", after := #[{ on := 1, ground := .data }], guard := none },
    { dst := some 12, op := .move (.tmp 1), type := 9, pos := "parser.go:24", after := #[], guard := none },
    { dst := some 13, op := .move (.tmp 2), type := 3, pos := "parser.go:24", after := #[], guard := none },
    { dst := some 14, op := .move (.tmp 0), type := 108, pos := "parser.go:24", after := #[], guard := none },
    { dst := some 15, op := .nilCheck (.tmp 14), type := 0, pos := "parser.go:24", after := #[{ on := 5, ground := .data }], guard := none },
    { dst := some 16, op := .fieldAddr 72 (.tmp 15) 0, type := 0, pos := "parser.go:24", after := #[{ on := 6, ground := .data }], guard := none },
    { dst := some 17, op := .makeFunc (Fn.func 172) #[.tmp 16] #[], type := 27, pos := "parser.go:24", after := #[{ on := 7, ground := .data }], guard := none },
    { dst := some 18, op := .move (.tmp 3), type := 157, pos := "parser.go:24", after := #[], guard := none },
    { dst := some 19, op := .call { callee := .value (.func 177), args := #[.tmp 11, .tmp 12, .tmp 13, .tmp 17, .tmp 18], argTypes := #[153, 9, 3, 27, 157] }, type := 41, pos := "parser.go:24", after := #[{ on := 2, ground := .data }, { on := 3, ground := .data }, { on := 4, ground := .data }, { on := 8, ground := .data }, { on := 9, ground := .data }], guard := none },
    { dst := some 8, op := .assign (.tmp 19), type := 41, pos := "parser.go:24", after := #[{ on := 10, ground := .data }, { on := 10, ground := .chain }, { on := 0, ground := .phase }, { on := 1, ground := .phase }, { on := 2, ground := .phase }, { on := 3, ground := .phase }, { on := 4, ground := .phase }, { on := 5, ground := .phase }, { on := 6, ground := .phase }, { on := 7, ground := .phase }, { on := 8, ground := .phase }, { on := 9, ground := .phase }, { on := 10, ground := .phase }], guard := none }]
theorem blkrFld {Q : Exit → Act → World → Prop} {id : Nat} {a0 : Act} {W : World} {p : Nat} {R : Except Er (List FldT × List Tk)} {sg : ByteArray} {y : Int} {EV : Value} (hB : ∀ w, Below W.heap.size W w → Calls Tryz.prog 177 #[pP p, .string sg, .int .i64 y, .func (.func 172) #[pP p] #[], EV] w (WPost (SlS 5 104 FldC) w p R)) (hb : K.dstB blkrFldOps a0.tmps.size 12 = true) (s0 : a0.tmps.getD 0 undef = pP p) (s1 : a0.tmps.getD 1 undef = .string sg) (s2 : a0.tmps.getD 2 undef = .int .i64 y) (s3 : a0.tmps.getD 3 undef = EV)
    (hok : ∀ (f : Nat → Value) (w' : World), (fun v w' => WPost (SlS 5 104 FldC) W p R (.returned v) w') (f 19) w' → f 8 = f 19 → Q .normal (K.over a0 [9, 10, 11, 12, 13, 14, 15, 16, 17, 18, 19, 8] f) w') (her : ∀ (a : Act) (w' : World) (z : Er), a.defers = a0.defers → WPost (SlS 5 104 FldC) W p R (badV z) w' → Q (.panic (malP z)) a w') :
    (Code.region id blkrFldOps true).wp Tryz.prog Q a0 W := by
  refine K.wp_region_call (by kernel_rfl) (by kernel_rfl) hb 10 (by kernel_rfl) (by decide) (by decide) (fun o ho => by cases ho; exact ⟨⟨10, .data⟩, by simp, rfl, rfl⟩) [K.Fact.is (pP p), K.Fact.is (pP p), K.Fact.is (pP p), K.Fact.is (.string sg), K.Fact.is (.int .i64 y), K.Fact.is (pP p), K.Fact.is (pP p), K.Fact.is (pP p), K.Fact.is (.func (.func 172) #[pP p] #[]), K.Fact.is (EV)] (fun v w' => WPost (SlS 5 104 FldC) W p R (.returned v) w') ?_ ?_ (fun o ho a w hf hC => by cases ho; exact rp_assign rfl (.tmp 19) rfl rfl ⟨rfl, rfl⟩) ?_
  · intro i o ho hi a w hf hbl had
    have hc : i = 0 ∨ i = 1 ∨ i = 2 ∨ i = 3 ∨ i = 4 ∨ i = 5 ∨ i = 6 ∨ i = 7 ∨ i = 8 ∨ i = 9 := by omega
    rcases hc with rfl | rfl | rfl | rfl | rfl | rfl | rfl | rfl | rfl | rfl
    · cases ho
      have h0 : a.tmps.getD 0 undef = pP p := (hf.slot 0 (by kernel_rfl)).trans s0
      exact rp_move rfl (.tmp 0) rfl h0 ⟨Below.refl _ _, rfl⟩
    · cases ho
      have h9 : K.vof _ a 0 = pP p := had ⟨0, .data⟩ (by simp) rfl
      exact rp_nil rfl (.tmp 9) rfl h9 ⟨Below.refl _ _, rfl⟩
    · cases ho
      have h10 : K.vof _ a 1 = pP p := had ⟨1, .data⟩ (by simp) rfl
      exact rp_fa0 rfl (.tmp 10) rfl h10 ⟨Below.refl _ _, rfl⟩
    · cases ho
      have h1 : a.tmps.getD 1 undef = .string sg := (hf.slot 1 (by kernel_rfl)).trans s1
      exact rp_move rfl (.tmp 1) rfl h1 ⟨Below.refl _ _, rfl⟩
    · cases ho
      have h2 : a.tmps.getD 2 undef = .int .i64 y := (hf.slot 2 (by kernel_rfl)).trans s2
      exact rp_move rfl (.tmp 2) rfl h2 ⟨Below.refl _ _, rfl⟩
    · cases ho
      have h0 : a.tmps.getD 0 undef = pP p := (hf.slot 0 (by kernel_rfl)).trans s0
      exact rp_move rfl (.tmp 0) rfl h0 ⟨Below.refl _ _, rfl⟩
    · cases ho
      have h14 : K.vof _ a 5 = pP p := had ⟨5, .data⟩ (by simp) rfl
      exact rp_nil rfl (.tmp 14) rfl h14 ⟨Below.refl _ _, rfl⟩
    · cases ho
      have h15 : K.vof _ a 6 = pP p := had ⟨6, .data⟩ (by simp) rfl
      exact rp_fa0 rfl (.tmp 15) rfl h15 ⟨Below.refl _ _, rfl⟩
    · cases ho
      have h16 : K.vof _ a 7 = pP p := had ⟨7, .data⟩ (by simp) rfl
      exact rp_mk rfl 172 (.tmp 16) rfl h16 ⟨Below.refl _ _, rfl⟩
    · cases ho
      have h3 : a.tmps.getD 3 undef = EV := (hf.slot 3 (by kernel_rfl)).trans s3
      exact rp_move rfl (.tmp 3) rfl h3 ⟨Below.refl _ _, rfl⟩
  · intro o ho a w hf hbl hF
    cases ho
    have h2 : K.vof _ a 2 = pP p := hF 2 (by omega)
    have h3 : K.vof _ a 3 = .string sg := hF 3 (by omega)
    have h4 : K.vof _ a 4 = .int .i64 y := hF 4 (by omega)
    have h8 : K.vof _ a 8 = .func (.func 172) #[pP p] #[] := hF 8 (by omega)
    have h9 : K.vof _ a 9 = EV := hF 9 (by omega)
    refine runs_calls rfl _ _ _ rfl en_blockFld #[pP p, .string sg, .int .i64 y, .func (.func 172) #[pP p] #[], EV] (by rw [map5]; exact congr5a h2 h3 h4 h8 h9) ((hB w hbl).mono fun e w' hw => ?_)
    have hw2 := hw.up FldC.stays hbl
    rcases hw with ⟨x, ts, v, m, hr, he, _⟩ | ⟨z, hr, he, ht⟩
    · subst he; exact .inl ⟨v, rfl, hw2⟩
    · subst he; exact .inr ⟨malP z, rfl, her a w' z hf.1 hw2⟩
  · intro a w hf hC h1
    rw [K.over_ofB hf [9, 10, 11, 12, 13, 14, 15, 16, 17, 18, 19, 8] (by kernel_rfl)]
    exact hok (fun d => a.tmps.getD d undef) w hC (h1 (by decide))
theorem pblockFld_any (p : Nat) (el : List Tk → Except Er (FldT × List Tk)) (hel : ∀ (W : World) (ts : List Tk) (m : Nat), PSt W p ts m → isNm ts = true → Calls Tryz.prog 120 #[pP p] W (WPost FldV W p (el ts)))
    (hlt : ∀ (ts : List Tk) (x : FldT) (ts' : List Tk), Good ts → isNm ts = true → el ts = .ok (x, ts') → ts'.length < ts.length) (w : World) (ts : List Tk) (n : Nat) (h : PSt w p ts n) (ca cb : UInt8) (most : Nat) (hm : most ≤ 64) (y : Int) (hy : y = most) :
    Calls Tryz.prog 119 #[pP p, .string ⟨#[ca, cb]⟩, .int .i64 y, .func (.func 120) #[pP p] #[]] w (WPost (SlS 5 104 FldC) w p (blR [ca] [cb] most el ts)) := by
  have HB := Lib.hid (fun (W : World) (hb : Below w.heap.size w W) => blockFld_any p el hel hlt W ts n (h.stay hb) ca cb most hm y hy)
  clear h hel hlt hm hy
  go_enter Tryz.func119, Tryz.ntmps119
  go_wp2_with fail
  refine blkrFld HB.out (by kernel_rfl) rfl rfl rfl rfl ?_ fun a w' z hd hz => ⟨hd.trans rfl, hz⟩
  intro f w' hC h8
  simp only [K.over, List.foldl_cons, List.foldl_nil, Act.put, List.setIfInBounds_toArray, List.set_cons_succ, List.set_cons_zero]
  rw [h8]
  clear h8
  generalize f 19 = v19 at *
  generalize f 9 = u9 at *
  generalize f 10 = u10 at *
  generalize f 11 = u11 at *
  generalize f 12 = u12 at *
  generalize f 13 = u13 at *
  generalize f 14 = u14 at *
  generalize f 15 = u15 at *
  generalize f 16 = u16 at *
  generalize f 17 = u17 at *
  generalize f 18 = u18 at *
  go_wp2_with fail
  exact bodyPost_ret (v := v19) (by simp [results, Tryz.results119, go_sem]) rfl hC
theorem en_blockMem : ∀ (args : Array Value) (w : World), (callFunc 181 args).run Tryz.prog w = .ok (.enter 181 args) w := enters_of Tryz.func181 (by kernel_rfl) rfl
abbrev blkrMemOps : Array Oper :=
  #[{ dst := some 9, op := .move (.tmp 0), type := 108, pos := "parser.go:24", after := #[], guard := none },
    { dst := some 10, op := .nilCheck (.tmp 9), type := 0, pos := "parser.go:24", after := #[{ on := 0, ground := .data }], guard := none },
    { dst := some 11, op := .fieldAddr 72 (.tmp 10) 0, type := 0, pos := "parser.go:24", after := #[{ on := 1, ground := .data }], guard := none },
    { dst := some 12, op := .move (.tmp 1), type := 9, pos := "parser.go:24", after := #[], guard := none },
    { dst := some 13, op := .move (.tmp 2), type := 3, pos := "parser.go:24", after := #[], guard := none },
    { dst := some 14, op := .move (.tmp 0), type := 108, pos := "parser.go:24", after := #[], guard := none },
    { dst := some 15, op := .nilCheck (.tmp 14), type := 0, pos := "parser.go:24", after := #[{ on := 5, ground := .data }], guard := none },
    { dst := some 16, op := .fieldAddr 72 (.tmp 15) 0, type := 0, pos := "parser.go:24", after := #[{ on := 6, ground := .data }], guard := none },
    { dst := some 17, op := .makeFunc (Fn.func 172) #[.tmp 16] #[], type := 27, pos := "parser.go:24", after := #[{ on := 7, ground := .data }], guard := none },
    { dst := some 18, op := .move (.tmp 3), type := 160, pos := "parser.go:24", after := #[], guard := none },
    { dst := some 19, op := .call { callee := .value (.func 181), args := #[.tmp 11, .tmp 12, .tmp 13, .tmp 17, .tmp 18], argTypes := #[153, 9, 3, 27, 160] }, type := 42, pos := "parser.go:24", after := #[{ on := 2, ground := .data }, { on := 3, ground := .data }, { on := 4, ground := .data }, { on := 8, ground := .data }, { on := 9, ground := .data }], guard := none },
    { dst := some 8, op := .assign (.tmp 19), type := 42, pos := "parser.go:24", after := #[{ on := 10, ground := .data }, { on := 10, ground := .chain }, { on := 0, ground := .phase }, { on := 1, ground := .phase }, { on := 2, ground := .phase }, { on := 3, ground := .phase }, { on := 4, ground := .phase }, { on := 5, ground := .phase }, { on := 6, ground := .phase }, { on := 7, ground := .phase }, { on := 8, ground := .phase }, { on := 9, ground := .phase }, { on := 10, ground := .phase }], guard := none }]
theorem blkrMem {Q : Exit → Act → World → Prop} {id : Nat} {a0 : Act} {W : World} {p : Nat} {R : Except Er (List MemT × List Tk)} {sg : ByteArray} {y : Int} {EV : Value} (hB : ∀ w, Below W.heap.size W w → Calls Tryz.prog 181 #[pP p, .string sg, .int .i64 y, .func (.func 172) #[pP p] #[], EV] w (WPost (SlS 2 40 MemC) w p R)) (hb : K.dstB blkrMemOps a0.tmps.size 12 = true) (s0 : a0.tmps.getD 0 undef = pP p) (s1 : a0.tmps.getD 1 undef = .string sg) (s2 : a0.tmps.getD 2 undef = .int .i64 y) (s3 : a0.tmps.getD 3 undef = EV)
    (hok : ∀ (f : Nat → Value) (w' : World), (fun v w' => WPost (SlS 2 40 MemC) W p R (.returned v) w') (f 19) w' → f 8 = f 19 → Q .normal (K.over a0 [9, 10, 11, 12, 13, 14, 15, 16, 17, 18, 19, 8] f) w') (her : ∀ (a : Act) (w' : World) (z : Er), a.defers = a0.defers → WPost (SlS 2 40 MemC) W p R (badV z) w' → Q (.panic (malP z)) a w') :
    (Code.region id blkrMemOps true).wp Tryz.prog Q a0 W := by
  refine K.wp_region_call (by kernel_rfl) (by kernel_rfl) hb 10 (by kernel_rfl) (by decide) (by decide) (fun o ho => by cases ho; exact ⟨⟨10, .data⟩, by simp, rfl, rfl⟩) [K.Fact.is (pP p), K.Fact.is (pP p), K.Fact.is (pP p), K.Fact.is (.string sg), K.Fact.is (.int .i64 y), K.Fact.is (pP p), K.Fact.is (pP p), K.Fact.is (pP p), K.Fact.is (.func (.func 172) #[pP p] #[]), K.Fact.is (EV)] (fun v w' => WPost (SlS 2 40 MemC) W p R (.returned v) w') ?_ ?_ (fun o ho a w hf hC => by cases ho; exact rp_assign rfl (.tmp 19) rfl rfl ⟨rfl, rfl⟩) ?_
  · intro i o ho hi a w hf hbl had
    have hc : i = 0 ∨ i = 1 ∨ i = 2 ∨ i = 3 ∨ i = 4 ∨ i = 5 ∨ i = 6 ∨ i = 7 ∨ i = 8 ∨ i = 9 := by omega
    rcases hc with rfl | rfl | rfl | rfl | rfl | rfl | rfl | rfl | rfl | rfl
    · cases ho
      have h0 : a.tmps.getD 0 undef = pP p := (hf.slot 0 (by kernel_rfl)).trans s0
      exact rp_move rfl (.tmp 0) rfl h0 ⟨Below.refl _ _, rfl⟩
    · cases ho
      have h9 : K.vof _ a 0 = pP p := had ⟨0, .data⟩ (by simp) rfl
      exact rp_nil rfl (.tmp 9) rfl h9 ⟨Below.refl _ _, rfl⟩
    · cases ho
      have h10 : K.vof _ a 1 = pP p := had ⟨1, .data⟩ (by simp) rfl
      exact rp_fa0 rfl (.tmp 10) rfl h10 ⟨Below.refl _ _, rfl⟩
    · cases ho
      have h1 : a.tmps.getD 1 undef = .string sg := (hf.slot 1 (by kernel_rfl)).trans s1
      exact rp_move rfl (.tmp 1) rfl h1 ⟨Below.refl _ _, rfl⟩
    · cases ho
      have h2 : a.tmps.getD 2 undef = .int .i64 y := (hf.slot 2 (by kernel_rfl)).trans s2
      exact rp_move rfl (.tmp 2) rfl h2 ⟨Below.refl _ _, rfl⟩
    · cases ho
      have h0 : a.tmps.getD 0 undef = pP p := (hf.slot 0 (by kernel_rfl)).trans s0
      exact rp_move rfl (.tmp 0) rfl h0 ⟨Below.refl _ _, rfl⟩
    · cases ho
      have h14 : K.vof _ a 5 = pP p := had ⟨5, .data⟩ (by simp) rfl
      exact rp_nil rfl (.tmp 14) rfl h14 ⟨Below.refl _ _, rfl⟩
    · cases ho
      have h15 : K.vof _ a 6 = pP p := had ⟨6, .data⟩ (by simp) rfl
      exact rp_fa0 rfl (.tmp 15) rfl h15 ⟨Below.refl _ _, rfl⟩
    · cases ho
      have h16 : K.vof _ a 7 = pP p := had ⟨7, .data⟩ (by simp) rfl
      exact rp_mk rfl 172 (.tmp 16) rfl h16 ⟨Below.refl _ _, rfl⟩
    · cases ho
      have h3 : a.tmps.getD 3 undef = EV := (hf.slot 3 (by kernel_rfl)).trans s3
      exact rp_move rfl (.tmp 3) rfl h3 ⟨Below.refl _ _, rfl⟩
  · intro o ho a w hf hbl hF
    cases ho
    have h2 : K.vof _ a 2 = pP p := hF 2 (by omega)
    have h3 : K.vof _ a 3 = .string sg := hF 3 (by omega)
    have h4 : K.vof _ a 4 = .int .i64 y := hF 4 (by omega)
    have h8 : K.vof _ a 8 = .func (.func 172) #[pP p] #[] := hF 8 (by omega)
    have h9 : K.vof _ a 9 = EV := hF 9 (by omega)
    refine runs_calls rfl _ _ _ rfl en_blockMem #[pP p, .string sg, .int .i64 y, .func (.func 172) #[pP p] #[], EV] (by rw [map5]; exact congr5a h2 h3 h4 h8 h9) ((hB w hbl).mono fun e w' hw => ?_)
    have hw2 := hw.up MemC.stays hbl
    rcases hw with ⟨x, ts, v, m, hr, he, _⟩ | ⟨z, hr, he, ht⟩
    · subst he; exact .inl ⟨v, rfl, hw2⟩
    · subst he; exact .inr ⟨malP z, rfl, her a w' z hf.1 hw2⟩
  · intro a w hf hC h1
    rw [K.over_ofB hf [9, 10, 11, 12, 13, 14, 15, 16, 17, 18, 19, 8] (by kernel_rfl)]
    exact hok (fun d => a.tmps.getD d undef) w hC (h1 (by decide))
theorem pblockMem_any (p : Nat) (el : List Tk → Except Er (MemT × List Tk)) (hel : ∀ (W : World) (ts : List Tk) (m : Nat), PSt W p ts m → isNm ts = true → Calls Tryz.prog 123 #[pP p] W (WPost MemV W p (el ts)))
    (hlt : ∀ (ts : List Tk) (x : MemT) (ts' : List Tk), Good ts → isNm ts = true → el ts = .ok (x, ts') → ts'.length < ts.length) (w : World) (ts : List Tk) (n : Nat) (h : PSt w p ts n) (ca cb : UInt8) (most : Nat) (hm : most ≤ 64) (y : Int) (hy : y = most) :
    Calls Tryz.prog 122 #[pP p, .string ⟨#[ca, cb]⟩, .int .i64 y, .func (.func 123) #[pP p] #[]] w (WPost (SlS 2 40 MemC) w p (blR [ca] [cb] most el ts)) := by
  have HB := Lib.hid (fun (W : World) (hb : Below w.heap.size w W) => blockMem_any p el hel hlt W ts n (h.stay hb) ca cb most hm y hy)
  clear h hel hlt hm hy
  go_enter Tryz.func122, Tryz.ntmps122
  go_wp2_with fail
  refine blkrMem HB.out (by kernel_rfl) rfl rfl rfl rfl ?_ fun a w' z hd hz => ⟨hd.trans rfl, hz⟩
  intro f w' hC h8
  simp only [K.over, List.foldl_cons, List.foldl_nil, Act.put, List.setIfInBounds_toArray, List.set_cons_succ, List.set_cons_zero]
  rw [h8]
  clear h8
  generalize f 19 = v19 at *
  generalize f 9 = u9 at *
  generalize f 10 = u10 at *
  generalize f 11 = u11 at *
  generalize f 12 = u12 at *
  generalize f 13 = u13 at *
  generalize f 14 = u14 at *
  generalize f 15 = u15 at *
  generalize f 16 = u16 at *
  generalize f 17 = u17 at *
  generalize f 18 = u18 at *
  go_wp2_with fail
  exact bodyPost_ret (v := v19) (by simp [results, Tryz.results122, go_sem]) rfl hC
theorem en_blockInp : ∀ (args : Array Value) (w : World), (callFunc 182 args).run Tryz.prog w = .ok (.enter 182 args) w := enters_of Tryz.func182 (by kernel_rfl) rfl
abbrev blkrInpOps : Array Oper :=
  #[{ dst := some 9, op := .move (.tmp 0), type := 108, pos := "parser.go:24", after := #[], guard := none },
    { dst := some 10, op := .nilCheck (.tmp 9), type := 0, pos := "parser.go:24", after := #[{ on := 0, ground := .data }], guard := none },
    { dst := some 11, op := .fieldAddr 72 (.tmp 10) 0, type := 0, pos := "parser.go:24", after := #[{ on := 1, ground := .data }], guard := none },
    { dst := some 12, op := .move (.tmp 1), type := 9, pos := "parser.go:24", after := #[], guard := none },
    { dst := some 13, op := .move (.tmp 2), type := 3, pos := "parser.go:24", after := #[], guard := none },
    { dst := some 14, op := .move (.tmp 0), type := 108, pos := "parser.go:24", after := #[], guard := none },
    { dst := some 15, op := .nilCheck (.tmp 14), type := 0, pos := "parser.go:24", after := #[{ on := 5, ground := .data }], guard := none },
    { dst := some 16, op := .fieldAddr 72 (.tmp 15) 0, type := 0, pos := "parser.go:24", after := #[{ on := 6, ground := .data }], guard := none },
    { dst := some 17, op := .makeFunc (Fn.func 172) #[.tmp 16] #[], type := 27, pos := "parser.go:24", after := #[{ on := 7, ground := .data }], guard := none },
    { dst := some 18, op := .move (.tmp 3), type := 162, pos := "parser.go:24", after := #[], guard := none },
    { dst := some 19, op := .call { callee := .value (.func 182), args := #[.tmp 11, .tmp 12, .tmp 13, .tmp 17, .tmp 18], argTypes := #[153, 9, 3, 27, 162] }, type := 43, pos := "parser.go:24", after := #[{ on := 2, ground := .data }, { on := 3, ground := .data }, { on := 4, ground := .data }, { on := 8, ground := .data }, { on := 9, ground := .data }], guard := none },
    { dst := some 8, op := .assign (.tmp 19), type := 43, pos := "parser.go:24", after := #[{ on := 10, ground := .data }, { on := 10, ground := .chain }, { on := 0, ground := .phase }, { on := 1, ground := .phase }, { on := 2, ground := .phase }, { on := 3, ground := .phase }, { on := 4, ground := .phase }, { on := 5, ground := .phase }, { on := 6, ground := .phase }, { on := 7, ground := .phase }, { on := 8, ground := .phase }, { on := 9, ground := .phase }, { on := 10, ground := .phase }], guard := none }]
theorem blkrInp {Q : Exit → Act → World → Prop} {id : Nat} {a0 : Act} {W : World} {p : Nat} {R : Except Er (List InpT × List Tk)} {sg : ByteArray} {y : Int} {EV : Value} (hB : ∀ w, Below W.heap.size W w → Calls Tryz.prog 182 #[pP p, .string sg, .int .i64 y, .func (.func 172) #[pP p] #[], EV] w (WPost (SlS 10 168 InpC) w p R)) (hb : K.dstB blkrInpOps a0.tmps.size 12 = true) (s0 : a0.tmps.getD 0 undef = pP p) (s1 : a0.tmps.getD 1 undef = .string sg) (s2 : a0.tmps.getD 2 undef = .int .i64 y) (s3 : a0.tmps.getD 3 undef = EV)
    (hok : ∀ (f : Nat → Value) (w' : World), (fun v w' => WPost (SlS 10 168 InpC) W p R (.returned v) w') (f 19) w' → f 8 = f 19 → Q .normal (K.over a0 [9, 10, 11, 12, 13, 14, 15, 16, 17, 18, 19, 8] f) w') (her : ∀ (a : Act) (w' : World) (z : Er), a.defers = a0.defers → WPost (SlS 10 168 InpC) W p R (badV z) w' → Q (.panic (malP z)) a w') :
    (Code.region id blkrInpOps true).wp Tryz.prog Q a0 W := by
  refine K.wp_region_call (by kernel_rfl) (by kernel_rfl) hb 10 (by kernel_rfl) (by decide) (by decide) (fun o ho => by cases ho; exact ⟨⟨10, .data⟩, by simp, rfl, rfl⟩) [K.Fact.is (pP p), K.Fact.is (pP p), K.Fact.is (pP p), K.Fact.is (.string sg), K.Fact.is (.int .i64 y), K.Fact.is (pP p), K.Fact.is (pP p), K.Fact.is (pP p), K.Fact.is (.func (.func 172) #[pP p] #[]), K.Fact.is (EV)] (fun v w' => WPost (SlS 10 168 InpC) W p R (.returned v) w') ?_ ?_ (fun o ho a w hf hC => by cases ho; exact rp_assign rfl (.tmp 19) rfl rfl ⟨rfl, rfl⟩) ?_
  · intro i o ho hi a w hf hbl had
    have hc : i = 0 ∨ i = 1 ∨ i = 2 ∨ i = 3 ∨ i = 4 ∨ i = 5 ∨ i = 6 ∨ i = 7 ∨ i = 8 ∨ i = 9 := by omega
    rcases hc with rfl | rfl | rfl | rfl | rfl | rfl | rfl | rfl | rfl | rfl
    · cases ho
      have h0 : a.tmps.getD 0 undef = pP p := (hf.slot 0 (by kernel_rfl)).trans s0
      exact rp_move rfl (.tmp 0) rfl h0 ⟨Below.refl _ _, rfl⟩
    · cases ho
      have h9 : K.vof _ a 0 = pP p := had ⟨0, .data⟩ (by simp) rfl
      exact rp_nil rfl (.tmp 9) rfl h9 ⟨Below.refl _ _, rfl⟩
    · cases ho
      have h10 : K.vof _ a 1 = pP p := had ⟨1, .data⟩ (by simp) rfl
      exact rp_fa0 rfl (.tmp 10) rfl h10 ⟨Below.refl _ _, rfl⟩
    · cases ho
      have h1 : a.tmps.getD 1 undef = .string sg := (hf.slot 1 (by kernel_rfl)).trans s1
      exact rp_move rfl (.tmp 1) rfl h1 ⟨Below.refl _ _, rfl⟩
    · cases ho
      have h2 : a.tmps.getD 2 undef = .int .i64 y := (hf.slot 2 (by kernel_rfl)).trans s2
      exact rp_move rfl (.tmp 2) rfl h2 ⟨Below.refl _ _, rfl⟩
    · cases ho
      have h0 : a.tmps.getD 0 undef = pP p := (hf.slot 0 (by kernel_rfl)).trans s0
      exact rp_move rfl (.tmp 0) rfl h0 ⟨Below.refl _ _, rfl⟩
    · cases ho
      have h14 : K.vof _ a 5 = pP p := had ⟨5, .data⟩ (by simp) rfl
      exact rp_nil rfl (.tmp 14) rfl h14 ⟨Below.refl _ _, rfl⟩
    · cases ho
      have h15 : K.vof _ a 6 = pP p := had ⟨6, .data⟩ (by simp) rfl
      exact rp_fa0 rfl (.tmp 15) rfl h15 ⟨Below.refl _ _, rfl⟩
    · cases ho
      have h16 : K.vof _ a 7 = pP p := had ⟨7, .data⟩ (by simp) rfl
      exact rp_mk rfl 172 (.tmp 16) rfl h16 ⟨Below.refl _ _, rfl⟩
    · cases ho
      have h3 : a.tmps.getD 3 undef = EV := (hf.slot 3 (by kernel_rfl)).trans s3
      exact rp_move rfl (.tmp 3) rfl h3 ⟨Below.refl _ _, rfl⟩
  · intro o ho a w hf hbl hF
    cases ho
    have h2 : K.vof _ a 2 = pP p := hF 2 (by omega)
    have h3 : K.vof _ a 3 = .string sg := hF 3 (by omega)
    have h4 : K.vof _ a 4 = .int .i64 y := hF 4 (by omega)
    have h8 : K.vof _ a 8 = .func (.func 172) #[pP p] #[] := hF 8 (by omega)
    have h9 : K.vof _ a 9 = EV := hF 9 (by omega)
    refine runs_calls rfl _ _ _ rfl en_blockInp #[pP p, .string sg, .int .i64 y, .func (.func 172) #[pP p] #[], EV] (by rw [map5]; exact congr5a h2 h3 h4 h8 h9) ((hB w hbl).mono fun e w' hw => ?_)
    have hw2 := hw.up InpC.stays hbl
    rcases hw with ⟨x, ts, v, m, hr, he, _⟩ | ⟨z, hr, he, ht⟩
    · subst he; exact .inl ⟨v, rfl, hw2⟩
    · subst he; exact .inr ⟨malP z, rfl, her a w' z hf.1 hw2⟩
  · intro a w hf hC h1
    rw [K.over_ofB hf [9, 10, 11, 12, 13, 14, 15, 16, 17, 18, 19, 8] (by kernel_rfl)]
    exact hok (fun d => a.tmps.getD d undef) w hC (h1 (by decide))
theorem pblockInp_any (p : Nat) (el : List Tk → Except Er (InpT × List Tk)) (hel : ∀ (W : World) (ts : List Tk) (m : Nat), PSt W p ts m → isNm ts = true → Calls Tryz.prog 125 #[pP p] W (WPost InpV W p (el ts)))
    (hlt : ∀ (ts : List Tk) (x : InpT) (ts' : List Tk), Good ts → isNm ts = true → el ts = .ok (x, ts') → ts'.length < ts.length) (w : World) (ts : List Tk) (n : Nat) (h : PSt w p ts n) (ca cb : UInt8) (most : Nat) (hm : most ≤ 64) (y : Int) (hy : y = most) :
    Calls Tryz.prog 124 #[pP p, .string ⟨#[ca, cb]⟩, .int .i64 y, .func (.func 125) #[pP p] #[]] w (WPost (SlS 10 168 InpC) w p (blR [ca] [cb] most el ts)) := by
  have HB := Lib.hid (fun (W : World) (hb : Below w.heap.size w W) => blockInp_any p el hel hlt W ts n (h.stay hb) ca cb most hm y hy)
  clear h hel hlt hm hy
  go_enter Tryz.func124, Tryz.ntmps124
  go_wp2_with fail
  refine blkrInp HB.out (by kernel_rfl) rfl rfl rfl rfl ?_ fun a w' z hd hz => ⟨hd.trans rfl, hz⟩
  intro f w' hC h8
  simp only [K.over, List.foldl_cons, List.foldl_nil, Act.put, List.setIfInBounds_toArray, List.set_cons_succ, List.set_cons_zero]
  rw [h8]
  clear h8
  generalize f 19 = v19 at *
  generalize f 9 = u9 at *
  generalize f 10 = u10 at *
  generalize f 11 = u11 at *
  generalize f 12 = u12 at *
  generalize f 13 = u13 at *
  generalize f 14 = u14 at *
  generalize f 15 = u15 at *
  generalize f 16 = u16 at *
  generalize f 17 = u17 at *
  generalize f 18 = u18 at *
  go_wp2_with fail
  exact bodyPost_ret (v := v19) (by simp [results, Tryz.results124, go_sem]) rfl hC
end Go.Proofs.YthjoelpfmimedaaGreatDoor
