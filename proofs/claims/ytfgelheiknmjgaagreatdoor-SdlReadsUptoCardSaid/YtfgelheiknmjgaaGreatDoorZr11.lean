
/-
 Texts joined: E4r E8 E5Arg E7.
-/
import Derived.Test.YtfgelheiknmjgaaGreatDoorZr10
import Derived.Test.YtfgelheiknmjgaaGreatDoorZr5
set_option maxRecDepth 1000000
set_option maxHeartbeats 8000000
namespace Go.Proofs.YtfgelheiknmjgaaGreatDoor
open Go.RowKit
theorem ze1 {P:Program} {ops:Array Oper} {Q:Exit->Act->World->Prop} {o:Oper} {a:Act} {w:World} {R:Value->World->Prop} (hw:Region.wanted o (yielded ops a.tmps)=true) (f:FuncId) (xs:Array Operand) (ts:Array TypeId)
  (ho:o.op=.call { callee:=.value (.func f),args:=xs,argTypes:=ts }) (hen:∀ (args:Array Value) (w:World),(callFunc f args).run P w=.ok (.enter f args) w) (vs:Array Value) (hx:xs.map a.eval=vs)
  (hc:Calls P f vs w fun e w'=>(∃ v,e=.returned v/\R v w')∨∃ ch,e=.panicked ch/\Q (.panic ch) a w'):K.Runs P ops Q o a w R:=by
 refine ⟨hw, ?_⟩
 unfold Oper.wp;have he:(execOp a.eval o).run P w=.ok (.enter f vs) w:=by
  simp [execOp,ho,go_sem,hx,hen]
 rw [he];refine hc.mono fun e w' h=>?_
 rcases h with ⟨v,hv,hr⟩ | ⟨ch,hv,hq⟩
 ·subst hv; exact ⟨v,rfl,hr⟩
 ·subst hv; exact hq
theorem map4 {α β:Type} (f : α->β) (x y z u : α):(#[x,y,z,u]:Array α).map f=#[f x,f y,f z,f u]:=by simp
theorem yi5 {x0 x1 x2 x3 y0 y1 y2 y3:Value} (h0:x0=y0) (h1:x1=y1) (h2:x2=y2) (h3:x3=y3):(#[x0,x1,x2,x3]:Array Value)=#[y0,y1,y2,y3]:=by rw [h0,h1,h2,h3]
theorem Bk.setl {W:World} {b:Nat} {l:List Value} {T:TypeId} (h:Bk W b l.toArray T) (i:Nat) (u:Value):Bk (W.setCell ⟨b,i,none⟩ u) b (l.set i u).toArray T:=by
 have:=h.set i u
 rwa [List.setIfInBounds_toArray] at this
section
variable {ops:Array Oper} {Q:Exit->Act->World->Prop} {o:Oper} {a:Act} {w:World} {R:Value->World->Prop}
theorem zq4 (hw:Region.wanted o (yielded ops a.tmps)=true) (x:Operand) {v:Value} (ho:o.op=.assign x) (hx:a.eval x=v) (h:R v w):K.Runs Tryz.prog ops Q o a w R :=
 K.za8 hw (by generalize a.eval=ρ at hx; simp [execOp,ho,go_sem,hx]) h
theorem rp_lenS (hw:Region.wanted o (yielded ops a.tmps)=true) (x:Operand) {A:Option Addr} {l c:Nat} (ho:o.op=.call { callee:=.builtin .len,args:=#[x],argTypes:=#[33] }) (hx:a.eval x=.slice A l c) (h:R (.int .i64 l) w):K.Runs Tryz.prog ops Q o a w R :=
 K.za8 hw (by generalize a.eval=ρ at hx; simp [execOp,ho,go_sem,hx]) h
theorem rp_lenD (hw:Region.wanted o (yielded ops a.tmps)=true) (x:Operand) {A:Option Addr} {l c:Nat} (ho:o.op=.call { callee:=.builtin .len,args:=#[x],argTypes:=#[22] }) (hx:a.eval x=.slice A l c) (h:R (.int .i64 l) w):K.Runs Tryz.prog ops Q o a w R :=
 K.za8 hw (by generalize a.eval=ρ at hx; simp [execOp,ho,go_sem,hx]) h
theorem rp_mk (hw:Region.wanted o (yielded ops a.tmps)=true) (f:FuncId) (x:Operand) {v:Value} (ho:o.op=.makeFunc (.func f) #[x] #[]) (hx:a.eval x=v) (h:R (.func (.func f) #[v] #[]) w):K.Runs Tryz.prog ops Q o a w R :=
 K.za8 hw (by generalize a.eval=ρ at hx; simp [execOp,ho,go_sem,hx]) h
theorem rp_faD (hw:Region.wanted o (yielded ops a.tmps)=true) (x:Operand) {g:Nat} (ho:o.op=.fieldAddr 24 x 0) (hx:a.eval x=.pointer (some ⟨g,0,none⟩)) (h:R (.pointer (some ⟨g,0,none⟩)) w):K.Runs Tryz.prog ops Q o a w R :=
 K.za8 hw (by generalize a.eval=ρ at hx; simp [execOp,ho,go_sem,hx]) h
theorem rp_ldD (hw:Region.wanted o (yielded ops a.tmps)=true) (x:Operand) {g i:Nat} {v:Value} (ho:o.op=.load 22 x) (hx:a.eval x=.pointer (some ⟨g,i,none⟩)) (hc:w.cell? ⟨g,i,none⟩=some v) (h:R v w):K.Runs Tryz.prog ops Q o a w R :=
 K.za8 hw (by generalize a.eval=ρ at hx; simp [execOp,ho,go_sem,hx,hc]) h
theorem rp_ne0 (hw:Region.wanted o (yielded ops a.tmps)=true) (x:Operand) {n:Nat} {b:Bool} (ho:o.op=.binOp .neq 3 x (.const (.int .i64 0)) 3) (hx:a.eval x=.int .i64 n) (hb:decide (n≠0)=b) (h:R (.bool b) w):K.Runs Tryz.prog ops Q o a w R :=
 K.rc_neq hw x (.const (.int .i64 0)) ho hx rfl (by rw [<- hb]; rw [Bool.eq_iff_iff]; simp) h
end
theorem yh4:∀ (args:Array Value) (w:World),(callFunc 160 args).run Tryz.prog w=.ok (.enter 160 args) w:=enters_of Tryz.func160 (by kernel_rfl) rfl
theorem zS9:∀ (args:Array Value) (w:World),(callFunc 54 args).run Tryz.prog w=.ok (.enter 54 args) w:=enters_of Tryz.func54 (by kernel_rfl) rfl
abbrev zn3:Array Oper :=
 #[{ dst:=some 16,op:=.move (.tmp 0),type := 102,pos := "parser.go:31",after:=#[],guard:=none },
  { dst:=some 17,op:=.nilCheck (.tmp 16),type:=0,pos := "parser.go:31",after:=#[{ on:=0,ground:=.data }],guard:=none },
  { dst:=some 18,op:=.fieldAddr 67 (.tmp 17) 0,type:=0,pos := "parser.go:31",after:=#[{ on:=1,ground:=.data }],guard:=none },
  { dst:=some 19,op:=.move (.tmp 0),type := 102,pos := "parser.go:31",after:=#[],guard:=none },
  { dst:=some 20,op:=.nilCheck (.tmp 19),type:=0,pos := "parser.go:31",after:=#[{ on:=3,ground:=.data }],guard:=none },
  { dst:=some 21,op:=.fieldAddr 67 (.tmp 20) 0,type:=0,pos := "parser.go:31",after:=#[{ on:=4,ground:=.data }],guard:=none },
  { dst:=some 22,op:=.call { callee:=.value (.func 160),args:=#[.tmp 21],argTypes:=#[65] },type := 4,pos := "parser.go:31",after:=#[{ on:=5,ground:=.data }],guard:=none },
  { dst:=some 23,op:=.move (.tmp 5),type := 33,pos := "parser.go:31",after:=#[],guard:=none },
  { dst:=some 24,op:=.call { callee:=.builtin Builtin.len,args:=#[.tmp 23],argTypes:=#[33] },type := 3,pos := "parser.go:31",after:=#[{ on:=7,ground:=.data }],guard:=none },
  { dst:=some 25,op:=.call { callee:=.value (.func 54),args:=#[.tmp 18,.tmp 22,.tmp 24,.const (.int .i64 64)],argTypes:=#[65, 4, 3, 3] },type:=0,pos := "parser.go:31",after:=#[{ on:=2,ground:=.data }, { on:=6,ground:=.data }, { on:=8,ground:=.data }, { on:=6,ground:=.chain }],guard:=none }]
theorem zu3 {Q:Exit->Act->World->Prop} {id:Nat} {a0:Act} {W:World} {p:Nat} {ts:List Tk} {n:Nat} (h:PSt W p ts n) {A:Option Addr} {l c:Nat} (hb:K.dstB zn3 a0.tmps.size 10=true) (s0:a0.tmps.getD 0 undef=pP p) (s5:a0.tmps.getD 5 undef=.slice A l c)
  (hok:∀ (f:Nat->Value) (w':World),(fun _ w'=>bgR (isNm ts) l 64 ts=.ok ()/\Below W.heap.size W w') (f 25) w'->Q .normal (K.over a0 [16,17,18,19,20,21,22,23,24,25] f) w') (her:∀ (a:Act) (w':World) (z:Er),a.defers=a0.defers->(bgR (isNm ts) l 64 ts=.error z/\Tw p W.heap.size W w')->Q (.panic (malP z)) a w') :
  (Code.region id zn3 true).wp Tryz.prog Q a0 W:=by
 refine K.zc4 (by kernel_rfl) (by kernel_rfl) hb 9 (by kernel_rfl) (by decide) (by decide) (fun o ho=>by cases ho) [K.Fact.is (pP p),K.Fact.is (pP p),K.Fact.is (pP p),K.Fact.is (pP p),K.Fact.is (pP p),K.Fact.is (pP p),K.Fact.is (.bool (isNm ts)),K.Fact.is (.slice A l c),K.Fact.is (.int .i64 (l:Nat))] (fun _ w'=>bgR (isNm ts) l 64 ts=.ok ()/\Below W.heap.size W w') ?_ ?_ (fun o ho=>by cases ho) ?_
 ·intro i o ho hi a w hf hbl had
  have hc:i=0∨i=1∨i=2∨i=3∨i=4∨i=5∨i=6∨i=7∨i=8:=by omega
  rcases hc with rfl | rfl | rfl | rfl | rfl | rfl | rfl | rfl | rfl
  ·cases ho
   have h0:a.tmps.getD 0 undef=pP p:=(hf.slot 0 (by kernel_rfl)).trans s0
   exact zc1 rfl (.tmp 0) rfl h0 ⟨Below.refl _ _,rfl⟩
  ·cases ho
   have h16:K.vof _ a 0=pP p:=had ⟨0,.data⟩ (by simp) rfl
   exact zk7 rfl (.tmp 16) rfl h16 ⟨Below.refl _ _,rfl⟩
  ·cases ho
   have h17:K.vof _ a 1=pP p:=had ⟨1,.data⟩ (by simp) rfl
   exact zn0 rfl (.tmp 17) rfl h17 ⟨Below.refl _ _,rfl⟩
  ·cases ho
   have h0:a.tmps.getD 0 undef=pP p:=(hf.slot 0 (by kernel_rfl)).trans s0
   exact zc1 rfl (.tmp 0) rfl h0 ⟨Below.refl _ _,rfl⟩
  ·cases ho
   have h19:K.vof _ a 3=pP p:=had ⟨3,.data⟩ (by simp) rfl
   exact zk7 rfl (.tmp 19) rfl h19 ⟨Below.refl _ _,rfl⟩
  ·cases ho
   have h20:K.vof _ a 4=pP p:=had ⟨4,.data⟩ (by simp) rfl
   exact zn0 rfl (.tmp 20) rfl h20 ⟨Below.refl _ _,rfl⟩
  ·cases ho
   have h21:K.vof _ a 5=pP p:=had ⟨5,.data⟩ (by simp) rfl
   exact K.zH7 rfl _ _ _ rfl yh4 #[pP p] (by rw [K.map1]; exact congrArg (fun x=>#[x]) h21) ((zg1 (h.stay hbl)).mono fun e w' ⟨he,hb2⟩=>⟨_,he,hb2,rfl⟩)
  ·cases ho
   have h5:a.tmps.getD 5 undef=.slice A l c:=(hf.slot 5 (by kernel_rfl)).trans s5
   exact zc1 rfl (.tmp 5) rfl h5 ⟨Below.refl _ _,rfl⟩
  ·cases ho
   have h23:K.vof _ a 7=.slice A l c:=had ⟨7,.data⟩ (by simp) rfl
   exact rp_lenS rfl (.tmp 23) rfl h23 ⟨Below.refl _ _,rfl⟩
 ·intro o ho a w hf hbl hF
  cases ho
  have h2:K.vof _ a 2=pP p:=hF 2 (by omega)
  have h6:K.vof _ a 6=.bool (isNm ts):=hF 6 (by omega)
  have h8:K.vof _ a 8=.int .i64 (l:Nat):=hF 8 (by omega)
  refine ze1 rfl _ _ _ rfl zS9 #[pP p,.bool (isNm ts),.int .i64 (l:Nat),.int .i64 64] (by rw [map4]; exact yi5 h2 h6 h8 rfl) ((zh2 (h.stay hbl) (isNm ts) l 64 l 64 rfl rfl).mono fun e w' hw=>?_)
  rcases hw with ⟨hg,he,hb2⟩ | ⟨z,hg,he,ht⟩
  ·exact .inl ⟨_,he,hg,hbl.trans (hb2.mono hbl.size)⟩
  ·exact .inr ⟨malP z,he,her a w' z hf.1 ⟨hg,(Tw.of hbl:Tw p _ W w).step hbl.size ht⟩⟩
 ·intro a w hf hC h1
  rw [K.zh8 hf [16,17,18,19,20,21,22,23,24,25] (by kernel_rfl)]
  exact hok (fun d=>a.tmps.getD d undef) w hC
def isVal (ts:List Tk):Bool:=decide ((hd ts).1=2)||(decide ((hd ts).1=3)||(decide ((hd ts).1=4)||(isSg [91] ts||isSg [123] ts)))
def bvR (lv:Nat) (ts:List Tk) (n:Nat):Except Er Unit:=if isVal ts=false then .error (erR ts 3) else if 24<lv then .error (erR ts 5) else if 4096<n+1 then .error (erR ts 4) else .ok ()
def nmV (x:ByteArray):VT:=if x=⟨#[116,114,117,101]⟩ then .mk 1 1 ⟨#[]⟩ [] [] else if x=⟨#[102,97,108,115,101]⟩ then .mk 1 0 ⟨#[]⟩ [] [] else if x=⟨#[110,117,108,108]⟩ then .mk 0 0 ⟨#[]⟩ [] [] else .mk 4 0 x [] []
theorem PSt.vars {w:World} {p:Nat} {ts:List Tk} {n:Nat} (h:PSt w p ts n):w.cell? ⟨p,2,none⟩=some (.bool false):=by
 obtain ⟨A,c,hb,_⟩:=h.box;exact hb.cell 2 _ rfl
theorem zI5 {w:World} {p:Nat} {ts:List Tk} {n:Nat} (h:PSt w p ts n):Calls Tryz.prog 271 #[pP p] w (fun e w'=>e=.returned (.bool (isVal ts))/\Below w.heap.size w w'):=by
 have hf0:=fld0;obtain ⟨⟨k,tx,i⟩,r,rfl⟩:=h.good.ne;have HP:=Lh h;have HV:Hid (isVal ((k,tx,i)::r)=(decide (k=2)||(decide (k=3)||(decide (k=4)||(isSg [91] ((k,tx,i)::r)||isSg [123] ((k,tx,i)::r)))))):=Lh rfl;have hnx:Calls Tryz.prog 52 #[pP p] w fun e w'=>e=.returned (.agg #[.int .i64 k,.string ⟨tx.toArray⟩,.int .i64 i])/\Below w.heap.size w w':=zg6 h;have HN:=Lh hnx;clear h hnx;generalize isVal ((k,tx,i)::r)=RB at *;by_cases k2:k=2
 ·have HV2:Hid (RB=true):=Lh (by rw [HV.out,decide_eq_true k2]; rfl)
  subst k2
  go_enter Tryz.func271, Tryz.ntmps271
  go_wp2_with fail
  refine HN.out.mono ?_
  rintro e w1 ⟨rfl,hb⟩;have HB:=Lh hb;clear hb;go_wp2_with fail
  go_ret
  exact ⟨by rw [HV2.out]; rfl,HB.out⟩
 have j2:(k==2)=false:=by rw [beq_eq_false_iff_ne]; exact k2
 by_cases k3:k=3
 ·have HV2:Hid (RB=true):=Lh (by rw [HV.out,decide_eq_true k3]; simp)
  subst k3;clear k2
  go_enter Tryz.func271, Tryz.ntmps271
  go_wp2_with fail
  refine HN.out.mono ?_
  rintro e w1 ⟨rfl,hb⟩;have HB:=Lh hb;clear hb;go_wp2_with fail
  go_ret
  exact ⟨by rw [HV2.out]; rfl,HB.out⟩
 have j3:(k==3)=false:=by rw [beq_eq_false_iff_ne]; exact k3
 by_cases k4:k=4
 ·have HV2:Hid (RB=true):=Lh (by rw [HV.out,decide_eq_true k4]; simp)
  subst k4;clear k2 k3
  go_enter Tryz.func271, Tryz.ntmps271
  go_wp2_with fail
  refine HN.out.mono ?_
  rintro e w1 ⟨rfl,hb⟩;have HB:=Lh hb;clear hb;go_wp2_with fail
  go_ret
  exact ⟨by rw [HV2.out]; rfl,HB.out⟩
 have j4:(k==4)=false:=by rw [beq_eq_false_iff_ne]; exact k4
 have HV3:Hid (RB=(isSg [91] ((k,tx,i)::r)||isSg [123] ((k,tx,i)::r))):=Lh (by rw [HV.out,decide_eq_false k2,decide_eq_false k3,decide_eq_false k4]; rfl)
 clear k2 k3 k4 HV;have h1:=fun (W:World) (hb:Below w.heap.size w W)=>zg0 (HP.out.stay hb) ⟨#[91]⟩;have h2:=fun (W:World) (hb:Below w.heap.size w W)=>zg0 (HP.out.stay hb) ⟨#[123]⟩
 cases b1:isSg [91] ((k,tx,i)::r) with
 | true =>
   rw [show isSg (⟨#[91]⟩ : ByteArray).data.toList ((k,tx,i)::r)=true from b1] at h1;have H1:=Lh h1;have HV4:Hid (RB=true):=Lh (by rw [HV3.out,b1]; rfl)
   clear h1 h2 b1
   go_enter Tryz.func271, Tryz.ntmps271
   go_wp2_with fail
   refine HN.out.mono ?_
   rintro e w1 ⟨rfl,hb⟩;have HB:=Lh hb;clear hb;go_wp2_with fail
   refine (H1.out _ HB.out).mono ?_
   rintro e w2 ⟨rfl,hb⟩;have HB2:=Lh (HB.out.trans (hb.mono HB.out.size));clear hb;go_wp2_with fail
   go_ret
   exact ⟨by rw [HV4.out]; rfl,HB2.out⟩
 | false =>
   rw [show isSg (⟨#[91]⟩ : ByteArray).data.toList ((k,tx,i)::r)=false from b1] at h1;have H1:=Lh h1
   cases b2:isSg [123] ((k,tx,i)::r) with
   | true =>
     rw [show isSg (⟨#[123]⟩ : ByteArray).data.toList ((k,tx,i)::r)=true from b2] at h2;have H2:=Lh h2;have HV4:Hid (RB=true):=Lh (by rw [HV3.out,b1,b2]; rfl)
     clear h1 h2 b1 b2
     go_enter Tryz.func271, Tryz.ntmps271
     go_wp2_with fail
     refine HN.out.mono ?_
     rintro e w1 ⟨rfl,hb⟩;have HB:=Lh hb;clear hb;go_wp2_with fail
     refine (H1.out _ HB.out).mono ?_
     rintro e w2 ⟨rfl,hb⟩;have HB2:=Lh (HB.out.trans (hb.mono HB.out.size));clear hb;go_wp2_with fail
     refine (H2.out _ HB2.out).mono ?_
     rintro e w3 ⟨rfl,hb⟩;have HB3:=Lh (HB2.out.trans (hb.mono HB2.out.size));have c2:=(HP.out.stay HB3.out).vars;clear hb;go_wp2_with fail
     go_ret
     exact ⟨by rw [HV4.out]; rfl,HB3.out⟩
   | false =>
     rw [show isSg (⟨#[123]⟩ : ByteArray).data.toList ((k,tx,i)::r)=false from b2] at h2;have H2:=Lh h2;have HV4:Hid (RB=false):=Lh (by rw [HV3.out,b1,b2]; rfl)
     clear h1 h2 b1 b2
     go_enter Tryz.func271, Tryz.ntmps271
     go_wp2_with fail
     refine HN.out.mono ?_
     rintro e w1 ⟨rfl,hb⟩;have HB:=Lh hb;clear hb;go_wp2_with fail
     refine (H1.out _ HB.out).mono ?_
     rintro e w2 ⟨rfl,hb⟩;have HB2:=Lh (HB.out.trans (hb.mono HB.out.size));clear hb;go_wp2_with fail
     refine (H2.out _ HB2.out).mono ?_
     rintro e w3 ⟨rfl,hb⟩;have HB3:=Lh (HB2.out.trans (hb.mono HB2.out.size));have c2:=(HP.out.stay HB3.out).vars;clear hb;go_wp2_with fail
     go_ret
     exact ⟨by rw [HV4.out]; rfl,HB3.out⟩
theorem PSt.count {w:World} {p:Nat} {ts:List Tk} {n m:Nat} (h:PSt w p ts n) (hm:m<=4097):PSt (w.setCell ⟨p,3,none⟩ (.int .i64 m)) p ts m:=by
 obtain ⟨A,c,hb,hc,ht⟩:=h.box;have hbel:Below p w (w.setCell ⟨p,3,none⟩ (.int .i64 m)):=(Below.refl p w).setCell (p:=⟨p,3,none⟩) (Nat.le_refl _) _;exact ⟨⟨A,c,hb.n4 _,hc,ht.kept hbel⟩,h.good,hm,fun w2 h2=>h.laid w2 (hbel.trans h2)⟩
theorem PSt.cells {w:World} {p:Nat} {ts:List Tk} {n:Nat} (h:PSt w p ts n):w.cell? ⟨p,3,none⟩=some (.int .i64 n)/\w.frozen? ⟨p,3,none⟩=false:=by
 obtain ⟨A,c,hb,_⟩:=h.box;exact ⟨hb.cell 3 _ rfl,hb.frz 3⟩
theorem zd4 {w:World} {p:Nat} {ts:List Tk} {n:Nat} (h:PSt w p ts n) (hn:n<=4096) (lv:Nat) (x:Int) (hx:x=lv):Calls Tryz.prog 256 #[pP p,.int .i64 x] w (fun e w'=>(bvR lv ts n=.ok ()/\e=.returned (.tuple #[])/\PSt w' p ts (n+1)/\Tw p w.heap.size w w')∨(∃ z,bvR lv ts n=.error z/\e=badV z/\Tw p w.heap.size w w')):=by
 have HP:=Lh h;have HV:Hid (bvR lv ts n=if isVal ts=false then .error (erR ts 3) else if 24<lv then .error (erR ts 5) else if 4096<n+1 then .error (erR ts 4) else .ok ()):=Lh rfl
 have hc:=zI5 h;clear h;generalize bvR lv ts n=R at *
 cases hv:isVal ts with
 | false =>
   rw [hv] at hc;have HC:=Lh hc;have HV2:Hid (R=.error (erR ts 3)):=Lh (by rw [HV.out,hv]; rfl)
   clear hc hv HV
   go_enter Tryz.func256, Tryz.ntmps256
   go_wp2_with fail
   refine HC.out.mono ?_
   rintro e w1 ⟨rfl,hb⟩;have HB:=Lh hb;clear hb;go_wp2_with fail
   exact zg2 7 (HP.out.stay HB.out) (by kernel_rfl) rfl (by kernel_rfl) fun a w3 hf hb=>⟨hf.1.trans rfl,.inr ⟨_,HV2.out,rfl,(Tw.of HB.out).step HB.out.size (.of hb)⟩⟩
 | true =>
   rw [hv] at hc;have HC:=Lh hc;have HV1:Hid (R=if 24<lv then .error (erR ts 5) else if 4096<n+1 then .error (erR ts 4) else .ok ()):=Lh (by rw [HV.out,hv]; rfl)
   clear hc hv HV;by_cases hl:24<lv
   ·have hl':x > 24:=by omega
    have HV2:Hid (R=.error (erR ts 5)):=Lh (by rw [HV1.out,if_pos hl])
    clear hl HV1 hx
    go_enter Tryz.func256, Tryz.ntmps256
    go_wp2_with fail
    refine HC.out.mono ?_
    rintro e w1 ⟨rfl,hb⟩;have HB:=Lh hb;clear hb;go_wp2_with fail
    exact zg2 16 (HP.out.stay HB.out) (by kernel_rfl) rfl (by kernel_rfl) fun a w3 hf hb=>⟨hf.1.trans rfl,.inr ⟨_,HV2.out,rfl,(Tw.of HB.out).step HB.out.size (.of hb)⟩⟩
   ·have hl':¬ x > 24:=by omega
    have HV2:Hid (R=if 4096<n+1 then .error (erR ts 4) else .ok ()):=Lh (by rw [HV1.out,if_neg hl])
    clear hl HV1 hx;by_cases hn4:4096<n+1
    ·have hn5:(n:Int)+1 > 4096:=by omega
     have hn6:(n:Int)<=4097:=by omega
     have HV3:Hid (R=.error (erR ts 4)):=Lh (by rw [HV2.out,if_pos hn4])
     clear hn4 HV2
     go_enter Tryz.func256, Tryz.ntmps256
     go_wp2_with fail
     refine HC.out.mono ?_
     rintro e w1 ⟨rfl,hb⟩;have HB:=Lh hb;have HP1:=Lh (HP.out.stay hb);clear hb;obtain ⟨q1,f1⟩:=HP1.out.cells;have hHT:Tw p w.heap.size w w1:=.of HB.out;have HT1:=Lh hHT;clear hHT;go_wp2_with fail
     have HP2:Hid (PSt (w1.setCell ⟨p,3,none⟩ (.int .i64 ((n:Int)+1))) p ts (n+1)):=Lh (HP1.out.count (m:=n+1) (by omega))
     exact zg2 35 HP2.out (by kernel_rfl) rfl (by kernel_rfl) fun a w3 hf hb=>⟨hf.1.trans rfl,.inr ⟨_,HV3.out,rfl,(HT1.out.set 3 (.int .i64 ((n:Int)+1))).trans ((Tw.of hb:Tw p _ _ w3).mono (by have:=HB.out.size; simp [World.setCell]; omega))⟩⟩
    ·have hn5:¬ (n:Int)+1 > 4096:=by omega
     have hn6:(n:Int)<=4096:=by omega
     have HV3:Hid (R=.ok ()):=Lh (by rw [HV2.out,if_neg hn4])
     clear hn4 HV2
     go_enter Tryz.func256, Tryz.ntmps256
     go_wp2_with fail
     refine HC.out.mono ?_
     rintro e w1 ⟨rfl,hb⟩;have HB:=Lh hb;have HP1:=Lh (HP.out.stay hb);clear hb;obtain ⟨q1,f1⟩:=HP1.out.cells;have hHT:Tw p w.heap.size w w1:=.of HB.out;have HT1:=Lh hHT;clear hHT;go_wp2_with fail
     have HP2:Hid (PSt (w1.setCell ⟨p,3,none⟩ (.int .i64 ((n:Int)+1))) p ts (n+1)):=Lh (HP1.out.count (m:=n+1) (by omega))
     go_end0
     exact .inl ⟨HV3.out,rfl,HP2.out,HT1.out.set 3 _⟩
def zg3 (w:World) (p:Nat) (n len:Nat) (r:Except Er (VT × List Tk × Nat)) (e:Ending) (w':World):Prop :=
 (∃ t ts m v,r=.ok (t,ts,m)/\e=.returned v/\RdS w' (fun b=>w.heap.size<=b/\b<w'.heap.size) v t/\PSt w' p ts m/\Tw p w.heap.size w w'/\n<m/\m<=4096/\ts.length<len)∨(∃ x,r=.error x/\e=badV x/\Tw p w.heap.size w w')
theorem zq7 (w:World) (S:Nat->Prop) (k n:Int) (s:ByteArray) (hk:small k) (hn:small n) (hs:s.size<=140737488351232):RdS w S (.agg #[.int .i64 k,.int .i64 n,.string s,.slice none 0 0,.slice none 0 0]) (.mk k n s [] []) :=
 .mk (fun _=>undef) hk hn hs (by simp) rfl rfl (by omega) (by omega) (fun h=>absurd h (Nat.lt_irrefl _)) (fun i t h=>by simp at h) (fun h=>by simp at h)
theorem bool_t (w:World):Calls Tryz.prog 272 #[.bool true] w fun e w'=>e=.returned (.agg #[.int .i64 1,.int .i64 1,.string ⟨#[]⟩,.slice none 0 0,.slice none 0 0])/\Below w.heap.size w w':=zT5 true w
theorem bool_f (w:World):Calls Tryz.prog 272 #[.bool false] w fun e w'=>e=.returned (.agg #[.int .i64 1,.int .i64 0,.string ⟨#[]⟩,.slice none 0 0,.slice none 0 0])/\Below w.heap.size w w':=zT5 false w
theorem nm_eq (x:ByteArray) (l:List UInt8):(x.toList==l)=decide (x=⟨l.toArray⟩):=zj6 x l
theorem zW1 (x:ByteArray) (hx:x.size<=1000000) (w:World):Calls Tryz.prog 257 #[.string x] w (fun e w'=>(∃ k n s,e=.returned (.agg #[.int .i64 k,.int .i64 n,.string s,.slice none 0 0,.slice none 0 0])/\nmV x=.mk k n s [] []/\small k/\small n/\s.size<=1000000)/\Below w.heap.size w w'):=by
 have e1:=nm_eq x [116,114,117,101];have e2:=nm_eq x [102,97,108,115,101];have e3:=nm_eq x [110,117,108,108];have HX:=Lh hx;have HV:Hid (nmV x=if x=⟨#[116,114,117,101]⟩ then .mk 1 1 ⟨#[]⟩ [] [] else if x=⟨#[102,97,108,115,101]⟩ then .mk 1 0 ⟨#[]⟩ [] [] else if x=⟨#[110,117,108,108]⟩ then .mk 0 0 ⟨#[]⟩ [] [] else .mk 4 0 x [] []):=Lh rfl
 have hX:Bk (w.alloc (.cells #[.int .i64 0,.int .i64 0,.string ⟨#[]⟩,.slice none 0 0,.slice none 0 0] 53 (0,0))) w.heap.size #[.int .i64 0,.int .i64 0,.string ⟨#[]⟩,.slice none 0 0,.slice none 0 0] 53 := Bk.new _ _ _;have HX0:=Lh hX;have HB0:=Lh (za1 w (.cells #[.int .i64 0,.int .i64 0,.string ⟨#[]⟩,.slice none 0 0,.slice none 0 0] 53 (0,0)));generalize nmV x=V at *;clear hx hX;by_cases h1:x=⟨#[116,114,117,101]⟩
 ·rw [decide_eq_true h1] at e1
  have HV2:Hid (V=.mk 1 1 ⟨#[]⟩ [] []):=Lh (by rw [HV.out,if_pos h1])
  clear h1 e2 e3 HV
  go_enter Tryz.func257, Tryz.ntmps257
  go_wp2_with fail
  refine (bool_t _).mono ?_
  rintro e w1 ⟨rfl,hb⟩;have hx1:=HX0.out.stay hb;have HB1:=Lh (HB0.out.trans (hb.mono HB0.out.size));have x0:=hx1.cell 0 _ rfl;have x1:=hx1.cell 1 _ rfl;have x2:=hx1.cell 2 _ rfl;have x3:=hx1.cell 3 _ rfl;have x4:=hx1.cell 4 _ rfl;have g0:=hx1.frz 0;have g1:=hx1.frz 1;have g2:=hx1.frz 2;have g3:=hx1.frz 3;have g4:=hx1.frz 4;have HZ:=Lh (((((hx1.set 0 (.int .i64 1)).set 1 (.int .i64 1)).set 2 (.string ⟨#[]⟩)).set 3 (.slice none 0 0)).set 4 (.slice none 0 0));have HB2:=Lh (((((HB1.out.setCell (p:=⟨w.heap.size,0,none⟩) (Nat.le_refl _) (.int .i64 1)).setCell (p:=⟨w.heap.size,1,none⟩) (Nat.le_refl _) (.int .i64 1)).setCell (p:=⟨w.heap.size,2,none⟩) (Nat.le_refl _) (.string ⟨#[]⟩)).setCell (p:=⟨w.heap.size,3,none⟩) (Nat.le_refl _) (.slice none 0 0)).setCell (p:=⟨w.heap.size,4,none⟩) (Nat.le_refl _) (.slice none 0 0));clear hb hx1;go_wp2_with fail
  have z0:=HZ.out.cell 0 _ rfl;have z1:=HZ.out.cell 1 _ rfl;have z2:=HZ.out.cell 2 _ rfl;have z3:=HZ.out.cell 3 _ rfl;have z4:=HZ.out.cell 4 _ rfl;refine bodyPost_ret (v:=.agg #[.int .i64 1,.int .i64 1,.string ⟨#[]⟩,.slice none 0 0,.slice none 0 0]) (by simp [results,Tryz.results257,go_sem,z0,z1,z2,z3,z4]) rfl ⟨⟨_,_,_,rfl,HV2.out,by unfold small; omega,by unfold small; omega,by first | exact HX.out | decide⟩,HB2.out⟩
 rw [decide_eq_false h1] at e1;by_cases h2:x=⟨#[102,97,108,115,101]⟩
 ·rw [decide_eq_true h2] at e2
  have HV2:Hid (V=.mk 1 0 ⟨#[]⟩ [] []):=Lh (by rw [HV.out,if_neg h1,if_pos h2])
  clear h1 h2 e3 HV
  go_enter Tryz.func257, Tryz.ntmps257
  go_wp2_with fail
  refine (bool_f _).mono ?_
  rintro e w1 ⟨rfl,hb⟩;have hx1:=HX0.out.stay hb;have HB1:=Lh (HB0.out.trans (hb.mono HB0.out.size));have x0:=hx1.cell 0 _ rfl;have x1:=hx1.cell 1 _ rfl;have x2:=hx1.cell 2 _ rfl;have x3:=hx1.cell 3 _ rfl;have x4:=hx1.cell 4 _ rfl;have g0:=hx1.frz 0;have g1:=hx1.frz 1;have g2:=hx1.frz 2;have g3:=hx1.frz 3;have g4:=hx1.frz 4;have HZ:=Lh (((((hx1.set 0 (.int .i64 1)).set 1 (.int .i64 0)).set 2 (.string ⟨#[]⟩)).set 3 (.slice none 0 0)).set 4 (.slice none 0 0));have HB2:=Lh (((((HB1.out.setCell (p:=⟨w.heap.size,0,none⟩) (Nat.le_refl _) (.int .i64 1)).setCell (p:=⟨w.heap.size,1,none⟩) (Nat.le_refl _) (.int .i64 0)).setCell (p:=⟨w.heap.size,2,none⟩) (Nat.le_refl _) (.string ⟨#[]⟩)).setCell (p:=⟨w.heap.size,3,none⟩) (Nat.le_refl _) (.slice none 0 0)).setCell (p:=⟨w.heap.size,4,none⟩) (Nat.le_refl _) (.slice none 0 0));clear hb hx1;go_wp2_with fail
  have z0:=HZ.out.cell 0 _ rfl;have z1:=HZ.out.cell 1 _ rfl;have z2:=HZ.out.cell 2 _ rfl;have z3:=HZ.out.cell 3 _ rfl;have z4:=HZ.out.cell 4 _ rfl;refine bodyPost_ret (v:=.agg #[.int .i64 1,.int .i64 0,.string ⟨#[]⟩,.slice none 0 0,.slice none 0 0]) (by simp [results,Tryz.results257,go_sem,z0,z1,z2,z3,z4]) rfl ⟨⟨_,_,_,rfl,HV2.out,by unfold small; omega,by unfold small; omega,by first | exact HX.out | decide⟩,HB2.out⟩
 rw [decide_eq_false h2] at e2;by_cases h3:x=⟨#[110,117,108,108]⟩
 ·rw [decide_eq_true h3] at e3
  have HV2:Hid (V=.mk 0 0 ⟨#[]⟩ [] []):=Lh (by rw [HV.out,if_neg h1,if_neg h2,if_pos h3])
  clear h1 h2 h3 HV
  go_enter Tryz.func257, Tryz.ntmps257
  go_wp2_with fail
  refine bodyPost_ret (v:=.agg #[.int .i64 0,.int .i64 0,.string ⟨#[]⟩,.slice none 0 0,.slice none 0 0]) (by simp [results,Tryz.results257,go_sem]) rfl ⟨⟨_,_,_,rfl,HV2.out,by unfold small; omega,by unfold small; omega,by decide⟩,HB0.out⟩
 ·rw [decide_eq_false h3] at e3
  have HV2:Hid (V=.mk 4 0 x [] []):=Lh (by rw [HV.out,if_neg h1,if_neg h2,if_neg h3])
  clear h1 h2 h3 HV
  go_enter Tryz.func257, Tryz.ntmps257
  go_wp2_with fail
  refine (enum_any x _).mono ?_
  rintro e w1 ⟨rfl,hb⟩;have hx1:=HX0.out.stay hb;have HB1:=Lh (HB0.out.trans (hb.mono HB0.out.size));have x0:=hx1.cell 0 _ rfl;have x1:=hx1.cell 1 _ rfl;have x2:=hx1.cell 2 _ rfl;have x3:=hx1.cell 3 _ rfl;have x4:=hx1.cell 4 _ rfl;have g0:=hx1.frz 0;have g1:=hx1.frz 1;have g2:=hx1.frz 2;have g3:=hx1.frz 3;have g4:=hx1.frz 4;have HZ:=Lh (((((hx1.set 0 (.int .i64 4)).set 1 (.int .i64 0)).set 2 (.string x)).set 3 (.slice none 0 0)).set 4 (.slice none 0 0));have HB2:=Lh (((((HB1.out.setCell (p:=⟨w.heap.size,0,none⟩) (Nat.le_refl _) (.int .i64 4)).setCell (p:=⟨w.heap.size,1,none⟩) (Nat.le_refl _) (.int .i64 0)).setCell (p:=⟨w.heap.size,2,none⟩) (Nat.le_refl _) (.string x)).setCell (p:=⟨w.heap.size,3,none⟩) (Nat.le_refl _) (.slice none 0 0)).setCell (p:=⟨w.heap.size,4,none⟩) (Nat.le_refl _) (.slice none 0 0));clear hb hx1;go_wp2_with fail
  have z0:=HZ.out.cell 0 _ rfl;have z1:=HZ.out.cell 1 _ rfl;have z2:=HZ.out.cell 2 _ rfl;have z3:=HZ.out.cell 3 _ rfl;have z4:=HZ.out.cell 4 _ rfl;refine bodyPost_ret (v:=.agg #[.int .i64 4,.int .i64 0,.string x,.slice none 0 0,.slice none 0 0]) (by simp [results,Tryz.results257,go_sem,z0,z1,z2,z3,z4]) rfl ⟨⟨_,_,_,rfl,HV2.out,by unfold small; omega,by unfold small; omega,by first | exact HX.out | decide⟩,HB2.out⟩
theorem infoArg:(Tryz.prog.info? 88).map (fun i=>(i.zero,i.size,i.bytes))=some (some (.agg #[.string ⟨#[]⟩,.int .i64 0,.int .i64 0,.string ⟨#[]⟩,.slice none 0 0,.slice none 0 0]),6,96):=by kernel_rfl
theorem zL4 (q1 q2 p:Nat) (el:List Tk->Except Er ((ByteArray × VT) × List Tk)) (w:World) (hel:∀ (W:World) (ts:List Tk) (m:Nat),Tw p w.heap.size w W->PSt W p ts m->isNm ts=true->Calls Tryz.prog 255 #[.pointer (some ⟨q1,0,none⟩),.pointer (some ⟨q2,0,none⟩)] W (WPost ArgV W p (el ts)))
  (hlt:∀ (ts:List Tk) (x:(ByteArray × VT)) (ts':List Tk),Good ts->isNm ts=true->el ts=.ok (x,ts')->ts'.length<ts.length) (ts:List Tk) (n:Nat) (h:PSt w p ts n) (ca cb:UInt8) (most:Nat) (hm:most<=64) (y:Int) (hy:y=most) :
  Calls Tryz.prog 254 #[pP p,.string ⟨#[ca,cb]⟩,.int .i64 y,.func (.func 160) #[pP p] #[],.func (.func 255) #[] #[.pointer (some ⟨q1,0,none⟩),.pointer (some ⟨q2,0,none⟩)]] w (WPost (SlS 6 96 ArgC) w p (blR [ca] [cb] most el ts)):=by
 have HS:Hid (Calls Tryz.prog 167 #[pP p,.string ⟨#[ca]⟩] w (UPost w p n (sgR [ca] ts))):=Lh (zd9 h ⟨#[ca]⟩);have HV:Hid (blR [ca] [cb] most el ts=exB (sgR [ca] ts) fun ts1=>bls [cb] most el (ts1.length+1) [] ts1):=Lh rfl;have HEL:=Lh hel;have HLT:=Lh hlt;have HY:=Lh hy;have hpw:=h.lt;clear h hel hlt hy;generalize blR [ca] [cb] most el ts=R at *
 go_enter Tryz.func254, Tryz.ntmps254
 go_wp2_with fail
 refine HS.out.mono ?_
 rintro e w1 (⟨ts1,hr,rfl,hp,ht⟩ | ⟨x,hr,rfl,ht⟩);rotate_left
 ·have HV2:Hid (R=.error x):=Lh (by rw [HV.out,za7 hr])
  have HT:=Lh ht;clear hr ht;exact ⟨rfl,.inr ⟨x,HV2.out,rfl,HT.out⟩⟩
 have HV2:Hid (R=bls [cb] most el (ts1.length+1) [] ts1):=Lh (by rw [HV.out,za3 hr])
 have HP1:=Lh hp;have HT1:=Lh ht;clear hr hp ht HV HS;go_wp2_with fail
 go_loopw [11] (fun u wr=>∃ (l:List (ByteArray × VT)) (tr:List Tk) (cells:List Value) (f m:Nat),l.length<=most/\Hid (R=bls [cb] most el f l tr/\tr.length<f/\Els 88 6 ArgC wr w.heap.size u cells l/\PSt wr p tr m/\Tw p w.heap.size w wr)) (fun _ wr=>tlen p wr)
 case atStart=>exact ⟨[],ts1,[],_,n,Nat.zero_le _,Lh ⟨HV2.out,Nat.lt_succ_self _,Els.nil _ _ _ _ _,HP1.out,HT1.out⟩⟩
 case round =>
  obtain ⟨l,tr,cells,f,m,hlm,hr⟩:=hrel;obtain ⟨AL,c,hu⟩:=hr.out.2.2.1.slice;subst hu;have hlb:(l.length:Int)<=64:=by omega
  obtain ⟨f',hf'⟩ : ∃ f',f=f'+1:=⟨f-1,by have:=hr.out.2.1; omega⟩
  subst hf';obtain ⟨ll,hll⟩ : ∃ ll,ll=l.length:=⟨_,rfl⟩;rw [<- hll] at hlb;have HLL:=Lh hll;have hz:ll=0∨ll≠0:=by omega
  by_cases hdone:ll≠0/\isSg [cb] tr=true
  ·obtain ⟨hz,hsg⟩:=hdone
   have hz0:((ll:Int)==0)=false:=by rw [beq_eq_false_iff_ne]; omega
   have HD:Hid (R=.ok (l,tr.tail)):=Lh (hr.out.1.trans (by rw [zf9,if_pos ⟨by rw [<- HLL.out]; exact hz,hsg⟩]))
   have HC:=Lh (zb0 hr.out.2.2.2.1 ⟨#[cb]⟩ _ hsg);clear hz hsg hll;rw [<- HLL.out];go_wp2_with fail
   refine HC.out.mono ?_
   rintro e w2 ⟨rfl,hp2,ht2⟩;have HP2:Hid (PSt w2 p tr.tail m):=Lh hp2;have HT2:=Lh (hr.out.2.2.2.2.step hr.out.2.2.2.2.size ht2);have HE2:=Lh (hr.out.2.2.1.tw ArgC.stays hpw ht2);clear hp2 ht2;go_wp2_with fail
   go_ret
   refine .inl ⟨l,_,_,m,HD.out,rfl, ?_,HP2.out,HT2.out⟩
   have:=HE2.out.read (bytes:=96) ArgC.stays (by have:=HLL.out; unfold big; omega)
   rw [HLL.out];exact this
  ·have HD:Hid (R=exB (bgR (isNm tr) l.length most tr) fun _=>exB (el tr) fun q=>bls [cb] most el f' (l++[q.1]) q.2):=Lh (hr.out.1.trans (by rw [zf9,if_neg (by rw [<- HLL.out]; exact hdone)]))
   have hwalk:∃ W,W=wr:=⟨_,rfl⟩;have hcase:ll=0∨(ll≠0/\isSg [cb] tr=false):=by
    by_cases h0:ll=0
    ·exact .inl h0
    ·exact .inr ⟨h0,by cases hh:isSg [cb] tr with
      | true=>exact absurd ⟨h0,hh⟩ hdone
      | false=>rfl⟩
   rw [<- hll];clear hz hdone hll hwalk;rcases hcase with hz | ⟨hz,hsg⟩
   focus
    have hz0:((ll:Int)==0)=true:=by rw [hz]; rfl
    have HPC:=Lh hr.out.2.2.2.1;have HTC:Hid (Tw p wr.heap.size wr wr):=Lh (.refl _ _ _);clear hz;go_wp2_with fail
   rotate_left
   focus
    have hz0:((ll:Int)==0)=false:=by rw [beq_eq_false_iff_ne]; omega
    have HC:=Lh (zb0 hr.out.2.2.2.1 ⟨#[cb]⟩ _ hsg);clear hz hsg;go_wp2_with fail
    refine HC.out.mono ?_
    rintro e wa ⟨rfl,hp2,ht2⟩;have HPC:Hid (PSt wa p tr m):=Lh hp2;have HTC:=Lh ht2;clear hp2 ht2 HC;go_wp2_with fail
   all_goals
    refine (zg1 HPC.out).mono ?_
    rintro e wb ⟨rfl,hb⟩;have HPB:=Lh (HPC.out.stay hb);have HTB:=Lh (HTC.out.step HTC.out.size (.of hb));clear hb;go_wp2_with fail
    refine (zh2 HPB.out (isNm tr) l.length most _ _ (by have:=HLL.out; omega) HY.out).mono ?_
    rintro e wc (⟨hbg,rfl,hb⟩ | ⟨x,hbg,rfl,ht⟩);rotate_left
    ·have HD2:Hid (R=.error x):=Lh (by rw [HD.out,za7 hbg])
     have HT2:=Lh (hr.out.2.2.2.2.step hr.out.2.2.2.2.size (HTB.out.step HTB.out.size ht));clear hbg ht;exact ⟨rfl,.inr ⟨x,HD2.out,rfl,HT2.out⟩⟩
    obtain ⟨hnm,hlm2⟩:=zp5 hbg hlm;have HD2:Hid (R=exB (el tr) fun q=>bls [cb] most el f' (l++[q.1]) q.2):=Lh (by rw [HD.out,za3 hbg])
    have HPB2:=Lh (HPB.out.stay hb);have HTB2:=Lh (HTB.out.step HTB.out.size (.of hb));have HNM:=Lh hnm;clear hbg hb hnm;go_wp2_with fail
    refine (HEL.out _ tr m (hr.out.2.2.2.2.step hr.out.2.2.2.2.size HTB2.out) HPB2.out HNM.out).mono ?_
    rintro e wd (⟨x,ts',v,m',hre,rfl,hx,hp,ht⟩ | ⟨x,hre,rfl,ht⟩);rotate_left
    ·have HD3:Hid (R=.error x):=Lh (by rw [HD2.out,za7 hre])
     have HT3:=Lh (hr.out.2.2.2.2.step hr.out.2.2.2.2.size (HTB2.out.step HTB2.out.size ht));clear hre ht;exact ⟨rfl,.inr ⟨x,HD3.out,rfl,HT3.out⟩⟩
    have HD3:Hid (R=bls [cb] most el f' (l++[x]) ts'):=Lh (by rw [HD2.out,za3 hre])
    have hlt3:=HLT.out tr x ts' HPB2.out.good HNM.out hre;obtain ⟨A,KA,ci,ck,k,li,lk,s,z,rfl,hxc⟩:=hx.shape;have HTD:=Lh (HTB2.out.step HTB2.out.size ht);have hE:=hr.out.2.2.1.tw ArgC.stays hpw HTD.out;have hws:w.heap.size<=wc.heap.size:=Nat.le_trans hr.out.2.2.2.2.size HTB2.out.size;have hwd:wc.heap.size<=wd.heap.size:=ht.size;have hxS:=ArgC.stays.kept (w':=wd) (S':=fun b=>w.heap.size<=b/\b<wd.heap.size/\(Value.slice AL l.length c).ownBlock≠some b) hxc (fun _ _=>rfl) (fun b hb=>⟨by have:=hb.1; omega,hb.2,fun e=>by have h8:=(hr.out.2.2.1.own).lt b e; have h9:=HTB2.out.size; have:=hb.1; omega⟩)
    have HX:=Lh hxS;have HPD:=Lh hp;have HE:=Lh hE;have b0:Below wd.heap.size wd (wd.alloc (.cells #[.string x.1,.int .i64 k,.int .i64 z,.string s,.slice A li ci,.slice KA lk ck] 88 (0,0))):=za1 _ _;have HB0:=Lh b0;have HOWN:Hid ((wd.alloc (.cells #[.string x.1,.int .i64 k,.int .i64 z,.string s,.slice A li ci,.slice KA lk ck] 88 (0,0))).ownsRow w.heap.size 88 6 (.slice AL ll c) ll cells):=Lh (by
     have h8:=ze4 hE.own (fun g hg=>b0.block g hg);rw [<- HLL.out] at h8; exact h8)
    have HNEWS:Hid (∀ (j:Nat) (u:Value),([.string x.1,.int .i64 k,.int .i64 z,.string s,.slice A li ci,.slice KA lk ck]:List Value)[j]?=some u->(wd.alloc (.cells #[.string x.1,.int .i64 k,.int .i64 z,.string s,.slice A li ci,.slice KA lk ck] 88 (0,0))).cell? ((⟨wd.heap.size,0,none⟩ : Addr).add j)=some u):=Lh (ze5 wd [.string x.1,.int .i64 k,.int .i64 z,.string s,.slice A li ci,.slice KA lk ck] 88);have HONE:Hid (∀ u∈([.string x.1,.int .i64 k,.int .i64 z,.string s,.slice A li ci,.slice KA lk ck]:List Value),u.oneCell'=true):=Lh (by intro u hu; simp only [List.mem_cons,List.not_mem_nil,or_false] at hu; rcases hu with rfl | rfl | rfl | rfl | rfl | rfl <;> rfl)
    have HSZ:Hid (w.heap.size<=(wd.alloc (.cells #[.string x.1,.int .i64 k,.int .i64 z,.string s,.slice A li ci,.slice KA lk ck] 88 (0,0))).heap.size):=Lh (by rw [World.size_alloc]; omega)
    clear hre ht hx hxc hp hE hxS b0;go_wp2_with (at_builtin; refine za9 _ rfl _ _ 83 rfl w.heap.size 88 _ 6 96 Tryz.underlying83 infoArg rfl (by decide) _ ll cells rfl HOWN.out ⟨wd.heap.size,0,none⟩ 1 1 (by decide) [.string x.1,.int .i64 k,.int .i64 z,.string s,.slice A li ci,.slice KA lk ck] rfl rfl HNEWS.out HONE.out (by unfold maxLen; omega) (by omega) HSZ.out ?_; intro v' w' hown' hg' hf')
    have hpush:=Els.push (x:=x) ArgC.stays HE.out HB0.out (by have:=HSZ.out; omega) HX.out (news:=[.string x.1,.int .i64 k,.int .i64 z,.string s,.slice A li ci,.slice KA lk ck]) (fun j hj=>rfl) (ArgV.cong (Nat.le_refl _)) (by rw [<- HLL.out]; exact hown') (by rw [<- HLL.out]; exact hg') (by rw [<- HLL.out]; exact hf')
    have HE2:=Lh hpush.1;have HT2:Hid (Tw p w.heap.size w w'):=Lh ((hr.out.2.2.2.2.trans (HTD.out.mono hr.out.2.2.2.2.size)).trans (.of hpush.2));have HP2:=Lh (HPD.out.same (hpush.2.mono (by omega)))
    clear hpush hown' hg' hf'
    go_roundw
    case rel=>exact ⟨l++[x],ts',_,f',m',by rw [List.length_append,List.length_singleton]; omega,Lh ⟨HD3.out,by have:=hr.out.2.1; omega,HE2.out,HP2.out,HT2.out⟩⟩
    case measure=>rw [HP2.out.tlen,hr.out.2.2.2.1.tlen]; exact hlt3
abbrev whV (p:Nat):Value:=.func (.func 164) #[pP p] #[]
def drs (el:List Tk->Except Er (DirT × List Tk)):Nat->List DirT->List Tk->Except Er (List DirT × List Tk)
 | 0,_,_=>.error (0,99)
 | f+1,l,ts=>if isSg [64] ts=false then .ok (l,ts) else exB (bgR true l.length 16 ts) fun _=>exB (el ts) fun q=>drs el f (l++[q.1]) q.2
theorem zr7 (el:List Tk->Except Er (DirT × List Tk)) (f:Nat) (l:List DirT) (ts:List Tk):drs el (f+1) l ts=if isSg [64] ts=false then .ok (l,ts) else exB (bgR true l.length 16 ts) fun _=>exB (el ts) fun q=>drs el f (l++[q.1]) q.2:=rfl
def drsR (el:List Tk->Except Er (DirT × List Tk)) (ts:List Tk):Except Er (List DirT × List Tk):=drs el (ts.length+1) [] ts
theorem infoDir:(Tryz.prog.info? 85).map (fun i=>(i.zero,i.size,i.bytes))=some (some (.agg #[.string ⟨#[]⟩,.slice none 0 0]),2,40):=by kernel_rfl
theorem zy6 (p:Nat) (el:List Tk->Except Er (DirT × List Tk)) (hel:∀ (W:World) (ts:List Tk) (m:Nat),PSt W p ts m->isSg [64] ts=true->Calls Tryz.prog 202 #[pP p,whV p] W (WPost DirV W p (el ts)))
  (hlt:∀ (ts:List Tk) (x:DirT) (ts':List Tk),Good ts->isSg [64] ts=true->el ts=.ok (x,ts')->ts'.length<ts.length) (w:World) (ts:List Tk) (n:Nat) (h:PSt w p ts n) :
  Calls Tryz.prog 163 #[pP p,whV p] w (WPost DirsC w p (drsR el ts)):=by
 have HV2:Hid (drsR el ts=drs el (ts.length+1) [] ts):=Lh rfl;have HP1:=Lh h;have hpw:=h.lt;have HEL:=Lh hel;have HLT:=Lh hlt;clear h hel hlt;generalize drsR el ts=R at *
 go_enter Tryz.func163, Tryz.ntmps163
 go_wp2_with fail
 go_loopw [5] (fun u wr=>∃ (l:List DirT) (tr:List Tk) (cells:List Value) (f m:Nat),l.length<=16/\Hid (R=drs el f l tr/\tr.length<f/\Els 85 2 DirC wr w.heap.size u cells l/\PSt wr p tr m/\Tw p w.heap.size w wr)) (fun _ wr=>tlen p wr)
 case atStart=>exact ⟨[],ts,[],_,n,Nat.zero_le _,Lh ⟨HV2.out,Nat.lt_succ_self _,Els.nil _ _ _ _ _,HP1.out,.refl _ _ _⟩⟩
 case round =>
  obtain ⟨l,tr,cells,f,m,hlm,hr⟩:=hrel;obtain ⟨AL,c,hu⟩:=hr.out.2.2.1.slice;subst hu;have hlb:(l.length:Int)<=16:=by omega
  obtain ⟨f',hf'⟩ : ∃ f',f=f'+1:=⟨f-1,by have:=hr.out.2.1; omega⟩
  subst hf';obtain ⟨ll,hll⟩ : ∃ ll,ll=l.length:=⟨_,rfl⟩;rw [<- hll] at hlb;have HLL:=Lh hll;have hc0:=zg0 hr.out.2.2.2.1 ⟨#[64]⟩
  cases hsg:isSg [64] tr with
  | false =>
    have HD:Hid (R=.ok (l,tr)):=Lh (hr.out.1.trans (by rw [zr7,if_pos hsg]))
    rw [show isSg (⟨#[64]⟩ : ByteArray).data.toList tr=false from hsg] at hc0;have HC:=Lh hc0;clear hc0 hsg hll;rw [<- HLL.out];go_wp2_with fail
    refine HC.out.mono ?_
    rintro e w2 ⟨rfl,hb⟩;have HP2:=Lh (hr.out.2.2.2.1.stay hb);have HT2:=Lh (hr.out.2.2.2.2.step hr.out.2.2.2.2.size (.of hb));have HE2:=Lh (hr.out.2.2.1.tw DirC.stays hpw (.of hb));clear hb;go_wp2_with fail
    go_ret
    refine .inl ⟨l,_,_,m,HD.out,rfl, ?_,HP2.out,HT2.out⟩
    have:=HE2.out.read (bytes:=40) DirC.stays (by have:=HLL.out; unfold big; omega)
    rw [HLL.out];exact this
  | true =>
    have HD:Hid (R=exB (bgR true l.length 16 tr) fun _=>exB (el tr) fun q=>drs el f' (l++[q.1]) q.2):=Lh (hr.out.1.trans (by rw [zr7,if_neg (by rw [hsg]; decide)]))
    rw [show isSg (⟨#[64]⟩ : ByteArray).data.toList tr=true from hsg] at hc0;have HC:=Lh hc0;have HNM:=Lh hsg;clear hc0 hsg;rw [<- hll];clear hll;go_wp2_with fail
    refine HC.out.mono ?_
    rintro e wb ⟨rfl,hb⟩;have HPB:=Lh (hr.out.2.2.2.1.stay hb);have HTB:Hid (Tw p wr.heap.size wr wb):=Lh (.of hb);clear hb;go_wp2_with fail
    refine (zh2 HPB.out true l.length 16 _ _ (by have:=HLL.out; omega) rfl).mono ?_
    rintro e wc (⟨hbg,rfl,hb⟩ | ⟨x,hbg,rfl,ht⟩);rotate_left
    ·have HD2:Hid (R=.error x):=Lh (by rw [HD.out,za7 hbg])
     have HT2:=Lh (hr.out.2.2.2.2.step hr.out.2.2.2.2.size (HTB.out.step HTB.out.size ht));clear hbg ht;exact ⟨rfl,.inr ⟨x,HD2.out,rfl,HT2.out⟩⟩
    obtain ⟨hnm,hlm2⟩:=zp5 hbg hlm;have HD2:Hid (R=exB (el tr) fun q=>drs el f' (l++[q.1]) q.2):=Lh (by rw [HD.out,za3 hbg])
    have HPB2:=Lh (HPB.out.stay hb);have HTB2:=Lh (HTB.out.step HTB.out.size (.of hb));clear hbg hb hnm;go_wp2_with fail
    refine (HEL.out _ tr m HPB2.out HNM.out).mono ?_
    rintro e wd (⟨x,ts',v,m',hre,rfl,hx,hp,ht⟩ | ⟨x,hre,rfl,ht⟩);rotate_left
    ·have HD3:Hid (R=.error x):=Lh (by rw [HD2.out,za7 hre])
     have HT3:=Lh (hr.out.2.2.2.2.step hr.out.2.2.2.2.size (HTB2.out.step HTB2.out.size ht));clear hre ht;exact ⟨rfl,.inr ⟨x,HD3.out,rfl,HT3.out⟩⟩
    have HD3:Hid (R=drs el f' (l++[x]) ts'):=Lh (by rw [HD2.out,za3 hre])
    have hlt3:=HLT.out tr x ts' HPB2.out.good HNM.out hre;obtain ⟨A1,d1,rfl,hxc⟩:=hx.shape;have HTD:=Lh (HTB2.out.step HTB2.out.size ht);have hE:=hr.out.2.2.1.tw DirC.stays hpw HTD.out;have hws:w.heap.size<=wc.heap.size:=Nat.le_trans hr.out.2.2.2.2.size HTB2.out.size;have hwd:wc.heap.size<=wd.heap.size:=ht.size;have hxS:=DirC.stays.kept (w':=wd) (S':=fun b=>w.heap.size<=b/\b<wd.heap.size/\(Value.slice AL l.length c).ownBlock≠some b) hxc (fun _ _=>rfl) (fun b hb=>⟨by have:=hb.1; omega,hb.2,fun e=>by have h8:=(hr.out.2.2.1.own).lt b e; have h9:=HTB2.out.size; have:=hb.1; omega⟩)
    have HX:=Lh hxS;have HPD:=Lh hp;have HE:=Lh hE;have b0:Below wd.heap.size wd (wd.alloc (.cells #[.string x.name,.slice A1 x.args.length d1] 85 (0,0))):=za1 _ _;have HB0:=Lh b0;have HOWN:Hid ((wd.alloc (.cells #[.string x.name,.slice A1 x.args.length d1] 85 (0,0))).ownsRow w.heap.size 85 2 (.slice AL ll c) ll cells):=Lh (by
     have h8:=ze4 hE.own (fun g hg=>b0.block g hg);rw [<- HLL.out] at h8; exact h8)
    have HNEWS:Hid (∀ (j:Nat) (u:Value),([.string x.name,.slice A1 x.args.length d1]:List Value)[j]?=some u->(wd.alloc (.cells #[.string x.name,.slice A1 x.args.length d1] 85 (0,0))).cell? ((⟨wd.heap.size,0,none⟩ : Addr).add j)=some u):=Lh (ze5 wd [.string x.name,.slice A1 x.args.length d1] 85);have HONE:Hid (∀ u∈([.string x.name,.slice A1 x.args.length d1]:List Value),u.oneCell'=true):=Lh (by intro u hu; simp only [List.mem_cons,List.not_mem_nil,or_false] at hu; rcases hu with rfl | rfl <;> rfl)
    have HSZ:Hid (w.heap.size<=(wd.alloc (.cells #[.string x.name,.slice A1 x.args.length d1] 85 (0,0))).heap.size):=Lh (by rw [World.size_alloc]; omega)
    clear hre ht hx hxc hp hE hxS b0;go_wp2_with (at_builtin; refine za9 _ rfl _ _ 34 rfl w.heap.size 85 _ 2 40 Tryz.underlying34 infoDir rfl (by decide) _ ll cells rfl HOWN.out ⟨wd.heap.size,0,none⟩ 1 1 (by decide) [.string x.name,.slice A1 x.args.length d1] rfl rfl HNEWS.out HONE.out (by unfold maxLen; omega) (by omega) HSZ.out ?_; intro v' w' hown' hg' hf')
    have hpush:=Els.push (x:=x) DirC.stays HE.out HB0.out (by have:=HSZ.out; omega) HX.out (news:=[.string x.name,.slice A1 x.args.length d1]) (fun j hj=>rfl) (DirV.cong (Nat.le_refl _)) (by rw [<- HLL.out]; exact hown') (by rw [<- HLL.out]; exact hg') (by rw [<- HLL.out]; exact hf')
    have HE2:=Lh hpush.1;have HT2:Hid (Tw p w.heap.size w w'):=Lh ((hr.out.2.2.2.2.trans (HTD.out.mono hr.out.2.2.2.2.size)).trans (.of hpush.2));have HP2:=Lh (HPD.out.same (hpush.2.mono (by omega)))
    clear hpush hown' hg' hf'
    go_roundw
    case rel=>exact ⟨l++[x],ts',_,f',m',by rw [List.length_append,List.length_singleton]; omega,Lh ⟨HD3.out,by have:=hr.out.2.1; omega,HE2.out,HP2.out,HT2.out⟩⟩
    case measure=>rw [HP2.out.tlen,hr.out.2.2.2.1.tlen]; exact hlt3
theorem en_dirs:∀ (args:Array Value) (w:World),(callFunc 163 args).run Tryz.prog w=.ok (.enter 163 args) w:=enters_of Tryz.func163 (by kernel_rfl) rfl
theorem WPost.up {α:Type} {k bytes:Nat} {R:RelS α} (hR:StayS R) {W w w':World} {p:Nat} {r:Except Er (List α × List Tk)} {e:Ending} (hb:Below W.heap.size W w) (h:WPost (SlS k bytes R) w p r e w'):WPost (SlS k bytes R) W p r e w':=by
 have hs:=hb.size;rcases h with ⟨x,ts,v,m,hr,he,hx,hp,ht⟩ | ⟨z,hr,he,ht⟩
 ·exact .inl ⟨x,ts,v,m,hr,he,SlS.kept hR hx (fun _ _=>rfl) (fun b hb2=>⟨by have:=hb2.1; omega,hb2.2⟩),hp,(Tw.of hb:Tw p _ W w).step hs ht⟩
 ·exact .inr ⟨z,hr,he,(Tw.of hb:Tw p _ W w).step hs ht⟩
theorem congr2a {x0 x1 y0 y1:Value} (h0:x0=y0) (h1:x1=y1):(#[x0,x1]:Array Value)=#[y0,y1]:=by rw [h0,h1]
abbrev yh7:Array Oper :=
 #[{ dst:=some 3,op:=.move (.tmp 0),type := 102,pos := "parser.go:37",after:=#[],guard:=none },
  { dst:=some 4,op:=.nilCheck (.tmp 3),type:=0,pos := "parser.go:37",after:=#[{ on:=0,ground:=.data }],guard:=none },
  { dst:=some 5,op:=.fieldAddr 67 (.tmp 4) 0,type:=0,pos := "parser.go:37",after:=#[{ on:=1,ground:=.data }],guard:=none },
  { dst:=some 6,op:=.move (.tmp 0),type := 102,pos := "parser.go:37",after:=#[],guard:=none },
  { dst:=some 7,op:=.nilCheck (.tmp 6),type:=0,pos := "parser.go:37",after:=#[{ on:=3,ground:=.data }],guard:=none },
  { dst:=some 8,op:=.fieldAddr 67 (.tmp 7) 0,type:=0,pos := "parser.go:37",after:=#[{ on:=4,ground:=.data }],guard:=none },
  { dst:=some 9,op:=.makeFunc (Fn.func 164) #[.tmp 8] #[],type := 185,pos := "parser.go:37",after:=#[{ on:=5,ground:=.data }],guard:=none },
  { dst:=some 10,op:=.call { callee:=.value (.func 163),args:=#[.tmp 5,.tmp 9],argTypes:=#[65, 185] },type := 34,pos := "parser.go:37",after:=#[{ on:=2,ground:=.data }, { on:=6,ground:=.data }],guard:=none },
  { dst:=some 2,op:=.assign (.tmp 10),type := 34,pos := "parser.go:37",after:=#[{ on:=7,ground:=.data }, { on:=7,ground:=.chain }, { on:=0,ground:=.phase }, { on:=1,ground:=.phase }, { on:=2,ground:=.phase }, { on:=3,ground:=.phase }, { on:=4,ground:=.phase }, { on:=5,ground:=.phase }, { on:=6,ground:=.phase }, { on:=7,ground:=.phase }],guard:=none }]
theorem drwr {Q:Exit->Act->World->Prop} {id:Nat} {a0:Act} {W:World} {p:Nat} {R:Except Er (List DirT × List Tk)} (hB:∀ w,Below W.heap.size W w->Calls Tryz.prog 163 #[pP p,whV p] w (WPost DirsC w p R)) (hb:K.dstB yh7 a0.tmps.size 9=true) (s0:a0.tmps.getD 0 undef=pP p)
  (hok:∀ (f:Nat->Value) (w':World),(fun v w'=>WPost DirsC W p R (.returned v) w') (f 10) w'->f 2=f 10->Q .normal (K.over a0 [3,4,5,6,7,8,9,10,2] f) w') (her:∀ (a:Act) (w':World) (z:Er),a.defers=a0.defers->WPost DirsC W p R (badV z) w'->Q (.panic (malP z)) a w') :
  (Code.region id yh7 true).wp Tryz.prog Q a0 W:=by
 refine K.zc4 (by kernel_rfl) (by kernel_rfl) hb 7 (by kernel_rfl) (by decide) (by decide) (fun o ho=>by cases ho; exact ⟨⟨7,.data⟩,by simp,rfl,rfl⟩) [K.Fact.is (pP p),K.Fact.is (pP p),K.Fact.is (pP p),K.Fact.is (pP p),K.Fact.is (pP p),K.Fact.is (pP p),K.Fact.is (whV p)] (fun v w'=>WPost DirsC W p R (.returned v) w') ?_ ?_ (fun o ho a w hf hC=>by cases ho; exact zq4 rfl (.tmp 10) rfl rfl ⟨rfl,rfl⟩) ?_
 ·intro i o ho hi a w hf hbl had
  have hc:i=0∨i=1∨i=2∨i=3∨i=4∨i=5∨i=6:=by omega
  rcases hc with rfl | rfl | rfl | rfl | rfl | rfl | rfl
  ·cases ho
   have h0:a.tmps.getD 0 undef=pP p:=(hf.slot 0 (by kernel_rfl)).trans s0
   exact zc1 rfl (.tmp 0) rfl h0 ⟨Below.refl _ _,rfl⟩
  ·cases ho
   have h3:K.vof _ a 0=pP p:=had ⟨0,.data⟩ (by simp) rfl
   exact zk7 rfl (.tmp 3) rfl h3 ⟨Below.refl _ _,rfl⟩
  ·cases ho
   have h4:K.vof _ a 1=pP p:=had ⟨1,.data⟩ (by simp) rfl
   exact zn0 rfl (.tmp 4) rfl h4 ⟨Below.refl _ _,rfl⟩
  ·cases ho
   have h0:a.tmps.getD 0 undef=pP p:=(hf.slot 0 (by kernel_rfl)).trans s0
   exact zc1 rfl (.tmp 0) rfl h0 ⟨Below.refl _ _,rfl⟩
  ·cases ho
   have h6:K.vof _ a 3=pP p:=had ⟨3,.data⟩ (by simp) rfl
   exact zk7 rfl (.tmp 6) rfl h6 ⟨Below.refl _ _,rfl⟩
  ·cases ho
   have h7:K.vof _ a 4=pP p:=had ⟨4,.data⟩ (by simp) rfl
   exact zn0 rfl (.tmp 7) rfl h7 ⟨Below.refl _ _,rfl⟩
  ·cases ho
   have h8:K.vof _ a 5=pP p:=had ⟨5,.data⟩ (by simp) rfl
   exact rp_mk rfl 164 (.tmp 8) rfl h8 ⟨Below.refl _ _,rfl⟩
 ·intro o ho a w hf hbl hF
  cases ho
  have h2:K.vof _ a 2=pP p:=hF 2 (by omega)
  have h6:K.vof _ a 6=whV p:=hF 6 (by omega)
  refine ze1 rfl _ _ _ rfl en_dirs #[pP p,whV p] (by rw [K.map2]; exact congr2a h2 h6) ((hB w hbl).mono fun e w' hw=>?_)
  have hw2:=WPost.up DirC.stays hbl hw;rcases hw with ⟨x,ts,v,m,hr,he,_⟩ | ⟨z,hr,he,ht⟩
  ·subst he; exact .inl ⟨v,rfl,hw2⟩
  ·subst he; exact .inr ⟨malP z,rfl,her a w' z hf.1 hw2⟩
 ·intro a w hf hC h1
  rw [K.zh8 hf [3,4,5,6,7,8,9,10,2] (by kernel_rfl)]
  exact hok (fun d=>a.tmps.getD d undef) w hC (h1 (by decide))
theorem zb8 (p:Nat) (el:List Tk->Except Er (DirT × List Tk)) (hel:∀ (W:World) (ts:List Tk) (m:Nat),PSt W p ts m->isSg [64] ts=true->Calls Tryz.prog 202 #[pP p,whV p] W (WPost DirV W p (el ts)))
  (hlt:∀ (ts:List Tk) (x:DirT) (ts':List Tk),Good ts->isSg [64] ts=true->el ts=.ok (x,ts')->ts'.length<ts.length) (w:World) (ts:List Tk) (n:Nat) (h:PSt w p ts n) :
  Calls Tryz.prog 114 #[pP p] w (WPost DirsC w p (drsR el ts)):=by
 have HB:=Lh (fun (W:World) (hb:Below w.heap.size w W)=>zy6 p el hel hlt W ts n (h.stay hb));clear h hel hlt
 go_enter Tryz.func114, Tryz.ntmps114
 go_wp2_with fail
 refine drwr HB.out (by kernel_rfl) rfl ?_ fun a w' z hd hz=>⟨hd.trans rfl,hz⟩
 intro f w' hC h8;simp only [K.over,List.foldl_cons,List.foldl_nil,Act.put,List.setIfInBounds_toArray,List.set_cons_succ,List.set_cons_zero]
 rw [h8];clear h8;generalize f 10=v10 at *;generalize f 3=u3 at *;generalize f 4=u4 at *;generalize f 5=u5 at *;generalize f 6=u6 at *;generalize f 7=u7 at *;generalize f 8=u8 at *;generalize f 9=u9 at *;go_wp2_with fail
 exact bodyPost_ret (v:=v10) (by simp [results,Tryz.results114,go_sem]) rfl hC
end Go.Proofs.YtfgelheiknmjgaaGreatDoor
