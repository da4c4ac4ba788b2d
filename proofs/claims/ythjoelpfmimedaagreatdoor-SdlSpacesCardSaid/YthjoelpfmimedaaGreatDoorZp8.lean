
/-
 Texts joined: E4 E4r Distinct Cmp Compare Make Name Right.
-/
import Derived.Test.YthjoelpfmimedaaGreatDoorZp7
import Derived.Maps.Own
import Derived.StringKeys
import Derived.Maps.OwnOps
import Derived.Maps.OwnSet
import Derived.Test.YthjoelpfmimedaaGreatDoorZp4
import Derived.Lib.Bytealg
import Derived.Lib.Small
import Derived.Test.YthjoelpfmimedaaGreatDoorZp2
import Derived.Deep.RegionHeld3
namespace Go.Proofs.YthjoelpfmimedaaGreatDoor
open Go.RowKit
def WPost {α:Type} (R:World → (Nat → Prop) → Value → α → Prop) (w:World) (p:Nat) (r:Except Er (α × List Tk)) (e:Ending) (w':World):Prop :=
 (∃ x ts v m,r = .ok (x,ts) ∧ e = .returned v ∧ R w' (fun b => w.heap.size ≤ b ∧ b < w'.heap.size) v x ∧ PSt w' p ts m ∧ Tw p w.heap.size w w') ∨ (∃ x,r = .error x ∧ e = badV x ∧ Tw p w.heap.size w w')
def tlen (p:Nat) (w:World):Nat:=match w.cell? ⟨p,0,none⟩ with
 | some (.slice _ l _) => l
 | _ => 0
theorem PSt.tlen {w:World} {p:Nat} {ts:List Tk} {n:Nat} (h:PSt w p ts n):tlen p w = ts.length:=by
 obtain ⟨A,c,hb,_⟩:=h.box
 have:=hb.cell 0 _ rfl
 unfold Go.Proofs.YthjoelpfmimedaaGreatDoor.tlen
 rw [this]
 rfl
theorem ze1 (w:World) (news:List Value) (T:TypeId):∀ (j:Nat) (u:Value),news[j]? = some u → (w.alloc (.cells news.toArray T (0,0))).cell? ((⟨w.heap.size,0,none⟩ : Addr).add j) = some u:=by
 intro j u h
 obtain ⟨h1,rfl⟩:=List.getElem?_eq_some_iff.1 h
 exact (zq4 w news.toArray T j (by simpa using h1)).trans (by simp)
def exB {α β:Type} (r:Except Er α) (k : α → Except Er β):Except Er β:=match r with
 | .error e => .error e
 | .ok x => k x
theorem za4 {α β:Type} {r:Except Er α} {k : α → Except Er β} {x : α} (h:r = .ok x):exB r k = k x:=by rw [h]; rfl
theorem za5 {α β:Type} {r:Except Er α} {k : α → Except Er β} {x:Er} (h:r = .error x):exB r k = .error x:=by rw [h]; rfl
def bls {α:Type} (cl:List UInt8) (most:Nat) (el:List Tk → Except Er (α × List Tk)):Nat → List α → List Tk → Except Er (List α × List Tk)
 | 0,_,_ => .error (0,99)
 | f + 1,l,ts => if l.length ≠ 0 ∧ isSg cl ts = true then .ok (l,ts.tail) else exB (bgR (isNm ts) l.length most ts) fun _ => exB (el ts) fun q => bls cl most el f (l ++ [q.1]) q.2
theorem zd7 {α:Type} (cl:List UInt8) (most:Nat) (el:List Tk → Except Er (α × List Tk)) (f:Nat) (l:List α) (ts:List Tk):bls cl most el (f + 1) l ts = if l.length ≠ 0 ∧ isSg cl ts = true then .ok (l,ts.tail) else exB (bgR (isNm ts) l.length most ts) fun _ => exB (el ts) fun q => bls cl most el f (l ++ [q.1]) q.2:=rfl
def blR {α:Type} (op cl:List UInt8) (most:Nat) (el:List Tk → Except Er (α × List Tk)) (ts:List Tk):Except Er (List α × List Tk):=exB (sgR op ts) fun ts1 => bls cl most el (ts1.length + 1) [] ts1
def nms (sep:List UInt8):Nat → List ByteArray → List Tk → Except Er (List ByteArray × List Tk)
 | 0,_,_ => .error (0,99)
 | f + 1,l,ts => if l.length ≠ 0 ∧ isSg sep ts = false then .ok (l,ts) else
   exB (bgR (isNm (if l.length = 0 then ts else ts.tail)) l.length 64 (if l.length = 0 then ts else ts.tail)) fun _ => exB (nmR (if l.length = 0 then ts else ts.tail)) fun q => nms sep f (l ++ [q.1]) q.2
theorem zi2 (sep:List UInt8) (f:Nat) (l:List ByteArray) (ts:List Tk):nms sep (f + 1) l ts = if l.length ≠ 0 ∧ isSg sep ts = false then .ok (l,ts) else
  exB (bgR (isNm (if l.length = 0 then ts else ts.tail)) l.length 64 (if l.length = 0 then ts else ts.tail)) fun _ => exB (nmR (if l.length = 0 then ts else ts.tail)) fun q => nms sep f (l ++ [q.1]) q.2:=rfl
def nmsR (sep:List UInt8) (ts:List Tk):Except Er (List ByteArray × List Tk):=nms sep (ts.length + 1) [] ts
theorem zo0 {c:Bool} {a m:Nat} {ts:List Tk} (h:bgR c a m ts = .ok ()) (hm:a ≤ m):c = true ∧ a < m:=by
 unfold bgR at h
 split at h
 ·split at h
  ·cases h
  ·next h1 h2 => exact ⟨h1,by omega⟩
 ·cases h
theorem ye7 {ts ts':List Tk} {x:ByteArray} (hg:Good ts) (h:nmR ts = .ok (x,ts')):ts'.length < ts.length:=by
 obtain ⟨t,r,rfl⟩:=hg.ne
 unfold nmR at h
 split at h
 ·cases h; simp
 ·cases h
def FldV (w:World) (S:Nat → Prop) (v:Value) (x:FldT):Prop:=∃ c0 c1 c2 c3 c4,v = .agg #[c0,c1,c2,c3,c4] ∧ FldC w S (fun j => [c0,c1,c2,c3,c4].getD j undef) x
theorem FldV.cong {k:Nat} (hk:5 ≤ k) (W:World) (S:Nat → Prop) (g g':Nat → Value) (y:FldT) (h:∀ j,j < k → g j = g' j) (hr:FldC W S g y):FldC W S g' y:=by
 have hh:∀ j,j < 5 → g j = g' j:=fun j hj => h j (by omega)
 obtain ⟨a0,a1,a2,a3,a4⟩:=hr
 simp only [hh 0 (by omega),hh 1 (by omega),hh 2 (by omega),hh 3 (by omega),hh 4 (by omega)] at *
 constructor <;> assumption
theorem FldV.shape {w:World} {S:Nat → Prop} {v:Value} {x:FldT} (h:FldV w S v x):∃ A1 A3 A4 d1 d3 d4,v = .agg #[.string x.name,.slice A1 x.args.length d1,.string x.tn,.slice A3 x.tw.length d3,.slice A4 x.dirs.length d4] ∧ FldC w S (fun j => [.string x.name,.slice A1 x.args.length d1,.string x.tn,.slice A3 x.tw.length d3,.slice A4 x.dirs.length d4].getD j undef) x:=by
 obtain ⟨c0,c1,c2,c3,c4,rfl,hx⟩:=h
 obtain ⟨A1,d1,e1,_,_⟩:=hx.args.form
 obtain ⟨A3,d3,e3,_,_⟩:=hx.type.wraps.form
 obtain ⟨A4,d4,e4,_,_⟩:=hx.dirs.form
 have e0:=hx.name
 have e2:=hx.type.name
 replace e0:c0 = .string x.name:=e0
 replace e1:c1 = .slice A1 x.args.length d1:=e1
 replace e2:c2 = .string x.tn:=e2
 replace e3:c3 = .slice A3 x.tw.length d3:=e3
 replace e4:c4 = .slice A4 x.dirs.length d4:=e4
 subst e0 e1 e2 e3 e4
 exact ⟨_,_,_,_,_,_,rfl,hx⟩
def MemV (w:World) (S:Nat → Prop) (v:Value) (x:MemT):Prop:=∃ c0 c1,v = .agg #[c0,c1] ∧ MemC w S (fun j => [c0,c1].getD j undef) x
theorem MemV.cong {k:Nat} (hk:2 ≤ k) (W:World) (S:Nat → Prop) (g g':Nat → Value) (y:MemT) (h:∀ j,j < k → g j = g' j) (hr:MemC W S g y):MemC W S g' y:=by
 have hh:∀ j,j < 2 → g j = g' j:=fun j hj => h j (by omega)
 obtain ⟨a0,a1,a2⟩:=hr
 simp only [hh 0 (by omega),hh 1 (by omega)] at *
 constructor <;> assumption
theorem MemV.shape {w:World} {S:Nat → Prop} {v:Value} {x:MemT} (h:MemV w S v x):∃ A1 d1,v = .agg #[.string x.name,.slice A1 x.dirs.length d1] ∧ MemC w S (fun j => [.string x.name,.slice A1 x.dirs.length d1].getD j undef) x:=by
 obtain ⟨c0,c1,rfl,hx⟩:=h
 obtain ⟨A1,d1,e1,_,_⟩:=hx.dirs.form
 have e0:=hx.name
 replace e0:c0 = .string x.name:=e0
 replace e1:c1 = .slice A1 x.dirs.length d1:=e1
 subst e0 e1
 exact ⟨_,_,rfl,hx⟩
def DirV (w:World) (S:Nat → Prop) (v:Value) (x:DirT):Prop:=∃ c0 c1,v = .agg #[c0,c1] ∧ DirC w S (fun j => [c0,c1].getD j undef) x
theorem DirV.cong {k:Nat} (hk:2 ≤ k) (W:World) (S:Nat → Prop) (g g':Nat → Value) (y:DirT) (h:∀ j,j < k → g j = g' j) (hr:DirC W S g y):DirC W S g' y:=by
 have hh:∀ j,j < 2 → g j = g' j:=fun j hj => h j (by omega)
 obtain ⟨a0,a1,a2⟩:=hr
 simp only [hh 0 (by omega),hh 1 (by omega)] at *
 constructor <;> assumption
theorem DirV.shape {w:World} {S:Nat → Prop} {v:Value} {x:DirT} (h:DirV w S v x):∃ A1 d1,v = .agg #[.string x.name,.slice A1 x.args.length d1] ∧ DirC w S (fun j => [.string x.name,.slice A1 x.args.length d1].getD j undef) x:=by
 obtain ⟨c0,c1,rfl,hx⟩:=h
 obtain ⟨A1,d1,e1,_,_⟩:=hx.args.form
 have e0:=hx.name
 replace e0:c0 = .string x.name:=e0
 replace e1:c1 = .slice A1 x.args.length d1:=e1
 subst e0 e1
 exact ⟨_,_,rfl,hx⟩
def InpV (w:World) (S:Nat → Prop) (v:Value) (x:InpT):Prop:=∃ c0 c1 c2 c3 c4 c5 c6 c7 c8 c9,v = .agg #[c0,c1,c2,c3,c4,c5,c6,c7,c8,c9] ∧ InpC w S (fun j => [c0,c1,c2,c3,c4,c5,c6,c7,c8,c9].getD j undef) x
theorem InpV.cong {k:Nat} (hk:10 ≤ k) (W:World) (S:Nat → Prop) (g g':Nat → Value) (y:InpT) (h:∀ j,j < k → g j = g' j) (hr:InpC W S g y):InpC W S g' y:=by
 have hh:∀ j,j < 10 → g j = g' j:=fun j hj => h j (by omega)
 obtain ⟨a0,a1,a2,a3,a4,a5⟩:=hr
 simp only [hh 0 (by omega),hh 1 (by omega),hh 2 (by omega),hh 3 (by omega),hh 4 (by omega),hh 5 (by omega),hh 6 (by omega),hh 7 (by omega),hh 8 (by omega),hh 9 (by omega)] at *
 constructor <;> assumption
theorem InpV.shape {w:World} {S:Nat → Prop} {v:Value} {x:InpT} (h:InpV w S v x):∃ A A2 A9 KA ci ck d2 d9 k li lk s z,v = .agg #[.string x.name,.string x.tn,.slice A2 x.tw.length d2,.bool x.has,.int .i64 k,.int .i64 z,.string s,.slice A li ci,.slice KA lk ck,.slice A9 x.dirs.length d9] ∧ InpC w S (fun j => [.string x.name,.string x.tn,.slice A2 x.tw.length d2,.bool x.has,.int .i64 k,.int .i64 z,.string s,.slice A li ci,.slice KA lk ck,.slice A9 x.dirs.length d9].getD j undef) x:=by
 obtain ⟨c0,c1,c2,c3,c4,c5,c6,c7,c8,c9,rfl,hx⟩:=h
 obtain ⟨k,z,s,A,li,ci,KA,lk,ck,ev⟩:=hx.val.form
 simp only [Value.agg.injEq,Array.mk.injEq,List.cons.injEq,and_true] at ev
 obtain ⟨e4,e5,e6,e7,e8⟩:=ev
 obtain ⟨A2,d2,e2,_,_⟩:=hx.type.wraps.form
 obtain ⟨A9,d9,e9,_,_⟩:=hx.dirs.form
 have e0:=hx.name
 have e1:=hx.type.name
 have e3:=hx.has
 replace e0:c0 = .string x.name:=e0
 replace e1:c1 = .string x.tn:=e1
 replace e2:c2 = .slice A2 x.tw.length d2:=e2
 replace e3:c3 = .bool x.has:=e3
 replace e4:c4 = .int .i64 k:=e4
 replace e5:c5 = .int .i64 z:=e5
 replace e6:c6 = .string s:=e6
 replace e7:c7 = .slice A li ci:=e7
 replace e8:c8 = .slice KA lk ck:=e8
 replace e9:c9 = .slice A9 x.dirs.length d9:=e9
 subst e0 e1 e2 e3 e4 e5 e6 e7 e8 e9
 exact ⟨_,_,_,_,_,_,_,_,_,_,_,_,_,rfl,hx⟩
def ArgV (w:World) (S:Nat → Prop) (v:Value) (x:(ByteArray × VT)):Prop:=∃ c0 c1 c2 c3 c4 c5,v = .agg #[c0,c1,c2,c3,c4,c5] ∧ ArgC w S (fun j => [c0,c1,c2,c3,c4,c5].getD j undef) x
theorem ArgV.cong {k:Nat} (hk:6 ≤ k) (W:World) (S:Nat → Prop) (g g':Nat → Value) (y:(ByteArray × VT)) (h:∀ j,j < k → g j = g' j) (hr:ArgC W S g y):ArgC W S g' y:=by
 have hh:∀ j,j < 6 → g j = g' j:=fun j hj => h j (by omega)
 obtain ⟨a0,a1,a2⟩:=hr
 simp only [hh 0 (by omega),hh 1 (by omega),hh 2 (by omega),hh 3 (by omega),hh 4 (by omega),hh 5 (by omega)] at *
 constructor <;> assumption
theorem ArgV.shape {w:World} {S:Nat → Prop} {v:Value} {x:(ByteArray × VT)} (h:ArgV w S v x):∃ A KA ci ck k li lk s z,v = .agg #[.string x.1,.int .i64 k,.int .i64 z,.string s,.slice A li ci,.slice KA lk ck] ∧ ArgC w S (fun j => [.string x.1,.int .i64 k,.int .i64 z,.string s,.slice A li ci,.slice KA lk ck].getD j undef) x:=by
 obtain ⟨c0,c1,c2,c3,c4,c5,rfl,hx⟩:=h
 obtain ⟨k,z,s,A,li,ci,KA,lk,ck,ev⟩:=hx.val.form
 simp only [Value.agg.injEq,Array.mk.injEq,List.cons.injEq,and_true] at ev
 obtain ⟨e1,e2,e3,e4,e5⟩:=ev
 have e0:=hx.name
 replace e0:c0 = .string x.1:=e0
 replace e1:c1 = .int .i64 k:=e1
 replace e2:c2 = .int .i64 z:=e2
 replace e3:c3 = .string s:=e3
 replace e4:c4 = .slice A li ci:=e4
 replace e5:c5 = .slice KA lk ck:=e5
 subst e0 e1 e2 e3 e4 e5
 exact ⟨_,_,_,_,_,_,_,_,_,rfl,hx⟩
def DefV (w:World) (S:Nat → Prop) (v:Value) (x:DefT):Prop:=∃ c0 c1 c2 c3 c4 c5 c6,v = .agg #[c0,c1,c2,c3,c4,c5,c6] ∧ DefC w S (fun j => [c0,c1,c2,c3,c4,c5,c6].getD j undef) x
theorem DefV.cong {k:Nat} (hk:7 ≤ k) (W:World) (S:Nat → Prop) (g g':Nat → Value) (y:DefT) (h:∀ j,j < k → g j = g' j) (hr:DefC W S g y):DefC W S g' y:=by
 have hh:∀ j,j < 7 → g j = g' j:=fun j hj => h j (by omega)
 obtain ⟨a0,a1,a2,a3,a4,a5,a6,a7,a8⟩:=hr
 simp only [hh 0 (by omega),hh 1 (by omega),hh 2 (by omega),hh 3 (by omega),hh 4 (by omega),hh 5 (by omega),hh 6 (by omega)] at *
 constructor <;> assumption
theorem DefV.shape {w:World} {S:Nat → Prop} {v:Value} {x:DefT} (h:DefV w S v x):∃ A2 A3 A4 A5 A6 d2 d3 d4 d5 d6,v = .agg #[.int .i64 x.kind,.string x.name,.slice A2 x.impl.length d2,.slice A3 x.dirs.length d3,.slice A4 x.fields.length d4,.slice A5 x.members.length d5,.slice A6 x.inputs.length d6] ∧ DefC w S (fun j => [.int .i64 x.kind,.string x.name,.slice A2 x.impl.length d2,.slice A3 x.dirs.length d3,.slice A4 x.fields.length d4,.slice A5 x.members.length d5,.slice A6 x.inputs.length d6].getD j undef) x:=by
 obtain ⟨c0,c1,c2,c3,c4,c5,c6,rfl,hx⟩:=h
 obtain ⟨A2,d2,e2,_,_⟩:=hx.impl.form
 obtain ⟨A3,d3,e3,_,_⟩:=hx.dirs.form
 obtain ⟨A4,d4,e4,_,_⟩:=hx.fields.form
 obtain ⟨A5,d5,e5,_,_⟩:=hx.members.form
 obtain ⟨A6,d6,e6,_,_⟩:=hx.inputs.form
 have e0:=hx.kind
 have e1:=hx.name
 replace e0:c0 = .int .i64 x.kind:=e0
 replace e1:c1 = .string x.name:=e1
 replace e2:c2 = .slice A2 x.impl.length d2:=e2
 replace e3:c3 = .slice A3 x.dirs.length d3:=e3
 replace e4:c4 = .slice A4 x.fields.length d4:=e4
 replace e5:c5 = .slice A5 x.members.length d5:=e5
 replace e6:c6 = .slice A6 x.inputs.length d6:=e6
 subst e0 e1 e2 e3 e4 e5 e6
 exact ⟨_,_,_,_,_,_,_,_,_,_,rfl,hx⟩
end Go.Proofs.YthjoelpfmimedaaGreatDoor
namespace Go.Proofs.YthjoelpfmimedaaGreatDoor
open Go.RowKit
theorem zd9 {P:Program} {ops:Array Oper} {Q:Exit → Act → World → Prop} {o:Oper} {a:Act} {w:World} {R:Value → World → Prop} (hw:Region.wanted o (yielded ops a.tmps) = true) (f:FuncId) (xs:Array Operand) (ts:Array TypeId)
  (ho:o.op = .call { callee:=.value (.func f),args:=xs,argTypes:=ts }) (hen:∀ (args:Array Value) (w:World),(callFunc f args).run P w = .ok (.enter f args) w) (vs:Array Value) (hx:xs.map a.eval = vs)
  (hc:Calls P f vs w fun e w' => (∃ v,e = .returned v ∧ R v w') ∨ ∃ ch,e = .panicked ch ∧ Q (.panic ch) a w'):K.Runs P ops Q o a w R:=by
 refine ⟨hw, ?_⟩
 unfold Oper.wp
 have he:(execOp a.eval o).run P w = .ok (.enter f vs) w:=by
  simp [execOp,ho,go_sem,hx,hen]
 rw [he]
 refine hc.mono fun e w' h => ?_
 rcases h with ⟨v,hv,hr⟩ | ⟨ch,hv,hq⟩
 ·subst hv; exact ⟨v,rfl,hr⟩
 ·subst hv; exact hq
theorem map4 {α β:Type} (f : α → β) (x y z u : α):(#[x,y,z,u]:Array α).map f = #[f x,f y,f z,f u]:=by simp
theorem yh4 {x0 x1 x2 x3 y0 y1 y2 y3:Value} (h0:x0 = y0) (h1:x1 = y1) (h2:x2 = y2) (h3:x3 = y3):(#[x0,x1,x2,x3]:Array Value) = #[y0,y1,y2,y3]:=by rw [h0,h1,h2,h3]
theorem Bk.setl {W:World} {b:Nat} {l:List Value} {T:TypeId} (h:Bk W b l.toArray T) (i:Nat) (u:Value):Bk (W.setCell ⟨b,i,none⟩ u) b (l.set i u).toArray T:=by
 have:=h.set i u
 rwa [List.setIfInBounds_toArray] at this
section
variable {ops:Array Oper} {Q:Exit → Act → World → Prop} {o:Oper} {a:Act} {w:World} {R:Value → World → Prop}
theorem zo9 (hw:Region.wanted o (yielded ops a.tmps) = true) (x:Operand) {v:Value} (ho:o.op = .assign x) (hx:a.eval x = v) (h:R v w):K.Runs Tryz.prog ops Q o a w R :=
 K.za9 hw (by generalize a.eval = ρ at hx; simp [execOp,ho,go_sem,hx]) h
theorem rp_lenS (hw:Region.wanted o (yielded ops a.tmps) = true) (x:Operand) {A:Option Addr} {l c:Nat} (ho:o.op = .call { callee:=.builtin .len,args:=#[x],argTypes:=#[39] }) (hx:a.eval x = .slice A l c) (h:R (.int .i64 l) w):K.Runs Tryz.prog ops Q o a w R :=
 K.za9 hw (by generalize a.eval = ρ at hx; simp [execOp,ho,go_sem,hx]) h
theorem rp_lenD (hw:Region.wanted o (yielded ops a.tmps) = true) (x:Operand) {A:Option Addr} {l c:Nat} (ho:o.op = .call { callee:=.builtin .len,args:=#[x],argTypes:=#[22] }) (hx:a.eval x = .slice A l c) (h:R (.int .i64 l) w):K.Runs Tryz.prog ops Q o a w R :=
 K.za9 hw (by generalize a.eval = ρ at hx; simp [execOp,ho,go_sem,hx]) h
theorem rp_mk (hw:Region.wanted o (yielded ops a.tmps) = true) (f:FuncId) (x:Operand) {v:Value} (ho:o.op = .makeFunc (.func f) #[x] #[]) (hx:a.eval x = v) (h:R (.func (.func f) #[v] #[]) w):K.Runs Tryz.prog ops Q o a w R :=
 K.za9 hw (by generalize a.eval = ρ at hx; simp [execOp,ho,go_sem,hx]) h
theorem rp_faD (hw:Region.wanted o (yielded ops a.tmps) = true) (x:Operand) {g:Nat} (ho:o.op = .fieldAddr 24 x 0) (hx:a.eval x = .pointer (some ⟨g,0,none⟩)) (h:R (.pointer (some ⟨g,0,none⟩)) w):K.Runs Tryz.prog ops Q o a w R :=
 K.za9 hw (by generalize a.eval = ρ at hx; simp [execOp,ho,go_sem,hx]) h
theorem rp_ldD (hw:Region.wanted o (yielded ops a.tmps) = true) (x:Operand) {g i:Nat} {v:Value} (ho:o.op = .load 22 x) (hx:a.eval x = .pointer (some ⟨g,i,none⟩)) (hc:w.cell? ⟨g,i,none⟩ = some v) (h:R v w):K.Runs Tryz.prog ops Q o a w R :=
 K.za9 hw (by generalize a.eval = ρ at hx; simp [execOp,ho,go_sem,hx,hc]) h
theorem rp_ne0 (hw:Region.wanted o (yielded ops a.tmps) = true) (x:Operand) {n:Nat} {b:Bool} (ho:o.op = .binOp .neq 3 x (.const (.int .i64 0)) 3) (hx:a.eval x = .int .i64 n) (hb:decide (n ≠ 0) = b) (h:R (.bool b) w):K.Runs Tryz.prog ops Q o a w R :=
 K.rc_neq hw x (.const (.int .i64 0)) ho hx rfl (by rw [← hb]; rw [Bool.eq_iff_iff]; simp) h
end
theorem yg6:∀ (args:Array Value) (w:World),(callFunc 172 args).run Tryz.prog w = .ok (.enter 172 args) w:=enters_of Tryz.func172 (by kernel_rfl) rfl
theorem zT2:∀ (args:Array Value) (w:World),(callFunc 55 args).run Tryz.prog w = .ok (.enter 55 args) w:=enters_of Tryz.func55 (by kernel_rfl) rfl
abbrev zm7:Array Oper :=
 #[{ dst:=some 16,op:=.move (.tmp 0),type := 108,pos := "parser.go:31",after:=#[],guard:=none },
  { dst:=some 17,op:=.nilCheck (.tmp 16),type:=0,pos := "parser.go:31",after:=#[{ on:=0,ground:=.data }],guard:=none },
  { dst:=some 18,op:=.fieldAddr 72 (.tmp 17) 0,type:=0,pos := "parser.go:31",after:=#[{ on:=1,ground:=.data }],guard:=none },
  { dst:=some 19,op:=.move (.tmp 0),type := 108,pos := "parser.go:31",after:=#[],guard:=none },
  { dst:=some 20,op:=.nilCheck (.tmp 19),type:=0,pos := "parser.go:31",after:=#[{ on:=3,ground:=.data }],guard:=none },
  { dst:=some 21,op:=.fieldAddr 72 (.tmp 20) 0,type:=0,pos := "parser.go:31",after:=#[{ on:=4,ground:=.data }],guard:=none },
  { dst:=some 22,op:=.call { callee:=.value (.func 172),args:=#[.tmp 21],argTypes:=#[70] },type := 4,pos := "parser.go:31",after:=#[{ on:=5,ground:=.data }],guard:=none },
  { dst:=some 23,op:=.move (.tmp 5),type := 39,pos := "parser.go:31",after:=#[],guard:=none },
  { dst:=some 24,op:=.call { callee:=.builtin Builtin.len,args:=#[.tmp 23],argTypes:=#[39] },type := 3,pos := "parser.go:31",after:=#[{ on:=7,ground:=.data }],guard:=none },
  { dst:=some 25,op:=.call { callee:=.value (.func 55),args:=#[.tmp 18,.tmp 22,.tmp 24,.const (.int .i64 64)],argTypes:=#[70, 4, 3, 3] },type:=0,pos := "parser.go:31",after:=#[{ on:=2,ground:=.data }, { on:=6,ground:=.data }, { on:=8,ground:=.data }, { on:=6,ground:=.chain }],guard:=none }]
theorem zs7 {Q:Exit → Act → World → Prop} {id:Nat} {a0:Act} {W:World} {p:Nat} {ts:List Tk} {n:Nat} (h:PSt W p ts n) {A:Option Addr} {l c:Nat} (hb:K.dstB zm7 a0.tmps.size 10 = true) (s0:a0.tmps.getD 0 undef = pP p) (s5:a0.tmps.getD 5 undef = .slice A l c)
  (hok:∀ (f:Nat → Value) (w':World),(fun _ w' => bgR (isNm ts) l 64 ts = .ok () ∧ Below W.heap.size W w') (f 25) w' → Q .normal (K.over a0 [16,17,18,19,20,21,22,23,24,25] f) w') (her:∀ (a:Act) (w':World) (z:Er),a.defers = a0.defers → (bgR (isNm ts) l 64 ts = .error z ∧ Tw p W.heap.size W w') → Q (.panic (malP z)) a w') :
  (Code.region id zm7 true).wp Tryz.prog Q a0 W:=by
 refine K.zc4 (by kernel_rfl) (by kernel_rfl) hb 9 (by kernel_rfl) (by decide) (by decide) (fun o ho => by cases ho) [K.Fact.is (pP p),K.Fact.is (pP p),K.Fact.is (pP p),K.Fact.is (pP p),K.Fact.is (pP p),K.Fact.is (pP p),K.Fact.is (.bool (isNm ts)),K.Fact.is (.slice A l c),K.Fact.is (.int .i64 (l:Nat))] (fun _ w' => bgR (isNm ts) l 64 ts = .ok () ∧ Below W.heap.size W w') ?_ ?_ (fun o ho => by cases ho) ?_
 ·intro i o ho hi a w hf hbl had
  have hc:i = 0 ∨ i = 1 ∨ i = 2 ∨ i = 3 ∨ i = 4 ∨ i = 5 ∨ i = 6 ∨ i = 7 ∨ i = 8:=by omega
  rcases hc with rfl | rfl | rfl | rfl | rfl | rfl | rfl | rfl | rfl
  ·cases ho
   have h0:a.tmps.getD 0 undef = pP p:=(hf.slot 0 (by kernel_rfl)).trans s0
   exact zc1 rfl (.tmp 0) rfl h0 ⟨Below.refl _ _,rfl⟩
  ·cases ho
   have h16:K.vof _ a 0 = pP p:=had ⟨0,.data⟩ (by simp) rfl
   exact zk3 rfl (.tmp 16) rfl h16 ⟨Below.refl _ _,rfl⟩
  ·cases ho
   have h17:K.vof _ a 1 = pP p:=had ⟨1,.data⟩ (by simp) rfl
   exact zm4 rfl (.tmp 17) rfl h17 ⟨Below.refl _ _,rfl⟩
  ·cases ho
   have h0:a.tmps.getD 0 undef = pP p:=(hf.slot 0 (by kernel_rfl)).trans s0
   exact zc1 rfl (.tmp 0) rfl h0 ⟨Below.refl _ _,rfl⟩
  ·cases ho
   have h19:K.vof _ a 3 = pP p:=had ⟨3,.data⟩ (by simp) rfl
   exact zk3 rfl (.tmp 19) rfl h19 ⟨Below.refl _ _,rfl⟩
  ·cases ho
   have h20:K.vof _ a 4 = pP p:=had ⟨4,.data⟩ (by simp) rfl
   exact zm4 rfl (.tmp 20) rfl h20 ⟨Below.refl _ _,rfl⟩
  ·cases ho
   have h21:K.vof _ a 5 = pP p:=had ⟨5,.data⟩ (by simp) rfl
   exact K.zI1 rfl _ _ _ rfl yg6 #[pP p] (by rw [K.map1]; exact congrArg (fun x => #[x]) h21) ((zf5 (h.stay hbl)).mono fun e w' ⟨he,hb2⟩ => ⟨_,he,hb2,rfl⟩)
  ·cases ho
   have h5:a.tmps.getD 5 undef = .slice A l c:=(hf.slot 5 (by kernel_rfl)).trans s5
   exact zc1 rfl (.tmp 5) rfl h5 ⟨Below.refl _ _,rfl⟩
  ·cases ho
   have h23:K.vof _ a 7 = .slice A l c:=had ⟨7,.data⟩ (by simp) rfl
   exact rp_lenS rfl (.tmp 23) rfl h23 ⟨Below.refl _ _,rfl⟩
 ·intro o ho a w hf hbl hF
  cases ho
  have h2:K.vof _ a 2 = pP p:=hF 2 (by omega)
  have h6:K.vof _ a 6 = .bool (isNm ts):=hF 6 (by omega)
  have h8:K.vof _ a 8 = .int .i64 (l:Nat):=hF 8 (by omega)
  refine zd9 rfl _ _ _ rfl zT2 #[pP p,.bool (isNm ts),.int .i64 (l:Nat),.int .i64 64] (by rw [map4]; exact yh4 h2 h6 h8 rfl) ((zg7 (h.stay hbl) (isNm ts) l 64 l 64 rfl rfl).mono fun e w' hw => ?_)
  rcases hw with ⟨hg,he,hb2⟩ | ⟨z,hg,he,ht⟩
  ·exact .inl ⟨_,he,hg,hbl.trans (hb2.mono hbl.size)⟩
  ·exact .inr ⟨malP z,he,her a w' z hf.1 ⟨hg,(Tw.of hbl:Tw p _ W w).step hbl.size ht⟩⟩
 ·intro a w hf hC h1
  rw [K.zh3 hf [16,17,18,19,20,21,22,23,24,25] (by kernel_rfl)]
  exact hok (fun d => a.tmps.getD d undef) w hC
end Go.Proofs.YthjoelpfmimedaaGreatDoor
namespace Go.Proofs.YthjoelpfmimedaaGreatDoor
open Go.RowKit Go.Maps
theorem zt3 {P:Program} (t k e:TypeId) (kd:IntKind) (n:Int) (ht:P.underlying t = some (.map k e)) (w:World) :
  (Instr.makeMap t (some (.int kd n))).run P w = .ok (.map (some w.heap.size)) (w.alloc (.map #[] 0)):=by
 simp [Instr.makeMap,run_underlying ht]; rfl
theorem zp4 {H:Type} {P:Program} {e:TypeId} (he:P.underlying e = some .bool) {v:Value} {z:DataW H × List MemPlace} (h:plainElem P e v = some z):∃ x,v = .bool x ∧ z = (.lit (.bool x),[]):=by
 unfold plainElem at h
 rw [he] at h
 cases v <;> simp at h
 exact ⟨_,rfl,h.symm⟩
theorem yi1 {H:Type} (u z:DataW H) (k:Lit):∀ (acc:List Lit) (m:DataW H),IsMap m → (∀ x ∈ acc,WideAt.IsKeyLit x) → (acc.foldl (fun m x => m.put x u) m).atKey k z = if acc.any (fun x => x.sameKey k) then u else m.atKey k z
 | [],m,_,_ => by simp
 | x :: r,m,hm,h => by
   rw [List.foldl_cons,yi1 u z k r (m.put x u) (hm.put x u) (fun y hy => h y (by simp [hy])),List.any_cons]
   by_cases e:k = x
   ·subst e
    rw [atKey_put_same hm (h k (by simp)),WideAt.sameKey_self (h k (by simp))]
    simp
   ·rw [atKey_put_other e,sameKey_ne (fun e' => e e'.symm)]
    simp
instance decBA:DecidableEq ByteArray:=fun a b => decidable_of_iff (a.data = b.data) ⟨fun h => by cases a; cases b; simp at h; subst h; rfl,fun h => by rw [h]⟩
instance memBA (s:ByteArray) (l:List ByteArray):Decidable (s ∈ l):=decidable_of_iff (l.any (fun a => decide (a = s)) = true) (by simp)
def lits (l:List ByteArray):List Lit:=l.map fun s => .string s.data.toList
def setD (l:List ByteArray):DataW Unit:=setOf (.lit (.bool true)) (lits l)
theorem lit_inj {a b:ByteArray}:(Lit.string a.data.toList = Lit.string b.data.toList) ↔ a = b:=by
 constructor
 ·intro h
  injection h with h
  obtain ⟨a⟩:=a; obtain ⟨b⟩:=b
  simp only [ByteArray.mk.injEq]
  exact Array.toList_inj.1 h
 ·rintro rfl; rfl
theorem yf0 (s:ByteArray):WideAt.IsKeyLit (.string s.data.toList):=by first | exact trivial | simp [WideAt.IsKeyLit]
theorem any_lits (l:List ByteArray) (s:ByteArray):(lits l).any (fun x => x.sameKey (.string s.data.toList)) = decide (s ∈ l):=by
 unfold lits
 induction l with
 | nil => simp
 | cons a r ih =>
   rw [List.map_cons,List.any_cons,ih]
   by_cases e:a = s
   ·subst e; rw [WideAt.sameKey_self (yf0 a)]; simp
   ·rw [sameKey_ne (fun h => e (lit_inj.1 h))]
    have e2:¬ s = a:=fun h => e h.symm
    simp [e2]
theorem ya1 (l:List ByteArray) (s:ByteArray):(setD l).atKey (.string s.data.toList) (.lit (.bool false)) = .lit (.bool (decide (s ∈ l))):=by
 unfold setD setOf
 rw [yi1 _ _ _ _ _ isMap_empty (fun x hx => by obtain ⟨s,_,rfl⟩:=List.mem_map.1 hx; exact yf0 s),any_lits]
 by_cases h:s ∈ l
 ·simp [h]
 ·simp [h,DataW.atKey]
theorem zH8 (l:List ByteArray) (s:ByteArray):setD (l ++ [s]) = (setD l).put (.string s.data.toList) (.lit (.bool true)):=by
 unfold setD lits; rw [List.map_append]; exact setOf_snoc _ _ _
theorem zB7 {l:List ByteArray} {k:Nat} (h:k < l.length):(l.take (k + 1)).Nodup ↔ (l.take k).Nodup ∧ l[k] ∉ l.take k:=by
 rw [List.take_succ_eq_append_getElem h,List.nodup_append]
 constructor
 ·rintro ⟨h1,_,h3⟩
  exact ⟨h1,fun hm => h3 _ hm _ (by simp) rfl⟩
 ·rintro ⟨h1,h2⟩
  exact ⟨h1,by simp,fun a ha b hb => by simp at hb; subst hb; exact fun e => h2 (e ▸ ha)⟩
theorem zB6 {l:List ByteArray} {k:Nat} (h:l.Nodup):(l.take k).Nodup:=h.sublist (List.take_sublist _ _)
theorem zc5 {H:Type} {P:Program} (w:World) {ops:Array Oper} {rest:List Oper} {o:Oper} {a:Act} {Q:Exit → Act → World → Prop}
  (hg:o.guard = none) (m x:Operand) (t:TypeId) (hop:o.op = Op.lookup t m x false)
  (k e:TypeId) (K:Keyed P k) (ht:P.underlying t = some (.map k e)) (he:P.underlying e = some .bool) (hz:(zeroValue e).run P w = .ok (.bool false) w) (b n:Nat) (D:DataW H)
  (hm:a.eval m = .map (some b)) (hown:w.ownsMap P k (plainElem P e) b n D) (key:Value) (kl:Lit) (hx:a.eval x = key) (hkey:keyOf P k key = some kl)
  (y:Bool) (hy:D.atKey kl (.lit (.bool false)) = .lit (.bool y)) (hK:wpList P ops Q rest (a.put o.dst (.bool y)) w) :
  wpList P ops Q (o :: rest) a w:=by
 refine wpList_plain hg fun K' hK' => ?_
 obtain ⟨v,ps,hrun,hv⟩:=hown.lookup K ht hz (plainElem_bool he false) hkey
 obtain ⟨c,rfl,hc⟩:=zp4 he hv
 simp only [Prod.mk.injEq] at hc
 rw [hy] at hc
 obtain ⟨hc,_⟩:=hc
 injection hc with hc
 injection hc with hc
 subst hc
 unfold Oper.wp
 simp [execOp,hop,hm,hx,hrun,Result.andThen]
 exact hK' _ _ hK
theorem zB9:Keyed Tryz.prog 9 := string_keyed Tryz.underlying9
theorem zeroB (w:World):(zeroValue 4).run Tryz.prog w = .ok (.bool false) w:=by kernel_rfl
set_option maxHeartbeats 1000000 in
theorem zL3 (K:Option Addr) (lk ck:Nat) (keys:List ByteArray) (w:World) (B:Nat) (hlk:keys.length = lk) (hbk:lk * 16 ≤ 140737488351232) (hks:∀ s ∈ keys,s.size ≤ 140737488351232) (hK:KeysAt w B K keys) (hB:B ≤ w.heap.size) :
  Calls Tryz.prog 282 #[.slice K lk ck] w fun e w' => e = .returned (.bool (decide keys.Nodup)) ∧ Below w.heap.size w w':=by
 have HL:=Lib.hid hlk
 have HS:=Lib.hid hks
 have HK:=Lib.hid hK
 clear hlk hks hK
 have hmk:=fun w => zt3 (P:=Tryz.prog) 286 9 4 .i64 lk Tryz.underlying286 w
 go_enter Tryz.func282, Tryz.ntmps282
 go_wp2_with fail
 clear hmk
 go_loopw [11] (fun i wr => ∃ j:Nat,j ≤ lk ∧ i = .int .i64 j ∧ (keys.take j).Nodup ∧ wr.ownsMap Tryz.prog 9 (plainElem Tryz.prog 4) w.heap.size j (setD (keys.take j)) ∧ Below w.heap.size w wr) (fun i _ => lk - (intOf i).toNat)
 case atStart => exact ⟨0,Nat.zero_le _,rfl,List.nodup_nil,World.ownsMap_made _ _ _ _,(Below.refl _ _).alloc (Nat.le_refl _) _⟩
 case round =>
  obtain ⟨j,hj,rfl,hnd,hown,hb⟩:=hrel
  have HND:=Lib.hid hnd
  have HOWN:=Lib.hid hown
  have HB:=Lib.hid hb
  clear hnd hown
  have hlm:(lk:Int) ≤ 140737488351232:=by omega
  by_cases hlt:j < lk
  ·obtain ⟨a,rfl,hab,hc⟩:=HK.out (by have:=HL.out; omega)
   have hjl:j < keys.length:=by have:=HL.out; omega
   have hcell:=(hb.cell (p:=a.add j) (by rw [za1]; omega)).trans (hc j _ (List.getElem?_eq_getElem hjl))
   have hsz:=HS.out _ (List.getElem_mem hjl)
   have HSN:=Lib.hid (zB7 hjl)
   have HTK:Hid (keys.take (j + 1) = keys.take j ++ [keys[j]]):=Lib.hid (List.take_succ_eq_append_getElem hjl)
   generalize keys[j] = s at *
   have hat:=ya1 (keys.take j) s
   have HAT:=Lib.hid hat
   clear hat hc hb
   by_cases hm:s ∈ keys.take j
   ·have hy:decide (s ∈ keys.take j) = true:=by simpa using hm
    rw [hy] at HAT
    have HNO:Hid (decide keys.Nodup = false):=Lib.hid (by
     simp only [decide_eq_false_iff_not]
     intro h
     exact (HSN.out.1 (zB6 h)).2 hm)
    clear hm hy
    go_wp2_with (at_lookup; refine zc5 _ rfl _ _ 286 rfl 9 4 zB9 Tryz.underlying286 Tryz.underlying4 (zeroB _) w.heap.size j _ rfl HOWN.out _ _ rfl (WideMaps.keyOf_string_mk Tryz.underlying9 (by unfold maxLen; omega)) _ HAT.out ?_)
    go_ret
    exact ⟨by rw [HNO.out]; rfl,HB.out⟩
   ·have hy:decide (s ∈ keys.take j) = false:=by simpa using hm
    rw [hy] at HAT
    have HND1:Hid (keys.take (j + 1)).Nodup:=Lib.hid (HSN.out.2 ⟨HND.out,hm⟩)
    clear hm hy
    go_wp2_with (first
     | (at_lookup; refine zc5 _ rfl _ _ 286 rfl 9 4 zB9 Tryz.underlying286 Tryz.underlying4 (zeroB _) w.heap.size j _ rfl HOWN.out _ _ rfl (WideMaps.keyOf_string_mk Tryz.underlying9 (by unfold maxLen; omega)) _ HAT.out ?_)
     | (at_mapUpdate; refine wpList_mapUpdate_own _ rfl _ _ _ 286 rfl 9 4 zB9 Tryz.underlying286 _ w.heap.size j _ rfl HOWN.out (by unfold maxLen; omega) _ _ _ rfl rfl (WideMaps.keyOf_string_mk Tryz.underlying9 (by unfold maxLen; omega)) _ [] (plainElem_bool Tryz.underlying4 true) ?_; intro w1 hown1 hgrow1))
    go_roundw
    case rel => exact ⟨j + 1,by omega,by go_num,HND1.out,by rw [HTK.out,zH8]; exact hown1,HB.out.grown hgrow1 HB.out.size (fun k e => by cases e; exact Nat.le_refl _)⟩
    case measure => simp [intOf]; omega
  ·have HJ:Hid (decide keys.Nodup = true):=Lib.hid (by
    have:=HND.out
    rw [List.take_of_length_le (by have:=HL.out; omega)] at this
    simpa using this)
   clear hb
   go_wp2_with fail
   go_ret
   exact ⟨by rw [HJ.out]; rfl,HB.out⟩
end Go.Proofs.YthjoelpfmimedaaGreatDoor
namespace Go.Proofs.YthjoelpfmimedaaGreatDoor
end Go.Proofs.YthjoelpfmimedaaGreatDoor
namespace Go.Proofs.YthjoelpfmimedaaGreatDoor
open Go.RowKit
def VT.keys:VT → List ByteArray | .mk _ _ _ _ ks => ks
def VT.items:VT → List VT | .mk _ _ _ is _ => is
theorem Rd.shape {w:World} {B:Nat} {v:Value} {t:VT} (h:Rd w B v t):∃ (k n:Int) (s:ByteArray) (A:Option Addr) (li ci:Nat) (K:Option Addr) (lk ck:Nat),v = .agg #[.int .i64 k,.int .i64 n,.string s,.slice A li ci,.slice K lk ck]:=by
 cases h with
 | mk V hk hn hs hks hli hlk hbi hbk hA hr hK => exact ⟨_,_,_,_,_,_,_,_,_,rfl⟩
end Go.Proofs.YthjoelpfmimedaaGreatDoor
namespace Go.Proofs.YthjoelpfmimedaaGreatDoor
open Go.RowKit
theorem int_any (n:Int) (w:World):Calls Tryz.prog 271 #[.int .i64 n] w fun e w' => e = .returned (.agg #[.int .i64 2,.int .i64 n,.string ⟨#[]⟩,.slice none 0 0,.slice none 0 0]) ∧ Below w.heap.size w w':=by
 go_enter Tryz.func271, Tryz.ntmps271
 go_wp2_with fail
 exact bodyPost_ret (v:=.agg #[.int .i64 2,.int .i64 n,.string ⟨#[]⟩,.slice none 0 0,.slice none 0 0]) (by simp [results,Tryz.results271,go_sem]) rfl ⟨rfl,(Below.refl _ _).alloc (Nat.le_refl _) _⟩
theorem text_any (s:ByteArray) (w:World):Calls Tryz.prog 272 #[.string s] w fun e w' => e = .returned (.agg #[.int .i64 3,.int .i64 0,.string s,.slice none 0 0,.slice none 0 0]) ∧ Below w.heap.size w w':=by
 go_enter Tryz.func272, Tryz.ntmps272
 go_wp2_with fail
 exact bodyPost_ret (v:=.agg #[.int .i64 3,.int .i64 0,.string s,.slice none 0 0,.slice none 0 0]) (by simp [results,Tryz.results272,go_sem]) rfl ⟨rfl,(Below.refl _ _).alloc (Nat.le_refl _) _⟩
theorem enum_any (s:ByteArray) (w:World):Calls Tryz.prog 288 #[.string s] w fun e w' => e = .returned (.agg #[.int .i64 4,.int .i64 0,.string s,.slice none 0 0,.slice none 0 0]) ∧ Below w.heap.size w w':=by
 go_enter Tryz.func288, Tryz.ntmps288
 go_wp2_with fail
 exact bodyPost_ret (v:=.agg #[.int .i64 4,.int .i64 0,.string s,.slice none 0 0,.slice none 0 0]) (by simp [results,Tryz.results288,go_sem]) rfl ⟨rfl,(Below.refl _ _).alloc (Nat.le_refl _) _⟩
def yesI (y:Bool):Int:=if y then 1 else 0
theorem zT6 (y:Bool) (w:World):Calls Tryz.prog 287 #[.bool y] w fun e w' => e = .returned (.agg #[.int .i64 1,.int .i64 (yesI y),.string ⟨#[]⟩,.slice none 0 0,.slice none 0 0]) ∧ Below w.heap.size w w':=by
 cases y
 ·go_enter Tryz.func287, Tryz.ntmps287
  go_wp2_with fail
  exact bodyPost_ret (v:=.agg #[.int .i64 1,.int .i64 0,.string ⟨#[]⟩,.slice none 0 0,.slice none 0 0]) (by simp [results,Tryz.results287,go_sem]) rfl ⟨rfl,(Below.refl _ _).alloc (Nat.le_refl _) _⟩
 ·go_enter Tryz.func287, Tryz.ntmps287
  go_wp2_with fail
  exact bodyPost_ret (v:=.agg #[.int .i64 1,.int .i64 1,.string ⟨#[]⟩,.slice none 0 0,.slice none 0 0]) (by simp [results,Tryz.results287,go_sem]) rfl ⟨rfl,(Below.refl _ _).alloc (Nat.le_refl _) _⟩
end Go.Proofs.YthjoelpfmimedaaGreatDoor
namespace Go.Proofs.YthjoelpfmimedaaGreatDoor
open Go.RowKit
def digB (n:Int):Bool:=decide (48 ≤ n) && decide (n ≤ 57)
def letB (n:Int):Bool:=(decide (97 ≤ n) && decide (n ≤ 122)) || (decide (65 ≤ n) && decide (n ≤ 90))
def nmB (n:Int):Bool:=letB n || digB n || n == 95
theorem zb9 (n:Int) (w:World) (h0:0 ≤ n) (h1:n ≤ 255) :
  Calls Tryz.prog 88 #[.int .u8 n] w fun e w' => e = .returned (.bool (digB n)) ∧ w = w':=by
 go_enter Tryz.func88,Tryz.ntmps88
 go_wp2
 all_goals go_ret
 all_goals (simp [digB, *]; try omega)
theorem zm9 (n:Int) (w:World) (h0:0 ≤ n) (h1:n ≤ 255) :
  Calls Tryz.prog 154 #[.int .u8 n] w fun e w' => e = .returned (.bool (letB n)) ∧ w = w':=by
 go_enter Tryz.func154,Tryz.ntmps154
 go_wp2
 all_goals go_ret
 all_goals simp [letB, *]
 all_goals omega
theorem zf2 (n:Int) (w:World) (h0:0 ≤ n) (h1:n ≤ 255) :
  Calls Tryz.prog 89 #[.int .u8 n] w fun e w' => e = .returned (.bool (nmB n)) ∧ w = w':=by
 go_enter Tryz.func89,Tryz.ntmps89
 go_wp2_with (first | (go_at_call 154; refine (zm9 _ _ (by omega) (by omega)).mono ?_; rintro e w' ⟨rfl,rfl⟩) | (go_at_call 88; refine (zb9 _ _ (by omega) (by omega)).mono ?_; rintro e w' ⟨rfl,rfl⟩))
 all_goals go_ret
 all_goals simp [nmB, *]
def allNm (l:List UInt8):Bool:=l.all fun c => nmB (c.toNat:Int)
def nameL (l:List UInt8):Bool:=!l.isEmpty && decide (l.length ≤ 64) && !digB ((l.getD 0 0).toNat:Int) && allNm l
theorem zg3 (l:List UInt8) (p:UInt8 → Bool) (k:Nat) (h:k < l.length) (hp:p l[k] = false):l.all p = false:=by
 rw [List.all_eq_false]; exact ⟨l[k],List.getElem_mem h,by simp [hp]⟩
theorem zc3 (l:List UInt8) (p:UInt8 → Bool) (k:Nat) (h:k < l.length) (ha:(l.take k).all p = true) (hp:p l[k] = true):(l.take (k+1)).all p = true:=by
 rw [zm0 l k h,List.all_append,ha]; simp [hp]
theorem zr5 (s:ByteArray) (w:World) (h:s.toList = []) :
  Calls Tryz.prog 43 #[.string s] w fun e w' => e = .returned (.bool false) ∧ w = w':=by
 go_enter Tryz.func43,Tryz.ntmps43
 go_wp2_with fail
 go_ret
 exact ⟨rfl,rfl⟩
theorem zx1 (s:ByteArray) (w:World) (hs:s.size ≤ maxLen) (h:64 < s.size) :
  Calls Tryz.prog 43 #[.string s] w fun e w' => e = .returned (.bool false) ∧ w = w':=by
 unfold maxLen at hs
 have h2:s.toList.isEmpty = false:=zc6 (by omega)
 have h3:s.toList ≠ []:=zd3 (by omega)
 go_enter Tryz.func43,Tryz.ntmps43
 go_wp2_with fail
 go_ret
 exact ⟨rfl,rfl⟩
theorem zr6 (s:ByteArray) (w:World) (h0:0 < s.size) (h:s.size ≤ 64) (hd:digB s[0].toNat = true) :
  Calls Tryz.prog 43 #[.string s] w fun e w' => e = .returned (.bool false) ∧ w = w':=by
 have h2:s.toList.isEmpty = false:=zc6 (by omega)
 have h3:s.toList ≠ []:=zd3 (by omega)
 have hb:=zb7 s[0]
 go_enter Tryz.func43,Tryz.ntmps43
 go_wp2_with (go_at_call 88; refine (zb9 _ _ (by omega) (by omega)).mono ?_; rintro e w' ⟨rfl,rfl⟩)
 go_ret
 exact ⟨rfl,rfl⟩
theorem zx0 (s:ByteArray) (w:World) (h0:0 < s.size) (h:s.size ≤ 64) (hd:digB s[0].toNat = false) :
  Calls Tryz.prog 43 #[.string s] w fun e w' => e = .returned (.bool (allNm s.data.toList)) ∧ w = w':=by
 have h2:s.toList.isEmpty = false:=zc6 (by omega)
 have h3:s.toList ≠ []:=zd3 (by omega)
 have hb:=zb7 s[0]
 go_enter Tryz.func43,Tryz.ntmps43
 go_wp2_with (go_at_call 88; refine (zb9 _ _ (by omega) (by omega)).mono ?_; rintro e w' ⟨rfl,rfl⟩)
 go_loop [3] (fun i => ∃ k:Nat,k ≤ s.size ∧ i = .int .i64 k ∧ (s.data.toList.take k).all (fun c => nmB (c.toNat:Int)) = true) (fun i => s.size - (intOf i).toNat)
 case atStart => exact ⟨0,Nat.zero_le _,rfl,rfl⟩
 case round =>
  obtain ⟨k,hk,rfl,hall⟩:=hrel
  have HA:=Lib.hid hall
  clear hall
  by_cases hlt:k < s.size
  ·have hbk:=zb7 s[k]
   have e:s.data.toList[k]'(by simpa using hlt) = s[k]:=rfl
   cases hn:nmB (s[k].toNat:Int)
   ·have H1:Hid (allNm s.data.toList = false):=Lib.hid (zg3 s.data.toList (fun c => nmB (c.toNat:Int)) k (by simpa using hlt) hn)
    clear e
    go_wp2_with (go_at_call 89; refine (zf2 _ _ (by omega) (by omega)).mono ?_; rintro e w' ⟨rfl,rfl⟩)
    go_ret
    exact ⟨by rw [H1.out]; rfl,rfl⟩
   ·have H1:=Lib.hid (zc3 s.data.toList (fun c => nmB (c.toNat:Int)) k (by simpa using hlt) HA.out hn)
    clear e
    go_wp2_with (go_at_call 89; refine (zf2 _ _ (by omega) (by omega)).mono ?_; rintro e w' ⟨rfl,rfl⟩)
    go_round
    case rel => exact ⟨k + 1,by omega,by go_num,H1.out⟩
    case measure => simp [intOf]; omega
  ·have H1:Hid (allNm s.data.toList = true):=by
    have:=HA.out
    rw [List.take_of_length_le (by simp; omega)] at this
    exact Lib.hid this
   go_wp2
   go_ret
   exact ⟨by rw [H1.out]; rfl,rfl⟩
theorem zl2 (s:ByteArray) (w:World) (hs:s.size ≤ maxLen) :
  Calls Tryz.prog 43 #[.string s] w fun e w' => e = .returned (.bool (nameL s.data.toList)) ∧ w = w':=by
 have hl:=size_eq s
 by_cases h0:s.size = 0
 ·have e:s.data.toList = []:=List.eq_nil_of_length_eq_zero (by omega)
  rw [e]; exact zr5 s w (zp8 h0)
 have hne:s.data.toList.isEmpty = false:=by
  rw [← Lib.toList_data]; exact zc6 (by omega)
 by_cases h1:64 < s.size
 ·have e:nameL s.data.toList = false:=by unfold nameL; rw [hl]; simp; omega
  rw [e]; exact zx1 s w hs h1
 have e0:s.data.toList.getD 0 0 = s[0]'(by omega):=by
  rw [List.getD_eq_getElem?_getD,List.getElem?_eq_getElem (by omega)]; rfl
 cases hd:digB ((s[0]'(by omega)).toNat:Int)
 ·have e:nameL s.data.toList = allNm s.data.toList:=by
   unfold nameL; rw [e0,hd,hne,hl]; simp; omega
  rw [e]; exact zx0 s w (by omega) (by omega) hd
 ·have e:nameL s.data.toList = false:=by unfold nameL; rw [e0,hd]; simp
  rw [e]; exact zr6 s w (by omega) (by omega) hd
def letU (n:Int):Bool:=letB n || n == 95
theorem zb3 (n:Int) (w:World) (h0:0 ≤ n) (h1:n ≤ 255) :
  Calls Tryz.prog 101 #[.int .u8 n] w fun e w' => e = .returned (.bool (digB n)) ∧ w = w':=by
 go_enter Tryz.func101,Tryz.ntmps101
 go_wp2
 all_goals go_ret
 all_goals (simp [digB, *]; try omega)
theorem zd5 (n:Int) (w:World) (h0:0 ≤ n) (h1:n ≤ 255) :
  Calls Tryz.prog 100 #[.int .u8 n] w fun e w' => e = .returned (.bool (letU n)) ∧ w = w':=by
 go_enter Tryz.func100,Tryz.ntmps100
 go_wp2
 all_goals go_ret
 all_goals refine ⟨congrArg Ending.returned (congrArg Value.bool ?_),rfl⟩
 all_goals (rw [Bool.eq_iff_iff]; simp [letU,letB, *]; try omega)
theorem zo2 (s:ByteArray) (w:World) (h:s.size = 0) :
  Calls Tryz.prog 46 #[.string s] w fun e w' => e = .returned (.bool false) ∧ w = w':=by
 have h':(s.size:Int) < 1:=by omega
 clear h
 go_enter Tryz.func46,Tryz.ntmps46
 go_wp2_with fail
 go_ret
 exact ⟨rfl,rfl⟩
theorem zr1 (s:ByteArray) (w:World) (hs:s.size ≤ maxLen) (h:64 < s.size) :
  Calls Tryz.prog 46 #[.string s] w fun e w' => e = .returned (.bool false) ∧ w = w':=by
 unfold maxLen at hs
 go_enter Tryz.func46,Tryz.ntmps46
 go_wp2_with fail
 go_ret
 exact ⟨rfl,rfl⟩
theorem nm_of (n:Int):nmB n = (letU n || digB n):=by unfold nmB letU; cases letB n <;> cases digB n <;> simp
def zn2 (l:List UInt8) (k:Nat):Prop:=allNm (l.take k) = true ∧ (0 < k → digB ((l.getD 0 0).toNat:Int) = false)
theorem zo6 (l:List UInt8):zn2 l 0:=⟨rfl,fun h => absurd h (by omega)⟩
theorem zj2 {l:List UInt8} {k:Nat} (h:zn2 l k) (hk:k < l.length) (h1:nmB (l[k].toNat:Int) = true) (h2:k = 0 → digB (l[k].toNat:Int) = false):zn2 l (k + 1):=by
 refine ⟨zc3 l (fun c => nmB (c.toNat:Int)) k hk h.1 h1,fun _ => ?_⟩
 by_cases e:k = 0
 ·subst e; rw [List.getD_eq_getElem?_getD,List.getElem?_eq_getElem hk]; exact h2 rfl
 ·exact h.2 (by omega)
theorem zr9 {l:List UInt8} (h:zn2 l l.length) (h0:0 < l.length) (h1:l.length ≤ 64):nameL l = true:=by
 unfold nameL
 have e:=h.1
 rw [List.take_length] at e
 rw [h.2 h0,e]
 cases l with
 | nil => simp at h0
 | cons a l => simp at h1 ⊢; omega
theorem zr4 {l:List UInt8} {k:Nat} (hk:k < l.length) (h:nmB (l[k].toNat:Int) = false):nameL l = false:=by
 unfold nameL
 rw [show allNm l = false from zg3 l (fun c => nmB (c.toNat:Int)) k hk h]; simp
theorem zm8 {l:List UInt8} (hk:0 < l.length) (h:digB (l[0].toNat:Int) = true):nameL l = false:=by
 unfold nameL
 rw [List.getD_eq_getElem?_getD,List.getElem?_eq_getElem hk,Option.getD_some,h]; simp
theorem zr0 (s:ByteArray) (w:World) (h0:0 < s.size) (h:s.size ≤ 64) :
  Calls Tryz.prog 46 #[.string s] w fun e w' => e = .returned (.bool (nameL s.data.toList)) ∧ w = w':=by
 have hl:=Lib.hid (size_eq s)
 go_enter Tryz.func46,Tryz.ntmps46
 go_wp2_with fail
 go_loop [3] (fun i => ∃ k:Nat,k ≤ s.size ∧ i = .int .i64 k ∧ zn2 s.data.toList k) (fun i => s.size - (intOf i).toNat)
 case atStart => exact ⟨0,Nat.zero_le _,rfl,zo6 _⟩
 case round =>
  obtain ⟨k,hk,rfl,hH⟩:=hrel
  by_cases hlt:k < s.size
  ·have hbk:=zb7 s[k]
   have hlk:k < s.data.toList.length:=by rw [hl.out]; exact hlt
   cases n1:letU (s[k].toNat:Int)
   ·cases n2:digB (s[k].toNat:Int)
    ·have H2:Hid (nameL s.data.toList = false):=Lib.hid (zr4 hlk (by show nmB (s[k].toNat:Int) = false; rw [nm_of,n1,n2]; rfl))
     go_wp2_with (first | (go_at_call 100; refine (zd5 _ _ (by omega) (by omega)).mono ?_; rintro e w' ⟨rfl,rfl⟩) | (go_at_call 101; refine (zb3 _ _ (by omega) (by omega)).mono ?_; rintro e w' ⟨rfl,rfl⟩))
     all_goals go_ret
     all_goals exact ⟨by rw [H2.out]; rfl,rfl⟩
    ·by_cases hd:k = 0
     ·subst hd
      have H2:Hid (nameL s.data.toList = false):=Lib.hid (zm8 hlk n2)
      go_wp2_with (first | (go_at_call 100; refine (zd5 _ _ (by omega) (by omega)).mono ?_; rintro e w' ⟨rfl,rfl⟩) | (go_at_call 101; refine (zb3 _ _ (by omega) (by omega)).mono ?_; rintro e w' ⟨rfl,rfl⟩))
      all_goals go_ret
      all_goals exact ⟨by rw [H2.out]; rfl,rfl⟩
     ·have hd':((k:Int) == 0) = false:=by rw [beq_eq_false_iff_ne]; omega
      have H3:=Lib.hid (zj2 hH hlk (by show nmB (s[k].toNat:Int) = true; rw [nm_of,n1,n2]; rfl) (fun e => absurd e hd))
      clear hH
      go_wp2_with (first | (go_at_call 100; refine (zd5 _ _ (by omega) (by omega)).mono ?_; rintro e w' ⟨rfl,rfl⟩) | (go_at_call 101; refine (zb3 _ _ (by omega) (by omega)).mono ?_; rintro e w' ⟨rfl,rfl⟩))
      go_round
      case rel => exact ⟨k + 1,by omega,by go_num,H3.out⟩
      case measure => simp [intOf]; omega
   ·have hnd:digB (s[k].toNat:Int) = false:=by
     unfold letU letB at n1; unfold digB; simp at n1 ⊢; omega
    have H3:=Lib.hid (zj2 hH hlk (by show nmB (s[k].toNat:Int) = true; rw [nm_of,n1]; rfl) (fun _ => hnd))
    clear hH hnd
    go_wp2_with (go_at_call 100; refine (zd5 _ _ (by omega) (by omega)).mono ?_; rintro e w' ⟨rfl,rfl⟩)
    go_round
    case rel => exact ⟨k + 1,by omega,by go_num,H3.out⟩
    case measure => simp [intOf]; omega
  ·obtain rfl:k = s.size:=by omega
   have H1:Hid (nameL s.data.toList = true):=Lib.hid (zr9 (by rw [hl.out]; exact hH) (by rw [hl.out]; exact h0) (by rw [hl.out]; exact h))
   go_wp2
   go_ret
   exact ⟨by rw [H1.out]; rfl,rfl⟩
theorem zd0 (s:ByteArray) (w:World) (hs:s.size ≤ maxLen) :
  Calls Tryz.prog 46 #[.string s] w fun e w' => e = .returned (.bool (nameL s.data.toList)) ∧ w = w':=by
 have hl:=size_eq s
 by_cases h0:s.size = 0
 ·have e:s.data.toList = []:=List.eq_nil_of_length_eq_zero (by omega)
  rw [e]; exact zo2 s w h0
 by_cases h1:64 < s.size
 ·have e:nameL s.data.toList = false:=by unfold nameL; rw [hl]; simp; omega
  rw [e]; exact zr1 s w hs h1
 exact zr0 s w (by omega) (by omega)
end Go.Proofs.YthjoelpfmimedaaGreatDoor
namespace Go.Proofs.YthjoelpfmimedaaGreatDoor
open Go.RowKit
def nmA (s:ByteArray):Bool:=nameL s.data.toList
def enumB (s:ByteArray):Bool:=!decide (s = ⟨#[116,114,117,101]⟩) && !decide (s = ⟨#[102,97,108,115,101]⟩) && !decide (s = ⟨#[110,117,108,108]⟩) && nmA s
def keysB (lit:Bool) (ks:List ByteArray):Bool:=(!lit || ks.all nmA) && decide ks.Nodup
def leafB (is:List VT) (ks:List ByteArray):Bool:=decide (is.length = 0) && decide (ks.length = 0)
def nodeB (lit:Bool):VT → Bool
 | .mk k n s is ks =>
   if k = 0 then decide (n = 0) && decide (s.size = 0) && leafB is ks
   else if k = 1 then (decide (n = 0) || decide (n = 1)) && decide (s.size = 0) && leafB is ks
   else if k = 2 then decide (s.size = 0) && leafB is ks
   else if k = 3 then decide (n = 0) && leafB is ks
   else if k = 4 then decide (n = 0) && enumB s && leafB is ks
   else if k = 5 then decide (n = 0) && decide (s.size = 0) && decide (ks.length = 0)
   else if k = 6 then decide (n = 0) && decide (s.size = 0) && decide (ks.length = is.length) && keysB lit ks
   else if k = 7 then lit && decide (n = 0) && nmA s && leafB is ks
   else false
theorem zW9 (t:VT) (w:World) (B:Nat) (v:Value) (h:Rd w B v t) :
  Calls Tryz.prog 256 #[v] w fun e w' => e = .returned (.bool (leafB t.items t.keys)) ∧ Below w.heap.size w w':=by
 cases h with
 | @mk k n s A li ci K lk ck items keys V hk hn hs hks hli hlk hbi hbk hA hr hK =>
 have HV:Hid (leafB items keys = (decide (li = 0) && decide (lk = 0))):=Lib.hid (by unfold leafB; rw [hli,hlk])
 show Calls _ _ _ _ fun e w' => e = .returned (.bool (leafB items keys)) ∧ _
 clear hA hr hli hlk hK hks hn hs hk
 by_cases h1:li = 0
 ·subst h1
  by_cases h2:lk = 0
  ·subst h2
   go_enter Tryz.func256, Tryz.ntmps256
   go_wp2_with fail
   go_ret
   exact ⟨by rw [HV.out]; rfl,(Below.refl _ _).alloc (Nat.le_refl _) _⟩
  ·have h2':decide (lk = 0) = false:=by simpa using h2
   have h2'':((lk:Int) == 0) = false:=by rw [beq_eq_false_iff_ne]; omega
   go_enter Tryz.func256, Tryz.ntmps256
   go_wp2_with fail
   go_ret
   exact ⟨by rw [HV.out]; simp [h2],(Below.refl _ _).alloc (Nat.le_refl _) _⟩
 ·have h1':decide (li = 0) = false:=by simpa using h1
  have h1'':((li:Int) == 0) = false:=by rw [beq_eq_false_iff_ne]; omega
  go_enter Tryz.func256, Tryz.ntmps256
  go_wp2_with fail
  go_ret
  exact ⟨by rw [HV.out]; simp [h1],(Below.refl _ _).alloc (Nat.le_refl _) _⟩
theorem zj0 (s:ByteArray) (l:List UInt8):(s.toList == l) = decide (s = ⟨l.toArray⟩):=by
 rw [Lib.toList_data,Bool.eq_iff_iff]
 obtain ⟨d⟩:=s
 simp only [beq_iff_eq,decide_eq_true_eq,ByteArray.mk.injEq]
 constructor
 ·rintro rfl; simp
 ·rintro rfl; simp
set_option maxHeartbeats 1000000 in
theorem zz5 (s:ByteArray) (w:World) (hs:s.size ≤ 140737488351232) :
  Calls Tryz.prog 257 #[.string s] w fun e w' => e = .returned (.bool (enumB s)) ∧ w = w':=by
 have e1:=zj0 s [116,114,117,101]
 have e2:=zj0 s [102,97,108,115,101]
 have e3:=zj0 s [110,117,108,108]
 have HV:Hid (enumB s = (!decide (s = ⟨#[116,114,117,101]⟩) && !decide (s = ⟨#[102,97,108,115,101]⟩) && !decide (s = ⟨#[110,117,108,108]⟩) && nmA s)):=Lib.hid rfl
 have HN:=Lib.hid (zl2 s w (by unfold maxLen; omega))
 rw [← e1, ← e2, ← e3] at HV
 cases h1:(s.toList == [116,114,117,101])
 ·cases h2:(s.toList == [102,97,108,115,101])
  ·cases h3:(s.toList == [110,117,108,108])
   ·rw [h1,h2,h3] at HV
    clear e1 e2 e3
    go_enter Tryz.func257, Tryz.ntmps257
    go_wp2_with fail
    refine HN.out.mono ?_
    rintro e w' ⟨rfl,rfl⟩
    go_wp2_with fail
    go_ret
    exact ⟨by rw [HV.out]; rfl,rfl⟩
   ·rw [h1,h2,h3] at HV
    clear e1 e2 e3
    go_enter Tryz.func257, Tryz.ntmps257
    go_wp2_with fail
    go_ret
    exact ⟨by rw [HV.out]; rfl,rfl⟩
  ·rw [h1,h2] at HV
   clear e1 e2 e3
   go_enter Tryz.func257, Tryz.ntmps257
   go_wp2_with fail
   go_ret
   exact ⟨by rw [HV.out]; rfl,rfl⟩
 ·rw [h1] at HV
  clear e1 e2 e3
  go_enter Tryz.func257, Tryz.ntmps257
  go_wp2_with fail
  go_ret
  exact ⟨by rw [HV.out]; rfl,rfl⟩
def Chk (w:World) (c:Nat) (lit:Bool) (r:Int):Prop:=w.heap[c]? = some (.cells #[.bool lit,.int .i64 r] 219 (0,0))
theorem Chk.cells {w:World} {c:Nat} {lit:Bool} {r:Int} (h:Chk w c lit r):w.cell? ⟨c,0,none⟩ = some (.bool lit) ∧ w.cell? ⟨c,1,none⟩ = some (.int .i64 r) ∧ w.frozen? ⟨c,1,none⟩ = false:=by
 refine ⟨?_, ?_,by unfold Chk at h; simp [World.frozen?,h]⟩ <;> rw [cell_of_row _ _ _ _ _ _ h] <;> rfl
theorem Chk.lt {w:World} {c:Nat} {lit:Bool} {r:Int} (h:Chk w c lit r):c < w.heap.size:=by
 unfold Chk at h
 rcases Nat.lt_or_ge c w.heap.size with h' | h'
 ·exact h'
 ·rw [Array.getElem?_eq_none h'] at h; cases h
theorem Chk.kept {w w':World} {c B:Nat} {lit:Bool} {r:Int} (h:Chk w c lit r) (hb:Below B w w') (hc:c < B):Chk w' c lit r:=(hb.block c hc).trans h
theorem keys_any (lit:Bool) (r:Int) (c:Nat) (K:Option Addr) (lk ck:Nat) (keys:List ByteArray) (w:World) (B:Nat) (hc:Chk w c lit r) (hlk:keys.length = lk) (hbk:lk * 16 ≤ 140737488351232) (hks:∀ s ∈ keys,s.size ≤ 140737488351232) (hK:KeysAt w B K keys) (hB:B ≤ w.heap.size) :
  Calls Tryz.prog 258 #[.pointer (some ⟨c,0,none⟩),.slice K lk ck] w fun e w' => e = .returned (.bool (keysB lit keys)) ∧ Below w.heap.size w w':=by
 have HD:=Lib.hid (zL3 K lk ck keys w B hlk hbk hks hK hB)
 have HL:=Lib.hid hlk
 have HS:=Lib.hid hks
 have HK:=Lib.hid hK
 obtain ⟨c0,c1,c2⟩:=hc.cells
 clear hlk hks hK hc
 have hlm:(lk:Int) ≤ 140737488351232:=by omega
 cases lit
 ·go_enter Tryz.func258, Tryz.ntmps258
  go_wp2_with fail
  refine HD.out.mono ?_
  rintro e w' ⟨rfl,hb⟩
  have HB:=Lib.hid hb
  clear hb
  go_wp2_with fail
  go_ret
  exact ⟨by simp [keysB],HB.out⟩
 ·go_enter Tryz.func258, Tryz.ntmps258
  go_wp2_with fail
  go_loop [13] (fun i => ∃ j:Nat,j ≤ lk ∧ i = .int .i64 j ∧ (keys.take j).all nmA = true) (fun i => lk - (intOf i).toNat)
  case atStart => exact ⟨0,Nat.zero_le _,rfl,rfl⟩
  case round =>
   obtain ⟨j,hj,rfl,hal⟩:=hrel
   have HAL:=Lib.hid hal
   clear hal
   by_cases hlt:j < lk
   ·obtain ⟨a,rfl,hab,hc⟩:=HK.out (by have:=HL.out; omega)
    have hjl:j < keys.length:=by have:=HL.out; omega
    have hcell:=hc j _ (List.getElem?_eq_getElem hjl)
    have HN:=Lib.hid (zl2 keys[j] w (by unfold maxLen; have:=HS.out _ (List.getElem_mem hjl); omega))
    have HTK:Hid (keys.take (j + 1) = keys.take j ++ [keys[j]]):=Lib.hid (List.take_succ_eq_append_getElem hjl)
    have HM:Hid (keys[j] ∈ keys):=Lib.hid (List.getElem_mem hjl)
    generalize keys[j] = s at *
    clear hc
    cases hn:nmA s
    ·have HN':Hid (nameL s.data.toList = false):=Lib.hid hn
     have HV:Hid (keysB true keys = false):=Lib.hid (by
      unfold keysB
      rw [show keys.all nmA = false from List.all_eq_false.2 ⟨s,HM.out,by simp [hn]⟩]; rfl)
     clear hn
     go_wp2_with fail
     refine HN.out.mono ?_
     rintro e w' ⟨rfl,rfl⟩
     rw [HN'.out]
     go_wp2_with fail
     go_ret
     exact ⟨by rw [HV.out]; rfl,Below.refl _ _⟩
    ·have HN':Hid (nameL s.data.toList = true):=Lib.hid hn
     have HA1:Hid ((keys.take (j + 1)).all nmA = true):=Lib.hid (by rw [HTK.out,List.all_append,HAL.out]; simp [hn])
     clear hn
     go_wp2_with fail
     refine HN.out.mono ?_
     rintro e w' ⟨rfl,rfl⟩
     rw [HN'.out]
     go_wp2_with fail
     go_round
     case rel => exact ⟨j + 1,by omega,by go_num,HA1.out⟩
     case measure => simp [intOf]; omega
   ·have HV:Hid (keysB true keys = decide keys.Nodup):=Lib.hid (by
     have:=HAL.out
     rw [List.take_of_length_le (by have:=HL.out; omega)] at this
     unfold keysB; rw [this]; rfl)
    go_wp2_with fail
    refine HD.out.mono ?_
    rintro e w' ⟨rfl,hb⟩
    have HB:=Lib.hid hb
    clear hb
    go_wp2_with fail
    go_ret
    exact ⟨by rw [HV.out]; rfl,HB.out⟩
end Go.Proofs.YthjoelpfmimedaaGreatDoor
