
/-
 Texts joined: E4 E4r E8.
-/
import Derived.Test.YtfgelheiknmjgaaGreatDoorZt11
set_option maxRecDepth 1000000
set_option maxHeartbeats 8000000
namespace Go.Proofs.YtfgelheiknmjgaaGreatDoor
open Go.RowKit
def WPost {α:Type} (R:World->(Nat->Prop)->Value->α->Prop) (w:World) (p:Nat) (r:Except Er (α × List Tk)) (e:Ending) (w':World):Prop :=
 (∃ x ts v m,r=.ok (x,ts)/\e=.returned v/\R w' (fun b=>w.heap.size<=b/\b<w'.heap.size) v x/\PSt w' p ts m/\Tw p w.heap.size w w')∨(∃ x,r=.error x/\e=badV x/\Tw p w.heap.size w w')
def tlen (p:Nat) (w:World):Nat:=match w.cell? ⟨p,0,none⟩ with
 | some (.slice _ l _)=>l
 | _=>0
theorem PSt.tlen {w:World} {p:Nat} {ts:List Tk} {n:Nat} (h:PSt w p ts n):tlen p w=ts.length:=by
 obtain ⟨A,c,hb,_⟩:=h.box;have:=hb.cell 0 _ rfl;unfold Go.Proofs.YtfgelheiknmjgaaGreatDoor.tlen;rw [this]
 rfl
theorem zf0 (w:World) (news:List Value) (T:TypeId):∀ (j:Nat) (u:Value),news[j]?=some u->(w.alloc (.cells news.toArray T (0,0))).cell? ((⟨w.heap.size,0,none⟩ : Addr).add j)=some u:=by
 intro j u h;obtain ⟨h1,rfl⟩:=List.getElem?_eq_some_iff.1 h;exact (zr3 w news.toArray T j (by simpa using h1)).trans (by simp)
def exB {α β:Type} (r:Except Er α) (k : α->Except Er β):Except Er β:=match r with
 | .error e=>.error e
 | .ok x=>k x
theorem za2 {α β:Type} {r:Except Er α} {k : α->Except Er β} {x : α} (h:r=.ok x):exB r k=k x:=by rw [h]; rfl
theorem za6 {α β:Type} {r:Except Er α} {k : α->Except Er β} {x:Er} (h:r=.error x):exB r k=.error x:=by rw [h]; rfl
def bls {α:Type} (cl:List UInt8) (most:Nat) (el:List Tk->Except Er (α × List Tk)):Nat->List α->List Tk->Except Er (List α × List Tk)
 | 0,_,_=>.error (0,99)
 | f+1,l,ts=>if l.length≠0/\isSg cl ts=true then .ok (l,ts.tail) else exB (bgR (isNm ts) l.length most ts) fun _=>exB (el ts) fun q=>bls cl most el f (l++[q.1]) q.2
theorem zi1 {α:Type} (cl:List UInt8) (most:Nat) (el:List Tk->Except Er (α × List Tk)) (f:Nat) (l:List α) (ts:List Tk):bls cl most el (f+1) l ts=if l.length≠0/\isSg cl ts=true then .ok (l,ts.tail) else exB (bgR (isNm ts) l.length most ts) fun _=>exB (el ts) fun q=>bls cl most el f (l++[q.1]) q.2:=rfl
def blR {α:Type} (op cl:List UInt8) (most:Nat) (el:List Tk->Except Er (α × List Tk)) (ts:List Tk):Except Er (List α × List Tk):=exB (sgR op ts) fun ts1=>bls cl most el (ts1.length+1) [] ts1
def nms (sep:List UInt8):Nat->List ByteArray->List Tk->Except Er (List ByteArray × List Tk)
 | 0,_,_=>.error (0,99)
 | f+1,l,ts=>if l.length≠0/\isSg sep ts=false then .ok (l,ts) else
   exB (bgR (isNm (if l.length=0 then ts else ts.tail)) l.length 64 (if l.length=0 then ts else ts.tail)) fun _=>exB (nmR (if l.length=0 then ts else ts.tail)) fun q=>nms sep f (l++[q.1]) q.2
theorem zn5 (sep:List UInt8) (f:Nat) (l:List ByteArray) (ts:List Tk):nms sep (f+1) l ts=if l.length≠0/\isSg sep ts=false then .ok (l,ts) else
  exB (bgR (isNm (if l.length=0 then ts else ts.tail)) l.length 64 (if l.length=0 then ts else ts.tail)) fun _=>exB (nmR (if l.length=0 then ts else ts.tail)) fun q=>nms sep f (l++[q.1]) q.2:=rfl
def nmsR (sep:List UInt8) (ts:List Tk):Except Er (List ByteArray × List Tk):=nms sep (ts.length+1) [] ts
theorem zs5 {c:Bool} {a m:Nat} {ts:List Tk} (h:bgR c a m ts=.ok ()) (hm:a<=m):c=true/\a<m:=by
 unfold bgR at h
 split at h
 ·split at h
  ·cases h
  ·next h1 h2=>exact ⟨h1,by omega⟩
 ·cases h
theorem yk4 {ts ts':List Tk} {x:ByteArray} (hg:Good ts) (h:nmR ts=.ok (x,ts')):ts'.length<ts.length:=by
 obtain ⟨t,r,rfl⟩:=hg.ne;unfold nmR at h
 split at h
 ·cases h; simp
 ·cases h
def FldV (w:World) (S:Nat->Prop) (v:Value) (x:FldT):Prop:=∃ c0 c1 c2 c3 c4,v=.agg #[c0,c1,c2,c3,c4]/\FldC w S (fun j=>[c0,c1,c2,c3,c4].getD j undef) x
theorem FldV.cong {k:Nat} (hk:5<=k) (W:World) (S:Nat->Prop) (g g':Nat->Value) (y:FldT) (h:∀ j,j<k->g j=g' j) (hr:FldC W S g y):FldC W S g' y:=by
 have hh:∀ j,j<5->g j=g' j:=fun j hj=>h j (by omega);obtain ⟨a0,a1,a2,a3,a4⟩:=hr;simp only [hh 0 (by omega),hh 1 (by omega),hh 2 (by omega),hh 3 (by omega),hh 4 (by omega)] at *
 constructor <;> assumption
theorem FldV.shape {w:World} {S:Nat->Prop} {v:Value} {x:FldT} (h:FldV w S v x):∃ A1 A3 A4 d1 d3 d4,v=.agg #[.string x.name,.slice A1 x.args.length d1,.string x.tn,.slice A3 x.tw.length d3,.slice A4 x.dirs.length d4]/\FldC w S (fun j=>[.string x.name,.slice A1 x.args.length d1,.string x.tn,.slice A3 x.tw.length d3,.slice A4 x.dirs.length d4].getD j undef) x:=by
 obtain ⟨c0,c1,c2,c3,c4,rfl,hx⟩:=h;obtain ⟨A1,d1,e1,_,_⟩:=hx.args.form;obtain ⟨A3,d3,e3,_,_⟩:=hx.type.wraps.form;obtain ⟨A4,d4,e4,_,_⟩:=hx.dirs.form;have e0:=hx.name;have e2:=hx.type.name;replace e0:c0=.string x.name:=e0;replace e1:c1=.slice A1 x.args.length d1:=e1;replace e2:c2=.string x.tn:=e2;replace e3:c3=.slice A3 x.tw.length d3:=e3;replace e4:c4=.slice A4 x.dirs.length d4:=e4;subst e0 e1 e2 e3 e4;exact ⟨_,_,_,_,_,_,rfl,hx⟩
def MemV (w:World) (S:Nat->Prop) (v:Value) (x:MemT):Prop:=∃ c0 c1,v=.agg #[c0,c1]/\MemC w S (fun j=>[c0,c1].getD j undef) x
theorem MemV.cong {k:Nat} (hk:2<=k) (W:World) (S:Nat->Prop) (g g':Nat->Value) (y:MemT) (h:∀ j,j<k->g j=g' j) (hr:MemC W S g y):MemC W S g' y:=by
 have hh:∀ j,j<2->g j=g' j:=fun j hj=>h j (by omega);obtain ⟨a0,a1,a2⟩:=hr;simp only [hh 0 (by omega),hh 1 (by omega)] at *
 constructor <;> assumption
theorem MemV.shape {w:World} {S:Nat->Prop} {v:Value} {x:MemT} (h:MemV w S v x):∃ A1 d1,v=.agg #[.string x.name,.slice A1 x.dirs.length d1]/\MemC w S (fun j=>[.string x.name,.slice A1 x.dirs.length d1].getD j undef) x:=by
 obtain ⟨c0,c1,rfl,hx⟩:=h;obtain ⟨A1,d1,e1,_,_⟩:=hx.dirs.form;have e0:=hx.name;replace e0:c0=.string x.name:=e0;replace e1:c1=.slice A1 x.dirs.length d1:=e1;subst e0 e1;exact ⟨_,_,rfl,hx⟩
def DirV (w:World) (S:Nat->Prop) (v:Value) (x:DirT):Prop:=∃ c0 c1,v=.agg #[c0,c1]/\DirC w S (fun j=>[c0,c1].getD j undef) x
theorem DirV.cong {k:Nat} (hk:2<=k) (W:World) (S:Nat->Prop) (g g':Nat->Value) (y:DirT) (h:∀ j,j<k->g j=g' j) (hr:DirC W S g y):DirC W S g' y:=by
 have hh:∀ j,j<2->g j=g' j:=fun j hj=>h j (by omega);obtain ⟨a0,a1,a2⟩:=hr;simp only [hh 0 (by omega),hh 1 (by omega)] at *
 constructor <;> assumption
theorem DirV.shape {w:World} {S:Nat->Prop} {v:Value} {x:DirT} (h:DirV w S v x):∃ A1 d1,v=.agg #[.string x.name,.slice A1 x.args.length d1]/\DirC w S (fun j=>[.string x.name,.slice A1 x.args.length d1].getD j undef) x:=by
 obtain ⟨c0,c1,rfl,hx⟩:=h;obtain ⟨A1,d1,e1,_,_⟩:=hx.args.form;have e0:=hx.name;replace e0:c0=.string x.name:=e0;replace e1:c1=.slice A1 x.args.length d1:=e1;subst e0 e1;exact ⟨_,_,rfl,hx⟩
def InpV (w:World) (S:Nat->Prop) (v:Value) (x:InpT):Prop:=∃ c0 c1 c2 c3 c4 c5 c6 c7 c8 c9,v=.agg #[c0,c1,c2,c3,c4,c5,c6,c7,c8,c9]/\InpC w S (fun j=>[c0,c1,c2,c3,c4,c5,c6,c7,c8,c9].getD j undef) x
theorem InpV.cong {k:Nat} (hk:10<=k) (W:World) (S:Nat->Prop) (g g':Nat->Value) (y:InpT) (h:∀ j,j<k->g j=g' j) (hr:InpC W S g y):InpC W S g' y:=by
 have hh:∀ j,j<10->g j=g' j:=fun j hj=>h j (by omega);obtain ⟨a0,a1,a2,a3,a4,a5⟩:=hr;simp only [hh 0 (by omega),hh 1 (by omega),hh 2 (by omega),hh 3 (by omega),hh 4 (by omega),hh 5 (by omega),hh 6 (by omega),hh 7 (by omega),hh 8 (by omega),hh 9 (by omega)] at *
 constructor <;> assumption
theorem InpV.shape {w:World} {S:Nat->Prop} {v:Value} {x:InpT} (h:InpV w S v x):∃ A A2 A9 KA ci ck d2 d9 k li lk s z,v=.agg #[.string x.name,.string x.tn,.slice A2 x.tw.length d2,.bool x.has,.int .i64 k,.int .i64 z,.string s,.slice A li ci,.slice KA lk ck,.slice A9 x.dirs.length d9]/\InpC w S (fun j=>[.string x.name,.string x.tn,.slice A2 x.tw.length d2,.bool x.has,.int .i64 k,.int .i64 z,.string s,.slice A li ci,.slice KA lk ck,.slice A9 x.dirs.length d9].getD j undef) x:=by
 obtain ⟨c0,c1,c2,c3,c4,c5,c6,c7,c8,c9,rfl,hx⟩:=h;obtain ⟨k,z,s,A,li,ci,KA,lk,ck,ev⟩:=hx.val.form;simp only [Value.agg.injEq,Array.mk.injEq,List.cons.injEq,and_true] at ev;obtain ⟨e4,e5,e6,e7,e8⟩:=ev;obtain ⟨A2,d2,e2,_,_⟩:=hx.type.wraps.form;obtain ⟨A9,d9,e9,_,_⟩:=hx.dirs.form;have e0:=hx.name;have e1:=hx.type.name;have e3:=hx.has;replace e0:c0=.string x.name:=e0;replace e1:c1=.string x.tn:=e1;replace e2:c2=.slice A2 x.tw.length d2:=e2;replace e3:c3=.bool x.has:=e3;replace e4:c4=.int .i64 k:=e4;replace e5:c5=.int .i64 z:=e5;replace e6:c6=.string s:=e6;replace e7:c7=.slice A li ci:=e7;replace e8:c8=.slice KA lk ck:=e8;replace e9:c9=.slice A9 x.dirs.length d9:=e9;subst e0 e1 e2 e3 e4 e5 e6 e7 e8 e9;exact ⟨_,_,_,_,_,_,_,_,_,_,_,_,_,rfl,hx⟩
def ArgV (w:World) (S:Nat->Prop) (v:Value) (x:(ByteArray × VT)):Prop:=∃ c0 c1 c2 c3 c4 c5,v=.agg #[c0,c1,c2,c3,c4,c5]/\ArgC w S (fun j=>[c0,c1,c2,c3,c4,c5].getD j undef) x
theorem ArgV.cong {k:Nat} (hk:6<=k) (W:World) (S:Nat->Prop) (g g':Nat->Value) (y:(ByteArray × VT)) (h:∀ j,j<k->g j=g' j) (hr:ArgC W S g y):ArgC W S g' y:=by
 have hh:∀ j,j<6->g j=g' j:=fun j hj=>h j (by omega);obtain ⟨a0,a1,a2⟩:=hr;simp only [hh 0 (by omega),hh 1 (by omega),hh 2 (by omega),hh 3 (by omega),hh 4 (by omega),hh 5 (by omega)] at *
 constructor <;> assumption
theorem ArgV.shape {w:World} {S:Nat->Prop} {v:Value} {x:(ByteArray × VT)} (h:ArgV w S v x):∃ A KA ci ck k li lk s z,v=.agg #[.string x.1,.int .i64 k,.int .i64 z,.string s,.slice A li ci,.slice KA lk ck]/\ArgC w S (fun j=>[.string x.1,.int .i64 k,.int .i64 z,.string s,.slice A li ci,.slice KA lk ck].getD j undef) x:=by
 obtain ⟨c0,c1,c2,c3,c4,c5,rfl,hx⟩:=h;obtain ⟨k,z,s,A,li,ci,KA,lk,ck,ev⟩:=hx.val.form;simp only [Value.agg.injEq,Array.mk.injEq,List.cons.injEq,and_true] at ev;obtain ⟨e1,e2,e3,e4,e5⟩:=ev;have e0:=hx.name;replace e0:c0=.string x.1:=e0;replace e1:c1=.int .i64 k:=e1;replace e2:c2=.int .i64 z:=e2;replace e3:c3=.string s:=e3;replace e4:c4=.slice A li ci:=e4;replace e5:c5=.slice KA lk ck:=e5;subst e0 e1 e2 e3 e4 e5;exact ⟨_,_,_,_,_,_,_,_,_,rfl,hx⟩
def DefV (w:World) (S:Nat->Prop) (v:Value) (x:DefT):Prop:=∃ c0 c1 c2 c3 c4 c5 c6,v=.agg #[c0,c1,c2,c3,c4,c5,c6]/\DefC w S (fun j=>[c0,c1,c2,c3,c4,c5,c6].getD j undef) x
theorem DefV.cong {k:Nat} (hk:7<=k) (W:World) (S:Nat->Prop) (g g':Nat->Value) (y:DefT) (h:∀ j,j<k->g j=g' j) (hr:DefC W S g y):DefC W S g' y:=by
 have hh:∀ j,j<7->g j=g' j:=fun j hj=>h j (by omega);obtain ⟨a0,a1,a2,a3,a4,a5,a6,a7,a8⟩:=hr;simp only [hh 0 (by omega),hh 1 (by omega),hh 2 (by omega),hh 3 (by omega),hh 4 (by omega),hh 5 (by omega),hh 6 (by omega)] at *
 constructor <;> assumption
theorem DefV.shape {w:World} {S:Nat->Prop} {v:Value} {x:DefT} (h:DefV w S v x):∃ A2 A3 A4 A5 A6 d2 d3 d4 d5 d6,v=.agg #[.int .i64 x.kind,.string x.name,.slice A2 x.impl.length d2,.slice A3 x.dirs.length d3,.slice A4 x.fields.length d4,.slice A5 x.members.length d5,.slice A6 x.inputs.length d6]/\DefC w S (fun j=>[.int .i64 x.kind,.string x.name,.slice A2 x.impl.length d2,.slice A3 x.dirs.length d3,.slice A4 x.fields.length d4,.slice A5 x.members.length d5,.slice A6 x.inputs.length d6].getD j undef) x:=by
 obtain ⟨c0,c1,c2,c3,c4,c5,c6,rfl,hx⟩:=h;obtain ⟨A2,d2,e2,_,_⟩:=hx.impl.form;obtain ⟨A3,d3,e3,_,_⟩:=hx.dirs.form;obtain ⟨A4,d4,e4,_,_⟩:=hx.fields.form;obtain ⟨A5,d5,e5,_,_⟩:=hx.members.form;obtain ⟨A6,d6,e6,_,_⟩:=hx.inputs.form;have e0:=hx.kind;have e1:=hx.name;replace e0:c0=.int .i64 x.kind:=e0;replace e1:c1=.string x.name:=e1;replace e2:c2=.slice A2 x.impl.length d2:=e2;replace e3:c3=.slice A3 x.dirs.length d3:=e3;replace e4:c4=.slice A4 x.fields.length d4:=e4;replace e5:c5=.slice A5 x.members.length d5:=e5;replace e6:c6=.slice A6 x.inputs.length d6:=e6;subst e0 e1 e2 e3 e4 e5 e6;exact ⟨_,_,_,_,_,_,_,_,_,_,rfl,hx⟩
theorem ze7 {P:Program} {ops:Array Oper} {Q:Exit->Act->World->Prop} {o:Oper} {a:Act} {w:World} {R:Value->World->Prop} (hw:Region.wanted o (yielded ops a.tmps)=true) (f:FuncId) (xs:Array Operand) (ts:Array TypeId)
  (ho:o.op=.call { callee:=.value (.func f),args:=xs,argTypes:=ts }) (hen:∀ (args:Array Value) (w:World),(callFunc f args).run P w=.ok (.enter f args) w) (vs:Array Value) (hx:xs.map a.eval=vs)
  (hc:Calls P f vs w fun e w'=>(∃ v,e=.returned v/\R v w')∨∃ ch,e=.panicked ch/\Q (.panic ch) a w'):K.Runs P ops Q o a w R:=by
 refine ⟨hw, ?_⟩
 unfold Oper.wp;have he:(execOp a.eval o).run P w=.ok (.enter f vs) w:=by
  simp [execOp,ho,go_sem,hx,hen]
 rw [he];refine hc.mono fun e w' h=>?_;rcases h with ⟨v,hv,hr⟩ | ⟨ch,hv,hq⟩
 ·subst hv; exact ⟨v,rfl,hr⟩
 ·subst hv; exact hq
theorem map4 {α β:Type} (f : α->β) (x y z u : α):(#[x,y,z,u]:Array α).map f=#[f x,f y,f z,f u]:=by simp
theorem yp8 {x0 x1 x2 x3 y0 y1 y2 y3:Value} (h0:x0=y0) (h1:x1=y1) (h2:x2=y2) (h3:x3=y3):(#[x0,x1,x2,x3]:Array Value)=#[y0,y1,y2,y3]:=by rw [h0,h1,h2,h3]
theorem Bk.setl {W:World} {b:Nat} {l:List Value} {T:TypeId} (h:Bk W b l.toArray T) (i:Nat) (u:Value):Bk (W.setCell ⟨b,i,none⟩ u) b (l.set i u).toArray T:=by
 have:=h.set i u
 rwa [List.setIfInBounds_toArray] at this
section
variable {ops:Array Oper} {Q:Exit->Act->World->Prop} {o:Oper} {a:Act} {w:World} {R:Value->World->Prop}
theorem zu0 (hw:Region.wanted o (yielded ops a.tmps)=true) (x:Operand) {v:Value} (ho:o.op=.assign x) (hx:a.eval x=v) (h:R v w):K.Runs Tryz.prog ops Q o a w R :=
 K.zb0 hw (by generalize a.eval=ρ at hx; simp [execOp,ho,go_sem,hx]) h
theorem rp_lenS (hw:Region.wanted o (yielded ops a.tmps)=true) (x:Operand) {A:Option Addr} {l c:Nat} (ho:o.op=.call { callee:=.builtin .len,args:=#[x],argTypes:=#[33] }) (hx:a.eval x=.slice A l c) (h:R (.int .i64 l) w):K.Runs Tryz.prog ops Q o a w R :=
 K.zb0 hw (by generalize a.eval=ρ at hx; simp [execOp,ho,go_sem,hx]) h
theorem rp_lenD (hw:Region.wanted o (yielded ops a.tmps)=true) (x:Operand) {A:Option Addr} {l c:Nat} (ho:o.op=.call { callee:=.builtin .len,args:=#[x],argTypes:=#[22] }) (hx:a.eval x=.slice A l c) (h:R (.int .i64 l) w):K.Runs Tryz.prog ops Q o a w R :=
 K.zb0 hw (by generalize a.eval=ρ at hx; simp [execOp,ho,go_sem,hx]) h
theorem rp_mk (hw:Region.wanted o (yielded ops a.tmps)=true) (f:FuncId) (x:Operand) {v:Value} (ho:o.op=.makeFunc (.func f) #[x] #[]) (hx:a.eval x=v) (h:R (.func (.func f) #[v] #[]) w):K.Runs Tryz.prog ops Q o a w R :=
 K.zb0 hw (by generalize a.eval=ρ at hx; simp [execOp,ho,go_sem,hx]) h
theorem rp_faD (hw:Region.wanted o (yielded ops a.tmps)=true) (x:Operand) {g:Nat} (ho:o.op=.fieldAddr 24 x 0) (hx:a.eval x=.pointer (some ⟨g,0,none⟩)) (h:R (.pointer (some ⟨g,0,none⟩)) w):K.Runs Tryz.prog ops Q o a w R :=
 K.zb0 hw (by generalize a.eval=ρ at hx; simp [execOp,ho,go_sem,hx]) h
theorem rp_ldD (hw:Region.wanted o (yielded ops a.tmps)=true) (x:Operand) {g i:Nat} {v:Value} (ho:o.op=.load 22 x) (hx:a.eval x=.pointer (some ⟨g,i,none⟩)) (hc:w.cell? ⟨g,i,none⟩=some v) (h:R v w):K.Runs Tryz.prog ops Q o a w R :=
 K.zb0 hw (by generalize a.eval=ρ at hx; simp [execOp,ho,go_sem,hx,hc]) h
theorem rp_ne0 (hw:Region.wanted o (yielded ops a.tmps)=true) (x:Operand) {n:Nat} {b:Bool} (ho:o.op=.binOp .neq 3 x (.const (.int .i64 0)) 3) (hx:a.eval x=.int .i64 n) (hb:decide (n≠0)=b) (h:R (.bool b) w):K.Runs Tryz.prog ops Q o a w R :=
 K.rc_neq hw x (.const (.int .i64 0)) ho hx rfl (by rw [<- hb]; rw [Bool.eq_iff_iff]; simp) h
end
theorem yp0:∀ (args:Array Value) (w:World),(callFunc 160 args).run Tryz.prog w=.ok (.enter 160 args) w:=enters_of Tryz.func160 (by kernel_rfl) rfl
theorem zV7:∀ (args:Array Value) (w:World),(callFunc 54 args).run Tryz.prog w=.ok (.enter 54 args) w:=enters_of Tryz.func54 (by kernel_rfl) rfl
abbrev zp5:Array Oper :=
 #[{ dst:=some 16,op:=.move (.tmp 0),type := 102,pos := "parser.go:31",after:=#[],guard:=none },
  { dst:=some 17,op:=.nilCheck (.tmp 16),type:=0,pos := "parser.go:31",after:=#[{ on:=0,ground:=.data }],guard:=none },
  { dst:=some 18,op:=.fieldAddr 67 (.tmp 17) 0,type:=0,pos := "parser.go:31",after:=#[{ on:=1,ground:=.data }],guard:=none },
  { dst:=some 19,op:=.move (.tmp 0),type := 102,pos := "parser.go:31",after:=#[],guard:=none },
  { dst:=some 20,op:=.nilCheck (.tmp 19),type:=0,pos := "parser.go:31",after:=#[{ on:=3,ground:=.data }],guard:=none },
  { dst:=some 21,op:=.fieldAddr 67 (.tmp 20) 0,type:=0,pos := "parser.go:31",after:=#[{ on:=4,ground:=.data }],guard:=none },
  { dst:=some 22,op:=.call { callee:=.value (.func 160),args:=#[.tmp 21],argTypes:=#[65] },type := 4,pos := "parser.go:31",after:=#[{ on:=5,ground:=.data }],guard:=none },
  { dst:=some 23,op:=.move (.tmp 5),type := 33,pos := "parser.go:31",after:=#[],guard:=none },
  { dst:=some 24,op:=.call { callee:=.builtin Builtin.len,args:=#[.tmp 23],argTypes:=#[33] },type := 3,pos := "parser.go:31",after:=#[{ on:=7,ground:=.data }],guard:=none },
  { dst:=some 25,op:=.call { callee:=.value (.func 54),args:=#[.tmp 18,.tmp 22,.tmp 24,.const (.int .i64 64)],argTypes:=#[65, 4, 3, 3] },type:=0,pos := "parser.go:31",after:=#[{ on:=2,ground:=.data }, { on:=6,ground:=.data }, { on:=8,ground:=.data }, { on:=6,ground:=.chain }],guard:=none }]
theorem zx8 {Q:Exit->Act->World->Prop} {id:Nat} {a0:Act} {W:World} {p:Nat} {ts:List Tk} {n:Nat} (h:PSt W p ts n) {A:Option Addr} {l c:Nat} (hb:K.dstB zp5 a0.tmps.size 10=true) (s0:a0.tmps.getD 0 undef=pP p) (s5:a0.tmps.getD 5 undef=.slice A l c)
  (hok:∀ (f:Nat->Value) (w':World),(fun _ w'=>bgR (isNm ts) l 64 ts=.ok ()/\Below W.heap.size W w') (f 25) w'->Q .normal (K.over a0 [16,17,18,19,20,21,22,23,24,25] f) w') (her:∀ (a:Act) (w':World) (z:Er),a.defers=a0.defers->(bgR (isNm ts) l 64 ts=.error z/\Tw p W.heap.size W w')->Q (.panic (malP z)) a w') :
  (Code.region id zp5 true).wp Tryz.prog Q a0 W:=by
 refine K.zd1 (by kernel_rfl) (by kernel_rfl) hb 9 (by kernel_rfl) (by decide) (by decide) (fun o ho=>by cases ho) [K.Fact.is (pP p),K.Fact.is (pP p),K.Fact.is (pP p),K.Fact.is (pP p),K.Fact.is (pP p),K.Fact.is (pP p),K.Fact.is (.bool (isNm ts)),K.Fact.is (.slice A l c),K.Fact.is (.int .i64 (l:Nat))] (fun _ w'=>bgR (isNm ts) l 64 ts=.ok ()/\Below W.heap.size W w') ?_ ?_ (fun o ho=>by cases ho) ?_
 ·intro i o ho hi a w hf hbl had
  have hc:i=0∨i=1∨i=2∨i=3∨i=4∨i=5∨i=6∨i=7∨i=8:=by omega
  rcases hc with rfl | rfl | rfl | rfl | rfl | rfl | rfl | rfl | rfl
  ·cases ho
   have h0:a.tmps.getD 0 undef=pP p:=(hf.slot 0 (by kernel_rfl)).trans s0;exact zb9 rfl (.tmp 0) rfl h0 ⟨Below.refl _ _,rfl⟩
  ·cases ho
   have h16:K.vof _ a 0=pP p:=had ⟨0,.data⟩ (by simp) rfl;exact zm7 rfl (.tmp 16) rfl h16 ⟨Below.refl _ _,rfl⟩
  ·cases ho
   have h17:K.vof _ a 1=pP p:=had ⟨1,.data⟩ (by simp) rfl;exact zp1 rfl (.tmp 17) rfl h17 ⟨Below.refl _ _,rfl⟩
  ·cases ho
   have h0:a.tmps.getD 0 undef=pP p:=(hf.slot 0 (by kernel_rfl)).trans s0;exact zb9 rfl (.tmp 0) rfl h0 ⟨Below.refl _ _,rfl⟩
  ·cases ho
   have h19:K.vof _ a 3=pP p:=had ⟨3,.data⟩ (by simp) rfl;exact zm7 rfl (.tmp 19) rfl h19 ⟨Below.refl _ _,rfl⟩
  ·cases ho
   have h20:K.vof _ a 4=pP p:=had ⟨4,.data⟩ (by simp) rfl;exact zp1 rfl (.tmp 20) rfl h20 ⟨Below.refl _ _,rfl⟩
  ·cases ho
   have h21:K.vof _ a 5=pP p:=had ⟨5,.data⟩ (by simp) rfl;exact K.zK5 rfl _ _ _ rfl yp0 #[pP p] (by rw [K.map1]; exact congrArg (fun x=>#[x]) h21) ((zg7 (h.stay hbl)).mono fun e w' ⟨he,hb2⟩=>⟨_,he,hb2,rfl⟩)
  ·cases ho
   have h5:a.tmps.getD 5 undef=.slice A l c:=(hf.slot 5 (by kernel_rfl)).trans s5;exact zb9 rfl (.tmp 5) rfl h5 ⟨Below.refl _ _,rfl⟩
  ·cases ho
   have h23:K.vof _ a 7=.slice A l c:=had ⟨7,.data⟩ (by simp) rfl;exact rp_lenS rfl (.tmp 23) rfl h23 ⟨Below.refl _ _,rfl⟩
 ·intro o ho a w hf hbl hF
  cases ho
  have h2:K.vof _ a 2=pP p:=hF 2 (by omega);have h6:K.vof _ a 6=.bool (isNm ts):=hF 6 (by omega);have h8:K.vof _ a 8=.int .i64 (l:Nat):=hF 8 (by omega);refine ze7 rfl _ _ _ rfl zV7 #[pP p,.bool (isNm ts),.int .i64 (l:Nat),.int .i64 64] (by rw [map4]; exact yp8 h2 h6 h8 rfl) ((zi8 (h.stay hbl) (isNm ts) l 64 l 64 rfl rfl).mono fun e w' hw=>?_)
  rcases hw with ⟨hg,he,hb2⟩ | ⟨z,hg,he,ht⟩
  ·exact .inl ⟨_,he,hg,hbl.trans (hb2.mono hbl.size)⟩
  ·exact .inr ⟨malP z,he,her a w' z hf.1 ⟨hg,(Tw.of hbl:Tw p _ W w).step hbl.size ht⟩⟩
 ·intro a w hf hC h1
  rw [K.zg2 hf [16,17,18,19,20,21,22,23,24,25] (by kernel_rfl)];exact hok (fun d=>a.tmps.getD d undef) w hC
end Go.Proofs.YtfgelheiknmjgaaGreatDoor
namespace Go.Proofs.YtfgelheiknmjgaaGreatDoor
open Go.RowKit
def isVal (ts:List Tk):Bool:=decide ((hd ts).1=2)||(decide ((hd ts).1=3)||(decide ((hd ts).1=4)||(isSg [91] ts||isSg [123] ts)))
def bvR (lv:Nat) (ts:List Tk) (n:Nat):Except Er Unit:=if isVal ts=false then .error (erR ts 3) else if 24<lv then .error (erR ts 5) else if 4096<n+1 then .error (erR ts 4) else .ok ()
def nmV (x:ByteArray):VT:=if x=⟨#[116,114,117,101]⟩ then .mk 1 1 ⟨#[]⟩ [] [] else if x=⟨#[102,97,108,115,101]⟩ then .mk 1 0 ⟨#[]⟩ [] [] else if x=⟨#[110,117,108,108]⟩ then .mk 0 0 ⟨#[]⟩ [] [] else .mk 4 0 x [] []
theorem PSt.vars {w:World} {p:Nat} {ts:List Tk} {n:Nat} (h:PSt w p ts n):w.cell? ⟨p,2,none⟩=some (.bool false):=by
 obtain ⟨A,c,hb,_⟩:=h.box;exact hb.cell 2 _ rfl
theorem zL4 {w:World} {p:Nat} {ts:List Tk} {n:Nat} (h:PSt w p ts n):Calls Tryz.prog 271 #[pP p] w (fun e w'=>e=.returned (.bool (isVal ts))/\Below w.heap.size w w'):=by
 have hf0:=fld0;obtain ⟨⟨k,tx,i⟩,r,rfl⟩:=h.good.ne;have HP:=Lh h;have HV:Hid (isVal ((k,tx,i)::r)=(decide (k=2)||(decide (k=3)||(decide (k=4)||(isSg [91] ((k,tx,i)::r)||isSg [123] ((k,tx,i)::r)))))):=Lh rfl;have hnx:Calls Tryz.prog 52 #[pP p] w fun e w'=>e=.returned (.agg #[.int .i64 k,.string ⟨tx.toArray⟩,.int .i64 i])/\Below w.heap.size w w':=zh4 h;have HN:=Lh hnx;clear h hnx;generalize isVal ((k,tx,i)::r)=RB at *;by_cases k2:k=2
 ·have HV2:Hid (RB=true):=Lh (by rw [HV.out,decide_eq_true k2]; rfl)
  subst k2
  go_enter Tryz.func271, Tryz.ntmps271
  go_wp2_with fail
  refine HN.out.mono ?_
  rintro e w1 ⟨rfl,hb⟩;have HB:=Lh hb;clear hb;go_wp2_with fail;go_ret
  exact ⟨by rw [HV2.out]; rfl,HB.out⟩
 have j2:(k==2)=false:=by rw [beq_eq_false_iff_ne]; exact k2
 by_cases k3:k=3
 ·have HV2:Hid (RB=true):=Lh (by rw [HV.out,decide_eq_true k3]; simp)
  subst k3;clear k2
  go_enter Tryz.func271, Tryz.ntmps271
  go_wp2_with fail
  refine HN.out.mono ?_
  rintro e w1 ⟨rfl,hb⟩;have HB:=Lh hb;clear hb;go_wp2_with fail;go_ret
  exact ⟨by rw [HV2.out]; rfl,HB.out⟩
 have j3:(k==3)=false:=by rw [beq_eq_false_iff_ne]; exact k3
 by_cases k4:k=4
 ·have HV2:Hid (RB=true):=Lh (by rw [HV.out,decide_eq_true k4]; simp)
  subst k4;clear k2 k3
  go_enter Tryz.func271, Tryz.ntmps271
  go_wp2_with fail
  refine HN.out.mono ?_
  rintro e w1 ⟨rfl,hb⟩;have HB:=Lh hb;clear hb;go_wp2_with fail;go_ret
  exact ⟨by rw [HV2.out]; rfl,HB.out⟩
 have j4:(k==4)=false:=by rw [beq_eq_false_iff_ne]; exact k4
 have HV3:Hid (RB=(isSg [91] ((k,tx,i)::r)||isSg [123] ((k,tx,i)::r))):=Lh (by rw [HV.out,decide_eq_false k2,decide_eq_false k3,decide_eq_false k4]; rfl);clear k2 k3 k4 HV;have h1:=fun (W:World) (hb:Below w.heap.size w W)=>zg6 (HP.out.stay hb) ⟨#[91]⟩;have h2:=fun (W:World) (hb:Below w.heap.size w W)=>zg6 (HP.out.stay hb) ⟨#[123]⟩
 cases b1:isSg [91] ((k,tx,i)::r) with
 | true =>
   rw [show isSg (⟨#[91]⟩ : ByteArray).data.toList ((k,tx,i)::r)=true from b1] at h1;have H1:=Lh h1;have HV4:Hid (RB=true):=Lh (by rw [HV3.out,b1]; rfl);clear h1 h2 b1
   go_enter Tryz.func271, Tryz.ntmps271
   go_wp2_with fail
   refine HN.out.mono ?_
   rintro e w1 ⟨rfl,hb⟩;have HB:=Lh hb;clear hb;go_wp2_with fail;refine (H1.out _ HB.out).mono ?_
   rintro e w2 ⟨rfl,hb⟩;have HB2:=Lh (HB.out.trans (hb.mono HB.out.size));clear hb;go_wp2_with fail;go_ret
   exact ⟨by rw [HV4.out]; rfl,HB2.out⟩
 | false =>
   rw [show isSg (⟨#[91]⟩ : ByteArray).data.toList ((k,tx,i)::r)=false from b1] at h1;have H1:=Lh h1
   cases b2:isSg [123] ((k,tx,i)::r) with
   | true =>
     rw [show isSg (⟨#[123]⟩ : ByteArray).data.toList ((k,tx,i)::r)=true from b2] at h2;have H2:=Lh h2;have HV4:Hid (RB=true):=Lh (by rw [HV3.out,b1,b2]; rfl);clear h1 h2 b1 b2
     go_enter Tryz.func271, Tryz.ntmps271
     go_wp2_with fail
     refine HN.out.mono ?_
     rintro e w1 ⟨rfl,hb⟩;have HB:=Lh hb;clear hb;go_wp2_with fail;refine (H1.out _ HB.out).mono ?_
     rintro e w2 ⟨rfl,hb⟩;have HB2:=Lh (HB.out.trans (hb.mono HB.out.size));clear hb;go_wp2_with fail;refine (H2.out _ HB2.out).mono ?_
     rintro e w3 ⟨rfl,hb⟩;have HB3:=Lh (HB2.out.trans (hb.mono HB2.out.size));have c2:=(HP.out.stay HB3.out).vars;clear hb;go_wp2_with fail;go_ret
     exact ⟨by rw [HV4.out]; rfl,HB3.out⟩
   | false =>
     rw [show isSg (⟨#[123]⟩ : ByteArray).data.toList ((k,tx,i)::r)=false from b2] at h2;have H2:=Lh h2;have HV4:Hid (RB=false):=Lh (by rw [HV3.out,b1,b2]; rfl);clear h1 h2 b1 b2
     go_enter Tryz.func271, Tryz.ntmps271
     go_wp2_with fail
     refine HN.out.mono ?_
     rintro e w1 ⟨rfl,hb⟩;have HB:=Lh hb;clear hb;go_wp2_with fail;refine (H1.out _ HB.out).mono ?_
     rintro e w2 ⟨rfl,hb⟩;have HB2:=Lh (HB.out.trans (hb.mono HB.out.size));clear hb;go_wp2_with fail;refine (H2.out _ HB2.out).mono ?_
     rintro e w3 ⟨rfl,hb⟩;have HB3:=Lh (HB2.out.trans (hb.mono HB2.out.size));have c2:=(HP.out.stay HB3.out).vars;clear hb;go_wp2_with fail;go_ret
     exact ⟨by rw [HV4.out]; rfl,HB3.out⟩
theorem PSt.count {w:World} {p:Nat} {ts:List Tk} {n m:Nat} (h:PSt w p ts n) (hm:m<=4097):PSt (w.setCell ⟨p,3,none⟩ (.int .i64 m)) p ts m:=by
 obtain ⟨A,c,hb,hc,ht⟩:=h.box;have hbel:Below p w (w.setCell ⟨p,3,none⟩ (.int .i64 m)):=(Below.refl p w).setCell (p:=⟨p,3,none⟩) (Nat.le_refl _) _;exact ⟨⟨A,c,hb.n4 _,hc,ht.kept hbel⟩,h.good,hm,fun w2 h2=>h.laid w2 (hbel.trans h2)⟩
theorem PSt.cells {w:World} {p:Nat} {ts:List Tk} {n:Nat} (h:PSt w p ts n):w.cell? ⟨p,3,none⟩=some (.int .i64 n)/\w.frozen? ⟨p,3,none⟩=false:=by
 obtain ⟨A,c,hb,_⟩:=h.box;exact ⟨hb.cell 3 _ rfl,hb.frz 3⟩
theorem ze1 {w:World} {p:Nat} {ts:List Tk} {n:Nat} (h:PSt w p ts n) (hn:n<=4096) (lv:Nat) (x:Int) (hx:x=lv):Calls Tryz.prog 256 #[pP p,.int .i64 x] w (fun e w'=>(bvR lv ts n=.ok ()/\e=.returned (.tuple #[])/\PSt w' p ts (n+1)/\Tw p w.heap.size w w')∨(∃ z,bvR lv ts n=.error z/\e=badV z/\Tw p w.heap.size w w')):=by
 have HP:=Lh h;have HV:Hid (bvR lv ts n=if isVal ts=false then .error (erR ts 3) else if 24<lv then .error (erR ts 5) else if 4096<n+1 then .error (erR ts 4) else .ok ()):=Lh rfl;have hc:=zL4 h;clear h;generalize bvR lv ts n=R at *
 cases hv:isVal ts with
 | false =>
   rw [hv] at hc;have HC:=Lh hc;have HV2:Hid (R=.error (erR ts 3)):=Lh (by rw [HV.out,hv]; rfl);clear hc hv HV
   go_enter Tryz.func256, Tryz.ntmps256
   go_wp2_with fail
   refine HC.out.mono ?_
   rintro e w1 ⟨rfl,hb⟩;have HB:=Lh hb;clear hb;go_wp2_with fail;exact zg8 7 (HP.out.stay HB.out) (by kernel_rfl) rfl (by kernel_rfl) fun a w3 hf hb=>⟨hf.1.trans rfl,.inr ⟨_,HV2.out,rfl,(Tw.of HB.out).step HB.out.size (.of hb)⟩⟩
 | true =>
   rw [hv] at hc;have HC:=Lh hc;have HV1:Hid (R=if 24<lv then .error (erR ts 5) else if 4096<n+1 then .error (erR ts 4) else .ok ()):=Lh (by rw [HV.out,hv]; rfl);clear hc hv HV;by_cases hl:24<lv
   ·have hl':x > 24:=by omega
    have HV2:Hid (R=.error (erR ts 5)):=Lh (by rw [HV1.out,if_pos hl]);clear hl HV1 hx
    go_enter Tryz.func256, Tryz.ntmps256
    go_wp2_with fail
    refine HC.out.mono ?_
    rintro e w1 ⟨rfl,hb⟩;have HB:=Lh hb;clear hb;go_wp2_with fail;exact zg8 16 (HP.out.stay HB.out) (by kernel_rfl) rfl (by kernel_rfl) fun a w3 hf hb=>⟨hf.1.trans rfl,.inr ⟨_,HV2.out,rfl,(Tw.of HB.out).step HB.out.size (.of hb)⟩⟩
   ·have hl':¬ x > 24:=by omega
    have HV2:Hid (R=if 4096<n+1 then .error (erR ts 4) else .ok ()):=Lh (by rw [HV1.out,if_neg hl]);clear hl HV1 hx;by_cases hn4:4096<n+1
    ·have hn5:(n:Int)+1 > 4096:=by omega
     have hn6:(n:Int)<=4097:=by omega
     have HV3:Hid (R=.error (erR ts 4)):=Lh (by rw [HV2.out,if_pos hn4]);clear hn4 HV2
     go_enter Tryz.func256, Tryz.ntmps256
     go_wp2_with fail
     refine HC.out.mono ?_
     rintro e w1 ⟨rfl,hb⟩;have HB:=Lh hb;have HP1:=Lh (HP.out.stay hb);clear hb;obtain ⟨q1,f1⟩:=HP1.out.cells;have hHT:Tw p w.heap.size w w1:=.of HB.out;have HT1:=Lh hHT;clear hHT;go_wp2_with fail;have HP2:Hid (PSt (w1.setCell ⟨p,3,none⟩ (.int .i64 ((n:Int)+1))) p ts (n+1)):=Lh (HP1.out.count (m:=n+1) (by omega));exact zg8 35 HP2.out (by kernel_rfl) rfl (by kernel_rfl) fun a w3 hf hb=>⟨hf.1.trans rfl,.inr ⟨_,HV3.out,rfl,(HT1.out.set 3 (.int .i64 ((n:Int)+1))).trans ((Tw.of hb:Tw p _ _ w3).mono (by have:=HB.out.size; simp [World.setCell]; omega))⟩⟩
    ·have hn5:¬ (n:Int)+1 > 4096:=by omega
     have hn6:(n:Int)<=4096:=by omega
     have HV3:Hid (R=.ok ()):=Lh (by rw [HV2.out,if_neg hn4]);clear hn4 HV2
     go_enter Tryz.func256, Tryz.ntmps256
     go_wp2_with fail
     refine HC.out.mono ?_
     rintro e w1 ⟨rfl,hb⟩;have HB:=Lh hb;have HP1:=Lh (HP.out.stay hb);clear hb;obtain ⟨q1,f1⟩:=HP1.out.cells;have hHT:Tw p w.heap.size w w1:=.of HB.out;have HT1:=Lh hHT;clear hHT;go_wp2_with fail;have HP2:Hid (PSt (w1.setCell ⟨p,3,none⟩ (.int .i64 ((n:Int)+1))) p ts (n+1)):=Lh (HP1.out.count (m:=n+1) (by omega))
     go_end0
     exact .inl ⟨HV3.out,rfl,HP2.out,HT1.out.set 3 _⟩
def zh0 (w:World) (p:Nat) (n len:Nat) (r:Except Er (VT × List Tk × Nat)) (e:Ending) (w':World):Prop :=
 (∃ t ts m v,r=.ok (t,ts,m)/\e=.returned v/\RdS w' (fun b=>w.heap.size<=b/\b<w'.heap.size) v t/\PSt w' p ts m/\Tw p w.heap.size w w'/\n<m/\m<=4096/\ts.length<len)∨(∃ x,r=.error x/\e=badV x/\Tw p w.heap.size w w')
theorem zu4 (w:World) (S:Nat->Prop) (k n:Int) (s:ByteArray) (hk:small k) (hn:small n) (hs:s.size<=140737488351232):RdS w S (.agg #[.int .i64 k,.int .i64 n,.string s,.slice none 0 0,.slice none 0 0]) (.mk k n s [] []) :=
 .mk (fun _=>undef) hk hn hs (by simp) rfl rfl (by omega) (by omega) (fun h=>absurd h (Nat.lt_irrefl _)) (fun i t h=>by simp at h) (fun h=>by simp at h)
theorem bool_t (w:World):Calls Tryz.prog 272 #[.bool true] w fun e w'=>e=.returned (.agg #[.int .i64 1,.int .i64 1,.string ⟨#[]⟩,.slice none 0 0,.slice none 0 0])/\Below w.heap.size w w':=zW5 true w
theorem bool_f (w:World):Calls Tryz.prog 272 #[.bool false] w fun e w'=>e=.returned (.agg #[.int .i64 1,.int .i64 0,.string ⟨#[]⟩,.slice none 0 0,.slice none 0 0])/\Below w.heap.size w w':=zW5 false w
theorem nm_eq (x:ByteArray) (l:List UInt8):(x.toList==l)=decide (x=⟨l.toArray⟩):=zp7 x l
theorem zZ8 (x:ByteArray) (hx:x.size<=1000000) (w:World):Calls Tryz.prog 257 #[.string x] w (fun e w'=>(∃ k n s,e=.returned (.agg #[.int .i64 k,.int .i64 n,.string s,.slice none 0 0,.slice none 0 0])/\nmV x=.mk k n s [] []/\small k/\small n/\s.size<=1000000)/\Below w.heap.size w w'):=by
 have e1:=nm_eq x [116,114,117,101];have e2:=nm_eq x [102,97,108,115,101];have e3:=nm_eq x [110,117,108,108];have HX:=Lh hx;have HV:Hid (nmV x=if x=⟨#[116,114,117,101]⟩ then .mk 1 1 ⟨#[]⟩ [] [] else if x=⟨#[102,97,108,115,101]⟩ then .mk 1 0 ⟨#[]⟩ [] [] else if x=⟨#[110,117,108,108]⟩ then .mk 0 0 ⟨#[]⟩ [] [] else .mk 4 0 x [] []):=Lh rfl;have hX:Bk (w.alloc (.cells #[.int .i64 0,.int .i64 0,.string ⟨#[]⟩,.slice none 0 0,.slice none 0 0] 53 (0,0))) w.heap.size #[.int .i64 0,.int .i64 0,.string ⟨#[]⟩,.slice none 0 0,.slice none 0 0] 53 := Bk.new _ _ _;have HX0:=Lh hX;have HB0:=Lh (za0 w (.cells #[.int .i64 0,.int .i64 0,.string ⟨#[]⟩,.slice none 0 0,.slice none 0 0] 53 (0,0)));generalize nmV x=V at *;clear hx hX;by_cases h1:x=⟨#[116,114,117,101]⟩
 ·rw [decide_eq_true h1] at e1
  have HV2:Hid (V=.mk 1 1 ⟨#[]⟩ [] []):=Lh (by rw [HV.out,if_pos h1]);clear h1 e2 e3 HV
  go_enter Tryz.func257, Tryz.ntmps257
  go_wp2_with fail
  refine (bool_t _).mono ?_
  rintro e w1 ⟨rfl,hb⟩;have hx1:=HX0.out.stay hb;have HB1:=Lh (HB0.out.trans (hb.mono HB0.out.size));obtain ⟨x0,x1,x2,x3,x4⟩:=hx1.c5;have g0:=hx1.frz 0;have g1:=hx1.frz 1;have g2:=hx1.frz 2;have g3:=hx1.frz 3;have g4:=hx1.frz 4;have HZ:=Lh (((((hx1.set 0 (.int .i64 1)).set 1 (.int .i64 1)).set 2 (.string ⟨#[]⟩)).set 3 (.slice none 0 0)).set 4 (.slice none 0 0));have HB2:=Lh (((((HB1.out.setCell (p:=⟨w.heap.size,0,none⟩) (Nat.le_refl _) (.int .i64 1)).setCell (p:=⟨w.heap.size,1,none⟩) (Nat.le_refl _) (.int .i64 1)).setCell (p:=⟨w.heap.size,2,none⟩) (Nat.le_refl _) (.string ⟨#[]⟩)).setCell (p:=⟨w.heap.size,3,none⟩) (Nat.le_refl _) (.slice none 0 0)).setCell (p:=⟨w.heap.size,4,none⟩) (Nat.le_refl _) (.slice none 0 0));clear hb hx1;go_wp2_with fail;obtain ⟨z0,z1,z2,z3,z4⟩:=HZ.out.c5;refine bodyPost_ret (v:=.agg #[.int .i64 1,.int .i64 1,.string ⟨#[]⟩,.slice none 0 0,.slice none 0 0]) (by simp [results,Tryz.results257,go_sem,z0,z1,z2,z3,z4]) rfl ⟨⟨_,_,_,rfl,HV2.out,by unfold small; omega,by unfold small; omega,by first | exact HX.out | decide⟩,HB2.out⟩
 rw [decide_eq_false h1] at e1;by_cases h2:x=⟨#[102,97,108,115,101]⟩
 ·rw [decide_eq_true h2] at e2
  have HV2:Hid (V=.mk 1 0 ⟨#[]⟩ [] []):=Lh (by rw [HV.out,if_neg h1,if_pos h2]);clear h1 h2 e3 HV
  go_enter Tryz.func257, Tryz.ntmps257
  go_wp2_with fail
  refine (bool_f _).mono ?_
  rintro e w1 ⟨rfl,hb⟩;have hx1:=HX0.out.stay hb;have HB1:=Lh (HB0.out.trans (hb.mono HB0.out.size));obtain ⟨x0,x1,x2,x3,x4⟩:=hx1.c5;have g0:=hx1.frz 0;have g1:=hx1.frz 1;have g2:=hx1.frz 2;have g3:=hx1.frz 3;have g4:=hx1.frz 4;have HZ:=Lh (((((hx1.set 0 (.int .i64 1)).set 1 (.int .i64 0)).set 2 (.string ⟨#[]⟩)).set 3 (.slice none 0 0)).set 4 (.slice none 0 0));have HB2:=Lh (((((HB1.out.setCell (p:=⟨w.heap.size,0,none⟩) (Nat.le_refl _) (.int .i64 1)).setCell (p:=⟨w.heap.size,1,none⟩) (Nat.le_refl _) (.int .i64 0)).setCell (p:=⟨w.heap.size,2,none⟩) (Nat.le_refl _) (.string ⟨#[]⟩)).setCell (p:=⟨w.heap.size,3,none⟩) (Nat.le_refl _) (.slice none 0 0)).setCell (p:=⟨w.heap.size,4,none⟩) (Nat.le_refl _) (.slice none 0 0));clear hb hx1;go_wp2_with fail;obtain ⟨z0,z1,z2,z3,z4⟩:=HZ.out.c5;refine bodyPost_ret (v:=.agg #[.int .i64 1,.int .i64 0,.string ⟨#[]⟩,.slice none 0 0,.slice none 0 0]) (by simp [results,Tryz.results257,go_sem,z0,z1,z2,z3,z4]) rfl ⟨⟨_,_,_,rfl,HV2.out,by unfold small; omega,by unfold small; omega,by first | exact HX.out | decide⟩,HB2.out⟩
 rw [decide_eq_false h2] at e2;by_cases h3:x=⟨#[110,117,108,108]⟩
 ·rw [decide_eq_true h3] at e3
  have HV2:Hid (V=.mk 0 0 ⟨#[]⟩ [] []):=Lh (by rw [HV.out,if_neg h1,if_neg h2,if_pos h3]);clear h1 h2 h3 HV
  go_enter Tryz.func257, Tryz.ntmps257
  go_wp2_with fail
  refine bodyPost_ret (v:=.agg #[.int .i64 0,.int .i64 0,.string ⟨#[]⟩,.slice none 0 0,.slice none 0 0]) (by simp [results,Tryz.results257,go_sem]) rfl ⟨⟨_,_,_,rfl,HV2.out,by unfold small; omega,by unfold small; omega,by decide⟩,HB0.out⟩
 ·rw [decide_eq_false h3] at e3
  have HV2:Hid (V=.mk 4 0 x [] []):=Lh (by rw [HV.out,if_neg h1,if_neg h2,if_neg h3]);clear h1 h2 h3 HV
  go_enter Tryz.func257, Tryz.ntmps257
  go_wp2_with fail
  refine (enum_any x _).mono ?_
  rintro e w1 ⟨rfl,hb⟩;have hx1:=HX0.out.stay hb;have HB1:=Lh (HB0.out.trans (hb.mono HB0.out.size));obtain ⟨x0,x1,x2,x3,x4⟩:=hx1.c5;have g0:=hx1.frz 0;have g1:=hx1.frz 1;have g2:=hx1.frz 2;have g3:=hx1.frz 3;have g4:=hx1.frz 4;have HZ:=Lh (((((hx1.set 0 (.int .i64 4)).set 1 (.int .i64 0)).set 2 (.string x)).set 3 (.slice none 0 0)).set 4 (.slice none 0 0));have HB2:=Lh (((((HB1.out.setCell (p:=⟨w.heap.size,0,none⟩) (Nat.le_refl _) (.int .i64 4)).setCell (p:=⟨w.heap.size,1,none⟩) (Nat.le_refl _) (.int .i64 0)).setCell (p:=⟨w.heap.size,2,none⟩) (Nat.le_refl _) (.string x)).setCell (p:=⟨w.heap.size,3,none⟩) (Nat.le_refl _) (.slice none 0 0)).setCell (p:=⟨w.heap.size,4,none⟩) (Nat.le_refl _) (.slice none 0 0));clear hb hx1;go_wp2_with fail;obtain ⟨z0,z1,z2,z3,z4⟩:=HZ.out.c5;refine bodyPost_ret (v:=.agg #[.int .i64 4,.int .i64 0,.string x,.slice none 0 0,.slice none 0 0]) (by simp [results,Tryz.results257,go_sem,z0,z1,z2,z3,z4]) rfl ⟨⟨_,_,_,rfl,HV2.out,by unfold small; omega,by unfold small; omega,by first | exact HX.out | decide⟩,HB2.out⟩
end Go.Proofs.YtfgelheiknmjgaaGreatDoor

