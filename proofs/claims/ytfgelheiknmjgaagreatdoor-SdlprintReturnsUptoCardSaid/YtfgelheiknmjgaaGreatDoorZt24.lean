
/-
 Texts joined: I4.
-/
import Derived.Test.YtfgelheiknmjgaaGreatDoorZt23
set_option maxRecDepth 1000000
set_option maxHeartbeats 8000000
namespace Go.Proofs.YtfgelheiknmjgaaGreatDoor
open Go.RowKit
theorem yo9:∀ (args:Array Value) (w:World),(callFunc 55 args).run Tryz.prog w=.ok (.enter 55 args) w:=enters_of Tryz.func55 (by kernel_rfl) rfl
theorem yn4:(Tryz.prog.info? 39).map (fun i=>(i.zero,i.size,i.bytes))=some (some (.agg #[.int .i64 0,.string ⟨#[]⟩,.slice none 0 0,.slice none 0 0,.slice none 0 0,.slice none 0 0,.slice none 0 0]),7,144):=by kernel_rfl
abbrev DfT:=Nat->List Tk->Except Er (DefT × List Tk)
def docP (el:DfT):Nat->List DefT->List Tk->Except Er (List DefT × List Tk)
 | 0,_,_=>.error (0,99)
 | f+1,l,ts=>if l.length≠0/\(hd ts).1=5 then .ok (l,ts) else exB (bgR (decide (kdR (hd ts)≠0)) l.length 64 ts) fun _=>exB (el (kdR (hd ts)) ts) fun q=>docP el f (l++[q.1]) q.2
theorem zq0 (el:DfT) (f:Nat) (l:List DefT) (ts:List Tk):docP el (f+1) l ts=if l.length≠0/\(hd ts).1=5 then .ok (l,ts) else exB (bgR (decide (kdR (hd ts)≠0)) l.length 64 ts) fun _=>exB (el (kdR (hd ts)) ts) fun q=>docP el f (l++[q.1]) q.2:=rfl
def docR (el:DfT) (ts:List Tk):Except Er (List DefT × List Tk):=docP el (ts.length+1) [] ts
def DocV (w:World) (S:Nat->Prop) (v:Value) (x:List DefT):Prop:=∃ u,v=.agg #[u]/\DefsC w S u x
structure DSt (w0:World) (p:Nat) (dr:Value) (cells:List Value) (l:List DefT) (ts:List Tk) (n:Nat) (w:World):Prop where
 pst:PSt w p ts n
 box:Bk w (w0.heap.size+1) #[dr] 24
 els:Els 39 7 DefC w (w0.heap.size+2) dr cells l
 res:Bk w w0.heap.size #[.slice none 0 0] 24
 tw:Tw p w0.heap.size w0 w
 op:p<w0.heap.size
 size:w0.heap.size+2<=w.heap.size
variable {w0 w w':World} {p n m:Nat} {dr:Value} {cells:List Value} {l:List DefT} {ts ts':List Tk}
theorem DSt.tws (h:DSt w0 p dr cells l ts n w) (ht:Tw p w.heap.size w w') (hp:PSt w' p ts' m):DSt w0 p dr cells l ts' m w':=by
 have h1:=h.op;have h2:=h.size;exact ⟨hp,h.box.far ht (by omega),h.els.tw DefC.stays (by omega) ht,h.res.far ht (by omega),h.tw.step h.tw.size ht,h1,Nat.le_trans h2 ht.size⟩
theorem DSt.stay (h:DSt w0 p dr cells l ts n w) (hb:Below w.heap.size w w'):DSt w0 p dr cells l ts n w':=h.tws (.of hb) (h.pst.stay hb)
theorem DSt.row (h:DSt w0 p dr cells l ts n w):w.cell? ⟨w0.heap.size+1,0,none⟩=some dr:=h.box.cell 0 _ rfl
theorem DSt.push {dr':Value} {x:DefT} {f:Nat->Value} {news:List Value} {w1:World} (h:DSt w0 p dr cells l ts n w) (hw1:Below w.heap.size w w1)
  (hx:DefC w (fun b=>w0.heap.size+2<=b/\b<w.heap.size/\dr.ownBlock≠some b) f x) (hf:∀ j,j<7->news.getD j undef=f j)
  (h1:w'.ownsRow (w0.heap.size+2) 39 7 dr' (l.length+1) (cells++news)) (h2:w1.grownBy w' dr.ownBlock) (h3:dr'.ownBlock=dr.ownBlock∨∃ g,dr'.ownBlock=some g/\w1.heap.size<=g) :
  DSt w0 p dr' (cells++news) (l++[x]) ts n (w'.setCell ⟨w0.heap.size+1,0,none⟩ dr'):=by
 have ho:=h.op;have hz:=h.size;have hs1:=hw1.size;have hs2:=h2.size;obtain ⟨he,hbel⟩:=Els.push DefC.stays h.els hw1 hz hx hf (DefV.cong (Nat.le_refl _)) h1 h2 h3;have hset:∀ b,b≠w0.heap.size+1->(w'.setCell ⟨w0.heap.size+1,0,none⟩ dr').heap[b]?=w'.heap[b]?:=fun b hb=>Below.heap_setCell _ _ _ _ hb;have hall:∀ b,b<w0.heap.size+2->b≠w0.heap.size+1->(w'.setCell ⟨w0.heap.size+1,0,none⟩ dr').heap[b]?=w.heap[b]?:=fun b hb hn=>(hset b hn).trans (hbel.block b hb);have hsz:(w'.setCell ⟨w0.heap.size+1,0,none⟩ dr').heap.size=w'.heap.size:=by simp [World.setCell]
 refine ⟨h.pst.same ⟨hbel.os,hbel.tape,hbel.output,by omega,fun b hb=>hall b (by omega) (by omega)⟩, ?_, ?_,(hall _ (by omega) (by omega)).trans h.res,
  h.tw.trans ⟨hbel.os,hbel.tape,hbel.output,by omega,fun k hk hkp=>hall k (by omega) (by omega)⟩,ho,by omega⟩
 ·have hb:Bk w' (w0.heap.size+1) #[dr] 24 := (hbel.block _ (by omega)).trans h.box
  exact hb.set 0 dr'
 ·refine ⟨zz0 he.own (fun g hg _ hb=>hset g (by omega)),fun i y hy=>DefC.stays.kept (he.els i y hy) (fun b hb=>hset b (by have:=hb.1; omega)) (fun b hb=>⟨hb.1,by rw [hsz]; exact hb.2.1,hb.2.2⟩)⟩
def pvD (vb:Nat) (row x2 x3:Value):Nat->Option Value
 | 0=>some (.pointer (some ⟨vb,0,none⟩))
 | 1=>some row
 | 2=>some x2
 | 3=>some x3
 | 7=>some (.pointer (some ⟨vb,0,none⟩))
 | _=>none
def DfC (w0:World) (p:Nat) (dr:Value) (cells:List Value) (l:List DefT) (r:Except Er (DefT × List Tk)) (len:Nat) (u:Value) (w:World):Prop:=∃ x ts' m,r=.ok (x,ts')/\ts'.length<len/\(∃ c0 c1 c2 c3 c4 c5 c6,u=.agg #[c0,c1,c2,c3,c4,c5,c6]/\DefC w (fun b=>w0.heap.size+2<=b/\b<w.heap.size/\dr.ownBlock≠some b) (fun j=>[c0,c1,c2,c3,c4,c5,c6].getD j undef) x)/\DSt w0 p dr cells l ts' m w
def DfG (w0:World) (p:Nat) (dr:Value) (cells:List Value) (l:List DefT) (r:Except Er (DefT × List Tk)) (len:Nat) (u:Value) (w:World):Prop:=∃ x ts' m w1 c0 c1 c2 c3 c4 c5 c6,r=.ok (x,ts')/\ts'.length<len/\u=.slice (some ⟨w1.heap.size,0,none⟩) 1 1/\w=w1.alloc (.cells #[c0,c1,c2,c3,c4,c5,c6] 39 (0,0)) /\
 DefC w1 (fun b=>w0.heap.size+2<=b/\b<w1.heap.size/\dr.ownBlock≠some b) (fun j=>[c0,c1,c2,c3,c4,c5,c6].getD j undef) x/\DSt w0 p dr cells l ts' m w1
def DfE (w0:World) (p:Nat) (dr:Value) (cells:List Value) (l:List DefT) (r:Except Er (DefT × List Tk)) (len:Nat) (u:Value) (w:World):Prop:=∃ x ts' m w1 c0 c1 c2 c3 c4 c5 c6,r=.ok (x,ts')/\ts'.length<len /\
 DefC w1 (fun b=>w0.heap.size+2<=b/\b<w1.heap.size/\dr.ownBlock≠some b) (fun j=>[c0,c1,c2,c3,c4,c5,c6].getD j undef) x/\DSt w0 p dr cells l ts' m w1 /\
 w.ownsRow (w0.heap.size+2) 39 7 u (l.length+1) (cells++[c0,c1,c2,c3,c4,c5,c6])/\(w1.alloc (.cells #[c0,c1,c2,c3,c4,c5,c6] 39 (0,0))).grownBy w dr.ownBlock/\(u.ownBlock=dr.ownBlock∨∃ g,u.ownBlock=some g/\(w1.alloc (.cells #[c0,c1,c2,c3,c4,c5,c6] 39 (0,0))).heap.size<=g)
def DfF (w0:World) (p:Nat) (l:List DefT) (r:Except Er (DefT × List Tk)) (len:Nat) (w:World):Prop:=∃ x ts' m dr' cells',r=.ok (x,ts')/\ts'.length<len/\DSt w0 p dr' cells' (l++[x]) ts' m w
theorem DfE.box {r:Except Er (DefT × List Tk)} {len:Nat} {u:Value} (h:DfE w0 p dr cells l r len u w):w.cell? ⟨w0.heap.size+1,0,none⟩=some dr/\w.frozen? ⟨w0.heap.size+1,0,none⟩=false:=by
 obtain ⟨x,ts',m,w1,c0,c1,c2,c3,c4,c5,c6,_,_,_,ho,_,hg,_⟩:=h;have hz:=ho.size;have hb0:=(za0 w1 (.cells #[c0,c1,c2,c3,c4,c5,c6] 39 (0,0)));have hb:Bk w (w0.heap.size+1) #[dr] 24 := (hg.block _ (by rw [World.size_alloc]; omega) (fun e=>by have:=(zf9 ho.els.own e.symm).1; omega)).trans ((hb0.block _ (by omega)).trans ho.box);exact ⟨hb.cell 0 _ rfl,hb.frz 0⟩
abbrev zv8:Array Oper :=
 #[{ dst:=some 22,op:=.move (.tmp 0),type := 102,pos := "definition.go:42",after:=#[],guard:=none },
  { dst:=some 23,op:=.nilCheck (.tmp 22),type:=0,pos := "definition.go:42",after:=#[{ on:=0,ground:=.data }],guard:=none },
  { dst:=some 24,op:=.fieldAddr 67 (.tmp 23) 0,type:=0,pos := "definition.go:42",after:=#[{ on:=1,ground:=.data }],guard:=none },
  { dst:=some 25,op:=.move (.tmp 4),type := 3,pos := "definition.go:42",after:=#[],guard:=none },
  { dst:=some 26,op:=.binOp BinOp.neq 3 (.tmp 25) (.const (.int .i64 0)) 3,type := 4,pos := "definition.go:42",after:=#[{ on:=3,ground:=.data }],guard:=none },
  { dst:=some 27,op:=.fieldAddr 24 (.tmp 3) 0,type:=0,pos := "definition.go:42",after:=#[],guard:=none },
  { dst:=some 28,op:=.load 22 (.tmp 27),type := 22,pos := "definition.go:42",after:=#[{ on:=5,ground:=.data }],guard:=none },
  { dst:=some 29,op:=.call { callee:=.builtin Builtin.len,args:=#[.tmp 28],argTypes:=#[22] },type := 3,pos := "definition.go:42",after:=#[{ on:=6,ground:=.data }],guard:=none },
  { dst:=some 30,op:=.call { callee:=.value (.func 54),args:=#[.tmp 24,.tmp 26,.tmp 29,.const (.int .i64 64)],argTypes:=#[65, 4, 3, 3] },type:=0,pos := "definition.go:42",after:=#[{ on:=2,ground:=.data }, { on:=4,ground:=.data }, { on:=7,ground:=.data }],guard:=none }]
theorem zE9 {Q:Exit->Act->World->Prop} {id:Nat} {a0:Act} {W:World} {p g kd:Nat} {ts:List Tk} {n:Nat} (h:PSt W p ts n) {A:Option Addr} {l c:Nat} (hrow:Bk W g #[.slice A l c] 24) (hb:K.dstB zv8 a0.tmps.size 9=true) (s0:a0.tmps.getD 0 undef=pP p) (s4:a0.tmps.getD 4 undef=.int .i64 (kd:Nat)) (s3:a0.tmps.getD 3 undef=.pointer (some ⟨g,0,none⟩))
  (hok:∀ (f:Nat->Value) (w':World),(fun _ w'=>bgR (decide (kd≠0)) l 64 ts=.ok ()/\Below W.heap.size W w') (f 30) w'->Q .normal (K.over a0 [22,23,24,25,26,27,28,29,30] f) w') (her:∀ (a:Act) (w':World) (z:Er),a.defers=a0.defers->(bgR (decide (kd≠0)) l 64 ts=.error z/\Tw p W.heap.size W w')->Q (.panic (malP z)) a w') :
  (Code.region id zv8 true).wp Tryz.prog Q a0 W:=by
 refine K.zd1 (by kernel_rfl) (by kernel_rfl) hb 8 (by kernel_rfl) (by decide) (by decide) (fun o ho=>by cases ho) [K.Fact.is (pP p),K.Fact.is (pP p),K.Fact.is (pP p),K.Fact.is (.int .i64 (kd:Nat)),K.Fact.is (.bool (decide (kd≠0))),K.Fact.is (.pointer (some ⟨g,0,none⟩)),K.Fact.is (.slice A l c),K.Fact.is (.int .i64 (l:Nat))] (fun _ w'=>bgR (decide (kd≠0)) l 64 ts=.ok ()/\Below W.heap.size W w') ?_ ?_ (fun o ho=>by cases ho) ?_
 ·intro i o ho hi a w hf hbl had
  have hc:i=0∨i=1∨i=2∨i=3∨i=4∨i=5∨i=6∨i=7:=by omega
  rcases hc with rfl | rfl | rfl | rfl | rfl | rfl | rfl | rfl
  ·cases ho
   have h0:a.tmps.getD 0 undef=pP p:=(hf.slot 0 (by kernel_rfl)).trans s0;exact zb9 rfl (.tmp 0) rfl h0 ⟨Below.refl _ _,rfl⟩
  ·cases ho
   have h22:K.vof _ a 0=pP p:=had ⟨0,.data⟩ (by simp) rfl;exact zm7 rfl (.tmp 22) rfl h22 ⟨Below.refl _ _,rfl⟩
  ·cases ho
   have h23:K.vof _ a 1=pP p:=had ⟨1,.data⟩ (by simp) rfl;exact zp1 rfl (.tmp 23) rfl h23 ⟨Below.refl _ _,rfl⟩
  ·cases ho
   have h4:a.tmps.getD 4 undef=.int .i64 (kd:Nat):=(hf.slot 4 (by kernel_rfl)).trans s4;exact zb9 rfl (.tmp 4) rfl h4 ⟨Below.refl _ _,rfl⟩
  ·cases ho
   have h25:K.vof _ a 3=.int .i64 (kd:Nat):=had ⟨3,.data⟩ (by simp) rfl;exact rp_ne0 rfl (.tmp 25) rfl h25 rfl ⟨Below.refl _ _,rfl⟩
  ·cases ho
   have h3:a.tmps.getD 3 undef=.pointer (some ⟨g,0,none⟩):=(hf.slot 3 (by kernel_rfl)).trans s3;exact rp_faD rfl (.tmp 3) rfl h3 ⟨Below.refl _ _,rfl⟩
  ·cases ho
   have h27:K.vof _ a 5=.pointer (some ⟨g,0,none⟩):=had ⟨5,.data⟩ (by simp) rfl;exact rp_ldD rfl (.tmp 27) rfl h27 ((hrow.stay hbl).cell 0 _ rfl) ⟨Below.refl _ _,rfl⟩
  ·cases ho
   have h28:K.vof _ a 6=.slice A l c:=had ⟨6,.data⟩ (by simp) rfl;exact rp_lenD rfl (.tmp 28) rfl h28 ⟨Below.refl _ _,rfl⟩
 ·intro o ho a w hf hbl hF
  cases ho
  have h2:K.vof _ a 2=pP p:=hF 2 (by omega);have h4:K.vof _ a 4=.bool (decide (kd≠0)):=hF 4 (by omega);have h7:K.vof _ a 7=.int .i64 (l:Nat):=hF 7 (by omega);refine ze7 rfl _ _ _ rfl zV7 #[pP p,.bool (decide (kd≠0)),.int .i64 (l:Nat),.int .i64 64] (by rw [map4]; exact yp8 h2 h4 h7 rfl) ((zi8 (h.stay hbl) (decide (kd≠0)) l 64 l 64 rfl rfl).mono fun e w' hw=>?_)
  rcases hw with ⟨hg,he,hb2⟩ | ⟨z,hg,he,ht⟩
  ·exact .inl ⟨_,he,hg,hbl.trans (hb2.mono hbl.size)⟩
  ·exact .inr ⟨malP z,he,her a w' z hf.1 ⟨hg,(Tw.of hbl:Tw p _ W w).step hbl.size ht⟩⟩
 ·intro a w hf hC h1
  rw [K.zg2 hf [22,23,24,25,26,27,28,29,30] (by kernel_rfl)];exact hok (fun d=>a.tmps.getD d undef) w hC
theorem zG8 (p:Nat) (el:DfT) (hel:∀ (k:Nat) (W:World) (ts:List Tk) (m:Nat),PSt W p ts m->kdR (hd ts)=k->k≠0->Calls Tryz.prog 55 #[pP p,.int .i64 k] W (WPost DefV W p (el k ts)))
  (hlt:∀ (k:Nat) (ts:List Tk) (x:DefT) (ts':List Tk),el k ts=.ok (x,ts')->ts'.length<ts.length)
  (w:World) (ts:List Tk) (n:Nat) (h:PSt w p ts n):Calls Tryz.prog 28 #[pP p] w (WPost DocV w p (docR el ts)):=by
 have hpw:=h.lt;have hHO:∃ w3:World,w3=((w.alloc (.cells #[.slice none 0 0] 24 (0,0))).alloc (.cells #[.slice none 0 0] 24 (0,0)))/\DSt w p (.slice none 0 0) [] [] ts n w3:=by
  refine ⟨_,rfl, ?_⟩
  have b1:=za0 w (.cells #[.slice none 0 0] 24 (0,0));have x1:=Bk.new w #[.slice none 0 0] 24;generalize hw1:w.alloc (.cells #[.slice none 0 0] 24 (0,0))=w1 at *;have s1:w1.heap.size=w.heap.size+1:=by rw [<- hw1,World.size_alloc]
  have b2:=za0 w1 (.cells #[.slice none 0 0] 24 (0,0));have x2:=Bk.new w1 #[.slice none 0 0] 24;rw [s1] at x2;have s2:(w1.alloc (.cells #[.slice none 0 0] 24 (0,0))).heap.size=w.heap.size+2:=by rw [World.size_alloc,s1]
  exact ⟨(h.stay b1).stay b2,x2,Els.nil _ _ _ _ _,x1.stay b2,.of (b1.trans (b2.mono b1.size)),hpw,by omega⟩
 obtain ⟨W3,hW3,hos⟩:=hHO;have HEL:=Lh hel;have HLTD:=Lh hlt;obtain ⟨R,hR⟩ : ∃ R,R=docR el ts:=⟨_,rfl⟩;rw [<- hR];have HV2:Hid (R=docP el (ts.length+1) [] ts):=Lh hR;have HOS:=Lh hos;have HW3:=Lh hW3;clear h hel hR hos hW3 hlt
 go_enter Tryz.func28, Tryz.ntmps28
 go_wp2_with fail
 rw [<- HW3.out]
 go_loopw [] (fun wr=>∃ (l:List DefT) (cells:List Value) (dr:Value) (tr:List Tk) (f m:Nat),l.length<=64/\Hid (R=docP el f l tr/\tr.length<f/\DSt w p dr cells l tr m wr)) (fun wr=>tlen p wr)
 case atStart=>exact ⟨[],[],_,ts,_,n,Nat.zero_le _,Lh ⟨HV2.out,Nat.lt_succ_self _,HOS.out⟩⟩
 case round =>
  obtain ⟨l,cells,dr,tr,f,m,hlm,hr⟩:=hrel;obtain ⟨f',hf'⟩ : ∃ f',f=f'+1:=⟨f-1,by have:=hr.out.2.1; omega⟩;subst hf';obtain ⟨AL,c,hu⟩:=hr.out.2.2.els.slice;subst hu;have HLM:=Lh hlm;obtain ⟨ll,hll⟩ : ∃ ll,ll=l.length:=⟨_,rfl⟩;have HLL:=Lh hll;have hlb:(ll:Int)<=64:=by omega
  obtain ⟨⟨k,tx,i⟩,r,hts⟩:=hr.out.2.2.pst.good.ne;have HNX:Hid (∀ W,DSt w p (.slice AL ll c) cells l tr m W->Calls Tryz.prog 52 #[pP p] W fun e w'=>e=.returned (.agg #[.int .i64 k,.string ⟨tx.toArray⟩,.int .i64 i])/\Below W.heap.size W w'):=Lh (fun W hW=>by
   have:=zh4 hW.pst;rw [hts] at this;exact this)
  have HKD:Hid (∀ W,Calls Tryz.prog 53 #[.agg #[.int .i64 k,.string ⟨tx.toArray⟩,.int .i64 i]] W fun e w'=>e=.returned (.int .i64 (kdR (hd tr)))/\Below W.heap.size W w'):=Lh (fun W=>by
   have:=zQ4 (k,tx,i) W;rw [hts];exact this)
  have HOR:Hid (DSt w p (.slice AL ll c) cells l tr m wr):=Lh (by rw [hll]; exact hr.out.2.2);have HK1:Hid ((hd tr).1=k):=Lh (by rw [hts]; rfl);have hf0:=fld0 (.int .i64 k) (.string ⟨tx.toArray⟩) (.int .i64 i);have HNXT:Hid (0<tr.length):=Lh (by rw [hts]; simp);clear hts;generalize (⟨tx.toArray⟩ : ByteArray)=tb at *;rw [<- hll] at hlm;clear hlm hll;have x0:=HOR.out.row;by_cases hstop:l.length≠0/\(hd tr).1=5
  ·have HD:Hid (R=.ok (l,tr)):=Lh (hr.out.1.trans (by rw [zq0,if_pos hstop]))
   have hl0:¬ (ll:Int)=0:=by have:=hstop.1; have:=HLL.out; omega
   have hl1:((ll:Int)==0)=false:=by rw [beq_eq_false_iff_ne]; omega
   have hk5:k=5:=by rw [<- HK1.out]; exact hstop.2
   subst hk5;clear hstop;go_wp2_with fail;refine (HNX.out _ HOR.out).mono ?_
   rintro e w2 ⟨rfl,hb⟩;have hO2:=HOR.out.stay hb;have HO2:=Lh hO2;have y0:=hO2.row;have z0:=hO2.res.cell 0 _ rfl;have g0:=hO2.res.frz 0;clear hb hO2;go_wp2_with fail;have HZ:=Lh (HO2.out.res.setl (l:=[_]) 0 (.slice AL ll c));have q0:=HZ.out.cell 0 _ rfl;have hT:=HO2.out.tw;have hsz2:=HO2.out.size;refine bodyPost_ret (v:=.agg #[.slice AL ll c]) (by simp [results,Tryz.results28,go_sem,q0]) rfl (.inl ⟨l,tr,_,m,HD.out,rfl,⟨_,rfl, ?_⟩, ?_, ?_⟩)
   ·have hrd:=HO2.out.els.read (bytes:=144) DefC.stays (by have:=HLM.out; unfold big; omega)
    refine SlS.kept DefC.stays hrd (fun b hb=>?_) (fun b hb=>⟨by have:=hb.1; omega,by simp [World.setCell]; exact hb.2⟩)
    have hne:b≠w.heap.size:=by have:=hb.1; omega
    rw [Below.heap_setCell _ _ _ _ hne]
   ·exact HO2.out.pst.same ((Below.refl (p+1) w2).setCell (p:=⟨w.heap.size,0,none⟩) (by show p+1<=w.heap.size; omega) _)
   ·exact hT.setNew (Nat.le_refl _) 0 _
  ·by_cases hl0:ll=0
   ·subst hl0
    have HD:Hid (R=exB (bgR (decide (kdR (hd tr)≠0)) l.length 64 tr) fun _=>exB (el (kdR (hd tr)) tr) fun q=>docP el f' (l++[q.1]) q.2):=Lh (hr.out.1.trans (by rw [zq0,if_neg hstop]));clear hstop;have HKE:Hid (∃ kd:Nat,kd=kdR (hd tr)):=Lh ⟨_,rfl⟩;obtain ⟨kd,hkd⟩:=HKE.out;rw [<- hkd] at HKD HD;have HKK:=Lh hkd;clear hkd HKE;go_wp2_with fail;refine (HNX.out _ HOR.out).mono ?_
    rintro e w2 ⟨rfl,hb⟩;have HO2:=Lh (HOR.out.stay hb);clear hb x0;go_wp2_with fail;refine (HKD.out _).mono ?_
    rintro e w3 ⟨rfl,hb⟩;have hO3:=HO2.out.stay hb;have HO3:=Lh hO3;have y0:=hO3.row;clear hb hO3;go_wp2_with fail;refine zE9 HO3.out.pst HO3.out.box (by kernel_rfl) (by rfl) (by rfl) (by rfl) ?_ fun a w9 z hd hz=>?_
    rotate_left
    ·obtain ⟨hbg,ht⟩:=hz
     have hbg2:bgR (decide (kd≠0)) l.length 64 tr=.error z:=by have h8:=HLL.out; rw [<- h8]; exact hbg
     exact ⟨hd.trans rfl,.inr ⟨_,HD.out.trans (za6 hbg2),rfl,HO3.out.tw.step HO3.out.tw.size ht⟩⟩
    intro f0 w4 ⟨hbg,hb⟩;have hbg2:bgR (decide (kd≠0)) l.length 64 tr=.ok ():=by have h8:=HLL.out; rw [<- h8]; exact hbg
    have hk0:kd≠0:=by intro e; rw [e] at hbg; cases hbg
    have HK0:=Lh hk0;have HL64:=Lh (zs5 hbg2 HLM.out).2;have HD2:Hid (R=exB (el kd tr) fun q=>docP el f' (l++[q.1]) q.2):=Lh (HD.out.trans (za2 hbg2));have HO4:=Lh (HO3.out.stay hb);clear hbg hbg2 hb y0 hk0;simp only [K.over,List.foldl_cons,List.foldl_nil,Act.put,List.setIfInBounds_toArray,List.set_cons_succ,List.set_cons_zero];generalize f0 22=u22;generalize f0 23=u23;generalize f0 24=u24;generalize f0 25=u25;generalize f0 26=u26;generalize f0 27=u27;generalize f0 28=u28;generalize f0 29=u29;generalize f0 30=u30;go_wp2_with fail;have HOD:Hid (DSt w p (.slice AL 0 c) cells l tr m w4.drew):=Lh (HO4.out.stay ((Below.refl _ _).drew));clear HO4;refine zj1 (pv:=pvD (w.heap.size+1) (.slice AL 0 c) (pP p) (.int .i64 kd)) (ia:=1) (ib:=4) (ic:=5) (ie:=6) (ix:=8) (C:=DfC w p (.slice AL 0 c) cells l (el kd tr) tr.length) (G:=DfG w p (.slice AL 0 c) cells l (el kd tr) tr.length) (E:=DfE w p (.slice AL 0 c) cells l (el kd tr) tr.length) (F:=DfF w p l (el kd tr) tr.length) (by kernel_rfl) (by kernel_rfl) (by kernel_rfl) ⟨by decide,by decide,by decide,by decide,by decide,by decide,by decide,by decide,by decide,by decide,rfl,rfl,rfl,rfl⟩ ?_ ?_ ?_ ?_ ?_ ?_ ?_ ?_ (by decide) ?_
    ·intro o ho; cases ho; exact ⟨⟨4,.data⟩,by simp,rfl,rfl⟩
    ·intro o ho; cases ho; exact ⟨⟨⟨5,.data⟩,by simp,rfl,rfl⟩,⟨1,.data⟩,by simp,rfl,rfl⟩
    ·intro o ho; cases ho; exact ⟨⟨6,.data⟩,by simp,rfl,rfl⟩
    ·intro i o ho n1 n2 n3 n4 a w2 hf had hw
     have hi:i<9:=(Array.getElem?_eq_some_iff.1 ho).1;have hc:i=0∨i=1∨i=2∨i=3∨i=7:=by omega
     rcases hc with rfl | rfl | rfl | rfl | rfl
     ·cases ho
      exact zT9 rfl (.tmp 3) rfl (K.Fr.slot hf 3 (by kernel_rfl)) ⟨rfl,fun x hx=>by cases hx; rfl⟩
     ·cases ho
      have h0:K.vof _ a 0=.pointer (some ⟨w.heap.size+1,0,none⟩):=had ⟨0,.data⟩ (by simp) rfl _ rfl;have hcell:w2.cell? ⟨w.heap.size+1,0,none⟩=some (.slice AL 0 c):=by
       rcases hw with rfl | ⟨u,_,_,_,_,_,_,ho⟩ | ⟨u,_,_,_,w1,_,_,_,_,_,_,_,_,_,_,rfl,_,ho⟩ | ⟨hn,_⟩
       ·exact HOD.out.row
       ·exact ho.row
       ·exact (ho.stay (za0 _ _)).row
       ·exact absurd rfl hn
      exact rg_ldD rfl (.tmp 31) rfl h0 hcell ⟨rfl,fun x hx=>by cases hx; rfl⟩
     ·cases ho
      exact zp3 rfl (.tmp 0) rfl (K.Fr.slot hf 0 (by kernel_rfl)) ⟨rfl,fun x hx=>by cases hx; rfl⟩
     ·cases ho
      exact zp3 rfl (.tmp 4) rfl (K.Fr.slot hf 4 (by kernel_rfl)) ⟨rfl,fun x hx=>by cases hx; rfl⟩
     ·cases ho
      exact zT9 rfl (.tmp 3) rfl (K.Fr.slot hf 3 (by kernel_rfl)) ⟨rfl,fun x hx=>by cases hx; rfl⟩
    ·intro o ho a hf had
     cases ho
     have h2:K.vof _ a 2=pP p:=had ⟨2,.data⟩ (by simp) rfl _ rfl;have h3:K.vof _ a 3=.int .i64 kd:=had ⟨3,.data⟩ (by simp) rfl _ rfl;refine ze7 rfl _ _ _ rfl yo9 #[pP p,.int .i64 kd] (by rw [K.map2,show a.eval (.tmp 33)=_ from h2,show a.eval (.tmp 34)=_ from h3]) ?_
     refine (HEL.out kd _ tr m HOD.out.pst HKK.out.symm HK0.out).mono ?_
     rintro e w5 (⟨x,ts',v,m',hre,rfl,⟨c0,c1,c2,c3,c4,c5,c6,rfl,hx⟩,hp,ht⟩ | ⟨x,hre,rfl,ht⟩)
     ·refine .inl ⟨_,rfl,x,ts',m',hre,HLTD.out _ _ _ _ hre,⟨c0,c1,c2,c3,c4,c5,c6,rfl, ?_⟩,HOD.out.tws ht hp⟩
      have hzz:=HOD.out.size;exact DefC.stays.kept hx (fun _ _=>rfl) (fun b hb=>⟨by omega,hb.2,fun e=>by have:=(zf9 HOD.out.els.own e).2; omega⟩)
     ·refine .inr ⟨_,rfl, ?_⟩
      have hT9:Tw p w.heap.size w w5:=HOD.out.tw.step HOD.out.tw.size ht;exact And.intro (hf.1.trans rfl) (.inr ⟨x,HD2.out.trans (za6 hre),rfl,hT9⟩)
    ·intro o ho a w2 hf ⟨x,ts',m',hre,hlt,⟨c0,c1,c2,c3,c4,c5,c6,hu,hx⟩,hos⟩
     cases ho
     exact zT8 rfl (.tmp 35) rfl hu ⟨x,ts',m',w2,c0,c1,c2,c3,c4,c5,c6,hre,hlt,rfl,rfl,hx,hos⟩
    ·intro o ho a w2 hf h1 ⟨x,ts',m',w1,c0,c1,c2,c3,c4,c5,c6,hre,hlt,hu,hw2,hx,hos⟩
     cases ho
     subst hw2;have b1:=za0 w1 (.cells #[c0,c1,c2,c3,c4,c5,c6] 39 (0,0));have hown1:(w1.alloc (.cells #[c0,c1,c2,c3,c4,c5,c6] 39 (0,0))).ownsRow (w.heap.size+2) 39 7 (.slice AL 0 c) 0 cells:=by
      have h8:=ze9 hos.els.own (fun g hg=>b1.block g hg);rw [<- HLL.out] at h8; exact h8
     obtain ⟨A2,A3,A4,A5,A6,d2,d3,d4,d5,d6,hsh,_⟩:=DefV.shape (⟨c0,c1,c2,c3,c4,c5,c6,rfl,hx⟩ : DefV w1 _ (.agg #[c0,c1,c2,c3,c4,c5,c6]) x);refine zU0 rfl (.tmp 32) (.tmp 36) _ rfl (w.heap.size+2) 39 _ 7 144 Tryz.underlying22 yn4 rfl (by decide) (.slice AL 0 c) 0 _ (h1 _ rfl) hown1 ⟨w1.heap.size,0,none⟩ [c0,c1,c2,c3,c4,c5,c6] hu rfl (zf0 w1 _ _) ?_ (by unfold maxLen; have:=HLM.out; have:=HLL.out; omega) (by have:=HLM.out; have:=HLL.out; omega) (Nat.le_trans hos.size b1.size) ?_
     ·simp only [Value.agg.injEq,Array.mk.injEq,List.cons.injEq,and_true] at hsh
      obtain ⟨rfl,rfl,rfl,rfl,rfl,rfl,rfl⟩:=hsh;intro u hu; simp only [List.mem_cons,List.not_mem_nil,or_false] at hu; rcases hu with rfl | rfl | rfl | rfl | rfl | rfl | rfl <;> rfl
     ·exact fun v' w' q1 q2 q3=>⟨x,ts',m',w1,c0,c1,c2,c3,c4,c5,c6,hre,hlt,hx,hos,by rw [<- HLL.out]; exact q1,q2,q3⟩
    ·intro o ho a w2 hf had hE
     cases ho
     have h7:K.vof _ a 7=.pointer (some ⟨w.heap.size+1,0,none⟩):=had ⟨7,.data⟩ (by simp) rfl _ rfl;obtain ⟨q1,q2⟩:=hE.box;obtain ⟨x,ts',m',w1,c0,c1,c2,c3,c4,c5,c6,hre,hlt,hx,hos,hown,hgr,hfr⟩:=hE;exact zL0 rfl (.tmp 38) (.tmp 37) rfl h7 rfl (by obtain ⟨A,c,e⟩:=zr1 hown; exact ⟨A,_,c,e⟩) q1 q2 ⟨x,ts',m',_,_,hre,hlt,hos.push (za0 _ _) hx (fun j hj=>rfl) hown hgr hfr⟩
    intro a w5 hf ⟨x,ts5,m5,dr5,cells5,hre,hlt,hos5⟩;have ha:=K.zg2 hf [31,32,33,34,35,36,37,38] (by kernel_rfl);generalize (fun d=>a.tmps.getD d undef)=f9 at ha;subst ha;clear hf;simp only [K.over,List.foldl_cons,List.foldl_nil,Act.put,List.setIfInBounds_toArray,List.set_cons_succ,List.set_cons_zero];generalize f9 31=u31;generalize f9 32=u32;generalize f9 33=u33;generalize f9 34=u34;generalize f9 35=u35;generalize f9 36=u36;generalize f9 37=u37;generalize f9 38=u38;have HD5:Hid (R=docP el f' (l++[x]) ts5):=Lh (HD2.out.trans (za2 hre));have HO5:=Lh hos5;have HLT5:=Lh hlt;clear hre hlt hos5 HOD
    go_roundw
    case rel=>first | exact ⟨l++[x],cells5,dr5,ts5,f',m5,by have:=HL64.out; rw [List.length_append,List.length_singleton]; omega,Lh ⟨HD5.out,by have:=HLT5.out; have:=hr.out.2.1; omega,HO5.out⟩⟩ | exact ⟨_,_,_,_,_,_,_,_,_,_,_,_,_,_,_,_,_,_,_,_,_,_,_,_,_,_,_,_,_,_,_,_,_,_,_,⟨l++[x],cells5,dr5,ts5,f',m5,by have:=HL64.out; rw [List.length_append,List.length_singleton]; omega,Lh ⟨HD5.out,by have:=HLT5.out; have:=hr.out.2.1; omega,HO5.out⟩⟩,rfl⟩
    case measure=>rw [HO5.out.pst.tlen,hr.out.2.2.pst.tlen]; exact HLT5.out
   ·have hk5:¬ k=5:=fun e=>hstop ⟨by have:=HLL.out; omega,by rw [HK1.out]; exact e⟩
    have hl2:((ll:Int)==0)=false:=by rw [beq_eq_false_iff_ne]; omega
    have hk6:(k != 5)=true:=by rw [bne_iff_ne]; exact hk5
    have HD:Hid (R=exB (bgR (decide (kdR (hd tr)≠0)) l.length 64 tr) fun _=>exB (el (kdR (hd tr)) tr) fun q=>docP el f' (l++[q.1]) q.2):=Lh (hr.out.1.trans (by rw [zq0,if_neg hstop]));clear hstop;have HKE:Hid (∃ kd:Nat,kd=kdR (hd tr)):=Lh ⟨_,rfl⟩;obtain ⟨kd,hkd⟩:=HKE.out;rw [<- hkd] at HKD HD;have HKK:=Lh hkd;clear hkd HKE;go_wp2_with fail;refine (HNX.out _ HOR.out).mono ?_
    rintro e w1 ⟨rfl,hb⟩;have HO1:=Lh (HOR.out.stay hb);clear hb x0;go_wp2_with fail;refine (HNX.out _ HO1.out).mono ?_
    rintro e w2 ⟨rfl,hb⟩;have HO2:=Lh (HO1.out.stay hb);clear hb;go_wp2_with fail;refine (HKD.out _).mono ?_
    rintro e w3 ⟨rfl,hb⟩;have hO3:=HO2.out.stay hb;have HO3:=Lh hO3;have y0:=hO3.row;clear hb hO3;go_wp2_with fail;refine zE9 HO3.out.pst HO3.out.box (by kernel_rfl) (by rfl) (by rfl) (by rfl) ?_ fun a w9 z hd hz=>?_
    rotate_left
    ·obtain ⟨hbg,ht⟩:=hz
     have hbg2:bgR (decide (kd≠0)) l.length 64 tr=.error z:=by have h8:=HLL.out; rw [<- h8]; exact hbg
     exact ⟨hd.trans rfl,.inr ⟨_,HD.out.trans (za6 hbg2),rfl,HO3.out.tw.step HO3.out.tw.size ht⟩⟩
    intro f0 w4 ⟨hbg,hb⟩;have hbg2:bgR (decide (kd≠0)) l.length 64 tr=.ok ():=by have h8:=HLL.out; rw [<- h8]; exact hbg
    have hk0:kd≠0:=by intro e; rw [e] at hbg; cases hbg
    have HK0:=Lh hk0;have HL64:=Lh (zs5 hbg2 HLM.out).2;have HD2:Hid (R=exB (el kd tr) fun q=>docP el f' (l++[q.1]) q.2):=Lh (HD.out.trans (za2 hbg2));have HO4:=Lh (HO3.out.stay hb);clear hbg hbg2 hb y0 hk0;simp only [K.over,List.foldl_cons,List.foldl_nil,Act.put,List.setIfInBounds_toArray,List.set_cons_succ,List.set_cons_zero];generalize f0 22=u22;generalize f0 23=u23;generalize f0 24=u24;generalize f0 25=u25;generalize f0 26=u26;generalize f0 27=u27;generalize f0 28=u28;generalize f0 29=u29;generalize f0 30=u30;go_wp2_with fail;have HOD:Hid (DSt w p (.slice AL ll c) cells l tr m w4.drew):=Lh (HO4.out.stay ((Below.refl _ _).drew));clear HO4;refine zj1 (pv:=pvD (w.heap.size+1) (.slice AL ll c) (pP p) (.int .i64 kd)) (ia:=1) (ib:=4) (ic:=5) (ie:=6) (ix:=8) (C:=DfC w p (.slice AL ll c) cells l (el kd tr) tr.length) (G:=DfG w p (.slice AL ll c) cells l (el kd tr) tr.length) (E:=DfE w p (.slice AL ll c) cells l (el kd tr) tr.length) (F:=DfF w p l (el kd tr) tr.length) (by kernel_rfl) (by kernel_rfl) (by kernel_rfl) ⟨by decide,by decide,by decide,by decide,by decide,by decide,by decide,by decide,by decide,by decide,rfl,rfl,rfl,rfl⟩ ?_ ?_ ?_ ?_ ?_ ?_ ?_ ?_ (by decide) ?_
    ·intro o ho; cases ho; exact ⟨⟨4,.data⟩,by simp,rfl,rfl⟩
    ·intro o ho; cases ho; exact ⟨⟨⟨5,.data⟩,by simp,rfl,rfl⟩,⟨1,.data⟩,by simp,rfl,rfl⟩
    ·intro o ho; cases ho; exact ⟨⟨6,.data⟩,by simp,rfl,rfl⟩
    ·intro i o ho n1 n2 n3 n4 a w2 hf had hw
     have hi:i<9:=(Array.getElem?_eq_some_iff.1 ho).1;have hc:i=0∨i=1∨i=2∨i=3∨i=7:=by omega
     rcases hc with rfl | rfl | rfl | rfl | rfl
     ·cases ho
      exact zT9 rfl (.tmp 3) rfl (K.Fr.slot hf 3 (by kernel_rfl)) ⟨rfl,fun x hx=>by cases hx; rfl⟩
     ·cases ho
      have h0:K.vof _ a 0=.pointer (some ⟨w.heap.size+1,0,none⟩):=had ⟨0,.data⟩ (by simp) rfl _ rfl;have hcell:w2.cell? ⟨w.heap.size+1,0,none⟩=some (.slice AL ll c):=by
       rcases hw with rfl | ⟨u,_,_,_,_,_,_,ho⟩ | ⟨u,_,_,_,w1,_,_,_,_,_,_,_,_,_,_,rfl,_,ho⟩ | ⟨hn,_⟩
       ·exact HOD.out.row
       ·exact ho.row
       ·exact (ho.stay (za0 _ _)).row
       ·exact absurd rfl hn
      exact rg_ldD rfl (.tmp 31) rfl h0 hcell ⟨rfl,fun x hx=>by cases hx; rfl⟩
     ·cases ho
      exact zp3 rfl (.tmp 0) rfl (K.Fr.slot hf 0 (by kernel_rfl)) ⟨rfl,fun x hx=>by cases hx; rfl⟩
     ·cases ho
      exact zp3 rfl (.tmp 4) rfl (K.Fr.slot hf 4 (by kernel_rfl)) ⟨rfl,fun x hx=>by cases hx; rfl⟩
     ·cases ho
      exact zT9 rfl (.tmp 3) rfl (K.Fr.slot hf 3 (by kernel_rfl)) ⟨rfl,fun x hx=>by cases hx; rfl⟩
    ·intro o ho a hf had
     cases ho
     have h2:K.vof _ a 2=pP p:=had ⟨2,.data⟩ (by simp) rfl _ rfl;have h3:K.vof _ a 3=.int .i64 kd:=had ⟨3,.data⟩ (by simp) rfl _ rfl;refine ze7 rfl _ _ _ rfl yo9 #[pP p,.int .i64 kd] (by rw [K.map2,show a.eval (.tmp 33)=_ from h2,show a.eval (.tmp 34)=_ from h3]) ?_
     refine (HEL.out kd _ tr m HOD.out.pst HKK.out.symm HK0.out).mono ?_
     rintro e w5 (⟨x,ts',v,m',hre,rfl,⟨c0,c1,c2,c3,c4,c5,c6,rfl,hx⟩,hp,ht⟩ | ⟨x,hre,rfl,ht⟩)
     ·refine .inl ⟨_,rfl,x,ts',m',hre,HLTD.out _ _ _ _ hre,⟨c0,c1,c2,c3,c4,c5,c6,rfl, ?_⟩,HOD.out.tws ht hp⟩
      have hzz:=HOD.out.size;exact DefC.stays.kept hx (fun _ _=>rfl) (fun b hb=>⟨by omega,hb.2,fun e=>by have:=(zf9 HOD.out.els.own e).2; omega⟩)
     ·refine .inr ⟨_,rfl, ?_⟩
      have hT9:Tw p w.heap.size w w5:=HOD.out.tw.step HOD.out.tw.size ht;exact And.intro (hf.1.trans rfl) (.inr ⟨x,HD2.out.trans (za6 hre),rfl,hT9⟩)
    ·intro o ho a w2 hf ⟨x,ts',m',hre,hlt,⟨c0,c1,c2,c3,c4,c5,c6,hu,hx⟩,hos⟩
     cases ho
     exact zT8 rfl (.tmp 35) rfl hu ⟨x,ts',m',w2,c0,c1,c2,c3,c4,c5,c6,hre,hlt,rfl,rfl,hx,hos⟩
    ·intro o ho a w2 hf h1 ⟨x,ts',m',w1,c0,c1,c2,c3,c4,c5,c6,hre,hlt,hu,hw2,hx,hos⟩
     cases ho
     subst hw2;have b1:=za0 w1 (.cells #[c0,c1,c2,c3,c4,c5,c6] 39 (0,0));have hown1:(w1.alloc (.cells #[c0,c1,c2,c3,c4,c5,c6] 39 (0,0))).ownsRow (w.heap.size+2) 39 7 (.slice AL ll c) ll cells:=by
      have h8:=ze9 hos.els.own (fun g hg=>b1.block g hg);rw [<- HLL.out] at h8; exact h8
     obtain ⟨A2,A3,A4,A5,A6,d2,d3,d4,d5,d6,hsh,_⟩:=DefV.shape (⟨c0,c1,c2,c3,c4,c5,c6,rfl,hx⟩ : DefV w1 _ (.agg #[c0,c1,c2,c3,c4,c5,c6]) x);refine zU0 rfl (.tmp 32) (.tmp 36) _ rfl (w.heap.size+2) 39 _ 7 144 Tryz.underlying22 yn4 rfl (by decide) (.slice AL ll c) ll _ (h1 _ rfl) hown1 ⟨w1.heap.size,0,none⟩ [c0,c1,c2,c3,c4,c5,c6] hu rfl (zf0 w1 _ _) ?_ (by unfold maxLen; have:=HLM.out; have:=HLL.out; omega) (by have:=HLM.out; have:=HLL.out; omega) (Nat.le_trans hos.size b1.size) ?_
     ·simp only [Value.agg.injEq,Array.mk.injEq,List.cons.injEq,and_true] at hsh
      obtain ⟨rfl,rfl,rfl,rfl,rfl,rfl,rfl⟩:=hsh;intro u hu; simp only [List.mem_cons,List.not_mem_nil,or_false] at hu; rcases hu with rfl | rfl | rfl | rfl | rfl | rfl | rfl <;> rfl
     ·exact fun v' w' q1 q2 q3=>⟨x,ts',m',w1,c0,c1,c2,c3,c4,c5,c6,hre,hlt,hx,hos,by rw [<- HLL.out]; exact q1,q2,q3⟩
    ·intro o ho a w2 hf had hE
     cases ho
     have h7:K.vof _ a 7=.pointer (some ⟨w.heap.size+1,0,none⟩):=had ⟨7,.data⟩ (by simp) rfl _ rfl;obtain ⟨q1,q2⟩:=hE.box;obtain ⟨x,ts',m',w1,c0,c1,c2,c3,c4,c5,c6,hre,hlt,hx,hos,hown,hgr,hfr⟩:=hE;exact zL0 rfl (.tmp 38) (.tmp 37) rfl h7 rfl (by obtain ⟨A,c,e⟩:=zr1 hown; exact ⟨A,_,c,e⟩) q1 q2 ⟨x,ts',m',_,_,hre,hlt,hos.push (za0 _ _) hx (fun j hj=>rfl) hown hgr hfr⟩
    intro a w5 hf ⟨x,ts5,m5,dr5,cells5,hre,hlt,hos5⟩;have ha:=K.zg2 hf [31,32,33,34,35,36,37,38] (by kernel_rfl);generalize (fun d=>a.tmps.getD d undef)=f9 at ha;subst ha;clear hf;simp only [K.over,List.foldl_cons,List.foldl_nil,Act.put,List.setIfInBounds_toArray,List.set_cons_succ,List.set_cons_zero];generalize f9 31=u31;generalize f9 32=u32;generalize f9 33=u33;generalize f9 34=u34;generalize f9 35=u35;generalize f9 36=u36;generalize f9 37=u37;generalize f9 38=u38;have HD5:Hid (R=docP el f' (l++[x]) ts5):=Lh (HD2.out.trans (za2 hre));have HO5:=Lh hos5;have HLT5:=Lh hlt;clear hre hlt hos5 HOD
    go_roundw
    case rel=>first | exact ⟨l++[x],cells5,dr5,ts5,f',m5,by have:=HL64.out; rw [List.length_append,List.length_singleton]; omega,Lh ⟨HD5.out,by have:=HLT5.out; have:=hr.out.2.1; omega,HO5.out⟩⟩ | exact ⟨_,_,_,_,_,_,_,_,_,_,_,_,_,_,_,_,_,_,_,_,_,_,_,_,_,_,_,_,_,_,_,_,_,_,_,⟨l++[x],cells5,dr5,ts5,f',m5,by have:=HL64.out; rw [List.length_append,List.length_singleton]; omega,Lh ⟨HD5.out,by have:=HLT5.out; have:=hr.out.2.1; omega,HO5.out⟩⟩,rfl⟩
    case measure=>rw [HO5.out.pst.tlen,hr.out.2.2.pst.tlen]; exact HLT5.out
end Go.Proofs.YtfgelheiknmjgaaGreatDoor

