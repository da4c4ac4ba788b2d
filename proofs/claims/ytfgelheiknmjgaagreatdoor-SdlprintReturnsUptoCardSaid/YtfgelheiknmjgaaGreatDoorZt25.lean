
/-
 Texts joined: I5 KFact2 KFact3 I6.
-/
import Derived.Test.YtfgelheiknmjgaaGreatDoorZt24
import Derived.Recover
import Derived.Defers
set_option maxRecDepth 1000000
set_option maxHeartbeats 8000000
namespace Go.Proofs.YtfgelheiknmjgaaGreatDoor
open Go.RowKit
section
variable {P:Program} {ops:Array Oper} {Q:Exit->Act->List Frame->World->Prop} {a:Act} {cs:List Frame} {w w':World} {i:Nat} {rest:List Nat} {o:Oper}
theorem zg4 {v:Value} (ho:ops[i]?=some o) (hw:Region.wanted o (yielded ops a.tmps)=true) (hr:(execOp a.eval o).run P w=.ok (.value v) w') (h:wpOpsS P ops Q rest (a.put o.dst v) cs w'):wpOpsS P ops Q (i::rest) a cs w:=by
 simp only [wpOpsS,ho,hw,if_true,hr]; exact h
theorem zL7 (ho:ops[i]?=some o) (hw:Region.wanted o (yielded ops a.tmps)=true) (hr:(execOp a.eval o).run P w=.ok .skip w') (h:wpOpsS P ops Q rest (a.put o.dst undef) cs w'):wpOpsS P ops Q (i::rest) a cs w:=by
 simp only [wpOpsS,ho,hw,if_true,hr]; exact h
theorem opsS_rec {v:Value} {cs':List Frame} (ho:ops[i]?=some o) (hw:Region.wanted o (yielded ops a.tmps)=true) (hr:(execOp a.eval o).run P w=.ok .recover w') (hc:recoverD cs=some (v,cs')) (h:wpOpsS P ops Q rest (a.put o.dst v) cs' w'):wpOpsS P ops Q (i::rest) a cs w:=by
 simp only [wpOpsS,ho,hw,if_true,hr,hc]; exact h
theorem ya2 (ho:ops[i]?=some o) (hw:Region.wanted o (yielded ops a.tmps)=true) (hr:(execOp a.eval o).run P w=.ok .recover w') (hc:recoverD cs=none) (h:wpOpsS P ops Q rest (a.put o.dst .nilIface) cs w'):wpOpsS P ops Q (i::rest) a cs w:=by
 simp only [wpOpsS,ho,hw,if_true,hr,hc]; exact h
end
theorem run8 {P:Program} {Q:Exit->Act->List Frame->World->Prop} {a:Act} {cs cs':List Frame} {w w5 w6:World} {o0 o1 o2 o3 o4 o5 o6 o7:Oper} {id:Nat} (v0 v1 v2 v3 v4 v5 v7:Value)
  (g0:o0.guard=none) (g1:o1.guard=none) (g2:o2.guard=none) (g3:o3.guard=none) (g4:o4.guard=none) (g5:o5.guard=none) (g6:o6.guard=none) (g7:o7.guard=none)
  (r0:(execOp a.eval o0).run P w=.ok .recover w) (hc:(recoverD cs=some (v0,cs'))∨(recoverD cs=none/\v0=.nilIface/\cs'=cs)) (r1:(execOp (a.put o0.dst v0).eval o1).run P w=.ok (.value v1) w)
  (r2:(execOp ((a.put o0.dst v0).put o1.dst v1).eval o2).run P w=.ok (.value v2) w) (r3:(execOp (((a.put o0.dst v0).put o1.dst v1).put o2.dst v2).eval o3).run P w=.ok (.value v3) w)
  (r4:(execOp ((((a.put o0.dst v0).put o1.dst v1).put o2.dst v2).put o3.dst v3).eval o4).run P w=.ok (.value v4) w)
  (r5:(execOp (((((a.put o0.dst v0).put o1.dst v1).put o2.dst v2).put o3.dst v3).put o4.dst v4).eval o5).run P w=.ok (.value v5) w5)
  (r6:(execOp ((((((a.put o0.dst v0).put o1.dst v1).put o2.dst v2).put o3.dst v3).put o4.dst v4).put o5.dst v5).eval o6).run P w5=.ok .skip w6)
  (r7:(execOp (((((((a.put o0.dst v0).put o1.dst v1).put o2.dst v2).put o3.dst v3).put o4.dst v4).put o5.dst v5).put o6.dst undef).eval o7).run P w6=.ok (.value v7) w6)
  (h:Q .normal ((((((((a.put o0.dst v0).put o1.dst v1).put o2.dst v2).put o3.dst v3).put o4.dst v4).put o5.dst v5).put o6.dst undef).put o7.dst v7) cs' w6) :
  (Code.region id #[o0,o1,o2,o3,o4,o5,o6,o7] false).wpS P Q a cs w:=by
 have hw:∀ (o:Oper) (y:Nat->Option Bool),o.guard=none->Region.wanted o y=true:=fun o y hg=>by simp [Region.wanted,hg]
 apply wpS_region
 change wpOpsS _ _ _ [0,1,2,3,4,5,6,7] _ _ _
 rcases hc with hc | ⟨hc,rfl,rfl⟩
 ·refine opsS_rec (o:=o0) rfl (hw _ _ g0) r0 hc ?_
  refine zg4 (o:=o1) rfl (hw _ _ g1) r1 ?_
  refine zg4 (o:=o2) rfl (hw _ _ g2) r2 ?_
  refine zg4 (o:=o3) rfl (hw _ _ g3) r3 ?_
  refine zg4 (o:=o4) rfl (hw _ _ g4) r4 ?_
  refine zg4 (o:=o5) rfl (hw _ _ g5) r5 ?_
  refine zL7 (o:=o6) rfl (hw _ _ g6) r6 ?_
  exact zg4 (o:=o7) rfl (hw _ _ g7) r7 h
 ·refine ya2 (o:=o0) rfl (hw _ _ g0) r0 hc ?_
  refine zg4 (o:=o1) rfl (hw _ _ g1) r1 ?_
  refine zg4 (o:=o2) rfl (hw _ _ g2) r2 ?_
  refine zg4 (o:=o3) rfl (hw _ _ g3) r3 ?_
  refine zg4 (o:=o4) rfl (hw _ _ g4) r4 ?_
  refine zg4 (o:=o5) rfl (hw _ _ g5) r5 ?_
  refine zL7 (o:=o6) rfl (hw _ _ g6) r6 ?_
  exact zg4 (o:=o7) rfl (hw _ _ g7) r7 h
structure Off3 (d a c:Nat) (w w':World):Prop where
 os:w'.os=w.os
 tape:w'.tape=w.tape
 output:w'.output=w.output
 size:w.heap.size<=w'.heap.size
 block:∀ b,b<w.heap.size->b≠d->b≠a->b≠c->w'.heap[b]?=w.heap[b]?
def Caught (d a c:Nat) (v0 v1 v2:Value) (w w':World):Prop:=Bk w' d #[v0] 24 /\ Bk w' a #[v1] 3 /\ Bk w' c #[v2] 29 /\ Off3 d a c w w'
theorem Caught.of {d a c:Nat} {w w6:World} {u0 u1 u2 v0 v1 v2:Value} (hb:Below w.heap.size w w6) (hd:Bk w6 d #[u0] 24) (ha:Bk w6 a #[u1] 3) (hc:Bk w6 c #[u2] 29) (hda:d≠a) (hdc:d≠c) (hac:a≠c) :
  Caught d a c v0 v1 v2 w (((w6.setCell ⟨d,0,none⟩ v0).setCell ⟨a,0,none⟩ v1).setCell ⟨c,0,none⟩ v2).drew:=by
 refine ⟨((hd.set 0 v0).off hda 0 v1).off hdc 0 v2,((ha.off hda.symm 0 v0).set 0 v1).off hac 0 v2,((hc.off hdc.symm 0 v0).off hac.symm 0 v1).set 0 v2,hb.os,hb.tape,hb.output, ?_,fun b hl h1 h2 h3=>?_⟩
 ·have:=hb.size
  simp [World.setCell,World.drew]
  exact this
 ·show (((w6.setCell ⟨d,0,none⟩ v0).setCell ⟨a,0,none⟩ v1).setCell ⟨c,0,none⟩ v2).heap[b]?=_
  rw [Below.heap_setCell _ _ _ _ h3,Below.heap_setCell _ _ _ _ h2,Below.heap_setCell _ _ _ _ h1];exact hb.block b hl
theorem catch_p (d a c:Nat) (w:World) (x:Er) (older:List PanicEntry) (u0 u1 u2:Value) (hd:Bk w d #[u0] 24) (ha:Bk w a #[u1] 3) (hc:Bk w c #[u2] 29) (hda:d≠a) (hdc:d≠c) (hac:a≠c) :
  CallsD Tryz.prog 26 #[.pointer (some ⟨d,0,none⟩),.pointer (some ⟨a,0,none⟩),.pointer (some ⟨c,0,none⟩)] (.panicking ({ v:=.iface 61 (.agg #[.int .i64 x.1,.int .i64 x.2]),recovered:=false }::older)) w fun e u' w' =>
   e=.returned (.tuple #[])/\u'=.panicking ({ v:=.iface 61 (.agg #[.int .i64 x.1,.int .i64 x.2]),recovered:=true }::older)/\Caught d a c (.slice none 0 0) (.int .i64 x.1) (.int .i64 x.2) w w':=by
 refine callsD_of_wpS Tryz.func26 rfl fun c₀ cs hu=>?_
 generalize hT:(#[Value.pointer (some ⟨d,0,none⟩),Value.pointer (some ⟨a,0,none⟩),Value.pointer (some ⟨c,0,none⟩)]++Array.replicate _ undef)=T;have hT2:T=#[.pointer (some ⟨d,0,none⟩),.pointer (some ⟨a,0,none⟩),.pointer (some ⟨c,0,none⟩),undef,undef,undef,undef,undef,undef,undef,undef,undef,undef,undef,undef,undef]:=by rw [<- hT]; kernel_rfl
 subst hT2;clear hT;have hrd:recoverD (c₀::cs)=some (.iface 61 (.agg #[.int .i64 x.1,.int .i64 x.2]), { c₀ with mode:=.panicking ({ v:=.iface 61 (.agg #[.int .i64 x.1,.int .i64 x.2]),recovered:=true }::older) }::cs):=by
  simp [recoverD,hu]
 apply wpS_seq
 have hb:=za0 w (.cells #[.int .i64 0,.int .i64 0] 61 (0,0));have hbk:=Bk.new w #[.int .i64 0,.int .i64 0] 61;obtain ⟨q0,q1⟩:=hbk.c2;have f0:=hbk.frz 0;have f1:=hbk.frz 1;have hB6:∃ w6,w6=((w.alloc (.cells #[.int .i64 0,.int .i64 0] 61 (0,0))).setCell ⟨w.heap.size,0,none⟩ (.int .i64 x.1)).setCell ⟨w.heap.size,1,none⟩ (.int .i64 x.2)/\Bk w6 w.heap.size #[.int .i64 x.1,.int .i64 x.2] 61 /\ Below w.heap.size w w6 :=
  ⟨_,rfl,(hbk.set 0 _).set 1 _,(hb.setCell (p:=⟨w.heap.size,0,none⟩) (Nat.le_refl _) _).setCell (p:=⟨w.heap.size,1,none⟩) (Nat.le_refl _) _⟩
 obtain ⟨w6,hw6,hk6,hb6⟩:=hB6;refine run8 (w5:=w.alloc (.cells #[.int .i64 0,.int .i64 0] 61 (0,0))) (w6:=w6) _ (.tuple #[.agg #[.int .i64 x.1,.int .i64 x.2],.bool true]) (.tuple #[.agg #[.int .i64 x.1,.int .i64 x.2],.bool true]) (.agg #[.int .i64 x.1,.int .i64 x.2]) (.bool true) (.pointer (some ⟨w.heap.size,0,none⟩)) (.bool true) rfl rfl rfl rfl rfl rfl rfl rfl ?_ (.inl hrd) ?_ ?_ ?_ ?_ ?_ ?_ ?_ ?_
 ·kernel_rfl
 ·kernel_rfl
 ·kernel_rfl
 ·kernel_rfl
 ·kernel_rfl
 ·kernel_rfl
 ·rw [hw6]
  generalize w.alloc (.cells #[.int .i64 0,.int .i64 0] 61 (0,0))=w1 at *;simp [execOp,Act.put,go_sem,q0,q1,f0,f1]
 ·kernel_rfl
 clear hw6 hbk hb q0 q1 f0 f1;simp only [Exit.thenS];refine wpS_of_wp ?_
 simp only [Act.put,List.setIfInBounds_toArray,List.set_cons_succ,List.set_cons_zero]
 have hs6:=hb6.size;have hd6:=hd.stay hb6;have ha6:=ha.stay hb6;have hc6:=hc.stay hb6;have hdl:=hd.lt;have hal:=ha.lt;have hcl:=hc.lt;obtain ⟨k0,k1⟩:=hk6.c2;have p0:=hd6.cell 0 _ rfl;have p1:=ha6.cell 0 _ rfl;have p2:=hc6.cell 0 _ rfl;have g0:=hd6.frz 0;have g1:=ha6.frz 0;have g2:=hc6.frz 0;have n1:d≠w.heap.size:=by omega
 have n2:a≠w.heap.size:=by omega
 have n3:c≠w.heap.size:=by omega
 have n4:=n1.symm;have n5:=n2.symm;have n6:=n3.symm;have n7:=hda.symm;have n8:=hdc.symm;have n9:=hac.symm;have HB6:=Lh hb6;have HD6:=Lh hd6;have HA6:=Lh ha6;have HC6:=Lh hc6;clear hd6 ha6 hc6 hb6 hd ha hc hk6;go_wp2_with fail
 go_region
 go_wp2_with fail
 refine ⟨rfl,_,rfl,.tuple #[],by simp [results,Tryz.results26,go_sem],rfl,rfl, ?_⟩
 exact Caught.of HB6.out HD6.out HA6.out HC6.out hda hdc hac
theorem catch_i (d a c:Nat) (w:World) :
  CallsD Tryz.prog 26 #[.pointer (some ⟨d,0,none⟩),.pointer (some ⟨a,0,none⟩),.pointer (some ⟨c,0,none⟩)] .returning w fun e u' w' =>
   e=.returned (.tuple #[])/\u'=.returning/\Below w.heap.size w w':=by
 refine callsD_of_wpS Tryz.func26 rfl fun c₀ cs hu=>?_
 generalize hT:(#[Value.pointer (some ⟨d,0,none⟩),Value.pointer (some ⟨a,0,none⟩),Value.pointer (some ⟨c,0,none⟩)]++Array.replicate _ undef)=T;have hT2:T=#[.pointer (some ⟨d,0,none⟩),.pointer (some ⟨a,0,none⟩),.pointer (some ⟨c,0,none⟩),undef,undef,undef,undef,undef,undef,undef,undef,undef,undef,undef,undef,undef]:=by rw [<- hT]; kernel_rfl
 subst hT2;clear hT;have hrd:recoverD (c₀::cs)=none:=by simp [recoverD,hu]
 apply wpS_seq
 have hb:=za0 w (.cells #[.int .i64 0,.int .i64 0] 61 (0,0));have hbk:=Bk.new w #[.int .i64 0,.int .i64 0] 61;obtain ⟨q0,q1⟩:=hbk.c2;have f0:=hbk.frz 0;have f1:=hbk.frz 1;have hB6:∃ w6,w6=((w.alloc (.cells #[.int .i64 0,.int .i64 0] 61 (0,0))).setCell ⟨w.heap.size,0,none⟩ (.int .i64 0)).setCell ⟨w.heap.size,1,none⟩ (.int .i64 0)/\Bk w6 w.heap.size #[.int .i64 0,.int .i64 0] 61 /\ Below w.heap.size w w6 :=
  ⟨_,rfl,(hbk.set 0 _).set 1 _,(hb.setCell (p:=⟨w.heap.size,0,none⟩) (Nat.le_refl _) _).setCell (p:=⟨w.heap.size,1,none⟩) (Nat.le_refl _) _⟩
 obtain ⟨w6,hw6,hk6,hb6⟩:=hB6;refine run8 (w5:=w.alloc (.cells #[.int .i64 0,.int .i64 0] 61 (0,0))) (w6:=w6) (.nilIface) (.tuple #[.agg #[.int .i64 0,.int .i64 0],.bool false]) (.tuple #[.agg #[.int .i64 0,.int .i64 0],.bool false]) (.agg #[.int .i64 0,.int .i64 0]) (.bool false) (.pointer (some ⟨w.heap.size,0,none⟩)) (.bool false) rfl rfl rfl rfl rfl rfl rfl rfl ?_ (.inr ⟨hrd,rfl,rfl⟩) ?_ ?_ ?_ ?_ ?_ ?_ ?_ ?_
 ·kernel_rfl
 ·kernel_rfl
 ·kernel_rfl
 ·kernel_rfl
 ·kernel_rfl
 ·kernel_rfl
 ·rw [hw6]
  generalize w.alloc (.cells #[.int .i64 0,.int .i64 0] 61 (0,0))=w1 at *;simp [execOp,Act.put,go_sem,q0,q1,f0,f1]
 ·kernel_rfl
 clear hw6 hbk hb q0 q1 f0 f1;simp only [Exit.thenS];refine wpS_of_wp ?_
 simp only [Act.put,List.setIfInBounds_toArray,List.set_cons_succ,List.set_cons_zero]
 have HB6:=Lh hb6;clear hb6 hk6;go_wp2_with fail;refine ⟨rfl,c₀.mode,rfl,.tuple #[],by simp [results,Tryz.results26,go_sem],rfl,hu,HB6.out⟩
end Go.Proofs.YtfgelheiknmjgaaGreatDoor
namespace Go.Proofs.YtfgelheiknmjgaaGreatDoor.K
open Go.RowKit
theorem zy9 (f at':Nat) (l:List UInt8):scF (f+1) at' l=if l.drop (sepN l)=[] then .ok [(5,[],at'+sepN l)] else
   match tokR (l.drop (sepN l)) with
   | .error c=>.error (at'+sepN l,c)
   | .ok (k,t,n)=>match scF f (at'+sepN l+n) ((l.drop (sepN l)).drop n) with
     | .error e=>.error e
     | .ok ts=>.ok ((k,t,at'+sepN l)::ts):=rfl
structure PlaceOk (s:List UInt8) (lo:Nat) (p:Tk):Prop where
 lo:lo<=p.2.2
 lt:p.2.2<s.length
 kind:p.1≠5
 text:p.1=4->s.getD p.2.2 0=34
 other:p.1≠4->p.2.2+p.2.1.length<=s.length/\(s.drop p.2.2).take p.2.1.length=p.2.1
def wordK (p:Tk):List UInt8:=if p.1=4 then T1.zj4 p.2.1 else p.2.1
inductive GoodK:Int->List UInt8->Prop
 | sign {c:UInt8} (h:c∈sgL):GoodK 1 [c]
 | dots:GoodK 1 elL
 | name {t:List UInt8} (h:T1.nameL t=true):GoodK 2 t
 | int {t:List UInt8} (h:(T1.numL t).2=0):GoodK 3 t
 | text (t:List UInt8):GoodK 4 t
theorem zE6 {t:List UInt8} (h:T1.nameL t=true):∃ c u,t=c::u/\T1.letU (c.toNat:Int)=true/\t.all wdB=true:=by
 unfold T1.nameL at h
 cases t with
 | nil=>simp at h
 | cons c u =>
   simp only [Bool.and_eq_true,Bool.not_eq_true'] at h
   obtain ⟨⟨_,hd⟩,ha⟩:=h;have hd:T1.digB (c.toNat:Int)=false:=hd;have h1:(c::u).all wdB=true:=ha;refine ⟨c,u,rfl, ?_,h1⟩;rw [List.all_cons,Bool.and_eq_true] at h1;have h2:T1.nmB (c.toNat:Int)=true:=h1.1;rw [T1.nm_of,hd,Bool.or_false] at h2;exact h2
theorem dig_wd:∀ c:UInt8,T1.digB (c.toNat:Int)=true->wdB c=true/\dmB c=true:=zs7 (by decide +kernel)
theorem yp5 {t:List UInt8} (h:T1.allDg t=true):t.all wdB=true:=by
 unfold T1.allDg at h;rw [List.all_eq_true] at h ⊢;exact fun c hc=>(dig_wd c (h c hc)).1
theorem zM7 {t:List UInt8} (h:(T1.numL t).2=0):∃ c u,t=c::u/\dmB c=true/\u.all wdB=true:=by
 have hd:T1.decL t=true:=by
  cases hx:T1.decL t with
  | true=>rfl
  | false=>rw [T1.zU5 hx] at h; cases h
 rcases T1.zC6 hd with rfl | ⟨d,hne,_,hdg,rfl | rfl,_⟩
 ·exact ⟨48,[],rfl,by decide,rfl⟩
 ·obtain ⟨c,u,rfl⟩:=List.exists_cons_of_ne_nil hne
  have h2:=T1.zk8.1 hdg;exact ⟨c,u,rfl,(dig_wd c h2.1).2,yp5 h2.2⟩
 ·exact ⟨45,d,rfl,by decide,yp5 hdg⟩
theorem esc_run:∀ c:UInt8,runL ltS false (T1.escL c)=some false:=zs7 (by decide +kernel)
theorem zV3:∀ t:List UInt8,runL ltS false (t.flatMap T1.escL)=some false
 | []=>rfl
 | c::t=>by rw [List.flatMap_cons,zT7 _ _ _ _ (esc_run c)]; exact zV3 t
theorem lt_quote (t r:List UInt8):ltN (t.flatMap T1.escL++34::r)=(t.flatMap T1.escL).length:=by
 unfold ltN;rw [zz6 _ _ _ _ (zV3 t)]
 rfl
theorem tok_word {k:Int} {t:List UInt8} (j:Nat) (h:GoodK k t) (r:List UInt8) (hr:wdH r=false):TokIs (wordK (k,t,j)++r) k t (wordK (k,t,j)).length:=by
 cases h with
 | sign h=>exact .sign h
 | dots=>exact .dots r
 | name h =>
   obtain ⟨c,u,rfl,hc,ha⟩:=zE6 h;have e:=(yd1 (c::u) r).2 ⟨ha,hr⟩;have e2:(c::u++r).take (wdN (c::u++r))=c::u:=by rw [e,List.take_left]
   have:=TokIs.name (l:=c::u++r) hc (by rw [e2]; exact h);rw [e2,e] at this;exact this
 | int h =>
   obtain ⟨c,u,rfl,hc,ha⟩:=zM7 h;have e:=(yd1 u r).2 ⟨ha,hr⟩;have e2:(c::u++r).take (wdN ((c::u++r).drop 1)+1)=c::u:=by
    show (c::(u++r)).take (wdN (u++r)+1)=_
    rw [e,List.take_succ_cons,List.take_left]
   have:=TokIs.int (l:=c::u++r) hc (by rw [e2]; exact h);rw [e2] at this;have e3:wdN ((c::u++r).drop 1)+1=(c::u).length:=by
    show wdN (u++r)+1=_
    rw [e]; rfl
   rw [e3] at this;exact this
 | text t =>
   have ew:wordK (4,t,j)=34::(t.flatMap T1.escL++[34]):=rfl;have el:ltN (t.flatMap T1.escL++[34]++r)=(t.flatMap T1.escL).length:=by rw [List.append_assoc]; exact lt_quote t r
   have e2:(t.flatMap T1.escL++[34]++r).take (ltN (t.flatMap T1.escL++[34]++r)+1)=t.flatMap T1.escL++[34]:=by
    rw [el];have:(t.flatMap T1.escL).length+1=(t.flatMap T1.escL++[34]).length:=by simp
    rw [this,List.take_left]
   have:=TokIs.text (r:=t.flatMap T1.escL++[34]++r) (t:=t) (by rw [el]; simp) (by rw [e2]; exact T1.zG0 t);rw [el] at this;rw [ew];have hn:(34::(t.flatMap T1.escL++[34])).length=(t.flatMap T1.escL).length+2:=by simp
   rw [hn];exact this
theorem zJ2 {k:Int} {t:List UInt8} (j:Nat) (h:GoodK k t):∃ c u,wordK (k,t,j)=c::u/\sepS false c=none:=by
 cases h with
 | sign h=>exact ⟨_,[],rfl,zw2 _ (.inl h)⟩
 | dots=>exact ⟨_,_,rfl,zw2 _ (.inr (.inl rfl))⟩
 | name h =>
   obtain ⟨c,u,rfl,hc,ha⟩:=zE6 h;exact ⟨c,u,rfl,zw2 _ (.inr (.inr (.inl (yk8 _ hc))))⟩
 | int h =>
   obtain ⟨c,u,rfl,hc,ha⟩:=zM7 h;exact ⟨c,u,rfl,zw2 _ ((zV8 _ hc).elim (fun h=>.inr (.inr (.inl h))) (fun h=>.inr (.inr (.inr (.inl h)))))⟩
 | text t=>exact ⟨34,_,rfl,zw2 _ (.inr (.inr (.inr (.inr rfl))))⟩
def tailK:List Tk->List UInt8
 | []=>[]
 | p::r=>32::(wordK p++tailK r)
theorem scan_one {k:Int} {t:List UInt8} {j:Nat} (hg:GoodK k t) (pre:List UInt8) (hp:pre=[]∨pre=[32]) (r:List UInt8) (hr:wdH r=false) (f b:Nat) (ts:List Tk) (h:scF f (b+pre.length+(wordK (k,t,j)).length) r=.ok ts) :
  scF (f+1) b (pre++(wordK (k,t,j)++r))=.ok ((k,t,b+pre.length)::ts):=by
 obtain ⟨c,u,hc,hs⟩:=zJ2 j hg;have ht:=tok_word j hg r hr;have h0:spanL sepS false (wordK (k,t,j)++r)=0:=by
  rw [hc,List.cons_append,spanL,hs]
 have hn:sepN (pre++(wordK (k,t,j)++r))=pre.length:=by
  unfold sepN;rw [zz6 pre false false _ (by rcases hp with rfl | rfl <;> rfl),h0]; rfl
 rw [zy9,hn,List.drop_left,if_neg (by rw [hc]; simp),ht.eq];simp only
 rw [List.drop_left,h]
theorem yd6:∀ (f:Nat) (l t:List UInt8),T1.unqF f l=some t->t.length<=l.length
 | 0,l,t,h=>by
   unfold T1.unqF at h
   split at h
   ·cases h; exact Nat.zero_le _
   ·cases h
 | f+1,l,t,h=>by
   unfold T1.unqF at h
   split at h
   ·cases h; exact Nat.zero_le _
   ·cases hs:T1.stepL l with
    | none=>rw [hs] at h; cases h
    | some p =>
      obtain ⟨b,k⟩:=p;rw [hs] at h;have hk:=T1.zt7 hs;simp only at h
      cases hr:T1.unqF f (l.drop k) with
      | none=>rw [hr] at h; cases h
      | some t2 =>
        rw [hr] at h;cases h;have:=yd6 f _ _ hr;rw [List.length_drop] at this;show t2.length+1<=_;omega
theorem zX3 {l t:List UInt8} (h:T1.zd5 l=some t):t.length+2<=l.length:=by
 unfold T1.zd5 at h
 split at h
 ·next h2 =>
  have:=yd6 _ _ _ h;unfold T1.midL at this;rw [List.length_take,List.length_drop] at this;omega
 ·cases h
end Go.Proofs.YtfgelheiknmjgaaGreatDoor.K
namespace Go.Proofs.YtfgelheiknmjgaaGreatDoor
open Go.RowKit
theorem tokR_ok {l:List UInt8} {k:Int} {t:List UInt8} {n:Nat} (h:K.tokR l=.ok (k,t,n)):1<=k/\k<=4/\t.length<=l.length+3:=by
 unfold K.tokR at h;simp only at h
 split at h
 ·cases h; exact ⟨by omega,by omega,by rw [List.length_take]; omega⟩
 ·split at h
  ·cases h; exact ⟨by omega,by omega,by show 3<=_; omega⟩
  ·split at h
   ·split at h
    ·cases h; exact ⟨by omega,by omega,by rw [List.length_take]; omega⟩
    ·cases h
   ·split at h
    ·split at h
     ·cases h; exact ⟨by omega,by omega,by rw [List.length_take]; omega⟩
     ·cases h
    ·split at h
     ·split at h
      ·cases h
      ·split at h
       ·cases h
       ·next hu =>
        have:=K.zX3 hu;rw [List.length_take] at this;cases h; exact ⟨by omega,by omega,by omega⟩
     ·cases h
theorem zT6:∀ (f at':Nat) (l:List UInt8) (ts:List Tk),K.scF f at' l=.ok ts->at'+l.length<=70000->(∃ i t,ts=i++[t]/\t.1=5)/\(∀ t∈ts,TkOk t)/\ts.length<=l.length+1
 | 0,_,_,_,h,_=>by simp [K.scF] at h
 | f+1,at',l,ts,h,hl=>by
   have hsp:=K.zG6 l;unfold K.scF at h;by_cases he:l.drop (K.sepN l)=[]
   ·rw [if_pos he] at h
    cases h
    refine ⟨⟨[],_,rfl,rfl⟩,fun t ht=>?_,by simp⟩
    rw [List.mem_singleton] at ht;subst ht;exact ⟨by show (0:Int)<=5; omega,by show (5:Int)<=5; omega,by simp,by show at'+K.sepN l<=_; omega⟩
   ·rw [if_neg he] at h
    cases ht:K.tokR (l.drop (K.sepN l)) with
    | error c=>rw [ht] at h; cases h
    | ok q =>
      obtain ⟨k,t,n⟩:=q;rw [ht] at h;have h1:=K.zT3 he ht;have h2:=tokR_ok ht;rw [List.length_drop] at h1 h2;simp only at h
      cases hr:K.scF f (at'+K.sepN l+n) ((l.drop (K.sepN l)).drop n) with
      | error e=>rw [hr] at h; cases h
      | ok r =>
        rw [hr] at h;cases h;have hll:((l.drop (K.sepN l)).drop n).length=l.length-K.sepN l-n:=by rw [List.length_drop,List.length_drop]
        obtain ⟨⟨i,u,e,h5⟩,hok,hlen⟩:=zT6 f _ _ r hr (by rw [hll]; omega);refine ⟨⟨_::i,u,by rw [e]; rfl,h5⟩,fun v hv=>?_,by rw [List.length_cons]; rw [hll] at hlen; omega⟩
        rcases List.mem_cons.1 hv with rfl | hv
        ·exact ⟨by show (0:Int)<=k; omega,by show k<=5; omega,by show t.length<=_; omega,by show at'+K.sepN l<=_; omega⟩
        ·exact hok v hv
theorem scR_good {l:List UInt8} {ts:List Tk} (h:K.scR l=.ok ts):Good ts:=by
 unfold K.scR at h
 split at h
 ·cases h
 ·obtain ⟨h1,h2,h3⟩:=zT6 _ _ _ _ h (by omega)
  exact ⟨h1,h2,by omega⟩
def sdlF (el:DfT) (s:List UInt8):Except Er (List DefT):=match K.scR s with
 | .error x=>.error x
 | .ok ts=>exB (docR el ts) fun q=>.ok q.1
def zD0 (w:World) (r:Except Er (List DefT)) (e:Ending) (w':World):Prop:=Below w.heap.size w w'/\match r with
 | .ok l=>∃ v,e=.returned (.tuple #[.agg #[v],.int .i64 0,.int .i64 0])/\DefsC w' (fun b=>w.heap.size<=b/\b<w'.heap.size) v l
 | .error x=>e=.returned (.tuple #[.agg #[.slice none 0 0],.int .i64 x.1,.int .i64 x.2])
abbrev w3 (w:World):World:=((w.alloc (.cells #[.slice none 0 0] 24 (0,0))).alloc (.cells #[.int .i64 0] 3 (0,0))).alloc (.cells #[.int .i64 0] 29 (0,0))
structure Res3 (w:World) (v0 v1 v2:Value) (W:World):Prop where
 d:Bk W w.heap.size #[v0] 24
 a:Bk W (w.heap.size+1) #[v1] 3
 c:Bk W (w.heap.size+1+1) #[v2] 29
 below:Below w.heap.size w W
 size:w.heap.size+3<=W.heap.size
theorem Res3.new (w:World):Res3 w (.slice none 0 0) (.int .i64 0) (.int .i64 0) (w3 w):=by
 have b1:=za0 w (.cells #[.slice none 0 0] 24 (0,0));have x1:=Bk.new w #[.slice none 0 0] 24;unfold w3;generalize hw1:w.alloc (.cells #[.slice none 0 0] 24 (0,0))=w1 at *;have s1:w1.heap.size=w.heap.size+1:=by rw [<- hw1,World.size_alloc]
 have b2:=za0 w1 (.cells #[.int .i64 0] 3 (0,0));have x2:=Bk.new w1 #[.int .i64 0] 3;rw [s1] at x2;generalize hw2:w1.alloc (.cells #[.int .i64 0] 3 (0,0))=w2 at *;have s2:w2.heap.size=w.heap.size+2:=by rw [<- hw2,World.size_alloc,s1]
 have b3:=za0 w2 (.cells #[.int .i64 0] 29 (0,0));have x3:=Bk.new w2 #[.int .i64 0] 29;rw [s2] at x3;have s3:(w2.alloc (.cells #[.int .i64 0] 29 (0,0))).heap.size=w.heap.size+3:=by rw [World.size_alloc,s2]
 exact ⟨(x1.stay b2).stay b3,x2.stay b3,x3,(b1.trans (b2.mono b1.size)).trans (b3.mono (by omega)),by omega⟩
theorem tat_of {w:World} {base:Nat} {v:Value} {ts:List Tk} (h:K.OwnT w base v ts) (hne:0<ts.length):∃ a c,v=.slice (some a) ts.length c/\ts.length<=c/\base<=a.block/\a.block<w.heap.size /\
  ∀ i t,ts[i]?=some t->w.cell? (a.add (i*3))=some (.int .i64 t.1)/\w.cell? ⟨(a.add (i*3)).block,(a.add (i*3)).off+1,none⟩=some (.string ⟨t.2.1.toArray⟩)/\w.cell? ⟨(a.add (i*3)).block,(a.add (i*3)).off+2,none⟩=some (.int .i64 t.2.2):=by
 have hh:=K.OwnT.z h;unfold K.OwnZ at hh;have hlt:=fun g hg=>zf9 hh (g:=g) hg;rw [K.tz_len] at hh;rcases hh.2 with ⟨_,hz⟩ | ⟨g,cap,cur,rfl,h1,h2,h3,_⟩
 ·omega
 ·have hl:=hlt g rfl
  refine ⟨_,_,rfl,h3,hl.1,hl.2,fun i t hi=>?_⟩
  have hcell:=hh.cells (g:=g) rfl;have hi2:(K.tz ts)[i]?=some (t.1,t.2.1,(t.2.2:Int)):=by unfold K.tz; rw [List.getElem?_map,hi]; rfl
  obtain ⟨z0,z1,z2⟩:=K.zC_at (K.tz ts) i _ hi2;have e:∀ n,(⟨g,0,none⟩ : Addr).add n=⟨g,n,none⟩:=fun n=>by unfold Addr.add; split <;> simp_all
  have k0:=hcell _ _ z0;have k1:=hcell _ _ z1;have k2:=hcell _ _ z2;rw [e] at k0 k1 k2;rw [e];exact ⟨k0,k1,k2⟩
variable {w W W':World} {v0 v1 v2:Value}
theorem Res3.stay (h:Res3 w v0 v1 v2 W) (hb:Below W.heap.size W W'):Res3 w v0 v1 v2 W':=⟨h.d.stay hb,h.a.stay hb,h.c.stay hb,h.below.trans (hb.mono (by have:=h.size; omega)),Nat.le_trans h.size hb.size⟩
theorem Res3.setA (h:Res3 w v0 v1 v2 W) (u:Value):Res3 w v0 u v2 (W.setCell ⟨w.heap.size+1,0,none⟩ u) :=
 ⟨h.d.off (by omega) 0 u,h.a.set 0 u,h.c.off (by omega) 0 u,h.below.setCell (p:=⟨w.heap.size+1,0,none⟩) (by show w.heap.size<=w.heap.size+_; omega) u,by have:=h.size; simp [World.setCell]; exact this⟩
theorem Res3.setC (h:Res3 w v0 v1 v2 W) (u:Value):Res3 w v0 v1 u (W.setCell ⟨w.heap.size+1+1,0,none⟩ u) :=
 ⟨h.d.off (by omega) 0 u,h.a.off (by omega) 0 u,h.c.set 0 u,h.below.setCell (p:=⟨w.heap.size+1+1,0,none⟩) (by show w.heap.size<=w.heap.size+1+1; omega) u,by have:=h.size; simp [World.setCell]; exact this⟩
theorem Res3.setD (h:Res3 w v0 v1 v2 W) (u:Value):Res3 w u v1 v2 (W.setCell ⟨w.heap.size,0,none⟩ u) :=
 ⟨h.d.set 0 u,h.a.off (by omega) 0 u,h.c.off (by omega) 0 u,h.below.setCell (p:=⟨w.heap.size,0,none⟩) (Nat.le_refl _) u,by have:=h.size; simp [World.setCell]; exact this⟩
theorem Res3.drew (h:Res3 w v0 v1 v2 W):Res3 w v0 v1 v2 W.drew:=h.stay ((Below.refl _ _).drew)
theorem zX9 (el:DfT) (hel:∀ (p k:Nat) (W:World) (ts:List Tk) (m:Nat),PSt W p ts m->kdR (hd ts)=k->k≠0->Calls Tryz.prog 55 #[pP p,.int .i64 k] W (WPost DefV W p (el k ts)))
  (hlt:∀ (k:Nat) (ts:List Tk) (x:DefT) (ts':List Tk),el k ts=.ok (x,ts')->ts'.length<ts.length) (s:ByteArray) (w:World) (hL:K.LK w) :
  Calls Tryz.prog 12 #[.string s] w (zD0 w (sdlF el s.data.toList)):=by
 have hmf:∀ (fn:Fn) (first cap:Array Value) (w:World),(Instr.makeFunc fn first cap).run Tryz.prog w=.ok (.func fn first cap) w:=fun _ _ _ _=>rfl;have hsf:∀ (A:Addr) (w:World),(store A (.func (.func 27) #[] #[])).run Tryz.prog w=stored Tryz.prog w A (.func (.func 27) #[] #[]) .plain:=fun A w=>run_store _ w A _ _ rfl;have HR:=Lh (Res3.new w);have HSC:=Lh (K.scan_any s (w3 w) (hL.below (Res3.new w).below));have HL3:=Lh (hL.below (Res3.new w).below);have HV:Hid (sdlF el s.data.toList=match K.scR s.data.toList with
  | .error x=>.error x
  | .ok ts=>exB (docR el ts) fun q=>.ok q.1):=Lh rfl
 have HL:=Lh hL;clear hL
 cases hsc:K.scR s.data.toList with
 | error x =>
   rw [hsc] at HSC HV;have HV2:Hid (sdlF el s.data.toList=.error x):=HV;generalize sdlF el s.data.toList=RR at *;clear hsc HV hel hlt
   go_enter_defers Tryz.func12,Tryz.ntmps12
   go_wp2_with fail
   refine HSC.out.mono ?_
   rintro e w4 ⟨⟨rfl,hx2⟩,hb⟩;have hr:=HR.out.stay hb;have HR4:=Lh hr;have p0:=hr.d.cell 0 _ rfl;have p1:=hr.a.cell 0 _ rfl;have p2:=hr.c.cell 0 _ rfl;have g0:=hr.d.frz 0;have g1:=hr.a.frz 0;have g2:=hr.c.frz 0;have hne:(x.2 != 0)=true:=by rw [bne_iff_ne]; exact hx2
   clear hb hr hx2;go_wp2_with fail
   go_region
   go_wp2_with fail
   have HZ:=Lh (((((HR4.out.setA (.int .i64 x.1)).setC (.int .i64 x.2)).setD (.slice none 0 0)).setA (.int .i64 x.1)).setC (.int .i64 x.2)).drew;have z0:=HZ.out.d.cell 0 _ rfl;have z1:=HZ.out.a.cell 0 _ rfl;have z2:=HZ.out.c.cell 0 _ rfl;simp only [bodyPostD,Leaves];exact ⟨.tuple #[.agg #[.slice none 0 0],.int .i64 x.1,.int .i64 x.2],by simp [results,Tryz.results12,go_sem,z0,z1,z2],HZ.out.below,by rw [HV2.out]⟩
 | ok ts =>
   rw [hsc] at HSC HV;have hg:=scR_good hsc;have HV2:Hid (sdlF el s.data.toList=exB (docR el ts) fun q=>.ok q.1):=HV;have HDOC:=Lh (fun p W m (h:PSt W p ts m)=>zG8 p el (hel p) hlt W ts m h);have HG:=Lh hg;have hne0:0<ts.length:=by obtain ⟨t,r,e⟩:=hg.ne; rw [e]; simp
   generalize sdlF el s.data.toList=RR at *;clear hsc HV hel hlt hg
   go_enter_defers Tryz.func12,Tryz.ntmps12
   go_wp2_with fail
   refine HSC.out.mono ?_
   rintro e w4 ⟨⟨v,rfl,hown⟩,hb⟩;obtain ⟨a,c,rfl,hc,ha1,ha2,hcells⟩:=tat_of hown hne0;have hr:=HR.out.stay hb;have HR4:=Lh hr;have HB4:=Lh hb;have hs3:=HR.out.size;have hs4:=hb.size;have hl4:=HL3.out.below hb;have hr5:Res3 w (.slice none 0 0) (.int .i64 0) (.int .i64 0) ((w4.setCell ⟨w.heap.size+1,0,none⟩ (.int .i64 0)).setCell ⟨w.heap.size+1+1,0,none⟩ (.int .i64 0)):=(hr.setA (.int .i64 0)).setC (.int .i64 0);have hs5:((w4.setCell ⟨w.heap.size+1,0,none⟩ (.int .i64 0)).setCell ⟨w.heap.size+1+1,0,none⟩ (.int .i64 0)).heap.size=w4.heap.size:=by simp [World.setCell]
   have hb6:=za0 ((w4.setCell ⟨w.heap.size+1,0,none⟩ (.int .i64 0)).setCell ⟨w.heap.size+1+1,0,none⟩ (.int .i64 0)) (.cells #[.slice (some a) ts.length c,fnV,.bool false,.int .i64 0] 67 (0,0));have hk6:=Bk.new ((w4.setCell ⟨w.heap.size+1,0,none⟩ (.int .i64 0)).setCell ⟨w.heap.size+1+1,0,none⟩ (.int .i64 0)) #[.slice (some a) ts.length c,fnV,.bool false,.int .i64 0] 67;rw [hs5] at hk6 hb6;have hr6:Res3 w (.slice none 0 0) (.int .i64 0) (.int .i64 0) (((w4.setCell ⟨w.heap.size+1,0,none⟩ (.int .i64 0)).setCell ⟨w.heap.size+1+1,0,none⟩ (.int .i64 0)).alloc (.cells #[.slice (some a) ts.length c,fnV,.bool false,.int .i64 0] 67 (0,0))):=hr5.stay (by rw [hs5]; exact hb6);have hps:PSt (((w4.setCell ⟨w.heap.size+1,0,none⟩ (.int .i64 0)).setCell ⟨w.heap.size+1+1,0,none⟩ (.int .i64 0)).alloc (.cells #[.slice (some a) ts.length c,fnV,.bool false,.int .i64 0] 67 (0,0))) w4.heap.size ts 0:=by
    refine ⟨⟨some a,c,hk6,hc,a,rfl,ha2,fun i t hi=>?_⟩,HG.out,by omega,fun w2 h2=>?_⟩
    ·obtain ⟨q0,q1,q2⟩:=hcells i t hi
     have hh:(((w4.setCell ⟨w.heap.size+1,0,none⟩ (.int .i64 0)).setCell ⟨w.heap.size+1+1,0,none⟩ (.int .i64 0)).alloc (.cells #[.slice (some a) ts.length c,fnV,.bool false,.int .i64 0] 67 (0,0))).heap[a.block]?=w4.heap[a.block]?:=by
      rw [hb6.block a.block ha2,Below.heap_setCell _ _ _ _ (by show a.block≠w.heap.size+1+1; omega),Below.heap_setCell _ _ _ _ (by show a.block≠w.heap.size+1; omega)]
     have hk:∀ o,(((w4.setCell ⟨w.heap.size+1,0,none⟩ (.int .i64 0)).setCell ⟨w.heap.size+1+1,0,none⟩ (.int .i64 0)).alloc (.cells #[.slice (some a) ts.length c,fnV,.bool false,.int .i64 0] 67 (0,0))).cell? ⟨(a.add (i*3)).block,o,none⟩=w4.cell? ⟨(a.add (i*3)).block,o,none⟩:=fun o=>zd0 (a:=⟨(a.add (i*3)).block,o,none⟩) (by rw [za1]; exact hh);exact ⟨(zd0 (by rw [za1]; exact hh)).trans q0,(hk _).trans q1,(hk _).trans q2⟩
    ·exact HL.out.num.below (hr6.below.trans (h2.mono (by omega)))
   have HP:=Lh hps;have HR6:=Lh hr6;have p0:=hr.d.cell 0 _ rfl;have p1:=hr.a.cell 0 _ rfl;have p2:=hr.c.cell 0 _ rfl;have g1:=hr.a.frz 0;have g2:=hr.c.frz 0;have hs6:w4.heap.size+1=(((w4.setCell ⟨w.heap.size+1,0,none⟩ (.int .i64 0)).setCell ⟨w.heap.size+1+1,0,none⟩ (.int .i64 0)).alloc (.cells #[.slice (some a) ts.length c,fnV,.bool false,.int .i64 0] 67 (0,0))).heap.size:=by rw [World.size_alloc,hs5]
   have HS6:=Lh hs6;clear hb hr hown hcells hr5 hk6 hb6 hr6 hps hs6;go_wp2_with fail;refine (HDOC.out _ _ _ HP.out).mono ?_
   have hs6:=HS6.out;have hd6:=HR6.out;clear p0 p1 p2 g1 g2;generalize ((w4.setCell ⟨w.heap.size+1,0,none⟩ (.int .i64 0)).setCell ⟨w.heap.size+1+1,0,none⟩ (.int .i64 0)).alloc (.cells #[.slice (some a) ts.length c,fnV,.bool false,.int .i64 0] 67 (0,0))=w6 at *;rintro e w7 (⟨l,ts',v,m',hre,rfl,⟨u,rfl,hx⟩,hp,ht⟩ | ⟨x,hre,rfl,ht⟩)
   ·have HD:=Lh (HV2.out.trans (za2 hre))
    have hr7:Res3 w (.slice none 0 0) (.int .i64 0) (.int .i64 0) w7:=⟨hd6.d.far ht (by omega),hd6.a.far ht (by omega),hd6.c.far ht (by omega),hd6.below.trans (ht.below (by omega) |>.mono (by omega)),by have:=hd6.size; have:=ht.size; omega⟩;obtain ⟨A,cc,hu,_⟩:=SlS.form hx;subst hu;have HR7:=Lh hr7;have HX:=Lh hx;have p0:=hr7.d.cell 0 _ rfl;have p1:=hr7.a.cell 0 _ rfl;have p2:=hr7.c.cell 0 _ rfl;have g0:=hr7.d.frz 0;have g1:=hr7.a.frz 0;have g2:=hr7.c.frz 0;have hs7:=ht.size;clear hre hp ht hr7 hx;go_wp2_with fail;simp only [bodyPostD]
    refine leaves_cons (f := 26) (args:=#[.pointer (some ⟨w.heap.size,0,none⟩),.pointer (some ⟨w.heap.size+1,0,none⟩),.pointer (some ⟨w.heap.size+1+1,0,none⟩)]) (by simp) (by simp [go_sem]) ?_
    refine (catch_i _ _ _ _).mono ?_
    rintro e u' w9 ⟨rfl,rfl,hb⟩;have hr8:=((HR7.out.setD (.slice A l.length cc)).setA (.int .i64 0)).setC (.int .i64 0);have hr9:=hr8.stay hb;have z0:=hr9.d.cell 0 _ rfl;have z1:=hr9.a.cell 0 _ rfl;have z2:=hr9.c.cell 0 _ rfl;have hs8:(((w7.setCell ⟨w.heap.size,0,none⟩ (.slice A l.length cc)).setCell ⟨w.heap.size+1,0,none⟩ (.int .i64 0)).setCell ⟨w.heap.size+1+1,0,none⟩ (.int .i64 0)).heap.size=w7.heap.size:=by simp [World.setCell]
    have hs9:=hb.size;rw [hs8] at hs9 hb;have h6z:=HR6.out.size;simp only [settle,Leaves];refine ⟨.tuple #[.agg #[.slice A l.length cc],.int .i64 0,.int .i64 0],by simp [results,Tryz.results12,go_sem,z0,z1,z2],hr9.below, ?_⟩
    rw [HD.out];refine ⟨_,rfl,SlS.kept DefC.stays HX.out (fun b hb2=>?_) (fun b hb2=>⟨by omega,by omega⟩)⟩;rw [hb.block b hb2.2,Below.heap_setCell _ _ _ _ (by show b≠w.heap.size+1+1; omega),Below.heap_setCell _ _ _ _ (by show b≠w.heap.size+1; omega),Below.heap_setCell _ _ _ _ (by show b≠w.heap.size; omega)]
   ·have HD:=Lh (HV2.out.trans (za6 hre))
    have hr7:Res3 w (.slice none 0 0) (.int .i64 0) (.int .i64 0) w7:=⟨hd6.d.far ht (by omega),hd6.a.far ht (by omega),hd6.c.far ht (by omega),hd6.below.trans (ht.below (by omega) |>.mono (by omega)),by have:=hd6.size; have:=ht.size; omega⟩;have HR7:=Lh hr7;clear hre ht hr7;unfold badV;simp only [bodyPostD];refine leaves_cons (f := 26) (args:=#[.pointer (some ⟨w.heap.size,0,none⟩),.pointer (some ⟨w.heap.size+1,0,none⟩),.pointer (some ⟨w.heap.size+1+1,0,none⟩)]) (by simp) (by simp [go_sem]) ?_
    refine (catch_p _ _ _ _ x [] _ _ _ HR7.out.d HR7.out.a HR7.out.c (by omega) (by omega) (by omega)).mono ?_
    rintro e u' w9 ⟨rfl,rfl,q0,q1,q2,hoff⟩;have z0:=q0.cell 0 _ rfl;have z1:=q1.cell 0 _ rfl;have z2:=q2.cell 0 _ rfl;have hbel:Below w.heap.size w w9:=HR7.out.below.trans ⟨hoff.os,hoff.tape,hoff.output,hoff.size,fun b hb=>hoff.block b (by have:=HR7.out.size; omega) (by omega) (by omega) (by omega)⟩;simp only [settle,Leaves,List.dropWhile_nil]
    refine ⟨.tuple #[.agg #[.slice none 0 0],.int .i64 x.1,.int .i64 x.2],by simp [results,Tryz.results12,go_sem,z0,z1,z2],hbel, ?_⟩
    rw [HD.out]
end Go.Proofs.YtfgelheiknmjgaaGreatDoor

