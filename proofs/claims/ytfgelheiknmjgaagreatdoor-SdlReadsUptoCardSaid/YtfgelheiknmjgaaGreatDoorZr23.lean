
/-
 Texts joined: YMem YMake YParts YCmp YRight.
-/
import Derived.Test.YtfgelheiknmjgaaGreatDoorZr8
import Derived.Test.YtfgelheiknmjgaaGreatDoorZr9
import Derived.Test.YtfgelheiknmjgaaGreatDoorZr22
import Derived.ArgAppend
import Derived.DataElems
import Derived.Shelf.Abstract
import Derived.Test.YtfgelheiknmjgaaGreatDoorZr1
set_option maxRecDepth 1000000
set_option maxHeartbeats 8000000
namespace Go.Proofs.YtfgelheiknmjgaaGreatDoor.K
open Go.RowKit
def IntsAt (w:World) (B:Nat) (A:Option Addr) (xs:Ws):Prop:=0<xs.length->∃ a,A=some a/\a.block<B/\∀ (i:Nat) (x:Int),xs[i]?=some x->w.cell? (a.add i)=some (.int .i64 x)
theorem IntsAt.kept {w w':World} {B:Nat} {A:Option Addr} {xs:Ws} (h:IntsAt w B A xs) (hb:Below B w w'):IntsAt w' B A xs:=fun h0=>by
 obtain ⟨a,e,ha,hc⟩:=h h0;exact ⟨a,e,ha,fun i x hx=>(World.cell?_of_block (w:=w) (hb.block _ (by rw [za0]; exact ha))).trans (hc i x hx)⟩
theorem IntsAt.mono {w:World} {B B':Nat} {A:Option Addr} {xs:Ws} (h:IntsAt w B A xs) (hB:B<=B'):IntsAt w B' A xs:=fun h0=>by
 obtain ⟨a,e,ha,hc⟩:=h h0;exact ⟨a,e,Nat.lt_of_lt_of_le ha hB,hc⟩
theorem IntsAt.stay {w w':World} {A:Option Addr} {xs:Ws} (h:IntsAt w w.heap.size A xs) (hb:Below w.heap.size w w'):IntsAt w' w'.heap.size A xs:=(h.kept hb).mono hb.size
theorem IntsAt.nil (w:World) (B:Nat) (A:Option Addr):IntsAt w B A []:=fun h=>absurd h (Nat.lt_irrefl _)
def subA (A:Option Addr) (k c:Nat):Option Addr:=A.map fun a=>if c=k then a else a.add k
theorem IntsAt.drop {w:World} {B:Nat} {A:Option Addr} {xs:Ws} (h:IntsAt w B A xs) (k c:Nat) (hc:xs.length<=c):IntsAt w B (subA A k c) (xs.drop k):=fun h0=>by
 rw [List.length_drop] at h0;obtain ⟨a,rfl,ha,hx⟩:=h (by omega)
 refine ⟨a.add k,by unfold subA; simp only [Option.map_some,Option.some.injEq]; exact if_neg (by omega),by rw [za0]; exact ha,fun i x hi=>?_⟩
 rw [Addr.add_add];exact hx _ _ (by rw [<- hi,List.getElem?_drop])
def SlV (w:World) (B:Nat) (v:Value) (xs:Ws):Prop:=∃ A c,v=.slice A xs.length c/\xs.length<=c/\IntsAt w B A xs
def RefV (w:World) (B:Nat) (v:Value) (n:ByteArray) (xs:Ws):Prop:=∃ A c,v=.agg #[.string n,.slice A xs.length c]/\xs.length<=c/\IntsAt w B A xs
theorem SlV.kept {w w':World} {B:Nat} {v:Value} {xs:Ws} (h:SlV w B v xs) (hb:Below B w w'):SlV w' B v xs:=by
 obtain ⟨A,c,e,hc,h⟩:=h; exact ⟨A,c,e,hc,h.kept hb⟩
theorem SlV.mono {w:World} {B B':Nat} {v:Value} {xs:Ws} (h:SlV w B v xs) (hB:B<=B'):SlV w B' v xs:=by
 obtain ⟨A,c,e,hc,h⟩:=h; exact ⟨A,c,e,hc,h.mono hB⟩
theorem RefV.kept {w w':World} {B:Nat} {v:Value} {n:ByteArray} {xs:Ws} (h:RefV w B v n xs) (hb:Below B w w'):RefV w' B v n xs:=by
 obtain ⟨A,c,e,hc,h⟩:=h; exact ⟨A,c,e,hc,h.kept hb⟩
theorem RefV.mono {w:World} {B B':Nat} {v:Value} {n:ByteArray} {xs:Ws} (h:RefV w B v n xs) (hB:B<=B'):RefV w B' v n xs:=by
 obtain ⟨A,c,e,hc,h⟩:=h; exact ⟨A,c,e,hc,h.mono hB⟩
theorem RefV.stay {w w':World} {v:Value} {n:ByteArray} {xs:Ws} (h:RefV w w.heap.size v n xs) (hb:Below w.heap.size w w'):RefV w' w'.heap.size v n xs:=(h.kept hb).mono hb.size
theorem SlV.stay {w w':World} {v:Value} {xs:Ws} (h:SlV w w.heap.size v xs) (hb:Below w.heap.size w w'):SlV w' w'.heap.size v xs:=(h.kept hb).mono hb.size
def RefPost (n:ByteArray) (xs:Ws) (w:World) (e:Ending) (w':World):Prop:=(∃ u,e=.returned u/\RefV w' w'.heap.size u n xs)/\Below w.heap.size w w'
def BxR (W:World) (b:Nat) (c0 c1:Value):Prop:=W.heap[b]?=some (.cells #[c0,c1] 44 (0,0))
theorem BxR.cells {W:World} {b:Nat} {c0 c1:Value} (h:BxR W b c0 c1):W.cell? ⟨b,0,none⟩=some c0/\W.cell? ⟨b,1,none⟩=some c1:=by
 refine ⟨?_, ?_⟩ <;> rw [cell_of_row _ _ _ _ _ _ h] <;> rfl
theorem BxR.frz {W:World} {b:Nat} {c0 c1:Value} (h:BxR W b c0 c1) (i:Nat):W.frozen? ⟨b,i,none⟩=false:=by
 unfold BxR at h; simp [World.frozen?,h]
theorem BxR.s0 {W:World} {b:Nat} {c0 c1:Value} (h:BxR W b c0 c1) (u:Value):BxR (W.setCell ⟨b,0,none⟩ u) b u c1:=by
 unfold BxR at h ⊢; simp [World.setCell,Array.getElem?_modify,h]
theorem BxR.s1 {W:World} {b:Nat} {c0 c1:Value} (h:BxR W b c0 c1) (u:Value):BxR (W.setCell ⟨b,1,none⟩ u) b c0 u:=by
 unfold BxR at h ⊢; simp [World.setCell,Array.getElem?_modify,h]
theorem BxR.two {W:World} {b:Nat} {c0 c1:Value} (h:BxR W b c0 c1) (u0 u1:Value):BxR ((W.setCell ⟨b,0,none⟩ u0).setCell ⟨b,1,none⟩ u1) b u0 u1:=(h.s0 u0).s1 u1
theorem BxR.lt {W:World} {b:Nat} {c0 c1:Value} (h:BxR W b c0 c1):b<W.heap.size:=by
 unfold BxR at h;rcases Nat.lt_or_ge b W.heap.size with h' | h'
 ·exact h'
 ·rw [Array.getElem?_eq_none h'] at h; cases h
theorem BxR.kept {W W':World} {b:Nat} {c0 c1:Value} (h:BxR W b c0 c1) (hb:W'.heap[b]?=W.heap[b]?):BxR W' b c0 c1:=hb.trans h
theorem BxR.stay {W W':World} {b:Nat} {c0 c1:Value} (h:BxR W b c0 c1) (hb:Below W.heap.size W W'):BxR W' b c0 c1:=h.kept (hb.block b h.lt)
theorem BxR.new (W:World) (c0 c1:Value):BxR (W.alloc (.cells #[c0,c1] 44 (0,0))) W.heap.size c0 c1:=heap_alloc_new _ _
theorem BxR.alloc {W:World} {b:Nat} {c0 c1:Value} (h:BxR W b c0 c1) (o:Obj):BxR (W.alloc o) b c0 c1:=h.stay ((Below.refl _ _).alloc (Nat.le_refl _) _)
theorem Below.pair {N b:Nat} {w w':World} (h:Below N w w') (hb:N<=b) (u0 u1:Value):Below N w ((w'.setCell ⟨b,0,none⟩ u0).setCell ⟨b,1,none⟩ u1) :=
 (h.setCell (p:=⟨b,0,none⟩) hb u0).setCell (p:=⟨b,1,none⟩) hb u1
theorem BxR.args (w:World) (c0 c1:Value):let W:=(w.alloc (.cells #[c0,c1] 44 (0,0))).alloc (.cells #[.string ⟨#[]⟩,.slice none 0 0] 44 (0,0))
  BxR W w.heap.size c0 c1/\BxR W (w.heap.size+1) (.string ⟨#[]⟩) (.slice none 0 0)/\Below w.heap.size w W/\W.heap.size=w.heap.size+2:=by
 refine ⟨(BxR.new _ _ _).alloc _, ?_,((Below.refl _ _).alloc (Nat.le_refl _) _).alloc (by simp) _,by simp⟩
 have:=BxR.new (w.alloc (.cells #[c0,c1] 44 (0,0))) (.string ⟨#[]⟩) (.slice none 0 0);simpa using this
theorem BxR.both (w:World) (c0 c1 d0 d1:Value):let W:=(w.alloc (.cells #[c0,c1] 44 (0,0))).alloc (.cells #[d0,d1] 44 (0,0))
  BxR W w.heap.size c0 c1/\BxR W (w.heap.size+1) d0 d1/\Below w.heap.size w W/\W.heap.size=w.heap.size+2:=by
 refine ⟨(BxR.new _ _ _).alloc _, ?_,((Below.refl _ _).alloc (Nat.le_refl _) _).alloc (by simp) _,by simp⟩
 have:=BxR.new (w.alloc (.cells #[c0,c1] 44 (0,0))) d0 d1;simpa using this
theorem infoI:(Tryz.prog.info? 3).map (fun i=>(i.zero,i.size,i.bytes))=some (some (.int .i64 0),1,8):=by kernel_rfl
theorem infoIp:∃ i,Tryz.prog.info? 3 = some i/\i.zero=some (.int .i64 0)/\i.size=1/\i.bytes=8:=by
 have h:=infoI
 cases hi : Tryz.prog.info? 3 with
 | none=>rw [hi] at h; simp at h
 | some i=>rw [hi] at h; simp at h; exact ⟨i,rfl,h.1,h.2.1,h.2.2⟩
def inC (xs:Ws):List Value:=xs.map (Value.int .i64)
def OwnI (w:World) (base:Nat) (v:Value) (xs:Ws):Prop:=w.ownsRow base 3 1 v xs.length (inC xs)
theorem row_kept {w w':World} {base:Nat} {e:TypeId} {size:Nat} {v:Value} {n:Nat} {xs:List Value} (h:w.ownsRow base e size v n xs) (hb:∀ g,base<=g->g<w.heap.size->v.ownBlock=some g->w'.heap[g]?=w.heap[g]?):w'.ownsRow base e size v n xs:=by
 refine ⟨h.1,h.2.imp id ?_⟩
 rintro ⟨g,cap,cur,rfl,e2,e3,r⟩;have hg:g<w.heap.size:=by
  rcases Nat.lt_or_ge g w.heap.size with h' | h'
  ·exact h'
  ·rw [Array.getElem?_eq_none h'] at e3; cases e3
 exact ⟨g,cap,cur,rfl,e2,(hb g e2 hg rfl).trans e3,r⟩
theorem OwnI.stay {w w':World} {base:Nat} {v:Value} {xs:Ws} (h:OwnI w base v xs) (hb:Below w.heap.size w w'):OwnI w' base v xs:=row_kept h fun g _ hg _=>hb.block g hg
theorem OwnI.zero (w:World):OwnI (w.alloc (.cells #[] 3 (0,0))) w.heap.size (.slice (some ⟨w.heap.size,0,none⟩) 0 0) []:=by
 refine ⟨rfl,.inr ⟨w.heap.size,0,#[],rfl,Nat.le_refl _,heap_alloc_new _ _,Nat.le_refl _,by decide,rfl,rfl⟩⟩
theorem OwnI.sl {w:World} {base:Nat} {v:Value} {xs:Ws} (h:OwnI w base v xs):SlV w w.heap.size v xs:=by
 have hh:w.ownsRow base 3 1 v xs.length (inC xs):=h;rcases hh.2 with ⟨rfl,hz⟩ | ⟨g,cap,cur,rfl,h1,h2,h3⟩
 ·have:xs=[]:=List.eq_nil_of_length_eq_zero hz
  subst this;exact ⟨none,0,rfl,Nat.le_refl _,IntsAt.nil _ _ _⟩
 ·have hlt:=(World.ownsRow.lt hh g rfl).2
  refine ⟨some ⟨g,0,none⟩,cap,rfl,h3.1,fun _=>⟨_,rfl,hlt,fun i x hx=>?_⟩⟩
  exact hh.cells (g:=g) rfl i (.int .i64 x) (by unfold inC; simp [hx])
theorem inC_app (a b:Ws):inC (a++b)=inC a++inC b:=List.map_append
theorem zO5 (a:Ws):(inC a).length=a.length:=List.length_map _
theorem zS3 {w:World} {a:Addr} {xs:Ws} (h:∀ (i:Nat) (x:Int),xs[i]?=some x->w.cell? (a.add i)=some (.int .i64 x)):∀ j u,(inC xs)[j]?=some u->w.cell? (a.add j)=some u:=by
 intro j u hj;unfold inC at hj;rw [List.getElem?_map,Option.map_eq_some_iff] at hj;obtain ⟨x,hx,rfl⟩:=hj;exact h j x hx
theorem inC_one (xs:Ws):∀ u∈inC xs,u.oneCell'=true:=by
 intro u hu;unfold inC at hu;obtain ⟨x,_,rfl⟩:=List.mem_map.1 hu
 rfl
def Full (v:Value):Prop:=v=.slice none 0 0∨∃ g n,v=.slice (some ⟨g,0,none⟩) n n
theorem zO2 {w:World} (ty:TypeId) {base:Nat} {v:Value} {xs:Ws} (hown:OwnI w base v xs) (hf:Full v) (hbase:base<=w.heap.size) {B:Nat} {A:Option Addr} {c:Nat} {ys:Ws} (h:IntsAt w B A ys)
  (hl:xs.length+ys.length<=2000000):∃ v' w',(Builtin.append_ #[42, 42] ty #[v,.slice A ys.length c]).run Tryz.prog w=.ok v' w'/\Below w.heap.size w w'/\OwnI w' base v' (xs++ys):=by
 obtain ⟨i,hi,hz,hsize,hby⟩:=infoIp;by_cases h0:0<ys.length
 ·obtain ⟨a,rfl,ha,hc⟩:=h h0
  have hg:∃ v' w',(Builtin.append_ #[42, 42] ty #[v,.slice (some a) ys.length c]).run Tryz.prog w=.ok v' w'/\w'.ownsRow base 3 1 v' (xs.length+ys.length) (inC xs++inC ys)/\w.grownBy w' none:=by
   rcases hf with rfl | ⟨g,n,rfl⟩
   ·obtain ⟨v',w',hr,h2,h3,_⟩:=run_append_own (P:=Tryz.prog) w base 42 ty 3 i _ 1 8 Tryz.underlying42 hi hz hsize hby rfl (by decide) _ _ _ hown a ys.length c (inC ys) (by rw [zO5,Nat.mul_one]) (zS3 hc) (inC_one ys) (by unfold maxLen; omega) (by omega) hbase
    exact ⟨v',w',hr,h2,h3⟩
   ·have hn:n=xs.length:=by
     rcases hown.2 with ⟨e,_⟩ | ⟨g',cap,cur,e,_⟩
     ·cases e
     ·cases e; rfl
    subst hn;obtain ⟨v',w',hr,h2,h3⟩:=run_append_arg_grows (P:=Tryz.prog) w 42 ty 3 i _ 1 8 Tryz.underlying42 hi hz hsize hby rfl (by decide) ⟨g,0,none⟩ xs.length xs.length (inC xs) (by rw [zO5,Nat.mul_one]) (World.ownsRow.cells hown (g:=g) rfl) a ys.length c (inC ys) (by rw [zO5,Nat.mul_one]) (zS3 hc) (by omega) (by unfold maxLen; omega) (by omega)
    refine ⟨v',w',hr,⟨h2.1,h2.2.imp id ?_⟩,h3⟩
    rintro ⟨g',cap,cur,e1,e2,r⟩;exact ⟨g',cap,cur,e1,Nat.le_trans hbase e2,r⟩
  obtain ⟨v',w',hr,h2,h3⟩:=hg;refine ⟨v',w',hr,⟨h3.os,h3.tape,h3.output,h3.size,fun k hk=>h3.block k hk (fun e=>by cases e)⟩, ?_⟩
  unfold OwnI;rw [List.length_append,inC_app];exact h2
 ·have:ys=[]:=List.eq_nil_of_length_eq_zero (by omega)
  subst this;refine ⟨v,w, ?_,Below.refl _ _,by rw [List.append_nil]; exact hown⟩
  rcases hf with rfl | ⟨g,n,rfl⟩
  ·cases A <;> simp [Builtin.append_,run_underlying Tryz.underlying42,sizeOf,typeInfo,hi,Builtin.lenOf,Builtin.firstCells,loadCells,loadCellsFrom]
  ·cases A <;> simp [Builtin.append_,run_underlying Tryz.underlying42,sizeOf,typeInfo,hi,Builtin.lenOf,Builtin.firstCells,loadCells,loadCellsFrom,storeCells]
def Fact.ref (n:ByteArray) (xs:Ws):Fact:=⟨fun u w=>RefV w w.heap.size u n xs,fun _ _ _ h hb=>h.stay hb⟩
def Fact.sl (xs:Ws):Fact:=⟨fun u w=>SlV w w.heap.size u xs,fun _ _ _ h hb=>h.stay hb⟩
def Fact.row (base:Nat) (xs:Ws):Fact:=⟨fun u w=>(OwnI w base u xs/\base<=w.heap.size)/\Full u,fun _ _ _ h hb=>⟨⟨h.1.1.stay hb,Nat.le_trans h.1.2 hb.size⟩,h.2⟩⟩
section
variable {ops:Array Oper} {Q:Exit->Act->World->Prop} {o:Oper} {a:Act} {w:World} {R:Value->World->Prop}
theorem rc_fa0 (hw:Region.wanted o (yielded ops a.tmps)=true) (x:Operand) {g:Nat}
  (ho:o.op=.fieldAddr 44 x 0) (hx:a.eval x=.pointer (some ⟨g,0,none⟩)) (h:R (.pointer (some ⟨g,0,none⟩)) w):Runs Tryz.prog ops Q o a w R :=
 za8 hw (by generalize a.eval=ρ at hx; simp [execOp,ho,go_sem,hx]) h
theorem rc_fa1 (hw:Region.wanted o (yielded ops a.tmps)=true) (x:Operand) {g:Nat}
  (ho:o.op=.fieldAddr 44 x 1) (hx:a.eval x=.pointer (some ⟨g,0,none⟩)) (h:R (.pointer (some ⟨g,1,none⟩)) w):Runs Tryz.prog ops Q o a w R :=
 za8 hw (by generalize a.eval=ρ at hx; simp [execOp,ho,go_sem,hx]) h
theorem rc_ldS (hw:Region.wanted o (yielded ops a.tmps)=true) (x:Operand) {g i:Nat} {v:Value}
  (ho:o.op=.load 9 x) (hx:a.eval x=.pointer (some ⟨g,i,none⟩)) (hc:w.cell? ⟨g,i,none⟩=some v) (h:R v w):Runs Tryz.prog ops Q o a w R :=
 za8 hw (by generalize a.eval=ρ at hx; simp [execOp,ho,go_sem,hx,hc]) h
theorem rc_ldI (hw:Region.wanted o (yielded ops a.tmps)=true) (x:Operand) {g i:Nat} {v:Value}
  (ho:o.op=.load 42 x) (hx:a.eval x=.pointer (some ⟨g,i,none⟩)) (hc:w.cell? ⟨g,i,none⟩=some v) (h:R v w):Runs Tryz.prog ops Q o a w R :=
 za8 hw (by generalize a.eval=ρ at hx; simp [execOp,ho,go_sem,hx,hc]) h
theorem rc_made0 (hw:Region.wanted o (yielded ops a.tmps)=true) (ho:o.op=.buildSlice 42 0 #[])
  (h:R (.slice (some ⟨w.heap.size,0,none⟩) 0 0) (w.alloc (.cells #[] 3 (0,0)))):Runs Tryz.prog ops Q o a w R :=
 za8 hw (by simp [execOp,ho,go_sem]) h
theorem rc_slice (hw:Region.wanted o (yielded ops a.tmps)=true) (x y:Operand) {A:Option Addr} {l c k:Nat} (ho:o.op=.slice 42 x (some y) none none) (hx:a.eval x=.slice A l c) (hy:a.eval y=.int .i64 k) (hk:k<=l) (hl:l<=c)
  (h:R (.slice (subA A k c) (l-k) (c-k)) w):Runs Tryz.prog ops Q o a w R :=
 za8 hw (by
  generalize a.eval=ρ at hx hy;have h1:(k:Int)<=(l:Int):=by omega
  have h2:(l:Int)<=(c:Int):=by omega
  cases A with
  | none=>simp [execOp,ho,go_sem,hx,hy,subA,h1]
  | some b=>simp [execOp,ho,go_sem,hx,hy,subA,h1]; split <;> rfl) h
theorem rc_build (hw:Region.wanted o (yielded ops a.tmps)=true) (x y:Operand) {n:ByteArray} {A:Option Addr} {l c:Nat} (ho:o.op=.build 44 #[(0,x),(1,y)]) (hx:a.eval x=.string n) (hy:a.eval y=.slice A l c)
  (h:R (.agg #[.string n,.slice A l c]) w):Runs Tryz.prog ops Q o a w R :=
 za8 hw (by generalize a.eval=ρ at hx hy; simp [execOp,ho,go_sem,hx,hy]) h
theorem yc5 (hw:Region.wanted o (yielded ops a.tmps)=true) (x y:Operand) (ho:o.op=.call { callee:=.builtin .append,args:=#[x,y],argTypes:=#[42, 42] }) {base:Nat} {v:Value} {xs:Ws} (hx:a.eval x=v)
  (hown:OwnI w base v xs) (hf:Full v) (hbase:base<=w.heap.size) {B c l:Nat} {A:Option Addr} {ys:Ws} (hy:a.eval y=.slice A l c) (hyl:l=ys.length) (hys:IntsAt w B A ys) (hl:xs.length+ys.length<=2000000)
  (h:∀ v' w',Below w.heap.size w w'->OwnI w' base v' (xs++ys)->R v' w'):Runs Tryz.prog ops Q o a w R:=by
 subst hyl;obtain ⟨v',w',hr,hb,hk⟩:=zO2 o.type (c:=c) hown hf hbase hys hl;refine za8 (v:=v') (w':=w') hw ?_ (h v' w' hb hk)
 unfold execOp;simp only [ho,resolve,invoke,builtin,Sem.run_bind,Sem.run_pure,Result.andThen_ok,List.map_toArray,List.map_cons,List.map_nil,hx,hy,hr]
theorem zH4 {P:Program} {W:World} {p:Addr} {u v:Value} (hc:W.cell? p=some u) (hf:W.frozen? p=false) (hv:v.oneCell'=true):(store p v).run P W=.ok () (W.setCell p v):=by
 rw [run_store P W p v _ hv,hc];simp [hf]
def RefB (w:World) (b:Nat) (n:ByteArray) (xs:Ws):Prop:=∃ A c,BxR w b (.string n) (.slice A xs.length c)/\xs.length<=c/\IntsAt w w.heap.size A xs
theorem RefB.stay {w w':World} {b:Nat} {n:ByteArray} {xs:Ws} (h:RefB w b n xs) (hb:Below w.heap.size w w'):RefB w' b n xs:=by
 obtain ⟨A,c,h1,h2,h3⟩:=h; exact ⟨A,c,h1.stay hb,h2,h3.stay hb⟩
theorem RefB.v {w:World} {b:Nat} {n:ByteArray} {xs:Ws} (h:RefB w b n xs):∃ c0 c1,BxR w b c0 c1/\RefV w w.heap.size (.agg #[c0,c1]) n xs:=by
 obtain ⟨A,c,h1,h2,h3⟩:=h; exact ⟨_,_,h1,A,c,rfl,h2,h3⟩
theorem IntsAt.off {w:World} {B g:Nat} {A:Option Addr} {xs:Ws} (h:IntsAt w B A xs) {s:ByteArray} {A':Option Addr} {l c:Nat} (hb:BxR w g (.string s) (.slice A' l c)) (j:Nat) (u:Value):IntsAt (w.setCell ⟨g,j,none⟩ u) B A xs:=fun h0=>by
 obtain ⟨a,e,ha,hc⟩:=h h0;refine ⟨a,e,ha,fun i x hx=>?_⟩
 have hx':=hc i x hx;by_cases hg:(a.add i).block=g
 ·exfalso
  rw [show a.add i=⟨g,(a.add i).off,(a.add i).spot⟩ by rw [<- hg]] at hx'
  unfold BxR at hb;generalize (a.add i).off=k at hx';generalize (a.add i).spot=sp at hx';unfold World.cell? at hx';rw [hb] at hx'
  match k,hx' with
  | 0,h=>simp at h
  | 1,h=>simp at h
  | k+2,h=>simp at h
 ·exact (World.cell?_of_block (w:=w) (Below.heap_setCell w _ _ _ hg)).trans hx'
theorem RefB.put {w:World} {g:Nat} {s:ByteArray} {A':Option Addr} {l c:Nat} (hb:BxR w g (.string s) (.slice A' l c)) {n:ByteArray} {xs:Ws} {A:Option Addr} {d:Nat} (hd:xs.length<=d) (h:IntsAt w w.heap.size A xs) :
  RefB ((w.setCell ⟨g,0,none⟩ (.string n)).setCell ⟨g,1,none⟩ (.slice A xs.length d)) g n xs:=by
 refine ⟨A,d,hb.two _ _,hd, ?_⟩
 have h1:=(h.off hb 0 (.string n)).off (hb.s0 (.string n)) 1 (.slice A xs.length d);simpa using h1
theorem rk_ldS (hw:Region.wanted o (yielded ops a.tmps)=true) (x:Operand) {g:Nat} {n:ByteArray} {xs:Ws}
  (ho:o.op=.load 9 x) (hx:a.eval x=.pointer (some ⟨g,0,none⟩)) (hb:RefB w g n xs) (h:R (.string n) w):Runs Tryz.prog ops Q o a w R:=by
 obtain ⟨A,c,h1,h2,h3⟩:=hb; exact rc_ldS hw x ho hx h1.cells.1 h
theorem rk_ldI (hw:Region.wanted o (yielded ops a.tmps)=true) (x:Operand) {g:Nat} {n:ByteArray} {xs:Ws}
  (ho:o.op=.load 42 x) (hx:a.eval x=.pointer (some ⟨g,1,none⟩)) (hb:RefB w g n xs) (h:∀ u,SlV w w.heap.size u xs->R u w):Runs Tryz.prog ops Q o a w R:=by
 obtain ⟨A,c,h1,h2,h3⟩:=hb; exact rc_ldI hw x ho hx h1.cells.2 (h _ ⟨A,c,rfl,h2,h3⟩)
theorem rk_slice (hw:Region.wanted o (yielded ops a.tmps)=true) (x y:Operand) {xs:Ws} {k:Nat} (ho:o.op=.slice 42 x (some y) none none) (hx:SlV w w.heap.size (a.eval x) xs) (hy:a.eval y=.int .i64 k) (hk:k<=xs.length)
  (h:∀ u,SlV w w.heap.size u (xs.drop k)->R u w):Runs Tryz.prog ops Q o a w R:=by
 obtain ⟨A,c,e,h2,h3⟩:=hx;refine rc_slice hw x y ho e hy hk h2 (h _ ⟨subA A k c,c-k,by rw [List.length_drop],by rw [List.length_drop]; omega,h3.drop k c h2⟩)
theorem yb4 (hw:Region.wanted o (yielded ops a.tmps)=true) (x y:Operand) (ho:o.op=.call { callee:=.builtin .append,args:=#[x,y],argTypes:=#[42, 42] }) {base:Nat} {xs ys:Ws}
  (hx:(OwnI w base (a.eval x) xs/\base<=w.heap.size)/\Full (a.eval x)) (hy:SlV w w.heap.size (a.eval y) ys) (hl:xs.length+ys.length<=2000000) (h:∀ v' w',Below w.heap.size w w'->SlV w' w'.heap.size v' (xs++ys)->R v' w'):Runs Tryz.prog ops Q o a w R:=by
 obtain ⟨A,c,e,h2,h3⟩:=hy;exact yc5 hw x y ho rfl hx.1.1 hx.2 hx.1.2 e rfl h3 hl fun v' w' hb ho=>h v' w' hb ho.sl
theorem rk_build (hw:Region.wanted o (yielded ops a.tmps)=true) (x y:Operand) {n:ByteArray} {xs:Ws} (ho:o.op=.build 44 #[(0,x),(1,y)]) (hx:a.eval x=.string n) (hy:SlV w w.heap.size (a.eval y) xs)
  (h:∀ u,RefV w w.heap.size u n xs->R u w):Runs Tryz.prog ops Q o a w R:=by
 obtain ⟨A,c,e,h2,h3⟩:=hy;exact rc_build hw x y ho hx e (h _ ⟨A,c,rfl,h2,h3⟩)
theorem zU4 {x y:Operand} {g:Nat} {b0 b1 c0 c1:Value} (ho:o.op=.store 44 x y) (hx:a.eval x=.pointer (some ⟨g,0,none⟩)) (hy:a.eval y=.agg #[c0,c1]) (hb:BxR w g b0 b1) (h0:c0.oneCell'=true) (h1:c1.oneCell'=true) :
  (execOp a.eval o).run Tryz.prog w=.ok .skip ((w.setCell ⟨g,0,none⟩ c0).setCell ⟨g,1,none⟩ c1):=by
 have q0:=zH4 (P:=Tryz.prog) (hb.cells.1) (hb.frz 0) h0;have hb1:=hb.s0 c0;have q1:=zH4 (P:=Tryz.prog) (hb1.cells.2) (hb1.frz 1) h1;generalize a.eval=ρ at hx hy;simp [execOp,ho,go_sem,hx,hy,q0,q1]
theorem str_eq (n m:ByteArray):(n.toList==m.toList)=decide (n=m):=by
 rw [Lib.toList_data,Lib.toList_data];by_cases h:n=m
 ·subst h; simp
 ·have:¬ n.data=m.data:=fun e=>h (by cases n; cases m; simp at e; rw [e])
  simp [h,this]
theorem rk_store (hw:Region.wanted o (yielded ops a.tmps)=true) (x y:Operand) {g:Nat} {s n:ByteArray} {A':Option Addr} {l c:Nat} {xs:Ws} (ho:o.op=.store 44 x y) (hx:a.eval x=.pointer (some ⟨g,0,none⟩))
  (hb:BxR w g (.string s) (.slice A' l c)) (hy:RefV w w.heap.size (a.eval y) n xs) (h:∀ w',RefB w' g n xs->(∀ N,N<=g->Below N w w')->R undef w'):Runs Tryz.prog ops Q o a w R:=by
 obtain ⟨A,d,e,h2,h3⟩:=hy;refine zq3 hw (w':=(w.setCell ⟨g,0,none⟩ (.string n)).setCell ⟨g,1,none⟩ (.slice A xs.length d)) ?_ (h _ (RefB.put hb h2 h3) fun N hN=>Below.pair (Below.refl _ _) hN _ _)
 exact zU4 ho hx e hb rfl rfl
theorem rk_made0 (hw:Region.wanted o (yielded ops a.tmps)=true) (ho:o.op=.buildSlice 42 0 #[]) {N:Nat} (hN:N<=w.heap.size)
  (h:∀ v w',Below w.heap.size w w'->(OwnI w' N v []/\N<=w'.heap.size)/\Full v->R v w'):Runs Tryz.prog ops Q o a w R:=by
 refine rc_made0 hw ho (h _ _ ((Below.refl _ _).alloc (Nat.le_refl _) _) ⟨⟨⟨(OwnI.zero w).1,(OwnI.zero w).2.imp id ?_⟩,by simp; omega⟩,.inr ⟨_,_,rfl⟩⟩)
 rintro ⟨g,cap,cur,e1,e2,r⟩;exact ⟨g,cap,cur,e1,Nat.le_trans hN e2,r⟩
end
theorem yi3 (n:ByteArray) (xs:Ws) (v:Value) (w:World) (h:RefV w w.heap.size v n xs) (hk:1<=xs.length) (hl:xs.length<=1000000):Calls Tryz.prog 101 #[v] w (RefPost n (xs.drop 1) w):=by
 obtain ⟨A,c,rfl,hc,hi⟩:=h;obtain ⟨x1,x2,x3,x4⟩:=BxR.args w (.string n) (.slice A xs.length c);have R0:Hid (RefB ((w.alloc (.cells #[.string n,.slice A xs.length c] 44 (0,0))).alloc (.cells #[.string ⟨#[]⟩,.slice none 0 0] 44 (0,0))) w.heap.size n xs):=Lh ⟨A,c,x1,hc,hi.stay x3⟩;have Y0:=Lh x2;have B0:=Lh x3;have Z0:=Lh x4;have HK:=Lh hk;have HL:Hid (([]:Ws).length+(xs.drop 1).length<=2000000):=Lh (by rw [List.length_drop]; show 0+_<=_; omega)
 clear hk;clear hc hi x1 x2 x3 x4 hl
 go_enter Tryz.func101, Tryz.ntmps101
 go_wp2_with fail
 generalize ((w.alloc (.cells #[.string n,.slice A xs.length c] 44 (0,0))).alloc (.cells #[.string ⟨#[]⟩,.slice none 0 0] 44 (0,0)))=W0 at *;refine zz3 (by kernel_rfl) (by kernel_rfl) 8 7 (by kernel_rfl) (fun _=>false) (by kernel_rfl) (by decide) [Fact.is (.pointer (some ⟨w.heap.size,0,none⟩)),Fact.is (.string n),Fact.row w.heap.size [],Fact.is (.pointer (some ⟨w.heap.size,1,none⟩)),Fact.sl xs,Fact.sl (xs.drop 1),Fact.sl (xs.drop 1),Fact.ref n (xs.drop 1),Fact.any] (fun _ w'=>RefB w' (w.heap.size+1) n (xs.drop 1)/\Below w.heap.size w w') (fun _ _ _ _ h=>by cases h) ?_ (fun _ _ _ _ h=>by cases h) ?_ ?_
 ·intro i o ho his _ a wn hf hbl had
  have hi:i<9:=(Array.getElem?_eq_some_iff.1 ho).1;have hc:i=0∨i=1∨i=2∨i=3∨i=4∨i=5∨i=6∨i=7:=by omega
  rcases hc with rfl | rfl | rfl | rfl | rfl | rfl | rfl | rfl
  ·cases ho
   have h0:a.tmps.getD 1 undef=.pointer (some ⟨w.heap.size,0,none⟩):=hf.slot 1 (by kernel_rfl)
   exact rc_fa0 rfl (.tmp 1) rfl h0 ⟨Below.refl _ _,rfl⟩
  ·cases ho
   have h0:vof _ a 0=.pointer (some ⟨w.heap.size,0,none⟩):=had ⟨0,.data⟩ (by simp) rfl (by decide)
   exact rk_ldS rfl (.tmp 3) rfl h0 (R0.out.stay hbl) ⟨Below.refl _ _,rfl⟩
  ·cases ho
   exact rk_made0 rfl rfl (by have h1:=hbl.size; have h2:=Z0.out; omega) fun v w1 hb1 hv=>⟨hb1,hv⟩
  ·cases ho
   have h0:a.tmps.getD 1 undef=.pointer (some ⟨w.heap.size,0,none⟩):=hf.slot 1 (by kernel_rfl)
   exact rc_fa1 rfl (.tmp 1) rfl h0 ⟨Below.refl _ _,rfl⟩
  ·cases ho
   have h0:vof _ a 3=.pointer (some ⟨w.heap.size,1,none⟩):=had ⟨3,.data⟩ (by simp) rfl (by decide)
   exact rk_ldI rfl (.tmp 6) rfl h0 (R0.out.stay hbl) fun u hu=>⟨Below.refl _ _,hu⟩
  ·cases ho
   have h0:SlV wn wn.heap.size (vof _ a 4) xs:=had ⟨4,.data⟩ (by simp) rfl (by decide)
   exact rk_slice rfl (.tmp 7) _ (k:=1) rfl h0 rfl HK.out fun u hu=>⟨Below.refl _ _,hu⟩
  ·cases ho
   have h0:(OwnI wn w.heap.size (vof _ a 2) []/\w.heap.size<=wn.heap.size)/\Full (vof _ a 2):=had ⟨2,.data⟩ (by simp) rfl (by decide)
   have h1:SlV wn wn.heap.size (vof _ a 5) (xs.drop 1):=had ⟨5,.data⟩ (by simp) rfl (by decide)
   exact yb4 rfl (.tmp 5) (.tmp 8) rfl h0 h1 HL.out fun v w1 hb1 hv=>⟨hb1,hv⟩
  ·cases ho
   have h0:vof _ a 1=.string n:=had ⟨1,.data⟩ (by simp) rfl (by decide)
   have h1:SlV wn wn.heap.size (vof _ a 6) (xs.drop 1):=had ⟨6,.data⟩ (by simp) rfl (by decide)
   exact rk_build rfl (.tmp 4) (.tmp 9) rfl h0 h1 fun u hu=>⟨Below.refl _ _,hu⟩
 ·intro o ho a wn hf hbl had
  cases ho
  have s2:a.eval (.tmp 2)=.pointer (some ⟨w.heap.size+1,0,none⟩):=hf.slot 2 (by kernel_rfl)
  have hv:RefV wn wn.heap.size (vof _ a 7) n (xs.drop 1):=had ⟨7,.data⟩ (by simp) rfl (by decide)
  exact rk_store rfl (.tmp 2) _ rfl s2 (Y0.out.stay hbl) hv fun w' h1 h2=>⟨h1,(B0.out.trans (hbl.mono B0.out.size)).trans (h2 _ (by omega))⟩
 ·intro a wn hf _ hfin
  obtain ⟨c0,c1,hbx,hrv⟩:=hfin.1.v;have s2:a.tmps.getD 2 undef=.pointer (some ⟨w.heap.size+1,0,none⟩):=hf.slot 2 (by kernel_rfl)
  have hd:a.defers=[]:=hf.1;obtain ⟨p0,p1⟩:=hbx.cells;have HR:=Lh hrv;have HB:=Lh hfin.2;rw [Array.getD_eq_getD_getElem?] at s2;clear hfin hf hbx hrv;go_wp2_with fail
  exact bodyPost_ret (v:=.agg #[c0,c1]) (by simp [results,Tryz.results101,go_sem,s2,p0,p1]) hd ⟨⟨_,rfl,HR.out⟩,HB.out⟩
def zi9 (b:Bool) (w:World) (e:Ending) (w':World):Prop:=e=.returned (.bool b)/\Below w.heap.size w w'
def OptPost (n:ByteArray) (o:Option Ws) (w:World) (e:Ending) (w':World):Prop :=
 (∃ u,e=.returned (.tuple #[u,.bool o.isSome])/\match o with | some xs=>RefV w' w'.heap.size u n xs | none=>u=.agg #[.string ⟨#[]⟩,.slice none 0 0])/\Below w.heap.size w w'
theorem zw9 (n:ByteArray) (xs:Ws) (v:Value) (w:World) (h:RefV w w.heap.size v n xs):Calls Tryz.prog 100 #[v] w (zi9 (nnB xs) w):=by
 obtain ⟨A,c,rfl,hc,hi⟩:=h;have hb:=(Below.refl w.heap.size w).alloc (Nat.le_refl _) (.cells #[.string n,.slice A xs.length c] 44 (0,0));have h2:=hi.stay hb
 cases xs with
 | nil =>
   have HB:=Lh hb;clear hb hi h2 hc
   go_enter Tryz.func100, Tryz.ntmps100
   go_wp2_with fail
   all_goals exact bodyPost_ret (v:=.bool false) (by simp [results,Tryz.results100,go_sem]) rfl ⟨rfl,HB.out⟩
 | cons x r =>
   obtain ⟨a,rfl,ha,hcell⟩:=hi (by simp)
   obtain ⟨a',e,_,hc2⟩:=h2 (by simp)
   cases e
   have c0:=hc2 0 x rfl;have c00:a.add 0=a:=rfl;rw [c00] at c0;have HB:=Lh hb;have hv:((nnB (x::r)):Bool)=(x==1):=by unfold nnB; simp
   have HV:=Lh hv;have hp:(0:Int)<((x::r:Ws).length:Int):=by simp
   generalize (x::r:Ws).length=l at *;clear hb hi h2 hc hcell hc2 ha hv
   go_enter Tryz.func100, Tryz.ntmps100
   go_wp2_with fail
   all_goals (refine bodyPost_ret (v:=.bool (x==1)) (by simp [results,Tryz.results100,go_sem]) rfl ⟨?_,HB.out⟩; rw [HV.out])
theorem zh5 {w wr:World} {B k:Nat} {A:Option Addr} {xs:Ws} (h:IntsAt w B A xs) (hb:Below B w wr) (hk:k<xs.length):∃ a x,A=some a/\a.block<B/\xs[k]?=some x/\wr.cell? (a.add k)=some (.int .i64 x):=by
 obtain ⟨a,e,ha,hc⟩:=(h.kept hb) (by omega)
 exact ⟨a,xs[k],e,ha,List.getElem?_eq_getElem hk,hc k _ (List.getElem?_eq_getElem hk)⟩
theorem zi1 {W:World} {a:Addr} {v:Value} (h:W.cell? a=some v) (ha:a.block<W.heap.size) (x:Past W):x.w.cell? a=some v:=(World.cell?_of_block (w:=W) (x.b.block _ ha)).trans h
theorem zv6 {xs:Ws} {k:Nat} {x:Int} (h:xs[k]?=some x):xs.take (k+1)=xs.take k++[x]:=by
 obtain ⟨h1,h2⟩:=List.getElem?_eq_some_iff.1 h;rw [<- h2]; exact (List.take_append_getElem h1).symm
theorem drop_one {xs:Ws} {k:Nat} {x:Int} (h:xs[k]?=some x):xs.drop k=x::xs.drop (k+1):=by
 obtain ⟨h1,h2⟩:=List.getElem?_eq_some_iff.1 h;rw [<- h2]; exact List.drop_eq_getElem_cons h1
theorem same_any (xs ys:Ws) (v u:Value) (w:World) (hx:SlV w w.heap.size v xs) (hy:SlV w w.heap.size u ys) (hl:xs.length<=17592186044416):Calls Tryz.prog 123 #[v,u] w (zi9 (decide (xs=ys)) w):=by
 obtain ⟨A,c,rfl,hc,hi⟩:=hx;obtain ⟨B,d,rfl,hd,hj⟩:=hy;by_cases hlen:xs.length=ys.length
 ·have HA:=Lh hi
  have HB:=Lh hj;have HLEN:Hid ((xs.length:Int)<=17592186044416):=Lh (by omega)
  have HL:=Lh hlen;rw [<- hlen];clear hc hi hd hj hl hlen
  go_enter Tryz.func123, Tryz.ntmps123
  go_wp2_with fail
  go_loopw [5] (fun i wr=>∃ k:Nat,i=.int .i64 k/\k<=xs.length/\xs.take k=ys.take k/\Below w.heap.size w wr) (fun i _=>xs.length-(intOf i).toNat)
  case atStart=>exact ⟨0,rfl,Nat.zero_le _,rfl,Below.refl _ _⟩
  case round =>
   obtain ⟨k,rfl,hk,he,hw⟩:=hrel;have HE:=Lh he;have HW:=Lh hw;have hlm:=HLEN.out;clear he;by_cases hlt:k<xs.length
   ·obtain ⟨a,x,rfl,ha,hp,h0⟩:=zh5 HA.out hw hlt
    obtain ⟨b,y,rfl,hb,hq,h1⟩:=zh5 HB.out hw (by rw [<- HL.out]; exact hlt)
    have hlt':(k:Int)<xs.length:=by omega
    have HP:=Lh hp;have HQ:=Lh hq;have HA0:Hid ((a.add k).block<wr.heap.size):=Lh (by rw [za0]; exact Nat.lt_of_lt_of_le ha hw.size)
    have HB0:Hid ((b.add k).block<wr.heap.size):=Lh (by rw [za0]; exact Nat.lt_of_lt_of_le hb hw.size)
    have H0:=Lh h0;have H1:=Lh h1;clear hp hq hw ha hb h0 h1;by_cases hxy:x=y
    ·subst hxy
     have hn:(x != x)=false:=by simp
     go_wp2_with fail
     refine za6 (fun W=>W.cell? (a.add k)=some (.int .i64 x)/\W.cell? (b.add k)=some (.int .i64 x)/\Below wr.heap.size wr W) ⟨H0.out,H1.out,Below.refl _ _⟩ (by kernel_rfl) ?_
     intro W ⟨f1,f2,f3⟩ hbw;have y0:=zi1 f1 (Nat.lt_of_lt_of_le HA0.out f3.size);have y1:=zi1 f2 (Nat.lt_of_lt_of_le HB0.out f3.size)
     repeat (go_big_quiet_step (fail))
     refine wpQuiet_nil ?_
     intro _ hw';obtain ⟨xw,rfl⟩:=hw';have HBY:=Lh (HW.out.trans ((f3.trans (xw.b.mono f3.size)).mono HW.out.size));clear y0 y1 f1 f2 f3 hbw;generalize xw.w=wy at *;go_wp2_with fail
     go_roundw
     case rel=>exact ⟨k+1,by go_num,by omega,by rw [zv6 HP.out,zv6 HQ.out,HE.out],HBY.out⟩
     case measure=>simp [intOf]; omega
    ·have hn:(x != y)=true:=by simp [hxy]
     have HN:Hid (decide (xs=ys)=false):=Lh (by
      rw [decide_eq_false_iff_not]; rintro rfl;rw [HP.out] at HQ; exact hxy (Option.some.inj HQ.out))
     clear hxy;go_wp2_with fail
     refine za6 (fun W=>W.cell? (a.add k)=some (.int .i64 x)/\W.cell? (b.add k)=some (.int .i64 y)/\Below wr.heap.size wr W) ⟨H0.out,H1.out,Below.refl _ _⟩ (by kernel_rfl) ?_
     intro W ⟨f1,f2,f3⟩ hbw;have y0:=zi1 f1 (Nat.lt_of_lt_of_le HA0.out f3.size);have y1:=zi1 f2 (Nat.lt_of_lt_of_le HB0.out f3.size)
     repeat (go_big_quiet_step (fail))
     refine wpQuiet_nil ?_
     intro _ hw';obtain ⟨xw,rfl⟩:=hw';have HBY:=Lh (HW.out.trans ((f3.trans (xw.b.mono f3.size)).mono HW.out.size));clear y0 y1 f1 f2 f3 hbw;generalize xw.w=wy at *;go_wp2_with fail
     go_ret
     exact ⟨by rw [HN.out]; rfl,HBY.out⟩
   ·have hlt':¬ (k:Int)<xs.length:=by omega
    have HN:Hid (decide (xs=ys)=true):=Lh (by
     have e:=HE.out;rw [List.take_of_length_le (by omega),List.take_of_length_le (by have:=HL.out; omega)] at e
     exact decide_eq_true e)
    clear hw;go_wp2_with fail
    go_ret
    exact ⟨by rw [HN.out]; rfl,HW.out⟩
 ·have HN:Hid (decide (xs=ys)=false):=Lh (by rw [decide_eq_false_iff_not]; rintro rfl; exact hlen rfl)
  have hne:((xs.length:Int) != (ys.length:Int))=true:=by
   rw [bne_iff_ne]; omega
  have hne':¬ ((xs.length:Int)=(ys.length:Int)):=by omega
  clear hc hi hd hj hl hlen
  go_enter Tryz.func123, Tryz.ntmps123
  go_wp2_with fail
  all_goals exact bodyPost_ret (v:=.bool false) (by simp [results,Tryz.results123,go_sem]) rfl ⟨by rw [HN.out],Below.refl _ _⟩
theorem zy8 (xs ys:Ws) (v u:Value) (w:World) (hx:SlV w w.heap.size v xs) (hy:SlV w w.heap.size u ys) (hl:xs.length<=17592186044416):Calls Tryz.prog 184 #[v,u] w (zi9 (decide (xs=ys)) w):=by
 obtain ⟨A,c,rfl,hc,hi⟩:=hx;obtain ⟨B,d,rfl,hd,hj⟩:=hy;by_cases hlen:xs.length=ys.length
 ·have HA:=Lh hi
  have HB:=Lh hj;have HLEN:Hid ((xs.length:Int)<=17592186044416):=Lh (by omega)
  have HL:=Lh hlen;rw [<- hlen];clear hc hi hd hj hl hlen
  go_enter Tryz.func184, Tryz.ntmps184
  go_wp2_with fail
  go_loopw [5,13] (fun z i wr=>∃ k:Nat,i=.int .i64 k/\k<=xs.length/\xs.take k=ys.take k/\Below w.heap.size w wr) (fun _ i _=>xs.length-(intOf i).toNat)
  case atStart=>exact ⟨0,rfl,Nat.zero_le _,rfl,Below.refl _ _⟩
  case round =>
   obtain ⟨k,rfl,hk,he,hw⟩:=hrel;have HE:=Lh he;have HW:=Lh hw;have hlm:=HLEN.out;clear he;by_cases hlt:k<xs.length
   ·obtain ⟨a,x,rfl,ha,hp,h0⟩:=zh5 HA.out hw hlt
    obtain ⟨b,y,rfl,hb,hq,h1⟩:=zh5 HB.out hw (by rw [<- HL.out]; exact hlt)
    have hlt':(k:Int)<xs.length:=by omega
    have HP:=Lh hp;have HQ:=Lh hq;have HA0:Hid ((a.add k).block<wr.heap.size):=Lh (by rw [za0]; exact Nat.lt_of_lt_of_le ha hw.size)
    have HB0:Hid ((b.add k).block<wr.heap.size):=Lh (by rw [za0]; exact Nat.lt_of_lt_of_le hb hw.size)
    have H0:=Lh h0;have H1:=Lh h1;clear hp hq hw ha hb h0 h1;by_cases hxy:x=y
    ·subst hxy
     have hn:(x != x)=false:=by simp
     go_wp2_with fail
     refine za6 (fun W=>W.cell? (a.add k)=some (.int .i64 x)/\W.cell? (b.add k)=some (.int .i64 x)/\Below wr.heap.size wr W) ⟨H0.out,H1.out,Below.refl _ _⟩ (by kernel_rfl) ?_
     intro W ⟨f1,f2,f3⟩ hbw;have y0:=zi1 f1 (Nat.lt_of_lt_of_le HA0.out f3.size);have y1:=zi1 f2 (Nat.lt_of_lt_of_le HB0.out f3.size)
     repeat (go_big_quiet_step (fail))
     refine wpQuiet_nil ?_
     intro _ hw';obtain ⟨xw,rfl⟩:=hw';have HBY:=Lh (HW.out.trans ((f3.trans (xw.b.mono f3.size)).mono HW.out.size));clear y0 y1 f1 f2 f3 hbw;generalize xw.w=wy at *;go_wp2_with fail
     go_roundw
     case rel=>exact ⟨k+1,by go_num,by omega,by rw [zv6 HP.out,zv6 HQ.out,HE.out],HBY.out⟩
     case measure=>simp [intOf]; omega
    ·have hn:(x != y)=true:=by simp [hxy]
     have HN:Hid (decide (xs=ys)=false):=Lh (by
      rw [decide_eq_false_iff_not]; rintro rfl;rw [HP.out] at HQ; exact hxy (Option.some.inj HQ.out))
     clear hxy;go_wp2_with fail
     refine za6 (fun W=>W.cell? (a.add k)=some (.int .i64 x)/\W.cell? (b.add k)=some (.int .i64 y)/\Below wr.heap.size wr W) ⟨H0.out,H1.out,Below.refl _ _⟩ (by kernel_rfl) ?_
     intro W ⟨f1,f2,f3⟩ hbw;have y0:=zi1 f1 (Nat.lt_of_lt_of_le HA0.out f3.size);have y1:=zi1 f2 (Nat.lt_of_lt_of_le HB0.out f3.size)
     repeat (go_big_quiet_step (fail))
     refine wpQuiet_nil ?_
     intro _ hw';obtain ⟨xw,rfl⟩:=hw';have HBY:=Lh (HW.out.trans ((f3.trans (xw.b.mono f3.size)).mono HW.out.size));clear y0 y1 f1 f2 f3 hbw;generalize xw.w=wy at *;go_wp2_with fail
     go_ret
     exact ⟨by rw [HN.out]; rfl,HBY.out⟩
   ·have hlt':¬ (k:Int)<xs.length:=by omega
    have HN:Hid (decide (xs=ys)=true):=Lh (by
     have e:=HE.out;rw [List.take_of_length_le (by omega),List.take_of_length_le (by have:=HL.out; omega)] at e
     exact decide_eq_true e)
    clear hw;go_wp2_with fail
    go_ret
    exact ⟨by rw [HN.out]; rfl,HW.out⟩
 ·have HN:Hid (decide (xs=ys)=false):=Lh (by rw [decide_eq_false_iff_not]; rintro rfl; exact hlen rfl)
  have hne:((xs.length:Int) != (ys.length:Int))=true:=by
   rw [bne_iff_ne]; omega
  have hne':¬ ((xs.length:Int)=(ys.length:Int)):=by omega
  clear hc hi hd hj hl hlen
  go_enter Tryz.func184, Tryz.ntmps184
  go_wp2_with fail
  all_goals exact bodyPost_ret (v:=.bool false) (by simp [results,Tryz.results184,go_sem]) rfl ⟨by rw [HN.out],Below.refl _ _⟩
theorem zB0 (n m:ByteArray) (xs ys:Ws) (v u:Value) (w:World) (hx:RefV w w.heap.size v n xs) (hy:RefV w w.heap.size u m ys) (hl:xs.length<=17592186044416):Calls Tryz.prog 59 #[v,u] w (zi9 (decide (n=m/\xs=ys)) w):=by
 obtain ⟨A,c,rfl,hc,hi⟩:=hx;obtain ⟨B,d,rfl,hd,hj⟩:=hy;obtain ⟨x1,x2,x3,x4⟩:=BxR.both w (.string n) (.slice A xs.length c) (.string m) (.slice B ys.length d);have CALL:Hid (Calls Tryz.prog 123 #[.slice A xs.length c,.slice B ys.length d] ((w.alloc (.cells #[.string n,.slice A xs.length c] 44 (0,0))).alloc (.cells #[.string m,.slice B ys.length d] 44 (0,0))) (zi9 (decide (xs=ys)) ((w.alloc (.cells #[.string n,.slice A xs.length c] 44 (0,0))).alloc (.cells #[.string m,.slice B ys.length d] 44 (0,0))))) :=
  Lh (same_any xs ys _ _ _ ⟨A,c,rfl,hc,hi.stay x3⟩ ⟨B,d,rfl,hd,hj.stay x3⟩ hl)
 have hs:=str_eq n m;have B0:=Lh x3;clear hc hd hi hj x1 x2 x3 x4 hl;by_cases hnm:n=m
 ·have HV:Hid (decide (n=m/\xs=ys)=decide (xs=ys)):=Lh (by simp [hnm])
  rw [decide_eq_true hnm] at hs;clear hnm
  go_enter Tryz.func59, Tryz.ntmps59
  go_wp2_with fail
  refine CALL.out.mono ?_
  rintro e w1 ⟨rfl,hb1⟩;have HB:=Lh (B0.out.trans (hb1.mono B0.out.size));clear hb1 CALL;go_wp2_with fail
  exact bodyPost_ret (v:=.bool (decide (xs=ys))) (by simp [results,Tryz.results59,go_sem]) rfl ⟨by rw [HV.out],HB.out⟩
 ·have HV:Hid (decide (n=m/\xs=ys)=false):=Lh (by simp [hnm])
  rw [decide_eq_false hnm] at hs;clear hnm
  go_enter Tryz.func59, Tryz.ntmps59
  go_wp2_with fail
  all_goals exact bodyPost_ret (v:=.bool false) (by simp [results,Tryz.results59,go_sem]) rfl ⟨by rw [HV.out],B0.out⟩
theorem str_le (xs:Ws):(strL xs).length<=xs.length:=List.length_filter_le _ _
def okB (n:ByteArray) (xs:Ws):Bool:=T1.nameL n.data.toList&&decide (xs.length<=24)&&rtF false xs
def pvB (xs:Ws) (k:Nat):Bool:=match k with | 0=>false | j+1=>xs[j]?==some 1
theorem yb0 (p:Bool) (x:Int) (r:Ws):rtF p (x::r)=((x==2||(x==1&&!p))&&rtF (x==1) r):=rfl
theorem zA6 (n:ByteArray) (xs:Ws) (v:Value) (w:World) (h:RefV w w.heap.size v n xs) (hn:n.size<=maxLen):Calls Tryz.prog 146 #[v] w (zi9 (okB n xs) w):=by
 obtain ⟨A,c,rfl,hc,hi⟩:=h;have x3:=(Below.refl w.heap.size w).alloc (Nat.le_refl _) (.cells #[.string n,.slice A xs.length c] 44 (0,0));have X0:=Lh (BxR.new w (.string n) (.slice A xs.length c));have I0:=Lh (hi.stay x3);have B0:=Lh x3;clear hc hi x3;have CALL:=Lh (T1.zl7 n (w.alloc (.cells #[.string n,.slice A xs.length c] 44 (0,0))) hn);by_cases hnm:T1.nameL n.data.toList=true
 ·by_cases hle:xs.length<=24
  ·have HV:Hid (okB n xs=rtF false xs):=Lh (by unfold okB; rw [hnm,decide_eq_true hle]; rfl)
   have HNM:=Lh hnm;have HLE:Hid ((xs.length:Int)<=24):=Lh (by omega)
   have hgt:¬ ((xs.length:Int) > 24):=by omega
   clear hnm hle
   go_enter Tryz.func146, Tryz.ntmps146
   go_wp2_with fail
   generalize (w.alloc (.cells #[.string n,.slice A xs.length c] 44 (0,0)))=W0 at *;have hcall:=CALL.out;rw [HNM.out] at hcall;refine hcall.mono ?_
   rintro e w1 ⟨rfl,rfl⟩;clear hcall CALL;have q1:=X0.out.cells.2;go_wp2_with fail
   go_loopw [3,5,19] (fun o _ i wr=>∃ (k:Nat) (q:Int),i=.int .i64 k/\o=.int .i64 q/\k<=xs.length/\rtF (q==1) (xs.drop k)=rtF false xs/\Below W0.heap.size W0 wr) (fun _ _ i _=>xs.length-(intOf i).toNat)
   case atStart=>exact ⟨0,2,rfl,rfl,Nat.zero_le _,rfl,Below.refl _ _⟩
   case round =>
    obtain ⟨k,q,rfl,rfl,hk,hr,hb⟩:=hrel;have HB:=Lh hb;have hlm:=HLE.out;by_cases hlt:k<xs.length
    ·obtain ⟨a,x,rfl,ha,hp,h0⟩:=zh5 I0.out hb hlt
     have hlt':(k:Int)<xs.length:=by omega
     rw [drop_one hp,yb0] at hr;clear hb ha hp;by_cases h2:x=2
     ·subst h2
      have HR:=Lh hr;clear hr;go_wp2_with fail
      go_roundw
      case rel=>exact ⟨k+1,2,by go_num,rfl,by omega,HR.out,HB.out⟩
      case measure=>simp [intOf]; omega
     ·have hb2:(x != 2)=true:=by simp [h2]
      by_cases h1:x=1
      ·subst h1
       by_cases hq:q=1
       ·subst hq
        have HF:Hid (rtF false xs=false):=Lh hr.symm;clear hr;go_wp2_with fail
        go_ret
        exact ⟨by rw [HV.out,HF.out]; rfl,B0.out.trans (HB.out.mono B0.out.size)⟩
       ·have hqb:(q==1)=false:=by simp [hq]
        rw [hqb] at hr;have HR:=Lh hr;clear hr hq;go_wp2_with fail
        go_roundw
        case rel=>exact ⟨k+1,1,by go_num,rfl,by omega,HR.out,HB.out⟩
        case measure=>simp [intOf]; omega
      ·have hb1:(x != 1)=true:=by simp [h1]
       have e2:(x==2)=false:=by simp [h2]
       have e1:(x==1)=false:=by simp [h1]
       rw [e1,e2] at hr;have HF:Hid (rtF false xs=false):=Lh hr.symm;clear hr e1 e2;go_wp2_with fail
       go_ret
       exact ⟨by rw [HV.out,HF.out]; rfl,B0.out.trans (HB.out.mono B0.out.size)⟩
    ·have hlt':¬ (k:Int)<xs.length:=by omega
     have HF:Hid (rtF false xs=true):=Lh (by rw [<- hr,List.drop_eq_nil_of_le (by omega)]; rfl)
     clear hr hb;go_wp2_with fail
     go_ret
     exact ⟨by rw [HV.out,HF.out]; rfl,B0.out.trans (HB.out.mono B0.out.size)⟩
  ·have HV:Hid (okB n xs=false):=Lh (by unfold okB; rw [hnm,decide_eq_false hle]; rfl)
   have HNM:=Lh hnm;have hgt:((xs.length:Int) > 24):=by omega
   clear hnm hle
   go_enter Tryz.func146, Tryz.ntmps146
   go_wp2_with fail
   generalize (w.alloc (.cells #[.string n,.slice A xs.length c] 44 (0,0)))=W0 at *;have hcall:=CALL.out;rw [HNM.out] at hcall;refine hcall.mono ?_
   rintro e w1 ⟨rfl,rfl⟩;clear hcall CALL;have q1:=X0.out.cells.2;go_wp2_with fail
   all_goals exact bodyPost_ret (v:=.bool false) (by simp [results,Tryz.results146,go_sem]) rfl ⟨by rw [HV.out],B0.out⟩
 ·have HV:Hid (okB n xs=false):=Lh (by unfold okB; simp [hnm])
  have hnm':T1.nameL n.data.toList=false:=by simpa using hnm
  have HNM:=Lh hnm';clear hnm hnm'
  go_enter Tryz.func146, Tryz.ntmps146
  go_wp2_with fail
  generalize (w.alloc (.cells #[.string n,.slice A xs.length c] 44 (0,0)))=W0 at *;have hcall:=CALL.out;rw [HNM.out] at hcall;refine hcall.mono ?_
  rintro e w1 ⟨rfl,rfl⟩;clear hcall CALL;have q1:=X0.out.cells.2;go_wp2_with fail
  all_goals exact bodyPost_ret (v:=.bool false) (by simp [results,Tryz.results146,go_sem]) rfl ⟨by rw [HV.out],B0.out⟩
theorem zs5 (n:ByteArray) (xs:Ws) (v:Value) (w:World) (h:RefV w w.heap.size v n xs) (hn:n.size<=maxLen):Calls Tryz.prog 97 #[v] w (zi9 (okB n xs) w):=by
 obtain ⟨A,c,rfl,hc,hi⟩:=h;have x3:=(Below.refl w.heap.size w).alloc (Nat.le_refl _) (.cells #[.string n,.slice A xs.length c] 44 (0,0));have X0:=Lh (BxR.new w (.string n) (.slice A xs.length c));have I0:=Lh (hi.stay x3);have B0:=Lh x3;clear hc hi x3;have CALL:=Lh (T1.zd2 n (w.alloc (.cells #[.string n,.slice A xs.length c] 44 (0,0))) hn);by_cases hnm:T1.nameL n.data.toList=true
 ·by_cases hle:xs.length<=24
  ·have HV:Hid (okB n xs=rtF false xs):=Lh (by unfold okB; rw [hnm,decide_eq_true hle]; rfl)
   have HNM:=Lh hnm;have HLE:Hid ((xs.length:Int)<=24):=Lh (by omega)
   have hgt:¬ ((xs.length:Int) > 24):=by omega
   clear hnm hle
   go_enter Tryz.func97, Tryz.ntmps97
   go_wp2_with fail
   generalize (w.alloc (.cells #[.string n,.slice A xs.length c] 44 (0,0)))=W0 at *;have hcall:=CALL.out;rw [HNM.out] at hcall;refine hcall.mono ?_
   rintro e w1 ⟨rfl,rfl⟩;clear hcall CALL;have q1:=X0.out.cells.2;go_wp2_with fail
   go_loopw [3] (fun i wr=>∃ k:Nat,i=.int .i64 k/\k<=xs.length/\rtF (pvB xs k) (xs.drop k)=rtF false xs/\Below W0.heap.size W0 wr) (fun i _=>xs.length-(intOf i).toNat)
   case atStart=>exact ⟨0,rfl,Nat.zero_le _,rfl,Below.refl _ _⟩
   case round =>
    obtain ⟨k,rfl,hk,hr,hb⟩:=hrel;have HB:=Lh hb;have hlm:=HLE.out;have q2:=(X0.out.stay hb).cells.2;by_cases hlt:k<xs.length
    ·obtain ⟨a,x,rfl,ha,hp,h0⟩:=zh5 I0.out hb hlt
     have hlt':(k:Int)<xs.length:=by omega
     rw [drop_one hp,yb0] at hr;have hnx:rtF (x==1) (xs.drop (k+1))=rtF (pvB xs (k+1)) (xs.drop (k+1)):=by
      show _=rtF (xs[k]?==some 1) _; rw [hp]; rfl
     rw [hnx] at hr;clear ha hp hnx;by_cases h2:x=2
     ·subst h2
      have HR:=Lh hr;clear hr hb;by_cases hkp:(k:Int) > 0
      ·go_wp2_with fail
       go_roundw
       case rel=>exact ⟨k+1,by go_num,by omega,HR.out,HB.out⟩
       case measure=>simp [intOf]; omega
      ·go_wp2_with fail
       go_roundw
       case rel=>exact ⟨k+1,by go_num,by omega,HR.out,HB.out⟩
       case measure=>simp [intOf]; omega
     ·have hb2:(x != 2)=true:=by simp [h2]
      by_cases h1:x=1
      ·subst h1
       by_cases hk0:k=0
       ·have HR:Hid (rtF (pvB xs (k+1)) (xs.drop (k+1))=rtF false xs):=Lh (by rw [<- hr]; subst hk0; rfl)
        have hkp:¬ ((k:Int) > 0):=by omega
        clear hr hb hk0;go_wp2_with fail
        go_roundw
        case rel=>exact ⟨k+1,by go_num,by omega,HR.out,HB.out⟩
        case measure=>simp [intOf]; omega
       ·obtain ⟨a',y,ea,_,hpy,h9⟩:=zh5 I0.out hb (k:=k-1) (by omega)
        obtain rfl:a=a':=Option.some.inj ea;have hkp:((k:Int) > 0):=by omega
        have hpv:pvB xs k=(y==1):=by
         obtain ⟨j,rfl⟩ : ∃ j,k=j+1:=⟨k-1,by omega⟩
         show (xs[j]?==some 1)=_
         have e:xs[j]?=some y:=hpy;rw [e]; rfl
        rw [hpv] at hr;have hc9:wr.cell? (a.add ((k:Int)-1).toNat)=some (.int .i64 y):=by rw [show ((k:Int)-1).toNat=k-1 by omega]; exact h9
        have hi9:(k:Int)-1<xs.length:=by omega
        have hi8:0<=(k:Int)-1:=by omega
        by_cases hy:y=1
        ·subst hy
         have HF:Hid (rtF false xs=false):=Lh hr.symm;clear hr hb hpy ea hc9 hpv;go_wp2_with fail
         go_ret
         exact ⟨by rw [HV.out,HF.out]; rfl,B0.out.trans (HB.out.mono B0.out.size)⟩
        ·have hyb:(y==1)=false:=by simp [hy]
         rw [hyb] at hr;have HR:=Lh hr;clear hr hb hpy ea hy hc9 hpv;go_wp2_with fail
         go_roundw
         case rel=>exact ⟨k+1,by go_num,by omega,HR.out,HB.out⟩
         case measure=>simp [intOf]; omega
      ·have hb1:(x != 1)=true:=by simp [h1]
       have e2:(x==2)=false:=by simp [h2]
       have e1:(x==1)=false:=by simp [h1]
       rw [e1,e2] at hr;have HF:Hid (rtF false xs=false):=Lh hr.symm;clear hr e1 e2 hb;go_wp2_with fail
       go_ret
       exact ⟨by rw [HV.out,HF.out]; rfl,B0.out.trans (HB.out.mono B0.out.size)⟩
    ·have hlt':¬ (k:Int)<xs.length:=by omega
     have HF:Hid (rtF false xs=true):=Lh (by rw [<- hr,List.drop_eq_nil_of_le (by omega)]; rfl)
     clear hr hb;go_wp2_with fail
     go_ret
     exact ⟨by rw [HV.out,HF.out]; rfl,B0.out.trans (HB.out.mono B0.out.size)⟩
  ·have HV:Hid (okB n xs=false):=Lh (by unfold okB; rw [hnm,decide_eq_false hle]; rfl)
   have HNM:=Lh hnm;have hgt:((xs.length:Int) > 24):=by omega
   clear hnm hle
   go_enter Tryz.func97, Tryz.ntmps97
   go_wp2_with fail
   generalize (w.alloc (.cells #[.string n,.slice A xs.length c] 44 (0,0)))=W0 at *;have hcall:=CALL.out;rw [HNM.out] at hcall;refine hcall.mono ?_
   rintro e w1 ⟨rfl,rfl⟩;clear hcall CALL;have q1:=X0.out.cells.2;go_wp2_with fail
   all_goals exact bodyPost_ret (v:=.bool false) (by simp [results,Tryz.results97,go_sem]) rfl ⟨by rw [HV.out],B0.out⟩
 ·have HV:Hid (okB n xs=false):=Lh (by unfold okB; simp [hnm])
  have hnm':T1.nameL n.data.toList=false:=by simpa using hnm
  have HNM:=Lh hnm';clear hnm hnm'
  go_enter Tryz.func97, Tryz.ntmps97
  go_wp2_with fail
  generalize (w.alloc (.cells #[.string n,.slice A xs.length c] 44 (0,0)))=W0 at *;have hcall:=CALL.out;rw [HNM.out] at hcall;refine hcall.mono ?_
  rintro e w1 ⟨rfl,rfl⟩;clear hcall CALL;have q1:=X0.out.cells.2;go_wp2_with fail
  all_goals exact bodyPost_ret (v:=.bool false) (by simp [results,Tryz.results97,go_sem]) rfl ⟨by rw [HV.out],B0.out⟩
end Go.Proofs.YtfgelheiknmjgaaGreatDoor.K
