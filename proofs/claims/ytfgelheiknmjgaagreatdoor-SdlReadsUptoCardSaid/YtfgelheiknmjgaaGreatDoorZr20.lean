
/-
 Texts joined: I1 I2 I3 H6.
-/
import Derived.Test.YtfgelheiknmjgaaGreatDoorZr15
import Derived.Test.YtfgelheiknmjgaaGreatDoorZr19
import Derived.Test.YtfgelheiknmjgaaGreatDoorZr11
set_option maxRecDepth 1000000
set_option maxHeartbeats 8000000
namespace Go.Proofs.YtfgelheiknmjgaaGreatDoor
open Go.RowKit
def RdX (o:Option Nat):RelS VT:=fun w S f t=>RdC w (fun b=>S b/\o≠some b) f t
theorem RdX.stays (o:Option Nat):StayS (RdX o):=⟨fun h hb hs=>RdC.stays.kept h (fun b hh=>hb b hh.1) (fun b hh=>⟨hs b hh.1,hh.2⟩)⟩
theorem RdX.cong (o:Option Nat) {k:Nat} (hk:5<=k) (W:World) (S:Nat->Prop) (g g':Nat->Value) (y:VT) (h:∀ j,j<k->g j=g' j) (hr:RdX o W S g y):RdX o W S g' y:=RdC.cong hk W _ g g' y h hr
theorem Els.swap {k:Nat} {T:TypeId} {o o':Option Nat} {w w':World} {base:Nat} {v:Value} {cells:List Value} {xs:List VT} (h:Els T k (RdX o) w base v cells xs)
  (hb:∀ b,base<=b->b<w.heap.size->o≠some b->w'.heap[b]?=w.heap[b]?) (hs:w.heap.size<=w'.heap.size) (hv:∀ b,v.ownBlock=some b->o≠some b) (ho:∀ b,b<w.heap.size->o≠some b->o'≠some b):Els T k (RdX o') w' base v cells xs:=by
 refine ⟨⟨h.own.1,h.own.2.imp id ?_⟩,fun i x hx=>RdC.stays.kept (h.els i x hx) (fun b hh=>hb b hh.1.1 hh.1.2.1 hh.2) (fun b hh=>⟨⟨hh.1.1,Nat.lt_of_lt_of_le hh.1.2.1 hs,hh.1.2.2⟩,ho b hh.1.2.1 hh.2⟩)⟩
 rintro ⟨g,cap,cur,rfl,e2,e3,r⟩;have hg:=zf6 h.own (g:=g) rfl;exact ⟨g,cap,cur,rfl,e2,(hb g hg.1 hg.2 (hv g rfl)).trans e3,r⟩
theorem ye1 {w:World} {base:Nat} {e:TypeId} {size:Nat} {v:Value} {n:Nat} {xs:List Value} (h:w.ownsRow base e size v n xs):∃ A c,v=.slice A n c:=by
 rcases h.2 with ⟨rfl,hz⟩ | ⟨g,cap,cur,rfl,_⟩
 ·exact ⟨none,0,by rw [hz]⟩
 ·exact ⟨_,_,rfl⟩
def zeroV5:Array Value:=#[.int .i64 0,.int .i64 0,.string ⟨#[]⟩,.slice none 0 0,.slice none 0 0]
structure OSt (w0:World) (p:Nat) (kr ir:Value) (ks:List ByteArray) (cells:List Value) (l:List VT) (sk:List ByteArray) (ts:List Tk) (n:Nat) (w:World):Prop where
 pst:PSt w p ts n
 sn:SnAt w (w0.heap.size+2) sk
 box:Bk w (w0.heap.size+1) #[.int .i64 6,.int .i64 0,.string ⟨#[]⟩,ir,kr] 53
 kown:w.ownsRow (w0.heap.size+3) 9 1 kr ks.length (ks.map Value.string)
 els:Els 53 5 (RdX kr.ownBlock) w (w0.heap.size+3) ir cells l
 apart:∀ b,ir.ownBlock=some b->kr.ownBlock≠some b
 res:Bk w w0.heap.size zeroV5 53
 tw:Tw p w0.heap.size w0 w
 op:p<w0.heap.size
 size:w0.heap.size+3<=w.heap.size
 ksz:∀ s∈sk,s.size<=1000000
variable {w0 w w':World} {p n m:Nat} {kr ir:Value} {ks sk sk':List ByteArray} {cells:List Value} {l:List VT} {ts ts':List Tk}
theorem zv9 {w w':World} {base:Nat} {e:TypeId} {size:Nat} {v:Value} {n:Nat} {xs:List Value} (h:w.ownsRow base e size v n xs) (hb:∀ g,base<=g->g<w.heap.size->v.ownBlock=some g->w'.heap[g]?=w.heap[g]?):w'.ownsRow base e size v n xs:=by
 refine ⟨h.1,h.2.imp id ?_⟩
 rintro ⟨g,cap,cur,rfl,e2,e3,r⟩;have hg:=zf6 h (g:=g) rfl;exact ⟨g,cap,cur,rfl,e2,(hb g hg.1 hg.2 rfl).trans e3,r⟩
theorem OSt.step (h:OSt w0 p kr ir ks cells l sk ts n w) (ht:Tw2 p (w0.heap.size+2) w w') (hp:PSt w' p ts' m) (hs:SnAt w' (w0.heap.size+2) sk') (hz:∀ s∈sk',s.size<=1000000):OSt w0 p kr ir ks cells l sk' ts' m w':=by
 have h1:=h.op;have h2:=h.size;have hbl:∀ b,b≠p->b≠w0.heap.size+2->b<w.heap.size->w'.heap[b]?=w.heap[b]?:=fun b hp hm hb=>ht.block b hb hp hm;refine ⟨hp,hs,(hbl _ (by omega) (by omega) (by omega)).trans h.box,zv9 h.kown (fun g hg hl _=>hbl g (by omega) (by omega) hl), ?_,h.apart,(hbl _ (by omega) (by omega) (by omega)).trans h.res,
  h.tw.trans ⟨ht.os,ht.tape,ht.output,ht.size,fun k hk hkp=>hbl k hkp (by omega) (by omega)⟩,h1,Nat.le_trans h2 ht.size,hz⟩
 exact h.els.swap (fun b hb hl _=>hbl b (by omega) (by omega) hl) ht.size (fun b hb=>h.apart b hb) (fun b _ hb=>hb)
theorem Tw2.ofTw {p m:Nat} {w w':World} (h:Tw p w.heap.size w w'):Tw2 p m w w':=⟨h.os,h.tape,h.output,h.size,fun k h1 h2 _=>h.block k h1 h2⟩
theorem OSt.tws (h:OSt w0 p kr ir ks cells l sk ts n w) (ht:Tw p w.heap.size w w') (hp:PSt w' p ts' m):OSt w0 p kr ir ks cells l sk ts' m w' :=
 h.step (Tw2.ofTw ht) hp (h.sn.same (ht.block _ (by have:=h.size; omega) (by have:=h.op; omega))) h.ksz
theorem OSt.stay (h:OSt w0 p kr ir ks cells l sk ts n w) (hb:Below w.heap.size w w'):OSt w0 p kr ir ks cells l sk ts n w':=h.tws (.of hb) (h.pst.stay hb)
theorem OSt.row (h:OSt w0 p kr ir ks cells l sk ts n w):w.cell? ⟨w0.heap.size+1,4,none⟩=some kr/\w.cell? ⟨w0.heap.size+1,3,none⟩=some ir:=⟨h.box.cell 4 _ rfl,h.box.cell 3 _ rfl⟩
theorem OSt.pushK {kr':Value} {x:ByteArray} (h:OSt w0 p kr ir ks cells l sk ts n w) (h1:w'.ownsRow (w0.heap.size+3) 9 1 kr' (ks.length+1) (ks.map Value.string++[.string x])) (h2:w.grownBy w' kr.ownBlock) (h3:kr'.ownBlock=kr.ownBlock∨∃ g,kr'.ownBlock=some g/\w.heap.size<=g) :
  OSt w0 p kr' ir (ks++[x]) cells l sk ts n (w'.setCell ⟨w0.heap.size+1,4,none⟩ kr'):=by
 have ho:=h.op;have hz:=h.size;have hs2:=h2.size;have hkl:∀ b,kr.ownBlock=some b->w0.heap.size+3<=b/\b<w.heap.size:=fun b hb=>zf6 h.kown hb;have hbl:∀ b,b<w.heap.size->kr.ownBlock≠some b->w'.heap[b]?=w.heap[b]?:=fun b hb hn=>h2.block b hb (fun e=>hn e.symm);have hlow:∀ b,b<w0.heap.size+3->kr.ownBlock≠some b:=fun b hb e=>by have:=(hkl b e).1; omega
 have hset:∀ b,b≠w0.heap.size+1->(w'.setCell ⟨w0.heap.size+1,4,none⟩ kr').heap[b]?=w'.heap[b]?:=fun b hb=>Below.heap_setCell _ _ _ _ hb;have hall:∀ b,b<w.heap.size->b≠w0.heap.size+1->kr.ownBlock≠some b->(w'.setCell ⟨w0.heap.size+1,4,none⟩ kr').heap[b]?=w.heap[b]?:=fun b hb hn hk=>(hset b hn).trans (hbl b hb hk);have hsz:(w'.setCell ⟨w0.heap.size+1,4,none⟩ kr').heap.size=w'.heap.size:=by simp [World.setCell]
 refine ⟨h.pst.same ⟨h2.os,h2.tape,h2.output,by omega,fun b hb=>hall b (by omega) (by omega) (hlow b (by omega))⟩,h.sn.same (hall _ (by omega) (by omega) (hlow _ (by omega))), ?_, ?_, ?_, ?_,(hall _ (by omega) (by omega) (hlow _ (by omega))).trans h.res,
  h.tw.trans ⟨h2.os,h2.tape,h2.output,by omega,fun k hk hkp=>hall k (by omega) (by omega) (hlow k (by omega))⟩,ho,by omega,h.ksz⟩
 ·have hb:Bk w' (w0.heap.size+1) #[.int .i64 6,.int .i64 0,.string ⟨#[]⟩,ir,kr] 53 := (hbl _ (by omega) (hlow _ (by omega))).trans h.box
  exact hb.set 4 kr'
 ·rw [List.length_append,List.length_singleton,List.map_append]
  exact zv9 h1 (fun g hg _ _=>hset g (by omega))
 ·refine h.els.swap (fun b hb hl hk=>hall b hl (by omega) hk) (by omega) (fun b hb=>h.apart b hb) (fun b hl hk e=>?_)
  rcases h3 with h3 | ⟨g,h3,hg⟩
  ·exact hk (h3▸e)
  ·rw [h3] at e; cases e; omega
 ·intro b hb e
  have hl:=(zf6 h.els.own hb).2;rcases h3 with h3 | ⟨g,h3,hg⟩
  ·exact h.apart b hb (h3▸e)
  ·rw [h3] at e; cases e; omega
theorem OSt.pushI {ir':Value} {x:VT} {f:Nat->Value} {news:List Value} {w1:World} (h:OSt w0 p kr ir ks cells l sk ts n w) (hw1:Below w.heap.size w w1)
  (hx:RdX kr.ownBlock w (fun b=>w0.heap.size+3<=b/\b<w.heap.size/\ir.ownBlock≠some b) f x) (hf:∀ j,j<5->news.getD j undef=f j)
  (h1:w'.ownsRow (w0.heap.size+3) 53 5 ir' (l.length+1) (cells++news)) (h2:w1.grownBy w' ir.ownBlock) (h3:ir'.ownBlock=ir.ownBlock∨∃ g,ir'.ownBlock=some g/\w1.heap.size<=g) :
  OSt w0 p kr ir' ks (cells++news) (l++[x]) sk ts n (w'.setCell ⟨w0.heap.size+1,3,none⟩ ir'):=by
 have ho:=h.op;have hz:=h.size;have hs1:=hw1.size;have hs2:=h2.size;obtain ⟨he,hbel⟩:=Els.push (RdX.stays _) h.els hw1 hz hx hf (RdX.cong _ (Nat.le_refl _)) h1 h2 h3;have hlow:∀ b,b<w0.heap.size+3->w'.heap[b]?=w.heap[b]?:=fun b hb=>hbel.block b hb;have hkb:∀ b,kr.ownBlock=some b->w'.heap[b]?=w.heap[b]?:=fun b hb=>(h2.block b (by have:=(zf6 h.kown hb).2; omega) (fun e=>h.apart b e.symm hb)).trans (hw1.block b (zf6 h.kown hb).2)
 have hset:∀ b,b≠w0.heap.size+1->(w'.setCell ⟨w0.heap.size+1,3,none⟩ ir').heap[b]?=w'.heap[b]?:=fun b hb=>Below.heap_setCell _ _ _ _ hb;have hall:∀ b,b<w0.heap.size+3->b≠w0.heap.size+1->(w'.setCell ⟨w0.heap.size+1,3,none⟩ ir').heap[b]?=w.heap[b]?:=fun b hb hn=>(hset b hn).trans (hlow b hb);have hsz:(w'.setCell ⟨w0.heap.size+1,3,none⟩ ir').heap.size=w'.heap.size:=by simp [World.setCell]
 refine ⟨h.pst.same ⟨hbel.os,hbel.tape,hbel.output,by omega,fun b hb=>hall b (by omega) (by omega)⟩,h.sn.same (hall _ (by omega) (by omega)), ?_,zv9 h.kown (fun g hg _ hb=>(hset g (by omega)).trans (hkb g hb)), ?_, ?_,(hall _ (by omega) (by omega)).trans h.res,
  h.tw.trans ⟨hbel.os,hbel.tape,hbel.output,by omega,fun k hk hkp=>hall k (by omega) (by omega)⟩,ho,by omega,h.ksz⟩
 ·have hb:Bk w' (w0.heap.size+1) #[.int .i64 6,.int .i64 0,.string ⟨#[]⟩,ir,kr] 53 := (hlow _ (by omega)).trans h.box
  exact hb.set 3 ir'
 ·exact he.swap (fun b hb hl hk=>hset b (by omega)) (by omega) (fun b hb e=>by
   have hl:=(zf6 h.kown e).2;rcases h3 with h3 | ⟨g,h3,hg⟩
   ·exact h.apart b (h3▸hb) e
   ·rw [h3] at hb; cases hb; omega) (fun b _ hb=>hb)
 ·intro b hb e
  have hl:=(zf6 h.kown e).2;rcases h3 with h3 | ⟨g,h3,hg⟩
  ·exact h.apart b (h3▸hb) e
  ·rw [h3] at hb; cases hb; omega
theorem own_le {w:World} {base:Nat} {e:TypeId} {size m c:Nat} {A:Option Addr} {n:Nat} {xs:List Value} (h:w.ownsRow base e size (.slice A m c) n xs):m<=c:=by
 rcases h.2 with ⟨h1,_⟩ | ⟨g,cap,cur,h1,_,_,h2,_⟩
 ·cases h1; exact Nat.le_refl _
 ·cases h1; exact h2
theorem RdS.ofObj {w:World} {S:Nat->Prop} {base:Nat} {kr ir:Value} {cells:List Value} {ks:List ByteArray} {l:List VT} (hs:∀ b,base<=b->b<w.heap.size->S b) (hk:w.ownsRow base 9 1 kr ks.length (ks.map Value.string)) (hi:Els 53 5 (RdX kr.ownBlock) w base ir cells l) (hz:∀ s∈ks,s.size<=1000000) (hkl:ks.length<=5000) (hll:l.length<=5000) :
  RdS w S (.agg #[.int .i64 6,.int .i64 0,.string ⟨#[]⟩,ir,kr]) (.mk 6 0 ⟨#[]⟩ l ks):=by
 obtain ⟨A,c,rfl,_,_,V,hA,hr⟩:=hi.read (bytes:=80) (RdX.stays _) (by unfold big; omega)
 obtain ⟨K,d,hkr⟩:=ye1 hk;subst hkr;refine .mk (fun i=>.agg #[V i 0,V i 1,V i 2,V i 3,V i 4]) (by unfold small; omega) (by unfold small; omega) (by decide) (fun s h=>by have:=hz s h; omega) rfl rfl (by omega) ⟨by omega,own_le hk⟩ (fun h0=>?_) (fun i t ht=>?_) (fun h0=>?_)
 ·obtain ⟨a,e,ha,hx⟩:=hA h0
  exact ⟨a,e,hs _ ha.1 ha.2,fun i hi=>⟨_,_,_,_,_,rfl,hx i hi 0 (by omega),hx i hi 1 (by omega),hx i hi 2 (by omega),hx i hi 3 (by omega),hx i hi 4 (by omega)⟩⟩
 ·exact RdS.kept (hr i t ht) (fun _ _=>rfl) (fun b hb=>hs b hb.1.1 hb.1.2)
 ·rcases hk.2 with ⟨h1,h2⟩ | ⟨g,cap,cur,h1,h2,h3,_⟩
  ·omega
  ·cases h1
   have hlt:=(zf6 hk (g:=g) rfl);refine ⟨_,rfl,hs g hlt.1 hlt.2,fun i s hi=>?_⟩
   exact World.ownsRow.cells hk (g:=g) rfl i (.string s) (by rw [List.getElem?_map,hi]; rfl)
def obP (el:ElT):Nat->List ByteArray->List VT->List Tk->Nat->Except Er (List ByteArray × List VT × List Tk × Nat)
 | 0,_,_,_,_=>.error (0,99)
 | f+1,ks,l,ts,n=>if isSg [125] ts=true then .ok (ks,l,ts.tail,n) else exB (keyP ks ts) fun q=>exB (sgR [58] q.2) fun t2=>exB (el t2 n) fun r=>obP el f (ks++[q.1]) (l++[r.1]) r.2.1 r.2.2
theorem zr1 (el:ElT) (f:Nat) (ks:List ByteArray) (l:List VT) (ts:List Tk) (n:Nat):obP el (f+1) ks l ts n=if isSg [125] ts=true then .ok (ks,l,ts.tail,n) else exB (keyP ks ts) fun q=>exB (sgR [58] q.2) fun t2=>exB (el t2 n) fun r=>obP el f (ks++[q.1]) (l++[r.1]) r.2.1 r.2.2:=rfl
def obV (el:ElT):ElT:=fun ts n=>exB (obP el (ts.length+1) [] [] ts n) fun q=>.ok (.mk 6 0 ⟨#[]⟩ q.2.1 q.1,q.2.2.1,q.2.2.2)
theorem obP_le {el:ElT} (he:LtE el):∀ (f:Nat) (ks:List ByteArray) (l:List VT) (ts:List Tk) (n:Nat) (q:List ByteArray × List VT × List Tk × Nat),obP el f ks l ts n=.ok q->q.2.2.1.length<=ts.length:=by
 intro f
 induction f with
 | zero=>intro ks l ts n q h; simp [obP] at h
 | succ f ih =>
   intro ks l ts n q h;rw [zr1] at h;by_cases e:isSg [125] ts=true
   ·rw [if_pos e] at h; cases h; exact Nat.le_of_lt (zt2 e)
   ·rw [if_neg e] at h
    obtain ⟨k,h1,h⟩:=za4 h;obtain ⟨t2,h2,h⟩:=za4 h;obtain ⟨r,h3,h⟩:=za4 h;have hk:k.2.length<ts.length:=by
     obtain ⟨k0,h4,h5⟩:=za4 h1
     split at h5
     ·cases h5
     ·cases h5; exact zh3 _ _ _ h4
    have:=zl4 h2;have:=he _ _ _ h3;have:=ih _ _ _ _ _ h;omega
theorem obV_con {el:ElT} (he:LtE el):LeE (obV el):=by
 intro ts n q h;obtain ⟨r,h1,h⟩:=za4 h;cases h
 exact obP_le he _ _ _ _ _ _ h1
section
variable {ops:Array Oper} {Q:Exit->Act->World->Prop} {o:Oper} {a:Act} {w:World} {R:Value->World->Prop}
theorem yb7 (hw:Region.wanted o (yielded ops a.tmps)=true) (x:Operand) {g:Nat} (ho:o.op=.fieldAddr 53 x 4) (hx:a.eval x=.pointer (some ⟨g,0,none⟩)) (h:R (.pointer (some ⟨g,4,none⟩)) w):K.Runs Tryz.prog ops Q o a w R :=
 K.za8 hw (by generalize a.eval=ρ at hx; simp [execOp,ho,go_sem,hx]) h
theorem yb8 (hw:Region.wanted o (yielded ops a.tmps)=true) (x:Operand) {g:Nat} (ho:o.op=.fieldAddr 53 x 3) (hx:a.eval x=.pointer (some ⟨g,0,none⟩)) (h:R (.pointer (some ⟨g,3,none⟩)) w):K.Runs Tryz.prog ops Q o a w R :=
 K.za8 hw (by generalize a.eval=ρ at hx; simp [execOp,ho,go_sem,hx]) h
theorem zR4 (hw:Region.wanted o (yielded ops a.tmps)=true) (x:Operand) {g:Nat} (ho:o.op=.fieldAddr 24 x 0) (hx:a.eval x=.pointer (some ⟨g,0,none⟩)) (h:R (.pointer (some ⟨g,0,none⟩)) w):K.Runs Tryz.prog ops Q o a w R :=
 K.za8 hw (by generalize a.eval=ρ at hx; simp [execOp,ho,go_sem,hx]) h
theorem rg_ldS (hw:Region.wanted o (yielded ops a.tmps)=true) (x:Operand) {g i:Nat} {v:Value} (ho:o.op=.load 33 x) (hx:a.eval x=.pointer (some ⟨g,i,none⟩)) (hc:w.cell? ⟨g,i,none⟩=some v) (h:R v w):K.Runs Tryz.prog ops Q o a w R :=
 K.za8 hw (by generalize a.eval=ρ at hx; simp [execOp,ho,go_sem,hx,hc]) h
theorem rg_ldV (hw:Region.wanted o (yielded ops a.tmps)=true) (x:Operand) {g i:Nat} {v:Value} (ho:o.op=.load 51 x) (hx:a.eval x=.pointer (some ⟨g,i,none⟩)) (hc:w.cell? ⟨g,i,none⟩=some v) (h:R v w):K.Runs Tryz.prog ops Q o a w R :=
 K.za8 hw (by generalize a.eval=ρ at hx; simp [execOp,ho,go_sem,hx,hc]) h
theorem rg_ldD (hw:Region.wanted o (yielded ops a.tmps)=true) (x:Operand) {g i:Nat} {v:Value} (ho:o.op=.load 22 x) (hx:a.eval x=.pointer (some ⟨g,i,none⟩)) (hc:w.cell? ⟨g,i,none⟩=some v) (h:R v w):K.Runs Tryz.prog ops Q o a w R :=
 K.za8 hw (by generalize a.eval=ρ at hx; simp [execOp,ho,go_sem,hx,hc]) h
theorem zn2 (hw:Region.wanted o (yielded ops a.tmps)=true) (x:Operand) {v:Value} (ho:o.op=.move x) (hx:a.eval x=v) (h:R v w):K.Runs Tryz.prog ops Q o a w R :=
 K.za8 hw (by generalize a.eval=ρ at hx; simp [execOp,ho,go_sem,hx]) h
theorem rg_add (hw:Region.wanted o (yielded ops a.tmps)=true) (x:Operand) {n:Nat} (hn:n<=1000000) (ho:o.op=.binOp .add 3 x (.const (.int .i64 1)) 3) (hx:a.eval x=.int .i64 n) (h:R (.int .i64 ((n:Int)+1)) w):K.Runs Tryz.prog ops Q o a w R :=
 K.za8 hw (by
  have h0:a.eval (.const (.int .i64 1))=.int .i64 1:=rfl;generalize a.eval=ρ at hx h0;have h1:IntKind.i64.wrap ((n:Int)+1)=(n:Int)+1:=by rw [IntKind.wrap_i64]; omega
  simp [execOp,ho,go_sem,hx,h0,h1]) h
theorem rg_makeS (hw:Region.wanted o (yielded ops a.tmps)=true) (x:Operand) {s:ByteArray} (ho:o.op=.buildSlice 33 1 #[(0,x)]) (hx:a.eval x=.string s)
  (h:R (.slice (some ⟨w.heap.size,0,none⟩) 1 1) (w.alloc (.cells #[.string s] 9 (0,0)))):K.Runs Tryz.prog ops Q o a w R :=
 K.za8 hw (by generalize a.eval=ρ at hx; simp [execOp,ho,go_sem,hx]) h
theorem rg_makeV (hw:Region.wanted o (yielded ops a.tmps)=true) (x:Operand) {c0 c1 c2 c3 c4:Value} (ho:o.op=.buildSlice 51 1 #[(0,x)]) (hx:a.eval x=.agg #[c0,c1,c2,c3,c4])
  (h:R (.slice (some ⟨w.heap.size,0,none⟩) 1 1) (w.alloc (.cells #[c0,c1,c2,c3,c4] 53 (0,0)))):K.Runs Tryz.prog ops Q o a w R :=
 K.za8 hw (by generalize a.eval=ρ at hx; simp [execOp,ho,go_sem,hx]) h
theorem zR3 (hw:Region.wanted o (yielded ops a.tmps)=true) (x:Operand) {c0 c1 c2 c3 c4 c5 c6:Value} (ho:o.op=.buildSlice 22 1 #[(0,x)]) (hx:a.eval x=.agg #[c0,c1,c2,c3,c4,c5,c6])
  (h:R (.slice (some ⟨w.heap.size,0,none⟩) 1 1) (w.alloc (.cells #[c0,c1,c2,c3,c4,c5,c6] 39 (0,0)))):K.Runs Tryz.prog ops Q o a w R :=
 K.za8 hw (by generalize a.eval=ρ at hx; simp [execOp,ho,go_sem,hx]) h
theorem zR5 (hw:Region.wanted o (yielded ops a.tmps)=true) (s x:Operand) (t:TypeId) (ho:o.op=.call { callee:=.builtin .append,args:=#[s,x],argTypes:=#[t,t] })
  (base:Nat) (e:TypeId) (z:Value) (size bytes:Nat) (ht : Tryz.prog.underlying t=some (.slice e)) (hinfo:(Tryz.prog.info? e).map (fun i=>(i.zero,i.size,i.bytes))=some (some z,size,bytes)) (hzs:z.cells.size=size) (hsz:0<size)
  (v:Value) (n:Nat) (xs:List Value) (hs:a.eval s=v) (hown:w.ownsRow base e size v n xs) (ad:Addr) (news:List Value) (hx:a.eval x=.slice (some ad) 1 1) (hl:news.length=1*size) (hnews:∀ j u,news[j]?=some u->w.cell? (ad.add j)=some u) (h1:∀ u∈news,u.oneCell'=true)
  (h63:n+1<=maxLen) (hbytes:(n+1)*bytes<=140737488355328) (hbase:base<=w.heap.size)
  (h:∀ v' w',w'.ownsRow base e size v' (n+1) (xs++news)->w.grownBy w' v.ownBlock->(v'.ownBlock=v.ownBlock∨∃ g,v'.ownBlock=some g/\w.heap.size<=g)->R v' w'):K.Runs Tryz.prog ops Q o a w R:=by
 obtain ⟨v',w',hr,h2,h3,h4⟩:=zm4 (P:=Tryz.prog) w base t o.type e z size bytes ht hinfo hzs hsz v n xs hown ad 1 1 (by decide) news hl hnews h1 h63 hbytes hbase
 refine K.za8 (v:=v') (w':=w') hw ?_ (h v' w' h2 h3 h4)
 generalize a.eval=ρ at hs hx;unfold execOp;simp only [ho,resolve,invoke,builtin,Sem.run_bind,Sem.run_pure,Result.andThen_ok,List.map_toArray,List.map_cons,List.map_nil,hs,hx,hr]
theorem yb6 (hw:Region.wanted o (yielded ops a.tmps)=true) (x y:Operand) {g i:Nat} {u v:Value} (ho:o.op=.store 33 x y) (hx:a.eval x=.pointer (some ⟨g,i,none⟩)) (hy:a.eval y=v) (hv:∃ A n c,v=.slice A n c) (hc:w.cell? ⟨g,i,none⟩=some u) (hf:w.frozen? ⟨g,i,none⟩=false)
  (h:R undef (w.setCell ⟨g,i,none⟩ v)):K.Runs Tryz.prog ops Q o a w R:=by
 obtain ⟨A,n,c,rfl⟩:=hv;exact K.zq3 hw (by
  generalize a.eval=ρ at hx hy;simp [execOp,ho,go_sem,hx,hy,hc,hf]) h
theorem yb5 (hw:Region.wanted o (yielded ops a.tmps)=true) (x y:Operand) {g i:Nat} {u v:Value} (ho:o.op=.store 51 x y) (hx:a.eval x=.pointer (some ⟨g,i,none⟩)) (hy:a.eval y=v) (hv:∃ A n c,v=.slice A n c) (hc:w.cell? ⟨g,i,none⟩=some u) (hf:w.frozen? ⟨g,i,none⟩=false)
  (h:R undef (w.setCell ⟨g,i,none⟩ v)):K.Runs Tryz.prog ops Q o a w R:=by
 obtain ⟨A,n,c,rfl⟩:=hv;exact K.zq3 hw (by
  generalize a.eval=ρ at hx hy;simp [execOp,ho,go_sem,hx,hy,hc,hf]) h
theorem zI1 (hw:Region.wanted o (yielded ops a.tmps)=true) (x y:Operand) {g i:Nat} {u v:Value} (ho:o.op=.store 22 x y) (hx:a.eval x=.pointer (some ⟨g,i,none⟩)) (hy:a.eval y=v) (hv:∃ A n c,v=.slice A n c) (hc:w.cell? ⟨g,i,none⟩=some u) (hf:w.frozen? ⟨g,i,none⟩=false)
  (h:R undef (w.setCell ⟨g,i,none⟩ v)):K.Runs Tryz.prog ops Q o a w R:=by
 obtain ⟨A,n,c,rfl⟩:=hv;exact K.zq3 hw (by
  generalize a.eval=ρ at hx hy;simp [execOp,ho,go_sem,hx,hy,hc,hf]) h
end
theorem zo6 {w:World} {base:Nat} {e:TypeId} {size:Nat} {v:Value} {n:Nat} {xs:List Value} (h:w.ownsRow base e size v n xs):∃ A c,v=.slice A n c:=by
 rcases h.2 with ⟨rfl,hz⟩ | ⟨g,cap,cur,rfl,_⟩
 ·exact ⟨none,0,by rw [hz]⟩
 ·exact ⟨_,_,rfl⟩
theorem en_key:∀ (args:Array Value) (w:World),(callFunc 275 args).run Tryz.prog w=.ok (.enter 275 args) w:=enters_of Tryz.func275 (by kernel_rfl) rfl
theorem yh2:∀ (args:Array Value) (w:World),(callFunc 235 args).run Tryz.prog w=.ok (.enter 235 args) w:=enters_of Tryz.func235 (by kernel_rfl) rfl
def pvK (vb:Nat) (row x2 x3:Value):Nat->Option Value
 | 0=>some (.pointer (some ⟨vb,4,none⟩))
 | 1=>some row
 | 2=>some x2
 | 3=>some x3
 | 7=>some (.pointer (some ⟨vb,4,none⟩))
 | _=>none
def pvI (vb:Nat) (row x2 x3 x4:Value):Nat->Option Value
 | 0=>some (.pointer (some ⟨vb,3,none⟩))
 | 1=>some row
 | 2=>some x2
 | 3=>some x3
 | 4=>some x4
 | 8=>some (.pointer (some ⟨vb,3,none⟩))
 | _=>none
def KC (w0:World) (p:Nat) (kr ir:Value) (ks:List ByteArray) (cells:List Value) (l:List VT) (ts:List Tk) (n:Nat) (u:Value) (w:World):Prop:=∃ x ts',u=.string x/\keyP ks ts=.ok (x,ts')/\ts'.length<ts.length/\OSt w0 p kr ir ks cells l (ks++[x]) ts' n w
def KG (w0:World) (p:Nat) (kr ir:Value) (ks:List ByteArray) (cells:List Value) (l:List VT) (ts:List Tk) (n:Nat) (u:Value) (w:World):Prop:=∃ x ts' b,u=.slice (some ⟨b,0,none⟩) 1 1/\w.cell? ⟨b,0,none⟩=some (.string x)/\keyP ks ts=.ok (x,ts')/\ts'.length<ts.length/\OSt w0 p kr ir ks cells l (ks++[x]) ts' n w
def KE (w0:World) (p:Nat) (kr ir:Value) (ks:List ByteArray) (cells:List Value) (l:List VT) (ts:List Tk) (n:Nat) (u:Value) (w:World):Prop:=∃ x ts' w1,keyP ks ts=.ok (x,ts')/\ts'.length<ts.length/\OSt w0 p kr ir ks cells l (ks++[x]) ts' n w1 /\
 w.ownsRow (w0.heap.size+3) 9 1 u (ks.length+1) (ks.map Value.string++[.string x])/\w1.grownBy w kr.ownBlock/\(u.ownBlock=kr.ownBlock∨∃ g,u.ownBlock=some g/\w1.heap.size<=g)
def KF (w0:World) (p:Nat) (ir:Value) (ks:List ByteArray) (cells:List Value) (l:List VT) (ts:List Tk) (n:Nat) (w:World):Prop:=∃ x ts' kr',keyP ks ts=.ok (x,ts')/\ts'.length<ts.length/\OSt w0 p kr' ir (ks++[x]) cells l (ks++[x]) ts' n w
theorem KE.box {w0 w:World} {p n:Nat} {kr ir u:Value} {ks:List ByteArray} {cells:List Value} {l:List VT} {ts:List Tk} (h:KE w0 p kr ir ks cells l ts n u w):w.cell? ⟨w0.heap.size+1,4,none⟩=some kr/\w.frozen? ⟨w0.heap.size+1,4,none⟩=false:=by
 obtain ⟨x,ts',w1,_,_,ho,_,hg,_⟩:=h;have hz:=ho.size;have hb:Bk w (w0.heap.size+1) #[.int .i64 6,.int .i64 0,.string ⟨#[]⟩,ir,kr] 53 := (hg.block _ (by omega) (fun e=>by have:=(zf6 ho.kown e.symm).1; omega)).trans ho.box
 exact ⟨hb.cell 4 _ rfl,hb.frz 4⟩
def ItV (w0 w:World) (kr ir:Value) (u:Value) (t:VT):Prop:=∃ k z s A li ci KA lk ck,u=.agg #[.int .i64 k,.int .i64 z,.string s,.slice A li ci,.slice KA lk ck]/\RdX kr.ownBlock w (fun b=>w0.heap.size+3<=b/\b<w.heap.size/\ir.ownBlock≠some b) (fun j=>[Value.int .i64 k,.int .i64 z,.string s,.slice A li ci,.slice KA lk ck].getD j undef) t
structure ItR (el:ElT) (ts:List Tk) (n:Nat) (t:VT) (ts':List Tk) (m:Nat):Prop where
 eq:el ts n=.ok (t,ts',m)
 lt:n<m
 le:m<=4096
 len:ts'.length<ts.length
def IC (el:ElT) (w0:World) (p:Nat) (kr ir:Value) (ks:List ByteArray) (cells:List Value) (l:List VT) (ts:List Tk) (n:Nat) (u:Value) (w:World):Prop:=∃ t ts' m,ItR el ts n t ts' m/\ItV w0 w kr ir u t/\OSt w0 p kr ir ks cells l ks ts' m w
def IG (el:ElT) (w0:World) (p:Nat) (kr ir:Value) (ks:List ByteArray) (cells:List Value) (l:List VT) (ts:List Tk) (n:Nat) (u:Value) (w:World):Prop:=∃ t ts' m w1 k z s A li ci KA lk ck,ItR el ts n t ts' m/\u=.slice (some ⟨w1.heap.size,0,none⟩) 1 1/\w=w1.alloc (.cells #[.int .i64 k,.int .i64 z,.string s,.slice A li ci,.slice KA lk ck] 53 (0,0)) /\
 RdX kr.ownBlock w1 (fun b=>w0.heap.size+3<=b/\b<w1.heap.size/\ir.ownBlock≠some b) (fun j=>[Value.int .i64 k,.int .i64 z,.string s,.slice A li ci,.slice KA lk ck].getD j undef) t/\OSt w0 p kr ir ks cells l ks ts' m w1
def IE (el:ElT) (w0:World) (p:Nat) (kr ir:Value) (ks:List ByteArray) (cells:List Value) (l:List VT) (ts:List Tk) (n:Nat) (u:Value) (w:World):Prop:=∃ t ts' m w1 k z s A li ci KA lk ck,ItR el ts n t ts' m /\
 RdX kr.ownBlock w1 (fun b=>w0.heap.size+3<=b/\b<w1.heap.size/\ir.ownBlock≠some b) (fun j=>[Value.int .i64 k,.int .i64 z,.string s,.slice A li ci,.slice KA lk ck].getD j undef) t/\OSt w0 p kr ir ks cells l ks ts' m w1 /\
 w.ownsRow (w0.heap.size+3) 53 5 u (l.length+1) (cells++[.int .i64 k,.int .i64 z,.string s,.slice A li ci,.slice KA lk ck])/\(w1.alloc (.cells #[.int .i64 k,.int .i64 z,.string s,.slice A li ci,.slice KA lk ck] 53 (0,0))).grownBy w ir.ownBlock/\(u.ownBlock=ir.ownBlock∨∃ g,u.ownBlock=some g/\(w1.alloc (.cells #[.int .i64 k,.int .i64 z,.string s,.slice A li ci,.slice KA lk ck] 53 (0,0))).heap.size<=g)
def IFin (el:ElT) (w0:World) (p:Nat) (kr:Value) (ks:List ByteArray) (l:List VT) (ts:List Tk) (n:Nat) (w:World):Prop:=∃ t ts' m ir' cells',ItR el ts n t ts' m/\OSt w0 p kr ir' ks cells' (l++[t]) ks ts' m w
theorem IE.box {el:ElT} {w0 w:World} {p n:Nat} {kr ir u:Value} {ks:List ByteArray} {cells:List Value} {l:List VT} {ts:List Tk} (h:IE el w0 p kr ir ks cells l ts n u w):w.cell? ⟨w0.heap.size+1,3,none⟩=some ir/\w.frozen? ⟨w0.heap.size+1,3,none⟩=false:=by
 obtain ⟨t,ts',m,w1,k,z,s,A,li,ci,KA,lk,ck,_,_,ho,_,hg,_⟩:=h;have hz:=ho.size;have hb0:=(za1 w1 (.cells #[.int .i64 k,.int .i64 z,.string s,.slice A li ci,.slice KA lk ck] 53 (0,0)));have hb:Bk w (w0.heap.size+1) #[.int .i64 6,.int .i64 0,.string ⟨#[]⟩,ir,kr] 53 := (hg.block _ (by rw [World.size_alloc]; omega) (fun e=>by have:=(zf6 ho.els.own e.symm).1; omega)).trans ((hb0.block _ (by omega)).trans ho.box)
 exact ⟨hb.cell 3 _ rfl,hb.frz 3⟩
theorem zN2 (p lv:Nat) (el:ElT) (hlv:lv<=24) (hel:∀ (W:World) (ts:List Tk) (m:Nat),PSt W p ts m->m<=4096->Calls Tryz.prog 235 #[pP p,.int .i64 ((lv:Int)+1)] W (zg3 W p m ts.length (el ts m)))
  (w:World) (ts:List Tk) (n:Nat) (h:PSt w p ts n) (hn:n<=4096):Calls Tryz.prog 261 #[pP p,.int .i64 lv] w (zm0 w p n ts.length (obV el ts n)):=by
 have hpw:=h.lt;have hmk:∀ (t:TypeId) (w:World),(Instr.makeMap t none).run Tryz.prog w=.ok (.map (some w.heap.size)) (w.alloc (.map #[] 0)):=fun _ _=>rfl;have hHO:∃ w3:World,w3=((w.alloc (.cells #[.int .i64 0,.int .i64 0,.string ⟨#[]⟩,.slice none 0 0,.slice none 0 0] 53 (0,0))).alloc (.cells #[.int .i64 6,.int .i64 0,.string ⟨#[]⟩,.slice none 0 0,.slice none 0 0] 53 (0,0))).alloc (.map #[] 0)/\OSt w p (.slice none 0 0) (.slice none 0 0) [] [] [] [] ts n w3:=by
  refine ⟨_,rfl, ?_⟩
  have b1:=za1 w (.cells #[.int .i64 0,.int .i64 0,.string ⟨#[]⟩,.slice none 0 0,.slice none 0 0] 53 (0,0));have x1:=Bk.new w #[.int .i64 0,.int .i64 0,.string ⟨#[]⟩,.slice none 0 0,.slice none 0 0] 53;generalize hw1:w.alloc (.cells #[.int .i64 0,.int .i64 0,.string ⟨#[]⟩,.slice none 0 0,.slice none 0 0] 53 (0,0))=w1 at *;have s1:w1.heap.size=w.heap.size+1:=by rw [<- hw1,World.size_alloc]
  have b2:=za1 w1 (.cells #[.int .i64 6,.int .i64 0,.string ⟨#[]⟩,.slice none 0 0,.slice none 0 0] 53 (0,0));have x2:=Bk.new w1 #[.int .i64 6,.int .i64 0,.string ⟨#[]⟩,.slice none 0 0,.slice none 0 0] 53;generalize hw2:w1.alloc (.cells #[.int .i64 6,.int .i64 0,.string ⟨#[]⟩,.slice none 0 0,.slice none 0 0] 53 (0,0))=w2 at *;have s2:w2.heap.size=w.heap.size+2:=by rw [<- hw2,World.size_alloc,s1]
  have b3:=za1 w2 (.map #[] 0);have hm:SnAt (w2.alloc (.map #[] 0)) w2.heap.size []:=World.ownsMap_made _ _ _ _;rw [s1] at x2;rw [s2] at hm;have s3:(w2.alloc (.map #[] 0)).heap.size=w.heap.size+3:=by rw [World.size_alloc,s2]
  exact ⟨((h.stay b1).stay b2).stay b3,hm,x2.stay b3,⟨rfl,.inl ⟨rfl,rfl⟩⟩,Els.nil _ _ _ _ _,fun b hb=>(by cases hb),(x1.stay b2).stay b3,.of ((b1.trans (b2.mono b1.size)).trans (b3.mono (by omega))),hpw,by omega,fun s hs=>by simp at hs⟩
 obtain ⟨W3,hW3,hos⟩:=hHO;have HEL:=Lh hel;obtain ⟨R,hR⟩ : ∃ R,R=obP el (ts.length+1) [] [] ts n:=⟨_,rfl⟩;have HOV:Hid (obV el ts n=exB R fun q=>.ok (.mk 6 0 ⟨#[]⟩ q.2.1 q.1,q.2.2.1,q.2.2.2)):=Lh (by rw [hR]; rfl)
 have HV2:=Lh hR;have HOS:=Lh hos;have HW3:=Lh hW3;have hlvb:(lv:Int)<=24:=by omega
 have hgl:=h.good.len;generalize obV el ts n=RO at *;clear h hel hR hos hW3
 go_enter Tryz.func261, Tryz.ntmps261
 go_wp2_with fail
 rw [<- HW3.out]
 go_loopw [] (fun wr=>∃ (ks:List ByteArray) (l:List VT) (cells:List Value) (kr ir:Value) (tr:List Tk) (f m:Nat),ks.length=l.length/\l.length+n<=m/\m<=4096/\tr.length<=ts.length/\Hid (R=obP el f ks l tr m/\tr.length<f/\OSt w p kr ir ks cells l ks tr m wr)) (fun wr=>tlen p wr)
 case atStart=>exact ⟨[],[],[],_,_,ts,_,n,rfl,by simp,hn,Nat.le_refl _,Lh ⟨HV2.out,Nat.lt_succ_self _,HOS.out⟩⟩
 case round =>
  obtain ⟨ks,l,cells,kr,ir,tr,f,m,hkl,hlm,hm4,htl,hr⟩:=hrel;obtain ⟨f',hf'⟩ : ∃ f',f=f'+1:=⟨f-1,by have:=hr.out.2.1; omega⟩
  subst hf';have HKL:=Lh hkl;have HLM:=Lh hlm;have HM4:=Lh hm4;have HTL:=Lh htl;clear hkl hlm hm4 htl
  cases hsg:isSg [125] tr with
  | true =>
    have HD:Hid (R=.ok (ks,l,tr.tail,m)):=Lh (hr.out.1.trans (by rw [zr1,if_pos hsg]))
    have HC:=Lh (zb0 hr.out.2.2.pst ⟨#[125]⟩ _ hsg);have HLT:=Lh (zt2 hsg);clear hsg;go_wp2_with fail
    refine HC.out.mono ?_
    rintro e w2 ⟨rfl,hp2,ht2⟩;have hO2:OSt w p kr ir ks cells l ks tr.tail m w2:=hr.out.2.2.tws ht2 hp2;obtain ⟨A4,c4,hk4⟩:=zo6 hO2.kown;obtain ⟨A3,c3,hi3⟩:=zo6 hO2.els.own;subst hk4 hi3;have HO2:=Lh hO2;have x0:=hO2.box.cell 0 _ rfl;have x1:=hO2.box.cell 1 _ rfl;have x2:=hO2.box.cell 2 _ rfl;have x3:=hO2.box.cell 3 _ rfl;have x4:=hO2.box.cell 4 _ rfl;have z0:=hO2.res.cell 0 _ rfl;have z1:=hO2.res.cell 1 _ rfl;have z2:=hO2.res.cell 2 _ rfl;have z3:=hO2.res.cell 3 _ rfl;have z4:=hO2.res.cell 4 _ rfl;have g0:=hO2.res.frz 0;have g1:=hO2.res.frz 1;have g2:=hO2.res.frz 2;have g3:=hO2.res.frz 3;have g4:=hO2.res.frz 4;clear hp2 ht2 hO2;generalize hkz:ks.length=kz at *;generalize hlz:l.length=lz at *;have HKZ:=Lh hkz;have HLZ:=Lh hlz;clear hkz hlz;go_wp2_with fail
    have HZ:=Lh (((((HO2.out.res.setl (l:=[_,_,_,_,_]) 0 (.int .i64 6)).setl 1 (.int .i64 0)).setl 2 (.string ⟨#[]⟩)).setl 3 (.slice A3 lz c3)).setl 4 (.slice A4 kz c4));have y0:=HZ.out.cell 0 _ rfl;have y1:=HZ.out.cell 1 _ rfl;have y2:=HZ.out.cell 2 _ rfl;have y3:=HZ.out.cell 3 _ rfl;have y4:=HZ.out.cell 4 _ rfl;have hT:=HO2.out.tw;have hsz2:=HO2.out.size;refine bodyPost_ret (v:=.agg #[.int .i64 6,.int .i64 0,.string ⟨#[]⟩,.slice A3 lz c3,.slice A4 kz c4]) (by simp [results,Tryz.results261,go_sem,y0,y1,y2,y3,y4]) rfl (.inl ⟨.mk 6 0 ⟨#[]⟩ l ks,tr.tail,m,_,HOV.out.trans (za3 HD.out),rfl, ?_, ?_, ?_,by have:=HLM.out; omega,HM4.out,by have:=HLT.out; have:=HTL.out; omega⟩)
    ·have hkl:=HKL.out
     have hlz9:=HLZ.out;have hkz9:=HKZ.out;have hll:l.length<=5000:=by have:=HLM.out; have:=HM4.out; omega
     have hkk:ks.length<=5000:=by omega
     have hrd:RdS w2 (fun b=>w.heap.size+3<=b/\b<w2.heap.size) (.agg #[.int .i64 6,.int .i64 0,.string ⟨#[]⟩,.slice A3 lz c3,.slice A4 kz c4]) (.mk 6 0 ⟨#[]⟩ l ks):=RdS.ofObj (base:=w.heap.size+3) (fun b h1 h2=>⟨h1,h2⟩) HO2.out.kown HO2.out.els HO2.out.ksz hkk hll;refine RdS.kept hrd (fun b hb=>?_) (fun b hb=>⟨by have:=hb.1; omega,by simp [World.setCell]; exact hb.2⟩)
     have hne:b≠w.heap.size:=by have:=hb.1; omega
     rw [Below.heap_setCell _ _ _ _ hne,Below.heap_setCell _ _ _ _ hne,Below.heap_setCell _ _ _ _ hne,Below.heap_setCell _ _ _ _ hne,Below.heap_setCell _ _ _ _ hne]
    ·exact HO2.out.pst.same ((((((Below.refl (p+1) w2).setCell (p:=⟨w.heap.size,0,none⟩) (by show p+1<=w.heap.size; omega) _).setCell (p:=⟨w.heap.size,1,none⟩) (by show p+1<=w.heap.size; omega) _).setCell (p:=⟨w.heap.size,2,none⟩) (by show p+1<=w.heap.size; omega) _).setCell (p:=⟨w.heap.size,3,none⟩) (by show p+1<=w.heap.size; omega) _).setCell (p:=⟨w.heap.size,4,none⟩) (by show p+1<=w.heap.size; omega) _)
    ·exact ((((hT.setNew (Nat.le_refl _) 0 _).setNew (Nat.le_refl _) 1 _).setNew (Nat.le_refl _) 2 _).setNew (Nat.le_refl _) 3 _).setNew (Nat.le_refl _) 4 _
  | false =>
    have HD:Hid (R=exB (keyP ks tr) fun q=>exB (sgR [58] q.2) fun t2=>exB (el t2 m) fun r=>obP el f' (ks++[q.1]) (l++[r.1]) r.2.1 r.2.2):=Lh (hr.out.1.trans (by rw [zr1,if_neg (by rw [hsg]; decide)]))
    have HC:=Lh (zb0 hr.out.2.2.pst ⟨#[125]⟩ _ hsg);clear hsg;go_wp2_with fail
    refine HC.out.mono ?_
    rintro e wc ⟨rfl,hp2,ht2⟩;have HO2:Hid (OSt w p kr ir ks cells l ks tr m wc):=Lh (hr.out.2.2.tws ht2 hp2);clear hp2 ht2 HC;go_wp2_with fail
    have HOD:Hid (OSt w p kr ir ks cells l ks tr m wc.drew):=Lh (HO2.out.stay ((Below.refl _ _).drew));clear HO2;refine zh6 (pv:=pvK (w.heap.size+1) kr (pP p) (.map (some (w.heap.size+2)))) (ia:=1) (ib:=4) (ic:=5) (ie:=6) (ix:=8) (C:=KC w p kr ir ks cells l tr m) (G:=KG w p kr ir ks cells l tr m) (E:=KE w p kr ir ks cells l tr m) (F:=KF w p ir ks cells l tr m) (by kernel_rfl) (by kernel_rfl) (by kernel_rfl) ⟨by decide,by decide,by decide,by decide,by decide,by decide,by decide,by decide,by decide,by decide,rfl,rfl,rfl,rfl⟩ ?_ ?_ ?_ ?_ ?_ ?_ ?_ ?_ (by decide) ?_
    ·intro o ho; cases ho; exact ⟨⟨4,.data⟩,by simp,rfl,rfl⟩
    ·intro o ho; cases ho; exact ⟨⟨⟨5,.data⟩,by simp,rfl,rfl⟩,⟨1,.data⟩,by simp,rfl,rfl⟩
    ·intro o ho; cases ho; exact ⟨⟨6,.data⟩,by simp,rfl,rfl⟩
    ·intro i o ho n1 n2 n3 n4 a w2 hf had hw
     have hi:i<9:=(Array.getElem?_eq_some_iff.1 ho).1;have hc:i=0∨i=1∨i=2∨i=3∨i=7:=by omega
     rcases hc with rfl | rfl | rfl | rfl | rfl
     ·cases ho
      exact yb7 rfl (.tmp 5) rfl (K.Fr.slot hf 5 (by kernel_rfl)) ⟨rfl,fun x hx=>by cases hx; rfl⟩
     ·cases ho
      have h0:K.vof _ a 0=.pointer (some ⟨w.heap.size+1,4,none⟩):=had ⟨0,.data⟩ (by simp) rfl _ rfl
      have hcell:w2.cell? ⟨w.heap.size+1,4,none⟩=some kr:=by
       rcases hw with rfl | ⟨u,_,_,_,_,_,ho⟩ | ⟨u,_,_,_,_,_,_,_,ho⟩ | ⟨hn,_⟩
       ·exact HOD.out.row.1
       ·exact ho.row.1
       ·exact ho.row.1
       ·exact absurd rfl hn
      exact rg_ldS rfl (.tmp 12) rfl h0 hcell ⟨rfl,fun x hx=>by cases hx; rfl⟩
     ·cases ho
      exact zn2 rfl (.tmp 0) rfl (K.Fr.slot hf 0 (by kernel_rfl)) ⟨rfl,fun x hx=>by cases hx; rfl⟩
     ·cases ho
      exact zn2 rfl (.tmp 6) rfl (K.Fr.slot hf 6 (by kernel_rfl)) ⟨rfl,fun x hx=>by cases hx; rfl⟩
     ·cases ho
      exact yb7 rfl (.tmp 5) rfl (K.Fr.slot hf 5 (by kernel_rfl)) ⟨rfl,fun x hx=>by cases hx; rfl⟩
    ·intro o ho a hf had
     cases ho
     have h2:K.vof _ a 2=pP p:=had ⟨2,.data⟩ (by simp) rfl _ rfl
     have h3:K.vof _ a 3=.map (some (w.heap.size+2)):=had ⟨3,.data⟩ (by simp) rfl _ rfl
     refine ze1 rfl _ _ _ rfl en_key #[pP p,.map (some (w.heap.size+2))] (by rw [K.map2,show a.eval (.tmp 14)=_ from h2,show a.eval (.tmp 15)=_ from h3]) ?_
     refine (pkey_any ks HOD.out.pst HOD.out.sn (by omega) (by have:=HKL.out; have:=HLM.out; have:=HM4.out; omega)).mono ?_
     rintro e w4 (⟨x,ts',hre,rfl,hp,hs,hxz,hlt,ht⟩ | ⟨x,hre,rfl,ht⟩)
     ·refine .inl ⟨_,rfl,x,ts',rfl,hre,hlt,HOD.out.step ht hp hs (fun s hs=>?_)⟩
      rcases List.mem_append.1 hs with h | h
      ·exact HOD.out.ksz s h
      ·rw [List.mem_singleton.1 h]; exact hxz
     ·refine .inr ⟨_,rfl, ?_⟩
      have hD9:=HD.out.trans (za7 hre);have hT9:Tw p w.heap.size w w4:=HOD.out.tw.trans ⟨ht.os,ht.tape,ht.output,ht.size,fun k hk hkp=>ht.block k (by have:=HOD.out.size; omega) hkp (by omega)⟩
      exact And.intro (hf.1.trans rfl) (.inr ⟨x,HOV.out.trans (za7 hD9),rfl,hT9⟩)
    ·intro o ho a w2 hf ⟨x,ts',hu,hre,hlt,hos⟩
     cases ho
     exact rg_makeS rfl (.tmp 16) rfl hu ⟨x,ts',_,rfl,zr9 _ _ _ 0 (by simp),hre,hlt,hos.stay (za1 _ _)⟩
    ·intro o ho a w2 hf h1 ⟨x,ts',b,hu,hcb,hre,hlt,hos⟩
     cases ho
     refine zR5 rfl (.tmp 13) (.tmp 17) _ rfl (w.heap.size+3) 9 _ 1 16 Tryz.underlying33 infoS rfl (by decide) kr ks.length _ (h1 _ rfl) hos.kown ⟨b,0,none⟩ [.string x] hu rfl ?_ (by simp [Value.oneCell']) (by unfold maxLen; have:=HKL.out; have:=HLM.out; have:=HM4.out; omega) (by have:=HKL.out; have:=HLM.out; have:=HM4.out; omega) hos.size ?_
     ·intro j u hj
      cases j with
      | zero=>cases hj; rw [Addr.add_mid]; exact hcb
      | succ j=>simp at hj
     ·exact fun v' w' q1 q2 q3=>⟨x,ts',w2,hre,hlt,hos,q1,q2,q3⟩
    ·intro o ho a w2 hf had hE
     cases ho
     have h7:K.vof _ a 7=.pointer (some ⟨w.heap.size+1,4,none⟩):=had ⟨7,.data⟩ (by simp) rfl _ rfl
     obtain ⟨q1,q2⟩:=hE.box;obtain ⟨x,ts',w1,hre,hlt,hos,hown,hgr,hfr⟩:=hE;exact yb6 rfl (.tmp 19) (.tmp 18) rfl h7 rfl (by obtain ⟨A,c,e⟩:=zo6 hown; exact ⟨A,_,c,e⟩) q1 q2 ⟨x,ts',_,hre,hlt,hos.pushK hown hgr hfr⟩
    intro a w5 hf ⟨x,ts3,kr3,hkey,hlt3,hos3⟩;have ha:=K.zh8 hf [12,13,14,15,16,17,18,19] (by kernel_rfl)
    generalize (fun d=>a.tmps.getD d undef)=f9 at ha;subst ha;clear hf;simp only [K.over,List.foldl_cons,List.foldl_nil,Act.put,List.setIfInBounds_toArray,List.set_cons_succ,List.set_cons_zero]
    generalize f9 12=u12;generalize f9 13=u13;generalize f9 14=u14;generalize f9 15=u15;generalize f9 16=u16;generalize f9 17=u17;generalize f9 18=u18;generalize f9 19=u19;have HD3:Hid (R=exB (sgR [58] ts3) fun t2=>exB (el t2 m) fun r=>obP el f' (ks++[x]) (l++[r.1]) r.2.1 r.2.2):=Lh (HD.out.trans (za3 hkey));have HO5:=Lh hos3;have HL3:=Lh hlt3;clear hkey hlt3 hos3 HOD;go_wp2_with fail
    refine (zd9 HO5.out.pst ⟨#[58]⟩).mono ?_
    rintro e w6 hpost;rcases hpost with ⟨t2,hre,rfl,hp,ht⟩ | ⟨x6,hre,rfl,ht⟩
    rotate_left
    ·have hD9:=HD3.out.trans (za7 hre)
     have hT9:=HO5.out.tw.step HO5.out.tw.size ht;exact ⟨rfl,.inr ⟨x6,HOV.out.trans (za7 hD9),rfl,hT9⟩⟩
    have HD4:Hid (R=exB (el t2 m) fun r=>obP el f' (ks++[x]) (l++[r.1]) r.2.1 r.2.2):=Lh (HD3.out.trans (za3 hre));have HO6:Hid (OSt w p kr3 ir (ks++[x]) cells l (ks++[x]) t2 m w6):=Lh (HO5.out.tws ht hp);have HL4:Hid (t2.length<tr.length):=Lh (by have:=zl4 hre; have:=HL3.out; omega)
    clear hre hp ht;go_wp2_with fail
    have HOD:Hid (OSt w p kr3 ir (ks++[x]) cells l (ks++[x]) t2 m w6.drew):=Lh (HO6.out.stay ((Below.refl _ _).drew));clear HO6;refine zh6 (pv:=pvI (w.heap.size+1) ir (pP p) (.int .i64 lv) (.int .i64 ((lv:Int)+1))) (ia:=1) (ib:=5) (ic:=6) (ie:=7) (ix:=9) (C:=IC el w p kr3 ir (ks++[x]) cells l t2 m) (G:=IG el w p kr3 ir (ks++[x]) cells l t2 m) (E:=IE el w p kr3 ir (ks++[x]) cells l t2 m) (F:=IFin el w p kr3 (ks++[x]) l t2 m) (by kernel_rfl) (by kernel_rfl) (by kernel_rfl) ⟨by decide,by decide,by decide,by decide,by decide,by decide,by decide,by decide,by decide,by decide,rfl,rfl,rfl,rfl⟩ ?_ ?_ ?_ ?_ ?_ ?_ ?_ ?_ (by decide) ?_
    ·intro o ho; cases ho; exact ⟨⟨5,.data⟩,by simp,rfl,rfl⟩
    ·intro o ho; cases ho; exact ⟨⟨⟨6,.data⟩,by simp,rfl,rfl⟩,⟨1,.data⟩,by simp,rfl,rfl⟩
    ·intro o ho; cases ho; exact ⟨⟨7,.data⟩,by simp,rfl,rfl⟩
    ·intro i o ho n1 n2 n3 n4 a w2 hf had hw
     have hi:i<10:=(Array.getElem?_eq_some_iff.1 ho).1;have hc:i=0∨i=1∨i=2∨i=3∨i=4∨i=8:=by omega
     rcases hc with rfl | rfl | rfl | rfl | rfl | rfl
     ·cases ho
      exact yb8 rfl (.tmp 5) rfl (K.Fr.slot hf 5 (by kernel_rfl)) ⟨rfl,fun x hx=>by cases hx; rfl⟩
     ·cases ho
      have h0:K.vof _ a 0=.pointer (some ⟨w.heap.size+1,3,none⟩):=had ⟨0,.data⟩ (by simp) rfl _ rfl
      have hcell:w2.cell? ⟨w.heap.size+1,3,none⟩=some ir:=by
       rcases hw with rfl | ⟨u,_,_,_,_,_,ho⟩ | ⟨u,_,_,_,w1,_,_,_,_,_,_,_,_,_,_,_,rfl,_,ho⟩ | ⟨hn,_⟩
       ·exact HOD.out.row.2
       ·exact ho.row.2
       ·exact (ho.stay (za1 _ _)).row.2
       ·exact absurd rfl hn
      exact rg_ldV rfl (.tmp 22) rfl h0 hcell ⟨rfl,fun x hx=>by cases hx; rfl⟩
     ·cases ho
      exact zn2 rfl (.tmp 0) rfl (K.Fr.slot hf 0 (by kernel_rfl)) ⟨rfl,fun x hx=>by cases hx; rfl⟩
     ·cases ho
      exact zn2 rfl (.tmp 1) rfl (K.Fr.slot hf 1 (by kernel_rfl)) ⟨rfl,fun x hx=>by cases hx; rfl⟩
     ·cases ho
      have h3:K.vof _ a 3=.int .i64 lv:=had ⟨3,.data⟩ (by simp) rfl _ rfl
      exact rg_add rfl (.tmp 25) (n:=lv) (by omega) rfl h3 ⟨rfl,fun x hx=>by cases hx; rfl⟩
     ·cases ho
      exact yb8 rfl (.tmp 5) rfl (K.Fr.slot hf 5 (by kernel_rfl)) ⟨rfl,fun x hx=>by cases hx; rfl⟩
    ·intro o ho a hf had
     cases ho
     have h2:K.vof _ a 2=pP p:=had ⟨2,.data⟩ (by simp) rfl _ rfl
     have h4:K.vof _ a 4=.int .i64 ((lv:Int)+1):=had ⟨4,.data⟩ (by simp) rfl _ rfl
     refine ze1 rfl _ _ _ rfl yh2 #[pP p,.int .i64 ((lv:Int)+1)] (by rw [K.map2,show a.eval (.tmp 24)=_ from h2,show a.eval (.tmp 26)=_ from h4]) ?_
     refine (HEL.out _ t2 m HOD.out.pst HM4.out).mono ?_
     rintro e w4 (⟨t,ts',m',v,hre,rfl,hx,hp,ht,hmm,hm4',hlt⟩ | ⟨x,hre,rfl,ht⟩)
     ·obtain ⟨k,z,s,A,li,ci,KA,lk,ck,hv1⟩:=RdS.form hx
      subst hv1;refine .inl ⟨_,rfl,t,ts',m',⟨hre,hmm,hm4',hlt⟩,⟨k,z,s,A,li,ci,KA,lk,ck,rfl, ?_⟩,HOD.out.tws ht hp⟩
      have hzz:=HOD.out.size;exact RdS.kept hx (fun _ _=>rfl) (fun b hb=>⟨⟨by omega,hb.2,fun e=>by have:=(zf6 HOD.out.els.own e).2; omega⟩,fun e=>by have:=(zf6 HOD.out.kown e).2; omega⟩)
     ·refine .inr ⟨_,rfl, ?_⟩
      have hD9:=HD4.out.trans (za7 hre);have hT9:Tw p w.heap.size w w4:=HOD.out.tw.step HOD.out.tw.size ht;exact And.intro (hf.1.trans rfl) (.inr ⟨x,HOV.out.trans (za7 hD9),rfl,hT9⟩)
    ·intro o ho a w2 hf ⟨t,ts',m',hit,⟨k,z,s,A,li,ci,KA,lk,ck,hu,hx⟩,hos⟩
     cases ho
     exact rg_makeV rfl (.tmp 27) rfl hu ⟨t,ts',m',w2,k,z,s,A,li,ci,KA,lk,ck,hit,rfl,rfl,hx,hos⟩
    ·intro o ho a w2 hf h1 ⟨t,ts',m',w1,k,z,s,A,li,ci,KA,lk,ck,hit,hu,hw2,hx,hos⟩
     cases ho
     subst hw2;have b1:=za1 w1 (.cells #[.int .i64 k,.int .i64 z,.string s,.slice A li ci,.slice KA lk ck] 53 (0,0));refine zR5 rfl (.tmp 23) (.tmp 28) _ rfl (w.heap.size+3) 53 _ 5 80 Tryz.underlying51 zS2 rfl (by decide) ir l.length _ (h1 _ rfl) (ze4 hos.els.own (fun g hg=>b1.block g hg)) ⟨w1.heap.size,0,none⟩ [.int .i64 k,.int .i64 z,.string s,.slice A li ci,.slice KA lk ck] hu rfl (ze5 w1 _ _) ?_ (by unfold maxLen; have:=HKL.out; have:=HLM.out; have:=HM4.out; omega) (by have:=HKL.out; have:=HLM.out; have:=HM4.out; omega) (Nat.le_trans hos.size b1.size) ?_
     ·intro u hu; simp only [List.mem_cons,List.not_mem_nil,or_false] at hu; rcases hu with rfl | rfl | rfl | rfl | rfl <;> rfl
     ·exact fun v' w' q1 q2 q3=>⟨t,ts',m',w1,k,z,s,A,li,ci,KA,lk,ck,hit,hx,hos,q1,q2,q3⟩
    ·intro o ho a w2 hf had hE
     cases ho
     have h7:K.vof _ a 8=.pointer (some ⟨w.heap.size+1,3,none⟩):=had ⟨8,.data⟩ (by simp) rfl _ rfl
     obtain ⟨q1,q2⟩:=hE.box;obtain ⟨t,ts',m',w1,k,z,s,A,li,ci,KA,lk,ck,hit,hx,hos,hown,hgr,hfr⟩:=hE;exact yb5 rfl (.tmp 30) (.tmp 29) rfl h7 rfl (by obtain ⟨A,c,e⟩:=zo6 hown; exact ⟨A,_,c,e⟩) q1 q2 ⟨t,ts',m',_,_,hit,hos.pushI (za1 _ _) hx (fun j hj=>rfl) hown hgr hfr⟩
    intro a w7 hf ⟨t,ts7,m7,ir7,cells7,hit,hos7⟩;have ha:=K.zh8 hf [22,23,24,25,26,27,28,29,30] (by kernel_rfl)
    generalize (fun d=>a.tmps.getD d undef)=f9 at ha;subst ha;clear hf;simp only [K.over,List.foldl_cons,List.foldl_nil,Act.put,List.setIfInBounds_toArray,List.set_cons_succ,List.set_cons_zero]
    generalize f9 22=u22;generalize f9 23=u23;generalize f9 24=u24;generalize f9 25=u25;generalize f9 26=u26;generalize f9 27=u27;generalize f9 28=u28;generalize f9 29=u29;generalize f9 30=u30;have HD7:Hid (R=obP el f' (ks++[x]) (l++[t]) ts7 m7):=Lh (HD4.out.trans (za3 hit.eq));have HO7:=Lh hos7;have HIT:=Lh hit;clear hit hos7 HOD
    go_roundw
    case rel=>exact ⟨_,_,_,_,_,_,_,_,_,_,_,_,_,_,_,_,_,_,_,_,_,_,⟨ks++[x],l++[t],cells7,kr3,ir7,ts7,f',m7,by rw [List.length_append,List.length_append,HKL.out]; rfl,by have:=HLM.out; have:=HIT.out.lt; rw [List.length_append,List.length_singleton]; omega,HIT.out.le,by have:=HIT.out.len; have:=HL4.out; have:=HTL.out; omega,Lh ⟨HD7.out,by have:=HIT.out.len; have:=HL4.out; have:=hr.out.2.1; omega,HO7.out⟩⟩,rfl⟩
    case measure=>rw [HO7.out.pst.tlen,hr.out.2.2.pst.tlen]; have:=HIT.out.len; have:=HL4.out; omega
def kdX (x:ByteArray):Nat:=if x=⟨#[116,121,112,101]⟩ then 1 else if x=⟨#[105,110,116,101,114,102,97,99,101]⟩ then 2 else if x=⟨#[117,110,105,111,110]⟩ then 3 else if x=⟨#[101,110,117,109]⟩ then 4 else if x=⟨#[105,110,112,117,116]⟩ then 5 else 0
def kdR (t:Tk):Nat:=if t.1=2 then kdX ⟨t.2.1.toArray⟩ else 0
theorem zN4 (t:Tk) (w:World):Calls Tryz.prog 53 #[tkV t] w (fun e w'=>e=.returned (.int .i64 (kdR t))/\Below w.heap.size w w'):=by
 obtain ⟨k,tx,i⟩:=t;have HV:Hid (kdR (k,tx,i)=if k=2 then kdX ⟨tx.toArray⟩ else 0):=Lh rfl
 have HB0:=Lh (za1 w (.cells #[.int .i64 k,.string ⟨tx.toArray⟩,.int .i64 i] 99 (0,0)));have HK:Hid (Bk (w.alloc (.cells #[.int .i64 k,.string ⟨tx.toArray⟩,.int .i64 i] 99 (0,0))) w.heap.size #[.int .i64 k,.string ⟨tx.toArray⟩,.int .i64 i] 99):=Lh (Bk.new _ _ _);unfold tkV;show Calls _ _ #[.agg #[.int .i64 k,.string ⟨tx.toArray⟩,.int .i64 i]] _ _
 generalize (⟨tx.toArray⟩ : ByteArray)=tb at *;generalize kdR (k,tx,i)=R at *;by_cases hk:k=2
 rotate_left
 ·have hR:R=0:=by rw [HV.out,if_neg hk]
  subst hR
  go_enter Tryz.func53, Tryz.ntmps53
  go_wp2_with fail
  refine bodyPost_ret (v:=.int .i64 0) (by simp [results,Tryz.results53,go_sem]) rfl ⟨rfl,HB0.out⟩
 subst hk;have HV1:Hid (R=kdX tb):=Lh (by rw [HV.out,if_pos rfl])
 have HKX:Hid (kdX tb=if tb=⟨#[116,121,112,101]⟩ then 1 else if tb=⟨#[105,110,116,101,114,102,97,99,101]⟩ then 2 else if tb=⟨#[117,110,105,111,110]⟩ then 3 else if tb=⟨#[101,110,117,109]⟩ then 4 else if tb=⟨#[105,110,112,117,116]⟩ then 5 else 0):=Lh rfl
 have e0:=nm_eq tb [116,121,112,101];have e1:=nm_eq tb [105,110,116,101,114,102,97,99,101];have e2:=nm_eq tb [117,110,105,111,110];have e3:=nm_eq tb [101,110,117,109];have e4:=nm_eq tb [105,110,112,117,116];generalize kdX tb=Q at *;clear HV;by_cases h0:tb=⟨#[116,121,112,101]⟩
 ·have hR:R=1:=by rw [HV1.out,HKX.out,if_pos h0]
  subst hR;rw [decide_eq_true h0] at e0;clear h0 HV1 HKX e1 e2 e3 e4
  go_enter Tryz.func53, Tryz.ntmps53
  go_wp2_with fail
  refine bodyPost_ret (v:=.int .i64 1) (by simp [results,Tryz.results53,go_sem]) rfl ⟨rfl,HB0.out⟩
 rw [decide_eq_false h0] at e0;by_cases h1:tb=⟨#[105,110,116,101,114,102,97,99,101]⟩
 ·have hR:R=2:=by rw [HV1.out,HKX.out,if_neg h0,if_pos h1]
  subst hR;rw [decide_eq_true h1] at e1;clear h1 HV1 HKX h0 e2 e3 e4
  go_enter Tryz.func53, Tryz.ntmps53
  go_wp2_with fail
  refine bodyPost_ret (v:=.int .i64 2) (by simp [results,Tryz.results53,go_sem]) rfl ⟨rfl,HB0.out⟩
 rw [decide_eq_false h1] at e1;by_cases h2:tb=⟨#[117,110,105,111,110]⟩
 ·have hR:R=3:=by rw [HV1.out,HKX.out,if_neg h0,if_neg h1,if_pos h2]
  subst hR;rw [decide_eq_true h2] at e2;clear h2 HV1 HKX h0 h1 e3 e4
  go_enter Tryz.func53, Tryz.ntmps53
  go_wp2_with fail
  refine bodyPost_ret (v:=.int .i64 3) (by simp [results,Tryz.results53,go_sem]) rfl ⟨rfl,HB0.out⟩
 rw [decide_eq_false h2] at e2;by_cases h3:tb=⟨#[101,110,117,109]⟩
 ·have hR:R=4:=by rw [HV1.out,HKX.out,if_neg h0,if_neg h1,if_neg h2,if_pos h3]
  subst hR;rw [decide_eq_true h3] at e3;clear h3 HV1 HKX h0 h1 h2 e4
  go_enter Tryz.func53, Tryz.ntmps53
  go_wp2_with fail
  refine bodyPost_ret (v:=.int .i64 4) (by simp [results,Tryz.results53,go_sem]) rfl ⟨rfl,HB0.out⟩
 rw [decide_eq_false h3] at e3;by_cases h4:tb=⟨#[105,110,112,117,116]⟩
 ·have hR:R=5:=by rw [HV1.out,HKX.out,if_neg h0,if_neg h1,if_neg h2,if_neg h3,if_pos h4]
  subst hR;rw [decide_eq_true h4] at e4;clear h4 HV1 HKX h0 h1 h2 h3
  go_enter Tryz.func53, Tryz.ntmps53
  go_wp2_with fail
  refine bodyPost_ret (v:=.int .i64 5) (by simp [results,Tryz.results53,go_sem]) rfl ⟨rfl,HB0.out⟩
 rw [decide_eq_false h4] at e4;have hR:R=0:=by rw [HV1.out,HKX.out,if_neg h0,if_neg h1,if_neg h2,if_neg h3,if_neg h4]
 subst hR;clear HV1 HKX h0 h1 h2 h3 h4
 go_enter Tryz.func53, Tryz.ntmps53
 go_wp2_with fail
 refine bodyPost_ret (v:=.int .i64 0) (by simp [results,Tryz.results53,go_sem]) rfl ⟨rfl,HB0.out⟩
end Go.Proofs.YtfgelheiknmjgaaGreatDoor
