
/-
 Texts joined: G3 H2 I1 I2.
-/
import Derived.Test.YtfgelheiknmjgaaGreatDoorZt21
set_option maxRecDepth 1000000
set_option maxHeartbeats 8000000
namespace Go.Proofs.YtfgelheiknmjgaaGreatDoor
open Go.RowKit Go.Maps
def SnAt (w:World) (b:Nat) (keys:List ByteArray):Prop:=w.ownsMap Tryz.prog 9 (plainElem Tryz.prog 4) b keys.length (setD keys)
theorem SnAt.same {w w':World} {b:Nat} {keys:List ByteArray} (h:SnAt w b keys) (hb:w'.heap[b]?=w.heap[b]?):SnAt w' b keys:=by
 obtain ⟨es,clock,h1,h2⟩:=h;exact ⟨es,clock,hb.trans h1,h2⟩
theorem SnAt.lt {w:World} {b:Nat} {keys:List ByteArray} (h:SnAt w b keys):b<w.heap.size:=World.ownsMap.lt h
def keyP (ks:List ByteArray) (ts:List Tk):Except Er (ByteArray × List Tk):=exB (nmR ts) fun q=>if q.1∈ks then .error (erR ts 7) else .ok q
structure Tw2 (p m:Nat) (w w':World):Prop where
 os:w'.os=w.os
 tape:w'.tape=w.tape
 output:w'.output=w.output
 size:w.heap.size<=w'.heap.size
 block:∀ k,k<w.heap.size->k≠p->k≠m->w'.heap[k]?=w.heap[k]?
theorem Tw2.of {p m:Nat} {w w':World} (h:Tw p w.heap.size w w'):Tw2 p m w w':=⟨h.os,h.tape,h.output,h.size,fun k h1 h2 _=>h.block k h1 h2⟩
def KeyPost (w:World) (p mb n len:Nat) (ks:List ByteArray) (r:Except Er (ByteArray × List Tk)) (e:Ending) (w':World):Prop :=
 (∃ x ts,r=.ok (x,ts)/\e=.returned (.string x)/\PSt w' p ts n/\SnAt w' mb (ks++[x])/\x.size<=1000000/\ts.length<len/\Tw2 p mb w w')∨(∃ x,r=.error x/\e=badV x/\Tw2 p mb w w')
theorem pkey_any {w:World} {p mb:Nat} {ts:List Tk} {n:Nat} (ks:List ByteArray) (h:PSt w p ts n) (hm:SnAt w mb ks) (hpm:p<mb) (hsl:ks.length<=5000):Calls Tryz.prog 275 #[pP p,.map (some mb)] w (KeyPost w p mb n ts.length ks (keyP ks ts)):=by
 have HP:=Lh h;have HM:=Lh hm;have hmb:=hm.lt;have hpw:=h.lt;have HV:Hid (keyP ks ts=exB (nmR ts) fun q=>if q.1∈ks then .error (erR ts 7) else .ok q):=Lh rfl;obtain ⟨⟨k,tx,i⟩,r,hts⟩:=h.good.ne;have HE7:Hid (erR ts 7=(i,7)):=Lh (by rw [hts]; rfl);have hnx:Calls Tryz.prog 52 #[pP p] w fun e w'=>e=.returned (.agg #[.int .i64 k,.string ⟨tx.toArray⟩,.int .i64 i])/\Below w.heap.size w w':=by
  have:=zh4 h;rw [hts] at this;exact this
 have HN:=Lh hnx;clear h hm hnx hts;generalize keyP ks ts=R at *;generalize (⟨tx.toArray⟩ : ByteArray)=tb at *
 go_enter Tryz.func275, Tryz.ntmps275
 go_wp2_with fail
 refine HN.out.mono ?_
 rintro e w1 ⟨rfl,hb⟩;have b2:Below w.heap.size w (w1.alloc (.cells #[.int .i64 k,.string tb,.int .i64 i] 99 (0,0))):=hb.trans ((za0 _ _).mono hb.size);have HB2:=Lh b2;have HK:Hid (Bk (w1.alloc (.cells #[.int .i64 k,.string tb,.int .i64 i] 99 (0,0))) w1.heap.size #[.int .i64 k,.string tb,.int .i64 i] 99):=Lh (Bk.new _ _ _);have hs1:=hb.size;clear hb b2;go_wp2_with fail;refine (zd6 (HP.out.stay HB2.out)).mono ?_
 rintro e w3 (⟨x,ts3,v,hr,rfl,⟨rfl,hxz⟩,hp,ht⟩ | ⟨x,hr,rfl,ht⟩);rotate_left
 ·have HT:=Lh ((Tw.of HB2.out:Tw p _ w _).step HB2.out.size ht)
  exact ⟨rfl,.inr ⟨_,HV.out.trans (za6 hr),rfl,.of HT.out⟩⟩
 have hlt3:=yk4 HP.out.good hr;have HV2:Hid (R=if x∈ks then .error (erR ts 7) else .ok (x,ts3)):=Lh (HV.out.trans (za2 hr));have HT3:=Lh ((Tw.of HB2.out:Tw p _ w _).step HB2.out.size ht);have HP3:=Lh hp;have hk3:=HK.out.far ht (by omega);have HM3:=Lh (HM.out.same (HT3.out.block mb hmb (by omega)));have hs3:=HT3.out.size;have HXZ:=Lh hxz;have hat:=setD_at ks x;have HAT:=Lh hat
 have HK3:=Lh hk3;have k0:=hk3.cell 0 _ rfl;have k1:=hk3.cell 1 _ rfl;have k2:=hk3.cell 2 _ rfl;clear hr hp ht hk3 hat hxz;by_cases hin:x∈ks
 ·have hy:decide (x∈ks)=true:=by simpa using hin
  rw [hy] at HAT;have HV3:Hid (R=.error (i,7)):=Lh (HV2.out.trans (by rw [if_pos hin,HE7.out]));clear hin hy;clear k0 k1 k2;go_wp2_with (at_lookup; refine zi3 _ rfl _ _ 275 rfl 9 4 ym2 Tryz.underlying275 Tryz.underlying4 (zeroB _) mb ks.length _ rfl HM3.out _ _ rfl (WideMaps.keyOf_string_mk Tryz.underlying9 (by have:=HXZ.out; unfold maxLen; omega)) _ HAT.out ?_);exact zx9 14 5 (k,tb.data.toList,i) HP3.out HK3.out (by kernel_rfl) rfl rfl (by kernel_rfl) (by kernel_rfl) fun a w5 hf hb=>⟨hf.1.trans rfl,.inr ⟨_,HV3.out,rfl,.of (HT3.out.step HT3.out.size (.of hb))⟩⟩
 ·have hy:decide (x∈ks)=false:=by simpa using hin
  rw [hy] at HAT;have HV3:Hid (R=.ok (x,ts3)):=Lh (HV2.out.trans (by rw [if_neg hin]));clear hin hy k0 k1 k2;go_wp2_with (first
   | (at_lookup; refine zi3 _ rfl _ _ 275 rfl 9 4 ym2 Tryz.underlying275 Tryz.underlying4 (zeroB _) mb ks.length _ rfl HM3.out _ _ rfl (WideMaps.keyOf_string_mk Tryz.underlying9 (by have:=HXZ.out; unfold maxLen; omega)) _ HAT.out ?_)
   | (at_mapUpdate; refine wpList_mapUpdate_own _ rfl _ _ _ 275 rfl 9 4 ym2 Tryz.underlying275 _ mb ks.length _ rfl HM3.out (by unfold maxLen; omega) _ _ _ rfl rfl (WideMaps.keyOf_string_mk Tryz.underlying9 (by have:=HXZ.out; unfold maxLen; omega)) _ [] (plainElem_bool Tryz.underlying4 true) ?_; intro w5 hown5 hgrow5))
  have hm5:SnAt w5 mb (ks++[x]):=by
   unfold SnAt;rw [yf0,List.length_append];exact hown5
  have hs5:=hgrow5.size;have hb5:∀ k,k<w3.heap.size->k≠mb->w5.heap[k]?=w3.heap[k]?:=fun k h1 h2=>hgrow5.block k h1 (by intro e; cases e; exact h2 rfl);have hbl5:Below mb w3 w5:=⟨hgrow5.os,hgrow5.tape,hgrow5.output,hgrow5.size,fun k hk=>hb5 k (by have:=HM3.out.lt; omega) (by omega)⟩;have HP5:=Lh (HP3.out.same (hbl5.mono (by omega)));have HM5:=Lh hm5;have HT5:Hid (Tw2 p mb w w5):=Lh ⟨hgrow5.os.trans HT3.out.os,hgrow5.tape.trans HT3.out.tape,hgrow5.output.trans HT3.out.output,by omega,fun k h1 h2 h3=>(hb5 k (by omega) h3).trans (HT3.out.block k h1 h2)⟩;clear hown5 hgrow5 hm5 hb5 hbl5;go_ret;exact .inl ⟨x,ts3,HV3.out,rfl,HP5.out,HM5.out,HXZ.out,hlt3,HT5.out⟩
end Go.Proofs.YtfgelheiknmjgaaGreatDoor
namespace Go.Proofs.YtfgelheiknmjgaaGreatDoor
open Go.RowKit
def Ph4 (W1:World) (p mb n:Nat) (ks:List ByteArray) (ts:List Tk) (x:ByteArray) (w:World):Prop :=
 ∃ ts',keyP ks ts=.ok (x,ts')/\PSt w p ts' n/\SnAt w mb (ks++[x])/\x.size<=1000000/\ts'.length<ts.length/\Tw2 p mb W1 w
def Ph6 (W1:World) (p mb n base:Nat) (ks:List ByteArray) (ts:List Tk) (row:Value) (x:ByteArray) (u:Value) (w:World):Prop :=
 ∃ w4,Ph4 W1 p mb n ks ts x w4/\w.ownsRow base 9 1 u (ks.length+1) (ks.map Value.string++[.string x])/\(w4.alloc (.cells #[.string x] 9 (0,0))).grownBy w row.ownBlock/\(u.ownBlock=row.ownBlock∨∃ g,u.ownBlock=some g/\(w4.alloc (.cells #[.string x] 9 (0,0))).heap.size<=g)
structure KJ (W1:World) (p mb vb n base:Nat) (ks:List ByteArray) (ts:List Tk) (row:Value) (d:Nat->Bool) (v:Nat->Value) (w:World):Prop where
 v0:d 0=true->v 0=.pointer (some ⟨vb,4,none⟩)
 v1:d 1=true->v 1=row
 v2:d 2=true->v 2=pP p
 v3:d 3=true->v 3=.map (some mb)
 v7:d 7=true->v 7=.pointer (some ⟨vb,4,none⟩)
 o5:d 5=true->d 4=true
 o6:d 6=true->d 5=true/\d 1=true
 o8:d 8=true->d 6=true
 f0:d 4=false->w=W1
 f4:d 4=true->d 5=false->∃ x,v 4=.string x/\Ph4 W1 p mb n ks ts x w
 f5:d 5=true->d 6=false->∃ x w4,v 5=.slice (some ⟨w4.heap.size,0,none⟩) 1 1/\Ph4 W1 p mb n ks ts x w4/\w=w4.alloc (.cells #[.string x] 9 (0,0))
 f6:d 6=true->d 8=false->∃ x,Ph6 W1 p mb n base ks ts row x (v 6) w
 f8:d 8=true->∃ x u w6,Ph6 W1 p mb n base ks ts row x u w6/\w=w6.setCell ⟨vb,4,none⟩ u
def RdX (o:Option Nat):RelS VT:=fun w S f t=>RdC w (fun b=>S b/\o≠some b) f t
theorem RdX.stays (o:Option Nat):StayS (RdX o):=⟨fun h hb hs=>RdC.stays.kept h (fun b hh=>hb b hh.1) (fun b hh=>⟨hs b hh.1,hh.2⟩)⟩
theorem RdX.cong (o:Option Nat) {k:Nat} (hk:5<=k) (W:World) (S:Nat->Prop) (g g':Nat->Value) (y:VT) (h:∀ j,j<k->g j=g' j) (hr:RdX o W S g y):RdX o W S g' y:=RdC.cong hk W _ g g' y h hr
theorem Els.swap {k:Nat} {T:TypeId} {o o':Option Nat} {w w':World} {base:Nat} {v:Value} {cells:List Value} {xs:List VT} (h:Els T k (RdX o) w base v cells xs)
  (hb:∀ b,base<=b->b<w.heap.size->o≠some b->w'.heap[b]?=w.heap[b]?) (hs:w.heap.size<=w'.heap.size) (hv:∀ b,v.ownBlock=some b->o≠some b) (ho:∀ b,b<w.heap.size->o≠some b->o'≠some b):Els T k (RdX o') w' base v cells xs:=by
 refine ⟨⟨h.own.1,h.own.2.imp id ?_⟩,fun i x hx=>RdC.stays.kept (h.els i x hx) (fun b hh=>hb b hh.1.1 hh.1.2.1 hh.2) (fun b hh=>⟨⟨hh.1.1,Nat.lt_of_lt_of_le hh.1.2.1 hs,hh.1.2.2⟩,ho b hh.1.2.1 hh.2⟩)⟩
 rintro ⟨g,cap,cur,rfl,e2,e3,r⟩;have hg:=zf9 h.own (g:=g) rfl;exact ⟨g,cap,cur,rfl,e2,(hb g hg.1 hg.2 (hv g rfl)).trans e3,r⟩
theorem yi7 {w:World} {base:Nat} {e:TypeId} {size:Nat} {v:Value} {n:Nat} {xs:List Value} (h:w.ownsRow base e size v n xs):∃ A c,v=.slice A n c:=by
 rcases h.2 with ⟨rfl,hz⟩ | ⟨g,cap,cur,rfl,_⟩
 ·exact ⟨none,0,by rw [hz]⟩
 ·exact ⟨_,_,rfl⟩
def zeroV5:Array Value:=#[.int .i64 0,.int .i64 0,.string ⟨#[]⟩,.slice none 0 0,.slice none 0 0]
structure OSt (w0:World) (p:Nat) (kr ir:Value) (ks:List ByteArray) (cells:List Value) (l:List VT) (sk:List ByteArray) (ts:List Tk) (n:Nat) (w:World):Prop where
 pst:PSt w p ts n
 sn:SnAt w (w0.heap.size+2) sk
 box:Bk w (w0.heap.size+1) #[.int .i64 6,.int .i64 0,.string ⟨#[]⟩,ir,kr] 53
 kown:w.ownsRow (w0.heap.size+3) 9 1 kr ks.length (ks.map Value.string)
 els:Els 53 5 (RdX kr.ownBlock) w (w0.heap.size+3) ir cells l
 apart:∀ b,ir.ownBlock=some b->kr.ownBlock≠some b
 res:Bk w w0.heap.size zeroV5 53
 tw:Tw p w0.heap.size w0 w
 op:p<w0.heap.size
 size:w0.heap.size+3<=w.heap.size
 ksz:∀ s∈sk,s.size<=1000000
variable {w0 w w':World} {p n m:Nat} {kr ir:Value} {ks sk sk':List ByteArray} {cells:List Value} {l:List VT} {ts ts':List Tk}
theorem zz0 {w w':World} {base:Nat} {e:TypeId} {size:Nat} {v:Value} {n:Nat} {xs:List Value} (h:w.ownsRow base e size v n xs) (hb:∀ g,base<=g->g<w.heap.size->v.ownBlock=some g->w'.heap[g]?=w.heap[g]?):w'.ownsRow base e size v n xs:=by
 refine ⟨h.1,h.2.imp id ?_⟩
 rintro ⟨g,cap,cur,rfl,e2,e3,r⟩;have hg:=zf9 h (g:=g) rfl;exact ⟨g,cap,cur,rfl,e2,(hb g hg.1 hg.2 rfl).trans e3,r⟩
theorem OSt.step (h:OSt w0 p kr ir ks cells l sk ts n w) (ht:Tw2 p (w0.heap.size+2) w w') (hp:PSt w' p ts' m) (hs:SnAt w' (w0.heap.size+2) sk') (hz:∀ s∈sk',s.size<=1000000):OSt w0 p kr ir ks cells l sk' ts' m w':=by
 have h1:=h.op;have h2:=h.size;have hbl:∀ b,b≠p->b≠w0.heap.size+2->b<w.heap.size->w'.heap[b]?=w.heap[b]?:=fun b hp hm hb=>ht.block b hb hp hm;refine ⟨hp,hs,(hbl _ (by omega) (by omega) (by omega)).trans h.box,zz0 h.kown (fun g hg hl _=>hbl g (by omega) (by omega) hl), ?_,h.apart,(hbl _ (by omega) (by omega) (by omega)).trans h.res,
  h.tw.trans ⟨ht.os,ht.tape,ht.output,ht.size,fun k hk hkp=>hbl k hkp (by omega) (by omega)⟩,h1,Nat.le_trans h2 ht.size,hz⟩
 exact h.els.swap (fun b hb hl _=>hbl b (by omega) (by omega) hl) ht.size (fun b hb=>h.apart b hb) (fun b _ hb=>hb)
theorem Tw2.ofTw {p m:Nat} {w w':World} (h:Tw p w.heap.size w w'):Tw2 p m w w':=⟨h.os,h.tape,h.output,h.size,fun k h1 h2 _=>h.block k h1 h2⟩
theorem OSt.tws (h:OSt w0 p kr ir ks cells l sk ts n w) (ht:Tw p w.heap.size w w') (hp:PSt w' p ts' m):OSt w0 p kr ir ks cells l sk ts' m w' :=
 h.step (Tw2.ofTw ht) hp (h.sn.same (ht.block _ (by have:=h.size; omega) (by have:=h.op; omega))) h.ksz
theorem OSt.stay (h:OSt w0 p kr ir ks cells l sk ts n w) (hb:Below w.heap.size w w'):OSt w0 p kr ir ks cells l sk ts n w':=h.tws (.of hb) (h.pst.stay hb)
theorem OSt.row (h:OSt w0 p kr ir ks cells l sk ts n w):w.cell? ⟨w0.heap.size+1,4,none⟩=some kr/\w.cell? ⟨w0.heap.size+1,3,none⟩=some ir:=⟨h.box.cell 4 _ rfl,h.box.cell 3 _ rfl⟩
theorem OSt.pushK {kr':Value} {x:ByteArray} (h:OSt w0 p kr ir ks cells l sk ts n w) (h1:w'.ownsRow (w0.heap.size+3) 9 1 kr' (ks.length+1) (ks.map Value.string++[.string x])) (h2:w.grownBy w' kr.ownBlock) (h3:kr'.ownBlock=kr.ownBlock∨∃ g,kr'.ownBlock=some g/\w.heap.size<=g) :
  OSt w0 p kr' ir (ks++[x]) cells l sk ts n (w'.setCell ⟨w0.heap.size+1,4,none⟩ kr'):=by
 have ho:=h.op;have hz:=h.size;have hs2:=h2.size;have hkl:∀ b,kr.ownBlock=some b->w0.heap.size+3<=b/\b<w.heap.size:=fun b hb=>zf9 h.kown hb;have hbl:∀ b,b<w.heap.size->kr.ownBlock≠some b->w'.heap[b]?=w.heap[b]?:=fun b hb hn=>h2.block b hb (fun e=>hn e.symm);have hlow:∀ b,b<w0.heap.size+3->kr.ownBlock≠some b:=fun b hb e=>by have:=(hkl b e).1; omega
 have hset:∀ b,b≠w0.heap.size+1->(w'.setCell ⟨w0.heap.size+1,4,none⟩ kr').heap[b]?=w'.heap[b]?:=fun b hb=>Below.heap_setCell _ _ _ _ hb;have hall:∀ b,b<w.heap.size->b≠w0.heap.size+1->kr.ownBlock≠some b->(w'.setCell ⟨w0.heap.size+1,4,none⟩ kr').heap[b]?=w.heap[b]?:=fun b hb hn hk=>(hset b hn).trans (hbl b hb hk);have hsz:(w'.setCell ⟨w0.heap.size+1,4,none⟩ kr').heap.size=w'.heap.size:=by simp [World.setCell]
 refine ⟨h.pst.same ⟨h2.os,h2.tape,h2.output,by omega,fun b hb=>hall b (by omega) (by omega) (hlow b (by omega))⟩,h.sn.same (hall _ (by omega) (by omega) (hlow _ (by omega))), ?_, ?_, ?_, ?_,(hall _ (by omega) (by omega) (hlow _ (by omega))).trans h.res,
  h.tw.trans ⟨h2.os,h2.tape,h2.output,by omega,fun k hk hkp=>hall k (by omega) (by omega) (hlow k (by omega))⟩,ho,by omega,h.ksz⟩
 ·have hb:Bk w' (w0.heap.size+1) #[.int .i64 6,.int .i64 0,.string ⟨#[]⟩,ir,kr] 53 := (hbl _ (by omega) (hlow _ (by omega))).trans h.box
  exact hb.set 4 kr'
 ·rw [List.length_append,List.length_singleton,List.map_append]
  exact zz0 h1 (fun g hg _ _=>hset g (by omega))
 ·refine h.els.swap (fun b hb hl hk=>hall b hl (by omega) hk) (by omega) (fun b hb=>h.apart b hb) (fun b hl hk e=>?_)
  rcases h3 with h3 | ⟨g,h3,hg⟩
  ·exact hk (h3▸e)
  ·rw [h3] at e; cases e; omega
 ·intro b hb e
  have hl:=(zf9 h.els.own hb).2;rcases h3 with h3 | ⟨g,h3,hg⟩
  ·exact h.apart b hb (h3▸e)
  ·rw [h3] at e; cases e; omega
theorem OSt.pushI {ir':Value} {x:VT} {f:Nat->Value} {news:List Value} {w1:World} (h:OSt w0 p kr ir ks cells l sk ts n w) (hw1:Below w.heap.size w w1)
  (hx:RdX kr.ownBlock w (fun b=>w0.heap.size+3<=b/\b<w.heap.size/\ir.ownBlock≠some b) f x) (hf:∀ j,j<5->news.getD j undef=f j)
  (h1:w'.ownsRow (w0.heap.size+3) 53 5 ir' (l.length+1) (cells++news)) (h2:w1.grownBy w' ir.ownBlock) (h3:ir'.ownBlock=ir.ownBlock∨∃ g,ir'.ownBlock=some g/\w1.heap.size<=g) :
  OSt w0 p kr ir' ks (cells++news) (l++[x]) sk ts n (w'.setCell ⟨w0.heap.size+1,3,none⟩ ir'):=by
 have ho:=h.op;have hz:=h.size;have hs1:=hw1.size;have hs2:=h2.size;obtain ⟨he,hbel⟩:=Els.push (RdX.stays _) h.els hw1 hz hx hf (RdX.cong _ (Nat.le_refl _)) h1 h2 h3;have hlow:∀ b,b<w0.heap.size+3->w'.heap[b]?=w.heap[b]?:=fun b hb=>hbel.block b hb;have hkb:∀ b,kr.ownBlock=some b->w'.heap[b]?=w.heap[b]?:=fun b hb=>(h2.block b (by have:=(zf9 h.kown hb).2; omega) (fun e=>h.apart b e.symm hb)).trans (hw1.block b (zf9 h.kown hb).2);have hset:∀ b,b≠w0.heap.size+1->(w'.setCell ⟨w0.heap.size+1,3,none⟩ ir').heap[b]?=w'.heap[b]?:=fun b hb=>Below.heap_setCell _ _ _ _ hb;have hall:∀ b,b<w0.heap.size+3->b≠w0.heap.size+1->(w'.setCell ⟨w0.heap.size+1,3,none⟩ ir').heap[b]?=w.heap[b]?:=fun b hb hn=>(hset b hn).trans (hlow b hb);have hsz:(w'.setCell ⟨w0.heap.size+1,3,none⟩ ir').heap.size=w'.heap.size:=by simp [World.setCell]
 refine ⟨h.pst.same ⟨hbel.os,hbel.tape,hbel.output,by omega,fun b hb=>hall b (by omega) (by omega)⟩,h.sn.same (hall _ (by omega) (by omega)), ?_,zz0 h.kown (fun g hg _ hb=>(hset g (by omega)).trans (hkb g hb)), ?_, ?_,(hall _ (by omega) (by omega)).trans h.res,
  h.tw.trans ⟨hbel.os,hbel.tape,hbel.output,by omega,fun k hk hkp=>hall k (by omega) (by omega)⟩,ho,by omega,h.ksz⟩
 ·have hb:Bk w' (w0.heap.size+1) #[.int .i64 6,.int .i64 0,.string ⟨#[]⟩,ir,kr] 53 := (hlow _ (by omega)).trans h.box
  exact hb.set 3 ir'
 ·exact he.swap (fun b hb hl hk=>hset b (by omega)) (by omega) (fun b hb e=>by
   have hl:=(zf9 h.kown e).2;rcases h3 with h3 | ⟨g,h3,hg⟩
   ·exact h.apart b (h3▸hb) e
   ·rw [h3] at hb; cases hb; omega) (fun b _ hb=>hb)
 ·intro b hb e
  have hl:=(zf9 h.kown e).2;rcases h3 with h3 | ⟨g,h3,hg⟩
  ·exact h.apart b (h3▸hb) e
  ·rw [h3] at hb; cases hb; omega
theorem own_le {w:World} {base:Nat} {e:TypeId} {size m c:Nat} {A:Option Addr} {n:Nat} {xs:List Value} (h:w.ownsRow base e size (.slice A m c) n xs):m<=c:=by
 rcases h.2 with ⟨h1,_⟩ | ⟨g,cap,cur,h1,_,_,h2,_⟩
 ·cases h1; exact Nat.le_refl _
 ·cases h1; exact h2
theorem RdS.ofObj {w:World} {S:Nat->Prop} {base:Nat} {kr ir:Value} {cells:List Value} {ks:List ByteArray} {l:List VT} (hs:∀ b,base<=b->b<w.heap.size->S b) (hk:w.ownsRow base 9 1 kr ks.length (ks.map Value.string)) (hi:Els 53 5 (RdX kr.ownBlock) w base ir cells l) (hz:∀ s∈ks,s.size<=1000000) (hkl:ks.length<=5000) (hll:l.length<=5000) :
  RdS w S (.agg #[.int .i64 6,.int .i64 0,.string ⟨#[]⟩,ir,kr]) (.mk 6 0 ⟨#[]⟩ l ks):=by
 obtain ⟨A,c,rfl,_,_,V,hA,hr⟩:=hi.read (bytes:=80) (RdX.stays _) (by unfold big; omega);obtain ⟨K,d,hkr⟩:=yi7 hk;subst hkr;refine .mk (fun i=>.agg #[V i 0,V i 1,V i 2,V i 3,V i 4]) (by unfold small; omega) (by unfold small; omega) (by decide) (fun s h=>by have:=hz s h; omega) rfl rfl (by omega) ⟨by omega,own_le hk⟩ (fun h0=>?_) (fun i t ht=>?_) (fun h0=>?_)
 ·obtain ⟨a,e,ha,hx⟩:=hA h0
  exact ⟨a,e,hs _ ha.1 ha.2,fun i hi=>⟨_,_,_,_,_,rfl,hx i hi 0 (by omega),hx i hi 1 (by omega),hx i hi 2 (by omega),hx i hi 3 (by omega),hx i hi 4 (by omega)⟩⟩
 ·exact RdS.kept (hr i t ht) (fun _ _=>rfl) (fun b hb=>hs b hb.1.1 hb.1.2)
 ·rcases hk.2 with ⟨h1,h2⟩ | ⟨g,cap,cur,h1,h2,h3,_⟩
  ·omega
  ·cases h1
   have hlt:=(zf9 hk (g:=g) rfl);refine ⟨_,rfl,hs g hlt.1 hlt.2,fun i s hi=>?_⟩;exact World.ownsRow.cells hk (g:=g) rfl i (.string s) (by rw [List.getElem?_map,hi]; rfl)
def obP (el:ElT):Nat->List ByteArray->List VT->List Tk->Nat->Except Er (List ByteArray × List VT × List Tk × Nat)
 | 0,_,_,_,_=>.error (0,99)
 | f+1,ks,l,ts,n=>if isSg [125] ts=true then .ok (ks,l,ts.tail,n) else exB (keyP ks ts) fun q=>exB (sgR [58] q.2) fun t2=>exB (el t2 n) fun r=>obP el f (ks++[q.1]) (l++[r.1]) r.2.1 r.2.2
theorem zu9 (el:ElT) (f:Nat) (ks:List ByteArray) (l:List VT) (ts:List Tk) (n:Nat):obP el (f+1) ks l ts n=if isSg [125] ts=true then .ok (ks,l,ts.tail,n) else exB (keyP ks ts) fun q=>exB (sgR [58] q.2) fun t2=>exB (el t2 n) fun r=>obP el f (ks++[q.1]) (l++[r.1]) r.2.1 r.2.2:=rfl
def obV (el:ElT):ElT:=fun ts n=>exB (obP el (ts.length+1) [] [] ts n) fun q=>.ok (.mk 6 0 ⟨#[]⟩ q.2.1 q.1,q.2.2.1,q.2.2.2)
theorem obP_le {el:ElT} (he:LtE el):∀ (f:Nat) (ks:List ByteArray) (l:List VT) (ts:List Tk) (n:Nat) (q:List ByteArray × List VT × List Tk × Nat),obP el f ks l ts n=.ok q->q.2.2.1.length<=ts.length:=by
 intro f
 induction f with
 | zero=>intro ks l ts n q h; simp [obP] at h
 | succ f ih =>
   intro ks l ts n q h;rw [zu9] at h;by_cases e:isSg [125] ts=true
   ·rw [if_pos e] at h; cases h; exact Nat.le_of_lt (zw8 e)
   ·rw [if_neg e] at h
    obtain ⟨k,h1,h⟩:=za9 h;obtain ⟨t2,h2,h⟩:=za9 h;obtain ⟨r,h3,h⟩:=za9 h;have hk:k.2.length<ts.length:=by
     obtain ⟨k0,h4,h5⟩:=za9 h1
     split at h5
     ·cases h5
     ·cases h5; exact zi9 _ _ _ h4
    have:=zn2 h2;have:=he _ _ _ h3;have:=ih _ _ _ _ _ h;omega
theorem obV_con {el:ElT} (he:LtE el):LeE (obV el):=by
 intro ts n q h;obtain ⟨r,h1,h⟩:=za9 h;cases h;exact obP_le he _ _ _ _ _ _ h1
end Go.Proofs.YtfgelheiknmjgaaGreatDoor
namespace Go.Proofs.YtfgelheiknmjgaaGreatDoor
open Go.RowKit
section
variable {ops:Array Oper} {Q:Exit->Act->World->Prop} {o:Oper} {a:Act} {w:World} {R:Value->World->Prop}
theorem yg4 (hw:Region.wanted o (yielded ops a.tmps)=true) (x:Operand) {g:Nat} (ho:o.op=.fieldAddr 53 x 4) (hx:a.eval x=.pointer (some ⟨g,0,none⟩)) (h:R (.pointer (some ⟨g,4,none⟩)) w):K.Runs Tryz.prog ops Q o a w R :=
 K.zb0 hw (by generalize a.eval=ρ at hx; simp [execOp,ho,go_sem,hx]) h
theorem yg5 (hw:Region.wanted o (yielded ops a.tmps)=true) (x:Operand) {g:Nat} (ho:o.op=.fieldAddr 53 x 3) (hx:a.eval x=.pointer (some ⟨g,0,none⟩)) (h:R (.pointer (some ⟨g,3,none⟩)) w):K.Runs Tryz.prog ops Q o a w R :=
 K.zb0 hw (by generalize a.eval=ρ at hx; simp [execOp,ho,go_sem,hx]) h
theorem zT9 (hw:Region.wanted o (yielded ops a.tmps)=true) (x:Operand) {g:Nat} (ho:o.op=.fieldAddr 24 x 0) (hx:a.eval x=.pointer (some ⟨g,0,none⟩)) (h:R (.pointer (some ⟨g,0,none⟩)) w):K.Runs Tryz.prog ops Q o a w R :=
 K.zb0 hw (by generalize a.eval=ρ at hx; simp [execOp,ho,go_sem,hx]) h
theorem rg_ldS (hw:Region.wanted o (yielded ops a.tmps)=true) (x:Operand) {g i:Nat} {v:Value} (ho:o.op=.load 33 x) (hx:a.eval x=.pointer (some ⟨g,i,none⟩)) (hc:w.cell? ⟨g,i,none⟩=some v) (h:R v w):K.Runs Tryz.prog ops Q o a w R :=
 K.zb0 hw (by generalize a.eval=ρ at hx; simp [execOp,ho,go_sem,hx,hc]) h
theorem rg_ldV (hw:Region.wanted o (yielded ops a.tmps)=true) (x:Operand) {g i:Nat} {v:Value} (ho:o.op=.load 51 x) (hx:a.eval x=.pointer (some ⟨g,i,none⟩)) (hc:w.cell? ⟨g,i,none⟩=some v) (h:R v w):K.Runs Tryz.prog ops Q o a w R :=
 K.zb0 hw (by generalize a.eval=ρ at hx; simp [execOp,ho,go_sem,hx,hc]) h
theorem rg_ldD (hw:Region.wanted o (yielded ops a.tmps)=true) (x:Operand) {g i:Nat} {v:Value} (ho:o.op=.load 22 x) (hx:a.eval x=.pointer (some ⟨g,i,none⟩)) (hc:w.cell? ⟨g,i,none⟩=some v) (h:R v w):K.Runs Tryz.prog ops Q o a w R :=
 K.zb0 hw (by generalize a.eval=ρ at hx; simp [execOp,ho,go_sem,hx,hc]) h
theorem zp3 (hw:Region.wanted o (yielded ops a.tmps)=true) (x:Operand) {v:Value} (ho:o.op=.move x) (hx:a.eval x=v) (h:R v w):K.Runs Tryz.prog ops Q o a w R :=
 K.zb0 hw (by generalize a.eval=ρ at hx; simp [execOp,ho,go_sem,hx]) h
theorem rg_add (hw:Region.wanted o (yielded ops a.tmps)=true) (x:Operand) {n:Nat} (hn:n<=1000000) (ho:o.op=.binOp .add 3 x (.const (.int .i64 1)) 3) (hx:a.eval x=.int .i64 n) (h:R (.int .i64 ((n:Int)+1)) w):K.Runs Tryz.prog ops Q o a w R :=
 K.zb0 hw (by
  have h0:a.eval (.const (.int .i64 1))=.int .i64 1:=rfl;generalize a.eval=ρ at hx h0;have h1:IntKind.i64.wrap ((n:Int)+1)=(n:Int)+1:=by rw [IntKind.wrap_i64]; omega
  simp [execOp,ho,go_sem,hx,h0,h1]) h
theorem rg_makeS (hw:Region.wanted o (yielded ops a.tmps)=true) (x:Operand) {s:ByteArray} (ho:o.op=.buildSlice 33 1 #[(0,x)]) (hx:a.eval x=.string s)
  (h:R (.slice (some ⟨w.heap.size,0,none⟩) 1 1) (w.alloc (.cells #[.string s] 9 (0,0)))):K.Runs Tryz.prog ops Q o a w R :=
 K.zb0 hw (by generalize a.eval=ρ at hx; simp [execOp,ho,go_sem,hx]) h
theorem rg_makeV (hw:Region.wanted o (yielded ops a.tmps)=true) (x:Operand) {c0 c1 c2 c3 c4:Value} (ho:o.op=.buildSlice 51 1 #[(0,x)]) (hx:a.eval x=.agg #[c0,c1,c2,c3,c4])
  (h:R (.slice (some ⟨w.heap.size,0,none⟩) 1 1) (w.alloc (.cells #[c0,c1,c2,c3,c4] 53 (0,0)))):K.Runs Tryz.prog ops Q o a w R :=
 K.zb0 hw (by generalize a.eval=ρ at hx; simp [execOp,ho,go_sem,hx]) h
theorem zT8 (hw:Region.wanted o (yielded ops a.tmps)=true) (x:Operand) {c0 c1 c2 c3 c4 c5 c6:Value} (ho:o.op=.buildSlice 22 1 #[(0,x)]) (hx:a.eval x=.agg #[c0,c1,c2,c3,c4,c5,c6])
  (h:R (.slice (some ⟨w.heap.size,0,none⟩) 1 1) (w.alloc (.cells #[c0,c1,c2,c3,c4,c5,c6] 39 (0,0)))):K.Runs Tryz.prog ops Q o a w R :=
 K.zb0 hw (by generalize a.eval=ρ at hx; simp [execOp,ho,go_sem,hx]) h
theorem zU0 (hw:Region.wanted o (yielded ops a.tmps)=true) (s x:Operand) (t:TypeId) (ho:o.op=.call { callee:=.builtin .append,args:=#[s,x],argTypes:=#[t,t] })
  (base:Nat) (e:TypeId) (z:Value) (size bytes:Nat) (ht : Tryz.prog.underlying t=some (.slice e)) (hinfo:(Tryz.prog.info? e).map (fun i=>(i.zero,i.size,i.bytes))=some (some z,size,bytes)) (hzs:z.cells.size=size) (hsz:0<size)
  (v:Value) (n:Nat) (xs:List Value) (hs:a.eval s=v) (hown:w.ownsRow base e size v n xs) (ad:Addr) (news:List Value) (hx:a.eval x=.slice (some ad) 1 1) (hl:news.length=1*size) (hnews:∀ j u,news[j]?=some u->w.cell? (ad.add j)=some u) (h1:∀ u∈news,u.oneCell'=true)
  (h63:n+1<=maxLen) (hbytes:(n+1)*bytes<=140737488355328) (hbase:base<=w.heap.size)
  (h:∀ v' w',w'.ownsRow base e size v' (n+1) (xs++news)->w.grownBy w' v.ownBlock->(v'.ownBlock=v.ownBlock∨∃ g,v'.ownBlock=some g/\w.heap.size<=g)->R v' w'):K.Runs Tryz.prog ops Q o a w R:=by
 obtain ⟨v',w',hr,h2,h3,h4⟩:=zo2 (P:=Tryz.prog) w base t o.type e z size bytes ht hinfo hzs hsz v n xs hown ad 1 1 (by decide) news hl hnews h1 h63 hbytes hbase;refine K.zb0 (v:=v') (w':=w') hw ?_ (h v' w' h2 h3 h4)
 generalize a.eval=ρ at hs hx;unfold execOp;simp only [ho,resolve,invoke,builtin,Sem.run_bind,Sem.run_pure,Result.andThen_ok,List.map_toArray,List.map_cons,List.map_nil,hs,hx,hr]
theorem yg3 (hw:Region.wanted o (yielded ops a.tmps)=true) (x y:Operand) {g i:Nat} {u v:Value} (ho:o.op=.store 33 x y) (hx:a.eval x=.pointer (some ⟨g,i,none⟩)) (hy:a.eval y=v) (hv:∃ A n c,v=.slice A n c) (hc:w.cell? ⟨g,i,none⟩=some u) (hf:w.frozen? ⟨g,i,none⟩=false)
  (h:R undef (w.setCell ⟨g,i,none⟩ v)):K.Runs Tryz.prog ops Q o a w R:=by
 obtain ⟨A,n,c,rfl⟩:=hv;exact K.zz8 hw (by
  generalize a.eval=ρ at hx hy;simp [execOp,ho,go_sem,hx,hy,hc,hf]) h
theorem yg2 (hw:Region.wanted o (yielded ops a.tmps)=true) (x y:Operand) {g i:Nat} {u v:Value} (ho:o.op=.store 51 x y) (hx:a.eval x=.pointer (some ⟨g,i,none⟩)) (hy:a.eval y=v) (hv:∃ A n c,v=.slice A n c) (hc:w.cell? ⟨g,i,none⟩=some u) (hf:w.frozen? ⟨g,i,none⟩=false)
  (h:R undef (w.setCell ⟨g,i,none⟩ v)):K.Runs Tryz.prog ops Q o a w R:=by
 obtain ⟨A,n,c,rfl⟩:=hv;exact K.zz8 hw (by
  generalize a.eval=ρ at hx hy;simp [execOp,ho,go_sem,hx,hy,hc,hf]) h
theorem zL0 (hw:Region.wanted o (yielded ops a.tmps)=true) (x y:Operand) {g i:Nat} {u v:Value} (ho:o.op=.store 22 x y) (hx:a.eval x=.pointer (some ⟨g,i,none⟩)) (hy:a.eval y=v) (hv:∃ A n c,v=.slice A n c) (hc:w.cell? ⟨g,i,none⟩=some u) (hf:w.frozen? ⟨g,i,none⟩=false)
  (h:R undef (w.setCell ⟨g,i,none⟩ v)):K.Runs Tryz.prog ops Q o a w R:=by
 obtain ⟨A,n,c,rfl⟩:=hv;exact K.zz8 hw (by
  generalize a.eval=ρ at hx hy;simp [execOp,ho,go_sem,hx,hy,hc,hf]) h
end
theorem zr1 {w:World} {base:Nat} {e:TypeId} {size:Nat} {v:Value} {n:Nat} {xs:List Value} (h:w.ownsRow base e size v n xs):∃ A c,v=.slice A n c:=by
 rcases h.2 with ⟨rfl,hz⟩ | ⟨g,cap,cur,rfl,_⟩
 ·exact ⟨none,0,by rw [hz]⟩
 ·exact ⟨_,_,rfl⟩
end Go.Proofs.YtfgelheiknmjgaaGreatDoor

