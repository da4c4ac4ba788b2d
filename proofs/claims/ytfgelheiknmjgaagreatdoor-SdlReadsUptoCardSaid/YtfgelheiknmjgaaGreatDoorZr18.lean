
/-
 Texts joined: F6.
-/
import Derived.Test.YtfgelheiknmjgaaGreatDoorZr14
import Derived.Test.YtfgelheiknmjgaaGreatDoorZr17
import Derived.Test.YtfgelheiknmjgaaGreatDoorZr12
set_option maxRecDepth 1000000
set_option maxHeartbeats 8000000
namespace Go.Proofs.YtfgelheiknmjgaaGreatDoor
open Go.RowKit
def df1 (fel:List Tk->Except Er (FldT × List Tk)) (del:List Tk->Except Er (DirT × List Tk)) (ts:List Tk):Except Er (DefT × List Tk):=exB (nmR ts.tail) fun q=>exB (impP q.2) fun i=>exB (drsR del i.2) fun d=>exB (blR [123] [125] 64 fel d.2) fun f=>.ok (⟨1,q.1,i.1,d.1,f.1,[],[]⟩,f.2)
def df2 (fel:List Tk->Except Er (FldT × List Tk)) (del:List Tk->Except Er (DirT × List Tk)) (ts:List Tk):Except Er (DefT × List Tk):=exB (nmR ts.tail) fun q=>exB (drsR del q.2) fun d=>exB (blR [123] [125] 64 fel d.2) fun f=>.ok (⟨2,q.1,[],d.1,f.1,[],[]⟩,f.2)
def df3 (del:List Tk->Except Er (DirT × List Tk)) (ts:List Tk):Except Er (DefT × List Tk):=exB (nmR ts.tail) fun q=>exB (drsR del q.2) fun d=>exB (uniP d.2) fun f=>.ok (⟨3,q.1,[],d.1,[],f.1,[]⟩,f.2)
def df4 (mel:List Tk->Except Er (MemT × List Tk)) (del:List Tk->Except Er (DirT × List Tk)) (ts:List Tk):Except Er (DefT × List Tk):=exB (nmR ts.tail) fun q=>exB (drsR del q.2) fun d=>exB (blR [123] [125] 64 mel d.2) fun f=>.ok (⟨4,q.1,[],d.1,[],f.1,[]⟩,f.2)
def df5 (iel:List Tk->Except Er (InpT × List Tk)) (del:List Tk->Except Er (DirT × List Tk)) (ts:List Tk):Except Er (DefT × List Tk):=exB (nmR ts.tail) fun q=>exB (drsR del q.2) fun d=>exB (blR [123] [125] 16 iel d.2) fun f=>.ok (⟨5,q.1,[],d.1,[],[],f.1⟩,f.2)
theorem yd7 (p:Nat) (fel:List Tk->Except Er (FldT × List Tk)) (hfel:∀ (W:World) (ts:List Tk) (m:Nat),PSt W p ts m->isNm ts=true->Calls Tryz.prog 116 #[pP p] W (WPost FldV W p (fel ts))) (hflt:∀ (ts:List Tk) (x:FldT) (ts':List Tk),Good ts->isNm ts=true->fel ts=.ok (x,ts')->ts'.length<ts.length) (del:List Tk->Except Er (DirT × List Tk)) (hdel:∀ (W:World) (ts:List Tk) (m:Nat),PSt W p ts m->isSg [64] ts=true->Calls Tryz.prog 202 #[pP p,whV p] W (WPost DirV W p (del ts))) (hdlt:∀ (ts:List Tk) (x:DirT) (ts':List Tk),Good ts->isSg [64] ts=true->del ts=.ok (x,ts')->ts'.length<ts.length) (w:World) (ts:List Tk) (n:Nat) (hnm:isNm ts=true) (h:PSt w p ts n) :
  Calls Tryz.prog 55 #[pP p,.int .i64 1] w (WPost DefV w p (df1 fel del ts)):=by
 have HNE:=Lh (zp9 hnm);clear hnm;have HEL:=Lh hfel;have HLT:=Lh hflt;clear hfel hflt;have HDEL:=Lh hdel;have HDLT:=Lh hdlt;clear hdel hdlt;have hmf:∀ (fn:Fn) (first cap:Array Value) (w:World),(Instr.makeFunc fn first cap).run Tryz.prog w=.ok (.func fn first cap) w:=fun _ _ _ _=>rfl;have HD0:Hid (df1 fel del ts=df1 fel del ts):=Lh rfl;have hpw:=h.lt;have hhp:p≠w.heap.size:=by omega
 have HP0:Hid (PSt (w.alloc (.cells #[.int .i64 0,.string ⟨#[]⟩,.slice none 0 0,.slice none 0 0,.slice none 0 0,.slice none 0 0,.slice none 0 0] 39 (0,0))) p ts n):=Lh (h.stay (za1 _ _));have HR0:Hid (Bk (w.alloc (.cells #[.int .i64 0,.string ⟨#[]⟩,.slice none 0 0,.slice none 0 0,.slice none 0 0,.slice none 0 0,.slice none 0 0] 39 (0,0))) w.heap.size #[.int .i64 0,.string ⟨#[]⟩,.slice none 0 0,.slice none 0 0,.slice none 0 0,.slice none 0 0,.slice none 0 0] 39):=Lh (Bk.new _ _ _);have HT0:Hid (Tw p w.heap.size w (w.alloc (.cells #[.int .i64 0,.string ⟨#[]⟩,.slice none 0 0,.slice none 0 0,.slice none 0 0,.slice none 0 0,.slice none 0 0] 39 (0,0)))):=Lh (.of (za1 _ _));have hsz0:w.heap.size<(w.alloc (.cells #[.int .i64 0,.string ⟨#[]⟩,.slice none 0 0,.slice none 0 0,.slice none 0 0,.slice none 0 0,.slice none 0 0] 39 (0,0))).heap.size:=by simp
 clear h;have HDU:Hid (df1 fel del ts=exB (nmR ts.tail) fun q=>exB (impP q.2) fun i=>exB (drsR del i.2) fun d=>exB (blR [123] [125] 64 fel d.2) fun f=>.ok (⟨1,q.1,i.1,d.1,f.1,[],[]⟩,f.2)):=Lh rfl;replace HD0:=HDU;clear HDU;generalize df1 fel del ts=R at *
 go_enter Tryz.func55, Tryz.ntmps55
 go_wp2_with fail
 refine (zd3 HP0.out HNE.out).mono ?_
 rintro e w1 ⟨rfl,hp,ht⟩;have HT1:=Lh (HT0.out.step HT0.out.size ht);have HR1:=Lh (HR0.out.far ht (by omega))
 have hsz1:w.heap.size<w1.heap.size:=Nat.lt_of_lt_of_le hsz0 ht.size;have HP1:=Lh hp;clear hp ht;generalize tkV (hd ts)=tv at *;go_wp2_with fail
 refine (zc9 HP1.out).mono ?_
 rintro e w2 (⟨nm,ts2,v,hr,rfl,⟨rfl,hnz⟩,hp,ht⟩ | ⟨x,hr,rfl,ht⟩);rotate_left
 ·exact ⟨rfl,.inr ⟨_,HD0.out.trans (za7 hr),rfl,HT1.out.step HT1.out.size ht⟩⟩
 have HD1:=Lh (HD0.out.trans (za3 hr));have HT2:=Lh (HT1.out.step HT1.out.size ht);have HR2:=Lh (HR1.out.far ht (by omega))
 have hsz2:w.heap.size<w2.heap.size:=Nat.lt_of_lt_of_le hsz1 ht.size;have HP2:=Lh hp;have HN:=Lh hnz;clear hr hp ht hnz;go_wp2_with fail
 have ht:Tw p w2.heap.size w2 (w2.alloc (.cells #[.int .i64 1,.string nm,.slice none 0 0,.slice none 0 0,.slice none 0 0,.slice none 0 0,.slice none 0 0] 39 (0,0))):=.of (za1 _ _);have hlv:w.heap.size<w2.heap.size:=hsz2;have hlp:p≠w2.heap.size:=by omega
 have hlv2:w2.heap.size<(w2.alloc (.cells #[.int .i64 1,.string nm,.slice none 0 0,.slice none 0 0,.slice none 0 0,.slice none 0 0,.slice none 0 0] 39 (0,0))).heap.size:=by simp
 have HT3:=Lh (HT2.out.step HT2.out.size ht);have HR3:=Lh (HR2.out.far ht (by omega))
 have HV3:Hid (Bk (w2.alloc (.cells #[.int .i64 1,.string nm,.slice none 0 0,.slice none 0 0,.slice none 0 0,.slice none 0 0,.slice none 0 0] 39 (0,0))) w2.heap.size #[.int .i64 1,.string nm,.slice none 0 0,.slice none 0 0,.slice none 0 0,.slice none 0 0,.slice none 0 0] 39):=Lh (Bk.new _ _ _);have HP3:=Lh (HP2.out.stay (za1 w2 (.cells #[.int .i64 1,.string nm,.slice none 0 0,.slice none 0 0,.slice none 0 0,.slice none 0 0,.slice none 0 0] 39 (0,0))));have hsz3:w.heap.size<(w2.alloc (.cells #[.int .i64 1,.string nm,.slice none 0 0,.slice none 0 0,.slice none 0 0,.slice none 0 0,.slice none 0 0] 39 (0,0))).heap.size:=by simp; omega
 clear ht;go_wp2_with fail
 have hlw4:w2.heap.size<(w2.alloc (.cells #[.int .i64 1,.string nm,.slice none 0 0,.slice none 0 0,.slice none 0 0,.slice none 0 0,.slice none 0 0] 39 (0,0))).heap.size:=hlv2;refine (zx8 p _ _ _ HP3.out).mono ?_
 rintro e w4 (⟨im,ts4,v4,m4,hr,rfl,hx,hp,ht⟩ | ⟨x,hr,rfl,ht⟩);rotate_left
 ·exact ⟨rfl,.inr ⟨_,HD1.out.trans (za7 hr),rfl,HT3.out.step HT3.out.size ht⟩⟩
 have HD2:=Lh (HD1.out.trans (za3 hr));have HT4:=Lh (HT3.out.step HT3.out.size ht);have HR4:=Lh (HR3.out.far ht (by omega))
 have HV4:=Lh (HV3.out.far ht (by have:=hlv; omega))
 have hsz4:w.heap.size<w4.heap.size:=Nat.lt_of_lt_of_le hsz3 ht.size;replace hlv2:=Nat.lt_of_lt_of_le hlv2 ht.size;have HP4:=Lh hp;have hlo4:(w2.alloc (.cells #[.int .i64 1,.string nm,.slice none 0 0,.slice none 0 0,.slice none 0 0,.slice none 0 0,.slice none 0 0] 39 (0,0))).heap.size<=w4.heap.size:=ht.size;obtain ⟨A2,d2,hv2,_,_⟩:=SlS.form hx;subst hv2;have HIM:=Lh hx;clear hr hp ht hx;obtain ⟨x0,x1,x2,x3,x4,x5,x6,fx⟩:=HV4.out.o7;go_wp2_with fail
 clear x0 x1 x2 x3 x4 x5 x6 fx;obtain ⟨wg5,hW⟩ : ∃ x,x=(w4.setCell ⟨w2.heap.size,2,none⟩ (.slice A2 im.length d2)):=⟨_,rfl⟩;rw [<- hW];have HT5:Hid (Tw p w.heap.size w wg5):=Lh (by rw [hW]; exact (HT4.out.setNew (by omega) _ _))
 have HR5:Hid (Bk wg5 w.heap.size #[.int .i64 0,.string ⟨#[]⟩,.slice none 0 0,.slice none 0 0,.slice none 0 0,.slice none 0 0,.slice none 0 0] 39):=Lh (by rw [hW]; exact (HR4.out.off (by omega) _ _))
 have HV5:Hid (Bk wg5 w2.heap.size #[.int .i64 1,.string nm,.slice A2 im.length d2,.slice none 0 0,.slice none 0 0,.slice none 0 0,.slice none 0 0] 39):=Lh (by rw [hW]; exact (HV4.out.setl _ _))
 have HP5:=Lh (HP4.out.same (w':=wg5) (by rw [hW]; exact (bsc (Below.refl (p+1) w4) (by omega))))
 have hse5:wg5.heap.size=w4.heap.size:=by rw [hW]; simp [World.setCell]
 have hsz5:w.heap.size<wg5.heap.size:=by omega
 replace HIM:=Lh (SlS.kept StrC.stays HIM.out (w':=wg5) (S':=fun b=>(w2.alloc (.cells #[.int .i64 1,.string nm,.slice none 0 0,.slice none 0 0,.slice none 0 0,.slice none 0 0,.slice none 0 0] 39 (0,0))).heap.size<=b/\b<wg5.heap.size) (fun b hb=>by rw [hW]; simp only [hpn (show b≠w2.heap.size by have:=hb.1; omega)]) (fun b hb=>⟨hb.1,by rw [hse5]; exact hb.2⟩))
 replace hlv2:w2.heap.size<wg5.heap.size:=by omega
 clear hW;have hlw6:w2.heap.size<wg5.heap.size:=hlv2;refine (zb8 p del HDEL.out HDLT.out _ _ _ HP5.out).mono ?_
 rintro e w6 (⟨dirs,ts6,v6,m6,hr,rfl,hx,hp,ht⟩ | ⟨x,hr,rfl,ht⟩);rotate_left
 ·exact ⟨rfl,.inr ⟨_,HD2.out.trans (za7 hr),rfl,HT5.out.step HT5.out.size ht⟩⟩
 have HD3:=Lh (HD2.out.trans (za3 hr));have HT6:=Lh (HT5.out.step HT5.out.size ht);have HR6:=Lh (HR5.out.far ht (by omega))
 have HV6:=Lh (HV5.out.far ht (by have:=hlv; omega))
 replace HIM:=Lh (SlS.kept StrC.stays HIM.out (w':=w6) (S':=fun b=>(w2.alloc (.cells #[.int .i64 1,.string nm,.slice none 0 0,.slice none 0 0,.slice none 0 0,.slice none 0 0,.slice none 0 0] 39 (0,0))).heap.size<=b/\b<w6.heap.size) (fun b hb=>ht.block b hb.2 (by have:=hb.1; omega)) (fun b hb=>⟨hb.1,Nat.lt_of_lt_of_le hb.2 ht.size⟩))
 have hsz6:w.heap.size<w6.heap.size:=Nat.lt_of_lt_of_le hsz5 ht.size;replace hlv2:=Nat.lt_of_lt_of_le hlv2 ht.size;have HP6:=Lh hp;have hlo6:wg5.heap.size<=w6.heap.size:=ht.size;obtain ⟨A3,d3,hv3,_,_⟩:=SlS.form hx;subst hv3;have HDI:=Lh hx;clear hr hp ht hx;obtain ⟨x0,x1,x2,x3,x4,x5,x6,fx⟩:=HV6.out.o7;go_wp2_with fail
 clear x0 x1 x2 x3 x4 x5 x6 fx;obtain ⟨wg7,hW⟩ : ∃ x,x=(w6.setCell ⟨w2.heap.size,3,none⟩ (.slice A3 dirs.length d3)):=⟨_,rfl⟩;rw [<- hW];have HT7:Hid (Tw p w.heap.size w wg7):=Lh (by rw [hW]; exact (HT6.out.setNew (by omega) _ _))
 have HR7:Hid (Bk wg7 w.heap.size #[.int .i64 0,.string ⟨#[]⟩,.slice none 0 0,.slice none 0 0,.slice none 0 0,.slice none 0 0,.slice none 0 0] 39):=Lh (by rw [hW]; exact (HR6.out.off (by omega) _ _))
 have HV7:Hid (Bk wg7 w2.heap.size #[.int .i64 1,.string nm,.slice A2 im.length d2,.slice A3 dirs.length d3,.slice none 0 0,.slice none 0 0,.slice none 0 0] 39):=Lh (by rw [hW]; exact (HV6.out.setl _ _))
 have HP7:=Lh (HP6.out.same (w':=wg7) (by rw [hW]; exact (bsc (Below.refl (p+1) w6) (by omega))))
 have hse7:wg7.heap.size=w6.heap.size:=by rw [hW]; simp [World.setCell]
 have hsz7:w.heap.size<wg7.heap.size:=by omega
 replace HIM:=Lh (SlS.kept StrC.stays HIM.out (w':=wg7) (S':=fun b=>(w2.alloc (.cells #[.int .i64 1,.string nm,.slice none 0 0,.slice none 0 0,.slice none 0 0,.slice none 0 0,.slice none 0 0] 39 (0,0))).heap.size<=b/\b<wg7.heap.size) (fun b hb=>by rw [hW]; simp only [hpn (show b≠w2.heap.size by have:=hb.1; omega)]) (fun b hb=>⟨hb.1,by rw [hse7]; exact hb.2⟩))
 replace HDI:=Lh (SlS.kept DirC.stays HDI.out (w':=wg7) (S':=fun b=>wg5.heap.size<=b/\b<wg7.heap.size) (fun b hb=>by rw [hW]; simp only [hpn (show b≠w2.heap.size by have:=hb.1; omega)]) (fun b hb=>⟨hb.1,by rw [hse7]; exact hb.2⟩))
 replace hlv2:w2.heap.size<wg7.heap.size:=by omega
 clear hW;have hlw8:w2.heap.size<wg7.heap.size:=hlv2;refine (zr0 p fel HEL.out HLT.out _ _ _ HP7.out 123 125 64 (by omega) 64 rfl).mono ?_
 rintro e w8 (⟨bd,ts8,v8,m8,hr,rfl,hx,hp,ht⟩ | ⟨x,hr,rfl,ht⟩);rotate_left
 ·exact ⟨rfl,.inr ⟨_,HD3.out.trans (za7 hr),rfl,HT7.out.step HT7.out.size ht⟩⟩
 have HD4:=Lh (HD3.out.trans (za3 hr));have HT8:=Lh (HT7.out.step HT7.out.size ht);have HR8:=Lh (HR7.out.far ht (by omega))
 have HV8:=Lh (HV7.out.far ht (by have:=hlv; omega))
 replace HIM:=Lh (SlS.kept StrC.stays HIM.out (w':=w8) (S':=fun b=>(w2.alloc (.cells #[.int .i64 1,.string nm,.slice none 0 0,.slice none 0 0,.slice none 0 0,.slice none 0 0,.slice none 0 0] 39 (0,0))).heap.size<=b/\b<w8.heap.size) (fun b hb=>ht.block b hb.2 (by have:=hb.1; omega)) (fun b hb=>⟨hb.1,Nat.lt_of_lt_of_le hb.2 ht.size⟩))
 replace HDI:=Lh (SlS.kept DirC.stays HDI.out (w':=w8) (S':=fun b=>wg5.heap.size<=b/\b<w8.heap.size) (fun b hb=>ht.block b hb.2 (by have:=hb.1; omega)) (fun b hb=>⟨hb.1,Nat.lt_of_lt_of_le hb.2 ht.size⟩))
 have hsz8:w.heap.size<w8.heap.size:=Nat.lt_of_lt_of_le hsz7 ht.size;replace hlv2:=Nat.lt_of_lt_of_le hlv2 ht.size;have HP8:=Lh hp;have hlo8:wg7.heap.size<=w8.heap.size:=ht.size;obtain ⟨A4,d4,hv4,_,_⟩:=SlS.form hx;subst hv4;have HBD:=Lh hx;clear hr hp ht hx;obtain ⟨x0,x1,x2,x3,x4,x5,x6,fx⟩:=HV8.out.o7;obtain ⟨y0,y1,y2,y3,y4,y5,y6,fy⟩:=HR8.out.o7;have hne:w.heap.size≠w2.heap.size:=by omega
 have hne2:w2.heap.size≠w.heap.size:=by omega
 go_wp2_with fail
 clear x0 x1 x2 x3 x4 x5 x6 fx;clear y0 y1 y2 y3 y4 y5 y6 fy;obtain ⟨wg9,hW⟩ : ∃ x,x=(w8.setCell ⟨w2.heap.size,4,none⟩ (.slice A4 bd.length d4)):=⟨_,rfl⟩;rw [<- hW];have HT9:Hid (Tw p w.heap.size w wg9):=Lh (by rw [hW]; exact (HT8.out.setNew (by omega) _ _))
 have HR9:Hid (Bk wg9 w.heap.size #[.int .i64 0,.string ⟨#[]⟩,.slice none 0 0,.slice none 0 0,.slice none 0 0,.slice none 0 0,.slice none 0 0] 39):=Lh (by rw [hW]; exact (HR8.out.off (by omega) _ _))
 have HV9:Hid (Bk wg9 w2.heap.size #[.int .i64 1,.string nm,.slice A2 im.length d2,.slice A3 dirs.length d3,.slice A4 bd.length d4,.slice none 0 0,.slice none 0 0] 39):=Lh (by rw [hW]; exact (HV8.out.setl _ _))
 have HP9:=Lh (HP8.out.same (w':=wg9) (by rw [hW]; exact (bsc (Below.refl (p+1) w8) (by omega))))
 have hse9:wg9.heap.size=w8.heap.size:=by rw [hW]; simp [World.setCell]
 have hsz9:w.heap.size<wg9.heap.size:=by omega
 replace HIM:=Lh (SlS.kept StrC.stays HIM.out (w':=wg9) (S':=fun b=>(w2.alloc (.cells #[.int .i64 1,.string nm,.slice none 0 0,.slice none 0 0,.slice none 0 0,.slice none 0 0,.slice none 0 0] 39 (0,0))).heap.size<=b/\b<wg9.heap.size) (fun b hb=>by rw [hW]; simp only [hpn (show b≠w2.heap.size by have:=hb.1; omega)]) (fun b hb=>⟨hb.1,by rw [hse9]; exact hb.2⟩))
 replace HDI:=Lh (SlS.kept DirC.stays HDI.out (w':=wg9) (S':=fun b=>wg5.heap.size<=b/\b<wg9.heap.size) (fun b hb=>by rw [hW]; simp only [hpn (show b≠w2.heap.size by have:=hb.1; omega)]) (fun b hb=>⟨hb.1,by rw [hse9]; exact hb.2⟩))
 replace HBD:=Lh (SlS.kept FldC.stays HBD.out (w':=wg9) (S':=fun b=>wg7.heap.size<=b/\b<wg9.heap.size) (fun b hb=>by rw [hW]; simp only [hpn (show b≠w2.heap.size by have:=hb.1; omega)]) (fun b hb=>⟨hb.1,by rw [hse9]; exact hb.2⟩))
 replace hlv2:w2.heap.size<wg9.heap.size:=by omega
 clear hW;obtain ⟨wz,hW⟩ : ∃ x,x=(((((((wg9.setCell ⟨w.heap.size,0,none⟩ (.int .i64 1)).setCell ⟨w.heap.size,1,none⟩ (.string nm)).setCell ⟨w.heap.size,2,none⟩ (.slice A2 im.length d2)).setCell ⟨w.heap.size,3,none⟩ (.slice A3 dirs.length d3)).setCell ⟨w.heap.size,4,none⟩ (.slice A4 bd.length d4)).setCell ⟨w.heap.size,5,none⟩ (.slice none 0 0)).setCell ⟨w.heap.size,6,none⟩ (.slice none 0 0)):=⟨_,rfl⟩;rw [<- hW];have HZ:Hid (Bk wz w.heap.size #[.int .i64 1,.string nm,.slice A2 im.length d2,.slice A3 dirs.length d3,.slice A4 bd.length d4,.slice none 0 0,.slice none 0 0] 39):=Lh (by rw [hW]; exact (((((((HR9.out.setl _ _).setl _ _).setl _ _).setl _ _).setl _ _).setl _ _).setl _ _))
 have HTZ:Hid (Tw p w.heap.size w wz):=Lh (by rw [hW]; exact (((((((HT9.out.setNew (Nat.le_refl _) _ _).setNew (Nat.le_refl _) _ _).setNew (Nat.le_refl _) _ _).setNew (Nat.le_refl _) _ _).setNew (Nat.le_refl _) _ _).setNew (Nat.le_refl _) _ _).setNew (Nat.le_refl _) _ _))
 have HPZ:=Lh (HP9.out.same (w':=wz) (by rw [hW]; exact (bsc (bsc (bsc (bsc (bsc (bsc (bsc (Below.refl (p+1) wg9) (by omega)) (by omega)) (by omega)) (by omega)) (by omega)) (by omega)) (by omega))))
 have hsez:wz.heap.size=wg9.heap.size:=by rw [hW]; simp [World.setCell]
 replace HIM:=Lh (SlS.kept StrC.stays HIM.out (w':=wz) (S':=fun b=>w.heap.size<=b/\b<wz.heap.size) (fun b hb=>by rw [hW]; simp only [hpn (show b≠w.heap.size by have:=hb.1; omega)]) (fun b hb=>⟨by have:=hb.1; omega,by rw [hsez]; exact hb.2⟩))
 replace HDI:=Lh (SlS.kept DirC.stays HDI.out (w':=wz) (S':=fun b=>w.heap.size<=b/\b<wz.heap.size) (fun b hb=>by rw [hW]; simp only [hpn (show b≠w.heap.size by have:=hb.1; omega)]) (fun b hb=>⟨by have:=hb.1; omega,by rw [hsez]; exact hb.2⟩))
 replace HBD:=Lh (SlS.kept FldC.stays HBD.out (w':=wz) (S':=fun b=>w.heap.size<=b/\b<wz.heap.size) (fun b hb=>by rw [hW]; simp only [hpn (show b≠w.heap.size by have:=hb.1; omega)]) (fun b hb=>⟨by have:=hb.1; omega,by rw [hsez]; exact hb.2⟩))
 obtain ⟨z0,z1,z2,z3,z4,z5,z6,_⟩:=HZ.out.o7;clear hW;exact bodyPost_ret (v:=.agg #[.int .i64 1,.string nm,.slice A2 im.length d2,.slice A3 dirs.length d3,.slice A4 bd.length d4,.slice none 0 0,.slice none 0 0]) (by simp [results,Tryz.results55,go_sem,z0,z1,z2,z3,z4,z5,z6]) rfl (.inl ⟨⟨1,nm,im,dirs,bd,[],[]⟩,_,_,_,HD4.out,rfl,⟨_,_,_,_,_,_,_,rfl,⟨rfl,by show small 1; unfold small; omega,rfl,Nat.le_trans HN.out (by decide),HIM.out,HDI.out,HBD.out,SlS.nil _ _,SlS.nil _ _⟩⟩,HPZ.out,HTZ.out⟩)
theorem yd6 (p:Nat) (fel:List Tk->Except Er (FldT × List Tk)) (hfel:∀ (W:World) (ts:List Tk) (m:Nat),PSt W p ts m->isNm ts=true->Calls Tryz.prog 116 #[pP p] W (WPost FldV W p (fel ts))) (hflt:∀ (ts:List Tk) (x:FldT) (ts':List Tk),Good ts->isNm ts=true->fel ts=.ok (x,ts')->ts'.length<ts.length) (del:List Tk->Except Er (DirT × List Tk)) (hdel:∀ (W:World) (ts:List Tk) (m:Nat),PSt W p ts m->isSg [64] ts=true->Calls Tryz.prog 202 #[pP p,whV p] W (WPost DirV W p (del ts))) (hdlt:∀ (ts:List Tk) (x:DirT) (ts':List Tk),Good ts->isSg [64] ts=true->del ts=.ok (x,ts')->ts'.length<ts.length) (w:World) (ts:List Tk) (n:Nat) (hnm:isNm ts=true) (h:PSt w p ts n) :
  Calls Tryz.prog 55 #[pP p,.int .i64 2] w (WPost DefV w p (df2 fel del ts)):=by
 have HNE:=Lh (zp9 hnm);clear hnm;have HEL:=Lh hfel;have HLT:=Lh hflt;clear hfel hflt;have HDEL:=Lh hdel;have HDLT:=Lh hdlt;clear hdel hdlt;have hmf:∀ (fn:Fn) (first cap:Array Value) (w:World),(Instr.makeFunc fn first cap).run Tryz.prog w=.ok (.func fn first cap) w:=fun _ _ _ _=>rfl;have HD0:Hid (df2 fel del ts=df2 fel del ts):=Lh rfl;have hpw:=h.lt;have hhp:p≠w.heap.size:=by omega
 have HP0:Hid (PSt (w.alloc (.cells #[.int .i64 0,.string ⟨#[]⟩,.slice none 0 0,.slice none 0 0,.slice none 0 0,.slice none 0 0,.slice none 0 0] 39 (0,0))) p ts n):=Lh (h.stay (za1 _ _));have HR0:Hid (Bk (w.alloc (.cells #[.int .i64 0,.string ⟨#[]⟩,.slice none 0 0,.slice none 0 0,.slice none 0 0,.slice none 0 0,.slice none 0 0] 39 (0,0))) w.heap.size #[.int .i64 0,.string ⟨#[]⟩,.slice none 0 0,.slice none 0 0,.slice none 0 0,.slice none 0 0,.slice none 0 0] 39):=Lh (Bk.new _ _ _);have HT0:Hid (Tw p w.heap.size w (w.alloc (.cells #[.int .i64 0,.string ⟨#[]⟩,.slice none 0 0,.slice none 0 0,.slice none 0 0,.slice none 0 0,.slice none 0 0] 39 (0,0)))):=Lh (.of (za1 _ _));have hsz0:w.heap.size<(w.alloc (.cells #[.int .i64 0,.string ⟨#[]⟩,.slice none 0 0,.slice none 0 0,.slice none 0 0,.slice none 0 0,.slice none 0 0] 39 (0,0))).heap.size:=by simp
 clear h;have HDU:Hid (df2 fel del ts=exB (nmR ts.tail) fun q=>exB (drsR del q.2) fun d=>exB (blR [123] [125] 64 fel d.2) fun f=>.ok (⟨2,q.1,[],d.1,f.1,[],[]⟩,f.2)):=Lh rfl;replace HD0:=HDU;clear HDU;generalize df2 fel del ts=R at *
 go_enter Tryz.func55, Tryz.ntmps55
 go_wp2_with fail
 refine (zd3 HP0.out HNE.out).mono ?_
 rintro e w1 ⟨rfl,hp,ht⟩;have HT1:=Lh (HT0.out.step HT0.out.size ht);have HR1:=Lh (HR0.out.far ht (by omega))
 have hsz1:w.heap.size<w1.heap.size:=Nat.lt_of_lt_of_le hsz0 ht.size;have HP1:=Lh hp;clear hp ht;generalize tkV (hd ts)=tv at *;go_wp2_with fail
 refine (zc9 HP1.out).mono ?_
 rintro e w2 (⟨nm,ts2,v,hr,rfl,⟨rfl,hnz⟩,hp,ht⟩ | ⟨x,hr,rfl,ht⟩);rotate_left
 ·exact ⟨rfl,.inr ⟨_,HD0.out.trans (za7 hr),rfl,HT1.out.step HT1.out.size ht⟩⟩
 have HD1:=Lh (HD0.out.trans (za3 hr));have HT2:=Lh (HT1.out.step HT1.out.size ht);have HR2:=Lh (HR1.out.far ht (by omega))
 have hsz2:w.heap.size<w2.heap.size:=Nat.lt_of_lt_of_le hsz1 ht.size;have HP2:=Lh hp;have HN:=Lh hnz;clear hr hp ht hnz;go_wp2_with fail
 have ht:Tw p w2.heap.size w2 (w2.alloc (.cells #[.int .i64 2,.string nm,.slice none 0 0,.slice none 0 0,.slice none 0 0,.slice none 0 0,.slice none 0 0] 39 (0,0))):=.of (za1 _ _);have hlv:w.heap.size<w2.heap.size:=hsz2;have hlp:p≠w2.heap.size:=by omega
 have hlv2:w2.heap.size<(w2.alloc (.cells #[.int .i64 2,.string nm,.slice none 0 0,.slice none 0 0,.slice none 0 0,.slice none 0 0,.slice none 0 0] 39 (0,0))).heap.size:=by simp
 have HT3:=Lh (HT2.out.step HT2.out.size ht);have HR3:=Lh (HR2.out.far ht (by omega))
 have HV3:Hid (Bk (w2.alloc (.cells #[.int .i64 2,.string nm,.slice none 0 0,.slice none 0 0,.slice none 0 0,.slice none 0 0,.slice none 0 0] 39 (0,0))) w2.heap.size #[.int .i64 2,.string nm,.slice none 0 0,.slice none 0 0,.slice none 0 0,.slice none 0 0,.slice none 0 0] 39):=Lh (Bk.new _ _ _);have HP3:=Lh (HP2.out.stay (za1 w2 (.cells #[.int .i64 2,.string nm,.slice none 0 0,.slice none 0 0,.slice none 0 0,.slice none 0 0,.slice none 0 0] 39 (0,0))));have hsz3:w.heap.size<(w2.alloc (.cells #[.int .i64 2,.string nm,.slice none 0 0,.slice none 0 0,.slice none 0 0,.slice none 0 0,.slice none 0 0] 39 (0,0))).heap.size:=by simp; omega
 clear ht;go_wp2_with fail
 have hlw4:w2.heap.size<(w2.alloc (.cells #[.int .i64 2,.string nm,.slice none 0 0,.slice none 0 0,.slice none 0 0,.slice none 0 0,.slice none 0 0] 39 (0,0))).heap.size:=hlv2;refine (zb8 p del HDEL.out HDLT.out _ _ _ HP3.out).mono ?_
 rintro e w4 (⟨dirs,ts4,v4,m4,hr,rfl,hx,hp,ht⟩ | ⟨x,hr,rfl,ht⟩);rotate_left
 ·exact ⟨rfl,.inr ⟨_,HD1.out.trans (za7 hr),rfl,HT3.out.step HT3.out.size ht⟩⟩
 have HD2:=Lh (HD1.out.trans (za3 hr));have HT4:=Lh (HT3.out.step HT3.out.size ht);have HR4:=Lh (HR3.out.far ht (by omega))
 have HV4:=Lh (HV3.out.far ht (by have:=hlv; omega))
 have hsz4:w.heap.size<w4.heap.size:=Nat.lt_of_lt_of_le hsz3 ht.size;replace hlv2:=Nat.lt_of_lt_of_le hlv2 ht.size;have HP4:=Lh hp;have hlo4:(w2.alloc (.cells #[.int .i64 2,.string nm,.slice none 0 0,.slice none 0 0,.slice none 0 0,.slice none 0 0,.slice none 0 0] 39 (0,0))).heap.size<=w4.heap.size:=ht.size;obtain ⟨A3,d3,hv3,_,_⟩:=SlS.form hx;subst hv3;have HDI:=Lh hx;clear hr hp ht hx;obtain ⟨x0,x1,x2,x3,x4,x5,x6,fx⟩:=HV4.out.o7;go_wp2_with fail
 clear x0 x1 x2 x3 x4 x5 x6 fx;obtain ⟨wg5,hW⟩ : ∃ x,x=(w4.setCell ⟨w2.heap.size,3,none⟩ (.slice A3 dirs.length d3)):=⟨_,rfl⟩;rw [<- hW];have HT5:Hid (Tw p w.heap.size w wg5):=Lh (by rw [hW]; exact (HT4.out.setNew (by omega) _ _))
 have HR5:Hid (Bk wg5 w.heap.size #[.int .i64 0,.string ⟨#[]⟩,.slice none 0 0,.slice none 0 0,.slice none 0 0,.slice none 0 0,.slice none 0 0] 39):=Lh (by rw [hW]; exact (HR4.out.off (by omega) _ _))
 have HV5:Hid (Bk wg5 w2.heap.size #[.int .i64 2,.string nm,.slice none 0 0,.slice A3 dirs.length d3,.slice none 0 0,.slice none 0 0,.slice none 0 0] 39):=Lh (by rw [hW]; exact (HV4.out.setl _ _))
 have HP5:=Lh (HP4.out.same (w':=wg5) (by rw [hW]; exact (bsc (Below.refl (p+1) w4) (by omega))))
 have hse5:wg5.heap.size=w4.heap.size:=by rw [hW]; simp [World.setCell]
 have hsz5:w.heap.size<wg5.heap.size:=by omega
 replace HDI:=Lh (SlS.kept DirC.stays HDI.out (w':=wg5) (S':=fun b=>(w2.alloc (.cells #[.int .i64 2,.string nm,.slice none 0 0,.slice none 0 0,.slice none 0 0,.slice none 0 0,.slice none 0 0] 39 (0,0))).heap.size<=b/\b<wg5.heap.size) (fun b hb=>by rw [hW]; simp only [hpn (show b≠w2.heap.size by have:=hb.1; omega)]) (fun b hb=>⟨hb.1,by rw [hse5]; exact hb.2⟩))
 replace hlv2:w2.heap.size<wg5.heap.size:=by omega
 clear hW;have hlw6:w2.heap.size<wg5.heap.size:=hlv2;refine (zr0 p fel HEL.out HLT.out _ _ _ HP5.out 123 125 64 (by omega) 64 rfl).mono ?_
 rintro e w6 (⟨bd,ts6,v6,m6,hr,rfl,hx,hp,ht⟩ | ⟨x,hr,rfl,ht⟩);rotate_left
 ·exact ⟨rfl,.inr ⟨_,HD2.out.trans (za7 hr),rfl,HT5.out.step HT5.out.size ht⟩⟩
 have HD3:=Lh (HD2.out.trans (za3 hr));have HT6:=Lh (HT5.out.step HT5.out.size ht);have HR6:=Lh (HR5.out.far ht (by omega))
 have HV6:=Lh (HV5.out.far ht (by have:=hlv; omega))
 replace HDI:=Lh (SlS.kept DirC.stays HDI.out (w':=w6) (S':=fun b=>(w2.alloc (.cells #[.int .i64 2,.string nm,.slice none 0 0,.slice none 0 0,.slice none 0 0,.slice none 0 0,.slice none 0 0] 39 (0,0))).heap.size<=b/\b<w6.heap.size) (fun b hb=>ht.block b hb.2 (by have:=hb.1; omega)) (fun b hb=>⟨hb.1,Nat.lt_of_lt_of_le hb.2 ht.size⟩))
 have hsz6:w.heap.size<w6.heap.size:=Nat.lt_of_lt_of_le hsz5 ht.size;replace hlv2:=Nat.lt_of_lt_of_le hlv2 ht.size;have HP6:=Lh hp;have hlo6:wg5.heap.size<=w6.heap.size:=ht.size;obtain ⟨A4,d4,hv4,_,_⟩:=SlS.form hx;subst hv4;have HBD:=Lh hx;clear hr hp ht hx;obtain ⟨x0,x1,x2,x3,x4,x5,x6,fx⟩:=HV6.out.o7;obtain ⟨y0,y1,y2,y3,y4,y5,y6,fy⟩:=HR6.out.o7;have hne:w.heap.size≠w2.heap.size:=by omega
 have hne2:w2.heap.size≠w.heap.size:=by omega
 go_wp2_with fail
 clear x0 x1 x2 x3 x4 x5 x6 fx;clear y0 y1 y2 y3 y4 y5 y6 fy;obtain ⟨wg7,hW⟩ : ∃ x,x=(w6.setCell ⟨w2.heap.size,4,none⟩ (.slice A4 bd.length d4)):=⟨_,rfl⟩;rw [<- hW];have HT7:Hid (Tw p w.heap.size w wg7):=Lh (by rw [hW]; exact (HT6.out.setNew (by omega) _ _))
 have HR7:Hid (Bk wg7 w.heap.size #[.int .i64 0,.string ⟨#[]⟩,.slice none 0 0,.slice none 0 0,.slice none 0 0,.slice none 0 0,.slice none 0 0] 39):=Lh (by rw [hW]; exact (HR6.out.off (by omega) _ _))
 have HV7:Hid (Bk wg7 w2.heap.size #[.int .i64 2,.string nm,.slice none 0 0,.slice A3 dirs.length d3,.slice A4 bd.length d4,.slice none 0 0,.slice none 0 0] 39):=Lh (by rw [hW]; exact (HV6.out.setl _ _))
 have HP7:=Lh (HP6.out.same (w':=wg7) (by rw [hW]; exact (bsc (Below.refl (p+1) w6) (by omega))))
 have hse7:wg7.heap.size=w6.heap.size:=by rw [hW]; simp [World.setCell]
 have hsz7:w.heap.size<wg7.heap.size:=by omega
 replace HDI:=Lh (SlS.kept DirC.stays HDI.out (w':=wg7) (S':=fun b=>(w2.alloc (.cells #[.int .i64 2,.string nm,.slice none 0 0,.slice none 0 0,.slice none 0 0,.slice none 0 0,.slice none 0 0] 39 (0,0))).heap.size<=b/\b<wg7.heap.size) (fun b hb=>by rw [hW]; simp only [hpn (show b≠w2.heap.size by have:=hb.1; omega)]) (fun b hb=>⟨hb.1,by rw [hse7]; exact hb.2⟩))
 replace HBD:=Lh (SlS.kept FldC.stays HBD.out (w':=wg7) (S':=fun b=>wg5.heap.size<=b/\b<wg7.heap.size) (fun b hb=>by rw [hW]; simp only [hpn (show b≠w2.heap.size by have:=hb.1; omega)]) (fun b hb=>⟨hb.1,by rw [hse7]; exact hb.2⟩))
 replace hlv2:w2.heap.size<wg7.heap.size:=by omega
 clear hW;obtain ⟨wz,hW⟩ : ∃ x,x=(((((((wg7.setCell ⟨w.heap.size,0,none⟩ (.int .i64 2)).setCell ⟨w.heap.size,1,none⟩ (.string nm)).setCell ⟨w.heap.size,2,none⟩ (.slice none 0 0)).setCell ⟨w.heap.size,3,none⟩ (.slice A3 dirs.length d3)).setCell ⟨w.heap.size,4,none⟩ (.slice A4 bd.length d4)).setCell ⟨w.heap.size,5,none⟩ (.slice none 0 0)).setCell ⟨w.heap.size,6,none⟩ (.slice none 0 0)):=⟨_,rfl⟩;rw [<- hW];have HZ:Hid (Bk wz w.heap.size #[.int .i64 2,.string nm,.slice none 0 0,.slice A3 dirs.length d3,.slice A4 bd.length d4,.slice none 0 0,.slice none 0 0] 39):=Lh (by rw [hW]; exact (((((((HR7.out.setl _ _).setl _ _).setl _ _).setl _ _).setl _ _).setl _ _).setl _ _))
 have HTZ:Hid (Tw p w.heap.size w wz):=Lh (by rw [hW]; exact (((((((HT7.out.setNew (Nat.le_refl _) _ _).setNew (Nat.le_refl _) _ _).setNew (Nat.le_refl _) _ _).setNew (Nat.le_refl _) _ _).setNew (Nat.le_refl _) _ _).setNew (Nat.le_refl _) _ _).setNew (Nat.le_refl _) _ _))
 have HPZ:=Lh (HP7.out.same (w':=wz) (by rw [hW]; exact (bsc (bsc (bsc (bsc (bsc (bsc (bsc (Below.refl (p+1) wg7) (by omega)) (by omega)) (by omega)) (by omega)) (by omega)) (by omega)) (by omega))))
 have hsez:wz.heap.size=wg7.heap.size:=by rw [hW]; simp [World.setCell]
 replace HDI:=Lh (SlS.kept DirC.stays HDI.out (w':=wz) (S':=fun b=>w.heap.size<=b/\b<wz.heap.size) (fun b hb=>by rw [hW]; simp only [hpn (show b≠w.heap.size by have:=hb.1; omega)]) (fun b hb=>⟨by have:=hb.1; omega,by rw [hsez]; exact hb.2⟩))
 replace HBD:=Lh (SlS.kept FldC.stays HBD.out (w':=wz) (S':=fun b=>w.heap.size<=b/\b<wz.heap.size) (fun b hb=>by rw [hW]; simp only [hpn (show b≠w.heap.size by have:=hb.1; omega)]) (fun b hb=>⟨by have:=hb.1; omega,by rw [hsez]; exact hb.2⟩))
 obtain ⟨z0,z1,z2,z3,z4,z5,z6,_⟩:=HZ.out.o7;clear hW;exact bodyPost_ret (v:=.agg #[.int .i64 2,.string nm,.slice none 0 0,.slice A3 dirs.length d3,.slice A4 bd.length d4,.slice none 0 0,.slice none 0 0]) (by simp [results,Tryz.results55,go_sem,z0,z1,z2,z3,z4,z5,z6]) rfl (.inl ⟨⟨2,nm,[],dirs,bd,[],[]⟩,_,_,_,HD3.out,rfl,⟨_,_,_,_,_,_,_,rfl,⟨rfl,by show small 2; unfold small; omega,rfl,Nat.le_trans HN.out (by decide),SlS.nil _ _,HDI.out,HBD.out,SlS.nil _ _,SlS.nil _ _⟩⟩,HPZ.out,HTZ.out⟩)
theorem yd5 (p:Nat) (del:List Tk->Except Er (DirT × List Tk)) (hdel:∀ (W:World) (ts:List Tk) (m:Nat),PSt W p ts m->isSg [64] ts=true->Calls Tryz.prog 202 #[pP p,whV p] W (WPost DirV W p (del ts))) (hdlt:∀ (ts:List Tk) (x:DirT) (ts':List Tk),Good ts->isSg [64] ts=true->del ts=.ok (x,ts')->ts'.length<ts.length) (w:World) (ts:List Tk) (n:Nat) (hnm:isNm ts=true) (h:PSt w p ts n) :
  Calls Tryz.prog 55 #[pP p,.int .i64 3] w (WPost DefV w p (df3 del ts)):=by
 have HNE:=Lh (zp9 hnm);clear hnm;have HDEL:=Lh hdel;have HDLT:=Lh hdlt;clear hdel hdlt;have hmf:∀ (fn:Fn) (first cap:Array Value) (w:World),(Instr.makeFunc fn first cap).run Tryz.prog w=.ok (.func fn first cap) w:=fun _ _ _ _=>rfl;have HD0:Hid (df3 del ts=df3 del ts):=Lh rfl;have hpw:=h.lt;have hhp:p≠w.heap.size:=by omega
 have HP0:Hid (PSt (w.alloc (.cells #[.int .i64 0,.string ⟨#[]⟩,.slice none 0 0,.slice none 0 0,.slice none 0 0,.slice none 0 0,.slice none 0 0] 39 (0,0))) p ts n):=Lh (h.stay (za1 _ _));have HR0:Hid (Bk (w.alloc (.cells #[.int .i64 0,.string ⟨#[]⟩,.slice none 0 0,.slice none 0 0,.slice none 0 0,.slice none 0 0,.slice none 0 0] 39 (0,0))) w.heap.size #[.int .i64 0,.string ⟨#[]⟩,.slice none 0 0,.slice none 0 0,.slice none 0 0,.slice none 0 0,.slice none 0 0] 39):=Lh (Bk.new _ _ _);have HT0:Hid (Tw p w.heap.size w (w.alloc (.cells #[.int .i64 0,.string ⟨#[]⟩,.slice none 0 0,.slice none 0 0,.slice none 0 0,.slice none 0 0,.slice none 0 0] 39 (0,0)))):=Lh (.of (za1 _ _));have hsz0:w.heap.size<(w.alloc (.cells #[.int .i64 0,.string ⟨#[]⟩,.slice none 0 0,.slice none 0 0,.slice none 0 0,.slice none 0 0,.slice none 0 0] 39 (0,0))).heap.size:=by simp
 clear h;have HDU:Hid (df3 del ts=exB (nmR ts.tail) fun q=>exB (drsR del q.2) fun d=>exB (uniP d.2) fun f=>.ok (⟨3,q.1,[],d.1,[],f.1,[]⟩,f.2)):=Lh rfl;replace HD0:=HDU;clear HDU;generalize df3 del ts=R at *
 go_enter Tryz.func55, Tryz.ntmps55
 go_wp2_with fail
 refine (zd3 HP0.out HNE.out).mono ?_
 rintro e w1 ⟨rfl,hp,ht⟩;have HT1:=Lh (HT0.out.step HT0.out.size ht);have HR1:=Lh (HR0.out.far ht (by omega))
 have hsz1:w.heap.size<w1.heap.size:=Nat.lt_of_lt_of_le hsz0 ht.size;have HP1:=Lh hp;clear hp ht;generalize tkV (hd ts)=tv at *;go_wp2_with fail
 refine (zc9 HP1.out).mono ?_
 rintro e w2 (⟨nm,ts2,v,hr,rfl,⟨rfl,hnz⟩,hp,ht⟩ | ⟨x,hr,rfl,ht⟩);rotate_left
 ·exact ⟨rfl,.inr ⟨_,HD0.out.trans (za7 hr),rfl,HT1.out.step HT1.out.size ht⟩⟩
 have HD1:=Lh (HD0.out.trans (za3 hr));have HT2:=Lh (HT1.out.step HT1.out.size ht);have HR2:=Lh (HR1.out.far ht (by omega))
 have hsz2:w.heap.size<w2.heap.size:=Nat.lt_of_lt_of_le hsz1 ht.size;have HP2:=Lh hp;have HN:=Lh hnz;clear hr hp ht hnz;go_wp2_with fail
 have ht:Tw p w2.heap.size w2 (w2.alloc (.cells #[.int .i64 3,.string nm,.slice none 0 0,.slice none 0 0,.slice none 0 0,.slice none 0 0,.slice none 0 0] 39 (0,0))):=.of (za1 _ _);have hlv:w.heap.size<w2.heap.size:=hsz2;have hlp:p≠w2.heap.size:=by omega
 have hlv2:w2.heap.size<(w2.alloc (.cells #[.int .i64 3,.string nm,.slice none 0 0,.slice none 0 0,.slice none 0 0,.slice none 0 0,.slice none 0 0] 39 (0,0))).heap.size:=by simp
 have HT3:=Lh (HT2.out.step HT2.out.size ht);have HR3:=Lh (HR2.out.far ht (by omega))
 have HV3:Hid (Bk (w2.alloc (.cells #[.int .i64 3,.string nm,.slice none 0 0,.slice none 0 0,.slice none 0 0,.slice none 0 0,.slice none 0 0] 39 (0,0))) w2.heap.size #[.int .i64 3,.string nm,.slice none 0 0,.slice none 0 0,.slice none 0 0,.slice none 0 0,.slice none 0 0] 39):=Lh (Bk.new _ _ _);have HP3:=Lh (HP2.out.stay (za1 w2 (.cells #[.int .i64 3,.string nm,.slice none 0 0,.slice none 0 0,.slice none 0 0,.slice none 0 0,.slice none 0 0] 39 (0,0))));have hsz3:w.heap.size<(w2.alloc (.cells #[.int .i64 3,.string nm,.slice none 0 0,.slice none 0 0,.slice none 0 0,.slice none 0 0,.slice none 0 0] 39 (0,0))).heap.size:=by simp; omega
 clear ht;go_wp2_with fail
 have hlw4:w2.heap.size<(w2.alloc (.cells #[.int .i64 3,.string nm,.slice none 0 0,.slice none 0 0,.slice none 0 0,.slice none 0 0,.slice none 0 0] 39 (0,0))).heap.size:=hlv2;refine (zb8 p del HDEL.out HDLT.out _ _ _ HP3.out).mono ?_
 rintro e w4 (⟨dirs,ts4,v4,m4,hr,rfl,hx,hp,ht⟩ | ⟨x,hr,rfl,ht⟩);rotate_left
 ·exact ⟨rfl,.inr ⟨_,HD1.out.trans (za7 hr),rfl,HT3.out.step HT3.out.size ht⟩⟩
 have HD2:=Lh (HD1.out.trans (za3 hr));have HT4:=Lh (HT3.out.step HT3.out.size ht);have HR4:=Lh (HR3.out.far ht (by omega))
 have HV4:=Lh (HV3.out.far ht (by have:=hlv; omega))
 have hsz4:w.heap.size<w4.heap.size:=Nat.lt_of_lt_of_le hsz3 ht.size;replace hlv2:=Nat.lt_of_lt_of_le hlv2 ht.size;have HP4:=Lh hp;have hlo4:(w2.alloc (.cells #[.int .i64 3,.string nm,.slice none 0 0,.slice none 0 0,.slice none 0 0,.slice none 0 0,.slice none 0 0] 39 (0,0))).heap.size<=w4.heap.size:=ht.size;obtain ⟨A3,d3,hv3,_,_⟩:=SlS.form hx;subst hv3;have HDI:=Lh hx;clear hr hp ht hx;obtain ⟨x0,x1,x2,x3,x4,x5,x6,fx⟩:=HV4.out.o7;go_wp2_with fail
 clear x0 x1 x2 x3 x4 x5 x6 fx;obtain ⟨wg5,hW⟩ : ∃ x,x=(w4.setCell ⟨w2.heap.size,3,none⟩ (.slice A3 dirs.length d3)):=⟨_,rfl⟩;rw [<- hW];have HT5:Hid (Tw p w.heap.size w wg5):=Lh (by rw [hW]; exact (HT4.out.setNew (by omega) _ _))
 have HR5:Hid (Bk wg5 w.heap.size #[.int .i64 0,.string ⟨#[]⟩,.slice none 0 0,.slice none 0 0,.slice none 0 0,.slice none 0 0,.slice none 0 0] 39):=Lh (by rw [hW]; exact (HR4.out.off (by omega) _ _))
 have HV5:Hid (Bk wg5 w2.heap.size #[.int .i64 3,.string nm,.slice none 0 0,.slice A3 dirs.length d3,.slice none 0 0,.slice none 0 0,.slice none 0 0] 39):=Lh (by rw [hW]; exact (HV4.out.setl _ _))
 have HP5:=Lh (HP4.out.same (w':=wg5) (by rw [hW]; exact (bsc (Below.refl (p+1) w4) (by omega))))
 have hse5:wg5.heap.size=w4.heap.size:=by rw [hW]; simp [World.setCell]
 have hsz5:w.heap.size<wg5.heap.size:=by omega
 replace HDI:=Lh (SlS.kept DirC.stays HDI.out (w':=wg5) (S':=fun b=>(w2.alloc (.cells #[.int .i64 3,.string nm,.slice none 0 0,.slice none 0 0,.slice none 0 0,.slice none 0 0,.slice none 0 0] 39 (0,0))).heap.size<=b/\b<wg5.heap.size) (fun b hb=>by rw [hW]; simp only [hpn (show b≠w2.heap.size by have:=hb.1; omega)]) (fun b hb=>⟨hb.1,by rw [hse5]; exact hb.2⟩))
 replace hlv2:w2.heap.size<wg5.heap.size:=by omega
 clear hW;have hlw6:w2.heap.size<wg5.heap.size:=hlv2;refine (zW0 p _ _ _ HP5.out).mono ?_
 rintro e w6 (⟨bd,ts6,v6,m6,hr,rfl,hx,hp,ht⟩ | ⟨x,hr,rfl,ht⟩);rotate_left
 ·exact ⟨rfl,.inr ⟨_,HD2.out.trans (za7 hr),rfl,HT5.out.step HT5.out.size ht⟩⟩
 have HD3:=Lh (HD2.out.trans (za3 hr));have HT6:=Lh (HT5.out.step HT5.out.size ht);have HR6:=Lh (HR5.out.far ht (by omega))
 have HV6:=Lh (HV5.out.far ht (by have:=hlv; omega))
 replace HDI:=Lh (SlS.kept DirC.stays HDI.out (w':=w6) (S':=fun b=>(w2.alloc (.cells #[.int .i64 3,.string nm,.slice none 0 0,.slice none 0 0,.slice none 0 0,.slice none 0 0,.slice none 0 0] 39 (0,0))).heap.size<=b/\b<w6.heap.size) (fun b hb=>ht.block b hb.2 (by have:=hb.1; omega)) (fun b hb=>⟨hb.1,Nat.lt_of_lt_of_le hb.2 ht.size⟩))
 have hsz6:w.heap.size<w6.heap.size:=Nat.lt_of_lt_of_le hsz5 ht.size;replace hlv2:=Nat.lt_of_lt_of_le hlv2 ht.size;have HP6:=Lh hp;have hlo6:wg5.heap.size<=w6.heap.size:=ht.size;obtain ⟨A4,d4,hv4,_,_⟩:=SlS.form hx;subst hv4;have HBD:=Lh hx;clear hr hp ht hx;obtain ⟨x0,x1,x2,x3,x4,x5,x6,fx⟩:=HV6.out.o7;obtain ⟨y0,y1,y2,y3,y4,y5,y6,fy⟩:=HR6.out.o7;have hne:w.heap.size≠w2.heap.size:=by omega
 have hne2:w2.heap.size≠w.heap.size:=by omega
 go_wp2_with fail
 clear x0 x1 x2 x3 x4 x5 x6 fx;clear y0 y1 y2 y3 y4 y5 y6 fy;obtain ⟨wg7,hW⟩ : ∃ x,x=(w6.setCell ⟨w2.heap.size,5,none⟩ (.slice A4 bd.length d4)):=⟨_,rfl⟩;rw [<- hW];have HT7:Hid (Tw p w.heap.size w wg7):=Lh (by rw [hW]; exact (HT6.out.setNew (by omega) _ _))
 have HR7:Hid (Bk wg7 w.heap.size #[.int .i64 0,.string ⟨#[]⟩,.slice none 0 0,.slice none 0 0,.slice none 0 0,.slice none 0 0,.slice none 0 0] 39):=Lh (by rw [hW]; exact (HR6.out.off (by omega) _ _))
 have HV7:Hid (Bk wg7 w2.heap.size #[.int .i64 3,.string nm,.slice none 0 0,.slice A3 dirs.length d3,.slice none 0 0,.slice A4 bd.length d4,.slice none 0 0] 39):=Lh (by rw [hW]; exact (HV6.out.setl _ _))
 have HP7:=Lh (HP6.out.same (w':=wg7) (by rw [hW]; exact (bsc (Below.refl (p+1) w6) (by omega))))
 have hse7:wg7.heap.size=w6.heap.size:=by rw [hW]; simp [World.setCell]
 have hsz7:w.heap.size<wg7.heap.size:=by omega
 replace HDI:=Lh (SlS.kept DirC.stays HDI.out (w':=wg7) (S':=fun b=>(w2.alloc (.cells #[.int .i64 3,.string nm,.slice none 0 0,.slice none 0 0,.slice none 0 0,.slice none 0 0,.slice none 0 0] 39 (0,0))).heap.size<=b/\b<wg7.heap.size) (fun b hb=>by rw [hW]; simp only [hpn (show b≠w2.heap.size by have:=hb.1; omega)]) (fun b hb=>⟨hb.1,by rw [hse7]; exact hb.2⟩))
 replace HBD:=Lh (SlS.kept MemC.stays HBD.out (w':=wg7) (S':=fun b=>wg5.heap.size<=b/\b<wg7.heap.size) (fun b hb=>by rw [hW]; simp only [hpn (show b≠w2.heap.size by have:=hb.1; omega)]) (fun b hb=>⟨hb.1,by rw [hse7]; exact hb.2⟩))
 replace hlv2:w2.heap.size<wg7.heap.size:=by omega
 clear hW;obtain ⟨wz,hW⟩ : ∃ x,x=(((((((wg7.setCell ⟨w.heap.size,0,none⟩ (.int .i64 3)).setCell ⟨w.heap.size,1,none⟩ (.string nm)).setCell ⟨w.heap.size,2,none⟩ (.slice none 0 0)).setCell ⟨w.heap.size,3,none⟩ (.slice A3 dirs.length d3)).setCell ⟨w.heap.size,4,none⟩ (.slice none 0 0)).setCell ⟨w.heap.size,5,none⟩ (.slice A4 bd.length d4)).setCell ⟨w.heap.size,6,none⟩ (.slice none 0 0)):=⟨_,rfl⟩;rw [<- hW];have HZ:Hid (Bk wz w.heap.size #[.int .i64 3,.string nm,.slice none 0 0,.slice A3 dirs.length d3,.slice none 0 0,.slice A4 bd.length d4,.slice none 0 0] 39):=Lh (by rw [hW]; exact (((((((HR7.out.setl _ _).setl _ _).setl _ _).setl _ _).setl _ _).setl _ _).setl _ _))
 have HTZ:Hid (Tw p w.heap.size w wz):=Lh (by rw [hW]; exact (((((((HT7.out.setNew (Nat.le_refl _) _ _).setNew (Nat.le_refl _) _ _).setNew (Nat.le_refl _) _ _).setNew (Nat.le_refl _) _ _).setNew (Nat.le_refl _) _ _).setNew (Nat.le_refl _) _ _).setNew (Nat.le_refl _) _ _))
 have HPZ:=Lh (HP7.out.same (w':=wz) (by rw [hW]; exact (bsc (bsc (bsc (bsc (bsc (bsc (bsc (Below.refl (p+1) wg7) (by omega)) (by omega)) (by omega)) (by omega)) (by omega)) (by omega)) (by omega))))
 have hsez:wz.heap.size=wg7.heap.size:=by rw [hW]; simp [World.setCell]
 replace HDI:=Lh (SlS.kept DirC.stays HDI.out (w':=wz) (S':=fun b=>w.heap.size<=b/\b<wz.heap.size) (fun b hb=>by rw [hW]; simp only [hpn (show b≠w.heap.size by have:=hb.1; omega)]) (fun b hb=>⟨by have:=hb.1; omega,by rw [hsez]; exact hb.2⟩))
 replace HBD:=Lh (SlS.kept MemC.stays HBD.out (w':=wz) (S':=fun b=>w.heap.size<=b/\b<wz.heap.size) (fun b hb=>by rw [hW]; simp only [hpn (show b≠w.heap.size by have:=hb.1; omega)]) (fun b hb=>⟨by have:=hb.1; omega,by rw [hsez]; exact hb.2⟩))
 obtain ⟨z0,z1,z2,z3,z4,z5,z6,_⟩:=HZ.out.o7;clear hW;exact bodyPost_ret (v:=.agg #[.int .i64 3,.string nm,.slice none 0 0,.slice A3 dirs.length d3,.slice none 0 0,.slice A4 bd.length d4,.slice none 0 0]) (by simp [results,Tryz.results55,go_sem,z0,z1,z2,z3,z4,z5,z6]) rfl (.inl ⟨⟨3,nm,[],dirs,[],bd,[]⟩,_,_,_,HD3.out,rfl,⟨_,_,_,_,_,_,_,rfl,⟨rfl,by show small 3; unfold small; omega,rfl,Nat.le_trans HN.out (by decide),SlS.nil _ _,HDI.out,SlS.nil _ _,HBD.out,SlS.nil _ _⟩⟩,HPZ.out,HTZ.out⟩)
theorem yd4 (p:Nat) (mel:List Tk->Except Er (MemT × List Tk)) (hmel:∀ (W:World) (ts:List Tk) (m:Nat),PSt W p ts m->isNm ts=true->Calls Tryz.prog 119 #[pP p] W (WPost MemV W p (mel ts))) (hmlt:∀ (ts:List Tk) (x:MemT) (ts':List Tk),Good ts->isNm ts=true->mel ts=.ok (x,ts')->ts'.length<ts.length) (del:List Tk->Except Er (DirT × List Tk)) (hdel:∀ (W:World) (ts:List Tk) (m:Nat),PSt W p ts m->isSg [64] ts=true->Calls Tryz.prog 202 #[pP p,whV p] W (WPost DirV W p (del ts))) (hdlt:∀ (ts:List Tk) (x:DirT) (ts':List Tk),Good ts->isSg [64] ts=true->del ts=.ok (x,ts')->ts'.length<ts.length) (w:World) (ts:List Tk) (n:Nat) (hnm:isNm ts=true) (h:PSt w p ts n) :
  Calls Tryz.prog 55 #[pP p,.int .i64 4] w (WPost DefV w p (df4 mel del ts)):=by
 have HNE:=Lh (zp9 hnm);clear hnm;have HEL:=Lh hmel;have HLT:=Lh hmlt;clear hmel hmlt;have HDEL:=Lh hdel;have HDLT:=Lh hdlt;clear hdel hdlt;have hmf:∀ (fn:Fn) (first cap:Array Value) (w:World),(Instr.makeFunc fn first cap).run Tryz.prog w=.ok (.func fn first cap) w:=fun _ _ _ _=>rfl;have HD0:Hid (df4 mel del ts=df4 mel del ts):=Lh rfl;have hpw:=h.lt;have hhp:p≠w.heap.size:=by omega
 have HP0:Hid (PSt (w.alloc (.cells #[.int .i64 0,.string ⟨#[]⟩,.slice none 0 0,.slice none 0 0,.slice none 0 0,.slice none 0 0,.slice none 0 0] 39 (0,0))) p ts n):=Lh (h.stay (za1 _ _));have HR0:Hid (Bk (w.alloc (.cells #[.int .i64 0,.string ⟨#[]⟩,.slice none 0 0,.slice none 0 0,.slice none 0 0,.slice none 0 0,.slice none 0 0] 39 (0,0))) w.heap.size #[.int .i64 0,.string ⟨#[]⟩,.slice none 0 0,.slice none 0 0,.slice none 0 0,.slice none 0 0,.slice none 0 0] 39):=Lh (Bk.new _ _ _);have HT0:Hid (Tw p w.heap.size w (w.alloc (.cells #[.int .i64 0,.string ⟨#[]⟩,.slice none 0 0,.slice none 0 0,.slice none 0 0,.slice none 0 0,.slice none 0 0] 39 (0,0)))):=Lh (.of (za1 _ _));have hsz0:w.heap.size<(w.alloc (.cells #[.int .i64 0,.string ⟨#[]⟩,.slice none 0 0,.slice none 0 0,.slice none 0 0,.slice none 0 0,.slice none 0 0] 39 (0,0))).heap.size:=by simp
 clear h;have HDU:Hid (df4 mel del ts=exB (nmR ts.tail) fun q=>exB (drsR del q.2) fun d=>exB (blR [123] [125] 64 mel d.2) fun f=>.ok (⟨4,q.1,[],d.1,[],f.1,[]⟩,f.2)):=Lh rfl;replace HD0:=HDU;clear HDU;generalize df4 mel del ts=R at *
 go_enter Tryz.func55, Tryz.ntmps55
 go_wp2_with fail
 refine (zd3 HP0.out HNE.out).mono ?_
 rintro e w1 ⟨rfl,hp,ht⟩;have HT1:=Lh (HT0.out.step HT0.out.size ht);have HR1:=Lh (HR0.out.far ht (by omega))
 have hsz1:w.heap.size<w1.heap.size:=Nat.lt_of_lt_of_le hsz0 ht.size;have HP1:=Lh hp;clear hp ht;generalize tkV (hd ts)=tv at *;go_wp2_with fail
 refine (zc9 HP1.out).mono ?_
 rintro e w2 (⟨nm,ts2,v,hr,rfl,⟨rfl,hnz⟩,hp,ht⟩ | ⟨x,hr,rfl,ht⟩);rotate_left
 ·exact ⟨rfl,.inr ⟨_,HD0.out.trans (za7 hr),rfl,HT1.out.step HT1.out.size ht⟩⟩
 have HD1:=Lh (HD0.out.trans (za3 hr));have HT2:=Lh (HT1.out.step HT1.out.size ht);have HR2:=Lh (HR1.out.far ht (by omega))
 have hsz2:w.heap.size<w2.heap.size:=Nat.lt_of_lt_of_le hsz1 ht.size;have HP2:=Lh hp;have HN:=Lh hnz;clear hr hp ht hnz;go_wp2_with fail
 have ht:Tw p w2.heap.size w2 (w2.alloc (.cells #[.int .i64 4,.string nm,.slice none 0 0,.slice none 0 0,.slice none 0 0,.slice none 0 0,.slice none 0 0] 39 (0,0))):=.of (za1 _ _);have hlv:w.heap.size<w2.heap.size:=hsz2;have hlp:p≠w2.heap.size:=by omega
 have hlv2:w2.heap.size<(w2.alloc (.cells #[.int .i64 4,.string nm,.slice none 0 0,.slice none 0 0,.slice none 0 0,.slice none 0 0,.slice none 0 0] 39 (0,0))).heap.size:=by simp
 have HT3:=Lh (HT2.out.step HT2.out.size ht);have HR3:=Lh (HR2.out.far ht (by omega))
 have HV3:Hid (Bk (w2.alloc (.cells #[.int .i64 4,.string nm,.slice none 0 0,.slice none 0 0,.slice none 0 0,.slice none 0 0,.slice none 0 0] 39 (0,0))) w2.heap.size #[.int .i64 4,.string nm,.slice none 0 0,.slice none 0 0,.slice none 0 0,.slice none 0 0,.slice none 0 0] 39):=Lh (Bk.new _ _ _);have HP3:=Lh (HP2.out.stay (za1 w2 (.cells #[.int .i64 4,.string nm,.slice none 0 0,.slice none 0 0,.slice none 0 0,.slice none 0 0,.slice none 0 0] 39 (0,0))));have hsz3:w.heap.size<(w2.alloc (.cells #[.int .i64 4,.string nm,.slice none 0 0,.slice none 0 0,.slice none 0 0,.slice none 0 0,.slice none 0 0] 39 (0,0))).heap.size:=by simp; omega
 clear ht;go_wp2_with fail
 have hlw4:w2.heap.size<(w2.alloc (.cells #[.int .i64 4,.string nm,.slice none 0 0,.slice none 0 0,.slice none 0 0,.slice none 0 0,.slice none 0 0] 39 (0,0))).heap.size:=hlv2;refine (zb8 p del HDEL.out HDLT.out _ _ _ HP3.out).mono ?_
 rintro e w4 (⟨dirs,ts4,v4,m4,hr,rfl,hx,hp,ht⟩ | ⟨x,hr,rfl,ht⟩);rotate_left
 ·exact ⟨rfl,.inr ⟨_,HD1.out.trans (za7 hr),rfl,HT3.out.step HT3.out.size ht⟩⟩
 have HD2:=Lh (HD1.out.trans (za3 hr));have HT4:=Lh (HT3.out.step HT3.out.size ht);have HR4:=Lh (HR3.out.far ht (by omega))
 have HV4:=Lh (HV3.out.far ht (by have:=hlv; omega))
 have hsz4:w.heap.size<w4.heap.size:=Nat.lt_of_lt_of_le hsz3 ht.size;replace hlv2:=Nat.lt_of_lt_of_le hlv2 ht.size;have HP4:=Lh hp;have hlo4:(w2.alloc (.cells #[.int .i64 4,.string nm,.slice none 0 0,.slice none 0 0,.slice none 0 0,.slice none 0 0,.slice none 0 0] 39 (0,0))).heap.size<=w4.heap.size:=ht.size;obtain ⟨A3,d3,hv3,_,_⟩:=SlS.form hx;subst hv3;have HDI:=Lh hx;clear hr hp ht hx;obtain ⟨x0,x1,x2,x3,x4,x5,x6,fx⟩:=HV4.out.o7;go_wp2_with fail
 clear x0 x1 x2 x3 x4 x5 x6 fx;obtain ⟨wg5,hW⟩ : ∃ x,x=(w4.setCell ⟨w2.heap.size,3,none⟩ (.slice A3 dirs.length d3)):=⟨_,rfl⟩;rw [<- hW];have HT5:Hid (Tw p w.heap.size w wg5):=Lh (by rw [hW]; exact (HT4.out.setNew (by omega) _ _))
 have HR5:Hid (Bk wg5 w.heap.size #[.int .i64 0,.string ⟨#[]⟩,.slice none 0 0,.slice none 0 0,.slice none 0 0,.slice none 0 0,.slice none 0 0] 39):=Lh (by rw [hW]; exact (HR4.out.off (by omega) _ _))
 have HV5:Hid (Bk wg5 w2.heap.size #[.int .i64 4,.string nm,.slice none 0 0,.slice A3 dirs.length d3,.slice none 0 0,.slice none 0 0,.slice none 0 0] 39):=Lh (by rw [hW]; exact (HV4.out.setl _ _))
 have HP5:=Lh (HP4.out.same (w':=wg5) (by rw [hW]; exact (bsc (Below.refl (p+1) w4) (by omega))))
 have hse5:wg5.heap.size=w4.heap.size:=by rw [hW]; simp [World.setCell]
 have hsz5:w.heap.size<wg5.heap.size:=by omega
 replace HDI:=Lh (SlS.kept DirC.stays HDI.out (w':=wg5) (S':=fun b=>(w2.alloc (.cells #[.int .i64 4,.string nm,.slice none 0 0,.slice none 0 0,.slice none 0 0,.slice none 0 0,.slice none 0 0] 39 (0,0))).heap.size<=b/\b<wg5.heap.size) (fun b hb=>by rw [hW]; simp only [hpn (show b≠w2.heap.size by have:=hb.1; omega)]) (fun b hb=>⟨hb.1,by rw [hse5]; exact hb.2⟩))
 replace hlv2:w2.heap.size<wg5.heap.size:=by omega
 clear hW;have hlw6:w2.heap.size<wg5.heap.size:=hlv2;refine (zE2 p mel HEL.out HLT.out _ _ _ HP5.out 123 125 64 (by omega) 64 rfl).mono ?_
 rintro e w6 (⟨bd,ts6,v6,m6,hr,rfl,hx,hp,ht⟩ | ⟨x,hr,rfl,ht⟩);rotate_left
 ·exact ⟨rfl,.inr ⟨_,HD2.out.trans (za7 hr),rfl,HT5.out.step HT5.out.size ht⟩⟩
 have HD3:=Lh (HD2.out.trans (za3 hr));have HT6:=Lh (HT5.out.step HT5.out.size ht);have HR6:=Lh (HR5.out.far ht (by omega))
 have HV6:=Lh (HV5.out.far ht (by have:=hlv; omega))
 replace HDI:=Lh (SlS.kept DirC.stays HDI.out (w':=w6) (S':=fun b=>(w2.alloc (.cells #[.int .i64 4,.string nm,.slice none 0 0,.slice none 0 0,.slice none 0 0,.slice none 0 0,.slice none 0 0] 39 (0,0))).heap.size<=b/\b<w6.heap.size) (fun b hb=>ht.block b hb.2 (by have:=hb.1; omega)) (fun b hb=>⟨hb.1,Nat.lt_of_lt_of_le hb.2 ht.size⟩))
 have hsz6:w.heap.size<w6.heap.size:=Nat.lt_of_lt_of_le hsz5 ht.size;replace hlv2:=Nat.lt_of_lt_of_le hlv2 ht.size;have HP6:=Lh hp;have hlo6:wg5.heap.size<=w6.heap.size:=ht.size;obtain ⟨A4,d4,hv4,_,_⟩:=SlS.form hx;subst hv4;have HBD:=Lh hx;clear hr hp ht hx;obtain ⟨x0,x1,x2,x3,x4,x5,x6,fx⟩:=HV6.out.o7;obtain ⟨y0,y1,y2,y3,y4,y5,y6,fy⟩:=HR6.out.o7;have hne:w.heap.size≠w2.heap.size:=by omega
 have hne2:w2.heap.size≠w.heap.size:=by omega
 go_wp2_with fail
 clear x0 x1 x2 x3 x4 x5 x6 fx;clear y0 y1 y2 y3 y4 y5 y6 fy;obtain ⟨wg7,hW⟩ : ∃ x,x=(w6.setCell ⟨w2.heap.size,5,none⟩ (.slice A4 bd.length d4)):=⟨_,rfl⟩;rw [<- hW];have HT7:Hid (Tw p w.heap.size w wg7):=Lh (by rw [hW]; exact (HT6.out.setNew (by omega) _ _))
 have HR7:Hid (Bk wg7 w.heap.size #[.int .i64 0,.string ⟨#[]⟩,.slice none 0 0,.slice none 0 0,.slice none 0 0,.slice none 0 0,.slice none 0 0] 39):=Lh (by rw [hW]; exact (HR6.out.off (by omega) _ _))
 have HV7:Hid (Bk wg7 w2.heap.size #[.int .i64 4,.string nm,.slice none 0 0,.slice A3 dirs.length d3,.slice none 0 0,.slice A4 bd.length d4,.slice none 0 0] 39):=Lh (by rw [hW]; exact (HV6.out.setl _ _))
 have HP7:=Lh (HP6.out.same (w':=wg7) (by rw [hW]; exact (bsc (Below.refl (p+1) w6) (by omega))))
 have hse7:wg7.heap.size=w6.heap.size:=by rw [hW]; simp [World.setCell]
 have hsz7:w.heap.size<wg7.heap.size:=by omega
 replace HDI:=Lh (SlS.kept DirC.stays HDI.out (w':=wg7) (S':=fun b=>(w2.alloc (.cells #[.int .i64 4,.string nm,.slice none 0 0,.slice none 0 0,.slice none 0 0,.slice none 0 0,.slice none 0 0] 39 (0,0))).heap.size<=b/\b<wg7.heap.size) (fun b hb=>by rw [hW]; simp only [hpn (show b≠w2.heap.size by have:=hb.1; omega)]) (fun b hb=>⟨hb.1,by rw [hse7]; exact hb.2⟩))
 replace HBD:=Lh (SlS.kept MemC.stays HBD.out (w':=wg7) (S':=fun b=>wg5.heap.size<=b/\b<wg7.heap.size) (fun b hb=>by rw [hW]; simp only [hpn (show b≠w2.heap.size by have:=hb.1; omega)]) (fun b hb=>⟨hb.1,by rw [hse7]; exact hb.2⟩))
 replace hlv2:w2.heap.size<wg7.heap.size:=by omega
 clear hW;obtain ⟨wz,hW⟩ : ∃ x,x=(((((((wg7.setCell ⟨w.heap.size,0,none⟩ (.int .i64 4)).setCell ⟨w.heap.size,1,none⟩ (.string nm)).setCell ⟨w.heap.size,2,none⟩ (.slice none 0 0)).setCell ⟨w.heap.size,3,none⟩ (.slice A3 dirs.length d3)).setCell ⟨w.heap.size,4,none⟩ (.slice none 0 0)).setCell ⟨w.heap.size,5,none⟩ (.slice A4 bd.length d4)).setCell ⟨w.heap.size,6,none⟩ (.slice none 0 0)):=⟨_,rfl⟩;rw [<- hW];have HZ:Hid (Bk wz w.heap.size #[.int .i64 4,.string nm,.slice none 0 0,.slice A3 dirs.length d3,.slice none 0 0,.slice A4 bd.length d4,.slice none 0 0] 39):=Lh (by rw [hW]; exact (((((((HR7.out.setl _ _).setl _ _).setl _ _).setl _ _).setl _ _).setl _ _).setl _ _))
 have HTZ:Hid (Tw p w.heap.size w wz):=Lh (by rw [hW]; exact (((((((HT7.out.setNew (Nat.le_refl _) _ _).setNew (Nat.le_refl _) _ _).setNew (Nat.le_refl _) _ _).setNew (Nat.le_refl _) _ _).setNew (Nat.le_refl _) _ _).setNew (Nat.le_refl _) _ _).setNew (Nat.le_refl _) _ _))
 have HPZ:=Lh (HP7.out.same (w':=wz) (by rw [hW]; exact (bsc (bsc (bsc (bsc (bsc (bsc (bsc (Below.refl (p+1) wg7) (by omega)) (by omega)) (by omega)) (by omega)) (by omega)) (by omega)) (by omega))))
 have hsez:wz.heap.size=wg7.heap.size:=by rw [hW]; simp [World.setCell]
 replace HDI:=Lh (SlS.kept DirC.stays HDI.out (w':=wz) (S':=fun b=>w.heap.size<=b/\b<wz.heap.size) (fun b hb=>by rw [hW]; simp only [hpn (show b≠w.heap.size by have:=hb.1; omega)]) (fun b hb=>⟨by have:=hb.1; omega,by rw [hsez]; exact hb.2⟩))
 replace HBD:=Lh (SlS.kept MemC.stays HBD.out (w':=wz) (S':=fun b=>w.heap.size<=b/\b<wz.heap.size) (fun b hb=>by rw [hW]; simp only [hpn (show b≠w.heap.size by have:=hb.1; omega)]) (fun b hb=>⟨by have:=hb.1; omega,by rw [hsez]; exact hb.2⟩))
 obtain ⟨z0,z1,z2,z3,z4,z5,z6,_⟩:=HZ.out.o7;clear hW;exact bodyPost_ret (v:=.agg #[.int .i64 4,.string nm,.slice none 0 0,.slice A3 dirs.length d3,.slice none 0 0,.slice A4 bd.length d4,.slice none 0 0]) (by simp [results,Tryz.results55,go_sem,z0,z1,z2,z3,z4,z5,z6]) rfl (.inl ⟨⟨4,nm,[],dirs,[],bd,[]⟩,_,_,_,HD3.out,rfl,⟨_,_,_,_,_,_,_,rfl,⟨rfl,by show small 4; unfold small; omega,rfl,Nat.le_trans HN.out (by decide),SlS.nil _ _,HDI.out,SlS.nil _ _,HBD.out,SlS.nil _ _⟩⟩,HPZ.out,HTZ.out⟩)
theorem yd3 (p:Nat) (iel:List Tk->Except Er (InpT × List Tk)) (hiel:∀ (W:World) (ts:List Tk) (m:Nat),PSt W p ts m->isNm ts=true->Calls Tryz.prog 121 #[pP p] W (WPost InpV W p (iel ts))) (hilt:∀ (ts:List Tk) (x:InpT) (ts':List Tk),Good ts->isNm ts=true->iel ts=.ok (x,ts')->ts'.length<ts.length) (del:List Tk->Except Er (DirT × List Tk)) (hdel:∀ (W:World) (ts:List Tk) (m:Nat),PSt W p ts m->isSg [64] ts=true->Calls Tryz.prog 202 #[pP p,whV p] W (WPost DirV W p (del ts))) (hdlt:∀ (ts:List Tk) (x:DirT) (ts':List Tk),Good ts->isSg [64] ts=true->del ts=.ok (x,ts')->ts'.length<ts.length) (w:World) (ts:List Tk) (n:Nat) (hnm:isNm ts=true) (h:PSt w p ts n) :
  Calls Tryz.prog 55 #[pP p,.int .i64 5] w (WPost DefV w p (df5 iel del ts)):=by
 have HNE:=Lh (zp9 hnm);clear hnm;have HEL:=Lh hiel;have HLT:=Lh hilt;clear hiel hilt;have HDEL:=Lh hdel;have HDLT:=Lh hdlt;clear hdel hdlt;have hmf:∀ (fn:Fn) (first cap:Array Value) (w:World),(Instr.makeFunc fn first cap).run Tryz.prog w=.ok (.func fn first cap) w:=fun _ _ _ _=>rfl;have HD0:Hid (df5 iel del ts=df5 iel del ts):=Lh rfl;have hpw:=h.lt;have hhp:p≠w.heap.size:=by omega
 have HP0:Hid (PSt (w.alloc (.cells #[.int .i64 0,.string ⟨#[]⟩,.slice none 0 0,.slice none 0 0,.slice none 0 0,.slice none 0 0,.slice none 0 0] 39 (0,0))) p ts n):=Lh (h.stay (za1 _ _));have HR0:Hid (Bk (w.alloc (.cells #[.int .i64 0,.string ⟨#[]⟩,.slice none 0 0,.slice none 0 0,.slice none 0 0,.slice none 0 0,.slice none 0 0] 39 (0,0))) w.heap.size #[.int .i64 0,.string ⟨#[]⟩,.slice none 0 0,.slice none 0 0,.slice none 0 0,.slice none 0 0,.slice none 0 0] 39):=Lh (Bk.new _ _ _);have HT0:Hid (Tw p w.heap.size w (w.alloc (.cells #[.int .i64 0,.string ⟨#[]⟩,.slice none 0 0,.slice none 0 0,.slice none 0 0,.slice none 0 0,.slice none 0 0] 39 (0,0)))):=Lh (.of (za1 _ _));have hsz0:w.heap.size<(w.alloc (.cells #[.int .i64 0,.string ⟨#[]⟩,.slice none 0 0,.slice none 0 0,.slice none 0 0,.slice none 0 0,.slice none 0 0] 39 (0,0))).heap.size:=by simp
 clear h;have HDU:Hid (df5 iel del ts=exB (nmR ts.tail) fun q=>exB (drsR del q.2) fun d=>exB (blR [123] [125] 16 iel d.2) fun f=>.ok (⟨5,q.1,[],d.1,[],[],f.1⟩,f.2)):=Lh rfl;replace HD0:=HDU;clear HDU;generalize df5 iel del ts=R at *
 go_enter Tryz.func55, Tryz.ntmps55
 go_wp2_with fail
 refine (zd3 HP0.out HNE.out).mono ?_
 rintro e w1 ⟨rfl,hp,ht⟩;have HT1:=Lh (HT0.out.step HT0.out.size ht);have HR1:=Lh (HR0.out.far ht (by omega))
 have hsz1:w.heap.size<w1.heap.size:=Nat.lt_of_lt_of_le hsz0 ht.size;have HP1:=Lh hp;clear hp ht;generalize tkV (hd ts)=tv at *;go_wp2_with fail
 refine (zc9 HP1.out).mono ?_
 rintro e w2 (⟨nm,ts2,v,hr,rfl,⟨rfl,hnz⟩,hp,ht⟩ | ⟨x,hr,rfl,ht⟩);rotate_left
 ·exact ⟨rfl,.inr ⟨_,HD0.out.trans (za7 hr),rfl,HT1.out.step HT1.out.size ht⟩⟩
 have HD1:=Lh (HD0.out.trans (za3 hr));have HT2:=Lh (HT1.out.step HT1.out.size ht);have HR2:=Lh (HR1.out.far ht (by omega))
 have hsz2:w.heap.size<w2.heap.size:=Nat.lt_of_lt_of_le hsz1 ht.size;have HP2:=Lh hp;have HN:=Lh hnz;clear hr hp ht hnz;go_wp2_with fail
 have ht:Tw p w2.heap.size w2 (w2.alloc (.cells #[.int .i64 5,.string nm,.slice none 0 0,.slice none 0 0,.slice none 0 0,.slice none 0 0,.slice none 0 0] 39 (0,0))):=.of (za1 _ _);have hlv:w.heap.size<w2.heap.size:=hsz2;have hlp:p≠w2.heap.size:=by omega
 have hlv2:w2.heap.size<(w2.alloc (.cells #[.int .i64 5,.string nm,.slice none 0 0,.slice none 0 0,.slice none 0 0,.slice none 0 0,.slice none 0 0] 39 (0,0))).heap.size:=by simp
 have HT3:=Lh (HT2.out.step HT2.out.size ht);have HR3:=Lh (HR2.out.far ht (by omega))
 have HV3:Hid (Bk (w2.alloc (.cells #[.int .i64 5,.string nm,.slice none 0 0,.slice none 0 0,.slice none 0 0,.slice none 0 0,.slice none 0 0] 39 (0,0))) w2.heap.size #[.int .i64 5,.string nm,.slice none 0 0,.slice none 0 0,.slice none 0 0,.slice none 0 0,.slice none 0 0] 39):=Lh (Bk.new _ _ _);have HP3:=Lh (HP2.out.stay (za1 w2 (.cells #[.int .i64 5,.string nm,.slice none 0 0,.slice none 0 0,.slice none 0 0,.slice none 0 0,.slice none 0 0] 39 (0,0))));have hsz3:w.heap.size<(w2.alloc (.cells #[.int .i64 5,.string nm,.slice none 0 0,.slice none 0 0,.slice none 0 0,.slice none 0 0,.slice none 0 0] 39 (0,0))).heap.size:=by simp; omega
 clear ht;go_wp2_with fail
 have hlw4:w2.heap.size<(w2.alloc (.cells #[.int .i64 5,.string nm,.slice none 0 0,.slice none 0 0,.slice none 0 0,.slice none 0 0,.slice none 0 0] 39 (0,0))).heap.size:=hlv2;refine (zb8 p del HDEL.out HDLT.out _ _ _ HP3.out).mono ?_
 rintro e w4 (⟨dirs,ts4,v4,m4,hr,rfl,hx,hp,ht⟩ | ⟨x,hr,rfl,ht⟩);rotate_left
 ·exact ⟨rfl,.inr ⟨_,HD1.out.trans (za7 hr),rfl,HT3.out.step HT3.out.size ht⟩⟩
 have HD2:=Lh (HD1.out.trans (za3 hr));have HT4:=Lh (HT3.out.step HT3.out.size ht);have HR4:=Lh (HR3.out.far ht (by omega))
 have HV4:=Lh (HV3.out.far ht (by have:=hlv; omega))
 have hsz4:w.heap.size<w4.heap.size:=Nat.lt_of_lt_of_le hsz3 ht.size;replace hlv2:=Nat.lt_of_lt_of_le hlv2 ht.size;have HP4:=Lh hp;have hlo4:(w2.alloc (.cells #[.int .i64 5,.string nm,.slice none 0 0,.slice none 0 0,.slice none 0 0,.slice none 0 0,.slice none 0 0] 39 (0,0))).heap.size<=w4.heap.size:=ht.size;obtain ⟨A3,d3,hv3,_,_⟩:=SlS.form hx;subst hv3;have HDI:=Lh hx;clear hr hp ht hx;obtain ⟨x0,x1,x2,x3,x4,x5,x6,fx⟩:=HV4.out.o7;go_wp2_with fail
 clear x0 x1 x2 x3 x4 x5 x6 fx;obtain ⟨wg5,hW⟩ : ∃ x,x=(w4.setCell ⟨w2.heap.size,3,none⟩ (.slice A3 dirs.length d3)):=⟨_,rfl⟩;rw [<- hW];have HT5:Hid (Tw p w.heap.size w wg5):=Lh (by rw [hW]; exact (HT4.out.setNew (by omega) _ _))
 have HR5:Hid (Bk wg5 w.heap.size #[.int .i64 0,.string ⟨#[]⟩,.slice none 0 0,.slice none 0 0,.slice none 0 0,.slice none 0 0,.slice none 0 0] 39):=Lh (by rw [hW]; exact (HR4.out.off (by omega) _ _))
 have HV5:Hid (Bk wg5 w2.heap.size #[.int .i64 5,.string nm,.slice none 0 0,.slice A3 dirs.length d3,.slice none 0 0,.slice none 0 0,.slice none 0 0] 39):=Lh (by rw [hW]; exact (HV4.out.setl _ _))
 have HP5:=Lh (HP4.out.same (w':=wg5) (by rw [hW]; exact (bsc (Below.refl (p+1) w4) (by omega))))
 have hse5:wg5.heap.size=w4.heap.size:=by rw [hW]; simp [World.setCell]
 have hsz5:w.heap.size<wg5.heap.size:=by omega
 replace HDI:=Lh (SlS.kept DirC.stays HDI.out (w':=wg5) (S':=fun b=>(w2.alloc (.cells #[.int .i64 5,.string nm,.slice none 0 0,.slice none 0 0,.slice none 0 0,.slice none 0 0,.slice none 0 0] 39 (0,0))).heap.size<=b/\b<wg5.heap.size) (fun b hb=>by rw [hW]; simp only [hpn (show b≠w2.heap.size by have:=hb.1; omega)]) (fun b hb=>⟨hb.1,by rw [hse5]; exact hb.2⟩))
 replace hlv2:w2.heap.size<wg5.heap.size:=by omega
 clear hW;have hlw6:w2.heap.size<wg5.heap.size:=hlv2;refine (zq9 p iel HEL.out HLT.out _ _ _ HP5.out 123 125 16 (by omega) 16 rfl).mono ?_
 rintro e w6 (⟨bd,ts6,v6,m6,hr,rfl,hx,hp,ht⟩ | ⟨x,hr,rfl,ht⟩);rotate_left
 ·exact ⟨rfl,.inr ⟨_,HD2.out.trans (za7 hr),rfl,HT5.out.step HT5.out.size ht⟩⟩
 have HD3:=Lh (HD2.out.trans (za3 hr));have HT6:=Lh (HT5.out.step HT5.out.size ht);have HR6:=Lh (HR5.out.far ht (by omega))
 have HV6:=Lh (HV5.out.far ht (by have:=hlv; omega))
 replace HDI:=Lh (SlS.kept DirC.stays HDI.out (w':=w6) (S':=fun b=>(w2.alloc (.cells #[.int .i64 5,.string nm,.slice none 0 0,.slice none 0 0,.slice none 0 0,.slice none 0 0,.slice none 0 0] 39 (0,0))).heap.size<=b/\b<w6.heap.size) (fun b hb=>ht.block b hb.2 (by have:=hb.1; omega)) (fun b hb=>⟨hb.1,Nat.lt_of_lt_of_le hb.2 ht.size⟩))
 have hsz6:w.heap.size<w6.heap.size:=Nat.lt_of_lt_of_le hsz5 ht.size;replace hlv2:=Nat.lt_of_lt_of_le hlv2 ht.size;have HP6:=Lh hp;have hlo6:wg5.heap.size<=w6.heap.size:=ht.size;obtain ⟨A4,d4,hv4,_,_⟩:=SlS.form hx;subst hv4;have HBD:=Lh hx;clear hr hp ht hx;obtain ⟨x0,x1,x2,x3,x4,x5,x6,fx⟩:=HV6.out.o7;obtain ⟨y0,y1,y2,y3,y4,y5,y6,fy⟩:=HR6.out.o7;have hne:w.heap.size≠w2.heap.size:=by omega
 have hne2:w2.heap.size≠w.heap.size:=by omega
 go_wp2_with fail
 clear x0 x1 x2 x3 x4 x5 x6 fx;clear y0 y1 y2 y3 y4 y5 y6 fy;obtain ⟨wg7,hW⟩ : ∃ x,x=(w6.setCell ⟨w2.heap.size,6,none⟩ (.slice A4 bd.length d4)):=⟨_,rfl⟩;rw [<- hW];have HT7:Hid (Tw p w.heap.size w wg7):=Lh (by rw [hW]; exact (HT6.out.setNew (by omega) _ _))
 have HR7:Hid (Bk wg7 w.heap.size #[.int .i64 0,.string ⟨#[]⟩,.slice none 0 0,.slice none 0 0,.slice none 0 0,.slice none 0 0,.slice none 0 0] 39):=Lh (by rw [hW]; exact (HR6.out.off (by omega) _ _))
 have HV7:Hid (Bk wg7 w2.heap.size #[.int .i64 5,.string nm,.slice none 0 0,.slice A3 dirs.length d3,.slice none 0 0,.slice none 0 0,.slice A4 bd.length d4] 39):=Lh (by rw [hW]; exact (HV6.out.setl _ _))
 have HP7:=Lh (HP6.out.same (w':=wg7) (by rw [hW]; exact (bsc (Below.refl (p+1) w6) (by omega))))
 have hse7:wg7.heap.size=w6.heap.size:=by rw [hW]; simp [World.setCell]
 have hsz7:w.heap.size<wg7.heap.size:=by omega
 replace HDI:=Lh (SlS.kept DirC.stays HDI.out (w':=wg7) (S':=fun b=>(w2.alloc (.cells #[.int .i64 5,.string nm,.slice none 0 0,.slice none 0 0,.slice none 0 0,.slice none 0 0,.slice none 0 0] 39 (0,0))).heap.size<=b/\b<wg7.heap.size) (fun b hb=>by rw [hW]; simp only [hpn (show b≠w2.heap.size by have:=hb.1; omega)]) (fun b hb=>⟨hb.1,by rw [hse7]; exact hb.2⟩))
 replace HBD:=Lh (SlS.kept InpC.stays HBD.out (w':=wg7) (S':=fun b=>wg5.heap.size<=b/\b<wg7.heap.size) (fun b hb=>by rw [hW]; simp only [hpn (show b≠w2.heap.size by have:=hb.1; omega)]) (fun b hb=>⟨hb.1,by rw [hse7]; exact hb.2⟩))
 replace hlv2:w2.heap.size<wg7.heap.size:=by omega
 clear hW;obtain ⟨wz,hW⟩ : ∃ x,x=(((((((wg7.setCell ⟨w.heap.size,0,none⟩ (.int .i64 5)).setCell ⟨w.heap.size,1,none⟩ (.string nm)).setCell ⟨w.heap.size,2,none⟩ (.slice none 0 0)).setCell ⟨w.heap.size,3,none⟩ (.slice A3 dirs.length d3)).setCell ⟨w.heap.size,4,none⟩ (.slice none 0 0)).setCell ⟨w.heap.size,5,none⟩ (.slice none 0 0)).setCell ⟨w.heap.size,6,none⟩ (.slice A4 bd.length d4)):=⟨_,rfl⟩;rw [<- hW];have HZ:Hid (Bk wz w.heap.size #[.int .i64 5,.string nm,.slice none 0 0,.slice A3 dirs.length d3,.slice none 0 0,.slice none 0 0,.slice A4 bd.length d4] 39):=Lh (by rw [hW]; exact (((((((HR7.out.setl _ _).setl _ _).setl _ _).setl _ _).setl _ _).setl _ _).setl _ _))
 have HTZ:Hid (Tw p w.heap.size w wz):=Lh (by rw [hW]; exact (((((((HT7.out.setNew (Nat.le_refl _) _ _).setNew (Nat.le_refl _) _ _).setNew (Nat.le_refl _) _ _).setNew (Nat.le_refl _) _ _).setNew (Nat.le_refl _) _ _).setNew (Nat.le_refl _) _ _).setNew (Nat.le_refl _) _ _))
 have HPZ:=Lh (HP7.out.same (w':=wz) (by rw [hW]; exact (bsc (bsc (bsc (bsc (bsc (bsc (bsc (Below.refl (p+1) wg7) (by omega)) (by omega)) (by omega)) (by omega)) (by omega)) (by omega)) (by omega))))
 have hsez:wz.heap.size=wg7.heap.size:=by rw [hW]; simp [World.setCell]
 replace HDI:=Lh (SlS.kept DirC.stays HDI.out (w':=wz) (S':=fun b=>w.heap.size<=b/\b<wz.heap.size) (fun b hb=>by rw [hW]; simp only [hpn (show b≠w.heap.size by have:=hb.1; omega)]) (fun b hb=>⟨by have:=hb.1; omega,by rw [hsez]; exact hb.2⟩))
 replace HBD:=Lh (SlS.kept InpC.stays HBD.out (w':=wz) (S':=fun b=>w.heap.size<=b/\b<wz.heap.size) (fun b hb=>by rw [hW]; simp only [hpn (show b≠w.heap.size by have:=hb.1; omega)]) (fun b hb=>⟨by have:=hb.1; omega,by rw [hsez]; exact hb.2⟩))
 obtain ⟨z0,z1,z2,z3,z4,z5,z6,_⟩:=HZ.out.o7;clear hW;exact bodyPost_ret (v:=.agg #[.int .i64 5,.string nm,.slice none 0 0,.slice A3 dirs.length d3,.slice none 0 0,.slice none 0 0,.slice A4 bd.length d4]) (by simp [results,Tryz.results55,go_sem,z0,z1,z2,z3,z4,z5,z6]) rfl (.inl ⟨⟨5,nm,[],dirs,[],[],bd⟩,_,_,_,HD3.out,rfl,⟨_,_,_,_,_,_,_,rfl,⟨rfl,by show small 5; unfold small; omega,rfl,Nat.le_trans HN.out (by decide),SlS.nil _ _,HDI.out,SlS.nil _ _,SlS.nil _ _,HBD.out⟩⟩,HPZ.out,HTZ.out⟩)
end Go.Proofs.YtfgelheiknmjgaaGreatDoor
