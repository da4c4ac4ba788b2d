
/-
 Texts joined: F2 E5Fld E5Mem.
-/
import Derived.Test.YtfgelheiknmjgaaGreatDoorZt13
set_option maxRecDepth 1000000
set_option maxHeartbeats 8000000
namespace Go.Proofs.YtfgelheiknmjgaaGreatDoor
open Go.RowKit
def ValW (w:World) (S:Nat->Prop) (v:Value) (t:VT):Prop:=RdS w S v t
def argP (vel:List Tk->Except Er (VT × List Tk)) (ts:List Tk):Except Er ((ByteArray × VT) × List Tk):=exB (nmR ts) fun q=>exB (sgR [58] q.2) fun ts1=>exB (vel ts1) fun r=>.ok ((q.1,r.1),r.2)
def memP (del:List Tk->Except Er (DirT × List Tk)) (ts:List Tk):Except Er (MemT × List Tk):=exB (nmR ts) fun q=>exB (drsR del q.2) fun r=>.ok (⟨q.1,r.1⟩,r.2)
theorem zH1 (q1 q2 p:Nat) (vel:List Tk->Except Er (VT × List Tk)) (hvel:∀ (W:World) (ts:List Tk) (m:Nat),PSt W p ts m->Calls Tryz.prog 164 #[pP p] W (WPost ValW W p (vel ts))) (w:World) (hq:∀ W',Tw p w.heap.size w W'->W'.cell? ⟨q1,0,none⟩=some (pP p)/\W'.cell? ⟨q2,0,none⟩=some (whV p)) (ts:List Tk) (n:Nat) (h:PSt w p ts n) :
  Calls Tryz.prog 255 #[.pointer (some ⟨q1,0,none⟩),.pointer (some ⟨q2,0,none⟩)] w (WPost ArgV w p (argP vel ts)):=by
 have HVEL:=Lh hvel;have HQ1:=Lh fun W' hW=>(hq W' hW).1;have HQ2:=Lh fun W' hW=>(hq W' hW).2;clear hvel hq;have HD0:Hid (argP vel ts=argP vel ts):=Lh rfl;have hpw:=h.lt;have hhp:p≠w.heap.size:=by omega
 have HP0:Hid (PSt (w.alloc (.cells #[.string ⟨#[]⟩,.int .i64 0,.int .i64 0,.string ⟨#[]⟩,.slice none 0 0,.slice none 0 0] 88 (0,0))) p ts n):=Lh (h.stay (za0 _ _));have HR0:Hid (Bk (w.alloc (.cells #[.string ⟨#[]⟩,.int .i64 0,.int .i64 0,.string ⟨#[]⟩,.slice none 0 0,.slice none 0 0] 88 (0,0))) w.heap.size #[.string ⟨#[]⟩,.int .i64 0,.int .i64 0,.string ⟨#[]⟩,.slice none 0 0,.slice none 0 0] 88):=Lh (Bk.new _ _ _);have HT0:Hid (Tw p w.heap.size w (w.alloc (.cells #[.string ⟨#[]⟩,.int .i64 0,.int .i64 0,.string ⟨#[]⟩,.slice none 0 0,.slice none 0 0] 88 (0,0)))):=Lh (.of (za0 _ _));have hsz0:w.heap.size<(w.alloc (.cells #[.string ⟨#[]⟩,.int .i64 0,.int .i64 0,.string ⟨#[]⟩,.slice none 0 0,.slice none 0 0] 88 (0,0))).heap.size:=by simp
 clear h;have HDU:Hid (argP vel ts=exB (nmR ts) fun q=>exB (sgR [58] q.2) fun ts1=>exB (vel ts1) fun r=>.ok ((q.1,r.1),r.2)):=Lh rfl;replace HD0:=HDU;clear HDU;generalize argP vel ts=R at *;have g1:=HQ1.out _ HT0.out
 go_enter Tryz.func255, Tryz.ntmps255
 go_wp2_with fail
 refine (zd6 HP0.out).mono ?_
 rintro e w1 (⟨nm,ts1,v,hr,rfl,⟨rfl,hnz⟩,hp,ht⟩ | ⟨x,hr,rfl,ht⟩);rotate_left
 ·exact ⟨rfl,.inr ⟨_,HD0.out.trans (za6 hr),rfl,HT0.out.step HT0.out.size ht⟩⟩
 have HD1:=Lh (HD0.out.trans (za2 hr));have HT1:=Lh (HT0.out.step HT0.out.size ht);have HR1:=Lh (HR0.out.far ht (by omega));have hsz1:w.heap.size<w1.heap.size:=Nat.lt_of_lt_of_le hsz0 ht.size;have HP1:=Lh hp;have HN:=Lh hnz;clear hr hp ht hnz;clear g1;have g1:=HQ1.out _ HT1.out;have g3:=Lib.lt_of_cell g1;have g4:q1≠w1.heap.size:=Nat.ne_of_lt g3;go_wp2_with fail;have ht:Tw p w1.heap.size w1 (w1.alloc (.cells #[.string nm,.int .i64 0,.int .i64 0,.string ⟨#[]⟩,.slice none 0 0,.slice none 0 0] 88 (0,0))):=.of (za0 _ _);have hlv:w.heap.size<w1.heap.size:=hsz1;have hlp:p≠w1.heap.size:=by omega
 have hlv2:w1.heap.size<(w1.alloc (.cells #[.string nm,.int .i64 0,.int .i64 0,.string ⟨#[]⟩,.slice none 0 0,.slice none 0 0] 88 (0,0))).heap.size:=by simp
 have HT2:=Lh (HT1.out.step HT1.out.size ht);have HR2:=Lh (HR1.out.far ht (by omega));have HV2:Hid (Bk (w1.alloc (.cells #[.string nm,.int .i64 0,.int .i64 0,.string ⟨#[]⟩,.slice none 0 0,.slice none 0 0] 88 (0,0))) w1.heap.size #[.string nm,.int .i64 0,.int .i64 0,.string ⟨#[]⟩,.slice none 0 0,.slice none 0 0] 88):=Lh (Bk.new _ _ _);have HP2:=Lh (HP1.out.stay (za0 w1 (.cells #[.string nm,.int .i64 0,.int .i64 0,.string ⟨#[]⟩,.slice none 0 0,.slice none 0 0] 88 (0,0))));have hsz2:w.heap.size<(w1.alloc (.cells #[.string nm,.int .i64 0,.int .i64 0,.string ⟨#[]⟩,.slice none 0 0,.slice none 0 0] 88 (0,0))).heap.size:=by simp; omega
 clear ht;go_wp2_with fail;refine (ze5 HP2.out ⟨#[58]⟩).mono ?_
 rintro e w3 (⟨ts3,hr,rfl,hp,ht⟩ | ⟨x,hr,rfl,ht⟩);rotate_left
 ·exact ⟨rfl,.inr ⟨_,HD1.out.trans (za6 hr),rfl,HT2.out.step HT2.out.size ht⟩⟩
 have HD2:=Lh (HD1.out.trans (za2 hr));have HT3:=Lh (HT2.out.step HT2.out.size ht);have HR3:=Lh (HR2.out.far ht (by omega));have HV3:=Lh (HV2.out.far ht (by have:=hlv; omega));have hsz3:w.heap.size<w3.heap.size:=Nat.lt_of_lt_of_le hsz2 ht.size;replace hlv2:=Nat.lt_of_lt_of_le hlv2 ht.size;have HP3:=Lh hp;clear hr hp ht;clear g1 g3 g4;have g2:=HQ2.out _ HT3.out;go_wp2_with fail;have hlw4:w1.heap.size<w3.heap.size:=hlv2;refine (HVEL.out _ _ _ HP3.out).mono ?_;rintro e w4 (⟨val,ts4,v4,m4,hr,rfl,hx,hp,ht⟩ | ⟨x,hr,rfl,ht⟩);rotate_left
 ·exact ⟨rfl,.inr ⟨_,HD2.out.trans (za6 hr),rfl,HT3.out.step HT3.out.size ht⟩⟩
 have HD3:=Lh (HD2.out.trans (za2 hr));have HT4:=Lh (HT3.out.step HT3.out.size ht);have HR4:=Lh (HR3.out.far ht (by omega));have HV4:=Lh (HV3.out.far ht (by have:=hlv; omega));have hsz4:w.heap.size<w4.heap.size:=Nat.lt_of_lt_of_le hsz3 ht.size;replace hlv2:=Nat.lt_of_lt_of_le hlv2 ht.size;have HP4:=Lh hp;have hlo4:w3.heap.size<=w4.heap.size:=ht.size;obtain ⟨k,z,s,A,li,ci,KA,lk,ck,hv1⟩:=RdS.form hx;subst hv1;have HX:=Lh hx;clear hr hp ht hx;clear g2;obtain ⟨x0,x1,x2,x3,x4,x5,fx⟩:=HV4.out.o6;obtain ⟨y0,y1,y2,y3,y4,y5,fy⟩:=HR4.out.o6;have hne:w.heap.size≠w1.heap.size:=by omega
 have hne2:w1.heap.size≠w.heap.size:=by omega
 go_wp2_with fail
 clear x0 x1 x2 x3 x4 x5 fx;clear y0 y1 y2 y3 y4 y5 fy;obtain ⟨wg5,hW⟩ : ∃ x,x=(((((w4.setCell ⟨w1.heap.size,1,none⟩ (.int .i64 k)).setCell ⟨w1.heap.size,2,none⟩ (.int .i64 z)).setCell ⟨w1.heap.size,3,none⟩ (.string s)).setCell ⟨w1.heap.size,4,none⟩ (.slice A li ci)).setCell ⟨w1.heap.size,5,none⟩ (.slice KA lk ck)):=⟨_,rfl⟩;rw [<- hW];have HT5:Hid (Tw p w.heap.size w wg5):=Lh (by rw [hW]; exact (((((HT4.out.setNew (by omega) _ _).setNew (by omega) _ _).setNew (by omega) _ _).setNew (by omega) _ _).setNew (by omega) _ _));have HR5:Hid (Bk wg5 w.heap.size #[.string ⟨#[]⟩,.int .i64 0,.int .i64 0,.string ⟨#[]⟩,.slice none 0 0,.slice none 0 0] 88):=Lh (by rw [hW]; exact (((((HR4.out.off (by omega) _ _).off (by omega) _ _).off (by omega) _ _).off (by omega) _ _).off (by omega) _ _));have HV5:Hid (Bk wg5 w1.heap.size #[.string nm,.int .i64 k,.int .i64 z,.string s,.slice A li ci,.slice KA lk ck] 88):=Lh (by rw [hW]; exact (((((HV4.out.setl _ _).setl _ _).setl _ _).setl _ _).setl _ _));have HP5:=Lh (HP4.out.same (w':=wg5) (by rw [hW]; exact (bsc (bsc (bsc (bsc (bsc (Below.refl (p+1) w4) (by omega)) (by omega)) (by omega)) (by omega)) (by omega))));have hse5:wg5.heap.size=w4.heap.size:=by rw [hW]; simp [World.setCell]
 have hsz5:w.heap.size<wg5.heap.size:=by omega
 replace HX:=Lh (RdS.kept HX.out (w':=wg5) (S':=fun b=>w3.heap.size<=b/\b<wg5.heap.size) (fun b hb=>by rw [hW]; simp only [hpn (show b≠w1.heap.size by have:=hb.1; omega)]) (fun b hb=>⟨hb.1,by rw [hse5]; exact hb.2⟩));replace hlv2:w1.heap.size<wg5.heap.size:=by omega
 clear hW;obtain ⟨wz,hW⟩ : ∃ x,x=((((((wg5.setCell ⟨w.heap.size,0,none⟩ (.string nm)).setCell ⟨w.heap.size,1,none⟩ (.int .i64 k)).setCell ⟨w.heap.size,2,none⟩ (.int .i64 z)).setCell ⟨w.heap.size,3,none⟩ (.string s)).setCell ⟨w.heap.size,4,none⟩ (.slice A li ci)).setCell ⟨w.heap.size,5,none⟩ (.slice KA lk ck)):=⟨_,rfl⟩;rw [<- hW];have HZ:Hid (Bk wz w.heap.size #[.string nm,.int .i64 k,.int .i64 z,.string s,.slice A li ci,.slice KA lk ck] 88):=Lh (by rw [hW]; exact ((((((HR5.out.setl _ _).setl _ _).setl _ _).setl _ _).setl _ _).setl _ _));have HTZ:Hid (Tw p w.heap.size w wz):=Lh (by rw [hW]; exact ((((((HT5.out.setNew (Nat.le_refl _) _ _).setNew (Nat.le_refl _) _ _).setNew (Nat.le_refl _) _ _).setNew (Nat.le_refl _) _ _).setNew (Nat.le_refl _) _ _).setNew (Nat.le_refl _) _ _));have HPZ:=Lh (HP5.out.same (w':=wz) (by rw [hW]; exact (bsc (bsc (bsc (bsc (bsc (bsc (Below.refl (p+1) wg5) (by omega)) (by omega)) (by omega)) (by omega)) (by omega)) (by omega))));have hsez:wz.heap.size=wg5.heap.size:=by rw [hW]; simp [World.setCell]
 replace HX:=Lh (RdS.kept HX.out (w':=wz) (S':=fun b=>w.heap.size<=b/\b<wz.heap.size) (fun b hb=>by rw [hW]; simp only [hpn (show b≠w.heap.size by have:=hb.1; omega)]) (fun b hb=>⟨by have:=hb.1; omega,by rw [hsez]; exact hb.2⟩));obtain ⟨z0,z1,z2,z3,z4,z5,_⟩:=HZ.out.o6;clear hW;exact bodyPost_ret (v:=.agg #[.string nm,.int .i64 k,.int .i64 z,.string s,.slice A li ci,.slice KA lk ck]) (by simp [results,Tryz.results255,go_sem,z0,z1,z2,z3,z4,z5]) rfl (.inl ⟨(nm,val),_,_,_,HD3.out,rfl,⟨_,_,_,_,_,_,rfl,⟨rfl,Nat.le_trans HN.out (by decide),HX.out⟩⟩,HPZ.out,HTZ.out⟩)
theorem zQ3 (p:Nat) (del:List Tk->Except Er (DirT × List Tk)) (hdel:∀ (W:World) (ts:List Tk) (m:Nat),PSt W p ts m->isSg [64] ts=true->Calls Tryz.prog 202 #[pP p,whV p] W (WPost DirV W p (del ts))) (hdlt:∀ (ts:List Tk) (x:DirT) (ts':List Tk),Good ts->isSg [64] ts=true->del ts=.ok (x,ts')->ts'.length<ts.length) (w:World) (ts:List Tk) (n:Nat) (h:PSt w p ts n) :
  Calls Tryz.prog 119 #[pP p] w (WPost MemV w p (memP del ts)):=by
 have HDEL:=Lh hdel;have HDLT:=Lh hdlt;clear hdel hdlt;have HD0:Hid (memP del ts=memP del ts):=Lh rfl;have hpw:=h.lt;have hhp:p≠w.heap.size:=by omega
 have HP0:Hid (PSt (w.alloc (.cells #[.string ⟨#[]⟩,.slice none 0 0] 48 (0,0))) p ts n):=Lh (h.stay (za0 _ _));have HR0:Hid (Bk (w.alloc (.cells #[.string ⟨#[]⟩,.slice none 0 0] 48 (0,0))) w.heap.size #[.string ⟨#[]⟩,.slice none 0 0] 48):=Lh (Bk.new _ _ _);have HT0:Hid (Tw p w.heap.size w (w.alloc (.cells #[.string ⟨#[]⟩,.slice none 0 0] 48 (0,0)))):=Lh (.of (za0 _ _));have hsz0:w.heap.size<(w.alloc (.cells #[.string ⟨#[]⟩,.slice none 0 0] 48 (0,0))).heap.size:=by simp
 clear h;have HDU:Hid (memP del ts=exB (nmR ts) fun q=>exB (drsR del q.2) fun r=>.ok (⟨q.1,r.1⟩,r.2)):=Lh rfl;replace HD0:=HDU;clear HDU;generalize memP del ts=R at *
 go_enter Tryz.func119, Tryz.ntmps119
 go_wp2_with fail
 refine (zd6 HP0.out).mono ?_
 rintro e w1 (⟨nm,ts1,v,hr,rfl,⟨rfl,hnz⟩,hp,ht⟩ | ⟨x,hr,rfl,ht⟩);rotate_left
 ·exact ⟨rfl,.inr ⟨_,HD0.out.trans (za6 hr),rfl,HT0.out.step HT0.out.size ht⟩⟩
 have HD1:=Lh (HD0.out.trans (za2 hr));have HT1:=Lh (HT0.out.step HT0.out.size ht);have HR1:=Lh (HR0.out.far ht (by omega));have hsz1:w.heap.size<w1.heap.size:=Nat.lt_of_lt_of_le hsz0 ht.size;have HP1:=Lh hp;have HN:=Lh hnz;clear hr hp ht hnz;go_wp2_with fail;have ht:Tw p w1.heap.size w1 (w1.alloc (.cells #[.string nm,.slice none 0 0] 48 (0,0))):=.of (za0 _ _);have hlv:w.heap.size<w1.heap.size:=hsz1;have hlp:p≠w1.heap.size:=by omega
 have hlv2:w1.heap.size<(w1.alloc (.cells #[.string nm,.slice none 0 0] 48 (0,0))).heap.size:=by simp
 have HT2:=Lh (HT1.out.step HT1.out.size ht);have HR2:=Lh (HR1.out.far ht (by omega));have HV2:Hid (Bk (w1.alloc (.cells #[.string nm,.slice none 0 0] 48 (0,0))) w1.heap.size #[.string nm,.slice none 0 0] 48):=Lh (Bk.new _ _ _);have HP2:=Lh (HP1.out.stay (za0 w1 (.cells #[.string nm,.slice none 0 0] 48 (0,0))));have hsz2:w.heap.size<(w1.alloc (.cells #[.string nm,.slice none 0 0] 48 (0,0))).heap.size:=by simp; omega
 clear ht;go_wp2_with fail;have hlw3:w1.heap.size<(w1.alloc (.cells #[.string nm,.slice none 0 0] 48 (0,0))).heap.size:=hlv2;refine (zb7 p del HDEL.out HDLT.out _ _ _ HP2.out).mono ?_;rintro e w3 (⟨dirs,ts3,v3,m3,hr,rfl,hx,hp,ht⟩ | ⟨x,hr,rfl,ht⟩);rotate_left
 ·exact ⟨rfl,.inr ⟨_,HD1.out.trans (za6 hr),rfl,HT2.out.step HT2.out.size ht⟩⟩
 have HD2:=Lh (HD1.out.trans (za2 hr));have HT3:=Lh (HT2.out.step HT2.out.size ht);have HR3:=Lh (HR2.out.far ht (by omega));have HV3:=Lh (HV2.out.far ht (by have:=hlv; omega));have hsz3:w.heap.size<w3.heap.size:=Nat.lt_of_lt_of_le hsz2 ht.size;replace hlv2:=Nat.lt_of_lt_of_le hlv2 ht.size;have HP3:=Lh hp;have hlo3:(w1.alloc (.cells #[.string nm,.slice none 0 0] 48 (0,0))).heap.size<=w3.heap.size:=ht.size;obtain ⟨A1,d1,hv1,_,_⟩:=SlS.form hx;subst hv1;have HX:=Lh hx;clear hr hp ht hx;obtain ⟨x0,x1,fx⟩:=HV3.out.o2;obtain ⟨y0,y1,fy⟩:=HR3.out.o2;have hne:w.heap.size≠w1.heap.size:=by omega
 have hne2:w1.heap.size≠w.heap.size:=by omega
 go_wp2_with fail
 clear x0 x1 fx;clear y0 y1 fy;obtain ⟨wg4,hW⟩ : ∃ x,x=(w3.setCell ⟨w1.heap.size,1,none⟩ (.slice A1 dirs.length d1)):=⟨_,rfl⟩;rw [<- hW];have HT4:Hid (Tw p w.heap.size w wg4):=Lh (by rw [hW]; exact (HT3.out.setNew (by omega) _ _));have HR4:Hid (Bk wg4 w.heap.size #[.string ⟨#[]⟩,.slice none 0 0] 48):=Lh (by rw [hW]; exact (HR3.out.off (by omega) _ _));have HV4:Hid (Bk wg4 w1.heap.size #[.string nm,.slice A1 dirs.length d1] 48):=Lh (by rw [hW]; exact (HV3.out.setl _ _));have HP4:=Lh (HP3.out.same (w':=wg4) (by rw [hW]; exact (bsc (Below.refl (p+1) w3) (by omega))));have hse4:wg4.heap.size=w3.heap.size:=by rw [hW]; simp [World.setCell]
 have hsz4:w.heap.size<wg4.heap.size:=by omega
 replace HX:=Lh (SlS.kept DirC.stays HX.out (w':=wg4) (S':=fun b=>(w1.alloc (.cells #[.string nm,.slice none 0 0] 48 (0,0))).heap.size<=b/\b<wg4.heap.size) (fun b hb=>by rw [hW]; simp only [hpn (show b≠w1.heap.size by have:=hb.1; omega)]) (fun b hb=>⟨hb.1,by rw [hse4]; exact hb.2⟩));replace hlv2:w1.heap.size<wg4.heap.size:=by omega
 clear hW;obtain ⟨wz,hW⟩ : ∃ x,x=((wg4.setCell ⟨w.heap.size,0,none⟩ (.string nm)).setCell ⟨w.heap.size,1,none⟩ (.slice A1 dirs.length d1)):=⟨_,rfl⟩;rw [<- hW];have HZ:Hid (Bk wz w.heap.size #[.string nm,.slice A1 dirs.length d1] 48):=Lh (by rw [hW]; exact ((HR4.out.setl _ _).setl _ _));have HTZ:Hid (Tw p w.heap.size w wz):=Lh (by rw [hW]; exact ((HT4.out.setNew (Nat.le_refl _) _ _).setNew (Nat.le_refl _) _ _));have HPZ:=Lh (HP4.out.same (w':=wz) (by rw [hW]; exact (bsc (bsc (Below.refl (p+1) wg4) (by omega)) (by omega))));have hsez:wz.heap.size=wg4.heap.size:=by rw [hW]; simp [World.setCell]
 replace HX:=Lh (SlS.kept DirC.stays HX.out (w':=wz) (S':=fun b=>w.heap.size<=b/\b<wz.heap.size) (fun b hb=>by rw [hW]; simp only [hpn (show b≠w.heap.size by have:=hb.1; omega)]) (fun b hb=>⟨by have:=hb.1; omega,by rw [hsez]; exact hb.2⟩));obtain ⟨z0,z1,_⟩:=HZ.out.o2;clear hW;exact bodyPost_ret (v:=.agg #[.string nm,.slice A1 dirs.length d1]) (by simp [results,Tryz.results119,go_sem,z0,z1]) rfl (.inl ⟨⟨nm,dirs⟩,_,_,_,HD2.out,rfl,⟨_,_,rfl,⟨rfl,Nat.le_trans HN.out (by decide),HX.out⟩⟩,HPZ.out,HTZ.out⟩)
theorem infoFld:(Tryz.prog.info? 46).map (fun i=>(i.zero,i.size,i.bytes))=some (some (.agg #[.string ⟨#[]⟩,.slice none 0 0,.string ⟨#[]⟩,.slice none 0 0,.slice none 0 0]),5,104):=by kernel_rfl
theorem zO5 (p:Nat) (el:List Tk->Except Er (FldT × List Tk)) (hel:∀ (W:World) (ts:List Tk) (m:Nat),PSt W p ts m->isNm ts=true->Calls Tryz.prog 116 #[pP p] W (WPost FldV W p (el ts)))
  (hlt:∀ (ts:List Tk) (x:FldT) (ts':List Tk),Good ts->isNm ts=true->el ts=.ok (x,ts')->ts'.length<ts.length) (w:World) (ts:List Tk) (n:Nat) (h:PSt w p ts n) (ca cb:UInt8) (most:Nat) (hm:most<=64) (y:Int) (hy:y=most) :
  Calls Tryz.prog 165 #[pP p,.string ⟨#[ca,cb]⟩,.int .i64 y,.func (.func 160) #[pP p] #[],.func (.func 116) #[pP p] #[]] w (WPost (SlS 5 104 FldC) w p (blR [ca] [cb] most el ts)):=by
 have HS:Hid (Calls Tryz.prog 167 #[pP p,.string ⟨#[ca]⟩] w (UPost w p n (sgR [ca] ts))):=Lh (ze5 h ⟨#[ca]⟩);have HV:Hid (blR [ca] [cb] most el ts=exB (sgR [ca] ts) fun ts1=>bls [cb] most el (ts1.length+1) [] ts1):=Lh rfl;have HEL:=Lh hel;have HLT:=Lh hlt;have HY:=Lh hy;have hpw:=h.lt;clear h hel hlt hy;generalize blR [ca] [cb] most el ts=R at *
 go_enter Tryz.func165, Tryz.ntmps165
 go_wp2_with fail
 refine HS.out.mono ?_
 rintro e w1 (⟨ts1,hr,rfl,hp,ht⟩ | ⟨x,hr,rfl,ht⟩);rotate_left
 ·have HV2:Hid (R=.error x):=Lh (by rw [HV.out,za6 hr])
  have HT:=Lh ht;clear hr ht;exact ⟨rfl,.inr ⟨x,HV2.out,rfl,HT.out⟩⟩
 have HV2:Hid (R=bls [cb] most el (ts1.length+1) [] ts1):=Lh (by rw [HV.out,za2 hr]);have HP1:=Lh hp;have HT1:=Lh ht;clear hr hp ht HV HS;go_wp2_with fail
 go_loopw [11] (fun u wr=>∃ (l:List FldT) (tr:List Tk) (cells:List Value) (f m:Nat),l.length<=most/\Hid (R=bls [cb] most el f l tr/\tr.length<f/\Els 46 5 FldC wr w.heap.size u cells l/\PSt wr p tr m/\Tw p w.heap.size w wr)) (fun _ wr=>tlen p wr)
 case atStart=>exact ⟨[],ts1,[],_,n,Nat.zero_le _,Lh ⟨HV2.out,Nat.lt_succ_self _,Els.nil _ _ _ _ _,HP1.out,HT1.out⟩⟩
 case round =>
  obtain ⟨l,tr,cells,f,m,hlm,hr⟩:=hrel;obtain ⟨AL,c,hu⟩:=hr.out.2.2.1.slice;subst hu;have hlb:(l.length:Int)<=64:=by omega
  obtain ⟨f',hf'⟩ : ∃ f',f=f'+1:=⟨f-1,by have:=hr.out.2.1; omega⟩;subst hf';obtain ⟨ll,hll⟩ : ∃ ll,ll=l.length:=⟨_,rfl⟩;rw [<- hll] at hlb;have HLL:=Lh hll;have hz:ll=0∨ll≠0:=by omega
  by_cases hdone:ll≠0/\isSg [cb] tr=true
  ·obtain ⟨hz,hsg⟩:=hdone
   have hz0:((ll:Int)==0)=false:=by rw [beq_eq_false_iff_ne]; omega
   have HD:Hid (R=.ok (l,tr.tail)):=Lh (hr.out.1.trans (by rw [zi1,if_pos ⟨by rw [<- HLL.out]; exact hz,hsg⟩]));have HC:=Lh (zb2 hr.out.2.2.2.1 ⟨#[cb]⟩ _ hsg);clear hz hsg hll;rw [<- HLL.out];go_wp2_with fail;refine HC.out.mono ?_
   rintro e w2 ⟨rfl,hp2,ht2⟩;have HP2:Hid (PSt w2 p tr.tail m):=Lh hp2;have HT2:=Lh (hr.out.2.2.2.2.step hr.out.2.2.2.2.size ht2);have HE2:=Lh (hr.out.2.2.1.tw FldC.stays hpw ht2);clear hp2 ht2;go_wp2_with fail;go_ret
   refine .inl ⟨l,_,_,m,HD.out,rfl, ?_,HP2.out,HT2.out⟩
   have:=HE2.out.read (bytes:=104) FldC.stays (by have:=HLL.out; unfold big; omega);rw [HLL.out];exact this
  ·have HD:Hid (R=exB (bgR (isNm tr) l.length most tr) fun _=>exB (el tr) fun q=>bls [cb] most el f' (l++[q.1]) q.2):=Lh (hr.out.1.trans (by rw [zi1,if_neg (by rw [<- HLL.out]; exact hdone)]))
   have hwalk:∃ W,W=wr:=⟨_,rfl⟩;have hcase:ll=0∨(ll≠0/\isSg [cb] tr=false):=by
    by_cases h0:ll=0
    ·exact .inl h0
    ·exact .inr ⟨h0,by cases hh:isSg [cb] tr with
      | true=>exact absurd ⟨h0,hh⟩ hdone
      | false=>rfl⟩
   rw [<- hll];clear hz hdone hll hwalk;rcases hcase with hz | ⟨hz,hsg⟩
   focus
    have hz0:((ll:Int)==0)=true:=by rw [hz]; rfl
    have HPC:=Lh hr.out.2.2.2.1;have HTC:Hid (Tw p wr.heap.size wr wr):=Lh (.refl _ _ _);clear hz;go_wp2_with fail
   rotate_left
   focus
    have hz0:((ll:Int)==0)=false:=by rw [beq_eq_false_iff_ne]; omega
    have HC:=Lh (zb2 hr.out.2.2.2.1 ⟨#[cb]⟩ _ hsg);clear hz hsg;go_wp2_with fail;refine HC.out.mono ?_
    rintro e wa ⟨rfl,hp2,ht2⟩;have HPC:Hid (PSt wa p tr m):=Lh hp2;have HTC:=Lh ht2;clear hp2 ht2 HC;go_wp2_with fail
   all_goals
    refine (zg7 HPC.out).mono ?_
    rintro e wb ⟨rfl,hb⟩;have HPB:=Lh (HPC.out.stay hb);have HTB:=Lh (HTC.out.step HTC.out.size (.of hb));clear hb;go_wp2_with fail;refine (zi8 HPB.out (isNm tr) l.length most _ _ (by have:=HLL.out; omega) HY.out).mono ?_
    rintro e wc (⟨hbg,rfl,hb⟩ | ⟨x,hbg,rfl,ht⟩);rotate_left
    ·have HD2:Hid (R=.error x):=Lh (by rw [HD.out,za6 hbg])
     have HT2:=Lh (hr.out.2.2.2.2.step hr.out.2.2.2.2.size (HTB.out.step HTB.out.size ht));clear hbg ht;exact ⟨rfl,.inr ⟨x,HD2.out,rfl,HT2.out⟩⟩
    obtain ⟨hnm,hlm2⟩:=zs5 hbg hlm;have HD2:Hid (R=exB (el tr) fun q=>bls [cb] most el f' (l++[q.1]) q.2):=Lh (by rw [HD.out,za2 hbg]);have HPB2:=Lh (HPB.out.stay hb);have HTB2:=Lh (HTB.out.step HTB.out.size (.of hb));have HNM:=Lh hnm;clear hbg hb hnm;go_wp2_with fail;refine (HEL.out _ tr m HPB2.out HNM.out).mono ?_
    rintro e wd (⟨x,ts',v,m',hre,rfl,hx,hp,ht⟩ | ⟨x,hre,rfl,ht⟩);rotate_left
    ·have HD3:Hid (R=.error x):=Lh (by rw [HD2.out,za6 hre])
     have HT3:=Lh (hr.out.2.2.2.2.step hr.out.2.2.2.2.size (HTB2.out.step HTB2.out.size ht));clear hre ht;exact ⟨rfl,.inr ⟨x,HD3.out,rfl,HT3.out⟩⟩
    have HD3:Hid (R=bls [cb] most el f' (l++[x]) ts'):=Lh (by rw [HD2.out,za2 hre]);have hlt3:=HLT.out tr x ts' HPB2.out.good HNM.out hre;obtain ⟨A1,A3,A4,d1,d3,d4,rfl,hxc⟩:=hx.shape;have HTD:=Lh (HTB2.out.step HTB2.out.size ht);have hE:=hr.out.2.2.1.tw FldC.stays hpw HTD.out;have hws:w.heap.size<=wc.heap.size:=Nat.le_trans hr.out.2.2.2.2.size HTB2.out.size;have hwd:wc.heap.size<=wd.heap.size:=ht.size;have hxS:=FldC.stays.kept (w':=wd) (S':=fun b=>w.heap.size<=b/\b<wd.heap.size/\(Value.slice AL l.length c).ownBlock≠some b) hxc (fun _ _=>rfl) (fun b hb=>⟨by have:=hb.1; omega,hb.2,fun e=>by have h8:=(hr.out.2.2.1.own).lt b e; have h9:=HTB2.out.size; have:=hb.1; omega⟩);have HX:=Lh hxS;have HPD:=Lh hp;have HE:=Lh hE;have b0:Below wd.heap.size wd (wd.alloc (.cells #[.string x.name,.slice A1 x.args.length d1,.string x.tn,.slice A3 x.tw.length d3,.slice A4 x.dirs.length d4] 46 (0,0))):=za0 _ _;have HB0:=Lh b0;have HOWN:Hid ((wd.alloc (.cells #[.string x.name,.slice A1 x.args.length d1,.string x.tn,.slice A3 x.tw.length d3,.slice A4 x.dirs.length d4] 46 (0,0))).ownsRow w.heap.size 46 5 (.slice AL ll c) ll cells):=Lh (by
     have h8:=ze9 hE.own (fun g hg=>b0.block g hg);rw [<- HLL.out] at h8; exact h8)
    have HNEWS:Hid (∀ (j:Nat) (u:Value),([.string x.name,.slice A1 x.args.length d1,.string x.tn,.slice A3 x.tw.length d3,.slice A4 x.dirs.length d4]:List Value)[j]?=some u->(wd.alloc (.cells #[.string x.name,.slice A1 x.args.length d1,.string x.tn,.slice A3 x.tw.length d3,.slice A4 x.dirs.length d4] 46 (0,0))).cell? ((⟨wd.heap.size,0,none⟩ : Addr).add j)=some u):=Lh (zf0 wd [.string x.name,.slice A1 x.args.length d1,.string x.tn,.slice A3 x.tw.length d3,.slice A4 x.dirs.length d4] 46);have HONE:Hid (∀ u∈([.string x.name,.slice A1 x.args.length d1,.string x.tn,.slice A3 x.tw.length d3,.slice A4 x.dirs.length d4]:List Value),u.oneCell'=true):=Lh (by intro u hu; simp only [List.mem_cons,List.not_mem_nil,or_false] at hu; rcases hu with rfl | rfl | rfl | rfl | rfl <;> rfl);have HSZ:Hid (w.heap.size<=(wd.alloc (.cells #[.string x.name,.slice A1 x.args.length d1,.string x.tn,.slice A3 x.tw.length d3,.slice A4 x.dirs.length d4] 46 (0,0))).heap.size):=Lh (by rw [World.size_alloc]; omega);clear hre ht hx hxc hp hE hxS b0;go_wp2_with (at_builtin; refine zb1 _ rfl _ _ 35 rfl w.heap.size 46 _ 5 104 Tryz.underlying35 infoFld rfl (by decide) _ ll cells rfl HOWN.out ⟨wd.heap.size,0,none⟩ 1 1 (by decide) [.string x.name,.slice A1 x.args.length d1,.string x.tn,.slice A3 x.tw.length d3,.slice A4 x.dirs.length d4] rfl rfl HNEWS.out HONE.out (by unfold maxLen; omega) (by omega) HSZ.out ?_; intro v' w' hown' hg' hf');have hpush:=Els.push (x:=x) FldC.stays HE.out HB0.out (by have:=HSZ.out; omega) HX.out (news:=[.string x.name,.slice A1 x.args.length d1,.string x.tn,.slice A3 x.tw.length d3,.slice A4 x.dirs.length d4]) (fun j hj=>rfl) (FldV.cong (Nat.le_refl _)) (by rw [<- HLL.out]; exact hown') (by rw [<- HLL.out]; exact hg') (by rw [<- HLL.out]; exact hf');have HE2:=Lh hpush.1;have HT2:Hid (Tw p w.heap.size w w'):=Lh ((hr.out.2.2.2.2.trans (HTD.out.mono hr.out.2.2.2.2.size)).trans (.of hpush.2));have HP2:=Lh (HPD.out.same (hpush.2.mono (by omega)));clear hpush hown' hg' hf'
    go_roundw
    case rel=>exact ⟨l++[x],ts',_,f',m',by rw [List.length_append,List.length_singleton]; omega,Lh ⟨HD3.out,by have:=hr.out.2.1; omega,HE2.out,HP2.out,HT2.out⟩⟩
    case measure=>rw [HP2.out.tlen,hr.out.2.2.2.1.tlen]; exact hlt3
theorem yn2:(Tryz.prog.info? 48).map (fun i=>(i.zero,i.size,i.bytes))=some (some (.agg #[.string ⟨#[]⟩,.slice none 0 0]),2,40):=by kernel_rfl
theorem zO3 (p:Nat) (el:List Tk->Except Er (MemT × List Tk)) (hel:∀ (W:World) (ts:List Tk) (m:Nat),PSt W p ts m->isNm ts=true->Calls Tryz.prog 119 #[pP p] W (WPost MemV W p (el ts)))
  (hlt:∀ (ts:List Tk) (x:MemT) (ts':List Tk),Good ts->isNm ts=true->el ts=.ok (x,ts')->ts'.length<ts.length) (w:World) (ts:List Tk) (n:Nat) (h:PSt w p ts n) (ca cb:UInt8) (most:Nat) (hm:most<=64) (y:Int) (hy:y=most) :
  Calls Tryz.prog 169 #[pP p,.string ⟨#[ca,cb]⟩,.int .i64 y,.func (.func 160) #[pP p] #[],.func (.func 119) #[pP p] #[]] w (WPost (SlS 2 40 MemC) w p (blR [ca] [cb] most el ts)):=by
 have HS:Hid (Calls Tryz.prog 167 #[pP p,.string ⟨#[ca]⟩] w (UPost w p n (sgR [ca] ts))):=Lh (ze5 h ⟨#[ca]⟩);have HV:Hid (blR [ca] [cb] most el ts=exB (sgR [ca] ts) fun ts1=>bls [cb] most el (ts1.length+1) [] ts1):=Lh rfl;have HEL:=Lh hel;have HLT:=Lh hlt;have HY:=Lh hy;have hpw:=h.lt;clear h hel hlt hy;generalize blR [ca] [cb] most el ts=R at *
 go_enter Tryz.func169, Tryz.ntmps169
 go_wp2_with fail
 refine HS.out.mono ?_
 rintro e w1 (⟨ts1,hr,rfl,hp,ht⟩ | ⟨x,hr,rfl,ht⟩);rotate_left
 ·have HV2:Hid (R=.error x):=Lh (by rw [HV.out,za6 hr])
  have HT:=Lh ht;clear hr ht;exact ⟨rfl,.inr ⟨x,HV2.out,rfl,HT.out⟩⟩
 have HV2:Hid (R=bls [cb] most el (ts1.length+1) [] ts1):=Lh (by rw [HV.out,za2 hr]);have HP1:=Lh hp;have HT1:=Lh ht;clear hr hp ht HV HS;go_wp2_with fail
 go_loopw [11] (fun u wr=>∃ (l:List MemT) (tr:List Tk) (cells:List Value) (f m:Nat),l.length<=most/\Hid (R=bls [cb] most el f l tr/\tr.length<f/\Els 48 2 MemC wr w.heap.size u cells l/\PSt wr p tr m/\Tw p w.heap.size w wr)) (fun _ wr=>tlen p wr)
 case atStart=>exact ⟨[],ts1,[],_,n,Nat.zero_le _,Lh ⟨HV2.out,Nat.lt_succ_self _,Els.nil _ _ _ _ _,HP1.out,HT1.out⟩⟩
 case round =>
  obtain ⟨l,tr,cells,f,m,hlm,hr⟩:=hrel;obtain ⟨AL,c,hu⟩:=hr.out.2.2.1.slice;subst hu;have hlb:(l.length:Int)<=64:=by omega
  obtain ⟨f',hf'⟩ : ∃ f',f=f'+1:=⟨f-1,by have:=hr.out.2.1; omega⟩;subst hf';obtain ⟨ll,hll⟩ : ∃ ll,ll=l.length:=⟨_,rfl⟩;rw [<- hll] at hlb;have HLL:=Lh hll;have hz:ll=0∨ll≠0:=by omega
  by_cases hdone:ll≠0/\isSg [cb] tr=true
  ·obtain ⟨hz,hsg⟩:=hdone
   have hz0:((ll:Int)==0)=false:=by rw [beq_eq_false_iff_ne]; omega
   have HD:Hid (R=.ok (l,tr.tail)):=Lh (hr.out.1.trans (by rw [zi1,if_pos ⟨by rw [<- HLL.out]; exact hz,hsg⟩]));have HC:=Lh (zb2 hr.out.2.2.2.1 ⟨#[cb]⟩ _ hsg);clear hz hsg hll;rw [<- HLL.out];go_wp2_with fail;refine HC.out.mono ?_
   rintro e w2 ⟨rfl,hp2,ht2⟩;have HP2:Hid (PSt w2 p tr.tail m):=Lh hp2;have HT2:=Lh (hr.out.2.2.2.2.step hr.out.2.2.2.2.size ht2);have HE2:=Lh (hr.out.2.2.1.tw MemC.stays hpw ht2);clear hp2 ht2;go_wp2_with fail;go_ret
   refine .inl ⟨l,_,_,m,HD.out,rfl, ?_,HP2.out,HT2.out⟩
   have:=HE2.out.read (bytes:=40) MemC.stays (by have:=HLL.out; unfold big; omega);rw [HLL.out];exact this
  ·have HD:Hid (R=exB (bgR (isNm tr) l.length most tr) fun _=>exB (el tr) fun q=>bls [cb] most el f' (l++[q.1]) q.2):=Lh (hr.out.1.trans (by rw [zi1,if_neg (by rw [<- HLL.out]; exact hdone)]))
   have hwalk:∃ W,W=wr:=⟨_,rfl⟩;have hcase:ll=0∨(ll≠0/\isSg [cb] tr=false):=by
    by_cases h0:ll=0
    ·exact .inl h0
    ·exact .inr ⟨h0,by cases hh:isSg [cb] tr with
      | true=>exact absurd ⟨h0,hh⟩ hdone
      | false=>rfl⟩
   rw [<- hll];clear hz hdone hll hwalk;rcases hcase with hz | ⟨hz,hsg⟩
   focus
    have hz0:((ll:Int)==0)=true:=by rw [hz]; rfl
    have HPC:=Lh hr.out.2.2.2.1;have HTC:Hid (Tw p wr.heap.size wr wr):=Lh (.refl _ _ _);clear hz;go_wp2_with fail
   rotate_left
   focus
    have hz0:((ll:Int)==0)=false:=by rw [beq_eq_false_iff_ne]; omega
    have HC:=Lh (zb2 hr.out.2.2.2.1 ⟨#[cb]⟩ _ hsg);clear hz hsg;go_wp2_with fail;refine HC.out.mono ?_
    rintro e wa ⟨rfl,hp2,ht2⟩;have HPC:Hid (PSt wa p tr m):=Lh hp2;have HTC:=Lh ht2;clear hp2 ht2 HC;go_wp2_with fail
   all_goals
    refine (zg7 HPC.out).mono ?_
    rintro e wb ⟨rfl,hb⟩;have HPB:=Lh (HPC.out.stay hb);have HTB:=Lh (HTC.out.step HTC.out.size (.of hb));clear hb;go_wp2_with fail;refine (zi8 HPB.out (isNm tr) l.length most _ _ (by have:=HLL.out; omega) HY.out).mono ?_
    rintro e wc (⟨hbg,rfl,hb⟩ | ⟨x,hbg,rfl,ht⟩);rotate_left
    ·have HD2:Hid (R=.error x):=Lh (by rw [HD.out,za6 hbg])
     have HT2:=Lh (hr.out.2.2.2.2.step hr.out.2.2.2.2.size (HTB.out.step HTB.out.size ht));clear hbg ht;exact ⟨rfl,.inr ⟨x,HD2.out,rfl,HT2.out⟩⟩
    obtain ⟨hnm,hlm2⟩:=zs5 hbg hlm;have HD2:Hid (R=exB (el tr) fun q=>bls [cb] most el f' (l++[q.1]) q.2):=Lh (by rw [HD.out,za2 hbg]);have HPB2:=Lh (HPB.out.stay hb);have HTB2:=Lh (HTB.out.step HTB.out.size (.of hb));have HNM:=Lh hnm;clear hbg hb hnm;go_wp2_with fail;refine (HEL.out _ tr m HPB2.out HNM.out).mono ?_
    rintro e wd (⟨x,ts',v,m',hre,rfl,hx,hp,ht⟩ | ⟨x,hre,rfl,ht⟩);rotate_left
    ·have HD3:Hid (R=.error x):=Lh (by rw [HD2.out,za6 hre])
     have HT3:=Lh (hr.out.2.2.2.2.step hr.out.2.2.2.2.size (HTB2.out.step HTB2.out.size ht));clear hre ht;exact ⟨rfl,.inr ⟨x,HD3.out,rfl,HT3.out⟩⟩
    have HD3:Hid (R=bls [cb] most el f' (l++[x]) ts'):=Lh (by rw [HD2.out,za2 hre]);have hlt3:=HLT.out tr x ts' HPB2.out.good HNM.out hre;obtain ⟨A1,d1,rfl,hxc⟩:=hx.shape;have HTD:=Lh (HTB2.out.step HTB2.out.size ht);have hE:=hr.out.2.2.1.tw MemC.stays hpw HTD.out;have hws:w.heap.size<=wc.heap.size:=Nat.le_trans hr.out.2.2.2.2.size HTB2.out.size;have hwd:wc.heap.size<=wd.heap.size:=ht.size;have hxS:=MemC.stays.kept (w':=wd) (S':=fun b=>w.heap.size<=b/\b<wd.heap.size/\(Value.slice AL l.length c).ownBlock≠some b) hxc (fun _ _=>rfl) (fun b hb=>⟨by have:=hb.1; omega,hb.2,fun e=>by have h8:=(hr.out.2.2.1.own).lt b e; have h9:=HTB2.out.size; have:=hb.1; omega⟩);have HX:=Lh hxS;have HPD:=Lh hp;have HE:=Lh hE;have b0:Below wd.heap.size wd (wd.alloc (.cells #[.string x.name,.slice A1 x.dirs.length d1] 48 (0,0))):=za0 _ _;have HB0:=Lh b0;have HOWN:Hid ((wd.alloc (.cells #[.string x.name,.slice A1 x.dirs.length d1] 48 (0,0))).ownsRow w.heap.size 48 2 (.slice AL ll c) ll cells):=Lh (by
     have h8:=ze9 hE.own (fun g hg=>b0.block g hg);rw [<- HLL.out] at h8; exact h8)
    have HNEWS:Hid (∀ (j:Nat) (u:Value),([.string x.name,.slice A1 x.dirs.length d1]:List Value)[j]?=some u->(wd.alloc (.cells #[.string x.name,.slice A1 x.dirs.length d1] 48 (0,0))).cell? ((⟨wd.heap.size,0,none⟩ : Addr).add j)=some u):=Lh (zf0 wd [.string x.name,.slice A1 x.dirs.length d1] 48);have HONE:Hid (∀ u∈([.string x.name,.slice A1 x.dirs.length d1]:List Value),u.oneCell'=true):=Lh (by intro u hu; simp only [List.mem_cons,List.not_mem_nil,or_false] at hu; rcases hu with rfl | rfl <;> rfl);have HSZ:Hid (w.heap.size<=(wd.alloc (.cells #[.string x.name,.slice A1 x.dirs.length d1] 48 (0,0))).heap.size):=Lh (by rw [World.size_alloc]; omega);clear hre ht hx hxc hp hE hxS b0;go_wp2_with (at_builtin; refine zb1 _ rfl _ _ 36 rfl w.heap.size 48 _ 2 40 Tryz.underlying36 yn2 rfl (by decide) _ ll cells rfl HOWN.out ⟨wd.heap.size,0,none⟩ 1 1 (by decide) [.string x.name,.slice A1 x.dirs.length d1] rfl rfl HNEWS.out HONE.out (by unfold maxLen; omega) (by omega) HSZ.out ?_; intro v' w' hown' hg' hf');have hpush:=Els.push (x:=x) MemC.stays HE.out HB0.out (by have:=HSZ.out; omega) HX.out (news:=[.string x.name,.slice A1 x.dirs.length d1]) (fun j hj=>rfl) (MemV.cong (Nat.le_refl _)) (by rw [<- HLL.out]; exact hown') (by rw [<- HLL.out]; exact hg') (by rw [<- HLL.out]; exact hf');have HE2:=Lh hpush.1;have HT2:Hid (Tw p w.heap.size w w'):=Lh ((hr.out.2.2.2.2.trans (HTD.out.mono hr.out.2.2.2.2.size)).trans (.of hpush.2));have HP2:=Lh (HPD.out.same (hpush.2.mono (by omega)));clear hpush hown' hg' hf'
    go_roundw
    case rel=>exact ⟨l++[x],ts',_,f',m',by rw [List.length_append,List.length_singleton]; omega,Lh ⟨HD3.out,by have:=hr.out.2.1; omega,HE2.out,HP2.out,HT2.out⟩⟩
    case measure=>rw [HP2.out.tlen,hr.out.2.2.2.1.tlen]; exact hlt3
end Go.Proofs.YtfgelheiknmjgaaGreatDoor

