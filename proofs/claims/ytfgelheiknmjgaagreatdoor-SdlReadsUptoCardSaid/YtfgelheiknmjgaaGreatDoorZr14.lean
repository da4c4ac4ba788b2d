
/-
 Texts joined: F3.
-/
import Derived.Test.YtfgelheiknmjgaaGreatDoorZr12
import Derived.Test.YtfgelheiknmjgaaGreatDoorZr13
set_option maxRecDepth 1000000
set_option maxHeartbeats 8000000
namespace Go.Proofs.YtfgelheiknmjgaaGreatDoor
open Go.RowKit
def RefW (w:World) (S:Nat->Prop) (v:Value) (r:ByteArray × List Int):Prop:=∃ c0 c1,v=.agg #[c0,c1]/\RfC w S c0 c1 r.1 r.2
theorem RefW.shape {w:World} {S:Nat->Prop} {v:Value} {r:ByteArray × List Int} (h:RefW w S v r):∃ A d,v=.agg #[.string r.1,.slice A r.2.length d]/\RfC w S (.string r.1) (.slice A r.2.length d) r.1 r.2:=by
 obtain ⟨c0,c1,rfl,hx⟩:=h;obtain ⟨A,d,e1,_,_⟩:=hx.wraps.form;have e0:=hx.name;subst e0 e1;exact ⟨A,d,rfl,hx⟩
def zJ3:VT:=.mk 0 0 ⟨#[]⟩ [] []
def inpP (rel:List Tk->Except Er ((ByteArray × List Int) × List Tk)) (vel:List Tk->Except Er (VT × List Tk)) (del:List Tk->Except Er (DirT × List Tk)) (ts:List Tk):Except Er (InpT × List Tk):=exB (nmR ts) fun q=>exB (sgR [58] q.2) fun ts1=>exB (rel ts1) fun r=>if isSg [61] r.2=true then exB (vel r.2.tail) fun t=>exB (drsR del t.2) fun d=>.ok (⟨q.1,r.1.1,r.1.2,true,t.1,d.1⟩,d.2) else exB (drsR del r.2) fun d=>.ok (⟨q.1,r.1.1,r.1.2,false,zJ3,d.1⟩,d.2)
def fldQ (rel:List Tk->Except Er ((ByteArray × List Int) × List Tk)) (del:List Tk->Except Er (DirT × List Tk)) (nm:ByteArray) (args:List InpT) (ts:List Tk):Except Er (FldT × List Tk):=exB (sgR [58] ts) fun ts1=>exB (rel ts1) fun r=>exB (drsR del r.2) fun d=>.ok (⟨nm,args,r.1.1,r.1.2,d.1⟩,d.2)
def fldP (iel:List Tk->Except Er (InpT × List Tk)) (rel:List Tk->Except Er ((ByteArray × List Int) × List Tk)) (del:List Tk->Except Er (DirT × List Tk)) (ts:List Tk):Except Er (FldT × List Tk):=exB (nmR ts) fun q=>if isSg [40] q.2=true then exB (blR [40] [41] 16 iel q.2) fun a=>fldQ rel del q.1 a.1 a.2 else fldQ rel del q.1 [] q.2
def dfP (vel:List Tk->Except Er (VT × List Tk)) (ts:List Tk):Except Er ((Bool × VT) × List Tk):=if isSg [61] ts=true then exB (vel ts.tail) fun t=>.ok ((true,t.1),t.2) else .ok ((false,zJ3),ts)
def DfW (w:World) (S:Nat->Prop) (v:Value) (x:Bool × VT):Prop:=∃ u,v=.tuple #[.bool x.1,u]/\RdS w S u x.2
theorem inpP_eq (rel:List Tk->Except Er ((ByteArray × List Int) × List Tk)) (vel:List Tk->Except Er (VT × List Tk)) (del:List Tk->Except Er (DirT × List Tk)) (ts:List Tk):inpP rel vel del ts=exB (nmR ts) fun q=>exB (sgR [58] q.2) fun ts1=>exB (rel ts1) fun r=>exB (dfP vel r.2) fun t=>exB (drsR del t.2) fun d=>.ok (⟨q.1,r.1.1,r.1.2,t.1.1,t.1.2,d.1⟩,d.2):=by
 unfold inpP dfP
 congr 1; funext q; congr 1; funext ts1; congr 1; funext r
 split
 ·cases vel r.2.tail <;> rfl
 ·rfl
theorem zI6 (p:Nat) (vel:List Tk->Except Er (VT × List Tk)) (hvel:∀ (W:World) (ts:List Tk) (m:Nat),PSt W p ts m->Calls Tryz.prog 164 #[pP p] W (WPost ValW W p (vel ts))) (w:World) (ts:List Tk) (n:Nat) (h:PSt w p ts n) :
  Calls Tryz.prog 171 #[pP p] w (WPost DfW w p (dfP vel ts)):=by
 have HVEL:=Lh hvel;clear hvel;have HD0:Hid (dfP vel ts=dfP vel ts):=Lh rfl;have hpw:=h.lt;have hhp:p≠w.heap.size:=by omega
 have HP0:Hid (PSt (w.alloc (.cells #[.int .i64 0,.int .i64 0,.string ⟨#[]⟩,.slice none 0 0,.slice none 0 0] 53 (0,0))) p ts n):=Lh (h.stay (za1 _ _));have HR0:Hid (Bk (w.alloc (.cells #[.int .i64 0,.int .i64 0,.string ⟨#[]⟩,.slice none 0 0,.slice none 0 0] 53 (0,0))) w.heap.size #[.int .i64 0,.int .i64 0,.string ⟨#[]⟩,.slice none 0 0,.slice none 0 0] 53):=Lh (Bk.new _ _ _);have HT0:Hid (Tw p w.heap.size w (w.alloc (.cells #[.int .i64 0,.int .i64 0,.string ⟨#[]⟩,.slice none 0 0,.slice none 0 0] 53 (0,0)))):=Lh (.of (za1 _ _));have hsz0:w.heap.size<(w.alloc (.cells #[.int .i64 0,.int .i64 0,.string ⟨#[]⟩,.slice none 0 0,.slice none 0 0] 53 (0,0))).heap.size:=by simp
 clear h;have HDU:Hid (dfP vel ts=if isSg [61] ts=true then exB (vel ts.tail) fun t=>.ok ((true,t.1),t.2) else .ok ((false,zJ3),ts)):=Lh rfl
 replace HD0:=HDU;clear HDU;generalize dfP vel ts=R at *
 go_enter Tryz.func171, Tryz.ntmps171
 go_wp2_with fail
 cases hsg:isSg [61] ts with
 | true =>
   have HD1:=Lh (HD0.out.trans (if_pos hsg));refine (zb0 HP0.out ⟨#[61]⟩ _ hsg).mono ?_
   rintro e wb0 ⟨rfl,hp,ht⟩;have HT1:=Lh (HT0.out.step HT0.out.size ht);have HR1:=Lh (HR0.out.far ht (by omega))
   have hsz1:w.heap.size<wb0.heap.size:=Nat.lt_of_lt_of_le hsz0 ht.size;have HP1:Hid (PSt wb0 p ts.tail _):=Lh hp;clear hp ht hsg;go_wp2_with fail
   refine (HVEL.out _ _ _ HP1.out).mono ?_
   rintro e w2 (⟨val,ts2,v2,m2,hr,rfl,hx,hp,ht⟩ | ⟨x,hr,rfl,ht⟩);rotate_left
   ·exact ⟨rfl,.inr ⟨_,HD1.out.trans (za7 hr),rfl,HT1.out.step HT1.out.size ht⟩⟩
   have HD2:=Lh (HD1.out.trans (za3 hr));have HT2:=Lh (HT1.out.step HT1.out.size ht);have HR2:=Lh (HR1.out.far ht (by omega))
   have hsz2:w.heap.size<w2.heap.size:=Nat.lt_of_lt_of_le hsz1 ht.size;have HP2:=Lh hp;have hlo2:wb0.heap.size<=w2.heap.size:=ht.size;obtain ⟨k,z,s,A,li,ci,KA,lk,ck,hv1⟩:=RdS.form hx;subst hv1;have HX:=Lh hx;clear hr hp ht hx;obtain ⟨y0,y1,y2,y3,y4,fy⟩:=HR2.out.o5;go_wp2_with fail
   clear y0 y1 y2 y3 y4 fy;obtain ⟨wz,hW⟩ : ∃ x,x=(((((w2.setCell ⟨w.heap.size,0,none⟩ (.int .i64 k)).setCell ⟨w.heap.size,1,none⟩ (.int .i64 z)).setCell ⟨w.heap.size,2,none⟩ (.string s)).setCell ⟨w.heap.size,3,none⟩ (.slice A li ci)).setCell ⟨w.heap.size,4,none⟩ (.slice KA lk ck)):=⟨_,rfl⟩;rw [<- hW];have HZ:Hid (Bk wz w.heap.size #[.int .i64 k,.int .i64 z,.string s,.slice A li ci,.slice KA lk ck] 53):=Lh (by rw [hW]; exact (((((HR2.out.setl _ _).setl _ _).setl _ _).setl _ _).setl _ _))
   have HTZ:Hid (Tw p w.heap.size w wz):=Lh (by rw [hW]; exact (((((HT2.out.setNew (Nat.le_refl _) _ _).setNew (Nat.le_refl _) _ _).setNew (Nat.le_refl _) _ _).setNew (Nat.le_refl _) _ _).setNew (Nat.le_refl _) _ _))
   have HPZ:=Lh (HP2.out.same (w':=wz) (by rw [hW]; exact (bsc (bsc (bsc (bsc (bsc (Below.refl (p+1) w2) (by omega)) (by omega)) (by omega)) (by omega)) (by omega))))
   have hsez:wz.heap.size=w2.heap.size:=by rw [hW]; simp [World.setCell]
   replace HX:=Lh (RdS.kept HX.out (w':=wz) (S':=fun b=>w.heap.size<=b/\b<wz.heap.size) (fun b hb=>by rw [hW]; simp only [hpn (show b≠w.heap.size by have:=hb.1; omega)]) (fun b hb=>⟨by have:=hb.1; omega,by rw [hsez]; exact hb.2⟩))
   obtain ⟨z0,z1,z2,z3,z4,_⟩:=HZ.out.o5;clear hW;exact bodyPost_ret (v:=.tuple #[.bool true,.agg #[.int .i64 k,.int .i64 z,.string s,.slice A li ci,.slice KA lk ck]]) (by simp [results,Tryz.results171,go_sem,z0,z1,z2,z3,z4]) rfl (.inl ⟨(true,val),_,_,_,HD2.out,rfl,⟨_,rfl,HX.out⟩,HPZ.out,HTZ.out⟩)
 | false =>
   have HD1:=Lh (HD0.out.trans (if_neg (by rw [hsg]; decide)))
   refine (zb0 HP0.out ⟨#[61]⟩ _ hsg).mono ?_
   rintro e wb0 ⟨rfl,hp,ht⟩;have HT1:=Lh (HT0.out.step HT0.out.size ht);have HR1:=Lh (HR0.out.far ht (by omega))
   have hsz1:w.heap.size<wb0.heap.size:=Nat.lt_of_lt_of_le hsz0 ht.size;have HP1:Hid (PSt wb0 p ts _):=Lh hp;clear hp ht hsg;obtain ⟨y0,y1,y2,y3,y4,fy⟩:=HR1.out.o5;go_wp2_with fail
   clear y0 y1 y2 y3 y4 fy;obtain ⟨wz,hW⟩ : ∃ x,x=(((((wb0.setCell ⟨w.heap.size,0,none⟩ (.int .i64 0)).setCell ⟨w.heap.size,1,none⟩ (.int .i64 0)).setCell ⟨w.heap.size,2,none⟩ (.string ⟨#[]⟩)).setCell ⟨w.heap.size,3,none⟩ (.slice none 0 0)).setCell ⟨w.heap.size,4,none⟩ (.slice none 0 0)):=⟨_,rfl⟩;rw [<- hW];have HZ:Hid (Bk wz w.heap.size #[.int .i64 0,.int .i64 0,.string ⟨#[]⟩,.slice none 0 0,.slice none 0 0] 53):=Lh (by rw [hW]; exact (((((HR1.out.setl _ _).setl _ _).setl _ _).setl _ _).setl _ _))
   have HTZ:Hid (Tw p w.heap.size w wz):=Lh (by rw [hW]; exact (((((HT1.out.setNew (Nat.le_refl _) _ _).setNew (Nat.le_refl _) _ _).setNew (Nat.le_refl _) _ _).setNew (Nat.le_refl _) _ _).setNew (Nat.le_refl _) _ _))
   have HPZ:=Lh (HP1.out.same (w':=wz) (by rw [hW]; exact (bsc (bsc (bsc (bsc (bsc (Below.refl (p+1) wb0) (by omega)) (by omega)) (by omega)) (by omega)) (by omega))))
   have hsez:wz.heap.size=wb0.heap.size:=by rw [hW]; simp [World.setCell]
   obtain ⟨z0,z1,z2,z3,z4,_⟩:=HZ.out.o5;clear hW;exact bodyPost_ret (v:=.tuple #[.bool false,.agg #[.int .i64 0,.int .i64 0,.string ⟨#[]⟩,.slice none 0 0,.slice none 0 0]]) (by simp [results,Tryz.results171,go_sem,z0,z1,z2,z3,z4]) rfl (.inl ⟨(false,zJ3),_,_,_,HD1.out,rfl,⟨_,rfl,zq7 _ _ 0 0 ⟨#[]⟩ (by unfold small; omega) (by unfold small; omega) (by decide)⟩,HPZ.out,HTZ.out⟩)
theorem zW3 (p:Nat) (rel:List Tk->Except Er ((ByteArray × List Int) × List Tk)) (hrel:∀ (W:World) (ts:List Tk) (m:Nat),PSt W p ts m->Calls Tryz.prog 168 #[pP p] W (WPost RefW W p (rel ts))) (vel:List Tk->Except Er (VT × List Tk)) (hvel:∀ (W:World) (ts:List Tk) (m:Nat),PSt W p ts m->Calls Tryz.prog 164 #[pP p] W (WPost ValW W p (vel ts))) (del:List Tk->Except Er (DirT × List Tk)) (hdel:∀ (W:World) (ts:List Tk) (m:Nat),PSt W p ts m->isSg [64] ts=true->Calls Tryz.prog 202 #[pP p,whV p] W (WPost DirV W p (del ts))) (hdlt:∀ (ts:List Tk) (x:DirT) (ts':List Tk),Good ts->isSg [64] ts=true->del ts=.ok (x,ts')->ts'.length<ts.length) (w:World) (ts:List Tk) (n:Nat) (h:PSt w p ts n) :
  Calls Tryz.prog 121 #[pP p] w (WPost InpV w p (inpP rel vel del ts)):=by
 have HREL:=Lh hrel;have HVEL:=Lh hvel;have HDEL:=Lh hdel;have HDLT:=Lh hdlt;clear hrel hvel hdel hdlt;have HD0:Hid (inpP rel vel del ts=inpP rel vel del ts):=Lh rfl;have hpw:=h.lt;have hhp:p≠w.heap.size:=by omega
 have HP0:Hid (PSt (w.alloc (.cells #[.string ⟨#[]⟩,.string ⟨#[]⟩,.slice none 0 0,.bool false,.int .i64 0,.int .i64 0,.string ⟨#[]⟩,.slice none 0 0,.slice none 0 0,.slice none 0 0] 55 (0,0))) p ts n):=Lh (h.stay (za1 _ _));have HR0:Hid (Bk (w.alloc (.cells #[.string ⟨#[]⟩,.string ⟨#[]⟩,.slice none 0 0,.bool false,.int .i64 0,.int .i64 0,.string ⟨#[]⟩,.slice none 0 0,.slice none 0 0,.slice none 0 0] 55 (0,0))) w.heap.size #[.string ⟨#[]⟩,.string ⟨#[]⟩,.slice none 0 0,.bool false,.int .i64 0,.int .i64 0,.string ⟨#[]⟩,.slice none 0 0,.slice none 0 0,.slice none 0 0] 55):=Lh (Bk.new _ _ _);have HT0:Hid (Tw p w.heap.size w (w.alloc (.cells #[.string ⟨#[]⟩,.string ⟨#[]⟩,.slice none 0 0,.bool false,.int .i64 0,.int .i64 0,.string ⟨#[]⟩,.slice none 0 0,.slice none 0 0,.slice none 0 0] 55 (0,0)))):=Lh (.of (za1 _ _));have hsz0:w.heap.size<(w.alloc (.cells #[.string ⟨#[]⟩,.string ⟨#[]⟩,.slice none 0 0,.bool false,.int .i64 0,.int .i64 0,.string ⟨#[]⟩,.slice none 0 0,.slice none 0 0,.slice none 0 0] 55 (0,0))).heap.size:=by simp
 clear h;have HDU:Hid (inpP rel vel del ts=exB (nmR ts) fun q=>exB (sgR [58] q.2) fun ts1=>exB (rel ts1) fun r=>exB (dfP vel r.2) fun t=>exB (drsR del t.2) fun d=>.ok (⟨q.1,r.1.1,r.1.2,t.1.1,t.1.2,d.1⟩,d.2)):=Lh (inpP_eq rel vel del ts);replace HD0:=HDU;clear HDU;generalize inpP rel vel del ts=R at *
 go_enter Tryz.func121, Tryz.ntmps121
 go_wp2_with fail
 refine (zc9 HP0.out).mono ?_
 rintro e w1 (⟨nm,ts1,v,hr,rfl,⟨rfl,hnz⟩,hp,ht⟩ | ⟨x,hr,rfl,ht⟩);rotate_left
 ·exact ⟨rfl,.inr ⟨_,HD0.out.trans (za7 hr),rfl,HT0.out.step HT0.out.size ht⟩⟩
 have HD1:=Lh (HD0.out.trans (za3 hr));have HT1:=Lh (HT0.out.step HT0.out.size ht);have HR1:=Lh (HR0.out.far ht (by omega))
 have hsz1:w.heap.size<w1.heap.size:=Nat.lt_of_lt_of_le hsz0 ht.size;have HP1:=Lh hp;have HN:=Lh hnz;clear hr hp ht hnz;go_wp2_with fail
 have ht:Tw p w1.heap.size w1 (w1.alloc (.cells #[.string nm,.string ⟨#[]⟩,.slice none 0 0,.bool false,.int .i64 0,.int .i64 0,.string ⟨#[]⟩,.slice none 0 0,.slice none 0 0,.slice none 0 0] 55 (0,0))):=.of (za1 _ _);have hlv:w.heap.size<w1.heap.size:=hsz1;have hlp:p≠w1.heap.size:=by omega
 have hlv2:w1.heap.size<(w1.alloc (.cells #[.string nm,.string ⟨#[]⟩,.slice none 0 0,.bool false,.int .i64 0,.int .i64 0,.string ⟨#[]⟩,.slice none 0 0,.slice none 0 0,.slice none 0 0] 55 (0,0))).heap.size:=by simp
 have HT2:=Lh (HT1.out.step HT1.out.size ht);have HR2:=Lh (HR1.out.far ht (by omega))
 have HV2:Hid (Bk (w1.alloc (.cells #[.string nm,.string ⟨#[]⟩,.slice none 0 0,.bool false,.int .i64 0,.int .i64 0,.string ⟨#[]⟩,.slice none 0 0,.slice none 0 0,.slice none 0 0] 55 (0,0))) w1.heap.size #[.string nm,.string ⟨#[]⟩,.slice none 0 0,.bool false,.int .i64 0,.int .i64 0,.string ⟨#[]⟩,.slice none 0 0,.slice none 0 0,.slice none 0 0] 55):=Lh (Bk.new _ _ _);have HP2:=Lh (HP1.out.stay (za1 w1 (.cells #[.string nm,.string ⟨#[]⟩,.slice none 0 0,.bool false,.int .i64 0,.int .i64 0,.string ⟨#[]⟩,.slice none 0 0,.slice none 0 0,.slice none 0 0] 55 (0,0))));have hsz2:w.heap.size<(w1.alloc (.cells #[.string nm,.string ⟨#[]⟩,.slice none 0 0,.bool false,.int .i64 0,.int .i64 0,.string ⟨#[]⟩,.slice none 0 0,.slice none 0 0,.slice none 0 0] 55 (0,0))).heap.size:=by simp; omega
 clear ht;go_wp2_with fail
 refine (zd9 HP2.out ⟨#[58]⟩).mono ?_
 rintro e w3 (⟨ts3,hr,rfl,hp,ht⟩ | ⟨x,hr,rfl,ht⟩);rotate_left
 ·exact ⟨rfl,.inr ⟨_,HD1.out.trans (za7 hr),rfl,HT2.out.step HT2.out.size ht⟩⟩
 have HD2:=Lh (HD1.out.trans (za3 hr));have HT3:=Lh (HT2.out.step HT2.out.size ht);have HR3:=Lh (HR2.out.far ht (by omega))
 have HV3:=Lh (HV2.out.far ht (by have:=hlv; omega))
 have hsz3:w.heap.size<w3.heap.size:=Nat.lt_of_lt_of_le hsz2 ht.size;replace hlv2:=Nat.lt_of_lt_of_le hlv2 ht.size;have HP3:=Lh hp;clear hr hp ht;go_wp2_with fail
 have hlw4:w1.heap.size<w3.heap.size:=hlv2;refine (HREL.out _ _ _ HP3.out).mono ?_
 rintro e w4 (⟨rf,ts4,v4,m4,hr,rfl,hx,hp,ht⟩ | ⟨x,hr,rfl,ht⟩);rotate_left
 ·exact ⟨rfl,.inr ⟨_,HD2.out.trans (za7 hr),rfl,HT3.out.step HT3.out.size ht⟩⟩
 have HD3:=Lh (HD2.out.trans (za3 hr));have HT4:=Lh (HT3.out.step HT3.out.size ht);have HR4:=Lh (HR3.out.far ht (by omega))
 have HV4:=Lh (HV3.out.far ht (by have:=hlv; omega))
 have hsz4:w.heap.size<w4.heap.size:=Nat.lt_of_lt_of_le hsz3 ht.size;replace hlv2:=Nat.lt_of_lt_of_le hlv2 ht.size;have HP4:=Lh hp;have hlo4:w3.heap.size<=w4.heap.size:=ht.size;obtain ⟨A2,d2,hv1,hxr⟩:=RefW.shape hx;clear hx;subst hv1;have hx:=hxr;clear hxr;have HREF:=Lh hx;clear hr hp ht hx;obtain ⟨x0,x1,x2,x3,x4,x5,x6,x7,x8,x9,fx⟩:=HV4.out.o10;go_wp2_with fail
 clear x0 x1 x2 x3 x4 x5 x6 x7 x8 x9 fx;obtain ⟨wg5,hW⟩ : ∃ x,x=((w4.setCell ⟨w1.heap.size,1,none⟩ (.string rf.1)).setCell ⟨w1.heap.size,2,none⟩ (.slice A2 rf.2.length d2)):=⟨_,rfl⟩;rw [<- hW];have HT5:Hid (Tw p w.heap.size w wg5):=Lh (by rw [hW]; exact ((HT4.out.setNew (by omega) _ _).setNew (by omega) _ _))
 have HR5:Hid (Bk wg5 w.heap.size #[.string ⟨#[]⟩,.string ⟨#[]⟩,.slice none 0 0,.bool false,.int .i64 0,.int .i64 0,.string ⟨#[]⟩,.slice none 0 0,.slice none 0 0,.slice none 0 0] 55):=Lh (by rw [hW]; exact ((HR4.out.off (by omega) _ _).off (by omega) _ _))
 have HV5:Hid (Bk wg5 w1.heap.size #[.string nm,.string rf.1,.slice A2 rf.2.length d2,.bool false,.int .i64 0,.int .i64 0,.string ⟨#[]⟩,.slice none 0 0,.slice none 0 0,.slice none 0 0] 55):=Lh (by rw [hW]; exact ((HV4.out.setl _ _).setl _ _))
 have HP5:=Lh (HP4.out.same (w':=wg5) (by rw [hW]; exact (bsc (bsc (Below.refl (p+1) w4) (by omega)) (by omega))))
 have hse5:wg5.heap.size=w4.heap.size:=by rw [hW]; simp [World.setCell]
 have hsz5:w.heap.size<wg5.heap.size:=by omega
 replace HREF:=Lh (RfC.kept HREF.out (w':=wg5) (S':=fun b=>w3.heap.size<=b/\b<wg5.heap.size) (fun b hb=>by rw [hW]; simp only [hpn (show b≠w1.heap.size by have:=hb.1; omega)]) (fun b hb=>⟨hb.1,by rw [hse5]; exact hb.2⟩))
 replace hlv2:w1.heap.size<wg5.heap.size:=by omega
 clear hW;go_wp2_with fail
 have hlw6:w1.heap.size<wg5.heap.size:=hlv2;refine (zI6 p vel HVEL.out _ _ _ HP5.out).mono ?_
 rintro e w6 (⟨df,ts6,v6,m6,hr,rfl,hx,hp,ht⟩ | ⟨x,hr,rfl,ht⟩);rotate_left
 ·exact ⟨rfl,.inr ⟨_,HD3.out.trans (za7 hr),rfl,HT5.out.step HT5.out.size ht⟩⟩
 have HD4:=Lh (HD3.out.trans (za3 hr));have HT6:=Lh (HT5.out.step HT5.out.size ht);have HR6:=Lh (HR5.out.far ht (by omega))
 have HV6:=Lh (HV5.out.far ht (by have:=hlv; omega))
 replace HREF:=Lh (RfC.kept HREF.out (w':=w6) (S':=fun b=>w3.heap.size<=b/\b<w6.heap.size) (fun b hb=>ht.block b hb.2 (by have:=hb.1; omega)) (fun b hb=>⟨hb.1,Nat.lt_of_lt_of_le hb.2 ht.size⟩))
 have hsz6:w.heap.size<w6.heap.size:=Nat.lt_of_lt_of_le hsz5 ht.size;replace hlv2:=Nat.lt_of_lt_of_le hlv2 ht.size;have HP6:=Lh hp;have hlo6:wg5.heap.size<=w6.heap.size:=ht.size;obtain ⟨u,hv1,hxr⟩:=hx;obtain ⟨k,z,s,A,li,ci,KA,lk,ck,hu⟩:=RdS.form hxr;subst hu;subst hv1;have hx:=hxr;clear hxr;have HX:=Lh hx;clear hr hp ht hx;obtain ⟨x0,x1,x2,x3,x4,x5,x6,x7,x8,x9,fx⟩:=HV6.out.o10;go_wp2_with fail
 clear x0 x1 x2 x3 x4 x5 x6 x7 x8 x9 fx;obtain ⟨wg7,hW⟩ : ∃ x,x=((((((w6.setCell ⟨w1.heap.size,3,none⟩ (.bool df.1)).setCell ⟨w1.heap.size,4,none⟩ (.int .i64 k)).setCell ⟨w1.heap.size,5,none⟩ (.int .i64 z)).setCell ⟨w1.heap.size,6,none⟩ (.string s)).setCell ⟨w1.heap.size,7,none⟩ (.slice A li ci)).setCell ⟨w1.heap.size,8,none⟩ (.slice KA lk ck)):=⟨_,rfl⟩;rw [<- hW];have HT7:Hid (Tw p w.heap.size w wg7):=Lh (by rw [hW]; exact ((((((HT6.out.setNew (by omega) _ _).setNew (by omega) _ _).setNew (by omega) _ _).setNew (by omega) _ _).setNew (by omega) _ _).setNew (by omega) _ _))
 have HR7:Hid (Bk wg7 w.heap.size #[.string ⟨#[]⟩,.string ⟨#[]⟩,.slice none 0 0,.bool false,.int .i64 0,.int .i64 0,.string ⟨#[]⟩,.slice none 0 0,.slice none 0 0,.slice none 0 0] 55):=Lh (by rw [hW]; exact ((((((HR6.out.off (by omega) _ _).off (by omega) _ _).off (by omega) _ _).off (by omega) _ _).off (by omega) _ _).off (by omega) _ _))
 have HV7:Hid (Bk wg7 w1.heap.size #[.string nm,.string rf.1,.slice A2 rf.2.length d2,.bool df.1,.int .i64 k,.int .i64 z,.string s,.slice A li ci,.slice KA lk ck,.slice none 0 0] 55):=Lh (by rw [hW]; exact ((((((HV6.out.setl _ _).setl _ _).setl _ _).setl _ _).setl _ _).setl _ _))
 have HP7:=Lh (HP6.out.same (w':=wg7) (by rw [hW]; exact (bsc (bsc (bsc (bsc (bsc (bsc (Below.refl (p+1) w6) (by omega)) (by omega)) (by omega)) (by omega)) (by omega)) (by omega))))
 have hse7:wg7.heap.size=w6.heap.size:=by rw [hW]; simp [World.setCell]
 have hsz7:w.heap.size<wg7.heap.size:=by omega
 replace HREF:=Lh (RfC.kept HREF.out (w':=wg7) (S':=fun b=>w3.heap.size<=b/\b<wg7.heap.size) (fun b hb=>by rw [hW]; simp only [hpn (show b≠w1.heap.size by have:=hb.1; omega)]) (fun b hb=>⟨hb.1,by rw [hse7]; exact hb.2⟩))
 replace HX:=Lh (RdS.kept HX.out (w':=wg7) (S':=fun b=>wg5.heap.size<=b/\b<wg7.heap.size) (fun b hb=>by rw [hW]; simp only [hpn (show b≠w1.heap.size by have:=hb.1; omega)]) (fun b hb=>⟨hb.1,by rw [hse7]; exact hb.2⟩))
 replace hlv2:w1.heap.size<wg7.heap.size:=by omega
 clear hW;have hlw8:w1.heap.size<wg7.heap.size:=hlv2;refine (zb8 p del HDEL.out HDLT.out _ _ _ HP7.out).mono ?_
 rintro e w8 (⟨dirs,ts8,v8,m8,hr,rfl,hx,hp,ht⟩ | ⟨x,hr,rfl,ht⟩);rotate_left
 ·exact ⟨rfl,.inr ⟨_,HD4.out.trans (za7 hr),rfl,HT7.out.step HT7.out.size ht⟩⟩
 have HD5:=Lh (HD4.out.trans (za3 hr));have HT8:=Lh (HT7.out.step HT7.out.size ht);have HR8:=Lh (HR7.out.far ht (by omega))
 have HV8:=Lh (HV7.out.far ht (by have:=hlv; omega))
 replace HREF:=Lh (RfC.kept HREF.out (w':=w8) (S':=fun b=>w3.heap.size<=b/\b<w8.heap.size) (fun b hb=>ht.block b hb.2 (by have:=hb.1; omega)) (fun b hb=>⟨hb.1,Nat.lt_of_lt_of_le hb.2 ht.size⟩))
 replace HX:=Lh (RdS.kept HX.out (w':=w8) (S':=fun b=>wg5.heap.size<=b/\b<w8.heap.size) (fun b hb=>ht.block b hb.2 (by have:=hb.1; omega)) (fun b hb=>⟨hb.1,Nat.lt_of_lt_of_le hb.2 ht.size⟩))
 have hsz8:w.heap.size<w8.heap.size:=Nat.lt_of_lt_of_le hsz7 ht.size;replace hlv2:=Nat.lt_of_lt_of_le hlv2 ht.size;have HP8:=Lh hp;have hlo8:wg7.heap.size<=w8.heap.size:=ht.size;obtain ⟨A9,d9,hv9,_,_⟩:=SlS.form hx;subst hv9;have HDI:=Lh hx;clear hr hp ht hx;obtain ⟨x0,x1,x2,x3,x4,x5,x6,x7,x8,x9,fx⟩:=HV8.out.o10;obtain ⟨y0,y1,y2,y3,y4,y5,y6,y7,y8,y9,fy⟩:=HR8.out.o10;have hne:w.heap.size≠w1.heap.size:=by omega
 have hne2:w1.heap.size≠w.heap.size:=by omega
 go_wp2_with fail
 clear x0 x1 x2 x3 x4 x5 x6 x7 x8 x9 fx;clear y0 y1 y2 y3 y4 y5 y6 y7 y8 y9 fy;obtain ⟨wg9,hW⟩ : ∃ x,x=(w8.setCell ⟨w1.heap.size,9,none⟩ (.slice A9 dirs.length d9)):=⟨_,rfl⟩;rw [<- hW];have HT9:Hid (Tw p w.heap.size w wg9):=Lh (by rw [hW]; exact (HT8.out.setNew (by omega) _ _))
 have HR9:Hid (Bk wg9 w.heap.size #[.string ⟨#[]⟩,.string ⟨#[]⟩,.slice none 0 0,.bool false,.int .i64 0,.int .i64 0,.string ⟨#[]⟩,.slice none 0 0,.slice none 0 0,.slice none 0 0] 55):=Lh (by rw [hW]; exact (HR8.out.off (by omega) _ _))
 have HV9:Hid (Bk wg9 w1.heap.size #[.string nm,.string rf.1,.slice A2 rf.2.length d2,.bool df.1,.int .i64 k,.int .i64 z,.string s,.slice A li ci,.slice KA lk ck,.slice A9 dirs.length d9] 55):=Lh (by rw [hW]; exact (HV8.out.setl _ _))
 have HP9:=Lh (HP8.out.same (w':=wg9) (by rw [hW]; exact (bsc (Below.refl (p+1) w8) (by omega))))
 have hse9:wg9.heap.size=w8.heap.size:=by rw [hW]; simp [World.setCell]
 have hsz9:w.heap.size<wg9.heap.size:=by omega
 replace HREF:=Lh (RfC.kept HREF.out (w':=wg9) (S':=fun b=>w3.heap.size<=b/\b<wg9.heap.size) (fun b hb=>by rw [hW]; simp only [hpn (show b≠w1.heap.size by have:=hb.1; omega)]) (fun b hb=>⟨hb.1,by rw [hse9]; exact hb.2⟩))
 replace HX:=Lh (RdS.kept HX.out (w':=wg9) (S':=fun b=>wg5.heap.size<=b/\b<wg9.heap.size) (fun b hb=>by rw [hW]; simp only [hpn (show b≠w1.heap.size by have:=hb.1; omega)]) (fun b hb=>⟨hb.1,by rw [hse9]; exact hb.2⟩))
 replace HDI:=Lh (SlS.kept DirC.stays HDI.out (w':=wg9) (S':=fun b=>wg7.heap.size<=b/\b<wg9.heap.size) (fun b hb=>by rw [hW]; simp only [hpn (show b≠w1.heap.size by have:=hb.1; omega)]) (fun b hb=>⟨hb.1,by rw [hse9]; exact hb.2⟩))
 replace hlv2:w1.heap.size<wg9.heap.size:=by omega
 clear hW;obtain ⟨wz,hW⟩ : ∃ x,x=((((((((((wg9.setCell ⟨w.heap.size,0,none⟩ (.string nm)).setCell ⟨w.heap.size,1,none⟩ (.string rf.1)).setCell ⟨w.heap.size,2,none⟩ (.slice A2 rf.2.length d2)).setCell ⟨w.heap.size,3,none⟩ (.bool df.1)).setCell ⟨w.heap.size,4,none⟩ (.int .i64 k)).setCell ⟨w.heap.size,5,none⟩ (.int .i64 z)).setCell ⟨w.heap.size,6,none⟩ (.string s)).setCell ⟨w.heap.size,7,none⟩ (.slice A li ci)).setCell ⟨w.heap.size,8,none⟩ (.slice KA lk ck)).setCell ⟨w.heap.size,9,none⟩ (.slice A9 dirs.length d9)):=⟨_,rfl⟩;rw [<- hW];have HZ:Hid (Bk wz w.heap.size #[.string nm,.string rf.1,.slice A2 rf.2.length d2,.bool df.1,.int .i64 k,.int .i64 z,.string s,.slice A li ci,.slice KA lk ck,.slice A9 dirs.length d9] 55):=Lh (by rw [hW]; exact ((((((((((HR9.out.setl _ _).setl _ _).setl _ _).setl _ _).setl _ _).setl _ _).setl _ _).setl _ _).setl _ _).setl _ _))
 have HTZ:Hid (Tw p w.heap.size w wz):=Lh (by rw [hW]; exact ((((((((((HT9.out.setNew (Nat.le_refl _) _ _).setNew (Nat.le_refl _) _ _).setNew (Nat.le_refl _) _ _).setNew (Nat.le_refl _) _ _).setNew (Nat.le_refl _) _ _).setNew (Nat.le_refl _) _ _).setNew (Nat.le_refl _) _ _).setNew (Nat.le_refl _) _ _).setNew (Nat.le_refl _) _ _).setNew (Nat.le_refl _) _ _))
 have HPZ:=Lh (HP9.out.same (w':=wz) (by rw [hW]; exact (bsc (bsc (bsc (bsc (bsc (bsc (bsc (bsc (bsc (bsc (Below.refl (p+1) wg9) (by omega)) (by omega)) (by omega)) (by omega)) (by omega)) (by omega)) (by omega)) (by omega)) (by omega)) (by omega))))
 have hsez:wz.heap.size=wg9.heap.size:=by rw [hW]; simp [World.setCell]
 replace HREF:=Lh (RfC.kept HREF.out (w':=wz) (S':=fun b=>w.heap.size<=b/\b<wz.heap.size) (fun b hb=>by rw [hW]; simp only [hpn (show b≠w.heap.size by have:=hb.1; omega)]) (fun b hb=>⟨by have:=hb.1; omega,by rw [hsez]; exact hb.2⟩))
 replace HX:=Lh (RdS.kept HX.out (w':=wz) (S':=fun b=>w.heap.size<=b/\b<wz.heap.size) (fun b hb=>by rw [hW]; simp only [hpn (show b≠w.heap.size by have:=hb.1; omega)]) (fun b hb=>⟨by have:=hb.1; omega,by rw [hsez]; exact hb.2⟩))
 replace HDI:=Lh (SlS.kept DirC.stays HDI.out (w':=wz) (S':=fun b=>w.heap.size<=b/\b<wz.heap.size) (fun b hb=>by rw [hW]; simp only [hpn (show b≠w.heap.size by have:=hb.1; omega)]) (fun b hb=>⟨by have:=hb.1; omega,by rw [hsez]; exact hb.2⟩))
 obtain ⟨z0,z1,z2,z3,z4,z5,z6,z7,z8,z9,_⟩:=HZ.out.o10;clear hW;exact bodyPost_ret (v:=.agg #[.string nm,.string rf.1,.slice A2 rf.2.length d2,.bool df.1,.int .i64 k,.int .i64 z,.string s,.slice A li ci,.slice KA lk ck,.slice A9 dirs.length d9]) (by simp [results,Tryz.results121,go_sem,z0,z1,z2,z3,z4,z5,z6,z7,z8,z9]) rfl (.inl ⟨⟨nm,rf.1,rf.2,df.1,df.2,dirs⟩,_,_,_,HD5.out,rfl,⟨_,_,_,_,_,_,_,_,_,_,rfl,⟨rfl,Nat.le_trans HN.out (by decide),HREF.out,rfl,HX.out,HDI.out⟩⟩,HPZ.out,HTZ.out⟩)
theorem zW4 (p:Nat) (iel:List Tk->Except Er (InpT × List Tk)) (hiel:∀ (W:World) (ts:List Tk) (m:Nat),PSt W p ts m->isNm ts=true->Calls Tryz.prog 121 #[pP p] W (WPost InpV W p (iel ts))) (hilt:∀ (ts:List Tk) (x:InpT) (ts':List Tk),Good ts->isNm ts=true->iel ts=.ok (x,ts')->ts'.length<ts.length) (rel:List Tk->Except Er ((ByteArray × List Int) × List Tk)) (hrel:∀ (W:World) (ts:List Tk) (m:Nat),PSt W p ts m->Calls Tryz.prog 168 #[pP p] W (WPost RefW W p (rel ts))) (del:List Tk->Except Er (DirT × List Tk)) (hdel:∀ (W:World) (ts:List Tk) (m:Nat),PSt W p ts m->isSg [64] ts=true->Calls Tryz.prog 202 #[pP p,whV p] W (WPost DirV W p (del ts))) (hdlt:∀ (ts:List Tk) (x:DirT) (ts':List Tk),Good ts->isSg [64] ts=true->del ts=.ok (x,ts')->ts'.length<ts.length) (w:World) (ts:List Tk) (n:Nat) (h:PSt w p ts n) :
  Calls Tryz.prog 116 #[pP p] w (WPost FldV w p (fldP iel rel del ts)):=by
 have HIEL:=Lh hiel;have HILT:=Lh hilt;have HREL:=Lh hrel;have HDEL:=Lh hdel;have HDLT:=Lh hdlt;clear hiel hilt hrel hdel hdlt;have hmf:∀ (fn:Fn) (first cap:Array Value) (w:World),(Instr.makeFunc fn first cap).run Tryz.prog w=.ok (.func fn first cap) w:=fun _ _ _ _=>rfl;have HD0:Hid (fldP iel rel del ts=fldP iel rel del ts):=Lh rfl;have hpw:=h.lt;have hhp:p≠w.heap.size:=by omega
 have HP0:Hid (PSt (w.alloc (.cells #[.string ⟨#[]⟩,.slice none 0 0,.string ⟨#[]⟩,.slice none 0 0,.slice none 0 0] 46 (0,0))) p ts n):=Lh (h.stay (za1 _ _));have HR0:Hid (Bk (w.alloc (.cells #[.string ⟨#[]⟩,.slice none 0 0,.string ⟨#[]⟩,.slice none 0 0,.slice none 0 0] 46 (0,0))) w.heap.size #[.string ⟨#[]⟩,.slice none 0 0,.string ⟨#[]⟩,.slice none 0 0,.slice none 0 0] 46):=Lh (Bk.new _ _ _);have HT0:Hid (Tw p w.heap.size w (w.alloc (.cells #[.string ⟨#[]⟩,.slice none 0 0,.string ⟨#[]⟩,.slice none 0 0,.slice none 0 0] 46 (0,0)))):=Lh (.of (za1 _ _));have hsz0:w.heap.size<(w.alloc (.cells #[.string ⟨#[]⟩,.slice none 0 0,.string ⟨#[]⟩,.slice none 0 0,.slice none 0 0] 46 (0,0))).heap.size:=by simp
 clear h;have HDU:Hid (fldP iel rel del ts=exB (nmR ts) fun q=>if isSg [40] q.2=true then exB (blR [40] [41] 16 iel q.2) fun a=>fldQ rel del q.1 a.1 a.2 else fldQ rel del q.1 [] q.2):=Lh rfl
 replace HD0:=HDU;clear HDU;generalize fldP iel rel del ts=R at *
 go_enter Tryz.func116, Tryz.ntmps116
 go_wp2_with fail
 refine (zc9 HP0.out).mono ?_
 rintro e w1 (⟨nm,ts1,v,hr,rfl,⟨rfl,hnz⟩,hp,ht⟩ | ⟨x,hr,rfl,ht⟩);rotate_left
 ·exact ⟨rfl,.inr ⟨_,HD0.out.trans (za7 hr),rfl,HT0.out.step HT0.out.size ht⟩⟩
 have HD1:=Lh (HD0.out.trans (za3 hr));have HT1:=Lh (HT0.out.step HT0.out.size ht);have HR1:=Lh (HR0.out.far ht (by omega))
 have hsz1:w.heap.size<w1.heap.size:=Nat.lt_of_lt_of_le hsz0 ht.size;have HP1:=Lh hp;have HN:=Lh hnz;clear hr hp ht hnz;go_wp2_with fail
 have ht:Tw p w1.heap.size w1 (w1.alloc (.cells #[.string nm,.slice none 0 0,.string ⟨#[]⟩,.slice none 0 0,.slice none 0 0] 46 (0,0))):=.of (za1 _ _);have hlv:w.heap.size<w1.heap.size:=hsz1;have hlp:p≠w1.heap.size:=by omega
 have hlv2:w1.heap.size<(w1.alloc (.cells #[.string nm,.slice none 0 0,.string ⟨#[]⟩,.slice none 0 0,.slice none 0 0] 46 (0,0))).heap.size:=by simp
 have HT2:=Lh (HT1.out.step HT1.out.size ht);have HR2:=Lh (HR1.out.far ht (by omega))
 have HV2:Hid (Bk (w1.alloc (.cells #[.string nm,.slice none 0 0,.string ⟨#[]⟩,.slice none 0 0,.slice none 0 0] 46 (0,0))) w1.heap.size #[.string nm,.slice none 0 0,.string ⟨#[]⟩,.slice none 0 0,.slice none 0 0] 46):=Lh (Bk.new _ _ _);have HP2:=Lh (HP1.out.stay (za1 w1 (.cells #[.string nm,.slice none 0 0,.string ⟨#[]⟩,.slice none 0 0,.slice none 0 0] 46 (0,0))));have hsz2:w.heap.size<(w1.alloc (.cells #[.string nm,.slice none 0 0,.string ⟨#[]⟩,.slice none 0 0,.slice none 0 0] 46 (0,0))).heap.size:=by simp; omega
 clear ht;go_wp2_with fail
 cases hsg:isSg [40] ts1 with
 | true =>
   have HD2:=Lh (HD1.out.trans (if_pos hsg));have hc:=zg0 HP2.out ⟨#[40]⟩;rw [show isSg (⟨#[40]⟩ : ByteArray).data.toList ts1=true from hsg] at hc;refine hc.mono ?_
   clear hc;rintro e wb2 ⟨rfl,hb⟩;have ht:Tw p _ _ wb2:=.of hb;have HT3:=Lh (HT2.out.step HT2.out.size ht);have HR3:=Lh (HR2.out.far ht (by omega))
   have HV3:=Lh (HV2.out.far ht (by have:=hlv; omega))
   have hsz3:w.heap.size<wb2.heap.size:=Nat.lt_of_lt_of_le hsz2 ht.size;replace hlv2:=Nat.lt_of_lt_of_le hlv2 ht.size;have HP3:=Lh (HP2.out.stay hb);clear hb ht hsg;obtain ⟨x0,x1,x2,x3,x4,fx⟩:=HV3.out.o5;go_wp2_with fail
   clear x0 x1 x2 x3 x4 fx;have hlw4:w1.heap.size<wb2.heap.size:=hlv2;refine (zq9 p iel HIEL.out HILT.out _ ts1 _ HP3.out 40 41 16 (by omega) 16 rfl).mono ?_
   rintro e w4 (⟨args,ts4,v4,m4,hr,rfl,hx,hp,ht⟩ | ⟨x,hr,rfl,ht⟩);rotate_left
   ·exact ⟨rfl,.inr ⟨_,HD2.out.trans (za7 hr),rfl,HT3.out.step HT3.out.size ht⟩⟩
   have HD3:=Lh (HD2.out.trans (za3 hr));have HT4:=Lh (HT3.out.step HT3.out.size ht);have HR4:=Lh (HR3.out.far ht (by omega))
   have HV4:=Lh (HV3.out.far ht (by have:=hlv; omega))
   have hsz4:w.heap.size<w4.heap.size:=Nat.lt_of_lt_of_le hsz3 ht.size;replace hlv2:=Nat.lt_of_lt_of_le hlv2 ht.size;have HP4:=Lh hp;have hlo4:wb2.heap.size<=w4.heap.size:=ht.size;obtain ⟨A1,d1,hv1,_,_⟩:=SlS.form hx;subst hv1;have HX:=Lh hx;clear hr hp ht hx;obtain ⟨x0,x1,x2,x3,x4,fx⟩:=HV4.out.o5;go_wp2_with fail
   clear x0 x1 x2 x3 x4 fx;obtain ⟨wg5,hW⟩ : ∃ x,x=(w4.setCell ⟨w1.heap.size,1,none⟩ (.slice A1 args.length d1)):=⟨_,rfl⟩;rw [<- hW];have HT5:Hid (Tw p w.heap.size w wg5):=Lh (by rw [hW]; exact (HT4.out.setNew (by omega) _ _))
   have HR5:Hid (Bk wg5 w.heap.size #[.string ⟨#[]⟩,.slice none 0 0,.string ⟨#[]⟩,.slice none 0 0,.slice none 0 0] 46):=Lh (by rw [hW]; exact (HR4.out.off (by omega) _ _))
   have HV5:Hid (Bk wg5 w1.heap.size #[.string nm,.slice A1 args.length d1,.string ⟨#[]⟩,.slice none 0 0,.slice none 0 0] 46):=Lh (by rw [hW]; exact (HV4.out.setl _ _))
   have HP5:=Lh (HP4.out.same (w':=wg5) (by rw [hW]; exact (bsc (Below.refl (p+1) w4) (by omega))))
   have hse5:wg5.heap.size=w4.heap.size:=by rw [hW]; simp [World.setCell]
   have hsz5:w.heap.size<wg5.heap.size:=by omega
   replace HX:=Lh (SlS.kept InpC.stays HX.out (w':=wg5) (S':=fun b=>wb2.heap.size<=b/\b<wg5.heap.size) (fun b hb=>by rw [hW]; simp only [hpn (show b≠w1.heap.size by have:=hb.1; omega)]) (fun b hb=>⟨hb.1,by rw [hse5]; exact hb.2⟩))
   replace hlv2:w1.heap.size<wg5.heap.size:=by omega
   clear hW;refine (zd9 HP5.out ⟨#[58]⟩).mono ?_
   rintro e w6 (⟨ts6,hr,rfl,hp,ht⟩ | ⟨x,hr,rfl,ht⟩);rotate_left
   ·exact ⟨rfl,.inr ⟨_,HD3.out.trans (za7 hr),rfl,HT5.out.step HT5.out.size ht⟩⟩
   have HD4:=Lh (HD3.out.trans (za3 hr));have HT6:=Lh (HT5.out.step HT5.out.size ht);have HR6:=Lh (HR5.out.far ht (by omega))
   have HV6:=Lh (HV5.out.far ht (by have:=hlv; omega))
   replace HX:=Lh (SlS.kept InpC.stays HX.out (w':=w6) (S':=fun b=>wb2.heap.size<=b/\b<w6.heap.size) (fun b hb=>ht.block b hb.2 (by have:=hb.1; omega)) (fun b hb=>⟨hb.1,Nat.lt_of_lt_of_le hb.2 ht.size⟩))
   have hsz6:w.heap.size<w6.heap.size:=Nat.lt_of_lt_of_le hsz5 ht.size;replace hlv2:=Nat.lt_of_lt_of_le hlv2 ht.size;have HP6:=Lh hp;clear hr hp ht;go_wp2_with fail
   have hlw7:w1.heap.size<w6.heap.size:=hlv2;refine (HREL.out _ _ _ HP6.out).mono ?_
   rintro e w7 (⟨rf,ts7,v7,m7,hr,rfl,hx,hp,ht⟩ | ⟨x,hr,rfl,ht⟩);rotate_left
   ·exact ⟨rfl,.inr ⟨_,HD4.out.trans (za7 hr),rfl,HT6.out.step HT6.out.size ht⟩⟩
   have HD5:=Lh (HD4.out.trans (za3 hr));have HT7:=Lh (HT6.out.step HT6.out.size ht);have HR7:=Lh (HR6.out.far ht (by omega))
   have HV7:=Lh (HV6.out.far ht (by have:=hlv; omega))
   replace HX:=Lh (SlS.kept InpC.stays HX.out (w':=w7) (S':=fun b=>wb2.heap.size<=b/\b<w7.heap.size) (fun b hb=>ht.block b hb.2 (by have:=hb.1; omega)) (fun b hb=>⟨hb.1,Nat.lt_of_lt_of_le hb.2 ht.size⟩))
   have hsz7:w.heap.size<w7.heap.size:=Nat.lt_of_lt_of_le hsz6 ht.size;replace hlv2:=Nat.lt_of_lt_of_le hlv2 ht.size;have HP7:=Lh hp;have hlo7:w6.heap.size<=w7.heap.size:=ht.size;obtain ⟨A2,d2,hv1,hxr⟩:=RefW.shape hx;clear hx;subst hv1;have hx:=hxr;clear hxr;have HREF:=Lh hx;clear hr hp ht hx;obtain ⟨x0,x1,x2,x3,x4,fx⟩:=HV7.out.o5;go_wp2_with fail
   clear x0 x1 x2 x3 x4 fx;obtain ⟨wg8,hW⟩ : ∃ x,x=((w7.setCell ⟨w1.heap.size,2,none⟩ (.string rf.1)).setCell ⟨w1.heap.size,3,none⟩ (.slice A2 rf.2.length d2)):=⟨_,rfl⟩;rw [<- hW];have HT8:Hid (Tw p w.heap.size w wg8):=Lh (by rw [hW]; exact ((HT7.out.setNew (by omega) _ _).setNew (by omega) _ _))
   have HR8:Hid (Bk wg8 w.heap.size #[.string ⟨#[]⟩,.slice none 0 0,.string ⟨#[]⟩,.slice none 0 0,.slice none 0 0] 46):=Lh (by rw [hW]; exact ((HR7.out.off (by omega) _ _).off (by omega) _ _))
   have HV8:Hid (Bk wg8 w1.heap.size #[.string nm,.slice A1 args.length d1,.string rf.1,.slice A2 rf.2.length d2,.slice none 0 0] 46):=Lh (by rw [hW]; exact ((HV7.out.setl _ _).setl _ _))
   have HP8:=Lh (HP7.out.same (w':=wg8) (by rw [hW]; exact (bsc (bsc (Below.refl (p+1) w7) (by omega)) (by omega))))
   have hse8:wg8.heap.size=w7.heap.size:=by rw [hW]; simp [World.setCell]
   have hsz8:w.heap.size<wg8.heap.size:=by omega
   replace HX:=Lh (SlS.kept InpC.stays HX.out (w':=wg8) (S':=fun b=>wb2.heap.size<=b/\b<wg8.heap.size) (fun b hb=>by rw [hW]; simp only [hpn (show b≠w1.heap.size by have:=hb.1; omega)]) (fun b hb=>⟨hb.1,by rw [hse8]; exact hb.2⟩))
   replace HREF:=Lh (RfC.kept HREF.out (w':=wg8) (S':=fun b=>w6.heap.size<=b/\b<wg8.heap.size) (fun b hb=>by rw [hW]; simp only [hpn (show b≠w1.heap.size by have:=hb.1; omega)]) (fun b hb=>⟨hb.1,by rw [hse8]; exact hb.2⟩))
   replace hlv2:w1.heap.size<wg8.heap.size:=by omega
   clear hW;have hlw9:w1.heap.size<wg8.heap.size:=hlv2;refine (zb8 p del HDEL.out HDLT.out _ _ _ HP8.out).mono ?_
   rintro e w9 (⟨dirs,ts9,v9,m9,hr,rfl,hx,hp,ht⟩ | ⟨x,hr,rfl,ht⟩);rotate_left
   ·exact ⟨rfl,.inr ⟨_,HD5.out.trans (za7 hr),rfl,HT8.out.step HT8.out.size ht⟩⟩
   have HD6:=Lh (HD5.out.trans (za3 hr));have HT9:=Lh (HT8.out.step HT8.out.size ht);have HR9:=Lh (HR8.out.far ht (by omega))
   have HV9:=Lh (HV8.out.far ht (by have:=hlv; omega))
   replace HX:=Lh (SlS.kept InpC.stays HX.out (w':=w9) (S':=fun b=>wb2.heap.size<=b/\b<w9.heap.size) (fun b hb=>ht.block b hb.2 (by have:=hb.1; omega)) (fun b hb=>⟨hb.1,Nat.lt_of_lt_of_le hb.2 ht.size⟩))
   replace HREF:=Lh (RfC.kept HREF.out (w':=w9) (S':=fun b=>w6.heap.size<=b/\b<w9.heap.size) (fun b hb=>ht.block b hb.2 (by have:=hb.1; omega)) (fun b hb=>⟨hb.1,Nat.lt_of_lt_of_le hb.2 ht.size⟩))
   have hsz9:w.heap.size<w9.heap.size:=Nat.lt_of_lt_of_le hsz8 ht.size;replace hlv2:=Nat.lt_of_lt_of_le hlv2 ht.size;have HP9:=Lh hp;have hlo9:wg8.heap.size<=w9.heap.size:=ht.size;obtain ⟨A9,d9,hv9,_,_⟩:=SlS.form hx;subst hv9;have HDI:=Lh hx;clear hr hp ht hx;obtain ⟨x0,x1,x2,x3,x4,fx⟩:=HV9.out.o5;obtain ⟨y0,y1,y2,y3,y4,fy⟩:=HR9.out.o5;have hne:w.heap.size≠w1.heap.size:=by omega
   have hne2:w1.heap.size≠w.heap.size:=by omega
   go_wp2_with fail
   clear x0 x1 x2 x3 x4 fx;clear y0 y1 y2 y3 y4 fy;obtain ⟨wg10,hW⟩ : ∃ x,x=(w9.setCell ⟨w1.heap.size,4,none⟩ (.slice A9 dirs.length d9)):=⟨_,rfl⟩;rw [<- hW];have HT10:Hid (Tw p w.heap.size w wg10):=Lh (by rw [hW]; exact (HT9.out.setNew (by omega) _ _))
   have HR10:Hid (Bk wg10 w.heap.size #[.string ⟨#[]⟩,.slice none 0 0,.string ⟨#[]⟩,.slice none 0 0,.slice none 0 0] 46):=Lh (by rw [hW]; exact (HR9.out.off (by omega) _ _))
   have HV10:Hid (Bk wg10 w1.heap.size #[.string nm,.slice A1 args.length d1,.string rf.1,.slice A2 rf.2.length d2,.slice A9 dirs.length d9] 46):=Lh (by rw [hW]; exact (HV9.out.setl _ _))
   have HP10:=Lh (HP9.out.same (w':=wg10) (by rw [hW]; exact (bsc (Below.refl (p+1) w9) (by omega))))
   have hse10:wg10.heap.size=w9.heap.size:=by rw [hW]; simp [World.setCell]
   have hsz10:w.heap.size<wg10.heap.size:=by omega
   replace HX:=Lh (SlS.kept InpC.stays HX.out (w':=wg10) (S':=fun b=>wb2.heap.size<=b/\b<wg10.heap.size) (fun b hb=>by rw [hW]; simp only [hpn (show b≠w1.heap.size by have:=hb.1; omega)]) (fun b hb=>⟨hb.1,by rw [hse10]; exact hb.2⟩))
   replace HREF:=Lh (RfC.kept HREF.out (w':=wg10) (S':=fun b=>w6.heap.size<=b/\b<wg10.heap.size) (fun b hb=>by rw [hW]; simp only [hpn (show b≠w1.heap.size by have:=hb.1; omega)]) (fun b hb=>⟨hb.1,by rw [hse10]; exact hb.2⟩))
   replace HDI:=Lh (SlS.kept DirC.stays HDI.out (w':=wg10) (S':=fun b=>wg8.heap.size<=b/\b<wg10.heap.size) (fun b hb=>by rw [hW]; simp only [hpn (show b≠w1.heap.size by have:=hb.1; omega)]) (fun b hb=>⟨hb.1,by rw [hse10]; exact hb.2⟩))
   replace hlv2:w1.heap.size<wg10.heap.size:=by omega
   clear hW;obtain ⟨wz,hW⟩ : ∃ x,x=(((((wg10.setCell ⟨w.heap.size,0,none⟩ (.string nm)).setCell ⟨w.heap.size,1,none⟩ (.slice A1 args.length d1)).setCell ⟨w.heap.size,2,none⟩ (.string rf.1)).setCell ⟨w.heap.size,3,none⟩ (.slice A2 rf.2.length d2)).setCell ⟨w.heap.size,4,none⟩ (.slice A9 dirs.length d9)):=⟨_,rfl⟩;rw [<- hW];have HZ:Hid (Bk wz w.heap.size #[.string nm,.slice A1 args.length d1,.string rf.1,.slice A2 rf.2.length d2,.slice A9 dirs.length d9] 46):=Lh (by rw [hW]; exact (((((HR10.out.setl _ _).setl _ _).setl _ _).setl _ _).setl _ _))
   have HTZ:Hid (Tw p w.heap.size w wz):=Lh (by rw [hW]; exact (((((HT10.out.setNew (Nat.le_refl _) _ _).setNew (Nat.le_refl _) _ _).setNew (Nat.le_refl _) _ _).setNew (Nat.le_refl _) _ _).setNew (Nat.le_refl _) _ _))
   have HPZ:=Lh (HP10.out.same (w':=wz) (by rw [hW]; exact (bsc (bsc (bsc (bsc (bsc (Below.refl (p+1) wg10) (by omega)) (by omega)) (by omega)) (by omega)) (by omega))))
   have hsez:wz.heap.size=wg10.heap.size:=by rw [hW]; simp [World.setCell]
   replace HX:=Lh (SlS.kept InpC.stays HX.out (w':=wz) (S':=fun b=>w.heap.size<=b/\b<wz.heap.size) (fun b hb=>by rw [hW]; simp only [hpn (show b≠w.heap.size by have:=hb.1; omega)]) (fun b hb=>⟨by have:=hb.1; omega,by rw [hsez]; exact hb.2⟩))
   replace HREF:=Lh (RfC.kept HREF.out (w':=wz) (S':=fun b=>w.heap.size<=b/\b<wz.heap.size) (fun b hb=>by rw [hW]; simp only [hpn (show b≠w.heap.size by have:=hb.1; omega)]) (fun b hb=>⟨by have:=hb.1; omega,by rw [hsez]; exact hb.2⟩))
   replace HDI:=Lh (SlS.kept DirC.stays HDI.out (w':=wz) (S':=fun b=>w.heap.size<=b/\b<wz.heap.size) (fun b hb=>by rw [hW]; simp only [hpn (show b≠w.heap.size by have:=hb.1; omega)]) (fun b hb=>⟨by have:=hb.1; omega,by rw [hsez]; exact hb.2⟩))
   obtain ⟨z0,z1,z2,z3,z4,_⟩:=HZ.out.o5;clear hW;exact bodyPost_ret (v:=.agg #[.string nm,.slice A1 args.length d1,.string rf.1,.slice A2 rf.2.length d2,.slice A9 dirs.length d9]) (by simp [results,Tryz.results116,go_sem,z0,z1,z2,z3,z4]) rfl (.inl ⟨⟨nm,args,rf.1,rf.2,dirs⟩,_,_,_,HD6.out,rfl,⟨_,_,_,_,_,rfl,⟨rfl,Nat.le_trans HN.out (by decide),HX.out,HREF.out,HDI.out⟩⟩,HPZ.out,HTZ.out⟩)
 | false =>
   have HD2:=Lh (HD1.out.trans (if_neg (by rw [hsg]; decide)))
   have hc:=zg0 HP2.out ⟨#[40]⟩;rw [show isSg (⟨#[40]⟩ : ByteArray).data.toList ts1=false from hsg] at hc;refine hc.mono ?_
   clear hc;rintro e wb2 ⟨rfl,hb⟩;have ht:Tw p _ _ wb2:=.of hb;have HT3:=Lh (HT2.out.step HT2.out.size ht);have HR3:=Lh (HR2.out.far ht (by omega))
   have HV3:=Lh (HV2.out.far ht (by have:=hlv; omega))
   have hsz3:w.heap.size<wb2.heap.size:=Nat.lt_of_lt_of_le hsz2 ht.size;replace hlv2:=Nat.lt_of_lt_of_le hlv2 ht.size;have HP3:=Lh (HP2.out.stay hb);clear hb ht hsg;obtain ⟨x0,x1,x2,x3,x4,fx⟩:=HV3.out.o5;go_wp2_with fail
   clear x0 x1 x2 x3 x4 fx;refine (zd9 HP3.out ⟨#[58]⟩).mono ?_
   rintro e w4 (⟨ts4,hr,rfl,hp,ht⟩ | ⟨x,hr,rfl,ht⟩);rotate_left
   ·exact ⟨rfl,.inr ⟨_,HD2.out.trans (za7 hr),rfl,HT3.out.step HT3.out.size ht⟩⟩
   have HD3:=Lh (HD2.out.trans (za3 hr));have HT4:=Lh (HT3.out.step HT3.out.size ht);have HR4:=Lh (HR3.out.far ht (by omega))
   have HV4:=Lh (HV3.out.far ht (by have:=hlv; omega))
   have hsz4:w.heap.size<w4.heap.size:=Nat.lt_of_lt_of_le hsz3 ht.size;replace hlv2:=Nat.lt_of_lt_of_le hlv2 ht.size;have HP4:=Lh hp;clear hr hp ht;go_wp2_with fail
   have hlw5:w1.heap.size<w4.heap.size:=hlv2;refine (HREL.out _ _ _ HP4.out).mono ?_
   rintro e w5 (⟨rf,ts5,v5,m5,hr,rfl,hx,hp,ht⟩ | ⟨x,hr,rfl,ht⟩);rotate_left
   ·exact ⟨rfl,.inr ⟨_,HD3.out.trans (za7 hr),rfl,HT4.out.step HT4.out.size ht⟩⟩
   have HD4:=Lh (HD3.out.trans (za3 hr));have HT5:=Lh (HT4.out.step HT4.out.size ht);have HR5:=Lh (HR4.out.far ht (by omega))
   have HV5:=Lh (HV4.out.far ht (by have:=hlv; omega))
   have hsz5:w.heap.size<w5.heap.size:=Nat.lt_of_lt_of_le hsz4 ht.size;replace hlv2:=Nat.lt_of_lt_of_le hlv2 ht.size;have HP5:=Lh hp;have hlo5:w4.heap.size<=w5.heap.size:=ht.size;obtain ⟨A2,d2,hv1,hxr⟩:=RefW.shape hx;clear hx;subst hv1;have hx:=hxr;clear hxr;have HREF:=Lh hx;clear hr hp ht hx;obtain ⟨x0,x1,x2,x3,x4,fx⟩:=HV5.out.o5;go_wp2_with fail
   clear x0 x1 x2 x3 x4 fx;obtain ⟨wg6,hW⟩ : ∃ x,x=((w5.setCell ⟨w1.heap.size,2,none⟩ (.string rf.1)).setCell ⟨w1.heap.size,3,none⟩ (.slice A2 rf.2.length d2)):=⟨_,rfl⟩;rw [<- hW];have HT6:Hid (Tw p w.heap.size w wg6):=Lh (by rw [hW]; exact ((HT5.out.setNew (by omega) _ _).setNew (by omega) _ _))
   have HR6:Hid (Bk wg6 w.heap.size #[.string ⟨#[]⟩,.slice none 0 0,.string ⟨#[]⟩,.slice none 0 0,.slice none 0 0] 46):=Lh (by rw [hW]; exact ((HR5.out.off (by omega) _ _).off (by omega) _ _))
   have HV6:Hid (Bk wg6 w1.heap.size #[.string nm,.slice none 0 0,.string rf.1,.slice A2 rf.2.length d2,.slice none 0 0] 46):=Lh (by rw [hW]; exact ((HV5.out.setl _ _).setl _ _))
   have HP6:=Lh (HP5.out.same (w':=wg6) (by rw [hW]; exact (bsc (bsc (Below.refl (p+1) w5) (by omega)) (by omega))))
   have hse6:wg6.heap.size=w5.heap.size:=by rw [hW]; simp [World.setCell]
   have hsz6:w.heap.size<wg6.heap.size:=by omega
   replace HREF:=Lh (RfC.kept HREF.out (w':=wg6) (S':=fun b=>w4.heap.size<=b/\b<wg6.heap.size) (fun b hb=>by rw [hW]; simp only [hpn (show b≠w1.heap.size by have:=hb.1; omega)]) (fun b hb=>⟨hb.1,by rw [hse6]; exact hb.2⟩))
   replace hlv2:w1.heap.size<wg6.heap.size:=by omega
   clear hW;have hlw7:w1.heap.size<wg6.heap.size:=hlv2;refine (zb8 p del HDEL.out HDLT.out _ _ _ HP6.out).mono ?_
   rintro e w7 (⟨dirs,ts7,v7,m7,hr,rfl,hx,hp,ht⟩ | ⟨x,hr,rfl,ht⟩);rotate_left
   ·exact ⟨rfl,.inr ⟨_,HD4.out.trans (za7 hr),rfl,HT6.out.step HT6.out.size ht⟩⟩
   have HD5:=Lh (HD4.out.trans (za3 hr));have HT7:=Lh (HT6.out.step HT6.out.size ht);have HR7:=Lh (HR6.out.far ht (by omega))
   have HV7:=Lh (HV6.out.far ht (by have:=hlv; omega))
   replace HREF:=Lh (RfC.kept HREF.out (w':=w7) (S':=fun b=>w4.heap.size<=b/\b<w7.heap.size) (fun b hb=>ht.block b hb.2 (by have:=hb.1; omega)) (fun b hb=>⟨hb.1,Nat.lt_of_lt_of_le hb.2 ht.size⟩))
   have hsz7:w.heap.size<w7.heap.size:=Nat.lt_of_lt_of_le hsz6 ht.size;replace hlv2:=Nat.lt_of_lt_of_le hlv2 ht.size;have HP7:=Lh hp;have hlo7:wg6.heap.size<=w7.heap.size:=ht.size;obtain ⟨A9,d9,hv9,_,_⟩:=SlS.form hx;subst hv9;have HDI:=Lh hx;clear hr hp ht hx;obtain ⟨x0,x1,x2,x3,x4,fx⟩:=HV7.out.o5;obtain ⟨y0,y1,y2,y3,y4,fy⟩:=HR7.out.o5;have hne:w.heap.size≠w1.heap.size:=by omega
   have hne2:w1.heap.size≠w.heap.size:=by omega
   go_wp2_with fail
   clear x0 x1 x2 x3 x4 fx;clear y0 y1 y2 y3 y4 fy;obtain ⟨wg8,hW⟩ : ∃ x,x=(w7.setCell ⟨w1.heap.size,4,none⟩ (.slice A9 dirs.length d9)):=⟨_,rfl⟩;rw [<- hW];have HT8:Hid (Tw p w.heap.size w wg8):=Lh (by rw [hW]; exact (HT7.out.setNew (by omega) _ _))
   have HR8:Hid (Bk wg8 w.heap.size #[.string ⟨#[]⟩,.slice none 0 0,.string ⟨#[]⟩,.slice none 0 0,.slice none 0 0] 46):=Lh (by rw [hW]; exact (HR7.out.off (by omega) _ _))
   have HV8:Hid (Bk wg8 w1.heap.size #[.string nm,.slice none 0 0,.string rf.1,.slice A2 rf.2.length d2,.slice A9 dirs.length d9] 46):=Lh (by rw [hW]; exact (HV7.out.setl _ _))
   have HP8:=Lh (HP7.out.same (w':=wg8) (by rw [hW]; exact (bsc (Below.refl (p+1) w7) (by omega))))
   have hse8:wg8.heap.size=w7.heap.size:=by rw [hW]; simp [World.setCell]
   have hsz8:w.heap.size<wg8.heap.size:=by omega
   replace HREF:=Lh (RfC.kept HREF.out (w':=wg8) (S':=fun b=>w4.heap.size<=b/\b<wg8.heap.size) (fun b hb=>by rw [hW]; simp only [hpn (show b≠w1.heap.size by have:=hb.1; omega)]) (fun b hb=>⟨hb.1,by rw [hse8]; exact hb.2⟩))
   replace HDI:=Lh (SlS.kept DirC.stays HDI.out (w':=wg8) (S':=fun b=>wg6.heap.size<=b/\b<wg8.heap.size) (fun b hb=>by rw [hW]; simp only [hpn (show b≠w1.heap.size by have:=hb.1; omega)]) (fun b hb=>⟨hb.1,by rw [hse8]; exact hb.2⟩))
   replace hlv2:w1.heap.size<wg8.heap.size:=by omega
   clear hW;obtain ⟨wz,hW⟩ : ∃ x,x=(((((wg8.setCell ⟨w.heap.size,0,none⟩ (.string nm)).setCell ⟨w.heap.size,1,none⟩ (.slice none 0 0)).setCell ⟨w.heap.size,2,none⟩ (.string rf.1)).setCell ⟨w.heap.size,3,none⟩ (.slice A2 rf.2.length d2)).setCell ⟨w.heap.size,4,none⟩ (.slice A9 dirs.length d9)):=⟨_,rfl⟩;rw [<- hW];have HZ:Hid (Bk wz w.heap.size #[.string nm,.slice none 0 0,.string rf.1,.slice A2 rf.2.length d2,.slice A9 dirs.length d9] 46):=Lh (by rw [hW]; exact (((((HR8.out.setl _ _).setl _ _).setl _ _).setl _ _).setl _ _))
   have HTZ:Hid (Tw p w.heap.size w wz):=Lh (by rw [hW]; exact (((((HT8.out.setNew (Nat.le_refl _) _ _).setNew (Nat.le_refl _) _ _).setNew (Nat.le_refl _) _ _).setNew (Nat.le_refl _) _ _).setNew (Nat.le_refl _) _ _))
   have HPZ:=Lh (HP8.out.same (w':=wz) (by rw [hW]; exact (bsc (bsc (bsc (bsc (bsc (Below.refl (p+1) wg8) (by omega)) (by omega)) (by omega)) (by omega)) (by omega))))
   have hsez:wz.heap.size=wg8.heap.size:=by rw [hW]; simp [World.setCell]
   replace HREF:=Lh (RfC.kept HREF.out (w':=wz) (S':=fun b=>w.heap.size<=b/\b<wz.heap.size) (fun b hb=>by rw [hW]; simp only [hpn (show b≠w.heap.size by have:=hb.1; omega)]) (fun b hb=>⟨by have:=hb.1; omega,by rw [hsez]; exact hb.2⟩))
   replace HDI:=Lh (SlS.kept DirC.stays HDI.out (w':=wz) (S':=fun b=>w.heap.size<=b/\b<wz.heap.size) (fun b hb=>by rw [hW]; simp only [hpn (show b≠w.heap.size by have:=hb.1; omega)]) (fun b hb=>⟨by have:=hb.1; omega,by rw [hsez]; exact hb.2⟩))
   obtain ⟨z0,z1,z2,z3,z4,_⟩:=HZ.out.o5;clear hW;exact bodyPost_ret (v:=.agg #[.string nm,.slice none 0 0,.string rf.1,.slice A2 rf.2.length d2,.slice A9 dirs.length d9]) (by simp [results,Tryz.results116,go_sem,z0,z1,z2,z3,z4]) rfl (.inl ⟨⟨nm,[],rf.1,rf.2,dirs⟩,_,_,_,HD5.out,rfl,⟨_,_,_,_,_,rfl,⟨rfl,Nat.le_trans HN.out (by decide),SlS.nil _ _,HREF.out,HDI.out⟩⟩,HPZ.out,HTZ.out⟩)
end Go.Proofs.YtfgelheiknmjgaaGreatDoor
