
/-
 Texts joined: H4 H5 E6Nms F4.
-/
import Derived.Test.YtfgelheiknmjgaaGreatDoorZr15
import Derived.Test.YtfgelheiknmjgaaGreatDoorZr11
import Derived.Test.YtfgelheiknmjgaaGreatDoorZr13
import Derived.Test.YtfgelheiknmjgaaGreatDoorZr5
set_option maxRecDepth 1000000
set_option maxHeartbeats 8000000
namespace Go.Proofs.YtfgelheiknmjgaaGreatDoor
open Go.RowKit
def nuV (x:ByteArray):VT:=.mk 2 (T1.numL x.data.toList).1 ⟨#[]⟩ [] []
def zm0 (w:World) (p:Nat) (n len:Nat) (r:Except Er (VT × List Tk × Nat)) (e:Ending) (w':World):Prop :=
 (∃ t ts m v,r=.ok (t,ts,m)/\e=.returned v/\RdS w' (fun b=>w.heap.size<=b/\b<w'.heap.size) v t/\PSt w' p ts m/\Tw p w.heap.size w w'/\n<=m/\m<=4096/\ts.length<len)∨(∃ x,r=.error x/\e=badV x/\Tw p w.heap.size w w')
theorem bv_ok {lv:Nat} {ts:List Tk} {n:Nat} (h:bvR lv ts n=.ok ()):isVal ts=true/\lv<=24/\n+1<=4096:=by
 unfold bvR at h
 cases hv:isVal ts with
 | false=>rw [hv,if_pos rfl] at h; cases h
 | true =>
   rw [hv,if_neg (by decide)] at h
   by_cases h1:24<lv
   ·rw [if_pos h1] at h; cases h
   rw [if_neg h1] at h;by_cases h2:4096<n+1
   ·rw [if_pos h2] at h; cases h
   exact ⟨rfl,by omega,by omega⟩
theorem zO1 {k:Int} {tx:List UInt8} {i:Nat} {r:List Tk} (h:isVal ((k,tx,i)::r)=true):k=2∨k=3∨k=4∨(k=1/\tx=[91])∨(k=1/\tx=[123]):=by
 simp [isVal,hd,isSg] at h
 rcases h with h | h | h | h | h
 ·exact .inl h
 ·exact .inr (.inl h)
 ·exact .inr (.inr (.inl h))
 ·exact .inr (.inr (.inr (.inl h)))
 ·exact .inr (.inr (.inr (.inr h)))
theorem yc8 (p lv:Nat) (w:World) (tx:List UInt8) (i:Nat) (r:List Tk) (n:Nat) (h:PSt w p ((2,tx,i)::r) n) (hn:n<=4096) (hbv:bvR lv ((2,tx,i)::r) n=.ok ()):Calls Tryz.prog 235 #[pP p,.int .i64 lv] w (zg3 w p n (r.length+1) (.ok (nmV ⟨tx.toArray⟩,r,n+1))):=by
 have hpw:=h.lt;have hlen:=(h.good.ok _ (List.mem_cons_self ..)).len;obtain ⟨_,hl24,hn1⟩:=bv_ok hbv;have hlvb:(lv:Int)<=24:=by omega
 have HBE:Hid (∀ W,PSt W p ((2,tx,i)::r) n->Calls Tryz.prog 256 #[pP p,.int .i64 lv] W (fun e w'=>e=.returned (.tuple #[])/\PSt w' p ((2,tx,i)::r) (n+1)/\Tw p W.heap.size W w')):=Lh (fun W hW=>(zd4 hW hn lv _ rfl).mono (by
  rintro e w' (⟨_,he,h1,h2⟩ | ⟨z,hz,_⟩)
  ·exact ⟨he,h1,h2⟩
  ·rw [hbv] at hz; cases hz))
 have HTK:Hid (∀ W,PSt W p ((2,tx,i)::r) (n+1)->Calls Tryz.prog 111 #[pP p] W (fun e w'=>e=.returned (.agg #[.int .i64 (2),.string ⟨tx.toArray⟩,.int .i64 i])/\PSt w' p r (n+1)/\Tw p W.heap.size W w')):=Lh (fun W hW=>zd3 hW (by show (2:Int)≠5; decide))
 have HP0:Hid (PSt (w.alloc (.cells #[.int .i64 0,.int .i64 0,.string ⟨#[]⟩,.slice none 0 0,.slice none 0 0] 53 (0,0))) p ((2,tx,i)::r) n):=Lh (h.stay (za1 _ _));have HR0:Hid (Bk (w.alloc (.cells #[.int .i64 0,.int .i64 0,.string ⟨#[]⟩,.slice none 0 0,.slice none 0 0] 53 (0,0))) w.heap.size #[.int .i64 0,.int .i64 0,.string ⟨#[]⟩,.slice none 0 0,.slice none 0 0] 53):=Lh (Bk.new _ _ _);have HT0:Hid (Tw p w.heap.size w (w.alloc (.cells #[.int .i64 0,.int .i64 0,.string ⟨#[]⟩,.slice none 0 0,.slice none 0 0] 53 (0,0)))):=Lh (.of (za1 _ _));have hsz:w.heap.size<(w.alloc (.cells #[.int .i64 0,.int .i64 0,.string ⟨#[]⟩,.slice none 0 0,.slice none 0 0] 53 (0,0))).heap.size:=by simp
 have hxl:(⟨tx.toArray⟩ : ByteArray).size<=1000000:=hlen;clear h hbv hlen;generalize (⟨tx.toArray⟩ : ByteArray)=tb at *;have HXL:=Lh hxl;clear hxl
 go_enter Tryz.func235, Tryz.ntmps235
 go_wp2_with fail
 refine (HBE.out _ HP0.out).mono ?_
 rintro e w1 ⟨rfl,hp,ht⟩;have HP1:=Lh hp;have hR1:=HR0.out.far ht (by omega)
 have HR1:=Lh hR1;have HT1:=Lh (HT0.out.step HT0.out.size ht);have hs1:=ht.size;clear hp ht hR1;go_wp2_with fail
 refine (HTK.out _ HP1.out).mono ?_
 rintro e w2 ⟨rfl,hp,ht⟩;have HP2:Hid (PSt (w2.alloc (.cells #[.int .i64 (2),.string tb,.int .i64 i] 99 (0,0))) p r (n+1)):=Lh (hp.stay (za1 _ _));have hR2:=(HR1.out.far ht (by omega)).stay (za1 w2 (.cells #[.int .i64 (2),.string tb,.int .i64 i] 99 (0,0)))
 have HR2:=Lh hR2;have HT2:Hid (Tw p w.heap.size w (w2.alloc (.cells #[.int .i64 (2),.string tb,.int .i64 i] 99 (0,0)))):=Lh ((HT1.out.step (Nat.le_trans HT0.out.size hs1) ht).alloc (by have:=ht.size; omega) _)
 have hs2:=ht.size;clear hp ht hR2;go_wp2_with fail
 refine (zW1 tb HXL.out _).mono ?_
 rintro e w3 ⟨⟨k1,n1,s1,rfl,hnm,hk1,hn1',hs1'⟩,hb⟩;have HNM:=Lh hnm;have HK1:=Lh hk1;have HN1:=Lh hn1';have HS1:=Lh hs1';clear hnm hk1 hn1' hs1';have HP3:=Lh (HP2.out.stay hb);have hR3:=HR2.out.stay hb;have HT3:=Lh (HT2.out.step HT2.out.size (.of hb));have hs3:=hb.size;clear hb;have z0:=hR3.cell 0 _ rfl;have z1:=hR3.cell 1 _ rfl;have z2:=hR3.cell 2 _ rfl;have z3:=hR3.cell 3 _ rfl;have z4:=hR3.cell 4 _ rfl;have g0:=hR3.frz 0;have g1:=hR3.frz 1;have g2:=hR3.frz 2;have g3:=hR3.frz 3;have g4:=hR3.frz 4;have HR3:=Lh hR3;clear hR3;go_wp2_with fail
 have HZ:=Lh (((((HR3.out.setl (l:=[_,_,_,_,_]) 0 (.int .i64 k1)).setl 1 (.int .i64 n1)).setl 2 (.string s1)).setl 3 (.slice none 0 0)).setl 4 (.slice none 0 0));have y0:=HZ.out.cell 0 _ rfl;have y1:=HZ.out.cell 1 _ rfl;have y2:=HZ.out.cell 2 _ rfl;have y3:=HZ.out.cell 3 _ rfl;have y4:=HZ.out.cell 4 _ rfl;refine bodyPost_ret (v:=.agg #[.int .i64 k1,.int .i64 n1,.string s1,.slice none 0 0,.slice none 0 0]) (by simp [results,Tryz.results235,go_sem,y0,y1,y2,y3,y4]) rfl (.inl ⟨.mk k1 n1 s1 [] [],_,_,_,by rw [HNM.out],rfl, ?_, ?_, ?_,Nat.lt_succ_self _,hn1,Nat.lt_succ_self _⟩)
 ·exact zq7 _ _ _ _ _ HK1.out HN1.out (by have:=HS1.out; omega)
 ·exact HP3.out.same ((((((Below.refl (p+1) w3).setCell (p:=⟨w.heap.size,0,none⟩) (by show p+1<=w.heap.size; omega) _).setCell (p:=⟨w.heap.size,1,none⟩) (by show p+1<=w.heap.size; omega) _).setCell (p:=⟨w.heap.size,2,none⟩) (by show p+1<=w.heap.size; omega) _).setCell (p:=⟨w.heap.size,3,none⟩) (by show p+1<=w.heap.size; omega) _).setCell (p:=⟨w.heap.size,4,none⟩) (by show p+1<=w.heap.size; omega) _)
 ·exact ((((HT3.out.setNew (Nat.le_refl _) 0 _).setNew (Nat.le_refl _) 1 _).setNew (Nat.le_refl _) 2 _).setNew (Nat.le_refl _) 3 _).setNew (Nat.le_refl _) 4 _
theorem pval_int (p lv:Nat) (w:World) (tx:List UInt8) (i:Nat) (r:List Tk) (n:Nat) (h:PSt w p ((3,tx,i)::r) n) (hn:n<=4096) (hbv:bvR lv ((3,tx,i)::r) n=.ok ()):Calls Tryz.prog 235 #[pP p,.int .i64 lv] w (zg3 w p n (r.length+1) (.ok (nuV ⟨tx.toArray⟩,r,n+1))):=by
 have hpw:=h.lt;have hlen:=(h.good.ok _ (List.mem_cons_self ..)).len;obtain ⟨_,hl24,hn1⟩:=bv_ok hbv;have hlvb:(lv:Int)<=24:=by omega
 have HBE:Hid (∀ W,PSt W p ((3,tx,i)::r) n->Calls Tryz.prog 256 #[pP p,.int .i64 lv] W (fun e w'=>e=.returned (.tuple #[])/\PSt w' p ((3,tx,i)::r) (n+1)/\Tw p W.heap.size W w')):=Lh (fun W hW=>(zd4 hW hn lv _ rfl).mono (by
  rintro e w' (⟨_,he,h1,h2⟩ | ⟨z,hz,_⟩)
  ·exact ⟨he,h1,h2⟩
  ·rw [hbv] at hz; cases hz))
 have HTK:Hid (∀ W,PSt W p ((3,tx,i)::r) (n+1)->Calls Tryz.prog 111 #[pP p] W (fun e w'=>e=.returned (.agg #[.int .i64 (3),.string ⟨tx.toArray⟩,.int .i64 i])/\PSt w' p r (n+1)/\Tw p W.heap.size W w')):=Lh (fun W hW=>zd3 hW (by show (3:Int)≠5; decide))
 have HP0:Hid (PSt (w.alloc (.cells #[.int .i64 0,.int .i64 0,.string ⟨#[]⟩,.slice none 0 0,.slice none 0 0] 53 (0,0))) p ((3,tx,i)::r) n):=Lh (h.stay (za1 _ _));have HR0:Hid (Bk (w.alloc (.cells #[.int .i64 0,.int .i64 0,.string ⟨#[]⟩,.slice none 0 0,.slice none 0 0] 53 (0,0))) w.heap.size #[.int .i64 0,.int .i64 0,.string ⟨#[]⟩,.slice none 0 0,.slice none 0 0] 53):=Lh (Bk.new _ _ _);have HT0:Hid (Tw p w.heap.size w (w.alloc (.cells #[.int .i64 0,.int .i64 0,.string ⟨#[]⟩,.slice none 0 0,.slice none 0 0] 53 (0,0)))):=Lh (.of (za1 _ _));have hsz:w.heap.size<(w.alloc (.cells #[.int .i64 0,.int .i64 0,.string ⟨#[]⟩,.slice none 0 0,.slice none 0 0] 53 (0,0))).heap.size:=by simp
 have hxl:(⟨tx.toArray⟩ : ByteArray).size<=1000000:=hlen;clear h hbv hlen;generalize (⟨tx.toArray⟩ : ByteArray)=tb at *;have HXL:=Lh hxl;clear hxl;obtain ⟨qa,qb,hq⟩ : ∃ a b,T1.numL tb.data.toList=(a,b):=⟨_,_,rfl⟩;have HQ:Hid (nuV tb=.mk 2 qa ⟨#[]⟩ [] []):=Lh (by unfold nuV; rw [hq])
 have HQB:Hid (small qa):=Lh (by have hh:=T1.zW6 tb.data.toList; rw [hq] at hh; exact hh)
 have HNUM:Hid (∀ W,T1.Laid W->Calls Tryz.prog 157 #[.string tb] W (fun e w'=>e=.returned (.tuple #[.int .i64 qa,.int .i64 qb])/\Below W.heap.size W w')):=Lh (fun W hW=>by have hh:=T1.zB4 tb W hW (by have:=HXL.out; omega); rw [hq] at hh; exact hh)
 clear hq
 go_enter Tryz.func235, Tryz.ntmps235
 go_wp2_with fail
 refine (HBE.out _ HP0.out).mono ?_
 rintro e w1 ⟨rfl,hp,ht⟩;have HP1:=Lh hp;have hR1:=HR0.out.far ht (by omega)
 have HR1:=Lh hR1;have HT1:=Lh (HT0.out.step HT0.out.size ht);have hs1:=ht.size;clear hp ht hR1;go_wp2_with fail
 refine (HTK.out _ HP1.out).mono ?_
 rintro e w2 ⟨rfl,hp,ht⟩;have HP2:Hid (PSt (w2.alloc (.cells #[.int .i64 (3),.string tb,.int .i64 i] 99 (0,0))) p r (n+1)):=Lh (hp.stay (za1 _ _));have hR2:=(HR1.out.far ht (by omega)).stay (za1 w2 (.cells #[.int .i64 (3),.string tb,.int .i64 i] 99 (0,0)))
 have HR2:=Lh hR2;have HT2:Hid (Tw p w.heap.size w (w2.alloc (.cells #[.int .i64 (3),.string tb,.int .i64 i] 99 (0,0)))):=Lh ((HT1.out.step (Nat.le_trans HT0.out.size hs1) ht).alloc (by have:=ht.size; omega) _)
 have hs2:=ht.size;clear hp ht hR2;go_wp2_with fail
 refine (HNUM.out _ (HP2.out.laid _ (Below.refl _ _))).mono ?_
 rintro e w2b ⟨rfl,hb⟩;have HP2b:=Lh (HP2.out.stay hb);have HR2b:=Lh (HR2.out.stay hb);have HT2b:=Lh (HT2.out.step HT2.out.size (.of hb));clear hb;go_wp2_with fail
 refine (int_any qa _).mono ?_
 rintro e w3 ⟨rfl,hb⟩;have HP3:=Lh (HP2b.out.stay hb);have hR3:=HR2b.out.stay hb;have HT3:=Lh (HT2b.out.step HT2b.out.size (.of hb));have hs3:=hb.size;clear hb;have z0:=hR3.cell 0 _ rfl;have z1:=hR3.cell 1 _ rfl;have z2:=hR3.cell 2 _ rfl;have z3:=hR3.cell 3 _ rfl;have z4:=hR3.cell 4 _ rfl;have g0:=hR3.frz 0;have g1:=hR3.frz 1;have g2:=hR3.frz 2;have g3:=hR3.frz 3;have g4:=hR3.frz 4;have HR3:=Lh hR3;clear hR3;go_wp2_with fail
 have HZ:=Lh (((((HR3.out.setl (l:=[_,_,_,_,_]) 0 (.int .i64 2)).setl 1 (.int .i64 qa)).setl 2 (.string ⟨#[]⟩)).setl 3 (.slice none 0 0)).setl 4 (.slice none 0 0));have y0:=HZ.out.cell 0 _ rfl;have y1:=HZ.out.cell 1 _ rfl;have y2:=HZ.out.cell 2 _ rfl;have y3:=HZ.out.cell 3 _ rfl;have y4:=HZ.out.cell 4 _ rfl;refine bodyPost_ret (v:=.agg #[.int .i64 2,.int .i64 qa,.string ⟨#[]⟩,.slice none 0 0,.slice none 0 0]) (by simp [results,Tryz.results235,go_sem,y0,y1,y2,y3,y4]) rfl (.inl ⟨.mk 2 qa ⟨#[]⟩ [] [],_,_,_,by rw [HQ.out],rfl, ?_, ?_, ?_,Nat.lt_succ_self _,hn1,Nat.lt_succ_self _⟩)
 ·exact zq7 _ _ _ _ _ (by unfold small; omega) HQB.out (by decide)
 ·exact HP3.out.same ((((((Below.refl (p+1) w3).setCell (p:=⟨w.heap.size,0,none⟩) (by show p+1<=w.heap.size; omega) _).setCell (p:=⟨w.heap.size,1,none⟩) (by show p+1<=w.heap.size; omega) _).setCell (p:=⟨w.heap.size,2,none⟩) (by show p+1<=w.heap.size; omega) _).setCell (p:=⟨w.heap.size,3,none⟩) (by show p+1<=w.heap.size; omega) _).setCell (p:=⟨w.heap.size,4,none⟩) (by show p+1<=w.heap.size; omega) _)
 ·exact ((((HT3.out.setNew (Nat.le_refl _) 0 _).setNew (Nat.le_refl _) 1 _).setNew (Nat.le_refl _) 2 _).setNew (Nat.le_refl _) 3 _).setNew (Nat.le_refl _) 4 _
theorem yc7 (p lv:Nat) (w:World) (tx:List UInt8) (i:Nat) (r:List Tk) (n:Nat) (h:PSt w p ((4,tx,i)::r) n) (hn:n<=4096) (hbv:bvR lv ((4,tx,i)::r) n=.ok ()):Calls Tryz.prog 235 #[pP p,.int .i64 lv] w (zg3 w p n (r.length+1) (.ok (.mk 3 0 ⟨tx.toArray⟩ [] [],r,n+1))):=by
 have hpw:=h.lt;have hlen:=(h.good.ok _ (List.mem_cons_self ..)).len;obtain ⟨_,hl24,hn1⟩:=bv_ok hbv;have hlvb:(lv:Int)<=24:=by omega
 have HBE:Hid (∀ W,PSt W p ((4,tx,i)::r) n->Calls Tryz.prog 256 #[pP p,.int .i64 lv] W (fun e w'=>e=.returned (.tuple #[])/\PSt w' p ((4,tx,i)::r) (n+1)/\Tw p W.heap.size W w')):=Lh (fun W hW=>(zd4 hW hn lv _ rfl).mono (by
  rintro e w' (⟨_,he,h1,h2⟩ | ⟨z,hz,_⟩)
  ·exact ⟨he,h1,h2⟩
  ·rw [hbv] at hz; cases hz))
 have HTK:Hid (∀ W,PSt W p ((4,tx,i)::r) (n+1)->Calls Tryz.prog 111 #[pP p] W (fun e w'=>e=.returned (.agg #[.int .i64 (4),.string ⟨tx.toArray⟩,.int .i64 i])/\PSt w' p r (n+1)/\Tw p W.heap.size W w')):=Lh (fun W hW=>zd3 hW (by show (4:Int)≠5; decide))
 have HP0:Hid (PSt (w.alloc (.cells #[.int .i64 0,.int .i64 0,.string ⟨#[]⟩,.slice none 0 0,.slice none 0 0] 53 (0,0))) p ((4,tx,i)::r) n):=Lh (h.stay (za1 _ _));have HR0:Hid (Bk (w.alloc (.cells #[.int .i64 0,.int .i64 0,.string ⟨#[]⟩,.slice none 0 0,.slice none 0 0] 53 (0,0))) w.heap.size #[.int .i64 0,.int .i64 0,.string ⟨#[]⟩,.slice none 0 0,.slice none 0 0] 53):=Lh (Bk.new _ _ _);have HT0:Hid (Tw p w.heap.size w (w.alloc (.cells #[.int .i64 0,.int .i64 0,.string ⟨#[]⟩,.slice none 0 0,.slice none 0 0] 53 (0,0)))):=Lh (.of (za1 _ _));have hsz:w.heap.size<(w.alloc (.cells #[.int .i64 0,.int .i64 0,.string ⟨#[]⟩,.slice none 0 0,.slice none 0 0] 53 (0,0))).heap.size:=by simp
 have hxl:(⟨tx.toArray⟩ : ByteArray).size<=1000000:=hlen;clear h hbv hlen;generalize (⟨tx.toArray⟩ : ByteArray)=tb at *;have HXL:=Lh hxl;clear hxl
 go_enter Tryz.func235, Tryz.ntmps235
 go_wp2_with fail
 refine (HBE.out _ HP0.out).mono ?_
 rintro e w1 ⟨rfl,hp,ht⟩;have HP1:=Lh hp;have hR1:=HR0.out.far ht (by omega)
 have HR1:=Lh hR1;have HT1:=Lh (HT0.out.step HT0.out.size ht);have hs1:=ht.size;clear hp ht hR1;go_wp2_with fail
 refine (HTK.out _ HP1.out).mono ?_
 rintro e w2 ⟨rfl,hp,ht⟩;have HP2:Hid (PSt (w2.alloc (.cells #[.int .i64 (4),.string tb,.int .i64 i] 99 (0,0))) p r (n+1)):=Lh (hp.stay (za1 _ _));have hR2:=(HR1.out.far ht (by omega)).stay (za1 w2 (.cells #[.int .i64 (4),.string tb,.int .i64 i] 99 (0,0)))
 have HR2:=Lh hR2;have HT2:Hid (Tw p w.heap.size w (w2.alloc (.cells #[.int .i64 (4),.string tb,.int .i64 i] 99 (0,0)))):=Lh ((HT1.out.step (Nat.le_trans HT0.out.size hs1) ht).alloc (by have:=ht.size; omega) _)
 have hs2:=ht.size;clear hp ht hR2;go_wp2_with fail
 refine (text_any tb _).mono ?_
 rintro e w3 ⟨rfl,hb⟩;have HP3:=Lh (HP2.out.stay hb);have hR3:=HR2.out.stay hb;have HT3:=Lh (HT2.out.step HT2.out.size (.of hb));have hs3:=hb.size;clear hb;have z0:=hR3.cell 0 _ rfl;have z1:=hR3.cell 1 _ rfl;have z2:=hR3.cell 2 _ rfl;have z3:=hR3.cell 3 _ rfl;have z4:=hR3.cell 4 _ rfl;have g0:=hR3.frz 0;have g1:=hR3.frz 1;have g2:=hR3.frz 2;have g3:=hR3.frz 3;have g4:=hR3.frz 4;have HR3:=Lh hR3;clear hR3;go_wp2_with fail
 have HZ:=Lh (((((HR3.out.setl (l:=[_,_,_,_,_]) 0 (.int .i64 3)).setl 1 (.int .i64 0)).setl 2 (.string tb)).setl 3 (.slice none 0 0)).setl 4 (.slice none 0 0));have y0:=HZ.out.cell 0 _ rfl;have y1:=HZ.out.cell 1 _ rfl;have y2:=HZ.out.cell 2 _ rfl;have y3:=HZ.out.cell 3 _ rfl;have y4:=HZ.out.cell 4 _ rfl;refine bodyPost_ret (v:=.agg #[.int .i64 3,.int .i64 0,.string tb,.slice none 0 0,.slice none 0 0]) (by simp [results,Tryz.results235,go_sem,y0,y1,y2,y3,y4]) rfl (.inl ⟨_,_,_,_,rfl,rfl, ?_, ?_, ?_,Nat.lt_succ_self _,hn1,Nat.lt_succ_self _⟩)
 ·exact zq7 _ _ _ _ _ (by unfold small; omega) (by unfold small; omega) (by have:=HXL.out; omega)
 ·exact HP3.out.same ((((((Below.refl (p+1) w3).setCell (p:=⟨w.heap.size,0,none⟩) (by show p+1<=w.heap.size; omega) _).setCell (p:=⟨w.heap.size,1,none⟩) (by show p+1<=w.heap.size; omega) _).setCell (p:=⟨w.heap.size,2,none⟩) (by show p+1<=w.heap.size; omega) _).setCell (p:=⟨w.heap.size,3,none⟩) (by show p+1<=w.heap.size; omega) _).setCell (p:=⟨w.heap.size,4,none⟩) (by show p+1<=w.heap.size; omega) _)
 ·exact ((((HT3.out.setNew (Nat.le_refl _) 0 _).setNew (Nat.le_refl _) 1 _).setNew (Nat.le_refl _) 2 _).setNew (Nat.le_refl _) 3 _).setNew (Nat.le_refl _) 4 _
theorem yc9 (p lv:Nat) (L:List Tk->Nat->Except Er (VT × List Tk × Nat)) (hL:∀ (W:World) (ts:List Tk) (m:Nat),PSt W p ts m->m<=4096->Calls Tryz.prog 260 #[pP p,.int .i64 lv] W (zm0 W p m ts.length (L ts m))) (w:World) (i:Nat) (r:List Tk) (n:Nat) (h:PSt w p ((1,[91],i)::r) n) (hn:n<=4096) (hbv:bvR lv ((1,[91],i)::r) n=.ok ()):Calls Tryz.prog 235 #[pP p,.int .i64 lv] w (zg3 w p n (r.length+1) (L r (n+1))):=by
 have hpw:=h.lt;have hlen:=(h.good.ok _ (List.mem_cons_self ..)).len;obtain ⟨_,hl24,hn1⟩:=bv_ok hbv;have hlvb:(lv:Int)<=24:=by omega
 have HBE:Hid (∀ W,PSt W p ((1,[91],i)::r) n->Calls Tryz.prog 256 #[pP p,.int .i64 lv] W (fun e w'=>e=.returned (.tuple #[])/\PSt w' p ((1,[91],i)::r) (n+1)/\Tw p W.heap.size W w')):=Lh (fun W hW=>(zd4 hW hn lv _ rfl).mono (by
  rintro e w' (⟨_,he,h1,h2⟩ | ⟨z,hz,_⟩)
  ·exact ⟨he,h1,h2⟩
  ·rw [hbv] at hz; cases hz))
 have HTK:Hid (∀ W,PSt W p ((1,[91],i)::r) (n+1)->Calls Tryz.prog 111 #[pP p] W (fun e w'=>e=.returned (.agg #[.int .i64 (1),.string ⟨#[91]⟩,.int .i64 i])/\PSt w' p r (n+1)/\Tw p W.heap.size W w')):=Lh (fun W hW=>zd3 hW (by show (1:Int)≠5; decide))
 have HL:=Lh hL;have HN1:=Lh hn1;clear hL;have HP0:Hid (PSt (w.alloc (.cells #[.int .i64 0,.int .i64 0,.string ⟨#[]⟩,.slice none 0 0,.slice none 0 0] 53 (0,0))) p ((1,[91],i)::r) n):=Lh (h.stay (za1 _ _));have HR0:Hid (Bk (w.alloc (.cells #[.int .i64 0,.int .i64 0,.string ⟨#[]⟩,.slice none 0 0,.slice none 0 0] 53 (0,0))) w.heap.size #[.int .i64 0,.int .i64 0,.string ⟨#[]⟩,.slice none 0 0,.slice none 0 0] 53):=Lh (Bk.new _ _ _);have HT0:Hid (Tw p w.heap.size w (w.alloc (.cells #[.int .i64 0,.int .i64 0,.string ⟨#[]⟩,.slice none 0 0,.slice none 0 0] 53 (0,0)))):=Lh (.of (za1 _ _));have hsz:w.heap.size<(w.alloc (.cells #[.int .i64 0,.int .i64 0,.string ⟨#[]⟩,.slice none 0 0,.slice none 0 0] 53 (0,0))).heap.size:=by simp
 clear h hbv hlen
 go_enter Tryz.func235, Tryz.ntmps235
 go_wp2_with fail
 refine (HBE.out _ HP0.out).mono ?_
 rintro e w1 ⟨rfl,hp,ht⟩;have HP1:=Lh hp;have hR1:=HR0.out.far ht (by omega)
 have HR1:=Lh hR1;have HT1:=Lh (HT0.out.step HT0.out.size ht);have hs1:=ht.size;clear hp ht hR1;go_wp2_with fail
 refine (HTK.out _ HP1.out).mono ?_
 rintro e w2 ⟨rfl,hp,ht⟩;have HP2:Hid (PSt (w2.alloc (.cells #[.int .i64 (1),.string ⟨#[91]⟩,.int .i64 i] 99 (0,0))) p r (n+1)):=Lh (hp.stay (za1 _ _));have hR2:=(HR1.out.far ht (by omega)).stay (za1 w2 (.cells #[.int .i64 (1),.string ⟨#[91]⟩,.int .i64 i] 99 (0,0)))
 have HR2:=Lh hR2;have HT2:Hid (Tw p w.heap.size w (w2.alloc (.cells #[.int .i64 (1),.string ⟨#[91]⟩,.int .i64 i] 99 (0,0)))):=Lh ((HT1.out.step (Nat.le_trans HT0.out.size hs1) ht).alloc (by have:=ht.size; omega) _)
 have hs2:=ht.size;clear hp ht hR2;go_wp2_with fail
 refine (HL.out _ r (n+1) HP2.out HN1.out).mono ?_
 rintro e w3 (⟨t,ts',m,v,hr,rfl,hx,hp,ht,hmm,hm4,hlt⟩ | ⟨x,hr,rfl,ht⟩);rotate_left
 ·have HT3:=Lh (HT2.out.step HT2.out.size ht)
  exact ⟨rfl,.inr ⟨_,hr,rfl,HT3.out⟩⟩
 obtain ⟨k1,n1,s1,A,li,ci,KA,lk,ck,hv1⟩:=RdS.form hx;subst hv1;have HRR:=Lh hr;have HM:Hid (n+1<=m/\m<=4096/\ts'.length<r.length):=Lh ⟨hmm,hm4,hlt⟩;have HX:=Lh hx;have HP3:=Lh hp;have hR3:=HR2.out.far ht (by omega)
 have HT3:=Lh (HT2.out.step HT2.out.size ht);have hs3:=ht.size;clear hr hmm hm4 hlt hx hp ht;have z0:=hR3.cell 0 _ rfl;have z1:=hR3.cell 1 _ rfl;have z2:=hR3.cell 2 _ rfl;have z3:=hR3.cell 3 _ rfl;have z4:=hR3.cell 4 _ rfl;have g0:=hR3.frz 0;have g1:=hR3.frz 1;have g2:=hR3.frz 2;have g3:=hR3.frz 3;have g4:=hR3.frz 4;have HR3:=Lh hR3;clear hR3;go_wp2_with fail
 have HZ:=Lh (((((HR3.out.setl (l:=[_,_,_,_,_]) 0 (.int .i64 k1)).setl 1 (.int .i64 n1)).setl 2 (.string s1)).setl 3 (.slice A li ci)).setl 4 (.slice KA lk ck));have y0:=HZ.out.cell 0 _ rfl;have y1:=HZ.out.cell 1 _ rfl;have y2:=HZ.out.cell 2 _ rfl;have y3:=HZ.out.cell 3 _ rfl;have y4:=HZ.out.cell 4 _ rfl;refine bodyPost_ret (v:=.agg #[.int .i64 k1,.int .i64 n1,.string s1,.slice A li ci,.slice KA lk ck]) (by simp [results,Tryz.results235,go_sem,y0,y1,y2,y3,y4]) rfl (.inl ⟨t,_,_,_,HRR.out,rfl, ?_, ?_, ?_,by have:=HM.out.1; omega,HM.out.2.1,by have:=HM.out.2.2; omega⟩)
 ·have hlt:=HR2.out.lt
  refine RdS.kept HX.out (fun b hb=>?_) (fun b hb=>⟨by have:=hb.1; omega,by simp [World.setCell]; exact hb.2⟩)
  have hne:b≠w.heap.size:=by have:=hb.1; omega
  rw [Below.heap_setCell _ _ _ _ hne,Below.heap_setCell _ _ _ _ hne,Below.heap_setCell _ _ _ _ hne,Below.heap_setCell _ _ _ _ hne,Below.heap_setCell _ _ _ _ hne]
 ·exact HP3.out.same ((((((Below.refl (p+1) w3).setCell (p:=⟨w.heap.size,0,none⟩) (by show p+1<=w.heap.size; omega) _).setCell (p:=⟨w.heap.size,1,none⟩) (by show p+1<=w.heap.size; omega) _).setCell (p:=⟨w.heap.size,2,none⟩) (by show p+1<=w.heap.size; omega) _).setCell (p:=⟨w.heap.size,3,none⟩) (by show p+1<=w.heap.size; omega) _).setCell (p:=⟨w.heap.size,4,none⟩) (by show p+1<=w.heap.size; omega) _)
 ·exact ((((HT3.out.setNew (Nat.le_refl _) 0 _).setNew (Nat.le_refl _) 1 _).setNew (Nat.le_refl _) 2 _).setNew (Nat.le_refl _) 3 _).setNew (Nat.le_refl _) 4 _
theorem zN1 (p lv:Nat) (L:List Tk->Nat->Except Er (VT × List Tk × Nat)) (hL:∀ (W:World) (ts:List Tk) (m:Nat),PSt W p ts m->m<=4096->Calls Tryz.prog 261 #[pP p,.int .i64 lv] W (zm0 W p m ts.length (L ts m))) (w:World) (i:Nat) (r:List Tk) (n:Nat) (h:PSt w p ((1,[123],i)::r) n) (hn:n<=4096) (hbv:bvR lv ((1,[123],i)::r) n=.ok ()):Calls Tryz.prog 235 #[pP p,.int .i64 lv] w (zg3 w p n (r.length+1) (L r (n+1))):=by
 have hpw:=h.lt;have hlen:=(h.good.ok _ (List.mem_cons_self ..)).len;obtain ⟨_,hl24,hn1⟩:=bv_ok hbv;have hlvb:(lv:Int)<=24:=by omega
 have HBE:Hid (∀ W,PSt W p ((1,[123],i)::r) n->Calls Tryz.prog 256 #[pP p,.int .i64 lv] W (fun e w'=>e=.returned (.tuple #[])/\PSt w' p ((1,[123],i)::r) (n+1)/\Tw p W.heap.size W w')):=Lh (fun W hW=>(zd4 hW hn lv _ rfl).mono (by
  rintro e w' (⟨_,he,h1,h2⟩ | ⟨z,hz,_⟩)
  ·exact ⟨he,h1,h2⟩
  ·rw [hbv] at hz; cases hz))
 have HTK:Hid (∀ W,PSt W p ((1,[123],i)::r) (n+1)->Calls Tryz.prog 111 #[pP p] W (fun e w'=>e=.returned (.agg #[.int .i64 (1),.string ⟨#[123]⟩,.int .i64 i])/\PSt w' p r (n+1)/\Tw p W.heap.size W w')):=Lh (fun W hW=>zd3 hW (by show (1:Int)≠5; decide))
 have HL:=Lh hL;have HN1:=Lh hn1;clear hL;have HP0:Hid (PSt (w.alloc (.cells #[.int .i64 0,.int .i64 0,.string ⟨#[]⟩,.slice none 0 0,.slice none 0 0] 53 (0,0))) p ((1,[123],i)::r) n):=Lh (h.stay (za1 _ _));have HR0:Hid (Bk (w.alloc (.cells #[.int .i64 0,.int .i64 0,.string ⟨#[]⟩,.slice none 0 0,.slice none 0 0] 53 (0,0))) w.heap.size #[.int .i64 0,.int .i64 0,.string ⟨#[]⟩,.slice none 0 0,.slice none 0 0] 53):=Lh (Bk.new _ _ _);have HT0:Hid (Tw p w.heap.size w (w.alloc (.cells #[.int .i64 0,.int .i64 0,.string ⟨#[]⟩,.slice none 0 0,.slice none 0 0] 53 (0,0)))):=Lh (.of (za1 _ _));have hsz:w.heap.size<(w.alloc (.cells #[.int .i64 0,.int .i64 0,.string ⟨#[]⟩,.slice none 0 0,.slice none 0 0] 53 (0,0))).heap.size:=by simp
 clear h hbv hlen
 go_enter Tryz.func235, Tryz.ntmps235
 go_wp2_with fail
 refine (HBE.out _ HP0.out).mono ?_
 rintro e w1 ⟨rfl,hp,ht⟩;have HP1:=Lh hp;have hR1:=HR0.out.far ht (by omega)
 have HR1:=Lh hR1;have HT1:=Lh (HT0.out.step HT0.out.size ht);have hs1:=ht.size;clear hp ht hR1;go_wp2_with fail
 refine (HTK.out _ HP1.out).mono ?_
 rintro e w2 ⟨rfl,hp,ht⟩;have HP2:Hid (PSt (w2.alloc (.cells #[.int .i64 (1),.string ⟨#[123]⟩,.int .i64 i] 99 (0,0))) p r (n+1)):=Lh (hp.stay (za1 _ _));have hR2:=(HR1.out.far ht (by omega)).stay (za1 w2 (.cells #[.int .i64 (1),.string ⟨#[123]⟩,.int .i64 i] 99 (0,0)))
 have HR2:=Lh hR2;have HT2:Hid (Tw p w.heap.size w (w2.alloc (.cells #[.int .i64 (1),.string ⟨#[123]⟩,.int .i64 i] 99 (0,0)))):=Lh ((HT1.out.step (Nat.le_trans HT0.out.size hs1) ht).alloc (by have:=ht.size; omega) _)
 have hs2:=ht.size;clear hp ht hR2;go_wp2_with fail
 refine (HL.out _ r (n+1) HP2.out HN1.out).mono ?_
 rintro e w3 (⟨t,ts',m,v,hr,rfl,hx,hp,ht,hmm,hm4,hlt⟩ | ⟨x,hr,rfl,ht⟩);rotate_left
 ·have HT3:=Lh (HT2.out.step HT2.out.size ht)
  exact ⟨rfl,.inr ⟨_,hr,rfl,HT3.out⟩⟩
 obtain ⟨k1,n1,s1,A,li,ci,KA,lk,ck,hv1⟩:=RdS.form hx;subst hv1;have HRR:=Lh hr;have HM:Hid (n+1<=m/\m<=4096/\ts'.length<r.length):=Lh ⟨hmm,hm4,hlt⟩;have HX:=Lh hx;have HP3:=Lh hp;have hR3:=HR2.out.far ht (by omega)
 have HT3:=Lh (HT2.out.step HT2.out.size ht);have hs3:=ht.size;clear hr hmm hm4 hlt hx hp ht;have z0:=hR3.cell 0 _ rfl;have z1:=hR3.cell 1 _ rfl;have z2:=hR3.cell 2 _ rfl;have z3:=hR3.cell 3 _ rfl;have z4:=hR3.cell 4 _ rfl;have g0:=hR3.frz 0;have g1:=hR3.frz 1;have g2:=hR3.frz 2;have g3:=hR3.frz 3;have g4:=hR3.frz 4;have HR3:=Lh hR3;clear hR3;go_wp2_with fail
 have HZ:=Lh (((((HR3.out.setl (l:=[_,_,_,_,_]) 0 (.int .i64 k1)).setl 1 (.int .i64 n1)).setl 2 (.string s1)).setl 3 (.slice A li ci)).setl 4 (.slice KA lk ck));have y0:=HZ.out.cell 0 _ rfl;have y1:=HZ.out.cell 1 _ rfl;have y2:=HZ.out.cell 2 _ rfl;have y3:=HZ.out.cell 3 _ rfl;have y4:=HZ.out.cell 4 _ rfl;refine bodyPost_ret (v:=.agg #[.int .i64 k1,.int .i64 n1,.string s1,.slice A li ci,.slice KA lk ck]) (by simp [results,Tryz.results235,go_sem,y0,y1,y2,y3,y4]) rfl (.inl ⟨t,_,_,_,HRR.out,rfl, ?_, ?_, ?_,by have:=HM.out.1; omega,HM.out.2.1,by have:=HM.out.2.2; omega⟩)
 ·have hlt:=HR2.out.lt
  refine RdS.kept HX.out (fun b hb=>?_) (fun b hb=>⟨by have:=hb.1; omega,by simp [World.setCell]; exact hb.2⟩)
  have hne:b≠w.heap.size:=by have:=hb.1; omega
  rw [Below.heap_setCell _ _ _ _ hne,Below.heap_setCell _ _ _ _ hne,Below.heap_setCell _ _ _ _ hne,Below.heap_setCell _ _ _ _ hne,Below.heap_setCell _ _ _ _ hne]
 ·exact HP3.out.same ((((((Below.refl (p+1) w3).setCell (p:=⟨w.heap.size,0,none⟩) (by show p+1<=w.heap.size; omega) _).setCell (p:=⟨w.heap.size,1,none⟩) (by show p+1<=w.heap.size; omega) _).setCell (p:=⟨w.heap.size,2,none⟩) (by show p+1<=w.heap.size; omega) _).setCell (p:=⟨w.heap.size,3,none⟩) (by show p+1<=w.heap.size; omega) _).setCell (p:=⟨w.heap.size,4,none⟩) (by show p+1<=w.heap.size; omega) _)
 ·exact ((((HT3.out.setNew (Nat.le_refl _) 0 _).setNew (Nat.le_refl _) 1 _).setNew (Nat.le_refl _) 2 _).setNew (Nat.le_refl _) 3 _).setNew (Nat.le_refl _) 4 _
abbrev ElT:=List Tk->Nat->Except Er (VT × List Tk × Nat)
def vaP (lv:Nat) (L O:ElT) (ts:List Tk) (n:Nat):Except Er (VT × List Tk × Nat):=exB (bvR lv ts n) fun _ =>
 if (hd ts).1=2 then .ok (nmV ⟨(hd ts).2.1.toArray⟩,ts.tail,n+1) else if (hd ts).1=3 then .ok (nuV ⟨(hd ts).2.1.toArray⟩,ts.tail,n+1) else if (hd ts).1=4 then .ok (.mk 3 0 ⟨(hd ts).2.1.toArray⟩ [] [],ts.tail,n+1) else if (hd ts).2.1=[91] then L ts.tail (n+1) else O ts.tail (n+1)
theorem pval_bad (p lv:Nat) (w:World) (ts:List Tk) (n:Nat) (z:Er) (h:PSt w p ts n) (hn:n<=4096) (hbv:bvR lv ts n=.error z):Calls Tryz.prog 235 #[pP p,.int .i64 lv] w (zg3 w p n ts.length (.error z)):=by
 have hpw:=h.lt;have HBE:Hid (∀ W,PSt W p ts n->Calls Tryz.prog 256 #[pP p,.int .i64 lv] W (fun e w'=>e=badV z/\Tw p W.heap.size W w')):=Lh (fun W hW=>(zd4 hW hn lv _ rfl).mono (by
  rintro e w' (⟨hz,_⟩ | ⟨z',hz,he,h2⟩)
  ·rw [hbv] at hz; cases hz
  ·rw [hbv] at hz; cases hz; exact ⟨he,h2⟩))
 have HP0:Hid (PSt (w.alloc (.cells #[.int .i64 0,.int .i64 0,.string ⟨#[]⟩,.slice none 0 0,.slice none 0 0] 53 (0,0))) p ts n):=Lh (h.stay (za1 _ _));have HT0:Hid (Tw p w.heap.size w (w.alloc (.cells #[.int .i64 0,.int .i64 0,.string ⟨#[]⟩,.slice none 0 0,.slice none 0 0] 53 (0,0)))):=Lh (.of (za1 _ _));clear h hbv
 go_enter Tryz.func235, Tryz.ntmps235
 go_wp2_with fail
 refine (HBE.out _ HP0.out).mono ?_
 rintro e w1 ⟨rfl,ht⟩;have HT1:=Lh (HT0.out.step HT0.out.size ht);clear ht;exact ⟨rfl,.inr ⟨_,rfl,rfl,HT1.out⟩⟩
theorem zB2 (p lv:Nat) (L O:ElT)
  (hL:lv<=24->∀ (W:World) (ts:List Tk) (m:Nat),PSt W p ts m->m<=4096->Calls Tryz.prog 260 #[pP p,.int .i64 lv] W (zm0 W p m ts.length (L ts m)))
  (hO:lv<=24->∀ (W:World) (ts:List Tk) (m:Nat),PSt W p ts m->m<=4096->Calls Tryz.prog 261 #[pP p,.int .i64 lv] W (zm0 W p m ts.length (O ts m)))
  (w:World) (ts:List Tk) (n:Nat) (h:PSt w p ts n) (hn:n<=4096):Calls Tryz.prog 235 #[pP p,.int .i64 lv] w (zg3 w p n ts.length (vaP lv L O ts n)):=by
 cases hbv:bvR lv ts n with
 | error z =>
   have e:vaP lv L O ts n=.error z:=za7 hbv;rw [e];exact pval_bad p lv w ts n z h hn hbv
 | ok u =>
   obtain ⟨hv,hl,_⟩:=bv_ok hbv;obtain ⟨⟨k,tx,i⟩,r,hts⟩:=h.good.ne;subst hts;have e:vaP lv L O ((k,tx,i)::r) n=if k=2 then .ok (nmV ⟨tx.toArray⟩,r,n+1) else if k=3 then .ok (nuV ⟨tx.toArray⟩,r,n+1) else if k=4 then .ok (.mk 3 0 ⟨tx.toArray⟩ [] [],r,n+1) else if tx=[91] then L r (n+1) else O r (n+1):=za3 hbv
   rw [e];rcases zO1 hv with rfl | rfl | rfl | ⟨rfl,rfl⟩ | ⟨rfl,rfl⟩
   ·exact yc8 p lv w tx i r n h hn hbv
   ·exact pval_int p lv w tx i r n h hn hbv
   ·exact yc7 p lv w tx i r n h hn hbv
   ·exact yc9 p lv L (hL hl) w i r n h hn hbv
   ·exact zN1 p lv O (hO hl) w i r n h hn hbv
def lsV (el:ElT):ElT:=fun ts n=>exB (lsP el (ts.length+1) [] ts n) fun q=>.ok (.mk 5 0 ⟨#[]⟩ q.1 [],q.2.1,q.2.2)
theorem zW2 (p lv:Nat) (el:ElT) (hel:∀ (W:World) (ts:List Tk) (m:Nat),PSt W p ts m->m<=4096->Calls Tryz.prog 235 #[pP p,.int .i64 ((lv:Int)+1)] W (zg3 W p m ts.length (el ts m))) (hlv:lv<=24)
  (w:World) (ts:List Tk) (n:Nat) (h:PSt w p ts n) (hn:n<=4096):Calls Tryz.prog 260 #[pP p,.int .i64 lv] w (zm0 w p n ts.length (lsV el ts n)):=by
 refine (yd1 p lv el hel hlv w ts n h hn).mono ?_
 rintro e w' (⟨l,ts',m,v,hr,he,hx,hp,ht,h1,h2,h3⟩ | ⟨x,hr,he,ht⟩)
 ·exact .inl ⟨_,ts',m,v,za3 hr,he,hx,hp,ht,h1,h2,h3⟩
 ·exact .inr ⟨x,za7 hr,he,ht⟩
def vF (O:ElT->ElT):Nat->Nat->ElT
 | 0,lv=>vaP lv (fun _ _=>.error (0,99)) (fun _ _=>.error (0,99))
 | f+1,lv=>vaP lv (lsV (vF O f (lv+1))) (O (vF O f (lv+1)))
theorem zN0 (p:Nat) (O:ElT->ElT)
  (hO:∀ (lv:Nat) (el:ElT),lv<=24->(∀ (W:World) (ts:List Tk) (m:Nat),PSt W p ts m->m<=4096->Calls Tryz.prog 235 #[pP p,.int .i64 ((lv:Int)+1)] W (zg3 W p m ts.length (el ts m)))->∀ (W:World) (ts:List Tk) (m:Nat),PSt W p ts m->m<=4096->Calls Tryz.prog 261 #[pP p,.int .i64 lv] W (zm0 W p m ts.length (O el ts m))) :
  ∀ (f lv:Nat),lv+f=25->∀ (W:World) (ts:List Tk) (m:Nat),PSt W p ts m->m<=4096->Calls Tryz.prog 235 #[pP p,.int .i64 lv] W (zg3 W p m ts.length (vF O f lv ts m)):=by
 intro f
 induction f with
 | zero=>exact fun lv hf W ts m h hm=>zB2 p lv _ _ (fun h24=>by omega) (fun h24=>by omega) W ts m h hm
 | succ f ih =>
   intro lv hf W ts m h hm;have hel:∀ (W:World) (ts:List Tk) (m:Nat),PSt W p ts m->m<=4096->Calls Tryz.prog 235 #[pP p,.int .i64 ((lv:Int)+1)] W (zg3 W p m ts.length (vF O f (lv+1) ts m)):=fun W ts m h hm=>by
    have hh:=ih (lv+1) (by omega) W ts m h hm
    have e:(((lv+1:Nat)):Int)=(lv:Int)+1:=by omega
    rw [e] at hh;exact hh
   exact zB2 p lv _ _ (fun h24=>zW2 p lv _ hel h24) (fun h24=>hO lv _ h24 hel) W ts m h hm
theorem yg5:(Tryz.prog.info? 9).map (fun i=>(i.zero,i.size,i.bytes))=some (some (.string ⟨#[]⟩),1,16):=by kernel_rfl
theorem zB3 (p:Nat) (w:World) (ts:List Tk) (n:Nat) (h:PSt w p ts n) (cl:ByteArray) :
  Calls Tryz.prog 162 #[pP p,.string cl] w (WPost yj5 w p (nmsR cl.data.toList ts)):=by
 have HV2:Hid (nmsR cl.data.toList ts=nms cl.data.toList (ts.length+1) [] ts):=Lh rfl;have HP1:=Lh h;have hpw:=h.lt;clear h;generalize nmsR cl.data.toList ts=R at *
 go_enter Tryz.func162, Tryz.ntmps162
 go_wp2_with fail
 go_loopw [5] (fun u wr=>∃ (l:List ByteArray) (tr:List Tk) (cells:List Value) (f m:Nat),l.length<=64/\Hid (R=nms cl.data.toList f l tr/\tr.length<f/\Els 9 1 StrC wr w.heap.size u cells l/\PSt wr p tr m/\Tw p w.heap.size w wr)) (fun _ wr=>tlen p wr)
 case atStart=>exact ⟨[],ts,[],_,n,Nat.zero_le _,Lh ⟨HV2.out,Nat.lt_succ_self _,Els.nil _ _ _ _ _,HP1.out,.refl _ _ _⟩⟩
 case round =>
  obtain ⟨l,tr,cells,f,m,hlm,hr⟩:=hrel;obtain ⟨AL,c,hu⟩:=hr.out.2.2.1.slice;subst hu;have hlb:(l.length:Int)<=64:=by omega
  obtain ⟨f',hf'⟩ : ∃ f',f=f'+1:=⟨f-1,by have:=hr.out.2.1; omega⟩
  subst hf';obtain ⟨ll,hll⟩ : ∃ ll,ll=l.length:=⟨_,rfl⟩;rw [<- hll] at hlb;have HLL:=Lh hll;by_cases hdone:ll≠0/\isSg cl.data.toList tr=false
  ·obtain ⟨hz,hsg⟩:=hdone
   have hz0:((ll:Int)==0)=false:=by rw [beq_eq_false_iff_ne]; omega
   have HD:Hid (R=.ok (l,tr)):=Lh (hr.out.1.trans (by rw [zl6,if_pos ⟨by rw [<- HLL.out]; exact hz,hsg⟩]))
   have HC:=Lh (zb0 hr.out.2.2.2.1 cl _ hsg);clear hz hsg hll;rw [<- HLL.out];go_wp2_with fail
   refine HC.out.mono ?_
   rintro e w2 ⟨rfl,hp2,ht2⟩;have HP2:Hid (PSt w2 p tr m):=Lh hp2;have HT2:=Lh (hr.out.2.2.2.2.step hr.out.2.2.2.2.size ht2);have HE2:=Lh (hr.out.2.2.1.tw StrC.stays hpw ht2);clear hp2 ht2;go_wp2_with fail
   go_ret
   refine .inl ⟨l,_,_,m,HD.out,rfl, ?_,HP2.out,HT2.out⟩
   have:=HE2.out.read (bytes:=16) StrC.stays (by have:=HLL.out; unfold big; omega)
   rw [HLL.out];exact this
  ·have HD0:Hid (R=exB (bgR (isNm (if l.length=0 then tr else tr.tail)) l.length 64 (if l.length=0 then tr else tr.tail)) fun _=>exB (nmR (if l.length=0 then tr else tr.tail)) fun q=>nms cl.data.toList f' (l++[q.1]) q.2):=Lh (hr.out.1.trans (by rw [zl6,if_neg (by rw [<- HLL.out]; exact hdone)]))
   have hcase:ll=0∨(ll≠0/\isSg cl.data.toList tr=true):=by
    by_cases h0:ll=0
    ·exact .inl h0
    ·exact .inr ⟨h0,by cases hh:isSg cl.data.toList tr with
      | true=>rfl
      | false=>exact absurd ⟨h0,hh⟩ hdone⟩
   rw [<- hll];clear hdone hll;rcases hcase with hz | ⟨hz,hsg⟩
   ·skip
    have HD:Hid (R=exB (bgR (isNm tr) l.length 64 tr) fun _=>exB (nmR tr) fun q=>nms cl.data.toList f' (l++[q.1]) q.2):=Lh (by have h8:=HD0.out; rw [if_pos (show l.length=0 by rw [<- HLL.out]; exact hz)] at h8; exact h8)
    have hz0:((ll:Int)==0)=true:=by rw [hz]; rfl
    have HPC:=Lh hr.out.2.2.2.1;have HTC:Hid (Tw p wr.heap.size wr wr):=Lh (.refl _ _ _);clear hz;go_wp2_with fail
    refine zu3 HPC.out (by kernel_rfl) rfl rfl ?_ fun a w3 z hd hz=>?_
    rotate_left
    ·obtain ⟨hbg,ht⟩:=hz
     rw [HLL.out] at hbg;exact ⟨hd.trans rfl,.inr ⟨z,by rw [HD.out,za7 hbg],rfl,hr.out.2.2.2.2.step hr.out.2.2.2.2.size (HTC.out.step HTC.out.size ht)⟩⟩
    intro f wc ⟨hbg,hb⟩;rw [HLL.out] at hbg;obtain ⟨hnm,hlm2⟩:=zp5 hbg hlm;have HD2:Hid (R=exB (nmR tr) fun q=>nms cl.data.toList f' (l++[q.1]) q.2):=Lh (by rw [HD.out,za3 hbg])
    have HPB2:=Lh (HPC.out.stay hb);have HTB2:=Lh (HTC.out.step HTC.out.size (.of hb));clear hbg hb hnm;simp only [K.over,List.foldl_cons,List.foldl_nil,Act.put,List.setIfInBounds_toArray,List.set_cons_succ,List.set_cons_zero]
    generalize f 16=u16;generalize f 17=u17;generalize f 18=u18;generalize f 19=u19;generalize f 20=u20;generalize f 21=u21;generalize f 22=u22;generalize f 23=u23;generalize f 24=u24;generalize f 25=u25;go_wp2_with fail
    refine (zc9 HPB2.out).mono ?_
    rintro e wd (⟨x,ts',v,hre,rfl,⟨rfl,hxz⟩,hp,ht⟩ | ⟨x,hre,rfl,ht⟩);rotate_left
    ·have HD3:Hid (R=.error x):=Lh (by rw [HD2.out,za7 hre])
     have HT3:=Lh (hr.out.2.2.2.2.step hr.out.2.2.2.2.size (HTB2.out.step HTB2.out.size ht));clear hre ht;exact ⟨rfl,.inr ⟨x,HD3.out,rfl,HT3.out⟩⟩
    have HD3:Hid (R=nms cl.data.toList f' (l++[x]) ts'):=Lh (by rw [HD2.out,za3 hre])
    have hlt3:=yf3 HPB2.out.good hre;have hxc:StrC wd (fun b=>wc.heap.size<=b/\b<wd.heap.size) (fun j=>[Value.string x].getD j undef) x:=⟨rfl,by unfold big; omega⟩
    have HTD:=Lh (HTB2.out.step HTB2.out.size ht);have hE:=hr.out.2.2.1.tw StrC.stays hpw HTD.out;have hws:w.heap.size<=wc.heap.size:=Nat.le_trans hr.out.2.2.2.2.size HTB2.out.size;have hwd:wc.heap.size<=wd.heap.size:=ht.size;have hxS:=StrC.stays.kept (w':=wd) (S':=fun b=>w.heap.size<=b/\b<wd.heap.size/\(Value.slice AL l.length c).ownBlock≠some b) hxc (fun _ _=>rfl) (fun b hb=>⟨by have:=hb.1; omega,hb.2,fun e=>by have h8:=(hr.out.2.2.1.own).lt b e; have h9:=HTB2.out.size; have:=hb.1; omega⟩)
    have HX:=Lh hxS;have HPD:=Lh hp;have HE:=Lh hE;have b0:Below wd.heap.size wd (wd.alloc (.cells #[.string x] 9 (0,0))):=za1 _ _;have HB0:=Lh b0;have HOWN:Hid ((wd.alloc (.cells #[.string x] 9 (0,0))).ownsRow w.heap.size 9 1 (.slice AL ll c) ll cells):=Lh (by
     have h8:=ze4 hE.own (fun g hg=>b0.block g hg);rw [<- HLL.out] at h8; exact h8)
    have HNEWS:Hid (∀ (j:Nat) (u:Value),([.string x]:List Value)[j]?=some u->(wd.alloc (.cells #[.string x] 9 (0,0))).cell? ((⟨wd.heap.size,0,none⟩ : Addr).add j)=some u):=Lh (ze5 wd [.string x] 9);have HONE:Hid (∀ u∈([.string x]:List Value),u.oneCell'=true):=Lh (by intro u hu; simp only [List.mem_cons,List.not_mem_nil,or_false] at hu; rcases hu with rfl <;> rfl)
    have HSZ:Hid (w.heap.size<=(wd.alloc (.cells #[.string x] 9 (0,0))).heap.size):=Lh (by rw [World.size_alloc]; omega)
    clear hre ht hxc hp hE hxS b0 hxz;go_wp2_with (at_builtin; refine za9 _ rfl _ _ 33 rfl w.heap.size 9 _ 1 16 Tryz.underlying33 yg5 rfl (by decide) _ ll cells rfl HOWN.out ⟨wd.heap.size,0,none⟩ 1 1 (by decide) [.string x] rfl rfl HNEWS.out HONE.out (by unfold maxLen; omega) (by omega) HSZ.out ?_; intro v' w' hown' hg' hf')
    have hpush:=Els.push (x:=x) StrC.stays HE.out HB0.out (by have:=HSZ.out; omega) HX.out (news:=[.string x]) (fun j hj=>rfl) (fun W S g g2 y hh h9=>⟨(hh 0 (by omega))▸h9.1,h9.2⟩) (by rw [<- HLL.out]; exact hown') (by rw [<- HLL.out]; exact hg') (by rw [<- HLL.out]; exact hf')
    have HE2:=Lh hpush.1;have HT2:Hid (Tw p w.heap.size w w'):=Lh ((hr.out.2.2.2.2.trans (HTD.out.mono hr.out.2.2.2.2.size)).trans (.of hpush.2));have HP2:=Lh (HPD.out.same (hpush.2.mono (by omega)))
    clear hpush hown' hg' hf'
    go_roundw
    case rel=>exact ⟨l++[x],ts',_,f',m,by rw [List.length_append,List.length_singleton]; omega,Lh ⟨HD3.out,by have:=hr.out.2.1; omega,HE2.out,HP2.out,HT2.out⟩⟩
    case measure=>rw [HP2.out.tlen,hr.out.2.2.2.1.tlen]; omega
   ·skip
    have HD:Hid (R=exB (bgR (isNm tr.tail) l.length 64 tr.tail) fun _=>exB (nmR tr.tail) fun q=>nms cl.data.toList f' (l++[q.1]) q.2):=Lh (by have h8:=HD0.out; rw [if_neg (show ¬ l.length=0 by rw [<- HLL.out]; exact hz)] at h8; exact h8)
    have hz0:((ll:Int)==0)=false:=by rw [beq_eq_false_iff_ne]; omega
    have HC:=Lh (zb0 hr.out.2.2.2.1 cl _ hsg);clear hz hsg;go_wp2_with fail
    refine HC.out.mono ?_
    rintro e wa ⟨rfl,hp2,ht2⟩;have HPC:Hid (PSt wa p tr.tail m):=Lh hp2;have HTC:=Lh ht2;clear hp2 ht2 HC;go_wp2_with fail
    refine zu3 HPC.out (by kernel_rfl) rfl rfl ?_ fun a w3 z hd hz=>?_
    rotate_left
    ·obtain ⟨hbg,ht⟩:=hz
     rw [HLL.out] at hbg;exact ⟨hd.trans rfl,.inr ⟨z,by rw [HD.out,za7 hbg],rfl,hr.out.2.2.2.2.step hr.out.2.2.2.2.size (HTC.out.step HTC.out.size ht)⟩⟩
    intro f wc ⟨hbg,hb⟩;rw [HLL.out] at hbg;obtain ⟨hnm,hlm2⟩:=zp5 hbg hlm;have HD2:Hid (R=exB (nmR tr.tail) fun q=>nms cl.data.toList f' (l++[q.1]) q.2):=Lh (by rw [HD.out,za3 hbg])
    have HPB2:=Lh (HPC.out.stay hb);have HTB2:=Lh (HTC.out.step HTC.out.size (.of hb));clear hbg hb hnm;simp only [K.over,List.foldl_cons,List.foldl_nil,Act.put,List.setIfInBounds_toArray,List.set_cons_succ,List.set_cons_zero]
    generalize f 16=u16;generalize f 17=u17;generalize f 18=u18;generalize f 19=u19;generalize f 20=u20;generalize f 21=u21;generalize f 22=u22;generalize f 23=u23;generalize f 24=u24;generalize f 25=u25;go_wp2_with fail
    refine (zc9 HPB2.out).mono ?_
    rintro e wd (⟨x,ts',v,hre,rfl,⟨rfl,hxz⟩,hp,ht⟩ | ⟨x,hre,rfl,ht⟩);rotate_left
    ·have HD3:Hid (R=.error x):=Lh (by rw [HD2.out,za7 hre])
     have HT3:=Lh (hr.out.2.2.2.2.step hr.out.2.2.2.2.size (HTB2.out.step HTB2.out.size ht));clear hre ht;exact ⟨rfl,.inr ⟨x,HD3.out,rfl,HT3.out⟩⟩
    have HD3:Hid (R=nms cl.data.toList f' (l++[x]) ts'):=Lh (by rw [HD2.out,za3 hre])
    have hlt3:=yf3 HPB2.out.good hre;have htl:tr.tail.length<=tr.length:=by simp
    have hxc:StrC wd (fun b=>wc.heap.size<=b/\b<wd.heap.size) (fun j=>[Value.string x].getD j undef) x:=⟨rfl,by unfold big; omega⟩
    have HTD:=Lh (HTB2.out.step HTB2.out.size ht);have hE:=hr.out.2.2.1.tw StrC.stays hpw HTD.out;have hws:w.heap.size<=wc.heap.size:=Nat.le_trans hr.out.2.2.2.2.size HTB2.out.size;have hwd:wc.heap.size<=wd.heap.size:=ht.size;have hxS:=StrC.stays.kept (w':=wd) (S':=fun b=>w.heap.size<=b/\b<wd.heap.size/\(Value.slice AL l.length c).ownBlock≠some b) hxc (fun _ _=>rfl) (fun b hb=>⟨by have:=hb.1; omega,hb.2,fun e=>by have h8:=(hr.out.2.2.1.own).lt b e; have h9:=HTB2.out.size; have:=hb.1; omega⟩)
    have HX:=Lh hxS;have HPD:=Lh hp;have HE:=Lh hE;have b0:Below wd.heap.size wd (wd.alloc (.cells #[.string x] 9 (0,0))):=za1 _ _;have HB0:=Lh b0;have HOWN:Hid ((wd.alloc (.cells #[.string x] 9 (0,0))).ownsRow w.heap.size 9 1 (.slice AL ll c) ll cells):=Lh (by
     have h8:=ze4 hE.own (fun g hg=>b0.block g hg);rw [<- HLL.out] at h8; exact h8)
    have HNEWS:Hid (∀ (j:Nat) (u:Value),([.string x]:List Value)[j]?=some u->(wd.alloc (.cells #[.string x] 9 (0,0))).cell? ((⟨wd.heap.size,0,none⟩ : Addr).add j)=some u):=Lh (ze5 wd [.string x] 9);have HONE:Hid (∀ u∈([.string x]:List Value),u.oneCell'=true):=Lh (by intro u hu; simp only [List.mem_cons,List.not_mem_nil,or_false] at hu; rcases hu with rfl <;> rfl)
    have HSZ:Hid (w.heap.size<=(wd.alloc (.cells #[.string x] 9 (0,0))).heap.size):=Lh (by rw [World.size_alloc]; omega)
    clear hre ht hxc hp hE hxS b0 hxz;go_wp2_with (at_builtin; refine za9 _ rfl _ _ 33 rfl w.heap.size 9 _ 1 16 Tryz.underlying33 yg5 rfl (by decide) _ ll cells rfl HOWN.out ⟨wd.heap.size,0,none⟩ 1 1 (by decide) [.string x] rfl rfl HNEWS.out HONE.out (by unfold maxLen; omega) (by omega) HSZ.out ?_; intro v' w' hown' hg' hf')
    have hpush:=Els.push (x:=x) StrC.stays HE.out HB0.out (by have:=HSZ.out; omega) HX.out (news:=[.string x]) (fun j hj=>rfl) (fun W S g g2 y hh h9=>⟨(hh 0 (by omega))▸h9.1,h9.2⟩) (by rw [<- HLL.out]; exact hown') (by rw [<- HLL.out]; exact hg') (by rw [<- HLL.out]; exact hf')
    have HE2:=Lh hpush.1;have HT2:Hid (Tw p w.heap.size w w'):=Lh ((hr.out.2.2.2.2.trans (HTD.out.mono hr.out.2.2.2.2.size)).trans (.of hpush.2));have HP2:=Lh (HPD.out.same (hpush.2.mono (by omega)))
    clear hpush hown' hg' hf'
    go_roundw
    case rel=>exact ⟨l++[x],ts',_,f',m,by rw [List.length_append,List.length_singleton]; omega,Lh ⟨HD3.out,by have:=hr.out.2.1; omega,HE2.out,HP2.out,HT2.out⟩⟩
    case measure=>rw [HP2.out.tlen,hr.out.2.2.2.1.tlen]; omega
def implS:ByteArray:=⟨#[105,109,112,108,101,109,101,110,116,115]⟩
def impP (ts:List Tk):Except Er (List ByteArray × List Tk):=if isNm ts=true/\(⟨(hd ts).2.1.toArray⟩ : ByteArray)=implS then nmsR [38] ts.tail else .ok ([],ts)
theorem impP_eq (ts:List Tk):impP ts=if isWd implS ts=true then nmsR [38] ts.tail else .ok ([],ts):=by
 unfold impP isWd;by_cases h1:isNm ts=true <;> by_cases h2:(⟨(hd ts).2.1.toArray⟩ : ByteArray)=implS <;> simp [h1,h2]
theorem zx8 (p:Nat) (w:World) (ts:List Tk) (n:Nat) (h:PSt w p ts n):Calls Tryz.prog 113 #[pP p] w (WPost yj5 w p (impP ts)):=by
 have HV:Hid (impP ts=if isWd implS ts=true then nmsR [38] ts.tail else .ok ([],ts)):=Lh (impP_eq ts)
 generalize impP ts=R at *
 cases hs:isWd implS ts with
 | false =>
   have HC:=Lh (zx7 h implS _ hs);have HV2:Hid (R=.ok ([],ts)):=Lh (by rw [HV.out,hs]; rfl)
   clear h hs HV
   go_enter Tryz.func113, Tryz.ntmps113
   go_wp2_with fail
   refine HC.out.mono ?_
   rintro e w1 ⟨rfl,hp,ht⟩;have HP1:Hid (PSt w1 p ts n):=Lh hp;have HT1:=Lh ht;clear hp ht;go_wp2_with fail
   go_ret
   exact .inl ⟨_,_,_,n,HV2.out,rfl,SlS.nil _ _,HP1.out,HT1.out⟩
 | true =>
   have HC:=Lh (zx7 h implS _ hs);have HV2:Hid (R=nmsR [38] ts.tail):=Lh (by rw [HV.out,hs]; rfl)
   clear h hs HV
   go_enter Tryz.func113, Tryz.ntmps113
   go_wp2_with fail
   refine HC.out.mono ?_
   rintro e w3 ⟨rfl,hp,ht⟩;have HP3:Hid (PSt w3 p ts.tail n):=Lh hp;have HT3:=Lh ht;clear hp ht;go_wp2_with fail
   refine (zB3 p w3 ts.tail n HP3.out ⟨#[38]⟩).mono ?_
   rintro e w4 (⟨l,ts',v,m',hr,rfl,hv,hp,ht⟩ | ⟨x,hr,rfl,ht⟩)
   ·have HD:Hid (R=.ok (l,ts')):=Lh (HV2.out.trans hr)
    have HT4:=Lh (HT3.out.step HT3.out.size ht);have hs3:=HT3.out.size;have HX:=Lh (SlS.kept StrC.stays (w':=w4) (S':=fun b=>w.heap.size<=b/\b<w4.heap.size) hv (fun _ _=>rfl) (fun b hb=>⟨by have:=hb.1; omega,hb.2⟩))
    have HP4:=Lh hp;clear hr hv hp ht;go_wp2_with fail
    go_ret
    exact .inl ⟨_,_,_,_,HD.out,rfl,HX.out,HP4.out,HT4.out⟩
   ·have HD:Hid (R=.error x):=Lh (HV2.out.trans hr)
    have HT4:=Lh (HT3.out.step HT3.out.size ht);exact ⟨rfl,.inr ⟨x,HD.out,rfl,HT4.out⟩⟩
end Go.Proofs.YtfgelheiknmjgaaGreatDoor
