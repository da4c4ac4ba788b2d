
/-
 Texts joined: NumPlain H4 H5.
-/
import Derived.Test.YtfgelheiknmjgaaGreatDoorZt17
set_option maxRecDepth 1000000
set_option maxHeartbeats 8000000
namespace Go.Proofs.YtfgelheiknmjgaaGreatDoor.T1
open Go.RowKit
def dv (c:UInt8):Nat:=c.toNat-48
def valF (acc:Nat) (l:List UInt8):Nat:=l.foldl (fun a c=>a*10+dv c) acc
theorem zJ5 (acc:Nat) (c:UInt8) (l:List UInt8):valF acc (c::l)=valF (acc*10+dv c) l:=by
 unfold valF; rw [List.foldl_cons]
theorem yd3 (acc:Nat) (l:List UInt8) (c:UInt8):valF acc (l++[c])=valF acc l*10+dv c:=by
 unfold valF; rw [List.foldl_append,List.foldl_cons,List.foldl_nil]
theorem yd4:∀ (l:List UInt8) (acc:Nat),acc<=valF acc l
 | [],_=>Nat.le_refl _
 | c::l,acc=>by
   rw [zJ5];have:=yd4 l (acc*10+dv c);omega
theorem zN6 {c:UInt8} (h:digB (c.toNat:Int)=true):48<=c.toNat/\c.toNat<=57:=by unfold digB at h; simp at h; omega
theorem zk8 {c:UInt8} {l:List UInt8}:allDg (c::l)=true ↔ digB (c.toNat:Int)=true/\allDg l=true:=by
 unfold allDg; rw [List.all_cons,Bool.and_eq_true]
theorem zO8 {a b:List UInt8}:allDg (a++b)=true ↔ allDg a=true/\allDg b=true:=by
 unfold allDg; rw [List.all_append,Bool.and_eq_true]
theorem zB4:∀ (l:List UInt8) (acc:Nat),acc<18446744073709551616->allDg l=true->Lib.parseUint10 acc l=if valF acc l<18446744073709551616 then .ok (valF acc l) else .range
 | [],acc,ha,_=>by rw [if_pos (show valF acc []<_ from ha)]; rfl
 | c::r,acc,ha,h=>by
   rw [zk8] at h;have hc:=zN6 h.1;have hd:dv c=c.toNat-48:=rfl;have hge:=yd4 r (acc*10+dv c);unfold Lib.parseUint10;rw [if_pos hc,zJ5];by_cases h1:1844674407370955162<=acc
   ·rw [if_pos h1,if_neg (by omega)]
   rw [if_neg h1];by_cases h2:18446744073709551616<=acc*10+(c.toNat-48)
   ·rw [if_pos h2,if_neg (by omega)]
   rw [if_neg h2];exact zB4 r _ (by omega) h.2
def val (l:List UInt8):Nat:=valF 0 l
structure Canon (d:List UInt8):Prop where
 ne:d≠[]
 dg:allDg d=true
 lead:d.getD 0 0=48->d=[48]
theorem zM0 {d:List UInt8} (h:Canon d):numL d=if val d<9223372036854775808 then ((val d:Int),0) else (0,4):=by
 obtain ⟨h0,h1,h2⟩:=h;have hdec:decL d=true:=by
  unfold decL;have ht:Lib.trimPrefix d [45]=d:=by
   cases d with
   | nil=>rfl
   | cons c r =>
     refine zD6 r ?_
     rintro rfl;have:=(zk8.1 h1).1
     revert this; decide
  rw [ht,if_neg h0];by_cases e:d.getD 0 0=48
  ·rw [if_pos e,h2 e]; rfl
  ·rw [if_neg e]; exact h1
 unfold numL;rw [hdec,if_pos rfl]
 cases d with
 | nil=>exact absurd rfl h0
 | cons c r =>
   have hc:=zN6 (zk8.1 h1).1;rw [Lib.atoiAll_plain c r (by omega) (by omega)];unfold Lib.parseMag;rw [if_neg h0,zB4 _ 0 (by omega) h1];show _=if val (c::r)<_ then _ else _
   unfold val;generalize valF 0 (c::r)=v;by_cases e1:v<18446744073709551616
   ·rw [if_pos e1]
    unfold Lib.signless;by_cases e2:v<9223372036854775808
    ·rw [if_pos e2]; simp only; rw [if_neg (by omega)]
    ·rw [if_neg e2]; simp only; rw [if_pos (by omega)]
   ·rw [if_neg e1,if_neg (by omega)]; rfl
theorem zM1 {d:List UInt8} (h:Canon d) (hz:d.getD 0 0≠48):numL (45::d)=if val d<=9223372036854775808 then (-(val d:Int),0) else (0,4):=by
 obtain ⟨h0,h1,h2⟩:=h;have hdec:decL (45::d)=true:=by
  unfold decL;rw [zD7,if_neg h0,if_neg hz]; exact h1
 unfold numL;rw [hdec,if_pos rfl,Lib.atoiAll_minus];unfold Lib.parseMag;rw [if_neg h0,zB4 _ 0 (by omega) h1];show _=if val d<=_ then _ else _
 unfold val;generalize valF 0 d=v;by_cases e1:v<18446744073709551616
 ·rw [if_pos e1]
  unfold Lib.signed;by_cases e2:v<=9223372036854775808
  ·rw [if_pos e2]; simp only; rw [if_neg (by omega)]
  ·rw [if_neg e2]; simp only; rw [if_pos (by omega)]
 ·rw [if_neg e1,if_neg (by omega)]; rfl
theorem zF0 {x:Nat} (h:x<10):(UInt8.ofNat (48+x)).toNat=48+x:=by rw [UInt8.toNat_ofNat']; omega
theorem zk4 (u:Nat):allDg (Lib.decDigits u)=true/\val (Lib.decDigits u)=u/\Lib.decDigits u≠[]/\((Lib.decDigits u).getD 0 0=48->u=0):=by
 induction u using Nat.strongRecOn with
 | _ u ih =>
   by_cases h:u<10
   ·have hb:=zF0 h
    rw [Lib.decDigits_one h];refine ⟨?_, ?_,by simp, ?_⟩
    ·rw [zk8]; refine ⟨?_,rfl⟩
     unfold digB; rw [hb]; simp; omega
    ·show 0*10+dv _=u
     unfold dv; rw [hb]; omega
    ·intro e
     have e':UInt8.ofNat (48+u)=48:=e;have:=congrArg UInt8.toNat e';rw [hb] at this;have h48:(48:UInt8).toNat=48:=rfl;omega
   ·obtain ⟨i1,i2,i3,i4⟩:=ih (u / 10) (by omega)
    have hb:=zF0 (x:=u % 10) (by omega);rw [Lib.decDigits,dif_neg h];refine ⟨?_, ?_,by simp, ?_⟩
    ·rw [zO8]
     refine ⟨i1, ?_⟩
     rw [zk8]; refine ⟨?_,rfl⟩;unfold digB; rw [hb]; simp; omega
    ·unfold val at i2 ⊢
     rw [yd3,i2]; unfold dv; rw [hb]; omega
    ·intro e
     have e':(Lib.decDigits (u / 10)).getD 0 0=48:=by
      cases hd:Lib.decDigits (u / 10) with
      | nil=>exact absurd hd i3
      | cons a b=>rw [hd] at e; exact e
     have:=i4 e'; omega
theorem zq2 (u:Nat):Canon (Lib.decDigits u):=by
 obtain ⟨h1,_,h3,h4⟩:=zk4 u;refine ⟨h3,h1,fun e=>?_⟩;have:=h4 e; subst this;rw [Lib.decDigits_one (by omega)]; rfl
theorem zU4 (n:Int) (h0 : -9223372036854775808<=n) (h1:n<=9223372036854775807):numL (Lib.itoa n)=(n,0):=by
 unfold Lib.itoa;by_cases h:n<0
 ·rw [if_pos h,zM1 (zq2 _) (fun e=>by have:=(zk4 n.natAbs).2.2.2 e; omega),(zk4 _).2.1,if_pos (by omega)]
  congr 1; omega
 ·rw [if_neg h,zM0 (zq2 _),(zk4 _).2.1,if_pos (by omega)]
  congr 1; omega
theorem yp7 {l:List UInt8} (h:decL l=true):(∃ d,l=d/\Canon d)∨(∃ d,l=45::d/\Canon d/\d.getD 0 0≠48):=by
 rcases zC6 h with rfl | ⟨d,h0,h1,h2,h3,_⟩
 ·exact Or.inl ⟨[48],rfl,by simp,rfl,fun _=>rfl⟩
 ·rcases h3 with rfl | rfl
  ·exact Or.inl ⟨_,rfl,h0,h2,fun e=>absurd e h1⟩
  ·exact Or.inr ⟨d,rfl,⟨h0,h2,fun e=>absurd e h1⟩,h1⟩
theorem zU5 {l:List UInt8} (h:decL l=false):numL l=(0,3):=by unfold numL; rw [h]; rfl
theorem ya3 (l:List UInt8) : -9223372036854775808<=(numL l).1/\(numL l).1<=9223372036854775807:=by
 cases hd:decL l
 ·rw [zU5 hd]; decide
 ·rcases yp7 hd with ⟨d,rfl,hc⟩ | ⟨d,rfl,hc,hz⟩
  ·rw [zM0 hc]; split
   ·simp only; omega
   ·decide
  ·rw [zM1 hc hz]; split
   ·simp only; omega
   ·decide
end Go.Proofs.YtfgelheiknmjgaaGreatDoor.T1
namespace Go.Proofs.YtfgelheiknmjgaaGreatDoor
open Go.RowKit
def nuV (x:ByteArray):VT:=.mk 2 (T1.numL x.data.toList).1 ⟨#[]⟩ [] []
def zo0 (w:World) (p:Nat) (n len:Nat) (r:Except Er (VT × List Tk × Nat)) (e:Ending) (w':World):Prop :=
 (∃ t ts m v,r=.ok (t,ts,m)/\e=.returned v/\RdS w' (fun b=>w.heap.size<=b/\b<w'.heap.size) v t/\PSt w' p ts m/\Tw p w.heap.size w w'/\n<=m/\m<=4096/\ts.length<len)∨(∃ x,r=.error x/\e=badV x/\Tw p w.heap.size w w')
theorem bv_ok {lv:Nat} {ts:List Tk} {n:Nat} (h:bvR lv ts n=.ok ()):isVal ts=true/\lv<=24/\n+1<=4096:=by
 unfold bvR at h
 cases hv:isVal ts with
 | false=>rw [hv,if_pos rfl] at h; cases h
 | true =>
   rw [hv,if_neg (by decide)] at h;by_cases h1:24<lv
   ·rw [if_pos h1] at h; cases h
   rw [if_neg h1] at h;by_cases h2:4096<n+1
   ·rw [if_pos h2] at h; cases h
   exact ⟨rfl,by omega,by omega⟩
theorem zR0 {k:Int} {tx:List UInt8} {i:Nat} {r:List Tk} (h:isVal ((k,tx,i)::r)=true):k=2∨k=3∨k=4∨(k=1/\tx=[91])∨(k=1/\tx=[123]):=by
 simp [isVal,hd,isSg] at h
 rcases h with h | h | h | h | h
 ·exact .inl h
 ·exact .inr (.inl h)
 ·exact .inr (.inr (.inl h))
 ·exact .inr (.inr (.inr (.inl h)))
 ·exact .inr (.inr (.inr (.inr h)))
theorem yh3 (p lv:Nat) (w:World) (tx:List UInt8) (i:Nat) (r:List Tk) (n:Nat) (h:PSt w p ((2,tx,i)::r) n) (hn:n<=4096) (hbv:bvR lv ((2,tx,i)::r) n=.ok ()):Calls Tryz.prog 235 #[pP p,.int .i64 lv] w (zh0 w p n (r.length+1) (.ok (nmV ⟨tx.toArray⟩,r,n+1))):=by
 have hpw:=h.lt;have hlen:=(h.good.ok _ (List.mem_cons_self ..)).len;obtain ⟨_,hl24,hn1⟩:=bv_ok hbv;have hlvb:(lv:Int)<=24:=by omega
 have HBE:Hid (∀ W,PSt W p ((2,tx,i)::r) n->Calls Tryz.prog 256 #[pP p,.int .i64 lv] W (fun e w'=>e=.returned (.tuple #[])/\PSt w' p ((2,tx,i)::r) (n+1)/\Tw p W.heap.size W w')):=Lh (fun W hW=>(ze1 hW hn lv _ rfl).mono (by
  rintro e w' (⟨_,he,h1,h2⟩ | ⟨z,hz,_⟩)
  ·exact ⟨he,h1,h2⟩
  ·rw [hbv] at hz; cases hz))
 have HTK:Hid (∀ W,PSt W p ((2,tx,i)::r) (n+1)->Calls Tryz.prog 111 #[pP p] W (fun e w'=>e=.returned (.agg #[.int .i64 (2),.string ⟨tx.toArray⟩,.int .i64 i])/\PSt w' p r (n+1)/\Tw p W.heap.size W w')):=Lh (fun W hW=>ze0 hW (by show (2:Int)≠5; decide));have HP0:Hid (PSt (w.alloc (.cells #[.int .i64 0,.int .i64 0,.string ⟨#[]⟩,.slice none 0 0,.slice none 0 0] 53 (0,0))) p ((2,tx,i)::r) n):=Lh (h.stay (za0 _ _));have HR0:Hid (Bk (w.alloc (.cells #[.int .i64 0,.int .i64 0,.string ⟨#[]⟩,.slice none 0 0,.slice none 0 0] 53 (0,0))) w.heap.size #[.int .i64 0,.int .i64 0,.string ⟨#[]⟩,.slice none 0 0,.slice none 0 0] 53):=Lh (Bk.new _ _ _);have HT0:Hid (Tw p w.heap.size w (w.alloc (.cells #[.int .i64 0,.int .i64 0,.string ⟨#[]⟩,.slice none 0 0,.slice none 0 0] 53 (0,0)))):=Lh (.of (za0 _ _));have hsz:w.heap.size<(w.alloc (.cells #[.int .i64 0,.int .i64 0,.string ⟨#[]⟩,.slice none 0 0,.slice none 0 0] 53 (0,0))).heap.size:=by simp
 have hxl:(⟨tx.toArray⟩ : ByteArray).size<=1000000:=hlen;clear h hbv hlen;generalize (⟨tx.toArray⟩ : ByteArray)=tb at *;have HXL:=Lh hxl;clear hxl
 go_enter Tryz.func235, Tryz.ntmps235
 go_wp2_with fail
 refine (HBE.out _ HP0.out).mono ?_
 rintro e w1 ⟨rfl,hp,ht⟩;have HP1:=Lh hp;have hR1:=HR0.out.far ht (by omega);have HR1:=Lh hR1;have HT1:=Lh (HT0.out.step HT0.out.size ht);have hs1:=ht.size;clear hp ht hR1;go_wp2_with fail;refine (HTK.out _ HP1.out).mono ?_
 rintro e w2 ⟨rfl,hp,ht⟩;have HP2:Hid (PSt (w2.alloc (.cells #[.int .i64 (2),.string tb,.int .i64 i] 99 (0,0))) p r (n+1)):=Lh (hp.stay (za0 _ _));have hR2:=(HR1.out.far ht (by omega)).stay (za0 w2 (.cells #[.int .i64 (2),.string tb,.int .i64 i] 99 (0,0)));have HR2:=Lh hR2;have HT2:Hid (Tw p w.heap.size w (w2.alloc (.cells #[.int .i64 (2),.string tb,.int .i64 i] 99 (0,0)))):=Lh ((HT1.out.step (Nat.le_trans HT0.out.size hs1) ht).alloc (by have:=ht.size; omega) _);have hs2:=ht.size;clear hp ht hR2;go_wp2_with fail;refine (zZ8 tb HXL.out _).mono ?_
 rintro e w3 ⟨⟨k1,n1,s1,rfl,hnm,hk1,hn1',hs1'⟩,hb⟩;have HNM:=Lh hnm;have HK1:=Lh hk1;have HN1:=Lh hn1';have HS1:=Lh hs1';clear hnm hk1 hn1' hs1';have HP3:=Lh (HP2.out.stay hb);have hR3:=HR2.out.stay hb;have HT3:=Lh (HT2.out.step HT2.out.size (.of hb));have hs3:=hb.size;clear hb;obtain ⟨z0,z1,z2,z3,z4⟩:=hR3.c5;have g0:=hR3.frz 0;have g1:=hR3.frz 1;have g2:=hR3.frz 2;have g3:=hR3.frz 3;have g4:=hR3.frz 4;have HR3:=Lh hR3;clear hR3;go_wp2_with fail;have HZ:=Lh (((((HR3.out.setl (l:=[_,_,_,_,_]) 0 (.int .i64 k1)).setl 1 (.int .i64 n1)).setl 2 (.string s1)).setl 3 (.slice none 0 0)).setl 4 (.slice none 0 0));obtain ⟨y0,y1,y2,y3,y4⟩:=HZ.out.c5;refine bodyPost_ret (v:=.agg #[.int .i64 k1,.int .i64 n1,.string s1,.slice none 0 0,.slice none 0 0]) (by simp [results,Tryz.results235,go_sem,y0,y1,y2,y3,y4]) rfl (.inl ⟨.mk k1 n1 s1 [] [],_,_,_,by rw [HNM.out],rfl, ?_, ?_, ?_,Nat.lt_succ_self _,hn1,Nat.lt_succ_self _⟩)
 ·exact zu4 _ _ _ _ _ HK1.out HN1.out (by have:=HS1.out; omega)
 ·exact HP3.out.same ((((((Below.refl (p+1) w3).setCell (p:=⟨w.heap.size,0,none⟩) (by show p+1<=w.heap.size; omega) _).setCell (p:=⟨w.heap.size,1,none⟩) (by show p+1<=w.heap.size; omega) _).setCell (p:=⟨w.heap.size,2,none⟩) (by show p+1<=w.heap.size; omega) _).setCell (p:=⟨w.heap.size,3,none⟩) (by show p+1<=w.heap.size; omega) _).setCell (p:=⟨w.heap.size,4,none⟩) (by show p+1<=w.heap.size; omega) _)
 ·exact ((((HT3.out.setNew (Nat.le_refl _) 0 _).setNew (Nat.le_refl _) 1 _).setNew (Nat.le_refl _) 2 _).setNew (Nat.le_refl _) 3 _).setNew (Nat.le_refl _) 4 _
theorem pval_int (p lv:Nat) (w:World) (tx:List UInt8) (i:Nat) (r:List Tk) (n:Nat) (h:PSt w p ((3,tx,i)::r) n) (hn:n<=4096) (hbv:bvR lv ((3,tx,i)::r) n=.ok ()):Calls Tryz.prog 235 #[pP p,.int .i64 lv] w (zh0 w p n (r.length+1) (.ok (nuV ⟨tx.toArray⟩,r,n+1))):=by
 have hpw:=h.lt;have hlen:=(h.good.ok _ (List.mem_cons_self ..)).len;obtain ⟨_,hl24,hn1⟩:=bv_ok hbv;have hlvb:(lv:Int)<=24:=by omega
 have HBE:Hid (∀ W,PSt W p ((3,tx,i)::r) n->Calls Tryz.prog 256 #[pP p,.int .i64 lv] W (fun e w'=>e=.returned (.tuple #[])/\PSt w' p ((3,tx,i)::r) (n+1)/\Tw p W.heap.size W w')):=Lh (fun W hW=>(ze1 hW hn lv _ rfl).mono (by
  rintro e w' (⟨_,he,h1,h2⟩ | ⟨z,hz,_⟩)
  ·exact ⟨he,h1,h2⟩
  ·rw [hbv] at hz; cases hz))
 have HTK:Hid (∀ W,PSt W p ((3,tx,i)::r) (n+1)->Calls Tryz.prog 111 #[pP p] W (fun e w'=>e=.returned (.agg #[.int .i64 (3),.string ⟨tx.toArray⟩,.int .i64 i])/\PSt w' p r (n+1)/\Tw p W.heap.size W w')):=Lh (fun W hW=>ze0 hW (by show (3:Int)≠5; decide));have HP0:Hid (PSt (w.alloc (.cells #[.int .i64 0,.int .i64 0,.string ⟨#[]⟩,.slice none 0 0,.slice none 0 0] 53 (0,0))) p ((3,tx,i)::r) n):=Lh (h.stay (za0 _ _));have HR0:Hid (Bk (w.alloc (.cells #[.int .i64 0,.int .i64 0,.string ⟨#[]⟩,.slice none 0 0,.slice none 0 0] 53 (0,0))) w.heap.size #[.int .i64 0,.int .i64 0,.string ⟨#[]⟩,.slice none 0 0,.slice none 0 0] 53):=Lh (Bk.new _ _ _);have HT0:Hid (Tw p w.heap.size w (w.alloc (.cells #[.int .i64 0,.int .i64 0,.string ⟨#[]⟩,.slice none 0 0,.slice none 0 0] 53 (0,0)))):=Lh (.of (za0 _ _));have hsz:w.heap.size<(w.alloc (.cells #[.int .i64 0,.int .i64 0,.string ⟨#[]⟩,.slice none 0 0,.slice none 0 0] 53 (0,0))).heap.size:=by simp
 have hxl:(⟨tx.toArray⟩ : ByteArray).size<=1000000:=hlen;clear h hbv hlen;generalize (⟨tx.toArray⟩ : ByteArray)=tb at *;have HXL:=Lh hxl;clear hxl;obtain ⟨qa,qb,hq⟩ : ∃ a b,T1.numL tb.data.toList=(a,b):=⟨_,_,rfl⟩;have HQ:Hid (nuV tb=.mk 2 qa ⟨#[]⟩ [] []):=Lh (by unfold nuV; rw [hq]);have HQB:Hid (small qa):=Lh (by have hh:=T1.ya3 tb.data.toList; rw [hq] at hh; exact hh);have HNUM:Hid (∀ W,T1.Laid W->Calls Tryz.prog 157 #[.string tb] W (fun e w'=>e=.returned (.tuple #[.int .i64 qa,.int .i64 qb])/\Below W.heap.size W w')):=Lh (fun W hW=>by have hh:=T1.zE5 tb W hW (by have:=HXL.out; omega); rw [hq] at hh; exact hh);clear hq
 go_enter Tryz.func235, Tryz.ntmps235
 go_wp2_with fail
 refine (HBE.out _ HP0.out).mono ?_
 rintro e w1 ⟨rfl,hp,ht⟩;have HP1:=Lh hp;have hR1:=HR0.out.far ht (by omega);have HR1:=Lh hR1;have HT1:=Lh (HT0.out.step HT0.out.size ht);have hs1:=ht.size;clear hp ht hR1;go_wp2_with fail;refine (HTK.out _ HP1.out).mono ?_
 rintro e w2 ⟨rfl,hp,ht⟩;have HP2:Hid (PSt (w2.alloc (.cells #[.int .i64 (3),.string tb,.int .i64 i] 99 (0,0))) p r (n+1)):=Lh (hp.stay (za0 _ _));have hR2:=(HR1.out.far ht (by omega)).stay (za0 w2 (.cells #[.int .i64 (3),.string tb,.int .i64 i] 99 (0,0)));have HR2:=Lh hR2;have HT2:Hid (Tw p w.heap.size w (w2.alloc (.cells #[.int .i64 (3),.string tb,.int .i64 i] 99 (0,0)))):=Lh ((HT1.out.step (Nat.le_trans HT0.out.size hs1) ht).alloc (by have:=ht.size; omega) _);have hs2:=ht.size;clear hp ht hR2;go_wp2_with fail;refine (HNUM.out _ (HP2.out.laid _ (Below.refl _ _))).mono ?_
 rintro e w2b ⟨rfl,hb⟩;have HP2b:=Lh (HP2.out.stay hb);have HR2b:=Lh (HR2.out.stay hb);have HT2b:=Lh (HT2.out.step HT2.out.size (.of hb));clear hb;go_wp2_with fail;refine (int_any qa _).mono ?_
 rintro e w3 ⟨rfl,hb⟩;have HP3:=Lh (HP2b.out.stay hb);have hR3:=HR2b.out.stay hb;have HT3:=Lh (HT2b.out.step HT2b.out.size (.of hb));have hs3:=hb.size;clear hb;obtain ⟨z0,z1,z2,z3,z4⟩:=hR3.c5;have g0:=hR3.frz 0;have g1:=hR3.frz 1;have g2:=hR3.frz 2;have g3:=hR3.frz 3;have g4:=hR3.frz 4;have HR3:=Lh hR3;clear hR3;go_wp2_with fail;have HZ:=Lh (((((HR3.out.setl (l:=[_,_,_,_,_]) 0 (.int .i64 2)).setl 1 (.int .i64 qa)).setl 2 (.string ⟨#[]⟩)).setl 3 (.slice none 0 0)).setl 4 (.slice none 0 0));obtain ⟨y0,y1,y2,y3,y4⟩:=HZ.out.c5;refine bodyPost_ret (v:=.agg #[.int .i64 2,.int .i64 qa,.string ⟨#[]⟩,.slice none 0 0,.slice none 0 0]) (by simp [results,Tryz.results235,go_sem,y0,y1,y2,y3,y4]) rfl (.inl ⟨.mk 2 qa ⟨#[]⟩ [] [],_,_,_,by rw [HQ.out],rfl, ?_, ?_, ?_,Nat.lt_succ_self _,hn1,Nat.lt_succ_self _⟩)
 ·exact zu4 _ _ _ _ _ (by unfold small; omega) HQB.out (by decide)
 ·exact HP3.out.same ((((((Below.refl (p+1) w3).setCell (p:=⟨w.heap.size,0,none⟩) (by show p+1<=w.heap.size; omega) _).setCell (p:=⟨w.heap.size,1,none⟩) (by show p+1<=w.heap.size; omega) _).setCell (p:=⟨w.heap.size,2,none⟩) (by show p+1<=w.heap.size; omega) _).setCell (p:=⟨w.heap.size,3,none⟩) (by show p+1<=w.heap.size; omega) _).setCell (p:=⟨w.heap.size,4,none⟩) (by show p+1<=w.heap.size; omega) _)
 ·exact ((((HT3.out.setNew (Nat.le_refl _) 0 _).setNew (Nat.le_refl _) 1 _).setNew (Nat.le_refl _) 2 _).setNew (Nat.le_refl _) 3 _).setNew (Nat.le_refl _) 4 _
theorem yh2 (p lv:Nat) (w:World) (tx:List UInt8) (i:Nat) (r:List Tk) (n:Nat) (h:PSt w p ((4,tx,i)::r) n) (hn:n<=4096) (hbv:bvR lv ((4,tx,i)::r) n=.ok ()):Calls Tryz.prog 235 #[pP p,.int .i64 lv] w (zh0 w p n (r.length+1) (.ok (.mk 3 0 ⟨tx.toArray⟩ [] [],r,n+1))):=by
 have hpw:=h.lt;have hlen:=(h.good.ok _ (List.mem_cons_self ..)).len;obtain ⟨_,hl24,hn1⟩:=bv_ok hbv;have hlvb:(lv:Int)<=24:=by omega
 have HBE:Hid (∀ W,PSt W p ((4,tx,i)::r) n->Calls Tryz.prog 256 #[pP p,.int .i64 lv] W (fun e w'=>e=.returned (.tuple #[])/\PSt w' p ((4,tx,i)::r) (n+1)/\Tw p W.heap.size W w')):=Lh (fun W hW=>(ze1 hW hn lv _ rfl).mono (by
  rintro e w' (⟨_,he,h1,h2⟩ | ⟨z,hz,_⟩)
  ·exact ⟨he,h1,h2⟩
  ·rw [hbv] at hz; cases hz))
 have HTK:Hid (∀ W,PSt W p ((4,tx,i)::r) (n+1)->Calls Tryz.prog 111 #[pP p] W (fun e w'=>e=.returned (.agg #[.int .i64 (4),.string ⟨tx.toArray⟩,.int .i64 i])/\PSt w' p r (n+1)/\Tw p W.heap.size W w')):=Lh (fun W hW=>ze0 hW (by show (4:Int)≠5; decide));have HP0:Hid (PSt (w.alloc (.cells #[.int .i64 0,.int .i64 0,.string ⟨#[]⟩,.slice none 0 0,.slice none 0 0] 53 (0,0))) p ((4,tx,i)::r) n):=Lh (h.stay (za0 _ _));have HR0:Hid (Bk (w.alloc (.cells #[.int .i64 0,.int .i64 0,.string ⟨#[]⟩,.slice none 0 0,.slice none 0 0] 53 (0,0))) w.heap.size #[.int .i64 0,.int .i64 0,.string ⟨#[]⟩,.slice none 0 0,.slice none 0 0] 53):=Lh (Bk.new _ _ _);have HT0:Hid (Tw p w.heap.size w (w.alloc (.cells #[.int .i64 0,.int .i64 0,.string ⟨#[]⟩,.slice none 0 0,.slice none 0 0] 53 (0,0)))):=Lh (.of (za0 _ _));have hsz:w.heap.size<(w.alloc (.cells #[.int .i64 0,.int .i64 0,.string ⟨#[]⟩,.slice none 0 0,.slice none 0 0] 53 (0,0))).heap.size:=by simp
 have hxl:(⟨tx.toArray⟩ : ByteArray).size<=1000000:=hlen;clear h hbv hlen;generalize (⟨tx.toArray⟩ : ByteArray)=tb at *;have HXL:=Lh hxl;clear hxl
 go_enter Tryz.func235, Tryz.ntmps235
 go_wp2_with fail
 refine (HBE.out _ HP0.out).mono ?_
 rintro e w1 ⟨rfl,hp,ht⟩;have HP1:=Lh hp;have hR1:=HR0.out.far ht (by omega);have HR1:=Lh hR1;have HT1:=Lh (HT0.out.step HT0.out.size ht);have hs1:=ht.size;clear hp ht hR1;go_wp2_with fail;refine (HTK.out _ HP1.out).mono ?_
 rintro e w2 ⟨rfl,hp,ht⟩;have HP2:Hid (PSt (w2.alloc (.cells #[.int .i64 (4),.string tb,.int .i64 i] 99 (0,0))) p r (n+1)):=Lh (hp.stay (za0 _ _));have hR2:=(HR1.out.far ht (by omega)).stay (za0 w2 (.cells #[.int .i64 (4),.string tb,.int .i64 i] 99 (0,0)));have HR2:=Lh hR2;have HT2:Hid (Tw p w.heap.size w (w2.alloc (.cells #[.int .i64 (4),.string tb,.int .i64 i] 99 (0,0)))):=Lh ((HT1.out.step (Nat.le_trans HT0.out.size hs1) ht).alloc (by have:=ht.size; omega) _);have hs2:=ht.size;clear hp ht hR2;go_wp2_with fail;refine (text_any tb _).mono ?_
 rintro e w3 ⟨rfl,hb⟩;have HP3:=Lh (HP2.out.stay hb);have hR3:=HR2.out.stay hb;have HT3:=Lh (HT2.out.step HT2.out.size (.of hb));have hs3:=hb.size;clear hb;obtain ⟨z0,z1,z2,z3,z4⟩:=hR3.c5;have g0:=hR3.frz 0;have g1:=hR3.frz 1;have g2:=hR3.frz 2;have g3:=hR3.frz 3;have g4:=hR3.frz 4;have HR3:=Lh hR3;clear hR3;go_wp2_with fail;have HZ:=Lh (((((HR3.out.setl (l:=[_,_,_,_,_]) 0 (.int .i64 3)).setl 1 (.int .i64 0)).setl 2 (.string tb)).setl 3 (.slice none 0 0)).setl 4 (.slice none 0 0));obtain ⟨y0,y1,y2,y3,y4⟩:=HZ.out.c5;refine bodyPost_ret (v:=.agg #[.int .i64 3,.int .i64 0,.string tb,.slice none 0 0,.slice none 0 0]) (by simp [results,Tryz.results235,go_sem,y0,y1,y2,y3,y4]) rfl (.inl ⟨_,_,_,_,rfl,rfl, ?_, ?_, ?_,Nat.lt_succ_self _,hn1,Nat.lt_succ_self _⟩)
 ·exact zu4 _ _ _ _ _ (by unfold small; omega) (by unfold small; omega) (by have:=HXL.out; omega)
 ·exact HP3.out.same ((((((Below.refl (p+1) w3).setCell (p:=⟨w.heap.size,0,none⟩) (by show p+1<=w.heap.size; omega) _).setCell (p:=⟨w.heap.size,1,none⟩) (by show p+1<=w.heap.size; omega) _).setCell (p:=⟨w.heap.size,2,none⟩) (by show p+1<=w.heap.size; omega) _).setCell (p:=⟨w.heap.size,3,none⟩) (by show p+1<=w.heap.size; omega) _).setCell (p:=⟨w.heap.size,4,none⟩) (by show p+1<=w.heap.size; omega) _)
 ·exact ((((HT3.out.setNew (Nat.le_refl _) 0 _).setNew (Nat.le_refl _) 1 _).setNew (Nat.le_refl _) 2 _).setNew (Nat.le_refl _) 3 _).setNew (Nat.le_refl _) 4 _
theorem yh4 (p lv:Nat) (L:List Tk->Nat->Except Er (VT × List Tk × Nat)) (hL:∀ (W:World) (ts:List Tk) (m:Nat),PSt W p ts m->m<=4096->Calls Tryz.prog 260 #[pP p,.int .i64 lv] W (zo0 W p m ts.length (L ts m))) (w:World) (i:Nat) (r:List Tk) (n:Nat) (h:PSt w p ((1,[91],i)::r) n) (hn:n<=4096) (hbv:bvR lv ((1,[91],i)::r) n=.ok ()):Calls Tryz.prog 235 #[pP p,.int .i64 lv] w (zh0 w p n (r.length+1) (L r (n+1))):=by
 have hpw:=h.lt;have hlen:=(h.good.ok _ (List.mem_cons_self ..)).len;obtain ⟨_,hl24,hn1⟩:=bv_ok hbv;have hlvb:(lv:Int)<=24:=by omega
 have HBE:Hid (∀ W,PSt W p ((1,[91],i)::r) n->Calls Tryz.prog 256 #[pP p,.int .i64 lv] W (fun e w'=>e=.returned (.tuple #[])/\PSt w' p ((1,[91],i)::r) (n+1)/\Tw p W.heap.size W w')):=Lh (fun W hW=>(ze1 hW hn lv _ rfl).mono (by
  rintro e w' (⟨_,he,h1,h2⟩ | ⟨z,hz,_⟩)
  ·exact ⟨he,h1,h2⟩
  ·rw [hbv] at hz; cases hz))
 have HTK:Hid (∀ W,PSt W p ((1,[91],i)::r) (n+1)->Calls Tryz.prog 111 #[pP p] W (fun e w'=>e=.returned (.agg #[.int .i64 (1),.string ⟨#[91]⟩,.int .i64 i])/\PSt w' p r (n+1)/\Tw p W.heap.size W w')):=Lh (fun W hW=>ze0 hW (by show (1:Int)≠5; decide));have HL:=Lh hL;have HN1:=Lh hn1;clear hL;have HP0:Hid (PSt (w.alloc (.cells #[.int .i64 0,.int .i64 0,.string ⟨#[]⟩,.slice none 0 0,.slice none 0 0] 53 (0,0))) p ((1,[91],i)::r) n):=Lh (h.stay (za0 _ _));have HR0:Hid (Bk (w.alloc (.cells #[.int .i64 0,.int .i64 0,.string ⟨#[]⟩,.slice none 0 0,.slice none 0 0] 53 (0,0))) w.heap.size #[.int .i64 0,.int .i64 0,.string ⟨#[]⟩,.slice none 0 0,.slice none 0 0] 53):=Lh (Bk.new _ _ _);have HT0:Hid (Tw p w.heap.size w (w.alloc (.cells #[.int .i64 0,.int .i64 0,.string ⟨#[]⟩,.slice none 0 0,.slice none 0 0] 53 (0,0)))):=Lh (.of (za0 _ _));have hsz:w.heap.size<(w.alloc (.cells #[.int .i64 0,.int .i64 0,.string ⟨#[]⟩,.slice none 0 0,.slice none 0 0] 53 (0,0))).heap.size:=by simp
 clear h hbv hlen
 go_enter Tryz.func235, Tryz.ntmps235
 go_wp2_with fail
 refine (HBE.out _ HP0.out).mono ?_
 rintro e w1 ⟨rfl,hp,ht⟩;have HP1:=Lh hp;have hR1:=HR0.out.far ht (by omega);have HR1:=Lh hR1;have HT1:=Lh (HT0.out.step HT0.out.size ht);have hs1:=ht.size;clear hp ht hR1;go_wp2_with fail;refine (HTK.out _ HP1.out).mono ?_
 rintro e w2 ⟨rfl,hp,ht⟩;have HP2:Hid (PSt (w2.alloc (.cells #[.int .i64 (1),.string ⟨#[91]⟩,.int .i64 i] 99 (0,0))) p r (n+1)):=Lh (hp.stay (za0 _ _));have hR2:=(HR1.out.far ht (by omega)).stay (za0 w2 (.cells #[.int .i64 (1),.string ⟨#[91]⟩,.int .i64 i] 99 (0,0)));have HR2:=Lh hR2;have HT2:Hid (Tw p w.heap.size w (w2.alloc (.cells #[.int .i64 (1),.string ⟨#[91]⟩,.int .i64 i] 99 (0,0)))):=Lh ((HT1.out.step (Nat.le_trans HT0.out.size hs1) ht).alloc (by have:=ht.size; omega) _);have hs2:=ht.size;clear hp ht hR2;go_wp2_with fail;refine (HL.out _ r (n+1) HP2.out HN1.out).mono ?_
 rintro e w3 (⟨t,ts',m,v,hr,rfl,hx,hp,ht,hmm,hm4,hlt⟩ | ⟨x,hr,rfl,ht⟩);rotate_left
 ·have HT3:=Lh (HT2.out.step HT2.out.size ht)
  exact ⟨rfl,.inr ⟨_,hr,rfl,HT3.out⟩⟩
 obtain ⟨k1,n1,s1,A,li,ci,KA,lk,ck,hv1⟩:=RdS.form hx;subst hv1;have HRR:=Lh hr;have HM:Hid (n+1<=m/\m<=4096/\ts'.length<r.length):=Lh ⟨hmm,hm4,hlt⟩;have HX:=Lh hx;have HP3:=Lh hp;have hR3:=HR2.out.far ht (by omega);have HT3:=Lh (HT2.out.step HT2.out.size ht);have hs3:=ht.size;clear hr hmm hm4 hlt hx hp ht;obtain ⟨z0,z1,z2,z3,z4⟩:=hR3.c5;have g0:=hR3.frz 0;have g1:=hR3.frz 1;have g2:=hR3.frz 2;have g3:=hR3.frz 3;have g4:=hR3.frz 4;have HR3:=Lh hR3;clear hR3;go_wp2_with fail;have HZ:=Lh (((((HR3.out.setl (l:=[_,_,_,_,_]) 0 (.int .i64 k1)).setl 1 (.int .i64 n1)).setl 2 (.string s1)).setl 3 (.slice A li ci)).setl 4 (.slice KA lk ck));obtain ⟨y0,y1,y2,y3,y4⟩:=HZ.out.c5;refine bodyPost_ret (v:=.agg #[.int .i64 k1,.int .i64 n1,.string s1,.slice A li ci,.slice KA lk ck]) (by simp [results,Tryz.results235,go_sem,y0,y1,y2,y3,y4]) rfl (.inl ⟨t,_,_,_,HRR.out,rfl, ?_, ?_, ?_,by have:=HM.out.1; omega,HM.out.2.1,by have:=HM.out.2.2; omega⟩)
 ·have hlt:=HR2.out.lt
  refine RdS.kept HX.out (fun b hb=>?_) (fun b hb=>⟨by have:=hb.1; omega,by simp [World.setCell]; exact hb.2⟩)
  have hne:b≠w.heap.size:=by have:=hb.1; omega
  rw [Below.heap_setCell _ _ _ _ hne,Below.heap_setCell _ _ _ _ hne,Below.heap_setCell _ _ _ _ hne,Below.heap_setCell _ _ _ _ hne,Below.heap_setCell _ _ _ _ hne]
 ·exact HP3.out.same ((((((Below.refl (p+1) w3).setCell (p:=⟨w.heap.size,0,none⟩) (by show p+1<=w.heap.size; omega) _).setCell (p:=⟨w.heap.size,1,none⟩) (by show p+1<=w.heap.size; omega) _).setCell (p:=⟨w.heap.size,2,none⟩) (by show p+1<=w.heap.size; omega) _).setCell (p:=⟨w.heap.size,3,none⟩) (by show p+1<=w.heap.size; omega) _).setCell (p:=⟨w.heap.size,4,none⟩) (by show p+1<=w.heap.size; omega) _)
 ·exact ((((HT3.out.setNew (Nat.le_refl _) 0 _).setNew (Nat.le_refl _) 1 _).setNew (Nat.le_refl _) 2 _).setNew (Nat.le_refl _) 3 _).setNew (Nat.le_refl _) 4 _
theorem zQ0 (p lv:Nat) (L:List Tk->Nat->Except Er (VT × List Tk × Nat)) (hL:∀ (W:World) (ts:List Tk) (m:Nat),PSt W p ts m->m<=4096->Calls Tryz.prog 261 #[pP p,.int .i64 lv] W (zo0 W p m ts.length (L ts m))) (w:World) (i:Nat) (r:List Tk) (n:Nat) (h:PSt w p ((1,[123],i)::r) n) (hn:n<=4096) (hbv:bvR lv ((1,[123],i)::r) n=.ok ()):Calls Tryz.prog 235 #[pP p,.int .i64 lv] w (zh0 w p n (r.length+1) (L r (n+1))):=by
 have hpw:=h.lt;have hlen:=(h.good.ok _ (List.mem_cons_self ..)).len;obtain ⟨_,hl24,hn1⟩:=bv_ok hbv;have hlvb:(lv:Int)<=24:=by omega
 have HBE:Hid (∀ W,PSt W p ((1,[123],i)::r) n->Calls Tryz.prog 256 #[pP p,.int .i64 lv] W (fun e w'=>e=.returned (.tuple #[])/\PSt w' p ((1,[123],i)::r) (n+1)/\Tw p W.heap.size W w')):=Lh (fun W hW=>(ze1 hW hn lv _ rfl).mono (by
  rintro e w' (⟨_,he,h1,h2⟩ | ⟨z,hz,_⟩)
  ·exact ⟨he,h1,h2⟩
  ·rw [hbv] at hz; cases hz))
 have HTK:Hid (∀ W,PSt W p ((1,[123],i)::r) (n+1)->Calls Tryz.prog 111 #[pP p] W (fun e w'=>e=.returned (.agg #[.int .i64 (1),.string ⟨#[123]⟩,.int .i64 i])/\PSt w' p r (n+1)/\Tw p W.heap.size W w')):=Lh (fun W hW=>ze0 hW (by show (1:Int)≠5; decide));have HL:=Lh hL;have HN1:=Lh hn1;clear hL;have HP0:Hid (PSt (w.alloc (.cells #[.int .i64 0,.int .i64 0,.string ⟨#[]⟩,.slice none 0 0,.slice none 0 0] 53 (0,0))) p ((1,[123],i)::r) n):=Lh (h.stay (za0 _ _));have HR0:Hid (Bk (w.alloc (.cells #[.int .i64 0,.int .i64 0,.string ⟨#[]⟩,.slice none 0 0,.slice none 0 0] 53 (0,0))) w.heap.size #[.int .i64 0,.int .i64 0,.string ⟨#[]⟩,.slice none 0 0,.slice none 0 0] 53):=Lh (Bk.new _ _ _);have HT0:Hid (Tw p w.heap.size w (w.alloc (.cells #[.int .i64 0,.int .i64 0,.string ⟨#[]⟩,.slice none 0 0,.slice none 0 0] 53 (0,0)))):=Lh (.of (za0 _ _));have hsz:w.heap.size<(w.alloc (.cells #[.int .i64 0,.int .i64 0,.string ⟨#[]⟩,.slice none 0 0,.slice none 0 0] 53 (0,0))).heap.size:=by simp
 clear h hbv hlen
 go_enter Tryz.func235, Tryz.ntmps235
 go_wp2_with fail
 refine (HBE.out _ HP0.out).mono ?_
 rintro e w1 ⟨rfl,hp,ht⟩;have HP1:=Lh hp;have hR1:=HR0.out.far ht (by omega);have HR1:=Lh hR1;have HT1:=Lh (HT0.out.step HT0.out.size ht);have hs1:=ht.size;clear hp ht hR1;go_wp2_with fail;refine (HTK.out _ HP1.out).mono ?_
 rintro e w2 ⟨rfl,hp,ht⟩;have HP2:Hid (PSt (w2.alloc (.cells #[.int .i64 (1),.string ⟨#[123]⟩,.int .i64 i] 99 (0,0))) p r (n+1)):=Lh (hp.stay (za0 _ _));have hR2:=(HR1.out.far ht (by omega)).stay (za0 w2 (.cells #[.int .i64 (1),.string ⟨#[123]⟩,.int .i64 i] 99 (0,0)));have HR2:=Lh hR2;have HT2:Hid (Tw p w.heap.size w (w2.alloc (.cells #[.int .i64 (1),.string ⟨#[123]⟩,.int .i64 i] 99 (0,0)))):=Lh ((HT1.out.step (Nat.le_trans HT0.out.size hs1) ht).alloc (by have:=ht.size; omega) _);have hs2:=ht.size;clear hp ht hR2;go_wp2_with fail;refine (HL.out _ r (n+1) HP2.out HN1.out).mono ?_
 rintro e w3 (⟨t,ts',m,v,hr,rfl,hx,hp,ht,hmm,hm4,hlt⟩ | ⟨x,hr,rfl,ht⟩);rotate_left
 ·have HT3:=Lh (HT2.out.step HT2.out.size ht)
  exact ⟨rfl,.inr ⟨_,hr,rfl,HT3.out⟩⟩
 obtain ⟨k1,n1,s1,A,li,ci,KA,lk,ck,hv1⟩:=RdS.form hx;subst hv1;have HRR:=Lh hr;have HM:Hid (n+1<=m/\m<=4096/\ts'.length<r.length):=Lh ⟨hmm,hm4,hlt⟩;have HX:=Lh hx;have HP3:=Lh hp;have hR3:=HR2.out.far ht (by omega);have HT3:=Lh (HT2.out.step HT2.out.size ht);have hs3:=ht.size;clear hr hmm hm4 hlt hx hp ht;obtain ⟨z0,z1,z2,z3,z4⟩:=hR3.c5;have g0:=hR3.frz 0;have g1:=hR3.frz 1;have g2:=hR3.frz 2;have g3:=hR3.frz 3;have g4:=hR3.frz 4;have HR3:=Lh hR3;clear hR3;go_wp2_with fail;have HZ:=Lh (((((HR3.out.setl (l:=[_,_,_,_,_]) 0 (.int .i64 k1)).setl 1 (.int .i64 n1)).setl 2 (.string s1)).setl 3 (.slice A li ci)).setl 4 (.slice KA lk ck));obtain ⟨y0,y1,y2,y3,y4⟩:=HZ.out.c5;refine bodyPost_ret (v:=.agg #[.int .i64 k1,.int .i64 n1,.string s1,.slice A li ci,.slice KA lk ck]) (by simp [results,Tryz.results235,go_sem,y0,y1,y2,y3,y4]) rfl (.inl ⟨t,_,_,_,HRR.out,rfl, ?_, ?_, ?_,by have:=HM.out.1; omega,HM.out.2.1,by have:=HM.out.2.2; omega⟩)
 ·have hlt:=HR2.out.lt
  refine RdS.kept HX.out (fun b hb=>?_) (fun b hb=>⟨by have:=hb.1; omega,by simp [World.setCell]; exact hb.2⟩)
  have hne:b≠w.heap.size:=by have:=hb.1; omega
  rw [Below.heap_setCell _ _ _ _ hne,Below.heap_setCell _ _ _ _ hne,Below.heap_setCell _ _ _ _ hne,Below.heap_setCell _ _ _ _ hne,Below.heap_setCell _ _ _ _ hne]
 ·exact HP3.out.same ((((((Below.refl (p+1) w3).setCell (p:=⟨w.heap.size,0,none⟩) (by show p+1<=w.heap.size; omega) _).setCell (p:=⟨w.heap.size,1,none⟩) (by show p+1<=w.heap.size; omega) _).setCell (p:=⟨w.heap.size,2,none⟩) (by show p+1<=w.heap.size; omega) _).setCell (p:=⟨w.heap.size,3,none⟩) (by show p+1<=w.heap.size; omega) _).setCell (p:=⟨w.heap.size,4,none⟩) (by show p+1<=w.heap.size; omega) _)
 ·exact ((((HT3.out.setNew (Nat.le_refl _) 0 _).setNew (Nat.le_refl _) 1 _).setNew (Nat.le_refl _) 2 _).setNew (Nat.le_refl _) 3 _).setNew (Nat.le_refl _) 4 _
abbrev ElT:=List Tk->Nat->Except Er (VT × List Tk × Nat)
def vaP (lv:Nat) (L O:ElT) (ts:List Tk) (n:Nat):Except Er (VT × List Tk × Nat):=exB (bvR lv ts n) fun _ =>
 if (hd ts).1=2 then .ok (nmV ⟨(hd ts).2.1.toArray⟩,ts.tail,n+1) else if (hd ts).1=3 then .ok (nuV ⟨(hd ts).2.1.toArray⟩,ts.tail,n+1) else if (hd ts).1=4 then .ok (.mk 3 0 ⟨(hd ts).2.1.toArray⟩ [] [],ts.tail,n+1) else if (hd ts).2.1=[91] then L ts.tail (n+1) else O ts.tail (n+1)
theorem pval_bad (p lv:Nat) (w:World) (ts:List Tk) (n:Nat) (z:Er) (h:PSt w p ts n) (hn:n<=4096) (hbv:bvR lv ts n=.error z):Calls Tryz.prog 235 #[pP p,.int .i64 lv] w (zh0 w p n ts.length (.error z)):=by
 have hpw:=h.lt;have HBE:Hid (∀ W,PSt W p ts n->Calls Tryz.prog 256 #[pP p,.int .i64 lv] W (fun e w'=>e=badV z/\Tw p W.heap.size W w')):=Lh (fun W hW=>(ze1 hW hn lv _ rfl).mono (by
  rintro e w' (⟨hz,_⟩ | ⟨z',hz,he,h2⟩)
  ·rw [hbv] at hz; cases hz
  ·rw [hbv] at hz; cases hz; exact ⟨he,h2⟩))
 have HP0:Hid (PSt (w.alloc (.cells #[.int .i64 0,.int .i64 0,.string ⟨#[]⟩,.slice none 0 0,.slice none 0 0] 53 (0,0))) p ts n):=Lh (h.stay (za0 _ _));have HT0:Hid (Tw p w.heap.size w (w.alloc (.cells #[.int .i64 0,.int .i64 0,.string ⟨#[]⟩,.slice none 0 0,.slice none 0 0] 53 (0,0)))):=Lh (.of (za0 _ _));clear h hbv
 go_enter Tryz.func235, Tryz.ntmps235
 go_wp2_with fail
 refine (HBE.out _ HP0.out).mono ?_
 rintro e w1 ⟨rfl,ht⟩;have HT1:=Lh (HT0.out.step HT0.out.size ht);clear ht;exact ⟨rfl,.inr ⟨_,rfl,rfl,HT1.out⟩⟩
theorem zE2 (p lv:Nat) (L O:ElT)
  (hL:lv<=24->∀ (W:World) (ts:List Tk) (m:Nat),PSt W p ts m->m<=4096->Calls Tryz.prog 260 #[pP p,.int .i64 lv] W (zo0 W p m ts.length (L ts m)))
  (hO:lv<=24->∀ (W:World) (ts:List Tk) (m:Nat),PSt W p ts m->m<=4096->Calls Tryz.prog 261 #[pP p,.int .i64 lv] W (zo0 W p m ts.length (O ts m)))
  (w:World) (ts:List Tk) (n:Nat) (h:PSt w p ts n) (hn:n<=4096):Calls Tryz.prog 235 #[pP p,.int .i64 lv] w (zh0 w p n ts.length (vaP lv L O ts n)):=by
 cases hbv:bvR lv ts n with
 | error z =>
   have e:vaP lv L O ts n=.error z:=za6 hbv;rw [e];exact pval_bad p lv w ts n z h hn hbv
 | ok u =>
   obtain ⟨hv,hl,_⟩:=bv_ok hbv;obtain ⟨⟨k,tx,i⟩,r,hts⟩:=h.good.ne;subst hts;have e:vaP lv L O ((k,tx,i)::r) n=if k=2 then .ok (nmV ⟨tx.toArray⟩,r,n+1) else if k=3 then .ok (nuV ⟨tx.toArray⟩,r,n+1) else if k=4 then .ok (.mk 3 0 ⟨tx.toArray⟩ [] [],r,n+1) else if tx=[91] then L r (n+1) else O r (n+1):=za2 hbv
   rw [e];rcases zR0 hv with rfl | rfl | rfl | ⟨rfl,rfl⟩ | ⟨rfl,rfl⟩
   ·exact yh3 p lv w tx i r n h hn hbv
   ·exact pval_int p lv w tx i r n h hn hbv
   ·exact yh2 p lv w tx i r n h hn hbv
   ·exact yh4 p lv L (hL hl) w i r n h hn hbv
   ·exact zQ0 p lv O (hO hl) w i r n h hn hbv
def lsV (el:ElT):ElT:=fun ts n=>exB (lsP el (ts.length+1) [] ts n) fun q=>.ok (.mk 5 0 ⟨#[]⟩ q.1 [],q.2.1,q.2.2)
theorem zZ9 (p lv:Nat) (el:ElT) (hel:∀ (W:World) (ts:List Tk) (m:Nat),PSt W p ts m->m<=4096->Calls Tryz.prog 235 #[pP p,.int .i64 ((lv:Int)+1)] W (zh0 W p m ts.length (el ts m))) (hlv:lv<=24)
  (w:World) (ts:List Tk) (n:Nat) (h:PSt w p ts n) (hn:n<=4096):Calls Tryz.prog 260 #[pP p,.int .i64 lv] w (zo0 w p n ts.length (lsV el ts n)):=by
 refine (yh6 p lv el hel hlv w ts n h hn).mono ?_
 rintro e w' (⟨l,ts',m,v,hr,he,hx,hp,ht,h1,h2,h3⟩ | ⟨x,hr,he,ht⟩)
 ·exact .inl ⟨_,ts',m,v,za2 hr,he,hx,hp,ht,h1,h2,h3⟩
 ·exact .inr ⟨x,za6 hr,he,ht⟩
def vF (O:ElT->ElT):Nat->Nat->ElT
 | 0,lv=>vaP lv (fun _ _=>.error (0,99)) (fun _ _=>.error (0,99))
 | f+1,lv=>vaP lv (lsV (vF O f (lv+1))) (O (vF O f (lv+1)))
theorem zP9 (p:Nat) (O:ElT->ElT)
  (hO:∀ (lv:Nat) (el:ElT),lv<=24->(∀ (W:World) (ts:List Tk) (m:Nat),PSt W p ts m->m<=4096->Calls Tryz.prog 235 #[pP p,.int .i64 ((lv:Int)+1)] W (zh0 W p m ts.length (el ts m)))->∀ (W:World) (ts:List Tk) (m:Nat),PSt W p ts m->m<=4096->Calls Tryz.prog 261 #[pP p,.int .i64 lv] W (zo0 W p m ts.length (O el ts m))) :
  ∀ (f lv:Nat),lv+f=25->∀ (W:World) (ts:List Tk) (m:Nat),PSt W p ts m->m<=4096->Calls Tryz.prog 235 #[pP p,.int .i64 lv] W (zh0 W p m ts.length (vF O f lv ts m)):=by
 intro f
 induction f with
 | zero=>exact fun lv hf W ts m h hm=>zE2 p lv _ _ (fun h24=>by omega) (fun h24=>by omega) W ts m h hm
 | succ f ih =>
   intro lv hf W ts m h hm;have hel:∀ (W:World) (ts:List Tk) (m:Nat),PSt W p ts m->m<=4096->Calls Tryz.prog 235 #[pP p,.int .i64 ((lv:Int)+1)] W (zh0 W p m ts.length (vF O f (lv+1) ts m)):=fun W ts m h hm=>by
    have hh:=ih (lv+1) (by omega) W ts m h hm;have e:(((lv+1:Nat)):Int)=(lv:Int)+1:=by omega
    rw [e] at hh;exact hh
   exact zE2 p lv _ _ (fun h24=>zZ9 p lv _ hel h24) (fun h24=>hO lv _ h24 hel) W ts m h hm
end Go.Proofs.YtfgelheiknmjgaaGreatDoor

