
/-
 Texts joined: S5 S6 KPrint Twice RNodeD RNodeA RNodeB RNodeC RNodeE RWholeL.
-/
import Derived.Test.YthjoelpfmimedaaGreatDoorZp25
import Derived.Test.YthjoelpfmimedaaGreatDoorZp6
import Derived.Test.YthjoelpfmimedaaGreatDoorZp20
import Derived.Lib.Join
import Derived.Test.YthjoelpfmimedaaGreatDoorZp8
import Derived.Test.YthjoelpfmimedaaGreatDoorZp7
import Derived.Test.YthjoelpfmimedaaGreatDoorZp21
namespace Go.Proofs.YthjoelpfmimedaaGreatDoor
open Go.RowKit
theorem rt_weak:∀ l:List Int,K.rtF true l = true → K.rtF false l = true
 | [],_ => rfl
 | x :: r,h => by
   rw [K.zv4] at h ⊢
   simp only [Bool.and_eq_true,Bool.or_eq_true,beq_iff_eq,Bool.not_true,Bool.false_eq_true,and_false,or_false] at h
   simp [h.1]
   have:=h.2
   rw [h.1] at this
   exact this
theorem rt_two (l:List Int) (p:Bool):K.rtF p (2 :: l) = K.rtF false l:=by rw [K.zv4]; simp
theorem rt_one (l:List Int):K.rtF false (1 :: l) = K.rtF true l:=by rw [K.zv4]; simp
theorem nn_g {xs:List Int} {ts:List Tk} (hg:TG ts) (h:K.rtF true xs.reverse = true):K.rtF false (nnP xs ts).1.reverse = true ∧ TG (nnP xs ts).2:=by
 unfold nnP
 split
 ·refine ⟨?_,hg.tail⟩
  show K.rtF false (xs ++ [1]).reverse = true
  rw [List.reverse_append]
  show K.rtF false (1 :: xs.reverse) = true
  rw [rt_one]; exact h
 ·exact ⟨rt_weak _ h,hg⟩
theorem cls_g:∀ (k:Nat) (xs:List Int) (ts:List Tk) (ys:List Int) (ts':List Tk),cls k xs ts = .ok (ys,ts') → TG ts → K.rtF false xs.reverse = true → K.rtF false ys.reverse = true ∧ TG ts'
 | 0,xs,ts,ys,ts',h,hg,hx => by rw [cls] at h; cases h; exact ⟨hx,hg⟩
 | k + 1,xs,ts,ys,ts',h,hg,hx => by
   rw [cls] at h
   obtain ⟨t1,h1,h⟩:=za2 h
   have h2:K.rtF true (xs ++ [2]).reverse = true:=by
    rw [List.reverse_append]
    show K.rtF true (2 :: xs.reverse) = true
    rw [rt_two]; exact hx
   obtain ⟨a,b⟩:=nn_g (sg_g hg h1) h2
   exact cls_g k _ _ _ _ h b a
theorem brk_g:∀ ts:List Tk,TG ts → TG (brk ts).2
 | [],_ => fun p hp => by cases hp
 | t :: r,h => by
   rw [brk]
   split
   ·exact brk_g r h.tail
   ·exact h
theorem ref_g {ts:List Tk} {x:ByteArray × List Int} {ts':List Tk} (hg:TG ts) (h:refP ts = .ok (x,ts')):K.okB x.1 x.2 = true ∧ TG ts':=by
 obtain ⟨q,h1,h⟩:=za2 h
 obtain ⟨r,h2,h⟩:=za2 h
 obtain ⟨a,b⟩:=nm_g (brk_g _ hg) (show nmR _ = .ok (q.1,q.2) from h1)
 obtain ⟨c,d⟩:=nn_g (xs:=[]) b rfl
 obtain ⟨e,f⟩:=cls_g _ _ _ _ _ (show cls _ _ _ = .ok (r.1,r.2) from h2) d c
 unfold refE at h
 split at h
 ·cases h
 ·next h24 =>
  cases h
  refine ⟨?_,f⟩
  have hn:T1.nameL q.1.data.toList = true:=a
  simp only [K.okB,hn,e,List.length_reverse,Bool.true_and,Bool.and_true,decide_eq_true_eq]
  omega
theorem inp_g:Gd inpX inpOk:=fun ts x ts' hg h => by
 obtain ⟨q,h1,h⟩:=za2 h
 obtain ⟨t1,h2,h⟩:=za2 h
 obtain ⟨r,h3,h⟩:=za2 h
 obtain ⟨a,b⟩:=nm_g hg (show nmR _ = .ok (q.1,q.2) from h1)
 obtain ⟨c,d⟩:=ref_g (sg_g b h2) (show refP _ = .ok (r.1,r.2) from h3)
 split at h
 ·obtain ⟨t,h4,h⟩:=za2 h
  obtain ⟨ds,h5,h⟩:=za2 h
  cases h
  obtain ⟨e,f⟩:=wv_g d.tail (show wvP _ = .ok (t.1,t.2) from h4)
  obtain ⟨g,i⟩:=zq2 f (show drsR dirX _ = .ok (ds.1,ds.2) from h5)
  exact ⟨by simp [inpOk,a,c,dflOk,e,g],i⟩
 ·obtain ⟨ds,h5,h⟩:=za2 h
  cases h
  obtain ⟨g,i⟩:=zq2 d (show drsR dirX _ = .ok (ds.1,ds.2) from h5)
  have hz:dflOk false zK1 = true:=by decide
  exact ⟨by simp [inpOk,a,c,hz,g],i⟩
theorem fldQ_g {nm:ByteArray} {gs:List InpT} (hn:nmA nm = true) (hgs:zx4 gs = true):Gd (fldQ refP dirX nm gs) fldOk:=fun ts x ts' hg h => by
 obtain ⟨t1,h2,h⟩:=za2 h
 obtain ⟨r,h3,h⟩:=za2 h
 obtain ⟨ds,h5,h⟩:=za2 h
 cases h
 obtain ⟨c,d⟩:=ref_g (sg_g hg h2) (show refP _ = .ok (r.1,r.2) from h3)
 obtain ⟨g,i⟩:=zq2 d (show drsR dirX _ = .ok (ds.1,ds.2) from h5)
 exact ⟨by simp [fldOk,hn,hgs,c,g],i⟩
theorem fld_g:Gd fldX fldOk:=fun ts x ts' hg h => by
 obtain ⟨q,h1,h⟩:=za2 h
 obtain ⟨a,b⟩:=nm_g hg (show nmR _ = .ok (q.1,q.2) from h1)
 split at h
 ·obtain ⟨r,h2,h⟩:=za2 h
  obtain ⟨⟨c,d,e⟩,g⟩:=bl_g inp_g b (show blR _ _ _ _ _ = .ok (r.1,r.2) from h2)
  exact fldQ_g a (zj6 (by omega) (by omega) c) _ _ _ g h
 ·exact fldQ_g a (zj6 (by simp) (by simp) (by simp)) _ _ _ b h
theorem mem_g:Gd memX zi1:=fun ts x ts' hg h => by
 obtain ⟨q,h1,h⟩:=za2 h
 obtain ⟨ds,h5,h⟩:=za2 h
 cases h
 obtain ⟨a,b⟩:=nm_g hg (show nmR _ = .ok (q.1,q.2) from h1)
 obtain ⟨g,i⟩:=zq2 b (show drsR dirX _ = .ok (ds.1,ds.2) from h5)
 exact ⟨by simp [zi1,a,g],i⟩
theorem imp_g {ts:List Tk} {l:List ByteArray} {ts':List Tk} (hg:TG ts) (h:impP ts = .ok (l,ts')):inB 0 64 l nmA = true ∧ TG ts':=by
 unfold impP at h
 split at h
 ·obtain ⟨⟨a,b,c⟩,d⟩:=nms_g _ _ _ _ _ h hg.tail (by simp) (by simp)
  exact ⟨zj6 (by omega) (by omega) a,d⟩
 ·cases h; exact ⟨zj6 (by simp) (by simp) (by simp),hg⟩
theorem uni_g {ts:List Tk} {l:List MemT} {ts':List Tk} (hg:TG ts) (h:uniP ts = .ok (l,ts')):inB 1 64 l zd4 = true ∧ TG ts':=by
 obtain ⟨t1,h2,h⟩:=za2 h
 obtain ⟨r,h3,h⟩:=za2 h
 cases h
 obtain ⟨⟨a,b,c⟩,d⟩:=nms_g _ _ _ _ _ (show nms _ _ _ _ = .ok (r.1,r.2) from h3) (sg_g hg h2) (by simp) (by simp)
 refine ⟨zj6 (by rw [List.length_map]; omega) (by rw [List.length_map]; omega) ?_,d⟩
 rw [List.all_map,List.all_eq_true]
 intro y hy
 have:=List.all_eq_true.1 a y hy
 simp [zd4,memOf,this]
end Go.Proofs.YthjoelpfmimedaaGreatDoor
namespace Go.Proofs.YthjoelpfmimedaaGreatDoor
open Go.RowKit
theorem zw9 {α:Type} (P : α → Bool) (b:Int) (hb:0 ≤ b):inB 0 b ([]:List α) P = true:=zj6 (by simp) (by simpa using hb) (by simp)
theorem def_g (k:Nat):Gd (defX k) defOk:=fun ts x ts' hg h => by
 unfold defX at h
 split at h
 ·obtain ⟨q,h1,h⟩:=za2 h
  obtain ⟨i,h2,h⟩:=za2 h
  obtain ⟨d,h3,h⟩:=za2 h
  obtain ⟨f,h4,h⟩:=za2 h
  cases h
  obtain ⟨a1,b1⟩:=nm_g hg.tail (show nmR _ = .ok (q.1,q.2) from h1)
  obtain ⟨a2,b2⟩:=imp_g b1 (show impP _ = .ok (i.1,i.2) from h2)
  obtain ⟨a3,b3⟩:=zq2 b2 (show drsR dirX _ = .ok (d.1,d.2) from h3)
  obtain ⟨⟨a4,c4,d4⟩,b4⟩:=bl_g fld_g b3 (show blR _ _ _ _ _ = .ok (f.1,f.2) from h4)
  have e4:inB 1 64 f.1 fldOk = true:=zj6 (by omega) (by omega) a4
  exact ⟨by simp [defOk,zb5,zk5,a1,a2,a3,e4,zw9],b4⟩
 split at h
 ·obtain ⟨q,h1,h⟩:=za2 h
  obtain ⟨d,h3,h⟩:=za2 h
  obtain ⟨f,h4,h⟩:=za2 h
  cases h
  obtain ⟨a1,b1⟩:=nm_g hg.tail (show nmR _ = .ok (q.1,q.2) from h1)
  obtain ⟨a3,b3⟩:=zq2 b1 (show drsR dirX _ = .ok (d.1,d.2) from h3)
  obtain ⟨⟨a4,c4,d4⟩,b4⟩:=bl_g fld_g b3 (show blR _ _ _ _ _ = .ok (f.1,f.2) from h4)
  have e4:inB 1 64 f.1 fldOk = true:=zj6 (by omega) (by omega) a4
  exact ⟨by simp [defOk,zb5,zk5,a1,a3,e4,zw9],b4⟩
 split at h
 ·obtain ⟨q,h1,h⟩:=za2 h
  obtain ⟨d,h3,h⟩:=za2 h
  obtain ⟨f,h4,h⟩:=za2 h
  cases h
  obtain ⟨a1,b1⟩:=nm_g hg.tail (show nmR _ = .ok (q.1,q.2) from h1)
  obtain ⟨a3,b3⟩:=zq2 b1 (show drsR dirX _ = .ok (d.1,d.2) from h3)
  obtain ⟨e4,b4⟩:=uni_g b3 (show uniP _ = .ok (f.1,f.2) from h4)
  exact ⟨by simp [defOk,zb5,zk5,a1,a3,e4,zw9],b4⟩
 split at h
 ·obtain ⟨q,h1,h⟩:=za2 h
  obtain ⟨d,h3,h⟩:=za2 h
  obtain ⟨f,h4,h⟩:=za2 h
  cases h
  obtain ⟨a1,b1⟩:=nm_g hg.tail (show nmR _ = .ok (q.1,q.2) from h1)
  obtain ⟨a3,b3⟩:=zq2 b1 (show drsR dirX _ = .ok (d.1,d.2) from h3)
  obtain ⟨⟨a4,c4,d4⟩,b4⟩:=bl_g mem_g b3 (show blR _ _ _ _ _ = .ok (f.1,f.2) from h4)
  have e4:inB 1 64 f.1 zi1 = true:=zj6 (by omega) (by omega) a4
  exact ⟨by simp [defOk,zb5,zk5,a1,a3,e4,zw9],b4⟩
 ·obtain ⟨q,h1,h⟩:=za2 h
  obtain ⟨d,h3,h⟩:=za2 h
  obtain ⟨f,h4,h⟩:=za2 h
  cases h
  obtain ⟨a1,b1⟩:=nm_g hg.tail (show nmR _ = .ok (q.1,q.2) from h1)
  obtain ⟨a3,b3⟩:=zq2 b1 (show drsR dirX _ = .ok (d.1,d.2) from h3)
  obtain ⟨⟨a4,c4,d4⟩,b4⟩:=bl_g inp_g b3 (show blR _ _ _ _ _ = .ok (f.1,f.2) from h4)
  have e4:inB 1 16 f.1 inpOk = true:=zj6 (by omega) (by omega) a4
  exact ⟨by simp [defOk,zb5,zk5,a1,a3,e4,zw9],b4⟩
theorem doc_g:∀ (f:Nat) (l:List DefT) (ts:List Tk) (l':List DefT) (ts':List Tk),docP defX f l ts = .ok (l',ts') → TG ts → l.all defOk = true → l.length ≤ 64 → docOk l' = true
 | 0,_,_,_,_,h,_,_,_ => by cases h
 | f + 1,l,ts,l',ts',h,hg,hp,hm => by
   rw [zg2] at h
   split at h
   ·next h0 => cases h; exact zj6 (by omega) (by omega) hp
   ·obtain ⟨_,h1,h⟩:=za2 h
    obtain ⟨q,h2,h⟩:=za2 h
    obtain ⟨g1,g2⟩:=def_g _ ts q.1 q.2 hg h2
    have:=(bg_ok h1).2
    exact doc_g f _ _ _ _ h g2 (by rw [List.all_append,hp]; simp [g1]) (by rw [List.length_append,List.length_singleton]; omega)
theorem scan_g {s:List UInt8} {ts:List Tk} (h:K.scR s = .ok ts):TG ts:=by
 unfold K.scR at h
 split at h
 ·cases h
 ·obtain ⟨ps,rfl,_,_⟩:=K.zk1 s _ 0 s ts h rfl (Nat.zero_le _)
  obtain ⟨_,_,g3⟩:=K.zt9 _ _ _ _ ps _ h rfl
  intro p hp h2
  rcases List.mem_append.1 hp with hp | hp
  ·have:=g3 p hp
   rw [h2] at this
   cases this with
   | name h => exact h
  ·rw [List.mem_singleton.1 hp] at h2
   exact absurd h2 (by show ¬ (5:Int) = 2; decide)
theorem zH9 {s:List UInt8} {l:List DefT} (h:sdlR s = .ok l):docOk l = true:=by
 unfold sdlR sdlF at h
 split at h
 ·cases h
 ·next ts hk =>
  obtain ⟨q,h1,h⟩:=za2 h
  cases h
  exact doc_g _ _ _ _ _ (show docP defX _ [] _ = .ok (q.1,q.2) from h1) (scan_g hk) (by simp) (by simp)
end Go.Proofs.YthjoelpfmimedaaGreatDoor
namespace Go.Proofs.YthjoelpfmimedaaGreatDoor.K
open Go.RowKit
def wordZ (p:Tz):List UInt8:=if p.1 = 4 then T1.ze3 p.2.1 else p.2.1
def ze2 (zs:List Tz):List (List UInt8):=(zs.filter fun p => decide (p.1 ≠ 5)).map wordZ
def joinZ (zs:List Tz):List UInt8:=Lib.join (ze2 zs) [32]
theorem zM3 (zs:List Tz) (k:Nat) (p:Tz) (h:zs[k]? = some p):ze2 (zs.take (k + 1)) = ze2 (zs.take k) ++ (if p.1 = 5 then [] else [wordZ p]):=by
 have e:zs.take (k + 1) = zs.take k ++ [p]:=by
  obtain ⟨h1,h2⟩:=List.getElem?_eq_some_iff.1 h
  rw [← h2]; exact (List.take_append_getElem h1).symm
 unfold ze2
 rw [e,List.filter_append,List.map_append]
 by_cases h5:p.1 = 5
 ·rw [if_pos h5]; simp [h5]
 ·rw [if_neg h5]; simp [h5]
theorem zX9 (zs:List Tz) (k:Nat):(ze2 (zs.take k)).length ≤ k:=by
 unfold ze2
 rw [List.length_map]
 have h1:=List.length_filter_le (fun p:Tz => decide (p.1 ≠ 5)) (zs.take k)
 rw [List.length_take] at h1
 omega
theorem zQ5 (p:Tz) (n:Nat) (h:p.2.1.length ≤ n):(wordZ p).length ≤ 6 * n + 2:=by
 unfold wordZ
 split
 ·have:=T1.zF5 p.2.1
  unfold T1.ze3
  simp only [List.length_cons,List.length_append,List.length_nil]
  omega
 ·omega
theorem join_len (ws:List (List UInt8)) (n:Nat) (h:∀ w ∈ ws,w.length ≤ n):(Lib.join ws [32]).length ≤ ws.length * (n + 1):=by
 cases ws with
 | nil => exact Nat.zero_le _
 | cons x r =>
   rw [Lib.join_cons,List.length_append]
   have h1:(Lib.joinTail [32] r).length ≤ r.length * (n + 1):=by
    have hr:∀ w ∈ r,w.length ≤ n:=fun w hw => h w (List.mem_cons_of_mem _ hw)
    clear h
    induction r with
    | nil => exact Nat.zero_le _
    | cons y r ih =>
      have e:Lib.joinTail [32] (y :: r) = 32 :: (y ++ Lib.joinTail [32] r):=by unfold Lib.joinTail; simp
      have h2:=ih (fun w hw => hr w (List.mem_cons_of_mem _ hw))
      have h3:=hr y List.mem_cons_self
      rw [e,List.length_cons,List.length_append,List.length_cons,Nat.add_mul]
      omega
   have h2:=h x List.mem_cons_self
   rw [List.length_cons,Nat.add_mul]
   omega
theorem join_K (ps:List Tk) (n:Nat) (h:∀ p ∈ ps,p.1 ≠ 5):joinZ (tz (ps ++ [(5,[],n)])) = joinK ps:=by
 have e:ze2 (tz (ps ++ [(5,[],n)])) = ps.map wordK:=by
  unfold ze2 tz
  rw [List.map_append,List.filter_append,List.filter_eq_self.2 (by
   intro p hp
   obtain ⟨q,hq,rfl⟩:=List.mem_map.1 hp
   exact decide_eq_true (h q hq)),List.map_append,List.map_map]
  simp
  intro a b c _
  rfl
 unfold joinZ
 rw [e]
 have ht:∀ r:List Tk,Lib.joinTail [32] (r.map wordK) = tailK r:=by
  intro r
  induction r with
  | nil => rfl
  | cons p r ih => rw [tailK, ← ih]; unfold Lib.joinTail; simp
 cases ps with
 | nil => rfl
 | cons p r => rw [List.map_cons,Lib.join_cons,ht]; rfl
structure ZOk (zs:List Tz):Prop where
 len:zs.length ≤ 70000
 txt:∀ p ∈ zs,p.2.1.length ≤ 70000
theorem ZOk.words {zs:List Tz} (h:ZOk zs):∀ w ∈ ze2 zs,w.length ≤ 420002:=by
 intro w hw
 obtain ⟨p,hp,rfl⟩:=List.mem_map.1 hw
 exact zQ5 p 70000 (h.txt p (List.mem_filter.1 hp).1)
theorem ZOk.join {zs:List Tz} (h:ZOk zs):(joinZ zs).length ≤ 100000000000:=by
 have h1:=join_len (ze2 zs) 420002 h.words
 have h2:=zX9 zs zs.length
 rw [List.take_length] at h2
 have h3:=h.len
 have h4:(ze2 zs).length * (420002 + 1) ≤ 70000 * (420002 + 1):=Nat.mul_le_mul_right _ (by omega)
 unfold joinZ
 omega
end Go.Proofs.YthjoelpfmimedaaGreatDoor.K
namespace Go.Proofs.YthjoelpfmimedaaGreatDoor
open Go.RowKit
set_option maxHeartbeats 1000000 in
theorem ze6 (K:Option Addr) (lk ck:Nat) (keys:List ByteArray) (w:World) (B:Nat) (hlk:keys.length = lk) (hbk:lk * 16 ≤ 140737488351232) (hK:KeysAt w B K keys) (hB:B ≤ w.heap.size) :
  Calls Tryz.prog 237 #[.slice K lk ck] w fun e w' => e = .returned (.bool (!decide keys.Nodup)) ∧ Below w.heap.size w w':=by
 have HL:=Lib.hid hlk
 have HK:Hid (0 < lk → ∃ a,K = some a ∧ ∀ W,Below w.heap.size w W → ∀ i s,keys[i]? = some s → W.cell? (a.add i) = some (.string s)):=Lib.hid (fun h0 => by
  obtain ⟨a,e,hab,hc⟩:=hK (by omega)
  exact ⟨a,e,fun W hb i s hi => (hb.cell (p:=a.add i) (by rw [za1]; omega)).trans (hc i s hi)⟩)
 have hlm:(lk:Int) ≤ 140737488351232:=by omega
 clear hlk hK
 go_enter Tryz.func237, Tryz.ntmps237
 go_wp2_with fail
 go_loopw [3] (fun i wr => ∃ j:Nat,j ≤ lk ∧ i = .int .i64 j ∧ (keys.take j).Nodup ∧ Below w.heap.size w wr) (fun i _ => lk - (intOf i).toNat)
 case atStart => exact ⟨0,Nat.zero_le _,rfl,List.nodup_nil,Below.refl _ _⟩
 case round =>
  obtain ⟨j,hj,rfl,hnd,hb⟩:=hrel
  have HND:=Lib.hid hnd
  have HB:=Lib.hid hb
  clear hnd hb
  by_cases hlt:j < lk
  ·obtain ⟨a,rfl,hc⟩:=HK.out (by omega)
   have hjl:j < keys.length:=by have:=HL.out; omega
   have HC:=Lib.hid hc
   have HSN:=Lib.hid (zB7 hjl)
   have HJ:Hid (∀ W,Below w.heap.size w W → W.cell? (a.add j) = some (.string keys[j])):=Lib.hid fun W hb => hc W hb j _ (List.getElem?_eq_getElem hjl)
   clear hc
   generalize hs:keys[j] = s at *
   clear hs
   go_wp2_with fail
   go_loopw [4] (fun k wr => ∃ m:Nat,m ≤ j ∧ k = .int .i64 m ∧ s ∉ keys.take m ∧ Below w.heap.size w wr) (fun k _ => j - (intOf k).toNat)
   case atStart => exact ⟨0,Nat.zero_le _,rfl,by simp,HB.out⟩
   case round =>
    obtain ⟨m,hm,rfl,hni,hb2⟩:=hrel
    have HNI:=Lib.hid hni
    have HB2:=Lib.hid hb2
    clear hni hb2
    by_cases hmj:m < j
    ·have hml:m < keys.length:=by omega
     have HM:Hid (∀ W,Below w.heap.size w W → W.cell? (a.add m) = some (.string keys[m])):=Lib.hid fun W hb => HC.out W hb m _ (List.getElem?_eq_getElem hml)
     have HTK:Hid (keys.take (m + 1) = keys.take m ++ [keys[m]]):=Lib.hid (List.take_succ_eq_append_getElem hml)
     have HME:Hid (keys[m] ∈ keys.take j):=Lib.hid (List.mem_take_iff_getElem.2 ⟨m,by omega,rfl⟩)
     generalize keys[m] = u at *
     go_wp2_with fail
     refine za8 (fun W => Below w.heap.size w W) HB2.out (by kernel_rfl) ?_
     intro W hbW _
     have hcj:∀ x:Past W,x.w.cell? (a.add j) = some (.string s):=fun x => HJ.out x.w (hbW.trans (x.b.mono hbW.size))
     have hcm:∀ x:Past W,x.w.cell? (a.add m) = some (.string u):=fun x => HM.out x.w (hbW.trans (x.b.mono hbW.size))
     have HW:=Lib.hid hbW
     clear hbW
     repeat (go_big_quiet_step (fail))
     refine wpQuiet_nil ?_
     intro _ hw'
     obtain ⟨x,rfl⟩:=hw'
     have HX:=Lib.hid (HW.out.trans (x.b.mono HW.out.size))
     by_cases he:s = u
     ·have heq:(s.toList == u.toList) = true:=by rw [he]; simp
      rw [heq]
      subst he
      clear heq
      have HNO:Hid (decide keys.Nodup = false):=Lib.hid (by
       simp only [decide_eq_false_iff_not]
       intro h
       exact (HSN.out.1 (zB6 h)).2 HME.out)
      go_wp2_with fail
      go_ret
      exact ⟨by rw [HNO.out]; rfl,HX.out⟩
     ·have hne:(s.toList == u.toList) = false:=by
       rw [Lib.toList_data,Lib.toList_data,beq_eq_false_iff_ne]
       intro h
       exact he (by cases s; cases u; simp only [ByteArray.mk.injEq]; exact Array.toList_inj.1 h)
      have HNI2:Hid (s ∉ keys.take (m + 1)):=Lib.hid (by
       rw [HTK.out,List.mem_append]
       rintro (h | h)
       ·exact HNI.out h
       ·exact he (by simpa using h))
      clear he
      rw [hne]
      go_wp2_with fail
      go_roundw
      case rel => exact ⟨m + 1,by omega,by go_num,HNI2.out,HX.out⟩
      case measure => simp [intOf]; omega
    ·have hmj':m = j:=by omega
     subst hmj'
     go_wp2_with fail
     trace_state
     go_roundw
     case rel => exact ⟨m + 1,by omega,by go_num,HSN.out.2 ⟨HND.out,HNI.out⟩,HB2.out⟩
     case measure => simp [intOf]; omega
  ·have HJ:Hid (decide keys.Nodup = true):=Lib.hid (by
    have:=HND.out
    rw [List.take_of_length_le (by have:=HL.out; omega)] at this
    simpa using this)
   go_wp2_with fail
   go_ret
   exact ⟨by rw [HJ.out]; rfl,HB.out⟩
end Go.Proofs.YthjoelpfmimedaaGreatDoor
namespace Go.Proofs.YthjoelpfmimedaaGreatDoor
open Go.RowKit
def za3 (lit:Bool):VT → Bool
 | .mk k n s is ks =>
   if k = 0 then decide (n = 0) && decide (s.size = 0) && leafB is ks
   else if k = 1 then (decide (n = 0) || decide (n = 1)) && decide (s.size = 0) && leafB is ks
   else if k = 2 then decide (s.size = 0) && leafB is ks
   else if k = 3 then decide (n = 0) && leafB is ks
   else if k = 4 then decide (n = 0) && leafB is ks && enumB s
   else if k = 5 then decide (n = 0) && decide (s.size = 0) && decide (ks.length = 0)
   else if k = 6 then decide (n = 0) && decide (s.size = 0) && decide (ks.length = is.length) && decide ks.Nodup
   else if k = 7 then lit && decide (n = 0) && leafB is ks && nmA s
   else false
end Go.Proofs.YthjoelpfmimedaaGreatDoor
namespace Go.Proofs.YthjoelpfmimedaaGreatDoor
open Go.RowKit
set_option maxRecDepth 100000 in
set_option maxHeartbeats 8000000 in
theorem rnode_0 (lit:Bool) (n:Int) (s:ByteArray) (items:List VT) (keys:List ByteArray) (w:World) (B:Nat) (v:Value) (h:Rd w B v (.mk 0 n s items keys)) (hB:B ≤ w.heap.size) :
  Calls Tryz.prog 204 #[v,.bool lit] w fun e w' => e = .returned (.bool (za3 lit (.mk 0 n s items keys))) ∧ Below w.heap.size w w':=by
 have HRD:=Lib.hid h
 cases h with
 | @mk _ _ _ A li ci K lk ck _ _ V hk hn hs hks hli hlk hbi hbk hA hr hK =>
 have b1:Below w.heap.size w (w.alloc (.cells #[.int .i64 0,.int .i64 n,.string s,.slice A li ci,.slice K lk ck] 59 (0,0))):=(Below.refl _ _).alloc (Nat.le_refl _) _
 have B1:=Lib.hid b1
 have HTW:Hid (Calls Tryz.prog 237 #[.slice K lk ck] (w.alloc (.cells #[.int .i64 0,.int .i64 n,.string s,.slice A li ci,.slice K lk ck] 59 (0,0))) fun e w' => e = .returned (.bool (!decide keys.Nodup)) ∧ Below _ _ w'):=Lib.hid (ze6 K lk ck keys _ B hlk hbk (hK.kept (b1.mono hB)) (by simp; omega))
 have HNAME:Hid (Calls Tryz.prog 46 #[.string s] (w.alloc (.cells #[.int .i64 0,.int .i64 n,.string s,.slice A li ci,.slice K lk ck] 59 (0,0))) fun e w' => e = .returned (.bool (nmA s)) ∧ _ = w'):=Lib.hid (zd0 s _ (by unfold maxLen; omega))
 have hlm:(li:Int) ≤ 140737488351232:=by omega
 have hlm':(lk:Int) ≤ 140737488351232:=by omega
 have HL:=Lib.hid hli
 have HLK:=Lib.hid hlk
 clear hA hr hK hks hn hs hk hli hlk b1 hbi hbk
 by_cases n0:n = 0
 ·subst n0
  by_cases s0:s.size = 0
  ·obtain ⟨s1,s2,s3⟩:=zh9 s0
   by_cases i0:li = 0
   ·have i1:items.length = 0:=by have:=HL.out; omega
    subst i0
    by_cases q0:lk = 0
    ·have q1:keys.length = 0:=by have:=HLK.out; omega
     subst q0
     have HV:Hid (za3 lit (.mk 0 0 s items keys) = true):=Lib.hid (by simp [za3,leafB,s0,i1,q1])
     clear HRD HL HLK
     go_enter Tryz.func204, Tryz.ntmps204
     go_wp2_with fail
     go_ret
     exact ⟨by rw [HV.out]; rfl,B1.out⟩
    ·have q1:¬ keys.length = 0:=by have:=HLK.out; omega
     have q2:((lk:Int) == 0) = false:=beq_eq_false_iff_ne.2 (by omega)
     clear q0
     have HV:Hid (za3 lit (.mk 0 0 s items keys) = false):=Lib.hid (by simp [za3,leafB,s0,i1,q1])
     clear HRD HL HLK
     go_enter Tryz.func204, Tryz.ntmps204
     go_wp2_with fail
     go_ret
     exact ⟨by rw [HV.out]; rfl,B1.out⟩
   ·have i1:¬ items.length = 0:=by have:=HL.out; omega
    have i2:((li:Int) == 0) = false:=beq_eq_false_iff_ne.2 (by omega)
    clear i0
    have HV:Hid (za3 lit (.mk 0 0 s items keys) = false):=Lib.hid (by simp [za3,leafB,s0,i1])
    clear HRD HL HLK
    go_enter Tryz.func204, Tryz.ntmps204
    go_wp2_with fail
    go_ret
    exact ⟨by rw [HV.out]; rfl,B1.out⟩
  ·obtain ⟨s1,s2,s3⟩:=zl6 s0
   have HV:Hid (za3 lit (.mk 0 0 s items keys) = false):=Lib.hid (by simp [za3,leafB,s0])
   clear HRD HL HLK
   go_enter Tryz.func204, Tryz.ntmps204
   go_wp2_with fail
   go_ret
   exact ⟨by rw [HV.out]; rfl,B1.out⟩
 ·have n0':(n == 0) = false:=beq_eq_false_iff_ne.2 n0
  have HV:Hid (za3 lit (.mk 0 n s items keys) = false):=Lib.hid (by simp [za3,leafB,n0])
  clear HRD HL HLK
  go_enter Tryz.func204, Tryz.ntmps204
  go_wp2_with fail
  go_ret
  exact ⟨by rw [HV.out]; rfl,B1.out⟩
set_option maxRecDepth 100000 in
set_option maxHeartbeats 8000000 in
theorem rnode_1 (lit:Bool) (n:Int) (s:ByteArray) (items:List VT) (keys:List ByteArray) (w:World) (B:Nat) (v:Value) (h:Rd w B v (.mk 1 n s items keys)) (hB:B ≤ w.heap.size) :
  Calls Tryz.prog 204 #[v,.bool lit] w fun e w' => e = .returned (.bool (za3 lit (.mk 1 n s items keys))) ∧ Below w.heap.size w w':=by
 have HRD:=Lib.hid h
 cases h with
 | @mk _ _ _ A li ci K lk ck _ _ V hk hn hs hks hli hlk hbi hbk hA hr hK =>
 have b1:Below w.heap.size w (w.alloc (.cells #[.int .i64 1,.int .i64 n,.string s,.slice A li ci,.slice K lk ck] 59 (0,0))):=(Below.refl _ _).alloc (Nat.le_refl _) _
 have B1:=Lib.hid b1
 have HTW:Hid (Calls Tryz.prog 237 #[.slice K lk ck] (w.alloc (.cells #[.int .i64 1,.int .i64 n,.string s,.slice A li ci,.slice K lk ck] 59 (0,0))) fun e w' => e = .returned (.bool (!decide keys.Nodup)) ∧ Below _ _ w'):=Lib.hid (ze6 K lk ck keys _ B hlk hbk (hK.kept (b1.mono hB)) (by simp; omega))
 have HNAME:Hid (Calls Tryz.prog 46 #[.string s] (w.alloc (.cells #[.int .i64 1,.int .i64 n,.string s,.slice A li ci,.slice K lk ck] 59 (0,0))) fun e w' => e = .returned (.bool (nmA s)) ∧ _ = w'):=Lib.hid (zd0 s _ (by unfold maxLen; omega))
 have hlm:(li:Int) ≤ 140737488351232:=by omega
 have hlm':(lk:Int) ≤ 140737488351232:=by omega
 have HL:=Lib.hid hli
 have HLK:=Lib.hid hlk
 clear hA hr hK hks hn hs hk hli hlk b1 hbi hbk
 by_cases n0:n = 0
 ·subst n0
  by_cases s0:s.size = 0
  ·obtain ⟨s1,s2,s3⟩:=zh9 s0
   by_cases i0:li = 0
   ·have i1:items.length = 0:=by have:=HL.out; omega
    subst i0
    by_cases q0:lk = 0
    ·have q1:keys.length = 0:=by have:=HLK.out; omega
     subst q0
     have HV:Hid (za3 lit (.mk 1 0 s items keys) = true):=Lib.hid (by simp [za3,leafB,s0,i1,q1])
     clear HRD HL HLK
     go_enter Tryz.func204, Tryz.ntmps204
     go_wp2_with fail
     go_ret
     exact ⟨by rw [HV.out]; rfl,B1.out⟩
    ·have q1:¬ keys.length = 0:=by have:=HLK.out; omega
     have q2:((lk:Int) == 0) = false:=beq_eq_false_iff_ne.2 (by omega)
     clear q0
     have HV:Hid (za3 lit (.mk 1 0 s items keys) = false):=Lib.hid (by simp [za3,leafB,s0,i1,q1])
     clear HRD HL HLK
     go_enter Tryz.func204, Tryz.ntmps204
     go_wp2_with fail
     go_ret
     exact ⟨by rw [HV.out]; rfl,B1.out⟩
   ·have i1:¬ items.length = 0:=by have:=HL.out; omega
    have i2:((li:Int) == 0) = false:=beq_eq_false_iff_ne.2 (by omega)
    clear i0
    have HV:Hid (za3 lit (.mk 1 0 s items keys) = false):=Lib.hid (by simp [za3,leafB,s0,i1])
    clear HRD HL HLK
    go_enter Tryz.func204, Tryz.ntmps204
    go_wp2_with fail
    go_ret
    exact ⟨by rw [HV.out]; rfl,B1.out⟩
  ·obtain ⟨s1,s2,s3⟩:=zl6 s0
   have HV:Hid (za3 lit (.mk 1 0 s items keys) = false):=Lib.hid (by simp [za3,leafB,s0])
   clear HRD HL HLK
   go_enter Tryz.func204, Tryz.ntmps204
   go_wp2_with fail
   go_ret
   exact ⟨by rw [HV.out]; rfl,B1.out⟩
 ·have n0':(n == 0) = false:=beq_eq_false_iff_ne.2 n0
  by_cases n1:n = 1
  ·subst n1
   by_cases s0:s.size = 0
   ·obtain ⟨s1,s2,s3⟩:=zh9 s0
    by_cases i0:li = 0
    ·have i1:items.length = 0:=by have:=HL.out; omega
     subst i0
     by_cases q0:lk = 0
     ·have q1:keys.length = 0:=by have:=HLK.out; omega
      subst q0
      have HV:Hid (za3 lit (.mk 1 1 s items keys) = true):=Lib.hid (by simp [za3,leafB,s0,i1,q1])
      clear HRD HL HLK
      go_enter Tryz.func204, Tryz.ntmps204
      go_wp2_with fail
      go_ret
      exact ⟨by rw [HV.out]; rfl,B1.out⟩
     ·have q1:¬ keys.length = 0:=by have:=HLK.out; omega
      have q2:((lk:Int) == 0) = false:=beq_eq_false_iff_ne.2 (by omega)
      clear q0
      have HV:Hid (za3 lit (.mk 1 1 s items keys) = false):=Lib.hid (by simp [za3,leafB,s0,i1,q1])
      clear HRD HL HLK
      go_enter Tryz.func204, Tryz.ntmps204
      go_wp2_with fail
      go_ret
      exact ⟨by rw [HV.out]; rfl,B1.out⟩
    ·have i1:¬ items.length = 0:=by have:=HL.out; omega
     have i2:((li:Int) == 0) = false:=beq_eq_false_iff_ne.2 (by omega)
     clear i0
     have HV:Hid (za3 lit (.mk 1 1 s items keys) = false):=Lib.hid (by simp [za3,leafB,s0,i1])
     clear HRD HL HLK
     go_enter Tryz.func204, Tryz.ntmps204
     go_wp2_with fail
     go_ret
     exact ⟨by rw [HV.out]; rfl,B1.out⟩
   ·obtain ⟨s1,s2,s3⟩:=zl6 s0
    have HV:Hid (za3 lit (.mk 1 1 s items keys) = false):=Lib.hid (by simp [za3,leafB,s0])
    clear HRD HL HLK
    go_enter Tryz.func204, Tryz.ntmps204
    go_wp2_with fail
    go_ret
    exact ⟨by rw [HV.out]; rfl,B1.out⟩
  ·have n1':(n == 1) = false:=beq_eq_false_iff_ne.2 n1
   have HV:Hid (za3 lit (.mk 1 n s items keys) = false):=Lib.hid (by simp [za3,leafB,n0,n1])
   clear HRD HL HLK
   go_enter Tryz.func204, Tryz.ntmps204
   go_wp2_with fail
   go_ret
   exact ⟨by rw [HV.out]; rfl,B1.out⟩
set_option maxRecDepth 100000 in
set_option maxHeartbeats 8000000 in
theorem rnode_2 (lit:Bool) (n:Int) (s:ByteArray) (items:List VT) (keys:List ByteArray) (w:World) (B:Nat) (v:Value) (h:Rd w B v (.mk 2 n s items keys)) (hB:B ≤ w.heap.size) :
  Calls Tryz.prog 204 #[v,.bool lit] w fun e w' => e = .returned (.bool (za3 lit (.mk 2 n s items keys))) ∧ Below w.heap.size w w':=by
 have HRD:=Lib.hid h
 cases h with
 | @mk _ _ _ A li ci K lk ck _ _ V hk hn hs hks hli hlk hbi hbk hA hr hK =>
 have b1:Below w.heap.size w (w.alloc (.cells #[.int .i64 2,.int .i64 n,.string s,.slice A li ci,.slice K lk ck] 59 (0,0))):=(Below.refl _ _).alloc (Nat.le_refl _) _
 have B1:=Lib.hid b1
 have HTW:Hid (Calls Tryz.prog 237 #[.slice K lk ck] (w.alloc (.cells #[.int .i64 2,.int .i64 n,.string s,.slice A li ci,.slice K lk ck] 59 (0,0))) fun e w' => e = .returned (.bool (!decide keys.Nodup)) ∧ Below _ _ w'):=Lib.hid (ze6 K lk ck keys _ B hlk hbk (hK.kept (b1.mono hB)) (by simp; omega))
 have HNAME:Hid (Calls Tryz.prog 46 #[.string s] (w.alloc (.cells #[.int .i64 2,.int .i64 n,.string s,.slice A li ci,.slice K lk ck] 59 (0,0))) fun e w' => e = .returned (.bool (nmA s)) ∧ _ = w'):=Lib.hid (zd0 s _ (by unfold maxLen; omega))
 have hlm:(li:Int) ≤ 140737488351232:=by omega
 have hlm':(lk:Int) ≤ 140737488351232:=by omega
 have HL:=Lib.hid hli
 have HLK:=Lib.hid hlk
 clear hA hr hK hks hn hs hk hli hlk b1 hbi hbk
 by_cases s0:s.size = 0
 ·obtain ⟨s1,s2,s3⟩:=zh9 s0
  by_cases i0:li = 0
  ·have i1:items.length = 0:=by have:=HL.out; omega
   subst i0
   by_cases q0:lk = 0
   ·have q1:keys.length = 0:=by have:=HLK.out; omega
    subst q0
    have HV:Hid (za3 lit (.mk 2 n s items keys) = true):=Lib.hid (by simp [za3,leafB,s0,i1,q1])
    clear HRD HL HLK
    go_enter Tryz.func204, Tryz.ntmps204
    go_wp2_with fail
    go_ret
    exact ⟨by rw [HV.out]; rfl,B1.out⟩
   ·have q1:¬ keys.length = 0:=by have:=HLK.out; omega
    have q2:((lk:Int) == 0) = false:=beq_eq_false_iff_ne.2 (by omega)
    clear q0
    have HV:Hid (za3 lit (.mk 2 n s items keys) = false):=Lib.hid (by simp [za3,leafB,s0,i1,q1])
    clear HRD HL HLK
    go_enter Tryz.func204, Tryz.ntmps204
    go_wp2_with fail
    go_ret
    exact ⟨by rw [HV.out]; rfl,B1.out⟩
  ·have i1:¬ items.length = 0:=by have:=HL.out; omega
   have i2:((li:Int) == 0) = false:=beq_eq_false_iff_ne.2 (by omega)
   clear i0
   have HV:Hid (za3 lit (.mk 2 n s items keys) = false):=Lib.hid (by simp [za3,leafB,s0,i1])
   clear HRD HL HLK
   go_enter Tryz.func204, Tryz.ntmps204
   go_wp2_with fail
   go_ret
   exact ⟨by rw [HV.out]; rfl,B1.out⟩
 ·obtain ⟨s1,s2,s3⟩:=zl6 s0
  have HV:Hid (za3 lit (.mk 2 n s items keys) = false):=Lib.hid (by simp [za3,leafB,s0])
  clear HRD HL HLK
  go_enter Tryz.func204, Tryz.ntmps204
  go_wp2_with fail
  go_ret
  exact ⟨by rw [HV.out]; rfl,B1.out⟩
end Go.Proofs.YthjoelpfmimedaaGreatDoor
namespace Go.Proofs.YthjoelpfmimedaaGreatDoor
open Go.RowKit
set_option maxRecDepth 100000 in
set_option maxHeartbeats 8000000 in
theorem rnode_3 (lit:Bool) (n:Int) (s:ByteArray) (items:List VT) (keys:List ByteArray) (w:World) (B:Nat) (v:Value) (h:Rd w B v (.mk 3 n s items keys)) (hB:B ≤ w.heap.size) :
  Calls Tryz.prog 204 #[v,.bool lit] w fun e w' => e = .returned (.bool (za3 lit (.mk 3 n s items keys))) ∧ Below w.heap.size w w':=by
 have HRD:=Lib.hid h
 cases h with
 | @mk _ _ _ A li ci K lk ck _ _ V hk hn hs hks hli hlk hbi hbk hA hr hK =>
 have b1:Below w.heap.size w (w.alloc (.cells #[.int .i64 3,.int .i64 n,.string s,.slice A li ci,.slice K lk ck] 59 (0,0))):=(Below.refl _ _).alloc (Nat.le_refl _) _
 have B1:=Lib.hid b1
 have HTW:Hid (Calls Tryz.prog 237 #[.slice K lk ck] (w.alloc (.cells #[.int .i64 3,.int .i64 n,.string s,.slice A li ci,.slice K lk ck] 59 (0,0))) fun e w' => e = .returned (.bool (!decide keys.Nodup)) ∧ Below _ _ w'):=Lib.hid (ze6 K lk ck keys _ B hlk hbk (hK.kept (b1.mono hB)) (by simp; omega))
 have HNAME:Hid (Calls Tryz.prog 46 #[.string s] (w.alloc (.cells #[.int .i64 3,.int .i64 n,.string s,.slice A li ci,.slice K lk ck] 59 (0,0))) fun e w' => e = .returned (.bool (nmA s)) ∧ _ = w'):=Lib.hid (zd0 s _ (by unfold maxLen; omega))
 have hlm:(li:Int) ≤ 140737488351232:=by omega
 have hlm':(lk:Int) ≤ 140737488351232:=by omega
 have HL:=Lib.hid hli
 have HLK:=Lib.hid hlk
 clear hA hr hK hks hn hs hk hli hlk b1 hbi hbk
 by_cases n0:n = 0
 ·subst n0
  by_cases i0:li = 0
  ·have i1:items.length = 0:=by have:=HL.out; omega
   subst i0
   by_cases q0:lk = 0
   ·have q1:keys.length = 0:=by have:=HLK.out; omega
    subst q0
    have HV:Hid (za3 lit (.mk 3 0 s items keys) = true):=Lib.hid (by simp [za3,leafB,i1,q1])
    clear HRD HL HLK
    go_enter Tryz.func204, Tryz.ntmps204
    go_wp2_with fail
    go_ret
    exact ⟨by rw [HV.out]; rfl,B1.out⟩
   ·have q1:¬ keys.length = 0:=by have:=HLK.out; omega
    have q2:((lk:Int) == 0) = false:=beq_eq_false_iff_ne.2 (by omega)
    clear q0
    have HV:Hid (za3 lit (.mk 3 0 s items keys) = false):=Lib.hid (by simp [za3,leafB,i1,q1])
    clear HRD HL HLK
    go_enter Tryz.func204, Tryz.ntmps204
    go_wp2_with fail
    go_ret
    exact ⟨by rw [HV.out]; rfl,B1.out⟩
  ·have i1:¬ items.length = 0:=by have:=HL.out; omega
   have i2:((li:Int) == 0) = false:=beq_eq_false_iff_ne.2 (by omega)
   clear i0
   have HV:Hid (za3 lit (.mk 3 0 s items keys) = false):=Lib.hid (by simp [za3,leafB,i1])
   clear HRD HL HLK
   go_enter Tryz.func204, Tryz.ntmps204
   go_wp2_with fail
   go_ret
   exact ⟨by rw [HV.out]; rfl,B1.out⟩
 ·have n0':(n == 0) = false:=beq_eq_false_iff_ne.2 n0
  have HV:Hid (za3 lit (.mk 3 n s items keys) = false):=Lib.hid (by simp [za3,leafB,n0])
  clear HRD HL HLK
  go_enter Tryz.func204, Tryz.ntmps204
  go_wp2_with fail
  go_ret
  exact ⟨by rw [HV.out]; rfl,B1.out⟩
set_option maxRecDepth 100000 in
set_option maxHeartbeats 8000000 in
theorem rnode_5 (lit:Bool) (n:Int) (s:ByteArray) (items:List VT) (keys:List ByteArray) (w:World) (B:Nat) (v:Value) (h:Rd w B v (.mk 5 n s items keys)) (hB:B ≤ w.heap.size) :
  Calls Tryz.prog 204 #[v,.bool lit] w fun e w' => e = .returned (.bool (za3 lit (.mk 5 n s items keys))) ∧ Below w.heap.size w w':=by
 have HRD:=Lib.hid h
 cases h with
 | @mk _ _ _ A li ci K lk ck _ _ V hk hn hs hks hli hlk hbi hbk hA hr hK =>
 have b1:Below w.heap.size w (w.alloc (.cells #[.int .i64 5,.int .i64 n,.string s,.slice A li ci,.slice K lk ck] 59 (0,0))):=(Below.refl _ _).alloc (Nat.le_refl _) _
 have B1:=Lib.hid b1
 have HTW:Hid (Calls Tryz.prog 237 #[.slice K lk ck] (w.alloc (.cells #[.int .i64 5,.int .i64 n,.string s,.slice A li ci,.slice K lk ck] 59 (0,0))) fun e w' => e = .returned (.bool (!decide keys.Nodup)) ∧ Below _ _ w'):=Lib.hid (ze6 K lk ck keys _ B hlk hbk (hK.kept (b1.mono hB)) (by simp; omega))
 have HNAME:Hid (Calls Tryz.prog 46 #[.string s] (w.alloc (.cells #[.int .i64 5,.int .i64 n,.string s,.slice A li ci,.slice K lk ck] 59 (0,0))) fun e w' => e = .returned (.bool (nmA s)) ∧ _ = w'):=Lib.hid (zd0 s _ (by unfold maxLen; omega))
 have hlm:(li:Int) ≤ 140737488351232:=by omega
 have hlm':(lk:Int) ≤ 140737488351232:=by omega
 have HL:=Lib.hid hli
 have HLK:=Lib.hid hlk
 clear hA hr hK hks hn hs hk hli hlk b1 hbi hbk
 by_cases n0:n = 0
 ·subst n0
  by_cases s0:s.size = 0
  ·obtain ⟨s1,s2,s3⟩:=zh9 s0
   by_cases q0:lk = 0
   ·have q1:keys.length = 0:=by have:=HLK.out; omega
    subst q0
    have HV:Hid (za3 lit (.mk 5 0 s items keys) = true):=Lib.hid (by simp [za3,s0,q1])
    clear HRD HL HLK
    go_enter Tryz.func204, Tryz.ntmps204
    go_wp2_with fail
    go_ret
    exact ⟨by rw [HV.out]; rfl,B1.out⟩
   ·have q1:¬ keys.length = 0:=by have:=HLK.out; omega
    have q2:((lk:Int) == 0) = false:=beq_eq_false_iff_ne.2 (by omega)
    clear q0
    have HV:Hid (za3 lit (.mk 5 0 s items keys) = false):=Lib.hid (by simp [za3,s0,q1])
    clear HRD HL HLK
    go_enter Tryz.func204, Tryz.ntmps204
    go_wp2_with fail
    go_ret
    exact ⟨by rw [HV.out]; rfl,B1.out⟩
  ·obtain ⟨s1,s2,s3⟩:=zl6 s0
   have HV:Hid (za3 lit (.mk 5 0 s items keys) = false):=Lib.hid (by simp [za3,s0])
   clear HRD HL HLK
   go_enter Tryz.func204, Tryz.ntmps204
   go_wp2_with fail
   go_ret
   exact ⟨by rw [HV.out]; rfl,B1.out⟩
 ·have n0':(n == 0) = false:=beq_eq_false_iff_ne.2 n0
  have HV:Hid (za3 lit (.mk 5 n s items keys) = false):=Lib.hid (by simp [za3,n0])
  clear HRD HL HLK
  go_enter Tryz.func204, Tryz.ntmps204
  go_wp2_with fail
  go_ret
  exact ⟨by rw [HV.out]; rfl,B1.out⟩
set_option maxRecDepth 100000 in
set_option maxHeartbeats 8000000 in
theorem zV4 (lit:Bool) (k:Int) (n:Int) (s:ByteArray) (items:List VT) (keys:List ByteArray) (w:World) (B:Nat) (v:Value) (h:Rd w B v (.mk k n s items keys)) (hB:B ≤ w.heap.size) (k0:¬ k = 0) (k1:¬ k = 1) (k2:¬ k = 2) (k3:¬ k = 3) (k4:¬ k = 4) (k5:¬ k = 5) (k6:¬ k = 6) (k7:¬ k = 7) :
  Calls Tryz.prog 204 #[v,.bool lit] w fun e w' => e = .returned (.bool (za3 lit (.mk k n s items keys))) ∧ Below w.heap.size w w':=by
 have HRD:=Lib.hid h
 cases h with
 | @mk _ _ _ A li ci K lk ck _ _ V hk hn hs hks hli hlk hbi hbk hA hr hK =>
 have b1:Below w.heap.size w (w.alloc (.cells #[.int .i64 k,.int .i64 n,.string s,.slice A li ci,.slice K lk ck] 59 (0,0))):=(Below.refl _ _).alloc (Nat.le_refl _) _
 have B1:=Lib.hid b1
 have HTW:Hid (Calls Tryz.prog 237 #[.slice K lk ck] (w.alloc (.cells #[.int .i64 k,.int .i64 n,.string s,.slice A li ci,.slice K lk ck] 59 (0,0))) fun e w' => e = .returned (.bool (!decide keys.Nodup)) ∧ Below _ _ w'):=Lib.hid (ze6 K lk ck keys _ B hlk hbk (hK.kept (b1.mono hB)) (by simp; omega))
 have HNAME:Hid (Calls Tryz.prog 46 #[.string s] (w.alloc (.cells #[.int .i64 k,.int .i64 n,.string s,.slice A li ci,.slice K lk ck] 59 (0,0))) fun e w' => e = .returned (.bool (nmA s)) ∧ _ = w'):=Lib.hid (zd0 s _ (by unfold maxLen; omega))
 have hlm:(li:Int) ≤ 140737488351232:=by omega
 have hlm':(lk:Int) ≤ 140737488351232:=by omega
 have HL:=Lib.hid hli
 have HLK:=Lib.hid hlk
 clear hA hr hK hks hn hs hk hli hlk b1 hbi hbk
 have k0':(k == 0) = false:=beq_eq_false_iff_ne.2 k0
 have k1':(k == 1) = false:=beq_eq_false_iff_ne.2 k1
 have k2':(k == 2) = false:=beq_eq_false_iff_ne.2 k2
 have k3':(k == 3) = false:=beq_eq_false_iff_ne.2 k3
 have k4':(k == 4) = false:=beq_eq_false_iff_ne.2 k4
 have k5':(k == 5) = false:=beq_eq_false_iff_ne.2 k5
 have k6':(k == 6) = false:=beq_eq_false_iff_ne.2 k6
 have k7':(k == 7) = false:=beq_eq_false_iff_ne.2 k7
 have HV:Hid (za3 lit (.mk k n s items keys) = false):=Lib.hid (by simp [za3,k0,k1,k2,k3,k4,k5,k6,k7])
 clear HRD HL HLK
 go_enter Tryz.func204, Tryz.ntmps204
 go_wp2_with fail
 go_ret
 exact ⟨by rw [HV.out]; rfl,B1.out⟩
end Go.Proofs.YthjoelpfmimedaaGreatDoor
namespace Go.Proofs.YthjoelpfmimedaaGreatDoor
open Go.RowKit
set_option maxRecDepth 100000 in
set_option maxHeartbeats 8000000 in
theorem rnode_6 (lit:Bool) (n:Int) (s:ByteArray) (items:List VT) (keys:List ByteArray) (w:World) (B:Nat) (v:Value) (h:Rd w B v (.mk 6 n s items keys)) (hB:B ≤ w.heap.size) :
  Calls Tryz.prog 204 #[v,.bool lit] w fun e w' => e = .returned (.bool (za3 lit (.mk 6 n s items keys))) ∧ Below w.heap.size w w':=by
 have HRD:=Lib.hid h
 cases h with
 | @mk _ _ _ A li ci K lk ck _ _ V hk hn hs hks hli hlk hbi hbk hA hr hK =>
 have b1:Below w.heap.size w (w.alloc (.cells #[.int .i64 6,.int .i64 n,.string s,.slice A li ci,.slice K lk ck] 59 (0,0))):=(Below.refl _ _).alloc (Nat.le_refl _) _
 have B1:=Lib.hid b1
 have HTW:Hid (Calls Tryz.prog 237 #[.slice K lk ck] (w.alloc (.cells #[.int .i64 6,.int .i64 n,.string s,.slice A li ci,.slice K lk ck] 59 (0,0))) fun e w' => e = .returned (.bool (!decide keys.Nodup)) ∧ Below _ _ w'):=Lib.hid (ze6 K lk ck keys _ B hlk hbk (hK.kept (b1.mono hB)) (by simp; omega))
 have HNAME:Hid (Calls Tryz.prog 46 #[.string s] (w.alloc (.cells #[.int .i64 6,.int .i64 n,.string s,.slice A li ci,.slice K lk ck] 59 (0,0))) fun e w' => e = .returned (.bool (nmA s)) ∧ _ = w'):=Lib.hid (zd0 s _ (by unfold maxLen; omega))
 have hlm:(li:Int) ≤ 140737488351232:=by omega
 have hlm':(lk:Int) ≤ 140737488351232:=by omega
 have HL:=Lib.hid hli
 have HLK:=Lib.hid hlk
 clear hA hr hK hks hn hs hk hli hlk b1 hbi hbk
 by_cases n0:n = 0
 ·subst n0
  by_cases s0:s.size = 0
  ·obtain ⟨s1,s2,s3⟩:=zh9 s0
   by_cases e0:lk = li
   ·have e1:keys.length = items.length:=by have:=HL.out; have:=HLK.out; omega
    subst e0
    cases hnd:decide keys.Nodup
    ·have hn2:¬ keys.Nodup:=by simpa using hnd
     have HV:Hid (za3 lit (.mk 6 0 s items keys) = false):=Lib.hid (by simp [za3,s0,e1,hn2])
     clear HRD HL HLK
     go_enter Tryz.func204, Tryz.ntmps204
     go_wp2_with fail
     refine HTW.out.mono ?_
     rintro e w' ⟨rfl,hb⟩
     have HB:=Lib.hid (B1.out.trans (hb.mono B1.out.size))
     clear hb
     rw [hnd]
     go_wp2_with fail
     go_ret
     exact ⟨by rw [HV.out]; rfl,HB.out⟩
    ·have hn2:keys.Nodup:=by simpa using hnd
     have HV:Hid (za3 lit (.mk 6 0 s items keys) = true):=Lib.hid (by simp [za3,s0,e1,hn2])
     clear HRD HL HLK
     go_enter Tryz.func204, Tryz.ntmps204
     go_wp2_with fail
     refine HTW.out.mono ?_
     rintro e w' ⟨rfl,hb⟩
     have HB:=Lib.hid (B1.out.trans (hb.mono B1.out.size))
     clear hb
     rw [hnd]
     go_wp2_with fail
     go_ret
     exact ⟨by rw [HV.out]; rfl,HB.out⟩
   ·have e1:¬ keys.length = items.length:=by have:=HL.out; have:=HLK.out; omega
    have e2:((lk:Int) == (li:Int)) = false:=beq_eq_false_iff_ne.2 (by omega)
    clear e0
    have HV:Hid (za3 lit (.mk 6 0 s items keys) = false):=Lib.hid (by simp [za3,s0,e1])
    clear HRD HL HLK
    go_enter Tryz.func204, Tryz.ntmps204
    go_wp2_with fail
    go_ret
    exact ⟨by rw [HV.out]; rfl,B1.out⟩
  ·obtain ⟨s1,s2,s3⟩:=zl6 s0
   have HV:Hid (za3 lit (.mk 6 0 s items keys) = false):=Lib.hid (by simp [za3,s0])
   clear HRD HL HLK
   go_enter Tryz.func204, Tryz.ntmps204
   go_wp2_with fail
   go_ret
   exact ⟨by rw [HV.out]; rfl,B1.out⟩
 ·have n0':(n == 0) = false:=beq_eq_false_iff_ne.2 n0
  have HV:Hid (za3 lit (.mk 6 n s items keys) = false):=Lib.hid (by simp [za3,n0])
  clear HRD HL HLK
  go_enter Tryz.func204, Tryz.ntmps204
  go_wp2_with fail
  go_ret
  exact ⟨by rw [HV.out]; rfl,B1.out⟩
set_option maxRecDepth 100000 in
set_option maxHeartbeats 8000000 in
theorem rnode_7 (lit:Bool) (n:Int) (s:ByteArray) (items:List VT) (keys:List ByteArray) (w:World) (B:Nat) (v:Value) (h:Rd w B v (.mk 7 n s items keys)) (hB:B ≤ w.heap.size) :
  Calls Tryz.prog 204 #[v,.bool lit] w fun e w' => e = .returned (.bool (za3 lit (.mk 7 n s items keys))) ∧ Below w.heap.size w w':=by
 have HRD:=Lib.hid h
 cases h with
 | @mk _ _ _ A li ci K lk ck _ _ V hk hn hs hks hli hlk hbi hbk hA hr hK =>
 have b1:Below w.heap.size w (w.alloc (.cells #[.int .i64 7,.int .i64 n,.string s,.slice A li ci,.slice K lk ck] 59 (0,0))):=(Below.refl _ _).alloc (Nat.le_refl _) _
 have B1:=Lib.hid b1
 have HTW:Hid (Calls Tryz.prog 237 #[.slice K lk ck] (w.alloc (.cells #[.int .i64 7,.int .i64 n,.string s,.slice A li ci,.slice K lk ck] 59 (0,0))) fun e w' => e = .returned (.bool (!decide keys.Nodup)) ∧ Below _ _ w'):=Lib.hid (ze6 K lk ck keys _ B hlk hbk (hK.kept (b1.mono hB)) (by simp; omega))
 have HNAME:Hid (Calls Tryz.prog 46 #[.string s] (w.alloc (.cells #[.int .i64 7,.int .i64 n,.string s,.slice A li ci,.slice K lk ck] 59 (0,0))) fun e w' => e = .returned (.bool (nmA s)) ∧ _ = w'):=Lib.hid (zd0 s _ (by unfold maxLen; omega))
 have hlm:(li:Int) ≤ 140737488351232:=by omega
 have hlm':(lk:Int) ≤ 140737488351232:=by omega
 have HL:=Lib.hid hli
 have HLK:=Lib.hid hlk
 clear hA hr hK hks hn hs hk hli hlk b1 hbi hbk
 cases lit
 ·skip
  have HV:Hid (za3 false (.mk 7 n s items keys) = false):=Lib.hid (by simp [za3,leafB])
  clear HRD HL HLK
  go_enter Tryz.func204, Tryz.ntmps204
  go_wp2_with fail
  go_ret
  exact ⟨by rw [HV.out]; rfl,B1.out⟩
 ·skip
  by_cases n0:n = 0
  ·subst n0
   by_cases i0:li = 0
   ·have i1:items.length = 0:=by have:=HL.out; omega
    subst i0
    by_cases q0:lk = 0
    ·have q1:keys.length = 0:=by have:=HLK.out; omega
     subst q0
     cases hnm:nmA s
     ·skip
      have HV:Hid (za3 true (.mk 7 0 s items keys) = false):=Lib.hid (by simp [za3,leafB,i1,q1,hnm])
      clear HRD HL HLK
      go_enter Tryz.func204, Tryz.ntmps204
      go_wp2_with fail
      refine HNAME.out.mono ?_
      rintro e w' ⟨rfl,rfl⟩
      rw [hnm]
      go_wp2_with fail
      go_ret
      exact ⟨by rw [HV.out]; rfl,B1.out⟩
     ·skip
      have HV:Hid (za3 true (.mk 7 0 s items keys) = true):=Lib.hid (by simp [za3,leafB,i1,q1,hnm])
      clear HRD HL HLK
      go_enter Tryz.func204, Tryz.ntmps204
      go_wp2_with fail
      refine HNAME.out.mono ?_
      rintro e w' ⟨rfl,rfl⟩
      rw [hnm]
      go_wp2_with fail
      go_ret
      exact ⟨by rw [HV.out]; rfl,B1.out⟩
    ·have q1:¬ keys.length = 0:=by have:=HLK.out; omega
     have q2:((lk:Int) == 0) = false:=beq_eq_false_iff_ne.2 (by omega)
     clear q0
     have HV:Hid (za3 true (.mk 7 0 s items keys) = false):=Lib.hid (by simp [za3,leafB,i1,q1])
     clear HRD HL HLK
     go_enter Tryz.func204, Tryz.ntmps204
     go_wp2_with fail
     go_ret
     exact ⟨by rw [HV.out]; rfl,B1.out⟩
   ·have i1:¬ items.length = 0:=by have:=HL.out; omega
    have i2:((li:Int) == 0) = false:=beq_eq_false_iff_ne.2 (by omega)
    clear i0
    have HV:Hid (za3 true (.mk 7 0 s items keys) = false):=Lib.hid (by simp [za3,leafB,i1])
    clear HRD HL HLK
    go_enter Tryz.func204, Tryz.ntmps204
    go_wp2_with fail
    go_ret
    exact ⟨by rw [HV.out]; rfl,B1.out⟩
  ·have n0':(n == 0) = false:=beq_eq_false_iff_ne.2 n0
   have HV:Hid (za3 true (.mk 7 n s items keys) = false):=Lib.hid (by simp [za3,leafB,n0])
   clear HRD HL HLK
   go_enter Tryz.func204, Tryz.ntmps204
   go_wp2_with fail
   go_ret
   exact ⟨by rw [HV.out]; rfl,B1.out⟩
end Go.Proofs.YthjoelpfmimedaaGreatDoor
namespace Go.Proofs.YthjoelpfmimedaaGreatDoor
open Go.RowKit
set_option maxRecDepth 100000 in
set_option maxHeartbeats 8000000 in
theorem rnode_4 (lit:Bool) (n:Int) (s:ByteArray) (items:List VT) (keys:List ByteArray) (w:World) (B:Nat) (v:Value) (h:Rd w B v (.mk 4 n s items keys)) (hB:B ≤ w.heap.size) :
  Calls Tryz.prog 204 #[v,.bool lit] w fun e w' => e = .returned (.bool (za3 lit (.mk 4 n s items keys))) ∧ Below w.heap.size w w':=by
 have HRD:=Lib.hid h
 cases h with
 | @mk _ _ _ A li ci K lk ck _ _ V hk hn hs hks hli hlk hbi hbk hA hr hK =>
 have b1:Below w.heap.size w (w.alloc (.cells #[.int .i64 4,.int .i64 n,.string s,.slice A li ci,.slice K lk ck] 59 (0,0))):=(Below.refl _ _).alloc (Nat.le_refl _) _
 have B1:=Lib.hid b1
 have HTW:Hid (Calls Tryz.prog 237 #[.slice K lk ck] (w.alloc (.cells #[.int .i64 4,.int .i64 n,.string s,.slice A li ci,.slice K lk ck] 59 (0,0))) fun e w' => e = .returned (.bool (!decide keys.Nodup)) ∧ Below _ _ w'):=Lib.hid (ze6 K lk ck keys _ B hlk hbk (hK.kept (b1.mono hB)) (by simp; omega))
 have HNAME:Hid (Calls Tryz.prog 46 #[.string s] (w.alloc (.cells #[.int .i64 4,.int .i64 n,.string s,.slice A li ci,.slice K lk ck] 59 (0,0))) fun e w' => e = .returned (.bool (nmA s)) ∧ _ = w'):=Lib.hid (zd0 s _ (by unfold maxLen; omega))
 have hlm:(li:Int) ≤ 140737488351232:=by omega
 have hlm':(lk:Int) ≤ 140737488351232:=by omega
 have HL:=Lib.hid hli
 have HLK:=Lib.hid hlk
 clear hA hr hK hks hn hs hk hli hlk b1 hbi hbk
 by_cases n0:n = 0
 ·subst n0
  by_cases i0:li = 0
  ·have i1:items.length = 0:=by have:=HL.out; omega
   subst i0
   by_cases q0:lk = 0
   ·have q1:keys.length = 0:=by have:=HLK.out; omega
    subst q0
    cases hnm:nmA s
    ·skip
     have HV:Hid (za3 lit (.mk 4 0 s items keys) = false):=Lib.hid (by simp [za3,leafB,enumB,i1,q1,hnm])
     clear HRD HL HLK
     go_enter Tryz.func204, Tryz.ntmps204
     go_wp2_with fail
     refine HNAME.out.mono ?_
     rintro e w' ⟨rfl,rfl⟩
     rw [hnm]
     go_wp2_with fail
     go_ret
     exact ⟨by rw [HV.out]; rfl,B1.out⟩
    ·skip
     by_cases x1:s = ⟨#[116,114,117,101]⟩
     ·have y1:(s.toList == [116,114,117,101]) = true:=by rw [zj0]; simpa using x1
      have HV:Hid (za3 lit (.mk 4 0 s items keys) = false):=Lib.hid (by simp [za3,leafB,enumB,i1,q1,x1])
      clear HRD HL HLK
      clear x1
      go_enter Tryz.func204, Tryz.ntmps204
      go_wp2_with fail
      refine HNAME.out.mono ?_
      rintro e w' ⟨rfl,rfl⟩
      rw [hnm]
      go_wp2_with fail
      go_ret
      exact ⟨by rw [HV.out]; rfl,B1.out⟩
     ·have y1:(s.toList == [116,114,117,101]) = false:=by rw [zj0]; simpa using x1
      by_cases x2:s = ⟨#[102,97,108,115,101]⟩
      ·have y2:(s.toList == [102,97,108,115,101]) = true:=by rw [zj0]; simpa using x2
       have HV:Hid (za3 lit (.mk 4 0 s items keys) = false):=Lib.hid (by simp [za3,leafB,enumB,i1,q1,x2])
       clear HRD HL HLK
       clear x1 x2
       go_enter Tryz.func204, Tryz.ntmps204
       go_wp2_with fail
       refine HNAME.out.mono ?_
       rintro e w' ⟨rfl,rfl⟩
       rw [hnm]
       go_wp2_with fail
       go_ret
       exact ⟨by rw [HV.out]; rfl,B1.out⟩
      ·have y2:(s.toList == [102,97,108,115,101]) = false:=by rw [zj0]; simpa using x2
       by_cases x3:s = ⟨#[110,117,108,108]⟩
       ·have y3:(s.toList == [110,117,108,108]) = true:=by rw [zj0]; simpa using x3
        have HV:Hid (za3 lit (.mk 4 0 s items keys) = false):=Lib.hid (by simp [za3,leafB,enumB,i1,q1,x3])
        clear HRD HL HLK
        clear x1 x2 x3
        go_enter Tryz.func204, Tryz.ntmps204
        go_wp2_with fail
        refine HNAME.out.mono ?_
        rintro e w' ⟨rfl,rfl⟩
        rw [hnm]
        go_wp2_with fail
        go_ret
        exact ⟨by rw [HV.out]; rfl,B1.out⟩
       ·have y3:(s.toList == [110,117,108,108]) = false:=by rw [zj0]; simpa using x3
        have HV:Hid (za3 lit (.mk 4 0 s items keys) = true):=Lib.hid (by simp [za3,leafB,enumB,i1,q1,hnm,x1,x2,x3])
        clear HRD HL HLK
        clear x1 x2 x3
        go_enter Tryz.func204, Tryz.ntmps204
        go_wp2_with fail
        refine HNAME.out.mono ?_
        rintro e w' ⟨rfl,rfl⟩
        rw [hnm]
        go_wp2_with fail
        go_ret
        exact ⟨by rw [HV.out]; rfl,B1.out⟩
   ·have q1:¬ keys.length = 0:=by have:=HLK.out; omega
    have q2:((lk:Int) == 0) = false:=beq_eq_false_iff_ne.2 (by omega)
    clear q0
    have HV:Hid (za3 lit (.mk 4 0 s items keys) = false):=Lib.hid (by simp [za3,leafB,enumB,i1,q1])
    clear HRD HL HLK
    go_enter Tryz.func204, Tryz.ntmps204
    go_wp2_with fail
    go_ret
    exact ⟨by rw [HV.out]; rfl,B1.out⟩
  ·have i1:¬ items.length = 0:=by have:=HL.out; omega
   have i2:((li:Int) == 0) = false:=beq_eq_false_iff_ne.2 (by omega)
   clear i0
   have HV:Hid (za3 lit (.mk 4 0 s items keys) = false):=Lib.hid (by simp [za3,leafB,enumB,i1])
   clear HRD HL HLK
   go_enter Tryz.func204, Tryz.ntmps204
   go_wp2_with fail
   go_ret
   exact ⟨by rw [HV.out]; rfl,B1.out⟩
 ·have n0':(n == 0) = false:=beq_eq_false_iff_ne.2 n0
  have HV:Hid (za3 lit (.mk 4 n s items keys) = false):=Lib.hid (by simp [za3,leafB,enumB,n0])
  clear HRD HL HLK
  go_enter Tryz.func204, Tryz.ntmps204
  go_wp2_with fail
  go_ret
  exact ⟨by rw [HV.out]; rfl,B1.out⟩
end Go.Proofs.YthjoelpfmimedaaGreatDoor
namespace Go.Proofs.YthjoelpfmimedaaGreatDoor
open Go.RowKit
theorem zt1 {α:Type} {l:List α} {p : α → Bool} {k:Nat} {x : α} (h:l[k]? = some x) (hp:p x = false):l.all p = false:=by
 rw [Bool.eq_false_iff]
 intro ha
 have:=List.all_eq_true.1 ha x (List.mem_of_getElem? h)
 rw [hp] at this; cases this
theorem zq6 {α:Type} {l:List α} {p : α → Bool} {k:Nat} {x : α} (h:l[k]? = some x) (ha:(l.take k).all p = true) (hp:p x = true):(l.take (k + 1)).all p = true:=by
 rw [List.take_add_one,h,List.all_append,ha]
 simp [hp]
theorem zz7 (lit:Bool):∀ l:List VT,zb1 lit l = l.all (zb2 lit)
 | [] => rfl
 | t :: u => by rw [zb1,zz7 lit u,List.all_cons]
theorem rnode_eq (lit:Bool) (k n:Int) (s:ByteArray) (is:List VT) (ks:List ByteArray) :
  nodeB lit (.mk k n s is ks) = (za3 lit (.mk k n s is ks) && (!lit || ks.all nmA)):=by
 unfold nodeB za3
 have e6:∀ a b c d e:Bool,(a && b && c && (d && e)) = (a && b && c && e && d):=by decide
 have e4:∀ a b c:Bool,(a && b && c) = (a && c && b):=by decide
 by_cases hk:ks = []
 ·subst hk
  simp only [List.all_nil,Bool.or_true,Bool.and_true]
  repeat' split
  all_goals first
   | rfl
   | exact e4 _ _ _
   | (cases lit <;> simp [keysB])
   | skip
 ·have hl:ks.length ≠ 0:=fun e => hk (List.eq_nil_of_length_eq_zero e)
  have hf:leafB is ks = false:=by simp [leafB,hk]
  simp only [hf,Bool.and_false,hl,decide_false]
  repeat' split
  all_goals first
   | rfl
   | exact e6 _ _ _ _ _
   | skip
end Go.Proofs.YthjoelpfmimedaaGreatDoor
