
/-
 Texts joined: KFact3 I6 I7 R1 R2 R3.
-/
import Derived.Test.YthjoelpfmimedaaGreatDoorZp19
import Derived.Test.YthjoelpfmimedaaGreatDoorZp13
namespace Go.Proofs.YthjoelpfmimedaaGreatDoor.K
open Go.RowKit
def wordK (p:Tk):List UInt8:=if p.1 = 4 then T1.ze3 p.2.1 else p.2.1
inductive GoodK:Int → List UInt8 → Prop
 | sign {c:UInt8} (h:c ∈ sgL):GoodK 1 [c]
 | dots:GoodK 1 elL
 | name {t:List UInt8} (h:T1.nameL t = true):GoodK 2 t
 | int {t:List UInt8} (h:(T1.numL t).2 = 0):GoodK 3 t
 | text (t:List UInt8):GoodK 4 t
theorem TokIs.good {l:List UInt8} {k:Int} {t:List UInt8} {n:Nat} (h:TokIs l k t n):GoodK k t:=by
 cases h with
 | sign h => exact .sign h
 | dots r => exact .dots
 | name h hn => exact .name hn
 | int h hn => exact .int hn
 | text hl hu => exact .text _
theorem zB8 {t:List UInt8} (h:T1.nameL t = true):∃ c u,t = c :: u ∧ T1.letU (c.toNat:Int) = true ∧ t.all wdB = true:=by
 unfold T1.nameL at h
 cases t with
 | nil => simp at h
 | cons c u =>
   simp only [Bool.and_eq_true,Bool.not_eq_true'] at h
   obtain ⟨⟨_,hd⟩,ha⟩:=h
   have hd:T1.digB (c.toNat:Int) = false:=hd
   have h1:(c :: u).all wdB = true:=ha
   refine ⟨c,u,rfl, ?_,h1⟩
   rw [List.all_cons,Bool.and_eq_true] at h1
   have h2:T1.nmB (c.toNat:Int) = true:=h1.1
   rw [T1.nm_of,hd,Bool.or_false] at h2
   exact h2
theorem dig_wd:∀ c:UInt8,T1.digB (c.toNat:Int) = true → wdB c = true ∧ dmB c = true:=zh7 (by decide +kernel)
theorem yh2 {t:List UInt8} (h:T1.allDg t = true):t.all wdB = true:=by
 unfold T1.allDg at h
 rw [List.all_eq_true] at h ⊢
 exact fun c hc => (dig_wd c (h c hc)).1
theorem zK4 {t:List UInt8} (h:(T1.numL t).2 = 0):∃ c u,t = c :: u ∧ dmB c = true ∧ u.all wdB = true:=by
 have hd:T1.decL t = true:=by
  cases hx:T1.decL t with
  | true => rfl
  | false => rw [T1.zu1 hx] at h; cases h
 rcases T1.zy2 hd with rfl | ⟨d,hne,_,hdg,rfl | rfl,_⟩
 ·exact ⟨48,[],rfl,by decide,rfl⟩
 ·obtain ⟨c,u,rfl⟩:=List.exists_cons_of_ne_nil hne
  have h2:=T1.zk8.1 hdg
  exact ⟨c,u,rfl,(dig_wd c h2.1).2,yh2 h2.2⟩
 ·exact ⟨45,d,rfl,by decide,yh2 hdg⟩
theorem esc_run:∀ c:UInt8,runL ltS false (T1.escL c) = some false:=zh7 (by decide +kernel)
theorem zT0:∀ t:List UInt8,runL ltS false (t.flatMap T1.escL) = some false
 | [] => rfl
 | c :: t => by rw [List.flatMap_cons,zR7 _ _ _ _ (esc_run c)]; exact zT0 t
theorem lt_quote (t r:List UInt8):ltN (t.flatMap T1.escL ++ 34 :: r) = (t.flatMap T1.escL).length:=by
 unfold ltN
 rw [zu6 _ _ _ _ (zT0 t)]
 rfl
theorem tok_word {k:Int} {t:List UInt8} (j:Nat) (h:GoodK k t) (r:List UInt8) (hr:wdH r = false):TokIs (wordK (k,t,j) ++ r) k t (wordK (k,t,j)).length:=by
 cases h with
 | sign h => exact .sign h
 | dots => exact .dots r
 | name h =>
   obtain ⟨c,u,rfl,hc,ha⟩:=zB8 h
   have e:=(zY2 (c :: u) r).2 ⟨ha,hr⟩
   have e2:(c :: u ++ r).take (wdN (c :: u ++ r)) = c :: u:=by rw [e,List.take_left]
   have:=TokIs.name (l:=c :: u ++ r) hc (by rw [e2]; exact h)
   rw [e2,e] at this
   exact this
 | int h =>
   obtain ⟨c,u,rfl,hc,ha⟩:=zK4 h
   have e:=(zY2 u r).2 ⟨ha,hr⟩
   have e2:(c :: u ++ r).take (wdN ((c :: u ++ r).drop 1) + 1) = c :: u:=by
    show (c :: (u ++ r)).take (wdN (u ++ r) + 1) = _
    rw [e,List.take_succ_cons,List.take_left]
   have:=TokIs.int (l:=c :: u ++ r) hc (by rw [e2]; exact h)
   rw [e2] at this
   have e3:wdN ((c :: u ++ r).drop 1) + 1 = (c :: u).length:=by
    show wdN (u ++ r) + 1 = _
    rw [e]; rfl
   rw [e3] at this
   exact this
 | text t =>
   have ew:wordK (4,t,j) = 34 :: (t.flatMap T1.escL ++ [34]):=rfl
   have el:ltN (t.flatMap T1.escL ++ [34] ++ r) = (t.flatMap T1.escL).length:=by rw [List.append_assoc]; exact lt_quote t r
   have e2:(t.flatMap T1.escL ++ [34] ++ r).take (ltN (t.flatMap T1.escL ++ [34] ++ r) + 1) = t.flatMap T1.escL ++ [34]:=by
    rw [el]
    have:(t.flatMap T1.escL).length + 1 = (t.flatMap T1.escL ++ [34]).length:=by simp
    rw [this,List.take_left]
   have:=TokIs.text (r:=t.flatMap T1.escL ++ [34] ++ r) (t:=t) (by rw [el]; simp) (by rw [e2]; exact T1.zD3 t)
   rw [el] at this
   rw [ew]
   have hn:(34 :: (t.flatMap T1.escL ++ [34])).length = (t.flatMap T1.escL).length + 2:=by simp
   rw [hn]
   exact this
theorem zG5 {k:Int} {t:List UInt8} (j:Nat) (h:GoodK k t):∃ c u,wordK (k,t,j) = c :: u ∧ sepS false c = none:=by
 cases h with
 | sign h => exact ⟨_,[],rfl,zu9 _ (.inl h)⟩
 | dots => exact ⟨_,_,rfl,zu9 _ (.inr (.inl rfl))⟩
 | name h =>
   obtain ⟨c,u,rfl,hc,ha⟩:=zB8 h
   exact ⟨c,u,rfl,zu9 _ (.inr (.inr (.inl (zO7 _ hc))))⟩
 | int h =>
   obtain ⟨c,u,rfl,hc,ha⟩:=zK4 h
   exact ⟨c,u,rfl,zu9 _ ((zF7 _ hc).elim (fun h => .inr (.inr (.inl h))) (fun h => .inr (.inr (.inr (.inl h)))))⟩
 | text t => exact ⟨34,_,rfl,zu9 _ (.inr (.inr (.inr (.inr rfl))))⟩
def tailK:List Tk → List UInt8
 | [] => []
 | p :: r => 32 :: (wordK p ++ tailK r)
def joinK:List Tk → List UInt8
 | [] => []
 | p :: r => wordK p ++ tailK r
theorem zH5 (ps:List Tk):wdH (tailK ps) = false:=by
 cases ps with
 | nil => exact zQ6
 | cons p r => exact (by decide:wdB 32 = false)
theorem zR4 {k:Int} {t:List UInt8} {j:Nat} (hg:GoodK k t) (pre:List UInt8) (hp:pre = [] ∨ pre = [32]) (r:List UInt8) (hr:wdH r = false) (f b:Nat) (ts:List Tk) (h:scF f (b + pre.length + (wordK (k,t,j)).length) r = .ok ts) :
  scF (f + 1) b (pre ++ (wordK (k,t,j) ++ r)) = .ok ((k,t,b + pre.length) :: ts):=by
 obtain ⟨c,u,hc,hs⟩:=zG5 j hg
 have ht:=tok_word j hg r hr
 have h0:spanL sepS false (wordK (k,t,j) ++ r) = 0:=by
  rw [hc,List.cons_append,spanL,hs]
 have hn:sepN (pre ++ (wordK (k,t,j) ++ r)) = pre.length:=by
  unfold sepN
  rw [zu6 pre false false _ (by rcases hp with rfl | rfl <;> rfl),h0]; rfl
 rw [zn3,hn,List.drop_left,if_neg (by rw [hc]; simp),ht.eq]
 simp only
 rw [List.drop_left,h]
theorem zv0:∀ (ps:List Tk) (f b:Nat),(∀ p ∈ ps,GoodK p.1 p.2.1) → ps.length < f → ∃ ts j,scF f b (tailK ps) = .ok ts ∧ alike (ps ++ [(5,[],j)]) ts
 | _,0,_,_,h => absurd h (Nat.not_lt_zero _)
 | [],f + 1,b,_,_ => ⟨[(5,[],b)],b,rfl,rfl⟩
 | (k,t,j) :: ps,f + 1,b,hg,h => by
  obtain ⟨ts,e,h1,h2⟩:=zv0 ps f (b + 1 + (wordK (k,t,j)).length) (fun p hp => hg p (List.mem_cons_of_mem _ hp)) (Nat.lt_of_succ_lt_succ h)
  exact ⟨_,e,zR4 (hg _ (List.mem_cons_self)) [32] (.inr rfl) (tailK ps) (zH5 ps) f b ts h1,zC4 h2⟩
theorem ya4 (ps:List Tk) (f b:Nat) (hg:∀ p ∈ ps,GoodK p.1 p.2.1) (h:ps.length < f):∃ ts j,scF f b (joinK ps) = .ok ts ∧ alike (ps ++ [(5,[],j)]) ts:=by
 cases ps with
 | nil => exact zv0 [] f b hg h
 | cons p ps =>
   obtain ⟨k,t,j⟩:=p
   cases f with
   | zero => exact absurd h (Nat.not_lt_zero _)
   | succ f =>
     obtain ⟨ts,e,h1,h2⟩:=zv0 ps f (b + 0 + (wordK (k,t,j)).length) (fun p hp => hg p (List.mem_cons_of_mem _ hp)) (Nat.lt_of_succ_lt_succ h)
     exact ⟨_,e,zR4 (hg _ (List.mem_cons_self)) [] (.inl rfl) (tailK ps) (zH5 ps) f b ts h1,zC4 h2⟩
theorem zY9:∀ (f:Nat) (l t:List UInt8),T1.unqF f l = some t → t.length ≤ l.length
 | 0,l,t,h => by
   unfold T1.unqF at h
   split at h
   ·cases h; exact Nat.zero_le _
   ·cases h
 | f + 1,l,t,h => by
   unfold T1.unqF at h
   split at h
   ·cases h; exact Nat.zero_le _
   ·cases hs:T1.stepL l with
    | none => rw [hs] at h; cases h
    | some p =>
      obtain ⟨b,k⟩:=p
      rw [hs] at h
      have hk:=T1.zm1 hs
      simp only at h
      cases hr:T1.unqF f (l.drop k) with
      | none => rw [hr] at h; cases h
      | some t2 =>
        rw [hr] at h
        cases h
        have:=zY9 f _ _ hr
        rw [List.length_drop] at this
        show t2.length + 1 ≤ _
        omega
theorem zz8 {l t:List UInt8} (h:T1.zb4 l = some t):t.length + 2 ≤ l.length:=by
 unfold T1.zb4 at h
 split at h
 ·next h2 =>
  have:=zY9 _ _ _ h
  unfold T1.midL at this
  rw [List.length_take,List.length_drop] at this
  omega
 ·cases h
theorem word_len {l:List UInt8} {k:Int} {t:List UInt8} {n:Nat} (j:Nat) (h:TokIs l k t n) (hl:l ≠ []):(wordK (k,t,j)).length ≤ 6 * n:=by
 have hn:=(h.at hl).2.2.2.2
 have h1:=(h.at hl).1
 by_cases h4:k = 4
 ·subst h4
  cases h with
  | @text r t hlt hu =>
    have h2:=zz8 hu
    rw [List.length_cons,List.length_take] at h2
    have h3:=T1.zF5 t
    show (T1.ze3 t).length ≤ _
    unfold T1.ze3
    simp only [List.length_cons,List.length_append,List.length_nil]
    omega
 ·have e:wordK (k,t,j) = t:=if_neg h4
  rw [e,(hn h4).2]; omega
theorem zt9:∀ (f a:Nat) (l:List UInt8) (ts:List Tk) (ps:List Tk) (x:Tk),scF f a l = .ok ts → ts = ps ++ [x] → (tailK ps).length ≤ 7 * l.length ∧ ps.length ≤ l.length ∧ (∀ p ∈ ps,GoodK p.1 p.2.1)
 | 0,_,_,_,_,_,h,_ => by cases h
 | f + 1,a,l,ts,ps,x,h,hp => by
   have hsz:sepN l ≤ l.length:=zm2 l
   rcases ya5 h with ⟨he,rfl⟩ | ⟨k,t,n,ts2,he,ht,hs,rfl⟩
   ·have:ps = []:=by
     cases ps with
     | nil => rfl
     | cons q ps => have:=congrArg List.length hp; simp at this
    subst this
    exact ⟨Nat.zero_le _,Nat.zero_le _,fun p hp => by simp at hp⟩
   ·cases ps with
    | nil => exact ⟨Nat.zero_le _,Nat.zero_le _,fun p hp => by simp at hp⟩
    | cons p ps =>
      injection hp with e1 e2
      subst e1
      obtain ⟨g1,g2,g3⟩:=zt9 f _ _ ts2 ps x hs e2
      have hn:=(ht.at he).1
      have hn2:=(ht.at he).2.1
      have hw:=word_len (a + sepN l) ht he
      rw [List.length_drop,List.length_drop] at g1 g2
      rw [List.length_drop] at hn2
      refine ⟨?_, ?_, ?_⟩
      ·show (32 :: (wordK (k,t,a + sepN l) ++ tailK ps)).length ≤ _
       rw [List.length_cons,List.length_append]; omega
      ·rw [List.length_cons]; omega
      ·intro q hq
       rcases List.mem_cons.1 hq with rfl | hq
       ·exact ht.good
       ·exact g3 q hq
theorem join_le (ps:List Tk):(joinK ps).length ≤ (tailK ps).length:=by
 cases ps with
 | nil => exact Nat.le_refl _
 | cons p r => show (wordK p ++ tailK r).length ≤ (32 :: (wordK p ++ tailK r)).length; rw [List.length_cons]; omega
end Go.Proofs.YthjoelpfmimedaaGreatDoor.K
namespace Go.Proofs.YthjoelpfmimedaaGreatDoor
open Go.RowKit
theorem tokR_ok {l:List UInt8} {k:Int} {t:List UInt8} {n:Nat} (h:K.tokR l = .ok (k,t,n)):1 ≤ k ∧ k ≤ 4 ∧ t.length ≤ l.length + 3:=by
 unfold K.tokR at h
 simp only at h
 split at h
 ·cases h; exact ⟨by omega,by omega,by rw [List.length_take]; omega⟩
 ·split at h
  ·cases h; exact ⟨by omega,by omega,by show 3 ≤ _; omega⟩
  ·split at h
   ·split at h
    ·cases h; exact ⟨by omega,by omega,by rw [List.length_take]; omega⟩
    ·cases h
   ·split at h
    ·split at h
     ·cases h; exact ⟨by omega,by omega,by rw [List.length_take]; omega⟩
     ·cases h
    ·split at h
     ·split at h
      ·cases h
      ·split at h
       ·cases h
       ·next hu =>
        have:=K.zz8 hu
        rw [List.length_take] at this
        cases h; exact ⟨by omega,by omega,by omega⟩
     ·cases h
theorem zR6:∀ (f at':Nat) (l:List UInt8) (ts:List Tk),K.scF f at' l = .ok ts → at' + l.length ≤ 70000 → (∃ i t,ts = i ++ [t] ∧ t.1 = 5) ∧ (∀ t ∈ ts,TkOk t) ∧ ts.length ≤ l.length + 1
 | 0,_,_,_,h,_ => by simp [K.scF] at h
 | f + 1,at',l,ts,h,hl => by
   have hsp:=K.zm2 l
   unfold K.scF at h
   by_cases he:l.drop (K.sepN l) = []
   ·rw [if_pos he] at h
    cases h
    refine ⟨⟨[],_,rfl,rfl⟩,fun t ht => ?_,by simp⟩
    rw [List.mem_singleton] at ht
    subst ht
    exact ⟨by show (0:Int) ≤ 5; omega,by show (5:Int) ≤ 5; omega,by simp,by show at' + K.sepN l ≤ _; omega⟩
   ·rw [if_neg he] at h
    cases ht:K.tokR (l.drop (K.sepN l)) with
    | error c => rw [ht] at h; cases h
    | ok q =>
      obtain ⟨k,t,n⟩:=q
      rw [ht] at h
      have h1:=K.zt7 he ht
      have h2:=tokR_ok ht
      rw [List.length_drop] at h1 h2
      simp only at h
      cases hr:K.scF f (at' + K.sepN l + n) ((l.drop (K.sepN l)).drop n) with
      | error e => rw [hr] at h; cases h
      | ok r =>
        rw [hr] at h
        cases h
        have hll:((l.drop (K.sepN l)).drop n).length = l.length - K.sepN l - n:=by rw [List.length_drop,List.length_drop]
        obtain ⟨⟨i,u,e,h5⟩,hok,hlen⟩:=zR6 f _ _ r hr (by rw [hll]; omega)
        refine ⟨⟨_ :: i,u,by rw [e]; rfl,h5⟩,fun v hv => ?_,by rw [List.length_cons]; rw [hll] at hlen; omega⟩
        rcases List.mem_cons.1 hv with rfl | hv
        ·exact ⟨by show (0:Int) ≤ k; omega,by show k ≤ 5; omega,by show t.length ≤ _; omega,by show at' + K.sepN l ≤ _; omega⟩
        ·exact hok v hv
theorem scR_good {l:List UInt8} {ts:List Tk} (h:K.scR l = .ok ts):Good ts:=by
 unfold K.scR at h
 split at h
 ·cases h
 ·obtain ⟨h1,h2,h3⟩:=zR6 _ _ _ _ h (by omega)
  exact ⟨h1,h2,by omega⟩
def sdlF (el:DfT) (s:List UInt8):Except Er (List DefT):=match K.scR s with
 | .error x => .error x
 | .ok ts => exB (docR el ts) fun q => .ok q.1
def zq7 (w:World) (r:Except Er (List DefT)) (e:Ending) (w':World):Prop:=Below w.heap.size w w' ∧ match r with
 | .ok l => ∃ v,e = .returned (.tuple #[.agg #[v],.int .i64 0,.int .i64 0]) ∧ DefsC w' (fun b => w.heap.size ≤ b ∧ b < w'.heap.size) v l
 | .error x => e = .returned (.tuple #[.agg #[.slice none 0 0],.int .i64 x.1,.int .i64 x.2])
abbrev w3 (w:World):World:=((w.alloc (.cells #[.slice none 0 0] 24 (0,0))).alloc (.cells #[.int .i64 0] 3 (0,0))).alloc (.cells #[.int .i64 0] 28 (0,0))
structure Res3 (w:World) (v0 v1 v2:Value) (W:World):Prop where
 d:Bk W w.heap.size #[v0] 24
 a:Bk W (w.heap.size + 1) #[v1] 3
 c:Bk W (w.heap.size + 1 + 1) #[v2] 28
 below:Below w.heap.size w W
 size:w.heap.size + 3 ≤ W.heap.size
theorem Res3.new (w:World):Res3 w (.slice none 0 0) (.int .i64 0) (.int .i64 0) (w3 w):=by
 have b1:=za0 w (.cells #[.slice none 0 0] 24 (0,0))
 have x1:=Bk.new w #[.slice none 0 0] 24
 unfold w3
 generalize hw1:w.alloc (.cells #[.slice none 0 0] 24 (0,0)) = w1 at *
 have s1:w1.heap.size = w.heap.size + 1:=by rw [← hw1,World.size_alloc]
 have b2:=za0 w1 (.cells #[.int .i64 0] 3 (0,0))
 have x2:=Bk.new w1 #[.int .i64 0] 3
 rw [s1] at x2
 generalize hw2:w1.alloc (.cells #[.int .i64 0] 3 (0,0)) = w2 at *
 have s2:w2.heap.size = w.heap.size + 2:=by rw [← hw2,World.size_alloc,s1]
 have b3:=za0 w2 (.cells #[.int .i64 0] 28 (0,0))
 have x3:=Bk.new w2 #[.int .i64 0] 28
 rw [s2] at x3
 have s3:(w2.alloc (.cells #[.int .i64 0] 28 (0,0))).heap.size = w.heap.size + 3:=by rw [World.size_alloc,s2]
 exact ⟨(x1.stay b2).stay b3,x2.stay b3,x3,(b1.trans (b2.mono b1.size)).trans (b3.mono (by omega)),by omega⟩
theorem tat_of {w:World} {base:Nat} {v:Value} {ts:List Tk} (h:K.OwnT w base v ts) (hne:0 < ts.length):∃ a c,v = .slice (some a) ts.length c ∧ ts.length ≤ c ∧ base ≤ a.block ∧ a.block < w.heap.size ∧
  ∀ i t,ts[i]? = some t → w.cell? (a.add (i * 3)) = some (.int .i64 t.1) ∧ w.cell? ⟨(a.add (i * 3)).block,(a.add (i * 3)).off + 1,none⟩ = some (.string ⟨t.2.1.toArray⟩) ∧ w.cell? ⟨(a.add (i * 3)).block,(a.add (i * 3)).off + 2,none⟩ = some (.int .i64 t.2.2):=by
 have hh:=K.OwnT.z h
 unfold K.OwnZ at hh
 have hlt:=fun g hg => zf1 hh (g:=g) hg
 rw [K.zH4] at hh
 rcases hh.2 with ⟨_,hz⟩ | ⟨g,cap,cur,rfl,h1,h2,h3,_⟩
 ·omega
 ·have hl:=hlt g rfl
  refine ⟨_,_,rfl,h3,hl.1,hl.2,fun i t hi => ?_⟩
  have hcell:=hh.cells (g:=g) rfl
  have hi2:(K.tz ts)[i]? = some (t.1,t.2.1,(t.2.2:Int)):=by unfold K.tz; rw [List.getElem?_map,hi]; rfl
  obtain ⟨z0,z1,z2⟩:=K.zC_at (K.tz ts) i _ hi2
  have e:∀ n,(⟨g,0,none⟩ : Addr).add n = ⟨g,n,none⟩:=fun n => by unfold Addr.add; split <;> simp_all
  have k0:=hcell _ _ z0
  have k1:=hcell _ _ z1
  have k2:=hcell _ _ z2
  rw [e] at k0 k1 k2
  rw [e]
  exact ⟨k0,k1,k2⟩
variable {w W W':World} {v0 v1 v2:Value}
theorem Res3.stay (h:Res3 w v0 v1 v2 W) (hb:Below W.heap.size W W'):Res3 w v0 v1 v2 W':=⟨h.d.stay hb,h.a.stay hb,h.c.stay hb,h.below.trans (hb.mono (by have:=h.size; omega)),Nat.le_trans h.size hb.size⟩
theorem Res3.setA (h:Res3 w v0 v1 v2 W) (u:Value):Res3 w v0 u v2 (W.setCell ⟨w.heap.size + 1,0,none⟩ u) :=
 ⟨h.d.off (by omega) 0 u,h.a.set 0 u,h.c.off (by omega) 0 u,h.below.setCell (p:=⟨w.heap.size + 1,0,none⟩) (by show w.heap.size ≤ w.heap.size + _; omega) u,by have:=h.size; simp [World.setCell]; exact this⟩
theorem Res3.setC (h:Res3 w v0 v1 v2 W) (u:Value):Res3 w v0 v1 u (W.setCell ⟨w.heap.size + 1 + 1,0,none⟩ u) :=
 ⟨h.d.off (by omega) 0 u,h.a.off (by omega) 0 u,h.c.set 0 u,h.below.setCell (p:=⟨w.heap.size + 1 + 1,0,none⟩) (by show w.heap.size ≤ w.heap.size + 1 + 1; omega) u,by have:=h.size; simp [World.setCell]; exact this⟩
theorem Res3.setD (h:Res3 w v0 v1 v2 W) (u:Value):Res3 w u v1 v2 (W.setCell ⟨w.heap.size,0,none⟩ u) :=
 ⟨h.d.set 0 u,h.a.off (by omega) 0 u,h.c.off (by omega) 0 u,h.below.setCell (p:=⟨w.heap.size,0,none⟩) (Nat.le_refl _) u,by have:=h.size; simp [World.setCell]; exact this⟩
theorem Res3.drew (h:Res3 w v0 v1 v2 W):Res3 w v0 v1 v2 W.drew:=h.stay ((Below.refl _ _).drew)
set_option maxRecDepth 100000 in
set_option maxHeartbeats 1000000 in
theorem zU5 (el:DfT) (hel:∀ (p k:Nat) (W:World) (ts:List Tk) (m:Nat),PSt W p ts m → kdR (hd ts) = k → k ≠ 0 → Calls Tryz.prog 56 #[pP p,.int .i64 k] W (WPost DefV W p (el k ts)))
  (hlt:∀ (k:Nat) (ts:List Tk) (x:DefT) (ts':List Tk),el k ts = .ok (x,ts') → ts'.length < ts.length) (s:ByteArray) (w:World) (hL:K.LK w) :
  Calls Tryz.prog 12 #[.string s] w (zq7 w (sdlF el s.data.toList)):=by
 have hmf:∀ (fn:Fn) (first cap:Array Value) (w:World),(Instr.makeFunc fn first cap).run Tryz.prog w = .ok (.func fn first cap) w:=fun _ _ _ _ => rfl
 have hsf:∀ (A:Addr) (w:World),(store A (.func (.func 28) #[] #[])).run Tryz.prog w = stored Tryz.prog w A (.func (.func 28) #[] #[]) .plain:=fun A w => run_store _ w A _ _ rfl
 have HR:=Lib.hid (Res3.new w)
 have HSC:=Lib.hid (K.scan_any s (w3 w) (hL.below (Res3.new w).below))
 have HL3:=Lib.hid (hL.below (Res3.new w).below)
 have HV:Hid (sdlF el s.data.toList = match K.scR s.data.toList with
  | .error x => .error x
  | .ok ts => exB (docR el ts) fun q => .ok q.1):=Lib.hid rfl
 have HL:=Lib.hid hL
 clear hL
 cases hsc:K.scR s.data.toList with
 | error x =>
   rw [hsc] at HSC HV
   have HV2:Hid (sdlF el s.data.toList = .error x):=HV
   generalize sdlF el s.data.toList = RR at *
   clear hsc HV hel hlt
   go_enter_defers Tryz.func12,Tryz.ntmps12
   go_wp2_with fail
   refine HSC.out.mono ?_
   rintro e w4 ⟨⟨rfl,hx2⟩,hb⟩
   have hr:=HR.out.stay hb
   have HR4:=Lib.hid hr
   have p0:=hr.d.cell 0 _ rfl
   have p1:=hr.a.cell 0 _ rfl
   have p2:=hr.c.cell 0 _ rfl
   have g0:=hr.d.frz 0
   have g1:=hr.a.frz 0
   have g2:=hr.c.frz 0
   have hne:(x.2 != 0) = true:=by rw [bne_iff_ne]; exact hx2
   clear hb hr hx2
   go_wp2_with fail
   go_region
   go_wp2_with fail
   have HZ:=Lib.hid (((((HR4.out.setA (.int .i64 x.1)).setC (.int .i64 x.2)).setD (.slice none 0 0)).setA (.int .i64 x.1)).setC (.int .i64 x.2)).drew
   have z0:=HZ.out.d.cell 0 _ rfl
   have z1:=HZ.out.a.cell 0 _ rfl
   have z2:=HZ.out.c.cell 0 _ rfl
   simp only [bodyPostD,Leaves]
   exact ⟨.tuple #[.agg #[.slice none 0 0],.int .i64 x.1,.int .i64 x.2],by simp [results,Tryz.results12,go_sem,z0,z1,z2],HZ.out.below,by rw [HV2.out]⟩
 | ok ts =>
   rw [hsc] at HSC HV
   have hg:=scR_good hsc
   have HV2:Hid (sdlF el s.data.toList = exB (docR el ts) fun q => .ok q.1):=HV
   have HDOC:=Lib.hid (fun p W m (h:PSt W p ts m) => zE1 p el (hel p) hlt W ts m h)
   have HG:=Lib.hid hg
   have hne0:0 < ts.length:=by obtain ⟨t,r,e⟩:=hg.ne; rw [e]; simp
   generalize sdlF el s.data.toList = RR at *
   clear hsc HV hel hlt hg
   go_enter_defers Tryz.func12,Tryz.ntmps12
   go_wp2_with fail
   refine HSC.out.mono ?_
   rintro e w4 ⟨⟨v,rfl,hown⟩,hb⟩
   obtain ⟨a,c,rfl,hc,ha1,ha2,hcells⟩:=tat_of hown hne0
   have hr:=HR.out.stay hb
   have HR4:=Lib.hid hr
   have HB4:=Lib.hid hb
   have hs3:=HR.out.size
   have hs4:=hb.size
   have hl4:=HL3.out.below hb
   have hr5:Res3 w (.slice none 0 0) (.int .i64 0) (.int .i64 0) ((w4.setCell ⟨w.heap.size + 1,0,none⟩ (.int .i64 0)).setCell ⟨w.heap.size + 1 + 1,0,none⟩ (.int .i64 0)):=(hr.setA (.int .i64 0)).setC (.int .i64 0)
   have hs5:((w4.setCell ⟨w.heap.size + 1,0,none⟩ (.int .i64 0)).setCell ⟨w.heap.size + 1 + 1,0,none⟩ (.int .i64 0)).heap.size = w4.heap.size:=by simp [World.setCell]
   have hb6:=za0 ((w4.setCell ⟨w.heap.size + 1,0,none⟩ (.int .i64 0)).setCell ⟨w.heap.size + 1 + 1,0,none⟩ (.int .i64 0)) (.cells #[.slice (some a) ts.length c,fnV,.bool false,.int .i64 0] 72 (0,0))
   have hk6:=Bk.new ((w4.setCell ⟨w.heap.size + 1,0,none⟩ (.int .i64 0)).setCell ⟨w.heap.size + 1 + 1,0,none⟩ (.int .i64 0)) #[.slice (some a) ts.length c,fnV,.bool false,.int .i64 0] 72
   rw [hs5] at hk6 hb6
   have hr6:Res3 w (.slice none 0 0) (.int .i64 0) (.int .i64 0) (((w4.setCell ⟨w.heap.size + 1,0,none⟩ (.int .i64 0)).setCell ⟨w.heap.size + 1 + 1,0,none⟩ (.int .i64 0)).alloc (.cells #[.slice (some a) ts.length c,fnV,.bool false,.int .i64 0] 72 (0,0))):=hr5.stay (by rw [hs5]; exact hb6)
   have hps:PSt (((w4.setCell ⟨w.heap.size + 1,0,none⟩ (.int .i64 0)).setCell ⟨w.heap.size + 1 + 1,0,none⟩ (.int .i64 0)).alloc (.cells #[.slice (some a) ts.length c,fnV,.bool false,.int .i64 0] 72 (0,0))) w4.heap.size ts 0:=by
    refine ⟨⟨some a,c,hk6,hc,a,rfl,ha2,fun i t hi => ?_⟩,HG.out,by omega,fun w2 h2 => ?_⟩
    ·obtain ⟨q0,q1,q2⟩:=hcells i t hi
     have hh:(((w4.setCell ⟨w.heap.size + 1,0,none⟩ (.int .i64 0)).setCell ⟨w.heap.size + 1 + 1,0,none⟩ (.int .i64 0)).alloc (.cells #[.slice (some a) ts.length c,fnV,.bool false,.int .i64 0] 72 (0,0))).heap[a.block]? = w4.heap[a.block]?:=by
      rw [hb6.block a.block ha2,Below.heap_setCell _ _ _ _ (by show a.block ≠ w.heap.size + 1 + 1; omega),Below.heap_setCell _ _ _ _ (by show a.block ≠ w.heap.size + 1; omega)]
     have hk:∀ o,(((w4.setCell ⟨w.heap.size + 1,0,none⟩ (.int .i64 0)).setCell ⟨w.heap.size + 1 + 1,0,none⟩ (.int .i64 0)).alloc (.cells #[.slice (some a) ts.length c,fnV,.bool false,.int .i64 0] 72 (0,0))).cell? ⟨(a.add (i * 3)).block,o,none⟩ = w4.cell? ⟨(a.add (i * 3)).block,o,none⟩:=fun o => zc2 (a:=⟨(a.add (i * 3)).block,o,none⟩) (by rw [za1]; exact hh)
     exact ⟨(zc2 (by rw [za1]; exact hh)).trans q0,(hk _).trans q1,(hk _).trans q2⟩
    ·exact HL.out.num.below (hr6.below.trans (h2.mono (by omega)))
   have HP:=Lib.hid hps
   have HR6:=Lib.hid hr6
   have p0:=hr.d.cell 0 _ rfl
   have p1:=hr.a.cell 0 _ rfl
   have p2:=hr.c.cell 0 _ rfl
   have g1:=hr.a.frz 0
   have g2:=hr.c.frz 0
   have hs6:w4.heap.size + 1 = (((w4.setCell ⟨w.heap.size + 1,0,none⟩ (.int .i64 0)).setCell ⟨w.heap.size + 1 + 1,0,none⟩ (.int .i64 0)).alloc (.cells #[.slice (some a) ts.length c,fnV,.bool false,.int .i64 0] 72 (0,0))).heap.size:=by rw [World.size_alloc,hs5]
   have HS6:=Lib.hid hs6
   clear hb hr hown hcells hr5 hk6 hb6 hr6 hps hs6
   go_wp2_with fail
   refine (HDOC.out _ _ _ HP.out).mono ?_
   have hs6:=HS6.out
   have hd6:=HR6.out
   clear p0 p1 p2 g1 g2
   generalize ((w4.setCell ⟨w.heap.size + 1,0,none⟩ (.int .i64 0)).setCell ⟨w.heap.size + 1 + 1,0,none⟩ (.int .i64 0)).alloc (.cells #[.slice (some a) ts.length c,fnV,.bool false,.int .i64 0] 72 (0,0)) = w6 at *
   rintro e w7 (⟨l,ts',v,m',hre,rfl,⟨u,rfl,hx⟩,hp,ht⟩ | ⟨x,hre,rfl,ht⟩)
   ·have HD:=Lib.hid (HV2.out.trans (za4 hre))
    have hr7:Res3 w (.slice none 0 0) (.int .i64 0) (.int .i64 0) w7:=⟨hd6.d.far ht (by omega),hd6.a.far ht (by omega),hd6.c.far ht (by omega),hd6.below.trans (ht.below (by omega) |>.mono (by omega)),by have:=hd6.size; have:=ht.size; omega⟩
    obtain ⟨A,cc,hu,_⟩:=SlS.form hx
    subst hu
    have HR7:=Lib.hid hr7
    have HX:=Lib.hid hx
    have p0:=hr7.d.cell 0 _ rfl
    have p1:=hr7.a.cell 0 _ rfl
    have p2:=hr7.c.cell 0 _ rfl
    have g0:=hr7.d.frz 0
    have g1:=hr7.a.frz 0
    have g2:=hr7.c.frz 0
    have hs7:=ht.size
    clear hre hp ht hr7 hx
    go_wp2_with fail
    simp only [bodyPostD]
    refine leaves_cons (f := 27) (args:=#[.pointer (some ⟨w.heap.size,0,none⟩),.pointer (some ⟨w.heap.size + 1,0,none⟩),.pointer (some ⟨w.heap.size + 1 + 1,0,none⟩)]) (by simp) (by simp [go_sem]) ?_
    refine (catch_i _ _ _ _).mono ?_
    rintro e u' w9 ⟨rfl,rfl,hb⟩
    have hr8:=((HR7.out.setD (.slice A l.length cc)).setA (.int .i64 0)).setC (.int .i64 0)
    have hr9:=hr8.stay hb
    have z0:=hr9.d.cell 0 _ rfl
    have z1:=hr9.a.cell 0 _ rfl
    have z2:=hr9.c.cell 0 _ rfl
    have hs8:(((w7.setCell ⟨w.heap.size,0,none⟩ (.slice A l.length cc)).setCell ⟨w.heap.size + 1,0,none⟩ (.int .i64 0)).setCell ⟨w.heap.size + 1 + 1,0,none⟩ (.int .i64 0)).heap.size = w7.heap.size:=by simp [World.setCell]
    have hs9:=hb.size
    rw [hs8] at hs9 hb
    have h6z:=HR6.out.size
    simp only [settle,Leaves]
    refine ⟨.tuple #[.agg #[.slice A l.length cc],.int .i64 0,.int .i64 0],by simp [results,Tryz.results12,go_sem,z0,z1,z2],hr9.below, ?_⟩
    rw [HD.out]
    refine ⟨_,rfl,SlS.kept DefC.stays HX.out (fun b hb2 => ?_) (fun b hb2 => ⟨by omega,by omega⟩)⟩
    rw [hb.block b hb2.2,Below.heap_setCell _ _ _ _ (by show b ≠ w.heap.size + 1 + 1; omega),Below.heap_setCell _ _ _ _ (by show b ≠ w.heap.size + 1; omega),Below.heap_setCell _ _ _ _ (by show b ≠ w.heap.size; omega)]
   ·have HD:=Lib.hid (HV2.out.trans (za5 hre))
    have hr7:Res3 w (.slice none 0 0) (.int .i64 0) (.int .i64 0) w7:=⟨hd6.d.far ht (by omega),hd6.a.far ht (by omega),hd6.c.far ht (by omega),hd6.below.trans (ht.below (by omega) |>.mono (by omega)),by have:=hd6.size; have:=ht.size; omega⟩
    have HR7:=Lib.hid hr7
    clear hre ht hr7
    unfold badV
    simp only [bodyPostD]
    refine leaves_cons (f := 27) (args:=#[.pointer (some ⟨w.heap.size,0,none⟩),.pointer (some ⟨w.heap.size + 1,0,none⟩),.pointer (some ⟨w.heap.size + 1 + 1,0,none⟩)]) (by simp) (by simp [go_sem]) ?_
    refine (catch_p _ _ _ _ x [] _ _ _ HR7.out.d HR7.out.a HR7.out.c (by omega) (by omega) (by omega)).mono ?_
    rintro e u' w9 ⟨rfl,rfl,q0,q1,q2,hoff⟩
    have z0:=q0.cell 0 _ rfl
    have z1:=q1.cell 0 _ rfl
    have z2:=q2.cell 0 _ rfl
    have hbel:Below w.heap.size w w9:=HR7.out.below.trans ⟨hoff.os,hoff.tape,hoff.output,hoff.size,fun b hb => hoff.block b (by have:=HR7.out.size; omega) (by omega) (by omega) (by omega)⟩
    simp only [settle,Leaves,List.dropWhile_nil]
    refine ⟨.tuple #[.agg #[.slice none 0 0],.int .i64 x.1,.int .i64 x.2],by simp [results,Tryz.results12,go_sem,z0,z1,z2],hbel, ?_⟩
    rw [HD.out]
end Go.Proofs.YthjoelpfmimedaaGreatDoor
namespace Go.Proofs.YthjoelpfmimedaaGreatDoor
open Go.RowKit
def valP:ElT:=vF obV 24 1
def wvP:List Tk → Except Er (VT × List Tk):=whP valP
def argX:=argP wvP
def dirX:=dirP argX
def inpX:=inpP refP wvP dirX
def fldX:=fldP inpX refP dirX
def memX:=memP dirX
def defX (k:Nat):List Tk → Except Er (DefT × List Tk):=if k = 1 then df1 fldX dirX else if k = 2 then df2 fldX dirX else if k = 3 then df3 dirX else if k = 4 then df4 memX dirX else df5 inpX dirX
def sdlR (s:List UInt8):Except Er (List DefT):=sdlF defX s
theorem valP_lt:LtE valP:=vF_con (fun _ h => obV_con h) 24 1
theorem wvP_lt:LtT wvP:=whP_con valP_lt
theorem argX_lt:LtT argX:=argP_con wvP_lt.le
theorem dirX_lt:LtT dirX:=dirP_con argX_lt.le
theorem inpX_lt:LtT inpX:=inpP_con refP_con.le wvP_lt.le dirX_lt.le
theorem fldX_lt:LtT fldX:=fldP_con inpX_lt.le refP_con.le dirX_lt.le
theorem memX_lt:LtT memX:=memP_con dirX_lt.le
theorem defX_lt (k:Nat):LtT (defX k):=by
 unfold defX
 split
 ·exact df1_con dirX_lt.le fldX_lt.le
 split
 ·exact df2_con dirX_lt.le fldX_lt.le
 split
 ·exact df3_con dirX_lt.le
 split
 ·exact df4_con dirX_lt.le memX_lt.le
 ·exact df5_con dirX_lt.le inpX_lt.le
variable {p:Nat} {W:World} {ts:List Tk} {m:Nat}
theorem pwv (h:PSt W p ts m):Calls Tryz.prog 176 #[pP p] W (WPost ValW W p (wvP ts)) :=
 zw3 p valP (fun W ts h => zO0 p obV (fun lv el h24 hel => zO2 p lv el h24 hel) 24 1 (by omega) W ts 0 h (by omega)) W ts m h
theorem parg {q1 q2:Nat} (hq:∀ W',Tw p W.heap.size W W' → W'.cell? ⟨q1,0,none⟩ = some (pP p) ∧ W'.cell? ⟨q2,0,none⟩ = some (whV p)) (h:PSt W p ts m):Calls Tryz.prog 268 #[.pointer (some ⟨q1,0,none⟩),.pointer (some ⟨q2,0,none⟩)] W (WPost ArgV W p (argX ts)):=zE4 q1 q2 p wvP (fun _ _ _ h => pwv h) W hq ts m h
theorem pargs (h:PSt W p ts m):Calls Tryz.prog 244 #[pP p,whV p] W (WPost ArgsC W p (argsP argX ts)):=zz3 p argX (fun _ _ _ _ _ hq h _ => parg hq h) (fun _ _ _ _ _ h => argX_lt _ _ _ h) W ts m h
theorem pdir (h:PSt W p ts m):Calls Tryz.prog 215 #[pP p,whV p] W (WPost DirV W p (dirX ts)):=zz2 p argX (fun _ _ _ h => pargs h) W ts m h
theorem pinp (h:PSt W p ts m):Calls Tryz.prog 125 #[pP p] W (WPost InpV W p (inpX ts)) :=
 zW2 p refP (fun W ts m h => zn7 p W ts m h) wvP (fun _ _ _ h => pwv h) dirX (fun _ _ _ h _ => pdir h) (fun _ _ _ _ _ h => dirX_lt _ _ _ h) W ts m h
theorem pfld (h:PSt W p ts m):Calls Tryz.prog 120 #[pP p] W (WPost FldV W p (fldX ts)) :=
 zW3 p inpX (fun _ _ _ h _ => pinp h) (fun _ _ _ _ _ h => inpX_lt _ _ _ h) refP (fun W ts m h => zn7 p W ts m h) dirX (fun _ _ _ h _ => pdir h) (fun _ _ _ _ _ h => dirX_lt _ _ _ h) W ts m h
theorem pmem (h:PSt W p ts m):Calls Tryz.prog 123 #[pP p] W (WPost MemV W p (memX ts)) :=
 zO3 p dirX (fun _ _ _ h _ => pdir h) (fun _ _ _ _ _ h => dirX_lt _ _ _ h) W ts m h
theorem yf2 (h:kdR (hd ts) ≠ 0):isNm ts = true:=by
 unfold kdR at h
 split at h
 ·next e => exact decide_eq_true e
 ·exact absurd rfl h
theorem kdX_le (x:ByteArray):kdX x ≤ 5:=by
 unfold kdX
 repeat' split
 all_goals omega
theorem kdR_le (t:Tk):kdR t ≤ 5:=by
 unfold kdR
 split
 ·exact kdX_le _
 ·omega
theorem pdef (k:Nat) (h:PSt W p ts m) (hk:kdR (hd ts) = k) (h0:k ≠ 0):Calls Tryz.prog 56 #[pP p,.int .i64 k] W (WPost DefV W p (defX k ts)):=by
 have hn:isNm ts = true:=yf2 (by rw [hk]; exact h0)
 have h5:k ≤ 5:=hk ▸ kdR_le _
 have hc:k = 1 ∨ k = 2 ∨ k = 3 ∨ k = 4 ∨ k = 5:=by omega
 rcases hc with rfl | rfl | rfl | rfl | rfl
 ·exact yd4 p fldX (fun _ _ _ h _ => pfld h) (fun _ _ _ _ _ h => fldX_lt _ _ _ h) dirX (fun _ _ _ h _ => pdir h) (fun _ _ _ _ _ h => dirX_lt _ _ _ h) W ts m hn h
 ·exact yd3 p fldX (fun _ _ _ h _ => pfld h) (fun _ _ _ _ _ h => fldX_lt _ _ _ h) dirX (fun _ _ _ h _ => pdir h) (fun _ _ _ _ _ h => dirX_lt _ _ _ h) W ts m hn h
 ·exact yd2 p dirX (fun _ _ _ h _ => pdir h) (fun _ _ _ _ _ h => dirX_lt _ _ _ h) W ts m hn h
 ·exact yd1 p memX (fun _ _ _ h _ => pmem h) (fun _ _ _ _ _ h => memX_lt _ _ _ h) dirX (fun _ _ _ h _ => pdir h) (fun _ _ _ _ _ h => dirX_lt _ _ _ h) W ts m hn h
 ·exact yd0 p inpX (fun _ _ _ h _ => pinp h) (fun _ _ _ _ _ h => inpX_lt _ _ _ h) dirX (fun _ _ _ h _ => pdir h) (fun _ _ _ _ _ h => dirX_lt _ _ _ h) W ts m hn h
theorem zm3 (s:ByteArray) (w:World) (hL:K.LK w):Calls Tryz.prog 12 #[.string s] w (zq7 w (sdlR s.data.toList)) :=
 zU5 defX (fun _ k _ _ _ h hk h0 => pdef k h hk h0) (fun k ts x ts' h => defX_lt k ts x ts' h) s w hL
#print axioms zm3
end Go.Proofs.YthjoelpfmimedaaGreatDoor
namespace Go.Proofs.YthjoelpfmimedaaGreatDoor
open Go.RowKit
inductive Lk (tl:List Tk):List Tk → List Tk → Prop
 | stop {e:Tk} (h:e.1 = 5):Lk tl [e] tl
 | step {t u:Tk} {ts us:List Tk} (h5:t.1 ≠ 5) (hk:t.1 = u.1) (hx:t.2.1 = u.2.1) (h:Lk tl ts us):Lk tl (t :: ts) (u :: us)
def En (tl:List Tk):Prop:=∃ e:Tk,tl = [e] ∧ e.1 = 5
def TlOk (tl:List Tk):Prop:=En tl ∨ kdR (hd tl) ≠ 0
def Rq {β:Type} (tl:List Tk) (Q : β → β → Prop) (r1 r2:Except Er β):Prop:=match r1 with
 | .ok b => ∃ b',r2 = .ok b' ∧ Q b b'
 | .error z => En tl → ∃ z',r2 = .error z' ∧ z'.2 = z.2 ∧ z.2 ≠ 0
def Q1 {α:Type} (tl:List Tk) (b b' : α × List Tk):Prop:=b.1 = b'.1 ∧ Lk tl b.2 b'.2
def Q3 {α:Type} (tl:List Tk) (b b' : α × List Tk × Nat):Prop:=b.1 = b'.1 ∧ Lk tl b.2.1 b'.2.1 ∧ b.2.2 = b'.2.2
variable {tl:List Tk}
theorem Rq.ok {β:Type} {Q : β → β → Prop} {b b' : β} (h:Q b b'):Rq tl Q (.ok b) (.ok b'):=⟨b',rfl,h⟩
theorem Rq.er {β:Type} {Q : β → β → Prop} {z z':Er} (h:z'.2 = z.2 ∧ z.2 ≠ 0):Rq tl Q (.error z:Except Er β) (.error z'):=fun _ => ⟨z',rfl,h⟩
theorem Rq.bind {α β:Type} {Q : α → α → Prop} {Q' : β → β → Prop} {r1 r2:Except Er α} {k1 k2 : α → Except Er β} (h:Rq tl Q r1 r2) (hk:∀ b b',Q b b' → Rq tl Q' (k1 b) (k2 b')):Rq tl Q' (exB r1 k1) (exB r2 k2):=by
 cases r1 with
 | ok b =>
   obtain ⟨b',rfl,hq⟩:=h
   exact hk b b' hq
 | error z =>
   intro he
   obtain ⟨z',rfl,hz⟩:=h he
   exact ⟨z',rfl,hz⟩
theorem Lk.len {ts us:List Tk} (hT:TlOk tl) (h:Lk tl ts us):ts.length ≤ us.length ∧ (En tl → ts.length = us.length):=by
 induction h with
 | stop he =>
   refine ⟨?_, ?_⟩
   ·rcases hT with ⟨e,rfl,_⟩ | hT
    ·simp
    ·cases tl with
     | nil => exact absurd rfl hT
     | cons a r => simp
   ·rintro ⟨e,rfl,_⟩; simp
 | step h5 hk hx h ih =>
   simp only [List.length_cons]
   exact ⟨by omega,fun he => by have:=ih.2 he; omega⟩
theorem kd2 {t:Tk} (h:kdR t ≠ 0):t.1 = 2:=by
 unfold kdR at h
 split at h
 ·assumption
 ·exact absurd rfl h
theorem zK6 {tl:List Tk} (hT:TlOk tl):(hd tl).1 = 5 ∨ (hd tl).1 = 2:=by
 rcases hT with ⟨e,rfl,h⟩ | h
 ·exact .inl h
 ·exact .inr (kd2 h)
theorem Lk.sg {ts us:List Tk} (hT:TlOk tl) (h:Lk tl ts us) (s:List UInt8):isSg s us = isSg s ts ∧ (isSg s ts = true → Lk tl ts.tail us.tail):=by
 cases h with
 | @stop e he =>
   have h1:isSg s [e] = false:=by unfold isSg hd; simp [he]
   have h2:isSg s tl = false:=by unfold isSg; rcases zK6 hT with h | h <;> simp [h]
   rw [h1,h2]
   exact ⟨rfl,fun h => by cases h⟩
 | @step t u ts us h5 hk hx h =>
   refine ⟨?_,fun _ => h⟩
   unfold isSg hd
   simp [hk,hx]
theorem Lk.nm {ts us:List Tk} (hT:TlOk tl) (h:Lk tl ts us):(isNm ts = true → isNm us = true ∧ Lk tl ts.tail us.tail ∧ (hd us).2.1 = (hd ts).2.1) ∧ (isNm ts = false → En tl → isNm us = false):=by
 cases h with
 | @stop e he =>
   have h1:isNm [e] = false:=by unfold isNm hd; simp [he]
   rw [h1]
   refine ⟨fun h => (by cases h),fun _ hE => ?_⟩
   obtain ⟨e',rfl,h'⟩:=hE
   unfold isNm hd; simp [h']
 | @step t u ts us h5 hk hx h =>
   have e:isNm (u :: us) = isNm (t :: ts):=by unfold isNm hd; simp [hk]
   rw [e]
   exact ⟨fun hn => ⟨hn,h,hx.symm⟩,fun hn _ => hn⟩
variable (hT:TlOk tl)
include hT
theorem sg_q {ts us:List Tk} (h:Lk tl ts us) (s:List UInt8):Rq tl (Lk tl) (sgR s ts) (sgR s us):=by
 obtain ⟨h1,h2⟩:=h.sg hT s
 unfold sgR
 rw [h1]
 by_cases e:isSg s ts = true
 ·rw [if_pos e,if_pos e]; exact Rq.ok (h2 e)
 ·rw [if_neg e,if_neg e]; exact Rq.er ⟨rfl,by first | decide | simp [erR] | (intro hz; cases hz)⟩
theorem nm_q {ts us:List Tk} (h:Lk tl ts us):Rq tl (Q1 tl) (nmR ts) (nmR us):=by
 obtain ⟨h1,h2⟩:=h.nm hT
 unfold nmR
 by_cases e:isNm ts = true
 ·obtain ⟨a,b,c⟩:=h1 e
  rw [if_pos e,if_pos a]
  exact Rq.ok ⟨by rw [c],b⟩
 ·rw [if_neg e]
  intro hE
  rw [if_neg (by rw [h2 (by simpa using e) hE]; decide)]
  exact ⟨_,rfl,rfl,by first | decide | simp [erR] | (intro hz; cases hz)⟩
theorem bn_q {ts us:List Tk} (h:Lk tl ts us) (c m:Nat):Rq tl (fun _ _ => True) (bgR (isNm ts) c m ts) (bgR (isNm us) c m us):=by
 obtain ⟨h1,h2⟩:=h.nm hT
 unfold bgR
 cases e:isNm ts with
 | true =>
   rw [(h1 e).1]
   simp only [if_true]
   split
   ·exact Rq.er ⟨rfl,by first | decide | simp [erR] | (intro hz; cases hz)⟩
   ·exact Rq.ok trivial
 | false =>
   intro hE
   rw [h2 e hE]
   exact ⟨_,rfl,rfl,by first | decide | simp [erR] | (intro hz; cases hz)⟩
omit hT in
theorem bt_q (ts us:List Tk) (c m:Nat):Rq tl (fun _ _ => True) (bgR true c m ts) (bgR true c m us):=by
 unfold bgR
 simp only [if_true]
 split
 ·exact Rq.er ⟨rfl,by first | decide | simp [erR] | (intro hz; cases hz)⟩
 ·exact Rq.ok trivial
def Sim {α:Type} (tl:List Tk) (el:List Tk → Except Er (α × List Tk)):Prop:=∀ ts us,Lk tl ts us → Rq tl (Q1 tl) (el ts) (el us)
theorem bls_q {α:Type} {cl:List UInt8} {most:Nat} {el:List Tk → Except Er (α × List Tk)} (he:Sim tl el):∀ (f g:Nat) (l:List α) (ts us:List Tk),f ≤ g → (En tl → f = g) → Lk tl ts us → Rq tl (Q1 tl) (bls cl most el f l ts) (bls cl most el g l us)
 | 0,g,l,ts,us,_,hE,_ => fun h => by rw [← hE h]; exact ⟨_,rfl,rfl,by first | decide | simp [erR] | (intro hz; cases hz)⟩
 | f + 1,0,l,ts,us,h,_,_ => absurd h (Nat.not_succ_le_zero _)
 | f + 1,g + 1,l,ts,us,h,hE,hl => by
   rw [zd7,zd7]
   obtain ⟨h1,h2⟩:=hl.sg hT cl
   rw [h1]
   by_cases e:l.length ≠ 0 ∧ isSg cl ts = true
   ·rw [if_pos e,if_pos e]; exact Rq.ok ⟨rfl,h2 e.2⟩
   ·rw [if_neg e,if_neg e]
    refine (bn_q hT hl _ _).bind fun _ _ _ => (he _ _ hl).bind fun b b' hb => ?_
    rw [← hb.1]
    exact bls_q he f g _ _ _ (by omega) (fun h => by have:=hE h; omega) hb.2
theorem bl_q {α:Type} {op cl:List UInt8} {most:Nat} {el:List Tk → Except Er (α × List Tk)} (he:Sim tl el):Sim tl (blR op cl most el):=fun ts us h => by
 refine (sg_q hT h op).bind fun b b' hb => ?_
 have:=hb.len hT
 exact bls_q hT he _ _ _ _ _ (by omega) (fun h => by have:=this.2 h; omega) hb
theorem nms_q {sep:List UInt8}:∀ (f g:Nat) (l:List ByteArray) (ts us:List Tk),f ≤ g → (En tl → f = g) → Lk tl ts us → Rq tl (Q1 tl) (nms sep f l ts) (nms sep g l us)
 | 0,g,l,ts,us,_,hE,_ => fun h => by rw [← hE h]; exact ⟨_,rfl,rfl,by first | decide | simp [erR] | (intro hz; cases hz)⟩
 | f + 1,0,l,ts,us,h,_,_ => absurd h (Nat.not_succ_le_zero _)
 | f + 1,g + 1,l,ts,us,h,hE,hl => by
   rw [zi2,zi2]
   obtain ⟨h1,h2⟩:=hl.sg hT sep
   rw [h1]
   by_cases e:l.length ≠ 0 ∧ isSg sep ts = false
   ·rw [if_pos e,if_pos e]; exact Rq.ok ⟨rfl,hl⟩
   ·rw [if_neg e,if_neg e]
    have hl2:Lk tl (if l.length = 0 then ts else ts.tail) (if l.length = 0 then us else us.tail):=by
     by_cases h0:l.length = 0
     ·rw [if_pos h0,if_pos h0]; exact hl
     ·rw [if_neg h0,if_neg h0]
      refine h2 ?_
      cases q:isSg sep ts with
      | true => rfl
      | false => exact absurd ⟨h0,q⟩ e
    refine (bn_q hT hl2 _ _).bind fun _ _ _ => (nm_q hT hl2).bind fun b b' hb => ?_
    rw [← hb.1]
    exact nms_q f g _ _ _ (by omega) (fun h => by have:=hE h; omega) hb.2
theorem zK2 {sep:List UInt8}:Sim tl (nmsR sep):=fun ts us h => by
 have:=h.len hT
 exact nms_q hT _ _ _ _ _ (by omega) (fun h => by have:=this.2 h; omega) h
theorem drs_q {el:List Tk → Except Er (DirT × List Tk)} (he:Sim tl el):∀ (f g:Nat) (l:List DirT) (ts us:List Tk),f ≤ g → (En tl → f = g) → Lk tl ts us → Rq tl (Q1 tl) (drs el f l ts) (drs el g l us)
 | 0,g,l,ts,us,_,hE,_ => fun h => by rw [← hE h]; exact ⟨_,rfl,rfl,by first | decide | simp [erR] | (intro hz; cases hz)⟩
 | f + 1,0,l,ts,us,h,_,_ => absurd h (Nat.not_succ_le_zero _)
 | f + 1,g + 1,l,ts,us,h,hE,hl => by
   rw [zj7,zj7]
   obtain ⟨h1,h2⟩:=hl.sg hT [64]
   rw [h1]
   by_cases e:isSg [64] ts = false
   ·rw [if_pos e,if_pos e]; exact Rq.ok ⟨rfl,hl⟩
   ·rw [if_neg e,if_neg e]
    refine (bt_q _ _ _ _).bind fun _ _ _ => (he _ _ hl).bind fun b b' hb => ?_
    rw [← hb.1]
    exact drs_q he f g _ _ _ (by omega) (fun h => by have:=hE h; omega) hb.2
theorem zn1 {el:List Tk → Except Er (DirT × List Tk)} (he:Sim tl el):Sim tl (drsR el):=fun ts us h => by
 have:=h.len hT
 exact drs_q hT he _ _ _ _ _ (by omega) (fun h => by have:=this.2 h; omega) h
theorem brk_q {ts us:List Tk} (h:Lk tl ts us):(brk ts).1 = (brk us).1 ∧ Lk tl (brk ts).2 (brk us).2:=by
 induction h with
 | @stop e he =>
   have h1:isSg [91] [e] = false:=by unfold isSg hd; simp [he]
   have h2:isSg [91] tl = false:=by unfold isSg; rcases zK6 hT with h | h <;> simp [h]
   have h3:brk tl = (0,tl):=by
    cases tl with
    | nil => rfl
    | cons a r => rw [brk,if_neg (by rw [h2]; decide)]
   rw [brk,if_neg (by rw [h1]; decide),h3]
   exact ⟨rfl,.stop he⟩
 | @step t u ts us h5 hk hx h ih =>
   have h1:=((Lk.step h5 hk hx h).sg hT [91]).1
   rw [brk,brk,h1]
   by_cases e:isSg [91] (t :: ts) = true
   ·rw [if_pos e,if_pos e]; exact ⟨by rw [ih.1],ih.2⟩
   ·rw [if_neg e,if_neg e]; exact ⟨rfl,.step h5 hk hx h⟩
theorem nn_q {ts us:List Tk} (h:Lk tl ts us) (xs:List Int):(nnP xs ts).1 = (nnP xs us).1 ∧ Lk tl (nnP xs ts).2 (nnP xs us).2:=by
 obtain ⟨h1,h2⟩:=h.sg hT [33]
 unfold nnP
 rw [h1]
 by_cases e:isSg [33] ts = true
 ·rw [if_pos e,if_pos e]; exact ⟨rfl,h2 e⟩
 ·rw [if_neg e,if_neg e]; exact ⟨rfl,h⟩
theorem cls_q:∀ (k:Nat) (xs:List Int) (ts us:List Tk),Lk tl ts us → Rq tl (Q1 tl) (cls k xs ts) (cls k xs us)
 | 0,xs,ts,us,h => Rq.ok ⟨rfl,h⟩
 | k + 1,xs,ts,us,h => by
   rw [cls,cls]
   refine (sg_q hT h [93]).bind fun b b' hb => ?_
   obtain ⟨h1,h2⟩:=nn_q hT hb (xs ++ [2])
   rw [← h1]
   exact cls_q k _ _ _ h2
theorem ref_q:Sim tl refP:=fun ts us h => by
 obtain ⟨h1,h2⟩:=brk_q hT h
 unfold refP
 rw [← h1]
 refine (nm_q hT h2).bind fun b b' hb => ?_
 obtain ⟨h3,h4⟩:=nn_q hT hb.2 []
 rw [← h3]
 refine (cls_q hT _ _ _ _ h4).bind fun c c' hc => ?_
 unfold refE
 rw [← hc.1, ← hb.1]
 split
 ·exact Rq.er ⟨rfl,by first | decide | simp [erR] | (intro hz; cases hz)⟩
 ·exact Rq.ok ⟨rfl,hc.2⟩
def Sim3 (tl:List Tk) (el:ElT):Prop:=∀ ts us n,Lk tl ts us → Rq tl (Q3 tl) (el ts n) (el us n)
theorem ls_q {el:ElT} (he:Sim3 tl el):∀ (f g:Nat) (l:List VT) (ts us:List Tk) (n:Nat),f ≤ g → (En tl → f = g) → Lk tl ts us → Rq tl (Q3 tl) (lsP el f l ts n) (lsP el g l us n)
 | 0,g,l,ts,us,n,_,hE,_ => fun h => by rw [← hE h]; exact ⟨_,rfl,rfl,by first | decide | simp [erR] | (intro hz; cases hz)⟩
 | f + 1,0,l,ts,us,n,h,_,_ => absurd h (Nat.not_succ_le_zero _)
 | f + 1,g + 1,l,ts,us,n,h,hE,hl => by
   rw [zj5,zj5]
   obtain ⟨h1,h2⟩:=hl.sg hT [93]
   rw [h1]
   by_cases e:isSg [93] ts = true
   ·rw [if_pos e,if_pos e]; exact Rq.ok ⟨rfl,h2 e,rfl⟩
   ·rw [if_neg e,if_neg e]
    refine (he _ _ n hl).bind fun b b' hb => ?_
    rw [← hb.1, ← hb.2.2]
    exact ls_q he f g _ _ _ _ (by omega) (fun h => by have:=hE h; omega) hb.2.1
theorem lsV_q {el:ElT} (he:Sim3 tl el):Sim3 tl (lsV el):=fun ts us n h => by
 have:=h.len hT
 refine (ls_q hT he _ _ [] _ _ n (by omega) (fun h => by have:=this.2 h; omega) h).bind fun b b' hb => ?_
 exact Rq.ok ⟨by rw [hb.1],hb.2.1,hb.2.2⟩
theorem key_q (ks:List ByteArray) {ts us:List Tk} (h:Lk tl ts us):Rq tl (Q1 tl) (keyP ks ts) (keyP ks us):=by
 refine (nm_q hT h).bind fun b b' hb => ?_
 rw [← hb.1]
 split
 ·exact Rq.er ⟨rfl,by first | decide | simp [erR] | (intro hz; cases hz)⟩
 ·exact Rq.ok ⟨hb.1,hb.2⟩
def Q4 {α β:Type} (tl:List Tk) (b b' : α × β × List Tk × Nat):Prop:=b.1 = b'.1 ∧ b.2.1 = b'.2.1 ∧ Lk tl b.2.2.1 b'.2.2.1 ∧ b.2.2.2 = b'.2.2.2
theorem ob_q {el:ElT} (he:Sim3 tl el):∀ (f g:Nat) (ks:List ByteArray) (l:List VT) (ts us:List Tk) (n:Nat),f ≤ g → (En tl → f = g) → Lk tl ts us → Rq tl (Q4 tl) (obP el f ks l ts n) (obP el g ks l us n)
 | 0,g,ks,l,ts,us,n,_,hE,_ => fun h => by rw [← hE h]; exact ⟨_,rfl,rfl,by first | decide | simp [erR] | (intro hz; cases hz)⟩
 | f + 1,0,ks,l,ts,us,n,h,_,_ => absurd h (Nat.not_succ_le_zero _)
 | f + 1,g + 1,ks,l,ts,us,n,h,hE,hl => by
   rw [zj4,zj4]
   obtain ⟨h1,h2⟩:=hl.sg hT [125]
   rw [h1]
   by_cases e:isSg [125] ts = true
   ·rw [if_pos e,if_pos e]; exact Rq.ok ⟨rfl,rfl,h2 e,rfl⟩
   ·rw [if_neg e,if_neg e]
    refine (key_q hT ks hl).bind fun b b' hb => (sg_q hT hb.2 [58]).bind fun c c' hc => (he _ _ n hc).bind fun d d' hd => ?_
    rw [← hb.1, ← hd.1, ← hd.2.2]
    exact ob_q he f g _ _ _ _ _ (by omega) (fun h => by have:=hE h; omega) hd.2.1
theorem obV_q {el:ElT} (he:Sim3 tl el):Sim3 tl (obV el):=fun ts us n h => by
 have:=h.len hT
 refine (ob_q hT he _ _ [] [] _ _ n (by omega) (fun h => by have:=this.2 h; omega) h).bind fun b b' hb => ?_
 exact Rq.ok ⟨by rw [hb.1,hb.2.1],hb.2.2.1,hb.2.2.2⟩
theorem bv_q (lv n:Nat) {ts us:List Tk} (h:Lk tl ts us):Rq tl (fun _ _ => isVal ts = true) (bvR lv ts n) (bvR lv us n):=by
 have hv:(isVal ts = true → isVal us = true) ∧ (isVal ts = false → En tl → isVal us = false):=by
  cases h with
  | @stop e he =>
    have h1:isVal [e] = false:=by unfold isVal isSg hd; simp [he]
    rw [h1]
    refine ⟨fun h => (by cases h),fun _ hE => ?_⟩
    obtain ⟨e',rfl,h'⟩:=hE
    unfold isVal isSg hd; simp [h']
  | @step t u ts us h5 hk hx h =>
    have e:isVal (u :: us) = isVal (t :: ts):=by unfold isVal isSg hd; simp [hk,hx]
    rw [e]
    exact ⟨fun h => h,fun h _ => h⟩
 unfold bvR
 cases e:isVal ts with
 | false =>
   intro hE
   rw [hv.2 e hE]
   exact ⟨_,rfl,rfl,by first | decide | simp [erR] | (intro hz; cases hz)⟩
 | true =>
   rw [hv.1 e]
   simp only [Bool.true_eq_false,if_false]
   by_cases h24:24 < lv
   ·rw [if_pos h24,if_pos h24]; exact Rq.er ⟨rfl,by first | decide | simp [erR] | (intro hz; cases hz)⟩
   ·rw [if_neg h24,if_neg h24]
    by_cases hn:4096 < n + 1
    ·rw [if_pos hn,if_pos hn]; exact Rq.er ⟨rfl,by first | decide | simp [erR] | (intro hz; cases hz)⟩
    ·rw [if_neg hn,if_neg hn]; exact ⟨(),rfl,trivial⟩
theorem va_q (lv:Nat) {L O:ElT} (hL:Sim3 tl L) (hO:Sim3 tl O):Sim3 tl (vaP lv L O):=fun ts us n h => by
 refine (bv_q hT lv n h).bind fun _ _ hv => ?_
 cases h with
 | @stop e he =>
   exfalso
   unfold isVal isSg hd at hv; simp [he] at hv
 | @step t u ts us h5 hk hx h =>
   show Rq tl (Q3 tl) (if t.1 = 2 then .ok (nmV ⟨t.2.1.toArray⟩,ts,n + 1) else if t.1 = 3 then .ok (nuV ⟨t.2.1.toArray⟩,ts,n + 1) else if t.1 = 4 then .ok (.mk 3 0 ⟨t.2.1.toArray⟩ [] [],ts,n + 1) else if t.2.1 = [91] then L ts (n + 1) else O ts (n + 1))
    (if u.1 = 2 then .ok (nmV ⟨u.2.1.toArray⟩,us,n + 1) else if u.1 = 3 then .ok (nuV ⟨u.2.1.toArray⟩,us,n + 1) else if u.1 = 4 then .ok (.mk 3 0 ⟨u.2.1.toArray⟩ [] [],us,n + 1) else if u.2.1 = [91] then L us (n + 1) else O us (n + 1))
   rw [← hk, ← hx]
   by_cases k2:t.1 = 2
   ·rw [if_pos k2,if_pos k2]; exact Rq.ok ⟨rfl,h,rfl⟩
   rw [if_neg k2,if_neg k2]
   by_cases k3:t.1 = 3
   ·rw [if_pos k3,if_pos k3]; exact Rq.ok ⟨rfl,h,rfl⟩
   rw [if_neg k3,if_neg k3]
   by_cases k4:t.1 = 4
   ·rw [if_pos k4,if_pos k4]; exact Rq.ok ⟨rfl,h,rfl⟩
   rw [if_neg k4,if_neg k4]
   by_cases k5:t.2.1 = [91]
   ·rw [if_pos k5,if_pos k5]; exact hL _ _ _ h
   ·rw [if_neg k5,if_neg k5]; exact hO _ _ _ h
theorem vF_q:∀ f lv,Sim3 tl (vF obV f lv):=by
 intro f
 induction f with
 | zero => exact fun lv => va_q hT lv (fun _ _ _ _ => Rq.er ⟨rfl,by first | decide | simp [erR] | (intro hz; cases hz)⟩) (fun _ _ _ _ => Rq.er ⟨rfl,by first | decide | simp [erR] | (intro hz; cases hz)⟩)
 | succ f ih => exact fun lv => va_q hT lv (lsV_q hT (ih _)) (obV_q hT (ih _))
theorem wv_q:Sim tl wvP:=fun ts us h => by
 refine (vF_q hT 24 1 ts us 0 h).bind fun b b' hb => ?_
 exact Rq.ok ⟨hb.1,hb.2.1⟩
theorem arg_q:Sim tl argX:=fun ts us h => by
 refine (nm_q hT h).bind fun b b' hb => (sg_q hT hb.2 [58]).bind fun c c' hc => (wv_q hT _ _ hc).bind fun d d' hd => ?_
 exact Rq.ok ⟨by rw [hb.1,hd.1],hd.2⟩
theorem dir_q:Sim tl dirX:=fun ts us h => by
 refine (sg_q hT h [64]).bind fun c c' hc => (nm_q hT hc).bind fun b b' hb => ?_
 obtain ⟨h1,_⟩:=hb.2.sg hT [40]
 rw [h1]
 by_cases e:isSg [40] b.2 = true
 ·rw [if_pos e,if_pos e]
  refine (bl_q hT (arg_q hT) _ _ hb.2).bind fun d d' hd => ?_
  exact Rq.ok ⟨by rw [hb.1,hd.1],hd.2⟩
 ·rw [if_neg e,if_neg e]
  exact Rq.ok ⟨by rw [hb.1],hb.2⟩
theorem inp_q:Sim tl inpX:=fun ts us h => by
 refine (nm_q hT h).bind fun b b' hb => (sg_q hT hb.2 [58]).bind fun c c' hc => (ref_q hT _ _ hc).bind fun d d' hd => ?_
 obtain ⟨h1,h2⟩:=hd.2.sg hT [61]
 rw [h1]
 by_cases e:isSg [61] d.2 = true
 ·rw [if_pos e,if_pos e]
  refine (wv_q hT _ _ (h2 e)).bind fun x x' hx => (zn1 hT (dir_q hT) _ _ hx.2).bind fun y y' hy => ?_
  exact Rq.ok ⟨by rw [hb.1,hd.1,hx.1,hy.1],hy.2⟩
 ·rw [if_neg e,if_neg e]
  refine (zn1 hT (dir_q hT) _ _ hd.2).bind fun y y' hy => ?_
  exact Rq.ok ⟨by rw [hb.1,hd.1,hy.1],hy.2⟩
theorem zK9 (nm:ByteArray) (gs:List InpT):Sim tl (fldQ refP dirX nm gs):=fun ts us h => by
 refine (sg_q hT h [58]).bind fun c c' hc => (ref_q hT _ _ hc).bind fun d d' hd => (zn1 hT (dir_q hT) _ _ hd.2).bind fun y y' hy => ?_
 exact Rq.ok ⟨by rw [hd.1,hy.1],hy.2⟩
theorem fld_q:Sim tl fldX:=fun ts us h => by
 refine (nm_q hT h).bind fun b b' hb => ?_
 obtain ⟨h1,_⟩:=hb.2.sg hT [40]
 rw [h1]
 by_cases e:isSg [40] b.2 = true
 ·rw [if_pos e,if_pos e]
  refine (bl_q hT (inp_q hT) _ _ hb.2).bind fun d d' hd => ?_
  rw [← hb.1, ← hd.1]
  exact zK9 hT _ _ _ _ hd.2
 ·rw [if_neg e,if_neg e, ← hb.1]
  exact zK9 hT _ _ _ _ hb.2
theorem mem_q:Sim tl memX:=fun ts us h => by
 refine (nm_q hT h).bind fun b b' hb => (zn1 hT (dir_q hT) _ _ hb.2).bind fun y y' hy => ?_
 exact Rq.ok ⟨by rw [hb.1,hy.1],hy.2⟩
omit hT in
theorem yf1 {x:ByteArray} (h:kdX x ≠ 0):x ≠ implS:=by
 rintro rfl
 exact h (by decide)
theorem imp_q:Sim tl impP:=fun ts us h => by
 unfold impP
 cases h with
 | @stop e he =>
   have h1:isNm [e] = false:=by unfold isNm hd; simp [he]
   have h2:¬ (isNm tl = true ∧ (⟨(hd tl).2.1.toArray⟩ : ByteArray) = implS):=by
    rintro ⟨h3,h4⟩
    rcases hT with ⟨e',rfl,h'⟩ | hk
    ·unfold isNm hd at h3; simp [h'] at h3
    ·unfold kdR at hk
     split at hk
     ·exact yf1 hk h4
     ·exact hk rfl
   rw [if_neg (by rw [h1]; simp),if_neg h2]
   exact Rq.ok ⟨rfl,.stop he⟩
 | @step t u ts us h5 hk hx h =>
   have e1:isNm (u :: us) = isNm (t :: ts):=by unfold isNm hd; simp [hk]
   have e2:(hd (u :: us)).2.1 = (hd (t :: ts)).2.1:=hx.symm
   rw [e1,e2]
   split
   ·exact zK2 hT _ _ h
   ·exact Rq.ok ⟨rfl,.step h5 hk hx h⟩
theorem uni_q:Sim tl uniP:=fun ts us h => by
 refine (sg_q hT h [61]).bind fun c c' hc => (zK2 hT _ _ hc).bind fun d d' hd => ?_
 exact Rq.ok ⟨by rw [hd.1],hd.2⟩
theorem def_q (k:Nat) {ts us:List Tk} (h:Lk tl ts us) (hk:kdR (hd ts) ≠ 0):Rq tl (Q1 tl) (defX k ts) (defX k us):=by
 have h0:=((h.nm hT).1 (yf2 hk)).2.1
 have hdr:=zn1 hT (dir_q hT)
 unfold defX
 split
 ·refine (nm_q hT h0).bind fun b b' hb => (imp_q hT _ _ hb.2).bind fun c c' hc => (hdr _ _ hc.2).bind fun d d' hd => (bl_q hT (fld_q hT) _ _ hd.2).bind fun e e' he => ?_
  exact Rq.ok ⟨by rw [hb.1,hc.1,hd.1,he.1],he.2⟩
 split
 ·refine (nm_q hT h0).bind fun b b' hb => (hdr _ _ hb.2).bind fun d d' hd => (bl_q hT (fld_q hT) _ _ hd.2).bind fun e e' he => ?_
  exact Rq.ok ⟨by rw [hb.1,hd.1,he.1],he.2⟩
 split
 ·refine (nm_q hT h0).bind fun b b' hb => (hdr _ _ hb.2).bind fun d d' hd => (uni_q hT _ _ hd.2).bind fun e e' he => ?_
  exact Rq.ok ⟨by rw [hb.1,hd.1,he.1],he.2⟩
 split
 ·refine (nm_q hT h0).bind fun b b' hb => (hdr _ _ hb.2).bind fun d d' hd => (bl_q hT (mem_q hT) _ _ hd.2).bind fun e e' he => ?_
  exact Rq.ok ⟨by rw [hb.1,hd.1,he.1],he.2⟩
 ·refine (nm_q hT h0).bind fun b b' hb => (hdr _ _ hb.2).bind fun d d' hd => (bl_q hT (inp_q hT) _ _ hd.2).bind fun e e' he => ?_
  exact Rq.ok ⟨by rw [hb.1,hd.1,he.1],he.2⟩
end Go.Proofs.YthjoelpfmimedaaGreatDoor
namespace Go.Proofs.YthjoelpfmimedaaGreatDoor
open Go.RowKit
variable {tl:List Tk}
theorem kdR_eq {t u:Tk} (h:u.1 = t.1) (hx:u.2.1 = t.2.1):kdR u = kdR t:=by unfold kdR; rw [h,hx]
theorem bg_ok {c:Bool} {a m:Nat} {ts:List Tk} {u:Unit} (h:bgR c a m ts = .ok u):c = true ∧ a ≠ m:=by
 unfold bgR at h
 split at h
 ·split at h
  ·cases h
  ·next h1 h2 => exact ⟨h1,h2⟩
 ·cases h
end Go.Proofs.YthjoelpfmimedaaGreatDoor
namespace Go.Proofs.YthjoelpfmimedaaGreatDoor
open Go.RowKit
theorem zR5:∀ (f g a b:Nat) (l:List UInt8) (ts:List Tk),K.scF f a l = .ok ts → f ≤ g → ∃ us e,K.scF g b l = .ok us ∧ e.1 = 5 ∧ Lk [e] ts us
 | 0,_,_,_,_,_,h,_ => by cases h
 | f + 1,0,_,_,_,_,_,hg => absurd hg (Nat.not_succ_le_zero _)
 | f + 1,g + 1,a,b,l,ts,h,hg => by
   rcases K.ya5 h with ⟨he,rfl⟩ | ⟨k,t,n,ts2,he,ht,hs,rfl⟩
   ·exact ⟨[(5,[],b + K.sepN l)],(5,[],b + K.sepN l),by rw [K.zn3,if_pos he],rfl,.stop rfl⟩
   ·obtain ⟨us,e,e1,e2,e3⟩:=zR5 f g _ (b + K.sepN l + n) _ ts2 hs (Nat.le_of_succ_le_succ hg)
    exact ⟨(k,t,b + K.sepN l) :: us,e,by rw [K.zn3,if_neg he,ht.eq]; simp only [e1],e2,.step (ht.at he).2.2.1 rfl rfl e3⟩
end Go.Proofs.YthjoelpfmimedaaGreatDoor
