
/-
 Texts joined: Te Tf Tg Th W2 Twice RNodeD.
-/
import Derived.Test.YtfgelheiknmjgaaGreatDoorZs27
import Derived.Test.YtfgelheiknmjgaaGreatDoorZs6
import Derived.Test.YtfgelheiknmjgaaGreatDoorZs8
import Derived.Test.YtfgelheiknmjgaaGreatDoorZs7
namespace Go.Proofs.YtfgelheiknmjgaaGreatDoor
open Go.RowKit
def argT (x:ByteArray × VT):List Lo:=(2,x.1.data.toList) :: (1,[58]) :: x.2.tok
def parT {α:Type} (T : α → List Lo) (l:List α):List Lo:=if l.length = 0 then [] else (1,[40]) :: ((l.map T).flatten ++ [(1,[41])])
def dirT (d:DirT):List Lo:=(1,[64]) :: (2,d.name.data.toList) :: parT argT d.args
def dirsT (l:List DirT):List Lo:=(l.map dirT).flatten
def inpT (x:InpT):List Lo:=(2,x.name.data.toList) :: (1,[58]) :: (refT x.tn x.tw ++ ((if x.has = true then (1,[61]) :: x.dflt.tok else []) ++ dirsT x.dirs))
def fldT (x:FldT):List Lo:=(2,x.name.data.toList) :: (parT inpT x.args ++ ((1,[58]) :: (refT x.tn x.tw ++ dirsT x.dirs)))
def memT (x:MemT):List Lo:=(2,x.name.data.toList) :: dirsT x.dirs
def blkT {α:Type} (T : α → List Lo) (l:List α):List Lo:=(1,[123]) :: ((l.map T).flatten ++ [(1,[125])])
def impT (l:List ByteArray):List Lo:=if l.length = 0 then [] else (2,[105,109,112,108,101,109,101,110,116,115]) :: nmsT 38 l
def defT (d:DefT):List Lo :=
 if d.kind = 1 then (2,[116,121,112,101]) :: (2,d.name.data.toList) :: (impT d.impl ++ (dirsT d.dirs ++ blkT fldT d.fields))
 else if d.kind = 2 then (2,[105,110,116,101,114,102,97,99,101]) :: (2,d.name.data.toList) :: (dirsT d.dirs ++ blkT fldT d.fields)
 else if d.kind = 3 then (2,[117,110,105,111,110]) :: (2,d.name.data.toList) :: (dirsT d.dirs ++ ((1,[61]) :: nmsT 124 (d.members.map MemT.name)))
 else if d.kind = 4 then (2,[101,110,117,109]) :: (2,d.name.data.toList) :: (dirsT d.dirs ++ blkT memT d.members)
 else (2,[105,110,112,117,116]) :: (2,d.name.data.toList) :: (dirsT d.dirs ++ blkT inpT d.inputs)
def docT (l:List DefT):List Lo:=(l.map defT).flatten
def dirsN (l:List DirT):Prop:=∀ d ∈ l, ∀ a ∈ d.args,a.2.num
def inpN (x:InpT):Prop:=x.dflt.num ∧ dirsN x.dirs
def fldN (x:FldT):Prop:=(∀ i ∈ x.args,inpN i) ∧ dirsN x.dirs
def defN (d:DefT):Prop:=dirsN d.dirs ∧ (∀ x ∈ d.fields,fldN x) ∧ (∀ x ∈ d.members,dirsN x.dirs) ∧ ∀ x ∈ d.inputs,inpN x
theorem zb1 {α:Type} {a b:Int} {l:List α} {P : α → Bool} (h:inB a b l P = true):a ≤ (l.length:Int) ∧ (l.length:Int) ≤ b ∧ ∀ x ∈ l,P x = true:=by
 unfold inB at h
 simp only [Bool.and_eq_true,decide_eq_true_eq] at h
 exact ⟨h.1.1,h.1.2,List.all_eq_true.1 h.2⟩
theorem rd_wv {t:VT} (h:litOk t = true) (hn:t.num) {us:List Tk} {q:List Lo} (hu:lo us = t.tok ++ q):∃ us',wvP us = .ok (t,us') ∧ lo us' = q:=by
 unfold litOk zc0 at h
 simp only [Bool.and_eq_true,decide_eq_true_eq] at h
 obtain ⟨⟨⟨h1,h2⟩,h3⟩,_,h4⟩:=h
 obtain ⟨us',e1,e2⟩:=val_rd t 24 1 (by unfold VT.cst; rw [h3,h4]; rfl) hn h2 (by omega) us 0 q hu (by omega)
 refine ⟨us', ?_,e2⟩
 show exB (valP us 0) _ = _
 rw [za8 (show valP us 0 = _ from e1)]
theorem rd_arg {x:ByteArray × VT} (h:argOk x = true) (hn:x.2.num):RdT argX argT x:=fun us q hu _ => by
 unfold argOk at h
 rw [Bool.and_eq_true] at h
 have g1:=rd_nm (show lo us = (2,x.1.data.toList) :: ((1,[58]) :: x.2.tok ++ q) by rw [hu]; rfl)
 rw [ba_eq] at g1
 have g2:=rd_sg g1.2.1
 obtain ⟨us',e1,e2⟩:=rd_wv h.2 hn g2.2
 refine ⟨us', ?_,e2⟩
 show exB (nmR us) _ = _
 rw [za8 g1.1]; simp only
 rw [za8 g2.1,za8 e1]
theorem rd_par {α:Type} {el:List Tk → Except Er (α × List Tk)} {T : α → List Lo} {most:Nat} {l:List α} {us:List Tk} {q:List Lo} (hx:∀ x ∈ l,RdT el T x ∧ ∃ s r,T x = (2,s) :: r) (hm:l.length ≤ most) (hu:lo us = parT T l ++ q) (hl:l.length ≠ 0) :
  isSg [40] us = true ∧ ∃ us',blR [40] [41] most el us = .ok (l,us') ∧ lo us' = q:=by
 unfold parT at hu
 rw [if_neg hl] at hu
 have h2:lo us = (1,[40]) :: ((l.map T).flatten ++ ((1,[41]) :: q)):=by rw [hu]; simp
 exact ⟨zq9 h2,rd_bl (.inl rfl) hx h2 hm (by omega)⟩
theorem rd_dir {d:DirT} (h:dirOk d = true) (hn:∀ a ∈ d.args,a.2.num) (us:List Tk) (q:List Lo) (hu:lo us = dirT d ++ q) (hq:loSg [40] q = false):∃ us',dirX us = .ok (d,us') ∧ lo us' = q:=by
 unfold dirOk at h
 rw [Bool.and_eq_true] at h
 obtain ⟨_,h2,h3⟩:=zb1 h.2
 have g1:=rd_sg (show lo us = (1,[64]) :: ((2,d.name.data.toList) :: (parT argT d.args ++ q)) by rw [hu]; rfl)
 have g2:=rd_nm g1.2
 rw [ba_eq] at g2
 have hd:dirX us = if isSg [40] us.tail.tail = true then exB (blR [40] [41] 16 argX us.tail.tail) fun r => .ok (⟨d.name,r.1⟩,r.2) else .ok (⟨d.name,[]⟩,us.tail.tail):=by
  show exB (sgR [64] us) _ = _
  rw [za8 g1.1,za8 g2.1]
 rw [hd]
 by_cases h0:d.args.length = 0
 ·have h00:=List.length_eq_zero_iff.1 h0
  have hs:isSg [40] us.tail.tail = false:=by rw [sg_lo,g2.2.1]; unfold parT; rw [if_pos h0]; exact hq
  refine ⟨us.tail.tail, ?_,by rw [g2.2.1]; unfold parT; rw [if_pos h0]; rfl⟩
  rw [hs,if_neg (by simp)]
  obtain ⟨nm,ar⟩:=d
  simp only at h00
  subst h00; rfl
 ·obtain ⟨e0,us',e1,e2⟩:=rd_par (el:=argX) (most:=16) (fun x hx => ⟨rd_arg (h3 x hx) (hn x hx),_,_,rfl⟩) (by omega) g2.2.1 h0
  refine ⟨us', ?_,e2⟩
  rw [if_pos e0,za8 e1]
theorem zm2 {l:List DirT} {q:List Lo} (s:List UInt8) (hs:s ≠ [64]) (hq:loSg s q = false):loSg s (dirsT l ++ q) = false:=by
 cases l with
 | nil => exact hq
 | cons d r =>
   show (decide ((1:Int) = 1) && decide (([64]:List UInt8) = s)) = false
   simp [Ne.symm hs]
theorem rd_drs:∀ (xs l:List DirT) (us:List Tk) (f:Nat) (q:List Lo),(∀ d ∈ xs,dirOk d = true ∧ ∀ a ∈ d.args,a.2.num) → lo us = dirsT xs ++ q → loSg [64] q = false → loSg [40] q = false → us.length < f → l.length + xs.length ≤ 16 → ∃ us',drs dirX f l us = .ok (l ++ xs,us') ∧ lo us' = q
 | _,_,_,0,_,_,_,_,_,h,_ => absurd h (Nat.not_lt_zero _)
 | [],l,us,f + 1,q,_,hu,hq,_,_,_ => by
   refine ⟨us, ?_,hu⟩
   rw [zH6,if_pos (by rw [sg_lo,hu]; exact hq),List.append_nil]
 | x :: xs,l,us,f + 1,q,hx,hu,hq,hq2,hf,hm => by
   have hu2:lo us = dirT x ++ (dirsT xs ++ q):=by rw [hu]; unfold dirsT; rw [List.map_cons,List.flatten_cons,List.append_assoc]
   obtain ⟨h1,h2⟩:=hx x List.mem_cons_self
   obtain ⟨us1,e1,e2⟩:=rd_dir h1 h2 us _ hu2 (zm2 _ (by decide) hq2)
   have hlen:us1.length < us.length:=by
    rw [← zh9 us, ← zh9 us1,hu2,e2]
    simp only [List.length_append]
    unfold dirT; simp only [List.length_cons]; omega
   simp only [List.length_cons] at hm
   obtain ⟨us',e3,e4⟩:=rd_drs xs (l ++ [x]) us1 f q (fun d hd => hx d (List.mem_cons_of_mem _ hd)) e2 hq hq2 (by omega) (by rw [List.length_append,List.length_singleton]; omega)
   refine ⟨us', ?_,e4⟩
   have hs:isSg [64] us = true:=by rw [sg_lo,hu2]; rfl
   have hb:bgR true l.length 16 us = .ok ():=by unfold bgR; rw [if_pos rfl,if_neg (by omega)]
   rw [zH6,if_neg (by rw [hs]; simp),za8 hb,za8 e1]
   simp only
   rw [e3,List.append_assoc]; rfl
theorem zj3 {l:List DirT} (h:zp6 l = true) (hn:dirsN l) {us:List Tk} {q:List Lo} (hu:lo us = dirsT l ++ q) (hq:loSg [64] q = false) (hq2:loSg [40] q = false):∃ us',drsR dirX us = .ok (l,us') ∧ lo us' = q:=by
 obtain ⟨_,h2,h3⟩:=zb1 h
 obtain ⟨us',e1,e2⟩:=rd_drs l [] us (us.length + 1) q (fun d hd => ⟨h3 d hd,hn d hd⟩) hu hq hq2 (Nat.lt_succ_self _) (by simp; omega)
 exact ⟨us',e1,e2⟩
theorem dfl_no {t:VT} (h:dflOk false t = true):t = zP3:=by
 obtain ⟨k,n,s,l,ks⟩:=t
 unfold dflOk at h
 rw [if_neg (by simp),Bool.and_eq_true,decide_eq_true_eq] at h
 obtain ⟨rfl,h2⟩:=h
 unfold zc0 at h2
 simp only [Bool.and_eq_true] at h2
 have h3:=h2.2
 rw [zb4,Bool.and_eq_true] at h3
 have h4:=h3.1
 simp only [nodeB,if_true] at h4
 simp only [Bool.and_eq_true,decide_eq_true_eq] at h4
 obtain ⟨rfl,rfl⟩:=leaf0 h4.2
 rw [h4.1.1,size0 h4.1.2]; rfl
theorem rd_inp {x:InpT} (h:inpOk x = true) (hn:inpN x):RdT inpX inpT x:=fun us q hu hq => by
 unfold inpOk at h
 simp only [Bool.and_eq_true] at h
 obtain ⟨_,h2,h3,h4⟩:=h
 have g1:=rd_nm (show lo us = (2,x.name.data.toList) :: ((1,[58]) :: (refT x.tn x.tw ++ ((if x.has = true then (1,[61]) :: x.dflt.tok else []) ++ (dirsT x.dirs ++ q)))) by rw [hu]; unfold inpT; simp)
 rw [ba_eq] at g1
 have g2:=rd_sg g1.2.1
 cases hh:x.has with
 | true =>
   rw [hh,if_pos rfl] at g2
   obtain ⟨u1,e1,e2⟩:=zN5 h2 g2.2 rfl
   have g3:=rd_sg (show lo u1 = (1,[61]) :: (x.dflt.tok ++ (dirsT x.dirs ++ q)) from e2)
   rw [hh] at h3
   obtain ⟨u2,e3,e4⟩:=rd_wv (show litOk x.dflt = true from h3) hn.1 g3.2
   obtain ⟨u3,e5,e6⟩:=zj3 h4 hn.2 e4 hq.1 hq.2.2.2.1
   refine ⟨u3, ?_,e6⟩
   show exB (nmR us) _ = _
   rw [za8 g1.1]; simp only
   rw [za8 g2.1,za8 e1]; simp only
   rw [if_pos (zq9 (show lo u1 = (1,[61]) :: (x.dflt.tok ++ (dirsT x.dirs ++ q)) from e2)),za8 e3]; simp only
   rw [za8 e5]
   obtain ⟨a,b,c,d,e,f⟩:=x
   simp only at hh
   subst hh; rfl
 | false =>
   rw [hh,if_neg (by simp),List.nil_append] at g2
   obtain ⟨u1,e1,e2⟩:=zN5 h2 g2.2 (zm2 _ (by decide) hq.2.1)
   obtain ⟨u3,e5,e6⟩:=zj3 h4 hn.2 e2 hq.1 hq.2.2.2.1
   refine ⟨u3, ?_,e6⟩
   have hs:isSg [61] u1 = false:=by rw [sg_lo,e2]; exact zm2 _ (by decide) hq.2.2.1
   rw [hh] at h3
   have hd:=dfl_no h3
   show exB (nmR us) _ = _
   rw [za8 g1.1]; simp only
   rw [za8 g2.1,za8 e1]; simp only
   rw [hs,if_neg (by simp),za8 e5]
   obtain ⟨a,b,c,d,e,f⟩:=x
   simp only at hh hd
   subst hh; subst hd; rfl
theorem rd_fld {x:FldT} (h:fldOk x = true) (hn:fldN x):RdT fldX fldT x:=fun us q hu hq => by
 unfold fldOk at h
 simp only [Bool.and_eq_true] at h
 obtain ⟨_,h2,h3,h4⟩:=h
 obtain ⟨_,i2,i3⟩:=zb1 h2
 have g1:=rd_nm (show lo us = (2,x.name.data.toList) :: (parT inpT x.args ++ ((1,[58]) :: (refT x.tn x.tw ++ (dirsT x.dirs ++ q)))) by rw [hu]; unfold fldT; simp)
 rw [ba_eq] at g1
 have hrest:∀ (v:List Tk) (nm:ByteArray) (ar:List InpT),lo v = (1,[58]) :: (refT x.tn x.tw ++ (dirsT x.dirs ++ q)) → ∃ us',fldQ refP dirX nm ar v = .ok (⟨nm,ar,x.tn,x.tw,x.dirs⟩,us') ∧ lo us' = q:=by
  intro v nm ar hv
  have g2:=rd_sg hv
  obtain ⟨u1,e1,e2⟩:=zN5 h3 g2.2 (zm2 _ (by decide) hq.2.1)
  obtain ⟨u3,e5,e6⟩:=zj3 h4 hn.2 e2 hq.1 hq.2.2.2.1
  refine ⟨u3, ?_,e6⟩
  unfold fldQ
  rw [za8 g2.1,za8 e1]; simp only
  rw [za8 e5]
 have hf:fldX us = if isSg [40] us.tail = true then exB (blR [40] [41] 16 inpX us.tail) fun a => fldQ refP dirX x.name a.1 a.2 else fldQ refP dirX x.name [] us.tail:=by
  show exB (nmR us) _ = _
  rw [za8 g1.1]
 rw [hf]
 by_cases h0:x.args.length = 0
 ·have h00:=List.length_eq_zero_iff.1 h0
  have g3:=g1.2.1
  unfold parT at g3
  rw [if_pos h0,List.nil_append] at g3
  have hs:isSg [40] us.tail = false:=by rw [sg_lo,g3]; rfl
  obtain ⟨us',e1,e2⟩:=hrest us.tail x.name [] g3
  refine ⟨us', ?_,e2⟩
  rw [hs,if_neg (by simp),e1]
  obtain ⟨a,b,c,d,e⟩:=x
  simp only at h00
  subst h00; rfl
 ·obtain ⟨e0,u1,e1,e2⟩:=rd_par (el:=inpX) (most:=16) (fun y hy => ⟨rd_inp (i3 y hy) (hn.1 y hy),_,_,rfl⟩) (by omega) g1.2.1 h0
  obtain ⟨us',e3,e4⟩:=hrest u1 x.name x.args e2
  refine ⟨us', ?_,e4⟩
  rw [if_pos e0,za8 e1,e3]
theorem rd_mem {x:MemT} (h:zg0 x = true) (hn:dirsN x.dirs):RdT memX memT x:=fun us q hu hq => by
 unfold zg0 at h
 rw [Bool.and_eq_true] at h
 have g1:=rd_nm (show lo us = (2,x.name.data.toList) :: (dirsT x.dirs ++ q) by rw [hu]; rfl)
 rw [ba_eq] at g1
 obtain ⟨u3,e5,e6⟩:=zj3 h.2 hn g1.2.1 hq.1 hq.2.2.2.1
 refine ⟨u3, ?_,e6⟩
 show exB (nmR us) _ = _
 rw [za8 g1.1]; simp only
 rw [za8 e5]
theorem rd_imp {l:List ByteArray} (h:inB 0 64 l nmA = true) {us:List Tk} {q:List Lo} (hu:lo us = impT l ++ q) (hq:loSg [38] q = false) (hq2:decide ((q.headD (0,[])).1 = 2) = false):∃ us',impP us = .ok (l,us') ∧ lo us' = q:=by
 obtain ⟨_,h2,_⟩:=zb1 h
 unfold impT at hu
 by_cases h0:l.length = 0
 ·rw [if_pos h0,List.nil_append] at hu
  have hs:isNm us = false:=by rw [nm_lo,hu]; exact hq2
  refine ⟨us, ?_,hu⟩
  unfold impP
  rw [hs,if_neg (by simp),List.length_eq_zero_iff.1 h0]
 ·rw [if_neg h0] at hu
  have g1:=rd_nm (show lo us = (2,[105,109,112,108,101,109,101,110,116,115]) :: (nmsT 38 l ++ q) by rw [hu]; rfl)
  have g0:=zd5 hu
  obtain ⟨us',e1,e2⟩:=zN6 g1.2.1 hq (by omega) (by omega)
  refine ⟨us', ?_,e2⟩
  unfold impP
  rw [if_pos ⟨g1.2.2,by rw [g0.2.1]; rfl⟩,e1]
end Go.Proofs.YtfgelheiknmjgaaGreatDoor
namespace Go.Proofs.YtfgelheiknmjgaaGreatDoor
open Go.RowKit
theorem kd_1 {us:List Tk} {q:List Lo} (h:lo us = (2,[116,121,112,101]) :: q):kdR (hd us) = 1:=by
 obtain ⟨h1,h2,_⟩:=zd5 h
 unfold kdR; rw [h1,h2]; rfl
theorem kd_2 {us:List Tk} {q:List Lo} (h:lo us = (2,[105,110,116,101,114,102,97,99,101]) :: q):kdR (hd us) = 2:=by
 obtain ⟨h1,h2,_⟩:=zd5 h
 unfold kdR; rw [h1,h2]; decide
theorem kd_3 {us:List Tk} {q:List Lo} (h:lo us = (2,[117,110,105,111,110]) :: q):kdR (hd us) = 3:=by
 obtain ⟨h1,h2,_⟩:=zd5 h
 unfold kdR; rw [h1,h2]; decide
theorem kd_4 {us:List Tk} {q:List Lo} (h:lo us = (2,[101,110,117,109]) :: q):kdR (hd us) = 4:=by
 obtain ⟨h1,h2,_⟩:=zd5 h
 unfold kdR; rw [h1,h2]; decide
theorem kd_5 {us:List Tk} {q:List Lo} (h:lo us = (2,[105,110,112,117,116]) :: q):kdR (hd us) = 5:=by
 obtain ⟨h1,h2,_⟩:=zd5 h
 unfold kdR; rw [h1,h2]; decide
theorem zG2 {α:Type} {el:List Tk → Except Er (α × List Tk)} {T : α → List Lo} {most:Nat} {l:List α} {us:List Tk} {q:List Lo} (hx:∀ x ∈ l,RdT el T x ∧ ∃ s r,T x = (2,s) :: r) (hm:l.length ≤ most) (h1:1 ≤ l.length) (hu:lo us = blkT T l ++ q) :
  ∃ us',blR [123] [125] most el us = .ok (l,us') ∧ lo us' = q :=
 rd_bl (.inr rfl) hx (show lo us = (1,[123]) :: ((l.map T).flatten ++ ((1,[125]) :: q)) by rw [hu]; unfold blkT; simp) hm h1
theorem zf1 {α:Type} {l:List α} {P : α → Bool} (h:inB 0 0 l P = true):l = []:=by
 obtain ⟨_,h2,_⟩:=zb1 h
 exact List.length_eq_zero_iff.1 (by omega)
theorem rd_def {d:DefT} (h:defOk d = true) (hn:defN d) {us:List Tk} {q:List Lo} (hu:lo us = defT d ++ q) (hq:Fo q):kdR (hd us) ≠ 0 ∧ ∃ us',defX (kdR (hd us)) us = .ok (d,us') ∧ lo us' = q:=by
 unfold defOk at h
 simp only [Bool.and_eq_true] at h
 obtain ⟨_,hd,hp⟩:=h
 obtain ⟨kd,nm,im,ds,fs,ms,is⟩:=d
 obtain ⟨n1,n2,n3,n4⟩:=hn
 try simp only at hd n1 n2 n3 n4
 unfold zt5 at hp
 unfold defT at hu
 try simp only at hp hu
 split at hp
 ·next e =>
  subst e
  rw [if_pos rfl] at hu
  unfold zi9 at hp
  simp only [Bool.and_eq_true] at hp
  obtain ⟨p1,p2,p3,p4⟩:=hp
  have e3:=zf1 p3
  have e4:=zf1 p4
  try simp only at e3 e4
  subst e3; subst e4
  obtain ⟨_,f2,f3⟩:=zb1 p2
  have hu2:lo us = (2,[116,121,112,101]) :: ((2,nm.data.toList) :: (impT im ++ (dirsT ds ++ (blkT fldT fs ++ q)))):=by rw [hu]; simp
  rw [kd_1 hu2]
  have g1:=rd_nm (rd_nm hu2).2.1
  rw [ba_eq] at g1
  obtain ⟨u1,a1,b1⟩:=rd_imp p1 g1.2.1 (zm2 _ (by decide) rfl) (by cases ds <;> rfl)
  obtain ⟨u2,a2,b2⟩:=zj3 hd n1 b1 rfl rfl
  obtain ⟨u3,a3,b3⟩:=zG2 (el:=fldX) (most:=64) (fun x hx => ⟨rd_fld (f3 x hx) (n2 x hx),_,_,rfl⟩) (by omega) (by have:=(zb1 p2).1; (try simp only at this); omega) b2
  refine ⟨by decide,u3, ?_,b3⟩
  show exB (nmR us.tail) _ = _
  rw [za8 g1.1]; simp only
  rw [za8 a1]; simp only
  rw [za8 a2]; simp only
  rw [za8 a3]
 split at hp
 ·next e =>
  subst e
  rw [if_neg (by decide),if_pos rfl] at hu
  unfold zi9 at hp
  simp only [Bool.and_eq_true] at hp
  obtain ⟨p1,p2,p3,p4⟩:=hp
  have e1:=zf1 p1
  have e3:=zf1 p3
  have e4:=zf1 p4
  try simp only at e1 e3 e4
  subst e1; subst e3; subst e4
  obtain ⟨f1,f2,f3⟩:=zb1 p2
  try simp only at f1 f2
  have hu2:lo us = (2,[105,110,116,101,114,102,97,99,101]) :: ((2,nm.data.toList) :: (dirsT ds ++ (blkT fldT fs ++ q))):=by rw [hu]; simp
  rw [kd_2 hu2]
  have g1:=rd_nm (rd_nm hu2).2.1
  rw [ba_eq] at g1
  obtain ⟨u2,a2,b2⟩:=zj3 hd n1 g1.2.1 rfl rfl
  obtain ⟨u3,a3,b3⟩:=zG2 (el:=fldX) (most:=64) (fun x hx => ⟨rd_fld (f3 x hx) (n2 x hx),_,_,rfl⟩) (by omega) (by omega) b2
  refine ⟨by decide,u3, ?_,b3⟩
  show exB (nmR us.tail) _ = _
  rw [za8 g1.1]; simp only
  rw [za8 a2]; simp only
  rw [za8 a3]
 split at hp
 ·next e =>
  subst e
  rw [if_neg (by decide),if_neg (by decide),if_pos rfl] at hu
  unfold zi9 at hp
  simp only [Bool.and_eq_true] at hp
  obtain ⟨p1,p2,p3,p4⟩:=hp
  have e1:=zf1 p1
  have e2:=zf1 p2
  have e4:=zf1 p4
  try simp only at e1 e2 e4
  subst e1; subst e2; subst e4
  obtain ⟨f1,f2,f3⟩:=zb1 p3
  try simp only at f1 f2 f3
  have hu2:lo us = (2,[117,110,105,111,110]) :: ((2,nm.data.toList) :: (dirsT ds ++ ((1,[61]) :: (nmsT 124 (ms.map MemT.name) ++ q)))):=by rw [hu]; simp
  rw [kd_3 hu2]
  have g1:=rd_nm (rd_nm hu2).2.1
  rw [ba_eq] at g1
  obtain ⟨u2,a2,b2⟩:=zj3 hd n1 g1.2.1 rfl rfl
  have g3:=rd_sg b2
  obtain ⟨u3,a3,b3⟩:=zN6 g3.2 hq.2.2.2.2.1 (by rw [List.length_map]; omega) (by rw [List.length_map]; omega)
  have hm:(ms.map MemT.name).map memOf = ms:=by
   rw [List.map_map]
   conv => rhs; rw [← List.map_id ms]
   refine List.map_congr_left fun x hx => ?_
   have h5:=f3 x hx
   unfold zk3 at h5
   rw [Bool.and_eq_true,decide_eq_true_eq] at h5
   obtain ⟨a,b⟩:=x
   have:=List.length_eq_zero_iff.1 h5.2
   simp only at this
   subst this; rfl
  refine ⟨by decide,u3, ?_,b3⟩
  show exB (nmR us.tail) _ = _
  rw [za8 g1.1]; simp only
  rw [za8 a2]; simp only
  unfold uniP
  rw [za8 g3.1,za8 a3]
  simp only
  rw [hm]; rfl
 split at hp
 ·next e =>
  subst e
  rw [if_neg (by decide),if_neg (by decide),if_neg (by decide),if_pos rfl] at hu
  unfold zi9 at hp
  simp only [Bool.and_eq_true] at hp
  obtain ⟨p1,p2,p3,p4⟩:=hp
  have e1:=zf1 p1
  have e2:=zf1 p2
  have e4:=zf1 p4
  try simp only at e1 e2 e4
  subst e1; subst e2; subst e4
  obtain ⟨f1,f2,f3⟩:=zb1 p3
  try simp only at f1 f2 f3
  have hu2:lo us = (2,[101,110,117,109]) :: ((2,nm.data.toList) :: (dirsT ds ++ (blkT memT ms ++ q))):=by rw [hu]; simp
  rw [kd_4 hu2]
  have g1:=rd_nm (rd_nm hu2).2.1
  rw [ba_eq] at g1
  obtain ⟨u2,a2,b2⟩:=zj3 hd n1 g1.2.1 rfl rfl
  obtain ⟨u3,a3,b3⟩:=zG2 (el:=memX) (most:=64) (fun x hx => ⟨rd_mem (f3 x hx) (n3 x hx),_,_,rfl⟩) (by omega) (by omega) b2
  refine ⟨by decide,u3, ?_,b3⟩
  show exB (nmR us.tail) _ = _
  rw [za8 g1.1]; simp only
  rw [za8 a2]; simp only
  rw [za8 a3]
 split at hp
 ·next h1 h2 h3 h4 e =>
  subst e
  rw [if_neg (by decide),if_neg (by decide),if_neg (by decide),if_neg (by decide)] at hu
  unfold zi9 at hp
  simp only [Bool.and_eq_true] at hp
  obtain ⟨p1,p2,p3,p4⟩:=hp
  have e1:=zf1 p1
  have e2:=zf1 p2
  have e3:=zf1 p3
  try simp only at e1 e2 e3
  subst e1; subst e2; subst e3
  obtain ⟨f1,f2,f3⟩:=zb1 p4
  try simp only at f1 f2 f3
  have hu2:lo us = (2,[105,110,112,117,116]) :: ((2,nm.data.toList) :: (dirsT ds ++ (blkT inpT is ++ q))):=by rw [hu]; simp
  rw [kd_5 hu2]
  have g1:=rd_nm (rd_nm hu2).2.1
  rw [ba_eq] at g1
  obtain ⟨u2,a2,b2⟩:=zj3 hd n1 g1.2.1 rfl rfl
  obtain ⟨u3,a3,b3⟩:=zG2 (el:=inpX) (most:=16) (fun x hx => ⟨rd_inp (f3 x hx) (n4 x hx),_,_,rfl⟩) (by omega) (by omega) b2
  refine ⟨by decide,u3, ?_,b3⟩
  show exB (nmR us.tail) _ = _
  rw [za8 g1.1]; simp only
  rw [za8 a2]; simp only
  rw [za8 a3]
 ·cases hp
theorem zH9 (d:DefT):∃ s r,defT d = (2,s) :: r:=by
 unfold defT
 repeat' split
 all_goals exact ⟨_,_,rfl⟩
theorem zN7:∀ (xs l:List DefT) (us:List Tk) (f:Nat),(∀ d ∈ xs,defOk d = true ∧ defN d) → lo us = docT xs ++ [(5,[])] → us.length < f → l.length + xs.length ≤ 64 → 1 ≤ l.length + xs.length → ∃ us',docP defX f l us = .ok (l ++ xs,us') ∧ lo us' = [(5,[])]
 | _,_,_,0,_,_,h,_,_ => absurd h (Nat.not_lt_zero _)
 | [],l,us,f + 1,_,hu,_,_,h1 => by
   refine ⟨us, ?_,hu⟩
   rw [zD3,if_pos ⟨by simp at h1; omega,(zd5 (show lo us = (5,[]) :: [] from hu)).1⟩,List.append_nil]
 | x :: xs,l,us,f + 1,hx,hu,hf,hm,_ => by
   have hu2:lo us = defT x ++ (docT xs ++ [(5,[])]):=by rw [hu]; unfold docT; rw [List.map_cons,List.flatten_cons,List.append_assoc]
   have hfo:Fo (docT xs ++ [(5,[])]):=by
    cases xs with
    | nil => exact Fo.e5
    | cons y ys =>
      obtain ⟨s',r',hT'⟩:=zH9 y
      unfold docT
      rw [List.map_cons,List.flatten_cons,hT']
      exact Fo.nm
   obtain ⟨h1,h2⟩:=hx x List.mem_cons_self
   obtain ⟨hk,us1,e1,e2⟩:=rd_def h1 h2 hu2 hfo
   obtain ⟨s,r,hT⟩:=zH9 x
   have hlen:us1.length < us.length:=by
    rw [← zh9 us, ← zh9 us1,hu2,e2]
    simp only [List.length_append]
    rw [hT]
    simp only [List.length_cons]; omega
   have h5:(hd us).1 ≠ 5:=by rw [(zd5 (show lo us = (2,s) :: (r ++ (docT xs ++ [(5,[])])) by rw [hu2,hT]; rfl)).1]; decide
   simp only [List.length_cons] at hm
   obtain ⟨us',h3,h4⟩:=zN7 xs (l ++ [x]) us1 f (fun y hy => hx y (List.mem_cons_of_mem _ hy)) e2 (by omega) (by rw [List.length_append,List.length_singleton]; omega) (by rw [List.length_append,List.length_singleton]; omega)
   refine ⟨us', ?_,h4⟩
   have hb:bgR (decide (kdR (hd us) ≠ 0)) l.length 64 us = .ok ():=by
    unfold bgR; rw [if_pos (decide_eq_true hk),if_neg (by omega)]
   rw [zD3,if_neg (fun h => h5 h.2),za8 hb,za8 e1]
   simp only
   rw [h3,List.append_assoc]; rfl
theorem rd_doc {xs:List DefT} (h:docOk xs = true) (hn:∀ d ∈ xs,defN d) {us:List Tk} (hu:lo us = docT xs ++ [(5,[])]):∃ us',docR defX us = .ok (xs,us'):=by
 obtain ⟨h1,h2,h3⟩:=zb1 h
 obtain ⟨us',e,_⟩:=zN7 xs [] us (us.length + 1) (fun d hd => ⟨h3 d hd,hn d hd⟩) hu (Nat.lt_succ_self _) (by simp; omega) (by simp; omega)
 exact ⟨us',e⟩
theorem doc_inj {xs ys:List DefT} (hx:docOk xs = true) (hnx:∀ d ∈ xs,defN d) (hy:docOk ys = true) (hny:∀ d ∈ ys,defN d) {s:List UInt8} (h1:K.Sc s (docT xs)) (h2:K.Sc s (docT ys)):xs = ys:=by
 have he:=h1.one h2
 obtain ⟨ts,_,h4⟩:=h1.scan (s.length + 1) 0 (Nat.lt_succ_self _)
 obtain ⟨_,e1⟩:=rd_doc hx hnx (show lo ts = _ from h4)
 obtain ⟨_,e2⟩:=rd_doc hy hny (show lo ts = _ by rw [← he]; exact h4)
 rw [e1] at e2
 injection e2 with e2
 injection e2
end Go.Proofs.YtfgelheiknmjgaaGreatDoor
namespace Go.Proofs.YtfgelheiknmjgaaGreatDoor
open Go.RowKit
open K (Sp Sc Hw wdH wdB)
theorem nm_t {s:ByteArray} (h:nmA s = true):T1.nameL s.data.toList = true:=h
theorem Sp.nm {s:ByteArray} (h:nmA s = true):Sp (bL s) [(2,s.data.toList)]:=.name (nm_t h)
theorem sg58:(58:UInt8) ∈ K.sgL:=by decide
theorem sep32:K.sepS false 32 = some false:=rfl
theorem sep10:K.sepS false 10 = some false:=rfl
theorem sep44:K.sepS false 44 = some false:=rfl
def jnT (Q:List Lo):List (List Lo) → List Lo
 | [] => []
 | a :: r => a ++ (r.map (fun x => Q ++ x)).flatten
theorem zu1:∀ l:List (List Lo),jnT [] l = l.flatten
 | [] => rfl
 | a :: r => by simp [jnT]
structure SepOk (S:List UInt8) (Q:List Lo):Prop where
 sp:∀ a q,Sp a q → Sp (S ++ a) (Q ++ q)
 hw:∀ l,wdH (S ++ l) = false
theorem zN4 {S:List UInt8} {Q:List Lo} (h:SepOk S Q):∀ L:List (List UInt8 × List Lo),(∀ p ∈ L,Sp p.1 p.2) → Sp ((L.map Prod.fst).map (fun x => S ++ x)).flatten ((L.map Prod.snd).map (fun x => Q ++ x)).flatten ∧ Hw ((L.map Prod.fst).map (fun x => S ++ x)).flatten
 | [],_ => ⟨.nil,.nil⟩
 | p :: L,hp => by
   have ih:=zN4 h L (fun q hq => hp q (List.mem_cons_of_mem _ hq))
   have h1:=h.sp _ _ (hp p List.mem_cons_self)
   refine ⟨Sp.app h1 ih.2 ih.1,fun l _ => ?_⟩
   show wdH (((S ++ p.1) ++ _) ++ l) = false
   rw [List.append_assoc,List.append_assoc]
   exact h.hw _
theorem jn_sp {S:List UInt8} {Q:List Lo} (h:SepOk S Q) (L:List (List UInt8 × List Lo)) (hp:∀ p ∈ L,Sp p.1 p.2):Sp (jn S (L.map Prod.fst)) (jnT Q (L.map Prod.snd)):=by
 cases L with
 | nil => exact .nil
 | cons p L =>
   have ih:=zN4 h L (fun q hq => hp q (List.mem_cons_of_mem _ hq))
   exact Sp.app (hp p List.mem_cons_self) ih.2 ih.1
theorem zv9 {α:Type} {S:List UInt8} {Q:List Lo} (h:SepOk S Q) (f : α → List UInt8) (g : α → List Lo) (xs:List α) (hp:∀ x ∈ xs,Sp (f x) (g x)):Sp (jn S (xs.map f)) (jnT Q (xs.map g)):=by
 have:=jn_sp h (xs.map fun x => (f x,g x)) (fun p hq => by obtain ⟨x,hx,rfl⟩:=List.mem_map.1 hq; exact hp x hx)
 rw [List.map_map,List.map_map] at this
 exact this
theorem sep_c:SepOk [44,32] []:=⟨fun _ _ h => .sep sep44 (.sep sep32 h),fun _ => rfl⟩
theorem sep_s:SepOk [32] []:=⟨fun _ _ h => .sep sep32 h,fun _ => rfl⟩
theorem sep_n:SepOk [10] []:=⟨fun _ _ h => .sep sep10 h,fun _ => rfl⟩
theorem sep_a:SepOk [32,38,32] [(1,[38])]:=⟨fun _ _ h => .sep sep32 (.sign (by decide) (.sep sep32 h)),fun _ => rfl⟩
theorem sep_o:SepOk [32,124,32] [(1,[124])]:=⟨fun _ _ h => .sep sep32 (.sign (by decide) (.sep sep32 h)),fun _ => rfl⟩
theorem p40 {a:List UInt8} {q:List Lo} (h:Sp a q):Sp ([40] ++ a) ((1,[40]) :: q):=.sign (by decide) h
theorem p64 {a:List UInt8} {q:List Lo} (h:Sp a q):Sp ([64] ++ a) ((1,[64]) :: q):=.sign (by decide) h
theorem p58 {a:List UInt8} {q:List Lo} (h:Sp a q):Sp ([58,32] ++ a) ((1,[58]) :: q):=.sign (by decide) (.sep sep32 h)
theorem p61 {a:List UInt8} {q:List Lo} (h:Sp a q):Sp ([32,61,32] ++ a) ((1,[61]) :: q):=.sep sep32 (.sign (by decide) (.sep sep32 h))
theorem p123 {a:List UInt8} {q:List Lo} (h:Sp a q):Sp ([32,123,10] ++ a) ((1,[123]) :: q):=.sep sep32 (.sign (by decide) (.sep sep10 h))
theorem p32 {a:List UInt8} {q:List Lo} (h:Sp a q):Sp ([32] ++ a) q:=.sep sep32 h
theorem p3232 {a:List UInt8} {q:List Lo} (h:Sp a q):Sp ([32,32] ++ a) q:=.sep sep32 (.sep sep32 h)
theorem hw_c {c:UInt8} {a:List UInt8} (h:wdB c = false):Hw (c :: a):=.cons h
theorem src_mk {k n:Int} {s:ByteArray} {l:List VT} {ks:List ByteArray}:(VT.mk k n s l ks).src = if k = 0 then nullB else if k = 1 then (if n = 0 then falseB else trueB) else if k = 2 then Lib.itoa n else if k = 3 then qL s else if k = 4 then bL s
  else if k = 5 then 91 :: (jn [44,32] (l.map VT.src) ++ [93]) else if k = 6 then 123 :: (jn [44,32] (zf0 ks l) ++ [125])
  else if k = 7 then 36 :: bL s else []:=zk5 k n s l ks
theorem zF6:∀ l:List VT,VT.toks l = l.map VT.tok
 | [] => rfl
 | t :: r => by rw [VT.toks,zF6 r]; rfl
theorem zx3:∀ (ks:List ByteArray) (l:List VT),zf0 ks l = (List.zipWith (fun (a:ByteArray) (t:VT) => (bL a ++ (58 :: 32 :: t.src),(2,a.data.toList) :: (1,[58]) :: t.tok)) ks l).map Prod.fst ∧ List.zipWith (fun (a:ByteArray) (b:List Lo) => (2,a.data.toList) :: (1,[58]) :: b) ks (VT.toks l) = (List.zipWith (fun (a:ByteArray) (t:VT) => (bL a ++ (58 :: 32 :: t.src),(2,a.data.toList) :: (1,[58]) :: t.tok)) ks l).map Prod.snd
 | [],l => by cases l <;> exact ⟨rfl,rfl⟩
 | k :: ks,[] => ⟨rfl,rfl⟩
 | k :: ks,t :: l => by
   have ih:=zx3 ks l
   refine ⟨?_, ?_⟩
   ·show (bL k ++ (58 :: 32 :: t.src)) :: zf0 ks l = _
    rw [ih.1]; rfl
   ·show ((2,k.data.toList) :: (1,[58]) :: t.tok) :: List.zipWith _ ks (VT.toks l) = _
    rw [ih.2]; rfl
theorem src_sp (t:VT):t.cst = true → t.num → Sp t.src t.tok:=by
 refine VT.ind (P:=fun t => t.cst = true → t.num → Sp t.src t.tok) (fun k n s l ks ih => ?_) t
 intro hc hnum
 have hv:=cst_v _ hc
 have hit:=zt1 hc
 rw [VT.num] at hnum
 have hall:∀ t ∈ l,Sp t.src t.tok:=fun t ht => by
  obtain ⟨i,hi,e⟩:=List.getElem_of_mem ht
  exact ih i t (by rw [List.getElem?_eq_getElem hi,e]) (hit t ht) (num_at hnum.2 ht)
 rw [src_mk,tok_k]
 cases hv with
 | null => exact Sp.name (by decide)
 | bool h => rcases h with rfl | rfl <;> exact Sp.name (by decide)
 | int =>
   have h0:(T1.numL (Lib.itoa n)).2 = 0:=by rw [T1.zG8 n hnum.1.1 hnum.1.2]
   exact Sp.int h0
 | text => exact Sp.text _
 | enum h =>
   unfold enumB at h
   simp only [Bool.and_eq_true] at h
   exact Sp.nm h.2
 | list =>
   have:=zv9 sep_c VT.src VT.tok l hall
   rw [zu1, ← zF6] at this
   exact Sp.sign (by decide) (Sp.app this (hw_c (by decide)) (Sp.sign (c:=93) (by decide) .nil))
 | object hl hk hn =>
   have:=jn_sp sep_c (List.zipWith (fun (a:ByteArray) (t:VT) => (bL a ++ (58 :: 32 :: t.src),(2,a.data.toList) :: (1,[58]) :: t.tok)) ks l) (fun p hp => by
    obtain ⟨i,hi,e⟩:=List.getElem_of_mem hp
    rw [List.getElem_zipWith] at e
    subst e
    exact Sp.app (Sp.nm (List.all_eq_true.1 hk _ (List.getElem_mem _))) (hw_c (by decide)) (.sign sg58 (.sep sep32 (hall _ (List.getElem_mem _)))))
   rw [zu1, ← (zx3 ks l).1, ← (zx3 ks l).2] at this
   exact Sp.sign (by decide) (Sp.app this (hw_c (by decide)) (Sp.sign (c:=125) (by decide) .nil))
theorem ref_sp {n:ByteArray} {ws:List Int} (h:K.okB n ws = true):Sp (zk8 n ws) (refT n ws):=by
 unfold K.okB at h
 simp only [Bool.and_eq_true] at h
 have hn:=h.1.1
 have h1:∀ (ls:List Int),Sp (ls.map K.endB) (ls.map wrT) ∧ Hw (ls.map K.endB):=by
  intro ls
  induction ls with
  | nil => exact ⟨.nil,.nil⟩
  | cons w r ih =>
    rw [List.map_cons,List.map_cons]
    unfold K.endB wrT
    by_cases hw:w = 1
    ·rw [if_pos hw,if_pos hw]; exact ⟨.sign (by decide) ih.1,.cons (by decide)⟩
    ·rw [if_neg hw,if_neg hw]; exact ⟨.sign (by decide) ih.1,.cons (by decide)⟩
 have h2:∀ (k:Nat) (a:List UInt8) (q:List Lo),Sp a q → Sp (List.replicate k 91 ++ a) (List.replicate k (1,[91]) ++ q):=by
  intro k a q ha
  induction k with
  | zero => exact ha
  | succ k ih => exact .sign (by decide) ih
 have h3:=h1 ws.reverse
 unfold zk8 K.prL refT
 rw [List.append_assoc]
 exact h2 _ _ _ (Sp.app (Sp.name hn) h3.2 h3.1)
theorem arg_sp {x:ByteArray × VT} (h:argOk x = true) (hn:x.2.num):Sp (zr4 x) (argT x):=by
 unfold argOk litOk zc0 at h
 simp only [Bool.and_eq_true] at h
 exact Sp.app (Sp.nm h.1) (hw_c (by decide)) (p58 (src_sp _ (by unfold VT.cst; rw [h.2.1.2,h.2.2.2]; rfl) hn))
theorem par_sp {α:Type} (f : α → List UInt8) (g : α → List Lo) (l:List α) (hp:∀ x ∈ l,Sp (f x) (g x)):Sp (if l.length = 0 then [] else [40] ++ (jn [44,32] (l.map f) ++ [41])) (parT g l) ∧ Hw (if l.length = 0 then [] else [40] ++ (jn [44,32] (l.map f) ++ [41])):=by
 unfold parT
 by_cases h:l.length = 0
 ·rw [if_pos h,if_pos h]; exact ⟨.nil,.nil⟩
 ·rw [if_neg h,if_neg h]
  have:=zv9 sep_c f g l hp
  rw [zu1] at this
  exact ⟨p40 (Sp.app this (hw_c (by decide)) (Sp.sign (c:=41) (by decide) .nil)),.cons (by decide)⟩
theorem dir_sp {d:DirT} (h:dirOk d = true) (hn:∀ a ∈ d.args,a.2.num):Sp (zr2 d) (dirT d):=by
 unfold dirOk at h
 rw [Bool.and_eq_true] at h
 have hp:=par_sp zr4 argT d.args (fun x hx => arg_sp ((zb1 h.2).2.2 x hx) (hn x hx))
 exact p64 (Sp.app (Sp.nm h.1) hp.2 hp.1)
theorem zt2 {l:List DirT} (h:zp6 l = true) (hn:dirsN l):Sp (zb5 l) (dirsT l) ∧ Hw (zb5 l):=by
 unfold zb5
 by_cases h0:l.length = 0
 ·rw [if_pos h0,List.length_eq_zero_iff.1 h0]; exact ⟨.nil,.nil⟩
 ·rw [if_neg h0]
  have:=zv9 sep_s zr2 dirT l (fun d hd => dir_sp ((zb1 h).2.2 d hd) (hn d hd))
  rw [zu1] at this
  exact ⟨p32 this,.cons (by decide)⟩
theorem inp_sp {x:InpT} (h:inpOk x = true) (hn:inpN x):Sp (zi3 x) (inpT x):=by
 unfold inpOk at h
 simp only [Bool.and_eq_true] at h
 obtain ⟨h1,h2,h3,h4⟩:=h
 have ht:=zt2 h4 hn.2
 have hd:Sp (if x.has = true then [32,61,32] ++ x.dflt.src else []) (if x.has = true then (1,[61]) :: x.dflt.tok else []) ∧ Hw (if x.has = true then [32,61,32] ++ x.dflt.src else []):=by
  cases hh:x.has with
  | false => exact ⟨.nil,.nil⟩
  | true =>
    rw [hh] at h3
    have h5:litOk x.dflt = true:=h3
    unfold litOk zc0 at h5
    simp only [Bool.and_eq_true] at h5
    exact ⟨p61 (src_sp _ (by unfold VT.cst; rw [h5.1.2,h5.2.2]; rfl) hn.1),.cons (by decide)⟩
 exact Sp.app (Sp.nm h1) (hw_c (by decide)) (p58 (Sp.app (ref_sp h2) (hd.2.app ht.2) (Sp.app hd.1 ht.2 ht.1)))
theorem fld_sp {x:FldT} (h:fldOk x = true) (hn:fldN x):Sp (zj0 x) (fldT x):=by
 unfold fldOk at h
 simp only [Bool.and_eq_true] at h
 obtain ⟨h1,h2,h3,h4⟩:=h
 have ht:=zt2 h4 hn.2
 have hp:=par_sp zi3 inpT x.args (fun y hy => inp_sp ((zb1 h2).2.2 y hy) (hn.1 y hy))
 exact Sp.app (Sp.nm h1) (hp.2.app (hw_c (by decide))) (Sp.app hp.1 (hw_c (by decide)) (p58 (Sp.app (ref_sp h3) ht.2 ht.1)))
theorem mem_sp {x:MemT} (h:zg0 x = true) (hn:dirsN x.dirs):Sp (zf4 x) (memT x):=by
 unfold zg0 at h
 rw [Bool.and_eq_true] at h
 have ht:=zt2 h.2 hn
 exact Sp.app (Sp.nm h.1) ht.2 ht.1
theorem zH0 {α:Type} (f : α → List UInt8) (g : α → List Lo):∀ l:List α,(∀ x ∈ l,Sp (f x) (g x)) → Sp ((l.map f).map zb0).flatten (l.map g).flatten ∧ Hw ((l.map f).map zb0).flatten
 | [],_ => ⟨.nil,.nil⟩
 | x :: l,hp => by
   have ih:=zH0 f g l (fun y hy => hp y (List.mem_cons_of_mem _ hy))
   have h1:Sp (zb0 (f x)) (g x):=by
    have h2:Sp (f x ++ [10]) (g x ++ []):=Sp.app (hp x List.mem_cons_self) (hw_c (by decide)) (Sp.sep sep10 .nil)
    rw [List.append_nil] at h2
    exact p3232 h2
   exact ⟨Sp.app h1 ih.2 ih.1,.cons (by decide)⟩
theorem zI5 {α:Type} {ds:List DirT} (h:zp6 ds = true) (hn:dirsN ds) (f : α → List UInt8) (g : α → List Lo) (l:List α) (hp:∀ x ∈ l,Sp (f x) (g x)):Sp (zg3 ds (l.map f)) (dirsT ds ++ blkT g l) ∧ Hw (zg3 ds (l.map f)):=by
 have ht:=zt2 h hn
 have hl:=zH0 f g l hp
 have hb:Sp ([32,123,10] ++ (((l.map f).map zb0).flatten ++ [125,10])) (blkT g l):=p123 (Sp.app hl.1 (hw_c (by decide)) (Sp.sign (c:=125) (by decide) (.sep sep10 .nil)))
 exact ⟨Sp.app ht.1 (hw_c (by decide)) hb,ht.2.app (hw_c (by decide))⟩
theorem zP5 (c:UInt8) (l:List ByteArray):nmsT c l = jnT [(1,[c])] (l.map fun x => [(2,x.data.toList)]):=by
 cases l with
 | nil => rfl
 | cons x l => simp [nmsT,jnT,List.map_map,Function.comp_def]
theorem imp_sp {l:List ByteArray} (h:∀ x ∈ l,nmA x = true):Sp (zm1 l) (impT l) ∧ Hw (zm1 l):=by
 unfold zm1 impT
 by_cases h0:l.length = 0
 ·rw [if_pos h0,if_pos h0]; exact ⟨.nil,.nil⟩
 ·rw [if_neg h0,if_neg h0]
  have hj:=zv9 sep_a bL (fun x => [((2:Int),x.data.toList)]) l (fun x hx => Sp.nm (h x hx))
  rw [← zP5] at hj
  have hk:Sp ([105,109,112,108,101,109,101,110,116,115] ++ (32 :: jn [32,38,32] (l.map bL))) ([(2,[105,109,112,108,101,109,101,110,116,115])] ++ nmsT 38 l):=Sp.app (Sp.name (by decide)) (hw_c (by decide)) (.sep sep32 hj)
  exact ⟨.sep sep32 hk,.cons (by decide)⟩
theorem zC2 {w a:List UInt8} {q:List Lo} {n:ByteArray} (hw:T1.nameL w = true) (hn:nmA n = true) (ha:Sp a q) (hh:Hw a):Sp ((w ++ [32]) ++ (bL n ++ a)) ((2,w) :: (2,n.data.toList) :: q):=by
 have h2:Sp (32 :: (bL n ++ a)) ([(2,n.data.toList)] ++ q):=.sep sep32 (Sp.app (Sp.nm hn) hh ha)
 have h1:Sp (w ++ (32 :: (bL n ++ a))) ([(2,w)] ++ ([(2,n.data.toList)] ++ q)):=Sp.app (Sp.name hw) (hw_c (by decide)) h2
 rw [List.append_assoc]
 exact h1
theorem def_sp {d:DefT} (h:defOk d = true) (hn:defN d):Sp (zg7 d) (defT d):=by
 unfold defOk at h
 simp only [Bool.and_eq_true] at h
 obtain ⟨h1,hd,hp⟩:=h
 obtain ⟨n1,n2,n3,n4⟩:=hn
 unfold zt5 zi9 at hp
 unfold zg7 defT
 split at hp
 ·next e =>
  simp only [Bool.and_eq_true] at hp
  obtain ⟨p1,p2,_,_⟩:=hp
  rw [if_pos e,if_pos e]
  have hb:=zI5 hd n1 zj0 fldT d.fields (fun x hx => fld_sp ((zb1 p2).2.2 x hx) (n2 x hx))
  have hi:=imp_sp (zb1 p1).2.2
  exact zC2 (w:=[116,121,112,101]) (by decide) h1 (Sp.app hi.1 hb.2 hb.1) (hi.2.app hb.2)
 next e1 =>
 split at hp
 ·next e =>
  simp only [Bool.and_eq_true] at hp
  obtain ⟨_,p2,_,_⟩:=hp
  rw [if_neg e1,if_neg e1,if_pos e,if_pos e]
  have hb:=zI5 hd n1 zj0 fldT d.fields (fun x hx => fld_sp ((zb1 p2).2.2 x hx) (n2 x hx))
  exact zC2 (w:=[105,110,116,101,114,102,97,99,101]) (by decide) h1 hb.1 hb.2
 next e2 =>
 split at hp
 ·next e =>
  simp only [Bool.and_eq_true] at hp
  obtain ⟨_,_,p3,_⟩:=hp
  rw [if_neg e1,if_neg e1,if_neg e2,if_neg e2,if_pos e,if_pos e]
  have ht:=zt2 hd n1
  have hm:∀ x ∈ d.members,Sp (zf4 x) [(2,x.name.data.toList)]:=fun x hx => by
   have h5:=(zb1 p3).2.2 x hx
   unfold zk3 at h5
   rw [Bool.and_eq_true,decide_eq_true_eq] at h5
   unfold zf4 zb5
   rw [if_pos h5.2,List.append_nil]
   exact Sp.nm h5.1
  have hj:=zv9 sep_o zf4 (fun x:MemT => [((2:Int),x.name.data.toList)]) d.members hm
  have e5:jnT [(1,[124])] (d.members.map fun x:MemT => [((2:Int),x.name.data.toList)]) = nmsT 124 (d.members.map MemT.name):=by rw [zP5,List.map_map]; rfl
  rw [e5] at hj
  have hr:Sp (jn [32,124,32] (d.members.map zf4) ++ [10]) (nmsT 124 (d.members.map MemT.name) ++ []):=Sp.app hj (hw_c (by decide)) (.sep sep10 .nil)
  rw [List.append_nil] at hr
  have hu:Sp (zz3 d.dirs d.members) (dirsT d.dirs ++ ((1,[61]) :: nmsT 124 (d.members.map MemT.name))):=Sp.app ht.1 (hw_c (by decide)) (p61 hr)
  exact zC2 (w:=[117,110,105,111,110]) (by decide) h1 hu (ht.2.app (hw_c (by decide)))
 next e3 =>
 split at hp
 ·next e =>
  simp only [Bool.and_eq_true] at hp
  obtain ⟨_,_,p3,_⟩:=hp
  rw [if_neg e1,if_neg e1,if_neg e2,if_neg e2,if_neg e3,if_neg e3,if_pos e,if_pos e]
  have hb:=zI5 hd n1 zf4 memT d.members (fun x hx => mem_sp ((zb1 p3).2.2 x hx) (n3 x hx))
  exact zC2 (w:=[101,110,117,109]) (by decide) h1 hb.1 hb.2
 next e4 =>
 split at hp
 ·next e =>
  simp only [Bool.and_eq_true] at hp
  obtain ⟨_,_,_,p4⟩:=hp
  rw [if_neg e1,if_neg e1,if_neg e2,if_neg e2,if_neg e3,if_neg e3,if_neg e4,if_neg e4,if_pos e]
  have hb:=zI5 hd n1 zi3 inpT d.inputs (fun x hx => inp_sp ((zb1 p4).2.2 x hx) (n4 x hx))
  exact zC2 (w:=[105,110,112,117,116]) (by decide) h1 hb.1 hb.2
 ·cases hp
theorem doc_sp {xs:List DefT} (h:docOk xs = true) (hn:∀ d ∈ xs,defN d):Sp (zh7 xs) (docT xs):=by
 have:=zv9 sep_n zg7 defT xs (fun d hd => def_sp ((zb1 h).2.2 d hd) (hn d hd))
 rw [zu1] at this
 exact this
theorem zO0 {xs ys:List DefT} (hx:docOk xs = true) (hnx:∀ d ∈ xs,defN d) (hy:docOk ys = true) (hny:∀ d ∈ ys,defN d) (h:zh7 xs = zh7 ys):xs = ys:=doc_inj hx hnx hy hny (doc_sp hx hnx).all (h ▸ (doc_sp hy hny).all)
end Go.Proofs.YtfgelheiknmjgaaGreatDoor
namespace Go.Proofs.YtfgelheiknmjgaaGreatDoor
open Go.RowKit
open K (Sp Sc Hw wdH wdB)
mutual
def VT.lit:VT → List UInt8
 | .mk k n s items keys =>
   if k = 0 then nullB else if k = 1 then (if n = 1 then trueB else falseB) else if k = 2 then Lib.itoa n else if k = 3 then qL s else if k = 4 then bL s
   else if k = 7 then 36 :: 32 :: bL s
   else if k = 6 then 123 :: ((List.zipWith (fun a b => (32 :: (bL a ++ [32,58])) ++ (32 :: b)) keys (VT.lits items)).flatten ++ [32,125]) else 91 :: (((VT.lits items).map fun x => 32 :: x).flatten ++ [32,93])
def VT.lits:List VT → List (List UInt8)
 | [] => []
 | t :: r => t.lit :: VT.lits r
end
theorem hw2 {c:UInt8} {a:List UInt8}:Hw ([32,c] ++ a):=.cons (by decide)
end Go.Proofs.YtfgelheiknmjgaaGreatDoor
namespace Go.Proofs.YtfgelheiknmjgaaGreatDoor
open Go.RowKit
end Go.Proofs.YtfgelheiknmjgaaGreatDoor
namespace Go.Proofs.YtfgelheiknmjgaaGreatDoor
open Go.RowKit
set_option maxHeartbeats 1000000 in
theorem ze0 (K:Option Addr) (lk ck:Nat) (keys:List ByteArray) (w:World) (B:Nat) (hlk:keys.length = lk) (hbk:lk * 16 ≤ 140737488351232) (hK:KeysAt w B K keys) (hB:B ≤ w.heap.size) :
  Calls Tryz.prog 226 #[.slice K lk ck] w fun e w' => e = .returned (.bool (!decide keys.Nodup)) ∧ Below w.heap.size w w':=by
 have HL:=Lib.hid hlk
 have HK:Hid (0 < lk → ∃ a,K = some a ∧ ∀ W,Below w.heap.size w W → ∀ i s,keys[i]? = some s → W.cell? (a.add i) = some (.string s)):=Lib.hid (fun h0 => by
  obtain ⟨a,e,hab,hc⟩:=hK (by omega)
  exact ⟨a,e,fun W hb i s hi => (hb.cell (p:=a.add i) (by rw [za1]; omega)).trans (hc i s hi)⟩)
 have hlm:(lk:Int) ≤ 140737488351232:=by omega
 clear hlk hK
 go_enter Tryz.func226, Tryz.ntmps226
 go_wp2_with fail
 go_loopw [3] (fun i wr => ∃ j:Nat,j ≤ lk ∧ i = .int .i64 j ∧ (keys.take j).Nodup ∧ Below w.heap.size w wr) (fun i _ => lk - (intOf i).toNat)
 case atStart => exact ⟨0,Nat.zero_le _,rfl,List.nodup_nil,Below.refl _ _⟩
 case round =>
  obtain ⟨j,hj,rfl,hnd,hb⟩:=hrel
  have HND:=Lib.hid hnd
  have HB:=Lib.hid hb
  clear hnd hb
  by_cases hlt:j < lk
  ·obtain ⟨a,rfl,hc⟩:=HK.out (by omega)
   have hjl:j < keys.length:=by have:=HL.out; omega
   have HC:=Lib.hid hc
   have HSN:=Lib.hid (zK4 hjl)
   have HJ:Hid (∀ W,Below w.heap.size w W → W.cell? (a.add j) = some (.string keys[j])):=Lib.hid fun W hb => hc W hb j _ (List.getElem?_eq_getElem hjl)
   clear hc
   generalize hs:keys[j] = s at *
   clear hs
   go_wp2_with fail
   go_loopw [4] (fun k wr => ∃ m:Nat,m ≤ j ∧ k = .int .i64 m ∧ s ∉ keys.take m ∧ Below w.heap.size w wr) (fun k _ => j - (intOf k).toNat)
   case atStart => exact ⟨0,Nat.zero_le _,rfl,by simp,HB.out⟩
   case round =>
    obtain ⟨m,hm,rfl,hni,hb2⟩:=hrel
    have HNI:=Lib.hid hni
    have HB2:=Lib.hid hb2
    clear hni hb2
    by_cases hmj:m < j
    ·have hml:m < keys.length:=by omega
     have HM:Hid (∀ W,Below w.heap.size w W → W.cell? (a.add m) = some (.string keys[m])):=Lib.hid fun W hb => HC.out W hb m _ (List.getElem?_eq_getElem hml)
     have HTK:Hid (keys.take (m + 1) = keys.take m ++ [keys[m]]):=Lib.hid (List.take_succ_eq_append_getElem hml)
     have HME:Hid (keys[m] ∈ keys.take j):=Lib.hid (List.mem_take_iff_getElem.2 ⟨m,by omega,rfl⟩)
     generalize keys[m] = u at *
     go_wp2_with fail
     refine za5 (fun W => Below w.heap.size w W) HB2.out (by kernel_rfl) ?_
     intro W hbW _
     have hcj:∀ x:Past W,x.w.cell? (a.add j) = some (.string s):=fun x => HJ.out x.w (hbW.trans (x.b.mono hbW.size))
     have hcm:∀ x:Past W,x.w.cell? (a.add m) = some (.string u):=fun x => HM.out x.w (hbW.trans (x.b.mono hbW.size))
     have HW:=Lib.hid hbW
     clear hbW
     repeat (go_big_quiet_step (fail))
     refine wpQuiet_nil ?_
     intro _ hw'
     obtain ⟨x,rfl⟩:=hw'
     have HX:=Lib.hid (HW.out.trans (x.b.mono HW.out.size))
     by_cases he:s = u
     ·have heq:(s.toList == u.toList) = true:=by rw [he]; simp
      rw [heq]
      subst he
      clear heq
      have HNO:Hid (decide keys.Nodup = false):=Lib.hid (by
       simp only [decide_eq_false_iff_not]
       intro h
       exact (HSN.out.1 (zK3 h)).2 HME.out)
      go_wp2_with fail
      go_ret
      exact ⟨by rw [HNO.out]; rfl,HX.out⟩
     ·have hne:(s.toList == u.toList) = false:=by
       rw [Lib.toList_data,Lib.toList_data,beq_eq_false_iff_ne]
       intro h
       exact he (by cases s; cases u; simp only [ByteArray.mk.injEq]; exact Array.toList_inj.1 h)
      have HNI2:Hid (s ∉ keys.take (m + 1)):=Lib.hid (by
       rw [HTK.out,List.mem_append]
       rintro (h | h)
       ·exact HNI.out h
       ·exact he (by simpa using h))
      clear he
      rw [hne]
      go_wp2_with fail
      go_roundw
      case rel => exact ⟨m + 1,by omega,by go_num,HNI2.out,HX.out⟩
      case measure => simp [intOf]; omega
    ·have hmj':m = j:=by omega
     subst hmj'
     go_wp2_with fail
     trace_state
     go_roundw
     case rel => exact ⟨m + 1,by omega,by go_num,HSN.out.2 ⟨HND.out,HNI.out⟩,HB2.out⟩
     case measure => simp [intOf]; omega
  ·have HJ:Hid (decide keys.Nodup = true):=Lib.hid (by
    have:=HND.out
    rw [List.take_of_length_le (by have:=HL.out; omega)] at this
    simpa using this)
   go_wp2_with fail
   go_ret
   exact ⟨by rw [HJ.out]; rfl,HB.out⟩
end Go.Proofs.YtfgelheiknmjgaaGreatDoor
namespace Go.Proofs.YtfgelheiknmjgaaGreatDoor
open Go.RowKit
def za3 (lit:Bool):VT → Bool
 | .mk k n s is ks =>
   if k = 0 then decide (n = 0) && decide (s.size = 0) && leafB is ks
   else if k = 1 then (decide (n = 0) || decide (n = 1)) && decide (s.size = 0) && leafB is ks
   else if k = 2 then decide (s.size = 0) && leafB is ks
   else if k = 3 then decide (n = 0) && leafB is ks
   else if k = 4 then decide (n = 0) && leafB is ks && enumB s
   else if k = 5 then decide (n = 0) && decide (s.size = 0) && decide (ks.length = 0)
   else if k = 6 then decide (n = 0) && decide (s.size = 0) && decide (ks.length = is.length) && decide ks.Nodup
   else if k = 7 then lit && decide (n = 0) && leafB is ks && nmA s
   else false
end Go.Proofs.YtfgelheiknmjgaaGreatDoor

