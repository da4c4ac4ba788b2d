
/-
 Texts joined: KPure KSpan KSep KPast KRune KWord RefUnquote UQuote.
-/
import Derived.Test.YtfgelheiknmjgaaGreatDoorZt2
import Derived.Test.YtfgelheiknmjgaaGreatDoorZt3
import Derived.Lib.OthersKept
import Derived.Laws.Runes
import Derived.WalkMore
set_option maxRecDepth 1000000
set_option maxHeartbeats 8000000
namespace Go.Proofs.YtfgelheiknmjgaaGreatDoor.K
open Go.RowKit
def spanL {σ:Type} (step : σ->UInt8->Option σ) : σ->List UInt8->Nat
 | _,[]=>0
 | st,c::r=>match step st c with
   | none=>0
   | some st'=>spanL step st' r+1
def sepS (inC:Bool) (c:UInt8):Option Bool :=
 if c=35 then some true else if c=10∨c=13 then some false else if c=32∨c=9∨c=44 then some inC else if inC=true then some true else none
def wdB (c:UInt8):Bool:=T1.nmB (c.toNat:Int)
def wdS (u:Unit) (c:UInt8):Option Unit:=if wdB c=true then some u else none
def ltS (skip:Bool) (c:UInt8):Option Bool:=if c=34/\skip=false then none else some (decide (c=92)&&!skip)
def sepN (l:List UInt8):Nat:=spanL sepS false l
def wdN (l:List UInt8):Nat:=spanL wdS () l
def ltN (l:List UInt8):Nat:=spanL ltS false l
def sgL:List UInt8:=[33,36,38,40,41,58,61,64,91,93,123,124,125]
def elL:List UInt8:=[46,46,46]
def dmB (c:UInt8):Bool:=T1.digB (c.toNat:Int)||decide (c=45)
def tokR (l:List UInt8):Except Int (Int × List UInt8 × Nat) :=
 let c:=l.getD 0 0
 if c∈sgL then .ok (1,l.take 1,1)
 else if l.take 3=elL then .ok (1,elL,3)
 else if T1.letU (c.toNat:Int)=true then
  if T1.nameL (l.take (wdN l))=true then .ok (2,l.take (wdN l),wdN l) else .error 3
 else if dmB c=true then
  if (T1.numL (l.take (wdN (l.drop 1)+1))).2=0 then .ok (3,l.take (wdN (l.drop 1)+1),wdN (l.drop 1)+1) else .error (T1.numL (l.take (wdN (l.drop 1)+1))).2
 else if c=34 then
  if l.length<ltN (l.drop 1)+2 then .error 3 else match T1.zd5 (l.take (ltN (l.drop 1)+2)) with
   | none=>.error 3
   | some t=>.ok (4,t,ltN (l.drop 1)+2)
 else .error 3
abbrev Tk:=Int × List UInt8 × Nat
def scF:Nat->Nat->List UInt8->Except (Nat × Int) (List Tk)
 | 0,_,_=>.error (0,99)
 | f+1,at',l =>
   if l.drop (sepN l)=[] then .ok [(5,[],at'+sepN l)] else
    match tokR (l.drop (sepN l)) with
    | .error c=>.error (at'+sepN l,c)
    | .ok (k,t,n)=>match scF f (at'+sepN l+n) ((l.drop (sepN l)).drop n) with
      | .error e=>.error e
      | .ok ts=>.ok ((k,t,at'+sepN l)::ts)
def scR (l:List UInt8):Except (Nat × Int) (List Tk):=if 65536<l.length then .error (65536,4) else scF (l.length+1) 0 l
section
variable {σ:Type} {step : σ->UInt8->Option σ}
theorem zG4 (st : σ) (l:List UInt8):spanL step st l<=l.length:=by
 induction l generalizing st with
 | nil=>exact Nat.le_refl _
 | cons c r ih =>
   unfold spanL
   cases h:step st c with
   | none=>exact Nat.zero_le _
   | some s2=>exact Nat.succ_le_succ (ih s2)
end
theorem zG6 (l:List UInt8):sepN l<=l.length:=zG4 _ _
theorem zS8 (l:List UInt8):wdN l<=l.length:=zG4 _ _
theorem ltN_le (l:List UInt8):ltN l<=l.length:=zG4 _ _
theorem letU_wdB {c:UInt8} (h:T1.letU (c.toNat:Int)=true):wdB c=true:=by
 unfold wdB; rw [T1.nm_of,h]; rfl
theorem wdN_pos {l:List UInt8} (hl:l≠[]) (h:T1.letU ((l.getD 0 0).toNat:Int)=true):1<=wdN l:=by
 cases l with
 | nil=>exact absurd rfl hl
 | cons c r =>
   have h1:wdB c=true:=letU_wdB h;unfold wdN spanL wdS;rw [if_pos h1];exact Nat.le_add_left _ _
theorem zT3 {l:List UInt8} {k:Int} {t:List UInt8} {n:Nat} (hl:l≠[]) (h:tokR l=.ok (k,t,n)):1<=n/\n<=l.length:=by
 have h0:1<=l.length:=List.length_pos_iff.2 hl;have hd:wdN (l.drop 1)+1<=l.length:=by have:=zS8 (l.drop 1); rw [List.length_drop] at this; omega
 have hw:=zS8 l;unfold tokR at h;simp only at h
 split at h
 ·cases h; exact ⟨Nat.le_refl _,h0⟩
 ·split at h
  ·next h3 =>
   have h4:(l.take 3).length=3:=by rw [h3]; rfl
   rw [List.length_take] at h4;cases h; exact ⟨by omega,by omega⟩
  ·split at h
   ·next h3 =>
    split at h
    ·cases h; exact ⟨wdN_pos hl h3,hw⟩
    ·cases h
   ·split at h
    ·split at h
     ·cases h; exact ⟨by omega,hd⟩
     ·cases h
    ·split at h
     ·split at h
      ·cases h
      ·split at h
       ·cases h
       ·cases h; exact ⟨by omega,by omega⟩
     ·cases h
end Go.Proofs.YtfgelheiknmjgaaGreatDoor.K
namespace Go.Proofs.YtfgelheiknmjgaaGreatDoor.K
open Go.RowKit
structure Bes (p N:Nat) (w w':World):Prop where
 os:w'.os=w.os
 tape:w'.tape=w.tape
 output:w'.output=w.output
 size:w.heap.size<=w'.heap.size
 block:∀ k,k<N->k≠p->w'.heap[k]?=w.heap[k]?
theorem Bes.refl (p N:Nat) (w:World):Bes p N w w:=⟨rfl,rfl,rfl,Nat.le_refl _,fun _ _ _=>rfl⟩
theorem Bes.trans {p N:Nat} {a b c:World} (h:Bes p N a b) (k:Bes p N b c):Bes p N a c :=
 ⟨k.os.trans h.os,k.tape.trans h.tape,k.output.trans h.output,Nat.le_trans h.size k.size,fun i hi hp=>(k.block i hi hp).trans (h.block i hi hp)⟩
theorem Bes.mono {p N N':Nat} {w w':World} (h:Bes p N w w') (hN:N'<=N):Bes p N' w w':=⟨h.os,h.tape,h.output,h.size,fun k hk hp=>h.block k (Nat.lt_of_lt_of_le hk hN) hp⟩
theorem Bes.below {p N M:Nat} {w w':World} (h:Bes p N w w') (hp:M<=p) (hN:M<=N):Below M w w':=⟨h.os,h.tape,h.output,h.size,fun k hk=>h.block k (by omega) (by omega)⟩
theorem Bes.of {p N:Nat} {w w':World} (h:Below N w w'):Bes p N w w':=⟨h.os,h.tape,h.output,h.size,fun k hk _=>h.block k hk⟩
theorem Bes.set {p N:Nat} {a w:World} (h:Bes p N a w) (i:Nat) (u:Value):Bes p N a (w.setCell ⟨p,i,none⟩ u) :=
 h.trans ⟨rfl,rfl,rfl,by simp [World.setCell],fun k _ hp=>Below.heap_setCell _ _ _ _ hp⟩
theorem zC5 (s:ByteArray) (pos:Nat) (h:pos<s.size) (ha:128<=(s[pos]'h).toNat):1<=(Utf8.decode s pos).2/\128<=(Utf8.decode s pos).1/\pos+(Utf8.decode s pos).2<=s.size/\∀ j,j<(Utf8.decode s pos).2->128<=(s.get! (pos+j)).toNat:=by
 have hh:=decode_high s pos h ha;refine ⟨hh.2,hh.1, ?_⟩;have h0:(s.get! (pos+0)).toNat=(s[pos]'h).toNat:=by rw [get_at s pos h]
 have hn:¬ (s.get! (pos+0)).toNat<128:=by omega
 have hc:∀ k,(decide (pos+k<s.size)&&(s.get! (pos+k)).toNat / 64==2)=true->pos+k<s.size/\128<=(s.get! (pos+k)).toNat:=by
  intro k hk;simp only [Bool.and_eq_true,decide_eq_true_eq,beq_iff_eq] at hk;exact ⟨hk.1,by omega⟩
 have one:∀ j,j<1->128<=(s.get! (pos+j)).toNat:=fun j hj=>by
  obtain rfl:j=0:=by omega
  omega
 have hcases:(Utf8.decode s pos).2=1∨((Utf8.decode s pos).2=2/\(decide (pos+1<s.size)&&(s.get! (pos+1)).toNat / 64==2)=true)
   ∨ ((Utf8.decode s pos).2=3/\(decide (pos+1<s.size)&&(s.get! (pos+1)).toNat / 64==2)=true/\(decide (pos+2<s.size)&&(s.get! (pos+2)).toNat / 64==2)=true)
   ∨ ((Utf8.decode s pos).2=4/\(decide (pos+1<s.size)&&(s.get! (pos+1)).toNat / 64==2)=true/\(decide (pos+2<s.size)&&(s.get! (pos+2)).toNat / 64==2)=true/\(decide (pos+3<s.size)&&(s.get! (pos+3)).toNat / 64==2)=true):=by
  unfold Utf8.decode;simp only [hn,if_false]
  split
  ·next h1 =>
   rw [Bool.and_eq_true] at h1
   split
   ·exact .inr (.inl ⟨rfl,h1.2⟩)
   ·exact .inl rfl
  ·split
   ·next h1 =>
    simp only [Bool.and_eq_true (_&&_)] at h1
    split
    ·refine .inr (.inr (.inl ⟨rfl, ?_,h1.2⟩))
     have:=h1.1; rw [Bool.and_eq_true] at this; exact this.2
    ·exact .inl rfl
   ·split
    ·next h1 =>
     rw [Bool.and_eq_true] at h1;have h2:=h1.1;rw [Bool.and_eq_true] at h2;have h3:=h2.1;rw [Bool.and_eq_true] at h3
     split
     ·exact .inr (.inr (.inr ⟨rfl,h3.2,h2.2,h1.2⟩))
     ·exact .inl rfl
    ·exact .inl rfl
 rcases hcases with e | ⟨e,a⟩ | ⟨e,a,b⟩ | ⟨e,a,b,c⟩
 ·rw [e]; exact ⟨by omega,one⟩
 ·rw [e]
  have:=hc 1 a;refine ⟨by omega,fun j hj=>?_⟩;have:j=0∨j=1:=by omega
  rcases this with rfl | rfl <;> omega
 ·rw [e]
  have:=hc 1 a;have:=hc 2 b;refine ⟨by omega,fun j hj=>?_⟩;have:j=0∨j=1∨j=2:=by omega
  rcases this with rfl | rfl | rfl <;> omega
 ·rw [e]
  have:=hc 1 a;have:=hc 2 b;have:=hc 3 c;refine ⟨by omega,fun j hj=>?_⟩;have:j=0∨j=1∨j=2∨j=3:=by omega
  rcases this with rfl | rfl | rfl | rfl <;> omega
section
variable {σ:Type} {step : σ->UInt8->Option σ} {hi : σ->Option σ}
theorem zK1 (h1:∀ st c,128<=c.toNat->step st c=hi st) (h2:∀ st st',hi st=some st'->hi st'=some st'):∀ (a r:List UInt8) (st : σ),a≠[]->(∀ c∈a,128<=c.toNat) ->
  spanL step st (a++r)=match hi st with
   | none=>0
   | some st'=>a.length+spanL step st' r
 | [],_,_,h,_=>absurd rfl h
 | c::a,r,st,_,ha=>by
   rw [List.cons_append,spanL,h1 st c (ha c List.mem_cons_self)]
   cases hs:hi st with
   | none=>rfl
   | some st' =>
     show spanL step st' (a++r)+1=_
     cases a with
     | nil=>simp [Nat.add_comm]
     | cons d a2 =>
       rw [zK1 h1 h2 (d::a2) r st' (by simp) (fun x hx=>ha x (List.mem_cons_of_mem _ hx)),h2 st st' hs];simp only [List.length_cons]; omega
end
theorem get!_eq (s:ByteArray) (k:Nat) (h:k<s.size):s.get! k=s[k]'h:=get_at s k h
theorem yb5 (s:ByteArray) (pos:Nat) (h:pos<s.size):s.data.toList.drop pos=s[pos]::s.data.toList.drop (pos+1):=by
 have hl:pos<s.data.toList.length:=by rw [T1.size_eq]; exact h
 exact (List.getElem_cons_drop hl).symm
theorem yp3 (s:ByteArray) (pos:Nat) (h:pos<s.size) (ha:128<=(s[pos]'h).toNat):∃ a,s.data.toList.drop pos=a++s.data.toList.drop (pos+(Utf8.decode s pos).2)/\a≠[]/\a.length=(Utf8.decode s pos).2/\∀ c∈a,128<=c.toNat:=by
 obtain ⟨h1,_,h3,h4⟩:=zC5 s pos h ha;generalize (Utf8.decode s pos).2=k at *;have hl:=T1.size_eq s;refine ⟨(s.data.toList.drop pos).take k, ?_, ?_, ?_, ?_⟩
 ·rw [<- List.drop_drop,List.take_append_drop]
 ·intro e
  have:=congrArg List.length e;rw [List.length_take,List.length_drop] at this;simp at this; omega
 ·rw [List.length_take,List.length_drop]; omega
 ·intro c hc
  obtain ⟨j,hj,rfl⟩:=List.getElem_of_mem hc;rw [List.length_take,List.length_drop] at hj;rw [List.getElem_take,List.getElem_drop];have:=h4 j (by omega);rw [get!_eq s (pos+j) (by omega)] at this;exact this
theorem ye4 {σ:Type} {step : σ->UInt8->Option σ} {hi : σ->Option σ} (h1:∀ st c,128<=c.toNat->step st c=hi st) (h2:∀ st st',hi st=some st'->hi st'=some st') (s:ByteArray) (pos:Nat) (h:pos<s.size) (st : σ) :
  1<=(Utf8.decode s pos).2/\pos+(Utf8.decode s pos).2<=s.size /\
  spanL step st (s.data.toList.drop pos)=match (if (Utf8.decode s pos).1<128 then step st (Utf8.decode s pos).1.toUInt8 else hi st) with
   | none=>0
   | some st2=>(Utf8.decode s pos).2+spanL step st2 (s.data.toList.drop (pos+(Utf8.decode s pos).2)):=by
 rcases Nat.lt_or_ge (s[pos]).toNat 128 with ha | ha
 ·have e:=decode_ascii s pos h ha
  rw [e];refine ⟨Nat.le_refl _,by show pos+1<=_; omega, ?_⟩;have e2:((s[pos]).toNat).toUInt8=s[pos]:=by rw [Nat.toUInt8_eq,UInt8.ofNat_toNat]
  show _=match (if (s[pos]).toNat<128 then step st ((s[pos]).toNat).toUInt8 else hi st) with
   | none=>0
   | some st2=>1+spanL step st2 (s.data.toList.drop (pos+1))
  rw [if_pos ha,e2,yb5 s pos h,spanL]
  cases step st s[pos] with
  | none=>rfl
  | some st2=>exact Nat.add_comm _ _
 ·obtain ⟨g1,g2,g3,_⟩:=zC5 s pos h ha
  obtain ⟨a,ea,hne,hl,hc⟩:=yp3 s pos h ha;refine ⟨g1,g3, ?_⟩;rw [if_neg (by omega),ea,zK1 h1 h2 a _ st hne hc,hl]
theorem zN7 (s:ByteArray) (pos:Nat) (h:pos<s.size) (ha:128<=(s[pos]'h).toNat):Utf8.valid (Utf8.decode s pos).1=true:=by
 have h0:(s.get! (pos+0)).toNat=(s[pos]'h).toNat:=by rw [get_at s pos h]
 have hn:¬ (s.get! (pos+0)).toNat<128:=by omega
 have hb:∀ k,(s.get! (pos+k)).toNat<256:=fun k=>(s.get! (pos+k)).toNat_lt;have b0:=hb 0;have b1:=hb 1;have e:Utf8.valid (Utf8.runeError:Nat)=true:=by decide
 unfold Utf8.decode;simp only [hn,if_false]
 split
 ·next h1 =>
  rw [Bool.and_eq_true,beq_iff_eq] at h1
  split
  ·rw [validRune_eq]
   unfold validRune
   apply decide_eq_true
   left
   have:=h1.1;show (0:Int)<=((((s.get! (pos+0)).toNat % 32)*64+(s.get! (pos+1)).toNat % 64:Nat):Int)/\_;omega
  ·exact e
 ·split
  ·split
   ·next h2=>rw [Bool.and_eq_true] at h2; exact h2.2
   ·exact e
  ·split
   ·split
    ·next h2=>rw [Bool.and_eq_true] at h2; exact h2.2
    ·exact e
   ·exact e
theorem zN8 (s:ByteArray) (pos:Nat) (h:pos<s.size):(Utf8.decode s pos).1<128∨Utf8.valid (Utf8.decode s pos).1=true:=by
 rcases Nat.lt_or_ge (s[pos]).toNat 128 with ha | ha
 ·rw [decode_ascii s pos h ha]; exact .inl ha
 ·exact .inr (zN7 s pos h ha)
def zW9 {σ:Type} (o:Option σ) (Inv : σ->World->Prop) (p:Nat) (w:World) (e:Ending) (w':World):Prop :=
 e=.returned (.bool o.isSome)/\(∀ st',o=some st'->Inv st' w')/\Bes p w.heap.size w w'
theorem zG3 {σ:Type} {step : σ->UInt8->Option σ} {hi : σ->Option σ} {Inv : σ->World->Prop} {p:Nat} (F:FuncId) (hF:F = 103 ∨ F = 196 ∨ F = 158) (caps:Array Value)
  (h1:∀ st c,128<=c.toNat->step st c=hi st) (h2:∀ st st',hi st=some st'->hi st'=some st')
  (hst:∀ (st : σ) (r:Nat) (w:World),Inv st w->r<=2147483647->(r<128∨Utf8.valid r=true)->Calls Tryz.prog F (#[.int .i32 r]++caps) w (zW9 (if r<128 then step st r.toUInt8 else hi st) Inv p w))
  (hmv:∀ st w w',Inv st w->w'.heap[p]?=w.heap[p]?->Inv st w')
  (s:ByteArray) (hs:s.size<=maxLen) (st : σ) (w:World) (h:Inv st w) (hpk:p≠w.heap.size) :
  Calls Tryz.prog 102 #[.string s,.func (.func F) #[] caps] w fun e w'=>e=.returned (.int .i64 (spanL step st s.data.toList))/\Bes p w.heap.size w w':=by
 have H1:=Lh h1;have H2:=Lh h2;have HST:=Lh hst;have HMV:=Lh hmv;have HI:=Lh h;have HS:=Lh hs;have HPK:=Lh hpk;clear h1 h2 hst hmv h hs hpk;have hml:maxLen<=9223372036854775807:=by decide
 go_enter Tryz.func102, Tryz.ntmps102
 go_wp2_with fail
 go_loopw [] (fun wr=>∃ (pos:Nat) (st' : σ),wr.heap[w.heap.size]?=some (.stringIter s pos)/\pos<=s.size/\Inv st' wr/\spanL step st s.data.toList=pos+spanL step st' (s.data.toList.drop pos)/\Bes p w.heap.size w wr/\w.heap.size<wr.heap.size)
  (fun wr=>s.size-wr.iterPos w.heap.size)
 case atStart =>
  refine ⟨0,st,World.iter_heap w s 0,Nat.zero_le _,HMV.out _ _ _ HI.out ?_,by simp,Bes.of ((Below.refl _ _).alloc (Nat.le_refl _) _),by simp [World.iter]⟩
  have:=HPK.out;show (w.alloc (.stringIter s 0)).heap[p]?=_;rcases Nat.lt_or_ge p w.heap.size with h | h
  ·exact Below.heap_alloc _ _ _ h
  ·rw [Array.getElem?_eq_none (by simp; omega),Array.getElem?_eq_none h]
 case round =>
  obtain ⟨pos,st',hit,hp0,hi',hR,hb,hsz⟩:=hrel;have HB:=Lh hb;have HR:=Lh hR;have HII:=Lh hi';clear hb hR hi';have hpk:=HPK.out;have hpi:(wr.iterAt w.heap.size s (pos+(Utf8.decode s pos).2)).heap[p]?=wr.heap[p]?:=Lib.iterAt_other wr w.heap.size p s _ hpk;have HPI:=Lh hpi;clear hpi;by_cases hp:pos<s.size
  ·have hnx:∀ ty,(Instr.next (.pointer (some ⟨w.heap.size,0,none⟩)) true ty).run Tryz.prog wr=_:=fun ty=>Lib.run_next_any_at wr w.heap.size s pos ty hit hp
   have hd1:=decode_le s pos;have HIT:=Lh (Lib.iterAt_heap wr w.heap.size s pos (pos+(Utf8.decode s pos).2) hit);have HB2:Hid (Bes p w.heap.size w (wr.iterAt w.heap.size s (pos+(Utf8.decode s pos).2))):=Lh (HB.out.trans (Bes.of (Lib.below_iterAt (Below.refl _ _) (Nat.le_refl _) s _)));have HSZ:Hid (w.heap.size<(wr.iterAt w.heap.size s (pos+(Utf8.decode s pos).2)).heap.size):=Lh (by rw [Lib.iterAt_size]; exact hsz);have CALL:=Lh (HST.out st' (Utf8.decode s pos).1 (wr.iterAt w.heap.size s (pos+(Utf8.decode s pos).2)) (HMV.out _ _ _ HII.out HPI.out) hd1 (zN8 s pos hp));have STEP:=Lh (ye4 H1.out H2.out s pos hp st');have HH:=Lh hit;clear hit hpk;generalize hr:(Utf8.decode s pos).1=r at *;generalize hk:(Utf8.decode s pos).2=k at *;rcases hF with rfl | rfl | rfl
   all_goals
    go_wp2_with fail
    refine CALL.out.mono ?_
    rintro e w1 ⟨rfl,hI1,hb1⟩;have hbs:=hb1.size;have hit1:w1.heap[w.heap.size]?=some (.stringIter s (pos+k)):=(hb1.block w.heap.size HSZ.out HPK.out.symm).trans HIT.out;have HIT1:=Lh hit1;have HB1:=Lh (HB2.out.trans (hb1.mono (Nat.le_of_lt HSZ.out)));have HSZ1:Hid (w.heap.size<w1.heap.size):=Lh (Nat.lt_of_lt_of_le HSZ.out hbs);have HI1:=Lh hI1;have hm:=HS.out;clear hI1 hb1 hbs hit1
    cases ho:(if r<128 then step st' r.toUInt8 else hi st') with
    | none =>
      have E1:Hid (spanL step st s.data.toList=pos):=Lh (by rw [HR.out,STEP.out.2.2,ho]; exact Nat.add_zero _);clear ho;go_wp2_with fail;go_ret
      exact ⟨by rw [E1.out]; rfl,HB1.out⟩
    | some st2 =>
      have E1:Hid (spanL step st s.data.toList=pos+k+spanL step st2 (s.data.toList.drop (pos+k))):=Lh (by rw [HR.out,STEP.out.2.2,ho]; simp only [Nat.add_assoc]);have HI2:=Lh (HI1.out st2 ho);have hk1:=STEP.out.1;have hk2:=STEP.out.2.1;clear ho;go_wp2_with fail
      go_roundw
      case rel=>exact ⟨pos+k,st2,HIT1.out,hk2,HI2.out,E1.out,HB1.out,HSZ1.out⟩
      case measure =>
       simp only [World.iterPos,HIT1.out,HH.out]
       omega
  ·have hnx:∀ ty,(Instr.next (.pointer (some ⟨w.heap.size,0,none⟩)) true ty).run Tryz.prog wr=_:=fun ty=>Lib.run_next_end_at wr w.heap.size s pos ty hit hp
   have E1:Hid (spanL step st s.data.toList=s.size):=Lh (by
    rw [HR.out,List.drop_eq_nil_of_le (by rw [T1.size_eq]; omega)];show pos+0=_
    omega)
   go_wp2_with fail
   go_ret
   exact ⟨by rw [E1.out]; rfl,HB.out⟩
end Go.Proofs.YtfgelheiknmjgaaGreatDoor.K
namespace Go.Proofs.YtfgelheiknmjgaaGreatDoor.K
open Go.RowKit
abbrev pp (p:Nat):Value:=.pointer (some ⟨p,0,none⟩)
def BoxB (p:Nat) (b:Bool) (w:World):Prop:=w.heap[p]?=some (.cells #[.bool b] 4 (0,0))
theorem BoxB.cell {p:Nat} {b:Bool} {w:World} (h:BoxB p b w):w.cell? ⟨p,0,none⟩=some (.bool b)/\w.frozen? ⟨p,0,none⟩=false:=by
 unfold BoxB at h;refine ⟨by rw [cell_of_row _ _ _ _ _ _ h]; rfl,by simp [World.frozen?,h]⟩
theorem BoxB.set {p:Nat} {b:Bool} {w:World} (h:BoxB p b w) (c:Bool):BoxB p c (w.setCell ⟨p,0,none⟩ (.bool c)):=by
 unfold BoxB at h ⊢; simp [World.setCell,Array.getElem?_modify,h]
theorem BoxB.kept {p:Nat} {b:Bool} (w w':World) (h:BoxB p b w) (e:w'.heap[p]?=w.heap[p]?):BoxB p b w':=by
 unfold BoxB at *; rw [e]; exact h
theorem zT0 {r:Nat} (h:r<128):(r.toUInt8).toNat=r:=by
 rw [Nat.toUInt8_eq,UInt8.toNat_ofNat']; omega
theorem u8_is {r n:Nat} (h:r<128) (hn:n<128):(r.toUInt8=n.toUInt8) ↔ r=n:=by
 constructor
 ·intro e
  have:=congrArg UInt8.toNat e;rw [zT0 h,zT0 hn] at this;exact this
 ·rintro rfl; rfl
def sepHi (st:Bool):Option Bool:=if st=true then some true else none
def sepR (st:Bool) (r:Nat):Option Bool:=if r=35 then some true else if r=10∨r=13 then some false else if r=32∨r=9∨r=44 then some st else sepHi st
theorem sepR_eq (st:Bool) (r:Nat):(if r<128 then sepS st r.toUInt8 else sepHi st)=sepR st r:=by
 unfold sepR;by_cases h:r<128
 ·rw [if_pos h]
  unfold sepS;have e:∀ n:Nat,n<128->(r.toUInt8=n.toUInt8 ↔ r=n):=fun n hn=>u8_is h hn;have e35:(r.toUInt8=35) ↔ r=35:=e 35 (by omega);have e10:(r.toUInt8=10) ↔ r=10:=e 10 (by omega);have e13:(r.toUInt8=13) ↔ r=13:=e 13 (by omega);have e32:(r.toUInt8=32) ↔ r=32:=e 32 (by omega);have e9:(r.toUInt8=9) ↔ r=9:=e 9 (by omega);have e44:(r.toUInt8=44) ↔ r=44:=e 44 (by omega);simp only [e35,e10,e13,e32,e9,e44]
  rfl
 ·rw [if_neg h,if_neg (by omega),if_neg (by omega),if_neg (by omega)]
theorem sep_high (st:Bool) (c:UInt8) (h:128<=c.toNat):sepS st c=sepHi st:=by
 have e:∀ n:UInt8,n.toNat<128->c≠n:=fun n hn e=>by subst e; omega
 unfold sepS;rw [if_neg (e 35 (by decide)),if_neg (by intro h; exact h.elim (e 10 (by decide)) (e 13 (by decide))),if_neg (by intro h; exact h.elim (e 32 (by decide)) (fun h=>h.elim (e 9 (by decide)) (e 44 (by decide))))]
 rfl
theorem zY4 (st st':Bool) (h:sepHi st=some st'):sepHi st'=some st':=by
 cases st <;> cases h; rfl
theorem sep1_any (p:Nat) (st:Bool) (r:Nat) (w:World) (h:BoxB p st w) (hr:r<=2147483647):Calls Tryz.prog 103 (#[.int .i32 r]++#[pp p]) w (zW9 (if r<128 then sepS st r.toUInt8 else sepHi st) (BoxB p) p w):=by
 rw [sepR_eq];obtain ⟨q0,f0⟩:=h.cell;have HB:=Lh h;have HT:=Lh (h.set true);have HF:=Lh (h.set false);have B0:=Bes.refl p w.heap.size w;have BT:=Lh (B0.set 0 (.bool true));have BF:=Lh (B0.set 0 (.bool false));clear h B0;show Calls _ _ #[.int .i32 r,pp p] w _;unfold sepR;by_cases h35:r=35
 ·subst h35
  go_enter Tryz.func103, Tryz.ntmps103
  go_wp2_with fail
  go_ret
  exact ⟨rfl,fun st' e=>by cases e; exact HT.out,BT.out⟩
 rw [if_neg h35];have n35:¬ ((r:Int)=35):=by omega
 by_cases h10:r=10
 ·subst h10
  go_enter Tryz.func103, Tryz.ntmps103
  go_wp2_with fail
  go_ret
  exact ⟨rfl,fun st' e=>by cases e; exact HF.out,BF.out⟩
 by_cases h13:r=13
 ·subst h13
  go_enter Tryz.func103, Tryz.ntmps103
  go_wp2_with fail
  go_ret
  exact ⟨rfl,fun st' e=>by cases e; exact HF.out,BF.out⟩
 rw [if_neg (by omega)];have n10:¬ ((r:Int)=10):=by omega
 have n13:¬ ((r:Int)=13):=by omega
 by_cases h32:r=32
 ·subst h32
  go_enter Tryz.func103, Tryz.ntmps103
  go_wp2_with fail
  go_ret
  exact ⟨rfl,fun st' e=>by cases e; exact HB.out,Bes.refl _ _ _⟩
 by_cases h9:r=9
 ·subst h9
  go_enter Tryz.func103, Tryz.ntmps103
  go_wp2_with fail
  go_ret
  exact ⟨rfl,fun st' e=>by cases e; exact HB.out,Bes.refl _ _ _⟩
 by_cases h44:r=44
 ·subst h44
  go_enter Tryz.func103, Tryz.ntmps103
  go_wp2_with fail
  go_ret
  exact ⟨rfl,fun st' e=>by cases e; exact HB.out,Bes.refl _ _ _⟩
 rw [if_neg (by omega)];have n32:¬ ((r:Int)=32):=by omega
 have n9:¬ ((r:Int)=9):=by omega
 have n44:¬ ((r:Int)=44):=by omega
 clear h35 h10 h13 h32 h9 h44
 go_enter Tryz.func103, Tryz.ntmps103
 go_wp2_with fail
 go_ret
 cases st with
 | true=>exact ⟨rfl,fun st' e=>by cases e; exact HB.out,Bes.refl _ _ _⟩
 | false=>exact ⟨rfl,fun st' e=>by (cases e),Bes.refl _ _ _⟩
def ltHi (_:Bool):Option Bool:=some false
def ltR (st:Bool) (r:Nat):Option Bool:=if r=34/\st=false then none else some (decide (r=92)&&!st)
theorem ltR_eq (st:Bool) (r:Nat):(if r<128 then ltS st r.toUInt8 else ltHi st)=ltR st r:=by
 unfold ltR;by_cases h:r<128
 ·rw [if_pos h]
  unfold ltS;have e:∀ n:Nat,n<128->(r.toUInt8=n.toUInt8 ↔ r=n):=fun n hn=>u8_is h hn;have e34:(r.toUInt8=34) ↔ r=34:=e 34 (by omega);have e92:(r.toUInt8=92) ↔ r=92:=e 92 (by omega);simp only [e34,e92]
 ·rw [if_neg h,if_neg (by omega),decide_eq_false (by omega)]; rfl
theorem lt_high (st:Bool) (c:UInt8) (h:128<=c.toNat):ltS st c=ltHi st:=by
 have e:∀ n:UInt8,n.toNat<128->c≠n:=fun n hn e=>by subst e; omega
 unfold ltS;rw [if_neg (fun h=>e 34 (by decide) h.1),decide_eq_false (e 92 (by decide))]; rfl
theorem yk7 (st st':Bool) (h:ltHi st=some st'):ltHi st'=some st':=by
 cases h; rfl
theorem lit1_any (p:Nat) (st:Bool) (r:Nat) (w:World) (h:BoxB p st w) (hr:r<=2147483647):Calls Tryz.prog 158 (#[.int .i32 r]++#[pp p]) w (zW9 (if r<128 then ltS st r.toUInt8 else ltHi st) (BoxB p) p w):=by
 rw [ltR_eq];obtain ⟨q0,f0⟩:=h.cell;have HT:=Lh (h.set true);have HF:=Lh (h.set false);have B0:=Bes.refl p w.heap.size w;have BT:=Lh (B0.set 0 (.bool true));have BF:=Lh (B0.set 0 (.bool false));clear h B0;show Calls _ _ #[.int .i32 r,pp p] w _;unfold ltR;by_cases h34:r=34
 ·subst h34
  cases st with
  | true =>
    go_enter Tryz.func158, Tryz.ntmps158
    go_wp2_with fail
    go_ret
    exact ⟨rfl,fun st' e=>by cases e; exact HF.out,BF.out⟩
  | false =>
    go_enter Tryz.func158, Tryz.ntmps158
    go_wp2_with fail
    go_ret
    exact ⟨rfl,fun st' e=>by (cases e),BF.out⟩
 rw [if_neg (fun h=>h34 h.1)];have n34:¬ ((r:Int)=34):=by omega
 by_cases h92:r=92
 ·subst h92
  cases st with
  | true =>
    go_enter Tryz.func158, Tryz.ntmps158
    go_wp2_with fail
    go_ret
    exact ⟨rfl,fun st' e=>by cases e; exact HF.out,BF.out⟩
  | false =>
    go_enter Tryz.func158, Tryz.ntmps158
    go_wp2_with fail
    go_ret
    exact ⟨rfl,fun st' e=>by cases e; exact HT.out,BT.out⟩
 rw [decide_eq_false h92];have n92:¬ ((r:Int)=92):=by omega
 clear h34 h92
 go_enter Tryz.func158, Tryz.ntmps158
 go_wp2_with fail
 go_ret
 exact ⟨rfl,fun st' e=>by cases e; exact HF.out,BF.out⟩
theorem zr5 (s:ByteArray) (hs:s.size<=maxLen) (w:World):Calls Tryz.prog 50 #[.string s] w fun e w'=>e=.returned (.int .i64 (sepN s.data.toList))/\Below w.heap.size w w':=by
 have HX:Hid (BoxB w.heap.size false (w.alloc (.cells #[.bool false] 4 (0,0)))):=Lh (heap_alloc_new w _);have CALL:=Lh (zG3 (Inv:=BoxB w.heap.size) (p:=w.heap.size) 103 (.inl rfl) #[pp w.heap.size] sep_high zY4 (fun st r w' h hr _=>sep1_any _ st r w' h hr) (fun st a b h e=>h.kept a b e) s hs false _ HX.out (by simp));have HB:Hid (Below w.heap.size w (w.alloc (.cells #[.bool false] 4 (0,0)))):=Lh ((Below.refl _ _).alloc (Nat.le_refl _) _)
 go_enter Tryz.func50, Tryz.ntmps50
 go_wp2_with fail
 refine CALL.out.mono ?_
 rintro e w1 ⟨rfl,hb⟩;have HB1:=Lh (HB.out.trans (hb.below (Nat.le_refl _) (by simp)));clear hb;go_wp2_with fail;go_ret
 exact ⟨rfl,HB1.out⟩
structure Past (W:World) where
 w:World
 b:Below W.heap.size W w
instance {W:World}:Nonempty (Past W):=⟨⟨W,Below.refl _ _⟩⟩
theorem Past.le {W:World} (x:Past W):W.heap.size<=x.w.heap.size:=x.b.size
theorem zh5 {P:Program} {W:World} {f:FuncId} {args:Array Value} {v:Value} (x:Past W) (h:Calls P f args x.w fun e w'=>e=.returned v/\Below x.w.heap.size x.w w') :
  Calls P f args x.w fun e w''=>e=.returned v/\∃ y:Past W,w''=y.w :=
 h.mono fun _ _ ⟨he,hb⟩=>⟨he,⟨_,x.b.trans (hb.mono x.le)⟩,rfl⟩
theorem za7 {id:Nat} {Q:Exit->Act->World->Prop} {a:Act} {w:World} {l:List Oper} (F:World->Prop) (hF:F w) (hB:Region.lexB .any l.toArray=true)
  (h:∀ W,F W->Below w.heap.size w W->wpQuiet Tryz.prog l.toArray (fun w'=>∃ x:Past W,w'=x.w) (fun a'=>∀ w',(∃ x:Past W,w'=x.w)->Q .normal a' w') l a):(Code.region id l.toArray true).wp Tryz.prog Q a w :=
 wp_region_quiet (C:=fun w'=>∃ x:Past w,w'=x.w) (by kernel_rfl) hB ⟨⟨_,(Below.refl _ _).drew⟩,rfl⟩ (by simpa using h w hF (Below.refl _ _))
structure AscSet (s:ByteArray):Prop where
 asc:∀ b∈s.data.toList,b.toNat<128
 lo:4<=s.size
 hi:s.size<=1000
theorem T1.u8_back (c:UInt8):((c.toNat:Int)).toNat.toUInt8=c:=by
 rw [Int.toNat_natCast]; exact UInt8.ofNat_toNat
theorem idx_none (l:List UInt8) (c:UInt8) (h:∀ b∈l,b≠c):Lib.indexByte l c=-1:=by
 induction l with
 | nil=>rfl
 | cons b l ih =>
   unfold Lib.indexByte;have h1:(b==c)=false:=by simpa using h b List.mem_cons_self
   simp only [h1,Bool.false_eq_true,if_false]
   rw [ih (fun x hx=>h x (List.mem_cons_of_mem _ hx))]
   rfl
theorem idx_mem (l:List UInt8) (c:UInt8):0<=Lib.indexByte l c ↔ c∈l:=by
 induction l with
 | nil=>simp [Lib.indexByte]
 | cons b l ih =>
   unfold Lib.indexByte;by_cases h:b=c
   ·subst h; simp
   ·have h1:(b==c)=false:=by simpa using h
    have h2:c≠b:=fun e=>h e.symm;have:=Lib.indexByte_ge l c;simp only [h1,Bool.false_eq_true,if_false,List.mem_cons,h2,false_or];by_cases h3:Lib.indexByte l c=-1
    ·have h4:¬ c∈l:=by rw [<- ih]; omega
     simp [h3,h4]
    ·have h4:c∈l:=by rw [<- ih]; omega
     have h5:(Lib.indexByte l c==-1)=false:=by simpa using h3
     simp only [h5,Bool.false_eq_true,if_false,h4,iff_true]
     omega
theorem zR2 (s:ByteArray) (hs:AscSet s) (w:World) :
  Calls Tryz.prog 154 #[.string s,.int .i32 65533] w fun e w'=>e=.returned (.int .i64 (-1))/\Below w.heap.size w w':=by
 have HS:=Lh hs;have hhi:=hs.hi;clear hs
 go_enter Tryz.func154, Tryz.ntmps154
 go_wp2_with fail
 go_loopw [] (fun wr=>∃ (pos:Nat),wr.heap[w.heap.size]?=some (.stringIter s pos)/\Below w.heap.size w wr)
  (fun wr=>s.size-wr.iterPos w.heap.size)
 case atStart=>exact ⟨0,World.iter_heap w s 0,(Below.refl _ _).alloc (Nat.le_refl _) _⟩
 case round =>
  obtain ⟨pos,hit,hb⟩:=hrel;have HB:=Lh hb;clear hb;by_cases hp:pos<s.size
  ·have ha:(s[pos]).toNat<128:=HS.out.asc _ (Array.getElem_mem_toList (xs:=s.data) hp)
   have hnx:∀ ty,(Instr.next (.pointer (some ⟨w.heap.size,0,none⟩)) true ty).run Tryz.prog wr=_:=fun ty=>Lib.run_next_ascii_at wr w.heap.size s pos ty hit hp ha;have hne:¬ (((s[pos]).toNat:Int)=65533):=by omega
   have HIT:=Lh (Lib.iterAt_heap wr w.heap.size s pos (pos+1) hit);have HB2:=Lh (Lib.below_iterAt HB.out (k:=w.heap.size) (Nat.le_refl _) s (pos+1));have HI0:=Lh hit;clear hit;go_wp2_with fail
   go_roundw
   case rel=>exact ⟨pos+1,HIT.out,HB2.out⟩
   case measure =>
    simp only [World.iterPos,HIT.out,HI0.out]
    omega
  ·have hnx:∀ ty,(Instr.next (.pointer (some ⟨w.heap.size,0,none⟩)) true ty).run Tryz.prog wr=_:=fun ty=>Lib.run_next_end_at wr w.heap.size s pos ty hit hp
   go_wp2_with fail
   go_ret
   exact ⟨rfl,HB.out⟩
theorem yb0 (s:ByteArray) (hs:AscSet s) (r:Nat) (h:128<=r) (hv:Utf8.valid r=true) (hr:r≠65533) (w:World) :
  Calls Tryz.prog 154 #[.string s,.int .i32 r] w fun e w'=>e=.returned (.int .i64 (-1))/\Below w.heap.size w w':=by
 have HS:=Lh hs;have HE:=Lh (encode_facts (r:Int) hv (by omega));have HVR:Hid (Lib.validRune (r:Int)=true):=Lh (by rw [validRune_eq] at hv; exact hv);have x1:decide ((r:Int)<128)=false:=decide_eq_false (by omega);have x2:((r:Int)==65533)=false:=by simpa using (by omega:¬ (r:Int)=65533)
 have x0:decide ((0:Int)<=r)=true:=decide_eq_true (by omega);have CALL:=Lh (Tryz.utf8_ValidRune (r:Int) w);clear hs hv h hr;generalize hri:(r:Int)=ri at *
 go_enter Tryz.func154, Tryz.ntmps154
 go_wp2_with fail
 refine CALL.out.mono ?_
 rintro e w1 ⟨rfl,rfl⟩;rw [HVR.out];have u21:(Tryz.prog.underlying 21).isSome=true:=by kernel_rfl
 obtain ⟨rs,hrs⟩ : ∃ rs,Utf8.encode ri=rs:=⟨_,rfl⟩;rw [hrs] at HE;obtain ⟨m,hm⟩ : ∃ m,rs.size=m:=⟨_,rfl⟩;have hm2:2<=m/\m<=4:=by rw [<- hm]; exact ⟨HE.out.1,HE.out.2.1⟩
 have hlo:=HS.out.lo;have hms:m-1<s.size:=by omega
 have hmr:m-1<rs.size:=by omega
 have hx128:Hid (128<=(rs[m-1]).toNat):=Lh (by
  have:=HE.out.2.2 (by omega);simpa [hm] using this)
 have hy128:Hid ((s[m-1]).toNat<128):=Lh (HS.out.asc _ (Array.getElem_mem_toList (xs:=s.data) hms));have hne:(((s[m-1]).toNat:Int)==((rs[m-1]).toNat:Int))=false:=by
  have:=hx128.out;have:=hy128.out;exact beq_false_of_ne (by omega)
 go_wp2_with fail
 go_step3
 go_wp2_with fail
 go_loopw [9] (fun v wr=>v=.int .i64 ((m:Int)-1)/\wr=w1) (fun _ _=>0)
 case atStart=>exact ⟨rfl,rfl⟩
 case round =>
  obtain ⟨rfl,rfl⟩:=hrel;have h1:((m:Int)-1)<s.size:=by omega
  have h2:(0:Int)<=(m:Int)-1:=by omega
  have h3:((m:Int)-1).toNat=m-1:=by omega
  have h4:(1:Int)<=m:=by omega
  have h5:((m:Int)-1)<(m:Int):=by omega
  have h6:((m:Int)-1)<(rs.size:Int):=by omega
  go_wp2_with fail
  go_step3
  go_wp2_with fail
  go_region
  all_goals
   go_wp2_with fail
   refine za7 (fun _=>True) trivial (by kernel_rfl) ?_
   intro W _ hbw;have C1:Hid (∀ x0:Past W,Calls Tryz.prog 192 #[.string (s.extract m s.size),.int .u8 (rs[m-1]).toNat] x0.w fun e w''=>e=.returned (.int .i64 (-1))/\∃ y:Past W,w''=y.w) :=
    Lh fun x0=>zh5 x0 ((Tryz.strings_IndexByte (s.extract m s.size) _ x0.w).mono (fun e w' h=>⟨by
     rw [h.1,T1.u8_back,idx_none _ _ (fun b hb hbc=>by
      have h1:=HS.out.asc b (mem_extract hb);have h2:=hx128.out;rw [hbc] at h1; omega)],by rw [h.2]; exact Below.refl _ _⟩))
   repeat (go_big_quiet_step (first | with_reducible exact C1.out _))
   refine wpQuiet_nil ?_
   intro _ hw';obtain ⟨x0,rfl⟩:=hw';have HBX:=Lh (((Below.refl _ _).drew.trans (hbw.mono (by simp))).trans (x0.b.mono hbw.size));generalize x0.w=wx at *;go_wp2_with fail;rw [Exit.noGoto_ret];go_wp2_with fail
   first | (rw [Exit.noGoto_ret]; go_wp2_with fail) | skip
   go_ret
   exact ⟨rfl,HBX.out⟩
theorem zy1 (s:ByteArray) (hs:AscSet s) (r:Nat) (hv:r<128∨Utf8.valid r=true) (w:World) :
  Calls Tryz.prog 106 #[.string s,.int .i32 r] w fun e w'=>e=.returned (.bool (decide (r<128/\r.toUInt8∈s.data.toList)))/\Below w.heap.size w w':=by
 by_cases h:r<128
 ·refine (Tryz.strings_ContainsRune_ascii s r w (by omega) (by omega)).mono ?_
  rintro e w' ⟨rfl,rfl⟩;refine ⟨?_,Below.refl _ _⟩;rw [Int.toNat_natCast]
  congr 2
  apply decide_eq_decide.2
  rw [idx_mem];exact ⟨fun x=>⟨h,x⟩,fun x=>x.2⟩
 ·have hv:=hv.resolve_left h
  have hd:decide (r<128/\r.toUInt8∈s.data.toList)=false:=decide_eq_false (fun x=>h x.1);rw [hd];have hc:Calls Tryz.prog 154 #[.string s,.int .i32 r] w fun e w'=>e=.returned (.int .i64 (-1))/\Below w.heap.size w w':=by
   by_cases h3:r=65533
   ·subst h3; exact zR2 s hs w
   ·exact yb0 s hs r (by omega) hv h3 w
  go_enter Tryz.func106, Tryz.ntmps106
  go_wp2_with fail
  refine hc.mono ?_
  rintro e w1 ⟨rfl,hb⟩;have HB:=Lh hb;clear hb;go_wp2_with fail;go_ret
  exact ⟨rfl,HB.out⟩
def ndL:ByteArray:=⟨#[65,66,67,68,69,70,71,72,73,74,75,76,77,78,79,80,81,82,83,84,85,86,87,88,89,90,97,98,99,100,101,102,103,104,105,106,107,108,109,110,111,112,113,114,115,116,117,118,119,120,121,122,95,48,49,50,51,52,53,54,55,56,57]⟩
theorem ndL_set:AscSet ndL:=⟨by decide +kernel,by decide,by decide⟩
theorem nd_mem:∀ n:Fin 128,decide ((UInt8.ofNat n.val)∈ndL.data.toList)=wdB (UInt8.ofNat n.val):=by decide +kernel
def wdHi (_:Unit):Option Unit:=none
theorem wd_high (u:Unit) (c:UInt8) (h:128<=c.toNat):wdS u c=wdHi u:=by
 have:∀ c:UInt8,128<=c.toNat->wdB c=false:=fun c h=>by
  have h2:T1.nmB (c.toNat:Int)=false:=by
   unfold T1.nmB T1.letB T1.digB;simp;omega
  exact h2
 unfold wdS;rw [this c h]; rfl
theorem wd_rune (r:Nat):(decide (r<128/\r.toUInt8∈ndL.data.toList))=(if r<128 then wdS () r.toUInt8 else wdHi ()).isSome:=by
 by_cases h:r<128
 ·rw [if_pos h]
  have e:=nd_mem ⟨r,h⟩;have e2:decide (r<128/\r.toUInt8∈ndL.data.toList)=decide (r.toUInt8∈ndL.data.toList):=decide_eq_decide.2 ⟨fun x=>x.2,fun x=>⟨h,x⟩⟩;rw [e2];have e:decide (r.toUInt8∈ndL.data.toList)=wdB r.toUInt8:=e;rw [e];unfold wdS;cases wdB r.toUInt8 <;> rfl
 ·rw [if_neg h,decide_eq_false (fun x=>h x.1)]; rfl
theorem yd0 (p:Nat) (u:Unit) (r:Nat) (w:World) (hr:r<128∨Utf8.valid r=true):Calls Tryz.prog 196 (#[.int .i32 r]++#[]) w (zW9 (if r<128 then wdS u r.toUInt8 else wdHi u) (fun _ _=>True) p w):=by
 have CALL0:=zy1 ndL ndL_set r hr w;rw [wd_rune] at CALL0;cases u;generalize (if r<128 then wdS () r.toUInt8 else wdHi ())=o at *;have CALL:=Lh CALL0;clear CALL0;show Calls _ _ #[.int .i32 r] w _
 go_enter Tryz.func196, Tryz.ntmps196
 go_wp2_with fail
 refine CALL.out.mono ?_
 rintro e w1 ⟨rfl,hb⟩;have HB:=Lh hb;clear hb;go_wp2_with fail;go_ret
 exact ⟨rfl,fun _ _=>trivial,Bes.of HB.out⟩
theorem zS7 (s:ByteArray) (hs:s.size<=maxLen) (w:World):Calls Tryz.prog 156 #[.string s] w fun e w'=>e=.returned (.int .i64 (wdN s.data.toList))/\Below w.heap.size w w':=by
 have CALL:=Lh (zG3 (Inv:=fun (_:Unit) (_:World)=>True) (p:=w.heap.size+1) 196 (.inr (.inl rfl)) #[] wd_high (fun _ _ h=>by cases h) (fun u r w' _ _ hr=>yd0 _ u r w' hr) (fun _ _ _ _ _=>trivial) s hs () w trivial (by omega))
 go_enter Tryz.func156, Tryz.ntmps156
 go_wp2_with fail
 refine CALL.out.mono ?_
 rintro e w1 ⟨rfl,hb⟩;have HB:=Lh (hb.below (Nat.le_succ _) (Nat.le_refl _));clear hb;go_wp2_with fail;go_ret
 exact ⟨rfl,HB.out⟩
end Go.Proofs.YtfgelheiknmjgaaGreatDoor.K
namespace Go.Proofs.YtfgelheiknmjgaaGreatDoor.T1
open Go.RowKit
theorem zO1 {a b:List UInt8}:∀ {k:Nat},(∀ j,j<k->bv a j=bv b j)->cdL a k=cdL b k
 | 0,_=>rfl
 | k+1,h=>by
   unfold cdL;rw [zO1 (k:=k) (fun j hj=>h j (by omega)),h k (by omega)]
theorem ya4 (a b c d:UInt8) (r:List UInt8):numL4 (a::b::c::d::r)=numL4 [a,b,c,d]:=by
 have e:∀ k,k<4->bv (a::b::c::d::r) k=bv [a,b,c,d] k:=by
  intro k hk;have:k=0∨k=1∨k=2∨k=3:=by omega
  rcases this with rfl | rfl | rfl | rfl <;> rfl
 unfold numL4 okB;rw [e 0 (by omega),e 1 (by omega),e 2 (by omega),e 3 (by omega),zO1 e];simp
theorem yj9:∀ n:Fin 256,numL4 [48,48,hexC (n.val / 16),hexC (n.val % 16)]=some (UInt8.ofNat n.val):=by decide +kernel
theorem ye2 (c:UInt8) (r:List UInt8):stepL (escL c++r)=some (c,(escL c).length):=by
 unfold escL;by_cases h1:c=34
 ·subst h1; rw [if_pos rfl]; show stepL (92::34::r)=_; rw [zk9]; rfl
 rw [if_neg h1];by_cases h2:c=92
 ·subst h2; rw [if_pos rfl]; show stepL (92::92::r)=_; rw [zk9]; rfl
 rw [if_neg h2];by_cases h3:c=10
 ·subst h3; rw [if_pos rfl]; show stepL (92::110::r)=_; rw [zk9]; rfl
 rw [if_neg h3];by_cases h4:c=13
 ·subst h4; rw [if_pos rfl]; show stepL (92::114::r)=_; rw [zk9]; rfl
 rw [if_neg h4];by_cases h5:c=9
 ·subst h5; rw [if_pos rfl]; show stepL (92::116::r)=_; rw [zk9]; rfl
 rw [if_neg h5];cases hp:prB (c.toNat:Int)
 ·simp only [Bool.false_eq_true,if_false]
  show stepL (92::117::48::48::hexC (c.toNat / 16)::hexC (c.toNat % 16)::r)=_
  rw [zk9,if_pos rfl,ya4,yj9 ⟨c.toNat,c.toNat_lt⟩];simp
 ·simp only [if_true]
  show stepL (c::r)=_
  rw [zm6,if_neg (by simp [h1,hp]),if_pos h2]; rfl
theorem zJ7:∀ l:List UInt8,unqR (l.flatMap escL)=some l
 | []=>rfl
 | c::l=>by
   rw [List.flatMap_cons,zJ6 (ye2 c _),List.drop_left,zJ7 l]; rfl
theorem zG0 (l:List UInt8):zd5 (zj4 l)=some l:=by
 have hlen:(zj4 l).length=(l.flatMap escL).length+2:=by unfold zj4; simp
 have hmid:midL (zj4 l)=l.flatMap escL:=by
  unfold midL; rw [hlen]; unfold zj4; simp
 have h0:(zj4 l).getD 0 0=34:=rfl;have h1:(zj4 l).getD ((zj4 l).length-1) 0=34:=by
  rw [hlen];unfold zj4;rw [List.getD_eq_getElem?_getD,List.getElem?_append_right (by simp)];simp
 unfold zd5;rw [if_pos ⟨by omega,h0,h1⟩,hmid,zJ7]
end Go.Proofs.YtfgelheiknmjgaaGreatDoor.T1

