
/-
 Texts joined: KFact KTok KFirst KLaid WitK Base.
-/
import Derived.Test.YtfgelheiknmjgaaGreatDoorZt4
import Derived.Test.YtfgelheiknmjgaaGreatDoorCards
import Derived.Test.YtfgelheiknmjgaaGreatDoorTie
import Derived.Deep.DeepWitnessRowRef
import Derived.Stop.LaidErr
import Derived.OpenShut
import Derived.Lib.LaidU8
import Derived.PinnedBridge
import Derived.Lay
import Derived.ChangeSame
import Derived.JoinedOf
import Derived.JoinedAt
import Derived.RowKit
import Derived.RowKit2
import Derived.ReadAgain
import Derived.Carry
import Derived.SizedLaws
import Derived.Test.YtfgelheiknmjgaaGreatDoorProg
set_option maxRecDepth 1000000
set_option maxHeartbeats 8000000
namespace Go.Proofs.YtfgelheiknmjgaaGreatDoor.K
open Go.RowKit
section
variable {σ:Type} {step : σ->UInt8->Option σ}
def runL {σ:Type} (step : σ->UInt8->Option σ) : σ->List UInt8->Option σ
 | st,[]=>some st
 | st,c::r=>match step st c with
   | none=>none
   | some s2=>runL step s2 r
theorem zz6:∀ (a:List UInt8) (st st2 : σ) (r:List UInt8),runL step st a=some st2->spanL step st (a++r)=a.length+spanL step st2 r
 | [],st,st2,r,h=>by cases h; simp
 | c::a,st,st2,r,h=>by
   unfold runL at h;rw [List.cons_append,spanL]
   cases hc:step st c with
   | none=>rw [hc] at h; cases h
   | some s3 =>
     rw [hc] at h;show spanL step s3 (a++r)+1=_;rw [zz6 a s3 st2 r h,List.length_cons]; omega
theorem zT7:∀ (a b:List UInt8) (st st2 : σ),runL step st a=some st2->runL step st (a++b)=runL step st2 b
 | [],_,_,_,h=>by cases h; rfl
 | c::a,b,st,st2,h=>by
   rw [runL] at h;rw [List.cons_append,runL]
   cases hc:step st c with
   | none=>rw [hc] at h; cases h
   | some s3=>rw [hc] at h; exact zT7 a b s3 st2 h
end
theorem zs7 {p:UInt8->Prop} (h:∀ n:Fin 256,p (UInt8.ofNat n.val)) (c:UInt8):p c:=by
 have:=h ⟨c.toNat,c.toNat_lt⟩
 rwa [UInt8.ofNat_toNat] at this
def wdH (r:List UInt8):Bool:=wdB (r.getD 0 0)
theorem zS9:wdB 0=false:=by decide
theorem yd1:∀ (a r:List UInt8),wdN (a++r)=a.length ↔ (a.all wdB=true/\wdH r=false)
 | [],r=>by
   cases r with
   | nil=>simp [wdN,spanL,wdH,zS9]
   | cons c r =>
     simp only [List.nil_append,List.length_nil,List.all_nil,true_and]
     unfold wdN spanL wdS wdH
     cases hc:wdB c with
     | true=>simp [hc]
     | false=>simp [hc]
 | c::a,r=>by
   have ih:=yd1 a r;rw [List.cons_append,wdN,spanL,wdS]
   cases hc:wdB c with
   | true =>
     simp only [if_true,List.length_cons,List.all_cons,hc,Bool.true_and]
     rw [<- ih];show wdN (a++r)+1=_ ↔ _;omega
   | false=>simp [hc]
theorem ye8:∀ c:UInt8,(wdB c=true∨c=34∨c=45)->¬ c∈sgL/\c≠46:=zs7 (by decide +kernel)
theorem yk8:∀ c:UInt8,T1.letU (c.toNat:Int)=true->wdB c=true:=zs7 (by decide +kernel)
theorem zV8:∀ c:UInt8,dmB c=true->wdB c=true∨c=45:=zs7 (by decide +kernel)
theorem yh0:∀ c:UInt8,c=34->T1.letU (c.toNat:Int)=false/\dmB c=false:=zs7 (by decide +kernel)
theorem dm_let:∀ c:UInt8,dmB c=true->T1.letU (c.toNat:Int)=false:=zs7 (by decide +kernel)
theorem zw2:∀ c:UInt8,(c∈sgL∨c=46∨wdB c=true∨c=45∨c=34)->sepS false c=none:=zs7 (by decide +kernel)
theorem yp1 {l:List UInt8} (h:l.getD 0 0≠46):l.take 3≠elL:=by
 intro e
 cases l with
 | nil=>cases e
 | cons c r=>injection e with e1 _; exact h e1
theorem zT2 {c:UInt8} {r:List UInt8} (h:c∈sgL):tokR (c::r)=.ok (1,[c],1):=by
 unfold tokR; exact if_pos h
theorem tok_dots (r:List UInt8):tokR (46::46::46::r)=.ok (1,elL,3):=by
 unfold tokR;have h:¬ (46:UInt8)∈sgL:=by decide
 simp [h,elL]
theorem tok_name {l:List UInt8} (h:T1.letU ((l.getD 0 0).toNat:Int)=true):tokR l=if T1.nameL (l.take (wdN l))=true then .ok (2,l.take (wdN l),wdN l) else .error 3:=by
 have h1:=ye8 _ (.inl (yk8 _ h));unfold tokR;simp only;rw [if_neg h1.1,if_neg (yp1 h1.2),if_pos h]
theorem tok_int {l:List UInt8} (h:dmB (l.getD 0 0)=true):tokR l=if (T1.numL (l.take (wdN (l.drop 1)+1))).2=0 then .ok (3,l.take (wdN (l.drop 1)+1),wdN (l.drop 1)+1) else .error (T1.numL (l.take (wdN (l.drop 1)+1))).2:=by
 have h0:=dm_let _ h;have h1:=ye8 _ ((zV8 _ h).elim .inl (fun x=>.inr (.inr x)));unfold tokR;simp only;rw [if_neg h1.1,if_neg (yp1 h1.2),if_neg (by rw [h0]; decide),if_pos h]
theorem tok_text (r:List UInt8):tokR (34::r)=if r.length<ltN r+1 then .error 3 else match T1.zd5 (34::r.take (ltN r+1)) with
   | none=>.error 3
   | some t=>.ok (4,t,ltN r+2):=by
 have h1:=ye8 34 (.inr (.inl rfl));have h2:=yh0 34 rfl;have e0:(34::r).getD 0 0=(34:UInt8):=rfl;unfold tokR;simp only [e0,List.drop_one,List.tail_cons,List.length_cons];rw [if_neg h1.1,if_neg (yp1 (by rw [e0]; exact h1.2)),if_neg (by rw [h2.1]; decide),if_neg (by rw [h2.2]; decide),if_pos trivial];by_cases hlt:r.length<ltN r+1
 ·rw [if_pos hlt,if_pos (by omega)]
 ·rw [if_neg hlt,if_neg (by omega)]; rfl
inductive TokIs:List UInt8->Int->List UInt8->Nat->Prop
 | sign {c:UInt8} {r:List UInt8} (h:c∈sgL):TokIs (c::r) 1 [c] 1
 | dots (r:List UInt8):TokIs (46::46::46::r) 1 elL 3
 | name {l:List UInt8} (h:T1.letU ((l.getD 0 0).toNat:Int)=true) (hn:T1.nameL (l.take (wdN l))=true):TokIs l 2 (l.take (wdN l)) (wdN l)
 | int {l:List UInt8} (h:dmB (l.getD 0 0)=true) (hn:(T1.numL (l.take (wdN (l.drop 1)+1))).2=0):TokIs l 3 (l.take (wdN (l.drop 1)+1)) (wdN (l.drop 1)+1)
 | text {r t:List UInt8} (hl:ltN r+1<=r.length) (hu:T1.zd5 (34::r.take (ltN r+1))=some t):TokIs (34::r) 4 t (ltN r+2)
theorem TokIs.eq {l:List UInt8} {k:Int} {t:List UInt8} {n:Nat} (h:TokIs l k t n):tokR l=.ok (k,t,n):=by
 cases h with
 | sign h=>exact zT2 h
 | dots r=>exact tok_dots r
 | name h hn=>rw [tok_name h,if_pos hn]
 | int h hn=>rw [tok_int h,if_pos hn]
 | text hl hu=>rw [tok_text,if_neg (by omega),hu]
end Go.Proofs.YtfgelheiknmjgaaGreatDoor.K
namespace Go.Proofs.YtfgelheiknmjgaaGreatDoor.K
open Go.RowKit
structure LK (w:World):Prop where
 num:T1.Laid w
 utf:Lib.Utf8Tabs 0 1 w
theorem LK.below {w w':World} (h:LK w) (hb:Below w.heap.size w w'):LK w':=⟨h.num.below hb,Utf8Tabs_below h.utf hb⟩
def TB (W:World) (b:Nat) (c0 c1 c2:Value):Prop:=W.heap[b]?=some (.cells #[c0,c1,c2] 99 (0,0))
theorem TB.cells {W:World} {b:Nat} {c0 c1 c2:Value} (h:TB W b c0 c1 c2):W.cell? ⟨b,0,none⟩=some c0/\W.cell? ⟨b,1,none⟩=some c1/\W.cell? ⟨b,2,none⟩=some c2:=by
 refine ⟨?_, ?_, ?_⟩ <;> rw [cell_of_row _ _ _ _ _ _ h] <;> rfl
theorem TB.frz {W:World} {b:Nat} {c0 c1 c2:Value} (h:TB W b c0 c1 c2) (i:Nat):W.frozen? ⟨b,i,none⟩=false:=by
 unfold TB at h; simp [World.frozen?,h]
theorem TB.three {W:World} {b:Nat} {c0 c1 c2:Value} (h:TB W b c0 c1 c2) (u0 u1 u2:Value):TB (((W.setCell ⟨b,0,none⟩ u0).setCell ⟨b,1,none⟩ u1).setCell ⟨b,2,none⟩ u2) b u0 u1 u2:=by
 unfold TB at h ⊢; simp [World.setCell,Array.getElem?_modify,h]
theorem TB.kept {W W':World} {b:Nat} {c0 c1 c2:Value} (h:TB W b c0 c1 c2) (hb:W'.heap[b]?=W.heap[b]?):TB W' b c0 c1 c2:=hb.trans h
theorem TB.lt {W:World} {b:Nat} {c0 c1 c2:Value} (h:TB W b c0 c1 c2):b<W.heap.size:=by
 unfold TB at h;rcases Nat.lt_or_ge b W.heap.size with h' | h'
 ·exact h'
 ·rw [Array.getElem?_eq_none h'] at h; cases h
theorem TB.stay {W W':World} {b:Nat} {c0 c1 c2:Value} (h:TB W b c0 c1 c2) (hb:Below W.heap.size W W'):TB W' b c0 c1 c2:=h.kept (hb.block b h.lt)
theorem Below.three {N b:Nat} {w w':World} (h:Below N w w') (hb:N<=b) (u0 u1 u2:Value):Below N w (((w'.setCell ⟨b,0,none⟩ u0).setCell ⟨b,1,none⟩ u1).setCell ⟨b,2,none⟩ u2) :=
 ((h.setCell (p:=⟨b,0,none⟩) hb u0).setCell (p:=⟨b,1,none⟩) hb u1).setCell (p:=⟨b,2,none⟩) hb u2
abbrev tkV (k:Int) (t:ByteArray) (a:Int):Value:=.agg #[.int .i64 k,.string t,.int .i64 a]
def TokAns (o:Except Int (Int × List UInt8 × Nat)) (e:Ending):Prop :=
 match o with
 | .ok (k,t,n)=>e=.returned (.tuple #[tkV k ⟨t.toArray⟩ 0,.int .i64 n,.int .i64 0])
 | .error c=>c≠0/\∃ (k:Int) (t:ByteArray) (n:Int),e=.returned (.tuple #[tkV k t 0,.int .i64 n,.int .i64 c])
def zI9 (o:Except Int (Int × List UInt8 × Nat)) (w:World) (e:Ending) (w':World):Prop:=TokAns o e/\Below w.heap.size w w'
def nameR (l:List UInt8):Except Int (Int × List UInt8 × Nat):=if T1.nameL (l.take (wdN l))=true then .ok (2,l.take (wdN l),wdN l) else .error 3
def intR (l:List UInt8):Except Int (Int × List UInt8 × Nat):=if (T1.numL (l.take (wdN (l.drop 1)+1))).2=0 then .ok (3,l.take (wdN (l.drop 1)+1),wdN (l.drop 1)+1) else .error (T1.numL (l.take (wdN (l.drop 1)+1))).2
def textR (l:List UInt8):Except Int (Int × List UInt8 × Nat):=if l.length<ltN (l.drop 1)+2 then .error 3 else match T1.zd5 (l.take (ltN (l.drop 1)+2)) with
 | none=>.error 3
 | some t=>.ok (4,t,ltN (l.drop 1)+2)
theorem zV5 (s:ByteArray) (n:Nat):(s.extract 0 n).data.toList=s.data.toList.take n:=by
 rw [ByteArray.data_extract,Array.toList_extract]; simp
theorem zR5 (s:ByteArray) (n:Nat):s.extract 0 n=⟨(s.data.toList.take n).toArray⟩:=by
 rw [<- zV5]
theorem zX8 (s:ByteArray) (hs:s.size<=maxLen) (w:World) :
  Calls Tryz.prog 108 #[.string s] w (zI9 (nameR s.data.toList) w):=by
 have HX:Hid (TB (w.alloc (.cells #[.int .i64 0,.string ⟨#[]⟩,.int .i64 0] 99 (0,0))) w.heap.size (.int .i64 0) (.string ⟨#[]⟩) (.int .i64 0)):=Lh (heap_alloc_new w _);have HB:Hid (Below w.heap.size w (w.alloc (.cells #[.int .i64 0,.string ⟨#[]⟩,.int .i64 0] 99 (0,0)))):=Lh ((Below.refl _ _).alloc (Nat.le_refl _) _);have hn:=zS8 s.data.toList;have hsz:=T1.size_eq s;have hml:maxLen<=9223372036854775807:=by decide
 go_enter Tryz.func108, Tryz.ntmps108
 go_wp2_with fail
 refine (zS7 s hs _).mono ?_
 rintro e w1 ⟨rfl,hb⟩;have HB1:=Lh (HB.out.trans (hb.mono (by simp)));have HX1:=Lh (HX.out.stay hb);clear hb;have HE:=Lh (zV5 s (wdN s.data.toList));have HR:Hid (nameR s.data.toList=if T1.nameL (s.data.toList.take (wdN s.data.toList))=true then .ok (2,s.data.toList.take (wdN s.data.toList),wdN s.data.toList) else .error 3):=Lh rfl;generalize nameR s.data.toList=R at *;generalize hwn:wdN s.data.toList=n at *;have hn2:(n:Int)<=s.size:=by omega
 have hes:(s.extract 0 n).size<=maxLen:=by
  have h1:=T1.size_eq (s.extract 0 n);have h2:=congrArg List.length HE.out;rw [List.length_take] at h2;omega
 have CALL:=Lh (T1.name_any (s.extract 0 n) w1 hes);clear hes;go_wp2_with fail;refine CALL.out.mono ?_
 rintro e w2 ⟨rfl,rfl⟩;rw [HE.out];obtain ⟨x0,x1,x2⟩:=HX1.out.cells;have g0:=HX1.out.frz 0;have g1:=HX1.out.frz 1;have g2:=HX1.out.frz 2
 cases hc:T1.nameL (s.data.toList.take n) with
 | true =>
   have E1:Hid (R=.ok (2,s.data.toList.take n,n)):=Lh (by rw [HR.out,hc]; rfl);have ZZ:=Lh (HX1.out.three (.int .i64 2) (.string (s.extract 0 n)) (.int .i64 0)).cells;go_wp2_with fail;obtain ⟨z0,z1,z2⟩:=ZZ.out;refine bodyPost_ret (v:=.tuple #[tkV 2 (s.extract 0 n) 0,.int .i64 n,.int .i64 0]) (by simp [results,Tryz.results108,go_sem,z0,z1,z2]) rfl ⟨?_,Below.three HB1.out (Nat.le_refl _) _ _ _⟩;rw [E1.out,zR5]; rfl
 | false =>
   have E1:Hid (R=.error 3):=Lh (by rw [HR.out,hc]; rfl);have ZZ:=Lh (HX1.out.three (.int .i64 0) (.string ⟨#[]⟩) (.int .i64 0)).cells;go_wp2_with fail;obtain ⟨z0,z1,z2⟩:=ZZ.out;refine bodyPost_ret (v:=.tuple #[tkV 0 ⟨#[]⟩ 0,.int .i64 0,.int .i64 3]) (by simp [results,Tryz.results108,go_sem,z0,z1,z2]) rfl ⟨?_,Below.three HB1.out (Nat.le_refl _) _ _ _⟩;rw [E1.out];exact ⟨by decide,_,_,_,rfl⟩
theorem zz2 (s:ByteArray) (k:Nat):(s.extract k s.size).data.toList=s.data.toList.drop k:=T1.zS0 s k
theorem ye0 (s:ByteArray) (h0:0<s.size) (hs:s.size<=281474976710656) (w:World) (hL:T1.Laid w) :
  Calls Tryz.prog 109 #[.string s] w (zI9 (intR s.data.toList) w):=by
 have HX:Hid (TB (w.alloc (.cells #[.int .i64 0,.string ⟨#[]⟩,.int .i64 0] 99 (0,0))) w.heap.size (.int .i64 0) (.string ⟨#[]⟩) (.int .i64 0)):=Lh (heap_alloc_new w _);have HB:Hid (Below w.heap.size w (w.alloc (.cells #[.int .i64 0,.string ⟨#[]⟩,.int .i64 0] 99 (0,0)))):=Lh ((Below.refl _ _).alloc (Nat.le_refl _) _);have hn:=zS8 (s.data.toList.drop 1);have hsz:=T1.size_eq s;rw [List.length_drop] at hn;have HD:=Lh (zz2 s 1);have HL:=Lh hL;have HWS:Hid ((s.extract 1 s.size).size<=maxLen):=Lh (by
  have h1:=T1.size_eq (s.extract 1 s.size);rw [HD.out,List.length_drop] at h1;unfold maxLen; omega)
 have CALL1:=Lh (zS7 (s.extract 1 s.size) HWS.out (w.alloc (.cells #[.int .i64 0,.string ⟨#[]⟩,.int .i64 0] 99 (0,0))));have h1s:(1:Int)<=s.size:=by omega
 clear hL
 go_enter Tryz.func109, Tryz.ntmps109
 go_wp2_with fail
 refine CALL1.out.mono ?_
 rintro e w1 ⟨rfl,hb⟩;rw [HD.out];have HB1:=Lh (HB.out.trans (hb.mono (by simp)));have HX1:=Lh (HX.out.stay hb);clear hb CALL1;have HE:=Lh (zV5 s (wdN (s.data.toList.drop 1)+1));have HR:Hid (intR s.data.toList=if (T1.numL (s.data.toList.take (wdN (s.data.toList.drop 1)+1))).2=0 then .ok (3,s.data.toList.take (wdN (s.data.toList.drop 1)+1),wdN (s.data.toList.drop 1)+1) else .error (T1.numL (s.data.toList.take (wdN (s.data.toList.drop 1)+1))).2):=Lh rfl;generalize intR s.data.toList=R at *;generalize hwn:wdN (s.data.toList.drop 1)=m at *;have hn2:(m:Int)+1<=s.size:=by omega
 have hn3:(1:Int)+m<=s.size:=by omega
 have hn4:(0:Int)<=1+(m:Int):=by omega
 have hn5:((1:Int)+m).toNat=m+1:=by omega
 have hes:(s.extract 0 (m+1)).size<=281474976710656:=by
  have h1:=T1.size_eq (s.extract 0 (m+1));have h2:=congrArg List.length HE.out;rw [List.length_take] at h2;omega
 have CALL:=Lh (T1.zE5 (s.extract 0 (m+1)) w1 (HL.out.below HB1.out) hes);clear hes;go_wp2_with fail;refine CALL.out.mono ?_
 rintro e w2 ⟨rfl,hb⟩;rw [HE.out];have HB2:=Lh (HB1.out.trans (hb.mono HB1.out.size));have HX2:=Lh (HX1.out.stay hb);obtain ⟨x0,x1,x2⟩:=HX2.out.cells;have g0:=HX2.out.frz 0;have g1:=HX2.out.frz 1;have g2:=HX2.out.frz 2;clear hb CALL;generalize T1.numL (s.data.toList.take (m+1))=p at *;obtain ⟨v,c⟩:=p;have ZZ:=Lh (HX2.out.three (.int .i64 3) (.string (s.extract 0 (m+1))) (.int .i64 0)).cells;unfold T1.num2;go_wp2_with fail;obtain ⟨z0,z1,z2⟩:=ZZ.out;have e1:(1+(m:Int))=((m+1:Nat):Int):=by omega
 refine bodyPost_ret (v:=.tuple #[tkV 3 (s.extract 0 (m+1)) 0,.int .i64 (1+(m:Int)),.int .i64 c]) (by simp [results,Tryz.results109,go_sem,z0,z1,z2]) rfl ⟨?_,Below.three HB2.out (Nat.le_refl _) _ _ _⟩
 by_cases hc:c=0
 ·subst hc
  rw [HR.out,zR5,e1]; rfl
 ·rw [HR.out,if_neg hc]
  exact ⟨hc,_,_,_,rfl⟩
theorem zX7 (s:ByteArray) (h0:0<s.size) (hs:s.size<=137438953472) (w:World) :
  Calls Tryz.prog 110 #[.string s] w (zI9 (textR s.data.toList) w):=by
 have HX0:TB (w.alloc (.cells #[.int .i64 0,.string ⟨#[]⟩,.int .i64 0] 99 (0,0))) w.heap.size (.int .i64 0) (.string ⟨#[]⟩) (.int .i64 0):=heap_alloc_new w _;have HB0:Below w.heap.size w (w.alloc (.cells #[.int .i64 0,.string ⟨#[]⟩,.int .i64 0] 99 (0,0))):=(Below.refl _ _).alloc (Nat.le_refl _) _;have hsz1:(w.alloc (.cells #[.int .i64 0,.string ⟨#[]⟩,.int .i64 0] 99 (0,0))).heap.size=w.heap.size+1:=by simp
 have HV:Hid (BoxB (w.heap.size+1) false ((w.alloc (.cells #[.int .i64 0,.string ⟨#[]⟩,.int .i64 0] 99 (0,0))).alloc (.cells #[.bool false] 4 (0,0)))):=Lh (hsz1▸heap_alloc_new (w.alloc (.cells #[.int .i64 0,.string ⟨#[]⟩,.int .i64 0] 99 (0,0))) _);have HB1:Below w.heap.size w ((w.alloc (.cells #[.int .i64 0,.string ⟨#[]⟩,.int .i64 0] 99 (0,0))).alloc (.cells #[.bool false] 4 (0,0))):=HB0.alloc (by omega) _;have HX1:TB ((w.alloc (.cells #[.int .i64 0,.string ⟨#[]⟩,.int .i64 0] 99 (0,0))).alloc (.cells #[.bool false] 4 (0,0))) w.heap.size (.int .i64 0) (.string ⟨#[]⟩) (.int .i64 0):=HX0.stay ((Below.refl _ _).alloc (Nat.le_refl _) _);have hsz2:((w.alloc (.cells #[.int .i64 0,.string ⟨#[]⟩,.int .i64 0] 99 (0,0))).alloc (.cells #[.bool false] 4 (0,0))).heap.size=w.heap.size+2:=by simp
 have HB:=Lh HB1;have HX:=Lh HX1;have HZ2:=Lh hsz2;have hn:=ltN_le (s.data.toList.drop 1);have hsz:=T1.size_eq s;rw [List.length_drop] at hn;have HD:=Lh (zz2 s 1);have HWS:Hid ((s.extract 1 s.size).size<=maxLen):=Lh (by
  have h1:=T1.size_eq (s.extract 1 s.size);rw [HD.out,List.length_drop] at h1;unfold maxLen; omega)
 have CALL1:=Lh (zG3 (Inv:=BoxB (w.heap.size+1)) (p:=w.heap.size+1) 158 (.inr (.inr rfl)) #[pp (w.heap.size+1)] lt_high yk7 (fun st r w' h hr _=>lit1_any _ st r w' h hr) (fun st a b h e=>h.kept a b e) (s.extract 1 s.size) HWS.out false _ HV.out (by omega));have h1s:(1:Int)<=s.size:=by omega
 clear HX0 HB0 hsz1 HB1 HX1 hsz2
 go_enter Tryz.func110, Tryz.ntmps110
 go_wp2_with fail
 refine CALL1.out.mono ?_
 rintro e w1 ⟨rfl,hb⟩;rw [HD.out];have HB2:=Lh (HB.out.trans (hb.below (by omega) (by have:=HZ2.out; omega)));have HX2:Hid (TB w1 w.heap.size (.int .i64 0) (.string ⟨#[]⟩) (.int .i64 0)):=Lh (HX.out.kept (hb.block _ (by have:=HZ2.out; omega) (by omega)));clear hb CALL1;have HE:=Lh (zV5 s (ltN (s.data.toList.drop 1)+2));have HR:Hid (textR s.data.toList=if s.data.toList.length<ltN (s.data.toList.drop 1)+2 then .error 3 else match T1.zd5 (s.data.toList.take (ltN (s.data.toList.drop 1)+2)) with
  | none=>.error 3
  | some t=>.ok (4,t,ltN (s.data.toList.drop 1)+2)):=Lh rfl
 generalize textR s.data.toList=R at *;have hln:spanL ltS false (s.data.toList.drop 1)=ltN (s.data.toList.drop 1):=rfl;rw [hln];generalize hwn:ltN (s.data.toList.drop 1)=m at *;obtain ⟨x0,x1,x2⟩:=HX2.out.cells;have g0:=HX2.out.frz 0;have g1:=HX2.out.frz 1;have g2:=HX2.out.frz 2;by_cases hlt:s.size<m+2
 ·have E1:Hid (R=.error 3):=Lh (by rw [HR.out,if_pos (by omega)])
  have hgt:((m:Int)+2 > s.size):=by omega
  have ZZ:=Lh (HX2.out.three (.int .i64 0) (.string ⟨#[]⟩) (.int .i64 0)).cells;clear HR hln;go_wp2_with fail;obtain ⟨z0,z1,z2⟩:=ZZ.out;refine bodyPost_ret (v:=.tuple #[tkV 0 ⟨#[]⟩ 0,.int .i64 0,.int .i64 3]) (by simp [results,Tryz.results110,go_sem,z0,z1,z2]) rfl ⟨?_,Below.three HB2.out (Nat.le_refl _) _ _ _⟩;rw [E1.out];exact ⟨by decide,_,_,_,rfl⟩
 ·have hgt:¬ ((m:Int)+2 > s.size):=by omega
  have hle:((m:Int)+2<=s.size):=by omega
  have E1:Hid (R=match T1.zd5 (s.data.toList.take (m+2)) with | none=>.error 3 | some t=>.ok (4,t,m+2)):=Lh (by rw [HR.out,if_neg (by omega)]);have hes:(s.extract 0 (m+2)).size<=137438953472:=by
   have h1:=T1.size_eq (s.extract 0 (m+2));have h2:=congrArg List.length HE.out;rw [List.length_take] at h2;omega
  have CALL:=Lh (T1.zP3 (s.extract 0 (m+2)) w1 hes);clear hes HR hln hlt x0 x1 x2 g0 g1 g2;go_wp2_with fail;refine CALL.out.mono ?_
  rintro e w2 ⟨rfl,hb⟩;rw [HE.out];have HB3:=Lh (HB2.out.trans (hb.mono HB2.out.size));have HX3:=Lh (HX2.out.stay hb);obtain ⟨x0,x1,x2⟩:=HX3.out.cells;have g0:=HX3.out.frz 0;have g1:=HX3.out.frz 1;have g2:=HX3.out.frz 2;clear hb CALL;have e1:((m:Int)+2)=((m+2:Nat):Int):=by omega
  cases hu:T1.zd5 (s.data.toList.take (m+2)) with
  | none =>
    have E2:Hid (R=.error 3):=Lh (by rw [E1.out,hu]);have ZZ:=Lh (HX3.out.three (.int .i64 4) (.string ⟨#[]⟩) (.int .i64 0)).cells;clear hu e1;unfold T1.uq2;go_wp2_with fail;obtain ⟨z0,z1,z2⟩:=ZZ.out;refine bodyPost_ret (v:=.tuple #[tkV 4 ⟨#[]⟩ 0,.int .i64 (m+2),.int .i64 3]) (by simp [results,Tryz.results110,go_sem,z0,z1,z2]) rfl ⟨?_,Below.three HB3.out (Nat.le_refl _) _ _ _⟩;rw [E2.out];exact ⟨by decide,_,_,_,rfl⟩
  | some t =>
    have E2:Hid (R=.ok (4,t,m+2)):=Lh (by rw [E1.out,hu]);have ZZ:=Lh (HX3.out.three (.int .i64 4) (.string ⟨t.toArray⟩) (.int .i64 0)).cells;have EE:=Lh e1;clear hu e1;unfold T1.uq2;go_wp2_with fail;obtain ⟨z0,z1,z2⟩:=ZZ.out;refine bodyPost_ret (v:=.tuple #[tkV 4 ⟨t.toArray⟩ 0,.int .i64 (m+2),.int .i64 0]) (by simp [results,Tryz.results110,go_sem,z0,z1,z2]) rfl ⟨?_,Below.three HB3.out (Nat.le_refl _) _ _ _⟩;rw [E2.out,EE.out]
    rfl
def RB (p:Nat) (r:Int) (w:World):Prop:=w.heap[p]?=some (.cells #[.int .i32 r] 21 (0,0))
theorem RB.cell {p:Nat} {r:Int} {w:World} (h:RB p r w):w.cell? ⟨p,0,none⟩=some (.int .i32 r)/\w.frozen? ⟨p,0,none⟩=false:=by
 unfold RB at h;exact ⟨by rw [cell_of_row _ _ _ _ _ _ h]; rfl,by simp [World.frozen?,h]⟩
theorem RB.stay {p:Nat} {r:Int} {w w':World} (h:RB p r w) (hb:Below w.heap.size w w'):RB p r w':=by
 unfold RB at *;have:p<w.heap.size:=by
  rcases Nat.lt_or_ge p w.heap.size with h' | h'
  ·exact h'
  ·rw [Array.getElem?_eq_none h'] at h; cases h
 exact (hb.block p this).trans h
theorem zH9 (p:Nat) (r:Nat) (hr:r<128∨Utf8.valid r=true) (set:ByteArray) (hset:AscSet set) (w:World) (h:RB p r w) :
  Calls Tryz.prog 105 #[.string set,pp p] w fun e w'=>e=.returned (.bool (decide (r<128/\r.toUInt8∈set.data.toList)))/\Below w.heap.size w w':=by
 have CALL:=Lh (zy1 set hset r hr w);obtain ⟨q0,f0⟩:=h.cell;clear h;generalize decide (r<128/\r.toUInt8∈set.data.toList)=b at *
 go_enter Tryz.func105, Tryz.ntmps105
 go_wp2_with fail
 refine CALL.out.mono ?_
 rintro e w1 ⟨rfl,hb⟩;have HB:=Lh hb;clear hb;go_wp2_with fail;go_ret
 exact ⟨rfl,HB.out⟩
def sgS:ByteArray:=⟨#[33,36,38,40,41,58,61,64,91,93,123,124,125]⟩
def leS:ByteArray:=⟨#[65,66,67,68,69,70,71,72,73,74,75,76,77,78,79,80,81,82,83,84,85,86,87,88,89,90,97,98,99,100,101,102,103,104,105,106,107,108,109,110,111,112,113,114,115,116,117,118,119,120,121,122,95]⟩
def dmS:ByteArray:=⟨#[45,48,49,50,51,52,53,54,55,56,57]⟩
theorem ye9:AscSet sgS:=⟨by decide +kernel,by decide,by decide⟩
theorem yk9:AscSet leS:=⟨by decide +kernel,by decide,by decide⟩
theorem yp4:AscSet dmS:=⟨by decide +kernel,by decide,by decide⟩
theorem sgS_is:∀ c:UInt8,decide (c∈sgS.data.toList)=decide (c∈sgL):=fun _=>rfl
theorem leS_is:∀ c:UInt8,decide (c∈leS.data.toList)=T1.letU (c.toNat:Int):=zs7 (by decide +kernel)
theorem dmS_is:∀ c:UInt8,decide (c∈dmS.data.toList)=dmB c:=zs7 (by decide +kernel)
theorem yb1 (s:ByteArray) (h:0<s.size):∃ r k:Nat,Lib.decodeGo s=(r,k)/\(r<128∨Utf8.valid r=true)/\(∀ set,AscSet set->decide (r<128/\r.toUInt8∈set.data.toList)=decide (s[0]∈set.data.toList))/\((r:Int)==34)=decide (s[0]=34):=by
 have hd:Lib.decodeGo s=Utf8.decode s 0:=by unfold Lib.decodeGo; rw [if_neg (by omega)]
 refine ⟨(Utf8.decode s 0).1,(Utf8.decode s 0).2,hd,zN8 s 0 h, ?_, ?_⟩
 ·intro set hs
  apply decide_eq_decide.2
  rcases Nat.lt_or_ge (s[0]).toNat 128 with ha | ha
  ·rw [decode_ascii s 0 h ha]
   have e:((s[0]).toNat).toUInt8=s[0]:=by rw [Nat.toUInt8_eq,UInt8.ofNat_toNat]
   show (s[0]).toNat<128/\((s[0]).toNat).toUInt8∈_ ↔ _
   rw [e];exact ⟨fun x=>x.2,fun x=>⟨ha,x⟩⟩
  ·have:=(decode_high s 0 h ha).1
   exact ⟨fun x=>by omega,fun x=>by have:=hs.asc _ x; omega⟩
 ·rcases Nat.lt_or_ge (s[0]).toNat 128 with ha | ha
  ·rw [decode_ascii s 0 h ha]
   show (((s[0]).toNat:Int)==34)=_
   by_cases hc:s[0]=34
   ·rw [hc]; rfl
   ·rw [decide_eq_false hc]
    exact beq_false_of_ne (fun e=>hc (UInt8.toNat_inj.1 (by
     have e:((s[0]).toNat:Int)=34:=e;show (s[0]).toNat=34;omega)))
  ·have h1:=(decode_high s 0 h ha).1
   have hc:¬ s[0]=34:=by
    intro e;rw [e] at ha
    revert ha; decide
   rw [decide_eq_false hc];exact beq_false_of_ne (by omega)
theorem tokR_eq (s:ByteArray) (h:0<s.size):tokR s.data.toList=if s[0]∈sgL then .ok (1,s.data.toList.take 1,1) else if s.data.toList.take 3=elL then .ok (1,elL,3)
  else if T1.letU ((s[0]).toNat:Int)=true then nameR s.data.toList else if dmB s[0]=true then intR s.data.toList else if s[0]=34 then textR s.data.toList else .error 3:=by
 have e:s.data.toList.getD 0 0=s[0]:=T1.zx0 s 0 h;rw [<- e]; rfl
theorem zN0 (l:List UInt8):Lib.hasPrefix l [46,46,46]=decide (l.take 3=elL):=by
 unfold Lib.hasPrefix;rw [Bool.eq_iff_iff,List.isPrefixOf_iff_prefix,List.prefix_iff_eq_take,decide_eq_true_iff];exact ⟨fun h=>h.symm,fun h=>h.symm⟩
theorem TokAns.parts {o:Except Int (Int × List UInt8 × Nat)} {e:Ending} (h:TokAns o e):∃ (k:Int) (t:ByteArray) (n c:Int),e=.returned (.tuple #[tkV k t 0,.int .i64 n,.int .i64 c]):=by
 cases o with
 | ok p=>obtain ⟨k,t,n⟩:=p; exact ⟨_,_,_,_,h⟩
 | error c=>obtain ⟨_,k,t,n,h⟩:=h; exact ⟨_,_,_,_,h⟩
theorem zC1 (s:ByteArray) (h0:0<s.size) (hs:s.size<=137438953472) (w:World) (hL:LK w) :
  Calls Tryz.prog 51 #[.string s] w (zI9 (tokR s.data.toList) w):=by
 have HX0:Hid (TB (w.alloc (.cells #[.int .i64 0,.string ⟨#[]⟩,.int .i64 0] 99 (0,0))) w.heap.size (.int .i64 0) (.string ⟨#[]⟩) (.int .i64 0)):=Lh (heap_alloc_new w _);have hb0:Below w.heap.size w (w.alloc (.cells #[.int .i64 0,.string ⟨#[]⟩,.int .i64 0] 99 (0,0))):=(Below.refl _ _).alloc (Nat.le_refl _) _;have HB0:=Lh hb0;have CALL0:=Lh (Tryz.utf8_DecodeRuneInString s (w.alloc (.cells #[.int .i64 0,.string ⟨#[]⟩,.int .i64 0] 99 (0,0))) (hL.below hb0).utf);obtain ⟨r,k,e1,hr,hset,h34⟩:=yb1 s h0;rw [e1] at CALL0;have HR:=Lh hr;have HSET:=Lh hset;have H34:=Lh h34;have HL:=Lh hL;have HT:=Lh (tokR_eq s h0);have HS:=Lh hs;have H0:=Lh h0;have h1s:(1:Int)<=s.size:=by omega
 clear hb0 e1 hr hset h34 hL hs;generalize tokR s.data.toList=R at *;generalize hc:s[0]=c at *;clear hc
 go_enter Tryz.func51, Tryz.ntmps51
 go_wp2_with fail
 refine CALL0.out.mono ?_
 rintro e w1 ⟨rfl,hb⟩;have HB1:=Lh (HB0.out.trans (hb.mono (by simp)));have HX1:=Lh (HX0.out.stay hb);have HV:Hid (RB w1.heap.size r (w1.alloc (.cells #[.int .i32 r] 21 (0,0)))):=Lh (heap_alloc_new w1 _);have HB2:Hid (Below w.heap.size w (w1.alloc (.cells #[.int .i32 r] 21 (0,0)))):=Lh (HB1.out.alloc HB1.out.size _);have HX2:Hid (TB (w1.alloc (.cells #[.int .i32 r] 21 (0,0))) w.heap.size (.int .i64 0) (.string ⟨#[]⟩) (.int .i64 0)):=Lh (HX1.out.stay ((Below.refl _ _).alloc (Nat.le_refl _) _));have CALL1:=Lh (zH9 w1.heap.size r HR.out sgS ye9 _ HV.out);clear hb CALL0;go_wp2_with fail;refine CALL1.out.mono ?_
 rintro e w2 ⟨rfl,hb⟩;rw [HSET.out _ ye9,sgS_is];have HB3:=Lh (HB2.out.trans (hb.mono HB2.out.size));have HX3:=Lh (HX2.out.stay hb);have HV3:=Lh (HV.out.stay hb);clear hb CALL1 HX0 HB0 HX1 HB1 HX2 HB2 HV;generalize w1.heap.size=p at *;by_cases c1:c∈sgL
 ·have d1:decide (c∈sgL)=true:=decide_eq_true c1
  have E1:=Lh (HT.out.trans (if_pos c1));have HE:=Lh (zR5 s 1);have ZZ:=Lh (HX3.out.three (.int .i64 1) (.string (s.extract 0 1)) (.int .i64 0)).cells;obtain ⟨x0,x1,x2⟩:=HX3.out.cells;have g0:=HX3.out.frz 0;have g1:=HX3.out.frz 1;have g2:=HX3.out.frz 2;rw [d1];clear HT c1 d1;go_wp2_with fail;obtain ⟨z0,z1,z2⟩:=ZZ.out;refine bodyPost_ret (v:=.tuple #[tkV 1 (s.extract 0 1) 0,.int .i64 1,.int .i64 0]) (by simp [results,Tryz.results51,go_sem,z0,z1,z2]) rfl ⟨?_,Below.three HB3.out (Nat.le_refl _) _ _ _⟩;rw [E1.out,HE.out]
  rfl
 have d1:decide (c∈sgL)=false:=decide_eq_false c1;have HT1:=Lh (HT.out.trans (if_neg c1));rw [d1];clear HT c1 d1;go_wp2_with fail;refine (Tryz.strings_HasPrefix s ⟨#[46,46,46]⟩ w2).mono ?_
 rintro e w3 ⟨rfl,rfl⟩;rw [zN0];by_cases c2:s.data.toList.take 3=elL
 ·have d2:decide (s.data.toList.take 3=elL)=true:=decide_eq_true c2
  have E1:=Lh (HT1.out.trans (if_pos c2));have ZZ:=Lh (HX3.out.three (.int .i64 1) (.string ⟨#[46,46,46]⟩) (.int .i64 0)).cells;obtain ⟨x0,x1,x2⟩:=HX3.out.cells;have g0:=HX3.out.frz 0;have g1:=HX3.out.frz 1;have g2:=HX3.out.frz 2;rw [d2];clear HT1 c2 d2;go_wp2_with fail;obtain ⟨z0,z1,z2⟩:=ZZ.out;refine bodyPost_ret (v:=.tuple #[tkV 1 ⟨#[46,46,46]⟩ 0,.int .i64 3,.int .i64 0]) (by simp [results,Tryz.results51,go_sem,z0,z1,z2]) rfl ⟨?_,Below.three HB3.out (Nat.le_refl _) _ _ _⟩;rw [E1.out]
  rfl
 have d2:decide (s.data.toList.take 3=elL)=false:=decide_eq_false c2;have HT2:=Lh (HT1.out.trans (if_neg c2));have CALL2:=Lh (zH9 p r HR.out leS yk9 _ HV3.out);rw [d2];clear HT1 c2 d2;go_wp2_with fail;refine CALL2.out.mono ?_
 rintro e w4 ⟨rfl,hb⟩;rw [HSET.out _ yk9,leS_is];have HB4:=Lh (HB3.out.trans (hb.mono HB3.out.size));have HX4:=Lh (HX3.out.stay hb);have HV4:=Lh (HV3.out.stay hb);clear hb CALL2 HB3 HX3 HV3;by_cases c3:T1.letU (c.toNat:Int)=true
 ·have E1:=Lh (HT2.out.trans (if_pos c3))
  have CALL3:=Lh (zX8 s (by have:=HS.out; unfold maxLen; omega) w4);rw [c3];clear HT2 c3;go_wp2_with fail;refine CALL3.out.mono ?_
  rintro e w5 ⟨ha,hb⟩;have HB5:=Lh (HB4.out.trans (hb.mono HB4.out.size));have HX5:=Lh (HX4.out.stay hb);clear hb CALL3 HB4 HX4;obtain ⟨k1,t1,n1,q1,rfl⟩:=ha.parts;have HA:=Lh ha;have ZZ:=Lh (HX5.out.three (.int .i64 k1) (.string t1) (.int .i64 0)).cells;obtain ⟨x0,x1,x2⟩:=HX5.out.cells;have g0:=HX5.out.frz 0;have g1:=HX5.out.frz 1;have g2:=HX5.out.frz 2;clear ha;go_wp2_with fail;obtain ⟨z0,z1,z2⟩:=ZZ.out;refine bodyPost_ret (v:=.tuple #[tkV k1 t1 0,.int .i64 n1,.int .i64 q1]) (by simp [results,Tryz.results51,go_sem,z0,z1,z2]) rfl ⟨?_,Below.three HB5.out (Nat.le_refl _) _ _ _⟩;rw [E1.out];exact HA.out
 have c3':T1.letU (c.toNat:Int)=false:=by simpa using c3
 have HT3:=Lh (HT2.out.trans (if_neg c3));have CALL3:=Lh (zH9 p r HR.out dmS yp4 _ HV4.out);rw [c3'];clear HT2 c3 c3';go_wp2_with fail;refine CALL3.out.mono ?_
 rintro e w5 ⟨rfl,hb⟩;rw [HSET.out _ yp4,dmS_is];have HB5:=Lh (HB4.out.trans (hb.mono HB4.out.size));have HX5:=Lh (HX4.out.stay hb);have HV5:=Lh (HV4.out.stay hb);clear hb CALL3 HB4 HX4 HV4;by_cases c4:dmB c=true
 ·have E1:=Lh (HT3.out.trans (if_pos c4))
  have CALL4:=Lh (ye0 s H0.out (by have:=HS.out; omega) w5 (HL.out.below HB5.out).num);rw [c4];clear HT3 c4;go_wp2_with fail;refine CALL4.out.mono ?_
  rintro e w6 ⟨ha,hb⟩;have HB6:=Lh (HB5.out.trans (hb.mono HB5.out.size));have HX6:=Lh (HX5.out.stay hb);clear hb CALL4 HB5 HX5;obtain ⟨k1,t1,n1,q1,rfl⟩:=ha.parts;have HA:=Lh ha;have ZZ:=Lh (HX6.out.three (.int .i64 k1) (.string t1) (.int .i64 0)).cells;obtain ⟨x0,x1,x2⟩:=HX6.out.cells;have g0:=HX6.out.frz 0;have g1:=HX6.out.frz 1;have g2:=HX6.out.frz 2;clear ha;go_wp2_with fail;obtain ⟨z0,z1,z2⟩:=ZZ.out;refine bodyPost_ret (v:=.tuple #[tkV k1 t1 0,.int .i64 n1,.int .i64 q1]) (by simp [results,Tryz.results51,go_sem,z0,z1,z2]) rfl ⟨?_,Below.three HB6.out (Nat.le_refl _) _ _ _⟩;rw [E1.out];exact HA.out
 have c4':dmB c=false:=by simpa using c4
 have HT4:=Lh (HT3.out.trans (if_neg c4));rw [c4'];obtain ⟨y0,y1⟩:=HV5.out.cell;have h34:=H34.out;clear HT3 c4 c4';by_cases c5:c=34
 ·have E1:=Lh (HT4.out.trans (if_pos c5))
  have CALL4:=Lh (zX7 s H0.out HS.out w5);rw [decide_eq_true c5] at h34;clear HT4 c5;go_wp2_with fail;refine CALL4.out.mono ?_
  rintro e w6 ⟨ha,hb⟩;have HB6:=Lh (HB5.out.trans (hb.mono HB5.out.size));have HX6:=Lh (HX5.out.stay hb);clear hb CALL4 HB5 HX5 y0 y1;obtain ⟨k1,t1,n1,q1,rfl⟩:=ha.parts;have HA:=Lh ha;have ZZ:=Lh (HX6.out.three (.int .i64 k1) (.string t1) (.int .i64 0)).cells;obtain ⟨x0,x1,x2⟩:=HX6.out.cells;have g0:=HX6.out.frz 0;have g1:=HX6.out.frz 1;have g2:=HX6.out.frz 2;clear ha;go_wp2_with fail;obtain ⟨z0,z1,z2⟩:=ZZ.out;refine bodyPost_ret (v:=.tuple #[tkV k1 t1 0,.int .i64 n1,.int .i64 q1]) (by simp [results,Tryz.results51,go_sem,z0,z1,z2]) rfl ⟨?_,Below.three HB6.out (Nat.le_refl _) _ _ _⟩;rw [E1.out];exact HA.out
 have E1:=Lh (HT4.out.trans (if_neg c5));rw [decide_eq_false c5] at h34;have ZZ:=Lh (HX5.out.three (.int .i64 0) (.string ⟨#[]⟩) (.int .i64 0)).cells;obtain ⟨x0,x1,x2⟩:=HX5.out.cells;have g0:=HX5.out.frz 0;have g1:=HX5.out.frz 1;have g2:=HX5.out.frz 2;clear HT4 c5;go_wp2_with fail;obtain ⟨z0,z1,z2⟩:=ZZ.out;refine bodyPost_ret (v:=.tuple #[tkV 0 ⟨#[]⟩ 0,.int .i64 0,.int .i64 3]) (by simp [results,Tryz.results51,go_sem,z0,z1,z2]) rfl ⟨?_,Below.three HB5.out (Nat.le_refl _) _ _ _⟩;rw [E1.out];exact ⟨by decide,_,_,_,rfl⟩
end Go.Proofs.YtfgelheiknmjgaaGreatDoor.K
namespace Go.Proofs.YtfgelheiknmjgaaGreatDoor.K
open Go.ChangeShapes Go.WideShapes Go.ChangeAt Go.RowKit
theorem own:ownKnob Tryz.prog.godebug=none:=by kernel_rfl
theorem gPowType:(Tryz.prog.globals[5]?).map (·.type)=some 278 := by kernel_rfl
theorem gRng : Tryz.prog.globalNamed "strconv.ErrRange" = some 4 := by kernel_rfl
theorem gRngType:(Tryz.prog.globals[4]?).map (·.type)=some 163 := by kernel_rfl
theorem cellsPow : Tryz.prog.cellsOf 278 = 20:=by kernel_rfl
theorem cellsU64 : Tryz.prog.cellsOf 251 = 1:=by kernel_rfl
theorem cellsErr : Tryz.prog.cellsOf 283 = 1:=by kernel_rfl
theorem cellsStr : Tryz.prog.cellsOf 9 = 1:=by kernel_rfl
theorem zV1 : "*" ++ "errors.errorString" = "*errors.errorString" := by decide
theorem rowErr (u:TypeId) (h : Tryz.prog.typeName? 3 u=some "*errors.errorString"):u = 281 :=
 typeName_ptr_named (nm := "errors.errorString") (by rw [zV1]; kernel_rfl) (by kernel_rfl) (by decide) u (by rw [zV1]; exact h)
abbrev zH8:List (String × DataW Unit):=[("math/bits.deBruijn32tab",Rows.laid_math_bits_deBruijn32tab),("math/bits.deBruijn64tab",Rows.laid_math_bits_deBruijn64tab),("internal/strconv.uint64pow10",Rows.laid_internal_strconv_uint64pow10),("unicode/utf8.acceptRanges",Rows.laid_unicode_utf8_acceptRanges),("strconv.ErrRange",Rows.laid_strconv_ErrRange),("strconv.ErrSyntax",Rows.laid_strconv_ErrSyntax),("unicode/utf8.first",Rows.laid_unicode_utf8_first)]
theorem firstIs:Rows.laid_unicode_utf8_first=Lib.firstData:=Pinned.utf8First_eq
theorem acceptIs:(Rows.laid_unicode_utf8_acceptRanges:DataW Unit)=Lib.acceptData:=by kernel_rfl
theorem laid_of {W:World} (h:laidMet Tryz.prog zH8 W):LK W:=by
 refine ⟨⟨Lib.tabIs_of_head T1.gPow gPowType Tryz.underlying278 Tryz.underlying251 cellsU64 cellsPow h.tail.tail, ?_⟩, ?_⟩
 ·obtain ⟨a,s,hv,_⟩:=laid_sentinel h.tail.tail.tail.tail gRng gRngType Tryz.underlying163 rowErr Tryz.underlying281 Tryz.underlying283 rfl rfl Tryz.underlying9 cellsErr cellsStr
  exact ⟨_,_,by simpa using World.var?_cell gRng hv 0⟩
 ·exact utf8Tabs_of_reads (ρ:=Tryz.lays260_ren) { Tryz.lays260 with } ⟨by kernel_rfl,by kernel_rfl,by kernel_rfl,by kernel_rfl,by kernel_rfl,by kernel_rfl,by kernel_rfl⟩
   (firstIs▸Lib.laidMet.reads h (.tail _ (.tail _ (.tail _ (.tail _ (.tail _ (.tail _ (.head _)))))))) (acceptIs▸Lib.laidMet.reads h (.tail _ (.tail _ (.tail _ (.head _)))))
noncomputable def zv3 (os:Os):World:=World.laidAll Tryz.prog os zH8
theorem laid_os (os:Os):(zv3 os).os=os:=World.laidAll_os _ _ _
theorem laid_met (os:Os) (args:Array Value):laidMet Tryz.prog zH8 ((zv3 os).forCall (fun _ _=>0) ⟨#[],args,[]⟩).memory :=
 laidMet_laidAll args (by kernel_rfl) (by kernel_rfl)
end Go.Proofs.YtfgelheiknmjgaaGreatDoor.K
namespace Go.Proofs.YtfgelheiknmjgaaGreatDoor
open Go.ChangeShapes Go.WideShapes Go.ChangeAt Go.RowKit
theorem laidOut:laidOutB Tryz.prog=true:=by kernel_rfl
end Go.Proofs.YtfgelheiknmjgaaGreatDoor
namespace Go.Proofs.YtfgelheiknmjgaaGreatDoor
open Go.RowKit
theorem zr3 (w:World) (xs:Array Value) (t:TypeId) (j:Nat) (h:j<xs.size):(w.alloc (.cells xs t)).cell? ((⟨w.heap.size,0,none⟩ : Addr).add j)=some xs[j]:=by
 have e:(⟨w.heap.size,0,none⟩ : Addr).add j=⟨w.heap.size,j,none⟩:=by
  unfold Addr.add; split <;> simp_all
 rw [e,World.cell?_alloc_at _ _ _ _ rfl,Array.getElem?_eq_getElem h]
theorem zt4 (l:List UInt8) (k:Nat) (h:k<l.length):l.take (k+1)=l.take k++[l[k]]:=by
 rw [List.take_succ_eq_append_getElem h]
theorem size_eq (s:ByteArray):s.data.toList.length=s.size:=by rw [Array.length_toList]; rfl
theorem zg0 {s:ByteArray} (h:0<s.size):s.toList≠[]:=by
 rw [Lib.toList_data]; intro e;have:=congrArg List.length e;rw [size_eq,List.length_nil] at this; omega
theorem zh2 {s:ByteArray} (h:0<s.size):s.toList.isEmpty=false:=by
 have:=zg0 h
 cases e:s.toList with
 | nil=>exact absurd e this
 | cons=>rfl
theorem zx7 {s:ByteArray} (h:s.size=0):s.toList=[]:=by
 rw [Lib.toList_data]; have:=size_eq s; exact List.eq_nil_of_length_eq_zero (by omega)
theorem zg9 (c:UInt8):(c.toNat:Int)<=255:=by have:=c.toNat_lt; omega
end Go.Proofs.YtfgelheiknmjgaaGreatDoor

