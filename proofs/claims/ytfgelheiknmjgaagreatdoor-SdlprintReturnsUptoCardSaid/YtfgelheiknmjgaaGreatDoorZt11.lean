
/-
 Texts joined: E2 RdS RAppend E3.
-/
import Derived.Test.YtfgelheiknmjgaaGreatDoorZt10
set_option maxRecDepth 1000000
set_option maxHeartbeats 8000000
namespace Go.Proofs.YtfgelheiknmjgaaGreatDoor
open Go.RowKit
theorem fld0 (a b c:Value) (w:World):Sem.run Tryz.prog (Instr.field 99 (.agg #[a,b,c]) 0) w=.ok a w:=by kernel_rfl
theorem fld1 (a b c:Value) (w:World):Sem.run Tryz.prog (Instr.field 99 (.agg #[a,b,c]) 1) w=.ok b w:=by kernel_rfl
theorem zg6 {w:World} {p:Nat} {ts:List Tk} {n:Nat} (h:PSt w p ts n) (s:ByteArray):Calls Tryz.prog 166 #[pP p,.string s] w fun e w'=>e=.returned (.bool (isSg s.data.toList ts))/\Below w.heap.size w w':=by
 obtain ⟨⟨k,tx,i⟩,r,rfl⟩:=h.good.ne;have hv:isSg s.data.toList ((k,tx,i)::r)=(decide (k=1)&&decide ((⟨tx.toArray⟩ : ByteArray)=s)):=by
  show (decide (k=1)&&decide (tx=s.data.toList))=_
  congr 1
  obtain ⟨d⟩:=s;rw [decide_eq_decide]
  constructor
  ·rintro rfl; rfl
  ·intro e; rw [<- e]
 have HV:=Lh hv;generalize isSg s.data.toList ((k,tx,i)::r)=RB at *;have hnx:Calls Tryz.prog 52 #[pP p] w fun e w'=>e=.returned (.agg #[.int .i64 k,.string ⟨tx.toArray⟩,.int .i64 i])/\Below w.heap.size w w':=zh4 h;have HN:=Lh hnx;clear h hv hnx;generalize (⟨tx.toArray⟩ : ByteArray)=x at *
 go_enter Tryz.func166, Tryz.ntmps166
 go_wp2_with fail
 refine HN.out.mono ?_
 rintro e w1 ⟨rfl,hb⟩;have HB:Hid (Below w.heap.size w (w1.alloc (.cells #[.int .i64 k,.string x,.int .i64 i] 99 (0,0)))):=Lh (hb.trans ((za0 _ _).mono hb.size));clear hb;by_cases hk:k=1
 ·subst hk
  by_cases hx:x=s
  ·subst hx
   have HV2:Hid (RB=true):=Lh (by rw [HV.out]; simp);clear HV;go_wp2_with fail;go_ret
   exact ⟨by rw [HV2.out]; simp,HB.out⟩
  ·have HV2:Hid (RB=false):=Lh (by rw [HV.out]; simp [hx])
   clear HV;have hx':decide (x=s)=false:=decide_eq_false hx;have hx2:(x.toList==s.toList)=false:=by
    rw [beq_eq_false_iff_ne]; intro e; apply hx;rw [Lib.toList_data,Lib.toList_data] at e;obtain ⟨d⟩:=x; obtain ⟨d2⟩:=s;simp only [ByteArray.mk.injEq]; exact Array.toList_inj.1 e
   clear hx;go_wp2_with fail;go_ret
   exact ⟨by rw [HV2.out]; simp,HB.out⟩
 ·have HV2:Hid (RB=false):=Lh (by rw [HV.out]; simp [hk])
  have hk':(k==1)=false:=by rw [beq_eq_false_iff_ne]; exact hk
  clear hk HV;go_wp2_with fail;go_ret
  exact ⟨by rw [HV2.out]; rfl,HB.out⟩
theorem zg7 {w:World} {p:Nat} {ts:List Tk} {n:Nat} (h:PSt w p ts n):Calls Tryz.prog 160 #[pP p] w fun e w'=>e=.returned (.bool (isNm ts))/\Below w.heap.size w w':=by
 obtain ⟨⟨k,tx,i⟩,r,rfl⟩:=h.good.ne;have HV:Hid (isNm ((k,tx,i)::r)=decide (k=2)):=Lh rfl;generalize isNm ((k,tx,i)::r)=RB at *;have hnx:Calls Tryz.prog 52 #[pP p] w fun e w'=>e=.returned (.agg #[.int .i64 k,.string ⟨tx.toArray⟩,.int .i64 i])/\Below w.heap.size w w':=zh4 h;have HN:=Lh hnx;clear h hnx;have hf0:=fld0
 go_enter Tryz.func160, Tryz.ntmps160
 go_wp2_with fail
 refine HN.out.mono ?_
 rintro e w1 ⟨rfl,hb⟩;have HB:=Lh hb;clear hb;have hd:(k==2)=decide (k=2):=by rw [Bool.eq_iff_iff]; simp
 go_wp2_with fail
 go_ret
 exact ⟨by rw [HV.out, <- hd]; rfl,HB.out⟩
theorem isSg_ne {s:List UInt8} {ts:List Tk} (h:isSg s ts=true):(hd ts).1≠5:=by
 unfold isSg at h;rw [Bool.and_eq_true,decide_eq_true_eq] at h;rw [h.1]; decide
theorem zt0 {ts:List Tk} (h:isNm ts=true):(hd ts).1≠5:=by
 unfold isNm at h;rw [decide_eq_true_eq] at h;rw [h]; decide
theorem zb2 {w:World} {p:Nat} {ts:List Tk} {n:Nat} (h:PSt w p ts n) (s:ByteArray) (b:Bool) (hs:isSg s.data.toList ts=b):Calls Tryz.prog 201 #[pP p,.string s] w fun e w'=>e=.returned (.bool b)/\PSt w' p (if b then ts.tail else ts) n/\Tw p w.heap.size w w':=by
 have HP:=Lh h;have hc:=zg6 h s;rw [hs] at hc;have HC:=Lh hc;have HS:=Lh hs;clear h hc hs
 cases b with
 | false =>
   go_enter Tryz.func201, Tryz.ntmps201
   go_wp2_with fail
   refine HC.out.mono ?_
   rintro e w1 ⟨rfl,hb⟩;have HB:=Lh hb;clear hb;go_wp2_with fail;go_ret
   exact ⟨rfl,HP.out.stay HB.out,.of HB.out⟩
 | true =>
   have hn:=isSg_ne HS.out;have HN:=Lh hn;clear hn
   go_enter Tryz.func201, Tryz.ntmps201
   go_wp2_with fail
   refine HC.out.mono ?_
   rintro e w1 ⟨rfl,hb⟩;have HB:=Lh hb;clear hb;go_wp2_with fail;refine (ze0 (HP.out.stay HB.out) HN.out).mono ?_
   rintro e w2 ⟨rfl,hp,ht⟩;have HP2:=Lh hp;have HT:=Lh ((Tw.of HB.out:Tw p _ w w1).step HB.out.size ht);clear hp ht;generalize tkV (hd ts)=tv at *;go_wp2_with fail;go_ret
   exact ⟨rfl,HP2.out,HT.out⟩
def UPost (w:World) (p n:Nat) (r:Except Er (List Tk)) (e:Ending) (w':World):Prop :=
 (∃ ts,r=.ok ts/\e=.returned (.tuple #[])/\PSt w' p ts n/\Tw p w.heap.size w w')∨(∃ x,r=.error x/\e=badV x/\Tw p w.heap.size w w')
theorem ze5 {w:World} {p:Nat} {ts:List Tk} {n:Nat} (h:PSt w p ts n) (s:ByteArray):Calls Tryz.prog 167 #[pP p,.string s] w (UPost w p n (sgR s.data.toList ts)):=by
 cases hs:isSg s.data.toList ts with
 | true =>
   have HV:Hid (sgR s.data.toList ts=.ok ts.tail):=Lh (by unfold sgR; rw [hs]; rfl);have HC:=Lh (zb2 h s _ hs);clear h hs;generalize sgR s.data.toList ts=R at *
   go_enter Tryz.func167, Tryz.ntmps167
   go_wp2_with fail
   refine HC.out.mono ?_
   rintro e w1 ⟨rfl,hp,ht⟩;have HP1:=Lh hp;have HT:=Lh ht;clear hp ht;go_wp2_with fail
   go_end0
   exact .inl ⟨_,HV.out,rfl,HP1.out,HT.out⟩
 | false =>
   have HV:Hid (sgR s.data.toList ts=.error (erR ts 3)):=Lh (by unfold sgR; rw [hs]; rfl);have HC:=Lh (zb2 h s _ hs);clear h hs;generalize sgR s.data.toList ts=R at *
   go_enter Tryz.func167, Tryz.ntmps167
   go_wp2_with fail
   refine HC.out.mono ?_
   rintro e w1 ⟨rfl,hp,ht⟩;have HP1:Hid (PSt w1 p ts n):=Lh hp;have HT:=Lh ht;clear hp ht;go_wp2_with fail;exact zg8 8 HP1.out (by kernel_rfl) rfl (by kernel_rfl) fun a w3 hf hb=>⟨hf.1.trans rfl,.inr ⟨_,HV.out,rfl,HT.out.step HT.out.size (.of hb)⟩⟩
def isWd (s:ByteArray) (ts:List Tk):Bool:=isNm ts&&decide ((⟨(hd ts).2.1.toArray⟩ : ByteArray)=s)
theorem isWd_ne {s:ByteArray} {ts:List Tk} (h:isWd s ts=true):(hd ts).1≠5:=by
 unfold isWd at h;rw [Bool.and_eq_true] at h;exact zt0 h.1
theorem zQ5 {w:World} {p:Nat} {ts:List Tk} {n:Nat} (h:PSt w p ts n) (s:ByteArray):Calls Tryz.prog 200 #[pP p,.string s] w fun e w'=>e=.returned (.bool (isWd s ts))/\Below w.heap.size w w':=by
 have hf1:=fld1;have HP:=Lh h;have hn:=zg7 h;have HV:Hid (isWd s ts=(isNm ts&&decide ((⟨(hd ts).2.1.toArray⟩ : ByteArray)=s))):=Lh rfl;generalize isWd s ts=RB at *
 cases hs:isNm ts with
 | false =>
   rw [hs] at hn;have HV2:Hid (RB=false):=Lh (by rw [HV.out,hs]; rfl);have HC:=Lh hn;clear h hs hn HV
   go_enter Tryz.func200, Tryz.ntmps200
   go_wp2_with fail
   refine HC.out.mono ?_
   rintro e w1 ⟨rfl,hb⟩;have HB:=Lh hb;clear hb;go_wp2_with fail;go_ret
   exact ⟨by rw [HV2.out]; rfl,HB.out⟩
 | true =>
   rw [hs] at hn;have HV2:Hid (RB=decide ((⟨(hd ts).2.1.toArray⟩ : ByteArray)=s)):=Lh (by rw [HV.out,hs]; rfl);have HC:=Lh hn;clear h hs hn HV
   go_enter Tryz.func200, Tryz.ntmps200
   go_wp2_with fail
   refine HC.out.mono ?_
   rintro e w1 ⟨rfl,hb⟩;have HB:=Lh hb;clear hb;go_wp2_with fail;refine (zh4 (HP.out.stay HB.out)).mono ?_
   rintro e w2 ⟨rfl,hb⟩;have HB2:=Lh (HB.out.trans (hb.mono HB.out.size));clear hb;unfold tkV;generalize (⟨(hd ts).2.1.toArray⟩ : ByteArray)=x at *;by_cases hx:x=s
   ·subst hx
    have HV3:Hid (RB=true):=Lh (by rw [HV2.out]; simp);clear HV2;go_wp2_with fail;go_ret
    exact ⟨by rw [HV3.out]; simp,HB2.out⟩
   ·have HV3:Hid (RB=false):=Lh (by rw [HV2.out]; simp [hx])
    have hx':decide (x=s)=false:=decide_eq_false hx;have hx2:(x.toList==s.toList)=false:=by
     rw [beq_eq_false_iff_ne]; intro e; apply hx;rw [Lib.toList_data,Lib.toList_data] at e;obtain ⟨d⟩:=x; obtain ⟨d2⟩:=s;simp only [ByteArray.mk.injEq]; exact Array.toList_inj.1 e
    clear hx HV2;go_wp2_with fail;go_ret
    exact ⟨by rw [HV3.out]; simp,HB2.out⟩
theorem zB1 {w:World} {p:Nat} {ts:List Tk} {n:Nat} (h:PSt w p ts n) (s:ByteArray) (b:Bool) (hs:isWd s ts=b):Calls Tryz.prog 161 #[pP p,.string s] w fun e w'=>e=.returned (.bool b)/\PSt w' p (if b then ts.tail else ts) n/\Tw p w.heap.size w w':=by
 have HP:=Lh h;have hc:=zQ5 h s;rw [hs] at hc;have HC:=Lh hc;have HS:=Lh hs;clear h hc hs
 cases b with
 | false =>
   go_enter Tryz.func161, Tryz.ntmps161
   go_wp2_with fail
   refine HC.out.mono ?_
   rintro e w1 ⟨rfl,hb⟩;have HB:=Lh hb;clear hb;go_wp2_with fail;go_ret
   exact ⟨rfl,HP.out.stay HB.out,.of HB.out⟩
 | true =>
   have hn:=isWd_ne HS.out;have HN:=Lh hn;clear hn
   go_enter Tryz.func161, Tryz.ntmps161
   go_wp2_with fail
   refine HC.out.mono ?_
   rintro e w1 ⟨rfl,hb⟩;have HB:=Lh hb;clear hb;go_wp2_with fail;refine (ze0 (HP.out.stay HB.out) HN.out).mono ?_
   rintro e w2 ⟨rfl,hp,ht⟩;have HP2:=Lh hp;have HT:=Lh ((Tw.of HB.out:Tw p _ w w1).step HB.out.size ht);clear hp ht;generalize tkV (hd ts)=tv at *;go_wp2_with fail;go_ret
   exact ⟨rfl,HP2.out,HT.out⟩
def VPost {α:Type} (R:World->(Nat->Prop)->Value->α->Prop) (w:World) (p n:Nat) (r:Except Er (α × List Tk)) (e:Ending) (w':World):Prop :=
 (∃ x ts v,r=.ok (x,ts)/\e=.returned v/\R w' (fun b=>w.heap.size<=b/\b<w'.heap.size) v x/\PSt w' p ts n/\Tw p w.heap.size w w')∨(∃ x,r=.error x/\e=badV x/\Tw p w.heap.size w w')
def StrS (_:World) (_:Nat->Prop) (v:Value) (s:ByteArray):Prop:=v=.string s/\s.size<=1000000
theorem zd6 {w:World} {p:Nat} {ts:List Tk} {n:Nat} (h:PSt w p ts n):Calls Tryz.prog 112 #[pP p] w (VPost StrS w p n (nmR ts)):=by
 have hf1:=fld1;have hn:=zg7 h
 cases hs:isNm ts with
 | true =>
   have HV:Hid (nmR ts=.ok (⟨(hd ts).2.1.toArray⟩,ts.tail)):=Lh (by unfold nmR; rw [hs]; rfl);rw [hs] at hn;have HC:=Lh hn;have HP:=Lh h;have HNE:=Lh (zt0 hs);have HSZ:Hid ((⟨(hd ts).2.1.toArray⟩ : ByteArray).size<=1000000):=Lh (by
    obtain ⟨t,r,rfl⟩:=h.good.ne;have:=(h.good.ok t List.mem_cons_self).len;show t.2.1.toArray.size<=_;simpa using this)
   clear h hs hn;generalize nmR ts=R at *
   go_enter Tryz.func112, Tryz.ntmps112
   go_wp2_with fail
   refine HC.out.mono ?_
   rintro e w1 ⟨rfl,hb⟩;have HB:=Lh hb;clear hb;go_wp2_with fail;refine (ze0 (HP.out.stay HB.out) HNE.out).mono ?_
   rintro e w2 ⟨rfl,hp,ht⟩;have HP2:=Lh hp;have HT:=Lh ((Tw.of HB.out:Tw p _ w w1).step HB.out.size ht);clear hp ht;unfold tkV;generalize (⟨(hd ts).2.1.toArray⟩ : ByteArray)=x at *;go_wp2_with fail;go_ret
   exact .inl ⟨_,_,_,HV.out,rfl,⟨rfl,HSZ.out⟩,HP2.out,HT.out⟩
 | false =>
   have HV:Hid (nmR ts=.error (erR ts 3)):=Lh (by unfold nmR; rw [hs]; rfl);rw [hs] at hn;have HC:=Lh hn;have HP:=Lh h;clear h hs hn;generalize nmR ts=R at *
   go_enter Tryz.func112, Tryz.ntmps112
   go_wp2_with fail
   refine HC.out.mono ?_
   rintro e w1 ⟨rfl,hb⟩;have HB:=Lh hb;clear hb;go_wp2_with fail;exact zg8 6 (HP.out.stay HB.out) (by kernel_rfl) rfl (by kernel_rfl) fun a w3 hf hb=>⟨hf.1.trans rfl,.inr ⟨_,HV.out,rfl,(Tw.of HB.out).step HB.out.size (.of hb)⟩⟩
theorem zi8 {w:World} {p:Nat} {ts:List Tk} {n:Nat} (h:PSt w p ts n) (can:Bool) (count most:Nat) (x y:Int) (hx:x=count) (hy:y=most):Calls Tryz.prog 54 #[pP p,.bool can,.int .i64 x,.int .i64 y] w (fun e w'=>(bgR can count most ts=.ok ()/\e=.returned (.tuple #[])/\Below w.heap.size w w')∨(∃ z,bgR can count most ts=.error z/\e=badV z/\Tw p w.heap.size w w')):=by
 have HP:=Lh h;have HV:Hid (bgR can count most ts=if can then (if count=most then .error (erR ts 4) else .ok ()) else .error (erR ts 3)):=Lh rfl;clear h;generalize bgR can count most ts=R at *
 cases can with
 | false =>
   clear hx hy
   go_enter Tryz.func54, Tryz.ntmps54
   go_wp2_with fail
   exact zg8 10 HP.out (by kernel_rfl) rfl (by kernel_rfl) fun a w3 hf hb=>⟨hf.1.trans rfl,.inr ⟨_,HV.out,rfl,.of hb⟩⟩
 | true =>
   by_cases hc:count=most
   ·have HV2:Hid (R=.error (erR ts 4)):=Lh (by rw [HV.out,if_pos rfl,if_pos hc])
    have hxy:(x==y)=true:=by rw [beq_iff_eq]; omega
    clear hx hy hc
    go_enter Tryz.func54, Tryz.ntmps54
    go_wp2_with fail
    exact zg8 20 HP.out (by kernel_rfl) rfl (by kernel_rfl) fun a w3 hf hb=>⟨hf.1.trans rfl,.inr ⟨_,HV2.out,rfl,.of hb⟩⟩
   ·have HV2:Hid (R=.ok ()):=Lh (by rw [HV.out,if_pos rfl,if_neg hc])
    have hxy:(x==y)=false:=by rw [beq_eq_false_iff_ne]; omega
    clear hx hy hc
    go_enter Tryz.func54, Tryz.ntmps54
    go_wp2_with fail
    go_end0
    exact .inl ⟨HV2.out,rfl,Below.refl _ _⟩
def KeysS (w:World) (S:Nat->Prop) (K:Option Addr) (keys:List ByteArray):Prop :=
 0<keys.length->∃ a,K=some a/\S a.block/\∀ i s,keys[i]?=some s->w.cell? (a.add i)=some (.string s)
inductive RdS (w:World) (S:Nat->Prop):Value->VT->Prop
 | mk {k n:Int} {s:ByteArray} {A:Option Addr} {li ci:Nat} {K:Option Addr} {lk ck:Nat} {items:List VT} {keys:List ByteArray} (V:Nat->Value)
    (hk:small k) (hn:small n) (hs:s.size<=140737488351232) (hks:∀ s∈keys,s.size<=140737488351232)
    (hli:items.length=li) (hlk:keys.length=lk) (hbi:li*80<=140737488351232) (hbk:lk*16<=140737488351232/\lk<=ck)
    (hA:0<li->∃ a,A=some a/\S a.block/\∀ i,i<li->C5 w (a.add (i*5)) (V i))
    (hr:∀ (i:Nat) (t:VT),items[i]?=some t->RdS w S (V i) t)
    (hK:KeysS w S K keys) :
    RdS w S (.agg #[.int .i64 k,.int .i64 n,.string s,.slice A li ci,.slice K lk ck]) (.mk k n s items keys)
theorem zd0 {w w':World} {a:Addr} (h:w'.heap[a.block]?=w.heap[a.block]?):w'.cell? a=w.cell? a:=World.cell?_of_block (w:=w) h
theorem C5.same {w w':World} {a:Addr} {v:Value} (h:C5 w a v) (hb:w'.heap[a.block]?=w.heap[a.block]?):C5 w' a v:=by
 obtain ⟨c0,c1,c2,c3,c4,e,h0,h1,h2,h3,h4⟩:=h;exact ⟨c0,c1,c2,c3,c4,e,(zd0 hb).trans h0,(zd0 (a:=⟨a.block,a.off+1,none⟩) hb).trans h1,(zd0 (a:=⟨a.block,a.off+2,none⟩) hb).trans h2,(zd0 (a:=⟨a.block,a.off+3,none⟩) hb).trans h3,(zd0 (a:=⟨a.block,a.off+4,none⟩) hb).trans h4⟩
theorem KeysS.kept {w w':World} {S S':Nat->Prop} {K:Option Addr} {keys:List ByteArray} (h:KeysS w S K keys) (hb:∀ b,S b->w'.heap[b]?=w.heap[b]?) (hs:∀ b,S b->S' b):KeysS w' S' K keys:=by
 intro hl;obtain ⟨a,e,ha,hc⟩:=h hl;exact ⟨a,e,hs _ ha,fun i s hi=>(zd0 (by rw [za1]; exact hb _ ha)).trans (hc i s hi)⟩
theorem RdS.kept {w w':World} {S S':Nat->Prop} {v:Value} {t:VT} (h:RdS w S v t) (hb:∀ b,S b->w'.heap[b]?=w.heap[b]?) (hs:∀ b,S b->S' b):RdS w' S' v t:=by
 induction h with
 | mk V hk hn hz hks hli hlk hbi hbk hA hr hK ih =>
   refine .mk V hk hn hz hks hli hlk hbi hbk (fun h0=>?_) ih (hK.kept hb hs)
   obtain ⟨a,e,ha,hc⟩:=hA h0;exact ⟨a,e,hs _ ha,fun i hi=>(hc i hi).same (by rw [za1]; exact hb _ ha)⟩
theorem RdS.toRd {w:World} {S:Nat->Prop} {B:Nat} {v:Value} {t:VT} (h:RdS w S v t) (hs:∀ b,S b->b<B):Rd w B v t:=by
 induction h with
 | mk V hk hn hz hks hli hlk hbi hbk hA hr hK ih =>
   refine .mk V hk hn hz hks hli hlk hbi hbk (fun h0=>?_) ih (fun h0=>?_)
   ·obtain ⟨a,e,ha,hc⟩:=hA h0
    exact ⟨a,e,hs _ ha,hc⟩
   ·obtain ⟨a,e,ha,hc⟩:=hK h0
    exact ⟨a,e,hs _ ha,hc⟩
def Elems (w:World) (S:Nat->Prop) (xs:List Value) (ts:List VT):Prop :=
 ∀ i t,ts[i]?=some t->∃ c0 c1 c2 c3 c4,xs[i*5]?=some c0/\xs[i*5+1]?=some c1/\xs[i*5+2]?=some c2/\xs[i*5+3]?=some c3/\xs[i*5+4]?=some c4/\RdS w S (.agg #[c0,c1,c2,c3,c4]) t
theorem ze9 {w w':World} {base:Nat} {e:TypeId} {size:Nat} {v:Value} {n:Nat} {xs:List Value} (h:w.ownsRow base e size v n xs) (hb:∀ g,g<w.heap.size->w'.heap[g]?=w.heap[g]?):w'.ownsRow base e size v n xs:=by
 refine ⟨h.1,h.2.imp id ?_⟩
 rintro ⟨g,cap,cur,e1,e2,e3,r⟩;have hg:g<w.heap.size:=by
  rcases Nat.lt_or_ge g w.heap.size with h' | h'
  ·exact h'
  ·rw [Array.getElem?_eq_none h'] at e3; cases e3
 exact ⟨g,cap,cur,e1,e2,(hb g hg).trans e3,r⟩
theorem zf9 {w:World} {base:Nat} {e:TypeId} {size:Nat} {v:Value} {n:Nat} {xs:List Value} (h:w.ownsRow base e size v n xs) {g:Nat} (hv:v.ownBlock=some g):base<=g/\g<w.heap.size:=by
 rcases h.2 with ⟨rfl,_⟩ | ⟨g',cap,cur,rfl,e2,e3,_⟩
 ·cases hv
 ·cases hv
  refine ⟨e2, ?_⟩
  rcases Nat.lt_or_ge g' w.heap.size with h' | h'
  ·exact h'
  ·rw [Array.getElem?_eq_none h'] at e3; cases e3
theorem zR1 {P:Program} {e:TypeId} {z:Value} {size bytes:Nat} (h:(P.info? e).map (fun i=>(i.zero,i.size,i.bytes))=some (some z,size,bytes)):∃ i,P.info? e=some i/\i.zero=some z/\i.size=size/\i.bytes=bytes:=by
 cases hi:P.info? e with
 | none=>rw [hi] at h; simp at h
 | some i=>rw [hi] at h; simp at h; exact ⟨i,rfl,h.1,h.2.1,h.2.2⟩
theorem zo2 {P:Program} (w:World) (base:Nat) (t ty e:TypeId) (z:Value) (size bytes:Nat) (ht:P.underlying t=some (.slice e)) (hinfo:(P.info? e).map (fun i=>(i.zero,i.size,i.bytes))=some (some z,size,bytes)) (hzs:z.cells.size=size) (hsz:0<size)
  (v:Value) (n:Nat) (xs:List Value) (hown:w.ownsRow base e size v n xs)
  (a:Addr) (m c:Nat) (hm0:0<m) (news:List Value) (hl:news.length=m*size) (hnews:∀ j u,news[j]?=some u->w.cell? (a.add j)=some u) (h1:∀ u∈news,u.oneCell'=true)
  (h63:n+m<=maxLen) (hbytes:(n+m)*bytes<=140737488355328) (hbase:base<=w.heap.size) :
  ∃ v' w',(Builtin.append_ #[t,t] ty #[v,.slice (some a) m c]).run P w=.ok v' w'/\w'.ownsRow base e size v' (n+m) (xs++news)/\w.grownBy w' v.ownBlock/\(v'.ownBlock=v.ownBlock∨∃ g,v'.ownBlock=some g/\w.heap.size<=g):=by
 obtain ⟨i,hi,hz,hsize,hby⟩:=zR1 hinfo;obtain ⟨v',w',hr,h2,h3,_⟩:=run_append_own (P:=P) w base t ty e i z size bytes ht hi hz hsize hby hzs hsz v n xs hown a m c news hl hnews h1 h63 hbytes hbase;refine ⟨v',w',hr,h2,h3, ?_⟩;have hml:maxLen<=9223372036854775807:=by decide
 subst hsize hby;rcases hown.2 with ⟨rfl,rfl⟩ | ⟨g,cap,cur,rfl,hbg,hg,hnc,hcm,hcs,htake⟩
 ·have hr2:=run_append_nil (P:=P) w t ty e i z ht hi hz a m c news hl hnews hm0 (by omega) (by have hb:=hbytes; simp only [Nat.zero_add] at hb; omega)
  rw [hr] at hr2;injection hr2 with h4 h5;subst h4;exact .inr ⟨_,rfl,Nat.le_refl _⟩
 ·by_cases hroom:n+m<=cap
  ·have hfit:n*i.size+news.length<=cur.size:=by rw [hl,hcs, <- Nat.add_mul]; exact Nat.mul_le_mul_right _ hroom
   have hr2:=run_append_room (P:=P) w t ty e i ht hi g n cap cur hg a m c news hl hnews h1 hroom hfit;rw [hr] at hr2;injection hr2 with h4 h5;subst h4;exact .inl rfl
  ·have holds:∀ j u,xs[j]?=some u->w.cell? ((⟨g,0,none⟩ : Addr).add j)=some u:=hown.cells (g:=g) rfl
   have hr2:=run_append_grow (P:=P) w t ty e i z ht hi hz ⟨g,0,none⟩ n cap xs hown.1 holds a m c news hl hnews (by omega) (by omega) (growslice_fits (by omega) hbytes);rw [hr] at hr2;injection hr2 with h4 h5;subst h4;exact .inr ⟨_,rfl,Nat.le_refl _⟩
theorem zb1 {P:Program} (w:World) {ops:Array Oper} {rest:List Oper} {o:Oper} {a:Act} {Q:Exit->Act->World->Prop} (hgd:o.guard=none) (s x:Operand) (t:TypeId)
  (ho:o.op=.call { callee:=.builtin .append,args:=#[s,x],argTypes:=#[t,t] })
  (base:Nat) (e:TypeId) (z:Value) (size bytes:Nat) (ht:P.underlying t=some (.slice e)) (hinfo:(P.info? e).map (fun i=>(i.zero,i.size,i.bytes))=some (some z,size,bytes)) (hzs:z.cells.size=size) (hsz:0<size)
  (v:Value) (n:Nat) (xs:List Value) (hs:a.eval s=v) (hown:w.ownsRow base e size v n xs)
  (ad:Addr) (m c:Nat) (hm0:0<m) (news:List Value) (hx:a.eval x=.slice (some ad) m c) (hl:news.length=m*size) (hnews:∀ j u,news[j]?=some u->w.cell? (ad.add j)=some u) (h1:∀ u∈news,u.oneCell'=true)
  (h63:n+m<=maxLen) (hbytes:(n+m)*bytes<=140737488355328) (hbase:base<=w.heap.size)
  (h:∀ v' w',w'.ownsRow base e size v' (n+m) (xs++news)->w.grownBy w' v.ownBlock->(v'.ownBlock=v.ownBlock∨∃ g,v'.ownBlock=some g/\w.heap.size<=g)->wpList P ops Q rest (a.put o.dst v') w'):wpList P ops Q (o::rest) a w :=
 wpList_plain hgd fun _ hK=>by
  obtain ⟨v',w',hr,h2,h3,h4⟩:=zo2 (P:=P) w base t o.type e z size bytes ht hinfo hzs hsz v n xs hown ad m c hm0 news hl hnews h1 h63 hbytes hbase;unfold Oper.wp execOp;simp only [ho,resolve,invoke,builtin,Sem.run_bind,Sem.run_pure,Result.andThen_ok,List.map_toArray,List.map_cons,List.map_nil,hs,hx,hr];exact hK _ _ (h v' w' h2 h3 h4)
theorem infoS:(Tryz.prog.info? 9).map (fun i=>(i.zero,i.size,i.bytes))=some (some (.string ⟨#[]⟩),1,16):=by kernel_rfl
abbrev RelS (α:Type):=World->(Nat->Prop)->(Nat->Value)->α->Prop
structure StayS {α:Type} (R:RelS α):Prop where
 kept:∀ {w w':World} {S S':Nat->Prop} {f:Nat->Value} {x : α},R w S f x->(∀ b,S b->w'.heap[b]?=w.heap[b]?)->(∀ b,S b->S' b)->R w' S' f x
def SlS {α:Type} (k bytes:Nat) (R:RelS α) (w:World) (S:Nat->Prop) (v:Value) (xs:List α):Prop :=
 ∃ A c,v=.slice A xs.length c/\xs.length<=c/\xs.length*bytes<=big/\∃ V:Nat->Nat->Value,
  (0<xs.length->∃ a,A=some a/\S a.block/\∀ i,i<xs.length->∀ j,j<k->w.cell? (at_ (a.add (i*k)) j)=some (V i j))/\∀ i x,xs[i]?=some x->R w S (V i) x
theorem SlS.kept {α:Type} {k bytes:Nat} {R:RelS α} (hR:StayS R) {w w':World} {S S':Nat->Prop} {v:Value} {xs:List α} (h:SlS k bytes R w S v xs) (hb:∀ b,S b->w'.heap[b]?=w.heap[b]?) (hs:∀ b,S b->S' b):SlS k bytes R w' S' v xs:=by
 obtain ⟨A,c,e,hc,hz,V,hA,hr⟩:=h;refine ⟨A,c,e,hc,hz,V,fun h0=>?_,fun i x hx=>hR.kept (hr i x hx) hb hs⟩;obtain ⟨a,ea,ha,hx⟩:=hA h0;exact ⟨a,ea,hs _ ha,fun i hi j hj=>(zd0 (by rw [zb5,za1]; exact hb _ ha)).trans (hx i hi j hj)⟩
theorem SlS.toSl {α:Type} {k bytes:Nat} {R:RelS α} {R':World->Nat->(Nat->Value)->α->Prop} {w:World} {S:Nat->Prop} {B:Nat} {v:Value} {xs:List α} (hs:∀ b,S b->b<B) (hR:∀ f x,R w S f x->R' w B f x) (h:SlS k bytes R w S v xs):Sl k bytes R' w B v xs:=by
 obtain ⟨A,c,e,hc,hz,V,hA,hr⟩:=h;refine ⟨A,c,e,hc,hz,V,fun h0=>?_,fun i x hx=>hR _ _ (hr i x hx)⟩;obtain ⟨a,ea,ha,hx⟩:=hA h0;exact ⟨a,ea,hs _ ha,hx⟩
def StrC:RelS ByteArray:=fun _ _ f s=>f 0=.string s/\s.size<=big
def IntC:RelS Int:=fun _ _ f n=>f 0=.int .i64 n/\small n
def WrapsC:=SlS 1 8 IntC
def yq8:=SlS 1 16 StrC
structure RfC (w:World) (S:Nat->Prop) (c0 c1:Value) (n:ByteArray) (xs:List Int):Prop where
 name:c0=.string n
 size:n.size<=big
 wraps:WrapsC w S c1 xs
structure ArgC (w:World) (S:Nat->Prop) (f:Nat->Value) (x:ByteArray × VT):Prop where
 name:f 0=.string x.1
 size:x.1.size<=big
 val:RdS w S (.agg #[f 1,f 2,f 3,f 4,f 5]) x.2
def ArgsC:=SlS 6 96 ArgC
structure DirC (w:World) (S:Nat->Prop) (f:Nat->Value) (x:DirT):Prop where
 name:f 0=.string x.name
 size:x.name.size<=big
 args:ArgsC w S (f 1) x.args
def DirsC:=SlS 2 40 DirC
structure InpC (w:World) (S:Nat->Prop) (f:Nat->Value) (x:InpT):Prop where
 name:f 0=.string x.name
 size:x.name.size<=big
 type:RfC w S (f 1) (f 2) x.tn x.tw
 has:f 3=.bool x.has
 val:RdS w S (.agg #[f 4,f 5,f 6,f 7,f 8]) x.dflt
 dirs:DirsC w S (f 9) x.dirs
def InpsC:=SlS 10 168 InpC
structure FldC (w:World) (S:Nat->Prop) (f:Nat->Value) (x:FldT):Prop where
 name:f 0=.string x.name
 size:x.name.size<=big
 args:InpsC w S (f 1) x.args
 type:RfC w S (f 2) (f 3) x.tn x.tw
 dirs:DirsC w S (f 4) x.dirs
def FldsC:=SlS 5 104 FldC
structure MemC (w:World) (S:Nat->Prop) (f:Nat->Value) (x:MemT):Prop where
 name:f 0=.string x.name
 size:x.name.size<=big
 dirs:DirsC w S (f 1) x.dirs
def MemsC:=SlS 2 40 MemC
structure DefC (w:World) (S:Nat->Prop) (f:Nat->Value) (x:DefT):Prop where
 kind:f 0=.int .i64 x.kind
 small:small x.kind
 name:f 1=.string x.name
 size:x.name.size<=big
 impl:yq8 w S (f 2) x.impl
 dirs:DirsC w S (f 3) x.dirs
 fields:FldsC w S (f 4) x.fields
 members:MemsC w S (f 5) x.members
 inputs:InpsC w S (f 6) x.inputs
def DefsC:=SlS 7 144 DefC
theorem StrC.stays:StayS StrC:=⟨fun h _ _=>h⟩
theorem IntC.stays:StayS IntC:=⟨fun h _ _=>h⟩
theorem RfC.kept {w w':World} {S S':Nat->Prop} {c0 c1:Value} {n:ByteArray} {xs:List Int} (h:RfC w S c0 c1 n xs) (hb:∀ b,S b->w'.heap[b]?=w.heap[b]?) (hs:∀ b,S b->S' b):RfC w' S' c0 c1 n xs:=⟨h.name,h.size,SlS.kept IntC.stays h.wraps hb hs⟩
theorem ArgC.stays:StayS ArgC:=⟨fun h hb hs=>⟨h.name,h.size,h.val.kept hb hs⟩⟩
theorem DirC.stays:StayS DirC:=⟨fun h hb hs=>⟨h.name,h.size,SlS.kept ArgC.stays h.args hb hs⟩⟩
theorem InpC.stays:StayS InpC:=⟨fun h hb hs=>⟨h.name,h.size,h.type.kept hb hs,h.has,h.val.kept hb hs,SlS.kept DirC.stays h.dirs hb hs⟩⟩
theorem FldC.stays:StayS FldC:=⟨fun h hb hs=>⟨h.name,h.size,SlS.kept InpC.stays h.args hb hs,h.type.kept hb hs,SlS.kept DirC.stays h.dirs hb hs⟩⟩
theorem MemC.stays:StayS MemC:=⟨fun h hb hs=>⟨h.name,h.size,SlS.kept DirC.stays h.dirs hb hs⟩⟩
theorem DefC.stays:StayS DefC:=⟨fun h hb hs=>⟨h.kind,h.small,h.name,h.size,SlS.kept StrC.stays h.impl hb hs,SlS.kept DirC.stays h.dirs hb hs,SlS.kept FldC.stays h.fields hb hs,SlS.kept MemC.stays h.members hb hs,SlS.kept InpC.stays h.inputs hb hs⟩⟩
section
variable {w:World} {S:Nat->Prop} {B:Nat} (hs:∀ b,S b->b<B)
include hs
theorem ArgC.toR {f:Nat->Value} {x:ByteArray × VT} (h:ArgC w S f x):ArgR w B f x:=⟨h.name,h.size,h.val.toRd hs⟩
theorem RfC.toR {c0 c1:Value} {n:ByteArray} {xs:List Int} (h:RfC w S c0 c1 n xs):RfR w B c0 c1 n xs:=⟨h.name,h.size,SlS.toSl hs (fun _ _ h=>h) h.wraps⟩
theorem DirC.toR {f:Nat->Value} {x:DirT} (h:DirC w S f x):DirR w B f x:=⟨h.name,h.size,SlS.toSl hs (fun _ _ h=>h.toR hs) h.args⟩
theorem InpC.toR {f:Nat->Value} {x:InpT} (h:InpC w S f x):InpR w B f x:=⟨h.name,h.size,h.type.toR hs,h.has,h.val.toRd hs,SlS.toSl hs (fun _ _ h=>h.toR hs) h.dirs⟩
theorem FldC.toR {f:Nat->Value} {x:FldT} (h:FldC w S f x):FldR w B f x:=⟨h.name,h.size,SlS.toSl hs (fun _ _ h=>h.toR hs) h.args,h.type.toR hs,SlS.toSl hs (fun _ _ h=>h.toR hs) h.dirs⟩
theorem MemC.toR {f:Nat->Value} {x:MemT} (h:MemC w S f x):MemR w B f x:=⟨h.name,h.size,SlS.toSl hs (fun _ _ h=>h.toR hs) h.dirs⟩
theorem DefC.toR {f:Nat->Value} {x:DefT} (h:DefC w S f x):DefR w B f x:=⟨h.kind,h.small,h.name,h.size,SlS.toSl hs (fun _ _ h=>h) h.impl,SlS.toSl hs (fun _ _ h=>h.toR hs) h.dirs,SlS.toSl hs (fun _ _ h=>h.toR hs) h.fields,SlS.toSl hs (fun _ _ h=>h.toR hs) h.members,SlS.toSl hs (fun _ _ h=>h.toR hs) h.inputs⟩
theorem DefsC.toR {v:Value} {xs:List DefT} (h:DefsC w S v xs):DefsR w B v xs:=SlS.toSl hs (fun _ _ h=>h.toR hs) h
end
theorem SlS.form {α:Type} {k bytes:Nat} {R:RelS α} {w:World} {S:Nat->Prop} {v:Value} {xs:List α} (h:SlS k bytes R w S v xs):∃ A c,v=.slice A xs.length c/\xs.length<=c/\xs.length*bytes<=big:=by
 obtain ⟨A,c,e,hc,hb,_⟩:=h; exact ⟨A,c,e,hc,hb⟩
theorem SlS.nil {α:Type} {k bytes:Nat} {R:RelS α} (w:World) (S:Nat->Prop):SlS k bytes R w S (.slice none 0 0) [] :=
 ⟨none,0,rfl,Nat.le_refl _,by simp,fun _ _=>undef,fun h=>absurd h (Nat.lt_irrefl _),fun i x h=>by simp at h⟩
theorem RdS.form {w:World} {S:Nat->Prop} {v:Value} {t:VT} (h:RdS w S v t):∃ (k n:Int) (s:ByteArray) (A:Option Addr) (li ci:Nat) (K:Option Addr) (lk ck:Nat),v=.agg #[.int .i64 k,.int .i64 n,.string s,.slice A li ci,.slice K lk ck]:=by
 cases h with
 | mk V=>exact ⟨_,_,_,_,_,_,_,_,_,rfl⟩
def Apart (base:Nat) (w:World) (v:Value) (b:Nat):Prop:=base<=b/\b<w.heap.size/\v.ownBlock≠some b
structure Els {α:Type} (T:TypeId) (k:Nat) (R:RelS α) (w:World) (base:Nat) (v:Value) (cells:List Value) (xs:List α):Prop where
 own:w.ownsRow base T k v xs.length cells
 els:∀ i x,xs[i]?=some x->R w (Apart base w v) (fun j=>cells.getD (i*k+j) undef) x
theorem Els.nil {α:Type} (T:TypeId) (k:Nat) (R:RelS α) (w:World) (base:Nat):Els T k R w base (.slice none 0 0) [] ([]:List α):=⟨⟨by simp,.inl ⟨rfl,rfl⟩⟩,fun i x h=>by simp at h⟩
theorem Els.tw {α:Type} {T:TypeId} {k:Nat} {R:RelS α} (hR:StayS R) {w w':World} {base p:Nat} {v:Value} {cells:List Value} {xs:List α} (h:Els T k R w base v cells xs) (hp:p<base) (hb:Tw p w.heap.size w w'):Els T k R w' base v cells xs:=by
 refine ⟨⟨h.own.1,h.own.2.imp id ?_⟩,fun i x hx=>hR.kept (h.els i x hx) (fun b hb2=>hb.block b hb2.2.1 (by have:=hb2.1; omega)) (fun b hb2=>⟨hb2.1,Nat.lt_of_lt_of_le hb2.2.1 hb.size,hb2.2.2⟩)⟩
 rintro ⟨g,cap,cur,rfl,e2,e3,r⟩;have hg:=(zf9 h.own (g:=g) rfl).2;exact ⟨g,cap,cur,rfl,e2,(hb.block g hg (by omega)).trans e3,r⟩
theorem Els.slice {α:Type} {T:TypeId} {k:Nat} {R:RelS α} {w:World} {base:Nat} {v:Value} {cells:List Value} {xs:List α} (h:Els T k R w base v cells xs):∃ A c,v=.slice A xs.length c:=by
 rcases h.own.2 with ⟨rfl,hz⟩ | ⟨g,cap,cur,rfl,_⟩
 ·exact ⟨none,0,by rw [hz]⟩
 ·exact ⟨_,_,rfl⟩
theorem Els.push {α:Type} {T:TypeId} {k:Nat} {R:RelS α} (hR:StayS R) {w w0 w':World} {base:Nat} {v v':Value} {cells news:List Value} {xs:List α} {x : α} {f:Nat->Value} (h:Els T k R w base v cells xs) (hw0:Below w.heap.size w w0) (hbw:base<=w.heap.size)
  (hx:R w (fun b=>base<=b/\b<w.heap.size/\v.ownBlock≠some b) f x) (hf:∀ j,j<k->news.getD j undef=f j) (hcong:∀ (W:World) (S:Nat->Prop) (g g':Nat->Value) (y : α),(∀ j,j<k->g j=g' j)->R W S g y->R W S g' y)
  (h1:w'.ownsRow base T k v' (xs.length+1) (cells++news)) (h2:w0.grownBy w' v.ownBlock) (h3:v'.ownBlock=v.ownBlock∨∃ g,v'.ownBlock=some g/\w0.heap.size<=g) :
  Els T k R w' base v' (cells++news) (xs++[x])/\Below base w w':=by
 have hl:=h.own.1;have hs0:=hw0.size;have hs2:=h2.size;have hold:∀ b,Apart base w v b->w'.heap[b]?=w.heap[b]?:=fun b hb=>(h2.block b (by have:=hb.2.1; omega) (fun e=>hb.2.2 e.symm)).trans (hw0.block b hb.2.1);have hset:∀ b,Apart base w v b->Apart base w' v' b:=fun b hb=>⟨hb.1,by have:=hb.2.1; omega,fun e=>by
  rcases h3 with h3 | ⟨g,h3,hg⟩
  ·exact hb.2.2 (h3▸e)
  ·rw [h3] at e; cases e; have:=hb.2.1; omega⟩
 refine ⟨⟨by rw [List.length_append,List.length_singleton]; exact h1,fun i y hy=>?_⟩,⟨h2.os.trans hw0.os,h2.tape.trans hw0.tape,h2.output.trans hw0.output,by omega,fun b hb=>?_⟩⟩
 ·rcases Nat.lt_or_ge i xs.length with hi | hi
  ·rw [List.getElem?_append_left hi] at hy
   refine hcong _ _ _ _ _ (fun j hj=>?_) (hR.kept (h.els i y hy) hold hset)
   have:i*k+j<cells.length:=by rw [hl]; calc i*k+j<i*k+k:=by omega
    _=(i+1)*k:=by rw [Nat.succ_mul]
    _<=xs.length*k:=Nat.mul_le_mul_right _ hi
   simp [List.getD_eq_getElem?_getD,List.getElem?_append_left this]
  ·rw [List.getElem?_append_right hi] at hy
   have h0:i=xs.length:=by
    have:=(List.getElem?_eq_some_iff.1 hy).1;simp at this; omega
   subst h0;simp at hy;subst hy;refine hcong _ _ _ _ _ (fun j hj=>?_) (hR.kept hx hold hset);rw [<- hf j hj,List.getD_eq_getElem?_getD,List.getD_eq_getElem?_getD,List.getElem?_append_right (by omega),show xs.length*k+j-cells.length=j by omega]
 ·rw [h2.block b (by omega) (fun e=>by have:=zf9 h.own e.symm; omega)]
  exact hw0.block b (by omega)
theorem Els.read {α:Type} {T:TypeId} {k bytes:Nat} {R:RelS α} (hR:StayS R) {w:World} {base:Nat} {v:Value} {cells:List Value} {xs:List α} (h:Els T k R w base v cells xs) (hbig:xs.length*bytes<=big):SlS k bytes R w (fun b=>base<=b/\b<w.heap.size) v xs:=by
 have hl:=h.own.1;have hels:∀ i x,xs[i]?=some x->R w (fun b=>base<=b/\b<w.heap.size) (fun j=>cells.getD (i*k+j) undef) x:=fun i x hx=>hR.kept (h.els i x hx) (fun _ _=>rfl) fun b hb=>⟨hb.1,hb.2.1⟩;rcases h.own.2 with ⟨rfl,hz⟩ | ⟨g,cap,cur,rfl,hg1,hg2,hn,r⟩
 ·refine ⟨none,0,by rw [hz],by omega,hbig,fun i j=>cells.getD (i*k+j) undef,fun h0=>by omega,hels⟩
 ·have hlt:=(zf9 h.own (g:=g) rfl).2
  refine ⟨_,cap,rfl,hn,hbig,fun i j=>cells.getD (i*k+j) undef,fun _=>⟨_,rfl,⟨hg1,hlt⟩,fun i hi j hj=>?_⟩,hels⟩
  have hlt2:i*k+j<cells.length:=by rw [hl]; calc i*k+j<i*k+k:=by omega
   _=(i+1)*k:=by rw [Nat.succ_mul]
   _<=xs.length*k:=Nat.mul_le_mul_right _ hi
  have hc:=World.ownsRow.cells h.own (g:=g) rfl (i*k+j) (cells.getD (i*k+j) undef) (by rw [List.getD_eq_getElem?_getD,List.getElem?_eq_getElem hlt2]; rfl);rw [Addr.add_mid,Nat.zero_add] at hc ⊢
  cases j with
  | zero=>exact hc
  | succ j=>exact hc
end Go.Proofs.YtfgelheiknmjgaaGreatDoor

