
/-
 Texts joined: Kit TextChars TextQuote RefText RefQuote.
-/
import Derived.Test.YtfgelheiknmjgaaGreatDoorProg
import Derived.WalkKit
import Derived.ProofKit
import Derived.Outline
import Derived.WalkSpells
import Derived.WalkLawsBesides
import Derived.Deep.QuietTactic
import Derived.BigQuiet
import Derived.StillTailTactics
import Derived.Lib.Hide
import Derived.Lib.Strings
import Derived.Deep.AppendLies
import Derived.Deep.RegionLaw
import Derived.ChangeAlike
set_option maxRecDepth 1000000
set_option maxHeartbeats 8000000
namespace Go
theorem Lh {p : Prop} (h : p) : RowKit.Hid p := h
end Go
namespace Go.Proofs.YtfgelheiknmjgaaGreatDoor.T1
open Go.RowKit
theorem info5:(Tryz.prog.info? 5).map (fun i=>(i.zero,i.size,i.bytes))=some (some (.int .u8 0),1,1):=by kernel_rfl
def OwnB (w:World) (base:Nat) (v:Value) (l:List UInt8):Prop:=w.ownsRow base 5 1 v l.length (l.map fun c=>.int .u8 (c.toNat:Int))
theorem OwnB.alloc {w:World} {base:Nat} {v:Value} {l:List UInt8} (h:OwnB w base v l) (o:Obj):OwnB (w.alloc o) base v l:=World.ownsRow.alloc h o
theorem OwnB.drew {w:World} {base:Nat} {v:Value} {l:List UInt8} (h:OwnB w base v l):OwnB w.drew base v l:=World.ownsRow.drew h
theorem zk6 {w:World} {ops:Array Oper} {rest:List Oper} {o:Oper} {a:Act} {Q:Exit->Act->World->Prop} (hgd:o.guard=none) (s x:Operand)
  (ho:o.op=.call { callee:=.builtin .append,args:=#[s,x],argTypes:=#[73, 73] }) (base:Nat) (v:Value) (l:List UInt8) (hs:a.eval s=v) (hown:OwnB w base v l)
  (ad:Addr) (c:Nat) (news:List UInt8) (hx:a.eval x=.slice (some ad) news.length c) (hnews:∀ j (h:j<news.length),w.cell? (ad.add j)=some (.int .u8 (news[j].toNat:Int)))
  (hlen:l.length+news.length<=70368744177664) (hbase:base<=w.heap.size)
  (h:∀ v' w',OwnB w' base v' (l++news)->w.grownBy w' v.ownBlock->wpList Tryz.prog ops Q rest (a.put o.dst v') w'):wpList Tryz.prog ops Q (o::rest) a w:=by
 obtain ⟨i0,hi,hz0,hz1,hz2⟩:=info_parts info5;refine wpList_append_own w hgd s x 73 ho base 5 i0 (.int .u8 0) 1 1 Tryz.underlying73 hi hz0 hz1 hz2 rfl (by decide) v l.length (l.map fun c:UInt8=>.int .u8 (c.toNat:Int)) hs hown ad news.length c (news.map fun c:UInt8=>.int .u8 (c.toNat:Int)) hx (by simp) ?_ ?_ (by unfold maxLen; omega) (by omega) hbase ?_
 ·intro j u hj
  obtain ⟨h1,h2⟩:=List.getElem?_eq_some_iff.1 hj;have h3:j<news.length:=by simpa using h1
  rw [hnews j h3, <- h2]; simp
 ·intro u hu
  obtain ⟨c,_,rfl⟩:=List.mem_map.1 hu
  rfl
 ·intro v' w' h1 h2 _
  refine h v' w' ?_ h2
  unfold OwnB;rw [List.length_append,List.map_append];exact h1
theorem zr3 (w:World) (xs:Array Value) (t:TypeId) (j:Nat) (h:j<xs.size):(w.alloc (.cells xs t)).cell? ((⟨w.heap.size,0,none⟩ : Addr).add j)=some xs[j]:=by
 have e:(⟨w.heap.size,0,none⟩ : Addr).add j=⟨w.heap.size,j,none⟩:=by
  unfold Addr.add; split <;> simp_all
 rw [e,World.cell?_alloc_at _ _ _ _ rfl,Array.getElem?_eq_getElem h]
theorem zn8 (w:World) (xs:Array Value) (t:TypeId) (news:List UInt8) (hx:xs=(news.map fun c:UInt8=>Value.int .u8 (c.toNat:Int)).toArray) :
  ∀ j (h:j<news.length),(w.alloc (.cells xs t)).cell? ((⟨w.heap.size,0,none⟩ : Addr).add j)=some (.int .u8 (news[j].toNat:Int)):=by
 intro j h;subst hx;rw [zr3 _ _ _ j (by simpa using h)]; simp
def AppB (w:World) (base:Nat) (v:Value) (l:List UInt8) (e:Ending) (w':World):Prop:=∃ v',e=.returned v'/\OwnB w' base v' l/\w.grownBy w' v.ownBlock
theorem AppB.mk {w:World} {base:Nat} {v v':Value} {l:List UInt8} {o:Obj} {w':World} (h1:OwnB w' base v' l) (h2:(w.alloc o).grownBy w' v.ownBlock):AppB w base v l (.returned v') w' :=
 ⟨v',rfl,h1,(World.grownBy_alloc w o _).trans h2⟩
theorem AppB.mk' {w:World} {base:Nat} {v v':Value} {l news:List UInt8} {o:Obj} {w':World} {n:Nat} (h1:w'.ownsRow base 5 1 v' n ((l.map fun c:UInt8=>Value.int .u8 (c.toNat:Int))++news.map fun c:UInt8=>Value.int .u8 (c.toNat:Int))) (h2:(w.alloc o).drew.grownBy w' v.ownBlock) (hn:n=(l++news).length):AppB w base v (l++news) (.returned v') w' :=
 ⟨v',rfl,by subst hn; unfold OwnB; rw [List.map_append]; exact h1,(World.grownBy_alloc w o _).trans ⟨h2.1,h2.2,h2.3,h2.4,h2.5⟩⟩
theorem zt4 (l:List UInt8) (k:Nat) (h:k<l.length):l.take (k+1)=l.take k++[l[k]]:=by
 rw [List.take_succ_eq_append_getElem h]
theorem OwnB.lt {w:World} {base:Nat} {v:Value} {l:List UInt8} (h:OwnB w base v l):∀ k,v.ownBlock=some k->base<=k/\k<w.heap.size:=World.ownsRow.lt h
theorem size_eq (s:ByteArray):s.data.toList.length=s.size:=by rw [Array.length_toList]; rfl
theorem zg0 {s:ByteArray} (h:0<s.size):s.toList≠[]:=by
 rw [Lib.toList_data]; intro e;have:=congrArg List.length e;rw [size_eq,List.length_nil] at this; omega
theorem zh2 {s:ByteArray} (h:0<s.size):s.toList.isEmpty=false:=by
 have:=zg0 h
 cases e:s.toList with
 | nil=>exact absurd e this
 | cons=>rfl
theorem zx7 {s:ByteArray} (h:s.size=0):s.toList=[]:=by
 rw [Lib.toList_data]; have:=size_eq s; exact List.eq_nil_of_length_eq_zero (by omega)
theorem zg9 (c:UInt8):(c.toNat:Int)<=255:=by have:=c.toNat_lt; omega
theorem cells_L (w:World) (xs:Array Value) (t:TypeId) (news:List Value) (hx:xs=news.toArray) :
  ∀ j u,news[j]?=some u->(w.alloc (.cells xs t)).drew.cell? ((⟨w.heap.size,0,none⟩ : Addr).add j)=some u:=by
 intro j u h;obtain ⟨h1,rfl⟩:=List.getElem?_eq_some_iff.1 h;subst hx;have:=zr3 w news.toArray t j (by simpa using h1);simpa using this
theorem yq1 (l:List UInt8):∀ u∈(l.map fun c:UInt8=>Value.int .u8 (c.toNat:Int)),u.oneCell'=true:=by
 intro u hu;obtain ⟨c,_,rfl⟩:=List.mem_map.1 hu
 rfl
theorem u8_ne {c d:UInt8} (h:c≠d):((c.toNat:Int)==(d.toNat:Int))=false:=by
 rw [beq_eq_false_iff_ne]; intro e; exact h (UInt8.toNat_inj.1 (by omega))
theorem OwnB.string {w:World} {base:Nat} {v:Value} {l:List UInt8} (h:OwnB w base v l) (hl:0<l.length) :
  (convert 73 9 v).run Tryz.prog w=.ok (.string ⟨l.toArray⟩) w:=by
 unfold OwnB at h;obtain ⟨g,cap,rfl,hb,hg⟩:=World.ownsRow.form h hl;have hc:=fun j (hj:j<l.length)=>World.ownsRow.cellAt h j (by omega);refine run_convert_bytes_back w 73 9 5 _ cap l Tryz.underlying73 Tryz.underlying5 Tryz.underlying9 ?_
 intro j hj;have e:(⟨g,0,none⟩ : Addr).add j=⟨g,j,none⟩:=by unfold Addr.add; split <;> simp_all
 rw [e,hc j hj]; simp [hj]
def digB (n:Int):Bool:=decide (48<=n)&&decide (n<=57)
def letB (n:Int):Bool:=(decide (97<=n)&&decide (n<=122))||(decide (65<=n)&&decide (n<=90))
def nmB (n:Int):Bool:=letB n||digB n||n==95
theorem ze4 (n:Int) (w:World) (h0:0<=n) (h1:n<=255) :
  Calls Tryz.prog 81 #[.int .u8 n] w fun e w'=>e=.returned (.bool (digB n))/\w=w':=by
 go_enter Tryz.func81,Tryz.ntmps81
 go_wp2
 all_goals go_ret
 all_goals (simp [digB, *]; try omega)
theorem zM6 (n:Int) (w:World) (h0:0<=n) (h1:n<=255) :
  Calls Tryz.prog 140 #[.int .u8 n] w fun e w'=>e=.returned (.bool (letB n))/\w=w':=by
 go_enter Tryz.func140,Tryz.ntmps140
 go_wp2
 all_goals go_ret
 all_goals simp [letB, *]
 all_goals omega
theorem zr8 (n:Int) (w:World) (h0:0<=n) (h1:n<=255) :
  Calls Tryz.prog 82 #[.int .u8 n] w fun e w'=>e=.returned (.bool (nmB n))/\w=w':=by
 go_enter Tryz.func82,Tryz.ntmps82
 go_wp2_with (first | (go_at_call 140; refine (zM6 _ _ (by omega) (by omega)).mono ?_; rintro e w' ⟨rfl,rfl⟩) | (go_at_call 81; refine (ze4 _ _ (by omega) (by omega)).mono ?_; rintro e w' ⟨rfl,rfl⟩))
 all_goals go_ret
 all_goals simp [nmB, *]
def allNm (l:List UInt8):Bool:=l.all fun c=>nmB (c.toNat:Int)
def nameL (l:List UInt8):Bool:=!l.isEmpty&&decide (l.length<=64)&&!digB ((l.getD 0 0).toNat:Int)&&allNm l
def prB (n:Int):Bool:=decide (32<=n)&&decide (n<=126)
theorem zd4 (n:Int) (w:World) (h0:0<=n) (h1:n<=255) :
  Calls Tryz.prog 207 #[.int .u8 n] w fun e w'=>e=.returned (.bool (prB n))/\w=w':=by
 go_enter Tryz.func207,Tryz.ntmps207
 go_wp2
 all_goals go_ret
 all_goals (simp [prB, *]; try omega)
theorem zq7 (l:List UInt8) (p:UInt8->Bool) (k:Nat) (h:k<l.length) (hp:p l[k]=false):l.all p=false:=by
 rw [List.all_eq_false]; exact ⟨l[k],List.getElem_mem h,by simp [hp]⟩
theorem zi2 (l:List UInt8) (p:UInt8->Bool) (k:Nat) (h:k<l.length) (ha:(l.take k).all p=true) (hp:p l[k]=true):(l.take (k+1)).all p=true:=by
 rw [zt4 l k h,List.all_append,ha]; simp [hp]
theorem ya7 (s:ByteArray) (w:World) (h:s.toList=[]) :
  Calls Tryz.prog 39 #[.string s] w fun e w'=>e=.returned (.bool false)/\w=w':=by
 go_enter Tryz.func39,Tryz.ntmps39
 go_wp2_with fail
 go_ret
 exact ⟨rfl,rfl⟩
theorem yk6 (s:ByteArray) (w:World) (hs:s.size<=maxLen) (h:64<s.size) :
  Calls Tryz.prog 39 #[.string s] w fun e w'=>e=.returned (.bool false)/\w=w':=by
 unfold maxLen at hs;have h2:s.toList.isEmpty=false:=zh2 (by omega);have h3:s.toList≠[]:=zg0 (by omega);go_enter Tryz.func39,Tryz.ntmps39
 go_wp2_with fail
 go_ret
 exact ⟨rfl,rfl⟩
theorem ya8 (s:ByteArray) (w:World) (h0:0<s.size) (h:s.size<=64) (hd:digB s[0].toNat=true) :
  Calls Tryz.prog 39 #[.string s] w fun e w'=>e=.returned (.bool false)/\w=w':=by
 have h2:s.toList.isEmpty=false:=zh2 (by omega);have h3:s.toList≠[]:=zg0 (by omega);have hb:=zg9 s[0];go_enter Tryz.func39,Tryz.ntmps39;go_wp2_with (go_at_call 81; refine (ze4 _ _ (by omega) (by omega)).mono ?_; rintro e w' ⟨rfl,rfl⟩)
 go_ret
 exact ⟨rfl,rfl⟩
theorem yk5 (s:ByteArray) (w:World) (h0:0<s.size) (h:s.size<=64) (hd:digB s[0].toNat=false) :
  Calls Tryz.prog 39 #[.string s] w fun e w'=>e=.returned (.bool (allNm s.data.toList))/\w=w':=by
 have h2:s.toList.isEmpty=false:=zh2 (by omega);have h3:s.toList≠[]:=zg0 (by omega);have hb:=zg9 s[0];go_enter Tryz.func39,Tryz.ntmps39;go_wp2_with (go_at_call 81; refine (ze4 _ _ (by omega) (by omega)).mono ?_; rintro e w' ⟨rfl,rfl⟩)
 go_loop [3] (fun i=>∃ k:Nat,k<=s.size/\i=.int .i64 k/\(s.data.toList.take k).all (fun c=>nmB (c.toNat:Int))=true) (fun i=>s.size-(intOf i).toNat)
 case atStart=>exact ⟨0,Nat.zero_le _,rfl,rfl⟩
 case round =>
  obtain ⟨k,hk,rfl,hall⟩:=hrel;have HA:=Lh hall;clear hall;by_cases hlt:k<s.size
  ·have hbk:=zg9 s[k]
   have e:s.data.toList[k]'(by simpa using hlt)=s[k]:=rfl;cases hn:nmB (s[k].toNat:Int)
   ·have H1:Hid (allNm s.data.toList=false):=Lh (zq7 s.data.toList (fun c=>nmB (c.toNat:Int)) k (by simpa using hlt) hn)
    clear e;go_wp2_with (go_at_call 82; refine (zr8 _ _ (by omega) (by omega)).mono ?_; rintro e w' ⟨rfl,rfl⟩);go_ret
    exact ⟨by rw [H1.out]; rfl,rfl⟩
   ·have H1:=Lh (zi2 s.data.toList (fun c=>nmB (c.toNat:Int)) k (by simpa using hlt) HA.out hn)
    clear e;go_wp2_with (go_at_call 82; refine (zr8 _ _ (by omega) (by omega)).mono ?_; rintro e w' ⟨rfl,rfl⟩)
    go_round
    case rel=>exact ⟨k+1,by omega,by go_num,H1.out⟩
    case measure=>simp [intOf]; omega
  ·have H1:Hid (allNm s.data.toList=true):=by
    have:=HA.out;rw [List.take_of_length_le (by simp; omega)] at this;exact Lh this
   go_wp2
   go_ret
   exact ⟨by rw [H1.out]; rfl,rfl⟩
theorem name_any (s:ByteArray) (w:World) (hs:s.size<=maxLen) :
  Calls Tryz.prog 39 #[.string s] w fun e w'=>e=.returned (.bool (nameL s.data.toList))/\w=w':=by
 have hl:=size_eq s;by_cases h0:s.size=0
 ·have e:s.data.toList=[]:=List.eq_nil_of_length_eq_zero (by omega)
  rw [e]; exact ya7 s w (zx7 h0)
 have hne:s.data.toList.isEmpty=false:=by
  rw [<- Lib.toList_data]; exact zh2 (by omega)
 by_cases h1:64<s.size
 ·have e:nameL s.data.toList=false:=by unfold nameL; rw [hl]; simp; omega
  rw [e]; exact yk6 s w hs h1
 have e0:s.data.toList.getD 0 0=s[0]'(by omega):=by
  rw [List.getD_eq_getElem?_getD,List.getElem?_eq_getElem (by omega)]; rfl
 cases hd:digB ((s[0]'(by omega)).toNat:Int)
 ·have e:nameL s.data.toList=allNm s.data.toList:=by
   unfold nameL; rw [e0,hd,hne,hl]; simp; omega
  rw [e]; exact yk5 s w (by omega) (by omega) hd
 ·have e:nameL s.data.toList=false:=by unfold nameL; rw [e0,hd]; simp
  rw [e]; exact ya8 s w (by omega) (by omega) hd
def hexL:List UInt8:=[48,49,50,51,52,53,54,55,56,57,97,98,99,100,101,102]
def hexC (n:Nat):UInt8:=hexL.getD n 0
def escL (c:UInt8):List UInt8 :=
 if c=34 then [92,34] else if c=92 then [92,92] else if c=10 then [92,110] else if c=13 then [92,114] else if c=9 then [92,116]
 else if prB (c.toNat:Int) then [c] else [92,117,48,48,hexC (c.toNat / 16),hexC (c.toNat % 16)]
theorem aq_quote (v:Value) (l:List UInt8) (w:World) (base:Nat) (hown:OwnB w base v l) (hl:l.length<=17592186044416) (hbase:base<=w.heap.size) :
  Calls Tryz.prog 174 #[v,.int .u8 34] w (AppB w base v (l++[92,34])):=by
 go_enter Tryz.func174,Tryz.ntmps174
 go_wp2_with (at_builtin; refine zk6 rfl _ _ rfl base v l rfl (hown.alloc _) _ _ [92,34] rfl ?_ ?_ ?_ ?_)
 ·exact zn8 _ _ _ [92,34] rfl
 ·simp; omega
 ·simp; omega
 ·intro v' w' h1 h2
  go_wp2
  go_ret
  exact AppB.mk h1 h2
theorem aq_back (v:Value) (l:List UInt8) (w:World) (base:Nat) (hown:OwnB w base v l) (hl:l.length<=17592186044416) (hbase:base<=w.heap.size) :
  Calls Tryz.prog 174 #[v,.int .u8 92] w (AppB w base v (l++[92,92])):=by
 go_enter Tryz.func174,Tryz.ntmps174
 go_wp2_with (at_builtin; refine zk6 rfl _ _ rfl base v l rfl (hown.alloc _) _ _ [92,92] rfl ?_ ?_ ?_ ?_)
 ·exact zn8 _ _ _ [92,92] rfl
 ·simp; omega
 ·simp; omega
 ·intro v' w' h1 h2
  go_wp2
  go_ret
  exact AppB.mk h1 h2
theorem aq_line (v:Value) (l:List UInt8) (w:World) (base:Nat) (hown:OwnB w base v l) (hl:l.length<=17592186044416) (hbase:base<=w.heap.size) :
  Calls Tryz.prog 174 #[v,.int .u8 10] w (AppB w base v (l++[92,110])):=by
 go_enter Tryz.func174,Tryz.ntmps174
 go_wp2_with (at_builtin; refine zk6 rfl _ _ rfl base v l rfl (hown.alloc _) _ _ [92,110] rfl ?_ ?_ ?_ ?_)
 ·exact zn8 _ _ _ [92,110] rfl
 ·simp; omega
 ·simp; omega
 ·intro v' w' h1 h2
  go_wp2
  go_ret
  exact AppB.mk h1 h2
theorem aq_ret (v:Value) (l:List UInt8) (w:World) (base:Nat) (hown:OwnB w base v l) (hl:l.length<=17592186044416) (hbase:base<=w.heap.size) :
  Calls Tryz.prog 174 #[v,.int .u8 13] w (AppB w base v (l++[92,114])):=by
 go_enter Tryz.func174,Tryz.ntmps174
 go_wp2_with (at_builtin; refine zk6 rfl _ _ rfl base v l rfl (hown.alloc _) _ _ [92,114] rfl ?_ ?_ ?_ ?_)
 ·exact zn8 _ _ _ [92,114] rfl
 ·simp; omega
 ·simp; omega
 ·intro v' w' h1 h2
  go_wp2
  go_ret
  exact AppB.mk h1 h2
theorem aq_tab (v:Value) (l:List UInt8) (w:World) (base:Nat) (hown:OwnB w base v l) (hl:l.length<=17592186044416) (hbase:base<=w.heap.size) :
  Calls Tryz.prog 174 #[v,.int .u8 9] w (AppB w base v (l++[92,116])):=by
 go_enter Tryz.func174,Tryz.ntmps174
 go_wp2_with (at_builtin; refine zk6 rfl _ _ rfl base v l rfl (hown.alloc _) _ _ [92,116] rfl ?_ ?_ ?_ ?_)
 ·exact zn8 _ _ _ [92,116] rfl
 ·simp; omega
 ·simp; omega
 ·intro v' w' h1 h2
  go_wp2
  go_ret
  exact AppB.mk h1 h2
theorem aq_plain (c:UInt8) (v:Value) (l:List UInt8) (w:World) (base:Nat) (hown:OwnB w base v l) (hl:l.length<=17592186044416) (hbase:base<=w.heap.size)
  (h1:c≠34) (h2:c≠92) (h3:c≠10) (h4:c≠13) (h5:c≠9) (hp:prB (c.toNat:Int)=true) :
  Calls Tryz.prog 174 #[v,.int .u8 c.toNat] w (AppB w base v (l++[c])):=by
 have hb:=zg9 c;have g1:((c.toNat:Int)==34)=false:=u8_ne h1;have g2:((c.toNat:Int)==92)=false:=u8_ne h2;have g3:((c.toNat:Int)==10)=false:=u8_ne h3;have g4:((c.toNat:Int)==13)=false:=u8_ne h4;have g5:((c.toNat:Int)==9)=false:=u8_ne h5;go_enter Tryz.func174,Tryz.ntmps174;go_wp2_with (first | (go_at_call 207; refine (zd4 _ _ (by omega) (by omega)).mono ?_; rintro e w' ⟨rfl,rfl⟩) | (at_builtin; refine zk6 rfl _ _ rfl base v l rfl (hown.alloc _) _ _ [c] rfl ?_ ?_ ?_ ?_))
 ·exact zn8 _ _ _ [c] rfl
 ·simp; omega
 ·simp; omega
 ·intro v' w' h1 h2
  go_wp2
  go_ret
  exact AppB.mk h1 h2
theorem hex_at (k n:Nat) (e:k=n) (h:k<(⟨#[48,49,50,51,52,53,54,55,56,57,97,98,99,100,101,102]⟩ : ByteArray).size) :
  (⟨#[48,49,50,51,52,53,54,55,56,57,97,98,99,100,101,102]⟩ : ByteArray)[k]'h=hexC n:=by
 subst e;have h':k<16:=h;have:∀ k,(h:k<16)->(⟨#[48,49,50,51,52,53,54,55,56,57,97,98,99,100,101,102]⟩ : ByteArray)[k]'h=hexC k:=by decide +kernel
 exact this k h'
theorem yb9 (c:UInt8):bits BinOp.and IntKind.u8 (c.toNat:Int) 15=(c.toNat:Int) % 16:=by
 have:∀ c:Fin 256,bits BinOp.and IntKind.u8 ((UInt8.ofNat c.val).toNat:Int) 15=((UInt8.ofNat c.val).toNat:Int) % 16:=by decide +kernel
 have h:=this ⟨c.toNat,c.toNat_lt⟩;simpa using h
theorem aq_hex (c:UInt8) (v:Value) (l:List UInt8) (w:World) (base:Nat) (hown:OwnB w base v l) (hl:l.length<=17592186044416) (hbase:base<=w.heap.size)
  (h1:c≠34) (h2:c≠92) (h3:c≠10) (h4:c≠13) (h5:c≠9) (hp:prB (c.toNat:Int)=false) :
  Calls Tryz.prog 174 #[v,.int .u8 c.toNat] w (AppB w base v (l++[92,117,48,48,hexC (c.toNat / 16),hexC (c.toNat % 16)])):=by
 have hb:=zg9 c;have g1:((c.toNat:Int)==34)=false:=u8_ne h1;have g2:((c.toNat:Int)==92)=false:=u8_ne h2;have g3:((c.toNat:Int)==10)=false:=u8_ne h3;have g4:((c.toNat:Int)==13)=false:=u8_ne h4;have g5:((c.toNat:Int)==9)=false:=u8_ne h5;have hI1:0<=(c.toNat:Int) / 16:=by omega
 have hI2:(c.toNat:Int) / 16<16:=by omega
 have hI3:0<=(c.toNat:Int) % 16:=by omega
 have hI4:(c.toNat:Int) % 16<16:=by omega
 have hbt:bits BinOp.and IntKind.u8 (c.toNat:Int) 15=(c.toNat:Int) % 16:=yb9 c;have x1:∀ h,(⟨#[48,49,50,51,52,53,54,55,56,57,97,98,99,100,101,102]⟩ : ByteArray)[((c.toNat:Int) / 16).toNat]'h=hexC (c.toNat / 16):=fun h=>hex_at _ _ (by omega) h;have x2:∀ h,(⟨#[48,49,50,51,52,53,54,55,56,57,97,98,99,100,101,102]⟩ : ByteArray)[((c.toNat:Int) % 16).toNat]'h=hexC (c.toNat % 16):=fun h=>hex_at _ _ (by omega) h;obtain ⟨i0,hi,hz0,hz1,hz2⟩:=info_parts info5;go_enter Tryz.func174,Tryz.ntmps174;go_wp2_with (go_at_call 207; refine (zd4 _ _ (by omega) (by omega)).mono ?_; rintro e w' ⟨rfl,rfl⟩)
 go_region_law ((refine step_append_lies _ rfl (.tmp 41) (.tmp 48) 73 rfl base 5 i0 (.int .u8 0) 1 1 Tryz.underlying73 hi hz0 hz1 hz2 rfl (by decide) v l.length (l.map fun c:UInt8=>.int .u8 (c.toNat:Int)) rfl (hown.alloc _).drew _ 6 _ ([92,117,48,48,hexC (c.toNat / 16),hexC (c.toNat % 16)].map fun c:UInt8=>.int .u8 (c.toNat:Int)) rfl (by simp) (cells_L _ _ _ _ rfl) (yq1 _) (by decide) (by unfold maxLen; omega) (by omega) (by simp; omega) _ rfl ?_); intro g cap w1 h1 h2 h3 h4)
 all_goals
  go_wp2
  go_ret
  exact AppB.mk' h1 h2 (by simp)
theorem aq_any (c:UInt8) (v:Value) (l:List UInt8) (w:World) (base:Nat) (hown:OwnB w base v l) (hl:l.length<=17592186044416) (hbase:base<=w.heap.size) :
  Calls Tryz.prog 174 #[v,.int .u8 c.toNat] w (AppB w base v (l++escL c)):=by
 unfold escL;by_cases h1:c=34
 ·subst h1; exact aq_quote v l w base hown hl hbase
 by_cases h2:c=92
 ·subst h2; exact aq_back v l w base hown hl hbase
 by_cases h3:c=10
 ·subst h3; exact aq_line v l w base hown hl hbase
 by_cases h4:c=13
 ·subst h4; exact aq_ret v l w base hown hl hbase
 by_cases h5:c=9
 ·subst h5; exact aq_tab v l w base hown hl hbase
 rw [if_neg h1,if_neg h2,if_neg h3,if_neg h4,if_neg h5];cases hp:prB (c.toNat:Int)
 ·exact aq_hex c v l w base hown hl hbase h1 h2 h3 h4 h5 hp
 ·exact aq_plain c v l w base hown hl hbase h1 h2 h3 h4 h5 hp
def zj4 (l:List UInt8):List UInt8:=34::l.flatMap escL++[34]
theorem esc_len (c:UInt8):(escL c).length<=6:=by (unfold escL; repeat' split) <;> simp
theorem zV4 (l:List UInt8):(l.flatMap escL).length<=6*l.length:=by
 induction l with
 | nil=>simp
 | cons c l ih=>simp only [List.flatMap_cons,List.length_append,List.length_cons]; have:=esc_len c; omega
theorem yh1 (s:ByteArray) (w:World) (hs:s.size<=1099511627776) :
  Calls Tryz.prog 126 #[.string s] w fun e w'=>e=.returned (.string ⟨(zj4 s.data.toList).toArray⟩)/\Below w.heap.size w w':=by
 obtain ⟨i0,hi,hz0,hz1,hz2⟩:=info_parts info5;go_enter Tryz.func126,Tryz.ntmps126;go_wp2_with (refine wpList_make_own _ rfl _ _ 73 rfl w.heap.size 5 i0 (.int .u8 0) 1 Tryz.underlying73 hi hz0 hz1 _ _ _ (s.size+2) rfl rfl rfl ?_ ?_ ?_ ?_)
 ·rw [hz2]; omega
 ·unfold maxLen; omega
 ·exact Nat.le_refl _
 intro w1 hown1 hg1;have hown1:OwnB w1 w.heap.size _ []:=hown1;have hb1:Below w.heap.size w w1:=(Below.refl _ _).grown hg1 (Nat.le_refl _) (by simp);have hs1:=hb1.size;clear hg1;go_wp2_with (at_builtin; refine zk6 rfl _ _ rfl w.heap.size _ _ rfl (hown1.alloc _) _ _ [34] rfl (zn8 _ _ _ [34] rfl) (by simp) ?_ ?_)
 ·simp; omega
 intro v2 w2 hown2 hg2;have hb2:Below w.heap.size w w2:=(hb1.alloc hs1 _).grown hg2 (by simp; omega) (by intro k hk; have:=hown1.lt k hk; omega);clear hg2 hown1 hb1 hs1;have hs2:=hb2.size
 go_wp2
 go_loopw [3,4] (fun v i wr=>∃ k:Nat,k<=s.size/\i=.int .i64 k/\OwnB wr w.heap.size v (34::(s.data.toList.take k).flatMap escL)/\Below w.heap.size w wr) (fun _ i _=>s.size-(intOf i).toNat)
 case atStart=>exact ⟨0,Nat.zero_le _,rfl,hown2,hb2⟩
 case round =>
  obtain ⟨k,hk,rfl,hown,hb⟩:=hrel;have hsz:=hb.size;have hfl:=zV4 (s.data.toList.take k);have htl:(s.data.toList.take k).length<=k:=List.length_take_le _ _;clear hown2 hb2 hs2;by_cases hlt:k<s.size
  ·have H1:=Lh (zt4 s.data.toList k (by simpa using hlt))
   go_wp2_with (go_at_call 174; refine (aq_any _ _ _ _ _ hown ?_ hsz).mono ?_)
   ·rw [List.length_cons]; omega
   rintro e w3 ⟨v3,rfl,hown3,hg3⟩
   go_wp2
   go_roundw
   case rel =>
    refine ⟨k+1,by omega,by go_num, ?_,hb.grown hg3 hsz (by intro j hj; have:=hown.lt j hj; omega)⟩
    rw [H1.out,List.flatMap_append];simp only [List.flatMap_cons,List.flatMap_nil,List.append_nil];exact hown3
   case measure=>simp [intOf]; omega
  ·have e:s.data.toList.take k=s.data.toList:=List.take_of_length_le (by simp; omega)
   rw [e] at hown hfl;clear e;go_wp2_with (at_builtin; refine zk6 rfl _ _ rfl w.heap.size _ _ rfl (hown.alloc _) _ _ [34] rfl (zn8 _ _ _ [34] rfl) ?_ ?_ ?_)
   ·have e2:s.data.toList.length=s.size:=by rw [Array.length_toList]; rfl
    simp only [List.length_cons,List.length_nil]; omega
   ·simp; omega
   intro v3 w3 hown3 hg3;have hcv:=hown3.string (by simp);have hb3:Below w.heap.size w w3:=(hb.alloc hsz _).grown hg3 (by simp; omega) (by intro j hj; have:=hown.lt j hj; omega);clear hg3 hown3 hown hb hsz
   go_wp2
   go_ret
   exact ⟨by simp [zj4],hb3⟩
def letU (n:Int):Bool:=letB n||n==95
theorem zi7 (n:Int) (w:World) (h0:0<=n) (h1:n<=255) :
  Calls Tryz.prog 94 #[.int .u8 n] w fun e w'=>e=.returned (.bool (digB n))/\w=w':=by
 go_enter Tryz.func94,Tryz.ntmps94
 go_wp2
 all_goals go_ret
 all_goals (simp [digB, *]; try omega)
theorem ze3 (n:Int) (w:World) (h0:0<=n) (h1:n<=255) :
  Calls Tryz.prog 93 #[.int .u8 n] w fun e w'=>e=.returned (.bool (letU n))/\w=w':=by
 go_enter Tryz.func93,Tryz.ntmps93
 go_wp2
 all_goals go_ret
 all_goals refine ⟨congrArg Ending.returned (congrArg Value.bool ?_),rfl⟩
 all_goals (rw [Bool.eq_iff_iff]; simp [letU,letB, *]; try omega)
theorem zs9 (s:ByteArray) (w:World) (h:s.size=0) :
  Calls Tryz.prog 42 #[.string s] w fun e w'=>e=.returned (.bool false)/\w=w':=by
 have h':(s.size:Int)<1:=by omega
 clear h;go_enter Tryz.func42,Tryz.ntmps42;go_wp2_with fail
 go_ret
 exact ⟨rfl,rfl⟩
theorem zw6 (s:ByteArray) (w:World) (hs:s.size<=maxLen) (h:64<s.size) :
  Calls Tryz.prog 42 #[.string s] w fun e w'=>e=.returned (.bool false)/\w=w':=by
 unfold maxLen at hs;go_enter Tryz.func42,Tryz.ntmps42;go_wp2_with fail
 go_ret
 exact ⟨rfl,rfl⟩
theorem nm_of (n:Int):nmB n=(letU n||digB n):=by unfold nmB letU; cases letB n <;> cases digB n <;> simp
def zq8 (l:List UInt8) (k:Nat):Prop:=allNm (l.take k)=true/\(0<k->digB ((l.getD 0 0).toNat:Int)=false)
theorem zt1 (l:List UInt8):zq8 l 0:=⟨rfl,fun h=>absurd h (by omega)⟩
theorem zm1 {l:List UInt8} {k:Nat} (h:zq8 l k) (hk:k<l.length) (h1:nmB (l[k].toNat:Int)=true) (h2:k=0->digB (l[k].toNat:Int)=false):zq8 l (k+1):=by
 refine ⟨zi2 l (fun c=>nmB (c.toNat:Int)) k hk h.1 h1,fun _=>?_⟩
 by_cases e:k=0
 ·subst e; rw [List.getD_eq_getElem?_getD,List.getElem?_eq_getElem hk]; exact h2 rfl
 ·exact h.2 (by omega)
theorem zw9 {l:List UInt8} (h:zq8 l l.length) (h0:0<l.length) (h1:l.length<=64):nameL l=true:=by
 unfold nameL;have e:=h.1;rw [List.take_length] at e;rw [h.2 h0,e]
 cases l with
 | nil=>simp at h0
 | cons a l=>simp at h1 ⊢; omega
theorem zw7 {l:List UInt8} {k:Nat} (hk:k<l.length) (h:nmB (l[k].toNat:Int)=false):nameL l=false:=by
 unfold nameL;rw [show allNm l=false from zq7 l (fun c=>nmB (c.toNat:Int)) k hk h]; simp
theorem zp6 {l:List UInt8} (hk:0<l.length) (h:digB (l[0].toNat:Int)=true):nameL l=false:=by
 unfold nameL;rw [List.getD_eq_getElem?_getD,List.getElem?_eq_getElem hk,Option.getD_some,h]; simp
theorem zw5 (s:ByteArray) (w:World) (h0:0<s.size) (h:s.size<=64) :
  Calls Tryz.prog 42 #[.string s] w fun e w'=>e=.returned (.bool (nameL s.data.toList))/\w=w':=by
 have hl:=Lh (size_eq s);go_enter Tryz.func42,Tryz.ntmps42;go_wp2_with fail
 go_loop [3] (fun i=>∃ k:Nat,k<=s.size/\i=.int .i64 k/\zq8 s.data.toList k) (fun i=>s.size-(intOf i).toNat)
 case atStart=>exact ⟨0,Nat.zero_le _,rfl,zt1 _⟩
 case round =>
  obtain ⟨k,hk,rfl,hH⟩:=hrel;by_cases hlt:k<s.size
  ·have hbk:=zg9 s[k]
   have hlk:k<s.data.toList.length:=by rw [hl.out]; exact hlt
   cases n1:letU (s[k].toNat:Int)
   ·cases n2:digB (s[k].toNat:Int)
    ·have H2:Hid (nameL s.data.toList=false):=Lh (zw7 hlk (by show nmB (s[k].toNat:Int)=false; rw [nm_of,n1,n2]; rfl))
     go_wp2_with (first | (go_at_call 93; refine (ze3 _ _ (by omega) (by omega)).mono ?_; rintro e w' ⟨rfl,rfl⟩) | (go_at_call 94; refine (zi7 _ _ (by omega) (by omega)).mono ?_; rintro e w' ⟨rfl,rfl⟩))
     all_goals go_ret
     all_goals exact ⟨by rw [H2.out]; rfl,rfl⟩
    ·by_cases hd:k=0
     ·subst hd
      have H2:Hid (nameL s.data.toList=false):=Lh (zp6 hlk n2);go_wp2_with (first | (go_at_call 93; refine (ze3 _ _ (by omega) (by omega)).mono ?_; rintro e w' ⟨rfl,rfl⟩) | (go_at_call 94; refine (zi7 _ _ (by omega) (by omega)).mono ?_; rintro e w' ⟨rfl,rfl⟩))
      all_goals go_ret
      all_goals exact ⟨by rw [H2.out]; rfl,rfl⟩
     ·have hd':((k:Int)==0)=false:=by rw [beq_eq_false_iff_ne]; omega
      have H3:=Lh (zm1 hH hlk (by show nmB (s[k].toNat:Int)=true; rw [nm_of,n1,n2]; rfl) (fun e=>absurd e hd));clear hH;go_wp2_with (first | (go_at_call 93; refine (ze3 _ _ (by omega) (by omega)).mono ?_; rintro e w' ⟨rfl,rfl⟩) | (go_at_call 94; refine (zi7 _ _ (by omega) (by omega)).mono ?_; rintro e w' ⟨rfl,rfl⟩))
      go_round
      case rel=>exact ⟨k+1,by omega,by go_num,H3.out⟩
      case measure=>simp [intOf]; omega
   ·have hnd:digB (s[k].toNat:Int)=false:=by
     unfold letU letB at n1; unfold digB; simp at n1 ⊢; omega
    have H3:=Lh (zm1 hH hlk (by show nmB (s[k].toNat:Int)=true; rw [nm_of,n1]; rfl) (fun _=>hnd));clear hH hnd;go_wp2_with (go_at_call 93; refine (ze3 _ _ (by omega) (by omega)).mono ?_; rintro e w' ⟨rfl,rfl⟩)
    go_round
    case rel=>exact ⟨k+1,by omega,by go_num,H3.out⟩
    case measure=>simp [intOf]; omega
  ·obtain rfl:k=s.size:=by omega
   have H1:Hid (nameL s.data.toList=true):=Lh (zw9 (by rw [hl.out]; exact hH) (by rw [hl.out]; exact h0) (by rw [hl.out]; exact h))
   go_wp2
   go_ret
   exact ⟨by rw [H1.out]; rfl,rfl⟩
theorem zd8 (s:ByteArray) (w:World) (hs:s.size<=maxLen) :
  Calls Tryz.prog 42 #[.string s] w fun e w'=>e=.returned (.bool (nameL s.data.toList))/\w=w':=by
 have hl:=size_eq s;by_cases h0:s.size=0
 ·have e:s.data.toList=[]:=List.eq_nil_of_length_eq_zero (by omega)
  rw [e]; exact zs9 s w h0
 by_cases h1:64<s.size
 ·have e:nameL s.data.toList=false:=by unfold nameL; rw [hl]; simp; omega
  rw [e]; exact zw6 s w hs h1
 exact zw5 s w (by omega) (by omega)
theorem hp2:∀ (l:List UInt8) (h:2<=l.length),Lib.hasPrefix l [95,95]=(((l[0]'(by omega)).toNat:Int)==95&&((l[1]'(by omega)).toNat:Int)==95)
 | a::b::r,_=>by
   unfold Lib.hasPrefix;rw [Bool.eq_iff_iff];simp only [List.isPrefixOf,Bool.and_true,Bool.and_eq_true,beq_iff_eq,List.getElem_cons_zero,List.getElem_cons_succ]
   constructor
   ·rintro ⟨rfl,rfl⟩; exact ⟨rfl,rfl⟩
   ·rintro ⟨ha,hb⟩
    exact ⟨(UInt8.toNat_inj.1 (by have:(95:UInt8).toNat=95:=rfl; omega)).symm,(UInt8.toNat_inj.1 (by have:(95:UInt8).toNat=95:=rfl; omega)).symm⟩
 | [_],h=>absurd h (by simp)
 | [],h=>absurd h (by simp)
end Go.Proofs.YtfgelheiknmjgaaGreatDoor.T1

