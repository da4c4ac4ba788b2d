
/-
 Texts joined: Kit TextChars TextQuote RefText RefQuote TextUnquote.
-/
import Derived.Test.YtfgelheiknmjgaaGreatDoorProg
import Derived.WalkKit
import Derived.ProofKit
import Derived.Outline
import Derived.WalkSpells
import Derived.WalkLawsBesides
import Derived.Deep.QuietTactic
import Derived.BigQuiet
import Derived.StillTailTactics
import Derived.Lib.Hide
import Derived.Lib.Strings
import Derived.Deep.AppendLies
import Derived.Deep.RegionLaw
import Derived.ChangeAlike
set_option maxRecDepth 1000000
set_option maxHeartbeats 8000000
namespace Go
theorem Lh {p : Prop} (h : p) : RowKit.Hid p := h
end Go
namespace Go.Proofs.YtfgelheiknmjgaaGreatDoor.T1
open Go.RowKit
theorem info5:(Tryz.prog.info? 5).map (fun i=>(i.zero,i.size,i.bytes))=some (some (.int .u8 0),1,1):=by kernel_rfl
def OwnB (w:World) (base:Nat) (v:Value) (l:List UInt8):Prop:=w.ownsRow base 5 1 v l.length (l.map fun c=>.int .u8 (c.toNat:Int))
theorem OwnB.alloc {w:World} {base:Nat} {v:Value} {l:List UInt8} (h:OwnB w base v l) (o:Obj):OwnB (w.alloc o) base v l:=World.ownsRow.alloc h o
theorem append_B {w:World} {ops:Array Oper} {rest:List Oper} {o:Oper} {a:Act} {Q:Exit->Act->World->Prop} (hgd:o.guard=none) (s x:Operand)
  (ho:o.op=.call { callee:=.builtin .append,args:=#[s,x],argTypes:=#[73, 73] }) (base:Nat) (v:Value) (l:List UInt8) (hs:a.eval s=v) (hown:OwnB w base v l)
  (ad:Addr) (c:Nat) (news:List UInt8) (hx:a.eval x=.slice (some ad) news.length c) (hnews:∀ j (h:j<news.length),w.cell? (ad.add j)=some (.int .u8 (news[j].toNat:Int)))
  (hlen:l.length+news.length<=70368744177664) (hbase:base<=w.heap.size)
  (h:∀ v' w',OwnB w' base v' (l++news)->w.grownBy w' v.ownBlock->wpList Tryz.prog ops Q rest (a.put o.dst v') w'):wpList Tryz.prog ops Q (o::rest) a w:=by
 obtain ⟨i0,hi,hz0,hz1,hz2⟩:=info_parts info5;refine wpList_append_own w hgd s x 73 ho base 5 i0 (.int .u8 0) 1 1 Tryz.underlying73 hi hz0 hz1 hz2 rfl (by decide) v l.length (l.map fun c:UInt8=>.int .u8 (c.toNat:Int)) hs hown ad news.length c (news.map fun c:UInt8=>.int .u8 (c.toNat:Int)) hx (by simp) ?_ ?_ (by unfold maxLen; omega) (by omega) hbase ?_
 ·intro j u hj
  obtain ⟨h1,h2⟩:=List.getElem?_eq_some_iff.1 hj;have h3:j<news.length:=by simpa using h1
  rw [hnews j h3, <- h2]; simp
 ·intro u hu
  obtain ⟨c,_,rfl⟩:=List.mem_map.1 hu
  rfl
 ·intro v' w' h1 h2 _
  refine h v' w' ?_ h2
  unfold OwnB;rw [List.length_append,List.map_append];exact h1
theorem zr9 (w:World) (xs:Array Value) (t:TypeId) (j:Nat) (h:j<xs.size):(w.alloc (.cells xs t)).cell? ((⟨w.heap.size,0,none⟩ : Addr).add j)=some xs[j]:=by
 have e:(⟨w.heap.size,0,none⟩ : Addr).add j=⟨w.heap.size,j,none⟩:=by
  unfold Addr.add; split <;> simp_all
 rw [e,World.cell?_alloc_at _ _ _ _ rfl,Array.getElem?_eq_getElem h]
theorem yi9 (w:World) (xs:Array Value) (t:TypeId) (news:List UInt8) (hx:xs=(news.map fun c:UInt8=>Value.int .u8 (c.toNat:Int)).toArray) :
  ∀ j (h:j<news.length),(w.alloc (.cells xs t)).cell? ((⟨w.heap.size,0,none⟩ : Addr).add j)=some (.int .u8 (news[j].toNat:Int)):=by
 intro j h;subst hx;rw [zr9 _ _ _ j (by simpa using h)]; simp
def AppB (w:World) (base:Nat) (v:Value) (l:List UInt8) (e:Ending) (w':World):Prop:=∃ v',e=.returned v'/\OwnB w' base v' l/\w.grownBy w' v.ownBlock
theorem zq1 (l:List UInt8) (k:Nat) (h:k<l.length):l.take (k+1)=l.take k++[l[k]]:=by
 rw [List.take_succ_eq_append_getElem h]
theorem OwnB.lt {w:World} {base:Nat} {v:Value} {l:List UInt8} (h:OwnB w base v l):∀ k,v.ownBlock=some k->base<=k/\k<w.heap.size:=World.ownsRow.lt h
theorem size_eq (s:ByteArray):s.data.toList.length=s.size:=by rw [Array.length_toList]; rfl
theorem zd5 {s:ByteArray} (h:0<s.size):s.toList≠[]:=by
 rw [Lib.toList_data]; intro e;have:=congrArg List.length e;rw [size_eq,List.length_nil] at this; omega
theorem zc8 {s:ByteArray} (h:0<s.size):s.toList.isEmpty=false:=by
 have:=zd5 h
 cases e:s.toList with
 | nil=>exact absurd e this
 | cons=>rfl
theorem zr2 {s:ByteArray} (h:s.size=0):s.toList=[]:=by
 rw [Lib.toList_data]; have:=size_eq s; exact List.eq_nil_of_length_eq_zero (by omega)
theorem ze3 (c:UInt8):(c.toNat:Int)<=255:=by have:=c.toNat_lt; omega
theorem u8_ne {c d:UInt8} (h:c≠d):((c.toNat:Int)==(d.toNat:Int))=false:=by
 rw [beq_eq_false_iff_ne]; intro e; exact h (UInt8.toNat_inj.1 (by omega))
theorem OwnB.string {w:World} {base:Nat} {v:Value} {l:List UInt8} (h:OwnB w base v l) (hl:0<l.length) :
  (convert 73 9 v).run Tryz.prog w=.ok (.string ⟨l.toArray⟩) w:=by
 unfold OwnB at h;obtain ⟨g,cap,rfl,hb,hg⟩:=World.ownsRow.form h hl;have hc:=fun j (hj:j<l.length)=>World.ownsRow.cellAt h j (by omega)
 refine run_convert_bytes_back w 73 9 5 _ cap l Tryz.underlying73 Tryz.underlying5 Tryz.underlying9 ?_
 intro j hj;have e:(⟨g,0,none⟩ : Addr).add j=⟨g,j,none⟩:=by unfold Addr.add; split <;> simp_all
 rw [e,hc j hj]; simp [hj]
def digB (n:Int):Bool:=decide (48<=n)&&decide (n<=57)
def letB (n:Int):Bool:=(decide (97<=n)&&decide (n<=122))||(decide (65<=n)&&decide (n<=90))
def nmB (n:Int):Bool:=letB n||digB n||n==95
theorem zc0 (n:Int) (w:World) (h0:0<=n) (h1:n<=255) :
  Calls Tryz.prog 81 #[.int .u8 n] w fun e w'=>e=.returned (.bool (digB n))/\w=w':=by
 go_enter Tryz.func81,Tryz.ntmps81
 go_wp2
 all_goals go_ret
 all_goals (simp [digB, *]; try omega)
theorem zn5 (n:Int) (w:World) (h0:0<=n) (h1:n<=255) :
  Calls Tryz.prog 140 #[.int .u8 n] w fun e w'=>e=.returned (.bool (letB n))/\w=w':=by
 go_enter Tryz.func140,Tryz.ntmps140
 go_wp2
 all_goals go_ret
 all_goals simp [letB, *]
 all_goals omega
theorem zf7 (n:Int) (w:World) (h0:0<=n) (h1:n<=255) :
  Calls Tryz.prog 82 #[.int .u8 n] w fun e w'=>e=.returned (.bool (nmB n))/\w=w':=by
 go_enter Tryz.func82,Tryz.ntmps82
 go_wp2_with (first | (go_at_call 140; refine (zn5 _ _ (by omega) (by omega)).mono ?_; rintro e w' ⟨rfl,rfl⟩) | (go_at_call 81; refine (zc0 _ _ (by omega) (by omega)).mono ?_; rintro e w' ⟨rfl,rfl⟩))
 all_goals go_ret
 all_goals simp [nmB, *]
def allNm (l:List UInt8):Bool:=l.all fun c=>nmB (c.toNat:Int)
def nameL (l:List UInt8):Bool:=!l.isEmpty&&decide (l.length<=64)&&!digB ((l.getD 0 0).toNat:Int)&&allNm l
def prB (n:Int):Bool:=decide (32<=n)&&decide (n<=126)
theorem ze8 (n:Int) (w:World) (h0:0<=n) (h1:n<=255) :
  Calls Tryz.prog 207 #[.int .u8 n] w fun e w'=>e=.returned (.bool (prB n))/\w=w':=by
 go_enter Tryz.func207,Tryz.ntmps207
 go_wp2
 all_goals go_ret
 all_goals (simp [prB, *]; try omega)
theorem zl1 (l:List UInt8) (p:UInt8->Bool) (k:Nat) (h:k<l.length) (hp:p l[k]=false):l.all p=false:=by
 rw [List.all_eq_false]; exact ⟨l[k],List.getElem_mem h,by simp [hp]⟩
theorem zf3 (l:List UInt8) (p:UInt8->Bool) (k:Nat) (h:k<l.length) (ha:(l.take k).all p=true) (hp:p l[k]=true):(l.take (k+1)).all p=true:=by
 rw [zq1 l k h,List.all_append,ha]; simp [hp]
theorem zt0 (s:ByteArray) (w:World) (h:s.toList=[]) :
  Calls Tryz.prog 39 #[.string s] w fun e w'=>e=.returned (.bool false)/\w=w':=by
 go_enter Tryz.func39,Tryz.ntmps39
 go_wp2_with fail
 go_ret
 exact ⟨rfl,rfl⟩
theorem zy3 (s:ByteArray) (w:World) (hs:s.size<=maxLen) (h:64<s.size) :
  Calls Tryz.prog 39 #[.string s] w fun e w'=>e=.returned (.bool false)/\w=w':=by
 unfold maxLen at hs;have h2:s.toList.isEmpty=false:=zc8 (by omega)
 have h3:s.toList≠[]:=zd5 (by omega)
 go_enter Tryz.func39,Tryz.ntmps39
 go_wp2_with fail
 go_ret
 exact ⟨rfl,rfl⟩
theorem zt1 (s:ByteArray) (w:World) (h0:0<s.size) (h:s.size<=64) (hd:digB s[0].toNat=true) :
  Calls Tryz.prog 39 #[.string s] w fun e w'=>e=.returned (.bool false)/\w=w':=by
 have h2:s.toList.isEmpty=false:=zc8 (by omega)
 have h3:s.toList≠[]:=zd5 (by omega)
 have hb:=ze3 s[0];go_enter Tryz.func39,Tryz.ntmps39
 go_wp2_with (go_at_call 81; refine (zc0 _ _ (by omega) (by omega)).mono ?_; rintro e w' ⟨rfl,rfl⟩)
 go_ret
 exact ⟨rfl,rfl⟩
theorem zy2 (s:ByteArray) (w:World) (h0:0<s.size) (h:s.size<=64) (hd:digB s[0].toNat=false) :
  Calls Tryz.prog 39 #[.string s] w fun e w'=>e=.returned (.bool (allNm s.data.toList))/\w=w':=by
 have h2:s.toList.isEmpty=false:=zc8 (by omega)
 have h3:s.toList≠[]:=zd5 (by omega)
 have hb:=ze3 s[0];go_enter Tryz.func39,Tryz.ntmps39
 go_wp2_with (go_at_call 81; refine (zc0 _ _ (by omega) (by omega)).mono ?_; rintro e w' ⟨rfl,rfl⟩)
 go_loop [3] (fun i=>∃ k:Nat,k<=s.size/\i=.int .i64 k/\(s.data.toList.take k).all (fun c=>nmB (c.toNat:Int))=true) (fun i=>s.size-(intOf i).toNat)
 case atStart=>exact ⟨0,Nat.zero_le _,rfl,rfl⟩
 case round =>
  obtain ⟨k,hk,rfl,hall⟩:=hrel;have HA:=Lh hall;clear hall;by_cases hlt:k<s.size
  ·have hbk:=ze3 s[k]
   have e:s.data.toList[k]'(by simpa using hlt)=s[k]:=rfl
   cases hn:nmB (s[k].toNat:Int)
   ·have H1:Hid (allNm s.data.toList=false):=Lh (zl1 s.data.toList (fun c=>nmB (c.toNat:Int)) k (by simpa using hlt) hn)
    clear e;go_wp2_with (go_at_call 82; refine (zf7 _ _ (by omega) (by omega)).mono ?_; rintro e w' ⟨rfl,rfl⟩)
    go_ret
    exact ⟨by rw [H1.out]; rfl,rfl⟩
   ·have H1:=Lh (zf3 s.data.toList (fun c=>nmB (c.toNat:Int)) k (by simpa using hlt) HA.out hn)
    clear e;go_wp2_with (go_at_call 82; refine (zf7 _ _ (by omega) (by omega)).mono ?_; rintro e w' ⟨rfl,rfl⟩)
    go_round
    case rel=>exact ⟨k+1,by omega,by go_num,H1.out⟩
    case measure=>simp [intOf]; omega
  ·have H1:Hid (allNm s.data.toList=true):=by
    have:=HA.out;rw [List.take_of_length_le (by simp; omega)] at this
    exact Lh this
   go_wp2
   go_ret
   exact ⟨by rw [H1.out]; rfl,rfl⟩
theorem zl7 (s:ByteArray) (w:World) (hs:s.size<=maxLen) :
  Calls Tryz.prog 39 #[.string s] w fun e w'=>e=.returned (.bool (nameL s.data.toList))/\w=w':=by
 have hl:=size_eq s;by_cases h0:s.size=0
 ·have e:s.data.toList=[]:=List.eq_nil_of_length_eq_zero (by omega)
  rw [e]; exact zt0 s w (zr2 h0)
 have hne:s.data.toList.isEmpty=false:=by
  rw [<- Lib.toList_data]; exact zc8 (by omega)
 by_cases h1:64<s.size
 ·have e:nameL s.data.toList=false:=by unfold nameL; rw [hl]; simp; omega
  rw [e]; exact zy3 s w hs h1
 have e0:s.data.toList.getD 0 0=s[0]'(by omega):=by
  rw [List.getD_eq_getElem?_getD,List.getElem?_eq_getElem (by omega)]; rfl
 cases hd:digB ((s[0]'(by omega)).toNat:Int)
 ·have e:nameL s.data.toList=allNm s.data.toList:=by
   unfold nameL; rw [e0,hd,hne,hl]; simp; omega
  rw [e]; exact zy2 s w (by omega) (by omega) hd
 ·have e:nameL s.data.toList=false:=by unfold nameL; rw [e0,hd]; simp
  rw [e]; exact zt1 s w (by omega) (by omega) hd
def hexL:List UInt8:=[48,49,50,51,52,53,54,55,56,57,97,98,99,100,101,102]
def hexC (n:Nat):UInt8:=hexL.getD n 0
def escL (c:UInt8):List UInt8 :=
 if c=34 then [92,34] else if c=92 then [92,92] else if c=10 then [92,110] else if c=13 then [92,114] else if c=9 then [92,116]
 else if prB (c.toNat:Int) then [c] else [92,117,48,48,hexC (c.toNat / 16),hexC (c.toNat % 16)]
def zg5 (l:List UInt8):List UInt8:=34::l.flatMap escL++[34]
theorem yh1 (c:UInt8):(escL c).length<=6:=by (unfold escL; repeat' split) <;> simp
theorem zS7 (l:List UInt8):(l.flatMap escL).length<=6*l.length:=by
 induction l with
 | nil=>simp
 | cons c l ih=>simp only [List.flatMap_cons,List.length_append,List.length_cons]; have:=yh1 c; omega
def letU (n:Int):Bool:=letB n||n==95
theorem zh1 (n:Int) (w:World) (h0:0<=n) (h1:n<=255) :
  Calls Tryz.prog 94 #[.int .u8 n] w fun e w'=>e=.returned (.bool (digB n))/\w=w':=by
 go_enter Tryz.func94,Tryz.ntmps94
 go_wp2
 all_goals go_ret
 all_goals (simp [digB, *]; try omega)
theorem zd7 (n:Int) (w:World) (h0:0<=n) (h1:n<=255) :
  Calls Tryz.prog 93 #[.int .u8 n] w fun e w'=>e=.returned (.bool (letU n))/\w=w':=by
 go_enter Tryz.func93,Tryz.ntmps93
 go_wp2
 all_goals go_ret
 all_goals refine ⟨congrArg Ending.returned (congrArg Value.bool ?_),rfl⟩
 all_goals (rw [Bool.eq_iff_iff]; simp [letU,letB, *]; try omega)
theorem zp8 (s:ByteArray) (w:World) (h:s.size=0) :
  Calls Tryz.prog 42 #[.string s] w fun e w'=>e=.returned (.bool false)/\w=w':=by
 have h':(s.size:Int)<1:=by omega
 clear h;go_enter Tryz.func42,Tryz.ntmps42
 go_wp2_with fail
 go_ret
 exact ⟨rfl,rfl⟩
theorem zs7 (s:ByteArray) (w:World) (hs:s.size<=maxLen) (h:64<s.size) :
  Calls Tryz.prog 42 #[.string s] w fun e w'=>e=.returned (.bool false)/\w=w':=by
 unfold maxLen at hs;go_enter Tryz.func42,Tryz.ntmps42
 go_wp2_with fail
 go_ret
 exact ⟨rfl,rfl⟩
theorem nm_of (n:Int):nmB n=(letU n||digB n):=by unfold nmB letU; cases letB n <;> cases digB n <;> simp
def zo3 (l:List UInt8) (k:Nat):Prop:=allNm (l.take k)=true/\(0<k->digB ((l.getD 0 0).toNat:Int)=false)
theorem zq0 (l:List UInt8):zo3 l 0:=⟨rfl,fun h=>absurd h (by omega)⟩
theorem zj8 {l:List UInt8} {k:Nat} (h:zo3 l k) (hk:k<l.length) (h1:nmB (l[k].toNat:Int)=true) (h2:k=0->digB (l[k].toNat:Int)=false):zo3 l (k+1):=by
 refine ⟨zf3 l (fun c=>nmB (c.toNat:Int)) k hk h.1 h1,fun _=>?_⟩
 by_cases e:k=0
 ·subst e; rw [List.getD_eq_getElem?_getD,List.getElem?_eq_getElem hk]; exact h2 rfl
 ·exact h.2 (by omega)
theorem zt3 {l:List UInt8} (h:zo3 l l.length) (h0:0<l.length) (h1:l.length<=64):nameL l=true:=by
 unfold nameL;have e:=h.1;rw [List.take_length] at e;rw [h.2 h0,e]
 cases l with
 | nil=>simp at h0
 | cons a l=>simp at h1 ⊢; omega
theorem zs9 {l:List UInt8} {k:Nat} (hk:k<l.length) (h:nmB (l[k].toNat:Int)=false):nameL l=false:=by
 unfold nameL;rw [show allNm l=false from zl1 l (fun c=>nmB (c.toNat:Int)) k hk h]; simp
theorem zn4 {l:List UInt8} (hk:0<l.length) (h:digB (l[0].toNat:Int)=true):nameL l=false:=by
 unfold nameL;rw [List.getD_eq_getElem?_getD,List.getElem?_eq_getElem hk,Option.getD_some,h]; simp
theorem zs6 (s:ByteArray) (w:World) (h0:0<s.size) (h:s.size<=64) :
  Calls Tryz.prog 42 #[.string s] w fun e w'=>e=.returned (.bool (nameL s.data.toList))/\w=w':=by
 have hl:=Lh (size_eq s);go_enter Tryz.func42,Tryz.ntmps42
 go_wp2_with fail
 go_loop [3] (fun i=>∃ k:Nat,k<=s.size/\i=.int .i64 k/\zo3 s.data.toList k) (fun i=>s.size-(intOf i).toNat)
 case atStart=>exact ⟨0,Nat.zero_le _,rfl,zq0 _⟩
 case round =>
  obtain ⟨k,hk,rfl,hH⟩:=hrel;by_cases hlt:k<s.size
  ·have hbk:=ze3 s[k]
   have hlk:k<s.data.toList.length:=by rw [hl.out]; exact hlt
   cases n1:letU (s[k].toNat:Int)
   ·cases n2:digB (s[k].toNat:Int)
    ·have H2:Hid (nameL s.data.toList=false):=Lh (zs9 hlk (by show nmB (s[k].toNat:Int)=false; rw [nm_of,n1,n2]; rfl))
     go_wp2_with (first | (go_at_call 93; refine (zd7 _ _ (by omega) (by omega)).mono ?_; rintro e w' ⟨rfl,rfl⟩) | (go_at_call 94; refine (zh1 _ _ (by omega) (by omega)).mono ?_; rintro e w' ⟨rfl,rfl⟩))
     all_goals go_ret
     all_goals exact ⟨by rw [H2.out]; rfl,rfl⟩
    ·by_cases hd:k=0
     ·subst hd
      have H2:Hid (nameL s.data.toList=false):=Lh (zn4 hlk n2);go_wp2_with (first | (go_at_call 93; refine (zd7 _ _ (by omega) (by omega)).mono ?_; rintro e w' ⟨rfl,rfl⟩) | (go_at_call 94; refine (zh1 _ _ (by omega) (by omega)).mono ?_; rintro e w' ⟨rfl,rfl⟩))
      all_goals go_ret
      all_goals exact ⟨by rw [H2.out]; rfl,rfl⟩
     ·have hd':((k:Int)==0)=false:=by rw [beq_eq_false_iff_ne]; omega
      have H3:=Lh (zj8 hH hlk (by show nmB (s[k].toNat:Int)=true; rw [nm_of,n1,n2]; rfl) (fun e=>absurd e hd))
      clear hH;go_wp2_with (first | (go_at_call 93; refine (zd7 _ _ (by omega) (by omega)).mono ?_; rintro e w' ⟨rfl,rfl⟩) | (go_at_call 94; refine (zh1 _ _ (by omega) (by omega)).mono ?_; rintro e w' ⟨rfl,rfl⟩))
      go_round
      case rel=>exact ⟨k+1,by omega,by go_num,H3.out⟩
      case measure=>simp [intOf]; omega
   ·have hnd:digB (s[k].toNat:Int)=false:=by
     unfold letU letB at n1; unfold digB; simp at n1 ⊢; omega
    have H3:=Lh (zj8 hH hlk (by show nmB (s[k].toNat:Int)=true; rw [nm_of,n1]; rfl) (fun _=>hnd))
    clear hH hnd;go_wp2_with (go_at_call 93; refine (zd7 _ _ (by omega) (by omega)).mono ?_; rintro e w' ⟨rfl,rfl⟩)
    go_round
    case rel=>exact ⟨k+1,by omega,by go_num,H3.out⟩
    case measure=>simp [intOf]; omega
  ·obtain rfl:k=s.size:=by omega
   have H1:Hid (nameL s.data.toList=true):=Lh (zt3 (by rw [hl.out]; exact hH) (by rw [hl.out]; exact h0) (by rw [hl.out]; exact h))
   go_wp2
   go_ret
   exact ⟨by rw [H1.out]; rfl,rfl⟩
theorem zd2 (s:ByteArray) (w:World) (hs:s.size<=maxLen) :
  Calls Tryz.prog 42 #[.string s] w fun e w'=>e=.returned (.bool (nameL s.data.toList))/\w=w':=by
 have hl:=size_eq s;by_cases h0:s.size=0
 ·have e:s.data.toList=[]:=List.eq_nil_of_length_eq_zero (by omega)
  rw [e]; exact zp8 s w h0
 by_cases h1:64<s.size
 ·have e:nameL s.data.toList=false:=by unfold nameL; rw [hl]; simp; omega
  rw [e]; exact zs7 s w hs h1
 exact zs6 s w (by omega) (by omega)
theorem yi4 (w:World) (xs:Array Value) (l:List UInt8) (k c:Nat) (hk:k=l.length) (hx:xs=(l.map fun c:UInt8=>Value.int .u8 (c.toNat:Int)).toArray) :
  (convert 73 9 (.slice (some ⟨w.heap.size,0,none⟩) k c)).run Tryz.prog (w.alloc (.cells xs 5))=.ok (.string ⟨l.toArray⟩) (w.alloc (.cells xs 5)):=by
 subst hk;exact run_convert_bytes_back _ 73 9 5 _ c l Tryz.underlying73 Tryz.underlying5 Tryz.underlying9 (yi9 w xs _ l hx)
theorem hexC_lo:∀ n:Fin 10,(48+(n.val:Int))=((hexC n.val).toNat:Int):=by decide +kernel
theorem hexC_hi:∀ n:Fin 16,10<=n.val->(87+(n.val:Int))=((hexC n.val).toNat:Int):=by decide +kernel
theorem zR2 (n:Int) (w:World) (h0:0<=n) (h1:n<16) :
  Calls Tryz.prog 227 #[.int .u8 n] w fun e w'=>e=.returned (.int .u8 ((hexC n.toNat).toNat:Int))/\w=w':=by
 by_cases h:n<10
 ·have e:Hid (48+n=((hexC n.toNat).toNat:Int)):=Lh (by
   have:=hexC_lo ⟨n.toNat,by omega⟩
   simp only at this; omega)
  go_enter Tryz.func227,Tryz.ntmps227
  go_wp2_with fail
  go_ret
  exact ⟨congrArg Ending.returned (congrArg (Value.int .u8) e.out),rfl⟩
 ·have e:Hid (87+n=((hexC n.toNat).toNat:Int)):=Lh (by
   have:=hexC_hi ⟨n.toNat,by omega⟩ (by simp only; omega)
   simp only at this; omega)
  go_enter Tryz.func227,Tryz.ntmps227
  go_wp2_with fail
  go_ret
  exact ⟨congrArg Ending.returned (congrArg (Value.int .u8) e.out),rfl⟩
theorem below_tr {a b c:World} (h:Below a.heap.size a b) (k:Below b.heap.size b c):Below a.heap.size a c:=h.trans (k.mono h.size)
def StrB (w:World) (l:List UInt8) (e:Ending) (w':World):Prop:=e=.returned (.string ⟨l.toArray⟩)/\Below w.heap.size w w'
theorem zk8 (n:Int) (w:World) (l:List UInt8) (h:(n=34/\l=[92,34])∨(n=92/\l=[92,92])∨(n=10/\l=[92,110])∨(n=13/\l=[92,114])∨(n=9/\l=[92,116])) :
  Calls Tryz.prog 191 #[.int .u8 n] w (StrB w l):=by
 rcases h with ⟨rfl,rfl⟩ | ⟨rfl,rfl⟩ | ⟨rfl,rfl⟩ | ⟨rfl,rfl⟩ | ⟨rfl,rfl⟩
 all_goals
  go_enter Tryz.func191,Tryz.ntmps191
  go_wp2_with fail
  go_ret
  exact ⟨rfl,Below.refl _ _⟩
theorem zV7 (c:UInt8) (w:World) (h1:c≠34) (h2:c≠92) (h3:c≠10) (h4:c≠13) (h5:c≠9) (hp:prB (c.toNat:Int)=true) :
  Calls Tryz.prog 191 #[.int .u8 c.toNat] w (StrB w [c]):=by
 have hb:=ze3 c;have g1:((c.toNat:Int)==34)=false:=u8_ne h1;have g2:((c.toNat:Int)==92)=false:=u8_ne h2;have g3:((c.toNat:Int)==10)=false:=u8_ne h3;have g4:((c.toNat:Int)==13)=false:=u8_ne h4;have g5:((c.toNat:Int)==9)=false:=u8_ne h5;unfold prB at hp;simp only [Bool.and_eq_true,decide_eq_true_eq] at hp
 obtain ⟨p1,p2⟩:=hp;have hcv:=fun w=>yi4 w #[.int .u8 (c.toNat:Int)] [c] 1 1 rfl rfl;go_enter Tryz.func191,Tryz.ntmps191
 go_wp2_with fail
 go_ret
 exact ⟨rfl,(Below.refl _ _).alloc (Nat.le_refl _) _⟩
theorem resc_hex (c:UInt8) (w:World) (h1:c≠34) (h2:c≠92) (h3:c≠10) (h4:c≠13) (h5:c≠9) (hp:prB (c.toNat:Int)=false) :
  Calls Tryz.prog 191 #[.int .u8 c.toNat] w (StrB w [92,117,48,48,hexC (c.toNat / 16),hexC (c.toNat % 16)]):=by
 have hb:=ze3 c;have g1:((c.toNat:Int)==34)=false:=u8_ne h1;have g2:((c.toNat:Int)==92)=false:=u8_ne h2;have g3:((c.toNat:Int)==10)=false:=u8_ne h3;have g4:((c.toNat:Int)==13)=false:=u8_ne h4;have g5:((c.toNat:Int)==9)=false:=u8_ne h5;have p:(c.toNat:Int)<32∨126<(c.toNat:Int):=by unfold prB at hp; simp at hp; omega
 clear hp;have hcv:=fun w=>yi4 w #[.int .u8 ((hexC (c.toNat / 16)).toNat:Int),.int .u8 ((hexC (c.toNat % 16)).toNat:Int)] [hexC (c.toNat / 16),hexC (c.toNat % 16)] 2 2 rfl rfl;have e1:((c.toNat:Int) / 16).toNat=c.toNat / 16:=by omega
 have e2:((c.toNat:Int) % 16).toNat=c.toNat % 16:=by omega
 rcases p with p | p
 all_goals
  go_enter Tryz.func191,Tryz.ntmps191
  go_wp2_with fail
  refine (zR2 _ _ (by omega) (by omega)).mono ?_
  rintro e w1 ⟨rfl,rfl⟩;go_wp2_with fail
  refine (zR2 _ _ (by omega) (by omega)).mono ?_
  rintro e w1 ⟨rfl,rfl⟩;go_wp2_with fail
  go_ret
  exact ⟨rfl,(Below.refl _ _).alloc (Nat.le_refl _) _⟩
theorem resc_any (c:UInt8) (w:World) :
  Calls Tryz.prog 191 #[.int .u8 c.toNat] w (StrB w (escL c)):=by
 unfold escL;by_cases h1:c=34
 ·subst h1; exact zk8 34 w _ (by simp)
 by_cases h2:c=92
 ·subst h2; exact zk8 92 w _ (by simp)
 by_cases h3:c=10
 ·subst h3; exact zk8 10 w _ (by simp)
 by_cases h4:c=13
 ·subst h4; exact zk8 13 w _ (by simp)
 by_cases h5:c=9
 ·subst h5; exact zk8 9 w _ (by simp)
 rw [if_neg h1,if_neg h2,if_neg h3,if_neg h4,if_neg h5];cases hp:prB (c.toNat:Int)
 ·exact resc_hex c w h1 h2 h3 h4 h5 hp
 ·exact zV7 c w h1 h2 h3 h4 h5 hp
theorem add_L (w:World) (a b:List UInt8) (h:a.length+b.length<=9223372036854775807) :
  (Op.stringOp .add ⟨a.toArray⟩ ⟨b.toArray⟩).run Tryz.prog w=.ok (.string ⟨(a++b).toArray⟩) w:=by
 rw [run_string_add_sum w _ _ (by simp [ByteArray.size]; omega),ByteArray.mk_append_mk]
def zm1 (l:List UInt8) (k:Nat) (a:List UInt8):Prop:=a=34::(l.take k).flatMap escL
theorem zM8 {l a:List UInt8} {k:Nat} (h:zm1 l k a):a.length<=6*k+1:=by
 unfold zm1 at h;have h1:=zS7 (l.take k);have h2:(l.take k).length<=k:=List.length_take_le _ _;rw [h,List.length_cons]; omega
theorem zI3 {l a:List UInt8} {k:Nat} (h:zm1 l k a) (hk:k<l.length):zm1 l (k+1) (a++escL l[k]):=by
 unfold zm1 at h ⊢;rw [h,zq1 l k hk,List.flatMap_append];simp only [List.flatMap_cons,List.flatMap_nil,List.append_nil,List.cons_append]
theorem zM9 {l a:List UInt8} (h:zm1 l l.length a):a++[34]=zg5 l:=by
 unfold zm1 at h;rw [List.take_length] at h;rw [h]; rfl
theorem zV1 (s:ByteArray) (w:World) (hs:s.size<=1099511627776) :
  Calls Tryz.prog 152 #[.string s] w (StrB w (zg5 s.data.toList)):=by
 have hl:=Lh (size_eq s);go_enter Tryz.func152,Tryz.ntmps152
 go_wp2_with fail
 go_loopw [3,4] (fun v i wr=>∃ (k:Nat) (a:List UInt8),k<=s.size/\i=.int .i64 k/\v=.string ⟨a.toArray⟩/\zm1 s.data.toList k a/\Below w.heap.size w wr) (fun _ i _=>s.size-(intOf i).toNat)
 case atStart=>exact ⟨0,[34],Nat.zero_le _,rfl,rfl,rfl,Below.refl _ _⟩
 case round =>
  obtain ⟨k,a,hk,rfl,rfl,hq,hb⟩:=hrel;have hal:=zM8 hq;have HB:=Lh hb;clear hb;by_cases hlt:k<s.size
  ·have hlk:k<s.data.toList.length:=by rw [hl.out]; exact hlt
   have hqs:zm1 s.data.toList (k+1) (a++escL s[k]):=zI3 hq hlk;have hel:=yh1 s[k];have hadd:=fun w=>add_L w a (escL s[k]) (by omega)
   clear hq;go_wp2_with fail
   refine (resc_any _ _).mono ?_
   rintro e w1 ⟨rfl,hb1⟩
   go_wp2
   go_roundw
   case rel=>exact ⟨k+1,a++escL s[k],by omega,by go_num,rfl,hqs,below_tr HB.out hb1⟩
   case measure=>simp [intOf]; omega
  ·obtain rfl:k=s.size:=by omega
   have he:=Lh (zM9 (l:=s.data.toList) (by rw [hl.out]; exact hq))
   have hadd:=fun w=>add_L w a [34] (by simp; omega)
   clear hq
   go_wp2
   go_ret
   exact ⟨by rw [<- he.out]; rfl,HB.out⟩
def hexV (n:Int):Int:=if 48<=n/\n<=57 then n-48 else if 97<=n/\n<=102 then n-87 else if 65<=n/\n<=70 then n-55 else -1
theorem zy5 (n:Int) : -1<=hexV n/\hexV n<=15:=by
 unfold hexV
 split
 ·omega
 ·split
  ·omega
  ·split <;> omega
theorem zJ6 (n:Int) (w:World) (h0:0<=n) (h1:n<=255) (h:0<=hexV n) :
  Calls Tryz.prog 253 #[.int .u8 n] w fun e w'=>e=.returned (.tuple #[.int .i64 (hexV n),.bool true])/\w=w':=by
 have hc:(48<=n/\n<=57)∨(97<=n/\n<=102)∨(65<=n/\n<=70):=by unfold hexV at h; omega
 clear h;rcases hc with ⟨a,b⟩ | ⟨a,b⟩ | ⟨a,b⟩
 all_goals
  first
   | (have e1:Hid (hexV n=n-48):=Lh (by unfold hexV; omega)
      have e2:digB n=true:=by unfold digB; simp; omega
      go_enter Tryz.func253,Tryz.ntmps253
      go_wp2_with (go_at_call 81; refine (zc0 _ _ (by omega) (by omega)).mono ?_; rintro e w' ⟨rfl,rfl⟩)
      go_ret2
      exact ⟨by rw [e1.out]; rfl,rfl⟩)
   | (have e1:Hid (hexV n=n-97+10):=Lh (by unfold hexV; omega)
      have e2:digB n=false:=by unfold digB; simp; omega
      go_enter Tryz.func253,Tryz.ntmps253
      go_wp2_with (go_at_call 81; refine (zc0 _ _ (by omega) (by omega)).mono ?_; rintro e w' ⟨rfl,rfl⟩)
      go_ret2
      exact ⟨by rw [e1.out]; rfl,rfl⟩)
   | (have e1:Hid (hexV n=n-65+10):=Lh (by unfold hexV; omega)
      have e2:digB n=false:=by unfold digB; simp; omega
      go_enter Tryz.func253,Tryz.ntmps253
      go_wp2_with (go_at_call 81; refine (zc0 _ _ (by omega) (by omega)).mono ?_; rintro e w' ⟨rfl,rfl⟩)
      go_ret2
      exact ⟨by rw [e1.out]; rfl,rfl⟩)
theorem zO6 (n:Int) (w:World) (h0:0<=n) (h1:n<=255) (h:hexV n<0) :
  Calls Tryz.prog 253 #[.int .u8 n] w fun e w'=>e=.returned (.tuple #[.int .i64 0,.bool false])/\w=w':=by
 have hc:(n<48)∨(57<n/\n<65)∨(70<n/\n<97)∨102<n:=by unfold hexV at h; omega
 have e2:digB n=false:=by unfold digB; simp; omega
 clear h;rcases hc with a | ⟨a,b⟩ | ⟨a,b⟩ | a
 all_goals
  go_enter Tryz.func253,Tryz.ntmps253
  go_wp2_with (go_at_call 81; refine (zc0 _ _ (by omega) (by omega)).mono ?_; rintro e w' ⟨rfl,rfl⟩)
  go_ret2
  exact ⟨rfl,rfl⟩
def bv (l:List UInt8) (k:Nat):Int:=hexV ((l.getD k 0).toNat:Int)
def cdL (l:List UInt8):Nat->Int
 | 0=>0
 | k+1=>cdL l k*16+bv l k
def OkL (l:List UInt8) (k:Nat):Prop:=∀ j,j<k->0<=bv l j
theorem okL_zero (l:List UInt8):OkL l 0:=fun _ h=>absurd h (by omega)
theorem okL_succ {l:List UInt8} {k:Nat} (h:OkL l k) (h1:0<=bv l k):OkL l (k+1):=fun j hj=>by
 by_cases e:j=k
 ·subst e; exact h1
 ·exact h j (by omega)
theorem zC1 {l:List UInt8}:∀ {k:Nat},OkL l k->0<=cdL l k/\cdL l k<16^k
 | 0,_=>by simp [cdL]
 | k+1,h=>by
   have ih:=zC1 (l:=l) (k:=k) (fun j hj=>h j (by omega))
   have h1:=h k (by omega)
   have h2:=(zy5 ((l.getD k 0).toNat:Int)).2;have h3:bv l k<=15:=h2;have e:cdL l (k+1)=cdL l k*16+bv l k:=rfl;have p:(16:Int)^(k+1)=16^k*16:=by rw [Int.pow_succ]
   rw [e,p]; omega
def okB (l:List UInt8):Bool:=decide (4<=l.length)&&decide (0<=bv l 0)&&decide (0<=bv l 1)&&decide (0<=bv l 2)&&decide (0<=bv l 3)&&decide (cdL l 4<=255)
def numL4 (l:List UInt8):Option UInt8:=if okB l then some (UInt8.ofNat (cdL l 4).toNat) else none
def nb2 (k:Int):Option UInt8->Value
 | some b=>.tuple #[.int .u8 b.toNat,.int .i64 k]
 | none=>.tuple #[.int .u8 0,.int .i64 0]
theorem nb2_some {k n:Int} {b:UInt8} (h:(b.toNat:Int)=n):nb2 k (some b)=.tuple #[.int .u8 n,.int .i64 k]:=by subst h; rfl
theorem zN8 {l:List UInt8} (h:l.length<4):numL4 l=none:=by
 unfold numL4 okB; rw [if_neg]; simp; omega
theorem yf1 {l:List UInt8} {k:Nat} (hk:k<4) (h:bv l k<0):numL4 l=none:=by
 have:k=0∨k=1∨k=2∨k=3:=by omega
 unfold numL4 okB; rw [if_neg];rcases this with rfl | rfl | rfl | rfl <;> simp <;> omega
theorem yf0 {l:List UInt8} (h:255<cdL l 4):numL4 l=none:=by
 unfold numL4 okB; rw [if_neg]; simp; omega
theorem ye7 {l:List UInt8} (h0:4<=l.length) (h:OkL l 4) (h1:cdL l 4<=255):numL4 l=some (UInt8.ofNat (cdL l 4).toNat):=by
 unfold numL4 okB;rw [if_pos];simp [h0,h 0 (by omega),h 1 (by omega),h 2 (by omega),h 3 (by omega),h1]
theorem ofNat_toNat {n:Int} (h0:0<=n) (h1:n<=255):((UInt8.ofNat n.toNat).toNat:Int)=n:=by
 rw [UInt8.toNat_ofNat']; omega
theorem zt4 (s:ByteArray) (k:Nat) (h:k<s.size):s.data.toList.getD k 0=s[k]:=by
 have:=size_eq s;rw [List.getD_eq_getElem?_getD,List.getElem?_eq_getElem (by omega)]; rfl
def zC5 (k:Int) (o:Option UInt8) (w:World) (e:Ending) (w':World):Prop:=e=.returned (nb2 k o)/\w=w'
theorem zz8 (s:ByteArray) (w:World) (h:s.size<4) :
  Calls Tryz.prog 232 #[.string s] w (zC5 6 (numL4 s.data.toList) w):=by
 rw [zN8 (by rw [size_eq]; exact h)]
 go_enter Tryz.func232,Tryz.ntmps232
 go_wp2_with fail
 go_ret2
 exact ⟨rfl,rfl⟩
theorem zE4 (s:ByteArray) (w:World) (h:4<=s.size) (hs:s.size<=maxLen) :
  Calls Tryz.prog 232 #[.string s] w (zC5 6 (numL4 s.data.toList) w):=by
 unfold maxLen at hs;have hl:=Lh (size_eq s);go_enter Tryz.func232,Tryz.ntmps232
 go_wp2_with fail
 go_loop [4,11] (fun n i=>∃ k:Nat,k<=4/\i=.int .i64 k/\n=.int .i64 (cdL s.data.toList k)/\OkL s.data.toList k) (fun _ i=>4-(intOf i).toNat)
 case atStart=>exact ⟨0,by omega,rfl,rfl,okL_zero _⟩
 case round =>
  obtain ⟨k,hk,rfl,rfl,hok⟩:=hrel;obtain ⟨c0,c1⟩:=zC1 hok;by_cases hlt:k<4
  ·have c2:cdL s.data.toList k<65536:=by
    have:k=0∨k=1∨k=2∨k=3:=by omega
    rcases this with rfl | rfl | rfl | rfl <;> simp at c1 <;> omega
   clear c1;have hks:k<s.size:=by omega
   have hbk:=ze3 s[k];have hbv:bv s.data.toList k=hexV (s[k].toNat:Int):=by unfold bv; rw [zt4 s k hks]
   have hv:=zy5 (s[k].toNat:Int);by_cases hh:0<=hexV (s[k].toNat:Int)
   ·have H1:=Lh (okL_succ hok (by rw [hbv]; exact hh))
    have H2:Hid (cdL s.data.toList (k+1)=cdL s.data.toList k*16+hexV (s[k].toNat:Int)):=Lh (by rw [<- hbv]; rfl)
    clear hbv hok;go_wp2_with (go_at_call 253; refine (zJ6 _ _ (by omega) (by omega) hh).mono ?_; rintro e w' ⟨rfl,rfl⟩)
    go_round
    case rel=>exact ⟨k+1,by omega,by go_num,by rw [H2.out],H1.out⟩
    case measure=>simp [intOf]; omega
   ·have H1:Hid (numL4 s.data.toList=none):=Lh (yf1 hlt (by rw [hbv]; omega))
    clear hbv hok;go_wp2_with (go_at_call 253; refine (zO6 _ _ (by omega) (by omega) (by omega)).mono ?_; rintro e w' ⟨rfl,rfl⟩)
    go_ret2
    exact ⟨by rw [H1.out]; rfl,rfl⟩
  ·obtain rfl:k=4:=by omega
   simp only [Int.reducePow] at c1
   by_cases hbig:255<cdL s.data.toList 4
   ·have H1:=Lh (yf0 hbig)
    go_wp2
    go_ret2
    exact ⟨by rw [H1.out]; rfl,rfl⟩
   ·have hle:cdL s.data.toList 4<=255:=by omega
    have H1:=Lh (ye7 (by rw [hl.out]; exact h) hok hle)
    have H2:=Lh (ofNat_toNat c0 hle);clear hbig hok
    go_wp2
    go_ret2
    exact ⟨by rw [H1.out,nb2_some H2.out]; rfl,rfl⟩
theorem zI9 (s:ByteArray) (w:World) (hs:s.size<=maxLen) :
  Calls Tryz.prog 232 #[.string s] w (zC5 6 (numL4 s.data.toList) w):=by
 by_cases h:s.size<4
 ·exact zz8 s w h
 ·exact zE4 s w (by omega) hs
def zm8 (c:UInt8):Option UInt8 :=
 if c=34 then some 34 else if c=92 then some 92 else if c=47 then some 47 else if c=98 then some 8 else if c=102 then some 12
 else if c=110 then some 10 else if c=114 then some 13 else if c=116 then some 9 else none
theorem zM6 {c:UInt8} (h1:c≠34) (h2:c≠92) (h3:c≠47) (h4:c≠98) (h5:c≠102) (h6:c≠110) (h7:c≠114) (h8:c≠116):zm8 c=none:=by
 unfold zm8; rw [if_neg h1,if_neg h2,if_neg h3,if_neg h4,if_neg h5,if_neg h6,if_neg h7,if_neg h8]
theorem zd0 (n:Int) (x:UInt8) (w:World) (h:(n=34/\x=34)∨(n=92/\x=92)∨(n=47/\x=47)∨(n=98/\x=8)∨(n=102/\x=12)∨(n=110/\x=10)∨(n=114/\x=13)∨(n=116/\x=9)) :
  Calls Tryz.prog 233 #[.int .u8 n] w (zC5 2 (some x) w):=by
 rcases h with ⟨rfl,rfl⟩ | ⟨rfl,rfl⟩ | ⟨rfl,rfl⟩ | ⟨rfl,rfl⟩ | ⟨rfl,rfl⟩ | ⟨rfl,rfl⟩ | ⟨rfl,rfl⟩ | ⟨rfl,rfl⟩
 all_goals
  go_enter Tryz.func233,Tryz.ntmps233
  go_wp2_with fail
  go_ret2
  exact ⟨rfl,rfl⟩
theorem zK0 (c:UInt8) (w:World) (h1:c≠34) (h2:c≠92) (h3:c≠47) (h4:c≠98) (h5:c≠102) (h6:c≠110) (h7:c≠114) (h8:c≠116) :
  Calls Tryz.prog 233 #[.int .u8 c.toNat] w (zC5 2 none w):=by
 have g1:((c.toNat:Int)==34)=false:=u8_ne h1;have g2:((c.toNat:Int)==92)=false:=u8_ne h2;have g3:((c.toNat:Int)==47)=false:=u8_ne h3;have g4:((c.toNat:Int)==98)=false:=u8_ne h4;have g5:((c.toNat:Int)==102)=false:=u8_ne h5;have g6:((c.toNat:Int)==110)=false:=u8_ne h6;have g7:((c.toNat:Int)==114)=false:=u8_ne h7;have g8:((c.toNat:Int)==116)=false:=u8_ne h8;go_enter Tryz.func233,Tryz.ntmps233
 go_wp2_with fail
 go_ret2
 exact ⟨rfl,rfl⟩
theorem zP1 (c:UInt8) (w:World):Calls Tryz.prog 233 #[.int .u8 c.toNat] w (zC5 2 (zm8 c) w):=by
 by_cases h1:c=34
 ·subst h1; exact zd0 34 34 w (by simp)
 by_cases h2:c=92
 ·subst h2; exact zd0 92 92 w (by simp)
 by_cases h3:c=47
 ·subst h3; exact zd0 47 47 w (by simp)
 by_cases h4:c=98
 ·subst h4; exact zd0 98 8 w (by simp)
 by_cases h5:c=102
 ·subst h5; exact zd0 102 12 w (by simp)
 by_cases h6:c=110
 ·subst h6; exact zd0 110 10 w (by simp)
 by_cases h7:c=114
 ·subst h7; exact zd0 114 13 w (by simp)
 by_cases h8:c=116
 ·subst h8; exact zd0 116 9 w (by simp)
 rw [zM6 h1 h2 h3 h4 h5 h6 h7 h8];exact zK0 c w h1 h2 h3 h4 h5 h6 h7 h8
def stepL:List UInt8->Option (UInt8 × Nat)
 | []=>none
 | c::r =>
   if c=34∨prB (c.toNat:Int)=false then none
   else if c≠92 then some (c,1)
   else match r with
    | []=>none
    | d::t=>if d=117 then (numL4 t).map (·,6) else (zm8 d).map (·,2)
def fb2:Option (UInt8 × Nat)->Value
 | some (b,k)=>.tuple #[.int .u8 b.toNat,.int .i64 k]
 | none=>.tuple #[.int .u8 0,.int .i64 0]
def zL7 (o:Option (UInt8 × Nat)) (w:World) (e:Ending) (w':World):Prop:=e=.returned (fb2 o)/\w=w'
theorem zk6 (c:UInt8) (r:List UInt8):stepL (c::r)=if c=34∨prB (c.toNat:Int)=false then none
  else if c≠92 then some (c,1)
  else match r with
   | []=>none
   | d::t=>if d=117 then (numL4 t).map (·,6) else (zm8 d).map (·,2):=rfl
theorem zj4 (d:UInt8) (t:List UInt8):stepL (92::d::t)=if d=117 then (numL4 t).map (·,6) else (zm8 d).map (·,2):=by
 rw [zk6,if_neg (by decide),if_neg (by decide)]
theorem zE7 {s:ByteArray} (h:0<s.size):s.data.toList=s[0]::s.data.toList.drop 1:=by
 have h1:=size_eq s;have h2:s.data.toList[0]'(by omega)::s.data.toList.drop (0+1)=s.data.toList.drop 0:=List.getElem_cons_drop (by omega)
 rw [List.drop_zero] at h2;exact h2.symm
theorem list_of2 {s:ByteArray} (h:2<=s.size):s.data.toList=s[0]'(by omega)::s[1]'(by omega)::s.data.toList.drop 2:=by
 have h1:=size_eq s;have h2:s.data.toList[1]'(by omega)::s.data.toList.drop (1+1)=s.data.toList.drop 1:=List.getElem_cons_drop (by omega)
 conv=>lhs; rw [zE7 (by omega:0<s.size)]
 rw [<- h2]; rfl
theorem zP5 (s:ByteArray) (k:Nat):(s.extract k s.size).data.toList=s.data.toList.drop k:=by
 rw [Lib.extract_data,List.take_of_length_le (by rw [List.length_drop,size_eq]; omega)]
theorem yg9 (s:ByteArray) (w:World) (h0:0<s.size) (h:s[0]=34∨prB (s[0].toNat:Int)=false) :
  Calls Tryz.prog 199 #[.string s] w (zL7 (stepL s.data.toList) w):=by
 have H:Hid (stepL s.data.toList=none):=Lh (by rw [zE7 h0,zk6,if_pos h])
 have hb:=ze3 s[0];by_cases h1:s[0]=34
 ·have g1:((s[0].toNat:Int)==34)=true:=by rw [h1]; rfl
  clear h h1;go_enter Tryz.func199,Tryz.ntmps199
  go_wp2_with fail
  go_ret2
  exact ⟨by rw [H.out]; rfl,rfl⟩
 ·have g1:((s[0].toNat:Int)==34)=false:=u8_ne h1
  have g2:prB (s[0].toNat:Int)=false:=h.resolve_left h1;clear h h1;go_enter Tryz.func199,Tryz.ntmps199
  go_wp2_with (go_at_call 207; refine (ze8 _ _ (by omega) (by omega)).mono ?_; rintro e w' ⟨rfl,rfl⟩)
  go_ret2
  exact ⟨by rw [H.out]; rfl,rfl⟩
theorem zO8 (s:ByteArray) (w:World) (h0:0<s.size) (h:s[0]≠34) (hp:prB (s[0].toNat:Int)=true) (h2:s[0]≠92) :
  Calls Tryz.prog 199 #[.string s] w (zL7 (stepL s.data.toList) w):=by
 have H:Hid (stepL s.data.toList=some (s[0],1)):=Lh (by rw [zE7 h0,zk6,if_neg (by simp [h,hp]),if_pos h2])
 have hb:=ze3 s[0];have g1:((s[0].toNat:Int)==34)=false:=u8_ne h;have g2:((s[0].toNat:Int)==92)=false:=u8_ne h2;clear h h2;go_enter Tryz.func199,Tryz.ntmps199
 go_wp2_with (go_at_call 207; refine (ze8 _ _ (by omega) (by omega)).mono ?_; rintro e w' ⟨rfl,rfl⟩)
 go_ret2
 exact ⟨by rw [H.out]; rfl,rfl⟩
theorem zX5 (s:ByteArray) (w:World) (h0:s.size=1) (h2:s[0]'(by omega)=92) :
  Calls Tryz.prog 199 #[.string s] w (zL7 (stepL s.data.toList) w):=by
 have H:Hid (stepL s.data.toList=none):=Lh (by
  have h3:=size_eq s;rw [zE7 (by omega:0<s.size),List.drop_eq_nil_of_le (by omega),h2]; decide)
 have h0':0<s.size:=by omega
 have hs1:(s.size:Int)<2:=by omega
 have hb:=ze3 s[0];have g1:((s[0].toNat:Int)==34)=false:=by rw [h2]; rfl
 have g2:((s[0].toNat:Int)==92)=true:=by rw [h2]; rfl
 have g3:prB (s[0].toNat:Int)=true:=by rw [h2]; decide
 clear h2 h0;go_enter Tryz.func199,Tryz.ntmps199
 go_wp2_with (go_at_call 207; refine (ze8 _ _ (by omega) (by omega)).mono ?_; rintro e w' ⟨rfl,rfl⟩)
 go_ret2
 exact ⟨by rw [H.out]; rfl,rfl⟩
theorem step_two {s:ByteArray} (h0:2<=s.size) (h2:s[0]'(by omega)=92):stepL s.data.toList=if s[1]'(by omega)=117 then (numL4 (s.data.toList.drop 2)).map (·,6) else (zm8 (s[1]'(by omega))).map (·,2):=by
 rw [list_of2 h0];generalize s.data.toList=l;rw [h2,zj4]; rfl
theorem zX4 (s:ByteArray) (w:World) (h0:2<=s.size) (hs:s.size<=maxLen) (h2:s[0]'(by omega)=92) :
  Calls Tryz.prog 199 #[.string s] w (zL7 (stepL s.data.toList) w):=by
 have hst:=step_two h0 h2;unfold maxLen at hs;have h0':0<s.size:=by omega
 have h1':1<s.size:=by omega
 have hb:=ze3 s[0];have hb1:=ze3 s[1];have g1:((s[0].toNat:Int)==34)=false:=by rw [h2]; rfl
 have g2:((s[0].toNat:Int)==92)=true:=by rw [h2]; rfl
 have g3:prB (s[0].toNat:Int)=true:=by rw [h2]; decide
 clear h2;by_cases hu:s[1]=117
 ·rw [if_pos hu] at hst
  have g4:((s[1].toNat:Int)==117)=true:=by rw [hu]; rfl
  have H:=Lh hst;clear hst hu;go_enter Tryz.func199,Tryz.ntmps199
  go_wp2_with (go_at_call 207; refine (ze8 _ _ (by omega) (by omega)).mono ?_; rintro e w' ⟨rfl,rfl⟩)
  have hn:(s.extract 2 s.size).data.toList=s.data.toList.drop 2:=zP5 s 2;have hx:(s.extract 2 s.size).size<=maxLen:=by
   rw [<- size_eq,hn,List.length_drop,size_eq]; unfold maxLen; omega
  have HN:=Lh hn;clear hn;refine (zI9 _ _ hx).mono ?_
  rw [HN.out];clear hx
  cases ho:numL4 (s.data.toList.drop 2) with
  | none =>
    rintro e w' ⟨rfl,rfl⟩;have H2:Hid (stepL s.data.toList=none):=Lh (by rw [H.out,ho]; rfl)
    clear ho;unfold nb2
    go_wp2
    go_ret2
    exact ⟨by rw [H2.out]; rfl,rfl⟩
  | some b =>
    rintro e w' ⟨rfl,rfl⟩;have H2:Hid (stepL s.data.toList=some (b,6)):=Lh (by rw [H.out,ho]; rfl)
    clear ho;unfold nb2
    go_wp2
    go_ret2
    exact ⟨by rw [H2.out]; rfl,rfl⟩
 ·rw [if_neg hu] at hst
  have g4:((s[1].toNat:Int)==117)=false:=u8_ne hu;have H:=Lh hst;clear hst hu;go_enter Tryz.func199,Tryz.ntmps199
  go_wp2_with (go_at_call 207; refine (ze8 _ _ (by omega) (by omega)).mono ?_; rintro e w' ⟨rfl,rfl⟩)
  refine (zP1 _ _).mono ?_
  cases ho:zm8 s[1] with
  | none =>
    rintro e w' ⟨rfl,rfl⟩;have H2:Hid (stepL s.data.toList=none):=Lh (by rw [H.out,ho]; rfl)
    clear ho;unfold nb2
    go_wp2
    go_ret2
    exact ⟨by rw [H2.out]; rfl,rfl⟩
  | some b =>
    rintro e w' ⟨rfl,rfl⟩;have H2:Hid (stepL s.data.toList=some (b,2)):=Lh (by rw [H.out,ho]; rfl)
    clear ho;unfold nb2
    go_wp2
    go_ret2
    exact ⟨by rw [H2.out]; rfl,rfl⟩
theorem zy7 (s:ByteArray) (w:World) (h0:0<s.size) (hs:s.size<=maxLen) :
  Calls Tryz.prog 199 #[.string s] w (zL7 (stepL s.data.toList) w):=by
 by_cases h:s[0]=34∨prB (s[0].toNat:Int)=false
 ·exact yg9 s w h0 h
 have h1:s[0]≠34:=fun e=>h (Or.inl e);have hp:prB (s[0].toNat:Int)=true:=by
  cases e:prB (s[0].toNat:Int)
  ·exact absurd (Or.inr e) h
  ·rfl
 by_cases h2:s[0]=92
 ·by_cases h3:s.size=1
  ·exact zX5 s w h3 h2
  ·exact zX4 s w (by omega) hs h2
 ·exact zO8 s w h0 h1 hp h2
end Go.Proofs.YtfgelheiknmjgaaGreatDoor.T1
