
/-
 Texts joined: Kit TextChars TextQuote RefText RefQuote TextUnquote.
-/
import Derived.Test.YthjoelpfmimedaaGreatDoorProg
import Derived.WalkKit
import Derived.ProofKit
import Derived.Outline
import Derived.WalkSpells
import Derived.WalkLawsBesides
import Derived.Deep.QuietTactic
import Derived.BigQuiet
import Derived.StillTailTactics
import Derived.Lib.Hide
import Derived.Lib.Strings
import Derived.Deep.AppendLies
import Derived.Deep.RegionLaw
import Derived.ChangeAlike
namespace Go.Proofs.YthjoelpfmimedaaGreatDoor.T1
open Go.RowKit
theorem info5:(Tryz.prog.info? 5).map (fun i => (i.zero,i.size,i.bytes)) = some (some (.int .u8 0),1,1):=by kernel_rfl
def OwnB (w:World) (base:Nat) (v:Value) (l:List UInt8):Prop:=w.ownsRow base 5 1 v l.length (l.map fun c => .int .u8 (c.toNat:Int))
theorem OwnB.alloc {w:World} {base:Nat} {v:Value} {l:List UInt8} (h:OwnB w base v l) (o:Obj):OwnB (w.alloc o) base v l:=World.ownsRow.alloc h o
theorem append_B {w:World} {ops:Array Oper} {rest:List Oper} {o:Oper} {a:Act} {Q:Exit → Act → World → Prop} (hgd:o.guard = none) (s x:Operand)
  (ho:o.op = .call { callee:=.builtin .append,args:=#[s,x],argTypes:=#[85, 85] }) (base:Nat) (v:Value) (l:List UInt8) (hs:a.eval s = v) (hown:OwnB w base v l)
  (ad:Addr) (c:Nat) (news:List UInt8) (hx:a.eval x = .slice (some ad) news.length c) (hnews:∀ j (h:j < news.length),w.cell? (ad.add j) = some (.int .u8 (news[j].toNat:Int)))
  (hlen:l.length + news.length ≤ 70368744177664) (hbase:base ≤ w.heap.size)
  (h:∀ v' w',OwnB w' base v' (l ++ news) → w.grownBy w' v.ownBlock → wpList Tryz.prog ops Q rest (a.put o.dst v') w'):wpList Tryz.prog ops Q (o :: rest) a w:=by
 obtain ⟨i0,hi,hz0,hz1,hz2⟩:=info_parts info5
 refine wpList_append_own w hgd s x 85 ho base 5 i0 (.int .u8 0) 1 1 Tryz.underlying85 hi hz0 hz1 hz2 rfl (by decide) v l.length (l.map fun c:UInt8 => .int .u8 (c.toNat:Int)) hs hown ad news.length c (news.map fun c:UInt8 => .int .u8 (c.toNat:Int)) hx (by simp) ?_ ?_ (by unfold maxLen; omega) (by omega) hbase ?_
 ·intro j u hj
  obtain ⟨h1,h2⟩:=List.getElem?_eq_some_iff.1 hj
  have h3:j < news.length:=by simpa using h1
  rw [hnews j h3, ← h2]; simp
 ·intro u hu
  obtain ⟨c,_,rfl⟩:=List.mem_map.1 hu
  rfl
 ·intro v' w' h1 h2 _
  refine h v' w' ?_ h2
  unfold OwnB
  rw [List.length_append,List.map_append]
  exact h1
theorem zq4 (w:World) (xs:Array Value) (t:TypeId) (j:Nat) (h:j < xs.size):(w.alloc (.cells xs t)).cell? ((⟨w.heap.size,0,none⟩ : Addr).add j) = some xs[j]:=by
 have e:(⟨w.heap.size,0,none⟩ : Addr).add j = ⟨w.heap.size,j,none⟩:=by
  unfold Addr.add; split <;> simp_all
 rw [e,World.cell?_alloc_at _ _ _ _ rfl,Array.getElem?_eq_getElem h]
theorem yh8 (w:World) (xs:Array Value) (t:TypeId) (news:List UInt8) (hx:xs = (news.map fun c:UInt8 => Value.int .u8 (c.toNat:Int)).toArray) :
  ∀ j (h:j < news.length),(w.alloc (.cells xs t)).cell? ((⟨w.heap.size,0,none⟩ : Addr).add j) = some (.int .u8 (news[j].toNat:Int)):=by
 intro j h
 subst hx
 rw [zq4 _ _ _ j (by simpa using h)]; simp
def AppB (w:World) (base:Nat) (v:Value) (l:List UInt8) (e:Ending) (w':World):Prop:=∃ v',e = .returned v' ∧ OwnB w' base v' l ∧ w.grownBy w' v.ownBlock
theorem zm0 (l:List UInt8) (k:Nat) (h:k < l.length):l.take (k + 1) = l.take k ++ [l[k]]:=by
 rw [List.take_succ_eq_append_getElem h]
theorem OwnB.lt {w:World} {base:Nat} {v:Value} {l:List UInt8} (h:OwnB w base v l):∀ k,v.ownBlock = some k → base ≤ k ∧ k < w.heap.size:=World.ownsRow.lt h
theorem size_eq (s:ByteArray):s.data.toList.length = s.size:=by rw [Array.length_toList]; rfl
theorem zd3 {s:ByteArray} (h:0 < s.size):s.toList ≠ []:=by
 rw [Lib.toList_data]; intro e
 have:=congrArg List.length e
 rw [size_eq,List.length_nil] at this; omega
theorem zc6 {s:ByteArray} (h:0 < s.size):s.toList.isEmpty = false:=by
 have:=zd3 h
 cases e:s.toList with
 | nil => exact absurd e this
 | cons => rfl
theorem zp8 {s:ByteArray} (h:s.size = 0):s.toList = []:=by
 rw [Lib.toList_data]; have:=size_eq s; exact List.eq_nil_of_length_eq_zero (by omega)
theorem zb7 (c:UInt8):(c.toNat:Int) ≤ 255:=by have:=c.toNat_lt; omega
theorem u8_ne {c d:UInt8} (h:c ≠ d):((c.toNat:Int) == (d.toNat:Int)) = false:=by
 rw [beq_eq_false_iff_ne]; intro e; exact h (UInt8.toNat_inj.1 (by omega))
theorem OwnB.string {w:World} {base:Nat} {v:Value} {l:List UInt8} (h:OwnB w base v l) (hl:0 < l.length) :
  (convert 85 9 v).run Tryz.prog w = .ok (.string ⟨l.toArray⟩) w:=by
 unfold OwnB at h
 obtain ⟨g,cap,rfl,hb,hg⟩:=World.ownsRow.form h hl
 have hc:=fun j (hj:j < l.length) => World.ownsRow.cellAt h j (by omega)
 refine run_convert_bytes_back w 85 9 5 _ cap l Tryz.underlying85 Tryz.underlying5 Tryz.underlying9 ?_
 intro j hj
 have e:(⟨g,0,none⟩ : Addr).add j = ⟨g,j,none⟩:=by unfold Addr.add; split <;> simp_all
 rw [e,hc j hj]; simp [hj]
end Go.Proofs.YthjoelpfmimedaaGreatDoor.T1
namespace Go.Proofs.YthjoelpfmimedaaGreatDoor.T1
open Go.RowKit
def digB (n:Int):Bool:=decide (48 ≤ n) && decide (n ≤ 57)
def letB (n:Int):Bool:=(decide (97 ≤ n) && decide (n ≤ 122)) || (decide (65 ≤ n) && decide (n ≤ 90))
def nmB (n:Int):Bool:=letB n || digB n || n == 95
theorem zb9 (n:Int) (w:World) (h0:0 ≤ n) (h1:n ≤ 255) :
  Calls Tryz.prog 88 #[.int .u8 n] w fun e w' => e = .returned (.bool (digB n)) ∧ w = w':=by
 go_enter Tryz.func88,Tryz.ntmps88
 go_wp2
 all_goals go_ret
 all_goals (simp [digB, *]; try omega)
theorem zm9 (n:Int) (w:World) (h0:0 ≤ n) (h1:n ≤ 255) :
  Calls Tryz.prog 154 #[.int .u8 n] w fun e w' => e = .returned (.bool (letB n)) ∧ w = w':=by
 go_enter Tryz.func154,Tryz.ntmps154
 go_wp2
 all_goals go_ret
 all_goals simp [letB, *]
 all_goals omega
theorem zf2 (n:Int) (w:World) (h0:0 ≤ n) (h1:n ≤ 255) :
  Calls Tryz.prog 89 #[.int .u8 n] w fun e w' => e = .returned (.bool (nmB n)) ∧ w = w':=by
 go_enter Tryz.func89,Tryz.ntmps89
 go_wp2_with (first | (go_at_call 154; refine (zm9 _ _ (by omega) (by omega)).mono ?_; rintro e w' ⟨rfl,rfl⟩) | (go_at_call 88; refine (zb9 _ _ (by omega) (by omega)).mono ?_; rintro e w' ⟨rfl,rfl⟩))
 all_goals go_ret
 all_goals simp [nmB, *]
def allNm (l:List UInt8):Bool:=l.all fun c => nmB (c.toNat:Int)
def nameL (l:List UInt8):Bool:=!l.isEmpty && decide (l.length ≤ 64) && !digB ((l.getD 0 0).toNat:Int) && allNm l
def prB (n:Int):Bool:=decide (32 ≤ n) && decide (n ≤ 126)
theorem ze5 (n:Int) (w:World) (h0:0 ≤ n) (h1:n ≤ 255) :
  Calls Tryz.prog 224 #[.int .u8 n] w fun e w' => e = .returned (.bool (prB n)) ∧ w = w':=by
 go_enter Tryz.func224,Tryz.ntmps224
 go_wp2
 all_goals go_ret
 all_goals (simp [prB, *]; try omega)
theorem zg3 (l:List UInt8) (p:UInt8 → Bool) (k:Nat) (h:k < l.length) (hp:p l[k] = false):l.all p = false:=by
 rw [List.all_eq_false]; exact ⟨l[k],List.getElem_mem h,by simp [hp]⟩
theorem zc3 (l:List UInt8) (p:UInt8 → Bool) (k:Nat) (h:k < l.length) (ha:(l.take k).all p = true) (hp:p l[k] = true):(l.take (k+1)).all p = true:=by
 rw [zm0 l k h,List.all_append,ha]; simp [hp]
theorem zr5 (s:ByteArray) (w:World) (h:s.toList = []) :
  Calls Tryz.prog 43 #[.string s] w fun e w' => e = .returned (.bool false) ∧ w = w':=by
 go_enter Tryz.func43,Tryz.ntmps43
 go_wp2_with fail
 go_ret
 exact ⟨rfl,rfl⟩
theorem zx1 (s:ByteArray) (w:World) (hs:s.size ≤ maxLen) (h:64 < s.size) :
  Calls Tryz.prog 43 #[.string s] w fun e w' => e = .returned (.bool false) ∧ w = w':=by
 unfold maxLen at hs
 have h2:s.toList.isEmpty = false:=zc6 (by omega)
 have h3:s.toList ≠ []:=zd3 (by omega)
 go_enter Tryz.func43,Tryz.ntmps43
 go_wp2_with fail
 go_ret
 exact ⟨rfl,rfl⟩
theorem zr6 (s:ByteArray) (w:World) (h0:0 < s.size) (h:s.size ≤ 64) (hd:digB s[0].toNat = true) :
  Calls Tryz.prog 43 #[.string s] w fun e w' => e = .returned (.bool false) ∧ w = w':=by
 have h2:s.toList.isEmpty = false:=zc6 (by omega)
 have h3:s.toList ≠ []:=zd3 (by omega)
 have hb:=zb7 s[0]
 go_enter Tryz.func43,Tryz.ntmps43
 go_wp2_with (go_at_call 88; refine (zb9 _ _ (by omega) (by omega)).mono ?_; rintro e w' ⟨rfl,rfl⟩)
 go_ret
 exact ⟨rfl,rfl⟩
theorem zx0 (s:ByteArray) (w:World) (h0:0 < s.size) (h:s.size ≤ 64) (hd:digB s[0].toNat = false) :
  Calls Tryz.prog 43 #[.string s] w fun e w' => e = .returned (.bool (allNm s.data.toList)) ∧ w = w':=by
 have h2:s.toList.isEmpty = false:=zc6 (by omega)
 have h3:s.toList ≠ []:=zd3 (by omega)
 have hb:=zb7 s[0]
 go_enter Tryz.func43,Tryz.ntmps43
 go_wp2_with (go_at_call 88; refine (zb9 _ _ (by omega) (by omega)).mono ?_; rintro e w' ⟨rfl,rfl⟩)
 go_loop [3] (fun i => ∃ k:Nat,k ≤ s.size ∧ i = .int .i64 k ∧ (s.data.toList.take k).all (fun c => nmB (c.toNat:Int)) = true) (fun i => s.size - (intOf i).toNat)
 case atStart => exact ⟨0,Nat.zero_le _,rfl,rfl⟩
 case round =>
  obtain ⟨k,hk,rfl,hall⟩:=hrel
  have HA:=Lib.hid hall
  clear hall
  by_cases hlt:k < s.size
  ·have hbk:=zb7 s[k]
   have e:s.data.toList[k]'(by simpa using hlt) = s[k]:=rfl
   cases hn:nmB (s[k].toNat:Int)
   ·have H1:Hid (allNm s.data.toList = false):=Lib.hid (zg3 s.data.toList (fun c => nmB (c.toNat:Int)) k (by simpa using hlt) hn)
    clear e
    go_wp2_with (go_at_call 89; refine (zf2 _ _ (by omega) (by omega)).mono ?_; rintro e w' ⟨rfl,rfl⟩)
    go_ret
    exact ⟨by rw [H1.out]; rfl,rfl⟩
   ·have H1:=Lib.hid (zc3 s.data.toList (fun c => nmB (c.toNat:Int)) k (by simpa using hlt) HA.out hn)
    clear e
    go_wp2_with (go_at_call 89; refine (zf2 _ _ (by omega) (by omega)).mono ?_; rintro e w' ⟨rfl,rfl⟩)
    go_round
    case rel => exact ⟨k + 1,by omega,by go_num,H1.out⟩
    case measure => simp [intOf]; omega
  ·have H1:Hid (allNm s.data.toList = true):=by
    have:=HA.out
    rw [List.take_of_length_le (by simp; omega)] at this
    exact Lib.hid this
   go_wp2
   go_ret
   exact ⟨by rw [H1.out]; rfl,rfl⟩
theorem zl2 (s:ByteArray) (w:World) (hs:s.size ≤ maxLen) :
  Calls Tryz.prog 43 #[.string s] w fun e w' => e = .returned (.bool (nameL s.data.toList)) ∧ w = w':=by
 have hl:=size_eq s
 by_cases h0:s.size = 0
 ·have e:s.data.toList = []:=List.eq_nil_of_length_eq_zero (by omega)
  rw [e]; exact zr5 s w (zp8 h0)
 have hne:s.data.toList.isEmpty = false:=by
  rw [← Lib.toList_data]; exact zc6 (by omega)
 by_cases h1:64 < s.size
 ·have e:nameL s.data.toList = false:=by unfold nameL; rw [hl]; simp; omega
  rw [e]; exact zx1 s w hs h1
 have e0:s.data.toList.getD 0 0 = s[0]'(by omega):=by
  rw [List.getD_eq_getElem?_getD,List.getElem?_eq_getElem (by omega)]; rfl
 cases hd:digB ((s[0]'(by omega)).toNat:Int)
 ·have e:nameL s.data.toList = allNm s.data.toList:=by
   unfold nameL; rw [e0,hd,hne,hl]; simp; omega
  rw [e]; exact zx0 s w (by omega) (by omega) hd
 ·have e:nameL s.data.toList = false:=by unfold nameL; rw [e0,hd]; simp
  rw [e]; exact zr6 s w (by omega) (by omega) hd
end Go.Proofs.YthjoelpfmimedaaGreatDoor.T1
namespace Go.Proofs.YthjoelpfmimedaaGreatDoor.T1
open Go.RowKit
def hexL:List UInt8:=[48,49,50,51,52,53,54,55,56,57,97,98,99,100,101,102]
def hexC (n:Nat):UInt8:=hexL.getD n 0
def escL (c:UInt8):List UInt8 :=
 if c = 34 then [92,34] else if c = 92 then [92,92] else if c = 10 then [92,110] else if c = 13 then [92,114] else if c = 9 then [92,116]
 else if prB (c.toNat:Int) then [c] else [92,117,48,48,hexC (c.toNat / 16),hexC (c.toNat % 16)]
def ze3 (l:List UInt8):List UInt8:=34 :: l.flatMap escL ++ [34]
theorem yg3 (c:UInt8):(escL c).length ≤ 6:=by
 unfold escL
 repeat' split
 all_goals simp
theorem zF5 (l:List UInt8):(l.flatMap escL).length ≤ 6 * l.length:=by
 induction l with
 | nil => simp
 | cons c l ih => simp only [List.flatMap_cons,List.length_append,List.length_cons]; have:=yg3 c; omega
end Go.Proofs.YthjoelpfmimedaaGreatDoor.T1
namespace Go.Proofs.YthjoelpfmimedaaGreatDoor.T1
open Go.RowKit
def letU (n:Int):Bool:=letB n || n == 95
theorem zb3 (n:Int) (w:World) (h0:0 ≤ n) (h1:n ≤ 255) :
  Calls Tryz.prog 101 #[.int .u8 n] w fun e w' => e = .returned (.bool (digB n)) ∧ w = w':=by
 go_enter Tryz.func101,Tryz.ntmps101
 go_wp2
 all_goals go_ret
 all_goals (simp [digB, *]; try omega)
theorem zd5 (n:Int) (w:World) (h0:0 ≤ n) (h1:n ≤ 255) :
  Calls Tryz.prog 100 #[.int .u8 n] w fun e w' => e = .returned (.bool (letU n)) ∧ w = w':=by
 go_enter Tryz.func100,Tryz.ntmps100
 go_wp2
 all_goals go_ret
 all_goals refine ⟨congrArg Ending.returned (congrArg Value.bool ?_),rfl⟩
 all_goals (rw [Bool.eq_iff_iff]; simp [letU,letB, *]; try omega)
theorem zo2 (s:ByteArray) (w:World) (h:s.size = 0) :
  Calls Tryz.prog 46 #[.string s] w fun e w' => e = .returned (.bool false) ∧ w = w':=by
 have h':(s.size:Int) < 1:=by omega
 clear h
 go_enter Tryz.func46,Tryz.ntmps46
 go_wp2_with fail
 go_ret
 exact ⟨rfl,rfl⟩
theorem zr1 (s:ByteArray) (w:World) (hs:s.size ≤ maxLen) (h:64 < s.size) :
  Calls Tryz.prog 46 #[.string s] w fun e w' => e = .returned (.bool false) ∧ w = w':=by
 unfold maxLen at hs
 go_enter Tryz.func46,Tryz.ntmps46
 go_wp2_with fail
 go_ret
 exact ⟨rfl,rfl⟩
theorem nm_of (n:Int):nmB n = (letU n || digB n):=by unfold nmB letU; cases letB n <;> cases digB n <;> simp
def zn2 (l:List UInt8) (k:Nat):Prop:=allNm (l.take k) = true ∧ (0 < k → digB ((l.getD 0 0).toNat:Int) = false)
theorem zo6 (l:List UInt8):zn2 l 0:=⟨rfl,fun h => absurd h (by omega)⟩
theorem zj2 {l:List UInt8} {k:Nat} (h:zn2 l k) (hk:k < l.length) (h1:nmB (l[k].toNat:Int) = true) (h2:k = 0 → digB (l[k].toNat:Int) = false):zn2 l (k + 1):=by
 refine ⟨zc3 l (fun c => nmB (c.toNat:Int)) k hk h.1 h1,fun _ => ?_⟩
 by_cases e:k = 0
 ·subst e; rw [List.getD_eq_getElem?_getD,List.getElem?_eq_getElem hk]; exact h2 rfl
 ·exact h.2 (by omega)
theorem zr9 {l:List UInt8} (h:zn2 l l.length) (h0:0 < l.length) (h1:l.length ≤ 64):nameL l = true:=by
 unfold nameL
 have e:=h.1
 rw [List.take_length] at e
 rw [h.2 h0,e]
 cases l with
 | nil => simp at h0
 | cons a l => simp at h1 ⊢; omega
theorem zr4 {l:List UInt8} {k:Nat} (hk:k < l.length) (h:nmB (l[k].toNat:Int) = false):nameL l = false:=by
 unfold nameL
 rw [show allNm l = false from zg3 l (fun c => nmB (c.toNat:Int)) k hk h]; simp
theorem zm8 {l:List UInt8} (hk:0 < l.length) (h:digB (l[0].toNat:Int) = true):nameL l = false:=by
 unfold nameL
 rw [List.getD_eq_getElem?_getD,List.getElem?_eq_getElem hk,Option.getD_some,h]; simp
theorem zr0 (s:ByteArray) (w:World) (h0:0 < s.size) (h:s.size ≤ 64) :
  Calls Tryz.prog 46 #[.string s] w fun e w' => e = .returned (.bool (nameL s.data.toList)) ∧ w = w':=by
 have hl:=Lib.hid (size_eq s)
 go_enter Tryz.func46,Tryz.ntmps46
 go_wp2_with fail
 go_loop [3] (fun i => ∃ k:Nat,k ≤ s.size ∧ i = .int .i64 k ∧ zn2 s.data.toList k) (fun i => s.size - (intOf i).toNat)
 case atStart => exact ⟨0,Nat.zero_le _,rfl,zo6 _⟩
 case round =>
  obtain ⟨k,hk,rfl,hH⟩:=hrel
  by_cases hlt:k < s.size
  ·have hbk:=zb7 s[k]
   have hlk:k < s.data.toList.length:=by rw [hl.out]; exact hlt
   cases n1:letU (s[k].toNat:Int)
   ·cases n2:digB (s[k].toNat:Int)
    ·have H2:Hid (nameL s.data.toList = false):=Lib.hid (zr4 hlk (by show nmB (s[k].toNat:Int) = false; rw [nm_of,n1,n2]; rfl))
     go_wp2_with (first | (go_at_call 100; refine (zd5 _ _ (by omega) (by omega)).mono ?_; rintro e w' ⟨rfl,rfl⟩) | (go_at_call 101; refine (zb3 _ _ (by omega) (by omega)).mono ?_; rintro e w' ⟨rfl,rfl⟩))
     all_goals go_ret
     all_goals exact ⟨by rw [H2.out]; rfl,rfl⟩
    ·by_cases hd:k = 0
     ·subst hd
      have H2:Hid (nameL s.data.toList = false):=Lib.hid (zm8 hlk n2)
      go_wp2_with (first | (go_at_call 100; refine (zd5 _ _ (by omega) (by omega)).mono ?_; rintro e w' ⟨rfl,rfl⟩) | (go_at_call 101; refine (zb3 _ _ (by omega) (by omega)).mono ?_; rintro e w' ⟨rfl,rfl⟩))
      all_goals go_ret
      all_goals exact ⟨by rw [H2.out]; rfl,rfl⟩
     ·have hd':((k:Int) == 0) = false:=by rw [beq_eq_false_iff_ne]; omega
      have H3:=Lib.hid (zj2 hH hlk (by show nmB (s[k].toNat:Int) = true; rw [nm_of,n1,n2]; rfl) (fun e => absurd e hd))
      clear hH
      go_wp2_with (first | (go_at_call 100; refine (zd5 _ _ (by omega) (by omega)).mono ?_; rintro e w' ⟨rfl,rfl⟩) | (go_at_call 101; refine (zb3 _ _ (by omega) (by omega)).mono ?_; rintro e w' ⟨rfl,rfl⟩))
      go_round
      case rel => exact ⟨k + 1,by omega,by go_num,H3.out⟩
      case measure => simp [intOf]; omega
   ·have hnd:digB (s[k].toNat:Int) = false:=by
     unfold letU letB at n1; unfold digB; simp at n1 ⊢; omega
    have H3:=Lib.hid (zj2 hH hlk (by show nmB (s[k].toNat:Int) = true; rw [nm_of,n1]; rfl) (fun _ => hnd))
    clear hH hnd
    go_wp2_with (go_at_call 100; refine (zd5 _ _ (by omega) (by omega)).mono ?_; rintro e w' ⟨rfl,rfl⟩)
    go_round
    case rel => exact ⟨k + 1,by omega,by go_num,H3.out⟩
    case measure => simp [intOf]; omega
  ·obtain rfl:k = s.size:=by omega
   have H1:Hid (nameL s.data.toList = true):=Lib.hid (zr9 (by rw [hl.out]; exact hH) (by rw [hl.out]; exact h0) (by rw [hl.out]; exact h))
   go_wp2
   go_ret
   exact ⟨by rw [H1.out]; rfl,rfl⟩
theorem zd0 (s:ByteArray) (w:World) (hs:s.size ≤ maxLen) :
  Calls Tryz.prog 46 #[.string s] w fun e w' => e = .returned (.bool (nameL s.data.toList)) ∧ w = w':=by
 have hl:=size_eq s
 by_cases h0:s.size = 0
 ·have e:s.data.toList = []:=List.eq_nil_of_length_eq_zero (by omega)
  rw [e]; exact zo2 s w h0
 by_cases h1:64 < s.size
 ·have e:nameL s.data.toList = false:=by unfold nameL; rw [hl]; simp; omega
  rw [e]; exact zr1 s w hs h1
 exact zr0 s w (by omega) (by omega)
end Go.Proofs.YthjoelpfmimedaaGreatDoor.T1
namespace Go.Proofs.YthjoelpfmimedaaGreatDoor.T1
open Go.RowKit
theorem zL6 (w:World) (xs:Array Value) (l:List UInt8) (k c:Nat) (hk:k = l.length) (hx:xs = (l.map fun c:UInt8 => Value.int .u8 (c.toNat:Int)).toArray) :
  (convert 85 9 (.slice (some ⟨w.heap.size,0,none⟩) k c)).run Tryz.prog (w.alloc (.cells xs 5)) = .ok (.string ⟨l.toArray⟩) (w.alloc (.cells xs 5)):=by
 subst hk
 exact run_convert_bytes_back _ 85 9 5 _ c l Tryz.underlying85 Tryz.underlying5 Tryz.underlying9 (yh8 w xs _ l hx)
theorem hexC_lo:∀ n:Fin 10,(48 + (n.val:Int)) = ((hexC n.val).toNat:Int):=by decide +kernel
theorem hexC_hi:∀ n:Fin 16,10 ≤ n.val → (87 + (n.val:Int)) = ((hexC n.val).toNat:Int):=by decide +kernel
theorem zR8 (n:Int) (w:World) (h0:0 ≤ n) (h1:n < 16) :
  Calls Tryz.prog 128 #[.int .u8 n] w fun e w' => e = .returned (.int .u8 ((hexC n.toNat).toNat:Int)) ∧ w = w':=by
 by_cases h:n < 10
 ·have e:Hid (48 + n = ((hexC n.toNat).toNat:Int)):=Lib.hid (by
   have:=hexC_lo ⟨n.toNat,by omega⟩
   simp only at this; omega)
  go_enter Tryz.func128,Tryz.ntmps128
  go_wp2_with fail
  go_ret
  exact ⟨congrArg Ending.returned (congrArg (Value.int .u8) e.out),rfl⟩
 ·have e:Hid (87 + n = ((hexC n.toNat).toNat:Int)):=Lib.hid (by
   have:=hexC_hi ⟨n.toNat,by omega⟩ (by simp only; omega)
   simp only at this; omega)
  go_enter Tryz.func128,Tryz.ntmps128
  go_wp2_with fail
  go_ret
  exact ⟨congrArg Ending.returned (congrArg (Value.int .u8) e.out),rfl⟩
theorem zT7 {a b c:World} (h:Below a.heap.size a b) (k:Below b.heap.size b c):Below a.heap.size a c:=h.trans (k.mono h.size)
def StrB (w:World) (l:List UInt8) (e:Ending) (w':World):Prop:=e = .returned (.string ⟨l.toArray⟩) ∧ Below w.heap.size w w'
theorem zk4 (n:Int) (w:World) (l:List UInt8) (h:(n = 34 ∧ l = [92,34]) ∨ (n = 92 ∧ l = [92,92]) ∨ (n = 10 ∧ l = [92,110]) ∨ (n = 13 ∧ l = [92,114]) ∨ (n = 9 ∧ l = [92,116])) :
  Calls Tryz.prog 65 #[.int .u8 n] w (StrB w l):=by
 rcases h with ⟨rfl,rfl⟩ | ⟨rfl,rfl⟩ | ⟨rfl,rfl⟩ | ⟨rfl,rfl⟩ | ⟨rfl,rfl⟩
 all_goals
  go_enter Tryz.func65,Tryz.ntmps65
  go_wp2_with fail
  go_ret
  exact ⟨rfl,Below.refl _ _⟩
theorem zV5 (c:UInt8) (w:World) (h1:c ≠ 34) (h2:c ≠ 92) (h3:c ≠ 10) (h4:c ≠ 13) (h5:c ≠ 9) (hp:prB (c.toNat:Int) = true) :
  Calls Tryz.prog 65 #[.int .u8 c.toNat] w (StrB w [c]):=by
 have hb:=zb7 c
 have g1:((c.toNat:Int) == 34) = false:=u8_ne h1
 have g2:((c.toNat:Int) == 92) = false:=u8_ne h2
 have g3:((c.toNat:Int) == 10) = false:=u8_ne h3
 have g4:((c.toNat:Int) == 13) = false:=u8_ne h4
 have g5:((c.toNat:Int) == 9) = false:=u8_ne h5
 unfold prB at hp
 simp only [Bool.and_eq_true,decide_eq_true_eq] at hp
 obtain ⟨p1,p2⟩:=hp
 have hcv:=fun w => zL6 w #[.int .u8 (c.toNat:Int)] [c] 1 1 rfl rfl
 go_enter Tryz.func65,Tryz.ntmps65
 go_wp2_with fail
 go_ret
 exact ⟨rfl,(Below.refl _ _).alloc (Nat.le_refl _) _⟩
theorem resc_hex (c:UInt8) (w:World) (h1:c ≠ 34) (h2:c ≠ 92) (h3:c ≠ 10) (h4:c ≠ 13) (h5:c ≠ 9) (hp:prB (c.toNat:Int) = false) :
  Calls Tryz.prog 65 #[.int .u8 c.toNat] w (StrB w [92,117,48,48,hexC (c.toNat / 16),hexC (c.toNat % 16)]):=by
 have hb:=zb7 c
 have g1:((c.toNat:Int) == 34) = false:=u8_ne h1
 have g2:((c.toNat:Int) == 92) = false:=u8_ne h2
 have g3:((c.toNat:Int) == 10) = false:=u8_ne h3
 have g4:((c.toNat:Int) == 13) = false:=u8_ne h4
 have g5:((c.toNat:Int) == 9) = false:=u8_ne h5
 have p:(c.toNat:Int) < 32 ∨ 126 < (c.toNat:Int):=by unfold prB at hp; simp at hp; omega
 clear hp
 have hcv:=fun w => zL6 w #[.int .u8 ((hexC (c.toNat / 16)).toNat:Int),.int .u8 ((hexC (c.toNat % 16)).toNat:Int)] [hexC (c.toNat / 16),hexC (c.toNat % 16)] 2 2 rfl rfl
 have e1:((c.toNat:Int) / 16).toNat = c.toNat / 16:=by omega
 have e2:((c.toNat:Int) % 16).toNat = c.toNat % 16:=by omega
 rcases p with p | p
 all_goals
  go_enter Tryz.func65,Tryz.ntmps65
  go_wp2_with fail
  refine (zR8 _ _ (by omega) (by omega)).mono ?_
  rintro e w1 ⟨rfl,rfl⟩
  go_wp2_with fail
  refine (zR8 _ _ (by omega) (by omega)).mono ?_
  rintro e w1 ⟨rfl,rfl⟩
  go_wp2_with fail
  go_ret
  exact ⟨rfl,(Below.refl _ _).alloc (Nat.le_refl _) _⟩
theorem resc_any (c:UInt8) (w:World) :
  Calls Tryz.prog 65 #[.int .u8 c.toNat] w (StrB w (escL c)):=by
 unfold escL
 by_cases h1:c = 34
 ·subst h1; exact zk4 34 w _ (by simp)
 by_cases h2:c = 92
 ·subst h2; exact zk4 92 w _ (by simp)
 by_cases h3:c = 10
 ·subst h3; exact zk4 10 w _ (by simp)
 by_cases h4:c = 13
 ·subst h4; exact zk4 13 w _ (by simp)
 by_cases h5:c = 9
 ·subst h5; exact zk4 9 w _ (by simp)
 rw [if_neg h1,if_neg h2,if_neg h3,if_neg h4,if_neg h5]
 cases hp:prB (c.toNat:Int)
 ·exact resc_hex c w h1 h2 h3 h4 h5 hp
 ·exact zV5 c w h1 h2 h3 h4 h5 hp
theorem add_L (w:World) (a b:List UInt8) (h:a.length + b.length ≤ 9223372036854775807) :
  (Op.stringOp .add ⟨a.toArray⟩ ⟨b.toArray⟩).run Tryz.prog w = .ok (.string ⟨(a ++ b).toArray⟩) w:=by
 rw [run_string_add_sum w _ _ (by simp [ByteArray.size]; omega),ByteArray.mk_append_mk]
def zl5 (l:List UInt8) (k:Nat) (a:List UInt8):Prop:=a = 34 :: (l.take k).flatMap escL
theorem zN8 {l a:List UInt8} {k:Nat} (h:zl5 l k a):a.length ≤ 6 * k + 1:=by
 unfold zl5 at h
 have h1:=zF5 (l.take k)
 have h2:(l.take k).length ≤ k:=List.length_take_le _ _
 rw [h,List.length_cons]; omega
theorem zJ1 {l a:List UInt8} {k:Nat} (h:zl5 l k a) (hk:k < l.length):zl5 l (k + 1) (a ++ escL l[k]):=by
 unfold zl5 at h ⊢
 rw [h,zm0 l k hk,List.flatMap_append]
 simp only [List.flatMap_cons,List.flatMap_nil,List.append_nil,List.cons_append]
theorem zN9 {l a:List UInt8} (h:zl5 l l.length a):a ++ [34] = ze3 l:=by
 unfold zl5 at h
 rw [List.take_length] at h
 rw [h]; rfl
theorem zA7 (s:ByteArray) (w:World) (hs:s.size ≤ 1099511627776) :
  Calls Tryz.prog 32 #[.string s] w (StrB w (ze3 s.data.toList)):=by
 have hl:=Lib.hid (size_eq s)
 go_enter Tryz.func32,Tryz.ntmps32
 go_wp2_with fail
 go_loopw [3,4] (fun v i wr => ∃ (k:Nat) (a:List UInt8),k ≤ s.size ∧ i = .int .i64 k ∧ v = .string ⟨a.toArray⟩ ∧ zl5 s.data.toList k a ∧ Below w.heap.size w wr) (fun _ i _ => s.size - (intOf i).toNat)
 case atStart => exact ⟨0,[34],Nat.zero_le _,rfl,rfl,rfl,Below.refl _ _⟩
 case round =>
  obtain ⟨k,a,hk,rfl,rfl,hq,hb⟩:=hrel
  have hal:=zN8 hq
  have HB:=Lib.hid hb
  clear hb
  by_cases hlt:k < s.size
  ·have hlk:k < s.data.toList.length:=by rw [hl.out]; exact hlt
   have hqs:zl5 s.data.toList (k + 1) (a ++ escL s[k]):=zJ1 hq hlk
   have hel:=yg3 s[k]
   have hadd:=fun w => add_L w a (escL s[k]) (by omega)
   clear hq
   go_wp2_with fail
   refine (resc_any _ _).mono ?_
   rintro e w1 ⟨rfl,hb1⟩
   go_wp2
   go_roundw
   case rel => exact ⟨k + 1,a ++ escL s[k],by omega,by go_num,rfl,hqs,zT7 HB.out hb1⟩
   case measure => simp [intOf]; omega
  ·obtain rfl:k = s.size:=by omega
   have he:=Lib.hid (zN9 (l:=s.data.toList) (by rw [hl.out]; exact hq))
   have hadd:=fun w => add_L w a [34] (by simp; omega)
   clear hq
   go_wp2
   go_ret
   exact ⟨by rw [← he.out]; rfl,HB.out⟩
end Go.Proofs.YthjoelpfmimedaaGreatDoor.T1
namespace Go.Proofs.YthjoelpfmimedaaGreatDoor.T1
open Go.RowKit
def hexV (n:Int):Int:=if 48 ≤ n ∧ n ≤ 57 then n - 48 else if 97 ≤ n ∧ n ≤ 102 then n - 87 else if 65 ≤ n ∧ n ≤ 70 then n - 55 else -1
theorem zo5 (n:Int) : -1 ≤ hexV n ∧ hexV n ≤ 15:=by
 unfold hexV
 split
 ·omega
 ·split
  ·omega
  ·split <;> omega
theorem zK5 (n:Int) (w:World) (h0:0 ≤ n) (h1:n ≤ 255) (h:0 ≤ hexV n) :
  Calls Tryz.prog 266 #[.int .u8 n] w fun e w' => e = .returned (.tuple #[.int .i64 (hexV n),.bool true]) ∧ w = w':=by
 have hc:(48 ≤ n ∧ n ≤ 57) ∨ (97 ≤ n ∧ n ≤ 102) ∨ (65 ≤ n ∧ n ≤ 70):=by unfold hexV at h; omega
 clear h
 rcases hc with ⟨a,b⟩ | ⟨a,b⟩ | ⟨a,b⟩
 all_goals
  first
   | (have e1:Hid (hexV n = n - 48):=Lib.hid (by unfold hexV; omega)
      have e2:digB n = true:=by unfold digB; simp; omega
      go_enter Tryz.func266,Tryz.ntmps266
      go_wp2_with (go_at_call 88; refine (zb9 _ _ (by omega) (by omega)).mono ?_; rintro e w' ⟨rfl,rfl⟩)
      go_ret2
      exact ⟨by rw [e1.out]; rfl,rfl⟩)
   | (have e1:Hid (hexV n = n - 97 + 10):=Lib.hid (by unfold hexV; omega)
      have e2:digB n = false:=by unfold digB; simp; omega
      go_enter Tryz.func266,Tryz.ntmps266
      go_wp2_with (go_at_call 88; refine (zb9 _ _ (by omega) (by omega)).mono ?_; rintro e w' ⟨rfl,rfl⟩)
      go_ret2
      exact ⟨by rw [e1.out]; rfl,rfl⟩)
   | (have e1:Hid (hexV n = n - 65 + 10):=Lib.hid (by unfold hexV; omega)
      have e2:digB n = false:=by unfold digB; simp; omega
      go_enter Tryz.func266,Tryz.ntmps266
      go_wp2_with (go_at_call 88; refine (zb9 _ _ (by omega) (by omega)).mono ?_; rintro e w' ⟨rfl,rfl⟩)
      go_ret2
      exact ⟨by rw [e1.out]; rfl,rfl⟩)
theorem zP1 (n:Int) (w:World) (h0:0 ≤ n) (h1:n ≤ 255) (h:hexV n < 0) :
  Calls Tryz.prog 266 #[.int .u8 n] w fun e w' => e = .returned (.tuple #[.int .i64 0,.bool false]) ∧ w = w':=by
 have hc:(n < 48) ∨ (57 < n ∧ n < 65) ∨ (70 < n ∧ n < 97) ∨ 102 < n:=by unfold hexV at h; omega
 have e2:digB n = false:=by unfold digB; simp; omega
 clear h
 rcases hc with a | ⟨a,b⟩ | ⟨a,b⟩ | a
 all_goals
  go_enter Tryz.func266,Tryz.ntmps266
  go_wp2_with (go_at_call 88; refine (zb9 _ _ (by omega) (by omega)).mono ?_; rintro e w' ⟨rfl,rfl⟩)
  go_ret2
  exact ⟨rfl,rfl⟩
def bv (l:List UInt8) (k:Nat):Int:=hexV ((l.getD k 0).toNat:Int)
def cdL (l:List UInt8):Nat → Int
 | 0 => 0
 | k + 1 => cdL l k * 16 + bv l k
def OkL (l:List UInt8) (k:Nat):Prop:=∀ j,j < k → 0 ≤ bv l j
theorem zS3 (l:List UInt8):OkL l 0:=fun _ h => absurd h (by omega)
theorem zS4 {l:List UInt8} {k:Nat} (h:OkL l k) (h1:0 ≤ bv l k):OkL l (k + 1):=fun j hj => by
 by_cases e:j = k
 ·subst e; exact h1
 ·exact h j (by omega)
theorem zk7 {l:List UInt8}:∀ {k:Nat},OkL l k → 0 ≤ cdL l k ∧ cdL l k < 16 ^ k
 | 0,_ => by simp [cdL]
 | k + 1,h => by
   have ih:=zk7 (l:=l) (k:=k) (fun j hj => h j (by omega))
   have h1:=h k (by omega)
   have h2:=(zo5 ((l.getD k 0).toNat:Int)).2
   have h3:bv l k ≤ 15:=h2
   have e:cdL l (k + 1) = cdL l k * 16 + bv l k:=rfl
   have p:(16:Int) ^ (k + 1) = 16 ^ k * 16:=by rw [Int.pow_succ]
   rw [e,p]; omega
def okB (l:List UInt8):Bool:=decide (4 ≤ l.length) && decide (0 ≤ bv l 0) && decide (0 ≤ bv l 1) && decide (0 ≤ bv l 2) && decide (0 ≤ bv l 3) && decide (cdL l 4 ≤ 255)
def numL4 (l:List UInt8):Option UInt8:=if okB l then some (UInt8.ofNat (cdL l 4).toNat) else none
def nb2 (k:Int):Option UInt8 → Value
 | some b => .tuple #[.int .u8 b.toNat,.int .i64 k]
 | none => .tuple #[.int .u8 0,.int .i64 0]
theorem nb2_some {k n:Int} {b:UInt8} (h:(b.toNat:Int) = n):nb2 k (some b) = .tuple #[.int .u8 n,.int .i64 k]:=by subst h; rfl
theorem zw8 {l:List UInt8} (h:l.length < 4):numL4 l = none:=by
 unfold numL4 okB; rw [if_neg]; simp; omega
theorem ye5 {l:List UInt8} {k:Nat} (hk:k < 4) (h:bv l k < 0):numL4 l = none:=by
 have:k = 0 ∨ k = 1 ∨ k = 2 ∨ k = 3:=by omega
 unfold numL4 okB; rw [if_neg]
 rcases this with rfl | rfl | rfl | rfl <;> simp <;> omega
theorem ye4 {l:List UInt8} (h:255 < cdL l 4):numL4 l = none:=by
 unfold numL4 okB; rw [if_neg]; simp; omega
theorem ye1 {l:List UInt8} (h0:4 ≤ l.length) (h:OkL l 4) (h1:cdL l 4 ≤ 255):numL4 l = some (UInt8.ofNat (cdL l 4).toNat):=by
 unfold numL4 okB
 rw [if_pos]
 simp [h0,h 0 (by omega),h 1 (by omega),h 2 (by omega),h 3 (by omega),h1]
theorem ofNat_toNat {n:Int} (h0:0 ≤ n) (h1:n ≤ 255):((UInt8.ofNat n.toNat).toNat:Int) = n:=by
 rw [UInt8.toNat_ofNat']; omega
theorem zg0 (s:ByteArray) (k:Nat) (h:k < s.size):s.data.toList.getD k 0 = s[k]:=by
 have:=size_eq s
 rw [List.getD_eq_getElem?_getD,List.getElem?_eq_getElem (by omega)]; rfl
def zC5 (k:Int) (o:Option UInt8) (w:World) (e:Ending) (w':World):Prop:=e = .returned (nb2 k o) ∧ w = w'
theorem zz4 (s:ByteArray) (w:World) (h:s.size < 4) :
  Calls Tryz.prog 242 #[.string s] w (zC5 6 (numL4 s.data.toList) w):=by
 rw [zw8 (by rw [size_eq]; exact h)]
 go_enter Tryz.func242,Tryz.ntmps242
 go_wp2_with fail
 go_ret2
 exact ⟨rfl,rfl⟩
theorem zE5 (s:ByteArray) (w:World) (h:4 ≤ s.size) (hs:s.size ≤ maxLen) :
  Calls Tryz.prog 242 #[.string s] w (zC5 6 (numL4 s.data.toList) w):=by
 unfold maxLen at hs
 have hl:=Lib.hid (size_eq s)
 go_enter Tryz.func242,Tryz.ntmps242
 go_wp2_with fail
 go_loop [4,11] (fun n i => ∃ k:Nat,k ≤ 4 ∧ i = .int .i64 k ∧ n = .int .i64 (cdL s.data.toList k) ∧ OkL s.data.toList k) (fun _ i => 4 - (intOf i).toNat)
 case atStart => exact ⟨0,by omega,rfl,rfl,zS3 _⟩
 case round =>
  obtain ⟨k,hk,rfl,rfl,hok⟩:=hrel
  obtain ⟨c0,c1⟩:=zk7 hok
  by_cases hlt:k < 4
  ·have c2:cdL s.data.toList k < 65536:=by
    have:k = 0 ∨ k = 1 ∨ k = 2 ∨ k = 3:=by omega
    rcases this with rfl | rfl | rfl | rfl <;> simp at c1 <;> omega
   clear c1
   have hks:k < s.size:=by omega
   have hbk:=zb7 s[k]
   have hbv:bv s.data.toList k = hexV (s[k].toNat:Int):=by unfold bv; rw [zg0 s k hks]
   have hv:=zo5 (s[k].toNat:Int)
   by_cases hh:0 ≤ hexV (s[k].toNat:Int)
   ·have H1:=Lib.hid (zS4 hok (by rw [hbv]; exact hh))
    have H2:Hid (cdL s.data.toList (k + 1) = cdL s.data.toList k * 16 + hexV (s[k].toNat:Int)):=Lib.hid (by rw [← hbv]; rfl)
    clear hbv hok
    go_wp2_with (go_at_call 266; refine (zK5 _ _ (by omega) (by omega) hh).mono ?_; rintro e w' ⟨rfl,rfl⟩)
    go_round
    case rel => exact ⟨k + 1,by omega,by go_num,by rw [H2.out],H1.out⟩
    case measure => simp [intOf]; omega
   ·have H1:Hid (numL4 s.data.toList = none):=Lib.hid (ye5 hlt (by rw [hbv]; omega))
    clear hbv hok
    go_wp2_with (go_at_call 266; refine (zP1 _ _ (by omega) (by omega) (by omega)).mono ?_; rintro e w' ⟨rfl,rfl⟩)
    go_ret2
    exact ⟨by rw [H1.out]; rfl,rfl⟩
  ·obtain rfl:k = 4:=by omega
   simp only [Int.reducePow] at c1
   by_cases hbig:255 < cdL s.data.toList 4
   ·have H1:=Lib.hid (ye4 hbig)
    go_wp2
    go_ret2
    exact ⟨by rw [H1.out]; rfl,rfl⟩
   ·have hle:cdL s.data.toList 4 ≤ 255:=by omega
    have H1:=Lib.hid (ye1 (by rw [hl.out]; exact h) hok hle)
    have H2:=Lib.hid (ofNat_toNat c0 hle)
    clear hbig hok
    go_wp2
    go_ret2
    exact ⟨by rw [H1.out,nb2_some H2.out]; rfl,rfl⟩
theorem zJ7 (s:ByteArray) (w:World) (hs:s.size ≤ maxLen) :
  Calls Tryz.prog 242 #[.string s] w (zC5 6 (numL4 s.data.toList) w):=by
 by_cases h:s.size < 4
 ·exact zz4 s w h
 ·exact zE5 s w (by omega) hs
def zh8 (c:UInt8):Option UInt8 :=
 if c = 34 then some 34 else if c = 92 then some 92 else if c = 47 then some 47 else if c = 98 then some 8 else if c = 102 then some 12
 else if c = 110 then some 10 else if c = 114 then some 13 else if c = 116 then some 9 else none
theorem zu8 {c:UInt8} (h1:c ≠ 34) (h2:c ≠ 92) (h3:c ≠ 47) (h4:c ≠ 98) (h5:c ≠ 102) (h6:c ≠ 110) (h7:c ≠ 114) (h8:c ≠ 116):zh8 c = none:=by
 unfold zh8; rw [if_neg h1,if_neg h2,if_neg h3,if_neg h4,if_neg h5,if_neg h6,if_neg h7,if_neg h8]
theorem zc9 (n:Int) (x:UInt8) (w:World) (h:(n = 34 ∧ x = 34) ∨ (n = 92 ∧ x = 92) ∨ (n = 47 ∧ x = 47) ∨ (n = 98 ∧ x = 8) ∨ (n = 102 ∧ x = 12) ∨ (n = 110 ∧ x = 10) ∨ (n = 114 ∧ x = 13) ∨ (n = 116 ∧ x = 9)) :
  Calls Tryz.prog 243 #[.int .u8 n] w (zC5 2 (some x) w):=by
 rcases h with ⟨rfl,rfl⟩ | ⟨rfl,rfl⟩ | ⟨rfl,rfl⟩ | ⟨rfl,rfl⟩ | ⟨rfl,rfl⟩ | ⟨rfl,rfl⟩ | ⟨rfl,rfl⟩ | ⟨rfl,rfl⟩
 all_goals
  go_enter Tryz.func243,Tryz.ntmps243
  go_wp2_with fail
  go_ret2
  exact ⟨rfl,rfl⟩
theorem zL1 (c:UInt8) (w:World) (h1:c ≠ 34) (h2:c ≠ 92) (h3:c ≠ 47) (h4:c ≠ 98) (h5:c ≠ 102) (h6:c ≠ 110) (h7:c ≠ 114) (h8:c ≠ 116) :
  Calls Tryz.prog 243 #[.int .u8 c.toNat] w (zC5 2 none w):=by
 have g1:((c.toNat:Int) == 34) = false:=u8_ne h1
 have g2:((c.toNat:Int) == 92) = false:=u8_ne h2
 have g3:((c.toNat:Int) == 47) = false:=u8_ne h3
 have g4:((c.toNat:Int) == 98) = false:=u8_ne h4
 have g5:((c.toNat:Int) == 102) = false:=u8_ne h5
 have g6:((c.toNat:Int) == 110) = false:=u8_ne h6
 have g7:((c.toNat:Int) == 114) = false:=u8_ne h7
 have g8:((c.toNat:Int) == 116) = false:=u8_ne h8
 go_enter Tryz.func243,Tryz.ntmps243
 go_wp2_with fail
 go_ret2
 exact ⟨rfl,rfl⟩
theorem zP6 (c:UInt8) (w:World):Calls Tryz.prog 243 #[.int .u8 c.toNat] w (zC5 2 (zh8 c) w):=by
 by_cases h1:c = 34
 ·subst h1; exact zc9 34 34 w (by simp)
 by_cases h2:c = 92
 ·subst h2; exact zc9 92 92 w (by simp)
 by_cases h3:c = 47
 ·subst h3; exact zc9 47 47 w (by simp)
 by_cases h4:c = 98
 ·subst h4; exact zc9 98 8 w (by simp)
 by_cases h5:c = 102
 ·subst h5; exact zc9 102 12 w (by simp)
 by_cases h6:c = 110
 ·subst h6; exact zc9 110 10 w (by simp)
 by_cases h7:c = 114
 ·subst h7; exact zc9 114 13 w (by simp)
 by_cases h8:c = 116
 ·subst h8; exact zc9 116 9 w (by simp)
 rw [zu8 h1 h2 h3 h4 h5 h6 h7 h8]
 exact zL1 c w h1 h2 h3 h4 h5 h6 h7 h8
def stepL:List UInt8 → Option (UInt8 × Nat)
 | [] => none
 | c :: r =>
   if c = 34 ∨ prB (c.toNat:Int) = false then none
   else if c ≠ 92 then some (c,1)
   else match r with
    | [] => none
    | d :: t => if d = 117 then (numL4 t).map (·,6) else (zh8 d).map (·,2)
def fb2:Option (UInt8 × Nat) → Value
 | some (b,k) => .tuple #[.int .u8 b.toNat,.int .i64 k]
 | none => .tuple #[.int .u8 0,.int .i64 0]
def zM2 (o:Option (UInt8 × Nat)) (w:World) (e:Ending) (w':World):Prop:=e = .returned (fb2 o) ∧ w = w'
theorem zg5 (c:UInt8) (r:List UInt8):stepL (c :: r) = if c = 34 ∨ prB (c.toNat:Int) = false then none
  else if c ≠ 92 then some (c,1)
  else match r with
   | [] => none
   | d :: t => if d = 117 then (numL4 t).map (·,6) else (zh8 d).map (·,2):=rfl
theorem zh4 (d:UInt8) (t:List UInt8):stepL (92 :: d :: t) = if d = 117 then (numL4 t).map (·,6) else (zh8 d).map (·,2):=by
 rw [zg5,if_neg (by decide),if_neg (by decide)]
theorem zx2 {s:ByteArray} (h:0 < s.size):s.data.toList = s[0] :: s.data.toList.drop 1:=by
 have h1:=size_eq s
 have h2:s.data.toList[0]'(by omega) :: s.data.toList.drop (0 + 1) = s.data.toList.drop 0:=List.getElem_cons_drop (by omega)
 rw [List.drop_zero] at h2
 exact h2.symm
theorem list_of2 {s:ByteArray} (h:2 ≤ s.size):s.data.toList = s[0]'(by omega) :: s[1]'(by omega) :: s.data.toList.drop 2:=by
 have h1:=size_eq s
 have h2:s.data.toList[1]'(by omega) :: s.data.toList.drop (1 + 1) = s.data.toList.drop 1:=List.getElem_cons_drop (by omega)
 conv => lhs; rw [zx2 (by omega:0 < s.size)]
 rw [← h2]; rfl
theorem zx8 (s:ByteArray) (k:Nat):(s.extract k s.size).data.toList = s.data.toList.drop k:=by
 rw [Lib.extract_data,List.take_of_length_le (by rw [List.length_drop,size_eq]; omega)]
theorem yg0 (s:ByteArray) (w:World) (h0:0 < s.size) (h:s[0] = 34 ∨ prB (s[0].toNat:Int) = false) :
  Calls Tryz.prog 212 #[.string s] w (zM2 (stepL s.data.toList) w):=by
 have H:Hid (stepL s.data.toList = none):=Lib.hid (by rw [zx2 h0,zg5,if_pos h])
 have hb:=zb7 s[0]
 by_cases h1:s[0] = 34
 ·have g1:((s[0].toNat:Int) == 34) = true:=by rw [h1]; rfl
  clear h h1
  go_enter Tryz.func212,Tryz.ntmps212
  go_wp2_with fail
  go_ret2
  exact ⟨by rw [H.out]; rfl,rfl⟩
 ·have g1:((s[0].toNat:Int) == 34) = false:=u8_ne h1
  have g2:prB (s[0].toNat:Int) = false:=h.resolve_left h1
  clear h h1
  go_enter Tryz.func212,Tryz.ntmps212
  go_wp2_with (go_at_call 224; refine (ze5 _ _ (by omega) (by omega)).mono ?_; rintro e w' ⟨rfl,rfl⟩)
  go_ret2
  exact ⟨by rw [H.out]; rfl,rfl⟩
theorem zP2 (s:ByteArray) (w:World) (h0:0 < s.size) (h:s[0] ≠ 34) (hp:prB (s[0].toNat:Int) = true) (h2:s[0] ≠ 92) :
  Calls Tryz.prog 212 #[.string s] w (zM2 (stepL s.data.toList) w):=by
 have H:Hid (stepL s.data.toList = some (s[0],1)):=Lib.hid (by rw [zx2 h0,zg5,if_neg (by simp [h,hp]),if_pos h2])
 have hb:=zb7 s[0]
 have g1:((s[0].toNat:Int) == 34) = false:=u8_ne h
 have g2:((s[0].toNat:Int) == 92) = false:=u8_ne h2
 clear h h2
 go_enter Tryz.func212,Tryz.ntmps212
 go_wp2_with (go_at_call 224; refine (ze5 _ _ (by omega) (by omega)).mono ?_; rintro e w' ⟨rfl,rfl⟩)
 go_ret2
 exact ⟨by rw [H.out]; rfl,rfl⟩
theorem zX5 (s:ByteArray) (w:World) (h0:s.size = 1) (h2:s[0]'(by omega) = 92) :
  Calls Tryz.prog 212 #[.string s] w (zM2 (stepL s.data.toList) w):=by
 have H:Hid (stepL s.data.toList = none):=Lib.hid (by
  have h3:=size_eq s
  rw [zx2 (by omega:0 < s.size),List.drop_eq_nil_of_le (by omega),h2]; decide)
 have h0':0 < s.size:=by omega
 have hs1:(s.size:Int) < 2:=by omega
 have hb:=zb7 s[0]
 have g1:((s[0].toNat:Int) == 34) = false:=by rw [h2]; rfl
 have g2:((s[0].toNat:Int) == 92) = true:=by rw [h2]; rfl
 have g3:prB (s[0].toNat:Int) = true:=by rw [h2]; decide
 clear h2 h0
 go_enter Tryz.func212,Tryz.ntmps212
 go_wp2_with (go_at_call 224; refine (ze5 _ _ (by omega) (by omega)).mono ?_; rintro e w' ⟨rfl,rfl⟩)
 go_ret2
 exact ⟨by rw [H.out]; rfl,rfl⟩
theorem step_two {s:ByteArray} (h0:2 ≤ s.size) (h2:s[0]'(by omega) = 92):stepL s.data.toList = if s[1]'(by omega) = 117 then (numL4 (s.data.toList.drop 2)).map (·,6) else (zh8 (s[1]'(by omega))).map (·,2):=by
 rw [list_of2 h0]
 generalize s.data.toList = l
 rw [h2,zh4]; rfl
theorem zX4 (s:ByteArray) (w:World) (h0:2 ≤ s.size) (hs:s.size ≤ maxLen) (h2:s[0]'(by omega) = 92) :
  Calls Tryz.prog 212 #[.string s] w (zM2 (stepL s.data.toList) w):=by
 have hst:=step_two h0 h2
 unfold maxLen at hs
 have h0':0 < s.size:=by omega
 have h1':1 < s.size:=by omega
 have hb:=zb7 s[0]
 have hb1:=zb7 s[1]
 have g1:((s[0].toNat:Int) == 34) = false:=by rw [h2]; rfl
 have g2:((s[0].toNat:Int) == 92) = true:=by rw [h2]; rfl
 have g3:prB (s[0].toNat:Int) = true:=by rw [h2]; decide
 clear h2
 by_cases hu:s[1] = 117
 ·rw [if_pos hu] at hst
  have g4:((s[1].toNat:Int) == 117) = true:=by rw [hu]; rfl
  have H:=Lib.hid hst
  clear hst hu
  go_enter Tryz.func212,Tryz.ntmps212
  go_wp2_with (go_at_call 224; refine (ze5 _ _ (by omega) (by omega)).mono ?_; rintro e w' ⟨rfl,rfl⟩)
  have hn:(s.extract 2 s.size).data.toList = s.data.toList.drop 2:=zx8 s 2
  have hx:(s.extract 2 s.size).size ≤ maxLen:=by
   rw [← size_eq,hn,List.length_drop,size_eq]; unfold maxLen; omega
  have HN:=Lib.hid hn
  clear hn
  refine (zJ7 _ _ hx).mono ?_
  rw [HN.out]
  clear hx
  cases ho:numL4 (s.data.toList.drop 2) with
  | none =>
    rintro e w' ⟨rfl,rfl⟩
    have H2:Hid (stepL s.data.toList = none):=Lib.hid (by rw [H.out,ho]; rfl)
    clear ho
    unfold nb2
    go_wp2
    go_ret2
    exact ⟨by rw [H2.out]; rfl,rfl⟩
  | some b =>
    rintro e w' ⟨rfl,rfl⟩
    have H2:Hid (stepL s.data.toList = some (b,6)):=Lib.hid (by rw [H.out,ho]; rfl)
    clear ho
    unfold nb2
    go_wp2
    go_ret2
    exact ⟨by rw [H2.out]; rfl,rfl⟩
 ·rw [if_neg hu] at hst
  have g4:((s[1].toNat:Int) == 117) = false:=u8_ne hu
  have H:=Lib.hid hst
  clear hst hu
  go_enter Tryz.func212,Tryz.ntmps212
  go_wp2_with (go_at_call 224; refine (ze5 _ _ (by omega) (by omega)).mono ?_; rintro e w' ⟨rfl,rfl⟩)
  refine (zP6 _ _).mono ?_
  cases ho:zh8 s[1] with
  | none =>
    rintro e w' ⟨rfl,rfl⟩
    have H2:Hid (stepL s.data.toList = none):=Lib.hid (by rw [H.out,ho]; rfl)
    clear ho
    unfold nb2
    go_wp2
    go_ret2
    exact ⟨by rw [H2.out]; rfl,rfl⟩
  | some b =>
    rintro e w' ⟨rfl,rfl⟩
    have H2:Hid (stepL s.data.toList = some (b,2)):=Lib.hid (by rw [H.out,ho]; rfl)
    clear ho
    unfold nb2
    go_wp2
    go_ret2
    exact ⟨by rw [H2.out]; rfl,rfl⟩
theorem zx6 (s:ByteArray) (w:World) (h0:0 < s.size) (hs:s.size ≤ maxLen) :
  Calls Tryz.prog 212 #[.string s] w (zM2 (stepL s.data.toList) w):=by
 by_cases h:s[0] = 34 ∨ prB (s[0].toNat:Int) = false
 ·exact yg0 s w h0 h
 have h1:s[0] ≠ 34:=fun e => h (Or.inl e)
 have hp:prB (s[0].toNat:Int) = true:=by
  cases e:prB (s[0].toNat:Int)
  ·exact absurd (Or.inr e) h
  ·rfl
 by_cases h2:s[0] = 92
 ·by_cases h3:s.size = 1
  ·exact zX5 s w h3 h2
  ·exact zX4 s w (by omega) hs h2
 ·exact zP2 s w h0 h1 hp h2
end Go.Proofs.YthjoelpfmimedaaGreatDoor.T1
