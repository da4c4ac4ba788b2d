
/-
 Texts joined: Name Past Distinct Cmp.
-/
import Derived.Test.YtfgelheiknmjgaaGreatDoorZs5
import Derived.Maps.Own
import Derived.StringKeys
import Derived.Maps.OwnOps
import Derived.Maps.OwnSet
import Derived.Lib.Bytealg
import Derived.Lib.Small
namespace Go.Proofs.YtfgelheiknmjgaaGreatDoor
open Go.RowKit
def digB (n:Int):Bool:=decide (48 ≤ n) && decide (n ≤ 57)
def letB (n:Int):Bool:=(decide (97 ≤ n) && decide (n ≤ 122)) || (decide (65 ≤ n) && decide (n ≤ 90))
def nmB (n:Int):Bool:=letB n || digB n || n == 95
def allNm (l:List UInt8):Bool:=l.all fun c => nmB (c.toNat:Int)
def nameL (l:List UInt8):Bool:=!l.isEmpty && decide (l.length ≤ 64) && !digB ((l.getD 0 0).toNat:Int) && allNm l
theorem zu6 (l:List UInt8) (p:UInt8 → Bool) (k:Nat) (h:k < l.length) (hp:p l[k] = false):l.all p = false:=by
 rw [List.all_eq_false]; exact ⟨l[k],List.getElem_mem h,by simp [hp]⟩
theorem zj7 (l:List UInt8) (p:UInt8 → Bool) (k:Nat) (h:k < l.length) (ha:(l.take k).all p = true) (hp:p l[k] = true):(l.take (k+1)).all p = true:=by
 rw [zo3 l k h,List.all_append,ha]; simp [hp]
def letU (n:Int):Bool:=letB n || n == 95
theorem zf5 (n:Int) (w:World) (h0:0 ≤ n) (h1:n ≤ 255) :
  Calls Tryz.prog 94 #[.int .u8 n] w fun e w' => e = .returned (.bool (digB n)) ∧ w = w':=by
 go_enter Tryz.func94,Tryz.ntmps94
 go_wp2
 all_goals go_ret
 all_goals (simp [digB, *]; try omega)
theorem zd1 (n:Int) (w:World) (h0:0 ≤ n) (h1:n ≤ 255) :
  Calls Tryz.prog 93 #[.int .u8 n] w fun e w' => e = .returned (.bool (letU n)) ∧ w = w':=by
 go_enter Tryz.func93,Tryz.ntmps93
 go_wp2
 all_goals go_ret
 all_goals refine ⟨congrArg Ending.returned (congrArg Value.bool ?_),rfl⟩
 all_goals (rw [Bool.eq_iff_iff]; simp [letU,letB, *]; try omega)
theorem zn9 (s:ByteArray) (w:World) (h:s.size = 0) :
  Calls Tryz.prog 42 #[.string s] w fun e w' => e = .returned (.bool false) ∧ w = w':=by
 have h':(s.size:Int) < 1:=by omega
 clear h
 go_enter Tryz.func42,Tryz.ntmps42
 go_wp2_with fail
 go_ret
 exact ⟨rfl,rfl⟩
theorem zq6 (s:ByteArray) (w:World) (hs:s.size ≤ maxLen) (h:64 < s.size) :
  Calls Tryz.prog 42 #[.string s] w fun e w' => e = .returned (.bool false) ∧ w = w':=by
 unfold maxLen at hs
 go_enter Tryz.func42,Tryz.ntmps42
 go_wp2_with fail
 go_ret
 exact ⟨rfl,rfl⟩
theorem nm_of (n:Int):nmB n = (letU n || digB n):=by unfold nmB letU; cases letB n <;> cases digB n <;> simp
def zm9 (l:List UInt8) (k:Nat):Prop:=allNm (l.take k) = true ∧ (0 < k → digB ((l.getD 0 0).toNat:Int) = false)
theorem zo1 (l:List UInt8):zm9 l 0:=⟨rfl,fun h => absurd h (by omega)⟩
theorem zh6 {l:List UInt8} {k:Nat} (h:zm9 l k) (hk:k < l.length) (h1:nmB (l[k].toNat:Int) = true) (h2:k = 0 → digB (l[k].toNat:Int) = false):zm9 l (k + 1):=by
 refine ⟨zj7 l (fun c => nmB (c.toNat:Int)) k hk h.1 h1,fun _ => ?_⟩
 by_cases e:k = 0
 ·subst e; rw [List.getD_eq_getElem?_getD,List.getElem?_eq_getElem hk]; exact h2 rfl
 ·exact h.2 (by omega)
theorem zq8 {l:List UInt8} (h:zm9 l l.length) (h0:0 < l.length) (h1:l.length ≤ 64):nameL l = true:=by
 unfold nameL
 have e:=h.1
 rw [List.take_length] at e
 rw [h.2 h0,e]
 cases l with
 | nil => simp at h0
 | cons a l => simp at h1 ⊢; omega
theorem zq7 {l:List UInt8} {k:Nat} (hk:k < l.length) (h:nmB (l[k].toNat:Int) = false):nameL l = false:=by
 unfold nameL
 rw [show allNm l = false from zu6 l (fun c => nmB (c.toNat:Int)) k hk h]; simp
theorem zk9 {l:List UInt8} (hk:0 < l.length) (h:digB (l[0].toNat:Int) = true):nameL l = false:=by
 unfold nameL
 rw [List.getD_eq_getElem?_getD,List.getElem?_eq_getElem hk,Option.getD_some,h]; simp
theorem zq5 (s:ByteArray) (w:World) (h0:0 < s.size) (h:s.size ≤ 64) :
  Calls Tryz.prog 42 #[.string s] w fun e w' => e = .returned (.bool (nameL s.data.toList)) ∧ w = w':=by
 have hl:=Lib.hid (zb8 s)
 go_enter Tryz.func42,Tryz.ntmps42
 go_wp2_with fail
 go_loop [3] (fun i => ∃ k:Nat,k ≤ s.size ∧ i = .int .i64 k ∧ zm9 s.data.toList k) (fun i => s.size - (intOf i).toNat)
 case atStart => exact ⟨0,Nat.zero_le _,rfl,zo1 _⟩
 case round =>
  obtain ⟨k,hk,rfl,hH⟩:=hrel
  by_cases hlt:k < s.size
  ·have hbk:=zu5 s[k]
   have hlk:k < s.data.toList.length:=by rw [hl.out]; exact hlt
   cases n1:letU (s[k].toNat:Int)
   ·cases n2:digB (s[k].toNat:Int)
    ·have H2:Hid (nameL s.data.toList = false):=Lib.hid (zq7 hlk (by show nmB (s[k].toNat:Int) = false; rw [nm_of,n1,n2]; rfl))
     go_wp2_with (first | (go_at_call 93; refine (zd1 _ _ (by omega) (by omega)).mono ?_; rintro e w' ⟨rfl,rfl⟩) | (go_at_call 94; refine (zf5 _ _ (by omega) (by omega)).mono ?_; rintro e w' ⟨rfl,rfl⟩))
     all_goals go_ret
     all_goals exact ⟨by rw [H2.out]; rfl,rfl⟩
    ·by_cases hd:k = 0
     ·subst hd
      have H2:Hid (nameL s.data.toList = false):=Lib.hid (zk9 hlk n2)
      go_wp2_with (first | (go_at_call 93; refine (zd1 _ _ (by omega) (by omega)).mono ?_; rintro e w' ⟨rfl,rfl⟩) | (go_at_call 94; refine (zf5 _ _ (by omega) (by omega)).mono ?_; rintro e w' ⟨rfl,rfl⟩))
      all_goals go_ret
      all_goals exact ⟨by rw [H2.out]; rfl,rfl⟩
     ·have hd':((k:Int) == 0) = false:=by rw [beq_eq_false_iff_ne]; omega
      have H3:=Lib.hid (zh6 hH hlk (by show nmB (s[k].toNat:Int) = true; rw [nm_of,n1,n2]; rfl) (fun e => absurd e hd))
      clear hH
      go_wp2_with (first | (go_at_call 93; refine (zd1 _ _ (by omega) (by omega)).mono ?_; rintro e w' ⟨rfl,rfl⟩) | (go_at_call 94; refine (zf5 _ _ (by omega) (by omega)).mono ?_; rintro e w' ⟨rfl,rfl⟩))
      go_round
      case rel => exact ⟨k + 1,by omega,by go_num,H3.out⟩
      case measure => simp [intOf]; omega
   ·have hnd:digB (s[k].toNat:Int) = false:=by
     unfold letU letB at n1; unfold digB; simp at n1 ⊢; omega
    have H3:=Lib.hid (zh6 hH hlk (by show nmB (s[k].toNat:Int) = true; rw [nm_of,n1]; rfl) (fun _ => hnd))
    clear hH hnd
    go_wp2_with (go_at_call 93; refine (zd1 _ _ (by omega) (by omega)).mono ?_; rintro e w' ⟨rfl,rfl⟩)
    go_round
    case rel => exact ⟨k + 1,by omega,by go_num,H3.out⟩
    case measure => simp [intOf]; omega
  ·obtain rfl:k = s.size:=by omega
   have H1:Hid (nameL s.data.toList = true):=Lib.hid (zq8 (by rw [hl.out]; exact hH) (by rw [hl.out]; exact h0) (by rw [hl.out]; exact h))
   go_wp2
   go_ret
   exact ⟨by rw [H1.out]; rfl,rfl⟩
theorem zd0 (s:ByteArray) (w:World) (hs:s.size ≤ maxLen) :
  Calls Tryz.prog 42 #[.string s] w fun e w' => e = .returned (.bool (nameL s.data.toList)) ∧ w = w':=by
 have hl:=zb8 s
 by_cases h0:s.size = 0
 ·have e:s.data.toList = []:=List.eq_nil_of_length_eq_zero (by omega)
  rw [e]; exact zn9 s w h0
 by_cases h1:64 < s.size
 ·have e:nameL s.data.toList = false:=by unfold nameL; rw [hl]; simp; omega
  rw [e]; exact zq6 s w hs h1
 exact zq5 s w (by omega) (by omega)
end Go.Proofs.YtfgelheiknmjgaaGreatDoor
namespace Go.Proofs.YtfgelheiknmjgaaGreatDoor
open Go.RowKit
structure Past (W:World) where
 w:World
 b:Below W.heap.size W w
instance {W:World}:Nonempty (Past W):=⟨⟨W,Below.refl _ _⟩⟩
theorem Past.le {W:World} (x:Past W):W.heap.size ≤ x.w.heap.size:=x.b.size
theorem zd2 {P:Program} {W:World} {f:FuncId} {args:Array Value} {v:Value} (x:Past W) (h:Calls P f args x.w fun e w' => e = .returned v ∧ Below x.w.heap.size x.w w') :
  Calls P f args x.w fun e w'' => e = .returned v ∧ ∃ y:Past W,w'' = y.w :=
 h.mono fun _ _ ⟨he,hb⟩ => ⟨he,⟨_,x.b.trans (hb.mono x.le)⟩,rfl⟩
theorem zp1 {P:Program} {W:World} {f:FuncId} {args:Array Value} {v:Value} (x:Past W) (h:Calls P f args x.w fun e w' => e = .returned v ∧ x.w = w') :
  Calls P f args x.w fun e w'' => e = .returned v ∧ ∃ y:Past W,w'' = y.w :=
 h.mono fun _ _ ⟨he,hb⟩ => ⟨he,x,hb.symm⟩
theorem zv6 {W:World} {b:Nat} {o:Obj} (h:W.heap[b]? = some o) (x:Past W):x.w.heap[b]? = some o:=by
 have hb:b < W.heap.size:=by
  rcases Nat.lt_or_ge b W.heap.size with h' | h'
  ·exact h'
  ·rw [Array.getElem?_eq_none h'] at h; cases h
 exact (x.b.block b hb).trans h
def Box (W:World) (b:Nat) (c0 c1 c2 c3 c4:Value):Prop:=W.heap[b]? = some (.cells #[c0,c1,c2,c3,c4] 53 (0,0))
theorem Box.cells {W:World} {b:Nat} {c0 c1 c2 c3 c4:Value} (h:Box W b c0 c1 c2 c3 c4) :
  W.cell? ⟨b,0,none⟩ = some c0 ∧ W.cell? ⟨b,1,none⟩ = some c1 ∧ W.cell? ⟨b,2,none⟩ = some c2 ∧ W.cell? ⟨b,3,none⟩ = some c3 ∧ W.cell? ⟨b,4,none⟩ = some c4:=by
 refine ⟨?_, ?_, ?_, ?_, ?_⟩ <;> rw [cell_of_row _ _ _ _ _ _ h] <;> rfl
theorem Box.past {W:World} {b:Nat} {c0 c1 c2 c3 c4:Value} (h:Box W b c0 c1 c2 c3 c4) :
  (∀ x:Past W,x.w.cell? ⟨b,0,none⟩ = some c0) ∧ (∀ x:Past W,x.w.cell? ⟨b,1,none⟩ = some c1) ∧ (∀ x:Past W,x.w.cell? ⟨b,2,none⟩ = some c2) ∧ (∀ x:Past W,x.w.cell? ⟨b,3,none⟩ = some c3) ∧ (∀ x:Past W,x.w.cell? ⟨b,4,none⟩ = some c4):=by
 have hx:=fun x:Past W => Box.cells (W:=x.w) (zv6 h x)
 exact ⟨fun x => (hx x).1,fun x => (hx x).2.1,fun x => (hx x).2.2.1,fun x => (hx x).2.2.2.1,fun x => (hx x).2.2.2.2⟩
theorem Box.kept {W W':World} {b:Nat} {c0 c1 c2 c3 c4:Value} (h:Box W b c0 c1 c2 c3 c4) (hb:Below W.heap.size W W'):Box W' b c0 c1 c2 c3 c4:=zv6 h ⟨W',hb⟩
theorem Box.new (W:World) (c0 c1 c2 c3 c4:Value):Box (W.alloc (.cells #[c0,c1,c2,c3,c4] 53 (0,0))) W.heap.size c0 c1 c2 c3 c4:=heap_alloc_new _ _
theorem Box.alloc {W:World} {b:Nat} {c0 c1 c2 c3 c4:Value} (h:Box W b c0 c1 c2 c3 c4) (o:Obj):Box (W.alloc o) b c0 c1 c2 c3 c4:=h.kept ((Below.refl _ _).alloc (Nat.le_refl _) _)
theorem Box.lt {W:World} {b:Nat} {c0 c1 c2 c3 c4:Value} (h:Box W b c0 c1 c2 c3 c4):b < W.heap.size:=by
 unfold Box at h
 rcases Nat.lt_or_ge b W.heap.size with h' | h'
 ·exact h'
 ·rw [Array.getElem?_eq_none h'] at h; cases h
theorem Box.two (w:World) (c0 c1 c2 c3 c4 d0 d1 d2 d3 d4:Value):let W:=(w.alloc (.cells #[c0,c1,c2,c3,c4] 53 (0,0))).alloc (.cells #[d0,d1,d2,d3,d4] 53 (0,0))
  Box W w.heap.size c0 c1 c2 c3 c4 ∧ Box W (w.heap.size + 1) d0 d1 d2 d3 d4 ∧ Below w.heap.size w W:=by
 refine ⟨(Box.new _ _ _ _ _ _).alloc _, ?_,((Below.refl _ _).alloc (Nat.le_refl _) _).alloc (by simp) _⟩
 have:=Box.new (w.alloc (.cells #[c0,c1,c2,c3,c4] 53 (0,0))) d0 d1 d2 d3 d4
 simpa using this
theorem C5.past {W:World} {a:Addr} {c0 c1 c2 c3 c4:Value} {v:Value} (h:C5 W a v) (e:v = .agg #[c0,c1,c2,c3,c4]) (ha:a.block < W.heap.size) :
  (∀ x:Past W,x.w.cell? a = some c0) ∧ (∀ x:Past W,x.w.cell? ⟨a.block,a.off + 1,none⟩ = some c1) ∧ (∀ x:Past W,x.w.cell? ⟨a.block,a.off + 2,none⟩ = some c2) ∧ (∀ x:Past W,x.w.cell? ⟨a.block,a.off + 3,none⟩ = some c3) ∧ (∀ x:Past W,x.w.cell? ⟨a.block,a.off + 4,none⟩ = some c4):=by
 subst e
 have hx:=fun x:Past W => h.kept ha x.b
 refine ⟨fun x => ?_,fun x => ?_,fun x => ?_,fun x => ?_,fun x => ?_⟩
 all_goals
  obtain ⟨d0,d1,d2,d3,d4,e,h0,h1,h2,h3,h4⟩:=hx x
  simp only [Value.agg.injEq,Array.mk.injEq,List.cons.injEq,and_true] at e
  obtain ⟨rfl,rfl,rfl,rfl,rfl⟩:=e
  assumption
theorem za5 {id:Nat} {Q:Exit → Act → World → Prop} {a:Act} {w:World} {l:List Oper} (F:World → Prop) (hF:F w) (hB:Region.lexB .any l.toArray = true)
  (h:∀ W,F W → Below w.heap.size w W → wpQuiet Tryz.prog l.toArray (fun w' => ∃ x:Past W,w' = x.w) (fun a' => ∀ w',(∃ x:Past W,w' = x.w) → Q .normal a' w') l a):(Code.region id l.toArray true).wp Tryz.prog Q a w :=
 wp_region_quiet (C:=fun w' => ∃ x:Past w,w' = x.w) (by kernel_rfl) hB ⟨⟨_,(Below.refl _ _).drew⟩,rfl⟩ (by simpa using h w hF (Below.refl _ _))
end Go.Proofs.YtfgelheiknmjgaaGreatDoor
namespace Go.Proofs.YtfgelheiknmjgaaGreatDoor
open Go.RowKit Go.Maps
instance decBA:DecidableEq ByteArray:=fun a b => decidable_of_iff (a.data = b.data) ⟨fun h => by cases a; cases b; simp at h; subst h; rfl,fun h => by rw [h]⟩
instance memBA (s:ByteArray) (l:List ByteArray):Decidable (s ∈ l):=decidable_of_iff (l.any (fun a => decide (a = s)) = true) (by simp)
def lits (l:List ByteArray):List Lit:=l.map fun s => .string s.data.toList
def setD (l:List ByteArray):DataW Unit:=setOf (.lit (.bool true)) (lits l)
theorem zK4 {l:List ByteArray} {k:Nat} (h:k < l.length):(l.take (k + 1)).Nodup ↔ (l.take k).Nodup ∧ l[k] ∉ l.take k:=by
 rw [List.take_succ_eq_append_getElem h,List.nodup_append]
 constructor
 ·rintro ⟨h1,_,h3⟩
  exact ⟨h1,fun hm => h3 _ hm _ (by simp) rfl⟩
 ·rintro ⟨h1,h2⟩
  exact ⟨h1,by simp,fun a ha b hb => by simp at hb; subst hb; exact fun e => h2 (e ▸ ha)⟩
theorem zK3 {l:List ByteArray} {k:Nat} (h:l.Nodup):(l.take k).Nodup:=h.sublist (List.take_sublist _ _)
end Go.Proofs.YtfgelheiknmjgaaGreatDoor
namespace Go.Proofs.YtfgelheiknmjgaaGreatDoor
def orE (x y:Int):Int:=if x = 0 then y else x
def keyD (ks:List ByteArray):ByteArray:=ks.headD ⟨#[]⟩
def cmpB (a b:ByteArray):Int:=Lib.compareBytes a.data.toList b.data.toList
mutual
def VT.cmp:VT → VT → Int
 | .mk k n s is ks,.mk k' n' s' is' ks' => orE (Lib.compareInt k k') (orE (orE (Lib.compareInt n n') (cmpB s s')) (VT.cmps is ks is' ks'))
def VT.cmps:List VT → List ByteArray → List VT → List ByteArray → Int
 | [],_,[],_ => 0
 | [],_,_ :: _,_ => -1
 | _ :: _,_,[],_ => 1
 | t :: r,ks,t' :: r',ks' => orE (orE (cmpB (keyD ks) (keyD ks')) (t.cmp t')) (VT.cmps r ks.tail r' ks'.tail)
end
def Tri (x y z:Int):Prop:=(x = 0 → z = y) ∧ (y = 0 → z = x) ∧ (x = y → z = x)
theorem zt7 {x y x' y':Int} (h:x' = -x) (h':y' = -y):orE x' y' = -orE x y:=by
 unfold orE
 by_cases hx:x = 0
 ·rw [if_pos (by omega),if_pos hx,h']
 ·rw [if_neg (by omega),if_neg hx,h]
theorem zI0 (a b:Int):Lib.compareInt b a = -Lib.compareInt a b:=by
 unfold Lib.compareInt
 by_cases h1:a < b
 ·rw [if_neg (by omega),if_pos (by omega),if_pos h1]; rfl
 ·by_cases h2:b < a
  ·rw [if_pos h2,if_neg h1,if_pos (by omega)]
  ·rw [if_neg h2,if_neg (by omega),if_neg h1,if_neg (by omega)]; rfl
theorem zy4:∀ a b:List UInt8,Lib.compareBytes b a = -Lib.compareBytes a b
 | [],[] => rfl
 | [],_ :: _ => rfl
 | _ :: _,[] => rfl
 | a :: xs,b :: bs => by
   unfold Lib.compareBytes
   have ih:=zy4 xs bs
   simp only [UInt8.lt_iff_toNat_lt]
   by_cases h1:a.toNat < b.toNat
   ·rw [if_neg (by omega),if_pos h1,if_pos h1]; rfl
   ·by_cases h2:b.toNat < a.toNat
    ·rw [if_pos h2,if_neg h1,if_pos h2]
    ·rw [if_neg h2,if_neg h1,if_neg h1,if_neg h2,ih]
mutual
theorem VT.cmp_neg (a b:VT):b.cmp a = -a.cmp b:=by
 cases a with
 | mk k n s is ks =>
   cases b with
   | mk k' n' s' is' ks' =>
     simp only [VT.cmp]
     exact zt7 (zI0 _ _) (zt7 (zt7 (zI0 _ _) (zy4 _ _)) (VT.cmps_neg is ks is' ks'))
theorem VT.cmps_neg (is:List VT) (ks:List ByteArray) (is':List VT) (ks':List ByteArray):VT.cmps is' ks' is ks = -VT.cmps is ks is' ks':=by
 match is,is' with
 | [],[] => rfl
 | [],_ :: _ => rfl
 | _ :: _,[] => rfl
 | t :: r,t' :: r' =>
   simp only [VT.cmps]
   exact zt7 (zt7 (zy4 _ _) (VT.cmp_neg t t')) (VT.cmps_neg r ks.tail r' ks'.tail)
end
theorem VT.cmp_self (a:VT):a.cmp a = 0:=by have:=VT.cmp_neg a a; omega
def keyI (ks:List ByteArray) (i:Nat):ByteArray:=(ks[i]?).getD ⟨#[]⟩
def zd7 (is:List VT) (ks:List ByteArray) (is':List VT) (ks':List ByteArray) (i:Nat):Int :=
 match is[i]?,is'[i]? with
 | none,_ => -1
 | some _,none => 1
 | some t,some t' => orE (cmpB (keyI ks i) (keyI ks' i)) (t.cmp t')
def zb7 (is:List VT) (ks:List ByteArray) (is':List VT) (ks':List ByteArray) (j:Nat):Int:=VT.cmps (is.drop j) (ks.drop j) (is'.drop j) (ks'.drop j)
theorem zC3 (ks:List ByteArray) (j:Nat):keyD (ks.drop j) = keyI ks j:=by
 unfold keyD keyI
 rw [List.headD_eq_head?_getD,List.head?_drop]
theorem zu3 {is:List VT} {ks:List ByteArray} {is':List VT} {ks':List ByteArray} {j:Nat} (h:is.length ≤ j) (h':is'.length ≤ j):zb7 is ks is' ks' j = 0:=by
 unfold zb7
 rw [List.drop_of_length_le h,List.drop_of_length_le h']
 rfl
theorem zj6 {is:List VT} {ks:List ByteArray} {is':List VT} {ks':List ByteArray} {j:Nat} (h:j < is.length ∨ j < is'.length):zb7 is ks is' ks' j = orE (zd7 is ks is' ks' j) (zb7 is ks is' ks' (j + 1)):=by
 unfold zb7 zd7
 by_cases h1:j < is.length
 ·by_cases h2:j < is'.length
  ·rw [List.drop_eq_getElem_cons h1,List.drop_eq_getElem_cons h2,VT.cmps,List.getElem?_eq_getElem h1,List.getElem?_eq_getElem h2,zC3,zC3,List.tail_drop,List.tail_drop]
  ·rw [List.drop_eq_getElem_cons h1,List.drop_of_length_le (by omega:is'.length ≤ j),VT.cmps,List.getElem?_eq_getElem h1,List.getElem?_eq_none (by omega:is'.length ≤ j)]
   rfl
 ·have h2:j < is'.length:=by omega
  rw [List.drop_of_length_le (by omega:is.length ≤ j),List.drop_eq_getElem_cons h2,VT.cmps,List.getElem?_eq_none (by omega:is.length ≤ j)]
  rfl
theorem zw2:∀ a b:List UInt8,Lib.compareBytes a b = -1 ∨ Lib.compareBytes a b = 0 ∨ Lib.compareBytes a b = 1
 | [],[] => by simp [Lib.compareBytes]
 | [],_ :: _ => by simp [Lib.compareBytes]
 | _ :: _,[] => by simp [Lib.compareBytes]
 | a :: xs,b :: bs => by
   unfold Lib.compareBytes
   split
   ·simp
   ·split
    ·simp
    ·exact zw2 xs bs
end Go.Proofs.YtfgelheiknmjgaaGreatDoor

