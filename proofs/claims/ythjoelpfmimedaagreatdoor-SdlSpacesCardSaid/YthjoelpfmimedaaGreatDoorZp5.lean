
/-
 Texts joined: D1Def D1Str D1Fld D1Mem D1Inp D1Arg D2.
-/
import Derived.Test.YthjoelpfmimedaaGreatDoorZp4
namespace Go.Proofs.YthjoelpfmimedaaGreatDoor
open Go.RowKit
set_option maxHeartbeats 2000000 in
theorem zD1 (A:Option Addr) (len c:Nat) (least most:Int) (V:Nat → Nat → Value) (p:Nat → Bool) (w:World) (hlen:len ≤ 140737488351232)
  (hA:0 < len → ∃ a,A = some a ∧ a.block < w.heap.size ∧ ∀ i,i < len → ∀ j,j < 7 → w.cell? (at_ (a.add (i * 7)) j) = some (V i j))
  (hS:∀ i,i < len → ∃ (n0:Int) (s1:ByteArray) (A2:Option Addr) (l2 z2:Nat) (A3:Option Addr) (l3 z3:Nat) (A4:Option Addr) (l4 z4:Nat) (A5:Option Addr) (l5 z5:Nat) (A6:Option Addr) (l6 z6:Nat),V i 0 = .int .i64 n0 ∧ V i 1 = .string s1 ∧ V i 2 = .slice A2 l2 z2 ∧ V i 3 = .slice A3 l3 z3 ∧ V i 4 = .slice A4 l4 z4 ∧ V i 5 = .slice A5 l5 z5 ∧ V i 6 = .slice A6 l6 z6)
  (hC:∀ i,i < len → ∀ x:World,Below w.heap.size w x → Calls Tryz.prog 24 #[(.agg #[(V i 0),(V i 1),(V i 2),(V i 3),(V i 4),(V i 5),(V i 6)])] x fun e w' => e = .returned (.bool (p i)) ∧ Below x.heap.size x w') :
  Calls Tryz.prog 23 #[.slice A len c,.int .i64 least,.int .i64 most,.func (.func 24) #[] #[]] w fun e w' => e = .returned (.bool (decide (least ≤ len) && decide (len ≤ most) && decide (∀ i,i < len → p i = true))) ∧ Below w.heap.size w w':=by
 have HA:=Lib.hid hA
 have HC:=Lib.hid hC
 have HS:=Lib.hid hS
 obtain ⟨RB,hRB⟩ : ∃ RB,RB = (decide (least ≤ (len:Int)) && decide ((len:Int) ≤ most) && decide (∀ i,i < len → p i = true)):=⟨_,rfl⟩
 rw [← hRB]
 have hl:(len:Int) ≤ 140737488351232:=by omega
 clear hA hC hS
 by_cases h1:(len:Int) < least
 ·have HV:Hid (RB = false):=Lib.hid (by rw [hRB,decide_eq_false (by omega:¬ least ≤ (len:Int))]; rfl)
  clear hlen hl hRB
  go_enter Tryz.func23, Tryz.ntmps23
  go_wp2_with fail
  go_ret
  exact ⟨by rw [HV.out]; rfl,Below.refl _ _⟩
 ·by_cases h2:(len:Int) > most
  ·have HV:Hid (RB = false):=Lib.hid (by rw [hRB,decide_eq_false (by omega:¬ (len:Int) ≤ most)]; simp)
   clear hlen hl hRB
   go_enter Tryz.func23, Tryz.ntmps23
   go_wp2_with fail
   go_ret
   exact ⟨by rw [HV.out]; rfl,Below.refl _ _⟩
  ·have HV:Hid (RB = decide (∀ i,i < len → p i = true)):=Lib.hid (by rw [hRB,decide_eq_true (by omega:least ≤ (len:Int)),decide_eq_true (by omega:(len:Int) ≤ most)]; rfl)
   go_enter Tryz.func23, Tryz.ntmps23
   go_wp2_with fail
   clear h1 h2 hRB
   go_loopw [23] (fun u wr => ∃ i:Nat,i ≤ len ∧ u = .int .i64 i ∧ Hid ((∀ j,j < i → p j = true) ∧ Below w.heap.size w wr)) (fun u _ => len - (intOf u).toNat)
   case atStart => exact ⟨0,Nat.zero_le _,rfl,Lib.hid ⟨fun j hj => absurd hj (Nat.not_lt_zero _),Below.refl _ _⟩⟩
   case round =>
    obtain ⟨i,hi,rfl,hr⟩:=hrel
    by_cases hlt:i < len
    ·have hlt':(i:Int) < len:=by omega
     obtain ⟨a,rfl,ha,hc0⟩:=HA.out (by omega)
     have hc:∀ j,j < 7 → wr.cell? (at_ (a.add (i * 7)) j) = some (V i j):=fun j hj => (hr.out.2.cell (by rw [zb6,za1]; exact ha)).trans (hc0 i hlt j hj)
     have hs:=hr.out.2.size
     have k0:wr.cell? (a.add (i * 7)) = some (V i 0):=hc 0 (by omega)
     have k1:wr.cell? ⟨(a.add (i * 7)).block,(a.add (i * 7)).off + 1,none⟩ = some (V i 1):=hc 1 (by omega)
     have k2:wr.cell? ⟨(a.add (i * 7)).block,(a.add (i * 7)).off + 2,none⟩ = some (V i 2):=hc 2 (by omega)
     have k3:wr.cell? ⟨(a.add (i * 7)).block,(a.add (i * 7)).off + 3,none⟩ = some (V i 3):=hc 3 (by omega)
     have k4:wr.cell? ⟨(a.add (i * 7)).block,(a.add (i * 7)).off + 4,none⟩ = some (V i 4):=hc 4 (by omega)
     have k5:wr.cell? ⟨(a.add (i * 7)).block,(a.add (i * 7)).off + 5,none⟩ = some (V i 5):=hc 5 (by omega)
     have k6:wr.cell? ⟨(a.add (i * 7)).block,(a.add (i * 7)).off + 6,none⟩ = some (V i 6):=hc 6 (by omega)
     obtain ⟨n0,s1,A2,l2,z2,A3,l3,z3,A4,l4,z4,A5,l5,z5,A6,l6,z6,e0,e1,e2,e3,e4,e5,e6⟩:=HS.out i hlt
     have HCC:=Lib.hid fun x hx => HC.out i hlt x (hr.out.2.trans (Below.mono hx hs))
     clear hc0 hc
     rw [e0] at k0 HCC
     rw [e1] at k1 HCC
     rw [e2] at k2 HCC
     rw [e3] at k3 HCC
     rw [e4] at k4 HCC
     rw [e5] at k5 HCC
     rw [e6] at k6 HCC
     clear e0 e1 e2 e3 e4 e5 e6
     cases hp:p i with
     | true =>
       go_wp2_with fail
       refine (HCC.out _ ((Below.refl _ _).alloc (Nat.le_refl _) _)).mono ?_
       rintro e w1 ⟨rfl,hb⟩
       rw [hp]
       have HB1:=Lib.hid (hr.out.2.trans (Below.mono (((Below.refl _ _).alloc (Nat.le_refl _) _:Below wr.heap.size wr _).trans (Below.mono hb (by simp))) hs))
       have HAL:Hid (∀ j,j < i + 1 → p j = true):=Lib.hid (fun j hj => by
        rcases Nat.lt_or_ge j i with h | h
        ·exact hr.out.1 j h
        ·have:j = i:=by omega
         rw [this]; exact hp)
       clear hb
       go_wp2_with fail
       go_roundw
       case rel => exact ⟨i + 1,by omega,by simp,Lib.hid ⟨HAL.out,HB1.out⟩⟩
       case measure => simp [intOf]; omega
     | false =>
       go_wp2_with fail
       refine (HCC.out _ ((Below.refl _ _).alloc (Nat.le_refl _) _)).mono ?_
       rintro e w1 ⟨rfl,hb⟩
       rw [hp]
       have HB1:=Lib.hid (hr.out.2.trans (Below.mono (((Below.refl _ _).alloc (Nat.le_refl _) _:Below wr.heap.size wr _).trans (Below.mono hb (by simp))) hs))
       have HVF:Hid (decide (∀ i,i < len → p i = true) = false):=Lib.hid (decide_eq_false fun h => by rw [h i hlt] at hp; cases hp)
       clear hb
       go_wp2_with fail
       go_ret
       exact ⟨by rw [HV.out,HVF.out]; rfl,HB1.out⟩
    ·have:i = len:=by omega
     subst this
     have HVT:Hid (decide (∀ j,j < i → p j = true) = true):=Lib.hid (decide_eq_true hr.out.1)
     go_wp2_with fail
     go_ret
     exact ⟨by rw [HV.out,HVT.out]; rfl,hr.out.2⟩
end Go.Proofs.YthjoelpfmimedaaGreatDoor
namespace Go.Proofs.YthjoelpfmimedaaGreatDoor
open Go.RowKit
set_option maxHeartbeats 2000000 in
theorem zC7 (A:Option Addr) (len c:Nat) (least most:Int) (V:Nat → Nat → Value) (p:Nat → Bool) (w:World) (hlen:len ≤ 140737488351232)
  (hA:0 < len → ∃ a,A = some a ∧ a.block < w.heap.size ∧ ∀ i,i < len → ∀ j,j < 1 → w.cell? (at_ (a.add (i)) j) = some (V i j))
  (hS:∀ i,i < len → ∃ (s0:ByteArray),V i 0 = .string s0)
  (hC:∀ i,i < len → ∀ x:World,Below w.heap.size w x → Calls Tryz.prog 43 #[((V i 0))] x fun e w' => e = .returned (.bool (p i)) ∧ Below x.heap.size x w') :
  Calls Tryz.prog 94 #[.slice A len c,.int .i64 least,.int .i64 most,.func (.func 43) #[] #[]] w fun e w' => e = .returned (.bool (decide (least ≤ len) && decide (len ≤ most) && decide (∀ i,i < len → p i = true))) ∧ Below w.heap.size w w':=by
 have HA:=Lib.hid hA
 have HC:=Lib.hid hC
 have HS:=Lib.hid hS
 obtain ⟨RB,hRB⟩ : ∃ RB,RB = (decide (least ≤ (len:Int)) && decide ((len:Int) ≤ most) && decide (∀ i,i < len → p i = true)):=⟨_,rfl⟩
 rw [← hRB]
 have hl:(len:Int) ≤ 140737488351232:=by omega
 clear hA hC hS
 by_cases h1:(len:Int) < least
 ·have HV:Hid (RB = false):=Lib.hid (by rw [hRB,decide_eq_false (by omega:¬ least ≤ (len:Int))]; rfl)
  clear hlen hl hRB
  go_enter Tryz.func94, Tryz.ntmps94
  go_wp2_with fail
  go_ret
  exact ⟨by rw [HV.out]; rfl,Below.refl _ _⟩
 ·by_cases h2:(len:Int) > most
  ·have HV:Hid (RB = false):=Lib.hid (by rw [hRB,decide_eq_false (by omega:¬ (len:Int) ≤ most)]; simp)
   clear hlen hl hRB
   go_enter Tryz.func94, Tryz.ntmps94
   go_wp2_with fail
   go_ret
   exact ⟨by rw [HV.out]; rfl,Below.refl _ _⟩
  ·have HV:Hid (RB = decide (∀ i,i < len → p i = true)):=Lib.hid (by rw [hRB,decide_eq_true (by omega:least ≤ (len:Int)),decide_eq_true (by omega:(len:Int) ≤ most)]; rfl)
   go_enter Tryz.func94, Tryz.ntmps94
   go_wp2_with fail
   clear h1 h2 hRB
   go_loopw [23] (fun u wr => ∃ i:Nat,i ≤ len ∧ u = .int .i64 i ∧ Hid ((∀ j,j < i → p j = true) ∧ Below w.heap.size w wr)) (fun u _ => len - (intOf u).toNat)
   case atStart => exact ⟨0,Nat.zero_le _,rfl,Lib.hid ⟨fun j hj => absurd hj (Nat.not_lt_zero _),Below.refl _ _⟩⟩
   case round =>
    obtain ⟨i,hi,rfl,hr⟩:=hrel
    by_cases hlt:i < len
    ·have hlt':(i:Int) < len:=by omega
     obtain ⟨a,rfl,ha,hc0⟩:=HA.out (by omega)
     have hc:∀ j,j < 1 → wr.cell? (at_ (a.add (i)) j) = some (V i j):=fun j hj => (hr.out.2.cell (by rw [zb6,za1]; exact ha)).trans (hc0 i hlt j hj)
     have hs:=hr.out.2.size
     have k0:wr.cell? (a.add (i)) = some (V i 0):=hc 0 (by omega)
     obtain ⟨s0,e0⟩:=HS.out i hlt
     have HCC:=Lib.hid fun x hx => HC.out i hlt x (hr.out.2.trans (Below.mono hx hs))
     clear hc0 hc
     rw [e0] at k0 HCC
     clear e0
     cases hp:p i with
     | true =>
       go_wp2_with fail
       refine (HCC.out _ (Below.refl _ _)).mono ?_
       rintro e w1 ⟨rfl,hb⟩
       rw [hp]
       have HB1:=Lib.hid (hr.out.2.trans (Below.mono ((Below.refl _ _:Below wr.heap.size wr _).trans (Below.mono hb (by simp))) hs))
       have HAL:Hid (∀ j,j < i + 1 → p j = true):=Lib.hid (fun j hj => by
        rcases Nat.lt_or_ge j i with h | h
        ·exact hr.out.1 j h
        ·have:j = i:=by omega
         rw [this]; exact hp)
       clear hb
       go_wp2_with fail
       go_roundw
       case rel => exact ⟨i + 1,by omega,by simp,Lib.hid ⟨HAL.out,HB1.out⟩⟩
       case measure => simp [intOf]; omega
     | false =>
       go_wp2_with fail
       refine (HCC.out _ (Below.refl _ _)).mono ?_
       rintro e w1 ⟨rfl,hb⟩
       rw [hp]
       have HB1:=Lib.hid (hr.out.2.trans (Below.mono ((Below.refl _ _:Below wr.heap.size wr _).trans (Below.mono hb (by simp))) hs))
       have HVF:Hid (decide (∀ i,i < len → p i = true) = false):=Lib.hid (decide_eq_false fun h => by rw [h i hlt] at hp; cases hp)
       clear hb
       go_wp2_with fail
       go_ret
       exact ⟨by rw [HV.out,HVF.out]; rfl,HB1.out⟩
    ·have:i = len:=by omega
     subst this
     have HVT:Hid (decide (∀ j,j < i → p j = true) = true):=Lib.hid (decide_eq_true hr.out.1)
     go_wp2_with fail
     go_ret
     exact ⟨by rw [HV.out,HVT.out]; rfl,hr.out.2⟩
end Go.Proofs.YthjoelpfmimedaaGreatDoor
namespace Go.Proofs.YthjoelpfmimedaaGreatDoor
open Go.RowKit
set_option maxHeartbeats 2000000 in
theorem zC9 (A:Option Addr) (len c:Nat) (least most:Int) (V:Nat → Nat → Value) (p:Nat → Bool) (w:World) (hlen:len ≤ 140737488351232)
  (hA:0 < len → ∃ a,A = some a ∧ a.block < w.heap.size ∧ ∀ i,i < len → ∀ j,j < 5 → w.cell? (at_ (a.add (i * 5)) j) = some (V i j))
  (hS:∀ i,i < len → ∃ (s0:ByteArray) (A1:Option Addr) (l1 z1:Nat) (s2:ByteArray) (A3:Option Addr) (l3 z3:Nat) (A4:Option Addr) (l4 z4:Nat),V i 0 = .string s0 ∧ V i 1 = .slice A1 l1 z1 ∧ V i 2 = .string s2 ∧ V i 3 = .slice A3 l3 z3 ∧ V i 4 = .slice A4 l4 z4)
  (hC:∀ i,i < len → ∀ x:World,Below w.heap.size w x → Calls Tryz.prog 96 #[(.agg #[(V i 0),(V i 1),(V i 2),(V i 3),(V i 4)])] x fun e w' => e = .returned (.bool (p i)) ∧ Below x.heap.size x w') :
  Calls Tryz.prog 95 #[.slice A len c,.int .i64 least,.int .i64 most,.func (.func 96) #[] #[]] w fun e w' => e = .returned (.bool (decide (least ≤ len) && decide (len ≤ most) && decide (∀ i,i < len → p i = true))) ∧ Below w.heap.size w w':=by
 have HA:=Lib.hid hA
 have HC:=Lib.hid hC
 have HS:=Lib.hid hS
 obtain ⟨RB,hRB⟩ : ∃ RB,RB = (decide (least ≤ (len:Int)) && decide ((len:Int) ≤ most) && decide (∀ i,i < len → p i = true)):=⟨_,rfl⟩
 rw [← hRB]
 have hl:(len:Int) ≤ 140737488351232:=by omega
 clear hA hC hS
 by_cases h1:(len:Int) < least
 ·have HV:Hid (RB = false):=Lib.hid (by rw [hRB,decide_eq_false (by omega:¬ least ≤ (len:Int))]; rfl)
  clear hlen hl hRB
  go_enter Tryz.func95, Tryz.ntmps95
  go_wp2_with fail
  go_ret
  exact ⟨by rw [HV.out]; rfl,Below.refl _ _⟩
 ·by_cases h2:(len:Int) > most
  ·have HV:Hid (RB = false):=Lib.hid (by rw [hRB,decide_eq_false (by omega:¬ (len:Int) ≤ most)]; simp)
   clear hlen hl hRB
   go_enter Tryz.func95, Tryz.ntmps95
   go_wp2_with fail
   go_ret
   exact ⟨by rw [HV.out]; rfl,Below.refl _ _⟩
  ·have HV:Hid (RB = decide (∀ i,i < len → p i = true)):=Lib.hid (by rw [hRB,decide_eq_true (by omega:least ≤ (len:Int)),decide_eq_true (by omega:(len:Int) ≤ most)]; rfl)
   go_enter Tryz.func95, Tryz.ntmps95
   go_wp2_with fail
   clear h1 h2 hRB
   go_loopw [23] (fun u wr => ∃ i:Nat,i ≤ len ∧ u = .int .i64 i ∧ Hid ((∀ j,j < i → p j = true) ∧ Below w.heap.size w wr)) (fun u _ => len - (intOf u).toNat)
   case atStart => exact ⟨0,Nat.zero_le _,rfl,Lib.hid ⟨fun j hj => absurd hj (Nat.not_lt_zero _),Below.refl _ _⟩⟩
   case round =>
    obtain ⟨i,hi,rfl,hr⟩:=hrel
    by_cases hlt:i < len
    ·have hlt':(i:Int) < len:=by omega
     obtain ⟨a,rfl,ha,hc0⟩:=HA.out (by omega)
     have hc:∀ j,j < 5 → wr.cell? (at_ (a.add (i * 5)) j) = some (V i j):=fun j hj => (hr.out.2.cell (by rw [zb6,za1]; exact ha)).trans (hc0 i hlt j hj)
     have hs:=hr.out.2.size
     have k0:wr.cell? (a.add (i * 5)) = some (V i 0):=hc 0 (by omega)
     have k1:wr.cell? ⟨(a.add (i * 5)).block,(a.add (i * 5)).off + 1,none⟩ = some (V i 1):=hc 1 (by omega)
     have k2:wr.cell? ⟨(a.add (i * 5)).block,(a.add (i * 5)).off + 2,none⟩ = some (V i 2):=hc 2 (by omega)
     have k3:wr.cell? ⟨(a.add (i * 5)).block,(a.add (i * 5)).off + 3,none⟩ = some (V i 3):=hc 3 (by omega)
     have k4:wr.cell? ⟨(a.add (i * 5)).block,(a.add (i * 5)).off + 4,none⟩ = some (V i 4):=hc 4 (by omega)
     obtain ⟨s0,A1,l1,z1,s2,A3,l3,z3,A4,l4,z4,e0,e1,e2,e3,e4⟩:=HS.out i hlt
     have HCC:=Lib.hid fun x hx => HC.out i hlt x (hr.out.2.trans (Below.mono hx hs))
     clear hc0 hc
     rw [e0] at k0 HCC
     rw [e1] at k1 HCC
     rw [e2] at k2 HCC
     rw [e3] at k3 HCC
     rw [e4] at k4 HCC
     clear e0 e1 e2 e3 e4
     cases hp:p i with
     | true =>
       go_wp2_with fail
       refine (HCC.out _ ((Below.refl _ _).alloc (Nat.le_refl _) _)).mono ?_
       rintro e w1 ⟨rfl,hb⟩
       rw [hp]
       have HB1:=Lib.hid (hr.out.2.trans (Below.mono (((Below.refl _ _).alloc (Nat.le_refl _) _:Below wr.heap.size wr _).trans (Below.mono hb (by simp))) hs))
       have HAL:Hid (∀ j,j < i + 1 → p j = true):=Lib.hid (fun j hj => by
        rcases Nat.lt_or_ge j i with h | h
        ·exact hr.out.1 j h
        ·have:j = i:=by omega
         rw [this]; exact hp)
       clear hb
       go_wp2_with fail
       go_roundw
       case rel => exact ⟨i + 1,by omega,by simp,Lib.hid ⟨HAL.out,HB1.out⟩⟩
       case measure => simp [intOf]; omega
     | false =>
       go_wp2_with fail
       refine (HCC.out _ ((Below.refl _ _).alloc (Nat.le_refl _) _)).mono ?_
       rintro e w1 ⟨rfl,hb⟩
       rw [hp]
       have HB1:=Lib.hid (hr.out.2.trans (Below.mono (((Below.refl _ _).alloc (Nat.le_refl _) _:Below wr.heap.size wr _).trans (Below.mono hb (by simp))) hs))
       have HVF:Hid (decide (∀ i,i < len → p i = true) = false):=Lib.hid (decide_eq_false fun h => by rw [h i hlt] at hp; cases hp)
       clear hb
       go_wp2_with fail
       go_ret
       exact ⟨by rw [HV.out,HVF.out]; rfl,HB1.out⟩
    ·have:i = len:=by omega
     subst this
     have HVT:Hid (decide (∀ j,j < i → p j = true) = true):=Lib.hid (decide_eq_true hr.out.1)
     go_wp2_with fail
     go_ret
     exact ⟨by rw [HV.out,HVT.out]; rfl,hr.out.2⟩
end Go.Proofs.YthjoelpfmimedaaGreatDoor
namespace Go.Proofs.YthjoelpfmimedaaGreatDoor
open Go.RowKit
set_option maxHeartbeats 2000000 in
theorem zz0 (A:Option Addr) (len c:Nat) (least most:Int) (V:Nat → Nat → Value) (p:Nat → Bool) (w:World) (hlen:len ≤ 140737488351232)
  (hA:0 < len → ∃ a,A = some a ∧ a.block < w.heap.size ∧ ∀ i,i < len → ∀ j,j < 2 → w.cell? (at_ (a.add (i * 2)) j) = some (V i j))
  (hS:∀ i,i < len → ∃ (s0:ByteArray) (A1:Option Addr) (l1 z1:Nat),V i 0 = .string s0 ∧ V i 1 = .slice A1 l1 z1)
  (hC:∀ i,i < len → ∀ x:World,Below w.heap.size w x → Calls Tryz.prog 92 #[(.agg #[(V i 0),(V i 1)])] x fun e w' => e = .returned (.bool (p i)) ∧ Below x.heap.size x w') :
  Calls Tryz.prog 97 #[.slice A len c,.int .i64 least,.int .i64 most,.func (.func 92) #[] #[]] w fun e w' => e = .returned (.bool (decide (least ≤ len) && decide (len ≤ most) && decide (∀ i,i < len → p i = true))) ∧ Below w.heap.size w w':=by
 have HA:=Lib.hid hA
 have HC:=Lib.hid hC
 have HS:=Lib.hid hS
 obtain ⟨RB,hRB⟩ : ∃ RB,RB = (decide (least ≤ (len:Int)) && decide ((len:Int) ≤ most) && decide (∀ i,i < len → p i = true)):=⟨_,rfl⟩
 rw [← hRB]
 have hl:(len:Int) ≤ 140737488351232:=by omega
 clear hA hC hS
 by_cases h1:(len:Int) < least
 ·have HV:Hid (RB = false):=Lib.hid (by rw [hRB,decide_eq_false (by omega:¬ least ≤ (len:Int))]; rfl)
  clear hlen hl hRB
  go_enter Tryz.func97, Tryz.ntmps97
  go_wp2_with fail
  go_ret
  exact ⟨by rw [HV.out]; rfl,Below.refl _ _⟩
 ·by_cases h2:(len:Int) > most
  ·have HV:Hid (RB = false):=Lib.hid (by rw [hRB,decide_eq_false (by omega:¬ (len:Int) ≤ most)]; simp)
   clear hlen hl hRB
   go_enter Tryz.func97, Tryz.ntmps97
   go_wp2_with fail
   go_ret
   exact ⟨by rw [HV.out]; rfl,Below.refl _ _⟩
  ·have HV:Hid (RB = decide (∀ i,i < len → p i = true)):=Lib.hid (by rw [hRB,decide_eq_true (by omega:least ≤ (len:Int)),decide_eq_true (by omega:(len:Int) ≤ most)]; rfl)
   go_enter Tryz.func97, Tryz.ntmps97
   go_wp2_with fail
   clear h1 h2 hRB
   go_loopw [23] (fun u wr => ∃ i:Nat,i ≤ len ∧ u = .int .i64 i ∧ Hid ((∀ j,j < i → p j = true) ∧ Below w.heap.size w wr)) (fun u _ => len - (intOf u).toNat)
   case atStart => exact ⟨0,Nat.zero_le _,rfl,Lib.hid ⟨fun j hj => absurd hj (Nat.not_lt_zero _),Below.refl _ _⟩⟩
   case round =>
    obtain ⟨i,hi,rfl,hr⟩:=hrel
    by_cases hlt:i < len
    ·have hlt':(i:Int) < len:=by omega
     obtain ⟨a,rfl,ha,hc0⟩:=HA.out (by omega)
     have hc:∀ j,j < 2 → wr.cell? (at_ (a.add (i * 2)) j) = some (V i j):=fun j hj => (hr.out.2.cell (by rw [zb6,za1]; exact ha)).trans (hc0 i hlt j hj)
     have hs:=hr.out.2.size
     have k0:wr.cell? (a.add (i * 2)) = some (V i 0):=hc 0 (by omega)
     have k1:wr.cell? ⟨(a.add (i * 2)).block,(a.add (i * 2)).off + 1,none⟩ = some (V i 1):=hc 1 (by omega)
     obtain ⟨s0,A1,l1,z1,e0,e1⟩:=HS.out i hlt
     have HCC:=Lib.hid fun x hx => HC.out i hlt x (hr.out.2.trans (Below.mono hx hs))
     clear hc0 hc
     rw [e0] at k0 HCC
     rw [e1] at k1 HCC
     clear e0 e1
     cases hp:p i with
     | true =>
       go_wp2_with fail
       refine (HCC.out _ ((Below.refl _ _).alloc (Nat.le_refl _) _)).mono ?_
       rintro e w1 ⟨rfl,hb⟩
       rw [hp]
       have HB1:=Lib.hid (hr.out.2.trans (Below.mono (((Below.refl _ _).alloc (Nat.le_refl _) _:Below wr.heap.size wr _).trans (Below.mono hb (by simp))) hs))
       have HAL:Hid (∀ j,j < i + 1 → p j = true):=Lib.hid (fun j hj => by
        rcases Nat.lt_or_ge j i with h | h
        ·exact hr.out.1 j h
        ·have:j = i:=by omega
         rw [this]; exact hp)
       clear hb
       go_wp2_with fail
       go_roundw
       case rel => exact ⟨i + 1,by omega,by simp,Lib.hid ⟨HAL.out,HB1.out⟩⟩
       case measure => simp [intOf]; omega
     | false =>
       go_wp2_with fail
       refine (HCC.out _ ((Below.refl _ _).alloc (Nat.le_refl _) _)).mono ?_
       rintro e w1 ⟨rfl,hb⟩
       rw [hp]
       have HB1:=Lib.hid (hr.out.2.trans (Below.mono (((Below.refl _ _).alloc (Nat.le_refl _) _:Below wr.heap.size wr _).trans (Below.mono hb (by simp))) hs))
       have HVF:Hid (decide (∀ i,i < len → p i = true) = false):=Lib.hid (decide_eq_false fun h => by rw [h i hlt] at hp; cases hp)
       clear hb
       go_wp2_with fail
       go_ret
       exact ⟨by rw [HV.out,HVF.out]; rfl,HB1.out⟩
    ·have:i = len:=by omega
     subst this
     have HVT:Hid (decide (∀ j,j < i → p j = true) = true):=Lib.hid (decide_eq_true hr.out.1)
     go_wp2_with fail
     go_ret
     exact ⟨by rw [HV.out,HVT.out]; rfl,hr.out.2⟩
set_option maxHeartbeats 2000000 in
theorem zz1 (A:Option Addr) (len c:Nat) (least most:Int) (V:Nat → Nat → Value) (p:Nat → Bool) (w:World) (hlen:len ≤ 140737488351232)
  (hA:0 < len → ∃ a,A = some a ∧ a.block < w.heap.size ∧ ∀ i,i < len → ∀ j,j < 2 → w.cell? (at_ (a.add (i * 2)) j) = some (V i j))
  (hS:∀ i,i < len → ∃ (s0:ByteArray) (A1:Option Addr) (l1 z1:Nat),V i 0 = .string s0 ∧ V i 1 = .slice A1 l1 z1)
  (hC:∀ i,i < len → ∀ x:World,Below w.heap.size w x → Calls Tryz.prog 93 #[(.agg #[(V i 0),(V i 1)])] x fun e w' => e = .returned (.bool (p i)) ∧ Below x.heap.size x w') :
  Calls Tryz.prog 97 #[.slice A len c,.int .i64 least,.int .i64 most,.func (.func 93) #[] #[]] w fun e w' => e = .returned (.bool (decide (least ≤ len) && decide (len ≤ most) && decide (∀ i,i < len → p i = true))) ∧ Below w.heap.size w w':=by
 have HA:=Lib.hid hA
 have HC:=Lib.hid hC
 have HS:=Lib.hid hS
 obtain ⟨RB,hRB⟩ : ∃ RB,RB = (decide (least ≤ (len:Int)) && decide ((len:Int) ≤ most) && decide (∀ i,i < len → p i = true)):=⟨_,rfl⟩
 rw [← hRB]
 have hl:(len:Int) ≤ 140737488351232:=by omega
 clear hA hC hS
 by_cases h1:(len:Int) < least
 ·have HV:Hid (RB = false):=Lib.hid (by rw [hRB,decide_eq_false (by omega:¬ least ≤ (len:Int))]; rfl)
  clear hlen hl hRB
  go_enter Tryz.func97, Tryz.ntmps97
  go_wp2_with fail
  go_ret
  exact ⟨by rw [HV.out]; rfl,Below.refl _ _⟩
 ·by_cases h2:(len:Int) > most
  ·have HV:Hid (RB = false):=Lib.hid (by rw [hRB,decide_eq_false (by omega:¬ (len:Int) ≤ most)]; simp)
   clear hlen hl hRB
   go_enter Tryz.func97, Tryz.ntmps97
   go_wp2_with fail
   go_ret
   exact ⟨by rw [HV.out]; rfl,Below.refl _ _⟩
  ·have HV:Hid (RB = decide (∀ i,i < len → p i = true)):=Lib.hid (by rw [hRB,decide_eq_true (by omega:least ≤ (len:Int)),decide_eq_true (by omega:(len:Int) ≤ most)]; rfl)
   go_enter Tryz.func97, Tryz.ntmps97
   go_wp2_with fail
   clear h1 h2 hRB
   go_loopw [23] (fun u wr => ∃ i:Nat,i ≤ len ∧ u = .int .i64 i ∧ Hid ((∀ j,j < i → p j = true) ∧ Below w.heap.size w wr)) (fun u _ => len - (intOf u).toNat)
   case atStart => exact ⟨0,Nat.zero_le _,rfl,Lib.hid ⟨fun j hj => absurd hj (Nat.not_lt_zero _),Below.refl _ _⟩⟩
   case round =>
    obtain ⟨i,hi,rfl,hr⟩:=hrel
    by_cases hlt:i < len
    ·have hlt':(i:Int) < len:=by omega
     obtain ⟨a,rfl,ha,hc0⟩:=HA.out (by omega)
     have hc:∀ j,j < 2 → wr.cell? (at_ (a.add (i * 2)) j) = some (V i j):=fun j hj => (hr.out.2.cell (by rw [zb6,za1]; exact ha)).trans (hc0 i hlt j hj)
     have hs:=hr.out.2.size
     have k0:wr.cell? (a.add (i * 2)) = some (V i 0):=hc 0 (by omega)
     have k1:wr.cell? ⟨(a.add (i * 2)).block,(a.add (i * 2)).off + 1,none⟩ = some (V i 1):=hc 1 (by omega)
     obtain ⟨s0,A1,l1,z1,e0,e1⟩:=HS.out i hlt
     have HCC:=Lib.hid fun x hx => HC.out i hlt x (hr.out.2.trans (Below.mono hx hs))
     clear hc0 hc
     rw [e0] at k0 HCC
     rw [e1] at k1 HCC
     clear e0 e1
     cases hp:p i with
     | true =>
       go_wp2_with fail
       refine (HCC.out _ ((Below.refl _ _).alloc (Nat.le_refl _) _)).mono ?_
       rintro e w1 ⟨rfl,hb⟩
       rw [hp]
       have HB1:=Lib.hid (hr.out.2.trans (Below.mono (((Below.refl _ _).alloc (Nat.le_refl _) _:Below wr.heap.size wr _).trans (Below.mono hb (by simp))) hs))
       have HAL:Hid (∀ j,j < i + 1 → p j = true):=Lib.hid (fun j hj => by
        rcases Nat.lt_or_ge j i with h | h
        ·exact hr.out.1 j h
        ·have:j = i:=by omega
         rw [this]; exact hp)
       clear hb
       go_wp2_with fail
       go_roundw
       case rel => exact ⟨i + 1,by omega,by simp,Lib.hid ⟨HAL.out,HB1.out⟩⟩
       case measure => simp [intOf]; omega
     | false =>
       go_wp2_with fail
       refine (HCC.out _ ((Below.refl _ _).alloc (Nat.le_refl _) _)).mono ?_
       rintro e w1 ⟨rfl,hb⟩
       rw [hp]
       have HB1:=Lib.hid (hr.out.2.trans (Below.mono (((Below.refl _ _).alloc (Nat.le_refl _) _:Below wr.heap.size wr _).trans (Below.mono hb (by simp))) hs))
       have HVF:Hid (decide (∀ i,i < len → p i = true) = false):=Lib.hid (decide_eq_false fun h => by rw [h i hlt] at hp; cases hp)
       clear hb
       go_wp2_with fail
       go_ret
       exact ⟨by rw [HV.out,HVF.out]; rfl,HB1.out⟩
    ·have:i = len:=by omega
     subst this
     have HVT:Hid (decide (∀ j,j < i → p j = true) = true):=Lib.hid (decide_eq_true hr.out.1)
     go_wp2_with fail
     go_ret
     exact ⟨by rw [HV.out,HVT.out]; rfl,hr.out.2⟩
end Go.Proofs.YthjoelpfmimedaaGreatDoor
namespace Go.Proofs.YthjoelpfmimedaaGreatDoor
open Go.RowKit
set_option maxHeartbeats 2000000 in
theorem zC8 (A:Option Addr) (len c:Nat) (least most:Int) (V:Nat → Nat → Value) (p:Nat → Bool) (w:World) (hlen:len ≤ 140737488351232)
  (hA:0 < len → ∃ a,A = some a ∧ a.block < w.heap.size ∧ ∀ i,i < len → ∀ j,j < 10 → w.cell? (at_ (a.add (i * 10)) j) = some (V i j))
  (hS:∀ i,i < len → ∃ (s0:ByteArray) (s1:ByteArray) (A2:Option Addr) (l2 z2:Nat) (b3:Bool) (n4:Int) (n5:Int) (s6:ByteArray) (A7:Option Addr) (l7 z7:Nat) (A8:Option Addr) (l8 z8:Nat) (A9:Option Addr) (l9 z9:Nat),V i 0 = .string s0 ∧ V i 1 = .string s1 ∧ V i 2 = .slice A2 l2 z2 ∧ V i 3 = .bool b3 ∧ V i 4 = .int .i64 n4 ∧ V i 5 = .int .i64 n5 ∧ V i 6 = .string s6 ∧ V i 7 = .slice A7 l7 z7 ∧ V i 8 = .slice A8 l8 z8 ∧ V i 9 = .slice A9 l9 z9)
  (hC:∀ i,i < len → ∀ x:World,Below w.heap.size w x → Calls Tryz.prog 99 #[(.agg #[(V i 0),(V i 1),(V i 2),(V i 3),(V i 4),(V i 5),(V i 6),(V i 7),(V i 8),(V i 9)])] x fun e w' => e = .returned (.bool (p i)) ∧ Below x.heap.size x w') :
  Calls Tryz.prog 98 #[.slice A len c,.int .i64 least,.int .i64 most,.func (.func 99) #[] #[]] w fun e w' => e = .returned (.bool (decide (least ≤ len) && decide (len ≤ most) && decide (∀ i,i < len → p i = true))) ∧ Below w.heap.size w w':=by
 have HA:=Lib.hid hA
 have HC:=Lib.hid hC
 have HS:=Lib.hid hS
 obtain ⟨RB,hRB⟩ : ∃ RB,RB = (decide (least ≤ (len:Int)) && decide ((len:Int) ≤ most) && decide (∀ i,i < len → p i = true)):=⟨_,rfl⟩
 rw [← hRB]
 have hl:(len:Int) ≤ 140737488351232:=by omega
 clear hA hC hS
 by_cases h1:(len:Int) < least
 ·have HV:Hid (RB = false):=Lib.hid (by rw [hRB,decide_eq_false (by omega:¬ least ≤ (len:Int))]; rfl)
  clear hlen hl hRB
  go_enter Tryz.func98, Tryz.ntmps98
  go_wp2_with fail
  go_ret
  exact ⟨by rw [HV.out]; rfl,Below.refl _ _⟩
 ·by_cases h2:(len:Int) > most
  ·have HV:Hid (RB = false):=Lib.hid (by rw [hRB,decide_eq_false (by omega:¬ (len:Int) ≤ most)]; simp)
   clear hlen hl hRB
   go_enter Tryz.func98, Tryz.ntmps98
   go_wp2_with fail
   go_ret
   exact ⟨by rw [HV.out]; rfl,Below.refl _ _⟩
  ·have HV:Hid (RB = decide (∀ i,i < len → p i = true)):=Lib.hid (by rw [hRB,decide_eq_true (by omega:least ≤ (len:Int)),decide_eq_true (by omega:(len:Int) ≤ most)]; rfl)
   go_enter Tryz.func98, Tryz.ntmps98
   go_wp2_with fail
   clear h1 h2 hRB
   go_loopw [23] (fun u wr => ∃ i:Nat,i ≤ len ∧ u = .int .i64 i ∧ Hid ((∀ j,j < i → p j = true) ∧ Below w.heap.size w wr)) (fun u _ => len - (intOf u).toNat)
   case atStart => exact ⟨0,Nat.zero_le _,rfl,Lib.hid ⟨fun j hj => absurd hj (Nat.not_lt_zero _),Below.refl _ _⟩⟩
   case round =>
    obtain ⟨i,hi,rfl,hr⟩:=hrel
    by_cases hlt:i < len
    ·have hlt':(i:Int) < len:=by omega
     obtain ⟨a,rfl,ha,hc0⟩:=HA.out (by omega)
     have hc:∀ j,j < 10 → wr.cell? (at_ (a.add (i * 10)) j) = some (V i j):=fun j hj => (hr.out.2.cell (by rw [zb6,za1]; exact ha)).trans (hc0 i hlt j hj)
     have hs:=hr.out.2.size
     have k0:wr.cell? (a.add (i * 10)) = some (V i 0):=hc 0 (by omega)
     have k1:wr.cell? ⟨(a.add (i * 10)).block,(a.add (i * 10)).off + 1,none⟩ = some (V i 1):=hc 1 (by omega)
     have k2:wr.cell? ⟨(a.add (i * 10)).block,(a.add (i * 10)).off + 2,none⟩ = some (V i 2):=hc 2 (by omega)
     have k3:wr.cell? ⟨(a.add (i * 10)).block,(a.add (i * 10)).off + 3,none⟩ = some (V i 3):=hc 3 (by omega)
     have k4:wr.cell? ⟨(a.add (i * 10)).block,(a.add (i * 10)).off + 4,none⟩ = some (V i 4):=hc 4 (by omega)
     have k5:wr.cell? ⟨(a.add (i * 10)).block,(a.add (i * 10)).off + 5,none⟩ = some (V i 5):=hc 5 (by omega)
     have k6:wr.cell? ⟨(a.add (i * 10)).block,(a.add (i * 10)).off + 6,none⟩ = some (V i 6):=hc 6 (by omega)
     have k7:wr.cell? ⟨(a.add (i * 10)).block,(a.add (i * 10)).off + 7,none⟩ = some (V i 7):=hc 7 (by omega)
     have k8:wr.cell? ⟨(a.add (i * 10)).block,(a.add (i * 10)).off + 8,none⟩ = some (V i 8):=hc 8 (by omega)
     have k9:wr.cell? ⟨(a.add (i * 10)).block,(a.add (i * 10)).off + 9,none⟩ = some (V i 9):=hc 9 (by omega)
     obtain ⟨s0,s1,A2,l2,z2,b3,n4,n5,s6,A7,l7,z7,A8,l8,z8,A9,l9,z9,e0,e1,e2,e3,e4,e5,e6,e7,e8,e9⟩:=HS.out i hlt
     have HCC:=Lib.hid fun x hx => HC.out i hlt x (hr.out.2.trans (Below.mono hx hs))
     clear hc0 hc
     rw [e0] at k0 HCC
     rw [e1] at k1 HCC
     rw [e2] at k2 HCC
     rw [e3] at k3 HCC
     rw [e4] at k4 HCC
     rw [e5] at k5 HCC
     rw [e6] at k6 HCC
     rw [e7] at k7 HCC
     rw [e8] at k8 HCC
     rw [e9] at k9 HCC
     clear e0 e1 e2 e3 e4 e5 e6 e7 e8 e9
     cases hp:p i with
     | true =>
       go_wp2_with fail
       refine (HCC.out _ ((Below.refl _ _).alloc (Nat.le_refl _) _)).mono ?_
       rintro e w1 ⟨rfl,hb⟩
       rw [hp]
       have HB1:=Lib.hid (hr.out.2.trans (Below.mono (((Below.refl _ _).alloc (Nat.le_refl _) _:Below wr.heap.size wr _).trans (Below.mono hb (by simp))) hs))
       have HAL:Hid (∀ j,j < i + 1 → p j = true):=Lib.hid (fun j hj => by
        rcases Nat.lt_or_ge j i with h | h
        ·exact hr.out.1 j h
        ·have:j = i:=by omega
         rw [this]; exact hp)
       clear hb
       go_wp2_with fail
       go_roundw
       case rel => exact ⟨i + 1,by omega,by simp,Lib.hid ⟨HAL.out,HB1.out⟩⟩
       case measure => simp [intOf]; omega
     | false =>
       go_wp2_with fail
       refine (HCC.out _ ((Below.refl _ _).alloc (Nat.le_refl _) _)).mono ?_
       rintro e w1 ⟨rfl,hb⟩
       rw [hp]
       have HB1:=Lib.hid (hr.out.2.trans (Below.mono (((Below.refl _ _).alloc (Nat.le_refl _) _:Below wr.heap.size wr _).trans (Below.mono hb (by simp))) hs))
       have HVF:Hid (decide (∀ i,i < len → p i = true) = false):=Lib.hid (decide_eq_false fun h => by rw [h i hlt] at hp; cases hp)
       clear hb
       go_wp2_with fail
       go_ret
       exact ⟨by rw [HV.out,HVF.out]; rfl,HB1.out⟩
    ·have:i = len:=by omega
     subst this
     have HVT:Hid (decide (∀ j,j < i → p j = true) = true):=Lib.hid (decide_eq_true hr.out.1)
     go_wp2_with fail
     go_ret
     exact ⟨by rw [HV.out,HVT.out]; rfl,hr.out.2⟩
end Go.Proofs.YthjoelpfmimedaaGreatDoor
namespace Go.Proofs.YthjoelpfmimedaaGreatDoor
open Go.RowKit
set_option maxHeartbeats 2000000 in
theorem zD2 (q:Nat) (A:Option Addr) (len c:Nat) (least most:Int) (V:Nat → Nat → Value) (p:Nat → Bool) (w:World) (hlen:len ≤ 140737488351232)
  (hA:0 < len → ∃ a,A = some a ∧ a.block < w.heap.size ∧ ∀ i,i < len → ∀ j,j < 6 → w.cell? (at_ (a.add (i * 6)) j) = some (V i j))
  (hS:∀ i,i < len → ∃ (s0:ByteArray) (n1:Int) (n2:Int) (s3:ByteArray) (A4:Option Addr) (l4 z4:Nat) (A5:Option Addr) (l5 z5:Nat),V i 0 = .string s0 ∧ V i 1 = .int .i64 n1 ∧ V i 2 = .int .i64 n2 ∧ V i 3 = .string s3 ∧ V i 4 = .slice A4 l4 z4 ∧ V i 5 = .slice A5 l5 z5)
  (hC:∀ i,i < len → ∀ x:World,Below w.heap.size w x → Calls Tryz.prog 202 (#[(.agg #[(V i 0),(V i 1),(V i 2),(V i 3),(V i 4),(V i 5)])] ++ #[.pointer (some ⟨q,0,none⟩)]) x fun e w' => e = .returned (.bool (p i)) ∧ Below x.heap.size x w') :
  Calls Tryz.prog 201 #[.slice A len c,.int .i64 least,.int .i64 most,.func (.func 202) #[] #[.pointer (some ⟨q,0,none⟩)]] w fun e w' => e = .returned (.bool (decide (least ≤ len) && decide (len ≤ most) && decide (∀ i,i < len → p i = true))) ∧ Below w.heap.size w w':=by
 have HA:=Lib.hid hA
 have HC:=Lib.hid hC
 have HS:=Lib.hid hS
 obtain ⟨RB,hRB⟩ : ∃ RB,RB = (decide (least ≤ (len:Int)) && decide ((len:Int) ≤ most) && decide (∀ i,i < len → p i = true)):=⟨_,rfl⟩
 rw [← hRB]
 have hl:(len:Int) ≤ 140737488351232:=by omega
 clear hA hC hS
 by_cases h1:(len:Int) < least
 ·have HV:Hid (RB = false):=Lib.hid (by rw [hRB,decide_eq_false (by omega:¬ least ≤ (len:Int))]; rfl)
  clear hlen hl hRB
  go_enter Tryz.func201, Tryz.ntmps201
  go_wp2_with fail
  go_ret
  exact ⟨by rw [HV.out]; rfl,Below.refl _ _⟩
 ·by_cases h2:(len:Int) > most
  ·have HV:Hid (RB = false):=Lib.hid (by rw [hRB,decide_eq_false (by omega:¬ (len:Int) ≤ most)]; simp)
   clear hlen hl hRB
   go_enter Tryz.func201, Tryz.ntmps201
   go_wp2_with fail
   go_ret
   exact ⟨by rw [HV.out]; rfl,Below.refl _ _⟩
  ·have HV:Hid (RB = decide (∀ i,i < len → p i = true)):=Lib.hid (by rw [hRB,decide_eq_true (by omega:least ≤ (len:Int)),decide_eq_true (by omega:(len:Int) ≤ most)]; rfl)
   go_enter Tryz.func201, Tryz.ntmps201
   go_wp2_with fail
   clear h1 h2 hRB
   go_loopw [23] (fun u wr => ∃ i:Nat,i ≤ len ∧ u = .int .i64 i ∧ Hid ((∀ j,j < i → p j = true) ∧ Below w.heap.size w wr)) (fun u _ => len - (intOf u).toNat)
   case atStart => exact ⟨0,Nat.zero_le _,rfl,Lib.hid ⟨fun j hj => absurd hj (Nat.not_lt_zero _),Below.refl _ _⟩⟩
   case round =>
    obtain ⟨i,hi,rfl,hr⟩:=hrel
    by_cases hlt:i < len
    ·have hlt':(i:Int) < len:=by omega
     obtain ⟨a,rfl,ha,hc0⟩:=HA.out (by omega)
     have hc:∀ j,j < 6 → wr.cell? (at_ (a.add (i * 6)) j) = some (V i j):=fun j hj => (hr.out.2.cell (by rw [zb6,za1]; exact ha)).trans (hc0 i hlt j hj)
     have hs:=hr.out.2.size
     have k0:wr.cell? (a.add (i * 6)) = some (V i 0):=hc 0 (by omega)
     have k1:wr.cell? ⟨(a.add (i * 6)).block,(a.add (i * 6)).off + 1,none⟩ = some (V i 1):=hc 1 (by omega)
     have k2:wr.cell? ⟨(a.add (i * 6)).block,(a.add (i * 6)).off + 2,none⟩ = some (V i 2):=hc 2 (by omega)
     have k3:wr.cell? ⟨(a.add (i * 6)).block,(a.add (i * 6)).off + 3,none⟩ = some (V i 3):=hc 3 (by omega)
     have k4:wr.cell? ⟨(a.add (i * 6)).block,(a.add (i * 6)).off + 4,none⟩ = some (V i 4):=hc 4 (by omega)
     have k5:wr.cell? ⟨(a.add (i * 6)).block,(a.add (i * 6)).off + 5,none⟩ = some (V i 5):=hc 5 (by omega)
     obtain ⟨s0,n1,n2,s3,A4,l4,z4,A5,l5,z5,e0,e1,e2,e3,e4,e5⟩:=HS.out i hlt
     have HCC:=Lib.hid fun x hx => HC.out i hlt x (hr.out.2.trans (Below.mono hx hs))
     clear hc0 hc
     rw [e0] at k0 HCC
     rw [e1] at k1 HCC
     rw [e2] at k2 HCC
     rw [e3] at k3 HCC
     rw [e4] at k4 HCC
     rw [e5] at k5 HCC
     clear e0 e1 e2 e3 e4 e5
     cases hp:p i with
     | true =>
       go_wp2_with fail
       refine (HCC.out _ ((Below.refl _ _).alloc (Nat.le_refl _) _)).mono ?_
       rintro e w1 ⟨rfl,hb⟩
       rw [hp]
       have HB1:=Lib.hid (hr.out.2.trans (Below.mono (((Below.refl _ _).alloc (Nat.le_refl _) _:Below wr.heap.size wr _).trans (Below.mono hb (by simp))) hs))
       have HAL:Hid (∀ j,j < i + 1 → p j = true):=Lib.hid (fun j hj => by
        rcases Nat.lt_or_ge j i with h | h
        ·exact hr.out.1 j h
        ·have:j = i:=by omega
         rw [this]; exact hp)
       clear hb
       go_wp2_with fail
       go_roundw
       case rel => exact ⟨i + 1,by omega,by simp,Lib.hid ⟨HAL.out,HB1.out⟩⟩
       case measure => simp [intOf]; omega
     | false =>
       go_wp2_with fail
       refine (HCC.out _ ((Below.refl _ _).alloc (Nat.le_refl _) _)).mono ?_
       rintro e w1 ⟨rfl,hb⟩
       rw [hp]
       have HB1:=Lib.hid (hr.out.2.trans (Below.mono (((Below.refl _ _).alloc (Nat.le_refl _) _:Below wr.heap.size wr _).trans (Below.mono hb (by simp))) hs))
       have HVF:Hid (decide (∀ i,i < len → p i = true) = false):=Lib.hid (decide_eq_false fun h => by rw [h i hlt] at hp; cases hp)
       clear hb
       go_wp2_with fail
       go_ret
       exact ⟨by rw [HV.out,HVF.out]; rfl,HB1.out⟩
    ·have:i = len:=by omega
     subst this
     have HVT:Hid (decide (∀ j,j < i → p j = true) = true):=Lib.hid (decide_eq_true hr.out.1)
     go_wp2_with fail
     go_ret
     exact ⟨by rw [HV.out,HVT.out]; rfl,hr.out.2⟩
end Go.Proofs.YthjoelpfmimedaaGreatDoor
namespace Go.Proofs.YthjoelpfmimedaaGreatDoor
open Go.RowKit
def Bk (W:World) (b:Nat) (cs:Array Value) (T:TypeId):Prop:=W.heap[b]? = some (.cells cs T (0,0))
theorem Bk.cell {W:World} {b:Nat} {cs:Array Value} {T:TypeId} (h:Bk W b cs T) (i:Nat) (v:Value) (hv:cs[i]? = some v):W.cell? ⟨b,i,none⟩ = some v:=by
 rw [cell_of_row _ _ _ _ _ _ h,hv]
theorem Bk.frz {W:World} {b:Nat} {cs:Array Value} {T:TypeId} (h:Bk W b cs T) (i:Nat):W.frozen? ⟨b,i,none⟩ = false:=by
 unfold Bk at h; simp [World.frozen?,h]
theorem Bk.lt {W:World} {b:Nat} {cs:Array Value} {T:TypeId} (h:Bk W b cs T):b < W.heap.size:=by
 unfold Bk at h
 rcases Nat.lt_or_ge b W.heap.size with h' | h'
 ·exact h'
 ·rw [Array.getElem?_eq_none h'] at h; cases h
theorem Bk.new (W:World) (cs:Array Value) (T:TypeId):Bk (W.alloc (.cells cs T (0,0))) W.heap.size cs T:=heap_alloc_new _ _
theorem Bk.stay {W W':World} {b:Nat} {cs:Array Value} {T:TypeId} (h:Bk W b cs T) (hb:Below W.heap.size W W'):Bk W' b cs T:=(hb.block b h.lt).trans h
theorem za0 (w:World) (o:Obj):Below w.heap.size w (w.alloc o):=(Below.refl _ _).alloc (Nat.le_refl _) _
def inB {α:Type} (least most:Int) (xs:List α) (pr : α → Bool):Bool:=decide (least ≤ (xs.length:Int)) && decide ((xs.length:Int) ≤ most) && xs.all pr
def BP (b:Bool) (w:World) (e:Ending) (w':World):Prop:=e = .returned (.bool b) ∧ Below w.heap.size w w'
theorem zi6 (xs:List ByteArray) (v:Value) (w:World) (least most:Int) (h:Sl 1 16 StrR w w.heap.size v xs) (pr:ByteArray → Bool) (hC:∀ (W:World) (f:Nat → Value) (x:ByteArray),StrR W W.heap.size f x → Calls Tryz.prog 43 #[f 0] W (BP (pr x) W)) :
  Calls Tryz.prog 94 #[v,.int .i64 least,.int .i64 most,.func (.func 43) #[] #[]] w (BP (inB least most xs pr) w):=by
 obtain ⟨A,c,rfl,hc,hb,V,hA,hr⟩:=h
 unfold big at hb
 have h1:=zC7 A xs.length c least most V (fun i => ((xs[i]?).map pr).getD true) w (by omega) (fun h0 => by simpa using hA h0)
  (fun i hi => by
    have hx:=hr i _ (List.getElem?_eq_getElem hi)
    exact ⟨_,hx.1⟩)
  (fun i hi W hW => by
    have hx:=List.getElem?_eq_getElem hi
    have h2:=hC W (V i) _ (StrR.stays.mono (StrR.stays.kept (hr i _ hx) hW) hW.size)
    rw [hx]
    exact h2)
 rw [zt2 pr xs _ (fun i x hx => by rw [hx]; rfl)] at h1
 exact h1
theorem zM6 (q:Nat) (xs:List (ByteArray × VT)) (v:Value) (w:World) (least most:Int) (h:Sl 6 96 ArgR w w.heap.size v xs) (pr:(ByteArray × VT) → Bool) (hC:∀ (W:World) (f:Nat → Value) (x:(ByteArray × VT)),Below w.heap.size w W → ArgR W W.heap.size f x → Calls Tryz.prog 202 (#[.agg #[f 0,f 1,f 2,f 3,f 4,f 5]] ++ #[.pointer (some ⟨q,0,none⟩)]) W (BP (pr x) W)) :
  Calls Tryz.prog 201 #[v,.int .i64 least,.int .i64 most,.func (.func 202) #[] #[.pointer (some ⟨q,0,none⟩)]] w (BP (inB least most xs pr) w):=by
 obtain ⟨A,c,rfl,hc,hb,V,hA,hr⟩:=h
 unfold big at hb
 have h1:=zD2 q A xs.length c least most V (fun i => ((xs[i]?).map pr).getD true) w (by omega) hA
  (fun i hi => by
    have hx:=hr i _ (List.getElem?_eq_getElem hi)
    obtain ⟨k,n,s,A,li,ci,K,lk,ck,q0,q1,q2,q3,q4⟩:=Rd.form hx.val
    exact ⟨_,_,_,_,_,_,_,_,_,_,hx.name,q0,q1,q2,q3,q4⟩)
  (fun i hi W hW => by
    have hx:=List.getElem?_eq_getElem hi
    have h2:=hC W (V i) _ hW (ArgR.stays.mono (ArgR.stays.kept (hr i _ hx) hW) hW.size)
    rw [hx]
    exact h2)
 rw [zt2 pr xs _ (fun i x hx => by rw [hx]; rfl)] at h1
 exact h1
theorem zM4 (q:Nat) (xs:List DirT) (v:Value) (w:World) (least most:Int) (h:Sl 2 40 DirR w w.heap.size v xs) (pr:DirT → Bool) (hC:∀ (W:World) (f:Nat → Value) (x:DirT),Below w.heap.size w W → DirR W W.heap.size f x → Calls Tryz.prog 156 (#[.agg #[f 0,f 1]] ++ #[.pointer (some ⟨q,0,none⟩)]) W (BP (pr x) W)) :
  Calls Tryz.prog 155 #[v,.int .i64 least,.int .i64 most,.func (.func 156) #[] #[.pointer (some ⟨q,0,none⟩)]] w (BP (inB least most xs pr) w):=by
 obtain ⟨A,c,rfl,hc,hb,V,hA,hr⟩:=h
 unfold big at hb
 have h1:=zD0 q A xs.length c least most V (fun i => ((xs[i]?).map pr).getD true) w (by omega) hA
  (fun i hi => by
    have hx:=hr i _ (List.getElem?_eq_getElem hi)
    obtain ⟨A,c,q,_,_⟩:=hx.args.form
    exact ⟨_,_,_,_,hx.name,q⟩)
  (fun i hi W hW => by
    have hx:=List.getElem?_eq_getElem hi
    have h2:=hC W (V i) _ hW (DirR.stays.mono (DirR.stays.kept (hr i _ hx) hW) hW.size)
    rw [hx]
    exact h2)
 rw [zt2 pr xs _ (fun i x hx => by rw [hx]; rfl)] at h1
 exact h1
theorem zg4 (xs:List InpT) (v:Value) (w:World) (least most:Int) (h:Sl 10 168 InpR w w.heap.size v xs) (pr:InpT → Bool) (hC:∀ (W:World) (f:Nat → Value) (x:InpT),InpR W W.heap.size f x → Calls Tryz.prog 99 #[.agg #[f 0,f 1,f 2,f 3,f 4,f 5,f 6,f 7,f 8,f 9]] W (BP (pr x) W)) :
  Calls Tryz.prog 98 #[v,.int .i64 least,.int .i64 most,.func (.func 99) #[] #[]] w (BP (inB least most xs pr) w):=by
 obtain ⟨A,c,rfl,hc,hb,V,hA,hr⟩:=h
 unfold big at hb
 have h1:=zC8 A xs.length c least most V (fun i => ((xs[i]?).map pr).getD true) w (by omega) hA
  (fun i hi => by
    have hx:=hr i _ (List.getElem?_eq_getElem hi)
    obtain ⟨k,n,s,A,li,ci,K,lk,ck,q0,q1,q2,q3,q4⟩:=Rd.form hx.val
    obtain ⟨A2,c2,p2,_,_⟩:=hx.type.wraps.form
    obtain ⟨A9,c9,p9,_,_⟩:=hx.dirs.form
    exact ⟨_,_,_,_,_,_,_,_,_,_,_,_,_,_,_,_,_,_,hx.name,hx.type.name,p2,hx.has,q0,q1,q2,q3,q4,p9⟩)
  (fun i hi W hW => by
    have hx:=List.getElem?_eq_getElem hi
    have h2:=hC W (V i) _ (InpR.stays.mono (InpR.stays.kept (hr i _ hx) hW) hW.size)
    rw [hx]
    exact h2)
 rw [zt2 pr xs _ (fun i x hx => by rw [hx]; rfl)] at h1
 exact h1
theorem zi7 (xs:List FldT) (v:Value) (w:World) (least most:Int) (h:Sl 5 104 FldR w w.heap.size v xs) (pr:FldT → Bool) (hC:∀ (W:World) (f:Nat → Value) (x:FldT),FldR W W.heap.size f x → Calls Tryz.prog 96 #[.agg #[f 0,f 1,f 2,f 3,f 4]] W (BP (pr x) W)) :
  Calls Tryz.prog 95 #[v,.int .i64 least,.int .i64 most,.func (.func 96) #[] #[]] w (BP (inB least most xs pr) w):=by
 obtain ⟨A,c,rfl,hc,hb,V,hA,hr⟩:=h
 unfold big at hb
 have h1:=zC9 A xs.length c least most V (fun i => ((xs[i]?).map pr).getD true) w (by omega) hA
  (fun i hi => by
    have hx:=hr i _ (List.getElem?_eq_getElem hi)
    obtain ⟨A1,c1,p1,_,_⟩:=hx.args.form
    obtain ⟨A3,c3,p3,_,_⟩:=hx.type.wraps.form
    obtain ⟨A4,c4,p4,_,_⟩:=hx.dirs.form
    exact ⟨_,_,_,_,_,_,_,_,_,_,_,hx.name,p1,hx.type.name,p3,p4⟩)
  (fun i hi W hW => by
    have hx:=List.getElem?_eq_getElem hi
    have h2:=hC W (V i) _ (FldR.stays.mono (FldR.stays.kept (hr i _ hx) hW) hW.size)
    rw [hx]
    exact h2)
 rw [zt2 pr xs _ (fun i x hx => by rw [hx]; rfl)] at h1
 exact h1
theorem zM5 (xs:List DefT) (v:Value) (w:World) (least most:Int) (h:Sl 7 144 DefR w w.heap.size v xs) (pr:DefT → Bool) (hC:∀ (W:World) (f:Nat → Value) (x:DefT),DefR W W.heap.size f x → Calls Tryz.prog 24 #[.agg #[f 0,f 1,f 2,f 3,f 4,f 5,f 6]] W (BP (pr x) W)) :
  Calls Tryz.prog 23 #[v,.int .i64 least,.int .i64 most,.func (.func 24) #[] #[]] w (BP (inB least most xs pr) w):=by
 obtain ⟨A,c,rfl,hc,hb,V,hA,hr⟩:=h
 unfold big at hb
 have h1:=zD1 A xs.length c least most V (fun i => ((xs[i]?).map pr).getD true) w (by omega) hA
  (fun i hi => by
    have hx:=hr i _ (List.getElem?_eq_getElem hi)
    obtain ⟨A2,c2,p2,_,_⟩:=hx.impl.form
    obtain ⟨A3,c3,p3,_,_⟩:=hx.dirs.form
    obtain ⟨A4,c4,p4,_,_⟩:=hx.fields.form
    obtain ⟨A5,c5,p5,_,_⟩:=hx.members.form
    obtain ⟨A6,c6,p6,_,_⟩:=hx.inputs.form
    exact ⟨_,_,_,_,_,_,_,_,_,_,_,_,_,_,_,_,_,hx.kind,hx.name,p2,p3,p4,p5,p6⟩)
  (fun i hi W hW => by
    have hx:=List.getElem?_eq_getElem hi
    have h2:=hC W (V i) _ (DefR.stays.mono (DefR.stays.kept (hr i _ hx) hW) hW.size)
    rw [hx]
    exact h2)
 rw [zt2 pr xs _ (fun i x hx => by rw [hx]; rfl)] at h1
 exact h1
theorem zj3 (xs:List MemT) (v:Value) (w:World) (least most:Int) (h:Sl 2 40 MemR w w.heap.size v xs) (pr:MemT → Bool) (hC:∀ (W:World) (f:Nat → Value) (x:MemT),MemR W W.heap.size f x → Calls Tryz.prog 92 #[.agg #[f 0,f 1]] W (BP (pr x) W)) :
  Calls Tryz.prog 97 #[v,.int .i64 least,.int .i64 most,.func (.func 92) #[] #[]] w (BP (inB least most xs pr) w):=by
 obtain ⟨A,c,rfl,hc,hb,V,hA,hr⟩:=h
 unfold big at hb
 have h1:=zz0 A xs.length c least most V (fun i => ((xs[i]?).map pr).getD true) w (by omega) hA
  (fun i hi => by
    have hx:=hr i _ (List.getElem?_eq_getElem hi)
    obtain ⟨A,c,q,_,_⟩:=hx.dirs.form
    exact ⟨_,_,_,_,hx.name,q⟩)
  (fun i hi W hW => by
    have hx:=List.getElem?_eq_getElem hi
    have h2:=hC W (V i) _ (MemR.stays.mono (MemR.stays.kept (hr i _ hx) hW) hW.size)
    rw [hx]
    exact h2)
 rw [zt2 pr xs _ (fun i x hx => by rw [hx]; rfl)] at h1
 exact h1
theorem zG6 (xs:List MemT) (v:Value) (w:World) (least most:Int) (h:Sl 2 40 MemR w w.heap.size v xs) (pr:MemT → Bool) (hC:∀ (W:World) (f:Nat → Value) (x:MemT),MemR W W.heap.size f x → Calls Tryz.prog 93 #[.agg #[f 0,f 1]] W (BP (pr x) W)) :
  Calls Tryz.prog 97 #[v,.int .i64 least,.int .i64 most,.func (.func 93) #[] #[]] w (BP (inB least most xs pr) w):=by
 obtain ⟨A,c,rfl,hc,hb,V,hA,hr⟩:=h
 unfold big at hb
 have h1:=zz1 A xs.length c least most V (fun i => ((xs[i]?).map pr).getD true) w (by omega) hA
  (fun i hi => by
    have hx:=hr i _ (List.getElem?_eq_getElem hi)
    obtain ⟨A,c,q,_,_⟩:=hx.dirs.form
    exact ⟨_,_,_,_,hx.name,q⟩)
  (fun i hi W hW => by
    have hx:=List.getElem?_eq_getElem hi
    have h2:=hC W (V i) _ (MemR.stays.mono (MemR.stays.kept (hr i _ hx) hW) hW.size)
    rw [hx]
    exact h2)
 rw [zt2 pr xs _ (fun i x hx => by rw [hx]; rfl)] at h1
 exact h1
end Go.Proofs.YthjoelpfmimedaaGreatDoor
