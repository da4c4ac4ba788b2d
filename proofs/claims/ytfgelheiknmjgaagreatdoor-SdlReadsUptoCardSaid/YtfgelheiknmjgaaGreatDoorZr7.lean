
/-
 Texts joined: D1Mem D1Inp D1Arg D2 W2.
-/
import Derived.Test.YtfgelheiknmjgaaGreatDoorZr6
set_option maxRecDepth 1000000
set_option maxHeartbeats 8000000
namespace Go.Proofs.YtfgelheiknmjgaaGreatDoor
open Go.RowKit
theorem zz4 (A:Option Addr) (len c:Nat) (least most:Int) (V:Nat->Nat->Value) (p:Nat->Bool) (w:World) (hlen:len<=140737488351232)
  (hA:0<len->∃ a,A=some a/\a.block<w.heap.size/\∀ i,i<len->∀ j,j<2->w.cell? (at_ (a.add (i*2)) j)=some (V i j))
  (hS:∀ i,i<len->∃ (s0:ByteArray) (A1:Option Addr) (l1 z1:Nat),V i 0=.string s0/\V i 1=.slice A1 l1 z1)
  (hC:∀ i,i<len->∀ x:World,Below w.heap.size w x->Calls Tryz.prog 85 #[(.agg #[(V i 0),(V i 1)])] x fun e w'=>e=.returned (.bool (p i))/\Below x.heap.size x w') :
  Calls Tryz.prog 90 #[.slice A len c,.int .i64 least,.int .i64 most,.func (.func 85) #[] #[]] w fun e w'=>e=.returned (.bool (decide (least<=len)&&decide (len<=most)&&decide (∀ i,i<len->p i=true)))/\Below w.heap.size w w':=by
 have HA:=Lh hA;have HC:=Lh hC;have HS:=Lh hS;obtain ⟨RB,hRB⟩ : ∃ RB,RB=(decide (least<=(len:Int))&&decide ((len:Int)<=most)&&decide (∀ i,i<len->p i=true)):=⟨_,rfl⟩;rw [<- hRB];have hl:(len:Int)<=140737488351232:=by omega
 clear hA hC hS;by_cases h1:(len:Int)<least
 ·have HV:Hid (RB=false):=Lh (by rw [hRB,decide_eq_false (by omega:¬ least<=(len:Int))]; rfl)
  clear hlen hl hRB
  go_enter Tryz.func90, Tryz.ntmps90
  go_wp2_with fail
  go_ret
  exact ⟨by rw [HV.out]; rfl,Below.refl _ _⟩
 ·by_cases h2:(len:Int) > most
  ·have HV:Hid (RB=false):=Lh (by rw [hRB,decide_eq_false (by omega:¬ (len:Int)<=most)]; simp)
   clear hlen hl hRB
   go_enter Tryz.func90, Tryz.ntmps90
   go_wp2_with fail
   go_ret
   exact ⟨by rw [HV.out]; rfl,Below.refl _ _⟩
  ·have HV:Hid (RB=decide (∀ i,i<len->p i=true)):=Lh (by rw [hRB,decide_eq_true (by omega:least<=(len:Int)),decide_eq_true (by omega:(len:Int)<=most)]; rfl)
   go_enter Tryz.func90, Tryz.ntmps90
   go_wp2_with fail
   clear h1 h2 hRB
   go_loopw [23] (fun u wr=>∃ i:Nat,i<=len/\u=.int .i64 i/\Hid ((∀ j,j<i->p j=true)/\Below w.heap.size w wr)) (fun u _=>len-(intOf u).toNat)
   case atStart=>exact ⟨0,Nat.zero_le _,rfl,Lh ⟨fun j hj=>absurd hj (Nat.not_lt_zero _),Below.refl _ _⟩⟩
   case round =>
    obtain ⟨i,hi,rfl,hr⟩:=hrel;by_cases hlt:i<len
    ·have hlt':(i:Int)<len:=by omega
     obtain ⟨a,rfl,ha,hc0⟩:=HA.out (by omega)
     have hc:∀ j,j<2->wr.cell? (at_ (a.add (i*2)) j)=some (V i j):=fun j hj=>(hr.out.2.cell (by rw [zb3,za0]; exact ha)).trans (hc0 i hlt j hj)
     have hs:=hr.out.2.size;have k0:wr.cell? (a.add (i*2))=some (V i 0):=hc 0 (by omega)
     have k1:wr.cell? ⟨(a.add (i*2)).block,(a.add (i*2)).off+1,none⟩=some (V i 1):=hc 1 (by omega)
     obtain ⟨s0,A1,l1,z1,e0,e1⟩:=HS.out i hlt;have HCC:=Lh fun x hx=>HC.out i hlt x (hr.out.2.trans (Below.mono hx hs));clear hc0 hc;rw [e0] at k0 HCC;rw [e1] at k1 HCC;clear e0 e1
     cases hp:p i with
     | true =>
       go_wp2_with fail
       refine (HCC.out _ ((Below.refl _ _).alloc (Nat.le_refl _) _)).mono ?_
       rintro e w1 ⟨rfl,hb⟩;rw [hp];have HB1:=Lh (hr.out.2.trans (Below.mono (((Below.refl _ _).alloc (Nat.le_refl _) _:Below wr.heap.size wr _).trans (Below.mono hb (by simp))) hs))
       have HAL:Hid (∀ j,j<i+1->p j=true):=Lh (fun j hj=>by
        rcases Nat.lt_or_ge j i with h | h
        ·exact hr.out.1 j h
        ·have:j=i:=by omega
         rw [this]; exact hp)
       clear hb;go_wp2_with fail
       go_roundw
       case rel=>exact ⟨i+1,by omega,by simp,Lh ⟨HAL.out,HB1.out⟩⟩
       case measure=>simp [intOf]; omega
     | false =>
       go_wp2_with fail
       refine (HCC.out _ ((Below.refl _ _).alloc (Nat.le_refl _) _)).mono ?_
       rintro e w1 ⟨rfl,hb⟩;rw [hp];have HB1:=Lh (hr.out.2.trans (Below.mono (((Below.refl _ _).alloc (Nat.le_refl _) _:Below wr.heap.size wr _).trans (Below.mono hb (by simp))) hs))
       have HVF:Hid (decide (∀ i,i<len->p i=true)=false):=Lh (decide_eq_false fun h=>by rw [h i hlt] at hp; cases hp)
       clear hb;go_wp2_with fail
       go_ret
       exact ⟨by rw [HV.out,HVF.out]; rfl,HB1.out⟩
    ·have:i=len:=by omega
     subst this;have HVT:Hid (decide (∀ j,j<i->p j=true)=true):=Lh (decide_eq_true hr.out.1);go_wp2_with fail
     go_ret
     exact ⟨by rw [HV.out,HVT.out]; rfl,hr.out.2⟩
theorem zz5 (A:Option Addr) (len c:Nat) (least most:Int) (V:Nat->Nat->Value) (p:Nat->Bool) (w:World) (hlen:len<=140737488351232)
  (hA:0<len->∃ a,A=some a/\a.block<w.heap.size/\∀ i,i<len->∀ j,j<2->w.cell? (at_ (a.add (i*2)) j)=some (V i j))
  (hS:∀ i,i<len->∃ (s0:ByteArray) (A1:Option Addr) (l1 z1:Nat),V i 0=.string s0/\V i 1=.slice A1 l1 z1)
  (hC:∀ i,i<len->∀ x:World,Below w.heap.size w x->Calls Tryz.prog 86 #[(.agg #[(V i 0),(V i 1)])] x fun e w'=>e=.returned (.bool (p i))/\Below x.heap.size x w') :
  Calls Tryz.prog 90 #[.slice A len c,.int .i64 least,.int .i64 most,.func (.func 86) #[] #[]] w fun e w'=>e=.returned (.bool (decide (least<=len)&&decide (len<=most)&&decide (∀ i,i<len->p i=true)))/\Below w.heap.size w w':=by
 have HA:=Lh hA;have HC:=Lh hC;have HS:=Lh hS;obtain ⟨RB,hRB⟩ : ∃ RB,RB=(decide (least<=(len:Int))&&decide ((len:Int)<=most)&&decide (∀ i,i<len->p i=true)):=⟨_,rfl⟩;rw [<- hRB];have hl:(len:Int)<=140737488351232:=by omega
 clear hA hC hS;by_cases h1:(len:Int)<least
 ·have HV:Hid (RB=false):=Lh (by rw [hRB,decide_eq_false (by omega:¬ least<=(len:Int))]; rfl)
  clear hlen hl hRB
  go_enter Tryz.func90, Tryz.ntmps90
  go_wp2_with fail
  go_ret
  exact ⟨by rw [HV.out]; rfl,Below.refl _ _⟩
 ·by_cases h2:(len:Int) > most
  ·have HV:Hid (RB=false):=Lh (by rw [hRB,decide_eq_false (by omega:¬ (len:Int)<=most)]; simp)
   clear hlen hl hRB
   go_enter Tryz.func90, Tryz.ntmps90
   go_wp2_with fail
   go_ret
   exact ⟨by rw [HV.out]; rfl,Below.refl _ _⟩
  ·have HV:Hid (RB=decide (∀ i,i<len->p i=true)):=Lh (by rw [hRB,decide_eq_true (by omega:least<=(len:Int)),decide_eq_true (by omega:(len:Int)<=most)]; rfl)
   go_enter Tryz.func90, Tryz.ntmps90
   go_wp2_with fail
   clear h1 h2 hRB
   go_loopw [23] (fun u wr=>∃ i:Nat,i<=len/\u=.int .i64 i/\Hid ((∀ j,j<i->p j=true)/\Below w.heap.size w wr)) (fun u _=>len-(intOf u).toNat)
   case atStart=>exact ⟨0,Nat.zero_le _,rfl,Lh ⟨fun j hj=>absurd hj (Nat.not_lt_zero _),Below.refl _ _⟩⟩
   case round =>
    obtain ⟨i,hi,rfl,hr⟩:=hrel;by_cases hlt:i<len
    ·have hlt':(i:Int)<len:=by omega
     obtain ⟨a,rfl,ha,hc0⟩:=HA.out (by omega)
     have hc:∀ j,j<2->wr.cell? (at_ (a.add (i*2)) j)=some (V i j):=fun j hj=>(hr.out.2.cell (by rw [zb3,za0]; exact ha)).trans (hc0 i hlt j hj)
     have hs:=hr.out.2.size;have k0:wr.cell? (a.add (i*2))=some (V i 0):=hc 0 (by omega)
     have k1:wr.cell? ⟨(a.add (i*2)).block,(a.add (i*2)).off+1,none⟩=some (V i 1):=hc 1 (by omega)
     obtain ⟨s0,A1,l1,z1,e0,e1⟩:=HS.out i hlt;have HCC:=Lh fun x hx=>HC.out i hlt x (hr.out.2.trans (Below.mono hx hs));clear hc0 hc;rw [e0] at k0 HCC;rw [e1] at k1 HCC;clear e0 e1
     cases hp:p i with
     | true =>
       go_wp2_with fail
       refine (HCC.out _ ((Below.refl _ _).alloc (Nat.le_refl _) _)).mono ?_
       rintro e w1 ⟨rfl,hb⟩;rw [hp];have HB1:=Lh (hr.out.2.trans (Below.mono (((Below.refl _ _).alloc (Nat.le_refl _) _:Below wr.heap.size wr _).trans (Below.mono hb (by simp))) hs))
       have HAL:Hid (∀ j,j<i+1->p j=true):=Lh (fun j hj=>by
        rcases Nat.lt_or_ge j i with h | h
        ·exact hr.out.1 j h
        ·have:j=i:=by omega
         rw [this]; exact hp)
       clear hb;go_wp2_with fail
       go_roundw
       case rel=>exact ⟨i+1,by omega,by simp,Lh ⟨HAL.out,HB1.out⟩⟩
       case measure=>simp [intOf]; omega
     | false =>
       go_wp2_with fail
       refine (HCC.out _ ((Below.refl _ _).alloc (Nat.le_refl _) _)).mono ?_
       rintro e w1 ⟨rfl,hb⟩;rw [hp];have HB1:=Lh (hr.out.2.trans (Below.mono (((Below.refl _ _).alloc (Nat.le_refl _) _:Below wr.heap.size wr _).trans (Below.mono hb (by simp))) hs))
       have HVF:Hid (decide (∀ i,i<len->p i=true)=false):=Lh (decide_eq_false fun h=>by rw [h i hlt] at hp; cases hp)
       clear hb;go_wp2_with fail
       go_ret
       exact ⟨by rw [HV.out,HVF.out]; rfl,HB1.out⟩
    ·have:i=len:=by omega
     subst this;have HVT:Hid (decide (∀ j,j<i->p j=true)=true):=Lh (decide_eq_true hr.out.1);go_wp2_with fail
     go_ret
     exact ⟨by rw [HV.out,HVT.out]; rfl,hr.out.2⟩
theorem zC7 (A:Option Addr) (len c:Nat) (least most:Int) (V:Nat->Nat->Value) (p:Nat->Bool) (w:World) (hlen:len<=140737488351232)
  (hA:0<len->∃ a,A=some a/\a.block<w.heap.size/\∀ i,i<len->∀ j,j<10->w.cell? (at_ (a.add (i*10)) j)=some (V i j))
  (hS:∀ i,i<len->∃ (s0:ByteArray) (s1:ByteArray) (A2:Option Addr) (l2 z2:Nat) (b3:Bool) (n4:Int) (n5:Int) (s6:ByteArray) (A7:Option Addr) (l7 z7:Nat) (A8:Option Addr) (l8 z8:Nat) (A9:Option Addr) (l9 z9:Nat),V i 0=.string s0/\V i 1=.string s1/\V i 2=.slice A2 l2 z2/\V i 3=.bool b3/\V i 4=.int .i64 n4/\V i 5=.int .i64 n5/\V i 6=.string s6/\V i 7=.slice A7 l7 z7/\V i 8=.slice A8 l8 z8/\V i 9=.slice A9 l9 z9)
  (hC:∀ i,i<len->∀ x:World,Below w.heap.size w x->Calls Tryz.prog 92 #[(.agg #[(V i 0),(V i 1),(V i 2),(V i 3),(V i 4),(V i 5),(V i 6),(V i 7),(V i 8),(V i 9)])] x fun e w'=>e=.returned (.bool (p i))/\Below x.heap.size x w') :
  Calls Tryz.prog 91 #[.slice A len c,.int .i64 least,.int .i64 most,.func (.func 92) #[] #[]] w fun e w'=>e=.returned (.bool (decide (least<=len)&&decide (len<=most)&&decide (∀ i,i<len->p i=true)))/\Below w.heap.size w w':=by
 have HA:=Lh hA;have HC:=Lh hC;have HS:=Lh hS;obtain ⟨RB,hRB⟩ : ∃ RB,RB=(decide (least<=(len:Int))&&decide ((len:Int)<=most)&&decide (∀ i,i<len->p i=true)):=⟨_,rfl⟩;rw [<- hRB];have hl:(len:Int)<=140737488351232:=by omega
 clear hA hC hS;by_cases h1:(len:Int)<least
 ·have HV:Hid (RB=false):=Lh (by rw [hRB,decide_eq_false (by omega:¬ least<=(len:Int))]; rfl)
  clear hlen hl hRB
  go_enter Tryz.func91, Tryz.ntmps91
  go_wp2_with fail
  go_ret
  exact ⟨by rw [HV.out]; rfl,Below.refl _ _⟩
 ·by_cases h2:(len:Int) > most
  ·have HV:Hid (RB=false):=Lh (by rw [hRB,decide_eq_false (by omega:¬ (len:Int)<=most)]; simp)
   clear hlen hl hRB
   go_enter Tryz.func91, Tryz.ntmps91
   go_wp2_with fail
   go_ret
   exact ⟨by rw [HV.out]; rfl,Below.refl _ _⟩
  ·have HV:Hid (RB=decide (∀ i,i<len->p i=true)):=Lh (by rw [hRB,decide_eq_true (by omega:least<=(len:Int)),decide_eq_true (by omega:(len:Int)<=most)]; rfl)
   go_enter Tryz.func91, Tryz.ntmps91
   go_wp2_with fail
   clear h1 h2 hRB
   go_loopw [23] (fun u wr=>∃ i:Nat,i<=len/\u=.int .i64 i/\Hid ((∀ j,j<i->p j=true)/\Below w.heap.size w wr)) (fun u _=>len-(intOf u).toNat)
   case atStart=>exact ⟨0,Nat.zero_le _,rfl,Lh ⟨fun j hj=>absurd hj (Nat.not_lt_zero _),Below.refl _ _⟩⟩
   case round =>
    obtain ⟨i,hi,rfl,hr⟩:=hrel;by_cases hlt:i<len
    ·have hlt':(i:Int)<len:=by omega
     obtain ⟨a,rfl,ha,hc0⟩:=HA.out (by omega)
     have hc:∀ j,j<10->wr.cell? (at_ (a.add (i*10)) j)=some (V i j):=fun j hj=>(hr.out.2.cell (by rw [zb3,za0]; exact ha)).trans (hc0 i hlt j hj)
     have hs:=hr.out.2.size;have k0:wr.cell? (a.add (i*10))=some (V i 0):=hc 0 (by omega)
     have k1:wr.cell? ⟨(a.add (i*10)).block,(a.add (i*10)).off+1,none⟩=some (V i 1):=hc 1 (by omega)
     have k2:wr.cell? ⟨(a.add (i*10)).block,(a.add (i*10)).off+2,none⟩=some (V i 2):=hc 2 (by omega)
     have k3:wr.cell? ⟨(a.add (i*10)).block,(a.add (i*10)).off+3,none⟩=some (V i 3):=hc 3 (by omega)
     have k4:wr.cell? ⟨(a.add (i*10)).block,(a.add (i*10)).off+4,none⟩=some (V i 4):=hc 4 (by omega)
     have k5:wr.cell? ⟨(a.add (i*10)).block,(a.add (i*10)).off+5,none⟩=some (V i 5):=hc 5 (by omega)
     have k6:wr.cell? ⟨(a.add (i*10)).block,(a.add (i*10)).off+6,none⟩=some (V i 6):=hc 6 (by omega)
     have k7:wr.cell? ⟨(a.add (i*10)).block,(a.add (i*10)).off+7,none⟩=some (V i 7):=hc 7 (by omega)
     have k8:wr.cell? ⟨(a.add (i*10)).block,(a.add (i*10)).off+8,none⟩=some (V i 8):=hc 8 (by omega)
     have k9:wr.cell? ⟨(a.add (i*10)).block,(a.add (i*10)).off+9,none⟩=some (V i 9):=hc 9 (by omega)
     obtain ⟨s0,s1,A2,l2,z2,b3,n4,n5,s6,A7,l7,z7,A8,l8,z8,A9,l9,z9,e0,e1,e2,e3,e4,e5,e6,e7,e8,e9⟩:=HS.out i hlt;have HCC:=Lh fun x hx=>HC.out i hlt x (hr.out.2.trans (Below.mono hx hs));clear hc0 hc;rw [e0] at k0 HCC;rw [e1] at k1 HCC;rw [e2] at k2 HCC;rw [e3] at k3 HCC;rw [e4] at k4 HCC;rw [e5] at k5 HCC;rw [e6] at k6 HCC;rw [e7] at k7 HCC;rw [e8] at k8 HCC;rw [e9] at k9 HCC;clear e0 e1 e2 e3 e4 e5 e6 e7 e8 e9
     cases hp:p i with
     | true =>
       go_wp2_with fail
       refine (HCC.out _ ((Below.refl _ _).alloc (Nat.le_refl _) _)).mono ?_
       rintro e w1 ⟨rfl,hb⟩;rw [hp];have HB1:=Lh (hr.out.2.trans (Below.mono (((Below.refl _ _).alloc (Nat.le_refl _) _:Below wr.heap.size wr _).trans (Below.mono hb (by simp))) hs))
       have HAL:Hid (∀ j,j<i+1->p j=true):=Lh (fun j hj=>by
        rcases Nat.lt_or_ge j i with h | h
        ·exact hr.out.1 j h
        ·have:j=i:=by omega
         rw [this]; exact hp)
       clear hb;go_wp2_with fail
       go_roundw
       case rel=>exact ⟨i+1,by omega,by simp,Lh ⟨HAL.out,HB1.out⟩⟩
       case measure=>simp [intOf]; omega
     | false =>
       go_wp2_with fail
       refine (HCC.out _ ((Below.refl _ _).alloc (Nat.le_refl _) _)).mono ?_
       rintro e w1 ⟨rfl,hb⟩;rw [hp];have HB1:=Lh (hr.out.2.trans (Below.mono (((Below.refl _ _).alloc (Nat.le_refl _) _:Below wr.heap.size wr _).trans (Below.mono hb (by simp))) hs))
       have HVF:Hid (decide (∀ i,i<len->p i=true)=false):=Lh (decide_eq_false fun h=>by rw [h i hlt] at hp; cases hp)
       clear hb;go_wp2_with fail
       go_ret
       exact ⟨by rw [HV.out,HVF.out]; rfl,HB1.out⟩
    ·have:i=len:=by omega
     subst this;have HVT:Hid (decide (∀ j,j<i->p j=true)=true):=Lh (decide_eq_true hr.out.1);go_wp2_with fail
     go_ret
     exact ⟨by rw [HV.out,HVT.out]; rfl,hr.out.2⟩
theorem zD1 (q:Nat) (A:Option Addr) (len c:Nat) (least most:Int) (V:Nat->Nat->Value) (p:Nat->Bool) (w:World) (hlen:len<=140737488351232)
  (hA:0<len->∃ a,A=some a/\a.block<w.heap.size/\∀ i,i<len->∀ j,j<6->w.cell? (at_ (a.add (i*6)) j)=some (V i j))
  (hS:∀ i,i<len->∃ (s0:ByteArray) (n1:Int) (n2:Int) (s3:ByteArray) (A4:Option Addr) (l4 z4:Nat) (A5:Option Addr) (l5 z5:Nat),V i 0=.string s0/\V i 1=.int .i64 n1/\V i 2=.int .i64 n2/\V i 3=.string s3/\V i 4=.slice A4 l4 z4/\V i 5=.slice A5 l5 z5)
  (hC:∀ i,i<len->∀ x:World,Below w.heap.size w x->Calls Tryz.prog 187 (#[(.agg #[(V i 0),(V i 1),(V i 2),(V i 3),(V i 4),(V i 5)])]++#[.pointer (some ⟨q,0,none⟩)]) x fun e w'=>e=.returned (.bool (p i))/\Below x.heap.size x w') :
  Calls Tryz.prog 186 #[.slice A len c,.int .i64 least,.int .i64 most,.func (.func 187) #[] #[.pointer (some ⟨q,0,none⟩)]] w fun e w'=>e=.returned (.bool (decide (least<=len)&&decide (len<=most)&&decide (∀ i,i<len->p i=true)))/\Below w.heap.size w w':=by
 have HA:=Lh hA;have HC:=Lh hC;have HS:=Lh hS;obtain ⟨RB,hRB⟩ : ∃ RB,RB=(decide (least<=(len:Int))&&decide ((len:Int)<=most)&&decide (∀ i,i<len->p i=true)):=⟨_,rfl⟩;rw [<- hRB];have hl:(len:Int)<=140737488351232:=by omega
 clear hA hC hS;by_cases h1:(len:Int)<least
 ·have HV:Hid (RB=false):=Lh (by rw [hRB,decide_eq_false (by omega:¬ least<=(len:Int))]; rfl)
  clear hlen hl hRB
  go_enter Tryz.func186, Tryz.ntmps186
  go_wp2_with fail
  go_ret
  exact ⟨by rw [HV.out]; rfl,Below.refl _ _⟩
 ·by_cases h2:(len:Int) > most
  ·have HV:Hid (RB=false):=Lh (by rw [hRB,decide_eq_false (by omega:¬ (len:Int)<=most)]; simp)
   clear hlen hl hRB
   go_enter Tryz.func186, Tryz.ntmps186
   go_wp2_with fail
   go_ret
   exact ⟨by rw [HV.out]; rfl,Below.refl _ _⟩
  ·have HV:Hid (RB=decide (∀ i,i<len->p i=true)):=Lh (by rw [hRB,decide_eq_true (by omega:least<=(len:Int)),decide_eq_true (by omega:(len:Int)<=most)]; rfl)
   go_enter Tryz.func186, Tryz.ntmps186
   go_wp2_with fail
   clear h1 h2 hRB
   go_loopw [23] (fun u wr=>∃ i:Nat,i<=len/\u=.int .i64 i/\Hid ((∀ j,j<i->p j=true)/\Below w.heap.size w wr)) (fun u _=>len-(intOf u).toNat)
   case atStart=>exact ⟨0,Nat.zero_le _,rfl,Lh ⟨fun j hj=>absurd hj (Nat.not_lt_zero _),Below.refl _ _⟩⟩
   case round =>
    obtain ⟨i,hi,rfl,hr⟩:=hrel;by_cases hlt:i<len
    ·have hlt':(i:Int)<len:=by omega
     obtain ⟨a,rfl,ha,hc0⟩:=HA.out (by omega)
     have hc:∀ j,j<6->wr.cell? (at_ (a.add (i*6)) j)=some (V i j):=fun j hj=>(hr.out.2.cell (by rw [zb3,za0]; exact ha)).trans (hc0 i hlt j hj)
     have hs:=hr.out.2.size;have k0:wr.cell? (a.add (i*6))=some (V i 0):=hc 0 (by omega)
     have k1:wr.cell? ⟨(a.add (i*6)).block,(a.add (i*6)).off+1,none⟩=some (V i 1):=hc 1 (by omega)
     have k2:wr.cell? ⟨(a.add (i*6)).block,(a.add (i*6)).off+2,none⟩=some (V i 2):=hc 2 (by omega)
     have k3:wr.cell? ⟨(a.add (i*6)).block,(a.add (i*6)).off+3,none⟩=some (V i 3):=hc 3 (by omega)
     have k4:wr.cell? ⟨(a.add (i*6)).block,(a.add (i*6)).off+4,none⟩=some (V i 4):=hc 4 (by omega)
     have k5:wr.cell? ⟨(a.add (i*6)).block,(a.add (i*6)).off+5,none⟩=some (V i 5):=hc 5 (by omega)
     obtain ⟨s0,n1,n2,s3,A4,l4,z4,A5,l5,z5,e0,e1,e2,e3,e4,e5⟩:=HS.out i hlt;have HCC:=Lh fun x hx=>HC.out i hlt x (hr.out.2.trans (Below.mono hx hs));clear hc0 hc;rw [e0] at k0 HCC;rw [e1] at k1 HCC;rw [e2] at k2 HCC;rw [e3] at k3 HCC;rw [e4] at k4 HCC;rw [e5] at k5 HCC;clear e0 e1 e2 e3 e4 e5
     cases hp:p i with
     | true =>
       go_wp2_with fail
       refine (HCC.out _ ((Below.refl _ _).alloc (Nat.le_refl _) _)).mono ?_
       rintro e w1 ⟨rfl,hb⟩;rw [hp];have HB1:=Lh (hr.out.2.trans (Below.mono (((Below.refl _ _).alloc (Nat.le_refl _) _:Below wr.heap.size wr _).trans (Below.mono hb (by simp))) hs))
       have HAL:Hid (∀ j,j<i+1->p j=true):=Lh (fun j hj=>by
        rcases Nat.lt_or_ge j i with h | h
        ·exact hr.out.1 j h
        ·have:j=i:=by omega
         rw [this]; exact hp)
       clear hb;go_wp2_with fail
       go_roundw
       case rel=>exact ⟨i+1,by omega,by simp,Lh ⟨HAL.out,HB1.out⟩⟩
       case measure=>simp [intOf]; omega
     | false =>
       go_wp2_with fail
       refine (HCC.out _ ((Below.refl _ _).alloc (Nat.le_refl _) _)).mono ?_
       rintro e w1 ⟨rfl,hb⟩;rw [hp];have HB1:=Lh (hr.out.2.trans (Below.mono (((Below.refl _ _).alloc (Nat.le_refl _) _:Below wr.heap.size wr _).trans (Below.mono hb (by simp))) hs))
       have HVF:Hid (decide (∀ i,i<len->p i=true)=false):=Lh (decide_eq_false fun h=>by rw [h i hlt] at hp; cases hp)
       clear hb;go_wp2_with fail
       go_ret
       exact ⟨by rw [HV.out,HVF.out]; rfl,HB1.out⟩
    ·have:i=len:=by omega
     subst this;have HVT:Hid (decide (∀ j,j<i->p j=true)=true):=Lh (decide_eq_true hr.out.1);go_wp2_with fail
     go_ret
     exact ⟨by rw [HV.out,HVT.out]; rfl,hr.out.2⟩
def Bk (W:World) (b:Nat) (cs:Array Value) (T:TypeId):Prop:=W.heap[b]?=some (.cells cs T (0,0))
theorem Bk.cell {W:World} {b:Nat} {cs:Array Value} {T:TypeId} (h:Bk W b cs T) (i:Nat) (v:Value) (hv:cs[i]?=some v):W.cell? ⟨b,i,none⟩=some v:=by
 rw [cell_of_row _ _ _ _ _ _ h,hv]
theorem Bk.frz {W:World} {b:Nat} {cs:Array Value} {T:TypeId} (h:Bk W b cs T) (i:Nat):W.frozen? ⟨b,i,none⟩=false:=by
 unfold Bk at h; simp [World.frozen?,h]
theorem Bk.lt {W:World} {b:Nat} {cs:Array Value} {T:TypeId} (h:Bk W b cs T):b<W.heap.size:=by
 unfold Bk at h;rcases Nat.lt_or_ge b W.heap.size with h' | h'
 ·exact h'
 ·rw [Array.getElem?_eq_none h'] at h; cases h
theorem Bk.new (W:World) (cs:Array Value) (T:TypeId):Bk (W.alloc (.cells cs T (0,0))) W.heap.size cs T:=heap_alloc_new _ _
theorem Bk.stay {W W':World} {b:Nat} {cs:Array Value} {T:TypeId} (h:Bk W b cs T) (hb:Below W.heap.size W W'):Bk W' b cs T:=(hb.block b h.lt).trans h
theorem za1 (w:World) (o:Obj):Below w.heap.size w (w.alloc o):=(Below.refl _ _).alloc (Nat.le_refl _) _
def inB {α:Type} (least most:Int) (xs:List α) (pr : α->Bool):Bool:=decide (least<=(xs.length:Int))&&decide ((xs.length:Int)<=most)&&xs.all pr
def BP (b:Bool) (w:World) (e:Ending) (w':World):Prop:=e=.returned (.bool b)/\Below w.heap.size w w'
theorem zj2 (xs:List ByteArray) (v:Value) (w:World) (least most:Int) (h:Sl 1 16 StrR w w.heap.size v xs) (pr:ByteArray->Bool) (hC:∀ (W:World) (f:Nat->Value) (x:ByteArray),StrR W W.heap.size f x->Calls Tryz.prog 39 #[f 0] W (BP (pr x) W)) :
  Calls Tryz.prog 87 #[v,.int .i64 least,.int .i64 most,.func (.func 39) #[] #[]] w (BP (inB least most xs pr) w):=by
 obtain ⟨A,c,rfl,hc,hb,V,hA,hr⟩:=h;unfold big at hb;have h1:=zC6 A xs.length c least most V (fun i=>((xs[i]?).map pr).getD true) w (by omega) (fun h0=>by simpa using hA h0)
  (fun i hi=>by
    have hx:=hr i _ (List.getElem?_eq_getElem hi);exact ⟨_,hx.1⟩)
  (fun i hi W hW=>by
    have hx:=List.getElem?_eq_getElem hi;have h2:=hC W (V i) _ (StrR.stays.mono (StrR.stays.kept (hr i _ hx) hW) hW.size);rw [hx];exact h2)
 rw [zu8 pr xs _ (fun i x hx=>by rw [hx]; rfl)] at h1
 exact h1
theorem zM0 (q:Nat) (xs:List (ByteArray × VT)) (v:Value) (w:World) (least most:Int) (h:Sl 6 96 ArgR w w.heap.size v xs) (pr:(ByteArray × VT)->Bool) (hC:∀ (W:World) (f:Nat->Value) (x:(ByteArray × VT)),Below w.heap.size w W->ArgR W W.heap.size f x->Calls Tryz.prog 187 (#[.agg #[f 0,f 1,f 2,f 3,f 4,f 5]]++#[.pointer (some ⟨q,0,none⟩)]) W (BP (pr x) W)) :
  Calls Tryz.prog 186 #[v,.int .i64 least,.int .i64 most,.func (.func 187) #[] #[.pointer (some ⟨q,0,none⟩)]] w (BP (inB least most xs pr) w):=by
 obtain ⟨A,c,rfl,hc,hb,V,hA,hr⟩:=h;unfold big at hb;have h1:=zD1 q A xs.length c least most V (fun i=>((xs[i]?).map pr).getD true) w (by omega) hA
  (fun i hi=>by
    have hx:=hr i _ (List.getElem?_eq_getElem hi);obtain ⟨k,n,s,A,li,ci,K,lk,ck,q0,q1,q2,q3,q4⟩:=Rd.form hx.val;exact ⟨_,_,_,_,_,_,_,_,_,_,hx.name,q0,q1,q2,q3,q4⟩)
  (fun i hi W hW=>by
    have hx:=List.getElem?_eq_getElem hi;have h2:=hC W (V i) _ hW (ArgR.stays.mono (ArgR.stays.kept (hr i _ hx) hW) hW.size);rw [hx];exact h2)
 rw [zu8 pr xs _ (fun i x hx=>by rw [hx]; rfl)] at h1
 exact h1
theorem zL8 (q:Nat) (xs:List DirT) (v:Value) (w:World) (least most:Int) (h:Sl 2 40 DirR w w.heap.size v xs) (pr:DirT->Bool) (hC:∀ (W:World) (f:Nat->Value) (x:DirT),Below w.heap.size w W->DirR W W.heap.size f x->Calls Tryz.prog 142 (#[.agg #[f 0,f 1]]++#[.pointer (some ⟨q,0,none⟩)]) W (BP (pr x) W)) :
  Calls Tryz.prog 141 #[v,.int .i64 least,.int .i64 most,.func (.func 142) #[] #[.pointer (some ⟨q,0,none⟩)]] w (BP (inB least most xs pr) w):=by
 obtain ⟨A,c,rfl,hc,hb,V,hA,hr⟩:=h;unfold big at hb;have h1:=zC9 q A xs.length c least most V (fun i=>((xs[i]?).map pr).getD true) w (by omega) hA
  (fun i hi=>by
    have hx:=hr i _ (List.getElem?_eq_getElem hi);obtain ⟨A,c,q,_,_⟩:=hx.args.form;exact ⟨_,_,_,_,hx.name,q⟩)
  (fun i hi W hW=>by
    have hx:=List.getElem?_eq_getElem hi;have h2:=hC W (V i) _ hW (DirR.stays.mono (DirR.stays.kept (hr i _ hx) hW) hW.size);rw [hx];exact h2)
 rw [zu8 pr xs _ (fun i x hx=>by rw [hx]; rfl)] at h1
 exact h1
theorem zg9 (xs:List InpT) (v:Value) (w:World) (least most:Int) (h:Sl 10 168 InpR w w.heap.size v xs) (pr:InpT->Bool) (hC:∀ (W:World) (f:Nat->Value) (x:InpT),InpR W W.heap.size f x->Calls Tryz.prog 92 #[.agg #[f 0,f 1,f 2,f 3,f 4,f 5,f 6,f 7,f 8,f 9]] W (BP (pr x) W)) :
  Calls Tryz.prog 91 #[v,.int .i64 least,.int .i64 most,.func (.func 92) #[] #[]] w (BP (inB least most xs pr) w):=by
 obtain ⟨A,c,rfl,hc,hb,V,hA,hr⟩:=h;unfold big at hb;have h1:=zC7 A xs.length c least most V (fun i=>((xs[i]?).map pr).getD true) w (by omega) hA
  (fun i hi=>by
    have hx:=hr i _ (List.getElem?_eq_getElem hi);obtain ⟨k,n,s,A,li,ci,K,lk,ck,q0,q1,q2,q3,q4⟩:=Rd.form hx.val;obtain ⟨A2,c2,p2,_,_⟩:=hx.type.wraps.form;obtain ⟨A9,c9,p9,_,_⟩:=hx.dirs.form;exact ⟨_,_,_,_,_,_,_,_,_,_,_,_,_,_,_,_,_,_,hx.name,hx.type.name,p2,hx.has,q0,q1,q2,q3,q4,p9⟩)
  (fun i hi W hW=>by
    have hx:=List.getElem?_eq_getElem hi;have h2:=hC W (V i) _ (InpR.stays.mono (InpR.stays.kept (hr i _ hx) hW) hW.size);rw [hx];exact h2)
 rw [zu8 pr xs _ (fun i x hx=>by rw [hx]; rfl)] at h1
 exact h1
theorem zj3 (xs:List FldT) (v:Value) (w:World) (least most:Int) (h:Sl 5 104 FldR w w.heap.size v xs) (pr:FldT->Bool) (hC:∀ (W:World) (f:Nat->Value) (x:FldT),FldR W W.heap.size f x->Calls Tryz.prog 89 #[.agg #[f 0,f 1,f 2,f 3,f 4]] W (BP (pr x) W)) :
  Calls Tryz.prog 88 #[v,.int .i64 least,.int .i64 most,.func (.func 89) #[] #[]] w (BP (inB least most xs pr) w):=by
 obtain ⟨A,c,rfl,hc,hb,V,hA,hr⟩:=h;unfold big at hb;have h1:=zC8 A xs.length c least most V (fun i=>((xs[i]?).map pr).getD true) w (by omega) hA
  (fun i hi=>by
    have hx:=hr i _ (List.getElem?_eq_getElem hi);obtain ⟨A1,c1,p1,_,_⟩:=hx.args.form;obtain ⟨A3,c3,p3,_,_⟩:=hx.type.wraps.form;obtain ⟨A4,c4,p4,_,_⟩:=hx.dirs.form;exact ⟨_,_,_,_,_,_,_,_,_,_,_,hx.name,p1,hx.type.name,p3,p4⟩)
  (fun i hi W hW=>by
    have hx:=List.getElem?_eq_getElem hi;have h2:=hC W (V i) _ (FldR.stays.mono (FldR.stays.kept (hr i _ hx) hW) hW.size);rw [hx];exact h2)
 rw [zu8 pr xs _ (fun i x hx=>by rw [hx]; rfl)] at h1
 exact h1
theorem zL9 (xs:List DefT) (v:Value) (w:World) (least most:Int) (h:Sl 7 144 DefR w w.heap.size v xs) (pr:DefT->Bool) (hC:∀ (W:World) (f:Nat->Value) (x:DefT),DefR W W.heap.size f x->Calls Tryz.prog 22 #[.agg #[f 0,f 1,f 2,f 3,f 4,f 5,f 6]] W (BP (pr x) W)) :
  Calls Tryz.prog 21 #[v,.int .i64 least,.int .i64 most,.func (.func 22) #[] #[]] w (BP (inB least most xs pr) w):=by
 obtain ⟨A,c,rfl,hc,hb,V,hA,hr⟩:=h;unfold big at hb;have h1:=zD0 A xs.length c least most V (fun i=>((xs[i]?).map pr).getD true) w (by omega) hA
  (fun i hi=>by
    have hx:=hr i _ (List.getElem?_eq_getElem hi);obtain ⟨A2,c2,p2,_,_⟩:=hx.impl.form;obtain ⟨A3,c3,p3,_,_⟩:=hx.dirs.form;obtain ⟨A4,c4,p4,_,_⟩:=hx.fields.form;obtain ⟨A5,c5,p5,_,_⟩:=hx.members.form;obtain ⟨A6,c6,p6,_,_⟩:=hx.inputs.form;exact ⟨_,_,_,_,_,_,_,_,_,_,_,_,_,_,_,_,_,hx.kind,hx.name,p2,p3,p4,p5,p6⟩)
  (fun i hi W hW=>by
    have hx:=List.getElem?_eq_getElem hi;have h2:=hC W (V i) _ (DefR.stays.mono (DefR.stays.kept (hr i _ hx) hW) hW.size);rw [hx];exact h2)
 rw [zu8 pr xs _ (fun i x hx=>by rw [hx]; rfl)] at h1
 exact h1
theorem zj9 (xs:List MemT) (v:Value) (w:World) (least most:Int) (h:Sl 2 40 MemR w w.heap.size v xs) (pr:MemT->Bool) (hC:∀ (W:World) (f:Nat->Value) (x:MemT),MemR W W.heap.size f x->Calls Tryz.prog 85 #[.agg #[f 0,f 1]] W (BP (pr x) W)) :
  Calls Tryz.prog 90 #[v,.int .i64 least,.int .i64 most,.func (.func 85) #[] #[]] w (BP (inB least most xs pr) w):=by
 obtain ⟨A,c,rfl,hc,hb,V,hA,hr⟩:=h;unfold big at hb;have h1:=zz4 A xs.length c least most V (fun i=>((xs[i]?).map pr).getD true) w (by omega) hA
  (fun i hi=>by
    have hx:=hr i _ (List.getElem?_eq_getElem hi);obtain ⟨A,c,q,_,_⟩:=hx.dirs.form;exact ⟨_,_,_,_,hx.name,q⟩)
  (fun i hi W hW=>by
    have hx:=List.getElem?_eq_getElem hi;have h2:=hC W (V i) _ (MemR.stays.mono (MemR.stays.kept (hr i _ hx) hW) hW.size);rw [hx];exact h2)
 rw [zu8 pr xs _ (fun i x hx=>by rw [hx]; rfl)] at h1
 exact h1
theorem zG7 (xs:List MemT) (v:Value) (w:World) (least most:Int) (h:Sl 2 40 MemR w w.heap.size v xs) (pr:MemT->Bool) (hC:∀ (W:World) (f:Nat->Value) (x:MemT),MemR W W.heap.size f x->Calls Tryz.prog 86 #[.agg #[f 0,f 1]] W (BP (pr x) W)) :
  Calls Tryz.prog 90 #[v,.int .i64 least,.int .i64 most,.func (.func 86) #[] #[]] w (BP (inB least most xs pr) w):=by
 obtain ⟨A,c,rfl,hc,hb,V,hA,hr⟩:=h;unfold big at hb;have h1:=zz5 A xs.length c least most V (fun i=>((xs[i]?).map pr).getD true) w (by omega) hA
  (fun i hi=>by
    have hx:=hr i _ (List.getElem?_eq_getElem hi);obtain ⟨A,c,q,_,_⟩:=hx.dirs.form;exact ⟨_,_,_,_,hx.name,q⟩)
  (fun i hi W hW=>by
    have hx:=List.getElem?_eq_getElem hi;have h2:=hC W (V i) _ (MemR.stays.mono (MemR.stays.kept (hr i _ hx) hW) hW.size);rw [hx];exact h2)
 rw [zu8 pr xs _ (fun i x hx=>by rw [hx]; rfl)] at h1
 exact h1
def wda:Nat->List (ByteArray × VT)->Nat
 | n,[]=>n
 | n,a::r=>if n<=2000 then wda (n+1+a.2.wv) r else n
def wds:Nat->List DirT->Nat
 | n,[]=>n
 | n,d::r=>if n<=2000 then wds (wda (n+1) d.args) r else n
def wis:Nat->List InpT->Nat
 | n,[]=>n
 | n,x::r=>if n<=2000 then wis (n+1+x.tw.length+x.dflt.wv+wds 0 x.dirs) r else n
def wfs:Nat->List FldT->Nat
 | n,[]=>n
 | n,x::r=>if n<=2000 then wfs (n+1+x.tw.length+wis 0 x.args+wds 0 x.dirs) r else n
def wms:Nat->List MemT->Nat
 | n,[]=>n
 | n,x::r=>if n<=2000 then wms (n+1+wds 0 x.dirs) r else n
def wdefs:Nat->List DefT->Nat
 | n,[]=>n
 | n,x::r=>if n<=2000 then wdefs (wms (wfs (n+x.impl.length+wds 0 x.dirs+wis 0 x.inputs) x.fields) x.members) r else n
theorem wda_big {n:Nat} (h:2000<n):∀ l,wda n l=n
 | []=>rfl
 | k::r=>by rw [wda,if_neg (by omega)]
theorem wds_big {n:Nat} (h:2000<n):∀ l,wds n l=n
 | []=>rfl
 | k::r=>by rw [wds,if_neg (by omega)]
theorem wis_big {n:Nat} (h:2000<n):∀ l,wis n l=n
 | []=>rfl
 | k::r=>by rw [wis,if_neg (by omega)]
theorem wfs_big {n:Nat} (h:2000<n):∀ l,wfs n l=n
 | []=>rfl
 | k::r=>by rw [wfs,if_neg (by omega)]
theorem wms_big {n:Nat} (h:2000<n):∀ l,wms n l=n
 | []=>rfl
 | k::r=>by rw [wms,if_neg (by omega)]
theorem zY5 {n:Nat} (h:2000<n):∀ l,wdefs n l=n
 | []=>rfl
 | k::r=>by rw [wdefs,if_neg (by omega)]
def argsS (l:List (ByteArray × VT)):Prop:=∀ a∈l,a.2.bw<=1099511627776
def dirsS (l:List DirT):Prop:=∀ d∈l,argsS d.args
def inpsS (l:List InpT):Prop:=∀ x∈l,x.dflt.bw<=1099511627776/\dirsS x.dirs/\x.tw.length<=17592186044416
def fldsS (l:List FldT):Prop:=∀ x∈l,inpsS x.args/\dirsS x.dirs/\x.tw.length<=17592186044416
def memsS (l:List MemT):Prop:=∀ x∈l,dirsS x.dirs
def defsS (l:List DefT):Prop:=∀ x∈l,dirsS x.dirs/\inpsS x.inputs/\fldsS x.fields/\memsS x.members/\x.impl.length<=17592186044416
theorem wda_le:∀ (l:List (ByteArray × VT)) (n:Nat),argsS l->n<=1099511700000->wda n l<=1099511700000
 | [],n,_,h=>h
 | a::r,n,hs,h=>by
   rw [wda]
   split
   ·have h1:=hs a List.mem_cons_self
    have h2:=wv_le a.2;exact wda_le r _ (fun b hb=>hs b (List.mem_cons_of_mem _ hb)) (by omega)
   ·exact h
theorem zA3:∀ (l:List DirT) (n:Nat),dirsS l->n<=1099511700000->wds n l<=1099511700000
 | [],n,_,h=>h
 | d::r,n,hs,h=>by
   rw [wds]
   split
   ·exact zA3 r _ (fun b hb=>hs b (List.mem_cons_of_mem _ hb)) (wda_le _ _ (hs d List.mem_cons_self) (by omega))
   ·exact h
theorem zY1:∀ (l:List InpT) (n:Nat),inpsS l->n<=20000000000000->wis n l<=20000000000000
 | [],n,_,h=>h
 | x::r,n,hs,h=>by
   rw [wis]
   split
   ·obtain ⟨h1,h2,h3⟩:=hs x List.mem_cons_self
    have h4:=wv_le x.dflt;have h5:=zA3 x.dirs 0 h2 (by omega)
    exact zY1 r _ (fun b hb=>hs b (List.mem_cons_of_mem _ hb)) (by omega)
   ·exact h
theorem zh7 (l:List DirT) (v:Value) (w:World) (h:DirsR w w.heap.size v l) (hs:dirsS l):Calls Tryz.prog 19 #[v,.int .i64 2000] w (zL6 (wds 0 l) w):=by
 obtain ⟨A,c,rfl,hc,hbb,V,hA,hr⟩:=h;obtain ⟨R,hR⟩ : ∃ R,R=wds 0 l:=⟨_,rfl⟩;have HR:=Lh hR;rw [<- hR];obtain ⟨ll,hll⟩ : ∃ ll,ll=l.length:=⟨_,rfl⟩;have HLL:=Lh hll;rw [<- hll] at hbb hA ⊢;have hlb:(ll:Int)<=140737488351232:=by unfold big at hbb; omega
 have HA:=Lh hA;have HRR:=Lh hr;have HS:=Lh hs;clear hA hr hs hR hll hbb
 go_enter Tryz.func19, Tryz.ntmps19
 go_wp2_with fail
 go_loopw [5,6] (fun nn i wr=>∃ (j x:Nat),j<=ll/\i=.int .i64 j/\nn=.int .i64 x/\x<=1099511700000/\Hid (R=wds x (l.drop j)/\Below w.heap.size w wr)) (fun _ i _=>ll-(intOf i).toNat)
 case atStart=>exact ⟨0,0,Nat.zero_le _,rfl,rfl,by omega,Lh ⟨HR.out,Below.refl _ _⟩⟩
 case round =>
  obtain ⟨j,x,hj,rfl,rfl,hxb,hq⟩:=hrel;by_cases hgo:j<ll/\x<=2000
  ·obtain ⟨hlt,hle⟩:=hgo
   have hlt':(j:Int)<ll:=by omega
   have hle':(x:Int)<=2000:=by omega
   obtain ⟨d,hd⟩ : ∃ d,l[j]?=some d:=⟨_,List.getElem?_eq_getElem (by have:=HLL.out; omega)⟩
   obtain ⟨a,rfl,ha,hx⟩:=HA.out (by omega)
   have hdr:=HRR.out j d hd;have hcell:=hx j hlt;obtain ⟨A1,c1,ea,hc1,hb1,V1,hA1,hr1⟩:=hdr.args;have HA1:=Lh hA1;have HR1:=Lh hr1;have HS1:=Lh (HS.out d (List.mem_of_getElem? hd));obtain ⟨la,hla⟩ : ∃ la,la=d.args.length:=⟨_,rfl⟩;have HLA:=Lh hla;rw [<- hla] at ea hc1 hb1 HA1;have hlab:(la:Int)<=140737488351232:=by unfold big at hb1; omega
   have HN:Hid (R=wds (wda (x+1) d.args) (l.drop (j+1))):=Lh (by rw [hq.out.1,zn7 hd,wds,if_pos hle])
   have q1:wr.cell? ⟨(a.add (j*2)).block,(a.add (j*2)).off+1,none⟩=some (.slice A1 la c1):=by
    rw [hq.out.2.cell (p:=⟨(a.add (j*2)).block,(a.add (j*2)).off+1,none⟩) (by rw [za0]; exact ha)]
    exact (hcell 1 (by omega)).trans (by rw [ea])
   have HAB:=Lh ha;have HCL:=Lh ((hcell 1 (by omega)).trans (by rw [ea]))
   clear hx hdr hcell hA1 hr1 hla ha ea hb1;go_wp2_with fail
   clear q1
   go_loopw [5,7] (fun nn i wr=>∃ (j2 x2:Nat),j2<=la/\i=.int .i64 j2/\nn=.int .i64 x2/\x2<=1099511700000/\Hid (wda (x+1) d.args=wda x2 (d.args.drop j2)/\Below w.heap.size w wr)) (fun _ i _=>la-(intOf i).toNat)
   case atStart=>exact ⟨0,x+1,Nat.zero_le _,rfl,by go_num,by omega,Lh ⟨rfl,hq.out.2⟩⟩
   case round =>
    obtain ⟨j2,x2,hj2,rfl,rfl,hxb2,hq2⟩:=hrel;have q1:wr.cell? ⟨(a.add (j*2)).block,(a.add (j*2)).off+1,none⟩=some (.slice A1 la c1):=by
     rw [hq2.out.2.cell (p:=⟨(a.add (j*2)).block,(a.add (j*2)).off+1,none⟩) (by rw [za0]; exact HAB.out)]
     exact HCL.out
    by_cases hgo2:j2<la/\x2<=2000
    ·obtain ⟨hlt2,hle2⟩:=hgo2
     have hlt2':(j2:Int)<la:=by omega
     have hle2':(x2:Int)<=2000:=by omega
     obtain ⟨y,hy⟩ : ∃ y,d.args[j2]?=some y:=⟨_,List.getElem?_eq_getElem (by have:=HLA.out; omega)⟩
     obtain ⟨a1,rfl,ha1,hx1⟩:=HA1.out (by omega)
     have hyr:=HR1.out j2 y hy;obtain ⟨k1,n1,s1,A3,li1,ci1,K1,lk1,ck1,e1,e2,e3,e4,e5⟩:=Rd.form hyr.val;have hyc:=hx1 j2 hlt2;have hkk:∀ o,wr.cell? ⟨(a1.add (j2*6)).block,o,none⟩=w.cell? ⟨(a1.add (j2*6)).block,o,none⟩:=fun o=>hq2.out.2.cell (p:=⟨(a1.add (j2*6)).block,o,none⟩) (by rw [za0]; exact ha1)
     have r1:wr.cell? ⟨(a1.add (j2*6)).block,(a1.add (j2*6)).off+1,none⟩=some (.int .i64 k1):=(hkk _).trans ((hyc 1 (by omega)).trans (by rw [e1]))
     have r2:wr.cell? ⟨(a1.add (j2*6)).block,(a1.add (j2*6)).off+2,none⟩=some (.int .i64 n1):=(hkk _).trans ((hyc 2 (by omega)).trans (by rw [e2]))
     have r3:wr.cell? ⟨(a1.add (j2*6)).block,(a1.add (j2*6)).off+3,none⟩=some (.string s1):=(hkk _).trans ((hyc 3 (by omega)).trans (by rw [e3]))
     have r4:wr.cell? ⟨(a1.add (j2*6)).block,(a1.add (j2*6)).off+4,none⟩=some (.slice A3 li1 ci1):=(hkk _).trans ((hyc 4 (by omega)).trans (by rw [e4]))
     have r5:wr.cell? ⟨(a1.add (j2*6)).block,(a1.add (j2*6)).off+5,none⟩=some (.slice K1 lk1 ck1):=(hkk _).trans ((hyc 5 (by omega)).trans (by rw [e5]))
     have hvv:Rd w w.heap.size (.agg #[.int .i64 k1,.int .i64 n1,.string s1,.slice A3 li1 ci1,.slice K1 lk1 ck1]) y.2:=by
      have:=hyr.val;rw [e1,e2,e3,e4,e5] at this;exact this
     have hsb:=HS1.out y (List.mem_of_getElem? hy);have hwv:=wv_le y.2;have CALL:=Lh (zA2 y.2 wr w.heap.size _ (hvv.kept hq2.out.2) hq2.out.2.size hsb);have HM:Hid (wda (x+1) d.args=wda (x2+1+y.2.wv) (d.args.drop (j2+1))):=Lh (by rw [hq2.out.1,zn7 hy,wda,if_pos hle2])
     have hb2:(y.2.wv:Int)<=1099511627776:=by omega
     generalize y.2.wv=tw at *;clear hy hyr e1 e2 e3 e4 e5 hyc hkk hvv hsb hwv hx1 ha1;go_wp2_with fail
     refine CALL.out.mono ?_
     rintro e w5 ⟨rfl,hb5⟩;have HB5:=Lh (hq2.out.2.trans (hb5.mono hq2.out.2.size));clear hb5 q1 r1 r2 r3 r4 r5 CALL;go_wp2_with fail
     go_roundw
     case rel=>exact ⟨j2+1,x2+1+tw,by omega,by go_num,by go_num,by omega,Lh ⟨HM.out,HB5.out⟩⟩
     case measure=>simp [intOf]; omega
    ·have HF:Hid (R=wds x2 (l.drop (j+1))):=Lh (by
      rw [HN.out,hq2.out.1];rcases Nat.lt_or_ge 2000 x2 with h | h
      ·rw [wda_big h]
      ·rw [List.drop_eq_nil_of_le (by have:=HLA.out; omega),wda])
     by_cases hlt2:j2<la
     ·have hlt2':(j2:Int)<la:=by omega
      have hle2':¬ (x2:Int)<=2000:=fun h=>hgo2 ⟨hlt2,by omega⟩
      clear hgo2;go_wp2_with fail
      go_roundw
      case rel=>exact ⟨j+1,x2,by omega,by go_num,rfl,hxb2,Lh ⟨HF.out,hq2.out.2⟩⟩
      case measure=>simp [intOf]; omega
     ·have hlt2':¬ (j2:Int)<la:=by omega
      clear hgo2;go_wp2_with fail
      go_roundw
      case rel=>exact ⟨j+1,x2,by omega,by go_num,rfl,hxb2,Lh ⟨HF.out,hq2.out.2⟩⟩
      case measure=>simp [intOf]; omega
  ·have HF:Hid (R=x):=Lh (by
    rw [hq.out.1];rcases Nat.lt_or_ge 2000 x with h | h
    ·rw [wds_big h]
    ·rw [List.drop_eq_nil_of_le (by have:=HLL.out; omega),wds])
   by_cases hlt:j<ll
   ·have hlt':(j:Int)<ll:=by omega
    have hle':¬ (x:Int)<=2000:=fun h=>hgo ⟨hlt,by omega⟩
    clear hgo;go_wp2_with fail
    go_ret
    exact ⟨by rw [HF.out]; rfl,hq.out.2⟩
   ·have hlt':¬ (j:Int)<ll:=by omega
    clear hgo;go_wp2_with fail
    go_ret
    exact ⟨by rw [HF.out]; rfl,hq.out.2⟩
end Go.Proofs.YtfgelheiknmjgaaGreatDoor
