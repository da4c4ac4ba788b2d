
/-
 Texts joined: RNodeC RNodeE RWholeL Measure RWhole RRight RNodeAll.
-/
import Derived.Test.YtfgelheiknmjgaaGreatDoorZt29
set_option maxRecDepth 1000000
set_option maxHeartbeats 8000000
namespace Go.Proofs.YtfgelheiknmjgaaGreatDoor
open Go.RowKit
theorem rnode_6 (lit:Bool) (n:Int) (s:ByteArray) (items:List VT) (keys:List ByteArray) (w:World) (B:Nat) (v:Value) (h:Rd w B v (.mk 6 n s items keys)) (hB:B<=w.heap.size) :
  Calls Tryz.prog 189 #[v,.bool lit] w fun e w'=>e=.returned (.bool (za4 lit (.mk 6 n s items keys)))/\Below w.heap.size w w':=by
 have HRD:=Lh h
 cases h with
 | @mk _ _ _ A li ci K lk ck _ _ V hk hn hs hks hli hlk hbi hbk hA hr hK =>
 have b1:Below w.heap.size w (w.alloc (.cells #[.int .i64 6,.int .i64 n,.string s,.slice A li ci,.slice K lk ck] 53 (0,0))):=(Below.refl _ _).alloc (Nat.le_refl _) _;have B1:=Lh b1;have HTW:Hid (Calls Tryz.prog 226 #[.slice K lk ck] (w.alloc (.cells #[.int .i64 6,.int .i64 n,.string s,.slice A li ci,.slice K lk ck] 53 (0,0))) fun e w'=>e=.returned (.bool (!decide keys.Nodup))/\Below _ _ w'):=Lh (zf4 K lk ck keys _ B hlk hbk.1 (hK.kept (b1.mono hB)) (by simp; omega));have HNAME:Hid (Calls Tryz.prog 42 #[.string s] (w.alloc (.cells #[.int .i64 6,.int .i64 n,.string s,.slice A li ci,.slice K lk ck] 53 (0,0))) fun e w'=>e=.returned (.bool (nmA s))/\_=w'):=Lh (zd8 s _ (by unfold maxLen; omega));have hlm:(li:Int)<=140737488351232:=by omega
 have hlm':(lk:Int)<=140737488351232:=by omega
 have HL:=Lh hli;have HLK:=Lh hlk;clear hA hr hK hks hn hs hk hli hlk b1 hbi hbk;by_cases n0:n=0
 ·subst n0
  by_cases s0:s.size=0
  ·obtain ⟨s1,s2,s3⟩:=zw3 s0
   by_cases e0:lk=li
   ·have e1:keys.length=items.length:=by have:=HL.out; have:=HLK.out; omega
    subst e0;cases hnd:decide keys.Nodup
    ·have hn2:¬ keys.Nodup:=by simpa using hnd
     have HV:Hid (za4 lit (.mk 6 0 s items keys)=false):=Lh (by simp [za4,s0,e1,hn2]);clear HRD HL HLK
     go_enter Tryz.func189, Tryz.ntmps189
     go_wp2_with fail
     refine HTW.out.mono ?_
     rintro e w' ⟨rfl,hb⟩;have HB:=Lh (B1.out.trans (hb.mono B1.out.size));clear hb;rw [hnd];go_wp2_with fail;go_ret
     exact ⟨by rw [HV.out]; rfl,HB.out⟩
    ·have hn2:keys.Nodup:=by simpa using hnd
     have HV:Hid (za4 lit (.mk 6 0 s items keys)=true):=Lh (by simp [za4,s0,e1,hn2]);clear HRD HL HLK
     go_enter Tryz.func189, Tryz.ntmps189
     go_wp2_with fail
     refine HTW.out.mono ?_
     rintro e w' ⟨rfl,hb⟩;have HB:=Lh (B1.out.trans (hb.mono B1.out.size));clear hb;rw [hnd];go_wp2_with fail;go_ret
     exact ⟨by rw [HV.out]; rfl,HB.out⟩
   ·have e1:¬ keys.length=items.length:=by have:=HL.out; have:=HLK.out; omega
    have e2:((lk:Int)==(li:Int))=false:=beq_eq_false_iff_ne.2 (by omega);clear e0;have HV:Hid (za4 lit (.mk 6 0 s items keys)=false):=Lh (by simp [za4,s0,e1]);clear HRD HL HLK
    go_enter Tryz.func189, Tryz.ntmps189
    go_wp2_with fail
    go_ret
    exact ⟨by rw [HV.out]; rfl,B1.out⟩
  ·obtain ⟨s1,s2,s3⟩:=zD9 s0
   have HV:Hid (za4 lit (.mk 6 0 s items keys)=false):=Lh (by simp [za4,s0]);clear HRD HL HLK
   go_enter Tryz.func189, Tryz.ntmps189
   go_wp2_with fail
   go_ret
   exact ⟨by rw [HV.out]; rfl,B1.out⟩
 ·have n0':(n==0)=false:=beq_eq_false_iff_ne.2 n0
  have HV:Hid (za4 lit (.mk 6 n s items keys)=false):=Lh (by simp [za4,n0]);clear HRD HL HLK
  go_enter Tryz.func189, Tryz.ntmps189
  go_wp2_with fail
  go_ret
  exact ⟨by rw [HV.out]; rfl,B1.out⟩
theorem rnode_7 (lit:Bool) (n:Int) (s:ByteArray) (items:List VT) (keys:List ByteArray) (w:World) (B:Nat) (v:Value) (h:Rd w B v (.mk 7 n s items keys)) (hB:B<=w.heap.size) :
  Calls Tryz.prog 189 #[v,.bool lit] w fun e w'=>e=.returned (.bool (za4 lit (.mk 7 n s items keys)))/\Below w.heap.size w w':=by
 have HRD:=Lh h
 cases h with
 | @mk _ _ _ A li ci K lk ck _ _ V hk hn hs hks hli hlk hbi hbk hA hr hK =>
 have b1:Below w.heap.size w (w.alloc (.cells #[.int .i64 7,.int .i64 n,.string s,.slice A li ci,.slice K lk ck] 53 (0,0))):=(Below.refl _ _).alloc (Nat.le_refl _) _;have B1:=Lh b1;have HTW:Hid (Calls Tryz.prog 226 #[.slice K lk ck] (w.alloc (.cells #[.int .i64 7,.int .i64 n,.string s,.slice A li ci,.slice K lk ck] 53 (0,0))) fun e w'=>e=.returned (.bool (!decide keys.Nodup))/\Below _ _ w'):=Lh (zf4 K lk ck keys _ B hlk hbk.1 (hK.kept (b1.mono hB)) (by simp; omega));have HNAME:Hid (Calls Tryz.prog 42 #[.string s] (w.alloc (.cells #[.int .i64 7,.int .i64 n,.string s,.slice A li ci,.slice K lk ck] 53 (0,0))) fun e w'=>e=.returned (.bool (nmA s))/\_=w'):=Lh (zd8 s _ (by unfold maxLen; omega));have hlm:(li:Int)<=140737488351232:=by omega
 have hlm':(lk:Int)<=140737488351232:=by omega
 have HL:=Lh hli;have HLK:=Lh hlk;clear hA hr hK hks hn hs hk hli hlk b1 hbi hbk;cases lit
 ·skip
  have HV:Hid (za4 false (.mk 7 n s items keys)=false):=Lh (by simp [za4,leafB]);clear HRD HL HLK
  go_enter Tryz.func189, Tryz.ntmps189
  go_wp2_with fail
  go_ret
  exact ⟨by rw [HV.out]; rfl,B1.out⟩
 ·skip
  by_cases n0:n=0
  ·subst n0
   by_cases i0:li=0
   ·have i1:items.length=0:=by have:=HL.out; omega
    subst i0;by_cases q0:lk=0
    ·have q1:keys.length=0:=by have:=HLK.out; omega
     subst q0;cases hnm:nmA s
     ·skip
      have HV:Hid (za4 true (.mk 7 0 s items keys)=false):=Lh (by simp [za4,leafB,i1,q1,hnm]);clear HRD HL HLK
      go_enter Tryz.func189, Tryz.ntmps189
      go_wp2_with fail
      refine HNAME.out.mono ?_
      rintro e w' ⟨rfl,rfl⟩;rw [hnm];go_wp2_with fail;go_ret
      exact ⟨by rw [HV.out]; rfl,B1.out⟩
     ·skip
      have HV:Hid (za4 true (.mk 7 0 s items keys)=true):=Lh (by simp [za4,leafB,i1,q1,hnm]);clear HRD HL HLK
      go_enter Tryz.func189, Tryz.ntmps189
      go_wp2_with fail
      refine HNAME.out.mono ?_
      rintro e w' ⟨rfl,rfl⟩;rw [hnm];go_wp2_with fail;go_ret
      exact ⟨by rw [HV.out]; rfl,B1.out⟩
    ·have q1:¬ keys.length=0:=by have:=HLK.out; omega
     have q2:((lk:Int)==0)=false:=beq_eq_false_iff_ne.2 (by omega);clear q0;have HV:Hid (za4 true (.mk 7 0 s items keys)=false):=Lh (by simp [za4,leafB,i1,q1]);clear HRD HL HLK
     go_enter Tryz.func189, Tryz.ntmps189
     go_wp2_with fail
     go_ret
     exact ⟨by rw [HV.out]; rfl,B1.out⟩
   ·have i1:¬ items.length=0:=by have:=HL.out; omega
    have i2:((li:Int)==0)=false:=beq_eq_false_iff_ne.2 (by omega);clear i0;have HV:Hid (za4 true (.mk 7 0 s items keys)=false):=Lh (by simp [za4,leafB,i1]);clear HRD HL HLK
    go_enter Tryz.func189, Tryz.ntmps189
    go_wp2_with fail
    go_ret
    exact ⟨by rw [HV.out]; rfl,B1.out⟩
  ·have n0':(n==0)=false:=beq_eq_false_iff_ne.2 n0
   have HV:Hid (za4 true (.mk 7 n s items keys)=false):=Lh (by simp [za4,leafB,n0]);clear HRD HL HLK
   go_enter Tryz.func189, Tryz.ntmps189
   go_wp2_with fail
   go_ret
   exact ⟨by rw [HV.out]; rfl,B1.out⟩
theorem rnode_4 (lit:Bool) (n:Int) (s:ByteArray) (items:List VT) (keys:List ByteArray) (w:World) (B:Nat) (v:Value) (h:Rd w B v (.mk 4 n s items keys)) (hB:B<=w.heap.size) :
  Calls Tryz.prog 189 #[v,.bool lit] w fun e w'=>e=.returned (.bool (za4 lit (.mk 4 n s items keys)))/\Below w.heap.size w w':=by
 have HRD:=Lh h
 cases h with
 | @mk _ _ _ A li ci K lk ck _ _ V hk hn hs hks hli hlk hbi hbk hA hr hK =>
 have b1:Below w.heap.size w (w.alloc (.cells #[.int .i64 4,.int .i64 n,.string s,.slice A li ci,.slice K lk ck] 53 (0,0))):=(Below.refl _ _).alloc (Nat.le_refl _) _;have B1:=Lh b1;have HTW:Hid (Calls Tryz.prog 226 #[.slice K lk ck] (w.alloc (.cells #[.int .i64 4,.int .i64 n,.string s,.slice A li ci,.slice K lk ck] 53 (0,0))) fun e w'=>e=.returned (.bool (!decide keys.Nodup))/\Below _ _ w'):=Lh (zf4 K lk ck keys _ B hlk hbk.1 (hK.kept (b1.mono hB)) (by simp; omega));have HNAME:Hid (Calls Tryz.prog 42 #[.string s] (w.alloc (.cells #[.int .i64 4,.int .i64 n,.string s,.slice A li ci,.slice K lk ck] 53 (0,0))) fun e w'=>e=.returned (.bool (nmA s))/\_=w'):=Lh (zd8 s _ (by unfold maxLen; omega));have hlm:(li:Int)<=140737488351232:=by omega
 have hlm':(lk:Int)<=140737488351232:=by omega
 have HL:=Lh hli;have HLK:=Lh hlk;clear hA hr hK hks hn hs hk hli hlk b1 hbi hbk;by_cases n0:n=0
 ·subst n0
  by_cases i0:li=0
  ·have i1:items.length=0:=by have:=HL.out; omega
   subst i0;by_cases q0:lk=0
   ·have q1:keys.length=0:=by have:=HLK.out; omega
    subst q0;cases hnm:nmA s
    ·skip
     have HV:Hid (za4 lit (.mk 4 0 s items keys)=false):=Lh (by simp [za4,leafB,enumB,i1,q1,hnm]);clear HRD HL HLK
     go_enter Tryz.func189, Tryz.ntmps189
     go_wp2_with fail
     refine HNAME.out.mono ?_
     rintro e w' ⟨rfl,rfl⟩;rw [hnm];go_wp2_with fail;go_ret
     exact ⟨by rw [HV.out]; rfl,B1.out⟩
    ·skip
     by_cases x1:s=⟨#[116,114,117,101]⟩
     ·have y1:(s.toList==[116,114,117,101])=true:=by rw [zp7]; simpa using x1
      have HV:Hid (za4 lit (.mk 4 0 s items keys)=false):=Lh (by simp [za4,leafB,enumB,i1,q1,x1]);clear HRD HL HLK;clear x1
      go_enter Tryz.func189, Tryz.ntmps189
      go_wp2_with fail
      refine HNAME.out.mono ?_
      rintro e w' ⟨rfl,rfl⟩;rw [hnm];go_wp2_with fail;go_ret
      exact ⟨by rw [HV.out]; rfl,B1.out⟩
     ·have y1:(s.toList==[116,114,117,101])=false:=by rw [zp7]; simpa using x1
      by_cases x2:s=⟨#[102,97,108,115,101]⟩
      ·have y2:(s.toList==[102,97,108,115,101])=true:=by rw [zp7]; simpa using x2
       have HV:Hid (za4 lit (.mk 4 0 s items keys)=false):=Lh (by simp [za4,leafB,enumB,i1,q1,x2]);clear HRD HL HLK;clear x1 x2
       go_enter Tryz.func189, Tryz.ntmps189
       go_wp2_with fail
       refine HNAME.out.mono ?_
       rintro e w' ⟨rfl,rfl⟩;rw [hnm];go_wp2_with fail;go_ret
       exact ⟨by rw [HV.out]; rfl,B1.out⟩
      ·have y2:(s.toList==[102,97,108,115,101])=false:=by rw [zp7]; simpa using x2
       by_cases x3:s=⟨#[110,117,108,108]⟩
       ·have y3:(s.toList==[110,117,108,108])=true:=by rw [zp7]; simpa using x3
        have HV:Hid (za4 lit (.mk 4 0 s items keys)=false):=Lh (by simp [za4,leafB,enumB,i1,q1,x3]);clear HRD HL HLK;clear x1 x2 x3
        go_enter Tryz.func189, Tryz.ntmps189
        go_wp2_with fail
        refine HNAME.out.mono ?_
        rintro e w' ⟨rfl,rfl⟩;rw [hnm];go_wp2_with fail;go_ret
        exact ⟨by rw [HV.out]; rfl,B1.out⟩
       ·have y3:(s.toList==[110,117,108,108])=false:=by rw [zp7]; simpa using x3
        have HV:Hid (za4 lit (.mk 4 0 s items keys)=true):=Lh (by simp [za4,leafB,enumB,i1,q1,hnm,x1,x2,x3]);clear HRD HL HLK;clear x1 x2 x3
        go_enter Tryz.func189, Tryz.ntmps189
        go_wp2_with fail
        refine HNAME.out.mono ?_
        rintro e w' ⟨rfl,rfl⟩;rw [hnm];go_wp2_with fail;go_ret
        exact ⟨by rw [HV.out]; rfl,B1.out⟩
   ·have q1:¬ keys.length=0:=by have:=HLK.out; omega
    have q2:((lk:Int)==0)=false:=beq_eq_false_iff_ne.2 (by omega);clear q0;have HV:Hid (za4 lit (.mk 4 0 s items keys)=false):=Lh (by simp [za4,leafB,enumB,i1,q1]);clear HRD HL HLK
    go_enter Tryz.func189, Tryz.ntmps189
    go_wp2_with fail
    go_ret
    exact ⟨by rw [HV.out]; rfl,B1.out⟩
  ·have i1:¬ items.length=0:=by have:=HL.out; omega
   have i2:((li:Int)==0)=false:=beq_eq_false_iff_ne.2 (by omega);clear i0;have HV:Hid (za4 lit (.mk 4 0 s items keys)=false):=Lh (by simp [za4,leafB,enumB,i1]);clear HRD HL HLK
   go_enter Tryz.func189, Tryz.ntmps189
   go_wp2_with fail
   go_ret
   exact ⟨by rw [HV.out]; rfl,B1.out⟩
 ·have n0':(n==0)=false:=beq_eq_false_iff_ne.2 n0
  have HV:Hid (za4 lit (.mk 4 n s items keys)=false):=Lh (by simp [za4,leafB,enumB,n0]);clear HRD HL HLK
  go_enter Tryz.func189, Tryz.ntmps189
  go_wp2_with fail
  go_ret
  exact ⟨by rw [HV.out]; rfl,B1.out⟩
theorem zy4 {α:Type} {l:List α} {p : α->Bool} {k:Nat} {x : α} (h:l[k]?=some x) (hp:p x=false):l.all p=false:=by
 rw [Bool.eq_false_iff];intro ha;have:=List.all_eq_true.1 ha x (List.mem_of_getElem? h);rw [hp] at this; cases this
theorem zw0 {α:Type} {l:List α} {p : α->Bool} {k:Nat} {x : α} (h:l[k]?=some x) (ha:(l.take k).all p=true) (hp:p x=true):(l.take (k+1)).all p=true:=by
 rw [List.take_add_one,h,List.all_append,ha];simp [hp]
theorem zw1 (lit:Bool):∀ l:List VT,zj8 lit l=l.all (zc0 lit)
 | []=>rfl
 | t::u=>by rw [zj8,zw1 lit u,List.all_cons]
theorem rnode_eq (lit:Bool) (k n:Int) (s:ByteArray) (is:List VT) (ks:List ByteArray) :
  nodeB lit (.mk k n s is ks)=(za4 lit (.mk k n s is ks)&&(!lit||ks.all nmA)):=by
 unfold nodeB za4;have e6:∀ a b c d e:Bool,(a&&b&&c&&(d&&e))=(a&&b&&c&&e&&d):=by decide
 have e4:∀ a b c:Bool,(a&&b&&c)=(a&&c&&b):=by decide
 by_cases hk:ks=[]
 ·subst hk
  simp only [List.all_nil,Bool.or_true,Bool.and_true]
  repeat' split
  all_goals first
   | rfl
   | exact e4 _ _ _
   | (cases lit <;> simp [keysB])
   | skip
 ·have hl:ks.length≠0:=fun e=>hk (List.eq_nil_of_length_eq_zero e)
  have hf:leafB is ks=false:=by simp [leafB,hk]
  simp only [hf,Bool.and_false,hl,decide_false]
  repeat' split
  all_goals first
   | rfl
   | exact e6 _ _ _ _ _
   | skip
theorem yf9 (t:VT):∀ (w:World) (B:Nat) (v:Value),Rd w B v t->B<=w.heap.size->t.size<=2000000 ->
  Calls Tryz.prog 148 #[v] w fun e w'=>e=.returned (.int .i64 t.size)/\Below w.heap.size w w':=by
 induction t using VT.ind with
 | h k n s items keys ih =>
 intro w B v h hB hz
 cases h with
 | @mk _ _ _ A li ci K lk ck _ _ V hk hn hs hks hli hlk hbi hbk hA hr hK =>
 have HA:=Lh hA;have HR:=Lh hr;have IH:=Lh ih;have HL:=Lh hli;have hz1:1+VT.sizes items<=2000000:=hz;clear hA hr ih hK hks hk hn hs hbk hli hlk hz
 go_enter Tryz.func148, Tryz.ntmps148
 go_wp2_with fail
 go_loopw [3,4] (fun nn i wr=>∃ j:Nat,j<=li/\i=.int .i64 j/\nn=.int .i64 (1+(VT.sizes (items.take j):Int))/\Below w.heap.size w wr/\w.heap.size<wr.heap.size/\wr.cell? ⟨w.heap.size,3,none⟩=some (.slice A li ci)) (fun _ i _=>li-(intOf i).toNat)
 case atStart=>exact ⟨0,Nat.zero_le _,rfl,by simp [VT.sizes],(Below.refl _ _).alloc (Nat.le_refl _) _,by simp,by simp [World.cell?_alloc_at]⟩
 case round =>
  obtain ⟨j,hj,rfl,rfl,hb,hsz,hbox⟩:=hrel;have hlm:(li:Int)<=140737488351232:=by omega
  have HB:=Lh hb;have hz2:=zG5 items (j+1);by_cases hlt:j<li
  ·obtain ⟨a,t,k1,n1,s1,A1,li1,ci1,K1,lk1,ck1,rfl,ht,e,hrd,h0,h1,h2,h3,h4⟩:=zj2 HA.out HR.out HL.out (hb.mono hB) hlt
   have HST:=Lh (zY0 items j t ht);have hzt:VT.sizes (items.take j)+t.size<=1999999:=by have:=HST.out; omega
   have HT:=Lh ht;have HRD:=Lh hrd;have E:=Lh e;clear e hrd ht hb;go_wp2_with fail;rw [<- E.out];refine (IH.out j t HT.out _ B _ HRD.out (by omega) (by omega)).mono ?_;rintro e w1 ⟨rfl,hb1⟩;have hs1:=hb1.size;have HB1:=Lh ((HB.out.trans (hb1.mono (by omega))):Below w.heap.size w w1);have hbox1:=(hb1.cell (p:=⟨w.heap.size,3,none⟩) hsz).trans hbox;clear hb1;go_wp2_with fail
   go_roundw
   case rel=>exact ⟨j+1,by omega,by go_num,by rw [HST.out]; go_num,HB1.out,by omega,hbox1⟩
   case measure=>simp [intOf]; omega
  ·have hji:j=li:=by omega
   have HJ:Hid (VT.sizes (items.take j)=VT.sizes items):=Lh (by rw [hji,List.take_of_length_le (by have:=HL.out; omega)]);clear hji hb;go_wp2_with fail;go_ret
   exact ⟨by rw [HJ.out]; simp [VT.size],HB.out⟩
theorem zZ5 (t:VT):∀ (w:World) (B:Nat) (v:Value),Rd w B v t->B<=w.heap.size->t.depth<=2000000 ->
  Calls Tryz.prog 149 #[v] w fun e w'=>e=.returned (.int .i64 t.depth)/\Below w.heap.size w w':=by
 induction t using VT.ind with
 | h k n s items keys ih =>
 intro w B v h hB hz
 cases h with
 | @mk _ _ _ A li ci K lk ck _ _ V hk hn hs hks hli hlk hbi hbk hA hr hK =>
 have HA:=Lh hA;have HR:=Lh hr;have IH:=Lh ih;have HL:=Lh hli;have hz1:1+VT.depths items<=2000000:=hz;clear hA hr ih hK hks hk hn hs hbk hli hlk hz
 go_enter Tryz.func149, Tryz.ntmps149
 go_wp2_with fail
 go_loopw [3,4] (fun nn i wr=>∃ j:Nat,j<=li/\i=.int .i64 j/\nn=.int .i64 (VT.depths (items.take j):Int)/\Below w.heap.size w wr/\w.heap.size<wr.heap.size/\wr.cell? ⟨w.heap.size,3,none⟩=some (.slice A li ci)) (fun _ i _=>li-(intOf i).toNat)
 case atStart=>exact ⟨0,Nat.zero_le _,rfl,by simp [VT.depths],(Below.refl _ _).alloc (Nat.le_refl _) _,by simp,by simp [World.cell?_alloc_at]⟩
 case round =>
  obtain ⟨j,hj,rfl,rfl,hb,hsz,hbox⟩:=hrel;have hlm:(li:Int)<=140737488351232:=by omega
  have HB:=Lh hb;have hz2:=zr9 items (j+1);by_cases hlt:j<li
  ·obtain ⟨a,t,k1,n1,s1,A1,li1,ci1,K1,lk1,ck1,rfl,ht,e,hrd,h0,h1,h2,h3,h4⟩:=zj2 HA.out HR.out HL.out (hb.mono hB) hlt
   have HST:=Lh (zS1 items j t ht);have hzt:max (VT.depths (items.take j)) t.depth<=1999999:=by have:=HST.out; omega
   have HT:=Lh ht;have HRD:=Lh hrd;have E:=Lh e;clear e hrd ht hb;go_wp2_with fail;rw [<- E.out];refine (IH.out j t HT.out _ B _ HRD.out (by omega) (by omega)).mono ?_;rintro e w1 ⟨rfl,hb1⟩;have hs1:=hb1.size;have HB1:=Lh ((HB.out.trans (hb1.mono (by omega))):Below w.heap.size w w1);have hbox1:=(hb1.cell (p:=⟨w.heap.size,3,none⟩) hsz).trans hbox;clear hb1;go_wp2_with fail
   go_roundw
   case rel=>exact ⟨j+1,by omega,by go_num,by rw [HST.out]; go_num,HB1.out,by omega,hbox1⟩
   case measure=>simp [intOf]; omega
  ·have hji:j=li:=by omega
   have hz3:=zr9 items j;have HJ:Hid (VT.depths (items.take j)=VT.depths items):=Lh (by rw [hji,List.take_of_length_le (by have:=HL.out; omega)]);clear hji hb;go_wp2_with fail;go_ret
   exact ⟨by rw [HJ.out]; simp [VT.depth]; try (try simp only [Int.add_comm]),HB.out⟩
def zS6:Prop:=∀ (lit:Bool) (t:VT) (w:World) (B:Nat) (v:Value),Rd w B v t->B<=w.heap.size ->
  Calls Tryz.prog 189 #[v,.bool lit] w fun e w'=>e=.returned (.bool (za4 lit t))/\Below w.heap.size w w'
theorem zZ0 (hnode:zS6) (lit:Bool) (t:VT):∀ (w:World) (B:Nat) (v:Value),Rd w B v t->B<=w.heap.size ->
  Calls Tryz.prog 150 #[v,.bool lit] w fun e w'=>e=.returned (.bool (zc0 lit t))/\Below w.heap.size w w':=by
 induction t using VT.ind with
 | h k n s items keys ih =>
 intro w B v h hB;have HRD:=Lh h
 cases h with
 | @mk _ _ _ A li ci K lk ck _ _ V hk hn hs hks hli hlk hbi hbk hA hr hK =>
 have HA:=Lh hA;have HR:=Lh hr;have IH:=Lh ih;have HL:=Lh hli;have HLK:=Lh hlk;have HKS:=Lh hks;have HK:Hid (0<lk->∃ a,K=some a/\∀ W,Below w.heap.size w W->∀ i s,keys[i]?=some s->W.cell? (a.add i)=some (.string s)):=Lh (fun h0=>by
  obtain ⟨a,e,hab,hc⟩:=hK (by omega);exact ⟨a,e,fun W hb i s hi=>(hb.cell (p:=a.add i) (by rw [za1]; omega)).trans (hc i s hi)⟩)
 have hlm:(li:Int)<=140737488351232:=by omega
 have hlm':(lk:Int)<=140737488351232:=by omega
 have b1:Below w.heap.size w (w.alloc (.cells #[.int .i64 k,.int .i64 n,.string s,.slice A li ci,.slice K lk ck] 53 (0,0))):=(Below.refl _ _).alloc (Nat.le_refl _) _;have HN:=Lh (hnode lit _ _ B _ (HRD.out.kept (b1.mono hB)) (by simp; omega));have HW:Hid (zc0 lit (.mk k n s items keys)=(za4 lit (.mk k n s items keys)&&(!lit||keys.all nmA)&&items.all (zc0 lit))):=Lh (by rw [zc0,zw1,rnode_eq]);have X1:=Lh (Box.new w (.int .i64 k) (.int .i64 n) (.string s) (.slice A li ci) (.slice K lk ck));have B1:=Lh b1;clear hA hr ih hK hks hk hn hs hbi hbk hli hlk b1
 go_enter Tryz.func150, Tryz.ntmps150
 go_wp2_with fail
 refine HN.out.mono ?_
 rintro e w1 ⟨rfl,hb1⟩;have HB1:=Lh (B1.out.trans (hb1.mono B1.out.size));have XB:=Lh (X1.out.kept hb1);have hz1:w.heap.size<w1.heap.size:=by have:=hb1.size; simp at this; omega
 clear hb1 X1 B1 HN;cases hnode2:za4 lit (.mk k n s items keys)
 ·rw [hnode2] at HW
  go_wp2_with fail
  go_ret
  exact ⟨by rw [HW.out]; rfl,HB1.out⟩
 ·rw [hnode2] at HW
  go_wp2_with fail
  go_loopw [5] (fun i wr=>∃ j:Nat,j<=lk/\i=.int .i64 j/\(!lit||(keys.take j).all nmA)=true/\Below w.heap.size w wr/\w.heap.size<wr.heap.size/\Box wr w.heap.size (.int .i64 k) (.int .i64 n) (.string s) (.slice A li ci) (.slice K lk ck)) (fun i _=>lk-(intOf i).toNat)
  case atStart=>exact ⟨0,Nat.zero_le _,rfl,by simp,HB1.out,hz1,XB.out⟩
  case round =>
   obtain ⟨j,hj,rfl,hall,hb,hz,hx⟩:=hrel;have HALL:=Lh hall;have HB:=Lh hb;have HX:=Lh hx;obtain ⟨p0,p1,p2,p3,p4⟩:=hx.cells;clear hall hb hx;by_cases hlt:j<lk
   ·obtain ⟨a,rfl,hc⟩:=HK.out (by omega)
    have hjl:j<keys.length:=by have:=HLK.out; omega
    have hcell:=hc _ HB.out j _ (List.getElem?_eq_getElem hjl);have hsz:=HKS.out _ (List.getElem_mem hjl);have HAT:Hid (keys[j]?=some keys[j]):=Lh (List.getElem?_eq_getElem hjl);generalize keys[j]=x at *;have HNM:=fun w=>Lh (zd8 x w (by unfold maxLen; omega));clear hc hsz;cases lit
    ·go_wp2_with fail
     go_roundw
     case rel=>exact ⟨j+1,by omega,by go_num,rfl,HB.out,hz,HX.out⟩
     case measure=>simp [intOf]; omega
    ·go_wp2_with fail
     refine (HNM _).out.mono ?_
     rintro e w' ⟨rfl,rfl⟩;cases hnm:nameL x.data.toList
     ·have HF:Hid (keys.all nmA=false):=Lh (zy4 HAT.out hnm)
      go_wp2_with fail
      go_ret
      exact ⟨by rw [HW.out,HF.out]; rfl,HB.out⟩
     ·have HT:Hid ((keys.take (j+1)).all nmA=true):=Lh (zw0 HAT.out (by simpa using HALL.out) hnm)
      go_wp2_with fail
      go_roundw
      case rel=>exact ⟨j+1,by omega,by go_num,by rw [HT.out]; rfl,HB.out,hz,HX.out⟩
      case measure=>simp [intOf]; omega
   ·have HA2:Hid ((!lit||keys.all nmA)=true):=Lh (by
     have:=HALL.out
     rwa [List.take_of_length_le (by have:=HLK.out; omega)] at this)
    clear HALL;obtain rfl:lk=j:=by omega
    go_wp2_with fail
    go_loopw [6] (fun i wr=>∃ j:Nat,j<=li/\i=.int .i64 j/\(items.take j).all (zc0 lit)=true/\Below w.heap.size w wr/\w.heap.size<wr.heap.size/\Box wr w.heap.size (.int .i64 k) (.int .i64 n) (.string s) (.slice A li ci) (.slice K lk ck)) (fun i _=>li-(intOf i).toNat)
    case atStart=>exact ⟨0,Nat.zero_le _,rfl,by simp,HB.out,hz,HX.out⟩
    case round =>
     obtain ⟨m,hm,rfl,hall2,hb2,hz2,hx2⟩:=hrel;have HALL2:=Lh hall2;have HB2:=Lh hb2;have HX2:=Lh hx2;obtain ⟨q0,q1,q2,q3,q4⟩:=hx2.cells;clear hall2 hx2;by_cases hlt2:m<li
     ·obtain ⟨a,t,k1,n1,s1,A1,li1,ci1,K1,lk1,ck1,rfl,ht,e,hrd,h0,h1,h2,h3,h4⟩:=zj2 HA.out HR.out HL.out (hb2.mono hB) hlt2
      have HT:=Lh ht;have HRD2:=Lh hrd;have E:=Lh e;clear e hrd ht hb2;go_wp2_with fail;rw [<- E.out];refine (IH.out m t HT.out _ B _ HRD2.out (by omega)).mono ?_;rintro e w2 ⟨rfl,hb3⟩;have hs3:=hb3.size;have HB3:=Lh ((HB2.out.trans (hb3.mono (by omega))):Below w.heap.size w w2);have HX3:=Lh (HX2.out.kept hb3);clear hb3;cases hw:zc0 lit t
      ·have HF:Hid (items.all (zc0 lit)=false):=Lh (zy4 HT.out hw)
       go_wp2_with fail
       go_ret
       exact ⟨by rw [HW.out,HF.out,Bool.and_false]; rfl,HB3.out⟩
      ·have HT2:Hid ((items.take (m+1)).all (zc0 lit)=true):=Lh (zw0 HT.out HALL2.out hw)
       go_wp2_with fail
       go_roundw
       case rel=>exact ⟨m+1,by omega,by go_num,HT2.out,HB3.out,by omega,HX3.out⟩
       case measure=>simp [intOf]; omega
     ·have HT2:Hid (items.all (zc0 lit)=true):=Lh (by
       have:=HALL2.out
       rwa [List.take_of_length_le (by have:=HL.out; omega)] at this)
      clear hb2;go_wp2_with fail;go_ret
      exact ⟨by rw [HW.out,HT2.out,HA2.out]; rfl,HB2.out⟩
theorem zx4 (hnode:zS6) (t:VT) (w:World) (B:Nat) (v:Value) (h:Rd w B v t) (hB:B<=w.heap.size) (hz:t.size<=2000000) :
  Calls Tryz.prog 95 #[v] w fun e w'=>e=.returned (.bool (zd9 true t))/\Below w.heap.size w w':=by
 have hdz:=Nat.le_trans (VT.depth_le t) hz;have HS:Hid (∀ w2,Below w.heap.size w w2->Calls Tryz.prog 148 #[v] w2 fun e w'=>e=.returned (.int .i64 t.size)/\Below w2.heap.size w2 w') :=
  Lh fun w2 hb=>yf9 t w2 B v (h.kept (hb.mono hB)) (Nat.le_trans hB hb.size) hz
 have HD:Hid (∀ w2,Below w.heap.size w w2->Calls Tryz.prog 149 #[v] w2 fun e w'=>e=.returned (.int .i64 t.depth)/\Below w2.heap.size w2 w') :=
  Lh fun w2 hb=>zZ5 t w2 B v (h.kept (hb.mono hB)) (Nat.le_trans hB hb.size) hdz
 have HWH:Hid (∀ w2,Below w.heap.size w w2->Calls Tryz.prog 150 #[v,.bool true] w2 fun e w'=>e=.returned (.bool (zc0 true t))/\Below w2.heap.size w2 w') :=
  Lh fun w2 hb=>zZ0 hnode true t w2 B v (h.kept (hb.mono hB)) (Nat.le_trans hB hb.size)
 obtain ⟨k,n,s,A,li,ci,K,lk,ck,rfl⟩:=h.shape;clear h;have X0:=Lh (Box.new w (.int .i64 k) (.int .i64 n) (.string s) (.slice A li ci) (.slice K lk ck));have B0:Hid (Below w.heap.size w (w.alloc (.cells #[.int .i64 k,.int .i64 n,.string s,.slice A li ci,.slice K lk ck] 53 (0,0)))):=Lh ((Below.refl _ _).alloc (Nat.le_refl _) _);have HV:Hid (zd9 true t=(decide (t.size<=4096)&&decide (t.depth<=24)&&zc0 true t)):=Lh rfl;generalize t.size=z at *;generalize t.depth=d at *;generalize zc0 true t=wb at *;by_cases z1:z<=4096
 ·have z2:decide (z<=4096)=true:=by simpa using z1
  rw [z2] at HV;have z3:decide ((z:Int)<=4096)=true:=by simp; omega
  by_cases d1:d<=24
  ·have d2:decide (d<=24)=true:=by simpa using d1
   rw [d2] at HV;have d3:decide ((d:Int)<=24)=true:=by simp; omega
   clear z1 z2 d1 d2
   go_enter Tryz.func95, Tryz.ntmps95
   go_wp2_with fail
   refine (HS.out _ B0.out).mono ?_
   rintro e w1 ⟨rfl,b1⟩;have B1:=Lh (B0.out.trans (b1.mono B0.out.size));have X1:=Lh (X0.out.kept b1);obtain ⟨p0,p1,p2,p3,p4⟩:=X1.out.cells;clear b1;go_wp2_with fail;refine (HD.out _ B1.out).mono ?_
   rintro e w2 ⟨rfl,b2⟩;have B2:=Lh (B1.out.trans (b2.mono B1.out.size));have X2:=Lh (X1.out.kept b2);clear p0 p1 p2 p3 p4;obtain ⟨p0,p1,p2,p3,p4⟩:=X2.out.cells;clear b2;go_wp2_with fail;refine (HWH.out _ B2.out).mono ?_
   rintro e w3 ⟨rfl,b3⟩;have B3:=Lh (B2.out.trans (b3.mono B2.out.size));clear b3;go_wp2_with fail;go_ret
   exact ⟨by rw [HV.out]; rfl,B3.out⟩
  ·have d2:decide (d<=24)=false:=by simpa using d1
   rw [d2] at HV;have d3:decide ((d:Int)<=24)=false:=by simp; omega
   clear z1 z2 d1 d2
   go_enter Tryz.func95, Tryz.ntmps95
   go_wp2_with fail
   refine (HS.out _ B0.out).mono ?_
   rintro e w1 ⟨rfl,b1⟩;have B1:=Lh (B0.out.trans (b1.mono B0.out.size));have X1:=Lh (X0.out.kept b1);obtain ⟨p0,p1,p2,p3,p4⟩:=X1.out.cells;clear b1;go_wp2_with fail;refine (HD.out _ B1.out).mono ?_
   rintro e w2 ⟨rfl,b2⟩;have B2:=Lh (B1.out.trans (b2.mono B1.out.size));clear b2;go_wp2_with fail;go_ret
   exact ⟨by rw [HV.out]; rfl,B2.out⟩
 ·have z2:decide (z<=4096)=false:=by simpa using z1
  rw [z2] at HV;have z3:decide ((z:Int)<=4096)=false:=by simp; omega
  clear z1 z2
  go_enter Tryz.func95, Tryz.ntmps95
  go_wp2_with fail
  refine (HS.out _ B0.out).mono ?_
  rintro e w1 ⟨rfl,b1⟩;have B1:=Lh (B0.out.trans (b1.mono B0.out.size));clear b1;go_wp2_with fail;go_ret
  exact ⟨by rw [HV.out]; rfl,B1.out⟩
theorem zK9:zS6:=by
 intro lit t w B v h hB;obtain ⟨k,n,s,items,keys⟩:=t;by_cases k0:k=0
 ·subst k0; exact rnode_0 lit n s items keys w B v h hB
 by_cases k1:k=1
 ·subst k1; exact rnode_1 lit n s items keys w B v h hB
 by_cases k2:k=2
 ·subst k2; exact rnode_2 lit n s items keys w B v h hB
 by_cases k3:k=3
 ·subst k3; exact rnode_3 lit n s items keys w B v h hB
 by_cases k4:k=4
 ·subst k4; exact rnode_4 lit n s items keys w B v h hB
 by_cases k5:k=5
 ·subst k5; exact rnode_5 lit n s items keys w B v h hB
 by_cases k6:k=6
 ·subst k6; exact rnode_6 lit n s items keys w B v h hB
 by_cases k7:k=7
 ·subst k7; exact rnode_7 lit n s items keys w B v h hB
 exact zZ3 lit k n s items keys w B v h hB k0 k1 k2 k3 k4 k5 k6 k7
end Go.Proofs.YtfgelheiknmjgaaGreatDoor

