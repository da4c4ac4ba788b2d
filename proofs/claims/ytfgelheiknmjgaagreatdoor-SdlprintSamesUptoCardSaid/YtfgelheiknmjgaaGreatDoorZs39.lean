
/-
 Texts joined: Ti NL RefNumber N1Arg N1Dir N1Mem N2 Shelf2.
-/
import Derived.Test.YtfgelheiknmjgaaGreatDoorZs28
import Derived.Test.YtfgelheiknmjgaaGreatDoorZs6
import Derived.Test.YtfgelheiknmjgaaGreatDoorZs4
import Derived.Test.YtfgelheiknmjgaaGreatDoorZs17
import Derived.Test.YtfgelheiknmjgaaGreatDoorZs1
import Derived.Test.YtfgelheiknmjgaaGreatDoorZs3
import Derived.Shelf.Strings.OnBuilder
namespace Go.Proofs.YtfgelheiknmjgaaGreatDoor
open Go.RowKit
theorem Rd.num {w:World} {B:Nat} {v:Value} {t:VT} (h:Rd w B v t):t.num:=by
 induction h with
 | mk V hk hn hs hks hli hlk hbi hbk hA hr hK ih =>
   rw [VT.num]
   refine ⟨hn,zO6 fun t ht => ?_⟩
   obtain ⟨i,hi,e⟩:=List.getElem_of_mem ht
   exact ih i t (by rw [List.getElem?_eq_getElem hi,e])
theorem Sl.mem {α:Type} {k bytes:Nat} {R:World → Nat → (Nat → Value) → α → Prop} {w:World} {B:Nat} {v:Value} {xs:List α} (h:Sl k bytes R w B v xs):∀ x ∈ xs, ∃ f,R w B f x:=fun x hx => by
 obtain ⟨A,c,_,_,_,V,_,hr⟩:=h
 obtain ⟨i,hi,e⟩:=List.getElem_of_mem hx
 exact ⟨_,hr i x (by rw [List.getElem?_eq_getElem hi,e])⟩
theorem DirsR.num {w:World} {B:Nat} {v:Value} {l:List DirT} (h:DirsR w B v l):dirsN l:=fun d hd a ha => by
 obtain ⟨f,hf⟩:=Sl.mem h d hd
 obtain ⟨g,hg⟩:=Sl.mem hf.args a ha
 exact hg.val.num
theorem InpR.num {w:World} {B:Nat} {f:Nat → Value} {x:InpT} (h:InpR w B f x):inpN x:=⟨h.val.num,DirsR.num h.dirs⟩
theorem DefsR.num {w:World} {B:Nat} {v:Value} {xs:List DefT} (h:DefsR w B v xs):∀ d ∈ xs,defN d:=fun d hd => by
 obtain ⟨f,hf⟩:=Sl.mem h d hd
 refine ⟨DirsR.num hf.dirs,fun x hx => ?_,fun x hx => ?_,fun x hx => ?_⟩
 ·obtain ⟨g,hg⟩:=Sl.mem hf.fields x hx
  exact ⟨fun i hi => by
   obtain ⟨k,hk⟩:=Sl.mem hg.args i hi
   exact hk.num,DirsR.num hg.dirs⟩
 ·obtain ⟨g,hg⟩:=Sl.mem hf.members x hx
  exact DirsR.num hg.dirs
 ·obtain ⟨g,hg⟩:=Sl.mem hf.inputs x hx
  exact hg.num
end Go.Proofs.YtfgelheiknmjgaaGreatDoor
namespace Go.Proofs.YtfgelheiknmjgaaGreatDoor
open Go.RowKit
end Go.Proofs.YtfgelheiknmjgaaGreatDoor
namespace Go.Proofs.YtfgelheiknmjgaaGreatDoor.T1
open Go.RowKit
end Go.Proofs.YtfgelheiknmjgaaGreatDoor.T1
namespace Go.Proofs.YtfgelheiknmjgaaGreatDoor
open Go.RowKit
set_option maxRecDepth 100000 in
set_option maxHeartbeats 2000000 in
theorem zJ5 (B b:Nat) (xs:List (ByteArray × VT)) (tx:(ByteArray × VT) → List UInt8) (hF:∀ x ∈ xs, ∀ (f:Nat → Value) (W:World),ArgR W B f x → ze4 B b W 211 (.agg #[f 0,f 1,f 2,f 3,f 4,f 5]) (tx x))
  (sep:ByteArray) (v:Value) (l:List UInt8) (w:World) (h:ArgsR w B v xs) (hp:PB B b l w) (hL:LaidB B w) (hl:l.length + (jn (bL sep) (xs.map tx)).length ≤ 140737488355328) (hB:B ≤ w.heap.size) :
  Calls Tryz.prog 210 #[pp b,v,.string sep,.func (.func 211) #[pp b] #[]] w (PP B b l (jn (bL sep) (xs.map tx)) w):=by
 obtain ⟨A,c,rfl,hc,hbg,V,hA,hr⟩:=h
 unfold big at hbg
 obtain ⟨len,hlen⟩ : ∃ len,xs.length = len:=⟨_,rfl⟩
 rw [hlen] at hA hbg ⊢
 have hlm:(len:Int) ≤ 140737488351232:=by omega
 have HLEN:=Lib.hid hlen
 have HF:=Lib.hid hF
 have HA:=Lib.hid hA
 have HR:=Lib.hid hr
 have HP:=Lib.hid hp
 have HL:=Lib.hid hL
 have HLL:=Lib.hid hl
 have HBB:=Lib.hid hB
 clear hlen hF hA hr hp hL hl hc hbg
 go_enter Tryz.func210, Tryz.ntmps210
 go_wp2_with fail
 go_loopw [12] (fun u wr => ∃ i:Nat,i ≤ len ∧ u = .int .i64 i ∧ Hid (PB B b (l ++ jn (bL sep) ((xs.take i).map tx)) wr ∧ Wr B b w wr)) (fun u _ => len - (intOf u).toNat)
 case atStart => exact ⟨0,Nat.zero_le _,rfl,Lib.hid ⟨by simpa [jn] using HP.out,Wr.refl _ _ _⟩⟩
 case round =>
  obtain ⟨i,hi,rfl,hr⟩:=hrel
  by_cases hlt:i < len
  ·obtain ⟨x,hxi⟩ : ∃ x,xs[i]? = some x:=⟨_,List.getElem?_eq_getElem (by rw [HLEN.out]; exact hlt)⟩
   have hlt':(i:Int) < len:=by omega
   have HXI:=Lib.hid hxi
   have hx:ArgR wr B (V i) x:=ArgR.stays.kept (HR.out i x hxi) hr.out.2.below
   have HF1:=Lib.hid (HF.out x (List.mem_of_getElem? hxi))
   obtain ⟨a,rfl,ha,hc0⟩:=HA.out (by omega)
   have hcc:∀ j,j < 6 → wr.cell? (at_ (a.add (i * 6)) j) = some (V i j):=fun j hj => (hr.out.2.below.cell (by rw [za7,za1]; exact ha)).trans (hc0 i hlt j hj)
   have k0:wr.cell? (a.add (i * 6)) = some (V i 0):=hcc 0 (by omega)
   have k1:wr.cell? ⟨((a.add (i * 6))).block,((a.add (i * 6))).off + 1,none⟩ = some (V i 1):=hcc 1 (by omega)
   have k2:wr.cell? ⟨((a.add (i * 6))).block,((a.add (i * 6))).off + 2,none⟩ = some (V i 2):=hcc 2 (by omega)
   have k3:wr.cell? ⟨((a.add (i * 6))).block,((a.add (i * 6))).off + 3,none⟩ = some (V i 3):=hcc 3 (by omega)
   have k4:wr.cell? ⟨((a.add (i * 6))).block,((a.add (i * 6))).off + 4,none⟩ = some (V i 4):=hcc 4 (by omega)
   have k5:wr.cell? ⟨((a.add (i * 6))).block,((a.add (i * 6))).off + 5,none⟩ = some (V i 5):=hcc 5 (by omega)
   obtain ⟨k,n,s,VA,vli,vci,VK,vlk,vck,e1,e2,e3,e4,e5⟩:=Rd.form hx.val
   have e0:=hx.name
   rw [e0] at k0
   rw [e1] at k1
   rw [e2] at k2
   rw [e3] at k3
   rw [e4] at k4
   rw [e5] at k5
   have HX:=Lib.hid hx
   have HE:Hid (#[V i 0,V i 1,V i 2,V i 3,V i 4,V i 5] = #[.string x.1,.int .i64 k,.int .i64 n,.string s,.slice VA vli vci,.slice VK vlk vck]):=Lib.hid (by rw [e0,e1,e2,e3,e4,e5])
   clear hc0 hcc hx hxi e0 e1 e2 e3 e4 e5
   have hsz:=hr.out.2.below.size
   have HT:Hid ((xs.map tx)[i]? = some (tx x)):=Lib.hid (by rw [List.getElem?_map,HXI.out]; rfl)
   have HST:=Lib.hid (ze8 (bL sep) HT.out)
   have HTK:Hid (jn (bL sep) ((xs.take (i + 1)).map tx) = jn (bL sep) ((xs.take i).map tx) ++ ((if i = 0 then [] else bL sep) ++ tx x)):=Lib.hid (by
    rw [List.map_take,List.map_take]; exact zl0 (bL sep) HT.out)
   have HMT:Hid ((xs.map tx).take i = (xs.take i).map tx):=Lib.hid (by rw [List.map_take])
   have HB1:Hid (Wr B b w (wr.alloc (.cells #[.string x.1,.int .i64 k,.int .i64 n,.string s,.slice VA vli vci,.slice VK vlk vck] 88 (0,0)))):=Lib.hid (hr.out.2.alloc HBB.out _)
   have HX1:Hid (ArgR (wr.alloc (.cells #[.string x.1,.int .i64 k,.int .i64 n,.string s,.slice VA vli vci,.slice VK vlk vck] 88 (0,0))) B (V i) x):=Lib.hid (ArgR.stays.kept HX.out ((Below.refl B wr).alloc (by omega) _))
   have HP1:=Lib.hid (hr.out.1.alloc (.cells #[.string x.1,.int .i64 k,.int .i64 n,.string s,.slice VA vli vci,.slice VK vlk vck] 88 (0,0)))
   have HK1:=Lib.hid (Bk.new wr #[.string x.1,.int .i64 k,.int .i64 n,.string s,.slice VA vli vci,.slice VK vlk vck] 88)
   have hbw:=hr.out.1.lt
   by_cases hi0:i = 0
   ·have hi0':¬ (i:Int) > 0:=by omega
    have HI0:=Lib.hid hi0
    have CALL:=Lib.hid (HF1.out (V i) _ HX1.out _ HP1.out (HL.out.kept HB1.out.below) (by
     have h1:=HST.out; rw [HMT.out,if_pos HI0.out] at h1; have h2:=HLL.out; simp only [List.length_append,List.length_nil] at h1 ⊢; omega) (Nat.le_trans HBB.out HB1.out.below.size))
    rw [HE.out] at CALL
    clear hi0
    go_wp2_with fail
    refine CALL.out.mono ?_
    rintro e w5 ⟨rfl,hp5,hw5⟩
    have HP5:Hid (PB B b (l ++ jn (bL sep) ((xs.take (i + 1)).map tx)) w5):=Lib.hid (by rw [HTK.out,if_pos HI0.out,List.nil_append, ← List.append_assoc]; exact hp5)
    have HW5:=Lib.hid (HB1.out.trans hw5)
    clear hp5 hw5 CALL
    go_wp2_with fail
    go_roundw
    case rel => exact ⟨i + 1,by omega,by go_num,Lib.hid ⟨HP5.out,HW5.out⟩⟩
    case measure => simp [intOf]; omega
   ·have hi0':(i:Int) > 0:=by omega
    have HI0:=Lib.hid hi0
    clear hi0
    go_wp2_with fail
    refine (put1 sep B b _ _ _ (by simp) HP1.out (by
     have h1:=HST.out; rw [HMT.out,if_neg HI0.out] at h1; have h2:=HLL.out; simp only [List.length_append,za4] at h1 h2 ⊢; omega) (Nat.le_trans HBB.out HB1.out.below.size)).mono ?_
    rintro e w4 ⟨rfl,hp4,hw4⟩
    have HP4:=Lib.hid hp4
    have HW4:=Lib.hid (HB1.out.trans hw4)
    have HX4:Hid (ArgR w4 B (V i) x):=Lib.hid (ArgR.stays.kept HX1.out hw4.below)
    have hK4:Bk w4 wr.heap.size #[.string x.1,.int .i64 k,.int .i64 n,.string s,.slice VA vli vci,.slice VK vlk vck] 88 := HK1.out.wr hw4 (by omega) (by decide)
    have y0:=hK4.cell 0 _ rfl
    have y1:=hK4.cell 1 _ rfl
    have y2:=hK4.cell 2 _ rfl
    have y3:=hK4.cell 3 _ rfl
    have y4:=hK4.cell 4 _ rfl
    have y5:=hK4.cell 5 _ rfl
    clear hp4 hw4 hK4 k0 k1 k2 k3 k4 k5
    have CALL:=Lib.hid (HF1.out (V i) _ HX4.out _ HP4.out (HL.out.kept HW4.out.below) (by
     have h1:=HST.out; rw [HMT.out,if_neg HI0.out] at h1; have h2:=HLL.out; simp only [List.length_append] at h1 ⊢; omega) (Nat.le_trans HBB.out HW4.out.below.size))
    rw [HE.out] at CALL
    go_wp2_with fail
    refine CALL.out.mono ?_
    rintro e w5 ⟨rfl,hp5,hw5⟩
    have HP5:Hid (PB B b (l ++ jn (bL sep) ((xs.take (i + 1)).map tx)) w5):=Lib.hid (by rw [HTK.out,if_neg HI0.out]; simpa only [List.append_assoc] using hp5)
    have HW5:=Lib.hid (HW4.out.trans hw5)
    clear hp5 hw5 CALL y0 y1 y2 y3 y4 y5
    go_wp2_with fail
    go_roundw
    case rel => exact ⟨i + 1,by omega,by go_num,Lib.hid ⟨HP5.out,HW5.out⟩⟩
    case measure => simp [intOf]; omega
  ·have:i = len:=by omega
   subst this
   have HF:Hid (PB B b (l ++ jn (bL sep) (xs.map tx)) wr):=Lib.hid (by have:=hr.out.1; rwa [List.take_of_length_le (by rw [HLEN.out]; exact Nat.le_refl _)] at this)
   go_wp2_with fail
   go_end0
   exact ⟨rfl,HF.out,hr.out.2⟩
end Go.Proofs.YtfgelheiknmjgaaGreatDoor
namespace Go.Proofs.YtfgelheiknmjgaaGreatDoor
open Go.RowKit
set_option maxRecDepth 100000 in
set_option maxHeartbeats 2000000 in
theorem zJ3 (B b:Nat) (xs:List DirT) (tx:DirT → List UInt8) (hF:∀ x ∈ xs, ∀ (f:Nat → Value) (W:World),DirR W B f x → ze4 B b W 178 (.agg #[f 0,f 1]) (tx x))
  (sep:ByteArray) (v:Value) (l:List UInt8) (w:World) (h:DirsR w B v xs) (hp:PB B b l w) (hL:LaidB B w) (hl:l.length + (jn (bL sep) (xs.map tx)).length ≤ 140737488355328) (hB:B ≤ w.heap.size) :
  Calls Tryz.prog 177 #[pp b,v,.string sep,.func (.func 178) #[pp b] #[]] w (PP B b l (jn (bL sep) (xs.map tx)) w):=by
 obtain ⟨A,c,rfl,hc,hbg,V,hA,hr⟩:=h
 unfold big at hbg
 obtain ⟨len,hlen⟩ : ∃ len,xs.length = len:=⟨_,rfl⟩
 rw [hlen] at hA hbg ⊢
 have hlm:(len:Int) ≤ 140737488351232:=by omega
 have HLEN:=Lib.hid hlen
 have HF:=Lib.hid hF
 have HA:=Lib.hid hA
 have HR:=Lib.hid hr
 have HP:=Lib.hid hp
 have HL:=Lib.hid hL
 have HLL:=Lib.hid hl
 have HBB:=Lib.hid hB
 clear hlen hF hA hr hp hL hl hc hbg
 go_enter Tryz.func177, Tryz.ntmps177
 go_wp2_with fail
 go_loopw [12] (fun u wr => ∃ i:Nat,i ≤ len ∧ u = .int .i64 i ∧ Hid (PB B b (l ++ jn (bL sep) ((xs.take i).map tx)) wr ∧ Wr B b w wr)) (fun u _ => len - (intOf u).toNat)
 case atStart => exact ⟨0,Nat.zero_le _,rfl,Lib.hid ⟨by simpa [jn] using HP.out,Wr.refl _ _ _⟩⟩
 case round =>
  obtain ⟨i,hi,rfl,hr⟩:=hrel
  by_cases hlt:i < len
  ·obtain ⟨x,hxi⟩ : ∃ x,xs[i]? = some x:=⟨_,List.getElem?_eq_getElem (by rw [HLEN.out]; exact hlt)⟩
   have hlt':(i:Int) < len:=by omega
   have HXI:=Lib.hid hxi
   have hx:DirR wr B (V i) x:=DirR.stays.kept (HR.out i x hxi) hr.out.2.below
   have HF1:=Lib.hid (HF.out x (List.mem_of_getElem? hxi))
   obtain ⟨a,rfl,ha,hc0⟩:=HA.out (by omega)
   have hcc:∀ j,j < 2 → wr.cell? (at_ (a.add (i * 2)) j) = some (V i j):=fun j hj => (hr.out.2.below.cell (by rw [za7,za1]; exact ha)).trans (hc0 i hlt j hj)
   have k0:wr.cell? (a.add (i * 2)) = some (V i 0):=hcc 0 (by omega)
   have k1:wr.cell? ⟨((a.add (i * 2))).block,((a.add (i * 2))).off + 1,none⟩ = some (V i 1):=hcc 1 (by omega)
   obtain ⟨A1,c1,e1,_,_⟩:=hx.args.form
   have e0:=hx.name
   rw [e0] at k0
   rw [e1] at k1
   have HX:=Lib.hid hx
   have HE:Hid (#[V i 0,V i 1] = #[.string x.name,.slice A1 x.args.length c1]):=Lib.hid (by rw [e0,e1])
   clear hc0 hcc hx hxi e0 e1
   have hsz:=hr.out.2.below.size
   have HT:Hid ((xs.map tx)[i]? = some (tx x)):=Lib.hid (by rw [List.getElem?_map,HXI.out]; rfl)
   have HST:=Lib.hid (ze8 (bL sep) HT.out)
   have HTK:Hid (jn (bL sep) ((xs.take (i + 1)).map tx) = jn (bL sep) ((xs.take i).map tx) ++ ((if i = 0 then [] else bL sep) ++ tx x)):=Lib.hid (by
    rw [List.map_take,List.map_take]; exact zl0 (bL sep) HT.out)
   have HMT:Hid ((xs.map tx).take i = (xs.take i).map tx):=Lib.hid (by rw [List.map_take])
   generalize x.args.length = n0 at k0 k1 HE
   have HB1:Hid (Wr B b w (wr.alloc (.cells #[.string x.name,.slice A1 n0 c1] 85 (0,0)))):=Lib.hid (hr.out.2.alloc HBB.out _)
   have HX1:Hid (DirR (wr.alloc (.cells #[.string x.name,.slice A1 n0 c1] 85 (0,0))) B (V i) x):=Lib.hid (DirR.stays.kept HX.out ((Below.refl B wr).alloc (by omega) _))
   have HP1:=Lib.hid (hr.out.1.alloc (.cells #[.string x.name,.slice A1 n0 c1] 85 (0,0)))
   have HK1:=Lib.hid (Bk.new wr #[.string x.name,.slice A1 n0 c1] 85)
   have hbw:=hr.out.1.lt
   by_cases hi0:i = 0
   ·have hi0':¬ (i:Int) > 0:=by omega
    have HI0:=Lib.hid hi0
    have CALL:=Lib.hid (HF1.out (V i) _ HX1.out _ HP1.out (HL.out.kept HB1.out.below) (by
     have h1:=HST.out; rw [HMT.out,if_pos HI0.out] at h1; have h2:=HLL.out; simp only [List.length_append,List.length_nil] at h1 ⊢; omega) (Nat.le_trans HBB.out HB1.out.below.size))
    rw [HE.out] at CALL
    clear hi0
    go_wp2_with fail
    refine CALL.out.mono ?_
    rintro e w5 ⟨rfl,hp5,hw5⟩
    have HP5:Hid (PB B b (l ++ jn (bL sep) ((xs.take (i + 1)).map tx)) w5):=Lib.hid (by rw [HTK.out,if_pos HI0.out,List.nil_append, ← List.append_assoc]; exact hp5)
    have HW5:=Lib.hid (HB1.out.trans hw5)
    clear hp5 hw5 CALL
    go_wp2_with fail
    go_roundw
    case rel => exact ⟨i + 1,by omega,by go_num,Lib.hid ⟨HP5.out,HW5.out⟩⟩
    case measure => simp [intOf]; omega
   ·have hi0':(i:Int) > 0:=by omega
    have HI0:=Lib.hid hi0
    clear hi0
    go_wp2_with fail
    refine (put1 sep B b _ _ _ (by simp) HP1.out (by
     have h1:=HST.out; rw [HMT.out,if_neg HI0.out] at h1; have h2:=HLL.out; simp only [List.length_append,za4] at h1 h2 ⊢; omega) (Nat.le_trans HBB.out HB1.out.below.size)).mono ?_
    rintro e w4 ⟨rfl,hp4,hw4⟩
    have HP4:=Lib.hid hp4
    have HW4:=Lib.hid (HB1.out.trans hw4)
    have HX4:Hid (DirR w4 B (V i) x):=Lib.hid (DirR.stays.kept HX1.out hw4.below)
    have hK4:Bk w4 wr.heap.size #[.string x.name,.slice A1 n0 c1] 85 := HK1.out.wr hw4 (by omega) (by decide)
    have y0:=hK4.cell 0 _ rfl
    have y1:=hK4.cell 1 _ rfl
    clear hp4 hw4 hK4 k0 k1
    have CALL:=Lib.hid (HF1.out (V i) _ HX4.out _ HP4.out (HL.out.kept HW4.out.below) (by
     have h1:=HST.out; rw [HMT.out,if_neg HI0.out] at h1; have h2:=HLL.out; simp only [List.length_append] at h1 ⊢; omega) (Nat.le_trans HBB.out HW4.out.below.size))
    rw [HE.out] at CALL
    go_wp2_with fail
    refine CALL.out.mono ?_
    rintro e w5 ⟨rfl,hp5,hw5⟩
    have HP5:Hid (PB B b (l ++ jn (bL sep) ((xs.take (i + 1)).map tx)) w5):=Lib.hid (by rw [HTK.out,if_neg HI0.out]; simpa only [List.append_assoc] using hp5)
    have HW5:=Lib.hid (HW4.out.trans hw5)
    clear hp5 hw5 CALL y0 y1
    go_wp2_with fail
    go_roundw
    case rel => exact ⟨i + 1,by omega,by go_num,Lib.hid ⟨HP5.out,HW5.out⟩⟩
    case measure => simp [intOf]; omega
  ·have:i = len:=by omega
   subst this
   have HF:Hid (PB B b (l ++ jn (bL sep) (xs.map tx)) wr):=Lib.hid (by have:=hr.out.1; rwa [List.take_of_length_le (by rw [HLEN.out]; exact Nat.le_refl _)] at this)
   go_wp2_with fail
   go_end0
   exact ⟨rfl,HF.out,hr.out.2⟩
end Go.Proofs.YtfgelheiknmjgaaGreatDoor
namespace Go.Proofs.YtfgelheiknmjgaaGreatDoor
open Go.RowKit
set_option maxRecDepth 100000 in
set_option maxHeartbeats 2000000 in
theorem zJ1 (B b:Nat) (xs:List MemT) (tx:MemT → List UInt8) (hF:∀ x ∈ xs, ∀ (f:Nat → Value) (W:World),MemR W B f x → ze4 B b W 67 (.agg #[f 0,f 1]) (tx x))
  (sep:ByteArray) (v:Value) (l:List UInt8) (w:World) (h:MemsR w B v xs) (hp:PB B b l w) (hL:LaidB B w) (hl:l.length + (jn (bL sep) (xs.map tx)).length ≤ 140737488355328) (hB:B ≤ w.heap.size) :
  Calls Tryz.prog 134 #[pp b,v,.string sep,.func (.func 67) #[pp b] #[]] w (PP B b l (jn (bL sep) (xs.map tx)) w):=by
 obtain ⟨A,c,rfl,hc,hbg,V,hA,hr⟩:=h
 unfold big at hbg
 obtain ⟨len,hlen⟩ : ∃ len,xs.length = len:=⟨_,rfl⟩
 rw [hlen] at hA hbg ⊢
 have hlm:(len:Int) ≤ 140737488351232:=by omega
 have HLEN:=Lib.hid hlen
 have HF:=Lib.hid hF
 have HA:=Lib.hid hA
 have HR:=Lib.hid hr
 have HP:=Lib.hid hp
 have HL:=Lib.hid hL
 have HLL:=Lib.hid hl
 have HBB:=Lib.hid hB
 clear hlen hF hA hr hp hL hl hc hbg
 go_enter Tryz.func134, Tryz.ntmps134
 go_wp2_with fail
 go_loopw [12] (fun u wr => ∃ i:Nat,i ≤ len ∧ u = .int .i64 i ∧ Hid (PB B b (l ++ jn (bL sep) ((xs.take i).map tx)) wr ∧ Wr B b w wr)) (fun u _ => len - (intOf u).toNat)
 case atStart => exact ⟨0,Nat.zero_le _,rfl,Lib.hid ⟨by simpa [jn] using HP.out,Wr.refl _ _ _⟩⟩
 case round =>
  obtain ⟨i,hi,rfl,hr⟩:=hrel
  by_cases hlt:i < len
  ·obtain ⟨x,hxi⟩ : ∃ x,xs[i]? = some x:=⟨_,List.getElem?_eq_getElem (by rw [HLEN.out]; exact hlt)⟩
   have hlt':(i:Int) < len:=by omega
   have HXI:=Lib.hid hxi
   have hx:MemR wr B (V i) x:=MemR.stays.kept (HR.out i x hxi) hr.out.2.below
   have HF1:=Lib.hid (HF.out x (List.mem_of_getElem? hxi))
   obtain ⟨a,rfl,ha,hc0⟩:=HA.out (by omega)
   have hcc:∀ j,j < 2 → wr.cell? (at_ (a.add (i * 2)) j) = some (V i j):=fun j hj => (hr.out.2.below.cell (by rw [za7,za1]; exact ha)).trans (hc0 i hlt j hj)
   have k0:wr.cell? (a.add (i * 2)) = some (V i 0):=hcc 0 (by omega)
   have k1:wr.cell? ⟨((a.add (i * 2))).block,((a.add (i * 2))).off + 1,none⟩ = some (V i 1):=hcc 1 (by omega)
   obtain ⟨A1,c1,e1,_,_⟩:=hx.dirs.form
   have e0:=hx.name
   rw [e0] at k0
   rw [e1] at k1
   have HX:=Lib.hid hx
   have HE:Hid (#[V i 0,V i 1] = #[.string x.name,.slice A1 x.dirs.length c1]):=Lib.hid (by rw [e0,e1])
   clear hc0 hcc hx hxi e0 e1
   have hsz:=hr.out.2.below.size
   have HT:Hid ((xs.map tx)[i]? = some (tx x)):=Lib.hid (by rw [List.getElem?_map,HXI.out]; rfl)
   have HST:=Lib.hid (ze8 (bL sep) HT.out)
   have HTK:Hid (jn (bL sep) ((xs.take (i + 1)).map tx) = jn (bL sep) ((xs.take i).map tx) ++ ((if i = 0 then [] else bL sep) ++ tx x)):=Lib.hid (by
    rw [List.map_take,List.map_take]; exact zl0 (bL sep) HT.out)
   have HMT:Hid ((xs.map tx).take i = (xs.take i).map tx):=Lib.hid (by rw [List.map_take])
   generalize x.dirs.length = n0 at k0 k1 HE
   have HB1:Hid (Wr B b w (wr.alloc (.cells #[.string x.name,.slice A1 n0 c1] 48 (0,0)))):=Lib.hid (hr.out.2.alloc HBB.out _)
   have HX1:Hid (MemR (wr.alloc (.cells #[.string x.name,.slice A1 n0 c1] 48 (0,0))) B (V i) x):=Lib.hid (MemR.stays.kept HX.out ((Below.refl B wr).alloc (by omega) _))
   have HP1:=Lib.hid (hr.out.1.alloc (.cells #[.string x.name,.slice A1 n0 c1] 48 (0,0)))
   have HK1:=Lib.hid (Bk.new wr #[.string x.name,.slice A1 n0 c1] 48)
   have hbw:=hr.out.1.lt
   by_cases hi0:i = 0
   ·have hi0':¬ (i:Int) > 0:=by omega
    have HI0:=Lib.hid hi0
    have CALL:=Lib.hid (HF1.out (V i) _ HX1.out _ HP1.out (HL.out.kept HB1.out.below) (by
     have h1:=HST.out; rw [HMT.out,if_pos HI0.out] at h1; have h2:=HLL.out; simp only [List.length_append,List.length_nil] at h1 ⊢; omega) (Nat.le_trans HBB.out HB1.out.below.size))
    rw [HE.out] at CALL
    clear hi0
    go_wp2_with fail
    refine CALL.out.mono ?_
    rintro e w5 ⟨rfl,hp5,hw5⟩
    have HP5:Hid (PB B b (l ++ jn (bL sep) ((xs.take (i + 1)).map tx)) w5):=Lib.hid (by rw [HTK.out,if_pos HI0.out,List.nil_append, ← List.append_assoc]; exact hp5)
    have HW5:=Lib.hid (HB1.out.trans hw5)
    clear hp5 hw5 CALL
    go_wp2_with fail
    go_roundw
    case rel => exact ⟨i + 1,by omega,by go_num,Lib.hid ⟨HP5.out,HW5.out⟩⟩
    case measure => simp [intOf]; omega
   ·have hi0':(i:Int) > 0:=by omega
    have HI0:=Lib.hid hi0
    clear hi0
    go_wp2_with fail
    refine (put1 sep B b _ _ _ (by simp) HP1.out (by
     have h1:=HST.out; rw [HMT.out,if_neg HI0.out] at h1; have h2:=HLL.out; simp only [List.length_append,za4] at h1 h2 ⊢; omega) (Nat.le_trans HBB.out HB1.out.below.size)).mono ?_
    rintro e w4 ⟨rfl,hp4,hw4⟩
    have HP4:=Lib.hid hp4
    have HW4:=Lib.hid (HB1.out.trans hw4)
    have HX4:Hid (MemR w4 B (V i) x):=Lib.hid (MemR.stays.kept HX1.out hw4.below)
    have hK4:Bk w4 wr.heap.size #[.string x.name,.slice A1 n0 c1] 48 := HK1.out.wr hw4 (by omega) (by decide)
    have y0:=hK4.cell 0 _ rfl
    have y1:=hK4.cell 1 _ rfl
    clear hp4 hw4 hK4 k0 k1
    have CALL:=Lib.hid (HF1.out (V i) _ HX4.out _ HP4.out (HL.out.kept HW4.out.below) (by
     have h1:=HST.out; rw [HMT.out,if_neg HI0.out] at h1; have h2:=HLL.out; simp only [List.length_append] at h1 ⊢; omega) (Nat.le_trans HBB.out HW4.out.below.size))
    rw [HE.out] at CALL
    go_wp2_with fail
    refine CALL.out.mono ?_
    rintro e w5 ⟨rfl,hp5,hw5⟩
    have HP5:Hid (PB B b (l ++ jn (bL sep) ((xs.take (i + 1)).map tx)) w5):=Lib.hid (by rw [HTK.out,if_neg HI0.out]; simpa only [List.append_assoc] using hp5)
    have HW5:=Lib.hid (HW4.out.trans hw5)
    clear hp5 hw5 CALL y0 y1
    go_wp2_with fail
    go_roundw
    case rel => exact ⟨i + 1,by omega,by go_num,Lib.hid ⟨HP5.out,HW5.out⟩⟩
    case measure => simp [intOf]; omega
  ·have:i = len:=by omega
   subst this
   have HF:Hid (PB B b (l ++ jn (bL sep) (xs.map tx)) wr):=Lib.hid (by have:=hr.out.1; rwa [List.take_of_length_le (by rw [HLEN.out]; exact Nat.le_refl _)] at this)
   go_wp2_with fail
   go_end0
   exact ⟨rfl,HF.out,hr.out.2⟩
end Go.Proofs.YtfgelheiknmjgaaGreatDoor
namespace Go.Proofs.YtfgelheiknmjgaaGreatDoor
open Go.RowKit
def ValOk (B b:Nat):Prop:=∀ (x:VT),x.fit → ∀ (f:Nat → Value) (W:World),ValR W B f x → ze4 B b W 60 (.agg #[f 0,f 1,f 2,f 3,f 4]) x.src
def dirFit (d:DirT):Prop:=∀ a ∈ d.args,a.2.fit
def zg6 (l:List DirT):Prop:=∀ d ∈ l,dirFit d
set_option maxRecDepth 100000 in
set_option maxHeartbeats 2000000 in
theorem zD9 (B b:Nat) (hO:ValOk B b) (x:ByteArray × VT) (hf:x.2.fit) (f:Nat → Value) (w:World) (h:ArgR w B f x):ze4 B b w 211 (.agg #[f 0,f 1,f 2,f 3,f 4,f 5]) (zr4 x):=by
 intro l hp hL hl hB
 obtain ⟨k,n,s,VA,vli,vci,VK,vlk,vck,e1,e2,e3,e4,e5⟩:=Rd.form h.val
 have hv:=h.val
 rw [h.name,e1,e2,e3,e4,e5]
 rw [e1,e2,e3,e4,e5] at hv
 clear e1 e2 e3 e4 e5 h
 have HV0:=Lib.hid (hv.kept (za0 w (.cells #[.string x.1,.int .i64 k,.int .i64 n,.string s,.slice VA vli vci,.slice VK vlk vck] 88 (0,0)) |>.mono hB))
 have HO:=Lib.hid hO
 have HF:=Lib.hid hf
 unfold zr4 at hl ⊢
 clear hv hO hf
 have HW0:Hid (Wr B b w (w.alloc (.cells #[.string x.1,.int .i64 k,.int .i64 n,.string s,.slice VA vli vci,.slice VK vlk vck] 88 (0,0)))):=Lib.hid ((Wr.refl B b w).alloc hB _)
 have HP0:=Lib.hid (hp.alloc (.cells #[.string x.1,.int .i64 k,.int .i64 n,.string s,.slice VA vli vci,.slice VK vlk vck] 88 (0,0)))
 have HK0:=Lib.hid (Bk.new w #[.string x.1,.int .i64 k,.int .i64 n,.string s,.slice VA vli vci,.slice VK vlk vck] 88)
 have HL:=Lib.hid hL
 have HLL:=Lib.hid hl
 have HBB:=Lib.hid hB
 have hbw:=hp.lt
 clear hL hl hB hp
 go_enter Tryz.func211, Tryz.ntmps211
 have y0:=HK0.out.cell 0 _ rfl
 have y1:=HK0.out.cell 1 _ rfl
 have y2:=HK0.out.cell 2 _ rfl
 have y3:=HK0.out.cell 3 _ rfl
 have y4:=HK0.out.cell 4 _ rfl
 have y5:=HK0.out.cell 5 _ rfl
 go_wp2_with fail
 refine (put2 _ _ B b _ _ _ (by simp) HP0.out (by have h1:=HLL.out; (try simp only [za6] at h1 ⊢); (try simp only [List.length_append] at h1 ⊢); (try simp only [List.length_cons] at h1 ⊢); (try simp only [List.length_nil] at h1 ⊢); (try simp only [za4] at h1 ⊢); (try simp only [za2] at h1 ⊢); (try simp only [List.length_cons] at h1 ⊢); (try simp only [List.length_nil] at h1 ⊢); omega) (Nat.le_trans HBB.out HW0.out.below.size)).mono ?_
 rintro e w1 ⟨rfl,hp,hw⟩
 have HP1:=Lib.hid hp
 have HW1:=Lib.hid (HW0.out.trans hw)
 have HK1:=Lib.hid (HK0.out.wr hw (by omega) (by decide))
 have HV1:=Lib.hid (Rd.kept HV0.out hw.below)
 clear hp hw
 clear y0 y1 y2 y3 y4 y5
 have y0:=HK1.out.cell 0 _ rfl
 have y1:=HK1.out.cell 1 _ rfl
 have y2:=HK1.out.cell 2 _ rfl
 have y3:=HK1.out.cell 3 _ rfl
 have y4:=HK1.out.cell 4 _ rfl
 have y5:=HK1.out.cell 5 _ rfl
 go_wp2_with fail
 refine (HO.out x.2 HF.out (fun j => (#[.int .i64 k,.int .i64 n,.string s,.slice VA vli vci,.slice VK vlk vck]:Array Value).getD j undef) _ HV1.out _ HP1.out (HL.out.kept HW1.out.below) (by have h1:=HLL.out; (try simp only [za6] at h1 ⊢); (try simp only [List.length_append] at h1 ⊢); (try simp only [List.length_cons] at h1 ⊢); (try simp only [List.length_nil] at h1 ⊢); (try simp only [za4] at h1 ⊢); (try simp only [za2] at h1 ⊢); (try simp only [List.length_cons] at h1 ⊢); (try simp only [List.length_nil] at h1 ⊢); omega) (Nat.le_trans HBB.out HW1.out.below.size)).mono ?_
 rintro e w2 ⟨rfl,hp,hw⟩
 have HP2:=Lib.hid hp
 have HW2:=Lib.hid (HW1.out.trans hw)
 have HK2:=Lib.hid (HK1.out.wr hw (by omega) (by decide))
 have HV2:=Lib.hid (Rd.kept HV1.out hw.below)
 clear hp hw
 clear y0 y1 y2 y3 y4 y5
 have y0:=HK2.out.cell 0 _ rfl
 have y1:=HK2.out.cell 1 _ rfl
 have y2:=HK2.out.cell 2 _ rfl
 have y3:=HK2.out.cell 3 _ rfl
 have y4:=HK2.out.cell 4 _ rfl
 have y5:=HK2.out.cell 5 _ rfl
 go_wp2_with fail
 go_end0
 exact ⟨rfl,by have h1:=HP2.out; (try simp only [List.append_assoc] at h1); (try simp only [List.append_nil] at h1); (try simp only [List.append_assoc]); (try simp only [List.append_nil]); exact h1,HW2.out⟩
set_option maxRecDepth 100000 in
set_option maxHeartbeats 2000000 in
theorem zy2 (B b:Nat) (hO:ValOk B b) (x:DirT) (hf:dirFit x) (f:Nat → Value) (w:World) (h:DirR w B f x):ze4 B b w 178 (.agg #[f 0,f 1]) (zr2 x):=by
 intro l hp hL hl hB
 obtain ⟨A1,c1,e1,_,_⟩:=h.args.form
 have hv:=h.args
 rw [h.name,e1]
 rw [e1] at hv
 clear e1 h
 obtain ⟨n0,hn0⟩ : ∃ n0,x.args.length = n0:=⟨_,rfl⟩
 rw [hn0] at hv ⊢
 have HV0:=Lib.hid (hv.kept (za0 w (.cells #[.string x.name,.slice A1 n0 c1] 85 (0,0)) |>.mono hB))
 have HO:=Lib.hid hO
 have HF:=Lib.hid hf
 unfold zr2 at hl ⊢
 rw [hn0] at hl ⊢
 clear hv hO hf hn0
 have HW0:Hid (Wr B b w (w.alloc (.cells #[.string x.name,.slice A1 n0 c1] 85 (0,0)))):=Lib.hid ((Wr.refl B b w).alloc hB _)
 have HP0:=Lib.hid (hp.alloc (.cells #[.string x.name,.slice A1 n0 c1] 85 (0,0)))
 have HK0:=Lib.hid (Bk.new w #[.string x.name,.slice A1 n0 c1] 85)
 have HL:=Lib.hid hL
 have HLL:=Lib.hid hl
 have HBB:=Lib.hid hB
 have hbw:=hp.lt
 clear hL hl hB hp
 by_cases h0:n0 = 0
 ·subst h0
  rw [if_pos rfl] at HLL ⊢
  go_enter Tryz.func178, Tryz.ntmps178
  have y0:=HK0.out.cell 0 _ rfl
  have y1:=HK0.out.cell 1 _ rfl
  go_wp2_with fail
  refine (put2 _ _ B b _ _ _ (by simp) HP0.out (by have h1:=HLL.out; (try simp only [za6] at h1 ⊢); (try simp only [List.length_append] at h1 ⊢); (try simp only [List.length_cons] at h1 ⊢); (try simp only [List.length_nil] at h1 ⊢); (try simp only [za4] at h1 ⊢); (try simp only [za2] at h1 ⊢); (try simp only [List.length_cons] at h1 ⊢); (try simp only [List.length_nil] at h1 ⊢); omega) (Nat.le_trans HBB.out HW0.out.below.size)).mono ?_
  rintro e w1 ⟨rfl,hp,hw⟩
  have HP1:=Lib.hid hp
  have HW1:=Lib.hid (HW0.out.trans hw)
  have HK1:=Lib.hid (HK0.out.wr hw (by omega) (by decide))
  have HV1:=Lib.hid (ArgsR.kept HV0.out hw.below)
  clear hp hw
  clear y0 y1
  have y0:=HK1.out.cell 0 _ rfl
  have y1:=HK1.out.cell 1 _ rfl
  go_wp2_with fail
  go_end0
  exact ⟨rfl,by have h1:=HP1.out; (try simp only [List.append_assoc] at h1); (try simp only [List.append_nil] at h1); (try simp only [List.append_assoc]); (try simp only [List.append_nil]); exact h1,HW1.out⟩
 ·have h0':(n0:Int) > 0:=by omega
  rw [if_neg h0] at HLL ⊢
  clear h0
  go_enter Tryz.func178, Tryz.ntmps178
  have y0:=HK0.out.cell 0 _ rfl
  have y1:=HK0.out.cell 1 _ rfl
  go_wp2_with fail
  refine (put2 _ _ B b _ _ _ (by simp) HP0.out (by have h1:=HLL.out; (try simp only [za6] at h1 ⊢); (try simp only [List.length_append] at h1 ⊢); (try simp only [List.length_cons] at h1 ⊢); (try simp only [List.length_nil] at h1 ⊢); (try simp only [za4] at h1 ⊢); (try simp only [za2] at h1 ⊢); (try simp only [List.length_cons] at h1 ⊢); (try simp only [List.length_nil] at h1 ⊢); omega) (Nat.le_trans HBB.out HW0.out.below.size)).mono ?_
  rintro e w1 ⟨rfl,hp,hw⟩
  have HP1:=Lib.hid hp
  have HW1:=Lib.hid (HW0.out.trans hw)
  have HK1:=Lib.hid (HK0.out.wr hw (by omega) (by decide))
  have HV1:=Lib.hid (ArgsR.kept HV0.out hw.below)
  clear hp hw
  clear y0 y1
  have y0:=HK1.out.cell 0 _ rfl
  have y1:=HK1.out.cell 1 _ rfl
  go_wp2_with fail
  refine (put1 _ B b _ _ _ (by simp) HP1.out (by have h1:=HLL.out; (try simp only [za6] at h1 ⊢); (try simp only [List.length_append] at h1 ⊢); (try simp only [List.length_cons] at h1 ⊢); (try simp only [List.length_nil] at h1 ⊢); (try simp only [za4] at h1 ⊢); (try simp only [za2] at h1 ⊢); (try simp only [List.length_cons] at h1 ⊢); (try simp only [List.length_nil] at h1 ⊢); omega) (Nat.le_trans HBB.out HW1.out.below.size)).mono ?_
  rintro e w2 ⟨rfl,hp,hw⟩
  have HP2:=Lib.hid hp
  have HW2:=Lib.hid (HW1.out.trans hw)
  have HK2:=Lib.hid (HK1.out.wr hw (by omega) (by decide))
  have HV2:=Lib.hid (ArgsR.kept HV1.out hw.below)
  clear hp hw
  clear y0 y1
  have y0:=HK2.out.cell 0 _ rfl
  have y1:=HK2.out.cell 1 _ rfl
  go_wp2_with fail
  refine (zJ5 B b x.args zr4 (fun y hy f W hR => zD9 B b HO.out y (HF.out y hy) f W hR) _ _ _ _ HV2.out HP2.out (HL.out.kept HW2.out.below) (by have h1:=HLL.out; (try simp only [za6] at h1 ⊢); (try simp only [List.length_append] at h1 ⊢); (try simp only [List.length_cons] at h1 ⊢); (try simp only [List.length_nil] at h1 ⊢); (try simp only [za4] at h1 ⊢); (try simp only [za2] at h1 ⊢); (try simp only [List.length_cons] at h1 ⊢); (try simp only [List.length_nil] at h1 ⊢); omega) (Nat.le_trans HBB.out HW2.out.below.size)).mono ?_
  rintro e w3 ⟨rfl,hp,hw⟩
  have HP3:=Lib.hid hp
  have HW3:=Lib.hid (HW2.out.trans hw)
  have HK3:=Lib.hid (HK2.out.wr hw (by omega) (by decide))
  have HV3:=Lib.hid (ArgsR.kept HV2.out hw.below)
  clear hp hw
  clear y0 y1
  have y0:=HK3.out.cell 0 _ rfl
  have y1:=HK3.out.cell 1 _ rfl
  go_wp2_with fail
  refine (put1 _ B b _ _ _ (by simp) HP3.out (by have h1:=HLL.out; (try simp only [za6] at h1 ⊢); (try simp only [List.length_append] at h1 ⊢); (try simp only [List.length_cons] at h1 ⊢); (try simp only [List.length_nil] at h1 ⊢); (try simp only [za4] at h1 ⊢); (try simp only [za2] at h1 ⊢); (try simp only [List.length_cons] at h1 ⊢); (try simp only [List.length_nil] at h1 ⊢); omega) (Nat.le_trans HBB.out HW3.out.below.size)).mono ?_
  rintro e w4 ⟨rfl,hp,hw⟩
  have HP4:=Lib.hid hp
  have HW4:=Lib.hid (HW3.out.trans hw)
  have HK4:=Lib.hid (HK3.out.wr hw (by omega) (by decide))
  have HV4:=Lib.hid (ArgsR.kept HV3.out hw.below)
  clear hp hw
  clear y0 y1
  have y0:=HK4.out.cell 0 _ rfl
  have y1:=HK4.out.cell 1 _ rfl
  go_wp2_with fail
  go_end0
  exact ⟨rfl,by have h1:=HP4.out; (try simp only [List.append_assoc] at h1); (try simp only [List.append_nil] at h1); (try simp only [List.append_assoc]); (try simp only [List.append_nil]); exact h1,HW4.out⟩
end Go.Proofs.YtfgelheiknmjgaaGreatDoor
namespace Go.Proofs
open Go.Shelf
def Tryz.lays156_ren:Go.Shelf.Ren:=⟨fun | 156 => 130 | 165 => 176 | 166 => 129 | 169 => 34 | 240 => 175 | 241 => 209 | 276 => 208 | 277 => 237 | n => n,fun | 31 => 33 | 9 => 9 | 3 => 3 | 4 => 4 | 0 => 0 | 20 => 20 | 72 => 75 | 76 => 164 | 70 => 72 | 37 => 73 | 75 => 163 | 127 => 121 | 164 => 223 | 5 => 5 | 80 => 81 | n => n,fun | n => n⟩
theorem Tryz.lays156:Go.Proofs.Lays.n156 Tryz.prog Tryz.lays156_ren:={
 mixed:=by kernel_rfl
 f156:=Tryz.func130.trans (congrArg some (by kernel_rfl))
 f165:=Tryz.func176.trans (congrArg some (by kernel_rfl))
 f166:=Tryz.func129.trans (congrArg some (by kernel_rfl))
 f169:=Tryz.func34.trans (congrArg some (by kernel_rfl))
 f240:=Tryz.func175.trans (congrArg some (by kernel_rfl))
 f241:=Tryz.func209.trans (congrArg some (by kernel_rfl))
 f276:=Tryz.func208.trans (congrArg some (by kernel_rfl))
 f277:=Tryz.func237.trans (congrArg some (by kernel_rfl))
 t0:=Tryz.underlying0
 a0:=Tryz.isAgg0
 z0:=Tryz.sizeOf0
 v0:=Tryz.zeroValue0
 t3:=Tryz.underlying3
 a3:=Tryz.isAgg3
 z3:=Tryz.sizeOf3
 v3:=Tryz.zeroValue3
 t4:=Tryz.underlying4
 a4:=Tryz.isAgg4
 z4:=Tryz.sizeOf4
 v4:=Tryz.zeroValue4
 t9:=Tryz.underlying9
 a9:=Tryz.isAgg9
 z9:=Tryz.sizeOf9
 v9:=Tryz.zeroValue9
 t20:=Tryz.underlying20
 a20:=Tryz.isAgg20
 z20:=Tryz.sizeOf20
 v20:=Tryz.zeroValue20
 t31:=Tryz.underlying33
 a31:=Tryz.isAgg33
 z31:=Tryz.sizeOf33
 v31:=Tryz.zeroValue33
 t37:=Tryz.underlying73
 a37:=Tryz.isAgg73
 z37:=Tryz.sizeOf73
 v37:=Tryz.zeroValue73
 t70:=Tryz.underlying72
 a70:=Tryz.isAgg72
 z70:=Tryz.sizeOf72
 v70:=Tryz.zeroValue72
 t72:=Tryz.underlying75
 a72:=Tryz.isAgg75
 z72:=Tryz.sizeOf75
 v72:=Tryz.zeroValue75
 t75:=Tryz.underlying163
 a75:=Tryz.isAgg163
 z75:=Tryz.sizeOf163
 v75:=Tryz.zeroValue163
 t76:=Tryz.underlying164
 a76:=Tryz.isAgg164
 z76:=Tryz.sizeOf164
 v76:=Tryz.zeroValue164
 t127:=Tryz.underlying121
 a127:=Tryz.isAgg121
 z127:=Tryz.sizeOf121
 v127:=Tryz.zeroValue121
 t164:=Tryz.underlying223
 a164:=Tryz.isAgg223
 z164:=Tryz.sizeOf223
 v164:=Tryz.zeroValue223 }
theorem Tryz.Builder_Extra_156:Builder.Extra Tryz.prog Tryz.lays156_ren:={
 sizeBuilder:=by kernel_rfl
 liesBuilder:=by kernel_rfl
 t5:=Tryz.underlying5
 a5:=Tryz.isAgg5
 z5:=Tryz.sizeOf5
 v5:=Tryz.zeroValue5
 infoByte:=by kernel_rfl
 cellsByte:=by kernel_rfl
 sizeByte:=by kernel_rfl
 neB5:=by decide }
open Go.RowKit in
theorem Tryz.strings_Join (bk o c:Nat) (xs:List ByteArray) (sep:ByteArray) (w:World) (hcells:∀ (j:Nat) x,xs[j]? = some x → w.cell? ⟨bk,o + j,none⟩ = some (.string x)) (hbk:bk < w.heap.size) (hN:xs.length ≤ 140737488355328) (hcap:xs.length ≤ c) (hlen:(Lib.join (xs.map (·.data.toList)) sep.data.toList).length ≤ 140737488355328) :
  Calls Tryz.prog 130 #[.slice (some ⟨bk,o,none⟩) xs.length c,.string sep] w fun e w' => e = .returned (.string ⟨(Lib.join (xs.map (·.data.toList)) sep.data.toList).toArray⟩) ∧ Below w.heap.size w w':=Any.strings_Join Tryz.lays156 Tryz.Builder_Extra_156 bk o c xs sep w hcells hbk hN hcap hlen
end Go.Proofs

