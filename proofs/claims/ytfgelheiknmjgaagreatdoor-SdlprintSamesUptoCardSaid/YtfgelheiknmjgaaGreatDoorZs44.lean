
/-
 Texts joined: NS N8 N9 NX.
-/
import Derived.Test.YtfgelheiknmjgaaGreatDoorZs6
import Derived.Test.YtfgelheiknmjgaaGreatDoorZs42
import Derived.Test.YtfgelheiknmjgaaGreatDoorZs43
import Derived.Test.YtfgelheiknmjgaaGreatDoorZs41
namespace Go.Proofs.YtfgelheiknmjgaaGreatDoor
open Go.RowKit
theorem cells8 : Tryz.prog.cellsOf 5 = 1:=by kernel_rfl
set_option maxRecDepth 100000 in
set_option maxHeartbeats 2000000 in
theorem zv1 (B b:Nat) (l:List UInt8) (w:World) (h:PB B b l w) (h0:l ≠ []) :
  Calls Tryz.prog 34 #[pp b] w fun e w' => e = .returned (.string ⟨l.toArray⟩) ∧ Below B w w':=by
 obtain ⟨p,hB,v,hbk,hown,hne⟩ : ∃ p,PAt B b p (Lib.byteCells l) w:=by
  rcases h with h | h
  ·exact ⟨_,h⟩
  ·exact ⟨_,h⟩
 have hl0:l.length ≠ 0:=by simpa using h0
 obtain ⟨g,cap,cur,fz,rfl,hbg,hg,hnc,hcm,hcs⟩ : ∃ g cap cur fz,v = .slice (some ⟨g,0,none⟩) l.length cap ∧ B ≤ g ∧ w.heap[g]? = some (.cells cur 5 fz) ∧ l.length ≤ cap ∧ cap ≤ maxLen ∧ cur.size = cap:=by
  rcases hown.2 with ⟨_,hz⟩ | ⟨g,cap,cur,fz,hv,r1,r2,r3,r4,r5,r6,r7⟩
  ·exact absurd (by rw [Lib.byteCells_length] at hz; exact hz) hl0
  ·exact ⟨g,cap,cur,fz,by rw [hv,Lib.byteCells_length],r1,r2,by rw [Lib.byteCells_length] at r4; exact r4,r5,by omega⟩
 have HC:Hid (∀ j x,l[j]? = some x → w.drew.cell? ((⟨g,0,none⟩ : Addr).add j) = some (.int .u8 x.toNat)):=Lib.hid fun j x hx => by
  have:=hown.cells (g:=g) rfl j (.int .u8 x.toNat) (by simp [Lib.byteCells,hx])
  exact this
 have c1:w.drew.cell? ⟨b,1,none⟩ = some (.slice (some ⟨g,0,none⟩) l.length cap):=by
  have:w.drew.heap[b]? = some (.cells #[p,.slice (some ⟨g,0,none⟩) l.length cap] 77 (0,0)):=hbk
  rw [Lib.cell_of_heap this]; rfl
 have r1:(Builtin.unsafeSliceData_ #[73] 121 #[.slice (some ⟨g,0,none⟩) l.length cap]).run Tryz.prog w.drew = .ok (.pointer (some ⟨g,0,none⟩)) w.drew:=Lib.run_unsafeSliceData_row w.drew _ _ _ _ _ (by omega)
 have r2:(Builtin.unsafeString_ #[121, 3] 9 #[.pointer (some ⟨g,0,none⟩),.int .i64 l.length]).run Tryz.prog w.drew = .ok (.string ⟨l.toArray⟩) (w.drew.freeze ⟨g,0,none⟩ l.length) :=
  Lib.run_unsafeString_row w.drew 121 3 9 5 Tryz.underlying121 cells8 g cur.size (by have hg':w.drew.heap[g]? = some (.cells cur 5 fz):=hg; simp [World.shape?,hg']) l h0 (by omega) (by unfold maxLen at hcm; omega) HC.out
 clear hown hne hbk h hnc hcm hcs h0
 have mixed : Tryz.prog.follows .mixedOrders = true:=by kernel_rfl
 go_enter Tryz.func34, Tryz.ntmps34
 go_wp2
 go_region_o
 all_goals (go_wp2; go_ret; exact ⟨rfl,Lib.below_freeze (Below.drew (Below.refl B w)) (p:=⟨g,0,none⟩) hbg _⟩)
end Go.Proofs.YtfgelheiknmjgaaGreatDoor
namespace Go.Proofs.YtfgelheiknmjgaaGreatDoor
open Go.RowKit
def zQ4 (l:List InpT):Prop:=∀ x ∈ l,zQ7 x
def zQ8 (x:FldT):Prop:=rfFit x.tn x.tw ∧ zQ4 x.args ∧ zg6 x.dirs
def zw1 (x:DefT):Prop:=(1 ≤ x.kind ∧ x.kind ≤ 5) ∧ zg6 x.dirs ∧ (∀ y ∈ x.fields,zQ8 y) ∧ (∀ y ∈ x.members,zg6 y.dirs) ∧ zQ4 x.inputs
set_option maxRecDepth 100000 in
set_option maxHeartbeats 4000000 in
theorem zC9 (B b:Nat) (hO:ValOk B b) (x:FldT) (hf:zQ8 x) (f:Nat → Value) (w:World) (h:FldR w B f x):ze4 B b w 64 (.agg #[f 0,f 1,f 2,f 3,f 4]) (zj0 x):=by
 intro l hp hL hl hB
 obtain ⟨A1,c1,e1,_,_⟩:=h.args.form
 obtain ⟨A3,c3,e3,_,_⟩:=h.type.wraps.form
 obtain ⟨A4,c4,e4,_,_⟩:=h.dirs.form
 have ha:=h.args
 have ht:=h.type
 have hd:=h.dirs
 rw [h.name,h.type.name,e1,e3,e4]
 rw [e1] at ha
 rw [h.type.name,e3] at ht
 rw [e4] at hd
 clear e1 e3 e4 h
 obtain ⟨n1,hn1⟩ : ∃ n1,x.args.length = n1:=⟨_,rfl⟩
 unfold zj0 at hl ⊢
 rw [hn1] at ha hl ⊢
 generalize x.tw.length = n3 at ht ⊢
 generalize x.dirs.length = n4 at hd ⊢
 have HA0:=Lib.hid (ha.kept (za0 w (.cells #[.string x.name,.slice A1 n1 c1,.string x.tn,.slice A3 n3 c3,.slice A4 n4 c4] 46 (0,0)) |>.mono hB))
 have HT0:=Lib.hid (ht.kept (za0 w (.cells #[.string x.name,.slice A1 n1 c1,.string x.tn,.slice A3 n3 c3,.slice A4 n4 c4] 46 (0,0)) |>.mono hB))
 have HD0:=Lib.hid (hd.kept (za0 w (.cells #[.string x.name,.slice A1 n1 c1,.string x.tn,.slice A3 n3 c3,.slice A4 n4 c4] 46 (0,0)) |>.mono hB))
 have HO:=Lib.hid hO
 have HF:=Lib.hid hf
 clear ha ht hd hO hf hn1
 by_cases h0:n1 = 0
 ·subst h0
  rw [if_pos rfl] at hl ⊢
  have HW0:Hid (Wr B b w (w.alloc (.cells #[.string x.name,.slice A1 0 c1,.string x.tn,.slice A3 n3 c3,.slice A4 n4 c4] 46 (0,0)))):=Lib.hid ((Wr.refl B b w).alloc hB _)
  have HP0:=Lib.hid (hp.alloc (.cells #[.string x.name,.slice A1 0 c1,.string x.tn,.slice A3 n3 c3,.slice A4 n4 c4] 46 (0,0)))
  have HK0:=Lib.hid (Bk.new w #[.string x.name,.slice A1 0 c1,.string x.tn,.slice A3 n3 c3,.slice A4 n4 c4] 46)
  have HL:=Lib.hid hL
  have HLL:=Lib.hid hl
  have HBB:=Lib.hid hB
  have hbw:=hp.lt
  clear hL hl hB hp
  generalize hrf:zk8 x.tn x.tw = out at *
  obtain ⟨o,rfl⟩ : ∃ o:ByteArray,o.data.toList = out:=⟨⟨out.toArray⟩,by simp⟩
  have ho2:(⟨o.data.toList.toArray⟩ : ByteArray) = o:=by cases o; simp
  have hob:o.data.toList = bL o:=rfl
  have CALLP:Hid (∀ (W:World),RfR W B (.string x.tn) (.slice A3 n3 c3) x.tn x.tw → B ≤ W.heap.size → Calls Tryz.prog 133 #[.agg #[.string x.tn,.slice A3 n3 c3]] W fun e w' => e = .returned (.string o) ∧ Below W.heap.size W w'):=Lib.hid fun W h1 h2 => by
   have h3:=zn2 B x.tn x.tw HF.out.1 W _ _ h1 h2
   rw [hrf,ho2] at h3; exact h3
  rw [hob] at HLL ⊢
  clear hrf ho2 hob
  go_enter Tryz.func64, Tryz.ntmps64
  have y0:=HK0.out.cell 0 _ rfl
  have y1:=HK0.out.cell 1 _ rfl
  have y2:=HK0.out.cell 2 _ rfl
  have y3:=HK0.out.cell 3 _ rfl
  have y4:=HK0.out.cell 4 _ rfl
  go_wp2_with fail
  refine (put1 _ B b _ _ _ (by simp) HP0.out (by have h1:=HLL.out; (try simp only [za6] at h1 ⊢); (try simp only [List.length_append] at h1 ⊢); (try simp only [List.length_cons] at h1 ⊢); (try simp only [List.length_append] at h1 ⊢); (try simp only [List.length_nil] at h1 ⊢); (try simp only [za4] at h1 ⊢); (try simp only [za2] at h1 ⊢); (try simp only [List.length_cons] at h1 ⊢); (try simp only [List.length_nil] at h1 ⊢); omega) (Nat.le_trans HBB.out HW0.out.below.size)).mono ?_
  rintro e w1 ⟨rfl,hp,hw⟩
  have HP1:=Lib.hid hp
  have HW1:=Lib.hid (HW0.out.trans hw)
  have HK1:=Lib.hid (HK0.out.wr hw (by omega) (by decide))
  have HA1:=Lib.hid (InpsR.kept HA0.out hw.below)
  have HT1:=Lib.hid (RfR.kept HT0.out hw.below)
  have HD1:=Lib.hid (DirsR.kept HD0.out hw.below)
  clear hp hw
  clear y0 y1 y2 y3 y4
  have y0:=HK1.out.cell 0 _ rfl
  have y1:=HK1.out.cell 1 _ rfl
  have y2:=HK1.out.cell 2 _ rfl
  have y3:=HK1.out.cell 3 _ rfl
  have y4:=HK1.out.cell 4 _ rfl
  go_wp2_with fail
  refine (CALLP.out _ HT1.out (Nat.le_trans HBB.out HW1.out.below.size)).mono ?_
  rintro e w2 ⟨rfl,hb⟩
  have HP2:=Lib.hid (HP1.out.kept hb)
  have HW2:=Lib.hid (HW1.out.trans (Wr.of (Nat.le_trans HBB.out HW1.out.below.size) hb))
  have HK2:=Lib.hid (HK1.out.stay hb)
  have HA2:=Lib.hid (InpsR.kept HA1.out (hb.mono (Nat.le_trans HBB.out HW1.out.below.size)))
  have HT2:=Lib.hid (RfR.kept HT1.out (hb.mono (Nat.le_trans HBB.out HW1.out.below.size)))
  have HD2:=Lib.hid (DirsR.kept HD1.out (hb.mono (Nat.le_trans HBB.out HW1.out.below.size)))
  clear hb
  clear y0 y1 y2 y3 y4
  have y0:=HK2.out.cell 0 _ rfl
  have y1:=HK2.out.cell 1 _ rfl
  have y2:=HK2.out.cell 2 _ rfl
  have y3:=HK2.out.cell 3 _ rfl
  have y4:=HK2.out.cell 4 _ rfl
  go_wp2_with fail
  refine (put2 _ _ B b _ _ _ (by simp) HP2.out (by have h1:=HLL.out; (try simp only [za6] at h1 ⊢); (try simp only [List.length_append] at h1 ⊢); (try simp only [List.length_cons] at h1 ⊢); (try simp only [List.length_append] at h1 ⊢); (try simp only [List.length_nil] at h1 ⊢); (try simp only [za4] at h1 ⊢); (try simp only [za2] at h1 ⊢); (try simp only [List.length_cons] at h1 ⊢); (try simp only [List.length_nil] at h1 ⊢); omega) (Nat.le_trans HBB.out HW2.out.below.size)).mono ?_
  rintro e w3 ⟨rfl,hp,hw⟩
  have HP3:=Lib.hid hp
  have HW3:=Lib.hid (HW2.out.trans hw)
  have HK3:=Lib.hid (HK2.out.wr hw (by omega) (by decide))
  have HA3:=Lib.hid (InpsR.kept HA2.out hw.below)
  have HT3:=Lib.hid (RfR.kept HT2.out hw.below)
  have HD3:=Lib.hid (DirsR.kept HD2.out hw.below)
  clear hp hw
  clear y0 y1 y2 y3 y4
  have y0:=HK3.out.cell 0 _ rfl
  have y1:=HK3.out.cell 1 _ rfl
  have y2:=HK3.out.cell 2 _ rfl
  have y3:=HK3.out.cell 3 _ rfl
  have y4:=HK3.out.cell 4 _ rfl
  go_wp2_with fail
  refine (zb2 B b HO.out x.dirs HF.out.2.2 _ _ HD3.out _ HP3.out (HL.out.kept HW3.out.below) (by have h1:=HLL.out; (try simp only [za6] at h1 ⊢); (try simp only [List.length_append] at h1 ⊢); (try simp only [List.length_cons] at h1 ⊢); (try simp only [List.length_append] at h1 ⊢); (try simp only [List.length_nil] at h1 ⊢); (try simp only [za4] at h1 ⊢); (try simp only [za2] at h1 ⊢); (try simp only [List.length_cons] at h1 ⊢); (try simp only [List.length_nil] at h1 ⊢); omega) (Nat.le_trans HBB.out HW3.out.below.size)).mono ?_
  rintro e w4 ⟨rfl,hp,hw⟩
  have HP4:=Lib.hid hp
  have HW4:=Lib.hid (HW3.out.trans hw)
  have HK4:=Lib.hid (HK3.out.wr hw (by omega) (by decide))
  have HA4:=Lib.hid (InpsR.kept HA3.out hw.below)
  have HT4:=Lib.hid (RfR.kept HT3.out hw.below)
  have HD4:=Lib.hid (DirsR.kept HD3.out hw.below)
  clear hp hw
  clear y0 y1 y2 y3 y4
  have y0:=HK4.out.cell 0 _ rfl
  have y1:=HK4.out.cell 1 _ rfl
  have y2:=HK4.out.cell 2 _ rfl
  have y3:=HK4.out.cell 3 _ rfl
  have y4:=HK4.out.cell 4 _ rfl
  go_wp2_with fail
  go_end0
  exact ⟨rfl,by have h1:=HP4.out; (try simp only [List.append_assoc] at h1); (try simp only [List.append_nil] at h1); (try simp only [List.append_assoc]); (try simp only [List.append_nil]); exact h1,HW4.out⟩
 ·have h0':(n1:Int) > 0:=by omega
  rw [if_neg h0] at hl ⊢
  clear h0
  have HW0:Hid (Wr B b w (w.alloc (.cells #[.string x.name,.slice A1 n1 c1,.string x.tn,.slice A3 n3 c3,.slice A4 n4 c4] 46 (0,0)))):=Lib.hid ((Wr.refl B b w).alloc hB _)
  have HP0:=Lib.hid (hp.alloc (.cells #[.string x.name,.slice A1 n1 c1,.string x.tn,.slice A3 n3 c3,.slice A4 n4 c4] 46 (0,0)))
  have HK0:=Lib.hid (Bk.new w #[.string x.name,.slice A1 n1 c1,.string x.tn,.slice A3 n3 c3,.slice A4 n4 c4] 46)
  have HL:=Lib.hid hL
  have HLL:=Lib.hid hl
  have HBB:=Lib.hid hB
  have hbw:=hp.lt
  clear hL hl hB hp
  generalize hrf:zk8 x.tn x.tw = out at *
  obtain ⟨o,rfl⟩ : ∃ o:ByteArray,o.data.toList = out:=⟨⟨out.toArray⟩,by simp⟩
  have ho2:(⟨o.data.toList.toArray⟩ : ByteArray) = o:=by cases o; simp
  have hob:o.data.toList = bL o:=rfl
  have CALLP:Hid (∀ (W:World),RfR W B (.string x.tn) (.slice A3 n3 c3) x.tn x.tw → B ≤ W.heap.size → Calls Tryz.prog 133 #[.agg #[.string x.tn,.slice A3 n3 c3]] W fun e w' => e = .returned (.string o) ∧ Below W.heap.size W w'):=Lib.hid fun W h1 h2 => by
   have h3:=zn2 B x.tn x.tw HF.out.1 W _ _ h1 h2
   rw [hrf,ho2] at h3; exact h3
  rw [hob] at HLL ⊢
  clear hrf ho2 hob
  go_enter Tryz.func64, Tryz.ntmps64
  have y0:=HK0.out.cell 0 _ rfl
  have y1:=HK0.out.cell 1 _ rfl
  have y2:=HK0.out.cell 2 _ rfl
  have y3:=HK0.out.cell 3 _ rfl
  have y4:=HK0.out.cell 4 _ rfl
  go_wp2_with fail
  refine (put1 _ B b _ _ _ (by simp) HP0.out (by have h1:=HLL.out; (try simp only [za6] at h1 ⊢); (try simp only [List.length_append] at h1 ⊢); (try simp only [List.length_cons] at h1 ⊢); (try simp only [List.length_append] at h1 ⊢); (try simp only [List.length_nil] at h1 ⊢); (try simp only [za4] at h1 ⊢); (try simp only [za2] at h1 ⊢); (try simp only [List.length_cons] at h1 ⊢); (try simp only [List.length_nil] at h1 ⊢); omega) (Nat.le_trans HBB.out HW0.out.below.size)).mono ?_
  rintro e w1 ⟨rfl,hp,hw⟩
  have HP1:=Lib.hid hp
  have HW1:=Lib.hid (HW0.out.trans hw)
  have HK1:=Lib.hid (HK0.out.wr hw (by omega) (by decide))
  have HA1:=Lib.hid (InpsR.kept HA0.out hw.below)
  have HT1:=Lib.hid (RfR.kept HT0.out hw.below)
  have HD1:=Lib.hid (DirsR.kept HD0.out hw.below)
  clear hp hw
  clear y0 y1 y2 y3 y4
  have y0:=HK1.out.cell 0 _ rfl
  have y1:=HK1.out.cell 1 _ rfl
  have y2:=HK1.out.cell 2 _ rfl
  have y3:=HK1.out.cell 3 _ rfl
  have y4:=HK1.out.cell 4 _ rfl
  go_wp2_with fail
  refine (put1 _ B b _ _ _ (by simp) HP1.out (by have h1:=HLL.out; (try simp only [za6] at h1 ⊢); (try simp only [List.length_append] at h1 ⊢); (try simp only [List.length_cons] at h1 ⊢); (try simp only [List.length_append] at h1 ⊢); (try simp only [List.length_nil] at h1 ⊢); (try simp only [za4] at h1 ⊢); (try simp only [za2] at h1 ⊢); (try simp only [List.length_cons] at h1 ⊢); (try simp only [List.length_nil] at h1 ⊢); omega) (Nat.le_trans HBB.out HW1.out.below.size)).mono ?_
  rintro e w2 ⟨rfl,hp,hw⟩
  have HP2:=Lib.hid hp
  have HW2:=Lib.hid (HW1.out.trans hw)
  have HK2:=Lib.hid (HK1.out.wr hw (by omega) (by decide))
  have HA2:=Lib.hid (InpsR.kept HA1.out hw.below)
  have HT2:=Lib.hid (RfR.kept HT1.out hw.below)
  have HD2:=Lib.hid (DirsR.kept HD1.out hw.below)
  clear hp hw
  clear y0 y1 y2 y3 y4
  have y0:=HK2.out.cell 0 _ rfl
  have y1:=HK2.out.cell 1 _ rfl
  have y2:=HK2.out.cell 2 _ rfl
  have y3:=HK2.out.cell 3 _ rfl
  have y4:=HK2.out.cell 4 _ rfl
  go_wp2_with fail
  refine (zJ2 B b x.args zi3 (fun y hy f W hR => zC6 B b HO.out y (HF.out.2.1 y hy) f W hR) _ _ _ _ HA2.out HP2.out (HL.out.kept HW2.out.below) (by have h1:=HLL.out; (try simp only [za6] at h1 ⊢); (try simp only [List.length_append] at h1 ⊢); (try simp only [List.length_cons] at h1 ⊢); (try simp only [List.length_append] at h1 ⊢); (try simp only [List.length_nil] at h1 ⊢); (try simp only [za4] at h1 ⊢); (try simp only [za2] at h1 ⊢); (try simp only [List.length_cons] at h1 ⊢); (try simp only [List.length_nil] at h1 ⊢); omega) (Nat.le_trans HBB.out HW2.out.below.size)).mono ?_
  rintro e w3 ⟨rfl,hp,hw⟩
  have HP3:=Lib.hid hp
  have HW3:=Lib.hid (HW2.out.trans hw)
  have HK3:=Lib.hid (HK2.out.wr hw (by omega) (by decide))
  have HA3:=Lib.hid (InpsR.kept HA2.out hw.below)
  have HT3:=Lib.hid (RfR.kept HT2.out hw.below)
  have HD3:=Lib.hid (DirsR.kept HD2.out hw.below)
  clear hp hw
  clear y0 y1 y2 y3 y4
  have y0:=HK3.out.cell 0 _ rfl
  have y1:=HK3.out.cell 1 _ rfl
  have y2:=HK3.out.cell 2 _ rfl
  have y3:=HK3.out.cell 3 _ rfl
  have y4:=HK3.out.cell 4 _ rfl
  go_wp2_with fail
  refine (put1 _ B b _ _ _ (by simp) HP3.out (by have h1:=HLL.out; (try simp only [za6] at h1 ⊢); (try simp only [List.length_append] at h1 ⊢); (try simp only [List.length_cons] at h1 ⊢); (try simp only [List.length_append] at h1 ⊢); (try simp only [List.length_nil] at h1 ⊢); (try simp only [za4] at h1 ⊢); (try simp only [za2] at h1 ⊢); (try simp only [List.length_cons] at h1 ⊢); (try simp only [List.length_nil] at h1 ⊢); omega) (Nat.le_trans HBB.out HW3.out.below.size)).mono ?_
  rintro e w4 ⟨rfl,hp,hw⟩
  have HP4:=Lib.hid hp
  have HW4:=Lib.hid (HW3.out.trans hw)
  have HK4:=Lib.hid (HK3.out.wr hw (by omega) (by decide))
  have HA4:=Lib.hid (InpsR.kept HA3.out hw.below)
  have HT4:=Lib.hid (RfR.kept HT3.out hw.below)
  have HD4:=Lib.hid (DirsR.kept HD3.out hw.below)
  clear hp hw
  clear y0 y1 y2 y3 y4
  have y0:=HK4.out.cell 0 _ rfl
  have y1:=HK4.out.cell 1 _ rfl
  have y2:=HK4.out.cell 2 _ rfl
  have y3:=HK4.out.cell 3 _ rfl
  have y4:=HK4.out.cell 4 _ rfl
  go_wp2_with fail
  refine (CALLP.out _ HT4.out (Nat.le_trans HBB.out HW4.out.below.size)).mono ?_
  rintro e w5 ⟨rfl,hb⟩
  have HP5:=Lib.hid (HP4.out.kept hb)
  have HW5:=Lib.hid (HW4.out.trans (Wr.of (Nat.le_trans HBB.out HW4.out.below.size) hb))
  have HK5:=Lib.hid (HK4.out.stay hb)
  have HA5:=Lib.hid (InpsR.kept HA4.out (hb.mono (Nat.le_trans HBB.out HW4.out.below.size)))
  have HT5:=Lib.hid (RfR.kept HT4.out (hb.mono (Nat.le_trans HBB.out HW4.out.below.size)))
  have HD5:=Lib.hid (DirsR.kept HD4.out (hb.mono (Nat.le_trans HBB.out HW4.out.below.size)))
  clear hb
  clear y0 y1 y2 y3 y4
  have y0:=HK5.out.cell 0 _ rfl
  have y1:=HK5.out.cell 1 _ rfl
  have y2:=HK5.out.cell 2 _ rfl
  have y3:=HK5.out.cell 3 _ rfl
  have y4:=HK5.out.cell 4 _ rfl
  go_wp2_with fail
  refine (put2 _ _ B b _ _ _ (by simp) HP5.out (by have h1:=HLL.out; (try simp only [za6] at h1 ⊢); (try simp only [List.length_append] at h1 ⊢); (try simp only [List.length_cons] at h1 ⊢); (try simp only [List.length_append] at h1 ⊢); (try simp only [List.length_nil] at h1 ⊢); (try simp only [za4] at h1 ⊢); (try simp only [za2] at h1 ⊢); (try simp only [List.length_cons] at h1 ⊢); (try simp only [List.length_nil] at h1 ⊢); omega) (Nat.le_trans HBB.out HW5.out.below.size)).mono ?_
  rintro e w6 ⟨rfl,hp,hw⟩
  have HP6:=Lib.hid hp
  have HW6:=Lib.hid (HW5.out.trans hw)
  have HK6:=Lib.hid (HK5.out.wr hw (by omega) (by decide))
  have HA6:=Lib.hid (InpsR.kept HA5.out hw.below)
  have HT6:=Lib.hid (RfR.kept HT5.out hw.below)
  have HD6:=Lib.hid (DirsR.kept HD5.out hw.below)
  clear hp hw
  clear y0 y1 y2 y3 y4
  have y0:=HK6.out.cell 0 _ rfl
  have y1:=HK6.out.cell 1 _ rfl
  have y2:=HK6.out.cell 2 _ rfl
  have y3:=HK6.out.cell 3 _ rfl
  have y4:=HK6.out.cell 4 _ rfl
  go_wp2_with fail
  refine (zb2 B b HO.out x.dirs HF.out.2.2 _ _ HD6.out _ HP6.out (HL.out.kept HW6.out.below) (by have h1:=HLL.out; (try simp only [za6] at h1 ⊢); (try simp only [List.length_append] at h1 ⊢); (try simp only [List.length_cons] at h1 ⊢); (try simp only [List.length_append] at h1 ⊢); (try simp only [List.length_nil] at h1 ⊢); (try simp only [za4] at h1 ⊢); (try simp only [za2] at h1 ⊢); (try simp only [List.length_cons] at h1 ⊢); (try simp only [List.length_nil] at h1 ⊢); omega) (Nat.le_trans HBB.out HW6.out.below.size)).mono ?_
  rintro e w7 ⟨rfl,hp,hw⟩
  have HP7:=Lib.hid hp
  have HW7:=Lib.hid (HW6.out.trans hw)
  have HK7:=Lib.hid (HK6.out.wr hw (by omega) (by decide))
  have HA7:=Lib.hid (InpsR.kept HA6.out hw.below)
  have HT7:=Lib.hid (RfR.kept HT6.out hw.below)
  have HD7:=Lib.hid (DirsR.kept HD6.out hw.below)
  clear hp hw
  clear y0 y1 y2 y3 y4
  have y0:=HK7.out.cell 0 _ rfl
  have y1:=HK7.out.cell 1 _ rfl
  have y2:=HK7.out.cell 2 _ rfl
  have y3:=HK7.out.cell 3 _ rfl
  have y4:=HK7.out.cell 4 _ rfl
  go_wp2_with fail
  go_end0
  exact ⟨rfl,by have h1:=HP7.out; (try simp only [List.append_assoc] at h1); (try simp only [List.append_nil] at h1); (try simp only [List.append_assoc]); (try simp only [List.append_nil]); exact h1,HW7.out⟩
set_option maxRecDepth 100000 in
set_option maxHeartbeats 4000000 in
theorem zu8 (B b:Nat) (hO:ValOk B b) (x:DefT) (hf:zw1 x) (f:Nat → Value) (w:World) (h:DefR w B f x):ze4 B b w 33 (.agg #[f 0,f 1,f 2,f 3,f 4,f 5,f 6]) (zg7 x):=by
 intro l hp hL hl hB
 obtain ⟨A2,c2,e2,_,_⟩:=h.impl.form
 obtain ⟨A3,c3,e3,_,_⟩:=h.dirs.form
 obtain ⟨A4,c4,e4,_,_⟩:=h.fields.form
 obtain ⟨A5,c5,e5,_,_⟩:=h.members.form
 obtain ⟨A6,c6,e6,_,_⟩:=h.inputs.form
 have hi:=h.impl
 have hd:=h.dirs
 have hg:=h.fields
 have hm:=h.members
 have hz:=h.inputs
 rw [h.kind,h.name,e2,e3,e4,e5,e6]
 rw [e2] at hi
 rw [e3] at hd
 rw [e4] at hg
 rw [e5] at hm
 rw [e6] at hz
 clear e2 e3 e4 e5 e6 h
 generalize x.impl.length = n2 at hi ⊢
 generalize x.dirs.length = n3 at hd ⊢
 generalize x.fields.length = n4 at hg ⊢
 generalize x.members.length = n5 at hm ⊢
 generalize x.inputs.length = n6 at hz ⊢
 have HO:=Lib.hid hO
 have HF:=Lib.hid hf
 unfold zg7 at hl ⊢
 have hk:=hf.1
 obtain ⟨kd,hkd⟩ : ∃ kd,x.kind = kd:=⟨_,rfl⟩
 rw [hkd] at hl hk ⊢
 clear hO hf hkd
 by_cases h1:kd = 1
 ·subst h1
  rw [if_pos rfl] at hl ⊢
  unfold wType at hl ⊢
  have HD0:=Lib.hid (hd.kept (za0 w (.cells #[.int .i64 1,.string x.name,.slice A2 n2 c2,.slice A3 n3 c3,.slice A4 n4 c4,.slice A5 n5 c5,.slice A6 n6 c6] 39 (0,0)) |>.mono hB))
  have HG0:=Lib.hid (hg.kept (za0 w (.cells #[.int .i64 1,.string x.name,.slice A2 n2 c2,.slice A3 n3 c3,.slice A4 n4 c4,.slice A5 n5 c5,.slice A6 n6 c6] 39 (0,0)) |>.mono hB))
  have HI0:=Lib.hid (hi.kept (za0 w (.cells #[.int .i64 1,.string x.name,.slice A2 n2 c2,.slice A3 n3 c3,.slice A4 n4 c4,.slice A5 n5 c5,.slice A6 n6 c6] 39 (0,0)) |>.mono hB))
  clear hi hd hg hm hz hk
  have HW0:Hid (Wr B b w (w.alloc (.cells #[.int .i64 1,.string x.name,.slice A2 n2 c2,.slice A3 n3 c3,.slice A4 n4 c4,.slice A5 n5 c5,.slice A6 n6 c6] 39 (0,0)))):=Lib.hid ((Wr.refl B b w).alloc hB _)
  have HP0:=Lib.hid (hp.alloc (.cells #[.int .i64 1,.string x.name,.slice A2 n2 c2,.slice A3 n3 c3,.slice A4 n4 c4,.slice A5 n5 c5,.slice A6 n6 c6] 39 (0,0)))
  have HK0:=Lib.hid (Bk.new w #[.int .i64 1,.string x.name,.slice A2 n2 c2,.slice A3 n3 c3,.slice A4 n4 c4,.slice A5 n5 c5,.slice A6 n6 c6] 39)
  have HL:=Lib.hid hL
  have HLL:=Lib.hid hl
  have HBB:=Lib.hid hB
  have hbw:=hp.lt
  clear hL hl hB hp
  go_enter Tryz.func33, Tryz.ntmps33
  have y0:=HK0.out.cell 0 _ rfl
  have y1:=HK0.out.cell 1 _ rfl
  have y2:=HK0.out.cell 2 _ rfl
  have y3:=HK0.out.cell 3 _ rfl
  have y4:=HK0.out.cell 4 _ rfl
  have y5:=HK0.out.cell 5 _ rfl
  have y6:=HK0.out.cell 6 _ rfl
  go_wp2_with fail
  refine (put2 _ _ B b _ _ _ (by simp) HP0.out (by have h1:=HLL.out; (try simp only [za6] at h1 ⊢); (try simp only [List.length_append] at h1 ⊢); (try simp only [List.length_cons] at h1 ⊢); (try simp only [List.length_append] at h1 ⊢); (try simp only [List.length_nil] at h1 ⊢); (try simp only [za4] at h1 ⊢); (try simp only [za2] at h1 ⊢); (try simp only [List.length_cons] at h1 ⊢); (try simp only [List.length_nil] at h1 ⊢); omega) (Nat.le_trans HBB.out HW0.out.below.size)).mono ?_
  rintro e w1 ⟨rfl,hp,hw⟩
  have HP1:=Lib.hid hp
  have HW1:=Lib.hid (HW0.out.trans hw)
  have HK1:=Lib.hid (HK0.out.wr hw (by omega) (by decide))
  have HD1:=Lib.hid (DirsR.kept HD0.out hw.below)
  have HG1:=Lib.hid (FldsR.kept HG0.out hw.below)
  have HI1:=Lib.hid (NamesR.kept HI0.out hw.below)
  clear hp hw
  clear y0 y1 y2 y3 y4 y5 y6
  have y0:=HK1.out.cell 0 _ rfl
  have y1:=HK1.out.cell 1 _ rfl
  have y2:=HK1.out.cell 2 _ rfl
  have y3:=HK1.out.cell 3 _ rfl
  have y4:=HK1.out.cell 4 _ rfl
  have y5:=HK1.out.cell 5 _ rfl
  have y6:=HK1.out.cell 6 _ rfl
  go_wp2_with fail
  refine (zu7 B b x.impl _ _ HI1.out _ HP1.out (HL.out.kept HW1.out.below) (by have h1:=HLL.out; (try simp only [za6] at h1 ⊢); (try simp only [List.length_append] at h1 ⊢); (try simp only [List.length_cons] at h1 ⊢); (try simp only [List.length_append] at h1 ⊢); (try simp only [List.length_nil] at h1 ⊢); (try simp only [za4] at h1 ⊢); (try simp only [za2] at h1 ⊢); (try simp only [List.length_cons] at h1 ⊢); (try simp only [List.length_nil] at h1 ⊢); omega) (Nat.le_trans HBB.out HW1.out.below.size)).mono ?_
  rintro e w2 ⟨rfl,hp,hw⟩
  have HP2:=Lib.hid hp
  have HW2:=Lib.hid (HW1.out.trans hw)
  have HK2:=Lib.hid (HK1.out.wr hw (by omega) (by decide))
  have HD2:=Lib.hid (DirsR.kept HD1.out hw.below)
  have HG2:=Lib.hid (FldsR.kept HG1.out hw.below)
  have HI2:=Lib.hid (NamesR.kept HI1.out hw.below)
  clear hp hw
  clear y0 y1 y2 y3 y4 y5 y6
  have y0:=HK2.out.cell 0 _ rfl
  have y1:=HK2.out.cell 1 _ rfl
  have y2:=HK2.out.cell 2 _ rfl
  have y3:=HK2.out.cell 3 _ rfl
  have y4:=HK2.out.cell 4 _ rfl
  have y5:=HK2.out.cell 5 _ rfl
  have y6:=HK2.out.cell 6 _ rfl
  go_wp2_with fail
  refine (zw4 B b HO.out x.dirs HF.out.2.1 x.fields zj0 (fun y hy f W hR => zC9 B b HO.out y (HF.out.2.2.1 y hy) f W hR) _ _ _ _ HD2.out HG2.out HP2.out (HL.out.kept HW2.out.below) (by have h1:=HLL.out; (try simp only [za6] at h1 ⊢); (try simp only [List.length_append] at h1 ⊢); (try simp only [List.length_cons] at h1 ⊢); (try simp only [List.length_append] at h1 ⊢); (try simp only [List.length_nil] at h1 ⊢); (try simp only [za4] at h1 ⊢); (try simp only [za2] at h1 ⊢); (try simp only [List.length_cons] at h1 ⊢); (try simp only [List.length_nil] at h1 ⊢); omega) (Nat.le_trans HBB.out HW2.out.below.size)).mono ?_
  rintro e w3 ⟨rfl,hp,hw⟩
  have HP3:=Lib.hid hp
  have HW3:=Lib.hid (HW2.out.trans hw)
  have HK3:=Lib.hid (HK2.out.wr hw (by omega) (by decide))
  have HD3:=Lib.hid (DirsR.kept HD2.out hw.below)
  have HG3:=Lib.hid (FldsR.kept HG2.out hw.below)
  have HI3:=Lib.hid (NamesR.kept HI2.out hw.below)
  clear hp hw
  clear y0 y1 y2 y3 y4 y5 y6
  have y0:=HK3.out.cell 0 _ rfl
  have y1:=HK3.out.cell 1 _ rfl
  have y2:=HK3.out.cell 2 _ rfl
  have y3:=HK3.out.cell 3 _ rfl
  have y4:=HK3.out.cell 4 _ rfl
  have y5:=HK3.out.cell 5 _ rfl
  have y6:=HK3.out.cell 6 _ rfl
  go_wp2_with fail
  go_end0
  exact ⟨rfl,by have h1:=HP3.out; (try simp only [List.append_assoc] at h1); (try simp only [List.append_nil] at h1); (try simp only [List.append_assoc]); (try simp only [List.append_nil]); exact h1,HW3.out⟩
 by_cases h2:kd = 2
 ·subst h2
  rw [if_neg (by decide)] at hl ⊢
  rw [if_pos rfl] at hl ⊢
  unfold wInterface at hl ⊢
  have HD0:=Lib.hid (hd.kept (za0 w (.cells #[.int .i64 2,.string x.name,.slice A2 n2 c2,.slice A3 n3 c3,.slice A4 n4 c4,.slice A5 n5 c5,.slice A6 n6 c6] 39 (0,0)) |>.mono hB))
  have HG0:=Lib.hid (hg.kept (za0 w (.cells #[.int .i64 2,.string x.name,.slice A2 n2 c2,.slice A3 n3 c3,.slice A4 n4 c4,.slice A5 n5 c5,.slice A6 n6 c6] 39 (0,0)) |>.mono hB))
  clear hi hd hg hm hz hk
  have HW0:Hid (Wr B b w (w.alloc (.cells #[.int .i64 2,.string x.name,.slice A2 n2 c2,.slice A3 n3 c3,.slice A4 n4 c4,.slice A5 n5 c5,.slice A6 n6 c6] 39 (0,0)))):=Lib.hid ((Wr.refl B b w).alloc hB _)
  have HP0:=Lib.hid (hp.alloc (.cells #[.int .i64 2,.string x.name,.slice A2 n2 c2,.slice A3 n3 c3,.slice A4 n4 c4,.slice A5 n5 c5,.slice A6 n6 c6] 39 (0,0)))
  have HK0:=Lib.hid (Bk.new w #[.int .i64 2,.string x.name,.slice A2 n2 c2,.slice A3 n3 c3,.slice A4 n4 c4,.slice A5 n5 c5,.slice A6 n6 c6] 39)
  have HL:=Lib.hid hL
  have HLL:=Lib.hid hl
  have HBB:=Lib.hid hB
  have hbw:=hp.lt
  clear hL hl hB hp
  go_enter Tryz.func33, Tryz.ntmps33
  have y0:=HK0.out.cell 0 _ rfl
  have y1:=HK0.out.cell 1 _ rfl
  have y2:=HK0.out.cell 2 _ rfl
  have y3:=HK0.out.cell 3 _ rfl
  have y4:=HK0.out.cell 4 _ rfl
  have y5:=HK0.out.cell 5 _ rfl
  have y6:=HK0.out.cell 6 _ rfl
  go_wp2_with fail
  refine (put2 _ _ B b _ _ _ (by simp) HP0.out (by have h1:=HLL.out; (try simp only [za6] at h1 ⊢); (try simp only [List.length_append] at h1 ⊢); (try simp only [List.length_cons] at h1 ⊢); (try simp only [List.length_append] at h1 ⊢); (try simp only [List.length_nil] at h1 ⊢); (try simp only [za4] at h1 ⊢); (try simp only [za2] at h1 ⊢); (try simp only [List.length_cons] at h1 ⊢); (try simp only [List.length_nil] at h1 ⊢); omega) (Nat.le_trans HBB.out HW0.out.below.size)).mono ?_
  rintro e w1 ⟨rfl,hp,hw⟩
  have HP1:=Lib.hid hp
  have HW1:=Lib.hid (HW0.out.trans hw)
  have HK1:=Lib.hid (HK0.out.wr hw (by omega) (by decide))
  have HD1:=Lib.hid (DirsR.kept HD0.out hw.below)
  have HG1:=Lib.hid (FldsR.kept HG0.out hw.below)
  clear hp hw
  clear y0 y1 y2 y3 y4 y5 y6
  have y0:=HK1.out.cell 0 _ rfl
  have y1:=HK1.out.cell 1 _ rfl
  have y2:=HK1.out.cell 2 _ rfl
  have y3:=HK1.out.cell 3 _ rfl
  have y4:=HK1.out.cell 4 _ rfl
  have y5:=HK1.out.cell 5 _ rfl
  have y6:=HK1.out.cell 6 _ rfl
  go_wp2_with fail
  refine (zw4 B b HO.out x.dirs HF.out.2.1 x.fields zj0 (fun y hy f W hR => zC9 B b HO.out y (HF.out.2.2.1 y hy) f W hR) _ _ _ _ HD1.out HG1.out HP1.out (HL.out.kept HW1.out.below) (by have h1:=HLL.out; (try simp only [za6] at h1 ⊢); (try simp only [List.length_append] at h1 ⊢); (try simp only [List.length_cons] at h1 ⊢); (try simp only [List.length_append] at h1 ⊢); (try simp only [List.length_nil] at h1 ⊢); (try simp only [za4] at h1 ⊢); (try simp only [za2] at h1 ⊢); (try simp only [List.length_cons] at h1 ⊢); (try simp only [List.length_nil] at h1 ⊢); omega) (Nat.le_trans HBB.out HW1.out.below.size)).mono ?_
  rintro e w2 ⟨rfl,hp,hw⟩
  have HP2:=Lib.hid hp
  have HW2:=Lib.hid (HW1.out.trans hw)
  have HK2:=Lib.hid (HK1.out.wr hw (by omega) (by decide))
  have HD2:=Lib.hid (DirsR.kept HD1.out hw.below)
  have HG2:=Lib.hid (FldsR.kept HG1.out hw.below)
  clear hp hw
  clear y0 y1 y2 y3 y4 y5 y6
  have y0:=HK2.out.cell 0 _ rfl
  have y1:=HK2.out.cell 1 _ rfl
  have y2:=HK2.out.cell 2 _ rfl
  have y3:=HK2.out.cell 3 _ rfl
  have y4:=HK2.out.cell 4 _ rfl
  have y5:=HK2.out.cell 5 _ rfl
  have y6:=HK2.out.cell 6 _ rfl
  go_wp2_with fail
  go_end0
  exact ⟨rfl,by have h1:=HP2.out; (try simp only [List.append_assoc] at h1); (try simp only [List.append_nil] at h1); (try simp only [List.append_assoc]); (try simp only [List.append_nil]); exact h1,HW2.out⟩
 by_cases h3:kd = 3
 ·subst h3
  rw [if_neg (by decide)] at hl ⊢
  rw [if_neg (by decide)] at hl ⊢
  rw [if_pos rfl] at hl ⊢
  unfold wUnion at hl ⊢
  have HD0:=Lib.hid (hd.kept (za0 w (.cells #[.int .i64 3,.string x.name,.slice A2 n2 c2,.slice A3 n3 c3,.slice A4 n4 c4,.slice A5 n5 c5,.slice A6 n6 c6] 39 (0,0)) |>.mono hB))
  have HM0:=Lib.hid (hm.kept (za0 w (.cells #[.int .i64 3,.string x.name,.slice A2 n2 c2,.slice A3 n3 c3,.slice A4 n4 c4,.slice A5 n5 c5,.slice A6 n6 c6] 39 (0,0)) |>.mono hB))
  clear hi hd hg hm hz hk
  have HW0:Hid (Wr B b w (w.alloc (.cells #[.int .i64 3,.string x.name,.slice A2 n2 c2,.slice A3 n3 c3,.slice A4 n4 c4,.slice A5 n5 c5,.slice A6 n6 c6] 39 (0,0)))):=Lib.hid ((Wr.refl B b w).alloc hB _)
  have HP0:=Lib.hid (hp.alloc (.cells #[.int .i64 3,.string x.name,.slice A2 n2 c2,.slice A3 n3 c3,.slice A4 n4 c4,.slice A5 n5 c5,.slice A6 n6 c6] 39 (0,0)))
  have HK0:=Lib.hid (Bk.new w #[.int .i64 3,.string x.name,.slice A2 n2 c2,.slice A3 n3 c3,.slice A4 n4 c4,.slice A5 n5 c5,.slice A6 n6 c6] 39)
  have HL:=Lib.hid hL
  have HLL:=Lib.hid hl
  have HBB:=Lib.hid hB
  have hbw:=hp.lt
  clear hL hl hB hp
  go_enter Tryz.func33, Tryz.ntmps33
  have y0:=HK0.out.cell 0 _ rfl
  have y1:=HK0.out.cell 1 _ rfl
  have y2:=HK0.out.cell 2 _ rfl
  have y3:=HK0.out.cell 3 _ rfl
  have y4:=HK0.out.cell 4 _ rfl
  have y5:=HK0.out.cell 5 _ rfl
  have y6:=HK0.out.cell 6 _ rfl
  go_wp2_with fail
  refine (put2 _ _ B b _ _ _ (by simp) HP0.out (by have h1:=HLL.out; (try simp only [za6] at h1 ⊢); (try simp only [List.length_append] at h1 ⊢); (try simp only [List.length_cons] at h1 ⊢); (try simp only [List.length_append] at h1 ⊢); (try simp only [List.length_nil] at h1 ⊢); (try simp only [za4] at h1 ⊢); (try simp only [za2] at h1 ⊢); (try simp only [List.length_cons] at h1 ⊢); (try simp only [List.length_nil] at h1 ⊢); omega) (Nat.le_trans HBB.out HW0.out.below.size)).mono ?_
  rintro e w1 ⟨rfl,hp,hw⟩
  have HP1:=Lib.hid hp
  have HW1:=Lib.hid (HW0.out.trans hw)
  have HK1:=Lib.hid (HK0.out.wr hw (by omega) (by decide))
  have HD1:=Lib.hid (DirsR.kept HD0.out hw.below)
  have HM1:=Lib.hid (MemsR.kept HM0.out hw.below)
  clear hp hw
  clear y0 y1 y2 y3 y4 y5 y6
  have y0:=HK1.out.cell 0 _ rfl
  have y1:=HK1.out.cell 1 _ rfl
  have y2:=HK1.out.cell 2 _ rfl
  have y3:=HK1.out.cell 3 _ rfl
  have y4:=HK1.out.cell 4 _ rfl
  have y5:=HK1.out.cell 5 _ rfl
  have y6:=HK1.out.cell 6 _ rfl
  go_wp2_with fail
  refine (zL4 B b HO.out x.dirs HF.out.2.1 x.members HF.out.2.2.2.1 _ _ _ HD1.out HM1.out _ HP1.out (HL.out.kept HW1.out.below) (by have h1:=HLL.out; (try simp only [za6] at h1 ⊢); (try simp only [List.length_append] at h1 ⊢); (try simp only [List.length_cons] at h1 ⊢); (try simp only [List.length_append] at h1 ⊢); (try simp only [List.length_nil] at h1 ⊢); (try simp only [za4] at h1 ⊢); (try simp only [za2] at h1 ⊢); (try simp only [List.length_cons] at h1 ⊢); (try simp only [List.length_nil] at h1 ⊢); omega) (Nat.le_trans HBB.out HW1.out.below.size)).mono ?_
  rintro e w2 ⟨rfl,hp,hw⟩
  have HP2:=Lib.hid hp
  have HW2:=Lib.hid (HW1.out.trans hw)
  have HK2:=Lib.hid (HK1.out.wr hw (by omega) (by decide))
  have HD2:=Lib.hid (DirsR.kept HD1.out hw.below)
  have HM2:=Lib.hid (MemsR.kept HM1.out hw.below)
  clear hp hw
  clear y0 y1 y2 y3 y4 y5 y6
  have y0:=HK2.out.cell 0 _ rfl
  have y1:=HK2.out.cell 1 _ rfl
  have y2:=HK2.out.cell 2 _ rfl
  have y3:=HK2.out.cell 3 _ rfl
  have y4:=HK2.out.cell 4 _ rfl
  have y5:=HK2.out.cell 5 _ rfl
  have y6:=HK2.out.cell 6 _ rfl
  go_wp2_with fail
  go_end0
  exact ⟨rfl,by have h1:=HP2.out; (try simp only [List.append_assoc] at h1); (try simp only [List.append_nil] at h1); (try simp only [List.append_assoc]); (try simp only [List.append_nil]); exact h1,HW2.out⟩
 by_cases h4:kd = 4
 ·subst h4
  rw [if_neg (by decide)] at hl ⊢
  rw [if_neg (by decide)] at hl ⊢
  rw [if_neg (by decide)] at hl ⊢
  rw [if_pos rfl] at hl ⊢
  unfold wEnum at hl ⊢
  have HD0:=Lib.hid (hd.kept (za0 w (.cells #[.int .i64 4,.string x.name,.slice A2 n2 c2,.slice A3 n3 c3,.slice A4 n4 c4,.slice A5 n5 c5,.slice A6 n6 c6] 39 (0,0)) |>.mono hB))
  have HM0:=Lib.hid (hm.kept (za0 w (.cells #[.int .i64 4,.string x.name,.slice A2 n2 c2,.slice A3 n3 c3,.slice A4 n4 c4,.slice A5 n5 c5,.slice A6 n6 c6] 39 (0,0)) |>.mono hB))
  clear hi hd hg hm hz hk
  have HW0:Hid (Wr B b w (w.alloc (.cells #[.int .i64 4,.string x.name,.slice A2 n2 c2,.slice A3 n3 c3,.slice A4 n4 c4,.slice A5 n5 c5,.slice A6 n6 c6] 39 (0,0)))):=Lib.hid ((Wr.refl B b w).alloc hB _)
  have HP0:=Lib.hid (hp.alloc (.cells #[.int .i64 4,.string x.name,.slice A2 n2 c2,.slice A3 n3 c3,.slice A4 n4 c4,.slice A5 n5 c5,.slice A6 n6 c6] 39 (0,0)))
  have HK0:=Lib.hid (Bk.new w #[.int .i64 4,.string x.name,.slice A2 n2 c2,.slice A3 n3 c3,.slice A4 n4 c4,.slice A5 n5 c5,.slice A6 n6 c6] 39)
  have HL:=Lib.hid hL
  have HLL:=Lib.hid hl
  have HBB:=Lib.hid hB
  have hbw:=hp.lt
  clear hL hl hB hp
  go_enter Tryz.func33, Tryz.ntmps33
  have y0:=HK0.out.cell 0 _ rfl
  have y1:=HK0.out.cell 1 _ rfl
  have y2:=HK0.out.cell 2 _ rfl
  have y3:=HK0.out.cell 3 _ rfl
  have y4:=HK0.out.cell 4 _ rfl
  have y5:=HK0.out.cell 5 _ rfl
  have y6:=HK0.out.cell 6 _ rfl
  go_wp2_with fail
  refine (put2 _ _ B b _ _ _ (by simp) HP0.out (by have h1:=HLL.out; (try simp only [za6] at h1 ⊢); (try simp only [List.length_append] at h1 ⊢); (try simp only [List.length_cons] at h1 ⊢); (try simp only [List.length_append] at h1 ⊢); (try simp only [List.length_nil] at h1 ⊢); (try simp only [za4] at h1 ⊢); (try simp only [za2] at h1 ⊢); (try simp only [List.length_cons] at h1 ⊢); (try simp only [List.length_nil] at h1 ⊢); omega) (Nat.le_trans HBB.out HW0.out.below.size)).mono ?_
  rintro e w1 ⟨rfl,hp,hw⟩
  have HP1:=Lib.hid hp
  have HW1:=Lib.hid (HW0.out.trans hw)
  have HK1:=Lib.hid (HK0.out.wr hw (by omega) (by decide))
  have HD1:=Lib.hid (DirsR.kept HD0.out hw.below)
  have HM1:=Lib.hid (MemsR.kept HM0.out hw.below)
  clear hp hw
  clear y0 y1 y2 y3 y4 y5 y6
  have y0:=HK1.out.cell 0 _ rfl
  have y1:=HK1.out.cell 1 _ rfl
  have y2:=HK1.out.cell 2 _ rfl
  have y3:=HK1.out.cell 3 _ rfl
  have y4:=HK1.out.cell 4 _ rfl
  have y5:=HK1.out.cell 5 _ rfl
  have y6:=HK1.out.cell 6 _ rfl
  go_wp2_with fail
  refine (zK6 B b HO.out x.dirs HF.out.2.1 x.members zf4 (fun y hy f W hR => zv8 B b HO.out y (HF.out.2.2.2.1 y hy) f W hR) _ _ _ _ HD1.out HM1.out HP1.out (HL.out.kept HW1.out.below) (by have h1:=HLL.out; (try simp only [za6] at h1 ⊢); (try simp only [List.length_append] at h1 ⊢); (try simp only [List.length_cons] at h1 ⊢); (try simp only [List.length_append] at h1 ⊢); (try simp only [List.length_nil] at h1 ⊢); (try simp only [za4] at h1 ⊢); (try simp only [za2] at h1 ⊢); (try simp only [List.length_cons] at h1 ⊢); (try simp only [List.length_nil] at h1 ⊢); omega) (Nat.le_trans HBB.out HW1.out.below.size)).mono ?_
  rintro e w2 ⟨rfl,hp,hw⟩
  have HP2:=Lib.hid hp
  have HW2:=Lib.hid (HW1.out.trans hw)
  have HK2:=Lib.hid (HK1.out.wr hw (by omega) (by decide))
  have HD2:=Lib.hid (DirsR.kept HD1.out hw.below)
  have HM2:=Lib.hid (MemsR.kept HM1.out hw.below)
  clear hp hw
  clear y0 y1 y2 y3 y4 y5 y6
  have y0:=HK2.out.cell 0 _ rfl
  have y1:=HK2.out.cell 1 _ rfl
  have y2:=HK2.out.cell 2 _ rfl
  have y3:=HK2.out.cell 3 _ rfl
  have y4:=HK2.out.cell 4 _ rfl
  have y5:=HK2.out.cell 5 _ rfl
  have y6:=HK2.out.cell 6 _ rfl
  go_wp2_with fail
  go_end0
  exact ⟨rfl,by have h1:=HP2.out; (try simp only [List.append_assoc] at h1); (try simp only [List.append_nil] at h1); (try simp only [List.append_assoc]); (try simp only [List.append_nil]); exact h1,HW2.out⟩
 by_cases h5:kd = 5
 ·subst h5
  rw [if_neg (by decide)] at hl ⊢
  rw [if_neg (by decide)] at hl ⊢
  rw [if_neg (by decide)] at hl ⊢
  rw [if_neg (by decide)] at hl ⊢
  rw [if_pos rfl] at hl ⊢
  unfold wInput at hl ⊢
  have HD0:=Lib.hid (hd.kept (za0 w (.cells #[.int .i64 5,.string x.name,.slice A2 n2 c2,.slice A3 n3 c3,.slice A4 n4 c4,.slice A5 n5 c5,.slice A6 n6 c6] 39 (0,0)) |>.mono hB))
  have HZ0:=Lib.hid (hz.kept (za0 w (.cells #[.int .i64 5,.string x.name,.slice A2 n2 c2,.slice A3 n3 c3,.slice A4 n4 c4,.slice A5 n5 c5,.slice A6 n6 c6] 39 (0,0)) |>.mono hB))
  clear hi hd hg hm hz hk
  have HW0:Hid (Wr B b w (w.alloc (.cells #[.int .i64 5,.string x.name,.slice A2 n2 c2,.slice A3 n3 c3,.slice A4 n4 c4,.slice A5 n5 c5,.slice A6 n6 c6] 39 (0,0)))):=Lib.hid ((Wr.refl B b w).alloc hB _)
  have HP0:=Lib.hid (hp.alloc (.cells #[.int .i64 5,.string x.name,.slice A2 n2 c2,.slice A3 n3 c3,.slice A4 n4 c4,.slice A5 n5 c5,.slice A6 n6 c6] 39 (0,0)))
  have HK0:=Lib.hid (Bk.new w #[.int .i64 5,.string x.name,.slice A2 n2 c2,.slice A3 n3 c3,.slice A4 n4 c4,.slice A5 n5 c5,.slice A6 n6 c6] 39)
  have HL:=Lib.hid hL
  have HLL:=Lib.hid hl
  have HBB:=Lib.hid hB
  have hbw:=hp.lt
  clear hL hl hB hp
  go_enter Tryz.func33, Tryz.ntmps33
  have y0:=HK0.out.cell 0 _ rfl
  have y1:=HK0.out.cell 1 _ rfl
  have y2:=HK0.out.cell 2 _ rfl
  have y3:=HK0.out.cell 3 _ rfl
  have y4:=HK0.out.cell 4 _ rfl
  have y5:=HK0.out.cell 5 _ rfl
  have y6:=HK0.out.cell 6 _ rfl
  go_wp2_with fail
  refine (put2 _ _ B b _ _ _ (by simp) HP0.out (by have h1:=HLL.out; (try simp only [za6] at h1 ⊢); (try simp only [List.length_append] at h1 ⊢); (try simp only [List.length_cons] at h1 ⊢); (try simp only [List.length_append] at h1 ⊢); (try simp only [List.length_nil] at h1 ⊢); (try simp only [za4] at h1 ⊢); (try simp only [za2] at h1 ⊢); (try simp only [List.length_cons] at h1 ⊢); (try simp only [List.length_nil] at h1 ⊢); omega) (Nat.le_trans HBB.out HW0.out.below.size)).mono ?_
  rintro e w1 ⟨rfl,hp,hw⟩
  have HP1:=Lib.hid hp
  have HW1:=Lib.hid (HW0.out.trans hw)
  have HK1:=Lib.hid (HK0.out.wr hw (by omega) (by decide))
  have HD1:=Lib.hid (DirsR.kept HD0.out hw.below)
  have HZ1:=Lib.hid (InpsR.kept HZ0.out hw.below)
  clear hp hw
  clear y0 y1 y2 y3 y4 y5 y6
  have y0:=HK1.out.cell 0 _ rfl
  have y1:=HK1.out.cell 1 _ rfl
  have y2:=HK1.out.cell 2 _ rfl
  have y3:=HK1.out.cell 3 _ rfl
  have y4:=HK1.out.cell 4 _ rfl
  have y5:=HK1.out.cell 5 _ rfl
  have y6:=HK1.out.cell 6 _ rfl
  go_wp2_with fail
  refine (zK7 B b HO.out x.dirs HF.out.2.1 x.inputs zi3 (fun y hy f W hR => zC6 B b HO.out y (HF.out.2.2.2.2 y hy) f W hR) _ _ _ _ HD1.out HZ1.out HP1.out (HL.out.kept HW1.out.below) (by have h1:=HLL.out; (try simp only [za6] at h1 ⊢); (try simp only [List.length_append] at h1 ⊢); (try simp only [List.length_cons] at h1 ⊢); (try simp only [List.length_append] at h1 ⊢); (try simp only [List.length_nil] at h1 ⊢); (try simp only [za4] at h1 ⊢); (try simp only [za2] at h1 ⊢); (try simp only [List.length_cons] at h1 ⊢); (try simp only [List.length_nil] at h1 ⊢); omega) (Nat.le_trans HBB.out HW1.out.below.size)).mono ?_
  rintro e w2 ⟨rfl,hp,hw⟩
  have HP2:=Lib.hid hp
  have HW2:=Lib.hid (HW1.out.trans hw)
  have HK2:=Lib.hid (HK1.out.wr hw (by omega) (by decide))
  have HD2:=Lib.hid (DirsR.kept HD1.out hw.below)
  have HZ2:=Lib.hid (InpsR.kept HZ1.out hw.below)
  clear hp hw
  clear y0 y1 y2 y3 y4 y5 y6
  have y0:=HK2.out.cell 0 _ rfl
  have y1:=HK2.out.cell 1 _ rfl
  have y2:=HK2.out.cell 2 _ rfl
  have y3:=HK2.out.cell 3 _ rfl
  have y4:=HK2.out.cell 4 _ rfl
  have y5:=HK2.out.cell 5 _ rfl
  have y6:=HK2.out.cell 6 _ rfl
  go_wp2_with fail
  go_end0
  exact ⟨rfl,by have h1:=HP2.out; (try simp only [List.append_assoc] at h1); (try simp only [List.append_nil] at h1); (try simp only [List.append_assoc]); (try simp only [List.append_nil]); exact h1,HW2.out⟩
 exfalso; omega
end Go.Proofs.YtfgelheiknmjgaaGreatDoor
namespace Go.Proofs.YtfgelheiknmjgaaGreatDoor
open Go.RowKit
theorem PB.fresh (w:World) (B:Nat) (hB:B ≤ w.heap.size):PB B w.heap.size [] (w.alloc (.cells #[.pointer none,.slice none 0 0] 77 (0,0))) :=
 .inl ⟨hB,_,heap_alloc_new _ _,⟨rfl,.inl ⟨rfl,rfl⟩⟩,by simp [Value.ownBlock]⟩
theorem Rd.shp {w:World} {B:Nat} {v:Value} {t:VT} (h:Rd w B v t):∃ (k n:Int) (s:ByteArray) (A:Option Addr) (li ci:Nat) (K:Option Addr) (lk ck:Nat),v = .agg #[.int .i64 k,.int .i64 n,.string s,.slice A li ci,.slice K lk ck]:=by
 cases h with
 | mk V => exact ⟨_,_,_,_,_,_,_,_,_,rfl⟩
def zF3 (l:List UInt8) (w:World) (e:Ending) (w':World):Prop:=e = .returned (.string ⟨l.toArray⟩) ∧ Below w.heap.size w w'
set_option maxRecDepth 100000 in
set_option maxHeartbeats 2000000 in
theorem zB7 (xs:List DefT) (hf:∀ x ∈ xs,zw1 x) (u:Value) (w:World) (h:DefsR w w.heap.size u xs) (hL:LaidB w.heap.size w) (hl:(zh7 xs).length ≤ 140737488355328) (hne:zh7 xs ≠ []) :
  Calls Tryz.prog 16 #[.agg #[u]] w (zF3 (zh7 xs) w):=by
 obtain ⟨A,c,rfl,_,_⟩:=h.form
 obtain ⟨n,hn⟩ : ∃ n,xs.length = n:=⟨_,rfl⟩
 rw [hn] at h ⊢
 have b1:=za0 w (.cells #[.slice A n c] 24 (0,0))
 have b2:Below w.heap.size w ((w.alloc (.cells #[.slice A n c] 24 (0,0))).alloc (.cells #[.pointer none,.slice none 0 0] 77 (0,0))):=b1.alloc b1.size _
 have HK:=Lib.hid (Bk.stay (Bk.new w #[.slice A n c] 24) (za0 _ (.cells #[.pointer none,.slice none 0 0] 77 (0,0))))
 have HP:=PB.fresh (w.alloc (.cells #[.slice A n c] 24 (0,0))) w.heap.size b1.size
 have CALL:=Lib.hid (zJ4 w.heap.size _ xs zg7 (fun x hx f W hR => zu8 _ _ (zz0 _ _) x (hf x hx) f W hR) ⟨#[10]⟩ _ [] _ (h.kept b2) HP (hL.kept b2) (by
  show 0 + (zh7 xs).length ≤ _
  omega) b2.size)
 have HB2:=Lib.hid b2
 have HNE:=Lib.hid hne
 have hsz:(w.alloc (.cells #[.slice A n c] 24 (0,0))).heap.size = w.heap.size + 1:=by simp
 rw [hsz] at CALL
 have y0:=HK.out.cell 0 _ rfl
 clear h hL hl hne b1 b2 HP hf hn hsz
 go_enter Tryz.func16, Tryz.ntmps16
 go_wp2_with fail
 refine CALL.out.mono ?_
 rintro e w1 ⟨rfl,hp,hw⟩
 have HP1:Hid (PB w.heap.size (w.heap.size + 1) (zh7 xs) w1):=Lib.hid hp
 have HW1:=Lib.hid (HB2.out.trans hw.below)
 clear hp hw CALL y0
 go_wp2_with fail
 refine (zv1 _ _ _ _ HP1.out HNE.out).mono ?_
 rintro e w2 ⟨rfl,hb⟩
 have HW2:=Lib.hid (HW1.out.trans hb)
 clear hb
 go_wp2_with fail
 go_ret
 exact ⟨rfl,HW2.out⟩
set_option maxRecDepth 100000 in
set_option maxHeartbeats 2000000 in
theorem zw6 (t:VT) (hf:t.fit) (v:Value) (w:World) (h:Rd w w.heap.size v t) (hL:LaidB w.heap.size w) (hl:t.src.length ≤ 140737488355328) (hne:t.src ≠ []) :
  Calls Tryz.prog 30 #[v] w (zF3 t.src w):=by
 obtain ⟨k,n,s,A,li,ci,K,lk,ck,rfl⟩:=h.shp
 have b1:=za0 w (.cells #[.int .i64 k,.int .i64 n,.string s,.slice A li ci,.slice K lk ck] 53 (0,0))
 have b2:Below w.heap.size w ((w.alloc (.cells #[.int .i64 k,.int .i64 n,.string s,.slice A li ci,.slice K lk ck] 53 (0,0))).alloc (.cells #[.pointer none,.slice none 0 0] 77 (0,0))):=b1.alloc b1.size _
 have HK:=Lib.hid (Bk.stay (Bk.new w #[.int .i64 k,.int .i64 n,.string s,.slice A li ci,.slice K lk ck] 53) (za0 _ (.cells #[.pointer none,.slice none 0 0] 77 (0,0))))
 have HP:=PB.fresh (w.alloc (.cells #[.int .i64 k,.int .i64 n,.string s,.slice A li ci,.slice K lk ck] 53 (0,0))) w.heap.size b1.size
 have CALL:=Lib.hid (zz0 w.heap.size (w.alloc (.cells #[.int .i64 k,.int .i64 n,.string s,.slice A li ci,.slice K lk ck] 53 (0,0))).heap.size t hf (fun j => (#[.int .i64 k,.int .i64 n,.string s,.slice A li ci,.slice K lk ck]:Array Value).getD j undef) _ (h.kept b2) [] HP (hL.kept b2) (by
  show 0 + t.src.length ≤ _
  omega) b2.size)
 have HB2:=Lib.hid b2
 have HNE:=Lib.hid hne
 have hsz:(w.alloc (.cells #[.int .i64 k,.int .i64 n,.string s,.slice A li ci,.slice K lk ck] 53 (0,0))).heap.size = w.heap.size + 1:=by simp
 rw [hsz] at CALL
 have y0:=HK.out.cell 0 _ rfl
 have y1:=HK.out.cell 1 _ rfl
 have y2:=HK.out.cell 2 _ rfl
 have y3:=HK.out.cell 3 _ rfl
 have y4:=HK.out.cell 4 _ rfl
 clear h hL hl hne b1 b2 HP hf hsz
 go_enter Tryz.func30, Tryz.ntmps30
 go_wp2_with fail
 refine CALL.out.mono ?_
 rintro e w1 ⟨rfl,hp,hw⟩
 have HP1:Hid (PB w.heap.size (w.heap.size + 1) t.src w1):=Lib.hid hp
 have HW1:=Lib.hid (HB2.out.trans hw.below)
 clear hp hw CALL y0 y1 y2 y3 y4
 go_wp2_with fail
 refine (zv1 _ _ _ _ HP1.out HNE.out).mono ?_
 rintro e w2 ⟨rfl,hb⟩
 have HW2:=Lib.hid (HW1.out.trans hb)
 clear hb
 go_wp2_with fail
 go_ret
 exact ⟨rfl,HW2.out⟩
end Go.Proofs.YtfgelheiknmjgaaGreatDoor
namespace Go.Proofs.YtfgelheiknmjgaaGreatDoor
open Go.RowKit
end Go.Proofs.YtfgelheiknmjgaaGreatDoor

