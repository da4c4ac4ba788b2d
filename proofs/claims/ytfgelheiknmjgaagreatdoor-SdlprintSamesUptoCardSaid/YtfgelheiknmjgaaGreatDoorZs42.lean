
/-
 Texts joined: YPrint N6.
-/
import Derived.Test.YtfgelheiknmjgaaGreatDoorZs41
import Derived.Test.YtfgelheiknmjgaaGreatDoorZs27
namespace Go.Proofs.YtfgelheiknmjgaaGreatDoor.K
open Go.RowKit Go.Shelf
attribute [local go_sem] Oper.semAt_some
theorem zw3 {W W':World} {row:Option Nat} {k:Nat} {c:Array Value} {e:TypeId} {f:Nat × Nat} (h:W.heap[k]? = some (.cells c e f)) (hg:W.grownBy W' row) (hr:∀ r,row = some r → ∃ o:Obj,W.heap[r]? = some o ∧ o.isCells = false):W'.heap[k]? = some (.cells c e f):=by
 have hlt:k < W.heap.size:=by
  rcases Nat.lt_or_ge k W.heap.size with h' | h'
  ·exact h'
  ·rw [Array.getElem?_eq_none h'] at h; cases h
 refine (hg.block k hlt (fun e => ?_)).trans h
 obtain ⟨o,ho,hc⟩:=hr k e.symm
 rw [h] at ho; cases ho; cases hc
theorem BD.any {B b:Nat} {l:List UInt8} {w w':World} (h:BD B b l w) (hb:∀ (k:Nat) (c:Array Value) (e:TypeId) (f:Nat × Nat),w.heap[k]? = some (Obj.cells c e f) → w'.heap[k]? = some (Obj.cells c e f)):BD B b l w':=by
 have key:∀ {p:Value},Lib.BuilderAtF 75 5 B b p (Lib.byteCells l) w → Lib.BuilderAtF 75 5 B b p (Lib.byteCells l) w':=by
  intro p h
  obtain ⟨hB,v,hbk,hown,hne⟩:=h
  refine ⟨hB,v,hb _ _ _ _ hbk,⟨hown.1,hown.2.imp id ?_⟩,hne⟩
  rintro ⟨g,cap,cur,fz,e1,e2,e3,r⟩
  exact ⟨g,cap,cur,fz,e1,e2,hb _ _ _ _ e3,r⟩
 exact h.imp key key
theorem BD.stay {B b:Nat} {l:List UInt8} {w w':World} (h:BD B b l w) (hb:Below w.heap.size w w'):BD B b l w' :=
 BD.any h fun k c e f hk => by
  have hlt:k < w.heap.size:=by
   rcases Nat.lt_or_ge k w.heap.size with h' | h'
   ·exact h'
   ·rw [Array.getElem?_eq_none h'] at hk; cases hk
  exact (hb.block k hlt).trans hk
theorem BD.lt {B b:Nat} {l:List UInt8} {w:World} (h:BD B b l w):b < w.heap.size:=by
 have key:∀ {p v:Value},w.heap[b]? = some (Obj.cells #[p,v] 75 (0,0)) → b < w.heap.size:=by
  intro p v hbk
  rcases Nat.lt_or_ge b w.heap.size with h' | h'
  ·exact h'
  ·rw [Array.getElem?_eq_none h'] at hbk; cases hbk
 rcases h with h | h
 ·obtain ⟨_,v,hbk,_⟩:=h; exact key hbk
 ·obtain ⟨_,v,hbk,_⟩:=h; exact key hbk
theorem BD.fresh (w:World):BD w.heap.size w.heap.size [] (w.alloc (.cells #[.pointer none,.slice none 0 0] 75 (0,0))) :=
 .inl ⟨Nat.le_refl _,.slice none 0 0,heap_alloc_new _ _,⟨rfl,.inl ⟨rfl,rfl⟩⟩,fun e => by cases e⟩
theorem zk4 {e:TypeId} {b B:Nat} {W W':World} (h:Lib.OthersKept e (some b) W W') (hs:W.heap.size ≤ W'.heap.size) (hb:b < B):KeepsFrom B W W' :=
 ⟨hs,fun k o hk ho hc => h k o ho (fun e => by cases e; omega) (fun c fz e => by subst e; cases hc)⟩
theorem pr_app (n:List UInt8) (xs:Ws):prL n xs = List.replicate (strL xs).length 91 ++ n ++ (bwL xs xs.length).map (fun p => endB p.2):=by
 unfold prL; rw [← bw_all,List.map_map]; rfl
theorem rep_eq (k:Nat):Lib.repeatL [91] k = List.replicate k (91:UInt8):=by
 induction k with
 | zero => rfl
 | succ k ih => first | (simp [Lib.repeatL,List.replicate_succ] at *; done) | (rw [List.replicate_succ, ← ih]; rfl)
set_option maxRecDepth 100000 in
set_option maxHeartbeats 2000000 in
theorem zI8 (n:ByteArray) (xs:Ws) (v:Value) (w:World) (h:RefV w w.heap.size v n xs) (hn:n.size ≤ 1000000000) (hl:xs.length ≤ 900000):Calls Tryz.prog 133 #[v] w fun e w' => e = .returned (.string ⟨(prL n.data.toList xs).toArray⟩) ∧ Below w.heap.size w w':=by
 refine (callsIn_wide (n:=5)).1 ?_
 obtain ⟨A,c,rfl,hc,hi⟩:=h
 have X:Hid (BxR (w.alloc (.cells #[.string n,.slice A xs.length c] 44 (0,0))) w.heap.size (.string n) (.slice A xs.length c)):=Lib.hid (BxR.new w _ _)
 have hb0:=(Below.refl w.heap.size w).alloc (Nat.le_refl _) (.cells #[.string n,.slice A xs.length c] 44 (0,0))
 have HC:=Lib.hid hc
 have HL:=Lib.hid hl
 have HN:=Lib.hid hn
 have I:=Lib.hid (hi.stay hb0)
 have B0:=Lib.hid hb0
 have I00:=Lib.hid hi
 clear hc hi hl hn hb0
 refine callsIn_of_wp_marks Tryz.func133 rfl trivial ?_ rfl
 simp only [Tryz.ntmps133,List.size_toArray,List.length_cons,List.length_nil,Nat.reduceAdd,Nat.reduceSub,Array.replicate_succ,Array.replicate_zero,List.push_toArray,List.append_toArray,List.nil_append,List.cons_append]
 gi_wp2_with fail
 have hb1:=(Below.refl (w.heap.size + 1) (w.alloc (.cells #[.string n,.slice A xs.length c] 44 (0,0)))).alloc (by simp) (.cells #[.pointer none,.slice none 0 0] 75 (0,0))
 have BDF:=Lib.hid (BD.fresh (w.alloc (.cells #[.string n,.slice A xs.length c] 44 (0,0))))
 have hz:(w.alloc (.cells #[.string n,.slice A xs.length c] 44 (0,0))).heap.size = w.heap.size + 1:=by simp
 have HB1:=Lib.hid hb1
 rw [hz] at BDF
 have HZ:=Lib.hid hz
 clear hb1 hz
 generalize (w.alloc (.cells #[.string n,.slice A xs.length c] 44 (0,0))) = W0 at *
 have I1:Hid (IntsAt (W0.alloc (.cells #[.pointer none,.slice none 0 0] 75 (0,0))) (W0.alloc (.cells #[.pointer none,.slice none 0 0] 75 (0,0))).heap.size A xs):=Lib.hid (I.out.stay ((Below.refl _ _).alloc (Nat.le_refl _) _))
 have hsz:w.heap.size + 1 ≤ W0.heap.size:=by have:=HZ.out; omega
 have X1:Hid (BxR (W0.alloc (.cells #[.pointer none,.slice none 0 0] 75 (0,0))) w.heap.size (.string n) (.slice A xs.length c)):=Lib.hid (X.out.alloc _)
 have B1:Hid (Below w.heap.size w (W0.alloc (.cells #[.pointer none,.slice none 0 0] 75 (0,0)))):=Lib.hid (B0.out.alloc B0.out.size _)
 have BW:Hid (w.heap.size + 1 < (W0.alloc (.cells #[.pointer none,.slice none 0 0] 75 (0,0))).heap.size):=Lib.hid (by have:=HZ.out; simp; omega)
 clear hsz HB1 X I B0
 generalize (W0.alloc (.cells #[.pointer none,.slice none 0 0] 75 (0,0))) = W1 at *
 have hcall:=zI7 xs (.slice A xs.length c) W1 ⟨A,c,rfl,HC.out,I1.out⟩ HL.out
 have hpl:=zL5 xs
 have hpr:=pr_app n.data.toList xs
 generalize strL xs = ss at hcall hpl hpr
 refine ⟨trivial,(callsIn_wide.2 hcall).mono ?_⟩
 clear hcall
 rintro e w2 ⟨⟨u,rfl,A2,c2,rfl,_,_⟩,hb2⟩
 have HPL:=Lib.hid hpl
 have HPR:=Lib.hid hpr
 replace BDF:=Lib.hid (BD.stay BDF.out hb2)
 have I2:=Lib.hid (I1.out.stay hb2)
 replace X1:=Lib.hid (X1.out.stay hb2)
 replace B1:=Lib.hid (B1.out.trans (hb2.mono B1.out.size))
 replace BW:=Lib.hid (Nat.lt_of_lt_of_le BW.out hb2.size)
 clear hb2 hpl hpr I1
 gi_wp2_with fail
 refine ⟨trivial,(callsIn_wide.2 (Tryz.strings_Repeat ⟨#[91]⟩ ss.length _ (by have:=HPL.out; have:=HL.out; omega) (by have:=HPL.out; have:=HL.out; show 1 * _ ≤ _; omega))).mono ?_⟩
 rintro e w3 ⟨rfl,hb2⟩
 rw [show Lib.repeatL (⟨#[91]⟩ : ByteArray).data.toList ss.length = List.replicate ss.length 91 from rep_eq _]
 replace BDF:=Lib.hid (BD.stay BDF.out hb2)
 replace I2:=Lib.hid (I2.out.stay hb2)
 replace X1:=Lib.hid (X1.out.stay hb2)
 replace B1:=Lib.hid (B1.out.trans (hb2.mono B1.out.size))
 replace BW:=Lib.hid (Nat.lt_of_lt_of_le BW.out hb2.size)
 clear hb2
 have HRS:Hid ((⟨(List.replicate ss.length (91:UInt8)).toArray⟩ : ByteArray).size = ss.length):=Lib.hid (by show (List.replicate ss.length (91:UInt8)).toArray.size = _; simp)
 have HRD:Hid ((⟨(List.replicate ss.length (91:UInt8)).toArray⟩ : ByteArray).data.toList = List.replicate ss.length 91):=Lib.hid (by simp)
 generalize (⟨(List.replicate ss.length (91:UInt8)).toArray⟩ : ByteArray) = rs at *
 gi_wp2_with fail
 refine ⟨trivial,(callsIn_wide.2 (ze9 (w.heap.size + 1) (w.heap.size + 1) [] rs w3 BDF.out (by have:=HRS.out; have:=HPL.out; have:=HL.out; simp; omega) (by have:=BW.out; omega))).mono ?_⟩
 rintro e w4 ⟨rfl,hbd,hb2,hoth⟩
 replace BDF:=Lib.hid hbd
 replace X1:=Lib.hid (X1.out.kept (hb2.block _ (Nat.lt_succ_self _)))
 replace B1:=Lib.hid (B1.out.trans (hb2.mono (Nat.le_succ _)))
 replace BW:=Lib.hid (Nat.lt_of_lt_of_le BW.out hb2.size)
 have q0:=X1.out.cells.1
 have q1:=X1.out.cells.2
 clear hbd hb2 hoth I2
 gi_wp2_with fail
 refine ⟨trivial,(callsIn_wide.2 (ze9 (w.heap.size + 1) (w.heap.size + 1) _ n w4 BDF.out (by have:=HRS.out; have:=HRD.out; have:=HPL.out; have:=HL.out; have:=HN.out; simp only [List.nil_append]; rw [HRD.out,List.length_replicate]; omega) (by have:=BW.out; omega))).mono ?_⟩
 rintro e w5 ⟨rfl,hbd,hb2,hoth⟩
 replace BDF:=Lib.hid hbd
 replace X1:=Lib.hid (X1.out.kept (hb2.block _ (Nat.lt_succ_self _)))
 replace B1:=Lib.hid (B1.out.trans (hb2.mono (Nat.le_succ _)))
 replace BW:=Lib.hid (Nat.lt_of_lt_of_le BW.out hb2.size)
 replace q0:=X1.out.cells.1
 replace q1:=X1.out.cells.2
 clear hbd hb2 hoth
 gi_wp2_with fail
 refine ⟨trivial,(bwd_in Fence.wide _ trivial rfl _ _ _ _).mono ?_⟩
 rintro e w6 ⟨rfl,hw6⟩
 have hbx:w6.heap[w5.heap.size]? = some (Obj.cells #[.slice A xs.length c] 42 (0,0)):=by rw [hw6]; exact heap_alloc_new _ _
 have hb6:Below w5.heap.size w5 w6:=by rw [hw6]; exact (Below.refl _ _).alloc (Nat.le_refl _) _
 have hs6:w6.heap.size = w5.heap.size + 1:=by rw [hw6]; simp
 clear hw6 q0 q1
 replace BDF:=Lib.hid (BD.stay BDF.out hb6)
 replace B1:=Lib.hid (B1.out.trans (hb6.mono B1.out.size))
 have HBX:=Lib.hid hbx
 have HS6:=Lib.hid hs6
 clear hbx hb6 hs6 X1
 gi_wp2_with fail
 have HI6:Hid (IntsAt w6 w.heap.size A xs):=Lib.hid (I00.out.kept B1.out)
 have hcb:w6.cell? ⟨w5.heap.size,0,none⟩ = some (.slice A xs.length c):=by
  rw [cell_of_row _ _ _ _ _ _ HBX.out]; rfl
 have HCB:=Lib.hid hcb
 have HBL:Hid (([] ++ rs.data.toList ++ n.data.toList:List UInt8).length ≤ 1000900000):=Lib.hid (by
  rw [List.nil_append,List.length_append,HRD.out,List.length_replicate,T1.zb8]; have:=HPL.out; have:=HL.out; have:=HN.out; omega)
 clear hcb
 generalize hbs:([] ++ rs.data.toList ++ n.data.toList:List UInt8) = base at *
 have HBS:=Lib.hid hbs
 clear hbs
 refine wpIn_rangeFunc_ownG rfl (by omega) (gf := 214) (lb:=#[.pointer (some ⟨w5.heap.size,0,none⟩)]) rfl trivial (enters_of Tryz.func214 (by kernel_rfl) rfl)
  (zT7 Fence.wide (5 - 1) trivial rfl (by omega) w5.heap.size w.heap.size A c xs (by have:=HL.out; omega) w6 (by have:=HS6.out; omega) B1.out.size HCB.out HI6.out) KpB.trans (fun W l o o' hl ho hc hwk => ⟨belowK_b (w:=w6) B1.out.size W l o o' hl ho hc hwk,World.putObj_heap_other (fun e => by have:=HS6.out; omega)⟩) (Below.refl _ _) (fun _ => rfl)
  (fun pre W => (BD (w.heap.size + 1) (w.heap.size + 1) (base ++ pre.map (fun p => endB p.2)) W ∧ W.heap[w5.heap.size]? = some (Obj.cells #[.slice A xs.length c] 42 (0,0))) ∧ Below w.heap.size w W)
  (fun _ _ _ => False)
  (OwnFrom.and (fun s W W' row hs hg hr => ⟨BD.any hs.1 (fun k c e f hk => zw3 hk hg (fun r e => (hr r e).2)),zw3 hs.2 hg (fun r e => (hr r e).2)⟩) (ownFrom_below (Nat.le_refl _) B1.out.size))
  (fun _ _ _ _ _ hs _ _ => hs)
  ⟨⟨by rw [List.map_nil,List.append_nil]; exact BDF.out,HBX.out⟩,B1.out⟩
  (fun x => { tmps:=#[.agg #[.string n,.slice A xs.length c],.pointer (some ⟨w.heap.size,0,none⟩),.string ⟨#[]⟩,.pointer (some ⟨w.heap.size + 1,0,none⟩),undef,.int .i64 x.2,.pointer (some ⟨w.heap.size,1,none⟩),.slice A xs.length c,.slice A2 ss.length c2,.int .i64 ss.length,.string rs,.tuple #[.int .i64 rs.size,.nilIface],.pointer (some ⟨w.heap.size,0,none⟩),.string n,.tuple #[.int .i64 n.size,.nilIface],.pointer (some ⟨w.heap.size,1,none⟩),.slice A xs.length c,.func (.func 214) #[] #[.pointer (some ⟨w5.heap.size,0,none⟩)],.int .i64 x.1,.int .i64 x.2,undef,undef,undef,undef,undef],defers:=[] }) ?assign ?body ?done ?stop
 case assign =>
  intro l x W K hK
  gi_wp2
  exact hK
 case body =>
  rintro l pre x W ⟨⟨hbd,hbx⟩,hB⟩ hlen
  have hpl:pre.length ≤ 900000:=by have:=HL.out; omega
  by_cases hx:x.2 = 1
  ·have HX:=Lib.hid hx
   have hxb:(x.2 == 1) = true:=by simp [hx]
   clear hx
   gi_wp2_with fail
   refine ⟨trivial,(CallsIn.inRound l (callsIn_wide.2 (ze9 (w.heap.size + 1) (w.heap.size + 1) _ ⟨#[33]⟩ W hbd (by have h5:=HBL.out; have h6:=HL.out; simp only [List.length_append,List.length_map]; show _ + 1 ≤ _; omega) (by have:=BD.lt hbd; omega)))).mono ?_⟩
   rintro e W2 ⟨rfl,hbd2,hb2,hoth⟩
   have HBD2:=Lib.hid hbd2
   have HB2:=Lib.hid hb2
   have HO2:=Lib.hid hoth
   have HBDX:=Lib.hid hbx
   have HBB:=Lib.hid hB
   clear hbd2 hb2 hoth hbx hB hbd
   gi_wp2_with fail
   refine ⟨zk4 HO2.out HB2.out.size (by have:=BW.out; have:=HS6.out; omega),⟨HB2.out.mono (Nat.le_succ _),(HO2.out _ _ HBDX.out (fun e => by have:=BW.out; have h8:=Option.some.inj e; omega) (fun c fz e => by injection e with _ e2 _; exact absurd e2 (by decide))).trans HBDX.out.symm⟩,⟨?_,HO2.out _ _ HBDX.out (fun e => by have:=BW.out; have h8:=Option.some.inj e; omega) (fun c fz e => by injection e with _ e2 _; exact absurd e2 (by decide))⟩,HBB.out.trans (HB2.out.mono (Nat.le_succ _))⟩
   have h7:=HBD2.out
   rw [List.map_append, ← List.append_assoc]
   rw [show List.map (fun p:Int × Int => endB p.2) [x] = [33] by show [endB x.2] = _; unfold endB; rw [if_pos HX.out]]
   exact h7
  ·have HX:=Lib.hid hx
   have hxb:(x.2 == 1) = false:=by simp [hx]
   clear hx
   gi_wp2_with fail
   refine ⟨trivial,(CallsIn.inRound l (callsIn_wide.2 (ze9 (w.heap.size + 1) (w.heap.size + 1) _ ⟨#[93]⟩ W hbd (by have h5:=HBL.out; have h6:=HL.out; simp only [List.length_append,List.length_map]; show _ + 1 ≤ _; omega) (by have:=BD.lt hbd; omega)))).mono ?_⟩
   rintro e W2 ⟨rfl,hbd2,hb2,hoth⟩
   have HBD2:=Lib.hid hbd2
   have HB2:=Lib.hid hb2
   have HO2:=Lib.hid hoth
   have HBDX:=Lib.hid hbx
   have HBB:=Lib.hid hB
   clear hbd2 hb2 hoth hbx hB hbd
   gi_wp2_with fail
   refine ⟨zk4 HO2.out HB2.out.size (by have:=BW.out; have:=HS6.out; omega),⟨HB2.out.mono (Nat.le_succ _),(HO2.out _ _ HBDX.out (fun e => by have:=BW.out; have h8:=Option.some.inj e; omega) (fun c fz e => by injection e with _ e2 _; exact absurd e2 (by decide))).trans HBDX.out.symm⟩,⟨?_,HO2.out _ _ HBDX.out (fun e => by have:=BW.out; have h8:=Option.some.inj e; omega) (fun c fz e => by injection e with _ e2 _; exact absurd e2 (by decide))⟩,HBB.out.trans (HB2.out.mono (Nat.le_succ _))⟩
   have h7:=HBD2.out
   rw [List.map_append, ← List.append_assoc]
   rw [show List.map (fun p:Int × Int => endB p.2) [x] = [93] by show [endB x.2] = _; unfold endB; rw [if_neg HX.out]]
   exact h7
 case done =>
  rintro D ys W hD rfl ⟨⟨hbd,hbx⟩,hB⟩ hK
  have HB:=Lib.hid hB
  have HK:=Lib.hid hK
  have HD:=Lib.hid hD
  have hbl:=BD.lt hbd
  have hstr:=Tryz.Builder_String_any_k (w.heap.size + 1) (w.heap.size + 1) _ W hbd (by omega)
  rw [show base ++ List.map (fun p:Int × Int => endB p.2) (bwL xs xs.length) = prL n.data.toList xs by rw [HPR.out, ← HRD.out, ← HBS.out,List.nil_append]] at hstr
  clear hbd hbx hB hK hD hbl
  generalize hout:(⟨(prL n.data.toList xs).toArray⟩ : ByteArray) = out at *
  have HOUT:=Lib.hid hout
  clear hout
  gi_wp2_with fail
  refine ⟨trivial,(callsIn_wide.2 hstr).mono ?_⟩
  rintro e W2 ⟨rfl,hbd2,hb2,hoth⟩
  have hK2:W2.heap[D]? = some (.deferred (some [])):=hoth _ _ HK.out (fun e => by have:=BW.out; have:=HS6.out; have:=HD.out; have h8:=Option.some.inj e; omega) (fun c fz e => by cases e)
  have HK2:=Lib.hid hK2
  have HB2:=Lib.hid (HB.out.trans (hb2.mono (Nat.le_succ _)))
  clear hstr hbd2 hb2 hoth hK2
  gi_wp2_with fail
  refine ⟨by simp,.inl ⟨_,_,rfl,run_takeDeferred HK2.out, ?_⟩⟩
  exact ⟨_,results_tmp rfl _ _ _,by rw [HOUT.out]; rfl,HB2.out.trans (belowK_b (w:=w) (Nat.le_refl _) W2 D _ _ (by have:=BW.out; have:=HS6.out; have:=HD.out; omega) HK2.out rfl rfl)⟩
 case stop =>
  rintro D c pre W _ _ h _
  exact h.elim
def zF3 (l:List UInt8) (w:World) (e:Ending) (w':World):Prop:=e = .returned (.string ⟨l.toArray⟩) ∧ Below w.heap.size w w'
theorem pr_len (n:List UInt8) (xs:Ws):(prL n xs).length ≤ n.length + 2 * xs.length:=by
 unfold prL; rw [List.length_append,List.length_append,List.length_replicate,List.length_map,List.length_reverse]; have:=zL5 xs; omega
end Go.Proofs.YtfgelheiknmjgaaGreatDoor.K
namespace Go.Proofs.YtfgelheiknmjgaaGreatDoor
open Go.RowKit
def rfFit (n:ByteArray) (ws:List Int):Prop:=n.size ≤ 1000 ∧ ws.length ≤ 1000
def zQ7 (x:InpT):Prop:=rfFit x.tn x.tw ∧ (x.has = true → x.dflt.fit) ∧ zg6 x.dirs
theorem zn2 (B:Nat) (n:ByteArray) (ws:List Int) (hf:rfFit n ws) (w:World) (c0 c1:Value) (h:RfR w B c0 c1 n ws) (hB:B ≤ w.heap.size) :
  Calls Tryz.prog 133 #[.agg #[c0,c1]] w fun e w' => e = .returned (.string ⟨(zk8 n ws).toArray⟩) ∧ Below w.heap.size w w' :=
 K.zI8 n ws _ w ((zk7 h).mono hB) (by have:=hf.1; omega) (by have:=hf.2; omega)
theorem zH5:∀ (args:Array Value) (w:World),(callFunc 133 args).run Tryz.prog w = .ok (.enter 133 args) w:=enters_of Tryz.func133 (by kernel_rfl) rfl
theorem en_put:∀ (args:Array Value) (w:World),(callFunc 61 args).run Tryz.prog w = .ok (.enter 61 args) w:=enters_of Tryz.func61 (by kernel_rfl) rfl
def npvI (b g:Nat) (nm:ByteArray) (rf:Value) (out:ByteArray):Nat → Option Value
 | 0 => some (pp b)
 | 1 => some (.pointer (some ⟨g,0,none⟩))
 | 2 => some (.string nm)
 | 3 => some (.pointer (some ⟨g,1,none⟩))
 | 4 => some rf
 | 5 => some (.string out)
 | _ => none
set_option maxRecDepth 100000 in
set_option maxHeartbeats 4000000 in
theorem zC6 (B b:Nat) (hO:ValOk B b) (x:InpT) (hf:zQ7 x) (f:Nat → Value) (w:World) (h:InpR w B f x):ze4 B b w 69 (.agg #[f 0,f 1,f 2,f 3,f 4,f 5,f 6,f 7,f 8,f 9]) (zi3 x):=by
 intro l hp hL hl hB
 obtain ⟨k,n,s,VA,vli,vci,VK,vlk,vck,e4,e5,e6,e7,e8⟩:=Rd.form h.val
 obtain ⟨A2,c2,e2,_,_⟩:=h.type.wraps.form
 obtain ⟨A9,c9,e9,_,_⟩:=h.dirs.form
 have hv:=h.val
 have ht:=h.type
 have hd:=h.dirs
 rw [h.name,h.type.name,e2,h.has,e4,e5,e6,e7,e8,e9]
 rw [e4,e5,e6,e7,e8] at hv
 rw [h.type.name,e2] at ht
 rw [e9] at hd
 clear e2 e4 e5 e6 e7 e8 e9 h
 generalize x.tw.length = n2 at ht ⊢
 generalize x.dirs.length = n9 at hd ⊢
 have HO:=Lib.hid hO
 have HF:=Lib.hid hf
 clear hO hf
 obtain ⟨hs,hhs⟩ : ∃ hs,x.has = hs:=⟨_,rfl⟩
 unfold zi3 at hl ⊢
 rw [hhs] at hl ⊢
 have HHS:=Lib.hid hhs
 clear hhs
 cases hs with
 | true =>
   have HV0:=Lib.hid (hv.kept (za0 w (.cells #[.string x.name,.string x.tn,.slice A2 n2 c2,.bool true,.int .i64 k,.int .i64 n,.string s,.slice VA vli vci,.slice VK vlk vck,.slice A9 n9 c9] 55 (0,0)) |>.mono hB))
   have HT0:=Lib.hid (ht.kept (za0 w (.cells #[.string x.name,.string x.tn,.slice A2 n2 c2,.bool true,.int .i64 k,.int .i64 n,.string s,.slice VA vli vci,.slice VK vlk vck,.slice A9 n9 c9] 55 (0,0)) |>.mono hB))
   have HD0:=Lib.hid (hd.kept (za0 w (.cells #[.string x.name,.string x.tn,.slice A2 n2 c2,.bool true,.int .i64 k,.int .i64 n,.string s,.slice VA vli vci,.slice VK vlk vck,.slice A9 n9 c9] 55 (0,0)) |>.mono hB))
   clear hv ht hd
   rw [if_pos rfl] at hl ⊢
   have HW0:Hid (Wr B b w (w.alloc (.cells #[.string x.name,.string x.tn,.slice A2 n2 c2,.bool true,.int .i64 k,.int .i64 n,.string s,.slice VA vli vci,.slice VK vlk vck,.slice A9 n9 c9] 55 (0,0)))):=Lib.hid ((Wr.refl B b w).alloc hB _)
   have HP0:=Lib.hid (hp.alloc (.cells #[.string x.name,.string x.tn,.slice A2 n2 c2,.bool true,.int .i64 k,.int .i64 n,.string s,.slice VA vli vci,.slice VK vlk vck,.slice A9 n9 c9] 55 (0,0)))
   have HK0:=Lib.hid (Bk.new w #[.string x.name,.string x.tn,.slice A2 n2 c2,.bool true,.int .i64 k,.int .i64 n,.string s,.slice VA vli vci,.slice VK vlk vck,.slice A9 n9 c9] 55)
   have HL:=Lib.hid hL
   have HLL:=Lib.hid hl
   have HBB:=Lib.hid hB
   have hbw:=hp.lt
   clear hL hl hB hp
   have CALL0:=fun (W:World) (hW:Below B (w.alloc (.cells #[.string x.name,.string x.tn,.slice A2 n2 c2,.bool true,.int .i64 k,.int .i64 n,.string s,.slice VA vli vci,.slice VK vlk vck,.slice A9 n9 c9] 55 (0,0))) W) (hz:B ≤ W.heap.size) => zn2 B x.tn x.tw HF.out.1 W _ _ (HT0.out.kept hW) hz
   have CALLP:=Lib.hid CALL0
   clear CALL0
   generalize hrf:zk8 x.tn x.tw = out at *
   obtain ⟨o,rfl⟩ : ∃ o:ByteArray,o.data.toList = out:=⟨⟨out.toArray⟩,by simp⟩
   have ho2:(⟨o.data.toList.toArray⟩ : ByteArray) = o:=by cases o; simp
   rw [ho2] at CALLP
   clear hrf ho2
   have hob:o.data.toList = bL o:=rfl
   rw [hob] at HLL ⊢
   clear hob
   go_enter Tryz.func69, Tryz.ntmps69
   go_wp2_with fail
   have B0:Hid (Below w.heap.size w ((w.alloc (.cells #[.string x.name,.string x.tn,.slice A2 n2 c2,.bool true,.int .i64 k,.int .i64 n,.string s,.slice VA vli vci,.slice VK vlk vck,.slice A9 n9 c9] 55 (0,0))).drew)):=Lib.hid ((za0 w _).trans (Below.drew (Below.refl _ _)))
   have HPD:Hid (PB B b l ((w.alloc (.cells #[.string x.name,.string x.tn,.slice A2 n2 c2,.bool true,.int .i64 k,.int .i64 n,.string s,.slice VA vli vci,.slice VK vlk vck,.slice A9 n9 c9] 55 (0,0))).drew)):=Lib.hid HP0.out
   have HWD:Hid (Wr B b w ((w.alloc (.cells #[.string x.name,.string x.tn,.slice A2 n2 c2,.bool true,.int .i64 k,.int .i64 n,.string s,.slice VA vli vci,.slice VK vlk vck,.slice A9 n9 c9] 55 (0,0))).drew)):=Lib.hid (HW0.out.trans (Wr.of (Nat.le_trans HBB.out HW0.out.below.size) (Below.drew (Below.refl _ _))))
   have HKD:Hid (Bk ((w.alloc (.cells #[.string x.name,.string x.tn,.slice A2 n2 c2,.bool true,.int .i64 k,.int .i64 n,.string s,.slice VA vli vci,.slice VK vlk vck,.slice A9 n9 c9] 55 (0,0))).drew) w.heap.size #[.string x.name,.string x.tn,.slice A2 n2 c2,.bool true,.int .i64 k,.int .i64 n,.string s,.slice VA vli vci,.slice VK vlk vck,.slice A9 n9 c9] 55):=Lib.hid HK0.out
   have HVD:Hid (Rd ((w.alloc (.cells #[.string x.name,.string x.tn,.slice A2 n2 c2,.bool true,.int .i64 k,.int .i64 n,.string s,.slice VA vli vci,.slice VK vlk vck,.slice A9 n9 c9] 55 (0,0))).drew) B (.agg #[.int .i64 k,.int .i64 n,.string s,.slice VA vli vci,.slice VK vlk vck]) x.dflt):=Lib.hid (HV0.out.kept ((Below.drew (Below.refl _ _)).mono (Nat.le_trans HBB.out HW0.out.below.size)))
   have HDD:Hid (DirsR ((w.alloc (.cells #[.string x.name,.string x.tn,.slice A2 n2 c2,.bool true,.int .i64 k,.int .i64 n,.string s,.slice VA vli vci,.slice VK vlk vck,.slice A9 n9 c9] 55 (0,0))).drew) B (.slice A9 n9 c9) x.dirs):=Lib.hid (HD0.out.kept ((Below.drew (Below.refl _ _)).mono (Nat.le_trans HBB.out HW0.out.below.size)))
   have CP2:Hid (∀ W:World,Below B ((w.alloc (.cells #[.string x.name,.string x.tn,.slice A2 n2 c2,.bool true,.int .i64 k,.int .i64 n,.string s,.slice VA vli vci,.slice VK vlk vck,.slice A9 n9 c9] 55 (0,0))).drew) W → B ≤ W.heap.size → Calls Tryz.prog 133 #[.agg #[.string x.tn,.slice A2 n2 c2]] W fun e w' => e = .returned (.string o) ∧ Below W.heap.size W w'):=Lib.hid fun W hW hz => CALLP.out W (((Below.drew (Below.refl _ _)).mono (Nat.le_trans HBB.out HW0.out.below.size)).trans hW) hz
   clear CALLP HP0 HW0 HK0 HV0 HD0 HT0
   have hz0:B ≤ ((w.alloc (.cells #[.string x.name,.string x.tn,.slice A2 n2 c2,.bool true,.int .i64 k,.int .i64 n,.string s,.slice VA vli vci,.slice VK vlk vck,.slice A9 n9 c9] 55 (0,0))).drew).heap.size:=by have:=B0.out.size; have:=HBB.out; omega
   obtain ⟨W,hW⟩ : ∃ W,(w.alloc (.cells #[.string x.name,.string x.tn,.slice A2 n2 c2,.bool true,.int .i64 k,.int .i64 n,.string s,.slice VA vli vci,.slice VK vlk vck,.slice A9 n9 c9] 55 (0,0))).drew = W:=⟨_,rfl⟩
   rw [hW] at B0 HPD HWD HKD HVD HDD CP2 hz0
   have hKb:w.heap.size < W.heap.size:=HKD.out.lt
   refine zn4 (pv:=npvI b w.heap.size x.name (.agg #[.string x.tn,.slice A2 n2 c2]) o) (b:=5) (c:=6) (e:=7) (x:=100) (C:=fun w1 => Below W.heap.size W w1)
    (G:=fun u w2 => ∃ w1,Below W.heap.size W w1 ∧ u = .slice (some ⟨w1.heap.size,0,none⟩) 3 3 ∧ w2 = w1.alloc (.cells #[.string x.name,.string ⟨#[58,32]⟩,.string o] 9 (0,0)))
    (E:=fun u w3 => u = .tuple #[] ∧ PB B b (l ++ (bL x.name ++ (bL ⟨#[58,32]⟩ ++ bL o))) w3 ∧ Wr B b W w3) (by kernel_rfl) (by kernel_rfl) (by kernel_rfl) ⟨by decide,by decide,by decide,by decide,by decide,by decide,rfl,rfl,rfl,by decide,by decide,by decide⟩ ?_ ?_ ?_ ?_ ?_ ?_ ?_ ?_ ?_
   ·intro o ho d _ hall; cases ho; exact hall ⟨5,.data⟩ (by simp) rfl
   ·intro o ho; cases ho; exact ⟨⟨6,.data⟩,by simp,rfl,rfl⟩
   ·intro o ho; cases ho
   ·intro i o ho q1 q2 q3 q4 d a w2 hf hcl hdi _ had hw
    rw [hW] at hw
    have hi:i < 8:=(Array.getElem?_eq_some_iff.1 ho).1
    have hc:i = 0 ∨ i = 1 ∨ i = 2 ∨ i = 3 ∨ i = 4:=by omega
    have hbx:(d 2 = false ∨ d 4 = false) → Bk w2 w.heap.size #[.string x.name,.string x.tn,.slice A2 n2 c2,.bool true,.int .i64 k,.int .i64 n,.string s,.slice VA vli vci,.slice VK vlk vck,.slice A9 n9 c9] 55 := by
     intro hd24
     rcases hw with rfl | hb | ⟨u,w1,hb,_,rfl⟩ | ⟨hde,_⟩
     ·exact HKD.out
     ·exact HKD.out.stay hb
     ·exact (HKD.out.stay hb).stay (za0 _ _)
     ·have d6:d 6 = true:=hcl 7 _ rfl hde ⟨6,.data⟩ (by simp) rfl
      have d2:d 2 = true:=hcl 6 _ rfl d6 ⟨2,.data⟩ (by simp) rfl
      have d5:d 5 = true:=hcl 6 _ rfl d6 ⟨5,.data⟩ (by simp) rfl
      have d4:d 4 = true:=hcl 5 _ rfl d5 ⟨4,.data⟩ (by simp) rfl
      rcases hd24 with h | h
      ·rw [d2] at h; cases h
      ·rw [d4] at h; cases h
    rcases hc with rfl | rfl | rfl | rfl | rfl
    ·cases ho
     have hx:a.eval (.tmp 0) = pp b:=K.Fr.slot hf 0 (by kernel_rfl)
     exact zO3 rfl (.tmp 0) rfl hx ⟨rfl,fun z hz => by cases hz; rfl⟩
    ·cases ho
     have hx:a.eval (.tmp 3) = .pointer (some ⟨w.heap.size,0,none⟩):=K.Fr.slot hf 3 (by kernel_rfl)
     exact zO5 rfl (.tmp 3) rfl hx ⟨rfl,fun z hz => by cases hz; rfl⟩
    ·cases ho
     have hx:a.eval (.tmp 5) = .pointer (some ⟨w.heap.size,0,none⟩):=had ⟨1,.data⟩ (by simp) rfl _ rfl
     have h0:=(hbx (.inl hdi)).cell 0 _ rfl
     exact op_ldS rfl (.tmp 5) rfl hx h0 ⟨rfl,fun z hz => by cases hz; rfl⟩
    ·cases ho
     have hx:a.eval (.tmp 3) = .pointer (some ⟨w.heap.size,0,none⟩):=K.Fr.slot hf 3 (by kernel_rfl)
     exact zO4 rfl (.tmp 3) rfl hx ⟨rfl,fun z hz => by cases hz; rfl⟩
    ·cases ho
     have hx:a.eval (.tmp 7) = .pointer (some ⟨w.heap.size,1,none⟩):=had ⟨3,.data⟩ (by simp) rfl _ rfl
     have h1:=(hbx (.inr hdi)).cell 1 _ rfl
     have h2:=(hbx (.inr hdi)).cell 2 _ rfl
     exact op_ldR rfl (.tmp 7) rfl hx h1 h2 ⟨rfl,fun z hz => by cases hz; rfl⟩
   ·intro o' ho a hf had
    cases ho
    rw [hW]
    have h4:K.vof _ a 4 = .agg #[.string x.tn,.slice A2 n2 c2]:=had ⟨4,.data⟩ (by simp) rfl _ rfl
    refine zj4 rfl _ _ _ rfl zH5 #[.agg #[.string x.tn,.slice A2 n2 c2]] (by rw [K.map1,show a.eval (.tmp 8) = _ from h4]) ?_
    refine (CP2.out _ (Below.refl _ _) hz0).mono ?_
    rintro e w4 ⟨rfl,hb⟩
    exact ⟨_,rfl,hb,fun z hz => by cases hz; rfl⟩
   ·intro o' ho a w2 hf had hb
    cases ho
    have h2:a.eval (.tmp 6) = .string x.name:=had ⟨2,.data⟩ (by simp) rfl _ rfl
    have h5:a.eval (.tmp 9) = .string o:=had ⟨5,.data⟩ (by simp) rfl _ rfl
    have h6:a.eval (.const (.string ⟨#[58,32]⟩)) = .string ⟨#[58,32]⟩:=rfl
    exact op_mk3 rfl (.tmp 6) (.const (.string ⟨#[58,32]⟩)) (.tmp 9) rfl h2 h6 h5 ⟨w2,hb,rfl,rfl⟩
   ·intro o' ho a w2 hf had ⟨w1,hb,hu,hw⟩
    cases ho
    have h0:K.vof _ a 0 = pp b:=had ⟨0,.data⟩ (by simp) rfl _ rfl
    refine zj4 rfl _ _ _ rfl en_put #[pp b,.slice (some ⟨w1.heap.size,0,none⟩) 3 3] (by rw [K.map2,show a.eval (.tmp 4) = _ from h0,show a.eval (.tmp 10) = _ from hu]) ?_
    subst hw
    refine (put3 x.name ⟨#[58,32]⟩ o B b _ l w1 rfl (HPD.out.kept hb) (by have h1:=HLL.out; (try simp only [za6] at h1 ⊢); (try simp only [List.length_append] at h1 ⊢); (try simp only [List.length_cons] at h1 ⊢); (try simp only [List.length_append] at h1 ⊢); (try simp only [List.length_nil] at h1 ⊢); (try simp only [za4] at h1 ⊢); (try simp only [za2] at h1 ⊢); (try simp only [List.length_cons] at h1 ⊢); (try simp only [List.length_nil] at h1 ⊢); omega) (Nat.le_trans hz0 hb.size)).mono ?_
    rintro e w4 ⟨rfl,hp,hw⟩
    exact ⟨_,rfl,rfl,hp,(Wr.of hz0 hb).trans hw⟩
   ·intro o ho; cases ho
   intro a w1 hf hE _
   obtain ⟨_,hp,hw⟩:=hE
   have ha:=K.zG3 hf [4,5,6,7,8,9,10,11] (by kernel_rfl)
   generalize (fun d => a.tmps.getD d undef) = f9 at ha
   subst ha
   clear hf
   simp only [K.over,List.foldl_cons,List.foldl_nil,Act.put,List.setIfInBounds_toArray,List.set_cons_succ,List.set_cons_zero]
   generalize f9 4 = u4
   generalize f9 5 = u5
   generalize f9 6 = u6
   generalize f9 7 = u7
   generalize f9 8 = u8
   generalize f9 9 = u9
   generalize f9 10 = u10
   generalize f9 11 = u11
   have HP1:=Lib.hid hp
   have HW1:=Lib.hid (HWD.out.trans hw)
   have HK1:=Lib.hid (HKD.out.wr hw (by omega) (by decide))
   have HV1:=Lib.hid (HVD.out.kept hw.below)
   have HD1:=Lib.hid (HDD.out.kept hw.below)
   clear hp hw HPD HWD HKD HVD HDD CP2 B0
   have y0:=HK1.out.cell 0 _ rfl
   have y1:=HK1.out.cell 1 _ rfl
   have y2:=HK1.out.cell 2 _ rfl
   have y3:=HK1.out.cell 3 _ rfl
   have y4:=HK1.out.cell 4 _ rfl
   have y5:=HK1.out.cell 5 _ rfl
   have y6:=HK1.out.cell 6 _ rfl
   have y7:=HK1.out.cell 7 _ rfl
   have y8:=HK1.out.cell 8 _ rfl
   have y9:=HK1.out.cell 9 _ rfl
   go_wp2_with fail
   refine (put1 _ B b _ _ _ (by simp) HP1.out (by have h1:=HLL.out; (try simp only [za6] at h1 ⊢); (try simp only [List.length_append] at h1 ⊢); (try simp only [List.length_cons] at h1 ⊢); (try simp only [List.length_append] at h1 ⊢); (try simp only [List.length_nil] at h1 ⊢); (try simp only [za4] at h1 ⊢); (try simp only [za2] at h1 ⊢); (try simp only [List.length_cons] at h1 ⊢); (try simp only [List.length_nil] at h1 ⊢); omega) (Nat.le_trans HBB.out HW1.out.below.size)).mono ?_
   rintro e w2 ⟨rfl,hp,hw⟩
   have HP2:=Lib.hid hp
   have HW2:=Lib.hid (HW1.out.trans hw)
   have HK2:=Lib.hid (HK1.out.wr hw (by omega) (by decide))
   have HV2:=Lib.hid (Rd.kept HV1.out hw.below)
   have HD2:=Lib.hid (DirsR.kept HD1.out hw.below)
   clear hp hw
   clear y0 y1 y2 y3 y4 y5 y6 y7 y8 y9
   have y0:=HK2.out.cell 0 _ rfl
   have y1:=HK2.out.cell 1 _ rfl
   have y2:=HK2.out.cell 2 _ rfl
   have y3:=HK2.out.cell 3 _ rfl
   have y4:=HK2.out.cell 4 _ rfl
   have y5:=HK2.out.cell 5 _ rfl
   have y6:=HK2.out.cell 6 _ rfl
   have y7:=HK2.out.cell 7 _ rfl
   have y8:=HK2.out.cell 8 _ rfl
   have y9:=HK2.out.cell 9 _ rfl
   go_wp2_with fail
   refine (HO.out x.dflt (HF.out.2.1 HHS.out) (fun j => (#[.int .i64 k,.int .i64 n,.string s,.slice VA vli vci,.slice VK vlk vck]:Array Value).getD j undef) _ HV2.out _ HP2.out (HL.out.kept HW2.out.below) (by have h1:=HLL.out; (try simp only [za6] at h1 ⊢); (try simp only [List.length_append] at h1 ⊢); (try simp only [List.length_cons] at h1 ⊢); (try simp only [List.length_append] at h1 ⊢); (try simp only [List.length_nil] at h1 ⊢); (try simp only [za4] at h1 ⊢); (try simp only [za2] at h1 ⊢); (try simp only [List.length_cons] at h1 ⊢); (try simp only [List.length_nil] at h1 ⊢); omega) (Nat.le_trans HBB.out HW2.out.below.size)).mono ?_
   rintro e w3 ⟨rfl,hp,hw⟩
   have HP3:=Lib.hid hp
   have HW3:=Lib.hid (HW2.out.trans hw)
   have HK3:=Lib.hid (HK2.out.wr hw (by omega) (by decide))
   have HV3:=Lib.hid (Rd.kept HV2.out hw.below)
   have HD3:=Lib.hid (DirsR.kept HD2.out hw.below)
   clear hp hw
   clear y0 y1 y2 y3 y4 y5 y6 y7 y8 y9
   have y0:=HK3.out.cell 0 _ rfl
   have y1:=HK3.out.cell 1 _ rfl
   have y2:=HK3.out.cell 2 _ rfl
   have y3:=HK3.out.cell 3 _ rfl
   have y4:=HK3.out.cell 4 _ rfl
   have y5:=HK3.out.cell 5 _ rfl
   have y6:=HK3.out.cell 6 _ rfl
   have y7:=HK3.out.cell 7 _ rfl
   have y8:=HK3.out.cell 8 _ rfl
   have y9:=HK3.out.cell 9 _ rfl
   go_wp2_with fail
   refine (zb2 B b HO.out x.dirs HF.out.2.2 _ _ HD3.out _ HP3.out (HL.out.kept HW3.out.below) (by have h1:=HLL.out; (try simp only [za6] at h1 ⊢); (try simp only [List.length_append] at h1 ⊢); (try simp only [List.length_cons] at h1 ⊢); (try simp only [List.length_append] at h1 ⊢); (try simp only [List.length_nil] at h1 ⊢); (try simp only [za4] at h1 ⊢); (try simp only [za2] at h1 ⊢); (try simp only [List.length_cons] at h1 ⊢); (try simp only [List.length_nil] at h1 ⊢); omega) (Nat.le_trans HBB.out HW3.out.below.size)).mono ?_
   rintro e w4 ⟨rfl,hp,hw⟩
   have HP4:=Lib.hid hp
   have HW4:=Lib.hid (HW3.out.trans hw)
   have HK4:=Lib.hid (HK3.out.wr hw (by omega) (by decide))
   have HV4:=Lib.hid (Rd.kept HV3.out hw.below)
   have HD4:=Lib.hid (DirsR.kept HD3.out hw.below)
   clear hp hw
   clear y0 y1 y2 y3 y4 y5 y6 y7 y8 y9
   have y0:=HK4.out.cell 0 _ rfl
   have y1:=HK4.out.cell 1 _ rfl
   have y2:=HK4.out.cell 2 _ rfl
   have y3:=HK4.out.cell 3 _ rfl
   have y4:=HK4.out.cell 4 _ rfl
   have y5:=HK4.out.cell 5 _ rfl
   have y6:=HK4.out.cell 6 _ rfl
   have y7:=HK4.out.cell 7 _ rfl
   have y8:=HK4.out.cell 8 _ rfl
   have y9:=HK4.out.cell 9 _ rfl
   go_wp2_with fail
   go_end0
   exact ⟨rfl,by have h1:=HP4.out; (try simp only [List.append_assoc] at h1); (try simp only [List.append_nil] at h1); (try simp only [List.append_assoc]); (try simp only [List.append_nil]); exact h1,HW4.out⟩
 | false =>
   have HV0:=Lib.hid (hv.kept (za0 w (.cells #[.string x.name,.string x.tn,.slice A2 n2 c2,.bool false,.int .i64 k,.int .i64 n,.string s,.slice VA vli vci,.slice VK vlk vck,.slice A9 n9 c9] 55 (0,0)) |>.mono hB))
   have HT0:=Lib.hid (ht.kept (za0 w (.cells #[.string x.name,.string x.tn,.slice A2 n2 c2,.bool false,.int .i64 k,.int .i64 n,.string s,.slice VA vli vci,.slice VK vlk vck,.slice A9 n9 c9] 55 (0,0)) |>.mono hB))
   have HD0:=Lib.hid (hd.kept (za0 w (.cells #[.string x.name,.string x.tn,.slice A2 n2 c2,.bool false,.int .i64 k,.int .i64 n,.string s,.slice VA vli vci,.slice VK vlk vck,.slice A9 n9 c9] 55 (0,0)) |>.mono hB))
   clear hv ht hd
   rw [if_neg (by decide)] at hl ⊢
   have HW0:Hid (Wr B b w (w.alloc (.cells #[.string x.name,.string x.tn,.slice A2 n2 c2,.bool false,.int .i64 k,.int .i64 n,.string s,.slice VA vli vci,.slice VK vlk vck,.slice A9 n9 c9] 55 (0,0)))):=Lib.hid ((Wr.refl B b w).alloc hB _)
   have HP0:=Lib.hid (hp.alloc (.cells #[.string x.name,.string x.tn,.slice A2 n2 c2,.bool false,.int .i64 k,.int .i64 n,.string s,.slice VA vli vci,.slice VK vlk vck,.slice A9 n9 c9] 55 (0,0)))
   have HK0:=Lib.hid (Bk.new w #[.string x.name,.string x.tn,.slice A2 n2 c2,.bool false,.int .i64 k,.int .i64 n,.string s,.slice VA vli vci,.slice VK vlk vck,.slice A9 n9 c9] 55)
   have HL:=Lib.hid hL
   have HLL:=Lib.hid hl
   have HBB:=Lib.hid hB
   have hbw:=hp.lt
   clear hL hl hB hp
   have CALL0:=fun (W:World) (hW:Below B (w.alloc (.cells #[.string x.name,.string x.tn,.slice A2 n2 c2,.bool false,.int .i64 k,.int .i64 n,.string s,.slice VA vli vci,.slice VK vlk vck,.slice A9 n9 c9] 55 (0,0))) W) (hz:B ≤ W.heap.size) => zn2 B x.tn x.tw HF.out.1 W _ _ (HT0.out.kept hW) hz
   have CALLP:=Lib.hid CALL0
   clear CALL0
   generalize hrf:zk8 x.tn x.tw = out at *
   obtain ⟨o,rfl⟩ : ∃ o:ByteArray,o.data.toList = out:=⟨⟨out.toArray⟩,by simp⟩
   have ho2:(⟨o.data.toList.toArray⟩ : ByteArray) = o:=by cases o; simp
   rw [ho2] at CALLP
   clear hrf ho2
   have hob:o.data.toList = bL o:=rfl
   rw [hob] at HLL ⊢
   clear hob
   go_enter Tryz.func69, Tryz.ntmps69
   go_wp2_with fail
   have B0:Hid (Below w.heap.size w ((w.alloc (.cells #[.string x.name,.string x.tn,.slice A2 n2 c2,.bool false,.int .i64 k,.int .i64 n,.string s,.slice VA vli vci,.slice VK vlk vck,.slice A9 n9 c9] 55 (0,0))).drew)):=Lib.hid ((za0 w _).trans (Below.drew (Below.refl _ _)))
   have HPD:Hid (PB B b l ((w.alloc (.cells #[.string x.name,.string x.tn,.slice A2 n2 c2,.bool false,.int .i64 k,.int .i64 n,.string s,.slice VA vli vci,.slice VK vlk vck,.slice A9 n9 c9] 55 (0,0))).drew)):=Lib.hid HP0.out
   have HWD:Hid (Wr B b w ((w.alloc (.cells #[.string x.name,.string x.tn,.slice A2 n2 c2,.bool false,.int .i64 k,.int .i64 n,.string s,.slice VA vli vci,.slice VK vlk vck,.slice A9 n9 c9] 55 (0,0))).drew)):=Lib.hid (HW0.out.trans (Wr.of (Nat.le_trans HBB.out HW0.out.below.size) (Below.drew (Below.refl _ _))))
   have HKD:Hid (Bk ((w.alloc (.cells #[.string x.name,.string x.tn,.slice A2 n2 c2,.bool false,.int .i64 k,.int .i64 n,.string s,.slice VA vli vci,.slice VK vlk vck,.slice A9 n9 c9] 55 (0,0))).drew) w.heap.size #[.string x.name,.string x.tn,.slice A2 n2 c2,.bool false,.int .i64 k,.int .i64 n,.string s,.slice VA vli vci,.slice VK vlk vck,.slice A9 n9 c9] 55):=Lib.hid HK0.out
   have HVD:Hid (Rd ((w.alloc (.cells #[.string x.name,.string x.tn,.slice A2 n2 c2,.bool false,.int .i64 k,.int .i64 n,.string s,.slice VA vli vci,.slice VK vlk vck,.slice A9 n9 c9] 55 (0,0))).drew) B (.agg #[.int .i64 k,.int .i64 n,.string s,.slice VA vli vci,.slice VK vlk vck]) x.dflt):=Lib.hid (HV0.out.kept ((Below.drew (Below.refl _ _)).mono (Nat.le_trans HBB.out HW0.out.below.size)))
   have HDD:Hid (DirsR ((w.alloc (.cells #[.string x.name,.string x.tn,.slice A2 n2 c2,.bool false,.int .i64 k,.int .i64 n,.string s,.slice VA vli vci,.slice VK vlk vck,.slice A9 n9 c9] 55 (0,0))).drew) B (.slice A9 n9 c9) x.dirs):=Lib.hid (HD0.out.kept ((Below.drew (Below.refl _ _)).mono (Nat.le_trans HBB.out HW0.out.below.size)))
   have CP2:Hid (∀ W:World,Below B ((w.alloc (.cells #[.string x.name,.string x.tn,.slice A2 n2 c2,.bool false,.int .i64 k,.int .i64 n,.string s,.slice VA vli vci,.slice VK vlk vck,.slice A9 n9 c9] 55 (0,0))).drew) W → B ≤ W.heap.size → Calls Tryz.prog 133 #[.agg #[.string x.tn,.slice A2 n2 c2]] W fun e w' => e = .returned (.string o) ∧ Below W.heap.size W w'):=Lib.hid fun W hW hz => CALLP.out W (((Below.drew (Below.refl _ _)).mono (Nat.le_trans HBB.out HW0.out.below.size)).trans hW) hz
   clear CALLP HP0 HW0 HK0 HV0 HD0 HT0
   have hz0:B ≤ ((w.alloc (.cells #[.string x.name,.string x.tn,.slice A2 n2 c2,.bool false,.int .i64 k,.int .i64 n,.string s,.slice VA vli vci,.slice VK vlk vck,.slice A9 n9 c9] 55 (0,0))).drew).heap.size:=by have:=B0.out.size; have:=HBB.out; omega
   obtain ⟨W,hW⟩ : ∃ W,(w.alloc (.cells #[.string x.name,.string x.tn,.slice A2 n2 c2,.bool false,.int .i64 k,.int .i64 n,.string s,.slice VA vli vci,.slice VK vlk vck,.slice A9 n9 c9] 55 (0,0))).drew = W:=⟨_,rfl⟩
   rw [hW] at B0 HPD HWD HKD HVD HDD CP2 hz0
   have hKb:w.heap.size < W.heap.size:=HKD.out.lt
   refine zn4 (pv:=npvI b w.heap.size x.name (.agg #[.string x.tn,.slice A2 n2 c2]) o) (b:=5) (c:=6) (e:=7) (x:=100) (C:=fun w1 => Below W.heap.size W w1)
    (G:=fun u w2 => ∃ w1,Below W.heap.size W w1 ∧ u = .slice (some ⟨w1.heap.size,0,none⟩) 3 3 ∧ w2 = w1.alloc (.cells #[.string x.name,.string ⟨#[58,32]⟩,.string o] 9 (0,0)))
    (E:=fun u w3 => u = .tuple #[] ∧ PB B b (l ++ (bL x.name ++ (bL ⟨#[58,32]⟩ ++ bL o))) w3 ∧ Wr B b W w3) (by kernel_rfl) (by kernel_rfl) (by kernel_rfl) ⟨by decide,by decide,by decide,by decide,by decide,by decide,rfl,rfl,rfl,by decide,by decide,by decide⟩ ?_ ?_ ?_ ?_ ?_ ?_ ?_ ?_ ?_
   ·intro o ho d _ hall; cases ho; exact hall ⟨5,.data⟩ (by simp) rfl
   ·intro o ho; cases ho; exact ⟨⟨6,.data⟩,by simp,rfl,rfl⟩
   ·intro o ho; cases ho
   ·intro i o ho q1 q2 q3 q4 d a w2 hf hcl hdi _ had hw
    rw [hW] at hw
    have hi:i < 8:=(Array.getElem?_eq_some_iff.1 ho).1
    have hc:i = 0 ∨ i = 1 ∨ i = 2 ∨ i = 3 ∨ i = 4:=by omega
    have hbx:(d 2 = false ∨ d 4 = false) → Bk w2 w.heap.size #[.string x.name,.string x.tn,.slice A2 n2 c2,.bool false,.int .i64 k,.int .i64 n,.string s,.slice VA vli vci,.slice VK vlk vck,.slice A9 n9 c9] 55 := by
     intro hd24
     rcases hw with rfl | hb | ⟨u,w1,hb,_,rfl⟩ | ⟨hde,_⟩
     ·exact HKD.out
     ·exact HKD.out.stay hb
     ·exact (HKD.out.stay hb).stay (za0 _ _)
     ·have d6:d 6 = true:=hcl 7 _ rfl hde ⟨6,.data⟩ (by simp) rfl
      have d2:d 2 = true:=hcl 6 _ rfl d6 ⟨2,.data⟩ (by simp) rfl
      have d5:d 5 = true:=hcl 6 _ rfl d6 ⟨5,.data⟩ (by simp) rfl
      have d4:d 4 = true:=hcl 5 _ rfl d5 ⟨4,.data⟩ (by simp) rfl
      rcases hd24 with h | h
      ·rw [d2] at h; cases h
      ·rw [d4] at h; cases h
    rcases hc with rfl | rfl | rfl | rfl | rfl
    ·cases ho
     have hx:a.eval (.tmp 0) = pp b:=K.Fr.slot hf 0 (by kernel_rfl)
     exact zO3 rfl (.tmp 0) rfl hx ⟨rfl,fun z hz => by cases hz; rfl⟩
    ·cases ho
     have hx:a.eval (.tmp 3) = .pointer (some ⟨w.heap.size,0,none⟩):=K.Fr.slot hf 3 (by kernel_rfl)
     exact zO5 rfl (.tmp 3) rfl hx ⟨rfl,fun z hz => by cases hz; rfl⟩
    ·cases ho
     have hx:a.eval (.tmp 5) = .pointer (some ⟨w.heap.size,0,none⟩):=had ⟨1,.data⟩ (by simp) rfl _ rfl
     have h0:=(hbx (.inl hdi)).cell 0 _ rfl
     exact op_ldS rfl (.tmp 5) rfl hx h0 ⟨rfl,fun z hz => by cases hz; rfl⟩
    ·cases ho
     have hx:a.eval (.tmp 3) = .pointer (some ⟨w.heap.size,0,none⟩):=K.Fr.slot hf 3 (by kernel_rfl)
     exact zO4 rfl (.tmp 3) rfl hx ⟨rfl,fun z hz => by cases hz; rfl⟩
    ·cases ho
     have hx:a.eval (.tmp 7) = .pointer (some ⟨w.heap.size,1,none⟩):=had ⟨3,.data⟩ (by simp) rfl _ rfl
     have h1:=(hbx (.inr hdi)).cell 1 _ rfl
     have h2:=(hbx (.inr hdi)).cell 2 _ rfl
     exact op_ldR rfl (.tmp 7) rfl hx h1 h2 ⟨rfl,fun z hz => by cases hz; rfl⟩
   ·intro o' ho a hf had
    cases ho
    rw [hW]
    have h4:K.vof _ a 4 = .agg #[.string x.tn,.slice A2 n2 c2]:=had ⟨4,.data⟩ (by simp) rfl _ rfl
    refine zj4 rfl _ _ _ rfl zH5 #[.agg #[.string x.tn,.slice A2 n2 c2]] (by rw [K.map1,show a.eval (.tmp 8) = _ from h4]) ?_
    refine (CP2.out _ (Below.refl _ _) hz0).mono ?_
    rintro e w4 ⟨rfl,hb⟩
    exact ⟨_,rfl,hb,fun z hz => by cases hz; rfl⟩
   ·intro o' ho a w2 hf had hb
    cases ho
    have h2:a.eval (.tmp 6) = .string x.name:=had ⟨2,.data⟩ (by simp) rfl _ rfl
    have h5:a.eval (.tmp 9) = .string o:=had ⟨5,.data⟩ (by simp) rfl _ rfl
    have h6:a.eval (.const (.string ⟨#[58,32]⟩)) = .string ⟨#[58,32]⟩:=rfl
    exact op_mk3 rfl (.tmp 6) (.const (.string ⟨#[58,32]⟩)) (.tmp 9) rfl h2 h6 h5 ⟨w2,hb,rfl,rfl⟩
   ·intro o' ho a w2 hf had ⟨w1,hb,hu,hw⟩
    cases ho
    have h0:K.vof _ a 0 = pp b:=had ⟨0,.data⟩ (by simp) rfl _ rfl
    refine zj4 rfl _ _ _ rfl en_put #[pp b,.slice (some ⟨w1.heap.size,0,none⟩) 3 3] (by rw [K.map2,show a.eval (.tmp 4) = _ from h0,show a.eval (.tmp 10) = _ from hu]) ?_
    subst hw
    refine (put3 x.name ⟨#[58,32]⟩ o B b _ l w1 rfl (HPD.out.kept hb) (by have h1:=HLL.out; (try simp only [za6] at h1 ⊢); (try simp only [List.length_append] at h1 ⊢); (try simp only [List.length_cons] at h1 ⊢); (try simp only [List.length_append] at h1 ⊢); (try simp only [List.length_nil] at h1 ⊢); (try simp only [za4] at h1 ⊢); (try simp only [za2] at h1 ⊢); (try simp only [List.length_cons] at h1 ⊢); (try simp only [List.length_nil] at h1 ⊢); omega) (Nat.le_trans hz0 hb.size)).mono ?_
    rintro e w4 ⟨rfl,hp,hw⟩
    exact ⟨_,rfl,rfl,hp,(Wr.of hz0 hb).trans hw⟩
   ·intro o ho; cases ho
   intro a w1 hf hE _
   obtain ⟨_,hp,hw⟩:=hE
   have ha:=K.zG3 hf [4,5,6,7,8,9,10,11] (by kernel_rfl)
   generalize (fun d => a.tmps.getD d undef) = f9 at ha
   subst ha
   clear hf
   simp only [K.over,List.foldl_cons,List.foldl_nil,Act.put,List.setIfInBounds_toArray,List.set_cons_succ,List.set_cons_zero]
   generalize f9 4 = u4
   generalize f9 5 = u5
   generalize f9 6 = u6
   generalize f9 7 = u7
   generalize f9 8 = u8
   generalize f9 9 = u9
   generalize f9 10 = u10
   generalize f9 11 = u11
   have HP1:=Lib.hid hp
   have HW1:=Lib.hid (HWD.out.trans hw)
   have HK1:=Lib.hid (HKD.out.wr hw (by omega) (by decide))
   have HV1:=Lib.hid (HVD.out.kept hw.below)
   have HD1:=Lib.hid (HDD.out.kept hw.below)
   clear hp hw HPD HWD HKD HVD HDD CP2 B0
   have y0:=HK1.out.cell 0 _ rfl
   have y1:=HK1.out.cell 1 _ rfl
   have y2:=HK1.out.cell 2 _ rfl
   have y3:=HK1.out.cell 3 _ rfl
   have y4:=HK1.out.cell 4 _ rfl
   have y5:=HK1.out.cell 5 _ rfl
   have y6:=HK1.out.cell 6 _ rfl
   have y7:=HK1.out.cell 7 _ rfl
   have y8:=HK1.out.cell 8 _ rfl
   have y9:=HK1.out.cell 9 _ rfl
   go_wp2_with fail
   refine (zb2 B b HO.out x.dirs HF.out.2.2 _ _ HD1.out _ HP1.out (HL.out.kept HW1.out.below) (by have h1:=HLL.out; (try simp only [za6] at h1 ⊢); (try simp only [List.length_append] at h1 ⊢); (try simp only [List.length_cons] at h1 ⊢); (try simp only [List.length_append] at h1 ⊢); (try simp only [List.length_nil] at h1 ⊢); (try simp only [za4] at h1 ⊢); (try simp only [za2] at h1 ⊢); (try simp only [List.length_cons] at h1 ⊢); (try simp only [List.length_nil] at h1 ⊢); omega) (Nat.le_trans HBB.out HW1.out.below.size)).mono ?_
   rintro e w2 ⟨rfl,hp,hw⟩
   have HP2:=Lib.hid hp
   have HW2:=Lib.hid (HW1.out.trans hw)
   have HK2:=Lib.hid (HK1.out.wr hw (by omega) (by decide))
   have HV2:=Lib.hid (Rd.kept HV1.out hw.below)
   have HD2:=Lib.hid (DirsR.kept HD1.out hw.below)
   clear hp hw
   clear y0 y1 y2 y3 y4 y5 y6 y7 y8 y9
   have y0:=HK2.out.cell 0 _ rfl
   have y1:=HK2.out.cell 1 _ rfl
   have y2:=HK2.out.cell 2 _ rfl
   have y3:=HK2.out.cell 3 _ rfl
   have y4:=HK2.out.cell 4 _ rfl
   have y5:=HK2.out.cell 5 _ rfl
   have y6:=HK2.out.cell 6 _ rfl
   have y7:=HK2.out.cell 7 _ rfl
   have y8:=HK2.out.cell 8 _ rfl
   have y9:=HK2.out.cell 9 _ rfl
   go_wp2_with fail
   go_end0
   exact ⟨rfl,by have h1:=HP2.out; (try simp only [List.append_assoc] at h1); (try simp only [List.append_nil] at h1); (try simp only [List.append_assoc]); (try simp only [List.append_nil]); exact h1,HW2.out⟩
end Go.Proofs.YtfgelheiknmjgaaGreatDoor

