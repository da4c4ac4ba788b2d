
/-
 Texts joined: YPrint.
-/
import Derived.Test.YtfgelheiknmjgaaGreatDoorZt40
set_option maxRecDepth 1000000
set_option maxHeartbeats 8000000
namespace Go.Proofs.YtfgelheiknmjgaaGreatDoor.K
open Go.RowKit Go.Shelf
attribute [local go_sem] Oper.semAt_some
theorem zF2 {W W':World} {row:Option Nat} {k:Nat} {c:Array Value} {e:TypeId} {f:Nat × Nat} (h:W.heap[k]?=some (.cells c e f)) (hg:W.grownBy W' row) (hr:∀ r,row=some r->∃ o:Obj,W.heap[r]?=some o/\o.isCells=false):W'.heap[k]?=some (.cells c e f):=by
 have hlt:k<W.heap.size:=by
  rcases Nat.lt_or_ge k W.heap.size with h' | h'
  ·exact h'
  ·rw [Array.getElem?_eq_none h'] at h; cases h
 refine (hg.block k hlt (fun e=>?_)).trans h
 obtain ⟨o,ho,hc⟩:=hr k e.symm;rw [h] at ho; cases ho; cases hc
theorem BD.any {B b:Nat} {l:List UInt8} {w w':World} (h:BD B b l w) (hb:∀ (k:Nat) (c:Array Value) (e:TypeId) (f:Nat × Nat),w.heap[k]?=some (Obj.cells c e f)->w'.heap[k]?=some (Obj.cells c e f)):BD B b l w':=by
 have key:∀ {p:Value},Lib.BuilderAtF 75 5 B b p (Lib.byteCells l) w->Lib.BuilderAtF 75 5 B b p (Lib.byteCells l) w':=by
  intro p h;obtain ⟨hB,v,hbk,hown,hne⟩:=h;refine ⟨hB,v,hb _ _ _ _ hbk,⟨hown.1,hown.2.imp id ?_⟩,hne⟩;rintro ⟨g,cap,cur,fz,e1,e2,e3,r⟩;exact ⟨g,cap,cur,fz,e1,e2,hb _ _ _ _ e3,r⟩
 exact h.imp key key
theorem BD.stay {B b:Nat} {l:List UInt8} {w w':World} (h:BD B b l w) (hb:Below w.heap.size w w'):BD B b l w' :=
 BD.any h fun k c e f hk=>by
  have hlt:k<w.heap.size:=by
   rcases Nat.lt_or_ge k w.heap.size with h' | h'
   ·exact h'
   ·rw [Array.getElem?_eq_none h'] at hk; cases hk
  exact (hb.block k hlt).trans hk
theorem BD.lt {B b:Nat} {l:List UInt8} {w:World} (h:BD B b l w):b<w.heap.size:=by
 have key:∀ {p v:Value},w.heap[b]?=some (Obj.cells #[p,v] 75 (0,0))->b<w.heap.size:=by
  intro p v hbk;rcases Nat.lt_or_ge b w.heap.size with h' | h'
  ·exact h'
  ·rw [Array.getElem?_eq_none h'] at hbk; cases hbk
 rcases h with h | h
 ·obtain ⟨_,v,hbk,_⟩:=h; exact key hbk
 ·obtain ⟨_,v,hbk,_⟩:=h; exact key hbk
theorem BD.fresh (w:World):BD w.heap.size w.heap.size [] (w.alloc (.cells #[.pointer none,.slice none 0 0] 75 (0,0))) :=
 .inl ⟨Nat.le_refl _,.slice none 0 0,heap_alloc_new _ _,⟨rfl,.inl ⟨rfl,rfl⟩⟩,fun e=>by cases e⟩
theorem zo8 {e:TypeId} {b B:Nat} {W W':World} (h:Lib.OthersKept e (some b) W W') (hs:W.heap.size<=W'.heap.size) (hb:b<B):KeepsFrom B W W' :=
 ⟨hs,fun k o hk ho hc=>h k o ho (fun e=>by cases e; omega) (fun c fz e=>by subst e; cases hc)⟩
theorem pr_app (n:List UInt8) (xs:Ws):prL n xs=List.replicate (strL xs).length 91++n++(bwL xs xs.length).map (fun p=>endB p.2):=by
 unfold prL; rw [<- bw_all,List.map_map]; rfl
theorem rep_eq (k:Nat):Lib.repeatL [91] k=List.replicate k (91:UInt8):=by
 induction k with
 | zero=>rfl
 | succ k ih=>first | (simp [Lib.repeatL,List.replicate_succ] at *; done) | (rw [List.replicate_succ, <- ih]; rfl)
theorem zX6 (n:ByteArray) (xs:Ws) (v:Value) (w:World) (h:RefV w w.heap.size v n xs) (hn:n.size<=1000000000) (hl:xs.length<=900000):Calls Tryz.prog 133 #[v] w fun e w'=>e=.returned (.string ⟨(prL n.data.toList xs).toArray⟩)/\Below w.heap.size w w':=by
 refine (callsIn_wide (n:=5)).1 ?_
 obtain ⟨A,c,rfl,hc,hi⟩:=h;have X:Hid (BxR (w.alloc (.cells #[.string n,.slice A xs.length c] 44 (0,0))) w.heap.size (.string n) (.slice A xs.length c)):=Lh (BxR.new w _ _);have hb0:=(Below.refl w.heap.size w).alloc (Nat.le_refl _) (.cells #[.string n,.slice A xs.length c] 44 (0,0));have HC:=Lh hc;have HL:=Lh hl;have HN:=Lh hn;have I:=Lh (hi.stay hb0);have B0:=Lh hb0;have I00:=Lh hi;clear hc hi hl hn hb0;refine callsIn_of_wp_marks Tryz.func133 rfl trivial ?_ rfl;simp only [Tryz.ntmps133,List.size_toArray,List.length_cons,List.length_nil,Nat.reduceAdd,Nat.reduceSub,Array.replicate_succ,Array.replicate_zero,List.push_toArray,List.append_toArray,List.nil_append,List.cons_append]
 gi_wp2_with fail
 have hb1:=(Below.refl (w.heap.size+1) (w.alloc (.cells #[.string n,.slice A xs.length c] 44 (0,0)))).alloc (by simp) (.cells #[.pointer none,.slice none 0 0] 75 (0,0));have BDF:=Lh (BD.fresh (w.alloc (.cells #[.string n,.slice A xs.length c] 44 (0,0))));have hz:(w.alloc (.cells #[.string n,.slice A xs.length c] 44 (0,0))).heap.size=w.heap.size+1:=by simp
 have HB1:=Lh hb1;rw [hz] at BDF;have HZ:=Lh hz;clear hb1 hz;generalize (w.alloc (.cells #[.string n,.slice A xs.length c] 44 (0,0)))=W0 at *;have I1:Hid (IntsAt (W0.alloc (.cells #[.pointer none,.slice none 0 0] 75 (0,0))) (W0.alloc (.cells #[.pointer none,.slice none 0 0] 75 (0,0))).heap.size A xs):=Lh (I.out.stay ((Below.refl _ _).alloc (Nat.le_refl _) _));have hsz:w.heap.size+1<=W0.heap.size:=by have:=HZ.out; omega
 have X1:Hid (BxR (W0.alloc (.cells #[.pointer none,.slice none 0 0] 75 (0,0))) w.heap.size (.string n) (.slice A xs.length c)):=Lh (X.out.alloc _);have B1:Hid (Below w.heap.size w (W0.alloc (.cells #[.pointer none,.slice none 0 0] 75 (0,0)))):=Lh (B0.out.alloc B0.out.size _);have BW:Hid (w.heap.size+1<(W0.alloc (.cells #[.pointer none,.slice none 0 0] 75 (0,0))).heap.size):=Lh (by have:=HZ.out; simp; omega);clear hsz HB1 X I B0;generalize (W0.alloc (.cells #[.pointer none,.slice none 0 0] 75 (0,0)))=W1 at *;have hcall:=zX1 xs (.slice A xs.length c) W1 ⟨A,c,rfl,HC.out,I1.out⟩ HL.out;have hpl:=ye1 xs;have hpr:=pr_app n.data.toList xs;generalize strL xs=ss at hcall hpl hpr;refine ⟨trivial,(callsIn_wide.2 hcall).mono ?_⟩;clear hcall;rintro e w2 ⟨⟨u,rfl,A2,c2,rfl,_,_⟩,hb2⟩;have HPL:=Lh hpl;have HPR:=Lh hpr;replace BDF:=Lh (BD.stay BDF.out hb2);have I2:=Lh (I1.out.stay hb2);replace X1:=Lh (X1.out.stay hb2);replace B1:=Lh (B1.out.trans (hb2.mono B1.out.size));replace BW:=Lh (Nat.lt_of_lt_of_le BW.out hb2.size);clear hb2 hpl hpr I1
 gi_wp2_with fail
 refine ⟨trivial,(callsIn_wide.2 (Tryz.strings_Repeat ⟨#[91]⟩ ss.length _ (by have:=HPL.out; have:=HL.out; omega) (by have:=HPL.out; have:=HL.out; show 1*_<=_; omega))).mono ?_⟩
 rintro e w3 ⟨rfl,hb2⟩;rw [show Lib.repeatL (⟨#[91]⟩ : ByteArray).data.toList ss.length=List.replicate ss.length 91 from rep_eq _];replace BDF:=Lh (BD.stay BDF.out hb2);replace I2:=Lh (I2.out.stay hb2);replace X1:=Lh (X1.out.stay hb2);replace B1:=Lh (B1.out.trans (hb2.mono B1.out.size));replace BW:=Lh (Nat.lt_of_lt_of_le BW.out hb2.size);clear hb2;have HRS:Hid ((⟨(List.replicate ss.length (91:UInt8)).toArray⟩ : ByteArray).size=ss.length):=Lh (by show (List.replicate ss.length (91:UInt8)).toArray.size=_; simp);have HRD:Hid ((⟨(List.replicate ss.length (91:UInt8)).toArray⟩ : ByteArray).data.toList=List.replicate ss.length 91):=Lh (by simp);generalize (⟨(List.replicate ss.length (91:UInt8)).toArray⟩ : ByteArray)=rs at *
 gi_wp2_with fail
 refine ⟨trivial,(callsIn_wide.2 (zh3 (w.heap.size+1) (w.heap.size+1) [] rs w3 BDF.out (by have:=HRS.out; have:=HPL.out; have:=HL.out; simp; omega) (by have:=BW.out; omega))).mono ?_⟩
 rintro e w4 ⟨rfl,hbd,hb2,hoth⟩;replace BDF:=Lh hbd;replace X1:=Lh (X1.out.kept (hb2.block _ (Nat.lt_succ_self _)));replace B1:=Lh (B1.out.trans (hb2.mono (Nat.le_succ _)));replace BW:=Lh (Nat.lt_of_lt_of_le BW.out hb2.size);have q0:=X1.out.cells.1;have q1:=X1.out.cells.2;clear hbd hb2 hoth I2
 gi_wp2_with fail
 refine ⟨trivial,(callsIn_wide.2 (zh3 (w.heap.size+1) (w.heap.size+1) _ n w4 BDF.out (by have:=HRS.out; have:=HRD.out; have:=HPL.out; have:=HL.out; have:=HN.out; simp only [List.nil_append]; rw [HRD.out,List.length_replicate]; omega) (by have:=BW.out; omega))).mono ?_⟩
 rintro e w5 ⟨rfl,hbd,hb2,hoth⟩;replace BDF:=Lh hbd;replace X1:=Lh (X1.out.kept (hb2.block _ (Nat.lt_succ_self _)));replace B1:=Lh (B1.out.trans (hb2.mono (Nat.le_succ _)));replace BW:=Lh (Nat.lt_of_lt_of_le BW.out hb2.size);replace q0:=X1.out.cells.1;replace q1:=X1.out.cells.2;clear hbd hb2 hoth
 gi_wp2_with fail
 refine ⟨trivial,(bwd_in Fence.wide _ trivial rfl _ _ _ _).mono ?_⟩
 rintro e w6 ⟨rfl,hw6⟩;have hbx:w6.heap[w5.heap.size]?=some (Obj.cells #[.slice A xs.length c] 42 (0,0)):=by rw [hw6]; exact heap_alloc_new _ _
 have hb6:Below w5.heap.size w5 w6:=by rw [hw6]; exact (Below.refl _ _).alloc (Nat.le_refl _) _
 have hs6:w6.heap.size=w5.heap.size+1:=by rw [hw6]; simp
 clear hw6 q0 q1;replace BDF:=Lh (BD.stay BDF.out hb6);replace B1:=Lh (B1.out.trans (hb6.mono B1.out.size));have HBX:=Lh hbx;have HS6:=Lh hs6;clear hbx hb6 hs6 X1
 gi_wp2_with fail
 have HI6:Hid (IntsAt w6 w.heap.size A xs):=Lh (I00.out.kept B1.out);have hcb:w6.cell? ⟨w5.heap.size,0,none⟩=some (.slice A xs.length c):=by
  rw [cell_of_row _ _ _ _ _ _ HBX.out]; rfl
 have HCB:=Lh hcb;have HBL:Hid (([]++rs.data.toList++n.data.toList:List UInt8).length<=1000900000):=Lh (by
  rw [List.nil_append,List.length_append,HRD.out,List.length_replicate,T1.size_eq]; have:=HPL.out; have:=HL.out; have:=HN.out; omega)
 clear hcb;generalize hbs:([]++rs.data.toList++n.data.toList:List UInt8)=base at *;have HBS:=Lh hbs;clear hbs;refine wpIn_rangeFunc_ownG rfl (by omega) (gf := 214) (lb:=#[.pointer (some ⟨w5.heap.size,0,none⟩)]) rfl trivial (enters_of Tryz.func214 (by kernel_rfl) rfl)
  (yq3 Fence.wide (5-1) trivial rfl (by omega) w5.heap.size w.heap.size A c xs (by have:=HL.out; omega) w6 (by have:=HS6.out; omega) B1.out.size HCB.out HI6.out) KpB.trans (fun W l o o' hl ho hc hwk=>⟨belowK_b (w:=w6) B1.out.size W l o o' hl ho hc hwk,World.putObj_heap_other (fun e=>by have:=HS6.out; omega)⟩) (Below.refl _ _) (fun _=>rfl)
  (fun pre W=>(BD (w.heap.size+1) (w.heap.size+1) (base++pre.map (fun p=>endB p.2)) W/\W.heap[w5.heap.size]?=some (Obj.cells #[.slice A xs.length c] 42 (0,0)))/\Below w.heap.size w W)
  (fun _ _ _=>False)
  (OwnFrom.and (fun s W W' row hs hg hr=>⟨BD.any hs.1 (fun k c e f hk=>zF2 hk hg (fun r e=>(hr r e).2)),zF2 hs.2 hg (fun r e=>(hr r e).2)⟩) (ownFrom_below (Nat.le_refl _) B1.out.size))
  (fun _ _ _ _ _ hs _ _=>hs)
  ⟨⟨by rw [List.map_nil,List.append_nil]; exact BDF.out,HBX.out⟩,B1.out⟩
  (fun x=>{ tmps:=#[.agg #[.string n,.slice A xs.length c],.pointer (some ⟨w.heap.size,0,none⟩),.string ⟨#[]⟩,.pointer (some ⟨w.heap.size+1,0,none⟩),undef,.int .i64 x.2,.pointer (some ⟨w.heap.size,1,none⟩),.slice A xs.length c,.slice A2 ss.length c2,.int .i64 ss.length,.string rs,.tuple #[.int .i64 rs.size,.nilIface],.pointer (some ⟨w.heap.size,0,none⟩),.string n,.tuple #[.int .i64 n.size,.nilIface],.pointer (some ⟨w.heap.size,1,none⟩),.slice A xs.length c,.func (.func 214) #[] #[.pointer (some ⟨w5.heap.size,0,none⟩)],.int .i64 x.1,.int .i64 x.2,undef,undef,undef,undef,undef],defers:=[] }) ?assign ?body ?done ?stop
 case assign =>
  intro l x W K hK
  gi_wp2
  exact hK
 case body =>
  rintro l pre x W ⟨⟨hbd,hbx⟩,hB⟩ hlen;have hpl:pre.length<=900000:=by have:=HL.out; omega
  by_cases hx:x.2=1
  ·have HX:=Lh hx
   have hxb:(x.2==1)=true:=by simp [hx]
   clear hx
   gi_wp2_with fail
   refine ⟨trivial,(CallsIn.inRound l (callsIn_wide.2 (zh3 (w.heap.size+1) (w.heap.size+1) _ ⟨#[33]⟩ W hbd (by have h5:=HBL.out; have h6:=HL.out; simp only [List.length_append,List.length_map]; show _+1<=_; omega) (by have:=BD.lt hbd; omega)))).mono ?_⟩
   rintro e W2 ⟨rfl,hbd2,hb2,hoth⟩;have HBD2:=Lh hbd2;have HB2:=Lh hb2;have HO2:=Lh hoth;have HBDX:=Lh hbx;have HBB:=Lh hB;clear hbd2 hb2 hoth hbx hB hbd
   gi_wp2_with fail
   refine ⟨zo8 HO2.out HB2.out.size (by have:=BW.out; have:=HS6.out; omega),⟨HB2.out.mono (Nat.le_succ _),(HO2.out _ _ HBDX.out (fun e=>by have:=BW.out; have h8:=Option.some.inj e; omega) (fun c fz e=>by injection e with _ e2 _; exact absurd e2 (by decide))).trans HBDX.out.symm⟩,⟨?_,HO2.out _ _ HBDX.out (fun e=>by have:=BW.out; have h8:=Option.some.inj e; omega) (fun c fz e=>by injection e with _ e2 _; exact absurd e2 (by decide))⟩,HBB.out.trans (HB2.out.mono (Nat.le_succ _))⟩
   have h7:=HBD2.out;rw [List.map_append, <- List.append_assoc];rw [show List.map (fun p:Int × Int=>endB p.2) [x]=[33] by show [endB x.2]=_; unfold endB; rw [if_pos HX.out]];exact h7
  ·have HX:=Lh hx
   have hxb:(x.2==1)=false:=by simp [hx]
   clear hx
   gi_wp2_with fail
   refine ⟨trivial,(CallsIn.inRound l (callsIn_wide.2 (zh3 (w.heap.size+1) (w.heap.size+1) _ ⟨#[93]⟩ W hbd (by have h5:=HBL.out; have h6:=HL.out; simp only [List.length_append,List.length_map]; show _+1<=_; omega) (by have:=BD.lt hbd; omega)))).mono ?_⟩
   rintro e W2 ⟨rfl,hbd2,hb2,hoth⟩;have HBD2:=Lh hbd2;have HB2:=Lh hb2;have HO2:=Lh hoth;have HBDX:=Lh hbx;have HBB:=Lh hB;clear hbd2 hb2 hoth hbx hB hbd
   gi_wp2_with fail
   refine ⟨zo8 HO2.out HB2.out.size (by have:=BW.out; have:=HS6.out; omega),⟨HB2.out.mono (Nat.le_succ _),(HO2.out _ _ HBDX.out (fun e=>by have:=BW.out; have h8:=Option.some.inj e; omega) (fun c fz e=>by injection e with _ e2 _; exact absurd e2 (by decide))).trans HBDX.out.symm⟩,⟨?_,HO2.out _ _ HBDX.out (fun e=>by have:=BW.out; have h8:=Option.some.inj e; omega) (fun c fz e=>by injection e with _ e2 _; exact absurd e2 (by decide))⟩,HBB.out.trans (HB2.out.mono (Nat.le_succ _))⟩
   have h7:=HBD2.out;rw [List.map_append, <- List.append_assoc];rw [show List.map (fun p:Int × Int=>endB p.2) [x]=[93] by show [endB x.2]=_; unfold endB; rw [if_neg HX.out]];exact h7
 case done =>
  rintro D ys W hD rfl ⟨⟨hbd,hbx⟩,hB⟩ hK;have HB:=Lh hB;have HK:=Lh hK;have HD:=Lh hD;have hbl:=BD.lt hbd;have hstr:=Tryz.Builder_String_any_k (w.heap.size+1) (w.heap.size+1) _ W hbd (by omega);rw [show base++List.map (fun p:Int × Int=>endB p.2) (bwL xs xs.length)=prL n.data.toList xs by rw [HPR.out, <- HRD.out, <- HBS.out,List.nil_append]] at hstr;clear hbd hbx hB hK hD hbl;generalize hout:(⟨(prL n.data.toList xs).toArray⟩ : ByteArray)=out at *;have HOUT:=Lh hout;clear hout
  gi_wp2_with fail
  refine ⟨trivial,(callsIn_wide.2 hstr).mono ?_⟩
  rintro e W2 ⟨rfl,hbd2,hb2,hoth⟩;have hK2:W2.heap[D]?=some (.deferred (some [])):=hoth _ _ HK.out (fun e=>by have:=BW.out; have:=HS6.out; have:=HD.out; have h8:=Option.some.inj e; omega) (fun c fz e=>by cases e);have HK2:=Lh hK2;have HB2:=Lh (HB.out.trans (hb2.mono (Nat.le_succ _)));clear hstr hbd2 hb2 hoth hK2
  gi_wp2_with fail
  refine ⟨by simp,.inl ⟨_,_,rfl,run_takeDeferred HK2.out, ?_⟩⟩
  exact ⟨_,results_tmp rfl _ _ _,by rw [HOUT.out]; rfl,HB2.out.trans (belowK_b (w:=w) (Nat.le_refl _) W2 D _ _ (by have:=BW.out; have:=HS6.out; have:=HD.out; omega) HK2.out rfl rfl)⟩
 case stop =>
  rintro D c pre W _ _ h _;exact h.elim
def zJ0 (l:List UInt8) (w:World) (e:Ending) (w':World):Prop:=e=.returned (.string ⟨l.toArray⟩)/\Below w.heap.size w w'
theorem pr_len (n:List UInt8) (xs:Ws):(prL n xs).length<=n.length+2*xs.length:=by
 unfold prL; rw [List.length_append,List.length_append,List.length_replicate,List.length_map,List.length_reverse]; have:=ye1 xs; omega
end Go.Proofs.YtfgelheiknmjgaaGreatDoor.K

