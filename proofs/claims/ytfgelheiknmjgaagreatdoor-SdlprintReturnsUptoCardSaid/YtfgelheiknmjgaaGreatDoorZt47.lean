
/-
 Texts joined: Law07s Law07r RtC.
-/
import Derived.Test.YtfgelheiknmjgaaGreatDoorZt46
set_option maxRecDepth 1000000
set_option maxHeartbeats 8000000
namespace Go.Proofs.YtfgelheiknmjgaaGreatDoor
open Go.RowKit
theorem doc_ne (x:DefT) (r:List DefT) (hf:zC4 x):zh9 (x::r)≠[]:=by
 intro h;have h1:(zk1 x).length<=(zh9 (x::r)).length:=by
  have:=zh1 [10] (xs:=(x::r).map zk1) (j:=0) (a:=zk1 x) rfl;unfold zh9; omega
 rw [h] at h1;have hk:=hf.1;have e1:wType.length=5:=rfl;have e2:wInterface.length=10:=rfl;have e3:wUnion.length=6:=rfl;have e4:wEnum.length=5:=rfl;have e5:wInput.length=6:=rfl;unfold zk1 at h1
 split at h1
 ·simp only [List.length_append,List.length_nil] at h1; omega
 split at h1
 ·simp only [List.length_append,List.length_nil] at h1; omega
 split at h1
 ·simp only [List.length_append,List.length_nil] at h1; omega
 split at h1
 ·simp only [List.length_append,List.length_nil] at h1; omega
 split at h1
 ·simp only [List.length_append,List.length_nil] at h1; omega
 ·omega
theorem defsQ_tw {xs:List DefT} (hs:defsQ xs):∀ x∈xs,(∀ i∈x.inputs,i.tw.length<=17592186044416)/\∀ i∈x.fields,i.tw.length<=17592186044416/\∀ j∈i.args,j.tw.length<=17592186044416:=fun x hx=>by
 obtain ⟨_,h2,h3,_,_⟩:=hs x hx;exact ⟨fun i hi=>(h2 i hi).2.2,fun i hi=>⟨(h3 i hi).2.2,fun j hj=>((h3 i hi).1 j hj).2.2⟩⟩
theorem yl0 {xs:List DefT} {u:Value} {w:World} (h:DefsR w w.heap.size u xs) (hs:defsQ xs) (W:World) (hW:Below w.heap.size w W):Calls Tryz.prog 14 #[.agg #[u]] W fun e w'=>(∃ b,e=.returned (.bool b)/\(b=false->ltB 1 64 xs ze2=true->(xs.map cntD).sum<=1000))/\Below W.heap.size W w':=by
 cases h1:ltB 1 64 xs ze2 with
 | false=>exact (ym0 xs u W w.heap.size (h.kept hW) hW.size).mono fun e w' ⟨⟨b,he⟩,hb⟩=>⟨⟨b,he,fun _ h=>by cases h⟩,hb⟩
 | true =>
   refine (large_ok xs (fun x hx=>?_) u W w.heap.size (h.kept hW) hW.size).mono fun e w' ⟨⟨b,he,h3⟩,hb⟩=>⟨⟨b,he,fun h _=>(h3 h).2⟩,hb⟩
   have h2:=(zm0 h1).2 x hx;obtain ⟨hk,hF,hM,hI⟩:=zC3 h2;exact (def_ok (hs x hx) h2 hk hF hM hI).2
theorem fit_for {xs:List DefT} {u:Value} {w:World} (h:DefsR w w.heap.size u xs) (hs:defsQ xs) (h1:ltB 1 64 xs ze2=true) (h2:(xs.map cntD).sum<=1000):(∀ x∈xs,zC4 x)/\(zh9 xs).length<=10300000000000/\zh9 xs≠[]:=by
 have hall:∀ x∈xs,zC4 x/\(zk1 x).length+1<=10300000000*cntD x:=fun x hx=>by
  have h2:=(zm0 h1).2 x hx;obtain ⟨hk,hF,hM,hI⟩:=zC3 h2;obtain ⟨A,c,_,_,_,V,_,hr⟩:=h;obtain ⟨q,hq⟩:=List.mem_iff_getElem?.1 hx;exact ⟨(def_ok (hs x hx) h2 hk hF hM hI).1.1,def_len (hr q x hq) (hs x hx) h2⟩
 have h3:=doc_len (xs:=xs) fun x hx=>(hall x hx).2;have h4:0<xs.length:=by unfold ltB at h1; simp at h1; omega
 refine ⟨fun x hx=>(hall x hx).1,by omega, ?_⟩
 cases xs with
 | nil=>simp at h4
 | cons x r=>exact doc_ne x r (hall x (by simp)).1
theorem yi6 {s:ByteArray} {l:List DefT} {w:World} (hL:K.LK w) (h:sdlR s.data.toList=.ok l):Calls Tryz.prog 12 #[.string s] w fun e w'=>Below w.heap.size w w'/\∃ v,e=.returned (.tuple #[.agg #[v],.int .i64 0,.int .i64 0])/\DefsC w' (fun b=>w.heap.size<=b/\b<w'.heap.size) v l:=by
 refine (zK2 s w hL).mono fun e w' hh=>?_
 unfold zD0 at hh;rw [h] at hh;exact hh
theorem LK_laidB {w:World} (hL:K.LK w):LaidB w.heap.size w:=fun _ hb=>⟨(hL.below hb).num.pow⟩
theorem zP7 (u:Value) (xs:List DefT) (w:World) (h:DefsR w w.heap.size u xs) (hs:defsQ xs) (hK:K.LK w):Calls Tryz.prog 5 #[.agg #[u]] w fun e w'=>e=.returned (.bool true)/\Below w.heap.size w w':=by
 obtain ⟨A,c,rfl,hc0,hb0⟩:=Sl.form h;have hL:=LK_laidB hK;have CLA:=Lh (yl0 h hs);have CE:=Lh (fun (W:World) (hW:Below w.heap.size w W)=>zM3 W ((hL.kept hW).mono hW.size));obtain ⟨ra,hra⟩ : ∃ rb,ltB 1 64 xs ze2=rb:=⟨_,rfl⟩;have CRA:Hid (∀ W:World,Below w.heap.size w W->Calls Tryz.prog 9 #[.agg #[.slice A xs.length c]] W (BP ra W)):=Lh fun W hW=>by
  rw [<- hra]; exact zZ2 xs _ W ((h.kept hW).mono hW.size) (defsQ_Z hs)
 have HFT:=Lh (fit_for h hs);have HN:=Lh (DefsR.num h);have HTW:=Lh (defsQ_tw hs);have HLB:=Lh hL;have HK:=Lh hK;have HRD:=Lh h;have HRA:=Lh hra;obtain ⟨n,hn⟩ : ∃ n,xs.length=n:=⟨_,rfl⟩;have HNN:=Lh hn;rw [hn] at CLA CRA HRD ⊢;have HB:=Lh (za0 w (.cells #[.slice A n c] 24 (0,0)));have XA:=Lh (Bk.new w #[.slice A n c] 24);have y0:=XA.out.cell 0 _ rfl;clear h hs hL hK hra hn hc0 hb0
 go_enter Tryz.func5, Tryz.ntmps5
 go_wp2_with fail
 refine (CLA.out _ HB.out).mono ?_
 rintro e w1 ⟨⟨ba,rfl,hba⟩,hb⟩;have HBA:=Lh hba;replace HB:=Lh (HB.out.trans (hb.mono HB.out.size));replace XA:=Lh (XA.out.stay hb);clear hba hb y0 CLA;have y0:=XA.out.cell 0 _ rfl
 cases ba with
 | true =>
   go_wp2_with fail
   refine (CE.out _ HB.out).mono ?_
   rintro e w2 ⟨rfl,hb⟩;have HB2:=Lh (HB.out.trans (hb.mono HB.out.size));clear hb;go_wp2_with fail;go_ret
   exact ⟨rfl,HB2.out⟩
 | false =>
 go_wp2_with fail
 refine (CRA.out _ HB.out).mono ?_
 rintro e w2 ⟨rfl,hb⟩;replace HB:=Lh (HB.out.trans (hb.mono HB.out.size));replace XA:=Lh (XA.out.stay hb);clear hb y0 CRA;have y0:=XA.out.cell 0 _ rfl
 cases ra with
 | false =>
   go_wp2_with fail
   refine (CE.out _ HB.out).mono ?_
   rintro e w2 ⟨rfl,hb⟩;have HB2:=Lh (HB.out.trans (hb.mono HB.out.size));clear hb;go_wp2_with fail;go_ret
   exact ⟨rfl,HB2.out⟩
 | true =>
 have hn0:((n:Int)==0)=false:=by
  have h1:=HRA.out;have h2:=HNN.out;unfold ltB at h1;simp at h1;rw [beq_eq_false_iff_ne];omega
 obtain ⟨f1,f2,f3⟩:=HFT.out HRA.out (HBA.out (by first | rfl | trivial) HRA.out);have d1:docOk xs=true:=(doc_eq xs).trans HRA.out;obtain ⟨o,ho⟩ : ∃ o:ByteArray,bL o=zh9 xs:=⟨⟨(zh9 xs).toArray⟩,bL_mk _⟩;have hoz:o.size=(zh9 xs).length:=by rw [<- za5,ho]
 have CPR:Hid (∀ (v:Value) (W:World),Below w.heap.size w W->DefsR W W.heap.size v xs->Calls Tryz.prog 16 #[.agg #[v]] W fun e w'=>e=.returned (.string o)/\Below W.heap.size W w'):=Lh fun v W hW hv=>by
  have h5:=zL2 xs f1 v W hv ((HLB.out.kept hW).mono hW.size) (by omega) f3;have h6:(⟨(zh9 xs).toArray⟩ : ByteArray)=o:=bL_inj ((bL_mk _).trans ho.symm);exact h5.mono fun e w' hh=>by unfold zJ0 at hh; rw [h6] at hh; exact hh
 have HSD:Hid (o.size<=65536->sdlR o.data.toList=.ok xs):=Lh fun hle=>by
  have:=yf1 d1 HN.out (by omega);rw [<- ho] at this; exact this
 have CP1:=Lh (CPR.out _ w2 HB.out ((HRD.out.kept HB.out).mono HB.out.size));clear f1 f2 f3 d1 ho hoz HFT HBA HN;go_wp2_with fail;refine CP1.out.mono ?_
 rintro e w3 ⟨rfl,hb⟩;replace HB:=Lh (HB.out.trans (hb.mono HB.out.size));replace XA:=Lh (XA.out.stay hb);clear hb y0 CP1;have y0:=XA.out.cell 0 _ rfl;by_cases hle:o.size<=65536;rotate_left
 ·have g1:decide ((65536:Int)<(o.size:Int))=true:=by simp; omega
  go_wp2_with fail
  refine (CE.out _ HB.out).mono ?_
  rintro e w2 ⟨rfl,hb⟩;have HB2:=Lh (HB.out.trans (hb.mono HB.out.size));clear hb;go_wp2_with fail;go_ret
  exact ⟨rfl,HB2.out⟩
 have g1:decide ((65536:Int)<(o.size:Int))=false:=by simp; omega
 have PJ:=Lh (yi6 (HK.out.below HB.out) (HSD.out hle));clear hle;go_wp2_with fail;refine PJ.out.mono ?_
 rintro e w4 ⟨hb4,v4,rfl,hd4⟩;obtain ⟨A4,c4,rfl,hc4,_⟩:=SlS.form hd4;rw [HNN.out] at hd4 hc4 ⊢;have hs4:=hb4.size;have HB4:=Lh (HB.out.trans (hb4.mono HB.out.size));have HX4:=Lh ((XA.out.stay hb4).stay (za0 w4 (.cells #[.slice A4 n c4] 24 (0,0))));have HBY:=Lh (HB4.out.trans ((za0 w4 (.cells #[.slice A4 n c4] 24 (0,0))).mono HB4.out.size));have HXY:=Lh (Bk.new w4 #[.slice A4 n c4] 24);have hR2:DefsR (w4.alloc (.cells #[.slice A4 n c4] 24 (0,0))) (w4.alloc (.cells #[.slice A4 n c4] 24 (0,0))).heap.size (.slice A4 n c4) xs:=DefsR.mono (DefsR.kept (DefsC.toR (B:=w4.heap.size) (fun b hb=>hb.2) hd4) (za0 w4 (.cells #[.slice A4 n c4] 24 (0,0)))) (by rw [World.size_alloc]; omega);have HR2:=Lh hR2;have CRS:=Lh (zK6 xs xs _ _ _ hR2 ((HRD.out.kept HBY.out).mono HBY.out.size) HTW.out);rw [yf3] at CRS;have z0:=HX4.out.cell 0 _ rfl;have z1:=HXY.out.cell 0 _ rfl;clear hd4 hc4 hb4 hs4 PJ y0 hR2;go_wp2_with fail;refine CRS.out.mono ?_
 rintro e w5 ⟨rfl,hb⟩;have HB5:=Lh (HBY.out.trans (hb.mono HBY.out.size));have HY5:=Lh (HXY.out.stay hb);have CP2:=Lh (CPR.out _ w5 HB5.out ((HR2.out.kept hb).mono hb.size));clear hb z0 z1 CRS;have z1:=HY5.out.cell 0 _ rfl;have hoo:decide (o=o)=true:=by simp
 go_wp2_with fail
 refine CP2.out.mono ?_
 rintro e w6 ⟨rfl,hb⟩;have HB6:=Lh (HB5.out.trans (hb.mono HB5.out.size));clear hb z1 CP2;go_wp2_with fail;refine (CE.out _ HB6.out).mono ?_
 rintro e w' ⟨rfl,hb⟩;have HB7:=Lh (HB6.out.trans (hb.mono HB6.out.size));clear hb;go_wp2_with fail;go_ret
 exact ⟨rfl,HB7.out⟩
end Go.Proofs.YtfgelheiknmjgaaGreatDoor
namespace Go.Proofs.YtfgelheiknmjgaaGreatDoor.sdlprintReturns
open Go.ChangeShapes Go.WideShapes Go.ChangeAt Go.RowKit
theorem open_doc {H:Type} {enc:TypeId × Value->H} {W:World} {spare:Nat->Bool} {held:Bool} {base:Nat} {v:Value} {d:DataW H} {p:List MemPlace} (hok:Value.okWide Tryz.prog W .any base 24 v) (h:DataW.Trod enc Tryz.prog W 0 spare held 24 v d p)
  (hw:∀ n∈d.weights Tryz.prog 24,n<=reachBytes):∃ u l,v=.agg #[u]/\DefsR W W.heap.size u l/\(Rows.uptoBulk d<=1048576->defsQ l):=by
 obtain ⟨cs0,rfl,_⟩:=okWide_struct Tryz.underlying24 hok;obtain ⟨fuel,hf0⟩:=h;obtain ⟨xs,n,rfl,hx,hl,hxl,hf⟩:=DataW.trod_struct Tryz.underlying24 hf0;rw [show Tryz.prog.cellsOf 24 = 1 by kernel_rfl] at hl;obtain ⟨c0,e0⟩ : ∃ c0,cs0=#[c0]:=by
  have:cs0.toList.length=1:=by simpa [Value.cells] using hl
  match hq:cs0.toList,this with
  | [c0],_=>exact ⟨c0,Array.toList_inj.1 hq⟩
 subst e0
 match xs,hxl with
 | [x0],_ =>
 have f0:DataW.trod enc Tryz.prog W 0 spare held n 22 [c0]=some x0:=by
  have this:DataW.trod enc Tryz.prog W 0 spare held n 22 ((([c0]:List Value).drop 0).take (Tryz.prog.cellsOf 22))=some x0:=hf 0 _ rfl;rw [show Tryz.prog.cellsOf 22 = 1 by kernel_rfl] at this; exact this
 simp only [Prod.mk.injEq] at hx
 obtain ⟨rfl,_⟩:=hx;have hw':∀ q∈(x0.1.weights Tryz.prog 22 ++ []),q<=reachBytes:=by
  intro q hq;refine hw q ?_;simpa only [DataW.weights,Tryz.underlying24,DataW.weightsEach,List.map_cons,List.map_nil] using hq
 obtain ⟨A,l,c,ys,e1,hsl,hS⟩:=ze6 (enc:=enc) (spare:=spare) (held:=held) 39 22 7 144 DefR (fun x=>dirsQ x.dirs/\inpsQ x.inputs/\fldsQ x.fields/\memsQ x.members/\x.impl.length<=17592186044416) Tryz.underlying22 (by kernel_rfl) (by decide) (by kernel_rfl) DefT0 open_Def f0 (fun q hq=>hw' q (by simp [hq]));simp only [List.cons.injEq,and_true] at e1
 subst e1;exact ⟨_,ys,rfl,hsl,fun hB=>hS (by simp only [Rows.uptoBulk,Rows.uptoBulkAll,List.map_cons,List.map_nil] at hB; omega)⟩
theorem contract (H:Type) (enc:TypeId × Value->H) (W:World) (base:Nat) (args:Array Value) (ds gs:List (DataW H)) (before:List MemPlace)
  (hval:∀ (j:Nat) t v,Tryz.f5.params[j]?=some t->args[j]?=some v->Value.okWide Tryz.prog W .any base t v)
  (hW:DataW.Whole enc Tryz.prog Tryz.f5.params.toList Rows.sdlprintReturnsSpec.vars false W args.toList ds gs before)
  (hz:(DataW.weightsEach Tryz.prog (Tryz.f5.params.toList++(OpenSpec.ofChange Rows.sdlprintReturnsSpec).bare.plain.varTypes Tryz.prog) (ds++gs)).all (·<=reachBytes)=true) (hk:Rows.uptoSmall H (ds++gs)=true) (hL:laidMetH Tryz.prog Rows.sdlprintReturnsUptoRow.laid W) :
  Calls Tryz.prog 5 args W fun e W'=>∃ v,e=.returned v/\Rows.sdlprintReturnsSpec.post enc Tryz.prog Tryz.f5 false true false false W args v W':=by
 have hW':=hW;have hlt:∀ x∈before,x.block<W.heap.size:=fun x hx=>by simpa using hW.lt x hx
 obtain ⟨p,q,hA0,hV,rfl,hfz,hnd⟩:=hW;have hA:DataW.TrodAll enc Tryz.prog W 0 (fun _=>true) true Tryz.f5.params.toList args.toList ds p:=hA0;rw [Tryz.params5] at hA hval hz;obtain ⟨v0,vs0,d0,ds0,p0,q0,hargs,rfl,rfl,h0,r0⟩:=trodAll_cons hA;obtain ⟨rfl,rfl,rfl⟩:=trodAll_nil r0;obtain rfl:args=#[v0]:=by cases args; simp_all
 obtain ⟨rfl,rfl⟩:=trodVars_none hV;have k0:=h0;have hz':(DataW.weightsEach Tryz.prog ((#[24]:Array TypeId).toList++[]) ([d0]++[])).all (·<=reachBytes)=true:=hz;simp only [List.append_nil] at hz';obtain ⟨u0,l0,rfl,m0,s0⟩:=open_doc (hval 0 24 v0 rfl rfl) h0 (fun n hn=>by have:=List.all_eq_true.1 hz' n (DataW.weights_mem_each (j:=0) (t := 24) rfl rfl n hn); simpa using this);clear hA0;simp only [List.append_nil] at hW' hlt;have hLL:K.LK W:=K.laid_of hL;have hbk:=of_decide_eq_true hk;simp only [List.append_nil,Rows.uptoBulkAll] at hbk;refine (zP7 u0 l0 W m0 (s0 (by omega)) hLL).mono fun e W' ⟨he,hb⟩=>?_
 subst he;exact ⟨_,rfl,_,_,_,[],_,[],hW',trodAll_cons_mk (shut_bool Tryz.underlying4 _) trodAll_mk0,trodAll_cons_mk (Below.trod laidOut (by kernel_rfl) (of_decide_eq_true (by kernel_rfl)) k0 hb (fun x hx=>hlt x (by simp [hx]))) (trodAll_mk0),rfl,hb.frame _,fun h=>by cases h⟩
theorem lifted (os:Os) (started:os.Started) (H:Type) (enc:TypeId × Value->H) (F:Stop.Interp) :
  ReturnsInHanded {} Tryz.checked os 5 .any ((Rows.OpenSpec.upto Rows.sdlprintReturnsSpec).preRow enc Tryz.prog Tryz.f5 Rows.sdlprintReturnsUptoRow.domain false Rows.sdlprintReturnsUptoRow.laid) (((Rows.OpenSpec.upto Rows.sdlprintReturnsSpec).at F).post enc Tryz.prog Tryz.f5 false true false false):=by
 have hx:DataW.whole enc Tryz.prog ((K.zv3 os).forCall (fun _ _=>0) ⟨#[],#[.agg #[.slice none 0 0]],[]⟩).memory Tryz.f5.params.toList Rows.sdlprintReturnsSpec.vars false (#[.agg #[.slice none 0 0]]:Array Value).toList 8=some ([.agg [.nil]],[],[]):=by kernel_rfl
 refine returnsInHanded_of_row (C:=Tryz.checked) (s:=Rows.OpenSpec.upto Rows.sdlprintReturnsSpec) K.own started (by kernel_rfl) Tryz.func5
  (witness_row_atRef (enc:=enc) (C:=Tryz.checked) false (K.zv3 os) #[.agg #[.slice none 0 0]] (K.laid_os os) (by kernel_rfl) (by kernel_rfl) (by kernel_rfl)
    (OpenSpec.preRow_of_cond 8 hx (by kernel_rfl) (fun k hk=>by cases hk; kernel_rfl) (by kernel_rfl) (K.laid_met os _))) ?_
 intro W base args ds gs before hval hW _ hcond hz hL _ _;exact contract H enc W base args ds gs before hval hW hz (hcond _ rfl) hL
end Go.Proofs.YtfgelheiknmjgaaGreatDoor.sdlprintReturns

