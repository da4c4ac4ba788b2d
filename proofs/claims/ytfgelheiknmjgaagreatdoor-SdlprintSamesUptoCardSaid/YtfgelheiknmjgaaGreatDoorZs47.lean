
/-
 Texts joined: LsC.
-/
import Derived.Test.YtfgelheiknmjgaaGreatDoorZs5
import Derived.Test.YtfgelheiknmjgaaGreatDoorZs6
import Derived.Test.YtfgelheiknmjgaaGreatDoorZs9
import Derived.Test.YtfgelheiknmjgaaGreatDoorZs46
namespace Go.Proofs.YtfgelheiknmjgaaGreatDoor.sdlprintSames
open Go.ChangeShapes Go.WideShapes Go.ChangeAt Go.RowKit
set_option maxRecDepth 100000 in
theorem zG4 {H:Type} {enc:TypeId × Value → H} {W:World} {spare:Nat → Bool} {held:Bool} {base:Nat} {v:Value} {d:DataW H} {p:List MemPlace} (hok:Value.okWide Tryz.prog W .any base 24 v) (h:DataW.Trod enc Tryz.prog W 0 spare held 24 v d p)
  (hw:∀ n ∈ d.weights Tryz.prog 24,n ≤ reachBytes):∃ u l,v = .agg #[u] ∧ DefsR W W.heap.size u l ∧ (Rows.uptoBulk d ≤ 1048576 → defsQ l):=by
 obtain ⟨cs0,rfl,_⟩:=okWide_struct Tryz.underlying24 hok
 obtain ⟨fuel,hf0⟩:=h
 obtain ⟨xs,n,rfl,hx,hl,hxl,hf⟩:=DataW.trod_struct Tryz.underlying24 hf0
 rw [show Tryz.prog.cellsOf 24 = 1 by kernel_rfl] at hl
 obtain ⟨c0,e0⟩ : ∃ c0,cs0 = #[c0]:=by
  have:cs0.toList.length = 1:=by simpa [Value.cells] using hl
  match hq:cs0.toList,this with
  | [c0],_ => exact ⟨c0,Array.toList_inj.1 hq⟩
 subst e0
 match xs,hxl with
 | [x0],_ =>
 have f0:DataW.trod enc Tryz.prog W 0 spare held n 22 [c0] = some x0:=by
  have this:DataW.trod enc Tryz.prog W 0 spare held n 22 ((([c0]:List Value).drop 0).take (Tryz.prog.cellsOf 22)) = some x0:=hf 0 _ rfl
  rw [show Tryz.prog.cellsOf 22 = 1 by kernel_rfl] at this; exact this
 simp only [Prod.mk.injEq] at hx
 obtain ⟨rfl,_⟩:=hx
 have hw':∀ q ∈ (x0.1.weights Tryz.prog 22 ++ []),q ≤ reachBytes:=by
  intro q hq
  refine hw q ?_
  simpa only [DataW.weights,Tryz.underlying24,DataW.weightsEach,List.map_cons,List.map_nil] using hq
 obtain ⟨A,l,c,ys,e1,hsl,hS⟩:=zd4 (enc:=enc) (spare:=spare) (held:=held) 39 22 7 144 DefR (fun x => dirsQ x.dirs ∧ inpsQ x.inputs ∧ fldsQ x.fields ∧ memsQ x.members ∧ x.impl.length ≤ 17592186044416) Tryz.underlying22 (by kernel_rfl) (by decide) (by kernel_rfl) DefT0 open_Def f0 (fun q hq => hw' q (by simp [hq]))
 simp only [List.cons.injEq,and_true] at e1
 subst e1
 exact ⟨_,ys,rfl,hsl,fun hB => hS (by simp only [Rows.uptoBulk,Rows.uptoBulkAll,List.map_cons,List.map_nil] at hB; omega)⟩
set_option maxRecDepth 1000000 in
set_option maxHeartbeats 2000000 in
theorem contract (H:Type) (enc:TypeId × Value → H) (W:World) (base:Nat) (args:Array Value) (ds gs:List (DataW H)) (before:List MemPlace)
  (hval:∀ (j:Nat) t v,Tryz.f6.params[j]? = some t → args[j]? = some v → Value.okWide Tryz.prog W .any base t v)
  (hW:DataW.Whole enc Tryz.prog Tryz.f6.params.toList Rows.sdlprintSamesSpec.vars false W args.toList ds gs before)
  (hz:(DataW.weightsEach Tryz.prog (Tryz.f6.params.toList ++ (OpenSpec.ofChange Rows.sdlprintSamesSpec).bare.plain.varTypes Tryz.prog) (ds ++ gs)).all (· ≤ reachBytes) = true) (hk:Rows.uptoSmall H (ds ++ gs) = true) (hL:laidMetH Tryz.prog Rows.sdlprintSamesUptoRow.laid W) :
  Calls Tryz.prog 6 args W fun e W' => ∃ v,e = .returned v ∧ Rows.sdlprintSamesSpec.post enc Tryz.prog Tryz.f6 false true false false W args v W':=by
 have hW':=hW
 have hlt:∀ x ∈ before,x.block < W.heap.size:=fun x hx => by simpa using hW.lt x hx
 obtain ⟨p,q,hA0,hV,rfl,hfz,hnd⟩:=hW
 have hA:DataW.TrodAll enc Tryz.prog W 0 (fun _ => true) true Tryz.f6.params.toList args.toList ds p:=hA0
 rw [Tryz.params6] at hA hval hz
 obtain ⟨v0,vs0,d0,ds0,p0,q0,hargs,rfl,rfl,h0,r0⟩:=trodAll_cons hA
 obtain ⟨v1,vs1,d1,ds1,p1,q1,ha1,rfl,rfl,h1,r1⟩:=trodAll_cons r0
 obtain ⟨rfl,rfl,rfl⟩:=trodAll_nil r1
 subst ha1
 obtain rfl:args = #[v0,v1]:=by cases args; simp_all
 obtain ⟨rfl,rfl⟩:=trodVars_none hV
 have k0:=h0
 have k1:=h1
 have hz':(DataW.weightsEach Tryz.prog ((#[24, 24]:Array TypeId).toList ++ []) ([d0,d1] ++ [])).all (· ≤ reachBytes) = true:=hz
 simp only [List.append_nil] at hz'
 obtain ⟨u0,l0,rfl,m0,s0⟩:=zG4 (hval 0 24 v0 rfl rfl) h0 (fun n hn => by have:=List.all_eq_true.1 hz' n (DataW.weights_mem_each (j:=0) (t := 24) rfl rfl n hn); simpa using this)
 obtain ⟨u1,l1,rfl,m1,s1⟩:=zG4 (hval 1 24 v1 rfl rfl) h1 (fun n hn => by have:=List.all_eq_true.1 hz' n (DataW.weights_mem_each (j:=1) (t := 24) rfl rfl n hn); simpa using this)
 clear hA0
 simp only [List.append_nil] at hW' hlt
 have hLL:T1.LaidP W:=P.laid_of hL
 have hbk:=of_decide_eq_true hk
 simp only [List.append_nil,Rows.uptoBulkAll] at hbk
 refine (zM6 u0 u1 l0 l1 W m0 m1 (s0 (by omega)) (s1 (by omega)) (fun w' hb' => hLL.below hb')).mono fun e W' ⟨he,hb⟩ => ?_
 subst he
 exact ⟨_,rfl,_,_,_,[],_,[],hW',trodAll_cons_mk (shut_bool Tryz.underlying4 _) trodAll_mk0,trodAll_cons_mk (Below.trod zP9 (by kernel_rfl) (of_decide_eq_true (by kernel_rfl)) k0 hb (fun x hx => hlt x (by simp [hx]))) (trodAll_cons_mk (Below.trod zP9 (by kernel_rfl) (of_decide_eq_true (by kernel_rfl)) k1 hb (fun x hx => hlt x (by simp [hx]))) (trodAll_mk0)),rfl,hb.frame _,fun h => by cases h⟩
set_option maxRecDepth 1000000 in
theorem lifted (os:Os) (started:os.Started) (H:Type) (enc:TypeId × Value → H) (F:Stop.Interp) :
  ReturnsInHanded {} Tryz.checked os 6 .any ((Rows.OpenSpec.upto Rows.sdlprintSamesSpec).preRow enc Tryz.prog Tryz.f6 Rows.sdlprintSamesUptoRow.domain false Rows.sdlprintSamesUptoRow.laid) (((Rows.OpenSpec.upto Rows.sdlprintSamesSpec).at F).post enc Tryz.prog Tryz.f6 false true false false):=by
 have hx:DataW.whole enc Tryz.prog ((P.laidWorld os).forCall (fun _ _ => 0) ⟨#[],#[.agg #[.slice none 0 0],.agg #[.slice none 0 0]],[]⟩).memory Tryz.f6.params.toList Rows.sdlprintSamesSpec.vars false (#[.agg #[.slice none 0 0],.agg #[.slice none 0 0]]:Array Value).toList 8 = some ([.agg [.nil],.agg [.nil]],[],[]):=by kernel_rfl
 refine returnsInHanded_of_row (C:=Tryz.checked) (s:=Rows.OpenSpec.upto Rows.sdlprintSamesSpec) P.own started (by kernel_rfl) Tryz.func6
  (witness_row_atRef (enc:=enc) (C:=Tryz.checked) false (P.laidWorld os) #[.agg #[.slice none 0 0],.agg #[.slice none 0 0]] (P.laid_os os) (by kernel_rfl) (by kernel_rfl) (by kernel_rfl)
    (OpenSpec.preRow_of_cond 8 hx (by kernel_rfl) (fun k hk => by cases hk; kernel_rfl) (by kernel_rfl) (P.laid_met os _))) ?_
 intro W base args ds gs before hval hW _ hcond hz hL _ _
 exact contract H enc W base args ds gs before hval hW hz (hcond _ rfl) hL
end Go.Proofs.YtfgelheiknmjgaaGreatDoor.sdlprintSames

