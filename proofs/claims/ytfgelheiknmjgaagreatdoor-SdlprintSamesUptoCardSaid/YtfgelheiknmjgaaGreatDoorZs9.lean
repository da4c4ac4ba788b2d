
/-
 Texts joined: DOpenQ Sa KScan.
-/
import Derived.Test.YtfgelheiknmjgaaGreatDoorZs8
import Derived.ChangeSlices
import Derived.Test.YtfgelheiknmjgaaGreatDoorZs6
import Derived.Test.YtfgelheiknmjgaaGreatDoorZs7
import Derived.Test.YtfgelheiknmjgaaGreatDoorZs5
namespace Go.Proofs.YtfgelheiknmjgaaGreatDoor
open Go.RowKit Go.ChangeShapes Go.WideShapes
theorem at_add (b:Addr) (j:Nat):b.add j = at_ b j:=by cases j <;> rfl
theorem zI3 {H:Type}:∀ (l:List (DataW H)) (d:DataW H),d ∈ l → Rows.uptoBulk d ≤ Rows.uptoBulkAll l
 | a :: r,d,h => by
   rw [Rows.uptoBulkAll]
   rcases List.mem_cons.1 h with rfl | h
   ·omega
   ·have:=zI3 r d h; omega
section
variable {H:Type} {enc:TypeId × Value → H} {w:World} {spare:Nat → Bool} {held:Bool}
set_option maxRecDepth 100000 in
theorem zd4 {α:Type} (T SL:TypeId) (k bytes:Nat) (R:World → Nat → (Nat → Value) → α → Prop) (S : α → Prop) (hu : Tryz.prog.underlying SL = some (.slice T)) (hk : Tryz.prog.cellsOf T = k) (hk0:0 < k) (hb : Tryz.prog.bytesOf T = bytes) (dflt : α)
  (hel:∀ (fuel:Nat) (cs:List Value) (x:DataW H × List MemPlace),DataW.trod enc Tryz.prog w 0 spare held fuel T cs = some x → (∀ n ∈ x.1.weights Tryz.prog T,n ≤ reachBytes) → ∃ (f:Nat → Value) (y : α),cs = (List.range k).map f ∧ R w w.heap.size f y ∧ (Rows.uptoBulk x.1 ≤ 1048576 → S y))
  {fuel:Nat} {cs:List Value} {x:DataW H × List MemPlace} (h:DataW.trod enc Tryz.prog w 0 spare held fuel SL cs = some x) (hw:∀ n ∈ x.1.weights Tryz.prog SL,n ≤ reachBytes) :
  ∃ (A:Option Addr) (l c:Nat) (ys:List α),cs = [.slice A l c] ∧ Sl k bytes R w w.heap.size (.slice A l c) ys ∧ (Rows.uptoBulk x.1 ≤ 1048576 → ∀ y ∈ ys,S y):=by
 rcases DataW.trod_slice hu h with ⟨e3,_⟩ | ⟨a,len,cap,elems,rest,m,rfl,e3,rfl,_,hlc,hcm,hle,hat,hsp,hns⟩
 ·exact ⟨_,_,_,[],e3,⟨none,0,rfl,Nat.le_refl _,by simp,fun _ _ => undef,fun h0 => absurd h0 (by simp),fun i y hy => by simp at hy⟩,fun _ y hy => by cases hy⟩
 ·have hw3:∀ d ∈ elems.map (·.1), ∀ q ∈ d.weights Tryz.prog T,q ≤ reachBytes:=by
   intro d hd q hq
   refine hw q ?_
   simp only [DataW.weights,hu,List.mem_append,List.mem_cons]
   exact .inr (.inl (zj1 hd q hq))
  have hb3:len * bytes ≤ 140737488355328 - 4096:=by
   have:=hw ((elems.length + rest.length) * bytes) (by
    simp only [DataW.weights,hu,List.mem_append,List.mem_cons,hb,List.length_map]
    simp)
   unfold reachBytes at this
   rw [hle] at this
   have h2:len * bytes ≤ (len + rest.length) * bytes:=Nat.mul_le_mul_right _ (by omega)
   omega
  rw [hk] at hat
  have hitem:∀ i,i < len → ∃ T2:(Nat → Value) × α,(∀ j,j < k → w.cell? (at_ (a.add (i * k)) j) = some (T2.1 j)) ∧ R w w.heap.size T2.1 T2.2 ∧ (Rows.uptoBulkAll (elems.map (·.1)) ≤ 1048576 → S T2.2):=by
   intro i hi
   have h1:=hat i hi
   have hlt:i < elems.length:=by omega
   rw [List.getElem?_eq_getElem hlt,Option.bind_eq_some_iff] at h1
   obtain ⟨cs',hc,ht⟩:=h1
   have hmem:=List.mem_map_of_mem (f:=fun q:DataW H × List MemPlace => q.1) (List.getElem_mem hlt)
   obtain ⟨f,y,rfl,hr,hs⟩:=hel m cs' _ ht (hw3 _ hmem)
   obtain ⟨_,_,hg⟩:=World.cells?_some hc
   refine ⟨⟨f,y⟩,fun j hj => ?_,hr,fun hbk => hs (Nat.le_trans (zI3 _ _ hmem) hbk)⟩
   rw [← at_add,hg j hj]
   simp [hj]
  obtain ⟨T2,hT⟩ : ∃ T2:Nat → (Nat → Value) × α, ∀ i,i < len → (∀ j,j < k → w.cell? (at_ (a.add (i * k)) j) = some ((T2 i).1 j)) ∧ R w w.heap.size (T2 i).1 (T2 i).2 ∧ (Rows.uptoBulkAll (elems.map (·.1)) ≤ 1048576 → S (T2 i).2):=by
   refine ⟨fun i => if h:i < len then (hitem i h).choose else (fun _ => undef,dflt),fun i h => ?_⟩
   simp only [dif_pos h]
   exact (hitem i h).choose_spec
  refine ⟨some a,len,cap,(List.range len).map fun i => (T2 i).2,e3,⟨some a,cap,by simp,by simpa using hlc,by simp; unfold big; omega,fun i => (T2 i).1,fun h0 => ⟨a,rfl, ?_,fun i hi j hj => (hT i (by simpa using hi)).1 j hj⟩,fun i y hi => ?_⟩,fun hbk y hy => ?_⟩
  ·have:=zE8 ((hT 0 (by simpa using h0)).1 0 hk0)
   rwa [za7,za1] at this
  ·have hlt:i < len:=by simpa using (List.getElem?_eq_some_iff.1 hi).1
   simp [hlt] at hi
   subst hi
   exact (hT i hlt).2.1
  ·obtain ⟨i,hi,rfl⟩:=List.mem_map.1 hy
   refine (hT i (List.mem_range.1 hi)).2.2 ?_
   simp only [Rows.uptoBulk] at hbk
   omega
theorem zy5 : Tryz.prog.cellsOf 83 = 1:=by kernel_rfl
theorem zh0 : Tryz.prog.cellsOf 34 = 1:=by kernel_rfl
theorem zu4 : Tryz.prog.cellsOf 35 = 1:=by kernel_rfl
theorem zm8 : Tryz.prog.cellsOf 37 = 1:=by kernel_rfl
theorem zr8 : Tryz.prog.cellsOf 36 = 1:=by kernel_rfl
theorem zD6 : Tryz.prog.cellsOf 33 = 1:=by kernel_rfl
theorem zr3 : Tryz.prog.cellsOf 88 = 6:=by kernel_rfl
theorem zD5 : Tryz.prog.cellsOf 39 = 7:=by kernel_rfl
theorem zg1 : Tryz.prog.cellsOf 85 = 2:=by kernel_rfl
theorem zn7 : Tryz.prog.cellsOf 46 = 5:=by kernel_rfl
theorem zi7 : Tryz.prog.cellsOf 55 = 10:=by kernel_rfl
theorem zm6 : Tryz.prog.cellsOf 48 = 2:=by kernel_rfl
theorem zm5 : Tryz.prog.cellsOf 44 = 2:=by kernel_rfl
theorem zn6 : Tryz.prog.cellsOf 53 = 5:=by kernel_rfl
theorem zT4 : Tryz.prog.cellsOf 4 = 1:=by kernel_rfl
theorem zI1 : Tryz.prog.cellsOf 3 = 1:=by kernel_rfl
theorem zd8 : Tryz.prog.cellsOf 9 = 1:=by kernel_rfl
set_option maxRecDepth 100000 in
theorem zO2 {fuel:Nat} {cs:List Value} {x:DataW H × List MemPlace} (h:DataW.trod enc Tryz.prog w 0 spare held fuel 44 cs = some x) (hw:∀ n ∈ x.1.weights Tryz.prog 44,n ≤ reachBytes) :
  ∃ (c0 c1:Value) (n:ByteArray) (xs:List Int),cs = [c0,c1] ∧ RfR w w.heap.size c0 c1 n xs:=by
 obtain ⟨xs,n,rfl,rfl,hl,hxl,hf⟩:=DataW.trod_struct Tryz.underlying44 h
 rw [zm5] at hl
 match cs,hl,xs,hxl with
 | [c0,c1],_,[x0,x1],_ =>
 have f0:DataW.trod enc Tryz.prog w 0 spare held n 9 [c0] = some x0:=by
  have this:DataW.trod enc Tryz.prog w 0 spare held n 9 (([c0,c1].drop 0).take (Tryz.prog.cellsOf 9)) = some x0:=hf 0 _ rfl
  rw [zd8] at this; exact this
 have f1:DataW.trod enc Tryz.prog w 0 spare held n 42 [c1] = some x1:=by
  have this:DataW.trod enc Tryz.prog w 0 spare held n 42 (([c0,c1].drop 1).take (Tryz.prog.cellsOf 42)) = some x1:=hf 1 _ rfl
  rw [show Tryz.prog.cellsOf 42 = 1 by kernel_rfl] at this; exact this
 obtain ⟨s,e0,rfl,hs⟩:=DataW.trod_string Tryz.underlying9 f0
 have hw':∀ q ∈ ((Lit.string s.data.toList |> (.lit:Lit → DataW H)).weights Tryz.prog 9 ++ (x1.1.weights Tryz.prog 42 ++ [])),q ≤ reachBytes:=by
  intro q hq
  refine hw q ?_
  simpa only [DataW.weights,Tryz.underlying44,DataW.weightsEach,List.map_cons,List.map_nil] using hq
 have hss:s.size ≤ 140737488351232:=by
  have:=hw' s.data.toList.length (by simp [DataW.weights])
  unfold reachBytes at this
  rw [zb8] at this; exact this
 obtain ⟨A,l,c,ys,e1,hsl,_⟩:=zd4 (enc:=enc) (spare:=spare) (held:=held) 3 42 1 8 IntR (fun _ => True) Tryz.underlying42 zI1 (by decide) (by kernel_rfl) 0
  (fun fuel cs x hx _ => by
    obtain ⟨k0,e,rfl,wf0⟩:=DataW.trod_int Tryz.underlying3 hx
    exact ⟨fun _ => .int .i64 k0,k0,e,⟨rfl,zs4 wf0⟩,fun _ => trivial⟩) f1 (fun q hq => hw' q (by simp [hq]))
 simp only [List.cons.injEq,and_true] at e0 e1
 subst e0 e1
 exact ⟨_,_,s,ys,rfl,⟨rfl,hss,hsl⟩⟩
set_option maxRecDepth 100000 in
theorem open_Arg (fuel:Nat) (cs:List Value) (x:DataW H × List MemPlace) (h:DataW.trod enc Tryz.prog w 0 spare held fuel 88 cs = some x) (hw:∀ n ∈ x.1.weights Tryz.prog 88,n ≤ reachBytes) :
  ∃ (f:Nat → Value) (y:(ByteArray × VT)),cs = (List.range 6).map f ∧ ArgR w w.heap.size f y ∧ (Rows.uptoBulk x.1 ≤ 1048576 → (fun y => y.2.bw ≤ 1048576) y):=by
 obtain ⟨xs,n,rfl,rfl,hl,hxl,hf⟩:=DataW.trod_struct Tryz.underlying88 h
 rw [zr3] at hl
 match cs,hl,xs,hxl with
 | [c0,c1,c2,c3,c4,c5],_,[x0,x1],_ =>
 have f0:DataW.trod enc Tryz.prog w 0 spare held n 9 [c0] = some x0:=by
  have this:DataW.trod enc Tryz.prog w 0 spare held n 9 (([c0,c1,c2,c3,c4,c5].drop 0).take (Tryz.prog.cellsOf 9)) = some x0:=hf 0 _ rfl
  rw [zd8] at this; exact this
 have f1:DataW.trod enc Tryz.prog w 0 spare held n 53 [c1,c2,c3,c4,c5] = some x1:=by
  have this:DataW.trod enc Tryz.prog w 0 spare held n 53 (([c0,c1,c2,c3,c4,c5].drop 1).take (Tryz.prog.cellsOf 53)) = some x1:=hf 1 _ rfl
  rw [zn6] at this; exact this
 obtain ⟨s0,e0,rfl,hs0⟩:=DataW.trod_string Tryz.underlying9 f0
 have hw':∀ q ∈ (((Lit.string s0.data.toList |> (.lit:Lit → DataW H)).weights Tryz.prog 9) ++ ((x1.1.weights Tryz.prog 53) ++ [])),q ≤ reachBytes:=by
  intro q hq
  refine hw q ?_
  simpa only [DataW.weights,Tryz.underlying88,DataW.weightsEach,List.map_cons,List.map_nil] using hq
 have hz0:s0.size ≤ 140737488351232:=by
  have:=hw' s0.data.toList.length (by simp [DataW.weights])
  unfold reachBytes at this
  rw [zb8] at this; exact this
 obtain ⟨d0,d1,d2,d3,d4,t1,e1,hrd1,hbk1⟩:=zt8 n f1 (fun q hq => hw' q (by simp [hq]))
 simp only [List.cons.injEq,and_true] at e0 e1
 subst e0
 obtain ⟨rfl,rfl,rfl,rfl,rfl⟩:=e1
 refine ⟨fun j => ([Value.string s0,c1,c2,c3,c4,c5]:List Value).getD j undef,(s0,t1),rfl, ?_,fun hB => ?_⟩
 ·exact ⟨rfl,hz0,hrd1⟩
 ·exact by show t1.bw ≤ _; have:=hbk1; simp only [Rows.uptoBulk,Rows.uptoBulkAll,List.map_cons,List.map_nil] at hB; omega
def ArgT0:(ByteArray × VT):=(⟨#[]⟩,.mk 0 0 ⟨#[]⟩ [] [])
set_option maxRecDepth 100000 in
theorem zs9 (fuel:Nat) (cs:List Value) (x:DataW H × List MemPlace) (h:DataW.trod enc Tryz.prog w 0 spare held fuel 85 cs = some x) (hw:∀ n ∈ x.1.weights Tryz.prog 85,n ≤ reachBytes) :
  ∃ (f:Nat → Value) (y:DirT),cs = (List.range 2).map f ∧ DirR w w.heap.size f y ∧ (Rows.uptoBulk x.1 ≤ 1048576 → (fun y => argsQ y.args) y):=by
 obtain ⟨xs,n,rfl,rfl,hl,hxl,hf⟩:=DataW.trod_struct Tryz.underlying85 h
 rw [zg1] at hl
 match cs,hl,xs,hxl with
 | [c0,c1],_,[x0,x1],_ =>
 have f0:DataW.trod enc Tryz.prog w 0 spare held n 9 [c0] = some x0:=by
  have this:DataW.trod enc Tryz.prog w 0 spare held n 9 (([c0,c1].drop 0).take (Tryz.prog.cellsOf 9)) = some x0:=hf 0 _ rfl
  rw [zd8] at this; exact this
 have f1:DataW.trod enc Tryz.prog w 0 spare held n 83 [c1] = some x1:=by
  have this:DataW.trod enc Tryz.prog w 0 spare held n 83 (([c0,c1].drop 1).take (Tryz.prog.cellsOf 83)) = some x1:=hf 1 _ rfl
  rw [zy5] at this; exact this
 obtain ⟨s0,e0,rfl,hs0⟩:=DataW.trod_string Tryz.underlying9 f0
 have hw':∀ q ∈ (((Lit.string s0.data.toList |> (.lit:Lit → DataW H)).weights Tryz.prog 9) ++ ((x1.1.weights Tryz.prog 83) ++ [])),q ≤ reachBytes:=by
  intro q hq
  refine hw q ?_
  simpa only [DataW.weights,Tryz.underlying85,DataW.weightsEach,List.map_cons,List.map_nil] using hq
 have hz0:s0.size ≤ 140737488351232:=by
  have:=hw' s0.data.toList.length (by simp [DataW.weights])
  unfold reachBytes at this
  rw [zb8] at this; exact this
 obtain ⟨A1,l1,cc1,ys1,e1,hsl1,hS1⟩:=zd4 (enc:=enc) (spare:=spare) (held:=held) 88 83 6 96 ArgR (fun y => y.2.bw ≤ 1048576) Tryz.underlying83 zr3 (by decide) (by kernel_rfl) ArgT0 open_Arg f1 (fun q hq => hw' q (by simp [hq]))
 simp only [List.cons.injEq,and_true] at e0 e1
 subst e0
 subst e1
 refine ⟨fun j => ([Value.string s0,Value.slice A1 l1 cc1]:List Value).getD j undef,⟨s0,ys1⟩,rfl, ?_,fun hB => ?_⟩
 ·exact ⟨rfl,hz0,hsl1⟩
 ·exact hS1 (by simp only [Rows.uptoBulk,Rows.uptoBulkAll,List.map_cons,List.map_nil] at hB; omega)
def DirT0:DirT:=⟨⟨#[]⟩,[]⟩
set_option maxRecDepth 100000 in
theorem zG5 (fuel:Nat) (cs:List Value) (x:DataW H × List MemPlace) (h:DataW.trod enc Tryz.prog w 0 spare held fuel 55 cs = some x) (hw:∀ n ∈ x.1.weights Tryz.prog 55,n ≤ reachBytes) :
  ∃ (f:Nat → Value) (y:InpT),cs = (List.range 10).map f ∧ InpR w w.heap.size f y ∧ (Rows.uptoBulk x.1 ≤ 1048576 → (fun x => x.dflt.bw ≤ 1048576 ∧ dirsQ x.dirs ∧ x.tw.length ≤ 17592186044416) y):=by
 obtain ⟨xs,n,rfl,rfl,hl,hxl,hf⟩:=DataW.trod_struct Tryz.underlying55 h
 rw [zi7] at hl
 match cs,hl,xs,hxl with
 | [c0,c1,c2,c3,c4,c5,c6,c7,c8,c9],_,[x0,x1,x2,x3,x4],_ =>
 have f0:DataW.trod enc Tryz.prog w 0 spare held n 9 [c0] = some x0:=by
  have this:DataW.trod enc Tryz.prog w 0 spare held n 9 (([c0,c1,c2,c3,c4,c5,c6,c7,c8,c9].drop 0).take (Tryz.prog.cellsOf 9)) = some x0:=hf 0 _ rfl
  rw [zd8] at this; exact this
 have f1:DataW.trod enc Tryz.prog w 0 spare held n 44 [c1,c2] = some x1:=by
  have this:DataW.trod enc Tryz.prog w 0 spare held n 44 (([c0,c1,c2,c3,c4,c5,c6,c7,c8,c9].drop 1).take (Tryz.prog.cellsOf 44)) = some x1:=hf 1 _ rfl
  rw [zm5] at this; exact this
 have f2:DataW.trod enc Tryz.prog w 0 spare held n 4 [c3] = some x2:=by
  have this:DataW.trod enc Tryz.prog w 0 spare held n 4 (([c0,c1,c2,c3,c4,c5,c6,c7,c8,c9].drop 3).take (Tryz.prog.cellsOf 4)) = some x2:=hf 2 _ rfl
  rw [zT4] at this; exact this
 have f3:DataW.trod enc Tryz.prog w 0 spare held n 53 [c4,c5,c6,c7,c8] = some x3:=by
  have this:DataW.trod enc Tryz.prog w 0 spare held n 53 (([c0,c1,c2,c3,c4,c5,c6,c7,c8,c9].drop 4).take (Tryz.prog.cellsOf 53)) = some x3:=hf 3 _ rfl
  rw [zn6] at this; exact this
 have f4:DataW.trod enc Tryz.prog w 0 spare held n 34 [c9] = some x4:=by
  have this:DataW.trod enc Tryz.prog w 0 spare held n 34 (([c0,c1,c2,c3,c4,c5,c6,c7,c8,c9].drop 9).take (Tryz.prog.cellsOf 34)) = some x4:=hf 4 _ rfl
  rw [zh0] at this; exact this
 obtain ⟨s0,e0,rfl,hs0⟩:=DataW.trod_string Tryz.underlying9 f0
 obtain ⟨b2,e2,rfl⟩:=DataW.trod_bool Tryz.underlying4 f2
 have hw':∀ q ∈ (((Lit.string s0.data.toList |> (.lit:Lit → DataW H)).weights Tryz.prog 9) ++ ((x1.1.weights Tryz.prog 44) ++ (((Lit.bool b2 |> (.lit:Lit → DataW H)).weights Tryz.prog 4) ++ ((x3.1.weights Tryz.prog 53) ++ ((x4.1.weights Tryz.prog 34) ++ []))))),q ≤ reachBytes:=by
  intro q hq
  refine hw q ?_
  simpa only [DataW.weights,Tryz.underlying55,DataW.weightsEach,List.map_cons,List.map_nil] using hq
 have hz0:s0.size ≤ 140737488351232:=by
  have:=hw' s0.data.toList.length (by simp [DataW.weights])
  unfold reachBytes at this
  rw [zb8] at this; exact this
 obtain ⟨r0,r1,n1,ws1,e1,hrf1⟩:=zO2 f1 (fun q hq => hw' q (by simp [hq]))
 obtain ⟨d0,d1,d2,d3,d4,t3,e3,hrd3,hbk3⟩:=zt8 n f3 (fun q hq => hw' q (by simp [hq]))
 obtain ⟨A4,l4,cc4,ys4,e4,hsl4,hS4⟩:=zd4 (enc:=enc) (spare:=spare) (held:=held) 85 34 2 40 DirR (fun y => argsQ y.args) Tryz.underlying34 zg1 (by decide) (by kernel_rfl) DirT0 zs9 f4 (fun q hq => hw' q (by simp [hq]))
 simp only [List.cons.injEq,and_true] at e0 e1 e2 e3 e4
 subst e0
 obtain ⟨rfl,rfl⟩:=e1
 subst e2
 obtain ⟨rfl,rfl,rfl,rfl,rfl⟩:=e3
 subst e4
 refine ⟨fun j => ([Value.string s0,c1,c2,Value.bool b2,c4,c5,c6,c7,c8,Value.slice A4 l4 cc4]:List Value).getD j undef,⟨s0,n1,ws1,b2,t3,ys4⟩,rfl, ?_,fun hB => ?_⟩
 ·exact ⟨rfl,hz0,hrf1,rfl,hrd3,hsl4⟩
 ·exact ⟨by show t3.bw ≤ _; have:=hbk3; simp only [Rows.uptoBulk,Rows.uptoBulkAll,List.map_cons,List.map_nil] at hB; omega,hS4 (by simp only [Rows.uptoBulk,Rows.uptoBulkAll,List.map_cons,List.map_nil] at hB; omega),by obtain ⟨_,_,_,_,h8⟩:=hrf1.wraps.form; show ws1.length ≤ _; unfold big at h8; omega⟩
def InpT0:InpT:=⟨⟨#[]⟩,⟨#[]⟩,[],false,.mk 0 0 ⟨#[]⟩ [] [],[]⟩
set_option maxRecDepth 100000 in
theorem open_Fld (fuel:Nat) (cs:List Value) (x:DataW H × List MemPlace) (h:DataW.trod enc Tryz.prog w 0 spare held fuel 46 cs = some x) (hw:∀ n ∈ x.1.weights Tryz.prog 46,n ≤ reachBytes) :
  ∃ (f:Nat → Value) (y:FldT),cs = (List.range 5).map f ∧ FldR w w.heap.size f y ∧ (Rows.uptoBulk x.1 ≤ 1048576 → (fun x => inpsQ x.args ∧ dirsQ x.dirs ∧ x.tw.length ≤ 17592186044416) y):=by
 obtain ⟨xs,n,rfl,rfl,hl,hxl,hf⟩:=DataW.trod_struct Tryz.underlying46 h
 rw [zn7] at hl
 match cs,hl,xs,hxl with
 | [c0,c1,c2,c3,c4],_,[x0,x1,x2,x3],_ =>
 have f0:DataW.trod enc Tryz.prog w 0 spare held n 9 [c0] = some x0:=by
  have this:DataW.trod enc Tryz.prog w 0 spare held n 9 (([c0,c1,c2,c3,c4].drop 0).take (Tryz.prog.cellsOf 9)) = some x0:=hf 0 _ rfl
  rw [zd8] at this; exact this
 have f1:DataW.trod enc Tryz.prog w 0 spare held n 37 [c1] = some x1:=by
  have this:DataW.trod enc Tryz.prog w 0 spare held n 37 (([c0,c1,c2,c3,c4].drop 1).take (Tryz.prog.cellsOf 37)) = some x1:=hf 1 _ rfl
  rw [zm8] at this; exact this
 have f2:DataW.trod enc Tryz.prog w 0 spare held n 44 [c2,c3] = some x2:=by
  have this:DataW.trod enc Tryz.prog w 0 spare held n 44 (([c0,c1,c2,c3,c4].drop 2).take (Tryz.prog.cellsOf 44)) = some x2:=hf 2 _ rfl
  rw [zm5] at this; exact this
 have f3:DataW.trod enc Tryz.prog w 0 spare held n 34 [c4] = some x3:=by
  have this:DataW.trod enc Tryz.prog w 0 spare held n 34 (([c0,c1,c2,c3,c4].drop 4).take (Tryz.prog.cellsOf 34)) = some x3:=hf 3 _ rfl
  rw [zh0] at this; exact this
 obtain ⟨s0,e0,rfl,hs0⟩:=DataW.trod_string Tryz.underlying9 f0
 have hw':∀ q ∈ (((Lit.string s0.data.toList |> (.lit:Lit → DataW H)).weights Tryz.prog 9) ++ ((x1.1.weights Tryz.prog 37) ++ ((x2.1.weights Tryz.prog 44) ++ ((x3.1.weights Tryz.prog 34) ++ [])))),q ≤ reachBytes:=by
  intro q hq
  refine hw q ?_
  simpa only [DataW.weights,Tryz.underlying46,DataW.weightsEach,List.map_cons,List.map_nil] using hq
 have hz0:s0.size ≤ 140737488351232:=by
  have:=hw' s0.data.toList.length (by simp [DataW.weights])
  unfold reachBytes at this
  rw [zb8] at this; exact this
 obtain ⟨A1,l1,cc1,ys1,e1,hsl1,hS1⟩:=zd4 (enc:=enc) (spare:=spare) (held:=held) 55 37 10 168 InpR (fun x => x.dflt.bw ≤ 1048576 ∧ dirsQ x.dirs ∧ x.tw.length ≤ 17592186044416) Tryz.underlying37 zi7 (by decide) (by kernel_rfl) InpT0 zG5 f1 (fun q hq => hw' q (by simp [hq]))
 obtain ⟨r0,r1,n2,ws2,e2,hrf2⟩:=zO2 f2 (fun q hq => hw' q (by simp [hq]))
 obtain ⟨A3,l3,cc3,ys3,e3,hsl3,hS3⟩:=zd4 (enc:=enc) (spare:=spare) (held:=held) 85 34 2 40 DirR (fun y => argsQ y.args) Tryz.underlying34 zg1 (by decide) (by kernel_rfl) DirT0 zs9 f3 (fun q hq => hw' q (by simp [hq]))
 simp only [List.cons.injEq,and_true] at e0 e1 e2 e3
 subst e0
 subst e1
 obtain ⟨rfl,rfl⟩:=e2
 subst e3
 refine ⟨fun j => ([Value.string s0,Value.slice A1 l1 cc1,c2,c3,Value.slice A3 l3 cc3]:List Value).getD j undef,⟨s0,ys1,n2,ws2,ys3⟩,rfl, ?_,fun hB => ?_⟩
 ·exact ⟨rfl,hz0,hsl1,hrf2,hsl3⟩
 ·exact ⟨hS1 (by simp only [Rows.uptoBulk,Rows.uptoBulkAll,List.map_cons,List.map_nil] at hB; omega),hS3 (by simp only [Rows.uptoBulk,Rows.uptoBulkAll,List.map_cons,List.map_nil] at hB; omega),by obtain ⟨_,_,_,_,h8⟩:=hrf2.wraps.form; show ws2.length ≤ _; unfold big at h8; omega⟩
def FldT0:FldT:=⟨⟨#[]⟩,[],⟨#[]⟩,[],[]⟩
set_option maxRecDepth 100000 in
theorem open_Mem (fuel:Nat) (cs:List Value) (x:DataW H × List MemPlace) (h:DataW.trod enc Tryz.prog w 0 spare held fuel 48 cs = some x) (hw:∀ n ∈ x.1.weights Tryz.prog 48,n ≤ reachBytes) :
  ∃ (f:Nat → Value) (y:MemT),cs = (List.range 2).map f ∧ MemR w w.heap.size f y ∧ (Rows.uptoBulk x.1 ≤ 1048576 → (fun x => dirsQ x.dirs) y):=by
 obtain ⟨xs,n,rfl,rfl,hl,hxl,hf⟩:=DataW.trod_struct Tryz.underlying48 h
 rw [zm6] at hl
 match cs,hl,xs,hxl with
 | [c0,c1],_,[x0,x1],_ =>
 have f0:DataW.trod enc Tryz.prog w 0 spare held n 9 [c0] = some x0:=by
  have this:DataW.trod enc Tryz.prog w 0 spare held n 9 (([c0,c1].drop 0).take (Tryz.prog.cellsOf 9)) = some x0:=hf 0 _ rfl
  rw [zd8] at this; exact this
 have f1:DataW.trod enc Tryz.prog w 0 spare held n 34 [c1] = some x1:=by
  have this:DataW.trod enc Tryz.prog w 0 spare held n 34 (([c0,c1].drop 1).take (Tryz.prog.cellsOf 34)) = some x1:=hf 1 _ rfl
  rw [zh0] at this; exact this
 obtain ⟨s0,e0,rfl,hs0⟩:=DataW.trod_string Tryz.underlying9 f0
 have hw':∀ q ∈ (((Lit.string s0.data.toList |> (.lit:Lit → DataW H)).weights Tryz.prog 9) ++ ((x1.1.weights Tryz.prog 34) ++ [])),q ≤ reachBytes:=by
  intro q hq
  refine hw q ?_
  simpa only [DataW.weights,Tryz.underlying48,DataW.weightsEach,List.map_cons,List.map_nil] using hq
 have hz0:s0.size ≤ 140737488351232:=by
  have:=hw' s0.data.toList.length (by simp [DataW.weights])
  unfold reachBytes at this
  rw [zb8] at this; exact this
 obtain ⟨A1,l1,cc1,ys1,e1,hsl1,hS1⟩:=zd4 (enc:=enc) (spare:=spare) (held:=held) 85 34 2 40 DirR (fun y => argsQ y.args) Tryz.underlying34 zg1 (by decide) (by kernel_rfl) DirT0 zs9 f1 (fun q hq => hw' q (by simp [hq]))
 simp only [List.cons.injEq,and_true] at e0 e1
 subst e0
 subst e1
 refine ⟨fun j => ([Value.string s0,Value.slice A1 l1 cc1]:List Value).getD j undef,⟨s0,ys1⟩,rfl, ?_,fun hB => ?_⟩
 ·exact ⟨rfl,hz0,hsl1⟩
 ·exact hS1 (by simp only [Rows.uptoBulk,Rows.uptoBulkAll,List.map_cons,List.map_nil] at hB; omega)
def MemT0:MemT:=⟨⟨#[]⟩,[]⟩
set_option maxRecDepth 100000 in
theorem open_Def (fuel:Nat) (cs:List Value) (x:DataW H × List MemPlace) (h:DataW.trod enc Tryz.prog w 0 spare held fuel 39 cs = some x) (hw:∀ n ∈ x.1.weights Tryz.prog 39,n ≤ reachBytes) :
  ∃ (f:Nat → Value) (y:DefT),cs = (List.range 7).map f ∧ DefR w w.heap.size f y ∧ (Rows.uptoBulk x.1 ≤ 1048576 → (fun x => dirsQ x.dirs ∧ inpsQ x.inputs ∧ fldsQ x.fields ∧ memsQ x.members ∧ x.impl.length ≤ 17592186044416) y):=by
 obtain ⟨xs,n,rfl,rfl,hl,hxl,hf⟩:=DataW.trod_struct Tryz.underlying39 h
 rw [zD5] at hl
 match cs,hl,xs,hxl with
 | [c0,c1,c2,c3,c4,c5,c6],_,[x0,x1,x2,x3,x4,x5,x6],_ =>
 have f0:DataW.trod enc Tryz.prog w 0 spare held n 3 [c0] = some x0:=by
  have this:DataW.trod enc Tryz.prog w 0 spare held n 3 (([c0,c1,c2,c3,c4,c5,c6].drop 0).take (Tryz.prog.cellsOf 3)) = some x0:=hf 0 _ rfl
  rw [zI1] at this; exact this
 have f1:DataW.trod enc Tryz.prog w 0 spare held n 9 [c1] = some x1:=by
  have this:DataW.trod enc Tryz.prog w 0 spare held n 9 (([c0,c1,c2,c3,c4,c5,c6].drop 1).take (Tryz.prog.cellsOf 9)) = some x1:=hf 1 _ rfl
  rw [zd8] at this; exact this
 have f2:DataW.trod enc Tryz.prog w 0 spare held n 33 [c2] = some x2:=by
  have this:DataW.trod enc Tryz.prog w 0 spare held n 33 (([c0,c1,c2,c3,c4,c5,c6].drop 2).take (Tryz.prog.cellsOf 33)) = some x2:=hf 2 _ rfl
  rw [zD6] at this; exact this
 have f3:DataW.trod enc Tryz.prog w 0 spare held n 34 [c3] = some x3:=by
  have this:DataW.trod enc Tryz.prog w 0 spare held n 34 (([c0,c1,c2,c3,c4,c5,c6].drop 3).take (Tryz.prog.cellsOf 34)) = some x3:=hf 3 _ rfl
  rw [zh0] at this; exact this
 have f4:DataW.trod enc Tryz.prog w 0 spare held n 35 [c4] = some x4:=by
  have this:DataW.trod enc Tryz.prog w 0 spare held n 35 (([c0,c1,c2,c3,c4,c5,c6].drop 4).take (Tryz.prog.cellsOf 35)) = some x4:=hf 4 _ rfl
  rw [zu4] at this; exact this
 have f5:DataW.trod enc Tryz.prog w 0 spare held n 36 [c5] = some x5:=by
  have this:DataW.trod enc Tryz.prog w 0 spare held n 36 (([c0,c1,c2,c3,c4,c5,c6].drop 5).take (Tryz.prog.cellsOf 36)) = some x5:=hf 5 _ rfl
  rw [zr8] at this; exact this
 have f6:DataW.trod enc Tryz.prog w 0 spare held n 37 [c6] = some x6:=by
  have this:DataW.trod enc Tryz.prog w 0 spare held n 37 (([c0,c1,c2,c3,c4,c5,c6].drop 6).take (Tryz.prog.cellsOf 37)) = some x6:=hf 6 _ rfl
  rw [zm8] at this; exact this
 obtain ⟨k0,e0,rfl,wf0⟩:=DataW.trod_int Tryz.underlying3 f0
 obtain ⟨s1,e1,rfl,hs1⟩:=DataW.trod_string Tryz.underlying9 f1
 have hw':∀ q ∈ (((Lit.int .i64 k0 |> (.lit:Lit → DataW H)).weights Tryz.prog 3) ++ (((Lit.string s1.data.toList |> (.lit:Lit → DataW H)).weights Tryz.prog 9) ++ ((x2.1.weights Tryz.prog 33) ++ ((x3.1.weights Tryz.prog 34) ++ ((x4.1.weights Tryz.prog 35) ++ ((x5.1.weights Tryz.prog 36) ++ ((x6.1.weights Tryz.prog 37) ++ []))))))),q ≤ reachBytes:=by
  intro q hq
  refine hw q ?_
  simpa only [DataW.weights,Tryz.underlying39,DataW.weightsEach,List.map_cons,List.map_nil] using hq
 have hz1:s1.size ≤ 140737488351232:=by
  have:=hw' s1.data.toList.length (by simp [DataW.weights])
  unfold reachBytes at this
  rw [zb8] at this; exact this
 obtain ⟨A2,l2,cc2,ys2,e2,hsl2,_⟩:=zd4 (enc:=enc) (spare:=spare) (held:=held) 9 33 1 16 StrR (fun _ => True) Tryz.underlying33 zd8 (by decide) (by kernel_rfl) ⟨#[]⟩
  (fun fuel cs x hx hwx => by
    obtain ⟨s,e,rfl,hs⟩:=DataW.trod_string Tryz.underlying9 hx
    refine ⟨fun _ => .string s,s,e,⟨rfl, ?_⟩,fun _ => trivial⟩
    have:=hwx s.data.toList.length (by simp [DataW.weights])
    unfold reachBytes at this
    rw [zb8] at this; exact this) f2 (fun q hq => hw' q (by simp [hq]))
 obtain ⟨A3,l3,cc3,ys3,e3,hsl3,hS3⟩:=zd4 (enc:=enc) (spare:=spare) (held:=held) 85 34 2 40 DirR (fun y => argsQ y.args) Tryz.underlying34 zg1 (by decide) (by kernel_rfl) DirT0 zs9 f3 (fun q hq => hw' q (by simp [hq]))
 obtain ⟨A4,l4,cc4,ys4,e4,hsl4,hS4⟩:=zd4 (enc:=enc) (spare:=spare) (held:=held) 46 35 5 104 FldR (fun x => inpsQ x.args ∧ dirsQ x.dirs ∧ x.tw.length ≤ 17592186044416) Tryz.underlying35 zn7 (by decide) (by kernel_rfl) FldT0 open_Fld f4 (fun q hq => hw' q (by simp [hq]))
 obtain ⟨A5,l5,cc5,ys5,e5,hsl5,hS5⟩:=zd4 (enc:=enc) (spare:=spare) (held:=held) 48 36 2 40 MemR (fun x => dirsQ x.dirs) Tryz.underlying36 zm6 (by decide) (by kernel_rfl) MemT0 open_Mem f5 (fun q hq => hw' q (by simp [hq]))
 obtain ⟨A6,l6,cc6,ys6,e6,hsl6,hS6⟩:=zd4 (enc:=enc) (spare:=spare) (held:=held) 55 37 10 168 InpR (fun x => x.dflt.bw ≤ 1048576 ∧ dirsQ x.dirs ∧ x.tw.length ≤ 17592186044416) Tryz.underlying37 zi7 (by decide) (by kernel_rfl) InpT0 zG5 f6 (fun q hq => hw' q (by simp [hq]))
 simp only [List.cons.injEq,and_true] at e0 e1 e2 e3 e4 e5 e6
 subst e0
 subst e1
 subst e2
 subst e3
 subst e4
 subst e5
 subst e6
 refine ⟨fun j => ([Value.int .i64 k0,Value.string s1,Value.slice A2 l2 cc2,Value.slice A3 l3 cc3,Value.slice A4 l4 cc4,Value.slice A5 l5 cc5,Value.slice A6 l6 cc6]:List Value).getD j undef,⟨k0,s1,ys2,ys3,ys4,ys5,ys6⟩,rfl, ?_,fun hB => ?_⟩
 ·exact ⟨rfl,zs4 wf0,rfl,hz1,hsl2,hsl3,hsl4,hsl5,hsl6⟩
 ·exact ⟨hS3 (by simp only [Rows.uptoBulk,Rows.uptoBulkAll,List.map_cons,List.map_nil] at hB; omega),hS6 (by simp only [Rows.uptoBulk,Rows.uptoBulkAll,List.map_cons,List.map_nil] at hB; omega),hS4 (by simp only [Rows.uptoBulk,Rows.uptoBulkAll,List.map_cons,List.map_nil] at hB; omega),hS5 (by simp only [Rows.uptoBulk,Rows.uptoBulkAll,List.map_cons,List.map_nil] at hB; omega),by obtain ⟨_,_,_,_,h8⟩:=hsl2.form; show ys2.length ≤ _; unfold big at h8; omega⟩
def DefT0:DefT:=⟨0,⟨#[]⟩,[],[],[],[],[]⟩
end
end Go.Proofs.YtfgelheiknmjgaaGreatDoor
namespace Go.Proofs.YtfgelheiknmjgaaGreatDoor
open Go.RowKit
def allS {α:Type} (f : α → α → Bool):List α → List α → Bool
 | [],[] => true
 | a :: r,b :: s => f a b && allS f r s
 | [],_ :: _ => false
 | _ :: _,[] => false
theorem zd3 {α:Type} {f : α → α → Bool}:∀ {l m:List α},l.length ≠ m.length → allS f l m = false
 | [],[],h => absurd rfl h
 | _ :: _,[],_ => rfl
 | [],_ :: _,_ => rfl
 | a :: r,b :: s,h => by
   have:=zd3 (f:=f) (l:=r) (m:=s) (fun e => h (by simp [e]))
   rw [allS,this,Bool.and_false]
theorem zf3 {α:Type} {f : α → α → Bool} {l m:List α} {j:Nat} {x y : α} (hx:l[j]? = some x) (hy:m[j]? = some y):allS f (l.drop j) (m.drop j) = (f x y && allS f (l.drop (j + 1)) (m.drop (j + 1))):=by
 obtain ⟨h1,e1⟩:=List.getElem?_eq_some_iff.1 hx
 obtain ⟨h2,e2⟩:=List.getElem?_eq_some_iff.1 hy
 rw [List.drop_eq_getElem_cons h1,List.drop_eq_getElem_cons h2,e1,e2,allS]
theorem zd6 {α:Type} {f : α → α → Bool} {l m:List α} {j:Nat} (hx:l.length ≤ j) (hy:m.length ≤ j):allS f (l.drop j) (m.drop j) = true:=by
 rw [List.drop_eq_nil_iff.2 hx,List.drop_eq_nil_iff.2 hy,allS]
theorem zd9 {α:Type} {f : α → α → Bool}:∀ {l:List α},(∀ x ∈ l,f x x = true) → allS f l l = true
 | [],_ => rfl
 | a :: r,h => by rw [allS,h a List.mem_cons_self,zd9 fun x hx => h x (List.mem_cons_of_mem _ hx)]; rfl
theorem zo2 {α:Type} {f : α → α → Bool}:∀ {l m:List α},(∀ x ∈ l, ∀ y ∈ m,f x y = true → x = y) → allS f l m = true → l = m
 | [],[],_,_ => rfl
 | _ :: _,[],_,h => by cases h
 | [],_ :: _,_,h => by cases h
 | a :: r,b :: s,he,h => by
   rw [allS,Bool.and_eq_true] at h
   rw [he a List.mem_cons_self b List.mem_cons_self h.1,zo2 (fun x hx y hy => he x (List.mem_cons_of_mem _ hx) y (List.mem_cons_of_mem _ hy)) h.2]
def sArg (a b:ByteArray × VT):Bool:=decide (a.1 = b.1) && decide (a.2.cmp b.2 = 0)
def sDir (a b:DirT):Bool:=decide (a.name = b.name) && allS sArg a.args b.args
def sInp (a b:InpT):Bool:=decide (a.name = b.name) && (decide (a.tn = b.tn ∧ a.tw = b.tw) && (decide (a.has = b.has) && (decide (a.dflt.cmp b.dflt = 0) && allS sDir a.dirs b.dirs)))
def sMem (a b:MemT):Bool:=decide (a.name = b.name) && allS sDir a.dirs b.dirs
def sFld (a b:FldT):Bool:=decide (a.name = b.name) && (decide (a.tn = b.tn ∧ a.tw = b.tw) && (allS sInp a.args b.args && allS sDir a.dirs b.dirs))
def sDef (a b:DefT):Bool:=decide (a.kind = b.kind) && (decide (a.name = b.name) && (decide (a.impl = b.impl) && (allS sDir a.dirs b.dirs && (allS sFld a.fields b.fields && (allS sMem a.members b.members && allS sInp a.inputs b.inputs)))))
theorem zN0 (a:ByteArray × VT):sArg a a = true:=by unfold sArg; simp [VT.cmp_self]
theorem zo5 (a:DirT):sDir a a = true:=by unfold sDir; simp [zd9 fun x _ => zN0 x]
theorem zA0 (a:InpT):sInp a a = true:=by unfold sInp; simp [VT.cmp_self,zd9 fun x _ => zo5 x]
theorem zM7 (a:MemT):sMem a a = true:=by unfold sMem; simp [zd9 fun x _ => zo5 x]
theorem zM8 (a:FldT):sFld a a = true:=by unfold sFld; simp [zd9 fun x _ => zo5 x,zd9 fun x _ => zA0 x]
theorem zM9 (a:DefT):sDef a a = true:=by unfold sDef; simp [zd9 fun x _ => zo5 x,zd9 fun x _ => zA0 x,zd9 fun x _ => zM8 x,zd9 fun x _ => zM7 x]
end Go.Proofs.YtfgelheiknmjgaaGreatDoor
namespace Go.Proofs.YtfgelheiknmjgaaGreatDoor.K
open Go.RowKit
def tkC (ts:List Tk):List Value:=ts.flatMap fun p => [.int .i64 p.1,.string ⟨p.2.1.toArray⟩,.int .i64 (p.2.2:Int)]
def OwnT (w:World) (base:Nat) (v:Value) (ts:List Tk):Prop:=w.ownsRow base 99 3 v ts.length (tkC ts)
def scG (f at':Nat) (l:List UInt8):Except (Nat × Int) (List Tk):=if l = [] then .ok [(5,[],at')] else match tokR l with
 | .error c => .error (at',c)
 | .ok (k,t,n) => match scF f (at' + n) (l.drop n) with
   | .error e => .error e
   | .ok ts => .ok ((k,t,at') :: ts)
structure ScAt (l:List UInt8) (R:Except (Nat × Int) (List Tk)) (f at':Nat) (ts:List Tk):Prop where
 eq:R = match scG f at' (l.drop at') with
  | .error e => .error e
  | .ok r => .ok (ts ++ r)
 fuel:l.length ≤ f + at'
 hi:at' ≤ l.length
 len:ts.length ≤ at'
def ScanAns (R:Except (Nat × Int) (List Tk)) (base:Nat) (e:Ending) (w':World):Prop:=match R with
 | .ok ts => ∃ v,e = .returned (.tuple #[v,.int .i64 0,.int .i64 0]) ∧ OwnT w' base v ts
 | .error x => e = .returned (.tuple #[.slice none 0 0,.int .i64 x.1,.int .i64 x.2]) ∧ x.2 ≠ 0
def ScanPost (R:Except (Nat × Int) (List Tk)) (w:World) (e:Ending) (w':World):Prop:=ScanAns R w.heap.size e w' ∧ Below w.heap.size w w'
end Go.Proofs.YtfgelheiknmjgaaGreatDoor.K

