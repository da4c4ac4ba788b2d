
/-
 Texts joined: DOpen KScan KList E0.
-/
import Derived.Test.YtfgelheiknmjgaaGreatDoorZr6
import Derived.Test.YtfgelheiknmjgaaGreatDoorZr7
import Derived.ChangeSlices
import Derived.Test.YtfgelheiknmjgaaGreatDoorZr4
import Derived.Test.YtfgelheiknmjgaaGreatDoorZr2
set_option maxRecDepth 1000000
set_option maxHeartbeats 8000000
namespace Go.Proofs.YtfgelheiknmjgaaGreatDoor
open Go.RowKit Go.ChangeShapes Go.WideShapes
theorem at_add (b:Addr) (j:Nat):b.add j=at_ b j:=by cases j <;> rfl
theorem zT4 {H:Type}:∀ (l:List (DataW H)) (d:DataW H),d∈l->Rows.uptoBulk d<=Rows.uptoBulkAll l
 | a::r,d,h=>by
   rw [Rows.uptoBulkAll];rcases List.mem_cons.1 h with rfl | h
   ·omega
   ·have:=zT4 r d h; omega
section
variable {H:Type} {enc:TypeId × Value->H} {w:World} {spare:Nat->Bool} {held:Bool}
theorem ze0 {α:Type} (T SL:TypeId) (k bytes:Nat) (R:World->Nat->(Nat->Value)->α->Prop) (S : α->Prop) (hu : Tryz.prog.underlying SL=some (.slice T)) (hk : Tryz.prog.cellsOf T=k) (hk0:0<k) (hb : Tryz.prog.bytesOf T=bytes) (dflt : α)
  (hel:∀ (fuel:Nat) (cs:List Value) (x:DataW H × List MemPlace),DataW.trod enc Tryz.prog w 0 spare held fuel T cs=some x->(∀ n∈x.1.weights Tryz.prog T,n<=reachBytes)->∃ (f:Nat->Value) (y : α),cs=(List.range k).map f/\R w w.heap.size f y/\(Rows.uptoBulk x.1<=1099511627776->S y))
  {fuel:Nat} {cs:List Value} {x:DataW H × List MemPlace} (h:DataW.trod enc Tryz.prog w 0 spare held fuel SL cs=some x) (hw:∀ n∈x.1.weights Tryz.prog SL,n<=reachBytes) :
  ∃ (A:Option Addr) (l c:Nat) (ys:List α),cs=[.slice A l c]/\Sl k bytes R w w.heap.size (.slice A l c) ys/\(Rows.uptoBulk x.1<=1099511627776->∀ y∈ys,S y):=by
 rcases DataW.trod_slice hu h with ⟨e3,_⟩ | ⟨a,len,cap,elems,rest,m,rfl,e3,rfl,_,hlc,hcm,hle,hat,hsp,hns⟩
 ·exact ⟨_,_,_,[],e3,⟨none,0,rfl,Nat.le_refl _,by simp,fun _ _=>undef,fun h0=>absurd h0 (by simp),fun i y hy=>by simp at hy⟩,fun _ y hy=>by cases hy⟩
 ·have hw3:∀ d∈elems.map (·.1), ∀ q∈d.weights Tryz.prog T,q<=reachBytes:=by
   intro d hd q hq;refine hw q ?_
   simp only [DataW.weights,hu,List.mem_append,List.mem_cons]
   exact .inr (.inl (zl3 hd q hq))
  have hb3:len*bytes<=140737488355328-4096:=by
   have:=hw ((elems.length+rest.length)*bytes) (by
    simp only [DataW.weights,hu,List.mem_append,List.mem_cons,hb,List.length_map]
    simp)
   unfold reachBytes at this;rw [hle] at this;have h2:len*bytes<=(len+rest.length)*bytes:=Nat.mul_le_mul_right _ (by omega)
   omega
  rw [hk] at hat
  have hitem:∀ i,i<len->∃ T2:(Nat->Value) × α,(∀ j,j<k->w.cell? (at_ (a.add (i*k)) j)=some (T2.1 j))/\R w w.heap.size T2.1 T2.2/\(Rows.uptoBulkAll (elems.map (·.1))<=1099511627776->S T2.2):=by
   intro i hi;have h1:=hat i hi;have hlt:i<elems.length:=by omega
   rw [List.getElem?_eq_getElem hlt,Option.bind_eq_some_iff] at h1;obtain ⟨cs',hc,ht⟩:=h1;have hmem:=List.mem_map_of_mem (f:=fun q:DataW H × List MemPlace=>q.1) (List.getElem_mem hlt);obtain ⟨f,y,rfl,hr,hs⟩:=hel m cs' _ ht (hw3 _ hmem);obtain ⟨_,_,hg⟩:=World.cells?_some hc;refine ⟨⟨f,y⟩,fun j hj=>?_,hr,fun hbk=>hs (Nat.le_trans (zT4 _ _ hmem) hbk)⟩
   rw [<- at_add,hg j hj];simp [hj]
  obtain ⟨T2,hT⟩ : ∃ T2:Nat->(Nat->Value) × α, ∀ i,i<len->(∀ j,j<k->w.cell? (at_ (a.add (i*k)) j)=some ((T2 i).1 j))/\R w w.heap.size (T2 i).1 (T2 i).2/\(Rows.uptoBulkAll (elems.map (·.1))<=1099511627776->S (T2 i).2):=by
   refine ⟨fun i=>if h:i<len then (hitem i h).choose else (fun _=>undef,dflt),fun i h=>?_⟩
   simp only [dif_pos h]
   exact (hitem i h).choose_spec
  refine ⟨some a,len,cap,(List.range len).map fun i=>(T2 i).2,e3,⟨some a,cap,by simp,by simpa using hlc,by simp; unfold big; omega,fun i=>(T2 i).1,fun h0=>⟨a,rfl, ?_,fun i hi j hj=>(hT i (by simpa using hi)).1 j hj⟩,fun i y hi=>?_⟩,fun hbk y hy=>?_⟩
  ·have:=zN9 ((hT 0 (by simpa using h0)).1 0 hk0)
   rwa [zb3,za0] at this
  ·have hlt:i<len:=by simpa using (List.getElem?_eq_some_iff.1 hi).1
   simp [hlt] at hi
   subst hi;exact (hT i hlt).2.1
  ·obtain ⟨i,hi,rfl⟩:=List.mem_map.1 hy
   refine (hT i (List.mem_range.1 hi)).2.2 ?_
   simp only [Rows.uptoBulk] at hbk
   omega
theorem zG0 : Tryz.prog.cellsOf 83 = 1:=by kernel_rfl
theorem zi7 : Tryz.prog.cellsOf 34 = 1:=by kernel_rfl
theorem zz1 : Tryz.prog.cellsOf 35 = 1:=by kernel_rfl
theorem zo2 : Tryz.prog.cellsOf 37 = 1:=by kernel_rfl
theorem zv2 : Tryz.prog.cellsOf 36 = 1:=by kernel_rfl
theorem zK8 : Tryz.prog.cellsOf 33 = 1:=by kernel_rfl
theorem zu6 : Tryz.prog.cellsOf 88 = 6:=by kernel_rfl
theorem zK7 : Tryz.prog.cellsOf 39 = 7:=by kernel_rfl
theorem zi0 : Tryz.prog.cellsOf 85 = 2:=by kernel_rfl
theorem zp4 : Tryz.prog.cellsOf 46 = 5:=by kernel_rfl
theorem zk5 : Tryz.prog.cellsOf 55 = 10:=by kernel_rfl
theorem zo1 : Tryz.prog.cellsOf 48 = 2:=by kernel_rfl
theorem zo0 : Tryz.prog.cellsOf 44 = 2:=by kernel_rfl
theorem zp3 : Tryz.prog.cellsOf 53 = 5:=by kernel_rfl
theorem yi8 : Tryz.prog.cellsOf 4 = 1:=by kernel_rfl
theorem zT3 : Tryz.prog.cellsOf 3 = 1:=by kernel_rfl
theorem ze9 : Tryz.prog.cellsOf 9 = 1:=by kernel_rfl
theorem ye3 {fuel:Nat} {cs:List Value} {x:DataW H × List MemPlace} (h:DataW.trod enc Tryz.prog w 0 spare held fuel 44 cs=some x) (hw:∀ n∈x.1.weights Tryz.prog 44,n<=reachBytes) :
  ∃ (c0 c1:Value) (n:ByteArray) (xs:List Int),cs=[c0,c1]/\RfR w w.heap.size c0 c1 n xs:=by
 obtain ⟨xs,n,rfl,rfl,hl,hxl,hf⟩:=DataW.trod_struct Tryz.underlying44 h;rw [zo0] at hl
 match cs,hl,xs,hxl with
 | [c0,c1],_,[x0,x1],_ =>
 have f0:DataW.trod enc Tryz.prog w 0 spare held n 9 [c0]=some x0:=by
  have this:DataW.trod enc Tryz.prog w 0 spare held n 9 (([c0,c1].drop 0).take (Tryz.prog.cellsOf 9))=some x0:=hf 0 _ rfl;rw [ze9] at this; exact this
 have f1:DataW.trod enc Tryz.prog w 0 spare held n 42 [c1]=some x1:=by
  have this:DataW.trod enc Tryz.prog w 0 spare held n 42 (([c0,c1].drop 1).take (Tryz.prog.cellsOf 42))=some x1:=hf 1 _ rfl;rw [show Tryz.prog.cellsOf 42 = 1 by kernel_rfl] at this; exact this
 obtain ⟨s,e0,rfl,hs⟩:=DataW.trod_string Tryz.underlying9 f0;have hw':∀ q∈((Lit.string s.data.toList |> (.lit:Lit->DataW H)).weights Tryz.prog 9 ++ (x1.1.weights Tryz.prog 42 ++ [])),q<=reachBytes:=by
  intro q hq;refine hw q ?_
  simpa only [DataW.weights,Tryz.underlying44,DataW.weightsEach,List.map_cons,List.map_nil] using hq
 have hss:s.size<=140737488351232:=by
  have:=hw' s.data.toList.length (by simp [DataW.weights])
  unfold reachBytes at this;rw [size_eq] at this; exact this
 obtain ⟨A,l,c,ys,e1,hsl,_⟩:=ze0 (enc:=enc) (spare:=spare) (held:=held) 3 42 1 8 IntR (fun _=>True) Tryz.underlying42 zT3 (by decide) (by kernel_rfl) 0
  (fun fuel cs x hx _=>by
    obtain ⟨k0,e,rfl,wf0⟩:=DataW.trod_int Tryz.underlying3 hx;exact ⟨fun _=>.int .i64 k0,k0,e,⟨rfl,zv7 wf0⟩,fun _=>trivial⟩) f1 (fun q hq=>hw' q (by simp [hq]))
 simp only [List.cons.injEq,and_true] at e0 e1
 subst e0 e1;exact ⟨_,_,s,ys,rfl,⟨rfl,hss,hsl⟩⟩
theorem open_Arg (fuel:Nat) (cs:List Value) (x:DataW H × List MemPlace) (h:DataW.trod enc Tryz.prog w 0 spare held fuel 88 cs=some x) (hw:∀ n∈x.1.weights Tryz.prog 88,n<=reachBytes) :
  ∃ (f:Nat->Value) (y:(ByteArray × VT)),cs=(List.range 6).map f/\ArgR w w.heap.size f y/\(Rows.uptoBulk x.1<=1099511627776->(fun y=>y.2.bw<=1099511627776) y):=by
 obtain ⟨xs,n,rfl,rfl,hl,hxl,hf⟩:=DataW.trod_struct Tryz.underlying88 h;rw [zu6] at hl
 match cs,hl,xs,hxl with
 | [c0,c1,c2,c3,c4,c5],_,[x0,x1],_ =>
 have f0:DataW.trod enc Tryz.prog w 0 spare held n 9 [c0]=some x0:=by
  have this:DataW.trod enc Tryz.prog w 0 spare held n 9 (([c0,c1,c2,c3,c4,c5].drop 0).take (Tryz.prog.cellsOf 9))=some x0:=hf 0 _ rfl;rw [ze9] at this; exact this
 have f1:DataW.trod enc Tryz.prog w 0 spare held n 53 [c1,c2,c3,c4,c5]=some x1:=by
  have this:DataW.trod enc Tryz.prog w 0 spare held n 53 (([c0,c1,c2,c3,c4,c5].drop 1).take (Tryz.prog.cellsOf 53))=some x1:=hf 1 _ rfl;rw [zp3] at this; exact this
 obtain ⟨s0,e0,rfl,hs0⟩:=DataW.trod_string Tryz.underlying9 f0;have hw':∀ q∈(((Lit.string s0.data.toList |> (.lit:Lit->DataW H)).weights Tryz.prog 9)++((x1.1.weights Tryz.prog 53)++[])),q<=reachBytes:=by
  intro q hq;refine hw q ?_
  simpa only [DataW.weights,Tryz.underlying88,DataW.weightsEach,List.map_cons,List.map_nil] using hq
 have hz0:s0.size<=140737488351232:=by
  have:=hw' s0.data.toList.length (by simp [DataW.weights])
  unfold reachBytes at this;rw [size_eq] at this; exact this
 obtain ⟨d0,d1,d2,d3,d4,t1,e1,hrd1,hbk1⟩:=zy0 n f1 (fun q hq=>hw' q (by simp [hq]))
 simp only [List.cons.injEq,and_true] at e0 e1
 subst e0;obtain ⟨rfl,rfl,rfl,rfl,rfl⟩:=e1;refine ⟨fun j=>([Value.string s0,c1,c2,c3,c4,c5]:List Value).getD j undef,(s0,t1),rfl, ?_,fun hB=>?_⟩
 ·exact ⟨rfl,hz0,hrd1⟩
 ·exact by show t1.bw<=_; have:=hbk1; simp only [Rows.uptoBulk,Rows.uptoBulkAll,List.map_cons,List.map_nil] at hB; omega
def ArgT0:(ByteArray × VT):=(⟨#[]⟩,.mk 0 0 ⟨#[]⟩ [] [])
theorem zw0 (fuel:Nat) (cs:List Value) (x:DataW H × List MemPlace) (h:DataW.trod enc Tryz.prog w 0 spare held fuel 85 cs=some x) (hw:∀ n∈x.1.weights Tryz.prog 85,n<=reachBytes) :
  ∃ (f:Nat->Value) (y:DirT),cs=(List.range 2).map f/\DirR w w.heap.size f y/\(Rows.uptoBulk x.1<=1099511627776->(fun y=>argsS y.args) y):=by
 obtain ⟨xs,n,rfl,rfl,hl,hxl,hf⟩:=DataW.trod_struct Tryz.underlying85 h;rw [zi0] at hl
 match cs,hl,xs,hxl with
 | [c0,c1],_,[x0,x1],_ =>
 have f0:DataW.trod enc Tryz.prog w 0 spare held n 9 [c0]=some x0:=by
  have this:DataW.trod enc Tryz.prog w 0 spare held n 9 (([c0,c1].drop 0).take (Tryz.prog.cellsOf 9))=some x0:=hf 0 _ rfl;rw [ze9] at this; exact this
 have f1:DataW.trod enc Tryz.prog w 0 spare held n 83 [c1]=some x1:=by
  have this:DataW.trod enc Tryz.prog w 0 spare held n 83 (([c0,c1].drop 1).take (Tryz.prog.cellsOf 83))=some x1:=hf 1 _ rfl;rw [zG0] at this; exact this
 obtain ⟨s0,e0,rfl,hs0⟩:=DataW.trod_string Tryz.underlying9 f0;have hw':∀ q∈(((Lit.string s0.data.toList |> (.lit:Lit->DataW H)).weights Tryz.prog 9)++((x1.1.weights Tryz.prog 83)++[])),q<=reachBytes:=by
  intro q hq;refine hw q ?_
  simpa only [DataW.weights,Tryz.underlying85,DataW.weightsEach,List.map_cons,List.map_nil] using hq
 have hz0:s0.size<=140737488351232:=by
  have:=hw' s0.data.toList.length (by simp [DataW.weights])
  unfold reachBytes at this;rw [size_eq] at this; exact this
 obtain ⟨A1,l1,cc1,ys1,e1,hsl1,hS1⟩:=ze0 (enc:=enc) (spare:=spare) (held:=held) 88 83 6 96 ArgR (fun y=>y.2.bw<=1099511627776) Tryz.underlying83 zu6 (by decide) (by kernel_rfl) ArgT0 open_Arg f1 (fun q hq=>hw' q (by simp [hq]))
 simp only [List.cons.injEq,and_true] at e0 e1
 subst e0;subst e1;refine ⟨fun j=>([Value.string s0,Value.slice A1 l1 cc1]:List Value).getD j undef,⟨s0,ys1⟩,rfl, ?_,fun hB=>?_⟩
 ·exact ⟨rfl,hz0,hsl1⟩
 ·exact hS1 (by simp only [Rows.uptoBulk,Rows.uptoBulkAll,List.map_cons,List.map_nil] at hB; omega)
def DirT0:DirT:=⟨⟨#[]⟩,[]⟩
theorem zR8 (fuel:Nat) (cs:List Value) (x:DataW H × List MemPlace) (h:DataW.trod enc Tryz.prog w 0 spare held fuel 55 cs=some x) (hw:∀ n∈x.1.weights Tryz.prog 55,n<=reachBytes) :
  ∃ (f:Nat->Value) (y:InpT),cs=(List.range 10).map f/\InpR w w.heap.size f y/\(Rows.uptoBulk x.1<=1099511627776->(fun x=>x.dflt.bw<=1099511627776/\dirsS x.dirs/\x.tw.length<=17592186044416) y):=by
 obtain ⟨xs,n,rfl,rfl,hl,hxl,hf⟩:=DataW.trod_struct Tryz.underlying55 h;rw [zk5] at hl
 match cs,hl,xs,hxl with
 | [c0,c1,c2,c3,c4,c5,c6,c7,c8,c9],_,[x0,x1,x2,x3,x4],_ =>
 have f0:DataW.trod enc Tryz.prog w 0 spare held n 9 [c0]=some x0:=by
  have this:DataW.trod enc Tryz.prog w 0 spare held n 9 (([c0,c1,c2,c3,c4,c5,c6,c7,c8,c9].drop 0).take (Tryz.prog.cellsOf 9))=some x0:=hf 0 _ rfl;rw [ze9] at this; exact this
 have f1:DataW.trod enc Tryz.prog w 0 spare held n 44 [c1,c2]=some x1:=by
  have this:DataW.trod enc Tryz.prog w 0 spare held n 44 (([c0,c1,c2,c3,c4,c5,c6,c7,c8,c9].drop 1).take (Tryz.prog.cellsOf 44))=some x1:=hf 1 _ rfl;rw [zo0] at this; exact this
 have f2:DataW.trod enc Tryz.prog w 0 spare held n 4 [c3]=some x2:=by
  have this:DataW.trod enc Tryz.prog w 0 spare held n 4 (([c0,c1,c2,c3,c4,c5,c6,c7,c8,c9].drop 3).take (Tryz.prog.cellsOf 4))=some x2:=hf 2 _ rfl;rw [yi8] at this; exact this
 have f3:DataW.trod enc Tryz.prog w 0 spare held n 53 [c4,c5,c6,c7,c8]=some x3:=by
  have this:DataW.trod enc Tryz.prog w 0 spare held n 53 (([c0,c1,c2,c3,c4,c5,c6,c7,c8,c9].drop 4).take (Tryz.prog.cellsOf 53))=some x3:=hf 3 _ rfl;rw [zp3] at this; exact this
 have f4:DataW.trod enc Tryz.prog w 0 spare held n 34 [c9]=some x4:=by
  have this:DataW.trod enc Tryz.prog w 0 spare held n 34 (([c0,c1,c2,c3,c4,c5,c6,c7,c8,c9].drop 9).take (Tryz.prog.cellsOf 34))=some x4:=hf 4 _ rfl;rw [zi7] at this; exact this
 obtain ⟨s0,e0,rfl,hs0⟩:=DataW.trod_string Tryz.underlying9 f0;obtain ⟨b2,e2,rfl⟩:=DataW.trod_bool Tryz.underlying4 f2;have hw':∀ q∈(((Lit.string s0.data.toList |> (.lit:Lit->DataW H)).weights Tryz.prog 9)++((x1.1.weights Tryz.prog 44)++(((Lit.bool b2 |> (.lit:Lit->DataW H)).weights Tryz.prog 4)++((x3.1.weights Tryz.prog 53)++((x4.1.weights Tryz.prog 34)++[]))))),q<=reachBytes:=by
  intro q hq;refine hw q ?_
  simpa only [DataW.weights,Tryz.underlying55,DataW.weightsEach,List.map_cons,List.map_nil] using hq
 have hz0:s0.size<=140737488351232:=by
  have:=hw' s0.data.toList.length (by simp [DataW.weights])
  unfold reachBytes at this;rw [size_eq] at this; exact this
 obtain ⟨r0,r1,n1,ws1,e1,hrf1⟩:=ye3 f1 (fun q hq=>hw' q (by simp [hq]))
 obtain ⟨d0,d1,d2,d3,d4,t3,e3,hrd3,hbk3⟩:=zy0 n f3 (fun q hq=>hw' q (by simp [hq]))
 obtain ⟨A4,l4,cc4,ys4,e4,hsl4,hS4⟩:=ze0 (enc:=enc) (spare:=spare) (held:=held) 85 34 2 40 DirR (fun y=>argsS y.args) Tryz.underlying34 zi0 (by decide) (by kernel_rfl) DirT0 zw0 f4 (fun q hq=>hw' q (by simp [hq]))
 simp only [List.cons.injEq,and_true] at e0 e1 e2 e3 e4
 subst e0;obtain ⟨rfl,rfl⟩:=e1;subst e2;obtain ⟨rfl,rfl,rfl,rfl,rfl⟩:=e3;subst e4;refine ⟨fun j=>([Value.string s0,c1,c2,Value.bool b2,c4,c5,c6,c7,c8,Value.slice A4 l4 cc4]:List Value).getD j undef,⟨s0,n1,ws1,b2,t3,ys4⟩,rfl, ?_,fun hB=>?_⟩
 ·exact ⟨rfl,hz0,hrf1,rfl,hrd3,hsl4⟩
 ·exact ⟨by show t3.bw<=_; have:=hbk3; simp only [Rows.uptoBulk,Rows.uptoBulkAll,List.map_cons,List.map_nil] at hB; omega,hS4 (by simp only [Rows.uptoBulk,Rows.uptoBulkAll,List.map_cons,List.map_nil] at hB; omega),by obtain ⟨_,_,_,_,h8⟩:=hrf1.wraps.form; show ws1.length<=_; unfold big at h8; omega⟩
def InpT0:InpT:=⟨⟨#[]⟩,⟨#[]⟩,[],false,.mk 0 0 ⟨#[]⟩ [] [],[]⟩
theorem open_Fld (fuel:Nat) (cs:List Value) (x:DataW H × List MemPlace) (h:DataW.trod enc Tryz.prog w 0 spare held fuel 46 cs=some x) (hw:∀ n∈x.1.weights Tryz.prog 46,n<=reachBytes) :
  ∃ (f:Nat->Value) (y:FldT),cs=(List.range 5).map f/\FldR w w.heap.size f y/\(Rows.uptoBulk x.1<=1099511627776->(fun x=>inpsS x.args/\dirsS x.dirs/\x.tw.length<=17592186044416) y):=by
 obtain ⟨xs,n,rfl,rfl,hl,hxl,hf⟩:=DataW.trod_struct Tryz.underlying46 h;rw [zp4] at hl
 match cs,hl,xs,hxl with
 | [c0,c1,c2,c3,c4],_,[x0,x1,x2,x3],_ =>
 have f0:DataW.trod enc Tryz.prog w 0 spare held n 9 [c0]=some x0:=by
  have this:DataW.trod enc Tryz.prog w 0 spare held n 9 (([c0,c1,c2,c3,c4].drop 0).take (Tryz.prog.cellsOf 9))=some x0:=hf 0 _ rfl;rw [ze9] at this; exact this
 have f1:DataW.trod enc Tryz.prog w 0 spare held n 37 [c1]=some x1:=by
  have this:DataW.trod enc Tryz.prog w 0 spare held n 37 (([c0,c1,c2,c3,c4].drop 1).take (Tryz.prog.cellsOf 37))=some x1:=hf 1 _ rfl;rw [zo2] at this; exact this
 have f2:DataW.trod enc Tryz.prog w 0 spare held n 44 [c2,c3]=some x2:=by
  have this:DataW.trod enc Tryz.prog w 0 spare held n 44 (([c0,c1,c2,c3,c4].drop 2).take (Tryz.prog.cellsOf 44))=some x2:=hf 2 _ rfl;rw [zo0] at this; exact this
 have f3:DataW.trod enc Tryz.prog w 0 spare held n 34 [c4]=some x3:=by
  have this:DataW.trod enc Tryz.prog w 0 spare held n 34 (([c0,c1,c2,c3,c4].drop 4).take (Tryz.prog.cellsOf 34))=some x3:=hf 3 _ rfl;rw [zi7] at this; exact this
 obtain ⟨s0,e0,rfl,hs0⟩:=DataW.trod_string Tryz.underlying9 f0;have hw':∀ q∈(((Lit.string s0.data.toList |> (.lit:Lit->DataW H)).weights Tryz.prog 9)++((x1.1.weights Tryz.prog 37)++((x2.1.weights Tryz.prog 44)++((x3.1.weights Tryz.prog 34)++[])))),q<=reachBytes:=by
  intro q hq;refine hw q ?_
  simpa only [DataW.weights,Tryz.underlying46,DataW.weightsEach,List.map_cons,List.map_nil] using hq
 have hz0:s0.size<=140737488351232:=by
  have:=hw' s0.data.toList.length (by simp [DataW.weights])
  unfold reachBytes at this;rw [size_eq] at this; exact this
 obtain ⟨A1,l1,cc1,ys1,e1,hsl1,hS1⟩:=ze0 (enc:=enc) (spare:=spare) (held:=held) 55 37 10 168 InpR (fun x=>x.dflt.bw<=1099511627776/\dirsS x.dirs/\x.tw.length<=17592186044416) Tryz.underlying37 zk5 (by decide) (by kernel_rfl) InpT0 zR8 f1 (fun q hq=>hw' q (by simp [hq]))
 obtain ⟨r0,r1,n2,ws2,e2,hrf2⟩:=ye3 f2 (fun q hq=>hw' q (by simp [hq]))
 obtain ⟨A3,l3,cc3,ys3,e3,hsl3,hS3⟩:=ze0 (enc:=enc) (spare:=spare) (held:=held) 85 34 2 40 DirR (fun y=>argsS y.args) Tryz.underlying34 zi0 (by decide) (by kernel_rfl) DirT0 zw0 f3 (fun q hq=>hw' q (by simp [hq]))
 simp only [List.cons.injEq,and_true] at e0 e1 e2 e3
 subst e0;subst e1;obtain ⟨rfl,rfl⟩:=e2;subst e3;refine ⟨fun j=>([Value.string s0,Value.slice A1 l1 cc1,c2,c3,Value.slice A3 l3 cc3]:List Value).getD j undef,⟨s0,ys1,n2,ws2,ys3⟩,rfl, ?_,fun hB=>?_⟩
 ·exact ⟨rfl,hz0,hsl1,hrf2,hsl3⟩
 ·exact ⟨hS1 (by simp only [Rows.uptoBulk,Rows.uptoBulkAll,List.map_cons,List.map_nil] at hB; omega),hS3 (by simp only [Rows.uptoBulk,Rows.uptoBulkAll,List.map_cons,List.map_nil] at hB; omega),by obtain ⟨_,_,_,_,h8⟩:=hrf2.wraps.form; show ws2.length<=_; unfold big at h8; omega⟩
def FldT0:FldT:=⟨⟨#[]⟩,[],⟨#[]⟩,[],[]⟩
theorem open_Mem (fuel:Nat) (cs:List Value) (x:DataW H × List MemPlace) (h:DataW.trod enc Tryz.prog w 0 spare held fuel 48 cs=some x) (hw:∀ n∈x.1.weights Tryz.prog 48,n<=reachBytes) :
  ∃ (f:Nat->Value) (y:MemT),cs=(List.range 2).map f/\MemR w w.heap.size f y/\(Rows.uptoBulk x.1<=1099511627776->(fun x=>dirsS x.dirs) y):=by
 obtain ⟨xs,n,rfl,rfl,hl,hxl,hf⟩:=DataW.trod_struct Tryz.underlying48 h;rw [zo1] at hl
 match cs,hl,xs,hxl with
 | [c0,c1],_,[x0,x1],_ =>
 have f0:DataW.trod enc Tryz.prog w 0 spare held n 9 [c0]=some x0:=by
  have this:DataW.trod enc Tryz.prog w 0 spare held n 9 (([c0,c1].drop 0).take (Tryz.prog.cellsOf 9))=some x0:=hf 0 _ rfl;rw [ze9] at this; exact this
 have f1:DataW.trod enc Tryz.prog w 0 spare held n 34 [c1]=some x1:=by
  have this:DataW.trod enc Tryz.prog w 0 spare held n 34 (([c0,c1].drop 1).take (Tryz.prog.cellsOf 34))=some x1:=hf 1 _ rfl;rw [zi7] at this; exact this
 obtain ⟨s0,e0,rfl,hs0⟩:=DataW.trod_string Tryz.underlying9 f0;have hw':∀ q∈(((Lit.string s0.data.toList |> (.lit:Lit->DataW H)).weights Tryz.prog 9)++((x1.1.weights Tryz.prog 34)++[])),q<=reachBytes:=by
  intro q hq;refine hw q ?_
  simpa only [DataW.weights,Tryz.underlying48,DataW.weightsEach,List.map_cons,List.map_nil] using hq
 have hz0:s0.size<=140737488351232:=by
  have:=hw' s0.data.toList.length (by simp [DataW.weights])
  unfold reachBytes at this;rw [size_eq] at this; exact this
 obtain ⟨A1,l1,cc1,ys1,e1,hsl1,hS1⟩:=ze0 (enc:=enc) (spare:=spare) (held:=held) 85 34 2 40 DirR (fun y=>argsS y.args) Tryz.underlying34 zi0 (by decide) (by kernel_rfl) DirT0 zw0 f1 (fun q hq=>hw' q (by simp [hq]))
 simp only [List.cons.injEq,and_true] at e0 e1
 subst e0;subst e1;refine ⟨fun j=>([Value.string s0,Value.slice A1 l1 cc1]:List Value).getD j undef,⟨s0,ys1⟩,rfl, ?_,fun hB=>?_⟩
 ·exact ⟨rfl,hz0,hsl1⟩
 ·exact hS1 (by simp only [Rows.uptoBulk,Rows.uptoBulkAll,List.map_cons,List.map_nil] at hB; omega)
def MemT0:MemT:=⟨⟨#[]⟩,[]⟩
theorem open_Def (fuel:Nat) (cs:List Value) (x:DataW H × List MemPlace) (h:DataW.trod enc Tryz.prog w 0 spare held fuel 39 cs=some x) (hw:∀ n∈x.1.weights Tryz.prog 39,n<=reachBytes) :
  ∃ (f:Nat->Value) (y:DefT),cs=(List.range 7).map f/\DefR w w.heap.size f y/\(Rows.uptoBulk x.1<=1099511627776->(fun x=>dirsS x.dirs/\inpsS x.inputs/\fldsS x.fields/\memsS x.members/\x.impl.length<=17592186044416) y):=by
 obtain ⟨xs,n,rfl,rfl,hl,hxl,hf⟩:=DataW.trod_struct Tryz.underlying39 h;rw [zK7] at hl
 match cs,hl,xs,hxl with
 | [c0,c1,c2,c3,c4,c5,c6],_,[x0,x1,x2,x3,x4,x5,x6],_ =>
 have f0:DataW.trod enc Tryz.prog w 0 spare held n 3 [c0]=some x0:=by
  have this:DataW.trod enc Tryz.prog w 0 spare held n 3 (([c0,c1,c2,c3,c4,c5,c6].drop 0).take (Tryz.prog.cellsOf 3))=some x0:=hf 0 _ rfl;rw [zT3] at this; exact this
 have f1:DataW.trod enc Tryz.prog w 0 spare held n 9 [c1]=some x1:=by
  have this:DataW.trod enc Tryz.prog w 0 spare held n 9 (([c0,c1,c2,c3,c4,c5,c6].drop 1).take (Tryz.prog.cellsOf 9))=some x1:=hf 1 _ rfl;rw [ze9] at this; exact this
 have f2:DataW.trod enc Tryz.prog w 0 spare held n 33 [c2]=some x2:=by
  have this:DataW.trod enc Tryz.prog w 0 spare held n 33 (([c0,c1,c2,c3,c4,c5,c6].drop 2).take (Tryz.prog.cellsOf 33))=some x2:=hf 2 _ rfl;rw [zK8] at this; exact this
 have f3:DataW.trod enc Tryz.prog w 0 spare held n 34 [c3]=some x3:=by
  have this:DataW.trod enc Tryz.prog w 0 spare held n 34 (([c0,c1,c2,c3,c4,c5,c6].drop 3).take (Tryz.prog.cellsOf 34))=some x3:=hf 3 _ rfl;rw [zi7] at this; exact this
 have f4:DataW.trod enc Tryz.prog w 0 spare held n 35 [c4]=some x4:=by
  have this:DataW.trod enc Tryz.prog w 0 spare held n 35 (([c0,c1,c2,c3,c4,c5,c6].drop 4).take (Tryz.prog.cellsOf 35))=some x4:=hf 4 _ rfl;rw [zz1] at this; exact this
 have f5:DataW.trod enc Tryz.prog w 0 spare held n 36 [c5]=some x5:=by
  have this:DataW.trod enc Tryz.prog w 0 spare held n 36 (([c0,c1,c2,c3,c4,c5,c6].drop 5).take (Tryz.prog.cellsOf 36))=some x5:=hf 5 _ rfl;rw [zv2] at this; exact this
 have f6:DataW.trod enc Tryz.prog w 0 spare held n 37 [c6]=some x6:=by
  have this:DataW.trod enc Tryz.prog w 0 spare held n 37 (([c0,c1,c2,c3,c4,c5,c6].drop 6).take (Tryz.prog.cellsOf 37))=some x6:=hf 6 _ rfl;rw [zo2] at this; exact this
 obtain ⟨k0,e0,rfl,wf0⟩:=DataW.trod_int Tryz.underlying3 f0;obtain ⟨s1,e1,rfl,hs1⟩:=DataW.trod_string Tryz.underlying9 f1;have hw':∀ q∈(((Lit.int .i64 k0 |> (.lit:Lit->DataW H)).weights Tryz.prog 3)++(((Lit.string s1.data.toList |> (.lit:Lit->DataW H)).weights Tryz.prog 9)++((x2.1.weights Tryz.prog 33)++((x3.1.weights Tryz.prog 34)++((x4.1.weights Tryz.prog 35)++((x5.1.weights Tryz.prog 36)++((x6.1.weights Tryz.prog 37)++[]))))))),q<=reachBytes:=by
  intro q hq;refine hw q ?_
  simpa only [DataW.weights,Tryz.underlying39,DataW.weightsEach,List.map_cons,List.map_nil] using hq
 have hz1:s1.size<=140737488351232:=by
  have:=hw' s1.data.toList.length (by simp [DataW.weights])
  unfold reachBytes at this;rw [size_eq] at this; exact this
 obtain ⟨A2,l2,cc2,ys2,e2,hsl2,_⟩:=ze0 (enc:=enc) (spare:=spare) (held:=held) 9 33 1 16 StrR (fun _=>True) Tryz.underlying33 ze9 (by decide) (by kernel_rfl) ⟨#[]⟩
  (fun fuel cs x hx hwx=>by
    obtain ⟨s,e,rfl,hs⟩:=DataW.trod_string Tryz.underlying9 hx;refine ⟨fun _=>.string s,s,e,⟨rfl, ?_⟩,fun _=>trivial⟩
    have:=hwx s.data.toList.length (by simp [DataW.weights])
    unfold reachBytes at this;rw [size_eq] at this; exact this) f2 (fun q hq=>hw' q (by simp [hq]))
 obtain ⟨A3,l3,cc3,ys3,e3,hsl3,hS3⟩:=ze0 (enc:=enc) (spare:=spare) (held:=held) 85 34 2 40 DirR (fun y=>argsS y.args) Tryz.underlying34 zi0 (by decide) (by kernel_rfl) DirT0 zw0 f3 (fun q hq=>hw' q (by simp [hq]))
 obtain ⟨A4,l4,cc4,ys4,e4,hsl4,hS4⟩:=ze0 (enc:=enc) (spare:=spare) (held:=held) 46 35 5 104 FldR (fun x=>inpsS x.args/\dirsS x.dirs/\x.tw.length<=17592186044416) Tryz.underlying35 zp4 (by decide) (by kernel_rfl) FldT0 open_Fld f4 (fun q hq=>hw' q (by simp [hq]))
 obtain ⟨A5,l5,cc5,ys5,e5,hsl5,hS5⟩:=ze0 (enc:=enc) (spare:=spare) (held:=held) 48 36 2 40 MemR (fun x=>dirsS x.dirs) Tryz.underlying36 zo1 (by decide) (by kernel_rfl) MemT0 open_Mem f5 (fun q hq=>hw' q (by simp [hq]))
 obtain ⟨A6,l6,cc6,ys6,e6,hsl6,hS6⟩:=ze0 (enc:=enc) (spare:=spare) (held:=held) 55 37 10 168 InpR (fun x=>x.dflt.bw<=1099511627776/\dirsS x.dirs/\x.tw.length<=17592186044416) Tryz.underlying37 zk5 (by decide) (by kernel_rfl) InpT0 zR8 f6 (fun q hq=>hw' q (by simp [hq]))
 simp only [List.cons.injEq,and_true] at e0 e1 e2 e3 e4 e5 e6
 subst e0;subst e1;subst e2;subst e3;subst e4;subst e5;subst e6;refine ⟨fun j=>([Value.int .i64 k0,Value.string s1,Value.slice A2 l2 cc2,Value.slice A3 l3 cc3,Value.slice A4 l4 cc4,Value.slice A5 l5 cc5,Value.slice A6 l6 cc6]:List Value).getD j undef,⟨k0,s1,ys2,ys3,ys4,ys5,ys6⟩,rfl, ?_,fun hB=>?_⟩
 ·exact ⟨rfl,zv7 wf0,rfl,hz1,hsl2,hsl3,hsl4,hsl5,hsl6⟩
 ·exact ⟨hS3 (by simp only [Rows.uptoBulk,Rows.uptoBulkAll,List.map_cons,List.map_nil] at hB; omega),hS6 (by simp only [Rows.uptoBulk,Rows.uptoBulkAll,List.map_cons,List.map_nil] at hB; omega),hS4 (by simp only [Rows.uptoBulk,Rows.uptoBulkAll,List.map_cons,List.map_nil] at hB; omega),hS5 (by simp only [Rows.uptoBulk,Rows.uptoBulkAll,List.map_cons,List.map_nil] at hB; omega),by obtain ⟨_,_,_,_,h8⟩:=hsl2.form; show ys2.length<=_; unfold big at h8; omega⟩
def DefT0:DefT:=⟨0,⟨#[]⟩,[],[],[],[],[]⟩
end
end Go.Proofs.YtfgelheiknmjgaaGreatDoor
namespace Go.Proofs.YtfgelheiknmjgaaGreatDoor.K
open Go.RowKit
def tkC (ts:List Tk):List Value:=ts.flatMap fun p=>[.int .i64 p.1,.string ⟨p.2.1.toArray⟩,.int .i64 (p.2.2:Int)]
theorem tkC_app (a b:List Tk):tkC (a++b)=tkC a++tkC b:=List.flatMap_append
theorem infoT:(Tryz.prog.info? 99).map (fun i=>(i.zero,i.size,i.bytes))=some (some (.agg #[.int .i64 0,.string ⟨#[]⟩,.int .i64 0]),3,32):=by kernel_rfl
def OwnT (w:World) (base:Nat) (v:Value) (ts:List Tk):Prop:=w.ownsRow base 99 3 v ts.length (tkC ts)
theorem zI7 {w w':World} {base:Nat} {e:TypeId} {size:Nat} {v:Value} {n:Nat} {xs:List Value} (h:w.ownsRow base e size v n xs) (hb:Below w.heap.size w w'):w'.ownsRow base e size v n xs:=by
 refine ⟨h.1,h.2.imp id ?_⟩
 rintro ⟨g,cap,cur,e1,e2,e3,r⟩;have hg:g<w.heap.size:=by
  rcases Nat.lt_or_ge g w.heap.size with h' | h'
  ·exact h'
  ·rw [Array.getElem?_eq_none h'] at e3; cases e3
 exact ⟨g,cap,cur,e1,e2,(hb.block g hg).trans e3,r⟩
theorem OwnT.stay {w w':World} {base:Nat} {v:Value} {ts:List Tk} (h:OwnT w base v ts) (hb:Below w.heap.size w w'):OwnT w' base v ts:=zI7 h hb
theorem OwnT.nil (w:World) (base:Nat):OwnT w base (.slice none 0 0) []:=⟨rfl,.inl ⟨rfl,rfl⟩⟩
theorem zT6 {w:World} {ops:Array Oper} {rest:List Oper} {o:Oper} {a:Act} {Q:Exit->Act->World->Prop} (hgd:o.guard=none) (s x:Operand)
  (ho:o.op=.call { callee:=.builtin .append,args:=#[s,x],argTypes:=#[57, 57] }) (base:Nat) (v:Value) (ts:List Tk) (hs:a.eval s=v) (hown:OwnT w base v ts)
  (ad:Addr) (c:Nat) (p:Tk) (hx:a.eval x=.slice (some ad) 1 c) (hnews:∀ j u,(tkC [p])[j]?=some u->w.cell? (ad.add j)=some u)
  (hlen:ts.length+1<=1099511627776) (hbase:base<=w.heap.size)
  (h:∀ v' w',OwnT w' base v' (ts++[p])->w.grownBy w' v.ownBlock->wpList Tryz.prog ops Q rest (a.put o.dst v') w'):wpList Tryz.prog ops Q (o::rest) a w:=by
 obtain ⟨i0,hi,hz0,hz1,hz2⟩:=info_parts infoT;refine wpList_append_own w hgd s x 57 ho base 99 i0 (.agg #[.int .i64 0,.string ⟨#[]⟩,.int .i64 0]) 3 32 Tryz.underlying57 hi hz0 hz1 hz2 rfl (by decide) v ts.length (tkC ts) hs hown ad 1 c (tkC [p]) hx rfl hnews ?_ (by unfold maxLen; omega) (by omega) hbase ?_
 ·intro u hu
  simp [tkC] at hu
  rcases hu with rfl | rfl | rfl <;> rfl
 ·intro v' w' h1 h2 _
  refine h v' w' ?_ h2
  unfold OwnT;rw [List.length_append,tkC_app];exact h1
theorem cells_L' (w:World) (xs:Array Value) (t:TypeId) (news:List Value) (hx:xs=news.toArray) :
  ∀ j u,news[j]?=some u->(w.alloc (.cells xs t)).cell? ((⟨w.heap.size,0,none⟩ : Addr).add j)=some u:=by
 intro j u h;obtain ⟨h1,rfl⟩:=List.getElem?_eq_some_iff.1 h;subst hx;have:=T1.zr9 w news.toArray t j (by simpa using h1)
 simpa using this
theorem OwnT.lt {w:World} {base:Nat} {v:Value} {ts:List Tk} (h:OwnT w base v ts):∀ k,v.ownBlock=some k->base<=k/\k<w.heap.size:=World.ownsRow.lt h
def scG (f at':Nat) (l:List UInt8):Except (Nat × Int) (List Tk):=if l=[] then .ok [(5,[],at')] else match tokR l with
 | .error c=>.error (at',c)
 | .ok (k,t,n)=>match scF f (at'+n) (l.drop n) with
   | .error e=>.error e
   | .ok ts=>.ok ((k,t,at')::ts)
theorem scG_ok {f at':Nat} {l:List UInt8} {k:Int} {t:List UInt8} {n:Nat} (hne:l≠[]) (ht:tokR l=.ok (k,t,n)):scG f at' l=match scF f (at'+n) (l.drop n) with
  | .error e=>.error e
  | .ok ts=>.ok ((k,t,at')::ts):=by
 unfold scG; rw [if_neg hne,ht]
structure ScAt (l:List UInt8) (R:Except (Nat × Int) (List Tk)) (f at':Nat) (ts:List Tk):Prop where
 eq:R=match scG f at' (l.drop at') with
  | .error e=>.error e
  | .ok r=>.ok (ts++r)
 fuel:l.length<=f+at'
 hi:at'<=l.length
 len:ts.length<=at'
theorem ScAt.start (l:List UInt8) (h:l.length<=65536):ScAt l (scR l) l.length (sepN l) []:=by
 refine ⟨?_,Nat.le_add_right _ _,zD9 l,Nat.zero_le _⟩
 unfold scR;rw [if_neg (by omega)]
 show scG l.length (0+sepN l) (l.drop (sepN l))=_
 rw [Nat.zero_add];cases scG l.length (sepN l) (l.drop (sepN l)) <;> rfl
theorem ScAt.done {l:List UInt8} {R:Except (Nat × Int) (List Tk)} {f at':Nat} {ts:List Tk} (h:ScAt l R f at' ts) (hd:¬ at'<l.length):R=.ok (ts++[(5,[],at')]):=by
 rw [h.eq,List.drop_eq_nil_of_le (by omega)]; rfl
theorem ScAt.bad {l:List UInt8} {R:Except (Nat × Int) (List Tk)} {f at':Nat} {ts:List Tk} (h:ScAt l R f at' ts) (hd:at'<l.length) {c:Int} (ht:tokR (l.drop at')=.error c):R=.error (at',c):=by
 have hne:l.drop at'≠[]:=by intro e; have:=congrArg List.length e; rw [List.length_drop] at this; simp at this; omega
 rw [h.eq]; unfold scG; rw [if_neg hne,ht]
theorem ScAt.next {l:List UInt8} {R:Except (Nat × Int) (List Tk)} {f at':Nat} {ts:List Tk} (h:ScAt l R f at' ts) (hd:at'<l.length) {k:Int} {t:List UInt8} {n:Nat} (ht:tokR (l.drop at')=.ok (k,t,n)) :
  1<=n/\at'+n<=l.length/\∃ f',ScAt l R f' (at'+n+sepN (l.drop (at'+n))) (ts++[(k,t,at')]):=by
 have hne:l.drop at'≠[]:=by intro e; have:=congrArg List.length e; rw [List.length_drop] at this; simp at this; omega
 obtain ⟨h1,h2⟩:=zQ8 hne ht;rw [List.length_drop] at h2;have hs:=zD9 (l.drop (at'+n));rw [List.length_drop] at hs;have hf:=h.fuel;have hl:=h.len;obtain ⟨f',rfl⟩ : ∃ g,f=g+1:=⟨f-1,by omega⟩
 refine ⟨h1,by omega,f', ?_,by omega,by omega,by rw [List.length_append]; show ts.length+1<=_; omega⟩
 rw [h.eq,scG_ok hne ht,List.drop_drop];have e:scF (f'+1) (at'+n) (l.drop (at'+n))=scG f' (at'+n+sepN (l.drop (at'+n))) ((l.drop (at'+n)).drop (sepN (l.drop (at'+n)))):=rfl;rw [e,List.drop_drop];generalize (at'+n+sepN (l.drop (at'+n)))=b
 cases scG f' b (l.drop b) with
 | error e=>rfl
 | ok r=>simp
def ScanAns (R:Except (Nat × Int) (List Tk)) (base:Nat) (e:Ending) (w':World):Prop:=match R with
 | .ok ts=>∃ v,e=.returned (.tuple #[v,.int .i64 0,.int .i64 0])/\OwnT w' base v ts
 | .error x=>e=.returned (.tuple #[.slice none 0 0,.int .i64 x.1,.int .i64 x.2])/\x.2≠0
def zG3 (R:Except (Nat × Int) (List Tk)) (w:World) (e:Ending) (w':World):Prop:=ScanAns R w.heap.size e w'/\Below w.heap.size w w'
theorem ya8 (s:ByteArray) (h:65536<s.size) (w:World):Calls Tryz.prog 25 #[.string s] w (zG3 (scR s.data.toList) w):=by
 have E1:Hid (scR s.data.toList=.error (65536,4)):=Lh (by unfold scR; rw [T1.size_eq,if_pos h])
 have hgt:((s.size:Int) > 65536):=by omega
 generalize scR s.data.toList=R at *
 go_enter Tryz.func25, Tryz.ntmps25
 go_wp2_with fail
 refine bodyPost_ret (v:=.tuple #[.slice none 0 0,.int .i64 65536,.int .i64 4]) (by simp [results,Tryz.results25,go_sem]) rfl ⟨?_,Below.refl _ _⟩
 rw [E1.out];exact ⟨rfl,by decide⟩
theorem zU8 (s:ByteArray) (h:s.size<=65536) (w:World) (hL:LK w):Calls Tryz.prog 25 #[.string s] w (zG3 (scR s.data.toList) w):=by
 have hsz:=T1.size_eq s;have ST:=Lh (ScAt.start s.data.toList (by omega))
 have hgt:¬ ((s.size:Int) > 65536):=by omega
 have HL:=Lh hL;clear hL;generalize scR s.data.toList=R at *
 go_enter Tryz.func25, Tryz.ntmps25
 go_wp2_with fail
 refine (zo8 s (by unfold maxLen; omega) w).mono ?_
 rintro e w1 ⟨rfl,hb⟩;have HB1:=Lh hb;clear hb;generalize sepN s.data.toList=m at *;go_wp2_with fail
 go_loopw [5,6] (fun v i wr=>∃ (f k:Nat) (ts:List Tk),i=.int .i64 k/\OwnT wr w.heap.size v ts/\ScAt s.data.toList R f k ts/\Below w.heap.size w wr) (fun _ i _=>s.size-(intOf i).toNat)
 case atStart=>exact ⟨_,m,[],rfl,OwnT.nil _ _,ST.out,HB1.out⟩
 case round =>
  obtain ⟨f,k,ts,rfl,hown,hat,hb⟩:=hrel;have HO:=Lh hown;have HA:=Lh hat
  have HB:=Lh hb;clear hown hat hb HB1 ST;have hkl:=HA.out.hi;by_cases hlt:k<s.size
  ·have hlt':(k:Int)<s.size:=by omega
   have hle':(k:Int)<=s.size:=by omega
   have HD:=Lh (zw2 s k);have HES:Hid ((s.extract k s.size).size=s.size-k):=Lh (by rw [<- T1.size_eq,HD.out,List.length_drop,hsz])
   have CALL:=Lh (zy7 (s.extract k s.size) (by rw [HES.out]; omega) (by rw [HES.out]; omega) wr (HL.out.below HB.out))
   rw [HD.out] at CALL;go_wp2_with fail
   refine CALL.out.mono ?_
   rintro e w2 ⟨ha,hb⟩;have HB2:=Lh (HB.out.trans (hb.mono HB.out.size));have HO2:=Lh (HO.out.stay hb);clear hb CALL HB HO
   cases ht:tokR (s.data.toList.drop k) with
   | error c =>
     rw [ht] at ha;obtain ⟨hc,k1,t1,n1,rfl⟩:=ha;have E1:=Lh (HA.out.bad (by omega) ht)
     have HC:=Lh hc;have hc0:(c==0)=false:=beq_false_of_ne hc;clear ht hc;go_wp2_with fail
     refine bodyPost_ret (v:=.tuple #[.slice none 0 0,.int .i64 k,.int .i64 c]) (by simp [results,Tryz.results25,go_sem]) rfl ⟨?_,HB2.out.alloc HB2.out.size _⟩
     rw [E1.out];exact ⟨rfl,HC.out⟩
   | ok p =>
     obtain ⟨k1,t1,n⟩:=p;rw [ht] at ha;have ha:e=.returned (.tuple #[tkV k1 ⟨t1.toArray⟩ 0,.int .i64 n,.int .i64 0]):=ha;subst ha;obtain ⟨hn1,hn2,f',hnx⟩:=HA.out.next (by omega) ht
     have HN:=Lh hnx;clear ht hnx;have HX3:Hid (TB (w2.alloc (.cells #[.int .i64 k1,.string ⟨t1.toArray⟩,.int .i64 0] 99 (0,0))) w2.heap.size (.int .i64 k1) (.string ⟨t1.toArray⟩) (.int .i64 0)):=Lh (heap_alloc_new w2 _);have hb3:=((Below.refl w2.heap.size w2).alloc (Nat.le_refl _) (.cells #[.int .i64 k1,.string ⟨t1.toArray⟩,.int .i64 k] 99 (0,0))).alloc (by simp) (.cells #[.int .i64 k1,.string ⟨t1.toArray⟩,.int .i64 k] 99 (0,0))
     have HO4:=Lh (HO2.out.stay hb3);have HB4:=Lh (HB2.out.trans (hb3.mono HB2.out.size));have HNL:=Lh HA.out.len;have h00:((0:Int)==0)=true:=rfl;have hsm:=hsz;obtain ⟨x0,x1,x2⟩:=HX3.out.cells;have g0:=HX3.out.frz 0;have g1:=HX3.out.frz 1;have g2:=HX3.out.frz 2;clear hb3;go_wp2_with (at_builtin; refine zT6 rfl _ _ rfl w.heap.size _ ts rfl HO4.out _ _ (k1,t1,k) rfl ?_ ?_ ?_ ?_)
     ·intro j u hj
      have h9:=cells_L' (w2.alloc (.cells #[.int .i64 k1,.string ⟨t1.toArray⟩,.int .i64 k] 99)) #[.int .i64 k1,.string ⟨t1.toArray⟩,.int .i64 k] 99 (tkC [(k1,t1,k)]) rfl j u hj;rw [show (w2.alloc (.cells #[.int .i64 k1,.string ⟨t1.toArray⟩,.int .i64 k] 99)).heap.size=w2.heap.size+1 by simp] at h9
      exact h9
     ·have:=HNL.out; omega
     ·exact HB4.out.size
     ·intro v' w5 h1 h2
      have HO5:=Lh h1;have HB5:=Lh (HB4.out.grown h2 HB4.out.size (fun g hg=>(HO4.out.lt g hg).1));have HE2:=Lh (zw2 s (k+n));have hk2:(k:Int)+n<=s.size:=by omega
      have hk3:(0:Int)<=(k:Int)+n:=by omega
      have hk4:((k:Int)+n).toNat=k+n:=by omega
      have hes:(s.extract (k+n) s.size).size<=maxLen:=by
       rw [<- T1.size_eq,HE2.out,List.length_drop]; unfold maxLen; omega
      have CALL:=Lh (zo8 (s.extract (k+n) s.size) hes w5);rw [HE2.out] at CALL;have hq:=zD9 (s.data.toList.drop (k+n));rw [List.length_drop] at hq;clear h1 h2 hes HX3 x0 x1 x2 g0 g1 g2;generalize sepN (s.data.toList.drop (k+n))=q at *;go_wp2_with fail
      refine CALL.out.mono ?_
      rintro e w6 ⟨rfl,hb⟩;have HB6:=Lh (HB5.out.trans (hb.mono HB5.out.size));have HO6:=Lh (HO5.out.stay hb);clear hb CALL;go_wp2_with fail
      go_roundw
      case rel=>exact ⟨f',k+n+q,ts++[(k1,t1,k)],by push_cast; rfl,HO6.out,HN.out,HB6.out⟩
      case measure =>
       simp only [intOf]
       omega
  ·have E1:=Lh (HA.out.done (by omega))
   have hlt':¬ (k:Int)<s.size:=by omega
   have hb3:=(Below.refl wr.heap.size wr).alloc (Nat.le_refl _) (.cells #[.int .i64 5,.string ⟨#[]⟩,.int .i64 k] 99 (0,0));have HO4:=Lh (HO.out.stay hb3);have HB4:=Lh (HB.out.trans (hb3.mono HB.out.size));have HNL:=Lh HA.out.len;clear hb3;go_wp2_with (at_builtin; refine zT6 rfl _ _ rfl w.heap.size _ ts rfl HO4.out _ _ (5,[],k) rfl ?_ ?_ ?_ ?_)
   ·exact fun j u h=>h
   ·have:=HNL.out; omega
   ·have:=HB.out.size; omega
   ·intro v' w5 h1 h2
    have HO5:=Lh h1;have HB5:=Lh (HB4.out.grown h2 HB4.out.size (fun g hg=>(HO4.out.lt g hg).1));clear h1 h2;go_wp2_with fail
    refine bodyPost_ret (v:=.tuple #[v',.int .i64 0,.int .i64 0]) (by simp [results,Tryz.results25,go_sem]) rfl ⟨?_,HB5.out⟩
    rw [E1.out];exact ⟨_,rfl,HO5.out⟩
theorem scan_any (s:ByteArray) (w:World) (hL:LK w):Calls Tryz.prog 25 #[.string s] w (zG3 (scR s.data.toList) w):=by
 rcases Nat.lt_or_ge 65536 s.size with h | h
 ·exact ya8 s h w
 ·exact zU8 s h w hL
abbrev Tz:=Int × List UInt8 × Int
def zC (zs:List Tz):List Value:=zs.flatMap fun p=>[.int .i64 p.1,.string ⟨p.2.1.toArray⟩,.int .i64 p.2.2]
def tz (ts:List Tk):List Tz:=ts.map fun p=>(p.1,p.2.1,(p.2.2:Int))
theorem tz_len (ts:List Tk):(tz ts).length=ts.length:=List.length_map _
theorem tz_C (ts:List Tk):zC (tz ts)=tkC ts:=by
 induction ts with
 | nil=>rfl
 | cons p r ih=>show _::_::_::zC (tz r)=_; rw [ih]; rfl
theorem zC_at (zs:List Tz) (i:Nat) (p:Tz) (h:zs[i]?=some p):(zC zs)[i*3]?=some (.int .i64 p.1)/\(zC zs)[i*3+1]?=some (.string ⟨p.2.1.toArray⟩)/\(zC zs)[i*3+2]?=some (.int .i64 p.2.2):=by
 induction zs generalizing i with
 | nil=>simp at h
 | cons q r ih =>
   cases i with
   | zero=>simp at h; subst h; exact ⟨rfl,rfl,rfl⟩
   | succ i =>
     have:=ih i (by simpa using h)
     have e:zC (q::r)=.int .i64 q.1::.string ⟨q.2.1.toArray⟩::.int .i64 q.2.2::zC r:=rfl;rw [e,show (i+1)*3=i*3+1+1+1 by omega]
     simpa using this
def C3 (w:World) (a:Addr) (p:Tz):Prop:=w.cell? a=some (.int .i64 p.1)/\w.cell? ⟨a.block,a.off+1,none⟩=some (.string ⟨p.2.1.toArray⟩)/\w.cell? ⟨a.block,a.off+2,none⟩=some (.int .i64 p.2.2)
theorem za0 (a:Addr) (n:Nat):(a.add n).block=a.block:=by
 unfold Addr.add; split <;> rfl
def ZAt (w:World) (B:Nat) (A:Option Addr) (zs:List Tz):Prop:=0<zs.length->∃ a,A=some a/\a.block<B/\∀ i p,zs[i]?=some p->C3 w (a.add (i*3)) p
def OwnZ (T:TypeId) (w:World) (base:Nat) (v:Value) (zs:List Tz):Prop:=w.ownsRow base T 3 v zs.length (zC zs)
theorem OwnT.z {w:World} {base:Nat} {v:Value} {ts:List Tk} (h:OwnT w base v ts):OwnZ 99 w base v (tz ts):=by
 unfold OwnZ; rw [tz_len,tz_C]; exact h
theorem infoS:(Tryz.prog.info? 9).map (fun i=>(i.zero,i.size,i.bytes))=some (some (.string ⟨#[]⟩),1,16):=by kernel_rfl
def OwnS (w:World) (base:Nat) (v:Value) (ss:List (List UInt8)):Prop:=w.ownsRow base 9 1 v ss.length (ss.map fun s=>.string ⟨s.toArray⟩)
end Go.Proofs.YtfgelheiknmjgaaGreatDoor.K
namespace Go.Proofs.YtfgelheiknmjgaaGreatDoor
open Go.RowKit
abbrev Tk:=Int × List UInt8 × Nat
abbrev Er:=Nat × Int
def tkV (t:Tk):Value:=.agg #[.int .i64 t.1,.string ⟨t.2.1.toArray⟩,.int .i64 t.2.2]
def hd (ts:List Tk):Tk:=ts.headD (0,[],0)
structure TkOk (t:Tk):Prop where
 k0:0<=t.1
 k5:t.1<=5
 len:t.2.1.length<=1000000
 at_:t.2.2<=1000000
structure Good (ts:List Tk):Prop where
 last:∃ i t,ts=i++[t]/\t.1=5
 ok:∀ t∈ts,TkOk t
 len:ts.length<=1000000
theorem Good.ne {ts:List Tk} (h:Good ts):∃ t r,ts=t::r:=by
 obtain ⟨i,t,e,_⟩:=h.last
 cases ts with
 | nil=>simp at e
 | cons t r=>exact ⟨t,r,rfl⟩
theorem Good.tail {ts:List Tk} (h:Good ts) (hk:(hd ts).1≠5):Good ts.tail:=by
 obtain ⟨i,t,e,h5⟩:=h.last;subst e
 cases i with
 | nil=>exact absurd h5 hk
 | cons a r=>exact ⟨⟨r,t,rfl,h5⟩,fun u hu=>h.ok u (List.mem_cons_of_mem _ hu),by have:=h.len; simp at this ⊢; omega⟩
def TAt (w:World) (B:Nat) (A:Option Addr) (ts:List Tk):Prop :=
 ∃ a,A=some a/\a.block<B/\∀ i t,ts[i]?=some t->w.cell? (a.add (i*3))=some (.int .i64 t.1)/\w.cell? ⟨(a.add (i*3)).block,(a.add (i*3)).off+1,none⟩=some (.string ⟨t.2.1.toArray⟩)/\w.cell? ⟨(a.add (i*3)).block,(a.add (i*3)).off+2,none⟩=some (.int .i64 t.2.2)
theorem TAt.kept {w w':World} {B:Nat} {A:Option Addr} {ts:List Tk} (h:TAt w B A ts) (hb:Below B w w'):TAt w' B A ts:=by
 obtain ⟨a,e,ha,hc⟩:=h;refine ⟨a,e,ha,fun i t hi=>?_⟩
 have hk:∀ o,w'.cell? ⟨(a.add (i*3)).block,o,none⟩=w.cell? ⟨(a.add (i*3)).block,o,none⟩:=fun o=>hb.cell (p:=⟨(a.add (i*3)).block,o,none⟩) (by rw [za0]; exact ha)
 obtain ⟨h0,h1,h2⟩:=hc i t hi;exact ⟨(hb.cell (by rw [za0]; exact ha)).trans h0,(hk _).trans h1,(hk _).trans h2⟩
abbrev fnV:Value:=.func (.func 27) #[] #[]
abbrev rdC (A:Option Addr) (l c:Nat) (n:Int):Array Value:=#[.slice A l c,fnV,.bool false,.int .i64 n]
structure PSt (w:World) (p:Nat) (ts:List Tk) (n:Nat):Prop where
 box:∃ A c,Bk w p (rdC A ts.length c n) 67 /\ ts.length<=c/\TAt w p A ts
 good:Good ts
 hn:n<=4097
 laid:∀ w2,Below p w w2->T1.Laid w2
structure Tw (p N:Nat) (w w':World):Prop where
 os:w'.os=w.os
 tape:w'.tape=w.tape
 output:w'.output=w.output
 size:w.heap.size<=w'.heap.size
 block:∀ k,k<N->k≠p->w'.heap[k]?=w.heap[k]?
theorem Tw.refl (p N:Nat) (w:World):Tw p N w w:=⟨rfl,rfl,rfl,Nat.le_refl _,fun _ _ _=>rfl⟩
theorem Tw.trans {p N:Nat} {a b c:World} (h:Tw p N a b) (k:Tw p N b c):Tw p N a c :=
 ⟨k.os.trans h.os,k.tape.trans h.tape,k.output.trans h.output,Nat.le_trans h.size k.size,fun i hi hp=>(k.block i hi hp).trans (h.block i hi hp)⟩
theorem Tw.mono {p N N':Nat} {w w':World} (h:Tw p N w w') (hN:N'<=N):Tw p N' w w':=⟨h.os,h.tape,h.output,h.size,fun k hk hp=>h.block k (Nat.lt_of_lt_of_le hk hN) hp⟩
theorem Tw.below {p N:Nat} {w w':World} (h:Tw p N w w') (hp:p<=N):Below p w w':=⟨h.os,h.tape,h.output,h.size,fun k hk=>h.block k (by omega) (by omega)⟩
theorem Tw.of {p N:Nat} {w w':World} (h:Below N w w'):Tw p N w w':=⟨h.os,h.tape,h.output,h.size,fun k hk _=>h.block k hk⟩
theorem Tw.set {p N:Nat} {a w:World} (h:Tw p N a w) (i:Nat) (u:Value):Tw p N a (w.setCell ⟨p,i,none⟩ u) :=
 h.trans ⟨rfl,rfl,rfl,by simp [World.setCell],fun k _ hp=>Below.heap_setCell _ _ _ _ hp⟩
theorem Tw.step {p N:Nat} {a b c:World} (h:Tw p N a b) (hN:N<=b.heap.size) (k:Tw p b.heap.size b c):Tw p N a c:=h.trans (k.mono hN)
theorem Bk.far {W W':World} {p b:Nat} {cs:Array Value} {T:TypeId} (h:Bk W b cs T) (hb:Tw p W.heap.size W W') (hne:b≠p):Bk W' b cs T:=(hb.block b h.lt hne).trans h
theorem PSt.lt {w:World} {p:Nat} {ts:List Tk} {n:Nat} (h:PSt w p ts n):p<w.heap.size:=by
 obtain ⟨A,c,hb,_⟩:=h.box;exact hb.lt
theorem PSt.same {w w':World} {p:Nat} {ts:List Tk} {n:Nat} (h:PSt w p ts n) (hb:Below (p+1) w w'):PSt w' p ts n:=by
 obtain ⟨A,c,hx,hc,ht⟩:=h.box;exact ⟨⟨A,c,(hb.block p (by omega)).trans hx,hc,ht.kept (hb.mono (by omega))⟩,h.good,h.hn,fun w2 h2=>h.laid w2 ((hb.mono (by omega)).trans h2)⟩
theorem PSt.stay {w w':World} {p:Nat} {ts:List Tk} {n:Nat} (h:PSt w p ts n) (hb:Below w.heap.size w w'):PSt w' p ts n:=h.same (hb.mono h.lt)
theorem PSt.fail {w:World} {p:Nat} {ts:List Tk} {n:Nat} (h:PSt w p ts n):w.cell? ⟨p,1,none⟩=some fnV:=by
 obtain ⟨A,c,hb,_⟩:=h.box;exact hb.cell 1 _ rfl
abbrev pP (p:Nat):Value:=.pointer (some ⟨p,0,none⟩)
theorem PSt.head {w:World} {p:Nat} {ts:List Tk} {n:Nat} (h:PSt w p ts n):∃ (t:Tk) (r:List Tk) (a:Addr) (c:Nat),ts=t::r/\TkOk t/\a.block<p/\r.length+1<=c/\Bk w p (rdC (some a) (r.length+1) c n) 67 /\
  w.cell? a=some (.int .i64 t.1)/\w.cell? ⟨a.block,a.off+1,none⟩=some (.string ⟨t.2.1.toArray⟩)/\w.cell? ⟨a.block,a.off+2,none⟩=some (.int .i64 t.2.2):=by
 obtain ⟨t,r,rfl⟩:=h.good.ne;obtain ⟨A,c,hx,hc,a,rfl,ha,hcl⟩:=h.box;have h0:=hcl 0 t rfl;have ez:a.add (0*3)=a:=by simp [Addr.add]
 rw [ez] at h0;exact ⟨t,r,a,c,rfl,h.good.ok t List.mem_cons_self,ha,hc,hx,h0⟩
def isSg (s:List UInt8) (ts:List Tk):Bool:=decide ((hd ts).1=1)&&decide ((hd ts).2.1=s)
def isNm (ts:List Tk):Bool:=decide ((hd ts).1=2)
def erR (ts:List Tk) (c:Int):Er:=((hd ts).2.2,c)
def sgR (s:List UInt8) (ts:List Tk):Except Er (List Tk):=if isSg s ts then .ok ts.tail else .error (erR ts 3)
def nmR (ts:List Tk):Except Er (ByteArray × List Tk):=if isNm ts then .ok (⟨(hd ts).2.1.toArray⟩,ts.tail) else .error (erR ts 3)
def bgR (can:Bool) (count most:Nat) (ts:List Tk):Except Er Unit:=if can then (if count=most then .error (erR ts 4) else .ok ()) else .error (erR ts 3)
def badV (x:Er):Ending:=.panicked [{ v:=.iface 61 (.agg #[.int .i64 x.1,.int .i64 x.2]),recovered:=false }]
end Go.Proofs.YtfgelheiknmjgaaGreatDoor
