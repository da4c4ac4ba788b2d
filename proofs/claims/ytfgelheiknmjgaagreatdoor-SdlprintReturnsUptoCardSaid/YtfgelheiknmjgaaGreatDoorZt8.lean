
/-
 Texts joined: D0 W2Q DOpenQ Sa D1Dir D1Def D1Str D1Fld D1Mem D1Inp D1Arg.
-/
import Derived.Test.YtfgelheiknmjgaaGreatDoorZt7
import Derived.ChangeSlices
set_option maxRecDepth 1000000
set_option maxHeartbeats 8000000
namespace Go.Proofs.YtfgelheiknmjgaaGreatDoor
open Go.RowKit
def at_ (a:Addr):Nat->Addr
 | 0=>a
 | j+1=>⟨a.block,a.off+(j+1),none⟩
theorem zb5 (a:Addr) (j:Nat):(at_ a j).block=a.block:=by cases j <;> rfl
abbrev big:Nat:=140737488351232
structure Stays {α:Type} (R:World->Nat->(Nat->Value)->α->Prop):Prop where
 kept:∀ {w w':World} {B:Nat} {f:Nat->Value} {x : α},R w B f x->Below B w w'->R w' B f x
 mono:∀ {w:World} {B B':Nat} {f:Nat->Value} {x : α},R w B f x->B<=B'->R w B' f x
def Sl {α:Type} (k bytes:Nat) (R:World->Nat->(Nat->Value)->α->Prop) (w:World) (B:Nat) (v:Value) (xs:List α):Prop :=
 ∃ A c,v=.slice A xs.length c/\xs.length<=c/\xs.length*bytes<=big/\∃ V:Nat->Nat->Value,
  (0<xs.length->∃ a,A=some a/\a.block<B/\∀ i,i<xs.length->∀ j,j<k->w.cell? (at_ (a.add (i*k)) j)=some (V i j))/\∀ i x,xs[i]?=some x->R w B (V i) x
theorem Sl.kept {α:Type} {k bytes:Nat} {R:World->Nat->(Nat->Value)->α->Prop} (hR:Stays R) {w w':World} {B:Nat} {v:Value} {xs:List α} (h:Sl k bytes R w B v xs) (hw:Below B w w'):Sl k bytes R w' B v xs:=by
 obtain ⟨A,c,e,hc,hb,V,hA,hr⟩:=h;refine ⟨A,c,e,hc,hb,V,fun h0=>?_,fun i x hx=>hR.kept (hr i x hx) hw⟩;obtain ⟨a,ea,ha,hx⟩:=hA h0;exact ⟨a,ea,ha,fun i hi j hj=>(hw.cell (by rw [zb5,za1]; exact ha)).trans (hx i hi j hj)⟩
theorem Sl.mono {α:Type} {k bytes:Nat} {R:World->Nat->(Nat->Value)->α->Prop} (hR:Stays R) {w:World} {B B':Nat} {v:Value} {xs:List α} (h:Sl k bytes R w B v xs) (hB:B<=B'):Sl k bytes R w B' v xs:=by
 obtain ⟨A,c,e,hc,hb,V,hA,hr⟩:=h;refine ⟨A,c,e,hc,hb,V,fun h0=>?_,fun i x hx=>hR.mono (hr i x hx) hB⟩;obtain ⟨a,ea,ha,hx⟩:=hA h0;exact ⟨a,ea,Nat.lt_of_lt_of_le ha hB,hx⟩
structure DirT where
 name:ByteArray
 args:List (ByteArray × VT)
structure InpT where
 name:ByteArray
 tn:ByteArray
 tw:List Int
 has:Bool
 dflt:VT
 dirs:List DirT
structure FldT where
 name:ByteArray
 args:List InpT
 tn:ByteArray
 tw:List Int
 dirs:List DirT
structure MemT where
 name:ByteArray
 dirs:List DirT
structure DefT where
 kind:Int
 name:ByteArray
 impl:List ByteArray
 dirs:List DirT
 fields:List FldT
 members:List MemT
 inputs:List InpT
def StrR (_:World) (_:Nat) (f:Nat->Value) (s:ByteArray):Prop:=f 0=.string s/\s.size<=big
def IntR (_:World) (_:Nat) (f:Nat->Value) (n:Int):Prop:=f 0=.int .i64 n/\small n
def WrapsR:=Sl 1 8 IntR
def NamesR:=Sl 1 16 StrR
structure RfR (w:World) (B:Nat) (c0 c1:Value) (n:ByteArray) (xs:List Int):Prop where
 name:c0=.string n
 size:n.size<=big
 wraps:WrapsR w B c1 xs
structure ArgR (w:World) (B:Nat) (f:Nat->Value) (x:ByteArray × VT):Prop where
 name:f 0=.string x.1
 size:x.1.size<=big
 val:Rd w B (.agg #[f 1,f 2,f 3,f 4,f 5]) x.2
def ArgsR:=Sl 6 96 ArgR
structure DirR (w:World) (B:Nat) (f:Nat->Value) (x:DirT):Prop where
 name:f 0=.string x.name
 size:x.name.size<=big
 args:ArgsR w B (f 1) x.args
def DirsR:=Sl 2 40 DirR
structure InpR (w:World) (B:Nat) (f:Nat->Value) (x:InpT):Prop where
 name:f 0=.string x.name
 size:x.name.size<=big
 type:RfR w B (f 1) (f 2) x.tn x.tw
 has:f 3=.bool x.has
 val:Rd w B (.agg #[f 4,f 5,f 6,f 7,f 8]) x.dflt
 dirs:DirsR w B (f 9) x.dirs
def InpsR:=Sl 10 168 InpR
structure FldR (w:World) (B:Nat) (f:Nat->Value) (x:FldT):Prop where
 name:f 0=.string x.name
 size:x.name.size<=big
 args:InpsR w B (f 1) x.args
 type:RfR w B (f 2) (f 3) x.tn x.tw
 dirs:DirsR w B (f 4) x.dirs
def FldsR:=Sl 5 104 FldR
structure MemR (w:World) (B:Nat) (f:Nat->Value) (x:MemT):Prop where
 name:f 0=.string x.name
 size:x.name.size<=big
 dirs:DirsR w B (f 1) x.dirs
def MemsR:=Sl 2 40 MemR
structure DefR (w:World) (B:Nat) (f:Nat->Value) (x:DefT):Prop where
 kind:f 0=.int .i64 x.kind
 small:small x.kind
 name:f 1=.string x.name
 size:x.name.size<=big
 impl:NamesR w B (f 2) x.impl
 dirs:DirsR w B (f 3) x.dirs
 fields:FldsR w B (f 4) x.fields
 members:MemsR w B (f 5) x.members
 inputs:InpsR w B (f 6) x.inputs
def DefsR:=Sl 7 144 DefR
theorem StrR.stays:Stays StrR:=⟨fun h _=>h,fun h _=>h⟩
theorem IntR.stays:Stays IntR:=⟨fun h _=>h,fun h _=>h⟩
section
variable {w w':World} {B B':Nat}
theorem WrapsR.kept {v:Value} {xs:List Int} (h:WrapsR w B v xs) (hb:Below B w w'):WrapsR w' B v xs:=Sl.kept IntR.stays h hb
theorem WrapsR.mono {v:Value} {xs:List Int} (h:WrapsR w B v xs) (hb:B<=B'):WrapsR w B' v xs:=Sl.mono IntR.stays h hb
theorem NamesR.kept {v:Value} {xs:List ByteArray} (h:NamesR w B v xs) (hb:Below B w w'):NamesR w' B v xs:=Sl.kept StrR.stays h hb
theorem NamesR.mono {v:Value} {xs:List ByteArray} (h:NamesR w B v xs) (hb:B<=B'):NamesR w B' v xs:=Sl.mono StrR.stays h hb
theorem RfR.kept {c0 c1:Value} {n:ByteArray} {xs:List Int} (h:RfR w B c0 c1 n xs) (hb:Below B w w'):RfR w' B c0 c1 n xs:=⟨h.name,h.size,h.wraps.kept hb⟩
theorem RfR.mono {c0 c1:Value} {n:ByteArray} {xs:List Int} (h:RfR w B c0 c1 n xs) (hb:B<=B'):RfR w B' c0 c1 n xs:=⟨h.name,h.size,h.wraps.mono hb⟩
theorem ArgR.stays:Stays ArgR:=⟨fun h hb=>⟨h.name,h.size,h.val.kept hb⟩,fun h hb=>⟨h.name,h.size,h.val.mono hb⟩⟩
theorem ArgsR.kept {v:Value} {xs:List (ByteArray × VT)} (h:ArgsR w B v xs) (hb:Below B w w'):ArgsR w' B v xs:=Sl.kept ArgR.stays h hb
theorem ArgsR.mono {v:Value} {xs:List (ByteArray × VT)} (h:ArgsR w B v xs) (hb:B<=B'):ArgsR w B' v xs:=Sl.mono ArgR.stays h hb
theorem DirR.stays:Stays DirR:=⟨fun h hb=>⟨h.name,h.size,h.args.kept hb⟩,fun h hb=>⟨h.name,h.size,h.args.mono hb⟩⟩
theorem DirsR.kept {v:Value} {xs:List DirT} (h:DirsR w B v xs) (hb:Below B w w'):DirsR w' B v xs:=Sl.kept DirR.stays h hb
theorem DirsR.mono {v:Value} {xs:List DirT} (h:DirsR w B v xs) (hb:B<=B'):DirsR w B' v xs:=Sl.mono DirR.stays h hb
theorem InpR.stays:Stays InpR:=⟨fun h hb=>⟨h.name,h.size,h.type.kept hb,h.has,h.val.kept hb,h.dirs.kept hb⟩,fun h hb=>⟨h.name,h.size,h.type.mono hb,h.has,h.val.mono hb,h.dirs.mono hb⟩⟩
theorem InpsR.kept {v:Value} {xs:List InpT} (h:InpsR w B v xs) (hb:Below B w w'):InpsR w' B v xs:=Sl.kept InpR.stays h hb
theorem InpsR.mono {v:Value} {xs:List InpT} (h:InpsR w B v xs) (hb:B<=B'):InpsR w B' v xs:=Sl.mono InpR.stays h hb
theorem FldR.stays:Stays FldR:=⟨fun h hb=>⟨h.name,h.size,h.args.kept hb,h.type.kept hb,h.dirs.kept hb⟩,fun h hb=>⟨h.name,h.size,h.args.mono hb,h.type.mono hb,h.dirs.mono hb⟩⟩
theorem FldsR.kept {v:Value} {xs:List FldT} (h:FldsR w B v xs) (hb:Below B w w'):FldsR w' B v xs:=Sl.kept FldR.stays h hb
theorem FldsR.mono {v:Value} {xs:List FldT} (h:FldsR w B v xs) (hb:B<=B'):FldsR w B' v xs:=Sl.mono FldR.stays h hb
theorem MemR.stays:Stays MemR:=⟨fun h hb=>⟨h.name,h.size,h.dirs.kept hb⟩,fun h hb=>⟨h.name,h.size,h.dirs.mono hb⟩⟩
theorem MemsR.kept {v:Value} {xs:List MemT} (h:MemsR w B v xs) (hb:Below B w w'):MemsR w' B v xs:=Sl.kept MemR.stays h hb
theorem MemsR.mono {v:Value} {xs:List MemT} (h:MemsR w B v xs) (hb:B<=B'):MemsR w B' v xs:=Sl.mono MemR.stays h hb
theorem DefR.stays:Stays DefR:=⟨fun h hb=>⟨h.kind,h.small,h.name,h.size,h.impl.kept hb,h.dirs.kept hb,h.fields.kept hb,h.members.kept hb,h.inputs.kept hb⟩,fun h hb=>⟨h.kind,h.small,h.name,h.size,h.impl.mono hb,h.dirs.mono hb,h.fields.mono hb,h.members.mono hb,h.inputs.mono hb⟩⟩
theorem DefsR.kept {v:Value} {xs:List DefT} (h:DefsR w B v xs) (hb:Below B w w'):DefsR w' B v xs:=Sl.kept DefR.stays h hb
theorem DefsR.mono {v:Value} {xs:List DefT} (h:DefsR w B v xs) (hb:B<=B'):DefsR w B' v xs:=Sl.mono DefR.stays h hb
end
theorem Sl.form {α:Type} {k bytes:Nat} {R:World->Nat->(Nat->Value)->α->Prop} {w:World} {B:Nat} {v:Value} {xs:List α} (h:Sl k bytes R w B v xs):∃ A c,v=.slice A xs.length c/\xs.length<=c/\xs.length*bytes<=big:=by
 obtain ⟨A,c,e,hc,hb,_⟩:=h; exact ⟨A,c,e,hc,hb⟩
theorem Rd.form {w:World} {B:Nat} {c0 c1 c2 c3 c4:Value} {t:VT} (h:Rd w B (.agg #[c0,c1,c2,c3,c4]) t):∃ (k n:Int) (s:ByteArray) (A:Option Addr) (li ci:Nat) (K:Option Addr) (lk ck:Nat),c0=.int .i64 k/\c1=.int .i64 n/\c2=.string s/\c3=.slice A li ci/\c4=.slice K lk ck:=by
 cases h with
 | mk V=>exact ⟨_,_,_,_,_,_,_,_,_,rfl,rfl,rfl,rfl,rfl⟩
end Go.Proofs.YtfgelheiknmjgaaGreatDoor
namespace Go.Proofs.YtfgelheiknmjgaaGreatDoor
open Go.RowKit
def argsQ (l:List (ByteArray × VT)):Prop:=∀ a∈l,a.2.bw<=1048576
def dirsQ (l:List DirT):Prop:=∀ d∈l,argsQ d.args
def inpsQ (l:List InpT):Prop:=∀ x∈l,x.dflt.bw<=1048576/\dirsQ x.dirs/\x.tw.length<=17592186044416
def fldsQ (l:List FldT):Prop:=∀ x∈l,inpsQ x.args/\dirsQ x.dirs/\x.tw.length<=17592186044416
def memsQ (l:List MemT):Prop:=∀ x∈l,dirsQ x.dirs
def defsQ (l:List DefT):Prop:=∀ x∈l,dirsQ x.dirs/\inpsQ x.inputs/\fldsQ x.fields/\memsQ x.members/\x.impl.length<=17592186044416
end Go.Proofs.YtfgelheiknmjgaaGreatDoor
namespace Go.Proofs.YtfgelheiknmjgaaGreatDoor
open Go.RowKit Go.ChangeShapes Go.WideShapes
theorem at_add (b:Addr) (j:Nat):b.add j=at_ b j:=by cases j <;> rfl
theorem zW4 {H:Type}:∀ (l:List (DataW H)) (d:DataW H),d∈l->Rows.uptoBulk d<=Rows.uptoBulkAll l
 | a::r,d,h=>by
   rw [Rows.uptoBulkAll];rcases List.mem_cons.1 h with rfl | h
   ·omega
   ·have:=zW4 r d h; omega
section
variable {H:Type} {enc:TypeId × Value->H} {w:World} {spare:Nat->Bool} {held:Bool}
theorem ze6 {α:Type} (T SL:TypeId) (k bytes:Nat) (R:World->Nat->(Nat->Value)->α->Prop) (S : α->Prop) (hu : Tryz.prog.underlying SL=some (.slice T)) (hk : Tryz.prog.cellsOf T=k) (hk0:0<k) (hb : Tryz.prog.bytesOf T=bytes) (dflt : α)
  (hel:∀ (fuel:Nat) (cs:List Value) (x:DataW H × List MemPlace),DataW.trod enc Tryz.prog w 0 spare held fuel T cs=some x->(∀ n∈x.1.weights Tryz.prog T,n<=reachBytes)->∃ (f:Nat->Value) (y : α),cs=(List.range k).map f/\R w w.heap.size f y/\(Rows.uptoBulk x.1<=1048576->S y))
  {fuel:Nat} {cs:List Value} {x:DataW H × List MemPlace} (h:DataW.trod enc Tryz.prog w 0 spare held fuel SL cs=some x) (hw:∀ n∈x.1.weights Tryz.prog SL,n<=reachBytes) :
  ∃ (A:Option Addr) (l c:Nat) (ys:List α),cs=[.slice A l c]/\Sl k bytes R w w.heap.size (.slice A l c) ys/\(Rows.uptoBulk x.1<=1048576->∀ y∈ys,S y):=by
 rcases DataW.trod_slice hu h with ⟨e3,_⟩ | ⟨a,len,cap,elems,rest,m,rfl,e3,rfl,_,hlc,hcm,hle,hat,hsp,hns⟩
 ·exact ⟨_,_,_,[],e3,⟨none,0,rfl,Nat.le_refl _,by simp,fun _ _=>undef,fun h0=>absurd h0 (by simp),fun i y hy=>by simp at hy⟩,fun _ y hy=>by cases hy⟩
 ·have hw3:∀ d∈elems.map (·.1), ∀ q∈d.weights Tryz.prog T,q<=reachBytes:=by
   intro d hd q hq;refine hw q ?_;simp only [DataW.weights,hu,List.mem_append,List.mem_cons]
   exact .inr (.inl (zn0 hd q hq))
  have hb3:len*bytes<=140737488355328-4096:=by
   have:=hw ((elems.length+rest.length)*bytes) (by
    simp only [DataW.weights,hu,List.mem_append,List.mem_cons,hb,List.length_map]
    simp)
   unfold reachBytes at this;rw [hle] at this;have h2:len*bytes<=(len+rest.length)*bytes:=Nat.mul_le_mul_right _ (by omega);omega
  rw [hk] at hat
  have hitem:∀ i,i<len->∃ T2:(Nat->Value) × α,(∀ j,j<k->w.cell? (at_ (a.add (i*k)) j)=some (T2.1 j))/\R w w.heap.size T2.1 T2.2/\(Rows.uptoBulkAll (elems.map (·.1))<=1048576->S T2.2):=by
   intro i hi;have h1:=hat i hi;have hlt:i<elems.length:=by omega
   rw [List.getElem?_eq_getElem hlt,Option.bind_eq_some_iff] at h1;obtain ⟨cs',hc,ht⟩:=h1;have hmem:=List.mem_map_of_mem (f:=fun q:DataW H × List MemPlace=>q.1) (List.getElem_mem hlt);obtain ⟨f,y,rfl,hr,hs⟩:=hel m cs' _ ht (hw3 _ hmem);obtain ⟨_,_,hg⟩:=World.cells?_some hc;refine ⟨⟨f,y⟩,fun j hj=>?_,hr,fun hbk=>hs (Nat.le_trans (zW4 _ _ hmem) hbk)⟩;rw [<- at_add,hg j hj];simp [hj]
  obtain ⟨T2,hT⟩ : ∃ T2:Nat->(Nat->Value) × α, ∀ i,i<len->(∀ j,j<k->w.cell? (at_ (a.add (i*k)) j)=some ((T2 i).1 j))/\R w w.heap.size (T2 i).1 (T2 i).2/\(Rows.uptoBulkAll (elems.map (·.1))<=1048576->S (T2 i).2):=by
   refine ⟨fun i=>if h:i<len then (hitem i h).choose else (fun _=>undef,dflt),fun i h=>?_⟩
   simp only [dif_pos h]
   exact (hitem i h).choose_spec
  refine ⟨some a,len,cap,(List.range len).map fun i=>(T2 i).2,e3,⟨some a,cap,by simp,by simpa using hlc,by simp; unfold big; omega,fun i=>(T2 i).1,fun h0=>⟨a,rfl, ?_,fun i hi j hj=>(hT i (by simpa using hi)).1 j hj⟩,fun i y hi=>?_⟩,fun hbk y hy=>?_⟩
  ·have:=zQ9 ((hT 0 (by simpa using h0)).1 0 hk0)
   rwa [zb5,za1] at this
  ·have hlt:i<len:=by simpa using (List.getElem?_eq_some_iff.1 hi).1
   simp [hlt] at hi
   subst hi;exact (hT i hlt).2.1
  ·obtain ⟨i,hi,rfl⟩:=List.mem_map.1 hy
   refine (hT i (List.mem_range.1 hi)).2.2 ?_
   simp only [Rows.uptoBulk] at hbk
   omega
theorem zI7 : Tryz.prog.cellsOf 83 = 1:=by kernel_rfl
theorem zk5 : Tryz.prog.cellsOf 34 = 1:=by kernel_rfl
theorem zC8 : Tryz.prog.cellsOf 35 = 1:=by kernel_rfl
theorem zq6 : Tryz.prog.cellsOf 37 = 1:=by kernel_rfl
theorem zy6 : Tryz.prog.cellsOf 36 = 1:=by kernel_rfl
theorem zO0 : Tryz.prog.cellsOf 33 = 1:=by kernel_rfl
theorem zy2 : Tryz.prog.cellsOf 88 = 6:=by kernel_rfl
theorem zN9 : Tryz.prog.cellsOf 39 = 7:=by kernel_rfl
theorem zj5 : Tryz.prog.cellsOf 85 = 2:=by kernel_rfl
theorem zs4 : Tryz.prog.cellsOf 46 = 5:=by kernel_rfl
theorem zm5 : Tryz.prog.cellsOf 55 = 10:=by kernel_rfl
theorem zq5 : Tryz.prog.cellsOf 48 = 2:=by kernel_rfl
theorem zq4 : Tryz.prog.cellsOf 44 = 2:=by kernel_rfl
theorem zs3 : Tryz.prog.cellsOf 53 = 5:=by kernel_rfl
theorem yq0 : Tryz.prog.cellsOf 4 = 1:=by kernel_rfl
theorem zW3 : Tryz.prog.cellsOf 3 = 1:=by kernel_rfl
theorem zf2 : Tryz.prog.cellsOf 9 = 1:=by kernel_rfl
theorem yi9 {fuel:Nat} {cs:List Value} {x:DataW H × List MemPlace} (h:DataW.trod enc Tryz.prog w 0 spare held fuel 44 cs=some x) (hw:∀ n∈x.1.weights Tryz.prog 44,n<=reachBytes) :
  ∃ (c0 c1:Value) (n:ByteArray) (xs:List Int),cs=[c0,c1]/\RfR w w.heap.size c0 c1 n xs:=by
 obtain ⟨xs,n,rfl,rfl,hl,hxl,hf⟩:=DataW.trod_struct Tryz.underlying44 h;rw [zq4] at hl
 match cs,hl,xs,hxl with
 | [c0,c1],_,[x0,x1],_ =>
 have f0:DataW.trod enc Tryz.prog w 0 spare held n 9 [c0]=some x0:=by
  have this:DataW.trod enc Tryz.prog w 0 spare held n 9 (([c0,c1].drop 0).take (Tryz.prog.cellsOf 9))=some x0:=hf 0 _ rfl;rw [zf2] at this; exact this
 have f1:DataW.trod enc Tryz.prog w 0 spare held n 42 [c1]=some x1:=by
  have this:DataW.trod enc Tryz.prog w 0 spare held n 42 (([c0,c1].drop 1).take (Tryz.prog.cellsOf 42))=some x1:=hf 1 _ rfl;rw [show Tryz.prog.cellsOf 42 = 1 by kernel_rfl] at this; exact this
 obtain ⟨s,e0,rfl,hs⟩:=DataW.trod_string Tryz.underlying9 f0;have hw':∀ q∈((Lit.string s.data.toList |> (.lit:Lit->DataW H)).weights Tryz.prog 9 ++ (x1.1.weights Tryz.prog 42 ++ [])),q<=reachBytes:=by
  intro q hq;refine hw q ?_;simpa only [DataW.weights,Tryz.underlying44,DataW.weightsEach,List.map_cons,List.map_nil] using hq
 have hss:s.size<=140737488351232:=by
  have:=hw' s.data.toList.length (by simp [DataW.weights]);unfold reachBytes at this;rw [size_eq] at this; exact this
 obtain ⟨A,l,c,ys,e1,hsl,_⟩:=ze6 (enc:=enc) (spare:=spare) (held:=held) 3 42 1 8 IntR (fun _=>True) Tryz.underlying42 zW3 (by decide) (by kernel_rfl) 0
  (fun fuel cs x hx _=>by
    obtain ⟨k0,e,rfl,wf0⟩:=DataW.trod_int Tryz.underlying3 hx;exact ⟨fun _=>.int .i64 k0,k0,e,⟨rfl,zy8 wf0⟩,fun _=>trivial⟩) f1 (fun q hq=>hw' q (by simp [hq]))
 simp only [List.cons.injEq,and_true] at e0 e1
 subst e0 e1;exact ⟨_,_,s,ys,rfl,⟨rfl,hss,hsl⟩⟩
theorem open_Arg (fuel:Nat) (cs:List Value) (x:DataW H × List MemPlace) (h:DataW.trod enc Tryz.prog w 0 spare held fuel 88 cs=some x) (hw:∀ n∈x.1.weights Tryz.prog 88,n<=reachBytes) :
  ∃ (f:Nat->Value) (y:(ByteArray × VT)),cs=(List.range 6).map f/\ArgR w w.heap.size f y/\(Rows.uptoBulk x.1<=1048576->(fun y=>y.2.bw<=1048576) y):=by
 obtain ⟨xs,n,rfl,rfl,hl,hxl,hf⟩:=DataW.trod_struct Tryz.underlying88 h;rw [zy2] at hl
 match cs,hl,xs,hxl with
 | [c0,c1,c2,c3,c4,c5],_,[x0,x1],_ =>
 have f0:DataW.trod enc Tryz.prog w 0 spare held n 9 [c0]=some x0:=by
  have this:DataW.trod enc Tryz.prog w 0 spare held n 9 (([c0,c1,c2,c3,c4,c5].drop 0).take (Tryz.prog.cellsOf 9))=some x0:=hf 0 _ rfl;rw [zf2] at this; exact this
 have f1:DataW.trod enc Tryz.prog w 0 spare held n 53 [c1,c2,c3,c4,c5]=some x1:=by
  have this:DataW.trod enc Tryz.prog w 0 spare held n 53 (([c0,c1,c2,c3,c4,c5].drop 1).take (Tryz.prog.cellsOf 53))=some x1:=hf 1 _ rfl;rw [zs3] at this; exact this
 obtain ⟨s0,e0,rfl,hs0⟩:=DataW.trod_string Tryz.underlying9 f0;have hw':∀ q∈(((Lit.string s0.data.toList |> (.lit:Lit->DataW H)).weights Tryz.prog 9)++((x1.1.weights Tryz.prog 53)++[])),q<=reachBytes:=by
  intro q hq;refine hw q ?_;simpa only [DataW.weights,Tryz.underlying88,DataW.weightsEach,List.map_cons,List.map_nil] using hq
 have hz0:s0.size<=140737488351232:=by
  have:=hw' s0.data.toList.length (by simp [DataW.weights]);unfold reachBytes at this;rw [size_eq] at this; exact this
 obtain ⟨d0,d1,d2,d3,d4,t1,e1,hrd1,hbk1⟩:=zB6 n f1 (fun q hq=>hw' q (by simp [hq]));simp only [List.cons.injEq,and_true] at e0 e1
 subst e0;obtain ⟨rfl,rfl,rfl,rfl,rfl⟩:=e1;refine ⟨fun j=>([Value.string s0,c1,c2,c3,c4,c5]:List Value).getD j undef,(s0,t1),rfl, ?_,fun hB=>?_⟩
 ·exact ⟨rfl,hz0,hrd1⟩
 ·exact by show t1.bw<=_; have:=hbk1; simp only [Rows.uptoBulk,Rows.uptoBulkAll,List.map_cons,List.map_nil] at hB; omega
def ArgT0:(ByteArray × VT):=(⟨#[]⟩,.mk 0 0 ⟨#[]⟩ [] [])
theorem zz1 (fuel:Nat) (cs:List Value) (x:DataW H × List MemPlace) (h:DataW.trod enc Tryz.prog w 0 spare held fuel 85 cs=some x) (hw:∀ n∈x.1.weights Tryz.prog 85,n<=reachBytes) :
  ∃ (f:Nat->Value) (y:DirT),cs=(List.range 2).map f/\DirR w w.heap.size f y/\(Rows.uptoBulk x.1<=1048576->(fun y=>argsQ y.args) y):=by
 obtain ⟨xs,n,rfl,rfl,hl,hxl,hf⟩:=DataW.trod_struct Tryz.underlying85 h;rw [zj5] at hl
 match cs,hl,xs,hxl with
 | [c0,c1],_,[x0,x1],_ =>
 have f0:DataW.trod enc Tryz.prog w 0 spare held n 9 [c0]=some x0:=by
  have this:DataW.trod enc Tryz.prog w 0 spare held n 9 (([c0,c1].drop 0).take (Tryz.prog.cellsOf 9))=some x0:=hf 0 _ rfl;rw [zf2] at this; exact this
 have f1:DataW.trod enc Tryz.prog w 0 spare held n 83 [c1]=some x1:=by
  have this:DataW.trod enc Tryz.prog w 0 spare held n 83 (([c0,c1].drop 1).take (Tryz.prog.cellsOf 83))=some x1:=hf 1 _ rfl;rw [zI7] at this; exact this
 obtain ⟨s0,e0,rfl,hs0⟩:=DataW.trod_string Tryz.underlying9 f0;have hw':∀ q∈(((Lit.string s0.data.toList |> (.lit:Lit->DataW H)).weights Tryz.prog 9)++((x1.1.weights Tryz.prog 83)++[])),q<=reachBytes:=by
  intro q hq;refine hw q ?_;simpa only [DataW.weights,Tryz.underlying85,DataW.weightsEach,List.map_cons,List.map_nil] using hq
 have hz0:s0.size<=140737488351232:=by
  have:=hw' s0.data.toList.length (by simp [DataW.weights]);unfold reachBytes at this;rw [size_eq] at this; exact this
 obtain ⟨A1,l1,cc1,ys1,e1,hsl1,hS1⟩:=ze6 (enc:=enc) (spare:=spare) (held:=held) 88 83 6 96 ArgR (fun y=>y.2.bw<=1048576) Tryz.underlying83 zy2 (by decide) (by kernel_rfl) ArgT0 open_Arg f1 (fun q hq=>hw' q (by simp [hq]));simp only [List.cons.injEq,and_true] at e0 e1
 subst e0;subst e1;refine ⟨fun j=>([Value.string s0,Value.slice A1 l1 cc1]:List Value).getD j undef,⟨s0,ys1⟩,rfl, ?_,fun hB=>?_⟩
 ·exact ⟨rfl,hz0,hsl1⟩
 ·exact hS1 (by simp only [Rows.uptoBulk,Rows.uptoBulkAll,List.map_cons,List.map_nil] at hB; omega)
def DirT0:DirT:=⟨⟨#[]⟩,[]⟩
theorem zU2 (fuel:Nat) (cs:List Value) (x:DataW H × List MemPlace) (h:DataW.trod enc Tryz.prog w 0 spare held fuel 55 cs=some x) (hw:∀ n∈x.1.weights Tryz.prog 55,n<=reachBytes) :
  ∃ (f:Nat->Value) (y:InpT),cs=(List.range 10).map f/\InpR w w.heap.size f y/\(Rows.uptoBulk x.1<=1048576->(fun x=>x.dflt.bw<=1048576/\dirsQ x.dirs/\x.tw.length<=17592186044416) y):=by
 obtain ⟨xs,n,rfl,rfl,hl,hxl,hf⟩:=DataW.trod_struct Tryz.underlying55 h;rw [zm5] at hl
 match cs,hl,xs,hxl with
 | [c0,c1,c2,c3,c4,c5,c6,c7,c8,c9],_,[x0,x1,x2,x3,x4],_ =>
 have f0:DataW.trod enc Tryz.prog w 0 spare held n 9 [c0]=some x0:=by
  have this:DataW.trod enc Tryz.prog w 0 spare held n 9 (([c0,c1,c2,c3,c4,c5,c6,c7,c8,c9].drop 0).take (Tryz.prog.cellsOf 9))=some x0:=hf 0 _ rfl;rw [zf2] at this; exact this
 have f1:DataW.trod enc Tryz.prog w 0 spare held n 44 [c1,c2]=some x1:=by
  have this:DataW.trod enc Tryz.prog w 0 spare held n 44 (([c0,c1,c2,c3,c4,c5,c6,c7,c8,c9].drop 1).take (Tryz.prog.cellsOf 44))=some x1:=hf 1 _ rfl;rw [zq4] at this; exact this
 have f2:DataW.trod enc Tryz.prog w 0 spare held n 4 [c3]=some x2:=by
  have this:DataW.trod enc Tryz.prog w 0 spare held n 4 (([c0,c1,c2,c3,c4,c5,c6,c7,c8,c9].drop 3).take (Tryz.prog.cellsOf 4))=some x2:=hf 2 _ rfl;rw [yq0] at this; exact this
 have f3:DataW.trod enc Tryz.prog w 0 spare held n 53 [c4,c5,c6,c7,c8]=some x3:=by
  have this:DataW.trod enc Tryz.prog w 0 spare held n 53 (([c0,c1,c2,c3,c4,c5,c6,c7,c8,c9].drop 4).take (Tryz.prog.cellsOf 53))=some x3:=hf 3 _ rfl;rw [zs3] at this; exact this
 have f4:DataW.trod enc Tryz.prog w 0 spare held n 34 [c9]=some x4:=by
  have this:DataW.trod enc Tryz.prog w 0 spare held n 34 (([c0,c1,c2,c3,c4,c5,c6,c7,c8,c9].drop 9).take (Tryz.prog.cellsOf 34))=some x4:=hf 4 _ rfl;rw [zk5] at this; exact this
 obtain ⟨s0,e0,rfl,hs0⟩:=DataW.trod_string Tryz.underlying9 f0;obtain ⟨b2,e2,rfl⟩:=DataW.trod_bool Tryz.underlying4 f2;have hw':∀ q∈(((Lit.string s0.data.toList |> (.lit:Lit->DataW H)).weights Tryz.prog 9)++((x1.1.weights Tryz.prog 44)++(((Lit.bool b2 |> (.lit:Lit->DataW H)).weights Tryz.prog 4)++((x3.1.weights Tryz.prog 53)++((x4.1.weights Tryz.prog 34)++[]))))),q<=reachBytes:=by
  intro q hq;refine hw q ?_;simpa only [DataW.weights,Tryz.underlying55,DataW.weightsEach,List.map_cons,List.map_nil] using hq
 have hz0:s0.size<=140737488351232:=by
  have:=hw' s0.data.toList.length (by simp [DataW.weights]);unfold reachBytes at this;rw [size_eq] at this; exact this
 obtain ⟨r0,r1,n1,ws1,e1,hrf1⟩:=yi9 f1 (fun q hq=>hw' q (by simp [hq]));obtain ⟨d0,d1,d2,d3,d4,t3,e3,hrd3,hbk3⟩:=zB6 n f3 (fun q hq=>hw' q (by simp [hq]));obtain ⟨A4,l4,cc4,ys4,e4,hsl4,hS4⟩:=ze6 (enc:=enc) (spare:=spare) (held:=held) 85 34 2 40 DirR (fun y=>argsQ y.args) Tryz.underlying34 zj5 (by decide) (by kernel_rfl) DirT0 zz1 f4 (fun q hq=>hw' q (by simp [hq]));simp only [List.cons.injEq,and_true] at e0 e1 e2 e3 e4
 subst e0;obtain ⟨rfl,rfl⟩:=e1;subst e2;obtain ⟨rfl,rfl,rfl,rfl,rfl⟩:=e3;subst e4;refine ⟨fun j=>([Value.string s0,c1,c2,Value.bool b2,c4,c5,c6,c7,c8,Value.slice A4 l4 cc4]:List Value).getD j undef,⟨s0,n1,ws1,b2,t3,ys4⟩,rfl, ?_,fun hB=>?_⟩
 ·exact ⟨rfl,hz0,hrf1,rfl,hrd3,hsl4⟩
 ·exact ⟨by show t3.bw<=_; have:=hbk3; simp only [Rows.uptoBulk,Rows.uptoBulkAll,List.map_cons,List.map_nil] at hB; omega,hS4 (by simp only [Rows.uptoBulk,Rows.uptoBulkAll,List.map_cons,List.map_nil] at hB; omega),by obtain ⟨_,_,_,_,h8⟩:=hrf1.wraps.form; show ws1.length<=_; unfold big at h8; omega⟩
def InpT0:InpT:=⟨⟨#[]⟩,⟨#[]⟩,[],false,.mk 0 0 ⟨#[]⟩ [] [],[]⟩
theorem open_Fld (fuel:Nat) (cs:List Value) (x:DataW H × List MemPlace) (h:DataW.trod enc Tryz.prog w 0 spare held fuel 46 cs=some x) (hw:∀ n∈x.1.weights Tryz.prog 46,n<=reachBytes) :
  ∃ (f:Nat->Value) (y:FldT),cs=(List.range 5).map f/\FldR w w.heap.size f y/\(Rows.uptoBulk x.1<=1048576->(fun x=>inpsQ x.args/\dirsQ x.dirs/\x.tw.length<=17592186044416) y):=by
 obtain ⟨xs,n,rfl,rfl,hl,hxl,hf⟩:=DataW.trod_struct Tryz.underlying46 h;rw [zs4] at hl
 match cs,hl,xs,hxl with
 | [c0,c1,c2,c3,c4],_,[x0,x1,x2,x3],_ =>
 have f0:DataW.trod enc Tryz.prog w 0 spare held n 9 [c0]=some x0:=by
  have this:DataW.trod enc Tryz.prog w 0 spare held n 9 (([c0,c1,c2,c3,c4].drop 0).take (Tryz.prog.cellsOf 9))=some x0:=hf 0 _ rfl;rw [zf2] at this; exact this
 have f1:DataW.trod enc Tryz.prog w 0 spare held n 37 [c1]=some x1:=by
  have this:DataW.trod enc Tryz.prog w 0 spare held n 37 (([c0,c1,c2,c3,c4].drop 1).take (Tryz.prog.cellsOf 37))=some x1:=hf 1 _ rfl;rw [zq6] at this; exact this
 have f2:DataW.trod enc Tryz.prog w 0 spare held n 44 [c2,c3]=some x2:=by
  have this:DataW.trod enc Tryz.prog w 0 spare held n 44 (([c0,c1,c2,c3,c4].drop 2).take (Tryz.prog.cellsOf 44))=some x2:=hf 2 _ rfl;rw [zq4] at this; exact this
 have f3:DataW.trod enc Tryz.prog w 0 spare held n 34 [c4]=some x3:=by
  have this:DataW.trod enc Tryz.prog w 0 spare held n 34 (([c0,c1,c2,c3,c4].drop 4).take (Tryz.prog.cellsOf 34))=some x3:=hf 3 _ rfl;rw [zk5] at this; exact this
 obtain ⟨s0,e0,rfl,hs0⟩:=DataW.trod_string Tryz.underlying9 f0;have hw':∀ q∈(((Lit.string s0.data.toList |> (.lit:Lit->DataW H)).weights Tryz.prog 9)++((x1.1.weights Tryz.prog 37)++((x2.1.weights Tryz.prog 44)++((x3.1.weights Tryz.prog 34)++[])))),q<=reachBytes:=by
  intro q hq;refine hw q ?_;simpa only [DataW.weights,Tryz.underlying46,DataW.weightsEach,List.map_cons,List.map_nil] using hq
 have hz0:s0.size<=140737488351232:=by
  have:=hw' s0.data.toList.length (by simp [DataW.weights]);unfold reachBytes at this;rw [size_eq] at this; exact this
 obtain ⟨A1,l1,cc1,ys1,e1,hsl1,hS1⟩:=ze6 (enc:=enc) (spare:=spare) (held:=held) 55 37 10 168 InpR (fun x=>x.dflt.bw<=1048576/\dirsQ x.dirs/\x.tw.length<=17592186044416) Tryz.underlying37 zm5 (by decide) (by kernel_rfl) InpT0 zU2 f1 (fun q hq=>hw' q (by simp [hq]));obtain ⟨r0,r1,n2,ws2,e2,hrf2⟩:=yi9 f2 (fun q hq=>hw' q (by simp [hq]));obtain ⟨A3,l3,cc3,ys3,e3,hsl3,hS3⟩:=ze6 (enc:=enc) (spare:=spare) (held:=held) 85 34 2 40 DirR (fun y=>argsQ y.args) Tryz.underlying34 zj5 (by decide) (by kernel_rfl) DirT0 zz1 f3 (fun q hq=>hw' q (by simp [hq]));simp only [List.cons.injEq,and_true] at e0 e1 e2 e3
 subst e0;subst e1;obtain ⟨rfl,rfl⟩:=e2;subst e3;refine ⟨fun j=>([Value.string s0,Value.slice A1 l1 cc1,c2,c3,Value.slice A3 l3 cc3]:List Value).getD j undef,⟨s0,ys1,n2,ws2,ys3⟩,rfl, ?_,fun hB=>?_⟩
 ·exact ⟨rfl,hz0,hsl1,hrf2,hsl3⟩
 ·exact ⟨hS1 (by simp only [Rows.uptoBulk,Rows.uptoBulkAll,List.map_cons,List.map_nil] at hB; omega),hS3 (by simp only [Rows.uptoBulk,Rows.uptoBulkAll,List.map_cons,List.map_nil] at hB; omega),by obtain ⟨_,_,_,_,h8⟩:=hrf2.wraps.form; show ws2.length<=_; unfold big at h8; omega⟩
def FldT0:FldT:=⟨⟨#[]⟩,[],⟨#[]⟩,[],[]⟩
theorem open_Mem (fuel:Nat) (cs:List Value) (x:DataW H × List MemPlace) (h:DataW.trod enc Tryz.prog w 0 spare held fuel 48 cs=some x) (hw:∀ n∈x.1.weights Tryz.prog 48,n<=reachBytes) :
  ∃ (f:Nat->Value) (y:MemT),cs=(List.range 2).map f/\MemR w w.heap.size f y/\(Rows.uptoBulk x.1<=1048576->(fun x=>dirsQ x.dirs) y):=by
 obtain ⟨xs,n,rfl,rfl,hl,hxl,hf⟩:=DataW.trod_struct Tryz.underlying48 h;rw [zq5] at hl
 match cs,hl,xs,hxl with
 | [c0,c1],_,[x0,x1],_ =>
 have f0:DataW.trod enc Tryz.prog w 0 spare held n 9 [c0]=some x0:=by
  have this:DataW.trod enc Tryz.prog w 0 spare held n 9 (([c0,c1].drop 0).take (Tryz.prog.cellsOf 9))=some x0:=hf 0 _ rfl;rw [zf2] at this; exact this
 have f1:DataW.trod enc Tryz.prog w 0 spare held n 34 [c1]=some x1:=by
  have this:DataW.trod enc Tryz.prog w 0 spare held n 34 (([c0,c1].drop 1).take (Tryz.prog.cellsOf 34))=some x1:=hf 1 _ rfl;rw [zk5] at this; exact this
 obtain ⟨s0,e0,rfl,hs0⟩:=DataW.trod_string Tryz.underlying9 f0;have hw':∀ q∈(((Lit.string s0.data.toList |> (.lit:Lit->DataW H)).weights Tryz.prog 9)++((x1.1.weights Tryz.prog 34)++[])),q<=reachBytes:=by
  intro q hq;refine hw q ?_;simpa only [DataW.weights,Tryz.underlying48,DataW.weightsEach,List.map_cons,List.map_nil] using hq
 have hz0:s0.size<=140737488351232:=by
  have:=hw' s0.data.toList.length (by simp [DataW.weights]);unfold reachBytes at this;rw [size_eq] at this; exact this
 obtain ⟨A1,l1,cc1,ys1,e1,hsl1,hS1⟩:=ze6 (enc:=enc) (spare:=spare) (held:=held) 85 34 2 40 DirR (fun y=>argsQ y.args) Tryz.underlying34 zj5 (by decide) (by kernel_rfl) DirT0 zz1 f1 (fun q hq=>hw' q (by simp [hq]));simp only [List.cons.injEq,and_true] at e0 e1
 subst e0;subst e1;refine ⟨fun j=>([Value.string s0,Value.slice A1 l1 cc1]:List Value).getD j undef,⟨s0,ys1⟩,rfl, ?_,fun hB=>?_⟩
 ·exact ⟨rfl,hz0,hsl1⟩
 ·exact hS1 (by simp only [Rows.uptoBulk,Rows.uptoBulkAll,List.map_cons,List.map_nil] at hB; omega)
def MemT0:MemT:=⟨⟨#[]⟩,[]⟩
theorem open_Def (fuel:Nat) (cs:List Value) (x:DataW H × List MemPlace) (h:DataW.trod enc Tryz.prog w 0 spare held fuel 39 cs=some x) (hw:∀ n∈x.1.weights Tryz.prog 39,n<=reachBytes) :
  ∃ (f:Nat->Value) (y:DefT),cs=(List.range 7).map f/\DefR w w.heap.size f y/\(Rows.uptoBulk x.1<=1048576->(fun x=>dirsQ x.dirs/\inpsQ x.inputs/\fldsQ x.fields/\memsQ x.members/\x.impl.length<=17592186044416) y):=by
 obtain ⟨xs,n,rfl,rfl,hl,hxl,hf⟩:=DataW.trod_struct Tryz.underlying39 h;rw [zN9] at hl
 match cs,hl,xs,hxl with
 | [c0,c1,c2,c3,c4,c5,c6],_,[x0,x1,x2,x3,x4,x5,x6],_ =>
 have f0:DataW.trod enc Tryz.prog w 0 spare held n 3 [c0]=some x0:=by
  have this:DataW.trod enc Tryz.prog w 0 spare held n 3 (([c0,c1,c2,c3,c4,c5,c6].drop 0).take (Tryz.prog.cellsOf 3))=some x0:=hf 0 _ rfl;rw [zW3] at this; exact this
 have f1:DataW.trod enc Tryz.prog w 0 spare held n 9 [c1]=some x1:=by
  have this:DataW.trod enc Tryz.prog w 0 spare held n 9 (([c0,c1,c2,c3,c4,c5,c6].drop 1).take (Tryz.prog.cellsOf 9))=some x1:=hf 1 _ rfl;rw [zf2] at this; exact this
 have f2:DataW.trod enc Tryz.prog w 0 spare held n 33 [c2]=some x2:=by
  have this:DataW.trod enc Tryz.prog w 0 spare held n 33 (([c0,c1,c2,c3,c4,c5,c6].drop 2).take (Tryz.prog.cellsOf 33))=some x2:=hf 2 _ rfl;rw [zO0] at this; exact this
 have f3:DataW.trod enc Tryz.prog w 0 spare held n 34 [c3]=some x3:=by
  have this:DataW.trod enc Tryz.prog w 0 spare held n 34 (([c0,c1,c2,c3,c4,c5,c6].drop 3).take (Tryz.prog.cellsOf 34))=some x3:=hf 3 _ rfl;rw [zk5] at this; exact this
 have f4:DataW.trod enc Tryz.prog w 0 spare held n 35 [c4]=some x4:=by
  have this:DataW.trod enc Tryz.prog w 0 spare held n 35 (([c0,c1,c2,c3,c4,c5,c6].drop 4).take (Tryz.prog.cellsOf 35))=some x4:=hf 4 _ rfl;rw [zC8] at this; exact this
 have f5:DataW.trod enc Tryz.prog w 0 spare held n 36 [c5]=some x5:=by
  have this:DataW.trod enc Tryz.prog w 0 spare held n 36 (([c0,c1,c2,c3,c4,c5,c6].drop 5).take (Tryz.prog.cellsOf 36))=some x5:=hf 5 _ rfl;rw [zy6] at this; exact this
 have f6:DataW.trod enc Tryz.prog w 0 spare held n 37 [c6]=some x6:=by
  have this:DataW.trod enc Tryz.prog w 0 spare held n 37 (([c0,c1,c2,c3,c4,c5,c6].drop 6).take (Tryz.prog.cellsOf 37))=some x6:=hf 6 _ rfl;rw [zq6] at this; exact this
 obtain ⟨k0,e0,rfl,wf0⟩:=DataW.trod_int Tryz.underlying3 f0;obtain ⟨s1,e1,rfl,hs1⟩:=DataW.trod_string Tryz.underlying9 f1;have hw':∀ q∈(((Lit.int .i64 k0 |> (.lit:Lit->DataW H)).weights Tryz.prog 3)++(((Lit.string s1.data.toList |> (.lit:Lit->DataW H)).weights Tryz.prog 9)++((x2.1.weights Tryz.prog 33)++((x3.1.weights Tryz.prog 34)++((x4.1.weights Tryz.prog 35)++((x5.1.weights Tryz.prog 36)++((x6.1.weights Tryz.prog 37)++[]))))))),q<=reachBytes:=by
  intro q hq;refine hw q ?_;simpa only [DataW.weights,Tryz.underlying39,DataW.weightsEach,List.map_cons,List.map_nil] using hq
 have hz1:s1.size<=140737488351232:=by
  have:=hw' s1.data.toList.length (by simp [DataW.weights]);unfold reachBytes at this;rw [size_eq] at this; exact this
 obtain ⟨A2,l2,cc2,ys2,e2,hsl2,_⟩:=ze6 (enc:=enc) (spare:=spare) (held:=held) 9 33 1 16 StrR (fun _=>True) Tryz.underlying33 zf2 (by decide) (by kernel_rfl) ⟨#[]⟩
  (fun fuel cs x hx hwx=>by
    obtain ⟨s,e,rfl,hs⟩:=DataW.trod_string Tryz.underlying9 hx;refine ⟨fun _=>.string s,s,e,⟨rfl, ?_⟩,fun _=>trivial⟩;have:=hwx s.data.toList.length (by simp [DataW.weights]);unfold reachBytes at this;rw [size_eq] at this; exact this) f2 (fun q hq=>hw' q (by simp [hq]))
 obtain ⟨A3,l3,cc3,ys3,e3,hsl3,hS3⟩:=ze6 (enc:=enc) (spare:=spare) (held:=held) 85 34 2 40 DirR (fun y=>argsQ y.args) Tryz.underlying34 zj5 (by decide) (by kernel_rfl) DirT0 zz1 f3 (fun q hq=>hw' q (by simp [hq]));obtain ⟨A4,l4,cc4,ys4,e4,hsl4,hS4⟩:=ze6 (enc:=enc) (spare:=spare) (held:=held) 46 35 5 104 FldR (fun x=>inpsQ x.args/\dirsQ x.dirs/\x.tw.length<=17592186044416) Tryz.underlying35 zs4 (by decide) (by kernel_rfl) FldT0 open_Fld f4 (fun q hq=>hw' q (by simp [hq]));obtain ⟨A5,l5,cc5,ys5,e5,hsl5,hS5⟩:=ze6 (enc:=enc) (spare:=spare) (held:=held) 48 36 2 40 MemR (fun x=>dirsQ x.dirs) Tryz.underlying36 zq5 (by decide) (by kernel_rfl) MemT0 open_Mem f5 (fun q hq=>hw' q (by simp [hq]));obtain ⟨A6,l6,cc6,ys6,e6,hsl6,hS6⟩:=ze6 (enc:=enc) (spare:=spare) (held:=held) 55 37 10 168 InpR (fun x=>x.dflt.bw<=1048576/\dirsQ x.dirs/\x.tw.length<=17592186044416) Tryz.underlying37 zm5 (by decide) (by kernel_rfl) InpT0 zU2 f6 (fun q hq=>hw' q (by simp [hq]));simp only [List.cons.injEq,and_true] at e0 e1 e2 e3 e4 e5 e6
 subst e0;subst e1;subst e2;subst e3;subst e4;subst e5;subst e6;refine ⟨fun j=>([Value.int .i64 k0,Value.string s1,Value.slice A2 l2 cc2,Value.slice A3 l3 cc3,Value.slice A4 l4 cc4,Value.slice A5 l5 cc5,Value.slice A6 l6 cc6]:List Value).getD j undef,⟨k0,s1,ys2,ys3,ys4,ys5,ys6⟩,rfl, ?_,fun hB=>?_⟩
 ·exact ⟨rfl,zy8 wf0,rfl,hz1,hsl2,hsl3,hsl4,hsl5,hsl6⟩
 ·exact ⟨hS3 (by simp only [Rows.uptoBulk,Rows.uptoBulkAll,List.map_cons,List.map_nil] at hB; omega),hS6 (by simp only [Rows.uptoBulk,Rows.uptoBulkAll,List.map_cons,List.map_nil] at hB; omega),hS4 (by simp only [Rows.uptoBulk,Rows.uptoBulkAll,List.map_cons,List.map_nil] at hB; omega),hS5 (by simp only [Rows.uptoBulk,Rows.uptoBulkAll,List.map_cons,List.map_nil] at hB; omega),by obtain ⟨_,_,_,_,h8⟩:=hsl2.form; show ys2.length<=_; unfold big at h8; omega⟩
def DefT0:DefT:=⟨0,⟨#[]⟩,[],[],[],[],[]⟩
end
end Go.Proofs.YtfgelheiknmjgaaGreatDoor
namespace Go.Proofs.YtfgelheiknmjgaaGreatDoor
open Go.RowKit
def allS {α:Type} (f : α->α->Bool):List α->List α->Bool
 | [],[]=>true
 | a::r,b::s=>f a b&&allS f r s
 | [],_::_=>false
 | _::_,[]=>false
theorem zm4 {α:Type} {f : α->α->Bool}:∀ {l m:List α},l.length≠m.length->allS f l m=false
 | [],[],h=>absurd rfl h
 | _::_,[],_=>rfl
 | [],_::_,_=>rfl
 | a::r,b::s,h=>by
   have:=zm4 (f:=f) (l:=r) (m:=s) (fun e=>h (by simp [e]));rw [allS,this,Bool.and_false]
theorem zt3 {α:Type} {f : α->α->Bool} {l m:List α} {j:Nat} {x y : α} (hx:l[j]?=some x) (hy:m[j]?=some y):allS f (l.drop j) (m.drop j)=(f x y&&allS f (l.drop (j+1)) (m.drop (j+1))):=by
 obtain ⟨h1,e1⟩:=List.getElem?_eq_some_iff.1 hx;obtain ⟨h2,e2⟩:=List.getElem?_eq_some_iff.1 hy;rw [List.drop_eq_getElem_cons h1,List.drop_eq_getElem_cons h2,e1,e2,allS]
theorem zn9 {α:Type} {f : α->α->Bool} {l m:List α} {j:Nat} (hx:l.length<=j) (hy:m.length<=j):allS f (l.drop j) (m.drop j)=true:=by
 rw [List.drop_eq_nil_iff.2 hx,List.drop_eq_nil_iff.2 hy,allS]
theorem zf3 {α:Type} {f : α->α->Bool}:∀ {l:List α},(∀ x∈l,f x x=true)->allS f l l=true
 | [],_=>rfl
 | a::r,h=>by rw [allS,h a List.mem_cons_self,zf3 fun x hx=>h x (List.mem_cons_of_mem _ hx)]; rfl
def sArg (a b:ByteArray × VT):Bool:=decide (a.1=b.1)&&decide (a.2.cmp b.2=0)
def sDir (a b:DirT):Bool:=decide (a.name=b.name)&&allS sArg a.args b.args
def sInp (a b:InpT):Bool:=decide (a.name=b.name)&&(decide (a.tn=b.tn/\a.tw=b.tw)&&(decide (a.has=b.has)&&(decide (a.dflt.cmp b.dflt=0)&&allS sDir a.dirs b.dirs)))
def sMem (a b:MemT):Bool:=decide (a.name=b.name)&&allS sDir a.dirs b.dirs
def sFld (a b:FldT):Bool:=decide (a.name=b.name)&&(decide (a.tn=b.tn/\a.tw=b.tw)&&(allS sInp a.args b.args&&allS sDir a.dirs b.dirs))
def sDef (a b:DefT):Bool:=decide (a.kind=b.kind)&&(decide (a.name=b.name)&&(decide (a.impl=b.impl)&&(allS sDir a.dirs b.dirs&&(allS sFld a.fields b.fields&&(allS sMem a.members b.members&&allS sInp a.inputs b.inputs)))))
theorem yf7 (a:ByteArray × VT):sArg a a=true:=by unfold sArg; simp [VT.cmp_self]
theorem zt8 (a:DirT):sDir a a=true:=by unfold sDir; simp [zf3 fun x _=>yf7 x]
theorem zK4 (a:InpT):sInp a a=true:=by unfold sInp; simp [VT.cmp_self,zf3 fun x _=>zt8 x]
theorem yf4 (a:MemT):sMem a a=true:=by unfold sMem; simp [zf3 fun x _=>zt8 x]
theorem yf5 (a:FldT):sFld a a=true:=by unfold sFld; simp [zf3 fun x _=>zt8 x,zf3 fun x _=>zK4 x]
theorem yf6 (a:DefT):sDef a a=true:=by unfold sDef; simp [zf3 fun x _=>zt8 x,zf3 fun x _=>zK4 x,zf3 fun x _=>yf5 x,zf3 fun x _=>yf4 x]
end Go.Proofs.YtfgelheiknmjgaaGreatDoor

