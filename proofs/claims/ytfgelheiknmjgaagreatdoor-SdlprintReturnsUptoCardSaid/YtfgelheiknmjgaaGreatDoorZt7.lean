
/-
 Texts joined: Compare Make Right Node Chk W1 Open Open2 Bulk.
-/
import Derived.Test.YtfgelheiknmjgaaGreatDoorZt6
import Derived.Deep.RegionHeld3
import Derived.ChangeArms
import Derived.Deep.Strs
import Derived.ChangeMaps
import Derived.WideShapes
import Derived.Test.YtfgelheiknmjgaaGreatDoorRows
set_option maxRecDepth 1000000
set_option maxHeartbeats 8000000
namespace Go.Proofs.YtfgelheiknmjgaaGreatDoor
open Go.RowKit
theorem zU7:∀ a b:List UInt8,Op.bytesLess a b=decide (Lib.compareBytes a b=-1)
 | [],[]=>by simp [Op.bytesLess,Lib.compareBytes]
 | _::_,[]=>by simp [Op.bytesLess,Lib.compareBytes]
 | [],_::_=>by simp [Op.bytesLess,Lib.compareBytes]
 | a::xs,b::ys=>by
   have ih:=zU7 xs ys;unfold Op.bytesLess Lib.compareBytes;simp only [UInt8.lt_iff_toNat_lt];by_cases h1:a.toNat<b.toNat
   ·simp [h1]
   ·by_cases h2:b.toNat<a.toNat
    ·simp [h1,h2]; intro e; rw [e] at h2; omega
    ·have e:a=b:=UInt8.toNat_inj.1 (by omega)
     subst e;simp [ih]
theorem zC7:∀ a b:List UInt8,Lib.compareBytes a b=0 ↔ a=b
 | [],[]=>by simp [Lib.compareBytes]
 | _::_,[]=>by simp [Lib.compareBytes]
 | [],_::_=>by simp [Lib.compareBytes]
 | a::xs,b::ys=>by
   have ih:=zC7 xs ys;unfold Lib.compareBytes;simp only [UInt8.lt_iff_toNat_lt];by_cases h1:a.toNat<b.toNat
   ·simp [h1]; intro e; rw [e] at h1; omega
   ·by_cases h2:b.toNat<a.toNat
    ·simp [h1,h2]; intro e; rw [e] at h2; omega
    ·have e:a=b:=UInt8.toNat_inj.1 (by omega)
     subst e;simp [ih]
theorem zh8 (a b:Int) (w:World):Calls Tryz.prog 215 #[.int .i64 a,.int .i64 b] w fun e w'=>e=.returned (.int .i64 (Lib.compareInt a b))/\w=w':=by
 by_cases h1:a<b
 ·go_enter Tryz.func215, Tryz.ntmps215
  go_wp2_with fail
  go_ret
  exact ⟨by simp [Lib.compareInt,h1],rfl⟩
 ·by_cases h2:b<a
  ·go_enter Tryz.func215, Tryz.ntmps215
   go_wp2_with fail
   go_ret
   exact ⟨by simp [Lib.compareInt]; omega,rfl⟩
  ·go_enter Tryz.func215, Tryz.ntmps215
   go_wp2_with fail
   go_ret
   exact ⟨by simp [Lib.compareInt]; omega,rfl⟩
theorem zn1 (a b:ByteArray) (w:World):Calls Tryz.prog 216 #[.string a,.string b] w fun e w'=>e=.returned (.int .i64 (cmpB a b))/\w=w':=by
 have e1:Op.bytesLess a.toList b.toList=decide (cmpB a b=-1):=by rw [zU7,Lib.toList_data,Lib.toList_data]; rfl
 have e2:(a.toList==b.toList)=decide (cmpB a b=0):=by
  rw [Lib.toList_data,Lib.toList_data];unfold cmpB;by_cases h:a.data.toList=b.data.toList
  ·rw [h]; simp [(zC7 _ _).2 rfl]
  ·have:=mt (zC7 _ _).1 h
   rw [beq_eq_false_iff_ne.2 h]; simp [this]
 have hr:cmpB a b=-1∨cmpB a b=0∨cmpB a b=1:=zF1 _ _;rcases hr with h | h | h
 ·rw [h] at e1 e2 ⊢
  have e1':Op.bytesLess a.toList b.toList=true:=by rw [e1]; rfl
  clear e1 e2 h
  go_enter Tryz.func216, Tryz.ntmps216
  go_wp2_with fail
  go_ret
  exact ⟨rfl,rfl⟩
 ·rw [h] at e1 e2 ⊢
  have e1':Op.bytesLess a.toList b.toList=false:=by rw [e1]; rfl
  have e2':(a.toList==b.toList)=true:=by rw [e2]; rfl
  clear e1 e2 h
  go_enter Tryz.func216, Tryz.ntmps216
  go_wp2_with fail
  go_ret
  exact ⟨rfl,rfl⟩
 ·rw [h] at e1 e2 ⊢
  have e1':Op.bytesLess a.toList b.toList=false:=by rw [e1]; rfl
  have e2':(a.toList==b.toList)=false:=by rw [e2]; rfl
  clear e1 e2 h
  go_enter Tryz.func216, Tryz.ntmps216
  go_wp2_with fail
  go_ret
  exact ⟨rfl,rfl⟩
def VT.keys:VT->List ByteArray | .mk _ _ _ _ ks=>ks
def VT.items:VT->List VT | .mk _ _ _ is _=>is
theorem zq9 (t:VT) (i:Nat) (w:World) (B:Nat) (v:Value) (h:Rd w B v t) (hB:B<=w.heap.size) (hi:i<=140737488351232) :
  Calls Tryz.prog 217 #[v,.int .i64 i] w fun e w'=>e=.returned (.string (keyI t.keys i))/\Below w.heap.size w w':=by
 cases h with
 | @mk k n s A li ci K lk ck items keys V hk hn hs hks hli hlk hbi hbk hA hr hK =>
 have HB:Hid (Below w.heap.size w (w.alloc (.cells #[.int .i64 k,.int .i64 n,.string s,.slice A li ci,.slice K lk ck] 53 (0,0)))):=Lh ((Below.refl _ _).alloc (Nat.le_refl _) _);by_cases hlt:i<lk
 ·obtain ⟨a,rfl,hab,hc⟩:=hK (by omega)
  have e:keys[i]?=some (keyI keys i):=by unfold keyI; rw [List.getElem?_eq_getElem (by omega)]; rfl
  have hc1:=hc i _ e;have hc2:(w.alloc (.cells #[.int .i64 k,.int .i64 n,.string s,.slice A li ci,.slice (some a) lk ck] 53 (0,0))).cell? (a.add i)=some (.string (keyI keys i)):=((Below.refl _ _).alloc (Nat.le_refl _) _:Below w.heap.size w _).cell (by rw [za1]; omega) |>.trans hc1;show Calls _ _ _ _ fun e w'=>e=.returned (.string (keyI keys i))/\_
  generalize keyI keys i=y at *;clear hA hr hK hks hk hn hs hli hlk e hc hc1
  go_enter Tryz.func217, Tryz.ntmps217
  go_wp2_with fail
  go_ret
  exact ⟨rfl,HB.out⟩
 ·have e:keyI keys i=⟨#[]⟩:=by unfold keyI; rw [List.getElem?_eq_none (by omega)]; rfl
  show Calls _ _ _ _ fun e w'=>e=.returned (.string (keyI keys i))/\_
  rw [e];clear hA hr hK hks hk hn hs hli hlk e
  go_enter Tryz.func217, Tryz.ntmps217
  go_wp2_with fail
  go_ret
  exact ⟨rfl,HB.out⟩
theorem Rd.shape {w:World} {B:Nat} {v:Value} {t:VT} (h:Rd w B v t):∃ (k n:Int) (s:ByteArray) (A:Option Addr) (li ci:Nat) (K:Option Addr) (lk ck:Nat),v=.agg #[.int .i64 k,.int .i64 n,.string s,.slice A li ci,.slice K lk ck]:=by
 cases h with
 | mk V hk hn hs hks hli hlk hbi hbk hA hr hK=>exact ⟨_,_,_,_,_,_,_,_,_,rfl⟩
def CmpAt (f:FuncId) (t:VT):Prop:=∀ (t':VT) (w:World) (B:Nat) (v v':Value),Rd w B v t->Rd w B v' t'->B<=w.heap.size ->
  Calls Tryz.prog f #[v,v'] w fun e w'=>e=.returned (.int .i64 (t.cmp t'))/\Below w.heap.size w w'
def leafV (k n:Int) (s:ByteArray):Value:=.agg #[.int .i64 k,.int .i64 n,.string s,.slice none 0 0,.slice none 0 0]
def leafT (k n:Int) (s:ByteArray):VT:=.mk k n s [] []
theorem Rd.leaf {w:World} {B:Nat} {k n:Int} {s:ByteArray} (hk:small k) (hn:small n) (hs:s.size<=140737488351232):Rd w B (leafV k n s) (leafT k n s) :=
 .mk (fun _=>undef) hk hn hs (by simp) rfl rfl (by decide) (by decide) (fun h=>by omega) (fun i t hi=>by simp at hi) (fun h=>by simp at h)
theorem int_any (n:Int) (w:World):Calls Tryz.prog 258 #[.int .i64 n] w fun e w'=>e=.returned (.agg #[.int .i64 2,.int .i64 n,.string ⟨#[]⟩,.slice none 0 0,.slice none 0 0])/\Below w.heap.size w w':=by
 go_enter Tryz.func258, Tryz.ntmps258
 go_wp2_with fail
 exact bodyPost_ret (v:=.agg #[.int .i64 2,.int .i64 n,.string ⟨#[]⟩,.slice none 0 0,.slice none 0 0]) (by simp [results,Tryz.results258,go_sem]) rfl ⟨rfl,(Below.refl _ _).alloc (Nat.le_refl _) _⟩
theorem text_any (s:ByteArray) (w:World):Calls Tryz.prog 259 #[.string s] w fun e w'=>e=.returned (.agg #[.int .i64 3,.int .i64 0,.string s,.slice none 0 0,.slice none 0 0])/\Below w.heap.size w w':=by
 go_enter Tryz.func259, Tryz.ntmps259
 go_wp2_with fail
 exact bodyPost_ret (v:=.agg #[.int .i64 3,.int .i64 0,.string s,.slice none 0 0,.slice none 0 0]) (by simp [results,Tryz.results259,go_sem]) rfl ⟨rfl,(Below.refl _ _).alloc (Nat.le_refl _) _⟩
theorem yf8 (s:ByteArray) (w:World):Calls Tryz.prog 31 #[.string s] w fun e w'=>e=.returned (.agg #[.int .i64 3,.int .i64 0,.string s,.slice none 0 0,.slice none 0 0])/\Below w.heap.size w w':=by
 go_enter Tryz.func31, Tryz.ntmps31
 go_wp2_with fail
 exact bodyPost_ret (v:=.agg #[.int .i64 3,.int .i64 0,.string s,.slice none 0 0,.slice none 0 0]) (by simp [results,Tryz.results31,go_sem]) rfl ⟨rfl,(Below.refl _ _).alloc (Nat.le_refl _) _⟩
theorem enum_any (s:ByteArray) (w:World):Calls Tryz.prog 273 #[.string s] w fun e w'=>e=.returned (.agg #[.int .i64 4,.int .i64 0,.string s,.slice none 0 0,.slice none 0 0])/\Below w.heap.size w w':=by
 go_enter Tryz.func273, Tryz.ntmps273
 go_wp2_with fail
 exact bodyPost_ret (v:=.agg #[.int .i64 4,.int .i64 0,.string s,.slice none 0 0,.slice none 0 0]) (by simp [results,Tryz.results273,go_sem]) rfl ⟨rfl,(Below.refl _ _).alloc (Nat.le_refl _) _⟩
def yesI (y:Bool):Int:=if y then 1 else 0
theorem zW5 (y:Bool) (w:World):Calls Tryz.prog 272 #[.bool y] w fun e w'=>e=.returned (.agg #[.int .i64 1,.int .i64 (yesI y),.string ⟨#[]⟩,.slice none 0 0,.slice none 0 0])/\Below w.heap.size w w':=by
 cases y
 ·go_enter Tryz.func272, Tryz.ntmps272
  go_wp2_with fail
  exact bodyPost_ret (v:=.agg #[.int .i64 1,.int .i64 0,.string ⟨#[]⟩,.slice none 0 0,.slice none 0 0]) (by simp [results,Tryz.results272,go_sem]) rfl ⟨rfl,(Below.refl _ _).alloc (Nat.le_refl _) _⟩
 ·go_enter Tryz.func272, Tryz.ntmps272
  go_wp2_with fail
  exact bodyPost_ret (v:=.agg #[.int .i64 1,.int .i64 1,.string ⟨#[]⟩,.slice none 0 0,.slice none 0 0]) (by simp [results,Tryz.results272,go_sem]) rfl ⟨rfl,(Below.refl _ _).alloc (Nat.le_refl _) _⟩
def nmA (s:ByteArray):Bool:=nameL s.data.toList
def enumB (s:ByteArray):Bool:=!decide (s=⟨#[116,114,117,101]⟩)&&!decide (s=⟨#[102,97,108,115,101]⟩)&&!decide (s=⟨#[110,117,108,108]⟩)&&nmA s
def keysB (lit:Bool) (ks:List ByteArray):Bool:=(!lit||ks.all nmA)&&decide ks.Nodup
def leafB (is:List VT) (ks:List ByteArray):Bool:=decide (is.length=0)&&decide (ks.length=0)
def nodeB (lit:Bool):VT->Bool
 | .mk k n s is ks =>
   if k=0 then decide (n=0)&&decide (s.size=0)&&leafB is ks
   else if k=1 then (decide (n=0)||decide (n=1))&&decide (s.size=0)&&leafB is ks
   else if k=2 then decide (s.size=0)&&leafB is ks
   else if k=3 then decide (n=0)&&leafB is ks
   else if k=4 then decide (n=0)&&enumB s&&leafB is ks
   else if k=5 then decide (n=0)&&decide (s.size=0)&&decide (ks.length=0)
   else if k=6 then decide (n=0)&&decide (s.size=0)&&decide (ks.length=is.length)&&keysB lit ks
   else if k=7 then lit&&decide (n=0)&&nmA s&&leafB is ks
   else false
theorem zp7 (s:ByteArray) (l:List UInt8):(s.toList==l)=decide (s=⟨l.toArray⟩):=by
 rw [Lib.toList_data,Bool.eq_iff_iff];obtain ⟨d⟩:=s;simp only [beq_iff_eq,decide_eq_true_eq,ByteArray.mk.injEq]
 constructor
 ·rintro rfl; simp
 ·rintro rfl; simp
def Chk (w:World) (c:Nat) (lit:Bool) (r:Int):Prop:=w.heap[c]?=some (.cells #[.bool lit,.int .i64 r] 207 (0,0))
theorem zw3 {s:ByteArray} (h:s.size=0):(s.toList.isEmpty=true)/\s.toList=[]/\(s.toList==[])=true:=by rw [zx7 h]; exact ⟨rfl,rfl,rfl⟩
theorem zD9 {s:ByteArray} (h:¬ s.size=0):(s.toList.isEmpty=false)/\s.toList≠[]/\(s.toList==[])=false:=by
 have h1:=zh2 (s:=s) (by omega);exact ⟨h1,zg0 (by omega),beq_eq_false_iff_ne.2 (zg0 (by omega))⟩
mutual
def zc0 (lit:Bool):VT->Bool
 | .mk k n s is ks=>nodeB lit (.mk k n s is ks)&&zj8 lit is
def zj8 (lit:Bool):List VT->Bool
 | []=>true
 | t::u=>zc0 lit t&&zj8 lit u
end
def zd9 (lit:Bool) (t:VT):Bool:=decide (t.size<=4096)&&decide (t.depth<=24)&&zc0 lit t
mutual
def VT.bw:VT->Nat
 | .mk _ _ s items keys=>1+s.size+(keys.map (fun k=>1+k.size)).sum+VT.bws items
def VT.bws:List VT->Nat
 | []=>0
 | t::r=>VT.bw t+VT.bws r
end
def ksum (keys:List ByteArray):Nat:=(keys.map (fun k=>1+k.size)).sum
theorem bw_eq (k n:Int) (s:ByteArray) (items:List VT) (keys:List ByteArray):(VT.mk k n s items keys).bw=1+s.size+ksum keys+VT.bws items:=by rw [VT.bw]; rfl
theorem ye5 (t:VT):t.size<=t.bw:=by
 induction t using VT.ind with
 | h k n s items keys ih =>
   rw [bw_eq];have hs:∀ (l:List VT),(∀ (i:Nat) (t:VT),l[i]?=some t->t.size<=t.bw)->VT.sizes l<=VT.bws l:=by
    intro l
    induction l with
    | nil=>intro _; rw [VT.bws]; simp [VT.sizes]
    | cons t r ihr =>
      intro hm;rw [VT.bws];have h1:=hm 0 t rfl;have h2:=ihr (fun i t h=>hm (i+1) t h);simp [VT.sizes]; omega
   have h2:=hs items ih;simp [VT.size]; omega
theorem bws_at {items:List VT} {j:Nat} {t:VT} (h:items[j]?=some t):t.bw<=VT.bws items:=by
 induction items generalizing j with
 | nil=>simp at h
 | cons a r ih =>
   rw [VT.bws]
   cases j with
   | zero=>simp at h; subst h; omega
   | succ j=>have:=ih (j:=j) (by simpa using h); omega
end Go.Proofs.YtfgelheiknmjgaaGreatDoor
namespace Go.Proofs.YtfgelheiknmjgaaGreatDoor
open Go.RowKit Go.ChangeShapes Go.WideShapes
theorem cellsV : Tryz.prog.cellsOf 53 = 5:=by kernel_rfl
theorem cellsS : Tryz.prog.cellsOf 9 = 1:=by kernel_rfl
theorem bytesV : Tryz.prog.bytesOf 53 = 80:=by kernel_rfl
theorem bytesS : Tryz.prog.bytesOf 9 = 16:=by kernel_rfl
theorem cellsI : Tryz.prog.cellsOf 3 = 1:=by kernel_rfl
theorem cellsLV : Tryz.prog.cellsOf 51 = 1:=by kernel_rfl
theorem cellsLS : Tryz.prog.cellsOf 33 = 1:=by kernel_rfl
section
variable {H:Type} {enc:TypeId × Value->H} {w:World} {spare:Nat->Bool} {held:Bool}
theorem zQ9 {a:Addr} {v:Value} (h:w.cell? a=some v):a.block<w.heap.size:=by
 unfold World.cell? at h;rcases Nat.lt_or_ge a.block w.heap.size with h' | h'
 ·exact h'
 ·rw [Array.getElem?_eq_none h'] at h; simp at h
theorem zn0 {e:TypeId}:∀ {l:List (DataW H)} {d:DataW H},d∈l->∀ n∈d.weights Tryz.prog e,n∈DataW.weightsAll Tryz.prog e l
 | [],_,h,_,_=>by simp at h
 | x::r,d,h,n,hn=>by
   rw [DataW.weightsAll,List.mem_append];rcases List.mem_cons.1 h with rfl | h
   ·exact .inl hn
   ·exact .inr (zn0 h n hn)
theorem zy8 {n:Int} (wf:(Lit.int .i64 n).wf=true):small n:=by
 exact bounds_i64 wf
end
end Go.Proofs.YtfgelheiknmjgaaGreatDoor
namespace Go.Proofs.YtfgelheiknmjgaaGreatDoor
open Go.RowKit Go.ChangeShapes Go.WideShapes
section
variable {H:Type} {enc:TypeId × Value->H} {W:World} {spare:Nat->Bool} {held:Bool}
end
end Go.Proofs.YtfgelheiknmjgaaGreatDoor
namespace Go.Proofs.YtfgelheiknmjgaaGreatDoor
open Go.RowKit Go.ChangeShapes Go.WideShapes
section
variable {H:Type} {enc:TypeId × Value->H} {w:World} {spare:Nat->Bool} {held:Bool}
theorem zO2 (Sx:Nat->ByteArray):∀ (l:List Nat),Rows.uptoBulkAll (l.map fun i=>(.lit (.string (Sx i).data.toList):DataW H))=ksum (l.map Sx)
 | []=>rfl
 | i::r=>by
   have h:=zO2 Sx r;simp only [List.map_cons,Rows.uptoBulkAll,Rows.uptoBulk,h,ksum,List.sum_cons,T1.size_eq];omega
theorem yq2:∀ (ds:List (DataW H)) (f:Nat->VT),(∀ i d,ds[i]?=some d->(f i).bw<=Rows.uptoBulk d)->VT.bws ((List.range ds.length).map f)<=Rows.uptoBulkAll ds
 | [],_,_=>by simp [VT.bws]
 | d::r,f,h=>by
   have h0:=h 0 d rfl;have h1:=yq2 r (fun i=>f (i+1)) (fun i d hd=>h (i+1) d hd);rw [List.length_cons,List.range_succ_eq_map,List.map_cons,List.map_map,VT.bws,Rows.uptoBulkAll];have e:(f ∘ Nat.succ)=fun i=>f (i+1):=rfl;rw [e];omega
theorem zQ6 {fuel:Nat} {cs:List Value} {x:DataW H × List MemPlace} (h:DataW.trod enc Tryz.prog w 0 spare held fuel 33 cs=some x) (hw:∀ n∈x.1.weights Tryz.prog 33,n<=reachBytes) :
  ∃ (K:Option Addr) (lk ck:Nat) (keys:List ByteArray),cs=[.slice K lk ck]/\keys.length=lk/\(lk*16<=140737488351232/\lk<=ck)/\(∀ s∈keys,s.size<=140737488351232)/\KeysAt w w.heap.size K keys/\ksum keys+1<=Rows.uptoBulk x.1:=by
 rcases Go.Deep.open_strs Tryz.underlying33 Tryz.underlying9 cellsS h with ⟨rfl,rfl⟩ | ⟨a,len,cap,m,Sx,rfl,_,hl,hm,hmm,rfl,hx⟩
 ·exact ⟨none,0,0,[],rfl,rfl,⟨by decide,Nat.le_refl _⟩,by simp,fun h=>by simp at h,by simp [ksum,Rows.uptoBulk]⟩
 ·have hml:len<=m:=by rw [hmm]; split <;> omega
  have hw0:∀ n∈(m*16)::(DataW.weightsAll Tryz.prog 9 ((List.range len).map fun i=>(.lit (.string (Sx i).data.toList):DataW H))),n<=reachBytes:=by
   intro n hn;refine hw n ?_;simp only [DataW.weights,Tryz.underlying33,bytesS,List.length_map,List.length_range]
   rcases List.mem_cons.1 hn with rfl | hn
   ·rw [show len+(m-len)=m by omega]; simp
   ·simp [hn]
  have h1:=hw0 _ (List.mem_cons_self ..);unfold reachBytes at h1;refine ⟨some a,len,cap,(List.range len).map Sx,rfl,by simp,by omega, ?_,fun h0=>⟨a,rfl, ?_, ?_⟩,by simp only [Rows.uptoBulk]; rw [zO2]; omega⟩
  ·intro s hs
   obtain ⟨i,hi,rfl⟩:=List.mem_map.1 hs;have h2:=hw0 (Sx i).data.toList.length (List.mem_cons_of_mem _ (zn0 (d:=.lit (.string (Sx i).data.toList)) (List.mem_map.2 ⟨i,hi,rfl⟩) _ (by simp [DataW.weights])));unfold reachBytes at h2;rw [size_eq] at h2; exact h2
  ·have h2:0<len:=by simpa using h0
   have:=zQ9 (hx 0 (by omega)).1
   rwa [za1] at this
  ·intro i s hi
   have h2:i<len:=by simpa using (List.getElem?_eq_some_iff.1 hi).1
   rw [(hx i (by omega)).1];simp [h2] at hi
   rw [hi]
theorem zB6:∀ (fuel:Nat) {cs:List Value} {x:DataW H × List MemPlace},DataW.trod enc Tryz.prog w 0 spare held fuel 53 cs=some x->(∀ n∈x.1.weights Tryz.prog 53,n<=reachBytes) ->
  ∃ c0 c1 c2 c3 c4 t,cs=[c0,c1,c2,c3,c4]/\Rd w w.heap.size (.agg #[c0,c1,c2,c3,c4]) t/\t.bw<=Rows.uptoBulk x.1:=by
 intro fuel
 induction fuel using Nat.strongRecOn with
 | ind fuel ih =>
 intro cs x h hw;obtain ⟨xs,n,rfl,rfl,hl,hxl,hf⟩:=DataW.trod_struct Tryz.underlying53 h;rw [cellsV] at hl
 match cs,hl,xs,hxl with
 | [c0,c1,c2,c3,c4],_,[x0,x1,x2,x3,x4],_ =>
 have f0:DataW.trod enc Tryz.prog w 0 spare held n 3 [c0]=some x0:=by
  have this:DataW.trod enc Tryz.prog w 0 spare held n 3 (([c0,c1,c2,c3,c4].drop 0).take (Tryz.prog.cellsOf 3))=some x0:=hf 0 _ rfl;rw [cellsI] at this; exact this
 have f1:DataW.trod enc Tryz.prog w 0 spare held n 3 [c1]=some x1:=by
  have this:DataW.trod enc Tryz.prog w 0 spare held n 3 (([c0,c1,c2,c3,c4].drop 1).take (Tryz.prog.cellsOf 3))=some x1:=hf 1 _ rfl;rw [cellsI] at this; exact this
 have f2:DataW.trod enc Tryz.prog w 0 spare held n 9 [c2]=some x2:=by
  have this:DataW.trod enc Tryz.prog w 0 spare held n 9 (([c0,c1,c2,c3,c4].drop 2).take (Tryz.prog.cellsOf 9))=some x2:=hf 2 _ rfl;rw [cellsS] at this; exact this
 have f3:DataW.trod enc Tryz.prog w 0 spare held n 51 [c3]=some x3:=by
  have this:DataW.trod enc Tryz.prog w 0 spare held n 51 (([c0,c1,c2,c3,c4].drop 3).take (Tryz.prog.cellsOf 51))=some x3:=hf 3 _ rfl;rw [cellsLV] at this; exact this
 have f4:DataW.trod enc Tryz.prog w 0 spare held n 33 [c4]=some x4:=by
  have this:DataW.trod enc Tryz.prog w 0 spare held n 33 (([c0,c1,c2,c3,c4].drop 4).take (Tryz.prog.cellsOf 33))=some x4:=hf 4 _ rfl;rw [cellsLS] at this; exact this
 obtain ⟨k0,e0,rfl,wf0⟩:=DataW.trod_int Tryz.underlying3 f0;obtain ⟨k1,e1,rfl,wf1⟩:=DataW.trod_int Tryz.underlying3 f1;obtain ⟨s,e2,rfl,hs⟩:=DataW.trod_string Tryz.underlying9 f2;have hw':∀ n∈(Lit.int .i64 k0 |> (.lit:Lit->DataW H)).weights Tryz.prog 3 ++ ((Lit.int .i64 k1 |> (.lit:Lit->DataW H)).weights Tryz.prog 3 ++ ((Lit.string s.data.toList |> (.lit:Lit->DataW H)).weights Tryz.prog 9 ++ (x3.1.weights Tryz.prog 51 ++ (x4.1.weights Tryz.prog 33 ++ [])))),n<=reachBytes:=by
  intro n hn;refine hw n ?_;simpa only [DataW.weights,Tryz.underlying53,DataW.weightsEach,List.map_cons,List.map_nil] using hn
 obtain ⟨K,lk,ck,keys,e4,hlk,hbk,hks,hK,hkb⟩:=zQ6 f4 (fun n hn=>hw' n (by simp [hn]));have hss:s.size<=140737488351232:=by
  have:=hw' s.data.toList.length (by simp [DataW.weights]);unfold reachBytes at this;rw [size_eq] at this; exact this
 simp only [List.cons.injEq,and_true] at e0 e1 e2 e4
 subst e0 e1 e2 e4;have hk0:small k0:=zy8 wf0;have hk1:small k1:=zy8 wf1;rcases DataW.trod_slice Tryz.underlying51 f3 with ⟨e3,_⟩ | ⟨a,len,cap,elems,rest,m,rfl,e3,rfl,_,hlc,hcm,hel,hat,hsp,hns⟩
 ·simp only [List.cons.injEq,and_true] at e3
  subst e3;exact ⟨_,_,_,_,_,.mk k0 k1 s [] keys,rfl,.mk (fun _=>undef) hk0 hk1 hss hks rfl hlk (by decide) hbk (fun h0=>by omega) (fun i t hi=>by simp at hi) hK,by
   rw [bw_eq];simp only [Rows.uptoBulk,Rows.uptoBulkAll,List.map_cons,List.map_nil,T1.size_eq,VT.bws] at hkb ⊢;omega⟩
 ·simp only [List.cons.injEq,and_true] at e3
  subst e3;have hw3:∀ d∈elems.map (·.1), ∀ q∈d.weights Tryz.prog 53,q<=reachBytes:=by
   intro d hd q hq;refine hw' q ?_;simp only [DataW.weights,Tryz.underlying51,List.mem_append,List.mem_cons]
   exact .inr (.inr (.inr (.inl (.inr (.inl (zn0 hd q hq))))))
  have hb3:len*80<=140737488351232:=by
   have:=hw' ((elems.length+rest.length)*80) (by
    simp only [DataW.weights,Tryz.underlying51,List.mem_append,List.mem_cons,bytesV,List.length_map]
    simp)
   unfold reachBytes at this;omega
  rw [cellsV] at hat
  have hitem:∀ i,i<len->∃ T:Value × VT,C5 w (a.add (i*5)) T.1/\Rd w w.heap.size T.1 T.2/\∀ d,(elems.map (·.1))[i]?=some d->T.2.bw<=Rows.uptoBulk d:=by
   intro i hi;have h1:=hat i hi;have hlt:i<elems.length:=by omega
   rw [List.getElem?_eq_getElem hlt,Option.bind_eq_some_iff] at h1;obtain ⟨cs',hc,ht⟩:=h1;obtain ⟨d0,d1,d2,d3,d4,t,rfl,hrd,hbk2⟩:=ih m (by omega) ht (hw3 _ (List.mem_map_of_mem (List.getElem_mem hlt)));obtain ⟨_,_,hg⟩:=World.cells?_some hc;refine ⟨⟨_,t⟩,⟨_,_,_,_,_,rfl, ?_, ?_, ?_, ?_, ?_⟩,hrd,fun d hd=>?_⟩
   ·have:=hg 0 (by omega); simpa [Addr.add] using this
   ·have:=hg 1 (by omega); simpa [Addr.add] using this
   ·have:=hg 2 (by omega); simpa [Addr.add] using this
   ·have:=hg 3 (by omega); simpa [Addr.add] using this
   ·have:=hg 4 (by omega); simpa [Addr.add] using this
   ·rw [List.getElem?_map,List.getElem?_eq_getElem hlt] at hd
    cases hd
    exact hbk2
  obtain ⟨T,hT⟩ : ∃ T:Nat->Value × VT, ∀ i,i<len->C5 w (a.add (i*5)) (T i).1/\Rd w w.heap.size (T i).1 (T i).2/\∀ d,(elems.map (·.1))[i]?=some d->(T i).2.bw<=Rows.uptoBulk d:=by
   refine ⟨fun i=>if h:i<len then (hitem i h).choose else (undef,.mk 0 0 ⟨#[]⟩ [] []),fun i h=>?_⟩
   simp only [dif_pos h]
   exact (hitem i h).choose_spec
  have hsum:=yq2 (elems.map (·.1)) (fun i=>(T i).2) (fun i d hd=>(hT i (by
   have:=(List.getElem?_eq_some_iff.1 hd).1;simp at this; omega)).2.2 d hd)
  have hll:(elems.map (·.1)).length=len:=by simp; omega
  rw [hll] at hsum;refine ⟨_,_,_,_,_,.mk k0 k1 s ((List.range len).map fun i=>(T i).2) keys,rfl,.mk (fun i=>(T i).1) hk0 hk1 hss hks (by simp) hlk hb3 hbk (fun h0=>⟨a,rfl, ?_,fun i hi=>(hT i hi).1⟩) (fun i t hi=>?_) hK, ?_⟩
  ·obtain ⟨_,_,_,_,_,_,h0,_⟩:=(hT 0 h0).1
   have:=zQ9 h0
   rwa [za1] at this
  ·have hlt:i<len:=by simpa using (List.getElem?_eq_some_iff.1 hi).1
   simp [hlt] at hi
   subst hi;exact (hT i hlt).2.1
  ·rw [bw_eq]
   simp only [Rows.uptoBulk,Rows.uptoBulkAll,List.map_cons,List.map_nil,T1.size_eq] at hkb ⊢
   omega
end
end Go.Proofs.YtfgelheiknmjgaaGreatDoor

