
/-
 Texts joined: W1 Open Open2 Bulk D0 D1Dir D1Def D1Str D1Fld.
-/
import Derived.Test.YtfgelheiknmjgaaGreatDoorZr5
import Derived.Test.YtfgelheiknmjgaaGreatDoorZr2
import Derived.Test.YtfgelheiknmjgaaGreatDoorZr4
import Derived.ChangeArms
import Derived.Deep.Strs
import Derived.SizedLaws
import Derived.ChangeMaps
import Derived.WideShapes
import Derived.OpenShut
import Derived.Test.YtfgelheiknmjgaaGreatDoorRows
set_option maxRecDepth 1000000
set_option maxHeartbeats 8000000
namespace Go.Proofs.YtfgelheiknmjgaaGreatDoor
open Go.RowKit
mutual
def VT.bw:VT->Nat
 | .mk _ _ s items keys=>1+s.size+(keys.map (fun k=>1+k.size)).sum+VT.bws items
def VT.bws:List VT->Nat
 | []=>0
 | t::r=>VT.bw t+VT.bws r
end
def ksum (keys:List ByteArray):Nat:=(keys.map (fun k=>1+k.size)).sum
theorem bw_eq (k n:Int) (s:ByteArray) (items:List VT) (keys:List ByteArray):(VT.mk k n s items keys).bw=1+s.size+ksum keys+VT.bws items:=by rw [VT.bw]; rfl
def wk:Nat->List ByteArray->Nat
 | n,[]=>n
 | n,k::r=>if n<=2000 then wk (n+1+k.size) r else n
mutual
def VT.wv:VT->Nat
 | .mk _ _ s items keys=>VT.wvs (wk (1+s.size) keys) items
def VT.wvs:Nat->List VT->Nat
 | n,[]=>n
 | n,t::r=>if n<=2000 then VT.wvs (n+VT.wv t) r else n
end
theorem wk_big {n:Nat} (h:2000<n):∀ l,wk n l=n
 | []=>rfl
 | k::r=>by rw [wk,if_neg (by omega)]
theorem wvs_big {n:Nat} (h:2000<n):∀ l,VT.wvs n l=n
 | []=>by rw [VT.wvs]
 | k::r=>by rw [VT.wvs,if_neg (by omega)]
theorem zv4 (n:Nat) (t:VT) (r:List VT):VT.wvs n (t::r)=if n<=2000 then VT.wvs (n+VT.wv t) r else n:=by rw [VT.wvs]
theorem wv_eq (k n:Int) (s:ByteArray) (items:List VT) (keys:List ByteArray):(VT.mk k n s items keys).wv=VT.wvs (wk (1+s.size) keys) items:=by rw [VT.wv]
theorem wk_le:∀ (l:List ByteArray) (n:Nat),wk n l<=n+ksum l
 | [],n=>by simp [wk]
 | k::r,n=>by
   have h1:ksum (k::r)=1+k.size+ksum r:=by simp [ksum]
   rw [wk]
   split
   ·have:=wk_le r (n+1+k.size)
    omega
   ·omega
theorem wv_le (t:VT):t.wv<=t.bw:=by
 induction t using VT.ind with
 | h k n s items keys ih =>
   rw [wv_eq,bw_eq];have h0:=wk_le keys (1+s.size);have hs:∀ (l:List VT) (m:Nat),(∀ (i:Nat) (t:VT),l[i]?=some t->t.wv<=t.bw)->VT.wvs m l<=m+VT.bws l:=by
    intro l
    induction l with
    | nil=>intro m _; rw [VT.wvs,VT.bws]; omega
    | cons t r ihr =>
      intro m hm;rw [zv4,VT.bws]
      split
      ·have h1:=hm 0 t rfl
       have h2:=ihr (m+t.wv) (fun i t h=>hm (i+1) t h);omega
      ·omega
   have h2:=hs items (wk (1+s.size) keys) ih;omega
theorem bws_at {items:List VT} {j:Nat} {t:VT} (h:items[j]?=some t):t.bw<=VT.bws items:=by
 induction items generalizing j with
 | nil=>simp at h
 | cons a r ih =>
   rw [VT.bws]
   cases j with
   | zero=>simp at h; subst h; omega
   | succ j=>have:=ih (j:=j) (by simpa using h); omega
theorem key_le {keys:List ByteArray} {j:Nat} {x:ByteArray} (h:keys[j]?=some x):x.size<=ksum keys:=by
 induction keys generalizing j with
 | nil=>simp at h
 | cons a r ih =>
   have h1:ksum (a::r)=1+a.size+ksum r:=by simp [ksum]
   cases j with
   | zero=>simp at h; subst h; omega
   | succ j=>have:=ih (j:=j) (by simpa using h); omega
theorem zn7 {α:Type} {l:List α} {j:Nat} {x : α} (h:l[j]?=some x):l.drop j=x::l.drop (j+1):=by
 obtain ⟨hj,e⟩:=List.getElem?_eq_some_iff.1 h;rw [List.drop_eq_getElem_cons hj,e]
def zL6 (m:Nat) (w:World) (e:Ending) (w':World):Prop:=e=.returned (.int .i64 m)/\Below w.heap.size w w'
theorem zA2 (t:VT):∀ (w:World) (B:Nat) (v:Value),Rd w B v t->B<=w.heap.size->t.bw<=1099511627776->Calls Tryz.prog 38 #[v,.int .i64 2000] w (zL6 t.wv w):=by
 induction t using VT.ind with
 | h k n s items keys ih =>
 intro w B v h hB hbw
 cases h with
 | @mk _ _ _ A li ci K lk ck _ _ V hk hn hs hks hli hlk hbi hbk hA hr hK =>
 rw [bw_eq] at hbw;have HWE:Hid ((VT.mk k n s items keys).wv=VT.wvs (wk (1+s.size) keys) items):=Lh (wv_eq _ _ _ _ _);generalize (VT.mk k n s items keys).wv=R at *;have HKL:=Lh (wk_le keys (1+s.size));have bz:Below w.heap.size w (w.alloc (.cells #[.int .i64 k,.int .i64 n,.string s,.slice A li ci,.slice K lk ck] 53 (0,0))):=(Below.refl _ _).alloc (Nat.le_refl _) _;have HB1:=Lh bz;have Y1:=Lh (Box.new w (.int .i64 k) (.int .i64 n) (.string s) (.slice A li ci) (.slice K lk ck));have HA:=Lh hA;have HR:=Lh hr;have HK:=Lh hK;have HLI:=Lh hli;have HLK:=Lh hlk;have IH:=Lh ih;have HKS:=Lh hks;have HBW:=Lh hbw;have hlm:(li:Int)<=140737488351232:=by omega
 have hlm':(lk:Int)<=140737488351232:=by omega
 have hss:(s.size:Int)<=140737488351232:=by omega
 have hky:s.size<=1099511627776:=by omega
 clear bz hA hr hK hli hlk ih hks hbi hbk hk hn hs hbw;obtain ⟨x0,x1,x2,x3,x4⟩:=Y1.out.cells
 go_enter Tryz.func38, Tryz.ntmps38
 go_wp2_with fail
 clear x0 x1 x2 x3 x4
 go_loopw [5,6] (fun nn i wr=>∃ (j x:Nat),j<=lk/\i=.int .i64 j/\nn=.int .i64 x/\x<=1099511640000/\Hid (wk (1+s.size) keys=wk x (keys.drop j)/\Below w.heap.size w wr/\Box wr w.heap.size (.int .i64 k) (.int .i64 n) (.string s) (.slice A li ci) (.slice K lk ck))) (fun _ i _=>lk-(intOf i).toNat)
 case atStart=>exact ⟨0,1+s.size,Nat.zero_le _,rfl,by go_num,by have:=HBW.out; omega,Lh ⟨rfl,HB1.out,Y1.out⟩⟩
 case round =>
  obtain ⟨j,x,hj,rfl,rfl,hxb,hq⟩:=hrel;obtain ⟨x0,x1,x2,x3,x4⟩:=hq.out.2.2.cells;clear HB1 Y1;by_cases hgo:j<lk/\x<=2000
  ·obtain ⟨hlt,hle⟩:=hgo
   have hlt':(j:Int)<lk:=by omega
   have hle':(x:Int)<=2000:=by omega
   obtain ⟨ka,hka,hkab,hkc0⟩:=HK.out (by have:=HLK.out; omega)
   obtain ⟨y,hy⟩ : ∃ y,keys[j]?=some y:=⟨_,List.getElem?_eq_getElem (by have:=HLK.out; omega)⟩
   have hyl:=key_le hy;have hyb:y.size<=1099511627776:=by have:=HBW.out; omega
   have HN:Hid (wk (1+s.size) keys=wk (x+1+y.size) (keys.drop (j+1))):=Lh (by rw [hq.out.1,zn7 hy,wk,if_pos hle])
   have hkc:wr.cell? (ka.add j)=some (.string y):=by rw [hq.out.2.1.cell (by rw [za0]; omega)]; exact hkc0 j y hy
   subst hka;clear hkc0 hy hyl;go_wp2_with fail
   go_roundw
   case rel=>exact ⟨j+1,x+1+y.size,by omega,by go_num,by go_num,by omega,Lh ⟨HN.out,hq.out.2.1,hq.out.2.2⟩⟩
   case measure=>simp [intOf]; omega
  ·have HX:Hid (R=VT.wvs x items):=Lh (by
    rw [HWE.out,hq.out.1];rcases Nat.lt_or_ge 2000 x with h | h
    ·rw [wk_big h]
    ·rw [List.drop_eq_nil_of_le (by have:=HLK.out; omega)]; rfl)
   have hcase:(∃ _:(j:Int)<lk, ¬ (x:Int)<=2000)∨¬ (j:Int)<lk:=by
    by_cases h:(j:Int)<lk
    ·exact .inl ⟨h,fun h2=>hgo ⟨by omega,by omega⟩⟩
    ·exact .inr h
   clear hgo;rcases hcase with ⟨hlt',hle'⟩ | hlt'
   all_goals
    go_wp2_with fail
    clear x0 x1 x2 x3 x4
    go_loopw [5,7] (fun nn i wr2=>∃ (j2 x2:Nat),j2<=li/\i=.int .i64 j2/\nn=.int .i64 x2/\x2<=1099511640000/\Hid (R=VT.wvs x2 (items.drop j2)/\Below w.heap.size w wr2/\Box wr2 w.heap.size (.int .i64 k) (.int .i64 n) (.string s) (.slice A li ci) (.slice K lk ck))) (fun _ i _=>li-(intOf i).toNat)
    case atStart=>exact ⟨0,x,Nat.zero_le _,rfl,rfl,by omega,Lh ⟨HX.out,hq.out.2.1,hq.out.2.2⟩⟩
    case round =>
     obtain ⟨j2,x2,hj2,rfl,rfl,hxb2,hq2⟩:=hrel;obtain ⟨y0,y1,y2,y3,y4⟩:=hq2.out.2.2.cells;by_cases hgo2:j2<li/\x2<=2000
     ·obtain ⟨hlt2,hle2⟩:=hgo2
      have hlt2':(j2:Int)<li:=by omega
      have hle2':(x2:Int)<=2000:=by omega
      obtain ⟨a,t,k1,n1,s1,A1,li1,ci1,K1,lk1,ck1,rfl,ht,e,hrd,h0,h1,h2,h3,h4⟩:=zk0 HA.out HR.out HLI.out (hq2.out.2.1.mono hB) hlt2;have hwt:=bws_at ht;have htb:t.bw<=1099511627776:=by have:=HBW.out; omega
      have hwv:=wv_le t;have CALL:=Lh (IH.out j2 t ht _ B (.agg #[.int .i64 k1,.int .i64 n1,.string s1,.slice A1 li1 ci1,.slice K1 lk1 ck1]) (by rw [<- e]; exact hrd) (Nat.le_trans hB hq2.out.2.1.size) htb)
      have HN:Hid (R=VT.wvs (x2+t.wv) (items.drop (j2+1))):=Lh (by rw [hq2.out.1,zn7 ht,zv4,if_pos hle2])
      have hb1:(t.wv:Int)<=1099511627776:=by omega
      generalize t.wv=tw at *;clear ht e hrd hwt htb hwv;go_wp2_with fail
      refine CALL.out.mono ?_
      rintro e w5 ⟨rfl,hb5⟩;have HB5:=Lh (hq2.out.2.1.trans (hb5.mono hq2.out.2.1.size));have HY5:=Lh (hq2.out.2.2.kept hb5);clear hb5 y0 y1 y2 y3 y4 h0 h1 h2 h3 h4 CALL;go_wp2_with fail
      go_roundw
      case rel=>exact ⟨j2+1,x2+tw,by omega,by go_num,by go_num,by omega,Lh ⟨HN.out,HB5.out,HY5.out⟩⟩
      case measure=>simp [intOf]; omega
     ·have HF:Hid (R=x2):=Lh (by
       rw [hq2.out.1];rcases Nat.lt_or_ge 2000 x2 with h | h
       ·rw [wvs_big h]
       ·rw [List.drop_eq_nil_of_le (by have:=HLI.out; omega)]; rw [VT.wvs])
      by_cases hlt2:j2<li
      ·have hlt2':(j2:Int)<li:=by omega
       have hle2':¬ (x2:Int)<=2000:=fun h=>hgo2 ⟨hlt2,by omega⟩
       clear hgo2;go_wp2_with fail
       go_ret
       exact ⟨by rw [HF.out]; rfl,hq2.out.2.1⟩
      ·have hlt2':¬ (j2:Int)<li:=by omega
       clear hgo2;go_wp2_with fail
       go_ret
       exact ⟨by rw [HF.out]; rfl,hq2.out.2.1⟩
end Go.Proofs.YtfgelheiknmjgaaGreatDoor
namespace Go.Proofs.YtfgelheiknmjgaaGreatDoor
open Go.RowKit Go.ChangeShapes Go.WideShapes
theorem cellsV : Tryz.prog.cellsOf 53 = 5:=by kernel_rfl
theorem cellsS : Tryz.prog.cellsOf 9 = 1:=by kernel_rfl
theorem bytesV : Tryz.prog.bytesOf 53 = 80:=by kernel_rfl
theorem bytesS : Tryz.prog.bytesOf 9 = 16:=by kernel_rfl
theorem cellsI : Tryz.prog.cellsOf 3 = 1:=by kernel_rfl
theorem cellsLV : Tryz.prog.cellsOf 51 = 1:=by kernel_rfl
theorem cellsLS : Tryz.prog.cellsOf 33 = 1:=by kernel_rfl
section
variable {H:Type} {enc:TypeId × Value->H} {w:World} {spare:Nat->Bool} {held:Bool}
theorem zN9 {a:Addr} {v:Value} (h:w.cell? a=some v):a.block<w.heap.size:=by
 unfold World.cell? at h;rcases Nat.lt_or_ge a.block w.heap.size with h' | h'
 ·exact h'
 ·rw [Array.getElem?_eq_none h'] at h; simp at h
theorem zl3 {e:TypeId}:∀ {l:List (DataW H)} {d:DataW H},d∈l->∀ n∈d.weights Tryz.prog e,n∈DataW.weightsAll Tryz.prog e l
 | [],_,h,_,_=>by simp at h
 | x::r,d,h,n,hn=>by
   rw [DataW.weightsAll,List.mem_append];rcases List.mem_cons.1 h with rfl | h
   ·exact .inl hn
   ·exact .inr (zl3 h n hn)
theorem zv7 {n:Int} (wf:(Lit.int .i64 n).wf=true):small n:=by
 exact bounds_i64 wf
end
section
variable {H:Type} {enc:TypeId × Value->H} {W:World} {spare:Nat->Bool} {held:Bool}
end
section
variable {H:Type} {enc:TypeId × Value->H} {w:World} {spare:Nat->Bool} {held:Bool}
theorem zL0 (Sx:Nat->ByteArray):∀ (l:List Nat),Rows.uptoBulkAll (l.map fun i=>(.lit (.string (Sx i).data.toList):DataW H))=ksum (l.map Sx)
 | []=>rfl
 | i::r=>by
   have h:=zL0 Sx r;simp only [List.map_cons,Rows.uptoBulkAll,Rows.uptoBulk,h,ksum,List.sum_cons,T1.size_eq]
   omega
theorem yj0:∀ (ds:List (DataW H)) (f:Nat->VT),(∀ i d,ds[i]?=some d->(f i).bw<=Rows.uptoBulk d)->VT.bws ((List.range ds.length).map f)<=Rows.uptoBulkAll ds
 | [],_,_=>by simp [VT.bws]
 | d::r,f,h=>by
   have h0:=h 0 d rfl;have h1:=yj0 r (fun i=>f (i+1)) (fun i d hd=>h (i+1) d hd);rw [List.length_cons,List.range_succ_eq_map,List.map_cons,List.map_map,VT.bws,Rows.uptoBulkAll];have e:(f ∘ Nat.succ)=fun i=>f (i+1):=rfl;rw [e];omega
theorem zN6 {fuel:Nat} {cs:List Value} {x:DataW H × List MemPlace} (h:DataW.trod enc Tryz.prog w 0 spare held fuel 33 cs=some x) (hw:∀ n∈x.1.weights Tryz.prog 33,n<=reachBytes) :
  ∃ (K:Option Addr) (lk ck:Nat) (keys:List ByteArray),cs=[.slice K lk ck]/\keys.length=lk/\(lk*16<=140737488351232/\lk<=ck)/\(∀ s∈keys,s.size<=140737488351232)/\KeysAt w w.heap.size K keys/\ksum keys+1<=Rows.uptoBulk x.1:=by
 rcases Go.Deep.open_strs Tryz.underlying33 Tryz.underlying9 cellsS h with ⟨rfl,rfl⟩ | ⟨a,len,cap,m,Sx,rfl,_,hl,hm,hmm,rfl,hx⟩
 ·exact ⟨none,0,0,[],rfl,rfl,⟨by decide,Nat.le_refl _⟩,by simp,fun h=>by simp at h,by simp [ksum,Rows.uptoBulk]⟩
 ·have hml:len<=m:=by rw [hmm]; split <;> omega
  have hw0:∀ n∈(m*16)::(DataW.weightsAll Tryz.prog 9 ((List.range len).map fun i=>(.lit (.string (Sx i).data.toList):DataW H))),n<=reachBytes:=by
   intro n hn;refine hw n ?_
   simp only [DataW.weights,Tryz.underlying33,bytesS,List.length_map,List.length_range]
   rcases List.mem_cons.1 hn with rfl | hn
   ·rw [show len+(m-len)=m by omega]; simp
   ·simp [hn]
  have h1:=hw0 _ (List.mem_cons_self ..);unfold reachBytes at h1;refine ⟨some a,len,cap,(List.range len).map Sx,rfl,by simp,by omega, ?_,fun h0=>⟨a,rfl, ?_, ?_⟩,by simp only [Rows.uptoBulk]; rw [zL0]; omega⟩
  ·intro s hs
   obtain ⟨i,hi,rfl⟩:=List.mem_map.1 hs;have h2:=hw0 (Sx i).data.toList.length (List.mem_cons_of_mem _ (zl3 (d:=.lit (.string (Sx i).data.toList)) (List.mem_map.2 ⟨i,hi,rfl⟩) _ (by simp [DataW.weights])))
   unfold reachBytes at h2;rw [size_eq] at h2; exact h2
  ·have h2:0<len:=by simpa using h0
   have:=zN9 (hx 0 (by omega)).1
   rwa [za0] at this
  ·intro i s hi
   have h2:i<len:=by simpa using (List.getElem?_eq_some_iff.1 hi).1
   rw [(hx i (by omega)).1]
   simp [h2] at hi
   rw [hi]
theorem zy0:∀ (fuel:Nat) {cs:List Value} {x:DataW H × List MemPlace},DataW.trod enc Tryz.prog w 0 spare held fuel 53 cs=some x->(∀ n∈x.1.weights Tryz.prog 53,n<=reachBytes) ->
  ∃ c0 c1 c2 c3 c4 t,cs=[c0,c1,c2,c3,c4]/\Rd w w.heap.size (.agg #[c0,c1,c2,c3,c4]) t/\t.bw<=Rows.uptoBulk x.1:=by
 intro fuel
 induction fuel using Nat.strongRecOn with
 | ind fuel ih =>
 intro cs x h hw;obtain ⟨xs,n,rfl,rfl,hl,hxl,hf⟩:=DataW.trod_struct Tryz.underlying53 h;rw [cellsV] at hl
 match cs,hl,xs,hxl with
 | [c0,c1,c2,c3,c4],_,[x0,x1,x2,x3,x4],_ =>
 have f0:DataW.trod enc Tryz.prog w 0 spare held n 3 [c0]=some x0:=by
  have this:DataW.trod enc Tryz.prog w 0 spare held n 3 (([c0,c1,c2,c3,c4].drop 0).take (Tryz.prog.cellsOf 3))=some x0:=hf 0 _ rfl;rw [cellsI] at this; exact this
 have f1:DataW.trod enc Tryz.prog w 0 spare held n 3 [c1]=some x1:=by
  have this:DataW.trod enc Tryz.prog w 0 spare held n 3 (([c0,c1,c2,c3,c4].drop 1).take (Tryz.prog.cellsOf 3))=some x1:=hf 1 _ rfl;rw [cellsI] at this; exact this
 have f2:DataW.trod enc Tryz.prog w 0 spare held n 9 [c2]=some x2:=by
  have this:DataW.trod enc Tryz.prog w 0 spare held n 9 (([c0,c1,c2,c3,c4].drop 2).take (Tryz.prog.cellsOf 9))=some x2:=hf 2 _ rfl;rw [cellsS] at this; exact this
 have f3:DataW.trod enc Tryz.prog w 0 spare held n 51 [c3]=some x3:=by
  have this:DataW.trod enc Tryz.prog w 0 spare held n 51 (([c0,c1,c2,c3,c4].drop 3).take (Tryz.prog.cellsOf 51))=some x3:=hf 3 _ rfl;rw [cellsLV] at this; exact this
 have f4:DataW.trod enc Tryz.prog w 0 spare held n 33 [c4]=some x4:=by
  have this:DataW.trod enc Tryz.prog w 0 spare held n 33 (([c0,c1,c2,c3,c4].drop 4).take (Tryz.prog.cellsOf 33))=some x4:=hf 4 _ rfl;rw [cellsLS] at this; exact this
 obtain ⟨k0,e0,rfl,wf0⟩:=DataW.trod_int Tryz.underlying3 f0;obtain ⟨k1,e1,rfl,wf1⟩:=DataW.trod_int Tryz.underlying3 f1;obtain ⟨s,e2,rfl,hs⟩:=DataW.trod_string Tryz.underlying9 f2;have hw':∀ n∈(Lit.int .i64 k0 |> (.lit:Lit->DataW H)).weights Tryz.prog 3 ++ ((Lit.int .i64 k1 |> (.lit:Lit->DataW H)).weights Tryz.prog 3 ++ ((Lit.string s.data.toList |> (.lit:Lit->DataW H)).weights Tryz.prog 9 ++ (x3.1.weights Tryz.prog 51 ++ (x4.1.weights Tryz.prog 33 ++ [])))),n<=reachBytes:=by
  intro n hn;refine hw n ?_
  simpa only [DataW.weights,Tryz.underlying53,DataW.weightsEach,List.map_cons,List.map_nil] using hn
 obtain ⟨K,lk,ck,keys,e4,hlk,hbk,hks,hK,hkb⟩:=zN6 f4 (fun n hn=>hw' n (by simp [hn]))
 have hss:s.size<=140737488351232:=by
  have:=hw' s.data.toList.length (by simp [DataW.weights])
  unfold reachBytes at this;rw [size_eq] at this; exact this
 simp only [List.cons.injEq,and_true] at e0 e1 e2 e4
 subst e0 e1 e2 e4;have hk0:small k0:=zv7 wf0;have hk1:small k1:=zv7 wf1;rcases DataW.trod_slice Tryz.underlying51 f3 with ⟨e3,_⟩ | ⟨a,len,cap,elems,rest,m,rfl,e3,rfl,_,hlc,hcm,hel,hat,hsp,hns⟩
 ·simp only [List.cons.injEq,and_true] at e3
  subst e3;exact ⟨_,_,_,_,_,.mk k0 k1 s [] keys,rfl,.mk (fun _=>undef) hk0 hk1 hss hks rfl hlk (by decide) hbk (fun h0=>by omega) (fun i t hi=>by simp at hi) hK,by
   rw [bw_eq];simp only [Rows.uptoBulk,Rows.uptoBulkAll,List.map_cons,List.map_nil,T1.size_eq,VT.bws] at hkb ⊢
   omega⟩
 ·simp only [List.cons.injEq,and_true] at e3
  subst e3;have hw3:∀ d∈elems.map (·.1), ∀ q∈d.weights Tryz.prog 53,q<=reachBytes:=by
   intro d hd q hq;refine hw' q ?_
   simp only [DataW.weights,Tryz.underlying51,List.mem_append,List.mem_cons]
   exact .inr (.inr (.inr (.inl (.inr (.inl (zl3 hd q hq))))))
  have hb3:len*80<=140737488351232:=by
   have:=hw' ((elems.length+rest.length)*80) (by
    simp only [DataW.weights,Tryz.underlying51,List.mem_append,List.mem_cons,bytesV,List.length_map]
    simp)
   unfold reachBytes at this;omega
  rw [cellsV] at hat
  have hitem:∀ i,i<len->∃ T:Value × VT,C5 w (a.add (i*5)) T.1/\Rd w w.heap.size T.1 T.2/\∀ d,(elems.map (·.1))[i]?=some d->T.2.bw<=Rows.uptoBulk d:=by
   intro i hi;have h1:=hat i hi;have hlt:i<elems.length:=by omega
   rw [List.getElem?_eq_getElem hlt,Option.bind_eq_some_iff] at h1;obtain ⟨cs',hc,ht⟩:=h1;obtain ⟨d0,d1,d2,d3,d4,t,rfl,hrd,hbk2⟩:=ih m (by omega) ht (hw3 _ (List.mem_map_of_mem (List.getElem_mem hlt)))
   obtain ⟨_,_,hg⟩:=World.cells?_some hc;refine ⟨⟨_,t⟩,⟨_,_,_,_,_,rfl, ?_, ?_, ?_, ?_, ?_⟩,hrd,fun d hd=>?_⟩
   ·have:=hg 0 (by omega); simpa [Addr.add] using this
   ·have:=hg 1 (by omega); simpa [Addr.add] using this
   ·have:=hg 2 (by omega); simpa [Addr.add] using this
   ·have:=hg 3 (by omega); simpa [Addr.add] using this
   ·have:=hg 4 (by omega); simpa [Addr.add] using this
   ·rw [List.getElem?_map,List.getElem?_eq_getElem hlt] at hd
    cases hd
    exact hbk2
  obtain ⟨T,hT⟩ : ∃ T:Nat->Value × VT, ∀ i,i<len->C5 w (a.add (i*5)) (T i).1/\Rd w w.heap.size (T i).1 (T i).2/\∀ d,(elems.map (·.1))[i]?=some d->(T i).2.bw<=Rows.uptoBulk d:=by
   refine ⟨fun i=>if h:i<len then (hitem i h).choose else (undef,.mk 0 0 ⟨#[]⟩ [] []),fun i h=>?_⟩
   simp only [dif_pos h]
   exact (hitem i h).choose_spec
  have hsum:=yj0 (elems.map (·.1)) (fun i=>(T i).2) (fun i d hd=>(hT i (by
   have:=(List.getElem?_eq_some_iff.1 hd).1;simp at this; omega)).2.2 d hd)
  have hll:(elems.map (·.1)).length=len:=by simp; omega
  rw [hll] at hsum;refine ⟨_,_,_,_,_,.mk k0 k1 s ((List.range len).map fun i=>(T i).2) keys,rfl,.mk (fun i=>(T i).1) hk0 hk1 hss hks (by simp) hlk hb3 hbk (fun h0=>⟨a,rfl, ?_,fun i hi=>(hT i hi).1⟩) (fun i t hi=>?_) hK, ?_⟩
  ·obtain ⟨_,_,_,_,_,_,h0,_⟩:=(hT 0 h0).1
   have:=zN9 h0
   rwa [za0] at this
  ·have hlt:i<len:=by simpa using (List.getElem?_eq_some_iff.1 hi).1
   simp [hlt] at hi
   subst hi;exact (hT i hlt).2.1
  ·rw [bw_eq]
   simp only [Rows.uptoBulk,Rows.uptoBulkAll,List.map_cons,List.map_nil,T1.size_eq] at hkb ⊢
   omega
end
end Go.Proofs.YtfgelheiknmjgaaGreatDoor
namespace Go.Proofs.YtfgelheiknmjgaaGreatDoor
open Go.RowKit
def at_ (a:Addr):Nat->Addr
 | 0=>a
 | j+1=>⟨a.block,a.off+(j+1),none⟩
theorem zb3 (a:Addr) (j:Nat):(at_ a j).block=a.block:=by cases j <;> rfl
abbrev big:Nat:=140737488351232
structure Stays {α:Type} (R:World->Nat->(Nat->Value)->α->Prop):Prop where
 kept:∀ {w w':World} {B:Nat} {f:Nat->Value} {x : α},R w B f x->Below B w w'->R w' B f x
 mono:∀ {w:World} {B B':Nat} {f:Nat->Value} {x : α},R w B f x->B<=B'->R w B' f x
def Sl {α:Type} (k bytes:Nat) (R:World->Nat->(Nat->Value)->α->Prop) (w:World) (B:Nat) (v:Value) (xs:List α):Prop :=
 ∃ A c,v=.slice A xs.length c/\xs.length<=c/\xs.length*bytes<=big/\∃ V:Nat->Nat->Value,
  (0<xs.length->∃ a,A=some a/\a.block<B/\∀ i,i<xs.length->∀ j,j<k->w.cell? (at_ (a.add (i*k)) j)=some (V i j))/\∀ i x,xs[i]?=some x->R w B (V i) x
theorem Sl.kept {α:Type} {k bytes:Nat} {R:World->Nat->(Nat->Value)->α->Prop} (hR:Stays R) {w w':World} {B:Nat} {v:Value} {xs:List α} (h:Sl k bytes R w B v xs) (hw:Below B w w'):Sl k bytes R w' B v xs:=by
 obtain ⟨A,c,e,hc,hb,V,hA,hr⟩:=h;refine ⟨A,c,e,hc,hb,V,fun h0=>?_,fun i x hx=>hR.kept (hr i x hx) hw⟩
 obtain ⟨a,ea,ha,hx⟩:=hA h0;exact ⟨a,ea,ha,fun i hi j hj=>(hw.cell (by rw [zb3,za0]; exact ha)).trans (hx i hi j hj)⟩
theorem Sl.mono {α:Type} {k bytes:Nat} {R:World->Nat->(Nat->Value)->α->Prop} (hR:Stays R) {w:World} {B B':Nat} {v:Value} {xs:List α} (h:Sl k bytes R w B v xs) (hB:B<=B'):Sl k bytes R w B' v xs:=by
 obtain ⟨A,c,e,hc,hb,V,hA,hr⟩:=h;refine ⟨A,c,e,hc,hb,V,fun h0=>?_,fun i x hx=>hR.mono (hr i x hx) hB⟩
 obtain ⟨a,ea,ha,hx⟩:=hA h0;exact ⟨a,ea,Nat.lt_of_lt_of_le ha hB,hx⟩
structure DirT where
 name:ByteArray
 args:List (ByteArray × VT)
structure InpT where
 name:ByteArray
 tn:ByteArray
 tw:List Int
 has:Bool
 dflt:VT
 dirs:List DirT
structure FldT where
 name:ByteArray
 args:List InpT
 tn:ByteArray
 tw:List Int
 dirs:List DirT
structure MemT where
 name:ByteArray
 dirs:List DirT
structure DefT where
 kind:Int
 name:ByteArray
 impl:List ByteArray
 dirs:List DirT
 fields:List FldT
 members:List MemT
 inputs:List InpT
def StrR (_:World) (_:Nat) (f:Nat->Value) (s:ByteArray):Prop:=f 0=.string s/\s.size<=big
def IntR (_:World) (_:Nat) (f:Nat->Value) (n:Int):Prop:=f 0=.int .i64 n/\small n
def WrapsR:=Sl 1 8 IntR
def NamesR:=Sl 1 16 StrR
structure RfR (w:World) (B:Nat) (c0 c1:Value) (n:ByteArray) (xs:List Int):Prop where
 name:c0=.string n
 size:n.size<=big
 wraps:WrapsR w B c1 xs
structure ArgR (w:World) (B:Nat) (f:Nat->Value) (x:ByteArray × VT):Prop where
 name:f 0=.string x.1
 size:x.1.size<=big
 val:Rd w B (.agg #[f 1,f 2,f 3,f 4,f 5]) x.2
def ArgsR:=Sl 6 96 ArgR
structure DirR (w:World) (B:Nat) (f:Nat->Value) (x:DirT):Prop where
 name:f 0=.string x.name
 size:x.name.size<=big
 args:ArgsR w B (f 1) x.args
def DirsR:=Sl 2 40 DirR
structure InpR (w:World) (B:Nat) (f:Nat->Value) (x:InpT):Prop where
 name:f 0=.string x.name
 size:x.name.size<=big
 type:RfR w B (f 1) (f 2) x.tn x.tw
 has:f 3=.bool x.has
 val:Rd w B (.agg #[f 4,f 5,f 6,f 7,f 8]) x.dflt
 dirs:DirsR w B (f 9) x.dirs
def InpsR:=Sl 10 168 InpR
structure FldR (w:World) (B:Nat) (f:Nat->Value) (x:FldT):Prop where
 name:f 0=.string x.name
 size:x.name.size<=big
 args:InpsR w B (f 1) x.args
 type:RfR w B (f 2) (f 3) x.tn x.tw
 dirs:DirsR w B (f 4) x.dirs
def FldsR:=Sl 5 104 FldR
structure MemR (w:World) (B:Nat) (f:Nat->Value) (x:MemT):Prop where
 name:f 0=.string x.name
 size:x.name.size<=big
 dirs:DirsR w B (f 1) x.dirs
def MemsR:=Sl 2 40 MemR
structure DefR (w:World) (B:Nat) (f:Nat->Value) (x:DefT):Prop where
 kind:f 0=.int .i64 x.kind
 small:small x.kind
 name:f 1=.string x.name
 size:x.name.size<=big
 impl:NamesR w B (f 2) x.impl
 dirs:DirsR w B (f 3) x.dirs
 fields:FldsR w B (f 4) x.fields
 members:MemsR w B (f 5) x.members
 inputs:InpsR w B (f 6) x.inputs
def DefsR:=Sl 7 144 DefR
theorem StrR.stays:Stays StrR:=⟨fun h _=>h,fun h _=>h⟩
theorem IntR.stays:Stays IntR:=⟨fun h _=>h,fun h _=>h⟩
section
variable {w w':World} {B B':Nat}
theorem WrapsR.kept {v:Value} {xs:List Int} (h:WrapsR w B v xs) (hb:Below B w w'):WrapsR w' B v xs:=Sl.kept IntR.stays h hb
theorem WrapsR.mono {v:Value} {xs:List Int} (h:WrapsR w B v xs) (hb:B<=B'):WrapsR w B' v xs:=Sl.mono IntR.stays h hb
theorem NamesR.kept {v:Value} {xs:List ByteArray} (h:NamesR w B v xs) (hb:Below B w w'):NamesR w' B v xs:=Sl.kept StrR.stays h hb
theorem NamesR.mono {v:Value} {xs:List ByteArray} (h:NamesR w B v xs) (hb:B<=B'):NamesR w B' v xs:=Sl.mono StrR.stays h hb
theorem RfR.kept {c0 c1:Value} {n:ByteArray} {xs:List Int} (h:RfR w B c0 c1 n xs) (hb:Below B w w'):RfR w' B c0 c1 n xs:=⟨h.name,h.size,h.wraps.kept hb⟩
theorem RfR.mono {c0 c1:Value} {n:ByteArray} {xs:List Int} (h:RfR w B c0 c1 n xs) (hb:B<=B'):RfR w B' c0 c1 n xs:=⟨h.name,h.size,h.wraps.mono hb⟩
theorem ArgR.stays:Stays ArgR:=⟨fun h hb=>⟨h.name,h.size,h.val.kept hb⟩,fun h hb=>⟨h.name,h.size,h.val.mono hb⟩⟩
theorem ArgsR.kept {v:Value} {xs:List (ByteArray × VT)} (h:ArgsR w B v xs) (hb:Below B w w'):ArgsR w' B v xs:=Sl.kept ArgR.stays h hb
theorem ArgsR.mono {v:Value} {xs:List (ByteArray × VT)} (h:ArgsR w B v xs) (hb:B<=B'):ArgsR w B' v xs:=Sl.mono ArgR.stays h hb
theorem DirR.stays:Stays DirR:=⟨fun h hb=>⟨h.name,h.size,h.args.kept hb⟩,fun h hb=>⟨h.name,h.size,h.args.mono hb⟩⟩
theorem DirsR.kept {v:Value} {xs:List DirT} (h:DirsR w B v xs) (hb:Below B w w'):DirsR w' B v xs:=Sl.kept DirR.stays h hb
theorem DirsR.mono {v:Value} {xs:List DirT} (h:DirsR w B v xs) (hb:B<=B'):DirsR w B' v xs:=Sl.mono DirR.stays h hb
theorem InpR.stays:Stays InpR:=⟨fun h hb=>⟨h.name,h.size,h.type.kept hb,h.has,h.val.kept hb,h.dirs.kept hb⟩,fun h hb=>⟨h.name,h.size,h.type.mono hb,h.has,h.val.mono hb,h.dirs.mono hb⟩⟩
theorem InpsR.kept {v:Value} {xs:List InpT} (h:InpsR w B v xs) (hb:Below B w w'):InpsR w' B v xs:=Sl.kept InpR.stays h hb
theorem InpsR.mono {v:Value} {xs:List InpT} (h:InpsR w B v xs) (hb:B<=B'):InpsR w B' v xs:=Sl.mono InpR.stays h hb
theorem FldR.stays:Stays FldR:=⟨fun h hb=>⟨h.name,h.size,h.args.kept hb,h.type.kept hb,h.dirs.kept hb⟩,fun h hb=>⟨h.name,h.size,h.args.mono hb,h.type.mono hb,h.dirs.mono hb⟩⟩
theorem FldsR.kept {v:Value} {xs:List FldT} (h:FldsR w B v xs) (hb:Below B w w'):FldsR w' B v xs:=Sl.kept FldR.stays h hb
theorem FldsR.mono {v:Value} {xs:List FldT} (h:FldsR w B v xs) (hb:B<=B'):FldsR w B' v xs:=Sl.mono FldR.stays h hb
theorem MemR.stays:Stays MemR:=⟨fun h hb=>⟨h.name,h.size,h.dirs.kept hb⟩,fun h hb=>⟨h.name,h.size,h.dirs.mono hb⟩⟩
theorem MemsR.kept {v:Value} {xs:List MemT} (h:MemsR w B v xs) (hb:Below B w w'):MemsR w' B v xs:=Sl.kept MemR.stays h hb
theorem MemsR.mono {v:Value} {xs:List MemT} (h:MemsR w B v xs) (hb:B<=B'):MemsR w B' v xs:=Sl.mono MemR.stays h hb
theorem DefR.stays:Stays DefR:=⟨fun h hb=>⟨h.kind,h.small,h.name,h.size,h.impl.kept hb,h.dirs.kept hb,h.fields.kept hb,h.members.kept hb,h.inputs.kept hb⟩,fun h hb=>⟨h.kind,h.small,h.name,h.size,h.impl.mono hb,h.dirs.mono hb,h.fields.mono hb,h.members.mono hb,h.inputs.mono hb⟩⟩
theorem DefsR.kept {v:Value} {xs:List DefT} (h:DefsR w B v xs) (hb:Below B w w'):DefsR w' B v xs:=Sl.kept DefR.stays h hb
theorem DefsR.mono {v:Value} {xs:List DefT} (h:DefsR w B v xs) (hb:B<=B'):DefsR w B' v xs:=Sl.mono DefR.stays h hb
end
theorem Sl.form {α:Type} {k bytes:Nat} {R:World->Nat->(Nat->Value)->α->Prop} {w:World} {B:Nat} {v:Value} {xs:List α} (h:Sl k bytes R w B v xs):∃ A c,v=.slice A xs.length c/\xs.length<=c/\xs.length*bytes<=big:=by
 obtain ⟨A,c,e,hc,hb,_⟩:=h; exact ⟨A,c,e,hc,hb⟩
theorem Rd.form {w:World} {B:Nat} {c0 c1 c2 c3 c4:Value} {t:VT} (h:Rd w B (.agg #[c0,c1,c2,c3,c4]) t):∃ (k n:Int) (s:ByteArray) (A:Option Addr) (li ci:Nat) (K:Option Addr) (lk ck:Nat),c0=.int .i64 k/\c1=.int .i64 n/\c2=.string s/\c3=.slice A li ci/\c4=.slice K lk ck:=by
 cases h with
 | mk V=>exact ⟨_,_,_,_,_,_,_,_,_,rfl,rfl,rfl,rfl,rfl⟩
theorem zu8 {α:Type} (p : α->Bool) (xs:List α) (f:Nat->Bool) (h:∀ i x,xs[i]?=some x->f i=p x):(decide (∀ i,i<xs.length->f i=true))=xs.all p:=by
 rw [Bool.eq_iff_iff];simp only [decide_eq_true_eq,List.all_eq_true]
 constructor
 ·intro H x hx
  obtain ⟨i,hi,rfl⟩:=List.mem_iff_getElem.1 hx;rw [<- h i _ (List.getElem?_eq_getElem hi)];exact H i hi
 ·intro H i hi
  rw [h i _ (List.getElem?_eq_getElem hi)];exact H _ (List.getElem_mem hi)
theorem zC9 (q:Nat) (A:Option Addr) (len c:Nat) (least most:Int) (V:Nat->Nat->Value) (p:Nat->Bool) (w:World) (hlen:len<=140737488351232)
  (hA:0<len->∃ a,A=some a/\a.block<w.heap.size/\∀ i,i<len->∀ j,j<2->w.cell? (at_ (a.add (i*2)) j)=some (V i j))
  (hS:∀ i,i<len->∃ (s0:ByteArray) (A1:Option Addr) (l1 z1:Nat),V i 0=.string s0/\V i 1=.slice A1 l1 z1)
  (hC:∀ i,i<len->∀ x:World,Below w.heap.size w x->Calls Tryz.prog 142 (#[(.agg #[(V i 0),(V i 1)])]++#[.pointer (some ⟨q,0,none⟩)]) x fun e w'=>e=.returned (.bool (p i))/\Below x.heap.size x w') :
  Calls Tryz.prog 141 #[.slice A len c,.int .i64 least,.int .i64 most,.func (.func 142) #[] #[.pointer (some ⟨q,0,none⟩)]] w fun e w'=>e=.returned (.bool (decide (least<=len)&&decide (len<=most)&&decide (∀ i,i<len->p i=true)))/\Below w.heap.size w w':=by
 have HA:=Lh hA;have HC:=Lh hC;have HS:=Lh hS;obtain ⟨RB,hRB⟩ : ∃ RB,RB=(decide (least<=(len:Int))&&decide ((len:Int)<=most)&&decide (∀ i,i<len->p i=true)):=⟨_,rfl⟩;rw [<- hRB];have hl:(len:Int)<=140737488351232:=by omega
 clear hA hC hS;by_cases h1:(len:Int)<least
 ·have HV:Hid (RB=false):=Lh (by rw [hRB,decide_eq_false (by omega:¬ least<=(len:Int))]; rfl)
  clear hlen hl hRB
  go_enter Tryz.func141, Tryz.ntmps141
  go_wp2_with fail
  go_ret
  exact ⟨by rw [HV.out]; rfl,Below.refl _ _⟩
 ·by_cases h2:(len:Int) > most
  ·have HV:Hid (RB=false):=Lh (by rw [hRB,decide_eq_false (by omega:¬ (len:Int)<=most)]; simp)
   clear hlen hl hRB
   go_enter Tryz.func141, Tryz.ntmps141
   go_wp2_with fail
   go_ret
   exact ⟨by rw [HV.out]; rfl,Below.refl _ _⟩
  ·have HV:Hid (RB=decide (∀ i,i<len->p i=true)):=Lh (by rw [hRB,decide_eq_true (by omega:least<=(len:Int)),decide_eq_true (by omega:(len:Int)<=most)]; rfl)
   go_enter Tryz.func141, Tryz.ntmps141
   go_wp2_with fail
   clear h1 h2 hRB
   go_loopw [23] (fun u wr=>∃ i:Nat,i<=len/\u=.int .i64 i/\Hid ((∀ j,j<i->p j=true)/\Below w.heap.size w wr)) (fun u _=>len-(intOf u).toNat)
   case atStart=>exact ⟨0,Nat.zero_le _,rfl,Lh ⟨fun j hj=>absurd hj (Nat.not_lt_zero _),Below.refl _ _⟩⟩
   case round =>
    obtain ⟨i,hi,rfl,hr⟩:=hrel;by_cases hlt:i<len
    ·have hlt':(i:Int)<len:=by omega
     obtain ⟨a,rfl,ha,hc0⟩:=HA.out (by omega)
     have hc:∀ j,j<2->wr.cell? (at_ (a.add (i*2)) j)=some (V i j):=fun j hj=>(hr.out.2.cell (by rw [zb3,za0]; exact ha)).trans (hc0 i hlt j hj)
     have hs:=hr.out.2.size;have k0:wr.cell? (a.add (i*2))=some (V i 0):=hc 0 (by omega)
     have k1:wr.cell? ⟨(a.add (i*2)).block,(a.add (i*2)).off+1,none⟩=some (V i 1):=hc 1 (by omega)
     obtain ⟨s0,A1,l1,z1,e0,e1⟩:=HS.out i hlt;have HCC:=Lh fun x hx=>HC.out i hlt x (hr.out.2.trans (Below.mono hx hs));clear hc0 hc;rw [e0] at k0 HCC;rw [e1] at k1 HCC;clear e0 e1
     cases hp:p i with
     | true =>
       go_wp2_with fail
       refine (HCC.out _ ((Below.refl _ _).alloc (Nat.le_refl _) _)).mono ?_
       rintro e w1 ⟨rfl,hb⟩;rw [hp];have HB1:=Lh (hr.out.2.trans (Below.mono (((Below.refl _ _).alloc (Nat.le_refl _) _:Below wr.heap.size wr _).trans (Below.mono hb (by simp))) hs))
       have HAL:Hid (∀ j,j<i+1->p j=true):=Lh (fun j hj=>by
        rcases Nat.lt_or_ge j i with h | h
        ·exact hr.out.1 j h
        ·have:j=i:=by omega
         rw [this]; exact hp)
       clear hb;go_wp2_with fail
       go_roundw
       case rel=>exact ⟨i+1,by omega,by simp,Lh ⟨HAL.out,HB1.out⟩⟩
       case measure=>simp [intOf]; omega
     | false =>
       go_wp2_with fail
       refine (HCC.out _ ((Below.refl _ _).alloc (Nat.le_refl _) _)).mono ?_
       rintro e w1 ⟨rfl,hb⟩;rw [hp];have HB1:=Lh (hr.out.2.trans (Below.mono (((Below.refl _ _).alloc (Nat.le_refl _) _:Below wr.heap.size wr _).trans (Below.mono hb (by simp))) hs))
       have HVF:Hid (decide (∀ i,i<len->p i=true)=false):=Lh (decide_eq_false fun h=>by rw [h i hlt] at hp; cases hp)
       clear hb;go_wp2_with fail
       go_ret
       exact ⟨by rw [HV.out,HVF.out]; rfl,HB1.out⟩
    ·have:i=len:=by omega
     subst this;have HVT:Hid (decide (∀ j,j<i->p j=true)=true):=Lh (decide_eq_true hr.out.1);go_wp2_with fail
     go_ret
     exact ⟨by rw [HV.out,HVT.out]; rfl,hr.out.2⟩
theorem zD0 (A:Option Addr) (len c:Nat) (least most:Int) (V:Nat->Nat->Value) (p:Nat->Bool) (w:World) (hlen:len<=140737488351232)
  (hA:0<len->∃ a,A=some a/\a.block<w.heap.size/\∀ i,i<len->∀ j,j<7->w.cell? (at_ (a.add (i*7)) j)=some (V i j))
  (hS:∀ i,i<len->∃ (n0:Int) (s1:ByteArray) (A2:Option Addr) (l2 z2:Nat) (A3:Option Addr) (l3 z3:Nat) (A4:Option Addr) (l4 z4:Nat) (A5:Option Addr) (l5 z5:Nat) (A6:Option Addr) (l6 z6:Nat),V i 0=.int .i64 n0/\V i 1=.string s1/\V i 2=.slice A2 l2 z2/\V i 3=.slice A3 l3 z3/\V i 4=.slice A4 l4 z4/\V i 5=.slice A5 l5 z5/\V i 6=.slice A6 l6 z6)
  (hC:∀ i,i<len->∀ x:World,Below w.heap.size w x->Calls Tryz.prog 22 #[(.agg #[(V i 0),(V i 1),(V i 2),(V i 3),(V i 4),(V i 5),(V i 6)])] x fun e w'=>e=.returned (.bool (p i))/\Below x.heap.size x w') :
  Calls Tryz.prog 21 #[.slice A len c,.int .i64 least,.int .i64 most,.func (.func 22) #[] #[]] w fun e w'=>e=.returned (.bool (decide (least<=len)&&decide (len<=most)&&decide (∀ i,i<len->p i=true)))/\Below w.heap.size w w':=by
 have HA:=Lh hA;have HC:=Lh hC;have HS:=Lh hS;obtain ⟨RB,hRB⟩ : ∃ RB,RB=(decide (least<=(len:Int))&&decide ((len:Int)<=most)&&decide (∀ i,i<len->p i=true)):=⟨_,rfl⟩;rw [<- hRB];have hl:(len:Int)<=140737488351232:=by omega
 clear hA hC hS;by_cases h1:(len:Int)<least
 ·have HV:Hid (RB=false):=Lh (by rw [hRB,decide_eq_false (by omega:¬ least<=(len:Int))]; rfl)
  clear hlen hl hRB
  go_enter Tryz.func21, Tryz.ntmps21
  go_wp2_with fail
  go_ret
  exact ⟨by rw [HV.out]; rfl,Below.refl _ _⟩
 ·by_cases h2:(len:Int) > most
  ·have HV:Hid (RB=false):=Lh (by rw [hRB,decide_eq_false (by omega:¬ (len:Int)<=most)]; simp)
   clear hlen hl hRB
   go_enter Tryz.func21, Tryz.ntmps21
   go_wp2_with fail
   go_ret
   exact ⟨by rw [HV.out]; rfl,Below.refl _ _⟩
  ·have HV:Hid (RB=decide (∀ i,i<len->p i=true)):=Lh (by rw [hRB,decide_eq_true (by omega:least<=(len:Int)),decide_eq_true (by omega:(len:Int)<=most)]; rfl)
   go_enter Tryz.func21, Tryz.ntmps21
   go_wp2_with fail
   clear h1 h2 hRB
   go_loopw [23] (fun u wr=>∃ i:Nat,i<=len/\u=.int .i64 i/\Hid ((∀ j,j<i->p j=true)/\Below w.heap.size w wr)) (fun u _=>len-(intOf u).toNat)
   case atStart=>exact ⟨0,Nat.zero_le _,rfl,Lh ⟨fun j hj=>absurd hj (Nat.not_lt_zero _),Below.refl _ _⟩⟩
   case round =>
    obtain ⟨i,hi,rfl,hr⟩:=hrel;by_cases hlt:i<len
    ·have hlt':(i:Int)<len:=by omega
     obtain ⟨a,rfl,ha,hc0⟩:=HA.out (by omega)
     have hc:∀ j,j<7->wr.cell? (at_ (a.add (i*7)) j)=some (V i j):=fun j hj=>(hr.out.2.cell (by rw [zb3,za0]; exact ha)).trans (hc0 i hlt j hj)
     have hs:=hr.out.2.size;have k0:wr.cell? (a.add (i*7))=some (V i 0):=hc 0 (by omega)
     have k1:wr.cell? ⟨(a.add (i*7)).block,(a.add (i*7)).off+1,none⟩=some (V i 1):=hc 1 (by omega)
     have k2:wr.cell? ⟨(a.add (i*7)).block,(a.add (i*7)).off+2,none⟩=some (V i 2):=hc 2 (by omega)
     have k3:wr.cell? ⟨(a.add (i*7)).block,(a.add (i*7)).off+3,none⟩=some (V i 3):=hc 3 (by omega)
     have k4:wr.cell? ⟨(a.add (i*7)).block,(a.add (i*7)).off+4,none⟩=some (V i 4):=hc 4 (by omega)
     have k5:wr.cell? ⟨(a.add (i*7)).block,(a.add (i*7)).off+5,none⟩=some (V i 5):=hc 5 (by omega)
     have k6:wr.cell? ⟨(a.add (i*7)).block,(a.add (i*7)).off+6,none⟩=some (V i 6):=hc 6 (by omega)
     obtain ⟨n0,s1,A2,l2,z2,A3,l3,z3,A4,l4,z4,A5,l5,z5,A6,l6,z6,e0,e1,e2,e3,e4,e5,e6⟩:=HS.out i hlt;have HCC:=Lh fun x hx=>HC.out i hlt x (hr.out.2.trans (Below.mono hx hs));clear hc0 hc;rw [e0] at k0 HCC;rw [e1] at k1 HCC;rw [e2] at k2 HCC;rw [e3] at k3 HCC;rw [e4] at k4 HCC;rw [e5] at k5 HCC;rw [e6] at k6 HCC;clear e0 e1 e2 e3 e4 e5 e6
     cases hp:p i with
     | true =>
       go_wp2_with fail
       refine (HCC.out _ ((Below.refl _ _).alloc (Nat.le_refl _) _)).mono ?_
       rintro e w1 ⟨rfl,hb⟩;rw [hp];have HB1:=Lh (hr.out.2.trans (Below.mono (((Below.refl _ _).alloc (Nat.le_refl _) _:Below wr.heap.size wr _).trans (Below.mono hb (by simp))) hs))
       have HAL:Hid (∀ j,j<i+1->p j=true):=Lh (fun j hj=>by
        rcases Nat.lt_or_ge j i with h | h
        ·exact hr.out.1 j h
        ·have:j=i:=by omega
         rw [this]; exact hp)
       clear hb;go_wp2_with fail
       go_roundw
       case rel=>exact ⟨i+1,by omega,by simp,Lh ⟨HAL.out,HB1.out⟩⟩
       case measure=>simp [intOf]; omega
     | false =>
       go_wp2_with fail
       refine (HCC.out _ ((Below.refl _ _).alloc (Nat.le_refl _) _)).mono ?_
       rintro e w1 ⟨rfl,hb⟩;rw [hp];have HB1:=Lh (hr.out.2.trans (Below.mono (((Below.refl _ _).alloc (Nat.le_refl _) _:Below wr.heap.size wr _).trans (Below.mono hb (by simp))) hs))
       have HVF:Hid (decide (∀ i,i<len->p i=true)=false):=Lh (decide_eq_false fun h=>by rw [h i hlt] at hp; cases hp)
       clear hb;go_wp2_with fail
       go_ret
       exact ⟨by rw [HV.out,HVF.out]; rfl,HB1.out⟩
    ·have:i=len:=by omega
     subst this;have HVT:Hid (decide (∀ j,j<i->p j=true)=true):=Lh (decide_eq_true hr.out.1);go_wp2_with fail
     go_ret
     exact ⟨by rw [HV.out,HVT.out]; rfl,hr.out.2⟩
theorem zC6 (A:Option Addr) (len c:Nat) (least most:Int) (V:Nat->Nat->Value) (p:Nat->Bool) (w:World) (hlen:len<=140737488351232)
  (hA:0<len->∃ a,A=some a/\a.block<w.heap.size/\∀ i,i<len->∀ j,j<1->w.cell? (at_ (a.add (i)) j)=some (V i j))
  (hS:∀ i,i<len->∃ (s0:ByteArray),V i 0=.string s0)
  (hC:∀ i,i<len->∀ x:World,Below w.heap.size w x->Calls Tryz.prog 39 #[((V i 0))] x fun e w'=>e=.returned (.bool (p i))/\Below x.heap.size x w') :
  Calls Tryz.prog 87 #[.slice A len c,.int .i64 least,.int .i64 most,.func (.func 39) #[] #[]] w fun e w'=>e=.returned (.bool (decide (least<=len)&&decide (len<=most)&&decide (∀ i,i<len->p i=true)))/\Below w.heap.size w w':=by
 have HA:=Lh hA;have HC:=Lh hC;have HS:=Lh hS;obtain ⟨RB,hRB⟩ : ∃ RB,RB=(decide (least<=(len:Int))&&decide ((len:Int)<=most)&&decide (∀ i,i<len->p i=true)):=⟨_,rfl⟩;rw [<- hRB];have hl:(len:Int)<=140737488351232:=by omega
 clear hA hC hS;by_cases h1:(len:Int)<least
 ·have HV:Hid (RB=false):=Lh (by rw [hRB,decide_eq_false (by omega:¬ least<=(len:Int))]; rfl)
  clear hlen hl hRB
  go_enter Tryz.func87, Tryz.ntmps87
  go_wp2_with fail
  go_ret
  exact ⟨by rw [HV.out]; rfl,Below.refl _ _⟩
 ·by_cases h2:(len:Int) > most
  ·have HV:Hid (RB=false):=Lh (by rw [hRB,decide_eq_false (by omega:¬ (len:Int)<=most)]; simp)
   clear hlen hl hRB
   go_enter Tryz.func87, Tryz.ntmps87
   go_wp2_with fail
   go_ret
   exact ⟨by rw [HV.out]; rfl,Below.refl _ _⟩
  ·have HV:Hid (RB=decide (∀ i,i<len->p i=true)):=Lh (by rw [hRB,decide_eq_true (by omega:least<=(len:Int)),decide_eq_true (by omega:(len:Int)<=most)]; rfl)
   go_enter Tryz.func87, Tryz.ntmps87
   go_wp2_with fail
   clear h1 h2 hRB
   go_loopw [23] (fun u wr=>∃ i:Nat,i<=len/\u=.int .i64 i/\Hid ((∀ j,j<i->p j=true)/\Below w.heap.size w wr)) (fun u _=>len-(intOf u).toNat)
   case atStart=>exact ⟨0,Nat.zero_le _,rfl,Lh ⟨fun j hj=>absurd hj (Nat.not_lt_zero _),Below.refl _ _⟩⟩
   case round =>
    obtain ⟨i,hi,rfl,hr⟩:=hrel;by_cases hlt:i<len
    ·have hlt':(i:Int)<len:=by omega
     obtain ⟨a,rfl,ha,hc0⟩:=HA.out (by omega)
     have hc:∀ j,j<1->wr.cell? (at_ (a.add (i)) j)=some (V i j):=fun j hj=>(hr.out.2.cell (by rw [zb3,za0]; exact ha)).trans (hc0 i hlt j hj)
     have hs:=hr.out.2.size;have k0:wr.cell? (a.add (i))=some (V i 0):=hc 0 (by omega)
     obtain ⟨s0,e0⟩:=HS.out i hlt;have HCC:=Lh fun x hx=>HC.out i hlt x (hr.out.2.trans (Below.mono hx hs));clear hc0 hc;rw [e0] at k0 HCC;clear e0
     cases hp:p i with
     | true =>
       go_wp2_with fail
       refine (HCC.out _ (Below.refl _ _)).mono ?_
       rintro e w1 ⟨rfl,hb⟩;rw [hp];have HB1:=Lh (hr.out.2.trans (Below.mono ((Below.refl _ _:Below wr.heap.size wr _).trans (Below.mono hb (by simp))) hs))
       have HAL:Hid (∀ j,j<i+1->p j=true):=Lh (fun j hj=>by
        rcases Nat.lt_or_ge j i with h | h
        ·exact hr.out.1 j h
        ·have:j=i:=by omega
         rw [this]; exact hp)
       clear hb;go_wp2_with fail
       go_roundw
       case rel=>exact ⟨i+1,by omega,by simp,Lh ⟨HAL.out,HB1.out⟩⟩
       case measure=>simp [intOf]; omega
     | false =>
       go_wp2_with fail
       refine (HCC.out _ (Below.refl _ _)).mono ?_
       rintro e w1 ⟨rfl,hb⟩;rw [hp];have HB1:=Lh (hr.out.2.trans (Below.mono ((Below.refl _ _:Below wr.heap.size wr _).trans (Below.mono hb (by simp))) hs))
       have HVF:Hid (decide (∀ i,i<len->p i=true)=false):=Lh (decide_eq_false fun h=>by rw [h i hlt] at hp; cases hp)
       clear hb;go_wp2_with fail
       go_ret
       exact ⟨by rw [HV.out,HVF.out]; rfl,HB1.out⟩
    ·have:i=len:=by omega
     subst this;have HVT:Hid (decide (∀ j,j<i->p j=true)=true):=Lh (decide_eq_true hr.out.1);go_wp2_with fail
     go_ret
     exact ⟨by rw [HV.out,HVT.out]; rfl,hr.out.2⟩
theorem zC8 (A:Option Addr) (len c:Nat) (least most:Int) (V:Nat->Nat->Value) (p:Nat->Bool) (w:World) (hlen:len<=140737488351232)
  (hA:0<len->∃ a,A=some a/\a.block<w.heap.size/\∀ i,i<len->∀ j,j<5->w.cell? (at_ (a.add (i*5)) j)=some (V i j))
  (hS:∀ i,i<len->∃ (s0:ByteArray) (A1:Option Addr) (l1 z1:Nat) (s2:ByteArray) (A3:Option Addr) (l3 z3:Nat) (A4:Option Addr) (l4 z4:Nat),V i 0=.string s0/\V i 1=.slice A1 l1 z1/\V i 2=.string s2/\V i 3=.slice A3 l3 z3/\V i 4=.slice A4 l4 z4)
  (hC:∀ i,i<len->∀ x:World,Below w.heap.size w x->Calls Tryz.prog 89 #[(.agg #[(V i 0),(V i 1),(V i 2),(V i 3),(V i 4)])] x fun e w'=>e=.returned (.bool (p i))/\Below x.heap.size x w') :
  Calls Tryz.prog 88 #[.slice A len c,.int .i64 least,.int .i64 most,.func (.func 89) #[] #[]] w fun e w'=>e=.returned (.bool (decide (least<=len)&&decide (len<=most)&&decide (∀ i,i<len->p i=true)))/\Below w.heap.size w w':=by
 have HA:=Lh hA;have HC:=Lh hC;have HS:=Lh hS;obtain ⟨RB,hRB⟩ : ∃ RB,RB=(decide (least<=(len:Int))&&decide ((len:Int)<=most)&&decide (∀ i,i<len->p i=true)):=⟨_,rfl⟩;rw [<- hRB];have hl:(len:Int)<=140737488351232:=by omega
 clear hA hC hS;by_cases h1:(len:Int)<least
 ·have HV:Hid (RB=false):=Lh (by rw [hRB,decide_eq_false (by omega:¬ least<=(len:Int))]; rfl)
  clear hlen hl hRB
  go_enter Tryz.func88, Tryz.ntmps88
  go_wp2_with fail
  go_ret
  exact ⟨by rw [HV.out]; rfl,Below.refl _ _⟩
 ·by_cases h2:(len:Int) > most
  ·have HV:Hid (RB=false):=Lh (by rw [hRB,decide_eq_false (by omega:¬ (len:Int)<=most)]; simp)
   clear hlen hl hRB
   go_enter Tryz.func88, Tryz.ntmps88
   go_wp2_with fail
   go_ret
   exact ⟨by rw [HV.out]; rfl,Below.refl _ _⟩
  ·have HV:Hid (RB=decide (∀ i,i<len->p i=true)):=Lh (by rw [hRB,decide_eq_true (by omega:least<=(len:Int)),decide_eq_true (by omega:(len:Int)<=most)]; rfl)
   go_enter Tryz.func88, Tryz.ntmps88
   go_wp2_with fail
   clear h1 h2 hRB
   go_loopw [23] (fun u wr=>∃ i:Nat,i<=len/\u=.int .i64 i/\Hid ((∀ j,j<i->p j=true)/\Below w.heap.size w wr)) (fun u _=>len-(intOf u).toNat)
   case atStart=>exact ⟨0,Nat.zero_le _,rfl,Lh ⟨fun j hj=>absurd hj (Nat.not_lt_zero _),Below.refl _ _⟩⟩
   case round =>
    obtain ⟨i,hi,rfl,hr⟩:=hrel;by_cases hlt:i<len
    ·have hlt':(i:Int)<len:=by omega
     obtain ⟨a,rfl,ha,hc0⟩:=HA.out (by omega)
     have hc:∀ j,j<5->wr.cell? (at_ (a.add (i*5)) j)=some (V i j):=fun j hj=>(hr.out.2.cell (by rw [zb3,za0]; exact ha)).trans (hc0 i hlt j hj)
     have hs:=hr.out.2.size;have k0:wr.cell? (a.add (i*5))=some (V i 0):=hc 0 (by omega)
     have k1:wr.cell? ⟨(a.add (i*5)).block,(a.add (i*5)).off+1,none⟩=some (V i 1):=hc 1 (by omega)
     have k2:wr.cell? ⟨(a.add (i*5)).block,(a.add (i*5)).off+2,none⟩=some (V i 2):=hc 2 (by omega)
     have k3:wr.cell? ⟨(a.add (i*5)).block,(a.add (i*5)).off+3,none⟩=some (V i 3):=hc 3 (by omega)
     have k4:wr.cell? ⟨(a.add (i*5)).block,(a.add (i*5)).off+4,none⟩=some (V i 4):=hc 4 (by omega)
     obtain ⟨s0,A1,l1,z1,s2,A3,l3,z3,A4,l4,z4,e0,e1,e2,e3,e4⟩:=HS.out i hlt;have HCC:=Lh fun x hx=>HC.out i hlt x (hr.out.2.trans (Below.mono hx hs));clear hc0 hc;rw [e0] at k0 HCC;rw [e1] at k1 HCC;rw [e2] at k2 HCC;rw [e3] at k3 HCC;rw [e4] at k4 HCC;clear e0 e1 e2 e3 e4
     cases hp:p i with
     | true =>
       go_wp2_with fail
       refine (HCC.out _ ((Below.refl _ _).alloc (Nat.le_refl _) _)).mono ?_
       rintro e w1 ⟨rfl,hb⟩;rw [hp];have HB1:=Lh (hr.out.2.trans (Below.mono (((Below.refl _ _).alloc (Nat.le_refl _) _:Below wr.heap.size wr _).trans (Below.mono hb (by simp))) hs))
       have HAL:Hid (∀ j,j<i+1->p j=true):=Lh (fun j hj=>by
        rcases Nat.lt_or_ge j i with h | h
        ·exact hr.out.1 j h
        ·have:j=i:=by omega
         rw [this]; exact hp)
       clear hb;go_wp2_with fail
       go_roundw
       case rel=>exact ⟨i+1,by omega,by simp,Lh ⟨HAL.out,HB1.out⟩⟩
       case measure=>simp [intOf]; omega
     | false =>
       go_wp2_with fail
       refine (HCC.out _ ((Below.refl _ _).alloc (Nat.le_refl _) _)).mono ?_
       rintro e w1 ⟨rfl,hb⟩;rw [hp];have HB1:=Lh (hr.out.2.trans (Below.mono (((Below.refl _ _).alloc (Nat.le_refl _) _:Below wr.heap.size wr _).trans (Below.mono hb (by simp))) hs))
       have HVF:Hid (decide (∀ i,i<len->p i=true)=false):=Lh (decide_eq_false fun h=>by rw [h i hlt] at hp; cases hp)
       clear hb;go_wp2_with fail
       go_ret
       exact ⟨by rw [HV.out,HVF.out]; rfl,HB1.out⟩
    ·have:i=len:=by omega
     subst this;have HVT:Hid (decide (∀ j,j<i->p j=true)=true):=Lh (decide_eq_true hr.out.1);go_wp2_with fail
     go_ret
     exact ⟨by rw [HV.out,HVT.out]; rfl,hr.out.2⟩
end Go.Proofs.YtfgelheiknmjgaaGreatDoor
