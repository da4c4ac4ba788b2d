
/-
 Texts joined: N3 N1Val N4a N4 NM NV G4p.
-/
import Derived.Test.YtfgelheiknmjgaaGreatDoorZs39
import Derived.Lib.Join
import Derived.Test.YtfgelheiknmjgaaGreatDoorZs6
import Derived.Test.YtfgelheiknmjgaaGreatDoorZs10
namespace Go.Proofs.YtfgelheiknmjgaaGreatDoor
open Go.RowKit
theorem zQ0 (xs:List (List UInt8)) (sep:List UInt8):Lib.join xs sep = jn sep xs:=by
 cases xs with
 | nil => rfl
 | cons x r => rw [Lib.join_cons]; rfl
theorem NamesR.flat {w:World} {B:Nat} {A:Option Addr} {n c:Nat} {xs:List ByteArray} (h:NamesR w B (.slice A n c) xs) (h0:0 < xs.length):n = xs.length ∧ xs.length ≤ c ∧ xs.length ≤ 140737488351232 ∧ ∃ b off,A = some ⟨b,off,none⟩ ∧ b < B ∧ ∀ (j:Nat) x,xs[j]? = some x → w.cell? ⟨b,off + j,none⟩ = some (.string x):=by
 obtain ⟨A',c',e,hc,hb,V,hA,hr⟩:=h
 cases e
 unfold big at hb
 obtain ⟨a,rfl,hab,hx⟩:=hA h0
 obtain ⟨b,off,spot⟩:=a
 have hs:spot = none:=by
  have h1:=hx 0 h0 0 (by omega)
  cases spot with
  | none => rfl
  | some i => simp [at_,Addr.add,World.cell?] at h1; split at h1 <;> simp at h1
 subst hs
 refine ⟨rfl,hc,by omega,b,off,rfl,hab,fun j x hj => ?_⟩
 have h2:=hx j (List.getElem?_eq_some_iff.1 hj).1 0 (by omega)
 rw [Nat.mul_one] at h2
 have h3:w.cell? ((⟨b,off,none⟩ : Addr).add j) = some (V j 0):=h2
 rw [Addr.add_mid,(hr j x hj).1] at h3
 exact h3
set_option maxRecDepth 100000 in
set_option maxHeartbeats 2000000 in
theorem zb2 (B b:Nat) (hO:ValOk B b) (xs:List DirT) (hf:zg6 xs) (v:Value) (w:World) (h:DirsR w B v xs):ze4 B b w 131 v (zb5 xs):=by
 intro l hp hL hl hB
 obtain ⟨A1,c1,rfl,_,_⟩:=h.form
 obtain ⟨n0,hn0⟩ : ∃ n0,xs.length = n0:=⟨_,rfl⟩
 rw [hn0] at h ⊢
 have HV0:=Lib.hid h
 have HO:=Lib.hid hO
 have HF:=Lib.hid hf
 unfold zb5 zy0 at hl ⊢
 rw [hn0] at hl ⊢
 clear h hO hf hn0
 have HW0:Hid (Wr B b w w):=Lib.hid (Wr.refl B b w)
 have HP0:=Lib.hid hp
 have HL:=Lib.hid hL
 have HLL:=Lib.hid hl
 have HBB:=Lib.hid hB
 have hbw:=hp.lt
 clear hL hl hB hp
 by_cases h0:n0 = 0
 ·subst h0
  rw [if_pos rfl] at HLL ⊢
  go_enter Tryz.func131, Tryz.ntmps131
  go_wp2_with fail
  go_end0
  exact ⟨rfl,by have h1:=HP0.out; (try simp only [List.append_assoc] at h1); (try simp only [List.append_nil] at h1); (try simp only [List.append_assoc]); (try simp only [List.append_nil]); exact h1,HW0.out⟩
 ·have h0':(n0:Int) > 0:=by omega
  rw [if_neg h0] at HLL ⊢
  clear h0
  go_enter Tryz.func131, Tryz.ntmps131
  go_wp2_with fail
  refine (put1 _ B b _ _ _ (by simp) HP0.out (by have h1:=HLL.out; (try simp only [za6] at h1 ⊢); (try simp only [List.length_append] at h1 ⊢); (try simp only [List.length_cons] at h1 ⊢); (try simp only [List.length_append] at h1 ⊢); (try simp only [List.length_nil] at h1 ⊢); (try simp only [za4] at h1 ⊢); (try simp only [za2] at h1 ⊢); (try simp only [List.length_cons] at h1 ⊢); (try simp only [List.length_nil] at h1 ⊢); omega) (Nat.le_trans HBB.out HW0.out.below.size)).mono ?_
  rintro e w1 ⟨rfl,hp,hw⟩
  have HP1:=Lib.hid hp
  have HW1:=Lib.hid (HW0.out.trans hw)
  have HV1:=Lib.hid (DirsR.kept HV0.out hw.below)
  clear hp hw
  go_wp2_with fail
  refine (zJ3 B b xs zr2 (fun y hy f W hR => zy2 B b HO.out y (HF.out y hy) f W hR) _ _ _ _ HV1.out HP1.out (HL.out.kept HW1.out.below) (by have h1:=HLL.out; (try simp only [za6] at h1 ⊢); (try simp only [List.length_append] at h1 ⊢); (try simp only [List.length_cons] at h1 ⊢); (try simp only [List.length_append] at h1 ⊢); (try simp only [List.length_nil] at h1 ⊢); (try simp only [za4] at h1 ⊢); (try simp only [za2] at h1 ⊢); (try simp only [List.length_cons] at h1 ⊢); (try simp only [List.length_nil] at h1 ⊢); omega) (Nat.le_trans HBB.out HW1.out.below.size)).mono ?_
  rintro e w2 ⟨rfl,hp,hw⟩
  have HP2:=Lib.hid hp
  have HW2:=Lib.hid (HW1.out.trans hw)
  have HV2:=Lib.hid (DirsR.kept HV1.out hw.below)
  clear hp hw
  go_wp2_with fail
  go_end0
  exact ⟨rfl,by have h1:=HP2.out; (try simp only [List.append_assoc] at h1); (try simp only [List.append_nil] at h1); (try simp only [List.append_assoc]); (try simp only [List.append_nil]); exact h1,HW2.out⟩
set_option maxRecDepth 100000 in
set_option maxHeartbeats 2000000 in
theorem zv8 (B b:Nat) (hO:ValOk B b) (x:MemT) (hf:zg6 x.dirs) (f:Nat → Value) (w:World) (h:MemR w B f x):ze4 B b w 67 (.agg #[f 0,f 1]) (zf4 x):=by
 intro l hp hL hl hB
 obtain ⟨A1,c1,e1,_,_⟩:=h.dirs.form
 have hv:=h.dirs
 rw [h.name,e1]
 rw [e1] at hv
 clear e1 h
 generalize x.dirs.length = n0 at hv ⊢
 have HV0:=Lib.hid (hv.kept (za0 w (.cells #[.string x.name,.slice A1 n0 c1] 48 (0,0)) |>.mono hB))
 have HO:=Lib.hid hO
 have HF:=Lib.hid hf
 unfold zf4 at hl ⊢
 clear hv hO hf
 have HW0:Hid (Wr B b w (w.alloc (.cells #[.string x.name,.slice A1 n0 c1] 48 (0,0)))):=Lib.hid ((Wr.refl B b w).alloc hB _)
 have HP0:=Lib.hid (hp.alloc (.cells #[.string x.name,.slice A1 n0 c1] 48 (0,0)))
 have HK0:=Lib.hid (Bk.new w #[.string x.name,.slice A1 n0 c1] 48)
 have HL:=Lib.hid hL
 have HLL:=Lib.hid hl
 have HBB:=Lib.hid hB
 have hbw:=hp.lt
 clear hL hl hB hp
 go_enter Tryz.func67, Tryz.ntmps67
 have y0:=HK0.out.cell 0 _ rfl
 have y1:=HK0.out.cell 1 _ rfl
 go_wp2_with fail
 refine (put1 _ B b _ _ _ (by simp) HP0.out (by have h1:=HLL.out; (try simp only [za6] at h1 ⊢); (try simp only [List.length_append] at h1 ⊢); (try simp only [List.length_cons] at h1 ⊢); (try simp only [List.length_append] at h1 ⊢); (try simp only [List.length_nil] at h1 ⊢); (try simp only [za4] at h1 ⊢); (try simp only [za2] at h1 ⊢); (try simp only [List.length_cons] at h1 ⊢); (try simp only [List.length_nil] at h1 ⊢); omega) (Nat.le_trans HBB.out HW0.out.below.size)).mono ?_
 rintro e w1 ⟨rfl,hp,hw⟩
 have HP1:=Lib.hid hp
 have HW1:=Lib.hid (HW0.out.trans hw)
 have HK1:=Lib.hid (HK0.out.wr hw (by omega) (by decide))
 have HV1:=Lib.hid (DirsR.kept HV0.out hw.below)
 clear hp hw
 clear y0 y1
 have y0:=HK1.out.cell 0 _ rfl
 have y1:=HK1.out.cell 1 _ rfl
 go_wp2_with fail
 refine (zb2 B b HO.out x.dirs HF.out _ _ HV1.out _ HP1.out (HL.out.kept HW1.out.below) (by have h1:=HLL.out; (try simp only [za6] at h1 ⊢); (try simp only [List.length_append] at h1 ⊢); (try simp only [List.length_cons] at h1 ⊢); (try simp only [List.length_append] at h1 ⊢); (try simp only [List.length_nil] at h1 ⊢); (try simp only [za4] at h1 ⊢); (try simp only [za2] at h1 ⊢); (try simp only [List.length_cons] at h1 ⊢); (try simp only [List.length_nil] at h1 ⊢); omega) (Nat.le_trans HBB.out HW1.out.below.size)).mono ?_
 rintro e w2 ⟨rfl,hp,hw⟩
 have HP2:=Lib.hid hp
 have HW2:=Lib.hid (HW1.out.trans hw)
 have HK2:=Lib.hid (HK1.out.wr hw (by omega) (by decide))
 have HV2:=Lib.hid (DirsR.kept HV1.out hw.below)
 clear hp hw
 clear y0 y1
 have y0:=HK2.out.cell 0 _ rfl
 have y1:=HK2.out.cell 1 _ rfl
 go_wp2_with fail
 go_end0
 exact ⟨rfl,by have h1:=HP2.out; (try simp only [List.append_assoc] at h1); (try simp only [List.append_nil] at h1); (try simp only [List.append_assoc]); (try simp only [List.append_nil]); exact h1,HW2.out⟩
def Prints2 (B b:Nat) (W:World) (F:Nat) (v u:Value) (a:List UInt8):Prop:=∀ l,PB B b l W → LaidB B W → l.length + a.length ≤ 140737488355328 → B ≤ W.heap.size → Calls Tryz.prog F #[pp b,v,u] W (PP B b l a W)
set_option maxRecDepth 100000 in
set_option maxHeartbeats 2000000 in
theorem zL4 (B b:Nat) (hO:ValOk B b) (ds:List DirT) (hf:zg6 ds) (xs:List MemT) (hg:∀ x ∈ xs,zg6 x.dirs) (v u:Value) (w:World) (h:DirsR w B v ds) (hm:MemsR w B u xs):Prints2 B b w 65 v u (zz3 ds xs):=by
 intro l hp hL hl hB
 have HV0:=Lib.hid h
 have HM0:=Lib.hid hm
 have HO:=Lib.hid hO
 have HF:=Lib.hid hf
 have HG:=Lib.hid hg
 unfold zz3 at hl ⊢
 clear h hm hO hf hg
 have HW0:Hid (Wr B b w w):=Lib.hid (Wr.refl B b w)
 have HP0:=Lib.hid hp
 have HL:=Lib.hid hL
 have HLL:=Lib.hid hl
 have HBB:=Lib.hid hB
 have hbw:=hp.lt
 clear hL hl hB hp
 go_enter Tryz.func65, Tryz.ntmps65
 go_wp2_with fail
 refine (zb2 B b HO.out ds HF.out _ _ HV0.out _ HP0.out (HL.out.kept HW0.out.below) (by have h1:=HLL.out; (try simp only [za6] at h1 ⊢); (try simp only [List.length_append] at h1 ⊢); (try simp only [List.length_cons] at h1 ⊢); (try simp only [List.length_append] at h1 ⊢); (try simp only [List.length_nil] at h1 ⊢); (try simp only [za4] at h1 ⊢); (try simp only [za2] at h1 ⊢); (try simp only [List.length_cons] at h1 ⊢); (try simp only [List.length_nil] at h1 ⊢); omega) (Nat.le_trans HBB.out HW0.out.below.size)).mono ?_
 rintro e w1 ⟨rfl,hp,hw⟩
 have HP1:=Lib.hid hp
 have HW1:=Lib.hid (HW0.out.trans hw)
 have HV1:=Lib.hid (DirsR.kept HV0.out hw.below)
 have HM1:=Lib.hid (MemsR.kept HM0.out hw.below)
 clear hp hw
 go_wp2_with fail
 refine (put1 _ B b _ _ _ (by simp) HP1.out (by have h1:=HLL.out; (try simp only [za6] at h1 ⊢); (try simp only [List.length_append] at h1 ⊢); (try simp only [List.length_cons] at h1 ⊢); (try simp only [List.length_append] at h1 ⊢); (try simp only [List.length_nil] at h1 ⊢); (try simp only [za4] at h1 ⊢); (try simp only [za2] at h1 ⊢); (try simp only [List.length_cons] at h1 ⊢); (try simp only [List.length_nil] at h1 ⊢); omega) (Nat.le_trans HBB.out HW1.out.below.size)).mono ?_
 rintro e w2 ⟨rfl,hp,hw⟩
 have HP2:=Lib.hid hp
 have HW2:=Lib.hid (HW1.out.trans hw)
 have HV2:=Lib.hid (DirsR.kept HV1.out hw.below)
 have HM2:=Lib.hid (MemsR.kept HM1.out hw.below)
 clear hp hw
 go_wp2_with fail
 refine (zJ1 B b xs zf4 (fun y hy f W hR => zv8 B b HO.out y (HG.out y hy) f W hR) _ _ _ _ HM2.out HP2.out (HL.out.kept HW2.out.below) (by have h1:=HLL.out; (try simp only [za6] at h1 ⊢); (try simp only [List.length_append] at h1 ⊢); (try simp only [List.length_cons] at h1 ⊢); (try simp only [List.length_append] at h1 ⊢); (try simp only [List.length_nil] at h1 ⊢); (try simp only [za4] at h1 ⊢); (try simp only [za2] at h1 ⊢); (try simp only [List.length_cons] at h1 ⊢); (try simp only [List.length_nil] at h1 ⊢); omega) (Nat.le_trans HBB.out HW2.out.below.size)).mono ?_
 rintro e w3 ⟨rfl,hp,hw⟩
 have HP3:=Lib.hid hp
 have HW3:=Lib.hid (HW2.out.trans hw)
 have HV3:=Lib.hid (DirsR.kept HV2.out hw.below)
 have HM3:=Lib.hid (MemsR.kept HM2.out hw.below)
 clear hp hw
 go_wp2_with fail
 refine (put1 _ B b _ _ _ (by simp) HP3.out (by have h1:=HLL.out; (try simp only [za6] at h1 ⊢); (try simp only [List.length_append] at h1 ⊢); (try simp only [List.length_cons] at h1 ⊢); (try simp only [List.length_append] at h1 ⊢); (try simp only [List.length_nil] at h1 ⊢); (try simp only [za4] at h1 ⊢); (try simp only [za2] at h1 ⊢); (try simp only [List.length_cons] at h1 ⊢); (try simp only [List.length_nil] at h1 ⊢); omega) (Nat.le_trans HBB.out HW3.out.below.size)).mono ?_
 rintro e w4 ⟨rfl,hp,hw⟩
 have HP4:=Lib.hid hp
 have HW4:=Lib.hid (HW3.out.trans hw)
 have HV4:=Lib.hid (DirsR.kept HV3.out hw.below)
 have HM4:=Lib.hid (MemsR.kept HM3.out hw.below)
 clear hp hw
 go_wp2_with fail
 go_end0
 exact ⟨rfl,by have h1:=HP4.out; (try simp only [List.append_assoc] at h1); (try simp only [List.append_nil] at h1); (try simp only [List.append_assoc]); (try simp only [List.append_nil]); exact h1,HW4.out⟩
theorem Wr.of {B b:Nat} {w w':World} (hB:B ≤ w.heap.size) (h:Below w.heap.size w w'):Wr B b w w' :=
 ⟨h.mono hB,fun k o hk _ _ => (h.block k (by
  rcases Nat.lt_or_ge k w.heap.size with h' | h'
  ·exact h'
  ·rw [Array.getElem?_eq_none h'] at hk; cases hk)).trans hk⟩
set_option maxRecDepth 100000 in
set_option maxHeartbeats 2000000 in
theorem zu7 (B b:Nat) (xs:List ByteArray) (v:Value) (w:World) (h:NamesR w B v xs):ze4 B b w 62 v (zm1 xs):=by
 intro l hp hL hl hB
 obtain ⟨A1,c1,rfl,_,_⟩:=h.form
 unfold zm1 at hl ⊢
 by_cases h0:xs.length = 0
 ·rw [if_pos h0] at hl ⊢
  rw [h0]
  clear h h0
  have HW0:Hid (Wr B b w w):=Lib.hid (Wr.refl B b w)
  have HP0:=Lib.hid hp
  have HL:=Lib.hid hL
  have HLL:=Lib.hid hl
  have HBB:=Lib.hid hB
  have hbw:=hp.lt
  clear hL hl hB hp
  go_enter Tryz.func62, Tryz.ntmps62
  go_wp2_with fail
  go_end0
  exact ⟨rfl,by have h1:=HP0.out; (try simp only [List.append_assoc] at h1); (try simp only [List.append_nil] at h1); (try simp only [List.append_assoc]); (try simp only [List.append_nil]); exact h1,HW0.out⟩
 ·rw [if_neg h0] at hl ⊢
  obtain ⟨_,hc,hz,bk,off,rfl,hbk,hcs⟩:=h.flat (by omega)
  have hj:=Tryz.strings_Join bk off c1 xs ⟨#[32,38,32]⟩ w hcs (by omega) (by omega) hc (by
   rw [zQ0]; simp only [List.length_append] at hl
   have:jn [32,38,32] (xs.map bL) = jn (⟨#[32,38,32]⟩ : ByteArray).data.toList (xs.map (·.data.toList)):=rfl
   rw [← this]; omega)
  rw [zQ0,show jn (⟨#[32,38,32]⟩ : ByteArray).data.toList (xs.map (·.data.toList)) = jn [32,38,32] (xs.map bL) from rfl] at hj
  have HJ:=Lib.hid hj
  obtain ⟨n0,hn0⟩ : ∃ n0,xs.length = n0:=⟨_,rfl⟩
  rw [hn0] at h0 HJ hz ⊢
  have h0':(n0:Int) > 0:=by omega
  generalize jn [32,38,32] (xs.map bL) = J at HJ hl ⊢
  clear h hcs hj hn0 h0
  have HW0:Hid (Wr B b w w):=Lib.hid (Wr.refl B b w)
  have HP0:=Lib.hid hp
  have HL:=Lib.hid hL
  have HLL:=Lib.hid hl
  have HBB:=Lib.hid hB
  have hbw:=hp.lt
  clear hL hl hB hp
  go_enter Tryz.func62, Tryz.ntmps62
  go_wp2_with fail
  refine HJ.out.mono ?_
  rintro e w1 ⟨rfl,hb1⟩
  have HP1:=Lib.hid (HP0.out.kept hb1)
  have HW1:Hid (Wr B b w w1):=Lib.hid (Wr.of HBB.out hb1)
  clear hb1
  go_wp2_with fail
  refine (put2 _ _ B b _ _ _ (by simp) HP1.out (by have h1:=HLL.out; (try simp only [za6] at h1 ⊢); (try simp only [List.length_append] at h1 ⊢); (try simp only [List.length_cons] at h1 ⊢); (try simp only [List.length_append] at h1 ⊢); (try simp only [List.length_nil] at h1 ⊢); (try simp only [za4] at h1 ⊢); (try simp only [za2] at h1 ⊢); (try simp only [List.length_cons] at h1 ⊢); (try simp only [List.length_nil] at h1 ⊢); omega) (Nat.le_trans HBB.out HW1.out.below.size)).mono ?_
  rintro e w2 ⟨rfl,hp,hw⟩
  have HP2:=Lib.hid hp
  have HW2:=Lib.hid (HW1.out.trans hw)
  clear hp hw
  go_wp2_with fail
  go_end0
  exact ⟨rfl,by have h1:=HP2.out; (try simp only [List.append_assoc] at h1); (try simp only [List.append_nil] at h1); (try simp only [List.append_assoc]); (try simp only [List.append_nil]); exact h1,HW2.out⟩
end Go.Proofs.YtfgelheiknmjgaaGreatDoor
namespace Go.Proofs.YtfgelheiknmjgaaGreatDoor
open Go.RowKit
set_option maxRecDepth 100000 in
set_option maxHeartbeats 2000000 in
theorem zJ0 (B b:Nat) (xs:List VT) (tx:VT → List UInt8) (hF:∀ x ∈ xs, ∀ (f:Nat → Value) (W:World),ValR W B f x → ze4 B b W 60 (.agg #[f 0,f 1,f 2,f 3,f 4]) (tx x))
  (sep:ByteArray) (v:Value) (l:List UInt8) (w:World) (h:ValsR w B v xs) (hp:PB B b l w) (hL:LaidB B w) (hl:l.length + (jn (bL sep) (xs.map tx)).length ≤ 140737488355328) (hB:B ≤ w.heap.size) :
  Calls Tryz.prog 127 #[pp b,v,.string sep,.func (.func 60) #[pp b] #[]] w (PP B b l (jn (bL sep) (xs.map tx)) w):=by
 obtain ⟨A,c,rfl,hc,hbg,V,hA,hr⟩:=h
 unfold big at hbg
 obtain ⟨len,hlen⟩ : ∃ len,xs.length = len:=⟨_,rfl⟩
 rw [hlen] at hA hbg ⊢
 have hlm:(len:Int) ≤ 140737488351232:=by omega
 have HLEN:=Lib.hid hlen
 have HF:=Lib.hid hF
 have HA:=Lib.hid hA
 have HR:=Lib.hid hr
 have HP:=Lib.hid hp
 have HL:=Lib.hid hL
 have HLL:=Lib.hid hl
 have HBB:=Lib.hid hB
 clear hlen hF hA hr hp hL hl hc hbg
 go_enter Tryz.func127, Tryz.ntmps127
 go_wp2_with fail
 go_loopw [12] (fun u wr => ∃ i:Nat,i ≤ len ∧ u = .int .i64 i ∧ Hid (PB B b (l ++ jn (bL sep) ((xs.take i).map tx)) wr ∧ Wr B b w wr)) (fun u _ => len - (intOf u).toNat)
 case atStart => exact ⟨0,Nat.zero_le _,rfl,Lib.hid ⟨by simpa [jn] using HP.out,Wr.refl _ _ _⟩⟩
 case round =>
  obtain ⟨i,hi,rfl,hr⟩:=hrel
  by_cases hlt:i < len
  ·obtain ⟨x,hxi⟩ : ∃ x,xs[i]? = some x:=⟨_,List.getElem?_eq_getElem (by rw [HLEN.out]; exact hlt)⟩
   have hlt':(i:Int) < len:=by omega
   have HXI:=Lib.hid hxi
   have hx:ValR wr B (V i) x:=ValR.stays.kept (HR.out i x hxi) hr.out.2.below
   have HF1:=Lib.hid (HF.out x (List.mem_of_getElem? hxi))
   obtain ⟨a,rfl,ha,hc0⟩:=HA.out (by omega)
   have hcc:∀ j,j < 5 → wr.cell? (at_ (a.add (i * 5)) j) = some (V i j):=fun j hj => (hr.out.2.below.cell (by rw [za7,za1]; exact ha)).trans (hc0 i hlt j hj)
   have k0:wr.cell? (a.add (i * 5)) = some (V i 0):=hcc 0 (by omega)
   have k1:wr.cell? ⟨((a.add (i * 5))).block,((a.add (i * 5))).off + 1,none⟩ = some (V i 1):=hcc 1 (by omega)
   have k2:wr.cell? ⟨((a.add (i * 5))).block,((a.add (i * 5))).off + 2,none⟩ = some (V i 2):=hcc 2 (by omega)
   have k3:wr.cell? ⟨((a.add (i * 5))).block,((a.add (i * 5))).off + 3,none⟩ = some (V i 3):=hcc 3 (by omega)
   have k4:wr.cell? ⟨((a.add (i * 5))).block,((a.add (i * 5))).off + 4,none⟩ = some (V i 4):=hcc 4 (by omega)
   obtain ⟨k,n,s,VA,vli,vci,VK,vlk,vck,e0,e1,e2,e3,e4⟩:=Rd.form hx
   rw [e0] at k0
   rw [e1] at k1
   rw [e2] at k2
   rw [e3] at k3
   rw [e4] at k4
   have HX:=Lib.hid hx
   have HE:Hid (#[V i 0,V i 1,V i 2,V i 3,V i 4] = #[.int .i64 k,.int .i64 n,.string s,.slice VA vli vci,.slice VK vlk vck]):=Lib.hid (by rw [e0,e1,e2,e3,e4])
   clear hc0 hcc hx hxi e0 e1 e2 e3 e4
   have hsz:=hr.out.2.below.size
   have HT:Hid ((xs.map tx)[i]? = some (tx x)):=Lib.hid (by rw [List.getElem?_map,HXI.out]; rfl)
   have HST:=Lib.hid (ze8 (bL sep) HT.out)
   have HTK:Hid (jn (bL sep) ((xs.take (i + 1)).map tx) = jn (bL sep) ((xs.take i).map tx) ++ ((if i = 0 then [] else bL sep) ++ tx x)):=Lib.hid (by
    rw [List.map_take,List.map_take]; exact zl0 (bL sep) HT.out)
   have HMT:Hid ((xs.map tx).take i = (xs.take i).map tx):=Lib.hid (by rw [List.map_take])
   have HB1:Hid (Wr B b w (wr.alloc (.cells #[.int .i64 k,.int .i64 n,.string s,.slice VA vli vci,.slice VK vlk vck] 53 (0,0)))):=Lib.hid (hr.out.2.alloc HBB.out _)
   have HX1:Hid (ValR (wr.alloc (.cells #[.int .i64 k,.int .i64 n,.string s,.slice VA vli vci,.slice VK vlk vck] 53 (0,0))) B (V i) x):=Lib.hid (ValR.stays.kept HX.out ((Below.refl B wr).alloc (by omega) _))
   have HP1:=Lib.hid (hr.out.1.alloc (.cells #[.int .i64 k,.int .i64 n,.string s,.slice VA vli vci,.slice VK vlk vck] 53 (0,0)))
   have HK1:=Lib.hid (Bk.new wr #[.int .i64 k,.int .i64 n,.string s,.slice VA vli vci,.slice VK vlk vck] 53)
   have hbw:=hr.out.1.lt
   by_cases hi0:i = 0
   ·have hi0':¬ (i:Int) > 0:=by omega
    have HI0:=Lib.hid hi0
    have CALL:=Lib.hid (HF1.out (V i) _ HX1.out _ HP1.out (HL.out.kept HB1.out.below) (by
     have h1:=HST.out; rw [HMT.out,if_pos HI0.out] at h1; have h2:=HLL.out; simp only [List.length_append,List.length_nil] at h1 ⊢; omega) (Nat.le_trans HBB.out HB1.out.below.size))
    rw [HE.out] at CALL
    clear hi0
    go_wp2_with fail
    refine CALL.out.mono ?_
    rintro e w5 ⟨rfl,hp5,hw5⟩
    have HP5:Hid (PB B b (l ++ jn (bL sep) ((xs.take (i + 1)).map tx)) w5):=Lib.hid (by rw [HTK.out,if_pos HI0.out,List.nil_append, ← List.append_assoc]; exact hp5)
    have HW5:=Lib.hid (HB1.out.trans hw5)
    clear hp5 hw5 CALL
    go_wp2_with fail
    go_roundw
    case rel => exact ⟨i + 1,by omega,by go_num,Lib.hid ⟨HP5.out,HW5.out⟩⟩
    case measure => simp [intOf]; omega
   ·have hi0':(i:Int) > 0:=by omega
    have HI0:=Lib.hid hi0
    clear hi0
    go_wp2_with fail
    refine (put1 sep B b _ _ _ (by simp) HP1.out (by
     have h1:=HST.out; rw [HMT.out,if_neg HI0.out] at h1; have h2:=HLL.out; simp only [List.length_append,za4] at h1 h2 ⊢; omega) (Nat.le_trans HBB.out HB1.out.below.size)).mono ?_
    rintro e w4 ⟨rfl,hp4,hw4⟩
    have HP4:=Lib.hid hp4
    have HW4:=Lib.hid (HB1.out.trans hw4)
    have HX4:Hid (ValR w4 B (V i) x):=Lib.hid (ValR.stays.kept HX1.out hw4.below)
    have hK4:Bk w4 wr.heap.size #[.int .i64 k,.int .i64 n,.string s,.slice VA vli vci,.slice VK vlk vck] 53 := HK1.out.wr hw4 (by omega) (by decide)
    have y0:=hK4.cell 0 _ rfl
    have y1:=hK4.cell 1 _ rfl
    have y2:=hK4.cell 2 _ rfl
    have y3:=hK4.cell 3 _ rfl
    have y4:=hK4.cell 4 _ rfl
    clear hp4 hw4 hK4 k0 k1 k2 k3 k4
    have CALL:=Lib.hid (HF1.out (V i) _ HX4.out _ HP4.out (HL.out.kept HW4.out.below) (by
     have h1:=HST.out; rw [HMT.out,if_neg HI0.out] at h1; have h2:=HLL.out; simp only [List.length_append] at h1 ⊢; omega) (Nat.le_trans HBB.out HW4.out.below.size))
    rw [HE.out] at CALL
    go_wp2_with fail
    refine CALL.out.mono ?_
    rintro e w5 ⟨rfl,hp5,hw5⟩
    have HP5:Hid (PB B b (l ++ jn (bL sep) ((xs.take (i + 1)).map tx)) w5):=Lib.hid (by rw [HTK.out,if_neg HI0.out]; simpa only [List.append_assoc] using hp5)
    have HW5:=Lib.hid (HW4.out.trans hw5)
    clear hp5 hw5 CALL y0 y1 y2 y3 y4
    go_wp2_with fail
    go_roundw
    case rel => exact ⟨i + 1,by omega,by go_num,Lib.hid ⟨HP5.out,HW5.out⟩⟩
    case measure => simp [intOf]; omega
  ·have:i = len:=by omega
   subst this
   have HF:Hid (PB B b (l ++ jn (bL sep) (xs.map tx)) wr):=Lib.hid (by have:=hr.out.1; rwa [List.take_of_length_le (by rw [HLEN.out]; exact Nat.le_refl _)] at this)
   go_wp2_with fail
   go_end0
   exact ⟨rfl,HF.out,hr.out.2⟩
end Go.Proofs.YtfgelheiknmjgaaGreatDoor
namespace Go.Proofs.YtfgelheiknmjgaaGreatDoor
open Go.RowKit
def cellAt (v:Value) (j:Nat):Value:=match v with | .agg cs => cs.getD j undef | _ => undef
theorem Rd.vals {w:World} {B:Nat} {k n:Int} {s:ByteArray} {A:Option Addr} {li ci:Nat} {K:Option Addr} {lk ck:Nat} {items:List VT} {keys:List ByteArray}
  (h:Rd w B (.agg #[.int .i64 k,.int .i64 n,.string s,.slice A li ci,.slice K lk ck]) (.mk k n s items keys)):ValsR w B (.slice A li ci) items:=by
 cases h with
 | @mk _ _ _ _ _ _ _ _ _ _ _ V hk hn hs hks hli hlk hbi hbk hA hr hK =>
 subst hli
 have hv:∀ i,i < items.length → ∃ d0 d1 d2 d3 d4,V i = .agg #[d0,d1,d2,d3,d4]:=fun i hi => by
  obtain ⟨a,_,_,hc⟩:=hA (by omega)
  obtain ⟨d0,d1,d2,d3,d4,e,_⟩:=hc i hi
  exact ⟨d0,d1,d2,d3,d4,e⟩
 refine ⟨A,ci,rfl,trivial,by unfold big; omega,fun i j => cellAt (V i) j,fun h0 => ?_,fun i x hx => ?_⟩
 ·obtain ⟨a,e,ha,hc⟩:=hA h0
  refine ⟨a,e,ha,fun i hi j hj => ?_⟩
  obtain ⟨d0,d1,d2,d3,d4,e,q0,q1,q2,q3,q4⟩:=hc i hi
  show _ = some (cellAt (V i) j)
  rw [e]
  match j,hj with
  | 0,_ => exact q0
  | 1,_ => exact q1
  | 2,_ => exact q2
  | 3,_ => exact q3
  | 4,_ => exact q4
 ·obtain ⟨d0,d1,d2,d3,d4,e⟩:=hv i (List.getElem?_eq_some_iff.1 hx).1
  have h1:=hr i x hx
  show Rd w B (.agg #[cellAt (V i) 0,cellAt (V i) 1,cellAt (V i) 2,cellAt (V i) 3,cellAt (V i) 4]) x
  rw [e] at h1 ⊢
  exact h1
end Go.Proofs.YtfgelheiknmjgaaGreatDoor
namespace Go.Proofs.YtfgelheiknmjgaaGreatDoor
open Go.RowKit
theorem Rd.keysOf {w:World} {B:Nat} {k n:Int} {s:ByteArray} {A:Option Addr} {li ci:Nat} {K:Option Addr} {lk ck:Nat} {items:List VT} {keys:List ByteArray}
  (h:Rd w B (.agg #[.int .i64 k,.int .i64 n,.string s,.slice A li ci,.slice K lk ck]) (.mk k n s items keys)):keys.length = lk ∧ items.length = li ∧ li * 80 ≤ 140737488351232 ∧ lk * 16 ≤ 140737488351232 ∧ lk ≤ ck ∧ KeysAt w B K keys:=by
 cases h with
 | @mk _ _ _ _ _ _ _ _ _ _ _ V hk hn hs hks hli hlk hbi hbk hA hr hK => exact ⟨hlk,hli,hbi,hbk.1,hbk.2,hK⟩
set_option maxRecDepth 100000 in
set_option maxHeartbeats 2000000 in
theorem zE7 (B b:Nat) (k n:Int) (s:ByteArray) (items:List VT) (keys:List ByteArray) (hkl:keys.length = items.length)
  (ih:∀ (i:Nat) (t:VT),items[i]? = some t → ∀ (f:Nat → Value) (W:World),ValR W B f t → ze4 B b W 60 (.agg #[f 0,f 1,f 2,f 3,f 4]) t.src)
  (A:Option Addr) (li ci:Nat) (K:Option Addr) (lk ck:Nat) (w:World) (h:Rd w B (.agg #[.int .i64 k,.int .i64 n,.string s,.slice A li ci,.slice K lk ck]) (.mk k n s items keys)) :
  ze4 B b w 128 (.agg #[.int .i64 k,.int .i64 n,.string s,.slice A li ci,.slice K lk ck]) (123 :: (jn [44,32] (zf0 keys items) ++ [125])):=by
 intro l hp hL hl hB
 obtain ⟨hlk,hli,hbi,hbk,hck,hK⟩:=h.keysOf
 obtain ⟨A',c',e',_,_,V,hA,hr⟩:=h.vals
 cases e'
 clear hli
 rw [← hkl] at hbi hA
 rw [← hkl]
 obtain ⟨L,hL0⟩ : ∃ L,keys.length = L:=⟨_,rfl⟩
 rw [hL0] at hlk hbi hA ⊢
 subst hlk
 have hlm:(L:Int) ≤ 140737488351232:=by omega
 have hcm:(L:Int) ≤ ck:=by omega
 have HA:=Lib.hid hA
 have HR:=Lib.hid hr
 have HK:=Lib.hid hK
 have HKL:=Lib.hid hkl
 have HL0:=Lib.hid hL0
 have IH:=Lib.hid ih
 have HW0:Hid (Wr B b w (w.alloc (.cells #[.int .i64 k,.int .i64 n,.string s,.slice A L ci,.slice K L ck] 53 (0,0)))):=Lib.hid ((Wr.refl B b w).alloc hB _)
 have HP0:=Lib.hid (hp.alloc (.cells #[.int .i64 k,.int .i64 n,.string s,.slice A L ci,.slice K L ck] 53 (0,0)))
 have HK0:=Lib.hid (Bk.new w #[.int .i64 k,.int .i64 n,.string s,.slice A L ci,.slice K L ck] 53)
 have HL:=Lib.hid hL
 have HLL:=Lib.hid hl
 have HBB:=Lib.hid hB
 have hbw:=hp.lt
 clear hL hl hB hp hA hr hK hkl hL0 ih h hbi hbk hck
 have y0:=HK0.out.cell 0 _ rfl
 have y1:=HK0.out.cell 1 _ rfl
 have y2:=HK0.out.cell 2 _ rfl
 have y3:=HK0.out.cell 3 _ rfl
 have y4:=HK0.out.cell 4 _ rfl
 go_enter Tryz.func128, Tryz.ntmps128
 go_wp2_with fail
 refine (put1 _ B b _ _ _ (by simp) HP0.out (by have h1:=HLL.out; (try simp only [za6] at h1 ⊢); (try simp only [List.length_append] at h1 ⊢); (try simp only [List.length_cons] at h1 ⊢); (try simp only [List.length_append] at h1 ⊢); (try simp only [List.length_nil] at h1 ⊢); (try simp only [za4] at h1 ⊢); (try simp only [za2] at h1 ⊢); (try simp only [List.length_cons] at h1 ⊢); (try simp only [List.length_nil] at h1 ⊢); omega) (Nat.le_trans HBB.out HW0.out.below.size)).mono ?_
 rintro e w1 ⟨rfl,hp,hw⟩
 have HP1:=Lib.hid hp
 have HW1:=Lib.hid (HW0.out.trans hw)
 have HK1:=Lib.hid (HK0.out.wr hw (by omega) (by decide))
 clear hp hw y0 y1 y2 y3 y4
 have HOL:Hid ((zf0 keys items).length = L):=Lib.hid (by unfold zf0; rw [List.length_zipWith,List.length_map, ← HKL.out,HL0.out,Nat.min_self])
 go_wp2_with fail
 go_loopw [22] (fun u wr => ∃ i:Nat,i ≤ L ∧ u = .int .i64 i ∧ Hid (PB B b (l ++ [123] ++ jn [44,32] ((zf0 keys items).take i)) wr ∧ Wr B b w wr ∧ Bk wr w.heap.size #[.int .i64 k,.int .i64 n,.string s,.slice A L ci,.slice K L ck] 53)) (fun u _ => L - (intOf u).toNat)
 case atStart => exact ⟨0,Nat.zero_le _,rfl,Lib.hid ⟨by rw [List.take_zero,jn_nil,List.append_nil]; exact HP1.out,HW1.out,HK1.out⟩⟩
 case round =>
  obtain ⟨i,hi,rfl,hr⟩:=hrel
  by_cases hlt:i < L
  ·have hlt':(i:Int) < L:=by omega
   obtain ⟨x,hxi⟩ : ∃ x,items[i]? = some x:=⟨_,List.getElem?_eq_getElem (by rw [← HKL.out,HL0.out]; exact hlt)⟩
   obtain ⟨y,hyi⟩ : ∃ y,keys[i]? = some y:=⟨_,List.getElem?_eq_getElem (by rw [HL0.out]; exact hlt)⟩
   have HXI:=Lib.hid hxi
   have hx:ValR wr B (V i) x:=ValR.stays.kept (HR.out i x hxi) hr.out.2.1.below
   have HF1:=Lib.hid (IH.out i x hxi)
   obtain ⟨a,rfl,ha,hc0⟩:=HA.out (by omega)
   obtain ⟨a',rfl,ha',hk0⟩:=HK.out (by rw [HL0.out]; omega)
   have HA2:Hid (∀ W,Below B w W → ∀ j,j < 5 → W.cell? (at_ (a.add (i * 5)) j) = some (V i j)):=Lib.hid fun W hb j hj => (hb.cell (by rw [za7,za1]; exact ha)).trans (hc0 i hlt j hj)
   have q0:wr.cell? (a'.add i) = some (.string y):=(hr.out.2.1.below.cell (by rw [za1]; exact ha')).trans (hk0 i y hyi)
   obtain ⟨k',n',s',VA,vli,vci,VK,vlk,vck,e0,e1,e2,e3,e4⟩:=Rd.form hx
   have HX:=Lib.hid hx
   have HE:Hid (#[V i 0,V i 1,V i 2,V i 3,V i 4] = #[.int .i64 k',.int .i64 n',.string s',.slice VA vli vci,.slice VK vlk vck]):=Lib.hid (by rw [e0,e1,e2,e3,e4])
   have E0:=Lib.hid e0; have E1:=Lib.hid e1; have E2:=Lib.hid e2; have E3:=Lib.hid e3; have E4:=Lib.hid e4
   have HT:Hid ((zf0 keys items)[i]? = some (bL y ++ (58 :: 32 :: x.src))):=Lib.hid (by unfold zf0; rw [List.getElem?_zipWith,hyi,List.getElem?_map,hxi]; rfl)
   have HST:=Lib.hid (ze8 [44,32] HT.out)
   have HTK:=Lib.hid (zl0 [44,32] HT.out)
   have hsz:=hr.out.2.1.below.size
   have hbl:=hr.out.1.lt
   have hwl:=hr.out.2.2.lt
   clear hc0 hk0 hx hxi hyi e0 e1 e2 e3 e4
   have HPr:=Lib.hid hr.out.1
   have HWr:=Lib.hid hr.out.2.1
   have HKr:=Lib.hid hr.out.2.2
   clear hr
   by_cases hi0:i = 0
   ·have hi0':¬ (i:Int) > 0:=by omega
    have HI0:=Lib.hid hi0
    clear hi0
    go_wp2_with fail
    refine (put2 _ _ B b _ _ _ (by simp) HPr.out (by have h1:=HST.out; have h2:=HLL.out; rw [if_pos HI0.out] at h1; (try simp only [za6] at h1 h2 ⊢); (try simp only [List.length_append] at h1 h2 ⊢); (try simp only [List.length_cons] at h1 h2 ⊢); (try simp only [List.length_nil] at h1 h2 ⊢); (try simp only [za4] at h1 h2 ⊢); (try simp only [za2] at h1 h2 ⊢); (try simp only [List.length_append] at h1 h2 ⊢); (try simp only [List.length_cons] at h1 h2 ⊢); (try simp only [List.length_nil] at h1 h2 ⊢); omega) (Nat.le_trans HBB.out HWr.out.below.size)).mono ?_
    rintro e w5 ⟨rfl,hp,hw⟩
    have HP5:=Lib.hid hp
    have HW5:=Lib.hid (HWr.out.trans hw)
    have HK5:=Lib.hid (HKr.out.wr hw (by omega) (by decide))
    have HX5:Hid (ValR w5 B (V i) x):=Lib.hid (HX |>.out |> fun h => ValR.stays.kept h hw.below)
    clear hp hw
    have y0:=HK5.out.cell 0 _ rfl
    have y1:=HK5.out.cell 1 _ rfl
    have y2:=HK5.out.cell 2 _ rfl
    have y3:=HK5.out.cell 3 _ rfl
    have y4:=HK5.out.cell 4 _ rfl
    have k0:w5.cell? (a.add (i * 5)) = some (V i 0):=HA2.out w5 HW5.out.below 0 (by omega)
    have k1:w5.cell? ⟨(a.add (i * 5)).block,(a.add (i * 5)).off + 1,none⟩ = some (V i 1):=HA2.out w5 HW5.out.below 1 (by omega)
    have k2:w5.cell? ⟨(a.add (i * 5)).block,(a.add (i * 5)).off + 2,none⟩ = some (V i 2):=HA2.out w5 HW5.out.below 2 (by omega)
    have k3:w5.cell? ⟨(a.add (i * 5)).block,(a.add (i * 5)).off + 3,none⟩ = some (V i 3):=HA2.out w5 HW5.out.below 3 (by omega)
    have k4:w5.cell? ⟨(a.add (i * 5)).block,(a.add (i * 5)).off + 4,none⟩ = some (V i 4):=HA2.out w5 HW5.out.below 4 (by omega)
    rw [E0.out] at k0; rw [E1.out] at k1; rw [E2.out] at k2; rw [E3.out] at k3; rw [E4.out] at k4
    have CALL:=Lib.hid (HF1.out (V i) _ HX5.out _ HP5.out (HL.out.kept HW5.out.below) (by have h1:=HST.out; have h2:=HLL.out; rw [if_pos HI0.out] at h1; (try simp only [za6] at h1 h2 ⊢); (try simp only [List.length_append] at h1 h2 ⊢); (try simp only [List.length_cons] at h1 h2 ⊢); (try simp only [List.length_nil] at h1 h2 ⊢); (try simp only [za4] at h1 h2 ⊢); (try simp only [za2] at h1 h2 ⊢); (try simp only [List.length_append] at h1 h2 ⊢); (try simp only [List.length_cons] at h1 h2 ⊢); (try simp only [List.length_nil] at h1 h2 ⊢); omega) (Nat.le_trans HBB.out HW5.out.below.size))
    rw [HE.out] at CALL
    go_wp2_with fail
    refine CALL.out.mono ?_
    rintro e w6 ⟨rfl,hp,hw⟩
    have HP6:Hid (PB B b (l ++ [123] ++ jn [44,32] ((zf0 keys items).take (i + 1))) w6):=Lib.hid (by
     rw [HTK.out,if_pos HI0.out]; (try simp only [List.append_assoc] at hp); (try simp only [List.nil_append]); (try simp only [List.append_assoc]); exact hp)
    have HW6:=Lib.hid (HW5.out.trans hw)
    have HK6:=Lib.hid (HK5.out.wr hw (by have:=HW5.out.below.size; omega) (by decide))
    clear hp hw CALL y0 y1 y2 y3 y4 k0 k1 k2 k3 k4
    go_wp2_with fail
    go_roundw
    case rel => exact ⟨i + 1,by omega,by go_num,Lib.hid ⟨HP6.out,HW6.out,HK6.out⟩⟩
    case measure => simp [intOf]; omega
   ·have hi0':(i:Int) > 0:=by omega
    have HI0:=Lib.hid hi0
    clear hi0
    go_wp2_with fail
    refine (put1 _ B b _ _ _ (by simp) HPr.out (by have h1:=HST.out; have h2:=HLL.out; rw [if_neg HI0.out] at h1; (try simp only [za6] at h1 h2 ⊢); (try simp only [List.length_append] at h1 h2 ⊢); (try simp only [List.length_cons] at h1 h2 ⊢); (try simp only [List.length_nil] at h1 h2 ⊢); (try simp only [za4] at h1 h2 ⊢); (try simp only [za2] at h1 h2 ⊢); (try simp only [List.length_append] at h1 h2 ⊢); (try simp only [List.length_cons] at h1 h2 ⊢); (try simp only [List.length_nil] at h1 h2 ⊢); omega) (Nat.le_trans HBB.out HWr.out.below.size)).mono ?_
    rintro e w4 ⟨rfl,hp,hw⟩
    have HP4:=Lib.hid hp
    have HW4:=Lib.hid (HWr.out.trans hw)
    have HK4:=Lib.hid (HKr.out.wr hw (by omega) (by decide))
    have HX4:Hid (ValR w4 B (V i) x):=Lib.hid (ValR.stays.kept HX.out hw.below)
    have hsz4:=hw.below.size
    clear hp hw
    go_wp2_with fail
    refine (put2 _ _ B b _ _ _ (by simp) HP4.out (by have h1:=HST.out; have h2:=HLL.out; rw [if_neg HI0.out] at h1; (try simp only [za6] at h1 h2 ⊢); (try simp only [List.length_append] at h1 h2 ⊢); (try simp only [List.length_cons] at h1 h2 ⊢); (try simp only [List.length_nil] at h1 h2 ⊢); (try simp only [za4] at h1 h2 ⊢); (try simp only [za2] at h1 h2 ⊢); (try simp only [List.length_append] at h1 h2 ⊢); (try simp only [List.length_cons] at h1 h2 ⊢); (try simp only [List.length_nil] at h1 h2 ⊢); omega) (Nat.le_trans HBB.out HW4.out.below.size)).mono ?_
    rintro e w5 ⟨rfl,hp,hw⟩
    have HP5:=Lib.hid hp
    have HW5:=Lib.hid (HW4.out.trans hw)
    have HK5:=Lib.hid (HK4.out.wr hw (by omega) (by decide))
    have HX5:Hid (ValR w5 B (V i) x):=Lib.hid (HX4 |>.out |> fun h => ValR.stays.kept h hw.below)
    clear hp hw
    have y0:=HK5.out.cell 0 _ rfl
    have y1:=HK5.out.cell 1 _ rfl
    have y2:=HK5.out.cell 2 _ rfl
    have y3:=HK5.out.cell 3 _ rfl
    have y4:=HK5.out.cell 4 _ rfl
    have k0:w5.cell? (a.add (i * 5)) = some (V i 0):=HA2.out w5 HW5.out.below 0 (by omega)
    have k1:w5.cell? ⟨(a.add (i * 5)).block,(a.add (i * 5)).off + 1,none⟩ = some (V i 1):=HA2.out w5 HW5.out.below 1 (by omega)
    have k2:w5.cell? ⟨(a.add (i * 5)).block,(a.add (i * 5)).off + 2,none⟩ = some (V i 2):=HA2.out w5 HW5.out.below 2 (by omega)
    have k3:w5.cell? ⟨(a.add (i * 5)).block,(a.add (i * 5)).off + 3,none⟩ = some (V i 3):=HA2.out w5 HW5.out.below 3 (by omega)
    have k4:w5.cell? ⟨(a.add (i * 5)).block,(a.add (i * 5)).off + 4,none⟩ = some (V i 4):=HA2.out w5 HW5.out.below 4 (by omega)
    rw [E0.out] at k0; rw [E1.out] at k1; rw [E2.out] at k2; rw [E3.out] at k3; rw [E4.out] at k4
    have CALL:=Lib.hid (HF1.out (V i) _ HX5.out _ HP5.out (HL.out.kept HW5.out.below) (by have h1:=HST.out; have h2:=HLL.out; rw [if_neg HI0.out] at h1; (try simp only [za6] at h1 h2 ⊢); (try simp only [List.length_append] at h1 h2 ⊢); (try simp only [List.length_cons] at h1 h2 ⊢); (try simp only [List.length_nil] at h1 h2 ⊢); (try simp only [za4] at h1 h2 ⊢); (try simp only [za2] at h1 h2 ⊢); (try simp only [List.length_append] at h1 h2 ⊢); (try simp only [List.length_cons] at h1 h2 ⊢); (try simp only [List.length_nil] at h1 h2 ⊢); omega) (Nat.le_trans HBB.out HW5.out.below.size))
    rw [HE.out] at CALL
    go_wp2_with fail
    refine CALL.out.mono ?_
    rintro e w6 ⟨rfl,hp,hw⟩
    have HP6:Hid (PB B b (l ++ [123] ++ jn [44,32] ((zf0 keys items).take (i + 1))) w6):=Lib.hid (by
     rw [HTK.out,if_neg HI0.out]; (try simp only [List.append_assoc] at hp); (try simp only [List.nil_append]); (try simp only [List.append_assoc]); exact hp)
    have HW6:=Lib.hid (HW5.out.trans hw)
    have HK6:=Lib.hid (HK5.out.wr hw (by have:=HW5.out.below.size; omega) (by decide))
    clear hp hw CALL y0 y1 y2 y3 y4 k0 k1 k2 k3 k4
    go_wp2_with fail
    go_roundw
    case rel => exact ⟨i + 1,by omega,by go_num,Lib.hid ⟨HP6.out,HW6.out,HK6.out⟩⟩
    case measure => simp [intOf]; omega
  ·have:i = L:=by omega
   subst this
   have HPF:Hid (PB B b (l ++ [123] ++ jn [44,32] (zf0 keys items)) wr):=Lib.hid (by have:=hr.out.1; rwa [List.take_of_length_le (by rw [HOL.out]; exact Nat.le_refl _)] at this)
   have HWF:=Lib.hid hr.out.2.1
   clear hr
   go_wp2_with fail
   refine (put1 _ B b _ _ _ (by simp) HPF.out (by have h1:=HLL.out; (try simp only [za6] at h1 ⊢); (try simp only [List.length_append] at h1 ⊢); (try simp only [List.length_cons] at h1 ⊢); (try simp only [List.length_append] at h1 ⊢); (try simp only [List.length_nil] at h1 ⊢); (try simp only [za4] at h1 ⊢); (try simp only [za2] at h1 ⊢); (try simp only [List.length_cons] at h1 ⊢); (try simp only [List.length_nil] at h1 ⊢); omega) (Nat.le_trans HBB.out HWF.out.below.size)).mono ?_
   rintro e w7 ⟨rfl,hp,hw⟩
   have HP7:=Lib.hid hp
   have HW7:=Lib.hid (HWF.out.trans hw)
   clear hp hw
   go_wp2_with fail
   go_end0
   exact ⟨rfl,by have h1:=HP7.out; (try simp only [List.append_assoc] at h1); exact h1,HW7.out⟩
end Go.Proofs.YtfgelheiknmjgaaGreatDoor
namespace Go.Proofs.YtfgelheiknmjgaaGreatDoor
open Go.RowKit
def OwnR (w:World) (base:Nat) (v:Value) (ss:List ByteArray):Prop:=w.ownsRow base 9 1 v ss.length (ss.map Value.string)
theorem bL_mk (l:List UInt8):bL ⟨l.toArray⟩ = l:=by simp [bL]
end Go.Proofs.YtfgelheiknmjgaaGreatDoor
namespace Go.Proofs.YtfgelheiknmjgaaGreatDoor
open Go.RowKit
end Go.Proofs.YtfgelheiknmjgaaGreatDoor
namespace Go.Proofs.YtfgelheiknmjgaaGreatDoor.K
open Go.RowKit
theorem zr7 {P:Program} {ops:Array Oper} {Q:Exit → Act → World → Prop} (hm:P.follows .mixedOrders = true) {id:Nat} {a0:Act} {W0:World} (hl:lowB ops = true) (s:Nat) (hb:dstB ops a0.tmps.size s = true)
  (J:(Nat → Bool) → (Nat → Value) → World → Prop) (h0:J (fun _ => false) (fun j => vof ops a0 j) W0.drew)
  (hop:∀ i o,ops[i]? = some o → ∀ (d:Nat → Bool) (a:Act) (w:World),Fr ops a0 a → J d (fun j => vof ops a j) w → d i = false → (∀ e ∈ o.after,Region.binds .any e = true → d e.on = true) →
    Runs P ops Q o a w fun u w' => J (fun j => if i = j then true else d j) (fun j => if i = j ∧ i ≠ s then u else vof ops a j) w')
  (hend:∀ (d:Nat → Bool) (a:Act) (w:World),Fr ops a0 a → (∀ i,i < ops.size → d i = true) → J d (fun j => vof ops a j) w → Q .normal a w) :
  (Code.region id ops true).wp P Q a0 W0:=by
 refine zw5 hm hl (fun L a w => Fr ops a0 a ∧ J (fun j => L.getD j false) (fun j => vof ops a j) w) ?_ ?_ ?_
 ·have hz:(fun i => (Array.replicate ops.size false).getD i false) = fun _ => false:=by
   funext i
   rw [Array.getD_eq_getD_getElem?,Array.getElem?_replicate]; split <;> rfl
  exact ⟨⟨rfl,rfl,fun _ _ => rfl⟩,by rw [hz]; exact h0⟩
 ·intro L a w i hs ⟨hf,hJ⟩ hi
  obtain ⟨h0,o,ho,hall⟩:=mem_ready.1 hi
  have hil:i < ops.size:=(Array.getElem?_eq_some_iff.1 ho).1
  have hLi:i < L.size:=by omega
  have hset:(fun j => (L.setIfInBounds i true).getD j false) = fun j => if i = j then true else L.getD j false:=by
   funext j
   by_cases e:i = j
   ·subst e; rw [if_pos rfl]; simp [Array.getD_eq_getD_getElem?,hLi]
   ·rw [if_neg e,Array.getD_eq_getD_getElem?,Array.getD_eq_getD_getElem?,Array.getElem?_setIfInBounds_ne e]
  have hi0:L.getD i false = false:=by
   rw [Array.getD_eq_getD_getElem?,Array.getElem?_eq_getElem hLi] at h0 ⊢; simpa using h0
  obtain ⟨hw,hr⟩:=hop i o ho (fun j => L.getD j false) a w hf hJ hi0 (fun e he hbd => hall e he hbd)
  unfold wpOp
  rw [ho]
  simp only [hw,if_true]
  refine .inl (Oper.wp_mono (fun a' w' ⟨v,e,hv⟩ => ?_) hr)
  subst e
  refine ⟨hf.put ho v, ?_⟩
  rw [hset]
  have hvv:(fun j => vof ops (a.put o.dst v) j) = fun j => if i = j ∧ i ≠ s then v else vof ops a j:=by
   funext j
   exact vof_put hb hf ho v
  rw [hvv]
  exact hv
 ·intro L a w hs hall ⟨hf,hJ⟩
  refine hend _ a w hf (fun i hi => ?_) hJ
  have:=hall i hi
  rw [Array.getD_eq_getD_getElem?,Array.getElem?_eq_getElem (by omega)] at this ⊢; simpa using this
end Go.Proofs.YtfgelheiknmjgaaGreatDoor.K

