
/-
 Texts joined: L3 L4.
-/
import Derived.Test.YtfgelheiknmjgaaGreatDoorZr27
set_option maxRecDepth 1000000
set_option maxHeartbeats 8000000
namespace Go.Proofs.YtfgelheiknmjgaaGreatDoor
open Go.RowKit
def wordB (k:Nat):ByteArray:=if k=1 then ⟨#[116,121,112,101]⟩ else if k=2 then ⟨#[105,110,116,101,114,102,97,99,101]⟩ else if k=3 then ⟨#[117,110,105,111,110]⟩ else if k=4 then ⟨#[101,110,117,109]⟩ else if k=5 then ⟨#[105,110,112,117,116]⟩ else ⟨#[]⟩
theorem wordB_is {k:Nat} (h1:1<=k) (h5:k<=5):bL (wordB k)=wWord (k:Int)/\(wordB k).size<=9:=by
 match k,h1,h5 with
 | 1,_,_=>exact ⟨rfl,by decide⟩
 | 2,_,_=>exact ⟨rfl,by decide⟩
 | 3,_,_=>exact ⟨rfl,by decide⟩
 | 4,_,_=>exact ⟨rfl,by decide⟩
 | 5,_,_=>exact ⟨rfl,by decide⟩
def nP (w c:List UInt8):List ByteArray->List (List UInt8)
 | []=>[]
 | x::r=>(w++bL x)::r.map fun y=>c++bL y
theorem zE5 (w c:List UInt8) (l:List ByteArray):(nP w c l).flatten=zd1 w c l:=by
 cases l with
 | nil=>rfl
 | cons x r=>simp [nP,zd1]
theorem nP_at {w c:List UInt8} {l:List ByteArray} {j:Nat} {x:ByteArray} (h:l[j]?=some x):(nP w c l)[j]?=some ((if j=0 then w else c)++bL x):=by
 cases l with
 | nil=>simp at h
 | cons y r =>
   cases j with
   | zero=>simp at h; subst h; simp [nP]
   | succ j=>simp at h; simp [nP,h]
theorem nP_len {w c:List UInt8} (l:List ByteArray):(nP w c l).length=l.length:=by
 cases l with
 | nil=>rfl
 | cons x r=>simp [nP]
theorem def_kind {d:DefT} (h:defOk d=true):∃ k:Nat,d.kind=k/\1<=k/\k<=5:=by
 unfold defOk at h;simp only [Bool.and_eq_true] at h
 have hp:=h.2.2;unfold zb4 zh9 at hp
 split at hp
 ·next e=>exact ⟨1,e,by omega,by omega⟩
 next e1 =>
 split at hp
 ·next e=>exact ⟨2,e,by omega,by omega⟩
 next e2 =>
 split at hp
 ·next e=>exact ⟨3,e,by omega,by omega⟩
 next e3 =>
 split at hp
 ·next e=>exact ⟨4,e,by omega,by omega⟩
 next e4 =>
 split at hp
 ·next e=>exact ⟨5,e,by omega,by omega⟩
 ·cases hp
theorem fld_ok4 {d:DefT} (h:defOk d=true) (h3:¬ d.kind=3):∀ x∈d.fields,fldOk x=true:=by
 unfold defOk at h;simp only [Bool.and_eq_true] at h
 have hp:=h.2.2;unfold zb4 zh9 at hp
 split at hp
 ·simp only [Bool.and_eq_true] at hp; exact (zb6 hp.2.1).2.2
 next e1 =>
 split at hp
 ·simp only [Bool.and_eq_true] at hp; exact (zb6 hp.2.1).2.2
 next e2 =>
 split at hp
 ·simp only [Bool.and_eq_true] at hp; intro x hx; rw [zb5 hp.2.1] at hx; cases hx
 next e4 =>
 split at hp
 ·simp only [Bool.and_eq_true] at hp; intro x hx; rw [zb5 hp.2.1] at hx; cases hx
 ·cases hp
theorem inp_ok4 {d:DefT} (h:defOk d=true) (h3:¬ d.kind=3):∀ x∈d.inputs,inpOk x=true:=by
 unfold defOk at h;simp only [Bool.and_eq_true] at h
 have hp:=h.2.2;unfold zb4 zh9 at hp
 split at hp
 ·simp only [Bool.and_eq_true] at hp; intro x hx; rw [zb5 hp.2.2.2] at hx; cases hx
 next e1 =>
 split at hp
 ·simp only [Bool.and_eq_true] at hp; intro x hx; rw [zb5 hp.2.2.2] at hx; cases hx
 next e2 =>
 split at hp
 ·simp only [Bool.and_eq_true] at hp; intro x hx; rw [zb5 hp.2.2.2] at hx; cases hx
 next e4 =>
 split at hp
 ·simp only [Bool.and_eq_true] at hp; exact (zb6 hp.2.2.2).2.2
 ·cases hp
theorem mem_ok4 {d:DefT} (h:defOk d=true) (h3:¬ d.kind=3):∀ x∈d.members,zg7 x.dirs=true:=by
 unfold defOk at h;simp only [Bool.and_eq_true] at h
 have hp:=h.2.2;unfold zb4 zh9 at hp
 split at hp
 ·simp only [Bool.and_eq_true] at hp; intro x hx; rw [zb5 hp.2.2.1] at hx; cases hx
 next e1 =>
 split at hp
 ·simp only [Bool.and_eq_true] at hp; intro x hx; rw [zb5 hp.2.2.1] at hx; cases hx
 next e2 =>
 split at hp
 ·simp only [Bool.and_eq_true] at hp
  intro x hx;have h5:=(zb6 hp.2.2.1).2.2 x hx;unfold ze7 at h5;rw [Bool.and_eq_true] at h5;exact h5.2
 next e4 =>
 split at hp
 ·simp only [Bool.and_eq_true] at hp; intro x hx; rw [zb5 hp.2.2.1] at hx; cases hx
 ·cases hp
theorem ya9 (d:DefT) (hok:defOk d=true) (f:Nat->Value) (w:World) (B:Nat) (h:DefR w B f d) (hB:B<=w.heap.size) (hl:(wDef d).length<=1000000000):Calls Tryz.prog 24 #[.agg #[f 0,f 1,f 2,f 3,f 4,f 5,f 6]] w (SP (wDef d) w):=by
 obtain ⟨k,hkk,hk1,hk5⟩:=def_kind hok;have hf0:=h.kind;have hf1:=h.name;have HDR:=Lh h.dirs;have HIN:=Lh h.inputs;obtain ⟨A2,c2,hf2,_,hb2,V2,hA2,hr2⟩:=h.impl;obtain ⟨A3,c3,hf3,hx⟩:=h.dirs;clear hx;obtain ⟨A4,c4,hf4,_,hb4,V4,hA4,hr4⟩:=h.fields;obtain ⟨A5,c5,hf5,_,hb5,V5,hA5,hr5⟩:=h.members;obtain ⟨A6,c6,hf6,hx⟩:=h.inputs;clear hx;obtain ⟨n2,h2⟩ : ∃ n,n=d.impl.length:=⟨_,rfl⟩;obtain ⟨n3,h3⟩ : ∃ n,n=d.dirs.length:=⟨_,rfl⟩;obtain ⟨n4,h4⟩ : ∃ n,n=d.fields.length:=⟨_,rfl⟩;obtain ⟨n5,h5⟩ : ∃ n,n=d.members.length:=⟨_,rfl⟩;obtain ⟨n6,h6⟩ : ∃ n,n=d.inputs.length:=⟨_,rfl⟩;rw [<- h2] at hf2 hb2 hA2;rw [<- h3] at hf3;rw [<- h4] at hf4 hb4 hA4;rw [<- h5] at hf5 hb5 hA5;rw [<- h6] at hf6;rw [hkk] at hf0;rw [hf3] at HDR;rw [hf6] at HIN;have q2:(n2:Int)<=140737488351232:=by unfold big at hb2; omega
 have q4:(n4:Int)<=140737488351232:=by unfold big at hb4; omega
 have q5:(n5:Int)<=140737488351232:=by unfold big at hb5; omega
 have HA2:=Lh hA2;have HA4:=Lh hA4;have HA5:=Lh hA5;have HR2:=Lh hr2;have HR4:=Lh hr4;have HR5:=Lh hr5;have H2:=Lh h2;have H4:=Lh h4;have H5:=Lh h5;have HKK:=Lh hkk;have HOK:=Lh hok;have HLL:=Lh hl;have HBB:=Lh hB;have hwd:wDef d=wWord k++(32::(bL d.name++(zd1 [32,105,109,112,108,101,109,101,110,116,115,32] [32,38,32] d.impl++(wDirs d.dirs++(if d.kind=3 then zd1 [32,61,32] [32,124,32] (d.members.map MemT.name) else [32,123]++((d.fields.map wFld).flatten++((d.members.map wMem).flatten++(wInps d.inputs++[32,125])))))))):=by rw [<- hkk]; rfl
 obtain ⟨rest,hrest⟩ : ∃ r,r=(if d.kind=3 then zd1 [32,61,32] [32,124,32] (d.members.map MemT.name) else [32,123]++((d.fields.map wFld).flatten++((d.members.map wMem).flatten++(wInps d.inputs++[32,125])))):=⟨_,rfl⟩
 rw [<- hrest] at hwd;have HWD:=Lh hwd;have HRS:=Lh hrest;have hw1:=wordB_is hk1 hk5;have hwl:(wDef d).length=(wordB k).size+(1+(d.name.size+((zd1 [32,105,109,112,108,101,109,101,110,116,115,32] [32,38,32] d.impl).length+((wDirs d.dirs).length+rest.length)))):=by
  rw [hwd, <- hw1.1,List.length_append,List.length_cons,List.length_append,List.length_append,List.length_append,za2,za2]; omega
 have HWL:=Lh hwl;have HWO:=Lh hw1.1;obtain ⟨v1,hv1,hd1⟩:=zb1 (wordB k) ⟨#[32]⟩ (by show (wordB k).size+1<=_; omega)
 have hv1z:v1.size=(wordB k).size+1:=by rw [<- za2,hv1,List.length_append,za2]; rfl
 obtain ⟨v2,hv2,hd2⟩:=zb1 v1 d.name (by omega)
 have HV2:Hid (bL v2=wWord k++(32::bL d.name)):=Lh (by rw [hv2,hv1,hw1.1]; simp [bL])
 have HVZ:Hid (v2.size+((zd1 [32,105,109,112,108,101,109,101,110,116,115,32] [32,38,32] d.impl).length+((wDirs d.dirs).length+rest.length))<=1000000000):=Lh (by
  have:v2.size=v1.size+d.name.size:=by rw [<- za2,hv2,List.length_append,za2,za2]
  omega)
 have HNL2:Hid (v2.size+(nP [32,105,109,112,108,101,109,101,110,116,115,32] [32,38,32] d.impl).flatten.length<=1000000000):=Lh (by rw [zE5]; have:=HVZ.out; omega)
 have HD1:=Lh hd1;have HD2:=Lh hd2;rw [hf0,hf1,hf2,hf3,hf4,hf5,hf6];clear hf0 hf1 hf2 hf3 hf4 hf5 hf6 h h2 h3 h4 h5 h6 hok hl hB hkk hb2 hb4 hb5 hA2 hA4 hA5 hr2 hr4 hr5 hwd hrest hwl hw1 hv1 hv1z hv2 hd1 hd2
 go_enter Tryz.func24, Tryz.ntmps24
 go_wp2_with fail
 refine K.za6 (fun W=>Bk W w.heap.size #[.int .i64 k,.string d.name,.slice A2 n2 c2,.slice A3 n3 c3,.slice A4 n4 c4,.slice A5 n5 c5,.slice A6 n6 c6] 39 /\ Bk W (w.heap.size+1) #[.string ⟨#[]⟩,.string ⟨#[116,121,112,101]⟩,.string ⟨#[105,110,116,101,114,102,97,99,101]⟩,.string ⟨#[117,110,105,111,110]⟩,.string ⟨#[101,110,117,109]⟩,.string ⟨#[105,110,112,117,116]⟩] 9 /\ Below w.heap.size w W) ⟨(Bk.new w _ _).stay (za1 _ _),by have h:=Bk.new (w.alloc (.cells #[.int .i64 k,.string d.name,.slice A2 n2 c2,.slice A3 n3 c3,.slice A4 n4 c4,.slice A5 n5 c5,.slice A6 n6 c6] 39 (0,0))) #[.string ⟨#[]⟩,.string ⟨#[116,121,112,101]⟩,.string ⟨#[105,110,116,101,114,102,97,99,101]⟩,.string ⟨#[117,110,105,111,110]⟩,.string ⟨#[101,110,117,109]⟩,.string ⟨#[105,110,112,117,116]⟩] 9; rw [show (w.alloc (.cells #[.int .i64 k,.string d.name,.slice A2 n2 c2,.slice A3 n3 c3,.slice A4 n4 c4,.slice A5 n5 c5,.slice A6 n6 c6] 39 (0,0))).heap.size=w.heap.size+1 by simp] at h; exact h,(za1 w _).trans ((za1 _ _).mono (by simp))⟩ (by kernel_rfl) ?_
 rintro W ⟨hkd,hkw,hbw⟩ _;have HKD0:=Lh hkd;have HKW:=Lh hkw;have HBW:=Lh hbw;have p0:∀ y:K.Past W,y.w.cell? ⟨w.heap.size,0,none⟩=some (.int .i64 k):=fun y=>(HKD0.out.stay y.b).cell 0 _ rfl;have p1:∀ y:K.Past W,y.w.cell? ⟨w.heap.size,1,none⟩=some (.string d.name):=fun y=>(HKD0.out.stay y.b).cell 1 _ rfl;have pw:∀ y:K.Past W,y.w.cell? ⟨w.heap.size+1,k,none⟩=some (.string (wordB k)):=fun y=>by
  have h:=HKW.out.stay y.b
  match k,hk1,hk5 with
  | 1,_,_=>exact h.cell 1 _ rfl
  | 2,_,_=>exact h.cell 2 _ rfl
  | 3,_,_=>exact h.cell 3 _ rfl
  | 4,_,_=>exact h.cell 4 _ rfl
  | 5,_,_=>exact h.cell 5 _ rfl
 have hkI:(k:Int)<6:=by omega
 have hd1:=HD1.out;have hd2:=HD2.out;clear hkd hkw hbw
 repeat (go_big_quiet_step (fail))
 refine wpQuiet_nil ?_
 intro _ hw';obtain ⟨y,rfl⟩:=hw';have HKD:Hid (Bk y.w w.heap.size #[.int .i64 k,.string d.name,.slice A2 n2 c2,.slice A3 n3 c3,.slice A4 n4 c4,.slice A5 n5 c5,.slice A6 n6 c6] 39):=Lh (HKD0.out.stay y.b);have HBY:Hid (Below w.heap.size w y.w):=Lh (HBW.out.trans (y.b.mono HBW.out.size));clear p0 p1 pw hd1 hd2 HD1 HD2 HKD0 HKW HBW;generalize y.w=wy at *;go_wp2_with fail
 go_loopw [4,5] (fun u i wr=>∃ (j:Nat) (o:ByteArray),j<=n2/\i=.int .i64 j/\u=.string o/\Hid (bL o=bL v2++((nP [32,105,109,112,108,101,109,101,110,116,115,32] [32,38,32] d.impl).take j).flatten/\Below w.heap.size w wr/\Bk wr w.heap.size #[.int .i64 k,.string d.name,.slice A2 n2 c2,.slice A3 n3 c3,.slice A4 n4 c4,.slice A5 n5 c5,.slice A6 n6 c6] 39)) (fun _ i _=>n2-(intOf i).toNat)
 case atStart=>exact ⟨0,v2,Nat.zero_le _,rfl,rfl,Lh ⟨by simp,HBY.out,HKD.out⟩⟩
 case round =>
  obtain ⟨j,o,hj,rfl,rfl,hq⟩:=hrel;have y2:=hq.out.2.2.cell 2 _ rfl;by_cases hlt:j<n2
  ·have hlt':(j:Int)<n2:=by omega
   obtain ⟨x,hd⟩ : ∃ x,d.impl[j]?=some x:=⟨_,List.getElem?_eq_getElem (by rw [<- H2.out]; exact hlt)⟩
   have hxm:=nP_at (w:=[32,105,109,112,108,101,109,101,110,116,115,32]) (c:=[32,38,32]) hd;have hst:=zl9 hxm;have HXS:=Lh (zk4 hxm);have htl:=HNL2.out;have hoz:o.size=v2.size+((nP [32,105,109,112,108,101,109,101,110,116,115,32] [32,38,32] d.impl).take j).flatten.length:=by rw [<- za2,hq.out.1,List.length_append,za2]
   obtain ⟨a,rfl,ha,hx⟩:=HA2.out (by omega)
   have hv:=(HR2.out j x hd).1;have hcl:∀ p:Addr,p.block<B->wr.cell? p=w.cell? p:=fun p hp=>(hq.out.2.1.mono HBB.out).cell hp;have r0:wr.cell? (a.add (j*1))=some (.string x):=(hcl _ (by rw [za0]; exact ha)).trans ((hx j hlt 0 (by omega)).trans (by rw [hv]))
   have r1:wr.cell? (a.add j)=some (.string x):=by have h:=r0; rw [Nat.mul_one] at h; exact h
   by_cases hk0:j=0
   ·rw [if_pos hk0] at hst
    have hk0':(j:Int)=0:=by omega
    have z0:wr.cell? a=some (.string x):=by have h:=r0; rw [hk0,Nat.zero_mul] at h; exact h
    have hs2:(([32,105,109,112,108,101,109,101,110,116,115,32]++bL x:List UInt8)).length=12+x.size:=by rw [List.length_append,za2]; rfl
    obtain ⟨u1,hu1,hd1⟩:=zb1 o ⟨#[32,105,109,112,108,101,109,101,110,116,115,32]⟩ (by show o.size+12<=_; omega)
    have hu1z:u1.size=o.size+12:=by rw [<- za2,hu1,List.length_append,za2]; rfl
    obtain ⟨u2,hu2,hd2⟩:=zb1 u1 x (by omega)
    have HU2:Hid (bL u2=bL v2++((nP [32,105,109,112,108,101,109,101,110,116,115,32] [32,38,32] d.impl).take (j+1)).flatten):=Lh (by rw [HXS.out,if_pos hk0,hu2,hu1,hq.out.1]; simp [bL])
    clear hs2 hu1 hu1z hu2 hst htl hoz hxm hd hx hv hcl ha;go_wp2_with fail
    go_roundw
    case rel=>exact ⟨j+1,u2,by omega,by go_num,rfl,Lh ⟨HU2.out,hq.out.2.1,hq.out.2.2⟩⟩
    case measure=>simp [intOf]; omega
   ·rw [if_neg hk0] at hst
    have hk0':¬ (j:Int)=0:=by omega
    have hs2:(([32,38,32]++bL x:List UInt8)).length=3+x.size:=by rw [List.length_append,za2]; rfl
    obtain ⟨u1,hu1,hd1⟩:=zb1 o ⟨#[32,38,32]⟩ (by show o.size+3<=_; omega)
    have hu1z:u1.size=o.size+3:=by rw [<- za2,hu1,List.length_append,za2]; rfl
    obtain ⟨u2,hu2,hd2⟩:=zb1 u1 x (by omega)
    have HU2:Hid (bL u2=bL v2++((nP [32,105,109,112,108,101,109,101,110,116,115,32] [32,38,32] d.impl).take (j+1)).flatten):=Lh (by rw [HXS.out,if_neg hk0,hu2,hu1,hq.out.1]; simp [bL])
    clear hs2 hu1 hu1z hu2 hst htl hoz hxm hd hx hv hcl ha;go_wp2_with fail
    go_roundw
    case rel=>exact ⟨j+1,u2,by omega,by go_num,rfl,Lh ⟨HU2.out,hq.out.2.1,hq.out.2.2⟩⟩
    case measure=>simp [intOf]; omega
  ·have hlt':¬ (j:Int)<n2:=by omega
   have hjn:j=n2:=by omega
   have HF:Hid (bL o=bL v2++zd1 [32,105,109,112,108,101,109,101,110,116,115,32] [32,38,32] d.impl):=Lh (by rw [hq.out.1,List.take_of_length_le (by rw [nP_len]; have:=H2.out; omega),zE5])
   have hoz:o.size=v2.size+(zd1 [32,105,109,112,108,101,109,101,110,116,115,32] [32,38,32] d.impl).length:=by rw [<- za2,HF.out,List.length_append,za2]
   have hvz:=HVZ.out;have hdk:zg7 d.dirs=true:=by
    have h:=HOK.out;unfold defOk at h;simp only [Bool.and_eq_true] at h
    exact h.2.1
   obtain ⟨od,hod⟩ : ∃ od:ByteArray,bL od=wDirs d.dirs:=⟨⟨(wDirs d.dirs).toArray⟩,bL_mk _⟩;have hodz:od.size=(wDirs d.dirs).length:=by rw [<- za2,hod]
   obtain ⟨v3,hv3,hd3⟩:=zb1 o od (by omega)
   have HV3:Hid (bL v3=wWord k++(32::(bL d.name++(zd1 [32,105,109,112,108,101,109,101,110,116,115,32] [32,38,32] d.impl++wDirs d.dirs)))):=Lh (by rw [hv3,HF.out,hod,HV2.out]; simp)
   have HV3Z:Hid (v3.size+rest.length<=1000000000):=Lh (by
    have:v3.size=o.size+od.size:=by rw [<- za2,hv3,List.length_append,za2,za2]
    omega)
   have y3:=hq.out.2.2.cell 3 _ rfl;have CALD:=Lh (zj0 d.dirs hdk (.slice A3 n3 c3) wr B (Sl.kept DirR.stays HDR.out (hq.out.2.1.mono HBB.out)) (Nat.le_trans HBB.out hq.out.2.1.size) (by omega))
   have HOD:=Lh hod;clear hoz hvz hdk hod hodz hv3;go_wp2_with fail
   refine CALD.out.mono ?_
   rintro e w5 ⟨⟨o',rfl,ho'⟩,hb5⟩;obtain rfl:o'=od:=zg8 (ho'.trans HOD.out.symm);have HB5:=Lh (hq.out.2.1.trans (hb5.mono hq.out.2.1.size));have HK5:=Lh (hq.out.2.2.stay hb5);clear ho' hb5 CALD y2 y3;have y0:=HK5.out.cell 0 _ rfl;by_cases hk3:k=3
   ·have hk3':(k:Int)=3:=by omega
    have hr3:rest=zd1 [32,61,32] [32,124,32] (d.members.map MemT.name):=by rw [HRS.out,HKK.out,if_pos hk3']
    have HNL5:Hid (v3.size+(nP [32,61,32] [32,124,32] (d.members.map MemT.name)).flatten.length<=1000000000):=Lh (by rw [zE5, <- hr3]; exact HV3Z.out)
    have HR3:=Lh hr3;clear hr3;go_wp2_with fail
    clear y0
    go_loopw [4,6] (fun u i wr=>∃ (j:Nat) (o:ByteArray),j<=n5/\i=.int .i64 j/\u=.string o/\Hid (bL o=bL v3++((nP [32,61,32] [32,124,32] (d.members.map MemT.name)).take j).flatten/\Below w.heap.size w wr/\Bk wr w.heap.size #[.int .i64 k,.string d.name,.slice A2 n2 c2,.slice A3 n3 c3,.slice A4 n4 c4,.slice A5 n5 c5,.slice A6 n6 c6] 39)) (fun _ i _=>n5-(intOf i).toNat)
    case atStart=>exact ⟨0,v3,Nat.zero_le _,rfl,rfl,Lh ⟨by simp,HB5.out,HK5.out⟩⟩
    case round =>
     obtain ⟨j,o,hj,rfl,rfl,hq⟩:=hrel;have y5:=hq.out.2.2.cell 5 _ rfl;by_cases hlt:j<n5
     ·have hlt':(j:Int)<n5:=by omega
      obtain ⟨x,hd⟩ : ∃ x,(d.members.map MemT.name)[j]?=some x:=⟨_,List.getElem?_eq_getElem (by rw [List.length_map, <- H5.out]; exact hlt)⟩
      have hxm:=nP_at (w:=[32,61,32]) (c:=[32,124,32]) hd;have hst:=zl9 hxm;have HXS:=Lh (zk4 hxm);have htl:=HNL5.out;have hoz:o.size=v3.size+((nP [32,61,32] [32,124,32] (d.members.map MemT.name)).take j).flatten.length:=by rw [<- za2,hq.out.1,List.length_append,za2]
      obtain ⟨a,rfl,ha,hx⟩:=HA5.out (by omega)
      have hv:=(show V5 j 0=.string x by rw [List.getElem?_map] at hd; obtain ⟨m,hm,e⟩:=Option.map_eq_some_iff.1 hd; rw [<- e]; exact (HR5.out j m hm).name)
      have hcl:∀ p:Addr,p.block<B->wr.cell? p=w.cell? p:=fun p hp=>(hq.out.2.1.mono HBB.out).cell hp;have r0:wr.cell? (a.add (j*2))=some (.string x):=(hcl _ (by rw [za0]; exact ha)).trans ((hx j hlt 0 (by omega)).trans (by rw [hv]))
      by_cases hk0:j=0
      ·rw [if_pos hk0] at hst
       have hk0':(j:Int)=0:=by omega
       have z0:wr.cell? a=some (.string x):=by have h:=r0; rw [hk0,Nat.zero_mul] at h; exact h
       have hs2:(([32,61,32]++bL x:List UInt8)).length=3+x.size:=by rw [List.length_append,za2]; rfl
       obtain ⟨u1,hu1,hd1⟩:=zb1 o ⟨#[32,61,32]⟩ (by show o.size+3<=_; omega)
       have hu1z:u1.size=o.size+3:=by rw [<- za2,hu1,List.length_append,za2]; rfl
       obtain ⟨u2,hu2,hd2⟩:=zb1 u1 x (by omega)
       have HU2:Hid (bL u2=bL v3++((nP [32,61,32] [32,124,32] (d.members.map MemT.name)).take (j+1)).flatten):=Lh (by rw [HXS.out,if_pos hk0,hu2,hu1,hq.out.1]; simp [bL])
       clear hs2 hu1 hu1z hu2 hst htl hoz hxm hd hx hv hcl ha;go_wp2_with fail
       go_roundw
       case rel=>exact ⟨j+1,u2,by omega,by go_num,rfl,Lh ⟨HU2.out,hq.out.2.1,hq.out.2.2⟩⟩
       case measure=>simp [intOf]; omega
      ·rw [if_neg hk0] at hst
       have hk0':¬ (j:Int)=0:=by omega
       have hs2:(([32,124,32]++bL x:List UInt8)).length=3+x.size:=by rw [List.length_append,za2]; rfl
       obtain ⟨u1,hu1,hd1⟩:=zb1 o ⟨#[32,124,32]⟩ (by show o.size+3<=_; omega)
       have hu1z:u1.size=o.size+3:=by rw [<- za2,hu1,List.length_append,za2]; rfl
       obtain ⟨u2,hu2,hd2⟩:=zb1 u1 x (by omega)
       have HU2:Hid (bL u2=bL v3++((nP [32,61,32] [32,124,32] (d.members.map MemT.name)).take (j+1)).flatten):=Lh (by rw [HXS.out,if_neg hk0,hu2,hu1,hq.out.1]; simp [bL])
       clear hs2 hu1 hu1z hu2 hst htl hoz hxm hd hx hv hcl ha;go_wp2_with fail
       go_roundw
       case rel=>exact ⟨j+1,u2,by omega,by go_num,rfl,Lh ⟨HU2.out,hq.out.2.1,hq.out.2.2⟩⟩
       case measure=>simp [intOf]; omega
     ·have hlt':¬ (j:Int)<n5:=by omega
      have hjn:j=n5:=by omega
      have HF:Hid (bL o=bL v3++zd1 [32,61,32] [32,124,32] (d.members.map MemT.name)):=Lh (by rw [hq.out.1,List.take_of_length_le (by rw [nP_len]; rw [List.length_map]; have:=H5.out; omega),zE5])
      have HFIN:Hid (bL o=wDef d):=Lh (by rw [HF.out,HV3.out,HWD.out,HR3.out]; simp)
      go_wp2_with fail
      go_ret
      exact ⟨⟨o,rfl,HFIN.out⟩,hq.out.2.1⟩
   ·have hk3':¬ (k:Int)=3:=by omega
    have hr3:rest=[32,123]++((d.fields.map wFld).flatten++((d.members.map wMem).flatten++(wInps d.inputs++[32,125]))):=by rw [HRS.out,HKK.out,if_neg hk3']
    have hvz:=HV3Z.out;have HR3:=Lh hr3;have hrl:rest.length=2+((d.fields.map wFld).flatten.length+((d.members.map wMem).flatten.length+((wInps d.inputs).length+2))):=by rw [hr3,List.length_append,List.length_append,List.length_append,List.length_append]; rfl
    obtain ⟨v4,hv4,hd4⟩:=zb1 v3 ⟨#[32,123]⟩ (by show v3.size+2<=_; omega)
    have HV4:=Lh hv4;have HV4Z:Hid (v4.size+((d.fields.map wFld).flatten.length+((d.members.map wMem).flatten.length+((wInps d.inputs).length+2)))<=1000000000):=Lh (by
     have:v4.size=v3.size+2:=by rw [<- za2,hv4,List.length_append,za2]; rfl
     omega)
    clear hr3 hvz hrl hv4;go_wp2_with fail
    clear y0 hd4;rw [show ((k:Int)==3)=false from beq_eq_false_iff_ne.2 hk3']
    go_loopw [4,7] (fun u i wr=>∃ (j:Nat) (o:ByteArray),j<=n4/\i=.int .i64 j/\u=.string o/\Hid (bL o=bL v4++((d.fields.map wFld).take j).flatten/\Below w.heap.size w wr/\Bk wr w.heap.size #[.int .i64 k,.string d.name,.slice A2 n2 c2,.slice A3 n3 c3,.slice A4 n4 c4,.slice A5 n5 c5,.slice A6 n6 c6] 39)) (fun _ i _=>n4-(intOf i).toNat)
    case atStart=>exact ⟨0,v4,Nat.zero_le _,rfl,rfl,Lh ⟨by simp,HB5.out,HK5.out⟩⟩
    case round =>
     obtain ⟨j,o,hj,rfl,rfl,hq⟩:=hrel;have y4:=hq.out.2.2.cell 4 _ rfl;by_cases hlt:j<n4
     ·have hlt':(j:Int)<n4:=by omega
      obtain ⟨x,hd⟩ : ∃ x,d.fields[j]?=some x:=⟨_,List.getElem?_eq_getElem (by rw [<- H4.out]; exact hlt)⟩
      have hxm:(d.fields.map wFld)[j]?=some (wFld x):=by rw [List.getElem?_map,hd]; rfl
      have hst:=zl9 hxm;have HXS:=Lh (zk4 hxm);have htl:=HV4Z.out;have hoz:o.size=v4.size+((d.fields.map wFld).take j).flatten.length:=by rw [<- za2,hq.out.1,List.length_append,za2]
      obtain ⟨a,rfl,ha,hx⟩:=HA4.out (by omega)
      have hxr:=HR4.out j x hd;have hcl:∀ q,q<5->∀ v,V4 j q=v->wr.cell? (at_ (a.add (j*5)) q)=some v:=fun q hq2 v hv=>((hq.out.2.1.mono HBB.out).cell (by rw [zb3,za0]; exact ha)).trans (hv▸hx j hlt q hq2)
      obtain ⟨B1,e1,hg1,_⟩:=hxr.args;obtain ⟨B3,e3,hg3,_⟩:=hxr.type.wraps;obtain ⟨B4,e4,hg4,_⟩:=hxr.dirs;have r0:wr.cell? (a.add (j*5))=some (.string x.name):=hcl 0 (by omega) _ hxr.name
      have r1:wr.cell? ⟨(a.add (j*5)).block,(a.add (j*5)).off+1,none⟩=some (.slice B1 x.args.length e1):=hcl 1 (by omega) _ hg1
      have r2:wr.cell? ⟨(a.add (j*5)).block,(a.add (j*5)).off+2,none⟩=some (.string x.tn):=hcl 2 (by omega) _ hxr.type.name
      have r3:wr.cell? ⟨(a.add (j*5)).block,(a.add (j*5)).off+3,none⟩=some (.slice B3 x.tw.length e3):=hcl 3 (by omega) _ hg3
      have r4:wr.cell? ⟨(a.add (j*5)).block,(a.add (j*5)).off+4,none⟩=some (.slice B4 x.dirs.length e4):=hcl 4 (by omega) _ hg4
      have hfk:=fld_ok4 HOK.out (by rw [HKK.out]; exact hk3') x (List.mem_of_getElem? hd)
      unfold fldOk at hfk;simp only [Bool.and_eq_true] at hfk
      obtain ⟨_,f2,f3,f4⟩:=hfk;obtain ⟨m1,hm1⟩ : ∃ m,m=x.args.length:=⟨_,rfl⟩;obtain ⟨m3,hm3⟩ : ∃ m,m=x.tw.length:=⟨_,rfl⟩;obtain ⟨m4,hm4⟩ : ∃ m,m=x.dirs.length:=⟨_,rfl⟩;rw [<- hm1] at r1 hg1;rw [<- hm3] at r3;rw [<- hm4] at r4 hg4;have HAR:Hid (InpsR w B (.slice B1 m1 e1) x.args):=Lh (by have:=hxr.args; rw [hg1] at this; exact this)
      have HDX:Hid (DirsR w B (.slice B4 m4 e4) x.dirs):=Lh (by have:=hxr.dirs; rw [hg4] at this; exact this)
      have HTR:Hid (K.RefV w B (.agg #[.string x.tn,.slice B3 x.tw.length e3]) x.tn x.tw):=Lh (by
       have:=zo9 hxr.type;rw [hxr.type.name,hg3] at this;exact this)
      rw [<- hm3] at HTR;have HAK:=Lh (zb6 f2).2.2;have HDK:=Lh f4;have h24:x.tw.length<=24:=by
       unfold K.okB at f3;simp only [Bool.and_eq_true,decide_eq_true_eq] at f3
       exact f3.1.2
      have hrg:=ref_ge x.tn x.tw;have hwd:wFld x=32::(bL x.name++((if m1=0 then [] else [32,40]++(wInps x.args++[32,41]))++([32,58,32]++(zc2 x.tn x.tw++wDirs x.dirs)))):=by rw [hm1]; rfl
      have HWF:=Lh hwd;have hwl:(wFld x).length=1+(x.name.size+((if m1=0 then 0 else 4+(wInps x.args).length)+(3+((zc2 x.tn x.tw).length+(wDirs x.dirs).length)))):=by
       rw [hwd,List.length_cons,List.length_append,List.length_append,List.length_append,List.length_append,za2]
       split
       ·simp only [List.length_cons,List.length_nil]; omega
       ·simp only [List.length_append,List.length_cons,List.length_nil]; omega
      obtain ⟨u1,hu1,hd1⟩:=zb1 o ⟨#[32]⟩ (by show o.size+1<=_; omega)
      have hu1z:u1.size=o.size+1:=by rw [<- za2,hu1,List.length_append,za2]; rfl
      obtain ⟨u2,hu2,hd2⟩:=zb1 u1 x.name (by omega)
      have hu2z:u2.size=o.size+(1+x.name.size):=by rw [<- za2,hu2,List.length_append,za2,za2]; omega
      have HU2:Hid (bL u2=bL v4++((d.fields.map wFld).take j).flatten++(32::bL x.name)):=Lh (by rw [hu2,hu1,hq.out.1]; simp [bL])
      have HUZ:Hid (u2.size+((if m1=0 then 0 else 4+(wInps x.args).length)+(3+((zc2 x.tn x.tw).length+(wDirs x.dirs).length)))<=1000000000):=Lh (by omega)
      have HTN:Hid (x.tn.size<=1000000000/\x.tw.length<=1000):=Lh ⟨by omega,by omega⟩
      have HKF:=Lh (Bk.new wr #[.string x.name,.slice B1 m1 e1,.string x.tn,.slice B3 m3 e3,.slice B4 m4 e4] 46);have HBF:Hid (Below w.heap.size w (wr.alloc (.cells #[.string x.name,.slice B1 m1 e1,.string x.tn,.slice B3 m3 e3,.slice B4 m4 e4] 46 (0,0)))):=Lh (hq.out.2.1.trans ((za1 wr _).mono hq.out.2.1.size));have HKX:Hid (Bk (wr.alloc (.cells #[.string x.name,.slice B1 m1 e1,.string x.tn,.slice B3 m3 e3,.slice B4 m4 e4] 46 (0,0))) w.heap.size #[.int .i64 k,.string d.name,.slice A2 n2 c2,.slice A3 n3 c3,.slice (some a) n4 c4,.slice A5 n5 c5,.slice A6 n6 c6] 39):=Lh (hq.out.2.2.stay (za1 wr _));have z0:=HKF.out.cell 0 _ rfl;have z1:=HKF.out.cell 1 _ rfl;have hm1b:(m1:Int)<=140737488351232:=by
       have:=(zb6 f2).2.1;omega
      clear hd hxm hst htl hoz hx hxr hcl hg1 hg3 hg4 f2 f3 f4 hm1 hm3 hm4 h24 hrg hwd hwl hu1 hu1z hu2 hu2z ha;by_cases hm0:m1=0
      ·have hm0':¬ (m1:Int) > 0:=by omega
       have HUU:Hid (bL u2=bL v4++((d.fields.map wFld).take j).flatten++(32::(bL x.name++(if m1=0 then [] else [32,40]++(wInps x.args++[32,41]))))):=Lh (by rw [HU2.out,if_pos hm0,List.append_nil])
       have huz:u2.size+(3+((zc2 x.tn x.tw).length+(wDirs x.dirs).length))<=1000000000:=by have:=HUZ.out; rw [if_pos hm0] at this; omega
       clear hm0;obtain ⟨ot,hot⟩ : ∃ ot:ByteArray,bL ot=zc2 x.tn x.tw:=⟨⟨(zc2 x.tn x.tw).toArray⟩,bL_mk _⟩;have hotz:ot.size=(zc2 x.tn x.tw).length:=by rw [<- za2,hot]
       obtain ⟨od2,hod2⟩ : ∃ od:ByteArray,bL od=wDirs x.dirs:=⟨⟨(wDirs x.dirs).toArray⟩,bL_mk _⟩;have hod2z:od2.size=(wDirs x.dirs).length:=by rw [<- za2,hod2]
       obtain ⟨s1,hs1,hd5⟩:=zb1 u2 ⟨#[32,58,32]⟩ (by show u2.size+3<=_; omega)
       have hs1z:s1.size=u2.size+3:=by rw [<- za2,hs1,List.length_append,za2]; rfl
       obtain ⟨s2,hs2,hd6⟩:=zb1 s1 ot (by omega)
       have hs2z:s2.size=s1.size+ot.size:=by rw [<- za2,hs2,List.length_append,za2,za2]
       obtain ⟨s3,hs3,hd7⟩:=zb1 s2 od2 (by omega)
       have HS3:Hid (bL s3=bL v4++((d.fields.map wFld).take (j+1)).flatten):=Lh (by rw [HXS.out,HWF.out,hs3,hs2,hs1,hot,hod2,HUU.out]; simp [bL])
       have HCR:Hid (∀ W,Below w.heap.size w W->Calls Tryz.prog 49 #[.agg #[.string x.tn,.slice B3 m3 e3]] W fun e w'=>e=.returned (.string ot)/\Below W.heap.size W w'):=Lh fun W hW=>by
        refine (K.zo5 x.tn HTN.out.1 x.tw (.agg #[.string x.tn,.slice B3 m3 e3]) W HTN.out.2 ((HTR.out.kept (hW.mono HBB.out)).mono (Nat.le_trans HBB.out hW.size))).mono ?_
        rintro e w' ⟨rfl,hb⟩;exact ⟨by rw [zg8 ((bL_mk (K.prL x.tn.data.toList x.tw)).trans (hot.symm:zc2 x.tn x.tw=bL ot))],hb⟩
       have HCD:Hid (∀ W,Below w.heap.size w W->Calls Tryz.prog 47 #[.slice B4 m4 e4] W fun e w'=>e=.returned (.string od2)/\Below W.heap.size W w'):=Lh fun W hW=>by
        refine (zj0 x.dirs HDK.out (.slice B4 m4 e4) W B (Sl.kept DirR.stays HDX.out (hW.mono HBB.out)) (Nat.le_trans HBB.out hW.size) (by omega)).mono ?_
        rintro e w' ⟨⟨o',rfl,ho'⟩,hb⟩;exact ⟨by rw [zg8 (ho'.trans hod2.symm)],hb⟩
       have HD5:=Lh hd5;have HD6:=Lh hd6;have HD7:=Lh hd7;clear hot hotz hod2 hod2z hs1 hs1z hs2 hs2z hs3 hd5 hd6 hd7 huz;go_wp2_with fail
       refine K.za6 (fun W=>Bk W wr.heap.size #[.string x.name,.slice B1 m1 e1,.string x.tn,.slice B3 m3 e3,.slice B4 m4 e4] 46 /\ Bk W w.heap.size #[.int .i64 k,.string d.name,.slice A2 n2 c2,.slice A3 n3 c3,.slice (some a) n4 c4,.slice A5 n5 c5,.slice A6 n6 c6] 39 /\ Below w.heap.size w W) ⟨HKF.out,HKX.out,HBF.out⟩ (by kernel_rfl) ?_
       rintro W ⟨hkf,hkx,hbw⟩ _;have HKF2:=Lh hkf;have HKX2:=Lh hkx;have HBW:=Lh hbw;have p2:∀ z:K.Past W,z.w.cell? ⟨wr.heap.size,2,none⟩=some (.string x.tn):=fun z=>(HKF2.out.stay z.b).cell 2 _ rfl;have p3:∀ z:K.Past W,z.w.cell? ⟨wr.heap.size,3,none⟩=some (.slice B3 m3 e3):=fun z=>(HKF2.out.stay z.b).cell 3 _ rfl;have p4:∀ z:K.Past W,z.w.cell? ⟨wr.heap.size,4,none⟩=some (.slice B4 m4 e4):=fun z=>(HKF2.out.stay z.b).cell 4 _ rfl;have kE:Hid (∀ z:K.Past W,Calls Tryz.prog 49 #[.agg #[.string x.tn,.slice B3 m3 e3]] z.w fun e w''=>e=.returned (.string ot)/\∃ t:K.Past W,w''=t.w):=Lh fun z=>K.zc5 z (HCR.out _ (HBW.out.trans (z.b.mono HBW.out.size)));have kD:Hid (∀ z:K.Past W,Calls Tryz.prog 47 #[.slice B4 m4 e4] z.w fun e w''=>e=.returned (.string od2)/\∃ t:K.Past W,w''=t.w):=Lh fun z=>K.zc5 z (HCD.out _ (HBW.out.trans (z.b.mono HBW.out.size)));have hd5:=HD5.out;have hd6:=HD6.out;have hd7:=HD7.out;clear hkf hkx hbw
       repeat (go_big_quiet_step (first | with_reducible exact kE.out _ | with_reducible exact kD.out _))
       refine wpQuiet_nil ?_
       intro _ hw';obtain ⟨z,rfl⟩:=hw';have HBZ:Hid (Below w.heap.size w z.w):=Lh (HBW.out.trans (z.b.mono HBW.out.size));have HKZ:Hid (Bk z.w w.heap.size #[.int .i64 k,.string d.name,.slice A2 n2 c2,.slice A3 n3 c3,.slice (some a) n4 c4,.slice A5 n5 c5,.slice A6 n6 c6] 39):=Lh (HKX2.out.stay z.b);clear p2 p3 p4 kE kD hd5 hd6 hd7 HKF2 HKX2 HBW HCR HCD;generalize z.w=wz at *;go_wp2_with fail
       go_roundw
       case rel=>exact ⟨j+1,s3,by omega,by go_num,rfl,Lh ⟨HS3.out,HBZ.out,HKZ.out⟩⟩
       case measure=>simp [intOf]; omega
      ·have hm0':(m1:Int) > 0:=by omega
       have huz0:=HUZ.out;rw [if_neg hm0] at huz0;obtain ⟨oa,hoa⟩ : ∃ oa:ByteArray,bL oa=wInps x.args:=⟨⟨(wInps x.args).toArray⟩,bL_mk _⟩;have hoaz:oa.size=(wInps x.args).length:=by rw [<- za2,hoa]
       obtain ⟨u3,hu3,hd3⟩:=zb1 u2 ⟨#[32,40]⟩ (by show u2.size+2<=_; omega)
       have hu3z:u3.size=u2.size+2:=by rw [<- za2,hu3,List.length_append,za2]; rfl
       obtain ⟨u4,hu4,hd4⟩:=zb1 u3 oa (by omega)
       have hu4z:u4.size=u3.size+oa.size:=by rw [<- za2,hu4,List.length_append,za2,za2]
       obtain ⟨u5,hu5,hd5'⟩:=zb1 u4 ⟨#[32,41]⟩ (by show u4.size+2<=_; omega)
       have hu5z:u5.size=u4.size+2:=by rw [<- za2,hu5,List.length_append,za2]; rfl
       have HUU:Hid (bL u5=bL v4++((d.fields.map wFld).take j).flatten++(32::(bL x.name++(if m1=0 then [] else [32,40]++(wInps x.args++[32,41]))))):=Lh (by rw [if_neg hm0,hu5,hu4,hu3,hoa,HU2.out]; simp [bL])
       have huz:u5.size+(3+((zc2 x.tn x.tw).length+(wDirs x.dirs).length))<=1000000000:=by omega
       have CALI:=Lh (zA8 x.args HAK.out (.slice B1 m1 e1) (wr.alloc (.cells #[.string x.name,.slice B1 m1 e1,.string x.tn,.slice B3 m3 e3,.slice B4 m4 e4] 46 (0,0))) B (Sl.kept InpR.stays HAR.out (HBF.out.mono HBB.out)) (Nat.le_trans HBB.out HBF.out.size) (by omega))
       have HOA:=Lh hoa;have HUZ2:=Lh huz;clear huz0 hoa hoaz hu3 hu3z hu4 hu4z hu5 hu5z huz;go_wp2_with fail
       refine CALI.out.mono ?_
       rintro e w6 ⟨⟨o',rfl,ho'⟩,hb6⟩;obtain rfl:o'=oa:=zg8 (ho'.trans HOA.out.symm);have HB6:=Lh (HBF.out.trans (hb6.mono HBF.out.size));have HKF6:=Lh (HKF.out.stay hb6);have HKX6:=Lh (HKX.out.stay hb6);have huz:=HUZ2.out;clear ho' hb6 CALI z0 z1;obtain ⟨ot,hot⟩ : ∃ ot:ByteArray,bL ot=zc2 x.tn x.tw:=⟨⟨(zc2 x.tn x.tw).toArray⟩,bL_mk _⟩;have hotz:ot.size=(zc2 x.tn x.tw).length:=by rw [<- za2,hot]
       obtain ⟨od2,hod2⟩ : ∃ od:ByteArray,bL od=wDirs x.dirs:=⟨⟨(wDirs x.dirs).toArray⟩,bL_mk _⟩;have hod2z:od2.size=(wDirs x.dirs).length:=by rw [<- za2,hod2]
       obtain ⟨s1,hs1,hd5⟩:=zb1 u5 ⟨#[32,58,32]⟩ (by show u5.size+3<=_; omega)
       have hs1z:s1.size=u5.size+3:=by rw [<- za2,hs1,List.length_append,za2]; rfl
       obtain ⟨s2,hs2,hd6⟩:=zb1 s1 ot (by omega)
       have hs2z:s2.size=s1.size+ot.size:=by rw [<- za2,hs2,List.length_append,za2,za2]
       obtain ⟨s3,hs3,hd7⟩:=zb1 s2 od2 (by omega)
       have HS3:Hid (bL s3=bL v4++((d.fields.map wFld).take (j+1)).flatten):=Lh (by rw [HXS.out,HWF.out,hs3,hs2,hs1,hot,hod2,HUU.out]; simp [bL])
       have HCR:Hid (∀ W,Below w.heap.size w W->Calls Tryz.prog 49 #[.agg #[.string x.tn,.slice B3 m3 e3]] W fun e w'=>e=.returned (.string ot)/\Below W.heap.size W w'):=Lh fun W hW=>by
        refine (K.zo5 x.tn HTN.out.1 x.tw (.agg #[.string x.tn,.slice B3 m3 e3]) W HTN.out.2 ((HTR.out.kept (hW.mono HBB.out)).mono (Nat.le_trans HBB.out hW.size))).mono ?_
        rintro e w' ⟨rfl,hb⟩;exact ⟨by rw [zg8 ((bL_mk (K.prL x.tn.data.toList x.tw)).trans (hot.symm:zc2 x.tn x.tw=bL ot))],hb⟩
       have HCD:Hid (∀ W,Below w.heap.size w W->Calls Tryz.prog 47 #[.slice B4 m4 e4] W fun e w'=>e=.returned (.string od2)/\Below W.heap.size W w'):=Lh fun W hW=>by
        refine (zj0 x.dirs HDK.out (.slice B4 m4 e4) W B (Sl.kept DirR.stays HDX.out (hW.mono HBB.out)) (Nat.le_trans HBB.out hW.size) (by omega)).mono ?_
        rintro e w' ⟨⟨o',rfl,ho'⟩,hb⟩;exact ⟨by rw [zg8 (ho'.trans hod2.symm)],hb⟩
       have HD5:=Lh hd5;have HD6:=Lh hd6;have HD7:=Lh hd7;clear hot hotz hod2 hod2z hs1 hs1z hs2 hs2z hs3 hd5 hd6 hd7 huz;go_wp2_with fail
       refine K.za6 (fun W=>Bk W wr.heap.size #[.string x.name,.slice B1 m1 e1,.string x.tn,.slice B3 m3 e3,.slice B4 m4 e4] 46 /\ Bk W w.heap.size #[.int .i64 k,.string d.name,.slice A2 n2 c2,.slice A3 n3 c3,.slice (some a) n4 c4,.slice A5 n5 c5,.slice A6 n6 c6] 39 /\ Below w.heap.size w W) ⟨HKF6.out,HKX6.out,HB6.out⟩ (by kernel_rfl) ?_
       rintro W ⟨hkf,hkx,hbw⟩ _;have HKF2:=Lh hkf;have HKX2:=Lh hkx;have HBW:=Lh hbw;have p2:∀ z:K.Past W,z.w.cell? ⟨wr.heap.size,2,none⟩=some (.string x.tn):=fun z=>(HKF2.out.stay z.b).cell 2 _ rfl;have p3:∀ z:K.Past W,z.w.cell? ⟨wr.heap.size,3,none⟩=some (.slice B3 m3 e3):=fun z=>(HKF2.out.stay z.b).cell 3 _ rfl;have p4:∀ z:K.Past W,z.w.cell? ⟨wr.heap.size,4,none⟩=some (.slice B4 m4 e4):=fun z=>(HKF2.out.stay z.b).cell 4 _ rfl;have kE:Hid (∀ z:K.Past W,Calls Tryz.prog 49 #[.agg #[.string x.tn,.slice B3 m3 e3]] z.w fun e w''=>e=.returned (.string ot)/\∃ t:K.Past W,w''=t.w):=Lh fun z=>K.zc5 z (HCR.out _ (HBW.out.trans (z.b.mono HBW.out.size)));have kD:Hid (∀ z:K.Past W,Calls Tryz.prog 47 #[.slice B4 m4 e4] z.w fun e w''=>e=.returned (.string od2)/\∃ t:K.Past W,w''=t.w):=Lh fun z=>K.zc5 z (HCD.out _ (HBW.out.trans (z.b.mono HBW.out.size)));have hd5:=HD5.out;have hd6:=HD6.out;have hd7:=HD7.out;clear hkf hkx hbw
       repeat (go_big_quiet_step (first | with_reducible exact kE.out _ | with_reducible exact kD.out _))
       refine wpQuiet_nil ?_
       intro _ hw';obtain ⟨z,rfl⟩:=hw';have HBZ:Hid (Below w.heap.size w z.w):=Lh (HBW.out.trans (z.b.mono HBW.out.size));have HKZ:Hid (Bk z.w w.heap.size #[.int .i64 k,.string d.name,.slice A2 n2 c2,.slice A3 n3 c3,.slice (some a) n4 c4,.slice A5 n5 c5,.slice A6 n6 c6] 39):=Lh (HKX2.out.stay z.b);clear p2 p3 p4 kE kD hd5 hd6 hd7 HKF2 HKX2 HBW HCR HCD;generalize z.w=wz at *;go_wp2_with fail
       go_roundw
       case rel=>exact ⟨j+1,s3,by omega,by go_num,rfl,Lh ⟨HS3.out,HBZ.out,HKZ.out⟩⟩
       case measure=>simp [intOf]; omega
     ·have hlt':¬ (j:Int)<n4:=by omega
      have hjn:j=n4:=by omega
      have HF:Hid (bL o=bL v4++(d.fields.map wFld).flatten):=Lh (by rw [hq.out.1,List.take_of_length_le (by rw [List.length_map]; have:=H4.out; omega)])
      obtain ⟨vf,hvf⟩ : ∃ v:ByteArray,v=o:=⟨_,rfl⟩;have hfz:vf.size=v4.size+(d.fields.map wFld).flatten.length:=by rw [hvf, <- za2,HF.out,List.length_append,za2]
      rw [<- hvf] at HF;have HVF:Hid (vf.size+((d.members.map wMem).flatten.length+((wInps d.inputs).length+2))<=1000000000):=Lh (by have:=HV4Z.out; omega)
      have HB7:=Lh hq.out.2.1;have HK7:=Lh hq.out.2.2;subst hvf;clear hfz;go_wp2_with fail
      clear y4
      go_loopw [4,9] (fun u i wr=>∃ (j:Nat) (o:ByteArray),j<=n5/\i=.int .i64 j/\u=.string o/\Hid (bL o=bL vf++((d.members.map wMem).take j).flatten/\Below w.heap.size w wr/\Bk wr w.heap.size #[.int .i64 k,.string d.name,.slice A2 n2 c2,.slice A3 n3 c3,.slice A4 n4 c4,.slice A5 n5 c5,.slice A6 n6 c6] 39)) (fun _ i _=>n5-(intOf i).toNat)
      case atStart=>exact ⟨0,vf,Nat.zero_le _,rfl,rfl,Lh ⟨by simp,HB7.out,HK7.out⟩⟩
      case round =>
       obtain ⟨j2,o2,hj2,rfl,rfl,hq2⟩:=hrel;have y5:=hq2.out.2.2.cell 5 _ rfl;by_cases hlt2:j2<n5
       ·have hlt2':(j2:Int)<n5:=by omega
        obtain ⟨x,hd⟩ : ∃ x,d.members[j2]?=some x:=⟨_,List.getElem?_eq_getElem (by rw [<- H5.out]; exact hlt2)⟩
        have hxm:(d.members.map wMem)[j2]?=some (wMem x):=by rw [List.getElem?_map,hd]; rfl
        have hst:=zl9 hxm;have HXS:=Lh (zk4 hxm);have htl:=HVF.out;have hoz:o2.size=vf.size+((d.members.map wMem).take j2).flatten.length:=by rw [<- za2,hq2.out.1,List.length_append,za2]
        obtain ⟨a5,rfl,ha,hx⟩:=HA5.out (by omega)
        have hxr:=HR5.out j2 x hd;obtain ⟨B4,e4,hg4,_⟩:=hxr.dirs;obtain ⟨m4,hm4⟩ : ∃ m,m=x.dirs.length:=⟨_,rfl⟩;rw [<- hm4] at hg4;have HDX:Hid (DirsR w B (.slice B4 m4 e4) x.dirs):=Lh (by have:=hxr.dirs; rw [hg4] at this; exact this)
        have HAB:=Lh ha;have HC0:Hid (w.cell? (a5.add (j2*2))=some (.string x.name)):=Lh ((hx j2 hlt2 0 (by omega)).trans (by rw [hxr.name]))
        have HC1:Hid (w.cell? ⟨(a5.add (j2*2)).block,(a5.add (j2*2)).off+1,none⟩=some (.slice B4 m4 e4)):=Lh ((hx j2 hlt2 1 (by omega)).trans (by rw [hg4]))
        have HDK:=Lh (mem_ok4 HOK.out (by rw [HKK.out]; exact hk3') x (List.mem_of_getElem? hd))
        have hwl:(wMem x).length=1+(x.name.size+(wDirs x.dirs).length):=by unfold wMem; rw [List.length_cons,List.length_append,za2]; omega
        obtain ⟨od2,hod2⟩ : ∃ od:ByteArray,bL od=wDirs x.dirs:=⟨⟨(wDirs x.dirs).toArray⟩,bL_mk _⟩;have hod2z:od2.size=(wDirs x.dirs).length:=by rw [<- za2,hod2]
        obtain ⟨s1,hs1,hd5⟩:=zb1 o2 ⟨#[32]⟩ (by show o2.size+1<=_; omega)
        have hs1z:s1.size=o2.size+1:=by rw [<- za2,hs1,List.length_append,za2]; rfl
        obtain ⟨s2,hs2,hd6⟩:=zb1 s1 x.name (by omega)
        have hs2z:s2.size=s1.size+x.name.size:=by rw [<- za2,hs2,List.length_append,za2,za2]
        obtain ⟨s3,hs3,hd7⟩:=zb1 s2 od2 (by omega)
        have HS3:Hid (bL s3=bL vf++((d.members.map wMem).take (j2+1)).flatten):=Lh (by rw [HXS.out,hs3,hs2,hs1,hod2,hq2.out.1]; unfold wMem; simp [bL])
        have HCD:Hid (∀ W,Below w.heap.size w W->Calls Tryz.prog 47 #[.slice B4 m4 e4] W fun e w'=>e=.returned (.string od2)/\Below W.heap.size W w'):=Lh fun W hW=>by
         refine (zj0 x.dirs HDK.out (.slice B4 m4 e4) W B (Sl.kept DirR.stays HDX.out (hW.mono HBB.out)) (Nat.le_trans HBB.out hW.size) (by omega)).mono ?_
         rintro e w' ⟨⟨o',rfl,ho'⟩,hb⟩;exact ⟨by rw [zg8 (ho'.trans hod2.symm)],hb⟩
        have HD5:=Lh hd5;have HD6:=Lh hd6;have HD7:=Lh hd7;clear hd hxm hst htl hoz ha hx hxr hg4 hm4 hwl hod2 hod2z hs1 hs1z hs2 hs2z hs3 hd5 hd6 hd7;go_wp2_with fail
        refine K.za6 (fun W=>Bk W w.heap.size #[.int .i64 k,.string d.name,.slice A2 n2 c2,.slice A3 n3 c3,.slice A4 n4 c4,.slice (some a5) n5 c5,.slice A6 n6 c6] 39 /\ Below w.heap.size w W) ⟨hq2.out.2.2,hq2.out.2.1⟩ (by kernel_rfl) ?_
        rintro W ⟨hkx,hbw⟩ _;have HKX2:=Lh hkx;have HBW:=Lh hbw;have hkp:∀ (z:K.Past W) (p:Addr),p.block<B->z.w.cell? p=w.cell? p:=fun z p hp=>((HBW.out.trans (z.b.mono HBW.out.size)).mono HBB.out).cell hp;have p5:∀ z:K.Past W,z.w.cell? ⟨w.heap.size,5,none⟩=some (.slice (some a5) n5 c5):=fun z=>(HKX2.out.stay z.b).cell 5 _ rfl;have r0:∀ z:K.Past W,z.w.cell? (a5.add (j2*2))=some (.string x.name):=fun z=>(hkp z _ (by rw [za0]; exact HAB.out)).trans HC0.out
        have r1:∀ z:K.Past W,z.w.cell? ⟨(a5.add (j2*2)).block,(a5.add (j2*2)).off+1,none⟩=some (.slice B4 m4 e4):=fun z=>(hkp z _ (by show (a5.add (j2*2)).block<B; rw [za0]; exact HAB.out)).trans HC1.out
        have kD:Hid (∀ z:K.Past W,Calls Tryz.prog 47 #[.slice B4 m4 e4] z.w fun e w''=>e=.returned (.string od2)/\∃ t:K.Past W,w''=t.w):=Lh fun z=>K.zc5 z (HCD.out _ (HBW.out.trans (z.b.mono HBW.out.size)));have hd5:=HD5.out;have hd6:=HD6.out;have hd7:=HD7.out;clear hkx hbw hkp y5
        repeat (go_big_quiet_step (with_reducible exact kD.out _))
        refine wpQuiet_nil ?_
        intro _ hw';obtain ⟨z,rfl⟩:=hw';have HBZ:Hid (Below w.heap.size w z.w):=Lh (HBW.out.trans (z.b.mono HBW.out.size));have HKZ:Hid (Bk z.w w.heap.size #[.int .i64 k,.string d.name,.slice A2 n2 c2,.slice A3 n3 c3,.slice A4 n4 c4,.slice (some a5) n5 c5,.slice A6 n6 c6] 39):=Lh (HKX2.out.stay z.b);clear p5 r0 r1 kD hd5 hd6 hd7 HKX2 HBW HCD;generalize z.w=wz at *;go_wp2_with fail
        go_roundw
        case rel=>exact ⟨j2+1,s3,by omega,by go_num,rfl,Lh ⟨HS3.out,HBZ.out,HKZ.out⟩⟩
        case measure=>simp [intOf]; omega
       ·have hlt2':¬ (j2:Int)<n5:=by omega
        have HM:Hid (bL o2=bL vf++(d.members.map wMem).flatten):=Lh (by rw [hq2.out.1,List.take_of_length_le (by rw [List.length_map]; have:=H5.out; omega)])
        have hoz2:o2.size=vf.size+(d.members.map wMem).flatten.length:=by rw [<- za2,HM.out,List.length_append,za2]
        have hvz:=HVF.out;obtain ⟨oi,hoi⟩ : ∃ oi:ByteArray,bL oi=wInps d.inputs:=⟨⟨(wInps d.inputs).toArray⟩,bL_mk _⟩;have hoiz:oi.size=(wInps d.inputs).length:=by rw [<- za2,hoi]
        obtain ⟨x1,hx1,hd8⟩:=zb1 o2 oi (by omega)
        have hx1z:x1.size=o2.size+oi.size:=by rw [<- za2,hx1,List.length_append,za2,za2]
        obtain ⟨x2,hx2,hd9⟩:=zb1 x1 ⟨#[32,125]⟩ (by show x1.size+2<=_; omega)
        have HFIN:Hid (bL x2=wDef d):=Lh (by rw [hx2,hx1,hoi,HM.out,HF.out,HV4.out,HV3.out,HWD.out,HR3.out]; simp [bL])
        have hik:=inp_ok4 HOK.out (by rw [HKK.out]; exact hk3')
        have y6:=hq2.out.2.2.cell 6 _ rfl;have CALI:=Lh (zA8 d.inputs hik (.slice A6 n6 c6) wr B (Sl.kept InpR.stays HIN.out (hq2.out.2.1.mono HBB.out)) (Nat.le_trans HBB.out hq2.out.2.1.size) (by omega))
        have HOI:=Lh hoi;clear hoz2 hvz hoi hoiz hx1 hx1z hx2 hik;go_wp2_with fail
        refine CALI.out.mono ?_
        rintro e w9 ⟨⟨o',rfl,ho'⟩,hb9⟩;obtain rfl:o'=oi:=zg8 (ho'.trans HOI.out.symm);have HB9:=Lh (hq2.out.2.1.trans (hb9.mono hq2.out.2.1.size));clear ho' hb9 CALI;go_wp2_with fail
        go_ret
        exact ⟨⟨x2,rfl,HFIN.out⟩,HB9.out⟩
theorem zU9 (l:List DefT) (hok:∀ d∈l,defOk d=true) (u:Value) (w:World) (B:Nat) (h:DefsR w B u l) (hB:B<=w.heap.size) (hl:(wDoc l).length<=1000000000):Calls Tryz.prog 11 #[.agg #[u]] w (SP (wDoc l) w):=by
 obtain ⟨A,c,rfl,hc,hbb,V,hA,hr⟩:=h;obtain ⟨ll,hll⟩ : ∃ ll,ll=l.length:=⟨_,rfl⟩;have HLL:=Lh hll;rw [<- hll] at hbb hA ⊢;have hlb:(ll:Int)<=140737488351232:=by unfold big at hbb; omega
 have HA:=Lh hA;have HRR:=Lh hr;have HOK:=Lh hok;have HTL:Hid ((jn [32] (l.map wDef)).length<=1000000000):=Lh hl;have HBB:=Lh hB;have HB0:=Lh (za1 w (.cells #[.slice A ll c] 24 (0,0)));have HK0:=Lh (Bk.new w #[.slice A ll c] 24);clear hA hr hok hl hll hbb hB
 go_enter Tryz.func11, Tryz.ntmps11
 go_wp2_with fail
 go_loopw [3,4] (fun u i wr=>∃ (j:Nat) (o:ByteArray),j<=ll/\i=.int .i64 j/\u=.string o/\Hid (bL o=jn [32] ((l.map wDef).take j)/\Below w.heap.size w wr/\Bk wr w.heap.size #[.slice A ll c] 24)) (fun _ i _=>ll-(intOf i).toNat)
 case atStart=>exact ⟨0,⟨#[]⟩,Nat.zero_le _,rfl,rfl,Lh ⟨rfl,HB0.out,HK0.out⟩⟩
 case round =>
  obtain ⟨j,o,hj,rfl,rfl,hq⟩:=hrel;have y0:=hq.out.2.2.cell 0 _ rfl;by_cases hlt:j<ll
  ·have hlt':(j:Int)<ll:=by omega
   obtain ⟨d,hd⟩ : ∃ d,l[j]?=some d:=⟨_,List.getElem?_eq_getElem (by have:=HLL.out; omega)⟩
   have hoz:o.size=(jn [32] ((l.map wDef).take j)).length:=by rw [<- za2,hq.out.1]
   have hxm:(l.map wDef)[j]?=some (wDef d):=by rw [List.getElem?_map,hd]; rfl
   have hst:=zW9 [32] hxm;have htl:=HTL.out;have HXS:=Lh (yg3 [32] hxm);obtain ⟨a,rfl,ha,hx⟩:=HA.out (by omega)
   have hdr:=HRR.out j d hd;have hcl:∀ q,q<7->wr.cell? (at_ (a.add (j*7)) q)=some (V j q):=fun q hq2=>((hq.out.2.1.mono HBB.out).cell (by rw [zb3,za0]; exact ha)).trans (hx j hlt q hq2)
   have r0:wr.cell? (a.add (j*7))=some (V j 0):=hcl 0 (by omega)
   have r1:wr.cell? ⟨(a.add (j*7)).block,(a.add (j*7)).off+1,none⟩=some (V j 1):=hcl 1 (by omega)
   have r2:wr.cell? ⟨(a.add (j*7)).block,(a.add (j*7)).off+2,none⟩=some (V j 2):=hcl 2 (by omega)
   have r3:wr.cell? ⟨(a.add (j*7)).block,(a.add (j*7)).off+3,none⟩=some (V j 3):=hcl 3 (by omega)
   have r4:wr.cell? ⟨(a.add (j*7)).block,(a.add (j*7)).off+4,none⟩=some (V j 4):=hcl 4 (by omega)
   have r5:wr.cell? ⟨(a.add (j*7)).block,(a.add (j*7)).off+5,none⟩=some (V j 5):=hcl 5 (by omega)
   have r6:wr.cell? ⟨(a.add (j*7)).block,(a.add (j*7)).off+6,none⟩=some (V j 6):=hcl 6 (by omega)
   obtain ⟨od,hod⟩ : ∃ od:ByteArray,bL od=wDef d:=⟨⟨(wDef d).toArray⟩,bL_mk _⟩;have hodz:od.size=(wDef d).length:=by rw [<- za2,hod]
   have CALL:=Lh (ya9 d (HOK.out d (List.mem_of_getElem? hd)) (V j) wr B (DefR.stays.kept hdr (hq.out.2.1.mono HBB.out)) (Nat.le_trans HBB.out hq.out.2.1.size) (by split at hst <;> (try simp only [List.length_cons,List.length_nil] at hst) <;> omega))
   have HOD:=Lh hod;by_cases hk0:j=0
   ·have hk0':¬ (0:Int)<(j:Int):=by omega
    obtain ⟨s1,hs1,hd1⟩:=zb1 o od (by split at hst <;> (try simp only [List.length_nil] at hst) <;> omega)
    have HS:Hid (bL s1=jn [32] ((l.map wDef).take (j+1))):=Lh (by rw [HXS.out,if_pos hk0,hs1,hod,hq.out.1]; simp)
    clear hd hoz hxm hst htl ha hx hdr hcl hod hodz hs1 hk0;go_wp2_with fail
    refine CALL.out.mono ?_
    rintro e w8 ⟨⟨o',rfl,ho'⟩,hb8⟩;obtain rfl:o'=od:=zg8 (ho'.trans HOD.out.symm);have HB8:=Lh (hq.out.2.1.trans (hb8.mono hq.out.2.1.size));have HK8:=Lh (hq.out.2.2.stay hb8);clear ho' hb8 CALL r0 r1 r2 r3 r4 r5 r6;go_wp2_with fail
    go_roundw
    case rel=>exact ⟨j+1,s1,by omega,by go_num,rfl,Lh ⟨HS.out,HB8.out,HK8.out⟩⟩
    case measure=>simp [intOf]; omega
   ·have hk0':(0:Int)<(j:Int):=by omega
    obtain ⟨s0,hs0,hd0⟩:=zb1 o ⟨#[32]⟩ (by rw [if_neg hk0] at hst; simp only [List.length_cons,List.length_nil] at hst; show o.size+1<=_; omega)
    have hs0z:s0.size=o.size+1:=by rw [<- za2,hs0,List.length_append,za2]; rfl
    obtain ⟨s1,hs1,hd1⟩:=zb1 s0 od (by rw [if_neg hk0] at hst; simp only [List.length_cons,List.length_nil] at hst; omega)
    have HS:Hid (bL s1=jn [32] ((l.map wDef).take (j+1))):=Lh (by rw [HXS.out,if_neg hk0,hs1,hod,hs0,hq.out.1]; simp [bL])
    clear hd hoz hxm hst htl ha hx hdr hcl hod hodz hs1 hs0 hs0z hk0;go_wp2_with fail
    refine CALL.out.mono ?_
    rintro e w8 ⟨⟨o',rfl,ho'⟩,hb8⟩;obtain rfl:o'=od:=zg8 (ho'.trans HOD.out.symm);have HB8:=Lh (hq.out.2.1.trans (hb8.mono hq.out.2.1.size));have HK8:=Lh (hq.out.2.2.stay hb8);clear ho' hb8 CALL r0 r1 r2 r3 r4 r5 r6;go_wp2_with fail
    go_roundw
    case rel=>exact ⟨j+1,s1,by omega,by go_num,rfl,Lh ⟨HS.out,HB8.out,HK8.out⟩⟩
    case measure=>simp [intOf]; omega
  ·have hjn:j=ll:=by omega
   have hlt':¬ (j:Int)<ll:=by omega
   have HF:Hid (bL o=wDoc l):=Lh (by rw [hq.out.1,List.take_of_length_le (by rw [List.length_map]; have:=HLL.out; omega)]; rfl)
   go_wp2_with fail
   go_ret
   exact ⟨⟨o,rfl,HF.out⟩,hq.out.2.1⟩
end Go.Proofs.YtfgelheiknmjgaaGreatDoor
