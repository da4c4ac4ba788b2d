
/-
 Texts joined: L2.
-/
import Derived.Test.YtfgelheiknmjgaaGreatDoorZr26
set_option maxRecDepth 1000000
set_option maxHeartbeats 8000000
namespace Go.Proofs.YtfgelheiknmjgaaGreatDoor
open Go.RowKit
theorem ref_ge (n:ByteArray) (ws:List Int):n.size<=(zc2 n ws).length:=by
 have h:=za2 n;unfold bL at h;unfold zc2 K.prL;rw [List.length_append,List.length_append]; omega
theorem zA8 (l:List InpT) (hok:∀ x∈l,inpOk x=true) (u:Value) (w:World) (B:Nat) (h:InpsR w B u l) (hB:B<=w.heap.size) (hl:(wInps l).length<=1000000000):Calls Tryz.prog 48 #[u] w (SP (wInps l) w):=by
 obtain ⟨A,c,rfl,hc,hbb,V,hA,hr⟩:=h;obtain ⟨ll,hll⟩ : ∃ ll,ll=l.length:=⟨_,rfl⟩;have HLL:=Lh hll;rw [<- hll] at hbb hA ⊢;have hlb:(ll:Int)<=140737488351232:=by unfold big at hbb; omega
 have HA:=Lh hA;have HRR:=Lh hr;have HOK:=Lh hok;have HTL:Hid ((l.map wInp).flatten.length<=1000000000):=Lh hl;have HBB:=Lh hB;clear hA hr hok hl hll hbb hB
 go_enter Tryz.func48, Tryz.ntmps48
 go_wp2_with fail
 go_loopw [3,4] (fun u i wr=>∃ (j:Nat) (o:ByteArray),j<=ll/\i=.int .i64 j/\u=.string o/\Hid (bL o=((l.map wInp).take j).flatten/\Below w.heap.size w wr)) (fun _ i _=>ll-(intOf i).toNat)
 case atStart=>exact ⟨0,⟨#[]⟩,Nat.zero_le _,rfl,rfl,Lh ⟨rfl,Below.refl _ _⟩⟩
 case round =>
  obtain ⟨j,o,hj,rfl,rfl,hq⟩:=hrel;by_cases hlt:j<ll
  ·have hlt':(j:Int)<ll:=by omega
   obtain ⟨x,hd⟩ : ∃ x,l[j]?=some x:=⟨_,List.getElem?_eq_getElem (by have:=HLL.out; omega)⟩
   have hoz:o.size=((l.map wInp).take j).flatten.length:=by rw [<- za2,hq.out.1]
   have hxm:(l.map wInp)[j]?=some (wInp x):=by rw [List.getElem?_map,hd]; rfl
   have hst:=zl9 hxm;have htl:=HTL.out;have HXS:=Lh (zk4 hxm);obtain ⟨a,rfl,ha,hx⟩:=HA.out (by omega)
   have hdr:=HRR.out j x hd;have HCC:Hid (∀ q,q<10->∀ v,V j q=v->w.cell? (at_ (a.add (j*10)) q)=some v):=Lh fun q hq v hv=>hv▸hx j hlt q hq;have hik:=HOK.out x (List.mem_of_getElem? hd);unfold inpOk at hik;simp only [Bool.and_eq_true] at hik
   obtain ⟨i1,i2,i3,i4⟩:=hik;have HDK:=Lh i4;have HFK:=Lh i3;have h24:x.tw.length<=24:=by
    unfold K.okB at i2;simp only [Bool.and_eq_true,decide_eq_true_eq] at i2
    exact i2.1.2
   have HN0:=Lh hdr.name;obtain ⟨hs,hhs⟩ : ∃ hs,x.has=hs:=⟨_,rfl⟩;have HE3:Hid (V j 3=.bool hs):=Lh (by rw [hdr.has,hhs])
   obtain ⟨k1,n1,s1,A3,li1,ci1,K1,lk1,ck1,e1,e2,e3,e4,e5⟩:=Rd.form hdr.val;have HV4:=Lh e1;have HV5:=Lh e2;have HV6:=Lh e3;have HV7:=Lh e4;have HV8:=Lh e5;have HVV:Hid (Rd w B (.agg #[.int .i64 k1,.int .i64 n1,.string s1,.slice A3 li1 ci1,.slice K1 lk1 ck1]) x.dflt):=Lh (by
    have:=hdr.val;rw [e1,e2,e3,e4,e5] at this;exact this)
   have ht1:=hdr.type.name;obtain ⟨A2,c2,ht2,_⟩:=hdr.type.wraps;have HT1:=Lh ht1;have HT2:=Lh ht2;have HTR:Hid (K.RefV w B (.agg #[.string x.tn,.slice A2 x.tw.length c2]) x.tn x.tw):=Lh (by
    have:=zo9 hdr.type;rw [ht1,ht2] at this;exact this)
   have HDR0:=Lh hdr.dirs;obtain ⟨A9,c9,ht9,_⟩:=hdr.dirs;obtain ⟨l9,hl9⟩ : ∃ l9,l9=x.dirs.length:=⟨_,rfl⟩;rw [<- hl9] at ht9;have HE9:=Lh ht9;have HDR:Hid (DirsR w B (.slice A9 l9 c9) x.dirs):=Lh (by
    have:=HDR0.out;rw [ht9] at this;exact this)
   have hrg:=ref_ge x.tn x.tw;have hwd:wInp x=32::(bL x.name++([32,58,32]++(zc2 x.tn x.tw++((if hs=true then [32,61,32]++x.dflt.lit else [])++wDirs x.dirs)))):=by rw [<- hhs]; rfl
   have HWI:=Lh hwd;have hwl:(wInp x).length=1+(x.name.size+(3+((zc2 x.tn x.tw).length+((if hs=true then 3+x.dflt.lit.length else 0)+(wDirs x.dirs).length)))):=by
    rw [hwd,List.length_cons,List.length_append,List.length_append,List.length_append,List.length_append,za2]
    split
    ·rw [List.length_append]; simp only [List.length_cons,List.length_nil]; omega
    ·simp only [List.length_cons,List.length_nil]; omega
   have HAB:=Lh ha;obtain ⟨ot,hot⟩ : ∃ ot:ByteArray,bL ot=zc2 x.tn x.tw:=⟨⟨(zc2 x.tn x.tw).toArray⟩,bL_mk _⟩;have hotz:ot.size=(zc2 x.tn x.tw).length:=by rw [<- za2,hot]
   obtain ⟨v1,hv1,hd1⟩:=zb1 o ⟨#[32]⟩ (by show o.size+1<=_; omega)
   have hv1z:v1.size=o.size+1:=by rw [<- za2,hv1,List.length_append,za2]; rfl
   obtain ⟨v2,hv2,hd2⟩:=zb1 v1 x.name (by omega)
   have hv2z:v2.size=v1.size+x.name.size:=by rw [<- za2,hv2,List.length_append,za2,za2]
   obtain ⟨v3,hv3,hd3⟩:=zb1 v2 ⟨#[32,58,32]⟩ (by show v2.size+3<=_; omega)
   have hv3z:v3.size=v2.size+3:=by rw [<- za2,hv3,List.length_append,za2]; rfl
   obtain ⟨v4,hv4,hd4⟩:=zb1 v3 ot (by omega)
   have hv4z:v4.size=o.size+(1+(x.name.size+(3+(zc2 x.tn x.tw).length))):=by rw [<- za2,hv4,List.length_append,za2,za2]; omega
   have HV4E:Hid (bL v4=((l.map wInp).take j).flatten++(32::(bL x.name++([32,58,32]++zc2 x.tn x.tw)))):=Lh (by rw [hv4,hv3,hv2,hv1,hot,hq.out.1]; simp [bL])
   have hsz:v4.size+((if hs=true then 3+x.dflt.lit.length else 0)+(wDirs x.dirs).length)<=1000000000:=by omega
   have HSZ:=Lh hsz;have htn:x.tn.size<=1000000000:=by omega
   have HCR:Hid (∀ W,Below w.heap.size w W->Calls Tryz.prog 49 #[.agg #[.string x.tn,.slice A2 x.tw.length c2]] W fun e w'=>e=.returned (.string ot)/\Below W.heap.size W w'):=Lh fun W hW=>by
    refine (K.zo5 x.tn htn x.tw (.agg #[.string x.tn,.slice A2 x.tw.length c2]) W (by omega) ((HTR.out.kept (hW.mono HBB.out)).mono (Nat.le_trans HBB.out hW.size))).mono ?_
    rintro e w' ⟨rfl,hb⟩;exact ⟨by rw [zg8 ((bL_mk (K.prL x.tn.data.toList x.tw)).trans (hot.symm:zc2 x.tn x.tw=bL ot))],hb⟩
   have HD1:=Lh hd1;have HD2:=Lh hd2;have HD3:=Lh hd3;have HD4:=Lh hd4;obtain ⟨lt,hlt2⟩ : ∃ lt,lt=x.tw.length:=⟨_,rfl⟩;rw [<- hlt2] at HT2 HCR;clear hd hoz hxm hst htl hx hdr i1 i2 i3 i4 h24 e1 e2 e3 e4 e5 ht1 ht2 ht9 hrg hwd hwl hot hotz hv1 hv1z hv2 hv2z hv3 hv3z hv4 hv4z hsz htn hd1 hd2 hd3 hd4 ha HTR HDR0 hl9 hlt2;go_wp2_with fail
   refine K.za6 (fun W=>Below w.heap.size w W) hq.out.2 (by kernel_rfl) ?_
   rintro W hbw _;have HBW:=Lh hbw;have hkp:∀ (z:K.Past W) (p:Addr),p.block<B->z.w.cell? p=w.cell? p:=fun z p hp=>((HBW.out.trans (z.b.mono HBW.out.size)).mono HBB.out).cell hp;have r0:∀ z:K.Past W,z.w.cell? (a.add (j*10))=some (.string x.name):=fun z=>(hkp z _ (by rw [za0]; exact HAB.out)).trans (HCC.out 0 (by omega) _ HN0.out)
   have r1:∀ z:K.Past W,z.w.cell? ⟨(a.add (j*10)).block,(a.add (j*10)).off+1,none⟩=some (.string x.tn):=fun z=>(hkp z _ (by show (a.add (j*10)).block<B; rw [za0]; exact HAB.out)).trans (HCC.out 1 (by omega) _ HT1.out)
   have r2:∀ z:K.Past W,z.w.cell? ⟨(a.add (j*10)).block,(a.add (j*10)).off+2,none⟩=some (.slice A2 lt c2):=fun z=>(hkp z _ (by show (a.add (j*10)).block<B; rw [za0]; exact HAB.out)).trans (HCC.out 2 (by omega) _ HT2.out)
   have kE:Hid (∀ z:K.Past W,Calls Tryz.prog 49 #[.agg #[.string x.tn,.slice A2 lt c2]] z.w fun e w''=>e=.returned (.string ot)/\∃ t:K.Past W,w''=t.w):=Lh fun z=>K.zc5 z (HCR.out _ (HBW.out.trans (z.b.mono HBW.out.size)));have hd1:=HD1.out;have hd2:=HD2.out;have hd3:=HD3.out;have hd4:=HD4.out;clear hbw hkp
   repeat (go_big_quiet_step (with_reducible exact kE.out _))
   refine wpQuiet_nil ?_
   intro _ hw';obtain ⟨z,rfl⟩:=hw';have HBY:Hid (Below w.heap.size w z.w):=Lh (HBW.out.trans (z.b.mono HBW.out.size));clear r0 r1 r2 kE hd1 hd2 hd3 hd4 HBW HCR;generalize z.w=wy at *;have k3:wy.cell? ⟨(a.add (j*10)).block,(a.add (j*10)).off+3,none⟩=some (.bool hs):=((HBY.out.mono HBB.out).cell (p:=⟨(a.add (j*10)).block,(a.add (j*10)).off+3,none⟩) (by rw [za0]; exact HAB.out)).trans (HCC.out 3 (by omega) _ HE3.out)
   cases hs with
   | false =>
     have HIF:Hid ((if false=true then [32,61,32]++x.dflt.lit else [])=[]):=Lh rfl
     have hsz:=HSZ.out;have OZ:v4.size+(wDirs x.dirs).length<=1000000000:=by rw [if_neg (by decide)] at hsz; omega
     have HOO:Hid (bL v4=((l.map wInp).take j).flatten++(32::(bL x.name++([32,58,32]++(zc2 x.tn x.tw++[]))))):=Lh (by rw [HV4E.out,List.append_nil])
     have HBW:Hid (Below w.heap.size w wy):=HBY;clear hsz;have hdz:(wDirs x.dirs).length<=1000000000:=by omega
     obtain ⟨od,hod⟩ : ∃ od:ByteArray,bL od=wDirs x.dirs:=⟨⟨(wDirs x.dirs).toArray⟩,bL_mk _⟩;have hodz:od.size=(wDirs x.dirs).length:=by rw [<- za2,hod]
     obtain ⟨ve,hve,hde⟩:=zb1 v4 od (by omega)
     have HVE:Hid (bL ve=((l.map wInp).take (j+1)).flatten):=Lh (by rw [hve,hod,HOO.out,HXS.out,HWI.out]; simp)
     have k9:wy.cell? ⟨(a.add (j*10)).block,(a.add (j*10)).off+9,none⟩=some (.slice A9 l9 c9):=((HBW.out.mono HBB.out).cell (p:=⟨(a.add (j*10)).block,(a.add (j*10)).off+9,none⟩) (by rw [za0]; exact HAB.out)).trans (HCC.out 9 (by omega) _ HE9.out)
     have CALD:=Lh (zj0 x.dirs HDK.out (.slice A9 l9 c9) wy B (Sl.kept DirR.stays HDR.out (HBW.out.mono HBB.out)) (Nat.le_trans HBB.out HBW.out.size) (by omega))
     have HOD:=Lh hod;clear hod hodz hve hdz OZ;go_wp2_with fail
     refine CALD.out.mono ?_
     rintro e w8 ⟨⟨o',rfl,ho'⟩,hb8⟩;obtain rfl:o'=od:=zg8 (ho'.trans HOD.out.symm);have HB8:=Lh (HBW.out.trans (hb8.mono HBW.out.size));clear ho' hb8 CALD k9;go_wp2_with fail
     go_roundw
     case rel=>exact ⟨j+1,ve,by omega,by go_num,rfl,Lh ⟨HVE.out,HB8.out⟩⟩
     case measure=>simp [intOf]; omega
   | true =>
     have HIF:Hid ((if true=true then [32,61,32]++x.dflt.lit else [])=[32,61,32]++x.dflt.lit):=Lh rfl
     have hsz:=HSZ.out;rw [if_pos rfl] at hsz;have hcs:x.dflt.cst=true:=by
      have h3:=HFK.out;rw [hhs] at h3;exact yf9 h3
     obtain ⟨ol,hol⟩ : ∃ ol:ByteArray,bL ol=x.dflt.lit:=⟨⟨x.dflt.lit.toArray⟩,bL_mk _⟩;have holz:ol.size=x.dflt.lit.length:=by rw [<- za2,hol]
     obtain ⟨v5,hv5,hd5⟩:=zb1 v4 ⟨#[32,61,32]⟩ (by show v4.size+3<=_; omega)
     have hv5z:v5.size=v4.size+3:=by rw [<- za2,hv5,List.length_append,za2]; rfl
     obtain ⟨v6,hv6,hd6⟩:=zb1 v5 ol (by omega)
     have hv6z:v6.size=v5.size+ol.size:=by rw [<- za2,hv6,List.length_append,za2,za2]
     have OZ:v6.size+(wDirs x.dirs).length<=1000000000:=by omega
     have HOO:Hid (bL v6=((l.map wInp).take j).flatten++(32::(bL x.name++([32,58,32]++(zc2 x.tn x.tw++([32,61,32]++x.dflt.lit)))))):=Lh (by rw [hv6,hv5,hol,HV4E.out]; simp [bL])
     have hkp:∀ p:Addr,p.block<B->wy.cell? p=w.cell? p:=fun p hp=>(HBY.out.mono HBB.out).cell hp;have k4:wy.cell? ⟨(a.add (j*10)).block,(a.add (j*10)).off+4,none⟩=some (.int .i64 k1):=(hkp _ (by show (a.add (j*10)).block<B; rw [za0]; exact HAB.out)).trans (HCC.out 4 (by omega) _ HV4.out)
     have k5:wy.cell? ⟨(a.add (j*10)).block,(a.add (j*10)).off+5,none⟩=some (.int .i64 n1):=(hkp _ (by show (a.add (j*10)).block<B; rw [za0]; exact HAB.out)).trans (HCC.out 5 (by omega) _ HV5.out)
     have k6:wy.cell? ⟨(a.add (j*10)).block,(a.add (j*10)).off+6,none⟩=some (.string s1):=(hkp _ (by show (a.add (j*10)).block<B; rw [za0]; exact HAB.out)).trans (HCC.out 6 (by omega) _ HV6.out)
     have k7:wy.cell? ⟨(a.add (j*10)).block,(a.add (j*10)).off+7,none⟩=some (.slice A3 li1 ci1):=(hkp _ (by show (a.add (j*10)).block<B; rw [za0]; exact HAB.out)).trans (HCC.out 7 (by omega) _ HV7.out)
     have k8:wy.cell? ⟨(a.add (j*10)).block,(a.add (j*10)).off+8,none⟩=some (.slice K1 lk1 ck1):=(hkp _ (by show (a.add (j*10)).block<B; rw [za0]; exact HAB.out)).trans (HCC.out 8 (by omega) _ HV8.out)
     have CALL:=Lh (zm7 x.dflt wy B _ (HVV.out.kept (HBY.out.mono HBB.out)) (Nat.le_trans HBB.out HBY.out.size) hcs (by omega))
     have HOL:=Lh hol;have HOZ:=Lh OZ;clear hkp hol holz hv5 hv5z hv6 hv6z hcs hsz OZ;go_wp2_with fail
     refine CALL.out.mono ?_
     rintro e w6 ⟨⟨o',rfl,ho'⟩,hb6⟩;obtain rfl:o'=ol:=zg8 (ho'.trans HOL.out.symm);have HBW:=Lh (HBY.out.trans (hb6.mono HBY.out.size));have OZ:=HOZ.out;clear ho' hb6 CALL k3 k4 k5 k6 k7 k8 HBY;have hdz:(wDirs x.dirs).length<=1000000000:=by omega
     obtain ⟨od,hod⟩ : ∃ od:ByteArray,bL od=wDirs x.dirs:=⟨⟨(wDirs x.dirs).toArray⟩,bL_mk _⟩;have hodz:od.size=(wDirs x.dirs).length:=by rw [<- za2,hod]
     obtain ⟨ve,hve,hde⟩:=zb1 v6 od (by omega)
     have HVE:Hid (bL ve=((l.map wInp).take (j+1)).flatten):=Lh (by rw [hve,hod,HOO.out,HXS.out,HWI.out]; simp)
     have k9:w6.cell? ⟨(a.add (j*10)).block,(a.add (j*10)).off+9,none⟩=some (.slice A9 l9 c9):=((HBW.out.mono HBB.out).cell (p:=⟨(a.add (j*10)).block,(a.add (j*10)).off+9,none⟩) (by rw [za0]; exact HAB.out)).trans (HCC.out 9 (by omega) _ HE9.out)
     have CALD:=Lh (zj0 x.dirs HDK.out (.slice A9 l9 c9) w6 B (Sl.kept DirR.stays HDR.out (HBW.out.mono HBB.out)) (Nat.le_trans HBB.out HBW.out.size) (by omega))
     have HOD:=Lh hod;clear hod hodz hve hdz OZ;go_wp2_with fail
     refine CALD.out.mono ?_
     rintro e w8 ⟨⟨o',rfl,ho'⟩,hb8⟩;obtain rfl:o'=od:=zg8 (ho'.trans HOD.out.symm);have HB8:=Lh (HBW.out.trans (hb8.mono HBW.out.size));clear ho' hb8 CALD k9;go_wp2_with fail
     go_roundw
     case rel=>exact ⟨j+1,ve,by omega,by go_num,rfl,Lh ⟨HVE.out,HB8.out⟩⟩
     case measure=>simp [intOf]; omega
  ·obtain rfl:j=ll:=by omega
   have HF:Hid (bL o=wInps l):=Lh (by rw [hq.out.1,List.take_of_length_le (by rw [List.length_map,HLL.out]; exact Nat.le_refl _)]; rfl)
   go_wp2_with fail
   go_ret
   exact ⟨⟨o,rfl,HF.out⟩,hq.out.2⟩
end Go.Proofs.YtfgelheiknmjgaaGreatDoor
