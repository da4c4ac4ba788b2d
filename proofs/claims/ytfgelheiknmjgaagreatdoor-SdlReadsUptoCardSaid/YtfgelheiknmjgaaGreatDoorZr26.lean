
/-
 Texts joined: RefNumber L0 L1 Lp.
-/
import Derived.Test.YtfgelheiknmjgaaGreatDoorZr15
import Derived.Test.YtfgelheiknmjgaaGreatDoorZr1
import Derived.Test.YtfgelheiknmjgaaGreatDoorZr25
import Derived.Test.YtfgelheiknmjgaaGreatDoorZr3
import Derived.BigQuiet
import Derived.Lib.Strings
import Derived.Test.YtfgelheiknmjgaaGreatDoorZr23
set_option maxRecDepth 1000000
set_option maxHeartbeats 8000000
namespace Go.Proofs.YtfgelheiknmjgaaGreatDoor.T1
open Go.RowKit
theorem yf4 (u:Nat):(Lib.decDigits u).length<=u / 2+1:=by
 induction u using Nat.strongRecOn with
 | _ u ih =>
   by_cases h:u<10
   ·rw [Lib.decDigits_one h]; simp
   ·rw [Lib.decDigits,dif_neg h,List.length_append]
    have:=ih (u / 10) (by omega)
    simp; omega
theorem tmod_neg (u:Nat):(-(u:Int)).tmod 10=-((u % 10:Nat):Int):=by
 rw [Int.neg_tmod]; congr 1
theorem tdiv_neg (u:Nat):(-(u:Int)).tdiv 10=-((u / 10:Nat):Int):=by
 rw [Int.neg_tdiv]; congr 1
theorem zx3 (u:Nat):∀ (n:Int) (w:World),u<=9223372036854775808->n=-(u:Int) ->
  Calls Tryz.prog 190 #[.int .i64 n] w (StrB w (Lib.decDigits u)):=by
 induction u using Nat.strongRecOn with
 | _ u ih =>
   intro n w hu hn;have b0:n<=0:=by omega
   have b1 : -9223372036854775808<=n:=by omega
   have e1:n.tmod 10=-((u % 10:Nat):Int):=by rw [hn]; exact tmod_neg u
   have e2:n.tdiv 10=-((u / 10:Nat):Int):=by rw [hn]; exact tdiv_neg u
   have hb:=zt5 (x:=u % 10) (by omega)
   have hdd:Lib.decDigits u=if u<10 then [UInt8.ofNat (48+u % 10)] else Lib.decDigits (u / 10)++[UInt8.ofNat (48+u % 10)]:=by
    by_cases h:u<10
    ·rw [if_pos h,Lib.decDigits_one h,Nat.mod_eq_of_lt h]
    ·rw [if_neg h]; conv=>lhs; rw [Lib.decDigits,dif_neg h]
   generalize UInt8.ofNat (48+u % 10)=b at *;have hcv:=fun w=>yi4 w #[.int .u8 (48+(u:Int) % 10)] [b] 1 1 rfl (by rw [List.map_cons,hb]; rfl)
   have HDD:=Lh hdd;clear hdd;have IH:=Lh ih;clear ih hb;by_cases h:u<10
   ·have hd:Hid (Lib.decDigits u=[b]):=Lh (by rw [HDD.out,if_pos h])
    have h' : -10<n:=by omega
    clear hn;go_enter Tryz.func190,Tryz.ntmps190
    go_wp2_with fail
    go_ret
    exact ⟨by rw [hd.out]; rfl,(Below.refl _ _).alloc (Nat.le_refl _) _⟩
   ·have hd:Hid (Lib.decDigits u=Lib.decDigits (u / 10)++[b]):=Lh (by rw [HDD.out,if_neg h])
    have h':n<=-10:=by omega
    have hl:=yf4 (u / 10);have hadd:=fun w=>add_L w (Lib.decDigits (u / 10)) [b] (by simp; omega)
    clear hn;go_enter Tryz.func190,Tryz.ntmps190
    go_wp2_with fail
    refine (IH.out (u / 10) (by omega) _ _ (by omega) (by omega)).mono ?_
    rintro e w2 ⟨rfl,hb2⟩;have HB:=Lh (((Below.refl w.heap.size w).alloc (Nat.le_refl _) _).trans (hb2.mono (by simp)))
    clear hb2;go_wp2_with fail
    go_ret
    exact ⟨by rw [hd.out]; rfl,HB.out⟩
theorem zI2 (n:Int) (w:World) (h0 : -9223372036854775808<=n) (h1:n<=9223372036854775807) :
  Calls Tryz.prog 151 #[.int .i64 n] w (StrB w (Lib.itoa n)):=by
 by_cases h:n<0
 ·have e:Hid (Lib.itoa n=[45]++Lib.decDigits n.natAbs):=Lh (by unfold Lib.itoa; rw [if_pos h]; rfl)
  have hl:=yf4 n.natAbs;have hadd:=fun w=>add_L w [45] (Lib.decDigits n.natAbs) (by simp; omega)
  go_enter Tryz.func151,Tryz.ntmps151
  go_wp2_with fail
  refine (zx3 n.natAbs _ _ (by omega) (by omega)).mono ?_
  rintro e w2 ⟨rfl,hb2⟩;have HB:=Lh hb2;clear hb2;go_wp2_with fail
  go_ret
  exact ⟨by rw [e.out]; rfl,HB.out⟩
 ·have e:Hid (Lib.itoa n=Lib.decDigits n.toNat):=Lh (by unfold Lib.itoa; rw [if_neg h])
  have h':0<=n:=by omega
  clear h;go_enter Tryz.func151,Tryz.ntmps151
  go_wp2_with fail
  refine (zx3 n.toNat _ _ (by omega) (by omega)).mono ?_
  rintro e2 w2 ⟨rfl,hb2⟩;have HB:=Lh hb2;clear hb2;go_wp2_with fail
  go_ret
  exact ⟨by rw [e.out]; rfl,HB.out⟩
end Go.Proofs.YtfgelheiknmjgaaGreatDoor.T1
namespace Go.Proofs.YtfgelheiknmjgaaGreatDoor
open Go.RowKit
theorem zb1 (s t:ByteArray) (h:s.size+t.size<=9223372036854775807):∃ u:ByteArray,bL u=bL s++bL t/\∀ w,(Op.stringOp .add s t).run Tryz.prog w=.ok (.string u) w:=by
 refine ⟨s++t, ?_,fun w=>run_string_add_sum w s t h⟩
 obtain ⟨⟨a⟩⟩:=s;obtain ⟨⟨b⟩⟩:=t;rw [ByteArray.mk_append_mk]
 rfl
def SP (l:List UInt8) (w:World) (e:Ending) (w':World):Prop:=(∃ o:ByteArray,e=.returned (.string o)/\bL o=l)/\Below w.heap.size w w'
theorem bL_mk (l:List UInt8):bL ⟨l.toArray⟩=l:=by simp [bL]
theorem zg8 {s t:ByteArray} (h:bL s=bL t):s=t:=by
 obtain ⟨⟨a⟩⟩:=s;obtain ⟨⟨b⟩⟩:=t;have:a=b:=h;rw [this]
theorem zk4 {L:List (List UInt8)} {j:Nat} {a:List UInt8} (h:L[j]?=some a):(L.take (j+1)).flatten=(L.take j).flatten++a:=by rw [zZ7 h]; simp
theorem ft_le (L:List (List UInt8)) (j:Nat):(L.take j).flatten.length<=L.flatten.length:=by
 have:L.flatten.length=(L.take j).flatten.length+(L.drop j).flatten.length:=by rw [<- List.length_append, <- List.flatten_append,List.take_append_drop]
 omega
theorem zl9 {L:List (List UInt8)} {j:Nat} {a:List UInt8} (h:L[j]?=some a):(L.take j).flatten.length+a.length<=L.flatten.length:=by
 have:=ft_le L (j+1);rw [zk4 h,List.length_append] at this; exact this
theorem quote_ge (s:List UInt8):s.length<=(T1.zg5 s).length:=by
 have h:∀ t:List UInt8,t.length<=(t.flatMap T1.escL).length:=by
  intro t
  induction t with
  | nil=>exact Nat.le_refl _
  | cons c t ih =>
    have h1:1<=(T1.escL c).length:=by
     unfold T1.escL
     repeat' split
     all_goals simp
    rw [List.flatMap_cons,List.length_append,List.length_cons]; omega
 have:=h s;unfold T1.zg5;simp only [List.length_cons,List.length_append,List.length_nil]; omega
def LitAt (t:VT):Prop:=∀ (w:World) (B:Nat) (v:Value),Rd w B v t->B<=w.heap.size->t.cst=true->t.lit.length<=1099511627776->Calls Tryz.prog 99 #[v] w (SP t.lit w)
theorem zV6 (l:List VT) (ih:∀ (i:Nat) (t:VT),l[i]?=some t->t.cst=true/\LitAt t) (w:World) (B:Nat) (v:Value) (h:Rd w B v (.mk 5 0 ⟨#[]⟩ l [])) (hB:B<=w.heap.size) (hl:(91::(((l.map fun t=>32::t.lit)).flatten++[32,93])).length<=1099511627776) :
  Calls Tryz.prog 99 #[v] w (SP (91::(((l.map fun t=>32::t.lit)).flatten++[32,93])) w):=by
 cases h with
 | @mk _ _ _ A li ci KA lk ck _ _ V hk hn hs hks hli hlk hbi hbk hA hr hK =>
 obtain ⟨n,hn0⟩ : ∃ n,l.length=n:=⟨_,rfl⟩;rw [hn0] at hli;subst hli;subst hlk;have hnm:(n:Int)<=140737488351232:=by omega
 have HA:=Lh hA;have HR:=Lh hr;have IH:=Lh ih;have HN:=Lh hn0;have HLL:=Lh hl;have HBB:=Lh hB;have HB0:Hid (Below w.heap.size w (w.alloc (.cells #[.int .i64 5,.int .i64 0,.string ⟨#[]⟩,.slice A n ci,.slice KA 0 ck] 53 (0,0)))):=Lh (za1 _ _);have HK0:=Lh (Bk.new w #[.int .i64 5,.int .i64 0,.string ⟨#[]⟩,.slice A n ci,.slice KA 0 ck] 53);clear hA hr ih hn0 hl hK hks hk hn hs;have y0:=HK0.out.cell 0 _ rfl;have y1:=HK0.out.cell 1 _ rfl;have y2:=HK0.out.cell 2 _ rfl;have y3:=HK0.out.cell 3 _ rfl;have y4:=HK0.out.cell 4 _ rfl
 go_enter Tryz.func99, Tryz.ntmps99
 go_wp2_with fail
 clear y0 y1 y2 y3 y4
 go_loopw [3,5] (fun u i wr=>∃ (j:Nat) (o:ByteArray),j<=n/\u=.string o/\i=.int .i64 j/\Hid (bL o=91::(((l.map fun t=>32::t.lit)).take j).flatten/\Below w.heap.size w wr/\Bk wr w.heap.size #[.int .i64 5,.int .i64 0,.string ⟨#[]⟩,.slice A n ci,.slice KA 0 ck] 53)) (fun _ i _=>n-(intOf i).toNat)
 case atStart=>exact ⟨0,⟨#[91]⟩,Nat.zero_le _,rfl,rfl,Lh ⟨rfl,HB0.out,HK0.out⟩⟩
 case round =>
  obtain ⟨j,o,hj,rfl,rfl,hr⟩:=hrel;obtain ⟨ho,hb,hk⟩:=hr.out;have HO:=Lh ho;have HB:=Lh hb;have HKB:=Lh hk;have hoz:o.size=1+(((l.map fun t=>32::t.lit)).take j).flatten.length:=by rw [<- za2,ho,List.length_cons]; omega
  have y0:=hk.cell 0 _ rfl;have y1:=hk.cell 1 _ rfl;have y2:=hk.cell 2 _ rfl;have y3:=hk.cell 3 _ rfl;have y4:=hk.cell 4 _ rfl;have hll:=HLL.out;simp only [List.length_cons,List.length_append,List.length_nil] at hll
  clear ho hb hk hr;by_cases hlt:j<n
  ·have hlt':(j:Int)<n:=by omega
   obtain ⟨x,hxi⟩ : ∃ x,l[j]?=some x:=⟨_,List.getElem?_eq_getElem (by rw [HN.out]; exact hlt)⟩
   have hxm:((l.map fun t=>32::t.lit))[j]?=some (32::x.lit):=by rw [List.getElem?_map,hxi]; rfl
   have hst:=zl9 hxm;have HXS:=Lh (zk4 hxm)
   (try simp only [List.length_cons] at hst)
   obtain ⟨a,eA,ha,hc0⟩:=HA.out (by omega)
   subst eA;obtain ⟨q0,q1,q2,q3,q4,eV,g0,g1,g2,g3,g4⟩:=(hc0 j hlt).kept (by rw [za0]; exact ha) (HB.out.mono HBB.out)
   have hxr:=(HR.out j x hxi).kept (HB.out.mono HBB.out);rw [eV] at hxr;obtain ⟨o2,ho2⟩ : ∃ o2:ByteArray,bL o2=x.lit:=⟨⟨x.lit.toArray⟩,bL_mk _⟩;have ho2z:o2.size=x.lit.length:=by rw [<- za2,ho2]
   obtain ⟨u1,hu1,hadd1⟩:=zb1 o ⟨#[32]⟩ (by show o.size+1<=_; omega)
   have hu1z:u1.size=o.size+1:=by rw [<- za2,hu1,List.length_append,za2]; rfl
   obtain ⟨u2,hu2,hadd2⟩:=zb1 u1 o2 (by omega)
   have HU2:Hid (bL u2=91::(((l.map fun t=>32::t.lit)).take (j+1)).flatten):=Lh (by rw [hu2,hu1,HO.out,ho2,HXS.out]; simp [bL])
   have CALL:=Lh ((IH.out j x hxi).2 wr B _ hxr (Nat.le_trans HBB.out HB.out.size) (IH.out j x hxi).1 (by omega))
   have HO2:=Lh ho2;have HADD:=Lh hadd2;clear hxm hst hc0 eV hxr ho2 ho2z hu1 hu1z hu2 hadd2 hoz hll hxi;go_wp2_with fail
   refine CALL.out.mono ?_
   rintro e w5 ⟨⟨o',rfl,ho'⟩,hb5⟩;obtain rfl:o'=o2:=zg8 (ho'.trans HO2.out.symm);have HB5:=Lh (HB.out.trans (hb5.mono HB.out.size));have HK5:=Lh (HKB.out.stay hb5);have hadd2:=HADD.out;clear ho' hb5 CALL y0 y1 y2 y3 y4 g0 g1 g2 g3 g4;go_wp2_with fail
   go_roundw
   case rel=>exact ⟨j+1,u2,by omega,rfl,by go_num,Lh ⟨HU2.out,HB5.out,HK5.out⟩⟩
   case measure=>simp [intOf]; omega
  ·obtain rfl:j=n:=by omega
   have hft:(((l.map fun t=>32::t.lit)).take j).flatten=((l.map fun t=>32::t.lit)).flatten:=by rw [List.take_of_length_le (by rw [List.length_map,HN.out]; exact Nat.le_refl _)]
   have HF:=Lh hft;rw [hft] at hoz;obtain ⟨u,hu,hadd⟩:=zb1 o ⟨#[32,93]⟩ (by show o.size+2<=_; omega)
   have HU:Hid (bL u=91::(((l.map fun t=>32::t.lit)).flatten++[32,93])):=Lh (by rw [hu,HO.out,hft]; rfl)
   clear hft hoz hll hu;go_wp2_with fail
   go_ret
   exact ⟨⟨u,rfl,HU.out⟩,HB.out⟩
def litE (ks:List ByteArray) (l:List VT):List (List UInt8):=List.zipWith (fun a b=>(32::(bL a++[32,58]))++(32::b)) ks (l.map VT.lit)
theorem yb3 (l:List VT) (ks:List ByteArray) (hkl:ks.length=l.length) (ih:∀ (i:Nat) (t:VT),l[i]?=some t->t.cst=true/\LitAt t) (w:World) (B:Nat) (v:Value) (h:Rd w B v (.mk 6 0 ⟨#[]⟩ l ks)) (hB:B<=w.heap.size) (hl:(123::((litE ks l).flatten++[32,125])).length<=1099511627776) :
  Calls Tryz.prog 99 #[v] w (SP (123::((litE ks l).flatten++[32,125])) w):=by
 cases h with
 | @mk _ _ _ A li ci KA lk ck _ _ V hk hn hs hks hli hlk hbi hbk hA hr hK =>
 obtain ⟨n,hn0⟩ : ∃ n,l.length=n:=⟨_,rfl⟩;rw [hn0] at hli hkl;rw [hkl] at hlk;subst hli;subst hlk;have hnm:(n:Int)<=140737488351232:=by omega
 have HA:=Lh hA;have HR:=Lh hr;have IH:=Lh ih;have HN:=Lh hn0;have HLL:=Lh hl;have HBB:=Lh hB;have HB0:Hid (Below w.heap.size w (w.alloc (.cells #[.int .i64 6,.int .i64 0,.string ⟨#[]⟩,.slice A n ci,.slice KA n ck] 53 (0,0)))):=Lh (za1 _ _);have HK0:=Lh (Bk.new w #[.int .i64 6,.int .i64 0,.string ⟨#[]⟩,.slice A n ci,.slice KA n ck] 53);have HKK:=Lh hK;have HKL:=Lh hkl;clear hA hr ih hn0 hl hK hks hk hn hs hkl;have y0:=HK0.out.cell 0 _ rfl;have y1:=HK0.out.cell 1 _ rfl;have y2:=HK0.out.cell 2 _ rfl;have y3:=HK0.out.cell 3 _ rfl;have y4:=HK0.out.cell 4 _ rfl
 go_enter Tryz.func99, Tryz.ntmps99
 go_wp2_with fail
 clear y0 y1 y2 y3 y4
 go_loopw [3,5] (fun u i wr=>∃ (j:Nat) (o:ByteArray),j<=n/\u=.string o/\i=.int .i64 j/\Hid (bL o=123::((litE ks l).take j).flatten/\Below w.heap.size w wr/\Bk wr w.heap.size #[.int .i64 6,.int .i64 0,.string ⟨#[]⟩,.slice A n ci,.slice KA n ck] 53)) (fun _ i _=>n-(intOf i).toNat)
 case atStart=>exact ⟨0,⟨#[123]⟩,Nat.zero_le _,rfl,rfl,Lh ⟨rfl,HB0.out,HK0.out⟩⟩
 case round =>
  obtain ⟨j,o,hj,rfl,rfl,hr⟩:=hrel;obtain ⟨ho,hb,hk⟩:=hr.out;have HO:=Lh ho;have HB:=Lh hb;have HKB:=Lh hk;have hoz:o.size=1+((litE ks l).take j).flatten.length:=by rw [<- za2,ho,List.length_cons]; omega
  have y0:=hk.cell 0 _ rfl;have y1:=hk.cell 1 _ rfl;have y2:=hk.cell 2 _ rfl;have y3:=hk.cell 3 _ rfl;have y4:=hk.cell 4 _ rfl;have hll:=HLL.out;simp only [List.length_cons,List.length_append,List.length_nil] at hll
  clear ho hb hk hr;by_cases hlt:j<n
  ·have hlt':(j:Int)<n:=by omega
   obtain ⟨x,hxi⟩ : ∃ x,l[j]?=some x:=⟨_,List.getElem?_eq_getElem (by rw [HN.out]; exact hlt)⟩
   obtain ⟨y,hyi⟩ : ∃ y,ks[j]?=some y:=⟨_,List.getElem?_eq_getElem (by rw [HKL.out]; exact hlt)⟩
   obtain ⟨a',eK,ha',hk0⟩:=HKK.out (by rw [HKL.out]; omega)
   subst eK;have c0:wr.cell? (a'.add j)=some (.string y):=((HB.out.mono HBB.out).cell (by rw [za0]; exact ha')).trans (hk0 j y hyi)
   have HKC:Hid (wr.cell? (a'.add j)=some (.string y)):=Lh c0;have hxm:(litE ks l)[j]?=some ((32::(bL y++[32,58]))++(32::x.lit)):=by unfold litE; rw [List.getElem?_zipWith,hyi,List.getElem?_map,hxi]; rfl
   have hst:=zl9 hxm;have HXS:=Lh (zk4 hxm);simp only [List.length_cons,List.length_append,List.length_nil] at hst
   obtain ⟨a,eA,ha,hc0⟩:=HA.out (by omega)
   subst eA;obtain ⟨q0,q1,q2,q3,q4,eV,g0,g1,g2,g3,g4⟩:=(hc0 j hlt).kept (by rw [za0]; exact ha) (HB.out.mono HBB.out)
   have hxr:=(HR.out j x hxi).kept (HB.out.mono HBB.out);rw [eV] at hxr;obtain ⟨o2,ho2⟩ : ∃ o2:ByteArray,bL o2=x.lit:=⟨⟨x.lit.toArray⟩,bL_mk _⟩;have ho2z:o2.size=x.lit.length:=by rw [<- za2,ho2]
   rw [za2] at hst;obtain ⟨v1,hv1,hd1⟩:=zb1 o ⟨#[32]⟩ (by show o.size+1<=_; omega)
   have hv1z:v1.size=o.size+1:=by rw [<- za2,hv1,List.length_append,za2]; rfl
   obtain ⟨v2,hv2,hd2⟩:=zb1 v1 y (by omega)
   have hv2z:v2.size=v1.size+y.size:=by rw [<- za2,hv2,List.length_append,za2,za2]
   obtain ⟨v3,hv3,hd3⟩:=zb1 v2 ⟨#[32,58]⟩ (by show v2.size+2<=_; omega)
   have hv3z:v3.size=v2.size+2:=by rw [<- za2,hv3,List.length_append,za2]; rfl
   obtain ⟨u1,hu1,hadd1⟩:=zb1 v3 ⟨#[32]⟩ (by show v3.size+1<=_; omega)
   have hu1z:u1.size=v3.size+1:=by rw [<- za2,hu1,List.length_append,za2]; rfl
   obtain ⟨u2,hu2,hadd2⟩:=zb1 u1 o2 (by omega)
   have HU2:Hid (bL u2=123::((litE ks l).take (j+1)).flatten):=Lh (by rw [hu2,hu1,hv3,hv2,hv1,HO.out,ho2,HXS.out]; simp [bL])
   have CALL:=Lh ((IH.out j x hxi).2 wr B _ hxr (Nat.le_trans HBB.out HB.out.size) (IH.out j x hxi).1 (by omega))
   have HO2:=Lh ho2;have HADD:=Lh hadd2;clear hxm hst hc0 eV hxr ho2 ho2z hu1 hu1z hu2 hadd2 hoz hll hxi hk0 hyi hv1 hv1z hv2 hv2z hv3 hv3z c0;have c0:=HKC.out;go_wp2_with fail
   refine CALL.out.mono ?_
   rintro e w5 ⟨⟨o',rfl,ho'⟩,hb5⟩;obtain rfl:o'=o2:=zg8 (ho'.trans HO2.out.symm);have HB5:=Lh (HB.out.trans (hb5.mono HB.out.size));have HK5:=Lh (HKB.out.stay hb5);have hadd2:=HADD.out;clear ho' hb5 CALL y0 y1 y2 y3 y4 g0 g1 g2 g3 g4 c0;go_wp2_with fail
   go_roundw
   case rel=>exact ⟨j+1,u2,by omega,rfl,by go_num,Lh ⟨HU2.out,HB5.out,HK5.out⟩⟩
   case measure=>simp [intOf]; omega
  ·obtain rfl:j=n:=by omega
   have hft:((litE ks l).take j).flatten=(litE ks l).flatten:=by rw [List.take_of_length_le (by unfold litE; rw [List.length_zipWith,List.length_map,HN.out]; omega)]
   have HF:=Lh hft;rw [hft] at hoz;obtain ⟨u,hu,hadd⟩:=zb1 o ⟨#[32,125]⟩ (by show o.size+2<=_; omega)
   have HU:Hid (bL u=123::((litE ks l).flatten++[32,125])):=Lh (by rw [hu,HO.out,hft]; rfl)
   clear hft hoz hll hu;go_wp2_with fail
   go_ret
   exact ⟨⟨u,rfl,HU.out⟩,HB.out⟩
theorem zm7 (t:VT):LitAt t:=by
 refine VT.ind (P:=LitAt) (fun k n s l ks ih=>?_) t
 intro w B v h hB hc hl;have hv:=cst_v _ hc;have hit:=zF8 hc;have IH:∀ (i:Nat) (t:VT),l[i]?=some t->t.cst=true/\LitAt t:=fun i t hi=>⟨hit t (List.mem_of_getElem? hi),ih i t hi⟩;clear ih hit hc;rw [yf7] at hl ⊢
 cases hv with
 | list =>
   have e:(VT.lits l).map (fun x=>32::x)=l.map fun t=>32::t.lit:=by rw [zw1,List.map_map]; rfl
   rw [if_neg (by decide),if_neg (by decide),if_neg (by decide),if_neg (by decide),if_neg (by decide),if_neg (by decide),if_neg (by decide),e] at hl ⊢
   exact zV6 l IH w B v h hB hl
 | object hkl hk hn =>
   rw [if_neg (by decide),if_neg (by decide),if_neg (by decide),if_neg (by decide),if_neg (by decide),if_neg (by decide),if_pos rfl,zw1] at hl ⊢
   exact yb3 l ks hkl IH w B v h hB hl
 | null =>
   cases h with
   | @mk _ _ _ A li ci KA lk ck _ _ V hk hn hs hks hli hlk hbi hbk hA hr hK =>
   subst hli;subst hlk;have HB0:Hid (Below w.heap.size w (w.alloc (.cells #[.int .i64 0,.int .i64 0,.string ⟨#[]⟩,.slice A 0 ci,.slice KA 0 ck] 53 (0,0)))):=Lh (za1 _ _);have HK0:=Lh (Bk.new w #[.int .i64 0,.int .i64 0,.string ⟨#[]⟩,.slice A 0 ci,.slice KA 0 ck] 53);have HLL:=Lh hl;have HS:=Lh hn;have y0:=HK0.out.cell 0 _ rfl;have y1:=HK0.out.cell 1 _ rfl;have y2:=HK0.out.cell 2 _ rfl;have y3:=HK0.out.cell 3 _ rfl;have y4:=HK0.out.cell 4 _ rfl;clear hk hn hs hks hbi hbk hA hr hK IH hB hl;show Calls _ _ _ _ (SP ([110,117,108,108]) w)
   go_enter Tryz.func99, Tryz.ntmps99
   go_wp2_with fail
   go_ret
   exact ⟨⟨⟨#[110,117,108,108]⟩,rfl,rfl⟩,HB0.out⟩
 | bool hb =>
   rcases hb with rfl | rfl
   ·cases h with
    | @mk _ _ _ A li ci KA lk ck _ _ V hk hn hs hks hli hlk hbi hbk hA hr hK =>
    subst hli;subst hlk;have HB0:Hid (Below w.heap.size w (w.alloc (.cells #[.int .i64 1,.int .i64 0,.string ⟨#[]⟩,.slice A 0 ci,.slice KA 0 ck] 53 (0,0)))):=Lh (za1 _ _);have HK0:=Lh (Bk.new w #[.int .i64 1,.int .i64 0,.string ⟨#[]⟩,.slice A 0 ci,.slice KA 0 ck] 53);have HLL:=Lh hl;have HS:=Lh hn;have y0:=HK0.out.cell 0 _ rfl;have y1:=HK0.out.cell 1 _ rfl;have y2:=HK0.out.cell 2 _ rfl;have y3:=HK0.out.cell 3 _ rfl;have y4:=HK0.out.cell 4 _ rfl;clear hk hn hs hks hbi hbk hA hr hK IH hB hl;show Calls _ _ _ _ (SP ([102,97,108,115,101]) w)
    go_enter Tryz.func99, Tryz.ntmps99
    go_wp2_with fail
    go_ret
    exact ⟨⟨⟨#[102,97,108,115,101]⟩,rfl,rfl⟩,HB0.out⟩
   ·cases h with
    | @mk _ _ _ A li ci KA lk ck _ _ V hk hn hs hks hli hlk hbi hbk hA hr hK =>
    subst hli;subst hlk;have HB0:Hid (Below w.heap.size w (w.alloc (.cells #[.int .i64 1,.int .i64 1,.string ⟨#[]⟩,.slice A 0 ci,.slice KA 0 ck] 53 (0,0)))):=Lh (za1 _ _);have HK0:=Lh (Bk.new w #[.int .i64 1,.int .i64 1,.string ⟨#[]⟩,.slice A 0 ci,.slice KA 0 ck] 53);have HLL:=Lh hl;have HS:=Lh hn;have y0:=HK0.out.cell 0 _ rfl;have y1:=HK0.out.cell 1 _ rfl;have y2:=HK0.out.cell 2 _ rfl;have y3:=HK0.out.cell 3 _ rfl;have y4:=HK0.out.cell 4 _ rfl;clear hk hn hs hks hbi hbk hA hr hK IH hB hl;show Calls _ _ _ _ (SP ([116,114,117,101]) w)
    go_enter Tryz.func99, Tryz.ntmps99
    go_wp2_with fail
    go_ret
    exact ⟨⟨⟨#[116,114,117,101]⟩,rfl,rfl⟩,HB0.out⟩
 | int =>
   cases h with
   | @mk _ _ _ A li ci KA lk ck _ _ V hk hn hs hks hli hlk hbi hbk hA hr hK =>
   subst hli;subst hlk;have HB0:Hid (Below w.heap.size w (w.alloc (.cells #[.int .i64 2,.int .i64 n,.string ⟨#[]⟩,.slice A 0 ci,.slice KA 0 ck] 53 (0,0)))):=Lh (za1 _ _);have HK0:=Lh (Bk.new w #[.int .i64 2,.int .i64 n,.string ⟨#[]⟩,.slice A 0 ci,.slice KA 0 ck] 53);have HLL:=Lh hl;have HS:=Lh hn;have y0:=HK0.out.cell 0 _ rfl;have y1:=HK0.out.cell 1 _ rfl;have y2:=HK0.out.cell 2 _ rfl;have y3:=HK0.out.cell 3 _ rfl;have y4:=HK0.out.cell 4 _ rfl;clear hk hn hs hks hbi hbk hA hr hK IH hB hl;show Calls _ _ _ _ (SP (Lib.itoa n) w)
   go_enter Tryz.func99, Tryz.ntmps99
   go_wp2_with fail
   refine (T1.zI2 n _ HS.out.1 HS.out.2).mono ?_
   rintro e w1 ⟨rfl,hb1⟩;have HB1:=Lh (HB0.out.trans (hb1.mono HB0.out.size));clear hb1 y0 y1 y2 y3 y4;go_wp2_with fail
   go_ret
   exact ⟨⟨_,rfl,bL_mk _⟩,HB1.out⟩
 | text =>
   cases h with
   | @mk _ _ _ A li ci KA lk ck _ _ V hk hn hs hks hli hlk hbi hbk hA hr hK =>
   subst hli;subst hlk;have HB0:Hid (Below w.heap.size w (w.alloc (.cells #[.int .i64 3,.int .i64 0,.string s,.slice A 0 ci,.slice KA 0 ck] 53 (0,0)))):=Lh (za1 _ _);have HK0:=Lh (Bk.new w #[.int .i64 3,.int .i64 0,.string s,.slice A 0 ci,.slice KA 0 ck] 53);have HLL:=Lh hl;have HS:=Lh hn;have y0:=HK0.out.cell 0 _ rfl;have y1:=HK0.out.cell 1 _ rfl;have y2:=HK0.out.cell 2 _ rfl;have y3:=HK0.out.cell 3 _ rfl;have y4:=HK0.out.cell 4 _ rfl;clear hk hn hs hks hbi hbk hA hr hK IH hB hl;show Calls _ _ _ _ (SP (T1.zg5 s.data.toList) w)
   go_enter Tryz.func99, Tryz.ntmps99
   go_wp2_with fail
   refine (T1.zV1 s _ (by have h1:=HLL.out; have h2:=quote_ge s.data.toList; have h3:=za2 s; have h1:(T1.zg5 s.data.toList).length<=1099511627776:=h1; unfold bL at h3; show s.size<=_; rw [<- h3]; exact Nat.le_trans h2 h1)).mono ?_
   rintro e w1 ⟨rfl,hb1⟩;have HB1:=Lh (HB0.out.trans (hb1.mono HB0.out.size));clear hb1 y0 y1 y2 y3 y4;go_wp2_with fail
   go_ret
   exact ⟨⟨_,rfl,bL_mk _⟩,HB1.out⟩
 | enum he =>
   clear he
   cases h with
   | @mk _ _ _ A li ci KA lk ck _ _ V hk hn hs hks hli hlk hbi hbk hA hr hK =>
   subst hli;subst hlk;have HB0:Hid (Below w.heap.size w (w.alloc (.cells #[.int .i64 4,.int .i64 0,.string s,.slice A 0 ci,.slice KA 0 ck] 53 (0,0)))):=Lh (za1 _ _);have HK0:=Lh (Bk.new w #[.int .i64 4,.int .i64 0,.string s,.slice A 0 ci,.slice KA 0 ck] 53);have HLL:=Lh hl;have HS:=Lh hn;have y0:=HK0.out.cell 0 _ rfl;have y1:=HK0.out.cell 1 _ rfl;have y2:=HK0.out.cell 2 _ rfl;have y3:=HK0.out.cell 3 _ rfl;have y4:=HK0.out.cell 4 _ rfl;clear hk hn hs hks hbi hbk hA hr hK IH hB hl;show Calls _ _ _ _ (SP (bL s) w)
   go_enter Tryz.func99, Tryz.ntmps99
   go_wp2_with fail
   go_ret
   exact ⟨⟨s,rfl,rfl⟩,HB0.out⟩
def dA (l:List (ByteArray × VT)) (k:Nat):List UInt8:=if k=0 then [] else [32,40]++((l.map wArg).take k).flatten
theorem yf9 {t:VT} (h:litOk t=true):t.cst=true:=by
 unfold litOk zb9 at h;simp only [Bool.and_eq_true] at h
 unfold VT.cst; rw [h.1.2,h.2.2]; rfl
theorem zj0 (l:List DirT) (hok:zg7 l=true) (u:Value) (w:World) (B:Nat) (h:DirsR w B u l) (hB:B<=w.heap.size) (hl:(wDirs l).length<=1099511627776):Calls Tryz.prog 47 #[u] w (SP (wDirs l) w):=by
 obtain ⟨A,c,rfl,hc,hbb,V,hA,hr⟩:=h;obtain ⟨ll,hll⟩ : ∃ ll,ll=l.length:=⟨_,rfl⟩;have HLL:=Lh hll;rw [<- hll] at hbb hA ⊢;have hlb:(ll:Int)<=140737488351232:=by unfold big at hbb; omega
 have HA:=Lh hA;have HRR:=Lh hr;have HOK:=Lh hok;have HTL:Hid ((l.map wDir).flatten.length<=1099511627776):=Lh hl;have HBB:=Lh hB;clear hA hr hok hl hll hbb hB
 go_enter Tryz.func47, Tryz.ntmps47
 go_wp2_with fail
 go_loopw [3,4] (fun u i wr=>∃ (j:Nat) (o:ByteArray),j<=ll/\i=.int .i64 j/\u=.string o/\Hid (bL o=((l.map wDir).take j).flatten/\Below w.heap.size w wr)) (fun _ i _=>ll-(intOf i).toNat)
 case atStart=>exact ⟨0,⟨#[]⟩,Nat.zero_le _,rfl,rfl,Lh ⟨rfl,Below.refl _ _⟩⟩
 case round =>
  obtain ⟨j,o,hj,rfl,rfl,hq⟩:=hrel;by_cases hlt:j<ll
  ·have hlt':(j:Int)<ll:=by omega
   obtain ⟨d,hd⟩ : ∃ d,l[j]?=some d:=⟨_,List.getElem?_eq_getElem (by have:=HLL.out; omega)⟩
   have hoz:o.size=((l.map wDir).take j).flatten.length:=by rw [<- za2,hq.out.1]
   have hxm:(l.map wDir)[j]?=some (wDir d):=by rw [List.getElem?_map,hd]; rfl
   have hst:=zl9 hxm;have htl:=HTL.out;have HXS:=Lh (zk4 hxm);obtain ⟨a,rfl,ha,hx⟩:=HA.out (by omega)
   have hdr:=HRR.out j d hd;have hcell:=hx j hlt;obtain ⟨A1,c1,ea,hc1,hb1,V1,hA1,hr1⟩:=hdr.args;have HA1:=Lh hA1;have HR1:=Lh hr1;have hdk:=(zb6 HOK.out).2.2 d (List.mem_of_getElem? hd);unfold dirOk at hdk;rw [Bool.and_eq_true] at hdk;have HAK:Hid (∀ y∈d.args,y.2.cst=true):=Lh fun y hy=>by
    have h1:=(zb6 hdk.2).2.2 y hy;unfold argOk at h1;rw [Bool.and_eq_true] at h1;exact yf9 h1.2
   obtain ⟨la,hla⟩ : ∃ la,la=d.args.length:=⟨_,rfl⟩;have HLA:=Lh hla;rw [<- hla] at ea hc1 hb1 HA1;have hlab:(la:Int)<=140737488351232:=by unfold big at hb1; omega
   have hwd:wDir d=[32,64,32]++(bL d.name++(if la=0 then [] else [32,40]++((d.args.map wArg).flatten++[32,41]))):=by rw [hla]; rfl
   have HWD:=Lh hwd;have hwl:(wDir d).length=3+(d.name.size+(if la=0 then 0 else 4+(d.args.map wArg).flatten.length)):=by
    rw [hwd,List.length_append,List.length_append,za2]
    split
    ·rfl
    ·simp only [List.length_append,List.length_cons,List.length_nil]; omega
   have q0:wr.cell? (a.add (j*2))=some (.string d.name):=by
    rw [(hq.out.2.mono HBB.out).cell (p:=a.add (j*2)) (by rw [za0]; exact ha)]
    exact (hcell 0 (by omega)).trans (by rw [hdr.name])
   have q1:wr.cell? ⟨(a.add (j*2)).block,(a.add (j*2)).off+1,none⟩=some (.slice A1 la c1):=by
    rw [(hq.out.2.mono HBB.out).cell (p:=⟨(a.add (j*2)).block,(a.add (j*2)).off+1,none⟩) (by rw [za0]; exact ha)]
    exact (hcell 1 (by omega)).trans (by rw [ea])
   have HAB:=Lh ha;have HCL:=Lh ((hcell 1 (by omega)).trans (by rw [ea]))
   obtain ⟨u1,hu1,hadd1⟩:=zb1 o ⟨#[32,64,32]⟩ (by show o.size+3<=_; omega)
   have hu1z:u1.size=o.size+3:=by rw [<- za2,hu1,List.length_append,za2]; rfl
   obtain ⟨u2,hu2,hadd2⟩:=zb1 u1 d.name (by omega)
   obtain ⟨n2,hn2⟩ : ∃ n2,(bL u2).length=n2:=⟨_,rfl⟩;have HN2:=Lh hn2;have HU2:Hid (bL u2=((l.map wDir).take j).flatten++([32,64,32]++bL d.name)):=Lh (by rw [hu2,hu1,hq.out.1,List.append_assoc]; rfl)
   have hn2z:n2=o.size+3+d.name.size:=by rw [<- hn2,hu2,List.length_append,za2,za2,hu1z]
   have HBD:Hid (n2+(if la=0 then 0 else 4+(d.args.map wArg).flatten.length)<=1099511627776):=Lh (by omega)
   clear hx hdr hcell hA1 hr1 hla ha ea hb1 hdk hwd hwl hu1 hu1z hu2 hn2 hn2z hst htl hxm hoz;go_wp2_with fail
   clear q0 q1 hadd1 hadd2
   go_loopw [3,5] (fun u i wr=>∃ (k:Nat) (o2:ByteArray),k<=la/\i=.int .i64 k/\u=.string o2/\Hid (bL o2=bL u2++dA d.args k/\Below w.heap.size w wr)) (fun _ i _=>la-(intOf i).toNat)
   case atStart=>exact ⟨0,u2,Nat.zero_le _,rfl,rfl,Lh ⟨by simp [dA],hq.out.2⟩⟩
   case round =>
    obtain ⟨k,o2,hk,rfl,rfl,hq2⟩:=hrel;have q1:wr.cell? ⟨(a.add (j*2)).block,(a.add (j*2)).off+1,none⟩=some (.slice A1 la c1):=by
     rw [(hq2.out.2.mono HBB.out).cell (p:=⟨(a.add (j*2)).block,(a.add (j*2)).off+1,none⟩) (by rw [za0]; exact HAB.out)]
     exact HCL.out
    by_cases hlt2:k<la
    ·have hlt2':(k:Int)<la:=by omega
     obtain ⟨y,hy⟩ : ∃ y,d.args[k]?=some y:=⟨_,List.getElem?_eq_getElem (by have:=HLA.out; omega)⟩
     obtain ⟨a1,rfl,ha1,hx1⟩:=HA1.out (by omega)
     have hyr:=HR1.out k y hy;have HY0:=Lh hyr.name;have HCK:=Lh (HAK.out y (List.mem_of_getElem? hy));have HA1B:=Lh ha1;obtain ⟨k1,n1,s1,A3,li1,ci1,K1,lk1,ck1,e1,e2,e3,e4,e5⟩:=Rd.form hyr.val;have HE1:=Lh e1;have HE2:=Lh e2;have HE3:=Lh e3;have HE4:=Lh e4;have HE5:=Lh e5;have HVV:Hid (Rd w B (.agg #[.int .i64 k1,.int .i64 n1,.string s1,.slice A3 li1 ci1,.slice K1 lk1 ck1]) y.2):=Lh (by
      have:=hyr.val;rw [e1,e2,e3,e4,e5] at this;exact this)
     have HYC:Hid (∀ q,q<6->∀ v,V1 k q=v->w.cell? (at_ (a1.add (k*6)) q)=some v):=Lh fun q hq v hv=>hv▸hx1 k hlt2 q hq;have hym:(d.args.map wArg)[k]?=some (wArg y):=by rw [List.getElem?_map,hy]; rfl
     have hys:=zl9 hym;have HYS:=Lh (zk4 hym);have hwl:=HBD.out;rw [if_neg (by omega)] at hwl
     clear hx1 hyr e1 e2 e3 e4 e5 hy hym ha1;by_cases hk0:k=0
     ·have hoo:bL o2=bL u2:=by rw [hq2.out.1,hk0]; simp [dA]
      have hoz:o2.size=n2:=by rw [<- za2,hoo,HN2.out]
      obtain ⟨o3,hu3,hadd3⟩:=zb1 o2 ⟨#[32,40]⟩ (by show o2.size+2<=_; omega)
      have HO3:Hid (bL o3=bL u2++([32,40]++((d.args.map wArg).take k).flatten)):=Lh (by rw [hu3,hoo,hk0]; simp [bL])
      have hk0':(k:Int)=0:=by omega
      have HAZ:Hid (a1.add (k*6)=a1):=Lh (by rw [hk0]; rfl)
      clear hoz hu3;have ho3z:o3.size=n2+2+((d.args.map wArg).take k).flatten.length:=by rw [<- za2,HO3.out,List.length_append,List.length_append,HN2.out]; simp only [List.length_cons,List.length_nil]; omega
      have hya:(wArg y).length=1+(y.1.size+(3+y.2.lit.length)):=by unfold wArg; rw [List.length_cons,List.length_append,List.length_append,za2]; simp only [List.length_cons,List.length_nil]; omega
      obtain ⟨ol,hol⟩ : ∃ ol:ByteArray,bL ol=y.2.lit:=⟨⟨y.2.lit.toArray⟩,bL_mk _⟩;have holz:ol.size=y.2.lit.length:=by rw [<- za2,hol]
      obtain ⟨v1,hv1,hd1⟩:=zb1 o3 ⟨#[32]⟩ (by show o3.size+1<=_; omega)
      have hv1z:v1.size=o3.size+1:=by rw [<- za2,hv1,List.length_append,za2]; rfl
      obtain ⟨v2,hv2,hd2⟩:=zb1 v1 y.1 (by omega)
      have hv2z:v2.size=v1.size+y.1.size:=by rw [<- za2,hv2,List.length_append,za2,za2]
      obtain ⟨v3,hv3,hd3⟩:=zb1 v2 ⟨#[32,58,32]⟩ (by show v2.size+3<=_; omega)
      have hv3z:v3.size=v2.size+3:=by rw [<- za2,hv3,List.length_append,za2]; rfl
      obtain ⟨v4,hv4,hd4⟩:=zb1 v3 ol (by omega)
      have HV4:Hid (bL v4=bL u2++dA d.args (k+1)):=Lh (by
       unfold dA;rw [if_neg (by omega),hv4,hv3,hv2,hv1,hol,HO3.out,HYS.out]; unfold wArg; simp [bL])
      have HCC:Hid (∀ W,Below w.heap.size w W->Calls Tryz.prog 99 #[.agg #[.int .i64 k1,.int .i64 n1,.string s1,.slice A3 li1 ci1,.slice K1 lk1 ck1]] W fun e w'=>e=.returned (.string ol)/\Below W.heap.size W w'):=Lh fun W hW=>by
       refine (zm7 y.2 W B _ (HVV.out.kept (hW.mono HBB.out)) (Nat.le_trans HBB.out hW.size) HCK.out (by omega)).mono ?_
       rintro e w' ⟨⟨o',rfl,ho'⟩,hb⟩;exact ⟨by rw [zg8 (ho'.trans hol.symm)],hb⟩
      have HD1:=Lh hd1;have HD2:=Lh hd2;have HD3:=Lh hd3;have HD4:=Lh hd4;clear ho3z hya hol holz hv1 hv1z hv2 hv2z hv3 hv3z hv4 hd1 hd2 hd3 hd4 hoo hys hwl;go_wp2_with fail
      refine K.za6 (fun W=>Below w.heap.size w W) hq2.out.2 (by kernel_rfl) ?_
      rintro W hbw _;have HBW:=Lh hbw;have hkp:∀ (z:K.Past W) (p:Addr),p.block<B->z.w.cell? p=w.cell? p:=fun z p hp=>((HBW.out.trans (z.b.mono HBW.out.size)).mono HBB.out).cell hp;have p1:∀ z:K.Past W,z.w.cell? ⟨(a.add (j*2)).block,(a.add (j*2)).off+1,none⟩=some (.slice (some a1) la c1):=fun z=>(hkp z _ (by show (a.add (j*2)).block<B; rw [za0]; exact HAB.out)).trans HCL.out
      have r0:∀ z:K.Past W,z.w.cell? a1=some (.string y.1):=fun z=>by
       have h:z.w.cell? (a1.add (k*6))=some (.string y.1):=(hkp z _ (by rw [za0]; exact HA1B.out)).trans (HYC.out 0 (by omega) _ HY0.out)
       rw [HAZ.out] at h;exact h
      have r1:∀ z:K.Past W,z.w.cell? ⟨a1.block,a1.off+1,none⟩=some (.int .i64 k1):=fun z=>by
       have h:z.w.cell? ⟨(a1.add (k*6)).block,(a1.add (k*6)).off+1,none⟩=some (.int .i64 k1):=(hkp z _ (by show (a1.add (k*6)).block<B; rw [za0]; exact HA1B.out)).trans (HYC.out 1 (by omega) _ HE1.out)
       rw [HAZ.out] at h;exact h
      have r2:∀ z:K.Past W,z.w.cell? ⟨a1.block,a1.off+2,none⟩=some (.int .i64 n1):=fun z=>by
       have h:z.w.cell? ⟨(a1.add (k*6)).block,(a1.add (k*6)).off+2,none⟩=some (.int .i64 n1):=(hkp z _ (by show (a1.add (k*6)).block<B; rw [za0]; exact HA1B.out)).trans (HYC.out 2 (by omega) _ HE2.out)
       rw [HAZ.out] at h;exact h
      have r3:∀ z:K.Past W,z.w.cell? ⟨a1.block,a1.off+3,none⟩=some (.string s1):=fun z=>by
       have h:z.w.cell? ⟨(a1.add (k*6)).block,(a1.add (k*6)).off+3,none⟩=some (.string s1):=(hkp z _ (by show (a1.add (k*6)).block<B; rw [za0]; exact HA1B.out)).trans (HYC.out 3 (by omega) _ HE3.out)
       rw [HAZ.out] at h;exact h
      have r4:∀ z:K.Past W,z.w.cell? ⟨a1.block,a1.off+4,none⟩=some (.slice A3 li1 ci1):=fun z=>by
       have h:z.w.cell? ⟨(a1.add (k*6)).block,(a1.add (k*6)).off+4,none⟩=some (.slice A3 li1 ci1):=(hkp z _ (by show (a1.add (k*6)).block<B; rw [za0]; exact HA1B.out)).trans (HYC.out 4 (by omega) _ HE4.out)
       rw [HAZ.out] at h;exact h
      have r5:∀ z:K.Past W,z.w.cell? ⟨a1.block,a1.off+5,none⟩=some (.slice K1 lk1 ck1):=fun z=>by
       have h:z.w.cell? ⟨(a1.add (k*6)).block,(a1.add (k*6)).off+5,none⟩=some (.slice K1 lk1 ck1):=(hkp z _ (by show (a1.add (k*6)).block<B; rw [za0]; exact HA1B.out)).trans (HYC.out 5 (by omega) _ HE5.out)
       rw [HAZ.out] at h;exact h
      have kE:Hid (∀ z:K.Past W,Calls Tryz.prog 99 #[.agg #[.int .i64 k1,.int .i64 n1,.string s1,.slice A3 li1 ci1,.slice K1 lk1 ck1]] z.w fun e w''=>e=.returned (.string ol)/\∃ t:K.Past W,w''=t.w):=Lh fun z=>K.zc5 z (HCC.out _ (HBW.out.trans (z.b.mono HBW.out.size)));have hd1:=HD1.out;have hd2:=HD2.out;have hd3:=HD3.out;have hd4:=HD4.out;clear hbw hkp q1
      repeat (go_big_quiet_step (with_reducible exact kE.out _))
      refine wpQuiet_nil ?_
      intro _ hw';obtain ⟨z,rfl⟩:=hw';have HBY:Hid (Below w.heap.size w z.w):=Lh (HBW.out.trans (z.b.mono HBW.out.size));clear p1 r0 r1 r2 r3 r4 r5 kE hd1 hd2 hd3 hd4 HBW HCC;generalize z.w=wy at *;go_wp2_with fail
      go_roundw
      case rel=>exact ⟨k+1,v4,by omega,by go_num,rfl,Lh ⟨HV4.out,HBY.out⟩⟩
      case measure=>simp [intOf]; omega
     ·have hoo:bL o2=bL u2++([32,40]++((d.args.map wArg).take k).flatten):=by rw [hq2.out.1]; unfold dA; rw [if_neg hk0]
      have HO3:Hid (bL o2=bL u2++([32,40]++((d.args.map wArg).take k).flatten)):=Lh hoo;have hk0':¬ (k:Int)=0:=by omega
      obtain ⟨o3,ho3e⟩ : ∃ o3,o3=o2:=⟨_,rfl⟩;rw [<- ho3e] at HO3 hoo;subst ho3e;have ho3z:o3.size=n2+2+((d.args.map wArg).take k).flatten.length:=by rw [<- za2,HO3.out,List.length_append,List.length_append,HN2.out]; simp only [List.length_cons,List.length_nil]; omega
      have hya:(wArg y).length=1+(y.1.size+(3+y.2.lit.length)):=by unfold wArg; rw [List.length_cons,List.length_append,List.length_append,za2]; simp only [List.length_cons,List.length_nil]; omega
      obtain ⟨ol,hol⟩ : ∃ ol:ByteArray,bL ol=y.2.lit:=⟨⟨y.2.lit.toArray⟩,bL_mk _⟩;have holz:ol.size=y.2.lit.length:=by rw [<- za2,hol]
      obtain ⟨v1,hv1,hd1⟩:=zb1 o3 ⟨#[32]⟩ (by show o3.size+1<=_; omega)
      have hv1z:v1.size=o3.size+1:=by rw [<- za2,hv1,List.length_append,za2]; rfl
      obtain ⟨v2,hv2,hd2⟩:=zb1 v1 y.1 (by omega)
      have hv2z:v2.size=v1.size+y.1.size:=by rw [<- za2,hv2,List.length_append,za2,za2]
      obtain ⟨v3,hv3,hd3⟩:=zb1 v2 ⟨#[32,58,32]⟩ (by show v2.size+3<=_; omega)
      have hv3z:v3.size=v2.size+3:=by rw [<- za2,hv3,List.length_append,za2]; rfl
      obtain ⟨v4,hv4,hd4⟩:=zb1 v3 ol (by omega)
      have HV4:Hid (bL v4=bL u2++dA d.args (k+1)):=Lh (by
       unfold dA;rw [if_neg (by omega),hv4,hv3,hv2,hv1,hol,HO3.out,HYS.out]; unfold wArg; simp [bL])
      have HCC:Hid (∀ W,Below w.heap.size w W->Calls Tryz.prog 99 #[.agg #[.int .i64 k1,.int .i64 n1,.string s1,.slice A3 li1 ci1,.slice K1 lk1 ck1]] W fun e w'=>e=.returned (.string ol)/\Below W.heap.size W w'):=Lh fun W hW=>by
       refine (zm7 y.2 W B _ (HVV.out.kept (hW.mono HBB.out)) (Nat.le_trans HBB.out hW.size) HCK.out (by omega)).mono ?_
       rintro e w' ⟨⟨o',rfl,ho'⟩,hb⟩;exact ⟨by rw [zg8 (ho'.trans hol.symm)],hb⟩
      have HD1:=Lh hd1;have HD2:=Lh hd2;have HD3:=Lh hd3;have HD4:=Lh hd4;clear ho3z hya hol holz hv1 hv1z hv2 hv2z hv3 hv3z hv4 hd1 hd2 hd3 hd4 hoo hys hwl;go_wp2_with fail
      refine K.za6 (fun W=>Below w.heap.size w W) hq2.out.2 (by kernel_rfl) ?_
      rintro W hbw _;have HBW:=Lh hbw;have hkp:∀ (z:K.Past W) (p:Addr),p.block<B->z.w.cell? p=w.cell? p:=fun z p hp=>((HBW.out.trans (z.b.mono HBW.out.size)).mono HBB.out).cell hp;have p1:∀ z:K.Past W,z.w.cell? ⟨(a.add (j*2)).block,(a.add (j*2)).off+1,none⟩=some (.slice (some a1) la c1):=fun z=>(hkp z _ (by show (a.add (j*2)).block<B; rw [za0]; exact HAB.out)).trans HCL.out
      have r0:∀ z:K.Past W,z.w.cell? (a1.add (k*6))=some (.string y.1):=fun z=>(hkp z _ (by rw [za0]; exact HA1B.out)).trans (HYC.out 0 (by omega) _ HY0.out)
      have r1:∀ z:K.Past W,z.w.cell? ⟨(a1.add (k*6)).block,(a1.add (k*6)).off+1,none⟩=some (.int .i64 k1):=fun z=>(hkp z _ (by show (a1.add (k*6)).block<B; rw [za0]; exact HA1B.out)).trans (HYC.out 1 (by omega) _ HE1.out)
      have r2:∀ z:K.Past W,z.w.cell? ⟨(a1.add (k*6)).block,(a1.add (k*6)).off+2,none⟩=some (.int .i64 n1):=fun z=>(hkp z _ (by show (a1.add (k*6)).block<B; rw [za0]; exact HA1B.out)).trans (HYC.out 2 (by omega) _ HE2.out)
      have r3:∀ z:K.Past W,z.w.cell? ⟨(a1.add (k*6)).block,(a1.add (k*6)).off+3,none⟩=some (.string s1):=fun z=>(hkp z _ (by show (a1.add (k*6)).block<B; rw [za0]; exact HA1B.out)).trans (HYC.out 3 (by omega) _ HE3.out)
      have r4:∀ z:K.Past W,z.w.cell? ⟨(a1.add (k*6)).block,(a1.add (k*6)).off+4,none⟩=some (.slice A3 li1 ci1):=fun z=>(hkp z _ (by show (a1.add (k*6)).block<B; rw [za0]; exact HA1B.out)).trans (HYC.out 4 (by omega) _ HE4.out)
      have r5:∀ z:K.Past W,z.w.cell? ⟨(a1.add (k*6)).block,(a1.add (k*6)).off+5,none⟩=some (.slice K1 lk1 ck1):=fun z=>(hkp z _ (by show (a1.add (k*6)).block<B; rw [za0]; exact HA1B.out)).trans (HYC.out 5 (by omega) _ HE5.out)
      have kE:Hid (∀ z:K.Past W,Calls Tryz.prog 99 #[.agg #[.int .i64 k1,.int .i64 n1,.string s1,.slice A3 li1 ci1,.slice K1 lk1 ck1]] z.w fun e w''=>e=.returned (.string ol)/\∃ t:K.Past W,w''=t.w):=Lh fun z=>K.zc5 z (HCC.out _ (HBW.out.trans (z.b.mono HBW.out.size)));have hd1:=HD1.out;have hd2:=HD2.out;have hd3:=HD3.out;have hd4:=HD4.out;clear hbw hkp q1
      repeat (go_big_quiet_step (with_reducible exact kE.out _))
      refine wpQuiet_nil ?_
      intro _ hw';obtain ⟨z,rfl⟩:=hw';have HBY:Hid (Below w.heap.size w z.w):=Lh (HBW.out.trans (z.b.mono HBW.out.size));clear p1 r0 r1 r2 r3 r4 r5 kE hd1 hd2 hd3 hd4 HBW HCC;generalize z.w=wy at *;go_wp2_with fail
      go_roundw
      case rel=>exact ⟨k+1,v4,by omega,by go_num,rfl,Lh ⟨HV4.out,HBY.out⟩⟩
      case measure=>simp [intOf]; omega
    ·obtain rfl:k=la:=by omega
     by_cases hk0:k=0
     ·have hk0':¬ (k:Int) > 0:=by omega
      have HNX:Hid (bL o2=((l.map wDir).take (j+1)).flatten):=Lh (by rw [hq2.out.1,HXS.out,HWD.out,if_pos hk0,hk0,HU2.out]; simp [dA])
      go_wp2_with fail
      go_roundw
      case rel=>exact ⟨j+1,o2,by omega,by go_num,rfl,Lh ⟨HNX.out,hq2.out.2⟩⟩
      case measure=>simp [intOf]; omega
     ·have hk0':(k:Int) > 0:=by omega
      have hoo:bL o2=bL u2++([32,40]++(d.args.map wArg).flatten):=by rw [hq2.out.1]; unfold dA; rw [if_neg hk0,List.take_of_length_le (by rw [List.length_map,HLA.out]; exact Nat.le_refl _)]
      have hwl:=HBD.out;rw [if_neg hk0] at hwl;have hoz:o2.size=n2+(2+(d.args.map wArg).flatten.length):=by rw [<- za2,hoo,List.length_append,HN2.out,List.length_append]; rfl
      obtain ⟨u5,hu5,hadd5⟩:=zb1 o2 ⟨#[32,41]⟩ (by show o2.size+2<=_; omega)
      have HNX:Hid (bL u5=((l.map wDir).take (j+1)).flatten):=Lh (by rw [hu5,hoo,HXS.out,HWD.out,if_neg hk0,HU2.out]; simp [bL])
      clear hoo hoz hu5 hwl;go_wp2_with fail
      go_roundw
      case rel=>exact ⟨j+1,u5,by omega,by go_num,rfl,Lh ⟨HNX.out,hq2.out.2⟩⟩
      case measure=>simp [intOf]; omega
  ·obtain rfl:j=ll:=by omega
   have HF:Hid (bL o=wDirs l):=Lh (by rw [hq.out.1,List.take_of_length_le (by rw [List.length_map,HLL.out]; exact Nat.le_refl _)]; rfl)
   go_wp2_with fail
   go_ret
   exact ⟨⟨o,rfl,HF.out⟩,hq.out.2⟩
end Go.Proofs.YtfgelheiknmjgaaGreatDoor
namespace Go.Proofs.YtfgelheiknmjgaaGreatDoor.K
open Go.RowKit Go.Shelf
attribute [local go_sem] Oper.semAt_some
def zt7 (l:List UInt8) (w:World) (e:Ending) (w':World):Prop:=e=.returned (.string ⟨l.toArray⟩)/\Below w.heap.size w w'
theorem pr_len (n:List UInt8) (xs:Ws):(prL n xs).length<=n.length+2*xs.length:=by
 unfold prL; rw [List.length_append,List.length_append,List.length_replicate,List.length_map,List.length_reverse]; have:=str_le xs; omega
theorem zP9 (a b:List UInt8):(⟨a.toArray⟩ : ByteArray)++⟨b.toArray⟩=⟨(a++b).toArray⟩:=by
 apply ByteArray.ext
 simp
theorem zV3 (n:ByteArray) (xs:Ws) (v:Value) (w:World) (h:RefV w w.heap.size v n xs) (hl:xs.length<=1000) (hns:n.size<=1000000000) (r0:Ws) (hnn:nnB xs=true) (hp:1<=xs.length) (hr1:xs.drop 1=r0) (hpr:prL n.data.toList xs=prL n.data.toList r0++[33]) (ih:∀ (v:Value) (w:World),RefV w w.heap.size v n r0->Calls Tryz.prog 49 #[v] w (zt7 (prL n.data.toList r0) w)):Calls Tryz.prog 49 #[v] w (zt7 (prL n.data.toList xs) w):=by
 obtain ⟨r,hr⟩ : ∃ r,r=r0:=⟨_,rfl⟩;subst hr;have HNS:=Lh hns;have HRL:Hid (r.length<=1000):=Lh (by rw [<- hr1,List.length_drop]; omega)
 have HNN:=Lh hnn;have HP:=Lh hp;have HR:=Lh hr1;have HPR:=Lh hpr;have IH:=Lh ih;clear hnn hp hr1 hpr ih hns;obtain ⟨A,c,rfl,hc,hi⟩:=h;have x3:=(Below.refl w.heap.size w).alloc (Nat.le_refl _) (.cells #[.string n,.slice A xs.length c] 44 (0,0));have X0:=Lh (BxR.new w (.string n) (.slice A xs.length c));have I0:=Lh (hi.stay x3);have B0:=Lh x3;have HC:=Lh hc;have HL:=Lh hl;clear hc hi x3 hl
 go_enter Tryz.func49, Tryz.ntmps49
 go_wp2_with fail
 generalize hW0:(w.alloc (.cells #[.string n,.slice A xs.length c] 44 (0,0)))=W0 at *;have q0:=X0.out.cells.1;have q1:=X0.out.cells.2;clear hW0;have hcall:=zw9 n xs _ _ ⟨A,c,rfl,HC.out,I0.out⟩;rw [HNN.out] at hcall;refine hcall.mono ?_
 clear hcall;rintro e w1 ⟨rfl,hb1⟩;clear q0 q1;have X1:=Lh (X0.out.stay hb1);have I1:=Lh (I0.out.stay hb1);have B1:=Lh (B0.out.trans (hb1.mono B0.out.size));have q0:=X1.out.cells.1;have q1:=X1.out.cells.2;clear X0 I0 B0 hb1;go_wp2_with fail
 have HE:=HR.out;have hcall:=yi3 n xs _ _ ⟨A,c,rfl,HC.out,I1.out⟩ HP.out (by have:=HL.out; omega)
 generalize hz1:xs.drop 1=zs1 at hcall HE;refine hcall.mono ?_
 clear hcall;rintro e w2 ⟨⟨u,rfl,A1,c1,rfl,hc1,hi1⟩,hb1⟩;have HC1:=Lh hc1;have HI1:=Lh hi1;clear hc1 hi1;have HZ1:=Lh hz1;clear hz1;clear q0 q1;have X2:=Lh (X1.out.stay hb1);have I2:=Lh (I1.out.stay hb1);have B2:=Lh (B1.out.trans (hb1.mono B1.out.size));have q0:=X2.out.cells.1;have q1:=X2.out.cells.2;clear X1 I1 B1 hb1;have HE2:=Lh HE;clear HE;go_wp2_with fail
 have hcall:=IH.out _ _ (show RefV w2 w2.heap.size (.agg #[.string n,.slice A1 zs1.length c1]) n r from HE2.out▸⟨A1,c1,rfl,HC1.out,HI1.out⟩);refine hcall.mono ?_
 clear hcall;rintro e w3 ⟨rfl,hb1⟩;have B3:=Lh (B2.out.trans (hb1.mono B2.out.size));clear hb1 q0 q1;have HS:=Lh (zP9 (prL n.data.toList r) [33]);have hol:=pr_len n.data.toList r;rw [T1.size_eq] at hol;have hol2:(prL n.data.toList r).length<=9000000000:=by have:=HNS.out; have:=HRL.out; omega
 clear hol;generalize prL n.data.toList r=out at *;have hlm1:¬ (9223372036854775807<out.length+1):=by omega
 have hlm2:¬ (9223372036854775807<1+out.length):=by omega
 have hlm3:¬ (9223372036854775807<1+out.length+1):=by omega
 have hlm4:¬ (9223372036854775807<out.length+1+1):=by omega
 clear hol2;go_wp2_with fail
 refine bodyPost_ret (results_tmp rfl _ _ _) rfl ⟨?_,B3.out⟩
 rw [HPR.out];exact congrArg (fun x=>Ending.returned (.string x)) HS.out
theorem zV2 (n:ByteArray) (xs:Ws) (v:Value) (w:World) (h:RefV w w.heap.size v n xs) (hl:xs.length<=1000) (hns:n.size<=1000000000) (r0:Ws) (hnn:nnB xs=false) (hp:1<=xs.length) (hr1:xs.drop 1=r0) (hpr:prL n.data.toList xs=91::prL n.data.toList r0++[93]) (ih:∀ (v:Value) (w:World),RefV w w.heap.size v n r0->Calls Tryz.prog 49 #[v] w (zt7 (prL n.data.toList r0) w)):Calls Tryz.prog 49 #[v] w (zt7 (prL n.data.toList xs) w):=by
 obtain ⟨r,hr⟩ : ∃ r,r=r0:=⟨_,rfl⟩;subst hr;have HNS:=Lh hns;have HRL:Hid (r.length<=1000):=Lh (by rw [<- hr1,List.length_drop]; omega)
 have HNN:=Lh hnn;have HP:=Lh hp;have HR:=Lh hr1;have HPR:=Lh hpr;have IH:=Lh ih;clear hnn hp hr1 hpr ih hns;obtain ⟨A,c,rfl,hc,hi⟩:=h;have x3:=(Below.refl w.heap.size w).alloc (Nat.le_refl _) (.cells #[.string n,.slice A xs.length c] 44 (0,0));have X0:=Lh (BxR.new w (.string n) (.slice A xs.length c));have I0:=Lh (hi.stay x3);have B0:=Lh x3;have HC:=Lh hc;have HL:=Lh hl;clear hc hi x3 hl
 go_enter Tryz.func49, Tryz.ntmps49
 go_wp2_with fail
 generalize hW0:(w.alloc (.cells #[.string n,.slice A xs.length c] 44 (0,0)))=W0 at *;have q0:=X0.out.cells.1;have q1:=X0.out.cells.2;clear hW0;have hcall:=zw9 n xs _ _ ⟨A,c,rfl,HC.out,I0.out⟩;rw [HNN.out] at hcall;refine hcall.mono ?_
 clear hcall;rintro e w1 ⟨rfl,hb1⟩;clear q0 q1;have X1:=Lh (X0.out.stay hb1);have I1:=Lh (I0.out.stay hb1);have B1:=Lh (B0.out.trans (hb1.mono B0.out.size));have q0:=X1.out.cells.1;have q1:=X1.out.cells.2;clear X0 I0 B0 hb1;have hp0:(0:Int)<xs.length:=by have:=HP.out; omega
 go_wp2_with fail
 clear hp0;have HE:=HR.out;have hcall:=yi3 n xs _ _ ⟨A,c,rfl,HC.out,I1.out⟩ HP.out (by have:=HL.out; omega)
 generalize hz1:xs.drop 1=zs1 at hcall HE;refine hcall.mono ?_
 clear hcall;rintro e w2 ⟨⟨u,rfl,A1,c1,rfl,hc1,hi1⟩,hb1⟩;have HC1:=Lh hc1;have HI1:=Lh hi1;clear hc1 hi1;have HZ1:=Lh hz1;clear hz1;clear q0 q1;have X2:=Lh (X1.out.stay hb1);have I2:=Lh (I1.out.stay hb1);have B2:=Lh (B1.out.trans (hb1.mono B1.out.size));have q0:=X2.out.cells.1;have q1:=X2.out.cells.2;clear X1 I1 B1 hb1;have HE2:=Lh HE;clear HE;go_wp2_with fail
 have hcall:=IH.out _ _ (show RefV w2 w2.heap.size (.agg #[.string n,.slice A1 zs1.length c1]) n r from HE2.out▸⟨A1,c1,rfl,HC1.out,HI1.out⟩);refine hcall.mono ?_
 clear hcall;rintro e w3 ⟨rfl,hb1⟩;have B3:=Lh (B2.out.trans (hb1.mono B2.out.size));clear hb1 q0 q1;have HS:=Lh (zP9 [91] (prL n.data.toList r));have HS2:=Lh (zP9 (91::prL n.data.toList r) [93]);have hol:=pr_len n.data.toList r;rw [T1.size_eq] at hol;have hol2:(prL n.data.toList r).length<=9000000000:=by have:=HNS.out; have:=HRL.out; omega
 clear hol;generalize prL n.data.toList r=out at *;have hlm1:¬ (9223372036854775807<out.length+1):=by omega
 have hlm2:¬ (9223372036854775807<1+out.length):=by omega
 have hlm3:¬ (9223372036854775807<1+out.length+1):=by omega
 have hlm4:¬ (9223372036854775807<out.length+1+1):=by omega
 clear hol2;go_wp2_with fail
 refine bodyPost_ret (results_tmp rfl _ _ _) rfl ⟨?_,B3.out⟩
 rw [HPR.out];exact congrArg (fun x=>Ending.returned (.string x)) ((congrArg (fun x=>x++(⟨#[93]⟩ : ByteArray)) HS.out).trans HS2.out)
theorem zV4 (n:ByteArray) (v:Value) (w:World) (h:RefV w w.heap.size v n []):Calls Tryz.prog 49 #[v] w (zt7 (prL n.data.toList []) w):=by
 have hl:([]:Ws).length<=1000:=by decide
 obtain ⟨A,c,rfl,hc,hi⟩:=h;have x3:=(Below.refl w.heap.size w).alloc (Nat.le_refl _) (.cells #[.string n,.slice A ([]:Ws).length c] 44 (0,0));have X0:=Lh (BxR.new w (.string n) (.slice A ([]:Ws).length c));have I0:=Lh (hi.stay x3);have B0:=Lh x3;have HC:=Lh hc;have HPR:=Lh (pr_nil n.data.toList);clear hc hi x3 hl
 go_enter Tryz.func49, Tryz.ntmps49
 go_wp2_with fail
 have hcall:=zw9 n [] _ _ ⟨A,c,rfl,HC.out,I0.out⟩;refine hcall.mono ?_
 clear hcall;rintro e w1 ⟨rfl,hb1⟩;have X1:=X0.out.stay hb1;have q0:=X1.cells.1;have q1:=X1.cells.2;have hnn:nnB []=false:=rfl;have B1:=Lh (B0.out.trans (hb1.mono B0.out.size));rw [hnn];clear hb1 X1 hnn;go_wp2_with fail
 exact bodyPost_ret (v:=.string n) (by simp [results,Tryz.results49,go_sem]) rfl ⟨by rw [HPR.out],B1.out⟩
theorem zo5 (n:ByteArray) (hns:n.size<=1000000000):∀ (xs:Ws) (v:Value) (w:World),xs.length<=1000->RefV w w.heap.size v n xs->Calls Tryz.prog 49 #[v] w (zt7 (prL n.data.toList xs) w)
 | [],v,w,_,h=>zV4 n v w h
 | x::r,v,w,hl,h=>by
   have ih:=fun v w=>zo5 n hns r v w (by simp at hl; omega)
   by_cases hx:x=1
   ·subst hx
    exact zV3 n (1::r) v w h hl hns r rfl (by simp) rfl (pr_one _ _) ih
   ·exact zV2 n (x::r) v w h hl hns r (by simp [nnB,hx]) (by simp) rfl (pr_two _ _ _ hx) ih
end Go.Proofs.YtfgelheiknmjgaaGreatDoor.K
