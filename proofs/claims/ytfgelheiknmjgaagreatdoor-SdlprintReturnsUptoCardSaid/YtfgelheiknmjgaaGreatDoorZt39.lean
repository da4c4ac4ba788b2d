
/-
 Texts joined: N4a N4 NM NV G4p NR NO NO2 NW.
-/
import Derived.Test.YtfgelheiknmjgaaGreatDoorZt38
set_option maxRecDepth 1000000
set_option maxHeartbeats 8000000
namespace Go.Proofs.YtfgelheiknmjgaaGreatDoor
open Go.RowKit
def cellAt (v:Value) (j:Nat):Value:=match v with | .agg cs=>cs.getD j undef | _=>undef
theorem Rd.vals {w:World} {B:Nat} {k n:Int} {s:ByteArray} {A:Option Addr} {li ci:Nat} {K:Option Addr} {lk ck:Nat} {items:List VT} {keys:List ByteArray}
  (h:Rd w B (.agg #[.int .i64 k,.int .i64 n,.string s,.slice A li ci,.slice K lk ck]) (.mk k n s items keys)):ValsR w B (.slice A li ci) items:=by
 cases h with
 | @mk _ _ _ _ _ _ _ _ _ _ _ V hk hn hs hks hli hlk hbi hbk hA hr hK =>
 subst hli;have hv:∀ i,i<items.length->∃ d0 d1 d2 d3 d4,V i=.agg #[d0,d1,d2,d3,d4]:=fun i hi=>by
  obtain ⟨a,_,_,hc⟩:=hA (by omega);obtain ⟨d0,d1,d2,d3,d4,e,_⟩:=hc i hi;exact ⟨d0,d1,d2,d3,d4,e⟩
 refine ⟨A,ci,rfl,trivial,by unfold big; omega,fun i j=>cellAt (V i) j,fun h0=>?_,fun i x hx=>?_⟩
 ·obtain ⟨a,e,ha,hc⟩:=hA h0
  refine ⟨a,e,ha,fun i hi j hj=>?_⟩
  obtain ⟨d0,d1,d2,d3,d4,e,q0,q1,q2,q3,q4⟩:=hc i hi;show _=some (cellAt (V i) j);rw [e]
  match j,hj with
  | 0,_=>exact q0
  | 1,_=>exact q1
  | 2,_=>exact q2
  | 3,_=>exact q3
  | 4,_=>exact q4
 ·obtain ⟨d0,d1,d2,d3,d4,e⟩:=hv i (List.getElem?_eq_some_iff.1 hx).1
  have h1:=hr i x hx;show Rd w B (.agg #[cellAt (V i) 0,cellAt (V i) 1,cellAt (V i) 2,cellAt (V i) 3,cellAt (V i) 4]) x;rw [e] at h1 ⊢;exact h1
theorem Rd.keysOf {w:World} {B:Nat} {k n:Int} {s:ByteArray} {A:Option Addr} {li ci:Nat} {K:Option Addr} {lk ck:Nat} {items:List VT} {keys:List ByteArray}
  (h:Rd w B (.agg #[.int .i64 k,.int .i64 n,.string s,.slice A li ci,.slice K lk ck]) (.mk k n s items keys)):keys.length=lk/\items.length=li/\li*80<=140737488351232/\lk*16<=140737488351232/\lk<=ck/\KeysAt w B K keys:=by
 cases h with
 | @mk _ _ _ _ _ _ _ _ _ _ _ V hk hn hs hks hli hlk hbi hbk hA hr hK=>exact ⟨hlk,hli,hbi,hbk.1,hbk.2,hK⟩
theorem zQ8 (B b:Nat) (k n:Int) (s:ByteArray) (items:List VT) (keys:List ByteArray) (hkl:keys.length=items.length)
  (ih:∀ (i:Nat) (t:VT),items[i]?=some t->∀ (f:Nat->Value) (W:World),ValR W B f t->zg1 B b W 60 (.agg #[f 0,f 1,f 2,f 3,f 4]) t.src)
  (A:Option Addr) (li ci:Nat) (K:Option Addr) (lk ck:Nat) (w:World) (h:Rd w B (.agg #[.int .i64 k,.int .i64 n,.string s,.slice A li ci,.slice K lk ck]) (.mk k n s items keys)) :
  zg1 B b w 128 (.agg #[.int .i64 k,.int .i64 n,.string s,.slice A li ci,.slice K lk ck]) (123::(jn [44,32] (zh6 keys items)++[125])):=by
 intro l hp hL hl hB;obtain ⟨hlk,hli,hbi,hbk,hck,hK⟩:=h.keysOf;obtain ⟨A',c',e',_,_,V,hA,hr⟩:=h.vals;cases e';clear hli;rw [<- hkl] at hbi hA;rw [<- hkl];obtain ⟨L,hL0⟩ : ∃ L,keys.length=L:=⟨_,rfl⟩;rw [hL0] at hlk hbi hA ⊢;subst hlk;have hlm:(L:Int)<=140737488351232:=by omega
 have hcm:(L:Int)<=ck:=by omega
 have HA:=Lh hA;have HR:=Lh hr;have HK:=Lh hK;have HKL:=Lh hkl;have HL0:=Lh hL0;have IH:=Lh ih;have HW0:Hid (Wr B b w (w.alloc (.cells #[.int .i64 k,.int .i64 n,.string s,.slice A L ci,.slice K L ck] 53 (0,0)))):=Lh ((Wr.refl B b w).alloc hB _);have HP0:=Lh (hp.alloc (.cells #[.int .i64 k,.int .i64 n,.string s,.slice A L ci,.slice K L ck] 53 (0,0)));have HK0:=Lh (Bk.new w #[.int .i64 k,.int .i64 n,.string s,.slice A L ci,.slice K L ck] 53);have HL:=Lh hL;have HLL:=Lh hl;have HBB:=Lh hB;have hbw:=hp.lt;clear hL hl hB hp hA hr hK hkl hL0 ih h hbi hbk hck;obtain ⟨y0,y1,y2,y3,y4⟩:=HK0.out.c5
 go_enter Tryz.func128, Tryz.ntmps128
 go_wp2_with fail
 refine (put1 _ B b _ _ _ (by simp) HP0.out (by have h1:=HLL.out; (try simp only [za8,List.length_append,List.length_cons,List.length_nil,za5,za3] at h1 ⊢); omega) (Nat.le_trans HBB.out HW0.out.below.size)).mono ?_
 rintro e w1 ⟨rfl,hp,hw⟩;have HP1:=Lh hp;have HW1:=Lh (HW0.out.trans hw);have HK1:=Lh (HK0.out.wr hw (by omega) (by decide));clear hp hw y0 y1 y2 y3 y4;have HOL:Hid ((zh6 keys items).length=L):=Lh (by unfold zh6; rw [List.length_zipWith,List.length_map, <- HKL.out,HL0.out,Nat.min_self]);go_wp2_with fail
 go_loopw [22] (fun u wr=>∃ i:Nat,i<=L/\u=.int .i64 i/\Hid (PB B b (l++[123]++jn [44,32] ((zh6 keys items).take i)) wr/\Wr B b w wr/\Bk wr w.heap.size #[.int .i64 k,.int .i64 n,.string s,.slice A L ci,.slice K L ck] 53)) (fun u _=>L-(intOf u).toNat)
 case atStart=>exact ⟨0,Nat.zero_le _,rfl,Lh ⟨by rw [List.take_zero,jn_nil,List.append_nil]; exact HP1.out,HW1.out,HK1.out⟩⟩
 case round =>
  obtain ⟨i,hi,rfl,hr⟩:=hrel;by_cases hlt:i<L
  ·have hlt':(i:Int)<L:=by omega
   obtain ⟨x,hxi⟩ : ∃ x,items[i]?=some x:=⟨_,List.getElem?_eq_getElem (by rw [<- HKL.out,HL0.out]; exact hlt)⟩;obtain ⟨y,hyi⟩ : ∃ y,keys[i]?=some y:=⟨_,List.getElem?_eq_getElem (by rw [HL0.out]; exact hlt)⟩;have HXI:=Lh hxi;have hx:ValR wr B (V i) x:=ValR.stays.kept (HR.out i x hxi) hr.out.2.1.below;have HF1:=Lh (IH.out i x hxi);obtain ⟨a,rfl,ha,hc0⟩:=HA.out (by omega);obtain ⟨a',rfl,ha',hk0⟩:=HK.out (by rw [HL0.out]; omega);have HA2:Hid (∀ W,Below B w W->∀ j,j<5->W.cell? (at_ (a.add (i*5)) j)=some (V i j)):=Lh fun W hb j hj=>(hb.cell (by rw [zb5,za1]; exact ha)).trans (hc0 i hlt j hj);have q0:wr.cell? (a'.add i)=some (.string y):=(hr.out.2.1.below.cell (by rw [za1]; exact ha')).trans (hk0 i y hyi);obtain ⟨k',n',s',VA,vli,vci,VK,vlk,vck,e0,e1,e2,e3,e4⟩:=Rd.form hx;have HX:=Lh hx;have HE:Hid (#[V i 0,V i 1,V i 2,V i 3,V i 4]=#[.int .i64 k',.int .i64 n',.string s',.slice VA vli vci,.slice VK vlk vck]):=Lh (by rw [e0,e1,e2,e3,e4]);have E0:=Lh e0; have E1:=Lh e1; have E2:=Lh e2; have E3:=Lh e3; have E4:=Lh e4;have HT:Hid ((zh6 keys items)[i]?=some (bL y++(58::32::x.src))):=Lh (by unfold zh6; rw [List.getElem?_zipWith,hyi,List.getElem?_map,hxi]; rfl);have HST:=Lh (zh1 [44,32] HT.out);have HTK:=Lh (zp8 [44,32] HT.out);have hsz:=hr.out.2.1.below.size;have hbl:=hr.out.1.lt;have hwl:=hr.out.2.2.lt;clear hc0 hk0 hx hxi hyi e0 e1 e2 e3 e4;have HPr:=Lh hr.out.1;have HWr:=Lh hr.out.2.1;have HKr:=Lh hr.out.2.2;clear hr;by_cases hi0:i=0
   ·have hi0':¬ (i:Int) > 0:=by omega
    have HI0:=Lh hi0;clear hi0;go_wp2_with fail;refine (put2 _ _ B b _ _ _ (by simp) HPr.out (by have h1:=HST.out; have h2:=HLL.out; rw [if_pos HI0.out] at h1; (try simp only [za8,List.length_append,List.length_cons,List.length_nil,za5,za3] at h1 h2 ⊢); omega) (Nat.le_trans HBB.out HWr.out.below.size)).mono ?_
    rintro e w5 ⟨rfl,hp,hw⟩;have HP5:=Lh hp;have HW5:=Lh (HWr.out.trans hw);have HK5:=Lh (HKr.out.wr hw (by omega) (by decide));have HX5:Hid (ValR w5 B (V i) x):=Lh (HX |>.out |> fun h=>ValR.stays.kept h hw.below);clear hp hw;obtain ⟨y0,y1,y2,y3,y4⟩:=HK5.out.c5;have k0:w5.cell? (a.add (i*5))=some (V i 0):=HA2.out w5 HW5.out.below 0 (by omega);have k1:w5.cell? ⟨(a.add (i*5)).block,(a.add (i*5)).off+1,none⟩=some (V i 1):=HA2.out w5 HW5.out.below 1 (by omega);have k2:w5.cell? ⟨(a.add (i*5)).block,(a.add (i*5)).off+2,none⟩=some (V i 2):=HA2.out w5 HW5.out.below 2 (by omega);have k3:w5.cell? ⟨(a.add (i*5)).block,(a.add (i*5)).off+3,none⟩=some (V i 3):=HA2.out w5 HW5.out.below 3 (by omega);have k4:w5.cell? ⟨(a.add (i*5)).block,(a.add (i*5)).off+4,none⟩=some (V i 4):=HA2.out w5 HW5.out.below 4 (by omega);rw [E0.out] at k0; rw [E1.out] at k1; rw [E2.out] at k2; rw [E3.out] at k3; rw [E4.out] at k4;have CALL:=Lh (HF1.out (V i) _ HX5.out _ HP5.out (HL.out.kept HW5.out.below) (by have h1:=HST.out; have h2:=HLL.out; rw [if_pos HI0.out] at h1; (try simp only [za8,List.length_append,List.length_cons,List.length_nil,za5,za3] at h1 h2 ⊢); omega) (Nat.le_trans HBB.out HW5.out.below.size));rw [HE.out] at CALL;go_wp2_with fail;refine CALL.out.mono ?_
    rintro e w6 ⟨rfl,hp,hw⟩;have HP6:Hid (PB B b (l++[123]++jn [44,32] ((zh6 keys items).take (i+1))) w6):=Lh (by
     rw [HTK.out,if_pos HI0.out]; (try simp only [List.append_assoc] at hp); (try simp only [List.nil_append]); (try simp only [List.append_assoc]); exact hp)
    have HW6:=Lh (HW5.out.trans hw);have HK6:=Lh (HK5.out.wr hw (by have:=HW5.out.below.size; omega) (by decide));clear hp hw CALL y0 y1 y2 y3 y4 k0 k1 k2 k3 k4;go_wp2_with fail
    go_roundw
    case rel=>exact ⟨i+1,by omega,by go_num,Lh ⟨HP6.out,HW6.out,HK6.out⟩⟩
    case measure=>simp [intOf]; omega
   ·have hi0':(i:Int) > 0:=by omega
    have HI0:=Lh hi0;clear hi0;go_wp2_with fail;refine (put1 _ B b _ _ _ (by simp) HPr.out (by have h1:=HST.out; have h2:=HLL.out; rw [if_neg HI0.out] at h1; (try simp only [za8,List.length_append,List.length_cons,List.length_nil,za5,za3] at h1 h2 ⊢); omega) (Nat.le_trans HBB.out HWr.out.below.size)).mono ?_
    rintro e w4 ⟨rfl,hp,hw⟩;have HP4:=Lh hp;have HW4:=Lh (HWr.out.trans hw);have HK4:=Lh (HKr.out.wr hw (by omega) (by decide));have HX4:Hid (ValR w4 B (V i) x):=Lh (ValR.stays.kept HX.out hw.below);have hsz4:=hw.below.size;clear hp hw;go_wp2_with fail;refine (put2 _ _ B b _ _ _ (by simp) HP4.out (by have h1:=HST.out; have h2:=HLL.out; rw [if_neg HI0.out] at h1; (try simp only [za8,List.length_append,List.length_cons,List.length_nil,za5,za3] at h1 h2 ⊢); omega) (Nat.le_trans HBB.out HW4.out.below.size)).mono ?_
    rintro e w5 ⟨rfl,hp,hw⟩;have HP5:=Lh hp;have HW5:=Lh (HW4.out.trans hw);have HK5:=Lh (HK4.out.wr hw (by omega) (by decide));have HX5:Hid (ValR w5 B (V i) x):=Lh (HX4 |>.out |> fun h=>ValR.stays.kept h hw.below);clear hp hw;obtain ⟨y0,y1,y2,y3,y4⟩:=HK5.out.c5;have k0:w5.cell? (a.add (i*5))=some (V i 0):=HA2.out w5 HW5.out.below 0 (by omega);have k1:w5.cell? ⟨(a.add (i*5)).block,(a.add (i*5)).off+1,none⟩=some (V i 1):=HA2.out w5 HW5.out.below 1 (by omega);have k2:w5.cell? ⟨(a.add (i*5)).block,(a.add (i*5)).off+2,none⟩=some (V i 2):=HA2.out w5 HW5.out.below 2 (by omega);have k3:w5.cell? ⟨(a.add (i*5)).block,(a.add (i*5)).off+3,none⟩=some (V i 3):=HA2.out w5 HW5.out.below 3 (by omega);have k4:w5.cell? ⟨(a.add (i*5)).block,(a.add (i*5)).off+4,none⟩=some (V i 4):=HA2.out w5 HW5.out.below 4 (by omega);rw [E0.out] at k0; rw [E1.out] at k1; rw [E2.out] at k2; rw [E3.out] at k3; rw [E4.out] at k4;have CALL:=Lh (HF1.out (V i) _ HX5.out _ HP5.out (HL.out.kept HW5.out.below) (by have h1:=HST.out; have h2:=HLL.out; rw [if_neg HI0.out] at h1; (try simp only [za8,List.length_append,List.length_cons,List.length_nil,za5,za3] at h1 h2 ⊢); omega) (Nat.le_trans HBB.out HW5.out.below.size));rw [HE.out] at CALL;go_wp2_with fail;refine CALL.out.mono ?_
    rintro e w6 ⟨rfl,hp,hw⟩;have HP6:Hid (PB B b (l++[123]++jn [44,32] ((zh6 keys items).take (i+1))) w6):=Lh (by
     rw [HTK.out,if_neg HI0.out]; (try simp only [List.append_assoc] at hp); (try simp only [List.nil_append]); (try simp only [List.append_assoc]); exact hp)
    have HW6:=Lh (HW5.out.trans hw);have HK6:=Lh (HK5.out.wr hw (by have:=HW5.out.below.size; omega) (by decide));clear hp hw CALL y0 y1 y2 y3 y4 k0 k1 k2 k3 k4;go_wp2_with fail
    go_roundw
    case rel=>exact ⟨i+1,by omega,by go_num,Lh ⟨HP6.out,HW6.out,HK6.out⟩⟩
    case measure=>simp [intOf]; omega
  ·have:i=L:=by omega
   subst this;have HPF:Hid (PB B b (l++[123]++jn [44,32] (zh6 keys items)) wr):=Lh (by have:=hr.out.1; rwa [List.take_of_length_le (by rw [HOL.out]; exact Nat.le_refl _)] at this);have HWF:=Lh hr.out.2.1;clear hr;go_wp2_with fail;refine (put1 _ B b _ _ _ (by simp) HPF.out (by have h1:=HLL.out; (try simp only [za8,List.length_append,List.length_cons,List.length_nil,za5,za3] at h1 ⊢); omega) (Nat.le_trans HBB.out HWF.out.below.size)).mono ?_
   rintro e w7 ⟨rfl,hp,hw⟩;have HP7:=Lh hp;have HW7:=Lh (HWF.out.trans hw);clear hp hw;go_wp2_with fail
   go_end0
   exact ⟨rfl,by have h1:=HP7.out; (try simp only [List.append_assoc] at h1); exact h1,HW7.out⟩
def OwnR (w:World) (base:Nat) (v:Value) (ss:List ByteArray):Prop:=w.ownsRow base 9 1 v ss.length (ss.map Value.string)
theorem bL_mk (l:List UInt8):bL ⟨l.toArray⟩=l:=by simp [bL]
end Go.Proofs.YtfgelheiknmjgaaGreatDoor
namespace Go.Proofs.YtfgelheiknmjgaaGreatDoor.K
open Go.RowKit
theorem zy5 {P:Program} {ops:Array Oper} {Q:Exit->Act->World->Prop} (hm:P.follows .mixedOrders=true) {id:Nat} {a0:Act} {W0:World} (hl:lowB ops=true) (s:Nat) (hb:dstB ops a0.tmps.size s=true)
  (J:(Nat->Bool)->(Nat->Value)->World->Prop) (h0:J (fun _=>false) (fun j=>vof ops a0 j) W0.drew)
  (hop:∀ i o,ops[i]?=some o->∀ (d:Nat->Bool) (a:Act) (w:World),Fr ops a0 a->J d (fun j=>vof ops a j) w->d i=false->(∀ e∈o.after,Region.binds .any e=true->d e.on=true) ->
    Runs P ops Q o a w fun u w'=>J (fun j=>if i=j then true else d j) (fun j=>if i=j/\i≠s then u else vof ops a j) w')
  (hend:∀ (d:Nat->Bool) (a:Act) (w:World),Fr ops a0 a->(∀ i,i<ops.size->d i=true)->J d (fun j=>vof ops a j) w->Q .normal a w) :
  (Code.region id ops true).wp P Q a0 W0:=by
 refine zm9 hm hl (fun L a w=>Fr ops a0 a/\J (fun j=>L.getD j false) (fun j=>vof ops a j) w) ?_ ?_ ?_
 ·have hz:(fun i=>(Array.replicate ops.size false).getD i false)=fun _=>false:=by
   funext i
   rw [Array.getD_eq_getD_getElem?,Array.getElem?_replicate]; split <;> rfl
  exact ⟨⟨rfl,rfl,fun _ _=>rfl⟩,by rw [hz]; exact h0⟩
 ·intro L a w i hs ⟨hf,hJ⟩ hi
  obtain ⟨h0,o,ho,hall⟩:=mem_ready.1 hi;have hil:i<ops.size:=(Array.getElem?_eq_some_iff.1 ho).1;have hLi:i<L.size:=by omega
  have hset:(fun j=>(L.setIfInBounds i true).getD j false)=fun j=>if i=j then true else L.getD j false:=by
   funext j
   by_cases e:i=j
   ·subst e; rw [if_pos rfl]; simp [Array.getD_eq_getD_getElem?,hLi]
   ·rw [if_neg e,Array.getD_eq_getD_getElem?,Array.getD_eq_getD_getElem?,Array.getElem?_setIfInBounds_ne e]
  have hi0:L.getD i false=false:=by
   rw [Array.getD_eq_getD_getElem?,Array.getElem?_eq_getElem hLi] at h0 ⊢; simpa using h0
  obtain ⟨hw,hr⟩:=hop i o ho (fun j=>L.getD j false) a w hf hJ hi0 (fun e he hbd=>hall e he hbd);unfold wpOp;rw [ho];simp only [hw,if_true];refine .inl (Oper.wp_mono (fun a' w' ⟨v,e,hv⟩=>?_) hr)
  subst e;refine ⟨hf.put ho v, ?_⟩;rw [hset];have hvv:(fun j=>vof ops (a.put o.dst v) j)=fun j=>if i=j/\i≠s then v else vof ops a j:=by
   funext j
   exact zP1 hb hf ho v
  rw [hvv];exact hv
 ·intro L a w hs hall ⟨hf,hJ⟩
  refine hend _ a w hf (fun i hi=>?_) hJ
  have:=hall i hi;rw [Array.getD_eq_getD_getElem?,Array.getElem?_eq_getElem (by omega)] at this ⊢; simpa using this
end Go.Proofs.YtfgelheiknmjgaaGreatDoor.K
namespace Go.Proofs.YtfgelheiknmjgaaGreatDoor
open Go.RowKit
theorem zv0 {P:Program} {ops:Array Oper} {Q:Exit->Act->World->Prop} {o:Oper} {a:Act} {w:World} {R R':Value->World->Prop} (h:K.Runs P ops Q o a w R) (hr:∀ u w',R u w'->R' u w'):K.Runs P ops Q o a w R' :=
 ⟨h.1,Oper.wp_mono (fun _ _ ⟨v,e,hv⟩=>⟨v,e,hr _ _ hv⟩) h.2⟩
theorem zn4 {P:Program} {ops:Array Oper} {Q:Exit->Act->World->Prop} {o:Oper} {a:Act} {w:World} {R:Value->World->Prop} (hw:Region.wanted o (yielded ops a.tmps)=true) (f:FuncId) (xs:Array Operand) (ts:Array TypeId)
  (ho:o.op=.call { callee:=.value (.func f),args:=xs,argTypes:=ts }) (hen:∀ (args:Array Value) (w:World),(callFunc f args).run P w=.ok (.enter f args) w) (vs:Array Value) (hx:xs.map a.eval=vs)
  (hc:Calls P f vs w fun e w'=>∃ v,e=.returned v/\R v w'):K.Runs P ops Q o a w R:=by
 refine ⟨hw, ?_⟩
 unfold Oper.wp;have he:(execOp a.eval o).run P w=.ok (.enter f vs) w:=by
  simp [execOp,ho,go_sem,hx,hen]
 rw [he];refine hc.mono fun e w' h=>?_;obtain ⟨v,hv,hr⟩:=h;subst hv; exact ⟨v,rfl,hr⟩
structure CJ (W1:World) (v0:Value) (pv:Nat->Option Value) (b c e x:Nat) (C:World->Prop) (G E:Value->World->Prop) (cl:(Nat->Bool)->Prop) (d:Nat->Bool) (v:Nat->Value) (w:World):Prop where
 pure:∀ i u,pv i=some u->d i=true->v i=u
 closed:cl d
 oc:d c=true->d b=true
 oe:d e=true->d c=true
 ox:d x=true->d e=true
 f0:d b=false->w=W1
 fb:d b=true->d c=false->C w
 fc:d c=true->d e=false->G (v c) w
 fe:d e=true->E (v e) w
 fx:d x=true->v x=v e
 gx:d x=false->v x=v0
structure CJi (n:Nat) (pv:Nat->Option Value) (b c e x:Nat):Prop where
 bc:b≠c
 be:b≠e
 bx:b≠x
 ce:c≠e
 cx:c≠x
 ex:e≠x
 nc:pv c=none
 ne:pv e=none
 nx:pv x=none
 b_:b<n
 c_:c<n
 e_:e<n
def zX0 (ops:Array Oper) (d:Nat->Bool):Prop:=∀ i o,ops[i]?=some o->d i=true->∀ y∈o.after,Region.binds .any y=true->d y.on=true
section
variable {W1 w:World} {v0:Value} {pv:Nat->Option Value} {b c e x:Nat} {C:World->Prop} {G E:Value->World->Prop} {cl:(Nat->Bool)->Prop} {D:Nat->Bool} {V:Nat->Value}
theorem CJ.mkC (hp:∀ i u,pv i=some u->D i=true->V i=u) (hc:cl D) (h1:D b=true) (h2:D c=false) (h3:D e=false) (h4:D x=false) (h5:V x=v0) (h:C w):CJ W1 v0 pv b c e x C G E cl D V w :=
 ⟨hp,hc,fun q=>(by rw [h2] at q; cases q),fun q=>(by rw [h3] at q; cases q),fun q=>(by rw [h4] at q; cases q),fun q=>(by rw [h1] at q; cases q),fun _ _=>h,fun q=>(by rw [h2] at q; cases q),fun q=>(by rw [h3] at q; cases q),fun q=>(by rw [h4] at q; cases q),fun _=>h5⟩
theorem CJ.mkG (u:Value) (hp:∀ i u,pv i=some u->D i=true->V i=u) (hc:cl D) (h1:D b=true) (h2:D c=true) (h3:D e=false) (h4:D x=false) (h5:V x=v0) (hv:V c=u) (h:G u w):CJ W1 v0 pv b c e x C G E cl D V w :=
 ⟨hp,hc,fun _=>h1,fun q=>(by rw [h3] at q; cases q),fun q=>(by rw [h4] at q; cases q),fun q=>(by rw [h1] at q; cases q),fun _ q=>(by rw [h2] at q; cases q),fun _ _=>(by rw [hv]; exact h),fun q=>(by rw [h3] at q; cases q),fun q=>(by rw [h4] at q; cases q),fun _=>h5⟩
theorem CJ.mkE (u:Value) (hp:∀ i u,pv i=some u->D i=true->V i=u) (hc:cl D) (h1:D b=true) (h2:D c=true) (h3:D e=true) (h4:D x=false) (h5:V x=v0) (hv:V e=u) (h:E u w):CJ W1 v0 pv b c e x C G E cl D V w :=
 ⟨hp,hc,fun _=>h1,fun _=>h2,fun q=>(by rw [h4] at q; cases q),fun q=>(by rw [h1] at q; cases q),fun _ q=>(by rw [h2] at q; cases q),fun _ q=>(by rw [h3] at q; cases q),fun _=>(by rw [hv]; exact h),fun q=>(by rw [h4] at q; cases q),fun _=>h5⟩
theorem CJ.mkX (u:Value) (hp:∀ i u,pv i=some u->D i=true->V i=u) (hc:cl D) (h1:D b=true) (h2:D c=true) (h3:D e=true) (h4:D x=true) (hv:V e=u) (hx:V x=u) (h:E u w):CJ W1 v0 pv b c e x C G E cl D V w :=
 ⟨hp,hc,fun _=>h1,fun _=>h2,fun _=>h3,fun q=>(by rw [h1] at q; cases q),fun _ q=>(by rw [h2] at q; cases q),fun _ q=>(by rw [h3] at q; cases q),fun _=>(by rw [hv]; exact h),fun _=>(by rw [hx,hv]),fun q=>(by rw [h4] at q; cases q)⟩
theorem CJ.same {d:Nat->Bool} {v:Nat->Value} (hJ:CJ W1 v0 pv b c e x C G E cl d v w) (hp:∀ i u,pv i=some u->D i=true->V i=u) (hc:cl D) (h1:D b=d b) (h2:D c=d c) (h3:D e=d e) (h4:D x=d x) (q2:V c=v c) (q3:V e=v e) (q4:V x=v x):CJ W1 v0 pv b c e x C G E cl D V w :=
 ⟨hp,hc,by rw [h1,h2]; exact hJ.oc,by rw [h2,h3]; exact hJ.oe,by rw [h3,h4]; exact hJ.ox,by rw [h1]; exact hJ.f0,by rw [h1,h2]; exact hJ.fb,by rw [h2,h3,q2]; exact hJ.fc,by rw [h3,q3]; exact hJ.fe,by rw [h4,q3,q4]; exact hJ.fx,by rw [h4,q4]; exact hJ.gx⟩
end
theorem zr4 {P:Program} {ops:Array Oper} {Q:Exit->Act->World->Prop} (hm:P.follows .mixedOrders=true) {id:Nat} {a0:Act} {W0:World} (hl:K.lowB ops=true)
  {pv:Nat->Option Value} {b c e x:Nat} {C:World->Prop} {G E:Value->World->Prop} (hb:K.dstB ops a0.tmps.size ops.size=true) (hi:CJi ops.size pv b c e x)
  (hdc:∀ o,ops[c]?=some o->∀ d,zX0 ops d->(∀ y∈o.after,Region.binds .any y=true->d y.on=true)->d b=true)
  (hde:∀ o,ops[e]?=some o->∃ y∈o.after,Region.binds .any y=true/\y.on=c)
  (hdx:∀ o,ops[x]?=some o->∃ y∈o.after,Region.binds .any y=true/\y.on=e)
  (hpu:∀ i o,ops[i]?=some o->i≠b->i≠c->i≠e->i≠x->∀ (d:Nat->Bool) (a:Act) (w:World),K.Fr ops a0 a->zX0 ops d->d i=false->(d x=false->K.vof ops a x=K.vof ops a0 x)->(∀ y∈o.after,Region.binds .any y=true->∀ u,pv y.on=some u->K.vof ops a y.on=u) ->
    (w=W0.drew∨C w∨(∃ u,G u w)∨(d e=true/\∃ u,E u w))->K.Runs P ops Q o a w fun u w'=>w'=w/\∀ z,pv i=some z->u=z)
  (hca:∀ o,ops[b]?=some o->∀ (a:Act),K.Fr ops a0 a->(∀ y∈o.after,Region.binds .any y=true->∀ u,pv y.on=some u->K.vof ops a y.on=u)->K.Runs P ops Q o a W0.drew fun u w'=>C w'/\∀ z,pv b=some z->u=z)
  (hbu:∀ o,ops[c]?=some o->∀ (a:Act) (w:World),K.Fr ops a0 a->(∀ y∈o.after,Region.binds .any y=true->∀ u,pv y.on=some u->K.vof ops a y.on=u)->C w->K.Runs P ops Q o a w G)
  (hap:∀ o,ops[e]?=some o->∀ (a:Act) (w:World),K.Fr ops a0 a->(∀ y∈o.after,Region.binds .any y=true->∀ u,pv y.on=some u->K.vof ops a y.on=u)->G (K.vof ops a c) w->K.Runs P ops Q o a w E)
  (hst:∀ o,ops[x]?=some o->∀ (a:Act) (w:World),K.Fr ops a0 a->K.Runs P ops Q o a w fun u w'=>w'=w/\u=K.vof ops a e)
  (hend:∀ (a:Act) (w:World),K.Fr ops a0 a->E (K.vof ops a e) w->(x<ops.size->K.vof ops a x=K.vof ops a e)->Q .normal a w) :
  (Code.region id ops true).wp P Q a0 W0:=by
 refine K.zy5 hm hl ops.size hb (fun d v w=>CJ W0.drew (K.vof ops a0 x) pv b c e x C G E (zX0 ops) d v w) ?_ ?_ ?_
 ·exact ⟨fun _ _ _ h=>(by cases h),fun _ _ _ h=>(by cases h),fun h=>(by cases h),fun h=>(by cases h),fun h=>(by cases h),fun _=>rfl,fun h=>(by cases h),fun h=>(by cases h),fun h=>(by cases h),fun h=>(by cases h),fun _=>rfl⟩
 ·intro i o ho d a w hf hJ hd hall
  have hin:i<ops.size:=(Array.getElem?_eq_some_iff.1 ho).1;have hpv:∀ y∈o.after,Region.binds .any y=true->∀ u,pv y.on=some u->K.vof ops a y.on=u:=fun y hy hbd u hu=>hJ.pure _ _ hu (hall y hy hbd);have hcl:zX0 ops (fun j=>if i=j then true else d j):=fun j o' ho' hj y hy hbd=>by
   by_cases e1:i=j
   ·subst e1; rw [ho] at ho'; cases ho'
    show (if i=y.on then true else d y.on)=true
    rw [hall y hy hbd]; split <;> rfl
   ·have hj':d j=true:=by have:(if i=j then true else d j)=true:=hj; rwa [if_neg e1] at this
    show (if i=y.on then true else d y.on)=true
    rw [hJ.closed j o' ho' hj' y hy hbd]; split <;> rfl
  have ud:∀ k,i≠k->(if i=k then true else d k)=d k:=fun k h=>if_neg h;have uv:∀ (u:Value) k,i≠k->(if i=k/\i≠ops.size then u else K.vof ops a k)=K.vof ops a k:=fun u k h=>if_neg (fun q=>h q.1);have ui:∀ (u:Value),(if i=i/\i≠ops.size then u else K.vof ops a i)=u:=fun u=>if_pos ⟨rfl,by omega⟩;have hpn:∀ (u:Value),(∀ z,pv i=some z->u=z)->∀ j z,pv j=some z->(if i=j then true else d j)=true->(if i=j/\i≠ops.size then u else K.vof ops a j)=z:=by
   intro u hu j z hz hj;by_cases e1:i=j
   ·subst e1; rw [ui]; exact hu z hz
   ·rw [ud j e1] at hj; rw [uv u j e1]; exact hJ.pure j z hz hj
  by_cases e1:i=b
  ·subst e1
   have hw:=hJ.f0 hd;subst hw;have c0:d c=false:=by cases q:d c with | false=>rfl | true=>rw [hJ.oc q] at hd; cases hd
   have e0:d e=false:=by cases q:d e with | false=>rfl | true=>rw [hJ.oe q] at c0; cases c0
   have x0:d x=false:=by cases q:d x with | false=>rfl | true=>rw [hJ.ox q] at e0; cases e0
   exact zv0 (hca o ho a hf hpv) fun u w' hu=>CJ.mkC (hpn u hu.2) hcl (if_pos rfl) ((ud _ hi.bc).trans c0) ((ud _ hi.be).trans e0) ((ud _ hi.bx).trans x0) ((uv u _ hi.bx).trans (hJ.gx x0)) hu.1
  by_cases e2:i=c
  ·subst e2
   have b1:d b=true:=hdc o ho d hJ.closed hall;have e0:d e=false:=by cases q:d e with | false=>rfl | true=>rw [hJ.oe q] at hd; cases hd
   have x0:d x=false:=by cases q:d x with | false=>rfl | true=>rw [hJ.ox q] at e0; cases e0
   exact zv0 (hbu o ho a w hf hpv (hJ.fb b1 hd)) fun u w' hu=>CJ.mkG u (hpn u (fun z hz=>by rw [hi.nc] at hz; cases hz)) hcl ((ud _ hi.bc.symm).trans b1) (if_pos rfl) ((ud _ hi.ce).trans e0) ((ud _ hi.cx).trans x0) ((uv u _ hi.cx).trans (hJ.gx x0)) (ui u) hu
  by_cases e3:i=e
  ·subst e3
   obtain ⟨y,hy,hbd,hon⟩:=hde o ho;have c1:d c=true:=hon▸hall y hy hbd;have b1:=hJ.oc c1;have x0:d x=false:=by cases q:d x with | false=>rfl | true=>rw [hJ.ox q] at hd; cases hd
   exact zv0 (hap o ho a w hf hpv (hJ.fc c1 hd)) fun u w' hu=>CJ.mkE u (hpn u (fun z hz=>by rw [hi.ne] at hz; cases hz)) hcl ((ud _ hi.be.symm).trans b1) ((ud _ hi.ce.symm).trans c1) (if_pos rfl) ((ud _ hi.ex).trans x0) ((uv u _ hi.ex).trans (hJ.gx x0)) (ui u) hu
  by_cases e4:i=x
  ·subst e4
   obtain ⟨y,hy,hbd,hon⟩:=hdx o ho;have e1':d e=true:=hon▸hall y hy hbd;have c1:=hJ.oe e1';have b1:=hJ.oc c1;refine zv0 (hst o ho a w hf) fun u w' hu=>?_;obtain ⟨rfl,hu⟩:=hu;exact CJ.mkX u (hpn u (fun z hz=>by rw [hi.nx] at hz; cases hz)) hcl ((ud _ hi.bx.symm).trans b1) ((ud _ hi.cx.symm).trans c1) ((ud _ hi.ex.symm).trans e1') (if_pos rfl) ((uv u _ hi.ex.symm).trans hu.symm) (ui u) (by rw [hu]; exact hJ.fe e1')
  refine zv0 (hpu i o ho e1 e2 e3 e4 d a w hf hJ.closed hd hJ.gx hpv ?_) fun u w' hu=>?_
  ·cases b1:d b with
   | false=>exact .inl (hJ.f0 b1)
   | true =>
     cases c1:d c with
     | false=>exact .inr (.inl (hJ.fb b1 c1))
     | true =>
       cases e1':d e with
       | false=>exact .inr (.inr (.inl ⟨_,hJ.fc c1 e1'⟩))
       | true=>exact .inr (.inr (.inr ⟨rfl,_,hJ.fe e1'⟩))
  ·obtain ⟨rfl,hu⟩:=hu
   exact hJ.same (hpn u hu) hcl (ud _ e1) (ud _ e2) (ud _ e3) (ud _ e4) (uv u _ e2) (uv u _ e3) (uv u _ e4)
 ·intro d a w hf hall hJ
  exact hend a w hf (hJ.fe (hall e hi.e_)) fun hx=>hJ.fx (hall x hx)
end Go.Proofs.YtfgelheiknmjgaaGreatDoor
namespace Go.Proofs.YtfgelheiknmjgaaGreatDoor
open Go.RowKit
section
variable {ops:Array Oper} {Q:Exit->Act->World->Prop} {o:Oper} {a:Act} {w:World} {R:Value->World->Prop}
theorem yj0 (hw:Region.wanted o (yielded ops a.tmps)=true) (x:Operand) {v:Value} (ho:o.op=.move x) (hx:a.eval x=v) (h:R v w):K.Runs Tryz.prog ops Q o a w R :=
 K.zb0 hw (by generalize a.eval=ρ at hx; simp [execOp,ho,go_sem,hx]) h
theorem yj2 (hw:Region.wanted o (yielded ops a.tmps)=true) (x:Operand) {g:Nat} (ho:o.op=.fieldAddr 55 x 0) (hx:a.eval x=.pointer (some ⟨g,0,none⟩)) (h:R (.pointer (some ⟨g,0,none⟩)) w):K.Runs Tryz.prog ops Q o a w R :=
 K.zb0 hw (by generalize a.eval=ρ at hx; simp [execOp,ho,go_sem,hx]) h
theorem yj1 (hw:Region.wanted o (yielded ops a.tmps)=true) (x:Operand) {g:Nat} (ho:o.op=.fieldAddr 55 x 1) (hx:a.eval x=.pointer (some ⟨g,0,none⟩)) (h:R (.pointer (some ⟨g,1,none⟩)) w):K.Runs Tryz.prog ops Q o a w R :=
 K.zb0 hw (by generalize a.eval=ρ at hx; simp [execOp,ho,go_sem,hx]) h
theorem op_ldS (hw:Region.wanted o (yielded ops a.tmps)=true) (x:Operand) {p:Addr} {s:ByteArray} (ho:o.op=.load 9 x) (hx:a.eval x=.pointer (some p)) (hc:w.cell? p=some (.string s)) (h:R (.string s) w):K.Runs Tryz.prog ops Q o a w R :=
 K.zb0 hw (by generalize a.eval=ρ at hx; simp [execOp,ho,go_sem,hx,hc]) h
theorem op_ldR (hw:Region.wanted o (yielded ops a.tmps)=true) (x:Operand) {g i:Nat} {s:ByteArray} {A:Option Addr} {l c:Nat} (ho:o.op=.load 44 x) (hx:a.eval x=.pointer (some ⟨g,i,none⟩)) (h0:w.cell? ⟨g,i,none⟩=some (.string s)) (h1:w.cell? ⟨g,i+1,none⟩=some (.slice A l c)) (h:R (.agg #[.string s,.slice A l c]) w):K.Runs Tryz.prog ops Q o a w R :=
 K.zb0 hw (by generalize a.eval=ρ at hx; simp [execOp,ho,go_sem,hx,h0,h1]) h
theorem op_mk3 (hw:Region.wanted o (yielded ops a.tmps)=true) (x y z:Operand) {s t u:ByteArray} (ho:o.op=.buildSlice 33 3 #[(0,x),(1,y),(2,z)]) (hx:a.eval x=.string s) (hy:a.eval y=.string t) (hz:a.eval z=.string u)
  (h:R (.slice (some ⟨w.heap.size,0,none⟩) 3 3) (w.alloc (.cells #[.string s,.string t,.string u] 9 (0,0)))):K.Runs Tryz.prog ops Q o a w R :=
 K.zb0 hw (by generalize a.eval=ρ at hx hy hz; simp [execOp,ho,go_sem,hx,hy,hz]) h
end
end Go.Proofs.YtfgelheiknmjgaaGreatDoor
namespace Go.Proofs.YtfgelheiknmjgaaGreatDoor
open Go.RowKit
section
variable {ops:Array Oper} {Q:Exit->Act->World->Prop} {o:Oper} {a:Act} {w:World} {R:Value->World->Prop}
end
abbrev OwnR.val {w:World} {base:Nat} {v:Value} {ss:List ByteArray} (_:OwnR w base v ss):Value:=v
theorem bL_inj {s t:ByteArray} (h:bL s=bL t):s=t:=by
 obtain ⟨⟨a⟩⟩:=s;obtain ⟨⟨b⟩⟩:=t;have:a=b:=h;rw [this]
end Go.Proofs.YtfgelheiknmjgaaGreatDoor
namespace Go.Proofs.YtfgelheiknmjgaaGreatDoor
open Go.RowKit
end Go.Proofs.YtfgelheiknmjgaaGreatDoor

