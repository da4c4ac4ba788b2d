
/-
 Texts joined: YCmp YRight D3 D4 Td.
-/
import Derived.Test.YtfgelheiknmjgaaGreatDoorZt26
import Derived.Shelf.Abstract
set_option maxRecDepth 1000000
set_option maxHeartbeats 8000000
namespace Go.Proofs.YtfgelheiknmjgaaGreatDoor.K
open Go.RowKit
theorem zj0 {w wr:World} {B k:Nat} {A:Option Addr} {xs:Ws} (h:IntsAt w B A xs) (hb:Below B w wr) (hk:k<xs.length):∃ a x,A=some a/\a.block<B/\xs[k]?=some x/\wr.cell? (a.add k)=some (.int .i64 x):=by
 obtain ⟨a,e,ha,hc⟩:=(h.kept hb) (by omega);exact ⟨a,xs[k],e,ha,List.getElem?_eq_getElem hk,hc k _ (List.getElem?_eq_getElem hk)⟩
theorem zj6 {W:World} {a:Addr} {v:Value} (h:W.cell? a=some v) (ha:a.block<W.heap.size) (x:Past W):x.w.cell? a=some v:=(World.cell?_of_block (w:=W) (x.b.block _ ha)).trans h
theorem zt5 {xs:Ws} {k:Nat} {x:Int} (h:xs[k]?=some x):xs.take (k+1)=xs.take k++[x]:=by
 obtain ⟨h1,h2⟩:=List.getElem?_eq_some_iff.1 h;rw [<- h2]; exact (List.take_append_getElem h1).symm
theorem drop_one {xs:Ws} {k:Nat} {x:Int} (h:xs[k]?=some x):xs.drop k=x::xs.drop (k+1):=by
 obtain ⟨h1,h2⟩:=List.getElem?_eq_some_iff.1 h;rw [<- h2]; exact List.drop_eq_getElem_cons h1
theorem same_any (xs ys:Ws) (v u:Value) (w:World) (hx:SlV w w.heap.size v xs) (hy:SlV w w.heap.size u ys) (hl:xs.length<=17592186044416):Calls Tryz.prog 123 #[v,u] w (zo1 (decide (xs=ys)) w):=by
 obtain ⟨A,c,rfl,hc,hi⟩:=hx;obtain ⟨B,d,rfl,hd,hj⟩:=hy;by_cases hlen:xs.length=ys.length
 ·have HA:=Lh hi
  have HB:=Lh hj;have HLEN:Hid ((xs.length:Int)<=17592186044416):=Lh (by omega);have HL:=Lh hlen;rw [<- hlen];clear hc hi hd hj hl hlen
  go_enter Tryz.func123, Tryz.ntmps123
  go_wp2_with fail
  go_loopw [5] (fun i wr=>∃ k:Nat,i=.int .i64 k/\k<=xs.length/\xs.take k=ys.take k/\Below w.heap.size w wr) (fun i _=>xs.length-(intOf i).toNat)
  case atStart=>exact ⟨0,rfl,Nat.zero_le _,rfl,Below.refl _ _⟩
  case round =>
   obtain ⟨k,rfl,hk,he,hw⟩:=hrel;have HE:=Lh he;have HW:=Lh hw;have hlm:=HLEN.out;clear he;by_cases hlt:k<xs.length
   ·obtain ⟨a,x,rfl,ha,hp,h0⟩:=zj0 HA.out hw hlt
    obtain ⟨b,y,rfl,hb,hq,h1⟩:=zj0 HB.out hw (by rw [<- HL.out]; exact hlt);have hlt':(k:Int)<xs.length:=by omega
    have HP:=Lh hp;have HQ:=Lh hq;have HA0:Hid ((a.add k).block<wr.heap.size):=Lh (by rw [za1]; exact Nat.lt_of_lt_of_le ha hw.size);have HB0:Hid ((b.add k).block<wr.heap.size):=Lh (by rw [za1]; exact Nat.lt_of_lt_of_le hb hw.size);have H0:=Lh h0;have H1:=Lh h1;clear hp hq hw ha hb h0 h1;by_cases hxy:x=y
    ·subst hxy
     have hn:(x != x)=false:=by simp
     go_wp2_with fail
     refine za7 (fun W=>W.cell? (a.add k)=some (.int .i64 x)/\W.cell? (b.add k)=some (.int .i64 x)/\Below wr.heap.size wr W) ⟨H0.out,H1.out,Below.refl _ _⟩ (by kernel_rfl) ?_
     intro W ⟨f1,f2,f3⟩ hbw;have y0:=zj6 f1 (Nat.lt_of_lt_of_le HA0.out f3.size);have y1:=zj6 f2 (Nat.lt_of_lt_of_le HB0.out f3.size)
     repeat (go_big_quiet_step (fail))
     refine wpQuiet_nil ?_
     intro _ hw';obtain ⟨xw,rfl⟩:=hw';have HBY:=Lh (HW.out.trans ((f3.trans (xw.b.mono f3.size)).mono HW.out.size));clear y0 y1 f1 f2 f3 hbw;generalize xw.w=wy at *;go_wp2_with fail
     go_roundw
     case rel=>exact ⟨k+1,by go_num,by omega,by rw [zt5 HP.out,zt5 HQ.out,HE.out],HBY.out⟩
     case measure=>simp [intOf]; omega
    ·have hn:(x != y)=true:=by simp [hxy]
     have HN:Hid (decide (xs=ys)=false):=Lh (by
      rw [decide_eq_false_iff_not]; rintro rfl;rw [HP.out] at HQ; exact hxy (Option.some.inj HQ.out))
     clear hxy;go_wp2_with fail;refine za7 (fun W=>W.cell? (a.add k)=some (.int .i64 x)/\W.cell? (b.add k)=some (.int .i64 y)/\Below wr.heap.size wr W) ⟨H0.out,H1.out,Below.refl _ _⟩ (by kernel_rfl) ?_
     intro W ⟨f1,f2,f3⟩ hbw;have y0:=zj6 f1 (Nat.lt_of_lt_of_le HA0.out f3.size);have y1:=zj6 f2 (Nat.lt_of_lt_of_le HB0.out f3.size)
     repeat (go_big_quiet_step (fail))
     refine wpQuiet_nil ?_
     intro _ hw';obtain ⟨xw,rfl⟩:=hw';have HBY:=Lh (HW.out.trans ((f3.trans (xw.b.mono f3.size)).mono HW.out.size));clear y0 y1 f1 f2 f3 hbw;generalize xw.w=wy at *;go_wp2_with fail;go_ret
     exact ⟨by rw [HN.out]; rfl,HBY.out⟩
   ·have hlt':¬ (k:Int)<xs.length:=by omega
    have HN:Hid (decide (xs=ys)=true):=Lh (by
     have e:=HE.out;rw [List.take_of_length_le (by omega),List.take_of_length_le (by have:=HL.out; omega)] at e;exact decide_eq_true e)
    clear hw;go_wp2_with fail;go_ret
    exact ⟨by rw [HN.out]; rfl,HW.out⟩
 ·have HN:Hid (decide (xs=ys)=false):=Lh (by rw [decide_eq_false_iff_not]; rintro rfl; exact hlen rfl)
  have hne:((xs.length:Int) != (ys.length:Int))=true:=by
   rw [bne_iff_ne]; omega
  have hne':¬ ((xs.length:Int)=(ys.length:Int)):=by omega
  clear hc hi hd hj hl hlen
  go_enter Tryz.func123, Tryz.ntmps123
  go_wp2_with fail
  all_goals exact bodyPost_ret (v:=.bool false) (by simp [results,Tryz.results123,go_sem]) rfl ⟨by rw [HN.out],Below.refl _ _⟩
theorem yo2 (xs ys:Ws) (v u:Value) (w:World) (hx:SlV w w.heap.size v xs) (hy:SlV w w.heap.size u ys) (hl:xs.length<=17592186044416):Calls Tryz.prog 184 #[v,u] w (zo1 (decide (xs=ys)) w):=by
 obtain ⟨A,c,rfl,hc,hi⟩:=hx;obtain ⟨B,d,rfl,hd,hj⟩:=hy;by_cases hlen:xs.length=ys.length
 ·have HA:=Lh hi
  have HB:=Lh hj;have HLEN:Hid ((xs.length:Int)<=17592186044416):=Lh (by omega);have HL:=Lh hlen;rw [<- hlen];clear hc hi hd hj hl hlen
  go_enter Tryz.func184, Tryz.ntmps184
  go_wp2_with fail
  go_loopw [5,13] (fun z i wr=>∃ k:Nat,i=.int .i64 k/\k<=xs.length/\xs.take k=ys.take k/\Below w.heap.size w wr) (fun _ i _=>xs.length-(intOf i).toNat)
  case atStart=>exact ⟨0,rfl,Nat.zero_le _,rfl,Below.refl _ _⟩
  case round =>
   obtain ⟨k,rfl,hk,he,hw⟩:=hrel;have HE:=Lh he;have HW:=Lh hw;have hlm:=HLEN.out;clear he;by_cases hlt:k<xs.length
   ·obtain ⟨a,x,rfl,ha,hp,h0⟩:=zj0 HA.out hw hlt
    obtain ⟨b,y,rfl,hb,hq,h1⟩:=zj0 HB.out hw (by rw [<- HL.out]; exact hlt);have hlt':(k:Int)<xs.length:=by omega
    have HP:=Lh hp;have HQ:=Lh hq;have HA0:Hid ((a.add k).block<wr.heap.size):=Lh (by rw [za1]; exact Nat.lt_of_lt_of_le ha hw.size);have HB0:Hid ((b.add k).block<wr.heap.size):=Lh (by rw [za1]; exact Nat.lt_of_lt_of_le hb hw.size);have H0:=Lh h0;have H1:=Lh h1;clear hp hq hw ha hb h0 h1;by_cases hxy:x=y
    ·subst hxy
     have hn:(x != x)=false:=by simp
     go_wp2_with fail
     refine za7 (fun W=>W.cell? (a.add k)=some (.int .i64 x)/\W.cell? (b.add k)=some (.int .i64 x)/\Below wr.heap.size wr W) ⟨H0.out,H1.out,Below.refl _ _⟩ (by kernel_rfl) ?_
     intro W ⟨f1,f2,f3⟩ hbw;have y0:=zj6 f1 (Nat.lt_of_lt_of_le HA0.out f3.size);have y1:=zj6 f2 (Nat.lt_of_lt_of_le HB0.out f3.size)
     repeat (go_big_quiet_step (fail))
     refine wpQuiet_nil ?_
     intro _ hw';obtain ⟨xw,rfl⟩:=hw';have HBY:=Lh (HW.out.trans ((f3.trans (xw.b.mono f3.size)).mono HW.out.size));clear y0 y1 f1 f2 f3 hbw;generalize xw.w=wy at *;go_wp2_with fail
     go_roundw
     case rel=>exact ⟨k+1,by go_num,by omega,by rw [zt5 HP.out,zt5 HQ.out,HE.out],HBY.out⟩
     case measure=>simp [intOf]; omega
    ·have hn:(x != y)=true:=by simp [hxy]
     have HN:Hid (decide (xs=ys)=false):=Lh (by
      rw [decide_eq_false_iff_not]; rintro rfl;rw [HP.out] at HQ; exact hxy (Option.some.inj HQ.out))
     clear hxy;go_wp2_with fail;refine za7 (fun W=>W.cell? (a.add k)=some (.int .i64 x)/\W.cell? (b.add k)=some (.int .i64 y)/\Below wr.heap.size wr W) ⟨H0.out,H1.out,Below.refl _ _⟩ (by kernel_rfl) ?_
     intro W ⟨f1,f2,f3⟩ hbw;have y0:=zj6 f1 (Nat.lt_of_lt_of_le HA0.out f3.size);have y1:=zj6 f2 (Nat.lt_of_lt_of_le HB0.out f3.size)
     repeat (go_big_quiet_step (fail))
     refine wpQuiet_nil ?_
     intro _ hw';obtain ⟨xw,rfl⟩:=hw';have HBY:=Lh (HW.out.trans ((f3.trans (xw.b.mono f3.size)).mono HW.out.size));clear y0 y1 f1 f2 f3 hbw;generalize xw.w=wy at *;go_wp2_with fail;go_ret
     exact ⟨by rw [HN.out]; rfl,HBY.out⟩
   ·have hlt':¬ (k:Int)<xs.length:=by omega
    have HN:Hid (decide (xs=ys)=true):=Lh (by
     have e:=HE.out;rw [List.take_of_length_le (by omega),List.take_of_length_le (by have:=HL.out; omega)] at e;exact decide_eq_true e)
    clear hw;go_wp2_with fail;go_ret
    exact ⟨by rw [HN.out]; rfl,HW.out⟩
 ·have HN:Hid (decide (xs=ys)=false):=Lh (by rw [decide_eq_false_iff_not]; rintro rfl; exact hlen rfl)
  have hne:((xs.length:Int) != (ys.length:Int))=true:=by
   rw [bne_iff_ne]; omega
  have hne':¬ ((xs.length:Int)=(ys.length:Int)):=by omega
  clear hc hi hd hj hl hlen
  go_enter Tryz.func184, Tryz.ntmps184
  go_wp2_with fail
  all_goals exact bodyPost_ret (v:=.bool false) (by simp [results,Tryz.results184,go_sem]) rfl ⟨by rw [HN.out],Below.refl _ _⟩
theorem zE0 (n m:ByteArray) (xs ys:Ws) (v u:Value) (w:World) (hx:RefV w w.heap.size v n xs) (hy:RefV w w.heap.size u m ys) (hl:xs.length<=17592186044416):Calls Tryz.prog 59 #[v,u] w (zo1 (decide (n=m/\xs=ys)) w):=by
 obtain ⟨A,c,rfl,hc,hi⟩:=hx;obtain ⟨B,d,rfl,hd,hj⟩:=hy;obtain ⟨x1,x2,x3,x4⟩:=BxR.both w (.string n) (.slice A xs.length c) (.string m) (.slice B ys.length d);have CALL:Hid (Calls Tryz.prog 123 #[.slice A xs.length c,.slice B ys.length d] ((w.alloc (.cells #[.string n,.slice A xs.length c] 44 (0,0))).alloc (.cells #[.string m,.slice B ys.length d] 44 (0,0))) (zo1 (decide (xs=ys)) ((w.alloc (.cells #[.string n,.slice A xs.length c] 44 (0,0))).alloc (.cells #[.string m,.slice B ys.length d] 44 (0,0))))) :=
  Lh (same_any xs ys _ _ _ ⟨A,c,rfl,hc,hi.stay x3⟩ ⟨B,d,rfl,hd,hj.stay x3⟩ hl)
 have hs:=zt6 n m;have B0:=Lh x3;clear hc hd hi hj x1 x2 x3 x4 hl;by_cases hnm:n=m
 ·have HV:Hid (decide (n=m/\xs=ys)=decide (xs=ys)):=Lh (by simp [hnm])
  rw [decide_eq_true hnm] at hs;clear hnm
  go_enter Tryz.func59, Tryz.ntmps59
  go_wp2_with fail
  refine CALL.out.mono ?_
  rintro e w1 ⟨rfl,hb1⟩;have HB:=Lh (B0.out.trans (hb1.mono B0.out.size));clear hb1 CALL;go_wp2_with fail;exact bodyPost_ret (v:=.bool (decide (xs=ys))) (by simp [results,Tryz.results59,go_sem]) rfl ⟨by rw [HV.out],HB.out⟩
 ·have HV:Hid (decide (n=m/\xs=ys)=false):=Lh (by simp [hnm])
  rw [decide_eq_false hnm] at hs;clear hnm
  go_enter Tryz.func59, Tryz.ntmps59
  go_wp2_with fail
  all_goals exact bodyPost_ret (v:=.bool false) (by simp [results,Tryz.results59,go_sem]) rfl ⟨by rw [HV.out],B0.out⟩
theorem zX5 (n m:ByteArray) (xs ys:Ws) (v u:Value) (w:World) (hx:RefV w w.heap.size v n xs) (hy:RefV w w.heap.size u m ys) (hl:xs.length<=17592186044416):Calls Tryz.prog 138 #[v,u] w (zo1 (decide (n=m/\xs=ys)) w):=by
 obtain ⟨A,c,rfl,hc,hi⟩:=hx;obtain ⟨B,d,rfl,hd,hj⟩:=hy;obtain ⟨x1,x2,x3,x4⟩:=BxR.both w (.string n) (.slice A xs.length c) (.string m) (.slice B ys.length d);have CALL:Hid (Calls Tryz.prog 184 #[.slice A xs.length c,.slice B ys.length d] ((w.alloc (.cells #[.string n,.slice A xs.length c] 44 (0,0))).alloc (.cells #[.string m,.slice B ys.length d] 44 (0,0))) (zo1 (decide (xs=ys)) ((w.alloc (.cells #[.string n,.slice A xs.length c] 44 (0,0))).alloc (.cells #[.string m,.slice B ys.length d] 44 (0,0))))) :=
  Lh (yo2 xs ys _ _ _ ⟨A,c,rfl,hc,hi.stay x3⟩ ⟨B,d,rfl,hd,hj.stay x3⟩ hl)
 have hs:=zt6 n m;have B0:=Lh x3;clear hc hd hi hj x1 x2 x3 x4 hl;by_cases hnm:n=m
 ·have HV:Hid (decide (n=m/\xs=ys)=decide (xs=ys)):=Lh (by simp [hnm])
  rw [decide_eq_true hnm] at hs;clear hnm
  go_enter Tryz.func138, Tryz.ntmps138
  go_wp2_with fail
  refine CALL.out.mono ?_
  rintro e w1 ⟨rfl,hb1⟩;have HB:=Lh (B0.out.trans (hb1.mono B0.out.size));clear hb1 CALL;go_wp2_with fail;exact bodyPost_ret (v:=.bool (decide (xs=ys))) (by simp [results,Tryz.results138,go_sem]) rfl ⟨by rw [HV.out],HB.out⟩
 ·have HV:Hid (decide (n=m/\xs=ys)=false):=Lh (by simp [hnm])
  rw [decide_eq_false hnm] at hs;clear hnm
  go_enter Tryz.func138, Tryz.ntmps138
  go_wp2_with fail
  all_goals exact bodyPost_ret (v:=.bool false) (by simp [results,Tryz.results138,go_sem]) rfl ⟨by rw [HV.out],B0.out⟩
theorem append_I {w:World} {ops:Array Oper} {rest:List Oper} {o:Oper} {a:Act} {Q:Exit->Act->World->Prop} (hgd:o.guard=none) (s x:Operand)
  (ho:o.op=.call { callee:=.builtin .append,args:=#[s,x],argTypes:=#[42, 42] }) (base:Nat) (v:Value) (ss:Ws) (hs:a.eval s=v) (hown:OwnI w base v ss)
  (ad:Addr) (c:Nat) (p:Int) (hx:a.eval x=.slice (some ad) 1 c) (hnews:w.cell? ad=some (.int .i64 p)) (had:ad.add 0=ad)
  (hlen:ss.length<=1000000) (hbase:base<=w.heap.size)
  (h:∀ v' w',OwnI w' base v' (ss++[p])->w.grownBy w' v.ownBlock->wpList Tryz.prog ops Q rest (a.put o.dst v') w'):wpList Tryz.prog ops Q (o::rest) a w:=by
 obtain ⟨i0,hi,hz0,hz1,hz2⟩:=infoIp;refine wpList_append_own w hgd s x 42 ho base 3 i0 (.int .i64 0) 1 8 Tryz.underlying42 hi hz0 hz1 hz2 rfl (by decide) v ss.length _ hs hown ad 1 c [.int .i64 p] hx rfl ?_ ?_ (by unfold maxLen; omega) (by omega) hbase ?_
 ·intro j u hj
  cases j with
  | zero=>cases hj; rw [had]; exact hnews
  | succ j=>simp at hj
 ·intro u hu
  simp at hu; subst hu; rfl
 ·intro v' w' h1 h2 _
  refine h v' w' ?_ h2
  unfold OwnI;rw [List.length_append,inC_app];exact h1
theorem str_one {xs:Ws} {k:Nat} {x:Int} (h:xs[k]?=some x):strL (xs.take (k+1))=if x=1 then strL (xs.take k) else strL (xs.take k)++[x]:=by
 rw [zt5 h,str_app];by_cases hx:x=1
 ·subst hx; rw [if_pos rfl]; show _++[]=_; rw [List.append_nil]
 ·rw [if_neg hx]; simp [strL,hx]
theorem ye1 (xs:Ws):(strL xs).length<=xs.length:=List.length_filter_le _ _
theorem zP5 (xs:Ws) (k:Nat):(strL (xs.take k)).length<=xs.length:=Nat.le_trans (ye1 _) (by rw [List.length_take]; omega)
theorem zP0 (xs:Ws) (v0:Value) (w:World) (h:SlV w w.heap.size v0 xs) (hl:xs.length<=900000):Calls Tryz.prog 180 #[v0] w fun e w'=>(∃ u,e=.returned u/\OwnI w' w.heap.size u (strL xs))/\Below w.heap.size w w':=by
 obtain ⟨A,c0,rfl,hc,hi⟩:=h;have HI:=Lh hi;have hle:w.heap.size<=w.heap.size:=Nat.le_refl _;have HLE:=Lh hle;clear hc hi hle;have HLEN:Hid ((xs.length:Int)<=900000):=Lh (by omega)
 go_enter Tryz.func180, Tryz.ntmps180
 go_wp2_with fail
 go_loopw [3,5,8] (fun v _ i wr=>∃ k:Nat,i=.int .i64 k/\k<=xs.length/\OwnI wr w.heap.size v (strL (xs.take k))/\Below w.heap.size w wr) (fun _ _ i _=>xs.length-(intOf i).toNat)
 case atStart=>exact ⟨0,rfl,Nat.zero_le _,OwnI.nil _ _,Below.refl _ _⟩
 case round =>
  obtain ⟨k,rfl,hk,hown,hb⟩:=hrel;have HO:=Lh hown;have HB:=Lh hb;have hlm:=HLEN.out;clear hown;by_cases hlt:k<xs.length
  ·obtain ⟨a,x,rfl,ha,hp,h0⟩:=zj0 HI.out hb hlt
   have hlt':(k:Int)<xs.length:=by omega
   have hs:=str_one hp;have HKL:=Lh (zP5 xs k);clear hp hb ha;by_cases hx:x=1
   ·subst hx
    rw [if_pos rfl] at hs;have HS:=Lh hs;clear hs;go_wp2_with fail
    go_roundw
    case rel=>exact ⟨k+1,by go_num,by omega,by rw [HS.out]; exact HO.out,HB.out⟩
    case measure=>simp [intOf]; omega
   ·rw [if_neg hx] at hs
    have HS:=Lh hs;have hxb:(x != 1)=true:=by simp [hx]
    clear hs;go_wp2_with (at_builtin; refine append_I rfl (.tmp 14) (.tmp 16) rfl w.heap.size _ _ rfl ((HO.out).stay ((Below.refl _ _).alloc (Nat.le_refl _) _)) ⟨wr.heap.size,0,none⟩ 1 x rfl (by simp) rfl (by have:=HKL.out; have:=HLEN.out; omega) (by have:=HB.out.size; simp; omega) ?_; intro v' w1 hv hg; have HV:=Lh hv; have HG:=Lh ((HB.out.alloc HB.out.size _).grown hg (by have:=HB.out.size; simp; omega) (fun g hg=>(HO.out.lt g hg).1)); clear hv hg)
    go_roundw
    case rel=>exact ⟨k+1,by go_num,by omega,by rw [HS.out]; exact HV.out,HG.out⟩
    case measure=>simp [intOf]; omega
  ·have hlt':¬ (k:Int)<xs.length:=by omega
   have HT:Hid (xs.take k=xs):=Lh (List.take_of_length_le (by omega));clear hb;go_wp2_with fail;go_ret
   exact ⟨⟨_,rfl,by have:=HO.out; rw [HT.out] at this; exact this⟩,HB.out⟩
theorem zX1 (xs:Ws) (v0:Value) (w:World) (h:SlV w w.heap.size v0 xs) (hl:xs.length<=900000):Calls Tryz.prog 180 #[v0] w (SlPost (strL xs) w) :=
 (zP0 xs v0 w h hl).mono fun _ _ ⟨⟨u,e,hu⟩,hb⟩=>⟨⟨u,e,hu.sl⟩,hb⟩
def okB (n:ByteArray) (xs:Ws):Bool:=T1.nameL n.data.toList&&decide (xs.length<=24)&&rtF false xs
def pvB (xs:Ws) (k:Nat):Bool:=match k with | 0=>false | j+1=>xs[j]?==some 1
theorem rt_cons (p:Bool) (x:Int) (r:Ws):rtF p (x::r)=((x==2||(x==1&&!p))&&rtF (x==1) r):=rfl
theorem ok_len {n:ByteArray} {xs:Ws} (h:okB n xs=true):T1.nameL n.data.toList=true/\xs.length<=24/\rtF false xs=true:=by
 unfold okB at h; simp at h; exact ⟨h.1.1,h.1.2,h.2⟩
theorem zE1 (n:ByteArray) (xs:Ws) (v:Value) (w:World) (h:RefV w w.heap.size v n xs) (hn:n.size<=maxLen):Calls Tryz.prog 97 #[v] w (zo1 (okB n xs) w):=by
 obtain ⟨A,c,rfl,hc,hi⟩:=h;have x3:=(Below.refl w.heap.size w).alloc (Nat.le_refl _) (.cells #[.string n,.slice A xs.length c] 44 (0,0));have X0:=Lh (BxR.new w (.string n) (.slice A xs.length c));have I0:=Lh (hi.stay x3);have B0:=Lh x3;clear hc hi x3;have CALL:=Lh (T1.zd8 n (w.alloc (.cells #[.string n,.slice A xs.length c] 44 (0,0))) hn);by_cases hnm:T1.nameL n.data.toList=true
 ·by_cases hle:xs.length<=24
  ·have HV:Hid (okB n xs=rtF false xs):=Lh (by unfold okB; rw [hnm,decide_eq_true hle]; rfl)
   have HNM:=Lh hnm;have HLE:Hid ((xs.length:Int)<=24):=Lh (by omega);have hgt:¬ ((xs.length:Int) > 24):=by omega
   clear hnm hle
   go_enter Tryz.func97, Tryz.ntmps97
   go_wp2_with fail
   generalize (w.alloc (.cells #[.string n,.slice A xs.length c] 44 (0,0)))=W0 at *;have hcall:=CALL.out;rw [HNM.out] at hcall;refine hcall.mono ?_;rintro e w1 ⟨rfl,rfl⟩;clear hcall CALL;have q1:=X0.out.cells.2;go_wp2_with fail
   go_loopw [3] (fun i wr=>∃ k:Nat,i=.int .i64 k/\k<=xs.length/\rtF (pvB xs k) (xs.drop k)=rtF false xs/\Below W0.heap.size W0 wr) (fun i _=>xs.length-(intOf i).toNat)
   case atStart=>exact ⟨0,rfl,Nat.zero_le _,rfl,Below.refl _ _⟩
   case round =>
    obtain ⟨k,rfl,hk,hr,hb⟩:=hrel;have HB:=Lh hb;have hlm:=HLE.out;have q2:=(X0.out.stay hb).cells.2;by_cases hlt:k<xs.length
    ·obtain ⟨a,x,rfl,ha,hp,h0⟩:=zj0 I0.out hb hlt
     have hlt':(k:Int)<xs.length:=by omega
     rw [drop_one hp,rt_cons] at hr;have hnx:rtF (x==1) (xs.drop (k+1))=rtF (pvB xs (k+1)) (xs.drop (k+1)):=by
      show _=rtF (xs[k]?==some 1) _; rw [hp]; rfl
     rw [hnx] at hr;clear ha hp hnx;by_cases h2:x=2
     ·subst h2
      have HR:=Lh hr;clear hr hb;by_cases hkp:(k:Int) > 0
      ·go_wp2_with fail
       go_roundw
       case rel=>exact ⟨k+1,by go_num,by omega,HR.out,HB.out⟩
       case measure=>simp [intOf]; omega
      ·go_wp2_with fail
       go_roundw
       case rel=>exact ⟨k+1,by go_num,by omega,HR.out,HB.out⟩
       case measure=>simp [intOf]; omega
     ·have hb2:(x != 2)=true:=by simp [h2]
      by_cases h1:x=1
      ·subst h1
       by_cases hk0:k=0
       ·have HR:Hid (rtF (pvB xs (k+1)) (xs.drop (k+1))=rtF false xs):=Lh (by rw [<- hr]; subst hk0; rfl)
        have hkp:¬ ((k:Int) > 0):=by omega
        clear hr hb hk0;go_wp2_with fail
        go_roundw
        case rel=>exact ⟨k+1,by go_num,by omega,HR.out,HB.out⟩
        case measure=>simp [intOf]; omega
       ·obtain ⟨a',y,ea,_,hpy,h9⟩:=zj0 I0.out hb (k:=k-1) (by omega)
        obtain rfl:a=a':=Option.some.inj ea;have hkp:((k:Int) > 0):=by omega
        have hpv:pvB xs k=(y==1):=by
         obtain ⟨j,rfl⟩ : ∃ j,k=j+1:=⟨k-1,by omega⟩;show (xs[j]?==some 1)=_
         have e:xs[j]?=some y:=hpy;rw [e]; rfl
        rw [hpv] at hr;have hc9:wr.cell? (a.add ((k:Int)-1).toNat)=some (.int .i64 y):=by rw [show ((k:Int)-1).toNat=k-1 by omega]; exact h9
        have hi9:(k:Int)-1<xs.length:=by omega
        have hi8:0<=(k:Int)-1:=by omega
        by_cases hy:y=1
        ·subst hy
         have HF:Hid (rtF false xs=false):=Lh hr.symm;clear hr hb hpy ea hc9 hpv;go_wp2_with fail;go_ret
         exact ⟨by rw [HV.out,HF.out]; rfl,B0.out.trans (HB.out.mono B0.out.size)⟩
        ·have hyb:(y==1)=false:=by simp [hy]
         rw [hyb] at hr;have HR:=Lh hr;clear hr hb hpy ea hy hc9 hpv;go_wp2_with fail
         go_roundw
         case rel=>exact ⟨k+1,by go_num,by omega,HR.out,HB.out⟩
         case measure=>simp [intOf]; omega
      ·have hb1:(x != 1)=true:=by simp [h1]
       have e2:(x==2)=false:=by simp [h2]
       have e1:(x==1)=false:=by simp [h1]
       rw [e1,e2] at hr;have HF:Hid (rtF false xs=false):=Lh hr.symm;clear hr e1 e2 hb;go_wp2_with fail;go_ret
       exact ⟨by rw [HV.out,HF.out]; rfl,B0.out.trans (HB.out.mono B0.out.size)⟩
    ·have hlt':¬ (k:Int)<xs.length:=by omega
     have HF:Hid (rtF false xs=true):=Lh (by rw [<- hr,List.drop_eq_nil_of_le (by omega)]; rfl);clear hr hb;go_wp2_with fail;go_ret
     exact ⟨by rw [HV.out,HF.out]; rfl,B0.out.trans (HB.out.mono B0.out.size)⟩
  ·have HV:Hid (okB n xs=false):=Lh (by unfold okB; rw [hnm,decide_eq_false hle]; rfl)
   have HNM:=Lh hnm;have hgt:((xs.length:Int) > 24):=by omega
   clear hnm hle
   go_enter Tryz.func97, Tryz.ntmps97
   go_wp2_with fail
   generalize (w.alloc (.cells #[.string n,.slice A xs.length c] 44 (0,0)))=W0 at *;have hcall:=CALL.out;rw [HNM.out] at hcall;refine hcall.mono ?_;rintro e w1 ⟨rfl,rfl⟩;clear hcall CALL;have q1:=X0.out.cells.2;go_wp2_with fail
   all_goals exact bodyPost_ret (v:=.bool false) (by simp [results,Tryz.results97,go_sem]) rfl ⟨by rw [HV.out],B0.out⟩
 ·have HV:Hid (okB n xs=false):=Lh (by unfold okB; simp [hnm])
  have hnm':T1.nameL n.data.toList=false:=by simpa using hnm
  have HNM:=Lh hnm';clear hnm hnm'
  go_enter Tryz.func97, Tryz.ntmps97
  go_wp2_with fail
  generalize (w.alloc (.cells #[.string n,.slice A xs.length c] 44 (0,0)))=W0 at *;have hcall:=CALL.out;rw [HNM.out] at hcall;refine hcall.mono ?_;rintro e w1 ⟨rfl,rfl⟩;clear hcall CALL;have q1:=X0.out.cells.2;go_wp2_with fail
  all_goals exact bodyPost_ret (v:=.bool false) (by simp [results,Tryz.results97,go_sem]) rfl ⟨by rw [HV.out],B0.out⟩
end Go.Proofs.YtfgelheiknmjgaaGreatDoor.K
namespace Go.Proofs.YtfgelheiknmjgaaGreatDoor
open Go.RowKit
theorem zz9 {w:World} {B:Nat} {c0 c1:Value} {n:ByteArray} {xs:List Int} (h:RfR w B c0 c1 n xs):K.RefV w B (.agg #[c0,c1]) n xs:=by
 obtain ⟨A,c,q,hc,hb,V,hA,hr⟩:=h.wraps;refine ⟨A,c,by rw [h.name,q],hc,fun h0=>?_⟩;obtain ⟨a,e,ha,hx⟩:=hA h0;refine ⟨a,e,ha,fun i x hi=>?_⟩;have h1:=hx i (List.getElem?_eq_some_iff.1 hi).1 0 (by omega);rw [Nat.mul_one] at h1;exact h1.trans (congrArg some (hr i x hi).1)
def litOk (t:VT):Bool:=zd9 true t&&zd9 false t
def argOk (x:ByteArray × VT):Bool:=nmA x.1&&litOk x.2
def dirOk (x:DirT):Bool:=nmA x.name&&inB 0 16 x.args argOk
def zv9 (l:List DirT):Bool:=inB 0 16 l dirOk
def dflOk (has:Bool) (t:VT):Bool:=if has then litOk t else (match t with | .mk k _ _ _ _=>decide (k=0))&&zd9 false t
def inpOk (x:InpT):Bool:=nmA x.name&&(K.okB x.tn x.tw&&(dflOk x.has x.dflt&&zv9 x.dirs))
def ym6 (l:List InpT):Bool:=inB 0 16 l inpOk
def fldOk (x:FldT):Bool:=nmA x.name&&(ym6 x.args&&(K.okB x.tn x.tw&&zv9 x.dirs))
def zr7 (x:MemT):Bool:=nmA x.name&&decide (x.dirs.length=0)
def zv1 (x:MemT):Bool:=nmA x.name&&zv9 x.dirs
def zo7 (im f m i:Int) (mf mm mi:Int) (pm:MemT->Bool) (d:DefT):Bool:=inB 0 im d.impl nmA&&(inB mf f d.fields fldOk&&(inB mm m d.members pm&&inB mi i d.inputs inpOk))
def zH0 (d:DefT):Bool :=
 if d.kind=1 then zo7 64 64 0 0 1 0 0 zr7 d
 else if d.kind=2 then zo7 0 64 0 0 1 0 0 zr7 d
 else if d.kind=3 then zo7 0 0 64 0 0 1 0 zr7 d
 else if d.kind=4 then zo7 0 0 64 0 0 1 0 zv1 d
 else if d.kind=5 then zo7 0 0 0 16 0 0 1 zr7 d
 else false
def defOk (x:DefT):Bool:=nmA x.name&&(zv9 x.dirs&&zH0 x)
def docOk (l:List DefT):Bool:=inB 1 64 l defOk
def wrT (w:Int):Lo:=if w=1 then (1,[33]) else (1,[93])
def refT (n:ByteArray) (ws:List Int):List Lo:=List.replicate (K.strL ws).length (1,[91])++((2,n.data.toList)::ws.reverse.map wrT)
theorem wl_snoc:∀ (ls:List Bool) (b:Bool),ls≠[]->K.wlL (ls++[b])=K.wlL ls++(2::K.bitL b)
 | [],_,h=>absurd rfl h
 | c::r,b,_=>by
   show K.bitL c++K.mrL (r++[b])=(K.bitL c++K.mrL r)++(2::K.bitL b)
   unfold K.mrL;rw [List.flatMap_append,List.append_assoc];simp
theorem yq4 (b:Bool):(K.bitL b).reverse=K.bitL b:=by cases b <;> rfl
theorem wl_rev:∀ ls:List Bool,(K.wlL ls).reverse=K.wlL ls.reverse
 | []=>rfl
 | b::r=>by
   rw [List.reverse_cons];by_cases h:r=[]
   ·subst h; show (K.bitL b++[]).reverse=K.bitL b++[]; rw [List.append_nil,yq4]
   ·rw [wl_snoc _ _ (by simpa using h), <- wl_rev r]
    cases r with
    | nil=>exact absurd rfl h
    | cons c r =>
      show (K.bitL b++((2::K.bitL c)++K.mrL r)).reverse=(K.bitL c++K.mrL r).reverse++2::K.bitL b
      simp [yq4]
theorem rd_nn {us:List Tk} {b:Bool} {q:List Lo} (xs:List Int) (h:lo us=(K.bitL b).map wrT++q) (hq:loSg [33] q=false):∃ us',nnP xs us=(xs++K.bitL b,us')/\lo us'=q:=by
 cases b with
 | true =>
   refine ⟨us.tail, ?_,(rd_sg (s:=[33]) (r:=q) h).2⟩
   unfold nnP;rw [if_pos (zx2 (s:=[33]) (r:=q) h)]; rfl
 | false =>
   refine ⟨us, ?_,h⟩
   unfold nnP;rw [sg_lo,h,if_neg (by show ¬ loSg [33] q=true; rw [hq]; simp)];show _=(xs++[],us)
   rw [List.append_nil]
theorem rd_cls:∀ (r:List Bool) (us:List Tk) (q:List Lo) (xs:List Int),lo us=(K.mrL r).map wrT++q->loSg [33] q=false->∃ us',cls r.length xs us=.ok (xs++K.mrL r,us')/\lo us'=q
 | [],us,q,xs,h,_=>⟨us,by show _=Except.ok (xs++[],us); rw [List.append_nil]; rfl,h⟩
 | b::r,us,q,xs,h,hq=>by
   have h2:lo us=(1,[93])::((K.bitL b).map wrT++((K.mrL r).map wrT++q)):=by
    rw [h];show ((2::K.bitL b)++K.mrL r).map wrT++q=_;rw [List.map_append,List.append_assoc]; rfl
   have g:=rd_sg h2;obtain ⟨u1,e1,e2⟩:=rd_nn (xs++[2]) g.2 (by
    cases r with
    | nil=>exact hq
    | cons c r=>rfl)
   obtain ⟨u2,e3,e4⟩:=rd_cls r u1 q (xs++[2]++K.bitL b) e2 hq;refine ⟨u2, ?_,e4⟩;show exB (sgR [93] us) _=_
   rw [za2 g.1,e1];simp only;rw [e3];show _=Except.ok (xs++((2::K.bitL b)++K.mrL r),u2);simp
theorem rd_brk:∀ (k:Nat) (us:List Tk) (q:List Lo),lo us=List.replicate k (1,[91])++q->loSg [91] q=false->q≠[]->(brk us).1=k/\lo (brk us).2=q
 | 0,[],q,h,_,hn=>absurd h.symm hn
 | 0,t::us,q,h,hq,_=>by
   have:isSg [91] (t::us)=false:=by rw [sg_lo,h]; exact hq
   unfold brk;rw [this,if_neg (by simp)];exact ⟨rfl,h⟩
 | k+1,[],q,h,_,_=>by cases h
 | k+1,t::us,q,h,hq,hn=>by
   have h2:lo (t::us)=(1,[91])::(List.replicate k (1,[91])++q):=h;have:=rd_brk k us q (rd_sg h2).2 hq hn;unfold brk;rw [zx2 h2,if_pos rfl];exact ⟨by rw [this.1],this.2⟩
theorem yg7 {n:ByteArray} {ws:List Int} (hok:K.okB n ws=true) {us:List Tk} {q:List Lo} (h:lo us=refT n ws++q) (hq:loSg [33] q=false):∃ us',refP us=.ok ((n,ws),us')/\lo us'=q:=by
 unfold K.okB at hok;simp only [Bool.and_eq_true,decide_eq_true_eq] at hok;obtain ⟨⟨_,h24⟩,hrt⟩:=hok;have hwl:=K.wl_lv hrt;have hne:K.lv ws≠[]:=by intro e; have:=K.lv_len ws; rw [e] at this; simp at this
 obtain ⟨c,r,hr⟩ : ∃ c r,(K.lv ws).reverse=c::r:=by
  cases hh:(K.lv ws).reverse with
  | nil=>exact absurd (List.reverse_eq_nil_iff.1 hh) hne
  | cons c r=>exact ⟨c,r,rfl⟩
 have hrev:ws.reverse=K.bitL c++K.mrL r:=by
  rw [<- hwl,wl_rev,hr]; rfl
 have hk:(K.strL ws).length=r.length:=by
  have:=K.lv_len ws;have h2:=congrArg List.length hr;rw [List.length_reverse,List.length_cons] at h2;omega
 unfold refT at h;rw [List.append_assoc,List.cons_append] at h;obtain ⟨g1,g2⟩:=rd_brk _ us _ h rfl (by simp);have g3:=rd_nm g2;rw [ba_eq] at g3;have g4:=g3.2.1;rw [hrev,List.map_append,List.append_assoc] at g4;obtain ⟨u1,e1,e2⟩:=rd_nn [] g4 (by
  cases r with
  | nil=>exact hq
  | cons d r=>rfl)
 obtain ⟨u2,e3,e4⟩:=rd_cls r u1 q ([]++K.bitL c) e2 hq;refine ⟨u2, ?_,e4⟩;unfold refP;rw [za2 g3.1];simp only;rw [e1,g1,hk];simp only;rw [za2 e3];unfold refE;simp only;rw [List.nil_append, <- hrev,List.length_reverse,if_neg (by omega),List.reverse_reverse]
def Fo (q:List Lo):Prop:=loSg [64] q=false/\loSg [33] q=false/\loSg [61] q=false/\loSg [40] q=false/\loSg [124] q=false/\loSg [38] q=false
def RdT {α:Type} (el:List Tk->Except Er (α × List Tk)) (T : α->List Lo) (x : α):Prop:=∀ (us:List Tk) (q:List Lo),lo us=T x++q->Fo q->∃ us',el us=.ok (x,us')/\lo us'=q
theorem Fo.nm {s:List UInt8} {q:List Lo}:Fo ((2,s)::q):=⟨rfl,rfl,rfl,rfl,rfl,rfl⟩
theorem Fo.e5 {s:List UInt8} {q:List Lo}:Fo ((5,s)::q):=⟨rfl,rfl,rfl,rfl,rfl,rfl⟩
theorem rd_bls {α:Type} {el:List Tk->Except Er (α × List Tk)} {T : α->List Lo} {cl:UInt8} {most:Nat} (hcl:cl=41∨cl=125):∀ (xs l:List α) (us:List Tk) (f:Nat) (q:List Lo),(∀ x∈xs,RdT el T x/\∃ s r,T x=(2,s)::r) ->
  lo us=(xs.map T).flatten++((1,[cl])::q)->us.length<f->l.length+xs.length<=most->1<=l.length+xs.length->∃ us',bls [cl] most el f l us=.ok (l++xs,us')/\lo us'=q
 | _,_,_,0,_,_,_,h,_,_=>absurd h (Nat.not_lt_zero _)
 | [],l,us,f+1,q,_,hu,_,_,h1=>by
   refine ⟨us.tail, ?_,(rd_sg hu).2⟩
   rw [zi1,if_pos ⟨by simp at h1; omega,zx2 hu⟩,List.append_nil]
 | x::xs,l,us,f+1,q,hx,hu,hf,hm,_=>by
   obtain ⟨hr,s,r,hT⟩:=hx x List.mem_cons_self;have hu2:lo us=T x++((xs.map T).flatten++((1,[cl])::q)):=by rw [hu,List.map_cons,List.flatten_cons,List.append_assoc]
   have hfo:Fo ((xs.map T).flatten++((1,[cl])::q)):=by
    cases xs with
    | nil=>rcases hcl with rfl | rfl <;> exact ⟨rfl,rfl,rfl,rfl,rfl,rfl⟩
    | cons y ys =>
      obtain ⟨_,s',r',hT'⟩:=hx y (by simp);rw [List.map_cons,List.flatten_cons,hT'];exact Fo.nm
   obtain ⟨us1,h1,h2⟩:=hr us _ hu2 hfo;have hlen:us1.length<us.length:=by
    rw [<- zm2 us, <- zm2 us1,hu2,h2];simp only [List.length_append];rw [hT];simp only [List.length_cons]; omega
   simp only [List.length_cons] at hm
   obtain ⟨us',h3,h4⟩:=rd_bls (most:=most) hcl xs (l++[x]) us1 f q (fun y hy=>hx y (List.mem_cons_of_mem _ hy)) h2 (by omega) (by rw [List.length_append,List.length_singleton]; omega) (by rw [List.length_append,List.length_singleton]; omega);refine ⟨us', ?_,h4⟩
   have hu3:lo us=(2,s)::(r++((xs.map T).flatten++((1,[cl])::q))):=by rw [hu2,hT]; rfl
   have hs:isSg [cl] us=false:=by rw [sg_lo,hu3]; rfl
   have hb:bgR (isNm us) l.length most us=.ok ():=by
    rw [(rd_nm hu3).2.2]; unfold bgR; rw [if_pos rfl,if_neg (by omega)]
   rw [zi1,if_neg (by rw [hs]; simp),za2 hb,za2 h1];simp only
   rw [h3,List.append_assoc]; rfl
theorem rd_bl {α:Type} {el:List Tk->Except Er (α × List Tk)} {T : α->List Lo} {op cl:UInt8} {most:Nat} (hcl:cl=41∨cl=125) {xs:List α} {us:List Tk} {q:List Lo} (hx:∀ x∈xs,RdT el T x/\∃ s r,T x=(2,s)::r)
  (hu:lo us=(1,[op])::((xs.map T).flatten++((1,[cl])::q))) (hm:xs.length<=most) (h1:1<=xs.length):∃ us',blR [op] [cl] most el us=.ok (xs,us')/\lo us'=q:=by
 have g:=rd_sg hu;obtain ⟨us',e1,e2⟩:=rd_bls (most:=most) hcl xs [] us.tail (us.tail.length+1) q hx g.2 (Nat.lt_succ_self _) (by simpa using hm) (by simpa using h1);refine ⟨us', ?_,e2⟩
 unfold blR;rw [za2 g.1,e1]; rfl
theorem rd_nms {c:UInt8}:∀ (xs l:List ByteArray) (us:List Tk) (f:Nat) (q:List Lo),lo us=(xs.map fun x=>[((1:Int),[c]),(2,x.data.toList)]).flatten++q->loSg [c] q=false->us.length<f->l.length≠0->l.length+xs.length<=64 ->
  ∃ us',nms [c] f l us=.ok (l++xs,us')/\lo us'=q
 | _,_,_,0,_,_,_,h,_,_=>absurd h (Nat.not_lt_zero _)
 | [],l,us,f+1,q,hu,hq,_,h0,_=>by
   refine ⟨us, ?_,hu⟩
   rw [zn5,if_pos ⟨h0,by rw [sg_lo,hu]; exact hq⟩,List.append_nil]
 | x::xs,l,us,f+1,q,hu,hq,hf,h0,hm=>by
   have hu2:lo us=(1,[c])::(2,x.data.toList)::((xs.map fun x=>[((1:Int),[c]),(2,x.data.toList)]).flatten++q):=by rw [hu]; rfl
   have g1:=rd_sg hu2;have g2:=rd_nm g1.2;rw [ba_eq] at g2;simp only [List.length_cons] at hm;have hlen:us.tail.tail.length<us.length:=by
    rw [<- zm2 us, <- zm2 us.tail.tail,hu2,g2.2.1];simp only [List.length_cons]; omega
   obtain ⟨us',h3,h4⟩:=rd_nms xs (l++[x]) us.tail.tail f q g2.2.1 hq (by omega) (by simp) (by rw [List.length_append,List.length_singleton]; omega);refine ⟨us', ?_,h4⟩
   have hb:bgR (isNm us.tail) l.length 64 us.tail=.ok ():=by rw [g2.2.2]; unfold bgR; rw [if_pos rfl,if_neg (by omega)]
   rw [zn5,if_neg (by rw [zx2 hu2]; simp),if_neg h0,za2 hb,za2 g2.1];simp only
   rw [h3,List.append_assoc]; rfl
def nmsT (c:UInt8):List ByteArray->List Lo
 | []=>[]
 | x::xs=>(2,x.data.toList)::(xs.map fun x=>[((1:Int),[c]),(2,x.data.toList)]).flatten
theorem yg8 {c:UInt8} {xs:List ByteArray} {us:List Tk} {q:List Lo} (hu:lo us=nmsT c xs++q) (hq:loSg [c] q=false) (h1:1<=xs.length) (hm:xs.length<=64):∃ us',nmsR [c] us=.ok (xs,us')/\lo us'=q:=by
 cases xs with
 | nil=>simp at h1
 | cons x xs =>
   have hu2:lo us=(2,x.data.toList)::((xs.map fun x=>[((1:Int),[c]),(2,x.data.toList)]).flatten++q):=by rw [hu]; rfl
   have g2:=rd_nm hu2;rw [ba_eq] at g2;simp only [List.length_cons] at hm;have hlen:us.tail.length<us.length:=by
    rw [<- zm2 us, <- zm2 us.tail,hu2,g2.2.1]; simp
   obtain ⟨us',h3,h4⟩:=rd_nms xs [x] us.tail us.length q g2.2.1 hq hlen (by simp) (by simp; omega);refine ⟨us', ?_,h4⟩
   have hb:bgR (isNm us) 0 64 us=.ok ():=by rw [g2.2.2]; rfl
   unfold nmsR;rw [zn5,if_neg (by simp)];simp only [List.length_nil,if_true]
   rw [za2 hb,za2 g2.1];simp only;exact h3
end Go.Proofs.YtfgelheiknmjgaaGreatDoor

