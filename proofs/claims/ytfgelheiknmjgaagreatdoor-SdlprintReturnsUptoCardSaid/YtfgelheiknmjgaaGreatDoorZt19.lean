
/-
 Texts joined: E6Nms F4 F5.
-/
import Derived.Test.YtfgelheiknmjgaaGreatDoorZt15
set_option maxRecDepth 1000000
set_option maxHeartbeats 8000000
namespace Go.Proofs.YtfgelheiknmjgaaGreatDoor
open Go.RowKit
theorem yn1:(Tryz.prog.info? 9).map (fun i=>(i.zero,i.size,i.bytes))=some (some (.string ⟨#[]⟩),1,16):=by kernel_rfl
theorem zE3 (p:Nat) (w:World) (ts:List Tk) (n:Nat) (h:PSt w p ts n) (cl:ByteArray) :
  Calls Tryz.prog 162 #[pP p,.string cl] w (WPost yq8 w p (nmsR cl.data.toList ts)):=by
 have HV2:Hid (nmsR cl.data.toList ts=nms cl.data.toList (ts.length+1) [] ts):=Lh rfl;have HP1:=Lh h;have hpw:=h.lt;clear h;generalize nmsR cl.data.toList ts=R at *
 go_enter Tryz.func162, Tryz.ntmps162
 go_wp2_with fail
 go_loopw [5] (fun u wr=>∃ (l:List ByteArray) (tr:List Tk) (cells:List Value) (f m:Nat),l.length<=64/\Hid (R=nms cl.data.toList f l tr/\tr.length<f/\Els 9 1 StrC wr w.heap.size u cells l/\PSt wr p tr m/\Tw p w.heap.size w wr)) (fun _ wr=>tlen p wr)
 case atStart=>exact ⟨[],ts,[],_,n,Nat.zero_le _,Lh ⟨HV2.out,Nat.lt_succ_self _,Els.nil _ _ _ _ _,HP1.out,.refl _ _ _⟩⟩
 case round =>
  obtain ⟨l,tr,cells,f,m,hlm,hr⟩:=hrel;obtain ⟨AL,c,hu⟩:=hr.out.2.2.1.slice;subst hu;have hlb:(l.length:Int)<=64:=by omega
  obtain ⟨f',hf'⟩ : ∃ f',f=f'+1:=⟨f-1,by have:=hr.out.2.1; omega⟩;subst hf';obtain ⟨ll,hll⟩ : ∃ ll,ll=l.length:=⟨_,rfl⟩;rw [<- hll] at hlb;have HLL:=Lh hll;by_cases hdone:ll≠0/\isSg cl.data.toList tr=false
  ·obtain ⟨hz,hsg⟩:=hdone
   have hz0:((ll:Int)==0)=false:=by rw [beq_eq_false_iff_ne]; omega
   have HD:Hid (R=.ok (l,tr)):=Lh (hr.out.1.trans (by rw [zn5,if_pos ⟨by rw [<- HLL.out]; exact hz,hsg⟩]));have HC:=Lh (zb2 hr.out.2.2.2.1 cl _ hsg);clear hz hsg hll;rw [<- HLL.out];go_wp2_with fail;refine HC.out.mono ?_
   rintro e w2 ⟨rfl,hp2,ht2⟩;have HP2:Hid (PSt w2 p tr m):=Lh hp2;have HT2:=Lh (hr.out.2.2.2.2.step hr.out.2.2.2.2.size ht2);have HE2:=Lh (hr.out.2.2.1.tw StrC.stays hpw ht2);clear hp2 ht2;go_wp2_with fail;go_ret
   refine .inl ⟨l,_,_,m,HD.out,rfl, ?_,HP2.out,HT2.out⟩
   have:=HE2.out.read (bytes:=16) StrC.stays (by have:=HLL.out; unfold big; omega);rw [HLL.out];exact this
  ·have HD0:Hid (R=exB (bgR (isNm (if l.length=0 then tr else tr.tail)) l.length 64 (if l.length=0 then tr else tr.tail)) fun _=>exB (nmR (if l.length=0 then tr else tr.tail)) fun q=>nms cl.data.toList f' (l++[q.1]) q.2):=Lh (hr.out.1.trans (by rw [zn5,if_neg (by rw [<- HLL.out]; exact hdone)]))
   have hcase:ll=0∨(ll≠0/\isSg cl.data.toList tr=true):=by
    by_cases h0:ll=0
    ·exact .inl h0
    ·exact .inr ⟨h0,by cases hh:isSg cl.data.toList tr with
      | true=>rfl
      | false=>exact absurd ⟨h0,hh⟩ hdone⟩
   rw [<- hll];clear hdone hll;rcases hcase with hz | ⟨hz,hsg⟩
   ·skip
    have HD:Hid (R=exB (bgR (isNm tr) l.length 64 tr) fun _=>exB (nmR tr) fun q=>nms cl.data.toList f' (l++[q.1]) q.2):=Lh (by have h8:=HD0.out; rw [if_pos (show l.length=0 by rw [<- HLL.out]; exact hz)] at h8; exact h8);have hz0:((ll:Int)==0)=true:=by rw [hz]; rfl
    have HPC:=Lh hr.out.2.2.2.1;have HTC:Hid (Tw p wr.heap.size wr wr):=Lh (.refl _ _ _);clear hz;go_wp2_with fail;refine zx8 HPC.out (by kernel_rfl) rfl rfl ?_ fun a w3 z hd hz=>?_
    rotate_left
    ·obtain ⟨hbg,ht⟩:=hz
     rw [HLL.out] at hbg;exact ⟨hd.trans rfl,.inr ⟨z,by rw [HD.out,za6 hbg],rfl,hr.out.2.2.2.2.step hr.out.2.2.2.2.size (HTC.out.step HTC.out.size ht)⟩⟩
    intro f wc ⟨hbg,hb⟩;rw [HLL.out] at hbg;obtain ⟨hnm,hlm2⟩:=zs5 hbg hlm;have HD2:Hid (R=exB (nmR tr) fun q=>nms cl.data.toList f' (l++[q.1]) q.2):=Lh (by rw [HD.out,za2 hbg]);have HPB2:=Lh (HPC.out.stay hb);have HTB2:=Lh (HTC.out.step HTC.out.size (.of hb));clear hbg hb hnm;simp only [K.over,List.foldl_cons,List.foldl_nil,Act.put,List.setIfInBounds_toArray,List.set_cons_succ,List.set_cons_zero];generalize f 16=u16;generalize f 17=u17;generalize f 18=u18;generalize f 19=u19;generalize f 20=u20;generalize f 21=u21;generalize f 22=u22;generalize f 23=u23;generalize f 24=u24;generalize f 25=u25;go_wp2_with fail;refine (zd6 HPB2.out).mono ?_
    rintro e wd (⟨x,ts',v,hre,rfl,⟨rfl,hxz⟩,hp,ht⟩ | ⟨x,hre,rfl,ht⟩);rotate_left
    ·have HD3:Hid (R=.error x):=Lh (by rw [HD2.out,za6 hre])
     have HT3:=Lh (hr.out.2.2.2.2.step hr.out.2.2.2.2.size (HTB2.out.step HTB2.out.size ht));clear hre ht;exact ⟨rfl,.inr ⟨x,HD3.out,rfl,HT3.out⟩⟩
    have HD3:Hid (R=nms cl.data.toList f' (l++[x]) ts'):=Lh (by rw [HD2.out,za2 hre]);have hlt3:=yk4 HPB2.out.good hre;have hxc:StrC wd (fun b=>wc.heap.size<=b/\b<wd.heap.size) (fun j=>[Value.string x].getD j undef) x:=⟨rfl,by unfold big; omega⟩;have HTD:=Lh (HTB2.out.step HTB2.out.size ht);have hE:=hr.out.2.2.1.tw StrC.stays hpw HTD.out;have hws:w.heap.size<=wc.heap.size:=Nat.le_trans hr.out.2.2.2.2.size HTB2.out.size;have hwd:wc.heap.size<=wd.heap.size:=ht.size;have hxS:=StrC.stays.kept (w':=wd) (S':=fun b=>w.heap.size<=b/\b<wd.heap.size/\(Value.slice AL l.length c).ownBlock≠some b) hxc (fun _ _=>rfl) (fun b hb=>⟨by have:=hb.1; omega,hb.2,fun e=>by have h8:=(hr.out.2.2.1.own).lt b e; have h9:=HTB2.out.size; have:=hb.1; omega⟩);have HX:=Lh hxS;have HPD:=Lh hp;have HE:=Lh hE;have b0:Below wd.heap.size wd (wd.alloc (.cells #[.string x] 9 (0,0))):=za0 _ _;have HB0:=Lh b0;have HOWN:Hid ((wd.alloc (.cells #[.string x] 9 (0,0))).ownsRow w.heap.size 9 1 (.slice AL ll c) ll cells):=Lh (by
     have h8:=ze9 hE.own (fun g hg=>b0.block g hg);rw [<- HLL.out] at h8; exact h8)
    have HNEWS:Hid (∀ (j:Nat) (u:Value),([.string x]:List Value)[j]?=some u->(wd.alloc (.cells #[.string x] 9 (0,0))).cell? ((⟨wd.heap.size,0,none⟩ : Addr).add j)=some u):=Lh (zf0 wd [.string x] 9);have HONE:Hid (∀ u∈([.string x]:List Value),u.oneCell'=true):=Lh (by intro u hu; simp only [List.mem_cons,List.not_mem_nil,or_false] at hu; rcases hu with rfl <;> rfl);have HSZ:Hid (w.heap.size<=(wd.alloc (.cells #[.string x] 9 (0,0))).heap.size):=Lh (by rw [World.size_alloc]; omega);clear hre ht hxc hp hE hxS b0 hxz;go_wp2_with (at_builtin; refine zb1 _ rfl _ _ 33 rfl w.heap.size 9 _ 1 16 Tryz.underlying33 yn1 rfl (by decide) _ ll cells rfl HOWN.out ⟨wd.heap.size,0,none⟩ 1 1 (by decide) [.string x] rfl rfl HNEWS.out HONE.out (by unfold maxLen; omega) (by omega) HSZ.out ?_; intro v' w' hown' hg' hf');have hpush:=Els.push (x:=x) StrC.stays HE.out HB0.out (by have:=HSZ.out; omega) HX.out (news:=[.string x]) (fun j hj=>rfl) (fun W S g g2 y hh h9=>⟨(hh 0 (by omega))▸h9.1,h9.2⟩) (by rw [<- HLL.out]; exact hown') (by rw [<- HLL.out]; exact hg') (by rw [<- HLL.out]; exact hf');have HE2:=Lh hpush.1;have HT2:Hid (Tw p w.heap.size w w'):=Lh ((hr.out.2.2.2.2.trans (HTD.out.mono hr.out.2.2.2.2.size)).trans (.of hpush.2));have HP2:=Lh (HPD.out.same (hpush.2.mono (by omega)));clear hpush hown' hg' hf'
    go_roundw
    case rel=>exact ⟨l++[x],ts',_,f',m,by rw [List.length_append,List.length_singleton]; omega,Lh ⟨HD3.out,by have:=hr.out.2.1; omega,HE2.out,HP2.out,HT2.out⟩⟩
    case measure=>rw [HP2.out.tlen,hr.out.2.2.2.1.tlen]; omega
   ·skip
    have HD:Hid (R=exB (bgR (isNm tr.tail) l.length 64 tr.tail) fun _=>exB (nmR tr.tail) fun q=>nms cl.data.toList f' (l++[q.1]) q.2):=Lh (by have h8:=HD0.out; rw [if_neg (show ¬ l.length=0 by rw [<- HLL.out]; exact hz)] at h8; exact h8);have hz0:((ll:Int)==0)=false:=by rw [beq_eq_false_iff_ne]; omega
    have HC:=Lh (zb2 hr.out.2.2.2.1 cl _ hsg);clear hz hsg;go_wp2_with fail;refine HC.out.mono ?_
    rintro e wa ⟨rfl,hp2,ht2⟩;have HPC:Hid (PSt wa p tr.tail m):=Lh hp2;have HTC:=Lh ht2;clear hp2 ht2 HC;go_wp2_with fail;refine zx8 HPC.out (by kernel_rfl) rfl rfl ?_ fun a w3 z hd hz=>?_
    rotate_left
    ·obtain ⟨hbg,ht⟩:=hz
     rw [HLL.out] at hbg;exact ⟨hd.trans rfl,.inr ⟨z,by rw [HD.out,za6 hbg],rfl,hr.out.2.2.2.2.step hr.out.2.2.2.2.size (HTC.out.step HTC.out.size ht)⟩⟩
    intro f wc ⟨hbg,hb⟩;rw [HLL.out] at hbg;obtain ⟨hnm,hlm2⟩:=zs5 hbg hlm;have HD2:Hid (R=exB (nmR tr.tail) fun q=>nms cl.data.toList f' (l++[q.1]) q.2):=Lh (by rw [HD.out,za2 hbg]);have HPB2:=Lh (HPC.out.stay hb);have HTB2:=Lh (HTC.out.step HTC.out.size (.of hb));clear hbg hb hnm;simp only [K.over,List.foldl_cons,List.foldl_nil,Act.put,List.setIfInBounds_toArray,List.set_cons_succ,List.set_cons_zero];generalize f 16=u16;generalize f 17=u17;generalize f 18=u18;generalize f 19=u19;generalize f 20=u20;generalize f 21=u21;generalize f 22=u22;generalize f 23=u23;generalize f 24=u24;generalize f 25=u25;go_wp2_with fail;refine (zd6 HPB2.out).mono ?_
    rintro e wd (⟨x,ts',v,hre,rfl,⟨rfl,hxz⟩,hp,ht⟩ | ⟨x,hre,rfl,ht⟩);rotate_left
    ·have HD3:Hid (R=.error x):=Lh (by rw [HD2.out,za6 hre])
     have HT3:=Lh (hr.out.2.2.2.2.step hr.out.2.2.2.2.size (HTB2.out.step HTB2.out.size ht));clear hre ht;exact ⟨rfl,.inr ⟨x,HD3.out,rfl,HT3.out⟩⟩
    have HD3:Hid (R=nms cl.data.toList f' (l++[x]) ts'):=Lh (by rw [HD2.out,za2 hre]);have hlt3:=yk4 HPB2.out.good hre;have htl:tr.tail.length<=tr.length:=by simp
    have hxc:StrC wd (fun b=>wc.heap.size<=b/\b<wd.heap.size) (fun j=>[Value.string x].getD j undef) x:=⟨rfl,by unfold big; omega⟩;have HTD:=Lh (HTB2.out.step HTB2.out.size ht);have hE:=hr.out.2.2.1.tw StrC.stays hpw HTD.out;have hws:w.heap.size<=wc.heap.size:=Nat.le_trans hr.out.2.2.2.2.size HTB2.out.size;have hwd:wc.heap.size<=wd.heap.size:=ht.size;have hxS:=StrC.stays.kept (w':=wd) (S':=fun b=>w.heap.size<=b/\b<wd.heap.size/\(Value.slice AL l.length c).ownBlock≠some b) hxc (fun _ _=>rfl) (fun b hb=>⟨by have:=hb.1; omega,hb.2,fun e=>by have h8:=(hr.out.2.2.1.own).lt b e; have h9:=HTB2.out.size; have:=hb.1; omega⟩);have HX:=Lh hxS;have HPD:=Lh hp;have HE:=Lh hE;have b0:Below wd.heap.size wd (wd.alloc (.cells #[.string x] 9 (0,0))):=za0 _ _;have HB0:=Lh b0;have HOWN:Hid ((wd.alloc (.cells #[.string x] 9 (0,0))).ownsRow w.heap.size 9 1 (.slice AL ll c) ll cells):=Lh (by
     have h8:=ze9 hE.own (fun g hg=>b0.block g hg);rw [<- HLL.out] at h8; exact h8)
    have HNEWS:Hid (∀ (j:Nat) (u:Value),([.string x]:List Value)[j]?=some u->(wd.alloc (.cells #[.string x] 9 (0,0))).cell? ((⟨wd.heap.size,0,none⟩ : Addr).add j)=some u):=Lh (zf0 wd [.string x] 9);have HONE:Hid (∀ u∈([.string x]:List Value),u.oneCell'=true):=Lh (by intro u hu; simp only [List.mem_cons,List.not_mem_nil,or_false] at hu; rcases hu with rfl <;> rfl);have HSZ:Hid (w.heap.size<=(wd.alloc (.cells #[.string x] 9 (0,0))).heap.size):=Lh (by rw [World.size_alloc]; omega);clear hre ht hxc hp hE hxS b0 hxz;go_wp2_with (at_builtin; refine zb1 _ rfl _ _ 33 rfl w.heap.size 9 _ 1 16 Tryz.underlying33 yn1 rfl (by decide) _ ll cells rfl HOWN.out ⟨wd.heap.size,0,none⟩ 1 1 (by decide) [.string x] rfl rfl HNEWS.out HONE.out (by unfold maxLen; omega) (by omega) HSZ.out ?_; intro v' w' hown' hg' hf');have hpush:=Els.push (x:=x) StrC.stays HE.out HB0.out (by have:=HSZ.out; omega) HX.out (news:=[.string x]) (fun j hj=>rfl) (fun W S g g2 y hh h9=>⟨(hh 0 (by omega))▸h9.1,h9.2⟩) (by rw [<- HLL.out]; exact hown') (by rw [<- HLL.out]; exact hg') (by rw [<- HLL.out]; exact hf');have HE2:=Lh hpush.1;have HT2:Hid (Tw p w.heap.size w w'):=Lh ((hr.out.2.2.2.2.trans (HTD.out.mono hr.out.2.2.2.2.size)).trans (.of hpush.2));have HP2:=Lh (HPD.out.same (hpush.2.mono (by omega)));clear hpush hown' hg' hf'
    go_roundw
    case rel=>exact ⟨l++[x],ts',_,f',m,by rw [List.length_append,List.length_singleton]; omega,Lh ⟨HD3.out,by have:=hr.out.2.1; omega,HE2.out,HP2.out,HT2.out⟩⟩
    case measure=>rw [HP2.out.tlen,hr.out.2.2.2.1.tlen]; omega
def implS:ByteArray:=⟨#[105,109,112,108,101,109,101,110,116,115]⟩
def impP (ts:List Tk):Except Er (List ByteArray × List Tk):=if isNm ts=true/\(⟨(hd ts).2.1.toArray⟩ : ByteArray)=implS then nmsR [38] ts.tail else .ok ([],ts)
theorem impP_eq (ts:List Tk):impP ts=if isWd implS ts=true then nmsR [38] ts.tail else .ok ([],ts):=by
 unfold impP isWd;by_cases h1:isNm ts=true <;> by_cases h2:(⟨(hd ts).2.1.toArray⟩ : ByteArray)=implS <;> simp [h1,h2]
theorem zB2 (p:Nat) (w:World) (ts:List Tk) (n:Nat) (h:PSt w p ts n):Calls Tryz.prog 113 #[pP p] w (WPost yq8 w p (impP ts)):=by
 have HV:Hid (impP ts=if isWd implS ts=true then nmsR [38] ts.tail else .ok ([],ts)):=Lh (impP_eq ts);generalize impP ts=R at *
 cases hs:isWd implS ts with
 | false =>
   have HC:=Lh (zB1 h implS _ hs);have HV2:Hid (R=.ok ([],ts)):=Lh (by rw [HV.out,hs]; rfl);clear h hs HV
   go_enter Tryz.func113, Tryz.ntmps113
   go_wp2_with fail
   refine HC.out.mono ?_
   rintro e w1 ⟨rfl,hp,ht⟩;have HP1:Hid (PSt w1 p ts n):=Lh hp;have HT1:=Lh ht;clear hp ht;go_wp2_with fail;go_ret
   exact .inl ⟨_,_,_,n,HV2.out,rfl,SlS.nil _ _,HP1.out,HT1.out⟩
 | true =>
   have HC:=Lh (zB1 h implS _ hs);have HV2:Hid (R=nmsR [38] ts.tail):=Lh (by rw [HV.out,hs]; rfl);clear h hs HV
   go_enter Tryz.func113, Tryz.ntmps113
   go_wp2_with fail
   refine HC.out.mono ?_
   rintro e w3 ⟨rfl,hp,ht⟩;have HP3:Hid (PSt w3 p ts.tail n):=Lh hp;have HT3:=Lh ht;clear hp ht;go_wp2_with fail;refine (zE3 p w3 ts.tail n HP3.out ⟨#[38]⟩).mono ?_
   rintro e w4 (⟨l,ts',v,m',hr,rfl,hv,hp,ht⟩ | ⟨x,hr,rfl,ht⟩)
   ·have HD:Hid (R=.ok (l,ts')):=Lh (HV2.out.trans hr)
    have HT4:=Lh (HT3.out.step HT3.out.size ht);have hs3:=HT3.out.size;have HX:=Lh (SlS.kept StrC.stays (w':=w4) (S':=fun b=>w.heap.size<=b/\b<w4.heap.size) hv (fun _ _=>rfl) (fun b hb=>⟨by have:=hb.1; omega,hb.2⟩));have HP4:=Lh hp;clear hr hv hp ht;go_wp2_with fail;go_ret
    exact .inl ⟨_,_,_,_,HD.out,rfl,HX.out,HP4.out,HT4.out⟩
   ·have HD:Hid (R=.error x):=Lh (HV2.out.trans hr)
    have HT4:=Lh (HT3.out.step HT3.out.size ht);exact ⟨rfl,.inr ⟨x,HD.out,rfl,HT4.out⟩⟩
theorem yo1 {α β:Type} {r:Except Er α} {k : α->Except Er β} {y : β} (h:exB r k=.ok y):∃ x,r=.ok x/\k x=.ok y:=by
 cases r with
 | error e=>cases h
 | ok x=>exact ⟨x,rfl,h⟩
theorem yk2 (sep:List UInt8):∀ (f:Nat) (l:List ByteArray) (ts:List Tk) (l':List ByteArray) (ts':List Tk),nms sep f l ts=.ok (l',ts')->l.length<=64->l'.length<=64
 | 0,_,_,_,_,h,_=>by cases h
 | f+1,l,ts,l',ts',h,hl=>by
   rw [zn5] at h
   split at h
   ·cases h; exact hl
   ·obtain ⟨_,h1,h2⟩:=yo1 h
    obtain ⟨q,h3,h4⟩:=yo1 h2;have:=(zs5 h1 hl).2;exact yk2 sep f _ _ _ _ h4 (by rw [List.length_append,List.length_singleton]; omega)
def memOf (x:ByteArray):MemT:=⟨x,[]⟩
def uniP (ts:List Tk):Except Er (List MemT × List Tk):=exB (sgR [61] ts) fun ts1=>exB (nmsR [124] ts1) fun r=>.ok (r.1.map memOf,r.2)
theorem zZ7 (p:Nat) (w:World) (ts:List Tk) (n:Nat) (h:PSt w p ts n):Calls Tryz.prog 117 #[pP p] w (WPost MemsC w p (uniP ts)):=by
 have HP:=Lh h;have hpw:=h.lt;have HV:Hid (uniP ts=exB (sgR [61] ts) fun ts1=>exB (nmsR [124] ts1) fun r=>.ok (r.1.map memOf,r.2)):=Lh rfl;clear h;generalize uniP ts=R at *
 go_enter Tryz.func117, Tryz.ntmps117
 go_wp2_with fail
 refine (ze5 HP.out ⟨#[61]⟩).mono ?_
 rintro e w1 (⟨ts1,hr,rfl,hp,ht⟩ | ⟨x,hr,rfl,ht⟩);rotate_left
 ·exact ⟨rfl,.inr ⟨_,HV.out.trans (za6 hr),rfl,ht⟩⟩
 have HV1:=Lh (HV.out.trans (za2 hr));have HP1:=Lh hp;have HT1:=Lh ht;clear hr hp ht;go_wp2_with fail;refine (zE3 p w1 ts1 n HP1.out ⟨#[124]⟩).mono ?_
 rintro e w2 (⟨l,ts2,v,m2,hr,rfl,hv,hp,ht⟩ | ⟨x,hr,rfl,ht⟩);rotate_left
 ·exact ⟨rfl,.inr ⟨_,HV1.out.trans (za6 hr),rfl,HT1.out.step HT1.out.size ht⟩⟩
 have HV2:Hid (R=.ok (l.map memOf,ts2)):=Lh (HV1.out.trans (za2 hr));have hl64:l.length<=64:=yk2 _ _ _ _ _ _ hr (Nat.zero_le _);have HP2:=Lh hp;have HT2:=Lh (HT1.out.step HT1.out.size ht);have hws:w.heap.size<=w2.heap.size:=HT2.out.size;obtain ⟨A,c,rfl,hc,hbg,V,hA,hrr⟩:=hv;have HA:=Lh hA;have HRR:=Lh hrr;obtain ⟨len,hlen⟩ : ∃ len,len=l.length:=⟨_,rfl⟩;rw [<- hlen] at HA hl64;have HL:=Lh hlen;have hlm:(len:Int)<=64:=by omega
 clear hr hp ht hA hrr hc hbg;rw [<- hlen];clear hlen;go_wp2_with fail
 go_loopw [3,13] (fun u ct wr=>∃ (i:Nat) (cells:List Value),i<=len/\ct=.int .i64 i/\Hid (Els 48 2 MemC wr w2.heap.size u cells ((l.take i).map memOf)/\Below w2.heap.size w2 wr)) (fun _ ct _=>len-(intOf ct).toNat)
 case atStart=>exact ⟨0,[],Nat.zero_le _,rfl,Lh ⟨by rw [List.take_zero]; exact Els.nil _ _ _ _ _,Below.refl _ _⟩⟩
 case round =>
  obtain ⟨i,cells,hi,rfl,hr⟩:=hrel;obtain ⟨AL,cl,hu⟩:=hr.out.1.slice;subst hu;have htl:((l.take i).map memOf).length=i:=by rw [List.length_map,List.length_take]; have:=HL.out; omega
  rw [htl];by_cases hlt:i<len
  ·have hlt':(i:Int)<len:=by omega
   obtain ⟨a,ea,ha,hcell⟩:=HA.out (by omega);subst ea;obtain ⟨x,hx⟩ : ∃ x,l[i]?=some x:=⟨_,List.getElem?_eq_getElem (by have:=HL.out; omega)⟩;have hrx:=HRR.out i x hx;have k0:wr.cell? (a.add i)=some (.string x):=by
    have h1:=((hr.out.2.cell (p:=at_ (a.add (i*1)) 0) (by rw [zb5,za1]; exact ha.2)).trans (hcell i hlt 0 (by omega))).trans (congrArg some hrx.1);simpa [at_] using h1
   have HRX:=Lh hrx.2;have HXI:=Lh hx;have hsz:=hr.out.2.size;have b0:Below wr.heap.size wr (wr.alloc (.cells #[.string x,.slice none 0 0] 48 (0,0))):=za0 _ _;have HB0:=Lh b0;have HOWN:Hid ((wr.alloc (.cells #[.string x,.slice none 0 0] 48 (0,0))).ownsRow w2.heap.size 48 2 (.slice AL i cl) i cells):=Lh (by
    have h8:=ze9 hr.out.1.own (fun g hg=>b0.block g hg);rw [htl] at h8; exact h8)
   have HNEWS:Hid (∀ (j:Nat) (u:Value),([.string x,.slice none 0 0]:List Value)[j]?=some u->(wr.alloc (.cells #[.string x,.slice none 0 0] 48 (0,0))).cell? ((⟨wr.heap.size,0,none⟩ : Addr).add j)=some u):=Lh (zf0 wr [.string x,.slice none 0 0] 48);have HONE:Hid (∀ u∈([.string x,.slice none 0 0]:List Value),u.oneCell'=true):=Lh (by intro u hu; simp only [List.mem_cons,List.not_mem_nil,or_false] at hu; rcases hu with rfl | rfl <;> rfl);have HSZ:Hid (w2.heap.size<=(wr.alloc (.cells #[.string x,.slice none 0 0] 48 (0,0))).heap.size):=Lh (by rw [World.size_alloc]; omega);have HTL:=Lh htl;clear hcell hx hrx b0 htl;go_wp2_with (at_builtin; refine zb1 _ rfl _ _ 36 rfl w2.heap.size 48 _ 2 40 Tryz.underlying36 yn2 rfl (by decide) _ i cells rfl HOWN.out ⟨wr.heap.size,0,none⟩ 1 1 (by decide) [.string x,.slice none 0 0] rfl rfl HNEWS.out HONE.out (by unfold maxLen; omega) (by omega) HSZ.out ?_; intro v' w' hown' hg' hf');have hxS:MemC wr (fun b=>w2.heap.size<=b/\b<wr.heap.size/\(Value.slice AL ((l.take i).map memOf).length cl).ownBlock≠some b) (fun j=>[Value.string x,.slice none 0 0].getD j undef) (memOf x):=⟨rfl,Nat.le_trans HRX.out (Nat.le_refl _),SlS.nil _ _⟩;have hpush:=Els.push (x:=memOf x) MemC.stays hr.out.1 HB0.out hsz hxS (news:=[.string x,.slice none 0 0]) (fun j hj=>rfl) (MemV.cong (Nat.le_refl _)) (by rw [HTL.out]; exact hown') (by rw [HTL.out]; exact hg') (by rw [HTL.out]; exact hf');have htk:(l.take i).map memOf++[memOf x]=(l.take (i+1)).map memOf:=by
    have hil:i<l.length:=by have:=HL.out; omega
    rw [List.take_succ_eq_append_getElem hil,List.map_append];have:l[i]=x:=by have h9:=HXI.out; rw [List.getElem?_eq_getElem hil] at h9; cases h9; rfl
    rw [this]; rfl
   rw [htk] at hpush;have HE2:=Lh hpush.1;have HBB:=Lh (hr.out.2.trans hpush.2);clear hpush htk hxS hown' hg' hf'
   go_roundw
   case rel=>exact ⟨i+1,_,by omega,by simp,Lh ⟨HE2.out,HBB.out⟩⟩
   case measure=>simp [intOf]; omega
  ·have:i=len:=by omega
   subst this;have htk:l.take i=l:=List.take_of_length_le (by have:=HL.out; omega);have hE:=hr.out.1;rw [htk] at hE;have hrd:=hE.read (bytes:=40) MemC.stays (by rw [List.length_map]; have:=HL.out; unfold big; omega);have HRD:=Lh (SlS.kept MemC.stays (w':=wr) (S':=fun b=>w.heap.size<=b/\b<wr.heap.size) hrd (fun _ _=>rfl) (fun b hb=>⟨by have:=hb.1; omega,hb.2⟩));have HP3:=Lh (HP2.out.stay hr.out.2);have HT3:=Lh (HT2.out.step hws (.of hr.out.2));clear hE hrd htl;go_wp2_with fail;go_ret
   refine .inl ⟨_,_,_,_,HV2.out,rfl, ?_,HP3.out,HT3.out⟩
   have h9:=HRD.out;rw [List.length_map, <- HL.out] at h9;exact h9
end Go.Proofs.YtfgelheiknmjgaaGreatDoor

