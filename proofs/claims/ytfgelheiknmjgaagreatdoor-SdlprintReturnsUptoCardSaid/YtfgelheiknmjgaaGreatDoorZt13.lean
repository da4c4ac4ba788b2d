
/-
 Texts joined: E5Arg E7 F1.
-/
import Derived.Test.YtfgelheiknmjgaaGreatDoorZt12
set_option maxRecDepth 1000000
set_option maxHeartbeats 8000000
namespace Go.Proofs.YtfgelheiknmjgaaGreatDoor
open Go.RowKit
theorem infoArg:(Tryz.prog.info? 88).map (fun i=>(i.zero,i.size,i.bytes))=some (some (.agg #[.string ⟨#[]⟩,.int .i64 0,.int .i64 0,.string ⟨#[]⟩,.slice none 0 0,.slice none 0 0]),6,96):=by kernel_rfl
theorem zO6 (q1 q2 p:Nat) (el:List Tk->Except Er ((ByteArray × VT) × List Tk)) (w:World) (hel:∀ (W:World) (ts:List Tk) (m:Nat),Tw p w.heap.size w W->PSt W p ts m->isNm ts=true->Calls Tryz.prog 255 #[.pointer (some ⟨q1,0,none⟩),.pointer (some ⟨q2,0,none⟩)] W (WPost ArgV W p (el ts)))
  (hlt:∀ (ts:List Tk) (x:(ByteArray × VT)) (ts':List Tk),Good ts->isNm ts=true->el ts=.ok (x,ts')->ts'.length<ts.length) (ts:List Tk) (n:Nat) (h:PSt w p ts n) (ca cb:UInt8) (most:Nat) (hm:most<=64) (y:Int) (hy:y=most) :
  Calls Tryz.prog 254 #[pP p,.string ⟨#[ca,cb]⟩,.int .i64 y,.func (.func 160) #[pP p] #[],.func (.func 255) #[] #[.pointer (some ⟨q1,0,none⟩),.pointer (some ⟨q2,0,none⟩)]] w (WPost (SlS 6 96 ArgC) w p (blR [ca] [cb] most el ts)):=by
 have HS:Hid (Calls Tryz.prog 167 #[pP p,.string ⟨#[ca]⟩] w (UPost w p n (sgR [ca] ts))):=Lh (ze5 h ⟨#[ca]⟩);have HV:Hid (blR [ca] [cb] most el ts=exB (sgR [ca] ts) fun ts1=>bls [cb] most el (ts1.length+1) [] ts1):=Lh rfl;have HEL:=Lh hel;have HLT:=Lh hlt;have HY:=Lh hy;have hpw:=h.lt;clear h hel hlt hy;generalize blR [ca] [cb] most el ts=R at *
 go_enter Tryz.func254, Tryz.ntmps254
 go_wp2_with fail
 refine HS.out.mono ?_
 rintro e w1 (⟨ts1,hr,rfl,hp,ht⟩ | ⟨x,hr,rfl,ht⟩);rotate_left
 ·have HV2:Hid (R=.error x):=Lh (by rw [HV.out,za6 hr])
  have HT:=Lh ht;clear hr ht;exact ⟨rfl,.inr ⟨x,HV2.out,rfl,HT.out⟩⟩
 have HV2:Hid (R=bls [cb] most el (ts1.length+1) [] ts1):=Lh (by rw [HV.out,za2 hr]);have HP1:=Lh hp;have HT1:=Lh ht;clear hr hp ht HV HS;go_wp2_with fail
 go_loopw [11] (fun u wr=>∃ (l:List (ByteArray × VT)) (tr:List Tk) (cells:List Value) (f m:Nat),l.length<=most/\Hid (R=bls [cb] most el f l tr/\tr.length<f/\Els 88 6 ArgC wr w.heap.size u cells l/\PSt wr p tr m/\Tw p w.heap.size w wr)) (fun _ wr=>tlen p wr)
 case atStart=>exact ⟨[],ts1,[],_,n,Nat.zero_le _,Lh ⟨HV2.out,Nat.lt_succ_self _,Els.nil _ _ _ _ _,HP1.out,HT1.out⟩⟩
 case round =>
  obtain ⟨l,tr,cells,f,m,hlm,hr⟩:=hrel;obtain ⟨AL,c,hu⟩:=hr.out.2.2.1.slice;subst hu;have hlb:(l.length:Int)<=64:=by omega
  obtain ⟨f',hf'⟩ : ∃ f',f=f'+1:=⟨f-1,by have:=hr.out.2.1; omega⟩;subst hf';obtain ⟨ll,hll⟩ : ∃ ll,ll=l.length:=⟨_,rfl⟩;rw [<- hll] at hlb;have HLL:=Lh hll;have hz:ll=0∨ll≠0:=by omega
  by_cases hdone:ll≠0/\isSg [cb] tr=true
  ·obtain ⟨hz,hsg⟩:=hdone
   have hz0:((ll:Int)==0)=false:=by rw [beq_eq_false_iff_ne]; omega
   have HD:Hid (R=.ok (l,tr.tail)):=Lh (hr.out.1.trans (by rw [zi1,if_pos ⟨by rw [<- HLL.out]; exact hz,hsg⟩]));have HC:=Lh (zb2 hr.out.2.2.2.1 ⟨#[cb]⟩ _ hsg);clear hz hsg hll;rw [<- HLL.out];go_wp2_with fail;refine HC.out.mono ?_
   rintro e w2 ⟨rfl,hp2,ht2⟩;have HP2:Hid (PSt w2 p tr.tail m):=Lh hp2;have HT2:=Lh (hr.out.2.2.2.2.step hr.out.2.2.2.2.size ht2);have HE2:=Lh (hr.out.2.2.1.tw ArgC.stays hpw ht2);clear hp2 ht2;go_wp2_with fail;go_ret
   refine .inl ⟨l,_,_,m,HD.out,rfl, ?_,HP2.out,HT2.out⟩
   have:=HE2.out.read (bytes:=96) ArgC.stays (by have:=HLL.out; unfold big; omega);rw [HLL.out];exact this
  ·have HD:Hid (R=exB (bgR (isNm tr) l.length most tr) fun _=>exB (el tr) fun q=>bls [cb] most el f' (l++[q.1]) q.2):=Lh (hr.out.1.trans (by rw [zi1,if_neg (by rw [<- HLL.out]; exact hdone)]))
   have hwalk:∃ W,W=wr:=⟨_,rfl⟩;have hcase:ll=0∨(ll≠0/\isSg [cb] tr=false):=by
    by_cases h0:ll=0
    ·exact .inl h0
    ·exact .inr ⟨h0,by cases hh:isSg [cb] tr with
      | true=>exact absurd ⟨h0,hh⟩ hdone
      | false=>rfl⟩
   rw [<- hll];clear hz hdone hll hwalk;rcases hcase with hz | ⟨hz,hsg⟩
   focus
    have hz0:((ll:Int)==0)=true:=by rw [hz]; rfl
    have HPC:=Lh hr.out.2.2.2.1;have HTC:Hid (Tw p wr.heap.size wr wr):=Lh (.refl _ _ _);clear hz;go_wp2_with fail
   rotate_left
   focus
    have hz0:((ll:Int)==0)=false:=by rw [beq_eq_false_iff_ne]; omega
    have HC:=Lh (zb2 hr.out.2.2.2.1 ⟨#[cb]⟩ _ hsg);clear hz hsg;go_wp2_with fail;refine HC.out.mono ?_
    rintro e wa ⟨rfl,hp2,ht2⟩;have HPC:Hid (PSt wa p tr m):=Lh hp2;have HTC:=Lh ht2;clear hp2 ht2 HC;go_wp2_with fail
   all_goals
    refine (zg7 HPC.out).mono ?_
    rintro e wb ⟨rfl,hb⟩;have HPB:=Lh (HPC.out.stay hb);have HTB:=Lh (HTC.out.step HTC.out.size (.of hb));clear hb;go_wp2_with fail;refine (zi8 HPB.out (isNm tr) l.length most _ _ (by have:=HLL.out; omega) HY.out).mono ?_
    rintro e wc (⟨hbg,rfl,hb⟩ | ⟨x,hbg,rfl,ht⟩);rotate_left
    ·have HD2:Hid (R=.error x):=Lh (by rw [HD.out,za6 hbg])
     have HT2:=Lh (hr.out.2.2.2.2.step hr.out.2.2.2.2.size (HTB.out.step HTB.out.size ht));clear hbg ht;exact ⟨rfl,.inr ⟨x,HD2.out,rfl,HT2.out⟩⟩
    obtain ⟨hnm,hlm2⟩:=zs5 hbg hlm;have HD2:Hid (R=exB (el tr) fun q=>bls [cb] most el f' (l++[q.1]) q.2):=Lh (by rw [HD.out,za2 hbg]);have HPB2:=Lh (HPB.out.stay hb);have HTB2:=Lh (HTB.out.step HTB.out.size (.of hb));have HNM:=Lh hnm;clear hbg hb hnm;go_wp2_with fail;refine (HEL.out _ tr m (hr.out.2.2.2.2.step hr.out.2.2.2.2.size HTB2.out) HPB2.out HNM.out).mono ?_
    rintro e wd (⟨x,ts',v,m',hre,rfl,hx,hp,ht⟩ | ⟨x,hre,rfl,ht⟩);rotate_left
    ·have HD3:Hid (R=.error x):=Lh (by rw [HD2.out,za6 hre])
     have HT3:=Lh (hr.out.2.2.2.2.step hr.out.2.2.2.2.size (HTB2.out.step HTB2.out.size ht));clear hre ht;exact ⟨rfl,.inr ⟨x,HD3.out,rfl,HT3.out⟩⟩
    have HD3:Hid (R=bls [cb] most el f' (l++[x]) ts'):=Lh (by rw [HD2.out,za2 hre]);have hlt3:=HLT.out tr x ts' HPB2.out.good HNM.out hre;obtain ⟨A,KA,ci,ck,k,li,lk,s,z,rfl,hxc⟩:=hx.shape;have HTD:=Lh (HTB2.out.step HTB2.out.size ht);have hE:=hr.out.2.2.1.tw ArgC.stays hpw HTD.out;have hws:w.heap.size<=wc.heap.size:=Nat.le_trans hr.out.2.2.2.2.size HTB2.out.size;have hwd:wc.heap.size<=wd.heap.size:=ht.size;have hxS:=ArgC.stays.kept (w':=wd) (S':=fun b=>w.heap.size<=b/\b<wd.heap.size/\(Value.slice AL l.length c).ownBlock≠some b) hxc (fun _ _=>rfl) (fun b hb=>⟨by have:=hb.1; omega,hb.2,fun e=>by have h8:=(hr.out.2.2.1.own).lt b e; have h9:=HTB2.out.size; have:=hb.1; omega⟩);have HX:=Lh hxS;have HPD:=Lh hp;have HE:=Lh hE;have b0:Below wd.heap.size wd (wd.alloc (.cells #[.string x.1,.int .i64 k,.int .i64 z,.string s,.slice A li ci,.slice KA lk ck] 88 (0,0))):=za0 _ _;have HB0:=Lh b0;have HOWN:Hid ((wd.alloc (.cells #[.string x.1,.int .i64 k,.int .i64 z,.string s,.slice A li ci,.slice KA lk ck] 88 (0,0))).ownsRow w.heap.size 88 6 (.slice AL ll c) ll cells):=Lh (by
     have h8:=ze9 hE.own (fun g hg=>b0.block g hg);rw [<- HLL.out] at h8; exact h8)
    have HNEWS:Hid (∀ (j:Nat) (u:Value),([.string x.1,.int .i64 k,.int .i64 z,.string s,.slice A li ci,.slice KA lk ck]:List Value)[j]?=some u->(wd.alloc (.cells #[.string x.1,.int .i64 k,.int .i64 z,.string s,.slice A li ci,.slice KA lk ck] 88 (0,0))).cell? ((⟨wd.heap.size,0,none⟩ : Addr).add j)=some u):=Lh (zf0 wd [.string x.1,.int .i64 k,.int .i64 z,.string s,.slice A li ci,.slice KA lk ck] 88);have HONE:Hid (∀ u∈([.string x.1,.int .i64 k,.int .i64 z,.string s,.slice A li ci,.slice KA lk ck]:List Value),u.oneCell'=true):=Lh (by intro u hu; simp only [List.mem_cons,List.not_mem_nil,or_false] at hu; rcases hu with rfl | rfl | rfl | rfl | rfl | rfl <;> rfl);have HSZ:Hid (w.heap.size<=(wd.alloc (.cells #[.string x.1,.int .i64 k,.int .i64 z,.string s,.slice A li ci,.slice KA lk ck] 88 (0,0))).heap.size):=Lh (by rw [World.size_alloc]; omega);clear hre ht hx hxc hp hE hxS b0;go_wp2_with (at_builtin; refine zb1 _ rfl _ _ 83 rfl w.heap.size 88 _ 6 96 Tryz.underlying83 infoArg rfl (by decide) _ ll cells rfl HOWN.out ⟨wd.heap.size,0,none⟩ 1 1 (by decide) [.string x.1,.int .i64 k,.int .i64 z,.string s,.slice A li ci,.slice KA lk ck] rfl rfl HNEWS.out HONE.out (by unfold maxLen; omega) (by omega) HSZ.out ?_; intro v' w' hown' hg' hf');have hpush:=Els.push (x:=x) ArgC.stays HE.out HB0.out (by have:=HSZ.out; omega) HX.out (news:=[.string x.1,.int .i64 k,.int .i64 z,.string s,.slice A li ci,.slice KA lk ck]) (fun j hj=>rfl) (ArgV.cong (Nat.le_refl _)) (by rw [<- HLL.out]; exact hown') (by rw [<- HLL.out]; exact hg') (by rw [<- HLL.out]; exact hf');have HE2:=Lh hpush.1;have HT2:Hid (Tw p w.heap.size w w'):=Lh ((hr.out.2.2.2.2.trans (HTD.out.mono hr.out.2.2.2.2.size)).trans (.of hpush.2));have HP2:=Lh (HPD.out.same (hpush.2.mono (by omega)));clear hpush hown' hg' hf'
    go_roundw
    case rel=>exact ⟨l++[x],ts',_,f',m',by rw [List.length_append,List.length_singleton]; omega,Lh ⟨HD3.out,by have:=hr.out.2.1; omega,HE2.out,HP2.out,HT2.out⟩⟩
    case measure=>rw [HP2.out.tlen,hr.out.2.2.2.1.tlen]; exact hlt3
abbrev whV (p:Nat):Value:=.func (.func 164) #[pP p] #[]
def drs (el:List Tk->Except Er (DirT × List Tk)):Nat->List DirT->List Tk->Except Er (List DirT × List Tk)
 | 0,_,_=>.error (0,99)
 | f+1,l,ts=>if isSg [64] ts=false then .ok (l,ts) else exB (bgR true l.length 16 ts) fun _=>exB (el ts) fun q=>drs el f (l++[q.1]) q.2
theorem zv7 (el:List Tk->Except Er (DirT × List Tk)) (f:Nat) (l:List DirT) (ts:List Tk):drs el (f+1) l ts=if isSg [64] ts=false then .ok (l,ts) else exB (bgR true l.length 16 ts) fun _=>exB (el ts) fun q=>drs el f (l++[q.1]) q.2:=rfl
def drsR (el:List Tk->Except Er (DirT × List Tk)) (ts:List Tk):Except Er (List DirT × List Tk):=drs el (ts.length+1) [] ts
theorem infoDir:(Tryz.prog.info? 85).map (fun i=>(i.zero,i.size,i.bytes))=some (some (.agg #[.string ⟨#[]⟩,.slice none 0 0]),2,40):=by kernel_rfl
theorem zC0 (p:Nat) (el:List Tk->Except Er (DirT × List Tk)) (hel:∀ (W:World) (ts:List Tk) (m:Nat),PSt W p ts m->isSg [64] ts=true->Calls Tryz.prog 202 #[pP p,whV p] W (WPost DirV W p (el ts)))
  (hlt:∀ (ts:List Tk) (x:DirT) (ts':List Tk),Good ts->isSg [64] ts=true->el ts=.ok (x,ts')->ts'.length<ts.length) (w:World) (ts:List Tk) (n:Nat) (h:PSt w p ts n) :
  Calls Tryz.prog 163 #[pP p,whV p] w (WPost DirsC w p (drsR el ts)):=by
 have HV2:Hid (drsR el ts=drs el (ts.length+1) [] ts):=Lh rfl;have HP1:=Lh h;have hpw:=h.lt;have HEL:=Lh hel;have HLT:=Lh hlt;clear h hel hlt;generalize drsR el ts=R at *
 go_enter Tryz.func163, Tryz.ntmps163
 go_wp2_with fail
 go_loopw [5] (fun u wr=>∃ (l:List DirT) (tr:List Tk) (cells:List Value) (f m:Nat),l.length<=16/\Hid (R=drs el f l tr/\tr.length<f/\Els 85 2 DirC wr w.heap.size u cells l/\PSt wr p tr m/\Tw p w.heap.size w wr)) (fun _ wr=>tlen p wr)
 case atStart=>exact ⟨[],ts,[],_,n,Nat.zero_le _,Lh ⟨HV2.out,Nat.lt_succ_self _,Els.nil _ _ _ _ _,HP1.out,.refl _ _ _⟩⟩
 case round =>
  obtain ⟨l,tr,cells,f,m,hlm,hr⟩:=hrel;obtain ⟨AL,c,hu⟩:=hr.out.2.2.1.slice;subst hu;have hlb:(l.length:Int)<=16:=by omega
  obtain ⟨f',hf'⟩ : ∃ f',f=f'+1:=⟨f-1,by have:=hr.out.2.1; omega⟩;subst hf';obtain ⟨ll,hll⟩ : ∃ ll,ll=l.length:=⟨_,rfl⟩;rw [<- hll] at hlb;have HLL:=Lh hll;have hc0:=zg6 hr.out.2.2.2.1 ⟨#[64]⟩
  cases hsg:isSg [64] tr with
  | false =>
    have HD:Hid (R=.ok (l,tr)):=Lh (hr.out.1.trans (by rw [zv7,if_pos hsg]));rw [show isSg (⟨#[64]⟩ : ByteArray).data.toList tr=false from hsg] at hc0;have HC:=Lh hc0;clear hc0 hsg hll;rw [<- HLL.out];go_wp2_with fail;refine HC.out.mono ?_
    rintro e w2 ⟨rfl,hb⟩;have HP2:=Lh (hr.out.2.2.2.1.stay hb);have HT2:=Lh (hr.out.2.2.2.2.step hr.out.2.2.2.2.size (.of hb));have HE2:=Lh (hr.out.2.2.1.tw DirC.stays hpw (.of hb));clear hb;go_wp2_with fail;go_ret
    refine .inl ⟨l,_,_,m,HD.out,rfl, ?_,HP2.out,HT2.out⟩
    have:=HE2.out.read (bytes:=40) DirC.stays (by have:=HLL.out; unfold big; omega);rw [HLL.out];exact this
  | true =>
    have HD:Hid (R=exB (bgR true l.length 16 tr) fun _=>exB (el tr) fun q=>drs el f' (l++[q.1]) q.2):=Lh (hr.out.1.trans (by rw [zv7,if_neg (by rw [hsg]; decide)]));rw [show isSg (⟨#[64]⟩ : ByteArray).data.toList tr=true from hsg] at hc0;have HC:=Lh hc0;have HNM:=Lh hsg;clear hc0 hsg;rw [<- hll];clear hll;go_wp2_with fail;refine HC.out.mono ?_
    rintro e wb ⟨rfl,hb⟩;have HPB:=Lh (hr.out.2.2.2.1.stay hb);have HTB:Hid (Tw p wr.heap.size wr wb):=Lh (.of hb);clear hb;go_wp2_with fail;refine (zi8 HPB.out true l.length 16 _ _ (by have:=HLL.out; omega) rfl).mono ?_
    rintro e wc (⟨hbg,rfl,hb⟩ | ⟨x,hbg,rfl,ht⟩);rotate_left
    ·have HD2:Hid (R=.error x):=Lh (by rw [HD.out,za6 hbg])
     have HT2:=Lh (hr.out.2.2.2.2.step hr.out.2.2.2.2.size (HTB.out.step HTB.out.size ht));clear hbg ht;exact ⟨rfl,.inr ⟨x,HD2.out,rfl,HT2.out⟩⟩
    obtain ⟨hnm,hlm2⟩:=zs5 hbg hlm;have HD2:Hid (R=exB (el tr) fun q=>drs el f' (l++[q.1]) q.2):=Lh (by rw [HD.out,za2 hbg]);have HPB2:=Lh (HPB.out.stay hb);have HTB2:=Lh (HTB.out.step HTB.out.size (.of hb));clear hbg hb hnm;go_wp2_with fail;refine (HEL.out _ tr m HPB2.out HNM.out).mono ?_
    rintro e wd (⟨x,ts',v,m',hre,rfl,hx,hp,ht⟩ | ⟨x,hre,rfl,ht⟩);rotate_left
    ·have HD3:Hid (R=.error x):=Lh (by rw [HD2.out,za6 hre])
     have HT3:=Lh (hr.out.2.2.2.2.step hr.out.2.2.2.2.size (HTB2.out.step HTB2.out.size ht));clear hre ht;exact ⟨rfl,.inr ⟨x,HD3.out,rfl,HT3.out⟩⟩
    have HD3:Hid (R=drs el f' (l++[x]) ts'):=Lh (by rw [HD2.out,za2 hre]);have hlt3:=HLT.out tr x ts' HPB2.out.good HNM.out hre;obtain ⟨A1,d1,rfl,hxc⟩:=hx.shape;have HTD:=Lh (HTB2.out.step HTB2.out.size ht);have hE:=hr.out.2.2.1.tw DirC.stays hpw HTD.out;have hws:w.heap.size<=wc.heap.size:=Nat.le_trans hr.out.2.2.2.2.size HTB2.out.size;have hwd:wc.heap.size<=wd.heap.size:=ht.size;have hxS:=DirC.stays.kept (w':=wd) (S':=fun b=>w.heap.size<=b/\b<wd.heap.size/\(Value.slice AL l.length c).ownBlock≠some b) hxc (fun _ _=>rfl) (fun b hb=>⟨by have:=hb.1; omega,hb.2,fun e=>by have h8:=(hr.out.2.2.1.own).lt b e; have h9:=HTB2.out.size; have:=hb.1; omega⟩);have HX:=Lh hxS;have HPD:=Lh hp;have HE:=Lh hE;have b0:Below wd.heap.size wd (wd.alloc (.cells #[.string x.name,.slice A1 x.args.length d1] 85 (0,0))):=za0 _ _;have HB0:=Lh b0;have HOWN:Hid ((wd.alloc (.cells #[.string x.name,.slice A1 x.args.length d1] 85 (0,0))).ownsRow w.heap.size 85 2 (.slice AL ll c) ll cells):=Lh (by
     have h8:=ze9 hE.own (fun g hg=>b0.block g hg);rw [<- HLL.out] at h8; exact h8)
    have HNEWS:Hid (∀ (j:Nat) (u:Value),([.string x.name,.slice A1 x.args.length d1]:List Value)[j]?=some u->(wd.alloc (.cells #[.string x.name,.slice A1 x.args.length d1] 85 (0,0))).cell? ((⟨wd.heap.size,0,none⟩ : Addr).add j)=some u):=Lh (zf0 wd [.string x.name,.slice A1 x.args.length d1] 85);have HONE:Hid (∀ u∈([.string x.name,.slice A1 x.args.length d1]:List Value),u.oneCell'=true):=Lh (by intro u hu; simp only [List.mem_cons,List.not_mem_nil,or_false] at hu; rcases hu with rfl | rfl <;> rfl);have HSZ:Hid (w.heap.size<=(wd.alloc (.cells #[.string x.name,.slice A1 x.args.length d1] 85 (0,0))).heap.size):=Lh (by rw [World.size_alloc]; omega);clear hre ht hx hxc hp hE hxS b0;go_wp2_with (at_builtin; refine zb1 _ rfl _ _ 34 rfl w.heap.size 85 _ 2 40 Tryz.underlying34 infoDir rfl (by decide) _ ll cells rfl HOWN.out ⟨wd.heap.size,0,none⟩ 1 1 (by decide) [.string x.name,.slice A1 x.args.length d1] rfl rfl HNEWS.out HONE.out (by unfold maxLen; omega) (by omega) HSZ.out ?_; intro v' w' hown' hg' hf');have hpush:=Els.push (x:=x) DirC.stays HE.out HB0.out (by have:=HSZ.out; omega) HX.out (news:=[.string x.name,.slice A1 x.args.length d1]) (fun j hj=>rfl) (DirV.cong (Nat.le_refl _)) (by rw [<- HLL.out]; exact hown') (by rw [<- HLL.out]; exact hg') (by rw [<- HLL.out]; exact hf');have HE2:=Lh hpush.1;have HT2:Hid (Tw p w.heap.size w w'):=Lh ((hr.out.2.2.2.2.trans (HTD.out.mono hr.out.2.2.2.2.size)).trans (.of hpush.2));have HP2:=Lh (HPD.out.same (hpush.2.mono (by omega)));clear hpush hown' hg' hf'
    go_roundw
    case rel=>exact ⟨l++[x],ts',_,f',m',by rw [List.length_append,List.length_singleton]; omega,Lh ⟨HD3.out,by have:=hr.out.2.1; omega,HE2.out,HP2.out,HT2.out⟩⟩
    case measure=>rw [HP2.out.tlen,hr.out.2.2.2.1.tlen]; exact hlt3
theorem en_dirs:∀ (args:Array Value) (w:World),(callFunc 163 args).run Tryz.prog w=.ok (.enter 163 args) w:=enters_of Tryz.func163 (by kernel_rfl) rfl
theorem WPost.up {α:Type} {k bytes:Nat} {R:RelS α} (hR:StayS R) {W w w':World} {p:Nat} {r:Except Er (List α × List Tk)} {e:Ending} (hb:Below W.heap.size W w) (h:WPost (SlS k bytes R) w p r e w'):WPost (SlS k bytes R) W p r e w':=by
 have hs:=hb.size;rcases h with ⟨x,ts,v,m,hr,he,hx,hp,ht⟩ | ⟨z,hr,he,ht⟩
 ·exact .inl ⟨x,ts,v,m,hr,he,SlS.kept hR hx (fun _ _=>rfl) (fun b hb2=>⟨by have:=hb2.1; omega,hb2.2⟩),hp,(Tw.of hb:Tw p _ W w).step hs ht⟩
 ·exact .inr ⟨z,hr,he,(Tw.of hb:Tw p _ W w).step hs ht⟩
theorem congr2a {x0 x1 y0 y1:Value} (h0:x0=y0) (h1:x1=y1):(#[x0,x1]:Array Value)=#[y0,y1]:=by rw [h0,h1]
abbrev yp2:Array Oper :=
 #[{ dst:=some 3,op:=.move (.tmp 0),type := 102,pos := "parser.go:37",after:=#[],guard:=none },
  { dst:=some 4,op:=.nilCheck (.tmp 3),type:=0,pos := "parser.go:37",after:=#[{ on:=0,ground:=.data }],guard:=none },
  { dst:=some 5,op:=.fieldAddr 67 (.tmp 4) 0,type:=0,pos := "parser.go:37",after:=#[{ on:=1,ground:=.data }],guard:=none },
  { dst:=some 6,op:=.move (.tmp 0),type := 102,pos := "parser.go:37",after:=#[],guard:=none },
  { dst:=some 7,op:=.nilCheck (.tmp 6),type:=0,pos := "parser.go:37",after:=#[{ on:=3,ground:=.data }],guard:=none },
  { dst:=some 8,op:=.fieldAddr 67 (.tmp 7) 0,type:=0,pos := "parser.go:37",after:=#[{ on:=4,ground:=.data }],guard:=none },
  { dst:=some 9,op:=.makeFunc (Fn.func 164) #[.tmp 8] #[],type := 185,pos := "parser.go:37",after:=#[{ on:=5,ground:=.data }],guard:=none },
  { dst:=some 10,op:=.call { callee:=.value (.func 163),args:=#[.tmp 5,.tmp 9],argTypes:=#[65, 185] },type := 34,pos := "parser.go:37",after:=#[{ on:=2,ground:=.data }, { on:=6,ground:=.data }],guard:=none },
  { dst:=some 2,op:=.assign (.tmp 10),type := 34,pos := "parser.go:37",after:=#[{ on:=7,ground:=.data }, { on:=7,ground:=.chain }, { on:=0,ground:=.phase }, { on:=1,ground:=.phase }, { on:=2,ground:=.phase }, { on:=3,ground:=.phase }, { on:=4,ground:=.phase }, { on:=5,ground:=.phase }, { on:=6,ground:=.phase }, { on:=7,ground:=.phase }],guard:=none }]
theorem drwr {Q:Exit->Act->World->Prop} {id:Nat} {a0:Act} {W:World} {p:Nat} {R:Except Er (List DirT × List Tk)} (hB:∀ w,Below W.heap.size W w->Calls Tryz.prog 163 #[pP p,whV p] w (WPost DirsC w p R)) (hb:K.dstB yp2 a0.tmps.size 9=true) (s0:a0.tmps.getD 0 undef=pP p)
  (hok:∀ (f:Nat->Value) (w':World),(fun v w'=>WPost DirsC W p R (.returned v) w') (f 10) w'->f 2=f 10->Q .normal (K.over a0 [3,4,5,6,7,8,9,10,2] f) w') (her:∀ (a:Act) (w':World) (z:Er),a.defers=a0.defers->WPost DirsC W p R (badV z) w'->Q (.panic (malP z)) a w') :
  (Code.region id yp2 true).wp Tryz.prog Q a0 W:=by
 refine K.zd1 (by kernel_rfl) (by kernel_rfl) hb 7 (by kernel_rfl) (by decide) (by decide) (fun o ho=>by cases ho; exact ⟨⟨7,.data⟩,by simp,rfl,rfl⟩) [K.Fact.is (pP p),K.Fact.is (pP p),K.Fact.is (pP p),K.Fact.is (pP p),K.Fact.is (pP p),K.Fact.is (pP p),K.Fact.is (whV p)] (fun v w'=>WPost DirsC W p R (.returned v) w') ?_ ?_ (fun o ho a w hf hC=>by cases ho; exact zu0 rfl (.tmp 10) rfl rfl ⟨rfl,rfl⟩) ?_
 ·intro i o ho hi a w hf hbl had
  have hc:i=0∨i=1∨i=2∨i=3∨i=4∨i=5∨i=6:=by omega
  rcases hc with rfl | rfl | rfl | rfl | rfl | rfl | rfl
  ·cases ho
   have h0:a.tmps.getD 0 undef=pP p:=(hf.slot 0 (by kernel_rfl)).trans s0;exact zb9 rfl (.tmp 0) rfl h0 ⟨Below.refl _ _,rfl⟩
  ·cases ho
   have h3:K.vof _ a 0=pP p:=had ⟨0,.data⟩ (by simp) rfl;exact zm7 rfl (.tmp 3) rfl h3 ⟨Below.refl _ _,rfl⟩
  ·cases ho
   have h4:K.vof _ a 1=pP p:=had ⟨1,.data⟩ (by simp) rfl;exact zp1 rfl (.tmp 4) rfl h4 ⟨Below.refl _ _,rfl⟩
  ·cases ho
   have h0:a.tmps.getD 0 undef=pP p:=(hf.slot 0 (by kernel_rfl)).trans s0;exact zb9 rfl (.tmp 0) rfl h0 ⟨Below.refl _ _,rfl⟩
  ·cases ho
   have h6:K.vof _ a 3=pP p:=had ⟨3,.data⟩ (by simp) rfl;exact zm7 rfl (.tmp 6) rfl h6 ⟨Below.refl _ _,rfl⟩
  ·cases ho
   have h7:K.vof _ a 4=pP p:=had ⟨4,.data⟩ (by simp) rfl;exact zp1 rfl (.tmp 7) rfl h7 ⟨Below.refl _ _,rfl⟩
  ·cases ho
   have h8:K.vof _ a 5=pP p:=had ⟨5,.data⟩ (by simp) rfl;exact rp_mk rfl 164 (.tmp 8) rfl h8 ⟨Below.refl _ _,rfl⟩
 ·intro o ho a w hf hbl hF
  cases ho
  have h2:K.vof _ a 2=pP p:=hF 2 (by omega);have h6:K.vof _ a 6=whV p:=hF 6 (by omega);refine ze7 rfl _ _ _ rfl en_dirs #[pP p,whV p] (by rw [K.map2]; exact congr2a h2 h6) ((hB w hbl).mono fun e w' hw=>?_)
  have hw2:=WPost.up DirC.stays hbl hw;rcases hw with ⟨x,ts,v,m,hr,he,_⟩ | ⟨z,hr,he,ht⟩
  ·subst he; exact .inl ⟨v,rfl,hw2⟩
  ·subst he; exact .inr ⟨malP z,rfl,her a w' z hf.1 hw2⟩
 ·intro a w hf hC h1
  rw [K.zg2 hf [3,4,5,6,7,8,9,10,2] (by kernel_rfl)];exact hok (fun d=>a.tmps.getD d undef) w hC (h1 (by decide))
theorem zb7 (p:Nat) (el:List Tk->Except Er (DirT × List Tk)) (hel:∀ (W:World) (ts:List Tk) (m:Nat),PSt W p ts m->isSg [64] ts=true->Calls Tryz.prog 202 #[pP p,whV p] W (WPost DirV W p (el ts)))
  (hlt:∀ (ts:List Tk) (x:DirT) (ts':List Tk),Good ts->isSg [64] ts=true->el ts=.ok (x,ts')->ts'.length<ts.length) (w:World) (ts:List Tk) (n:Nat) (h:PSt w p ts n) :
  Calls Tryz.prog 114 #[pP p] w (WPost DirsC w p (drsR el ts)):=by
 have HB:=Lh (fun (W:World) (hb:Below w.heap.size w W)=>zC0 p el hel hlt W ts n (h.stay hb));clear h hel hlt
 go_enter Tryz.func114, Tryz.ntmps114
 go_wp2_with fail
 refine drwr HB.out (by kernel_rfl) rfl ?_ fun a w' z hd hz=>⟨hd.trans rfl,hz⟩
 intro f w' hC h8;simp only [K.over,List.foldl_cons,List.foldl_nil,Act.put,List.setIfInBounds_toArray,List.set_cons_succ,List.set_cons_zero];rw [h8];clear h8;generalize f 10=v10 at *;generalize f 3=u3 at *;generalize f 4=u4 at *;generalize f 5=u5 at *;generalize f 6=u6 at *;generalize f 7=u7 at *;generalize f 8=u8 at *;generalize f 9=u9 at *;go_wp2_with fail;exact bodyPost_ret (v:=v10) (by simp [results,Tryz.results114,go_sem]) rfl hC
def dirP (ael:List Tk->Except Er ((ByteArray × VT) × List Tk)) (ts:List Tk):Except Er (DirT × List Tk):=exB (sgR [64] ts) fun ts1=>exB (nmR ts1) fun q=>if isSg [40] q.2=true then exB (blR [40] [41] 16 ael q.2) fun r=>.ok (⟨q.1,r.1⟩,r.2) else .ok (⟨q.1,[]⟩,q.2)
def argsP (ael:List Tk->Except Er ((ByteArray × VT) × List Tk)) (ts:List Tk):Except Er (List (ByteArray × VT) × List Tk):=if isSg [40] ts=true then blR [40] [41] 16 ael ts else .ok ([],ts)
theorem dirP_eq (ael:List Tk->Except Er ((ByteArray × VT) × List Tk)) (ts:List Tk):dirP ael ts=exB (sgR [64] ts) fun ts1=>exB (nmR ts1) fun q=>exB (argsP ael q.2) fun r=>.ok (⟨q.1,r.1⟩,r.2):=by
 unfold dirP argsP
 congr 1; funext ts1; congr 1; funext q
 split <;> rfl
theorem Bk.o2 {W:World} {b:Nat} {c0 c1:Value} {T:TypeId} (h:Bk W b #[c0,c1] T):W.cell? ⟨b,0,none⟩=some c0/\W.cell? ⟨b,1,none⟩=some c1/\∀ i,W.frozen? ⟨b,i,none⟩=false:=⟨h.cell 0 _ rfl,h.cell 1 _ rfl,h.frz⟩
theorem Bk.o5 {W:World} {b:Nat} {c0 c1 c2 c3 c4:Value} {T:TypeId} (h:Bk W b #[c0,c1,c2,c3,c4] T):W.cell? ⟨b,0,none⟩=some c0/\W.cell? ⟨b,1,none⟩=some c1/\W.cell? ⟨b,2,none⟩=some c2/\W.cell? ⟨b,3,none⟩=some c3/\W.cell? ⟨b,4,none⟩=some c4/\∀ i,W.frozen? ⟨b,i,none⟩=false:=⟨h.cell 0 _ rfl,h.cell 1 _ rfl,h.cell 2 _ rfl,h.cell 3 _ rfl,h.cell 4 _ rfl,h.frz⟩
theorem Bk.o6 {W:World} {b:Nat} {c0 c1 c2 c3 c4 c5:Value} {T:TypeId} (h:Bk W b #[c0,c1,c2,c3,c4,c5] T):W.cell? ⟨b,0,none⟩=some c0/\W.cell? ⟨b,1,none⟩=some c1/\W.cell? ⟨b,2,none⟩=some c2/\W.cell? ⟨b,3,none⟩=some c3/\W.cell? ⟨b,4,none⟩=some c4/\W.cell? ⟨b,5,none⟩=some c5/\∀ i,W.frozen? ⟨b,i,none⟩=false:=⟨h.cell 0 _ rfl,h.cell 1 _ rfl,h.cell 2 _ rfl,h.cell 3 _ rfl,h.cell 4 _ rfl,h.cell 5 _ rfl,h.frz⟩
theorem Bk.o7 {W:World} {b:Nat} {c0 c1 c2 c3 c4 c5 c6:Value} {T:TypeId} (h:Bk W b #[c0,c1,c2,c3,c4,c5,c6] T):W.cell? ⟨b,0,none⟩=some c0/\W.cell? ⟨b,1,none⟩=some c1/\W.cell? ⟨b,2,none⟩=some c2/\W.cell? ⟨b,3,none⟩=some c3/\W.cell? ⟨b,4,none⟩=some c4/\W.cell? ⟨b,5,none⟩=some c5/\W.cell? ⟨b,6,none⟩=some c6/\∀ i,W.frozen? ⟨b,i,none⟩=false:=⟨h.cell 0 _ rfl,h.cell 1 _ rfl,h.cell 2 _ rfl,h.cell 3 _ rfl,h.cell 4 _ rfl,h.cell 5 _ rfl,h.cell 6 _ rfl,h.frz⟩
theorem Bk.o10 {W:World} {b:Nat} {c0 c1 c2 c3 c4 c5 c6 c7 c8 c9:Value} {T:TypeId} (h:Bk W b #[c0,c1,c2,c3,c4,c5,c6,c7,c8,c9] T):W.cell? ⟨b,0,none⟩=some c0/\W.cell? ⟨b,1,none⟩=some c1/\W.cell? ⟨b,2,none⟩=some c2/\W.cell? ⟨b,3,none⟩=some c3/\W.cell? ⟨b,4,none⟩=some c4/\W.cell? ⟨b,5,none⟩=some c5/\W.cell? ⟨b,6,none⟩=some c6/\W.cell? ⟨b,7,none⟩=some c7/\W.cell? ⟨b,8,none⟩=some c8/\W.cell? ⟨b,9,none⟩=some c9/\∀ i,W.frozen? ⟨b,i,none⟩=false:=⟨h.cell 0 _ rfl,h.cell 1 _ rfl,h.cell 2 _ rfl,h.cell 3 _ rfl,h.cell 4 _ rfl,h.cell 5 _ rfl,h.cell 6 _ rfl,h.cell 7 _ rfl,h.cell 8 _ rfl,h.cell 9 _ rfl,h.frz⟩
theorem hpn {W:World} {b g i:Nat} {u:Value} (h:b≠g):(W.setCell ⟨g,i,none⟩ u).heap[b]?=W.heap[b]?:=Below.heap_setCell _ _ _ _ h
theorem bsc {N g i:Nat} {a W:World} {u:Value} (h:Below N a W) (hg:N<=g):Below N a (W.setCell ⟨g,i,none⟩ u):=h.setCell (p:=⟨g,i,none⟩) hg u
theorem yh5 {W W':World} {b p:Nat} {v:Value} {T:TypeId} (h:Bk W b #[v] T) (ht:Tw p W.heap.size W W') (hne:b≠p):W'.cell? ⟨b,0,none⟩=some v:=(h.far ht hne).cell 0 _ rfl
theorem zD2 (p:Nat) (ael:List Tk->Except Er ((ByteArray × VT) × List Tk)) (hel:∀ (q1 q2:Nat) (W:World) (ts:List Tk) (m:Nat),(∀ W',Tw p W.heap.size W W'->W'.cell? ⟨q1,0,none⟩=some (pP p)/\W'.cell? ⟨q2,0,none⟩=some (whV p))->PSt W p ts m->isNm ts=true->Calls Tryz.prog 255 #[.pointer (some ⟨q1,0,none⟩),.pointer (some ⟨q2,0,none⟩)] W (WPost ArgV W p (ael ts)))
  (hlt:∀ (ts:List Tk) (x:ByteArray × VT) (ts':List Tk),Good ts->isNm ts=true->ael ts=.ok (x,ts')->ts'.length<ts.length) (w:World) (ts:List Tk) (n:Nat) (h:PSt w p ts n) :
  Calls Tryz.prog 234 #[pP p,whV p] w (WPost ArgsC w p (argsP ael ts)):=by
 have hpw:=h.lt;have hB1:Below w.heap.size w ((w.alloc (.cells #[pP p] 146 (0,0))).alloc (.cells #[whV p] 185 (0,0))):=((Below.refl _ _).alloc (Nat.le_refl _) _).alloc (by simp) _;have hq1:Bk ((w.alloc (.cells #[pP p] 146 (0,0))).alloc (.cells #[whV p] 185 (0,0))) w.heap.size #[pP p] 146 := (Bk.new w #[pP p] 146).stay (za0 _ _);have hq2:Bk ((w.alloc (.cells #[pP p] 146 (0,0))).alloc (.cells #[whV p] 185 (0,0))) (w.heap.size+1) #[whV p] 185 := by
  have:=Bk.new (w.alloc (.cells #[pP p] 146 (0,0))) #[whV p] 185
  rwa [World.size_alloc] at this
 have HP1:=Lh (h.stay hB1);have HB1:=Lh hB1;have HQ1:=Lh hq1;have HQ2:=Lh hq2;have HEL:=Lh hel;have HLT:=Lh hlt;have hmf:∀ (fn:Fn) (first cap:Array Value) (w:World),(Instr.makeFunc fn first cap).run Tryz.prog w=.ok (.func fn first cap) w:=fun _ _ _ _=>rfl;have HV:Hid (argsP ael ts=if isSg [40] ts=true then blR [40] [41] 16 ael ts else .ok ([],ts)):=Lh rfl;clear h hel hlt hB1;generalize argsP ael ts=R at *;have c1:=hq1.cell 0 _ rfl;clear hq1 hq2
 go_enter Tryz.func234, Tryz.ntmps234
 go_wp2_with fail
 have hc:=zg6 HP1.out ⟨#[40]⟩;clear c1
 cases hsg:isSg [40] ts with
 | false =>
   rw [show isSg (⟨#[40]⟩ : ByteArray).data.toList ts=false from hsg] at hc;refine hc.mono ?_;clear hc;rintro e wb ⟨rfl,hb⟩;have HV2:=Lh (HV.out.trans (if_neg (by rw [hsg]; decide)));have HPB:=Lh (HP1.out.stay hb);have HBB:=Lh (HB1.out.trans (hb.mono HB1.out.size));clear hb hsg;go_wp2_with fail;go_ret
   exact .inl ⟨[],_,_,_,HV2.out,rfl,SlS.nil _ _,HPB.out,.of HBB.out⟩
 | true =>
   rw [show isSg (⟨#[40]⟩ : ByteArray).data.toList ts=true from hsg] at hc;refine hc.mono ?_;clear hc;rintro e wb ⟨rfl,hb⟩;have HV2:=Lh (HV.out.trans (if_pos hsg));have HPB:=Lh (HP1.out.stay hb);have HBB:=Lh (HB1.out.trans (hb.mono HB1.out.size));have K1:=Lh (HQ1.out.stay hb);have K2:=Lh (HQ2.out.stay hb);have c1:=K1.out.cell 0 _ rfl;clear hb hsg;go_wp2_with fail;clear c1;refine (zO6 w.heap.size (w.heap.size+1) p ael wb (fun W tr m hT hP hn=>HEL.out _ _ W tr m (fun W' hW'=>⟨yh5 K1.out (hT.step hT.size hW') (by omega),yh5 K2.out (hT.step hT.size hW') (by omega)⟩) hP hn) HLT.out ts n HPB.out 40 41 16 (by omega) 16 rfl).mono ?_;have hs:=HBB.out.size;rintro e w5 (⟨args,ts5,v5,m5,hr,rfl,hx,hp,ht⟩ | ⟨x,hr,rfl,ht⟩);rotate_left
   ·exact ⟨rfl,.inr ⟨_,HV2.out.trans hr,rfl,(Tw.of HBB.out:Tw p _ w wb).step hs ht⟩⟩
   obtain ⟨A1,d1,hv1,_,_⟩:=hx.form;subst hv1;have HX:Hid (ArgsC w5 (fun b=>w.heap.size<=b/\b<w5.heap.size) (.slice A1 args.length d1) args):=Lh (SlS.kept ArgC.stays hx (fun _ _=>rfl) (fun b hb=>⟨by have:=hb.1; omega,hb.2⟩));have HR:=Lh hr;have HPZ:=Lh hp;have HTZ:=Lh ((Tw.of HBB.out:Tw p _ w wb).step hs ht);clear hr hx hp ht;generalize args.length=la at *;go_wp2_with fail;go_ret
   exact .inl ⟨args,_,_,_,HV2.out.trans HR.out,rfl,HX.out,HPZ.out,HTZ.out⟩
theorem zD1 (p:Nat) (ael:List Tk->Except Er ((ByteArray × VT) × List Tk)) (har:∀ (W:World) (ts:List Tk) (m:Nat),PSt W p ts m->Calls Tryz.prog 234 #[pP p,whV p] W (WPost ArgsC W p (argsP ael ts))) (w:World) (ts:List Tk) (n:Nat) (h:PSt w p ts n) :
  Calls Tryz.prog 202 #[pP p,whV p] w (WPost DirV w p (dirP ael ts)):=by
 have HAR:=Lh har;clear har;have HD0:Hid (dirP ael ts=dirP ael ts):=Lh rfl;have hpw:=h.lt;have hhp:p≠w.heap.size:=by omega
 have HP0:Hid (PSt (w.alloc (.cells #[.string ⟨#[]⟩,.slice none 0 0] 85 (0,0))) p ts n):=Lh (h.stay (za0 _ _));have HR0:Hid (Bk (w.alloc (.cells #[.string ⟨#[]⟩,.slice none 0 0] 85 (0,0))) w.heap.size #[.string ⟨#[]⟩,.slice none 0 0] 85):=Lh (Bk.new _ _ _);have HT0:Hid (Tw p w.heap.size w (w.alloc (.cells #[.string ⟨#[]⟩,.slice none 0 0] 85 (0,0)))):=Lh (.of (za0 _ _));have hsz0:w.heap.size<(w.alloc (.cells #[.string ⟨#[]⟩,.slice none 0 0] 85 (0,0))).heap.size:=by simp
 clear h;have HDU:Hid (dirP ael ts=exB (sgR [64] ts) fun ts1=>exB (nmR ts1) fun q=>exB (argsP ael q.2) fun r=>.ok (⟨q.1,r.1⟩,r.2)):=Lh (dirP_eq ael ts);replace HD0:=HDU;clear HDU;generalize dirP ael ts=R at *
 go_enter Tryz.func202, Tryz.ntmps202
 go_wp2_with fail
 refine (ze5 HP0.out ⟨#[64]⟩).mono ?_
 rintro e w1 (⟨ts1,hr,rfl,hp,ht⟩ | ⟨x,hr,rfl,ht⟩);rotate_left
 ·exact ⟨rfl,.inr ⟨_,HD0.out.trans (za6 hr),rfl,HT0.out.step HT0.out.size ht⟩⟩
 have HD1:=Lh (HD0.out.trans (za2 hr));have HT1:=Lh (HT0.out.step HT0.out.size ht);have HR1:=Lh (HR0.out.far ht (by omega));have hsz1:w.heap.size<w1.heap.size:=Nat.lt_of_lt_of_le hsz0 ht.size;have HP1:=Lh hp;clear hr hp ht;go_wp2_with fail;refine (zd6 HP1.out).mono ?_
 rintro e w2 (⟨nm,ts2,v,hr,rfl,⟨rfl,hnz⟩,hp,ht⟩ | ⟨x,hr,rfl,ht⟩);rotate_left
 ·exact ⟨rfl,.inr ⟨_,HD1.out.trans (za6 hr),rfl,HT1.out.step HT1.out.size ht⟩⟩
 have HD2:=Lh (HD1.out.trans (za2 hr));have HT2:=Lh (HT1.out.step HT1.out.size ht);have HR2:=Lh (HR1.out.far ht (by omega));have hsz2:w.heap.size<w2.heap.size:=Nat.lt_of_lt_of_le hsz1 ht.size;have HP2:=Lh hp;have HN:=Lh hnz;clear hr hp ht hnz;go_wp2_with fail;have ht:Tw p w2.heap.size w2 (w2.alloc (.cells #[.string nm,.slice none 0 0] 85 (0,0))):=.of (za0 _ _);have hlv:w.heap.size<w2.heap.size:=hsz2;have hlp:p≠w2.heap.size:=by omega
 have hlv2:w2.heap.size<(w2.alloc (.cells #[.string nm,.slice none 0 0] 85 (0,0))).heap.size:=by simp
 have HT3:=Lh (HT2.out.step HT2.out.size ht);have HR3:=Lh (HR2.out.far ht (by omega));have HV3:Hid (Bk (w2.alloc (.cells #[.string nm,.slice none 0 0] 85 (0,0))) w2.heap.size #[.string nm,.slice none 0 0] 85):=Lh (Bk.new _ _ _);have HP3:=Lh (HP2.out.stay (za0 w2 (.cells #[.string nm,.slice none 0 0] 85 (0,0))));have hsz3:w.heap.size<(w2.alloc (.cells #[.string nm,.slice none 0 0] 85 (0,0))).heap.size:=by simp; omega
 clear ht;go_wp2_with fail;have hlw4:w2.heap.size<(w2.alloc (.cells #[.string nm,.slice none 0 0] 85 (0,0))).heap.size:=hlv2;refine (HAR.out _ _ _ HP3.out).mono ?_;rintro e w4 (⟨args,ts4,v4,m4,hr,rfl,hx,hp,ht⟩ | ⟨x,hr,rfl,ht⟩);rotate_left
 ·exact ⟨rfl,.inr ⟨_,HD2.out.trans (za6 hr),rfl,HT3.out.step HT3.out.size ht⟩⟩
 have HD3:=Lh (HD2.out.trans (za2 hr));have HT4:=Lh (HT3.out.step HT3.out.size ht);have HR4:=Lh (HR3.out.far ht (by omega));have HV4:=Lh (HV3.out.far ht (by have:=hlv; omega));have hsz4:w.heap.size<w4.heap.size:=Nat.lt_of_lt_of_le hsz3 ht.size;replace hlv2:=Nat.lt_of_lt_of_le hlv2 ht.size;have HP4:=Lh hp;have hlo4:(w2.alloc (.cells #[.string nm,.slice none 0 0] 85 (0,0))).heap.size<=w4.heap.size:=ht.size;obtain ⟨A1,d1,hv1,_,_⟩:=hx.form;subst hv1;have HX:=Lh hx;clear hr hp ht hx;obtain ⟨x0,x1,fx⟩:=HV4.out.o2;obtain ⟨y0,y1,fy⟩:=HR4.out.o2;have hne:w.heap.size≠w2.heap.size:=by omega
 have hne2:w2.heap.size≠w.heap.size:=by omega
 go_wp2_with fail
 clear x0 x1 fx;clear y0 y1 fy;obtain ⟨wg5,hW⟩ : ∃ x,x=(w4.setCell ⟨w2.heap.size,1,none⟩ (.slice A1 args.length d1)):=⟨_,rfl⟩;rw [<- hW];have HT5:Hid (Tw p w.heap.size w wg5):=Lh (by rw [hW]; exact (HT4.out.setNew (by omega) _ _));have HR5:Hid (Bk wg5 w.heap.size #[.string ⟨#[]⟩,.slice none 0 0] 85):=Lh (by rw [hW]; exact (HR4.out.off (by omega) _ _));have HV5:Hid (Bk wg5 w2.heap.size #[.string nm,.slice A1 args.length d1] 85):=Lh (by rw [hW]; exact (HV4.out.setl _ _));have HP5:=Lh (HP4.out.same (w':=wg5) (by rw [hW]; exact (bsc (Below.refl (p+1) w4) (by omega))));have hse5:wg5.heap.size=w4.heap.size:=by rw [hW]; simp [World.setCell]
 have hsz5:w.heap.size<wg5.heap.size:=by omega
 replace HX:=Lh (SlS.kept ArgC.stays HX.out (w':=wg5) (S':=fun b=>(w2.alloc (.cells #[.string nm,.slice none 0 0] 85 (0,0))).heap.size<=b/\b<wg5.heap.size) (fun b hb=>by rw [hW]; simp only [hpn (show b≠w2.heap.size by have:=hb.1; omega)]) (fun b hb=>⟨hb.1,by rw [hse5]; exact hb.2⟩));replace hlv2:w2.heap.size<wg5.heap.size:=by omega
 clear hW;obtain ⟨wz,hW⟩ : ∃ x,x=((wg5.setCell ⟨w.heap.size,0,none⟩ (.string nm)).setCell ⟨w.heap.size,1,none⟩ (.slice A1 args.length d1)):=⟨_,rfl⟩;rw [<- hW];have HZ:Hid (Bk wz w.heap.size #[.string nm,.slice A1 args.length d1] 85):=Lh (by rw [hW]; exact ((HR5.out.setl _ _).setl _ _));have HTZ:Hid (Tw p w.heap.size w wz):=Lh (by rw [hW]; exact ((HT5.out.setNew (Nat.le_refl _) _ _).setNew (Nat.le_refl _) _ _));have HPZ:=Lh (HP5.out.same (w':=wz) (by rw [hW]; exact (bsc (bsc (Below.refl (p+1) wg5) (by omega)) (by omega))));have hsez:wz.heap.size=wg5.heap.size:=by rw [hW]; simp [World.setCell]
 replace HX:=Lh (SlS.kept ArgC.stays HX.out (w':=wz) (S':=fun b=>w.heap.size<=b/\b<wz.heap.size) (fun b hb=>by rw [hW]; simp only [hpn (show b≠w.heap.size by have:=hb.1; omega)]) (fun b hb=>⟨by have:=hb.1; omega,by rw [hsez]; exact hb.2⟩));obtain ⟨z0,z1,_⟩:=HZ.out.o2;clear hW;exact bodyPost_ret (v:=.agg #[.string nm,.slice A1 args.length d1]) (by simp [results,Tryz.results202,go_sem,z0,z1]) rfl (.inl ⟨⟨nm,args⟩,_,_,_,HD3.out,rfl,⟨_,_,rfl,⟨rfl,Nat.le_trans HN.out (by decide),HX.out⟩⟩,HPZ.out,HTZ.out⟩)
end Go.Proofs.YtfgelheiknmjgaaGreatDoor

