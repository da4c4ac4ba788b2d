
/-
 Texts joined: E5Inp E5w.
-/
import Derived.Test.YtfgelheiknmjgaaGreatDoorZt14
set_option maxRecDepth 1000000
set_option maxHeartbeats 8000000
namespace Go.Proofs.YtfgelheiknmjgaaGreatDoor
open Go.RowKit
theorem infoInp:(Tryz.prog.info? 55).map (fun i=>(i.zero,i.size,i.bytes))=some (some (.agg #[.string ⟨#[]⟩,.string ⟨#[]⟩,.slice none 0 0,.bool false,.int .i64 0,.int .i64 0,.string ⟨#[]⟩,.slice none 0 0,.slice none 0 0,.slice none 0 0]),10,168):=by kernel_rfl
theorem zO4 (p:Nat) (el:List Tk->Except Er (InpT × List Tk)) (hel:∀ (W:World) (ts:List Tk) (m:Nat),PSt W p ts m->isNm ts=true->Calls Tryz.prog 121 #[pP p] W (WPost InpV W p (el ts)))
  (hlt:∀ (ts:List Tk) (x:InpT) (ts':List Tk),Good ts->isNm ts=true->el ts=.ok (x,ts')->ts'.length<ts.length) (w:World) (ts:List Tk) (n:Nat) (h:PSt w p ts n) (ca cb:UInt8) (most:Nat) (hm:most<=64) (y:Int) (hy:y=most) :
  Calls Tryz.prog 170 #[pP p,.string ⟨#[ca,cb]⟩,.int .i64 y,.func (.func 160) #[pP p] #[],.func (.func 121) #[pP p] #[]] w (WPost (SlS 10 168 InpC) w p (blR [ca] [cb] most el ts)):=by
 have HS:Hid (Calls Tryz.prog 167 #[pP p,.string ⟨#[ca]⟩] w (UPost w p n (sgR [ca] ts))):=Lh (ze5 h ⟨#[ca]⟩);have HV:Hid (blR [ca] [cb] most el ts=exB (sgR [ca] ts) fun ts1=>bls [cb] most el (ts1.length+1) [] ts1):=Lh rfl;have HEL:=Lh hel;have HLT:=Lh hlt;have HY:=Lh hy;have hpw:=h.lt;clear h hel hlt hy;generalize blR [ca] [cb] most el ts=R at *
 go_enter Tryz.func170, Tryz.ntmps170
 go_wp2_with fail
 refine HS.out.mono ?_
 rintro e w1 (⟨ts1,hr,rfl,hp,ht⟩ | ⟨x,hr,rfl,ht⟩);rotate_left
 ·have HV2:Hid (R=.error x):=Lh (by rw [HV.out,za6 hr])
  have HT:=Lh ht;clear hr ht;exact ⟨rfl,.inr ⟨x,HV2.out,rfl,HT.out⟩⟩
 have HV2:Hid (R=bls [cb] most el (ts1.length+1) [] ts1):=Lh (by rw [HV.out,za2 hr]);have HP1:=Lh hp;have HT1:=Lh ht;clear hr hp ht HV HS;go_wp2_with fail
 go_loopw [11] (fun u wr=>∃ (l:List InpT) (tr:List Tk) (cells:List Value) (f m:Nat),l.length<=most/\Hid (R=bls [cb] most el f l tr/\tr.length<f/\Els 55 10 InpC wr w.heap.size u cells l/\PSt wr p tr m/\Tw p w.heap.size w wr)) (fun _ wr=>tlen p wr)
 case atStart=>exact ⟨[],ts1,[],_,n,Nat.zero_le _,Lh ⟨HV2.out,Nat.lt_succ_self _,Els.nil _ _ _ _ _,HP1.out,HT1.out⟩⟩
 case round =>
  obtain ⟨l,tr,cells,f,m,hlm,hr⟩:=hrel;obtain ⟨AL,c,hu⟩:=hr.out.2.2.1.slice;subst hu;have hlb:(l.length:Int)<=64:=by omega
  obtain ⟨f',hf'⟩ : ∃ f',f=f'+1:=⟨f-1,by have:=hr.out.2.1; omega⟩;subst hf';obtain ⟨ll,hll⟩ : ∃ ll,ll=l.length:=⟨_,rfl⟩;rw [<- hll] at hlb;have HLL:=Lh hll;have hz:ll=0∨ll≠0:=by omega
  by_cases hdone:ll≠0/\isSg [cb] tr=true
  ·obtain ⟨hz,hsg⟩:=hdone
   have hz0:((ll:Int)==0)=false:=by rw [beq_eq_false_iff_ne]; omega
   have HD:Hid (R=.ok (l,tr.tail)):=Lh (hr.out.1.trans (by rw [zi1,if_pos ⟨by rw [<- HLL.out]; exact hz,hsg⟩]));have HC:=Lh (zb2 hr.out.2.2.2.1 ⟨#[cb]⟩ _ hsg);clear hz hsg hll;rw [<- HLL.out];go_wp2_with fail;refine HC.out.mono ?_
   rintro e w2 ⟨rfl,hp2,ht2⟩;have HP2:Hid (PSt w2 p tr.tail m):=Lh hp2;have HT2:=Lh (hr.out.2.2.2.2.step hr.out.2.2.2.2.size ht2);have HE2:=Lh (hr.out.2.2.1.tw InpC.stays hpw ht2);clear hp2 ht2;go_wp2_with fail;go_ret
   refine .inl ⟨l,_,_,m,HD.out,rfl, ?_,HP2.out,HT2.out⟩
   have:=HE2.out.read (bytes:=168) InpC.stays (by have:=HLL.out; unfold big; omega);rw [HLL.out];exact this
  ·have HD:Hid (R=exB (bgR (isNm tr) l.length most tr) fun _=>exB (el tr) fun q=>bls [cb] most el f' (l++[q.1]) q.2):=Lh (hr.out.1.trans (by rw [zi1,if_neg (by rw [<- HLL.out]; exact hdone)]))
   have hwalk:∃ W,W=wr:=⟨_,rfl⟩;have hcase:ll=0∨(ll≠0/\isSg [cb] tr=false):=by
    by_cases h0:ll=0
    ·exact .inl h0
    ·exact .inr ⟨h0,by cases hh:isSg [cb] tr with
      | true=>exact absurd ⟨h0,hh⟩ hdone
      | false=>rfl⟩
   rw [<- hll];clear hz hdone hll hwalk;rcases hcase with hz | ⟨hz,hsg⟩
   focus
    have hz0:((ll:Int)==0)=true:=by rw [hz]; rfl
    have HPC:=Lh hr.out.2.2.2.1;have HTC:Hid (Tw p wr.heap.size wr wr):=Lh (.refl _ _ _);clear hz;go_wp2_with fail
   rotate_left
   focus
    have hz0:((ll:Int)==0)=false:=by rw [beq_eq_false_iff_ne]; omega
    have HC:=Lh (zb2 hr.out.2.2.2.1 ⟨#[cb]⟩ _ hsg);clear hz hsg;go_wp2_with fail;refine HC.out.mono ?_
    rintro e wa ⟨rfl,hp2,ht2⟩;have HPC:Hid (PSt wa p tr m):=Lh hp2;have HTC:=Lh ht2;clear hp2 ht2 HC;go_wp2_with fail
   all_goals
    refine (zg7 HPC.out).mono ?_
    rintro e wb ⟨rfl,hb⟩;have HPB:=Lh (HPC.out.stay hb);have HTB:=Lh (HTC.out.step HTC.out.size (.of hb));clear hb;go_wp2_with fail;refine (zi8 HPB.out (isNm tr) l.length most _ _ (by have:=HLL.out; omega) HY.out).mono ?_
    rintro e wc (⟨hbg,rfl,hb⟩ | ⟨x,hbg,rfl,ht⟩);rotate_left
    ·have HD2:Hid (R=.error x):=Lh (by rw [HD.out,za6 hbg])
     have HT2:=Lh (hr.out.2.2.2.2.step hr.out.2.2.2.2.size (HTB.out.step HTB.out.size ht));clear hbg ht;exact ⟨rfl,.inr ⟨x,HD2.out,rfl,HT2.out⟩⟩
    obtain ⟨hnm,hlm2⟩:=zs5 hbg hlm;have HD2:Hid (R=exB (el tr) fun q=>bls [cb] most el f' (l++[q.1]) q.2):=Lh (by rw [HD.out,za2 hbg]);have HPB2:=Lh (HPB.out.stay hb);have HTB2:=Lh (HTB.out.step HTB.out.size (.of hb));have HNM:=Lh hnm;clear hbg hb hnm;go_wp2_with fail;refine (HEL.out _ tr m HPB2.out HNM.out).mono ?_
    rintro e wd (⟨x,ts',v,m',hre,rfl,hx,hp,ht⟩ | ⟨x,hre,rfl,ht⟩);rotate_left
    ·have HD3:Hid (R=.error x):=Lh (by rw [HD2.out,za6 hre])
     have HT3:=Lh (hr.out.2.2.2.2.step hr.out.2.2.2.2.size (HTB2.out.step HTB2.out.size ht));clear hre ht;exact ⟨rfl,.inr ⟨x,HD3.out,rfl,HT3.out⟩⟩
    have HD3:Hid (R=bls [cb] most el f' (l++[x]) ts'):=Lh (by rw [HD2.out,za2 hre]);have hlt3:=HLT.out tr x ts' HPB2.out.good HNM.out hre;obtain ⟨A,A2,A9,KA,ci,ck,d2,d9,k,li,lk,s,z,rfl,hxc⟩:=hx.shape;have HTD:=Lh (HTB2.out.step HTB2.out.size ht);have hE:=hr.out.2.2.1.tw InpC.stays hpw HTD.out;have hws:w.heap.size<=wc.heap.size:=Nat.le_trans hr.out.2.2.2.2.size HTB2.out.size;have hwd:wc.heap.size<=wd.heap.size:=ht.size;have hxS:=InpC.stays.kept (w':=wd) (S':=fun b=>w.heap.size<=b/\b<wd.heap.size/\(Value.slice AL l.length c).ownBlock≠some b) hxc (fun _ _=>rfl) (fun b hb=>⟨by have:=hb.1; omega,hb.2,fun e=>by have h8:=(hr.out.2.2.1.own).lt b e; have h9:=HTB2.out.size; have:=hb.1; omega⟩);have HX:=Lh hxS;have HPD:=Lh hp;have HE:=Lh hE;have b0:Below wd.heap.size wd (wd.alloc (.cells #[.string x.name,.string x.tn,.slice A2 x.tw.length d2,.bool x.has,.int .i64 k,.int .i64 z,.string s,.slice A li ci,.slice KA lk ck,.slice A9 x.dirs.length d9] 55 (0,0))):=za0 _ _;have HB0:=Lh b0;have HOWN:Hid ((wd.alloc (.cells #[.string x.name,.string x.tn,.slice A2 x.tw.length d2,.bool x.has,.int .i64 k,.int .i64 z,.string s,.slice A li ci,.slice KA lk ck,.slice A9 x.dirs.length d9] 55 (0,0))).ownsRow w.heap.size 55 10 (.slice AL ll c) ll cells):=Lh (by
     have h8:=ze9 hE.own (fun g hg=>b0.block g hg);rw [<- HLL.out] at h8; exact h8)
    have HNEWS:Hid (∀ (j:Nat) (u:Value),([.string x.name,.string x.tn,.slice A2 x.tw.length d2,.bool x.has,.int .i64 k,.int .i64 z,.string s,.slice A li ci,.slice KA lk ck,.slice A9 x.dirs.length d9]:List Value)[j]?=some u->(wd.alloc (.cells #[.string x.name,.string x.tn,.slice A2 x.tw.length d2,.bool x.has,.int .i64 k,.int .i64 z,.string s,.slice A li ci,.slice KA lk ck,.slice A9 x.dirs.length d9] 55 (0,0))).cell? ((⟨wd.heap.size,0,none⟩ : Addr).add j)=some u):=Lh (zf0 wd [.string x.name,.string x.tn,.slice A2 x.tw.length d2,.bool x.has,.int .i64 k,.int .i64 z,.string s,.slice A li ci,.slice KA lk ck,.slice A9 x.dirs.length d9] 55);have HONE:Hid (∀ u∈([.string x.name,.string x.tn,.slice A2 x.tw.length d2,.bool x.has,.int .i64 k,.int .i64 z,.string s,.slice A li ci,.slice KA lk ck,.slice A9 x.dirs.length d9]:List Value),u.oneCell'=true):=Lh (by intro u hu; simp only [List.mem_cons,List.not_mem_nil,or_false] at hu; rcases hu with rfl | rfl | rfl | rfl | rfl | rfl | rfl | rfl | rfl | rfl <;> rfl);have HSZ:Hid (w.heap.size<=(wd.alloc (.cells #[.string x.name,.string x.tn,.slice A2 x.tw.length d2,.bool x.has,.int .i64 k,.int .i64 z,.string s,.slice A li ci,.slice KA lk ck,.slice A9 x.dirs.length d9] 55 (0,0))).heap.size):=Lh (by rw [World.size_alloc]; omega);clear hre ht hx hxc hp hE hxS b0;go_wp2_with (at_builtin; refine zb1 _ rfl _ _ 37 rfl w.heap.size 55 _ 10 168 Tryz.underlying37 infoInp rfl (by decide) _ ll cells rfl HOWN.out ⟨wd.heap.size,0,none⟩ 1 1 (by decide) [.string x.name,.string x.tn,.slice A2 x.tw.length d2,.bool x.has,.int .i64 k,.int .i64 z,.string s,.slice A li ci,.slice KA lk ck,.slice A9 x.dirs.length d9] rfl rfl HNEWS.out HONE.out (by unfold maxLen; omega) (by omega) HSZ.out ?_; intro v' w' hown' hg' hf');have hpush:=Els.push (x:=x) InpC.stays HE.out HB0.out (by have:=HSZ.out; omega) HX.out (news:=[.string x.name,.string x.tn,.slice A2 x.tw.length d2,.bool x.has,.int .i64 k,.int .i64 z,.string s,.slice A li ci,.slice KA lk ck,.slice A9 x.dirs.length d9]) (fun j hj=>rfl) (InpV.cong (Nat.le_refl _)) (by rw [<- HLL.out]; exact hown') (by rw [<- HLL.out]; exact hg') (by rw [<- HLL.out]; exact hf');have HE2:=Lh hpush.1;have HT2:Hid (Tw p w.heap.size w w'):=Lh ((hr.out.2.2.2.2.trans (HTD.out.mono hr.out.2.2.2.2.size)).trans (.of hpush.2));have HP2:=Lh (HPD.out.same (hpush.2.mono (by omega)));clear hpush hown' hg' hf'
    go_roundw
    case rel=>exact ⟨l++[x],ts',_,f',m',by rw [List.length_append,List.length_singleton]; omega,Lh ⟨HD3.out,by have:=hr.out.2.1; omega,HE2.out,HP2.out,HT2.out⟩⟩
    case measure=>rw [HP2.out.tlen,hr.out.2.2.2.1.tlen]; exact hlt3
theorem map5 {α β:Type} (f : α->β) (x y z u v : α):(#[x,y,z,u,v]:Array α).map f=#[f x,f y,f z,f u,f v]:=by simp
theorem zS2 {x0 x1 x2 x3 x4 y0 y1 y2 y3 y4:Value} (h0:x0=y0) (h1:x1=y1) (h2:x2=y2) (h3:x3=y3) (h4:x4=y4):(#[x0,x1,x2,x3,x4]:Array Value)=#[y0,y1,y2,y3,y4]:=by rw [h0,h1,h2,h3,h4]
theorem zR9:∀ (args:Array Value) (w:World),(callFunc 165 args).run Tryz.prog w=.ok (.enter 165 args) w:=enters_of Tryz.func165 (by kernel_rfl) rfl
abbrev zF6:Array Oper :=
 #[{ dst:=some 9,op:=.move (.tmp 0),type := 102,pos := "parser.go:24",after:=#[],guard:=none },
  { dst:=some 10,op:=.nilCheck (.tmp 9),type:=0,pos := "parser.go:24",after:=#[{ on:=0,ground:=.data }],guard:=none },
  { dst:=some 11,op:=.fieldAddr 67 (.tmp 10) 0,type:=0,pos := "parser.go:24",after:=#[{ on:=1,ground:=.data }],guard:=none },
  { dst:=some 12,op:=.move (.tmp 1),type := 9,pos := "parser.go:24",after:=#[],guard:=none },
  { dst:=some 13,op:=.move (.tmp 2),type := 3,pos := "parser.go:24",after:=#[],guard:=none },
  { dst:=some 14,op:=.move (.tmp 0),type := 102,pos := "parser.go:24",after:=#[],guard:=none },
  { dst:=some 15,op:=.nilCheck (.tmp 14),type:=0,pos := "parser.go:24",after:=#[{ on:=5,ground:=.data }],guard:=none },
  { dst:=some 16,op:=.fieldAddr 67 (.tmp 15) 0,type:=0,pos := "parser.go:24",after:=#[{ on:=6,ground:=.data }],guard:=none },
  { dst:=some 17,op:=.makeFunc (Fn.func 160) #[.tmp 16] #[],type := 27,pos := "parser.go:24",after:=#[{ on:=7,ground:=.data }],guard:=none },
  { dst:=some 18,op:=.move (.tmp 3),type := 150,pos := "parser.go:24",after:=#[],guard:=none },
  { dst:=some 19,op:=.call { callee:=.value (.func 165),args:=#[.tmp 11,.tmp 12,.tmp 13,.tmp 17,.tmp 18],argTypes:=#[146, 9, 3, 27, 150] },type := 35,pos := "parser.go:24",after:=#[{ on:=2,ground:=.data }, { on:=3,ground:=.data }, { on:=4,ground:=.data }, { on:=8,ground:=.data }, { on:=9,ground:=.data }],guard:=none },
  { dst:=some 8,op:=.assign (.tmp 19),type := 35,pos := "parser.go:24",after:=#[{ on:=10,ground:=.data }, { on:=10,ground:=.chain }, { on:=0,ground:=.phase }, { on:=1,ground:=.phase }, { on:=2,ground:=.phase }, { on:=3,ground:=.phase }, { on:=4,ground:=.phase }, { on:=5,ground:=.phase }, { on:=6,ground:=.phase }, { on:=7,ground:=.phase }, { on:=8,ground:=.phase }, { on:=9,ground:=.phase }, { on:=10,ground:=.phase }],guard:=none }]
theorem blkrFld {Q:Exit->Act->World->Prop} {id:Nat} {a0:Act} {W:World} {p:Nat} {R:Except Er (List FldT × List Tk)} {sg:ByteArray} {y:Int} {EV:Value} (hB:∀ w,Below W.heap.size W w->Calls Tryz.prog 165 #[pP p,.string sg,.int .i64 y,.func (.func 160) #[pP p] #[],EV] w (WPost (SlS 5 104 FldC) w p R)) (hb:K.dstB zF6 a0.tmps.size 12=true) (s0:a0.tmps.getD 0 undef=pP p) (s1:a0.tmps.getD 1 undef=.string sg) (s2:a0.tmps.getD 2 undef=.int .i64 y) (s3:a0.tmps.getD 3 undef=EV)
  (hok:∀ (f:Nat->Value) (w':World),(fun v w'=>WPost (SlS 5 104 FldC) W p R (.returned v) w') (f 19) w'->f 8=f 19->Q .normal (K.over a0 [9,10,11,12,13,14,15,16,17,18,19,8] f) w') (her:∀ (a:Act) (w':World) (z:Er),a.defers=a0.defers->WPost (SlS 5 104 FldC) W p R (badV z) w'->Q (.panic (malP z)) a w') :
  (Code.region id zF6 true).wp Tryz.prog Q a0 W:=by
 refine K.zd1 (by kernel_rfl) (by kernel_rfl) hb 10 (by kernel_rfl) (by decide) (by decide) (fun o ho=>by cases ho; exact ⟨⟨10,.data⟩,by simp,rfl,rfl⟩) [K.Fact.is (pP p),K.Fact.is (pP p),K.Fact.is (pP p),K.Fact.is (.string sg),K.Fact.is (.int .i64 y),K.Fact.is (pP p),K.Fact.is (pP p),K.Fact.is (pP p),K.Fact.is (.func (.func 160) #[pP p] #[]),K.Fact.is (EV)] (fun v w'=>WPost (SlS 5 104 FldC) W p R (.returned v) w') ?_ ?_ (fun o ho a w hf hC=>by cases ho; exact zu0 rfl (.tmp 19) rfl rfl ⟨rfl,rfl⟩) ?_
 ·intro i o ho hi a w hf hbl had
  have hc:i=0∨i=1∨i=2∨i=3∨i=4∨i=5∨i=6∨i=7∨i=8∨i=9:=by omega
  rcases hc with rfl | rfl | rfl | rfl | rfl | rfl | rfl | rfl | rfl | rfl
  ·cases ho
   have h0:a.tmps.getD 0 undef=pP p:=(hf.slot 0 (by kernel_rfl)).trans s0;exact zb9 rfl (.tmp 0) rfl h0 ⟨Below.refl _ _,rfl⟩
  ·cases ho
   have h9:K.vof _ a 0=pP p:=had ⟨0,.data⟩ (by simp) rfl;exact zm7 rfl (.tmp 9) rfl h9 ⟨Below.refl _ _,rfl⟩
  ·cases ho
   have h10:K.vof _ a 1=pP p:=had ⟨1,.data⟩ (by simp) rfl;exact zp1 rfl (.tmp 10) rfl h10 ⟨Below.refl _ _,rfl⟩
  ·cases ho
   have h1:a.tmps.getD 1 undef=.string sg:=(hf.slot 1 (by kernel_rfl)).trans s1;exact zb9 rfl (.tmp 1) rfl h1 ⟨Below.refl _ _,rfl⟩
  ·cases ho
   have h2:a.tmps.getD 2 undef=.int .i64 y:=(hf.slot 2 (by kernel_rfl)).trans s2;exact zb9 rfl (.tmp 2) rfl h2 ⟨Below.refl _ _,rfl⟩
  ·cases ho
   have h0:a.tmps.getD 0 undef=pP p:=(hf.slot 0 (by kernel_rfl)).trans s0;exact zb9 rfl (.tmp 0) rfl h0 ⟨Below.refl _ _,rfl⟩
  ·cases ho
   have h14:K.vof _ a 5=pP p:=had ⟨5,.data⟩ (by simp) rfl;exact zm7 rfl (.tmp 14) rfl h14 ⟨Below.refl _ _,rfl⟩
  ·cases ho
   have h15:K.vof _ a 6=pP p:=had ⟨6,.data⟩ (by simp) rfl;exact zp1 rfl (.tmp 15) rfl h15 ⟨Below.refl _ _,rfl⟩
  ·cases ho
   have h16:K.vof _ a 7=pP p:=had ⟨7,.data⟩ (by simp) rfl;exact rp_mk rfl 160 (.tmp 16) rfl h16 ⟨Below.refl _ _,rfl⟩
  ·cases ho
   have h3:a.tmps.getD 3 undef=EV:=(hf.slot 3 (by kernel_rfl)).trans s3;exact zb9 rfl (.tmp 3) rfl h3 ⟨Below.refl _ _,rfl⟩
 ·intro o ho a w hf hbl hF
  cases ho
  have h2:K.vof _ a 2=pP p:=hF 2 (by omega);have h3:K.vof _ a 3=.string sg:=hF 3 (by omega);have h4:K.vof _ a 4=.int .i64 y:=hF 4 (by omega);have h8:K.vof _ a 8=.func (.func 160) #[pP p] #[]:=hF 8 (by omega);have h9:K.vof _ a 9=EV:=hF 9 (by omega);refine ze7 rfl _ _ _ rfl zR9 #[pP p,.string sg,.int .i64 y,.func (.func 160) #[pP p] #[],EV] (by rw [map5]; exact zS2 h2 h3 h4 h8 h9) ((hB w hbl).mono fun e w' hw=>?_)
  have hw2:=hw.up FldC.stays hbl;rcases hw with ⟨x,ts,v,m,hr,he,_⟩ | ⟨z,hr,he,ht⟩
  ·subst he; exact .inl ⟨v,rfl,hw2⟩
  ·subst he; exact .inr ⟨malP z,rfl,her a w' z hf.1 hw2⟩
 ·intro a w hf hC h1
  rw [K.zg2 hf [9,10,11,12,13,14,15,16,17,18,19,8] (by kernel_rfl)];exact hok (fun d=>a.tmps.getD d undef) w hC (h1 (by decide))
theorem zu8 (p:Nat) (el:List Tk->Except Er (FldT × List Tk)) (hel:∀ (W:World) (ts:List Tk) (m:Nat),PSt W p ts m->isNm ts=true->Calls Tryz.prog 116 #[pP p] W (WPost FldV W p (el ts)))
  (hlt:∀ (ts:List Tk) (x:FldT) (ts':List Tk),Good ts->isNm ts=true->el ts=.ok (x,ts')->ts'.length<ts.length) (w:World) (ts:List Tk) (n:Nat) (h:PSt w p ts n) (ca cb:UInt8) (most:Nat) (hm:most<=64) (y:Int) (hy:y=most) :
  Calls Tryz.prog 115 #[pP p,.string ⟨#[ca,cb]⟩,.int .i64 y,.func (.func 116) #[pP p] #[]] w (WPost (SlS 5 104 FldC) w p (blR [ca] [cb] most el ts)):=by
 have HB:=Lh (fun (W:World) (hb:Below w.heap.size w W)=>zO5 p el hel hlt W ts n (h.stay hb) ca cb most hm y hy);clear h hel hlt hm hy
 go_enter Tryz.func115, Tryz.ntmps115
 go_wp2_with fail
 refine blkrFld HB.out (by kernel_rfl) rfl rfl rfl rfl ?_ fun a w' z hd hz=>⟨hd.trans rfl,hz⟩
 intro f w' hC h8;simp only [K.over,List.foldl_cons,List.foldl_nil,Act.put,List.setIfInBounds_toArray,List.set_cons_succ,List.set_cons_zero];rw [h8];clear h8;generalize f 19=v19 at *;generalize f 9=u9 at *;generalize f 10=u10 at *;generalize f 11=u11 at *;generalize f 12=u12 at *;generalize f 13=u13 at *;generalize f 14=u14 at *;generalize f 15=u15 at *;generalize f 16=u16 at *;generalize f 17=u17 at *;generalize f 18=u18 at *;go_wp2_with fail;exact bodyPost_ret (v:=v19) (by simp [results,Tryz.results115,go_sem]) rfl hC
theorem zR7:∀ (args:Array Value) (w:World),(callFunc 169 args).run Tryz.prog w=.ok (.enter 169 args) w:=enters_of Tryz.func169 (by kernel_rfl) rfl
abbrev zF4:Array Oper :=
 #[{ dst:=some 9,op:=.move (.tmp 0),type := 102,pos := "parser.go:24",after:=#[],guard:=none },
  { dst:=some 10,op:=.nilCheck (.tmp 9),type:=0,pos := "parser.go:24",after:=#[{ on:=0,ground:=.data }],guard:=none },
  { dst:=some 11,op:=.fieldAddr 67 (.tmp 10) 0,type:=0,pos := "parser.go:24",after:=#[{ on:=1,ground:=.data }],guard:=none },
  { dst:=some 12,op:=.move (.tmp 1),type := 9,pos := "parser.go:24",after:=#[],guard:=none },
  { dst:=some 13,op:=.move (.tmp 2),type := 3,pos := "parser.go:24",after:=#[],guard:=none },
  { dst:=some 14,op:=.move (.tmp 0),type := 102,pos := "parser.go:24",after:=#[],guard:=none },
  { dst:=some 15,op:=.nilCheck (.tmp 14),type:=0,pos := "parser.go:24",after:=#[{ on:=5,ground:=.data }],guard:=none },
  { dst:=some 16,op:=.fieldAddr 67 (.tmp 15) 0,type:=0,pos := "parser.go:24",after:=#[{ on:=6,ground:=.data }],guard:=none },
  { dst:=some 17,op:=.makeFunc (Fn.func 160) #[.tmp 16] #[],type := 27,pos := "parser.go:24",after:=#[{ on:=7,ground:=.data }],guard:=none },
  { dst:=some 18,op:=.move (.tmp 3),type := 153,pos := "parser.go:24",after:=#[],guard:=none },
  { dst:=some 19,op:=.call { callee:=.value (.func 169),args:=#[.tmp 11,.tmp 12,.tmp 13,.tmp 17,.tmp 18],argTypes:=#[146, 9, 3, 27, 153] },type := 36,pos := "parser.go:24",after:=#[{ on:=2,ground:=.data }, { on:=3,ground:=.data }, { on:=4,ground:=.data }, { on:=8,ground:=.data }, { on:=9,ground:=.data }],guard:=none },
  { dst:=some 8,op:=.assign (.tmp 19),type := 36,pos := "parser.go:24",after:=#[{ on:=10,ground:=.data }, { on:=10,ground:=.chain }, { on:=0,ground:=.phase }, { on:=1,ground:=.phase }, { on:=2,ground:=.phase }, { on:=3,ground:=.phase }, { on:=4,ground:=.phase }, { on:=5,ground:=.phase }, { on:=6,ground:=.phase }, { on:=7,ground:=.phase }, { on:=8,ground:=.phase }, { on:=9,ground:=.phase }, { on:=10,ground:=.phase }],guard:=none }]
theorem blkrMem {Q:Exit->Act->World->Prop} {id:Nat} {a0:Act} {W:World} {p:Nat} {R:Except Er (List MemT × List Tk)} {sg:ByteArray} {y:Int} {EV:Value} (hB:∀ w,Below W.heap.size W w->Calls Tryz.prog 169 #[pP p,.string sg,.int .i64 y,.func (.func 160) #[pP p] #[],EV] w (WPost (SlS 2 40 MemC) w p R)) (hb:K.dstB zF4 a0.tmps.size 12=true) (s0:a0.tmps.getD 0 undef=pP p) (s1:a0.tmps.getD 1 undef=.string sg) (s2:a0.tmps.getD 2 undef=.int .i64 y) (s3:a0.tmps.getD 3 undef=EV)
  (hok:∀ (f:Nat->Value) (w':World),(fun v w'=>WPost (SlS 2 40 MemC) W p R (.returned v) w') (f 19) w'->f 8=f 19->Q .normal (K.over a0 [9,10,11,12,13,14,15,16,17,18,19,8] f) w') (her:∀ (a:Act) (w':World) (z:Er),a.defers=a0.defers->WPost (SlS 2 40 MemC) W p R (badV z) w'->Q (.panic (malP z)) a w') :
  (Code.region id zF4 true).wp Tryz.prog Q a0 W:=by
 refine K.zd1 (by kernel_rfl) (by kernel_rfl) hb 10 (by kernel_rfl) (by decide) (by decide) (fun o ho=>by cases ho; exact ⟨⟨10,.data⟩,by simp,rfl,rfl⟩) [K.Fact.is (pP p),K.Fact.is (pP p),K.Fact.is (pP p),K.Fact.is (.string sg),K.Fact.is (.int .i64 y),K.Fact.is (pP p),K.Fact.is (pP p),K.Fact.is (pP p),K.Fact.is (.func (.func 160) #[pP p] #[]),K.Fact.is (EV)] (fun v w'=>WPost (SlS 2 40 MemC) W p R (.returned v) w') ?_ ?_ (fun o ho a w hf hC=>by cases ho; exact zu0 rfl (.tmp 19) rfl rfl ⟨rfl,rfl⟩) ?_
 ·intro i o ho hi a w hf hbl had
  have hc:i=0∨i=1∨i=2∨i=3∨i=4∨i=5∨i=6∨i=7∨i=8∨i=9:=by omega
  rcases hc with rfl | rfl | rfl | rfl | rfl | rfl | rfl | rfl | rfl | rfl
  ·cases ho
   have h0:a.tmps.getD 0 undef=pP p:=(hf.slot 0 (by kernel_rfl)).trans s0;exact zb9 rfl (.tmp 0) rfl h0 ⟨Below.refl _ _,rfl⟩
  ·cases ho
   have h9:K.vof _ a 0=pP p:=had ⟨0,.data⟩ (by simp) rfl;exact zm7 rfl (.tmp 9) rfl h9 ⟨Below.refl _ _,rfl⟩
  ·cases ho
   have h10:K.vof _ a 1=pP p:=had ⟨1,.data⟩ (by simp) rfl;exact zp1 rfl (.tmp 10) rfl h10 ⟨Below.refl _ _,rfl⟩
  ·cases ho
   have h1:a.tmps.getD 1 undef=.string sg:=(hf.slot 1 (by kernel_rfl)).trans s1;exact zb9 rfl (.tmp 1) rfl h1 ⟨Below.refl _ _,rfl⟩
  ·cases ho
   have h2:a.tmps.getD 2 undef=.int .i64 y:=(hf.slot 2 (by kernel_rfl)).trans s2;exact zb9 rfl (.tmp 2) rfl h2 ⟨Below.refl _ _,rfl⟩
  ·cases ho
   have h0:a.tmps.getD 0 undef=pP p:=(hf.slot 0 (by kernel_rfl)).trans s0;exact zb9 rfl (.tmp 0) rfl h0 ⟨Below.refl _ _,rfl⟩
  ·cases ho
   have h14:K.vof _ a 5=pP p:=had ⟨5,.data⟩ (by simp) rfl;exact zm7 rfl (.tmp 14) rfl h14 ⟨Below.refl _ _,rfl⟩
  ·cases ho
   have h15:K.vof _ a 6=pP p:=had ⟨6,.data⟩ (by simp) rfl;exact zp1 rfl (.tmp 15) rfl h15 ⟨Below.refl _ _,rfl⟩
  ·cases ho
   have h16:K.vof _ a 7=pP p:=had ⟨7,.data⟩ (by simp) rfl;exact rp_mk rfl 160 (.tmp 16) rfl h16 ⟨Below.refl _ _,rfl⟩
  ·cases ho
   have h3:a.tmps.getD 3 undef=EV:=(hf.slot 3 (by kernel_rfl)).trans s3;exact zb9 rfl (.tmp 3) rfl h3 ⟨Below.refl _ _,rfl⟩
 ·intro o ho a w hf hbl hF
  cases ho
  have h2:K.vof _ a 2=pP p:=hF 2 (by omega);have h3:K.vof _ a 3=.string sg:=hF 3 (by omega);have h4:K.vof _ a 4=.int .i64 y:=hF 4 (by omega);have h8:K.vof _ a 8=.func (.func 160) #[pP p] #[]:=hF 8 (by omega);have h9:K.vof _ a 9=EV:=hF 9 (by omega);refine ze7 rfl _ _ _ rfl zR7 #[pP p,.string sg,.int .i64 y,.func (.func 160) #[pP p] #[],EV] (by rw [map5]; exact zS2 h2 h3 h4 h8 h9) ((hB w hbl).mono fun e w' hw=>?_)
  have hw2:=hw.up MemC.stays hbl;rcases hw with ⟨x,ts,v,m,hr,he,_⟩ | ⟨z,hr,he,ht⟩
  ·subst he; exact .inl ⟨v,rfl,hw2⟩
  ·subst he; exact .inr ⟨malP z,rfl,her a w' z hf.1 hw2⟩
 ·intro a w hf hC h1
  rw [K.zg2 hf [9,10,11,12,13,14,15,16,17,18,19,8] (by kernel_rfl)];exact hok (fun d=>a.tmps.getD d undef) w hC (h1 (by decide))
theorem zG9 (p:Nat) (el:List Tk->Except Er (MemT × List Tk)) (hel:∀ (W:World) (ts:List Tk) (m:Nat),PSt W p ts m->isNm ts=true->Calls Tryz.prog 119 #[pP p] W (WPost MemV W p (el ts)))
  (hlt:∀ (ts:List Tk) (x:MemT) (ts':List Tk),Good ts->isNm ts=true->el ts=.ok (x,ts')->ts'.length<ts.length) (w:World) (ts:List Tk) (n:Nat) (h:PSt w p ts n) (ca cb:UInt8) (most:Nat) (hm:most<=64) (y:Int) (hy:y=most) :
  Calls Tryz.prog 118 #[pP p,.string ⟨#[ca,cb]⟩,.int .i64 y,.func (.func 119) #[pP p] #[]] w (WPost (SlS 2 40 MemC) w p (blR [ca] [cb] most el ts)):=by
 have HB:=Lh (fun (W:World) (hb:Below w.heap.size w W)=>zO3 p el hel hlt W ts n (h.stay hb) ca cb most hm y hy);clear h hel hlt hm hy
 go_enter Tryz.func118, Tryz.ntmps118
 go_wp2_with fail
 refine blkrMem HB.out (by kernel_rfl) rfl rfl rfl rfl ?_ fun a w' z hd hz=>⟨hd.trans rfl,hz⟩
 intro f w' hC h8;simp only [K.over,List.foldl_cons,List.foldl_nil,Act.put,List.setIfInBounds_toArray,List.set_cons_succ,List.set_cons_zero];rw [h8];clear h8;generalize f 19=v19 at *;generalize f 9=u9 at *;generalize f 10=u10 at *;generalize f 11=u11 at *;generalize f 12=u12 at *;generalize f 13=u13 at *;generalize f 14=u14 at *;generalize f 15=u15 at *;generalize f 16=u16 at *;generalize f 17=u17 at *;generalize f 18=u18 at *;go_wp2_with fail;exact bodyPost_ret (v:=v19) (by simp [results,Tryz.results118,go_sem]) rfl hC
theorem zR8:∀ (args:Array Value) (w:World),(callFunc 170 args).run Tryz.prog w=.ok (.enter 170 args) w:=enters_of Tryz.func170 (by kernel_rfl) rfl
abbrev zF5:Array Oper :=
 #[{ dst:=some 9,op:=.move (.tmp 0),type := 102,pos := "parser.go:24",after:=#[],guard:=none },
  { dst:=some 10,op:=.nilCheck (.tmp 9),type:=0,pos := "parser.go:24",after:=#[{ on:=0,ground:=.data }],guard:=none },
  { dst:=some 11,op:=.fieldAddr 67 (.tmp 10) 0,type:=0,pos := "parser.go:24",after:=#[{ on:=1,ground:=.data }],guard:=none },
  { dst:=some 12,op:=.move (.tmp 1),type := 9,pos := "parser.go:24",after:=#[],guard:=none },
  { dst:=some 13,op:=.move (.tmp 2),type := 3,pos := "parser.go:24",after:=#[],guard:=none },
  { dst:=some 14,op:=.move (.tmp 0),type := 102,pos := "parser.go:24",after:=#[],guard:=none },
  { dst:=some 15,op:=.nilCheck (.tmp 14),type:=0,pos := "parser.go:24",after:=#[{ on:=5,ground:=.data }],guard:=none },
  { dst:=some 16,op:=.fieldAddr 67 (.tmp 15) 0,type:=0,pos := "parser.go:24",after:=#[{ on:=6,ground:=.data }],guard:=none },
  { dst:=some 17,op:=.makeFunc (Fn.func 160) #[.tmp 16] #[],type := 27,pos := "parser.go:24",after:=#[{ on:=7,ground:=.data }],guard:=none },
  { dst:=some 18,op:=.move (.tmp 3),type := 155,pos := "parser.go:24",after:=#[],guard:=none },
  { dst:=some 19,op:=.call { callee:=.value (.func 170),args:=#[.tmp 11,.tmp 12,.tmp 13,.tmp 17,.tmp 18],argTypes:=#[146, 9, 3, 27, 155] },type := 37,pos := "parser.go:24",after:=#[{ on:=2,ground:=.data }, { on:=3,ground:=.data }, { on:=4,ground:=.data }, { on:=8,ground:=.data }, { on:=9,ground:=.data }],guard:=none },
  { dst:=some 8,op:=.assign (.tmp 19),type := 37,pos := "parser.go:24",after:=#[{ on:=10,ground:=.data }, { on:=10,ground:=.chain }, { on:=0,ground:=.phase }, { on:=1,ground:=.phase }, { on:=2,ground:=.phase }, { on:=3,ground:=.phase }, { on:=4,ground:=.phase }, { on:=5,ground:=.phase }, { on:=6,ground:=.phase }, { on:=7,ground:=.phase }, { on:=8,ground:=.phase }, { on:=9,ground:=.phase }, { on:=10,ground:=.phase }],guard:=none }]
theorem blkrInp {Q:Exit->Act->World->Prop} {id:Nat} {a0:Act} {W:World} {p:Nat} {R:Except Er (List InpT × List Tk)} {sg:ByteArray} {y:Int} {EV:Value} (hB:∀ w,Below W.heap.size W w->Calls Tryz.prog 170 #[pP p,.string sg,.int .i64 y,.func (.func 160) #[pP p] #[],EV] w (WPost (SlS 10 168 InpC) w p R)) (hb:K.dstB zF5 a0.tmps.size 12=true) (s0:a0.tmps.getD 0 undef=pP p) (s1:a0.tmps.getD 1 undef=.string sg) (s2:a0.tmps.getD 2 undef=.int .i64 y) (s3:a0.tmps.getD 3 undef=EV)
  (hok:∀ (f:Nat->Value) (w':World),(fun v w'=>WPost (SlS 10 168 InpC) W p R (.returned v) w') (f 19) w'->f 8=f 19->Q .normal (K.over a0 [9,10,11,12,13,14,15,16,17,18,19,8] f) w') (her:∀ (a:Act) (w':World) (z:Er),a.defers=a0.defers->WPost (SlS 10 168 InpC) W p R (badV z) w'->Q (.panic (malP z)) a w') :
  (Code.region id zF5 true).wp Tryz.prog Q a0 W:=by
 refine K.zd1 (by kernel_rfl) (by kernel_rfl) hb 10 (by kernel_rfl) (by decide) (by decide) (fun o ho=>by cases ho; exact ⟨⟨10,.data⟩,by simp,rfl,rfl⟩) [K.Fact.is (pP p),K.Fact.is (pP p),K.Fact.is (pP p),K.Fact.is (.string sg),K.Fact.is (.int .i64 y),K.Fact.is (pP p),K.Fact.is (pP p),K.Fact.is (pP p),K.Fact.is (.func (.func 160) #[pP p] #[]),K.Fact.is (EV)] (fun v w'=>WPost (SlS 10 168 InpC) W p R (.returned v) w') ?_ ?_ (fun o ho a w hf hC=>by cases ho; exact zu0 rfl (.tmp 19) rfl rfl ⟨rfl,rfl⟩) ?_
 ·intro i o ho hi a w hf hbl had
  have hc:i=0∨i=1∨i=2∨i=3∨i=4∨i=5∨i=6∨i=7∨i=8∨i=9:=by omega
  rcases hc with rfl | rfl | rfl | rfl | rfl | rfl | rfl | rfl | rfl | rfl
  ·cases ho
   have h0:a.tmps.getD 0 undef=pP p:=(hf.slot 0 (by kernel_rfl)).trans s0;exact zb9 rfl (.tmp 0) rfl h0 ⟨Below.refl _ _,rfl⟩
  ·cases ho
   have h9:K.vof _ a 0=pP p:=had ⟨0,.data⟩ (by simp) rfl;exact zm7 rfl (.tmp 9) rfl h9 ⟨Below.refl _ _,rfl⟩
  ·cases ho
   have h10:K.vof _ a 1=pP p:=had ⟨1,.data⟩ (by simp) rfl;exact zp1 rfl (.tmp 10) rfl h10 ⟨Below.refl _ _,rfl⟩
  ·cases ho
   have h1:a.tmps.getD 1 undef=.string sg:=(hf.slot 1 (by kernel_rfl)).trans s1;exact zb9 rfl (.tmp 1) rfl h1 ⟨Below.refl _ _,rfl⟩
  ·cases ho
   have h2:a.tmps.getD 2 undef=.int .i64 y:=(hf.slot 2 (by kernel_rfl)).trans s2;exact zb9 rfl (.tmp 2) rfl h2 ⟨Below.refl _ _,rfl⟩
  ·cases ho
   have h0:a.tmps.getD 0 undef=pP p:=(hf.slot 0 (by kernel_rfl)).trans s0;exact zb9 rfl (.tmp 0) rfl h0 ⟨Below.refl _ _,rfl⟩
  ·cases ho
   have h14:K.vof _ a 5=pP p:=had ⟨5,.data⟩ (by simp) rfl;exact zm7 rfl (.tmp 14) rfl h14 ⟨Below.refl _ _,rfl⟩
  ·cases ho
   have h15:K.vof _ a 6=pP p:=had ⟨6,.data⟩ (by simp) rfl;exact zp1 rfl (.tmp 15) rfl h15 ⟨Below.refl _ _,rfl⟩
  ·cases ho
   have h16:K.vof _ a 7=pP p:=had ⟨7,.data⟩ (by simp) rfl;exact rp_mk rfl 160 (.tmp 16) rfl h16 ⟨Below.refl _ _,rfl⟩
  ·cases ho
   have h3:a.tmps.getD 3 undef=EV:=(hf.slot 3 (by kernel_rfl)).trans s3;exact zb9 rfl (.tmp 3) rfl h3 ⟨Below.refl _ _,rfl⟩
 ·intro o ho a w hf hbl hF
  cases ho
  have h2:K.vof _ a 2=pP p:=hF 2 (by omega);have h3:K.vof _ a 3=.string sg:=hF 3 (by omega);have h4:K.vof _ a 4=.int .i64 y:=hF 4 (by omega);have h8:K.vof _ a 8=.func (.func 160) #[pP p] #[]:=hF 8 (by omega);have h9:K.vof _ a 9=EV:=hF 9 (by omega);refine ze7 rfl _ _ _ rfl zR8 #[pP p,.string sg,.int .i64 y,.func (.func 160) #[pP p] #[],EV] (by rw [map5]; exact zS2 h2 h3 h4 h8 h9) ((hB w hbl).mono fun e w' hw=>?_)
  have hw2:=hw.up InpC.stays hbl;rcases hw with ⟨x,ts,v,m,hr,he,_⟩ | ⟨z,hr,he,ht⟩
  ·subst he; exact .inl ⟨v,rfl,hw2⟩
  ·subst he; exact .inr ⟨malP z,rfl,her a w' z hf.1 hw2⟩
 ·intro a w hf hC h1
  rw [K.zg2 hf [9,10,11,12,13,14,15,16,17,18,19,8] (by kernel_rfl)];exact hok (fun d=>a.tmps.getD d undef) w hC (h1 (by decide))
theorem zu7 (p:Nat) (el:List Tk->Except Er (InpT × List Tk)) (hel:∀ (W:World) (ts:List Tk) (m:Nat),PSt W p ts m->isNm ts=true->Calls Tryz.prog 121 #[pP p] W (WPost InpV W p (el ts)))
  (hlt:∀ (ts:List Tk) (x:InpT) (ts':List Tk),Good ts->isNm ts=true->el ts=.ok (x,ts')->ts'.length<ts.length) (w:World) (ts:List Tk) (n:Nat) (h:PSt w p ts n) (ca cb:UInt8) (most:Nat) (hm:most<=64) (y:Int) (hy:y=most) :
  Calls Tryz.prog 120 #[pP p,.string ⟨#[ca,cb]⟩,.int .i64 y,.func (.func 121) #[pP p] #[]] w (WPost (SlS 10 168 InpC) w p (blR [ca] [cb] most el ts)):=by
 have HB:=Lh (fun (W:World) (hb:Below w.heap.size w W)=>zO4 p el hel hlt W ts n (h.stay hb) ca cb most hm y hy);clear h hel hlt hm hy
 go_enter Tryz.func120, Tryz.ntmps120
 go_wp2_with fail
 refine blkrInp HB.out (by kernel_rfl) rfl rfl rfl rfl ?_ fun a w' z hd hz=>⟨hd.trans rfl,hz⟩
 intro f w' hC h8;simp only [K.over,List.foldl_cons,List.foldl_nil,Act.put,List.setIfInBounds_toArray,List.set_cons_succ,List.set_cons_zero];rw [h8];clear h8;generalize f 19=v19 at *;generalize f 9=u9 at *;generalize f 10=u10 at *;generalize f 11=u11 at *;generalize f 12=u12 at *;generalize f 13=u13 at *;generalize f 14=u14 at *;generalize f 15=u15 at *;generalize f 16=u16 at *;generalize f 17=u17 at *;generalize f 18=u18 at *;go_wp2_with fail;exact bodyPost_ret (v:=v19) (by simp [results,Tryz.results120,go_sem]) rfl hC
end Go.Proofs.YtfgelheiknmjgaaGreatDoor

