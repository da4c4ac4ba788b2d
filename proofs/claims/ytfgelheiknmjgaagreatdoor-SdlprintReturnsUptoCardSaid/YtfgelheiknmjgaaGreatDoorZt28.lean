
/-
 Texts joined: Te Tf N0.
-/
import Derived.Test.YtfgelheiknmjgaaGreatDoorZt27
import Derived.Lib.ItoaLen
set_option maxRecDepth 1000000
set_option maxHeartbeats 8000000
namespace Go.Proofs.YtfgelheiknmjgaaGreatDoor
open Go.RowKit
def argT (x:ByteArray × VT):List Lo:=(2,x.1.data.toList)::(1,[58])::x.2.tok
def parT {α:Type} (T : α->List Lo) (l:List α):List Lo:=if l.length=0 then [] else (1,[40])::((l.map T).flatten++[(1,[41])])
def dirT (d:DirT):List Lo:=(1,[64])::(2,d.name.data.toList)::parT argT d.args
def dirsT (l:List DirT):List Lo:=(l.map dirT).flatten
def inpT (x:InpT):List Lo:=(2,x.name.data.toList)::(1,[58])::(refT x.tn x.tw++((if x.has=true then (1,[61])::x.dflt.tok else [])++dirsT x.dirs))
def fldT (x:FldT):List Lo:=(2,x.name.data.toList)::(parT inpT x.args++((1,[58])::(refT x.tn x.tw++dirsT x.dirs)))
def memT (x:MemT):List Lo:=(2,x.name.data.toList)::dirsT x.dirs
def blkT {α:Type} (T : α->List Lo) (l:List α):List Lo:=(1,[123])::((l.map T).flatten++[(1,[125])])
def impT (l:List ByteArray):List Lo:=if l.length=0 then [] else (2,[105,109,112,108,101,109,101,110,116,115])::nmsT 38 l
def defT (d:DefT):List Lo :=
 if d.kind=1 then (2,[116,121,112,101])::(2,d.name.data.toList)::(impT d.impl++(dirsT d.dirs++blkT fldT d.fields))
 else if d.kind=2 then (2,[105,110,116,101,114,102,97,99,101])::(2,d.name.data.toList)::(dirsT d.dirs++blkT fldT d.fields)
 else if d.kind=3 then (2,[117,110,105,111,110])::(2,d.name.data.toList)::(dirsT d.dirs++((1,[61])::nmsT 124 (d.members.map MemT.name)))
 else if d.kind=4 then (2,[101,110,117,109])::(2,d.name.data.toList)::(dirsT d.dirs++blkT memT d.members)
 else (2,[105,110,112,117,116])::(2,d.name.data.toList)::(dirsT d.dirs++blkT inpT d.inputs)
def docT (l:List DefT):List Lo:=(l.map defT).flatten
def dirsN (l:List DirT):Prop:=∀ d∈l, ∀ a∈d.args,a.2.num
def inpN (x:InpT):Prop:=x.dflt.num/\dirsN x.dirs
def fldN (x:FldT):Prop:=(∀ i∈x.args,inpN i)/\dirsN x.dirs
def defN (d:DefT):Prop:=dirsN d.dirs/\(∀ x∈d.fields,fldN x)/\(∀ x∈d.members,dirsN x.dirs)/\∀ x∈d.inputs,inpN x
theorem zf5 {α:Type} {a b:Int} {l:List α} {P : α->Bool} (h:inB a b l P=true):a<=(l.length:Int)/\(l.length:Int)<=b/\∀ x∈l,P x=true:=by
 unfold inB at h;simp only [Bool.and_eq_true,decide_eq_true_eq] at h;exact ⟨h.1.1,h.1.2,List.all_eq_true.1 h.2⟩
theorem rd_wv {t:VT} (h:litOk t=true) (hn:t.num) {us:List Tk} {q:List Lo} (hu:lo us=t.tok++q):∃ us',wvP us=.ok (t,us')/\lo us'=q:=by
 unfold litOk zd9 at h;simp only [Bool.and_eq_true,decide_eq_true_eq] at h;obtain ⟨⟨⟨h1,h2⟩,h3⟩,_,h4⟩:=h;obtain ⟨us',e1,e2⟩:=val_rd t 24 1 (by unfold VT.cst; rw [h3,h4]; rfl) hn h2 (by omega) us 0 q hu (by omega);refine ⟨us', ?_,e2⟩
 show exB (valP us 0) _=_
 rw [za2 (show valP us 0=_ from e1)]
theorem rd_arg {x:ByteArray × VT} (h:argOk x=true) (hn:x.2.num):RdT argX argT x:=fun us q hu _=>by
 unfold argOk at h;rw [Bool.and_eq_true] at h;have g1:=rd_nm (show lo us=(2,x.1.data.toList)::((1,[58])::x.2.tok++q) by rw [hu]; rfl);rw [ba_eq] at g1;have g2:=rd_sg g1.2.1;obtain ⟨us',e1,e2⟩:=rd_wv h.2 hn g2.2;refine ⟨us', ?_,e2⟩;show exB (nmR us) _=_
 rw [za2 g1.1]; simp only;rw [za2 g2.1,za2 e1]
theorem rd_par {α:Type} {el:List Tk->Except Er (α × List Tk)} {T : α->List Lo} {most:Nat} {l:List α} {us:List Tk} {q:List Lo} (hx:∀ x∈l,RdT el T x/\∃ s r,T x=(2,s)::r) (hm:l.length<=most) (hu:lo us=parT T l++q) (hl:l.length≠0) :
  isSg [40] us=true/\∃ us',blR [40] [41] most el us=.ok (l,us')/\lo us'=q:=by
 unfold parT at hu;rw [if_neg hl] at hu;have h2:lo us=(1,[40])::((l.map T).flatten++((1,[41])::q)):=by rw [hu]; simp
 exact ⟨zx2 h2,rd_bl (.inl rfl) hx h2 hm (by omega)⟩
theorem rd_dir {d:DirT} (h:dirOk d=true) (hn:∀ a∈d.args,a.2.num) (us:List Tk) (q:List Lo) (hu:lo us=dirT d++q) (hq:loSg [40] q=false):∃ us',dirX us=.ok (d,us')/\lo us'=q:=by
 unfold dirOk at h;rw [Bool.and_eq_true] at h;obtain ⟨_,h2,h3⟩:=zf5 h.2;have g1:=rd_sg (show lo us=(1,[64])::((2,d.name.data.toList)::(parT argT d.args++q)) by rw [hu]; rfl);have g2:=rd_nm g1.2;rw [ba_eq] at g2;have hd:dirX us=if isSg [40] us.tail.tail=true then exB (blR [40] [41] 16 argX us.tail.tail) fun r=>.ok (⟨d.name,r.1⟩,r.2) else .ok (⟨d.name,[]⟩,us.tail.tail):=by
  show exB (sgR [64] us) _=_
  rw [za2 g1.1,za2 g2.1]
 rw [hd];by_cases h0:d.args.length=0
 ·have h00:=List.length_eq_zero_iff.1 h0
  have hs:isSg [40] us.tail.tail=false:=by rw [sg_lo,g2.2.1]; unfold parT; rw [if_pos h0]; exact hq
  refine ⟨us.tail.tail, ?_,by rw [g2.2.1]; unfold parT; rw [if_pos h0]; rfl⟩
  rw [hs,if_neg (by simp)];obtain ⟨nm,ar⟩:=d;simp only at h00;subst h00; rfl
 ·obtain ⟨e0,us',e1,e2⟩:=rd_par (el:=argX) (most:=16) (fun x hx=>⟨rd_arg (h3 x hx) (hn x hx),_,_,rfl⟩) (by omega) g2.2.1 h0
  refine ⟨us', ?_,e2⟩
  rw [if_pos e0,za2 e1]
theorem zq1 {l:List DirT} {q:List Lo} (s:List UInt8) (hs:s≠[64]) (hq:loSg s q=false):loSg s (dirsT l++q)=false:=by
 cases l with
 | nil=>exact hq
 | cons d r =>
   show (decide ((1:Int)=1)&&decide (([64]:List UInt8)=s))=false
   simp [Ne.symm hs]
theorem rd_drs:∀ (xs l:List DirT) (us:List Tk) (f:Nat) (q:List Lo),(∀ d∈xs,dirOk d=true/\∀ a∈d.args,a.2.num)->lo us=dirsT xs++q->loSg [64] q=false->loSg [40] q=false->us.length<f->l.length+xs.length<=16->∃ us',drs dirX f l us=.ok (l++xs,us')/\lo us'=q
 | _,_,_,0,_,_,_,_,_,h,_=>absurd h (Nat.not_lt_zero _)
 | [],l,us,f+1,q,_,hu,hq,_,_,_=>by
   refine ⟨us, ?_,hu⟩
   rw [zv7,if_pos (by rw [sg_lo,hu]; exact hq),List.append_nil]
 | x::xs,l,us,f+1,q,hx,hu,hq,hq2,hf,hm=>by
   have hu2:lo us=dirT x++(dirsT xs++q):=by rw [hu]; unfold dirsT; rw [List.map_cons,List.flatten_cons,List.append_assoc]
   obtain ⟨h1,h2⟩:=hx x List.mem_cons_self;obtain ⟨us1,e1,e2⟩:=rd_dir h1 h2 us _ hu2 (zq1 _ (by decide) hq2);have hlen:us1.length<us.length:=by
    rw [<- zm2 us, <- zm2 us1,hu2,e2];simp only [List.length_append];unfold dirT; simp only [List.length_cons]; omega
   simp only [List.length_cons] at hm
   obtain ⟨us',e3,e4⟩:=rd_drs xs (l++[x]) us1 f q (fun d hd=>hx d (List.mem_cons_of_mem _ hd)) e2 hq hq2 (by omega) (by rw [List.length_append,List.length_singleton]; omega);refine ⟨us', ?_,e4⟩
   have hs:isSg [64] us=true:=by rw [sg_lo,hu2]; rfl
   have hb:bgR true l.length 16 us=.ok ():=by unfold bgR; rw [if_pos rfl,if_neg (by omega)]
   rw [zv7,if_neg (by rw [hs]; simp),za2 hb,za2 e1];simp only
   rw [e3,List.append_assoc]; rfl
theorem zn3 {l:List DirT} (h:zv9 l=true) (hn:dirsN l) {us:List Tk} {q:List Lo} (hu:lo us=dirsT l++q) (hq:loSg [64] q=false) (hq2:loSg [40] q=false):∃ us',drsR dirX us=.ok (l,us')/\lo us'=q:=by
 obtain ⟨_,h2,h3⟩:=zf5 h;obtain ⟨us',e1,e2⟩:=rd_drs l [] us (us.length+1) q (fun d hd=>⟨h3 d hd,hn d hd⟩) hu hq hq2 (Nat.lt_succ_self _) (by simp; omega);exact ⟨us',e1,e2⟩
theorem dfl_no {t:VT} (h:dflOk false t=true):t=zM2:=by
 obtain ⟨k,n,s,l,ks⟩:=t;unfold dflOk at h;rw [if_neg (by simp),Bool.and_eq_true,decide_eq_true_eq] at h;obtain ⟨rfl,h2⟩:=h;unfold zd9 at h2;simp only [Bool.and_eq_true] at h2;have h3:=h2.2;rw [zc0,Bool.and_eq_true] at h3;have h4:=h3.1;simp only [nodeB,if_true] at h4;simp only [Bool.and_eq_true,decide_eq_true_eq] at h4
 obtain ⟨rfl,rfl⟩:=leaf0 h4.2;rw [h4.1.1,size0 h4.1.2]; rfl
theorem rd_inp {x:InpT} (h:inpOk x=true) (hn:inpN x):RdT inpX inpT x:=fun us q hu hq=>by
 unfold inpOk at h;simp only [Bool.and_eq_true] at h;obtain ⟨_,h2,h3,h4⟩:=h;have g1:=rd_nm (show lo us=(2,x.name.data.toList)::((1,[58])::(refT x.tn x.tw++((if x.has=true then (1,[61])::x.dflt.tok else [])++(dirsT x.dirs++q)))) by rw [hu]; unfold inpT; simp);rw [ba_eq] at g1;have g2:=rd_sg g1.2.1
 cases hh:x.has with
 | true =>
   rw [hh,if_pos rfl] at g2;obtain ⟨u1,e1,e2⟩:=yg7 h2 g2.2 rfl;have g3:=rd_sg (show lo u1=(1,[61])::(x.dflt.tok++(dirsT x.dirs++q)) from e2);rw [hh] at h3;obtain ⟨u2,e3,e4⟩:=rd_wv (show litOk x.dflt=true from h3) hn.1 g3.2;obtain ⟨u3,e5,e6⟩:=zn3 h4 hn.2 e4 hq.1 hq.2.2.2.1;refine ⟨u3, ?_,e6⟩;show exB (nmR us) _=_
   rw [za2 g1.1]; simp only;rw [za2 g2.1,za2 e1]; simp only;rw [if_pos (zx2 (show lo u1=(1,[61])::(x.dflt.tok++(dirsT x.dirs++q)) from e2)),za2 e3]; simp only;rw [za2 e5];obtain ⟨a,b,c,d,e,f⟩:=x;simp only at hh;subst hh; rfl
 | false =>
   rw [hh,if_neg (by simp),List.nil_append] at g2;obtain ⟨u1,e1,e2⟩:=yg7 h2 g2.2 (zq1 _ (by decide) hq.2.1);obtain ⟨u3,e5,e6⟩:=zn3 h4 hn.2 e2 hq.1 hq.2.2.2.1;refine ⟨u3, ?_,e6⟩;have hs:isSg [61] u1=false:=by rw [sg_lo,e2]; exact zq1 _ (by decide) hq.2.2.1
   rw [hh] at h3;have hd:=dfl_no h3;show exB (nmR us) _=_;rw [za2 g1.1]; simp only;rw [za2 g2.1,za2 e1]; simp only;rw [hs,if_neg (by simp),za2 e5];obtain ⟨a,b,c,d,e,f⟩:=x;simp only at hh hd;subst hh; subst hd; rfl
theorem rd_fld {x:FldT} (h:fldOk x=true) (hn:fldN x):RdT fldX fldT x:=fun us q hu hq=>by
 unfold fldOk at h;simp only [Bool.and_eq_true] at h;obtain ⟨_,h2,h3,h4⟩:=h;obtain ⟨_,i2,i3⟩:=zf5 h2;have g1:=rd_nm (show lo us=(2,x.name.data.toList)::(parT inpT x.args++((1,[58])::(refT x.tn x.tw++(dirsT x.dirs++q)))) by rw [hu]; unfold fldT; simp);rw [ba_eq] at g1;have hrest:∀ (v:List Tk) (nm:ByteArray) (ar:List InpT),lo v=(1,[58])::(refT x.tn x.tw++(dirsT x.dirs++q))->∃ us',fldQ refP dirX nm ar v=.ok (⟨nm,ar,x.tn,x.tw,x.dirs⟩,us')/\lo us'=q:=by
  intro v nm ar hv;have g2:=rd_sg hv;obtain ⟨u1,e1,e2⟩:=yg7 h3 g2.2 (zq1 _ (by decide) hq.2.1);obtain ⟨u3,e5,e6⟩:=zn3 h4 hn.2 e2 hq.1 hq.2.2.2.1;refine ⟨u3, ?_,e6⟩;unfold fldQ;rw [za2 g2.1,za2 e1]; simp only;rw [za2 e5]
 have hf:fldX us=if isSg [40] us.tail=true then exB (blR [40] [41] 16 inpX us.tail) fun a=>fldQ refP dirX x.name a.1 a.2 else fldQ refP dirX x.name [] us.tail:=by
  show exB (nmR us) _=_
  rw [za2 g1.1]
 rw [hf];by_cases h0:x.args.length=0
 ·have h00:=List.length_eq_zero_iff.1 h0
  have g3:=g1.2.1;unfold parT at g3;rw [if_pos h0,List.nil_append] at g3;have hs:isSg [40] us.tail=false:=by rw [sg_lo,g3]; rfl
  obtain ⟨us',e1,e2⟩:=hrest us.tail x.name [] g3;refine ⟨us', ?_,e2⟩;rw [hs,if_neg (by simp),e1];obtain ⟨a,b,c,d,e⟩:=x;simp only at h00;subst h00; rfl
 ·obtain ⟨e0,u1,e1,e2⟩:=rd_par (el:=inpX) (most:=16) (fun y hy=>⟨rd_inp (i3 y hy) (hn.1 y hy),_,_,rfl⟩) (by omega) g1.2.1 h0
  obtain ⟨us',e3,e4⟩:=hrest u1 x.name x.args e2;refine ⟨us', ?_,e4⟩;rw [if_pos e0,za2 e1,e3]
theorem rd_mem {x:MemT} (h:zv1 x=true) (hn:dirsN x.dirs):RdT memX memT x:=fun us q hu hq=>by
 unfold zv1 at h;rw [Bool.and_eq_true] at h;have g1:=rd_nm (show lo us=(2,x.name.data.toList)::(dirsT x.dirs++q) by rw [hu]; rfl);rw [ba_eq] at g1;obtain ⟨u3,e5,e6⟩:=zn3 h.2 hn g1.2.1 hq.1 hq.2.2.2.1;refine ⟨u3, ?_,e6⟩;show exB (nmR us) _=_
 rw [za2 g1.1]; simp only;rw [za2 e5]
theorem rd_imp {l:List ByteArray} (h:inB 0 64 l nmA=true) {us:List Tk} {q:List Lo} (hu:lo us=impT l++q) (hq:loSg [38] q=false) (hq2:decide ((q.headD (0,[])).1=2)=false):∃ us',impP us=.ok (l,us')/\lo us'=q:=by
 obtain ⟨_,h2,_⟩:=zf5 h;unfold impT at hu;by_cases h0:l.length=0
 ·rw [if_pos h0,List.nil_append] at hu
  have hs:isNm us=false:=by rw [nm_lo,hu]; exact hq2
  refine ⟨us, ?_,hu⟩
  unfold impP;rw [hs,if_neg (by simp),List.length_eq_zero_iff.1 h0]
 ·rw [if_neg h0] at hu
  have g1:=rd_nm (show lo us=(2,[105,109,112,108,101,109,101,110,116,115])::(nmsT 38 l++q) by rw [hu]; rfl);have g0:=ze8 hu;obtain ⟨us',e1,e2⟩:=yg8 g1.2.1 hq (by omega) (by omega);refine ⟨us', ?_,e2⟩
  unfold impP;rw [if_pos ⟨g1.2.2,by rw [g0.2.1]; rfl⟩,e1]
theorem kd_1 {us:List Tk} {q:List Lo} (h:lo us=(2,[116,121,112,101])::q):kdR (hd us)=1:=by
 obtain ⟨h1,h2,_⟩:=ze8 h;unfold kdR; rw [h1,h2]; rfl
theorem kd_2 {us:List Tk} {q:List Lo} (h:lo us=(2,[105,110,116,101,114,102,97,99,101])::q):kdR (hd us)=2:=by
 obtain ⟨h1,h2,_⟩:=ze8 h;unfold kdR; rw [h1,h2]; decide
theorem kd_3 {us:List Tk} {q:List Lo} (h:lo us=(2,[117,110,105,111,110])::q):kdR (hd us)=3:=by
 obtain ⟨h1,h2,_⟩:=ze8 h;unfold kdR; rw [h1,h2]; decide
theorem kd_4 {us:List Tk} {q:List Lo} (h:lo us=(2,[101,110,117,109])::q):kdR (hd us)=4:=by
 obtain ⟨h1,h2,_⟩:=ze8 h;unfold kdR; rw [h1,h2]; decide
theorem kd_5 {us:List Tk} {q:List Lo} (h:lo us=(2,[105,110,112,117,116])::q):kdR (hd us)=5:=by
 obtain ⟨h1,h2,_⟩:=ze8 h;unfold kdR; rw [h1,h2]; decide
theorem zU1 {α:Type} {el:List Tk->Except Er (α × List Tk)} {T : α->List Lo} {most:Nat} {l:List α} {us:List Tk} {q:List Lo} (hx:∀ x∈l,RdT el T x/\∃ s r,T x=(2,s)::r) (hm:l.length<=most) (h1:1<=l.length) (hu:lo us=blkT T l++q) :
  ∃ us',blR [123] [125] most el us=.ok (l,us')/\lo us'=q :=
 rd_bl (.inr rfl) hx (show lo us=(1,[123])::((l.map T).flatten++((1,[125])::q)) by rw [hu]; unfold blkT; simp) hm h1
theorem zh7 {α:Type} {l:List α} {P : α->Bool} (h:inB 0 0 l P=true):l=[]:=by
 obtain ⟨_,h2,_⟩:=zf5 h;exact List.length_eq_zero_iff.1 (by omega)
theorem rd_def {d:DefT} (h:defOk d=true) (hn:defN d) {us:List Tk} {q:List Lo} (hu:lo us=defT d++q) (hq:Fo q):kdR (hd us)≠0/\∃ us',defX (kdR (hd us)) us=.ok (d,us')/\lo us'=q:=by
 unfold defOk at h;simp only [Bool.and_eq_true] at h;obtain ⟨_,hd,hp⟩:=h;obtain ⟨kd,nm,im,ds,fs,ms,is⟩:=d;obtain ⟨n1,n2,n3,n4⟩:=hn
 try simp only at hd n1 n2 n3 n4
 unfold zH0 at hp;unfold defT at hu
 try simp only at hp hu
 split at hp
 ·next e =>
  subst e;rw [if_pos rfl] at hu;unfold zo7 at hp;simp only [Bool.and_eq_true] at hp;obtain ⟨p1,p2,p3,p4⟩:=hp;have e3:=zh7 p3;have e4:=zh7 p4
  try simp only at e3 e4
  subst e3; subst e4;obtain ⟨_,f2,f3⟩:=zf5 p2;have hu2:lo us=(2,[116,121,112,101])::((2,nm.data.toList)::(impT im++(dirsT ds++(blkT fldT fs++q)))):=by rw [hu]; simp
  rw [kd_1 hu2];have g1:=rd_nm (rd_nm hu2).2.1;rw [ba_eq] at g1;obtain ⟨u1,a1,b1⟩:=rd_imp p1 g1.2.1 (zq1 _ (by decide) rfl) (by cases ds <;> rfl);obtain ⟨u2,a2,b2⟩:=zn3 hd n1 b1 rfl rfl;obtain ⟨u3,a3,b3⟩:=zU1 (el:=fldX) (most:=64) (fun x hx=>⟨rd_fld (f3 x hx) (n2 x hx),_,_,rfl⟩) (by omega) (by have:=(zf5 p2).1; (try simp only at this); omega) b2;refine ⟨by decide,u3, ?_,b3⟩
  show exB (nmR us.tail) _=_
  rw [za2 g1.1]; simp only;rw [za2 a1]; simp only;rw [za2 a2]; simp only;rw [za2 a3]
 split at hp
 ·next e =>
  subst e;rw [if_neg (by decide),if_pos rfl] at hu;unfold zo7 at hp;simp only [Bool.and_eq_true] at hp;obtain ⟨p1,p2,p3,p4⟩:=hp;have e1:=zh7 p1;have e3:=zh7 p3;have e4:=zh7 p4
  try simp only at e1 e3 e4
  subst e1; subst e3; subst e4;obtain ⟨f1,f2,f3⟩:=zf5 p2
  try simp only at f1 f2
  have hu2:lo us=(2,[105,110,116,101,114,102,97,99,101])::((2,nm.data.toList)::(dirsT ds++(blkT fldT fs++q))):=by rw [hu]; simp
  rw [kd_2 hu2];have g1:=rd_nm (rd_nm hu2).2.1;rw [ba_eq] at g1;obtain ⟨u2,a2,b2⟩:=zn3 hd n1 g1.2.1 rfl rfl;obtain ⟨u3,a3,b3⟩:=zU1 (el:=fldX) (most:=64) (fun x hx=>⟨rd_fld (f3 x hx) (n2 x hx),_,_,rfl⟩) (by omega) (by omega) b2;refine ⟨by decide,u3, ?_,b3⟩
  show exB (nmR us.tail) _=_
  rw [za2 g1.1]; simp only;rw [za2 a2]; simp only;rw [za2 a3]
 split at hp
 ·next e =>
  subst e;rw [if_neg (by decide),if_neg (by decide),if_pos rfl] at hu;unfold zo7 at hp;simp only [Bool.and_eq_true] at hp;obtain ⟨p1,p2,p3,p4⟩:=hp;have e1:=zh7 p1;have e2:=zh7 p2;have e4:=zh7 p4
  try simp only at e1 e2 e4
  subst e1; subst e2; subst e4;obtain ⟨f1,f2,f3⟩:=zf5 p3
  try simp only at f1 f2 f3
  have hu2:lo us=(2,[117,110,105,111,110])::((2,nm.data.toList)::(dirsT ds++((1,[61])::(nmsT 124 (ms.map MemT.name)++q)))):=by rw [hu]; simp
  rw [kd_3 hu2];have g1:=rd_nm (rd_nm hu2).2.1;rw [ba_eq] at g1;obtain ⟨u2,a2,b2⟩:=zn3 hd n1 g1.2.1 rfl rfl;have g3:=rd_sg b2;obtain ⟨u3,a3,b3⟩:=yg8 g3.2 hq.2.2.2.2.1 (by rw [List.length_map]; omega) (by rw [List.length_map]; omega);have hm:(ms.map MemT.name).map memOf=ms:=by
   rw [List.map_map]
   conv=>rhs; rw [<- List.map_id ms]
   refine List.map_congr_left fun x hx=>?_
   have h5:=f3 x hx;unfold zr7 at h5;rw [Bool.and_eq_true,decide_eq_true_eq] at h5;obtain ⟨a,b⟩:=x;have:=List.length_eq_zero_iff.1 h5.2;simp only at this;subst this; rfl
  refine ⟨by decide,u3, ?_,b3⟩
  show exB (nmR us.tail) _=_
  rw [za2 g1.1]; simp only;rw [za2 a2]; simp only;unfold uniP;rw [za2 g3.1,za2 a3];simp only;rw [hm]; rfl
 split at hp
 ·next e =>
  subst e;rw [if_neg (by decide),if_neg (by decide),if_neg (by decide),if_pos rfl] at hu;unfold zo7 at hp;simp only [Bool.and_eq_true] at hp;obtain ⟨p1,p2,p3,p4⟩:=hp;have e1:=zh7 p1;have e2:=zh7 p2;have e4:=zh7 p4
  try simp only at e1 e2 e4
  subst e1; subst e2; subst e4;obtain ⟨f1,f2,f3⟩:=zf5 p3
  try simp only at f1 f2 f3
  have hu2:lo us=(2,[101,110,117,109])::((2,nm.data.toList)::(dirsT ds++(blkT memT ms++q))):=by rw [hu]; simp
  rw [kd_4 hu2];have g1:=rd_nm (rd_nm hu2).2.1;rw [ba_eq] at g1;obtain ⟨u2,a2,b2⟩:=zn3 hd n1 g1.2.1 rfl rfl;obtain ⟨u3,a3,b3⟩:=zU1 (el:=memX) (most:=64) (fun x hx=>⟨rd_mem (f3 x hx) (n3 x hx),_,_,rfl⟩) (by omega) (by omega) b2;refine ⟨by decide,u3, ?_,b3⟩
  show exB (nmR us.tail) _=_
  rw [za2 g1.1]; simp only;rw [za2 a2]; simp only;rw [za2 a3]
 split at hp
 ·next h1 h2 h3 h4 e =>
  subst e;rw [if_neg (by decide),if_neg (by decide),if_neg (by decide),if_neg (by decide)] at hu;unfold zo7 at hp;simp only [Bool.and_eq_true] at hp;obtain ⟨p1,p2,p3,p4⟩:=hp;have e1:=zh7 p1;have e2:=zh7 p2;have e3:=zh7 p3
  try simp only at e1 e2 e3
  subst e1; subst e2; subst e3;obtain ⟨f1,f2,f3⟩:=zf5 p4
  try simp only at f1 f2 f3
  have hu2:lo us=(2,[105,110,112,117,116])::((2,nm.data.toList)::(dirsT ds++(blkT inpT is++q))):=by rw [hu]; simp
  rw [kd_5 hu2];have g1:=rd_nm (rd_nm hu2).2.1;rw [ba_eq] at g1;obtain ⟨u2,a2,b2⟩:=zn3 hd n1 g1.2.1 rfl rfl;obtain ⟨u3,a3,b3⟩:=zU1 (el:=inpX) (most:=16) (fun x hx=>⟨rd_inp (f3 x hx) (n4 x hx),_,_,rfl⟩) (by omega) (by omega) b2;refine ⟨by decide,u3, ?_,b3⟩
  show exB (nmR us.tail) _=_
  rw [za2 g1.1]; simp only;rw [za2 a2]; simp only;rw [za2 a3]
 ·cases hp
theorem zW0 (d:DefT):∃ s r,defT d=(2,s)::r:=by
 unfold defT
 repeat' split
 all_goals exact ⟨_,_,rfl⟩
theorem yg9:∀ (xs l:List DefT) (us:List Tk) (f:Nat),(∀ d∈xs,defOk d=true/\defN d)->lo us=docT xs++[(5,[])]->us.length<f->l.length+xs.length<=64->1<=l.length+xs.length->∃ us',docP defX f l us=.ok (l++xs,us')/\lo us'=[(5,[])]
 | _,_,_,0,_,_,h,_,_=>absurd h (Nat.not_lt_zero _)
 | [],l,us,f+1,_,hu,_,_,h1=>by
   refine ⟨us, ?_,hu⟩
   rw [zq0,if_pos ⟨by simp at h1; omega,(ze8 (show lo us=(5,[])::[] from hu)).1⟩,List.append_nil]
 | x::xs,l,us,f+1,hx,hu,hf,hm,_=>by
   have hu2:lo us=defT x++(docT xs++[(5,[])]):=by rw [hu]; unfold docT; rw [List.map_cons,List.flatten_cons,List.append_assoc]
   have hfo:Fo (docT xs++[(5,[])]):=by
    cases xs with
    | nil=>exact Fo.e5
    | cons y ys =>
      obtain ⟨s',r',hT'⟩:=zW0 y;unfold docT;rw [List.map_cons,List.flatten_cons,hT'];exact Fo.nm
   obtain ⟨h1,h2⟩:=hx x List.mem_cons_self;obtain ⟨hk,us1,e1,e2⟩:=rd_def h1 h2 hu2 hfo;obtain ⟨s,r,hT⟩:=zW0 x;have hlen:us1.length<us.length:=by
    rw [<- zm2 us, <- zm2 us1,hu2,e2];simp only [List.length_append];rw [hT];simp only [List.length_cons]; omega
   have h5:(hd us).1≠5:=by rw [(ze8 (show lo us=(2,s)::(r++(docT xs++[(5,[])])) by rw [hu2,hT]; rfl)).1]; decide
   simp only [List.length_cons] at hm
   obtain ⟨us',h3,h4⟩:=yg9 xs (l++[x]) us1 f (fun y hy=>hx y (List.mem_cons_of_mem _ hy)) e2 (by omega) (by rw [List.length_append,List.length_singleton]; omega) (by rw [List.length_append,List.length_singleton]; omega);refine ⟨us', ?_,h4⟩
   have hb:bgR (decide (kdR (hd us)≠0)) l.length 64 us=.ok ():=by
    unfold bgR; rw [if_pos (decide_eq_true hk),if_neg (by omega)]
   rw [zq0,if_neg (fun h=>h5 h.2),za2 hb,za2 e1];simp only;rw [h3,List.append_assoc]; rfl
theorem rd_doc {xs:List DefT} (h:docOk xs=true) (hn:∀ d∈xs,defN d) {us:List Tk} (hu:lo us=docT xs++[(5,[])]):∃ us',docR defX us=.ok (xs,us'):=by
 obtain ⟨h1,h2,h3⟩:=zf5 h;obtain ⟨us',e,_⟩:=yg9 xs [] us (us.length+1) (fun d hd=>⟨h3 d hd,hn d hd⟩) hu (Nat.lt_succ_self _) (by simp; omega) (by simp; omega);exact ⟨us',e⟩
theorem sdl_of {xs:List DefT} (h:docOk xs=true) (hn:∀ d∈xs,defN d) {s:List UInt8} (hs:K.Sc s (docT xs)) (hl:s.length<=65536):sdlR s=.ok xs:=by
 obtain ⟨ts,h1,h2⟩:=hs.scR hl;obtain ⟨us',e⟩:=rd_doc h hn (show lo ts=_ from h2);unfold sdlR sdlF;rw [h1];show exB (docR defX ts) _=_;rw [za2 e]
def jn (sep:List UInt8):List (List UInt8)->List UInt8
 | []=>[]
 | a::r=>a++(r.map (fun x=>sep++x)).flatten
theorem jn_nil (sep:List UInt8):jn sep []=[]:=rfl
theorem jn_snoc (sep:List UInt8) (xs:List (List UInt8)) (a:List UInt8):jn sep (xs++[a])=jn sep xs++((if xs.length=0 then [] else sep)++a):=by
 cases xs with
 | nil=>simp [jn]
 | cons x r=>simp [jn]
theorem zG2 {α:Type} {xs:List α} {j:Nat} {a : α} (h:xs[j]?=some a):xs.take (j+1)=xs.take j++[a]:=by
 obtain ⟨hj,e⟩:=List.getElem?_eq_some_iff.1 h;rw [List.take_succ_eq_append_getElem hj,e]
theorem zp8 (sep:List UInt8) {xs:List (List UInt8)} {j:Nat} {a:List UInt8} (h:xs[j]?=some a):jn sep (xs.take (j+1))=jn sep (xs.take j)++((if j=0 then [] else sep)++a):=by
 obtain ⟨hj,_⟩:=List.getElem?_eq_some_iff.1 h;rw [zG2 h,jn_snoc,List.length_take,Nat.min_eq_left (by omega)]
theorem jn_mono (sep:List UInt8) (xs:List (List UInt8)):∀ (j:Nat),(jn sep (xs.take j)).length<=(jn sep xs).length:=by
 intro j
 cases xs with
 | nil=>simp
 | cons x r =>
   cases j with
   | zero=>simp [jn]
   | succ j =>
     simp only [List.take_succ_cons,jn,List.length_append]
     have:(List.map (fun x=>sep++x) r).flatten.length=(List.map (fun x=>sep++x) (r.take j)).flatten.length+(List.map (fun x=>sep++x) (r.drop j)).flatten.length:=by
      rw [<- List.length_append, <- List.flatten_append, <- List.map_append,List.take_append_drop]
     omega
theorem zh1 (sep:List UInt8) {xs:List (List UInt8)} {j:Nat} {a:List UInt8} (h:xs[j]?=some a):(jn sep (xs.take j)).length+((if j=0 then [] else sep:List UInt8)).length+a.length<=(jn sep xs).length:=by
 have:=jn_mono sep xs (j+1);rw [zp8 sep h] at this;simp only [List.length_append] at this ⊢;omega
def bL (s:ByteArray):List UInt8:=s.data.toList
theorem za5 (s:ByteArray):(bL s).length=s.size:=by unfold bL; rw [Array.length_toList]; rfl
theorem za3 (l:List UInt8):(⟨l.toArray⟩ : ByteArray).size=l.length:=rfl
theorem za8 (l:List UInt8):bL ⟨l.toArray⟩=l:=rfl
def nullB:List UInt8:=[110,117,108,108]
def falseB:List UInt8:=[102,97,108,115,101]
def trueB:List UInt8:=[116,114,117,101]
def qL (s:ByteArray):List UInt8:=T1.zj4 s.data.toList
mutual
def VT.src:VT->List UInt8
 | .mk k n s items keys =>
   if k=0 then nullB else if k=1 then (if n=0 then falseB else trueB) else if k=2 then Lib.itoa n else if k=3 then qL s else if k=4 then bL s
   else if k=5 then 91::(jn [44,32] (VT.srcs items)++[93]) else if k=6 then 123::(jn [44,32] (List.zipWith (fun a b=>bL a++(58::32::b)) keys (VT.srcs items))++[125])
   else if k=7 then 36::bL s else []
def VT.srcs:List VT->List (List UInt8)
 | []=>[]
 | t::r=>t.src::VT.srcs r
end
theorem zT5:∀ l:List VT,VT.srcs l=l.map VT.src
 | []=>rfl
 | t::r=>by rw [VT.srcs,zT5 r]; rfl
def zh6 (keys:List ByteArray) (items:List VT):List (List UInt8):=List.zipWith (fun a b=>bL a++(58::32::b)) keys (items.map VT.src)
theorem zo9 (k n:Int) (s:ByteArray) (items:List VT) (keys:List ByteArray):(VT.mk k n s items keys).src =
  if k=0 then nullB else if k=1 then (if n=0 then falseB else trueB) else if k=2 then Lib.itoa n else if k=3 then qL s else if k=4 then bL s
  else if k=5 then 91::(jn [44,32] (items.map VT.src)++[93]) else if k=6 then 123::(jn [44,32] (zh6 keys items)++[125])
  else if k=7 then 36::bL s else []:=by
 rw [VT.src,zT5]; rfl
mutual
def VT.fit:VT->Prop
 | .mk k n s items keys=>(0<=k/\k<=7)/\(k=1->n=0∨n=1)/\(k=6->keys.length=items.length)/\(k=4->0<s.size)/\s.size<=1099511627776/\VT.fits items
def VT.fits:List VT->Prop
 | []=>True
 | t::r=>t.fit/\VT.fits r
end
theorem yn7:∀ {l:List VT} {i:Nat} {t:VT},VT.fits l->l[i]?=some t->t.fit
 | [],i,t,_,h=>by simp at h
 | x::r,0,t,hf,h=>by simp at h; subst h; rw [VT.fits] at hf; exact hf.1
 | x::r,i+1,t,hf,h=>by rw [VT.fits] at hf; exact yn7 hf.2 (by simpa using h)
theorem yn6:∀ {l:List VT},(∀ t∈l,t.fit)->VT.fits l
 | [],_=>trivial
 | x::r,h=>⟨h x (by simp),yn6 fun t ht=>h t (by simp [ht])⟩
def zy3 (x:ByteArray × VT):List UInt8:=bL x.1++([58,32]++x.2.src)
def zy0 (d:DirT):List UInt8:=[64]++(bL d.name++(if d.args.length=0 then [] else [40]++(jn [44,32] (d.args.map zy3)++[41])))
def zI2 (l:List DirT):List UInt8:=jn [32] (l.map zy0)
def zd2 (l:List DirT):List UInt8:=if l.length=0 then [] else [32]++zI2 l
def zp4 (n:ByteArray) (ws:List Int):List UInt8:=K.prL n.data.toList ws
def zm3 (x:InpT):List UInt8:=bL x.name++([58,32]++(zp4 x.tn x.tw++((if x.has=true then [32,61,32]++x.dflt.src else [])++zd2 x.dirs)))
def zm8 (x:FldT):List UInt8:=bL x.name++((if x.args.length=0 then [] else [40]++(jn [44,32] (x.args.map zm3)++[41]))++([58,32]++(zp4 x.tn x.tw++zd2 x.dirs)))
def zi6 (x:MemT):List UInt8:=bL x.name++zd2 x.dirs
def zb6 (a:List UInt8):List UInt8:=[32,32]++(a++[10])
def zj7 (ds:List DirT) (ls:List (List UInt8)):List UInt8:=zd2 ds++([32,123,10]++((ls.map zb6).flatten++[125,10]))
def zp9 (l:List ByteArray):List UInt8:=if l.length=0 then [] else [32,105,109,112,108,101,109,101,110,116,115,32]++jn [32,38,32] (l.map bL)
def zJ8 (ds:List DirT) (l:List MemT):List UInt8:=zd2 ds++([32,61,32]++(jn [32,124,32] (l.map zi6)++[10]))
def wType:List UInt8:=[116,121,112,101,32]
def wInterface:List UInt8:=[105,110,116,101,114,102,97,99,101,32]
def wUnion:List UInt8:=[117,110,105,111,110,32]
def wEnum:List UInt8:=[101,110,117,109,32]
def wInput:List UInt8:=[105,110,112,117,116,32]
def zk1 (d:DefT):List UInt8 :=
 if d.kind=1 then wType++(bL d.name++(zp9 d.impl++zj7 d.dirs (d.fields.map zm8)))
 else if d.kind=2 then wInterface++(bL d.name++zj7 d.dirs (d.fields.map zm8))
 else if d.kind=3 then wUnion++(bL d.name++zJ8 d.dirs d.members)
 else if d.kind=4 then wEnum++(bL d.name++zj7 d.dirs (d.members.map zi6))
 else if d.kind=5 then wInput++(bL d.name++zj7 d.dirs (d.inputs.map zm3))
 else []
def zh9 (l:List DefT):List UInt8:=jn [10] (l.map zk1)
end Go.Proofs.YtfgelheiknmjgaaGreatDoor

