
/-
 Texts joined: Td Te Tf N0 Tg Th.
-/
import Derived.Test.YtfgelheiknmjgaaGreatDoorZr22
import Derived.Test.YtfgelheiknmjgaaGreatDoorZr24
import Derived.Test.YtfgelheiknmjgaaGreatDoorZr6
import Derived.Test.YtfgelheiknmjgaaGreatDoorZr1
import Derived.Lib.ItoaLen
set_option maxRecDepth 1000000
set_option maxHeartbeats 8000000
namespace Go.Proofs.YtfgelheiknmjgaaGreatDoor
open Go.RowKit
def wrT (w:Int):Lo:=if w=1 then (1,[33]) else (1,[93])
def refT (n:ByteArray) (ws:List Int):List Lo:=List.replicate (K.strL ws).length (1,[91])++((2,n.data.toList)::ws.reverse.map wrT)
theorem wl_snoc:∀ (ls:List Bool) (b:Bool),ls≠[]->K.wlL (ls++[b])=K.wlL ls++(2::K.bitL b)
 | [],_,h=>absurd rfl h
 | c::r,b,_=>by
   show K.bitL c++K.mrL (r++[b])=(K.bitL c++K.mrL r)++(2::K.bitL b)
   unfold K.mrL;rw [List.flatMap_append,List.append_assoc];simp
theorem yj2 (b:Bool):(K.bitL b).reverse=K.bitL b:=by cases b <;> rfl
theorem wl_rev:∀ ls:List Bool,(K.wlL ls).reverse=K.wlL ls.reverse
 | []=>rfl
 | b::r=>by
   rw [List.reverse_cons];by_cases h:r=[]
   ·subst h; show (K.bitL b++[]).reverse=K.bitL b++[]; rw [List.append_nil,yj2]
   ·rw [wl_snoc _ _ (by simpa using h), <- wl_rev r]
    cases r with
    | nil=>exact absurd rfl h
    | cons c r =>
      show (K.bitL b++((2::K.bitL c)++K.mrL r)).reverse=(K.bitL c++K.mrL r).reverse++2::K.bitL b
      simp [yj2]
theorem rd_nn {us:List Tk} {b:Bool} {q:List Lo} (xs:List Int) (h:lo us=(K.bitL b).map wrT++q) (hq:loSg [33] q=false):∃ us',nnP xs us=(xs++K.bitL b,us')/\lo us'=q:=by
 cases b with
 | true =>
   refine ⟨us.tail, ?_,(rd_sg (s:=[33]) (r:=q) h).2⟩
   unfold nnP;rw [if_pos (zt8 (s:=[33]) (r:=q) h)]; rfl
 | false =>
   refine ⟨us, ?_,h⟩
   unfold nnP;rw [sg_lo,h,if_neg (by show ¬ loSg [33] q=true; rw [hq]; simp)]
   show _=(xs++[],us)
   rw [List.append_nil]
theorem rd_cls:∀ (r:List Bool) (us:List Tk) (q:List Lo) (xs:List Int),lo us=(K.mrL r).map wrT++q->loSg [33] q=false->∃ us',cls r.length xs us=.ok (xs++K.mrL r,us')/\lo us'=q
 | [],us,q,xs,h,_=>⟨us,by show _=Except.ok (xs++[],us); rw [List.append_nil]; rfl,h⟩
 | b::r,us,q,xs,h,hq=>by
   have h2:lo us=(1,[93])::((K.bitL b).map wrT++((K.mrL r).map wrT++q)):=by
    rw [h];show ((2::K.bitL b)++K.mrL r).map wrT++q=_
    rw [List.map_append,List.append_assoc]; rfl
   have g:=rd_sg h2;obtain ⟨u1,e1,e2⟩:=rd_nn (xs++[2]) g.2 (by
    cases r with
    | nil=>exact hq
    | cons c r=>rfl)
   obtain ⟨u2,e3,e4⟩:=rd_cls r u1 q (xs++[2]++K.bitL b) e2 hq;refine ⟨u2, ?_,e4⟩
   show exB (sgR [93] us) _=_
   rw [za3 g.1,e1];simp only
   rw [e3];show _=Except.ok (xs++((2::K.bitL b)++K.mrL r),u2)
   simp
theorem rd_brk:∀ (k:Nat) (us:List Tk) (q:List Lo),lo us=List.replicate k (1,[91])++q->loSg [91] q=false->q≠[]->(brk us).1=k/\lo (brk us).2=q
 | 0,[],q,h,_,hn=>absurd h.symm hn
 | 0,t::us,q,h,hq,_=>by
   have:isSg [91] (t::us)=false:=by rw [sg_lo,h]; exact hq
   unfold brk;rw [this,if_neg (by simp)]
   exact ⟨rfl,h⟩
 | k+1,[],q,h,_,_=>by cases h
 | k+1,t::us,q,h,hq,hn=>by
   have h2:lo (t::us)=(1,[91])::(List.replicate k (1,[91])++q):=h;have:=rd_brk k us q (rd_sg h2).2 hq hn;unfold brk;rw [zt8 h2,if_pos rfl];exact ⟨by rw [this.1],this.2⟩
theorem yc2 {n:ByteArray} {ws:List Int} (hok:K.okB n ws=true) {us:List Tk} {q:List Lo} (h:lo us=refT n ws++q) (hq:loSg [33] q=false):∃ us',refP us=.ok ((n,ws),us')/\lo us'=q:=by
 unfold K.okB at hok;simp only [Bool.and_eq_true,decide_eq_true_eq] at hok
 obtain ⟨⟨_,h24⟩,hrt⟩:=hok;have hwl:=K.wl_lv hrt;have hne:K.lv ws≠[]:=by intro e; have:=K.lv_len ws; rw [e] at this; simp at this
 obtain ⟨c,r,hr⟩ : ∃ c r,(K.lv ws).reverse=c::r:=by
  cases hh:(K.lv ws).reverse with
  | nil=>exact absurd (List.reverse_eq_nil_iff.1 hh) hne
  | cons c r=>exact ⟨c,r,rfl⟩
 have hrev:ws.reverse=K.bitL c++K.mrL r:=by
  rw [<- hwl,wl_rev,hr]; rfl
 have hk:(K.strL ws).length=r.length:=by
  have:=K.lv_len ws;have h2:=congrArg List.length hr;rw [List.length_reverse,List.length_cons] at h2;omega
 unfold refT at h;rw [List.append_assoc,List.cons_append] at h;obtain ⟨g1,g2⟩:=rd_brk _ us _ h rfl (by simp)
 have g3:=rd_nm g2;rw [ba_eq] at g3;have g4:=g3.2.1;rw [hrev,List.map_append,List.append_assoc] at g4;obtain ⟨u1,e1,e2⟩:=rd_nn [] g4 (by
  cases r with
  | nil=>exact hq
  | cons d r=>rfl)
 obtain ⟨u2,e3,e4⟩:=rd_cls r u1 q ([]++K.bitL c) e2 hq;refine ⟨u2, ?_,e4⟩
 unfold refP;rw [za3 g3.1];simp only
 rw [e1,g1,hk];simp only
 rw [za3 e3];unfold refE;simp only
 rw [List.nil_append, <- hrev,List.length_reverse,if_neg (by omega),List.reverse_reverse]
def Fo (q:List Lo):Prop:=loSg [64] q=false/\loSg [33] q=false/\loSg [61] q=false/\loSg [40] q=false/\loSg [124] q=false/\loSg [38] q=false
def RdT {α:Type} (el:List Tk->Except Er (α × List Tk)) (T : α->List Lo) (x : α):Prop:=∀ (us:List Tk) (q:List Lo),lo us=T x++q->Fo q->∃ us',el us=.ok (x,us')/\lo us'=q
theorem Fo.nm {s:List UInt8} {q:List Lo}:Fo ((2,s)::q):=⟨rfl,rfl,rfl,rfl,rfl,rfl⟩
theorem Fo.e5 {s:List UInt8} {q:List Lo}:Fo ((5,s)::q):=⟨rfl,rfl,rfl,rfl,rfl,rfl⟩
theorem rd_bls {α:Type} {el:List Tk->Except Er (α × List Tk)} {T : α->List Lo} {cl:UInt8} {most:Nat} (hcl:cl=41∨cl=125):∀ (xs l:List α) (us:List Tk) (f:Nat) (q:List Lo),(∀ x∈xs,RdT el T x/\∃ s r,T x=(2,s)::r) ->
  lo us=(xs.map T).flatten++((1,[cl])::q)->us.length<f->l.length+xs.length<=most->1<=l.length+xs.length->∃ us',bls [cl] most el f l us=.ok (l++xs,us')/\lo us'=q
 | _,_,_,0,_,_,_,h,_,_=>absurd h (Nat.not_lt_zero _)
 | [],l,us,f+1,q,_,hu,_,_,h1=>by
   refine ⟨us.tail, ?_,(rd_sg hu).2⟩
   rw [zf9,if_pos ⟨by simp at h1; omega,zt8 hu⟩,List.append_nil]
 | x::xs,l,us,f+1,q,hx,hu,hf,hm,_=>by
   obtain ⟨hr,s,r,hT⟩:=hx x List.mem_cons_self;have hu2:lo us=T x++((xs.map T).flatten++((1,[cl])::q)):=by rw [hu,List.map_cons,List.flatten_cons,List.append_assoc]
   have hfo:Fo ((xs.map T).flatten++((1,[cl])::q)):=by
    cases xs with
    | nil=>rcases hcl with rfl | rfl <;> exact ⟨rfl,rfl,rfl,rfl,rfl,rfl⟩
    | cons y ys =>
      obtain ⟨_,s',r',hT'⟩:=hx y (by simp)
      rw [List.map_cons,List.flatten_cons,hT'];exact Fo.nm
   obtain ⟨us1,h1,h2⟩:=hr us _ hu2 hfo;have hlen:us1.length<us.length:=by
    rw [<- zk1 us, <- zk1 us1,hu2,h2];simp only [List.length_append]
    rw [hT];simp only [List.length_cons]; omega
   simp only [List.length_cons] at hm
   obtain ⟨us',h3,h4⟩:=rd_bls (most:=most) hcl xs (l++[x]) us1 f q (fun y hy=>hx y (List.mem_cons_of_mem _ hy)) h2 (by omega) (by rw [List.length_append,List.length_singleton]; omega) (by rw [List.length_append,List.length_singleton]; omega)
   refine ⟨us', ?_,h4⟩
   have hu3:lo us=(2,s)::(r++((xs.map T).flatten++((1,[cl])::q))):=by rw [hu2,hT]; rfl
   have hs:isSg [cl] us=false:=by rw [sg_lo,hu3]; rfl
   have hb:bgR (isNm us) l.length most us=.ok ():=by
    rw [(rd_nm hu3).2.2]; unfold bgR; rw [if_pos rfl,if_neg (by omega)]
   rw [zf9,if_neg (by rw [hs]; simp),za3 hb,za3 h1]
   simp only
   rw [h3,List.append_assoc]; rfl
theorem rd_bl {α:Type} {el:List Tk->Except Er (α × List Tk)} {T : α->List Lo} {op cl:UInt8} {most:Nat} (hcl:cl=41∨cl=125) {xs:List α} {us:List Tk} {q:List Lo} (hx:∀ x∈xs,RdT el T x/\∃ s r,T x=(2,s)::r)
  (hu:lo us=(1,[op])::((xs.map T).flatten++((1,[cl])::q))) (hm:xs.length<=most) (h1:1<=xs.length):∃ us',blR [op] [cl] most el us=.ok (xs,us')/\lo us'=q:=by
 have g:=rd_sg hu;obtain ⟨us',e1,e2⟩:=rd_bls (most:=most) hcl xs [] us.tail (us.tail.length+1) q hx g.2 (Nat.lt_succ_self _) (by simpa using hm) (by simpa using h1)
 refine ⟨us', ?_,e2⟩
 unfold blR;rw [za3 g.1,e1]; rfl
theorem rd_nms {c:UInt8}:∀ (xs l:List ByteArray) (us:List Tk) (f:Nat) (q:List Lo),lo us=(xs.map fun x=>[((1:Int),[c]),(2,x.data.toList)]).flatten++q->loSg [c] q=false->us.length<f->l.length≠0->l.length+xs.length<=64 ->
  ∃ us',nms [c] f l us=.ok (l++xs,us')/\lo us'=q
 | _,_,_,0,_,_,_,h,_,_=>absurd h (Nat.not_lt_zero _)
 | [],l,us,f+1,q,hu,hq,_,h0,_=>by
   refine ⟨us, ?_,hu⟩
   rw [zl6,if_pos ⟨h0,by rw [sg_lo,hu]; exact hq⟩,List.append_nil]
 | x::xs,l,us,f+1,q,hu,hq,hf,h0,hm=>by
   have hu2:lo us=(1,[c])::(2,x.data.toList)::((xs.map fun x=>[((1:Int),[c]),(2,x.data.toList)]).flatten++q):=by rw [hu]; rfl
   have g1:=rd_sg hu2;have g2:=rd_nm g1.2;rw [ba_eq] at g2;simp only [List.length_cons] at hm
   have hlen:us.tail.tail.length<us.length:=by
    rw [<- zk1 us, <- zk1 us.tail.tail,hu2,g2.2.1];simp only [List.length_cons]; omega
   obtain ⟨us',h3,h4⟩:=rd_nms xs (l++[x]) us.tail.tail f q g2.2.1 hq (by omega) (by simp) (by rw [List.length_append,List.length_singleton]; omega)
   refine ⟨us', ?_,h4⟩
   have hb:bgR (isNm us.tail) l.length 64 us.tail=.ok ():=by rw [g2.2.2]; unfold bgR; rw [if_pos rfl,if_neg (by omega)]
   rw [zl6,if_neg (by rw [zt8 hu2]; simp),if_neg h0,za3 hb,za3 g2.1]
   simp only
   rw [h3,List.append_assoc]; rfl
def nmsT (c:UInt8):List ByteArray->List Lo
 | []=>[]
 | x::xs=>(2,x.data.toList)::(xs.map fun x=>[((1:Int),[c]),(2,x.data.toList)]).flatten
theorem yc3 {c:UInt8} {xs:List ByteArray} {us:List Tk} {q:List Lo} (hu:lo us=nmsT c xs++q) (hq:loSg [c] q=false) (h1:1<=xs.length) (hm:xs.length<=64):∃ us',nmsR [c] us=.ok (xs,us')/\lo us'=q:=by
 cases xs with
 | nil=>simp at h1
 | cons x xs =>
   have hu2:lo us=(2,x.data.toList)::((xs.map fun x=>[((1:Int),[c]),(2,x.data.toList)]).flatten++q):=by rw [hu]; rfl
   have g2:=rd_nm hu2;rw [ba_eq] at g2;simp only [List.length_cons] at hm
   have hlen:us.tail.length<us.length:=by
    rw [<- zk1 us, <- zk1 us.tail,hu2,g2.2.1]; simp
   obtain ⟨us',h3,h4⟩:=rd_nms xs [x] us.tail us.length q g2.2.1 hq hlen (by simp) (by simp; omega)
   refine ⟨us', ?_,h4⟩
   have hb:bgR (isNm us) 0 64 us=.ok ():=by rw [g2.2.2]; rfl
   unfold nmsR;rw [zl6,if_neg (by simp)]
   simp only [List.length_nil,if_true]
   rw [za3 hb,za3 g2.1];simp only
   exact h3
def argT (x:ByteArray × VT):List Lo:=(2,x.1.data.toList)::(1,[58])::x.2.tok
def parT {α:Type} (T : α->List Lo) (l:List α):List Lo:=if l.length=0 then [] else (1,[40])::((l.map T).flatten++[(1,[41])])
def dirT (d:DirT):List Lo:=(1,[64])::(2,d.name.data.toList)::parT argT d.args
def dirsT (l:List DirT):List Lo:=(l.map dirT).flatten
def inpT (x:InpT):List Lo:=(2,x.name.data.toList)::(1,[58])::(refT x.tn x.tw++((if x.has=true then (1,[61])::x.dflt.tok else [])++dirsT x.dirs))
def fldT (x:FldT):List Lo:=(2,x.name.data.toList)::(parT inpT x.args++((1,[58])::(refT x.tn x.tw++dirsT x.dirs)))
def memT (x:MemT):List Lo:=(2,x.name.data.toList)::dirsT x.dirs
def blkT {α:Type} (T : α->List Lo) (l:List α):List Lo:=(1,[123])::((l.map T).flatten++[(1,[125])])
def impT (l:List ByteArray):List Lo:=if l.length=0 then [] else (2,[105,109,112,108,101,109,101,110,116,115])::nmsT 38 l
def defT (d:DefT):List Lo :=
 if d.kind=1 then (2,[116,121,112,101])::(2,d.name.data.toList)::(impT d.impl++(dirsT d.dirs++blkT fldT d.fields))
 else if d.kind=2 then (2,[105,110,116,101,114,102,97,99,101])::(2,d.name.data.toList)::(dirsT d.dirs++blkT fldT d.fields)
 else if d.kind=3 then (2,[117,110,105,111,110])::(2,d.name.data.toList)::(dirsT d.dirs++((1,[61])::nmsT 124 (d.members.map MemT.name)))
 else if d.kind=4 then (2,[101,110,117,109])::(2,d.name.data.toList)::(dirsT d.dirs++blkT memT d.members)
 else (2,[105,110,112,117,116])::(2,d.name.data.toList)::(dirsT d.dirs++blkT inpT d.inputs)
def docT (l:List DefT):List Lo:=(l.map defT).flatten
def dirsN (l:List DirT):Prop:=∀ d∈l, ∀ a∈d.args,a.2.num
def inpN (x:InpT):Prop:=x.dflt.num/\dirsN x.dirs
def fldN (x:FldT):Prop:=(∀ i∈x.args,inpN i)/\dirsN x.dirs
def defN (d:DefT):Prop:=dirsN d.dirs/\(∀ x∈d.fields,fldN x)/\(∀ x∈d.members,dirsN x.dirs)/\∀ x∈d.inputs,inpN x
theorem zb6 {α:Type} {a b:Int} {l:List α} {P : α->Bool} (h:inB a b l P=true):a<=(l.length:Int)/\(l.length:Int)<=b/\∀ x∈l,P x=true:=by
 unfold inB at h;simp only [Bool.and_eq_true,decide_eq_true_eq] at h
 exact ⟨h.1.1,h.1.2,List.all_eq_true.1 h.2⟩
theorem rd_wv {t:VT} (h:litOk t=true) (hn:t.num) {us:List Tk} {q:List Lo} (hu:lo us=t.tok++q):∃ us',wvP us=.ok (t,us')/\lo us'=q:=by
 unfold litOk zb9 at h;simp only [Bool.and_eq_true,decide_eq_true_eq] at h
 obtain ⟨⟨⟨h1,h2⟩,h3⟩,_,h4⟩:=h;obtain ⟨us',e1,e2⟩:=val_rd t 24 1 (by unfold VT.cst; rw [h3,h4]; rfl) hn h2 (by omega) us 0 q hu (by omega)
 refine ⟨us', ?_,e2⟩
 show exB (valP us 0) _=_
 rw [za3 (show valP us 0=_ from e1)]
theorem rd_arg {x:ByteArray × VT} (h:argOk x=true) (hn:x.2.num):RdT argX argT x:=fun us q hu _=>by
 unfold argOk at h;rw [Bool.and_eq_true] at h;have g1:=rd_nm (show lo us=(2,x.1.data.toList)::((1,[58])::x.2.tok++q) by rw [hu]; rfl)
 rw [ba_eq] at g1;have g2:=rd_sg g1.2.1;obtain ⟨us',e1,e2⟩:=rd_wv h.2 hn g2.2;refine ⟨us', ?_,e2⟩
 show exB (nmR us) _=_
 rw [za3 g1.1]; simp only;rw [za3 g2.1,za3 e1]
theorem rd_par {α:Type} {el:List Tk->Except Er (α × List Tk)} {T : α->List Lo} {most:Nat} {l:List α} {us:List Tk} {q:List Lo} (hx:∀ x∈l,RdT el T x/\∃ s r,T x=(2,s)::r) (hm:l.length<=most) (hu:lo us=parT T l++q) (hl:l.length≠0) :
  isSg [40] us=true/\∃ us',blR [40] [41] most el us=.ok (l,us')/\lo us'=q:=by
 unfold parT at hu;rw [if_neg hl] at hu;have h2:lo us=(1,[40])::((l.map T).flatten++((1,[41])::q)):=by rw [hu]; simp
 exact ⟨zt8 h2,rd_bl (.inl rfl) hx h2 hm (by omega)⟩
theorem rd_dir {d:DirT} (h:dirOk d=true) (hn:∀ a∈d.args,a.2.num) (us:List Tk) (q:List Lo) (hu:lo us=dirT d++q) (hq:loSg [40] q=false):∃ us',dirX us=.ok (d,us')/\lo us'=q:=by
 unfold dirOk at h;rw [Bool.and_eq_true] at h;obtain ⟨_,h2,h3⟩:=zb6 h.2;have g1:=rd_sg (show lo us=(1,[64])::((2,d.name.data.toList)::(parT argT d.args++q)) by rw [hu]; rfl)
 have g2:=rd_nm g1.2;rw [ba_eq] at g2;have hd:dirX us=if isSg [40] us.tail.tail=true then exB (blR [40] [41] 16 argX us.tail.tail) fun r=>.ok (⟨d.name,r.1⟩,r.2) else .ok (⟨d.name,[]⟩,us.tail.tail):=by
  show exB (sgR [64] us) _=_
  rw [za3 g1.1,za3 g2.1]
 rw [hd];by_cases h0:d.args.length=0
 ·have h00:=List.length_eq_zero_iff.1 h0
  have hs:isSg [40] us.tail.tail=false:=by rw [sg_lo,g2.2.1]; unfold parT; rw [if_pos h0]; exact hq
  refine ⟨us.tail.tail, ?_,by rw [g2.2.1]; unfold parT; rw [if_pos h0]; rfl⟩
  rw [hs,if_neg (by simp)]
  obtain ⟨nm,ar⟩:=d;simp only at h00
  subst h00; rfl
 ·obtain ⟨e0,us',e1,e2⟩:=rd_par (el:=argX) (most:=16) (fun x hx=>⟨rd_arg (h3 x hx) (hn x hx),_,_,rfl⟩) (by omega) g2.2.1 h0
  refine ⟨us', ?_,e2⟩
  rw [if_pos e0,za3 e1]
theorem zn8 {l:List DirT} {q:List Lo} (s:List UInt8) (hs:s≠[64]) (hq:loSg s q=false):loSg s (dirsT l++q)=false:=by
 cases l with
 | nil=>exact hq
 | cons d r =>
   show (decide ((1:Int)=1)&&decide (([64]:List UInt8)=s))=false
   simp [Ne.symm hs]
theorem rd_drs:∀ (xs l:List DirT) (us:List Tk) (f:Nat) (q:List Lo),(∀ d∈xs,dirOk d=true/\∀ a∈d.args,a.2.num)->lo us=dirsT xs++q->loSg [64] q=false->loSg [40] q=false->us.length<f->l.length+xs.length<=16->∃ us',drs dirX f l us=.ok (l++xs,us')/\lo us'=q
 | _,_,_,0,_,_,_,_,_,h,_=>absurd h (Nat.not_lt_zero _)
 | [],l,us,f+1,q,_,hu,hq,_,_,_=>by
   refine ⟨us, ?_,hu⟩
   rw [zr7,if_pos (by rw [sg_lo,hu]; exact hq),List.append_nil]
 | x::xs,l,us,f+1,q,hx,hu,hq,hq2,hf,hm=>by
   have hu2:lo us=dirT x++(dirsT xs++q):=by rw [hu]; unfold dirsT; rw [List.map_cons,List.flatten_cons,List.append_assoc]
   obtain ⟨h1,h2⟩:=hx x List.mem_cons_self;obtain ⟨us1,e1,e2⟩:=rd_dir h1 h2 us _ hu2 (zn8 _ (by decide) hq2)
   have hlen:us1.length<us.length:=by
    rw [<- zk1 us, <- zk1 us1,hu2,e2];simp only [List.length_append]
    unfold dirT; simp only [List.length_cons]; omega
   simp only [List.length_cons] at hm
   obtain ⟨us',e3,e4⟩:=rd_drs xs (l++[x]) us1 f q (fun d hd=>hx d (List.mem_cons_of_mem _ hd)) e2 hq hq2 (by omega) (by rw [List.length_append,List.length_singleton]; omega)
   refine ⟨us', ?_,e4⟩
   have hs:isSg [64] us=true:=by rw [sg_lo,hu2]; rfl
   have hb:bgR true l.length 16 us=.ok ():=by unfold bgR; rw [if_pos rfl,if_neg (by omega)]
   rw [zr7,if_neg (by rw [hs]; simp),za3 hb,za3 e1]
   simp only
   rw [e3,List.append_assoc]; rfl
theorem zl5 {l:List DirT} (h:zg7 l=true) (hn:dirsN l) {us:List Tk} {q:List Lo} (hu:lo us=dirsT l++q) (hq:loSg [64] q=false) (hq2:loSg [40] q=false):∃ us',drsR dirX us=.ok (l,us')/\lo us'=q:=by
 obtain ⟨_,h2,h3⟩:=zb6 h;obtain ⟨us',e1,e2⟩:=rd_drs l [] us (us.length+1) q (fun d hd=>⟨h3 d hd,hn d hd⟩) hu hq hq2 (Nat.lt_succ_self _) (by simp; omega)
 exact ⟨us',e1,e2⟩
theorem dfl_no {t:VT} (h:dflOk false t=true):t=zJ3:=by
 obtain ⟨k,n,s,l,ks⟩:=t;unfold dflOk at h;rw [if_neg (by simp),Bool.and_eq_true,decide_eq_true_eq] at h
 obtain ⟨rfl,h2⟩:=h;unfold zb9 at h2;simp only [Bool.and_eq_true] at h2
 have h3:=h2.2;rw [zb7,Bool.and_eq_true] at h3;have h4:=h3.1;simp only [nodeB,if_true] at h4
 simp only [Bool.and_eq_true,decide_eq_true_eq] at h4
 obtain ⟨rfl,rfl⟩:=leaf0 h4.2;rw [h4.1.1,size0 h4.1.2]; rfl
theorem rd_inp {x:InpT} (h:inpOk x=true) (hn:inpN x):RdT inpX inpT x:=fun us q hu hq=>by
 unfold inpOk at h;simp only [Bool.and_eq_true] at h
 obtain ⟨_,h2,h3,h4⟩:=h;have g1:=rd_nm (show lo us=(2,x.name.data.toList)::((1,[58])::(refT x.tn x.tw++((if x.has=true then (1,[61])::x.dflt.tok else [])++(dirsT x.dirs++q)))) by rw [hu]; unfold inpT; simp)
 rw [ba_eq] at g1;have g2:=rd_sg g1.2.1
 cases hh:x.has with
 | true =>
   rw [hh,if_pos rfl] at g2;obtain ⟨u1,e1,e2⟩:=yc2 h2 g2.2 rfl;have g3:=rd_sg (show lo u1=(1,[61])::(x.dflt.tok++(dirsT x.dirs++q)) from e2);rw [hh] at h3;obtain ⟨u2,e3,e4⟩:=rd_wv (show litOk x.dflt=true from h3) hn.1 g3.2;obtain ⟨u3,e5,e6⟩:=zl5 h4 hn.2 e4 hq.1 hq.2.2.2.1;refine ⟨u3, ?_,e6⟩
   show exB (nmR us) _=_
   rw [za3 g1.1]; simp only;rw [za3 g2.1,za3 e1]; simp only;rw [if_pos (zt8 (show lo u1=(1,[61])::(x.dflt.tok++(dirsT x.dirs++q)) from e2)),za3 e3]; simp only;rw [za3 e5];obtain ⟨a,b,c,d,e,f⟩:=x;simp only at hh
   subst hh; rfl
 | false =>
   rw [hh,if_neg (by simp),List.nil_append] at g2
   obtain ⟨u1,e1,e2⟩:=yc2 h2 g2.2 (zn8 _ (by decide) hq.2.1)
   obtain ⟨u3,e5,e6⟩:=zl5 h4 hn.2 e2 hq.1 hq.2.2.2.1;refine ⟨u3, ?_,e6⟩
   have hs:isSg [61] u1=false:=by rw [sg_lo,e2]; exact zn8 _ (by decide) hq.2.2.1
   rw [hh] at h3;have hd:=dfl_no h3;show exB (nmR us) _=_
   rw [za3 g1.1]; simp only;rw [za3 g2.1,za3 e1]; simp only;rw [hs,if_neg (by simp),za3 e5]
   obtain ⟨a,b,c,d,e,f⟩:=x;simp only at hh hd
   subst hh; subst hd; rfl
theorem rd_fld {x:FldT} (h:fldOk x=true) (hn:fldN x):RdT fldX fldT x:=fun us q hu hq=>by
 unfold fldOk at h;simp only [Bool.and_eq_true] at h
 obtain ⟨_,h2,h3,h4⟩:=h;obtain ⟨_,i2,i3⟩:=zb6 h2;have g1:=rd_nm (show lo us=(2,x.name.data.toList)::(parT inpT x.args++((1,[58])::(refT x.tn x.tw++(dirsT x.dirs++q)))) by rw [hu]; unfold fldT; simp)
 rw [ba_eq] at g1;have hrest:∀ (v:List Tk) (nm:ByteArray) (ar:List InpT),lo v=(1,[58])::(refT x.tn x.tw++(dirsT x.dirs++q))->∃ us',fldQ refP dirX nm ar v=.ok (⟨nm,ar,x.tn,x.tw,x.dirs⟩,us')/\lo us'=q:=by
  intro v nm ar hv;have g2:=rd_sg hv;obtain ⟨u1,e1,e2⟩:=yc2 h3 g2.2 (zn8 _ (by decide) hq.2.1)
  obtain ⟨u3,e5,e6⟩:=zl5 h4 hn.2 e2 hq.1 hq.2.2.2.1;refine ⟨u3, ?_,e6⟩
  unfold fldQ;rw [za3 g2.1,za3 e1]; simp only;rw [za3 e5]
 have hf:fldX us=if isSg [40] us.tail=true then exB (blR [40] [41] 16 inpX us.tail) fun a=>fldQ refP dirX x.name a.1 a.2 else fldQ refP dirX x.name [] us.tail:=by
  show exB (nmR us) _=_
  rw [za3 g1.1]
 rw [hf];by_cases h0:x.args.length=0
 ·have h00:=List.length_eq_zero_iff.1 h0
  have g3:=g1.2.1;unfold parT at g3;rw [if_pos h0,List.nil_append] at g3;have hs:isSg [40] us.tail=false:=by rw [sg_lo,g3]; rfl
  obtain ⟨us',e1,e2⟩:=hrest us.tail x.name [] g3;refine ⟨us', ?_,e2⟩
  rw [hs,if_neg (by simp),e1]
  obtain ⟨a,b,c,d,e⟩:=x;simp only at h00
  subst h00; rfl
 ·obtain ⟨e0,u1,e1,e2⟩:=rd_par (el:=inpX) (most:=16) (fun y hy=>⟨rd_inp (i3 y hy) (hn.1 y hy),_,_,rfl⟩) (by omega) g1.2.1 h0
  obtain ⟨us',e3,e4⟩:=hrest u1 x.name x.args e2;refine ⟨us', ?_,e4⟩
  rw [if_pos e0,za3 e1,e3]
theorem rd_mem {x:MemT} (h:ze7 x=true) (hn:dirsN x.dirs):RdT memX memT x:=fun us q hu hq=>by
 unfold ze7 at h;rw [Bool.and_eq_true] at h;have g1:=rd_nm (show lo us=(2,x.name.data.toList)::(dirsT x.dirs++q) by rw [hu]; rfl)
 rw [ba_eq] at g1;obtain ⟨u3,e5,e6⟩:=zl5 h.2 hn g1.2.1 hq.1 hq.2.2.2.1;refine ⟨u3, ?_,e6⟩
 show exB (nmR us) _=_
 rw [za3 g1.1]; simp only;rw [za3 e5]
theorem rd_imp {l:List ByteArray} (h:inB 0 64 l nmA=true) {us:List Tk} {q:List Lo} (hu:lo us=impT l++q) (hq:loSg [38] q=false) (hq2:decide ((q.headD (0,[])).1=2)=false):∃ us',impP us=.ok (l,us')/\lo us'=q:=by
 obtain ⟨_,h2,_⟩:=zb6 h;unfold impT at hu;by_cases h0:l.length=0
 ·rw [if_pos h0,List.nil_append] at hu
  have hs:isNm us=false:=by rw [nm_lo,hu]; exact hq2
  refine ⟨us, ?_,hu⟩
  unfold impP;rw [hs,if_neg (by simp),List.length_eq_zero_iff.1 h0]
 ·rw [if_neg h0] at hu
  have g1:=rd_nm (show lo us=(2,[105,109,112,108,101,109,101,110,116,115])::(nmsT 38 l++q) by rw [hu]; rfl)
  have g0:=ze2 hu;obtain ⟨us',e1,e2⟩:=yc3 g1.2.1 hq (by omega) (by omega)
  refine ⟨us', ?_,e2⟩
  unfold impP;rw [if_pos ⟨g1.2.2,by rw [g0.2.1]; rfl⟩,e1]
theorem kd_1 {us:List Tk} {q:List Lo} (h:lo us=(2,[116,121,112,101])::q):kdR (hd us)=1:=by
 obtain ⟨h1,h2,_⟩:=ze2 h;unfold kdR; rw [h1,h2]; rfl
theorem kd_2 {us:List Tk} {q:List Lo} (h:lo us=(2,[105,110,116,101,114,102,97,99,101])::q):kdR (hd us)=2:=by
 obtain ⟨h1,h2,_⟩:=ze2 h;unfold kdR; rw [h1,h2]; decide
theorem kd_3 {us:List Tk} {q:List Lo} (h:lo us=(2,[117,110,105,111,110])::q):kdR (hd us)=3:=by
 obtain ⟨h1,h2,_⟩:=ze2 h;unfold kdR; rw [h1,h2]; decide
theorem kd_4 {us:List Tk} {q:List Lo} (h:lo us=(2,[101,110,117,109])::q):kdR (hd us)=4:=by
 obtain ⟨h1,h2,_⟩:=ze2 h;unfold kdR; rw [h1,h2]; decide
theorem kd_5 {us:List Tk} {q:List Lo} (h:lo us=(2,[105,110,112,117,116])::q):kdR (hd us)=5:=by
 obtain ⟨h1,h2,_⟩:=ze2 h;unfold kdR; rw [h1,h2]; decide
theorem zR6 {α:Type} {el:List Tk->Except Er (α × List Tk)} {T : α->List Lo} {most:Nat} {l:List α} {us:List Tk} {q:List Lo} (hx:∀ x∈l,RdT el T x/\∃ s r,T x=(2,s)::r) (hm:l.length<=most) (h1:1<=l.length) (hu:lo us=blkT T l++q) :
  ∃ us',blR [123] [125] most el us=.ok (l,us')/\lo us'=q :=
 rd_bl (.inr rfl) hx (show lo us=(1,[123])::((l.map T).flatten++((1,[125])::q)) by rw [hu]; unfold blkT; simp) hm h1
theorem zb5 {α:Type} {l:List α} {P : α->Bool} (h:inB 0 0 l P=true):l=[]:=by
 obtain ⟨_,h2,_⟩:=zb6 h;exact List.length_eq_zero_iff.1 (by omega)
theorem rd_def {d:DefT} (h:defOk d=true) (hn:defN d) {us:List Tk} {q:List Lo} (hu:lo us=defT d++q) (hq:Fo q):kdR (hd us)≠0/\∃ us',defX (kdR (hd us)) us=.ok (d,us')/\lo us'=q:=by
 unfold defOk at h;simp only [Bool.and_eq_true] at h
 obtain ⟨_,hd,hp⟩:=h;obtain ⟨kd,nm,im,ds,fs,ms,is⟩:=d;obtain ⟨n1,n2,n3,n4⟩:=hn
 try simp only at hd n1 n2 n3 n4
 unfold zb4 at hp;unfold defT at hu
 try simp only at hp hu
 split at hp
 ·next e =>
  subst e;rw [if_pos rfl] at hu;unfold zh9 at hp;simp only [Bool.and_eq_true] at hp
  obtain ⟨p1,p2,p3,p4⟩:=hp;have e3:=zb5 p3;have e4:=zb5 p4
  try simp only at e3 e4
  subst e3; subst e4;obtain ⟨_,f2,f3⟩:=zb6 p2;have hu2:lo us=(2,[116,121,112,101])::((2,nm.data.toList)::(impT im++(dirsT ds++(blkT fldT fs++q)))):=by rw [hu]; simp
  rw [kd_1 hu2];have g1:=rd_nm (rd_nm hu2).2.1;rw [ba_eq] at g1;obtain ⟨u1,a1,b1⟩:=rd_imp p1 g1.2.1 (zn8 _ (by decide) rfl) (by cases ds <;> rfl)
  obtain ⟨u2,a2,b2⟩:=zl5 hd n1 b1 rfl rfl;obtain ⟨u3,a3,b3⟩:=zR6 (el:=fldX) (most:=64) (fun x hx=>⟨rd_fld (f3 x hx) (n2 x hx),_,_,rfl⟩) (by omega) (by have:=(zb6 p2).1; (try simp only at this); omega) b2
  refine ⟨by decide,u3, ?_,b3⟩
  show exB (nmR us.tail) _=_
  rw [za3 g1.1]; simp only;rw [za3 a1]; simp only;rw [za3 a2]; simp only;rw [za3 a3]
 split at hp
 ·next e =>
  subst e;rw [if_neg (by decide),if_pos rfl] at hu
  unfold zh9 at hp;simp only [Bool.and_eq_true] at hp
  obtain ⟨p1,p2,p3,p4⟩:=hp;have e1:=zb5 p1;have e3:=zb5 p3;have e4:=zb5 p4
  try simp only at e1 e3 e4
  subst e1; subst e3; subst e4;obtain ⟨f1,f2,f3⟩:=zb6 p2
  try simp only at f1 f2
  have hu2:lo us=(2,[105,110,116,101,114,102,97,99,101])::((2,nm.data.toList)::(dirsT ds++(blkT fldT fs++q))):=by rw [hu]; simp
  rw [kd_2 hu2];have g1:=rd_nm (rd_nm hu2).2.1;rw [ba_eq] at g1;obtain ⟨u2,a2,b2⟩:=zl5 hd n1 g1.2.1 rfl rfl;obtain ⟨u3,a3,b3⟩:=zR6 (el:=fldX) (most:=64) (fun x hx=>⟨rd_fld (f3 x hx) (n2 x hx),_,_,rfl⟩) (by omega) (by omega) b2
  refine ⟨by decide,u3, ?_,b3⟩
  show exB (nmR us.tail) _=_
  rw [za3 g1.1]; simp only;rw [za3 a2]; simp only;rw [za3 a3]
 split at hp
 ·next e =>
  subst e;rw [if_neg (by decide),if_neg (by decide),if_pos rfl] at hu
  unfold zh9 at hp;simp only [Bool.and_eq_true] at hp
  obtain ⟨p1,p2,p3,p4⟩:=hp;have e1:=zb5 p1;have e2:=zb5 p2;have e4:=zb5 p4
  try simp only at e1 e2 e4
  subst e1; subst e2; subst e4;obtain ⟨f1,f2,f3⟩:=zb6 p3
  try simp only at f1 f2 f3
  have hu2:lo us=(2,[117,110,105,111,110])::((2,nm.data.toList)::(dirsT ds++((1,[61])::(nmsT 124 (ms.map MemT.name)++q)))):=by rw [hu]; simp
  rw [kd_3 hu2];have g1:=rd_nm (rd_nm hu2).2.1;rw [ba_eq] at g1;obtain ⟨u2,a2,b2⟩:=zl5 hd n1 g1.2.1 rfl rfl;have g3:=rd_sg b2;obtain ⟨u3,a3,b3⟩:=yc3 g3.2 hq.2.2.2.2.1 (by rw [List.length_map]; omega) (by rw [List.length_map]; omega)
  have hm:(ms.map MemT.name).map memOf=ms:=by
   rw [List.map_map]
   conv=>rhs; rw [<- List.map_id ms]
   refine List.map_congr_left fun x hx=>?_
   have h5:=f3 x hx;unfold zd6 at h5;rw [Bool.and_eq_true,decide_eq_true_eq] at h5;obtain ⟨a,b⟩:=x;have:=List.length_eq_zero_iff.1 h5.2;simp only at this
   subst this; rfl
  refine ⟨by decide,u3, ?_,b3⟩
  show exB (nmR us.tail) _=_
  rw [za3 g1.1]; simp only;rw [za3 a2]; simp only;unfold uniP;rw [za3 g3.1,za3 a3];simp only
  rw [hm]; rfl
 split at hp
 ·next e =>
  subst e;rw [if_neg (by decide),if_neg (by decide),if_neg (by decide),if_pos rfl] at hu
  unfold zh9 at hp;simp only [Bool.and_eq_true] at hp
  obtain ⟨p1,p2,p3,p4⟩:=hp;have e1:=zb5 p1;have e2:=zb5 p2;have e4:=zb5 p4
  try simp only at e1 e2 e4
  subst e1; subst e2; subst e4;obtain ⟨f1,f2,f3⟩:=zb6 p3
  try simp only at f1 f2 f3
  have hu2:lo us=(2,[101,110,117,109])::((2,nm.data.toList)::(dirsT ds++(blkT memT ms++q))):=by rw [hu]; simp
  rw [kd_4 hu2];have g1:=rd_nm (rd_nm hu2).2.1;rw [ba_eq] at g1;obtain ⟨u2,a2,b2⟩:=zl5 hd n1 g1.2.1 rfl rfl;obtain ⟨u3,a3,b3⟩:=zR6 (el:=memX) (most:=64) (fun x hx=>⟨rd_mem (f3 x hx) (n3 x hx),_,_,rfl⟩) (by omega) (by omega) b2
  refine ⟨by decide,u3, ?_,b3⟩
  show exB (nmR us.tail) _=_
  rw [za3 g1.1]; simp only;rw [za3 a2]; simp only;rw [za3 a3]
 split at hp
 ·next h1 h2 h3 h4 e =>
  subst e;rw [if_neg (by decide),if_neg (by decide),if_neg (by decide),if_neg (by decide)] at hu
  unfold zh9 at hp;simp only [Bool.and_eq_true] at hp
  obtain ⟨p1,p2,p3,p4⟩:=hp;have e1:=zb5 p1;have e2:=zb5 p2;have e3:=zb5 p3
  try simp only at e1 e2 e3
  subst e1; subst e2; subst e3;obtain ⟨f1,f2,f3⟩:=zb6 p4
  try simp only at f1 f2 f3
  have hu2:lo us=(2,[105,110,112,117,116])::((2,nm.data.toList)::(dirsT ds++(blkT inpT is++q))):=by rw [hu]; simp
  rw [kd_5 hu2];have g1:=rd_nm (rd_nm hu2).2.1;rw [ba_eq] at g1;obtain ⟨u2,a2,b2⟩:=zl5 hd n1 g1.2.1 rfl rfl;obtain ⟨u3,a3,b3⟩:=zR6 (el:=inpX) (most:=16) (fun x hx=>⟨rd_inp (f3 x hx) (n4 x hx),_,_,rfl⟩) (by omega) (by omega) b2
  refine ⟨by decide,u3, ?_,b3⟩
  show exB (nmR us.tail) _=_
  rw [za3 g1.1]; simp only;rw [za3 a2]; simp only;rw [za3 a3]
 ·cases hp
theorem zT2 (d:DefT):∃ s r,defT d=(2,s)::r:=by
 unfold defT
 repeat' split
 all_goals exact ⟨_,_,rfl⟩
theorem yc4:∀ (xs l:List DefT) (us:List Tk) (f:Nat),(∀ d∈xs,defOk d=true/\defN d)->lo us=docT xs++[(5,[])]->us.length<f->l.length+xs.length<=64->1<=l.length+xs.length->∃ us',docP defX f l us=.ok (l++xs,us')/\lo us'=[(5,[])]
 | _,_,_,0,_,_,h,_,_=>absurd h (Nat.not_lt_zero _)
 | [],l,us,f+1,_,hu,_,_,h1=>by
   refine ⟨us, ?_,hu⟩
   rw [zl0,if_pos ⟨by simp at h1; omega,(ze2 (show lo us=(5,[])::[] from hu)).1⟩,List.append_nil]
 | x::xs,l,us,f+1,hx,hu,hf,hm,_=>by
   have hu2:lo us=defT x++(docT xs++[(5,[])]):=by rw [hu]; unfold docT; rw [List.map_cons,List.flatten_cons,List.append_assoc]
   have hfo:Fo (docT xs++[(5,[])]):=by
    cases xs with
    | nil=>exact Fo.e5
    | cons y ys =>
      obtain ⟨s',r',hT'⟩:=zT2 y;unfold docT;rw [List.map_cons,List.flatten_cons,hT'];exact Fo.nm
   obtain ⟨h1,h2⟩:=hx x List.mem_cons_self;obtain ⟨hk,us1,e1,e2⟩:=rd_def h1 h2 hu2 hfo;obtain ⟨s,r,hT⟩:=zT2 x;have hlen:us1.length<us.length:=by
    rw [<- zk1 us, <- zk1 us1,hu2,e2];simp only [List.length_append]
    rw [hT];simp only [List.length_cons]; omega
   have h5:(hd us).1≠5:=by rw [(ze2 (show lo us=(2,s)::(r++(docT xs++[(5,[])])) by rw [hu2,hT]; rfl)).1]; decide
   simp only [List.length_cons] at hm
   obtain ⟨us',h3,h4⟩:=yc4 xs (l++[x]) us1 f (fun y hy=>hx y (List.mem_cons_of_mem _ hy)) e2 (by omega) (by rw [List.length_append,List.length_singleton]; omega) (by rw [List.length_append,List.length_singleton]; omega)
   refine ⟨us', ?_,h4⟩
   have hb:bgR (decide (kdR (hd us)≠0)) l.length 64 us=.ok ():=by
    unfold bgR; rw [if_pos (decide_eq_true hk),if_neg (by omega)]
   rw [zl0,if_neg (fun h=>h5 h.2),za3 hb,za3 e1];simp only
   rw [h3,List.append_assoc]; rfl
theorem rd_doc {xs:List DefT} (h:docOk xs=true) (hn:∀ d∈xs,defN d) {us:List Tk} (hu:lo us=docT xs++[(5,[])]):∃ us',docR defX us=.ok (xs,us'):=by
 obtain ⟨h1,h2,h3⟩:=zb6 h;obtain ⟨us',e,_⟩:=yc4 xs [] us (us.length+1) (fun d hd=>⟨h3 d hd,hn d hd⟩) hu (Nat.lt_succ_self _) (by simp; omega) (by simp; omega)
 exact ⟨us',e⟩
theorem sdl_of {xs:List DefT} (h:docOk xs=true) (hn:∀ d∈xs,defN d) {s:List UInt8} (hs:K.Sc s (docT xs)) (hl:s.length<=65536):sdlR s=.ok xs:=by
 obtain ⟨ts,h1,h2⟩:=hs.scR hl;obtain ⟨us',e⟩:=rd_doc h hn (show lo ts=_ from h2);unfold sdlR sdlF;rw [h1];show exB (docR defX ts) _=_
 rw [za3 e]
def jn (sep:List UInt8):List (List UInt8)->List UInt8
 | []=>[]
 | a::r=>a++(r.map (fun x=>sep++x)).flatten
theorem jn_snoc (sep:List UInt8) (xs:List (List UInt8)) (a:List UInt8):jn sep (xs++[a])=jn sep xs++((if xs.length=0 then [] else sep)++a):=by
 cases xs with
 | nil=>simp [jn]
 | cons x r=>simp [jn]
theorem zZ7 {α:Type} {xs:List α} {j:Nat} {a : α} (h:xs[j]?=some a):xs.take (j+1)=xs.take j++[a]:=by
 obtain ⟨hj,e⟩:=List.getElem?_eq_some_iff.1 h;rw [List.take_succ_eq_append_getElem hj,e]
theorem yg3 (sep:List UInt8) {xs:List (List UInt8)} {j:Nat} {a:List UInt8} (h:xs[j]?=some a):jn sep (xs.take (j+1))=jn sep (xs.take j)++((if j=0 then [] else sep)++a):=by
 obtain ⟨hj,_⟩:=List.getElem?_eq_some_iff.1 h;rw [zZ7 h,jn_snoc,List.length_take,Nat.min_eq_left (by omega)]
theorem jn_mono (sep:List UInt8) (xs:List (List UInt8)):∀ (j:Nat),(jn sep (xs.take j)).length<=(jn sep xs).length:=by
 intro j
 cases xs with
 | nil=>simp
 | cons x r =>
   cases j with
   | zero=>simp [jn]
   | succ j =>
     simp only [List.take_succ_cons,jn,List.length_append]
     have:(List.map (fun x=>sep++x) r).flatten.length=(List.map (fun x=>sep++x) (r.take j)).flatten.length+(List.map (fun x=>sep++x) (r.drop j)).flatten.length:=by
      rw [<- List.length_append, <- List.flatten_append, <- List.map_append,List.take_append_drop]
     omega
theorem zW9 (sep:List UInt8) {xs:List (List UInt8)} {j:Nat} {a:List UInt8} (h:xs[j]?=some a):(jn sep (xs.take j)).length+((if j=0 then [] else sep:List UInt8)).length+a.length<=(jn sep xs).length:=by
 have:=jn_mono sep xs (j+1);rw [yg3 sep h] at this;simp only [List.length_append] at this ⊢
 omega
def bL (s:ByteArray):List UInt8:=s.data.toList
theorem za2 (s:ByteArray):(bL s).length=s.size:=by unfold bL; rw [Array.length_toList]; rfl
def nullB:List UInt8:=[110,117,108,108]
def falseB:List UInt8:=[102,97,108,115,101]
def trueB:List UInt8:=[116,114,117,101]
def qL (s:ByteArray):List UInt8:=T1.zg5 s.data.toList
def zc2 (n:ByteArray) (ws:List Int):List UInt8:=K.prL n.data.toList ws
end Go.Proofs.YtfgelheiknmjgaaGreatDoor
namespace Go.Proofs.YtfgelheiknmjgaaGreatDoor
open Go.RowKit
open K (Sp Sc Hw wdH wdB)
theorem nm_t {s:ByteArray} (h:nmA s=true):T1.nameL s.data.toList=true:=h
theorem Sp.nm {s:ByteArray} (h:nmA s=true):Sp (bL s) [(2,s.data.toList)]:=.name (nm_t h)
theorem sg58:(58:UInt8)∈K.sgL:=by decide
theorem sep32:K.sepS false 32=some false:=rfl
def jnT (Q:List Lo):List (List Lo)->List Lo
 | []=>[]
 | a::r=>a++(r.map (fun x=>Q++x)).flatten
theorem jnT_nil:∀ l:List (List Lo),jnT [] l=l.flatten
 | []=>rfl
 | a::r=>by simp [jnT]
structure SepOk (S:List UInt8) (Q:List Lo):Prop where
 sp:∀ a q,Sp a q->Sp (S++a) (Q++q)
 hw:∀ l,wdH (S++l)=false
theorem yb9 {S:List UInt8} {Q:List Lo} (h:SepOk S Q):∀ L:List (List UInt8 × List Lo),(∀ p∈L,Sp p.1 p.2)->Sp ((L.map Prod.fst).map (fun x=>S++x)).flatten ((L.map Prod.snd).map (fun x=>Q++x)).flatten/\Hw ((L.map Prod.fst).map (fun x=>S++x)).flatten
 | [],_=>⟨.nil,.nil⟩
 | p::L,hp=>by
   have ih:=yb9 h L (fun q hq=>hp q (List.mem_cons_of_mem _ hq));have h1:=h.sp _ _ (hp p List.mem_cons_self);refine ⟨Sp.app h1 ih.2 ih.1,fun l _=>?_⟩
   show wdH (((S++p.1)++_)++l)=false
   rw [List.append_assoc,List.append_assoc];exact h.hw _
theorem jn_sp {S:List UInt8} {Q:List Lo} (h:SepOk S Q) (L:List (List UInt8 × List Lo)) (hp:∀ p∈L,Sp p.1 p.2):Sp (jn S (L.map Prod.fst)) (jnT Q (L.map Prod.snd)):=by
 cases L with
 | nil=>exact .nil
 | cons p L =>
   have ih:=yb9 h L (fun q hq=>hp q (List.mem_cons_of_mem _ hq));exact Sp.app (hp p List.mem_cons_self) ih.2 ih.1
theorem jn_map {α:Type} {S:List UInt8} {Q:List Lo} (h:SepOk S Q) (f : α->List UInt8) (g : α->List Lo) (xs:List α) (hp:∀ x∈xs,Sp (f x) (g x)):Sp (jn S (xs.map f)) (jnT Q (xs.map g)):=by
 have:=jn_sp h (xs.map fun x=>(f x,g x)) (fun p hq=>by obtain ⟨x,hx,rfl⟩:=List.mem_map.1 hq; exact hp x hx)
 rw [List.map_map,List.map_map] at this;exact this
theorem sep_s:SepOk [32] []:=⟨fun _ _ h=>.sep sep32 h,fun _=>rfl⟩
theorem hw_c {c:UInt8} {a:List UInt8} (h:wdB c=false):Hw (c::a):=.cons h
theorem zQ6:∀ l:List VT,VT.toks l=l.map VT.tok
 | []=>rfl
 | t::r=>by rw [VT.toks,zQ6 r]; rfl
theorem ref_sp {n:ByteArray} {ws:List Int} (h:K.okB n ws=true):Sp (zc2 n ws) (refT n ws):=by
 unfold K.okB at h;simp only [Bool.and_eq_true] at h
 have hn:=h.1.1;have h1:∀ (ls:List Int),Sp (ls.map K.endB) (ls.map wrT)/\Hw (ls.map K.endB):=by
  intro ls
  induction ls with
  | nil=>exact ⟨.nil,.nil⟩
  | cons w r ih =>
    rw [List.map_cons,List.map_cons];unfold K.endB wrT;by_cases hw:w=1
    ·rw [if_pos hw,if_pos hw]; exact ⟨.sign (by decide) ih.1,.cons (by decide)⟩
    ·rw [if_neg hw,if_neg hw]; exact ⟨.sign (by decide) ih.1,.cons (by decide)⟩
 have h2:∀ (k:Nat) (a:List UInt8) (q:List Lo),Sp a q->Sp (List.replicate k 91++a) (List.replicate k (1,[91])++q):=by
  intro k a q ha
  induction k with
  | zero=>exact ha
  | succ k ih=>exact .sign (by decide) ih
 have h3:=h1 ws.reverse;unfold zc2 K.prL refT;rw [List.append_assoc];exact h2 _ _ _ (Sp.app (Sp.name hn) h3.2 h3.1)
mutual
def VT.lit:VT->List UInt8
 | .mk k n s items keys =>
   if k=0 then nullB else if k=1 then (if n=1 then trueB else falseB) else if k=2 then Lib.itoa n else if k=3 then qL s else if k=4 then bL s
   else if k=7 then 36::32::bL s
   else if k=6 then 123::((List.zipWith (fun a b=>(32::(bL a++[32,58]))++(32::b)) keys (VT.lits items)).flatten++[32,125]) else 91::(((VT.lits items).map fun x=>32::x).flatten++[32,93])
def VT.lits:List VT->List (List UInt8)
 | []=>[]
 | t::r=>t.lit::VT.lits r
end
theorem zw1:∀ l:List VT,VT.lits l=l.map VT.lit
 | []=>rfl
 | t::r=>by rw [VT.lits,zw1 r]; rfl
def wArg (x:ByteArray × VT):List UInt8:=32::(bL x.1++([32,58,32]++x.2.lit))
def wDir (d:DirT):List UInt8:=[32,64,32]++(bL d.name++(if d.args.length=0 then [] else [32,40]++((d.args.map wArg).flatten++[32,41])))
def wDirs (l:List DirT):List UInt8:=(l.map wDir).flatten
def wInp (x:InpT):List UInt8:=32::(bL x.name++([32,58,32]++(zc2 x.tn x.tw++((if x.has=true then [32,61,32]++x.dflt.lit else [])++wDirs x.dirs))))
def wInps (l:List InpT):List UInt8:=(l.map wInp).flatten
def wFld (x:FldT):List UInt8:=32::(bL x.name++((if x.args.length=0 then [] else [32,40]++(wInps x.args++[32,41]))++([32,58,32]++(zc2 x.tn x.tw++wDirs x.dirs))))
def wMem (x:MemT):List UInt8:=32::(bL x.name++wDirs x.dirs)
def zd1 (w c:List UInt8):List ByteArray->List UInt8
 | []=>[]
 | x::r=>w++(bL x++(r.map fun y=>c++bL y).flatten)
def wWord (k:Int):List UInt8:=if k=1 then [116,121,112,101] else if k=2 then [105,110,116,101,114,102,97,99,101] else if k=3 then [117,110,105,111,110] else if k=4 then [101,110,117,109] else if k=5 then [105,110,112,117,116] else []
def wDef (d:DefT):List UInt8:=wWord d.kind++(32::(bL d.name++(zd1 [32,105,109,112,108,101,109,101,110,116,115,32] [32,38,32] d.impl++(wDirs d.dirs ++
 (if d.kind=3 then zd1 [32,61,32] [32,124,32] (d.members.map MemT.name) else [32,123]++((d.fields.map wFld).flatten++((d.members.map wMem).flatten++(wInps d.inputs++[32,125]))))))))
def wDoc (l:List DefT):List UInt8:=jn [32] (l.map wDef)
theorem zO7:∀ L:List (List UInt8 × List Lo),(∀ p∈L,Sp p.1 p.2/\Hw p.1)->Sp (L.map Prod.fst).flatten (L.map Prod.snd).flatten/\Hw (L.map Prod.fst).flatten
 | [],_=>⟨.nil,.nil⟩
 | p::L,h=>by
   have ih:=zO7 L (fun q hq=>h q (List.mem_cons_of_mem _ hq));have h1:=h p List.mem_cons_self;exact ⟨Sp.app h1.1 ih.2 ih.1,h1.2.app ih.2⟩
theorem zk2 {α:Type} (f : α->List UInt8) (g : α->List Lo) (xs:List α) (hp:∀ x∈xs,Sp (f x) (g x)/\Hw (f x)):Sp (xs.map f).flatten (xs.map g).flatten/\Hw (xs.map f).flatten:=by
 have:=zO7 (xs.map fun x=>(f x,g x)) (fun p hq=>by obtain ⟨x,hx,rfl⟩:=List.mem_map.1 hq; exact hp x hx)
 rw [List.map_map,List.map_map] at this;exact this
theorem wx3 {c:UInt8} {a:List UInt8} {q:List Lo} (hc:c∈K.sgL) (h:Sp a q):Sp ([32,c,32]++a) ((1,[c])::q):=.sep sep32 (.sign hc (.sep sep32 h))
theorem wx2 {c:UInt8} {a:List UInt8} {q:List Lo} (hc:c∈K.sgL) (h:Sp a q):Sp ([32,c]++a) ((1,[c])::q):=.sep sep32 (.sign hc h)
theorem w583 {a:List UInt8} {q:List Lo} (h:Sp a q):Sp ([32,58,32]++a) ((1,[58])::q):=wx3 sg58 h
theorem hw2 {c:UInt8} {a:List UInt8}:Hw ([32,c]++a):=.cons (by decide)
theorem hw3 {c:UInt8} {a:List UInt8}:Hw ([32,c,32]++a):=.cons (by decide)
theorem wcl {c:UInt8} (hc:c∈K.sgL):Sp [32,c] [(1,[c])]:=.sep sep32 (Sp.sign hc .nil)
theorem yf7 {k n:Int} {s:ByteArray} {l:List VT} {ks:List ByteArray}:(VT.mk k n s l ks).lit=if k=0 then nullB else if k=1 then (if n=1 then trueB else falseB) else if k=2 then Lib.itoa n else if k=3 then qL s else if k=4 then bL s
  else if k=7 then 36::32::bL s
  else if k=6 then 123::((List.zipWith (fun a b=>(32::(bL a++[32,58]))++(32::b)) ks (VT.lits l)).flatten++[32,125]) else 91::(((VT.lits l).map fun x=>32::x).flatten++[32,93]):=by rw [VT.lit]
theorem zy1:∀ (ks:List ByteArray) (l:List VT),List.zipWith (fun (a:ByteArray) (b:List UInt8)=>(32::(bL a++[32,58]))++(32::b)) ks (VT.lits l)=(List.zipWith (fun (a:ByteArray) (t:VT)=>((32::(bL a++[32,58]))++(32::t.lit),(2,a.data.toList)::(1,[58])::t.tok)) ks l).map Prod.fst/\List.zipWith (fun (a:ByteArray) (b:List Lo)=>(2,a.data.toList)::(1,[58])::b) ks (VT.toks l)=(List.zipWith (fun (a:ByteArray) (t:VT)=>((32::(bL a++[32,58]))++(32::t.lit),(2,a.data.toList)::(1,[58])::t.tok)) ks l).map Prod.snd
 | [],l=>by cases l <;> exact ⟨rfl,rfl⟩
 | k::ks,[]=>⟨rfl,rfl⟩
 | k::ks,t::l=>by
   have ih:=zy1 ks l;refine ⟨?_, ?_⟩
   ·show _::List.zipWith _ ks (VT.lits l)=_
    rw [ih.1]; rfl
   ·show _::List.zipWith _ ks (VT.toks l)=_
    rw [ih.2]; rfl
theorem lit_sp (t:VT):t.cst=true->t.num->Sp t.lit t.tok:=by
 refine VT.ind (P:=fun t=>t.cst=true->t.num->Sp t.lit t.tok) (fun k n s l ks ih=>?_) t
 intro hc hnum;have hv:=cst_v _ hc;have hit:=zF8 hc;rw [VT.num] at hnum;have hall:∀ t∈l,Sp t.lit t.tok:=fun t ht=>by
  obtain ⟨i,hi,e⟩:=List.getElem_of_mem ht;exact ih i t (by rw [List.getElem?_eq_getElem hi,e]) (hit t ht) (num_at hnum.2 ht)
 rw [yf7,tok_k]
 cases hv with
 | null=>exact Sp.name (by decide)
 | bool h=>rcases h with rfl | rfl <;> exact Sp.name (by decide)
 | int =>
   have h0:(T1.numL (Lib.itoa n)).2=0:=by rw [T1.zR9 n hnum.1.1 hnum.1.2]
   exact Sp.int h0
 | text=>exact Sp.text _
 | enum h =>
   unfold enumB at h;simp only [Bool.and_eq_true] at h
   exact Sp.nm h.2
 | list =>
   have:=zk2 (fun t:VT=>32::t.lit) VT.tok l (fun t ht=>⟨.sep sep32 (hall t ht),.cons (by decide)⟩)
   rw [<- zQ6] at this;have e:(VT.lits l).map (fun x=>32::x)=l.map fun t=>32::t.lit:=by rw [zw1,List.map_map]; rfl
   rw [<- e] at this;exact Sp.sign (by decide) (Sp.app this.1 (hw_c (by decide)) (.sep sep32 (Sp.sign (c:=93) (by decide) .nil)))
 | object hl hk hn =>
   have:=zO7 (List.zipWith (fun (a:ByteArray) (t:VT)=>((32::(bL a++[32,58]))++(32::t.lit),(2,a.data.toList)::(1,[58])::t.tok)) ks l) (fun p hp=>by
    obtain ⟨i,hi,e⟩:=List.getElem_of_mem hp;have hi2:i<ks.length/\i<l.length:=by rw [List.length_zipWith] at hi; omega
    have hi3:=hi2.1;have hi4:=hi2.2;rw [List.getElem_zipWith] at e;subst e;have h5:Sp (bL ks[i]++([32,58]++(32::(l[i]).lit))) ([(2,(ks[i]).data.toList)]++((1,[58])::(l[i]).tok)):=Sp.app (Sp.nm (List.all_eq_true.1 hk _ (List.getElem_mem _))) (hw_c (by decide)) (.sep sep32 (.sign sg58 (.sep sep32 (hall _ (List.getElem_mem _)))))
    rw [<- List.append_assoc] at h5;exact ⟨.sep sep32 h5,.cons (by decide)⟩)
   rw [<- (zy1 ks l).1, <- (zy1 ks l).2] at this;exact Sp.sign (by decide) (Sp.app this.1 (hw_c (by decide)) (.sep sep32 (Sp.sign (c:=125) (by decide) .nil)))
theorem warg_sp {x:ByteArray × VT} (h:argOk x=true) (hn:x.2.num):Sp (wArg x) (argT x)/\Hw (wArg x):=by
 unfold argOk litOk zb9 at h;simp only [Bool.and_eq_true] at h
 exact ⟨.sep sep32 (Sp.app (Sp.nm h.1) (hw_c (by decide)) (w583 (lit_sp _ (by unfold VT.cst; rw [h.2.1.2,h.2.2.2]; rfl) hn))),.cons (by decide)⟩
theorem zX8 {α:Type} (f : α->List UInt8) (g : α->List Lo) (l:List α) (hp:∀ x∈l,Sp (f x) (g x)/\Hw (f x)):Sp (if l.length=0 then [] else [32,40]++((l.map f).flatten++[32,41])) (parT g l)/\Hw (if l.length=0 then [] else [32,40]++((l.map f).flatten++[32,41])):=by
 unfold parT;by_cases h:l.length=0
 ·rw [if_pos h,if_pos h]; exact ⟨.nil,.nil⟩
 ·rw [if_neg h,if_neg h]
  have:=zk2 f g l hp;exact ⟨wx2 (by decide) (Sp.app this.1 (hw_c (by decide)) (wcl (by decide))),hw2⟩
theorem wdir_sp {d:DirT} (h:dirOk d=true) (hn:∀ a∈d.args,a.2.num):Sp (wDir d) (dirT d)/\Hw (wDir d):=by
 unfold dirOk at h;rw [Bool.and_eq_true] at h;have hp:=zX8 wArg argT d.args (fun x hx=>warg_sp ((zb6 h.2).2.2 x hx) (hn x hx));exact ⟨wx3 (by decide) (Sp.app (Sp.nm h.1) hp.2 hp.1),hw3⟩
theorem zv5 {l:List DirT} (h:zg7 l=true) (hn:dirsN l):Sp (wDirs l) (dirsT l)/\Hw (wDirs l):=zk2 wDir dirT l fun d hd=>wdir_sp ((zb6 h).2.2 d hd) (hn d hd)
theorem zY2 {x:InpT} (h:inpOk x=true) (hn:inpN x):Sp (wInp x) (inpT x)/\Hw (wInp x):=by
 unfold inpOk at h;simp only [Bool.and_eq_true] at h
 obtain ⟨h1,h2,h3,h4⟩:=h;have ht:=zv5 h4 hn.2;have hd:Sp (if x.has=true then [32,61,32]++x.dflt.lit else []) (if x.has=true then (1,[61])::x.dflt.tok else [])/\Hw (if x.has=true then [32,61,32]++x.dflt.lit else []):=by
  cases hh:x.has with
  | false=>exact ⟨.nil,.nil⟩
  | true =>
    rw [hh] at h3;have h5:litOk x.dflt=true:=h3;unfold litOk zb9 at h5;simp only [Bool.and_eq_true] at h5
    exact ⟨wx3 (by decide) (lit_sp _ (by unfold VT.cst; rw [h5.1.2,h5.2.2]; rfl) hn.1),hw3⟩
 exact ⟨.sep sep32 (Sp.app (Sp.nm h1) (hw_c (by decide)) (w583 (Sp.app (ref_sp h2) (hd.2.app ht.2) (Sp.app hd.1 ht.2 ht.1)))),.cons (by decide)⟩
theorem zY4 {x:FldT} (h:fldOk x=true) (hn:fldN x):Sp (wFld x) (fldT x)/\Hw (wFld x):=by
 unfold fldOk at h;simp only [Bool.and_eq_true] at h
 obtain ⟨h1,h2,h3,h4⟩:=h;have ht:=zv5 h4 hn.2;have hp:=zX8 wInp inpT x.args (fun y hy=>zY2 ((zb6 h2).2.2 y hy) (hn.1 y hy));exact ⟨.sep sep32 (Sp.app (Sp.nm h1) (hp.2.app (hw_c (by decide))) (Sp.app hp.1 (hw_c (by decide)) (w583 (Sp.app (ref_sp h3) ht.2 ht.1)))),.cons (by decide)⟩
theorem wmem_sp {x:MemT} (h:ze7 x=true) (hn:dirsN x.dirs):Sp (wMem x) (memT x)/\Hw (wMem x):=by
 unfold ze7 at h;rw [Bool.and_eq_true] at h;have ht:=zv5 h.2 hn;exact ⟨.sep sep32 (Sp.app (Sp.nm h.1) ht.2 ht.1),.cons (by decide)⟩
theorem zG6 {w:List UInt8} {q:List Lo} {c:UInt8} (hc:c∈K.sgL) (hw:∀ a r,Sp a r->Sp (w++a) (q++r)) (hh:∀ l,wdH (w++l)=false) (l:List ByteArray) (hl:∀ x∈l,nmA x=true) :
  Sp (zd1 w [32,c,32] l) (if l.length=0 then [] else q++nmsT c l)/\Hw (zd1 w [32,c,32] l):=by
 cases l with
 | nil=>exact ⟨.nil,.nil⟩
 | cons x r =>
   rw [if_neg (by simp)]
   have hf:=zk2 (fun y=>[32,c,32]++bL y) (fun y:ByteArray=>[((1:Int),[c]),(2,y.data.toList)]) r (fun y hy=>⟨wx3 hc (Sp.nm (hl y (by simp [hy]))),hw3⟩)
   have h1:Sp (bL x++(r.map fun y=>[32,c,32]++bL y).flatten) ([(2,x.data.toList)]++(r.map fun y:ByteArray=>[((1:Int),[c]),(2,y.data.toList)]).flatten):=Sp.app (Sp.nm (hl x (by simp))) hf.2 hf.1
   exact ⟨hw _ _ h1,fun l _=>by show wdH ((w++_)++l)=false; rw [List.append_assoc]; exact hh _⟩
theorem zo4 (w c:List UInt8):zd1 w c []=[]:=rfl
theorem wdef_sp {d:DefT} (h:defOk d=true) (hn:defN d):Sp (wDef d) (defT d):=by
 unfold defOk at h;simp only [Bool.and_eq_true] at h
 obtain ⟨h1,hd,hp⟩:=h;obtain ⟨n1,n2,n3,n4⟩:=hn;have hds:=zv5 hd n1;have key:∀ (w a:List UInt8) (q:List Lo),T1.nameL w=true->Sp a q->Hw a->Sp (w++(32::(bL d.name++a))) ((2,w)::(2,d.name.data.toList)::q):=fun w a q hw ha hh=>by
  have h2:Sp (32::(bL d.name++a)) ([(2,d.name.data.toList)]++q):=.sep sep32 (Sp.app (Sp.nm h1) hh ha);exact Sp.app (Sp.name hw) (hw_c (by decide)) h2
 have close:Sp [32,125] [(1,[125])]:=wcl (by decide)
 unfold zb4 zh9 at hp;unfold wDef defT wWord
 split at hp
 ·next e =>
  simp only [Bool.and_eq_true] at hp
  obtain ⟨p1,p2,p3,p4⟩:=hp;have hf:=zk2 wFld fldT d.fields (fun x hx=>zY4 ((zb6 p2).2.2 x hx) (n2 x hx));have hi:=zG6 (w:=[32,105,109,112,108,101,109,101,110,116,115,32]) (q:=[(2,[105,109,112,108,101,109,101,110,116,115])]) (c:=38) (by decide) (fun a r ha=>.sep sep32 (show Sp ([105,109,112,108,101,109,101,110,116,115]++(32::a)) ([(2,[105,109,112,108,101,109,101,110,116,115])]++r) from Sp.app (Sp.name (by decide)) (hw_c (by decide)) (.sep sep32 ha))) (fun _=>rfl) d.impl (zb6 p1).2.2
  rw [if_pos e,if_pos e,if_neg (by rw [e]; decide),zb5 p3,zb5 p4]
  have hb:Sp ([32,123]++((d.fields.map wFld).flatten++[32,125])) (blkT fldT d.fields):=wx2 (by decide) (Sp.app hf.1 (hw_c (by decide)) close)
  exact key _ _ _ (by decide) (Sp.app hi.1 (hds.2.app (hw_c (by decide))) (Sp.app hds.1 (hw_c (by decide)) hb)) (hi.2.app (hds.2.app (hw_c (by decide))))
 next e1 =>
 split at hp
 ·next e =>
  simp only [Bool.and_eq_true] at hp
  obtain ⟨p1,p2,p3,p4⟩:=hp;have hf:=zk2 wFld fldT d.fields (fun x hx=>zY4 ((zb6 p2).2.2 x hx) (n2 x hx));rw [if_neg e1,if_neg e1,if_pos e,if_pos e,if_neg (by rw [e]; decide),zb5 p1,zb5 p3,zb5 p4]
  rw [zo4,List.nil_append];have hb:Sp ([32,123]++((d.fields.map wFld).flatten++[32,125])) (blkT fldT d.fields):=wx2 (by decide) (Sp.app hf.1 (hw_c (by decide)) close)
  exact key _ _ _ (by decide) (Sp.app hds.1 (hw_c (by decide)) hb) (hds.2.app (hw_c (by decide)))
 next e2 =>
 split at hp
 ·next e =>
  simp only [Bool.and_eq_true] at hp
  obtain ⟨p1,p2,p3,p4⟩:=hp;rw [if_neg e1,if_neg e1,if_neg e2,if_neg e2,if_pos e,if_pos e,if_pos e,zb5 p1];rw [zo4,List.nil_append];have hm:=zG6 (w:=[32,61,32]) (q:=[(1,[61])]) (c:=124) (by decide) (fun a r ha=>wx3 (by decide) ha) (fun _=>rfl) (d.members.map MemT.name) (fun x hx=>by
   obtain ⟨m,hm,rfl⟩:=List.mem_map.1 hx;have h5:=(zb6 p3).2.2 m hm;unfold zd6 at h5;rw [Bool.and_eq_true] at h5;exact h5.1)
  rw [if_neg (by rw [List.length_map]; have:=(zb6 p3).1; omega)] at hm
  exact key _ _ _ (by decide) (Sp.app hds.1 hm.2 hm.1) (hds.2.app hm.2)
 next e3 =>
 split at hp
 ·next e =>
  simp only [Bool.and_eq_true] at hp
  obtain ⟨p1,p2,p3,p4⟩:=hp;have hf:=zk2 wMem memT d.members (fun x hx=>wmem_sp ((zb6 p3).2.2 x hx) (n3 x hx));rw [if_neg e1,if_neg e1,if_neg e2,if_neg e2,if_neg e3,if_neg e3,if_neg e3,if_pos e,if_pos e,zb5 p1,zb5 p2,zb5 p4];rw [zo4,List.nil_append];have hb:Sp ([32,123]++((d.members.map wMem).flatten++[32,125])) (blkT memT d.members):=wx2 (by decide) (Sp.app hf.1 (hw_c (by decide)) close)
  exact key _ _ _ (by decide) (Sp.app hds.1 (hw_c (by decide)) hb) (hds.2.app (hw_c (by decide)))
 next e4 =>
 split at hp
 ·next e =>
  simp only [Bool.and_eq_true] at hp
  obtain ⟨p1,p2,p3,p4⟩:=hp;have hf:=zk2 wInp inpT d.inputs (fun x hx=>zY2 ((zb6 p4).2.2 x hx) (n4 x hx));rw [if_neg e1,if_neg e1,if_neg e2,if_neg e2,if_neg e3,if_neg e3,if_neg e3,if_neg e4,if_neg e4,if_pos e,zb5 p1,zb5 p2,zb5 p3];rw [zo4,List.nil_append];have hb:Sp ([32,123]++(wInps d.inputs++[32,125])) (blkT inpT d.inputs):=wx2 (by decide) (Sp.app hf.1 (hw_c (by decide)) close)
  exact key _ _ _ (by decide) (Sp.app hds.1 (hw_c (by decide)) hb) (hds.2.app (hw_c (by decide)))
 ·cases hp
theorem ya7 {xs:List DefT} (h:docOk xs=true) (hn:∀ d∈xs,defN d) (hl:(wDoc xs).length<=65536):sdlR (wDoc xs)=.ok xs:=by
 have:=jn_map sep_s wDef defT xs (fun d hd=>wdef_sp ((zb6 h).2.2 d hd) (hn d hd));rw [jnT_nil] at this;exact sdl_of h hn this.all hl
end Go.Proofs.YtfgelheiknmjgaaGreatDoor
