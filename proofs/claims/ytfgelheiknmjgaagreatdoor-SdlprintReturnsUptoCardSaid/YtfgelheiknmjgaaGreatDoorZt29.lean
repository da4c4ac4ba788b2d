
/-
 Texts joined: Tg Th W2 Twice RNodeD RNodeA RNodeB.
-/
import Derived.Test.YtfgelheiknmjgaaGreatDoorZt28
set_option maxRecDepth 1000000
set_option maxHeartbeats 8000000
namespace Go.Proofs.YtfgelheiknmjgaaGreatDoor
open Go.RowKit
open K (Sp Sc Hw wdH wdB)
theorem nm_t {s:ByteArray} (h:nmA s=true):T1.nameL s.data.toList=true:=h
theorem Sp.nm {s:ByteArray} (h:nmA s=true):Sp (bL s) [(2,s.data.toList)]:=.name (nm_t h)
theorem sg58:(58:UInt8)∈K.sgL:=by decide
theorem sep32:K.sepS false 32=some false:=rfl
theorem sep10:K.sepS false 10=some false:=rfl
theorem sep44:K.sepS false 44=some false:=rfl
def jnT (Q:List Lo):List (List Lo)->List Lo
 | []=>[]
 | a::r=>a++(r.map (fun x=>Q++x)).flatten
theorem zB8:∀ l:List (List Lo),jnT [] l=l.flatten
 | []=>rfl
 | a::r=>by simp [jnT]
structure SepOk (S:List UInt8) (Q:List Lo):Prop where
 sp:∀ a q,Sp a q->Sp (S++a) (Q++q)
 hw:∀ l,wdH (S++l)=false
theorem yg6 {S:List UInt8} {Q:List Lo} (h:SepOk S Q):∀ L:List (List UInt8 × List Lo),(∀ p∈L,Sp p.1 p.2)->Sp ((L.map Prod.fst).map (fun x=>S++x)).flatten ((L.map Prod.snd).map (fun x=>Q++x)).flatten/\Hw ((L.map Prod.fst).map (fun x=>S++x)).flatten
 | [],_=>⟨.nil,.nil⟩
 | p::L,hp=>by
   have ih:=yg6 h L (fun q hq=>hp q (List.mem_cons_of_mem _ hq));have h1:=h.sp _ _ (hp p List.mem_cons_self);refine ⟨Sp.app h1 ih.2 ih.1,fun l _=>?_⟩;show wdH (((S++p.1)++_)++l)=false
   rw [List.append_assoc,List.append_assoc];exact h.hw _
theorem jn_sp {S:List UInt8} {Q:List Lo} (h:SepOk S Q) (L:List (List UInt8 × List Lo)) (hp:∀ p∈L,Sp p.1 p.2):Sp (jn S (L.map Prod.fst)) (jnT Q (L.map Prod.snd)):=by
 cases L with
 | nil=>exact .nil
 | cons p L =>
   have ih:=yg6 h L (fun q hq=>hp q (List.mem_cons_of_mem _ hq));exact Sp.app (hp p List.mem_cons_self) ih.2 ih.1
theorem zE8 {α:Type} {S:List UInt8} {Q:List Lo} (h:SepOk S Q) (f : α->List UInt8) (g : α->List Lo) (xs:List α) (hp:∀ x∈xs,Sp (f x) (g x)):Sp (jn S (xs.map f)) (jnT Q (xs.map g)):=by
 have:=jn_sp h (xs.map fun x=>(f x,g x)) (fun p hq=>by obtain ⟨x,hx,rfl⟩:=List.mem_map.1 hq; exact hp x hx);rw [List.map_map,List.map_map] at this;exact this
theorem sep_c:SepOk [44,32] []:=⟨fun _ _ h=>.sep sep44 (.sep sep32 h),fun _=>rfl⟩
theorem sep_s:SepOk [32] []:=⟨fun _ _ h=>.sep sep32 h,fun _=>rfl⟩
theorem sep_n:SepOk [10] []:=⟨fun _ _ h=>.sep sep10 h,fun _=>rfl⟩
theorem sep_a:SepOk [32,38,32] [(1,[38])]:=⟨fun _ _ h=>.sep sep32 (.sign (by decide) (.sep sep32 h)),fun _=>rfl⟩
theorem sep_o:SepOk [32,124,32] [(1,[124])]:=⟨fun _ _ h=>.sep sep32 (.sign (by decide) (.sep sep32 h)),fun _=>rfl⟩
theorem p40 {a:List UInt8} {q:List Lo} (h:Sp a q):Sp ([40]++a) ((1,[40])::q):=.sign (by decide) h
theorem p64 {a:List UInt8} {q:List Lo} (h:Sp a q):Sp ([64]++a) ((1,[64])::q):=.sign (by decide) h
theorem p58 {a:List UInt8} {q:List Lo} (h:Sp a q):Sp ([58,32]++a) ((1,[58])::q):=.sign (by decide) (.sep sep32 h)
theorem p61 {a:List UInt8} {q:List Lo} (h:Sp a q):Sp ([32,61,32]++a) ((1,[61])::q):=.sep sep32 (.sign (by decide) (.sep sep32 h))
theorem p123 {a:List UInt8} {q:List Lo} (h:Sp a q):Sp ([32,123,10]++a) ((1,[123])::q):=.sep sep32 (.sign (by decide) (.sep sep10 h))
theorem p32 {a:List UInt8} {q:List Lo} (h:Sp a q):Sp ([32]++a) q:=.sep sep32 h
theorem p3232 {a:List UInt8} {q:List Lo} (h:Sp a q):Sp ([32,32]++a) q:=.sep sep32 (.sep sep32 h)
theorem hw_c {c:UInt8} {a:List UInt8} (h:wdB c=false):Hw (c::a):=.cons h
theorem src_mk {k n:Int} {s:ByteArray} {l:List VT} {ks:List ByteArray}:(VT.mk k n s l ks).src=if k=0 then nullB else if k=1 then (if n=0 then falseB else trueB) else if k=2 then Lib.itoa n else if k=3 then qL s else if k=4 then bL s
  else if k=5 then 91::(jn [44,32] (l.map VT.src)++[93]) else if k=6 then 123::(jn [44,32] (zh6 ks l)++[125])
  else if k=7 then 36::bL s else []:=zo9 k n s l ks
theorem zT1:∀ l:List VT,VT.toks l=l.map VT.tok
 | []=>rfl
 | t::r=>by rw [VT.toks,zT1 r]; rfl
theorem zH3:∀ (ks:List ByteArray) (l:List VT),zh6 ks l=(List.zipWith (fun (a:ByteArray) (t:VT)=>(bL a++(58::32::t.src),(2,a.data.toList)::(1,[58])::t.tok)) ks l).map Prod.fst/\List.zipWith (fun (a:ByteArray) (b:List Lo)=>(2,a.data.toList)::(1,[58])::b) ks (VT.toks l)=(List.zipWith (fun (a:ByteArray) (t:VT)=>(bL a++(58::32::t.src),(2,a.data.toList)::(1,[58])::t.tok)) ks l).map Prod.snd
 | [],l=>by cases l <;> exact ⟨rfl,rfl⟩
 | k::ks,[]=>⟨rfl,rfl⟩
 | k::ks,t::l=>by
   have ih:=zH3 ks l;refine ⟨?_, ?_⟩
   ·show (bL k++(58::32::t.src))::zh6 ks l=_
    rw [ih.1]; rfl
   ·show ((2,k.data.toList)::(1,[58])::t.tok)::List.zipWith _ ks (VT.toks l)=_
    rw [ih.2]; rfl
theorem src_sp (t:VT):t.cst=true->t.num->Sp t.src t.tok:=by
 refine VT.ind (P:=fun t=>t.cst=true->t.num->Sp t.src t.tok) (fun k n s l ks ih=>?_) t
 intro hc hnum;have hv:=cst_v _ hc;have hit:=zW1 hc;rw [VT.num] at hnum;have hall:∀ t∈l,Sp t.src t.tok:=fun t ht=>by
  obtain ⟨i,hi,e⟩:=List.getElem_of_mem ht;exact ih i t (by rw [List.getElem?_eq_getElem hi,e]) (hit t ht) (num_at hnum.2 ht)
 rw [src_mk,tok_k]
 cases hv with
 | null=>exact Sp.name (by decide)
 | bool h=>rcases h with rfl | rfl <;> exact Sp.name (by decide)
 | int =>
   have h0:(T1.numL (Lib.itoa n)).2=0:=by rw [T1.zU4 n hnum.1.1 hnum.1.2]
   exact Sp.int h0
 | text=>exact Sp.text _
 | enum h =>
   unfold enumB at h;simp only [Bool.and_eq_true] at h;exact Sp.nm h.2
 | list =>
   have:=zE8 sep_c VT.src VT.tok l hall;rw [zB8, <- zT1] at this;exact Sp.sign (by decide) (Sp.app this (hw_c (by decide)) (Sp.sign (c:=93) (by decide) .nil))
 | object hl hk hn =>
   have:=jn_sp sep_c (List.zipWith (fun (a:ByteArray) (t:VT)=>(bL a++(58::32::t.src),(2,a.data.toList)::(1,[58])::t.tok)) ks l) (fun p hp=>by
    obtain ⟨i,hi,e⟩:=List.getElem_of_mem hp;rw [List.getElem_zipWith] at e;subst e;exact Sp.app (Sp.nm (List.all_eq_true.1 hk _ (List.getElem_mem _))) (hw_c (by decide)) (.sign sg58 (.sep sep32 (hall _ (List.getElem_mem _)))))
   rw [zB8, <- (zH3 ks l).1, <- (zH3 ks l).2] at this;exact Sp.sign (by decide) (Sp.app this (hw_c (by decide)) (Sp.sign (c:=125) (by decide) .nil))
theorem ref_sp {n:ByteArray} {ws:List Int} (h:K.okB n ws=true):Sp (zp4 n ws) (refT n ws):=by
 unfold K.okB at h;simp only [Bool.and_eq_true] at h;have hn:=h.1.1;have h1:∀ (ls:List Int),Sp (ls.map K.endB) (ls.map wrT)/\Hw (ls.map K.endB):=by
  intro ls
  induction ls with
  | nil=>exact ⟨.nil,.nil⟩
  | cons w r ih =>
    rw [List.map_cons,List.map_cons];unfold K.endB wrT;by_cases hw:w=1
    ·rw [if_pos hw,if_pos hw]; exact ⟨.sign (by decide) ih.1,.cons (by decide)⟩
    ·rw [if_neg hw,if_neg hw]; exact ⟨.sign (by decide) ih.1,.cons (by decide)⟩
 have h2:∀ (k:Nat) (a:List UInt8) (q:List Lo),Sp a q->Sp (List.replicate k 91++a) (List.replicate k (1,[91])++q):=by
  intro k a q ha
  induction k with
  | zero=>exact ha
  | succ k ih=>exact .sign (by decide) ih
 have h3:=h1 ws.reverse;unfold zp4 K.prL refT;rw [List.append_assoc];exact h2 _ _ _ (Sp.app (Sp.name hn) h3.2 h3.1)
theorem arg_sp {x:ByteArray × VT} (h:argOk x=true) (hn:x.2.num):Sp (zy3 x) (argT x):=by
 unfold argOk litOk zd9 at h;simp only [Bool.and_eq_true] at h;exact Sp.app (Sp.nm h.1) (hw_c (by decide)) (p58 (src_sp _ (by unfold VT.cst; rw [h.2.1.2,h.2.2.2]; rfl) hn))
theorem par_sp {α:Type} (f : α->List UInt8) (g : α->List Lo) (l:List α) (hp:∀ x∈l,Sp (f x) (g x)):Sp (if l.length=0 then [] else [40]++(jn [44,32] (l.map f)++[41])) (parT g l)/\Hw (if l.length=0 then [] else [40]++(jn [44,32] (l.map f)++[41])):=by
 unfold parT;by_cases h:l.length=0
 ·rw [if_pos h,if_pos h]; exact ⟨.nil,.nil⟩
 ·rw [if_neg h,if_neg h]
  have:=zE8 sep_c f g l hp;rw [zB8] at this;exact ⟨p40 (Sp.app this (hw_c (by decide)) (Sp.sign (c:=41) (by decide) .nil)),.cons (by decide)⟩
theorem dir_sp {d:DirT} (h:dirOk d=true) (hn:∀ a∈d.args,a.2.num):Sp (zy0 d) (dirT d):=by
 unfold dirOk at h;rw [Bool.and_eq_true] at h;have hp:=par_sp zy3 argT d.args (fun x hx=>arg_sp ((zf5 h.2).2.2 x hx) (hn x hx));exact p64 (Sp.app (Sp.nm h.1) hp.2 hp.1)
theorem zz5 {l:List DirT} (h:zv9 l=true) (hn:dirsN l):Sp (zd2 l) (dirsT l)/\Hw (zd2 l):=by
 unfold zd2;by_cases h0:l.length=0
 ·rw [if_pos h0,List.length_eq_zero_iff.1 h0]; exact ⟨.nil,.nil⟩
 ·rw [if_neg h0]
  have:=zE8 sep_s zy0 dirT l (fun d hd=>dir_sp ((zf5 h).2.2 d hd) (hn d hd));rw [zB8] at this;exact ⟨p32 this,.cons (by decide)⟩
theorem inp_sp {x:InpT} (h:inpOk x=true) (hn:inpN x):Sp (zm3 x) (inpT x):=by
 unfold inpOk at h;simp only [Bool.and_eq_true] at h;obtain ⟨h1,h2,h3,h4⟩:=h;have ht:=zz5 h4 hn.2;have hd:Sp (if x.has=true then [32,61,32]++x.dflt.src else []) (if x.has=true then (1,[61])::x.dflt.tok else [])/\Hw (if x.has=true then [32,61,32]++x.dflt.src else []):=by
  cases hh:x.has with
  | false=>exact ⟨.nil,.nil⟩
  | true =>
    rw [hh] at h3;have h5:litOk x.dflt=true:=h3;unfold litOk zd9 at h5;simp only [Bool.and_eq_true] at h5;exact ⟨p61 (src_sp _ (by unfold VT.cst; rw [h5.1.2,h5.2.2]; rfl) hn.1),.cons (by decide)⟩
 exact Sp.app (Sp.nm h1) (hw_c (by decide)) (p58 (Sp.app (ref_sp h2) (hd.2.app ht.2) (Sp.app hd.1 ht.2 ht.1)))
theorem fld_sp {x:FldT} (h:fldOk x=true) (hn:fldN x):Sp (zm8 x) (fldT x):=by
 unfold fldOk at h;simp only [Bool.and_eq_true] at h;obtain ⟨h1,h2,h3,h4⟩:=h;have ht:=zz5 h4 hn.2;have hp:=par_sp zm3 inpT x.args (fun y hy=>inp_sp ((zf5 h2).2.2 y hy) (hn.1 y hy));exact Sp.app (Sp.nm h1) (hp.2.app (hw_c (by decide))) (Sp.app hp.1 (hw_c (by decide)) (p58 (Sp.app (ref_sp h3) ht.2 ht.1)))
theorem mem_sp {x:MemT} (h:zv1 x=true) (hn:dirsN x.dirs):Sp (zi6 x) (memT x):=by
 unfold zv1 at h;rw [Bool.and_eq_true] at h;have ht:=zz5 h.2 hn;exact Sp.app (Sp.nm h.1) ht.2 ht.1
theorem zU6 {α:Type} (f : α->List UInt8) (g : α->List Lo):∀ l:List α,(∀ x∈l,Sp (f x) (g x))->Sp ((l.map f).map zb6).flatten (l.map g).flatten/\Hw ((l.map f).map zb6).flatten
 | [],_=>⟨.nil,.nil⟩
 | x::l,hp=>by
   have ih:=zU6 f g l (fun y hy=>hp y (List.mem_cons_of_mem _ hy));have h1:Sp (zb6 (f x)) (g x):=by
    have h2:Sp (f x++[10]) (g x++[]):=Sp.app (hp x List.mem_cons_self) (hw_c (by decide)) (Sp.sep sep10 .nil);rw [List.append_nil] at h2;exact p3232 h2
   exact ⟨Sp.app h1 ih.2 ih.1,.cons (by decide)⟩
theorem zW6 {α:Type} {ds:List DirT} (h:zv9 ds=true) (hn:dirsN ds) (f : α->List UInt8) (g : α->List Lo) (l:List α) (hp:∀ x∈l,Sp (f x) (g x)):Sp (zj7 ds (l.map f)) (dirsT ds++blkT g l)/\Hw (zj7 ds (l.map f)):=by
 have ht:=zz5 h hn;have hl:=zU6 f g l hp;have hb:Sp ([32,123,10]++(((l.map f).map zb6).flatten++[125,10])) (blkT g l):=p123 (Sp.app hl.1 (hw_c (by decide)) (Sp.sign (c:=125) (by decide) (.sep sep10 .nil)));exact ⟨Sp.app ht.1 (hw_c (by decide)) hb,ht.2.app (hw_c (by decide))⟩
theorem yk3 (c:UInt8) (l:List ByteArray):nmsT c l=jnT [(1,[c])] (l.map fun x=>[(2,x.data.toList)]):=by
 cases l with
 | nil=>rfl
 | cons x l=>simp [nmsT,jnT,List.map_map,Function.comp_def]
theorem imp_sp {l:List ByteArray} (h:∀ x∈l,nmA x=true):Sp (zp9 l) (impT l)/\Hw (zp9 l):=by
 unfold zp9 impT;by_cases h0:l.length=0
 ·rw [if_pos h0,if_pos h0]; exact ⟨.nil,.nil⟩
 ·rw [if_neg h0,if_neg h0]
  have hj:=zE8 sep_a bL (fun x=>[((2:Int),x.data.toList)]) l (fun x hx=>Sp.nm (h x hx));rw [<- yk3] at hj;have hk:Sp ([105,109,112,108,101,109,101,110,116,115]++(32::jn [32,38,32] (l.map bL))) ([(2,[105,109,112,108,101,109,101,110,116,115])]++nmsT 38 l):=Sp.app (Sp.name (by decide)) (hw_c (by decide)) (.sep sep32 hj);exact ⟨.sep sep32 hk,.cons (by decide)⟩
theorem zM4 {w a:List UInt8} {q:List Lo} {n:ByteArray} (hw:T1.nameL w=true) (hn:nmA n=true) (ha:Sp a q) (hh:Hw a):Sp ((w++[32])++(bL n++a)) ((2,w)::(2,n.data.toList)::q):=by
 have h2:Sp (32::(bL n++a)) ([(2,n.data.toList)]++q):=.sep sep32 (Sp.app (Sp.nm hn) hh ha);have h1:Sp (w++(32::(bL n++a))) ([(2,w)]++([(2,n.data.toList)]++q)):=Sp.app (Sp.name hw) (hw_c (by decide)) h2;rw [List.append_assoc];exact h1
theorem def_sp {d:DefT} (h:defOk d=true) (hn:defN d):Sp (zk1 d) (defT d):=by
 unfold defOk at h;simp only [Bool.and_eq_true] at h;obtain ⟨h1,hd,hp⟩:=h;obtain ⟨n1,n2,n3,n4⟩:=hn;unfold zH0 zo7 at hp;unfold zk1 defT
 split at hp
 ·next e =>
  simp only [Bool.and_eq_true] at hp
  obtain ⟨p1,p2,_,_⟩:=hp;rw [if_pos e,if_pos e];have hb:=zW6 hd n1 zm8 fldT d.fields (fun x hx=>fld_sp ((zf5 p2).2.2 x hx) (n2 x hx));have hi:=imp_sp (zf5 p1).2.2;exact zM4 (w:=[116,121,112,101]) (by decide) h1 (Sp.app hi.1 hb.2 hb.1) (hi.2.app hb.2)
 next e1 =>
 split at hp
 ·next e =>
  simp only [Bool.and_eq_true] at hp
  obtain ⟨_,p2,_,_⟩:=hp;rw [if_neg e1,if_neg e1,if_pos e,if_pos e];have hb:=zW6 hd n1 zm8 fldT d.fields (fun x hx=>fld_sp ((zf5 p2).2.2 x hx) (n2 x hx));exact zM4 (w:=[105,110,116,101,114,102,97,99,101]) (by decide) h1 hb.1 hb.2
 next e2 =>
 split at hp
 ·next e =>
  simp only [Bool.and_eq_true] at hp
  obtain ⟨_,_,p3,_⟩:=hp;rw [if_neg e1,if_neg e1,if_neg e2,if_neg e2,if_pos e,if_pos e];have ht:=zz5 hd n1;have hm:∀ x∈d.members,Sp (zi6 x) [(2,x.name.data.toList)]:=fun x hx=>by
   have h5:=(zf5 p3).2.2 x hx;unfold zr7 at h5;rw [Bool.and_eq_true,decide_eq_true_eq] at h5;unfold zi6 zd2;rw [if_pos h5.2,List.append_nil];exact Sp.nm h5.1
  have hj:=zE8 sep_o zi6 (fun x:MemT=>[((2:Int),x.name.data.toList)]) d.members hm;have e5:jnT [(1,[124])] (d.members.map fun x:MemT=>[((2:Int),x.name.data.toList)])=nmsT 124 (d.members.map MemT.name):=by rw [yk3,List.map_map]; rfl
  rw [e5] at hj;have hr:Sp (jn [32,124,32] (d.members.map zi6)++[10]) (nmsT 124 (d.members.map MemT.name)++[]):=Sp.app hj (hw_c (by decide)) (.sep sep10 .nil);rw [List.append_nil] at hr;have hu:Sp (zJ8 d.dirs d.members) (dirsT d.dirs++((1,[61])::nmsT 124 (d.members.map MemT.name))):=Sp.app ht.1 (hw_c (by decide)) (p61 hr);exact zM4 (w:=[117,110,105,111,110]) (by decide) h1 hu (ht.2.app (hw_c (by decide)))
 next e3 =>
 split at hp
 ·next e =>
  simp only [Bool.and_eq_true] at hp
  obtain ⟨_,_,p3,_⟩:=hp;rw [if_neg e1,if_neg e1,if_neg e2,if_neg e2,if_neg e3,if_neg e3,if_pos e,if_pos e];have hb:=zW6 hd n1 zi6 memT d.members (fun x hx=>mem_sp ((zf5 p3).2.2 x hx) (n3 x hx));exact zM4 (w:=[101,110,117,109]) (by decide) h1 hb.1 hb.2
 next e4 =>
 split at hp
 ·next e =>
  simp only [Bool.and_eq_true] at hp
  obtain ⟨_,_,_,p4⟩:=hp;rw [if_neg e1,if_neg e1,if_neg e2,if_neg e2,if_neg e3,if_neg e3,if_neg e4,if_neg e4,if_pos e];have hb:=zW6 hd n1 zm3 inpT d.inputs (fun x hx=>inp_sp ((zf5 p4).2.2 x hx) (n4 x hx));exact zM4 (w:=[105,110,112,117,116]) (by decide) h1 hb.1 hb.2
 ·cases hp
theorem doc_sp {xs:List DefT} (h:docOk xs=true) (hn:∀ d∈xs,defN d):Sp (zh9 xs) (docT xs):=by
 have:=zE8 sep_n zk1 defT xs (fun d hd=>def_sp ((zf5 h).2.2 d hd) (hn d hd));rw [zB8] at this;exact this
theorem yf1 {xs:List DefT} (h:docOk xs=true) (hn:∀ d∈xs,defN d) (hl:(zh9 xs).length<=65536):sdlR (zh9 xs)=.ok xs:=sdl_of h hn (doc_sp h hn).all hl
mutual
def VT.lit:VT->List UInt8
 | .mk k n s items keys =>
   if k=0 then nullB else if k=1 then (if n=1 then trueB else falseB) else if k=2 then Lib.itoa n else if k=3 then qL s else if k=4 then bL s
   else if k=7 then 36::32::bL s
   else if k=6 then 123::((List.zipWith (fun a b=>(32::(bL a++[32,58]))++(32::b)) keys (VT.lits items)).flatten++[32,125]) else 91::(((VT.lits items).map fun x=>32::x).flatten++[32,93])
def VT.lits:List VT->List (List UInt8)
 | []=>[]
 | t::r=>t.lit::VT.lits r
end
theorem hw2 {c:UInt8} {a:List UInt8}:Hw ([32,c]++a):=.cons (by decide)
theorem hw3 {c:UInt8} {a:List UInt8}:Hw ([32,c,32]++a):=.cons (by decide)
end Go.Proofs.YtfgelheiknmjgaaGreatDoor
namespace Go.Proofs.YtfgelheiknmjgaaGreatDoor
open Go.RowKit
theorem zf4 (K:Option Addr) (lk ck:Nat) (keys:List ByteArray) (w:World) (B:Nat) (hlk:keys.length=lk) (hbk:lk*16<=140737488351232) (hK:KeysAt w B K keys) (hB:B<=w.heap.size) :
  Calls Tryz.prog 226 #[.slice K lk ck] w fun e w'=>e=.returned (.bool (!decide keys.Nodup))/\Below w.heap.size w w':=by
 have HL:=Lh hlk;have HK:Hid (0<lk->∃ a,K=some a/\∀ W,Below w.heap.size w W->∀ i s,keys[i]?=some s->W.cell? (a.add i)=some (.string s)):=Lh (fun h0=>by
  obtain ⟨a,e,hab,hc⟩:=hK (by omega);exact ⟨a,e,fun W hb i s hi=>(hb.cell (p:=a.add i) (by rw [za1]; omega)).trans (hc i s hi)⟩)
 have hlm:(lk:Int)<=140737488351232:=by omega
 clear hlk hK
 go_enter Tryz.func226, Tryz.ntmps226
 go_wp2_with fail
 go_loopw [3] (fun i wr=>∃ j:Nat,j<=lk/\i=.int .i64 j/\(keys.take j).Nodup/\Below w.heap.size w wr) (fun i _=>lk-(intOf i).toNat)
 case atStart=>exact ⟨0,Nat.zero_le _,rfl,List.nodup_nil,Below.refl _ _⟩
 case round =>
  obtain ⟨j,hj,rfl,hnd,hb⟩:=hrel;have HND:=Lh hnd;have HB:=Lh hb;clear hnd hb;by_cases hlt:j<lk
  ·obtain ⟨a,rfl,hc⟩:=HK.out (by omega)
   have hjl:j<keys.length:=by have:=HL.out; omega
   have HC:=Lh hc;have HSN:=Lh (ya6 hjl);have HJ:Hid (∀ W,Below w.heap.size w W->W.cell? (a.add j)=some (.string keys[j])):=Lh fun W hb=>hc W hb j _ (List.getElem?_eq_getElem hjl);clear hc;generalize hs:keys[j]=s at *;clear hs;go_wp2_with fail
   go_loopw [4] (fun k wr=>∃ m:Nat,m<=j/\k=.int .i64 m/\s ∉ keys.take m/\Below w.heap.size w wr) (fun k _=>j-(intOf k).toNat)
   case atStart=>exact ⟨0,Nat.zero_le _,rfl,by simp,HB.out⟩
   case round =>
    obtain ⟨m,hm,rfl,hni,hb2⟩:=hrel;have HNI:=Lh hni;have HB2:=Lh hb2;clear hni hb2;by_cases hmj:m<j
    ·have hml:m<keys.length:=by omega
     have HM:Hid (∀ W,Below w.heap.size w W->W.cell? (a.add m)=some (.string keys[m])):=Lh fun W hb=>HC.out W hb m _ (List.getElem?_eq_getElem hml);have HTK:Hid (keys.take (m+1)=keys.take m++[keys[m]]):=Lh (List.take_succ_eq_append_getElem hml);have HME:Hid (keys[m]∈keys.take j):=Lh (List.mem_take_iff_getElem.2 ⟨m,by omega,rfl⟩);generalize keys[m]=u at *;go_wp2_with fail;refine za7 (fun W=>Below w.heap.size w W) HB2.out (by kernel_rfl) ?_
     intro W hbW _;have hcj:∀ x:Past W,x.w.cell? (a.add j)=some (.string s):=fun x=>HJ.out x.w (hbW.trans (x.b.mono hbW.size));have hcm:∀ x:Past W,x.w.cell? (a.add m)=some (.string u):=fun x=>HM.out x.w (hbW.trans (x.b.mono hbW.size));have HW:=Lh hbW;clear hbW
     repeat (go_big_quiet_step (fail))
     refine wpQuiet_nil ?_
     intro _ hw';obtain ⟨x,rfl⟩:=hw';have HX:=Lh (HW.out.trans (x.b.mono HW.out.size));by_cases he:s=u
     ·have heq:(s.toList==u.toList)=true:=by rw [he]; simp
      rw [heq];subst he;clear heq;have HNO:Hid (decide keys.Nodup=false):=Lh (by
       simp only [decide_eq_false_iff_not]
       intro h;exact (HSN.out.1 (ya5 h)).2 HME.out)
      go_wp2_with fail
      go_ret
      exact ⟨by rw [HNO.out]; rfl,HX.out⟩
     ·have hne:(s.toList==u.toList)=false:=by
       rw [Lib.toList_data,Lib.toList_data,beq_eq_false_iff_ne];intro h;exact he (by cases s; cases u; simp only [ByteArray.mk.injEq]; exact Array.toList_inj.1 h)
      have HNI2:Hid (s ∉ keys.take (m+1)):=Lh (by
       rw [HTK.out,List.mem_append];rintro (h | h)
       ·exact HNI.out h
       ·exact he (by simpa using h))
      clear he;rw [hne];go_wp2_with fail
      go_roundw
      case rel=>exact ⟨m+1,by omega,by go_num,HNI2.out,HX.out⟩
      case measure=>simp [intOf]; omega
    ·have hmj':m=j:=by omega
     subst hmj';go_wp2_with fail
     trace_state
     go_roundw
     case rel=>exact ⟨m+1,by omega,by go_num,HSN.out.2 ⟨HND.out,HNI.out⟩,HB2.out⟩
     case measure=>simp [intOf]; omega
  ·have HJ:Hid (decide keys.Nodup=true):=Lh (by
    have:=HND.out;rw [List.take_of_length_le (by have:=HL.out; omega)] at this;simpa using this)
   go_wp2_with fail
   go_ret
   exact ⟨by rw [HJ.out]; rfl,HB.out⟩
def za4 (lit:Bool):VT->Bool
 | .mk k n s is ks =>
   if k=0 then decide (n=0)&&decide (s.size=0)&&leafB is ks
   else if k=1 then (decide (n=0)||decide (n=1))&&decide (s.size=0)&&leafB is ks
   else if k=2 then decide (s.size=0)&&leafB is ks
   else if k=3 then decide (n=0)&&leafB is ks
   else if k=4 then decide (n=0)&&leafB is ks&&enumB s
   else if k=5 then decide (n=0)&&decide (s.size=0)&&decide (ks.length=0)
   else if k=6 then decide (n=0)&&decide (s.size=0)&&decide (ks.length=is.length)&&decide ks.Nodup
   else if k=7 then lit&&decide (n=0)&&leafB is ks&&nmA s
   else false
theorem rnode_0 (lit:Bool) (n:Int) (s:ByteArray) (items:List VT) (keys:List ByteArray) (w:World) (B:Nat) (v:Value) (h:Rd w B v (.mk 0 n s items keys)) (hB:B<=w.heap.size) :
  Calls Tryz.prog 189 #[v,.bool lit] w fun e w'=>e=.returned (.bool (za4 lit (.mk 0 n s items keys)))/\Below w.heap.size w w':=by
 have HRD:=Lh h
 cases h with
 | @mk _ _ _ A li ci K lk ck _ _ V hk hn hs hks hli hlk hbi hbk hA hr hK =>
 have b1:Below w.heap.size w (w.alloc (.cells #[.int .i64 0,.int .i64 n,.string s,.slice A li ci,.slice K lk ck] 53 (0,0))):=(Below.refl _ _).alloc (Nat.le_refl _) _;have B1:=Lh b1;have HTW:Hid (Calls Tryz.prog 226 #[.slice K lk ck] (w.alloc (.cells #[.int .i64 0,.int .i64 n,.string s,.slice A li ci,.slice K lk ck] 53 (0,0))) fun e w'=>e=.returned (.bool (!decide keys.Nodup))/\Below _ _ w'):=Lh (zf4 K lk ck keys _ B hlk hbk.1 (hK.kept (b1.mono hB)) (by simp; omega));have HNAME:Hid (Calls Tryz.prog 42 #[.string s] (w.alloc (.cells #[.int .i64 0,.int .i64 n,.string s,.slice A li ci,.slice K lk ck] 53 (0,0))) fun e w'=>e=.returned (.bool (nmA s))/\_=w'):=Lh (zd8 s _ (by unfold maxLen; omega));have hlm:(li:Int)<=140737488351232:=by omega
 have hlm':(lk:Int)<=140737488351232:=by omega
 have HL:=Lh hli;have HLK:=Lh hlk;clear hA hr hK hks hn hs hk hli hlk b1 hbi hbk;by_cases n0:n=0
 ·subst n0
  by_cases s0:s.size=0
  ·obtain ⟨s1,s2,s3⟩:=zw3 s0
   by_cases i0:li=0
   ·have i1:items.length=0:=by have:=HL.out; omega
    subst i0;by_cases q0:lk=0
    ·have q1:keys.length=0:=by have:=HLK.out; omega
     subst q0;have HV:Hid (za4 lit (.mk 0 0 s items keys)=true):=Lh (by simp [za4,leafB,s0,i1,q1]);clear HRD HL HLK
     go_enter Tryz.func189, Tryz.ntmps189
     go_wp2_with fail
     go_ret
     exact ⟨by rw [HV.out]; rfl,B1.out⟩
    ·have q1:¬ keys.length=0:=by have:=HLK.out; omega
     have q2:((lk:Int)==0)=false:=beq_eq_false_iff_ne.2 (by omega);clear q0;have HV:Hid (za4 lit (.mk 0 0 s items keys)=false):=Lh (by simp [za4,leafB,s0,i1,q1]);clear HRD HL HLK
     go_enter Tryz.func189, Tryz.ntmps189
     go_wp2_with fail
     go_ret
     exact ⟨by rw [HV.out]; rfl,B1.out⟩
   ·have i1:¬ items.length=0:=by have:=HL.out; omega
    have i2:((li:Int)==0)=false:=beq_eq_false_iff_ne.2 (by omega);clear i0;have HV:Hid (za4 lit (.mk 0 0 s items keys)=false):=Lh (by simp [za4,leafB,s0,i1]);clear HRD HL HLK
    go_enter Tryz.func189, Tryz.ntmps189
    go_wp2_with fail
    go_ret
    exact ⟨by rw [HV.out]; rfl,B1.out⟩
  ·obtain ⟨s1,s2,s3⟩:=zD9 s0
   have HV:Hid (za4 lit (.mk 0 0 s items keys)=false):=Lh (by simp [za4,leafB,s0]);clear HRD HL HLK
   go_enter Tryz.func189, Tryz.ntmps189
   go_wp2_with fail
   go_ret
   exact ⟨by rw [HV.out]; rfl,B1.out⟩
 ·have n0':(n==0)=false:=beq_eq_false_iff_ne.2 n0
  have HV:Hid (za4 lit (.mk 0 n s items keys)=false):=Lh (by simp [za4,leafB,n0]);clear HRD HL HLK
  go_enter Tryz.func189, Tryz.ntmps189
  go_wp2_with fail
  go_ret
  exact ⟨by rw [HV.out]; rfl,B1.out⟩
theorem rnode_1 (lit:Bool) (n:Int) (s:ByteArray) (items:List VT) (keys:List ByteArray) (w:World) (B:Nat) (v:Value) (h:Rd w B v (.mk 1 n s items keys)) (hB:B<=w.heap.size) :
  Calls Tryz.prog 189 #[v,.bool lit] w fun e w'=>e=.returned (.bool (za4 lit (.mk 1 n s items keys)))/\Below w.heap.size w w':=by
 have HRD:=Lh h
 cases h with
 | @mk _ _ _ A li ci K lk ck _ _ V hk hn hs hks hli hlk hbi hbk hA hr hK =>
 have b1:Below w.heap.size w (w.alloc (.cells #[.int .i64 1,.int .i64 n,.string s,.slice A li ci,.slice K lk ck] 53 (0,0))):=(Below.refl _ _).alloc (Nat.le_refl _) _;have B1:=Lh b1;have HTW:Hid (Calls Tryz.prog 226 #[.slice K lk ck] (w.alloc (.cells #[.int .i64 1,.int .i64 n,.string s,.slice A li ci,.slice K lk ck] 53 (0,0))) fun e w'=>e=.returned (.bool (!decide keys.Nodup))/\Below _ _ w'):=Lh (zf4 K lk ck keys _ B hlk hbk.1 (hK.kept (b1.mono hB)) (by simp; omega));have HNAME:Hid (Calls Tryz.prog 42 #[.string s] (w.alloc (.cells #[.int .i64 1,.int .i64 n,.string s,.slice A li ci,.slice K lk ck] 53 (0,0))) fun e w'=>e=.returned (.bool (nmA s))/\_=w'):=Lh (zd8 s _ (by unfold maxLen; omega));have hlm:(li:Int)<=140737488351232:=by omega
 have hlm':(lk:Int)<=140737488351232:=by omega
 have HL:=Lh hli;have HLK:=Lh hlk;clear hA hr hK hks hn hs hk hli hlk b1 hbi hbk;by_cases n0:n=0
 ·subst n0
  by_cases s0:s.size=0
  ·obtain ⟨s1,s2,s3⟩:=zw3 s0
   by_cases i0:li=0
   ·have i1:items.length=0:=by have:=HL.out; omega
    subst i0;by_cases q0:lk=0
    ·have q1:keys.length=0:=by have:=HLK.out; omega
     subst q0;have HV:Hid (za4 lit (.mk 1 0 s items keys)=true):=Lh (by simp [za4,leafB,s0,i1,q1]);clear HRD HL HLK
     go_enter Tryz.func189, Tryz.ntmps189
     go_wp2_with fail
     go_ret
     exact ⟨by rw [HV.out]; rfl,B1.out⟩
    ·have q1:¬ keys.length=0:=by have:=HLK.out; omega
     have q2:((lk:Int)==0)=false:=beq_eq_false_iff_ne.2 (by omega);clear q0;have HV:Hid (za4 lit (.mk 1 0 s items keys)=false):=Lh (by simp [za4,leafB,s0,i1,q1]);clear HRD HL HLK
     go_enter Tryz.func189, Tryz.ntmps189
     go_wp2_with fail
     go_ret
     exact ⟨by rw [HV.out]; rfl,B1.out⟩
   ·have i1:¬ items.length=0:=by have:=HL.out; omega
    have i2:((li:Int)==0)=false:=beq_eq_false_iff_ne.2 (by omega);clear i0;have HV:Hid (za4 lit (.mk 1 0 s items keys)=false):=Lh (by simp [za4,leafB,s0,i1]);clear HRD HL HLK
    go_enter Tryz.func189, Tryz.ntmps189
    go_wp2_with fail
    go_ret
    exact ⟨by rw [HV.out]; rfl,B1.out⟩
  ·obtain ⟨s1,s2,s3⟩:=zD9 s0
   have HV:Hid (za4 lit (.mk 1 0 s items keys)=false):=Lh (by simp [za4,leafB,s0]);clear HRD HL HLK
   go_enter Tryz.func189, Tryz.ntmps189
   go_wp2_with fail
   go_ret
   exact ⟨by rw [HV.out]; rfl,B1.out⟩
 ·have n0':(n==0)=false:=beq_eq_false_iff_ne.2 n0
  by_cases n1:n=1
  ·subst n1
   by_cases s0:s.size=0
   ·obtain ⟨s1,s2,s3⟩:=zw3 s0
    by_cases i0:li=0
    ·have i1:items.length=0:=by have:=HL.out; omega
     subst i0;by_cases q0:lk=0
     ·have q1:keys.length=0:=by have:=HLK.out; omega
      subst q0;have HV:Hid (za4 lit (.mk 1 1 s items keys)=true):=Lh (by simp [za4,leafB,s0,i1,q1]);clear HRD HL HLK
      go_enter Tryz.func189, Tryz.ntmps189
      go_wp2_with fail
      go_ret
      exact ⟨by rw [HV.out]; rfl,B1.out⟩
     ·have q1:¬ keys.length=0:=by have:=HLK.out; omega
      have q2:((lk:Int)==0)=false:=beq_eq_false_iff_ne.2 (by omega);clear q0;have HV:Hid (za4 lit (.mk 1 1 s items keys)=false):=Lh (by simp [za4,leafB,s0,i1,q1]);clear HRD HL HLK
      go_enter Tryz.func189, Tryz.ntmps189
      go_wp2_with fail
      go_ret
      exact ⟨by rw [HV.out]; rfl,B1.out⟩
    ·have i1:¬ items.length=0:=by have:=HL.out; omega
     have i2:((li:Int)==0)=false:=beq_eq_false_iff_ne.2 (by omega);clear i0;have HV:Hid (za4 lit (.mk 1 1 s items keys)=false):=Lh (by simp [za4,leafB,s0,i1]);clear HRD HL HLK
     go_enter Tryz.func189, Tryz.ntmps189
     go_wp2_with fail
     go_ret
     exact ⟨by rw [HV.out]; rfl,B1.out⟩
   ·obtain ⟨s1,s2,s3⟩:=zD9 s0
    have HV:Hid (za4 lit (.mk 1 1 s items keys)=false):=Lh (by simp [za4,leafB,s0]);clear HRD HL HLK
    go_enter Tryz.func189, Tryz.ntmps189
    go_wp2_with fail
    go_ret
    exact ⟨by rw [HV.out]; rfl,B1.out⟩
  ·have n1':(n==1)=false:=beq_eq_false_iff_ne.2 n1
   have HV:Hid (za4 lit (.mk 1 n s items keys)=false):=Lh (by simp [za4,leafB,n0,n1]);clear HRD HL HLK
   go_enter Tryz.func189, Tryz.ntmps189
   go_wp2_with fail
   go_ret
   exact ⟨by rw [HV.out]; rfl,B1.out⟩
theorem rnode_2 (lit:Bool) (n:Int) (s:ByteArray) (items:List VT) (keys:List ByteArray) (w:World) (B:Nat) (v:Value) (h:Rd w B v (.mk 2 n s items keys)) (hB:B<=w.heap.size) :
  Calls Tryz.prog 189 #[v,.bool lit] w fun e w'=>e=.returned (.bool (za4 lit (.mk 2 n s items keys)))/\Below w.heap.size w w':=by
 have HRD:=Lh h
 cases h with
 | @mk _ _ _ A li ci K lk ck _ _ V hk hn hs hks hli hlk hbi hbk hA hr hK =>
 have b1:Below w.heap.size w (w.alloc (.cells #[.int .i64 2,.int .i64 n,.string s,.slice A li ci,.slice K lk ck] 53 (0,0))):=(Below.refl _ _).alloc (Nat.le_refl _) _;have B1:=Lh b1;have HTW:Hid (Calls Tryz.prog 226 #[.slice K lk ck] (w.alloc (.cells #[.int .i64 2,.int .i64 n,.string s,.slice A li ci,.slice K lk ck] 53 (0,0))) fun e w'=>e=.returned (.bool (!decide keys.Nodup))/\Below _ _ w'):=Lh (zf4 K lk ck keys _ B hlk hbk.1 (hK.kept (b1.mono hB)) (by simp; omega));have HNAME:Hid (Calls Tryz.prog 42 #[.string s] (w.alloc (.cells #[.int .i64 2,.int .i64 n,.string s,.slice A li ci,.slice K lk ck] 53 (0,0))) fun e w'=>e=.returned (.bool (nmA s))/\_=w'):=Lh (zd8 s _ (by unfold maxLen; omega));have hlm:(li:Int)<=140737488351232:=by omega
 have hlm':(lk:Int)<=140737488351232:=by omega
 have HL:=Lh hli;have HLK:=Lh hlk;clear hA hr hK hks hn hs hk hli hlk b1 hbi hbk;by_cases s0:s.size=0
 ·obtain ⟨s1,s2,s3⟩:=zw3 s0
  by_cases i0:li=0
  ·have i1:items.length=0:=by have:=HL.out; omega
   subst i0;by_cases q0:lk=0
   ·have q1:keys.length=0:=by have:=HLK.out; omega
    subst q0;have HV:Hid (za4 lit (.mk 2 n s items keys)=true):=Lh (by simp [za4,leafB,s0,i1,q1]);clear HRD HL HLK
    go_enter Tryz.func189, Tryz.ntmps189
    go_wp2_with fail
    go_ret
    exact ⟨by rw [HV.out]; rfl,B1.out⟩
   ·have q1:¬ keys.length=0:=by have:=HLK.out; omega
    have q2:((lk:Int)==0)=false:=beq_eq_false_iff_ne.2 (by omega);clear q0;have HV:Hid (za4 lit (.mk 2 n s items keys)=false):=Lh (by simp [za4,leafB,s0,i1,q1]);clear HRD HL HLK
    go_enter Tryz.func189, Tryz.ntmps189
    go_wp2_with fail
    go_ret
    exact ⟨by rw [HV.out]; rfl,B1.out⟩
  ·have i1:¬ items.length=0:=by have:=HL.out; omega
   have i2:((li:Int)==0)=false:=beq_eq_false_iff_ne.2 (by omega);clear i0;have HV:Hid (za4 lit (.mk 2 n s items keys)=false):=Lh (by simp [za4,leafB,s0,i1]);clear HRD HL HLK
   go_enter Tryz.func189, Tryz.ntmps189
   go_wp2_with fail
   go_ret
   exact ⟨by rw [HV.out]; rfl,B1.out⟩
 ·obtain ⟨s1,s2,s3⟩:=zD9 s0
  have HV:Hid (za4 lit (.mk 2 n s items keys)=false):=Lh (by simp [za4,leafB,s0]);clear HRD HL HLK
  go_enter Tryz.func189, Tryz.ntmps189
  go_wp2_with fail
  go_ret
  exact ⟨by rw [HV.out]; rfl,B1.out⟩
theorem rnode_3 (lit:Bool) (n:Int) (s:ByteArray) (items:List VT) (keys:List ByteArray) (w:World) (B:Nat) (v:Value) (h:Rd w B v (.mk 3 n s items keys)) (hB:B<=w.heap.size) :
  Calls Tryz.prog 189 #[v,.bool lit] w fun e w'=>e=.returned (.bool (za4 lit (.mk 3 n s items keys)))/\Below w.heap.size w w':=by
 have HRD:=Lh h
 cases h with
 | @mk _ _ _ A li ci K lk ck _ _ V hk hn hs hks hli hlk hbi hbk hA hr hK =>
 have b1:Below w.heap.size w (w.alloc (.cells #[.int .i64 3,.int .i64 n,.string s,.slice A li ci,.slice K lk ck] 53 (0,0))):=(Below.refl _ _).alloc (Nat.le_refl _) _;have B1:=Lh b1;have HTW:Hid (Calls Tryz.prog 226 #[.slice K lk ck] (w.alloc (.cells #[.int .i64 3,.int .i64 n,.string s,.slice A li ci,.slice K lk ck] 53 (0,0))) fun e w'=>e=.returned (.bool (!decide keys.Nodup))/\Below _ _ w'):=Lh (zf4 K lk ck keys _ B hlk hbk.1 (hK.kept (b1.mono hB)) (by simp; omega));have HNAME:Hid (Calls Tryz.prog 42 #[.string s] (w.alloc (.cells #[.int .i64 3,.int .i64 n,.string s,.slice A li ci,.slice K lk ck] 53 (0,0))) fun e w'=>e=.returned (.bool (nmA s))/\_=w'):=Lh (zd8 s _ (by unfold maxLen; omega));have hlm:(li:Int)<=140737488351232:=by omega
 have hlm':(lk:Int)<=140737488351232:=by omega
 have HL:=Lh hli;have HLK:=Lh hlk;clear hA hr hK hks hn hs hk hli hlk b1 hbi hbk;by_cases n0:n=0
 ·subst n0
  by_cases i0:li=0
  ·have i1:items.length=0:=by have:=HL.out; omega
   subst i0;by_cases q0:lk=0
   ·have q1:keys.length=0:=by have:=HLK.out; omega
    subst q0;have HV:Hid (za4 lit (.mk 3 0 s items keys)=true):=Lh (by simp [za4,leafB,i1,q1]);clear HRD HL HLK
    go_enter Tryz.func189, Tryz.ntmps189
    go_wp2_with fail
    go_ret
    exact ⟨by rw [HV.out]; rfl,B1.out⟩
   ·have q1:¬ keys.length=0:=by have:=HLK.out; omega
    have q2:((lk:Int)==0)=false:=beq_eq_false_iff_ne.2 (by omega);clear q0;have HV:Hid (za4 lit (.mk 3 0 s items keys)=false):=Lh (by simp [za4,leafB,i1,q1]);clear HRD HL HLK
    go_enter Tryz.func189, Tryz.ntmps189
    go_wp2_with fail
    go_ret
    exact ⟨by rw [HV.out]; rfl,B1.out⟩
  ·have i1:¬ items.length=0:=by have:=HL.out; omega
   have i2:((li:Int)==0)=false:=beq_eq_false_iff_ne.2 (by omega);clear i0;have HV:Hid (za4 lit (.mk 3 0 s items keys)=false):=Lh (by simp [za4,leafB,i1]);clear HRD HL HLK
   go_enter Tryz.func189, Tryz.ntmps189
   go_wp2_with fail
   go_ret
   exact ⟨by rw [HV.out]; rfl,B1.out⟩
 ·have n0':(n==0)=false:=beq_eq_false_iff_ne.2 n0
  have HV:Hid (za4 lit (.mk 3 n s items keys)=false):=Lh (by simp [za4,leafB,n0]);clear HRD HL HLK
  go_enter Tryz.func189, Tryz.ntmps189
  go_wp2_with fail
  go_ret
  exact ⟨by rw [HV.out]; rfl,B1.out⟩
theorem rnode_5 (lit:Bool) (n:Int) (s:ByteArray) (items:List VT) (keys:List ByteArray) (w:World) (B:Nat) (v:Value) (h:Rd w B v (.mk 5 n s items keys)) (hB:B<=w.heap.size) :
  Calls Tryz.prog 189 #[v,.bool lit] w fun e w'=>e=.returned (.bool (za4 lit (.mk 5 n s items keys)))/\Below w.heap.size w w':=by
 have HRD:=Lh h
 cases h with
 | @mk _ _ _ A li ci K lk ck _ _ V hk hn hs hks hli hlk hbi hbk hA hr hK =>
 have b1:Below w.heap.size w (w.alloc (.cells #[.int .i64 5,.int .i64 n,.string s,.slice A li ci,.slice K lk ck] 53 (0,0))):=(Below.refl _ _).alloc (Nat.le_refl _) _;have B1:=Lh b1;have HTW:Hid (Calls Tryz.prog 226 #[.slice K lk ck] (w.alloc (.cells #[.int .i64 5,.int .i64 n,.string s,.slice A li ci,.slice K lk ck] 53 (0,0))) fun e w'=>e=.returned (.bool (!decide keys.Nodup))/\Below _ _ w'):=Lh (zf4 K lk ck keys _ B hlk hbk.1 (hK.kept (b1.mono hB)) (by simp; omega));have HNAME:Hid (Calls Tryz.prog 42 #[.string s] (w.alloc (.cells #[.int .i64 5,.int .i64 n,.string s,.slice A li ci,.slice K lk ck] 53 (0,0))) fun e w'=>e=.returned (.bool (nmA s))/\_=w'):=Lh (zd8 s _ (by unfold maxLen; omega));have hlm:(li:Int)<=140737488351232:=by omega
 have hlm':(lk:Int)<=140737488351232:=by omega
 have HL:=Lh hli;have HLK:=Lh hlk;clear hA hr hK hks hn hs hk hli hlk b1 hbi hbk;by_cases n0:n=0
 ·subst n0
  by_cases s0:s.size=0
  ·obtain ⟨s1,s2,s3⟩:=zw3 s0
   by_cases q0:lk=0
   ·have q1:keys.length=0:=by have:=HLK.out; omega
    subst q0;have HV:Hid (za4 lit (.mk 5 0 s items keys)=true):=Lh (by simp [za4,s0,q1]);clear HRD HL HLK
    go_enter Tryz.func189, Tryz.ntmps189
    go_wp2_with fail
    go_ret
    exact ⟨by rw [HV.out]; rfl,B1.out⟩
   ·have q1:¬ keys.length=0:=by have:=HLK.out; omega
    have q2:((lk:Int)==0)=false:=beq_eq_false_iff_ne.2 (by omega);clear q0;have HV:Hid (za4 lit (.mk 5 0 s items keys)=false):=Lh (by simp [za4,s0,q1]);clear HRD HL HLK
    go_enter Tryz.func189, Tryz.ntmps189
    go_wp2_with fail
    go_ret
    exact ⟨by rw [HV.out]; rfl,B1.out⟩
  ·obtain ⟨s1,s2,s3⟩:=zD9 s0
   have HV:Hid (za4 lit (.mk 5 0 s items keys)=false):=Lh (by simp [za4,s0]);clear HRD HL HLK
   go_enter Tryz.func189, Tryz.ntmps189
   go_wp2_with fail
   go_ret
   exact ⟨by rw [HV.out]; rfl,B1.out⟩
 ·have n0':(n==0)=false:=beq_eq_false_iff_ne.2 n0
  have HV:Hid (za4 lit (.mk 5 n s items keys)=false):=Lh (by simp [za4,n0]);clear HRD HL HLK
  go_enter Tryz.func189, Tryz.ntmps189
  go_wp2_with fail
  go_ret
  exact ⟨by rw [HV.out]; rfl,B1.out⟩
theorem zZ3 (lit:Bool) (k:Int) (n:Int) (s:ByteArray) (items:List VT) (keys:List ByteArray) (w:World) (B:Nat) (v:Value) (h:Rd w B v (.mk k n s items keys)) (hB:B<=w.heap.size) (k0:¬ k=0) (k1:¬ k=1) (k2:¬ k=2) (k3:¬ k=3) (k4:¬ k=4) (k5:¬ k=5) (k6:¬ k=6) (k7:¬ k=7) :
  Calls Tryz.prog 189 #[v,.bool lit] w fun e w'=>e=.returned (.bool (za4 lit (.mk k n s items keys)))/\Below w.heap.size w w':=by
 have HRD:=Lh h
 cases h with
 | @mk _ _ _ A li ci K lk ck _ _ V hk hn hs hks hli hlk hbi hbk hA hr hK =>
 have b1:Below w.heap.size w (w.alloc (.cells #[.int .i64 k,.int .i64 n,.string s,.slice A li ci,.slice K lk ck] 53 (0,0))):=(Below.refl _ _).alloc (Nat.le_refl _) _;have B1:=Lh b1;have HTW:Hid (Calls Tryz.prog 226 #[.slice K lk ck] (w.alloc (.cells #[.int .i64 k,.int .i64 n,.string s,.slice A li ci,.slice K lk ck] 53 (0,0))) fun e w'=>e=.returned (.bool (!decide keys.Nodup))/\Below _ _ w'):=Lh (zf4 K lk ck keys _ B hlk hbk.1 (hK.kept (b1.mono hB)) (by simp; omega));have HNAME:Hid (Calls Tryz.prog 42 #[.string s] (w.alloc (.cells #[.int .i64 k,.int .i64 n,.string s,.slice A li ci,.slice K lk ck] 53 (0,0))) fun e w'=>e=.returned (.bool (nmA s))/\_=w'):=Lh (zd8 s _ (by unfold maxLen; omega));have hlm:(li:Int)<=140737488351232:=by omega
 have hlm':(lk:Int)<=140737488351232:=by omega
 have HL:=Lh hli;have HLK:=Lh hlk;clear hA hr hK hks hn hs hk hli hlk b1 hbi hbk;have k0':(k==0)=false:=beq_eq_false_iff_ne.2 k0;have k1':(k==1)=false:=beq_eq_false_iff_ne.2 k1;have k2':(k==2)=false:=beq_eq_false_iff_ne.2 k2;have k3':(k==3)=false:=beq_eq_false_iff_ne.2 k3;have k4':(k==4)=false:=beq_eq_false_iff_ne.2 k4;have k5':(k==5)=false:=beq_eq_false_iff_ne.2 k5;have k6':(k==6)=false:=beq_eq_false_iff_ne.2 k6;have k7':(k==7)=false:=beq_eq_false_iff_ne.2 k7;have HV:Hid (za4 lit (.mk k n s items keys)=false):=Lh (by simp [za4,k0,k1,k2,k3,k4,k5,k6,k7]);clear HRD HL HLK
 go_enter Tryz.func189, Tryz.ntmps189
 go_wp2_with fail
 go_ret
 exact ⟨by rw [HV.out]; rfl,B1.out⟩
end Go.Proofs.YtfgelheiknmjgaaGreatDoor

