
/-
 Texts joined: Tj Ti R1 R2 W3 EQ1 JEqual EQ2.
-/
import Derived.Test.YtfgelheiknmjgaaGreatDoorZr25
import Derived.Test.YtfgelheiknmjgaaGreatDoorZr32
import Derived.Test.YtfgelheiknmjgaaGreatDoorZr22
import Derived.Test.YtfgelheiknmjgaaGreatDoorZr7
import Derived.Test.YtfgelheiknmjgaaGreatDoorZr5
import Derived.BigQuiet
set_option maxRecDepth 1000000
set_option maxHeartbeats 8000000
namespace Go.Proofs.YtfgelheiknmjgaaGreatDoor
open Go.RowKit
theorem wk_ex:∀ (l:List ByteArray) (n:Nat),wk n l<=2000->n+ksum l<=wk n l
 | [],n,_=>by rw [wk]; simp [ksum]
 | k::r,n,h=>by
   rw [wk] at h ⊢;have h3:ksum (k::r)=1+k.size+ksum r:=by simp [ksum]
   split at h
   ·next hc=>rw [if_pos hc]; have:=wk_ex r _ h; omega
   ·omega
theorem bw_wv (t:VT):t.wv<=2000->t.bw<=t.wv:=by
 induction t using VT.ind with
 | h k n s items keys ih =>
   rw [wv_eq,bw_eq];have hs:∀ (l:List VT) (m:Nat),(∀ (i:Nat) (t:VT),l[i]?=some t->t.wv<=2000->t.bw<=t.wv)->VT.wvs m l<=2000->m+VT.bws l<=VT.wvs m l:=by
    intro l
    induction l with
    | nil=>intro m _ _; rw [VT.wvs]; simp [VT.bws]
    | cons t r ihr =>
      intro m hm hle;rw [zv4] at hle ⊢;by_cases hc:m<=2000
      ·rw [if_pos hc] at hle ⊢
       have h2:=ihr (m+t.wv) (fun i t h=>hm (i+1) t h) hle;have h1:=hm 0 t rfl (by omega)
       simp only [VT.bws]; omega
      ·rw [if_neg hc] at hle; omega
   intro hle;have h2:=hs items (wk (1+s.size) keys) ih hle;have h3:=wk_ex keys (1+s.size) (by omega)
   omega
theorem qL_le (s:ByteArray):(qL s).length<=6*s.size+2:=by
 have h:=T1.zS7 s.data.toList;rw [T1.size_eq] at h;unfold qL T1.zg5;simp only [List.length_append,List.length_cons,List.length_nil,List.length_flatMap] at h ⊢
 omega
theorem sum_at:∀ (l:List VT),(∀ t∈l,t.lit.length+2<=30*t.bw)->(((VT.lits l).map fun x=>32::x).flatten).length<=30*VT.bws l
 | [],_=>by simp [VT.lits,VT.bws]
 | t::r,h=>by
   have h1:=h t List.mem_cons_self;have h2:=sum_at r (fun x hx=>h x (List.mem_cons_of_mem _ hx));simp only [VT.lits,VT.bws,List.map_cons,List.flatten_cons,List.length_append,List.length_cons]
   omega
theorem zZ8:∀ (ks:List ByteArray) (l:List VT),(∀ t∈l,t.lit.length+2<=30*t.bw)->((List.zipWith (fun (a:ByteArray) (b:List UInt8)=>(32::(bL a++[32,58]))++(32::b)) ks (VT.lits l)).flatten).length<=30*(ksum ks+VT.bws l)
 | [],l,_=>by simp
 | a::r,[],_=>by simp [VT.lits]
 | a::r,t::q,h=>by
   have h1:=h t List.mem_cons_self;have h2:=zZ8 r q (fun x hx=>h x (List.mem_cons_of_mem _ hx));have h3:ksum (a::r)=1+a.size+ksum r:=by simp [ksum]
   simp only [VT.lits,VT.bws,List.zipWith_cons_cons,List.flatten_cons,List.length_append,List.length_cons,List.length_nil,za2,h3]
   omega
theorem yf8 (t:VT):t.num->t.lit.length+2<=30*t.bw:=by
 induction t using VT.ind with
 | h k n s items keys ih =>
 intro hn;rw [VT.num] at hn;have hi:∀ t∈items,t.lit.length+2<=30*t.bw:=fun t ht=>by
  obtain ⟨i,hi⟩:=List.mem_iff_getElem?.1 ht;exact ih i t hi (zN7 hn.2 hi)
 have h1:=sum_at items hi;have h2:=zZ8 keys items hi;have h3:=Lib.itoa_length_le n hn.1.1 hn.1.2;have h4:=qL_le s;have e1:nullB.length=4:=rfl;have e2:trueB.length=4:=rfl;have e3:falseB.length=5:=rfl;rw [yf7,bw_eq]
 split
 ·omega
 split
 ·split <;> omega
 split
 ·omega
 split
 ·omega
 split
 ·rw [za2]; omega
 split
 ·simp only [List.length_cons,za2]; omega
 split
 ·simp only [List.length_cons,List.length_append,List.length_nil] at h2 ⊢; omega
 ·simp only [List.length_cons,List.length_append,List.length_nil] at h1 ⊢; omega
theorem zu2 {s:ByteArray} (h:nmA s=true):s.size<=64:=by
 unfold nmA nameL at h;simp only [Bool.and_eq_true,decide_eq_true_eq] at h
 have:=h.1.1.2
 rwa [size_eq] at this
theorem zY6:∀ (l:List (ByteArray × VT)) (n:Nat),(∀ a∈l,argOk a=true)->(∀ a∈l,a.2.num)->wda n l<=2000->(l.map wArg).flatten.length+300*n<=300*wda n l
 | [],n,_,_,_=>by rw [wda]; simp
 | a::r,n,ho,hu,h=>by
   rw [wda] at h ⊢
   split at h
   ·next hc =>
    rw [if_pos hc];have h1:=zY6 r _ (fun b hb=>ho b (List.mem_cons_of_mem _ hb)) (fun b hb=>hu b (List.mem_cons_of_mem _ hb)) h;have h2:=(wda_z r _ h).1;have h3:=bw_wv a.2 (by omega)
    have h4:=yf8 a.2 (hu a List.mem_cons_self);have h5:=ho a List.mem_cons_self;unfold argOk at h5;rw [Bool.and_eq_true] at h5;have h6:=zu2 h5.1;simp only [List.map_cons,List.flatten_cons,List.length_append]
    have h7:(wArg a).length=1+(a.1.size+(3+a.2.lit.length)):=by unfold wArg; simp only [List.length_cons,List.length_append,za2,List.length_nil]; omega
    omega
   ·omega
theorem zw5:∀ (l:List DirT) (n:Nat),(∀ d∈l,dirOk d=true)->dirsN l->wds n l<=2000->(wDirs l).length+300*n<=300*wds n l
 | [],n,_,_,_=>by rw [wds]; simp [wDirs]
 | d::r,n,ho,hu,h=>by
   rw [wds] at h ⊢
   split at h
   ·next hc =>
    rw [if_pos hc];have h1:=zw5 r _ (fun b hb=>ho b (List.mem_cons_of_mem _ hb)) (fun b hb=>hu b (List.mem_cons_of_mem _ hb)) h;have h2:=(wds_z r _ h).1;have h5:=ho d List.mem_cons_self;unfold dirOk at h5;rw [Bool.and_eq_true] at h5;have h6:=zu2 h5.1;have h3:=zY6 d.args (n+1) (zb6 h5.2).2.2 (hu d List.mem_cons_self) h2;have e:wDirs (d::r)=wDir d++wDirs r:=by simp [wDirs]
    have h7:(wDir d).length<=3+(d.name.size+(4+(d.args.map wArg).flatten.length)):=by
     unfold wDir;simp only [List.length_cons,List.length_append,za2,List.length_nil]
     split <;> simp only [List.length_cons,List.length_append,List.length_nil] <;> omega
    rw [e,List.length_append];omega
   ·omega
theorem yc0 {n:ByteArray} {ws:List Int} (h:K.okB n ws=true):(zc2 n ws).length<=64+2*ws.length:=by
 unfold K.okB at h;simp only [Bool.and_eq_true] at h
 have hn:=h.1.1;unfold T1.nameL at hn;simp only [Bool.and_eq_true,decide_eq_true_eq] at hn
 have h1:=hn.1.1.2;have h2:(K.strL ws).length<=ws.length:=List.length_filter_le _ _;unfold zc2 K.prL;simp only [List.length_append,List.length_replicate,List.length_map,List.length_reverse]
 omega
theorem zM1:∀ (l:List InpT) (n:Nat),(∀ x∈l,inpOk x=true)->(∀ x∈l,inpN x)->wis n l<=2000->(wInps l).length+300*n<=300*wis n l
 | [],n,_,_,_=>by rw [wis]; simp [wInps]
 | x::r,n,ho,hu,h=>by
   rw [wis] at h ⊢
   split at h
   ·next hc =>
    rw [if_pos hc];have h1:=zM1 r _ (fun b hb=>ho b (List.mem_cons_of_mem _ hb)) (fun b hb=>hu b (List.mem_cons_of_mem _ hb)) h;have h2:=(wis_z r _ h).1;have h5:=ho x List.mem_cons_self;unfold inpOk at h5;simp only [Bool.and_eq_true] at h5
    have h6:=zu2 h5.1;have hu1:=hu x List.mem_cons_self;have h3:=zw5 x.dirs 0 (zb6 h5.2.2.2).2.2 hu1.2 (by omega)
    have h4:=yc0 h5.2.1;have h8:=bw_wv x.dflt (by omega)
    have h9:=yf8 x.dflt hu1.1;have e:wInps (x::r)=wInp x++wInps r:=by simp [wInps]
    have h7:(wInp x).length<=1+(x.name.size+(3+((zc2 x.tn x.tw).length+((3+x.dflt.lit.length)+(wDirs x.dirs).length)))):=by
     unfold wInp;simp only [List.length_cons,List.length_append,za2,List.length_nil]
     split <;> simp only [List.length_cons,List.length_append,List.length_nil] <;> omega
    rw [e,List.length_append];omega
   ·omega
theorem zY3:∀ (l:List FldT) (n:Nat),(∀ x∈l,fldOk x=true)->(∀ x∈l,fldN x)->wfs n l<=2000->(l.map wFld).flatten.length+300*n<=300*wfs n l
 | [],n,_,_,_=>by rw [wfs]; simp
 | x::r,n,ho,hu,h=>by
   rw [wfs] at h ⊢
   split at h
   ·next hc =>
    rw [if_pos hc];have h1:=zY3 r _ (fun b hb=>ho b (List.mem_cons_of_mem _ hb)) (fun b hb=>hu b (List.mem_cons_of_mem _ hb)) h;have h2:=(wfs_z r _ h).1;have h5:=ho x List.mem_cons_self;unfold fldOk at h5;simp only [Bool.and_eq_true] at h5
    have h6:=zu2 h5.1;have hu1:=hu x List.mem_cons_self;have h3:=zw5 x.dirs 0 (zb6 h5.2.2.2).2.2 hu1.2 (by omega)
    have h8:=zM1 x.args 0 (zb6 h5.2.1).2.2 hu1.1 (by omega)
    have h4:=yc0 h5.2.2.1;have h7:(wFld x).length<=1+(x.name.size+((4+(wInps x.args).length)+(3+((zc2 x.tn x.tw).length+(wDirs x.dirs).length)))):=by
     unfold wFld;simp only [List.length_cons,List.length_append,za2,List.length_nil]
     split <;> simp only [List.length_cons,List.length_append,List.length_nil] <;> omega
    simp only [List.map_cons,List.flatten_cons,List.length_append]
    omega
   ·omega
theorem zY0:∀ (l:List MemT) (n:Nat),(∀ x∈l,ze7 x=true)->(∀ x∈l,dirsN x.dirs)->wms n l<=2000->(l.map wMem).flatten.length+300*n<=300*wms n l/\(zd1 [32,61,32] [32,124,32] (l.map MemT.name)).length+300*n<=300*wms n l
 | [],n,_,_,_=>by rw [wms]; simp [zd1]
 | x::r,n,ho,hu,h=>by
   rw [wms] at h ⊢
   split at h
   ·next hc =>
    rw [if_pos hc];obtain ⟨h1,h1'⟩:=zY0 r _ (fun b hb=>ho b (List.mem_cons_of_mem _ hb)) (fun b hb=>hu b (List.mem_cons_of_mem _ hb)) h;have h2:=(wms_z r _ h).1;have h5:=ho x List.mem_cons_self;unfold ze7 at h5;simp only [Bool.and_eq_true] at h5
    have h6:=zu2 h5.1;have h3:=zw5 x.dirs 0 (zb6 h5.2).2.2 (hu x List.mem_cons_self) (by omega)
    have h7:(wMem x).length=1+(x.name.size+(wDirs x.dirs).length):=by
     unfold wMem;simp only [List.length_cons,List.length_append,za2]; omega
    have h8:(zd1 [32,61,32] [32,124,32] ((x::r).map MemT.name)).length<=3+(x.name.size+((zd1 [32,61,32] [32,124,32] (r.map MemT.name)).length)):=by
     cases r with
     | nil=>simp [zd1,za2]; omega
     | cons y q=>simp [zd1,za2]; omega
    refine ⟨?_,by omega⟩
    simp only [List.map_cons,List.flatten_cons,List.length_append]
    omega
   ·omega
theorem zT8 (w c:List UInt8) (hw:w.length<=12) (hc:c.length<=12):∀ l:List ByteArray,(∀ x∈l,nmA x=true)->(zd1 w c l).length<=76*l.length:=by
 intro l h;have hr:∀ r:List ByteArray,(∀ x∈r,nmA x=true)->((r.map fun y=>c++bL y).flatten).length<=76*r.length:=by
  intro r
  induction r with
  | nil=>intro _; simp
  | cons y q ih =>
    intro h;have h1:=zu2 (h y List.mem_cons_self);have h2:=ih (fun x hx=>h x (List.mem_cons_of_mem _ hx));simp only [List.map_cons,List.flatten_cons,List.length_append,List.length_cons,za2]
    omega
 cases l with
 | nil=>simp [zd1]
 | cons x r =>
   have h1:=zu2 (h x List.mem_cons_self);have h2:=hr r (fun x hx=>h x (List.mem_cons_of_mem _ hx));simp only [zd1,List.length_append,za2,List.length_cons]
   omega
theorem zJ4 {x:MemT} (h:zd6 x=true):ze7 x=true:=by
 unfold zd6 at h;unfold ze7;simp only [Bool.and_eq_true,decide_eq_true_eq] at h ⊢
 refine ⟨h.1, ?_⟩
 rw [List.length_eq_zero_iff.1 h.2]
 rfl
theorem def_all {d:DefT} (h:defOk d=true):nmA d.name=true/\(∀ x∈d.dirs,dirOk x=true)/\(∀ x∈d.impl,nmA x=true)/\(∀ x∈d.fields,fldOk x=true)/\(∀ x∈d.members,ze7 x=true)/\(∀ x∈d.inputs,inpOk x=true):=by
 unfold defOk at h;simp only [Bool.and_eq_true] at h
 refine ⟨h.1,(zb6 h.2.1).2.2, ?_⟩
 have hp:=h.2.2;unfold zb4 zh9 at hp;have key:∀ {a b c e f g k:Int} {pm:MemT->Bool},(∀ x,pm x=true->ze7 x=true)->(inB 0 a d.impl nmA&&(inB b c d.fields fldOk&&(inB e f d.members pm&&inB g k d.inputs inpOk)))=true->(∀ x∈d.impl,nmA x=true)/\(∀ x∈d.fields,fldOk x=true)/\(∀ x∈d.members,ze7 x=true)/\(∀ x∈d.inputs,inpOk x=true):=by
  intro a b c e f g k pm hpm hp;simp only [Bool.and_eq_true] at hp
  exact ⟨(zb6 hp.1).2.2,(zb6 hp.2.1).2.2,fun x hx=>hpm x ((zb6 hp.2.2.1).2.2 x hx),(zb6 hp.2.2.2).2.2⟩
 split at hp
 ·exact key (fun _ h=>by first | exact h | exact zJ4 h) hp
 split at hp
 ·exact key (fun _ h=>by first | exact h | exact zJ4 h) hp
 split at hp
 ·exact key (fun _ h=>by first | exact zJ4 h | exact h) hp
 split at hp
 ·exact key (fun _ h=>by first | exact h | exact zJ4 h) hp
 split at hp
 ·exact key (fun _ h=>by first | exact h | exact zJ4 h) hp
 ·cases hp
theorem zG9:∀ (l:List DefT) (n:Nat),(∀ x∈l,defOk x=true)->(∀ x∈l,defN x)->wdefs n l<=2000->((l.map wDef).map List.length).sum+300*n<=300*wdefs n l+79*l.length
 | [],n,_,_,_=>by rw [wdefs]; simp
 | x::r,n,ho,hu,h=>by
   rw [wdefs] at h ⊢
   split at h
   ·next hc =>
    rw [if_pos hc];have h1:=zG9 r _ (fun b hb=>ho b (List.mem_cons_of_mem _ hb)) (fun b hb=>hu b (List.mem_cons_of_mem _ hb)) h;have h2:=(zM2 r _ h).1;have h3:=(wms_z x.members _ h2).1;have h4:=(wfs_z x.fields _ h3).1;obtain ⟨a1,a2,a3,a4,a5,a6⟩:=def_all (ho x List.mem_cons_self);obtain ⟨u1,u2,u3,u4⟩:=hu x List.mem_cons_self;have b1:=zw5 x.dirs 0 a2 u1 (by omega)
    have b2:=zM1 x.inputs 0 a6 u4 (by omega)
    have b3:=zY3 x.fields _ a4 u2 h3;have b4:=zY0 x.members _ a5 u3 h2;have b5:=zT8 [32,105,109,112,108,101,109,101,110,116,115,32] [32,38,32] (by decide) (by decide) x.impl a3
    have b6:=zu2 a1;have e9:(wWord x.kind).length<=9:=by (unfold wWord; repeat' split) <;> decide
    have h7:(wDef x).length<=9+(1+(x.name.size+((zd1 [32,105,109,112,108,101,109,101,110,116,115,32] [32,38,32] x.impl).length+((wDirs x.dirs).length+(max (zd1 [32,61,32] [32,124,32] (x.members.map MemT.name)).length (4+((x.fields.map wFld).flatten.length+((x.members.map wMem).flatten.length+(wInps x.inputs).length)))))))):=by
     unfold wDef;simp only [List.length_cons,List.length_append,za2]
     split <;> (try simp only [List.length_cons,List.length_append,List.length_nil]) <;> omega
    simp only [List.map_cons,List.sum_cons,List.length_cons]
    omega
   ·omega
theorem jn_sum (s:List UInt8):∀ l:List (List UInt8),(jn s l).length<=(l.map List.length).sum+s.length*l.length:=by
 have hr:∀ r:List (List UInt8),((r.map fun x=>s++x).flatten).length=(r.map List.length).sum+s.length*r.length:=by
  intro r
  induction r with
  | nil=>simp
  | cons y q ih =>
    simp only [List.map_cons,List.flatten_cons,List.length_append,List.length_cons,List.sum_cons,ih,Nat.mul_add]
    omega
 intro l
 cases l with
 | nil=>simp [jn]
 | cons x r =>
   simp only [jn,List.length_append,hr r,List.map_cons,List.sum_cons,List.length_cons,Nat.mul_add]
   omega
theorem wdoc_len {l:List DefT} (h:docOk l=true) (hn:∀ x∈l,defN x) (hw:wdefs l.length l<=2000):(wDoc l).length<=1000000:=by
 have h0:=(zb6 h);have h1:=zG9 l l.length h0.2.2 hn hw;have h2:=jn_sum [32] (l.map wDef);have h3:((l.map wDef)).length=l.length:=List.length_map _;have h4:=h0.2.1;unfold wDoc;rw [h3] at h2;simp only [List.length_cons,List.length_nil] at h2
 omega
theorem Rd.num {w:World} {B:Nat} {v:Value} {t:VT} (h:Rd w B v t):t.num:=by
 induction h with
 | mk V hk hn hs hks hli hlk hbi hbk hA hr hK ih =>
   rw [VT.num];refine ⟨hn,ye4 fun t ht=>?_⟩
   obtain ⟨i,hi,e⟩:=List.getElem_of_mem ht;exact ih i t (by rw [List.getElem?_eq_getElem hi,e])
theorem Sl.mem {α:Type} {k bytes:Nat} {R:World->Nat->(Nat->Value)->α->Prop} {w:World} {B:Nat} {v:Value} {xs:List α} (h:Sl k bytes R w B v xs):∀ x∈xs, ∃ f,R w B f x:=fun x hx=>by
 obtain ⟨A,c,_,_,_,V,_,hr⟩:=h;obtain ⟨i,hi,e⟩:=List.getElem_of_mem hx;exact ⟨_,hr i x (by rw [List.getElem?_eq_getElem hi,e])⟩
theorem DirsR.num {w:World} {B:Nat} {v:Value} {l:List DirT} (h:DirsR w B v l):dirsN l:=fun d hd a ha=>by
 obtain ⟨f,hf⟩:=Sl.mem h d hd;obtain ⟨g,hg⟩:=Sl.mem hf.args a ha;exact hg.val.num
theorem InpR.num {w:World} {B:Nat} {f:Nat->Value} {x:InpT} (h:InpR w B f x):inpN x:=⟨h.val.num,DirsR.num h.dirs⟩
theorem DefsR.num {w:World} {B:Nat} {v:Value} {xs:List DefT} (h:DefsR w B v xs):∀ d∈xs,defN d:=fun d hd=>by
 obtain ⟨f,hf⟩:=Sl.mem h d hd;refine ⟨DirsR.num hf.dirs,fun x hx=>?_,fun x hx=>?_,fun x hx=>?_⟩
 ·obtain ⟨g,hg⟩:=Sl.mem hf.fields x hx
  exact ⟨fun i hi=>by
   obtain ⟨k,hk⟩:=Sl.mem hg.args i hi;exact hk.num,DirsR.num hg.dirs⟩
 ·obtain ⟨g,hg⟩:=Sl.mem hf.members x hx
  exact DirsR.num hg.dirs
 ·obtain ⟨g,hg⟩:=Sl.mem hf.inputs x hx
  exact hg.num
inductive Lk (tl:List Tk):List Tk->List Tk->Prop
 | stop {e:Tk} (h:e.1=5):Lk tl [e] tl
 | step {t u:Tk} {ts us:List Tk} (h5:t.1≠5) (hk:t.1=u.1) (hx:t.2.1=u.2.1) (h:Lk tl ts us):Lk tl (t::ts) (u::us)
def En (tl:List Tk):Prop:=∃ e:Tk,tl=[e]/\e.1=5
def TlOk (tl:List Tk):Prop:=En tl∨kdR (hd tl)≠0
def Rq {β:Type} (tl:List Tk) (Q : β->β->Prop) (r1 r2:Except Er β):Prop:=match r1 with
 | .ok b=>∃ b',r2=.ok b'/\Q b b'
 | .error z=>En tl->∃ z',r2=.error z'/\z'.2=z.2/\z.2≠0
variable {tl:List Tk}
variable (hT:TlOk tl)
include hT
end Go.Proofs.YtfgelheiknmjgaaGreatDoor
namespace Go.Proofs.YtfgelheiknmjgaaGreatDoor
open Go.RowKit
variable {tl:List Tk}
theorem bg_ok {c:Bool} {a m:Nat} {ts:List Tk} {u:Unit} (h:bgR c a m ts=.ok u):c=true/\a≠m:=by
 unfold bgR at h
 split at h
 ·split at h
  ·cases h
  ·next h1 h2=>exact ⟨h1,h2⟩
 ·cases h
end Go.Proofs.YtfgelheiknmjgaaGreatDoor
namespace Go.Proofs.YtfgelheiknmjgaaGreatDoor
open Go.RowKit
theorem pastc {w W:World} {B:Nat} (hW:Below B w W) (x:Past W) (hB:B<=W.heap.size) {p:Addr} (hp:p.block<B):x.w.cell? p=w.cell? p:=(x.b.cell (by omega)).trans (hW.cell hp)
theorem zm2 (l:List InpT) (v:Value) (w:World) (h:InpsR w w.heap.size v l) (hs:inpsS l):Calls Tryz.prog 20 #[v,.int .i64 2000] w (zL6 (wis 0 l) w):=by
 obtain ⟨A,c,rfl,hc,hbb,V,hA,hr⟩:=h;obtain ⟨R,hR⟩ : ∃ R,R=wis 0 l:=⟨_,rfl⟩;have HR:=Lh hR;rw [<- hR];obtain ⟨ll,hll⟩ : ∃ ll,ll=l.length:=⟨_,rfl⟩;have HLL:=Lh hll;rw [<- hll] at hbb hA ⊢;have hlb:(ll:Int)<=140737488351232:=by unfold big at hbb; omega
 have HA:=Lh hA;have HRR:=Lh hr;have HS:=Lh hs;clear hA hr hs hR hll hbb
 go_enter Tryz.func20, Tryz.ntmps20
 go_wp2_with fail
 go_loopw [5,6] (fun nn i wr=>∃ (j x:Nat),j<=ll/\i=.int .i64 j/\nn=.int .i64 x/\x<=20000000000000/\Hid (R=wis x (l.drop j)/\Below w.heap.size w wr)) (fun _ i _=>ll-(intOf i).toNat)
 case atStart=>exact ⟨0,0,Nat.zero_le _,rfl,rfl,by omega,Lh ⟨HR.out,Below.refl _ _⟩⟩
 case round =>
  obtain ⟨j,x,hj,rfl,rfl,hxb,hq⟩:=hrel;by_cases hgo:j<ll/\x<=2000
  ·obtain ⟨hlt,hle⟩:=hgo
   have hlt':(j:Int)<ll:=by omega
   have hle':(x:Int)<=2000:=by omega
   obtain ⟨d,hd⟩ : ∃ d,l[j]?=some d:=⟨_,List.getElem?_eq_getElem (by have:=HLL.out; omega)⟩
   obtain ⟨a,rfl,ha,hx⟩:=HA.out (by omega)
   have hdr:=HRR.out j d hd;have hcell:=hx j hlt;obtain ⟨hs1,hs2,hs3⟩:=HS.out d (List.mem_of_getElem? hd);obtain ⟨A2,c2,e2,_,_⟩:=hdr.type.wraps.form;obtain ⟨k1,n1,s1,A3,li1,ci1,K1,lk1,ck1,e4,e5,e6,e7,e8⟩:=Rd.form hdr.val;obtain ⟨A9,c9,e9,_,_⟩:=hdr.dirs.form;have HN:Hid (R=wis (x+1+d.tw.length+d.dflt.wv+wds 0 d.dirs) (l.drop (j+1))):=Lh (by rw [hq.out.1,zn7 hd,wis,if_pos hle])
   have hbt:=wv_le d.dflt;have hbd:=zA3 d.dirs 0 hs2 (by omega)
   have hvv:Rd w w.heap.size (.agg #[.int .i64 k1,.int .i64 n1,.string s1,.slice A3 li1 ci1,.slice K1 lk1 ck1]) d.dflt:=by
    have:=hdr.val;rw [e4,e5,e6,e7,e8] at this;exact this
   have hdd:DirsR w w.heap.size (.slice A9 d.dirs.length c9) d.dirs:=by rw [<- e9]; exact hdr.dirs
   have hlt3:(d.tw.length:Int)<=17592186044416:=by omega
   have hbt':(d.dflt.wv:Int)<=1099511627776:=by omega
   have hbd':(wds 0 d.dirs:Int)<=1099511700000:=by omega
   have H2:=Lh ((hcell 2 (by omega)).trans (by rw [e2]))
   have H4:=Lh ((hcell 4 (by omega)).trans (by rw [e4]))
   have H5:=Lh ((hcell 5 (by omega)).trans (by rw [e5]))
   have H6:=Lh ((hcell 6 (by omega)).trans (by rw [e6]))
   have H7:=Lh ((hcell 7 (by omega)).trans (by rw [e7]))
   have H8:=Lh ((hcell 8 (by omega)).trans (by rw [e8]))
   have H9:=Lh ((hcell 9 (by omega)).trans (by rw [e9]))
   have W1:=fun (W:World) (hW:Below w.heap.size w W)=>zA2 d.dflt W w.heap.size _ (hvv.kept hW) hW.size hs1;have W2:=fun (W:World) (hW:Below w.heap.size w W)=>zh7 d.dirs _ W ((hdd.kept hW).mono hW.size) hs2;have HW1:=Lh W1;have HW2:=Lh W2;have HAB:=Lh ha;clear hx hdr hcell e2 e4 e5 e6 e7 e8 e9 hvv hdd W1 W2 hs1 hs2 hs3 hbt hbd hd ha;generalize d.tw.length=lw at *;generalize d.dflt.wv=tv at *;generalize wds 0 d.dirs=td at *;generalize d.dirs.length=ld at *;go_wp2_with fail
   refine za6 (fun W=>Below w.heap.size w W) hq.out.2 (by kernel_rfl) ?_
   intro W hW _;have hc9:∀ (x:Past W) (o:Nat),x.w.cell? ⟨(a.add (j*10)).block,(a.add (j*10)).off+o,none⟩=w.cell? ⟨(a.add (j*10)).block,(a.add (j*10)).off+o,none⟩:=fun x o=>pastc hW x hW.size (by rw [za0]; exact HAB.out)
   have p2:∀ x:Past W,x.w.cell? ⟨(a.add (j*10)).block,(a.add (j*10)).off+2,none⟩=some (.slice A2 lw c2):=fun x=>(hc9 x 2).trans H2.out;have p4:∀ x:Past W,x.w.cell? ⟨(a.add (j*10)).block,(a.add (j*10)).off+4,none⟩=some (.int .i64 k1):=fun x=>(hc9 x 4).trans H4.out;have p5:∀ x:Past W,x.w.cell? ⟨(a.add (j*10)).block,(a.add (j*10)).off+5,none⟩=some (.int .i64 n1):=fun x=>(hc9 x 5).trans H5.out;have p6:∀ x:Past W,x.w.cell? ⟨(a.add (j*10)).block,(a.add (j*10)).off+6,none⟩=some (.string s1):=fun x=>(hc9 x 6).trans H6.out;have p7:∀ x:Past W,x.w.cell? ⟨(a.add (j*10)).block,(a.add (j*10)).off+7,none⟩=some (.slice A3 li1 ci1):=fun x=>(hc9 x 7).trans H7.out;have p8:∀ x:Past W,x.w.cell? ⟨(a.add (j*10)).block,(a.add (j*10)).off+8,none⟩=some (.slice K1 lk1 ck1):=fun x=>(hc9 x 8).trans H8.out;have p9:∀ x:Past W,x.w.cell? ⟨(a.add (j*10)).block,(a.add (j*10)).off+9,none⟩=some (.slice A9 ld c9):=fun x=>(hc9 x 9).trans H9.out;have k1':∀ x:Past W,Calls Tryz.prog 38 #[.agg #[.int .i64 k1,.int .i64 n1,.string s1,.slice A3 li1 ci1,.slice K1 lk1 ck1],.int .i64 2000] x.w fun e w''=>e=.returned (.int .i64 tv)/\∃ y:Past W,w''=y.w:=fun x=>zc5 x (HW1.out _ (hW.trans (x.b.mono hW.size)));have k2':∀ x:Past W,Calls Tryz.prog 19 #[.slice A9 ld c9,.int .i64 2000] x.w fun e w''=>e=.returned (.int .i64 td)/\∃ y:Past W,w''=y.w:=fun x=>zc5 x (HW2.out _ (hW.trans (x.b.mono hW.size)));have C1:=Lh k1';have C2:=Lh k2';have HWW:=Lh hW;clear hc9 k1' k2' hW
   repeat (go_big_quiet_step (first | with_reducible exact C1.out _ | with_reducible exact C2.out _))
   refine wpQuiet_nil ?_
   intro _ hw';obtain ⟨y,rfl⟩:=hw';go_wp2_with fail
   go_roundw
   case rel=>exact ⟨j+1,x+1+lw+tv+td,by omega,by go_num,by go_num,by omega,Lh ⟨HN.out,HWW.out.trans (y.b.mono HWW.out.size)⟩⟩
   case measure=>simp [intOf]; omega
  ·have HF:Hid (R=x):=Lh (by
    rw [hq.out.1];rcases Nat.lt_or_ge 2000 x with h | h
    ·rw [wis_big h]
    ·rw [List.drop_eq_nil_of_le (by have:=HLL.out; omega),wis])
   by_cases hlt:j<ll
   ·have hlt':(j:Int)<ll:=by omega
    have hle':¬ (x:Int)<=2000:=fun h=>hgo ⟨hlt,by omega⟩
    clear hgo;go_wp2_with fail
    go_ret
    exact ⟨by rw [HF.out]; rfl,hq.out.2⟩
   ·have hlt':¬ (j:Int)<ll:=by omega
    clear hgo;go_wp2_with fail
    go_ret
    exact ⟨by rw [HF.out]; rfl,hq.out.2⟩
theorem zZ6 (l:List ByteArray) (v v':Value) (w:World) (h:NamesR w w.heap.size v l) (h':NamesR w w.heap.size v' l):Calls Tryz.prog 56 #[v,v'] w (BP true w):=by
 obtain ⟨A,c,rfl,hc,hbb,V,hA,hr⟩:=h;obtain ⟨A',c',rfl,hc',_,V',hA',hr'⟩:=h';obtain ⟨ll,hll⟩ : ∃ ll,ll=l.length:=⟨_,rfl⟩;have HLL:=Lh hll;rw [<- hll] at hbb hA hA' ⊢;have hlb:(ll:Int)<=140737488351232:=by unfold big at hbb; omega
 have HA:=Lh hA;have HRR:=Lh hr;have HA':=Lh hA';have HRR':=Lh hr';clear hA hr hA' hr' hll hbb hc hc'
 go_enter Tryz.func56, Tryz.ntmps56
 go_wp2_with fail
 go_loopw [5] (fun i wr=>∃ j:Nat,j<=ll/\i=.int .i64 j/\Hid (Below w.heap.size w wr)) (fun i _=>ll-(intOf i).toNat)
 case atStart=>exact ⟨0,Nat.zero_le _,rfl,Lh (Below.refl _ _)⟩
 case round =>
  obtain ⟨j,hj,rfl,hq⟩:=hrel;by_cases hlt:j<ll
  ·skip
   have hlt':(j:Int)<ll:=by omega
   obtain ⟨d,hd⟩ : ∃ d,l[j]?=some d:=⟨_,List.getElem?_eq_getElem (by have:=HLL.out; omega)⟩
   obtain ⟨a,rfl,ha,hx⟩:=HA.out (by omega)
   obtain ⟨a',rfl,ha',hx'⟩:=HA'.out (by omega)
   have hdr:=HRR.out j d hd;have hdr':=HRR'.out j d hd;have hcell:=hx j hlt;have hcell':=hx' j hlt;have hxx:decide (d=d)=true:=by simp
   have H0:Hid (w.cell? (a.add j)=some (.string d)):=Lh (by have:=hcell 0 (by omega); rw [Nat.mul_one] at this; exact this.trans (by rw [hdr.1]))
   have H1:Hid (w.cell? (a'.add j)=some (.string d)):=Lh (by have:=hcell' 0 (by omega); rw [Nat.mul_one] at this; exact this.trans (by rw [hdr'.1]))
   have HAB:=Lh ha;have HAB':=Lh ha';clear hx hx' hdr hdr' hcell hcell' hd ha ha';go_wp2_with fail
   refine za6 (fun W=>Below w.heap.size w W) hq.out (by kernel_rfl) ?_
   intro W hW _;have p0:∀ x:Past W,x.w.cell? (a.add j)=some (.string d):=fun x=>(pastc hW x hW.size (by rw [za0]; exact HAB.out)).trans H0.out
   have p1:∀ x:Past W,x.w.cell? (a'.add j)=some (.string d):=fun x=>(pastc hW x hW.size (by rw [za0]; exact HAB'.out)).trans H1.out
   have HWW:=Lh hW;clear hW
   repeat (go_big_quiet_step (fail))
   refine wpQuiet_nil ?_
   intro _ hw';obtain ⟨y,rfl⟩:=hw';go_wp2_with fail
   go_roundw
   case rel=>exact ⟨j+1,by omega,by go_num,Lh (HWW.out.trans (y.b.mono HWW.out.size))⟩
   case measure=>simp [intOf]; omega
  ·have hlt':¬ (j:Int)<ll:=by omega
   go_wp2_with fail
   go_ret
   exact ⟨rfl,hq.out⟩
def EqAt (t:VT):Prop:=∀ (w:World) (B:Nat) (v v':Value),Rd w B v t->Rd w B v' t->B<=w.heap.size->Calls Tryz.prog 122 #[v,v'] w fun e w'=>e=.returned (.bool true)/\Below w.heap.size w w'
theorem zy8 (t:VT):EqAt t:=by
 induction t using VT.ind with
 | h k n s items keys ih =>
 intro w B v v' h h' hB;have IH:=Lh ih;clear ih
 cases h with
 | @mk _ _ _ A li ci K lk ck _ _ V hk hn hs hks hli hlk hbi hbk hA hr hK =>
 cases h' with
 | @mk _ _ _ A' li' ci' K' lk' ck' _ _ V' hk' hn' hs' hks' hli' hlk' hbi' hbk' hA' hr' hK' =>
 obtain rfl:li=li':=hli.symm.trans hli';obtain rfl:lk=lk':=hlk.symm.trans hlk';have HA:=Lh hA;have HR:=Lh hr;have HL:=Lh hli;have HLK:=Lh hlk;have HA':=Lh hA';have HR':=Lh hr';have HK:=Lh hK;have HK':=Lh hK';clear hA hr hA' hr' hli hli' hK hK' hks hks' hk hk' hn hn' hs hs' hlk hlk';obtain ⟨f1,f2,f3⟩:=Box.two w (.int .i64 k) (.int .i64 n) (.string s) (.slice A li ci) (.slice K lk ck) (.int .i64 k) (.int .i64 n) (.string s) (.slice A' li ci') (.slice K' lk ck');have F1:=Lh f1;have F2:=Lh f2;have F3:=Lh f3;obtain ⟨p0,p1,p2,p3,p4⟩:=f1.cells;obtain ⟨q0,q1,q2,q3,q4⟩:=f2.cells;clear f1 f2 f3;have hlm:(li:Int)<=140737488351232:=by omega
 have hlm':(lk:Int)<=140737488351232:=by omega
 clear hbi hbk hbi' hbk';have hss:decide (s=s)=true:=by simp
 go_enter Tryz.func122, Tryz.ntmps122
 go_wp2_with fail
 clear p0 p1 p2 p3 p4 q0 q1 q2 q3 q4
 go_loopw [5] (fun i wr=>∃ j:Nat,j<=lk/\i=.int .i64 j/\Below w.heap.size w wr /\
  Box wr w.heap.size (.int .i64 k) (.int .i64 n) (.string s) (.slice A li ci) (.slice K lk ck)/\Box wr (w.heap.size+1) (.int .i64 k) (.int .i64 n) (.string s) (.slice A' li ci') (.slice K' lk ck')) (fun i _=>lk-(intOf i).toNat)
 case atStart=>exact ⟨0,Nat.zero_le _,rfl,F3.out,F1.out,F2.out⟩
 case round =>
  obtain ⟨j,hj,rfl,hb,hx1,hx2⟩:=hrel;have HB:=Lh hb;have HX1:=Lh hx1;have HX2:=Lh hx2;obtain ⟨p0,p1,p2,p3,p4⟩:=hx1.cells;obtain ⟨q0,q1,q2,q3,q4⟩:=hx2.cells;clear hb hx1 hx2 F1 F2 F3;by_cases hlt:j<lk
  ·obtain ⟨a,rfl,hab,hkc⟩:=HK.out (by have:=HLK.out; omega)
   obtain ⟨a',rfl,hab',hkc'⟩:=HK'.out (by have:=HLK.out; omega)
   obtain ⟨x,hx⟩ : ∃ x,keys[j]?=some x:=⟨_,List.getElem?_eq_getElem (by have:=HLK.out; omega)⟩
   have HC:Hid (w.cell? (a.add j)=some (.string x)):=Lh (hkc j x hx);have HC':Hid (w.cell? (a'.add j)=some (.string x)):=Lh (hkc' j x hx);have HAB:Hid ((a.add j).block<w.heap.size):=Lh (by rw [za0]; omega)
   have HAB':Hid ((a'.add j).block<w.heap.size):=Lh (by rw [za0]; omega)
   have hlt':(j:Int)<lk:=by omega
   have hxx:decide (x=x)=true:=by simp
   clear hkc hkc' hx hab hab';go_wp2_with fail
   refine za6 (fun W=>Box W w.heap.size (.int .i64 k) (.int .i64 n) (.string s) (.slice A li ci) (.slice (some a) lk ck)/\Box W (w.heap.size+1) (.int .i64 k) (.int .i64 n) (.string s) (.slice A' li ci') (.slice (some a') lk ck')/\Below w.heap.size w W) ⟨HX1.out,HX2.out,HB.out⟩ (by kernel_rfl) ?_
   clear p0 p1 p2 p3 p4 q0 q1 q2 q3 q4;intro W ⟨f1,f2,f3⟩ _;obtain ⟨p0,p1,p2,p3,p4⟩:=f1.past;obtain ⟨q0,q1,q2,q3,q4⟩:=f2.past;have G1:=Lh f1;have G2:=Lh f2;have G3:=Lh f3;clear f1 f2 f3;have r0:∀ y:Past W,y.w.cell? (a.add j)=some (.string x):=fun y=>by
    rw [(G3.out.trans (y.b.mono G3.out.size)).cell HAB.out]; exact HC.out
   have u0:∀ y:Past W,y.w.cell? (a'.add j)=some (.string x):=fun y=>by
    rw [(G3.out.trans (y.b.mono G3.out.size)).cell HAB'.out]; exact HC'.out
   repeat (go_big_quiet_step (fail))
   refine wpQuiet_nil ?_
   intro _ hw';obtain ⟨y,rfl⟩:=hw';have HBx:=Lh (G3.out.trans (y.b.mono G3.out.size));have HX1':=Lh (G1.out.kept y.b);have HX2':=Lh (G2.out.kept y.b);clear p0 p1 p2 p3 p4 q0 q1 q2 q3 q4 r0 u0;generalize y.w=wx at *;go_wp2_with fail
   go_roundw
   case rel=>exact ⟨j+1,by omega,by go_num,HBx.out,HX1'.out,HX2'.out⟩
   case measure=>simp [intOf]; omega
  ·have hlt':¬ (j:Int)<lk:=by omega
   go_wp2_with fail
   clear p0 p1 p2 p3 p4 q0 q1 q2 q3 q4
   go_loopw [6] (fun i wr2=>∃ j2:Nat,j2<=li/\i=.int .i64 j2/\Below w.heap.size w wr2 /\
    Box wr2 w.heap.size (.int .i64 k) (.int .i64 n) (.string s) (.slice A li ci) (.slice K lk ck)/\Box wr2 (w.heap.size+1) (.int .i64 k) (.int .i64 n) (.string s) (.slice A' li ci') (.slice K' lk ck')) (fun i _=>li-(intOf i).toNat)
   case atStart=>exact ⟨0,Nat.zero_le _,rfl,HB.out,HX1.out,HX2.out⟩
   case round =>
    obtain ⟨j2,hj2,rfl,hb,hx1,hx2⟩:=hrel;have HB2:=Lh hb;have HY1:=Lh hx1;have HY2:=Lh hx2;obtain ⟨p0,p1,p2,p3,p4⟩:=hx1.cells;obtain ⟨q0,q1,q2,q3,q4⟩:=hx2.cells;clear hb hx1 hx2 HB HX1 HX2;by_cases hlt2:j2<li
    ·obtain ⟨a,t,k1,n1,s1,A1,li1,ci1,K1,lk1,ck1,rfl,ht,e,hrd,_,_,_,_,_⟩:=zk0 HA.out HR.out HL.out (Below.refl _ _) hlt2
     obtain ⟨a',t',k1',n1',s1',A1',li1',ci1',K1',lk1',ck1',rfl,ht',e',hrd',_,_,_,_,_⟩:=zk0 HA'.out HR'.out HL.out (Below.refl _ _) hlt2;obtain rfl:t=t':=Option.some.inj (ht.symm.trans ht');have HC:Hid (C5 w (a.add (j2*5)) (V j2)):=Lh (by obtain ⟨_,e,_,h⟩:=HA.out (by omega); cases e; exact h j2 hlt2)
     have HC':Hid (C5 w (a'.add (j2*5)) (V' j2)):=Lh (by obtain ⟨_,e,_,h⟩:=HA'.out (by omega); cases e; exact h j2 hlt2)
     have hab:(a.add (j2*5)).block<B:=by obtain ⟨_,e,h,_⟩:=HA.out (by omega); cases e; rw [za0]; exact h
     have hab':(a'.add (j2*5)).block<B:=by obtain ⟨_,e,h,_⟩:=HA'.out (by omega); cases e; rw [za0]; exact h
     have IHH:=Lh (IH.out j2 t ht);have E:=Lh e;have E':=Lh e';have HT:=Lh hrd;have HT':=Lh hrd';have hlt2':(j2:Int)<li:=by omega
     clear e e' hrd hrd' ht ht';go_wp2_with fail
     refine za6 (fun W=>Box W w.heap.size (.int .i64 k) (.int .i64 n) (.string s) (.slice (some a) li ci) (.slice K lk ck)/\Box W (w.heap.size+1) (.int .i64 k) (.int .i64 n) (.string s) (.slice (some a') li ci') (.slice K' lk ck')/\Below w.heap.size w W) ⟨HY1.out,HY2.out,HB2.out⟩ (by kernel_rfl) ?_
     clear p0 p1 p2 p3 p4 q0 q1 q2 q3 q4;intro W2 ⟨f1,f2,f3⟩ _;obtain ⟨p0,p1,p2,p3,p4⟩:=f1.past;obtain ⟨q0,q1,q2,q3,q4⟩:=f2.past;obtain ⟨r0,r1,r2,r3,r4⟩:=(HC.out.kept (by omega) f3).past E.out (Nat.lt_of_lt_of_le (Nat.lt_of_lt_of_le hab hB) f3.size)
     obtain ⟨u0,u1,u2,u3,u4⟩:=(HC'.out.kept (by omega) f3).past E'.out (Nat.lt_of_lt_of_le (Nat.lt_of_lt_of_le hab' hB) f3.size)
     have Z1:=Lh f1;have Z2:=Lh f2;have Z3:=Lh f3;clear f1 f2 f3;have C4:Hid (∀ x:Past W2,Calls Tryz.prog 122 #[.agg #[.int .i64 k1,.int .i64 n1,.string s1,.slice A1 li1 ci1,.slice K1 lk1 ck1],.agg #[.int .i64 k1',.int .i64 n1',.string s1',.slice A1' li1' ci1',.slice K1' lk1' ck1']] x.w fun e w''=>e=.returned (.bool true)/\∃ y:Past W2,w''=y.w) :=
      Lh fun x=>zc5 x (by
       have g:=Z3.out.trans (x.b.mono Z3.out.size);have:=IHH.out x.w B (V j2) (V' j2) (HT.out.kept (g.mono hB)) (HT'.out.kept (g.mono hB)) (Nat.le_trans hB g.size)
       rwa [E.out,E'.out] at this)
     have hi0:(0:Int)<=(j2:Int):=by omega
     repeat (go_big_quiet_step (with_reducible exact C4.out _))
     refine wpQuiet_nil ?_
     intro _ hw';obtain ⟨x,rfl⟩:=hw';have HBy:=Lh (Z3.out.trans (x.b.mono Z3.out.size));have HY1':=Lh (Z1.out.kept x.b);have HY2':=Lh (Z2.out.kept x.b);clear p0 p1 p2 p3 p4 q0 q1 q2 q3 q4 r0 r1 r2 r3 r4 u0 u1 u2 u3 u4;generalize x.w=wy at *;go_wp2_with fail
     go_roundw
     case rel=>exact ⟨j2+1,by omega,by go_num,HBy.out,HY1'.out,HY2'.out⟩
     case measure=>simp [intOf]; omega
    ·have hlt2':¬ (j2:Int)<li:=by omega
     go_wp2_with fail
     go_ret
     exact ⟨rfl,HB2.out⟩
theorem zi4 (l:List DirT) (v v':Value) (w:World) (h:DirsR w w.heap.size v l) (h':DirsR w w.heap.size v' l):Calls Tryz.prog 57 #[v,v'] w (BP true w):=by
 obtain ⟨A,c,rfl,hc,hbb,V,hA,hr⟩:=h;obtain ⟨A',c',rfl,hc',_,V',hA',hr'⟩:=h';obtain ⟨ll,hll⟩ : ∃ ll,ll=l.length:=⟨_,rfl⟩;have HLL:=Lh hll;rw [<- hll] at hbb hA hA' ⊢;have hlb:(ll:Int)<=140737488351232:=by unfold big at hbb; omega
 have HA:=Lh hA;have HRR:=Lh hr;have HA':=Lh hA';have HRR':=Lh hr';clear hA hr hA' hr' hll hbb hc hc'
 go_enter Tryz.func57, Tryz.ntmps57
 go_wp2_with fail
 go_loopw [5] (fun i wr=>∃ j:Nat,j<=ll/\i=.int .i64 j/\Hid (Below w.heap.size w wr)) (fun i _=>ll-(intOf i).toNat)
 case atStart=>exact ⟨0,Nat.zero_le _,rfl,Lh (Below.refl _ _)⟩
 case round =>
  obtain ⟨j,hj,rfl,hq⟩:=hrel;by_cases hlt:j<ll
  ·skip
   have hlt':(j:Int)<ll:=by omega
   obtain ⟨d,hd⟩ : ∃ d,l[j]?=some d:=⟨_,List.getElem?_eq_getElem (by have:=HLL.out; omega)⟩
   obtain ⟨a,rfl,ha,hx⟩:=HA.out (by omega)
   obtain ⟨a',rfl,ha',hx'⟩:=HA'.out (by omega)
   have hdr:=HRR.out j d hd;have hdr':=HRR'.out j d hd;have hcell:=hx j hlt;have hcell':=hx' j hlt;obtain ⟨A1,c1,ea,_,hb1,V1,hA1,hr1⟩:=hdr.args;obtain ⟨A1',c1',ea',_,_,V1',hA1',hr1'⟩:=hdr'.args;have hxx:decide (d.name=d.name)=true:=by simp
   obtain ⟨la,hla⟩ : ∃ la,la=d.args.length:=⟨_,rfl⟩;have HLA:=Lh hla;rw [<- hla] at ea ea' hb1 hA1 hA1';have hlab:(la:Int)<=140737488351232:=by unfold big at hb1; omega
   have HA1:=Lh hA1;have HR1:=Lh hr1;have HA1':=Lh hA1';have HR1':=Lh hr1';have H0:=Lh ((hcell 0 (by omega)).trans (by rw [hdr.name]):w.cell? (a.add (j*2))=some (.string d.name))
   have H1:=Lh ((hcell 1 (by omega)).trans (by rw [ea]):w.cell? ⟨(a.add (j*2)).block,(a.add (j*2)).off+1,none⟩=some (.slice A1 la c1))
   have H0':=Lh ((hcell' 0 (by omega)).trans (by rw [hdr'.name]):w.cell? (a'.add (j*2))=some (.string d.name))
   have H1':=Lh ((hcell' 1 (by omega)).trans (by rw [ea']):w.cell? ⟨(a'.add (j*2)).block,(a'.add (j*2)).off+1,none⟩=some (.slice A1' la c1'))
   have HAB:=Lh ha;have HAB':=Lh ha';clear hx hx' hdr hdr' hcell hcell' hd ha ha' hA1 hr1 hA1' hr1' hla ea ea' hb1;generalize d.name=nm at *;go_wp2_with fail
   refine za6 (fun W=>Below w.heap.size w W) hq.out (by kernel_rfl) ?_
   intro W hW _;have p0:∀ x:Past W,x.w.cell? (a.add (j*2))=some (.string nm):=fun x=>(pastc hW x hW.size (by rw [za0]; exact HAB.out)).trans H0.out
   have p1:∀ x:Past W,x.w.cell? (a'.add (j*2))=some (.string nm):=fun x=>(pastc hW x hW.size (by rw [za0]; exact HAB'.out)).trans H0'.out
   have p2:∀ x:Past W,x.w.cell? ⟨(a.add (j*2)).block,(a.add (j*2)).off+1,none⟩=some (.slice A1 la c1):=fun x=>(pastc hW x hW.size (p:=⟨(a.add (j*2)).block,(a.add (j*2)).off+1,none⟩) (by rw [za0]; exact HAB.out)).trans H1.out
   have p3:∀ x:Past W,x.w.cell? ⟨(a'.add (j*2)).block,(a'.add (j*2)).off+1,none⟩=some (.slice A1' la c1'):=fun x=>(pastc hW x hW.size (p:=⟨(a'.add (j*2)).block,(a'.add (j*2)).off+1,none⟩) (by rw [za0]; exact HAB'.out)).trans H1'.out
   have HWW:=Lh hW;clear hW hq
   repeat (go_big_quiet_step (fail))
   refine wpQuiet_nil ?_
   intro _ hw';obtain ⟨y,rfl⟩:=hw';have HB6:=Lh (HWW.out.trans (y.b.mono HWW.out.size));clear p0 p1 p2 p3 HWW;generalize y.w=w6 at *;go_wp2_with fail
   go_loopw [6] (fun i wr=>∃ j2:Nat,j2<=la/\i=.int .i64 j2/\Hid (Below w.heap.size w wr)) (fun i _=>la-(intOf i).toNat)
   case atStart=>exact ⟨0,Nat.zero_le _,rfl,HB6⟩
   case round =>
    obtain ⟨j2,hj2,rfl,hq2⟩:=hrel;have z1:wr.cell? ⟨(a.add (j*2)).block,(a.add (j*2)).off+1,none⟩=some (.slice A1 la c1):=(hq2.out.cell (p:=⟨(a.add (j*2)).block,(a.add (j*2)).off+1,none⟩) (by rw [za0]; exact HAB.out)).trans H1.out
    by_cases hlt2:j2<la
    ·have hlt2':(j2:Int)<la:=by omega
     obtain ⟨g,hg⟩ : ∃ g,d.args[j2]?=some g:=⟨_,List.getElem?_eq_getElem (by have:=HLA.out; omega)⟩
     obtain ⟨b,rfl,hb,hy⟩:=HA1.out (by omega)
     obtain ⟨b',rfl,hb',hy'⟩:=HA1'.out (by omega)
     have hgr:=HR1.out j2 g hg;have hgr':=HR1'.out j2 g hg;have ycell:=hy j2 hlt2;have ycell':=hy' j2 hlt2;obtain ⟨k1,n1,s1,B1,li1,ci1,K1,lk1,ck1,e1,e2,e3,e4,e5⟩:=Rd.form hgr.val;obtain ⟨k2,n2,s2,B2,li2,ci2,K2,lk2,ck2,f1,f2,f3,f4,f5⟩:=Rd.form hgr'.val;have hvv:Rd w w.heap.size (.agg #[.int .i64 k1,.int .i64 n1,.string s1,.slice B1 li1 ci1,.slice K1 lk1 ck1]) g.2:=by
      have:=hgr.val;rw [e1,e2,e3,e4,e5] at this;exact this
     have hvv':Rd w w.heap.size (.agg #[.int .i64 k2,.int .i64 n2,.string s2,.slice B2 li2 ci2,.slice K2 lk2 ck2]) g.2:=by
      have:=hgr'.val;rw [f1,f2,f3,f4,f5] at this;exact this
     have hxx2:decide (g.1=g.1)=true:=by simp
     have G0:=Lh ((ycell 0 (by omega)).trans (by rw [hgr.name]):w.cell? (b.add (j2*6))=some (.string g.1))
     have G1:=Lh ((ycell 1 (by omega)).trans (by rw [e1]):w.cell? ⟨(b.add (j2*6)).block,(b.add (j2*6)).off+1,none⟩=some (.int .i64 k1))
     have G2:=Lh ((ycell 2 (by omega)).trans (by rw [e2]):w.cell? ⟨(b.add (j2*6)).block,(b.add (j2*6)).off+2,none⟩=some (.int .i64 n1))
     have G3:=Lh ((ycell 3 (by omega)).trans (by rw [e3]):w.cell? ⟨(b.add (j2*6)).block,(b.add (j2*6)).off+3,none⟩=some (.string s1))
     have G4:=Lh ((ycell 4 (by omega)).trans (by rw [e4]):w.cell? ⟨(b.add (j2*6)).block,(b.add (j2*6)).off+4,none⟩=some (.slice B1 li1 ci1))
     have G5:=Lh ((ycell 5 (by omega)).trans (by rw [e5]):w.cell? ⟨(b.add (j2*6)).block,(b.add (j2*6)).off+5,none⟩=some (.slice K1 lk1 ck1))
     have G'0:=Lh ((ycell' 0 (by omega)).trans (by rw [hgr'.name]):w.cell? (b'.add (j2*6))=some (.string g.1))
     have G'1:=Lh ((ycell' 1 (by omega)).trans (by rw [f1]):w.cell? ⟨(b'.add (j2*6)).block,(b'.add (j2*6)).off+1,none⟩=some (.int .i64 k2))
     have G'2:=Lh ((ycell' 2 (by omega)).trans (by rw [f2]):w.cell? ⟨(b'.add (j2*6)).block,(b'.add (j2*6)).off+2,none⟩=some (.int .i64 n2))
     have G'3:=Lh ((ycell' 3 (by omega)).trans (by rw [f3]):w.cell? ⟨(b'.add (j2*6)).block,(b'.add (j2*6)).off+3,none⟩=some (.string s2))
     have G'4:=Lh ((ycell' 4 (by omega)).trans (by rw [f4]):w.cell? ⟨(b'.add (j2*6)).block,(b'.add (j2*6)).off+4,none⟩=some (.slice B2 li2 ci2))
     have G'5:=Lh ((ycell' 5 (by omega)).trans (by rw [f5]):w.cell? ⟨(b'.add (j2*6)).block,(b'.add (j2*6)).off+5,none⟩=some (.slice K2 lk2 ck2))
     have HE:=Lh (fun (W:World) (hW:Below w.heap.size w W)=>zy8 g.2 W w.heap.size _ _ (hvv.kept hW) (hvv'.kept hW) hW.size);have HBB:=Lh hb;have HBB':=Lh hb';clear hy hy' hgr hgr' ycell ycell' hg hb hb' e1 e2 e3 e4 e5 f1 f2 f3 f4 f5 hvv hvv';generalize g.1=gn at *;go_wp2_with fail
     refine za6 (fun W=>Below w.heap.size w W) hq2.out (by kernel_rfl) ?_
     intro W hW _;have p2:∀ x:Past W,x.w.cell? ⟨(a.add (j*2)).block,(a.add (j*2)).off+1,none⟩=some (.slice (some b) la c1):=fun x=>(pastc hW x hW.size (p:=⟨(a.add (j*2)).block,(a.add (j*2)).off+1,none⟩) (by rw [za0]; exact HAB.out)).trans H1.out
     have p3:∀ x:Past W,x.w.cell? ⟨(a'.add (j*2)).block,(a'.add (j*2)).off+1,none⟩=some (.slice (some b') la c1'):=fun x=>(pastc hW x hW.size (p:=⟨(a'.add (j*2)).block,(a'.add (j*2)).off+1,none⟩) (by rw [za0]; exact HAB'.out)).trans H1'.out
     have r10:∀ x:Past W,x.w.cell? (b.add (j2*6))=some (.string gn):=fun x=>(pastc hW x hW.size (p:=(b.add (j2*6))) (by rw [za0]; exact HBB.out)).trans G0.out
     have r11:∀ x:Past W,x.w.cell? ⟨(b.add (j2*6)).block,(b.add (j2*6)).off+1,none⟩=some (.int .i64 k1):=fun x=>(pastc hW x hW.size (p:=⟨(b.add (j2*6)).block,(b.add (j2*6)).off+1,none⟩) (by rw [za0]; exact HBB.out)).trans G1.out
     have r12:∀ x:Past W,x.w.cell? ⟨(b.add (j2*6)).block,(b.add (j2*6)).off+2,none⟩=some (.int .i64 n1):=fun x=>(pastc hW x hW.size (p:=⟨(b.add (j2*6)).block,(b.add (j2*6)).off+2,none⟩) (by rw [za0]; exact HBB.out)).trans G2.out
     have r13:∀ x:Past W,x.w.cell? ⟨(b.add (j2*6)).block,(b.add (j2*6)).off+3,none⟩=some (.string s1):=fun x=>(pastc hW x hW.size (p:=⟨(b.add (j2*6)).block,(b.add (j2*6)).off+3,none⟩) (by rw [za0]; exact HBB.out)).trans G3.out
     have r14:∀ x:Past W,x.w.cell? ⟨(b.add (j2*6)).block,(b.add (j2*6)).off+4,none⟩=some (.slice B1 li1 ci1):=fun x=>(pastc hW x hW.size (p:=⟨(b.add (j2*6)).block,(b.add (j2*6)).off+4,none⟩) (by rw [za0]; exact HBB.out)).trans G4.out
     have r15:∀ x:Past W,x.w.cell? ⟨(b.add (j2*6)).block,(b.add (j2*6)).off+5,none⟩=some (.slice K1 lk1 ck1):=fun x=>(pastc hW x hW.size (p:=⟨(b.add (j2*6)).block,(b.add (j2*6)).off+5,none⟩) (by rw [za0]; exact HBB.out)).trans G5.out
     have r20:∀ x:Past W,x.w.cell? (b'.add (j2*6))=some (.string gn):=fun x=>(pastc hW x hW.size (p:=(b'.add (j2*6))) (by rw [za0]; exact HBB'.out)).trans G'0.out
     have r21:∀ x:Past W,x.w.cell? ⟨(b'.add (j2*6)).block,(b'.add (j2*6)).off+1,none⟩=some (.int .i64 k2):=fun x=>(pastc hW x hW.size (p:=⟨(b'.add (j2*6)).block,(b'.add (j2*6)).off+1,none⟩) (by rw [za0]; exact HBB'.out)).trans G'1.out
     have r22:∀ x:Past W,x.w.cell? ⟨(b'.add (j2*6)).block,(b'.add (j2*6)).off+2,none⟩=some (.int .i64 n2):=fun x=>(pastc hW x hW.size (p:=⟨(b'.add (j2*6)).block,(b'.add (j2*6)).off+2,none⟩) (by rw [za0]; exact HBB'.out)).trans G'2.out
     have r23:∀ x:Past W,x.w.cell? ⟨(b'.add (j2*6)).block,(b'.add (j2*6)).off+3,none⟩=some (.string s2):=fun x=>(pastc hW x hW.size (p:=⟨(b'.add (j2*6)).block,(b'.add (j2*6)).off+3,none⟩) (by rw [za0]; exact HBB'.out)).trans G'3.out
     have r24:∀ x:Past W,x.w.cell? ⟨(b'.add (j2*6)).block,(b'.add (j2*6)).off+4,none⟩=some (.slice B2 li2 ci2):=fun x=>(pastc hW x hW.size (p:=⟨(b'.add (j2*6)).block,(b'.add (j2*6)).off+4,none⟩) (by rw [za0]; exact HBB'.out)).trans G'4.out
     have r25:∀ x:Past W,x.w.cell? ⟨(b'.add (j2*6)).block,(b'.add (j2*6)).off+5,none⟩=some (.slice K2 lk2 ck2):=fun x=>(pastc hW x hW.size (p:=⟨(b'.add (j2*6)).block,(b'.add (j2*6)).off+5,none⟩) (by rw [za0]; exact HBB'.out)).trans G'5.out
     have kE:∀ x:Past W,Calls Tryz.prog 122 #[.agg #[.int .i64 k1,.int .i64 n1,.string s1,.slice B1 li1 ci1,.slice K1 lk1 ck1],.agg #[.int .i64 k2,.int .i64 n2,.string s2,.slice B2 li2 ci2,.slice K2 lk2 ck2]] x.w fun e w''=>e=.returned (.bool true)/\∃ y:Past W,w''=y.w:=fun x=>zc5 x (HE.out _ (hW.trans (x.b.mono hW.size)));have CE:=Lh kE;have HWW:=Lh hW;clear hW hq2 kE z1
     repeat (go_big_quiet_step (with_reducible exact CE.out _))
     refine wpQuiet_nil ?_
     intro _ hw';obtain ⟨y,rfl⟩:=hw';go_wp2_with fail
     go_roundw
     case rel=>exact ⟨j2+1,by omega,by go_num,Lh (HWW.out.trans (y.b.mono HWW.out.size))⟩
     case measure=>simp [intOf]; omega
    ·have hlt2':¬ (j2:Int)<la:=by omega
     go_wp2_with fail
     go_roundw
     case rel=>exact ⟨j+1,by omega,by go_num,hq2⟩
     case measure=>simp [intOf]; omega
  ·have hlt':¬ (j:Int)<ll:=by omega
   go_wp2_with fail
   go_ret
   exact ⟨rfl,hq.out⟩
end Go.Proofs.YtfgelheiknmjgaaGreatDoor
