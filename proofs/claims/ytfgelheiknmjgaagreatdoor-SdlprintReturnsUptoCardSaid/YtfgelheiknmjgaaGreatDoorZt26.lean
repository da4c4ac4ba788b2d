
/-
 Texts joined: I7 Ta Tb Tc YPure YMem YMake YParts.
-/
import Derived.Test.YtfgelheiknmjgaaGreatDoorZt25
import Derived.ArgAppend
import Derived.DataElems
set_option maxRecDepth 1000000
set_option maxHeartbeats 8000000
namespace Go.Proofs.YtfgelheiknmjgaaGreatDoor
open Go.RowKit
def valP:ElT:=vF obV 24 1
def wvP:List Tk->Except Er (VT × List Tk):=whP valP
def argX:=argP wvP
def dirX:=dirP argX
def inpX:=inpP refP wvP dirX
def fldX:=fldP inpX refP dirX
def memX:=memP dirX
def defX (k:Nat):List Tk->Except Er (DefT × List Tk):=if k=1 then df1 fldX dirX else if k=2 then df2 fldX dirX else if k=3 then df3 dirX else if k=4 then df4 memX dirX else df5 inpX dirX
def sdlR (s:List UInt8):Except Er (List DefT):=sdlF defX s
theorem valP_lt:LtE valP:=vF_con (fun _ h=>obV_con h) 24 1
theorem wvP_lt:LtT wvP:=whP_con valP_lt
theorem argX_lt:LtT argX:=argP_con wvP_lt.le
theorem dirX_lt:LtT dirX:=dirP_con argX_lt.le
theorem inpX_lt:LtT inpX:=inpP_con refP_con.le wvP_lt.le dirX_lt.le
theorem fldX_lt:LtT fldX:=fldP_con inpX_lt.le refP_con.le dirX_lt.le
theorem memX_lt:LtT memX:=memP_con dirX_lt.le
theorem defX_lt (k:Nat):LtT (defX k):=by
 unfold defX
 split
 ·exact df1_con dirX_lt.le fldX_lt.le
 split
 ·exact df2_con dirX_lt.le fldX_lt.le
 split
 ·exact df3_con dirX_lt.le
 split
 ·exact df4_con dirX_lt.le memX_lt.le
 ·exact df5_con dirX_lt.le inpX_lt.le
variable {p:Nat} {W:World} {ts:List Tk} {m:Nat}
theorem pwv (h:PSt W p ts m):Calls Tryz.prog 164 #[pP p] W (WPost ValW W p (wvP ts)) :=
 zB0 p valP (fun W ts h=>zP9 p obV (fun lv el h24 hel=>zQ2 p lv el h24 hel) 24 1 (by omega) W ts 0 h (by omega)) W ts m h
theorem parg {q1 q2:Nat} (hq:∀ W',Tw p W.heap.size W W'->W'.cell? ⟨q1,0,none⟩=some (pP p)/\W'.cell? ⟨q2,0,none⟩=some (whV p)) (h:PSt W p ts m):Calls Tryz.prog 255 #[.pointer (some ⟨q1,0,none⟩),.pointer (some ⟨q2,0,none⟩)] W (WPost ArgV W p (argX ts)):=zH1 q1 q2 p wvP (fun _ _ _ h=>pwv h) W hq ts m h
theorem pargs (h:PSt W p ts m):Calls Tryz.prog 234 #[pP p,whV p] W (WPost ArgsC W p (argsP argX ts)):=zD2 p argX (fun _ _ _ _ _ hq h _=>parg hq h) (fun _ _ _ _ _ h=>argX_lt _ _ _ h) W ts m h
theorem pdir (h:PSt W p ts m):Calls Tryz.prog 202 #[pP p,whV p] W (WPost DirV W p (dirX ts)):=zD1 p argX (fun _ _ _ h=>pargs h) W ts m h
theorem pinp (h:PSt W p ts m):Calls Tryz.prog 121 #[pP p] W (WPost InpV W p (inpX ts)) :=
 ya0 p refP (fun W ts m h=>zr6 p W ts m h) wvP (fun _ _ _ h=>pwv h) dirX (fun _ _ _ h _=>pdir h) (fun _ _ _ _ _ h=>dirX_lt _ _ _ h) W ts m h
theorem pfld (h:PSt W p ts m):Calls Tryz.prog 116 #[pP p] W (WPost FldV W p (fldX ts)) :=
 ya1 p inpX (fun _ _ _ h _=>pinp h) (fun _ _ _ _ _ h=>inpX_lt _ _ _ h) refP (fun W ts m h=>zr6 p W ts m h) dirX (fun _ _ _ h _=>pdir h) (fun _ _ _ _ _ h=>dirX_lt _ _ _ h) W ts m h
theorem pmem (h:PSt W p ts m):Calls Tryz.prog 119 #[pP p] W (WPost MemV W p (memX ts)) :=
 zQ3 p dirX (fun _ _ _ h _=>pdir h) (fun _ _ _ _ _ h=>dirX_lt _ _ _ h) W ts m h
theorem kdR_nm (h:kdR (hd ts)≠0):isNm ts=true:=by
 unfold kdR at h
 split at h
 ·next e=>exact decide_eq_true e
 ·exact absurd rfl h
theorem kdX_le (x:ByteArray):kdX x<=5:=by
 unfold kdX
 repeat' split
 all_goals omega
theorem kdR_le (t:Tk):kdR t<=5:=by
 unfold kdR
 split
 ·exact kdX_le _
 ·omega
theorem pdef (k:Nat) (h:PSt W p ts m) (hk:kdR (hd ts)=k) (h0:k≠0):Calls Tryz.prog 55 #[pP p,.int .i64 k] W (WPost DefV W p (defX k ts)):=by
 have hn:isNm ts=true:=kdR_nm (by rw [hk]; exact h0);have h5:k<=5:=hk▸kdR_le _;have hc:k=1∨k=2∨k=3∨k=4∨k=5:=by omega
 rcases hc with rfl | rfl | rfl | rfl | rfl
 ·exact yi3 p fldX (fun _ _ _ h _=>pfld h) (fun _ _ _ _ _ h=>fldX_lt _ _ _ h) dirX (fun _ _ _ h _=>pdir h) (fun _ _ _ _ _ h=>dirX_lt _ _ _ h) W ts m hn h
 ·exact yi2 p fldX (fun _ _ _ h _=>pfld h) (fun _ _ _ _ _ h=>fldX_lt _ _ _ h) dirX (fun _ _ _ h _=>pdir h) (fun _ _ _ _ _ h=>dirX_lt _ _ _ h) W ts m hn h
 ·exact yi1 p dirX (fun _ _ _ h _=>pdir h) (fun _ _ _ _ _ h=>dirX_lt _ _ _ h) W ts m hn h
 ·exact yh9 p memX (fun _ _ _ h _=>pmem h) (fun _ _ _ _ _ h=>memX_lt _ _ _ h) dirX (fun _ _ _ h _=>pdir h) (fun _ _ _ _ _ h=>dirX_lt _ _ _ h) W ts m hn h
 ·exact yh8 p inpX (fun _ _ _ h _=>pinp h) (fun _ _ _ _ _ h=>inpX_lt _ _ _ h) dirX (fun _ _ _ h _=>pdir h) (fun _ _ _ _ _ h=>dirX_lt _ _ _ h) W ts m hn h
theorem zK2 (s:ByteArray) (w:World) (hL:K.LK w):Calls Tryz.prog 12 #[.string s] w (zD0 w (sdlR s.data.toList)) :=
 zX9 defX (fun _ k _ _ _ h hk h0=>pdef k h hk h0) (fun k ts x ts' h=>defX_lt k ts x ts' h) s w hL
end Go.Proofs.YtfgelheiknmjgaaGreatDoor
namespace Go.Proofs.YtfgelheiknmjgaaGreatDoor.K
open Go.RowKit
abbrev Lo:=Int × List UInt8
inductive Sc:List UInt8->List Lo->Prop
 | nil:Sc [] []
 | sep {c:UInt8} {l:List UInt8} {q:List Lo} (h:sepS false c=some false) (hs:Sc l q):Sc (c::l) q
 | sign {c:UInt8} {l:List UInt8} {q:List Lo} (h:c∈sgL) (hs:Sc l q):Sc (c::l) ((1,[c])::q)
 | word {k:Int} {t l:List UInt8} {q:List Lo} (h:GoodK k t) (hw:wdH l=false) (hs:Sc l q):Sc (wordK (k,t,0)++l) ((k,t)::q)
theorem ye7 {c:UInt8} (h:c∈sgL):sepS false c=none:=zw2 _ (.inl h)
theorem scF_sep {c:UInt8} (h:sepS false c=some false) (f b:Nat) (l:List UInt8):scF (f+1) b (c::l)=scF (f+1) (b+1) l:=by
 have e:sepN (c::l)=sepN l+1:=by unfold sepN; rw [spanL,h]
 rw [zy9,zy9,e,List.drop_succ_cons,show b+(sepN l+1)=b+1+sepN l by omega]
theorem scF_sign {c:UInt8} (h:c∈sgL) (f b:Nat) (l:List UInt8) {ts:List Tk} (hs:scF f (b+1) l=.ok ts):scF (f+1) b (c::l)=.ok ((1,[c],b)::ts):=by
 have e:sepN (c::l)=0:=by unfold sepN; rw [spanL,ye7 h]
 rw [zy9,e,List.drop_zero,if_neg (by simp),zT2 h];simp only [Nat.add_zero,List.drop_succ_cons,List.drop_zero]
 rw [hs]
theorem Sc.scan {l:List UInt8} {q:List Lo} (h:Sc l q):∀ f b:Nat,l.length<f->∃ ts,scF f b l=.ok ts/\ts.map (fun p=>(p.1,p.2.1))=q++[(5,[])]:=by
 induction h with
 | nil =>
   intro f b hf
   cases f with
   | zero=>exact absurd hf (Nat.not_lt_zero _)
   | succ f=>exact ⟨[(5,[],b)],rfl,rfl⟩
 | sep h _ ih =>
   intro f b hf
   cases f with
   | zero=>exact absurd hf (Nat.not_lt_zero _)
   | succ f =>
     obtain ⟨ts,h1,h2⟩:=ih (f+1) (b+1) (by simp at hf; omega);exact ⟨ts,(scF_sep h f b _).trans h1,h2⟩
 | sign h _ ih =>
   intro f b hf
   cases f with
   | zero=>exact absurd hf (Nat.not_lt_zero _)
   | succ f =>
     obtain ⟨ts,h1,h2⟩:=ih f (b+1) (by simp at hf; omega);exact ⟨_,scF_sign h f b _ h1,by rw [List.map_cons,h2]; rfl⟩
 | @word k t l q h hw _ ih =>
   intro f b hf
   cases f with
   | zero=>exact absurd hf (Nat.not_lt_zero _)
   | succ f =>
     obtain ⟨c,u,hc,_⟩:=zJ2 0 h;have hp:1<=(wordK (k,t,0)).length:=by rw [hc]; simp
     rw [List.length_append] at hf;obtain ⟨ts,h1,h2⟩:=ih f (b+0+(wordK (k,t,0)).length) (by omega);exact ⟨_,scan_one h [] (.inl rfl) l hw f b ts h1,by rw [List.map_cons,h2]; rfl⟩
theorem Sc.scR {l:List UInt8} {q:List Lo} (h:Sc l q) (hl:l.length<=65536):∃ ts,scR l=.ok ts/\ts.map (fun p=>(p.1,p.2.1))=q++[(5,[])]:=by
 obtain ⟨ts,h1,h2⟩:=h.scan (l.length+1) 0 (Nat.lt_succ_self _);exact ⟨ts,by unfold K.scR; rw [if_neg (by omega)]; exact h1,h2⟩
def Sp (a:List UInt8) (q:List Lo):Prop:=∀ (l:List UInt8) (r:List Lo),wdH l=false->Sc l r->Sc (a++l) (q++r)
theorem Sp.all {a:List UInt8} {q:List Lo} (h:Sp a q):Sc a q:=by
 have:=h [] [] zS9 .nil
 rwa [List.append_nil,List.append_nil] at this
theorem Sp.nil:Sp [] []:=fun _ _ _ h=>h
theorem Sp.name {t:List UInt8} (h:T1.nameL t=true):Sp t [(2,t)]:=fun _ _ hw hs=>Sc.word (.name h) hw hs
theorem Sp.int {t:List UInt8} (h:(T1.numL t).2=0):Sp t [(3,t)]:=fun _ _ hw hs=>Sc.word (.int h) hw hs
theorem Sp.text (t:List UInt8):Sp (T1.zj4 t) [(4,t)]:=fun _ _ hw hs=>Sc.word (.text t) hw hs
theorem Sp.sep {c:UInt8} {a:List UInt8} {q:List Lo} (hc:sepS false c=some false) (h:Sp a q):Sp (c::a) q:=fun l r hw hs=>.sep hc (h l r hw hs)
theorem Sp.sign {c:UInt8} {a:List UInt8} {q:List Lo} (hc:c∈sgL) (h:Sp a q):Sp (c::a) ((1,[c])::q):=fun l r hw hs=>.sign hc (h l r hw hs)
def Hw (a:List UInt8):Prop:=∀ l,wdH l=false->wdH (a++l)=false
theorem Hw.nil:Hw []:=fun _ h=>h
theorem Hw.cons {c:UInt8} {a:List UInt8} (h:wdB c=false):Hw (c::a):=fun _ _=>h
theorem Hw.app {a b:List UInt8} (h:Hw a) (k:Hw b):Hw (a++b):=fun l hl=>by rw [List.append_assoc]; exact h _ (k l hl)
theorem Sp.app {a b:List UInt8} {q r:List Lo} (h:Sp a q) (hb:Hw b) (k:Sp b r):Sp (a++b) (q++r):=fun l t hw hs=>by
 rw [List.append_assoc,List.append_assoc];exact h _ _ (hb l hw) (k l t hw hs)
end Go.Proofs.YtfgelheiknmjgaaGreatDoor.K
namespace Go.Proofs.YtfgelheiknmjgaaGreatDoor
open Go.RowKit
abbrev Lo:=K.Lo
def lo (ts:List Tk):List Lo:=ts.map fun t=>(t.1,t.2.1)
theorem ze8 {us:List Tk} {k:Int} {s:List UInt8} {r:List Lo} (h:lo us=(k,s)::r):(hd us).1=k/\(hd us).2.1=s/\lo us.tail=r/\us≠[]:=by
 cases us with
 | nil=>cases h
 | cons t us =>
   unfold lo at h;rw [List.map_cons,List.cons.injEq,Prod.mk.injEq] at h;exact ⟨h.1.1,h.1.2,h.2,by simp⟩
theorem zm2 (us:List Tk):(lo us).length=us.length:=List.length_map _
def loSg (s:List UInt8) (l:List Lo):Bool:=decide ((l.headD (0,[])).1=1)&&decide ((l.headD (0,[])).2=s)
theorem sg_lo (s:List UInt8) (us:List Tk):isSg s us=loSg s (lo us):=by cases us <;> rfl
theorem nm_lo (us:List Tk):isNm us=decide (((lo us).headD (0,[])).1=2):=by cases us <;> rfl
theorem rd_sg {us:List Tk} {s:List UInt8} {r:List Lo} (h:lo us=(1,s)::r):sgR s us=.ok us.tail/\lo us.tail=r:=by
 obtain ⟨h1,h2,h3,_⟩:=ze8 h;unfold sgR isSg;rw [h1,h2];exact ⟨by simp,h3⟩
theorem zx2 {us:List Tk} {s:List UInt8} {r:List Lo} (h:lo us=(1,s)::r):isSg s us=true:=by rw [sg_lo,h]; simp [loSg]
theorem rd_nm {us:List Tk} {s:List UInt8} {r:List Lo} (h:lo us=(2,s)::r):nmR us=.ok (⟨s.toArray⟩,us.tail)/\lo us.tail=r/\isNm us=true:=by
 obtain ⟨h1,h2,h3,_⟩:=ze8 h;have hn:isNm us=true:=by unfold isNm; rw [h1]; rfl
 unfold nmR;rw [hn,h2];exact ⟨rfl,h3,rfl⟩
theorem ba_eq (s:ByteArray):(⟨s.data.toList.toArray⟩ : ByteArray)=s:=by simp
def nullK:List UInt8:=[110,117,108,108]
def boolK (n:Int):List UInt8:=if n=0 then [102,97,108,115,101] else [116,114,117,101]
mutual
def VT.tok:VT->List Lo
 | .mk k n s items keys =>
   if k=0 then [(2,nullK)] else if k=1 then [(2,boolK n)] else if k=2 then [(3,Lib.itoa n)] else if k=3 then [(4,s.data.toList)] else if k=4 then [(2,s.data.toList)]
   else if k=5 then (1,[91])::((VT.toks items).flatten++[(1,[93])]) else if k=6 then (1,[123])::((List.zipWith (fun a b=>(2,a.data.toList)::(1,[58])::b) keys (VT.toks items)).flatten++[(1,[125])])
   else []
def VT.toks:List VT->List (List Lo)
 | []=>[]
 | t::r=>t.tok::VT.toks r
end
mutual
def VT.num:VT->Prop
 | .mk _ n _ items _=>(-9223372036854775808<=n/\n<=9223372036854775807)/\VT.nums items
def VT.nums:List VT->Prop
 | []=>True
 | t::r=>t.num/\VT.nums r
end
theorem yj4:∀ {l:List VT} {i:Nat} {t:VT},VT.nums l->l[i]?=some t->t.num
 | [],i,t,_,h=>by simp at h
 | x::r,0,t,hf,h=>by simp at h; subst h; rw [VT.nums] at hf; exact hf.1
 | x::r,i+1,t,hf,h=>by rw [VT.nums] at hf; exact yj4 hf.2 (by simpa using h)
theorem yj3:∀ {l:List VT},(∀ t∈l,t.num)->VT.nums l
 | [],_=>trivial
 | x::r,h=>⟨h x (by simp),yj3 fun t ht=>h t (by simp [ht])⟩
def VT.cst (t:VT):Bool:=zc0 true t&&zc0 false t
theorem zW1 {k n:Int} {s:ByteArray} {items:List VT} {keys:List ByteArray} (h:(VT.mk k n s items keys).cst=true):∀ t∈items,t.cst=true:=by
 unfold VT.cst at h;rw [Bool.and_eq_true,zc0,zc0,Bool.and_eq_true,Bool.and_eq_true] at h;have hw:∀ (b:Bool) (l:List VT),zj8 b l=true->∀ t∈l,zc0 b t=true:=by
  intro b l
  induction l with
  | nil=>intro _ t ht; simp at ht
  | cons x r ih =>
    intro hl t ht;rw [zj8,Bool.and_eq_true] at hl;rcases List.mem_cons.1 ht with rfl | ht
    ·exact hl.1
    ·exact ih hl.2 t ht
 intro t ht;unfold VT.cst;rw [hw _ _ h.1.2 t ht,hw _ _ h.2.2 t ht]; rfl
inductive CstV:VT->Prop
 | null:CstV (.mk 0 0 ⟨#[]⟩ [] [])
 | bool {n:Int} (h:n=0∨n=1):CstV (.mk 1 n ⟨#[]⟩ [] [])
 | int {n:Int}:CstV (.mk 2 n ⟨#[]⟩ [] [])
 | text {s:ByteArray}:CstV (.mk 3 0 s [] [])
 | enum {s:ByteArray} (h:enumB s=true):CstV (.mk 4 0 s [] [])
 | list {l:List VT}:CstV (.mk 5 0 ⟨#[]⟩ l [])
 | object {l:List VT} {ks:List ByteArray} (hl:ks.length=l.length) (hk:ks.all nmA=true) (hn:ks.Nodup):CstV (.mk 6 0 ⟨#[]⟩ l ks)
theorem size0 {s:ByteArray} (h:s.size=0):s=⟨#[]⟩:=by
 obtain ⟨d⟩:=s;have:d=#[]:=Array.eq_empty_of_size_eq_zero h;rw [this]
theorem leaf0 {l:List VT} {ks:List ByteArray} (h:leafB l ks=true):l=[]/\ks=[]:=by
 unfold leafB at h;simp only [Bool.and_eq_true,decide_eq_true_eq] at h;exact ⟨List.length_eq_zero_iff.1 h.1,List.length_eq_zero_iff.1 h.2⟩
theorem cst_v (t:VT) (h:t.cst=true):CstV t:=by
 obtain ⟨k,n,s,l,ks⟩:=t;unfold VT.cst at h;rw [Bool.and_eq_true,zc0,zc0,Bool.and_eq_true,Bool.and_eq_true] at h;obtain ⟨⟨h1,_⟩,h2,_⟩:=h;simp only [nodeB] at h1 h2;by_cases e0:k=0
 ·rw [if_pos e0] at h1
  simp only [Bool.and_eq_true,decide_eq_true_eq] at h1
  obtain ⟨rfl,rfl⟩:=leaf0 h1.2;rw [e0,h1.1.1,size0 h1.1.2]; exact .null
 rw [if_neg e0] at h1 h2;by_cases e1:k=1
 ·rw [if_pos e1] at h1
  simp only [Bool.and_eq_true,Bool.or_eq_true,decide_eq_true_eq] at h1
  obtain ⟨rfl,rfl⟩:=leaf0 h1.2;rw [e1,size0 h1.1.2]; exact .bool h1.1.1
 rw [if_neg e1] at h1 h2;by_cases e2:k=2
 ·rw [if_pos e2] at h1
  simp only [Bool.and_eq_true,decide_eq_true_eq] at h1
  obtain ⟨rfl,rfl⟩:=leaf0 h1.2;rw [e2,size0 h1.1]; exact .int
 rw [if_neg e2] at h1 h2;by_cases e3:k=3
 ·rw [if_pos e3] at h1
  simp only [Bool.and_eq_true,decide_eq_true_eq] at h1
  obtain ⟨rfl,rfl⟩:=leaf0 h1.2;rw [e3,h1.1]; exact .text
 rw [if_neg e3] at h1 h2;by_cases e4:k=4
 ·rw [if_pos e4] at h1
  simp only [Bool.and_eq_true,decide_eq_true_eq] at h1
  obtain ⟨rfl,rfl⟩:=leaf0 h1.2;rw [e4,h1.1.1]; exact .enum h1.1.2
 rw [if_neg e4] at h1 h2;by_cases e5:k=5
 ·rw [if_pos e5] at h1
  simp only [Bool.and_eq_true,decide_eq_true_eq] at h1
  rw [e5,h1.1.1,size0 h1.1.2,List.length_eq_zero_iff.1 h1.2]; exact .list
 rw [if_neg e5] at h1 h2;by_cases e6:k=6
 ·rw [if_pos e6] at h1
  unfold keysB at h1;simp only [Bool.and_eq_true,decide_eq_true_eq,Bool.not_true,Bool.false_or] at h1;rw [e6,h1.1.1.1,size0 h1.1.1.2]; exact .object h1.1.2 h1.2.1 h1.2.2
 rw [if_neg e6] at h2
 split at h2
 ·simp at h2
 ·cases h2
theorem tok_k {k n:Int} {s:ByteArray} {l:List VT} {ks:List ByteArray}:(VT.mk k n s l ks).tok=if k=0 then [(2,nullK)] else if k=1 then [(2,boolK n)] else if k=2 then [(3,Lib.itoa n)] else if k=3 then [(4,s.data.toList)] else if k=4 then [(2,s.data.toList)]
  else if k=5 then (1,[91])::((VT.toks l).flatten++[(1,[93])]) else if k=6 then (1,[123])::((List.zipWith (fun a b=>(2,a.data.toList)::(1,[58])::b) ks (VT.toks l)).flatten++[(1,[125])])
  else []:=by rw [VT.tok]
theorem zG1 (t:VT) (h:t.cst=true):∃ k s r,t.tok=(k,s)::r/\(k=2∨k=3∨k=4∨(k=1/\(s=[91]∨s=[123]))):=by
 cases cst_v t h with
 | null=>exact ⟨_,_,_,tok_k,.inl rfl⟩
 | bool=>exact ⟨_,_,_,tok_k,.inl rfl⟩
 | int=>exact ⟨_,_,_,tok_k,.inr (.inl rfl)⟩
 | text=>exact ⟨_,_,_,tok_k,.inr (.inr (.inl rfl))⟩
 | enum=>exact ⟨_,_,_,tok_k,.inl rfl⟩
 | list=>exact ⟨_,_,_,tok_k,.inr (.inr (.inr ⟨rfl,.inl rfl⟩))⟩
 | object=>exact ⟨_,_,_,tok_k,.inr (.inr (.inr ⟨rfl,.inr rfl⟩))⟩
theorem tok_no {t:VT} (h:t.cst=true) {us:List Tk} {q:List Lo} (hu:lo us=t.tok++q) (s:List UInt8) (h1:s≠[91]) (h2:s≠[123]):isSg s us=false:=by
 obtain ⟨k,u,r,e,hk⟩:=zG1 t h;rw [sg_lo,hu,e];unfold loSg;rcases hk with rfl | rfl | rfl | ⟨rfl,rfl | rfl⟩
 ·rfl
 ·rfl
 ·rfl
 ·simp [Ne.symm h1]
 ·simp [Ne.symm h2]
theorem bvT_ok {t:VT} (h:t.cst=true) {us:List Tk} {q:List Lo} (hu:lo us=t.tok++q) {lv n:Nat} (hl:lv<=24) (hn:n+1<=4096):bvR lv us n=.ok ():=by
 obtain ⟨k,u,r,e,hk⟩:=zG1 t h;have hv:isVal us=true:=by
  have h1:=(ze8 (hu.trans (by rw [e,List.cons_append])));unfold isVal isSg;rw [h1.1,h1.2.1];rcases hk with rfl | rfl | rfl | ⟨rfl,rfl | rfl⟩ <;> simp
 unfold bvR;rw [hv,if_neg (by simp),if_neg (by omega),if_neg (by omega)]
def RdE (el:ElT) (t:VT):Prop:=∀ (us:List Tk) (n:Nat) (r:List Lo),lo us=t.tok++r->n+t.size<=4096->∃ us',el us n=.ok (t,us',n+t.size)/\lo us'=r
theorem tok_pos {t:VT} (h:t.cst=true):1<=t.tok.length:=by
 obtain ⟨k,u,r,e,_⟩:=zG1 t h;rw [e]; simp
theorem ls_rd {el:ElT}:∀ (items l:List VT) (us:List Tk) (n f:Nat) (r:List Lo),(∀ t∈items,RdE el t/\t.cst=true)->lo us=(VT.toks items).flatten++((1,[93])::r)->us.length<f->n+VT.sizes items<=4096 ->
  ∃ us',lsP el f l us n=.ok (l++items,us',n+VT.sizes items)/\lo us'=r
 | _,_,_,_,0,_,_,_,h,_=>absurd h (Nat.not_lt_zero _)
 | [],l,us,n,f+1,r,_,hu,_,_=>by
   refine ⟨us.tail, ?_,(rd_sg hu).2⟩
   rw [zv2,if_pos (zx2 hu),List.append_nil]; rfl
 | x::items,l,us,n,f+1,r,hx,hu,hf,hn=>by
   have hx0:=hx x List.mem_cons_self;have hu2:lo us=x.tok++((VT.toks items).flatten++((1,[93])::r)):=by rw [hu,VT.toks,List.flatten_cons,List.append_assoc]
   rw [VT.sizes] at hn;obtain ⟨us1,h1,h2⟩:=hx0.1 us n _ hu2 (by omega);have hlen:us1.length<us.length:=by
    rw [<- zm2 us, <- zm2 us1,hu2,h2];simp only [List.length_append];have:=tok_pos hx0.2;omega
   obtain ⟨us',h3,h4⟩:=ls_rd items (l++[x]) us1 (n+x.size) f r (fun t ht=>hx t (List.mem_cons_of_mem _ ht)) h2 (by omega) (by omega);refine ⟨us', ?_,h4⟩
   rw [zv2,if_neg (by rw [tok_no hx0.2 hu2 _ (by decide) (by decide)]; simp),za2 h1];simp only
   rw [h3,VT.sizes,List.append_assoc,Nat.add_assoc]; rfl
theorem ob_rd {el:ElT}:∀ (items:List VT) (keys ks:List ByteArray) (l:List VT) (us:List Tk) (n f:Nat) (r:List Lo),keys.length=items.length->(∀ t∈items,RdE el t/\t.cst=true)->(ks++keys).Nodup ->
  lo us=(List.zipWith (fun a b=>(2,a.data.toList)::(1,[58])::b) keys (VT.toks items)).flatten++((1,[125])::r)->us.length<f->n+VT.sizes items<=4096->∃ us',obP el f ks l us n=.ok (ks++keys,l++items,us',n+VT.sizes items)/\lo us'=r
 | _,_,_,_,_,_,0,_,_,_,_,_,h,_=>absurd h (Nat.not_lt_zero _)
 | [],[],ks,l,us,n,f+1,r,_,_,_,hu,_,_=>by
   refine ⟨us.tail, ?_,(rd_sg hu).2⟩
   rw [zu9,if_pos (zx2 hu),List.append_nil,List.append_nil]; rfl
 | [],k::keys,_,_,_,_,_+1,_,hl,_,_,_,_,_=>by simp at hl
 | _::_,[],_,_,_,_,_+1,_,hl,_,_,_,_,_=>by simp at hl
 | x::items,k::keys,ks,l,us,n,f+1,r,hl,hx,hd,hu,hf,hn=>by
   have hx0:=hx x List.mem_cons_self;have hu2:lo us=(2,k.data.toList)::(1,[58])::(x.tok++((List.zipWith (fun a b=>(2,a.data.toList)::(1,[58])::b) keys (VT.toks items)).flatten++((1,[125])::r))):=by
    rw [hu,VT.toks,List.zipWith_cons_cons,List.flatten_cons]; simp
   rw [VT.sizes] at hn;have g1:=rd_nm hu2;have g2:=rd_sg g1.2.1;rw [ba_eq] at g1;have hne:k ∉ ks:=by
    intro hk;have:=(List.nodup_append.1 hd).2.2 k hk k List.mem_cons_self;exact this rfl
   have g0:keyP ks us=.ok (k,us.tail):=by unfold keyP; rw [za2 g1.1]; simp only; rw [if_neg hne]
   obtain ⟨us1,h1,h2⟩:=hx0.1 us.tail.tail n _ g2.2 (by omega);have hlen:us1.length<us.length:=by
    rw [<- zm2 us, <- zm2 us1,hu2,h2];simp only [List.length_cons,List.length_append];omega
   obtain ⟨us',h3,h4⟩:=ob_rd items keys (ks++[k]) (l++[x]) us1 (n+x.size) f r (by simpa using hl) (fun t ht=>hx t (List.mem_cons_of_mem _ ht)) (by rw [List.append_assoc]; exact hd) h2 (by omega) (by omega);refine ⟨us', ?_,h4⟩
   have hs:isSg [125] us=false:=by rw [sg_lo,hu2]; rfl
   rw [zu9,if_neg (by rw [hs]; simp),za2 g0];simp only
   rw [za2 g2.1,za2 h1];simp only;rw [h3,VT.sizes,List.append_assoc,List.append_assoc,Nat.add_assoc]; rfl
theorem zV9:∀ {l:List VT} {t:VT},t∈l->t.depth<=VT.depths l
 | x::r,t,h=>by
   rw [VT.depths];rcases List.mem_cons.1 h with rfl | h
   ·omega
   ·have:=zV9 h; omega
theorem num_at {l:List VT} {t:VT} (h:VT.nums l) (ht:t∈l):t.num:=by
 obtain ⟨i,hi,e⟩:=List.getElem_of_mem ht;exact yj4 h (by rw [List.getElem?_eq_getElem hi,e])
theorem va_mk {lv n:Nat} {L O:ElT} {us:List Tk} (h:bvR lv us n=.ok ()):vaP lv L O us n=if (hd us).1=2 then .ok (nmV ⟨(hd us).2.1.toArray⟩,us.tail,n+1) else if (hd us).1=3 then .ok (nuV ⟨(hd us).2.1.toArray⟩,us.tail,n+1) else if (hd us).1=4 then .ok (.mk 3 0 ⟨(hd us).2.1.toArray⟩ [] [],us.tail,n+1) else if (hd us).2.1=[91] then L us.tail (n+1) else O us.tail (n+1):=by
 unfold vaP; rw [za2 h]
theorem nmV_enum {s:ByteArray} (h:enumB s=true):nmV s=.mk 4 0 s [] []:=by
 unfold enumB at h;simp only [Bool.and_eq_true,Bool.not_eq_true',decide_eq_false_iff_not] at h;unfold nmV;rw [if_neg h.1.1.1,if_neg h.1.1.2,if_neg h.1.2]
theorem val_rd (t:VT):∀ f lv:Nat,t.cst=true->t.num->t.depth<=f->lv+f<=25->RdE (vF obV f lv) t:=by
 refine VT.ind (P:=fun t=>∀ f lv:Nat,t.cst=true->t.num->t.depth<=f->lv+f<=25->RdE (vF obV f lv) t) (fun k n s l ks ih=>?_) t
 intro f lv hc hnum hd hlv us m r hu hm
 cases f with
 | zero=>rw [VT.depth] at hd; omega
 | succ f =>
   have hv:=cst_v _ hc;have hsz:=hm;rw [VT.size] at hsz;have hb:=bvT_ok hc hu (lv:=lv) (n:=m) (by omega) (by omega);have hit:=zW1 hc;rw [VT.num] at hnum;rw [VT.depth] at hd;show ∃ us',vaP lv (lsV (vF obV f (lv+1))) (obV (vF obV f (lv+1))) us m=_/\_;rw [va_mk hb];have hall:∀ t∈l,RdE (vF obV f (lv+1)) t/\t.cst=true:=fun t ht=>by
    obtain ⟨i,hi,e⟩:=List.getElem_of_mem ht;refine ⟨ih i t (by rw [List.getElem?_eq_getElem hi,e]) f (lv+1) (hit t ht) (num_at hnum.2 ht) ?_ (by omega),hit t ht⟩;have:=zV9 ht; omega
   cases hv with
   | null =>
     obtain ⟨h1,h2,h3,_⟩:=ze8 (hu.trans (by rw [tok_k]; rfl));rw [h1,h2];exact ⟨us.tail,rfl,h3⟩
   | bool hn =>
     obtain ⟨h1,h2,h3,_⟩:=ze8 (hu.trans (by rw [tok_k]; rfl));rw [h1,h2];rcases hn with rfl | rfl <;> exact ⟨us.tail,rfl,h3⟩
   | int =>
     obtain ⟨h1,h2,h3,_⟩:=ze8 (hu.trans (by rw [tok_k]; rfl));rw [h1,h2];refine ⟨us.tail, ?_,h3⟩;rw [if_neg (by decide),if_pos rfl];unfold nuV;simp only;rw [T1.zU4 n hnum.1.1 hnum.1.2]
     rfl
   | text =>
     obtain ⟨h1,h2,h3,_⟩:=ze8 (hu.trans (by rw [tok_k]; rfl));rw [h1,h2,ba_eq];exact ⟨us.tail,rfl,h3⟩
   | enum he =>
     obtain ⟨h1,h2,h3,_⟩:=ze8 (hu.trans (by rw [tok_k]; rfl));rw [h1,h2,ba_eq,if_pos rfl,nmV_enum he];exact ⟨us.tail,rfl,h3⟩
   | list =>
     have hu2:lo us=(1,[91])::((VT.toks l).flatten++((1,[93])::r)):=by rw [hu,tok_k]; simp
     obtain ⟨h1,h2,h3,_⟩:=ze8 hu2;rw [h1,h2,if_neg (by decide),if_neg (by decide),if_neg (by decide),if_pos rfl];obtain ⟨us',h4,h5⟩:=ls_rd l [] us.tail (m+1) (us.tail.length+1) r hall h3 (Nat.lt_succ_self _) (by omega);refine ⟨us', ?_,h5⟩
     unfold lsV;rw [za2 h4,VT.size];simp [Nat.add_assoc]
   | object hl hk hn =>
     have hu2:lo us=(1,[123])::((List.zipWith (fun a b=>(2,a.data.toList)::(1,[58])::b) ks (VT.toks l)).flatten++((1,[125])::r)):=by rw [hu,tok_k]; simp
     obtain ⟨h1,h2,h3,_⟩:=ze8 hu2;rw [h1,h2,if_neg (by decide),if_neg (by decide),if_neg (by decide),if_neg (by decide)];obtain ⟨us',h4,h5⟩:=ob_rd l ks [] [] us.tail (m+1) (us.tail.length+1) r hl hall hn h3 (Nat.lt_succ_self _) (by omega);refine ⟨us', ?_,h5⟩
     show exB (obP (vF obV f (lv+1)) (us.tail.length+1) [] [] us.tail (m+1)) _=_
     rw [za2 h4,VT.size];simp [Nat.add_assoc]
end Go.Proofs.YtfgelheiknmjgaaGreatDoor
namespace Go.Proofs.YtfgelheiknmjgaaGreatDoor.K
abbrev Ws:=List Int
def strL (ws:Ws):Ws:=ws.filter (fun w=>decide (w≠1))
def lvL:Bool->Ws->List Bool
 | b,[]=>[b]
 | b,w::r=>if w=1 then lvL true r else b::lvL false r
def bitL (b:Bool):Ws:=if b=true then [1] else []
def mrL (r:List Bool):Ws:=r.flatMap fun c=>2::bitL c
def wlL:List Bool->Ws
 | []=>[]
 | b::r=>bitL b++mrL r
def rtF:Bool->Ws->Bool
 | _,[]=>true
 | p,w::r=>(w==2||(w==1&&!p))&&rtF (w==1) r
def lv (ws:Ws):List Bool:=lvL false ws
theorem zH5:∀ (ws:Ws) (b:Bool),(lvL b ws).length=(strL ws).length+1
 | [],b=>rfl
 | w::r,b=>by
   by_cases h:w=1
   ·rw [show lvL b (w::r)=lvL true r by simp [lvL,h],show strL (w::r)=strL r by simp [strL,h]]; exact zH5 r true
   ·rw [show lvL b (w::r)=b::lvL false r by simp [lvL,h],show strL (w::r)=w::strL r by simp [strL,h],List.length_cons,List.length_cons,zH5 r false]
theorem lv_len (ws:Ws):(lv ws).length=(strL ws).length+1:=zH5 ws false
theorem str_app (a b:Ws):strL (a++b)=strL a++strL b:=List.filter_append _ _
theorem mr_lv:∀ (ws:Ws),(rtF false ws=true->wlL (lvL false ws)=ws)/\(rtF true ws=true->wlL (lvL true ws)=1::ws)
 | []=>⟨fun _=>rfl,fun _=>rfl⟩
 | w::r=>by
   have ih:=mr_lv r;have hm:∀ b,rtF false r=true->wlL (b::lvL false r)=bitL b++2::r:=fun b h=>by
    have:=ih.1 h;generalize hx:lvL false r=x at this
    cases x with
    | nil=>have:=zH5 r false; rw [hx] at this; simp at this
    | cons c x=>show bitL b++(2::bitL c++mrL x)=_; rw [<- this]; rfl
   refine ⟨fun h=>?_,fun h=>?_⟩
   ·unfold rtF at h
    by_cases h1:w=1
    ·subst h1; simp at h; unfold lvL; simpa using ih.2 h
    ·simp [h1] at h; obtain ⟨rfl,h⟩:=h; unfold lvL; simp; exact hm false h
   ·unfold rtF at h
    simp at h
    obtain ⟨rfl,h⟩:=h;unfold lvL; simp; exact hm true h
theorem wl_lv {ws:Ws} (h:rtF false ws=true):wlL (lv ws)=ws:=(mr_lv ws).1 h
def endB (w:Int):UInt8:=if w=1 then 33 else 93
def prL (n:List UInt8) (ws:Ws):List UInt8:=List.replicate (strL ws).length 91++n++ws.reverse.map endB
abbrev K2:=Int × List UInt8
def sgB (c:UInt8) (ts:List K2):Bool:=match ts with | []=>false | p::_=>decide (p.1=1/\p.2=[c])
def cntO:List K2->Nat
 | []=>0
 | p::r=>if p.1=1/\p.2=[91] then cntO r+1 else 0
def bangR (ws:Ws) (ts:List K2):Ws × List K2:=if sgB 33 ts=true then (ws++[1],ts.tail) else (ws,ts)
def clsR:Nat->Ws->List K2->Option (Ws × List K2)
 | 0,ws,ts=>some (ws,ts)
 | k+1,ws,ts=>if sgB 93 ts=true then clsR k (bangR (ws++[2]) ts.tail).1 (bangR (ws++[2]) ts.tail).2 else none
def nmO (ts:List K2):Option (List UInt8):=match ts with | []=>none | p::_=>if p.1=2 then some p.2 else none
def refP (ts:List K2):Option (List UInt8 × Ws × List K2) :=
 match nmO (ts.drop (cntO ts)) with
 | none=>none
 | some n=>match clsR (cntO ts) (bangR [] (ts.drop (cntO ts)).tail).1 (bangR [] (ts.drop (cntO ts)).tail).2 with
   | none=>none
   | some (ws,r)=>some (n,ws.reverse,r)
end Go.Proofs.YtfgelheiknmjgaaGreatDoor.K
namespace Go.Proofs.YtfgelheiknmjgaaGreatDoor.K
open Go.RowKit
def IntsAt (w:World) (B:Nat) (A:Option Addr) (xs:Ws):Prop:=0<xs.length->∃ a,A=some a/\a.block<B/\∀ (i:Nat) (x:Int),xs[i]?=some x->w.cell? (a.add i)=some (.int .i64 x)
theorem IntsAt.kept {w w':World} {B:Nat} {A:Option Addr} {xs:Ws} (h:IntsAt w B A xs) (hb:Below B w w'):IntsAt w' B A xs:=fun h0=>by
 obtain ⟨a,e,ha,hc⟩:=h h0;exact ⟨a,e,ha,fun i x hx=>(World.cell?_of_block (w:=w) (hb.block _ (by rw [za1]; exact ha))).trans (hc i x hx)⟩
theorem IntsAt.mono {w:World} {B B':Nat} {A:Option Addr} {xs:Ws} (h:IntsAt w B A xs) (hB:B<=B'):IntsAt w B' A xs:=fun h0=>by
 obtain ⟨a,e,ha,hc⟩:=h h0;exact ⟨a,e,Nat.lt_of_lt_of_le ha hB,hc⟩
theorem IntsAt.stay {w w':World} {A:Option Addr} {xs:Ws} (h:IntsAt w w.heap.size A xs) (hb:Below w.heap.size w w'):IntsAt w' w'.heap.size A xs:=(h.kept hb).mono hb.size
theorem IntsAt.nil (w:World) (B:Nat) (A:Option Addr):IntsAt w B A []:=fun h=>absurd h (Nat.lt_irrefl _)
def subA (A:Option Addr) (k c:Nat):Option Addr:=A.map fun a=>if c=k then a else a.add k
def SlV (w:World) (B:Nat) (v:Value) (xs:Ws):Prop:=∃ A c,v=.slice A xs.length c/\xs.length<=c/\IntsAt w B A xs
def RefV (w:World) (B:Nat) (v:Value) (n:ByteArray) (xs:Ws):Prop:=∃ A c,v=.agg #[.string n,.slice A xs.length c]/\xs.length<=c/\IntsAt w B A xs
theorem RefV.kept {w w':World} {B:Nat} {v:Value} {n:ByteArray} {xs:Ws} (h:RefV w B v n xs) (hb:Below B w w'):RefV w' B v n xs:=by
 obtain ⟨A,c,e,hc,h⟩:=h; exact ⟨A,c,e,hc,h.kept hb⟩
theorem RefV.mono {w:World} {B B':Nat} {v:Value} {n:ByteArray} {xs:Ws} (h:RefV w B v n xs) (hB:B<=B'):RefV w B' v n xs:=by
 obtain ⟨A,c,e,hc,h⟩:=h; exact ⟨A,c,e,hc,h.mono hB⟩
def SlPost (xs:Ws) (w:World) (e:Ending) (w':World):Prop:=(∃ u,e=.returned u/\SlV w' w'.heap.size u xs)/\Below w.heap.size w w'
def BxR (W:World) (b:Nat) (c0 c1:Value):Prop:=W.heap[b]?=some (.cells #[c0,c1] 44 (0,0))
theorem BxR.cells {W:World} {b:Nat} {c0 c1:Value} (h:BxR W b c0 c1):W.cell? ⟨b,0,none⟩=some c0/\W.cell? ⟨b,1,none⟩=some c1:=by
 refine ⟨?_, ?_⟩ <;> rw [cell_of_row _ _ _ _ _ _ h] <;> rfl
theorem BxR.lt {W:World} {b:Nat} {c0 c1:Value} (h:BxR W b c0 c1):b<W.heap.size:=by
 unfold BxR at h;rcases Nat.lt_or_ge b W.heap.size with h' | h'
 ·exact h'
 ·rw [Array.getElem?_eq_none h'] at h; cases h
theorem BxR.kept {W W':World} {b:Nat} {c0 c1:Value} (h:BxR W b c0 c1) (hb:W'.heap[b]?=W.heap[b]?):BxR W' b c0 c1:=hb.trans h
theorem BxR.stay {W W':World} {b:Nat} {c0 c1:Value} (h:BxR W b c0 c1) (hb:Below W.heap.size W W'):BxR W' b c0 c1:=h.kept (hb.block b h.lt)
theorem BxR.new (W:World) (c0 c1:Value):BxR (W.alloc (.cells #[c0,c1] 44 (0,0))) W.heap.size c0 c1:=heap_alloc_new _ _
theorem BxR.alloc {W:World} {b:Nat} {c0 c1:Value} (h:BxR W b c0 c1) (o:Obj):BxR (W.alloc o) b c0 c1:=h.stay ((Below.refl _ _).alloc (Nat.le_refl _) _)
theorem BxR.both (w:World) (c0 c1 d0 d1:Value):let W:=(w.alloc (.cells #[c0,c1] 44 (0,0))).alloc (.cells #[d0,d1] 44 (0,0))
  BxR W w.heap.size c0 c1/\BxR W (w.heap.size+1) d0 d1/\Below w.heap.size w W/\W.heap.size=w.heap.size+2:=by
 refine ⟨(BxR.new _ _ _).alloc _, ?_,((Below.refl _ _).alloc (Nat.le_refl _) _).alloc (by simp) _,by simp⟩
 have:=BxR.new (w.alloc (.cells #[c0,c1] 44 (0,0))) d0 d1;simpa using this
theorem infoI:(Tryz.prog.info? 3).map (fun i=>(i.zero,i.size,i.bytes))=some (some (.int .i64 0),1,8):=by kernel_rfl
theorem infoIp:∃ i,Tryz.prog.info? 3 = some i/\i.zero=some (.int .i64 0)/\i.size=1/\i.bytes=8:=by
 have h:=infoI
 cases hi : Tryz.prog.info? 3 with
 | none=>rw [hi] at h; simp at h
 | some i=>rw [hi] at h; simp at h; exact ⟨i,rfl,h.1,h.2.1,h.2.2⟩
def inC (xs:Ws):List Value:=xs.map (Value.int .i64)
def OwnI (w:World) (base:Nat) (v:Value) (xs:Ws):Prop:=w.ownsRow base 3 1 v xs.length (inC xs)
theorem row_kept {w w':World} {base:Nat} {e:TypeId} {size:Nat} {v:Value} {n:Nat} {xs:List Value} (h:w.ownsRow base e size v n xs) (hb:∀ g,base<=g->g<w.heap.size->v.ownBlock=some g->w'.heap[g]?=w.heap[g]?):w'.ownsRow base e size v n xs:=by
 refine ⟨h.1,h.2.imp id ?_⟩
 rintro ⟨g,cap,cur,rfl,e2,e3,r⟩;have hg:g<w.heap.size:=by
  rcases Nat.lt_or_ge g w.heap.size with h' | h'
  ·exact h'
  ·rw [Array.getElem?_eq_none h'] at e3; cases e3
 exact ⟨g,cap,cur,rfl,e2,(hb g e2 hg rfl).trans e3,r⟩
theorem OwnI.stay {w w':World} {base:Nat} {v:Value} {xs:Ws} (h:OwnI w base v xs) (hb:Below w.heap.size w w'):OwnI w' base v xs:=row_kept h fun g _ hg _=>hb.block g hg
theorem OwnI.nil (w:World) (base:Nat):OwnI w base (.slice none 0 0) []:=⟨rfl,.inl ⟨rfl,rfl⟩⟩
theorem OwnI.lt {w:World} {base:Nat} {v:Value} {xs:Ws} (h:OwnI w base v xs):∀ k,v.ownBlock=some k->base<=k/\k<w.heap.size:=World.ownsRow.lt h
theorem OwnI.sl {w:World} {base:Nat} {v:Value} {xs:Ws} (h:OwnI w base v xs):SlV w w.heap.size v xs:=by
 have hh:w.ownsRow base 3 1 v xs.length (inC xs):=h;rcases hh.2 with ⟨rfl,hz⟩ | ⟨g,cap,cur,rfl,h1,h2,h3⟩
 ·have:xs=[]:=List.eq_nil_of_length_eq_zero hz
  subst this;exact ⟨none,0,rfl,Nat.le_refl _,IntsAt.nil _ _ _⟩
 ·have hlt:=(World.ownsRow.lt hh g rfl).2
  refine ⟨some ⟨g,0,none⟩,cap,rfl,h3.1,fun _=>⟨_,rfl,hlt,fun i x hx=>?_⟩⟩
  exact hh.cells (g:=g) rfl i (.int .i64 x) (by unfold inC; simp [hx])
theorem inC_app (a b:Ws):inC (a++b)=inC a++inC b:=List.map_append
def Full (v:Value):Prop:=v=.slice none 0 0∨∃ g n,v=.slice (some ⟨g,0,none⟩) n n
section
variable {ops:Array Oper} {Q:Exit->Act->World->Prop} {o:Oper} {a:Act} {w:World} {R:Value->World->Prop}
def RefB (w:World) (b:Nat) (n:ByteArray) (xs:Ws):Prop:=∃ A c,BxR w b (.string n) (.slice A xs.length c)/\xs.length<=c/\IntsAt w w.heap.size A xs
theorem zt6 (n m:ByteArray):(n.toList==m.toList)=decide (n=m):=by
 rw [Lib.toList_data,Lib.toList_data];by_cases h:n=m
 ·subst h; simp
 ·have:¬ n.data=m.data:=fun e=>h (by cases n; cases m; simp at e; rw [e])
  simp [h,this]
end
end Go.Proofs.YtfgelheiknmjgaaGreatDoor.K
namespace Go.Proofs.YtfgelheiknmjgaaGreatDoor.K
open Go.RowKit
def zo1 (b:Bool) (w:World) (e:Ending) (w':World):Prop:=e=.returned (.bool b)/\Below w.heap.size w w'
def OptPost (n:ByteArray) (o:Option Ws) (w:World) (e:Ending) (w':World):Prop :=
 (∃ u,e=.returned (.tuple #[u,.bool o.isSome])/\match o with | some xs=>RefV w' w'.heap.size u n xs | none=>u=.agg #[.string ⟨#[]⟩,.slice none 0 0])/\Below w.heap.size w w'
end Go.Proofs.YtfgelheiknmjgaaGreatDoor.K

