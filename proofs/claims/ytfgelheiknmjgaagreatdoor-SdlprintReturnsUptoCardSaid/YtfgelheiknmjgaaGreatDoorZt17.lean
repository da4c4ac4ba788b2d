
/-
 Texts joined: H1 G4 H8 H9 H3.
-/
import Derived.Test.YtfgelheiknmjgaaGreatDoorZt16
set_option maxRecDepth 1000000
set_option maxHeartbeats 8000000
namespace Go.Proofs.YtfgelheiknmjgaaGreatDoor
open Go.RowKit
def RdC:RelS VT:=fun w S f t=>RdS w S (.agg #[f 0,f 1,f 2,f 3,f 4]) t
theorem RdC.stays:StayS RdC:=⟨fun h hb hs=>RdS.kept h hb hs⟩
theorem RdC.cong {k:Nat} (hk:5<=k) (W:World) (S:Nat->Prop) (g g':Nat->Value) (y:VT) (h:∀ j,j<k->g j=g' j) (hr:RdC W S g y):RdC W S g' y:=by
 have hh:∀ j,j<5->g j=g' j:=fun j hj=>h j (by omega);unfold RdC at *;rw [<- hh 0 (by omega), <- hh 1 (by omega), <- hh 2 (by omega), <- hh 3 (by omega), <- hh 4 (by omega)];exact hr
theorem RdS.ofList {w:World} {S:Nat->Prop} {k n:Int} {s:ByteArray} {v:Value} {l:List VT} (hk:small k) (hn:small n) (hs:s.size<=140737488351232) (h:SlS 5 80 RdC w S v l):RdS w S (.agg #[.int .i64 k,.int .i64 n,.string s,v,.slice none 0 0]) (.mk k n s l []):=by
 obtain ⟨A,c,rfl,hc,hb,V,hA,hr⟩:=h;refine .mk (fun i=>.agg #[V i 0,V i 1,V i 2,V i 3,V i 4]) hk hn hs (by simp) rfl rfl hb (by omega) (fun h0=>?_) hr (fun h=>by simp at h);obtain ⟨a,e,ha,hx⟩:=hA h0;exact ⟨a,e,ha,fun i hi=>⟨_,_,_,_,_,rfl,hx i hi 0 (by omega),hx i hi 1 (by omega),hx i hi 2 (by omega),hx i hi 3 (by omega),hx i hi 4 (by omega)⟩⟩
def lsP (el:List Tk->Nat->Except Er (VT × List Tk × Nat)):Nat->List VT->List Tk->Nat->Except Er (List VT × List Tk × Nat)
 | 0,_,_,_=>.error (0,99)
 | f+1,l,ts,n=>if isSg [93] ts=true then .ok (l,ts.tail,n) else exB (el ts n) fun q=>lsP el f (l++[q.1]) q.2.1 q.2.2
theorem zv2 (el:List Tk->Nat->Except Er (VT × List Tk × Nat)) (f:Nat) (l:List VT) (ts:List Tk) (n:Nat):lsP el (f+1) l ts n=if isSg [93] ts=true then .ok (l,ts.tail,n) else exB (el ts n) fun q=>lsP el f (l++[q.1]) q.2.1 q.2.2:=rfl
def ListPost (w:World) (p n len:Nat) (r:Except Er (List VT × List Tk × Nat)) (e:Ending) (w':World):Prop :=
 (∃ l ts m v,r=.ok (l,ts,m)/\e=.returned v/\RdS w' (fun b=>w.heap.size<=b/\b<w'.heap.size) v (.mk 5 0 ⟨#[]⟩ l [])/\PSt w' p ts m/\Tw p w.heap.size w w'/\n<=m/\m<=4096/\ts.length<len)∨(∃ x,r=.error x/\e=badV x/\Tw p w.heap.size w w')
theorem zV0:(Tryz.prog.info? 53).map (fun i=>(i.zero,i.size,i.bytes))=some (some (.agg #[.int .i64 0,.int .i64 0,.string ⟨#[]⟩,.slice none 0 0,.slice none 0 0]),5,80):=by kernel_rfl
theorem yd2 (A:Option Addr) (l c:Nat) (w:World):Calls Tryz.prog 274 #[.slice A l c] w fun e w'=>e=.returned (.agg #[.int .i64 5,.int .i64 0,.string ⟨#[]⟩,.slice A l c,.slice none 0 0])/\Below w.heap.size w w':=by
 go_enter Tryz.func274, Tryz.ntmps274
 go_wp2_with fail
 exact bodyPost_ret (v:=.agg #[.int .i64 5,.int .i64 0,.string ⟨#[]⟩,.slice A l c,.slice none 0 0]) (by simp [results,Tryz.results274,go_sem]) rfl ⟨rfl,za0 _ _⟩
theorem yh6 (p lv:Nat) (el:List Tk->Nat->Except Er (VT × List Tk × Nat)) (hel:∀ (W:World) (ts:List Tk) (m:Nat),PSt W p ts m->m<=4096->Calls Tryz.prog 235 #[pP p,.int .i64 ((lv:Int)+1)] W (zh0 W p m ts.length (el ts m))) (hlv:lv<=24)
  (w:World) (ts:List Tk) (n:Nat) (h:PSt w p ts n) (hn:n<=4096) :
  Calls Tryz.prog 260 #[pP p,.int .i64 lv] w (ListPost w p n ts.length (lsP el (ts.length+1) [] ts n)):=by
 have hpw:=h.lt;have hpl:=h.good.len;have HP1:Hid (PSt (w.alloc (.cells #[.int .i64 0,.int .i64 0,.string ⟨#[]⟩,.slice none 0 0,.slice none 0 0] 53 (0,0))) p ts n):=Lh (h.stay (za0 _ _));have HR0:Hid (Bk (w.alloc (.cells #[.int .i64 0,.int .i64 0,.string ⟨#[]⟩,.slice none 0 0,.slice none 0 0] 53 (0,0))) w.heap.size #[.int .i64 0,.int .i64 0,.string ⟨#[]⟩,.slice none 0 0,.slice none 0 0] 53):=Lh (Bk.new _ _ _);have HT0:Hid (Tw p w.heap.size w (w.alloc (.cells #[.int .i64 0,.int .i64 0,.string ⟨#[]⟩,.slice none 0 0,.slice none 0 0] 53 (0,0)))):=Lh (.of (za0 _ _));have hsz0:w.heap.size<(w.alloc (.cells #[.int .i64 0,.int .i64 0,.string ⟨#[]⟩,.slice none 0 0,.slice none 0 0] 53 (0,0))).heap.size:=by simp
 have hlvb:(lv:Int)<=24:=by omega
 have HEL:=Lh hel;obtain ⟨R,hR⟩ : ∃ R,R=lsP el (ts.length+1) [] ts n:=⟨_,rfl⟩;rw [<- hR];have HV2:=Lh hR;clear h hel hR
 go_enter Tryz.func260, Tryz.ntmps260
 go_wp2_with fail
 generalize hW0:(w.alloc (.cells #[.int .i64 0,.int .i64 0,.string ⟨#[]⟩,.slice none 0 0,.slice none 0 0] 53 (0,0)))=W0 at *;clear hW0
 go_loopw [5] (fun u wr=>∃ (l:List VT) (tr:List Tk) (cells:List Value) (f m:Nat),l.length+n<=m/\m<=4096/\tr.length<=ts.length/\Hid (R=lsP el f l tr m/\tr.length<f/\Els 53 5 RdC wr W0.heap.size u cells l/\PSt wr p tr m/\Tw p w.heap.size w wr/\Bk wr w.heap.size #[.int .i64 0,.int .i64 0,.string ⟨#[]⟩,.slice none 0 0,.slice none 0 0] 53 /\ W0.heap.size<=wr.heap.size)) (fun _ wr=>tlen p wr)
 case atStart=>exact ⟨[],ts,[],_,n,by simp,hn,Nat.le_refl _,Lh ⟨HV2.out,Nat.lt_succ_self _,Els.nil _ _ _ _ _,HP1.out,HT0.out,HR0.out,Nat.le_refl _⟩⟩
 case round =>
  obtain ⟨l,tr,cells,f,m,hlm,hm4,htl,hr⟩:=hrel;obtain ⟨AL,c,hu⟩:=hr.out.2.2.1.slice;subst hu;obtain ⟨f',hf'⟩ : ∃ f',f=f'+1:=⟨f-1,by have:=hr.out.2.1; omega⟩;subst hf';obtain ⟨ll,hll⟩ : ∃ ll,ll=l.length:=⟨_,rfl⟩;have HLL:=Lh hll;have hlb:(ll:Int)<=4096:=by omega
  have hws:W0.heap.size<=wr.heap.size:=hr.out.2.2.2.2.2.2;rw [<- hll]
  cases hsg:isSg [93] tr with
  | true =>
    have HD:Hid (R=.ok (l,tr.tail,m)):=Lh (hr.out.1.trans (by rw [zv2,if_pos hsg]));have HC:=Lh (zb2 hr.out.2.2.2.1 ⟨#[93]⟩ _ hsg);have hlt:tr.tail.length<tr.length:=by
     obtain ⟨t,r2,e⟩:=hr.out.2.2.2.1.good.ne;rw [e]; simp
    clear hsg hll;go_wp2_with fail;refine HC.out.mono ?_
    rintro e w2 ⟨rfl,hp2,ht2⟩;have HP2:Hid (PSt w2 p tr.tail m):=Lh hp2;have hT2:=hr.out.2.2.2.2.1.step hr.out.2.2.2.2.1.size ht2;have hE2:=hr.out.2.2.1.tw RdC.stays (by omega) ht2;have hR2:=hr.out.2.2.2.2.2.1.far ht2 (by omega);have HRD:=Lh (hE2.read (bytes:=80) RdC.stays (by have:=HLL.out; unfold big; omega));have hs2:=ht2.size;clear hp2 ht2 hE2;go_wp2_with fail;refine (yd2 AL ll c w2).mono ?_
    rintro e w3 ⟨rfl,hb⟩;have hR3:=hR2.stay hb;have HR3:=Lh hR3;have HP3:=Lh (HP2.out.stay hb);have HT3:=Lh (hT2.step hT2.size (.of hb));have hs3:=hb.size;have HRD3:=Lh (SlS.kept RdC.stays (w':=w3) (S':=fun b=>W0.heap.size<=b/\b<w3.heap.size) HRD.out (fun b hb2=>hb.block b hb2.2) (fun b hb2=>⟨hb2.1,Nat.lt_of_lt_of_le hb2.2 hb.size⟩));obtain ⟨z0,z1,z2,z3,z4⟩:=hR3.c5;have g0:=hR3.frz 0;have g1:=hR3.frz 1;have g2:=hR3.frz 2;have g3:=hR3.frz 3;have g4:=hR3.frz 4;clear hb hR3 hR2 hT2;go_wp2_with fail;have HZ:=Lh (((((HR3.out.setl (l:=[_,_,_,_,_]) 0 (.int .i64 5)).setl 1 (.int .i64 0)).setl 2 (.string ⟨#[]⟩)).setl 3 (.slice AL ll c)).setl 4 (.slice none 0 0));obtain ⟨y0,y1,y2,y3,y4⟩:=HZ.out.c5;refine bodyPost_ret (v:=.agg #[.int .i64 5,.int .i64 0,.string ⟨#[]⟩,.slice AL ll c,.slice none 0 0]) (by simp [results,Tryz.results260,go_sem,y0,y1,y2,y3,y4]) rfl (.inl ⟨l,_,m,_,HD.out,rfl, ?_, ?_, ?_,by omega,hm4,by omega⟩)
    ·rw [HLL.out]
     refine RdS.ofList (by unfold small; omega) (by unfold small; omega) (by decide) (SlS.kept RdC.stays HRD3.out (fun b hb=>?_) (fun b hb=>⟨by have:=hb.1; omega,by simp [World.setCell]; exact hb.2⟩))
     have hne:b≠w.heap.size:=by have:=hb.1; omega
     rw [Below.heap_setCell _ _ _ _ hne,Below.heap_setCell _ _ _ _ hne,Below.heap_setCell _ _ _ _ hne,Below.heap_setCell _ _ _ _ hne,Below.heap_setCell _ _ _ _ hne]
    ·exact HP3.out.same ((((((Below.refl (p+1) w3).setCell (p:=⟨w.heap.size,0,none⟩) (by show p+1<=w.heap.size; omega) _).setCell (p:=⟨w.heap.size,1,none⟩) (by show p+1<=w.heap.size; omega) _).setCell (p:=⟨w.heap.size,2,none⟩) (by show p+1<=w.heap.size; omega) _).setCell (p:=⟨w.heap.size,3,none⟩) (by show p+1<=w.heap.size; omega) _).setCell (p:=⟨w.heap.size,4,none⟩) (by show p+1<=w.heap.size; omega) _)
    ·exact ((((HT3.out.setNew (Nat.le_refl _) 0 _).setNew (Nat.le_refl _) 1 _).setNew (Nat.le_refl _) 2 _).setNew (Nat.le_refl _) 3 _).setNew (Nat.le_refl _) 4 _
  | false =>
    have HD:Hid (R=exB (el tr m) fun q=>lsP el f' (l++[q.1]) q.2.1 q.2.2):=Lh (hr.out.1.trans (by rw [zv2,if_neg (by rw [hsg]; decide)]));have HC:=Lh (zb2 hr.out.2.2.2.1 ⟨#[93]⟩ _ hsg);clear hsg hll;go_wp2_with fail;refine HC.out.mono ?_
    rintro e wc ⟨rfl,hp2,ht2⟩;have HPB2:Hid (PSt wc p tr m):=Lh hp2;have HTB2:=Lh ht2;clear hp2 ht2 HC;go_wp2_with fail;refine (HEL.out _ tr m HPB2.out hm4).mono ?_
    rintro e wd (⟨x,ts',m',v,hre,rfl,hx,hp,ht,hmm,hm42,hlt3⟩ | ⟨x,hre,rfl,ht⟩);rotate_left
    ·have HT3:=Lh (hr.out.2.2.2.2.1.step hr.out.2.2.2.2.1.size (HTB2.out.step HTB2.out.size ht))
     exact ⟨rfl,.inr ⟨x,HD.out.trans (za6 hre),rfl,HT3.out⟩⟩
    have HD3:Hid (R=lsP el f' (l++[x]) ts' m'):=Lh (HD.out.trans (za2 hre));obtain ⟨k,z,s,A,li,ci,KA,lk,ck,hv1⟩:=RdS.form hx;subst hv1;have HTD:=Lh (HTB2.out.step HTB2.out.size ht);have hE:=hr.out.2.2.1.tw RdC.stays (by omega) HTD.out;have hwc:W0.heap.size<=wc.heap.size:=Nat.le_trans hws HTB2.out.size;have hwd:wc.heap.size<=wd.heap.size:=ht.size;have hxS:RdC wd (fun b=>W0.heap.size<=b/\b<wd.heap.size/\(Value.slice AL l.length c).ownBlock≠some b) (fun j=>[Value.int .i64 k,.int .i64 z,.string s,.slice A li ci,.slice KA lk ck].getD j undef) x:=RdS.kept hx (fun _ _=>rfl) (fun b hb=>⟨by have:=hb.1; omega,hb.2,fun e=>by have h8:=(hr.out.2.2.1.own).lt b e; have h9:=HTB2.out.size; have:=hb.1; omega⟩);have HX:=Lh hxS;have HPD:=Lh hp;have HE:=Lh hE;have HRD:=Lh (hr.out.2.2.2.2.2.1.far HTD.out (by omega));have b0:Below wd.heap.size wd (wd.alloc (.cells #[.int .i64 k,.int .i64 z,.string s,.slice A li ci,.slice KA lk ck] 53 (0,0))):=za0 _ _;have HB0:=Lh b0;have HOWN:Hid ((wd.alloc (.cells #[.int .i64 k,.int .i64 z,.string s,.slice A li ci,.slice KA lk ck] 53 (0,0))).ownsRow W0.heap.size 53 5 (.slice AL ll c) ll cells):=Lh (by
     have h8:=ze9 hE.own (fun g hg=>b0.block g hg);rw [<- HLL.out] at h8; exact h8)
    have HNEWS:Hid (∀ (j:Nat) (u:Value),([.int .i64 k,.int .i64 z,.string s,.slice A li ci,.slice KA lk ck]:List Value)[j]?=some u->(wd.alloc (.cells #[.int .i64 k,.int .i64 z,.string s,.slice A li ci,.slice KA lk ck] 53 (0,0))).cell? ((⟨wd.heap.size,0,none⟩ : Addr).add j)=some u):=Lh (zf0 wd [.int .i64 k,.int .i64 z,.string s,.slice A li ci,.slice KA lk ck] 53);have HONE:Hid (∀ u∈([.int .i64 k,.int .i64 z,.string s,.slice A li ci,.slice KA lk ck]:List Value),u.oneCell'=true):=Lh (by intro u hu; simp only [List.mem_cons,List.not_mem_nil,or_false] at hu; rcases hu with rfl | rfl | rfl | rfl | rfl <;> rfl);have HSZ:Hid (W0.heap.size<=(wd.alloc (.cells #[.int .i64 k,.int .i64 z,.string s,.slice A li ci,.slice KA lk ck] 53 (0,0))).heap.size):=Lh (by rw [World.size_alloc]; omega);clear hre ht hx hp hE hxS b0;go_wp2_with (at_builtin; refine zb1 _ rfl _ _ 51 rfl W0.heap.size 53 _ 5 80 Tryz.underlying51 zV0 rfl (by decide) _ ll cells rfl HOWN.out ⟨wd.heap.size,0,none⟩ 1 1 (by decide) [.int .i64 k,.int .i64 z,.string s,.slice A li ci,.slice KA lk ck] rfl rfl HNEWS.out HONE.out (by unfold maxLen; omega) (by omega) HSZ.out ?_; intro v' w' hown' hg' hf');have hpush:=Els.push (x:=x) RdC.stays HE.out HB0.out (by omega) HX.out (news:=[.int .i64 k,.int .i64 z,.string s,.slice A li ci,.slice KA lk ck]) (fun j hj=>rfl) (RdC.cong (Nat.le_refl _)) (by rw [<- HLL.out]; exact hown') (by rw [<- HLL.out]; exact hg') (by rw [<- HLL.out]; exact hf');have HE2:=Lh hpush.1;have HT2:Hid (Tw p w.heap.size w w'):=Lh ((hr.out.2.2.2.2.1.trans (HTD.out.mono hr.out.2.2.2.2.1.size)).trans (.of (hpush.2.mono (by omega))));have HP2:=Lh (HPD.out.same (hpush.2.mono (by omega)));have HR2:Hid (Bk w' w.heap.size #[.int .i64 0,.int .i64 0,.string ⟨#[]⟩,.slice none 0 0,.slice none 0 0] 53):=Lh ((hpush.2.block _ (by omega)).trans HRD.out);have hs9:=hpush.2.size;clear hpush hown' hg' hf'
    go_roundw
    case rel=>exact ⟨l++[x],ts',_,f',m',by rw [List.length_append,List.length_singleton]; omega,hm42,by omega,Lh ⟨HD3.out,by have:=hr.out.2.1; omega,HE2.out,HP2.out,HT2.out,HR2.out,by omega⟩⟩
    case measure=>rw [HP2.out.tlen,hr.out.2.2.2.1.tlen]; exact hlt3
end Go.Proofs.YtfgelheiknmjgaaGreatDoor
namespace Go.Proofs.YtfgelheiknmjgaaGreatDoor.K
open Go.RowKit
theorem zz4 {P:Program} {ops:Array Oper} {Q:Exit->Act->World->Prop} (hm:P.follows .mixedOrders=true) {id:Nat} {a0:Act} {W0:World} (hl:lowB ops=true) (s:Nat) (hb:dstB ops a0.tmps.size s=true)
  (J:(Nat->Bool)->(Nat->Value)->World->Prop) (h0:∀ v,J (fun _=>false) v W0.drew)
  (hop:∀ i o,ops[i]?=some o->∀ (d:Nat->Bool) (a:Act) (w:World),Fr ops a0 a->J d (fun j=>vof ops a j) w->d i=false->(∀ e∈o.after,Region.binds .any e=true->d e.on=true) ->
    Runs P ops Q o a w fun u w'=>J (fun j=>if i=j then true else d j) (fun j=>if i=j/\i≠s then u else vof ops a j) w')
  (hend:∀ (d:Nat->Bool) (a:Act) (w:World),Fr ops a0 a->(∀ i,i<ops.size->d i=true)->J d (fun j=>vof ops a j) w->Q .normal a w) :
  (Code.region id ops true).wp P Q a0 W0:=by
 refine zm9 hm hl (fun L a w=>Fr ops a0 a/\J (fun j=>L.getD j false) (fun j=>vof ops a j) w) ?_ ?_ ?_
 ·have hz:(fun i=>(Array.replicate ops.size false).getD i false)=fun _=>false:=by
   funext i
   rw [Array.getD_eq_getD_getElem?,Array.getElem?_replicate]; split <;> rfl
  exact ⟨⟨rfl,rfl,fun _ _=>rfl⟩,by rw [hz]; exact h0 _⟩
 ·intro L a w i hs ⟨hf,hJ⟩ hi
  obtain ⟨h0,o,ho,hall⟩:=mem_ready.1 hi;have hil:i<ops.size:=(Array.getElem?_eq_some_iff.1 ho).1;have hLi:i<L.size:=by omega
  have hset:(fun j=>(L.setIfInBounds i true).getD j false)=fun j=>if i=j then true else L.getD j false:=by
   funext j
   by_cases e:i=j
   ·subst e; rw [if_pos rfl]; simp [Array.getD_eq_getD_getElem?,hLi]
   ·rw [if_neg e,Array.getD_eq_getD_getElem?,Array.getD_eq_getD_getElem?,Array.getElem?_setIfInBounds_ne e]
  have hi0:L.getD i false=false:=by
   rw [Array.getD_eq_getD_getElem?,Array.getElem?_eq_getElem hLi] at h0 ⊢; simpa using h0
  obtain ⟨hw,hr⟩:=hop i o ho (fun j=>L.getD j false) a w hf hJ hi0 (fun e he hbd=>hall e he hbd);unfold wpOp;rw [ho];simp only [hw,if_true];refine .inl (Oper.wp_mono (fun a' w' ⟨v,e,hv⟩=>?_) hr)
  subst e;refine ⟨hf.put ho v, ?_⟩;rw [hset];have hvv:(fun j=>vof ops (a.put o.dst v) j)=fun j=>if i=j/\i≠s then v else vof ops a j:=by
   funext j
   exact zP1 hb hf ho v
  rw [hvv];exact hv
 ·intro L a w hs hall ⟨hf,hJ⟩
  refine hend _ a w hf (fun i hi=>?_) hJ
  have:=hall i hi;rw [Array.getD_eq_getD_getElem?,Array.getElem?_eq_getElem (by omega)] at this ⊢; simpa using this
end Go.Proofs.YtfgelheiknmjgaaGreatDoor.K
namespace Go.Proofs.YtfgelheiknmjgaaGreatDoor
open Go.RowKit
structure AJ (W1:World) (pv:Nat->Option Value) (ia ib ic ie ix:Nat) (C G E:Value->World->Prop) (F:World->Prop) (d:Nat->Bool) (v:Nat->Value) (w:World):Prop where
 pure:∀ i u,pv i=some u->d i=true->v i=u
 oc:d ic=true->d ib=true
 oe:d ie=true->d ic=true/\d ia=true
 ox:d ix=true->d ie=true
 f0:d ib=false->w=W1
 fb:d ib=true->d ic=false->C (v ib) w
 fc:d ic=true->d ie=false->G (v ic) w
 fe:d ie=true->d ix=false->E (v ie) w
 fx:d ix=true->F w
structure AJi (pv:Nat->Option Value) (ia ib ic ie ix:Nat):Prop where
 bc:ib≠ic
 be:ib≠ie
 bx:ib≠ix
 ce:ic≠ie
 cx:ic≠ix
 ex:ie≠ix
 ab:ia≠ib
 ac:ia≠ic
 ae:ia≠ie
 ax:ia≠ix
 nb:pv ib=none
 nc:pv ic=none
 ne:pv ie=none
 nx:pv ix=none
variable {W1:World} {pv:Nat->Option Value} {ia ib ic ie ix:Nat} {C G E:Value->World->Prop} {F:World->Prop} {d:Nat->Bool} {v:Nat->Value} {w w':World}
theorem AJ.start (W:World) (v:Nat->Value):AJ W pv ia ib ic ie ix C G E F (fun _=>false) v W:=by
 constructor <;> intros <;> first | rfl | (exfalso; simp_all; done)
theorem up_d {i k:Nat} (h:i≠k):(if i=k then true else d k)=d k:=if_neg h
theorem up_v {i k:Nat} {u:Value} (h:i≠k):(if i=k/\i≠ix then u else v k)=v k:=if_neg (fun e=>h e.1)
theorem up_i {i:Nat} {u:Value} (h:i≠ix):(if i=i/\i≠ix then u else v i)=u:=if_pos ⟨rfl,h⟩
theorem AJ.pures (h:AJ W1 pv ia ib ic ie ix C G E F d v w) (i:Nat) (u:Value) (hb:i≠ib) (hc:i≠ic) (he:i≠ie) (hx:i≠ix) (hu:∀ x,pv i=some x->u=x):AJ W1 pv ia ib ic ie ix C G E F (fun j=>if i=j then true else d j) (fun j=>if i=j/\i≠ix then u else v j) w:=by
 constructor <;> try simp only [up_d (d:=d) (hb),up_d (d:=d) (hc),up_d (d:=d) (he),up_d (d:=d) (hx),up_v (v:=v) (u:=u) (ix:=ix) (hb),up_v (v:=v) (u:=u) (ix:=ix) (hc),up_v (v:=v) (u:=u) (ix:=ix) (he)]
 ·intro j x hj hd
  by_cases e:i=j
  ·subst e; rw [up_i hx]; exact hu x hj
  ·rw [up_d e] at hd; rw [up_v e]; exact h.pure j x hj hd
 ·exact h.oc
 ·intro hd
  refine ⟨(h.oe hd).1, ?_⟩
  by_cases e:i=ia
  ·rw [if_pos e]
  ·rw [if_neg e]; exact (h.oe hd).2
 ·exact h.ox
 ·exact h.f0
 ·exact h.fb
 ·exact h.fc
 ·exact h.fe
 ·exact h.fx
theorem AJ.stand (h:AJ W1 pv ia ib ic ie ix C G E F d v w) (i:Nat) (u:Value) (hn:pv i=none):∀ j x,pv j=some x->(if i=j then true else d j)=true->(if i=j/\i≠ix then u else v j)=x:=by
 intro j x hj hd;have e:i≠j:=fun e=>by rw [<- e,hn] at hj; cases hj
 rw [up_d e] at hd;rw [up_v e];exact h.pure j x hj hd
theorem AJ.mkC (D:Nat->Bool) (V:Nat->Value) (u:Value) (hp:∀ i x,pv i=some x->D i=true->V i=x) (b:D ib=true) (c:D ic=false) (e:D ie=false) (x:D ix=false) (hv:V ib=u) (hC:C u w):AJ W1 pv ia ib ic ie ix C G E F D V w :=
 ⟨hp,(fun hh=>by rw [c] at hh; cases hh),(fun hh=>by rw [e] at hh; cases hh),(fun hh=>by rw [x] at hh; cases hh),(fun hh=>by rw [b] at hh; cases hh),(fun _ _=>by rw [hv]; exact hC),(fun hh=>by rw [c] at hh; cases hh),(fun hh=>by rw [e] at hh; cases hh),(fun hh=>by rw [x] at hh; cases hh)⟩
theorem AJ.mkG (D:Nat->Bool) (V:Nat->Value) (u:Value) (hp:∀ i x,pv i=some x->D i=true->V i=x) (b:D ib=true) (c:D ic=true) (e:D ie=false) (x:D ix=false) (hv:V ic=u) (hG:G u w):AJ W1 pv ia ib ic ie ix C G E F D V w :=
 ⟨hp,fun _=>b,(fun hh=>by rw [e] at hh; cases hh),(fun hh=>by rw [x] at hh; cases hh),(fun hh=>by rw [b] at hh; cases hh),(fun _ hh=>by rw [c] at hh; cases hh),(fun _ _=>by rw [hv]; exact hG),(fun hh=>by rw [e] at hh; cases hh),(fun hh=>by rw [x] at hh; cases hh)⟩
theorem AJ.mkE (D:Nat->Bool) (V:Nat->Value) (u:Value) (hp:∀ i x,pv i=some x->D i=true->V i=x) (a:D ia=true) (b:D ib=true) (c:D ic=true) (e:D ie=true) (x:D ix=false) (hv:V ie=u) (hE:E u w):AJ W1 pv ia ib ic ie ix C G E F D V w :=
 ⟨hp,fun _=>b,fun _=>⟨c,a⟩,(fun hh=>by rw [x] at hh; cases hh),(fun hh=>by rw [b] at hh; cases hh),(fun _ hh=>by rw [c] at hh; cases hh),(fun _ hh=>by rw [e] at hh; cases hh),(fun _ _=>by rw [hv]; exact hE),(fun hh=>by rw [x] at hh; cases hh)⟩
theorem AJ.mkF (D:Nat->Bool) (V:Nat->Value) (hp:∀ i x,pv i=some x->D i=true->V i=x) (a:D ia=true) (b:D ib=true) (c:D ic=true) (e:D ie=true) (x:D ix=true) (hF:F w):AJ W1 pv ia ib ic ie ix C G E F D V w :=
 ⟨hp,fun _=>b,fun _=>⟨c,a⟩,fun _=>e,(fun hh=>by rw [b] at hh; cases hh),(fun _ hh=>by rw [c] at hh; cases hh),(fun _ hh=>by rw [e] at hh; cases hh),(fun _ hh=>by rw [x] at hh; cases hh),fun _=>hF⟩
theorem AJ.called (hi:AJi pv ia ib ic ie ix) (h:AJ W1 pv ia ib ic ie ix C G E F d v w) (u:Value) (hd:d ib=false) (hC:C u w'):AJ W1 pv ia ib ic ie ix C G E F (fun j=>if ib=j then true else d j) (fun j=>if ib=j/\ib≠ix then u else v j) w':=by
 have c0:d ic=false:=by cases e:d ic with | false=>rfl | true=>rw [h.oc e] at hd; cases hd
 have e0:d ie=false:=by cases e:d ie with | false=>rfl | true=>rw [(h.oe e).1] at c0; cases c0
 have x0:d ix=false:=by cases e:d ix with | false=>rfl | true=>rw [h.ox e] at e0; cases e0
 exact AJ.mkC _ _ u (h.stand ib u hi.nb) (if_pos rfl) ((up_d hi.bc).trans c0) ((up_d hi.be).trans e0) ((up_d hi.bx).trans x0) (up_i hi.bx) hC
theorem AJ.built (hi:AJi pv ia ib ic ie ix) (h:AJ W1 pv ia ib ic ie ix C G E F d v w) (u:Value) (hb:d ib=true) (hd:d ic=false) (hG:G u w'):AJ W1 pv ia ib ic ie ix C G E F (fun j=>if ic=j then true else d j) (fun j=>if ic=j/\ic≠ix then u else v j) w':=by
 have e0:d ie=false:=by cases e:d ie with | false=>rfl | true=>rw [(h.oe e).1] at hd; cases hd
 have x0:d ix=false:=by cases e:d ix with | false=>rfl | true=>rw [h.ox e] at e0; cases e0
 exact AJ.mkG _ _ u (h.stand ic u hi.nc) ((up_d hi.bc.symm).trans hb) (if_pos rfl) ((up_d hi.ce).trans e0) ((up_d hi.cx).trans x0) (up_i hi.cx) hG
theorem AJ.added (hi:AJi pv ia ib ic ie ix) (h:AJ W1 pv ia ib ic ie ix C G E F d v w) (u:Value) (hc:d ic=true) (ha:d ia=true) (hd:d ie=false) (hE:E u w'):AJ W1 pv ia ib ic ie ix C G E F (fun j=>if ie=j then true else d j) (fun j=>if ie=j/\ie≠ix then u else v j) w':=by
 have hb:=h.oc hc;have x0:d ix=false:=by cases e:d ix with | false=>rfl | true=>rw [h.ox e] at hd; cases hd
 exact AJ.mkE _ _ u (h.stand ie u hi.ne) ((up_d hi.ae.symm).trans ha) ((up_d hi.be.symm).trans hb) ((up_d hi.ce.symm).trans hc) (if_pos rfl) ((up_d hi.ex).trans x0) (up_i hi.ex) hE
theorem AJ.stored (hi:AJi pv ia ib ic ie ix) (h:AJ W1 pv ia ib ic ie ix C G E F d v w) (u:Value) (he:d ie=true) (hF:F w'):AJ W1 pv ia ib ic ie ix C G E F (fun j=>if ix=j then true else d j) (fun j=>if ix=j/\ix≠ix then u else v j) w':=by
 obtain ⟨hc,ha⟩:=h.oe he;have hb:=h.oc hc;exact AJ.mkF _ _ (h.stand ix u hi.nx) ((up_d hi.ax.symm).trans ha) ((up_d hi.bx.symm).trans hb) ((up_d hi.cx.symm).trans hc) ((up_d hi.ex.symm).trans he) (if_pos rfl) hF
end Go.Proofs.YtfgelheiknmjgaaGreatDoor
namespace Go.Proofs.YtfgelheiknmjgaaGreatDoor
open Go.RowKit
theorem zz7 {P:Program} {ops:Array Oper} {Q:Exit->Act->World->Prop} {o:Oper} {a:Act} {w:World} {R R':Value->World->Prop} (h:K.Runs P ops Q o a w R) (hr:∀ u w',R u w'->R' u w'):K.Runs P ops Q o a w R' :=
 ⟨h.1,Oper.wp_mono (fun _ _ ⟨v,e,hv⟩=>⟨v,e,hr _ _ hv⟩) h.2⟩
theorem zj1 {P:Program} {ops:Array Oper} {Q:Exit->Act->World->Prop} (hm:P.follows .mixedOrders=true) {id:Nat} {a0:Act} {W0:World} (hl:K.lowB ops=true)
  {pv:Nat->Option Value} {ia ib ic ie ix:Nat} {C G E:Value->World->Prop} {F:World->Prop} (hb:K.dstB ops a0.tmps.size ix=true) (hi:AJi pv ia ib ic ie ix)
  (hdc:∀ o,ops[ic]?=some o->∃ e∈o.after,Region.binds .any e=true/\e.on=ib)
  (hde:∀ o,ops[ie]?=some o->(∃ e∈o.after,Region.binds .any e=true/\e.on=ic)/\∃ e∈o.after,Region.binds .any e=true/\e.on=ia)
  (hdx:∀ o,ops[ix]?=some o->∃ e∈o.after,Region.binds .any e=true/\e.on=ie)
  (hpu:∀ i o,ops[i]?=some o->i≠ib->i≠ic->i≠ie->i≠ix->∀ (a:Act) (w:World),K.Fr ops a0 a->(∀ e∈o.after,Region.binds .any e=true->∀ x,pv e.on=some x->K.vof ops a e.on=x) ->
    (w=W0.drew∨(∃ u,C u w)∨(∃ u,G u w)∨(i≠ia/\((∃ u,E u w)∨F w)))->K.Runs P ops Q o a w fun u w'=>w'=w/\∀ x,pv i=some x->u=x)
  (hca:∀ o,ops[ib]?=some o->∀ (a:Act),K.Fr ops a0 a->(∀ e∈o.after,Region.binds .any e=true->∀ x,pv e.on=some x->K.vof ops a e.on=x)->K.Runs P ops Q o a W0.drew C)
  (hbu:∀ o,ops[ic]?=some o->∀ (a:Act) (w:World),K.Fr ops a0 a->C (K.vof ops a ib) w->K.Runs P ops Q o a w G)
  (hap:∀ o,ops[ie]?=some o->∀ (a:Act) (w:World),K.Fr ops a0 a->(∀ x,pv ia=some x->K.vof ops a ia=x)->G (K.vof ops a ic) w->K.Runs P ops Q o a w E)
  (hst:∀ o,ops[ix]?=some o->∀ (a:Act) (w:World),K.Fr ops a0 a->(∀ e∈o.after,Region.binds .any e=true->∀ x,pv e.on=some x->K.vof ops a e.on=x)->E (K.vof ops a ie) w->K.Runs P ops Q o a w fun _ w'=>F w')
  (hix:ix<ops.size)
  (hend:∀ (a:Act) (w:World),K.Fr ops a0 a->F w->Q .normal a w) :
  (Code.region id ops true).wp P Q a0 W0:=by
 refine K.zz4 hm hl ix hb (AJ W0.drew pv ia ib ic ie ix C G E F) (fun v=>AJ.start _ v) ?_ ?_
 ·intro i o ho d a w hf hJ hd hall
  have hpv:∀ e∈o.after,Region.binds .any e=true->∀ x,pv e.on=some x->K.vof ops a e.on=x:=fun e he hbd x hx=>hJ.pure _ _ hx (hall e he hbd);by_cases e1:i=ib
  ·subst e1
   have hw:=hJ.f0 hd;subst hw;exact zz7 (hca o ho a hf hpv) fun u w' hu=>hJ.called hi u hd hu
  by_cases e2:i=ic
  ·subst e2
   obtain ⟨e,he,hbd,hon⟩:=hdc o ho;have hb1:d ib=true:=hon▸hall e he hbd;exact zz7 (hbu o ho a w hf (hJ.fb hb1 hd)) fun u w' hu=>hJ.built hi u hb1 hd hu
  by_cases e3:i=ie
  ·subst e3
   obtain ⟨⟨e,he,hbd,hon⟩,⟨e',he',hbd',hon'⟩⟩:=hde o ho;have hc1:d ic=true:=hon▸hall e he hbd;have ha1:d ia=true:=hon'▸hall e' he' hbd';exact zz7 (hap o ho a w hf (fun x hx=>hJ.pure _ _ hx ha1) (hJ.fc hc1 hd)) fun u w' hu=>hJ.added hi u hc1 ha1 hd hu
  by_cases e4:i=ix
  ·subst e4
   obtain ⟨e,he,hbd,hon⟩:=hdx o ho;have he1:d ie=true:=hon▸hall e he hbd;exact zz7 (hst o ho a w hf hpv (hJ.fe he1 hd)) fun u w' hu=>hJ.stored hi u he1 hu
  refine zz7 (hpu i o ho e1 e2 e3 e4 a w hf hpv ?_) fun u w' hu=>?_
  ·cases hb1:d ib with
   | false=>exact .inl (hJ.f0 hb1)
   | true =>
     cases hc1:d ic with
     | false=>exact .inr (.inl ⟨_,hJ.fb hb1 hc1⟩)
     | true =>
       cases he1:d ie with
       | false=>exact .inr (.inr (.inl ⟨_,hJ.fc hc1 he1⟩))
       | true =>
         refine .inr (.inr (.inr ⟨fun e=>?_, ?_⟩))
         ·rw [e,(hJ.oe he1).2] at hd; cases hd
         ·cases hx1:d ix with
          | false=>exact .inl ⟨_,hJ.fe he1 hx1⟩
          | true=>exact .inr (hJ.fx hx1)
  ·obtain ⟨rfl,hu⟩:=hu
   exact hJ.pures i u e1 e2 e3 e4 hu
 ·exact fun d a w hf hall hJ=>hend a w hf (hJ.fx (hall ix hix))
def whP (el:List Tk->Nat->Except Er (VT × List Tk × Nat)) (ts:List Tk):Except Er (VT × List Tk):=exB (el ts 0) fun q=>.ok (q.1,q.2.1)
theorem PSt.unvar {w:World} {p:Nat} {ts:List Tk} {n:Nat} (h:PSt w p ts n):PSt (w.setCell ⟨p,2,none⟩ (.bool false)) p ts n:=by
 obtain ⟨A,c,hb,hc,ht⟩:=h.box;have hbel:Below p w (w.setCell ⟨p,2,none⟩ (.bool false)):=(Below.refl p w).setCell (p:=⟨p,2,none⟩) (Nat.le_refl _) _;exact ⟨⟨A,c,hb.set 2 (.bool false),hc,ht.kept hbel⟩,h.good,h.hn,fun w2 h2=>h.laid w2 (hbel.trans h2)⟩
theorem PSt.frz2 {w:World} {p:Nat} {ts:List Tk} {n:Nat} (h:PSt w p ts n):w.frozen? ⟨p,2,none⟩=false:=by
 obtain ⟨A,c,hb,_⟩:=h.box;exact hb.frz 2
theorem zZ6 (p:Nat) (el:List Tk->Nat->Except Er (VT × List Tk × Nat)) (hel:∀ (W:World) (ts:List Tk),PSt W p ts 0->Calls Tryz.prog 235 #[pP p,.int .i64 1] W (zh0 W p 0 ts.length (el ts 0)))
  (w:World) (ts:List Tk) (n:Nat) (h:PSt w p ts n):Calls Tryz.prog 203 #[pP p,.bool false] w (WPost ValW w p (whP el ts)):=by
 have hpw:=h.lt;have HD:Hid (whP el ts=exB (el ts 0) fun q=>.ok (q.1,q.2.1)):=Lh rfl;have HEL:=Lh hel;have e0:((w.setCell ⟨p,2,none⟩ (.bool false)).setCell ⟨p,3,none⟩ (.int .i64 0)).heap.size=w.heap.size:=by simp [World.setCell]
 have h0:=(h.unvar).count (m:=0) (by omega);have HP0:Hid (PSt (((w.setCell ⟨p,2,none⟩ (.bool false)).setCell ⟨p,3,none⟩ (.int .i64 0)).alloc (.cells #[.int .i64 0,.int .i64 0,.string ⟨#[]⟩,.slice none 0 0,.slice none 0 0] 53 (0,0))) p ts 0):=Lh (h0.stay (za0 _ _));have HR0:Hid (Bk (((w.setCell ⟨p,2,none⟩ (.bool false)).setCell ⟨p,3,none⟩ (.int .i64 0)).alloc (.cells #[.int .i64 0,.int .i64 0,.string ⟨#[]⟩,.slice none 0 0,.slice none 0 0] 53 (0,0))) w.heap.size #[.int .i64 0,.int .i64 0,.string ⟨#[]⟩,.slice none 0 0,.slice none 0 0] 53):=Lh (by have hb:=Bk.new ((w.setCell ⟨p,2,none⟩ (.bool false)).setCell ⟨p,3,none⟩ (.int .i64 0)) #[.int .i64 0,.int .i64 0,.string ⟨#[]⟩,.slice none 0 0,.slice none 0 0] 53; rw [e0] at hb; exact hb);have HT0:Hid (Tw p w.heap.size w (((w.setCell ⟨p,2,none⟩ (.bool false)).setCell ⟨p,3,none⟩ (.int .i64 0)).alloc (.cells #[.int .i64 0,.int .i64 0,.string ⟨#[]⟩,.slice none 0 0,.slice none 0 0] 53 (0,0)))):=Lh ((((Tw.refl p w.heap.size w).set 2 _).set 3 _).alloc (by omega) _);have hsz:w.heap.size<(((w.setCell ⟨p,2,none⟩ (.bool false)).setCell ⟨p,3,none⟩ (.int .i64 0)).alloc (.cells #[.int .i64 0,.int .i64 0,.string ⟨#[]⟩,.slice none 0 0,.slice none 0 0] 53 (0,0))).heap.size:=HR0.out.lt;obtain ⟨q2,f2⟩:=h.cells;have q3:=h.vars;have f3:=h.frz2;have hne:p≠w.heap.size:=by omega
 have hne2:w.heap.size≠p:=by omega
 generalize whP el ts=R at *;clear h h0 hel e0
 go_enter Tryz.func203, Tryz.ntmps203
 go_wp2_with fail
 refine (HEL.out _ ts HP0.out).mono ?_
 rintro e w1 (⟨t,ts',m,v,hr,rfl,hx,hp,ht,hmm,hm4,hlt⟩ | ⟨x,hr,rfl,ht⟩);rotate_left
 ·have HT1:=Lh (HT0.out.step HT0.out.size ht)
  exact ⟨rfl,.inr ⟨_,HD.out.trans (za6 hr),rfl,HT1.out⟩⟩
 obtain ⟨k,z,s,A,li,ci,KA,lk,ck,hv1⟩:=RdS.form hx;subst hv1;have HD1:=Lh (HD.out.trans (za2 hr));have hR1:=HR0.out.far ht (by omega);have HR1:=Lh hR1;have HT1:=Lh (HT0.out.step HT0.out.size ht);have HP1:=Lh hp;have HX:=Lh hx;have hs1:=ht.size;obtain ⟨z0,z1,z2,z3,z4⟩:=hR1.c5;have g0:=hR1.frz 0;have g1:=hR1.frz 1;have g2:=hR1.frz 2;have g3:=hR1.frz 3;have g4:=hR1.frz 4;clear hr hx hp ht hR1 q2 f2 q3 f3;go_wp2_with fail;have HZ:=Lh (((((HR1.out.setl (l:=[_,_,_,_,_]) 0 (.int .i64 k)).setl 1 (.int .i64 z)).setl 2 (.string s)).setl 3 (.slice A li ci)).setl 4 (.slice KA lk ck));obtain ⟨y0,y1,y2,y3,y4⟩:=HZ.out.c5;refine bodyPost_ret (v:=.agg #[.int .i64 k,.int .i64 z,.string s,.slice A li ci,.slice KA lk ck]) (by simp [results,Tryz.results203,go_sem,y0,y1,y2,y3,y4]) rfl (.inl ⟨t,ts',_,m,HD1.out,rfl, ?_, ?_, ?_⟩)
 ·refine RdS.kept HX.out (fun b hb=>?_) (fun b hb=>⟨by have:=hb.1; omega,by simp [World.setCell]; exact hb.2⟩)
  have hne:b≠w.heap.size:=by have:=hb.1; omega
  rw [Below.heap_setCell _ _ _ _ hne,Below.heap_setCell _ _ _ _ hne,Below.heap_setCell _ _ _ _ hne,Below.heap_setCell _ _ _ _ hne,Below.heap_setCell _ _ _ _ hne]
 ·exact HP1.out.same ((((((Below.refl (p+1) w1).setCell (p:=⟨w.heap.size,0,none⟩) (by show p+1<=w.heap.size; omega) _).setCell (p:=⟨w.heap.size,1,none⟩) (by show p+1<=w.heap.size; omega) _).setCell (p:=⟨w.heap.size,2,none⟩) (by show p+1<=w.heap.size; omega) _).setCell (p:=⟨w.heap.size,3,none⟩) (by show p+1<=w.heap.size; omega) _).setCell (p:=⟨w.heap.size,4,none⟩) (by show p+1<=w.heap.size; omega) _)
 ·exact ((((HT1.out.setNew (Nat.le_refl _) 0 _).setNew (Nat.le_refl _) 1 _).setNew (Nat.le_refl _) 2 _).setNew (Nat.le_refl _) 3 _).setNew (Nat.le_refl _) 4 _
theorem zB0 (p:Nat) (el:List Tk->Nat->Except Er (VT × List Tk × Nat)) (hel:∀ (W:World) (ts:List Tk),PSt W p ts 0->Calls Tryz.prog 235 #[pP p,.int .i64 1] W (zh0 W p 0 ts.length (el ts 0)))
  (w:World) (ts:List Tk) (n:Nat) (h:PSt w p ts n):Calls Tryz.prog 164 #[pP p] w (WPost ValW w p (whP el ts)):=by
 have hpw:=h.lt;have HEL:=Lh hel;have HP0:Hid (PSt (w.alloc (.cells #[.int .i64 0,.int .i64 0,.string ⟨#[]⟩,.slice none 0 0,.slice none 0 0] 53 (0,0))) p ts n):=Lh (h.stay (za0 _ _));have HR0:Hid (Bk (w.alloc (.cells #[.int .i64 0,.int .i64 0,.string ⟨#[]⟩,.slice none 0 0,.slice none 0 0] 53 (0,0))) w.heap.size #[.int .i64 0,.int .i64 0,.string ⟨#[]⟩,.slice none 0 0,.slice none 0 0] 53):=Lh (Bk.new _ _ _);have HT0:Hid (Tw p w.heap.size w (w.alloc (.cells #[.int .i64 0,.int .i64 0,.string ⟨#[]⟩,.slice none 0 0,.slice none 0 0] 53 (0,0)))):=Lh ((Tw.refl p w.heap.size w).alloc (by omega) _);have hsz:w.heap.size<(w.alloc (.cells #[.int .i64 0,.int .i64 0,.string ⟨#[]⟩,.slice none 0 0,.slice none 0 0] 53 (0,0))).heap.size:=HR0.out.lt;have hne:p≠w.heap.size:=by omega
 have hne2:w.heap.size≠p:=by omega
 clear h hel
 go_enter Tryz.func164, Tryz.ntmps164
 go_wp2_with fail
 refine (zZ6 p el HEL.out _ ts n HP0.out).mono ?_
 rintro e w1 (⟨t,ts',v,m,hr,rfl,hx,hp,ht⟩ | ⟨x,hr,rfl,ht⟩);rotate_left
 ·have HT1:=Lh (HT0.out.step HT0.out.size ht)
  exact ⟨rfl,.inr ⟨_,hr,rfl,HT1.out⟩⟩
 obtain ⟨k,z,s,A,li,ci,KA,lk,ck,hv1⟩:=RdS.form hx;subst hv1;have HD1:=Lh hr;have hR1:=HR0.out.far ht (by omega);have HR1:=Lh hR1;have HT1:=Lh (HT0.out.step HT0.out.size ht);have HP1:=Lh hp;have HX:=Lh hx;have hs1:=ht.size;obtain ⟨z0,z1,z2,z3,z4⟩:=hR1.c5;have g0:=hR1.frz 0;have g1:=hR1.frz 1;have g2:=hR1.frz 2;have g3:=hR1.frz 3;have g4:=hR1.frz 4;clear hr hx hp ht hR1;go_wp2_with fail;have HZ:=Lh (((((HR1.out.setl (l:=[_,_,_,_,_]) 0 (.int .i64 k)).setl 1 (.int .i64 z)).setl 2 (.string s)).setl 3 (.slice A li ci)).setl 4 (.slice KA lk ck));obtain ⟨y0,y1,y2,y3,y4⟩:=HZ.out.c5;refine bodyPost_ret (v:=.agg #[.int .i64 k,.int .i64 z,.string s,.slice A li ci,.slice KA lk ck]) (by simp [results,Tryz.results164,go_sem,y0,y1,y2,y3,y4]) rfl (.inl ⟨t,ts',_,m,HD1.out,rfl, ?_, ?_, ?_⟩)
 ·refine RdS.kept HX.out (fun b hb=>?_) (fun b hb=>⟨by have:=hb.1; omega,by simp [World.setCell]; exact hb.2⟩)
  have hne:b≠w.heap.size:=by have:=hb.1; omega
  rw [Below.heap_setCell _ _ _ _ hne,Below.heap_setCell _ _ _ _ hne,Below.heap_setCell _ _ _ _ hne,Below.heap_setCell _ _ _ _ hne,Below.heap_setCell _ _ _ _ hne]
 ·exact HP1.out.same ((((((Below.refl (p+1) w1).setCell (p:=⟨w.heap.size,0,none⟩) (by show p+1<=w.heap.size; omega) _).setCell (p:=⟨w.heap.size,1,none⟩) (by show p+1<=w.heap.size; omega) _).setCell (p:=⟨w.heap.size,2,none⟩) (by show p+1<=w.heap.size; omega) _).setCell (p:=⟨w.heap.size,3,none⟩) (by show p+1<=w.heap.size; omega) _).setCell (p:=⟨w.heap.size,4,none⟩) (by show p+1<=w.heap.size; omega) _)
 ·exact ((((HT1.out.setNew (Nat.le_refl _) 0 _).setNew (Nat.le_refl _) 1 _).setNew (Nat.le_refl _) 2 _).setNew (Nat.le_refl _) 3 _).setNew (Nat.le_refl _) 4 _
end Go.Proofs.YtfgelheiknmjgaaGreatDoor

