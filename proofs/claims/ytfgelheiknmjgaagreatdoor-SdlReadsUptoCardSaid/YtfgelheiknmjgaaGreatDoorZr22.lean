
/-
 Texts joined: I6 I7 Ta Tb Tc YPure.
-/
import Derived.Test.YtfgelheiknmjgaaGreatDoorZr21
import Derived.Test.YtfgelheiknmjgaaGreatDoorZr15
import Derived.Test.YtfgelheiknmjgaaGreatDoorZr5
import Derived.WalkKit
set_option maxRecDepth 1000000
set_option maxHeartbeats 8000000
namespace Go.Proofs.YtfgelheiknmjgaaGreatDoor
open Go.RowKit
theorem tokR_ok {l:List UInt8} {k:Int} {t:List UInt8} {n:Nat} (h:K.tokR l=.ok (k,t,n)):1<=k/\k<=4/\t.length<=l.length+3:=by
 unfold K.tokR at h;simp only at h
 split at h
 ·cases h; exact ⟨by omega,by omega,by rw [List.length_take]; omega⟩
 ·split at h
  ·cases h; exact ⟨by omega,by omega,by show 3<=_; omega⟩
  ·split at h
   ·split at h
    ·cases h; exact ⟨by omega,by omega,by rw [List.length_take]; omega⟩
    ·cases h
   ·split at h
    ·split at h
     ·cases h; exact ⟨by omega,by omega,by rw [List.length_take]; omega⟩
     ·cases h
    ·split at h
     ·split at h
      ·cases h
      ·split at h
       ·cases h
       ·next hu =>
        have:=K.zU0 hu;rw [List.length_take] at this;cases h; exact ⟨by omega,by omega,by omega⟩
     ·cases h
theorem zR0:∀ (f at':Nat) (l:List UInt8) (ts:List Tk),K.scF f at' l=.ok ts->at'+l.length<=70000->(∃ i t,ts=i++[t]/\t.1=5)/\(∀ t∈ts,TkOk t)/\ts.length<=l.length+1
 | 0,_,_,_,h,_=>by simp [K.scF] at h
 | f+1,at',l,ts,h,hl=>by
   have hsp:=K.zD9 l;unfold K.scF at h;by_cases he:l.drop (K.sepN l)=[]
   ·rw [if_pos he] at h
    cases h
    refine ⟨⟨[],_,rfl,rfl⟩,fun t ht=>?_,by simp⟩
    rw [List.mem_singleton] at ht;subst ht;exact ⟨by show (0:Int)<=5; omega,by show (5:Int)<=5; omega,by simp,by show at'+K.sepN l<=_; omega⟩
   ·rw [if_neg he] at h
    cases ht:K.tokR (l.drop (K.sepN l)) with
    | error c=>rw [ht] at h; cases h
    | ok q =>
      obtain ⟨k,t,n⟩:=q;rw [ht] at h;have h1:=K.zQ8 he ht;have h2:=tokR_ok ht;rw [List.length_drop] at h1 h2;simp only at h
      cases hr:K.scF f (at'+K.sepN l+n) ((l.drop (K.sepN l)).drop n) with
      | error e=>rw [hr] at h; cases h
      | ok r =>
        rw [hr] at h;cases h
        have hll:((l.drop (K.sepN l)).drop n).length=l.length-K.sepN l-n:=by rw [List.length_drop,List.length_drop]
        obtain ⟨⟨i,u,e,h5⟩,hok,hlen⟩:=zR0 f _ _ r hr (by rw [hll]; omega)
        refine ⟨⟨_::i,u,by rw [e]; rfl,h5⟩,fun v hv=>?_,by rw [List.length_cons]; rw [hll] at hlen; omega⟩
        rcases List.mem_cons.1 hv with rfl | hv
        ·exact ⟨by show (0:Int)<=k; omega,by show k<=5; omega,by show t.length<=_; omega,by show at'+K.sepN l<=_; omega⟩
        ·exact hok v hv
theorem scR_good {l:List UInt8} {ts:List Tk} (h:K.scR l=.ok ts):Good ts:=by
 unfold K.scR at h
 split at h
 ·cases h
 ·obtain ⟨h1,h2,h3⟩:=zR0 _ _ _ _ h (by omega)
  exact ⟨h1,h2,by omega⟩
def sdlF (el:DfT) (s:List UInt8):Except Er (List DefT):=match K.scR s with
 | .error x=>.error x
 | .ok ts=>exB (docR el ts) fun q=>.ok q.1
def zs3 (w:World) (r:Except Er (List DefT)) (e:Ending) (w':World):Prop:=Below w.heap.size w w'/\match r with
 | .ok l=>∃ v,e=.returned (.tuple #[.agg #[v],.int .i64 0,.int .i64 0])/\DefsC w' (fun b=>w.heap.size<=b/\b<w'.heap.size) v l
 | .error x=>e=.returned (.tuple #[.agg #[.slice none 0 0],.int .i64 x.1,.int .i64 x.2])
abbrev w3 (w:World):World:=((w.alloc (.cells #[.slice none 0 0] 24 (0,0))).alloc (.cells #[.int .i64 0] 3 (0,0))).alloc (.cells #[.int .i64 0] 29 (0,0))
structure Res3 (w:World) (v0 v1 v2:Value) (W:World):Prop where
 d:Bk W w.heap.size #[v0] 24
 a:Bk W (w.heap.size+1) #[v1] 3
 c:Bk W (w.heap.size+1+1) #[v2] 29
 below:Below w.heap.size w W
 size:w.heap.size+3<=W.heap.size
theorem Res3.new (w:World):Res3 w (.slice none 0 0) (.int .i64 0) (.int .i64 0) (w3 w):=by
 have b1:=za1 w (.cells #[.slice none 0 0] 24 (0,0));have x1:=Bk.new w #[.slice none 0 0] 24;unfold w3;generalize hw1:w.alloc (.cells #[.slice none 0 0] 24 (0,0))=w1 at *;have s1:w1.heap.size=w.heap.size+1:=by rw [<- hw1,World.size_alloc]
 have b2:=za1 w1 (.cells #[.int .i64 0] 3 (0,0));have x2:=Bk.new w1 #[.int .i64 0] 3;rw [s1] at x2;generalize hw2:w1.alloc (.cells #[.int .i64 0] 3 (0,0))=w2 at *;have s2:w2.heap.size=w.heap.size+2:=by rw [<- hw2,World.size_alloc,s1]
 have b3:=za1 w2 (.cells #[.int .i64 0] 29 (0,0));have x3:=Bk.new w2 #[.int .i64 0] 29;rw [s2] at x3;have s3:(w2.alloc (.cells #[.int .i64 0] 29 (0,0))).heap.size=w.heap.size+3:=by rw [World.size_alloc,s2]
 exact ⟨(x1.stay b2).stay b3,x2.stay b3,x3,(b1.trans (b2.mono b1.size)).trans (b3.mono (by omega)),by omega⟩
theorem tat_of {w:World} {base:Nat} {v:Value} {ts:List Tk} (h:K.OwnT w base v ts) (hne:0<ts.length):∃ a c,v=.slice (some a) ts.length c/\ts.length<=c/\base<=a.block/\a.block<w.heap.size /\
  ∀ i t,ts[i]?=some t->w.cell? (a.add (i*3))=some (.int .i64 t.1)/\w.cell? ⟨(a.add (i*3)).block,(a.add (i*3)).off+1,none⟩=some (.string ⟨t.2.1.toArray⟩)/\w.cell? ⟨(a.add (i*3)).block,(a.add (i*3)).off+2,none⟩=some (.int .i64 t.2.2):=by
 have hh:=K.OwnT.z h;unfold K.OwnZ at hh;have hlt:=fun g hg=>zf6 hh (g:=g) hg;rw [K.tz_len] at hh;rcases hh.2 with ⟨_,hz⟩ | ⟨g,cap,cur,rfl,h1,h2,h3,_⟩
 ·omega
 ·have hl:=hlt g rfl
  refine ⟨_,_,rfl,h3,hl.1,hl.2,fun i t hi=>?_⟩
  have hcell:=hh.cells (g:=g) rfl;have hi2:(K.tz ts)[i]?=some (t.1,t.2.1,(t.2.2:Int)):=by unfold K.tz; rw [List.getElem?_map,hi]; rfl
  obtain ⟨z0,z1,z2⟩:=K.zC_at (K.tz ts) i _ hi2;have e:∀ n,(⟨g,0,none⟩ : Addr).add n=⟨g,n,none⟩:=fun n=>by unfold Addr.add; split <;> simp_all
  have k0:=hcell _ _ z0;have k1:=hcell _ _ z1;have k2:=hcell _ _ z2;rw [e] at k0 k1 k2;rw [e];exact ⟨k0,k1,k2⟩
variable {w W W':World} {v0 v1 v2:Value}
theorem Res3.stay (h:Res3 w v0 v1 v2 W) (hb:Below W.heap.size W W'):Res3 w v0 v1 v2 W':=⟨h.d.stay hb,h.a.stay hb,h.c.stay hb,h.below.trans (hb.mono (by have:=h.size; omega)),Nat.le_trans h.size hb.size⟩
theorem Res3.setA (h:Res3 w v0 v1 v2 W) (u:Value):Res3 w v0 u v2 (W.setCell ⟨w.heap.size+1,0,none⟩ u) :=
 ⟨h.d.off (by omega) 0 u,h.a.set 0 u,h.c.off (by omega) 0 u,h.below.setCell (p:=⟨w.heap.size+1,0,none⟩) (by show w.heap.size<=w.heap.size+_; omega) u,by have:=h.size; simp [World.setCell]; exact this⟩
theorem Res3.setC (h:Res3 w v0 v1 v2 W) (u:Value):Res3 w v0 v1 u (W.setCell ⟨w.heap.size+1+1,0,none⟩ u) :=
 ⟨h.d.off (by omega) 0 u,h.a.off (by omega) 0 u,h.c.set 0 u,h.below.setCell (p:=⟨w.heap.size+1+1,0,none⟩) (by show w.heap.size<=w.heap.size+1+1; omega) u,by have:=h.size; simp [World.setCell]; exact this⟩
theorem Res3.setD (h:Res3 w v0 v1 v2 W) (u:Value):Res3 w u v1 v2 (W.setCell ⟨w.heap.size,0,none⟩ u) :=
 ⟨h.d.set 0 u,h.a.off (by omega) 0 u,h.c.off (by omega) 0 u,h.below.setCell (p:=⟨w.heap.size,0,none⟩) (Nat.le_refl _) u,by have:=h.size; simp [World.setCell]; exact this⟩
theorem Res3.drew (h:Res3 w v0 v1 v2 W):Res3 w v0 v1 v2 W.drew:=h.stay ((Below.refl _ _).drew)
theorem zU5 (el:DfT) (hel:∀ (p k:Nat) (W:World) (ts:List Tk) (m:Nat),PSt W p ts m->kdR (hd ts)=k->k≠0->Calls Tryz.prog 55 #[pP p,.int .i64 k] W (WPost DefV W p (el k ts)))
  (hlt:∀ (k:Nat) (ts:List Tk) (x:DefT) (ts':List Tk),el k ts=.ok (x,ts')->ts'.length<ts.length) (s:ByteArray) (w:World) (hL:K.LK w) :
  Calls Tryz.prog 12 #[.string s] w (zs3 w (sdlF el s.data.toList)):=by
 have hmf:∀ (fn:Fn) (first cap:Array Value) (w:World),(Instr.makeFunc fn first cap).run Tryz.prog w=.ok (.func fn first cap) w:=fun _ _ _ _=>rfl;have hsf:∀ (A:Addr) (w:World),(store A (.func (.func 27) #[] #[])).run Tryz.prog w=stored Tryz.prog w A (.func (.func 27) #[] #[]) .plain:=fun A w=>run_store _ w A _ _ rfl;have HR:=Lh (Res3.new w);have HSC:=Lh (K.scan_any s (w3 w) (hL.below (Res3.new w).below));have HL3:=Lh (hL.below (Res3.new w).below);have HV:Hid (sdlF el s.data.toList=match K.scR s.data.toList with
  | .error x=>.error x
  | .ok ts=>exB (docR el ts) fun q=>.ok q.1):=Lh rfl
 have HL:=Lh hL;clear hL
 cases hsc:K.scR s.data.toList with
 | error x =>
   rw [hsc] at HSC HV;have HV2:Hid (sdlF el s.data.toList=.error x):=HV;generalize sdlF el s.data.toList=RR at *;clear hsc HV hel hlt
   go_enter_defers Tryz.func12,Tryz.ntmps12
   go_wp2_with fail
   refine HSC.out.mono ?_
   rintro e w4 ⟨⟨rfl,hx2⟩,hb⟩;have hr:=HR.out.stay hb;have HR4:=Lh hr;have p0:=hr.d.cell 0 _ rfl;have p1:=hr.a.cell 0 _ rfl;have p2:=hr.c.cell 0 _ rfl;have g0:=hr.d.frz 0;have g1:=hr.a.frz 0;have g2:=hr.c.frz 0;have hne:(x.2 != 0)=true:=by rw [bne_iff_ne]; exact hx2
   clear hb hr hx2;go_wp2_with fail
   go_region
   go_wp2_with fail
   have HZ:=Lh (((((HR4.out.setA (.int .i64 x.1)).setC (.int .i64 x.2)).setD (.slice none 0 0)).setA (.int .i64 x.1)).setC (.int .i64 x.2)).drew;have z0:=HZ.out.d.cell 0 _ rfl;have z1:=HZ.out.a.cell 0 _ rfl;have z2:=HZ.out.c.cell 0 _ rfl;simp only [bodyPostD,Leaves]
   exact ⟨.tuple #[.agg #[.slice none 0 0],.int .i64 x.1,.int .i64 x.2],by simp [results,Tryz.results12,go_sem,z0,z1,z2],HZ.out.below,by rw [HV2.out]⟩
 | ok ts =>
   rw [hsc] at HSC HV;have hg:=scR_good hsc;have HV2:Hid (sdlF el s.data.toList=exB (docR el ts) fun q=>.ok q.1):=HV;have HDOC:=Lh (fun p W m (h:PSt W p ts m)=>zE1 p el (hel p) hlt W ts m h);have HG:=Lh hg;have hne0:0<ts.length:=by obtain ⟨t,r,e⟩:=hg.ne; rw [e]; simp
   generalize sdlF el s.data.toList=RR at *;clear hsc HV hel hlt hg
   go_enter_defers Tryz.func12,Tryz.ntmps12
   go_wp2_with fail
   refine HSC.out.mono ?_
   rintro e w4 ⟨⟨v,rfl,hown⟩,hb⟩;obtain ⟨a,c,rfl,hc,ha1,ha2,hcells⟩:=tat_of hown hne0;have hr:=HR.out.stay hb;have HR4:=Lh hr;have HB4:=Lh hb;have hs3:=HR.out.size;have hs4:=hb.size;have hl4:=HL3.out.below hb;have hr5:Res3 w (.slice none 0 0) (.int .i64 0) (.int .i64 0) ((w4.setCell ⟨w.heap.size+1,0,none⟩ (.int .i64 0)).setCell ⟨w.heap.size+1+1,0,none⟩ (.int .i64 0)):=(hr.setA (.int .i64 0)).setC (.int .i64 0);have hs5:((w4.setCell ⟨w.heap.size+1,0,none⟩ (.int .i64 0)).setCell ⟨w.heap.size+1+1,0,none⟩ (.int .i64 0)).heap.size=w4.heap.size:=by simp [World.setCell]
   have hb6:=za1 ((w4.setCell ⟨w.heap.size+1,0,none⟩ (.int .i64 0)).setCell ⟨w.heap.size+1+1,0,none⟩ (.int .i64 0)) (.cells #[.slice (some a) ts.length c,fnV,.bool false,.int .i64 0] 67 (0,0));have hk6:=Bk.new ((w4.setCell ⟨w.heap.size+1,0,none⟩ (.int .i64 0)).setCell ⟨w.heap.size+1+1,0,none⟩ (.int .i64 0)) #[.slice (some a) ts.length c,fnV,.bool false,.int .i64 0] 67;rw [hs5] at hk6 hb6;have hr6:Res3 w (.slice none 0 0) (.int .i64 0) (.int .i64 0) (((w4.setCell ⟨w.heap.size+1,0,none⟩ (.int .i64 0)).setCell ⟨w.heap.size+1+1,0,none⟩ (.int .i64 0)).alloc (.cells #[.slice (some a) ts.length c,fnV,.bool false,.int .i64 0] 67 (0,0))):=hr5.stay (by rw [hs5]; exact hb6)
   have hps:PSt (((w4.setCell ⟨w.heap.size+1,0,none⟩ (.int .i64 0)).setCell ⟨w.heap.size+1+1,0,none⟩ (.int .i64 0)).alloc (.cells #[.slice (some a) ts.length c,fnV,.bool false,.int .i64 0] 67 (0,0))) w4.heap.size ts 0:=by
    refine ⟨⟨some a,c,hk6,hc,a,rfl,ha2,fun i t hi=>?_⟩,HG.out,by omega,fun w2 h2=>?_⟩
    ·obtain ⟨q0,q1,q2⟩:=hcells i t hi
     have hh:(((w4.setCell ⟨w.heap.size+1,0,none⟩ (.int .i64 0)).setCell ⟨w.heap.size+1+1,0,none⟩ (.int .i64 0)).alloc (.cells #[.slice (some a) ts.length c,fnV,.bool false,.int .i64 0] 67 (0,0))).heap[a.block]?=w4.heap[a.block]?:=by
      rw [hb6.block a.block ha2,Below.heap_setCell _ _ _ _ (by show a.block≠w.heap.size+1+1; omega),Below.heap_setCell _ _ _ _ (by show a.block≠w.heap.size+1; omega)]
     have hk:∀ o,(((w4.setCell ⟨w.heap.size+1,0,none⟩ (.int .i64 0)).setCell ⟨w.heap.size+1+1,0,none⟩ (.int .i64 0)).alloc (.cells #[.slice (some a) ts.length c,fnV,.bool false,.int .i64 0] 67 (0,0))).cell? ⟨(a.add (i*3)).block,o,none⟩=w4.cell? ⟨(a.add (i*3)).block,o,none⟩:=fun o=>zc3 (a:=⟨(a.add (i*3)).block,o,none⟩) (by rw [za0]; exact hh)
     exact ⟨(zc3 (by rw [za0]; exact hh)).trans q0,(hk _).trans q1,(hk _).trans q2⟩
    ·exact HL.out.num.below (hr6.below.trans (h2.mono (by omega)))
   have HP:=Lh hps;have HR6:=Lh hr6;have p0:=hr.d.cell 0 _ rfl;have p1:=hr.a.cell 0 _ rfl;have p2:=hr.c.cell 0 _ rfl;have g1:=hr.a.frz 0;have g2:=hr.c.frz 0;have hs6:w4.heap.size+1=(((w4.setCell ⟨w.heap.size+1,0,none⟩ (.int .i64 0)).setCell ⟨w.heap.size+1+1,0,none⟩ (.int .i64 0)).alloc (.cells #[.slice (some a) ts.length c,fnV,.bool false,.int .i64 0] 67 (0,0))).heap.size:=by rw [World.size_alloc,hs5]
   have HS6:=Lh hs6;clear hb hr hown hcells hr5 hk6 hb6 hr6 hps hs6;go_wp2_with fail
   refine (HDOC.out _ _ _ HP.out).mono ?_
   have hs6:=HS6.out;have hd6:=HR6.out;clear p0 p1 p2 g1 g2;generalize ((w4.setCell ⟨w.heap.size+1,0,none⟩ (.int .i64 0)).setCell ⟨w.heap.size+1+1,0,none⟩ (.int .i64 0)).alloc (.cells #[.slice (some a) ts.length c,fnV,.bool false,.int .i64 0] 67 (0,0))=w6 at *;rintro e w7 (⟨l,ts',v,m',hre,rfl,⟨u,rfl,hx⟩,hp,ht⟩ | ⟨x,hre,rfl,ht⟩)
   ·have HD:=Lh (HV2.out.trans (za3 hre))
    have hr7:Res3 w (.slice none 0 0) (.int .i64 0) (.int .i64 0) w7:=⟨hd6.d.far ht (by omega),hd6.a.far ht (by omega),hd6.c.far ht (by omega),hd6.below.trans (ht.below (by omega) |>.mono (by omega)),by have:=hd6.size; have:=ht.size; omega⟩
    obtain ⟨A,cc,hu,_⟩:=SlS.form hx;subst hu;have HR7:=Lh hr7;have HX:=Lh hx;have p0:=hr7.d.cell 0 _ rfl;have p1:=hr7.a.cell 0 _ rfl;have p2:=hr7.c.cell 0 _ rfl;have g0:=hr7.d.frz 0;have g1:=hr7.a.frz 0;have g2:=hr7.c.frz 0;have hs7:=ht.size;clear hre hp ht hr7 hx;go_wp2_with fail
    simp only [bodyPostD]
    refine leaves_cons (f := 26) (args:=#[.pointer (some ⟨w.heap.size,0,none⟩),.pointer (some ⟨w.heap.size+1,0,none⟩),.pointer (some ⟨w.heap.size+1+1,0,none⟩)]) (by simp) (by simp [go_sem]) ?_
    refine (catch_i _ _ _ _).mono ?_
    rintro e u' w9 ⟨rfl,rfl,hb⟩;have hr8:=((HR7.out.setD (.slice A l.length cc)).setA (.int .i64 0)).setC (.int .i64 0);have hr9:=hr8.stay hb;have z0:=hr9.d.cell 0 _ rfl;have z1:=hr9.a.cell 0 _ rfl;have z2:=hr9.c.cell 0 _ rfl;have hs8:(((w7.setCell ⟨w.heap.size,0,none⟩ (.slice A l.length cc)).setCell ⟨w.heap.size+1,0,none⟩ (.int .i64 0)).setCell ⟨w.heap.size+1+1,0,none⟩ (.int .i64 0)).heap.size=w7.heap.size:=by simp [World.setCell]
    have hs9:=hb.size;rw [hs8] at hs9 hb;have h6z:=HR6.out.size;simp only [settle,Leaves]
    refine ⟨.tuple #[.agg #[.slice A l.length cc],.int .i64 0,.int .i64 0],by simp [results,Tryz.results12,go_sem,z0,z1,z2],hr9.below, ?_⟩
    rw [HD.out];refine ⟨_,rfl,SlS.kept DefC.stays HX.out (fun b hb2=>?_) (fun b hb2=>⟨by omega,by omega⟩)⟩
    rw [hb.block b hb2.2,Below.heap_setCell _ _ _ _ (by show b≠w.heap.size+1+1; omega),Below.heap_setCell _ _ _ _ (by show b≠w.heap.size+1; omega),Below.heap_setCell _ _ _ _ (by show b≠w.heap.size; omega)]
   ·have HD:=Lh (HV2.out.trans (za7 hre))
    have hr7:Res3 w (.slice none 0 0) (.int .i64 0) (.int .i64 0) w7:=⟨hd6.d.far ht (by omega),hd6.a.far ht (by omega),hd6.c.far ht (by omega),hd6.below.trans (ht.below (by omega) |>.mono (by omega)),by have:=hd6.size; have:=ht.size; omega⟩
    have HR7:=Lh hr7;clear hre ht hr7;unfold badV;simp only [bodyPostD]
    refine leaves_cons (f := 26) (args:=#[.pointer (some ⟨w.heap.size,0,none⟩),.pointer (some ⟨w.heap.size+1,0,none⟩),.pointer (some ⟨w.heap.size+1+1,0,none⟩)]) (by simp) (by simp [go_sem]) ?_
    refine (catch_p _ _ _ _ x [] _ _ _ HR7.out.d HR7.out.a HR7.out.c (by omega) (by omega) (by omega)).mono ?_
    rintro e u' w9 ⟨rfl,rfl,q0,q1,q2,hoff⟩;have z0:=q0.cell 0 _ rfl;have z1:=q1.cell 0 _ rfl;have z2:=q2.cell 0 _ rfl;have hbel:Below w.heap.size w w9:=HR7.out.below.trans ⟨hoff.os,hoff.tape,hoff.output,hoff.size,fun b hb=>hoff.block b (by have:=HR7.out.size; omega) (by omega) (by omega) (by omega)⟩
    simp only [settle,Leaves,List.dropWhile_nil]
    refine ⟨.tuple #[.agg #[.slice none 0 0],.int .i64 x.1,.int .i64 x.2],by simp [results,Tryz.results12,go_sem,z0,z1,z2],hbel, ?_⟩
    rw [HD.out]
def valP:ElT:=vF obV 24 1
def wvP:List Tk->Except Er (VT × List Tk):=whP valP
def argX:=argP wvP
def dirX:=dirP argX
def inpX:=inpP refP wvP dirX
def fldX:=fldP inpX refP dirX
def memX:=memP dirX
def defX (k:Nat):List Tk->Except Er (DefT × List Tk):=if k=1 then df1 fldX dirX else if k=2 then df2 fldX dirX else if k=3 then df3 dirX else if k=4 then df4 memX dirX else df5 inpX dirX
def sdlR (s:List UInt8):Except Er (List DefT):=sdlF defX s
theorem valP_lt:LtE valP:=vF_con (fun _ h=>obV_con h) 24 1
theorem wvP_lt:LtT wvP:=whP_con valP_lt
theorem argX_lt:LtT argX:=argP_con wvP_lt.le
theorem dirX_lt:LtT dirX:=dirP_con argX_lt.le
theorem inpX_lt:LtT inpX:=inpP_con refP_con.le wvP_lt.le dirX_lt.le
theorem fldX_lt:LtT fldX:=fldP_con inpX_lt.le refP_con.le dirX_lt.le
theorem memX_lt:LtT memX:=memP_con dirX_lt.le
theorem defX_lt (k:Nat):LtT (defX k):=by
 unfold defX
 split
 ·exact df1_con dirX_lt.le fldX_lt.le
 split
 ·exact df2_con dirX_lt.le fldX_lt.le
 split
 ·exact df3_con dirX_lt.le
 split
 ·exact df4_con dirX_lt.le memX_lt.le
 ·exact df5_con dirX_lt.le inpX_lt.le
variable {p:Nat} {W:World} {ts:List Tk} {m:Nat}
theorem pwv (h:PSt W p ts m):Calls Tryz.prog 164 #[pP p] W (WPost ValW W p (wvP ts)) :=
 zx6 p valP (fun W ts h=>zN0 p obV (fun lv el h24 hel=>zN2 p lv el h24 hel) 24 1 (by omega) W ts 0 h (by omega)) W ts m h
theorem parg {q1 q2:Nat} (hq:∀ W',Tw p W.heap.size W W'->W'.cell? ⟨q1,0,none⟩=some (pP p)/\W'.cell? ⟨q2,0,none⟩=some (whV p)) (h:PSt W p ts m):Calls Tryz.prog 255 #[.pointer (some ⟨q1,0,none⟩),.pointer (some ⟨q2,0,none⟩)] W (WPost ArgV W p (argX ts)):=zE3 q1 q2 p wvP (fun _ _ _ h=>pwv h) W hq ts m h
theorem pargs (h:PSt W p ts m):Calls Tryz.prog 234 #[pP p,whV p] W (WPost ArgsC W p (argsP argX ts)):=zz7 p argX (fun _ _ _ _ _ hq h _=>parg hq h) (fun _ _ _ _ _ h=>argX_lt _ _ _ h) W ts m h
theorem pdir (h:PSt W p ts m):Calls Tryz.prog 202 #[pP p,whV p] W (WPost DirV W p (dirX ts)):=zz6 p argX (fun _ _ _ h=>pargs h) W ts m h
theorem pinp (h:PSt W p ts m):Calls Tryz.prog 121 #[pP p] W (WPost InpV W p (inpX ts)) :=
 zW3 p refP (fun W ts m h=>zp0 p W ts m h) wvP (fun _ _ _ h=>pwv h) dirX (fun _ _ _ h _=>pdir h) (fun _ _ _ _ _ h=>dirX_lt _ _ _ h) W ts m h
theorem pfld (h:PSt W p ts m):Calls Tryz.prog 116 #[pP p] W (WPost FldV W p (fldX ts)) :=
 zW4 p inpX (fun _ _ _ h _=>pinp h) (fun _ _ _ _ _ h=>inpX_lt _ _ _ h) refP (fun W ts m h=>zp0 p W ts m h) dirX (fun _ _ _ h _=>pdir h) (fun _ _ _ _ _ h=>dirX_lt _ _ _ h) W ts m h
theorem pmem (h:PSt W p ts m):Calls Tryz.prog 119 #[pP p] W (WPost MemV W p (memX ts)) :=
 zN3 p dirX (fun _ _ _ h _=>pdir h) (fun _ _ _ _ _ h=>dirX_lt _ _ _ h) W ts m h
theorem kdR_nm (h:kdR (hd ts)≠0):isNm ts=true:=by
 unfold kdR at h
 split at h
 ·next e=>exact decide_eq_true e
 ·exact absurd rfl h
theorem kdX_le (x:ByteArray):kdX x<=5:=by
 unfold kdX
 repeat' split
 all_goals omega
theorem kdR_le (t:Tk):kdR t<=5:=by
 unfold kdR
 split
 ·exact kdX_le _
 ·omega
theorem pdef (k:Nat) (h:PSt W p ts m) (hk:kdR (hd ts)=k) (h0:k≠0):Calls Tryz.prog 55 #[pP p,.int .i64 k] W (WPost DefV W p (defX k ts)):=by
 have hn:isNm ts=true:=kdR_nm (by rw [hk]; exact h0)
 have h5:k<=5:=hk▸kdR_le _;have hc:k=1∨k=2∨k=3∨k=4∨k=5:=by omega
 rcases hc with rfl | rfl | rfl | rfl | rfl
 ·exact yd7 p fldX (fun _ _ _ h _=>pfld h) (fun _ _ _ _ _ h=>fldX_lt _ _ _ h) dirX (fun _ _ _ h _=>pdir h) (fun _ _ _ _ _ h=>dirX_lt _ _ _ h) W ts m hn h
 ·exact yd6 p fldX (fun _ _ _ h _=>pfld h) (fun _ _ _ _ _ h=>fldX_lt _ _ _ h) dirX (fun _ _ _ h _=>pdir h) (fun _ _ _ _ _ h=>dirX_lt _ _ _ h) W ts m hn h
 ·exact yd5 p dirX (fun _ _ _ h _=>pdir h) (fun _ _ _ _ _ h=>dirX_lt _ _ _ h) W ts m hn h
 ·exact yd4 p memX (fun _ _ _ h _=>pmem h) (fun _ _ _ _ _ h=>memX_lt _ _ _ h) dirX (fun _ _ _ h _=>pdir h) (fun _ _ _ _ _ h=>dirX_lt _ _ _ h) W ts m hn h
 ·exact yd3 p inpX (fun _ _ _ h _=>pinp h) (fun _ _ _ _ _ h=>inpX_lt _ _ _ h) dirX (fun _ _ _ h _=>pdir h) (fun _ _ _ _ _ h=>dirX_lt _ _ _ h) W ts m hn h
theorem zm9 (s:ByteArray) (w:World) (hL:K.LK w):Calls Tryz.prog 12 #[.string s] w (zs3 w (sdlR s.data.toList)) :=
 zU5 defX (fun _ k _ _ _ h hk h0=>pdef k h hk h0) (fun k ts x ts' h=>defX_lt k ts x ts' h) s w hL
#print axioms zm9
end Go.Proofs.YtfgelheiknmjgaaGreatDoor
namespace Go.Proofs.YtfgelheiknmjgaaGreatDoor.K
open Go.RowKit
abbrev Lo:=Int × List UInt8
inductive Sc:List UInt8->List Lo->Prop
 | nil:Sc [] []
 | sep {c:UInt8} {l:List UInt8} {q:List Lo} (h:sepS false c=some false) (hs:Sc l q):Sc (c::l) q
 | sign {c:UInt8} {l:List UInt8} {q:List Lo} (h:c∈sgL) (hs:Sc l q):Sc (c::l) ((1,[c])::q)
 | word {k:Int} {t l:List UInt8} {q:List Lo} (h:GoodK k t) (hw:wdH l=false) (hs:Sc l q):Sc (wordK (k,t,0)++l) ((k,t)::q)
theorem ya3 {c:UInt8} (h:c∈sgL):sepS false c=none:=zs4 _ (.inl h)
theorem scF_sep {c:UInt8} (h:sepS false c=some false) (f b:Nat) (l:List UInt8):scF (f+1) b (c::l)=scF (f+1) (b+1) l:=by
 have e:sepN (c::l)=sepN l+1:=by unfold sepN; rw [spanL,h]
 rw [zv8,zv8,e,List.drop_succ_cons,show b+(sepN l+1)=b+1+sepN l by omega]
theorem scF_sign {c:UInt8} (h:c∈sgL) (f b:Nat) (l:List UInt8) {ts:List Tk} (hs:scF f (b+1) l=.ok ts):scF (f+1) b (c::l)=.ok ((1,[c],b)::ts):=by
 have e:sepN (c::l)=0:=by unfold sepN; rw [spanL,ya3 h]
 rw [zv8,e,List.drop_zero,if_neg (by simp),zQ7 h]
 simp only [Nat.add_zero,List.drop_succ_cons,List.drop_zero]
 rw [hs]
theorem Sc.scan {l:List UInt8} {q:List Lo} (h:Sc l q):∀ f b:Nat,l.length<f->∃ ts,scF f b l=.ok ts/\ts.map (fun p=>(p.1,p.2.1))=q++[(5,[])]:=by
 induction h with
 | nil =>
   intro f b hf
   cases f with
   | zero=>exact absurd hf (Nat.not_lt_zero _)
   | succ f=>exact ⟨[(5,[],b)],rfl,rfl⟩
 | sep h _ ih =>
   intro f b hf
   cases f with
   | zero=>exact absurd hf (Nat.not_lt_zero _)
   | succ f =>
     obtain ⟨ts,h1,h2⟩:=ih (f+1) (b+1) (by simp at hf; omega)
     exact ⟨ts,(scF_sep h f b _).trans h1,h2⟩
 | sign h _ ih =>
   intro f b hf
   cases f with
   | zero=>exact absurd hf (Nat.not_lt_zero _)
   | succ f =>
     obtain ⟨ts,h1,h2⟩:=ih f (b+1) (by simp at hf; omega)
     exact ⟨_,scF_sign h f b _ h1,by rw [List.map_cons,h2]; rfl⟩
 | @word k t l q h hw _ ih =>
   intro f b hf
   cases f with
   | zero=>exact absurd hf (Nat.not_lt_zero _)
   | succ f =>
     obtain ⟨c,u,hc,_⟩:=zG5 0 h;have hp:1<=(wordK (k,t,0)).length:=by rw [hc]; simp
     rw [List.length_append] at hf;obtain ⟨ts,h1,h2⟩:=ih f (b+0+(wordK (k,t,0)).length) (by omega)
     exact ⟨_,scan_one h [] (.inl rfl) l hw f b ts h1,by rw [List.map_cons,h2]; rfl⟩
theorem Sc.scR {l:List UInt8} {q:List Lo} (h:Sc l q) (hl:l.length<=65536):∃ ts,scR l=.ok ts/\ts.map (fun p=>(p.1,p.2.1))=q++[(5,[])]:=by
 obtain ⟨ts,h1,h2⟩:=h.scan (l.length+1) 0 (Nat.lt_succ_self _);exact ⟨ts,by unfold K.scR; rw [if_neg (by omega)]; exact h1,h2⟩
def Sp (a:List UInt8) (q:List Lo):Prop:=∀ (l:List UInt8) (r:List Lo),wdH l=false->Sc l r->Sc (a++l) (q++r)
theorem Sp.all {a:List UInt8} {q:List Lo} (h:Sp a q):Sc a q:=by
 have:=h [] [] zQ4 .nil
 rwa [List.append_nil,List.append_nil] at this
theorem Sp.nil:Sp [] []:=fun _ _ _ h=>h
theorem Sp.name {t:List UInt8} (h:T1.nameL t=true):Sp t [(2,t)]:=fun _ _ hw hs=>Sc.word (.name h) hw hs
theorem Sp.int {t:List UInt8} (h:(T1.numL t).2=0):Sp t [(3,t)]:=fun _ _ hw hs=>Sc.word (.int h) hw hs
theorem Sp.text (t:List UInt8):Sp (T1.zg5 t) [(4,t)]:=fun _ _ hw hs=>Sc.word (.text t) hw hs
theorem Sp.sep {c:UInt8} {a:List UInt8} {q:List Lo} (hc:sepS false c=some false) (h:Sp a q):Sp (c::a) q:=fun l r hw hs=>.sep hc (h l r hw hs)
theorem Sp.sign {c:UInt8} {a:List UInt8} {q:List Lo} (hc:c∈sgL) (h:Sp a q):Sp (c::a) ((1,[c])::q):=fun l r hw hs=>.sign hc (h l r hw hs)
def Hw (a:List UInt8):Prop:=∀ l,wdH l=false->wdH (a++l)=false
theorem Hw.nil:Hw []:=fun _ h=>h
theorem Hw.cons {c:UInt8} {a:List UInt8} (h:wdB c=false):Hw (c::a):=fun _ _=>h
theorem Hw.app {a b:List UInt8} (h:Hw a) (k:Hw b):Hw (a++b):=fun l hl=>by rw [List.append_assoc]; exact h _ (k l hl)
theorem Sp.app {a b:List UInt8} {q r:List Lo} (h:Sp a q) (hb:Hw b) (k:Sp b r):Sp (a++b) (q++r):=fun l t hw hs=>by
 rw [List.append_assoc,List.append_assoc];exact h _ _ (hb l hw) (k l t hw hs)
end Go.Proofs.YtfgelheiknmjgaaGreatDoor.K
namespace Go.Proofs.YtfgelheiknmjgaaGreatDoor
open Go.RowKit
abbrev Lo:=K.Lo
def lo (ts:List Tk):List Lo:=ts.map fun t=>(t.1,t.2.1)
theorem ze2 {us:List Tk} {k:Int} {s:List UInt8} {r:List Lo} (h:lo us=(k,s)::r):(hd us).1=k/\(hd us).2.1=s/\lo us.tail=r/\us≠[]:=by
 cases us with
 | nil=>cases h
 | cons t us =>
   unfold lo at h;rw [List.map_cons,List.cons.injEq,Prod.mk.injEq] at h;exact ⟨h.1.1,h.1.2,h.2,by simp⟩
theorem zk1 (us:List Tk):(lo us).length=us.length:=List.length_map _
def loSg (s:List UInt8) (l:List Lo):Bool:=decide ((l.headD (0,[])).1=1)&&decide ((l.headD (0,[])).2=s)
theorem sg_lo (s:List UInt8) (us:List Tk):isSg s us=loSg s (lo us):=by cases us <;> rfl
theorem nm_lo (us:List Tk):isNm us=decide (((lo us).headD (0,[])).1=2):=by cases us <;> rfl
theorem rd_sg {us:List Tk} {s:List UInt8} {r:List Lo} (h:lo us=(1,s)::r):sgR s us=.ok us.tail/\lo us.tail=r:=by
 obtain ⟨h1,h2,h3,_⟩:=ze2 h;unfold sgR isSg;rw [h1,h2];exact ⟨by simp,h3⟩
theorem zt8 {us:List Tk} {s:List UInt8} {r:List Lo} (h:lo us=(1,s)::r):isSg s us=true:=by rw [sg_lo,h]; simp [loSg]
theorem rd_nm {us:List Tk} {s:List UInt8} {r:List Lo} (h:lo us=(2,s)::r):nmR us=.ok (⟨s.toArray⟩,us.tail)/\lo us.tail=r/\isNm us=true:=by
 obtain ⟨h1,h2,h3,_⟩:=ze2 h;have hn:isNm us=true:=by unfold isNm; rw [h1]; rfl
 unfold nmR;rw [hn,h2];exact ⟨rfl,h3,rfl⟩
theorem ba_eq (s:ByteArray):(⟨s.data.toList.toArray⟩ : ByteArray)=s:=by simp
def nullK:List UInt8:=[110,117,108,108]
def boolK (n:Int):List UInt8:=if n=0 then [102,97,108,115,101] else [116,114,117,101]
mutual
def VT.tok:VT->List Lo
 | .mk k n s items keys =>
   if k=0 then [(2,nullK)] else if k=1 then [(2,boolK n)] else if k=2 then [(3,Lib.itoa n)] else if k=3 then [(4,s.data.toList)] else if k=4 then [(2,s.data.toList)]
   else if k=5 then (1,[91])::((VT.toks items).flatten++[(1,[93])]) else if k=6 then (1,[123])::((List.zipWith (fun a b=>(2,a.data.toList)::(1,[58])::b) keys (VT.toks items)).flatten++[(1,[125])])
   else []
def VT.toks:List VT->List (List Lo)
 | []=>[]
 | t::r=>t.tok::VT.toks r
end
mutual
def VT.num:VT->Prop
 | .mk _ n _ items _=>(-9223372036854775808<=n/\n<=9223372036854775807)/\VT.nums items
def VT.nums:List VT->Prop
 | []=>True
 | t::r=>t.num/\VT.nums r
end
theorem zN7:∀ {l:List VT} {i:Nat} {t:VT},VT.nums l->l[i]?=some t->t.num
 | [],i,t,_,h=>by simp at h
 | x::r,0,t,hf,h=>by simp at h; subst h; rw [VT.nums] at hf; exact hf.1
 | x::r,i+1,t,hf,h=>by rw [VT.nums] at hf; exact zN7 hf.2 (by simpa using h)
theorem ye4:∀ {l:List VT},(∀ t∈l,t.num)->VT.nums l
 | [],_=>trivial
 | x::r,h=>⟨h x (by simp),ye4 fun t ht=>h t (by simp [ht])⟩
def VT.cst (t:VT):Bool:=zb7 true t&&zb7 false t
theorem zF8 {k n:Int} {s:ByteArray} {items:List VT} {keys:List ByteArray} (h:(VT.mk k n s items keys).cst=true):∀ t∈items,t.cst=true:=by
 unfold VT.cst at h;rw [Bool.and_eq_true,zb7,zb7,Bool.and_eq_true,Bool.and_eq_true] at h;have hw:∀ (b:Bool) (l:List VT),ze6 b l=true->∀ t∈l,zb7 b t=true:=by
  intro b l
  induction l with
  | nil=>intro _ t ht; simp at ht
  | cons x r ih =>
    intro hl t ht;rw [ze6,Bool.and_eq_true] at hl;rcases List.mem_cons.1 ht with rfl | ht
    ·exact hl.1
    ·exact ih hl.2 t ht
 intro t ht;unfold VT.cst;rw [hw _ _ h.1.2 t ht,hw _ _ h.2.2 t ht]; rfl
inductive CstV:VT->Prop
 | null:CstV (.mk 0 0 ⟨#[]⟩ [] [])
 | bool {n:Int} (h:n=0∨n=1):CstV (.mk 1 n ⟨#[]⟩ [] [])
 | int {n:Int}:CstV (.mk 2 n ⟨#[]⟩ [] [])
 | text {s:ByteArray}:CstV (.mk 3 0 s [] [])
 | enum {s:ByteArray} (h:enumB s=true):CstV (.mk 4 0 s [] [])
 | list {l:List VT}:CstV (.mk 5 0 ⟨#[]⟩ l [])
 | object {l:List VT} {ks:List ByteArray} (hl:ks.length=l.length) (hk:ks.all nmA=true) (hn:ks.Nodup):CstV (.mk 6 0 ⟨#[]⟩ l ks)
theorem size0 {s:ByteArray} (h:s.size=0):s=⟨#[]⟩:=by
 obtain ⟨d⟩:=s;have:d=#[]:=Array.eq_empty_of_size_eq_zero h;rw [this]
theorem leaf0 {l:List VT} {ks:List ByteArray} (h:leafB l ks=true):l=[]/\ks=[]:=by
 unfold leafB at h;simp only [Bool.and_eq_true,decide_eq_true_eq] at h
 exact ⟨List.length_eq_zero_iff.1 h.1,List.length_eq_zero_iff.1 h.2⟩
theorem cst_v (t:VT) (h:t.cst=true):CstV t:=by
 obtain ⟨k,n,s,l,ks⟩:=t;unfold VT.cst at h;rw [Bool.and_eq_true,zb7,zb7,Bool.and_eq_true,Bool.and_eq_true] at h;obtain ⟨⟨h1,_⟩,h2,_⟩:=h;simp only [nodeB] at h1 h2
 by_cases e0:k=0
 ·rw [if_pos e0] at h1
  simp only [Bool.and_eq_true,decide_eq_true_eq] at h1
  obtain ⟨rfl,rfl⟩:=leaf0 h1.2;rw [e0,h1.1.1,size0 h1.1.2]; exact .null
 rw [if_neg e0] at h1 h2;by_cases e1:k=1
 ·rw [if_pos e1] at h1
  simp only [Bool.and_eq_true,Bool.or_eq_true,decide_eq_true_eq] at h1
  obtain ⟨rfl,rfl⟩:=leaf0 h1.2;rw [e1,size0 h1.1.2]; exact .bool h1.1.1
 rw [if_neg e1] at h1 h2;by_cases e2:k=2
 ·rw [if_pos e2] at h1
  simp only [Bool.and_eq_true,decide_eq_true_eq] at h1
  obtain ⟨rfl,rfl⟩:=leaf0 h1.2;rw [e2,size0 h1.1]; exact .int
 rw [if_neg e2] at h1 h2;by_cases e3:k=3
 ·rw [if_pos e3] at h1
  simp only [Bool.and_eq_true,decide_eq_true_eq] at h1
  obtain ⟨rfl,rfl⟩:=leaf0 h1.2;rw [e3,h1.1]; exact .text
 rw [if_neg e3] at h1 h2;by_cases e4:k=4
 ·rw [if_pos e4] at h1
  simp only [Bool.and_eq_true,decide_eq_true_eq] at h1
  obtain ⟨rfl,rfl⟩:=leaf0 h1.2;rw [e4,h1.1.1]; exact .enum h1.1.2
 rw [if_neg e4] at h1 h2;by_cases e5:k=5
 ·rw [if_pos e5] at h1
  simp only [Bool.and_eq_true,decide_eq_true_eq] at h1
  rw [e5,h1.1.1,size0 h1.1.2,List.length_eq_zero_iff.1 h1.2]; exact .list
 rw [if_neg e5] at h1 h2;by_cases e6:k=6
 ·rw [if_pos e6] at h1
  unfold keysB at h1;simp only [Bool.and_eq_true,decide_eq_true_eq,Bool.not_true,Bool.false_or] at h1
  rw [e6,h1.1.1.1,size0 h1.1.1.2]; exact .object h1.1.2 h1.2.1 h1.2.2
 rw [if_neg e6] at h2
 split at h2
 ·simp at h2
 ·cases h2
theorem tok_k {k n:Int} {s:ByteArray} {l:List VT} {ks:List ByteArray}:(VT.mk k n s l ks).tok=if k=0 then [(2,nullK)] else if k=1 then [(2,boolK n)] else if k=2 then [(3,Lib.itoa n)] else if k=3 then [(4,s.data.toList)] else if k=4 then [(2,s.data.toList)]
  else if k=5 then (1,[91])::((VT.toks l).flatten++[(1,[93])]) else if k=6 then (1,[123])::((List.zipWith (fun a b=>(2,a.data.toList)::(1,[58])::b) ks (VT.toks l)).flatten++[(1,[125])])
  else []:=by rw [VT.tok]
theorem zD5 (t:VT) (h:t.cst=true):∃ k s r,t.tok=(k,s)::r/\(k=2∨k=3∨k=4∨(k=1/\(s=[91]∨s=[123]))):=by
 cases cst_v t h with
 | null=>exact ⟨_,_,_,tok_k,.inl rfl⟩
 | bool=>exact ⟨_,_,_,tok_k,.inl rfl⟩
 | int=>exact ⟨_,_,_,tok_k,.inr (.inl rfl)⟩
 | text=>exact ⟨_,_,_,tok_k,.inr (.inr (.inl rfl))⟩
 | enum=>exact ⟨_,_,_,tok_k,.inl rfl⟩
 | list=>exact ⟨_,_,_,tok_k,.inr (.inr (.inr ⟨rfl,.inl rfl⟩))⟩
 | object=>exact ⟨_,_,_,tok_k,.inr (.inr (.inr ⟨rfl,.inr rfl⟩))⟩
theorem tok_no {t:VT} (h:t.cst=true) {us:List Tk} {q:List Lo} (hu:lo us=t.tok++q) (s:List UInt8) (h1:s≠[91]) (h2:s≠[123]):isSg s us=false:=by
 obtain ⟨k,u,r,e,hk⟩:=zD5 t h;rw [sg_lo,hu,e];unfold loSg;rcases hk with rfl | rfl | rfl | ⟨rfl,rfl | rfl⟩
 ·rfl
 ·rfl
 ·rfl
 ·simp [Ne.symm h1]
 ·simp [Ne.symm h2]
theorem bvT_ok {t:VT} (h:t.cst=true) {us:List Tk} {q:List Lo} (hu:lo us=t.tok++q) {lv n:Nat} (hl:lv<=24) (hn:n+1<=4096):bvR lv us n=.ok ():=by
 obtain ⟨k,u,r,e,hk⟩:=zD5 t h;have hv:isVal us=true:=by
  have h1:=(ze2 (hu.trans (by rw [e,List.cons_append])))
  unfold isVal isSg;rw [h1.1,h1.2.1];rcases hk with rfl | rfl | rfl | ⟨rfl,rfl | rfl⟩ <;> simp
 unfold bvR;rw [hv,if_neg (by simp),if_neg (by omega),if_neg (by omega)]
def RdE (el:ElT) (t:VT):Prop:=∀ (us:List Tk) (n:Nat) (r:List Lo),lo us=t.tok++r->n+t.size<=4096->∃ us',el us n=.ok (t,us',n+t.size)/\lo us'=r
theorem tok_pos {t:VT} (h:t.cst=true):1<=t.tok.length:=by
 obtain ⟨k,u,r,e,_⟩:=zD5 t h;rw [e]; simp
theorem ls_rd {el:ElT}:∀ (items l:List VT) (us:List Tk) (n f:Nat) (r:List Lo),(∀ t∈items,RdE el t/\t.cst=true)->lo us=(VT.toks items).flatten++((1,[93])::r)->us.length<f->n+VT.sizes items<=4096 ->
  ∃ us',lsP el f l us n=.ok (l++items,us',n+VT.sizes items)/\lo us'=r
 | _,_,_,_,0,_,_,_,h,_=>absurd h (Nat.not_lt_zero _)
 | [],l,us,n,f+1,r,_,hu,_,_=>by
   refine ⟨us.tail, ?_,(rd_sg hu).2⟩
   rw [zr3,if_pos (zt8 hu),List.append_nil]; rfl
 | x::items,l,us,n,f+1,r,hx,hu,hf,hn=>by
   have hx0:=hx x List.mem_cons_self;have hu2:lo us=x.tok++((VT.toks items).flatten++((1,[93])::r)):=by rw [hu,VT.toks,List.flatten_cons,List.append_assoc]
   rw [VT.sizes] at hn;obtain ⟨us1,h1,h2⟩:=hx0.1 us n _ hu2 (by omega)
   have hlen:us1.length<us.length:=by
    rw [<- zk1 us, <- zk1 us1,hu2,h2];simp only [List.length_append]
    have:=tok_pos hx0.2;omega
   obtain ⟨us',h3,h4⟩:=ls_rd items (l++[x]) us1 (n+x.size) f r (fun t ht=>hx t (List.mem_cons_of_mem _ ht)) h2 (by omega) (by omega)
   refine ⟨us', ?_,h4⟩
   rw [zr3,if_neg (by rw [tok_no hx0.2 hu2 _ (by decide) (by decide)]; simp),za3 h1]
   simp only
   rw [h3,VT.sizes,List.append_assoc,Nat.add_assoc]; rfl
theorem ob_rd {el:ElT}:∀ (items:List VT) (keys ks:List ByteArray) (l:List VT) (us:List Tk) (n f:Nat) (r:List Lo),keys.length=items.length->(∀ t∈items,RdE el t/\t.cst=true)->(ks++keys).Nodup ->
  lo us=(List.zipWith (fun a b=>(2,a.data.toList)::(1,[58])::b) keys (VT.toks items)).flatten++((1,[125])::r)->us.length<f->n+VT.sizes items<=4096->∃ us',obP el f ks l us n=.ok (ks++keys,l++items,us',n+VT.sizes items)/\lo us'=r
 | _,_,_,_,_,_,0,_,_,_,_,_,h,_=>absurd h (Nat.not_lt_zero _)
 | [],[],ks,l,us,n,f+1,r,_,_,_,hu,_,_=>by
   refine ⟨us.tail, ?_,(rd_sg hu).2⟩
   rw [zr1,if_pos (zt8 hu),List.append_nil,List.append_nil]; rfl
 | [],k::keys,_,_,_,_,_+1,_,hl,_,_,_,_,_=>by simp at hl
 | _::_,[],_,_,_,_,_+1,_,hl,_,_,_,_,_=>by simp at hl
 | x::items,k::keys,ks,l,us,n,f+1,r,hl,hx,hd,hu,hf,hn=>by
   have hx0:=hx x List.mem_cons_self;have hu2:lo us=(2,k.data.toList)::(1,[58])::(x.tok++((List.zipWith (fun a b=>(2,a.data.toList)::(1,[58])::b) keys (VT.toks items)).flatten++((1,[125])::r))):=by
    rw [hu,VT.toks,List.zipWith_cons_cons,List.flatten_cons]; simp
   rw [VT.sizes] at hn;have g1:=rd_nm hu2;have g2:=rd_sg g1.2.1;rw [ba_eq] at g1;have hne:k ∉ ks:=by
    intro hk;have:=(List.nodup_append.1 hd).2.2 k hk k List.mem_cons_self;exact this rfl
   have g0:keyP ks us=.ok (k,us.tail):=by unfold keyP; rw [za3 g1.1]; simp only; rw [if_neg hne]
   obtain ⟨us1,h1,h2⟩:=hx0.1 us.tail.tail n _ g2.2 (by omega)
   have hlen:us1.length<us.length:=by
    rw [<- zk1 us, <- zk1 us1,hu2,h2];simp only [List.length_cons,List.length_append]
    omega
   obtain ⟨us',h3,h4⟩:=ob_rd items keys (ks++[k]) (l++[x]) us1 (n+x.size) f r (by simpa using hl) (fun t ht=>hx t (List.mem_cons_of_mem _ ht)) (by rw [List.append_assoc]; exact hd) h2 (by omega) (by omega)
   refine ⟨us', ?_,h4⟩
   have hs:isSg [125] us=false:=by rw [sg_lo,hu2]; rfl
   rw [zr1,if_neg (by rw [hs]; simp),za3 g0]
   simp only
   rw [za3 g2.1,za3 h1];simp only
   rw [h3,VT.sizes,List.append_assoc,List.append_assoc,Nat.add_assoc]; rfl
theorem zT1:∀ {l:List VT} {t:VT},t∈l->t.depth<=VT.depths l
 | x::r,t,h=>by
   rw [VT.depths];rcases List.mem_cons.1 h with rfl | h
   ·omega
   ·have:=zT1 h; omega
theorem num_at {l:List VT} {t:VT} (h:VT.nums l) (ht:t∈l):t.num:=by
 obtain ⟨i,hi,e⟩:=List.getElem_of_mem ht;exact zN7 h (by rw [List.getElem?_eq_getElem hi,e])
theorem va_mk {lv n:Nat} {L O:ElT} {us:List Tk} (h:bvR lv us n=.ok ()):vaP lv L O us n=if (hd us).1=2 then .ok (nmV ⟨(hd us).2.1.toArray⟩,us.tail,n+1) else if (hd us).1=3 then .ok (nuV ⟨(hd us).2.1.toArray⟩,us.tail,n+1) else if (hd us).1=4 then .ok (.mk 3 0 ⟨(hd us).2.1.toArray⟩ [] [],us.tail,n+1) else if (hd us).2.1=[91] then L us.tail (n+1) else O us.tail (n+1):=by
 unfold vaP; rw [za3 h]
theorem nmV_enum {s:ByteArray} (h:enumB s=true):nmV s=.mk 4 0 s [] []:=by
 unfold enumB at h;simp only [Bool.and_eq_true,Bool.not_eq_true',decide_eq_false_iff_not] at h
 unfold nmV;rw [if_neg h.1.1.1,if_neg h.1.1.2,if_neg h.1.2]
theorem val_rd (t:VT):∀ f lv:Nat,t.cst=true->t.num->t.depth<=f->lv+f<=25->RdE (vF obV f lv) t:=by
 refine VT.ind (P:=fun t=>∀ f lv:Nat,t.cst=true->t.num->t.depth<=f->lv+f<=25->RdE (vF obV f lv) t) (fun k n s l ks ih=>?_) t
 intro f lv hc hnum hd hlv us m r hu hm
 cases f with
 | zero=>rw [VT.depth] at hd; omega
 | succ f =>
   have hv:=cst_v _ hc;have hsz:=hm;rw [VT.size] at hsz;have hb:=bvT_ok hc hu (lv:=lv) (n:=m) (by omega) (by omega)
   have hit:=zF8 hc;rw [VT.num] at hnum;rw [VT.depth] at hd;show ∃ us',vaP lv (lsV (vF obV f (lv+1))) (obV (vF obV f (lv+1))) us m=_/\_
   rw [va_mk hb];have hall:∀ t∈l,RdE (vF obV f (lv+1)) t/\t.cst=true:=fun t ht=>by
    obtain ⟨i,hi,e⟩:=List.getElem_of_mem ht;refine ⟨ih i t (by rw [List.getElem?_eq_getElem hi,e]) f (lv+1) (hit t ht) (num_at hnum.2 ht) ?_ (by omega),hit t ht⟩
    have:=zT1 ht; omega
   cases hv with
   | null =>
     obtain ⟨h1,h2,h3,_⟩:=ze2 (hu.trans (by rw [tok_k]; rfl))
     rw [h1,h2];exact ⟨us.tail,rfl,h3⟩
   | bool hn =>
     obtain ⟨h1,h2,h3,_⟩:=ze2 (hu.trans (by rw [tok_k]; rfl))
     rw [h1,h2];rcases hn with rfl | rfl <;> exact ⟨us.tail,rfl,h3⟩
   | int =>
     obtain ⟨h1,h2,h3,_⟩:=ze2 (hu.trans (by rw [tok_k]; rfl))
     rw [h1,h2];refine ⟨us.tail, ?_,h3⟩
     rw [if_neg (by decide),if_pos rfl]
     unfold nuV;simp only
     rw [T1.zR9 n hnum.1.1 hnum.1.2]
     rfl
   | text =>
     obtain ⟨h1,h2,h3,_⟩:=ze2 (hu.trans (by rw [tok_k]; rfl))
     rw [h1,h2,ba_eq];exact ⟨us.tail,rfl,h3⟩
   | enum he =>
     obtain ⟨h1,h2,h3,_⟩:=ze2 (hu.trans (by rw [tok_k]; rfl))
     rw [h1,h2,ba_eq,if_pos rfl,nmV_enum he];exact ⟨us.tail,rfl,h3⟩
   | list =>
     have hu2:lo us=(1,[91])::((VT.toks l).flatten++((1,[93])::r)):=by rw [hu,tok_k]; simp
     obtain ⟨h1,h2,h3,_⟩:=ze2 hu2;rw [h1,h2,if_neg (by decide),if_neg (by decide),if_neg (by decide),if_pos rfl]
     obtain ⟨us',h4,h5⟩:=ls_rd l [] us.tail (m+1) (us.tail.length+1) r hall h3 (Nat.lt_succ_self _) (by omega)
     refine ⟨us', ?_,h5⟩
     unfold lsV;rw [za3 h4,VT.size];simp [Nat.add_assoc]
   | object hl hk hn =>
     have hu2:lo us=(1,[123])::((List.zipWith (fun a b=>(2,a.data.toList)::(1,[58])::b) ks (VT.toks l)).flatten++((1,[125])::r)):=by rw [hu,tok_k]; simp
     obtain ⟨h1,h2,h3,_⟩:=ze2 hu2;rw [h1,h2,if_neg (by decide),if_neg (by decide),if_neg (by decide),if_neg (by decide)]
     obtain ⟨us',h4,h5⟩:=ob_rd l ks [] [] us.tail (m+1) (us.tail.length+1) r hl hall hn h3 (Nat.lt_succ_self _) (by omega)
     refine ⟨us', ?_,h5⟩
     show exB (obP (vF obV f (lv+1)) (us.tail.length+1) [] [] us.tail (m+1)) _=_
     rw [za3 h4,VT.size];simp [Nat.add_assoc]
end Go.Proofs.YtfgelheiknmjgaaGreatDoor
namespace Go.Proofs.YtfgelheiknmjgaaGreatDoor.K
abbrev Ws:=List Int
def nnB (ws:Ws):Bool:=ws.head?==some 1
def strL (ws:Ws):Ws:=ws.filter (fun w=>decide (w≠1))
def lvL:Bool->Ws->List Bool
 | b,[]=>[b]
 | b,w::r=>if w=1 then lvL true r else b::lvL false r
def bitL (b:Bool):Ws:=if b=true then [1] else []
def mrL (r:List Bool):Ws:=r.flatMap fun c=>2::bitL c
def wlL:List Bool->Ws
 | []=>[]
 | b::r=>bitL b++mrL r
def rtF:Bool->Ws->Bool
 | _,[]=>true
 | p,w::r=>(w==2||(w==1&&!p))&&rtF (w==1) r
def lv (ws:Ws):List Bool:=lvL false ws
theorem zE6:∀ (ws:Ws) (b:Bool),(lvL b ws).length=(strL ws).length+1
 | [],b=>rfl
 | w::r,b=>by
   by_cases h:w=1
   ·rw [show lvL b (w::r)=lvL true r by simp [lvL,h],show strL (w::r)=strL r by simp [strL,h]]; exact zE6 r true
   ·rw [show lvL b (w::r)=b::lvL false r by simp [lvL,h],show strL (w::r)=w::strL r by simp [strL,h],List.length_cons,List.length_cons,zE6 r false]
theorem lv_len (ws:Ws):(lv ws).length=(strL ws).length+1:=zE6 ws false
theorem mr_lv:∀ (ws:Ws),(rtF false ws=true->wlL (lvL false ws)=ws)/\(rtF true ws=true->wlL (lvL true ws)=1::ws)
 | []=>⟨fun _=>rfl,fun _=>rfl⟩
 | w::r=>by
   have ih:=mr_lv r;have hm:∀ b,rtF false r=true->wlL (b::lvL false r)=bitL b++2::r:=fun b h=>by
    have:=ih.1 h;generalize hx:lvL false r=x at this
    cases x with
    | nil=>have:=zE6 r false; rw [hx] at this; simp at this
    | cons c x=>show bitL b++(2::bitL c++mrL x)=_; rw [<- this]; rfl
   refine ⟨fun h=>?_,fun h=>?_⟩
   ·unfold rtF at h
    by_cases h1:w=1
    ·subst h1; simp at h; unfold lvL; simpa using ih.2 h
    ·simp [h1] at h; obtain ⟨rfl,h⟩:=h; unfold lvL; simp; exact hm false h
   ·unfold rtF at h
    simp at h
    obtain ⟨rfl,h⟩:=h;unfold lvL; simp; exact hm true h
theorem wl_lv {ws:Ws} (h:rtF false ws=true):wlL (lv ws)=ws:=(mr_lv ws).1 h
def endB (w:Int):UInt8:=if w=1 then 33 else 93
def prL (n:List UInt8) (ws:Ws):List UInt8:=List.replicate (strL ws).length 91++n++ws.reverse.map endB
theorem pr_nil (n:List UInt8):prL n []=n:=by simp [prL,strL]
theorem pr_one (n:List UInt8) (r:Ws):prL n (1::r)=prL n r++[33]:=by
 unfold prL;rw [show strL (1::r)=strL r from rfl]; simp [endB]
theorem pr_two (n:List UInt8) (w:Int) (r:Ws) (h:w≠1):prL n (w::r)=91::prL n r++[93]:=by
 unfold prL;rw [show strL (w::r)=w::strL r by simp [strL,h]]; simp [endB,h,List.replicate_succ]
abbrev K2:=Int × List UInt8
def sgB (c:UInt8) (ts:List K2):Bool:=match ts with | []=>false | p::_=>decide (p.1=1/\p.2=[c])
def cntO:List K2->Nat
 | []=>0
 | p::r=>if p.1=1/\p.2=[91] then cntO r+1 else 0
def bangR (ws:Ws) (ts:List K2):Ws × List K2:=if sgB 33 ts=true then (ws++[1],ts.tail) else (ws,ts)
def clsR:Nat->Ws->List K2->Option (Ws × List K2)
 | 0,ws,ts=>some (ws,ts)
 | k+1,ws,ts=>if sgB 93 ts=true then clsR k (bangR (ws++[2]) ts.tail).1 (bangR (ws++[2]) ts.tail).2 else none
def nmO (ts:List K2):Option (List UInt8):=match ts with | []=>none | p::_=>if p.1=2 then some p.2 else none
def refP (ts:List K2):Option (List UInt8 × Ws × List K2) :=
 match nmO (ts.drop (cntO ts)) with
 | none=>none
 | some n=>match clsR (cntO ts) (bangR [] (ts.drop (cntO ts)).tail).1 (bangR [] (ts.drop (cntO ts)).tail).2 with
   | none=>none
   | some (ws,r)=>some (n,ws.reverse,r)
end Go.Proofs.YtfgelheiknmjgaaGreatDoor.K
