
/-
 Texts joined: I3 H6.
-/
import Derived.Test.YtfgelheiknmjgaaGreatDoorZt22
set_option maxRecDepth 1000000
set_option maxHeartbeats 8000000
namespace Go.Proofs.YtfgelheiknmjgaaGreatDoor
open Go.RowKit
theorem en_key:∀ (args:Array Value) (w:World),(callFunc 275 args).run Tryz.prog w=.ok (.enter 275 args) w:=enters_of Tryz.func275 (by kernel_rfl) rfl
theorem yo8:∀ (args:Array Value) (w:World),(callFunc 235 args).run Tryz.prog w=.ok (.enter 235 args) w:=enters_of Tryz.func235 (by kernel_rfl) rfl
def pvK (vb:Nat) (row x2 x3:Value):Nat->Option Value
 | 0=>some (.pointer (some ⟨vb,4,none⟩))
 | 1=>some row
 | 2=>some x2
 | 3=>some x3
 | 7=>some (.pointer (some ⟨vb,4,none⟩))
 | _=>none
def pvI (vb:Nat) (row x2 x3 x4:Value):Nat->Option Value
 | 0=>some (.pointer (some ⟨vb,3,none⟩))
 | 1=>some row
 | 2=>some x2
 | 3=>some x3
 | 4=>some x4
 | 8=>some (.pointer (some ⟨vb,3,none⟩))
 | _=>none
def KC (w0:World) (p:Nat) (kr ir:Value) (ks:List ByteArray) (cells:List Value) (l:List VT) (ts:List Tk) (n:Nat) (u:Value) (w:World):Prop:=∃ x ts',u=.string x/\keyP ks ts=.ok (x,ts')/\ts'.length<ts.length/\OSt w0 p kr ir ks cells l (ks++[x]) ts' n w
def KG (w0:World) (p:Nat) (kr ir:Value) (ks:List ByteArray) (cells:List Value) (l:List VT) (ts:List Tk) (n:Nat) (u:Value) (w:World):Prop:=∃ x ts' b,u=.slice (some ⟨b,0,none⟩) 1 1/\w.cell? ⟨b,0,none⟩=some (.string x)/\keyP ks ts=.ok (x,ts')/\ts'.length<ts.length/\OSt w0 p kr ir ks cells l (ks++[x]) ts' n w
def KE (w0:World) (p:Nat) (kr ir:Value) (ks:List ByteArray) (cells:List Value) (l:List VT) (ts:List Tk) (n:Nat) (u:Value) (w:World):Prop:=∃ x ts' w1,keyP ks ts=.ok (x,ts')/\ts'.length<ts.length/\OSt w0 p kr ir ks cells l (ks++[x]) ts' n w1 /\
 w.ownsRow (w0.heap.size+3) 9 1 u (ks.length+1) (ks.map Value.string++[.string x])/\w1.grownBy w kr.ownBlock/\(u.ownBlock=kr.ownBlock∨∃ g,u.ownBlock=some g/\w1.heap.size<=g)
def KF (w0:World) (p:Nat) (ir:Value) (ks:List ByteArray) (cells:List Value) (l:List VT) (ts:List Tk) (n:Nat) (w:World):Prop:=∃ x ts' kr',keyP ks ts=.ok (x,ts')/\ts'.length<ts.length/\OSt w0 p kr' ir (ks++[x]) cells l (ks++[x]) ts' n w
theorem KE.box {w0 w:World} {p n:Nat} {kr ir u:Value} {ks:List ByteArray} {cells:List Value} {l:List VT} {ts:List Tk} (h:KE w0 p kr ir ks cells l ts n u w):w.cell? ⟨w0.heap.size+1,4,none⟩=some kr/\w.frozen? ⟨w0.heap.size+1,4,none⟩=false:=by
 obtain ⟨x,ts',w1,_,_,ho,_,hg,_⟩:=h;have hz:=ho.size;have hb:Bk w (w0.heap.size+1) #[.int .i64 6,.int .i64 0,.string ⟨#[]⟩,ir,kr] 53 := (hg.block _ (by omega) (fun e=>by have:=(zf9 ho.kown e.symm).1; omega)).trans ho.box;exact ⟨hb.cell 4 _ rfl,hb.frz 4⟩
def ItV (w0 w:World) (kr ir:Value) (u:Value) (t:VT):Prop:=∃ k z s A li ci KA lk ck,u=.agg #[.int .i64 k,.int .i64 z,.string s,.slice A li ci,.slice KA lk ck]/\RdX kr.ownBlock w (fun b=>w0.heap.size+3<=b/\b<w.heap.size/\ir.ownBlock≠some b) (fun j=>[Value.int .i64 k,.int .i64 z,.string s,.slice A li ci,.slice KA lk ck].getD j undef) t
structure ItR (el:ElT) (ts:List Tk) (n:Nat) (t:VT) (ts':List Tk) (m:Nat):Prop where
 eq:el ts n=.ok (t,ts',m)
 lt:n<m
 le:m<=4096
 len:ts'.length<ts.length
def IC (el:ElT) (w0:World) (p:Nat) (kr ir:Value) (ks:List ByteArray) (cells:List Value) (l:List VT) (ts:List Tk) (n:Nat) (u:Value) (w:World):Prop:=∃ t ts' m,ItR el ts n t ts' m/\ItV w0 w kr ir u t/\OSt w0 p kr ir ks cells l ks ts' m w
def IG (el:ElT) (w0:World) (p:Nat) (kr ir:Value) (ks:List ByteArray) (cells:List Value) (l:List VT) (ts:List Tk) (n:Nat) (u:Value) (w:World):Prop:=∃ t ts' m w1 k z s A li ci KA lk ck,ItR el ts n t ts' m/\u=.slice (some ⟨w1.heap.size,0,none⟩) 1 1/\w=w1.alloc (.cells #[.int .i64 k,.int .i64 z,.string s,.slice A li ci,.slice KA lk ck] 53 (0,0)) /\
 RdX kr.ownBlock w1 (fun b=>w0.heap.size+3<=b/\b<w1.heap.size/\ir.ownBlock≠some b) (fun j=>[Value.int .i64 k,.int .i64 z,.string s,.slice A li ci,.slice KA lk ck].getD j undef) t/\OSt w0 p kr ir ks cells l ks ts' m w1
def IE (el:ElT) (w0:World) (p:Nat) (kr ir:Value) (ks:List ByteArray) (cells:List Value) (l:List VT) (ts:List Tk) (n:Nat) (u:Value) (w:World):Prop:=∃ t ts' m w1 k z s A li ci KA lk ck,ItR el ts n t ts' m /\
 RdX kr.ownBlock w1 (fun b=>w0.heap.size+3<=b/\b<w1.heap.size/\ir.ownBlock≠some b) (fun j=>[Value.int .i64 k,.int .i64 z,.string s,.slice A li ci,.slice KA lk ck].getD j undef) t/\OSt w0 p kr ir ks cells l ks ts' m w1 /\
 w.ownsRow (w0.heap.size+3) 53 5 u (l.length+1) (cells++[.int .i64 k,.int .i64 z,.string s,.slice A li ci,.slice KA lk ck])/\(w1.alloc (.cells #[.int .i64 k,.int .i64 z,.string s,.slice A li ci,.slice KA lk ck] 53 (0,0))).grownBy w ir.ownBlock/\(u.ownBlock=ir.ownBlock∨∃ g,u.ownBlock=some g/\(w1.alloc (.cells #[.int .i64 k,.int .i64 z,.string s,.slice A li ci,.slice KA lk ck] 53 (0,0))).heap.size<=g)
def IFin (el:ElT) (w0:World) (p:Nat) (kr:Value) (ks:List ByteArray) (l:List VT) (ts:List Tk) (n:Nat) (w:World):Prop:=∃ t ts' m ir' cells',ItR el ts n t ts' m/\OSt w0 p kr ir' ks cells' (l++[t]) ks ts' m w
theorem IE.box {el:ElT} {w0 w:World} {p n:Nat} {kr ir u:Value} {ks:List ByteArray} {cells:List Value} {l:List VT} {ts:List Tk} (h:IE el w0 p kr ir ks cells l ts n u w):w.cell? ⟨w0.heap.size+1,3,none⟩=some ir/\w.frozen? ⟨w0.heap.size+1,3,none⟩=false:=by
 obtain ⟨t,ts',m,w1,k,z,s,A,li,ci,KA,lk,ck,_,_,ho,_,hg,_⟩:=h;have hz:=ho.size;have hb0:=(za0 w1 (.cells #[.int .i64 k,.int .i64 z,.string s,.slice A li ci,.slice KA lk ck] 53 (0,0)));have hb:Bk w (w0.heap.size+1) #[.int .i64 6,.int .i64 0,.string ⟨#[]⟩,ir,kr] 53 := (hg.block _ (by rw [World.size_alloc]; omega) (fun e=>by have:=(zf9 ho.els.own e.symm).1; omega)).trans ((hb0.block _ (by omega)).trans ho.box);exact ⟨hb.cell 3 _ rfl,hb.frz 3⟩
theorem zQ2 (p lv:Nat) (el:ElT) (hlv:lv<=24) (hel:∀ (W:World) (ts:List Tk) (m:Nat),PSt W p ts m->m<=4096->Calls Tryz.prog 235 #[pP p,.int .i64 ((lv:Int)+1)] W (zh0 W p m ts.length (el ts m)))
  (w:World) (ts:List Tk) (n:Nat) (h:PSt w p ts n) (hn:n<=4096):Calls Tryz.prog 261 #[pP p,.int .i64 lv] w (zo0 w p n ts.length (obV el ts n)):=by
 have hpw:=h.lt;have hmk:∀ (t:TypeId) (w:World),(Instr.makeMap t none).run Tryz.prog w=.ok (.map (some w.heap.size)) (w.alloc (.map #[] 0)):=fun _ _=>rfl;have hHO:∃ w3:World,w3=((w.alloc (.cells #[.int .i64 0,.int .i64 0,.string ⟨#[]⟩,.slice none 0 0,.slice none 0 0] 53 (0,0))).alloc (.cells #[.int .i64 6,.int .i64 0,.string ⟨#[]⟩,.slice none 0 0,.slice none 0 0] 53 (0,0))).alloc (.map #[] 0)/\OSt w p (.slice none 0 0) (.slice none 0 0) [] [] [] [] ts n w3:=by
  refine ⟨_,rfl, ?_⟩
  have b1:=za0 w (.cells #[.int .i64 0,.int .i64 0,.string ⟨#[]⟩,.slice none 0 0,.slice none 0 0] 53 (0,0));have x1:=Bk.new w #[.int .i64 0,.int .i64 0,.string ⟨#[]⟩,.slice none 0 0,.slice none 0 0] 53;generalize hw1:w.alloc (.cells #[.int .i64 0,.int .i64 0,.string ⟨#[]⟩,.slice none 0 0,.slice none 0 0] 53 (0,0))=w1 at *;have s1:w1.heap.size=w.heap.size+1:=by rw [<- hw1,World.size_alloc]
  have b2:=za0 w1 (.cells #[.int .i64 6,.int .i64 0,.string ⟨#[]⟩,.slice none 0 0,.slice none 0 0] 53 (0,0));have x2:=Bk.new w1 #[.int .i64 6,.int .i64 0,.string ⟨#[]⟩,.slice none 0 0,.slice none 0 0] 53;generalize hw2:w1.alloc (.cells #[.int .i64 6,.int .i64 0,.string ⟨#[]⟩,.slice none 0 0,.slice none 0 0] 53 (0,0))=w2 at *;have s2:w2.heap.size=w.heap.size+2:=by rw [<- hw2,World.size_alloc,s1]
  have b3:=za0 w2 (.map #[] 0);have hm:SnAt (w2.alloc (.map #[] 0)) w2.heap.size []:=World.ownsMap_made _ _ _ _;rw [s1] at x2;rw [s2] at hm;have s3:(w2.alloc (.map #[] 0)).heap.size=w.heap.size+3:=by rw [World.size_alloc,s2]
  exact ⟨((h.stay b1).stay b2).stay b3,hm,x2.stay b3,⟨rfl,.inl ⟨rfl,rfl⟩⟩,Els.nil _ _ _ _ _,fun b hb=>(by cases hb),(x1.stay b2).stay b3,.of ((b1.trans (b2.mono b1.size)).trans (b3.mono (by omega))),hpw,by omega,fun s hs=>by simp at hs⟩
 obtain ⟨W3,hW3,hos⟩:=hHO;have HEL:=Lh hel;obtain ⟨R,hR⟩ : ∃ R,R=obP el (ts.length+1) [] [] ts n:=⟨_,rfl⟩;have HOV:Hid (obV el ts n=exB R fun q=>.ok (.mk 6 0 ⟨#[]⟩ q.2.1 q.1,q.2.2.1,q.2.2.2)):=Lh (by rw [hR]; rfl);have HV2:=Lh hR;have HOS:=Lh hos;have HW3:=Lh hW3;have hlvb:(lv:Int)<=24:=by omega
 have hgl:=h.good.len;generalize obV el ts n=RO at *;clear h hel hR hos hW3
 go_enter Tryz.func261, Tryz.ntmps261
 go_wp2_with fail
 rw [<- HW3.out]
 go_loopw [] (fun wr=>∃ (ks:List ByteArray) (l:List VT) (cells:List Value) (kr ir:Value) (tr:List Tk) (f m:Nat),ks.length=l.length/\l.length+n<=m/\m<=4096/\tr.length<=ts.length/\Hid (R=obP el f ks l tr m/\tr.length<f/\OSt w p kr ir ks cells l ks tr m wr)) (fun wr=>tlen p wr)
 case atStart=>exact ⟨[],[],[],_,_,ts,_,n,rfl,by simp,hn,Nat.le_refl _,Lh ⟨HV2.out,Nat.lt_succ_self _,HOS.out⟩⟩
 case round =>
  obtain ⟨ks,l,cells,kr,ir,tr,f,m,hkl,hlm,hm4,htl,hr⟩:=hrel;obtain ⟨f',hf'⟩ : ∃ f',f=f'+1:=⟨f-1,by have:=hr.out.2.1; omega⟩;subst hf';have HKL:=Lh hkl;have HLM:=Lh hlm;have HM4:=Lh hm4;have HTL:=Lh htl;clear hkl hlm hm4 htl
  cases hsg:isSg [125] tr with
  | true =>
    have HD:Hid (R=.ok (ks,l,tr.tail,m)):=Lh (hr.out.1.trans (by rw [zu9,if_pos hsg]));have HC:=Lh (zb2 hr.out.2.2.pst ⟨#[125]⟩ _ hsg);have HLT:=Lh (zw8 hsg);clear hsg;go_wp2_with fail;refine HC.out.mono ?_
    rintro e w2 ⟨rfl,hp2,ht2⟩;have hO2:OSt w p kr ir ks cells l ks tr.tail m w2:=hr.out.2.2.tws ht2 hp2;obtain ⟨A4,c4,hk4⟩:=zr1 hO2.kown;obtain ⟨A3,c3,hi3⟩:=zr1 hO2.els.own;subst hk4 hi3;have HO2:=Lh hO2;obtain ⟨x0,x1,x2,x3,x4⟩:=hO2.box.c5;obtain ⟨z0,z1,z2,z3,z4⟩:=hO2.res.c5;have g0:=hO2.res.frz 0;have g1:=hO2.res.frz 1;have g2:=hO2.res.frz 2;have g3:=hO2.res.frz 3;have g4:=hO2.res.frz 4;clear hp2 ht2 hO2;generalize hkz:ks.length=kz at *;generalize hlz:l.length=lz at *;have HKZ:=Lh hkz;have HLZ:=Lh hlz;clear hkz hlz;go_wp2_with fail;have HZ:=Lh (((((HO2.out.res.setl (l:=[_,_,_,_,_]) 0 (.int .i64 6)).setl 1 (.int .i64 0)).setl 2 (.string ⟨#[]⟩)).setl 3 (.slice A3 lz c3)).setl 4 (.slice A4 kz c4));obtain ⟨y0,y1,y2,y3,y4⟩:=HZ.out.c5;have hT:=HO2.out.tw;have hsz2:=HO2.out.size;refine bodyPost_ret (v:=.agg #[.int .i64 6,.int .i64 0,.string ⟨#[]⟩,.slice A3 lz c3,.slice A4 kz c4]) (by simp [results,Tryz.results261,go_sem,y0,y1,y2,y3,y4]) rfl (.inl ⟨.mk 6 0 ⟨#[]⟩ l ks,tr.tail,m,_,HOV.out.trans (za2 HD.out),rfl, ?_, ?_, ?_,by have:=HLM.out; omega,HM4.out,by have:=HLT.out; have:=HTL.out; omega⟩)
    ·have hkl:=HKL.out
     have hlz9:=HLZ.out;have hkz9:=HKZ.out;have hll:l.length<=5000:=by have:=HLM.out; have:=HM4.out; omega
     have hkk:ks.length<=5000:=by omega
     have hrd:RdS w2 (fun b=>w.heap.size+3<=b/\b<w2.heap.size) (.agg #[.int .i64 6,.int .i64 0,.string ⟨#[]⟩,.slice A3 lz c3,.slice A4 kz c4]) (.mk 6 0 ⟨#[]⟩ l ks):=RdS.ofObj (base:=w.heap.size+3) (fun b h1 h2=>⟨h1,h2⟩) HO2.out.kown HO2.out.els HO2.out.ksz hkk hll;refine RdS.kept hrd (fun b hb=>?_) (fun b hb=>⟨by have:=hb.1; omega,by simp [World.setCell]; exact hb.2⟩);have hne:b≠w.heap.size:=by have:=hb.1; omega
     rw [Below.heap_setCell _ _ _ _ hne,Below.heap_setCell _ _ _ _ hne,Below.heap_setCell _ _ _ _ hne,Below.heap_setCell _ _ _ _ hne,Below.heap_setCell _ _ _ _ hne]
    ·exact HO2.out.pst.same ((((((Below.refl (p+1) w2).setCell (p:=⟨w.heap.size,0,none⟩) (by show p+1<=w.heap.size; omega) _).setCell (p:=⟨w.heap.size,1,none⟩) (by show p+1<=w.heap.size; omega) _).setCell (p:=⟨w.heap.size,2,none⟩) (by show p+1<=w.heap.size; omega) _).setCell (p:=⟨w.heap.size,3,none⟩) (by show p+1<=w.heap.size; omega) _).setCell (p:=⟨w.heap.size,4,none⟩) (by show p+1<=w.heap.size; omega) _)
    ·exact ((((hT.setNew (Nat.le_refl _) 0 _).setNew (Nat.le_refl _) 1 _).setNew (Nat.le_refl _) 2 _).setNew (Nat.le_refl _) 3 _).setNew (Nat.le_refl _) 4 _
  | false =>
    have HD:Hid (R=exB (keyP ks tr) fun q=>exB (sgR [58] q.2) fun t2=>exB (el t2 m) fun r=>obP el f' (ks++[q.1]) (l++[r.1]) r.2.1 r.2.2):=Lh (hr.out.1.trans (by rw [zu9,if_neg (by rw [hsg]; decide)]));have HC:=Lh (zb2 hr.out.2.2.pst ⟨#[125]⟩ _ hsg);clear hsg;go_wp2_with fail;refine HC.out.mono ?_
    rintro e wc ⟨rfl,hp2,ht2⟩;have HO2:Hid (OSt w p kr ir ks cells l ks tr m wc):=Lh (hr.out.2.2.tws ht2 hp2);clear hp2 ht2 HC;go_wp2_with fail;have HOD:Hid (OSt w p kr ir ks cells l ks tr m wc.drew):=Lh (HO2.out.stay ((Below.refl _ _).drew));clear HO2;refine zj1 (pv:=pvK (w.heap.size+1) kr (pP p) (.map (some (w.heap.size+2)))) (ia:=1) (ib:=4) (ic:=5) (ie:=6) (ix:=8) (C:=KC w p kr ir ks cells l tr m) (G:=KG w p kr ir ks cells l tr m) (E:=KE w p kr ir ks cells l tr m) (F:=KF w p ir ks cells l tr m) (by kernel_rfl) (by kernel_rfl) (by kernel_rfl) ⟨by decide,by decide,by decide,by decide,by decide,by decide,by decide,by decide,by decide,by decide,rfl,rfl,rfl,rfl⟩ ?_ ?_ ?_ ?_ ?_ ?_ ?_ ?_ (by decide) ?_
    ·intro o ho; cases ho; exact ⟨⟨4,.data⟩,by simp,rfl,rfl⟩
    ·intro o ho; cases ho; exact ⟨⟨⟨5,.data⟩,by simp,rfl,rfl⟩,⟨1,.data⟩,by simp,rfl,rfl⟩
    ·intro o ho; cases ho; exact ⟨⟨6,.data⟩,by simp,rfl,rfl⟩
    ·intro i o ho n1 n2 n3 n4 a w2 hf had hw
     have hi:i<9:=(Array.getElem?_eq_some_iff.1 ho).1;have hc:i=0∨i=1∨i=2∨i=3∨i=7:=by omega
     rcases hc with rfl | rfl | rfl | rfl | rfl
     ·cases ho
      exact yg4 rfl (.tmp 5) rfl (K.Fr.slot hf 5 (by kernel_rfl)) ⟨rfl,fun x hx=>by cases hx; rfl⟩
     ·cases ho
      have h0:K.vof _ a 0=.pointer (some ⟨w.heap.size+1,4,none⟩):=had ⟨0,.data⟩ (by simp) rfl _ rfl;have hcell:w2.cell? ⟨w.heap.size+1,4,none⟩=some kr:=by
       rcases hw with rfl | ⟨u,_,_,_,_,_,ho⟩ | ⟨u,_,_,_,_,_,_,_,ho⟩ | ⟨hn,_⟩
       ·exact HOD.out.row.1
       ·exact ho.row.1
       ·exact ho.row.1
       ·exact absurd rfl hn
      exact rg_ldS rfl (.tmp 12) rfl h0 hcell ⟨rfl,fun x hx=>by cases hx; rfl⟩
     ·cases ho
      exact zp3 rfl (.tmp 0) rfl (K.Fr.slot hf 0 (by kernel_rfl)) ⟨rfl,fun x hx=>by cases hx; rfl⟩
     ·cases ho
      exact zp3 rfl (.tmp 6) rfl (K.Fr.slot hf 6 (by kernel_rfl)) ⟨rfl,fun x hx=>by cases hx; rfl⟩
     ·cases ho
      exact yg4 rfl (.tmp 5) rfl (K.Fr.slot hf 5 (by kernel_rfl)) ⟨rfl,fun x hx=>by cases hx; rfl⟩
    ·intro o ho a hf had
     cases ho
     have h2:K.vof _ a 2=pP p:=had ⟨2,.data⟩ (by simp) rfl _ rfl;have h3:K.vof _ a 3=.map (some (w.heap.size+2)):=had ⟨3,.data⟩ (by simp) rfl _ rfl;refine ze7 rfl _ _ _ rfl en_key #[pP p,.map (some (w.heap.size+2))] (by rw [K.map2,show a.eval (.tmp 14)=_ from h2,show a.eval (.tmp 15)=_ from h3]) ?_
     refine (pkey_any ks HOD.out.pst HOD.out.sn (by omega) (by have:=HKL.out; have:=HLM.out; have:=HM4.out; omega)).mono ?_
     rintro e w4 (⟨x,ts',hre,rfl,hp,hs,hxz,hlt,ht⟩ | ⟨x,hre,rfl,ht⟩)
     ·refine .inl ⟨_,rfl,x,ts',rfl,hre,hlt,HOD.out.step ht hp hs (fun s hs=>?_)⟩
      rcases List.mem_append.1 hs with h | h
      ·exact HOD.out.ksz s h
      ·rw [List.mem_singleton.1 h]; exact hxz
     ·refine .inr ⟨_,rfl, ?_⟩
      have hD9:=HD.out.trans (za6 hre);have hT9:Tw p w.heap.size w w4:=HOD.out.tw.trans ⟨ht.os,ht.tape,ht.output,ht.size,fun k hk hkp=>ht.block k (by have:=HOD.out.size; omega) hkp (by omega)⟩;exact And.intro (hf.1.trans rfl) (.inr ⟨x,HOV.out.trans (za6 hD9),rfl,hT9⟩)
    ·intro o ho a w2 hf ⟨x,ts',hu,hre,hlt,hos⟩
     cases ho
     exact rg_makeS rfl (.tmp 16) rfl hu ⟨x,ts',_,rfl,zr3 _ _ _ 0 (by simp),hre,hlt,hos.stay (za0 _ _)⟩
    ·intro o ho a w2 hf h1 ⟨x,ts',b,hu,hcb,hre,hlt,hos⟩
     cases ho
     refine zU0 rfl (.tmp 13) (.tmp 17) _ rfl (w.heap.size+3) 9 _ 1 16 Tryz.underlying33 infoS rfl (by decide) kr ks.length _ (h1 _ rfl) hos.kown ⟨b,0,none⟩ [.string x] hu rfl ?_ (by simp [Value.oneCell']) (by unfold maxLen; have:=HKL.out; have:=HLM.out; have:=HM4.out; omega) (by have:=HKL.out; have:=HLM.out; have:=HM4.out; omega) hos.size ?_
     ·intro j u hj
      cases j with
      | zero=>cases hj; rw [Addr.add_mid]; exact hcb
      | succ j=>simp at hj
     ·exact fun v' w' q1 q2 q3=>⟨x,ts',w2,hre,hlt,hos,q1,q2,q3⟩
    ·intro o ho a w2 hf had hE
     cases ho
     have h7:K.vof _ a 7=.pointer (some ⟨w.heap.size+1,4,none⟩):=had ⟨7,.data⟩ (by simp) rfl _ rfl;obtain ⟨q1,q2⟩:=hE.box;obtain ⟨x,ts',w1,hre,hlt,hos,hown,hgr,hfr⟩:=hE;exact yg3 rfl (.tmp 19) (.tmp 18) rfl h7 rfl (by obtain ⟨A,c,e⟩:=zr1 hown; exact ⟨A,_,c,e⟩) q1 q2 ⟨x,ts',_,hre,hlt,hos.pushK hown hgr hfr⟩
    intro a w5 hf ⟨x,ts3,kr3,hkey,hlt3,hos3⟩;have ha:=K.zg2 hf [12,13,14,15,16,17,18,19] (by kernel_rfl);generalize (fun d=>a.tmps.getD d undef)=f9 at ha;subst ha;clear hf;simp only [K.over,List.foldl_cons,List.foldl_nil,Act.put,List.setIfInBounds_toArray,List.set_cons_succ,List.set_cons_zero];generalize f9 12=u12;generalize f9 13=u13;generalize f9 14=u14;generalize f9 15=u15;generalize f9 16=u16;generalize f9 17=u17;generalize f9 18=u18;generalize f9 19=u19;have HD3:Hid (R=exB (sgR [58] ts3) fun t2=>exB (el t2 m) fun r=>obP el f' (ks++[x]) (l++[r.1]) r.2.1 r.2.2):=Lh (HD.out.trans (za2 hkey));have HO5:=Lh hos3;have HL3:=Lh hlt3;clear hkey hlt3 hos3 HOD;go_wp2_with fail;refine (ze5 HO5.out.pst ⟨#[58]⟩).mono ?_
    rintro e w6 hpost;rcases hpost with ⟨t2,hre,rfl,hp,ht⟩ | ⟨x6,hre,rfl,ht⟩;rotate_left
    ·have hD9:=HD3.out.trans (za6 hre)
     have hT9:=HO5.out.tw.step HO5.out.tw.size ht;exact ⟨rfl,.inr ⟨x6,HOV.out.trans (za6 hD9),rfl,hT9⟩⟩
    have HD4:Hid (R=exB (el t2 m) fun r=>obP el f' (ks++[x]) (l++[r.1]) r.2.1 r.2.2):=Lh (HD3.out.trans (za2 hre));have HO6:Hid (OSt w p kr3 ir (ks++[x]) cells l (ks++[x]) t2 m w6):=Lh (HO5.out.tws ht hp);have HL4:Hid (t2.length<tr.length):=Lh (by have:=zn2 hre; have:=HL3.out; omega);clear hre hp ht;go_wp2_with fail;have HOD:Hid (OSt w p kr3 ir (ks++[x]) cells l (ks++[x]) t2 m w6.drew):=Lh (HO6.out.stay ((Below.refl _ _).drew));clear HO6;refine zj1 (pv:=pvI (w.heap.size+1) ir (pP p) (.int .i64 lv) (.int .i64 ((lv:Int)+1))) (ia:=1) (ib:=5) (ic:=6) (ie:=7) (ix:=9) (C:=IC el w p kr3 ir (ks++[x]) cells l t2 m) (G:=IG el w p kr3 ir (ks++[x]) cells l t2 m) (E:=IE el w p kr3 ir (ks++[x]) cells l t2 m) (F:=IFin el w p kr3 (ks++[x]) l t2 m) (by kernel_rfl) (by kernel_rfl) (by kernel_rfl) ⟨by decide,by decide,by decide,by decide,by decide,by decide,by decide,by decide,by decide,by decide,rfl,rfl,rfl,rfl⟩ ?_ ?_ ?_ ?_ ?_ ?_ ?_ ?_ (by decide) ?_
    ·intro o ho; cases ho; exact ⟨⟨5,.data⟩,by simp,rfl,rfl⟩
    ·intro o ho; cases ho; exact ⟨⟨⟨6,.data⟩,by simp,rfl,rfl⟩,⟨1,.data⟩,by simp,rfl,rfl⟩
    ·intro o ho; cases ho; exact ⟨⟨7,.data⟩,by simp,rfl,rfl⟩
    ·intro i o ho n1 n2 n3 n4 a w2 hf had hw
     have hi:i<10:=(Array.getElem?_eq_some_iff.1 ho).1;have hc:i=0∨i=1∨i=2∨i=3∨i=4∨i=8:=by omega
     rcases hc with rfl | rfl | rfl | rfl | rfl | rfl
     ·cases ho
      exact yg5 rfl (.tmp 5) rfl (K.Fr.slot hf 5 (by kernel_rfl)) ⟨rfl,fun x hx=>by cases hx; rfl⟩
     ·cases ho
      have h0:K.vof _ a 0=.pointer (some ⟨w.heap.size+1,3,none⟩):=had ⟨0,.data⟩ (by simp) rfl _ rfl;have hcell:w2.cell? ⟨w.heap.size+1,3,none⟩=some ir:=by
       rcases hw with rfl | ⟨u,_,_,_,_,_,ho⟩ | ⟨u,_,_,_,w1,_,_,_,_,_,_,_,_,_,_,_,rfl,_,ho⟩ | ⟨hn,_⟩
       ·exact HOD.out.row.2
       ·exact ho.row.2
       ·exact (ho.stay (za0 _ _)).row.2
       ·exact absurd rfl hn
      exact rg_ldV rfl (.tmp 22) rfl h0 hcell ⟨rfl,fun x hx=>by cases hx; rfl⟩
     ·cases ho
      exact zp3 rfl (.tmp 0) rfl (K.Fr.slot hf 0 (by kernel_rfl)) ⟨rfl,fun x hx=>by cases hx; rfl⟩
     ·cases ho
      exact zp3 rfl (.tmp 1) rfl (K.Fr.slot hf 1 (by kernel_rfl)) ⟨rfl,fun x hx=>by cases hx; rfl⟩
     ·cases ho
      have h3:K.vof _ a 3=.int .i64 lv:=had ⟨3,.data⟩ (by simp) rfl _ rfl;exact rg_add rfl (.tmp 25) (n:=lv) (by omega) rfl h3 ⟨rfl,fun x hx=>by cases hx; rfl⟩
     ·cases ho
      exact yg5 rfl (.tmp 5) rfl (K.Fr.slot hf 5 (by kernel_rfl)) ⟨rfl,fun x hx=>by cases hx; rfl⟩
    ·intro o ho a hf had
     cases ho
     have h2:K.vof _ a 2=pP p:=had ⟨2,.data⟩ (by simp) rfl _ rfl;have h4:K.vof _ a 4=.int .i64 ((lv:Int)+1):=had ⟨4,.data⟩ (by simp) rfl _ rfl;refine ze7 rfl _ _ _ rfl yo8 #[pP p,.int .i64 ((lv:Int)+1)] (by rw [K.map2,show a.eval (.tmp 24)=_ from h2,show a.eval (.tmp 26)=_ from h4]) ?_
     refine (HEL.out _ t2 m HOD.out.pst HM4.out).mono ?_
     rintro e w4 (⟨t,ts',m',v,hre,rfl,hx,hp,ht,hmm,hm4',hlt⟩ | ⟨x,hre,rfl,ht⟩)
     ·obtain ⟨k,z,s,A,li,ci,KA,lk,ck,hv1⟩:=RdS.form hx
      subst hv1;refine .inl ⟨_,rfl,t,ts',m',⟨hre,hmm,hm4',hlt⟩,⟨k,z,s,A,li,ci,KA,lk,ck,rfl, ?_⟩,HOD.out.tws ht hp⟩;have hzz:=HOD.out.size;exact RdS.kept hx (fun _ _=>rfl) (fun b hb=>⟨⟨by omega,hb.2,fun e=>by have:=(zf9 HOD.out.els.own e).2; omega⟩,fun e=>by have:=(zf9 HOD.out.kown e).2; omega⟩)
     ·refine .inr ⟨_,rfl, ?_⟩
      have hD9:=HD4.out.trans (za6 hre);have hT9:Tw p w.heap.size w w4:=HOD.out.tw.step HOD.out.tw.size ht;exact And.intro (hf.1.trans rfl) (.inr ⟨x,HOV.out.trans (za6 hD9),rfl,hT9⟩)
    ·intro o ho a w2 hf ⟨t,ts',m',hit,⟨k,z,s,A,li,ci,KA,lk,ck,hu,hx⟩,hos⟩
     cases ho
     exact rg_makeV rfl (.tmp 27) rfl hu ⟨t,ts',m',w2,k,z,s,A,li,ci,KA,lk,ck,hit,rfl,rfl,hx,hos⟩
    ·intro o ho a w2 hf h1 ⟨t,ts',m',w1,k,z,s,A,li,ci,KA,lk,ck,hit,hu,hw2,hx,hos⟩
     cases ho
     subst hw2;have b1:=za0 w1 (.cells #[.int .i64 k,.int .i64 z,.string s,.slice A li ci,.slice KA lk ck] 53 (0,0));refine zU0 rfl (.tmp 23) (.tmp 28) _ rfl (w.heap.size+3) 53 _ 5 80 Tryz.underlying51 zV0 rfl (by decide) ir l.length _ (h1 _ rfl) (ze9 hos.els.own (fun g hg=>b1.block g hg)) ⟨w1.heap.size,0,none⟩ [.int .i64 k,.int .i64 z,.string s,.slice A li ci,.slice KA lk ck] hu rfl (zf0 w1 _ _) ?_ (by unfold maxLen; have:=HKL.out; have:=HLM.out; have:=HM4.out; omega) (by have:=HKL.out; have:=HLM.out; have:=HM4.out; omega) (Nat.le_trans hos.size b1.size) ?_
     ·intro u hu; simp only [List.mem_cons,List.not_mem_nil,or_false] at hu; rcases hu with rfl | rfl | rfl | rfl | rfl <;> rfl
     ·exact fun v' w' q1 q2 q3=>⟨t,ts',m',w1,k,z,s,A,li,ci,KA,lk,ck,hit,hx,hos,q1,q2,q3⟩
    ·intro o ho a w2 hf had hE
     cases ho
     have h7:K.vof _ a 8=.pointer (some ⟨w.heap.size+1,3,none⟩):=had ⟨8,.data⟩ (by simp) rfl _ rfl;obtain ⟨q1,q2⟩:=hE.box;obtain ⟨t,ts',m',w1,k,z,s,A,li,ci,KA,lk,ck,hit,hx,hos,hown,hgr,hfr⟩:=hE;exact yg2 rfl (.tmp 30) (.tmp 29) rfl h7 rfl (by obtain ⟨A,c,e⟩:=zr1 hown; exact ⟨A,_,c,e⟩) q1 q2 ⟨t,ts',m',_,_,hit,hos.pushI (za0 _ _) hx (fun j hj=>rfl) hown hgr hfr⟩
    intro a w7 hf ⟨t,ts7,m7,ir7,cells7,hit,hos7⟩;have ha:=K.zg2 hf [22,23,24,25,26,27,28,29,30] (by kernel_rfl);generalize (fun d=>a.tmps.getD d undef)=f9 at ha;subst ha;clear hf;simp only [K.over,List.foldl_cons,List.foldl_nil,Act.put,List.setIfInBounds_toArray,List.set_cons_succ,List.set_cons_zero];generalize f9 22=u22;generalize f9 23=u23;generalize f9 24=u24;generalize f9 25=u25;generalize f9 26=u26;generalize f9 27=u27;generalize f9 28=u28;generalize f9 29=u29;generalize f9 30=u30;have HD7:Hid (R=obP el f' (ks++[x]) (l++[t]) ts7 m7):=Lh (HD4.out.trans (za2 hit.eq));have HO7:=Lh hos7;have HIT:=Lh hit;clear hit hos7 HOD
    go_roundw
    case rel=>exact ⟨_,_,_,_,_,_,_,_,_,_,_,_,_,_,_,_,_,_,_,_,_,_,⟨ks++[x],l++[t],cells7,kr3,ir7,ts7,f',m7,by rw [List.length_append,List.length_append,HKL.out]; rfl,by have:=HLM.out; have:=HIT.out.lt; rw [List.length_append,List.length_singleton]; omega,HIT.out.le,by have:=HIT.out.len; have:=HL4.out; have:=HTL.out; omega,Lh ⟨HD7.out,by have:=HIT.out.len; have:=HL4.out; have:=hr.out.2.1; omega,HO7.out⟩⟩,rfl⟩
    case measure=>rw [HO7.out.pst.tlen,hr.out.2.2.pst.tlen]; have:=HIT.out.len; have:=HL4.out; omega
def kdX (x:ByteArray):Nat:=if x=⟨#[116,121,112,101]⟩ then 1 else if x=⟨#[105,110,116,101,114,102,97,99,101]⟩ then 2 else if x=⟨#[117,110,105,111,110]⟩ then 3 else if x=⟨#[101,110,117,109]⟩ then 4 else if x=⟨#[105,110,112,117,116]⟩ then 5 else 0
def kdR (t:Tk):Nat:=if t.1=2 then kdX ⟨t.2.1.toArray⟩ else 0
theorem zQ4 (t:Tk) (w:World):Calls Tryz.prog 53 #[tkV t] w (fun e w'=>e=.returned (.int .i64 (kdR t))/\Below w.heap.size w w'):=by
 obtain ⟨k,tx,i⟩:=t;have HV:Hid (kdR (k,tx,i)=if k=2 then kdX ⟨tx.toArray⟩ else 0):=Lh rfl;have HB0:=Lh (za0 w (.cells #[.int .i64 k,.string ⟨tx.toArray⟩,.int .i64 i] 99 (0,0)));have HK:Hid (Bk (w.alloc (.cells #[.int .i64 k,.string ⟨tx.toArray⟩,.int .i64 i] 99 (0,0))) w.heap.size #[.int .i64 k,.string ⟨tx.toArray⟩,.int .i64 i] 99):=Lh (Bk.new _ _ _);unfold tkV;show Calls _ _ #[.agg #[.int .i64 k,.string ⟨tx.toArray⟩,.int .i64 i]] _ _;generalize (⟨tx.toArray⟩ : ByteArray)=tb at *;generalize kdR (k,tx,i)=R at *;by_cases hk:k=2;rotate_left
 ·have hR:R=0:=by rw [HV.out,if_neg hk]
  subst hR
  go_enter Tryz.func53, Tryz.ntmps53
  go_wp2_with fail
  refine bodyPost_ret (v:=.int .i64 0) (by simp [results,Tryz.results53,go_sem]) rfl ⟨rfl,HB0.out⟩
 subst hk;have HV1:Hid (R=kdX tb):=Lh (by rw [HV.out,if_pos rfl]);have HKX:Hid (kdX tb=if tb=⟨#[116,121,112,101]⟩ then 1 else if tb=⟨#[105,110,116,101,114,102,97,99,101]⟩ then 2 else if tb=⟨#[117,110,105,111,110]⟩ then 3 else if tb=⟨#[101,110,117,109]⟩ then 4 else if tb=⟨#[105,110,112,117,116]⟩ then 5 else 0):=Lh rfl;have e0:=nm_eq tb [116,121,112,101];have e1:=nm_eq tb [105,110,116,101,114,102,97,99,101];have e2:=nm_eq tb [117,110,105,111,110];have e3:=nm_eq tb [101,110,117,109];have e4:=nm_eq tb [105,110,112,117,116];generalize kdX tb=Q at *;clear HV;by_cases h0:tb=⟨#[116,121,112,101]⟩
 ·have hR:R=1:=by rw [HV1.out,HKX.out,if_pos h0]
  subst hR;rw [decide_eq_true h0] at e0;clear h0 HV1 HKX e1 e2 e3 e4
  go_enter Tryz.func53, Tryz.ntmps53
  go_wp2_with fail
  refine bodyPost_ret (v:=.int .i64 1) (by simp [results,Tryz.results53,go_sem]) rfl ⟨rfl,HB0.out⟩
 rw [decide_eq_false h0] at e0;by_cases h1:tb=⟨#[105,110,116,101,114,102,97,99,101]⟩
 ·have hR:R=2:=by rw [HV1.out,HKX.out,if_neg h0,if_pos h1]
  subst hR;rw [decide_eq_true h1] at e1;clear h1 HV1 HKX h0 e2 e3 e4
  go_enter Tryz.func53, Tryz.ntmps53
  go_wp2_with fail
  refine bodyPost_ret (v:=.int .i64 2) (by simp [results,Tryz.results53,go_sem]) rfl ⟨rfl,HB0.out⟩
 rw [decide_eq_false h1] at e1;by_cases h2:tb=⟨#[117,110,105,111,110]⟩
 ·have hR:R=3:=by rw [HV1.out,HKX.out,if_neg h0,if_neg h1,if_pos h2]
  subst hR;rw [decide_eq_true h2] at e2;clear h2 HV1 HKX h0 h1 e3 e4
  go_enter Tryz.func53, Tryz.ntmps53
  go_wp2_with fail
  refine bodyPost_ret (v:=.int .i64 3) (by simp [results,Tryz.results53,go_sem]) rfl ⟨rfl,HB0.out⟩
 rw [decide_eq_false h2] at e2;by_cases h3:tb=⟨#[101,110,117,109]⟩
 ·have hR:R=4:=by rw [HV1.out,HKX.out,if_neg h0,if_neg h1,if_neg h2,if_pos h3]
  subst hR;rw [decide_eq_true h3] at e3;clear h3 HV1 HKX h0 h1 h2 e4
  go_enter Tryz.func53, Tryz.ntmps53
  go_wp2_with fail
  refine bodyPost_ret (v:=.int .i64 4) (by simp [results,Tryz.results53,go_sem]) rfl ⟨rfl,HB0.out⟩
 rw [decide_eq_false h3] at e3;by_cases h4:tb=⟨#[105,110,112,117,116]⟩
 ·have hR:R=5:=by rw [HV1.out,HKX.out,if_neg h0,if_neg h1,if_neg h2,if_neg h3,if_pos h4]
  subst hR;rw [decide_eq_true h4] at e4;clear h4 HV1 HKX h0 h1 h2 h3
  go_enter Tryz.func53, Tryz.ntmps53
  go_wp2_with fail
  refine bodyPost_ret (v:=.int .i64 5) (by simp [results,Tryz.results53,go_sem]) rfl ⟨rfl,HB0.out⟩
 rw [decide_eq_false h4] at e4;have hR:R=0:=by rw [HV1.out,HKX.out,if_neg h0,if_neg h1,if_neg h2,if_neg h3,if_neg h4]
 subst hR;clear HV1 HKX h0 h1 h2 h3 h4
 go_enter Tryz.func53, Tryz.ntmps53
 go_wp2_with fail
 refine bodyPost_ret (v:=.int .i64 0) (by simp [results,Tryz.results53,go_sem]) rfl ⟨rfl,HB0.out⟩
end Go.Proofs.YtfgelheiknmjgaaGreatDoor

