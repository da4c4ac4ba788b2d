
/-
 Texts joined: G1 E1v G2 H7 H10.
-/
import Derived.Deep.Upon
import Derived.Test.YtfgelheiknmjgaaGreatDoorZt18
import Derived.Test.YtfgelheiknmjgaaGreatDoorZt20
set_option maxRecDepth 1000000
set_option maxHeartbeats 8000000
namespace Go.Proofs.YtfgelheiknmjgaaGreatDoor
open Go.RowKit
theorem zC9 {N g:Nat} (hN:N<=g):∀ (vs:List Value) (o:Nat) {w w1:World},Below N w w1->Below N w (w1.setCells g o vs)
 | [],_,_,_,h=>h
 | v::r,o,_,_,h=>zC9 hN r (o+1) (h.setCell (p:=⟨g,o,none⟩) hN v)
abbrev ElI:=Els (α:=Int) 3 1 IntC
theorem yn3:(Tryz.prog.info? 3).map (fun i=>(i.zero,i.size,i.bytes))=some (some (.int .i64 0),1,8):=by kernel_rfl
def nnP (xs:List Int) (ts:List Tk):List Int × List Tk:=if isSg [33] ts=true then (xs++[1],ts.tail) else (xs,ts)
theorem zU9 {w w0 w':World} {base:Nat} {v v':Value} {cells:List Value} {xs:List Int} (x:Int) (hx:small x) (h:ElI w base v cells xs) (hw0:Below w.heap.size w w0) (hbw:base<=w.heap.size) (h1:w'.ownsRow base 3 1 v' (xs.length+1) (cells++[.int .i64 x])) (h2:w0.grownBy w' v.ownBlock) (h3:v'.ownBlock=v.ownBlock∨∃ g,v'.ownBlock=some g/\w0.heap.size<=g) :
  ElI w' base v' (cells++[.int .i64 x]) (xs++[x])/\Below base w w' :=
 Els.push (R:=IntC) (f:=fun j=>[Value.int .i64 x].getD j undef) IntC.stays h hw0 hbw ⟨rfl,hx⟩ (fun j _=>rfl) (fun W S g g2 y hh h9=>⟨(hh 0 (by omega))▸h9.1,h9.2⟩) h1 h2 h3
theorem zx5 {w:World} {p:Nat} {ts:List Tk} {n base:Nat} {v:Value} {cells:List Value} {xs:List Int} (h:PSt w p ts n) (he:ElI w base v cells xs) (hpb:p<base) (hbw:base<=w.heap.size) (hl:xs.length<=3000000) :
  Calls Tryz.prog 204 #[pP p,v] w (fun e w'=>∃ v' cells',e=.returned v'/\ElI w' base v' cells' (nnP xs ts).1/\PSt w' p (nnP xs ts).2 n/\Tw p base w w'):=by
 have HE:=Lh he;have HP:=Lh h;obtain ⟨A,c,hu⟩:=he.slice;subst hu;obtain ⟨ll,hll⟩ : ∃ ll,ll=xs.length:=⟨_,rfl⟩;have HL:=Lh hll;have hlb:(ll:Int)<=3000000:=by omega
 clear h he
 cases hs:isSg [33] ts with
 | false =>
   have HC:=Lh (zb2 HP.out ⟨#[33]⟩ _ hs);have HV:Hid (nnP xs ts=(xs,ts)):=Lh (by unfold nnP; rw [hs]; rfl);clear hs;rw [<- hll];clear hll;generalize nnP xs ts=q at *
   go_enter Tryz.func204, Tryz.ntmps204
   go_wp2_with fail
   refine HC.out.mono ?_
   rintro e w1 ⟨rfl,hp,ht⟩;have HP1:Hid (PSt w1 p ts n):=Lh hp;have HT1:=Lh ht;clear hp ht;go_wp2_with fail;go_ret
   refine ⟨_,cells,rfl, ?_, ?_,HT1.out.mono hbw⟩
   ·rw [HV.out,HL.out]; exact HE.out.tw IntC.stays hpb HT1.out
   ·rw [HV.out]; exact HP1.out
 | true =>
   have HC:=Lh (zb2 HP.out ⟨#[33]⟩ _ hs);have HV:Hid (nnP xs ts=(xs++[1],ts.tail)):=Lh (by unfold nnP; rw [hs]; rfl);clear hs;rw [<- hll];clear hll;generalize nnP xs ts=q at *
   go_enter Tryz.func204, Tryz.ntmps204
   go_wp2_with fail
   refine HC.out.mono ?_
   rintro e w1 ⟨rfl,hp,ht⟩;have HP1:Hid (PSt w1 p ts.tail n):=Lh hp;have HT1:=Lh ht;have HE1:=Lh (HE.out.tw IntC.stays hpb ht);have hs1:=ht.size;have b0:Below w1.heap.size w1 (w1.alloc (.cells #[.int .i64 1] 3 (0,0))):=za0 _ _;have HB0:=Lh b0;have HOWN:Hid ((w1.alloc (.cells #[.int .i64 1] 3 (0,0))).ownsRow base 3 1 (.slice A ll c) ll cells):=Lh (by
    have h8:=ze9 HE1.out.own (fun g hg=>b0.block g hg);rw [<- HL.out] at h8; exact h8)
   have HNEWS:Hid (∀ (j:Nat) (u:Value),([.int .i64 1]:List Value)[j]?=some u->(w1.alloc (.cells #[.int .i64 1] 3 (0,0))).cell? ((⟨w1.heap.size,0,none⟩ : Addr).add j)=some u):=Lh (zf0 w1 [.int .i64 1] 3);have HONE:Hid (∀ u∈([.int .i64 1]:List Value),u.oneCell'=true):=Lh (by intro u hu; simp only [List.mem_cons,List.not_mem_nil,or_false] at hu; subst hu; rfl);have HSZ:Hid (base<=(w1.alloc (.cells #[.int .i64 1] 3 (0,0))).heap.size):=Lh (by rw [World.size_alloc]; omega);clear hp ht b0;go_wp2_with (at_builtin; refine zb1 _ rfl _ _ 42 rfl base 3 _ 1 8 Tryz.underlying42 yn3 rfl (by decide) _ ll cells rfl HOWN.out ⟨w1.heap.size,0,none⟩ 1 1 (by decide) [.int .i64 1] rfl rfl HNEWS.out HONE.out (by unfold maxLen; omega) (by omega) HSZ.out ?_; intro v' w' hown' hg' hf');have hpush:=zU9 1 (by unfold small; omega) HE1.out HB0.out (by omega) (by rw [<- HL.out]; exact hown') (by rw [<- HL.out]; exact hg') (by rw [<- HL.out]; exact hf');have HE2:=Lh hpush.1;have HT2:Hid (Tw p base w w'):=Lh ((HT1.out.mono hbw).trans (.of hpush.2));have HP2:=Lh (HP1.out.same (hpush.2.mono (by omega)));clear hpush hown' hg' hf';go_ret;refine ⟨v',cells++[.int .i64 1],rfl, ?_, ?_,HT2.out⟩
   ·rw [HV.out]; exact HE2.out
   ·rw [HV.out]; exact HP2.out
theorem zL3 (N:Nat) (v:Value) (cells:List Value) (xs:List Int) (w:World) (ho:ElI w N v cells xs) (hl:xs.length<=1000000):Calls Tryz.prog 205 #[v] w fun e w'=>e=.returned (.tuple #[])/\WrapsC w' (fun b=>N<=b/\b<w'.heap.size) v xs.reverse/\Below N w w':=by
 have hcells:∀ j,j<xs.length->cells[j]?=some (.int .i64 (xs.getD j 0)):=fun j hj=>by
  have h1:=(ho.els j _ (List.getElem?_eq_getElem hj)).1;have h2:j<cells.length:=by have:=ho.own.1; omega
  simp only [Nat.mul_one,Nat.add_zero] at h1
  rw [List.getD_eq_getElem?_getD,List.getElem?_eq_getElem h2] at h1;rw [List.getElem?_eq_getElem h2,List.getD_eq_getElem?_getD,List.getElem?_eq_getElem hj];exact congrArg some h1
 have hsm:∀ x∈xs,small x:=fun x hx=>by
  obtain ⟨i,hi,rfl⟩:=List.mem_iff_getElem.1 hx;exact (ho.els i _ (List.getElem?_eq_getElem hi)).2
 rcases ho.own.2 with ⟨rfl,hz⟩ | ⟨g,cap,cur,rfl,h1,h2,h3,r⟩
 ·obtain rfl:xs=[]:=List.eq_nil_of_length_eq_zero hz
  exact (Tryz.slices_Reverse_int_empty none 0 w).mono fun e w' ⟨he,hw⟩=>by subst hw; exact ⟨he,SlS.nil _ _,Below.refl _ _⟩
 ·have hlt:=(zf9 ho.own (g:=g) rfl).2
  have hcell:∀ j,j<xs.length->w.cell? ⟨g,0+j,none⟩=some (.int .i64 (xs.getD j 0)):=fun j hj=>by
   have:=World.ownsRow.cells ho.own (g:=g) rfl j _ (hcells j hj)
   rwa [Addr.add_mid] at this
  refine (Tryz.slices_Reverse_int_cells g 0 xs.length cap xs w (Nat.le_refl _) (by omega) hcell (fun j hj=>by simp [World.frozen?,h2])).mono ?_
  rintro e w' ⟨he,q,rfl⟩;have hb:Below N w ((w.drewN q).setCells g 0 ((xs.take xs.length).reverse.map (Value.int .i64))):=zC9 h1 _ _ (_root_.Go.below_drewN (Below.refl _ _) q);refine ⟨he,⟨some ⟨g,0,none⟩,cap,by rw [List.length_reverse],by rw [List.length_reverse]; exact h3,by rw [List.length_reverse]; unfold big; omega,fun i _=>.int .i64 (xs.reverse.getD i 0),fun _=>⟨_,rfl,⟨h1,Nat.lt_of_lt_of_le hlt hb.size⟩,fun i hi j hj=>?_⟩,fun i x hx=>?_⟩,hb⟩
  ·have hj0:j=0:=by omega
   subst hj0;rw [List.take_length];have hi':i<(xs.reverse.map (Value.int .i64)).length:=by simpa using hi
   have h9:=World.cell?_setCells_in g (xs.reverse.map (Value.int .i64)) 0 (w.drewN q) (fun j hj=>by
    have hj':j<xs.length:=by simpa using hj
    have h9:(w.drewN q).cell? ⟨g,0+j,none⟩=w.cell? ⟨g,0+j,none⟩:=rfl;rw [h9,hcell j hj']; rfl) i hi'
   rw [Nat.zero_add] at h9;show (World.setCells _ _ _ _).cell? ((⟨g,0,none⟩ : Addr).add (i*1))=_;rw [Nat.mul_one,Addr.add_mid,Nat.zero_add,h9,List.getElem_map];show _=some (Value.int .i64 (xs.reverse.getD i 0));rw [List.getD_eq_getElem?_getD,List.getElem?_eq_getElem hi]
   rfl
  ·refine ⟨?_,hsm x (List.mem_reverse.1 (List.mem_of_getElem? hx))⟩
   show Value.int .i64 (xs.reverse.getD i 0)=_
   rw [List.getD_eq_getElem?_getD,hx]; rfl
section
variable {ops:Array Oper} {Q:Exit->Act->World->Prop} {o:Oper} {a:Act} {w:World} {R:Value->World->Prop}
theorem rp_ldT (hw:Region.wanted o (yielded ops a.tmps)=true) (x:Operand) {c0 c1 c2:Value} {g:Nat}
  (ho:o.op=.load 99 x) (hx:a.eval x=.pointer (some ⟨g,0,none⟩)) (hb:Bk w g #[c0,c1,c2] 99) (h:R (.agg #[c0,c1,c2]) w):K.Runs Tryz.prog ops Q o a w R :=
 ⟨hw,wp_load_row 99 x ho g hx _ _ _ _ hb Tryz.underlying99 rfl (by kernel_rfl) ⟨_,rfl,h⟩⟩
end
abbrev zv6 (s q:Nat) (ps:String) (c:Int):Array Oper :=
 #[{ dst:=some s,op:=.move (.tmp 0),type := 146,pos:=ps,after:=#[],guard:=none },
  { dst:=some (s+1),op:=.nilCheck (.tmp s),type:=0,pos:=ps,after:=#[{ on:=0,ground:=.data }],guard:=none },
  { dst:=some (s+2),op:=.fieldAddr 65 (.tmp (s+1)) 1,type:=0,pos:=ps,after:=#[{ on:=1,ground:=.data }],guard:=none },
  { dst:=some (s+3),op:=.load 63 (.tmp (s+2)),type := 63,pos:=ps,after:=#[{ on:=2,ground:=.data }],guard:=none },
  { dst:=some (s+4),op:=.load 99 (.tmp q),type := 99,pos:=ps,after:=#[],guard:=none },
  { dst:=some (s+5),op:=.call { callee:=.value (.tmp (s+3)),args:=#[.tmp (s+4),.const (.int .i64 c)],argTypes:=#[99, 29] },type:=0,pos:=ps,after:=#[{ on:=3,ground:=.data }, { on:=4,ground:=.data }],guard:=none }]
theorem zx9 {Q:Exit->Act->World->Prop} {id:Nat} (s q:Nat) {ps:String} {c:Int} {a0:Act} {W:World} {p g:Nat} {ts:List Tk} {n:Nat} (t:Tk) (h:PSt W p ts n) (hg:Bk W g #[.int .i64 t.1,.string ⟨t.2.1.toArray⟩,.int .i64 t.2.2] 99) (hb:K.dstB (zv6 s q ps c) a0.tmps.size 6=true) (h0:a0.tmps.getD 0 undef=pP p) (hq:a0.tmps.getD q undef=.pointer (some ⟨g,0,none⟩))
  (hs:((List.range 6).all fun i=>decide (K.dstOf (zv6 s q ps c) i≠some 0))=true) (hsq:((List.range 6).all fun i=>decide (K.dstOf (zv6 s q ps c) i≠some q))=true) (hQ:∀ a w',K.Fr (zv6 s q ps c) a0 a->Below W.heap.size W w'->Q (.panic (malP (t.2.2,c))) a w'):(Code.region id (zv6 s q ps c) true).wp Tryz.prog Q a0 W:=by
 refine K.zd1 (by kernel_rfl) (by kernel_rfl) hb 5 (by kernel_rfl) (Nat.le_refl 6 |> fun h=>Nat.le_succ_of_le h) (Nat.lt_succ_self 5) (fun o ho=>by cases ho) [K.Fact.is (pP p),K.Fact.is (pP p),K.Fact.is (.pointer (some ⟨p,1,none⟩)),K.Fact.is fnV,K.Fact.is (tkV t)] (fun _ _=>False) ?_ ?_ (fun o ho=>by cases ho) (fun _ _ _ h _=>h.elim)
 ·intro i o ho hi a w hf hbl had
  have e0:a.tmps.getD 0 undef=pP p:=(hf.slot 0 hs).trans h0;have eq:a.tmps.getD q undef=.pointer (some ⟨g,0,none⟩):=(hf.slot q hsq).trans hq;have hc:i=0∨i=1∨i=2∨i=3∨i=4:=by omega
  rcases hc with rfl | rfl | rfl | rfl | rfl
  ·cases ho
   exact zb9 rfl (.tmp 0) rfl e0 ⟨Below.refl _ _,rfl⟩
  ·cases ho
   have h1:K.vof _ a 0=pP p:=had ⟨0,.data⟩ (by simp) rfl;exact zm7 rfl (.tmp s) rfl h1 ⟨Below.refl _ _,rfl⟩
  ·cases ho
   have h1:K.vof _ a 1=pP p:=had ⟨1,.data⟩ (by simp) rfl;exact rp_fa1 rfl (.tmp (s+1)) rfl h1 ⟨Below.refl _ _,rfl⟩
  ·cases ho
   have h1:K.vof _ a 2=.pointer (some ⟨p,1,none⟩):=had ⟨2,.data⟩ (by simp) rfl;exact rp_ldF rfl (.tmp (s+2)) rfl h1 (h.stay hbl).fail ⟨Below.refl _ _,rfl⟩
  ·cases ho
   exact rp_ldT rfl (.tmp q) rfl eq (hg.stay hbl) ⟨Below.refl _ _,rfl⟩
 ·intro o ho a w hf hbl hF
  cases ho
  have h3:K.vof _ a 3=fnV:=hF 3 (by omega);have h4:K.vof _ a 4=tkV t:=hF 4 (by omega);exact yg0 rfl (.tmp (s+3)) (.tmp (s+4)) t c _ rfl h3 h4 fun w' hb2=>hQ a w' hf (hbl.trans (hb2.mono hbl.size))
end Go.Proofs.YtfgelheiknmjgaaGreatDoor
namespace Go.Proofs.YtfgelheiknmjgaaGreatDoor
open Go.RowKit
def brk:List Tk->Nat × List Tk
 | []=>(0,[])
 | t::r=>if isSg [91] (t::r)=true then ((brk r).1+1,(brk r).2) else (0,t::r)
def cls:Nat->List Int->List Tk->Except Er (List Int × List Tk)
 | 0,xs,ts=>.ok (xs,ts)
 | k+1,xs,ts=>exB (sgR [93] ts) fun ts1=>cls k (nnP (xs++[2]) ts1).1 (nnP (xs++[2]) ts1).2
def refE (ts:List Tk) (nm:ByteArray) (r:List Int × List Tk):Except Er ((ByteArray × List Int) × List Tk):=if 24<r.1.length then .error (erR ts 5) else .ok ((nm,r.1.reverse),r.2)
def refP (ts:List Tk):Except Er ((ByteArray × List Int) × List Tk):=exB (nmR (brk ts).2) fun q=>exB (cls (brk ts).1 (nnP [] q.2).1 (nnP [] q.2).2) fun r=>refE ts q.1 r
theorem brk_yes {ts:List Tk} (hg:Good ts) (h:isSg [91] ts=true):brk ts=((brk ts.tail).1+1,(brk ts.tail).2):=by
 obtain ⟨t,r,rfl⟩:=hg.ne;rw [brk,if_pos h]; rfl
theorem brk_no {ts:List Tk} (hg:Good ts) (h:isSg [91] ts=false):brk ts=(0,ts):=by
 obtain ⟨t,r,rfl⟩:=hg.ne;rw [brk,if_neg (by rw [h]; decide)]
theorem zr6 (p:Nat) (w:World) (ts:List Tk) (n:Nat) (h:PSt w p ts n):Calls Tryz.prog 168 #[pP p] w (WPost RefW w p (refP ts)):=by
 have hpw:=h.lt;have hf1:=fld1;obtain ⟨⟨k,tx,i⟩,r,rfl⟩:=h.good.ne;generalize hts:(k,tx,i)::r=ts at *;have HE5:Hid (erR ts 5=(i,5)):=Lh (by rw [<- hts]; rfl);have hnx:∀ W:World,Below w.heap.size w W->Calls Tryz.prog 52 #[pP p] W fun e w'=>e=.returned (.agg #[.int .i64 k,.string ⟨tx.toArray⟩,.int .i64 i])/\Below W.heap.size W w':=fun W hb=>by
  have:=zh4 (h.stay hb);rw [<- hts] at this;exact this
 have HNX:=Lh (hnx _ (za0 w (.cells #[.string ⟨#[]⟩,.slice none 0 0] 44 (0,0))));have HP0:Hid (PSt (w.alloc (.cells #[.string ⟨#[]⟩,.slice none 0 0] 44 (0,0))) p ts n):=Lh (h.stay (za0 _ _));have HR0:Hid (Bk (w.alloc (.cells #[.string ⟨#[]⟩,.slice none 0 0] 44 (0,0))) w.heap.size #[.string ⟨#[]⟩,.slice none 0 0] 44):=Lh (Bk.new _ _ _);have HT0:Hid (Tw p w.heap.size w (w.alloc (.cells #[.string ⟨#[]⟩,.slice none 0 0] 44 (0,0)))):=Lh (.of (za0 _ _));have hsz0:w.heap.size<(w.alloc (.cells #[.string ⟨#[]⟩,.slice none 0 0] 44 (0,0))).heap.size:=by simp
 have HD:Hid (refP ts=exB (nmR (brk ts).2) fun q=>exB (cls (brk ts).1 (nnP [] q.2).1 (nnP [] q.2).2) fun r=>refE ts q.1 r):=Lh rfl;generalize refP ts=R at *;clear h hnx hts;generalize (⟨tx.toArray⟩ : ByteArray)=tb at *
 go_enter Tryz.func168, Tryz.ntmps168
 go_wp2_with fail
 refine HNX.out.mono ?_
 rintro e w1 ⟨rfl,hb⟩;have HP1:=Lh ((HP0.out.stay hb).stay (za0 w1 (.cells #[.int .i64 k,.string tb,.int .i64 i] 99 (0,0))));have ht:Tw p _ _ (w1.alloc (.cells #[.int .i64 k,.string tb,.int .i64 i] 99 (0,0))):=.of (hb.trans ((za0 _ _).mono hb.size));have HR1:=Lh (HR0.out.far ht (by omega));have HT1:=Lh (HT0.out.step HT0.out.size ht);have HK1:Hid (Bk (w1.alloc (.cells #[.int .i64 k,.string tb,.int .i64 i] 99 (0,0))) w1.heap.size #[.int .i64 k,.string tb,.int .i64 i] 99):=Lh (Bk.new _ _ _);have hsz1:w.heap.size<w1.heap.size:=Nat.lt_of_lt_of_le hsz0 hb.size;have hsa1:w1.heap.size<(w1.alloc (.cells #[.int .i64 k,.string tb,.int .i64 i] 99 (0,0))).heap.size:=by simp
 clear hb ht HP0 HR0 HT0 HNX;go_wp2_with fail;generalize hW1:(w1.alloc (.cells #[.int .i64 k,.string tb,.int .i64 i] 99 (0,0)))=W1 at *;clear hW1
 go_loopw [4] (fun u wr=>∃ (c:Nat) (tr:List Tk),u=.int .i64 c/\c+tr.length<=1000000/\Hid (brk ts=(c+(brk tr).1,(brk tr).2)/\PSt wr p tr n/\Tw p W1.heap.size W1 wr)) (fun _ wr=>tlen p wr)
 case atStart=>exact ⟨0,ts,rfl,by have:=HP1.out.good.len; omega,Lh ⟨by rw [Nat.zero_add],HP1.out,.refl _ _ _⟩⟩
 case round =>
  obtain ⟨c,tr,rfl,hct,hr⟩:=hrel;have hcb:(c:Int)<=1000000:=by omega
  cases hsg:isSg [91] tr with
  | true =>
    have HC:=Lh (zb2 hr.out.2.1 ⟨#[91]⟩ _ hsg);have HB:=Lh (hr.out.1.trans (by rw [brk_yes hr.out.2.1.good hsg]:_=(c+((brk tr.tail).1+1),(brk tr.tail).2)));have hlt:tr.tail.length<tr.length:=by
     obtain ⟨t,r2,e⟩:=hr.out.2.1.good.ne;rw [e]; simp
    have HLT:=Lh hlt;clear hsg hlt;go_wp2_with fail;refine HC.out.mono ?_
    rintro e w2 ⟨rfl,hp,ht⟩;have HP2:Hid (PSt w2 p tr.tail n):=Lh hp;have HT2:=Lh (hr.out.2.2.step hr.out.2.2.size ht);clear hp ht;go_wp2_with fail
    go_roundw
    case rel=>exact ⟨c+1,tr.tail,by simp,by have:=HLT.out; omega,Lh ⟨by rw [HB.out]; congr 1; omega,HP2.out,HT2.out⟩⟩
    case measure=>rw [HP2.out.tlen,hr.out.2.1.tlen]; exact HLT.out
  | false =>
    have HC:=Lh (zb2 hr.out.2.1 ⟨#[91]⟩ _ hsg);have HB:Hid (brk ts=(c,tr)):=Lh (hr.out.1.trans (by rw [brk_no hr.out.2.1.good hsg]; rfl));have HD1:Hid (R=exB (nmR tr) fun q=>exB (cls c (nnP [] q.2).1 (nnP [] q.2).2) fun r=>refE ts q.1 r):=Lh (by rw [HD.out,HB.out]);clear hsg;go_wp2_with fail;refine HC.out.mono ?_
    rintro e w2 ⟨rfl,hp,ht⟩;have HP2:Hid (PSt w2 p tr n):=Lh hp;have HT2:=Lh (hr.out.2.2.step hr.out.2.2.size ht);clear hp ht;go_wp2_with fail;refine (zd6 HP2.out).mono ?_
    rintro e w3 (⟨nm,ts3,v,hr3,rfl,⟨rfl,hnz⟩,hp,ht⟩ | ⟨x,hr3,rfl,ht⟩);rotate_left
    ·have HTE:=Lh (HT1.out.step HT1.out.size (HT2.out.step HT2.out.size ht))
     exact ⟨rfl,.inr ⟨_,HD1.out.trans (za6 hr3),rfl,HTE.out⟩⟩
    have HD2:Hid (R=exB (cls c (nnP [] ts3).1 (nnP [] ts3).2) fun r=>refE ts nm r):=Lh (HD1.out.trans (za2 hr3));have hT3:Tw p w.heap.size w w3:=HT1.out.step HT1.out.size (HT2.out.step HT2.out.size ht);have hR3:=(HR1.out.far HT2.out (by omega)).far ht (by omega);have hK3:=(HK1.out.far HT2.out (by omega)).far ht (by omega);have hs3:W1.heap.size<=w3.heap.size:=Nat.le_trans HT2.out.size ht.size;have b3:Below w3.heap.size w3 (w3.alloc (.cells #[.string nm,.slice none 0 0] 44 (0,0))):=za0 _ _;have HPV:=Lh (hp.stay b3);have HTV:=Lh (hT3.step hT3.size (.of b3));have HRV:=Lh (hR3.stay b3);have HKV:=Lh (hK3.stay b3);have HVV:Hid (Bk (w3.alloc (.cells #[.string nm,.slice none 0 0] 44 (0,0))) w3.heap.size #[.string nm,.slice none 0 0] 44):=Lh (Bk.new _ _ _);have hsV:w3.heap.size<(w3.alloc (.cells #[.string nm,.slice none 0 0] 44 (0,0))).heap.size:=by simp
    have HN:=Lh hnz;clear hr3 hp ht hT3 hR3 hK3 b3 hnz HC HP2 HT2;go_wp2_with fail;generalize hWV:(w3.alloc (.cells #[.string nm,.slice none 0 0] 44 (0,0)))=WV at *;clear hWV;refine (zx5 (base:=WV.heap.size) (cells:=[]) (xs:=[]) HPV.out (Els.nil _ _ _ _ _) (by omega) (Nat.le_refl _) (by simp)).mono ?_;rintro e w4 ⟨v4,cells4,rfl,he4,hp4,ht4⟩;have HE4:=Lh he4;have HP4:=Lh hp4;have HT4:=Lh (HTV.out.step HTV.out.size ht4);have HR4:=Lh (HRV.out.far ht4 (by omega));have HK4:=Lh (HKV.out.far ht4 (by omega));have hv4:=HVV.out.far ht4 (by omega);have HV4:=Lh hv4;have hs4:=ht4.size;have hnl:(nnP [] ts3).1.length<=1:=by unfold nnP; split <;> simp
    obtain ⟨A4,c4,e4⟩:=he4.slice;subst e4;obtain ⟨x0,x1⟩:=hv4.c2;have f1:=hv4.frz 1;clear he4 hp4 ht4 hv4;go_wp2_with fail;clear x0 x1 f1
    go_loopw [19] (fun u wr=>∃ (j:Nat) (xs:List Int) (tr':List Tk) (cells:List Value) (vv:Value),j<=c/\u=.int .i64 j/\xs.length<=1+2*j/\Hid (cls c (nnP [] ts3).1 (nnP [] ts3).2=cls (c-j) xs tr'/\ElI wr WV.heap.size vv cells xs/\PSt wr p tr' n/\Bk wr w3.heap.size #[.string nm,vv] 44 /\ Bk wr w.heap.size #[.string ⟨#[]⟩,.slice none 0 0] 44 /\ Bk wr w1.heap.size #[.int .i64 k,.string tb,.int .i64 i] 99 /\ Tw p w.heap.size w wr/\WV.heap.size<=wr.heap.size)) (fun u _=>c-(intOf u).toNat)
    case atStart =>
     refine ⟨0,_,_,cells4,_,Nat.zero_le _,rfl,hnl,Lh ⟨rfl, ?_,HP4.out.same ((Below.refl (p+1) w4).setCell (p:=⟨w3.heap.size,1,none⟩) (by show p+1<=w3.heap.size; omega) _),HV4.out.setl 1 _,HR4.out.off (by omega) 1 _,HK4.out.off (by omega) 1 _,HT4.out.setNew (by omega) 1 _,by simp [World.setCell]; omega⟩⟩
     exact HE4.out.tw (p:=w3.heap.size) IntC.stays (by omega) ⟨rfl,rfl,rfl,by simp [World.setCell],fun g _ hg=>Below.heap_setCell _ _ _ _ hg⟩
    case round =>
     obtain ⟨j,xs,tr',cells,vv,hj,rfl,hxl,hr2⟩:=hrel;obtain ⟨AL,cl,hu⟩:=hr2.out.2.1.slice;subst hu;obtain ⟨ll,hll⟩ : ∃ ll,ll=xs.length:=⟨_,rfl⟩;have HL:=Lh hll;have hlb:(ll:Int)<=2000001:=by omega
     by_cases hlt:j<c
     ·have hlt':(j:Int)<c:=by omega
      have HCL:Hid (cls c (nnP [] ts3).1 (nnP [] ts3).2=exB (sgR [93] tr') fun ts1=>cls (c-(j+1)) (nnP (xs++[2]) ts1).1 (nnP (xs++[2]) ts1).2):=Lh (hr2.out.1.trans (by rw [show c-j=(c-(j+1))+1 by omega]; rfl));go_wp2_with fail
      refine (ze5 hr2.out.2.2.1 ⟨#[93]⟩).mono ?_
      rintro e w5 (⟨ts5,h5,rfl,hp,ht⟩ | ⟨x,h5,rfl,ht⟩);rotate_left
      ·have HTE:=Lh (hr2.out.2.2.2.2.2.2.1.step hr2.out.2.2.2.2.2.2.1.size ht)
       exact ⟨rfl,.inr ⟨_,HD2.out.trans (za6 (HCL.out.trans (za6 h5))),rfl,HTE.out⟩⟩
      have HCL2:Hid (cls c (nnP [] ts3).1 (nnP [] ts3).2=cls (c-(j+1)) (nnP (xs++[2]) ts5).1 (nnP (xs++[2]) ts5).2):=Lh (HCL.out.trans (za2 h5));have hs5:=ht.size;have hws5:WV.heap.size<=wr.heap.size:=hr2.out.2.2.2.2.2.2.2;have HE5:=Lh (hr2.out.2.1.tw IntC.stays (by omega) ht);have hv5:=hr2.out.2.2.2.1.far ht (by omega);have HV5:=Lh hv5;have HR5:=Lh (hr2.out.2.2.2.2.1.far ht (by omega));have HK5:=Lh (hr2.out.2.2.2.2.2.1.far ht (by omega));have HT5:=Lh (hr2.out.2.2.2.2.2.2.1.step hr2.out.2.2.2.2.2.2.1.size ht);have HP5:=Lh hp;have x1:=hv5.cell 1 _ rfl;have b0:Below w5.heap.size w5 (w5.alloc (.cells #[.int .i64 2] 3 (0,0))):=za0 _ _;have HB0:=Lh b0;have HOWN:Hid ((w5.alloc (.cells #[.int .i64 2] 3 (0,0))).ownsRow WV.heap.size 3 1 (.slice AL ll cl) ll cells):=Lh (by
       have h8:=ze9 HE5.out.own (fun g hg=>b0.block g hg);rw [<- HL.out] at h8; exact h8)
      have HNEWS:Hid (∀ (q:Nat) (u:Value),([.int .i64 2]:List Value)[q]?=some u->(w5.alloc (.cells #[.int .i64 2] 3 (0,0))).cell? ((⟨w5.heap.size,0,none⟩ : Addr).add q)=some u):=Lh (zf0 w5 [.int .i64 2] 3);have HONE:Hid (∀ u∈([.int .i64 2]:List Value),u.oneCell'=true):=Lh (by intro u hu; simp only [List.mem_cons,List.not_mem_nil,or_false] at hu; subst hu; rfl);have HSZ:Hid (WV.heap.size<=(w5.alloc (.cells #[.int .i64 2] 3 (0,0))).heap.size):=Lh (by rw [World.size_alloc]; omega);have hctb:xs.length<=2000001:=by omega
      rw [<- hll] at x1;clear h5 hp ht hv5 b0 hll;go_wp2_with (at_builtin; refine zb1 _ rfl _ _ 42 rfl WV.heap.size 3 _ 1 8 Tryz.underlying42 yn3 rfl (by decide) _ ll cells rfl HOWN.out ⟨w5.heap.size,0,none⟩ 1 1 (by decide) [.int .i64 2] rfl rfl HNEWS.out HONE.out (by unfold maxLen; omega) (by omega) HSZ.out ?_; intro v6 w6 hown6 hg6 hf6);have hpush:=zU9 2 (by unfold small; omega) HE5.out HB0.out (by omega) (by rw [<- HL.out]; exact hown6) (by rw [<- HL.out]; exact hg6) (by rw [<- HL.out]; exact hf6);have hs6:=hpush.2.size;have HP6:=Lh (HP5.out.same (hpush.2.mono (by omega)));refine (zx5 (base:=WV.heap.size) HP6.out hpush.1 (by omega) (by omega) (by rw [List.length_append,List.length_singleton]; omega)).mono ?_
      rintro e w7 ⟨v7,cells7,rfl,he7,hp7,ht7⟩;have ht67:Tw p WV.heap.size w5 w7:=(Tw.of hpush.2).trans ht7;have HE7:=Lh he7;have HP7:=Lh hp7;have hv7:Bk w7 w3.heap.size #[.string nm,.slice AL xs.length cl] 44 := (ht67.block _ (by omega) (by omega)).trans HV5.out;have HV7:=Lh hv7;have HR7:Hid (Bk w7 w.heap.size #[.string ⟨#[]⟩,.slice none 0 0] 44):=Lh ((ht67.block _ (by omega) (by omega)).trans HR5.out);have HK7:Hid (Bk w7 w1.heap.size #[.int .i64 k,.string tb,.int .i64 i] 99):=Lh ((ht67.block _ (by omega) (by omega)).trans HK5.out);have HT7:=Lh (HT5.out.trans (ht67.mono (by omega)));have hs7:=ht7.size;obtain ⟨A7,c7,e7⟩:=he7.slice;subst e7;have y1:=hv7.cell 1 _ rfl;have fy1:=hv7.frz 1;have hnl7:(nnP (xs++[2]) ts5).1.length<=xs.length+2:=by unfold nnP; split <;> simp
      clear hpush hown6 hg6 hf6 he7 hp7 ht7 hv7 ht67 x1;go_wp2_with fail
      go_roundw
      case rel =>
       refine ⟨j+1,_,_,cells7,_,by omega,by simp,by omega,Lh ⟨HCL2.out, ?_,HP7.out.same ((Below.refl (p+1) w7).setCell (p:=⟨w3.heap.size,1,none⟩) (by show p+1<=w3.heap.size; omega) _),HV7.out.setl 1 _,HR7.out.off (by omega) 1 _,HK7.out.off (by omega) 1 _,HT7.out.setNew (by omega) 1 _,by simp [World.setCell]; omega⟩⟩
       exact HE7.out.tw (p:=w3.heap.size) IntC.stays (by omega) ⟨rfl,rfl,rfl,by simp [World.setCell],fun g _ hg=>Below.heap_setCell _ _ _ _ hg⟩
      case measure=>simp [intOf]; omega
     ·have:j=c:=by omega
      subst this;have HD3:Hid (R=refE ts nm (xs,tr')):=Lh (HD2.out.trans (za2 (hr2.out.1.trans (by rw [Nat.sub_self]; rfl))));have hvr:=hr2.out.2.2.2.1;obtain ⟨x0,x1⟩:=hvr.c2;have hws5:WV.heap.size<=wr.heap.size:=hr2.out.2.2.2.2.2.2.2;rw [<- hll] at x1;by_cases h24:24<ll
      ·have h24':(ll:Int) > 24:=by omega
       have HD4:Hid (R=.error (i,5)):=Lh (HD3.out.trans (by unfold refE; rw [if_pos (by show 24<xs.length; have:=HL.out; omega),HE5.out]));have hkk:=hr2.out.2.2.2.2.2.1;have k0:=hkk.cell 0 _ rfl;have k1:=hkk.cell 1 _ rfl;have k2:=hkk.cell 2 _ rfl;have HKK:=Lh hkk;clear hvr hkk h24 hll k0 k1 k2;go_wp2_with fail;exact zx9 35 3 (k,tb.data.toList,i) hr2.out.2.2.1 HKK.out (by kernel_rfl) rfl rfl (by kernel_rfl) (by kernel_rfl) fun a w8 hf hb=>⟨hf.1.trans rfl,.inr ⟨_,HD4.out,rfl,hr2.out.2.2.2.2.2.2.1.step hr2.out.2.2.2.2.2.2.1.size (.of hb)⟩⟩
      ·have h24':¬ (ll:Int) > 24:=by omega
       have HD4:Hid (R=.ok ((nm,xs.reverse),tr')):=Lh (HD3.out.trans (by unfold refE; rw [if_neg (by show ¬ 24<xs.length; have:=HL.out; omega)]));clear hvr h24;go_wp2_with fail;have hrv:=zL3 WV.heap.size _ cells xs wr hr2.out.2.1 (by have:=HL.out; omega);refine hrv.mono ?_
       clear hrv hll;rintro e w8 ⟨rfl,hwr,hb8⟩;have hv8:Bk w8 w3.heap.size #[.string nm,.slice AL xs.length cl] 44 := (hb8.block _ (by omega)).trans hr2.out.2.2.2.1;have hr8:Bk w8 w.heap.size #[.string ⟨#[]⟩,.slice none 0 0] 44 := (hb8.block _ (by omega)).trans hr2.out.2.2.2.2.1;have HP8:=Lh (hr2.out.2.2.1.same (hb8.mono (by omega)));have HT8:=Lh (hr2.out.2.2.2.2.2.2.1.trans (.of (hb8.mono (by omega))));have HR8:=Lh hr8;have HWR:=Lh hwr;obtain ⟨y0,y1⟩:=hv8.c2;obtain ⟨z0,z1⟩:=hr8.c2;have fz0:=hr8.frz 0;have fz1:=hr8.frz 1;have hs8:=hb8.size;clear hwr hb8 hv8 hr8 x0 x1;go_wp2_with fail;have HZ:Hid (Bk ((w8.setCell ⟨w.heap.size,0,none⟩ (.string nm)).setCell ⟨w.heap.size,1,none⟩ (.slice AL xs.length cl)) w.heap.size #[.string nm,.slice AL xs.length cl] 44):=Lh ((HR8.out.setl 0 _).setl 1 _);obtain ⟨u0,u1⟩:=HZ.out.c2;refine bodyPost_ret (v:=.agg #[.string nm,.slice AL xs.length cl]) (by simp [results,Tryz.results168,go_sem,u0,u1]) rfl (.inl ⟨(nm,xs.reverse),_,_,n,HD4.out,rfl,⟨_,_,rfl,rfl,Nat.le_trans HN.out (by decide), ?_⟩,HP8.out.same (((Below.refl (p+1) w8).setCell (p:=⟨w.heap.size,0,none⟩) (by show p+1<=w.heap.size; omega) _).setCell (p:=⟨w.heap.size,1,none⟩) (by show p+1<=w.heap.size; omega) _),(HT8.out.setNew (Nat.le_refl _) 0 _).setNew (Nat.le_refl _) 1 _⟩);exact SlS.kept IntC.stays HWR.out (fun b hb=>by rw [Below.heap_setCell _ _ _ _ (show b≠w.heap.size by have:=hb.1; omega),Below.heap_setCell _ _ _ _ (show b≠w.heap.size by have:=hb.1; omega)]) (fun b hb=>⟨by have:=hb.1; omega,by simp [World.setCell]; exact hb.2⟩)
end Go.Proofs.YtfgelheiknmjgaaGreatDoor
namespace Go.Proofs.YtfgelheiknmjgaaGreatDoor
theorem za9 {α β:Type} {r:Except Er α} {k : α->Except Er β} {y : β} (h:exB r k=.ok y):∃ x,r=.ok x/\k x=.ok y:=by
 cases r with
 | error e=>exact absurd h (by simp [exB])
 | ok x=>exact ⟨x,rfl,h⟩
def LeT {α:Type} (el:List Tk->Except Er (α × List Tk)):Prop:=∀ ts x ts',el ts=.ok (x,ts')->ts'.length<=ts.length
def LtT {α:Type} (el:List Tk->Except Er (α × List Tk)):Prop:=∀ ts x ts',el ts=.ok (x,ts')->ts'.length<ts.length
theorem LtT.le {α:Type} {el:List Tk->Except Er (α × List Tk)} (h:LtT el):LeT el:=fun ts x ts' e=>Nat.le_of_lt (h ts x ts' e)
theorem zw8 {s:List UInt8} {ts:List Tk} (h:isSg s ts=true):ts.tail.length<ts.length:=by
 cases ts with
 | nil=>simp [isSg,hd] at h
 | cons t r=>simp
theorem isNm_lt {ts:List Tk} (h:isNm ts=true):ts.tail.length<ts.length:=by
 cases ts with
 | nil=>simp [isNm,hd] at h
 | cons t r=>simp
theorem zn2 {s:List UInt8} {ts ts':List Tk} (h:sgR s ts=.ok ts'):ts'.length<ts.length:=by
 unfold sgR at h;by_cases e:isSg s ts=true
 ·rw [if_pos e] at h; cases h; exact zw8 e
 ·rw [if_neg e] at h; cases h
theorem zi9:LtT nmR:=by
 intro ts x ts' h;unfold nmR at h;by_cases e:isNm ts=true
 ·rw [if_pos e] at h; cases h; exact isNm_lt e
 ·rw [if_neg e] at h; cases h
theorem bls_le {α:Type} {cl:List UInt8} {most:Nat} {el:List Tk->Except Er (α × List Tk)} (he:LeT el):∀ (f:Nat) (l:List α) (ts:List Tk) (l':List α) (ts':List Tk),bls cl most el f l ts=.ok (l',ts')->ts'.length<=ts.length:=by
 intro f
 induction f with
 | zero=>intro l ts l' ts' h; simp [bls] at h
 | succ f ih =>
   intro l ts l' ts' h;rw [zi1] at h;by_cases e:l.length≠0/\isSg cl ts=true
   ·rw [if_pos e] at h; cases h; exact Nat.le_of_lt (zw8 e.2)
   ·rw [if_neg e] at h
    obtain ⟨_,_,h⟩:=za9 h;obtain ⟨q,h1,h⟩:=za9 h;exact Nat.le_trans (ih _ _ _ _ h) (he ts q.1 q.2 h1)
theorem zx1 {α:Type} {op cl:List UInt8} {most:Nat} {el:List Tk->Except Er (α × List Tk)} (he:LeT el):LtT (blR op cl most el):=by
 intro ts x ts' h;obtain ⟨t1,h1,h⟩:=za9 h;exact Nat.lt_of_le_of_lt (bls_le he _ _ _ _ _ h) (zn2 h1)
theorem argP_con {vel:List Tk->Except Er (VT × List Tk)} (hv:LeT vel):LtT (argP vel):=by
 intro ts x ts' h;obtain ⟨q,h1,h⟩:=za9 h;obtain ⟨t1,h2,h⟩:=za9 h;obtain ⟨r,h3,h⟩:=za9 h;cases h;have a1:=zi9 _ _ _ h1;have a2:=zn2 h2;have a3:=hv _ _ _ h3;omega
theorem dirP_con {ael:List Tk->Except Er ((ByteArray × VT) × List Tk)} (ha:LeT ael):LtT (dirP ael):=by
 intro ts x ts' h;obtain ⟨t1,h1,h⟩:=za9 h;obtain ⟨q,h2,h⟩:=za9 h;have a1:=zn2 h1;have a2:=zi9 _ _ _ h2;by_cases e:isSg [40] q.2=true
 ·rw [if_pos e] at h
  obtain ⟨r,h3,h⟩:=za9 h;cases h;have a3:=zx1 ha _ _ _ h3;omega
 ·rw [if_neg e] at h; cases h; omega
theorem drs_le {el:List Tk->Except Er (DirT × List Tk)} (he:LeT el):∀ (f:Nat) (l:List DirT) (ts:List Tk) (l':List DirT) (ts':List Tk),drs el f l ts=.ok (l',ts')->ts'.length<=ts.length:=by
 intro f
 induction f with
 | zero=>intro l ts l' ts' h; simp [drs] at h
 | succ f ih =>
   intro l ts l' ts' h;rw [zv7] at h;by_cases e:isSg [64] ts=false
   ·rw [if_pos e] at h; cases h; exact Nat.le_refl _
   ·rw [if_neg e] at h
    obtain ⟨_,_,h⟩:=za9 h;obtain ⟨q,h1,h⟩:=za9 h;exact Nat.le_trans (ih _ _ _ _ h) (he ts q.1 q.2 h1)
theorem zk3 {el:List Tk->Except Er (DirT × List Tk)} (he:LeT el):LeT (drsR el):=fun _ _ _ h=>drs_le he _ _ _ _ _ h
theorem memP_con {del:List Tk->Except Er (DirT × List Tk)} (hd:LeT del):LtT (memP del):=by
 intro ts x ts' h;obtain ⟨q,h1,h⟩:=za9 h;obtain ⟨r,h2,h⟩:=za9 h;cases h;have a1:=zi9 _ _ _ h1;have a2:=zk3 hd _ _ _ h2;omega
theorem brk_le:∀ ts:List Tk,(brk ts).2.length<=ts.length
 | []=>Nat.le_refl _
 | t::r=>by
   rw [brk];by_cases e:isSg [91] (t::r)=true
   ·rw [if_pos e]; have:=brk_le r; simp; omega
   ·rw [if_neg e]; exact Nat.le_refl _
theorem nnP_le (xs:List Int) (ts:List Tk):(nnP xs ts).2.length<=ts.length:=by
 unfold nnP;by_cases e:isSg [33] ts=true
 ·rw [if_pos e]; simp
 ·rw [if_neg e]; exact Nat.le_refl _
theorem cls_le:∀ (k:Nat) (xs:List Int) (ts:List Tk) (ys:List Int) (ts':List Tk),cls k xs ts=.ok (ys,ts')->ts'.length<=ts.length:=by
 intro k
 induction k with
 | zero=>intro xs ts ys ts' h; rw [cls] at h; cases h; exact Nat.le_refl _
 | succ k ih =>
   intro xs ts ys ts' h;rw [cls] at h;obtain ⟨t1,h1,h⟩:=za9 h;have a1:=zn2 h1;have a2:=ih _ _ _ _ h;have a3:=nnP_le (xs++[2]) t1;omega
theorem refP_con:LtT refP:=by
 intro ts x ts' h;obtain ⟨q,h1,h⟩:=za9 h;obtain ⟨r,h2,h⟩:=za9 h;have a0:=brk_le ts;have a1:=zi9 _ _ _ h1;have a2:=cls_le _ _ _ _ _ h2;have a3:=nnP_le [] q.2;unfold refE at h;by_cases e:24<r.1.length
 ·rw [if_pos e] at h; cases h
 ·rw [if_neg e] at h; cases h; omega
theorem inpP_con {rel:List Tk->Except Er ((ByteArray × List Int) × List Tk)} {vel:List Tk->Except Er (VT × List Tk)} {del:List Tk->Except Er (DirT × List Tk)} (hr:LeT rel) (hv:LeT vel) (hd:LeT del):LtT (inpP rel vel del):=by
 intro ts x ts' h;obtain ⟨q,h1,h⟩:=za9 h;obtain ⟨t1,h2,h⟩:=za9 h;obtain ⟨r,h3,h⟩:=za9 h;have a1:=zi9 _ _ _ h1;have a2:=zn2 h2;have a3:=hr _ _ _ h3;by_cases e:isSg [61] r.2=true
 ·rw [if_pos e] at h
  obtain ⟨t,h4,h⟩:=za9 h;obtain ⟨d,h5,h⟩:=za9 h;cases h;have a4:=hv _ _ _ h4;have a5:=zk3 hd _ _ _ h5;have a6:=zw8 e;omega
 ·rw [if_neg e] at h
  obtain ⟨d,h5,h⟩:=za9 h;cases h;have a5:=zk3 hd _ _ _ h5;omega
theorem zV2 {rel:List Tk->Except Er ((ByteArray × List Int) × List Tk)} {del:List Tk->Except Er (DirT × List Tk)} (hr:LeT rel) (hd:LeT del) (nm:ByteArray) (gs:List InpT):LtT (fldQ rel del nm gs):=by
 intro ts x ts' h;obtain ⟨t1,h2,h⟩:=za9 h;obtain ⟨r,h3,h⟩:=za9 h;obtain ⟨d,h5,h⟩:=za9 h;cases h;have a2:=zn2 h2;have a3:=hr _ _ _ h3;have a5:=zk3 hd _ _ _ h5;omega
theorem fldP_con {iel:List Tk->Except Er (InpT × List Tk)} {rel:List Tk->Except Er ((ByteArray × List Int) × List Tk)} {del:List Tk->Except Er (DirT × List Tk)} (hi:LeT iel) (hr:LeT rel) (hd:LeT del):LtT (fldP iel rel del):=by
 intro ts x ts' h;obtain ⟨q,h1,h⟩:=za9 h;have a1:=zi9 _ _ _ h1;by_cases e:isSg [40] q.2=true
 ·rw [if_pos e] at h
  obtain ⟨a,h2,h⟩:=za9 h;have a2:=zx1 hi _ _ _ h2;have a3:=zV2 hr hd _ _ _ _ _ h;omega
 ·rw [if_neg e] at h
  have a3:=zV2 hr hd _ _ _ _ _ h;omega
theorem nms_le {sep:List UInt8}:∀ (f:Nat) (l:List ByteArray) (ts:List Tk) (l':List ByteArray) (ts':List Tk),nms sep f l ts=.ok (l',ts')->ts'.length<=ts.length:=by
 intro f
 induction f with
 | zero=>intro l ts l' ts' h; simp [nms] at h
 | succ f ih =>
   intro l ts l' ts' h;rw [zn5] at h;by_cases e:l.length≠0/\isSg sep ts=false
   ·rw [if_pos e] at h; cases h; exact Nat.le_refl _
   ·rw [if_neg e] at h
    obtain ⟨_,_,h⟩:=za9 h;obtain ⟨q,h1,h⟩:=za9 h;have a1:=zi9 _ _ _ h1;have a2:=ih _ _ _ _ h;have a3:(if l.length=0 then ts else ts.tail).length<=ts.length:=by split <;> simp
    omega
theorem impP_con:LeT impP:=by
 intro ts x ts' h;unfold impP at h
 split at h
 ·have a:=nms_le _ _ _ _ _ h
  have b:ts.tail.length<=ts.length:=by simp
  omega
 ·cases h; exact Nat.le_refl _
theorem uniP_con:LtT uniP:=by
 intro ts x ts' h;obtain ⟨t1,h1,h⟩:=za9 h;obtain ⟨r,h2,h⟩:=za9 h;cases h;have a1:=zn2 h1;have a2:=nms_le _ _ _ _ _ h2;omega
theorem df1_con {fel:List Tk->Except Er (FldT × List Tk)} {del:List Tk->Except Er (DirT × List Tk)} (hd:LeT del) (he:LeT fel):LtT (df1 fel del):=by
 intro ts x ts' h;obtain ⟨q,h1,h⟩:=za9 h;obtain ⟨i,h2,h⟩:=za9 h;have a2:=impP_con _ _ _ h2;obtain ⟨d,h3,h⟩:=za9 h;obtain ⟨f,h4,h⟩:=za9 h;cases h;have a0:ts.tail.length<=ts.length:=by simp
 have a1:=zi9 _ _ _ h1;have a3:=zk3 hd _ _ _ h3;have a4:=zx1 he _ _ _ h4;omega
theorem df2_con {fel:List Tk->Except Er (FldT × List Tk)} {del:List Tk->Except Er (DirT × List Tk)} (hd:LeT del) (he:LeT fel):LtT (df2 fel del):=by
 intro ts x ts' h;obtain ⟨q,h1,h⟩:=za9 h;obtain ⟨d,h3,h⟩:=za9 h;obtain ⟨f,h4,h⟩:=za9 h;cases h;have a0:ts.tail.length<=ts.length:=by simp
 have a1:=zi9 _ _ _ h1;have a3:=zk3 hd _ _ _ h3;have a4:=zx1 he _ _ _ h4;omega
theorem df3_con {del:List Tk->Except Er (DirT × List Tk)} (hd:LeT del):LtT (df3 del):=by
 intro ts x ts' h;obtain ⟨q,h1,h⟩:=za9 h;obtain ⟨d,h3,h⟩:=za9 h;obtain ⟨f,h4,h⟩:=za9 h;cases h;have a0:ts.tail.length<=ts.length:=by simp
 have a1:=zi9 _ _ _ h1;have a3:=zk3 hd _ _ _ h3;have a4:=uniP_con _ _ _ h4;omega
theorem df4_con {mel:List Tk->Except Er (MemT × List Tk)} {del:List Tk->Except Er (DirT × List Tk)} (hd:LeT del) (he:LeT mel):LtT (df4 mel del):=by
 intro ts x ts' h;obtain ⟨q,h1,h⟩:=za9 h;obtain ⟨d,h3,h⟩:=za9 h;obtain ⟨f,h4,h⟩:=za9 h;cases h;have a0:ts.tail.length<=ts.length:=by simp
 have a1:=zi9 _ _ _ h1;have a3:=zk3 hd _ _ _ h3;have a4:=zx1 he _ _ _ h4;omega
theorem df5_con {iel:List Tk->Except Er (InpT × List Tk)} {del:List Tk->Except Er (DirT × List Tk)} (hd:LeT del) (he:LeT iel):LtT (df5 iel del):=by
 intro ts x ts' h;obtain ⟨q,h1,h⟩:=za9 h;obtain ⟨d,h3,h⟩:=za9 h;obtain ⟨f,h4,h⟩:=za9 h;cases h;have a0:ts.tail.length<=ts.length:=by simp
 have a1:=zi9 _ _ _ h1;have a3:=zk3 hd _ _ _ h3;have a4:=zx1 he _ _ _ h4;omega
def LeE (el:ElT):Prop:=∀ ts n q,el ts n=.ok q->q.2.1.length<=ts.length
def LtE (el:ElT):Prop:=∀ ts n q,el ts n=.ok q->q.2.1.length<ts.length
theorem isVal_lt {ts:List Tk} (h:isVal ts=true):ts.tail.length<ts.length:=by
 cases ts with
 | nil=>simp [isVal,isSg,hd] at h
 | cons t r=>simp
theorem yd5 {lv:Nat} {L O:ElT} (hL:LeE L) (hO:LeE O):LtE (vaP lv L O):=by
 intro ts n q h;obtain ⟨_,h1,h⟩:=za9 h;have a:=isVal_lt (bv_ok h1).1
 split at h
 ·cases h; exact a
 split at h
 ·cases h; exact a
 split at h
 ·cases h; exact a
 split at h
 ·exact Nat.lt_of_le_of_lt (hL _ _ _ h) a
 ·exact Nat.lt_of_le_of_lt (hO _ _ _ h) a
theorem lsP_le {el:ElT} (he:LtE el):∀ (f:Nat) (l:List VT) (ts:List Tk) (n:Nat) (q:List VT × List Tk × Nat),lsP el f l ts n=.ok q->q.2.1.length<=ts.length:=by
 intro f
 induction f with
 | zero=>intro l ts n q h; simp [lsP] at h
 | succ f ih =>
   intro l ts n q h;rw [zv2] at h;by_cases e:isSg [93] ts=true
   ·rw [if_pos e] at h; cases h; exact Nat.le_of_lt (zw8 e)
   ·rw [if_neg e] at h
    obtain ⟨r,h1,h⟩:=za9 h;exact Nat.le_trans (ih _ _ _ _ h) (Nat.le_of_lt (he _ _ _ h1))
theorem lsV_con {el:ElT} (he:LtE el):LeE (lsV el):=by
 intro ts n q h;obtain ⟨r,h1,h⟩:=za9 h;cases h;exact lsP_le he _ _ _ _ _ h1
theorem vF_con {O:ElT->ElT} (hO:∀ el,LtE el->LeE (O el)):∀ f lv,LtE (vF O f lv):=by
 intro f
 induction f with
 | zero=>exact fun lv=>yd5 (fun ts n q h=>by cases h) (fun ts n q h=>by cases h)
 | succ f ih=>exact fun lv=>yd5 (lsV_con (ih _)) (hO _ (ih _))
theorem whP_con {el:ElT} (he:LtE el):LtT (whP el):=by
 intro ts x ts' h;obtain ⟨q,h1,h⟩:=za9 h;cases h;exact he _ _ _ h1
end Go.Proofs.YtfgelheiknmjgaaGreatDoor

