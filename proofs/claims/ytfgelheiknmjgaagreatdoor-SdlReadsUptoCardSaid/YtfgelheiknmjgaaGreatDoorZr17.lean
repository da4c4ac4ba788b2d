
/-
 Texts joined: F5.
-/
import Derived.Test.YtfgelheiknmjgaaGreatDoorZr16
set_option maxRecDepth 1000000
set_option maxHeartbeats 8000000
namespace Go.Proofs.YtfgelheiknmjgaaGreatDoor
open Go.RowKit
theorem yh0 {α β:Type} {r:Except Er α} {k : α->Except Er β} {y : β} (h:exB r k=.ok y):∃ x,r=.ok x/\k x=.ok y:=by
 cases r with
 | error e=>cases h
 | ok x=>exact ⟨x,rfl,h⟩
theorem yf2 (sep:List UInt8):∀ (f:Nat) (l:List ByteArray) (ts:List Tk) (l':List ByteArray) (ts':List Tk),nms sep f l ts=.ok (l',ts')->l.length<=64->l'.length<=64
 | 0,_,_,_,_,h,_=>by cases h
 | f+1,l,ts,l',ts',h,hl=>by
   rw [zl6] at h
   split at h
   ·cases h; exact hl
   ·obtain ⟨_,h1,h2⟩:=yh0 h
    obtain ⟨q,h3,h4⟩:=yh0 h2;have:=(zp5 h1 hl).2;exact yf2 sep f _ _ _ _ h4 (by rw [List.length_append,List.length_singleton]; omega)
def memOf (x:ByteArray):MemT:=⟨x,[]⟩
def uniP (ts:List Tk):Except Er (List MemT × List Tk):=exB (sgR [61] ts) fun ts1=>exB (nmsR [124] ts1) fun r=>.ok (r.1.map memOf,r.2)
theorem zW0 (p:Nat) (w:World) (ts:List Tk) (n:Nat) (h:PSt w p ts n):Calls Tryz.prog 117 #[pP p] w (WPost MemsC w p (uniP ts)):=by
 have HP:=Lh h;have hpw:=h.lt;have HV:Hid (uniP ts=exB (sgR [61] ts) fun ts1=>exB (nmsR [124] ts1) fun r=>.ok (r.1.map memOf,r.2)):=Lh rfl;clear h;generalize uniP ts=R at *
 go_enter Tryz.func117, Tryz.ntmps117
 go_wp2_with fail
 refine (zd9 HP.out ⟨#[61]⟩).mono ?_
 rintro e w1 (⟨ts1,hr,rfl,hp,ht⟩ | ⟨x,hr,rfl,ht⟩);rotate_left
 ·exact ⟨rfl,.inr ⟨_,HV.out.trans (za7 hr),rfl,ht⟩⟩
 have HV1:=Lh (HV.out.trans (za3 hr));have HP1:=Lh hp;have HT1:=Lh ht;clear hr hp ht;go_wp2_with fail
 refine (zB3 p w1 ts1 n HP1.out ⟨#[124]⟩).mono ?_
 rintro e w2 (⟨l,ts2,v,m2,hr,rfl,hv,hp,ht⟩ | ⟨x,hr,rfl,ht⟩);rotate_left
 ·exact ⟨rfl,.inr ⟨_,HV1.out.trans (za7 hr),rfl,HT1.out.step HT1.out.size ht⟩⟩
 have HV2:Hid (R=.ok (l.map memOf,ts2)):=Lh (HV1.out.trans (za3 hr));have hl64:l.length<=64:=yf2 _ _ _ _ _ _ hr (Nat.zero_le _);have HP2:=Lh hp;have HT2:=Lh (HT1.out.step HT1.out.size ht);have hws:w.heap.size<=w2.heap.size:=HT2.out.size;obtain ⟨A,c,rfl,hc,hbg,V,hA,hrr⟩:=hv;have HA:=Lh hA;have HRR:=Lh hrr;obtain ⟨len,hlen⟩ : ∃ len,len=l.length:=⟨_,rfl⟩;rw [<- hlen] at HA hl64;have HL:=Lh hlen;have hlm:(len:Int)<=64:=by omega
 clear hr hp ht hA hrr hc hbg;rw [<- hlen];clear hlen;go_wp2_with fail
 go_loopw [3,13] (fun u ct wr=>∃ (i:Nat) (cells:List Value),i<=len/\ct=.int .i64 i/\Hid (Els 48 2 MemC wr w2.heap.size u cells ((l.take i).map memOf)/\Below w2.heap.size w2 wr)) (fun _ ct _=>len-(intOf ct).toNat)
 case atStart=>exact ⟨0,[],Nat.zero_le _,rfl,Lh ⟨by rw [List.take_zero]; exact Els.nil _ _ _ _ _,Below.refl _ _⟩⟩
 case round =>
  obtain ⟨i,cells,hi,rfl,hr⟩:=hrel;obtain ⟨AL,cl,hu⟩:=hr.out.1.slice;subst hu;have htl:((l.take i).map memOf).length=i:=by rw [List.length_map,List.length_take]; have:=HL.out; omega
  rw [htl];by_cases hlt:i<len
  ·have hlt':(i:Int)<len:=by omega
   obtain ⟨a,ea,ha,hcell⟩:=HA.out (by omega)
   subst ea;obtain ⟨x,hx⟩ : ∃ x,l[i]?=some x:=⟨_,List.getElem?_eq_getElem (by have:=HL.out; omega)⟩
   have hrx:=HRR.out i x hx;have k0:wr.cell? (a.add i)=some (.string x):=by
    have h1:=((hr.out.2.cell (p:=at_ (a.add (i*1)) 0) (by rw [zb3,za0]; exact ha.2)).trans (hcell i hlt 0 (by omega))).trans (congrArg some hrx.1)
    simpa [at_] using h1
   have HRX:=Lh hrx.2;have HXI:=Lh hx;have hsz:=hr.out.2.size;have b0:Below wr.heap.size wr (wr.alloc (.cells #[.string x,.slice none 0 0] 48 (0,0))):=za1 _ _;have HB0:=Lh b0;have HOWN:Hid ((wr.alloc (.cells #[.string x,.slice none 0 0] 48 (0,0))).ownsRow w2.heap.size 48 2 (.slice AL i cl) i cells):=Lh (by
    have h8:=ze4 hr.out.1.own (fun g hg=>b0.block g hg);rw [htl] at h8; exact h8)
   have HNEWS:Hid (∀ (j:Nat) (u:Value),([.string x,.slice none 0 0]:List Value)[j]?=some u->(wr.alloc (.cells #[.string x,.slice none 0 0] 48 (0,0))).cell? ((⟨wr.heap.size,0,none⟩ : Addr).add j)=some u):=Lh (ze5 wr [.string x,.slice none 0 0] 48);have HONE:Hid (∀ u∈([.string x,.slice none 0 0]:List Value),u.oneCell'=true):=Lh (by intro u hu; simp only [List.mem_cons,List.not_mem_nil,or_false] at hu; rcases hu with rfl | rfl <;> rfl)
   have HSZ:Hid (w2.heap.size<=(wr.alloc (.cells #[.string x,.slice none 0 0] 48 (0,0))).heap.size):=Lh (by rw [World.size_alloc]; omega)
   have HTL:=Lh htl;clear hcell hx hrx b0 htl;go_wp2_with (at_builtin; refine za9 _ rfl _ _ 36 rfl w2.heap.size 48 _ 2 40 Tryz.underlying36 yg6 rfl (by decide) _ i cells rfl HOWN.out ⟨wr.heap.size,0,none⟩ 1 1 (by decide) [.string x,.slice none 0 0] rfl rfl HNEWS.out HONE.out (by unfold maxLen; omega) (by omega) HSZ.out ?_; intro v' w' hown' hg' hf')
   have hxS:MemC wr (fun b=>w2.heap.size<=b/\b<wr.heap.size/\(Value.slice AL ((l.take i).map memOf).length cl).ownBlock≠some b) (fun j=>[Value.string x,.slice none 0 0].getD j undef) (memOf x):=⟨rfl,Nat.le_trans HRX.out (Nat.le_refl _),SlS.nil _ _⟩;have hpush:=Els.push (x:=memOf x) MemC.stays hr.out.1 HB0.out hsz hxS (news:=[.string x,.slice none 0 0]) (fun j hj=>rfl) (MemV.cong (Nat.le_refl _)) (by rw [HTL.out]; exact hown') (by rw [HTL.out]; exact hg') (by rw [HTL.out]; exact hf')
   have htk:(l.take i).map memOf++[memOf x]=(l.take (i+1)).map memOf:=by
    have hil:i<l.length:=by have:=HL.out; omega
    rw [List.take_succ_eq_append_getElem hil,List.map_append];have:l[i]=x:=by have h9:=HXI.out; rw [List.getElem?_eq_getElem hil] at h9; cases h9; rfl
    rw [this]; rfl
   rw [htk] at hpush;have HE2:=Lh hpush.1;have HBB:=Lh (hr.out.2.trans hpush.2);clear hpush htk hxS hown' hg' hf'
   go_roundw
   case rel=>exact ⟨i+1,_,by omega,by simp,Lh ⟨HE2.out,HBB.out⟩⟩
   case measure=>simp [intOf]; omega
  ·have:i=len:=by omega
   subst this;have htk:l.take i=l:=List.take_of_length_le (by have:=HL.out; omega)
   have hE:=hr.out.1;rw [htk] at hE;have hrd:=hE.read (bytes:=40) MemC.stays (by rw [List.length_map]; have:=HL.out; unfold big; omega)
   have HRD:=Lh (SlS.kept MemC.stays (w':=wr) (S':=fun b=>w.heap.size<=b/\b<wr.heap.size) hrd (fun _ _=>rfl) (fun b hb=>⟨by have:=hb.1; omega,hb.2⟩))
   have HP3:=Lh (HP2.out.stay hr.out.2);have HT3:=Lh (HT2.out.step hws (.of hr.out.2));clear hE hrd htl;go_wp2_with fail
   go_ret
   refine .inl ⟨_,_,_,_,HV2.out,rfl, ?_,HP3.out,HT3.out⟩
   have h9:=HRD.out;rw [List.length_map, <- HL.out] at h9;exact h9
end Go.Proofs.YtfgelheiknmjgaaGreatDoor
