
/-
 Texts joined: N9 NX NO3 NY NT0 NT1 NT2 NT3 NT4 NT5 NT6 NT7 NT8 NT9 NZ NE.
-/
import Derived.Test.YtfgelheiknmjgaaGreatDoorZt44
set_option maxRecDepth 1000000
set_option maxHeartbeats 8000000
namespace Go.Proofs.YtfgelheiknmjgaaGreatDoor
open Go.RowKit
theorem PB.fresh (w:World) (B:Nat) (hB:B<=w.heap.size):PB B w.heap.size [] (w.alloc (.cells #[.pointer none,.slice none 0 0] 77 (0,0))) :=
 .inl ⟨hB,_,heap_alloc_new _ _,⟨rfl,.inl ⟨rfl,rfl⟩⟩,by simp [Value.ownBlock]⟩
theorem Rd.shp {w:World} {B:Nat} {v:Value} {t:VT} (h:Rd w B v t):∃ (k n:Int) (s:ByteArray) (A:Option Addr) (li ci:Nat) (K:Option Addr) (lk ck:Nat),v=.agg #[.int .i64 k,.int .i64 n,.string s,.slice A li ci,.slice K lk ck]:=by
 cases h with
 | mk V=>exact ⟨_,_,_,_,_,_,_,_,_,rfl⟩
def zJ0 (l:List UInt8) (w:World) (e:Ending) (w':World):Prop:=e=.returned (.string ⟨l.toArray⟩)/\Below w.heap.size w w'
theorem zL2 (xs:List DefT) (hf:∀ x∈xs,zC4 x) (u:Value) (w:World) (h:DefsR w w.heap.size u xs) (hL:LaidB w.heap.size w) (hl:(zh9 xs).length<=140737488355328) (hne:zh9 xs≠[]) :
  Calls Tryz.prog 16 #[.agg #[u]] w (zJ0 (zh9 xs) w):=by
 obtain ⟨A,c,rfl,_,_⟩:=h.form;obtain ⟨n,hn⟩ : ∃ n,xs.length=n:=⟨_,rfl⟩;rw [hn] at h ⊢;have b1:=za0 w (.cells #[.slice A n c] 24 (0,0));have b2:Below w.heap.size w ((w.alloc (.cells #[.slice A n c] 24 (0,0))).alloc (.cells #[.pointer none,.slice none 0 0] 77 (0,0))):=b1.alloc b1.size _;have HK:=Lh (Bk.stay (Bk.new w #[.slice A n c] 24) (za0 _ (.cells #[.pointer none,.slice none 0 0] 77 (0,0))));have HP:=PB.fresh (w.alloc (.cells #[.slice A n c] 24 (0,0))) w.heap.size b1.size;have CALL:=Lh (zY6 w.heap.size _ xs zk1 (fun x hx f W hR=>zD5 _ _ (zJ4 _ _) x (hf x hx) f W hR) ⟨#[10]⟩ _ [] _ (h.kept b2) HP (hL.kept b2) (by
  show 0+(zh9 xs).length<=_
  omega) b2.size)
 have HB2:=Lh b2;have HNE:=Lh hne;have hsz:(w.alloc (.cells #[.slice A n c] 24 (0,0))).heap.size=w.heap.size+1:=by simp
 rw [hsz] at CALL;have y0:=HK.out.cell 0 _ rfl;clear h hL hl hne b1 b2 HP hf hn hsz
 go_enter Tryz.func16, Tryz.ntmps16
 go_wp2_with fail
 refine CALL.out.mono ?_
 rintro e w1 ⟨rfl,hp,hw⟩;have HP1:Hid (PB w.heap.size (w.heap.size+1) (zh9 xs) w1):=Lh hp;have HW1:=Lh (HB2.out.trans hw.below);clear hp hw CALL y0;go_wp2_with fail;refine (zD8 _ _ _ _ HP1.out HNE.out).mono ?_
 rintro e w2 ⟨rfl,hb⟩;have HW2:=Lh (HW1.out.trans hb);clear hb;go_wp2_with fail;go_ret
 exact ⟨rfl,HW2.out⟩
theorem zF9 (t:VT) (hf:t.fit) (v:Value) (w:World) (h:Rd w w.heap.size v t) (hL:LaidB w.heap.size w) (hl:t.src.length<=140737488355328) (hne:t.src≠[]) :
  Calls Tryz.prog 30 #[v] w (zJ0 t.src w):=by
 obtain ⟨k,n,s,A,li,ci,K,lk,ck,rfl⟩:=h.shp;have b1:=za0 w (.cells #[.int .i64 k,.int .i64 n,.string s,.slice A li ci,.slice K lk ck] 53 (0,0));have b2:Below w.heap.size w ((w.alloc (.cells #[.int .i64 k,.int .i64 n,.string s,.slice A li ci,.slice K lk ck] 53 (0,0))).alloc (.cells #[.pointer none,.slice none 0 0] 77 (0,0))):=b1.alloc b1.size _;have HK:=Lh (Bk.stay (Bk.new w #[.int .i64 k,.int .i64 n,.string s,.slice A li ci,.slice K lk ck] 53) (za0 _ (.cells #[.pointer none,.slice none 0 0] 77 (0,0))));have HP:=PB.fresh (w.alloc (.cells #[.int .i64 k,.int .i64 n,.string s,.slice A li ci,.slice K lk ck] 53 (0,0))) w.heap.size b1.size;have CALL:=Lh (zJ4 w.heap.size (w.alloc (.cells #[.int .i64 k,.int .i64 n,.string s,.slice A li ci,.slice K lk ck] 53 (0,0))).heap.size t hf (fun j=>(#[.int .i64 k,.int .i64 n,.string s,.slice A li ci,.slice K lk ck]:Array Value).getD j undef) _ (h.kept b2) [] HP (hL.kept b2) (by
  show 0+t.src.length<=_
  omega) b2.size)
 have HB2:=Lh b2;have HNE:=Lh hne;have hsz:(w.alloc (.cells #[.int .i64 k,.int .i64 n,.string s,.slice A li ci,.slice K lk ck] 53 (0,0))).heap.size=w.heap.size+1:=by simp
 rw [hsz] at CALL;obtain ⟨y0,y1,y2,y3,y4⟩:=HK.out.c5;clear h hL hl hne b1 b2 HP hf hsz
 go_enter Tryz.func30, Tryz.ntmps30
 go_wp2_with fail
 refine CALL.out.mono ?_
 rintro e w1 ⟨rfl,hp,hw⟩;have HP1:Hid (PB w.heap.size (w.heap.size+1) t.src w1):=Lh hp;have HW1:=Lh (HB2.out.trans hw.below);clear hp hw CALL y0 y1 y2 y3 y4;go_wp2_with fail;refine (zD8 _ _ _ _ HP1.out HNE.out).mono ?_
 rintro e w2 ⟨rfl,hb⟩;have HW2:=Lh (HW1.out.trans hb);clear hb;go_wp2_with fail;go_ret
 exact ⟨rfl,HW2.out⟩
section
variable {ops:Array Oper} {Q:Exit->Act->World->Prop} {o:Oper} {a:Act} {w:World} {R:Value->World->Prop}
end
end Go.Proofs.YtfgelheiknmjgaaGreatDoor
namespace Go.Proofs.YtfgelheiknmjgaaGreatDoor
open Go.RowKit
def cntF (y:FldT):Nat:=y.args.length+y.dirs.length
def cntD (x:DefT):Nat:=1+x.fields.length+x.members.length+x.inputs.length+x.dirs.length+x.impl.length+(x.fields.map cntF).sum
def smallD (x:DefT):Prop:=x.impl.length<=64/\x.dirs.length<=64/\x.members.length<=64/\x.inputs.length<=64/\x.fields.length<=64/\∀ y∈x.fields,y.args.length<=64/\y.dirs.length<=64
theorem zT4 {l:List Nat} {j a:Nat} (h:l[j]?=some a):(l.take (j+1)).sum=(l.take j).sum+a:=by
 rw [zG2 h,List.sum_append]; simp
theorem large_ok (xs:List DefT) (hs:∀ x∈xs,smallD x) (u:Value) (w:World) (B:Nat) (h:DefsR w B u xs) (hB:B<=w.heap.size):Calls Tryz.prog 14 #[.agg #[u]] w fun e w'=>(∃ b,e=.returned (.bool b)/\(b=false->xs.length<=70/\(xs.map cntD).sum<=1000))/\Below w.heap.size w w':=by
 obtain ⟨A,c,rfl,hc,hbg,V,hA,hr⟩:=h;unfold big at hbg;obtain ⟨n,hn⟩ : ∃ n,xs.length=n:=⟨_,rfl⟩;rw [hn] at hA hbg ⊢;have hnm:(n:Int)<=140737488351232:=by omega
 have HN:=Lh hn;have HA:=Lh hA;have HR:=Lh hr;have HBB:=Lh hB;have HS:=Lh hs;clear hs;have HB0:=Lh (za0 w (.cells #[.slice A n c] 24 (0,0)));have HK0:=Lh (Bk.new w #[.slice A n c] 24);clear hn hA hr hc hbg;have y0:=HK0.out.cell 0 _ rfl;by_cases h70:n > 70
 ·have h70':(n:Int) > 70:=by omega
  go_enter Tryz.func14, Tryz.ntmps14
  go_wp2_with fail
  go_ret
  exact ⟨⟨_,rfl,fun hb=>by simp at hb⟩,HB0.out⟩
 have h70':¬ (n:Int) > 70:=by omega
 clear h70
 go_enter Tryz.func14, Tryz.ntmps14
 go_wp2_with fail
 clear y0
 go_loopw [3,4] (fun v i wr=>∃ (j z:Nat),j<=n/\i=.int .i64 j/\v=.int .i64 z/\z<=j*8513/\Hid (z=((xs.map cntD).take j).sum/\Below w.heap.size w wr/\Bk wr w.heap.size #[.slice A n c] 24)) (fun _ i _=>n-(intOf i).toNat)
 case atStart=>exact ⟨0,0,Nat.zero_le _,rfl,rfl,by omega,Lh ⟨rfl,HB0.out,HK0.out⟩⟩
 case round =>
  obtain ⟨j,z,hj,rfl,rfl,hzj,hr⟩:=hrel;have HZ:=Lh hr.out.1;have HB:=Lh hr.out.2.1;have HK:=Lh hr.out.2.2;clear hr;have y0:=HK.out.cell 0 _ rfl;by_cases hlt:j<n
  ·have hlt':(j:Int)<n:=by omega
   obtain ⟨x,hxi⟩ : ∃ x,xs[j]?=some x:=⟨_,List.getElem?_eq_getElem (by rw [HN.out]; exact hlt)⟩;obtain ⟨a,rfl,ha,hc0⟩:=HA.out (by omega);have hx:DefR wr B (V j) x:=DefR.stays.kept (HR.out j x hxi) (HB.out.mono HBB.out);have hcc:∀ q,q<7->wr.cell? (at_ (a.add (j*7)) q)=some (V j q):=fun q hq=>((HB.out.mono HBB.out).cell (by rw [zb5,za1]; exact ha)).trans (hc0 j hlt q hq);have k0:wr.cell? (a.add (j*7))=some (V j 0):=hcc 0 (by omega);have k1:wr.cell? ⟨(a.add (j*7)).block,(a.add (j*7)).off+1,none⟩=some (V j 1):=hcc 1 (by omega);have k2:wr.cell? ⟨(a.add (j*7)).block,(a.add (j*7)).off+2,none⟩=some (V j 2):=hcc 2 (by omega);have k3:wr.cell? ⟨(a.add (j*7)).block,(a.add (j*7)).off+3,none⟩=some (V j 3):=hcc 3 (by omega);have k4:wr.cell? ⟨(a.add (j*7)).block,(a.add (j*7)).off+4,none⟩=some (V j 4):=hcc 4 (by omega);have k5:wr.cell? ⟨(a.add (j*7)).block,(a.add (j*7)).off+5,none⟩=some (V j 5):=hcc 5 (by omega);have k6:wr.cell? ⟨(a.add (j*7)).block,(a.add (j*7)).off+6,none⟩=some (V j 6):=hcc 6 (by omega);obtain ⟨A2,c2,e2,_,g2⟩:=hx.impl.form;obtain ⟨A3,c3,e3,_,g3⟩:=hx.dirs.form;obtain ⟨A5,c5,e5,_,g5⟩:=hx.members.form;obtain ⟨A6,c6,e6,_,g6⟩:=hx.inputs.form;obtain ⟨A4,c4,e4,_,g4,V4,hA4,hr4⟩:=(HR.out j x hxi).fields;rw [hx.kind] at k0;rw [hx.name] at k1;rw [e2] at k2;rw [e3] at k3;rw [e4] at k4;rw [e5] at k5;rw [e6] at k6;obtain ⟨s2,s3,s5,s6,s4,hsf⟩:=HS.out x (List.mem_of_getElem? hxi);have hcd:(xs.map cntD)[j]?=some (cntD x):=by rw [List.getElem?_map,hxi]; rfl
   have HTS:=Lh (zT4 hcd);have HCD:Hid (cntD x=1+x.fields.length+x.members.length+x.inputs.length+x.dirs.length+x.impl.length+(x.fields.map cntF).sum):=Lh rfl;have HSF:=Lh hsf;clear hcd hsf;unfold big at g2 g3 g4 g5 g6;generalize x.impl.length=n2 at k2 g2 s2 HCD;generalize x.dirs.length=n3 at k3 g3 s3 HCD;generalize x.members.length=n5 at k5 g5 s5 HCD;generalize x.inputs.length=n6 at k6 g6 s6 HCD;generalize x.kind=kd at k0;generalize x.name=nm at k1;obtain ⟨n4,hn4⟩ : ∃ n4,x.fields.length=n4:=⟨_,rfl⟩;rw [hn4] at k4 g4 hA4 s4 HCD;have m4:(n4:Int)<=140737488351232:=by omega
   have HA4:=Lh hA4;have HN4:=Lh hn4;have HR4:Hid (∀ i y,x.fields[i]?=some y->∃ (p1 p3:Option Addr) (l1 q1 l3 q3:Nat),V4 i 1=.slice p1 l1 q1/\V4 i 4=.slice p3 l3 q3/\l1<=64/\l3<=64/\cntF y=l1+l3):=Lh fun i y hy=>by
    obtain ⟨p1,q1,f1,_,_⟩:=(hr4 i y hy).args.form;obtain ⟨p3,q3,f3,_,_⟩:=(hr4 i y hy).dirs.form;exact ⟨p1,p3,_,q1,_,q3,f1,f3,(HSF.out y (List.mem_of_getElem? hy)).1,(HSF.out y (List.mem_of_getElem? hy)).2,rfl⟩
   obtain ⟨tb,htb⟩ : ∃ tb,wr.heap.size=tb:=⟨_,rfl⟩;have HT:Hid (Bk (wr.alloc (.cells #[.int .i64 kd,.string nm,.slice A2 n2 c2,.slice A3 n3 c3,.slice A4 n4 c4,.slice A5 n5 c5,.slice A6 n6 c6] 39 (0,0))) tb #[.int .i64 kd,.string nm,.slice A2 n2 c2,.slice A3 n3 c3,.slice A4 n4 c4,.slice A5 n5 c5,.slice A6 n6 c6] 39):=Lh (by rw [<- htb]; exact Bk.new _ _ _);have HB2:Hid (Below w.heap.size w (wr.alloc (.cells #[.int .i64 kd,.string nm,.slice A2 n2 c2,.slice A3 n3 c3,.slice A4 n4 c4,.slice A5 n5 c5,.slice A6 n6 c6] 39 (0,0)))):=Lh (HB.out.trans ((za0 wr _).mono HB.out.size));have HK2:Hid (Bk (wr.alloc (.cells #[.int .i64 kd,.string nm,.slice A2 n2 c2,.slice A3 n3 c3,.slice A4 n4 c4,.slice A5 n5 c5,.slice A6 n6 c6] 39 (0,0))) w.heap.size #[.slice (some a) n c] 24):=Lh (HK.out.stay (za0 _ _));have HX4:Hid (∀ k,k<n4->∃ b4,A4=some b4/\∀ W,Below w.heap.size w W->∀ q,q<5->W.cell? (at_ (b4.add (k*5)) q)=some (V4 k q)):=Lh fun k hk=>by
    obtain ⟨b4,e,hb4,hcells⟩:=hA4 (by omega);exact ⟨b4,e,fun W hW q hq=>((hW.mono HBB.out).cell (by rw [zb5,za1]; exact hb4)).trans (hcells k hk q hq)⟩
   clear hx hc0 hcc e2 e3 e4 e5 e6 hr4 hA4 hn4 hxi;go_wp2_with fail;clear htb;clear y0 k0 k1 k2 k3 k4 k5 k6
   go_loopw [3,6] (fun v2 i2 wr=>∃ (k z2:Nat),k<=n4/\i2=.int .i64 k/\v2=.int .i64 z2/\z2<=z+(1+n4+n5+n6+n3+n2)+k*128/\Hid (z2=z+(1+n4+n5+n6+n3+n2)+((x.fields.map cntF).take k).sum/\Below w.heap.size w wr/\Bk wr w.heap.size #[.slice (some a) n c] 24 /\ Bk wr tb #[.int .i64 kd,.string nm,.slice A2 n2 c2,.slice A3 n3 c3,.slice A4 n4 c4,.slice A5 n5 c5,.slice A6 n6 c6] 39)) (fun _ i2 _=>n4-(intOf i2).toNat)
   case atStart=>exact ⟨0,z+(1+n4+n5+n6+n3+n2),Nat.zero_le _,rfl,by go_num,by omega,Lh ⟨rfl,HB2.out,HK2.out,HT.out⟩⟩
   case round =>
    obtain ⟨k,z2,hk,rfl,rfl,hz2,hr2⟩:=hrel;have HZ2:=Lh hr2.out.1;have HB3:=Lh hr2.out.2.1;have HK3:=Lh hr2.out.2.2.1;have HT3:=Lh hr2.out.2.2.2;clear hr2;have t4:=HT3.out.cell 4 _ rfl;by_cases hlt2:k<n4
    ·have hlt2':(k:Int)<n4:=by omega
     obtain ⟨y,hyi⟩ : ∃ y,x.fields[k]?=some y:=⟨_,List.getElem?_eq_getElem (by rw [HN4.out]; exact hlt2)⟩;obtain ⟨p1,p3,l1,q1,l3,q3,f1,f3,b1,b3,hcf⟩:=HR4.out k y hyi;have hcy:(x.fields.map cntF)[k]?=some (l1+l3):=by rw [List.getElem?_map,hyi, <- hcf]; rfl
     have HTF:=Lh (zT4 hcy);clear hcf hcy;obtain ⟨b4,e4b,hcells⟩:=HX4.out k hlt2;subst e4b;have HCL:=Lh hcells;clear hcells hyi;go_wp2_with fail;refine za7 (fun W=>Below w.heap.size w W/\Bk W w.heap.size #[.slice (some a) n c] 24 /\ Bk W tb #[.int .i64 kd,.string nm,.slice A2 n2 c2,.slice A3 n3 c3,.slice (some b4) n4 c4,.slice A5 n5 c5,.slice A6 n6 c6] 39) ⟨HB3.out,HK3.out,HT3.out⟩ (by kernel_rfl) ?_
     intro W ⟨hW,hW0,hW1⟩ _;have p0:∀ q:Past W,q.w.cell? ⟨tb,4,none⟩=some (.slice (some b4) n4 c4):=fun q=>(q.b.cell (p:=⟨tb,4,none⟩) hW1.lt).trans (hW1.cell 4 _ rfl);have hp:∀ q:Past W,Below w.heap.size w q.w:=fun q=>hW.trans (q.b.mono hW.size);have r1:∀ q:Past W,q.w.cell? ⟨(b4.add (k*5)).block,(b4.add (k*5)).off+1,none⟩=some (.slice p1 l1 q1):=fun q=>(HCL.out _ (hp q) 1 (by omega)).trans (congrArg some f1);have r3:∀ q:Past W,q.w.cell? ⟨(b4.add (k*5)).block,(b4.add (k*5)).off+4,none⟩=some (.slice p3 l3 q3):=fun q=>(HCL.out _ (hp q) 4 (by omega)).trans (congrArg some f3);have HWW:=Lh hW;have HW0:=Lh hW0;have HW1:=Lh hW1;clear hW hW0 hW1 hp f1 f3
     repeat (go_big_quiet_step (fail))
     refine wpQuiet_nil ?_
     intro _ hw';obtain ⟨q,rfl⟩:=hw';go_wp2_with fail
     go_roundw
     case rel=>exact ⟨k+1,z2+(l1+l3),by omega,by go_num,by go_num,by omega,Lh ⟨by rw [HTF.out]; have:=HZ2.out; omega,HWW.out.trans (q.b.mono HWW.out.size),HW0.out.stay q.b,HW1.out.stay q.b⟩⟩
     case measure=>simp [intOf]; omega
    ·have:k=n4:=by omega
     subst this;go_wp2_with fail
     go_roundw
     case rel=>exact ⟨j+1,z2,by omega,by go_num,rfl,by omega,Lh ⟨by rw [HTS.out,HCD.out]; have h1:=HZ2.out; have h2:=HZ.out; rw [List.take_of_length_le (by rw [List.length_map,HN4.out]; exact Nat.le_refl _)] at h1; omega,HB3.out,HK3.out⟩⟩
     case measure=>simp [intOf]; omega
  ·have:j=n:=by omega
   subst this;go_wp2_with fail;go_ret
   have HFZ:Hid (z=(xs.map cntD).sum):=Lh (by have:=HZ.out; rwa [List.take_of_length_le (by rw [List.length_map,HN.out]; exact Nat.le_refl _)] at this);exact ⟨⟨_,rfl,fun hb=>⟨by have:=HN.out; omega,by have:=HFZ.out; simp at hb; omega⟩⟩,HB.out⟩
theorem ym0 (xs:List DefT) (u:Value) (w:World) (B:Nat) (h:DefsR w B u xs) (hB:B<=w.heap.size):Calls Tryz.prog 14 #[.agg #[u]] w fun e w'=>(∃ b,e=.returned (.bool b))/\Below w.heap.size w w':=by
 obtain ⟨A,c,rfl,hc,hbg,V,hA,hr⟩:=h;unfold big at hbg;obtain ⟨n,hn⟩ : ∃ n,xs.length=n:=⟨_,rfl⟩;rw [hn] at hA hbg ⊢;have hnm:(n:Int)<=140737488351232:=by omega
 have HN:=Lh hn;have HA:=Lh hA;have HR:=Lh hr;have HBB:=Lh hB;have HB0:=Lh (za0 w (.cells #[.slice A n c] 24 (0,0)));have HK0:=Lh (Bk.new w #[.slice A n c] 24);clear hn hA hr hc hbg;have y0:=HK0.out.cell 0 _ rfl;by_cases h70:n > 70
 ·have h70':(n:Int) > 70:=by omega
  go_enter Tryz.func14, Tryz.ntmps14
  go_wp2_with fail
  go_ret
  exact ⟨⟨_,rfl⟩,HB0.out⟩
 have h70':¬ (n:Int) > 70:=by omega
 clear h70
 go_enter Tryz.func14, Tryz.ntmps14
 go_wp2_with fail
 clear y0
 go_loopw [3,4] (fun v i wr=>∃ (j:Nat) (x:Int),j<=n/\i=.int .i64 j/\v=.int .i64 x/\Hid (Below w.heap.size w wr/\Bk wr w.heap.size #[.slice A n c] 24)) (fun _ i _=>n-(intOf i).toNat)
 case atStart=>exact ⟨0,0,Nat.zero_le _,rfl,rfl,Lh ⟨HB0.out,HK0.out⟩⟩
 case round =>
  obtain ⟨j,z,hj,rfl,rfl,hr⟩:=hrel;have HB:=Lh hr.out.1;have HK:=Lh hr.out.2;clear hr;have y0:=HK.out.cell 0 _ rfl;by_cases hlt:j<n
  ·have hlt':(j:Int)<n:=by omega
   obtain ⟨x,hxi⟩ : ∃ x,xs[j]?=some x:=⟨_,List.getElem?_eq_getElem (by rw [HN.out]; exact hlt)⟩;obtain ⟨a,rfl,ha,hc0⟩:=HA.out (by omega);have hx:DefR wr B (V j) x:=DefR.stays.kept (HR.out j x hxi) (HB.out.mono HBB.out);have hcc:∀ q,q<7->wr.cell? (at_ (a.add (j*7)) q)=some (V j q):=fun q hq=>((HB.out.mono HBB.out).cell (by rw [zb5,za1]; exact ha)).trans (hc0 j hlt q hq);have k0:wr.cell? (a.add (j*7))=some (V j 0):=hcc 0 (by omega);have k1:wr.cell? ⟨(a.add (j*7)).block,(a.add (j*7)).off+1,none⟩=some (V j 1):=hcc 1 (by omega);have k2:wr.cell? ⟨(a.add (j*7)).block,(a.add (j*7)).off+2,none⟩=some (V j 2):=hcc 2 (by omega);have k3:wr.cell? ⟨(a.add (j*7)).block,(a.add (j*7)).off+3,none⟩=some (V j 3):=hcc 3 (by omega);have k4:wr.cell? ⟨(a.add (j*7)).block,(a.add (j*7)).off+4,none⟩=some (V j 4):=hcc 4 (by omega);have k5:wr.cell? ⟨(a.add (j*7)).block,(a.add (j*7)).off+5,none⟩=some (V j 5):=hcc 5 (by omega);have k6:wr.cell? ⟨(a.add (j*7)).block,(a.add (j*7)).off+6,none⟩=some (V j 6):=hcc 6 (by omega);obtain ⟨A2,c2,e2,_,g2⟩:=hx.impl.form;obtain ⟨A3,c3,e3,_,g3⟩:=hx.dirs.form;obtain ⟨A5,c5,e5,_,g5⟩:=hx.members.form;obtain ⟨A6,c6,e6,_,g6⟩:=hx.inputs.form;obtain ⟨A4,c4,e4,_,g4,V4,hA4,hr4⟩:=(HR.out j x hxi).fields;rw [hx.kind] at k0;rw [hx.name] at k1;rw [e2] at k2;rw [e3] at k3;rw [e4] at k4;rw [e5] at k5;rw [e6] at k6;unfold big at g2 g3 g4 g5 g6;generalize x.impl.length=n2 at k2 g2;generalize x.dirs.length=n3 at k3 g3;generalize x.members.length=n5 at k5 g5;generalize x.inputs.length=n6 at k6 g6;generalize x.kind=kd at k0;generalize x.name=nm at k1;obtain ⟨n4,hn4⟩ : ∃ n4,x.fields.length=n4:=⟨_,rfl⟩;rw [hn4] at k4 g4 hA4;have m4:(n4:Int)<=140737488351232:=by omega
   have HA4:=Lh hA4;have HN4:=Lh hn4;have HR4:Hid (∀ i y,x.fields[i]?=some y->∃ (p1 p3:Option Addr) (l1 q1 l3 q3:Nat),V4 i 1=.slice p1 l1 q1/\V4 i 4=.slice p3 l3 q3):=Lh fun i y hy=>by
    obtain ⟨p1,q1,f1,_,_⟩:=(hr4 i y hy).args.form;obtain ⟨p3,q3,f3,_,_⟩:=(hr4 i y hy).dirs.form;exact ⟨p1,p3,_,q1,_,q3,f1,f3⟩
   obtain ⟨tb,htb⟩ : ∃ tb,wr.heap.size=tb:=⟨_,rfl⟩;have HT:Hid (Bk (wr.alloc (.cells #[.int .i64 kd,.string nm,.slice A2 n2 c2,.slice A3 n3 c3,.slice A4 n4 c4,.slice A5 n5 c5,.slice A6 n6 c6] 39 (0,0))) tb #[.int .i64 kd,.string nm,.slice A2 n2 c2,.slice A3 n3 c3,.slice A4 n4 c4,.slice A5 n5 c5,.slice A6 n6 c6] 39):=Lh (by rw [<- htb]; exact Bk.new _ _ _);have HB2:Hid (Below w.heap.size w (wr.alloc (.cells #[.int .i64 kd,.string nm,.slice A2 n2 c2,.slice A3 n3 c3,.slice A4 n4 c4,.slice A5 n5 c5,.slice A6 n6 c6] 39 (0,0)))):=Lh (HB.out.trans ((za0 wr _).mono HB.out.size));have HK2:Hid (Bk (wr.alloc (.cells #[.int .i64 kd,.string nm,.slice A2 n2 c2,.slice A3 n3 c3,.slice A4 n4 c4,.slice A5 n5 c5,.slice A6 n6 c6] 39 (0,0))) w.heap.size #[.slice (some a) n c] 24):=Lh (HK.out.stay (za0 _ _));have HX4:Hid (∀ k,k<n4->∃ b4,A4=some b4/\∀ W,Below w.heap.size w W->∀ q,q<5->W.cell? (at_ (b4.add (k*5)) q)=some (V4 k q)):=Lh fun k hk=>by
    obtain ⟨b4,e,hb4,hcells⟩:=hA4 (by omega);exact ⟨b4,e,fun W hW q hq=>((hW.mono HBB.out).cell (by rw [zb5,za1]; exact hb4)).trans (hcells k hk q hq)⟩
   clear hx hc0 hcc e2 e3 e4 e5 e6 hr4 hA4 hn4 hxi;go_wp2_with fail;clear htb;clear y0 k0 k1 k2 k3 k4 k5 k6
   go_loopw [3,6] (fun v2 i2 wr=>∃ (k:Nat) (z2:Int),k<=n4/\i2=.int .i64 k/\v2=.int .i64 z2/\Hid (Below w.heap.size w wr/\Bk wr w.heap.size #[.slice (some a) n c] 24 /\ Bk wr tb #[.int .i64 kd,.string nm,.slice A2 n2 c2,.slice A3 n3 c3,.slice A4 n4 c4,.slice A5 n5 c5,.slice A6 n6 c6] 39)) (fun _ i2 _=>n4-(intOf i2).toNat)
   case atStart=>exact ⟨0,_,Nat.zero_le _,rfl,rfl,Lh ⟨HB2.out,HK2.out,HT.out⟩⟩
   case round =>
    obtain ⟨k,z2,hk,rfl,rfl,hr2⟩:=hrel;have HB3:=Lh hr2.out.1;have HK3:=Lh hr2.out.2.1;have HT3:=Lh hr2.out.2.2;clear hr2;have t4:=HT3.out.cell 4 _ rfl;by_cases hlt2:k<n4
    ·have hlt2':(k:Int)<n4:=by omega
     obtain ⟨y,hyi⟩ : ∃ y,x.fields[k]?=some y:=⟨_,List.getElem?_eq_getElem (by rw [HN4.out]; exact hlt2)⟩;obtain ⟨p1,p3,l1,q1,l3,q3,f1,f3⟩:=HR4.out k y hyi;obtain ⟨b4,e4b,hcells⟩:=HX4.out k hlt2;subst e4b;have HCL:=Lh hcells;clear hcells hyi;go_wp2_with fail;refine za7 (fun W=>Below w.heap.size w W/\Bk W w.heap.size #[.slice (some a) n c] 24 /\ Bk W tb #[.int .i64 kd,.string nm,.slice A2 n2 c2,.slice A3 n3 c3,.slice (some b4) n4 c4,.slice A5 n5 c5,.slice A6 n6 c6] 39) ⟨HB3.out,HK3.out,HT3.out⟩ (by kernel_rfl) ?_
     intro W ⟨hW,hW0,hW1⟩ _;have p0:∀ q:Past W,q.w.cell? ⟨tb,4,none⟩=some (.slice (some b4) n4 c4):=fun q=>(q.b.cell (p:=⟨tb,4,none⟩) hW1.lt).trans (hW1.cell 4 _ rfl);have hp:∀ q:Past W,Below w.heap.size w q.w:=fun q=>hW.trans (q.b.mono hW.size);have r1:∀ q:Past W,q.w.cell? ⟨(b4.add (k*5)).block,(b4.add (k*5)).off+1,none⟩=some (.slice p1 l1 q1):=fun q=>(HCL.out _ (hp q) 1 (by omega)).trans (congrArg some f1);have r3:∀ q:Past W,q.w.cell? ⟨(b4.add (k*5)).block,(b4.add (k*5)).off+4,none⟩=some (.slice p3 l3 q3):=fun q=>(HCL.out _ (hp q) 4 (by omega)).trans (congrArg some f3);have HWW:=Lh hW;have HW0:=Lh hW0;have HW1:=Lh hW1;clear hW hW0 hW1 hp f1 f3
     repeat (go_big_quiet_step (fail))
     refine wpQuiet_nil ?_
     intro _ hw';obtain ⟨q,rfl⟩:=hw';go_wp2_with fail
     go_roundw
     case rel=>exact ⟨k+1,_,by omega,by go_num,rfl,Lh ⟨HWW.out.trans (q.b.mono HWW.out.size),HW0.out.stay q.b,HW1.out.stay q.b⟩⟩
     case measure=>simp [intOf]; omega
    ·have:k=n4:=by omega
     subst this;go_wp2_with fail
     go_roundw
     case rel=>exact ⟨j+1,z2,by omega,by go_num,rfl,Lh ⟨HB3.out,HK3.out⟩⟩
     case measure=>simp [intOf]; omega
  ·have:j=n:=by omega
   subst this;go_wp2_with fail;go_ret
   exact ⟨⟨_,rfl⟩,HB.out⟩
theorem yo3 (A A2:Option Addr) (c c2:Nat) (w:World):Calls Tryz.prog 73 #[.slice A 0 c,.slice A2 0 c2] w fun e w'=>e=.returned (.bool true)/\w=w':=by
 go_enter Tryz.func73, Tryz.ntmps73
 go_wp2_with fail
 go_loopw [13] (fun u wr=>u=.int .i64 0/\w=wr) (fun _ _=>0)
 case atStart=>exact ⟨rfl,rfl⟩
 case round =>
  obtain ⟨rfl,rfl⟩:=hrel;go_wp2_with fail;go_ret
  exact ⟨rfl,rfl⟩
theorem yo6 (A A2:Option Addr) (c c2:Nat) (G:Value) (w:World):Calls Tryz.prog 136 #[.slice A 0 c,.slice A2 0 c2,G] w fun e w'=>e=.returned (.bool true)/\w=w':=by
 go_enter Tryz.func136, Tryz.ntmps136
 go_wp2_with fail
 go_loopw [17] (fun u wr=>u=.int .i64 0/\w=wr) (fun _ _=>0)
 case atStart=>exact ⟨rfl,rfl⟩
 case round =>
  obtain ⟨rfl,rfl⟩:=hrel;go_wp2_with fail;go_ret
  exact ⟨rfl,rfl⟩
theorem yo4 (A A2:Option Addr) (c c2:Nat) (G:Value) (w:World):Calls Tryz.prog 77 #[.slice A 0 c,.slice A2 0 c2,G] w fun e w'=>e=.returned (.bool true)/\w=w':=by
 go_enter Tryz.func77, Tryz.ntmps77
 go_wp2_with fail
 go_loopw [17] (fun u wr=>u=.int .i64 0/\w=wr) (fun _ _=>0)
 case atStart=>exact ⟨rfl,rfl⟩
 case round =>
  obtain ⟨rfl,rfl⟩:=hrel;go_wp2_with fail;go_ret
  exact ⟨rfl,rfl⟩
theorem zN5 (A A2:Option Addr) (c c2:Nat) (G:Value) (w:World):Calls Tryz.prog 79 #[.slice A 0 c,.slice A2 0 c2,G] w fun e w'=>e=.returned (.bool true)/\w=w':=by
 go_enter Tryz.func79, Tryz.ntmps79
 go_wp2_with fail
 go_loopw [17] (fun u wr=>u=.int .i64 0/\w=wr) (fun _ _=>0)
 case atStart=>exact ⟨rfl,rfl⟩
 case round =>
  obtain ⟨rfl,rfl⟩:=hrel;go_wp2_with fail;go_ret
  exact ⟨rfl,rfl⟩
theorem yo5 (s0 s2:ByteArray) (A1 A3 A4:Option Addr) (l1 z1 l3 z3 l4 z4:Nat) (g c:Nat) (w:World) (hk:Bk w g #[.string s0,.slice A1 l1 z1,.string s2,.slice A3 l3 z3,.slice A4 l4 z4] 46)
  (hC:∀ W,Below w.heap.size w W->Calls Tryz.prog 76 #[.agg #[.string s0,.slice A1 l1 z1,.string s2,.slice A3 l3 z3,.slice A4 l4 z4],.agg #[.string s0,.slice A1 l1 z1,.string s2,.slice A3 l3 z3,.slice A4 l4 z4]] W fun e w'=>e=.returned (.bool true)/\Below W.heap.size W w') :
  Calls Tryz.prog 75 #[.slice (some ⟨g,0,none⟩) 1 c,.slice (some ⟨g,0,none⟩) 1 c,.func (.func 76) #[] #[]] w fun e w'=>e=.returned (.bool true)/\Below w.heap.size w w':=by
 have HK:=Lh hk;have HC:=Lh hC;clear hk hC
 go_enter Tryz.func75, Tryz.ntmps75
 go_wp2_with fail
 go_loopw [17] (fun u wr=>∃ i:Nat,i<=1/\u=.int .i64 i/\Hid (Below w.heap.size w wr)) (fun u _=>1-(intOf u).toNat)
 case atStart=>exact ⟨0,Nat.zero_le _,rfl,Lh (Below.refl _ _)⟩
 case round =>
  obtain ⟨i,hi,rfl,hr⟩:=hrel;by_cases h0:i=0
  ·subst h0
   have hk1:=HK.out.stay hr.out;obtain ⟨y0,y1,y2,y3,y4⟩:=hk1.c5;have hk2:=hk1.stay (za0 wr (.cells #[.string s0,.slice A1 l1 z1,.string s2,.slice A3 l3 z3,.slice A4 l4 z4] 46 (0,0)));obtain ⟨q0,q1,q2,q3,q4⟩:=hk2.c5;have CALL:=Lh (fun W (hW:Below wr.heap.size wr W)=>HC.out W (hr.out.trans (hW.mono hr.out.size)));clear hk1 hk2;go_wp2_with fail;refine (CALL.out _ (((za0 wr _).alloc (by simp) _))).mono ?_
   rintro e w5 ⟨rfl,hb⟩;have HB5:=Lh (hr.out.trans ((((za0 wr _).alloc (by simp) _).trans (hb.mono (by simp; omega))).mono hr.out.size));clear hb CALL y0 q0 y1 q1 y2 q2 y3 q3 y4 q4;go_wp2_with fail
   go_roundw
   case rel=>exact ⟨1,by omega,by go_num,Lh HB5.out⟩
   case measure=>simp [intOf]
  ·have:i=1:=by omega
   subst this;go_wp2_with fail;go_ret
   exact ⟨rfl,hr.out⟩
theorem yo7 (k0:Int) (s1:ByteArray) (A2 A3 A4 A5 A6:Option Addr) (l2 z2 l3 z3 l4 z4 l5 z5 l6 z6:Nat) (g c:Nat) (w:World) (hk:Bk w g #[.int .i64 k0,.string s1,.slice A2 l2 z2,.slice A3 l3 z3,.slice A4 l4 z4,.slice A5 l5 z5,.slice A6 l6 z6] 39)
  (hC:∀ W,Below w.heap.size w W->Calls Tryz.prog 37 #[.agg #[.int .i64 k0,.string s1,.slice A2 l2 z2,.slice A3 l3 z3,.slice A4 l4 z4,.slice A5 l5 z5,.slice A6 l6 z6],.agg #[.int .i64 k0,.string s1,.slice A2 l2 z2,.slice A3 l3 z3,.slice A4 l4 z4,.slice A5 l5 z5,.slice A6 l6 z6]] W fun e w'=>e=.returned (.bool true)/\Below W.heap.size W w') :
  Calls Tryz.prog 36 #[.slice (some ⟨g,0,none⟩) 1 c,.slice (some ⟨g,0,none⟩) 1 c,.func (.func 37) #[] #[]] w fun e w'=>e=.returned (.bool true)/\Below w.heap.size w w':=by
 have HK:=Lh hk;have HC:=Lh hC;clear hk hC
 go_enter Tryz.func36, Tryz.ntmps36
 go_wp2_with fail
 go_loopw [17] (fun u wr=>∃ i:Nat,i<=1/\u=.int .i64 i/\Hid (Below w.heap.size w wr)) (fun u _=>1-(intOf u).toNat)
 case atStart=>exact ⟨0,Nat.zero_le _,rfl,Lh (Below.refl _ _)⟩
 case round =>
  obtain ⟨i,hi,rfl,hr⟩:=hrel;by_cases h0:i=0
  ·subst h0
   have hk1:=HK.out.stay hr.out;obtain ⟨y0,y1,y2,y3,y4,y5,y6⟩:=hk1.c7;have hk2:=hk1.stay (za0 wr (.cells #[.int .i64 k0,.string s1,.slice A2 l2 z2,.slice A3 l3 z3,.slice A4 l4 z4,.slice A5 l5 z5,.slice A6 l6 z6] 39 (0,0)));obtain ⟨q0,q1,q2,q3,q4,q5,q6⟩:=hk2.c7;have CALL:=Lh (fun W (hW:Below wr.heap.size wr W)=>HC.out W (hr.out.trans (hW.mono hr.out.size)));clear hk1 hk2;go_wp2_with fail;refine (CALL.out _ (((za0 wr _).alloc (by simp) _))).mono ?_
   rintro e w5 ⟨rfl,hb⟩;have HB5:=Lh (hr.out.trans ((((za0 wr _).alloc (by simp) _).trans (hb.mono (by simp; omega))).mono hr.out.size));clear hb CALL y0 q0 y1 q1 y2 q2 y3 q3 y4 q4 y5 q5 y6 q6;go_wp2_with fail
   go_roundw
   case rel=>exact ⟨1,by omega,by go_num,Lh HB5.out⟩
   case measure=>simp [intOf]
  ·have:i=1:=by omega
   subst this;go_wp2_with fail;go_ret
   exact ⟨rfl,hr.out⟩
end Go.Proofs.YtfgelheiknmjgaaGreatDoor

