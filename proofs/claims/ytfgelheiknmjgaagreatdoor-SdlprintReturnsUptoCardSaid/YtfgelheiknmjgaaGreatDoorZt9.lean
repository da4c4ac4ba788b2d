
/-
 Texts joined: D2 KScan KList E0 E1.
-/
import Derived.Test.YtfgelheiknmjgaaGreatDoorZt8
set_option maxRecDepth 1000000
set_option maxHeartbeats 8000000
namespace Go.Proofs.YtfgelheiknmjgaaGreatDoor
open Go.RowKit
def Bk (W:World) (b:Nat) (cs:Array Value) (T:TypeId):Prop:=W.heap[b]?=some (.cells cs T (0,0))
theorem Bk.cell {W:World} {b:Nat} {cs:Array Value} {T:TypeId} (h:Bk W b cs T) (i:Nat) (v:Value) (hv:cs[i]?=some v):W.cell? ⟨b,i,none⟩=some v:=by
 rw [cell_of_row _ _ _ _ _ _ h,hv]
theorem Bk.c2 {W:World} {b:Nat} {a0 a1:Value} {T:TypeId} (h:Bk W b #[a0,a1] T):W.cell? ⟨b,0,none⟩=some a0/\W.cell? ⟨b,1,none⟩=some a1:=⟨h.cell 0 _ rfl,h.cell 1 _ rfl⟩
theorem Bk.c5 {W:World} {b:Nat} {a0 a1 a2 a3 a4:Value} {T:TypeId} (h:Bk W b #[a0,a1,a2,a3,a4] T):W.cell? ⟨b,0,none⟩=some a0/\W.cell? ⟨b,1,none⟩=some a1/\W.cell? ⟨b,2,none⟩=some a2/\W.cell? ⟨b,3,none⟩=some a3/\W.cell? ⟨b,4,none⟩=some a4:=⟨h.cell 0 _ rfl,h.cell 1 _ rfl,h.cell 2 _ rfl,h.cell 3 _ rfl,h.cell 4 _ rfl⟩
theorem Bk.c7 {W:World} {b:Nat} {a0 a1 a2 a3 a4 a5 a6:Value} {T:TypeId} (h:Bk W b #[a0,a1,a2,a3,a4,a5,a6] T):W.cell? ⟨b,0,none⟩=some a0/\W.cell? ⟨b,1,none⟩=some a1/\W.cell? ⟨b,2,none⟩=some a2/\W.cell? ⟨b,3,none⟩=some a3/\W.cell? ⟨b,4,none⟩=some a4/\W.cell? ⟨b,5,none⟩=some a5/\W.cell? ⟨b,6,none⟩=some a6:=⟨h.cell 0 _ rfl,h.cell 1 _ rfl,h.cell 2 _ rfl,h.cell 3 _ rfl,h.cell 4 _ rfl,h.cell 5 _ rfl,h.cell 6 _ rfl⟩
theorem Bk.c10 {W:World} {b:Nat} {a0 a1 a2 a3 a4 a5 a6 a7 a8 a9:Value} {T:TypeId} (h:Bk W b #[a0,a1,a2,a3,a4,a5,a6,a7,a8,a9] T):W.cell? ⟨b,0,none⟩=some a0/\W.cell? ⟨b,1,none⟩=some a1/\W.cell? ⟨b,2,none⟩=some a2/\W.cell? ⟨b,3,none⟩=some a3/\W.cell? ⟨b,4,none⟩=some a4/\W.cell? ⟨b,5,none⟩=some a5/\W.cell? ⟨b,6,none⟩=some a6/\W.cell? ⟨b,7,none⟩=some a7/\W.cell? ⟨b,8,none⟩=some a8/\W.cell? ⟨b,9,none⟩=some a9:=⟨h.cell 0 _ rfl,h.cell 1 _ rfl,h.cell 2 _ rfl,h.cell 3 _ rfl,h.cell 4 _ rfl,h.cell 5 _ rfl,h.cell 6 _ rfl,h.cell 7 _ rfl,h.cell 8 _ rfl,h.cell 9 _ rfl⟩
theorem Bk.frz {W:World} {b:Nat} {cs:Array Value} {T:TypeId} (h:Bk W b cs T) (i:Nat):W.frozen? ⟨b,i,none⟩=false:=by
 unfold Bk at h; simp [World.frozen?,h]
theorem Bk.lt {W:World} {b:Nat} {cs:Array Value} {T:TypeId} (h:Bk W b cs T):b<W.heap.size:=by
 unfold Bk at h;rcases Nat.lt_or_ge b W.heap.size with h' | h'
 ·exact h'
 ·rw [Array.getElem?_eq_none h'] at h; cases h
theorem Bk.new (W:World) (cs:Array Value) (T:TypeId):Bk (W.alloc (.cells cs T (0,0))) W.heap.size cs T:=heap_alloc_new _ _
theorem Bk.stay {W W':World} {b:Nat} {cs:Array Value} {T:TypeId} (h:Bk W b cs T) (hb:Below W.heap.size W W'):Bk W' b cs T:=(hb.block b h.lt).trans h
theorem za0 (w:World) (o:Obj):Below w.heap.size w (w.alloc o):=(Below.refl _ _).alloc (Nat.le_refl _) _
def inB {α:Type} (least most:Int) (xs:List α) (pr : α->Bool):Bool:=decide (least<=(xs.length:Int))&&decide ((xs.length:Int)<=most)&&xs.all pr
def BP (b:Bool) (w:World) (e:Ending) (w':World):Prop:=e=.returned (.bool b)/\Below w.heap.size w w'
end Go.Proofs.YtfgelheiknmjgaaGreatDoor
namespace Go.Proofs.YtfgelheiknmjgaaGreatDoor.K
open Go.RowKit
def tkC (ts:List Tk):List Value:=ts.flatMap fun p=>[.int .i64 p.1,.string ⟨p.2.1.toArray⟩,.int .i64 (p.2.2:Int)]
theorem tkC_app (a b:List Tk):tkC (a++b)=tkC a++tkC b:=List.flatMap_append
theorem infoT:(Tryz.prog.info? 99).map (fun i=>(i.zero,i.size,i.bytes))=some (some (.agg #[.int .i64 0,.string ⟨#[]⟩,.int .i64 0]),3,32):=by kernel_rfl
def OwnT (w:World) (base:Nat) (v:Value) (ts:List Tk):Prop:=w.ownsRow base 99 3 v ts.length (tkC ts)
theorem zL6 {w w':World} {base:Nat} {e:TypeId} {size:Nat} {v:Value} {n:Nat} {xs:List Value} (h:w.ownsRow base e size v n xs) (hb:Below w.heap.size w w'):w'.ownsRow base e size v n xs:=by
 refine ⟨h.1,h.2.imp id ?_⟩
 rintro ⟨g,cap,cur,e1,e2,e3,r⟩;have hg:g<w.heap.size:=by
  rcases Nat.lt_or_ge g w.heap.size with h' | h'
  ·exact h'
  ·rw [Array.getElem?_eq_none h'] at e3; cases e3
 exact ⟨g,cap,cur,e1,e2,(hb.block g hg).trans e3,r⟩
theorem OwnT.stay {w w':World} {base:Nat} {v:Value} {ts:List Tk} (h:OwnT w base v ts) (hb:Below w.heap.size w w'):OwnT w' base v ts:=zL6 h hb
theorem OwnT.nil (w:World) (base:Nat):OwnT w base (.slice none 0 0) []:=⟨rfl,.inl ⟨rfl,rfl⟩⟩
theorem zW7 {w:World} {ops:Array Oper} {rest:List Oper} {o:Oper} {a:Act} {Q:Exit->Act->World->Prop} (hgd:o.guard=none) (s x:Operand)
  (ho:o.op=.call { callee:=.builtin .append,args:=#[s,x],argTypes:=#[57, 57] }) (base:Nat) (v:Value) (ts:List Tk) (hs:a.eval s=v) (hown:OwnT w base v ts)
  (ad:Addr) (c:Nat) (p:Tk) (hx:a.eval x=.slice (some ad) 1 c) (hnews:∀ j u,(tkC [p])[j]?=some u->w.cell? (ad.add j)=some u)
  (hlen:ts.length+1<=1099511627776) (hbase:base<=w.heap.size)
  (h:∀ v' w',OwnT w' base v' (ts++[p])->w.grownBy w' v.ownBlock->wpList Tryz.prog ops Q rest (a.put o.dst v') w'):wpList Tryz.prog ops Q (o::rest) a w:=by
 obtain ⟨i0,hi,hz0,hz1,hz2⟩:=info_parts infoT;refine wpList_append_own w hgd s x 57 ho base 99 i0 (.agg #[.int .i64 0,.string ⟨#[]⟩,.int .i64 0]) 3 32 Tryz.underlying57 hi hz0 hz1 hz2 rfl (by decide) v ts.length (tkC ts) hs hown ad 1 c (tkC [p]) hx rfl hnews ?_ (by unfold maxLen; omega) (by omega) hbase ?_
 ·intro u hu
  simp [tkC] at hu
  rcases hu with rfl | rfl | rfl <;> rfl
 ·intro v' w' h1 h2 _
  refine h v' w' ?_ h2
  unfold OwnT;rw [List.length_append,tkC_app];exact h1
theorem cells_L' (w:World) (xs:Array Value) (t:TypeId) (news:List Value) (hx:xs=news.toArray) :
  ∀ j u,news[j]?=some u->(w.alloc (.cells xs t)).cell? ((⟨w.heap.size,0,none⟩ : Addr).add j)=some u:=by
 intro j u h;obtain ⟨h1,rfl⟩:=List.getElem?_eq_some_iff.1 h;subst hx;have:=T1.zr3 w news.toArray t j (by simpa using h1);simpa using this
theorem OwnT.lt {w:World} {base:Nat} {v:Value} {ts:List Tk} (h:OwnT w base v ts):∀ k,v.ownBlock=some k->base<=k/\k<w.heap.size:=World.ownsRow.lt h
def scG (f at':Nat) (l:List UInt8):Except (Nat × Int) (List Tk):=if l=[] then .ok [(5,[],at')] else match tokR l with
 | .error c=>.error (at',c)
 | .ok (k,t,n)=>match scF f (at'+n) (l.drop n) with
   | .error e=>.error e
   | .ok ts=>.ok ((k,t,at')::ts)
theorem scG_ok {f at':Nat} {l:List UInt8} {k:Int} {t:List UInt8} {n:Nat} (hne:l≠[]) (ht:tokR l=.ok (k,t,n)):scG f at' l=match scF f (at'+n) (l.drop n) with
  | .error e=>.error e
  | .ok ts=>.ok ((k,t,at')::ts):=by
 unfold scG; rw [if_neg hne,ht]
structure ScAt (l:List UInt8) (R:Except (Nat × Int) (List Tk)) (f at':Nat) (ts:List Tk):Prop where
 eq:R=match scG f at' (l.drop at') with
  | .error e=>.error e
  | .ok r=>.ok (ts++r)
 fuel:l.length<=f+at'
 hi:at'<=l.length
 len:ts.length<=at'
theorem ScAt.start (l:List UInt8) (h:l.length<=65536):ScAt l (scR l) l.length (sepN l) []:=by
 refine ⟨?_,Nat.le_add_right _ _,zG6 l,Nat.zero_le _⟩
 unfold scR;rw [if_neg (by omega)];show scG l.length (0+sepN l) (l.drop (sepN l))=_
 rw [Nat.zero_add];cases scG l.length (sepN l) (l.drop (sepN l)) <;> rfl
theorem ScAt.done {l:List UInt8} {R:Except (Nat × Int) (List Tk)} {f at':Nat} {ts:List Tk} (h:ScAt l R f at' ts) (hd:¬ at'<l.length):R=.ok (ts++[(5,[],at')]):=by
 rw [h.eq,List.drop_eq_nil_of_le (by omega)]; rfl
theorem ScAt.bad {l:List UInt8} {R:Except (Nat × Int) (List Tk)} {f at':Nat} {ts:List Tk} (h:ScAt l R f at' ts) (hd:at'<l.length) {c:Int} (ht:tokR (l.drop at')=.error c):R=.error (at',c):=by
 have hne:l.drop at'≠[]:=by intro e; have:=congrArg List.length e; rw [List.length_drop] at this; simp at this; omega
 rw [h.eq]; unfold scG; rw [if_neg hne,ht]
theorem ScAt.next {l:List UInt8} {R:Except (Nat × Int) (List Tk)} {f at':Nat} {ts:List Tk} (h:ScAt l R f at' ts) (hd:at'<l.length) {k:Int} {t:List UInt8} {n:Nat} (ht:tokR (l.drop at')=.ok (k,t,n)) :
  1<=n/\at'+n<=l.length/\∃ f',ScAt l R f' (at'+n+sepN (l.drop (at'+n))) (ts++[(k,t,at')]):=by
 have hne:l.drop at'≠[]:=by intro e; have:=congrArg List.length e; rw [List.length_drop] at this; simp at this; omega
 obtain ⟨h1,h2⟩:=zT3 hne ht;rw [List.length_drop] at h2;have hs:=zG6 (l.drop (at'+n));rw [List.length_drop] at hs;have hf:=h.fuel;have hl:=h.len;obtain ⟨f',rfl⟩ : ∃ g,f=g+1:=⟨f-1,by omega⟩;refine ⟨h1,by omega,f', ?_,by omega,by omega,by rw [List.length_append]; show ts.length+1<=_; omega⟩
 rw [h.eq,scG_ok hne ht,List.drop_drop];have e:scF (f'+1) (at'+n) (l.drop (at'+n))=scG f' (at'+n+sepN (l.drop (at'+n))) ((l.drop (at'+n)).drop (sepN (l.drop (at'+n)))):=rfl;rw [e,List.drop_drop];generalize (at'+n+sepN (l.drop (at'+n)))=b
 cases scG f' b (l.drop b) with
 | error e=>rfl
 | ok r=>simp
def ScanAns (R:Except (Nat × Int) (List Tk)) (base:Nat) (e:Ending) (w':World):Prop:=match R with
 | .ok ts=>∃ v,e=.returned (.tuple #[v,.int .i64 0,.int .i64 0])/\OwnT w' base v ts
 | .error x=>e=.returned (.tuple #[.slice none 0 0,.int .i64 x.1,.int .i64 x.2])/\x.2≠0
def zJ1 (R:Except (Nat × Int) (List Tk)) (w:World) (e:Ending) (w':World):Prop:=ScanAns R w.heap.size e w'/\Below w.heap.size w w'
theorem yf2 (s:ByteArray) (h:65536<s.size) (w:World):Calls Tryz.prog 25 #[.string s] w (zJ1 (scR s.data.toList) w):=by
 have E1:Hid (scR s.data.toList=.error (65536,4)):=Lh (by unfold scR; rw [T1.size_eq,if_pos h]);have hgt:((s.size:Int) > 65536):=by omega
 generalize scR s.data.toList=R at *
 go_enter Tryz.func25, Tryz.ntmps25
 go_wp2_with fail
 refine bodyPost_ret (v:=.tuple #[.slice none 0 0,.int .i64 65536,.int .i64 4]) (by simp [results,Tryz.results25,go_sem]) rfl ⟨?_,Below.refl _ _⟩
 rw [E1.out];exact ⟨rfl,by decide⟩
theorem zY8 (s:ByteArray) (h:s.size<=65536) (w:World) (hL:LK w):Calls Tryz.prog 25 #[.string s] w (zJ1 (scR s.data.toList) w):=by
 have hsz:=T1.size_eq s;have ST:=Lh (ScAt.start s.data.toList (by omega));have hgt:¬ ((s.size:Int) > 65536):=by omega
 have HL:=Lh hL;clear hL;generalize scR s.data.toList=R at *
 go_enter Tryz.func25, Tryz.ntmps25
 go_wp2_with fail
 refine (zr5 s (by unfold maxLen; omega) w).mono ?_
 rintro e w1 ⟨rfl,hb⟩;have HB1:=Lh hb;clear hb;generalize sepN s.data.toList=m at *;go_wp2_with fail
 go_loopw [5,6] (fun v i wr=>∃ (f k:Nat) (ts:List Tk),i=.int .i64 k/\OwnT wr w.heap.size v ts/\ScAt s.data.toList R f k ts/\Below w.heap.size w wr) (fun _ i _=>s.size-(intOf i).toNat)
 case atStart=>exact ⟨_,m,[],rfl,OwnT.nil _ _,ST.out,HB1.out⟩
 case round =>
  obtain ⟨f,k,ts,rfl,hown,hat,hb⟩:=hrel;have HO:=Lh hown;have HA:=Lh hat
  have HB:=Lh hb;clear hown hat hb HB1 ST;have hkl:=HA.out.hi;by_cases hlt:k<s.size
  ·have hlt':(k:Int)<s.size:=by omega
   have hle':(k:Int)<=s.size:=by omega
   have HD:=Lh (zz2 s k);have HES:Hid ((s.extract k s.size).size=s.size-k):=Lh (by rw [<- T1.size_eq,HD.out,List.length_drop,hsz]);have CALL:=Lh (zC1 (s.extract k s.size) (by rw [HES.out]; omega) (by rw [HES.out]; omega) wr (HL.out.below HB.out));rw [HD.out] at CALL;go_wp2_with fail;refine CALL.out.mono ?_
   rintro e w2 ⟨ha,hb⟩;have HB2:=Lh (HB.out.trans (hb.mono HB.out.size));have HO2:=Lh (HO.out.stay hb);clear hb CALL HB HO
   cases ht:tokR (s.data.toList.drop k) with
   | error c =>
     rw [ht] at ha;obtain ⟨hc,k1,t1,n1,rfl⟩:=ha;have E1:=Lh (HA.out.bad (by omega) ht);have HC:=Lh hc;have hc0:(c==0)=false:=beq_false_of_ne hc;clear ht hc;go_wp2_with fail;refine bodyPost_ret (v:=.tuple #[.slice none 0 0,.int .i64 k,.int .i64 c]) (by simp [results,Tryz.results25,go_sem]) rfl ⟨?_,HB2.out.alloc HB2.out.size _⟩
     rw [E1.out];exact ⟨rfl,HC.out⟩
   | ok p =>
     obtain ⟨k1,t1,n⟩:=p;rw [ht] at ha;have ha:e=.returned (.tuple #[tkV k1 ⟨t1.toArray⟩ 0,.int .i64 n,.int .i64 0]):=ha;subst ha;obtain ⟨hn1,hn2,f',hnx⟩:=HA.out.next (by omega) ht;have HN:=Lh hnx;clear ht hnx;have HX3:Hid (TB (w2.alloc (.cells #[.int .i64 k1,.string ⟨t1.toArray⟩,.int .i64 0] 99 (0,0))) w2.heap.size (.int .i64 k1) (.string ⟨t1.toArray⟩) (.int .i64 0)):=Lh (heap_alloc_new w2 _);have hb3:=((Below.refl w2.heap.size w2).alloc (Nat.le_refl _) (.cells #[.int .i64 k1,.string ⟨t1.toArray⟩,.int .i64 k] 99 (0,0))).alloc (by simp) (.cells #[.int .i64 k1,.string ⟨t1.toArray⟩,.int .i64 k] 99 (0,0));have HO4:=Lh (HO2.out.stay hb3);have HB4:=Lh (HB2.out.trans (hb3.mono HB2.out.size));have HNL:=Lh HA.out.len;have h00:((0:Int)==0)=true:=rfl;have hsm:=hsz;obtain ⟨x0,x1,x2⟩:=HX3.out.cells;have g0:=HX3.out.frz 0;have g1:=HX3.out.frz 1;have g2:=HX3.out.frz 2;clear hb3;go_wp2_with (at_builtin; refine zW7 rfl _ _ rfl w.heap.size _ ts rfl HO4.out _ _ (k1,t1,k) rfl ?_ ?_ ?_ ?_)
     ·intro j u hj
      have h9:=cells_L' (w2.alloc (.cells #[.int .i64 k1,.string ⟨t1.toArray⟩,.int .i64 k] 99)) #[.int .i64 k1,.string ⟨t1.toArray⟩,.int .i64 k] 99 (tkC [(k1,t1,k)]) rfl j u hj;rw [show (w2.alloc (.cells #[.int .i64 k1,.string ⟨t1.toArray⟩,.int .i64 k] 99)).heap.size=w2.heap.size+1 by simp] at h9;exact h9
     ·have:=HNL.out; omega
     ·exact HB4.out.size
     ·intro v' w5 h1 h2
      have HO5:=Lh h1;have HB5:=Lh (HB4.out.grown h2 HB4.out.size (fun g hg=>(HO4.out.lt g hg).1));have HE2:=Lh (zz2 s (k+n));have hk2:(k:Int)+n<=s.size:=by omega
      have hk3:(0:Int)<=(k:Int)+n:=by omega
      have hk4:((k:Int)+n).toNat=k+n:=by omega
      have hes:(s.extract (k+n) s.size).size<=maxLen:=by
       rw [<- T1.size_eq,HE2.out,List.length_drop]; unfold maxLen; omega
      have CALL:=Lh (zr5 (s.extract (k+n) s.size) hes w5);rw [HE2.out] at CALL;have hq:=zG6 (s.data.toList.drop (k+n));rw [List.length_drop] at hq;clear h1 h2 hes HX3 x0 x1 x2 g0 g1 g2;generalize sepN (s.data.toList.drop (k+n))=q at *;go_wp2_with fail;refine CALL.out.mono ?_
      rintro e w6 ⟨rfl,hb⟩;have HB6:=Lh (HB5.out.trans (hb.mono HB5.out.size));have HO6:=Lh (HO5.out.stay hb);clear hb CALL;go_wp2_with fail
      go_roundw
      case rel=>exact ⟨f',k+n+q,ts++[(k1,t1,k)],by push_cast; rfl,HO6.out,HN.out,HB6.out⟩
      case measure =>
       simp only [intOf]
       omega
  ·have E1:=Lh (HA.out.done (by omega))
   have hlt':¬ (k:Int)<s.size:=by omega
   have hb3:=(Below.refl wr.heap.size wr).alloc (Nat.le_refl _) (.cells #[.int .i64 5,.string ⟨#[]⟩,.int .i64 k] 99 (0,0));have HO4:=Lh (HO.out.stay hb3);have HB4:=Lh (HB.out.trans (hb3.mono HB.out.size));have HNL:=Lh HA.out.len;clear hb3;go_wp2_with (at_builtin; refine zW7 rfl _ _ rfl w.heap.size _ ts rfl HO4.out _ _ (5,[],k) rfl ?_ ?_ ?_ ?_)
   ·exact fun j u h=>h
   ·have:=HNL.out; omega
   ·have:=HB.out.size; omega
   ·intro v' w5 h1 h2
    have HO5:=Lh h1;have HB5:=Lh (HB4.out.grown h2 HB4.out.size (fun g hg=>(HO4.out.lt g hg).1));clear h1 h2;go_wp2_with fail;refine bodyPost_ret (v:=.tuple #[v',.int .i64 0,.int .i64 0]) (by simp [results,Tryz.results25,go_sem]) rfl ⟨?_,HB5.out⟩
    rw [E1.out];exact ⟨_,rfl,HO5.out⟩
theorem scan_any (s:ByteArray) (w:World) (hL:LK w):Calls Tryz.prog 25 #[.string s] w (zJ1 (scR s.data.toList) w):=by
 rcases Nat.lt_or_ge 65536 s.size with h | h
 ·exact yf2 s h w
 ·exact zY8 s h w hL
abbrev Tz:=Int × List UInt8 × Int
def zC (zs:List Tz):List Value:=zs.flatMap fun p=>[.int .i64 p.1,.string ⟨p.2.1.toArray⟩,.int .i64 p.2.2]
def tz (ts:List Tk):List Tz:=ts.map fun p=>(p.1,p.2.1,(p.2.2:Int))
theorem tz_len (ts:List Tk):(tz ts).length=ts.length:=List.length_map _
theorem tz_C (ts:List Tk):zC (tz ts)=tkC ts:=by
 induction ts with
 | nil=>rfl
 | cons p r ih=>show _::_::_::zC (tz r)=_; rw [ih]; rfl
theorem zC_at (zs:List Tz) (i:Nat) (p:Tz) (h:zs[i]?=some p):(zC zs)[i*3]?=some (.int .i64 p.1)/\(zC zs)[i*3+1]?=some (.string ⟨p.2.1.toArray⟩)/\(zC zs)[i*3+2]?=some (.int .i64 p.2.2):=by
 induction zs generalizing i with
 | nil=>simp at h
 | cons q r ih =>
   cases i with
   | zero=>simp at h; subst h; exact ⟨rfl,rfl,rfl⟩
   | succ i =>
     have:=ih i (by simpa using h);have e:zC (q::r)=.int .i64 q.1::.string ⟨q.2.1.toArray⟩::.int .i64 q.2.2::zC r:=rfl;rw [e,show (i+1)*3=i*3+1+1+1 by omega];simpa using this
def C3 (w:World) (a:Addr) (p:Tz):Prop:=w.cell? a=some (.int .i64 p.1)/\w.cell? ⟨a.block,a.off+1,none⟩=some (.string ⟨p.2.1.toArray⟩)/\w.cell? ⟨a.block,a.off+2,none⟩=some (.int .i64 p.2.2)
theorem za1 (a:Addr) (n:Nat):(a.add n).block=a.block:=by
 unfold Addr.add; split <;> rfl
def ZAt (w:World) (B:Nat) (A:Option Addr) (zs:List Tz):Prop:=0<zs.length->∃ a,A=some a/\a.block<B/\∀ i p,zs[i]?=some p->C3 w (a.add (i*3)) p
def OwnZ (T:TypeId) (w:World) (base:Nat) (v:Value) (zs:List Tz):Prop:=w.ownsRow base T 3 v zs.length (zC zs)
theorem OwnT.z {w:World} {base:Nat} {v:Value} {ts:List Tk} (h:OwnT w base v ts):OwnZ 99 w base v (tz ts):=by
 unfold OwnZ; rw [tz_len,tz_C]; exact h
def OwnS (w:World) (base:Nat) (v:Value) (ss:List (List UInt8)):Prop:=w.ownsRow base 9 1 v ss.length (ss.map fun s=>.string ⟨s.toArray⟩)
end Go.Proofs.YtfgelheiknmjgaaGreatDoor.K
namespace Go.Proofs.YtfgelheiknmjgaaGreatDoor
open Go.RowKit
abbrev Tk:=Int × List UInt8 × Nat
abbrev Er:=Nat × Int
def tkV (t:Tk):Value:=.agg #[.int .i64 t.1,.string ⟨t.2.1.toArray⟩,.int .i64 t.2.2]
def hd (ts:List Tk):Tk:=ts.headD (0,[],0)
structure TkOk (t:Tk):Prop where
 k0:0<=t.1
 k5:t.1<=5
 len:t.2.1.length<=1000000
 at_:t.2.2<=1000000
structure Good (ts:List Tk):Prop where
 last:∃ i t,ts=i++[t]/\t.1=5
 ok:∀ t∈ts,TkOk t
 len:ts.length<=1000000
theorem Good.ne {ts:List Tk} (h:Good ts):∃ t r,ts=t::r:=by
 obtain ⟨i,t,e,_⟩:=h.last
 cases ts with
 | nil=>simp at e
 | cons t r=>exact ⟨t,r,rfl⟩
theorem Good.tail {ts:List Tk} (h:Good ts) (hk:(hd ts).1≠5):Good ts.tail:=by
 obtain ⟨i,t,e,h5⟩:=h.last;subst e
 cases i with
 | nil=>exact absurd h5 hk
 | cons a r=>exact ⟨⟨r,t,rfl,h5⟩,fun u hu=>h.ok u (List.mem_cons_of_mem _ hu),by have:=h.len; simp at this ⊢; omega⟩
def TAt (w:World) (B:Nat) (A:Option Addr) (ts:List Tk):Prop :=
 ∃ a,A=some a/\a.block<B/\∀ i t,ts[i]?=some t->w.cell? (a.add (i*3))=some (.int .i64 t.1)/\w.cell? ⟨(a.add (i*3)).block,(a.add (i*3)).off+1,none⟩=some (.string ⟨t.2.1.toArray⟩)/\w.cell? ⟨(a.add (i*3)).block,(a.add (i*3)).off+2,none⟩=some (.int .i64 t.2.2)
theorem TAt.kept {w w':World} {B:Nat} {A:Option Addr} {ts:List Tk} (h:TAt w B A ts) (hb:Below B w w'):TAt w' B A ts:=by
 obtain ⟨a,e,ha,hc⟩:=h;refine ⟨a,e,ha,fun i t hi=>?_⟩;have hk:∀ o,w'.cell? ⟨(a.add (i*3)).block,o,none⟩=w.cell? ⟨(a.add (i*3)).block,o,none⟩:=fun o=>hb.cell (p:=⟨(a.add (i*3)).block,o,none⟩) (by rw [za1]; exact ha);obtain ⟨h0,h1,h2⟩:=hc i t hi;exact ⟨(hb.cell (by rw [za1]; exact ha)).trans h0,(hk _).trans h1,(hk _).trans h2⟩
abbrev fnV:Value:=.func (.func 27) #[] #[]
abbrev rdC (A:Option Addr) (l c:Nat) (n:Int):Array Value:=#[.slice A l c,fnV,.bool false,.int .i64 n]
structure PSt (w:World) (p:Nat) (ts:List Tk) (n:Nat):Prop where
 box:∃ A c,Bk w p (rdC A ts.length c n) 67 /\ ts.length<=c/\TAt w p A ts
 good:Good ts
 hn:n<=4097
 laid:∀ w2,Below p w w2->T1.Laid w2
structure Tw (p N:Nat) (w w':World):Prop where
 os:w'.os=w.os
 tape:w'.tape=w.tape
 output:w'.output=w.output
 size:w.heap.size<=w'.heap.size
 block:∀ k,k<N->k≠p->w'.heap[k]?=w.heap[k]?
theorem Tw.refl (p N:Nat) (w:World):Tw p N w w:=⟨rfl,rfl,rfl,Nat.le_refl _,fun _ _ _=>rfl⟩
theorem Tw.trans {p N:Nat} {a b c:World} (h:Tw p N a b) (k:Tw p N b c):Tw p N a c :=
 ⟨k.os.trans h.os,k.tape.trans h.tape,k.output.trans h.output,Nat.le_trans h.size k.size,fun i hi hp=>(k.block i hi hp).trans (h.block i hi hp)⟩
theorem Tw.mono {p N N':Nat} {w w':World} (h:Tw p N w w') (hN:N'<=N):Tw p N' w w':=⟨h.os,h.tape,h.output,h.size,fun k hk hp=>h.block k (Nat.lt_of_lt_of_le hk hN) hp⟩
theorem Tw.below {p N:Nat} {w w':World} (h:Tw p N w w') (hp:p<=N):Below p w w':=⟨h.os,h.tape,h.output,h.size,fun k hk=>h.block k (by omega) (by omega)⟩
theorem Tw.of {p N:Nat} {w w':World} (h:Below N w w'):Tw p N w w':=⟨h.os,h.tape,h.output,h.size,fun k hk _=>h.block k hk⟩
theorem Tw.set {p N:Nat} {a w:World} (h:Tw p N a w) (i:Nat) (u:Value):Tw p N a (w.setCell ⟨p,i,none⟩ u) :=
 h.trans ⟨rfl,rfl,rfl,by simp [World.setCell],fun k _ hp=>Below.heap_setCell _ _ _ _ hp⟩
theorem Tw.step {p N:Nat} {a b c:World} (h:Tw p N a b) (hN:N<=b.heap.size) (k:Tw p b.heap.size b c):Tw p N a c:=h.trans (k.mono hN)
theorem Bk.far {W W':World} {p b:Nat} {cs:Array Value} {T:TypeId} (h:Bk W b cs T) (hb:Tw p W.heap.size W W') (hne:b≠p):Bk W' b cs T:=(hb.block b h.lt hne).trans h
theorem PSt.lt {w:World} {p:Nat} {ts:List Tk} {n:Nat} (h:PSt w p ts n):p<w.heap.size:=by
 obtain ⟨A,c,hb,_⟩:=h.box;exact hb.lt
theorem PSt.same {w w':World} {p:Nat} {ts:List Tk} {n:Nat} (h:PSt w p ts n) (hb:Below (p+1) w w'):PSt w' p ts n:=by
 obtain ⟨A,c,hx,hc,ht⟩:=h.box;exact ⟨⟨A,c,(hb.block p (by omega)).trans hx,hc,ht.kept (hb.mono (by omega))⟩,h.good,h.hn,fun w2 h2=>h.laid w2 ((hb.mono (by omega)).trans h2)⟩
theorem PSt.stay {w w':World} {p:Nat} {ts:List Tk} {n:Nat} (h:PSt w p ts n) (hb:Below w.heap.size w w'):PSt w' p ts n:=h.same (hb.mono h.lt)
theorem PSt.fail {w:World} {p:Nat} {ts:List Tk} {n:Nat} (h:PSt w p ts n):w.cell? ⟨p,1,none⟩=some fnV:=by
 obtain ⟨A,c,hb,_⟩:=h.box;exact hb.cell 1 _ rfl
abbrev pP (p:Nat):Value:=.pointer (some ⟨p,0,none⟩)
theorem PSt.head {w:World} {p:Nat} {ts:List Tk} {n:Nat} (h:PSt w p ts n):∃ (t:Tk) (r:List Tk) (a:Addr) (c:Nat),ts=t::r/\TkOk t/\a.block<p/\r.length+1<=c/\Bk w p (rdC (some a) (r.length+1) c n) 67 /\
  w.cell? a=some (.int .i64 t.1)/\w.cell? ⟨a.block,a.off+1,none⟩=some (.string ⟨t.2.1.toArray⟩)/\w.cell? ⟨a.block,a.off+2,none⟩=some (.int .i64 t.2.2):=by
 obtain ⟨t,r,rfl⟩:=h.good.ne;obtain ⟨A,c,hx,hc,a,rfl,ha,hcl⟩:=h.box;have h0:=hcl 0 t rfl;have ez:a.add (0*3)=a:=by simp [Addr.add]
 rw [ez] at h0;exact ⟨t,r,a,c,rfl,h.good.ok t List.mem_cons_self,ha,hc,hx,h0⟩
def isSg (s:List UInt8) (ts:List Tk):Bool:=decide ((hd ts).1=1)&&decide ((hd ts).2.1=s)
def isNm (ts:List Tk):Bool:=decide ((hd ts).1=2)
def erR (ts:List Tk) (c:Int):Er:=((hd ts).2.2,c)
def sgR (s:List UInt8) (ts:List Tk):Except Er (List Tk):=if isSg s ts then .ok ts.tail else .error (erR ts 3)
def nmR (ts:List Tk):Except Er (ByteArray × List Tk):=if isNm ts then .ok (⟨(hd ts).2.1.toArray⟩,ts.tail) else .error (erR ts 3)
def bgR (can:Bool) (count most:Nat) (ts:List Tk):Except Er Unit:=if can then (if count=most then .error (erR ts 4) else .ok ()) else .error (erR ts 3)
def badV (x:Er):Ending:=.panicked [{ v:=.iface 61 (.agg #[.int .i64 x.1,.int .i64 x.2]),recovered:=false }]
theorem zh4 {w:World} {p:Nat} {ts:List Tk} {n:Nat} (h:PSt w p ts n):Calls Tryz.prog 52 #[pP p] w fun e w'=>e=.returned (tkV (hd ts))/\Below w.heap.size w w':=by
 obtain ⟨t,r,a,c,rfl,_,ha,hc,hx,k0,k1,k2⟩:=h.head;obtain ⟨k,tx,i⟩:=t;have q0:=hx.cell 0 _ rfl;have hl:=h.lt;have hl9:p≠w.heap.size:=by omega
 have hal:a.block<w.heap.size:=by omega
 have z0:(w.alloc (.cells #[.int .i64 0,.string ⟨#[]⟩,.int .i64 0] 99 (0,0))).cell? a=some (.int .i64 k):=((za0 w _).cell hal).trans k0;have hlen:(0:Int)<(r.length:Int)+1:=by omega
 simp only at k0 k1 k2
 have HB:Hid (Below w.heap.size w (w.alloc (.cells #[.int .i64 k,.string ⟨tx.toArray⟩,.int .i64 i] 99 (0,0)))):=Lh (za0 _ _);show Calls _ _ _ _ fun e w'=>e=.returned (.agg #[.int .i64 k,.string ⟨tx.toArray⟩,.int .i64 i])/\_;clear h hx hc ha
 go_enter Tryz.func52, Tryz.ntmps52
 go_wp2_with fail
 exact bodyPost_ret (v:=.agg #[.int .i64 k,.string ⟨tx.toArray⟩,.int .i64 i]) (by simp [results,Tryz.results52,go_sem]) rfl ⟨rfl,HB.out⟩
theorem Tw.setNew {p N b:Nat} {a w:World} (h:Tw p N a w) (hb:N<=b) (i:Nat) (u:Value):Tw p N a (w.setCell ⟨b,i,none⟩ u) :=
 h.trans ⟨rfl,rfl,rfl,by simp [World.setCell],fun k hk _=>Below.heap_setCell _ _ _ _ (by show k≠b; omega)⟩
theorem Tw.alloc {p N:Nat} {a w:World} (h:Tw p N a w) (hN:N<=w.heap.size) (o:Obj):Tw p N a (w.alloc o):=h.trans (Tw.of ((Below.refl _ _).alloc hN o))
theorem Bk.off {W:World} {b g:Nat} {cs:Array Value} {T:TypeId} (h:Bk W b cs T) (hne:b≠g) (i:Nat) (u:Value):Bk (W.setCell ⟨g,i,none⟩ u) b cs T:=(Below.heap_setCell W ⟨g,i,none⟩ u b hne).trans h
theorem Bk.set {W:World} {b:Nat} {cs:Array Value} {T:TypeId} (h:Bk W b cs T) (i:Nat) (u:Value):Bk (W.setCell ⟨b,i,none⟩ u) b (cs.setIfInBounds i u) T:=by
 unfold Bk at h ⊢; simp [World.setCell,Array.getElem?_modify,h]
theorem Bk.s4 {W:World} {b:Nat} {c0 c1 c2 c3:Value} {T:TypeId} (h:Bk W b #[c0,c1,c2,c3] T) (u:Value):Bk (W.setCell ⟨b,0,none⟩ u) b #[u,c1,c2,c3] T:=h.set 0 u
theorem Bk.n4 {W:World} {b:Nat} {c0 c1 c2 c3:Value} {T:TypeId} (h:Bk W b #[c0,c1,c2,c3] T) (u:Value):Bk (W.setCell ⟨b,3,none⟩ u) b #[c0,c1,c2,u] T:=h.set 3 u
theorem Bk.s3 {W:World} {b:Nat} {cs:Array Value} {T:TypeId} (h:Bk W b cs T) (i:Nat) (u:Value):Bk (W.setCell ⟨b,i,none⟩ u) b (cs.setIfInBounds i u) T:=h.set i u
theorem yh7 (t:Tk) (c:Int) (w:World):Calls Tryz.prog 27 #[tkV t,.int .i64 c] w fun e w'=>e=badV (t.2.2,c)/\Below w.heap.size w w':=by
 obtain ⟨k,tx,i⟩:=t;unfold tkV badV;have HB:Hid (Below w.heap.size w (w.alloc (.cells #[.int .i64 k,.string ⟨tx.toArray⟩,.int .i64 i] 99 (0,0)))):=Lh (za0 _ _)
 go_enter Tryz.func27, Tryz.ntmps27
 go_wp2_with fail
 simp [bodyPost]
 exact HB.out
theorem PSt.drop {w:World} {p:Nat} {t:Tk} {r:List Tk} {n:Nat} (h:PSt w p (t::r) n) (hr:Good r):∃ (a:Addr) (c:Nat),a.block<p/\r.length+1<=c/\0<r.length/\Bk w p (rdC (some a) (r.length+1) c n) 67 /\
  ∀ W:World,Below p w W->Bk W p (rdC (some (a.add 3)) r.length (c-1) n) 67 -> PSt W p r n:=by
 obtain ⟨A,c,hx,hc,a,rfl,ha,hcl⟩:=h.box;have hl:0<r.length:=by
  obtain ⟨t2,r2,e⟩:=hr.ne;rw [e]; simp
 refine ⟨a,c,ha,hc,hl,hx,fun W hb hW=>⟨⟨some (a.add 3),c-1,hW,by simp at hc; omega,a.add 3,rfl,by rw [za1]; exact ha,fun i u hu=>?_⟩,hr,h.hn,fun w2 h2=>h.laid w2 (hb.trans h2)⟩⟩
 rw [Addr.add_add,show 3+i*3=(i+1)*3 by omega];have hk:∀ o,W.cell? ⟨(a.add ((i+1)*3)).block,o,none⟩=w.cell? ⟨(a.add ((i+1)*3)).block,o,none⟩:=fun o=>hb.cell (p:=⟨(a.add ((i+1)*3)).block,o,none⟩) (by rw [za1]; exact ha);obtain ⟨h0,h1,h2⟩:=hcl (i+1) u hu;exact ⟨(hb.cell (by rw [za1]; exact ha)).trans h0,(hk _).trans h1,(hk _).trans h2⟩
theorem ze0 {w:World} {p:Nat} {ts:List Tk} {n:Nat} (h:PSt w p ts n) (hk:(hd ts).1≠5):Calls Tryz.prog 111 #[pP p] w fun e w'=>e=.returned (tkV (hd ts))/\PSt w' p ts.tail n/\Tw p w.heap.size w w':=by
 have hg:=h.good.tail hk;obtain ⟨⟨k,tx,i⟩,r,rfl⟩:=h.good.ne;have hp:=h.lt;have h1:PSt (w.alloc (.cells #[.int .i64 0,.string ⟨#[]⟩,.int .i64 0] 99 (0,0))) p ((k,tx,i)::r) n:=h.stay (za0 _ _);have HP:=Lh h1;have HG:=Lh hg;have hX:Bk (w.alloc (.cells #[.int .i64 0,.string ⟨#[]⟩,.int .i64 0] 99 (0,0))) w.heap.size #[.int .i64 0,.string ⟨#[]⟩,.int .i64 0] 99 := Bk.new _ _ _;have HX:=Lh hX;clear h h1 hg hk hX
 go_enter Tryz.func111, Tryz.ntmps111
 go_wp2_with fail
 have hnx:Calls Tryz.prog 52 #[pP p] _ fun e w'=>e=.returned (.agg #[.int .i64 k,.string ⟨tx.toArray⟩,.int .i64 i])/\Below _ _ w':=zh4 HP.out;refine hnx.mono ?_;clear hnx;rintro e w1 ⟨rfl,hb⟩;have b1:Below w.heap.size w w1:=(za0 _ _).trans (hb.mono (by simp));have h1:=HP.out.stay hb;have x1:=HX.out.stay hb;have s1:=hb.size;rw [World.size_alloc] at s1;have b2:Below w1.heap.size w1 (w1.alloc (.cells #[.int .i64 k,.string ⟨tx.toArray⟩,.int .i64 i] 99 (0,0))):=za0 _ _;obtain ⟨a,c,ha,hc,hr0,hbx,hfin⟩:=(h1.stay b2).drop HG.out;have q0:=hbx.cell 0 _ rfl;have f0:=hbx.frz 0;have x2:=x1.stay b2;have hc1:(r.length:Int)+1<=c:=by omega
 have hc2:¬ (c:Int)=1:=by omega
 have hc3:¬ c=1:=by omega
 have r0:=x2.cell 0 _ rfl;have r1:=x2.cell 1 _ rfl;have r2:=x2.cell 2 _ rfl;have g0:=x2.frz 0;have g1:=x2.frz 1;have g2:=x2.frz 2;have hp1:p≠w.heap.size:=by omega
 have hp2:w.heap.size≠p:=by omega
 have ea:a.add 3=⟨a.block,a.off+3,none⟩:=by simp [Addr.add]
 rw [ea] at hfin;have HF:=Lh hfin;have HBX:=Lh hbx;have HX2:=Lh x2;have HB:=Lh (b1.trans (b2.mono b1.size));have hs2:=b2.size;clear hfin hbx x1 x2 b1 b2 hb h1;go_wp2_with fail;have y0:=HX2.out.cell 0 _ rfl;have HW:Hid (Bk (((((w1.alloc (.cells #[.int .i64 k,.string ⟨tx.toArray⟩,.int .i64 i] 99 (0,0))).setCell ⟨p,0,none⟩ (.slice (some ⟨a.block,a.off+3,none⟩) r.length (c-1))).setCell ⟨w.heap.size,0,none⟩ (.int .i64 k)).setCell ⟨w.heap.size,1,none⟩ (.string ⟨tx.toArray⟩)).setCell ⟨w.heap.size,2,none⟩ (.int .i64 i)) w.heap.size #[.int .i64 k,.string ⟨tx.toArray⟩,.int .i64 i] 99):=Lh ((((HX2.out.off hp2 _ _).s3 0 _).s3 1 _).s3 2 _);have z0:=HW.out.cell 0 _ rfl;have z1:=HW.out.cell 1 _ rfl;have z2:=HW.out.cell 2 _ rfl;refine bodyPost_ret (v:=.agg #[.int .i64 k,.string ⟨tx.toArray⟩,.int .i64 i]) (by simp [results,Tryz.results111,go_sem,z0,z1,z2]) rfl ⟨rfl, ?_, ?_⟩
 ·refine HF.out _ ⟨rfl,rfl,rfl,by simp [World.setCell],fun g hg=>?_⟩ ((((HBX.out.s4 _).off hp1 _ _).off hp1 _ _).off hp1 _ _)
  rw [Below.heap_setCell _ _ _ _ (by simp; omega),Below.heap_setCell _ _ _ _ (by simp; omega),Below.heap_setCell _ _ _ _ (by simp; omega),Below.heap_setCell _ _ _ _ (by simp; omega)]
 ·exact ((((Tw.of HB.out).set 0 _).setNew (Nat.le_refl _) 0 _).setNew (Nat.le_refl _) 1 _).setNew (Nat.le_refl _) 2 _
end Go.Proofs.YtfgelheiknmjgaaGreatDoor

