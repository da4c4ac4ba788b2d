
/-
 Texts joined: KScan KList E0 E1 YReg G5.
-/
import Derived.Test.YthjoelpfmimedaaGreatDoorZp4
import Derived.Test.YthjoelpfmimedaaGreatDoorZp5
import Derived.Test.YthjoelpfmimedaaGreatDoorZp2
import Derived.Test.YthjoelpfmimedaaGreatDoorZp3
import Derived.Orders
namespace Go.Proofs.YthjoelpfmimedaaGreatDoor.K
open Go.RowKit
def tkC (ts:List Tk):List Value:=ts.flatMap fun p => [.int .i64 p.1,.string ⟨p.2.1.toArray⟩,.int .i64 (p.2.2:Int)]
theorem tkC_app (a b:List Tk):tkC (a ++ b) = tkC a ++ tkC b:=List.flatMap_append
theorem infoT:(Tryz.prog.info? 105).map (fun i => (i.zero,i.size,i.bytes)) = some (some (.agg #[.int .i64 0,.string ⟨#[]⟩,.int .i64 0]),3,32):=by kernel_rfl
def OwnT (w:World) (base:Nat) (v:Value) (ts:List Tk):Prop:=w.ownsRow base 105 3 v ts.length (tkC ts)
theorem zs6 {w w':World} {base:Nat} {e:TypeId} {size:Nat} {v:Value} {n:Nat} {xs:List Value} (h:w.ownsRow base e size v n xs) (hb:Below w.heap.size w w'):w'.ownsRow base e size v n xs:=by
 refine ⟨h.1,h.2.imp id ?_⟩
 rintro ⟨g,cap,cur,e1,e2,e3,r⟩
 have hg:g < w.heap.size:=by
  rcases Nat.lt_or_ge g w.heap.size with h' | h'
  ·exact h'
  ·rw [Array.getElem?_eq_none h'] at e3; cases e3
 exact ⟨g,cap,cur,e1,e2,(hb.block g hg).trans e3,r⟩
theorem OwnT.stay {w w':World} {base:Nat} {v:Value} {ts:List Tk} (h:OwnT w base v ts) (hb:Below w.heap.size w w'):OwnT w' base v ts:=zs6 h hb
theorem OwnT.nil (w:World) (base:Nat):OwnT w base (.slice none 0 0) []:=⟨rfl,.inl ⟨rfl,rfl⟩⟩
theorem zT8 {w:World} {ops:Array Oper} {rest:List Oper} {o:Oper} {a:Act} {Q:Exit → Act → World → Prop} (hgd:o.guard = none) (s x:Operand)
  (ho:o.op = .call { callee:=.builtin .append,args:=#[s,x],argTypes:=#[62, 62] }) (base:Nat) (v:Value) (ts:List Tk) (hs:a.eval s = v) (hown:OwnT w base v ts)
  (ad:Addr) (c:Nat) (p:Tk) (hx:a.eval x = .slice (some ad) 1 c) (hnews:∀ j u,(tkC [p])[j]? = some u → w.cell? (ad.add j) = some u)
  (hlen:ts.length + 1 ≤ 1099511627776) (hbase:base ≤ w.heap.size)
  (h:∀ v' w',OwnT w' base v' (ts ++ [p]) → w.grownBy w' v.ownBlock → wpList Tryz.prog ops Q rest (a.put o.dst v') w'):wpList Tryz.prog ops Q (o :: rest) a w:=by
 obtain ⟨i0,hi,hz0,hz1,hz2⟩:=info_parts infoT
 refine wpList_append_own w hgd s x 62 ho base 105 i0 (.agg #[.int .i64 0,.string ⟨#[]⟩,.int .i64 0]) 3 32 Tryz.underlying62 hi hz0 hz1 hz2 rfl (by decide) v ts.length (tkC ts) hs hown ad 1 c (tkC [p]) hx rfl hnews ?_ (by unfold maxLen; omega) (by omega) hbase ?_
 ·intro u hu
  simp [tkC] at hu
  rcases hu with rfl | rfl | rfl <;> rfl
 ·intro v' w' h1 h2 _
  refine h v' w' ?_ h2
  unfold OwnT
  rw [List.length_append,tkC_app]
  exact h1
theorem zT5 (w:World) (xs:Array Value) (t:TypeId) (news:List Value) (hx:xs = news.toArray) :
  ∀ j u,news[j]? = some u → (w.alloc (.cells xs t)).cell? ((⟨w.heap.size,0,none⟩ : Addr).add j) = some u:=by
 intro j u h
 obtain ⟨h1,rfl⟩:=List.getElem?_eq_some_iff.1 h
 subst hx
 have:=T1.zq4 w news.toArray t j (by simpa using h1)
 simpa using this
theorem OwnT.lt {w:World} {base:Nat} {v:Value} {ts:List Tk} (h:OwnT w base v ts):∀ k,v.ownBlock = some k → base ≤ k ∧ k < w.heap.size:=World.ownsRow.lt h
def scG (f at':Nat) (l:List UInt8):Except (Nat × Int) (List Tk):=if l = [] then .ok [(5,[],at')] else match tokR l with
 | .error c => .error (at',c)
 | .ok (k,t,n) => match scF f (at' + n) (l.drop n) with
   | .error e => .error e
   | .ok ts => .ok ((k,t,at') :: ts)
theorem scG_ok {f at':Nat} {l:List UInt8} {k:Int} {t:List UInt8} {n:Nat} (hne:l ≠ []) (ht:tokR l = .ok (k,t,n)):scG f at' l = match scF f (at' + n) (l.drop n) with
  | .error e => .error e
  | .ok ts => .ok ((k,t,at') :: ts):=by
 unfold scG; rw [if_neg hne,ht]
structure ScAt (l:List UInt8) (R:Except (Nat × Int) (List Tk)) (f at':Nat) (ts:List Tk):Prop where
 eq:R = match scG f at' (l.drop at') with
  | .error e => .error e
  | .ok r => .ok (ts ++ r)
 fuel:l.length ≤ f + at'
 hi:at' ≤ l.length
 len:ts.length ≤ at'
theorem ScAt.start (l:List UInt8) (h:l.length ≤ 65536):ScAt l (scR l) l.length (sepN l) []:=by
 refine ⟨?_,Nat.le_add_right _ _,zm2 l,Nat.zero_le _⟩
 unfold scR
 rw [if_neg (by omega)]
 show scG l.length (0 + sepN l) (l.drop (sepN l)) = _
 rw [Nat.zero_add]
 cases scG l.length (sepN l) (l.drop (sepN l)) <;> rfl
theorem ScAt.done {l:List UInt8} {R:Except (Nat × Int) (List Tk)} {f at':Nat} {ts:List Tk} (h:ScAt l R f at' ts) (hd:¬ at' < l.length):R = .ok (ts ++ [(5,[],at')]):=by
 rw [h.eq,List.drop_eq_nil_of_le (by omega)]; rfl
theorem ScAt.bad {l:List UInt8} {R:Except (Nat × Int) (List Tk)} {f at':Nat} {ts:List Tk} (h:ScAt l R f at' ts) (hd:at' < l.length) {c:Int} (ht:tokR (l.drop at') = .error c):R = .error (at',c):=by
 have hne:l.drop at' ≠ []:=by intro e; have:=congrArg List.length e; rw [List.length_drop] at this; simp at this; omega
 rw [h.eq]; unfold scG; rw [if_neg hne,ht]
theorem ScAt.next {l:List UInt8} {R:Except (Nat × Int) (List Tk)} {f at':Nat} {ts:List Tk} (h:ScAt l R f at' ts) (hd:at' < l.length) {k:Int} {t:List UInt8} {n:Nat} (ht:tokR (l.drop at') = .ok (k,t,n)) :
  1 ≤ n ∧ at' + n ≤ l.length ∧ ∃ f',ScAt l R f' (at' + n + sepN (l.drop (at' + n))) (ts ++ [(k,t,at')]):=by
 have hne:l.drop at' ≠ []:=by intro e; have:=congrArg List.length e; rw [List.length_drop] at this; simp at this; omega
 obtain ⟨h1,h2⟩:=zt7 hne ht
 rw [List.length_drop] at h2
 have hs:=zm2 (l.drop (at' + n))
 rw [List.length_drop] at hs
 have hf:=h.fuel
 have hl:=h.len
 obtain ⟨f',rfl⟩ : ∃ g,f = g + 1:=⟨f - 1,by omega⟩
 refine ⟨h1,by omega,f', ?_,by omega,by omega,by rw [List.length_append]; show ts.length + 1 ≤ _; omega⟩
 rw [h.eq,scG_ok hne ht,List.drop_drop]
 have e:scF (f' + 1) (at' + n) (l.drop (at' + n)) = scG f' (at' + n + sepN (l.drop (at' + n))) ((l.drop (at' + n)).drop (sepN (l.drop (at' + n)))):=rfl
 rw [e,List.drop_drop]
 generalize (at' + n + sepN (l.drop (at' + n))) = b
 cases scG f' b (l.drop b) with
 | error e => rfl
 | ok r => simp
def ScanAns (R:Except (Nat × Int) (List Tk)) (base:Nat) (e:Ending) (w':World):Prop:=match R with
 | .ok ts => ∃ v,e = .returned (.tuple #[v,.int .i64 0,.int .i64 0]) ∧ OwnT w' base v ts
 | .error x => e = .returned (.tuple #[.slice none 0 0,.int .i64 x.1,.int .i64 x.2]) ∧ x.2 ≠ 0
def zG2 (R:Except (Nat × Int) (List Tk)) (w:World) (e:Ending) (w':World):Prop:=ScanAns R w.heap.size e w' ∧ Below w.heap.size w w'
set_option maxHeartbeats 2000000 in
theorem ya3 (s:ByteArray) (h:65536 < s.size) (w:World):Calls Tryz.prog 26 #[.string s] w (zG2 (scR s.data.toList) w):=by
 have E1:Hid (scR s.data.toList = .error (65536,4)):=Lib.hid (by unfold scR; rw [T1.size_eq,if_pos h])
 have hgt:((s.size:Int) > 65536):=by omega
 generalize scR s.data.toList = R at *
 go_enter Tryz.func26, Tryz.ntmps26
 go_wp2_with fail
 refine bodyPost_ret (v:=.tuple #[.slice none 0 0,.int .i64 65536,.int .i64 4]) (by simp [results,Tryz.results26,go_sem]) rfl ⟨?_,Below.refl _ _⟩
 rw [E1.out]
 exact ⟨rfl,by decide⟩
set_option maxRecDepth 100000 in
set_option maxHeartbeats 4000000 in
theorem zV0 (s:ByteArray) (h:s.size ≤ 65536) (w:World) (hL:LK w):Calls Tryz.prog 26 #[.string s] w (zG2 (scR s.data.toList) w):=by
 have hsz:=T1.size_eq s
 have ST:=Lib.hid (ScAt.start s.data.toList (by omega))
 have hgt:¬ ((s.size:Int) > 65536):=by omega
 have HL:=Lib.hid hL
 clear hL
 generalize scR s.data.toList = R at *
 go_enter Tryz.func26, Tryz.ntmps26
 go_wp2_with fail
 refine (zn6 s (by unfold maxLen; omega) w).mono ?_
 rintro e w1 ⟨rfl,hb⟩
 have HB1:=Lib.hid hb
 clear hb
 generalize sepN s.data.toList = m at *
 go_wp2_with fail
 go_loopw [5,6] (fun v i wr => ∃ (f k:Nat) (ts:List Tk),i = .int .i64 k ∧ OwnT wr w.heap.size v ts ∧ ScAt s.data.toList R f k ts ∧ Below w.heap.size w wr) (fun _ i _ => s.size - (intOf i).toNat)
 case atStart => exact ⟨_,m,[],rfl,OwnT.nil _ _,ST.out,HB1.out⟩
 case round =>
  obtain ⟨f,k,ts,rfl,hown,hat,hb⟩:=hrel
  have HO:=Lib.hid hown
  have HA:=Lib.hid hat
  have HB:=Lib.hid hb
  clear hown hat hb HB1 ST
  have hkl:=HA.out.hi
  by_cases hlt:k < s.size
  ·have hlt':(k:Int) < s.size:=by omega
   have hle':(k:Int) ≤ s.size:=by omega
   have HD:=Lib.hid (zu2 s k)
   have HES:Hid ((s.extract k s.size).size = s.size - k):=Lib.hid (by rw [← T1.size_eq,HD.out,List.length_drop,hsz])
   have CALL:=Lib.hid (zx6 (s.extract k s.size) (by rw [HES.out]; omega) (by rw [HES.out]; omega) wr (HL.out.below HB.out))
   rw [HD.out] at CALL
   go_wp2_with fail
   refine CALL.out.mono ?_
   rintro e w2 ⟨ha,hb⟩
   have HB2:=Lib.hid (HB.out.trans (hb.mono HB.out.size))
   have HO2:=Lib.hid (HO.out.stay hb)
   clear hb CALL HB HO
   cases ht:tokR (s.data.toList.drop k) with
   | error c =>
     rw [ht] at ha
     obtain ⟨hc,k1,t1,n1,rfl⟩:=ha
     have E1:=Lib.hid (HA.out.bad (by omega) ht)
     have HC:=Lib.hid hc
     have hc0:(c == 0) = false:=beq_false_of_ne hc
     clear ht hc
     go_wp2_with fail
     refine bodyPost_ret (v:=.tuple #[.slice none 0 0,.int .i64 k,.int .i64 c]) (by simp [results,Tryz.results26,go_sem]) rfl ⟨?_,HB2.out.alloc HB2.out.size _⟩
     rw [E1.out]
     exact ⟨rfl,HC.out⟩
   | ok p =>
     obtain ⟨k1,t1,n⟩:=p
     rw [ht] at ha
     have ha:e = .returned (.tuple #[tkV k1 ⟨t1.toArray⟩ 0,.int .i64 n,.int .i64 0]):=ha
     subst ha
     obtain ⟨hn1,hn2,f',hnx⟩:=HA.out.next (by omega) ht
     have HN:=Lib.hid hnx
     clear ht hnx
     have HX3:Hid (TB (w2.alloc (.cells #[.int .i64 k1,.string ⟨t1.toArray⟩,.int .i64 0] 105 (0,0))) w2.heap.size (.int .i64 k1) (.string ⟨t1.toArray⟩) (.int .i64 0)):=Lib.hid (heap_alloc_new w2 _)
     have hb3:=((Below.refl w2.heap.size w2).alloc (Nat.le_refl _) (.cells #[.int .i64 k1,.string ⟨t1.toArray⟩,.int .i64 k] 105 (0,0))).alloc (by simp) (.cells #[.int .i64 k1,.string ⟨t1.toArray⟩,.int .i64 k] 105 (0,0))
     have HO4:=Lib.hid (HO2.out.stay hb3)
     have HB4:=Lib.hid (HB2.out.trans (hb3.mono HB2.out.size))
     have HNL:=Lib.hid HA.out.len
     have h00:((0:Int) == 0) = true:=rfl
     have hsm:=hsz
     obtain ⟨x0,x1,x2⟩:=HX3.out.cells
     have g0:=HX3.out.frz 0
     have g1:=HX3.out.frz 1
     have g2:=HX3.out.frz 2
     clear hb3
     go_wp2_with (at_builtin; refine zT8 rfl _ _ rfl w.heap.size _ ts rfl HO4.out _ _ (k1,t1,k) rfl ?_ ?_ ?_ ?_)
     ·intro j u hj
      have h9:=zT5 (w2.alloc (.cells #[.int .i64 k1,.string ⟨t1.toArray⟩,.int .i64 k] 105)) #[.int .i64 k1,.string ⟨t1.toArray⟩,.int .i64 k] 105 (tkC [(k1,t1,k)]) rfl j u hj
      rw [show (w2.alloc (.cells #[.int .i64 k1,.string ⟨t1.toArray⟩,.int .i64 k] 105)).heap.size = w2.heap.size + 1 by simp] at h9
      exact h9
     ·have:=HNL.out; omega
     ·exact HB4.out.size
     ·intro v' w5 h1 h2
      have HO5:=Lib.hid h1
      have HB5:=Lib.hid (HB4.out.grown h2 HB4.out.size (fun g hg => (HO4.out.lt g hg).1))
      have HE2:=Lib.hid (zu2 s (k + n))
      have hk2:(k:Int) + n ≤ s.size:=by omega
      have hk3:(0:Int) ≤ (k:Int) + n:=by omega
      have hk4:((k:Int) + n).toNat = k + n:=by omega
      have hes:(s.extract (k + n) s.size).size ≤ maxLen:=by
       rw [← T1.size_eq,HE2.out,List.length_drop]; unfold maxLen; omega
      have CALL:=Lib.hid (zn6 (s.extract (k + n) s.size) hes w5)
      rw [HE2.out] at CALL
      have hq:=zm2 (s.data.toList.drop (k + n))
      rw [List.length_drop] at hq
      clear h1 h2 hes HX3 x0 x1 x2 g0 g1 g2
      generalize sepN (s.data.toList.drop (k + n)) = q at *
      go_wp2_with fail
      refine CALL.out.mono ?_
      rintro e w6 ⟨rfl,hb⟩
      have HB6:=Lib.hid (HB5.out.trans (hb.mono HB5.out.size))
      have HO6:=Lib.hid (HO5.out.stay hb)
      clear hb CALL
      go_wp2_with fail
      go_roundw
      case rel => exact ⟨f',k + n + q,ts ++ [(k1,t1,k)],by push_cast; rfl,HO6.out,HN.out,HB6.out⟩
      case measure =>
       simp only [intOf]
       omega
  ·have E1:=Lib.hid (HA.out.done (by omega))
   have hlt':¬ (k:Int) < s.size:=by omega
   have hb3:=(Below.refl wr.heap.size wr).alloc (Nat.le_refl _) (.cells #[.int .i64 5,.string ⟨#[]⟩,.int .i64 k] 105 (0,0))
   have HO4:=Lib.hid (HO.out.stay hb3)
   have HB4:=Lib.hid (HB.out.trans (hb3.mono HB.out.size))
   have HNL:=Lib.hid HA.out.len
   clear hb3
   go_wp2_with (at_builtin; refine zT8 rfl _ _ rfl w.heap.size _ ts rfl HO4.out _ _ (5,[],k) rfl ?_ ?_ ?_ ?_)
   ·exact fun j u h => h
   ·have:=HNL.out; omega
   ·have:=HB.out.size; omega
   ·intro v' w5 h1 h2
    have HO5:=Lib.hid h1
    have HB5:=Lib.hid (HB4.out.grown h2 HB4.out.size (fun g hg => (HO4.out.lt g hg).1))
    clear h1 h2
    go_wp2_with fail
    refine bodyPost_ret (v:=.tuple #[v',.int .i64 0,.int .i64 0]) (by simp [results,Tryz.results26,go_sem]) rfl ⟨?_,HB5.out⟩
    rw [E1.out]
    exact ⟨_,rfl,HO5.out⟩
theorem scan_any (s:ByteArray) (w:World) (hL:LK w):Calls Tryz.prog 26 #[.string s] w (zG2 (scR s.data.toList) w):=by
 rcases Nat.lt_or_ge 65536 s.size with h | h
 ·exact ya3 s h w
 ·exact zV0 s h w hL
end Go.Proofs.YthjoelpfmimedaaGreatDoor.K
namespace Go.Proofs.YthjoelpfmimedaaGreatDoor.K
open Go.RowKit
abbrev Tz:=Int × List UInt8 × Int
def zC (zs:List Tz):List Value:=zs.flatMap fun p => [.int .i64 p.1,.string ⟨p.2.1.toArray⟩,.int .i64 p.2.2]
theorem zC_app (a b:List Tz):zC (a ++ b) = zC a ++ zC b:=List.flatMap_append
def tz (ts:List Tk):List Tz:=ts.map fun p => (p.1,p.2.1,(p.2.2:Int))
theorem zH4 (ts:List Tk):(tz ts).length = ts.length:=List.length_map _
theorem tz_C (ts:List Tk):zC (tz ts) = tkC ts:=by
 induction ts with
 | nil => rfl
 | cons p r ih => show _ :: _ :: _ :: zC (tz r) = _; rw [ih]; rfl
theorem zC_at (zs:List Tz) (i:Nat) (p:Tz) (h:zs[i]? = some p):(zC zs)[i * 3]? = some (.int .i64 p.1) ∧ (zC zs)[i * 3 + 1]? = some (.string ⟨p.2.1.toArray⟩) ∧ (zC zs)[i * 3 + 2]? = some (.int .i64 p.2.2):=by
 induction zs generalizing i with
 | nil => simp at h
 | cons q r ih =>
   cases i with
   | zero => simp at h; subst h; exact ⟨rfl,rfl,rfl⟩
   | succ i =>
     have:=ih i (by simpa using h)
     have e:zC (q :: r) = .int .i64 q.1 :: .string ⟨q.2.1.toArray⟩ :: .int .i64 q.2.2 :: zC r:=rfl
     rw [e,show (i + 1) * 3 = i * 3 + 1 + 1 + 1 by omega]
     simpa using this
def C3 (w:World) (a:Addr) (p:Tz):Prop:=w.cell? a = some (.int .i64 p.1) ∧ w.cell? ⟨a.block,a.off + 1,none⟩ = some (.string ⟨p.2.1.toArray⟩) ∧ w.cell? ⟨a.block,a.off + 2,none⟩ = some (.int .i64 p.2.2)
theorem za1 (a:Addr) (n:Nat):(a.add n).block = a.block:=by
 unfold Addr.add; split <;> rfl
theorem C3.kept {w w':World} {B:Nat} {a:Addr} {p:Tz} (h:C3 w a p) (ha:a.block < B) (hb:Below B w w'):C3 w' a p:=by
 obtain ⟨h0,h1,h2⟩:=h
 have hk:=hb.block a.block ha
 exact ⟨(World.cell?_of_block (w:=w) hk).trans h0,(World.cell?_of_block (w:=w) (a:=⟨a.block,a.off + 1,none⟩) hk).trans h1,(World.cell?_of_block (w:=w) (a:=⟨a.block,a.off + 2,none⟩) hk).trans h2⟩
def ZAt (w:World) (B:Nat) (A:Option Addr) (zs:List Tz):Prop:=0 < zs.length → ∃ a,A = some a ∧ a.block < B ∧ ∀ i p,zs[i]? = some p → C3 w (a.add (i * 3)) p
def OwnZ (T:TypeId) (w:World) (base:Nat) (v:Value) (zs:List Tz):Prop:=w.ownsRow base T 3 v zs.length (zC zs)
theorem OwnT.z {w:World} {base:Nat} {v:Value} {ts:List Tk} (h:OwnT w base v ts):OwnZ 105 w base v (tz ts):=by
 unfold OwnZ; rw [zH4,tz_C]; exact h
theorem OwnZ.stay {T:TypeId} {w w':World} {base:Nat} {v:Value} {zs:List Tz} (h:OwnZ T w base v zs) (hb:Below w.heap.size w w'):OwnZ T w' base v zs:=zs6 h hb
theorem OwnZ.nil (T:TypeId) (w:World) (base:Nat):OwnZ T w base (.slice none 0 0) []:=⟨rfl,.inl ⟨rfl,rfl⟩⟩
theorem OwnZ.lt {T:TypeId} {w:World} {base:Nat} {v:Value} {zs:List Tz} (h:OwnZ T w base v zs):∀ k,v.ownBlock = some k → base ≤ k ∧ k < w.heap.size:=World.ownsRow.lt h
theorem OwnZ.at {T:TypeId} {w:World} {base:Nat} {v:Value} {zs:List Tz} (h:OwnZ T w base v zs):∃ A c,v = .slice A zs.length c ∧ ZAt w w.heap.size A zs ∧ zs.length ≤ c:=by
 have hh:w.ownsRow base T 3 v zs.length (zC zs):=h
 rcases hh.2 with ⟨rfl,hz⟩ | ⟨g,cap,cur,rfl,h1,h2,h3⟩
 ·have:zs = []:=by
   cases zs with
   | nil => rfl
   | cons p r => simp at hz
  subst this
  exact ⟨none,0,rfl,fun h => absurd h (Nat.lt_irrefl _),Nat.le_refl _⟩
 ·have hlt:=(World.ownsRow.lt hh g rfl).2
  refine ⟨some ⟨g,0,none⟩,cap,rfl,fun _ => ⟨_,rfl,hlt,fun i p hp => ?_⟩,h3.1⟩
  have hcell:=hh.cells (g:=g) rfl
  obtain ⟨z0,z1,z2⟩:=zC_at zs i p hp
  have e:∀ n,(⟨g,0,none⟩ : Addr).add n = ⟨g,n,none⟩:=fun n => by unfold Addr.add; split <;> simp_all
  have k0:=hcell _ _ z0
  have k1:=hcell _ _ z1
  have k2:=hcell _ _ z2
  rw [e] at k0 k1 k2
  unfold C3
  rw [e]
  exact ⟨k0,k1,k2⟩
theorem z_round {w wr:World} {B j:Nat} {A:Option Addr} {zs:List Tz} (hA:ZAt w B A zs) (hb:Below B w wr) (hj:j < zs.length) :
  ∃ (a:Addr) (k:Int) (t:List UInt8) (i:Int),A = some a ∧ zs[j]? = some (k,t,i) ∧ wr.cell? (a.add (j * 3)) = some (.int .i64 k) ∧ wr.cell? ⟨(a.add (j * 3)).block,(a.add (j * 3)).off + 1,none⟩ = some (.string ⟨t.toArray⟩) ∧ wr.cell? ⟨(a.add (j * 3)).block,(a.add (j * 3)).off + 2,none⟩ = some (.int .i64 i):=by
 obtain ⟨a,e,ha,hc⟩:=hA (by omega)
 have hz:zs[j]? = some zs[j]:=List.getElem?_eq_getElem hj
 generalize zs[j] = p at hz
 obtain ⟨k,t,i⟩:=p
 obtain ⟨h0,h1,h2⟩:=(hc j _ hz).kept (by rw [za1]; exact ha) hb
 exact ⟨a,k,t,i,e,hz,h0,h1,h2⟩
theorem infoS:(Tryz.prog.info? 9).map (fun i => (i.zero,i.size,i.bytes)) = some (some (.string ⟨#[]⟩),1,16):=by kernel_rfl
def OwnS (w:World) (base:Nat) (v:Value) (ss:List (List UInt8)):Prop:=w.ownsRow base 9 1 v ss.length (ss.map fun s => .string ⟨s.toArray⟩)
end Go.Proofs.YthjoelpfmimedaaGreatDoor.K
namespace Go.Proofs.YthjoelpfmimedaaGreatDoor
open Go.RowKit
abbrev Tk:=Int × List UInt8 × Nat
abbrev Er:=Nat × Int
def tkV (t:Tk):Value:=.agg #[.int .i64 t.1,.string ⟨t.2.1.toArray⟩,.int .i64 t.2.2]
def hd (ts:List Tk):Tk:=ts.headD (0,[],0)
structure TkOk (t:Tk):Prop where
 k0:0 ≤ t.1
 k5:t.1 ≤ 5
 len:t.2.1.length ≤ 1000000
 at_:t.2.2 ≤ 1000000
structure Good (ts:List Tk):Prop where
 last:∃ i t,ts = i ++ [t] ∧ t.1 = 5
 ok:∀ t ∈ ts,TkOk t
 len:ts.length ≤ 1000000
theorem Good.ne {ts:List Tk} (h:Good ts):∃ t r,ts = t :: r:=by
 obtain ⟨i,t,e,_⟩:=h.last
 cases ts with
 | nil => simp at e
 | cons t r => exact ⟨t,r,rfl⟩
theorem Good.tail {ts:List Tk} (h:Good ts) (hk:(hd ts).1 ≠ 5):Good ts.tail:=by
 obtain ⟨i,t,e,h5⟩:=h.last
 subst e
 cases i with
 | nil => exact absurd h5 hk
 | cons a r => exact ⟨⟨r,t,rfl,h5⟩,fun u hu => h.ok u (List.mem_cons_of_mem _ hu),by have:=h.len; simp at this ⊢; omega⟩
def TAt (w:World) (B:Nat) (A:Option Addr) (ts:List Tk):Prop :=
 ∃ a,A = some a ∧ a.block < B ∧ ∀ i t,ts[i]? = some t → w.cell? (a.add (i * 3)) = some (.int .i64 t.1) ∧ w.cell? ⟨(a.add (i * 3)).block,(a.add (i * 3)).off + 1,none⟩ = some (.string ⟨t.2.1.toArray⟩) ∧ w.cell? ⟨(a.add (i * 3)).block,(a.add (i * 3)).off + 2,none⟩ = some (.int .i64 t.2.2)
theorem TAt.kept {w w':World} {B:Nat} {A:Option Addr} {ts:List Tk} (h:TAt w B A ts) (hb:Below B w w'):TAt w' B A ts:=by
 obtain ⟨a,e,ha,hc⟩:=h
 refine ⟨a,e,ha,fun i t hi => ?_⟩
 have hk:∀ o,w'.cell? ⟨(a.add (i * 3)).block,o,none⟩ = w.cell? ⟨(a.add (i * 3)).block,o,none⟩:=fun o => hb.cell (p:=⟨(a.add (i * 3)).block,o,none⟩) (by rw [za1]; exact ha)
 obtain ⟨h0,h1,h2⟩:=hc i t hi
 exact ⟨(hb.cell (by rw [za1]; exact ha)).trans h0,(hk _).trans h1,(hk _).trans h2⟩
abbrev fnV:Value:=.func (.func 28) #[] #[]
abbrev rdC (A:Option Addr) (l c:Nat) (n:Int):Array Value:=#[.slice A l c,fnV,.bool false,.int .i64 n]
structure PSt (w:World) (p:Nat) (ts:List Tk) (n:Nat):Prop where
 box:∃ A c,Bk w p (rdC A ts.length c n) 72 ∧ ts.length ≤ c ∧ TAt w p A ts
 good:Good ts
 hn:n ≤ 4097
 laid:∀ w2,Below p w w2 → T1.Laid w2
structure Tw (p N:Nat) (w w':World):Prop where
 os:w'.os = w.os
 tape:w'.tape = w.tape
 output:w'.output = w.output
 size:w.heap.size ≤ w'.heap.size
 block:∀ k,k < N → k ≠ p → w'.heap[k]? = w.heap[k]?
theorem Tw.refl (p N:Nat) (w:World):Tw p N w w:=⟨rfl,rfl,rfl,Nat.le_refl _,fun _ _ _ => rfl⟩
theorem Tw.trans {p N:Nat} {a b c:World} (h:Tw p N a b) (k:Tw p N b c):Tw p N a c :=
 ⟨k.os.trans h.os,k.tape.trans h.tape,k.output.trans h.output,Nat.le_trans h.size k.size,fun i hi hp => (k.block i hi hp).trans (h.block i hi hp)⟩
theorem Tw.mono {p N N':Nat} {w w':World} (h:Tw p N w w') (hN:N' ≤ N):Tw p N' w w':=⟨h.os,h.tape,h.output,h.size,fun k hk hp => h.block k (Nat.lt_of_lt_of_le hk hN) hp⟩
theorem Tw.below {p N:Nat} {w w':World} (h:Tw p N w w') (hp:p ≤ N):Below p w w':=⟨h.os,h.tape,h.output,h.size,fun k hk => h.block k (by omega) (by omega)⟩
theorem Tw.of {p N:Nat} {w w':World} (h:Below N w w'):Tw p N w w':=⟨h.os,h.tape,h.output,h.size,fun k hk _ => h.block k hk⟩
theorem Tw.set {p N:Nat} {a w:World} (h:Tw p N a w) (i:Nat) (u:Value):Tw p N a (w.setCell ⟨p,i,none⟩ u) :=
 h.trans ⟨rfl,rfl,rfl,by simp [World.setCell],fun k _ hp => Below.heap_setCell _ _ _ _ hp⟩
theorem Tw.step {p N:Nat} {a b c:World} (h:Tw p N a b) (hN:N ≤ b.heap.size) (k:Tw p b.heap.size b c):Tw p N a c:=h.trans (k.mono hN)
theorem Bk.far {W W':World} {p b:Nat} {cs:Array Value} {T:TypeId} (h:Bk W b cs T) (hb:Tw p W.heap.size W W') (hne:b ≠ p):Bk W' b cs T:=(hb.block b h.lt hne).trans h
theorem PSt.lt {w:World} {p:Nat} {ts:List Tk} {n:Nat} (h:PSt w p ts n):p < w.heap.size:=by
 obtain ⟨A,c,hb,_⟩:=h.box
 exact hb.lt
theorem PSt.same {w w':World} {p:Nat} {ts:List Tk} {n:Nat} (h:PSt w p ts n) (hb:Below (p + 1) w w'):PSt w' p ts n:=by
 obtain ⟨A,c,hx,hc,ht⟩:=h.box
 exact ⟨⟨A,c,(hb.block p (by omega)).trans hx,hc,ht.kept (hb.mono (by omega))⟩,h.good,h.hn,fun w2 h2 => h.laid w2 ((hb.mono (by omega)).trans h2)⟩
theorem PSt.stay {w w':World} {p:Nat} {ts:List Tk} {n:Nat} (h:PSt w p ts n) (hb:Below w.heap.size w w'):PSt w' p ts n:=h.same (hb.mono h.lt)
theorem PSt.fail {w:World} {p:Nat} {ts:List Tk} {n:Nat} (h:PSt w p ts n):w.cell? ⟨p,1,none⟩ = some fnV:=by
 obtain ⟨A,c,hb,_⟩:=h.box
 exact hb.cell 1 _ rfl
abbrev pP (p:Nat):Value:=.pointer (some ⟨p,0,none⟩)
theorem PSt.head {w:World} {p:Nat} {ts:List Tk} {n:Nat} (h:PSt w p ts n):∃ (t:Tk) (r:List Tk) (a:Addr) (c:Nat),ts = t :: r ∧ TkOk t ∧ a.block < p ∧ r.length + 1 ≤ c ∧ Bk w p (rdC (some a) (r.length + 1) c n) 72 ∧
  w.cell? a = some (.int .i64 t.1) ∧ w.cell? ⟨a.block,a.off + 1,none⟩ = some (.string ⟨t.2.1.toArray⟩) ∧ w.cell? ⟨a.block,a.off + 2,none⟩ = some (.int .i64 t.2.2):=by
 obtain ⟨t,r,rfl⟩:=h.good.ne
 obtain ⟨A,c,hx,hc,a,rfl,ha,hcl⟩:=h.box
 have h0:=hcl 0 t rfl
 have ez:a.add (0 * 3) = a:=by simp [Addr.add]
 rw [ez] at h0
 exact ⟨t,r,a,c,rfl,h.good.ok t List.mem_cons_self,ha,hc,hx,h0⟩
def isSg (s:List UInt8) (ts:List Tk):Bool:=decide ((hd ts).1 = 1) && decide ((hd ts).2.1 = s)
def isNm (ts:List Tk):Bool:=decide ((hd ts).1 = 2)
def erR (ts:List Tk) (c:Int):Er:=((hd ts).2.2,c)
def sgR (s:List UInt8) (ts:List Tk):Except Er (List Tk):=if isSg s ts then .ok ts.tail else .error (erR ts 3)
def nmR (ts:List Tk):Except Er (ByteArray × List Tk):=if isNm ts then .ok (⟨(hd ts).2.1.toArray⟩,ts.tail) else .error (erR ts 3)
def bgR (can:Bool) (count most:Nat) (ts:List Tk):Except Er Unit:=if can then (if count = most then .error (erR ts 4) else .ok ()) else .error (erR ts 3)
def badV (x:Er):Ending:=.panicked [{ v:=.iface 66 (.agg #[.int .i64 x.1,.int .i64 x.2]),recovered:=false }]
end Go.Proofs.YthjoelpfmimedaaGreatDoor
namespace Go.Proofs.YthjoelpfmimedaaGreatDoor
open Go.RowKit
set_option maxHeartbeats 2000000 in
theorem zf9 {w:World} {p:Nat} {ts:List Tk} {n:Nat} (h:PSt w p ts n):Calls Tryz.prog 53 #[pP p] w fun e w' => e = .returned (tkV (hd ts)) ∧ Below w.heap.size w w':=by
 obtain ⟨t,r,a,c,rfl,_,ha,hc,hx,k0,k1,k2⟩:=h.head
 obtain ⟨k,tx,i⟩:=t
 have q0:=hx.cell 0 _ rfl
 have hl:=h.lt
 have hl9:p ≠ w.heap.size:=by omega
 have hal:a.block < w.heap.size:=by omega
 have z0:(w.alloc (.cells #[.int .i64 0,.string ⟨#[]⟩,.int .i64 0] 105 (0,0))).cell? a = some (.int .i64 k):=((za0 w _).cell hal).trans k0
 have hlen:(0:Int) < (r.length:Int) + 1:=by omega
 simp only at k0 k1 k2
 have HB:Hid (Below w.heap.size w (w.alloc (.cells #[.int .i64 k,.string ⟨tx.toArray⟩,.int .i64 i] 105 (0,0)))):=Lib.hid (za0 _ _)
 show Calls _ _ _ _ fun e w' => e = .returned (.agg #[.int .i64 k,.string ⟨tx.toArray⟩,.int .i64 i]) ∧ _
 clear h hx hc ha
 go_enter Tryz.func53, Tryz.ntmps53
 go_wp2_with fail
 exact bodyPost_ret (v:=.agg #[.int .i64 k,.string ⟨tx.toArray⟩,.int .i64 i]) (by simp [results,Tryz.results53,go_sem]) rfl ⟨rfl,HB.out⟩
theorem Tw.setNew {p N b:Nat} {a w:World} (h:Tw p N a w) (hb:N ≤ b) (i:Nat) (u:Value):Tw p N a (w.setCell ⟨b,i,none⟩ u) :=
 h.trans ⟨rfl,rfl,rfl,by simp [World.setCell],fun k hk _ => Below.heap_setCell _ _ _ _ (by show k ≠ b; omega)⟩
theorem Tw.alloc {p N:Nat} {a w:World} (h:Tw p N a w) (hN:N ≤ w.heap.size) (o:Obj):Tw p N a (w.alloc o):=h.trans (Tw.of ((Below.refl _ _).alloc hN o))
theorem Bk.off {W:World} {b g:Nat} {cs:Array Value} {T:TypeId} (h:Bk W b cs T) (hne:b ≠ g) (i:Nat) (u:Value):Bk (W.setCell ⟨g,i,none⟩ u) b cs T:=(Below.heap_setCell W ⟨g,i,none⟩ u b hne).trans h
theorem Bk.set {W:World} {b:Nat} {cs:Array Value} {T:TypeId} (h:Bk W b cs T) (i:Nat) (u:Value):Bk (W.setCell ⟨b,i,none⟩ u) b (cs.setIfInBounds i u) T:=by
 unfold Bk at h ⊢; simp [World.setCell,Array.getElem?_modify,h]
theorem Bk.s4 {W:World} {b:Nat} {c0 c1 c2 c3:Value} {T:TypeId} (h:Bk W b #[c0,c1,c2,c3] T) (u:Value):Bk (W.setCell ⟨b,0,none⟩ u) b #[u,c1,c2,c3] T:=h.set 0 u
theorem Bk.n4 {W:World} {b:Nat} {c0 c1 c2 c3:Value} {T:TypeId} (h:Bk W b #[c0,c1,c2,c3] T) (u:Value):Bk (W.setCell ⟨b,3,none⟩ u) b #[c0,c1,c2,u] T:=h.set 3 u
theorem Bk.s3 {W:World} {b:Nat} {cs:Array Value} {T:TypeId} (h:Bk W b cs T) (i:Nat) (u:Value):Bk (W.setCell ⟨b,i,none⟩ u) b (cs.setIfInBounds i u) T:=h.set i u
set_option maxHeartbeats 2000000 in
theorem yc9 (t:Tk) (c:Int) (w:World):Calls Tryz.prog 28 #[tkV t,.int .i64 c] w fun e w' => e = badV (t.2.2,c) ∧ Below w.heap.size w w':=by
 obtain ⟨k,tx,i⟩:=t
 unfold tkV badV
 have HB:Hid (Below w.heap.size w (w.alloc (.cells #[.int .i64 k,.string ⟨tx.toArray⟩,.int .i64 i] 105 (0,0)))):=Lib.hid (za0 _ _)
 go_enter Tryz.func28, Tryz.ntmps28
 go_wp2_with fail
 simp [bodyPost]
 exact HB.out
theorem PSt.drop {w:World} {p:Nat} {t:Tk} {r:List Tk} {n:Nat} (h:PSt w p (t :: r) n) (hr:Good r):∃ (a:Addr) (c:Nat),a.block < p ∧ r.length + 1 ≤ c ∧ 0 < r.length ∧ Bk w p (rdC (some a) (r.length + 1) c n) 72 ∧
  ∀ W:World,Below p w W → Bk W p (rdC (some (a.add 3)) r.length (c - 1) n) 72 → PSt W p r n:=by
 obtain ⟨A,c,hx,hc,a,rfl,ha,hcl⟩:=h.box
 have hl:0 < r.length:=by
  obtain ⟨t2,r2,e⟩:=hr.ne
  rw [e]; simp
 refine ⟨a,c,ha,hc,hl,hx,fun W hb hW => ⟨⟨some (a.add 3),c - 1,hW,by simp at hc; omega,a.add 3,rfl,by rw [za1]; exact ha,fun i u hu => ?_⟩,hr,h.hn,fun w2 h2 => h.laid w2 (hb.trans h2)⟩⟩
 rw [Addr.add_add,show 3 + i * 3 = (i + 1) * 3 by omega]
 have hk:∀ o,W.cell? ⟨(a.add ((i + 1) * 3)).block,o,none⟩ = w.cell? ⟨(a.add ((i + 1) * 3)).block,o,none⟩:=fun o => hb.cell (p:=⟨(a.add ((i + 1) * 3)).block,o,none⟩) (by rw [za1]; exact ha)
 obtain ⟨h0,h1,h2⟩:=hcl (i + 1) u hu
 exact ⟨(hb.cell (by rw [za1]; exact ha)).trans h0,(hk _).trans h1,(hk _).trans h2⟩
set_option maxHeartbeats 2000000 in
theorem zd1 {w:World} {p:Nat} {ts:List Tk} {n:Nat} (h:PSt w p ts n) (hk:(hd ts).1 ≠ 5):Calls Tryz.prog 115 #[pP p] w fun e w' => e = .returned (tkV (hd ts)) ∧ PSt w' p ts.tail n ∧ Tw p w.heap.size w w':=by
 have hg:=h.good.tail hk
 obtain ⟨⟨k,tx,i⟩,r,rfl⟩:=h.good.ne
 have hp:=h.lt
 have h1:PSt (w.alloc (.cells #[.int .i64 0,.string ⟨#[]⟩,.int .i64 0] 105 (0,0))) p ((k,tx,i) :: r) n:=h.stay (za0 _ _)
 have HP:=Lib.hid h1
 have HG:=Lib.hid hg
 have hX:Bk (w.alloc (.cells #[.int .i64 0,.string ⟨#[]⟩,.int .i64 0] 105 (0,0))) w.heap.size #[.int .i64 0,.string ⟨#[]⟩,.int .i64 0] 105 := Bk.new _ _ _
 have HX:=Lib.hid hX
 clear h h1 hg hk hX
 go_enter Tryz.func115, Tryz.ntmps115
 go_wp2_with fail
 have hnx:Calls Tryz.prog 53 #[pP p] _ fun e w' => e = .returned (.agg #[.int .i64 k,.string ⟨tx.toArray⟩,.int .i64 i]) ∧ Below _ _ w':=zf9 HP.out
 refine hnx.mono ?_
 clear hnx
 rintro e w1 ⟨rfl,hb⟩
 have b1:Below w.heap.size w w1:=(za0 _ _).trans (hb.mono (by simp))
 have h1:=HP.out.stay hb
 have x1:=HX.out.stay hb
 have s1:=hb.size
 rw [World.size_alloc] at s1
 have b2:Below w1.heap.size w1 (w1.alloc (.cells #[.int .i64 k,.string ⟨tx.toArray⟩,.int .i64 i] 105 (0,0))):=za0 _ _
 obtain ⟨a,c,ha,hc,hr0,hbx,hfin⟩:=(h1.stay b2).drop HG.out
 have q0:=hbx.cell 0 _ rfl
 have f0:=hbx.frz 0
 have x2:=x1.stay b2
 have hc1:(r.length:Int) + 1 ≤ c:=by omega
 have hc2:¬ (c:Int) = 1:=by omega
 have hc3:¬ c = 1:=by omega
 have r0:=x2.cell 0 _ rfl
 have r1:=x2.cell 1 _ rfl
 have r2:=x2.cell 2 _ rfl
 have g0:=x2.frz 0
 have g1:=x2.frz 1
 have g2:=x2.frz 2
 have hp1:p ≠ w.heap.size:=by omega
 have hp2:w.heap.size ≠ p:=by omega
 have ea:a.add 3 = ⟨a.block,a.off + 3,none⟩:=by simp [Addr.add]
 rw [ea] at hfin
 have HF:=Lib.hid hfin
 have HBX:=Lib.hid hbx
 have HX2:=Lib.hid x2
 have HB:=Lib.hid (b1.trans (b2.mono b1.size))
 have hs2:=b2.size
 clear hfin hbx x1 x2 b1 b2 hb h1
 go_wp2_with fail
 have y0:=HX2.out.cell 0 _ rfl
 have HW:Hid (Bk (((((w1.alloc (.cells #[.int .i64 k,.string ⟨tx.toArray⟩,.int .i64 i] 105 (0,0))).setCell ⟨p,0,none⟩ (.slice (some ⟨a.block,a.off + 3,none⟩) r.length (c - 1))).setCell ⟨w.heap.size,0,none⟩ (.int .i64 k)).setCell ⟨w.heap.size,1,none⟩ (.string ⟨tx.toArray⟩)).setCell ⟨w.heap.size,2,none⟩ (.int .i64 i)) w.heap.size #[.int .i64 k,.string ⟨tx.toArray⟩,.int .i64 i] 105):=Lib.hid ((((HX2.out.off hp2 _ _).s3 0 _).s3 1 _).s3 2 _)
 have z0:=HW.out.cell 0 _ rfl
 have z1:=HW.out.cell 1 _ rfl
 have z2:=HW.out.cell 2 _ rfl
 refine bodyPost_ret (v:=.agg #[.int .i64 k,.string ⟨tx.toArray⟩,.int .i64 i]) (by simp [results,Tryz.results115,go_sem,z0,z1,z2]) rfl ⟨rfl, ?_, ?_⟩
 ·refine HF.out _ ⟨rfl,rfl,rfl,by simp [World.setCell],fun g hg => ?_⟩ ((((HBX.out.s4 _).off hp1 _ _).off hp1 _ _).off hp1 _ _)
  rw [Below.heap_setCell _ _ _ _ (by simp; omega),Below.heap_setCell _ _ _ _ (by simp; omega),Below.heap_setCell _ _ _ _ (by simp; omega),Below.heap_setCell _ _ _ _ (by simp; omega)]
 ·exact ((((Tw.of HB.out).set 0 _).setNew (Nat.le_refl _) 0 _).setNew (Nat.le_refl _) 1 _).setNew (Nat.le_refl _) 2 _
end Go.Proofs.YthjoelpfmimedaaGreatDoor
namespace Go.Proofs.YthjoelpfmimedaaGreatDoor.K
open Go.RowKit
section
variable {P:Program} {ops:Array Oper} {n s:Nat} {Q:Exit → Act → World → Prop}
theorem any_mem {α:Type} {xs:Array α} {p : α → Bool} (h:xs.any p = true):∃ e,e ∈ xs ∧ p e = true:=by
 rw [← Array.any_toList,List.any_eq_true] at h
 obtain ⟨e,he,hp⟩:=h
 exact ⟨e,by simpa using he,hp⟩
def lowB (ops:Array Oper):Bool:=(List.range ops.size).all fun i => match ops[i]? with | none => true | some o => o.after.all fun e => !Region.binds .any e || decide (e.on < i)
theorem low_of (h:lowB ops = true) {i:Nat} {o:Oper} (ho:ops[i]? = some o):∀ e ∈ o.after,Region.binds .any e = true → e.on < i:=by
 intro e he hb
 have hi:i < ops.size:=(Array.getElem?_eq_some_iff.1 ho).1
 have:=List.all_eq_true.1 h i (List.mem_range.2 hi)
 rw [ho] at this
 have h2:=(Array.all_eq_true_iff_forall_mem.1 this) e he
 rw [hb] at h2
 simpa using h2
theorem zV6 (h:lowB ops = true) {L:Array Bool} (hr:Region.ready .any ops L = []):∀ i,i < ops.size → L.getD i true = true:=by
 intro i
 induction i using Nat.strongRecOn with
 | ind i ih =>
 intro hi
 cases q:L.getD i true with
 | true => rfl
 | false =>
   have hm:i ∈ Region.ready .any ops L:=mem_ready.2 ⟨q,ops[i],Array.getElem?_eq_getElem hi,fun e he hb => by
    have hl:=low_of h (Array.getElem?_eq_getElem hi) e he hb
    have:=ih e.on hl (by omega)
    have hs:e.on < L.size:=by
     rcases Nat.lt_or_ge e.on L.size with h' | h'
     ·exact h'
     ·exfalso
      have h2:i < L.size:=by
       rcases Nat.lt_or_ge i L.size with h3 | h3
       ·exact h3
       ·simp [Array.getD_eq_getD_getElem?,Array.getElem?_eq_none h3] at q
      omega
    rw [Array.getD_eq_getD_getElem?,Array.getElem?_eq_getElem hs] at this ⊢
    simpa using this⟩
   rw [hr] at hm
   cases hm
def unl (L:Array Bool):Nat:=L.toList.countP (fun b => !b)
theorem unl_set {L:Array Bool} {i:Nat} (h:L.getD i true = false):unl (L.setIfInBounds i true) + 1 = unl L:=by
 have hi:i < L.size:=by
  rcases Nat.lt_or_ge i L.size with h3 | h3
  ·exact h3
  ·simp [Array.getD_eq_getD_getElem?,Array.getElem?_eq_none h3] at h
 have hv:L[i] = false:=by simpa [Array.getD_eq_getD_getElem?,Array.getElem?_eq_getElem hi] using h
 unfold unl
 rw [Array.toList_setIfInBounds,List.countP_set (by simpa using hi)]
 have hp:0 < L.toList.countP (fun b => !b):=List.countP_pos_iff.2 ⟨L[i],by simp,by simp [hv]⟩
 rw [show L.toList[i]'(by simpa using hi) = false from by simpa using hv]
 simp only [Bool.not_false,Bool.not_true,if_true,Bool.false_eq_true,if_false]
 omega
theorem unl_zero {L:Array Bool} (h:unl L = 0) (i:Nat):L.getD i true = true:=by
 unfold unl at h
 rw [List.countP_eq_zero] at h
 rcases Nat.lt_or_ge i L.size with h3 | h3
 ·have:=h L[i] (by simp)
  rw [Array.getD_eq_getD_getElem?,Array.getElem?_eq_getElem h3]
  simpa using this
 ·simp [Array.getD_eq_getD_getElem?,Array.getElem?_eq_none h3]
theorem yf4 (hl:lowB ops = true) (I:Array Bool → Act → World → Prop)
  (hstep:∀ L a w i,L.size = ops.size → I L a w → i ∈ Region.ready .any ops L → wpOp P ops Q i (I (L.setIfInBounds i true)) a w)
  (hend:∀ L a w,L.size = ops.size → (∀ i,i < ops.size → L.getD i true = true) → I L a w → Q .normal a w) :
  ∀ (fuel:Nat) (L:Array Bool) (a:Act) (w:World),L.size = ops.size → unl L ≤ fuel → I L a w → wpAny P .any ops Q fuel L a w
 | 0,L,a,w,hs,hu,h => by
   have hz:=unl_zero (L:=L) (by omega)
   refine ⟨?_,hend L a w hs (fun i _ => hz i) h⟩
   cases hr:Region.ready .any ops L with
   | nil => rfl
   | cons i r =>
     have:=(mem_ready.1 (show i ∈ Region.ready .any ops L by rw [hr]; simp)).1
     rw [hz i] at this; cases this
 | fuel + 1,L,a,w,hs,hu,h => by
   refine ⟨fun hr => hend L a w hs (zV6 hl hr) h,fun i hi => ?_⟩
   refine wpOp_mono (fun a' w' h' => ?_) (hstep L a w i hs h hi)
   exact yf4 hl I hstep hend fuel _ a' w' (by simpa using hs) (by have:=unl_set (mem_ready.1 hi).1; omega) h'
theorem zo8 (hm:P.follows .mixedOrders = true) {id:Nat} {a:Act} {w:World} (hl:lowB ops = true) (I:Array Bool → Act → World → Prop)
  (h0:I (Array.replicate ops.size false) a w.drew)
  (hstep:∀ L a w i,L.size = ops.size → I L a w → i ∈ Region.ready .any ops L → wpOp P ops Q i (I (L.setIfInBounds i true)) a w)
  (hend:∀ L a w,L.size = ops.size → (∀ i,i < ops.size → L.getD i true = true) → I L a w → Q .normal a w):(Code.region id ops true).wp P Q a w :=
 wp_region_any hm (yf4 hl I hstep hend ops.size _ a _ (by simp) (by unfold unl; simp only [Array.toList_replicate,List.countP_replicate]; simp) h0)
def dstOf (ops:Array Oper) (i:Nat):Option Tmp:=(ops[i]?).bind (·.dst)
def vof (ops:Array Oper) (a:Act) (i:Nat):Value:=match dstOf ops i with | some d => a.tmps.getD d undef | none => undef
def dstB (ops:Array Oper) (n s:Nat):Bool:=(List.range ops.size).all fun i => (match dstOf ops i with | some d => decide (d < n) && decide (i ≠ s) | none => decide (i = s)) && (List.range ops.size).all fun j => decide (i = j) || decide (dstOf ops i ≠ dstOf ops j) || decide (dstOf ops i = none)
theorem dst_in (h:dstB ops n s = true) {i d:Nat} (hd:dstOf ops i = some d):d < n:=by
 have hi:i < ops.size:=by
  rcases Nat.lt_or_ge i ops.size with h' | h'
  ·exact h'
  ·simp [dstOf,Array.getElem?_eq_none h'] at hd
 have:=List.all_eq_true.1 h i (List.mem_range.2 hi)
 rw [hd,Bool.and_eq_true,Bool.and_eq_true] at this
 simpa using this.1.1
theorem dst_nes (h:dstB ops n s = true) {i d:Nat} (hd:dstOf ops i = some d):i ≠ s:=by
 have hi:i < ops.size:=by
  rcases Nat.lt_or_ge i ops.size with h' | h'
  ·exact h'
  ·simp [dstOf,Array.getElem?_eq_none h'] at hd
 have:=List.all_eq_true.1 h i (List.mem_range.2 hi)
 rw [hd,Bool.and_eq_true,Bool.and_eq_true] at this
 simpa using this.1.2
theorem dst_some (h:dstB ops n s = true) {i:Nat} (hi:i < ops.size) (hs:i ≠ s):∃ d,dstOf ops i = some d:=by
 have:=List.all_eq_true.1 h i (List.mem_range.2 hi)
 rw [Bool.and_eq_true] at this
 cases q:dstOf ops i with
 | some d => exact ⟨d,rfl⟩
 | none => rw [q] at this; exact absurd (by simpa using this.1) hs
theorem dst_ne (h:dstB ops n s = true) {i j d:Nat} (hd:dstOf ops i = some d) (hj:dstOf ops j = some d):i = j:=by
 have hi:i < ops.size:=by
  rcases Nat.lt_or_ge i ops.size with h' | h'
  ·exact h'
  ·simp [dstOf,Array.getElem?_eq_none h'] at hd
 have hj':j < ops.size:=by
  rcases Nat.lt_or_ge j ops.size with h' | h'
  ·exact h'
  ·simp [dstOf,Array.getElem?_eq_none h'] at hj
 have:=List.all_eq_true.1 h i (List.mem_range.2 hi)
 rw [Bool.and_eq_true] at this
 have:=List.all_eq_true.1 this.2 j (List.mem_range.2 hj')
 rw [hd,hj] at this
 simpa using this
def Fr (ops:Array Oper) (a0 a:Act):Prop:=a.defers = a0.defers ∧ a.tmps.size = a0.tmps.size ∧ ∀ k,(∀ i,dstOf ops i ≠ some k) → a.tmps[k]? = a0.tmps[k]?
theorem Fr.put {a0 a:Act} (h:Fr ops a0 a) {i:Nat} {o:Oper} (ho:ops[i]? = some o) (v:Value):Fr ops a0 (a.put o.dst v):=by
 obtain ⟨h1,h2,h3⟩:=h
 cases q:o.dst with
 | none => exact ⟨h1,h2,h3⟩
 | some d =>
   refine ⟨h1,by simpa [Act.put] using h2,fun k hk => ?_⟩
   have hne:d ≠ k:=fun e => hk i (by simp [dstOf,ho,q,e])
   simp only [Act.put]
   rw [Array.getElem?_setIfInBounds_ne hne]
   exact h3 k hk
theorem zY4 {a0 a:Act} (hb:dstB ops a0.tmps.size s = true) (h:Fr ops a0 a) {i j:Nat} {o:Oper} (ho:ops[i]? = some o) (v:Value):vof ops (a.put o.dst v) j = if i = j ∧ i ≠ s then v else vof ops a j:=by
 unfold vof
 have hdi:dstOf ops i = o.dst:=by simp [dstOf,ho]
 have hil:i < ops.size:=(Array.getElem?_eq_some_iff.1 ho).1
 cases q:dstOf ops j with
 | none =>
   rw [if_neg]
   rintro ⟨rfl,hs⟩
   obtain ⟨d,hd⟩:=dst_some hb hil hs
   rw [hd] at q; cases q
 | some d =>
   simp only
   cases qi:o.dst with
   | none =>
     rw [if_neg]
     ·rfl
     ·rintro ⟨rfl,_⟩
      rw [hdi,qi] at q; cases q
   | some d' =>
     simp only [Act.put]
     by_cases e:d' = d
     ·subst e
      have hij:=dst_ne hb (hdi.trans qi) q
      have hs:d' < a.tmps.size:=by rw [h.2.1]; exact dst_in hb q
      subst hij
      rw [if_pos ⟨rfl,dst_nes hb q⟩]
      simp [Array.getD_eq_getD_getElem?,hs]
     ·rw [if_neg]
      ·simp only [Array.getD_eq_getD_getElem?]
       rw [Array.getElem?_setIfInBounds_ne e]
      ·rintro ⟨rfl,_⟩
       rw [hdi,qi] at q
       exact e (by injection q)
def Runs (P:Program) (ops:Array Oper) (Q:Exit → Act → World → Prop) (o:Oper) (a:Act) (w:World) (R:Value → World → Prop):Prop :=
 Region.wanted o (yielded ops a.tmps) = true ∧ o.wp P a w (fun a' w' => ∃ v,a' = a.put o.dst v ∧ R v w') Q
end
def over (a0:Act) (ds:List Tmp) (f:Tmp → Value):Act:=ds.foldl (fun a d => a.put (some d) (f d)) a0
theorem yd8 (ds:List Tmp) (f:Tmp → Value):∀ a0:Act,(over a0 ds f).tmps.size = a0.tmps.size ∧ (over a0 ds f).defers = a0.defers:=by
 induction ds with
 | nil => intro a0; exact ⟨rfl,rfl⟩
 | cons d r ih => intro a0; have:=ih (a0.put (some d) (f d)); simpa [over,Act.put] using this
theorem over_get (ds:List Tmp) (f:Tmp → Value):∀ (a0:Act) (k:Nat),(over a0 ds f).tmps[k]? = if k ∈ ds ∧ k < a0.tmps.size then some (f k) else a0.tmps[k]?:=by
 induction ds with
 | nil => intro a0 k; simp [over]
 | cons d r ih =>
   intro a0 k
   have:=ih (a0.put (some d) (f d)) k
   rw [show over a0 (d :: r) f = over (a0.put (some d) (f d)) r f from rfl,this]
   simp only [Act.put,Array.size_setIfInBounds,List.mem_cons]
   by_cases h1:k ∈ r ∧ k < a0.tmps.size
   ·rw [if_pos h1,if_pos ⟨.inr h1.1,h1.2⟩]
   ·rw [if_neg h1]
    by_cases e:d = k
    ·subst e
     by_cases h2:d < a0.tmps.size
     ·rw [if_pos ⟨.inl rfl,h2⟩]; simp [h2]
     ·have h4:a0.tmps.size ≤ d:=Nat.le_of_not_lt h2
      rw [if_neg (fun h => h2 h.2),Array.getElem?_eq_none (by simpa using h4),Array.getElem?_eq_none h4]
    ·rw [Array.getElem?_setIfInBounds_ne e,if_neg]
     rintro ⟨h | h,h2⟩
     ·exact e h.symm
     ·exact h1 ⟨h,h2⟩
theorem over_of {ops:Array Oper} {a0 a:Act} (h:Fr ops a0 a) (ds:List Tmp) (hd:∀ i k,dstOf ops i = some k → k ∈ ds):a = over a0 ds (fun d => a.tmps.getD d undef):=by
 obtain ⟨h1,h2,h3⟩:=h
 obtain ⟨s1,s2⟩:=yd8 ds (fun d => a.tmps.getD d undef) a0
 have ht:a.tmps = (over a0 ds (fun d => a.tmps.getD d undef)).tmps:=by
  apply Array.ext_getElem?
  intro k
  rw [over_get]
  by_cases hk:k ∈ ds ∧ k < a0.tmps.size
  ·rw [if_pos hk,Array.getD_eq_getD_getElem?,Array.getElem?_eq_getElem (by omega)]; rfl
  ·rw [if_neg hk]
   by_cases hm:k ∈ ds
   ·have h4:a0.tmps.size ≤ k:=by
     rcases Nat.lt_or_ge k a0.tmps.size with h | h
     ·exact absurd ⟨hm,h⟩ hk
     ·exact h
    rw [Array.getElem?_eq_none (by omega),Array.getElem?_eq_none h4]
   ·exact h3 k (fun i e => hm (hd i k e))
 cases a
 generalize over _ _ _ = o at *
 cases o
 simp_all
theorem Fr.slot {ops:Array Oper} {a0 a:Act} (h:Fr ops a0 a) (k:Nat) (hk:((List.range ops.size).all fun i => decide (dstOf ops i ≠ some k)) = true):a.tmps.getD k undef = a0.tmps.getD k undef:=by
 rw [Array.getD_eq_getD_getElem?,Array.getD_eq_getD_getElem?,h.2.2 k]
 intro i e
 have hi:i < ops.size:=by
  rcases Nat.lt_or_ge i ops.size with h' | h'
  ·exact h'
  ·simp [dstOf,Array.getElem?_eq_none h'] at e
 have:=List.all_eq_true.1 hk i (List.mem_range.2 hi)
 exact (of_decide_eq_true this) e
theorem zI1 {P:Program} {ops:Array Oper} {Q:Exit → Act → World → Prop} {o:Oper} {a:Act} {w:World} {R:Value → World → Prop} (hw:Region.wanted o (yielded ops a.tmps) = true) (f:FuncId) (xs:Array Operand) (ts:Array TypeId)
  (ho:o.op = .call { callee:=.value (.func f),args:=xs,argTypes:=ts }) (hen:∀ (args:Array Value) (w:World),(callFunc f args).run P w = .ok (.enter f args) w) (vs:Array Value) (hx:xs.map a.eval = vs)
  (hc:Calls P f vs w fun e w' => ∃ v,e = .returned v ∧ R v w'):Runs P ops Q o a w R:=by
 refine ⟨hw, ?_⟩
 unfold Oper.wp
 have he:(execOp a.eval o).run P w = .ok (.enter f vs) w:=by
  simp [execOp,ho,go_sem,hx,hen]
 rw [he]
 exact hc.mono fun e w' ⟨v,hv,hr⟩ => by subst hv; exact ⟨v,rfl,hr⟩
theorem za9 {P:Program} {ops:Array Oper} {Q:Exit → Act → World → Prop} {o:Oper} {a:Act} {w w':World} {v:Value} {R:Value → World → Prop} (hw:Region.wanted o (yielded ops a.tmps) = true)
  (he:(execOp a.eval o).run P w = .ok (.value v) w') (h:R v w'):Runs P ops Q o a w R:=by
 refine ⟨hw, ?_⟩
 unfold Oper.wp
 rw [he]
 exact ⟨v,rfl,h⟩
theorem zv2 {P:Program} {ops:Array Oper} {Q:Exit → Act → World → Prop} {o:Oper} {a:Act} {w w':World} {R:Value → World → Prop} (hw:Region.wanted o (yielded ops a.tmps) = true)
  (he:(execOp a.eval o).run P w = .ok .skip w') (h:R undef w'):Runs P ops Q o a w R:=by
 refine ⟨hw, ?_⟩
 unfold Oper.wp
 rw [he]
 exact ⟨undef,rfl,h⟩
theorem map1 {α β:Type} (f : α → β) (x : α):(#[x]:Array α).map f = #[f x]:=by simp
theorem map2 {α β:Type} (f : α → β) (x y : α):(#[x,y]:Array α).map f = #[f x,f y]:=by simp
structure Fact where
 R:Value → World → Prop
 pers:∀ v w w',R v w → Below w.heap.size w w' → R v w'
def Fact.is (v:Value):Fact:=⟨fun u _ => u = v,fun _ _ _ h _ => h⟩
def Fact.any:Fact:=⟨fun _ _ => True,fun _ _ _ _ _ => trivial⟩
section
variable {P:Program} {ops:Array Oper} {Q:Exit → Act → World → Prop}
def dstsB (ops:Array Oper) (ds:List Tmp):Bool:=(List.range ops.size).all fun i => match dstOf ops i with | none => true | some d => ds.contains d
theorem zh3 {a0 a:Act} (h:Fr ops a0 a) (ds:List Tmp) (hd:dstsB ops ds = true):a = over a0 ds (fun d => a.tmps.getD d undef):=by
 refine over_of h ds fun i k hk => ?_
 have hi:i < ops.size:=by
  rcases Nat.lt_or_ge i ops.size with h' | h'
  ·exact h'
  ·rw [dstOf,Array.getElem?_eq_none h'] at hk; cases hk
 have:=List.all_eq_true.1 hd i (List.mem_range.2 hi)
 rw [hk] at this
 simpa using this
end
section
variable {ops:Array Oper} {Q:Exit → Act → World → Prop} {o:Oper} {a:Act} {w:World} {R:Value → World → Prop}
theorem rc_neq (hw:Region.wanted o (yielded ops a.tmps) = true) (x y:Operand) {n m:Int} {b:Bool}
  (ho:o.op = .binOp .neq 3 x y 3) (hx:a.eval x = .int .i64 n) (hy:a.eval y = .int .i64 m) (hc:(n != m) = b) (h:R (.bool b) w):Runs Tryz.prog ops Q o a w R :=
 za9 hw (by generalize a.eval = ρ at hx hy; subst hc; simp [execOp,ho,go_sem,hx,hy]) h
end
end Go.Proofs.YthjoelpfmimedaaGreatDoor.K
namespace Go.Proofs.YthjoelpfmimedaaGreatDoor.K
open Go.RowKit
def coverB (ops:Array Oper) (k:Nat):Bool:=(List.range k).all fun i => (List.range (k + 1)).any fun j => decide (i < j) && (match ops[j]? with | none => false | some o => o.after.any fun e => Region.binds .any e && decide (e.on = i))
theorem zF9 {ops:Array Oper} {k:Nat} (h:coverB ops k = true) {d:Nat → Bool} (hc:∀ i o,ops[i]? = some o → (d i = true ∨ i = k) → ∀ e ∈ o.after,Region.binds .any e = true → d e.on = true):∀ (n i:Nat),k - i ≤ n → i < k → d i = true
 | 0,i,hn,hi => by omega
 | n + 1,i,hn,hi => by
   have h1:=List.all_eq_true.1 h i (List.mem_range.2 hi)
   obtain ⟨j,hj,h2⟩:=List.any_eq_true.1 h1
   rw [Bool.and_eq_true,decide_eq_true_eq] at h2
   obtain ⟨hij,h3⟩:=h2
   have hjk:=List.mem_range.1 hj
   cases ho:ops[j]? with
   | none => rw [ho] at h3; cases h3
   | some o =>
     rw [ho] at h3
     obtain ⟨e,he,h4⟩:=any_mem h3
     rw [Bool.and_eq_true,decide_eq_true_eq] at h4
     rw [← h4.2]
     refine hc j o ho ?_ e he h4.1
     by_cases hjk2:j = k
     ·exact .inr hjk2
     ·exact .inl (zF9 h hc n j (by omega) (by omega))
structure LJ (ops:Array Oper) (k:Nat) (F:List Fact) (W0:World) (C:Value → World → Prop) (d:Nat → Bool) (v:Nat → Value) (w:World):Prop where
 cl:∀ i o,ops[i]? = some o → d i = true → ∀ e ∈ o.after,Region.binds .any e = true → d e.on = true
 pre:d k = false → Below W0.heap.size W0 w ∧ ∀ i,i < k → d i = true → (F.getD i Fact.any).R (v i) w
 post:d k = true → C (v k) w ∧ (d (k + 1) = true → v (k + 1) = v k)
theorem zc4 {P:Program} {ops:Array Oper} {Q:Exit → Act → World → Prop} (hm:P.follows .mixedOrders = true) {id:Nat} {a0:Act} {W0:World} (hl:lowB ops = true) (hb:dstB ops a0.tmps.size ops.size = true) (k:Nat) (hk:coverB ops k = true) (hk2:ops.size ≤ k + 2) (hk1:k < ops.size)
  (hk3:∀ o,ops[k + 1]? = some o → ∃ e ∈ o.after,Region.binds .any e = true ∧ e.on = k) (F:List Fact) (C:Value → World → Prop)
  (hop:∀ i o,ops[i]? = some o → i < k → ∀ a w,Fr ops a0 a → Below W0.heap.size W0 w → (∀ e ∈ o.after,Region.binds .any e = true → (F.getD e.on Fact.any).R (vof ops a e.on) w) → Runs P ops Q o a w fun v w' => Below w.heap.size w w' ∧ (F.getD i Fact.any).R v w')
  (hcall:∀ o,ops[k]? = some o → ∀ a w,Fr ops a0 a → Below W0.heap.size W0 w → (∀ i,i < k → (F.getD i Fact.any).R (vof ops a i) w) → Runs P ops Q o a w C)
  (hass:∀ o,ops[k + 1]? = some o → ∀ a w,Fr ops a0 a → C (vof ops a k) w → Runs P ops Q o a w fun v w' => w' = w ∧ v = vof ops a k)
  (hend:∀ a w,Fr ops a0 a → C (vof ops a k) w → (k + 1 < ops.size → vof ops a (k + 1) = vof ops a k) → Q .normal a w) :
  (Code.region id ops true).wp P Q a0 W0:=by
 refine zo8 hm hl (fun L a w => Fr ops a0 a ∧ LJ ops k F W0 C (fun j => L.getD j false) (fun j => vof ops a j) w) ?_ ?_ ?_
 ·have hz:∀ i,(Array.replicate ops.size false).getD i false = false:=fun i => by
   rw [Array.getD_eq_getD_getElem?,Array.getElem?_replicate]; split <;> rfl
  exact ⟨⟨rfl,rfl,fun _ _ => rfl⟩,⟨fun i _ _ h => (by rw [hz i] at h; cases h),fun _ => ⟨(Below.refl _ _).drew,fun i _ h => (by rw [hz i] at h; cases h)⟩,fun h => (by rw [hz k] at h; cases h)⟩⟩
 ·intro L a w i hs ⟨hf,hJ⟩ hi
  obtain ⟨h0,o,ho,hall⟩:=mem_ready.1 hi
  have hil:i < ops.size:=(Array.getElem?_eq_some_iff.1 ho).1
  have hLi:i < L.size:=by omega
  have hset:∀ j,(L.setIfInBounds i true).getD j false = if i = j then true else L.getD j false:=fun j => by
   by_cases e:i = j
   ·subst e; rw [if_pos rfl]; simp [Array.getD_eq_getD_getElem?,hLi]
   ·rw [if_neg e,Array.getD_eq_getD_getElem?,Array.getD_eq_getD_getElem?,Array.getElem?_setIfInBounds_ne e]
  have hi0:L.getD i false = false:=by
   rw [Array.getD_eq_getD_getElem?,Array.getElem?_eq_getElem hLi] at h0 ⊢; simpa using h0
  have hv:∀ (u:Value) j,vof ops (a.put o.dst u) j = if i = j then u else vof ops a j:=fun u j => by
   rw [zY4 hb hf ho u]
   by_cases e:i = j
   ·rw [if_pos ⟨e,by omega⟩,if_pos e]
   ·rw [if_neg (fun h => e h.1),if_neg e]
  have hcl2:∀ i' o',ops[i']? = some o' → (L.setIfInBounds i true).getD i' false = true → ∀ e ∈ o'.after,Region.binds .any e = true → (L.setIfInBounds i true).getD e.on false = true:=by
   intro i' o' ho' hd e he hbd
   rw [hset] at hd ⊢
   split
   ·rfl
   ·by_cases e2:i = i'
    ·subst e2; rw [ho] at ho'; cases ho'; exact hall e he hbd
    ·rw [if_neg e2] at hd; exact hJ.cl i' o' ho' hd e he hbd
  have wrap:∀ (K:Act → World → Prop),(Region.wanted o (yielded ops a.tmps) = true ∧ o.wp P a w K Q) → wpOp P ops Q i K a w:=fun K h => by
   unfold wpOp; rw [ho]; simp only [h.1,if_true]; exact .inl h.2
  by_cases e1:i < k
  ·have hkf:L.getD k false = false:=by
    cases hh:L.getD k false with
    | false => rfl
    | true =>
      have:=zF9 hk (d:=fun j => L.getD j false) (fun i' o' ho' h e he hbd => by
       rcases h with h | rfl
       ·exact hJ.cl i' o' ho' h e he hbd
       ·exact hJ.cl _ o' ho' hh e he hbd) _ i (Nat.le_refl _) e1
      rw [hi0] at this; cases this
   obtain ⟨hbl,hG⟩:=hJ.pre hkf
   obtain ⟨hw,hr⟩:=hop i o ho e1 a w hf hbl (fun e he hbd => hG _ (Nat.lt_trans (low_of hl ho e he hbd) e1) (hall e he hbd))
   refine wrap _ ⟨hw,Oper.wp_mono (fun a' w' ⟨v,e,hb2,hv2⟩ => ?_) hr⟩
   subst e
   refine ⟨hf.put ho v,⟨hcl2,fun _ => ⟨hbl.trans (hb2.mono hbl.size),fun j hj hd => ?_⟩,fun hd => ?_⟩⟩
   ·rw [hv]
    rw [hset] at hd
    by_cases e:i = j
    ·subst e; rw [if_pos rfl]; exact hv2
    ·rw [if_neg e] at hd; rw [if_neg e]; exact (F.getD j Fact.any).pers _ _ _ (hG j hj hd) hb2
   ·simp only [hset] at hd
    rw [if_neg (by omega),hkf] at hd; cases hd
  by_cases e2:i = k
  ·subst e2
   obtain ⟨hbl,hG⟩:=hJ.pre hi0
   have hallk:=zF9 hk (d:=fun j => L.getD j false) (fun i' o' ho' h e he hbd => by
    rcases h with h | rfl
    ·exact hJ.cl i' o' ho' h e he hbd
    ·rw [ho] at ho'; cases ho'; exact hall e he hbd)
   obtain ⟨hw,hr⟩:=hcall o ho a w hf hbl (fun j hj => hG j hj (hallk _ j (Nat.le_refl _) hj))
   refine wrap _ ⟨hw,Oper.wp_mono (fun a' w' ⟨v,e,hv2⟩ => ?_) hr⟩
   subst e
   refine ⟨hf.put ho v,⟨hcl2,fun hd => ?_,fun _ => ⟨by rw [hv,if_pos rfl]; exact hv2,fun hd => ?_⟩⟩⟩
   ·simp only [hset,if_true] at hd; cases hd
   ·simp only [hset] at hd
    rw [if_neg (by omega)] at hd
    cases ho1:ops[i + 1]? with
    | none =>
      have hn:L.size ≤ i + 1:=by rw [hs]; exact Array.getElem?_eq_none_iff.1 ho1
      rw [Array.getD_eq_getD_getElem?,Array.getElem?_eq_none hn] at hd; cases hd
    | some o1 =>
      obtain ⟨e,he,hbd,hon⟩:=hk3 o1 ho1
      have:=hJ.cl (i + 1) o1 ho1 hd e he hbd
      simp only [hon] at this
      rw [hi0] at this; cases this
  ·obtain rfl:i = k + 1:=by omega
   obtain ⟨e,he,hbd,hon⟩:=hk3 o ho
   have hkt:L.getD k false = true:=hon ▸ hall e he hbd
   obtain ⟨hC,_⟩:=hJ.post hkt
   obtain ⟨hw,hr⟩:=hass o ho a w hf hC
   refine wrap _ ⟨hw,Oper.wp_mono (fun a' w' ⟨v,e,e5,hv2⟩ => ?_) hr⟩
   subst e; subst e5
   refine ⟨hf.put ho v,⟨hcl2,fun hd => ?_,fun _ => ⟨by rw [hv,if_neg (by omega)]; exact hC,fun _ => by rw [hv,hv,if_pos rfl,if_neg (by omega)]; exact hv2⟩⟩⟩
   simp only [hset] at hd
   rw [if_neg (by omega),hkt] at hd; cases hd
 ·intro L a w hs hall ⟨hf,hJ⟩
  have hd:∀ i,i < ops.size → L.getD i false = true:=fun i hi => by
   have:=hall i hi
   rw [Array.getD_eq_getD_getElem?,Array.getElem?_eq_getElem (by omega)] at this ⊢; simpa using this
  obtain ⟨hC,h1⟩:=hJ.post (hd k hk1)
  exact hend a w hf hC fun h => h1 (hd _ h)
end Go.Proofs.YthjoelpfmimedaaGreatDoor.K
