
/-
 Texts joined: NG NH NP NT10 NT11 NT12 Law07s.
-/
import Derived.Test.YtfgelheiknmjgaaGreatDoorZs45
import Derived.Test.YtfgelheiknmjgaaGreatDoorZs8
import Derived.Test.YtfgelheiknmjgaaGreatDoorZs30
import Derived.Test.YtfgelheiknmjgaaGreatDoorZs29
import Derived.Test.YtfgelheiknmjgaaGreatDoorZs32
import Derived.Test.YtfgelheiknmjgaaGreatDoorZs33
import Derived.Test.YtfgelheiknmjgaaGreatDoorZs36
import Derived.Test.YtfgelheiknmjgaaGreatDoorZs38
import Derived.Test.YtfgelheiknmjgaaGreatDoorZs39
namespace Go.Proofs.YtfgelheiknmjgaaGreatDoor
open Go.RowKit
def exF:FldT:=⟨⟨#[120]⟩,[],⟨#[73,110,116]⟩,[],[]⟩
def exD:DefT:=⟨1,⟨#[84]⟩,[],[],[exF],[],[]⟩
theorem zt9 {α:Type} (k bytes:Nat) (R:World → Nat → (Nat → Value) → α → Prop) (W:World) (B:Nat):Sl k bytes R W B (.slice none 0 0) ([]:List α) :=
 ⟨none,0,rfl,Nat.le_refl _,by simp,fun _ _ => undef,fun h => absurd h (by simp),fun i x h => by simp at h⟩
theorem one_sl {α:Type} (k bytes:Nat) (R:World → Nat → (Nat → Value) → α → Prop) (W:World) (B g:Nat) (x : α) (cs:Array Value) (T:TypeId) (hb:bytes ≤ big) (hg:g < B) (hk:Bk W g cs T) (hs:cs.size = k) (hr:R W B (fun j => cs.getD j undef) x):Sl k bytes R W B (.slice (some ⟨g,0,none⟩) 1 1) [x]:=by
 refine ⟨_,1,rfl,Nat.le_refl _,by simpa using hb,fun _ j => cs.getD j undef,fun _ => ⟨_,rfl,hg,fun i hi j hj => ?_⟩,fun i y hy => ?_⟩
 ·obtain rfl:i = 0:=by simpa using hi
  have h1:=hk.cell j (cs.getD j undef) (by rw [Array.getD_eq_getD_getElem?,Array.getElem?_eq_getElem (by omega)]; rfl)
  rw [Nat.zero_mul]
  cases j with
  | zero => exact h1
  | succ j => simpa [at_,Addr.add] using h1
 ·cases i with
  | zero => simp at hy; subst hy; exact hr
  | succ i => simp at hy
theorem ex_defs (W:World) (B g d:Nat) (hg:g < B) (hd:d < B) (h1:Bk W g #[.string ⟨#[120]⟩,.slice none 0 0,.string ⟨#[73,110,116]⟩,.slice none 0 0,.slice none 0 0] 46)
  (h2:Bk W d #[.int .i64 1,.string ⟨#[84]⟩,.slice none 0 0,.slice none 0 0,.slice (some ⟨g,0,none⟩) 1 1,.slice none 0 0,.slice none 0 0] 39):DefsR W B (.slice (some ⟨d,0,none⟩) 1 1) [exD]:=by
 refine one_sl 7 144 DefR W B d exD _ _ (by decide) hd h2 rfl ?_
 refine ⟨rfl,⟨by decide,by decide⟩,rfl,by decide,zt9 _ _ _ _ _,zt9 _ _ _ _ _, ?_,zt9 _ _ _ _ _,zt9 _ _ _ _ _⟩
 refine one_sl 5 104 FldR W B g exF _ _ (by decide) hg h1 rfl ?_
 exact ⟨rfl,by decide,zt9 _ _ _ _ _,⟨rfl,by decide,zt9 _ _ _ _ _⟩,zt9 _ _ _ _ _⟩
theorem ex_fit:∀ x ∈ [exD],zw1 x:=by
 intro x hx
 obtain rfl:x = exD:=by simpa using hx
 refine ⟨by decide, ?_, ?_, ?_, ?_⟩
 ·intro d hd; cases hd
 ·intro y hy
  obtain rfl:y = exF:=by simpa [exD] using hy
  refine ⟨⟨by decide,by decide⟩, ?_, ?_⟩
  ·intro y hy; cases hy
  ·intro y hy; cases hy
 ·intro y hy; cases hy
 ·intro y hy; cases hy
theorem LaidB.mono {B B':Nat} {w:World} (h:LaidB B w) (hb:B ≤ B'):LaidB B' w:=fun w' h' => h w' (h'.mono hb)
theorem zR2:zh7 [exD] = [116,121,112,101,32,84,32,123,10,32,32,120,58,32,73,110,116,10,125,10]:=by decide
theorem zR1:(VT.mk 3 0 ⟨#[97]⟩ [] []).src = [34,97,34]:=by decide
theorem ex_vfit:(VT.mk 3 0 ⟨#[97]⟩ [] []).fit:=by
 rw [VT.fit]
 exact ⟨by decide,fun h => absurd h (by decide),fun h => absurd h (by decide),fun h => absurd h (by decide),by decide,trivial⟩
set_option maxRecDepth 100000 in
set_option maxHeartbeats 4000000 in
theorem zB9 (w:World) (hL:LaidB w.heap.size w):Calls Tryz.prog 15 #[] w fun e w' => e = .returned (.bool true) ∧ Below w.heap.size w w':=by
 have z1:(w.alloc (.cells #[.string ⟨#[120]⟩,.slice none 0 0,.string ⟨#[73,110,116]⟩,.slice none 0 0,.slice none 0 0] 46 (0,0))).heap.size = w.heap.size + 1:=by simp
 have z2:((w.alloc (.cells #[.string ⟨#[120]⟩,.slice none 0 0,.string ⟨#[73,110,116]⟩,.slice none 0 0,.slice none 0 0] 46 (0,0))).alloc (.cells #[.int .i64 1,.string ⟨#[84]⟩,.slice none 0 0,.slice none 0 0,.slice (some ⟨w.heap.size,0,none⟩) 1 1,.slice none 0 0,.slice none 0 0] 39 (0,0))).heap.size = w.heap.size + 2:=by simp
 have z3:(((w.alloc (.cells #[.string ⟨#[120]⟩,.slice none 0 0,.string ⟨#[73,110,116]⟩,.slice none 0 0,.slice none 0 0] 46 (0,0))).alloc (.cells #[.int .i64 1,.string ⟨#[84]⟩,.slice none 0 0,.slice none 0 0,.slice (some ⟨w.heap.size,0,none⟩) 1 1,.slice none 0 0,.slice none 0 0] 39 (0,0))).alloc (.cells #[.slice (some ⟨w.heap.size + 1,0,none⟩) 1 1] 24 (0,0))).heap.size = w.heap.size + 3:=by simp
 have b1:Below w.heap.size w (w.alloc (.cells #[.string ⟨#[120]⟩,.slice none 0 0,.string ⟨#[73,110,116]⟩,.slice none 0 0,.slice none 0 0] 46 (0,0))):=za0 _ _
 have b2:Below w.heap.size w ((w.alloc (.cells #[.string ⟨#[120]⟩,.slice none 0 0,.string ⟨#[73,110,116]⟩,.slice none 0 0,.slice none 0 0] 46 (0,0))).alloc (.cells #[.int .i64 1,.string ⟨#[84]⟩,.slice none 0 0,.slice none 0 0,.slice (some ⟨w.heap.size,0,none⟩) 1 1,.slice none 0 0,.slice none 0 0] 39 (0,0))):=b1.alloc (by omega) _
 have b3:Below w.heap.size w (((w.alloc (.cells #[.string ⟨#[120]⟩,.slice none 0 0,.string ⟨#[73,110,116]⟩,.slice none 0 0,.slice none 0 0] 46 (0,0))).alloc (.cells #[.int .i64 1,.string ⟨#[84]⟩,.slice none 0 0,.slice none 0 0,.slice (some ⟨w.heap.size,0,none⟩) 1 1,.slice none 0 0,.slice none 0 0] 39 (0,0))).alloc (.cells #[.slice (some ⟨w.heap.size + 1,0,none⟩) 1 1] 24 (0,0))):=b2.alloc (by omega) _
 have h1:Bk (((w.alloc (.cells #[.string ⟨#[120]⟩,.slice none 0 0,.string ⟨#[73,110,116]⟩,.slice none 0 0,.slice none 0 0] 46 (0,0))).alloc (.cells #[.int .i64 1,.string ⟨#[84]⟩,.slice none 0 0,.slice none 0 0,.slice (some ⟨w.heap.size,0,none⟩) 1 1,.slice none 0 0,.slice none 0 0] 39 (0,0))).alloc (.cells #[.slice (some ⟨w.heap.size + 1,0,none⟩) 1 1] 24 (0,0))) w.heap.size #[.string ⟨#[120]⟩,.slice none 0 0,.string ⟨#[73,110,116]⟩,.slice none 0 0,.slice none 0 0] 46 := ((Bk.new w #[.string ⟨#[120]⟩,.slice none 0 0,.string ⟨#[73,110,116]⟩,.slice none 0 0,.slice none 0 0] 46).stay (za0 _ _)).stay (za0 _ _)
 have h2:Bk (((w.alloc (.cells #[.string ⟨#[120]⟩,.slice none 0 0,.string ⟨#[73,110,116]⟩,.slice none 0 0,.slice none 0 0] 46 (0,0))).alloc (.cells #[.int .i64 1,.string ⟨#[84]⟩,.slice none 0 0,.slice none 0 0,.slice (some ⟨w.heap.size,0,none⟩) 1 1,.slice none 0 0,.slice none 0 0] 39 (0,0))).alloc (.cells #[.slice (some ⟨w.heap.size + 1,0,none⟩) 1 1] 24 (0,0))) (w.heap.size + 1) #[.int .i64 1,.string ⟨#[84]⟩,.slice none 0 0,.slice none 0 0,.slice (some ⟨w.heap.size,0,none⟩) 1 1,.slice none 0 0,.slice none 0 0] 39 := by
  have h:=(Bk.new (w.alloc (.cells #[.string ⟨#[120]⟩,.slice none 0 0,.string ⟨#[73,110,116]⟩,.slice none 0 0,.slice none 0 0] 46 (0,0))) #[.int .i64 1,.string ⟨#[84]⟩,.slice none 0 0,.slice none 0 0,.slice (some ⟨w.heap.size,0,none⟩) 1 1,.slice none 0 0,.slice none 0 0] 39).stay (za0 _ (.cells #[.slice (some ⟨w.heap.size + 1,0,none⟩) 1 1] 24 (0,0)))
  rwa [z1] at h
 have h3:Bk (((w.alloc (.cells #[.string ⟨#[120]⟩,.slice none 0 0,.string ⟨#[73,110,116]⟩,.slice none 0 0,.slice none 0 0] 46 (0,0))).alloc (.cells #[.int .i64 1,.string ⟨#[84]⟩,.slice none 0 0,.slice none 0 0,.slice (some ⟨w.heap.size,0,none⟩) 1 1,.slice none 0 0,.slice none 0 0] 39 (0,0))).alloc (.cells #[.slice (some ⟨w.heap.size + 1,0,none⟩) 1 1] 24 (0,0))) (w.heap.size + 1 + 1) #[.slice (some ⟨w.heap.size + 1,0,none⟩) 1 1] 24 := by
  have h:=Bk.new ((w.alloc (.cells #[.string ⟨#[120]⟩,.slice none 0 0,.string ⟨#[73,110,116]⟩,.slice none 0 0,.slice none 0 0] 46 (0,0))).alloc (.cells #[.int .i64 1,.string ⟨#[84]⟩,.slice none 0 0,.slice none 0 0,.slice (some ⟨w.heap.size,0,none⟩) 1 1,.slice none 0 0,.slice none 0 0] 39 (0,0))) #[.slice (some ⟨w.heap.size + 1,0,none⟩) 1 1] 24
  rwa [z2] at h
 have CP:=zB7 [exD] ex_fit (.slice (some ⟨w.heap.size + 1,0,none⟩) 1 1) (((w.alloc (.cells #[.string ⟨#[120]⟩,.slice none 0 0,.string ⟨#[73,110,116]⟩,.slice none 0 0,.slice none 0 0] 46 (0,0))).alloc (.cells #[.int .i64 1,.string ⟨#[84]⟩,.slice none 0 0,.slice none 0 0,.slice (some ⟨w.heap.size,0,none⟩) 1 1,.slice none 0 0,.slice none 0 0] 39 (0,0))).alloc (.cells #[.slice (some ⟨w.heap.size + 1,0,none⟩) 1 1] 24 (0,0))) (ex_defs _ _ _ _ (by omega) (by omega) h1 h2) ((hL.kept b3).mono (by omega)) (by rw [zR2]; decide) (by rw [zR2]; decide)
 rw [zR2] at CP
 have CALLP:=Lib.hid CP
 have H1:=Lib.hid h1
 have H2:=Lib.hid h2
 have H3:=Lib.hid h3
 have HB3:=Lib.hid b3
 have HL:=Lib.hid hL
 have y0:=h3.cell 0 _ rfl
 clear hL CP z1 z2 b1 b2 b3 h1 h2 h3
 go_enter Tryz.func15, Tryz.ntmps15
 go_wp2_with fail
 refine CALLP.out.mono ?_
 rintro e w4 ⟨rfl,hb⟩
 have HW4:=Lib.hid (HB3.out.trans (hb.mono HB3.out.size))
 have H14:=Lib.hid (H1.out.stay hb)
 have H24:=Lib.hid (H2.out.stay hb)
 have h34:=H3.out.stay hb
 clear hb CALLP y0 z3 H1 H2 H3 HB3
 have y0:=h34.cell 0 _ rfl
 clear h34
 go_wp2_with fail
 refine (same_ex w.heap.size (w.heap.size + 1) w4 H14.out H24.out).mono ?_
 rintro e w5 ⟨rfl,hb⟩
 have HW5:=Lib.hid (HW4.out.trans (hb.mono HW4.out.size))
 clear hb y0
 go_wp2_with fail
 refine (zN1 ⟨#[97]⟩ w5).mono ?_
 rintro e w6 ⟨rfl,hb⟩
 have HW6:=Lib.hid (HW5.out.trans (hb.mono HW5.out.size))
 clear hb
 have CV:=zw6 (.mk 3 0 ⟨#[97]⟩ [] []) ex_vfit (.agg #[.int .i64 3,.int .i64 0,.string ⟨#[97]⟩,.slice none 0 0,.slice none 0 0]) w6 (Rd.leaf ⟨by decide,by decide⟩ ⟨by decide,by decide⟩ (by decide)) ((HL.out.kept HW6.out).mono HW6.out.size) (by rw [zR1]; decide) (by rw [zR1]; decide)
 rw [zR1] at CV
 have CALLV:=Lib.hid CV
 clear CV
 go_wp2_with fail
 refine CALLV.out.mono ?_
 rintro e w7 ⟨rfl,hb⟩
 have HW7:=Lib.hid (HW6.out.trans (hb.mono HW6.out.size))
 clear hb CALLV
 go_wp2_with fail
 go_ret
 exact ⟨rfl,HW7.out⟩
end Go.Proofs.YtfgelheiknmjgaaGreatDoor
namespace Go.Proofs.YtfgelheiknmjgaaGreatDoor
open Go.RowKit
theorem nm_pos {s:ByteArray} (h:nmA s = true):0 < s.size:=by
 unfold nmA nameL at h
 simp only [Bool.and_eq_true,Bool.not_eq_true',List.isEmpty_eq_false_iff] at h
 have:=h.1.1.1
 rw [← za4]
 exact List.length_pos_iff.2 this
theorem sbw_le (s:ByteArray) (k n:Int) (items:List VT) (keys:List ByteArray):s.size ≤ (VT.mk k n s items keys).bw:=by rw [bw_eq]; omega
theorem no {P:Prop} {a b:Int} (h:a ≠ b):a = b → P:=fun e => absurd e h
theorem zC8 (t:VT):zb4 true t = true → t.bw ≤ 1048576 → t.fit:=by
 induction t using VT.ind with
 | h k n s is ks ih =>
 intro h hb
 rw [zb4,zp9,Bool.and_eq_true] at h
 obtain ⟨h1,h2⟩:=h
 have hs:=sbw_le s k n is ks
 have hi:VT.fits is:=by
  refine zQ9 fun t ht => ?_
  obtain ⟨i,hi⟩:=List.mem_iff_getElem?.1 ht
  have hbt:=bws_at hi
  rw [bw_eq] at hb
  exact ih i t hi (List.all_eq_true.1 h2 t ht) (by omega)
 rw [VT.fit]
 rw [nodeB] at h1
 by_cases k0:k = 0
 ·subst k0; exact ⟨by decide,no (by decide),no (by decide),no (by decide),by omega,hi⟩
 rw [if_neg k0] at h1
 by_cases k1:k = 1
 ·subst k1
  rw [if_pos rfl] at h1
  simp only [Bool.and_eq_true,Bool.or_eq_true,decide_eq_true_eq] at h1
  exact ⟨by decide,fun _ => h1.1.1,no (by decide),no (by decide),by omega,hi⟩
 rw [if_neg k1] at h1
 by_cases k2:k = 2
 ·subst k2; exact ⟨by decide,no (by decide),no (by decide),no (by decide),by omega,hi⟩
 rw [if_neg k2] at h1
 by_cases k3:k = 3
 ·subst k3; exact ⟨by decide,no (by decide),no (by decide),no (by decide),by omega,hi⟩
 rw [if_neg k3] at h1
 by_cases k4:k = 4
 ·subst k4
  rw [if_pos rfl] at h1
  simp only [Bool.and_eq_true] at h1
  have:=h1.1.2
  unfold enumB at this
  simp only [Bool.and_eq_true] at this
  exact ⟨by decide,no (by decide),no (by decide),fun _ => nm_pos this.2,by omega,hi⟩
 rw [if_neg k4] at h1
 by_cases k5:k = 5
 ·subst k5; exact ⟨by decide,no (by decide),no (by decide),no (by decide),by omega,hi⟩
 rw [if_neg k5] at h1
 by_cases k6:k = 6
 ·subst k6
  rw [if_pos rfl] at h1
  simp only [Bool.and_eq_true,decide_eq_true_eq] at h1
  exact ⟨by decide,no (by decide),fun _ => h1.1.2,no (by decide),by omega,hi⟩
 rw [if_neg k6] at h1
 by_cases k7:k = 7
 ·subst k7; exact ⟨by decide,no (by decide),no (by decide),no (by decide),by omega,hi⟩
 rw [if_neg k7] at h1
 cases h1
theorem zH2 (sep:List UInt8):∀ (xs:List (List UInt8)),(jn sep xs).length ≤ (xs.map (fun x => x.length + sep.length)).sum
 | [] => by simp [jn]
 | a :: r => by
   have h:∀ l:List (List UInt8),(l.map (fun x => sep ++ x)).flatten.length = (l.map (fun x => x.length + sep.length)).sum:=by
    intro l
    induction l with
    | nil => rfl
    | cons b q ih => simp [ih]; omega
   simp only [jn,List.length_append,List.map_cons,List.sum_cons,h]
   omega
theorem qL_len (s:ByteArray):(T1.zf9 s.data.toList).length ≤ 6 * s.size + 2:=by
 have h:=T1.zH4 s.data.toList
 rw [T1.zb8] at h
 unfold T1.zf9
 simp only [List.length_append,List.length_cons,List.length_nil,List.length_flatMap] at h ⊢
 omega
theorem zL7 (t:VT):∀ (w:World) (B:Nat) (v:Value),Rd w B v t → t.src.length + 2 ≤ 30 * t.bw:=by
 induction t using VT.ind with
 | h k n s items keys ih =>
 intro w B v h
 cases h with
 | @mk _ _ _ A li ci K lk ck _ _ V hk hn hs hks hli hlk hbi hbk hA hr hK =>
 have hl:∀ l:List VT,(∀ t ∈ l,t.src.length + 2 ≤ 30 * t.bw) → ((l.map VT.src).map (fun x => x.length + 2)).sum ≤ 30 * VT.bws l:=by
  intro l
  induction l with
  | nil => intro _; simp [VT.bws]
  | cons x r ihl =>
    intro hx
    have h1:=hx x (by simp)
    have h2:=ihl (fun t ht => hx t (by simp [ht]))
    simp only [List.map_cons,List.sum_cons,VT.bws]
    omega
 have hi:∀ t ∈ items,t.src.length + 2 ≤ 30 * t.bw:=fun t ht => by
  obtain ⟨i,hi⟩:=List.mem_iff_getElem?.1 ht
  exact ih i t hi w B _ (hr i t hi)
 have ho:∀ (ks:List ByteArray) (l:List VT),(∀ t ∈ l,t.src.length + 2 ≤ 30 * t.bw) → ((zf0 ks l).map (fun x => x.length + 2)).sum ≤ 30 * (ksum ks + VT.bws l):=by
  intro ks
  induction ks with
  | nil => intro l _; simp [zf0]
  | cons a r ihk =>
    intro l hx
    cases l with
    | nil => simp [zf0]
    | cons x q =>
      have h1:=hx x (by simp)
      have h2:=ihk q (fun t ht => hx t (by simp [ht]))
      have h3:ksum (a :: r) = 1 + a.size + ksum r:=by simp [ksum]
      unfold zf0 at h2 ⊢
      simp only [List.map_cons,List.zipWith_cons_cons,List.sum_cons,VT.bws,List.length_append,List.length_cons,za4,h3] at h2 ⊢
      omega
 rw [zk5,bw_eq]
 have hit:=Lib.itoa_length_le n hn.1 hn.2
 have hq:=qL_len s
 have h5:=zH2 [44,32] (items.map VT.src)
 have h6:=zH2 [44,32] (zf0 keys items)
 have h5':=hl items hi
 have h6':=ho keys items hi
 have e2:([44,32]:List UInt8).length = 2:=rfl
 rw [e2] at h5 h6
 have hqq:(qL s).length ≤ 6 * s.size + 2:=hq
 have n1:nullB.length = 4:=rfl
 have n2:falseB.length = 5:=rfl
 have n3:trueB.length = 4:=rfl
 repeat' split
 all_goals (try simp only [List.length_cons,List.length_append,List.length_nil,za4,n1,n2,n3])
 all_goals omega
end Go.Proofs.YtfgelheiknmjgaaGreatDoor
namespace Go.Proofs.YtfgelheiknmjgaaGreatDoor
open Go.RowKit
theorem nm_le {s:ByteArray} (h:nmA s = true):s.size ≤ 64:=by
 unfold nmA nameL at h
 simp only [Bool.and_eq_true,decide_eq_true_eq] at h
 have:=h.1.1.2
 rw [← za4]; exact this
theorem zh5 {α:Type} {a b:Nat} {xs:List α} {p : α → Bool} (h:ltB a b xs p = true):xs.length ≤ b ∧ ∀ x ∈ xs,p x = true:=by
 unfold ltB at h
 simp only [Bool.and_eq_true,decide_eq_true_eq] at h
 exact ⟨h.2.1,fun x hx => List.all_eq_true.1 h.2.2 x hx⟩
theorem zT9 {y:ByteArray × VT} (hs:y.2.bw ≤ 1048576) (h:zp0 y = true):y.2.fit ∧ y.1.size ≤ 64:=by
 unfold zp0 zc0 at h
 simp only [Bool.and_eq_true] at h
 exact ⟨zC8 _ h.2.1.2 hs,nm_le h.1⟩
theorem zt0 {l:List DirT} (hs:dirsQ l) (h:zb6 l = true):zg6 l:=fun d hd y hy => by
 have h1:=(zh5 h).2 d hd
 unfold zo9 at h1
 simp only [Bool.and_eq_true] at h1
 exact (zT9 (hs d hd y hy) (List.all_eq_true.1 h1.2.2 y hy)).1
theorem zz4 {α:Type} (f : α → Nat) (M:Nat):∀ (l:List α),(∀ x ∈ l,f x ≤ M) → (l.map f).sum ≤ l.length * M
 | [],_ => by simp
 | x :: r,h => by
   have h1:=h x (by simp)
   have h2:=zz4 f M r fun y hy => h y (by simp [hy])
   rw [List.map_cons,List.sum_cons,List.length_cons,Nat.succ_mul]
   omega
theorem zp4 (sep:List UInt8) (xs:List (List UInt8)) (M n:Nat) (hx:∀ x ∈ xs,x.length ≤ M) (hn:xs.length ≤ n):(jn sep xs).length ≤ n * (M + sep.length):=by
 have h1:=zH2 sep xs
 have h2:=zz4 (fun x:List UInt8 => x.length + sep.length) (M + sep.length) xs fun x hx' => by have:=hx x hx'; omega
 exact Nat.le_trans h1 (Nat.le_trans h2 (Nat.mul_le_mul_right _ hn))
theorem dirs_len {l:List DirT} {w:World} {B:Nat} {v:Value} (hr:DirsR w B v l) (hs:dirsQ l) (h:zb6 l = true):(zy0 l).length ≤ 10000000000:=by
 have h0:=zh5 h
 have h1:∀ x ∈ l.map zr2,x.length ≤ 503318600:=by
  intro x hx
  obtain ⟨d,hd,rfl⟩:=List.mem_map.1 hx
  have hk:=h0.2 d hd
  unfold zo9 at hk
  simp only [Bool.and_eq_true,decide_eq_true_eq] at hk
  have hnm:=nm_le hk.1
  obtain ⟨A,c,_,_,_,V,_,hel⟩:=hr
  obtain ⟨i,hi⟩:=List.mem_iff_getElem?.1 hd
  obtain ⟨A1,c1,_,_,_,V1,_,hel1⟩:=(hel i d hi).args
  have ha:∀ z ∈ d.args.map zr4,z.length ≤ 31457400:=by
   intro z hz
   obtain ⟨y,hy,rfl⟩:=List.mem_map.1 hz
   obtain ⟨q,hq⟩:=List.mem_iff_getElem?.1 hy
   have hsl:=zL7 y.2 w B _ (hel1 q y hq).val
   have hb:=hs d hd y hy
   have hn:=(zT9 hb (List.all_eq_true.1 hk.2.2 y hy)).2
   unfold zr4
   simp only [List.length_append,List.length_cons,List.length_nil,za4]
   omega
  have hj:=zp4 [44,32] _ _ 16 ha (by rw [List.length_map]; exact hk.2.1)
  unfold zr2
  split
  ·simp only [List.length_append,List.length_cons,List.length_nil,za4]; omega
  ·simp only [List.length_append,List.length_cons,List.length_nil,za4] at hj ⊢
   omega
 have hj:=zp4 [32] _ _ 16 h1 (by rw [List.length_map]; exact h0.1)
 unfold zy0
 simp only [List.length_cons,List.length_nil] at hj
 omega
theorem zy1 {l:List DirT} (h:dirsQ l):dirsZ l:=fun d hd y hy => by
 have h1:=h d hd y hy
 have h2:=zM3 y.2
 omega
theorem zQ2 {l:List InpT} (h:inpsQ l):inpsZ l:=fun x hx => ⟨by have h1:=(h x hx).1; have h2:=zM3 x.dflt; omega,zy1 (h x hx).2.1⟩
theorem zS6 {l:List DefT} (h:defsQ l):defsZ l:=fun x hx =>
 ⟨zy1 (h x hx).1,fun y hy => ⟨zQ2 ((h x hx).2.2.1 y hy).1,zy1 ((h x hx).2.2.1 y hy).2.1⟩,fun y hy => zy1 ((h x hx).2.2.2.1 y hy),zQ2 (h x hx).2.1⟩
end Go.Proofs.YtfgelheiknmjgaaGreatDoor
namespace Go.Proofs.YtfgelheiknmjgaaGreatDoor
open Go.RowKit
theorem rf_ok {n:ByteArray} {ws:List Int} (h:K.okB n ws = true):rfFit n ws ∧ (zk8 n ws).length ≤ 200:=by
 obtain ⟨h1,h2,_⟩:=K.ok_len h
 have h3:n.size ≤ 64:=nm_le h1
 have h4:=K.pr_len n.data.toList ws
 have h5:n.data.toList.length = n.size:=za4 n
 unfold rfFit zk8
 exact ⟨⟨by omega,by omega⟩,by omega⟩
theorem zr9 {l:List DirT} {w:World} {B:Nat} {v:Value} (hr:DirsR w B v l) (hs:dirsQ l) (h:zb6 l = true):(zb5 l).length ≤ 10000000001:=by
 have h1:=dirs_len hr hs h
 unfold zb5
 split
 ·simp
 ·simp only [List.length_append,List.length_cons,List.length_nil]; omega
theorem zQ5 {x:InpT} (hd:x.dflt.bw ≤ 1048576) (hs:dirsQ x.dirs) (h:zk0 x = true):zQ7 x ∧ x.name.size ≤ 64:=by
 unfold zk0 at h
 simp only [Bool.and_eq_true] at h
 refine ⟨⟨(rf_ok h.2.1).1,fun hh => ?_,zt0 hs h.2.2.1⟩,nm_le h.1⟩
 have h1:=h.2.2.2
 rw [if_pos hh] at h1
 unfold zc0 at h1
 simp only [Bool.and_eq_true] at h1
 exact zC8 _ h1.1.2 hd
theorem zQ6 {x:InpT} {w:World} {B:Nat} {f:Nat → Value} (hr:InpR w B f x) (hd:x.dflt.bw ≤ 1048576) (hs:dirsQ x.dirs) (h:zk0 x = true):(zi3 x).length ≤ 10040000000:=by
 have hn:=(zQ5 hd hs h).2
 unfold zk0 at h
 simp only [Bool.and_eq_true] at h
 have h1:=(rf_ok h.2.1).2
 have h2:=zr9 hr.dirs hs h.2.2.1
 have h3:=zL7 x.dflt w B _ hr.val
 unfold zi3
 simp only [List.length_append,List.length_cons,List.length_nil,za4]
 split
 ·simp only [List.length_append,List.length_cons,List.length_nil]; omega
 ·simp only [List.length_nil]; omega
theorem fld_ok {x:FldT} (hs:inpsQ x.args ∧ dirsQ x.dirs ∧ x.tw.length ≤ 17592186044416) (h:zk1 x = true):zQ8 x ∧ x.args.length ≤ 16 ∧ x.dirs.length ≤ 16:=by
 unfold zk1 at h
 simp only [Bool.and_eq_true] at h
 have h1:=zh5 h.2.1
 exact ⟨⟨(rf_ok h.2.2.1).1,fun y hy => (zQ5 (hs.1 y hy).1 (hs.1 y hy).2.1 (h1.2 y hy)).1,zt0 hs.2.1 h.2.2.2⟩,h1.1,(zh5 h.2.2.2).1⟩
theorem fld_len {x:FldT} {w:World} {B:Nat} {f:Nat → Value} (hr:FldR w B f x) (hs:inpsQ x.args ∧ dirsQ x.dirs ∧ x.tw.length ≤ 17592186044416) (h:zk1 x = true):(zj0 x).length + 3 ≤ 10100000000 * (1 + cntF x):=by
 unfold zk1 at h
 simp only [Bool.and_eq_true] at h
 have h1:=zh5 h.2.1
 have hn:=nm_le h.1
 have h2:=(rf_ok h.2.2.1).2
 have h3:=zr9 hr.dirs hs.2.1 h.2.2.2
 obtain ⟨A1,c1,_,_,_,V1,_,hel1⟩:=hr.args
 have ha:∀ z ∈ x.args.map zi3,z.length ≤ 10040000000:=by
  intro z hz
  obtain ⟨y,hy,rfl⟩:=List.mem_map.1 hz
  obtain ⟨q,hq⟩:=List.mem_iff_getElem?.1 hy
  exact zQ6 (hel1 q y hq) (hs.1 y hy).1 (hs.1 y hy).2.1 (h1.2 y hy)
 have hj:=zp4 [44,32] _ _ x.args.length ha (by rw [List.length_map]; exact Nat.le_refl _)
 simp only [List.length_cons,List.length_nil] at hj
 unfold zj0 cntF
 split
 ·simp only [List.length_append,List.length_cons,List.length_nil,za4]; omega
 ·simp only [List.length_append,List.length_cons,List.length_nil,za4]; omega
end Go.Proofs.YtfgelheiknmjgaaGreatDoor
namespace Go.Proofs.YtfgelheiknmjgaaGreatDoor
open Go.RowKit
theorem zj5 {α:Type} (txt : α → List UInt8) (g : α → Nat) (M:Nat):∀ (l:List α),(∀ x ∈ l,(txt x).length + 3 ≤ M * g x) → (((l.map txt).map zb0).flatten).length ≤ M * (l.map g).sum
 | [],_ => by simp
 | x :: r,h => by
   have h1:=h x (by simp)
   have h2:=zj5 txt g M r fun y hy => h y (by simp [hy])
   have h3:(zb0 (txt x)).length = (txt x).length + 3:=by unfold zb0; simp only [List.length_append,List.length_cons,List.length_nil]; omega
   rw [List.map_cons,List.map_cons,List.flatten_cons,List.length_append,List.map_cons,List.sum_cons,Nat.mul_add,h3]
   omega
theorem zG6 {α:Type} (l:List α):(l.map fun _ => 1).sum = l.length:=by
 induction l with
 | nil => rfl
 | cons x r ih => rw [List.map_cons,List.sum_cons,ih,List.length_cons]; omega
theorem plus_sum {α:Type} (g : α → Nat) (l:List α):(l.map fun y => 1 + g y).sum = l.length + (l.map g).sum:=by
 induction l with
 | nil => rfl
 | cons x r ih => rw [List.map_cons,List.sum_cons,ih,List.length_cons,List.map_cons,List.sum_cons]; omega
theorem def_ok {x:DefT} (hs:dirsQ x.dirs ∧ inpsQ x.inputs ∧ fldsQ x.fields ∧ memsQ x.members ∧ x.impl.length ≤ 17592186044416) (h:zb9 x = true) (hk:1 ≤ x.kind ∧ x.kind ≤ 5)
  (hF:zg5 x.fields = true ∨ x.fields.length = 0) (hM:(∃ p,ze1 p x.members = true ∧ (x.kind = 3 → p = true)) ∨ x.members.length = 0) (hI:ze7 x.inputs = true ∨ x.inputs.length = 0) :
  (zw1 x ∧ (x.kind = 3 → ∀ y ∈ x.members,y.dirs = []) ∧ x.impl.length ≤ 64) ∧ smallD x:=by
 unfold zb9 at h
 simp only [Bool.and_eq_true,decide_eq_true_eq] at h
 have hf:x.fields.length ≤ 64 ∧ ∀ y ∈ x.fields,zk1 y = true:=by
  rcases hF with hF | hF
  ·exact zh5 hF
  ·exact ⟨by omega,fun y hy => by rw [List.length_eq_zero_iff.1 hF] at hy; cases hy⟩
 have hm:x.members.length ≤ 64 ∧ ∀ y ∈ x.members,zb6 y.dirs = true ∧ (x.kind = 3 → y.dirs = []):=by
  rcases hM with ⟨p,hM,hp⟩ | hM
  ·refine ⟨(zh5 hM).1,fun y hy => ?_⟩
   have h1:=(zh5 hM).2 y hy
   unfold zf8 at h1
   simp only [Bool.and_eq_true] at h1
   refine ⟨h1.2.1,fun h3 => ?_⟩
   have h2:=h1.2.2
   rw [hp h3] at h2
   simp at h2
   exact h2
  ·exact ⟨by omega,fun y hy => by rw [List.length_eq_zero_iff.1 hM] at hy; cases hy⟩
 have hi:x.inputs.length ≤ 16 ∧ ∀ y ∈ x.inputs,zk0 y = true:=by
  rcases hI with hI | hI
  ·exact zh5 hI
  ·exact ⟨by omega,fun y hy => by rw [List.length_eq_zero_iff.1 hI] at hy; cases hy⟩
 have hd:=zh5 h.2.1
 refine ⟨⟨⟨hk,zt0 hs.1 h.2.1,fun y hy => (fld_ok (hs.2.2.1 y hy) (hf.2 y hy)).1,fun y hy => zt0 (hs.2.2.2.1 y hy) (hm.2 y hy).1,fun y hy => (zQ5 (hs.2.1 y hy).1 (hs.2.1 y hy).2.1 (hi.2 y hy)).1⟩,fun h3 y hy => (hm.2 y hy).2 h3,h.2.2.1⟩,h.2.2.1,by omega,hm.1,by omega,hf.1,fun y hy => ?_⟩
 have h1:=(fld_ok (hs.2.2.1 y hy) (hf.2 y hy)).2
 exact ⟨by omega,by omega⟩
theorem zu2 {x:DefT} (h:zb9 x = true):(1 ≤ x.kind ∧ x.kind ≤ 5) ∧ (zg5 x.fields = true ∨ x.fields.length = 0) ∧ ((∃ p,ze1 p x.members = true ∧ (x.kind = 3 → p = true)) ∨ x.members.length = 0) ∧ (ze7 x.inputs = true ∨ x.inputs.length = 0):=by
 unfold zb9 at h
 simp only [Bool.and_eq_true] at h
 have h1:=h.2.2.2.2
 unfold zq4 at h1
 split at h1
 ·simp only [Bool.and_eq_true,decide_eq_true_eq] at h1; exact ⟨by omega,.inl h1.1,.inr h1.2.1,.inr h1.2.2⟩
 split at h1
 ·simp only [Bool.and_eq_true,decide_eq_true_eq] at h1; exact ⟨by omega,.inl h1.2.1,.inr h1.2.2.1,.inr h1.2.2.2⟩
 split at h1
 ·simp only [Bool.and_eq_true,decide_eq_true_eq] at h1; exact ⟨by omega,.inr h1.2.1,.inl ⟨true,h1.2.2.1,fun _ => rfl⟩,.inr h1.2.2.2⟩
 split at h1
 ·simp only [Bool.and_eq_true,decide_eq_true_eq] at h1; exact ⟨by omega,.inr h1.2.1,.inl ⟨false,h1.2.2.1,fun _ => by omega⟩,.inr h1.2.2.2⟩
 split at h1
 ·simp only [Bool.and_eq_true,decide_eq_true_eq] at h1; exact ⟨by omega,.inr h1.2.1,.inr h1.2.2.1,.inl h1.2.2.2.2⟩
 ·cases h1
end Go.Proofs.YtfgelheiknmjgaaGreatDoor
namespace Go.Proofs.YtfgelheiknmjgaaGreatDoor
open Go.RowKit
theorem zy6 (ds:List DirT) (ls:List (List UInt8)):(zg3 ds ls).length = (zb5 ds).length + ((ls.map zb0).flatten).length + 5:=by
 unfold zg3; simp only [List.length_append,List.length_cons,List.length_nil]; omega
theorem def_len {x:DefT} {w:World} {B:Nat} {f:Nat → Value} (hr:DefR w B f x) (hs:dirsQ x.dirs ∧ inpsQ x.inputs ∧ fldsQ x.fields ∧ memsQ x.members ∧ x.impl.length ≤ 17592186044416) (h:zb9 x = true):(zg7 x).length + 1 ≤ 10300000000 * cntD x:=by
 obtain ⟨hk,hF,hM,hI⟩:=zu2 h
 unfold zb9 at h
 simp only [Bool.and_eq_true,decide_eq_true_eq] at h
 have hn:=nm_le h.1
 have ht:=zr9 hr.dirs hs.1 h.2.1
 have hfl:(((x.fields.map zj0).map zb0).flatten).length ≤ 10100000000 * (x.fields.length + (x.fields.map cntF).sum):=by
  rw [← plus_sum]
  refine zj5 zj0 (fun y => 1 + cntF y) 10100000000 x.fields fun y hy => ?_
  rcases hF with hF | hF
  ·obtain ⟨A1,c1,_,_,_,V1,_,hel1⟩:=hr.fields
   obtain ⟨q,hq⟩:=List.mem_iff_getElem?.1 hy
   exact fld_len (hel1 q y hq) (hs.2.2.1 y hy) ((zh5 hF).2 y hy)
  ·rw [List.length_eq_zero_iff.1 hF] at hy; cases hy
 have hme:∀ y ∈ x.members,(zf4 y).length + 3 ≤ 10100000000 * 1:=fun y hy => by
  rcases hM with ⟨p,hM,_⟩ | hM
  ·obtain ⟨A1,c1,_,_,_,V1,_,hel1⟩:=hr.members
   obtain ⟨q,hq⟩:=List.mem_iff_getElem?.1 hy
   have h1:=(zh5 hM).2 y hy
   unfold zf8 at h1
   simp only [Bool.and_eq_true] at h1
   have h2:=zr9 (hel1 q y hq).dirs (hs.2.2.2.1 y hy) h1.2.1
   have h3:=nm_le h1.1
   unfold zf4
   simp only [List.length_append,za4]; omega
  ·rw [List.length_eq_zero_iff.1 hM] at hy; cases hy
 have hml:(((x.members.map zf4).map zb0).flatten).length ≤ 10100000000 * x.members.length:=by
  have h1:=zj5 zf4 (fun _ => 1) 10100000000 x.members hme
  rwa [zG6] at h1
 have hmj:(jn [32,124,32] (x.members.map zf4)).length ≤ x.members.length * (10100000000 + 3):=by
  have h1:=zp4 [32,124,32] (x.members.map zf4) 10100000000 x.members.length (by
   intro z hz
   obtain ⟨y,hy,rfl⟩:=List.mem_map.1 hz
   have:=hme y hy; omega) (by rw [List.length_map]; exact Nat.le_refl _)
  exact h1
 have hil:(((x.inputs.map zi3).map zb0).flatten).length ≤ 10100000000 * x.inputs.length:=by
  have h1:=zj5 zi3 (fun _ => 1) 10100000000 x.inputs fun y hy => by
   rcases hI with hI | hI
   ·obtain ⟨A1,c1,_,_,_,V1,_,hel1⟩:=hr.inputs
    obtain ⟨q,hq⟩:=List.mem_iff_getElem?.1 hy
    have h2:=zQ6 (hel1 q y hq) (hs.2.1 y hy).1 (hs.2.1 y hy).2.1 ((zh5 hI).2 y hy)
    omega
   ·rw [List.length_eq_zero_iff.1 hI] at hy; cases hy
  rwa [zG6] at h1
 have him:(zm1 x.impl).length ≤ 12 + x.impl.length * 67:=by
  have h1:=zp4 [32,38,32] (x.impl.map bL) 64 x.impl.length (by
   intro z hz
   obtain ⟨y,hy,rfl⟩:=List.mem_map.1 hz
   rw [za4]; exact nm_le (List.all_eq_true.1 h.2.2.2.1 y hy)) (by rw [List.length_map]; exact Nat.le_refl _)
  simp only [List.length_cons,List.length_nil] at h1
  unfold zm1
  split
  ·simp
  ·simp only [List.length_append,List.length_cons,List.length_nil]; omega
 have e1:wType.length = 5:=rfl
 have e2:wInterface.length = 10:=rfl
 have e3:wUnion.length = 6:=rfl
 have e4:wEnum.length = 5:=rfl
 have e5:wInput.length = 6:=rfl
 unfold zg7 zz3 cntD
 split
 ·simp only [List.length_append,za4,zy6]; omega
 split
 ·simp only [List.length_append,za4,zy6]; omega
 split
 ·simp only [List.length_append,List.length_cons,List.length_nil,za4]; omega
 split
 ·simp only [List.length_append,za4,zy6]; omega
 split
 ·simp only [List.length_append,za4,zy6]; omega
 ·simp only [List.length_nil]; omega
theorem doc_len {xs:List DefT} (h:∀ x ∈ xs,(zg7 x).length + 1 ≤ 10300000000 * cntD x):(zh7 xs).length ≤ 10300000000 * (xs.map cntD).sum:=by
 refine Nat.le_trans (zH2 [10] (xs.map zg7)) ?_
 induction xs with
 | nil => simp
 | cons x r ih =>
   have h1:=h x (by simp)
   have h2:=ih fun y hy => h y (by simp [hy])
   rw [List.map_cons,List.map_cons,List.sum_cons,List.map_cons,List.sum_cons,Nat.mul_add]
   simp only [List.length_cons,List.length_nil] at h2 ⊢
   omega
end Go.Proofs.YtfgelheiknmjgaaGreatDoor
namespace Go.Proofs.YtfgelheiknmjgaaGreatDoor
open Go.RowKit
theorem doc_ne (x:DefT) (r:List DefT) (hf:zw1 x):zh7 (x :: r) ≠ []:=by
 intro h
 have h1:(zg7 x).length ≤ (zh7 (x :: r)).length:=by
  have:=ze8 [10] (xs:=(x :: r).map zg7) (j:=0) (a:=zg7 x) rfl
  unfold zh7; omega
 rw [h] at h1
 have hk:=hf.1
 have e1:wType.length = 5:=rfl
 have e2:wInterface.length = 10:=rfl
 have e3:wUnion.length = 6:=rfl
 have e4:wEnum.length = 5:=rfl
 have e5:wInput.length = 6:=rfl
 unfold zg7 at h1
 split at h1
 ·simp only [List.length_append,List.length_nil] at h1; omega
 split at h1
 ·simp only [List.length_append,List.length_nil] at h1; omega
 split at h1
 ·simp only [List.length_append,List.length_nil] at h1; omega
 split at h1
 ·simp only [List.length_append,List.length_nil] at h1; omega
 split at h1
 ·simp only [List.length_append,List.length_nil] at h1; omega
 ·omega
theorem zy3 {xs:List DefT} (hs:defsQ xs):∀ x ∈ xs,(∀ i ∈ x.inputs,i.tw.length ≤ 17592186044416) ∧ ∀ i ∈ x.fields,i.tw.length ≤ 17592186044416 ∧ ∀ j ∈ i.args,j.tw.length ≤ 17592186044416:=fun x hx => by
 obtain ⟨_,h2,h3,_,_⟩:=hs x hx
 exact ⟨fun i hi => (h2 i hi).2.2,fun i hi => ⟨(h3 i hi).2.2,fun j hj => ((h3 i hi).1 j hj).2.2⟩⟩
theorem zC1 {xs:List DefT} {u:Value} {w:World} (h:DefsR w w.heap.size u xs) (hs:defsQ xs) (W:World) (hW:Below w.heap.size w W):Calls Tryz.prog 14 #[.agg #[u]] W fun e w' => (∃ b,e = .returned (.bool b) ∧ (b = false → ltB 1 64 xs zb9 = true → (xs.map cntD).sum ≤ 1000)) ∧ Below W.heap.size W w':=by
 cases h1:ltB 1 64 xs zb9 with
 | false => exact (zP8 xs u W w.heap.size (h.kept hW) hW.size).mono fun e w' ⟨⟨b,he⟩,hb⟩ => ⟨⟨b,he,fun _ h => by cases h⟩,hb⟩
 | true =>
   refine (large_ok xs (fun x hx => ?_) u W w.heap.size (h.kept hW) hW.size).mono fun e w' ⟨⟨b,he,h3⟩,hb⟩ => ⟨⟨b,he,fun h _ => (h3 h).2⟩,hb⟩
   have h2:=(zh5 h1).2 x hx
   obtain ⟨hk,hF,hM,hI⟩:=zu2 h2
   exact (def_ok (hs x hx) h2 hk hF hM hI).2
theorem zB6 {xs:List DefT} {u:Value} {w:World} (h:DefsR w w.heap.size u xs) (hs:defsQ xs) (hL:LaidB w.heap.size w) (h1:ltB 1 64 xs zb9 = true) (h2:(xs.map cntD).sum ≤ 1000):∃ o:ByteArray,bL o = zh7 xs ∧ ∀ W,Below w.heap.size w W → Calls Tryz.prog 16 #[.agg #[u]] W fun e w' => e = .returned (.string o) ∧ Below W.heap.size W w':=by
 have hall:∀ x ∈ xs,zw1 x ∧ (zg7 x).length + 1 ≤ 10300000000 * cntD x:=fun x hx => by
  have h2:=(zh5 h1).2 x hx
  obtain ⟨hk,hF,hM,hI⟩:=zu2 h2
  obtain ⟨A,c,_,_,_,V,_,hr⟩:=h
  obtain ⟨q,hq⟩:=List.mem_iff_getElem?.1 hx
  exact ⟨(def_ok (hs x hx) h2 hk hF hM hI).1.1,def_len (hr q x hq) (hs x hx) h2⟩
 have h3:=doc_len (xs:=xs) fun x hx => (hall x hx).2
 refine ⟨⟨(zh7 xs).toArray⟩,bL_mk _,fun W hW => ?_⟩
 refine zB7 xs (fun x hx => (hall x hx).1) u W ((h.kept hW).mono hW.size) ((hL.kept hW).mono hW.size) (by omega) ?_
 have h4:0 < xs.length:=by unfold ltB at h1; simp at h1; omega
 cases xs with
 | nil => simp at h4
 | cons x r => exact doc_ne x r (hall x (by simp)).1
set_option maxRecDepth 100000 in
set_option maxHeartbeats 8000000 in
theorem zM6 (u v:Value) (xs ys:List DefT) (w:World) (h:DefsR w w.heap.size u xs) (h':DefsR w w.heap.size v ys) (hs:defsQ xs) (hs':defsQ ys) (hL:LaidB w.heap.size w):Calls Tryz.prog 6 #[.agg #[u],.agg #[v]] w fun e w' => e = .returned (.bool true) ∧ Below w.heap.size w w':=by
 obtain ⟨A,l,c,rfl⟩:=Sl.form3 h
 obtain ⟨A',l',c',rfl⟩:=Sl.form3 h'
 have CLA:=Lib.hid (zC1 h hs)
 have CLB:=Lib.hid (zC1 h' hs')
 have CE:=Lib.hid (fun (W:World) (hW:Below w.heap.size w W) => zB9 W ((hL.kept hW).mono hW.size))
 obtain ⟨S,hS⟩ : ∃ S,S = allS sDef xs ys:=⟨_,rfl⟩
 have CSM:Hid (∀ W:World,Below w.heap.size w W → Calls Tryz.prog 18 #[.agg #[.slice A l c],.agg #[.slice A' l' c']] W (BP S W)):=Lib.hid fun W hW => by
  rw [hS]; exact zB5 xs ys _ _ W ((h.kept hW).mono hW.size) ((h'.kept hW).mono hW.size) (zy3 hs)
 have CRS:Hid (∀ W:World,Below w.heap.size w W → Calls Tryz.prog 17 #[.agg #[.slice A l c],.agg #[.slice A' l' c']] W (BP S W)):=Lib.hid fun W hW => by
  rw [hS]; exact zB0 xs ys _ _ W ((h.kept hW).mono hW.size) ((h'.kept hW).mono hW.size) (zy3 hs)
 have CSA:Hid (∀ W:World,Below w.heap.size w W → Calls Tryz.prog 18 #[.agg #[.slice A l c],.agg #[.slice A l c]] W (BP true W)):=Lib.hid fun W hW => by
  have:=zB5 xs xs _ _ W ((h.kept hW).mono hW.size) ((h.kept hW).mono hW.size) (zy3 hs)
  rw [zz7] at this; exact this
 obtain ⟨ra,hra⟩ : ∃ rb,ltB 1 64 xs zb9 = rb:=⟨_,rfl⟩
 obtain ⟨rb,hrb⟩ : ∃ rb,ltB 1 64 ys zb9 = rb:=⟨_,rfl⟩
 have CRA:Hid (∀ W:World,Below w.heap.size w W → Calls Tryz.prog 9 #[.agg #[.slice A l c]] W (BP ra W)):=Lib.hid fun W hW => by
  rw [← hra]; exact zv4 xs _ W ((h.kept hW).mono hW.size) (zS6 hs)
 have CRB:Hid (∀ W:World,Below w.heap.size w W → Calls Tryz.prog 9 #[.agg #[.slice A' l' c']] W (BP rb W)):=Lib.hid fun W hW => by
  rw [← hrb]; exact zv4 ys _ W ((h'.kept hW).mono hW.size) (zS6 hs')
 have CPA:=Lib.hid (zB6 h hs hL)
 have CPB:=Lib.hid (zB6 h' hs' hL)
 have HN:=Lib.hid (DefsR.num h)
 have HN':=Lib.hid (DefsR.num h')
 have HSE:=Lib.hid hS
 have HRA:=Lib.hid hra
 have HRB:=Lib.hid hrb
 have B0:Below w.heap.size w ((w.alloc (.cells #[.slice A l c] 24 (0,0))).alloc (.cells #[.slice A' l' c'] 24 (0,0))):=(za0 w _).alloc (by simp) _
 have HB:=Lib.hid B0
 have XA:=Lib.hid ((Bk.new w #[.slice A l c] 24).stay (za0 _ (.cells #[.slice A' l' c'] 24 (0,0))))
 have XB:Hid (Bk ((w.alloc (.cells #[.slice A l c] 24 (0,0))).alloc (.cells #[.slice A' l' c'] 24 (0,0))) (w.heap.size + 1) #[.slice A' l' c'] 24):=Lib.hid (by
  have h:=Bk.new (w.alloc (.cells #[.slice A l c] 24 (0,0))) #[.slice A' l' c'] 24
  rwa [show (w.alloc (.cells #[.slice A l c] 24 (0,0))).heap.size = w.heap.size + 1 by simp] at h)
 have y0:=XA.out.cell 0 _ rfl
 have z0:=XB.out.cell 0 _ rfl
 clear h h' hs hs' hL hS hra hrb B0
 go_enter Tryz.func6, Tryz.ntmps6
 go_wp2_with fail
 refine (CLA.out _ HB.out).mono ?_
 rintro e w1 ⟨⟨ba,rfl,hba⟩,hb⟩
 have HBA:=Lib.hid hba
 replace HB:=Lib.hid (HB.out.trans (hb.mono HB.out.size))
 replace XA:=Lib.hid (XA.out.stay hb)
 replace XB:=Lib.hid (XB.out.stay hb)
 clear hba hb y0 z0 CLA
 have y0:=XA.out.cell 0 _ rfl
 have z0:=XB.out.cell 0 _ rfl
 cases ba with
 | true =>
   go_wp2_with fail
   refine (CE.out _ HB.out).mono ?_
   rintro e w2 ⟨rfl,hb⟩
   have HB2:=Lib.hid (HB.out.trans (hb.mono HB.out.size))
   clear hb
   go_wp2_with fail
   go_ret
   exact ⟨rfl,HB2.out⟩
 | false =>
 go_wp2_with fail
 refine (CLB.out _ HB.out).mono ?_
 rintro e w2 ⟨⟨bb,rfl,hbb⟩,hb⟩
 have HBB:=Lib.hid hbb
 replace HB:=Lib.hid (HB.out.trans (hb.mono HB.out.size))
 replace XA:=Lib.hid (XA.out.stay hb)
 replace XB:=Lib.hid (XB.out.stay hb)
 clear hbb hb y0 z0 CLB
 have y0:=XA.out.cell 0 _ rfl
 have z0:=XB.out.cell 0 _ rfl
 cases bb with
 | true =>
   go_wp2_with fail
   refine (CE.out _ HB.out).mono ?_
   rintro e w2 ⟨rfl,hb⟩
   have HB2:=Lib.hid (HB.out.trans (hb.mono HB.out.size))
   clear hb
   go_wp2_with fail
   go_ret
   exact ⟨rfl,HB2.out⟩
 | false =>
 go_wp2_with fail
 refine (CSM.out _ HB.out).mono ?_
 rintro e w3 ⟨rfl,hb⟩
 replace HB:=Lib.hid (HB.out.trans (hb.mono HB.out.size))
 replace XA:=Lib.hid (XA.out.stay hb)
 replace XB:=Lib.hid (XB.out.stay hb)
 clear hb y0 z0 CSM
 have y0:=XA.out.cell 0 _ rfl
 have z0:=XB.out.cell 0 _ rfl
 have hss:(S != S) = false:=by simp
 go_wp2_with fail
 refine (CRS.out _ HB.out).mono ?_
 rintro e w4 ⟨rfl,hb⟩
 replace HB:=Lib.hid (HB.out.trans (hb.mono HB.out.size))
 replace XA:=Lib.hid (XA.out.stay hb)
 replace XB:=Lib.hid (XB.out.stay hb)
 clear hb y0 z0 CRS
 have y0:=XA.out.cell 0 _ rfl
 have z0:=XB.out.cell 0 _ rfl
 go_wp2_with fail
 refine (CSA.out _ HB.out).mono ?_
 rintro e w5 ⟨rfl,hb⟩
 replace HB:=Lib.hid (HB.out.trans (hb.mono HB.out.size))
 replace XA:=Lib.hid (XA.out.stay hb)
 replace XB:=Lib.hid (XB.out.stay hb)
 clear hb y0 z0 CSA
 go_wp2_with fail
 have HPR:Hid (ra = true → rb = true → ∃ oa ob:ByteArray,(oa.toList == ob.toList) = S ∧ decide (oa = ob) = S ∧ (∀ W,Below w.heap.size w W → Calls Tryz.prog 16 #[.agg #[.slice A l c]] W fun e w' => e = .returned (.string oa) ∧ Below W.heap.size W w') ∧ (∀ W,Below w.heap.size w W → Calls Tryz.prog 16 #[.agg #[.slice A' l' c']] W fun e w' => e = .returned (.string ob) ∧ Below W.heap.size W w')):=Lib.hid fun h1 h2 => by
  have k1:ltB 1 64 xs zb9 = true:=HRA.out.trans h1
  have k2:ltB 1 64 ys zb9 = true:=HRB.out.trans h2
  obtain ⟨oa,e1,c1⟩:=CPA.out k1 (HBA.out (by first | rfl | trivial) k1)
  obtain ⟨ob,e2,c2⟩:=CPB.out k2 (HBB.out (by first | rfl | trivial) k2)
  have hS:decide (oa = ob) = S:=by
   rw [HSE.out]
   have d1:docOk xs = true:=(doc_eq xs).trans k1
   have d2:docOk ys = true:=(doc_eq ys).trans k2
   cases hq:allS sDef xs ys with
   | true =>
     have:=same_eq d1 d2 hq
     rw [decide_eq_true_iff]
     exact bL_inj (by rw [e1,e2,this])
   | false =>
     rw [decide_eq_false_iff_not]
     intro he
     have:=zO0 d1 HN.out d2 HN'.out (by rw [← e1, ← e2,he])
     rw [this,zz7] at hq
     cases hq
  exact ⟨oa,ob,by (rw [K.zf7, ← hS]) <;> exact decide_eq_decide.2 Iff.rfl,hS,c1,c2⟩
 clear CPA CPB HBA HBB HN HN' HSE HRA HRB
 refine za5 (fun W => Below w.heap.size w W ∧ Bk W w.heap.size #[.slice A l c] 24 ∧ Bk W (w.heap.size + 1) #[.slice A' l' c'] 24) ⟨HB.out,XA.out,XB.out⟩ (by kernel_rfl) ?_
 intro W ⟨hW,hWA,hWB⟩ _
 have p0:∀ x:Past W,x.w.cell? ⟨w.heap.size,0,none⟩ = some (.slice A l c):=fun x => (hWA.stay x.b).cell 0 _ rfl
 have p1:∀ x:Past W,x.w.cell? ⟨w.heap.size + 1,0,none⟩ = some (.slice A' l' c'):=fun x => (hWB.stay x.b).cell 0 _ rfl
 have k1:Hid (∀ x:Past W,Calls Tryz.prog 9 #[.agg #[.slice A l c]] x.w fun e w'' => e = .returned (.bool ra) ∧ ∃ y:Past W,w'' = y.w):=Lib.hid fun x => zd2 x (CRA.out _ (hW.trans (x.b.mono hW.size)))
 have k2:Hid (∀ x:Past W,Calls Tryz.prog 9 #[.agg #[.slice A' l' c']] x.w fun e w'' => e = .returned (.bool rb) ∧ ∃ y:Past W,w'' = y.w):=Lib.hid fun x => zd2 x (CRB.out _ (hW.trans (x.b.mono hW.size)))
 have HW:=Lib.hid hW
 clear hW hWA hWB CRA CRB
 cases ra with
 | false =>
   repeat (go_big_quiet_step (first | with_reducible exact k1.out _ | with_reducible exact k2.out _))
   refine wpQuiet_nil ?_
   intro _ hw'
   obtain ⟨y,rfl⟩:=hw'
   have HB5:Hid (Below w.heap.size w y.w):=Lib.hid (HW.out.trans (y.b.mono HW.out.size))
   go_wp2_with fail
   refine (CE.out _ HB5.out).mono ?_
   rintro e w2 ⟨rfl,hb⟩
   have HB2:=Lib.hid (HB5.out.trans (hb.mono HB5.out.size))
   clear hb
   go_wp2_with fail
   go_ret
   exact ⟨rfl,HB2.out⟩
 | true =>
 cases rb with
 | false =>
   repeat (go_big_quiet_step (first | with_reducible exact k1.out _ | with_reducible exact k2.out _))
   refine wpQuiet_nil ?_
   intro _ hw'
   obtain ⟨y,rfl⟩:=hw'
   have HB5:Hid (Below w.heap.size w y.w):=Lib.hid (HW.out.trans (y.b.mono HW.out.size))
   go_wp2_with fail
   refine (CE.out _ HB5.out).mono ?_
   rintro e w2 ⟨rfl,hb⟩
   have HB2:=Lib.hid (HB5.out.trans (hb.mono HB5.out.size))
   clear hb
   go_wp2_with fail
   go_ret
   exact ⟨rfl,HB2.out⟩
 | true =>
 obtain ⟨oa,ob,g1,g2,c1,c2⟩:=HPR.out rfl rfl
 have k3:Hid (∀ x:Past W,Calls Tryz.prog 16 #[.agg #[.slice A l c]] x.w fun e w'' => e = .returned (.string oa) ∧ ∃ y:Past W,w'' = y.w):=Lib.hid fun x => zd2 x (c1 _ (HW.out.trans (x.b.mono HW.out.size)))
 have k4:Hid (∀ x:Past W,Calls Tryz.prog 16 #[.agg #[.slice A' l' c']] x.w fun e w'' => e = .returned (.string ob) ∧ ∃ y:Past W,w'' = y.w):=Lib.hid fun x => zd2 x (c2 _ (HW.out.trans (x.b.mono HW.out.size)))
 clear c1 c2 HPR
 repeat (go_big_quiet_step (first | with_reducible exact k1.out _ | with_reducible exact k2.out _ | with_reducible exact k3.out _ | with_reducible exact k4.out _))
 refine wpQuiet_nil ?_
 intro _ hw'
 obtain ⟨y,rfl⟩:=hw'
 have HB5:Hid (Below w.heap.size w y.w):=Lib.hid (HW.out.trans (y.b.mono HW.out.size))
 go_wp2_with fail
 refine (CE.out _ HB5.out).mono ?_
 rintro e w2 ⟨rfl,hb⟩
 have HB2:=Lib.hid (HB5.out.trans (hb.mono HB5.out.size))
 clear hb
 go_wp2_with fail
 go_ret
 exact ⟨rfl,HB2.out⟩
end Go.Proofs.YtfgelheiknmjgaaGreatDoor

