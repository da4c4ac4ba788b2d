
/-
 Texts joined: NF NG NH NP NT10 NT11 NT12.
-/
import Derived.Test.YtfgelheiknmjgaaGreatDoorZt45
set_option maxRecDepth 1000000
set_option maxHeartbeats 8000000
namespace Go.Proofs.YtfgelheiknmjgaaGreatDoor
open Go.RowKit
theorem zx3 (A A2:Option Addr) (c c2:Nat) (w:World):Calls Tryz.prog 74 #[.slice A 0 c,.slice A2 0 c2] w fun e w'=>e=.returned (.bool true)/\w=w':=by
 go_enter Tryz.func74, Tryz.ntmps74
 go_wp2_with fail
 refine (yo6 A A2 c c2 _ w).mono ?_
 rintro e w1 ⟨rfl,rfl⟩;go_wp2_with fail;go_ret
 exact ⟨rfl,rfl⟩
theorem zK3 (w:World):Calls Tryz.prog 76 #[.agg #[.string ⟨#[120]⟩,.slice none 0 0,.string ⟨#[73,110,116]⟩,.slice none 0 0,.slice none 0 0],.agg #[.string ⟨#[120]⟩,.slice none 0 0,.string ⟨#[73,110,116]⟩,.slice none 0 0,.slice none 0 0]] w fun e w'=>e=.returned (.bool true)/\Below w.heap.size w w':=by
 have HA:Hid (Bk ((w.alloc (.cells #[.string ⟨#[120]⟩,.slice none 0 0,.string ⟨#[73,110,116]⟩,.slice none 0 0,.slice none 0 0] 46 (0,0))).alloc (.cells #[.string ⟨#[120]⟩,.slice none 0 0,.string ⟨#[73,110,116]⟩,.slice none 0 0,.slice none 0 0] 46 (0,0))) w.heap.size #[.string ⟨#[120]⟩,.slice none 0 0,.string ⟨#[73,110,116]⟩,.slice none 0 0,.slice none 0 0] 46):=Lh ((Bk.new w #[.string ⟨#[120]⟩,.slice none 0 0,.string ⟨#[73,110,116]⟩,.slice none 0 0,.slice none 0 0] 46).stay (za0 _ _));have HB:Hid (Bk ((w.alloc (.cells #[.string ⟨#[120]⟩,.slice none 0 0,.string ⟨#[73,110,116]⟩,.slice none 0 0,.slice none 0 0] 46 (0,0))).alloc (.cells #[.string ⟨#[120]⟩,.slice none 0 0,.string ⟨#[73,110,116]⟩,.slice none 0 0,.slice none 0 0] 46 (0,0))) (w.heap.size+1) #[.string ⟨#[120]⟩,.slice none 0 0,.string ⟨#[73,110,116]⟩,.slice none 0 0,.slice none 0 0] 46):=Lh (by
  have h:=Bk.new (w.alloc (.cells #[.string ⟨#[120]⟩,.slice none 0 0,.string ⟨#[73,110,116]⟩,.slice none 0 0,.slice none 0 0] 46 (0,0))) #[.string ⟨#[120]⟩,.slice none 0 0,.string ⟨#[73,110,116]⟩,.slice none 0 0,.slice none 0 0] 46
  rwa [show (w.alloc (.cells #[.string ⟨#[120]⟩,.slice none 0 0,.string ⟨#[73,110,116]⟩,.slice none 0 0,.slice none 0 0] 46 (0,0))).heap.size=w.heap.size+1 by simp] at h)
 have HW:Hid (Below w.heap.size w ((w.alloc (.cells #[.string ⟨#[120]⟩,.slice none 0 0,.string ⟨#[73,110,116]⟩,.slice none 0 0,.slice none 0 0] 46 (0,0))).alloc (.cells #[.string ⟨#[120]⟩,.slice none 0 0,.string ⟨#[73,110,116]⟩,.slice none 0 0,.slice none 0 0] 46 (0,0)))):=Lh ((za0 w _).alloc (by simp) _);obtain ⟨y0,y1,y2,y3,y4⟩:=HA.out.c5;obtain ⟨z0,z1,z2,z3,z4⟩:=HB.out.c5;have CALL:=fun W=>K.zX5 ⟨#[73,110,116]⟩ ⟨#[73,110,116]⟩ [] [] (.agg #[.string ⟨#[73,110,116]⟩,.slice none 0 0]) (.agg #[.string ⟨#[73,110,116]⟩,.slice none 0 0]) W ⟨none,0,rfl,Nat.le_refl _,fun h=>absurd h (by simp)⟩ ⟨none,0,rfl,Nat.le_refl _,fun h=>absurd h (by simp)⟩ (by simp);simp only [and_self,decide_true] at CALL
 go_enter Tryz.func76, Tryz.ntmps76
 go_wp2_with fail
 refine (CALL _).mono ?_
 rintro e w1 ⟨rfl,hb⟩;have HW1:=Lh (HW.out.trans (hb.mono HW.out.size));have ha:=HA.out.stay hb;have hb2:=HB.out.stay hb;clear hb CALL y0 z0 y1 z1 y2 z2 y3 z3 y4 z4;obtain ⟨y0,y1,y2,y3,y4⟩:=ha.c5;obtain ⟨z0,z1,z2,z3,z4⟩:=hb2.c5;clear ha hb2;go_wp2_with fail;refine (zN5 none none 0 0 _ _).mono ?_
 rintro e w2 ⟨rfl,rfl⟩;go_wp2_with fail;refine (zx3 none none 0 0 _).mono ?_
 rintro e w2 ⟨rfl,rfl⟩;go_wp2_with fail;go_ret
 exact ⟨rfl,HW1.out⟩
theorem zY9 (g:Nat) (w:World) (hg:Bk w g #[.string ⟨#[120]⟩,.slice none 0 0,.string ⟨#[73,110,116]⟩,.slice none 0 0,.slice none 0 0] 46):Calls Tryz.prog 37 #[.agg #[.int .i64 1,.string ⟨#[84]⟩,.slice none 0 0,.slice none 0 0,.slice (some ⟨g,0,none⟩) 1 1,.slice none 0 0,.slice none 0 0],.agg #[.int .i64 1,.string ⟨#[84]⟩,.slice none 0 0,.slice none 0 0,.slice (some ⟨g,0,none⟩) 1 1,.slice none 0 0,.slice none 0 0]] w fun e w'=>e=.returned (.bool true)/\Below w.heap.size w w':=by
 have HA:Hid (Bk ((w.alloc (.cells #[.int .i64 1,.string ⟨#[84]⟩,.slice none 0 0,.slice none 0 0,.slice (some ⟨g,0,none⟩) 1 1,.slice none 0 0,.slice none 0 0] 39 (0,0))).alloc (.cells #[.int .i64 1,.string ⟨#[84]⟩,.slice none 0 0,.slice none 0 0,.slice (some ⟨g,0,none⟩) 1 1,.slice none 0 0,.slice none 0 0] 39 (0,0))) w.heap.size #[.int .i64 1,.string ⟨#[84]⟩,.slice none 0 0,.slice none 0 0,.slice (some ⟨g,0,none⟩) 1 1,.slice none 0 0,.slice none 0 0] 39):=Lh ((Bk.new w #[.int .i64 1,.string ⟨#[84]⟩,.slice none 0 0,.slice none 0 0,.slice (some ⟨g,0,none⟩) 1 1,.slice none 0 0,.slice none 0 0] 39).stay (za0 _ _));have HB:Hid (Bk ((w.alloc (.cells #[.int .i64 1,.string ⟨#[84]⟩,.slice none 0 0,.slice none 0 0,.slice (some ⟨g,0,none⟩) 1 1,.slice none 0 0,.slice none 0 0] 39 (0,0))).alloc (.cells #[.int .i64 1,.string ⟨#[84]⟩,.slice none 0 0,.slice none 0 0,.slice (some ⟨g,0,none⟩) 1 1,.slice none 0 0,.slice none 0 0] 39 (0,0))) (w.heap.size+1) #[.int .i64 1,.string ⟨#[84]⟩,.slice none 0 0,.slice none 0 0,.slice (some ⟨g,0,none⟩) 1 1,.slice none 0 0,.slice none 0 0] 39):=Lh (by
  have h:=Bk.new (w.alloc (.cells #[.int .i64 1,.string ⟨#[84]⟩,.slice none 0 0,.slice none 0 0,.slice (some ⟨g,0,none⟩) 1 1,.slice none 0 0,.slice none 0 0] 39 (0,0))) #[.int .i64 1,.string ⟨#[84]⟩,.slice none 0 0,.slice none 0 0,.slice (some ⟨g,0,none⟩) 1 1,.slice none 0 0,.slice none 0 0] 39
  rwa [show (w.alloc (.cells #[.int .i64 1,.string ⟨#[84]⟩,.slice none 0 0,.slice none 0 0,.slice (some ⟨g,0,none⟩) 1 1,.slice none 0 0,.slice none 0 0] 39 (0,0))).heap.size=w.heap.size+1 by simp] at h)
 have HW:Hid (Below w.heap.size w ((w.alloc (.cells #[.int .i64 1,.string ⟨#[84]⟩,.slice none 0 0,.slice none 0 0,.slice (some ⟨g,0,none⟩) 1 1,.slice none 0 0,.slice none 0 0] 39 (0,0))).alloc (.cells #[.int .i64 1,.string ⟨#[84]⟩,.slice none 0 0,.slice none 0 0,.slice (some ⟨g,0,none⟩) 1 1,.slice none 0 0,.slice none 0 0] 39 (0,0)))):=Lh ((za0 w _).alloc (by simp) _);obtain ⟨y0,y1,y2,y3,y4,y5,y6⟩:=HA.out.c7;obtain ⟨z0,z1,z2,z3,z4,z5,z6⟩:=HB.out.c7;have CALL:=Lh (yo5 ⟨#[120]⟩ ⟨#[73,110,116]⟩ none none none 0 0 0 0 0 0 g 1 _ (hg.stay HW.out) (fun W _=>zK3 W))
 go_enter Tryz.func37, Tryz.ntmps37
 go_wp2_with fail
 refine (yo3 none none 0 0 _).mono ?_
 rintro e w2 ⟨rfl,rfl⟩;go_wp2_with fail;refine (zx3 none none 0 0 _).mono ?_
 rintro e w2 ⟨rfl,rfl⟩;go_wp2_with fail;refine CALL.out.mono ?_
 rintro e w1 ⟨rfl,hb⟩;have HW1:=Lh (HW.out.trans (hb.mono HW.out.size));have ha:=HA.out.stay hb;have hb2:=HB.out.stay hb;clear hb CALL y0 z0 y1 z1 y2 z2 y3 z3 y4 z4 y5 z5 y6 z6;obtain ⟨y0,y1,y2,y3,y4,y5,y6⟩:=ha.c7;obtain ⟨z0,z1,z2,z3,z4,z5,z6⟩:=hb2.c7;clear ha hb2;go_wp2_with fail;refine (yo4 none none 0 0 _ _).mono ?_
 rintro e w2 ⟨rfl,rfl⟩;go_wp2_with fail;refine (zN5 none none 0 0 _ _).mono ?_
 rintro e w2 ⟨rfl,rfl⟩;go_wp2_with fail;go_ret
 exact ⟨rfl,HW1.out⟩
theorem same_ex (g d:Nat) (w:World) (hg:Bk w g #[.string ⟨#[120]⟩,.slice none 0 0,.string ⟨#[73,110,116]⟩,.slice none 0 0,.slice none 0 0] 46) (hd:Bk w d #[.int .i64 1,.string ⟨#[84]⟩,.slice none 0 0,.slice none 0 0,.slice (some ⟨g,0,none⟩) 1 1,.slice none 0 0,.slice none 0 0] 39):Calls Tryz.prog 18 #[.agg #[.slice (some ⟨d,0,none⟩) 1 1],.agg #[.slice (some ⟨d,0,none⟩) 1 1]] w fun e w'=>e=.returned (.bool true)/\Below w.heap.size w w':=by
 have HA:Hid (Bk ((w.alloc (.cells #[.slice (some ⟨d,0,none⟩) 1 1] 24 (0,0))).alloc (.cells #[.slice (some ⟨d,0,none⟩) 1 1] 24 (0,0))) w.heap.size #[.slice (some ⟨d,0,none⟩) 1 1] 24):=Lh ((Bk.new w #[.slice (some ⟨d,0,none⟩) 1 1] 24).stay (za0 _ _));have HB:Hid (Bk ((w.alloc (.cells #[.slice (some ⟨d,0,none⟩) 1 1] 24 (0,0))).alloc (.cells #[.slice (some ⟨d,0,none⟩) 1 1] 24 (0,0))) (w.heap.size+1) #[.slice (some ⟨d,0,none⟩) 1 1] 24):=Lh (by
  have h:=Bk.new (w.alloc (.cells #[.slice (some ⟨d,0,none⟩) 1 1] 24 (0,0))) #[.slice (some ⟨d,0,none⟩) 1 1] 24
  rwa [show (w.alloc (.cells #[.slice (some ⟨d,0,none⟩) 1 1] 24 (0,0))).heap.size=w.heap.size+1 by simp] at h)
 have HW:Hid (Below w.heap.size w ((w.alloc (.cells #[.slice (some ⟨d,0,none⟩) 1 1] 24 (0,0))).alloc (.cells #[.slice (some ⟨d,0,none⟩) 1 1] 24 (0,0)))):=Lh ((za0 w _).alloc (by simp) _);have y0:=HA.out.cell 0 _ rfl;have z0:=HB.out.cell 0 _ rfl;have CALL:=Lh (yo7 1 ⟨#[84]⟩ none none (some ⟨g,0,none⟩) none none 0 0 0 0 1 1 0 0 0 0 d 1 _ (hd.stay HW.out) (fun W hW=>zY9 g W ((hg.stay HW.out).stay hW)))
 go_enter Tryz.func18, Tryz.ntmps18
 go_wp2_with fail
 refine CALL.out.mono ?_
 rintro e w1 ⟨rfl,hb⟩;have HW1:=Lh (HW.out.trans (hb.mono HW.out.size));clear hb CALL y0 z0;go_wp2_with fail;go_ret
 exact ⟨rfl,HW1.out⟩
def exF:FldT:=⟨⟨#[120]⟩,[],⟨#[73,110,116]⟩,[],[]⟩
def exD:DefT:=⟨1,⟨#[84]⟩,[],[],[exF],[],[]⟩
theorem zB7 {α:Type} (k bytes:Nat) (R:World->Nat->(Nat->Value)->α->Prop) (W:World) (B:Nat):Sl k bytes R W B (.slice none 0 0) ([]:List α) :=
 ⟨none,0,rfl,Nat.le_refl _,by simp,fun _ _=>undef,fun h=>absurd h (by simp),fun i x h=>by simp at h⟩
theorem one_sl {α:Type} (k bytes:Nat) (R:World->Nat->(Nat->Value)->α->Prop) (W:World) (B g:Nat) (x : α) (cs:Array Value) (T:TypeId) (hb:bytes<=big) (hg:g<B) (hk:Bk W g cs T) (hs:cs.size=k) (hr:R W B (fun j=>cs.getD j undef) x):Sl k bytes R W B (.slice (some ⟨g,0,none⟩) 1 1) [x]:=by
 refine ⟨_,1,rfl,Nat.le_refl _,by simpa using hb,fun _ j=>cs.getD j undef,fun _=>⟨_,rfl,hg,fun i hi j hj=>?_⟩,fun i y hy=>?_⟩
 ·obtain rfl:i=0:=by simpa using hi
  have h1:=hk.cell j (cs.getD j undef) (by rw [Array.getD_eq_getD_getElem?,Array.getElem?_eq_getElem (by omega)]; rfl);rw [Nat.zero_mul]
  cases j with
  | zero=>exact h1
  | succ j=>simpa [at_,Addr.add] using h1
 ·cases i with
  | zero=>simp at hy; subst hy; exact hr
  | succ i=>simp at hy
theorem ex_defs (W:World) (B g d:Nat) (hg:g<B) (hd:d<B) (h1:Bk W g #[.string ⟨#[120]⟩,.slice none 0 0,.string ⟨#[73,110,116]⟩,.slice none 0 0,.slice none 0 0] 46)
  (h2:Bk W d #[.int .i64 1,.string ⟨#[84]⟩,.slice none 0 0,.slice none 0 0,.slice (some ⟨g,0,none⟩) 1 1,.slice none 0 0,.slice none 0 0] 39):DefsR W B (.slice (some ⟨d,0,none⟩) 1 1) [exD]:=by
 refine one_sl 7 144 DefR W B d exD _ _ (by decide) hd h2 rfl ?_
 refine ⟨rfl,⟨by decide,by decide⟩,rfl,by decide,zB7 _ _ _ _ _,zB7 _ _ _ _ _, ?_,zB7 _ _ _ _ _,zB7 _ _ _ _ _⟩
 refine one_sl 5 104 FldR W B g exF _ _ (by decide) hg h1 rfl ?_
 exact ⟨rfl,by decide,zB7 _ _ _ _ _,⟨rfl,by decide,zB7 _ _ _ _ _⟩,zB7 _ _ _ _ _⟩
theorem ex_fit:∀ x∈[exD],zC4 x:=by
 intro x hx;obtain rfl:x=exD:=by simpa using hx
 refine ⟨by decide, ?_, ?_, ?_, ?_⟩
 ·intro d hd; cases hd
 ·intro y hy
  obtain rfl:y=exF:=by simpa [exD] using hy
  refine ⟨⟨by decide,by decide⟩, ?_, ?_⟩
  ·intro y hy; cases hy
  ·intro y hy; cases hy
 ·intro y hy; cases hy
 ·intro y hy; cases hy
theorem LaidB.mono {B B':Nat} {w:World} (h:LaidB B w) (hb:B<=B'):LaidB B' w:=fun w' h'=>h w' (h'.mono hb)
theorem yo0:zh9 [exD]=[116,121,112,101,32,84,32,123,10,32,32,120,58,32,73,110,116,10,125,10]:=by decide
theorem yn9:(VT.mk 3 0 ⟨#[97]⟩ [] []).src=[34,97,34]:=by decide
theorem ex_vfit:(VT.mk 3 0 ⟨#[97]⟩ [] []).fit:=by
 rw [VT.fit];exact ⟨by decide,fun h=>absurd h (by decide),fun h=>absurd h (by decide),fun h=>absurd h (by decide),by decide,trivial⟩
theorem zM3 (w:World) (hL:LaidB w.heap.size w):Calls Tryz.prog 15 #[] w fun e w'=>e=.returned (.bool true)/\Below w.heap.size w w':=by
 have z1:(w.alloc (.cells #[.string ⟨#[120]⟩,.slice none 0 0,.string ⟨#[73,110,116]⟩,.slice none 0 0,.slice none 0 0] 46 (0,0))).heap.size=w.heap.size+1:=by simp
 have z2:((w.alloc (.cells #[.string ⟨#[120]⟩,.slice none 0 0,.string ⟨#[73,110,116]⟩,.slice none 0 0,.slice none 0 0] 46 (0,0))).alloc (.cells #[.int .i64 1,.string ⟨#[84]⟩,.slice none 0 0,.slice none 0 0,.slice (some ⟨w.heap.size,0,none⟩) 1 1,.slice none 0 0,.slice none 0 0] 39 (0,0))).heap.size=w.heap.size+2:=by simp
 have z3:(((w.alloc (.cells #[.string ⟨#[120]⟩,.slice none 0 0,.string ⟨#[73,110,116]⟩,.slice none 0 0,.slice none 0 0] 46 (0,0))).alloc (.cells #[.int .i64 1,.string ⟨#[84]⟩,.slice none 0 0,.slice none 0 0,.slice (some ⟨w.heap.size,0,none⟩) 1 1,.slice none 0 0,.slice none 0 0] 39 (0,0))).alloc (.cells #[.slice (some ⟨w.heap.size+1,0,none⟩) 1 1] 24 (0,0))).heap.size=w.heap.size+3:=by simp
 have b1:Below w.heap.size w (w.alloc (.cells #[.string ⟨#[120]⟩,.slice none 0 0,.string ⟨#[73,110,116]⟩,.slice none 0 0,.slice none 0 0] 46 (0,0))):=za0 _ _;have b2:Below w.heap.size w ((w.alloc (.cells #[.string ⟨#[120]⟩,.slice none 0 0,.string ⟨#[73,110,116]⟩,.slice none 0 0,.slice none 0 0] 46 (0,0))).alloc (.cells #[.int .i64 1,.string ⟨#[84]⟩,.slice none 0 0,.slice none 0 0,.slice (some ⟨w.heap.size,0,none⟩) 1 1,.slice none 0 0,.slice none 0 0] 39 (0,0))):=b1.alloc (by omega) _;have b3:Below w.heap.size w (((w.alloc (.cells #[.string ⟨#[120]⟩,.slice none 0 0,.string ⟨#[73,110,116]⟩,.slice none 0 0,.slice none 0 0] 46 (0,0))).alloc (.cells #[.int .i64 1,.string ⟨#[84]⟩,.slice none 0 0,.slice none 0 0,.slice (some ⟨w.heap.size,0,none⟩) 1 1,.slice none 0 0,.slice none 0 0] 39 (0,0))).alloc (.cells #[.slice (some ⟨w.heap.size+1,0,none⟩) 1 1] 24 (0,0))):=b2.alloc (by omega) _;have h1:Bk (((w.alloc (.cells #[.string ⟨#[120]⟩,.slice none 0 0,.string ⟨#[73,110,116]⟩,.slice none 0 0,.slice none 0 0] 46 (0,0))).alloc (.cells #[.int .i64 1,.string ⟨#[84]⟩,.slice none 0 0,.slice none 0 0,.slice (some ⟨w.heap.size,0,none⟩) 1 1,.slice none 0 0,.slice none 0 0] 39 (0,0))).alloc (.cells #[.slice (some ⟨w.heap.size+1,0,none⟩) 1 1] 24 (0,0))) w.heap.size #[.string ⟨#[120]⟩,.slice none 0 0,.string ⟨#[73,110,116]⟩,.slice none 0 0,.slice none 0 0] 46 := ((Bk.new w #[.string ⟨#[120]⟩,.slice none 0 0,.string ⟨#[73,110,116]⟩,.slice none 0 0,.slice none 0 0] 46).stay (za0 _ _)).stay (za0 _ _);have h2:Bk (((w.alloc (.cells #[.string ⟨#[120]⟩,.slice none 0 0,.string ⟨#[73,110,116]⟩,.slice none 0 0,.slice none 0 0] 46 (0,0))).alloc (.cells #[.int .i64 1,.string ⟨#[84]⟩,.slice none 0 0,.slice none 0 0,.slice (some ⟨w.heap.size,0,none⟩) 1 1,.slice none 0 0,.slice none 0 0] 39 (0,0))).alloc (.cells #[.slice (some ⟨w.heap.size+1,0,none⟩) 1 1] 24 (0,0))) (w.heap.size+1) #[.int .i64 1,.string ⟨#[84]⟩,.slice none 0 0,.slice none 0 0,.slice (some ⟨w.heap.size,0,none⟩) 1 1,.slice none 0 0,.slice none 0 0] 39 := by
  have h:=(Bk.new (w.alloc (.cells #[.string ⟨#[120]⟩,.slice none 0 0,.string ⟨#[73,110,116]⟩,.slice none 0 0,.slice none 0 0] 46 (0,0))) #[.int .i64 1,.string ⟨#[84]⟩,.slice none 0 0,.slice none 0 0,.slice (some ⟨w.heap.size,0,none⟩) 1 1,.slice none 0 0,.slice none 0 0] 39).stay (za0 _ (.cells #[.slice (some ⟨w.heap.size+1,0,none⟩) 1 1] 24 (0,0)))
  rwa [z1] at h
 have h3:Bk (((w.alloc (.cells #[.string ⟨#[120]⟩,.slice none 0 0,.string ⟨#[73,110,116]⟩,.slice none 0 0,.slice none 0 0] 46 (0,0))).alloc (.cells #[.int .i64 1,.string ⟨#[84]⟩,.slice none 0 0,.slice none 0 0,.slice (some ⟨w.heap.size,0,none⟩) 1 1,.slice none 0 0,.slice none 0 0] 39 (0,0))).alloc (.cells #[.slice (some ⟨w.heap.size+1,0,none⟩) 1 1] 24 (0,0))) (w.heap.size+1+1) #[.slice (some ⟨w.heap.size+1,0,none⟩) 1 1] 24 := by
  have h:=Bk.new ((w.alloc (.cells #[.string ⟨#[120]⟩,.slice none 0 0,.string ⟨#[73,110,116]⟩,.slice none 0 0,.slice none 0 0] 46 (0,0))).alloc (.cells #[.int .i64 1,.string ⟨#[84]⟩,.slice none 0 0,.slice none 0 0,.slice (some ⟨w.heap.size,0,none⟩) 1 1,.slice none 0 0,.slice none 0 0] 39 (0,0))) #[.slice (some ⟨w.heap.size+1,0,none⟩) 1 1] 24
  rwa [z2] at h
 have CP:=zL2 [exD] ex_fit (.slice (some ⟨w.heap.size+1,0,none⟩) 1 1) (((w.alloc (.cells #[.string ⟨#[120]⟩,.slice none 0 0,.string ⟨#[73,110,116]⟩,.slice none 0 0,.slice none 0 0] 46 (0,0))).alloc (.cells #[.int .i64 1,.string ⟨#[84]⟩,.slice none 0 0,.slice none 0 0,.slice (some ⟨w.heap.size,0,none⟩) 1 1,.slice none 0 0,.slice none 0 0] 39 (0,0))).alloc (.cells #[.slice (some ⟨w.heap.size+1,0,none⟩) 1 1] 24 (0,0))) (ex_defs _ _ _ _ (by omega) (by omega) h1 h2) ((hL.kept b3).mono (by omega)) (by rw [yo0]; decide) (by rw [yo0]; decide);rw [yo0] at CP;have CALLP:=Lh CP;have H1:=Lh h1;have H2:=Lh h2;have H3:=Lh h3;have HB3:=Lh b3;have HL:=Lh hL;have y0:=h3.cell 0 _ rfl;clear hL CP z1 z2 b1 b2 b3 h1 h2 h3
 go_enter Tryz.func15, Tryz.ntmps15
 go_wp2_with fail
 refine CALLP.out.mono ?_
 rintro e w4 ⟨rfl,hb⟩;have HW4:=Lh (HB3.out.trans (hb.mono HB3.out.size));have H14:=Lh (H1.out.stay hb);have H24:=Lh (H2.out.stay hb);have h34:=H3.out.stay hb;clear hb CALLP y0 z3 H1 H2 H3 HB3;have y0:=h34.cell 0 _ rfl;clear h34;go_wp2_with fail;refine (same_ex w.heap.size (w.heap.size+1) w4 H14.out H24.out).mono ?_
 rintro e w5 ⟨rfl,hb⟩;have HW5:=Lh (HW4.out.trans (hb.mono HW4.out.size));clear hb y0;go_wp2_with fail;refine (yf8 ⟨#[97]⟩ w5).mono ?_
 rintro e w6 ⟨rfl,hb⟩;have HW6:=Lh (HW5.out.trans (hb.mono HW5.out.size));clear hb;have CV:=zF9 (.mk 3 0 ⟨#[97]⟩ [] []) ex_vfit (.agg #[.int .i64 3,.int .i64 0,.string ⟨#[97]⟩,.slice none 0 0,.slice none 0 0]) w6 (Rd.leaf ⟨by decide,by decide⟩ ⟨by decide,by decide⟩ (by decide)) ((HL.out.kept HW6.out).mono HW6.out.size) (by rw [yn9]; decide) (by rw [yn9]; decide);rw [yn9] at CV;have CALLV:=Lh CV;clear CV;go_wp2_with fail;refine CALLV.out.mono ?_
 rintro e w7 ⟨rfl,hb⟩;have HW7:=Lh (HW6.out.trans (hb.mono HW6.out.size));clear hb CALLV;go_wp2_with fail;go_ret
 exact ⟨rfl,HW7.out⟩
theorem nm_pos {s:ByteArray} (h:nmA s=true):0<s.size:=by
 unfold nmA nameL at h;simp only [Bool.and_eq_true,Bool.not_eq_true',List.isEmpty_eq_false_iff] at h;have:=h.1.1.1;rw [<- za5];exact List.length_pos_iff.2 this
theorem sbw_le (s:ByteArray) (k n:Int) (items:List VT) (keys:List ByteArray):s.size<=(VT.mk k n s items keys).bw:=by rw [bw_eq]; omega
theorem no {P:Prop} {a b:Int} (h:a≠b):a=b->P:=fun e=>absurd e h
theorem zN2 (t:VT):zc0 true t=true->t.bw<=1048576->t.fit:=by
 induction t using VT.ind with
 | h k n s is ks ih =>
 intro h hb;rw [zc0,zw1,Bool.and_eq_true] at h;obtain ⟨h1,h2⟩:=h;have hs:=sbw_le s k n is ks;have hi:VT.fits is:=by
  refine yn6 fun t ht=>?_
  obtain ⟨i,hi⟩:=List.mem_iff_getElem?.1 ht;have hbt:=bws_at hi;rw [bw_eq] at hb;exact ih i t hi (List.all_eq_true.1 h2 t ht) (by omega)
 rw [VT.fit];rw [nodeB] at h1;by_cases k0:k=0
 ·subst k0; exact ⟨by decide,no (by decide),no (by decide),no (by decide),by omega,hi⟩
 rw [if_neg k0] at h1;by_cases k1:k=1
 ·subst k1
  rw [if_pos rfl] at h1;simp only [Bool.and_eq_true,Bool.or_eq_true,decide_eq_true_eq] at h1;exact ⟨by decide,fun _=>h1.1.1,no (by decide),no (by decide),by omega,hi⟩
 rw [if_neg k1] at h1;by_cases k2:k=2
 ·subst k2; exact ⟨by decide,no (by decide),no (by decide),no (by decide),by omega,hi⟩
 rw [if_neg k2] at h1;by_cases k3:k=3
 ·subst k3; exact ⟨by decide,no (by decide),no (by decide),no (by decide),by omega,hi⟩
 rw [if_neg k3] at h1;by_cases k4:k=4
 ·subst k4
  rw [if_pos rfl] at h1;simp only [Bool.and_eq_true] at h1;have:=h1.1.2;unfold enumB at this;simp only [Bool.and_eq_true] at this;exact ⟨by decide,no (by decide),no (by decide),fun _=>nm_pos this.2,by omega,hi⟩
 rw [if_neg k4] at h1;by_cases k5:k=5
 ·subst k5; exact ⟨by decide,no (by decide),no (by decide),no (by decide),by omega,hi⟩
 rw [if_neg k5] at h1;by_cases k6:k=6
 ·subst k6
  rw [if_pos rfl] at h1;simp only [Bool.and_eq_true,decide_eq_true_eq] at h1;exact ⟨by decide,no (by decide),fun _=>h1.1.2,no (by decide),by omega,hi⟩
 rw [if_neg k6] at h1;by_cases k7:k=7
 ·subst k7; exact ⟨by decide,no (by decide),no (by decide),no (by decide),by omega,hi⟩
 rw [if_neg k7] at h1;cases h1
theorem zU8 (sep:List UInt8):∀ (xs:List (List UInt8)),(jn sep xs).length<=(xs.map (fun x=>x.length+sep.length)).sum
 | []=>by simp [jn]
 | a::r=>by
   have h:∀ l:List (List UInt8),(l.map (fun x=>sep++x)).flatten.length=(l.map (fun x=>x.length+sep.length)).sum:=by
    intro l
    induction l with
    | nil=>rfl
    | cons b q ih=>simp [ih]; omega
   simp only [jn,List.length_append,List.map_cons,List.sum_cons,h]
   omega
theorem qL_len (s:ByteArray):(T1.zj4 s.data.toList).length<=6*s.size+2:=by
 have h:=T1.zV4 s.data.toList;rw [T1.size_eq] at h;unfold T1.zj4;simp only [List.length_append,List.length_cons,List.length_nil,List.length_flatMap] at h ⊢;omega
theorem ye3 (t:VT):∀ (w:World) (B:Nat) (v:Value),Rd w B v t->t.src.length+2<=30*t.bw:=by
 induction t using VT.ind with
 | h k n s items keys ih =>
 intro w B v h
 cases h with
 | @mk _ _ _ A li ci K lk ck _ _ V hk hn hs hks hli hlk hbi hbk hA hr hK =>
 have hl:∀ l:List VT,(∀ t∈l,t.src.length+2<=30*t.bw)->((l.map VT.src).map (fun x=>x.length+2)).sum<=30*VT.bws l:=by
  intro l
  induction l with
  | nil=>intro _; simp [VT.bws]
  | cons x r ihl =>
    intro hx;have h1:=hx x (by simp);have h2:=ihl (fun t ht=>hx t (by simp [ht]));simp only [List.map_cons,List.sum_cons,VT.bws]
    omega
 have hi:∀ t∈items,t.src.length+2<=30*t.bw:=fun t ht=>by
  obtain ⟨i,hi⟩:=List.mem_iff_getElem?.1 ht;exact ih i t hi w B _ (hr i t hi)
 have ho:∀ (ks:List ByteArray) (l:List VT),(∀ t∈l,t.src.length+2<=30*t.bw)->((zh6 ks l).map (fun x=>x.length+2)).sum<=30*(ksum ks+VT.bws l):=by
  intro ks
  induction ks with
  | nil=>intro l _; simp [zh6]
  | cons a r ihk =>
    intro l hx
    cases l with
    | nil=>simp [zh6]
    | cons x q =>
      have h1:=hx x (by simp);have h2:=ihk q (fun t ht=>hx t (by simp [ht]));have h3:ksum (a::r)=1+a.size+ksum r:=by simp [ksum]
      unfold zh6 at h2 ⊢;simp only [List.map_cons,List.zipWith_cons_cons,List.sum_cons,VT.bws,List.length_append,List.length_cons,za5,h3] at h2 ⊢;omega
 rw [zo9,bw_eq];have hit:=Lib.itoa_length_le n hn.1 hn.2;have hq:=qL_len s;have h5:=zU8 [44,32] (items.map VT.src);have h6:=zU8 [44,32] (zh6 keys items);have h5':=hl items hi;have h6':=ho keys items hi;have e2:([44,32]:List UInt8).length=2:=rfl;rw [e2] at h5 h6;have hqq:(qL s).length<=6*s.size+2:=hq;have n1:nullB.length=4:=rfl;have n2:falseB.length=5:=rfl;have n3:trueB.length=4:=rfl
 repeat' split
 all_goals (try simp only [List.length_cons,List.length_append,List.length_nil,za5,n1,n2,n3])
 all_goals omega
theorem nm_le {s:ByteArray} (h:nmA s=true):s.size<=64:=by
 unfold nmA nameL at h;simp only [Bool.and_eq_true,decide_eq_true_eq] at h;have:=h.1.1.2;rw [<- za5]; exact this
theorem zm0 {α:Type} {a b:Nat} {xs:List α} {p : α->Bool} (h:ltB a b xs p=true):xs.length<=b/\∀ x∈xs,p x=true:=by
 unfold ltB at h;simp only [Bool.and_eq_true,decide_eq_true_eq] at h;exact ⟨h.2.1,fun x hx=>List.all_eq_true.1 h.2.2 x hx⟩
theorem yq6 {y:ByteArray × VT} (hs:y.2.bw<=1048576) (h:zu5 y=true):y.2.fit/\y.1.size<=64:=by
 unfold zu5 zd9 at h;simp only [Bool.and_eq_true] at h;exact ⟨zN2 _ h.2.1.2 hs,nm_le h.1⟩
theorem zz3 {l:List DirT} (hs:dirsQ l) (h:zd3 l=true):zk0 l:=fun d hd y hy=>by
 have h1:=(zm0 h).2 d hd;unfold zu3 at h1;simp only [Bool.and_eq_true] at h1;exact (yq6 (hs d hd y hy) (List.all_eq_true.1 h1.2.2 y hy)).1
theorem zK0 {α:Type} (f : α->Nat) (M:Nat):∀ (l:List α),(∀ x∈l,f x<=M)->(l.map f).sum<=l.length*M
 | [],_=>by simp
 | x::r,h=>by
   have h1:=h x (by simp);have h2:=zK0 f M r fun y hy=>h y (by simp [hy]);rw [List.map_cons,List.sum_cons,List.length_cons,Nat.succ_mul];omega
theorem zv4 (sep:List UInt8) (xs:List (List UInt8)) (M n:Nat) (hx:∀ x∈xs,x.length<=M) (hn:xs.length<=n):(jn sep xs).length<=n*(M+sep.length):=by
 have h1:=zU8 sep xs;have h2:=zK0 (fun x:List UInt8=>x.length+sep.length) (M+sep.length) xs fun x hx'=>by have:=hx x hx'; omega
 exact Nat.le_trans h1 (Nat.le_trans h2 (Nat.mul_le_mul_right _ hn))
theorem dirs_len {l:List DirT} {w:World} {B:Nat} {v:Value} (hr:DirsR w B v l) (hs:dirsQ l) (h:zd3 l=true):(zI2 l).length<=10000000000:=by
 have h0:=zm0 h;have h1:∀ x∈l.map zy0,x.length<=503318600:=by
  intro x hx;obtain ⟨d,hd,rfl⟩:=List.mem_map.1 hx;have hk:=h0.2 d hd;unfold zu3 at hk;simp only [Bool.and_eq_true,decide_eq_true_eq] at hk;have hnm:=nm_le hk.1;obtain ⟨A,c,_,_,_,V,_,hel⟩:=hr;obtain ⟨i,hi⟩:=List.mem_iff_getElem?.1 hd;obtain ⟨A1,c1,_,_,_,V1,_,hel1⟩:=(hel i d hi).args;have ha:∀ z∈d.args.map zy3,z.length<=31457400:=by
   intro z hz;obtain ⟨y,hy,rfl⟩:=List.mem_map.1 hz;obtain ⟨q,hq⟩:=List.mem_iff_getElem?.1 hy;have hsl:=ye3 y.2 w B _ (hel1 q y hq).val;have hb:=hs d hd y hy;have hn:=(yq6 hb (List.all_eq_true.1 hk.2.2 y hy)).2;unfold zy3;simp only [List.length_append,List.length_cons,List.length_nil,za5];omega
  have hj:=zv4 [44,32] _ _ 16 ha (by rw [List.length_map]; exact hk.2.1);unfold zy0
  split
  ·simp only [List.length_append,List.length_cons,List.length_nil,za5]; omega
  ·simp only [List.length_append,List.length_cons,List.length_nil,za5] at hj ⊢
   omega
 have hj:=zv4 [32] _ _ 16 h1 (by rw [List.length_map]; exact h0.1);unfold zI2;simp only [List.length_cons,List.length_nil] at hj;omega
theorem zI3 {l:List DirT} (h:dirsQ l):dirsZ l:=fun d hd y hy=>by
 have h1:=h d hd y hy;have h2:=ye5 y.2;omega
theorem ym5 {l:List InpT} (h:inpsQ l):inpsZ l:=fun x hx=>⟨by have h1:=(h x hx).1; have h2:=ye5 x.dflt; omega,zI3 (h x hx).2.1⟩
theorem defsQ_Z {l:List DefT} (h:defsQ l):defsZ l:=fun x hx =>
 ⟨zI3 (h x hx).1,fun y hy=>⟨ym5 ((h x hx).2.2.1 y hy).1,zI3 ((h x hx).2.2.1 y hy).2.1⟩,fun y hy=>zI3 ((h x hx).2.2.2.1 y hy),ym5 (h x hx).2.1⟩
theorem rf_ok {n:ByteArray} {ws:List Int} (h:K.okB n ws=true):rfFit n ws/\(zp4 n ws).length<=200:=by
 obtain ⟨h1,h2,_⟩:=K.ok_len h;have h3:n.size<=64:=nm_le h1;have h4:=K.pr_len n.data.toList ws;have h5:n.data.toList.length=n.size:=za5 n;unfold rfFit zp4;exact ⟨⟨by omega,by omega⟩,by omega⟩
theorem zy7 {l:List DirT} {w:World} {B:Nat} {v:Value} (hr:DirsR w B v l) (hs:dirsQ l) (h:zd3 l=true):(zd2 l).length<=10000000001:=by
 have h1:=dirs_len hr hs h;unfold zd2
 split
 ·simp
 ·simp only [List.length_append,List.length_cons,List.length_nil]; omega
theorem ym8 {x:InpT} (hd:x.dflt.bw<=1048576) (hs:dirsQ x.dirs) (h:zo4 x=true):yn0 x/\x.name.size<=64:=by
 unfold zo4 at h;simp only [Bool.and_eq_true] at h;refine ⟨⟨(rf_ok h.2.1).1,fun hh=>?_,zz3 hs h.2.2.1⟩,nm_le h.1⟩
 have h1:=h.2.2.2;rw [if_pos hh] at h1;unfold zd9 at h1;simp only [Bool.and_eq_true] at h1;exact zN2 _ h1.1.2 hd
theorem ym9 {x:InpT} {w:World} {B:Nat} {f:Nat->Value} (hr:InpR w B f x) (hd:x.dflt.bw<=1048576) (hs:dirsQ x.dirs) (h:zo4 x=true):(zm3 x).length<=10040000000:=by
 have hn:=(ym8 hd hs h).2;unfold zo4 at h;simp only [Bool.and_eq_true] at h;have h1:=(rf_ok h.2.1).2;have h2:=zy7 hr.dirs hs h.2.2.1;have h3:=ye3 x.dflt w B _ hr.val;unfold zm3;simp only [List.length_append,List.length_cons,List.length_nil,za5]
 split
 ·simp only [List.length_append,List.length_cons,List.length_nil]; omega
 ·simp only [List.length_nil]; omega
theorem fld_ok {x:FldT} (hs:inpsQ x.args/\dirsQ x.dirs/\x.tw.length<=17592186044416) (h:zo5 x=true):yn5 x/\x.args.length<=16/\x.dirs.length<=16:=by
 unfold zo5 at h;simp only [Bool.and_eq_true] at h;have h1:=zm0 h.2.1;exact ⟨⟨(rf_ok h.2.2.1).1,fun y hy=>(ym8 (hs.1 y hy).1 (hs.1 y hy).2.1 (h1.2 y hy)).1,zz3 hs.2.1 h.2.2.2⟩,h1.1,(zm0 h.2.2.2).1⟩
theorem fld_len {x:FldT} {w:World} {B:Nat} {f:Nat->Value} (hr:FldR w B f x) (hs:inpsQ x.args/\dirsQ x.dirs/\x.tw.length<=17592186044416) (h:zo5 x=true):(zm8 x).length+3<=10100000000*(1+cntF x):=by
 unfold zo5 at h;simp only [Bool.and_eq_true] at h;have h1:=zm0 h.2.1;have hn:=nm_le h.1;have h2:=(rf_ok h.2.2.1).2;have h3:=zy7 hr.dirs hs.2.1 h.2.2.2;obtain ⟨A1,c1,_,_,_,V1,_,hel1⟩:=hr.args;have ha:∀ z∈x.args.map zm3,z.length<=10040000000:=by
  intro z hz;obtain ⟨y,hy,rfl⟩:=List.mem_map.1 hz;obtain ⟨q,hq⟩:=List.mem_iff_getElem?.1 hy;exact ym9 (hel1 q y hq) (hs.1 y hy).1 (hs.1 y hy).2.1 (h1.2 y hy)
 have hj:=zv4 [44,32] _ _ x.args.length ha (by rw [List.length_map]; exact Nat.le_refl _);simp only [List.length_cons,List.length_nil] at hj
 unfold zm8 cntF
 split
 ·simp only [List.length_append,List.length_cons,List.length_nil,za5]; omega
 ·simp only [List.length_append,List.length_cons,List.length_nil,za5]; omega
theorem zn6 {α:Type} (txt : α->List UInt8) (g : α->Nat) (M:Nat):∀ (l:List α),(∀ x∈l,(txt x).length+3<=M*g x)->(((l.map txt).map zb6).flatten).length<=M*(l.map g).sum
 | [],_=>by simp
 | x::r,h=>by
   have h1:=h x (by simp);have h2:=zn6 txt g M r fun y hy=>h y (by simp [hy]);have h3:(zb6 (txt x)).length=(txt x).length+3:=by unfold zb6; simp only [List.length_append,List.length_cons,List.length_nil]; omega
   rw [List.map_cons,List.map_cons,List.flatten_cons,List.length_append,List.map_cons,List.sum_cons,Nat.mul_add,h3];omega
theorem zU3 {α:Type} (l:List α):(l.map fun _=>1).sum=l.length:=by
 induction l with
 | nil=>rfl
 | cons x r ih=>rw [List.map_cons,List.sum_cons,ih,List.length_cons]; omega
theorem plus_sum {α:Type} (g : α->Nat) (l:List α):(l.map fun y=>1+g y).sum=l.length+(l.map g).sum:=by
 induction l with
 | nil=>rfl
 | cons x r ih=>rw [List.map_cons,List.sum_cons,ih,List.length_cons,List.map_cons,List.sum_cons]; omega
theorem def_ok {x:DefT} (hs:dirsQ x.dirs/\inpsQ x.inputs/\fldsQ x.fields/\memsQ x.members/\x.impl.length<=17592186044416) (h:ze2 x=true) (hk:1<=x.kind/\x.kind<=5)
  (hF:zj9 x.fields=true∨x.fields.length=0) (hM:(∃ p,zf6 p x.members=true/\(x.kind=3->p=true))∨x.members.length=0) (hI:zg5 x.inputs=true∨x.inputs.length=0) :
  (zC4 x/\(x.kind=3->∀ y∈x.members,y.dirs=[])/\x.impl.length<=64)/\smallD x:=by
 unfold ze2 at h;simp only [Bool.and_eq_true,decide_eq_true_eq] at h;have hf:x.fields.length<=64/\∀ y∈x.fields,zo5 y=true:=by
  rcases hF with hF | hF
  ·exact zm0 hF
  ·exact ⟨by omega,fun y hy=>by rw [List.length_eq_zero_iff.1 hF] at hy; cases hy⟩
 have hm:x.members.length<=64/\∀ y∈x.members,zd3 y.dirs=true/\(x.kind=3->y.dirs=[]):=by
  rcases hM with ⟨p,hM,hp⟩ | hM
  ·refine ⟨(zm0 hM).1,fun y hy=>?_⟩
   have h1:=(zm0 hM).2 y hy;unfold zj3 at h1;simp only [Bool.and_eq_true] at h1;refine ⟨h1.2.1,fun h3=>?_⟩
   have h2:=h1.2.2;rw [hp h3] at h2;simp at h2;exact h2
  ·exact ⟨by omega,fun y hy=>by rw [List.length_eq_zero_iff.1 hM] at hy; cases hy⟩
 have hi:x.inputs.length<=16/\∀ y∈x.inputs,zo4 y=true:=by
  rcases hI with hI | hI
  ·exact zm0 hI
  ·exact ⟨by omega,fun y hy=>by rw [List.length_eq_zero_iff.1 hI] at hy; cases hy⟩
 have hd:=zm0 h.2.1;refine ⟨⟨⟨hk,zz3 hs.1 h.2.1,fun y hy=>(fld_ok (hs.2.2.1 y hy) (hf.2 y hy)).1,fun y hy=>zz3 (hs.2.2.2.1 y hy) (hm.2 y hy).1,fun y hy=>(ym8 (hs.2.1 y hy).1 (hs.2.1 y hy).2.1 (hi.2 y hy)).1⟩,fun h3 y hy=>(hm.2 y hy).2 h3,h.2.2.1⟩,h.2.2.1,by omega,hm.1,by omega,hf.1,fun y hy=>?_⟩;have h1:=(fld_ok (hs.2.2.1 y hy) (hf.2 y hy)).2;exact ⟨by omega,by omega⟩
theorem zC3 {x:DefT} (h:ze2 x=true):(1<=x.kind/\x.kind<=5)/\(zj9 x.fields=true∨x.fields.length=0)/\((∃ p,zf6 p x.members=true/\(x.kind=3->p=true))∨x.members.length=0)/\(zg5 x.inputs=true∨x.inputs.length=0):=by
 unfold ze2 at h;simp only [Bool.and_eq_true] at h;have h1:=h.2.2.2.2;unfold zw4 at h1
 split at h1
 ·simp only [Bool.and_eq_true,decide_eq_true_eq] at h1; exact ⟨by omega,.inl h1.1,.inr h1.2.1,.inr h1.2.2⟩
 split at h1
 ·simp only [Bool.and_eq_true,decide_eq_true_eq] at h1; exact ⟨by omega,.inl h1.2.1,.inr h1.2.2.1,.inr h1.2.2.2⟩
 split at h1
 ·simp only [Bool.and_eq_true,decide_eq_true_eq] at h1; exact ⟨by omega,.inr h1.2.1,.inl ⟨true,h1.2.2.1,fun _=>rfl⟩,.inr h1.2.2.2⟩
 split at h1
 ·simp only [Bool.and_eq_true,decide_eq_true_eq] at h1; exact ⟨by omega,.inr h1.2.1,.inl ⟨false,h1.2.2.1,fun _=>by omega⟩,.inr h1.2.2.2⟩
 split at h1
 ·simp only [Bool.and_eq_true,decide_eq_true_eq] at h1; exact ⟨by omega,.inr h1.2.1,.inr h1.2.2.1,.inl h1.2.2.2.2⟩
 ·cases h1
theorem zI8 (ds:List DirT) (ls:List (List UInt8)):(zj7 ds ls).length=(zd2 ds).length+((ls.map zb6).flatten).length+5:=by
 unfold zj7; simp only [List.length_append,List.length_cons,List.length_nil]; omega
theorem def_len {x:DefT} {w:World} {B:Nat} {f:Nat->Value} (hr:DefR w B f x) (hs:dirsQ x.dirs/\inpsQ x.inputs/\fldsQ x.fields/\memsQ x.members/\x.impl.length<=17592186044416) (h:ze2 x=true):(zk1 x).length+1<=10300000000*cntD x:=by
 obtain ⟨hk,hF,hM,hI⟩:=zC3 h;unfold ze2 at h;simp only [Bool.and_eq_true,decide_eq_true_eq] at h;have hn:=nm_le h.1;have ht:=zy7 hr.dirs hs.1 h.2.1;have hfl:(((x.fields.map zm8).map zb6).flatten).length<=10100000000*(x.fields.length+(x.fields.map cntF).sum):=by
  rw [<- plus_sum];refine zn6 zm8 (fun y=>1+cntF y) 10100000000 x.fields fun y hy=>?_;rcases hF with hF | hF
  ·obtain ⟨A1,c1,_,_,_,V1,_,hel1⟩:=hr.fields
   obtain ⟨q,hq⟩:=List.mem_iff_getElem?.1 hy;exact fld_len (hel1 q y hq) (hs.2.2.1 y hy) ((zm0 hF).2 y hy)
  ·rw [List.length_eq_zero_iff.1 hF] at hy; cases hy
 have hme:∀ y∈x.members,(zi6 y).length+3<=10100000000*1:=fun y hy=>by
  rcases hM with ⟨p,hM,_⟩ | hM
  ·obtain ⟨A1,c1,_,_,_,V1,_,hel1⟩:=hr.members
   obtain ⟨q,hq⟩:=List.mem_iff_getElem?.1 hy;have h1:=(zm0 hM).2 y hy;unfold zj3 at h1;simp only [Bool.and_eq_true] at h1;have h2:=zy7 (hel1 q y hq).dirs (hs.2.2.2.1 y hy) h1.2.1;have h3:=nm_le h1.1;unfold zi6;simp only [List.length_append,za5]; omega
  ·rw [List.length_eq_zero_iff.1 hM] at hy; cases hy
 have hml:(((x.members.map zi6).map zb6).flatten).length<=10100000000*x.members.length:=by
  have h1:=zn6 zi6 (fun _=>1) 10100000000 x.members hme
  rwa [zU3] at h1
 have hmj:(jn [32,124,32] (x.members.map zi6)).length<=x.members.length*(10100000000+3):=by
  have h1:=zv4 [32,124,32] (x.members.map zi6) 10100000000 x.members.length (by
   intro z hz;obtain ⟨y,hy,rfl⟩:=List.mem_map.1 hz;have:=hme y hy; omega) (by rw [List.length_map]; exact Nat.le_refl _)
  exact h1
 have hil:(((x.inputs.map zm3).map zb6).flatten).length<=10100000000*x.inputs.length:=by
  have h1:=zn6 zm3 (fun _=>1) 10100000000 x.inputs fun y hy=>by
   rcases hI with hI | hI
   ·obtain ⟨A1,c1,_,_,_,V1,_,hel1⟩:=hr.inputs
    obtain ⟨q,hq⟩:=List.mem_iff_getElem?.1 hy;have h2:=ym9 (hel1 q y hq) (hs.2.1 y hy).1 (hs.2.1 y hy).2.1 ((zm0 hI).2 y hy);omega
   ·rw [List.length_eq_zero_iff.1 hI] at hy; cases hy
  rwa [zU3] at h1
 have him:(zp9 x.impl).length<=12+x.impl.length*67:=by
  have h1:=zv4 [32,38,32] (x.impl.map bL) 64 x.impl.length (by
   intro z hz;obtain ⟨y,hy,rfl⟩:=List.mem_map.1 hz;rw [za5]; exact nm_le (List.all_eq_true.1 h.2.2.2.1 y hy)) (by rw [List.length_map]; exact Nat.le_refl _)
  simp only [List.length_cons,List.length_nil] at h1
  unfold zp9
  split
  ·simp
  ·simp only [List.length_append,List.length_cons,List.length_nil]; omega
 have e1:wType.length=5:=rfl;have e2:wInterface.length=10:=rfl;have e3:wUnion.length=6:=rfl;have e4:wEnum.length=5:=rfl;have e5:wInput.length=6:=rfl;unfold zk1 zJ8 cntD
 split
 ·simp only [List.length_append,za5,zI8]; omega
 split
 ·simp only [List.length_append,za5,zI8]; omega
 split
 ·simp only [List.length_append,List.length_cons,List.length_nil,za5]; omega
 split
 ·simp only [List.length_append,za5,zI8]; omega
 split
 ·simp only [List.length_append,za5,zI8]; omega
 ·simp only [List.length_nil]; omega
theorem doc_len {xs:List DefT} (h:∀ x∈xs,(zk1 x).length+1<=10300000000*cntD x):(zh9 xs).length<=10300000000*(xs.map cntD).sum:=by
 refine Nat.le_trans (zU8 [10] (xs.map zk1)) ?_
 induction xs with
 | nil=>simp
 | cons x r ih =>
   have h1:=h x (by simp);have h2:=ih fun y hy=>h y (by simp [hy]);rw [List.map_cons,List.map_cons,List.sum_cons,List.map_cons,List.sum_cons,Nat.mul_add];simp only [List.length_cons,List.length_nil] at h2 ⊢;omega
end Go.Proofs.YtfgelheiknmjgaaGreatDoor

