
/-
 Texts joined: TextUnquote TextUnquote2.
-/
import Derived.Test.YtfgelheiknmjgaaGreatDoorZt1
import Derived.Lib.BufferRead
set_option maxRecDepth 1000000
set_option maxHeartbeats 8000000
namespace Go.Proofs.YtfgelheiknmjgaaGreatDoor.T1
open Go.RowKit
def hexV (n:Int):Int:=if 48<=n/\n<=57 then n-48 else if 97<=n/\n<=102 then n-87 else if 65<=n/\n<=70 then n-55 else -1
theorem zB9 (n:Int) : -1<=hexV n/\hexV n<=15:=by
 unfold hexV
 split
 ·omega
 ·split
  ·omega
  ·split <;> omega
theorem zM9 (n:Int) (w:World) (h0:0<=n) (h1:n<=255) (h:0<=hexV n) :
  Calls Tryz.prog 253 #[.int .u8 n] w fun e w'=>e=.returned (.tuple #[.int .i64 (hexV n),.bool true])/\w=w':=by
 have hc:(48<=n/\n<=57)∨(97<=n/\n<=102)∨(65<=n/\n<=70):=by unfold hexV at h; omega
 clear h;rcases hc with ⟨a,b⟩ | ⟨a,b⟩ | ⟨a,b⟩
 all_goals
  first
   | (have e1:Hid (hexV n=n-48):=Lh (by unfold hexV; omega)
      have e2:digB n=true:=by unfold digB; simp; omega
      go_enter Tryz.func253,Tryz.ntmps253
      go_wp2_with (go_at_call 81; refine (ze4 _ _ (by omega) (by omega)).mono ?_; rintro e w' ⟨rfl,rfl⟩)
      go_ret2
      exact ⟨by rw [e1.out]; rfl,rfl⟩)
   | (have e1:Hid (hexV n=n-97+10):=Lh (by unfold hexV; omega)
      have e2:digB n=false:=by unfold digB; simp; omega
      go_enter Tryz.func253,Tryz.ntmps253
      go_wp2_with (go_at_call 81; refine (ze4 _ _ (by omega) (by omega)).mono ?_; rintro e w' ⟨rfl,rfl⟩)
      go_ret2
      exact ⟨by rw [e1.out]; rfl,rfl⟩)
   | (have e1:Hid (hexV n=n-65+10):=Lh (by unfold hexV; omega)
      have e2:digB n=false:=by unfold digB; simp; omega
      go_enter Tryz.func253,Tryz.ntmps253
      go_wp2_with (go_at_call 81; refine (ze4 _ _ (by omega) (by omega)).mono ?_; rintro e w' ⟨rfl,rfl⟩)
      go_ret2
      exact ⟨by rw [e1.out]; rfl,rfl⟩)
theorem zR3 (n:Int) (w:World) (h0:0<=n) (h1:n<=255) (h:hexV n<0) :
  Calls Tryz.prog 253 #[.int .u8 n] w fun e w'=>e=.returned (.tuple #[.int .i64 0,.bool false])/\w=w':=by
 have hc:(n<48)∨(57<n/\n<65)∨(70<n/\n<97)∨102<n:=by unfold hexV at h; omega
 have e2:digB n=false:=by unfold digB; simp; omega
 clear h;rcases hc with a | ⟨a,b⟩ | ⟨a,b⟩ | a
 all_goals
  go_enter Tryz.func253,Tryz.ntmps253
  go_wp2_with (go_at_call 81; refine (ze4 _ _ (by omega) (by omega)).mono ?_; rintro e w' ⟨rfl,rfl⟩)
  go_ret2
  exact ⟨rfl,rfl⟩
def bv (l:List UInt8) (k:Nat):Int:=hexV ((l.getD k 0).toNat:Int)
def cdL (l:List UInt8):Nat->Int
 | 0=>0
 | k+1=>cdL l k*16+bv l k
def OkL (l:List UInt8) (k:Nat):Prop:=∀ j,j<k->0<=bv l j
theorem okL_zero (l:List UInt8):OkL l 0:=fun _ h=>absurd h (by omega)
theorem okL_succ {l:List UInt8} {k:Nat} (h:OkL l k) (h1:0<=bv l k):OkL l (k+1):=fun j hj=>by
 by_cases e:j=k
 ·subst e; exact h1
 ·exact h j (by omega)
theorem zF3 {l:List UInt8}:∀ {k:Nat},OkL l k->0<=cdL l k/\cdL l k<16^k
 | 0,_=>by simp [cdL]
 | k+1,h=>by
   have ih:=zF3 (l:=l) (k:=k) (fun j hj=>h j (by omega));have h1:=h k (by omega);have h2:=(zB9 ((l.getD k 0).toNat:Int)).2;have h3:bv l k<=15:=h2;have e:cdL l (k+1)=cdL l k*16+bv l k:=rfl;have p:(16:Int)^(k+1)=16^k*16:=by rw [Int.pow_succ]
   rw [e,p]; omega
def okB (l:List UInt8):Bool:=decide (4<=l.length)&&decide (0<=bv l 0)&&decide (0<=bv l 1)&&decide (0<=bv l 2)&&decide (0<=bv l 3)&&decide (cdL l 4<=255)
def numL4 (l:List UInt8):Option UInt8:=if okB l then some (UInt8.ofNat (cdL l 4).toNat) else none
def nb2 (k:Int):Option UInt8->Value
 | some b=>.tuple #[.int .u8 b.toNat,.int .i64 k]
 | none=>.tuple #[.int .u8 0,.int .i64 0]
theorem nb2_some {k n:Int} {b:UInt8} (h:(b.toNat:Int)=n):nb2 k (some b)=.tuple #[.int .u8 n,.int .i64 k]:=by subst h; rfl
theorem zQ7 {l:List UInt8} (h:l.length<4):numL4 l=none:=by
 unfold numL4 okB; rw [if_neg]; simp; omega
theorem yk1 {l:List UInt8} {k:Nat} (hk:k<4) (h:bv l k<0):numL4 l=none:=by
 have:k=0∨k=1∨k=2∨k=3:=by omega
 unfold numL4 okB; rw [if_neg];rcases this with rfl | rfl | rfl | rfl <;> simp <;> omega
theorem yk0 {l:List UInt8} (h:255<cdL l 4):numL4 l=none:=by
 unfold numL4 okB; rw [if_neg]; simp; omega
theorem yj7 {l:List UInt8} (h0:4<=l.length) (h:OkL l 4) (h1:cdL l 4<=255):numL4 l=some (UInt8.ofNat (cdL l 4).toNat):=by
 unfold numL4 okB;rw [if_pos];simp [h0,h 0 (by omega),h 1 (by omega),h 2 (by omega),h 3 (by omega),h1]
theorem ofNat_toNat {n:Int} (h0:0<=n) (h1:n<=255):((UInt8.ofNat n.toNat).toNat:Int)=n:=by
 rw [UInt8.toNat_ofNat']; omega
theorem zx0 (s:ByteArray) (k:Nat) (h:k<s.size):s.data.toList.getD k 0=s[k]:=by
 have:=size_eq s;rw [List.getD_eq_getElem?_getD,List.getElem?_eq_getElem (by omega)]; rfl
def zF8 (k:Int) (o:Option UInt8) (w:World) (e:Ending) (w':World):Prop:=e=.returned (nb2 k o)/\w=w'
theorem zD3 (s:ByteArray) (w:World) (h:s.size<4) :
  Calls Tryz.prog 232 #[.string s] w (zF8 6 (numL4 s.data.toList) w):=by
 rw [zQ7 (by rw [size_eq]; exact h)];go_enter Tryz.func232,Tryz.ntmps232
 go_wp2_with fail
 go_ret2
 exact ⟨rfl,rfl⟩
theorem zH4 (s:ByteArray) (w:World) (h:4<=s.size) (hs:s.size<=maxLen) :
  Calls Tryz.prog 232 #[.string s] w (zF8 6 (numL4 s.data.toList) w):=by
 unfold maxLen at hs;have hl:=Lh (size_eq s);go_enter Tryz.func232,Tryz.ntmps232;go_wp2_with fail
 go_loop [4,11] (fun n i=>∃ k:Nat,k<=4/\i=.int .i64 k/\n=.int .i64 (cdL s.data.toList k)/\OkL s.data.toList k) (fun _ i=>4-(intOf i).toNat)
 case atStart=>exact ⟨0,by omega,rfl,rfl,okL_zero _⟩
 case round =>
  obtain ⟨k,hk,rfl,rfl,hok⟩:=hrel;obtain ⟨c0,c1⟩:=zF3 hok;by_cases hlt:k<4
  ·have c2:cdL s.data.toList k<65536:=by
    have:k=0∨k=1∨k=2∨k=3:=by omega
    rcases this with rfl | rfl | rfl | rfl <;> simp at c1 <;> omega
   clear c1;have hks:k<s.size:=by omega
   have hbk:=zg9 s[k];have hbv:bv s.data.toList k=hexV (s[k].toNat:Int):=by unfold bv; rw [zx0 s k hks]
   have hv:=zB9 (s[k].toNat:Int);by_cases hh:0<=hexV (s[k].toNat:Int)
   ·have H1:=Lh (okL_succ hok (by rw [hbv]; exact hh))
    have H2:Hid (cdL s.data.toList (k+1)=cdL s.data.toList k*16+hexV (s[k].toNat:Int)):=Lh (by rw [<- hbv]; rfl);clear hbv hok;go_wp2_with (go_at_call 253; refine (zM9 _ _ (by omega) (by omega) hh).mono ?_; rintro e w' ⟨rfl,rfl⟩)
    go_round
    case rel=>exact ⟨k+1,by omega,by go_num,by rw [H2.out],H1.out⟩
    case measure=>simp [intOf]; omega
   ·have H1:Hid (numL4 s.data.toList=none):=Lh (yk1 hlt (by rw [hbv]; omega))
    clear hbv hok;go_wp2_with (go_at_call 253; refine (zR3 _ _ (by omega) (by omega) (by omega)).mono ?_; rintro e w' ⟨rfl,rfl⟩)
    go_ret2
    exact ⟨by rw [H1.out]; rfl,rfl⟩
  ·obtain rfl:k=4:=by omega
   simp only [Int.reducePow] at c1
   by_cases hbig:255<cdL s.data.toList 4
   ·have H1:=Lh (yk0 hbig)
    go_wp2
    go_ret2
    exact ⟨by rw [H1.out]; rfl,rfl⟩
   ·have hle:cdL s.data.toList 4<=255:=by omega
    have H1:=Lh (yj7 (by rw [hl.out]; exact h) hok hle);have H2:=Lh (ofNat_toNat c0 hle);clear hbig hok
    go_wp2
    go_ret2
    exact ⟨by rw [H1.out,nb2_some H2.out]; rfl,rfl⟩
theorem zL8 (s:ByteArray) (w:World) (hs:s.size<=maxLen) :
  Calls Tryz.prog 232 #[.string s] w (zF8 6 (numL4 s.data.toList) w):=by
 by_cases h:s.size<4
 ·exact zD3 s w h
 ·exact zH4 s w (by omega) hs
def zp0 (c:UInt8):Option UInt8 :=
 if c=34 then some 34 else if c=92 then some 92 else if c=47 then some 47 else if c=98 then some 8 else if c=102 then some 12
 else if c=110 then some 10 else if c=114 then some 13 else if c=116 then some 9 else none
theorem zP6 {c:UInt8} (h1:c≠34) (h2:c≠92) (h3:c≠47) (h4:c≠98) (h5:c≠102) (h6:c≠110) (h7:c≠114) (h8:c≠116):zp0 c=none:=by
 unfold zp0; rw [if_neg h1,if_neg h2,if_neg h3,if_neg h4,if_neg h5,if_neg h6,if_neg h7,if_neg h8]
theorem zd7 (n:Int) (x:UInt8) (w:World) (h:(n=34/\x=34)∨(n=92/\x=92)∨(n=47/\x=47)∨(n=98/\x=8)∨(n=102/\x=12)∨(n=110/\x=10)∨(n=114/\x=13)∨(n=116/\x=9)) :
  Calls Tryz.prog 233 #[.int .u8 n] w (zF8 2 (some x) w):=by
 rcases h with ⟨rfl,rfl⟩ | ⟨rfl,rfl⟩ | ⟨rfl,rfl⟩ | ⟨rfl,rfl⟩ | ⟨rfl,rfl⟩ | ⟨rfl,rfl⟩ | ⟨rfl,rfl⟩ | ⟨rfl,rfl⟩
 all_goals
  go_enter Tryz.func233,Tryz.ntmps233
  go_wp2_with fail
  go_ret2
  exact ⟨rfl,rfl⟩
theorem zN4 (c:UInt8) (w:World) (h1:c≠34) (h2:c≠92) (h3:c≠47) (h4:c≠98) (h5:c≠102) (h6:c≠110) (h7:c≠114) (h8:c≠116) :
  Calls Tryz.prog 233 #[.int .u8 c.toNat] w (zF8 2 none w):=by
 have g1:((c.toNat:Int)==34)=false:=u8_ne h1;have g2:((c.toNat:Int)==92)=false:=u8_ne h2;have g3:((c.toNat:Int)==47)=false:=u8_ne h3;have g4:((c.toNat:Int)==98)=false:=u8_ne h4;have g5:((c.toNat:Int)==102)=false:=u8_ne h5;have g6:((c.toNat:Int)==110)=false:=u8_ne h6;have g7:((c.toNat:Int)==114)=false:=u8_ne h7;have g8:((c.toNat:Int)==116)=false:=u8_ne h8;go_enter Tryz.func233,Tryz.ntmps233;go_wp2_with fail
 go_ret2
 exact ⟨rfl,rfl⟩
theorem zR6 (c:UInt8) (w:World):Calls Tryz.prog 233 #[.int .u8 c.toNat] w (zF8 2 (zp0 c) w):=by
 by_cases h1:c=34
 ·subst h1; exact zd7 34 34 w (by simp)
 by_cases h2:c=92
 ·subst h2; exact zd7 92 92 w (by simp)
 by_cases h3:c=47
 ·subst h3; exact zd7 47 47 w (by simp)
 by_cases h4:c=98
 ·subst h4; exact zd7 98 8 w (by simp)
 by_cases h5:c=102
 ·subst h5; exact zd7 102 12 w (by simp)
 by_cases h6:c=110
 ·subst h6; exact zd7 110 10 w (by simp)
 by_cases h7:c=114
 ·subst h7; exact zd7 114 13 w (by simp)
 by_cases h8:c=116
 ·subst h8; exact zd7 116 9 w (by simp)
 rw [zP6 h1 h2 h3 h4 h5 h6 h7 h8];exact zN4 c w h1 h2 h3 h4 h5 h6 h7 h8
def stepL:List UInt8->Option (UInt8 × Nat)
 | []=>none
 | c::r =>
   if c=34∨prB (c.toNat:Int)=false then none
   else if c≠92 then some (c,1)
   else match r with
    | []=>none
    | d::t=>if d=117 then (numL4 t).map (·,6) else (zp0 d).map (·,2)
def fb2:Option (UInt8 × Nat)->Value
 | some (b,k)=>.tuple #[.int .u8 b.toNat,.int .i64 k]
 | none=>.tuple #[.int .u8 0,.int .i64 0]
def zO9 (o:Option (UInt8 × Nat)) (w:World) (e:Ending) (w':World):Prop:=e=.returned (fb2 o)/\w=w'
theorem zm6 (c:UInt8) (r:List UInt8):stepL (c::r)=if c=34∨prB (c.toNat:Int)=false then none
  else if c≠92 then some (c,1)
  else match r with
   | []=>none
   | d::t=>if d=117 then (numL4 t).map (·,6) else (zp0 d).map (·,2):=rfl
theorem zk9 (d:UInt8) (t:List UInt8):stepL (92::d::t)=if d=117 then (numL4 t).map (·,6) else (zp0 d).map (·,2):=by
 rw [zm6,if_neg (by decide),if_neg (by decide)]
theorem zH6 {s:ByteArray} (h:0<s.size):s.data.toList=s[0]::s.data.toList.drop 1:=by
 have h1:=size_eq s;have h2:s.data.toList[0]'(by omega)::s.data.toList.drop (0+1)=s.data.toList.drop 0:=List.getElem_cons_drop (by omega);rw [List.drop_zero] at h2;exact h2.symm
theorem list_of2 {s:ByteArray} (h:2<=s.size):s.data.toList=s[0]'(by omega)::s[1]'(by omega)::s.data.toList.drop 2:=by
 have h1:=size_eq s;have h2:s.data.toList[1]'(by omega)::s.data.toList.drop (1+1)=s.data.toList.drop 1:=List.getElem_cons_drop (by omega)
 conv=>lhs; rw [zH6 (by omega:0<s.size)]
 rw [<- h2]; rfl
theorem zS0 (s:ByteArray) (k:Nat):(s.extract k s.size).data.toList=s.data.toList.drop k:=by
 rw [Lib.extract_data,List.take_of_length_le (by rw [List.length_drop,size_eq]; omega)]
theorem yn8 (s:ByteArray) (w:World) (h0:0<s.size) (h:s[0]=34∨prB (s[0].toNat:Int)=false) :
  Calls Tryz.prog 199 #[.string s] w (zO9 (stepL s.data.toList) w):=by
 have H:Hid (stepL s.data.toList=none):=Lh (by rw [zH6 h0,zm6,if_pos h]);have hb:=zg9 s[0];by_cases h1:s[0]=34
 ·have g1:((s[0].toNat:Int)==34)=true:=by rw [h1]; rfl
  clear h h1;go_enter Tryz.func199,Tryz.ntmps199;go_wp2_with fail
  go_ret2
  exact ⟨by rw [H.out]; rfl,rfl⟩
 ·have g1:((s[0].toNat:Int)==34)=false:=u8_ne h1
  have g2:prB (s[0].toNat:Int)=false:=h.resolve_left h1;clear h h1;go_enter Tryz.func199,Tryz.ntmps199;go_wp2_with (go_at_call 207; refine (zd4 _ _ (by omega) (by omega)).mono ?_; rintro e w' ⟨rfl,rfl⟩)
  go_ret2
  exact ⟨by rw [H.out]; rfl,rfl⟩
theorem zR4 (s:ByteArray) (w:World) (h0:0<s.size) (h:s[0]≠34) (hp:prB (s[0].toNat:Int)=true) (h2:s[0]≠92) :
  Calls Tryz.prog 199 #[.string s] w (zO9 (stepL s.data.toList) w):=by
 have H:Hid (stepL s.data.toList=some (s[0],1)):=Lh (by rw [zH6 h0,zm6,if_neg (by simp [h,hp]),if_pos h2]);have hb:=zg9 s[0];have g1:((s[0].toNat:Int)==34)=false:=u8_ne h;have g2:((s[0].toNat:Int)==92)=false:=u8_ne h2;clear h h2;go_enter Tryz.func199,Tryz.ntmps199;go_wp2_with (go_at_call 207; refine (zd4 _ _ (by omega) (by omega)).mono ?_; rintro e w' ⟨rfl,rfl⟩)
 go_ret2
 exact ⟨by rw [H.out]; rfl,rfl⟩
theorem yb4 (s:ByteArray) (w:World) (h0:s.size=1) (h2:s[0]'(by omega)=92) :
  Calls Tryz.prog 199 #[.string s] w (zO9 (stepL s.data.toList) w):=by
 have H:Hid (stepL s.data.toList=none):=Lh (by
  have h3:=size_eq s;rw [zH6 (by omega:0<s.size),List.drop_eq_nil_of_le (by omega),h2]; decide)
 have h0':0<s.size:=by omega
 have hs1:(s.size:Int)<2:=by omega
 have hb:=zg9 s[0];have g1:((s[0].toNat:Int)==34)=false:=by rw [h2]; rfl
 have g2:((s[0].toNat:Int)==92)=true:=by rw [h2]; rfl
 have g3:prB (s[0].toNat:Int)=true:=by rw [h2]; decide
 clear h2 h0;go_enter Tryz.func199,Tryz.ntmps199;go_wp2_with (go_at_call 207; refine (zd4 _ _ (by omega) (by omega)).mono ?_; rintro e w' ⟨rfl,rfl⟩)
 go_ret2
 exact ⟨by rw [H.out]; rfl,rfl⟩
theorem step_two {s:ByteArray} (h0:2<=s.size) (h2:s[0]'(by omega)=92):stepL s.data.toList=if s[1]'(by omega)=117 then (numL4 (s.data.toList.drop 2)).map (·,6) else (zp0 (s[1]'(by omega))).map (·,2):=by
 rw [list_of2 h0];generalize s.data.toList=l;rw [h2,zk9]; rfl
theorem yb2 (s:ByteArray) (w:World) (h0:2<=s.size) (hs:s.size<=maxLen) (h2:s[0]'(by omega)=92) :
  Calls Tryz.prog 199 #[.string s] w (zO9 (stepL s.data.toList) w):=by
 have hst:=step_two h0 h2;unfold maxLen at hs;have h0':0<s.size:=by omega
 have h1':1<s.size:=by omega
 have hb:=zg9 s[0];have hb1:=zg9 s[1];have g1:((s[0].toNat:Int)==34)=false:=by rw [h2]; rfl
 have g2:((s[0].toNat:Int)==92)=true:=by rw [h2]; rfl
 have g3:prB (s[0].toNat:Int)=true:=by rw [h2]; decide
 clear h2;by_cases hu:s[1]=117
 ·rw [if_pos hu] at hst
  have g4:((s[1].toNat:Int)==117)=true:=by rw [hu]; rfl
  have H:=Lh hst;clear hst hu;go_enter Tryz.func199,Tryz.ntmps199;go_wp2_with (go_at_call 207; refine (zd4 _ _ (by omega) (by omega)).mono ?_; rintro e w' ⟨rfl,rfl⟩)
  have hn:(s.extract 2 s.size).data.toList=s.data.toList.drop 2:=zS0 s 2;have hx:(s.extract 2 s.size).size<=maxLen:=by
   rw [<- size_eq,hn,List.length_drop,size_eq]; unfold maxLen; omega
  have HN:=Lh hn;clear hn;refine (zL8 _ _ hx).mono ?_;rw [HN.out];clear hx
  cases ho:numL4 (s.data.toList.drop 2) with
  | none =>
    rintro e w' ⟨rfl,rfl⟩;have H2:Hid (stepL s.data.toList=none):=Lh (by rw [H.out,ho]; rfl);clear ho;unfold nb2
    go_wp2
    go_ret2
    exact ⟨by rw [H2.out]; rfl,rfl⟩
  | some b =>
    rintro e w' ⟨rfl,rfl⟩;have H2:Hid (stepL s.data.toList=some (b,6)):=Lh (by rw [H.out,ho]; rfl);clear ho;unfold nb2
    go_wp2
    go_ret2
    exact ⟨by rw [H2.out]; rfl,rfl⟩
 ·rw [if_neg hu] at hst
  have g4:((s[1].toNat:Int)==117)=false:=u8_ne hu;have H:=Lh hst;clear hst hu;go_enter Tryz.func199,Tryz.ntmps199;go_wp2_with (go_at_call 207; refine (zd4 _ _ (by omega) (by omega)).mono ?_; rintro e w' ⟨rfl,rfl⟩)
  refine (zR6 _ _).mono ?_
  cases ho:zp0 s[1] with
  | none =>
    rintro e w' ⟨rfl,rfl⟩;have H2:Hid (stepL s.data.toList=none):=Lh (by rw [H.out,ho]; rfl);clear ho;unfold nb2
    go_wp2
    go_ret2
    exact ⟨by rw [H2.out]; rfl,rfl⟩
  | some b =>
    rintro e w' ⟨rfl,rfl⟩;have H2:Hid (stepL s.data.toList=some (b,2)):=Lh (by rw [H.out,ho]; rfl);clear ho;unfold nb2
    go_wp2
    go_ret2
    exact ⟨by rw [H2.out]; rfl,rfl⟩
theorem zC1 (s:ByteArray) (w:World) (h0:0<s.size) (hs:s.size<=maxLen) :
  Calls Tryz.prog 199 #[.string s] w (zO9 (stepL s.data.toList) w):=by
 by_cases h:s[0]=34∨prB (s[0].toNat:Int)=false
 ·exact yn8 s w h0 h
 have h1:s[0]≠34:=fun e=>h (Or.inl e);have hp:prB (s[0].toNat:Int)=true:=by
  cases e:prB (s[0].toNat:Int)
  ·exact absurd (Or.inr e) h
  ·rfl
 by_cases h2:s[0]=92
 ·by_cases h3:s.size=1
  ·exact yb4 s w h3 h2
  ·exact yb2 s w (by omega) hs h2
 ·exact zR4 s w h0 h1 hp h2
def unqF:Nat->List UInt8->Option (List UInt8)
 | 0,l=>if l=[] then some [] else none
 | f+1,l=>if l=[] then some [] else match stepL l with
   | none=>none
   | some (b,k)=>(unqF f (l.drop k)).map (b::·)
theorem yj8 {t:List UInt8} {b:UInt8} (h:numL4 t=some b):4<=t.length:=by
 unfold numL4 at h;by_cases e:okB t=true
 ·unfold okB at e; simp at e; exact e.1.1.1.1.1
 ·rw [if_neg e] at h; cases h
theorem zt7 {l:List UInt8} {b:UInt8} {k:Nat} (h:stepL l=some (b,k)):1<=k/\k<=l.length:=by
 cases l with
 | nil=>cases h
 | cons c r =>
   rw [zm6] at h;by_cases h1:c=34∨prB (c.toNat:Int)=false
   ·rw [if_pos h1] at h; cases h
   rw [if_neg h1] at h;by_cases h2:c≠92
   ·rw [if_pos h2] at h; cases h; simp
   rw [if_neg h2] at h
   cases r with
   | nil=>cases h
   | cons d t =>
     simp only at h
     by_cases h3:d=117
     ·rw [if_pos h3] at h
      obtain ⟨x,hx,e⟩:=Option.map_eq_some_iff.1 h;have:=yj8 hx;cases e; simp; omega
     ·rw [if_neg h3] at h
      obtain ⟨x,hx,e⟩:=Option.map_eq_some_iff.1 h;cases e; simp
theorem zs8:∀ (f:Nat) (l:List UInt8),l.length<=f->unqF f l=unqF l.length l
 | 0,l,h=>by
   have:l=[]:=List.eq_nil_of_length_eq_zero (by omega);subst this; rfl
 | f+1,[],_=>rfl
 | f+1,c::r,h=>by
   rw [List.length_cons];unfold unqF;rw [if_neg (by simp),if_neg (by simp)]
   cases hs:stepL (c::r) with
   | none=>rfl
   | some p =>
     obtain ⟨b,k⟩:=p;have hk:=zt7 hs;have hl:((c::r).drop k).length<=r.length:=by rw [List.length_drop,List.length_cons]; omega
     simp only
     rw [zs8 f _ (by rw [List.length_cons] at h; omega),zs8 r.length _ hl]
def unqR (l:List UInt8):Option (List UInt8):=unqF l.length l
theorem unqR_nil:unqR []=some []:=rfl
theorem zJ6 {l:List UInt8} {b:UInt8} {k:Nat} (h:stepL l=some (b,k)):unqR l=(unqR (l.drop k)).map (b::·):=by
 cases l with
 | nil=>cases h
 | cons c r =>
   have hk:=zt7 h;unfold unqR;rw [List.length_cons]
   conv=>lhs; unfold unqF
   rw [if_neg (by simp),h];simp only
   rw [zs8 r.length _ (by rw [List.length_drop,List.length_cons]; omega)]
theorem unqR_bad {l:List UInt8} (h0:l≠[]) (h:stepL l=none):unqR l=none:=by
 cases l with
 | nil=>exact absurd rfl h0
 | cons c r =>
   unfold unqR;rw [List.length_cons];unfold unqF;rw [if_neg (by simp),h]
def midL (l:List UInt8):List UInt8:=(l.drop 1).take (l.length-2)
def zd5 (l:List UInt8):Option (List UInt8):=if 2<=l.length/\l.getD 0 0=34/\l.getD (l.length-1) 0=34 then unqR (midL l) else none
def uq2:Option (List UInt8)->Value
 | some l=>.tuple #[.string ⟨l.toArray⟩,.int .i64 0]
 | none=>.tuple #[.string ⟨#[]⟩,.int .i64 3]
def yq7 (o:Option (List UInt8)) (w:World) (e:Ending) (w':World):Prop:=e=.returned (uq2 o)/\Below w.heap.size w w'
def UnqAt (l done rest:List UInt8):Prop:=unqR l=(unqR rest).map (done++·)
theorem zP4 (l:List UInt8):UnqAt l [] l:=by unfold UnqAt; simp
theorem zX4 {l done rest:List UInt8} {b:UInt8} {k:Nat} (h:UnqAt l done rest) (hs:stepL rest=some (b,k)):UnqAt l (done++[b]) (rest.drop k):=by
 unfold UnqAt at h ⊢;rw [h,zJ6 hs,Option.map_map]
 congr 1
 funext x; simp
theorem yd8 {l done rest:List UInt8} (h:UnqAt l done rest) (h0:rest≠[]) (hs:stepL rest=none):unqR l=none:=by
 unfold UnqAt at h; rw [h,unqR_bad h0 hs]; rfl
theorem yd7 {l done rest:List UInt8} (h:UnqAt l done rest) (h0:rest=[]):unqR l=some done:=by
 unfold UnqAt at h; rw [h,h0,unqR_nil]; simp
theorem OwnB.string' {w:World} {base:Nat} {v:Value} {l:List UInt8} (h:OwnB w base v l):(convert 73 9 v).run Tryz.prog w=.ok (.string ⟨l.toArray⟩) w:=by
 by_cases h0:0<l.length
 ·exact h.string h0
 have e:l=[]:=List.eq_nil_of_length_eq_zero (by omega);subst e;rcases h.2 with ⟨rfl,_⟩ | ⟨g,cap,cur,rfl,_⟩
 ·exact Lib.run_convert_nil_bytes w _ _ _ _ Tryz.underlying73 Tryz.underlying5 Tryz.underlying9
 ·exact run_convert_bytes_back w _ _ _ _ cap [] Tryz.underlying73 Tryz.underlying5 Tryz.underlying9 (fun j hj=>absurd hj (by simp))
def strLen:Value->Nat
 | .string s=>s.size
 | _=>0
theorem mid_of (s:ByteArray):(s.extract 1 (s.size-1)).data.toList=midL s.data.toList:=by
 rw [Lib.extract_data]; unfold midL; rw [size_eq]; rfl
theorem zX2 (s:ByteArray) (w:World) (hs:s.size<=maxLen) (h:¬ (2<=s.size/\s.data.toList.getD 0 0=34/\s.data.toList.getD (s.size-1) 0=34)) :
  Calls Tryz.prog 159 #[.string s] w (yq7 (zd5 s.data.toList) w):=by
 have e:zd5 s.data.toList=none:=by unfold zd5; rw [size_eq,if_neg h]
 rw [e];unfold maxLen at hs;by_cases h2:2<=s.size
 ·have h0':0<s.size:=by omega
  have h1':s.size-1<s.size:=by omega
  rw [zx0 s 0 h0',zx0 s (s.size-1) h1'] at h;by_cases ha:s[0]=34
  ·have hb:s[s.size-1]≠34:=fun e=>h ⟨h2,ha,e⟩
   have g1:((s[0].toNat:Int) != 34)=false:=by rw [ha]; rfl
   have g2:((s[s.size-1].toNat:Int) != 34)=true:=by
    have:=u8_ne hb;rw [bne]; rw [show ((s[s.size-1].toNat:Int)==34)=false from this]; rfl
   clear h ha hb;go_enter Tryz.func159,Tryz.ntmps159;go_wp2_with fail
   go_ret2
   exact ⟨rfl,Below.refl _ _⟩
  ·have g1:((s[0].toNat:Int) != 34)=true:=by
    have:=u8_ne ha;rw [bne]; rw [show ((s[0].toNat:Int)==34)=false from this]; rfl
   clear h ha;go_enter Tryz.func159,Tryz.ntmps159;go_wp2_with fail
   go_ret2
   exact ⟨rfl,Below.refl _ _⟩
 ·have h2':(s.size:Int)<2:=by omega
  clear h h2;go_enter Tryz.func159,Tryz.ntmps159;go_wp2_with fail
  go_ret2
  exact ⟨rfl,Below.refl _ _⟩
theorem zP2 (s:ByteArray) (w:World) (hs:s.size<=137438953472) (h2:2<=s.size) (ha:s.data.toList.getD 0 0=34) (hb:s.data.toList.getD (s.size-1) 0=34) :
  Calls Tryz.prog 159 #[.string s] w (yq7 (zd5 s.data.toList) w):=by
 have e:zd5 s.data.toList=unqR (midL s.data.toList):=by unfold zd5; rw [size_eq,if_pos ⟨h2,ha,hb⟩]
 rw [e];clear e;have h0':0<s.size:=by omega
 have h1':s.size-1<s.size:=by omega
 rw [zx0 s 0 h0'] at ha;rw [zx0 s (s.size-1) h1'] at hb;have g1:((s[0].toNat:Int) != 34)=false:=by rw [ha]; rfl
 have g2:((s[s.size-1].toNat:Int) != 34)=false:=by rw [hb]; rfl
 clear ha hb;obtain ⟨i0,hi,hz0,hz1,hz2⟩:=info_parts info5;go_enter Tryz.func159,Tryz.ntmps159;go_wp2_with (refine wpList_make_own _ rfl _ _ 73 rfl w.heap.size 5 i0 (.int .u8 0) 1 Tryz.underlying73 hi hz0 hz1 _ _ _ (s.size-1-1) rfl rfl rfl ?_ ?_ ?_ ?_)
 ·rw [hz2]; omega
 ·unfold maxLen; omega
 ·exact Nat.le_refl _
 intro w1 hown1 hg1;have hown1:OwnB w1 w.heap.size _ []:=hown1;have hb1:Below w.heap.size w w1:=(Below.refl _ _).grown hg1 (Nat.le_refl _) (by simp);clear hg1;have hml:(s.extract 1 (s.size-1)).size<=s.size:=by
  rw [<- size_eq,mid_of, <- size_eq s]; unfold midL; rw [List.length_take,List.length_drop]; omega
 have hat:UnqAt (midL s.data.toList) [] (s.extract 1 (s.size-1)).data.toList:=by rw [mid_of]; exact zP4 _
 generalize s.extract 1 (s.size-1)=m at *;generalize midL s.data.toList=l at *
 go_wp2
 go_loopw [4,5] (fun c v wr=>∃ (r:ByteArray) (done:List UInt8),r.size+done.length<=s.size/\c=.string r/\OwnB wr w.heap.size v done/\UnqAt l done r.data.toList/\Below w.heap.size w wr) (fun c _ _=>strLen c)
 case atStart=>exact ⟨m,[],by simpa using hml,rfl,hown1,hat,hb1⟩
 case round =>
  obtain ⟨r,done,hrd,rfl,hown,hq,hb⟩:=hrel;have hsz:=hb.size;clear hown1 hb1 hml hat
  by_cases h0:r.size=0
  ·have H:=Lh (yd7 hq (List.eq_nil_of_length_eq_zero (by rw [size_eq]; exact h0)))
   have e1:(!r.toList.isEmpty)=false:=by rw [zx7 h0]; rfl
   have e2:r.toList=[]:=zx7 h0;have hcv:=hown.string';clear hq hown h0
   go_wp2
   go_ret2
   exact ⟨by rw [H.out]; rfl,hb⟩
  have h0':0<r.size:=by omega
  have e1:(!r.toList.isEmpty)=true:=by rw [zh2 h0']; rfl
  have e2:r.toList≠[]:=zg0 h0';clear h0;go_wp2_with fail;refine (zC1 _ _ h0' (by unfold maxLen; omega)).mono ?_
  cases hs:stepL r.data.toList with
  | none =>
    rintro e w2 ⟨rfl,rfl⟩;have H:=Lh (yd8 hq (by intro e; have:=size_eq r; rw [e] at this; simp at this; omega) hs);clear hs hq;unfold fb2
    go_wp2
    go_ret2
    exact ⟨by rw [H.out]; rfl,hb⟩
  | some p =>
    obtain ⟨b,k⟩:=p;have hk:=zt7 hs;rw [size_eq] at hk;obtain ⟨k1,k2⟩:=hk;have H:=Lh (zX4 hq hs);have k0:((k:Int)==0)=false:=by rw [beq_eq_false_iff_ne]; omega
    rintro e w2 ⟨rfl,rfl⟩;clear hs hq;unfold fb2;go_wp2_with (at_builtin; refine zk6 rfl _ _ rfl w.heap.size _ _ rfl (hown.alloc _) _ _ [b] rfl (zn8 _ _ _ [b] rfl) ?_ ?_ ?_)
    ·simp; omega
    ·simp; omega
    intro v3 w3 hown3 hg3;have hb3:Below w.heap.size w w3:=(hb.alloc hsz _).grown hg3 (by simp; omega) (by intro j hj; have:=hown.lt j hj; omega);clear hg3 hown hb hsz;have hdr:=Lh (zS0 r k);have hds:(r.extract k r.size).size=r.size-k:=by rw [<- size_eq,hdr.out,List.length_drop,size_eq]
    have HDS:=Lh hds;clear hds
    go_wp2
    go_roundw
    case rel=>exact ⟨r.extract k r.size,done++[b],by rw [HDS.out,List.length_append]; simp; omega,rfl,hown3,by rw [hdr.out]; exact H.out,hb3⟩
    case measure=>show (r.extract k r.size).size<r.size; rw [HDS.out]; omega
theorem zP3 (s:ByteArray) (w:World) (hs:s.size<=137438953472) :
  Calls Tryz.prog 159 #[.string s] w (yq7 (zd5 s.data.toList) w):=by
 by_cases h:2<=s.size/\s.data.toList.getD 0 0=34/\s.data.toList.getD (s.size-1) 0=34
 ·exact zP2 s w hs h.1 h.2.1 h.2.2
 ·exact zX2 s w (by unfold maxLen; omega) h
end Go.Proofs.YtfgelheiknmjgaaGreatDoor.T1

