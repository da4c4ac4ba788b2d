
/-
 Texts joined: Tj Se Sf SbArg SbDir.
-/
import Derived.Test.YtfgelheiknmjgaaGreatDoorZs28
import Derived.Test.YtfgelheiknmjgaaGreatDoorZs32
import Derived.Test.YtfgelheiknmjgaaGreatDoorZs9
import Derived.Test.YtfgelheiknmjgaaGreatDoorZs8
import Derived.Test.YtfgelheiknmjgaaGreatDoorZs27
namespace Go.Proofs.YtfgelheiknmjgaaGreatDoor
open Go.RowKit
theorem zC0 {x:MemT} (h:zk3 x = true):zg0 x = true:=by
 unfold zk3 at h
 unfold zg0
 simp only [Bool.and_eq_true,decide_eq_true_eq] at h ⊢
 refine ⟨h.1, ?_⟩
 rw [List.length_eq_zero_iff.1 h.2]
 rfl
theorem zS7 {d:DefT} (h:defOk d = true):nmA d.name = true ∧ (∀ x ∈ d.dirs,dirOk x = true) ∧ (∀ x ∈ d.impl,nmA x = true) ∧ (∀ x ∈ d.fields,fldOk x = true) ∧ (∀ x ∈ d.members,zg0 x = true) ∧ (∀ x ∈ d.inputs,inpOk x = true):=by
 unfold defOk at h
 simp only [Bool.and_eq_true] at h
 refine ⟨h.1,(zb1 h.2.1).2.2, ?_⟩
 have hp:=h.2.2
 unfold zt5 zi9 at hp
 have key:∀ {a b c e f g k:Int} {pm:MemT → Bool},(∀ x,pm x = true → zg0 x = true) → (inB 0 a d.impl nmA && (inB b c d.fields fldOk && (inB e f d.members pm && inB g k d.inputs inpOk))) = true → (∀ x ∈ d.impl,nmA x = true) ∧ (∀ x ∈ d.fields,fldOk x = true) ∧ (∀ x ∈ d.members,zg0 x = true) ∧ (∀ x ∈ d.inputs,inpOk x = true):=by
  intro a b c e f g k pm hpm hp
  simp only [Bool.and_eq_true] at hp
  exact ⟨(zb1 hp.1).2.2,(zb1 hp.2.1).2.2,fun x hx => hpm x ((zb1 hp.2.2.1).2.2 x hx),(zb1 hp.2.2.2).2.2⟩
 split at hp
 ·exact key (fun _ h => by first | exact h | exact zC0 h) hp
 split at hp
 ·exact key (fun _ h => by first | exact h | exact zC0 h) hp
 split at hp
 ·exact key (fun _ h => by first | exact zC0 h | exact h) hp
 split at hp
 ·exact key (fun _ h => by first | exact h | exact zC0 h) hp
 split at hp
 ·exact key (fun _ h => by first | exact h | exact zC0 h) hp
 ·cases hp
end Go.Proofs.YtfgelheiknmjgaaGreatDoor
namespace Go.Proofs.YtfgelheiknmjgaaGreatDoor
open Go.RowKit
theorem zB8 {x y:Int} (h:orE x y = 0):x = 0 ∧ y = 0:=by
 unfold orE at h
 split at h
 ·next e => exact ⟨e,h⟩
 ·next e => exact absurd h e
theorem zT1 {a b:Int} (h:Lib.compareInt a b = 0):a = b:=by
 unfold Lib.compareInt at h
 split at h
 ·cases h
 ·split at h
  ·cases h
  ·omega
theorem zT2 {a b:ByteArray} (h:cmpB a b = 0):a = b:=by
 have h1:=(zp7 _ _).1 h
 obtain ⟨⟨x⟩⟩:=a
 obtain ⟨⟨y⟩⟩:=b
 simp only at h1
 rw [h1]
theorem zS9:∀ (l l':List VT) (ks ks':List ByteArray),(∀ (i:Nat) (t:VT),l[i]? = some t → ∀ t' ∈ l',t.cmp t' = 0 → t = t') → VT.cmps l ks l' ks' = 0 → l = l' ∧ (ks.length = l.length → ks'.length = l'.length → ks = ks')
 | [],[],ks,ks',_,_ => ⟨rfl,fun h1 h2 => by rw [List.length_eq_zero_iff.1 h1,List.length_eq_zero_iff.1 h2]⟩
 | [],_ :: _,_,_,_,h => by rw [VT.cmps] at h; cases h
 | _ :: _,[],_,_,_,h => by rw [VT.cmps] at h; cases h
 | t :: r,t' :: r',ks,ks',hi,h => by
   rw [VT.cmps] at h
   obtain ⟨h1,h2⟩:=zB8 h
   obtain ⟨h3,h4⟩:=zB8 h1
   have e1:=hi 0 t rfl t' List.mem_cons_self h4
   obtain ⟨e2,e3⟩:=zS9 r r' ks.tail ks'.tail (fun i u hu v hv => hi (i + 1) u (by simpa using hu) v (List.mem_cons_of_mem _ hv)) h2
   refine ⟨by rw [e1,e2],fun g1 g2 => ?_⟩
   cases ks with
   | nil => simp at g1
   | cons a ks =>
     cases ks' with
     | nil => simp at g2
     | cons b ks' =>
       have e4:a = b:=zT2 h3
       have e5:ks = ks':=e3 (by simpa using g1) (by simpa using g2)
       rw [e4,e5]
theorem zx8 {k n:Int} {s:ByteArray} {l:List VT} {ks:List ByteArray} (h:CstV (.mk k n s l ks)):(k = 6 ∧ ks.length = l.length) ∨ (k ≠ 6 ∧ ks = []):=by
 cases h with
 | null => exact .inr ⟨by decide,rfl⟩
 | bool _ => exact .inr ⟨by decide,rfl⟩
 | int => exact .inr ⟨by decide,rfl⟩
 | text => exact .inr ⟨by decide,rfl⟩
 | enum _ => exact .inr ⟨by decide,rfl⟩
 | list => exact .inr ⟨by decide,rfl⟩
 | object hl _ _ => exact .inl ⟨rfl,hl⟩
theorem zT0 (t:VT):∀ t':VT,t.cst = true → t'.cst = true → t.cmp t' = 0 → t = t':=by
 induction t using VT.ind with
 | h k n s items keys ih =>
 intro t' h1 h2 h
 obtain ⟨k',n',s',items',keys'⟩:=t'
 rw [VT.cmp] at h
 obtain ⟨a1,a2⟩:=zB8 h
 obtain ⟨a3,a4⟩:=zB8 a2
 obtain ⟨a5,a6⟩:=zB8 a3
 obtain rfl:=zT1 a1
 obtain rfl:=zT1 a5
 obtain rfl:=zT2 a6
 obtain ⟨b1,b2⟩:=zS9 items items' keys keys' (fun i t hi t' ht' hc => ih i t hi t' (zt1 h1 t (List.mem_of_getElem? hi)) (zt1 h2 t' ht') hc) a4
 subst b1
 rcases zx8 (cst_v _ h1) with ⟨c1,c2⟩ | ⟨c1,c2⟩
 ·rcases zx8 (cst_v _ h2) with ⟨d1,d2⟩ | ⟨d1,d2⟩
  ·rw [b2 c2 d2]
  ·exact absurd c1 d1
 ·rcases zx8 (cst_v _ h2) with ⟨d1,d2⟩ | ⟨d1,d2⟩
  ·exact absurd d1 c1
  ·rw [c2,d2]
theorem zx6 {t:VT} (h:litOk t = true):t.cst = true:=by
 unfold litOk zc0 at h
 simp only [Bool.and_eq_true] at h
 unfold VT.cst; rw [h.1.2,h.2.2]; rfl
theorem sArg_eq {a b:ByteArray × VT} (ha:argOk a = true) (hb:argOk b = true) (h:sArg a b = true):a = b:=by
 unfold argOk at ha hb
 unfold sArg at h
 simp only [Bool.and_eq_true,decide_eq_true_eq] at ha hb h
 exact Prod.ext h.1 (zT0 _ _ (zx6 ha.2) (zx6 hb.2) h.2)
theorem sDir_eq {a b:DirT} (ha:dirOk a = true) (hb:dirOk b = true) (h:sDir a b = true):a = b:=by
 unfold dirOk at ha hb
 unfold sDir at h
 simp only [Bool.and_eq_true,decide_eq_true_eq] at ha hb h
 obtain ⟨n,l⟩:=a
 obtain ⟨m,k⟩:=b
 have e:=zo2 (fun x hx y hy => sArg_eq ((zb1 ha.2).2.2 x hx) ((zb1 hb.2).2.2 y hy)) h.2
 simp only at e h
 rw [h.1,e]
theorem zs8 {l k:List DirT} (ha:∀ x ∈ l,dirOk x = true) (hb:∀ x ∈ k,dirOk x = true) (h:allS sDir l k = true):l = k :=
 zo2 (fun x hx y hy => sDir_eq (ha x hx) (hb y hy)) h
theorem zP4 {t:VT} (h:nulB t = true):t = .mk 0 0 ⟨#[]⟩ [] []:=by
 obtain ⟨k,n,s,l,ks⟩:=t
 unfold nulB at h
 simp only [Bool.and_eq_true,decide_eq_true_eq] at h
 rw [h.1,h.2.1,size0 h.2.2.1,List.length_eq_zero_iff.1 h.2.2.2.1,List.length_eq_zero_iff.1 h.2.2.2.2]
theorem sInp_eq {a b:InpT} (ha:inpOk a = true) (hb:inpOk b = true) (h:sInp a b = true):a = b:=by
 unfold inpOk at ha hb
 unfold sInp at h
 simp only [Bool.and_eq_true,decide_eq_true_eq] at ha hb h
 have e:=zs8 (zb1 ha.2.2.2).2.2 (zb1 hb.2.2.2).2.2 h.2.2.2.2
 have ed:a.dflt = b.dflt:=by
  have q1:=ha.2.2.1
  have q2:=hb.2.2.1
  rw [← h.2.2.1] at q2
  cases hh:a.has with
  | true =>
    rw [hh] at q1 q2
    exact zT0 _ _ (zx6 q1) (zx6 q2) h.2.2.2.1
  | false =>
    rw [hh,zP2] at q1 q2
    rw [zP4 q1,zP4 q2]
 obtain ⟨a1,a2,a3,a4,a5,a6⟩:=a
 obtain ⟨b1,b2,b3,b4,b5,b6⟩:=b
 simp only at e ed h
 rw [h.1,h.2.1.1,h.2.1.2,h.2.2.1,ed,e]
theorem zG0 {l k:List InpT} (ha:∀ x ∈ l,inpOk x = true) (hb:∀ x ∈ k,inpOk x = true) (h:allS sInp l k = true):l = k :=
 zo2 (fun x hx y hy => sInp_eq (ha x hx) (hb y hy)) h
theorem sMem_eq {a b:MemT} (ha:zg0 a = true) (hb:zg0 b = true) (h:sMem a b = true):a = b:=by
 unfold zg0 at ha hb
 unfold sMem at h
 simp only [Bool.and_eq_true,decide_eq_true_eq] at ha hb h
 have e:=zs8 (zb1 ha.2).2.2 (zb1 hb.2).2.2 h.2
 obtain ⟨a1,a2⟩:=a
 obtain ⟨b1,b2⟩:=b
 simp only at e h
 rw [h.1,e]
theorem sFld_eq {a b:FldT} (ha:fldOk a = true) (hb:fldOk b = true) (h:sFld a b = true):a = b:=by
 unfold fldOk at ha hb
 unfold sFld at h
 simp only [Bool.and_eq_true,decide_eq_true_eq] at ha hb h
 have e:=zs8 (zb1 ha.2.2.2).2.2 (zb1 hb.2.2.2).2.2 h.2.2.2
 have e2:=zG0 (zb1 ha.2.1).2.2 (zb1 hb.2.1).2.2 h.2.2.1
 obtain ⟨a1,a2,a3,a4,a5⟩:=a
 obtain ⟨b1,b2,b3,b4,b5⟩:=b
 simp only at e e2 h
 rw [h.1,e2,h.2.1.1,h.2.1.2,e]
theorem sDef_eq {a b:DefT} (ha:defOk a = true) (hb:defOk b = true) (h:sDef a b = true):a = b:=by
 obtain ⟨_,x2,_,x4,x5,x6⟩:=zS7 ha
 obtain ⟨_,y2,_,y4,y5,y6⟩:=zS7 hb
 unfold sDef at h
 simp only [Bool.and_eq_true,decide_eq_true_eq] at h
 obtain ⟨h0,h1,h2,h3,h4,h5,h6⟩:=h
 have e3:=zs8 x2 y2 h3
 have e4:=zo2 (fun x hx y hy => sFld_eq (x4 x hx) (y4 y hy)) h4
 have e5:=zo2 (fun x hx y hy => sMem_eq (x5 x hx) (y5 y hy)) h5
 have e6:=zG0 x6 y6 h6
 obtain ⟨a1,a2,a3,a4,a5,a6,a7⟩:=a
 obtain ⟨b1,b2,b3,b4,b5,b6,b7⟩:=b
 simp only at e3 e4 e5 e6 h0 h1 h2
 rw [h0,h1,h2,e3,e4,e5,e6]
theorem same_eq {xs ys:List DefT} (hx:docOk xs = true) (hy:docOk ys = true) (h:allS sDef xs ys = true):xs = ys :=
 zo2 (fun x hx' y hy' => sDef_eq ((zb1 hx).2.2 x hx') ((zb1 hy).2.2 y hy')) h
theorem zz7 (xs:List DefT):allS sDef xs xs = true:=zd9 fun x _ => zM9 x
end Go.Proofs.YtfgelheiknmjgaaGreatDoor
namespace Go.Proofs.YtfgelheiknmjgaaGreatDoor
open Go.RowKit
theorem Sl.form3 {α:Type} {k bytes:Nat} {R:World → Nat → (Nat → Value) → α → Prop} {w:World} {B:Nat} {v:Value} {xs:List α} (h:Sl k bytes R w B v xs):∃ A l c,v = .slice A l c:=by
 obtain ⟨A,c,e,_⟩:=h
 exact ⟨A,_,c,e⟩
theorem Rd.form5 {w:World} {B:Nat} {c0 c1 c2 c3 c4:Value} {t:VT} (h:Rd w B (.agg #[c0,c1,c2,c3,c4]) t):∃ (k n:Int) (s:ByteArray) (A:Option Addr) (l c:Nat) (K:Option Addr) (lk ck:Nat),c0 = .int .i64 k ∧ c1 = .int .i64 n ∧ c2 = .string s ∧ c3 = .slice A l c ∧ c4 = .slice K lk ck:=by
 cases h
 exact ⟨_,_,_,_,_,_,_,_,_,rfl,rfl,rfl,rfl,rfl⟩
theorem ArgR.form3 {w:World} {B:Nat} {f:Nat → Value} {x:ByteArray × VT} (h:ArgR w B f x):∃ (zs0:ByteArray) (zi1:Int) (zi2:Int) (zs3:ByteArray) (zA4:Option Addr) (zl4:Nat) (zc4:Nat) (zA5:Option Addr) (zl5:Nat) (zc5:Nat),f 0 = .string zs0 ∧ f 1 = .int .i64 zi1 ∧ f 2 = .int .i64 zi2 ∧ f 3 = .string zs3 ∧ f 4 = .slice zA4 zl4 zc4 ∧ f 5 = .slice zA5 zl5 zc5:=by
 obtain ⟨k,n,s,A,l,c,K,lk,ck,e1,e2,e3,e4,e5⟩:=h.val.form5
 exact ⟨_,k,n,s,A,l,c,K,lk,ck,h.name,e1,e2,e3,e4,e5⟩
theorem DirR.form3 {w:World} {B:Nat} {f:Nat → Value} {x:DirT} (h:DirR w B f x):∃ (zs0:ByteArray) (zA1:Option Addr) (zl1:Nat) (zc1:Nat),f 0 = .string zs0 ∧ f 1 = .slice zA1 zl1 zc1:=by
 obtain ⟨A,l,c,e⟩:=Sl.form3 h.args
 exact ⟨_,A,l,c,h.name,e⟩
theorem MemR.form3 {w:World} {B:Nat} {f:Nat → Value} {x:MemT} (h:MemR w B f x):∃ (zs0:ByteArray) (zA1:Option Addr) (zl1:Nat) (zc1:Nat),f 0 = .string zs0 ∧ f 1 = .slice zA1 zl1 zc1:=by
 obtain ⟨A,l,c,e⟩:=Sl.form3 h.dirs
 exact ⟨_,A,l,c,h.name,e⟩
theorem InpR.form3 {w:World} {B:Nat} {f:Nat → Value} {x:InpT} (h:InpR w B f x):∃ (zs0:ByteArray) (zs1:ByteArray) (zA2:Option Addr) (zl2:Nat) (zc2:Nat) (zb3:Bool) (zi4:Int) (zi5:Int) (zs6:ByteArray) (zA7:Option Addr) (zl7:Nat) (zc7:Nat) (zA8:Option Addr) (zl8:Nat) (zc8:Nat) (zA9:Option Addr) (zl9:Nat) (zc9:Nat),f 0 = .string zs0 ∧ f 1 = .string zs1 ∧ f 2 = .slice zA2 zl2 zc2 ∧ f 3 = .bool zb3 ∧ f 4 = .int .i64 zi4 ∧ f 5 = .int .i64 zi5 ∧ f 6 = .string zs6 ∧ f 7 = .slice zA7 zl7 zc7 ∧ f 8 = .slice zA8 zl8 zc8 ∧ f 9 = .slice zA9 zl9 zc9:=by
 obtain ⟨k,n,s,A,l,c,K,lk,ck,e1,e2,e3,e4,e5⟩:=h.val.form5
 obtain ⟨A2,l2,c2,e6⟩:=Sl.form3 h.type.wraps
 obtain ⟨A9,l9,c9,e9⟩:=Sl.form3 h.dirs
 exact ⟨_,_,A2,l2,c2,_,k,n,s,A,l,c,K,lk,ck,A9,l9,c9,h.name,h.type.name,e6,h.has,e1,e2,e3,e4,e5,e9⟩
theorem FldR.form3 {w:World} {B:Nat} {f:Nat → Value} {x:FldT} (h:FldR w B f x):∃ (zs0:ByteArray) (zA1:Option Addr) (zl1:Nat) (zc1:Nat) (zs2:ByteArray) (zA3:Option Addr) (zl3:Nat) (zc3:Nat) (zA4:Option Addr) (zl4:Nat) (zc4:Nat),f 0 = .string zs0 ∧ f 1 = .slice zA1 zl1 zc1 ∧ f 2 = .string zs2 ∧ f 3 = .slice zA3 zl3 zc3 ∧ f 4 = .slice zA4 zl4 zc4:=by
 obtain ⟨A1,l1,c1,e1⟩:=Sl.form3 h.args
 obtain ⟨A2,l2,c2,e6⟩:=Sl.form3 h.type.wraps
 obtain ⟨A9,l9,c9,e9⟩:=Sl.form3 h.dirs
 exact ⟨_,A1,l1,c1,_,A2,l2,c2,A9,l9,c9,h.name,e1,h.type.name,e6,e9⟩
theorem DefR.form3 {w:World} {B:Nat} {f:Nat → Value} {x:DefT} (h:DefR w B f x):∃ (zi0:Int) (zs1:ByteArray) (zA2:Option Addr) (zl2:Nat) (zc2:Nat) (zA3:Option Addr) (zl3:Nat) (zc3:Nat) (zA4:Option Addr) (zl4:Nat) (zc4:Nat) (zA5:Option Addr) (zl5:Nat) (zc5:Nat) (zA6:Option Addr) (zl6:Nat) (zc6:Nat),f 0 = .int .i64 zi0 ∧ f 1 = .string zs1 ∧ f 2 = .slice zA2 zl2 zc2 ∧ f 3 = .slice zA3 zl3 zc3 ∧ f 4 = .slice zA4 zl4 zc4 ∧ f 5 = .slice zA5 zl5 zc5 ∧ f 6 = .slice zA6 zl6 zc6:=by
 obtain ⟨A2,l2,c2,e2⟩:=Sl.form3 h.impl
 obtain ⟨A3,l3,c3,e3⟩:=Sl.form3 h.dirs
 obtain ⟨A4,l4,c4,e4⟩:=Sl.form3 h.fields
 obtain ⟨A5,l5,c5,e5⟩:=Sl.form3 h.members
 obtain ⟨A6,l6,c6,e6⟩:=Sl.form3 h.inputs
 exact ⟨_,_,A2,l2,c2,A3,l3,c3,A4,l4,c4,A5,l5,c5,A6,l6,c6,h.kind,h.name,e2,e3,e4,e5,e6⟩
end Go.Proofs.YtfgelheiknmjgaaGreatDoor
namespace Go.Proofs.YtfgelheiknmjgaaGreatDoor
open Go.RowKit
set_option maxRecDepth 100000 in
set_option maxHeartbeats 4000000 in
theorem zS3 (s:ByteArray × VT → ByteArray × VT → Bool) (xs ys:List (ByteArray × VT)) (v1 v2:Value) (w:World) (hx:Sl 6 96 ArgR w w.heap.size v1 xs) (hy:Sl 6 96 ArgR w w.heap.size v2 ys)
  (hC:∀ (W:World) (x y:ByteArray × VT) (f g:Nat → Value),Below w.heap.size w W → x ∈ xs → y ∈ ys → ArgR W W.heap.size f x → ArgR W W.heap.size g y → Calls Tryz.prog 219 #[.agg #[f 0,f 1,f 2,f 3,f 4,f 5],.agg #[g 0,g 1,g 2,g 3,g 4,g 5]] W (BP (s x y) W)) :
  Calls Tryz.prog 218 #[v1,v2,.func (.func 219) #[] #[]] w (BP (allS s xs ys) w):=by
 obtain ⟨A1,c1,rfl,hc1,hb1,V1,hA1,hr1⟩:=hx
 obtain ⟨A2,c2,rfl,hc2,hb2,V2,hA2,hr2⟩:=hy
 obtain ⟨n,hn⟩ : ∃ n,n = xs.length:=⟨_,rfl⟩
 obtain ⟨m,hm⟩ : ∃ m,m = ys.length:=⟨_,rfl⟩
 obtain ⟨R,hR⟩ : ∃ R,R = allS s xs ys:=⟨_,rfl⟩
 rw [← hn] at hb1 hA1
 rw [← hm] at hb2 hA2
 rw [← hR, ← hn, ← hm]
 unfold big at hb1 hb2
 have g1:(n:Int) ≤ 140737488351232:=by omega
 have g2:(m:Int) ≤ 140737488351232:=by omega
 have HN:=Lib.hid hn
 have HM:=Lib.hid hm
 have HR:=Lib.hid hR
 have HA1:=Lib.hid hA1
 have HA2:=Lib.hid hA2
 have HR1:=Lib.hid hr1
 have HR2:=Lib.hid hr2
 have HC:=Lib.hid hC
 clear hn hm hA1 hA2 hr1 hr2 hc1 hc2 hb1 hb2 hC hR
 by_cases hnm:n = m
 rotate_left
 ·have hRF:R = false:=by rw [HR.out]; exact zd3 (by rw [← HN.out, ← HM.out]; exact hnm)
  have hd:((n:Int) != (m:Int)) = true:=by simp; omega
  subst hRF
  go_enter Tryz.func218, Tryz.ntmps218
  go_wp2_with fail
  go_ret
  exact ⟨rfl,Below.refl _ _⟩
 subst hnm
 clear g2
 go_enter Tryz.func218, Tryz.ntmps218
 go_wp2_with fail
 go_loopw [17] (fun u wr => ∃ j:Nat,j ≤ n ∧ u = .int .i64 j ∧ Hid (allS s (xs.drop j) (ys.drop j) = R ∧ Below w.heap.size w wr)) (fun u _ => n - (intOf u).toNat)
 case atStart => exact ⟨0,Nat.zero_le _,rfl,Lib.hid ⟨by rw [List.drop_zero,List.drop_zero,HR.out],Below.refl _ _⟩⟩
 case round =>
  obtain ⟨j,hj,rfl,hq⟩:=hrel
  by_cases hlt:j < n
  ·have hlt':(j:Int) < n:=by omega
   obtain ⟨x,hx⟩ : ∃ x,xs[j]? = some x:=⟨_,List.getElem?_eq_getElem (by have:=HN.out; omega)⟩
   obtain ⟨y,hy⟩ : ∃ y,ys[j]? = some y:=⟨_,List.getElem?_eq_getElem (by have:=HM.out; omega)⟩
   obtain ⟨a1,rfl,ha1,hx1⟩:=HA1.out (by omega)
   obtain ⟨a2,rfl,ha2,hx2⟩:=HA2.out (by omega)
   have hst:=zf3 (f:=s) hx hy
   obtain ⟨xs0,xi1,xi2,xs3,xA4,xl4,xc4,xA5,xl5,xc5,ex0,ex1,ex2,ex3,ex4,ex5⟩:=ArgR.form3 (HR1.out j x hx)
   obtain ⟨ys0,yi1,yi2,ys3,yA4,yl4,yc4,yA5,yl5,yc5,ey0,ey1,ey2,ey3,ey4,ey5⟩:=ArgR.form3 (HR2.out j y hy)
   have hcl1:∀ q,q < 6 → wr.cell? (at_ (a1.add (j * 6)) q) = some (V1 j q):=fun q hq2 => (hq.out.2.cell (by rw [za7,za1]; exact ha1)).trans (hx1 j hlt q hq2)
   have hcl2:∀ q,q < 6 → (wr.alloc (.cells #[.string xs0,.int .i64 xi1,.int .i64 xi2,.string xs3,.slice xA4 xl4 xc4,.slice xA5 xl5 xc5] 88 (0,0))).cell? (at_ (a2.add (j * 6)) q) = some (V2 j q):=fun q hq2 => ((hq.out.2.trans ((za0 wr _).mono hq.out.2.size)).cell (by rw [za7,za1]; exact ha2)).trans (hx2 j hlt q hq2)
   have r0:wr.cell? (a1.add (j * 6)) = some (.string xs0):=(hcl1 0 (by omega)).trans (by rw [ex0])
   have r1:wr.cell? ⟨(a1.add (j * 6)).block,(a1.add (j * 6)).off + 1,none⟩ = some (.int .i64 xi1):=(hcl1 1 (by omega)).trans (by rw [ex1])
   have r2:wr.cell? ⟨(a1.add (j * 6)).block,(a1.add (j * 6)).off + 2,none⟩ = some (.int .i64 xi2):=(hcl1 2 (by omega)).trans (by rw [ex2])
   have r3:wr.cell? ⟨(a1.add (j * 6)).block,(a1.add (j * 6)).off + 3,none⟩ = some (.string xs3):=(hcl1 3 (by omega)).trans (by rw [ex3])
   have r4:wr.cell? ⟨(a1.add (j * 6)).block,(a1.add (j * 6)).off + 4,none⟩ = some (.slice xA4 xl4 xc4):=(hcl1 4 (by omega)).trans (by rw [ex4])
   have r5:wr.cell? ⟨(a1.add (j * 6)).block,(a1.add (j * 6)).off + 5,none⟩ = some (.slice xA5 xl5 xc5):=(hcl1 5 (by omega)).trans (by rw [ex5])
   have t0:(wr.alloc (.cells #[.string xs0,.int .i64 xi1,.int .i64 xi2,.string xs3,.slice xA4 xl4 xc4,.slice xA5 xl5 xc5] 88 (0,0))).cell? (a2.add (j * 6)) = some (.string ys0):=(hcl2 0 (by omega)).trans (by rw [ey0])
   have t1:(wr.alloc (.cells #[.string xs0,.int .i64 xi1,.int .i64 xi2,.string xs3,.slice xA4 xl4 xc4,.slice xA5 xl5 xc5] 88 (0,0))).cell? ⟨(a2.add (j * 6)).block,(a2.add (j * 6)).off + 1,none⟩ = some (.int .i64 yi1):=(hcl2 1 (by omega)).trans (by rw [ey1])
   have t2:(wr.alloc (.cells #[.string xs0,.int .i64 xi1,.int .i64 xi2,.string xs3,.slice xA4 xl4 xc4,.slice xA5 xl5 xc5] 88 (0,0))).cell? ⟨(a2.add (j * 6)).block,(a2.add (j * 6)).off + 2,none⟩ = some (.int .i64 yi2):=(hcl2 2 (by omega)).trans (by rw [ey2])
   have t3:(wr.alloc (.cells #[.string xs0,.int .i64 xi1,.int .i64 xi2,.string xs3,.slice xA4 xl4 xc4,.slice xA5 xl5 xc5] 88 (0,0))).cell? ⟨(a2.add (j * 6)).block,(a2.add (j * 6)).off + 3,none⟩ = some (.string ys3):=(hcl2 3 (by omega)).trans (by rw [ey3])
   have t4:(wr.alloc (.cells #[.string xs0,.int .i64 xi1,.int .i64 xi2,.string xs3,.slice xA4 xl4 xc4,.slice xA5 xl5 xc5] 88 (0,0))).cell? ⟨(a2.add (j * 6)).block,(a2.add (j * 6)).off + 4,none⟩ = some (.slice yA4 yl4 yc4):=(hcl2 4 (by omega)).trans (by rw [ey4])
   have t5:(wr.alloc (.cells #[.string xs0,.int .i64 xi1,.int .i64 xi2,.string xs3,.slice xA4 xl4 xc4,.slice xA5 xl5 xc5] 88 (0,0))).cell? ⟨(a2.add (j * 6)).block,(a2.add (j * 6)).off + 5,none⟩ = some (.slice yA5 yl5 yc5):=(hcl2 5 (by omega)).trans (by rw [ey5])
   have hbw:Below w.heap.size w ((wr.alloc (.cells #[.string xs0,.int .i64 xi1,.int .i64 xi2,.string xs3,.slice xA4 xl4 xc4,.slice xA5 xl5 xc5] 88 (0,0))).alloc (.cells #[.string ys0,.int .i64 yi1,.int .i64 yi2,.string ys3,.slice yA4 yl4 yc4,.slice yA5 yl5 yc5] 88 (0,0))):=(hq.out.2.trans ((za0 wr _).mono hq.out.2.size)).alloc (by have:=hq.out.2.size; simp; omega) _
   have HBW:=Lib.hid hbw
   have CALL:=Lib.hid (HC.out _ x y (V1 j) (V2 j) hbw (List.mem_of_getElem? hx) (List.mem_of_getElem? hy) (ArgR.stays.mono (ArgR.stays.kept (HR1.out j x hx) hbw) hbw.size) (ArgR.stays.mono (ArgR.stays.kept (HR2.out j y hy) hbw) hbw.size))
   obtain ⟨b,hb⟩ : ∃ b,b = s x y:=⟨_,rfl⟩
   rw [← hb,ex0,ey0,ex1,ey1,ex2,ey2,ex3,ey3,ex4,ey4,ex5,ey5] at CALL
   rw [← hb] at hst
   have HST:=Lib.hid hst
   clear ex0 ey0 ex1 ey1 ex2 ey2 ex3 ey3 ex4 ey4 ex5 ey5 hx hy hst hcl1 hcl2 hx1 hx2 ha1 ha2 hbw hb
   cases b with
   | true =>
     go_wp2_with fail
     refine CALL.out.mono ?_
     rintro e w5 ⟨rfl,hb⟩
     have HB5:=Lib.hid (HBW.out.trans (hb.mono HBW.out.size))
     clear hb CALL
     go_wp2_with fail
     go_roundw
     case rel => exact ⟨j + 1,by omega,by go_num,Lib.hid ⟨by have:=HST.out; rw [hq.out.1] at this; rw [this]; rfl,HB5.out⟩⟩
     case measure => simp [intOf]; omega
   | false =>
     have hRF:R = false:=by have:=HST.out; rw [hq.out.1] at this; rw [this]; rfl
     subst hRF
     go_wp2_with fail
     refine CALL.out.mono ?_
     rintro e w5 ⟨rfl,hb⟩
     have HB5:=Lib.hid (HBW.out.trans (hb.mono HBW.out.size))
     clear hb CALL
     go_wp2_with fail
     go_ret
     exact ⟨rfl,HB5.out⟩
  ·have hjn:j = n:=by omega
   have hlt':¬ (j:Int) < n:=by omega
   have hRT:R = true:=by rw [← hq.out.1]; exact zd6 (by rw [← HN.out]; omega) (by rw [← HM.out]; omega)
   subst hRT
   go_wp2_with fail
   go_ret
   exact ⟨rfl,hq.out.2⟩
end Go.Proofs.YtfgelheiknmjgaaGreatDoor
namespace Go.Proofs.YtfgelheiknmjgaaGreatDoor
open Go.RowKit
set_option maxRecDepth 100000 in
set_option maxHeartbeats 4000000 in
theorem zS0 (s:DirT → DirT → Bool) (xs ys:List (DirT)) (v1 v2:Value) (w:World) (hx:Sl 2 40 DirR w w.heap.size v1 xs) (hy:Sl 2 40 DirR w w.heap.size v2 ys)
  (hC:∀ (W:World) (x y:DirT) (f g:Nat → Value),Below w.heap.size w W → x ∈ xs → y ∈ ys → DirR W W.heap.size f x → DirR W W.heap.size g y → Calls Tryz.prog 137 #[.agg #[f 0,f 1],.agg #[g 0,g 1]] W (BP (s x y) W)) :
  Calls Tryz.prog 136 #[v1,v2,.func (.func 137) #[] #[]] w (BP (allS s xs ys) w):=by
 obtain ⟨A1,c1,rfl,hc1,hb1,V1,hA1,hr1⟩:=hx
 obtain ⟨A2,c2,rfl,hc2,hb2,V2,hA2,hr2⟩:=hy
 obtain ⟨n,hn⟩ : ∃ n,n = xs.length:=⟨_,rfl⟩
 obtain ⟨m,hm⟩ : ∃ m,m = ys.length:=⟨_,rfl⟩
 obtain ⟨R,hR⟩ : ∃ R,R = allS s xs ys:=⟨_,rfl⟩
 rw [← hn] at hb1 hA1
 rw [← hm] at hb2 hA2
 rw [← hR, ← hn, ← hm]
 unfold big at hb1 hb2
 have g1:(n:Int) ≤ 140737488351232:=by omega
 have g2:(m:Int) ≤ 140737488351232:=by omega
 have HN:=Lib.hid hn
 have HM:=Lib.hid hm
 have HR:=Lib.hid hR
 have HA1:=Lib.hid hA1
 have HA2:=Lib.hid hA2
 have HR1:=Lib.hid hr1
 have HR2:=Lib.hid hr2
 have HC:=Lib.hid hC
 clear hn hm hA1 hA2 hr1 hr2 hc1 hc2 hb1 hb2 hC hR
 by_cases hnm:n = m
 rotate_left
 ·have hRF:R = false:=by rw [HR.out]; exact zd3 (by rw [← HN.out, ← HM.out]; exact hnm)
  have hd:((n:Int) != (m:Int)) = true:=by simp; omega
  subst hRF
  go_enter Tryz.func136, Tryz.ntmps136
  go_wp2_with fail
  go_ret
  exact ⟨rfl,Below.refl _ _⟩
 subst hnm
 clear g2
 go_enter Tryz.func136, Tryz.ntmps136
 go_wp2_with fail
 go_loopw [17] (fun u wr => ∃ j:Nat,j ≤ n ∧ u = .int .i64 j ∧ Hid (allS s (xs.drop j) (ys.drop j) = R ∧ Below w.heap.size w wr)) (fun u _ => n - (intOf u).toNat)
 case atStart => exact ⟨0,Nat.zero_le _,rfl,Lib.hid ⟨by rw [List.drop_zero,List.drop_zero,HR.out],Below.refl _ _⟩⟩
 case round =>
  obtain ⟨j,hj,rfl,hq⟩:=hrel
  by_cases hlt:j < n
  ·have hlt':(j:Int) < n:=by omega
   obtain ⟨x,hx⟩ : ∃ x,xs[j]? = some x:=⟨_,List.getElem?_eq_getElem (by have:=HN.out; omega)⟩
   obtain ⟨y,hy⟩ : ∃ y,ys[j]? = some y:=⟨_,List.getElem?_eq_getElem (by have:=HM.out; omega)⟩
   obtain ⟨a1,rfl,ha1,hx1⟩:=HA1.out (by omega)
   obtain ⟨a2,rfl,ha2,hx2⟩:=HA2.out (by omega)
   have hst:=zf3 (f:=s) hx hy
   obtain ⟨xs0,xA1,xl1,xc1,ex0,ex1⟩:=DirR.form3 (HR1.out j x hx)
   obtain ⟨ys0,yA1,yl1,yc1,ey0,ey1⟩:=DirR.form3 (HR2.out j y hy)
   have hcl1:∀ q,q < 2 → wr.cell? (at_ (a1.add (j * 2)) q) = some (V1 j q):=fun q hq2 => (hq.out.2.cell (by rw [za7,za1]; exact ha1)).trans (hx1 j hlt q hq2)
   have hcl2:∀ q,q < 2 → (wr.alloc (.cells #[.string xs0,.slice xA1 xl1 xc1] 85 (0,0))).cell? (at_ (a2.add (j * 2)) q) = some (V2 j q):=fun q hq2 => ((hq.out.2.trans ((za0 wr _).mono hq.out.2.size)).cell (by rw [za7,za1]; exact ha2)).trans (hx2 j hlt q hq2)
   have r0:wr.cell? (a1.add (j * 2)) = some (.string xs0):=(hcl1 0 (by omega)).trans (by rw [ex0])
   have r1:wr.cell? ⟨(a1.add (j * 2)).block,(a1.add (j * 2)).off + 1,none⟩ = some (.slice xA1 xl1 xc1):=(hcl1 1 (by omega)).trans (by rw [ex1])
   have t0:(wr.alloc (.cells #[.string xs0,.slice xA1 xl1 xc1] 85 (0,0))).cell? (a2.add (j * 2)) = some (.string ys0):=(hcl2 0 (by omega)).trans (by rw [ey0])
   have t1:(wr.alloc (.cells #[.string xs0,.slice xA1 xl1 xc1] 85 (0,0))).cell? ⟨(a2.add (j * 2)).block,(a2.add (j * 2)).off + 1,none⟩ = some (.slice yA1 yl1 yc1):=(hcl2 1 (by omega)).trans (by rw [ey1])
   have hbw:Below w.heap.size w ((wr.alloc (.cells #[.string xs0,.slice xA1 xl1 xc1] 85 (0,0))).alloc (.cells #[.string ys0,.slice yA1 yl1 yc1] 85 (0,0))):=(hq.out.2.trans ((za0 wr _).mono hq.out.2.size)).alloc (by have:=hq.out.2.size; simp; omega) _
   have HBW:=Lib.hid hbw
   have CALL:=Lib.hid (HC.out _ x y (V1 j) (V2 j) hbw (List.mem_of_getElem? hx) (List.mem_of_getElem? hy) (DirR.stays.mono (DirR.stays.kept (HR1.out j x hx) hbw) hbw.size) (DirR.stays.mono (DirR.stays.kept (HR2.out j y hy) hbw) hbw.size))
   obtain ⟨b,hb⟩ : ∃ b,b = s x y:=⟨_,rfl⟩
   rw [← hb,ex0,ey0,ex1,ey1] at CALL
   rw [← hb] at hst
   have HST:=Lib.hid hst
   clear ex0 ey0 ex1 ey1 hx hy hst hcl1 hcl2 hx1 hx2 ha1 ha2 hbw hb
   cases b with
   | true =>
     go_wp2_with fail
     refine CALL.out.mono ?_
     rintro e w5 ⟨rfl,hb⟩
     have HB5:=Lib.hid (HBW.out.trans (hb.mono HBW.out.size))
     clear hb CALL
     go_wp2_with fail
     go_roundw
     case rel => exact ⟨j + 1,by omega,by go_num,Lib.hid ⟨by have:=HST.out; rw [hq.out.1] at this; rw [this]; rfl,HB5.out⟩⟩
     case measure => simp [intOf]; omega
   | false =>
     have hRF:R = false:=by have:=HST.out; rw [hq.out.1] at this; rw [this]; rfl
     subst hRF
     go_wp2_with fail
     refine CALL.out.mono ?_
     rintro e w5 ⟨rfl,hb⟩
     have HB5:=Lib.hid (HBW.out.trans (hb.mono HBW.out.size))
     clear hb CALL
     go_wp2_with fail
     go_ret
     exact ⟨rfl,HB5.out⟩
  ·have hjn:j = n:=by omega
   have hlt':¬ (j:Int) < n:=by omega
   have hRT:R = true:=by rw [← hq.out.1]; exact zd6 (by rw [← HN.out]; omega) (by rw [← HM.out]; omega)
   subst hRT
   go_wp2_with fail
   go_ret
   exact ⟨rfl,hq.out.2⟩
end Go.Proofs.YtfgelheiknmjgaaGreatDoor

