
/-
 Texts joined: NR NO NO2 NW N5 YIter YBuild.
-/
import Derived.Test.YtfgelheiknmjgaaGreatDoorZs40
import Derived.Test.YtfgelheiknmjgaaGreatDoorZs5
import Derived.Test.YtfgelheiknmjgaaGreatDoorZs6
import Derived.Test.YtfgelheiknmjgaaGreatDoorZs26
import Derived.RangeFuncBox
import Derived.RangeFuncLeaves
import Derived.RangeFuncWrites
import Derived.RangeFuncBound
import Derived.RangeFuncCalls
import Derived.Shelf.Abstract
import Derived.Shelf.RegionOpen
import Derived.OwnWalkIn
import Derived.TacticsInMore
import Derived.LoopNIn
import Derived.LoopIn
import Derived.Test.YtfgelheiknmjgaaGreatDoorZs3
import Derived.Shelf.Strings.BuilderK
namespace Go.Proofs.YtfgelheiknmjgaaGreatDoor
open Go.RowKit
theorem zp2 {P:Program} {ops:Array Oper} {Q:Exit → Act → World → Prop} {o:Oper} {a:Act} {w:World} {R R':Value → World → Prop} (h:K.Runs P ops Q o a w R) (hr:∀ u w',R u w' → R' u w'):K.Runs P ops Q o a w R' :=
 ⟨h.1,Oper.wp_mono (fun _ _ ⟨v,e,hv⟩ => ⟨v,e,hr _ _ hv⟩) h.2⟩
theorem zj4 {P:Program} {ops:Array Oper} {Q:Exit → Act → World → Prop} {o:Oper} {a:Act} {w:World} {R:Value → World → Prop} (hw:Region.wanted o (yielded ops a.tmps) = true) (f:FuncId) (xs:Array Operand) (ts:Array TypeId)
  (ho:o.op = .call { callee:=.value (.func f),args:=xs,argTypes:=ts }) (hen:∀ (args:Array Value) (w:World),(callFunc f args).run P w = .ok (.enter f args) w) (vs:Array Value) (hx:xs.map a.eval = vs)
  (hc:Calls P f vs w fun e w' => ∃ v,e = .returned v ∧ R v w'):K.Runs P ops Q o a w R:=by
 refine ⟨hw, ?_⟩
 unfold Oper.wp
 have he:(execOp a.eval o).run P w = .ok (.enter f vs) w:=by
  simp [execOp,ho,go_sem,hx,hen]
 rw [he]
 refine hc.mono fun e w' h => ?_
 obtain ⟨v,hv,hr⟩:=h
 subst hv; exact ⟨v,rfl,hr⟩
structure CJ (W1:World) (v0:Value) (pv:Nat → Option Value) (b c e x:Nat) (C:World → Prop) (G E:Value → World → Prop) (cl:(Nat → Bool) → Prop) (d:Nat → Bool) (v:Nat → Value) (w:World):Prop where
 pure:∀ i u,pv i = some u → d i = true → v i = u
 closed:cl d
 oc:d c = true → d b = true
 oe:d e = true → d c = true
 ox:d x = true → d e = true
 f0:d b = false → w = W1
 fb:d b = true → d c = false → C w
 fc:d c = true → d e = false → G (v c) w
 fe:d e = true → E (v e) w
 fx:d x = true → v x = v e
 gx:d x = false → v x = v0
structure CJi (n:Nat) (pv:Nat → Option Value) (b c e x:Nat):Prop where
 bc:b ≠ c
 be:b ≠ e
 bx:b ≠ x
 ce:c ≠ e
 cx:c ≠ x
 ex:e ≠ x
 nc:pv c = none
 ne:pv e = none
 nx:pv x = none
 b_:b < n
 c_:c < n
 e_:e < n
def zI6 (ops:Array Oper) (d:Nat → Bool):Prop:=∀ i o,ops[i]? = some o → d i = true → ∀ y ∈ o.after,Region.binds .any y = true → d y.on = true
section
variable {W1 w:World} {v0:Value} {pv:Nat → Option Value} {b c e x:Nat} {C:World → Prop} {G E:Value → World → Prop} {cl:(Nat → Bool) → Prop} {D:Nat → Bool} {V:Nat → Value}
theorem CJ.mkC (hp:∀ i u,pv i = some u → D i = true → V i = u) (hc:cl D) (h1:D b = true) (h2:D c = false) (h3:D e = false) (h4:D x = false) (h5:V x = v0) (h:C w):CJ W1 v0 pv b c e x C G E cl D V w :=
 ⟨hp,hc,fun q => (by rw [h2] at q; cases q),fun q => (by rw [h3] at q; cases q),fun q => (by rw [h4] at q; cases q),fun q => (by rw [h1] at q; cases q),fun _ _ => h,fun q => (by rw [h2] at q; cases q),fun q => (by rw [h3] at q; cases q),fun q => (by rw [h4] at q; cases q),fun _ => h5⟩
theorem CJ.mkG (u:Value) (hp:∀ i u,pv i = some u → D i = true → V i = u) (hc:cl D) (h1:D b = true) (h2:D c = true) (h3:D e = false) (h4:D x = false) (h5:V x = v0) (hv:V c = u) (h:G u w):CJ W1 v0 pv b c e x C G E cl D V w :=
 ⟨hp,hc,fun _ => h1,fun q => (by rw [h3] at q; cases q),fun q => (by rw [h4] at q; cases q),fun q => (by rw [h1] at q; cases q),fun _ q => (by rw [h2] at q; cases q),fun _ _ => (by rw [hv]; exact h),fun q => (by rw [h3] at q; cases q),fun q => (by rw [h4] at q; cases q),fun _ => h5⟩
theorem CJ.mkE (u:Value) (hp:∀ i u,pv i = some u → D i = true → V i = u) (hc:cl D) (h1:D b = true) (h2:D c = true) (h3:D e = true) (h4:D x = false) (h5:V x = v0) (hv:V e = u) (h:E u w):CJ W1 v0 pv b c e x C G E cl D V w :=
 ⟨hp,hc,fun _ => h1,fun _ => h2,fun q => (by rw [h4] at q; cases q),fun q => (by rw [h1] at q; cases q),fun _ q => (by rw [h2] at q; cases q),fun _ q => (by rw [h3] at q; cases q),fun _ => (by rw [hv]; exact h),fun q => (by rw [h4] at q; cases q),fun _ => h5⟩
theorem CJ.mkX (u:Value) (hp:∀ i u,pv i = some u → D i = true → V i = u) (hc:cl D) (h1:D b = true) (h2:D c = true) (h3:D e = true) (h4:D x = true) (hv:V e = u) (hx:V x = u) (h:E u w):CJ W1 v0 pv b c e x C G E cl D V w :=
 ⟨hp,hc,fun _ => h1,fun _ => h2,fun _ => h3,fun q => (by rw [h1] at q; cases q),fun _ q => (by rw [h2] at q; cases q),fun _ q => (by rw [h3] at q; cases q),fun _ => (by rw [hv]; exact h),fun _ => (by rw [hx,hv]),fun q => (by rw [h4] at q; cases q)⟩
theorem CJ.same {d:Nat → Bool} {v:Nat → Value} (hJ:CJ W1 v0 pv b c e x C G E cl d v w) (hp:∀ i u,pv i = some u → D i = true → V i = u) (hc:cl D) (h1:D b = d b) (h2:D c = d c) (h3:D e = d e) (h4:D x = d x) (q2:V c = v c) (q3:V e = v e) (q4:V x = v x):CJ W1 v0 pv b c e x C G E cl D V w :=
 ⟨hp,hc,by rw [h1,h2]; exact hJ.oc,by rw [h2,h3]; exact hJ.oe,by rw [h3,h4]; exact hJ.ox,by rw [h1]; exact hJ.f0,by rw [h1,h2]; exact hJ.fb,by rw [h2,h3,q2]; exact hJ.fc,by rw [h3,q3]; exact hJ.fe,by rw [h4,q3,q4]; exact hJ.fx,by rw [h4,q4]; exact hJ.gx⟩
end
theorem zn4 {P:Program} {ops:Array Oper} {Q:Exit → Act → World → Prop} (hm:P.follows .mixedOrders = true) {id:Nat} {a0:Act} {W0:World} (hl:K.lowB ops = true)
  {pv:Nat → Option Value} {b c e x:Nat} {C:World → Prop} {G E:Value → World → Prop} (hb:K.dstB ops a0.tmps.size ops.size = true) (hi:CJi ops.size pv b c e x)
  (hdc:∀ o,ops[c]? = some o → ∀ d,zI6 ops d → (∀ y ∈ o.after,Region.binds .any y = true → d y.on = true) → d b = true)
  (hde:∀ o,ops[e]? = some o → ∃ y ∈ o.after,Region.binds .any y = true ∧ y.on = c)
  (hdx:∀ o,ops[x]? = some o → ∃ y ∈ o.after,Region.binds .any y = true ∧ y.on = e)
  (hpu:∀ i o,ops[i]? = some o → i ≠ b → i ≠ c → i ≠ e → i ≠ x → ∀ (d:Nat → Bool) (a:Act) (w:World),K.Fr ops a0 a → zI6 ops d → d i = false → (d x = false → K.vof ops a x = K.vof ops a0 x) → (∀ y ∈ o.after,Region.binds .any y = true → ∀ u,pv y.on = some u → K.vof ops a y.on = u) →
    (w = W0.drew ∨ C w ∨ (∃ u,G u w) ∨ (d e = true ∧ ∃ u,E u w)) → K.Runs P ops Q o a w fun u w' => w' = w ∧ ∀ z,pv i = some z → u = z)
  (hca:∀ o,ops[b]? = some o → ∀ (a:Act),K.Fr ops a0 a → (∀ y ∈ o.after,Region.binds .any y = true → ∀ u,pv y.on = some u → K.vof ops a y.on = u) → K.Runs P ops Q o a W0.drew fun u w' => C w' ∧ ∀ z,pv b = some z → u = z)
  (hbu:∀ o,ops[c]? = some o → ∀ (a:Act) (w:World),K.Fr ops a0 a → (∀ y ∈ o.after,Region.binds .any y = true → ∀ u,pv y.on = some u → K.vof ops a y.on = u) → C w → K.Runs P ops Q o a w G)
  (hap:∀ o,ops[e]? = some o → ∀ (a:Act) (w:World),K.Fr ops a0 a → (∀ y ∈ o.after,Region.binds .any y = true → ∀ u,pv y.on = some u → K.vof ops a y.on = u) → G (K.vof ops a c) w → K.Runs P ops Q o a w E)
  (hst:∀ o,ops[x]? = some o → ∀ (a:Act) (w:World),K.Fr ops a0 a → K.Runs P ops Q o a w fun u w' => w' = w ∧ u = K.vof ops a e)
  (hend:∀ (a:Act) (w:World),K.Fr ops a0 a → E (K.vof ops a e) w → (x < ops.size → K.vof ops a x = K.vof ops a e) → Q .normal a w) :
  (Code.region id ops true).wp P Q a0 W0:=by
 refine K.zr7 hm hl ops.size hb (fun d v w => CJ W0.drew (K.vof ops a0 x) pv b c e x C G E (zI6 ops) d v w) ?_ ?_ ?_
 ·exact ⟨fun _ _ _ h => (by cases h),fun _ _ _ h => (by cases h),fun h => (by cases h),fun h => (by cases h),fun h => (by cases h),fun _ => rfl,fun h => (by cases h),fun h => (by cases h),fun h => (by cases h),fun h => (by cases h),fun _ => rfl⟩
 ·intro i o ho d a w hf hJ hd hall
  have hin:i < ops.size:=(Array.getElem?_eq_some_iff.1 ho).1
  have hpv:∀ y ∈ o.after,Region.binds .any y = true → ∀ u,pv y.on = some u → K.vof ops a y.on = u:=fun y hy hbd u hu => hJ.pure _ _ hu (hall y hy hbd)
  have hcl:zI6 ops (fun j => if i = j then true else d j):=fun j o' ho' hj y hy hbd => by
   by_cases e1:i = j
   ·subst e1; rw [ho] at ho'; cases ho'
    show (if i = y.on then true else d y.on) = true
    rw [hall y hy hbd]; split <;> rfl
   ·have hj':d j = true:=by have:(if i = j then true else d j) = true:=hj; rwa [if_neg e1] at this
    show (if i = y.on then true else d y.on) = true
    rw [hJ.closed j o' ho' hj' y hy hbd]; split <;> rfl
  have ud:∀ k,i ≠ k → (if i = k then true else d k) = d k:=fun k h => if_neg h
  have uv:∀ (u:Value) k,i ≠ k → (if i = k ∧ i ≠ ops.size then u else K.vof ops a k) = K.vof ops a k:=fun u k h => if_neg (fun q => h q.1)
  have ui:∀ (u:Value),(if i = i ∧ i ≠ ops.size then u else K.vof ops a i) = u:=fun u => if_pos ⟨rfl,by omega⟩
  have hpn:∀ (u:Value),(∀ z,pv i = some z → u = z) → ∀ j z,pv j = some z → (if i = j then true else d j) = true → (if i = j ∧ i ≠ ops.size then u else K.vof ops a j) = z:=by
   intro u hu j z hz hj
   by_cases e1:i = j
   ·subst e1; rw [ui]; exact hu z hz
   ·rw [ud j e1] at hj; rw [uv u j e1]; exact hJ.pure j z hz hj
  by_cases e1:i = b
  ·subst e1
   have hw:=hJ.f0 hd
   subst hw
   have c0:d c = false:=by cases q:d c with | false => rfl | true => rw [hJ.oc q] at hd; cases hd
   have e0:d e = false:=by cases q:d e with | false => rfl | true => rw [hJ.oe q] at c0; cases c0
   have x0:d x = false:=by cases q:d x with | false => rfl | true => rw [hJ.ox q] at e0; cases e0
   exact zp2 (hca o ho a hf hpv) fun u w' hu => CJ.mkC (hpn u hu.2) hcl (if_pos rfl) ((ud _ hi.bc).trans c0) ((ud _ hi.be).trans e0) ((ud _ hi.bx).trans x0) ((uv u _ hi.bx).trans (hJ.gx x0)) hu.1
  by_cases e2:i = c
  ·subst e2
   have b1:d b = true:=hdc o ho d hJ.closed hall
   have e0:d e = false:=by cases q:d e with | false => rfl | true => rw [hJ.oe q] at hd; cases hd
   have x0:d x = false:=by cases q:d x with | false => rfl | true => rw [hJ.ox q] at e0; cases e0
   exact zp2 (hbu o ho a w hf hpv (hJ.fb b1 hd)) fun u w' hu => CJ.mkG u (hpn u (fun z hz => by rw [hi.nc] at hz; cases hz)) hcl ((ud _ hi.bc.symm).trans b1) (if_pos rfl) ((ud _ hi.ce).trans e0) ((ud _ hi.cx).trans x0) ((uv u _ hi.cx).trans (hJ.gx x0)) (ui u) hu
  by_cases e3:i = e
  ·subst e3
   obtain ⟨y,hy,hbd,hon⟩:=hde o ho
   have c1:d c = true:=hon ▸ hall y hy hbd
   have b1:=hJ.oc c1
   have x0:d x = false:=by cases q:d x with | false => rfl | true => rw [hJ.ox q] at hd; cases hd
   exact zp2 (hap o ho a w hf hpv (hJ.fc c1 hd)) fun u w' hu => CJ.mkE u (hpn u (fun z hz => by rw [hi.ne] at hz; cases hz)) hcl ((ud _ hi.be.symm).trans b1) ((ud _ hi.ce.symm).trans c1) (if_pos rfl) ((ud _ hi.ex).trans x0) ((uv u _ hi.ex).trans (hJ.gx x0)) (ui u) hu
  by_cases e4:i = x
  ·subst e4
   obtain ⟨y,hy,hbd,hon⟩:=hdx o ho
   have e1':d e = true:=hon ▸ hall y hy hbd
   have c1:=hJ.oe e1'
   have b1:=hJ.oc c1
   refine zp2 (hst o ho a w hf) fun u w' hu => ?_
   obtain ⟨rfl,hu⟩:=hu
   exact CJ.mkX u (hpn u (fun z hz => by rw [hi.nx] at hz; cases hz)) hcl ((ud _ hi.bx.symm).trans b1) ((ud _ hi.cx.symm).trans c1) ((ud _ hi.ex.symm).trans e1') (if_pos rfl) ((uv u _ hi.ex.symm).trans hu.symm) (ui u) (by rw [hu]; exact hJ.fe e1')
  refine zp2 (hpu i o ho e1 e2 e3 e4 d a w hf hJ.closed hd hJ.gx hpv ?_) fun u w' hu => ?_
  ·cases b1:d b with
   | false => exact .inl (hJ.f0 b1)
   | true =>
     cases c1:d c with
     | false => exact .inr (.inl (hJ.fb b1 c1))
     | true =>
       cases e1':d e with
       | false => exact .inr (.inr (.inl ⟨_,hJ.fc c1 e1'⟩))
       | true => exact .inr (.inr (.inr ⟨rfl,_,hJ.fe e1'⟩))
  ·obtain ⟨rfl,hu⟩:=hu
   exact hJ.same (hpn u hu) hcl (ud _ e1) (ud _ e2) (ud _ e3) (ud _ e4) (uv u _ e2) (uv u _ e3) (uv u _ e4)
 ·intro d a w hf hall hJ
  exact hend a w hf (hJ.fe (hall e hi.e_)) fun hx => hJ.fx (hall x hx)
end Go.Proofs.YtfgelheiknmjgaaGreatDoor
namespace Go.Proofs.YtfgelheiknmjgaaGreatDoor
open Go.RowKit
section
variable {ops:Array Oper} {Q:Exit → Act → World → Prop} {o:Oper} {a:Act} {w:World} {R:Value → World → Prop}
theorem zO3 (hw:Region.wanted o (yielded ops a.tmps) = true) (x:Operand) {v:Value} (ho:o.op = .move x) (hx:a.eval x = v) (h:R v w):K.Runs Tryz.prog ops Q o a w R :=
 K.zh2 hw (by generalize a.eval = ρ at hx; simp [execOp,ho,go_sem,hx]) h
theorem zO5 (hw:Region.wanted o (yielded ops a.tmps) = true) (x:Operand) {g:Nat} (ho:o.op = .fieldAddr 55 x 0) (hx:a.eval x = .pointer (some ⟨g,0,none⟩)) (h:R (.pointer (some ⟨g,0,none⟩)) w):K.Runs Tryz.prog ops Q o a w R :=
 K.zh2 hw (by generalize a.eval = ρ at hx; simp [execOp,ho,go_sem,hx]) h
theorem zO4 (hw:Region.wanted o (yielded ops a.tmps) = true) (x:Operand) {g:Nat} (ho:o.op = .fieldAddr 55 x 1) (hx:a.eval x = .pointer (some ⟨g,0,none⟩)) (h:R (.pointer (some ⟨g,1,none⟩)) w):K.Runs Tryz.prog ops Q o a w R :=
 K.zh2 hw (by generalize a.eval = ρ at hx; simp [execOp,ho,go_sem,hx]) h
theorem op_ldS (hw:Region.wanted o (yielded ops a.tmps) = true) (x:Operand) {p:Addr} {s:ByteArray} (ho:o.op = .load 9 x) (hx:a.eval x = .pointer (some p)) (hc:w.cell? p = some (.string s)) (h:R (.string s) w):K.Runs Tryz.prog ops Q o a w R :=
 K.zh2 hw (by generalize a.eval = ρ at hx; simp [execOp,ho,go_sem,hx,hc]) h
theorem op_ldR (hw:Region.wanted o (yielded ops a.tmps) = true) (x:Operand) {g i:Nat} {s:ByteArray} {A:Option Addr} {l c:Nat} (ho:o.op = .load 44 x) (hx:a.eval x = .pointer (some ⟨g,i,none⟩)) (h0:w.cell? ⟨g,i,none⟩ = some (.string s)) (h1:w.cell? ⟨g,i + 1,none⟩ = some (.slice A l c)) (h:R (.agg #[.string s,.slice A l c]) w):K.Runs Tryz.prog ops Q o a w R :=
 K.zh2 hw (by generalize a.eval = ρ at hx; simp [execOp,ho,go_sem,hx,h0,h1]) h
theorem op_mk3 (hw:Region.wanted o (yielded ops a.tmps) = true) (x y z:Operand) {s t u:ByteArray} (ho:o.op = .buildSlice 33 3 #[(0,x),(1,y),(2,z)]) (hx:a.eval x = .string s) (hy:a.eval y = .string t) (hz:a.eval z = .string u)
  (h:R (.slice (some ⟨w.heap.size,0,none⟩) 3 3) (w.alloc (.cells #[.string s,.string t,.string u] 9 (0,0)))):K.Runs Tryz.prog ops Q o a w R :=
 K.zh2 hw (by generalize a.eval = ρ at hx hy hz; simp [execOp,ho,go_sem,hx,hy,hz]) h
end
end Go.Proofs.YtfgelheiknmjgaaGreatDoor
namespace Go.Proofs.YtfgelheiknmjgaaGreatDoor
open Go.RowKit
section
variable {ops:Array Oper} {Q:Exit → Act → World → Prop} {o:Oper} {a:Act} {w:World} {R:Value → World → Prop}
end
abbrev OwnR.val {w:World} {base:Nat} {v:Value} {ss:List ByteArray} (_:OwnR w base v ss):Value:=v
theorem bL_inj {s t:ByteArray} (h:bL s = bL t):s = t:=by
 obtain ⟨⟨a⟩⟩:=s
 obtain ⟨⟨b⟩⟩:=t
 have:a = b:=h
 rw [this]
end Go.Proofs.YtfgelheiknmjgaaGreatDoor
namespace Go.Proofs.YtfgelheiknmjgaaGreatDoor
open Go.RowKit
end Go.Proofs.YtfgelheiknmjgaaGreatDoor
namespace Go.Proofs.YtfgelheiknmjgaaGreatDoor
open Go.RowKit
theorem Rd.same {w:World} {B:Nat} {k' n' k n:Int} {s' s:ByteArray} {A:Option Addr} {li ci:Nat} {K:Option Addr} {lk ck:Nat} {items:List VT} {keys:List ByteArray}
  (h:Rd w B (.agg #[.int .i64 k',.int .i64 n',.string s',.slice A li ci,.slice K lk ck]) (.mk k n s items keys)):k' = k ∧ n' = n ∧ s' = s ∧ small n ∧ s.size ≤ 140737488351232:=by
 cases h with
 | mk V hk hn hs => exact ⟨rfl,rfl,rfl,hn,hs⟩
theorem fb1_t (w:World):Calls Tryz.prog 172 #[.bool true] w fun e w' => e = .returned (.string ⟨#[116,114,117,101]⟩) ∧ w = w':=by
 go_enter Tryz.func172, Tryz.ntmps172
 go_wp2_with fail
 go_ret
 exact ⟨rfl,rfl⟩
theorem fb_t (w:World):Calls Tryz.prog 124 #[.bool true] w fun e w' => e = .returned (.string ⟨#[116,114,117,101]⟩) ∧ w = w':=by
 go_enter Tryz.func124, Tryz.ntmps124
 go_wp2_with fail
 refine (fb1_t w).mono ?_
 rintro e w1 ⟨rfl,rfl⟩
 go_wp2_with fail
 go_ret
 exact ⟨rfl,rfl⟩
theorem fb1_f (w:World):Calls Tryz.prog 172 #[.bool false] w fun e w' => e = .returned (.string ⟨#[102,97,108,115,101]⟩) ∧ w = w':=by
 go_enter Tryz.func172, Tryz.ntmps172
 go_wp2_with fail
 go_ret
 exact ⟨rfl,rfl⟩
theorem fb_f (w:World):Calls Tryz.prog 124 #[.bool false] w fun e w' => e = .returned (.string ⟨#[102,97,108,115,101]⟩) ∧ w = w':=by
 go_enter Tryz.func124, Tryz.ntmps124
 go_wp2_with fail
 refine (fb1_f w).mono ?_
 rintro e w1 ⟨rfl,rfl⟩
 go_wp2_with fail
 go_ret
 exact ⟨rfl,rfl⟩
set_option maxRecDepth 100000 in
set_option maxHeartbeats 4000000 in
theorem zz0 (B b:Nat):ValOk B b:=by
 intro t
 induction t using VT.ind with
 | h k n s items keys ih =>
 intro hf f w h l hp hL hl hB
 obtain ⟨k',n',s',A,li,ci,K,lk,ck,e0,e1,e2,e3,e4⟩:=Rd.form h
 have hv:Rd w B (.agg #[f 0,f 1,f 2,f 3,f 4]) (.mk k n s items keys):=h
 rw [e0,e1,e2,e3,e4] at hv ⊢
 clear e0 e1 e2 e3 e4 h
 obtain ⟨rfl,rfl,rfl,hn,hsz⟩:=hv.same
 rw [VT.fit] at hf
 obtain ⟨hk,hf1,hf6,_,hs40,hfi⟩:=hf
 have IH:Hid (∀ (i:Nat) (t:VT),items[i]? = some t → ∀ (f:Nat → Value) (W:World),ValR W B f t → ze4 B b W 60 (.agg #[f 0,f 1,f 2,f 3,f 4]) t.src):=Lib.hid fun i t hi f W => ih i t hi (zR0 hfi hi) f W
 clear ih hfi
 have HR0:=Lib.hid (hv.kept (za0 w (.cells #[.int .i64 k',.int .i64 n',.string s',.slice A li ci,.slice K lk ck] 53 (0,0)) |>.mono hB))
 clear hv
 have HW0:Hid (Wr B b w (w.alloc (.cells #[.int .i64 k',.int .i64 n',.string s',.slice A li ci,.slice K lk ck] 53 (0,0)))):=Lib.hid ((Wr.refl B b w).alloc hB _)
 have HP0:=Lib.hid (hp.alloc (.cells #[.int .i64 k',.int .i64 n',.string s',.slice A li ci,.slice K lk ck] 53 (0,0)))
 have HK0:=Lib.hid (Bk.new w #[.int .i64 k',.int .i64 n',.string s',.slice A li ci,.slice K lk ck] 53)
 have HL:=Lib.hid hL
 have HLL:=Lib.hid hl
 have HBB:=Lib.hid hB
 have hbw:=hp.lt
 clear hL hl hB hp
 by_cases hk0:k' = 0
 ·subst hk0
  have hsrc:(VT.mk 0 n' s' items keys).src = [110,117,108,108]:=by rw [zk5]; rfl
  rw [hsrc] at HLL ⊢
  clear hsrc hf1 hf6 hk
  go_enter Tryz.func60, Tryz.ntmps60
  have y0:=HK0.out.cell 0 _ rfl
  have y1:=HK0.out.cell 1 _ rfl
  have y2:=HK0.out.cell 2 _ rfl
  have y3:=HK0.out.cell 3 _ rfl
  have y4:=HK0.out.cell 4 _ rfl
  go_wp2_with fail
  refine (put1 _ B b _ _ _ (by simp) HP0.out (by have h1:=HLL.out; (try simp only [za6] at h1 ⊢); (try simp only [List.length_append] at h1 ⊢); (try simp only [List.length_cons] at h1 ⊢); (try simp only [List.length_append] at h1 ⊢); (try simp only [List.length_nil] at h1 ⊢); (try simp only [za4] at h1 ⊢); (try simp only [za2] at h1 ⊢); (try simp only [List.length_cons] at h1 ⊢); (try simp only [List.length_nil] at h1 ⊢); omega) (Nat.le_trans HBB.out HW0.out.below.size)).mono ?_
  rintro e w1 ⟨rfl,hp,hw⟩
  have HP1:=Lib.hid hp
  have HW1:=Lib.hid (HW0.out.trans hw)
  have HK1:=Lib.hid (HK0.out.wr hw (by omega) (by decide))
  have HR1:=Lib.hid (Rd.kept HR0.out hw.below)
  clear hp hw
  clear y0 y1 y2 y3 y4
  have y0:=HK1.out.cell 0 _ rfl
  have y1:=HK1.out.cell 1 _ rfl
  have y2:=HK1.out.cell 2 _ rfl
  have y3:=HK1.out.cell 3 _ rfl
  have y4:=HK1.out.cell 4 _ rfl
  go_wp2_with fail
  go_end0
  exact ⟨rfl,by have h1:=HP1.out; (try simp only [List.append_assoc] at h1); (try simp only [List.append_nil] at h1); (try simp only [List.append_assoc]); (try simp only [List.append_nil]); exact h1,HW1.out⟩
 by_cases hk1:k' = 1
 ·subst hk1
  by_cases hn0:n' = 0
  ·subst hn0
   have hsrc:(VT.mk 1 0 s' items keys).src = [102,97,108,115,101]:=by rw [zk5]; rfl
   rw [hsrc] at HLL ⊢
   clear hsrc hf1 hf6 hk
   go_enter Tryz.func60, Tryz.ntmps60
   have y0:=HK0.out.cell 0 _ rfl
   have y1:=HK0.out.cell 1 _ rfl
   have y2:=HK0.out.cell 2 _ rfl
   have y3:=HK0.out.cell 3 _ rfl
   have y4:=HK0.out.cell 4 _ rfl
   go_wp2_with fail
   refine (fb_f _).mono ?_
   rintro e w' ⟨rfl,rfl⟩
   go_wp2_with fail
   refine (put1 _ B b _ _ _ (by simp) HP0.out (by have h1:=HLL.out; (try simp only [za6] at h1 ⊢); (try simp only [List.length_append] at h1 ⊢); (try simp only [List.length_cons] at h1 ⊢); (try simp only [List.length_append] at h1 ⊢); (try simp only [List.length_nil] at h1 ⊢); (try simp only [za4] at h1 ⊢); (try simp only [za2] at h1 ⊢); (try simp only [List.length_cons] at h1 ⊢); (try simp only [List.length_nil] at h1 ⊢); omega) (Nat.le_trans HBB.out HW0.out.below.size)).mono ?_
   rintro e w1 ⟨rfl,hp,hw⟩
   have HP1:=Lib.hid hp
   have HW1:=Lib.hid (HW0.out.trans hw)
   have HK1:=Lib.hid (HK0.out.wr hw (by omega) (by decide))
   have HR1:=Lib.hid (Rd.kept HR0.out hw.below)
   clear hp hw
   clear y0 y1 y2 y3 y4
   have y0:=HK1.out.cell 0 _ rfl
   have y1:=HK1.out.cell 1 _ rfl
   have y2:=HK1.out.cell 2 _ rfl
   have y3:=HK1.out.cell 3 _ rfl
   have y4:=HK1.out.cell 4 _ rfl
   go_wp2_with fail
   go_end0
   exact ⟨rfl,by have h1:=HP1.out; (try simp only [List.append_assoc] at h1); (try simp only [List.append_nil] at h1); (try simp only [List.append_assoc]); (try simp only [List.append_nil]); exact h1,HW1.out⟩
  ·have hn0':(n' != 0) = true:=by simp [hn0]
   have hsrc:(VT.mk 1 n' s' items keys).src = [116,114,117,101]:=by rw [zk5]; simp [hn0,trueB]
   rw [hsrc] at HLL ⊢
   clear hsrc hf1 hf6 hk hn0
   go_enter Tryz.func60, Tryz.ntmps60
   have y0:=HK0.out.cell 0 _ rfl
   have y1:=HK0.out.cell 1 _ rfl
   have y2:=HK0.out.cell 2 _ rfl
   have y3:=HK0.out.cell 3 _ rfl
   have y4:=HK0.out.cell 4 _ rfl
   go_wp2_with fail
   refine (fb_t _).mono ?_
   rintro e w' ⟨rfl,rfl⟩
   go_wp2_with fail
   refine (put1 _ B b _ _ _ (by simp) HP0.out (by have h1:=HLL.out; (try simp only [za6] at h1 ⊢); (try simp only [List.length_append] at h1 ⊢); (try simp only [List.length_cons] at h1 ⊢); (try simp only [List.length_append] at h1 ⊢); (try simp only [List.length_nil] at h1 ⊢); (try simp only [za4] at h1 ⊢); (try simp only [za2] at h1 ⊢); (try simp only [List.length_cons] at h1 ⊢); (try simp only [List.length_nil] at h1 ⊢); omega) (Nat.le_trans HBB.out HW0.out.below.size)).mono ?_
   rintro e w1 ⟨rfl,hp,hw⟩
   have HP1:=Lib.hid hp
   have HW1:=Lib.hid (HW0.out.trans hw)
   have HK1:=Lib.hid (HK0.out.wr hw (by omega) (by decide))
   have HR1:=Lib.hid (Rd.kept HR0.out hw.below)
   clear hp hw
   clear y0 y1 y2 y3 y4
   have y0:=HK1.out.cell 0 _ rfl
   have y1:=HK1.out.cell 1 _ rfl
   have y2:=HK1.out.cell 2 _ rfl
   have y3:=HK1.out.cell 3 _ rfl
   have y4:=HK1.out.cell 4 _ rfl
   go_wp2_with fail
   go_end0
   exact ⟨rfl,by have h1:=HP1.out; (try simp only [List.append_assoc] at h1); (try simp only [List.append_nil] at h1); (try simp only [List.append_assoc]); (try simp only [List.append_nil]); exact h1,HW1.out⟩
 by_cases hk2:k' = 2
 ·subst hk2
  have hsrc:(VT.mk 2 n' s' items keys).src = Lib.itoa n':=by rw [zk5]; rfl
  rw [hsrc] at HLL ⊢
  clear hsrc hf1 hf6 hk
  go_enter Tryz.func60, Tryz.ntmps60
  have y0:=HK0.out.cell 0 _ rfl
  have y1:=HK0.out.cell 1 _ rfl
  have y2:=HK0.out.cell 2 _ rfl
  have y3:=HK0.out.cell 3 _ rfl
  have y4:=HK0.out.cell 4 _ rfl
  go_wp2_with fail
  refine (T1.decimalP_any n' _ (HL.out.kept HW0.out.below).is hn.1 hn.2).mono ?_
  rintro e w1 ⟨rfl,hb1⟩
  have HP1:=Lib.hid (HP0.out.kept hb1)
  have HW1:Hid (Wr B b w w1):=Lib.hid (HW0.out.trans (Wr.of (Nat.le_trans HBB.out HW0.out.below.size) hb1))
  have HK1:=Lib.hid (HK0.out.stay hb1)
  clear hb1
  clear y0 y1 y2 y3 y4
  have y0:=HK1.out.cell 0 _ rfl
  have y1:=HK1.out.cell 1 _ rfl
  have y2:=HK1.out.cell 2 _ rfl
  have y3:=HK1.out.cell 3 _ rfl
  have y4:=HK1.out.cell 4 _ rfl
  go_wp2_with fail
  refine (put1 _ B b _ _ _ (by simp) HP1.out (by have h1:=HLL.out; (try simp only [za6] at h1 ⊢); (try simp only [List.length_append] at h1 ⊢); (try simp only [List.length_cons] at h1 ⊢); (try simp only [List.length_append] at h1 ⊢); (try simp only [List.length_nil] at h1 ⊢); (try simp only [za4] at h1 ⊢); (try simp only [za2] at h1 ⊢); (try simp only [List.length_cons] at h1 ⊢); (try simp only [List.length_nil] at h1 ⊢); omega) (Nat.le_trans HBB.out HW1.out.below.size)).mono ?_
  rintro e w2 ⟨rfl,hp,hw⟩
  have HP2:=Lib.hid hp
  have HW2:=Lib.hid (HW1.out.trans hw)
  have HK2:=Lib.hid (HK1.out.wr hw (by omega) (by decide))
  clear hp hw
  clear y0 y1 y2 y3 y4
  have y0:=HK2.out.cell 0 _ rfl
  have y1:=HK2.out.cell 1 _ rfl
  have y2:=HK2.out.cell 2 _ rfl
  have y3:=HK2.out.cell 3 _ rfl
  have y4:=HK2.out.cell 4 _ rfl
  go_wp2_with fail
  go_end0
  exact ⟨rfl,by have h1:=HP2.out; (try simp only [List.append_assoc] at h1); (try simp only [List.append_nil] at h1); (try simp only [List.append_assoc]); (try simp only [List.append_nil]); exact h1,HW2.out⟩
 by_cases hk3:k' = 3
 ·subst hk3
  have hsrc:(VT.mk 3 n' s' items keys).src = T1.zf9 s'.data.toList:=by rw [zk5]; rfl
  rw [hsrc] at HLL ⊢
  clear hsrc hf1 hf6 hk
  go_enter Tryz.func60, Tryz.ntmps60
  have y0:=HK0.out.cell 0 _ rfl
  have y1:=HK0.out.cell 1 _ rfl
  have y2:=HK0.out.cell 2 _ rfl
  have y3:=HK0.out.cell 3 _ rfl
  have y4:=HK0.out.cell 4 _ rfl
  go_wp2_with fail
  refine (T1.zN9 s' _ hs40).mono ?_
  rintro e w1 ⟨rfl,hb1⟩
  have HP1:=Lib.hid (HP0.out.kept hb1)
  have HW1:Hid (Wr B b w w1):=Lib.hid (HW0.out.trans (Wr.of (Nat.le_trans HBB.out HW0.out.below.size) hb1))
  have HK1:=Lib.hid (HK0.out.stay hb1)
  clear hb1
  clear y0 y1 y2 y3 y4
  have y0:=HK1.out.cell 0 _ rfl
  have y1:=HK1.out.cell 1 _ rfl
  have y2:=HK1.out.cell 2 _ rfl
  have y3:=HK1.out.cell 3 _ rfl
  have y4:=HK1.out.cell 4 _ rfl
  go_wp2_with fail
  refine (put1 _ B b _ _ _ (by simp) HP1.out (by have h1:=HLL.out; (try simp only [za6] at h1 ⊢); (try simp only [List.length_append] at h1 ⊢); (try simp only [List.length_cons] at h1 ⊢); (try simp only [List.length_append] at h1 ⊢); (try simp only [List.length_nil] at h1 ⊢); (try simp only [za4] at h1 ⊢); (try simp only [za2] at h1 ⊢); (try simp only [List.length_cons] at h1 ⊢); (try simp only [List.length_nil] at h1 ⊢); omega) (Nat.le_trans HBB.out HW1.out.below.size)).mono ?_
  rintro e w2 ⟨rfl,hp,hw⟩
  have HP2:=Lib.hid hp
  have HW2:=Lib.hid (HW1.out.trans hw)
  have HK2:=Lib.hid (HK1.out.wr hw (by omega) (by decide))
  clear hp hw
  clear y0 y1 y2 y3 y4
  have y0:=HK2.out.cell 0 _ rfl
  have y1:=HK2.out.cell 1 _ rfl
  have y2:=HK2.out.cell 2 _ rfl
  have y3:=HK2.out.cell 3 _ rfl
  have y4:=HK2.out.cell 4 _ rfl
  go_wp2_with fail
  go_end0
  exact ⟨rfl,by have h1:=HP2.out; (try simp only [List.append_assoc] at h1); (try simp only [List.append_nil] at h1); (try simp only [List.append_assoc]); (try simp only [List.append_nil]); exact h1,HW2.out⟩
 by_cases hk4:k' = 4
 ·subst hk4
  have hsrc:(VT.mk 4 n' s' items keys).src = bL s':=by rw [zk5]; rfl
  rw [hsrc] at HLL ⊢
  clear hsrc hf1 hf6 hk
  go_enter Tryz.func60, Tryz.ntmps60
  have y0:=HK0.out.cell 0 _ rfl
  have y1:=HK0.out.cell 1 _ rfl
  have y2:=HK0.out.cell 2 _ rfl
  have y3:=HK0.out.cell 3 _ rfl
  have y4:=HK0.out.cell 4 _ rfl
  go_wp2_with fail
  refine (put1 _ B b _ _ _ (by simp) HP0.out (by have h1:=HLL.out; (try simp only [za6] at h1 ⊢); (try simp only [List.length_append] at h1 ⊢); (try simp only [List.length_cons] at h1 ⊢); (try simp only [List.length_append] at h1 ⊢); (try simp only [List.length_nil] at h1 ⊢); (try simp only [za4] at h1 ⊢); (try simp only [za2] at h1 ⊢); (try simp only [List.length_cons] at h1 ⊢); (try simp only [List.length_nil] at h1 ⊢); omega) (Nat.le_trans HBB.out HW0.out.below.size)).mono ?_
  rintro e w1 ⟨rfl,hp,hw⟩
  have HP1:=Lib.hid hp
  have HW1:=Lib.hid (HW0.out.trans hw)
  have HK1:=Lib.hid (HK0.out.wr hw (by omega) (by decide))
  have HR1:=Lib.hid (Rd.kept HR0.out hw.below)
  clear hp hw
  clear y0 y1 y2 y3 y4
  have y0:=HK1.out.cell 0 _ rfl
  have y1:=HK1.out.cell 1 _ rfl
  have y2:=HK1.out.cell 2 _ rfl
  have y3:=HK1.out.cell 3 _ rfl
  have y4:=HK1.out.cell 4 _ rfl
  go_wp2_with fail
  go_end0
  exact ⟨rfl,by have h1:=HP1.out; (try simp only [List.append_assoc] at h1); (try simp only [List.append_nil] at h1); (try simp only [List.append_assoc]); (try simp only [List.append_nil]); exact h1,HW1.out⟩
 by_cases hk7:k' = 7
 ·subst hk7
  have hsrc:(VT.mk 7 n' s' items keys).src = 36 :: bL s':=by rw [zk5]; rfl
  rw [hsrc] at HLL ⊢
  clear hsrc hf1 hf6 hk
  go_enter Tryz.func60, Tryz.ntmps60
  have y0:=HK0.out.cell 0 _ rfl
  have y1:=HK0.out.cell 1 _ rfl
  have y2:=HK0.out.cell 2 _ rfl
  have y3:=HK0.out.cell 3 _ rfl
  have y4:=HK0.out.cell 4 _ rfl
  go_wp2_with fail
  refine (put2 _ _ B b _ _ _ (by simp) HP0.out (by have h1:=HLL.out; (try simp only [za6] at h1 ⊢); (try simp only [List.length_append] at h1 ⊢); (try simp only [List.length_cons] at h1 ⊢); (try simp only [List.length_append] at h1 ⊢); (try simp only [List.length_nil] at h1 ⊢); (try simp only [za4] at h1 ⊢); (try simp only [za2] at h1 ⊢); (try simp only [List.length_cons] at h1 ⊢); (try simp only [List.length_nil] at h1 ⊢); omega) (Nat.le_trans HBB.out HW0.out.below.size)).mono ?_
  rintro e w1 ⟨rfl,hp,hw⟩
  have HP1:=Lib.hid hp
  have HW1:=Lib.hid (HW0.out.trans hw)
  have HK1:=Lib.hid (HK0.out.wr hw (by omega) (by decide))
  have HR1:=Lib.hid (Rd.kept HR0.out hw.below)
  clear hp hw
  clear y0 y1 y2 y3 y4
  have y0:=HK1.out.cell 0 _ rfl
  have y1:=HK1.out.cell 1 _ rfl
  have y2:=HK1.out.cell 2 _ rfl
  have y3:=HK1.out.cell 3 _ rfl
  have y4:=HK1.out.cell 4 _ rfl
  go_wp2_with fail
  go_end0
  exact ⟨rfl,by have h1:=HP1.out; (try simp only [List.append_assoc] at h1); (try simp only [List.append_nil] at h1); (try simp only [List.append_assoc]); (try simp only [List.append_nil]); exact h1,HW1.out⟩
 by_cases hk5:k' = 5
 ·subst hk5
  have hsrc:(VT.mk 5 n' s' items keys).src = 91 :: (jn [44,32] (items.map VT.src) ++ [93]):=by rw [zk5]; rfl
  rw [hsrc] at HLL ⊢
  clear hsrc hf1 hf6 hk
  go_enter Tryz.func60, Tryz.ntmps60
  have y0:=HK0.out.cell 0 _ rfl
  have y1:=HK0.out.cell 1 _ rfl
  have y2:=HK0.out.cell 2 _ rfl
  have y3:=HK0.out.cell 3 _ rfl
  have y4:=HK0.out.cell 4 _ rfl
  go_wp2_with fail
  refine (put1 _ B b _ _ _ (by simp) HP0.out (by have h1:=HLL.out; (try simp only [za6] at h1 ⊢); (try simp only [List.length_append] at h1 ⊢); (try simp only [List.length_cons] at h1 ⊢); (try simp only [List.length_append] at h1 ⊢); (try simp only [List.length_nil] at h1 ⊢); (try simp only [za4] at h1 ⊢); (try simp only [za2] at h1 ⊢); (try simp only [List.length_cons] at h1 ⊢); (try simp only [List.length_nil] at h1 ⊢); omega) (Nat.le_trans HBB.out HW0.out.below.size)).mono ?_
  rintro e w1 ⟨rfl,hp,hw⟩
  have HP1:=Lib.hid hp
  have HW1:=Lib.hid (HW0.out.trans hw)
  have HK1:=Lib.hid (HK0.out.wr hw (by omega) (by decide))
  have HR1:=Lib.hid (Rd.kept HR0.out hw.below)
  clear hp hw
  clear y0 y1 y2 y3 y4
  have y0:=HK1.out.cell 0 _ rfl
  have y1:=HK1.out.cell 1 _ rfl
  have y2:=HK1.out.cell 2 _ rfl
  have y3:=HK1.out.cell 3 _ rfl
  have y4:=HK1.out.cell 4 _ rfl
  go_wp2_with fail
  refine (zJ0 B b items VT.src (fun y hy f W hR => by obtain ⟨i,hi⟩:=List.mem_iff_getElem?.1 hy; exact IH.out i y hi f W hR) _ _ _ _ HR1.out.vals HP1.out (HL.out.kept HW1.out.below) (by have h1:=HLL.out; (try simp only [za6] at h1 ⊢); (try simp only [List.length_append] at h1 ⊢); (try simp only [List.length_cons] at h1 ⊢); (try simp only [List.length_append] at h1 ⊢); (try simp only [List.length_nil] at h1 ⊢); (try simp only [za4] at h1 ⊢); (try simp only [za2] at h1 ⊢); (try simp only [List.length_cons] at h1 ⊢); (try simp only [List.length_nil] at h1 ⊢); omega) (Nat.le_trans HBB.out HW1.out.below.size)).mono ?_
  rintro e w2 ⟨rfl,hp,hw⟩
  have HP2:=Lib.hid hp
  have HW2:=Lib.hid (HW1.out.trans hw)
  have HK2:=Lib.hid (HK1.out.wr hw (by omega) (by decide))
  have HR2:=Lib.hid (Rd.kept HR1.out hw.below)
  clear hp hw
  clear y0 y1 y2 y3 y4
  have y0:=HK2.out.cell 0 _ rfl
  have y1:=HK2.out.cell 1 _ rfl
  have y2:=HK2.out.cell 2 _ rfl
  have y3:=HK2.out.cell 3 _ rfl
  have y4:=HK2.out.cell 4 _ rfl
  go_wp2_with fail
  refine (put1 _ B b _ _ _ (by simp) HP2.out (by have h1:=HLL.out; (try simp only [za6] at h1 ⊢); (try simp only [List.length_append] at h1 ⊢); (try simp only [List.length_cons] at h1 ⊢); (try simp only [List.length_append] at h1 ⊢); (try simp only [List.length_nil] at h1 ⊢); (try simp only [za4] at h1 ⊢); (try simp only [za2] at h1 ⊢); (try simp only [List.length_cons] at h1 ⊢); (try simp only [List.length_nil] at h1 ⊢); omega) (Nat.le_trans HBB.out HW2.out.below.size)).mono ?_
  rintro e w3 ⟨rfl,hp,hw⟩
  have HP3:=Lib.hid hp
  have HW3:=Lib.hid (HW2.out.trans hw)
  have HK3:=Lib.hid (HK2.out.wr hw (by omega) (by decide))
  have HR3:=Lib.hid (Rd.kept HR2.out hw.below)
  clear hp hw
  clear y0 y1 y2 y3 y4
  have y0:=HK3.out.cell 0 _ rfl
  have y1:=HK3.out.cell 1 _ rfl
  have y2:=HK3.out.cell 2 _ rfl
  have y3:=HK3.out.cell 3 _ rfl
  have y4:=HK3.out.cell 4 _ rfl
  go_wp2_with fail
  go_end0
  exact ⟨rfl,by have h1:=HP3.out; (try simp only [List.append_assoc] at h1); (try simp only [List.append_nil] at h1); (try simp only [List.append_assoc]); (try simp only [List.append_nil]); exact h1,HW3.out⟩
 by_cases hk6:k' = 6
 ·subst hk6
  have HKL:=Lib.hid (hf6 rfl)
  have hsrc:(VT.mk 6 n' s' items keys).src = 123 :: (jn [44,32] (zf0 keys items) ++ [125]):=by rw [zk5]; rfl
  rw [hsrc] at HLL ⊢
  clear hsrc hf1 hf6 hk
  go_enter Tryz.func60, Tryz.ntmps60
  have y0:=HK0.out.cell 0 _ rfl
  have y1:=HK0.out.cell 1 _ rfl
  have y2:=HK0.out.cell 2 _ rfl
  have y3:=HK0.out.cell 3 _ rfl
  have y4:=HK0.out.cell 4 _ rfl
  go_wp2_with fail
  refine (zE7 B b _ _ _ _ _ HKL.out IH.out _ _ _ _ _ _ _ HR0.out _ HP0.out (HL.out.kept HW0.out.below) (by have h1:=HLL.out; (try simp only [za6] at h1 ⊢); (try simp only [List.length_append] at h1 ⊢); (try simp only [List.length_cons] at h1 ⊢); (try simp only [List.length_append] at h1 ⊢); (try simp only [List.length_nil] at h1 ⊢); (try simp only [za4] at h1 ⊢); (try simp only [za2] at h1 ⊢); (try simp only [List.length_cons] at h1 ⊢); (try simp only [List.length_nil] at h1 ⊢); omega) (Nat.le_trans HBB.out HW0.out.below.size)).mono ?_
  rintro e w1 ⟨rfl,hp,hw⟩
  have HP1:=Lib.hid hp
  have HW1:=Lib.hid (HW0.out.trans hw)
  have HK1:=Lib.hid (HK0.out.wr hw (by omega) (by decide))
  have HR1:=Lib.hid (Rd.kept HR0.out hw.below)
  clear hp hw
  clear y0 y1 y2 y3 y4
  have y0:=HK1.out.cell 0 _ rfl
  have y1:=HK1.out.cell 1 _ rfl
  have y2:=HK1.out.cell 2 _ rfl
  have y3:=HK1.out.cell 3 _ rfl
  have y4:=HK1.out.cell 4 _ rfl
  go_wp2_with fail
  go_end0
  exact ⟨rfl,by have h1:=HP1.out; (try simp only [List.append_assoc] at h1); (try simp only [List.append_nil] at h1); (try simp only [List.append_assoc]); (try simp only [List.append_nil]); exact h1,HW1.out⟩
 exfalso; omega
end Go.Proofs.YtfgelheiknmjgaaGreatDoor
namespace Go.Proofs.YtfgelheiknmjgaaGreatDoor.K
open Go.RowKit Go.Shelf
attribute [local go_sem] Oper.semAt_some
def bwL (xs:Ws) (k:Nat):List (Int × Int):=(List.range k).map fun j => (((xs.length - 1 - j:Nat):Int),xs.getD (xs.length - 1 - j) 0)
theorem bw_succ (xs:Ws) (k:Nat):bwL xs (k + 1) = bwL xs k ++ [(((xs.length - 1 - k:Nat):Int),xs.getD (xs.length - 1 - k) 0)]:=by simp [bwL,List.range_succ]
theorem bw_len (xs:Ws) (k:Nat):(bwL xs k).length = k:=by simp [bwL]
theorem bw_all (xs:Ws):(bwL xs xs.length).map (fun p => p.2) = xs.reverse:=by
 apply List.ext_getElem
 ·simp [bwL]
 ·intro i h1 h2
  have hi:i < xs.length:=by simpa [bwL] using h1
  have h3:xs.length - 1 - i < xs.length:=by omega
  simp [bwL,h3]
def KpB (n0 b:Nat) (W W':World):Prop:=Below n0 W W' ∧ W'.heap[b]? = W.heap[b]?
theorem KpB.trans {n0 b:Nat} {A B C:World} (h:KpB n0 b A B) (k:KpB n0 b B C):KpB n0 b A C:=⟨h.1.trans k.1,k.2.trans h.2⟩
theorem KpB.refl (n0 b:Nat) (W:World):KpB n0 b W W:=⟨Below.refl _ _,rfl⟩
set_option maxRecDepth 100000 in
set_option maxHeartbeats 2000000 in
theorem bwd1_in (F:Fence) (n:Nat) (h7:F.fn 214) (hro:F.round = none) (hn:1 ≤ n) (l Bs n0:Nat) (A:Option Addr) (c:Nat) (xs:Ws) (hl:xs.length ≤ 1000000) (J Jx:List (Int × Int) → World → Prop)
  (hY:∀ pre x W,J pre W → pre.length < xs.length → YieldAt F (n - 1) Tryz.prog l #[.int .i64 x.1,.int .i64 x.2] W fun e W' =>
    (e = .returned (.bool true) ∧ J (pre ++ [x]) W' ∧ KpB n0 Bs W W') ∨ (e = .returned (.bool false) ∧ Jx (pre ++ [x]) W'))
  (W:World) (hBs:W.cell? ⟨Bs,0,none⟩ = some (.slice A xs.length c)) (hc:IntsAt W n0 A xs) (h0:J [] W) :
  CallsIn F n Tryz.prog 214 #[.func (.yield l) #[] #[],.pointer (some ⟨Bs,0,none⟩)] W fun e W' => (∃ v,e = .returned v) ∧
   ((∃ ys,ys = bwL xs xs.length ∧ J ys W') ∨ (∃ pre,(∃ k,k ≤ xs.length ∧ pre = bwL xs k) ∧ Jx pre W')):=by
 refine callsIn_of_wp Tryz.func214 rfl h7 ?_ hro
 simp only [Tryz.ntmps214,List.size_toArray,List.length_cons,List.length_nil,Nat.reduceAdd,Nat.reduceSub,Array.replicate_succ,Array.replicate_zero,List.push_toArray,List.append_toArray,List.nil_append,List.cons_append]
 have hlm:((xs.length:Int) ≤ 1000000):=by omega
 gi_wp2
 gi_loopw [3] (fun i wr => ∃ m:Nat,m ≤ xs.length ∧ i = .int .i64 ((m:Int) - 1) ∧ J (bwL xs (xs.length - m)) wr ∧ KpB n0 Bs W wr)
  (fun i _ => (intOf i + 1).toNat)
 case atStart => exact ⟨xs.length,Nat.le_refl _,rfl,by rw [Nat.sub_self]; exact h0,KpB.refl _ _ _⟩
 case round =>
  obtain ⟨m,hm,rfl,hJs,hnx⟩:=hrel
  have hbs:wr.cell? ⟨Bs,0,none⟩ = some (.slice A xs.length c):=(World.cell?_of_block (w:=W) hnx.2).trans hBs
  cases m with
  | zero =>
    gi_wp2
    go_end0
    exact ⟨⟨_,rfl⟩,.inl ⟨_,rfl,hJs⟩⟩
  | succ j =>
    obtain ⟨a,ea,ha,hcell⟩:=hc.kept hnx.1 (by omega)
    subst ea
    have hj:j < xs.length:=by omega
    have hcx:=hcell j _ (List.getElem?_eq_getElem hj)
    have e1:xs.length - 1 - (xs.length - (j + 1)) = j:=by omega
    have e2:xs.length - (j + 1) + 1 = xs.length - j:=by omega
    have e3:xs.getD j 0 = xs[j]:=by simp [hj]
    have hbw:=bw_succ xs (xs.length - (j + 1))
    rw [e1,e2,e3] at hbw
    generalize xs[j] = x at *
    have hjl:(j:Int) < xs.length:=by omega
    obtain ⟨fn,tmps,assign,body,hy,hR⟩:=hY _ ((j:Int),x) wr hJs (by rw [bw_len]; omega)
    dsimp only at hy
    have HBW:=Lib.hid hbw
    have HNX:=Lib.hid hnx
    clear hbw hnx e1 e2 e3 hcell hj
    gi_wp2
    refine hR.mono ?_
    rintro e W3 (⟨rfl,hJ3,hk3⟩ | ⟨rfl,hJx3⟩)
    ·have HJ3:=Lib.hid hJ3
     have HK3:=Lib.hid hk3
     clear hJ3 hk3
     gi_wp2
     go_roundw
     case rel => exact ⟨j,by omega,by go_num,by rw [HBW.out]; exact HJ3.out,HNX.out.trans HK3.out⟩
     case measure => simp [intOf]
    ·have HJ3:=Lib.hid hJx3
     clear hJx3
     gi_wp2
     refine bodyPost_ret (results_none rfl _ _ _) rfl ?_
     exact ⟨⟨_,rfl⟩,.inr ⟨_,⟨_,by omega,HBW.out.symm⟩,HJ3.out⟩⟩
set_option maxHeartbeats 1000000 in
theorem bwd_in (F:Fence) (n:Nat) (h5:F.fn 181) (hro:F.round = none) (a:Option Addr) (len cap:Nat) (w:World) :
  CallsIn F n Tryz.prog 181 #[.slice a len cap] w fun e w' => e = .returned (.func (.func 214) #[] #[.pointer (some ⟨w.heap.size,0,none⟩)]) ∧ w' = w.alloc (.cells #[.slice a len cap] 42):=by
 refine callsIn_of_wp Tryz.func181 rfl h5 ?_ hro
 simp only [Tryz.ntmps181,List.size_toArray,List.length_cons,List.length_nil,Nat.reduceAdd,Nat.reduceSub,Array.replicate_succ,Array.replicate_zero,List.push_toArray,List.append_toArray,List.nil_append,List.cons_append]
 gi_wp2
 go_ret
 exact ⟨rfl,rfl⟩
theorem zT7 (F:Fence) (n:Nat) (h7:F.fn 214) (hro:F.round = none) (hn:1 ≤ n) (Bs n0:Nat) (A:Option Addr) (c:Nat) (xs:Ws) (hl:xs.length ≤ 1000000) (w:World) (hBs:Bs < w.heap.size) (hn0:n0 ≤ w.heap.size)
  (hc:w.cell? ⟨Bs,0,none⟩ = some (.slice A xs.length c)) (hI:IntsAt w n0 A xs) :
  SeqStopsK F n Tryz.prog 214 #[.pointer (some ⟨Bs,0,none⟩)] (fun x:Int × Int => #[Value.int .i64 x.1,Value.int .i64 x.2]) (KpB n0 Bs) (fun ys => ys = bwL xs xs.length)
   (fun pre => ∃ k,k ≤ xs.length ∧ pre = bwL xs k) xs.length w:=fun l J Jx W hW _ _ hY h0 =>
 bwd1_in F n h7 hro hn l Bs n0 A c xs hl J Jx hY W ((hW.cell (p:=⟨Bs,0,none⟩) hBs).trans hc) (hI.kept (hW.mono hn0)) h0
end Go.Proofs.YtfgelheiknmjgaaGreatDoor.K
namespace Go.Proofs.YtfgelheiknmjgaaGreatDoor.K
open Go.RowKit
abbrev ypp (b:Nat):Value:=.pointer (some ⟨b,0,none⟩)
open Go.RowKit
def layW:Go.Shelf.Ren:=⟨fun | 166 => 129 | 240 => 175 | 276 => 208 | n => n,fun | 0 => 0 | 3 => 3 | 4 => 4 | 5 => 5 | 9 => 9 | 20 => 20 | 37 => 73 | 70 => 72 | 72 => 75 | 75 => 163 | 80 => 81 | 164 => 223 | n => n,fun n => n⟩
theorem lay166:Go.Proofs.Lays.n166 Tryz.prog layW:={
 mixed:=by kernel_rfl
 f166:=Tryz.func129.trans (congrArg some (by kernel_rfl))
 f240:=Tryz.func175.trans (congrArg some (by kernel_rfl))
 f276:=Tryz.func208.trans (congrArg some (by kernel_rfl))
 t0:=Tryz.underlying0
 a0:=Tryz.isAgg0
 z0:=Tryz.sizeOf0
 v0:=Tryz.zeroValue0
 t3:=Tryz.underlying3
 a3:=Tryz.isAgg3
 z3:=Tryz.sizeOf3
 v3:=Tryz.zeroValue3
 t4:=Tryz.underlying4
 a4:=Tryz.isAgg4
 z4:=Tryz.sizeOf4
 v4:=Tryz.zeroValue4
 t9:=Tryz.underlying9
 a9:=Tryz.isAgg9
 z9:=Tryz.sizeOf9
 v9:=Tryz.zeroValue9
 t20:=Tryz.underlying20
 a20:=Tryz.isAgg20
 z20:=Tryz.sizeOf20
 v20:=Tryz.zeroValue20
 t37:=Tryz.underlying73
 a37:=Tryz.isAgg73
 z37:=Tryz.sizeOf73
 v37:=Tryz.zeroValue73
 t70:=Tryz.underlying72
 a70:=Tryz.isAgg72
 z70:=Tryz.sizeOf72
 v70:=Tryz.zeroValue72
 t72:=Tryz.underlying75
 a72:=Tryz.isAgg75
 z72:=Tryz.sizeOf75
 v72:=Tryz.zeroValue75
 t75:=Tryz.underlying163
 a75:=Tryz.isAgg163
 z75:=Tryz.sizeOf163
 v75:=Tryz.zeroValue163
 t164:=Tryz.underlying223
 a164:=Tryz.isAgg223
 z164:=Tryz.sizeOf223
 v164:=Tryz.zeroValue223 }
theorem layX:Builder.Extra Tryz.prog layW:={
 sizeBuilder:=by kernel_rfl
 liesBuilder:=by kernel_rfl
 t5:=Tryz.underlying5
 a5:=Tryz.isAgg5
 z5:=Tryz.sizeOf5
 v5:=Tryz.zeroValue5
 infoByte:=by kernel_rfl
 cellsByte:=by kernel_rfl
 sizeByte:=by kernel_rfl
 neB5:=by decide }
abbrev BD (B b:Nat) (l:List UInt8) (w:World):Prop:=Lib.IsBuilderF 75 5 B b (Lib.byteCells l) w
theorem ze9 (B b:Nat) (l:List UInt8) (s:ByteArray) (w:World) (h:BD B b l w) (hl:l.length + s.size ≤ 1099511627776) (hB:B ≤ w.heap.size) :
  Calls Tryz.prog 129 #[ypp b,.string s] w fun e w' => e = .returned (.tuple #[.int .i64 s.size,.nilIface]) ∧ BD B b (l ++ s.data.toList) w' ∧ Below B w w' ∧ Lib.OthersKept 5 (some b) w w':=by
 refine (Any.Builder_WriteString_k lay166 layX B b (Lib.byteCells l) s w h (by simp [Lib.byteCells]; omega) hB).mono ?_
 rintro e w' ⟨rfl,h1,h2⟩
 refine ⟨rfl,.inr ?_,h2⟩
 have e1:Lib.byteCells l ++ Lib.strCells s = Lib.byteCells (l ++ s.data.toList):=by simp [Lib.byteCells,Lib.strCells]
 rw [← e1]
 exact h1
end Go.Proofs.YtfgelheiknmjgaaGreatDoor.K

