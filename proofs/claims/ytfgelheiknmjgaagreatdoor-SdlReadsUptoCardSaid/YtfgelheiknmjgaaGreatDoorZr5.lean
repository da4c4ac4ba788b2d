
/-
 Texts joined: Past Distinct Cmp Compare Make Right Node Chk.
-/
import Derived.Test.YtfgelheiknmjgaaGreatDoorZr4
import Derived.Maps.Own
import Derived.StringKeys
import Derived.Maps.OwnOps
import Derived.Maps.OwnSet
import Derived.Lib.Bytealg
import Derived.Lib.Small
import Derived.Test.YtfgelheiknmjgaaGreatDoorZr2
import Derived.Deep.RegionHeld3
set_option maxRecDepth 1000000
set_option maxHeartbeats 8000000
namespace Go.Proofs.YtfgelheiknmjgaaGreatDoor
open Go.RowKit
structure Past (W:World) where
 w:World
 b:Below W.heap.size W w
instance {W:World}:Nonempty (Past W):=⟨⟨W,Below.refl _ _⟩⟩
theorem Past.le {W:World} (x:Past W):W.heap.size<=x.w.heap.size:=x.b.size
theorem zc5 {P:Program} {W:World} {f:FuncId} {args:Array Value} {v:Value} (x:Past W) (h:Calls P f args x.w fun e w'=>e=.returned v/\Below x.w.heap.size x.w w') :
  Calls P f args x.w fun e w''=>e=.returned v/\∃ y:Past W,w''=y.w :=
 h.mono fun _ _ ⟨he,hb⟩=>⟨he,⟨_,x.b.trans (hb.mono x.le)⟩,rfl⟩
theorem zs8 {W:World} {b:Nat} {o:Obj} (h:W.heap[b]?=some o) (x:Past W):x.w.heap[b]?=some o:=by
 have hb:b<W.heap.size:=by
  rcases Nat.lt_or_ge b W.heap.size with h' | h'
  ·exact h'
  ·rw [Array.getElem?_eq_none h'] at h; cases h
 exact (x.b.block b hb).trans h
def Box (W:World) (b:Nat) (c0 c1 c2 c3 c4:Value):Prop:=W.heap[b]?=some (.cells #[c0,c1,c2,c3,c4] 53 (0,0))
theorem Box.cells {W:World} {b:Nat} {c0 c1 c2 c3 c4:Value} (h:Box W b c0 c1 c2 c3 c4) :
  W.cell? ⟨b,0,none⟩=some c0/\W.cell? ⟨b,1,none⟩=some c1/\W.cell? ⟨b,2,none⟩=some c2/\W.cell? ⟨b,3,none⟩=some c3/\W.cell? ⟨b,4,none⟩=some c4:=by
 refine ⟨?_, ?_, ?_, ?_, ?_⟩ <;> rw [cell_of_row _ _ _ _ _ _ h] <;> rfl
theorem Box.past {W:World} {b:Nat} {c0 c1 c2 c3 c4:Value} (h:Box W b c0 c1 c2 c3 c4) :
  (∀ x:Past W,x.w.cell? ⟨b,0,none⟩=some c0)/\(∀ x:Past W,x.w.cell? ⟨b,1,none⟩=some c1)/\(∀ x:Past W,x.w.cell? ⟨b,2,none⟩=some c2)/\(∀ x:Past W,x.w.cell? ⟨b,3,none⟩=some c3)/\(∀ x:Past W,x.w.cell? ⟨b,4,none⟩=some c4):=by
 have hx:=fun x:Past W=>Box.cells (W:=x.w) (zs8 h x);exact ⟨fun x=>(hx x).1,fun x=>(hx x).2.1,fun x=>(hx x).2.2.1,fun x=>(hx x).2.2.2.1,fun x=>(hx x).2.2.2.2⟩
theorem Box.kept {W W':World} {b:Nat} {c0 c1 c2 c3 c4:Value} (h:Box W b c0 c1 c2 c3 c4) (hb:Below W.heap.size W W'):Box W' b c0 c1 c2 c3 c4:=zs8 h ⟨W',hb⟩
theorem Box.new (W:World) (c0 c1 c2 c3 c4:Value):Box (W.alloc (.cells #[c0,c1,c2,c3,c4] 53 (0,0))) W.heap.size c0 c1 c2 c3 c4:=heap_alloc_new _ _
theorem Box.alloc {W:World} {b:Nat} {c0 c1 c2 c3 c4:Value} (h:Box W b c0 c1 c2 c3 c4) (o:Obj):Box (W.alloc o) b c0 c1 c2 c3 c4:=h.kept ((Below.refl _ _).alloc (Nat.le_refl _) _)
theorem Box.set {W:World} {b:Nat} {c0 c1 c2 c3 c4:Value} (h:Box W b c0 c1 c2 c3 c4) {p:Addr} (hp:b≠p.block) (u:Value):Box (W.setCell p u) b c0 c1 c2 c3 c4:=(Below.heap_setCell W p u b hp).trans h
theorem Box.two (w:World) (c0 c1 c2 c3 c4 d0 d1 d2 d3 d4:Value):let W:=(w.alloc (.cells #[c0,c1,c2,c3,c4] 53 (0,0))).alloc (.cells #[d0,d1,d2,d3,d4] 53 (0,0))
  Box W w.heap.size c0 c1 c2 c3 c4/\Box W (w.heap.size+1) d0 d1 d2 d3 d4/\Below w.heap.size w W:=by
 refine ⟨(Box.new _ _ _ _ _ _).alloc _, ?_,((Below.refl _ _).alloc (Nat.le_refl _) _).alloc (by simp) _⟩
 have:=Box.new (w.alloc (.cells #[c0,c1,c2,c3,c4] 53 (0,0))) d0 d1 d2 d3 d4;simpa using this
theorem C5.past {W:World} {a:Addr} {c0 c1 c2 c3 c4:Value} {v:Value} (h:C5 W a v) (e:v=.agg #[c0,c1,c2,c3,c4]) (ha:a.block<W.heap.size) :
  (∀ x:Past W,x.w.cell? a=some c0)/\(∀ x:Past W,x.w.cell? ⟨a.block,a.off+1,none⟩=some c1)/\(∀ x:Past W,x.w.cell? ⟨a.block,a.off+2,none⟩=some c2)/\(∀ x:Past W,x.w.cell? ⟨a.block,a.off+3,none⟩=some c3)/\(∀ x:Past W,x.w.cell? ⟨a.block,a.off+4,none⟩=some c4):=by
 subst e;have hx:=fun x:Past W=>h.kept ha x.b;refine ⟨fun x=>?_,fun x=>?_,fun x=>?_,fun x=>?_,fun x=>?_⟩
 all_goals
  obtain ⟨d0,d1,d2,d3,d4,e,h0,h1,h2,h3,h4⟩:=hx x;simp only [Value.agg.injEq,Array.mk.injEq,List.cons.injEq,and_true] at e
  obtain ⟨rfl,rfl,rfl,rfl,rfl⟩:=e
  assumption
theorem za6 {id:Nat} {Q:Exit->Act->World->Prop} {a:Act} {w:World} {l:List Oper} (F:World->Prop) (hF:F w) (hB:Region.lexB .any l.toArray=true)
  (h:∀ W,F W->Below w.heap.size w W->wpQuiet Tryz.prog l.toArray (fun w'=>∃ x:Past W,w'=x.w) (fun a'=>∀ w',(∃ x:Past W,w'=x.w)->Q .normal a' w') l a):(Code.region id l.toArray true).wp Tryz.prog Q a w :=
 wp_region_quiet (C:=fun w'=>∃ x:Past w,w'=x.w) (by kernel_rfl) hB ⟨⟨_,(Below.refl _ _).drew⟩,rfl⟩ (by simpa using h w hF (Below.refl _ _))
end Go.Proofs.YtfgelheiknmjgaaGreatDoor
namespace Go.Proofs.YtfgelheiknmjgaaGreatDoor
open Go.RowKit Go.Maps
theorem zu9 {P:Program} (t k e:TypeId) (kd:IntKind) (n:Int) (ht:P.underlying t=some (.map k e)) (w:World) :
  (Instr.makeMap t (some (.int kd n))).run P w=.ok (.map (some w.heap.size)) (w.alloc (.map #[] 0)):=by
 simp [Instr.makeMap,run_underlying ht]; rfl
theorem zq8 {H:Type} {P:Program} {e:TypeId} (he:P.underlying e=some .bool) {v:Value} {z:DataW H × List MemPlace} (h:plainElem P e v=some z):∃ x,v=.bool x/\z=(.lit (.bool x),[]):=by
 unfold plainElem at h;rw [he] at h;cases v <;> simp at h
 exact ⟨_,rfl,h.symm⟩
theorem yj3 {H:Type} (u z:DataW H) (k:Lit):∀ (acc:List Lit) (m:DataW H),IsMap m->(∀ x∈acc,WideAt.IsKeyLit x)->(acc.foldl (fun m x=>m.put x u) m).atKey k z=if acc.any (fun x=>x.sameKey k) then u else m.atKey k z
 | [],m,_,_=>by simp
 | x::r,m,hm,h=>by
   rw [List.foldl_cons,yj3 u z k r (m.put x u) (hm.put x u) (fun y hy=>h y (by simp [hy])),List.any_cons]
   by_cases e:k=x
   ·subst e
    rw [atKey_put_same hm (h k (by simp)),WideAt.sameKey_self (h k (by simp))]
    simp
   ·rw [atKey_put_other e,sameKey_ne (fun e'=>e e'.symm)]
    simp
instance decBA:DecidableEq ByteArray:=fun a b=>decidable_of_iff (a.data=b.data) ⟨fun h=>by cases a; cases b; simp at h; subst h; rfl,fun h=>by rw [h]⟩
instance memBA (s:ByteArray) (l:List ByteArray):Decidable (s∈l):=decidable_of_iff (l.any (fun a=>decide (a=s))=true) (by simp)
def lits (l:List ByteArray):List Lit:=l.map fun s=>.string s.data.toList
def setD (l:List ByteArray):DataW Unit:=setOf (.lit (.bool true)) (lits l)
theorem lit_inj {a b:ByteArray}:(Lit.string a.data.toList=Lit.string b.data.toList) ↔ a=b:=by
 constructor
 ·intro h
  injection h with h;obtain ⟨a⟩:=a; obtain ⟨b⟩:=b;simp only [ByteArray.mk.injEq]
  exact Array.toList_inj.1 h
 ·rintro rfl; rfl
theorem yg2 (s:ByteArray):WideAt.IsKeyLit (.string s.data.toList):=by first | exact trivial | simp [WideAt.IsKeyLit]
theorem any_lits (l:List ByteArray) (s:ByteArray):(lits l).any (fun x=>x.sameKey (.string s.data.toList))=decide (s∈l):=by
 unfold lits
 induction l with
 | nil=>simp
 | cons a r ih =>
   rw [List.map_cons,List.any_cons,ih];by_cases e:a=s
   ·subst e; rw [WideAt.sameKey_self (yg2 a)]; simp
   ·rw [sameKey_ne (fun h=>e (lit_inj.1 h))]
    have e2:¬ s=a:=fun h=>e h.symm;simp [e2]
theorem ya6 (l:List ByteArray) (s:ByteArray):(setD l).atKey (.string s.data.toList) (.lit (.bool false))=.lit (.bool (decide (s∈l))):=by
 unfold setD setOf;rw [yj3 _ _ _ _ _ isMap_empty (fun x hx=>by obtain ⟨s,_,rfl⟩:=List.mem_map.1 hx; exact yg2 s),any_lits]
 by_cases h:s∈l
 ·simp [h]
 ·simp [h,DataW.atKey]
theorem zH6 (l:List ByteArray) (s:ByteArray):setD (l++[s])=(setD l).put (.string s.data.toList) (.lit (.bool true)):=by
 unfold setD lits; rw [List.map_append]; exact setOf_snoc _ _ _
theorem zB6 {l:List ByteArray} {k:Nat} (h:k<l.length):(l.take (k+1)).Nodup ↔ (l.take k).Nodup/\l[k] ∉ l.take k:=by
 rw [List.take_succ_eq_append_getElem h,List.nodup_append]
 constructor
 ·rintro ⟨h1,_,h3⟩
  exact ⟨h1,fun hm=>h3 _ hm _ (by simp) rfl⟩
 ·rintro ⟨h1,h2⟩
  exact ⟨h1,by simp,fun a ha b hb=>by simp at hb; subst hb; exact fun e=>h2 (e▸ha)⟩
theorem zB5 {l:List ByteArray} {k:Nat} (h:l.Nodup):(l.take k).Nodup:=h.sublist (List.take_sublist _ _)
theorem zc6 {H:Type} {P:Program} (w:World) {ops:Array Oper} {rest:List Oper} {o:Oper} {a:Act} {Q:Exit->Act->World->Prop}
  (hg:o.guard=none) (m x:Operand) (t:TypeId) (hop:o.op=Op.lookup t m x false)
  (k e:TypeId) (K:Keyed P k) (ht:P.underlying t=some (.map k e)) (he:P.underlying e=some .bool) (hz:(zeroValue e).run P w=.ok (.bool false) w) (b n:Nat) (D:DataW H)
  (hm:a.eval m=.map (some b)) (hown:w.ownsMap P k (plainElem P e) b n D) (key:Value) (kl:Lit) (hx:a.eval x=key) (hkey:keyOf P k key=some kl)
  (y:Bool) (hy:D.atKey kl (.lit (.bool false))=.lit (.bool y)) (hK:wpList P ops Q rest (a.put o.dst (.bool y)) w) :
  wpList P ops Q (o::rest) a w:=by
 refine wpList_plain hg fun K' hK'=>?_
 obtain ⟨v,ps,hrun,hv⟩:=hown.lookup K ht hz (plainElem_bool he false) hkey;obtain ⟨c,rfl,hc⟩:=zq8 he hv;simp only [Prod.mk.injEq] at hc
 rw [hy] at hc;obtain ⟨hc,_⟩:=hc;injection hc with hc;injection hc with hc;subst hc;unfold Oper.wp;simp [execOp,hop,hm,hx,hrun,Result.andThen]
 exact hK' _ _ hK
theorem zB8:Keyed Tryz.prog 9 := string_keyed Tryz.underlying9
theorem zeroB (w:World):(zeroValue 4).run Tryz.prog w=.ok (.bool false) w:=by kernel_rfl
theorem zK3 (K:Option Addr) (lk ck:Nat) (keys:List ByteArray) (w:World) (B:Nat) (hlk:keys.length=lk) (hbk:lk*16<=140737488351232) (hks:∀ s∈keys,s.size<=140737488351232) (hK:KeysAt w B K keys) (hB:B<=w.heap.size) :
  Calls Tryz.prog 267 #[.slice K lk ck] w fun e w'=>e=.returned (.bool (decide keys.Nodup))/\Below w.heap.size w w':=by
 have HL:=Lh hlk;have HS:=Lh hks;have HK:=Lh hK;clear hlk hks hK;have hmk:=fun w=>zu9 (P:=Tryz.prog) 275 9 4 .i64 lk Tryz.underlying275 w
 go_enter Tryz.func267, Tryz.ntmps267
 go_wp2_with fail
 clear hmk
 go_loopw [11] (fun i wr=>∃ j:Nat,j<=lk/\i=.int .i64 j/\(keys.take j).Nodup/\wr.ownsMap Tryz.prog 9 (plainElem Tryz.prog 4) w.heap.size j (setD (keys.take j))/\Below w.heap.size w wr) (fun i _=>lk-(intOf i).toNat)
 case atStart=>exact ⟨0,Nat.zero_le _,rfl,List.nodup_nil,World.ownsMap_made _ _ _ _,(Below.refl _ _).alloc (Nat.le_refl _) _⟩
 case round =>
  obtain ⟨j,hj,rfl,hnd,hown,hb⟩:=hrel;have HND:=Lh hnd;have HOWN:=Lh hown;have HB:=Lh hb;clear hnd hown;have hlm:(lk:Int)<=140737488351232:=by omega
  by_cases hlt:j<lk
  ·obtain ⟨a,rfl,hab,hc⟩:=HK.out (by have:=HL.out; omega)
   have hjl:j<keys.length:=by have:=HL.out; omega
   have hcell:=(hb.cell (p:=a.add j) (by rw [za0]; omega)).trans (hc j _ (List.getElem?_eq_getElem hjl))
   have hsz:=HS.out _ (List.getElem_mem hjl);have HSN:=Lh (zB6 hjl);have HTK:Hid (keys.take (j+1)=keys.take j++[keys[j]]):=Lh (List.take_succ_eq_append_getElem hjl);generalize keys[j]=s at *;have hat:=ya6 (keys.take j) s;have HAT:=Lh hat
   clear hat hc hb;by_cases hm:s∈keys.take j
   ·have hy:decide (s∈keys.take j)=true:=by simpa using hm
    rw [hy] at HAT;have HNO:Hid (decide keys.Nodup=false):=Lh (by
     simp only [decide_eq_false_iff_not]
     intro h;exact (HSN.out.1 (zB5 h)).2 hm)
    clear hm hy;go_wp2_with (at_lookup; refine zc6 _ rfl _ _ 275 rfl 9 4 zB8 Tryz.underlying275 Tryz.underlying4 (zeroB _) w.heap.size j _ rfl HOWN.out _ _ rfl (WideMaps.keyOf_string_mk Tryz.underlying9 (by unfold maxLen; omega)) _ HAT.out ?_)
    go_ret
    exact ⟨by rw [HNO.out]; rfl,HB.out⟩
   ·have hy:decide (s∈keys.take j)=false:=by simpa using hm
    rw [hy] at HAT;have HND1:Hid (keys.take (j+1)).Nodup:=Lh (HSN.out.2 ⟨HND.out,hm⟩);clear hm hy;go_wp2_with (first
     | (at_lookup; refine zc6 _ rfl _ _ 275 rfl 9 4 zB8 Tryz.underlying275 Tryz.underlying4 (zeroB _) w.heap.size j _ rfl HOWN.out _ _ rfl (WideMaps.keyOf_string_mk Tryz.underlying9 (by unfold maxLen; omega)) _ HAT.out ?_)
     | (at_mapUpdate; refine wpList_mapUpdate_own _ rfl _ _ _ 275 rfl 9 4 zB8 Tryz.underlying275 _ w.heap.size j _ rfl HOWN.out (by unfold maxLen; omega) _ _ _ rfl rfl (WideMaps.keyOf_string_mk Tryz.underlying9 (by unfold maxLen; omega)) _ [] (plainElem_bool Tryz.underlying4 true) ?_; intro w1 hown1 hgrow1))
    go_roundw
    case rel=>exact ⟨j+1,by omega,by go_num,HND1.out,by rw [HTK.out,zH6]; exact hown1,HB.out.grown hgrow1 HB.out.size (fun k e=>by cases e; exact Nat.le_refl _)⟩
    case measure=>simp [intOf]; omega
  ·have HJ:Hid (decide keys.Nodup=true):=Lh (by
    have:=HND.out;rw [List.take_of_length_le (by have:=HL.out; omega)] at this
    simpa using this)
   clear hb;go_wp2_with fail
   go_ret
   exact ⟨by rw [HJ.out]; rfl,HB.out⟩
end Go.Proofs.YtfgelheiknmjgaaGreatDoor
namespace Go.Proofs.YtfgelheiknmjgaaGreatDoor
end Go.Proofs.YtfgelheiknmjgaaGreatDoor
namespace Go.Proofs.YtfgelheiknmjgaaGreatDoor
open Go.RowKit
def VT.keys:VT->List ByteArray | .mk _ _ _ _ ks=>ks
def VT.items:VT->List VT | .mk _ _ _ is _=>is
theorem Rd.shape {w:World} {B:Nat} {v:Value} {t:VT} (h:Rd w B v t):∃ (k n:Int) (s:ByteArray) (A:Option Addr) (li ci:Nat) (K:Option Addr) (lk ck:Nat),v=.agg #[.int .i64 k,.int .i64 n,.string s,.slice A li ci,.slice K lk ck]:=by
 cases h with
 | mk V hk hn hs hks hli hlk hbi hbk hA hr hK=>exact ⟨_,_,_,_,_,_,_,_,_,rfl⟩
theorem int_any (n:Int) (w:World):Calls Tryz.prog 258 #[.int .i64 n] w fun e w'=>e=.returned (.agg #[.int .i64 2,.int .i64 n,.string ⟨#[]⟩,.slice none 0 0,.slice none 0 0])/\Below w.heap.size w w':=by
 go_enter Tryz.func258, Tryz.ntmps258
 go_wp2_with fail
 exact bodyPost_ret (v:=.agg #[.int .i64 2,.int .i64 n,.string ⟨#[]⟩,.slice none 0 0,.slice none 0 0]) (by simp [results,Tryz.results258,go_sem]) rfl ⟨rfl,(Below.refl _ _).alloc (Nat.le_refl _) _⟩
theorem text_any (s:ByteArray) (w:World):Calls Tryz.prog 259 #[.string s] w fun e w'=>e=.returned (.agg #[.int .i64 3,.int .i64 0,.string s,.slice none 0 0,.slice none 0 0])/\Below w.heap.size w w':=by
 go_enter Tryz.func259, Tryz.ntmps259
 go_wp2_with fail
 exact bodyPost_ret (v:=.agg #[.int .i64 3,.int .i64 0,.string s,.slice none 0 0,.slice none 0 0]) (by simp [results,Tryz.results259,go_sem]) rfl ⟨rfl,(Below.refl _ _).alloc (Nat.le_refl _) _⟩
theorem enum_any (s:ByteArray) (w:World):Calls Tryz.prog 273 #[.string s] w fun e w'=>e=.returned (.agg #[.int .i64 4,.int .i64 0,.string s,.slice none 0 0,.slice none 0 0])/\Below w.heap.size w w':=by
 go_enter Tryz.func273, Tryz.ntmps273
 go_wp2_with fail
 exact bodyPost_ret (v:=.agg #[.int .i64 4,.int .i64 0,.string s,.slice none 0 0,.slice none 0 0]) (by simp [results,Tryz.results273,go_sem]) rfl ⟨rfl,(Below.refl _ _).alloc (Nat.le_refl _) _⟩
def yesI (y:Bool):Int:=if y then 1 else 0
theorem zT5 (y:Bool) (w:World):Calls Tryz.prog 272 #[.bool y] w fun e w'=>e=.returned (.agg #[.int .i64 1,.int .i64 (yesI y),.string ⟨#[]⟩,.slice none 0 0,.slice none 0 0])/\Below w.heap.size w w':=by
 cases y
 ·go_enter Tryz.func272, Tryz.ntmps272
  go_wp2_with fail
  exact bodyPost_ret (v:=.agg #[.int .i64 1,.int .i64 0,.string ⟨#[]⟩,.slice none 0 0,.slice none 0 0]) (by simp [results,Tryz.results272,go_sem]) rfl ⟨rfl,(Below.refl _ _).alloc (Nat.le_refl _) _⟩
 ·go_enter Tryz.func272, Tryz.ntmps272
  go_wp2_with fail
  exact bodyPost_ret (v:=.agg #[.int .i64 1,.int .i64 1,.string ⟨#[]⟩,.slice none 0 0,.slice none 0 0]) (by simp [results,Tryz.results272,go_sem]) rfl ⟨rfl,(Below.refl _ _).alloc (Nat.le_refl _) _⟩
def nmA (s:ByteArray):Bool:=nameL s.data.toList
def enumB (s:ByteArray):Bool:=!decide (s=⟨#[116,114,117,101]⟩)&&!decide (s=⟨#[102,97,108,115,101]⟩)&&!decide (s=⟨#[110,117,108,108]⟩)&&nmA s
def keysB (lit:Bool) (ks:List ByteArray):Bool:=(!lit||ks.all nmA)&&decide ks.Nodup
def leafB (is:List VT) (ks:List ByteArray):Bool:=decide (is.length=0)&&decide (ks.length=0)
def nodeB (lit:Bool):VT->Bool
 | .mk k n s is ks =>
   if k=0 then decide (n=0)&&decide (s.size=0)&&leafB is ks
   else if k=1 then (decide (n=0)||decide (n=1))&&decide (s.size=0)&&leafB is ks
   else if k=2 then decide (s.size=0)&&leafB is ks
   else if k=3 then decide (n=0)&&leafB is ks
   else if k=4 then decide (n=0)&&enumB s&&leafB is ks
   else if k=5 then decide (n=0)&&decide (s.size=0)&&decide (ks.length=0)
   else if k=6 then decide (n=0)&&decide (s.size=0)&&decide (ks.length=is.length)&&keysB lit ks
   else if k=7 then lit&&decide (n=0)&&nmA s&&leafB is ks
   else false
theorem zX0 (t:VT) (w:World) (B:Nat) (v:Value) (h:Rd w B v t) :
  Calls Tryz.prog 243 #[v] w fun e w'=>e=.returned (.bool (leafB t.items t.keys))/\Below w.heap.size w w':=by
 cases h with
 | @mk k n s A li ci K lk ck items keys V hk hn hs hks hli hlk hbi hbk hA hr hK =>
 have HV:Hid (leafB items keys=(decide (li=0)&&decide (lk=0))):=Lh (by unfold leafB; rw [hli,hlk])
 show Calls _ _ _ _ fun e w'=>e=.returned (.bool (leafB items keys))/\_
 clear hA hr hli hlk hK hks hn hs hk;by_cases h1:li=0
 ·subst h1
  by_cases h2:lk=0
  ·subst h2
   go_enter Tryz.func243, Tryz.ntmps243
   go_wp2_with fail
   go_ret
   exact ⟨by rw [HV.out]; rfl,(Below.refl _ _).alloc (Nat.le_refl _) _⟩
  ·have h2':decide (lk=0)=false:=by simpa using h2
   have h2'':((lk:Int)==0)=false:=by rw [beq_eq_false_iff_ne]; omega
   go_enter Tryz.func243, Tryz.ntmps243
   go_wp2_with fail
   go_ret
   exact ⟨by rw [HV.out]; simp [h2],(Below.refl _ _).alloc (Nat.le_refl _) _⟩
 ·have h1':decide (li=0)=false:=by simpa using h1
  have h1'':((li:Int)==0)=false:=by rw [beq_eq_false_iff_ne]; omega
  go_enter Tryz.func243, Tryz.ntmps243
  go_wp2_with fail
  go_ret
  exact ⟨by rw [HV.out]; simp [h1],(Below.refl _ _).alloc (Nat.le_refl _) _⟩
theorem zj6 (s:ByteArray) (l:List UInt8):(s.toList==l)=decide (s=⟨l.toArray⟩):=by
 rw [Lib.toList_data,Bool.eq_iff_iff];obtain ⟨d⟩:=s;simp only [beq_iff_eq,decide_eq_true_eq,ByteArray.mk.injEq]
 constructor
 ·rintro rfl; simp
 ·rintro rfl; simp
theorem zz9 (s:ByteArray) (w:World) (hs:s.size<=140737488351232) :
  Calls Tryz.prog 244 #[.string s] w fun e w'=>e=.returned (.bool (enumB s))/\w=w':=by
 have e1:=zj6 s [116,114,117,101];have e2:=zj6 s [102,97,108,115,101];have e3:=zj6 s [110,117,108,108];have HV:Hid (enumB s=(!decide (s=⟨#[116,114,117,101]⟩)&&!decide (s=⟨#[102,97,108,115,101]⟩)&&!decide (s=⟨#[110,117,108,108]⟩)&&nmA s)):=Lh rfl;have HN:=Lh (zl7 s w (by unfold maxLen; omega))
 rw [<- e1, <- e2, <- e3] at HV;cases h1:(s.toList==[116,114,117,101])
 ·cases h2:(s.toList==[102,97,108,115,101])
  ·cases h3:(s.toList==[110,117,108,108])
   ·rw [h1,h2,h3] at HV
    clear e1 e2 e3
    go_enter Tryz.func244, Tryz.ntmps244
    go_wp2_with fail
    refine HN.out.mono ?_
    rintro e w' ⟨rfl,rfl⟩;go_wp2_with fail
    go_ret
    exact ⟨by rw [HV.out]; rfl,rfl⟩
   ·rw [h1,h2,h3] at HV
    clear e1 e2 e3
    go_enter Tryz.func244, Tryz.ntmps244
    go_wp2_with fail
    go_ret
    exact ⟨by rw [HV.out]; rfl,rfl⟩
  ·rw [h1,h2] at HV
   clear e1 e2 e3
   go_enter Tryz.func244, Tryz.ntmps244
   go_wp2_with fail
   go_ret
   exact ⟨by rw [HV.out]; rfl,rfl⟩
 ·rw [h1] at HV
  clear e1 e2 e3
  go_enter Tryz.func244, Tryz.ntmps244
  go_wp2_with fail
  go_ret
  exact ⟨by rw [HV.out]; rfl,rfl⟩
def Chk (w:World) (c:Nat) (lit:Bool) (r:Int):Prop:=w.heap[c]?=some (.cells #[.bool lit,.int .i64 r] 207 (0,0))
theorem Chk.cells {w:World} {c:Nat} {lit:Bool} {r:Int} (h:Chk w c lit r):w.cell? ⟨c,0,none⟩=some (.bool lit)/\w.cell? ⟨c,1,none⟩=some (.int .i64 r)/\w.frozen? ⟨c,1,none⟩=false:=by
 refine ⟨?_, ?_,by unfold Chk at h; simp [World.frozen?,h]⟩ <;> rw [cell_of_row _ _ _ _ _ _ h] <;> rfl
theorem Chk.lt {w:World} {c:Nat} {lit:Bool} {r:Int} (h:Chk w c lit r):c<w.heap.size:=by
 unfold Chk at h;rcases Nat.lt_or_ge c w.heap.size with h' | h'
 ·exact h'
 ·rw [Array.getElem?_eq_none h'] at h; cases h
theorem Chk.kept {w w':World} {c B:Nat} {lit:Bool} {r:Int} (h:Chk w c lit r) (hb:Below B w w') (hc:c<B):Chk w' c lit r:=(hb.block c hc).trans h
theorem keys_any (lit:Bool) (r:Int) (c:Nat) (K:Option Addr) (lk ck:Nat) (keys:List ByteArray) (w:World) (B:Nat) (hc:Chk w c lit r) (hlk:keys.length=lk) (hbk:lk*16<=140737488351232) (hks:∀ s∈keys,s.size<=140737488351232) (hK:KeysAt w B K keys) (hB:B<=w.heap.size) :
  Calls Tryz.prog 245 #[.pointer (some ⟨c,0,none⟩),.slice K lk ck] w fun e w'=>e=.returned (.bool (keysB lit keys))/\Below w.heap.size w w':=by
 have HD:=Lh (zK3 K lk ck keys w B hlk hbk hks hK hB);have HL:=Lh hlk;have HS:=Lh hks;have HK:=Lh hK;obtain ⟨c0,c1,c2⟩:=hc.cells;clear hlk hks hK hc;have hlm:(lk:Int)<=140737488351232:=by omega
 cases lit
 ·go_enter Tryz.func245, Tryz.ntmps245
  go_wp2_with fail
  refine HD.out.mono ?_
  rintro e w' ⟨rfl,hb⟩;have HB:=Lh hb;clear hb;go_wp2_with fail
  go_ret
  exact ⟨by simp [keysB],HB.out⟩
 ·go_enter Tryz.func245, Tryz.ntmps245
  go_wp2_with fail
  go_loop [13] (fun i=>∃ j:Nat,j<=lk/\i=.int .i64 j/\(keys.take j).all nmA=true) (fun i=>lk-(intOf i).toNat)
  case atStart=>exact ⟨0,Nat.zero_le _,rfl,rfl⟩
  case round =>
   obtain ⟨j,hj,rfl,hal⟩:=hrel;have HAL:=Lh hal;clear hal;by_cases hlt:j<lk
   ·obtain ⟨a,rfl,hab,hc⟩:=HK.out (by have:=HL.out; omega)
    have hjl:j<keys.length:=by have:=HL.out; omega
    have hcell:=hc j _ (List.getElem?_eq_getElem hjl);have HN:=Lh (zl7 keys[j] w (by unfold maxLen; have:=HS.out _ (List.getElem_mem hjl); omega))
    have HTK:Hid (keys.take (j+1)=keys.take j++[keys[j]]):=Lh (List.take_succ_eq_append_getElem hjl);have HM:Hid (keys[j]∈keys):=Lh (List.getElem_mem hjl);generalize keys[j]=s at *;clear hc;cases hn:nmA s
    ·have HN':Hid (nameL s.data.toList=false):=Lh hn
     have HV:Hid (keysB true keys=false):=Lh (by
      unfold keysB;rw [show keys.all nmA=false from List.all_eq_false.2 ⟨s,HM.out,by simp [hn]⟩]; rfl)
     clear hn;go_wp2_with fail
     refine HN.out.mono ?_
     rintro e w' ⟨rfl,rfl⟩;rw [HN'.out];go_wp2_with fail
     go_ret
     exact ⟨by rw [HV.out]; rfl,Below.refl _ _⟩
    ·have HN':Hid (nameL s.data.toList=true):=Lh hn
     have HA1:Hid ((keys.take (j+1)).all nmA=true):=Lh (by rw [HTK.out,List.all_append,HAL.out]; simp [hn])
     clear hn;go_wp2_with fail
     refine HN.out.mono ?_
     rintro e w' ⟨rfl,rfl⟩;rw [HN'.out];go_wp2_with fail
     go_round
     case rel=>exact ⟨j+1,by omega,by go_num,HA1.out⟩
     case measure=>simp [intOf]; omega
   ·have HV:Hid (keysB true keys=decide keys.Nodup):=Lh (by
     have:=HAL.out;rw [List.take_of_length_le (by have:=HL.out; omega)] at this
     unfold keysB; rw [this]; rfl)
    go_wp2_with fail
    refine HD.out.mono ?_
    rintro e w' ⟨rfl,hb⟩;have HB:=Lh hb;clear hb;go_wp2_with fail
    go_ret
    exact ⟨by rw [HV.out]; rfl,HB.out⟩
theorem zi2 {s:ByteArray} (h:s.size=0):(s.toList.isEmpty=true)/\s.toList=[]/\(s.toList==[])=true:=by rw [zr2 h]; exact ⟨rfl,rfl,rfl⟩
theorem zm3 {s:ByteArray} (h:¬ s.size=0):(s.toList.isEmpty=false)/\s.toList≠[]/\(s.toList==[])=false:=by
 have h1:=zc8 (s:=s) (by omega)
 exact ⟨h1,zd5 (by omega),beq_eq_false_iff_ne.2 (zd5 (by omega))⟩
theorem node_any (lit:Bool) (r:Int) (c:Nat) (t:VT) (w:World) (B:Nat) (v:Value) (hc:Chk w c lit r) (h:Rd w B v t) (hB:B<=w.heap.size) :
  Calls Tryz.prog 225 #[.pointer (some ⟨c,0,none⟩),v] w fun e w'=>e=.returned (.bool (nodeB lit t))/\Below w.heap.size w w':=by
 have HRD:=Lh h
 cases h with
 | @mk k n s A li ci K lk ck items keys V hk hn hs hks hli hlk hbi hbk hA hr hK =>
 have b1:Below w.heap.size w (w.alloc (.cells #[.int .i64 k,.int .i64 n,.string s,.slice A li ci,.slice K lk ck] 53 (0,0))):=(Below.refl _ _).alloc (Nat.le_refl _) _;have hcl:=hc.lt;have hc1:=hc.kept b1 hcl;obtain ⟨c0,c1,c2⟩:=hc1.cells;have B1:=Lh b1;have HKEY:Hid (Calls Tryz.prog 245 #[.pointer (some ⟨c,0,none⟩),.slice K lk ck] _ fun e w'=>e=.returned (.bool (keysB lit keys))/\Below _ _ w'):=Lh (keys_any lit r c K lk ck keys _ B hc1 hlk hbk.1 hks (hK.kept (b1.mono hB)) (by have:=b1.size; omega))
 have HLEAF:Hid (Calls Tryz.prog 243 #[.agg #[.int .i64 k,.int .i64 n,.string s,.slice A li ci,.slice K lk ck]] _ fun e w'=>e=.returned (.bool (leafB items keys))/\Below _ _ w'):=Lh (zX0 _ _ B _ (HRD.out.kept (b1.mono hB)));have HENUM:Hid (Calls Tryz.prog 244 #[.string s] (w.alloc (.cells #[.int .i64 k,.int .i64 n,.string s,.slice A li ci,.slice K lk ck] 53 (0,0))) fun e w'=>e=.returned (.bool (enumB s))/\_=w'):=Lh (zz9 s _ hs);have HNAME:Hid (Calls Tryz.prog 39 #[.string s] (w.alloc (.cells #[.int .i64 k,.int .i64 n,.string s,.slice A li ci,.slice K lk ck] 53 (0,0))) fun e w'=>e=.returned (.bool (nmA s))/\_=w'):=Lh (zl7 s _ (by unfold maxLen; omega))
 have hlm:(li:Int)<=140737488351232:=by omega
 have hlm':(lk:Int)<=140737488351232:=by omega
 have HL:=Lh hli;have HLK:=Lh hlk;clear hA hr hK hks hn hs hk hli hlk b1 hc hc1;by_cases k0:k=0
 ·subst k0
  by_cases n0:n=0
  ·subst n0
   by_cases s0:s.size=0
   ·obtain ⟨s1,s2,s3⟩:=zi2 s0
    have HV:Hid (nodeB lit (.mk 0 0 s items keys)=leafB items keys):=Lh (by simp [nodeB,s0])
    clear HRD HL HLK;clear s0
    go_enter Tryz.func225, Tryz.ntmps225
    go_wp2_with fail
    refine HLEAF.out.mono ?_
    rintro e w' ⟨rfl,hb⟩;have HB:=Lh (B1.out.trans (hb.mono B1.out.size));clear hb;go_wp2_with fail
    go_ret
    exact ⟨by rw [HV.out]; rfl,HB.out⟩
   ·obtain ⟨s1,s2,s3⟩:=zm3 s0
    have HV:Hid (nodeB lit (.mk 0 0 s items keys)=false):=Lh (by simp [nodeB,s0])
    clear HRD HL HLK;clear s0
    go_enter Tryz.func225, Tryz.ntmps225
    go_wp2_with fail
    go_ret
    exact ⟨by rw [HV.out]; rfl,B1.out⟩
  ·have n0':(n==0)=false:=beq_eq_false_iff_ne.2 n0
   have HV:Hid (nodeB lit (.mk 0 n s items keys)=false):=Lh (by simp [nodeB,n0])
   clear HRD HL HLK;clear n0
   go_enter Tryz.func225, Tryz.ntmps225
   go_wp2_with fail
   go_ret
   exact ⟨by rw [HV.out]; rfl,B1.out⟩
 have k0':(k==0)=false:=beq_eq_false_iff_ne.2 k0;by_cases k1:k=1
 ·subst k1
  by_cases n0:n=0
  ·subst n0
   by_cases s0:s.size=0
   ·obtain ⟨s1,s2,s3⟩:=zi2 s0
    have HV:Hid (nodeB lit (.mk 1 0 s items keys)=leafB items keys):=Lh (by simp [nodeB,s0])
    clear HRD HL HLK;clear s0
    go_enter Tryz.func225, Tryz.ntmps225
    go_wp2_with fail
    refine HLEAF.out.mono ?_
    rintro e w' ⟨rfl,hb⟩;have HB:=Lh (B1.out.trans (hb.mono B1.out.size));clear hb;go_wp2_with fail
    go_ret
    exact ⟨by rw [HV.out]; rfl,HB.out⟩
   ·obtain ⟨s1,s2,s3⟩:=zm3 s0
    have HV:Hid (nodeB lit (.mk 1 0 s items keys)=false):=Lh (by simp [nodeB,s0])
    clear HRD HL HLK;clear s0
    go_enter Tryz.func225, Tryz.ntmps225
    go_wp2_with fail
    go_ret
    exact ⟨by rw [HV.out]; rfl,B1.out⟩
  ·have n0':(n==0)=false:=beq_eq_false_iff_ne.2 n0
   by_cases n1:n=1
   ·subst n1
    by_cases s0:s.size=0
    ·obtain ⟨s1,s2,s3⟩:=zi2 s0
     have HV:Hid (nodeB lit (.mk 1 1 s items keys)=leafB items keys):=Lh (by simp [nodeB,s0])
     clear HRD HL HLK;clear s0
     go_enter Tryz.func225, Tryz.ntmps225
     go_wp2_with fail
     refine HLEAF.out.mono ?_
     rintro e w' ⟨rfl,hb⟩;have HB:=Lh (B1.out.trans (hb.mono B1.out.size));clear hb;go_wp2_with fail
     go_ret
     exact ⟨by rw [HV.out]; rfl,HB.out⟩
    ·obtain ⟨s1,s2,s3⟩:=zm3 s0
     have HV:Hid (nodeB lit (.mk 1 1 s items keys)=false):=Lh (by simp [nodeB,s0])
     clear HRD HL HLK;clear s0
     go_enter Tryz.func225, Tryz.ntmps225
     go_wp2_with fail
     go_ret
     exact ⟨by rw [HV.out]; rfl,B1.out⟩
   ·have n1':(n==1)=false:=beq_eq_false_iff_ne.2 n1
    have HV:Hid (nodeB lit (.mk 1 n s items keys)=false):=Lh (by simp [nodeB,n0,n1])
    clear HRD HL HLK;clear n0;clear n1
    go_enter Tryz.func225, Tryz.ntmps225
    go_wp2_with fail
    go_ret
    exact ⟨by rw [HV.out]; rfl,B1.out⟩
 have k1':(k==1)=false:=beq_eq_false_iff_ne.2 k1;by_cases k2:k=2
 ·subst k2
  by_cases s0:s.size=0
  ·obtain ⟨s1,s2,s3⟩:=zi2 s0
   have HV:Hid (nodeB lit (.mk 2 n s items keys)=leafB items keys):=Lh (by simp [nodeB,s0])
   clear HRD HL HLK;clear s0
   go_enter Tryz.func225, Tryz.ntmps225
   go_wp2_with fail
   refine HLEAF.out.mono ?_
   rintro e w' ⟨rfl,hb⟩;have HB:=Lh (B1.out.trans (hb.mono B1.out.size));clear hb;go_wp2_with fail
   go_ret
   exact ⟨by rw [HV.out]; rfl,HB.out⟩
  ·obtain ⟨s1,s2,s3⟩:=zm3 s0
   have HV:Hid (nodeB lit (.mk 2 n s items keys)=false):=Lh (by simp [nodeB,s0])
   clear HRD HL HLK;clear s0
   go_enter Tryz.func225, Tryz.ntmps225
   go_wp2_with fail
   go_ret
   exact ⟨by rw [HV.out]; rfl,B1.out⟩
 have k2':(k==2)=false:=beq_eq_false_iff_ne.2 k2;by_cases k3:k=3
 ·subst k3
  by_cases n0:n=0
  ·subst n0
   have HV:Hid (nodeB lit (.mk 3 0 s items keys)=leafB items keys):=Lh (by simp [nodeB])
   clear HRD HL HLK
   go_enter Tryz.func225, Tryz.ntmps225
   go_wp2_with fail
   refine HLEAF.out.mono ?_
   rintro e w' ⟨rfl,hb⟩;have HB:=Lh (B1.out.trans (hb.mono B1.out.size));clear hb;go_wp2_with fail
   go_ret
   exact ⟨by rw [HV.out]; rfl,HB.out⟩
  ·have n0':(n==0)=false:=beq_eq_false_iff_ne.2 n0
   have HV:Hid (nodeB lit (.mk 3 n s items keys)=false):=Lh (by simp [nodeB,n0])
   clear HRD HL HLK;clear n0
   go_enter Tryz.func225, Tryz.ntmps225
   go_wp2_with fail
   go_ret
   exact ⟨by rw [HV.out]; rfl,B1.out⟩
 have k3':(k==3)=false:=beq_eq_false_iff_ne.2 k3;by_cases k4:k=4
 ·subst k4
  by_cases n0:n=0
  ·subst n0
   cases q:enumB s
   ·rw [q] at HENUM
    have HV:Hid (nodeB lit (.mk 4 0 s items keys)=false):=Lh (by simp [nodeB,q])
    clear HRD HL HLK;clear q
    go_enter Tryz.func225, Tryz.ntmps225
    go_wp2_with fail
    refine HENUM.out.mono ?_
    rintro e w' ⟨rfl,rfl⟩;go_wp2_with fail
    go_ret
    exact ⟨by rw [HV.out]; rfl,B1.out⟩
   ·rw [q] at HENUM
    have HV:Hid (nodeB lit (.mk 4 0 s items keys)=leafB items keys):=Lh (by simp [nodeB,q])
    clear HRD HL HLK;clear q
    go_enter Tryz.func225, Tryz.ntmps225
    go_wp2_with fail
    refine HENUM.out.mono ?_
    rintro e w' ⟨rfl,rfl⟩;go_wp2_with fail
    refine HLEAF.out.mono ?_
    rintro e w' ⟨rfl,hb⟩;have HB:=Lh (B1.out.trans (hb.mono B1.out.size));clear hb;go_wp2_with fail
    go_ret
    exact ⟨by rw [HV.out]; rfl,HB.out⟩
  ·have n0':(n==0)=false:=beq_eq_false_iff_ne.2 n0
   have HV:Hid (nodeB lit (.mk 4 n s items keys)=false):=Lh (by simp [nodeB,n0])
   clear HRD HL HLK;clear n0
   go_enter Tryz.func225, Tryz.ntmps225
   go_wp2_with fail
   go_ret
   exact ⟨by rw [HV.out]; rfl,B1.out⟩
 have k4':(k==4)=false:=beq_eq_false_iff_ne.2 k4;by_cases k5:k=5
 ·subst k5
  by_cases n0:n=0
  ·subst n0
   by_cases s0:s.size=0
   ·obtain ⟨s1,s2,s3⟩:=zi2 s0
    by_cases k0:lk=0
    ·subst k0
     have HV:Hid (nodeB lit (.mk 5 0 s items keys)=true):=Lh (by simp [nodeB,s0,HLK.out])
     clear HRD HL HLK;clear s0
     go_enter Tryz.func225, Tryz.ntmps225
     go_wp2_with fail
     go_ret
     exact ⟨by rw [HV.out]; rfl,B1.out⟩
    ·have k1:decide (lk=0)=false:=by simpa using k0
     have k2:((lk:Int)==0)=false:=by rw [beq_eq_false_iff_ne]; omega
     have HV:Hid (nodeB lit (.mk 5 0 s items keys)=false):=Lh (by simp [nodeB,s0,HLK.out,k0])
     clear HRD HL HLK;clear s0;clear k0
     go_enter Tryz.func225, Tryz.ntmps225
     go_wp2_with fail
     go_ret
     exact ⟨by rw [HV.out]; rfl,B1.out⟩
   ·obtain ⟨s1,s2,s3⟩:=zm3 s0
    have HV:Hid (nodeB lit (.mk 5 0 s items keys)=false):=Lh (by simp [nodeB,s0])
    clear HRD HL HLK;clear s0
    go_enter Tryz.func225, Tryz.ntmps225
    go_wp2_with fail
    go_ret
    exact ⟨by rw [HV.out]; rfl,B1.out⟩
  ·have n0':(n==0)=false:=beq_eq_false_iff_ne.2 n0
   have HV:Hid (nodeB lit (.mk 5 n s items keys)=false):=Lh (by simp [nodeB,n0])
   clear HRD HL HLK;clear n0
   go_enter Tryz.func225, Tryz.ntmps225
   go_wp2_with fail
   go_ret
   exact ⟨by rw [HV.out]; rfl,B1.out⟩
 have k5':(k==5)=false:=beq_eq_false_iff_ne.2 k5;by_cases k6:k=6
 ·subst k6
  by_cases n0:n=0
  ·subst n0
   by_cases s0:s.size=0
   ·obtain ⟨s1,s2,s3⟩:=zi2 s0
    by_cases k0:lk=li
    ·subst k0
     have HV:Hid (nodeB lit (.mk 6 0 s items keys)=keysB lit keys):=Lh (by simp [nodeB,s0,HL.out,HLK.out])
     clear HRD HL HLK;clear s0
     go_enter Tryz.func225, Tryz.ntmps225
     go_wp2_with fail
     refine HKEY.out.mono ?_
     rintro e w' ⟨rfl,hb⟩;have HB:=Lh (B1.out.trans (hb.mono B1.out.size));clear hb;go_wp2_with fail
     go_ret
     exact ⟨by rw [HV.out]; rfl,HB.out⟩
    ·have k1:decide (lk=li)=false:=by simpa using k0
     have k2:((lk:Int)==(li:Int))=false:=by rw [beq_eq_false_iff_ne]; omega
     have k3:(lk==li)=false:=by rw [beq_eq_false_iff_ne]; omega
     have HV:Hid (nodeB lit (.mk 6 0 s items keys)=false):=Lh (by simp [nodeB,s0,HL.out,HLK.out,k0])
     clear HRD HL HLK;clear s0;clear k0
     go_enter Tryz.func225, Tryz.ntmps225
     go_wp2_with fail
     go_ret
     exact ⟨by rw [HV.out]; rfl,B1.out⟩
   ·obtain ⟨s1,s2,s3⟩:=zm3 s0
    have HV:Hid (nodeB lit (.mk 6 0 s items keys)=false):=Lh (by simp [nodeB,s0])
    clear HRD HL HLK;clear s0
    go_enter Tryz.func225, Tryz.ntmps225
    go_wp2_with fail
    go_ret
    exact ⟨by rw [HV.out]; rfl,B1.out⟩
  ·have n0':(n==0)=false:=beq_eq_false_iff_ne.2 n0
   have HV:Hid (nodeB lit (.mk 6 n s items keys)=false):=Lh (by simp [nodeB,n0])
   clear HRD HL HLK;clear n0
   go_enter Tryz.func225, Tryz.ntmps225
   go_wp2_with fail
   go_ret
   exact ⟨by rw [HV.out]; rfl,B1.out⟩
 have k6':(k==6)=false:=beq_eq_false_iff_ne.2 k6;by_cases k7:k=7
 ·subst k7
  cases lit
  ·skip
   have HV:Hid (nodeB false (.mk 7 n s items keys)=false):=Lh (by simp [nodeB])
   clear HRD HL HLK
   go_enter Tryz.func225, Tryz.ntmps225
   go_wp2_with fail
   go_ret
   exact ⟨by rw [HV.out]; rfl,B1.out⟩
  ·skip
   by_cases n0:n=0
   ·subst n0
    cases q:nmA s
    ·rw [q] at HNAME
     have HV:Hid (nodeB true (.mk 7 0 s items keys)=false):=Lh (by simp [nodeB,q])
     clear HRD HL HLK;clear q
     go_enter Tryz.func225, Tryz.ntmps225
     go_wp2_with fail
     refine HNAME.out.mono ?_
     rintro e w' ⟨rfl,rfl⟩;go_wp2_with fail
     go_ret
     exact ⟨by rw [HV.out]; rfl,B1.out⟩
    ·rw [q] at HNAME
     have HV:Hid (nodeB true (.mk 7 0 s items keys)=leafB items keys):=Lh (by simp [nodeB,q])
     clear HRD HL HLK;clear q
     go_enter Tryz.func225, Tryz.ntmps225
     go_wp2_with fail
     refine HNAME.out.mono ?_
     rintro e w' ⟨rfl,rfl⟩;go_wp2_with fail
     refine HLEAF.out.mono ?_
     rintro e w' ⟨rfl,hb⟩;have HB:=Lh (B1.out.trans (hb.mono B1.out.size));clear hb;go_wp2_with fail
     go_ret
     exact ⟨by rw [HV.out]; rfl,HB.out⟩
   ·have n0':(n==0)=false:=beq_eq_false_iff_ne.2 n0
    have HV:Hid (nodeB true (.mk 7 n s items keys)=false):=Lh (by simp [nodeB,n0])
    clear HRD HL HLK;clear n0
    go_enter Tryz.func225, Tryz.ntmps225
    go_wp2_with fail
    go_ret
    exact ⟨by rw [HV.out]; rfl,B1.out⟩
 have k7':(k==7)=false:=beq_eq_false_iff_ne.2 k7;have HV:Hid (nodeB lit (.mk k n s items keys)=false):=Lh (by simp [nodeB,k0,k1,k2,k3,k4,k5,k6,k7])
 clear HRD HL HLK k0 k1 k2 k3 k4 k5 k6 k7
 go_enter Tryz.func225, Tryz.ntmps225
 go_wp2_with fail
 go_ret
 exact ⟨by rw [HV.out]; rfl,B1.out⟩
mutual
def VT.chk (lit:Bool):VT->Nat->Nat->Option Nat
 | .mk k n s is ks,L,r=>if L=0 then none else if is.length<=r/\nodeB lit (.mk k n s is ks)=true then VT.chks lit is (L-1) (r-is.length) else none
def VT.chks (lit:Bool):List VT->Nat->Nat->Option Nat
 | [],_,r=>some r
 | t::u,L,r=>match t.chk lit L r with
   | none=>none
   | some r'=>VT.chks lit u L r'
end
mutual
theorem VT.chk_le {lit:Bool} {t:VT} {L r r':Nat} (h:t.chk lit L r=some r'):r'<=r:=by
 cases t with
 | mk k n s is ks =>
   simp only [VT.chk] at h
   split at h
   ·cases h
   ·split at h
    ·have:=VT.chks_le h; omega
    ·cases h
theorem VT.chks_le {lit:Bool} {l:List VT} {L r r':Nat} (h:VT.chks lit l L r=some r'):r'<=r:=by
 cases l with
 | nil=>simp [VT.chks] at h; omega
 | cons t u =>
   simp only [VT.chks] at h
   cases q:t.chk lit L r with
   | none=>rw [q] at h; cases h
   | some r1 =>
     rw [q] at h;have h1:=VT.chk_le q;have h2:=VT.chks_le h;omega
end
theorem take_yes (c:Nat) (lit:Bool) (r n:Nat) (w:World) (hc:Chk w c lit r) (h:n<=r) (_hr:r<=100000) :
  Calls Tryz.prog 224 #[.pointer (some ⟨c,0,none⟩),.int .i64 n] w fun e w'=>e=.returned (.bool true)/\w.setCell ⟨c,1,none⟩ (.int .i64 ((r-n:Nat):Int))=w':=by
 obtain ⟨c0,c1,c2⟩:=hc.cells;have e:((r-n:Nat):Int)=(r:Int)-n:=by omega
 rw [e];have h1:¬ (r:Int)<(n:Int):=by omega
 clear hc e
 go_enter Tryz.func224, Tryz.ntmps224
 go_wp2_with fail
 go_ret
 exact ⟨rfl,rfl⟩
theorem take_no (c:Nat) (lit:Bool) (r n:Nat) (w:World) (hc:Chk w c lit r) (h:¬ n<=r) (_hr:r<=100000) :
  Calls Tryz.prog 224 #[.pointer (some ⟨c,0,none⟩),.int .i64 n] w fun e w'=>e=.returned (.bool false)/\w=w':=by
 obtain ⟨c0,c1,c2⟩:=hc.cells;have h1:(r:Int)<(n:Int):=by omega
 clear hc
 go_enter Tryz.func224, Tryz.ntmps224
 go_wp2_with fail
 go_ret
 exact ⟨rfl,rfl⟩
theorem Chk.set {w:World} {c:Nat} {lit:Bool} {r:Int} (h:Chk w c lit r) (r':Int):Chk (w.setCell ⟨c,1,none⟩ (.int .i64 r')) c lit r':=by
 unfold Chk at h ⊢;simp [World.setCell,Array.getElem?_modify,h]
def yj7 (w:World) (c:Nat) (lit:Bool) (o:Option Nat) (e:Ending) (w':World):Prop :=
 (match o with | none=>e=.returned (.bool false) | some r'=>e=.returned (.bool true)/\Chk w' c lit r' )/\Below c w w'
def ChkAt (lit:Bool) (t:VT):Prop:=∀ (c L r:Nat) (w:World) (B:Nat) (v:Value),Chk w c lit r->r<=100000->L<=1000->Rd w B v t->B<=c ->
  Calls Tryz.prog 188 #[.pointer (some ⟨c,0,none⟩),v,.int .i64 L] w (yj7 w c lit (t.chk lit L r))
theorem yi7 (lit:Bool) (t:VT):ChkAt lit t:=by
 induction t using VT.ind with
 | h k n s items keys ih =>
 intro c L r w B v hc hr hL h hB;have HRD:=Lh h;have IH:=Lh ih;clear ih
 cases h with
 | @mk _ _ _ A li ci K lk ck _ _ V hk hn hs hks hli hlk hbi hbk hA hr' hK =>
 have HA:=Lh hA;have HR:=Lh hr';have HL:=Lh hli;have hlm:(li:Int)<=140737488351232:=by omega
 have hcl:=hc.lt;have b1:Below w.heap.size w (w.alloc (.cells #[.int .i64 k,.int .i64 n,.string s,.slice A li ci,.slice K lk ck] 53 (0,0))):=(Below.refl _ _).alloc (Nat.le_refl _) _;have HC1:=Lh (hc.kept b1 hcl);have HX:=Lh (Box.new w (.int .i64 k) (.int .i64 n) (.string s) (.slice A li ci) (.slice K lk ck));have B1:=Lh b1;clear hA hr' hli hlk hK hks hn hs hk hc b1;by_cases l0:L=0
 ·subst l0
  have HV:Hid ((VT.mk k n s items keys).chk lit 0 r=none):=Lh (by simp [VT.chk])
  go_enter Tryz.func188, Tryz.ntmps188
  go_wp2_with fail
  go_ret
  exact ⟨by rw [HV.out]; rfl,B1.out.mono (by omega)⟩
 have l0':((L:Int)==0)=false:=by rw [beq_eq_false_iff_ne]; omega
 have l0'':decide (L=0)=false:=by simpa using l0
 have hLp:1<=L:=by omega
 by_cases h1:li<=r
 ·have HT:=Lh (take_yes c lit r li _ HC1.out h1 hr)
  have HC2:=Lh (HC1.out.set ((r-li:Nat):Int));have HX2:=HX.out.set (p:=⟨c,1,none⟩) (by show w.heap.size≠c; omega) (.int .i64 ((r-li:Nat):Int))
  obtain ⟨x0,x1,x2,x3,x4⟩:=HX2.cells;have HXH:=Lh HX2;have B2:Hid (Below c w ((w.alloc (.cells #[.int .i64 k,.int .i64 n,.string s,.slice A li ci,.slice K lk ck] 53 (0,0))).setCell ⟨c,1,none⟩ (.int .i64 ((r-li:Nat):Int)))):=Lh (Below.setCell (p:=⟨c,1,none⟩) (B1.out.mono (by omega:c<=w.heap.size)) (Nat.le_refl _) _)
  have S2:Hid (w.heap.size+1=((w.alloc (.cells #[.int .i64 k,.int .i64 n,.string s,.slice A li ci,.slice K lk ck] 53 (0,0))).setCell ⟨c,1,none⟩ (.int .i64 ((r-li:Nat):Int))).heap.size):=Lh (by simp [World.setCell])
  generalize (w.alloc (.cells #[.int .i64 k,.int .i64 n,.string s,.slice A li ci,.slice K lk ck] 53 (0,0))).setCell ⟨c,1,none⟩ (.int .i64 ((r-li:Nat):Int))=w2 at *;have HN:=Lh (node_any lit _ c _ w2 B _ HC2.out (HRD.out.kept (B2.out.mono hB)) (by have:=B2.out.size; omega))
  clear HX2;cases q:nodeB lit (.mk k n s items keys)
  ·have HV:Hid ((VT.mk k n s items keys).chk lit L r=none):=Lh (by simp only [VT.chk]; rw [if_neg l0,if_neg (by rw [q]; simp)])
   rw [q] at HN;clear l0 q
   go_enter Tryz.func188, Tryz.ntmps188
   go_wp2_with fail
   refine HT.out.mono ?_
   rintro e w' ⟨rfl,rfl⟩;go_wp2_with fail
   refine HN.out.mono ?_
   rintro e w' ⟨rfl,hb⟩;have HB3:=Lh (B2.out.trans (hb.mono (by have:=S2.out; omega)))
   clear hb;go_wp2_with fail
   go_ret
   exact ⟨by rw [HV.out]; rfl,HB3.out⟩
  ·have HV:Hid ((VT.mk k n s items keys).chk lit L r=VT.chks lit items (L-1) (r-li)):=Lh (by simp only [VT.chk]; rw [if_neg l0,if_pos ⟨by have:=HL.out; omega,q⟩,HL.out])
   rw [q] at HN;clear l0 q
   go_enter Tryz.func188, Tryz.ntmps188
   go_wp2_with fail
   refine HT.out.mono ?_
   rintro e w' ⟨rfl,rfl⟩;go_wp2_with fail
   refine HN.out.mono ?_
   rintro e w3 ⟨rfl,hb⟩;have hs3:=hb.size;have HB3:=Lh (B2.out.trans (hb.mono (by have:=S2.out; omega)))
   have HC3:=Lh (HC2.out.kept hb (by have:=S2.out; omega))
   obtain ⟨y0,y1,y2,y3,y4⟩:=(HXH.out.kept hb).cells;clear hb x0 x1 x2 x3 x4;go_wp2_with fail
   clear y0 y1 y2 y3 y4
   go_loopw [28] (fun i wr=>∃ (j rr:Nat),j<=li/\rr<=100000/\i=.int .i64 j/\VT.chks lit items (L-1) (r-li)=VT.chks lit (items.drop j) (L-1) rr/\Chk wr c lit rr/\Below c w wr) (fun i _=>li-(intOf i).toNat)
   case atStart=>exact ⟨0,r-li,Nat.zero_le _,by omega,rfl,rfl,HC3.out,HB3.out⟩
   case round =>
    obtain ⟨j,rr,hj,hrr,rfl,hch,hck,hb⟩:=hrel;have HCH:=Lh hch;have HCK:=Lh hck;have HB:=Lh hb;have hcl2:=hck.lt;clear hch hck;by_cases hlt:j<li
    ·obtain ⟨a,t,k1,n1,s1,A1,li1,ci1,K1,lk1,ck1,rfl,ht,e,hrd,h0,h1,h2,h3,h4⟩:=zk0 HA.out HR.out HL.out (hb.mono hB) hlt
     have HD:Hid (items.drop j=t::items.drop (j+1)):=Lh (by obtain ⟨h1,rfl⟩:=List.getElem?_eq_some_iff.1 ht; exact List.drop_eq_getElem_cons h1)
     have HI:Hid (Calls Tryz.prog 188 #[.pointer (some ⟨c,0,none⟩),V j,.int .i64 ((L-1:Nat):Int)] (wr.alloc (.cells #[.int .i64 k1,.int .i64 n1,.string s1,.slice A1 li1 ci1,.slice K1 lk1 ck1] 53 (0,0))) (yj7 _ c lit (t.chk lit (L-1) rr))) :=
      Lh (IH.out j t ht c (L-1) rr _ B _ (HCK.out.kept ((Below.refl _ _).alloc (Nat.le_refl _) _) hcl2) hrr (by omega) (hrd.kept ((Below.refl _ _).alloc (by omega) _)) hB)
     rw [e,show ((L-1:Nat):Int)=(L:Int)-1 by omega] at HI
     clear e hrd ht hb;go_wp2_with fail
     refine HI.out.mono ?_
     cases q:t.chk lit (L-1) rr with
     | none =>
       rintro e w4 ⟨rfl,hb4⟩;have HV2:Hid ((VT.mk k n s items keys).chk lit L r=none):=Lh (by rw [HV.out,HCH.out,HD.out,VT.chks,q])
       have HB4:=Lh ((HB.out.alloc (by omega) _).trans hb4)
       clear hb4 q;go_wp2_with fail
       go_ret
       exact ⟨by rw [HV2.out]; rfl,HB4.out⟩
     | some r' =>
       rintro e w4 ⟨⟨rfl,hck4⟩,hb4⟩;have HCH2:Hid (VT.chks lit items (L-1) (r-li)=VT.chks lit (items.drop (j+1)) (L-1) r'):=Lh (by rw [HCH.out,HD.out,VT.chks,q])
       have HB4:=Lh ((HB.out.alloc (by omega) _).trans hb4)
       have HCK4:=Lh hck4;have hr':=Lh (VT.chk_le q);clear hb4 q hck4;go_wp2_with fail
       go_roundw
       case rel=>exact ⟨j+1,r',by omega,by have:=hr'.out; omega,by go_num,HCH2.out,HCK4.out,HB4.out⟩
       case measure=>simp [intOf]; omega
    ·have HV2:Hid ((VT.mk k n s items keys).chk lit L r=some rr):=Lh (by rw [HV.out,HCH.out,List.drop_of_length_le (by have:=HL.out; omega)]; rfl)
     clear hb;go_wp2_with fail
     go_ret
     exact ⟨by rw [HV2.out]; exact ⟨rfl,HCK.out⟩,HB.out⟩
 ·have HV:Hid ((VT.mk k n s items keys).chk lit L r=none):=Lh (by simp only [VT.chk]; rw [if_neg l0,if_neg (by have:=HL.out; omega)])
  have HT:=Lh (take_no c lit r li _ HC1.out h1 hr);clear l0
  go_enter Tryz.func188, Tryz.ntmps188
  go_wp2_with fail
  refine HT.out.mono ?_
  rintro e w' ⟨rfl,rfl⟩;go_wp2_with fail
  go_ret
  exact ⟨by rw [HV.out]; rfl,B1.out.mono (by omega)⟩
mutual
def zb7 (lit:Bool):VT->Bool
 | .mk k n s is ks=>nodeB lit (.mk k n s is ks)&&ze6 lit is
def ze6 (lit:Bool):List VT->Bool
 | []=>true
 | t::u=>zb7 lit t&&ze6 lit u
end
theorem zQ9 (l:List VT):l.length<=VT.sizes l:=by
 induction l with
 | nil=>simp
 | cons t u ih =>
   have:1<=t.size:=by cases t; simp only [VT.size]; omega
   simp only [List.length_cons,VT.sizes]; omega
mutual
theorem VT.chk_eq (lit:Bool) (t:VT) (L r:Nat):t.chk lit L r=if zb7 lit t=true/\t.depth<=L/\t.size<=r+1 then some (r+1-t.size) else none:=by
 cases t with
 | mk k n s is ks =>
   simp only [VT.chk,VT.depth,VT.size,zb7,Bool.and_eq_true]
   have hg:=zQ9 is;by_cases l0:L=0
   ·rw [if_pos l0,if_neg (by omega)]
   ·rw [if_neg l0]
    by_cases h1:is.length<=r/\nodeB lit (.mk k n s is ks)=true
    ·rw [if_pos h1,VT.chks_eq lit is (L-1) (r-is.length)]
     by_cases h2:ze6 lit is=true/\VT.depths is<=L-1/\VT.sizes is<=r-is.length+is.length
     ·rw [if_pos h2,if_pos ⟨⟨h1.2,h2.1⟩,by omega,by omega⟩]; congr 1; omega
     ·rw [if_neg h2,if_neg (fun h=>h2 ⟨h.1.2,by omega,by omega⟩)]
    ·rw [if_neg h1,if_neg (fun h=>h1 ⟨by omega,h.1.1⟩)]
theorem VT.chks_eq (lit:Bool) (l:List VT) (L r:Nat):VT.chks lit l L r=if ze6 lit l=true/\VT.depths l<=L/\VT.sizes l<=r+l.length then some (r+l.length-VT.sizes l) else none:=by
 cases l with
 | nil=>simp [VT.chks,ze6,VT.depths,VT.sizes]
 | cons t u =>
   simp only [VT.chks,VT.depths,VT.sizes,ze6,Bool.and_eq_true,List.length_cons]
   have hg:=zQ9 u;rw [VT.chk_eq lit t L r];by_cases h1:zb7 lit t=true/\t.depth<=L/\t.size<=r+1
   ·rw [if_pos h1]
    show VT.chks lit u L (r+1-t.size)=_
    rw [VT.chks_eq lit u L (r+1-t.size)];by_cases h2:ze6 lit u=true/\VT.depths u<=L/\VT.sizes u<=r+1-t.size+u.length
    ·rw [if_pos h2,if_pos ⟨⟨h1.1,h2.1⟩,by omega,by omega⟩]; congr 1; omega
    ·rw [if_neg h2,if_neg (fun h=>h2 ⟨h.1.2,by omega,by omega⟩)]
   ·rw [if_neg h1,if_neg (fun h=>h1 ⟨h.1.1,by omega,by omega⟩)]
end
def zb9 (lit:Bool) (t:VT):Bool:=decide (t.size<=4096)&&decide (t.depth<=24)&&zb7 lit t
theorem yi6 (lit:Bool) (t:VT):(∃ r,t.chk lit 24 4095=some r/\zb9 lit t=true)∨(t.chk lit 24 4095=none/\zb9 lit t=false):=by
 rw [VT.chk_eq];unfold zb9;by_cases h:zb7 lit t=true/\t.depth<=24/\t.size<=4095+1
 ·exact .inl ⟨_,if_pos h,by simp [h.1]; omega⟩
 ·refine .inr ⟨if_neg h, ?_⟩
  cases q:zb7 lit t
  ·simp
  ·by_cases h2:t.size<=4096
   ·have h3:¬ t.depth<=24:=fun h3=>h ⟨q,h3,h2⟩
    simp [h3]
   ·simp [h2]
theorem zI0 (t:VT) (w:World) (B:Nat) (v:Value) (h:Rd w B v t) (hB:B<=w.heap.size) :
  Calls Tryz.prog 145 #[v] w fun e w'=>e=.returned (.bool (zb9 false t))/\Below w.heap.size w w':=by
 have HRD:=Lh h;obtain ⟨k,n,s,A,li,ci,K,lk,ck,rfl⟩:=h.shape;have b1:Below w.heap.size w ((w.alloc (.cells #[.int .i64 k,.int .i64 n,.string s,.slice A li ci,.slice K lk ck] 53 (0,0))).alloc (.cells #[.bool false,.int .i64 4095] 207 (0,0))):=((Below.refl _ _).alloc (Nat.le_refl _) _).alloc (by simp) _
 have hck:Chk ((w.alloc (.cells #[.int .i64 k,.int .i64 n,.string s,.slice A li ci,.slice K lk ck] 53 (0,0))).alloc (.cells #[.bool false,.int .i64 4095] 207 (0,0))) (w.heap.size+1) false 4095:=by
  have:=heap_alloc_new (w.alloc (.cells #[.int .i64 k,.int .i64 n,.string s,.slice A li ci,.slice K lk ck] 53 (0,0))) (.cells #[.bool false,.int .i64 4095] 207 (0,0));simpa [Chk] using this
 have HC:=Lh (yi7 false t (w.heap.size+1) 24 4095 _ B _ hck (by omega) (by omega) (h.kept (b1.mono hB)) (by omega))
 have B1:=Lh b1;clear b1 hck h;rcases yi6 false t with ⟨r,q,hv⟩ | ⟨q,hv⟩
 all_goals
  rw [q] at HC;have HV:=Lh hv;clear q hv
  go_enter Tryz.func145, Tryz.ntmps145
  go_wp2_with fail
  refine HC.out.mono ?_
  first
   | (rintro e w4 ⟨⟨rfl,_⟩,hb4⟩; have HB4:=Lh (B1.out.trans (hb4.mono (by omega))); clear hb4)
   | (rintro e w4 ⟨rfl,hb4⟩; have HB4:=Lh (B1.out.trans (hb4.mono (by omega))); clear hb4)
  go_wp2_with fail
  go_ret
  exact ⟨by rw [HV.out]; rfl,HB4.out⟩
theorem zO0 (t:VT) (w:World) (B:Nat) (v:Value) (h:Rd w B v t) (hB:B<=w.heap.size) :
  Calls Tryz.prog 144 #[v] w fun e w'=>e=.returned (.bool (zb9 true t))/\Below w.heap.size w w':=by
 have HRD:=Lh h;obtain ⟨k,n,s,A,li,ci,K,lk,ck,rfl⟩:=h.shape;have b1:Below w.heap.size w ((w.alloc (.cells #[.int .i64 k,.int .i64 n,.string s,.slice A li ci,.slice K lk ck] 53 (0,0))).alloc (.cells #[.bool true,.int .i64 4095] 207 (0,0))):=((Below.refl _ _).alloc (Nat.le_refl _) _).alloc (by simp) _
 have hck:Chk ((w.alloc (.cells #[.int .i64 k,.int .i64 n,.string s,.slice A li ci,.slice K lk ck] 53 (0,0))).alloc (.cells #[.bool true,.int .i64 4095] 207 (0,0))) (w.heap.size+1) true 4095:=by
  have:=heap_alloc_new (w.alloc (.cells #[.int .i64 k,.int .i64 n,.string s,.slice A li ci,.slice K lk ck] 53 (0,0))) (.cells #[.bool true,.int .i64 4095] 207 (0,0));simpa [Chk] using this
 have HC:=Lh (yi7 true t (w.heap.size+1) 24 4095 _ B _ hck (by omega) (by omega) (h.kept (b1.mono hB)) (by omega))
 have B1:=Lh b1;clear b1 hck h;rcases yi6 true t with ⟨r,q,hv⟩ | ⟨q,hv⟩
 all_goals
  rw [q] at HC;have HV:=Lh hv;clear q hv
  go_enter Tryz.func144, Tryz.ntmps144
  go_wp2_with fail
  refine HC.out.mono ?_
  first
   | (rintro e w4 ⟨⟨rfl,_⟩,hb4⟩; have HB4:=Lh (B1.out.trans (hb4.mono (by omega))); clear hb4)
   | (rintro e w4 ⟨rfl,hb4⟩; have HB4:=Lh (B1.out.trans (hb4.mono (by omega))); clear hb4)
  go_wp2_with fail
  go_ret
  exact ⟨by rw [HV.out]; rfl,HB4.out⟩
end Go.Proofs.YtfgelheiknmjgaaGreatDoor
