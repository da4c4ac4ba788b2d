
/-
 Texts joined: TextUnquote2 Shelf TextNumber KPure.
-/
import Derived.Test.YtfgelheiknmjgaaGreatDoorZr1
import Derived.Lib.BufferRead
import Derived.Shelf.Strings.Builder1
import Derived.Shelf.Strings.Builder2
import Derived.Shelf.Small.Utf8
import Derived.Shelf.Small.Strs
import Derived.Shelf.Small.Wraps
import Derived.Shelf.Strings.BuilderF
import Derived.Shelf.Strings.BuilderK
import Derived.Shelf.Strings.Builder2Cap
import Derived.Shelf.Strconv.Atoi
import Derived.Shelf.Strconv.Itoa0
import Derived.Shelf.Strconv.Itoa1
import Derived.Shelf.LaysM
import Derived.Shelf.Strconv.Itoa2
import Derived.Shelf.Strconv.Itoa3
import Derived.Shelf.Strconv.AtoiErrFast
import Derived.Shelf.Strconv.ParseIntEmpty
import Derived.Shelf.Strconv.AtoiFail
import Derived.Shelf.Strconv.Clone
import Derived.Shelf.Strconv.SyntaxError
import Derived.Shelf.LaysC
import Derived.Shelf.Strconv.ToError
import Derived.Shelf.Strconv.AtoiErr
import Derived.Shelf.Strconv.Lower
import Derived.Shelf.Strconv.ParseUint10
import Derived.Shelf.Strconv.ParseUint10Empty
import Derived.Shelf.Strconv.ParseUint10Any
import Derived.Shelf.Strconv.ParseInt10
import Derived.Shelf.Strconv.AtoiLong
import Derived.Shelf.Strconv.AtoiInnerAll
import Derived.Shelf.Strconv.RangeError
import Derived.Shelf.Strconv.ToErrorRange
import Derived.Shelf.Strconv.AtoiAll
import Derived.Shelf.Strconv.ErrVarAll
import Derived.Shelf.Strings.Search1
import Derived.Shelf.Strings.Prefix
import Derived.Shelf.Strings.Runes
import Derived.Shelf.Bits.Mul64
import Derived.Shelf.Strings.Repeat
import Derived.Shelf.Unicode.DecodeSlow
import Derived.Shelf.Unicode.DecodeAny
import Derived.Shelf.Strings.BuilderCap
import Derived.Shelf.Slices.Reverse
import Derived.Shelf.Slices.Equal
import Derived.Shelf.Slices.Cells
import Derived.Shelf.Slices.Empties2
import Derived.Test.YtfgelheiknmjgaaGreatDoorProg
import Derived.WalkSmall
import Derived.Lib.AppendIntMem
import Derived.Lib.AtoiErrMem
set_option maxRecDepth 1000000
set_option maxHeartbeats 8000000
namespace Go.Proofs.YtfgelheiknmjgaaGreatDoor.T1
open Go.RowKit
def unqF:Nat->List UInt8->Option (List UInt8)
 | 0,l=>if l=[] then some [] else none
 | f+1,l=>if l=[] then some [] else match stepL l with
   | none=>none
   | some (b,k)=>(unqF f (l.drop k)).map (b::·)
theorem ye8 {t:List UInt8} {b:UInt8} (h:numL4 t=some b):4<=t.length:=by
 unfold numL4 at h;by_cases e:okB t=true
 ·unfold okB at e; simp at e; exact e.1.1.1.1.1
 ·rw [if_neg e] at h; cases h
theorem zq2 {l:List UInt8} {b:UInt8} {k:Nat} (h:stepL l=some (b,k)):1<=k/\k<=l.length:=by
 cases l with
 | nil=>cases h
 | cons c r =>
   rw [zk6] at h;by_cases h1:c=34∨prB (c.toNat:Int)=false
   ·rw [if_pos h1] at h; cases h
   rw [if_neg h1] at h;by_cases h2:c≠92
   ·rw [if_pos h2] at h; cases h; simp
   rw [if_neg h2] at h
   cases r with
   | nil=>cases h
   | cons d t =>
     simp only at h
     by_cases h3:d=117
     ·rw [if_pos h3] at h
      obtain ⟨x,hx,e⟩:=Option.map_eq_some_iff.1 h;have:=ye8 hx;cases e; simp; omega
     ·rw [if_neg h3] at h
      obtain ⟨x,hx,e⟩:=Option.map_eq_some_iff.1 h;cases e; simp
theorem zp7:∀ (f:Nat) (l:List UInt8),l.length<=f->unqF f l=unqF l.length l
 | 0,l,h=>by
   have:l=[]:=List.eq_nil_of_length_eq_zero (by omega)
   subst this; rfl
 | f+1,[],_=>rfl
 | f+1,c::r,h=>by
   rw [List.length_cons];unfold unqF;rw [if_neg (by simp),if_neg (by simp)]
   cases hs:stepL (c::r) with
   | none=>rfl
   | some p =>
     obtain ⟨b,k⟩:=p;have hk:=zq2 hs;have hl:((c::r).drop k).length<=r.length:=by rw [List.length_drop,List.length_cons]; omega
     simp only
     rw [zp7 f _ (by rw [List.length_cons] at h; omega),zp7 r.length _ hl]
def unqR (l:List UInt8):Option (List UInt8):=unqF l.length l
theorem unqR_nil:unqR []=some []:=rfl
theorem zH1 {l:List UInt8} {b:UInt8} {k:Nat} (h:stepL l=some (b,k)):unqR l=(unqR (l.drop k)).map (b::·):=by
 cases l with
 | nil=>cases h
 | cons c r =>
   have hk:=zq2 h;unfold unqR;rw [List.length_cons]
   conv=>lhs; unfold unqF
   rw [if_neg (by simp),h]
   simp only
   rw [zp7 r.length _ (by rw [List.length_drop,List.length_cons]; omega)]
theorem unqR_bad {l:List UInt8} (h0:l≠[]) (h:stepL l=none):unqR l=none:=by
 cases l with
 | nil=>exact absurd rfl h0
 | cons c r =>
   unfold unqR;rw [List.length_cons];unfold unqF;rw [if_neg (by simp),h]
def midL (l:List UInt8):List UInt8:=(l.drop 1).take (l.length-2)
def zc7 (l:List UInt8):Option (List UInt8):=if 2<=l.length/\l.getD 0 0=34/\l.getD (l.length-1) 0=34 then unqR (midL l) else none
def uq2:Option (List UInt8)->Value
 | some l=>.tuple #[.string ⟨l.toArray⟩,.int .i64 0]
 | none=>.tuple #[.string ⟨#[]⟩,.int .i64 3]
def yj4 (o:Option (List UInt8)) (w:World) (e:Ending) (w':World):Prop:=e=.returned (uq2 o)/\Below w.heap.size w w'
def UnqAt (l done rest:List UInt8):Prop:=unqR l=(unqR rest).map (done++·)
theorem zM5 (l:List UInt8):UnqAt l [] l:=by unfold UnqAt; simp
theorem zU1 {l done rest:List UInt8} {b:UInt8} {k:Nat} (h:UnqAt l done rest) (hs:stepL rest=some (b,k)):UnqAt l (done++[b]) (rest.drop k):=by
 unfold UnqAt at h ⊢;rw [h,zH1 hs,Option.map_map]
 congr 1
 funext x; simp
theorem zZ4 {l done rest:List UInt8} (h:UnqAt l done rest) (h0:rest≠[]) (hs:stepL rest=none):unqR l=none:=by
 unfold UnqAt at h; rw [h,unqR_bad h0 hs]; rfl
theorem zZ3 {l done rest:List UInt8} (h:UnqAt l done rest) (h0:rest=[]):unqR l=some done:=by
 unfold UnqAt at h; rw [h,h0,unqR_nil]; simp
theorem OwnB.string' {w:World} {base:Nat} {v:Value} {l:List UInt8} (h:OwnB w base v l):(convert 73 9 v).run Tryz.prog w=.ok (.string ⟨l.toArray⟩) w:=by
 by_cases h0:0<l.length
 ·exact h.string h0
 have e:l=[]:=List.eq_nil_of_length_eq_zero (by omega)
 subst e;rcases h.2 with ⟨rfl,_⟩ | ⟨g,cap,cur,rfl,_⟩
 ·exact Lib.run_convert_nil_bytes w _ _ _ _ Tryz.underlying73 Tryz.underlying5 Tryz.underlying9
 ·exact run_convert_bytes_back w _ _ _ _ cap [] Tryz.underlying73 Tryz.underlying5 Tryz.underlying9 (fun j hj=>absurd hj (by simp))
def strLen:Value->Nat
 | .string s=>s.size
 | _=>0
theorem mid_of (s:ByteArray):(s.extract 1 (s.size-1)).data.toList=midL s.data.toList:=by
 rw [Lib.extract_data]; unfold midL; rw [size_eq]; rfl
theorem zT9 (s:ByteArray) (w:World) (hs:s.size<=maxLen) (h:¬ (2<=s.size/\s.data.toList.getD 0 0=34/\s.data.toList.getD (s.size-1) 0=34)) :
  Calls Tryz.prog 159 #[.string s] w (yj4 (zc7 s.data.toList) w):=by
 have e:zc7 s.data.toList=none:=by unfold zc7; rw [size_eq,if_neg h]
 rw [e];unfold maxLen at hs;by_cases h2:2<=s.size
 ·have h0':0<s.size:=by omega
  have h1':s.size-1<s.size:=by omega
  rw [zt4 s 0 h0',zt4 s (s.size-1) h1'] at h;by_cases ha:s[0]=34
  ·have hb:s[s.size-1]≠34:=fun e=>h ⟨h2,ha,e⟩
   have g1:((s[0].toNat:Int) != 34)=false:=by rw [ha]; rfl
   have g2:((s[s.size-1].toNat:Int) != 34)=true:=by
    have:=u8_ne hb;rw [bne]; rw [show ((s[s.size-1].toNat:Int)==34)=false from this]; rfl
   clear h ha hb;go_enter Tryz.func159,Tryz.ntmps159
   go_wp2_with fail
   go_ret2
   exact ⟨rfl,Below.refl _ _⟩
  ·have g1:((s[0].toNat:Int) != 34)=true:=by
    have:=u8_ne ha;rw [bne]; rw [show ((s[0].toNat:Int)==34)=false from this]; rfl
   clear h ha;go_enter Tryz.func159,Tryz.ntmps159
   go_wp2_with fail
   go_ret2
   exact ⟨rfl,Below.refl _ _⟩
 ·have h2':(s.size:Int)<2:=by omega
  clear h h2;go_enter Tryz.func159,Tryz.ntmps159
  go_wp2_with fail
  go_ret2
  exact ⟨rfl,Below.refl _ _⟩
theorem zM3 (s:ByteArray) (w:World) (hs:s.size<=137438953472) (h2:2<=s.size) (ha:s.data.toList.getD 0 0=34) (hb:s.data.toList.getD (s.size-1) 0=34) :
  Calls Tryz.prog 159 #[.string s] w (yj4 (zc7 s.data.toList) w):=by
 have e:zc7 s.data.toList=unqR (midL s.data.toList):=by unfold zc7; rw [size_eq,if_pos ⟨h2,ha,hb⟩]
 rw [e];clear e;have h0':0<s.size:=by omega
 have h1':s.size-1<s.size:=by omega
 rw [zt4 s 0 h0'] at ha;rw [zt4 s (s.size-1) h1'] at hb;have g1:((s[0].toNat:Int) != 34)=false:=by rw [ha]; rfl
 have g2:((s[s.size-1].toNat:Int) != 34)=false:=by rw [hb]; rfl
 clear ha hb;obtain ⟨i0,hi,hz0,hz1,hz2⟩:=info_parts info5;go_enter Tryz.func159,Tryz.ntmps159
 go_wp2_with (refine wpList_make_own _ rfl _ _ 73 rfl w.heap.size 5 i0 (.int .u8 0) 1 Tryz.underlying73 hi hz0 hz1 _ _ _ (s.size-1-1) rfl rfl rfl ?_ ?_ ?_ ?_)
 ·rw [hz2]; omega
 ·unfold maxLen; omega
 ·exact Nat.le_refl _
 intro w1 hown1 hg1;have hown1:OwnB w1 w.heap.size _ []:=hown1;have hb1:Below w.heap.size w w1:=(Below.refl _ _).grown hg1 (Nat.le_refl _) (by simp)
 clear hg1;have hml:(s.extract 1 (s.size-1)).size<=s.size:=by
  rw [<- size_eq,mid_of, <- size_eq s]; unfold midL; rw [List.length_take,List.length_drop]; omega
 have hat:UnqAt (midL s.data.toList) [] (s.extract 1 (s.size-1)).data.toList:=by rw [mid_of]; exact zM5 _
 generalize s.extract 1 (s.size-1)=m at *;generalize midL s.data.toList=l at *
 go_wp2
 go_loopw [4,5] (fun c v wr=>∃ (r:ByteArray) (done:List UInt8),r.size+done.length<=s.size/\c=.string r/\OwnB wr w.heap.size v done/\UnqAt l done r.data.toList/\Below w.heap.size w wr) (fun c _ _=>strLen c)
 case atStart=>exact ⟨m,[],by simpa using hml,rfl,hown1,hat,hb1⟩
 case round =>
  obtain ⟨r,done,hrd,rfl,hown,hq,hb⟩:=hrel;have hsz:=hb.size;clear hown1 hb1 hml hat
  by_cases h0:r.size=0
  ·have H:=Lh (zZ3 hq (List.eq_nil_of_length_eq_zero (by rw [size_eq]; exact h0)))
   have e1:(!r.toList.isEmpty)=false:=by rw [zr2 h0]; rfl
   have e2:r.toList=[]:=zr2 h0;have hcv:=hown.string';clear hq hown h0
   go_wp2
   go_ret2
   exact ⟨by rw [H.out]; rfl,hb⟩
  have h0':0<r.size:=by omega
  have e1:(!r.toList.isEmpty)=true:=by rw [zc8 h0']; rfl
  have e2:r.toList≠[]:=zd5 h0';clear h0;go_wp2_with fail
  refine (zy7 _ _ h0' (by unfold maxLen; omega)).mono ?_
  cases hs:stepL r.data.toList with
  | none =>
    rintro e w2 ⟨rfl,rfl⟩;have H:=Lh (zZ4 hq (by intro e; have:=size_eq r; rw [e] at this; simp at this; omega) hs)
    clear hs hq;unfold fb2
    go_wp2
    go_ret2
    exact ⟨by rw [H.out]; rfl,hb⟩
  | some p =>
    obtain ⟨b,k⟩:=p;have hk:=zq2 hs;rw [size_eq] at hk;obtain ⟨k1,k2⟩:=hk;have H:=Lh (zU1 hq hs);have k0:((k:Int)==0)=false:=by rw [beq_eq_false_iff_ne]; omega
    rintro e w2 ⟨rfl,rfl⟩;clear hs hq;unfold fb2;go_wp2_with (at_builtin; refine append_B rfl _ _ rfl w.heap.size _ _ rfl (hown.alloc _) _ _ [b] rfl (yi9 _ _ _ [b] rfl) ?_ ?_ ?_)
    ·simp; omega
    ·simp; omega
    intro v3 w3 hown3 hg3;have hb3:Below w.heap.size w w3:=(hb.alloc hsz _).grown hg3 (by simp; omega) (by intro j hj; have:=hown.lt j hj; omega)
    clear hg3 hown hb hsz;have hdr:=Lh (zP5 r k);have hds:(r.extract k r.size).size=r.size-k:=by rw [<- size_eq,hdr.out,List.length_drop,size_eq]
    have HDS:=Lh hds;clear hds
    go_wp2
    go_roundw
    case rel=>exact ⟨r.extract k r.size,done++[b],by rw [HDS.out,List.length_append]; simp; omega,rfl,hown3,by rw [hdr.out]; exact H.out,hb3⟩
    case measure=>show (r.extract k r.size).size<r.size; rw [HDS.out]; omega
theorem zM4 (s:ByteArray) (w:World) (hs:s.size<=137438953472) :
  Calls Tryz.prog 159 #[.string s] w (yj4 (zc7 s.data.toList) w):=by
 by_cases h:2<=s.size/\s.data.toList.getD 0 0=34/\s.data.toList.getD (s.size-1) 0=34
 ·exact zM3 s w hs h.1 h.2.1 h.2.2
 ·exact zT9 s w (by unfold maxLen; omega) h
end Go.Proofs.YtfgelheiknmjgaaGreatDoor.T1
namespace Go.Proofs
open Go.Shelf
def Tryz.lays119_ren:Go.Shelf.Ren:=⟨fun | 119=>193 | n=>n,fun | 21=>21 | 4=>4 | n=>n,fun | n=>n⟩
theorem Tryz.lays119:Go.Proofs.Lays.n119 Tryz.prog Tryz.lays119_ren:={
 mixed:=by kernel_rfl
 f119:=Tryz.func193.trans (congrArg some (by kernel_rfl))
 t4:=Tryz.underlying4
 a4:=Tryz.isAgg4
 z4:=Tryz.sizeOf4
 v4:=Tryz.zeroValue4
 t21:=Tryz.underlying21
 a21:=Tryz.isAgg21
 z21:=Tryz.sizeOf21
 v21:=Tryz.zeroValue21 }
theorem Tryz.utf8_ValidRune (r:Int) (w:World) :
  Calls Tryz.prog 193 #[.int .i32 r] w fun e w'=>e=.returned (.bool (Lib.validRune r))/\w'=w:=Any.utf8_ValidRune Tryz.lays119 r w
def Tryz.lays137_ren:Go.Shelf.Ren:=⟨fun | 137=>192 | 217=>228 | 266=>246 | n=>n,fun | 9=>9 | 5=>5 | 3=>3 | n=>n,fun | n=>n⟩
theorem Tryz.lays137:Go.Proofs.Lays.n137 Tryz.prog Tryz.lays137_ren:={
 mixed:=by kernel_rfl
 f137:=Tryz.func192.trans (congrArg some (by kernel_rfl))
 f217:=Tryz.func228.trans (congrArg some (by kernel_rfl))
 f266:=Tryz.func246.trans (congrArg some (by kernel_rfl))
 t3:=Tryz.underlying3
 a3:=Tryz.isAgg3
 z3:=Tryz.sizeOf3
 v3:=Tryz.zeroValue3
 t5:=Tryz.underlying5
 a5:=Tryz.isAgg5
 z5:=Tryz.sizeOf5
 v5:=Tryz.zeroValue5
 t9:=Tryz.underlying9
 a9:=Tryz.isAgg9
 z9:=Tryz.sizeOf9
 v9:=Tryz.zeroValue9 }
open Go.RowKit in
theorem Tryz.strings_IndexByte (s:ByteArray) (c:Int) (w:World) :
  Calls Tryz.prog 192 #[.string s,.int .u8 c] w fun e w'=>e=.returned (.int .i64 (Lib.indexByte s.data.toList c.toNat.toUInt8))/\w'=w:=Any.strings_IndexByte Tryz.lays137 s c w
def Tryz.laysC172_ren:Go.Shelf.Ren:=⟨fun | 172=>198 | 244=>230 | 245=>231 | 247=>248 | 279=>249 | 280=>250 | 281=>251 | 282=>252 | 287=>268 | 316=>269 | 171=>173 | 205=>270 | 321=>281 | 322=>282 | 243=>206 | 246=>236 | 283=>262 | 284=>263 | 285=>264 | 286=>265 | 129=>277 | 317=>276 | 318=>278 | 319=>279 | 320=>280 | 337=>283 | 338=>284 | n=>n,fun | 9=>9 | 3=>3 | 75=>163 | 76=>164 | 4=>4 | 5=>5 | 167=>254 | 37=>73 | 0=>0 | 85=>255 | 2=>2 | 168=>257 | 53=>251 | 175=>269 | 46=>211 | 210=>272 | 127=>121 | 145=>283 | 143=>281 | 21=>21 | 171=>264 | 173=>267 | 212=>278 | 51=>248 | 20=>20 | 213=>279 | 232=>285 | 233=>286 | 80=>81 | n=>n,fun | 15=>3 | 16=>4 | 17=>5 | 18=>6 | 19=>7 | n=>n⟩
theorem Tryz.laysC172:Go.Proofs.LaysC.n172 Tryz.prog Tryz.laysC172_ren:={
 mixed:=by kernel_rfl
 f129:=Tryz.func277.trans (congrArg some (by kernel_rfl))
 f171:=Tryz.func173.trans (congrArg some (by kernel_rfl))
 f172:=Tryz.func198.trans (congrArg some (by kernel_rfl))
 f205:=Tryz.func270.trans (congrArg some (by kernel_rfl))
 f243:=Tryz.func206.trans (congrArg some (by kernel_rfl))
 f244:=Tryz.func230.trans (congrArg some (by kernel_rfl))
 f245:=Tryz.func231.trans (congrArg some (by kernel_rfl))
 f246:=Tryz.func236.trans (congrArg some (by kernel_rfl))
 f247:=Tryz.func248.trans (congrArg some (by kernel_rfl))
 f279:=Tryz.func249.trans (congrArg some (by kernel_rfl))
 f280:=Tryz.func250.trans (congrArg some (by kernel_rfl))
 f281:=Tryz.func251.trans (congrArg some (by kernel_rfl))
 f282:=Tryz.func252.trans (congrArg some (by kernel_rfl))
 f283:=Tryz.func262.trans (congrArg some (by kernel_rfl))
 f284:=Tryz.func263.trans (congrArg some (by kernel_rfl))
 f285:=Tryz.func264.trans (congrArg some (by kernel_rfl))
 f286:=Tryz.func265.trans (congrArg some (by kernel_rfl))
 f287:=Tryz.func268.trans (congrArg some (by kernel_rfl))
 f316:=Tryz.func269.trans (congrArg some (by kernel_rfl))
 f317:=Tryz.func276.trans (congrArg some (by kernel_rfl))
 f318:=Tryz.func278.trans (congrArg some (by kernel_rfl))
 f319:=Tryz.func279.trans (congrArg some (by kernel_rfl))
 f320:=Tryz.func280.trans (congrArg some (by kernel_rfl))
 f321:=Tryz.func281.trans (congrArg some (by kernel_rfl))
 f322:=Tryz.func282.trans (congrArg some (by kernel_rfl))
 f337:=Tryz.func283.trans (congrArg some (by kernel_rfl))
 f338:=Tryz.func284.trans (congrArg some (by kernel_rfl))
 t0:=Tryz.underlying0
 a0:=Tryz.isAgg0
 z0:=Tryz.sizeOf0
 v0:=Tryz.zeroValue0
 t2:=Tryz.underlying2
 a2:=Tryz.isAgg2
 z2:=Tryz.sizeOf2
 v2:=Tryz.zeroValue2
 t3:=Tryz.underlying3
 a3:=Tryz.isAgg3
 z3:=Tryz.sizeOf3
 v3:=Tryz.zeroValue3
 t4:=Tryz.underlying4
 a4:=Tryz.isAgg4
 z4:=Tryz.sizeOf4
 v4:=Tryz.zeroValue4
 t5:=Tryz.underlying5
 a5:=Tryz.isAgg5
 z5:=Tryz.sizeOf5
 v5:=Tryz.zeroValue5
 t9:=Tryz.underlying9
 a9:=Tryz.isAgg9
 z9:=Tryz.sizeOf9
 v9:=Tryz.zeroValue9
 t20:=Tryz.underlying20
 a20:=Tryz.isAgg20
 z20:=Tryz.sizeOf20
 v20:=Tryz.zeroValue20
 t21:=Tryz.underlying21
 a21:=Tryz.isAgg21
 z21:=Tryz.sizeOf21
 v21:=Tryz.zeroValue21
 t37:=Tryz.underlying73
 a37:=Tryz.isAgg73
 z37:=Tryz.sizeOf73
 v37:=Tryz.zeroValue73
 t46:=Tryz.underlying211
 a46:=Tryz.isAgg211
 z46:=Tryz.sizeOf211
 v46:=Tryz.zeroValue211
 t51:=Tryz.underlying248
 a51:=Tryz.isAgg248
 z51:=Tryz.sizeOf248
 v51:=Tryz.zeroValue248
 t53:=Tryz.underlying251
 a53:=Tryz.isAgg251
 z53:=Tryz.sizeOf251
 v53:=Tryz.zeroValue251
 t75:=Tryz.underlying163
 a75:=Tryz.isAgg163
 z75:=Tryz.sizeOf163
 v75:=Tryz.zeroValue163
 t76:=Tryz.underlying164
 a76:=Tryz.isAgg164
 z76:=Tryz.sizeOf164
 v76:=Tryz.zeroValue164
 t85:=Tryz.underlying255
 a85:=Tryz.isAgg255
 z85:=Tryz.sizeOf255
 v85:=Tryz.zeroValue255
 t127:=Tryz.underlying121
 a127:=Tryz.isAgg121
 z127:=Tryz.sizeOf121
 v127:=Tryz.zeroValue121
 t143:=Tryz.underlying281
 a143:=Tryz.isAgg281
 z143:=Tryz.sizeOf281
 v143:=Tryz.zeroValue281
 t145:=Tryz.underlying283
 a145:=Tryz.isAgg283
 z145:=Tryz.sizeOf283
 v145:=Tryz.zeroValue283
 t167:=Tryz.underlying254
 a167:=Tryz.isAgg254
 z167:=Tryz.sizeOf254
 v167:=Tryz.zeroValue254
 t168:=Tryz.underlying257
 a168:=Tryz.isAgg257
 z168:=Tryz.sizeOf257
 v168:=Tryz.zeroValue257
 t171:=Tryz.underlying264
 a171:=Tryz.isAgg264
 z171:=Tryz.sizeOf264
 v171:=Tryz.zeroValue264
 t173:=Tryz.underlying267
 a173:=Tryz.isAgg267
 z173:=Tryz.sizeOf267
 v173:=Tryz.zeroValue267
 t175:=Tryz.underlying269
 a175:=Tryz.isAgg269
 z175:=Tryz.sizeOf269
 v175:=Tryz.zeroValue269
 t210:=Tryz.underlying272
 a210:=Tryz.isAgg272
 z210:=Tryz.sizeOf272
 v210:=Tryz.zeroValue272
 t212:=Tryz.underlying278
 a212:=Tryz.isAgg278
 z212:=Tryz.sizeOf278
 v212:=Tryz.zeroValue278
 t213:=Tryz.underlying279
 a213:=Tryz.isAgg279
 z213:=Tryz.sizeOf279
 t232:=Tryz.underlying285
 a232:=Tryz.isAgg285
 z232:=Tryz.sizeOf285
 v232:=Tryz.zeroValue285
 t233:=Tryz.underlying286
 a233:=Tryz.isAgg286
 z233:=Tryz.sizeOf286
 v233:=Tryz.zeroValue286
 g15:=by kernel_rfl
 g16:=by kernel_rfl
 g17:=by kernel_rfl
 g18:=by kernel_rfl
 g19:=by kernel_rfl
 t80:=Tryz.underlying81
 a80:=Tryz.isAgg81
 z80:=Tryz.sizeOf81
 v80:=Tryz.zeroValue81
 i0:=by kernel_rfl
 i2:=by kernel_rfl
 i3:=by kernel_rfl
 i4:=by kernel_rfl
 i5:=by kernel_rfl
 i9:=by kernel_rfl
 i20:=by kernel_rfl
 i21:=by kernel_rfl
 i37:=by kernel_rfl
 i46:=by kernel_rfl
 i51:=by kernel_rfl
 i53:=by kernel_rfl
 i75:=by kernel_rfl
 i76:=by kernel_rfl
 i80:=by kernel_rfl
 i85:=by kernel_rfl
 i127:=by kernel_rfl
 i143:=by kernel_rfl
 i145:=by kernel_rfl
 i167:=by kernel_rfl
 i168:=by kernel_rfl
 i171:=by kernel_rfl
 i173:=by kernel_rfl
 i175:=by kernel_rfl
 i210:=by kernel_rfl
 i212:=by kernel_rfl
 i232:=by kernel_rfl
 i233:=by kernel_rfl
 m15:=by kernel_rfl
 m16:=by kernel_rfl
 m17:=by kernel_rfl
 m18:=by kernel_rfl
 m19:=by kernel_rfl
 c0:=by kernel_rfl
 c2:=by kernel_rfl
 c3:=by kernel_rfl
 c4:=by kernel_rfl
 c5:=by kernel_rfl
 c9:=by kernel_rfl
 c20:=by kernel_rfl
 c21:=by kernel_rfl
 c37:=by kernel_rfl
 c46:=by kernel_rfl
 c51:=by kernel_rfl
 c53:=by kernel_rfl
 c75:=by kernel_rfl
 c76:=by kernel_rfl
 c80:=by kernel_rfl
 c85:=by kernel_rfl
 c127:=by kernel_rfl
 c143:=by kernel_rfl
 c145:=by kernel_rfl
 c167:=by kernel_rfl
 c168:=by kernel_rfl
 c171:=by kernel_rfl
 c173:=by kernel_rfl
 c175:=by kernel_rfl
 c210:=by kernel_rfl
 c212:=by kernel_rfl
 c213:=by kernel_rfl
 c232:=by kernel_rfl
 c233:=by kernel_rfl }
open Go.RowKit in
theorem Tryz.strconv_Atoi_ok (s:ByteArray) (hmax:s.size<=9223372036854775806) (v:Int) (h:Lib.atoiAll s.data.toList=.ok v) (w:World) :
  Calls Tryz.prog 198 #[.string s] w fun e w'=>e=.returned (.tuple #[.int .i64 v,.nilIface])/\(w'=w∨∃ t,w'=Lib.bytesWorld w 5 t):=Any.strconv_Atoi_ok Tryz.laysC172 s hmax v h w
open Go.RowKit in
theorem Tryz.strconv_Atoi_range (s:ByteArray) (hlim:s.size<=281474976710656) (h:Lib.atoiAll s.data.toList=.range) (ev:Value) (w:World) (hv:w.cell? ⟨4,0,none⟩=some ev) (hev:ev=.nilIface∨∃ te pe,ev=.iface te pe) :
  Calls Tryz.prog 198 #[.string s] w fun e w'=>∃ N,e=.returned (.tuple #[.int .i64 (Lib.atoiSat s.data.toList),.iface 257 (.pointer (some ⟨N,0,none⟩))])/\w.heap.size<=N/\w'.heap[N]?=some (.cells #[.string ⟨#[65,116,111,105]⟩,.string s,ev] 272 (0,0))/\Below w.heap.size w w':=Any.strconv_Atoi_range Tryz.laysC172 s hlim h ev w hv hev
def Tryz.lays99_ren:Go.Shelf.Ren:=⟨fun | 99=>107 | 206=>155 | n=>n,fun | 9=>9 | 4=>4 | 3=>3 | n=>n,fun | n=>n⟩
theorem Tryz.lays99:Go.Proofs.Lays.n99 Tryz.prog Tryz.lays99_ren:={
 mixed:=by kernel_rfl
 f99:=Tryz.func107.trans (congrArg some (by kernel_rfl))
 f206:=Tryz.func155.trans (congrArg some (by kernel_rfl))
 t3:=Tryz.underlying3
 a3:=Tryz.isAgg3
 z3:=Tryz.sizeOf3
 v3:=Tryz.zeroValue3
 t4:=Tryz.underlying4
 a4:=Tryz.isAgg4
 z4:=Tryz.sizeOf4
 v4:=Tryz.zeroValue4
 t9:=Tryz.underlying9
 a9:=Tryz.isAgg9
 z9:=Tryz.sizeOf9
 v9:=Tryz.zeroValue9 }
open Go.RowKit Go.Lib in
theorem Tryz.strings_HasPrefix (s p:ByteArray) (w:World) :
  Calls Tryz.prog 107 #[.string s,.string p] w fun e w'=>e=.returned (.bool (Lib.hasPrefix s.data.toList p.data.toList))/\w'=w:=Any.strings_HasPrefix Tryz.lays99 s p w
def Tryz.lays101_ren:Go.Shelf.Ren:=⟨fun | 101=>229 | 208=>247 | 206=>155 | n=>n,fun | 9=>9 | 4=>4 | 3=>3 | n=>n,fun | n=>n⟩
theorem Tryz.lays101:Go.Proofs.Lays.n101 Tryz.prog Tryz.lays101_ren:={
 mixed:=by kernel_rfl
 f101:=Tryz.func229.trans (congrArg some (by kernel_rfl))
 f206:=Tryz.func155.trans (congrArg some (by kernel_rfl))
 f208:=Tryz.func247.trans (congrArg some (by kernel_rfl))
 t3:=Tryz.underlying3
 a3:=Tryz.isAgg3
 z3:=Tryz.sizeOf3
 v3:=Tryz.zeroValue3
 t4:=Tryz.underlying4
 a4:=Tryz.isAgg4
 z4:=Tryz.sizeOf4
 v4:=Tryz.zeroValue4
 t9:=Tryz.underlying9
 a9:=Tryz.isAgg9
 z9:=Tryz.sizeOf9
 v9:=Tryz.zeroValue9 }
open Go.RowKit Go.Lib in
theorem Tryz.strings_TrimPrefix (s p:ByteArray) (w:World) :
  Calls Tryz.prog 229 #[.string s,.string p] w fun e w'=>e=.returned (.string ⟨(Lib.trimPrefix s.data.toList p.data.toList).toArray⟩)/\w'=w:=Any.strings_TrimPrefix Tryz.lays101 s p w
def Tryz.lays151_ren:Go.Shelf.Ren:=⟨fun | 151=>106 | 152=>154 | 137=>192 | 119=>193 | 224=>194 | 225=>195 | 217=>228 | 266=>246 | n=>n,fun | 9=>9 | 21=>21 | 4=>4 | 3=>3 | 5=>5 | 0=>0 | 46=>211 | n=>n,fun | n=>n⟩
theorem Tryz.lays151:Go.Proofs.Lays.n151 Tryz.prog Tryz.lays151_ren:={
 mixed:=by kernel_rfl
 f119:=Tryz.func193.trans (congrArg some (by kernel_rfl))
 f137:=Tryz.func192.trans (congrArg some (by kernel_rfl))
 f151:=Tryz.func106.trans (congrArg some (by kernel_rfl))
 f152:=Tryz.func154.trans (congrArg some (by kernel_rfl))
 f217:=Tryz.func228.trans (congrArg some (by kernel_rfl))
 f224:=Tryz.func194.trans (congrArg some (by kernel_rfl))
 f225:=Tryz.func195.trans (congrArg some (by kernel_rfl))
 f266:=Tryz.func246.trans (congrArg some (by kernel_rfl))
 t0:=Tryz.underlying0
 a0:=Tryz.isAgg0
 z0:=Tryz.sizeOf0
 v0:=Tryz.zeroValue0
 t3:=Tryz.underlying3
 a3:=Tryz.isAgg3
 z3:=Tryz.sizeOf3
 v3:=Tryz.zeroValue3
 t4:=Tryz.underlying4
 a4:=Tryz.isAgg4
 z4:=Tryz.sizeOf4
 v4:=Tryz.zeroValue4
 t5:=Tryz.underlying5
 a5:=Tryz.isAgg5
 z5:=Tryz.sizeOf5
 v5:=Tryz.zeroValue5
 t9:=Tryz.underlying9
 a9:=Tryz.isAgg9
 z9:=Tryz.sizeOf9
 v9:=Tryz.zeroValue9
 t21:=Tryz.underlying21
 a21:=Tryz.isAgg21
 z21:=Tryz.sizeOf21
 v21:=Tryz.zeroValue21
 t46:=Tryz.underlying211
 a46:=Tryz.isAgg211
 z46:=Tryz.sizeOf211
 v46:=Tryz.zeroValue211 }
open Go.RowKit Go.Lib in
theorem Tryz.strings_ContainsRune_ascii (s:ByteArray) (r:Int) (w:World) (h0:0<=r) (h1:r<128) :
  Calls Tryz.prog 106 #[.string s,.int .i32 r] w fun e w'=>e=.returned (.bool (decide (0<=Lib.indexByte s.data.toList r.toNat.toUInt8)))/\w'=w:=Any.strings_ContainsRune_ascii Tryz.lays151 s r w h0 h1
def Tryz.lays260_ren:Go.Shelf.Ren:=⟨fun | 260=>153 | n=>n,fun | 9=>9 | 21=>21 | 3=>3 | 4=>4 | 5=>5 | 119=>210 | 0=>0 | 46=>211 | 139=>214 | 138=>213 | n=>n,fun | 3=>0 | 4=>1 | n=>n⟩
theorem Tryz.lays260:Go.Proofs.Lays.n260 Tryz.prog Tryz.lays260_ren:={
 mixed:=by kernel_rfl
 f260:=Tryz.func153.trans (congrArg some (by kernel_rfl))
 t0:=Tryz.underlying0
 a0:=Tryz.isAgg0
 z0:=Tryz.sizeOf0
 v0:=Tryz.zeroValue0
 t3:=Tryz.underlying3
 a3:=Tryz.isAgg3
 z3:=Tryz.sizeOf3
 v3:=Tryz.zeroValue3
 t4:=Tryz.underlying4
 a4:=Tryz.isAgg4
 z4:=Tryz.sizeOf4
 v4:=Tryz.zeroValue4
 t5:=Tryz.underlying5
 a5:=Tryz.isAgg5
 z5:=Tryz.sizeOf5
 v5:=Tryz.zeroValue5
 t9:=Tryz.underlying9
 a9:=Tryz.isAgg9
 z9:=Tryz.sizeOf9
 v9:=Tryz.zeroValue9
 t21:=Tryz.underlying21
 a21:=Tryz.isAgg21
 z21:=Tryz.sizeOf21
 v21:=Tryz.zeroValue21
 t46:=Tryz.underlying211
 a46:=Tryz.isAgg211
 z46:=Tryz.sizeOf211
 v46:=Tryz.zeroValue211
 t119:=Tryz.underlying210
 a119:=Tryz.isAgg210
 z119:=Tryz.sizeOf210
 t138:=Tryz.underlying213
 a138:=Tryz.isAgg213
 z138:=Tryz.sizeOf213
 v138:=Tryz.zeroValue213
 t139:=Tryz.underlying214
 a139:=Tryz.isAgg214
 z139:=Tryz.sizeOf214
 v139:=Tryz.zeroValue214
 g3:=by kernel_rfl
 g4:=by kernel_rfl }
def Tryz.lays197_ren:Go.Shelf.Ren:=⟨fun | 197=>104 | 260=>153 | n=>n,fun | 9=>9 | 21=>21 | 3=>3 | 4=>4 | 5=>5 | 105=>142 | 119=>210 | 0=>0 | 46=>211 | 139=>214 | 138=>213 | n=>n,fun | 3=>0 | 4=>1 | n=>n⟩
theorem Tryz.lays197:Go.Proofs.Lays.n197 Tryz.prog Tryz.lays197_ren:={
 mixed:=by kernel_rfl
 f197:=Tryz.func104.trans (congrArg some (by kernel_rfl))
 f260:=Tryz.func153.trans (congrArg some (by kernel_rfl))
 t0:=Tryz.underlying0
 a0:=Tryz.isAgg0
 z0:=Tryz.sizeOf0
 v0:=Tryz.zeroValue0
 t3:=Tryz.underlying3
 a3:=Tryz.isAgg3
 z3:=Tryz.sizeOf3
 v3:=Tryz.zeroValue3
 t4:=Tryz.underlying4
 a4:=Tryz.isAgg4
 z4:=Tryz.sizeOf4
 v4:=Tryz.zeroValue4
 t5:=Tryz.underlying5
 a5:=Tryz.isAgg5
 z5:=Tryz.sizeOf5
 v5:=Tryz.zeroValue5
 t9:=Tryz.underlying9
 a9:=Tryz.isAgg9
 z9:=Tryz.sizeOf9
 v9:=Tryz.zeroValue9
 t21:=Tryz.underlying21
 a21:=Tryz.isAgg21
 z21:=Tryz.sizeOf21
 v21:=Tryz.zeroValue21
 t46:=Tryz.underlying211
 a46:=Tryz.isAgg211
 z46:=Tryz.sizeOf211
 v46:=Tryz.zeroValue211
 t105:=Tryz.underlying142
 a105:=Tryz.isAgg142
 z105:=Tryz.sizeOf142
 v105:=Tryz.zeroValue142
 t119:=Tryz.underlying210
 a119:=Tryz.isAgg210
 z119:=Tryz.sizeOf210
 t138:=Tryz.underlying213
 a138:=Tryz.isAgg213
 z138:=Tryz.sizeOf213
 v138:=Tryz.zeroValue213
 t139:=Tryz.underlying214
 a139:=Tryz.isAgg214
 z139:=Tryz.sizeOf214
 v139:=Tryz.zeroValue214
 g3:=by kernel_rfl
 g4:=by kernel_rfl }
open Go.RowKit Go.Lib in
theorem Tryz.utf8_DecodeRuneInString (s:ByteArray) (w:World) (hT:Lib.Utf8Tabs 0 1 w) :
  Calls Tryz.prog 104 #[.string s] w fun e w'=>e=.returned (.tuple #[.int .i32 (Lib.decodeGo s).1,.int .i64 (Lib.decodeGo s).2])/\Below w.heap.size w w':=Any.utf8_DecodeRuneInString Tryz.lays197 s w hT
def Tryz.lays112_ren:Go.Shelf.Ren:=⟨fun | 112=>205 | n=>n,fun | 28=>42 | 3=>3 | 4=>4 | 0=>0 | n=>n,fun | n=>n⟩
theorem Tryz.lays112:Go.Proofs.Lays.n112 Tryz.prog Tryz.lays112_ren:={
 mixed:=by kernel_rfl
 f112:=Tryz.func205.trans (congrArg some (by kernel_rfl))
 t0:=Tryz.underlying0
 a0:=Tryz.isAgg0
 z0:=Tryz.sizeOf0
 v0:=Tryz.zeroValue0
 t3:=Tryz.underlying3
 a3:=Tryz.isAgg3
 z3:=Tryz.sizeOf3
 v3:=Tryz.zeroValue3
 t4:=Tryz.underlying4
 a4:=Tryz.isAgg4
 z4:=Tryz.sizeOf4
 v4:=Tryz.zeroValue4
 t28:=Tryz.underlying42
 a28:=Tryz.isAgg42
 z28:=Tryz.sizeOf42
 v28:=Tryz.zeroValue42 }
open Go.RowKit Go.Lib Go.Sort in
theorem Tryz.slices_Reverse_int_empty (a:Option Addr) (cap:Nat) (w:World) :
  Calls Tryz.prog 205 #[.slice a 0 cap] w fun e w'=>e=.returned (.tuple #[])/\w'=w:=Any.slices_Reverse_int_empty Tryz.lays112 a cap w
open Go.RowKit Go.Lib Go.Sort in
theorem Tryz.slices_Reverse_int_cells (b off n c:Nat) (zs:List Int) (w:World) (hz:n<=zs.length) (hbig:n<=9223372036854775807) (hc:∀ j,j<zs.length->w.cell? ⟨b,off+j,none⟩=some (.int .i64 (zs.getD j 0))) (hf:∀ j,j<n->w.frozen? ⟨b,off+j,none⟩=false) :
  Calls Tryz.prog 205 #[.slice (some ⟨b,off,none⟩) n c] w fun e w'=>e=.returned (.tuple #[])/\∃ q,w'=(w.drewN q).setCells b off ((zs.take n).reverse.map (Value.int .i64)):=Any.slices_Reverse_int_cells Tryz.lays112 b off n c zs w hz hbig hc hf
end Go.Proofs
namespace Go.Proofs.YtfgelheiknmjgaaGreatDoor.T1
open Go.RowKit
structure Laid (w:World):Prop where
 pow:Lib.TabIs Tryz.prog w "internal/strconv.uint64pow10" .u64 Lib.pow10Tab
 rng:∃ te pe,w.cell? ⟨4,0,none⟩=some (.iface te pe)
theorem gPow : Tryz.prog.globalNamed "internal/strconv.uint64pow10" = some 5 := by kernel_rfl
theorem Laid.below {w w':World} (h:Laid w) (hb:Below w.heap.size w w'):Laid w':=by
 have l1:=Lib.lt_of_cell (h.pow.cell gPow 0 (by decide))
 obtain ⟨te,pe,hc⟩:=h.rng;have l2:=Lib.lt_of_cell hc;exact ⟨var?_below hb gPow l1 h.pow,te,pe,(hb.cell (p:=⟨4,0,none⟩) l2).trans hc⟩
def allDg (l:List UInt8):Bool:=l.all fun c=>digB (c.toNat:Int)
def decL (l:List UInt8):Bool :=
 let d:=Lib.trimPrefix l [45]
 if d=[] then false else if d.getD 0 0=48 then decide (l=[48]) else allDg d
theorem trim_any (s:ByteArray) (w:World) :
  Calls Tryz.prog 229 #[.string s,.string ⟨#[45]⟩] w fun e w'=>∃ d:ByteArray,d.data.toList=Lib.trimPrefix s.data.toList [45]/\e=.returned (.string d)/\w=w' :=
 (Tryz.strings_TrimPrefix s ⟨#[45]⟩ w).mono fun _ _ ⟨he,hw⟩=>⟨⟨(Lib.trimPrefix s.data.toList [45]).toArray⟩,by simp,he,hw.symm⟩
theorem yi1 {s d:ByteArray} (h:d.data.toList=Lib.trimPrefix s.data.toList [45]) (h0:d.size=0):decL s.data.toList=false:=by
 have:=size_eq d;unfold decL;rw [<- h,if_pos (List.eq_nil_of_length_eq_zero (by omega))]
theorem get0 {d:ByteArray} (h0:0<d.size):d.data.toList.getD 0 0=d[0]:=by
 have:=size_eq d;rw [List.getD_eq_getElem?_getD,List.getElem?_eq_getElem (by omega)]; rfl
theorem dec_zero {s d:ByteArray} (h:d.data.toList=Lib.trimPrefix s.data.toList [45]) (h0:0<d.size) (h1:d[0]=48):decL s.data.toList=(s.toList==[48]):=by
 have:=size_eq d;unfold decL;rw [<- h,if_neg (by intro e; rw [e] at this; simp at this; omega),get0 h0,if_pos h1,Lib.toList_data]
 rw [Bool.eq_iff_iff]; simp
theorem zX7 {s d:ByteArray} (h:d.data.toList=Lib.trimPrefix s.data.toList [45]) (h0:0<d.size) (h1:d[0]≠48):decL s.data.toList=allDg d.data.toList:=by
 have:=size_eq d;unfold decL;rw [<- h,if_neg (by intro e; rw [e] at this; simp at this; omega),get0 h0,if_neg h1]
theorem trim_len (l:List UInt8):(Lib.trimPrefix l [45]).length<=l.length:=by
 unfold Lib.trimPrefix; split <;> simp
theorem zl8 (s:ByteArray) (w:World) (hs:s.size<=maxLen) :
  Calls Tryz.prog 197 #[.string s] w fun e w'=>e=.returned (.bool (decL s.data.toList))/\w=w':=by
 unfold maxLen at hs;go_enter Tryz.func197,Tryz.ntmps197
 go_wp2_with fail
 refine (trim_any _ _).mono ?_
 rintro e w' ⟨d,hd,rfl,rfl⟩;have hdl:d.size<=9223372036854775807:=by
  have h1:=size_eq d; have h2:=size_eq s; have h3:=trim_len s.data.toList; rw [hd] at h1; omega
 have HD:=Lh hd;clear hd;by_cases h0:d.size=0
 ·have H1:=Lh (yi1 HD.out h0)
  have h2:d.toList.isEmpty=true:=by rw [zr2 h0]; rfl
  have h3:d.toList=[]:=zr2 h0;clear h0 hdl
  go_wp2
  go_ret
  exact ⟨by rw [H1.out]; rfl,rfl⟩
 have h0':0<d.size:=by omega
 have h2:d.toList.isEmpty=false:=zc8 h0';have h3:d.toList≠[]:=zd5 h0';clear h0;by_cases h1:d[0]=48
 ·have H1:=Lh (dec_zero HD.out h0' h1)
  have h4:((d[0].toNat:Int)==48)=true:=by rw [h1]; rfl
  clear h1
  go_wp2
  go_ret
  exact ⟨by rw [H1.out]; rfl,rfl⟩
 have H1:=Lh (zX7 HD.out h0' h1);have h4:((d[0].toNat:Int)==48)=false:=u8_ne h1;clear h1
 go_wp2
 go_loop [4] (fun i=>∃ k:Nat,k<=d.size/\i=.int .i64 k/\allDg (d.data.toList.take k)=true) (fun i=>d.size-(intOf i).toNat)
 case atStart=>exact ⟨0,Nat.zero_le _,rfl,rfl⟩
 case round =>
  obtain ⟨k,hk,rfl,hall⟩:=hrel;have HA:=Lh hall;clear hall;by_cases hlt:k<d.size
  ·have hbk:=ze3 d[k]
   have hlk:k<d.data.toList.length:=by rw [size_eq]; exact hlt
   cases hn:digB (d[k].toNat:Int)
   ·have H2:Hid (allDg d.data.toList=false):=Lh (zl1 d.data.toList (fun c=>digB (c.toNat:Int)) k hlk hn)
    go_wp2_with (go_at_call 81; refine (zc0 _ _ (by omega) (by omega)).mono ?_; rintro e w' ⟨rfl,rfl⟩)
    go_ret
    exact ⟨by rw [H1.out,H2.out]; rfl,rfl⟩
   ·have H2:Hid (allDg (d.data.toList.take (k+1))=true):=Lh (zf3 d.data.toList (fun c=>digB (c.toNat:Int)) k hlk HA.out hn)
    go_wp2_with (go_at_call 81; refine (zc0 _ _ (by omega) (by omega)).mono ?_; rintro e w' ⟨rfl,rfl⟩)
    go_round
    case rel=>exact ⟨k+1,by omega,by go_num,H2.out⟩
    case measure=>simp [intOf]; omega
  ·have H2:Hid (allDg d.data.toList=true):=by
    have:=HA.out;rw [List.take_of_length_le (by rw [size_eq]; omega)] at this
    exact Lh this
   go_wp2
   go_ret
   exact ⟨by rw [H1.out,H2.out]; rfl,rfl⟩
def numL (l:List UInt8):Int × Int:=if decL l then (match Lib.atoiAll l with | .ok v=>(v,0) | _=>(0,4)) else (0,3)
def num2 (p:Int × Int):Value:=.tuple #[.int .i64 p.1,.int .i64 p.2]
theorem ye6 (s:ByteArray) (w:World) (hs:s.size<=maxLen) (h:decL s.data.toList=false) :
  Calls Tryz.prog 157 #[.string s] w fun e w'=>e=.returned (num2 (0,3))/\Below w.heap.size w w':=by
 go_enter Tryz.func157,Tryz.ntmps157
 go_wp2_with (go_at_call 197; refine (zl8 _ _ hs).mono ?_; rintro e w' ⟨rfl,rfl⟩)
 go_ret2
 exact ⟨rfl,Below.refl _ _⟩
theorem zu1:∀ (l:List UInt8) (acc:Nat),allDg l=true->(∃ u,Lib.parseUint10 acc l=.ok u)∨Lib.parseUint10 acc l=.range
 | [],acc,_=>Or.inl ⟨acc,rfl⟩
 | c::r,acc,h=>by
   unfold allDg at h;rw [List.all_cons,Bool.and_eq_true] at h;have hc:48<=c.toNat/\c.toNat<=57:=by have:=h.1; unfold digB at this; simp at this; omega
   unfold Lib.parseUint10;rw [if_pos hc]
   split
   ·exact Or.inr rfl
   ·split
    ·exact Or.inr rfl
    ·exact zu1 r _ h.2
theorem zW8 {l:List UInt8} (h0:l≠[]) (h:allDg l=true):(∃ u,Lib.parseMag l=.ok u)∨Lib.parseMag l=.range:=by
 unfold Lib.parseMag; rw [if_neg h0]; exact zu1 l 0 h
theorem zA5 (l:List UInt8):Lib.trimPrefix (45::l) [45]=l:=by
 unfold Lib.trimPrefix Lib.hasPrefix; simp
theorem zA4 {c:UInt8} (l:List UInt8) (h:c≠45):Lib.trimPrefix (c::l) [45]=c::l:=by
 unfold Lib.trimPrefix Lib.hasPrefix;rw [if_neg]; simp [h.symm]
theorem zz0 {l:List UInt8} (h:decL l=true):l=[48]∨∃ d:List UInt8,d≠[]/\d.getD 0 0≠48/\allDg d=true/\(l=d∨l=45::d)/\d.getD 0 0≠45/\d.getD 0 0≠43:=by
 cases l with
 | nil=>exact absurd h (by decide)
 | cons c r =>
   have key:∀ d:List UInt8,Lib.trimPrefix (c::r) [45]=d->(c::r=d∨c::r=45::d)->c::r=[48]∨∃ d:List UInt8,d≠[]/\d.getD 0 0≠48/\allDg d=true/\(c::r=d∨c::r=45::d)/\d.getD 0 0≠45/\d.getD 0 0≠43:=by
    intro d hd hl;unfold decL at h;rw [hd] at h;by_cases h0:d=[]
    ·rw [if_pos h0] at h; cases h
    rw [if_neg h0] at h;by_cases h1:d.getD 0 0=48
    ·rw [if_pos h1] at h; exact Or.inl (by simpa using h)
    rw [if_neg h1] at h;refine Or.inr ⟨d,h0,h1,h,hl, ?_, ?_⟩
    all_goals
     cases d with
     | nil=>exact absurd rfl h0
     | cons a d =>
       unfold allDg at h;rw [List.all_cons,Bool.and_eq_true] at h;have:=h.1;intro e;simp at e
       subst e
       revert this; decide
   by_cases hc:c=45
   ·subst hc; exact key r (zA5 r) (Or.inr rfl)
   ·exact key (c::r) (zA4 r hc) (Or.inl rfl)
theorem ya2 {e:Lib.NumEnd Nat} (h:(∃ u,e=.ok u)∨e=.range):((∃ v,Lib.signed e=.ok v)∨Lib.signed e=.range)/\((∃ v,Lib.signless e=.ok v)∨Lib.signless e=.range):=by
 rcases h with ⟨u,rfl⟩ | rfl
 ·unfold Lib.signed Lib.signless
  constructor
  all_goals
   simp only
   split
   ·exact Or.inr rfl
   ·exact Or.inl ⟨_,rfl⟩
 ·exact ⟨Or.inr rfl,Or.inr rfl⟩
theorem zH3 {c d:UInt8} (h:c≠d):c.toNat≠d.toNat:=fun e=>h (UInt8.toNat_inj.1 e)
theorem zQ0 {l:List UInt8} (h:decL l=true):(∃ v,Lib.atoiAll l=.ok v)∨Lib.atoiAll l=.range:=by
 rcases zz0 h with rfl | ⟨d,h0,_,h2,h3,h4,h5⟩
 ·exact Or.inl ⟨0,by decide⟩
 ·have hm:=ya2 (zW8 h0 h2)
  rcases h3 with rfl | rfl
  ·cases l with
   | nil=>exact absurd rfl h0
   | cons a l =>
     simp at h4 h5
     rw [Lib.atoiAll_plain a l (zH3 h5) (zH3 h4)]; exact hm.2
  ·rw [Lib.atoiAll_minus]; exact hm.1
theorem ye5 (s:ByteArray) (w:World) (hs:s.size<=281474976710656) (h:decL s.data.toList=true) (v:Int) (hv:Lib.atoiAll s.data.toList=.ok v) :
  Calls Tryz.prog 157 #[.string s] w fun e w'=>e=.returned (num2 (v,0))/\Below w.heap.size w w':=by
 have HC:=Lh (Tryz.strconv_Atoi_ok s (by omega) v hv w)
 clear hv;go_enter Tryz.func157,Tryz.ntmps157
 go_wp2_with (go_at_call 197; refine (zl8 _ _ (by unfold maxLen; omega)).mono ?_; rintro e w' ⟨rfl,rfl⟩)
 refine HC.out.mono ?_
 rintro e w' ⟨rfl,hw⟩;have hb:Below w.heap.size w w':=by
  rcases hw with rfl | ⟨t,rfl⟩
  ·exact Below.refl _ _
  ·exact Lib.bytesWorld_below _ _ _
 clear hw
 go_wp2
 go_ret2
 exact ⟨rfl,hb⟩
theorem zJ0 (s:ByteArray) (w:World) (hL:Laid w) (hs:s.size<=281474976710656) (h:decL s.data.toList=true) (hv:Lib.atoiAll s.data.toList=.range) :
  Calls Tryz.prog 157 #[.string s] w fun e w'=>e=.returned (num2 (0,4))/\Below w.heap.size w w':=by
 obtain ⟨te,pe,hc⟩:=hL.rng;have HC:=Lh (Tryz.strconv_Atoi_range s hs hv _ w hc (Or.inr ⟨te,pe,rfl⟩));clear hv hc;go_enter Tryz.func157,Tryz.ntmps157
 go_wp2_with (go_at_call 197; refine (zl8 _ _ (by unfold maxLen; omega)).mono ?_; rintro e w' ⟨rfl,rfl⟩)
 refine HC.out.mono ?_
 rintro e w' ⟨N,rfl,_,_,hb⟩
 go_wp2
 go_ret2
 exact ⟨rfl,hb⟩
theorem zB4 (s:ByteArray) (w:World) (hL:Laid w) (hs:s.size<=281474976710656) :
  Calls Tryz.prog 157 #[.string s] w fun e w'=>e=.returned (num2 (numL s.data.toList))/\Below w.heap.size w w':=by
 unfold numL;cases h:decL s.data.toList
 ·exact ye6 s w (by unfold maxLen; omega) h
 ·rcases zQ0 h with ⟨v,hv⟩ | hv
  ·rw [hv]; exact ye5 s w hs h v hv
  ·rw [hv]; exact zJ0 s w hL hs h hv
end Go.Proofs.YtfgelheiknmjgaaGreatDoor.T1
namespace Go.Proofs.YtfgelheiknmjgaaGreatDoor.K
open Go.RowKit
def spanL {σ:Type} (step : σ->UInt8->Option σ) : σ->List UInt8->Nat
 | _,[]=>0
 | st,c::r=>match step st c with
   | none=>0
   | some st'=>spanL step st' r+1
def sepS (inC:Bool) (c:UInt8):Option Bool :=
 if c=35 then some true else if c=10∨c=13 then some false else if c=32∨c=9∨c=44 then some inC else if inC=true then some true else none
def wdB (c:UInt8):Bool:=T1.nmB (c.toNat:Int)
def wdS (u:Unit) (c:UInt8):Option Unit:=if wdB c=true then some u else none
def ltS (skip:Bool) (c:UInt8):Option Bool:=if c=34/\skip=false then none else some (decide (c=92)&&!skip)
def sepN (l:List UInt8):Nat:=spanL sepS false l
def wdN (l:List UInt8):Nat:=spanL wdS () l
def ltN (l:List UInt8):Nat:=spanL ltS false l
def sgL:List UInt8:=[33,36,38,40,41,58,61,64,91,93,123,124,125]
def elL:List UInt8:=[46,46,46]
def dmB (c:UInt8):Bool:=T1.digB (c.toNat:Int)||decide (c=45)
def tokR (l:List UInt8):Except Int (Int × List UInt8 × Nat) :=
 let c:=l.getD 0 0
 if c∈sgL then .ok (1,l.take 1,1)
 else if l.take 3=elL then .ok (1,elL,3)
 else if T1.letU (c.toNat:Int)=true then
  if T1.nameL (l.take (wdN l))=true then .ok (2,l.take (wdN l),wdN l) else .error 3
 else if dmB c=true then
  if (T1.numL (l.take (wdN (l.drop 1)+1))).2=0 then .ok (3,l.take (wdN (l.drop 1)+1),wdN (l.drop 1)+1) else .error (T1.numL (l.take (wdN (l.drop 1)+1))).2
 else if c=34 then
  if l.length<ltN (l.drop 1)+2 then .error 3 else match T1.zc7 (l.take (ltN (l.drop 1)+2)) with
   | none=>.error 3
   | some t=>.ok (4,t,ltN (l.drop 1)+2)
 else .error 3
abbrev Tk:=Int × List UInt8 × Nat
def scF:Nat->Nat->List UInt8->Except (Nat × Int) (List Tk)
 | 0,_,_=>.error (0,99)
 | f+1,at',l =>
   if l.drop (sepN l)=[] then .ok [(5,[],at'+sepN l)] else
    match tokR (l.drop (sepN l)) with
    | .error c=>.error (at'+sepN l,c)
    | .ok (k,t,n)=>match scF f (at'+sepN l+n) ((l.drop (sepN l)).drop n) with
      | .error e=>.error e
      | .ok ts=>.ok ((k,t,at'+sepN l)::ts)
def scR (l:List UInt8):Except (Nat × Int) (List Tk):=if 65536<l.length then .error (65536,4) else scF (l.length+1) 0 l
section
variable {σ:Type} {step : σ->UInt8->Option σ}
theorem zD7 (st : σ) (l:List UInt8):spanL step st l<=l.length:=by
 induction l generalizing st with
 | nil=>exact Nat.le_refl _
 | cons c r ih =>
   unfold spanL
   cases h:step st c with
   | none=>exact Nat.zero_le _
   | some s2=>exact Nat.succ_le_succ (ih s2)
end
theorem zD9 (l:List UInt8):sepN l<=l.length:=zD7 _ _
theorem zQ3 (l:List UInt8):wdN l<=l.length:=zD7 _ _
theorem ltN_le (l:List UInt8):ltN l<=l.length:=zD7 _ _
theorem letU_wdB {c:UInt8} (h:T1.letU (c.toNat:Int)=true):wdB c=true:=by
 unfold wdB; rw [T1.nm_of,h]; rfl
theorem wdN_pos {l:List UInt8} (hl:l≠[]) (h:T1.letU ((l.getD 0 0).toNat:Int)=true):1<=wdN l:=by
 cases l with
 | nil=>exact absurd rfl hl
 | cons c r =>
   have h1:wdB c=true:=letU_wdB h;unfold wdN spanL wdS;rw [if_pos h1];exact Nat.le_add_left _ _
theorem zQ8 {l:List UInt8} {k:Int} {t:List UInt8} {n:Nat} (hl:l≠[]) (h:tokR l=.ok (k,t,n)):1<=n/\n<=l.length:=by
 have h0:1<=l.length:=List.length_pos_iff.2 hl;have hd:wdN (l.drop 1)+1<=l.length:=by have:=zQ3 (l.drop 1); rw [List.length_drop] at this; omega
 have hw:=zQ3 l;unfold tokR at h;simp only at h
 split at h
 ·cases h; exact ⟨Nat.le_refl _,h0⟩
 ·split at h
  ·next h3 =>
   have h4:(l.take 3).length=3:=by rw [h3]; rfl
   rw [List.length_take] at h4;cases h; exact ⟨by omega,by omega⟩
  ·split at h
   ·next h3 =>
    split at h
    ·cases h; exact ⟨wdN_pos hl h3,hw⟩
    ·cases h
   ·split at h
    ·split at h
     ·cases h; exact ⟨by omega,hd⟩
     ·cases h
    ·split at h
     ·split at h
      ·cases h
      ·split at h
       ·cases h
       ·cases h; exact ⟨by omega,by omega⟩
     ·cases h
end Go.Proofs.YtfgelheiknmjgaaGreatDoor.K
