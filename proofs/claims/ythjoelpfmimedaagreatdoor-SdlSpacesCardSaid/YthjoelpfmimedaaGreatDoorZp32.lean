
/-
 Texts joined: Law06c.
-/
import Derived.Test.YthjoelpfmimedaaGreatDoorZp29
import Derived.Test.YthjoelpfmimedaaGreatDoorZp31
import Derived.Test.YthjoelpfmimedaaGreatDoorZp24
namespace Go.Proofs.YthjoelpfmimedaaGreatDoor
open Go.RowKit
theorem zL0 {w W w':World} {e:Ending} (hW:Below w.heap.size w W) (h:e = .returned (.bool true) ∧ Below W.heap.size W w'):e = .returned (.bool true) ∧ Below w.heap.size w w':=⟨h.1,hW.trans (h.2.mono hW.size)⟩
set_option maxRecDepth 100000 in
set_option maxHeartbeats 4000000 in
theorem zU6 (s:ByteArray) (w:World) (hL:K.LK w) (hs:s.size ≤ 281474976710656):Calls Tryz.prog 4 #[.string s] w fun e w' => e = .returned (.bool true) ∧ Below w.heap.size w w':=by
 have HL:=Lib.hid hL
 have CE:=Lib.hid (fun (W:World) (hW:Below w.heap.size w W) => (zP5 W (HL.out.below hW)).mono fun e w' h => zL0 hW h)
 clear hL
 by_cases h1:s.size ≤ 4000
 rotate_left
 ·have g1:decide ((4000:Int) < (s.size:Int)) = true:=by simp; omega
  go_enter Tryz.func4, Tryz.ntmps4
  go_wp2_with fail
  refine (CE.out w (Below.refl _ _)).mono ?_
  rintro e w' ⟨rfl,hb⟩
  go_wp2_with fail
  exact bodyPost_ret (v:=.bool true) (by simp [results,Tryz.results4,go_sem]) rfl ⟨rfl,hb⟩
 have g1:decide ((4000:Int) < (s.size:Int)) = false:=by simp; omega
 have hsl:s.data.toList.length ≤ 4000:=by rw [T1.size_eq]; omega
 have SC:=Lib.hid (fun W => K.yb3 s W)
 cases hK:K.scR s.data.toList with
 | error x =>
   have hR:=sdl_scan hK
   have PS:=Lib.hid (zp7 HL.out hR)
   have HK:=Lib.hid hK
   clear hK hR hsl
   go_enter Tryz.func4, Tryz.ntmps4
   go_wp2_with fail
   refine PS.out.mono ?_
   rintro e w1 ⟨hb1,rfl⟩
   have HB1:=Lib.hid hb1
   clear hb1
   go_wp2_with fail
   refine (SC.out _).mono ?_
   rintro e w2 ⟨ha,hb2⟩
   rw [HK.out] at ha
   obtain ⟨rfl,hc⟩:=ha
   have k1:(x.2 != 0) = true:=by simpa using hc
   have HB2:=Lib.hid ((HB1.out.trans ((za0 w1 _).mono HB1.out.size)).trans (hb2.mono (by rw [World.size_alloc]; have:=HB1.out.size; omega)))
   clear hc hb2
   go_wp2_with fail
   refine (CE.out _ HB2.out).mono ?_
   rintro e w' ⟨rfl,hb⟩
   go_wp2_with fail
   exact bodyPost_ret (v:=.bool true) (by simp [results,Tryz.results4,go_sem]) rfl ⟨rfl,hb⟩
 | ok ts =>
   obtain ⟨ps,hps,hk5,hjl,hok,her⟩:=zU9 hsl hK
   have hzk:=(K.zN1 (by omega) hK).1
   have hj:K.joinZ (K.tz ts) = K.joinK ps:=by rw [hps]; exact K.join_K ps _ hk5
   have HK:=Lib.hid hK
   have HZK:=Lib.hid hzk
   have HJ:=Lib.hid hj
   clear hK hps hk5 hjl hzk hj
   cases hR:sdlR s.data.toList with
   | error x =>
     obtain ⟨z,hz,hzx⟩:=her x hR
     have PS:=Lib.hid (zp7 HL.out hR)
     have hx0:=sdl_nz hR
     have hxa:=sdl_at (by omega) hR
     rw [T1.size_eq] at hxa
     have HX0:=Lib.hid hx0
     have HXA:=Lib.hid hxa
     have HZ:=Lib.hid hz
     have HZX:=Lib.hid hzx
     clear hok her hR hz hzx hx0 hxa hsl
     go_enter Tryz.func4, Tryz.ntmps4
     go_wp2_with fail
     refine PS.out.mono ?_
     rintro e w1 ⟨hb1,rfl⟩
     have HB1:=Lib.hid hb1
     clear hb1
     go_wp2_with fail
     refine (SC.out _).mono ?_
     rintro e w2 ⟨ha,hb2⟩
     rw [HK.out] at ha
     obtain ⟨v2,rfl,hown⟩:=ha
     obtain ⟨A2,c2,rfl,hza,hc2⟩:=hown.at
     have HXD:=Lib.hid ((Bk.new w1 #[.slice none 0 0] 24).stay hb2)
     have HB2:=Lib.hid ((HB1.out.trans ((za0 w1 _).mono HB1.out.size)).trans (hb2.mono (by rw [World.size_alloc]; have:=HB1.out.size; omega)))
     have PR:=K.zA8 (K.tz ts) HZK.out A2 c2 w2 hza
     rw [HJ.out] at PR
     have HPR:=Lib.hid PR
     clear hown hza hb2 PR
     go_wp2_with fail
     refine HPR.out.mono ?_
     rintro e w3 ⟨rfl,hb3⟩
     have HB3:=Lib.hid (HB2.out.trans (hb3.mono HB2.out.size))
     have HXD3:=Lib.hid (HXD.out.stay hb3)
     clear hb3
     have PJ:=Lib.hid (zp7 (s:=⟨(K.joinK ps).toArray⟩) (HL.out.below HB3.out) (x:=z) (by rw [← HZ.out]))
     go_wp2_with fail
     refine PJ.out.mono ?_
     rintro e w4 ⟨hb4,rfl⟩
     have b4:Below w3.heap.size w3 (w4.alloc (.cells #[.slice none 0 0] 24 (0,0))):=hb4.trans ((za0 w4 _).mono hb4.size)
     have hXD:=HXD3.out.stay b4
     have hXE:=Bk.new w4 #[.slice none 0 0] 24
     have HB4:=Lib.hid (HB3.out.trans (b4.mono HB3.out.size))
     have HXD4:=Lib.hid hXD
     have q0:=hXD.cell 0 _ rfl
     have q1:=hXE.cell 0 _ rfl
     have k1:(x.2 != z.2) = false:=by rw [HZX.out]; simp
     clear hXD hXE hb4 b4
     go_wp2_with fail
     have HQ:=Lib.hid (zs9 [] _ _ _ (zy9 (w4.alloc (.cells #[.slice none 0 0] 24 (0,0))) _) (zy9 _ _) (fun x hx => by cases hx))
     refine HQ.out.mono ?_
     rintro e w5 ⟨rfl,hb5⟩
     have HB5:=Lib.hid (HB4.out.trans (hb5.mono HB4.out.size))
     have q2:=(HXD4.out.stay hb5).cell 0 _ rfl
     have k2:(x.2 != 0) = true:=by simpa using HX0.out
     have k3:=HXA.out
     clear q0 q1 hb5
     go_wp2_with fail
     refine (CE.out _ HB5.out).mono ?_
     rintro e w' ⟨rfl,hb⟩
     go_wp2_with fail
     exact bodyPost_ret (v:=.bool true) (by simp [results,Tryz.results4,go_sem]) rfl ⟨rfl,hb⟩
   | ok l =>
     have hJ:=hok l hR
     have HDK:=Lib.hid (zH9 hR)
     have HDZ:=Lib.hid (doc_z (zH9 hR))
     have HDW:=Lib.hid (sdl_w hR).1
     have PS:=Lib.hid (zE3 HL.out hR)
     have HJO:=Lib.hid hJ
     clear hok her hR hJ hsl
     go_enter Tryz.func4, Tryz.ntmps4
     go_wp2_with fail
     refine PS.out.mono ?_
     rintro e w1 ⟨hb1,v1,rfl,hd1⟩
     obtain ⟨A1,c1,rfl,hc1,hbg1⟩:=SlS.form hd1
     generalize hll:l.length = la at *
     have HD1:=Lib.hid (DefsC.toR (B:=w1.heap.size) (fun b hb => hb.2) hd1)
     have HB1:=Lib.hid hb1
     clear hb1 hd1 hc1 hbg1 hll
     go_wp2_with fail
     refine (SC.out _).mono ?_
     rintro e w2 ⟨ha,hb2⟩
     rw [HK.out] at ha
     obtain ⟨v2,rfl,hown⟩:=ha
     obtain ⟨A2,c2,rfl,hza,hc2⟩:=hown.at
     have b2:Below w1.heap.size w1 w2:=(za0 w1 _).trans (hb2.mono (by rw [World.size_alloc]; omega))
     have HXD:=Lib.hid ((Bk.new w1 #[.slice A1 la c1] 24).stay hb2)
     have HB2:=Lib.hid (HB1.out.trans (b2.mono HB1.out.size))
     have HB12:=Lib.hid b2
     have PR:=K.zA8 (K.tz ts) HZK.out A2 c2 w2 hza
     rw [HJ.out] at PR
     have HPR:=Lib.hid PR
     clear hown hza hb2 PR b2
     go_wp2_with fail
     refine HPR.out.mono ?_
     rintro e w3 ⟨rfl,hb3⟩
     have HB3:=Lib.hid (HB2.out.trans (hb3.mono HB2.out.size))
     have HB13:=Lib.hid (HB12.out.trans (hb3.mono HB12.out.size))
     have HXD3:=Lib.hid (HXD.out.stay hb3)
     clear hb3
     have PJ:=Lib.hid (zE3 (s:=⟨(K.joinK ps).toArray⟩) (HL.out.below HB3.out) (l:=l) (by rw [← HJO.out]))
     go_wp2_with fail
     refine PJ.out.mono ?_
     rintro e w4 ⟨hb4,v4,rfl,hd4⟩
     obtain ⟨A4,c4,rfl,hc4,hbg4⟩:=SlS.form hd4
     generalize hll:l.length = lb at *
     have b4:Below w3.heap.size w3 (w4.alloc (.cells #[.slice A4 lb c4] 24 (0,0))):=hb4.trans ((za0 w4 _).mono hb4.size)
     have b14:=HB13.out.trans (b4.mono HB13.out.size)
     have hXD:=HXD3.out.stay b4
     have hXE:=Bk.new w4 #[.slice A4 lb c4] 24
     have HB4:=Lib.hid (HB3.out.trans (b4.mono HB3.out.size))
     have HR1:=Lib.hid ((DefsR.kept HD1.out b14).mono b14.size)
     have HR4:Hid (DefsR (w4.alloc (.cells #[.slice A4 lb c4] 24 (0,0))) (w4.alloc (.cells #[.slice A4 lb c4] 24 (0,0))).heap.size (.slice A4 lb c4) l):=Lib.hid (zn5 (DefsC.toR (B:=w4.heap.size) (fun b hb => hb.2) hd4) (za0 w4 _))
     have HXD4:=Lib.hid hXD
     have q0:=hXD.cell 0 _ rfl
     have q1:=hXE.cell 0 _ rfl
     clear hXD hXE hb4 b4 hd4 hc4 hbg4 hll b14
     go_wp2_with fail
     have HQ:=Lib.hid (zs9 l _ _ _ HR1.out HR4.out HDW.out)
     refine HQ.out.mono ?_
     rintro e w5 ⟨rfl,hb5⟩
     have HB5:=Lib.hid (HB4.out.trans (hb5.mono HB4.out.size))
     have HR5:=Lib.hid (zn5 HR1.out hb5)
     have HXD5:=Lib.hid (HXD4.out.stay hb5)
     have q2:=HXD5.out.cell 0 _ rfl
     have CR:=zV3 l _ w5 HR5.out HDZ.out
     rw [← doc_eq,HDK.out] at CR
     have HCR:=Lib.hid CR
     clear q0 q1 hb5 CR
     go_wp2_with fail
     refine HCR.out.mono ?_
     rintro e w6 ⟨rfl,hb6⟩
     have HB6:=Lib.hid (HB5.out.trans (hb6.mono HB5.out.size))
     have CP:=zq8 l _ w6 (zn5 HR5.out hb6)
     rw [HDK.out] at CP
     have HCP:=Lib.hid CP
     have q3:=(HXD5.out.stay hb6).cell 0 _ rfl
     clear q2 hb6 CP
     go_wp2_with fail
     refine HCP.out.mono ?_
     rintro e w7 ⟨rfl,hb7⟩
     have HB7:=Lib.hid (HB6.out.trans (hb7.mono HB6.out.size))
     clear hb7
     go_wp2_with fail
     refine (CE.out _ HB7.out).mono ?_
     rintro e w' ⟨rfl,hb⟩
     go_wp2_with fail
     exact bodyPost_ret (v:=.bool true) (by simp [results,Tryz.results4,go_sem]) rfl ⟨rfl,hb⟩
end Go.Proofs.YthjoelpfmimedaaGreatDoor
