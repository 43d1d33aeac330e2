/-
  What is proved here: NoteParts answers true: parts of a note are its lines, each as high as can be.
-/
import Derived.Test.YtlgcnbomfhmjiaaGreatDoorG31
namespace Go.Proofs.YtlgcnbomfhmjiaaGreatDoor
open Go.RowKit Go.Shelf
set_option maxRecDepth 100000
set_option maxHeartbeats 8000000

theorem parts6 (t : ByteArray) (hsz : t.size ≤ 9223372036854775807) (c h more : Int) (hh : -9223372036854775808 ≤ h ∧ h ≤ 9223372036854775807) (hm : -9223372036854775808 ≤ more ∧ more ≤ 9223372036854775807) (w : World) : Calls Tryz.prog 6 #[.string t,.int .i64 c,.int .i64 h,.int .i64 more] w fun e w' => e = .returned (.bool true) ∧ Below w.heap.size w w' := by
 have hk := known5 w
 have hn := note_ls (t := t) (q := ntS c)
 have hl := fun w => nlay_any t hsz c w
 have hp1 : Hid (∀ w,Calls Tryz.prog 23 #[.int .i64 h,.int .i64 100000] w fun e w' => ∃ y : Nat,y < 100000 ∧ e = .returned (.int .i64 y) ∧ w' = w) := fun w => npick_any h hh w
 have hp2 : Hid (∀ w,Calls Tryz.prog 23 #[.int .i64 more,.int .i64 100000] w fun e w' => ∃ y : Nat,y < 100000 ∧ e = .returned (.int .i64 y) ∧ w' = w) := fun w => npick_any more hm w
 clear hh hm
 have hok := @ntE_ok t
 unfold NlEnd at hl
 generalize noteLs t (ntS c) = ls at *
 generalize ntE t = x at *
 have hl' : Hid _ := hl
 have hn' : Hid _ := hn
 have hok' : Hid _ := hok
 clear hl hn hok
 go_enter Tryz.func6,Tryz.ntmps6
 go_wp2_with fail
 refine hk.mono ?_
 rintro e w1 ⟨rfl,hb1⟩
 clear hk
 go_wp2_with fail
 refine (hl'.out w1).mono ?_
 rintro e w2 ⟨⟨hx,rfl⟩ | ⟨_,_,rfl⟩ | ⟨hx,_,g,hg,rfl,hu⟩,hb2⟩
 ·clear hl' hn' hok' hp1 hp2
  have hB := hb1.trans (hb2.mono hb1.size)
  clear hb1 hb2
  go_wp2_with fail
  go_ret
  exact ⟨rfl,hB⟩
 ·clear hl' hn' hok' hp1 hp2
  have hB := hb1.trans (hb2.mono hb1.size)
  clear hb1 hb2
  go_wp2_with fail
  go_ret
  exact ⟨rfl,hB⟩
 ·have hN := hn'.out (hok'.out hx)
  have hB := hb1.trans (hb2.mono hb1.size)
  clear hl' hn' hok' hb1 hb2 hx hg
  by_cases h4 : 400 < t.size
  ·have h4' : (400 : Int) < t.size := by omega
   clear hp1 hp2
   go_wp2_with fail
   go_ret
   exact ⟨rfl,hB⟩
  ·have h4' : ¬ (400 : Int) < t.size := by omega
   have hB' : Hid (Below w.heap.size w w2) := hB
   have hN' : Hid (NLs t ls) := hN
   have hu' : Hid (LxsAt w2 (.slice (some ⟨g,0,none⟩) ls.length ls.length) ls) := hu
   have hpos := hN.pos
   have hfew := hN.few
   clear hB hN hu h4
   go_wp2_with fail
   go_loopw [12,13] (fun v12 v13 wr => ∃ k : Nat,k ≤ ls.length ∧ v13 = .int .i64 (k : Int) ∧ v12 = .int .i64 (atL ls k) ∧ Hid (wr = w2)) (fun _ v13 _ => ls.length - (intOf v13).toNat)
   case atStart => exact ⟨0,by omega,rfl,rfl,rfl⟩
   case round =>
    obtain ⟨k,hk,rfl,rfl,hw⟩ := hrel
    obtain rfl := hw.out
    by_cases hlt : k < ls.length
    ·have hlt' : (k : Int) < (ls.length : Int) := by omega
     obtain ⟨b,o,e1,hbl,hrg⟩ := RecAt.range hu'.out hlt
     cases e1
     have c0 : wr.cell? ⟨g,k * 7,none⟩ = some (.int .i64 (atL ls k)) := by rw [← hN'.out.at hlt]; have := hrg 0 _ rfl; rwa [Nat.zero_add] at this
     have c1 : wr.cell? ⟨g,k * 7 + 1,none⟩ = some (.int .i64 (atL ls (k + 1))) := by rw [atL_succ hlt]; have := hrg 1 _ rfl; rwa [Nat.zero_add] at this
     clear hrg hp1 hp2 hB' hN' hu'
     generalize atL ls k = y0 at *
     go_wp2_with fail
     go_roundw
     case rel => exact ⟨k + 1,by omega,by simp,rfl,by first | rfl | trivial⟩
     case measure => simp [intOf]; omega
    ·obtain rfl : k = ls.length := by omega
     have hlt' : ¬ ((ls.length : Nat) : Int) < (ls.length : Int) := by omega
     have he := hN'.out.end'
     rw [he]
     clear he hN' hw
     have hne : ¬ (ls.length : Int) = 0 := by omega
     have hne2 : ¬ ls.length = 0 := by omega
     have hne3 : ¬ ls = [] := fun e => by rw [e] at hpos; simp at hpos
     go_wp2_with fail
     refine (nheight_any _ ls.length _ (by omega) _).mono ?_
     rintro e w3 ⟨rfl,rfl⟩
     go_wp2_with fail
     refine (hp1.out _).mono ?_
     rintro e w4 ⟨H,hH,rfl,rfl⟩
     clear hp1
     go_wp2_with fail
     refine (hp2.out _).mono ?_
     rintro e w5 ⟨M,hM,rfl,rfl⟩
     clear hp2
     go_wp2_with fail
     refine (nsplit_at _ ls H (by omega) _ (by omega) hu'.out).mono ?_
     rintro e w6 ⟨a,ca,b,cb,rfl,ha,hb,hb6⟩
     have hB6 : Hid (Below w.heap.size w w6) := hB'.out.trans (hb6.mono hB'.out.size)
     have hu6 : LxsAt w6 (.slice (some ⟨g,0,none⟩) ls.length ls.length) ls := hu'.out.below hb6 (Nat.le_refl _)
     clear hb6 hu' hB'
     generalize hm : min (H / 10) ls.length = m at *
     have hmH : ¬ (H : Int) < 10 * (m : Int) := by omega
     have hlm : (ls.take m).length + (ls.drop m).length ≤ 100000 := by rw [List.length_take,List.length_drop]; omega
     obtain ⟨a1,c1,w7,a2,c2,w8,r1,r2,hl8,hb8⟩ := cat_run ha hb hlm
     rw [List.take_append_drop] at hl8 r2
     have hlen : (ls.take m).length = m := by rw [List.length_take]; omega
     rw [hlen] at r1 r2
     clear hlen
     have hB8 : Hid (Below w.heap.size w w8) := hB6.out.trans (hb8.mono hB6.out.size)
     have hu8 := hu6.below hb8 (Nat.le_refl _)
     have ha8 : Hid (LxsAt w8 (.slice a m ca) (ls.take m)) := ha.below hb8 (Nat.le_refl _)
     have hb8x : Hid (LxsAt w8 (.slice b (ls.length - m) cb) (ls.drop m)) := hb.below hb8 (Nat.le_refl _)
     clear ha hb hu6 hb8 hB6 hlm
     have r1h : Hid _ := r1
     have r2h : Hid _ := r2
     have hl8h : Hid (LxsAt w8 (.slice a2 ls.length c2) ls) := hl8
     have hu8h : Hid (LxsAt w8 (.slice (some ⟨g,0,none⟩) ls.length ls.length) ls) := hu8
     clear r1 r2 hl8 hu8
     have hrm : Hid (m < ls.length → H < 10 * m + 10) := (fun h => by omega : m < ls.length → H < 10 * m + 10)
     have hmle : m ≤ ls.length := by omega
     have hM := hm
     clear hM
     replace hm : Hid (min (H / 10) ls.length = m) := hm
     generalize hr : ls.length - m = r at *
     replace hr : Hid (ls.length - m = r) := hr
     go_wp2_with (first | (refine gd_build0 (by kernel_rfl) 23 47 rfl build0 ?_) | (refine gd_app_run (by kernel_rfl) (.tmp 87) (.tmp 88) 23 rfl (.slice (some ⟨w6.heap.size,0,none⟩) 0 0) (.slice a m ca) (.slice a1 m c1) w7 rfl rfl r1h.out ?_) | (refine gd_app_run (by kernel_rfl) (.tmp 89) (.tmp 90) 23 rfl (.slice a1 m c1) (.slice b r cb) (.slice a2 ls.length c2) w8 rfl rfl r2h.out ?_))
     clear r1h r2h
     refine (sameLines_yes _ _ ls w8 (by omega) hl8h.out hu8h.out).mono ?_
     rintro e w9 ⟨rfl,hb9⟩
     have hB9 : Hid (Below w.heap.size w w9) := hB8.out.trans (hb9.mono hB8.out.size)
     have hu9 : Hid (LxsAt w9 (.slice (some ⟨g,0,none⟩) ls.length ls.length) ls) := hu8h.out.below hb9 (Nat.le_refl _)
     have ha9 : Hid (LxsAt w9 (.slice a m ca) (ls.take m)) := ha8.out.below hb9 (Nat.le_refl _)
     have hb9x : Hid (LxsAt w9 (.slice b r cb) (ls.drop m)) := hb8x.out.below hb9 (Nat.le_refl _)
     clear hb9 hB8 hu8h ha8 hb8x hl8h
     go_wp2_with fail
     refine (nheight_any _ m _ (by omega) _).mono ?_
     rintro e w10 ⟨rfl,rfl⟩
     go_wp2_with fail
     case isTrue h0 =>
      have hx : ¬ (10 * (m : Int) + 10 ≤ (H : Int)) := by
       have h1 := hr.out
       have := hrm.out (by omega)
       omega
      refine (nheight_any _ m _ (by omega) _).mono ?_
      rintro e w10 ⟨rfl,rfl⟩
      go_wp2_with fail
      refine (nsplit_two hr.out hb9x.out hM (by omega)).mono ?_
      rintro e w11 ⟨m2,p,cp,q,cq,hm2,rfl,hp,hq,hb11⟩
      have hB11 : Hid (Below w.heap.size w w11) := hB9.out.trans (hb11.mono hB9.out.size)
      have hu11 : Hid (LxsAt w11 (.slice (some ⟨g,0,none⟩) ls.length ls.length) ls) := hu9.out.below hb11 (Nat.le_refl _)
      have ha11 : Hid (LxsAt w11 (.slice a m ca) (ls.take m)) := ha9.out.below hb11 (Nat.le_refl _)
      have hph : Hid (LxsAt w11 (.slice p m2 cp) ((ls.drop m).take m2)) := hp
      have hqh : Hid (LxsAt w11 (.slice q (r - m2) cq) ((ls.drop m).drop m2)) := hq
      have hm2h : Hid (m2 = min (M / 10) r) := hm2
      clear hp hq hb11 hB9 hu9 ha9 hb9x hm2
      generalize hr2 : r - m2 = r2 at *
      replace hr2 : Hid (r - m2 = r2) := hr2
      go_wp2_with fail
      refine (nheight_any _ m _ (by omega) _).mono ?_
      rintro e w12 ⟨rfl,rfl⟩
      go_wp2_with fail
      have hcast : (10 * (m : Int) + (M : Int)) = ((10 * m + M : Nat) : Int) := by omega
      rw [hcast]
      refine (nsplit_at _ ls (10 * m + M) (by omega) _ (by omega) hu11.out).mono ?_
      rintro e w13 ⟨a3,c3,b3,d3,rfl,h3,h4,hb13⟩
      clear hcast
      generalize hm3 : min ((10 * m + M) / 10) ls.length = m3 at *
      have e3 : m3 = min (m + M / 10) ls.length := by omega
      have hB13 : Hid (Below w.heap.size w w13) := hB11.out.trans (hb13.mono hB11.out.size)
      have ha13 := ha11.out.below hb13 (Nat.le_refl _)
      have hp13 := hph.out.below hb13 (Nat.le_refl _)
      have hq13 : Hid (LxsAt w13 (.slice q r2 cq) ((ls.drop m).drop m2)) := hqh.out.below hb13 (Nat.le_refl _)
      have hlm : (ls.take m).length + ((ls.drop m).take m2).length ≤ 100000 := by rw [List.length_take,List.length_take,List.length_drop]; omega
      obtain ⟨a4,c4,w14,a5,c5,w15,r1,r2x,hl15,hb15⟩ := cat_run ha13 hp13 hlm
      have et : ls.take m ++ (ls.drop m).take m2 = ls.take m3 := by rw [hm2h.out,← hr.out,e3]; exact take_two hmle
      have ed : (ls.drop m).drop m2 = ls.drop m3 := by rw [hm2h.out,← hr.out,e3]; exact drop_two hmle
      have hlen : (ls.take m).length = m := by rw [List.length_take]; omega
      have hlen3 : (ls.take m3).length = m3 := by rw [List.length_take]; omega
      rw [et,hlen3] at r2x hl15
      rw [hlen] at r1 r2x
      have hB15 : Hid (Below w.heap.size w w15) := hB13.out.trans (hb15.mono hB13.out.size)
      have h3' : Hid (LxsAt w15 (.slice a3 m3 c3) (ls.take m3)) := h3.below hb15 (Nat.le_refl _)
      have h4' : Hid (LxsAt w15 (.slice b3 (ls.length - m3) d3) (ls.drop m3)) := h4.below hb15 (Nat.le_refl _)
      have hq15 : Hid (LxsAt w15 (.slice q r2 cq) (ls.drop m3)) := by rw [← ed]; exact hq13.out.below hb15 (Nat.le_refl _)
      have r1h : Hid _ := r1
      have r2h : Hid _ := r2x
      have hl15h : Hid (LxsAt w15 (.slice a5 m3 c5) (ls.take m3)) := hl15
      have hlt3 : Hid ((ls.take m3).length ≤ 9223372036854775807 ∧ (ls.drop m3).length ≤ 9223372036854775807) := (by rw [hlen3,List.length_drop]; omega : (ls.take m3).length ≤ 9223372036854775807 ∧ (ls.drop m3).length ≤ 9223372036854775807)
      clear r1 r2x hl15 h3 h4 hb13 hb15 hB13 hB11 ha13 hp13 hq13 hqh hph ha11 hu11 hlm et ed hlen hlen3 hm2h hr hr2 hm hrm e3 hm3
      generalize ls.length - m3 = r3 at *
      go_wp2_with (first | (refine gd_build0 (by kernel_rfl) 23 47 rfl build0 ?_) | (refine gd_app_run (by kernel_rfl) (.tmp 139) (.tmp 140) 23 rfl (.slice (some ⟨w13.heap.size,0,none⟩) 0 0) (.slice a m ca) (.slice a4 m c4) w14 rfl rfl r1h.out ?_) | (refine gd_app_run (by kernel_rfl) (.tmp 141) (.tmp 142) 23 rfl (.slice a4 m c4) (.slice p m2 cp) (.slice a5 m3 c5) w15 rfl rfl r2h.out ?_))
      refine (sameLines_yes _ _ (ls.take m3) w15 hlt3.out.1 hl15h.out h3'.out).mono ?_
      rintro e w16 ⟨rfl,hb16⟩
      have hB16 : Hid (Below w.heap.size w w16) := hB15.out.trans (hb16.mono hB15.out.size)
      have hq16 : Hid (LxsAt w16 (.slice q r2 cq) (ls.drop m3)) := hq15.out.below hb16 (Nat.le_refl _)
      have h16 : Hid (LxsAt w16 (.slice b3 r3 d3) (ls.drop m3)) := h4'.out.below hb16 (Nat.le_refl _)
      clear hb16 hB15 hq15 h4' hl15h h3' r1h r2h
      go_wp2_with fail
      refine (sameLines_yes _ _ (ls.drop m3) w16 hlt3.out.2 hq16.out h16.out).mono ?_
      rintro e w17 ⟨rfl,hb17⟩
      have hB17 := hB16.out.trans (hb17.mono hB16.out.size)
      clear hb17 hB16 hq16 h16
      go_wp2_with fail
      go_ret
      exact ⟨rfl,hB17⟩
     refine (nsplit_two hr.out hb9x.out hM (by omega)).mono ?_
     rintro e w11 ⟨m2,p,cp,q,cq,hm2,rfl,hp,hq,hb11⟩
     have hB11 : Hid (Below w.heap.size w w11) := hB9.out.trans (hb11.mono hB9.out.size)
     have hu11 : Hid (LxsAt w11 (.slice (some ⟨g,0,none⟩) ls.length ls.length) ls) := hu9.out.below hb11 (Nat.le_refl _)
     have ha11 : Hid (LxsAt w11 (.slice a m ca) (ls.take m)) := ha9.out.below hb11 (Nat.le_refl _)
     have hph : Hid (LxsAt w11 (.slice p m2 cp) ((ls.drop m).take m2)) := hp
     have hqh : Hid (LxsAt w11 (.slice q (r - m2) cq) ((ls.drop m).drop m2)) := hq
     have hm2h : Hid (m2 = min (M / 10) r) := hm2
     clear hp hq hb11 hB9 hu9 ha9 hb9x hm2
     generalize hr2 : r - m2 = r2 at *
     replace hr2 : Hid (r - m2 = r2) := hr2
     go_wp2_with fail
     refine (nheight_any _ m _ (by omega) _).mono ?_
     rintro e w12 ⟨rfl,rfl⟩
     go_wp2_with fail
     have hcast : (10 * (m : Int) + (M : Int)) = ((10 * m + M : Nat) : Int) := by omega
     rw [hcast]
     refine (nsplit_at _ ls (10 * m + M) (by omega) _ (by omega) hu11.out).mono ?_
     rintro e w13 ⟨a3,c3,b3,d3,rfl,h3,h4,hb13⟩
     clear hcast
     generalize hm3 : min ((10 * m + M) / 10) ls.length = m3 at *
     have e3 : m3 = min (m + M / 10) ls.length := by omega
     have hB13 : Hid (Below w.heap.size w w13) := hB11.out.trans (hb13.mono hB11.out.size)
     have ha13 := ha11.out.below hb13 (Nat.le_refl _)
     have hp13 := hph.out.below hb13 (Nat.le_refl _)
     have hq13 : Hid (LxsAt w13 (.slice q r2 cq) ((ls.drop m).drop m2)) := hqh.out.below hb13 (Nat.le_refl _)
     have hlm : (ls.take m).length + ((ls.drop m).take m2).length ≤ 100000 := by rw [List.length_take,List.length_take,List.length_drop]; omega
     obtain ⟨a4,c4,w14,a5,c5,w15,r1,r2x,hl15,hb15⟩ := cat_run ha13 hp13 hlm
     have et : ls.take m ++ (ls.drop m).take m2 = ls.take m3 := by rw [hm2h.out,← hr.out,e3]; exact take_two hmle
     have ed : (ls.drop m).drop m2 = ls.drop m3 := by rw [hm2h.out,← hr.out,e3]; exact drop_two hmle
     have hlen : (ls.take m).length = m := by rw [List.length_take]; omega
     have hlen3 : (ls.take m3).length = m3 := by rw [List.length_take]; omega
     rw [et,hlen3] at r2x hl15
     rw [hlen] at r1 r2x
     have hB15 : Hid (Below w.heap.size w w15) := hB13.out.trans (hb15.mono hB13.out.size)
     have h3' : Hid (LxsAt w15 (.slice a3 m3 c3) (ls.take m3)) := h3.below hb15 (Nat.le_refl _)
     have h4' : Hid (LxsAt w15 (.slice b3 (ls.length - m3) d3) (ls.drop m3)) := h4.below hb15 (Nat.le_refl _)
     have hq15 : Hid (LxsAt w15 (.slice q r2 cq) (ls.drop m3)) := by rw [← ed]; exact hq13.out.below hb15 (Nat.le_refl _)
     have r1h : Hid _ := r1
     have r2h : Hid _ := r2x
     have hl15h : Hid (LxsAt w15 (.slice a5 m3 c5) (ls.take m3)) := hl15
     have hlt3 : Hid ((ls.take m3).length ≤ 9223372036854775807 ∧ (ls.drop m3).length ≤ 9223372036854775807) := (by rw [hlen3,List.length_drop]; omega : (ls.take m3).length ≤ 9223372036854775807 ∧ (ls.drop m3).length ≤ 9223372036854775807)
     clear r1 r2x hl15 h3 h4 hb13 hb15 hB13 hB11 ha13 hp13 hq13 hqh hph ha11 hu11 hlm et ed hlen hlen3 hm2h hr hr2 hm hrm e3 hm3
     generalize ls.length - m3 = r3 at *
     go_wp2_with (first | (refine gd_build0 (by kernel_rfl) 23 47 rfl build0 ?_) | (refine gd_app_run (by kernel_rfl) (.tmp 139) (.tmp 140) 23 rfl (.slice (some ⟨w13.heap.size,0,none⟩) 0 0) (.slice a m ca) (.slice a4 m c4) w14 rfl rfl r1h.out ?_) | (refine gd_app_run (by kernel_rfl) (.tmp 141) (.tmp 142) 23 rfl (.slice a4 m c4) (.slice p m2 cp) (.slice a5 m3 c5) w15 rfl rfl r2h.out ?_))
     refine (sameLines_yes _ _ (ls.take m3) w15 hlt3.out.1 hl15h.out h3'.out).mono ?_
     rintro e w16 ⟨rfl,hb16⟩
     have hB16 : Hid (Below w.heap.size w w16) := hB15.out.trans (hb16.mono hB15.out.size)
     have hq16 : Hid (LxsAt w16 (.slice q r2 cq) (ls.drop m3)) := hq15.out.below hb16 (Nat.le_refl _)
     have h16 : Hid (LxsAt w16 (.slice b3 r3 d3) (ls.drop m3)) := h4'.out.below hb16 (Nat.le_refl _)
     clear hb16 hB15 hq15 h4' hl15h h3' r1h r2h
     go_wp2_with fail
     refine (sameLines_yes _ _ (ls.drop m3) w16 hlt3.out.2 hq16.out h16.out).mono ?_
     rintro e w17 ⟨rfl,hb17⟩
     have hB17 := hB16.out.trans (hb17.mono hB16.out.size)
     clear hb17 hB16 hq16 h16
     go_wp2_with fail
     go_ret
     exact ⟨rfl,hB17⟩
end Go.Proofs.YtlgcnbomfhmjiaaGreatDoor
