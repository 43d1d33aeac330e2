/-
  What is proved here: what reach of least answers.
-/
import Derived.Test.YtfndocmgonlhpaaGreatDoorG27
namespace Go.Proofs.YtfndocmgonlhpaaGreatDoor
open Go.RowKit Go.Shelf
set_option maxRecDepth 100000
set_option maxHeartbeats 4000000

def reS (P : Pl) (b : Nat) (wd : Int) (m : Option Wy) (x : Re) : Option Wy :=
 if dmB (P.sts.getD x.s st0) (P.sts.getD b st0) wd = true then
  match m with
  | none => some ⟨x.y.d + dmV (P.sts.getD x.s st0) (P.sts.getD b st0) wd,x.y.n + 1,x.s⟩
  | some y => if cmpW ⟨x.y.d + dmV (P.sts.getD x.s st0) (P.sts.getD b st0) wd,x.y.n + 1,x.s⟩ y < 0 then some ⟨x.y.d + dmV (P.sts.getD x.s st0) (P.sts.getD b st0) wd,x.y.n + 1,x.s⟩ else some y
 else m
def reG (P : Pl) (b : Nat) (wd : Int) : List Re → Option Wy → Option Wy
 | [],m => m
 | x :: r,m => reG P b wd r (reS P b wd m x)
def reO (P : Pl) (b : Nat) (wd : Int) (L : List Re) : Option Wy := reG P b wd L none
theorem reG_go {P : Pl} {b : Nat} {wd : Int} {L : List Re} {k : Nat} {m : Option Wy} (hk : k < L.length) : reG P b wd (L.drop k) m = reG P b wd (L.drop (k + 1)) (reS P b wd m L[k]) := by
 rw [List.drop_eq_getElem_cons hk]; rfl
def ReOk (P : Pl) (L : List Re) : Prop := ∀ x ∈ L,x.s < P.sts.length ∧ (0 ≤ x.y.d ∧ x.y.d ≤ 1406984396800) ∧ x.y.n ≤ 8192
structure RhI (z : World) (m : Wy) (W : World) : Prop where
 low : Below z.heap.size z W
 r0 : W.heap[z.heap.size]? = some (.cells (wyL wy0).toArray 58 (0,0))
 m : W.heap[z.heap.size + 1]? = some (.cells (wyL m).toArray 58 (0,0))
theorem RhI.next {z : World} {m : Wy} {W W' : World} (h : RhI z m W) (hb : Below W.heap.size W W') : RhI z m W' := ⟨h.low.trans (hb.mono h.low.size),(hb.block _ (Array.getElem?_eq_some_iff.1 h.r0).1).trans h.r0,(hb.block _ (Array.getElem?_eq_some_iff.1 h.m).1).trans h.m⟩
theorem RhI.set {z : World} {m : Wy} {W : World} (h : RhI z m W) (x : Wy) : RhI z x (W.setRow (z.heap.size + 1) (wyL x).toArray) := by
 have ht := Turns.setRow (X := fun k => k = z.heap.size + 1) W rfl (wyL x).toArray
 exact ⟨h.low.trans (ht.below h.low.size (fun k hk => by omega)),(ht.block _ (Array.getElem?_eq_some_iff.1 h.r0).1 (by omega)).trans h.r0,setRow_heap _ _ _ _ _ _ h.m⟩
theorem reach_any (l : List It) (P : Pl) (hO : PlOk l P) (v : Value) (L : List Re) (hL : L.length ≤ 9000) (hr : ReOk P L) (b : Nat) (hb : b < P.sts.length) (wd : Int) (hwd : 0 ≤ wd ∧ wd ≤ 4095) (w : World) (hP : PlS P w) (hV : ResAt w v L) :
  Calls Tryz.prog 65 #[.pointer (some ⟨P.B,0,none⟩),v,.int .i64 b,.int .i64 wd] w fun e w' => e = .returned (.tuple #[.agg (wyL ((reO P b wd L).getD wy0)).toArray,.bool (reO P b wd L).isSome]) ∧ Below w.heap.size w w' := by
 obtain ⟨a,cp,rfl,-⟩ := hV.ex
 have h9 : (L.length : Int) ≤ 9000 := by omega
 have hI0 : Hid (RhI w wy0 ((w.alloc (.cells #[.int .i64 0,.int .i64 0,.int .i64 0] 58)).alloc (.cells #[.int .i64 0,.int .i64 0,.int .i64 0] 58))) := ⟨below2 w _ _,(Below.heap_alloc _ _ _ (by simp)).trans (World.alloc_heap_new w _),alloc2_heap w _ _⟩
 have hat : Hid (∀ i (hi : i < L.length),∃ g o,a = some ⟨g,o,none⟩ ∧ ∀ W,Below w.heap.size w W → RhS P g (o + i * 4) L[i] W) := fun i hi => by
  obtain ⟨g,o,e,hg,hc⟩ := res_at hV hi
  refine ⟨g,o,e,fun W hW => ?_⟩
  obtain ⟨d0,d1,d2,d3⟩ := hc W hW
  exact ⟨hP.below hW,d0,d1,d2,d3,Nat.lt_of_lt_of_le hg hW.size⟩
 have hdm : Hid (∀ (x : Re) (ha : x.s < P.sts.length) W,PlS P W → Calls Tryz.prog 53 #[.pointer (some ⟨P.gs,P.os + x.s * 12,none⟩),.pointer (some ⟨P.gs,P.os + b * 12,none⟩),.int .i64 wd] W fun e w' => e = .returned (.tuple #[.int .i64 (dmV (P.sts[x.s]'ha) (P.sts[b]'hb) wd),.bool (dmB (P.sts[x.s]'ha) (P.sts[b]'hb) wd)]) ∧ Below W.heap.size W w') := fun x ha W hW => by
  have h1 := hO.f _ (List.getElem_mem ha)
  have h2 := hO.f _ (List.getElem_mem hb)
  exact demerits_any _ _ _ _ _ _ _ h1.2 h2.2 (ln_ok hO.ck h1.1 h2.1) hwd W (hW.st _ ha) (hW.st _ hb)
 have hdr : Hid (∀ (x : Re) (ha : x.s < P.sts.length),dmB (P.sts[x.s]'ha) (P.sts[b]'hb) wd = true → 100 ≤ dmV (P.sts[x.s]'ha) (P.sts[b]'hb) wd ∧ dmV (P.sts[x.s]'ha) (P.sts[b]'hb) wd ≤ 171751025) := fun x ha h => by
  have h1 := hO.f _ (List.getElem_mem ha)
  have h2 := hO.f _ (List.getElem_mem hb)
  exact dmV_rng h2.2 (ln_ok hO.ck h1.1 h2.1) h
 have hok : Hid (ReOk P L) := hr
 have hgo : Hid (∀ k (hk : k < L.length) m,reG P b wd (L.drop k) m = reG P b wd (L.drop (k + 1)) (reS P b wd m L[k])) := fun k hk m => reG_go hk
 have hR0 : Hid (reG P b wd (L.drop 0) none = reO P b wd L) := by show _ = _; rw [List.drop_zero]; rfl
 have hb' : (b : Int) < P.sts.length := by omega
 have hsd : Hid (∀ (x : Re) (ha : x.s < P.sts.length) m,reS P b wd m x = if dmB (P.sts[x.s]'ha) (P.sts[b]'hb) wd = true then (match m with | none => some ⟨x.y.d + dmV (P.sts[x.s]'ha) (P.sts[b]'hb) wd,x.y.n + 1,x.s⟩ | some y => if cmpW ⟨x.y.d + dmV (P.sts[x.s]'ha) (P.sts[b]'hb) wd,x.y.n + 1,x.s⟩ y < 0 then some ⟨x.y.d + dmV (P.sts[x.s]'ha) (P.sts[b]'hb) wd,x.y.n + 1,x.s⟩ else some y) else m) := fun x ha m => by unfold reS; rw [st_d ha,st_d hb]
 clear hV hP hr hO
 generalize reO P b wd L = R at *
 go_enter Tryz.func65,Tryz.ntmps65
 go_wp2_with fail
 generalize ((w.alloc (.cells #[.int .i64 0,.int .i64 0,.int .i64 0] 58)).alloc (.cells #[.int .i64 0,.int .i64 0,.int .i64 0] 58)) = wz at *
 go_loopw [11,19] (fun v11 v19 wr => ∃ (k : Nat) (m : Option Wy),k ≤ L.length ∧ v19 = .int .i64 k ∧ v11 = .bool m.isSome ∧ Hid (RhI w (m.getD wy0) wr) ∧ Hid (reG P b wd (L.drop k) m = R)) (fun _ v19 _ => L.length - (intOf v19).toNat)
 case atStart => exact ⟨0,none,by omega,rfl,rfl,hI0,hR0⟩
 case round =>
  obtain ⟨k,m,hk,rfl,rfl,hI,hr⟩ := hrel
  clear hI0 hR0
  by_cases hlt : k < L.length
  ·have hlt' : (k : Int) < L.length := by omega
   obtain ⟨g,o,rfl,hRS⟩ := hat.out k hlt
   obtain ⟨ha,⟨y1,y2⟩,y3⟩ := hok.out _ (List.getElem_mem hlt)
   have ha' : (L[k].s : Int) < P.sts.length := by omega
   have hg := hgo.out k hlt m
   rw [hr.out,hsd.out L[k] ha m] at hg
   have hdm1 := hdm.out L[k] ha
   have hdr1 := hdr.out L[k] ha
   have hRSh : Hid (∀ W,Below w.heap.size w W → RhS P g (o + k * 4) L[k] W) := hRS
   clear hRS hr hat hok hgo hdm hdr hsd
   generalize L[k] = x at *
   have hdmh : Hid (∀ W,PlS P W → Calls Tryz.prog 53 #[.pointer (some ⟨P.gs,P.os + x.s * 12,none⟩),.pointer (some ⟨P.gs,P.os + b * 12,none⟩),.int .i64 wd] W fun e w' => e = .returned (.tuple #[.int .i64 (dmV (P.sts[x.s]'ha) (P.sts[b]'hb) wd),.bool (dmB (P.sts[x.s]'ha) (P.sts[b]'hb) wd)]) ∧ Below W.heap.size W w') := hdm1
   have hdrh : Hid (dmB (P.sts[x.s]'ha) (P.sts[b]'hb) wd = true → 100 ≤ dmV (P.sts[x.s]'ha) (P.sts[b]'hb) wd ∧ dmV (P.sts[x.s]'ha) (P.sts[b]'hb) wd ≤ 171751025) := hdr1
   have hgh : Hid (R = _) := hg
   clear hdm1 hdr1 hg
   go_wp2_with fail
   refine rh_r7 _ (fun _ _ _ _ _ h => h) _ _ P g (o + k * 4) b x wd wr (hRSh.out wr hI.out.low).drew ha hb ha' hb' hdmh ?_
   intro w2 hb2
   have hI2 : Hid (RhI w (m.getD wy0) w2) := hI.out.next hb2
   have hS2 : Hid (RhS P g (o + k * 4) x w2) := hRSh.out w2 hI2.out.low
   clear hb2 hI hRSh hdmh
   cases hd : dmB (P.sts[x.s]'ha) (P.sts[b]'hb) wd with
   | false =>
    rw [hd] at hgh
    have hg2 : Hid (reG P b wd (L.drop (k + 1)) m = R) := by have := hgh.out; rw [if_neg (by decide)] at this; exact this.symm
    clear hgh hdrh hd hS2
    unfold fr65
    go_wp2_with fail
    exact ⟨⟨k + 1,m,by omega,by simp,rfl,hI2,hg2⟩,by simp [intOf]; omega⟩
   | true =>
    obtain ⟨d1,d2⟩ := hdrh.out hd
    rw [hd] at hgh
    have hg2 := hgh.out
    rw [if_pos rfl] at hg2
    have hg2h : Hid (R = _) := hg2
    clear hgh hdrh hd hg2
    generalize dmV (P.sts[x.s]'ha) (P.sts[b]'hb) wd = dv at *
    unfold fr65
    go_wp2_with fail
    refine rh_r9 _ (fun _ _ _ _ _ h => h) _ _ P g (o + k * 4) x dv w2 hS2.out.drew y1 y2 (by omega) d2 (by omega) ?_
    intro w3 hb3 hT3
    have hI3 : Hid (RhI w (m.getD wy0) w3) := hI2.out.next hb3
    have hm3 := hI3.out.m
    have hTne : Hid (w2.heap.size ≠ w.heap.size + 1 ∧ w2.heap.size ≠ w.heap.size) := by
     have := (Array.getElem?_eq_some_iff.1 hI2.out.m).1
     exact ⟨by omega,by omega⟩
    clear hb3 hI2 hS2
    generalize w2.heap.size = T at *
    cases m with
    | none =>
     have hg3 : Hid (reG P b wd (L.drop (k + 1)) (some ⟨x.y.d + dv,x.y.n + 1,x.s⟩) = R) := hg2h.out.symm
     have hI4 : Hid (RhI w ⟨x.y.d + dv,x.y.n + 1,x.s⟩ (w3.setRow (w.heap.size + 1) (wyL ⟨x.y.d + dv,x.y.n + 1,x.s⟩).toArray)) := hI3.out.set _
     clear hg2h
     unfold fr65
     go_wp2_with (first | (refine wpList_load_row rfl 58 _ rfl T rfl 58 _ (0,0) _ hT3 Tryz.underlying58 rfl (info58 _) ?_) | (refine wpList_store_row rfl 58 _ _ rfl (w.heap.size + 1) (wyL ⟨x.y.d + dv,x.y.n + 1,x.s⟩).toArray rfl rfl 58 _ hm3 (info58 _) rfl (wyL_all _) ?_; generalize w3.setRow (w.heap.size + 1) (wyL ⟨x.y.d + dv,x.y.n + 1,x.s⟩).toArray = w4 at *))
     exact ⟨⟨k + 1,some ⟨x.y.d + dv,x.y.n + 1,x.s⟩,by omega,by simp,rfl,hI4,hg3⟩,by simp [intOf]; omega⟩
    | some y =>
     have hcm := compare_any ⟨x.y.d + dv,x.y.n + 1,x.s⟩ y w3
     have hcmh : Hid (Calls Tryz.prog 36 #[.agg (wyL ⟨x.y.d + dv,x.y.n + 1,x.s⟩).toArray,.agg (wyL y).toArray] w3 fun e w' => e = .returned (.int .i64 (cmpW ⟨x.y.d + dv,x.y.n + 1,x.s⟩ y)) ∧ Below w3.heap.size w3 w') := hcm
     have hk5 : Hid (∀ W,Below w3.heap.size w3 W → RhI w y W ∧ W.heap[T]? = some (.cells (wyL ⟨x.y.d + dv,x.y.n + 1,x.s⟩).toArray 58 (0,0))) := fun W hW => ⟨hI3.out.next hW,(hW.block _ (Array.getElem?_eq_some_iff.1 hT3).1).trans hT3⟩
     have hg3 := hg2h.out
     simp only at hg3
     clear hcm hg2h
     by_cases hc : cmpW ⟨x.y.d + dv,x.y.n + 1,x.s⟩ y < 0
     ·rw [if_pos hc] at hg3
      have hg4 : Hid (reG P b wd (L.drop (k + 1)) (some ⟨x.y.d + dv,x.y.n + 1,x.s⟩) = R) := hg3.symm
      have hst : Hid (∀ W,RhI w y W → RhI w ⟨x.y.d + dv,x.y.n + 1,x.s⟩ (W.setRow (w.heap.size + 1) (wyL ⟨x.y.d + dv,x.y.n + 1,x.s⟩).toArray)) := fun W h => h.set _
      clear hg3 hI3
      unfold fr65
      go_wp2_with (first | (refine wpList_load_want 58 _ rfl rfl T rfl 58 _ (0,0) _ hT3 Tryz.underlying58 rfl (info58 _) ?_) | (refine wpList_load_want 58 _ rfl rfl (w.heap.size + 1) rfl 58 _ (0,0) _ hm3 Tryz.underlying58 rfl (info58 _) ?_) | (go_at_call 36; refine hcmh.out.mono ?_; rintro e w5 ⟨rfl,hb5⟩; obtain ⟨n1,n2⟩ := hk5.out w5 hb5; have n1h : Hid (RhI w y w5) := n1; have n3 := n1.m; have hb5h : Hid (Below w3.heap.size w3 w5) := hb5; clear hb5 n1 hcmh hk5 hT3 hm3) | (refine wpList_load_row rfl 58 _ rfl T rfl 58 _ (0,0) _ n2 Tryz.underlying58 rfl (info58 _) ?_) | (refine wpList_store_row rfl 58 _ _ rfl (w.heap.size + 1) (wyL ⟨x.y.d + dv,x.y.n + 1,x.s⟩).toArray rfl rfl 58 _ n3 (info58 _) rfl (wyL_all _) ?_; have hI6 : Hid (RhI w ⟨x.y.d + dv,x.y.n + 1,x.s⟩ (w5.setRow (w.heap.size + 1) (wyL ⟨x.y.d + dv,x.y.n + 1,x.s⟩).toArray)) := hst.out w5 n1h.out; generalize w5.setRow (w.heap.size + 1) (wyL ⟨x.y.d + dv,x.y.n + 1,x.s⟩).toArray = w6 at *))
      exact ⟨⟨k + 1,some ⟨x.y.d + dv,x.y.n + 1,x.s⟩,by omega,by simp,rfl,hI6,hg4⟩,by simp [intOf]; omega⟩
     ·rw [if_neg hc] at hg3
      have hg4 : Hid (reG P b wd (L.drop (k + 1)) (some y) = R) := hg3.symm
      clear hg3 hI3
      unfold fr65
      go_wp2_with (first | (refine wpList_load_want 58 _ rfl rfl T rfl 58 _ (0,0) _ hT3 Tryz.underlying58 rfl (info58 _) ?_) | (refine wpList_load_want 58 _ rfl rfl (w.heap.size + 1) rfl 58 _ (0,0) _ hm3 Tryz.underlying58 rfl (info58 _) ?_) | (go_at_call 36; refine hcmh.out.mono ?_; rintro e w5 ⟨rfl,hb5⟩; obtain ⟨n1,n2⟩ := hk5.out w5 hb5; have n1h : Hid (RhI w y w5) := n1; have n3 := n1.m; have hb5h : Hid (Below w3.heap.size w3 w5) := hb5; clear hb5 n1 hcmh hk5 hT3 hm3))
      exact ⟨⟨k + 1,some y,by omega,by simp,rfl,n1h,hg4⟩,by simp [intOf]; omega⟩
  ·have hge : ¬ (k : Int) < L.length := by omega
   have hRm : Hid (R = m) := by
    have := hr.out
    rw [List.drop_of_length_le (by omega)] at this
    exact this.symm
   have r0 := hI.out.r0
   have hm := hI.out.m
   have hlow : Hid (Below w.heap.size w wr) := hI.out.low
   clear hr hat hok hgo hdm hdr hsd hI
   go_wp2_with (first | (refine wpList_load_row rfl 58 _ rfl (w.heap.size + 1) rfl 58 _ (0,0) _ hm Tryz.underlying58 rfl (info58 _) ?_) | (refine wpList_store_row rfl 58 _ _ rfl w.heap.size (wyL (m.getD wy0)).toArray rfl rfl 58 _ r0 (info58 _) rfl (wyL_all _) ?_))
   exact bodyPost_ret (results_cell_row2 rfl _ _ w.heap.size 58 _ (0,0) _ rfl (setRow_heap _ _ _ _ _ _ r0) Tryz.underlying58 rfl (info58 _)) rfl ⟨by rw [hRm.out]; rfl,hlow.out.trans ((Turns.setRow (X := fun k => k = w.heap.size) _ rfl _).below hlow.out.size (fun k hk => by omega))⟩
end Go.Proofs.YtfndocmgonlhpaaGreatDoor
