/-
  What is proved here: FirstFits answers true.
-/
import Derived.Test.YtnnlfeimebiboaaGreatDoorG40
import Derived.Test.YtnnlfeimebiboaaGreatDoorG41
namespace Go.Proofs.YtnnlfeimebiboaaGreatDoor
open Go.RowKit Go.Shelf

set_option maxRecDepth 100000 in
set_option maxHeartbeats 4000000 in
theorem fits_go (v vs : Value) (l : List It) (ss : List Sl) (r : Sl) (hs : ss.length ≤ 9223372036854775807) (w : World) (hS : ItsAt w v l) (hV : SlsAt w vs ss) (h : brE l ss r = 0) (hl : ¬ 200 < l.length) :
    Calls Tryz.prog 5 #[v, vs, .agg (slL r).toArray] w fun e w' => e = .returned (.bool true) ∧ Below w.heap.size w w' := by
  obtain ⟨a, cap, rfl, -⟩ := hS.ex
  obtain ⟨a2, cap2, rfl, -⟩ := hV.ex
  have hB := (Below.refl w.heap.size w).alloc (Nat.le_refl _) (.cells #[.int .i64 r.x, .int .i64 r.w] 25)
  have hS1 := hS.below hB (Nat.le_refl _)
  have hV1 := hV.below hB (Nat.le_refl _)
  have hD : (w.alloc (.cells #[.int .i64 r.x, .int .i64 r.w] 25)).heap[w.heap.size]? = some (.cells #[.int .i64 r.x, .int .i64 r.w] 25 (0, 0)) := World.alloc_heap_new w _
  have hlt : w.heap.size < (w.alloc (.cells #[.int .i64 r.x, .int .i64 r.w] 25)).heap.size := by simp
  have hBh : Hid (Below w.heap.size w (w.alloc (.cells #[.int .i64 r.x, .int .i64 r.w] 25))) := hB
  show Calls Tryz.prog 5 #[.slice a l.length cap, .slice a2 ss.length cap2, .agg #[.int .i64 r.x, .int .i64 r.w]] w _
  generalize hwz : (w.alloc (.cells #[.int .i64 r.x, .int .i64 r.w] 25)) = wz at *
  have hcl : Hid (∀ W, Below wz.heap.size wz W → W.cell? ⟨w.heap.size, 0, none⟩ = some (.int .i64 r.x) ∧ W.cell? ⟨w.heap.size, 1, none⟩ = some (.int .i64 r.w)) := fun W hW => by
    have := (hW.block _ hlt).trans hD
    exact ⟨by rw [Lib.cell_of_heap this]; rfl, by rw [Lib.cell_of_heap this]; rfl⟩
  have f4 : Hid (Calls Tryz.prog 4 #[] wz fun e w' => e = .returned (.bool true) ∧ Below wz.heap.size wz w') := known4 wz
  have hck : ckL l = 0 := by
    unfold brE at h
    split at h
    · rename_i h1; exact absurd h h1
    · rename_i h1; exact Decidable.not_not.1 h1
  have hcs : ckS ss r = 0 := by
    unfold brE at h
    rwa [if_neg (by simpa using hck)] at h
  have f8 : Hid (∀ W, Below wz.heap.size wz W → Calls Tryz.prog 8 #[.slice a l.length cap, .slice a2 ss.length cap2, .agg #[.int .i64 r.x, .int .i64 r.w]] W fun e w' => (∃ va vc, e = .returned (.tuple #[.slice va (lsL l ss r).length vc, .int .i64 0]) ∧ Hid (PcsAt w' (.slice va (lsL l ss r).length vc) (lsL l ss r))) ∧ Below wz.heap.size wz w') := fun W hW => by
    refine (break_any _ _ l ss r hs W (hS1.below hW (Nat.le_refl _)) (hV1.below hW (Nat.le_refl _))).mono ?_
    rintro e w' ⟨⟨v, rfl, hv⟩, hb⟩
    refine ⟨?_, hW.trans (hb.mono hW.size)⟩
    rw [h] at hv ⊢
    rcases hv with ⟨h1, _⟩ | ⟨_, hv⟩
    · exact absurd rfl h1
    · have hv2 := hv
      obtain ⟨va, vc, rfl, -⟩ := hv.ex
      exact ⟨_, _, rfl, hv2⟩
  have f13 : Hid (∀ (n : Nat) W, Below wz.heap.size wz W → Calls Tryz.prog 13 #[.slice a2 ss.length cap2, .agg #[.int .i64 r.x, .int .i64 r.w], .int .i64 (n : Nat)] W fun e w' => e = .returned (.agg #[.int .i64 (slN ss r n).x, .int .i64 (slN ss r n).w]) ∧ Below W.heap.size W w') := fun n W hW => by
    have := fslot_any _ ss r n hs W (hV1.below hW (Nat.le_refl _))
    rwa [slI_nat] at this
  have f19 : Hid (∀ (a0 b0 n : Nat) W, a0 ≤ b0 → b0 ≤ l.length → Below wz.heap.size wz W → Calls Tryz.prog 19 #[.slice a l.length cap, .int .i64 (a0 : Nat), .int .i64 (b0 : Nat), .int .i64 (slN ss r n).x] W fun e w' => e = .returned (.tuple #[.int .i64 (ntV l a0 b0 (slN ss r n).x), .int .i64 0]) ∧ Below W.heap.size W w') := fun a0 b0 n W h1 h2 hW => by
    have h3 := wi_nt hck h1 h2 (okS_rng (slN_ok hcs n)).1
    have := iwidth_any _ l a0 b0 (slN ss r n).x W (hS1.below hW (Nat.le_refl _))
    rwa [h3.1, h3.2] at this
  have f20 : Hid (∀ (b0 : Nat) W, b0 ≤ l.length → enB l b0 = true → Below wz.heap.size wz W → Calls Tryz.prog 20 #[.slice a l.length cap, .int .i64 (b0 : Nat)] W fun e w' => e = .returned (.bool true) ∧ Below W.heap.size W w') := fun b0 W h1 h2 hW => by
    have := legal_any _ l b0 W (hS1.below hW (Nat.le_refl _))
    rwa [lg_en hck h1, h2] at this
  have f21 : Hid (∀ (b0 : Nat) W, b0 ≤ l.length → Below wz.heap.size wz W → Calls Tryz.prog 21 #[.slice a l.length cap, .int .i64 (b0 : Nat)] W fun e w' => e = .returned (.int .i64 (nxI l b0)) ∧ Below W.heap.size W w') := fun b0 W h1 hW => next_any _ l b0 hck h1 W (hS1.below hW (Nat.le_refl _))
  have hkd : Hid (∀ i, i < l.length → ∃ g o, a = some ⟨g, o, none⟩ ∧ ∀ W, Below wz.heap.size wz W → W.cell? ⟨g, o + i * 8, none⟩ = some (.int .i64 (itAt l i).k)) := fun i hi => by
    obtain ⟨g, o, e, _, h⟩ := its_at hS1 hi
    exact ⟨g, o, e, fun W hW => by rw [itAt_is hi]; exact (h W hW).c0⟩
  have hLk : Hid (∀ k, k < (lsL l ss r).length → LkF l ss r (lsL l ss r) k) := fun k hk => lsL_line hk
  obtain ⟨hTp, hTl⟩ := lsL_tail (l := l) (ss := ss) (r := r)
  have hTh : Hid (∀ i, atP (lsL l ss r) (lsL l ss r).length ≤ i → i < l.length → (itAt l i).k = 2 ∨ (i = atP (lsL l ss r) (lsL l ss r).length ∧ (itAt l i).k = 3)) := hTl
  have hFew := lsL_few (l := l) (ss := ss) (r := r)
  have hnt : Hid (∀ (a0 b0 n : Nat), a0 ≤ b0 → b0 ≤ l.length → 0 ≤ ntV l a0 b0 (slN ss r n).x ∧ ntV l a0 b0 (slN ss r n).x ≤ 524288 * 8193) := fun a0 b0 n h1 h2 => nt_rng hck (okS_rng (slN_ok hcs n)).1.1 h1 h2
  have hsr : Hid (∀ n : Nat, 0 ≤ (slN ss r n).w ∧ (slN ss r n).w ≤ 4095) := fun n => (okS_rng (slN_ok hcs n)).2
  have q1 : ((0 : Int) != 0) = false := rfl
  have q2 : ¬ (200 : Int) < l.length := by omega
  have hl2 : (l.length : Int) ≤ 200 := by omega
  clear hS hV hS1 hV1 hD hlt hB hTl hck hcs
  generalize lsL l ss r = R at *
  go_enter Tryz.func5, Tryz.ntmps5
  go_wp2_with (first | (go_at_call 4; refine f4.out.mono ?_; rintro e w1 ⟨rfl, hb1⟩; obtain ⟨x1, x2⟩ := hcl.out w1 hb1) | (go_at_call 8; refine (f8.out w1 hb1).mono ?_; rintro e w2 ⟨⟨va, vc, rfl, hP⟩, hb2⟩))
  clear f4 f8 x1 x2
  go_loopw [10, 11] (fun i j wr => ∃ n : Nat, n ≤ R.length ∧ i = .int .i64 (atP R n : Nat) ∧ j = .int .i64 n ∧ Below w2.heap.size w2 wr) (fun _ j _ => R.length - (intOf j).toNat)
  case atStart => exact ⟨0, by omega, rfl, rfl, Below.refl _ _⟩
  case round =>
    obtain ⟨n, hn, rfl, rfl, hb⟩ := hrel
    by_cases hnl : n < R.length
    · have hnl' : (n : Int) < R.length := by omega
      obtain ⟨⟨ho1, ho2, ho3⟩, hgap, hline⟩ := hLk.out n hnl
      have hgaph : Hid (∀ i, atP R n ≤ i → i < (pcAt R n).a → (itAt l i).k = 2 ∨ (n ≠ 0 ∧ i = atP R n ∧ (itAt l i).k = 3)) := hgap
      have hlineh : Hid ((R.length = 1 ∧ (pcAt R n).a = l.length) ∨ ((pcAt R n).a < l.length ∧ LnF l (pcAt R n).a (slN ss r n) (pcAt R n))) := hline
      have hatn : Hid (atP R (n + 1) = (pcAt R n).b) := by unfold atP; rw [if_neg (by omega)]; rfl
      have hprev : Hid (n ≠ 0 → atP R n = (pcAt R (n - 1)).b) := fun h => by unfold atP; rw [if_neg h]
      obtain ⟨gp, op, hpc⟩ : ∃ g o, va = some ⟨g, o, none⟩ ∧ ∀ k, k < R.length → ∀ W, Below w2.heap.size w2 W → W.cell? ⟨g, o + k * 5, none⟩ = some (.int .i64 ((pcAt R k).a : Nat)) ∧ W.cell? ⟨g, o + k * 5 + 1, none⟩ = some (.int .i64 ((pcAt R k).b : Nat)) ∧ W.cell? ⟨g, o + k * 5 + 2, none⟩ = some (.bool (pcAt R k).wd) ∧ W.cell? ⟨g, o + k * 5 + 3, none⟩ = some (.bool (pcAt R k).hy) ∧ W.cell? ⟨g, o + k * 5 + 4, none⟩ = some (.int .i64 (pcAt R k).nt) := by
        obtain ⟨a', c', e, h2⟩ := hP.out.ex
        cases e
        rcases h2 with h2 | ⟨g, o, rfl, hb, hc⟩
        · rw [h2] at hnl; cases hnl
        · refine ⟨g, o, rfl, fun k hk W hW => ?_⟩
          rw [pcAt_is hk]
          exact ⟨(hW.cell hb).trans (hc k hk 0 _ rfl), (hW.cell hb).trans (hc k hk 1 _ rfl), (hW.cell hb).trans (hc k hk 2 _ rfl), (hW.cell hb).trans (hc k hk 3 _ rfl), (hW.cell hb).trans (hc k hk 4 _ rfl)⟩
      obtain ⟨rfl, hpc⟩ := hpc
      have hpch : Hid (∀ k, k < R.length → ∀ W, Below w2.heap.size w2 W → W.cell? ⟨gp, op + k * 5 + 1, none⟩ = some (.int .i64 ((pcAt R k).b : Nat))) := fun k hk W hW => (hpc k hk W hW).2.1
      obtain ⟨c0, c1, c2, c3, c4⟩ := hpc n hnl wr hb
      have q5 : ¬ ((pcAt R n).a : Int) < (atP R n : Nat) := by omega
      have q6 : ¬ ((pcAt R n).b : Int) < ((pcAt R n).a : Nat) := by omega
      have q7 : ¬ (l.length : Int) < ((pcAt R n).b : Nat) := by omega
      have q8 : ¬ (l.length : Int) + 1 < R.length := by omega
      have hbz := hb2.trans (hb.mono hb2.size)
      have hs13 : Hid (∀ W, Below wz.heap.size wz W → Calls Tryz.prog 13 #[.slice a2 ss.length cap2, .agg #[.int .i64 r.x, .int .i64 r.w], .int .i64 (n : Nat)] W fun e w' => e = .returned (.agg #[.int .i64 (slN ss r n).x, .int .i64 (slN ss r n).w]) ∧ Below W.heap.size W w') := f13.out n
      have hs19 : Hid (∀ (a0 b0 : Nat) W, a0 ≤ b0 → b0 ≤ l.length → Below wz.heap.size wz W → Calls Tryz.prog 19 #[.slice a l.length cap, .int .i64 (a0 : Nat), .int .i64 (b0 : Nat), .int .i64 (slN ss r n).x] W fun e w' => e = .returned (.tuple #[.int .i64 (ntV l a0 b0 (slN ss r n).x), .int .i64 0]) ∧ Below W.heap.size W w') := fun a0 b0 => f19.out a0 b0 n
      have hn2 : (n : Int) ≤ 201 := by omega
      clear hpc hgap hline hLk hTh f13 f19
      generalize hX : pcAt R n = x at *
      generalize slN ss r n = sv at *
      generalize atP R n = at0 at *
      obtain ⟨xa, xb, xw, xh, xn⟩ := x
      simp only at c0 c1 c2 c3 c4 ho1 ho2 ho3 q5 q6 q7 hgaph hlineh hatn
      clear hX
      have hcx : Hid (Below wz.heap.size wz (wr.alloc (.cells #[.int .i64 (xa : Nat), .int .i64 (xb : Nat), .bool xw, .bool xh, .int .i64 xn] 41))) := hbz.alloc hbz.size _
      obtain ⟨r1, r2⟩ := hcl.out _ hcx.out
      have hfin : Hid (∀ w3, Below (wr.alloc (.cells #[.int .i64 (xa : Nat), .int .i64 (xb : Nat), .bool xw, .bool xh, .int .i64 xn] 41)).heap.size (wr.alloc (.cells #[.int .i64 (xa : Nat), .int .i64 (xb : Nat), .bool xw, .bool xh, .int .i64 xn] 41)) w3 → XS wr.heap.size w3.heap.size ⟨xa, xb, xw, xh, xn⟩ sv (w3.alloc (.cells #[.int .i64 sv.x, .int .i64 sv.w] 25)) ∧ Below wz.heap.size wz (w3.alloc (.cells #[.int .i64 sv.x, .int .i64 sv.w] 25)) ∧ Below w2.heap.size w2 (w3.alloc (.cells #[.int .i64 sv.x, .int .i64 sv.w] 25))) := fun w3 h3 => by
        have hx0 : (wr.alloc (.cells #[.int .i64 (xa : Nat), .int .i64 (xb : Nat), .bool xw, .bool xh, .int .i64 xn] 41)).heap[wr.heap.size]? = some (.cells (pcL ⟨xa, xb, xw, xh, xn⟩).toArray 41 (0, 0)) := World.alloc_heap_new wr _
        have hlt0 : wr.heap.size < (wr.alloc (.cells #[.int .i64 (xa : Nat), .int .i64 (xb : Nat), .bool xw, .bool xh, .int .i64 xn] 41)).heap.size := by simp
        have hx3 := (h3.block _ hlt0).trans hx0
        have hz3 := hcx.out.trans (h3.mono hcx.out.size)
        have hw3 : Below w2.heap.size w2 w3 := (hb.alloc hb.size (.cells #[.int .i64 (xa : Nat), .int .i64 (xb : Nat), .bool xw, .bool xh, .int .i64 xn] 41)).trans (h3.mono (hb.alloc hb.size (.cells #[.int .i64 (xa : Nat), .int .i64 (xb : Nat), .bool xw, .bool xh, .int .i64 xn] 41)).size)
        exact ⟨⟨(Below.heap_alloc _ _ _ (Array.getElem?_eq_some_iff.1 hx3).1).trans hx3, World.alloc_heap_new w3 _⟩, hz3.alloc hz3.size _, hw3.alloc hw3.size _⟩
      go_wp2_with (go_at_call 13; refine (hs13.out _ hcx.out).mono ?_; rintro e w3 ⟨rfl, hb3⟩; obtain ⟨hX4, hz4, hw4⟩ := hfin.out w3 hb3; have ca4 := hX4.a; have cb4 := hX4.b; have cx4 := hX4.sx)
      generalize w3.alloc (.cells #[.int .i64 sv.x, .int .i64 sv.w] 25) = w4 at *
      generalize hD1 : wr.heap.size = D1 at *
      generalize hD2 : w3.heap.size = D2 at *
      generalize decide (xa < at0) = bb1
      generalize decide (xb < xa) = bb2
      generalize decide (l.length < xb) = bb3
      try generalize decide ((l.length : Int) + 1 < R.length) = bb4
      clear hfin hcx c0 c1 c2 c3 c4 r1 r2 hb3 hbz hs13 hD1 hD2
      go_loopw [14] (fun i wq => ∃ j : Nat, (at0 ≤ j ∧ j ≤ xa) ∧ i = .int .i64 j ∧ wq = w4) (fun i _ => xa - (intOf i).toNat)
      case atStart => exact ⟨at0, by omega, rfl, rfl⟩
      case round =>
        obtain ⟨j, ⟨hj0, hj1⟩, rfl, hwe⟩ := hrel
        subst hwe
        by_cases hja : j < xa
        · have hja' : (j : Int) < (xa : Nat) := by omega
          obtain ⟨g, o, rfl, hk⟩ := hkd.out j (by omega)
          have ck := hk wr hz4
          have hjl : (j : Int) < l.length := by omega
          rcases hgaph.out j hj0 hja with hk2 | ⟨hn0, hjat, hk3⟩
          · rw [hk2] at ck
            clear hk hk2 hgaph hlineh hprev hpch hkd hatn
            go_wp2_with fail
            go_roundw
            case rel => exact ⟨j + 1, by omega, by simp, by first | rfl | trivial⟩
            case measure => simp [intOf]; omega
          · rw [hk3] at ck
            have cp := hpch.out (n - 1) (by omega) wr hw4
            rw [← hprev.out hn0, ← hjat] at cp
            have hn0' : (0 : Int) < (n : Nat) := by omega
            have hn1 : (1 : Int) ≤ (n : Nat) := by omega
            have hn3 : (n : Int) - 1 < R.length := by omega
            clear hk hk3 hgaph hlineh hprev hpch hkd hatn hjat
            go_wp2_with fail
            go_roundw
            case rel => exact ⟨j + 1, by omega, by simp, by first | rfl | trivial⟩
            case measure => simp [intOf]; omega
        · have hja' : ¬ (j : Int) < (xa : Nat) := by omega
          clear hgaph hprev hpch hkd
          rcases hlineh.out with ⟨hR1, hxl⟩ | ⟨hxl, hF⟩
          · have e1 : ((R.length : Int) == 1) = true := by rw [hR1]; rfl
            have e2 : ((xa : Int) == l.length) = true := by rw [hxl]; simp
            clear hlineh hR1 hxl
            go_wp2_with fail
            go_roundw
            case rel => exact ⟨n + 1, by omega, by rw [hatn.out], by simp, hw4⟩
            case measure => simp [intOf]; omega
          · have e2 : ((xa : Int) == l.length) = false := beq_false_of_ne (by omega)
            obtain ⟨_, ⟨hF1, hF2⟩, hFe, hFn, hFw, hFi, hFf⟩ := hF
            simp only at hF1 hF2 hFe hFn hFw hFi hFf
            have e3 : (ntV l xa xb sv.x != xn) = false := by rw [hFn]; simp
            have e4 : (xw != decide (sv.w < ntV l xa xb sv.x)) = false := by rw [hFw, hFn]; simp
            have k19 : Hid (∀ W, Below wz.heap.size wz W → Calls Tryz.prog 19 #[.slice a l.length cap, .int .i64 (xa : Nat), .int .i64 (xb : Nat), .int .i64 sv.x] W fun e w' => e = .returned (.tuple #[.int .i64 (ntV l xa xb sv.x), .int .i64 0]) ∧ Below W.heap.size W w') := fun W => hs19.out xa xb W ho2 ho3
            have k20 : Hid (∀ W, Below wz.heap.size wz W → Calls Tryz.prog 20 #[.slice a l.length cap, .int .i64 (xb : Nat)] W fun e w' => e = .returned (.bool true) ∧ Below W.heap.size W w') := fun W => f20.out xb W ho3 hFe
            have k21a : Hid (xw = true → ∀ W, Below wz.heap.size wz W → Calls Tryz.prog 21 #[.slice a l.length cap, .int .i64 (xa : Nat)] W fun e w' => e = .returned (.int .i64 (xb : Nat)) ∧ Below W.heap.size W w') := fun h W hW => by
              have := f21.out xa W (by omega) hW
              rwa [nx_is hF1 hF2 hFe (hFi h)] at this
            have k21b : Hid (∀ W, Below wz.heap.size wz W → Calls Tryz.prog 21 #[.slice a l.length cap, .int .i64 (xb : Nat)] W fun e w' => e = .returned (.int .i64 (nxI l xb)) ∧ Below W.heap.size W w') := fun W => f21.out xb W ho3
            have k19b : Hid (∀ (b0 : Nat) W, xa ≤ b0 → b0 ≤ l.length → Below wz.heap.size wz W → Calls Tryz.prog 19 #[.slice a l.length cap, .int .i64 (xa : Nat), .int .i64 (b0 : Nat), .int .i64 sv.x] W fun e w' => e = .returned (.tuple #[.int .i64 (ntV l xa b0 sv.x), .int .i64 0]) ∧ Below W.heap.size W w') := fun b0 W => hs19.out xa b0 W
            have hfull : Hid (xw = false → ∀ b', xb < b' → b' ≤ l.length → enB l b' = true → NoB l xb b' → sv.w < ntV l xa b' sv.x) := hFf
            have hXn : Hid (∀ W W', XS D1 D2 ⟨xa, xb, xw, xh, xn⟩ sv W → Below wz.heap.size wz W → Below w2.heap.size w2 W → Below W.heap.size W W' → XS D1 D2 ⟨xa, xb, xw, xh, xn⟩ sv W' ∧ Below wz.heap.size wz W' ∧ Below w2.heap.size w2 W') := fun W W' h1 h2 h3 h4 => ⟨h1.next h4, h2.trans (h4.mono h2.size), h3.trans (h4.mono h3.size)⟩
            clear hlineh hFn hFw hFi hFf f20 f21 hs19 hnt hsr
            obtain ⟨ntx, hntx⟩ : ∃ y, ntV l xa xb sv.x = y := ⟨_, rfl⟩
            rw [hntx] at k19 e3 e4
            clear hntx
            have hnx : Hid (nxI l xb = -1 ∨ ∃ b, nxI l xb = (b : Nat) ∧ xb < b ∧ b ≤ l.length ∧ enB l b = true ∧ NoB l xb b) := nx_get
            have hXd : Hid (∀ W, XS D1 D2 ⟨xa, xb, xw, xh, xn⟩ sv W → Below wz.heap.size wz W → Below w2.heap.size w2 W → XS D1 D2 ⟨xa, xb, xw, xh, xn⟩ sv W.drew ∧ Below wz.heap.size wz W.drew ∧ Below w2.heap.size w2 W.drew) := fun W h1 h2 h3 => ⟨⟨h1.hx, h1.hs⟩, ⟨h2.1, h2.2, h2.3, h2.4, h2.5⟩, ⟨h3.1, h3.2, h3.3, h3.4, h3.5⟩⟩
            have hXq : Hid (∀ (W : World) k, XS D1 D2 ⟨xa, xb, xw, xh, xn⟩ sv W → Below wz.heap.size wz W → Below w2.heap.size w2 W → XS D1 D2 ⟨xa, xb, xw, xh, xn⟩ sv (W.drewN k) ∧ Below wz.heap.size wz (W.drewN k) ∧ Below w2.heap.size w2 (W.drewN k)) := fun W k h1 h2 h3 => ⟨⟨h1.hx, h1.hs⟩, ⟨h2.1, h2.2, h2.3, h2.4, h2.5⟩, ⟨h3.1, h3.2, h3.3, h3.4, h3.5⟩⟩
            clear hF1 hF2 hFe
            cases xw with
            | true =>
              have hww : sv.w < ntx := by simpa using e4
              have k21c : Hid (∀ W, (XS D1 D2 ⟨xa, xb, true, xh, xn⟩ sv W ∧ Below wz.heap.size wz W ∧ Below w2.heap.size w2 W) → Calls Tryz.prog 21 #[.slice a l.length cap, .int .i64 (xa : Nat)] W fun e w' => e = .returned (.int .i64 (xb : Nat)) ∧ (XS D1 D2 ⟨xa, xb, true, xh, xn⟩ sv w' ∧ Below wz.heap.size wz w' ∧ Below w2.heap.size w2 w')) := fun W h => (k21a.out rfl W h.2.1).mono fun e w' q => ⟨q.1, hXn.out W w' h.1 h.2.1 h.2.2 q.2⟩
              clear k21a e4
              by_cases hR1 : R.length = 1
              · have e1 : ((R.length : Int) == 1) = true := by rw [hR1]; rfl
                clear hR1
                go_wp2_with (first | (go_at_call 19; refine (k19.out wr hz4).mono ?_; rintro e w5 ⟨rfl, hb5⟩; obtain ⟨hX5, hz5, hw5⟩ := hXn.out wr w5 hX4 hz4 hw4 hb5; have cn5 := hX5.nt; have cb5 := hX5.b) | (go_at_call 20; refine (k20.out w5 hz5).mono ?_; rintro e w6 ⟨rfl, hb6⟩; obtain ⟨hX6, hz6, hw6⟩ := hXn.out w5 w6 hX5 hz5 hw5 hb6; have cd6 := hX6.wd; have cs6 := hX6.sw))
                refine ft_r23 _ (fun _ _ _ _ _ h => h) _ _ (fun W => XS D1 D2 ⟨xa, xb, true, xh, xn⟩ sv W ∧ Below wz.heap.size wz W ∧ Below w2.heap.size w2 W) D1 xa xb l.length cap a w6 (hXd.out w6 hX6 hz6 hw6) (fun W h => ⟨h.1.a, h.1.b, h.1.wd⟩) k21c ?_
                intro w7 hS7 u158 u159 u160 u161 u162 u163 u164 u165 u166 u167
                obtain ⟨hX7, hz7, hw7⟩ := hS7
                unfold fr5
                have cb7 := hX7.b
                clear cd6 cs6 cn5 cb5 hX6 hz6 hw6 hX5 hz5 hw5 hb5 hb6 ca4 cb4 cx4 hX4 hz4 hw4 k19 k20 e3 k21c
                rcases hnx.out with hn1 | ⟨b', hn1, hb1', hb2', hb3', hb4'⟩
                · rw [hn1] at k21b
                  clear hn1 hfull k19b
                  go_wp2_with (go_at_call 21; refine (k21b.out w7 hz7).mono ?_; rintro e w8 ⟨rfl, hb8⟩; obtain ⟨hX8, hz8, hw8⟩ := hXn.out w7 w8 hX7 hz7 hw7 hb8; have cd8 := hX8.wd)
                  go_roundw
                  case rel => exact ⟨n + 1, by omega, by rw [hatn.out], by simp, hw8⟩
                  case measure => simp [intOf]; omega
                · rw [hn1] at k21b
                  have hbn : ¬ ((b' : Nat) : Int) < 0 := by omega
                  clear hn1 hfull k19b hb1' hb2' hb3' hb4'
                  go_wp2_with (go_at_call 21; refine (k21b.out w7 hz7).mono ?_; rintro e w8 ⟨rfl, hb8⟩; obtain ⟨hX8, hz8, hw8⟩ := hXn.out w7 w8 hX7 hz7 hw7 hb8; have cd8 := hX8.wd)
                  go_roundw
                  case rel => exact ⟨n + 1, by omega, by rw [hatn.out], by simp, hw8⟩
                  case measure => simp [intOf]; omega
              · have e1 : ((R.length : Int) == 1) = false := beq_false_of_ne (by omega)
                clear hR1
                go_wp2_with (first | (go_at_call 19; refine (k19.out wr hz4).mono ?_; rintro e w5 ⟨rfl, hb5⟩; obtain ⟨hX5, hz5, hw5⟩ := hXn.out wr w5 hX4 hz4 hw4 hb5; have cn5 := hX5.nt; have cb5 := hX5.b) | (go_at_call 20; refine (k20.out w5 hz5).mono ?_; rintro e w6 ⟨rfl, hb6⟩; obtain ⟨hX6, hz6, hw6⟩ := hXn.out w5 w6 hX5 hz5 hw5 hb6; have cd6 := hX6.wd; have cs6 := hX6.sw))
                refine ft_r23 _ (fun _ _ _ _ _ h => h) _ _ (fun W => XS D1 D2 ⟨xa, xb, true, xh, xn⟩ sv W ∧ Below wz.heap.size wz W ∧ Below w2.heap.size w2 W) D1 xa xb l.length cap a w6 (hXd.out w6 hX6 hz6 hw6) (fun W h => ⟨h.1.a, h.1.b, h.1.wd⟩) k21c ?_
                intro w7 hS7 u158 u159 u160 u161 u162 u163 u164 u165 u166 u167
                obtain ⟨hX7, hz7, hw7⟩ := hS7
                unfold fr5
                have cb7 := hX7.b
                clear cd6 cs6 cn5 cb5 hX6 hz6 hw6 hX5 hz5 hw5 hb5 hb6 ca4 cb4 cx4 hX4 hz4 hw4 k19 k20 e3 k21c
                rcases hnx.out with hn1 | ⟨b', hn1, hb1', hb2', hb3', hb4'⟩
                · rw [hn1] at k21b
                  clear hn1 hfull k19b
                  go_wp2_with (go_at_call 21; refine (k21b.out w7 hz7).mono ?_; rintro e w8 ⟨rfl, hb8⟩; obtain ⟨hX8, hz8, hw8⟩ := hXn.out w7 w8 hX7 hz7 hw7 hb8; have cd8 := hX8.wd)
                  go_roundw
                  case rel => exact ⟨n + 1, by omega, by rw [hatn.out], by simp, hw8⟩
                  case measure => simp [intOf]; omega
                · rw [hn1] at k21b
                  have hbn : ¬ ((b' : Nat) : Int) < 0 := by omega
                  clear hn1 hfull k19b hb1' hb2' hb3' hb4'
                  go_wp2_with (go_at_call 21; refine (k21b.out w7 hz7).mono ?_; rintro e w8 ⟨rfl, hb8⟩; obtain ⟨hX8, hz8, hw8⟩ := hXn.out w7 w8 hX7 hz7 hw7 hb8; have cd8 := hX8.wd)
                  go_roundw
                  case rel => exact ⟨n + 1, by omega, by rw [hatn.out], by simp, hw8⟩
                  case measure => simp [intOf]; omega
            | false =>
              have hww : ¬ sv.w < ntx := by simpa using e4
              clear k21a e4
              by_cases hR1 : R.length = 1
              · have e1 : ((R.length : Int) == 1) = true := by rw [hR1]; rfl
                clear hR1
                go_wp2_with (first | (go_at_call 19; refine (k19.out wr hz4).mono ?_; rintro e w5 ⟨rfl, hb5⟩; obtain ⟨hX5, hz5, hw5⟩ := hXn.out wr w5 hX4 hz4 hw4 hb5; have cn5 := hX5.nt; have cb5 := hX5.b) | (go_at_call 20; refine (k20.out w5 hz5).mono ?_; rintro e w6 ⟨rfl, hb6⟩; obtain ⟨hX6, hz6, hw6⟩ := hXn.out w5 w6 hX5 hz5 hw5 hb6; have cd6 := hX6.wd; have cs6 := hX6.sw))
                go_quiet (fail)
                obtain ⟨hX7, hz7, hw7⟩ := hXq.out w6 nq hX6 hz6 hw6
                generalize World.drewN w6 nq = w7 at *
                have cb7 := hX7.b
                clear cd6 cs6 cn5 cb5 hX6 hz6 hw6 hX5 hz5 hw5 hb5 hb6 ca4 cb4 cx4 hX4 hz4 hw4 k19 k20 e3
                rcases hnx.out with hn1 | ⟨b', hn1, hb1', hb2', hb3', hb4'⟩
                · rw [hn1] at k21b
                  clear hn1 hfull k19b
                  go_wp2_with (go_at_call 21; refine (k21b.out w7 hz7).mono ?_; rintro e w8 ⟨rfl, hb8⟩; obtain ⟨hX8, hz8, hw8⟩ := hXn.out w7 w8 hX7 hz7 hw7 hb8; have cd8 := hX8.wd)
                  go_roundw
                  case rel => exact ⟨n + 1, by omega, by rw [hatn.out], by simp, hw8⟩
                  case measure => simp [intOf]; omega
                · rw [hn1] at k21b
                  have hwn := hfull.out (by first | rfl | trivial) b' hb1' hb2' hb3' hb4'
                  have k19c : Hid (∀ W, Below wz.heap.size wz W → Calls Tryz.prog 19 #[.slice a l.length cap, .int .i64 (xa : Nat), .int .i64 (b' : Nat), .int .i64 sv.x] W fun e w' => e = .returned (.tuple #[.int .i64 (ntV l xa b' sv.x), .int .i64 0]) ∧ Below W.heap.size W w') := fun W => k19b.out b' W (by omega) hb2'
                  have hbn : ¬ ((b' : Nat) : Int) < 0 := by omega
                  clear hn1 hfull k19b hb1' hb2' hb3' hb4'
                  generalize ntV l xa b' sv.x = nt2 at *
                  have hwn2 : ¬ nt2 ≤ sv.w := by omega
                  clear hwn
                  go_wp2_with (first | (go_at_call 21; refine (k21b.out w7 hz7).mono ?_; rintro e w8 ⟨rfl, hb8⟩; obtain ⟨hX8, hz8, hw8⟩ := hXn.out w7 w8 hX7 hz7 hw7 hb8; have cd8 := hX8.wd; have ca8 := hX8.a; have cx8 := hX8.sx) | (go_at_call 19; refine (k19c.out w8 hz8).mono ?_; rintro e w9 ⟨rfl, hb9⟩; obtain ⟨hX9, hz9, hw9⟩ := hXn.out w8 w9 hX8 hz8 hw8 hb9; have cs9 := hX9.sw))
                  go_roundw
                  case rel => exact ⟨n + 1, by omega, by rw [hatn.out], by simp, hw9⟩
                  case measure => simp [intOf]; omega
              · have e1 : ((R.length : Int) == 1) = false := beq_false_of_ne (by omega)
                clear hR1
                go_wp2_with (first | (go_at_call 19; refine (k19.out wr hz4).mono ?_; rintro e w5 ⟨rfl, hb5⟩; obtain ⟨hX5, hz5, hw5⟩ := hXn.out wr w5 hX4 hz4 hw4 hb5; have cn5 := hX5.nt; have cb5 := hX5.b) | (go_at_call 20; refine (k20.out w5 hz5).mono ?_; rintro e w6 ⟨rfl, hb6⟩; obtain ⟨hX6, hz6, hw6⟩ := hXn.out w5 w6 hX5 hz5 hw5 hb6; have cd6 := hX6.wd; have cs6 := hX6.sw))
                go_quiet (fail)
                obtain ⟨hX7, hz7, hw7⟩ := hXq.out w6 nq hX6 hz6 hw6
                generalize World.drewN w6 nq = w7 at *
                have cb7 := hX7.b
                clear cd6 cs6 cn5 cb5 hX6 hz6 hw6 hX5 hz5 hw5 hb5 hb6 ca4 cb4 cx4 hX4 hz4 hw4 k19 k20 e3
                rcases hnx.out with hn1 | ⟨b', hn1, hb1', hb2', hb3', hb4'⟩
                · rw [hn1] at k21b
                  clear hn1 hfull k19b
                  go_wp2_with (go_at_call 21; refine (k21b.out w7 hz7).mono ?_; rintro e w8 ⟨rfl, hb8⟩; obtain ⟨hX8, hz8, hw8⟩ := hXn.out w7 w8 hX7 hz7 hw7 hb8; have cd8 := hX8.wd)
                  go_roundw
                  case rel => exact ⟨n + 1, by omega, by rw [hatn.out], by simp, hw8⟩
                  case measure => simp [intOf]; omega
                · rw [hn1] at k21b
                  have hwn := hfull.out (by first | rfl | trivial) b' hb1' hb2' hb3' hb4'
                  have k19c : Hid (∀ W, Below wz.heap.size wz W → Calls Tryz.prog 19 #[.slice a l.length cap, .int .i64 (xa : Nat), .int .i64 (b' : Nat), .int .i64 sv.x] W fun e w' => e = .returned (.tuple #[.int .i64 (ntV l xa b' sv.x), .int .i64 0]) ∧ Below W.heap.size W w') := fun W => k19b.out b' W (by omega) hb2'
                  have hbn : ¬ ((b' : Nat) : Int) < 0 := by omega
                  clear hn1 hfull k19b hb1' hb2' hb3' hb4'
                  generalize ntV l xa b' sv.x = nt2 at *
                  have hwn2 : ¬ nt2 ≤ sv.w := by omega
                  clear hwn
                  go_wp2_with (first | (go_at_call 21; refine (k21b.out w7 hz7).mono ?_; rintro e w8 ⟨rfl, hb8⟩; obtain ⟨hX8, hz8, hw8⟩ := hXn.out w7 w8 hX7 hz7 hw7 hb8; have cd8 := hX8.wd; have ca8 := hX8.a; have cx8 := hX8.sx) | (go_at_call 19; refine (k19c.out w8 hz8).mono ?_; rintro e w9 ⟨rfl, hb9⟩; obtain ⟨hX9, hz9, hw9⟩ := hXn.out w8 w9 hX8 hz8 hw8 hb9; have cs9 := hX9.sw))
                  go_roundw
                  case rel => exact ⟨n + 1, by omega, by rw [hatn.out], by simp, hw9⟩
                  case measure => simp [intOf]; omega
    · have hnl' : ¬ (n : Int) < R.length := by omega
      obtain rfl : n = R.length := by omega
      have hat : atP R R.length ≤ l.length := by
        have := (hLk.out (R.length - 1) (by omega)).ord.2.2
        unfold atP
        rw [if_neg (by omega)]
        exact this
      have hz4 := hb2.trans (hb.mono hb2.size)
      have hTp' : (0 : Int) < R.length := by omega
      clear hLk f13 f19 f20 f21 hnt hsr hP hcl
      generalize atP R R.length = at0 at *
      go_wp2_with fail
      go_loopw [18] (fun i wq => ∃ j : Nat, (at0 ≤ j ∧ j ≤ l.length) ∧ i = .int .i64 j ∧ wq = wr) (fun i _ => l.length - (intOf i).toNat)
      case atStart => exact ⟨at0, ⟨Nat.le_refl _, hat⟩, rfl, rfl⟩
      case round =>
        obtain ⟨j, ⟨hj0, hj1⟩, rfl, hwe⟩ := hrel
        subst hwe
        by_cases hjl : j < l.length
        · have hjl' : (j : Int) < l.length := by omega
          obtain ⟨g, o, rfl, hk⟩ := hkd.out j hjl
          have ck := hk _ hz4
          rcases hTh.out j hj0 hjl with hk2 | ⟨hja, hk3⟩
          · rw [hk2] at ck
            clear hk hk2 hTh hkd
            go_wp2_with fail
            go_roundw
            case rel => exact ⟨j + 1, by omega, by simp, by first | rfl | trivial | assumption⟩
            case measure => simp [intOf]; omega
          · rw [hk3] at ck
            have hja' : ((j : Int) == (at0 : Nat)) = true := by rw [hja]; simp
            clear hk hk3 hTh hkd hja
            go_wp2_with fail
            go_roundw
            case rel => exact ⟨j + 1, by omega, by simp, by first | rfl | trivial | assumption⟩
            case measure => simp [intOf]; omega
        · have hjl' : ¬ (j : Int) < l.length := by omega
          clear hTh hkd
          go_wp2_with fail
          go_ret
          exact ⟨rfl, hBh.out.trans (hz4.mono hBh.out.size)⟩
theorem ffits_any (v vs : Value) (l : List It) (ss : List Sl) (r : Sl) (hs : ss.length ≤ 9223372036854775807) (w : World) (hS : ItsAt w v l) (hV : SlsAt w vs ss) :
    Calls Tryz.prog 5 #[v, vs, .agg (slL r).toArray] w fun e w' => e = .returned (.bool true) ∧ Below w.heap.size w w' := by
  by_cases h : brE l ss r = 0
  · by_cases hl : 200 < l.length
    · exact fits_skip v vs l ss r hs w hS hV (.inr hl)
    · exact fits_go v vs l ss r hs w hS hV h hl
  · exact fits_skip v vs l ss r hs w hS hV (.inl h)
end Go.Proofs.YtnnlfeimebiboaaGreatDoor
