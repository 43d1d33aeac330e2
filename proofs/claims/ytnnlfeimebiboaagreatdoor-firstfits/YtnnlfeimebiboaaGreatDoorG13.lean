/-
  What is proved here: what line of first answers of any items that may be, in any slot that may be.
-/
import Derived.Test.YtnnlfeimebiboaaGreatDoorG12
namespace Go.Proofs.YtnnlfeimebiboaaGreatDoor
open Go.RowKit Go.Shelf

theorem lnG_stop {l : List It} {a : Nat} {s : Sl} {p : Pc} : lnG l a s (l.length + 1 - (l.length + 1)) (l.length + 1) p = p := by rw [Nat.sub_self]; rfl
theorem lnG_no {l : List It} {a b : Nat} {s : Sl} {p : Pc} (hb : b ≤ l.length) (h : enB l b = false) : lnG l a s (l.length + 1 - b) b p = lnG l a s (l.length + 1 - (b + 1)) (b + 1) p := by
  rw [show l.length + 1 - b = (l.length + 1 - (b + 1)) + 1 by omega]
  conv => lhs; unfold lnG
  rw [if_neg (by rw [h]; decide)]
theorem lnG_fit {l : List It} {a b : Nat} {s : Sl} {p : Pc} (hb : b ≤ l.length) (h : enB l b = true) (hw : ¬ s.w < ntV l a b s.x) : lnG l a s (l.length + 1 - b) b p = lnG l a s (l.length + 1 - (b + 1)) (b + 1) ⟨a, b, false, hyB l b, ntV l a b s.x⟩ := by
  rw [show l.length + 1 - b = (l.length + 1 - (b + 1)) + 1 by omega]
  conv => lhs; unfold lnG
  rw [if_pos h, if_neg hw]
theorem lnG_wide {l : List It} {a b : Nat} {s : Sl} {p : Pc} (hb : b ≤ l.length) (h : enB l b = true) (hw : s.w < ntV l a b s.x) : lnG l a s (l.length + 1 - b) b p = if a < p.b then p else ⟨a, b, true, hyB l b, ntV l a b s.x⟩ := by
  rw [show l.length + 1 - b = (l.length + 1 - (b + 1)) + 1 by omega]
  conv => lhs; unfold lnG
  rw [if_pos h, if_pos hw]
theorem hyB_in {l : List It} {b : Nat} (h : b < l.length) : hyB l b = (l[b]).y := by unfold hyB; rw [decide_eq_true h, Bool.true_and, itAt_is h]
theorem hyB_out {l : List It} {b : Nat} (h : ¬ b < l.length) : hyB l b = false := by unfold hyB; rw [decide_eq_false h]; rfl

set_option maxRecDepth 100000 in
set_option maxHeartbeats 8000000 in
theorem line_any (v : Value) (l : List It) (A : Nat) (s : Sl) (hck : ckL l = 0) (hA : A ≤ l.length) (hs : okS s = true) (w : World) (hS : ItsAt w v l) :
    Calls Tryz.prog 40 #[v, .int .i64 A, .agg (slL s).toArray] w fun e w' => e = .returned (.agg (pcL (lnP l A s)).toArray) ∧ Below w.heap.size w w' := by
  obtain ⟨a, cap, rfl, -⟩ := hS.ex
  have h8 := ck_len hck
  have hsx := (okS_rng hs).1
  have hLg : Hid (∀ b W, Below w.heap.size w W → 0 < b → b ≤ l.length → Calls Tryz.prog 54 #[.slice a l.length cap, .int .i64 (b : Nat)] W fun e w' => e = .returned (.bool (enB l b)) ∧ Below W.heap.size W w') := fun b W hW h0 hb => flegal_any _ l b hck h0 hb W (hS.below hW (Nat.le_refl _))
  have hWd : Hid (∀ b W, Below w.heap.size w W → A ≤ b → b ≤ l.length → Calls Tryz.prog 55 #[.slice a l.length cap, .int .i64 (A : Nat), .int .i64 (b : Nat), .int .i64 s.x] W fun e w' => e = .returned (.int .i64 (ntV l A b s.x)) ∧ Below W.heap.size W w') := fun b W hW h0 hb => fwidth_any _ l A b s.x hck h0 hb hsx W (hS.below hW (Nat.le_refl _))
  have hIt : Hid (∀ b (h : b < l.length), ∃ g o, a = some ⟨g, o, none⟩ ∧ ∀ W, Below w.heap.size w W → W.cell? ⟨g, o + b * 8 + 7, none⟩ = some (.bool (l[b]).y)) := fun b h => by
    obtain ⟨g, o, e, _, hc⟩ := its_at hS h
    exact ⟨g, o, e, fun W hW => (hc W hW).c7⟩
  have hz : LW w s (pc0 A) (((w.alloc (.cells (slL s).toArray 25)).alloc (.cells (pcL zpc).toArray 41)).alloc (.cells (pcL (pc0 A)).toArray 41)) := by
    have e3 := World.alloc_heap_new ((w.alloc (.cells (slL s).toArray 25)).alloc (.cells (pcL zpc).toArray 41)) (.cells (pcL (pc0 A)).toArray 41)
    have e2 := alloc2_heap w (.cells (slL s).toArray 25) (.cells (pcL zpc).toArray 41)
    have e1 := World.alloc_heap_new w (.cells (slL s).toArray 25)
    rw [World.size_alloc, World.size_alloc] at e3
    refine ⟨(below2 w _ _).alloc (by simp; omega) _, ?_, ?_, e3⟩
    · rw [Below.heap_alloc _ _ _ (by simp; omega), Below.heap_alloc _ _ _ (by simp), e1]
    · rw [Below.heap_alloc _ _ _ (by simp), e2]
  have hR : Hid (lnG l A s (l.length + 1 - (A + 1)) (A + 1) (pc0 A) = lnP l A s) := by
    show _ = lnG l A s (l.length - A) (A + 1) (pc0 A)
    rw [show l.length + 1 - (A + 1) = l.length - A by omega]
  have hA' : (A : Int) ≤ 8192 := by omega
  have hlen' : (l.length : Int) ≤ 8192 := by omega
  have hnt : Hid (∀ b, A ≤ b → b ≤ l.length → 0 ≤ ntV l A b s.x ∧ ntV l A b s.x ≤ 524288 * 8193) := fun b h1 h2 => nt_rng hck hsx.1 h1 h2
  clear hs hsx hck h8
  generalize lnP l A s = R at *
  have hzh : Hid (LW w s (pc0 A) (((w.alloc (.cells #[.int .i64 s.x, .int .i64 s.w] 25)).alloc (.cells #[.int .i64 0, .int .i64 0, .bool false, .bool false, .int .i64 0] 41)).alloc (.cells #[.int .i64 (A : Nat), .int .i64 (A : Nat), .bool false, .bool false, .int .i64 0] 41))) := hz
  clear hz hS
  show Calls Tryz.prog 40 #[.slice a l.length cap, .int .i64 (A : Nat), .agg #[.int .i64 s.x, .int .i64 s.w]] w _
  go_enter Tryz.func40, Tryz.ntmps40
  go_wp2_with fail
  generalize ((w.alloc (.cells #[.int .i64 s.x, .int .i64 s.w] 25)).alloc (.cells #[.int .i64 0, .int .i64 0, .bool false, .bool false, .int .i64 0] 41)).alloc (.cells #[.int .i64 (A : Nat), .int .i64 (A : Nat), .bool false, .bool false, .int .i64 0] 41) = wz at *
  go_loopw [8] (fun i wr => ∃ (b : Nat) (p : Pc), (A < b ∧ b ≤ l.length + 1) ∧ i = .int .i64 b ∧ LW w s p wr ∧ Hid ((p.wd = false ∧ lnG l A s (l.length + 1 - b) b p = R) ∨ (p.wd = true ∧ p = R))) (fun i _ => l.length + 1 - (intOf i).toNat)
  case atStart => exact ⟨A + 1, pc0 A, by omega, by simp, hzh, .inl ⟨rfl, hR.out⟩⟩
  case round =>
    obtain ⟨b, p, ⟨hb0, hb1⟩, rfl, hL, hrest⟩ := hrel
    have cx := hL.x
    have cw := hL.w
    have cb := hL.pb
    have cwd := hL.wd
    have hLh : Hid (LW w s p wr) := hL
    have hb8 : (b : Int) ≤ 8193 := by omega
    clear hL hzh hR
    by_cases hbl : b ≤ l.length
    · have hbl' : (b : Int) ≤ l.length := by omega
      rcases hrest with ⟨hp, hr⟩ | ⟨hp, hr⟩
      · rw [hp] at cwd
        have hlg : Hid (Calls Tryz.prog 54 #[.slice a l.length cap, .int .i64 (b : Nat)] wr fun e w' => e = .returned (.bool (enB l b)) ∧ Below wr.heap.size wr w') := hLg.out b wr hLh.out.low (by omega) hbl
        cases he : enB l b with
        | false =>
          rw [he] at hlg
          have hr2 : Hid (lnG l A s (l.length + 1 - (b + 1)) (b + 1) p = R) := by show _ = R; rw [← lnG_no hbl he]; exact hr
          clear hr he hLg hWd hIt hnt
          go_wp2_with (go_at_call 54; refine hlg.out.mono ?_; rintro e w2 ⟨rfl, hb2⟩)
          go_roundw
          case rel => exact ⟨b + 1, p, by omega, by simp, hLh.out.next hb2, .inl ⟨hp, hr2.out⟩⟩
          case measure => simp [intOf]; omega
        | true =>
          rw [he] at hlg
          have hwd : Hid (∀ W, Below w.heap.size w W → Calls Tryz.prog 55 #[.slice a l.length cap, .int .i64 (A : Nat), .int .i64 (b : Nat), .int .i64 s.x] W fun e w' => e = .returned (.int .i64 (ntV l A b s.x)) ∧ Below W.heap.size W w') := fun W hW => hWd.out b W hW (by omega) hbl
          have hnr := hnt.out b (by omega) hbl
          have hw2 : Hid (∀ w2, Below wr.heap.size wr w2 → LW w s p w2) := fun w2 h2 => hLh.out.next h2
          by_cases hwide : s.w < ntV l A b s.x
          · have hq := lnG_wide (p := p) hbl he hwide
            rw [hr] at hq
            by_cases hpb : A < p.b
            · rw [if_pos hpb] at hq
              have hr : R = p := hq
              have hpb' : (A : Int) < (p.b : Nat) := by omega
              clear hq he hLg hWd hIt hnt
              generalize ntV l A b s.x = wv at *
              go_wp2_with (first | (refine wpList_load_row rfl 41 _ rfl (w.heap.size + 1 + 1) rfl 41 _ (0, 0) _ h3.b7 Tryz.underlying41 rfl (info41 _) ?_) | (refine wpList_store_row rfl 41 _ _ rfl (w.heap.size + 1) (pcL p).toArray rfl rfl 41 _ h3.b6 (info41 _) rfl (pcL_all _) ?_) | (go_at_call 54; refine hlg.out.mono ?_; rintro e w2 ⟨rfl, hb2⟩; have h2 := hw2.out w2 hb2; have cx2 := h2.x) | (go_at_call 55; refine (hwd.out w2 h2.low).mono ?_; rintro e w3 ⟨rfl, hb3⟩; have h3 := h2.next hb3; have cw3 := h3.w; have cb3 := h3.pb))
              exact bodyPost_ret (results_cell_row rfl _ _ (w.heap.size + 1) 41 _ (0, 0) _ rfl (setRow_heap _ _ _ _ _ _ h3.b6) Tryz.underlying41 rfl (info41 _)) rfl ⟨by first | rfl | rw [hr], h3.low.trans ((Turns.setRow (X := fun k => k = w.heap.size + 1) _ rfl _).below h3.low.size (fun k hk => by omega))⟩
            · rw [if_neg hpb] at hq
              have hpb' : ¬ (A : Int) < (p.b : Nat) := by omega
              have hq' : Hid (R = ⟨A, b, true, hyB l b, ntV l A b s.x⟩) := hq
              clear hq he hLg hWd hnt hr
              by_cases hbn : b < l.length
              · obtain ⟨g, o, rfl, hcell⟩ := hIt.out b hbn
                rw [hyB_in hbn] at hq'
                have hcell' : Hid (∀ W, Below w.heap.size w W → W.cell? ⟨g, o + b * 8 + 7, none⟩ = some (.bool (l[b]).y)) := hcell
                clear hcell hIt
                generalize (l[b]).y = y at *
                generalize ntV l A b s.x = wv at *
                go_wp2_with (first | (go_at_call 54; refine hlg.out.mono ?_; rintro e w2 ⟨rfl, hb2⟩; have h2 := hw2.out w2 hb2; have cx2 := h2.x) | (go_at_call 55; refine (hwd.out w2 h2.low).mono ?_; rintro e w3 ⟨rfl, hb3⟩; have h3 := h2.next hb3; have cw3 := h3.w; have cb3 := h3.pb))
                refine ln_in _ (fun _ _ _ _ _ h => h) _ _ w s A b l.length cap wv true g o y w3 h3.drew.ls (decide_eq_true (by omega)) (by omega) hcell'.out ?_
                have h4 := h3.drew.set ⟨A, b, true, y, wv⟩
                generalize (World.drew w3).setRow (w.heap.size + 1 + 1) (pcL ⟨A, b, true, y, wv⟩).toArray = w4 at *
                unfold fr40
                clear cw3 cb3 cx2 h3 h2 hb3 hb2 hlg hwd hw2 cx cw cb cwd
                go_wp2_with fail
                go_roundw
                case rel => exact ⟨b + 1, _, by omega, by simp, h4, .inr ⟨rfl, hq'.out.symm⟩⟩
                case measure => simp [intOf]; omega
              · rw [hyB_out hbn] at hq'
                clear hIt
                generalize ntV l A b s.x = wv at *
                go_wp2_with (first | (go_at_call 54; refine hlg.out.mono ?_; rintro e w2 ⟨rfl, hb2⟩; have h2 := hw2.out w2 hb2; have cx2 := h2.x) | (go_at_call 55; refine (hwd.out w2 h2.low).mono ?_; rintro e w3 ⟨rfl, hb3⟩; have h3 := h2.next hb3; have cw3 := h3.w; have cb3 := h3.pb))
                refine ln_out _ (fun _ _ _ _ _ h => h) _ _ w s A b l.length cap wv true a w3 h3.drew.ls (decide_eq_true (by omega)) (by omega) ?_
                have h4 := h3.drew.set ⟨A, b, true, false, wv⟩
                generalize (World.drew w3).setRow (w.heap.size + 1 + 1) (pcL ⟨A, b, true, false, wv⟩).toArray = w4 at *
                unfold fr40
                clear cw3 cb3 cx2 h3 h2 hb3 hb2 hlg hwd hw2 cx cw cb cwd
                go_wp2_with fail
                go_roundw
                case rel => exact ⟨b + 1, _, by omega, by simp, h4, .inr ⟨rfl, hq'.out.symm⟩⟩
                case measure => simp [intOf]; omega
          · have hq := lnG_fit (p := p) hbl he hwide
            rw [hr] at hq
            have hq' : Hid (R = lnG l A s (l.length + 1 - (b + 1)) (b + 1) ⟨A, b, false, hyB l b, ntV l A b s.x⟩) := hq
            clear hq he hLg hWd hnt hr
            by_cases hbn : b < l.length
            · obtain ⟨g, o, rfl, hcell⟩ := hIt.out b hbn
              rw [hyB_in hbn] at hq'
              have hcell' : Hid (∀ W, Below w.heap.size w W → W.cell? ⟨g, o + b * 8 + 7, none⟩ = some (.bool (l[b]).y)) := hcell
              clear hcell hIt
              generalize (l[b]).y = y at *
              generalize ntV l A b s.x = wv at *
              go_wp2_with (first | (go_at_call 54; refine hlg.out.mono ?_; rintro e w2 ⟨rfl, hb2⟩; have h2 := hw2.out w2 hb2; have cx2 := h2.x) | (go_at_call 55; refine (hwd.out w2 h2.low).mono ?_; rintro e w3 ⟨rfl, hb3⟩; have h3 := h2.next hb3; have cw3 := h3.w; have cb3 := h3.pb))
              refine ln_in _ (fun _ _ _ _ _ h => h) _ _ w s A b l.length cap wv false g o y w3 h3.drew.ls (decide_eq_false (by omega)) (by omega) hcell'.out ?_
              have h4 := h3.drew.set ⟨A, b, false, y, wv⟩
              generalize (World.drew w3).setRow (w.heap.size + 1 + 1) (pcL ⟨A, b, false, y, wv⟩).toArray = w4 at *
              unfold fr40
              clear cw3 cb3 cx2 h3 h2 hb3 hb2 hlg hwd hw2 cx cw cb cwd
              go_wp2_with fail
              go_roundw
              case rel => exact ⟨b + 1, _, by omega, by simp, h4, .inl ⟨rfl, hq'.out.symm⟩⟩
              case measure => simp [intOf]; omega
            · rw [hyB_out hbn] at hq'
              clear hIt
              generalize ntV l A b s.x = wv at *
              go_wp2_with (first | (go_at_call 54; refine hlg.out.mono ?_; rintro e w2 ⟨rfl, hb2⟩; have h2 := hw2.out w2 hb2; have cx2 := h2.x) | (go_at_call 55; refine (hwd.out w2 h2.low).mono ?_; rintro e w3 ⟨rfl, hb3⟩; have h3 := h2.next hb3; have cw3 := h3.w; have cb3 := h3.pb))
              refine ln_out _ (fun _ _ _ _ _ h => h) _ _ w s A b l.length cap wv false a w3 h3.drew.ls (decide_eq_false (by omega)) (by omega) ?_
              have h4 := h3.drew.set ⟨A, b, false, false, wv⟩
              generalize (World.drew w3).setRow (w.heap.size + 1 + 1) (pcL ⟨A, b, false, false, wv⟩).toArray = w4 at *
              unfold fr40
              clear cw3 cb3 cx2 h3 h2 hb3 hb2 hlg hwd hw2 cx cw cb cwd
              go_wp2_with fail
              go_roundw
              case rel => exact ⟨b + 1, _, by omega, by simp, h4, .inl ⟨rfl, hq'.out.symm⟩⟩
              case measure => simp [intOf]; omega
      · rw [hp] at cwd
        replace hr : R = p := hr.symm
        clear hLg hWd hIt hnt
        go_wp2_with (first | (refine wpList_load_row rfl 41 _ rfl (w.heap.size + 1 + 1) rfl 41 _ (0, 0) _ hLh.out.b7 Tryz.underlying41 rfl (info41 _) ?_) | (refine wpList_store_row rfl 41 _ _ rfl (w.heap.size + 1) (pcL p).toArray rfl rfl 41 _ hLh.out.b6 (info41 _) rfl (pcL_all _) ?_))
        exact bodyPost_ret (results_cell_row rfl _ _ (w.heap.size + 1) 41 _ (0, 0) _ rfl (setRow_heap _ _ _ _ _ _ hLh.out.b6) Tryz.underlying41 rfl (info41 _)) rfl ⟨by first | rfl | rw [hr], hLh.out.low.trans ((Turns.setRow (X := fun k => k = w.heap.size + 1) _ rfl _).below hLh.out.low.size (fun k hk => by omega))⟩
    · have hbl' : ¬ (b : Int) ≤ l.length := by omega
      have hr : R = p := by
        rcases hrest with ⟨_, hr⟩ | ⟨_, hr⟩
        · rw [show b = l.length + 1 by omega, lnG_stop] at hr; exact hr.symm
        · exact hr.symm
      clear hLg hWd hIt hnt hrest
      go_wp2_with (first | (refine wpList_load_row rfl 41 _ rfl (w.heap.size + 1 + 1) rfl 41 _ (0, 0) _ hLh.out.b7 Tryz.underlying41 rfl (info41 _) ?_) | (refine wpList_store_row rfl 41 _ _ rfl (w.heap.size + 1) (pcL p).toArray rfl rfl 41 _ hLh.out.b6 (info41 _) rfl (pcL_all _) ?_))
      exact bodyPost_ret (results_cell_row rfl _ _ (w.heap.size + 1) 41 _ (0, 0) _ rfl (setRow_heap _ _ _ _ _ _ hLh.out.b6) Tryz.underlying41 rfl (info41 _)) rfl ⟨by first | rfl | rw [hr], hLh.out.low.trans ((Turns.setRow (X := fun k => k = w.heap.size + 1) _ rfl _).below hLh.out.low.size (fun k hk => by omega))⟩
end Go.Proofs.YtnnlfeimebiboaaGreatDoor
