/-
  What is proved here: what line of first answers of any items that may be, in any slot that may be.
  What is proved here: what take, Break$1, eachLine and Break of first answer.
-/
import Derived.Test.YtaphggjakaghjaaGreatDoorG16
namespace Go.Proofs.YtaphggjakaghjaaGreatDoor
open Go.RowKit Go.Shelf
set_option maxRecDepth 100000
set_option maxHeartbeats 8000000

theorem lnG_stop {l : List It} {a : Nat} {s : Sl} {p : Pc} : lnG l a s (l.length + 1 - (l.length + 1)) (l.length + 1) p = p := by rw [Nat.sub_self]; rfl
theorem lnG_no {l : List It} {a b : Nat} {s : Sl} {p : Pc} (hb : b ≤ l.length) (h : enB l b = false) : lnG l a s (l.length + 1 - b) b p = lnG l a s (l.length + 1 - (b + 1)) (b + 1) p := by
 rw [show l.length + 1 - b = (l.length + 1 - (b + 1)) + 1 by omega]
 conv => lhs; unfold lnG
 rw [if_neg (by rw [h]; decide)]
theorem lnG_fit {l : List It} {a b : Nat} {s : Sl} {p : Pc} (hb : b ≤ l.length) (h : enB l b = true) (hw : ¬ s.w < ntV l a b s.x) : lnG l a s (l.length + 1 - b) b p = lnG l a s (l.length + 1 - (b + 1)) (b + 1) ⟨a,b,false,hyB l b,ntV l a b s.x⟩ := by
 rw [show l.length + 1 - b = (l.length + 1 - (b + 1)) + 1 by omega]
 conv => lhs; unfold lnG
 rw [if_pos h,if_neg hw]
theorem lnG_wide {l : List It} {a b : Nat} {s : Sl} {p : Pc} (hb : b ≤ l.length) (h : enB l b = true) (hw : s.w < ntV l a b s.x) : lnG l a s (l.length + 1 - b) b p = if a < p.b then p else ⟨a,b,true,hyB l b,ntV l a b s.x⟩ := by
 rw [show l.length + 1 - b = (l.length + 1 - (b + 1)) + 1 by omega]
 conv => lhs; unfold lnG
 rw [if_pos h,if_pos hw]
theorem hyB_in {l : List It} {b : Nat} (h : b < l.length) : hyB l b = (l[b]).y := by unfold hyB; rw [decide_eq_true h,Bool.true_and,itAt_is h]
theorem hyB_out {l : List It} {b : Nat} (h : ¬ b < l.length) : hyB l b = false := by unfold hyB; rw [decide_eq_false h]; rfl

theorem line_any (v : Value) (l : List It) (A : Nat) (s : Sl) (hck : ckL l = 0) (hA : A ≤ l.length) (hs : okS s = true) (w : World) (hS : ItsAt w v l) :
  Calls Tryz.prog 242 #[v,.int .i64 A,.agg (slL s).toArray] w fun e w' => e = .returned (.agg (pcL (lnP l A s)).toArray) ∧ Below w.heap.size w w' := by
 obtain ⟨a,cap,rfl,-⟩ := hS.ex
 have h8 := ck_len hck
 have hsx := (okS_rng hs).1
 have hLg : Hid (∀ b W,Below w.heap.size w W → 0 < b → b ≤ l.length → Calls Tryz.prog 283 #[.slice a l.length cap,.int .i64 (b : Nat)] W fun e w' => e = .returned (.bool (enB l b)) ∧ Below W.heap.size W w') := fun b W hW h0 hb => flegal_any _ l b hck h0 hb W (hS.below hW (Nat.le_refl _))
 have hWd : Hid (∀ b W,Below w.heap.size w W → A ≤ b → b ≤ l.length → Calls Tryz.prog 284 #[.slice a l.length cap,.int .i64 (A : Nat),.int .i64 (b : Nat),.int .i64 s.x] W fun e w' => e = .returned (.int .i64 (ntV l A b s.x)) ∧ Below W.heap.size W w') := fun b W hW h0 hb => fwidth_any _ l A b s.x hck h0 hb hsx W (hS.below hW (Nat.le_refl _))
 have hIt : Hid (∀ b (h : b < l.length),∃ g o,a = some ⟨g,o,none⟩ ∧ ∀ W,Below w.heap.size w W → W.cell? ⟨g,o + b * 8 + 7,none⟩ = some (.bool (l[b]).y)) := fun b h => by
  obtain ⟨g,o,e,_,hc⟩ := its_at hS h
  exact ⟨g,o,e,fun W hW => (hc W hW).c7⟩
 have hz : LW w s (pc0 A) (((w.alloc (.cells (slL s).toArray 98)).alloc (.cells (pcL zpc).toArray 122)).alloc (.cells (pcL (pc0 A)).toArray 122)) := by
  have e3 := World.alloc_heap_new ((w.alloc (.cells (slL s).toArray 98)).alloc (.cells (pcL zpc).toArray 122)) (.cells (pcL (pc0 A)).toArray 122)
  have e2 := alloc2_heap w (.cells (slL s).toArray 98) (.cells (pcL zpc).toArray 122)
  have e1 := World.alloc_heap_new w (.cells (slL s).toArray 98)
  rw [World.size_alloc,World.size_alloc] at e3
  refine ⟨(below2 w _ _).alloc (by simp; omega) _,?_,?_,e3⟩
  ·rw [Below.heap_alloc _ _ _ (by simp; omega),Below.heap_alloc _ _ _ (by simp),e1]
  ·rw [Below.heap_alloc _ _ _ (by simp),e2]
 have hR : Hid (lnG l A s (l.length + 1 - (A + 1)) (A + 1) (pc0 A) = lnP l A s) := by
  show _ = lnG l A s (l.length - A) (A + 1) (pc0 A)
  rw [show l.length + 1 - (A + 1) = l.length - A by omega]
 have hA' : (A : Int) ≤ 8192 := by omega
 have hlen' : (l.length : Int) ≤ 8192 := by omega
 have hnt : Hid (∀ b,A ≤ b → b ≤ l.length → 0 ≤ ntV l A b s.x ∧ ntV l A b s.x ≤ 524288 * 8193) := fun b h1 h2 => nt_rng hck hsx.1 h1 h2
 clear hs hsx hck h8
 generalize lnP l A s = R at *
 have hzh : Hid (LW w s (pc0 A) (((w.alloc (.cells #[.int .i64 s.x,.int .i64 s.w] 98)).alloc (.cells #[.int .i64 0,.int .i64 0,.bool false,.bool false,.int .i64 0] 122)).alloc (.cells #[.int .i64 (A : Nat),.int .i64 (A : Nat),.bool false,.bool false,.int .i64 0] 122))) := hz
 clear hz hS
 show Calls Tryz.prog 242 #[.slice a l.length cap,.int .i64 (A : Nat),.agg #[.int .i64 s.x,.int .i64 s.w]] w _
 go_enter Tryz.func242,Tryz.ntmps242
 go_wp2_with fail
 generalize ((w.alloc (.cells #[.int .i64 s.x,.int .i64 s.w] 98)).alloc (.cells #[.int .i64 0,.int .i64 0,.bool false,.bool false,.int .i64 0] 122)).alloc (.cells #[.int .i64 (A : Nat),.int .i64 (A : Nat),.bool false,.bool false,.int .i64 0] 122) = wz at *
 go_loopw [8] (fun i wr => ∃ (b : Nat) (p : Pc),(A < b ∧ b ≤ l.length + 1) ∧ i = .int .i64 b ∧ LW w s p wr ∧ Hid ((p.wd = false ∧ lnG l A s (l.length + 1 - b) b p = R) ∨ (p.wd = true ∧ p = R))) (fun i _ => l.length + 1 - (intOf i).toNat)
 case atStart => exact ⟨A + 1,pc0 A,by omega,by simp,hzh,.inl ⟨rfl,hR.out⟩⟩
 case round =>
  obtain ⟨b,p,⟨hb0,hb1⟩,rfl,hL,hrest⟩ := hrel
  have cx := hL.x
  have cw := hL.w
  have cb := hL.pb
  have cwd := hL.wd
  have hLh : Hid (LW w s p wr) := hL
  have hb8 : (b : Int) ≤ 8193 := by omega
  clear hL hzh hR
  by_cases hbl : b ≤ l.length
  ·have hbl' : (b : Int) ≤ l.length := by omega
   rcases hrest with ⟨hp,hr⟩ | ⟨hp,hr⟩
   ·rw [hp] at cwd
    have hlg : Hid (Calls Tryz.prog 283 #[.slice a l.length cap,.int .i64 (b : Nat)] wr fun e w' => e = .returned (.bool (enB l b)) ∧ Below wr.heap.size wr w') := hLg.out b wr hLh.out.low (by omega) hbl
    cases he : enB l b with
    | false =>
     rw [he] at hlg
     have hr2 : Hid (lnG l A s (l.length + 1 - (b + 1)) (b + 1) p = R) := by show _ = R; rw [← lnG_no hbl he]; exact hr
     clear hr he hLg hWd hIt hnt
     go_wp2_with (go_at_call 283; refine hlg.out.mono ?_; rintro e w2 ⟨rfl,hb2⟩)
     go_roundw
     case rel => exact ⟨b + 1,p,by omega,by simp,hLh.out.next hb2,.inl ⟨hp,hr2.out⟩⟩
     case measure => simp [intOf]; omega
    | true =>
     rw [he] at hlg
     have hwd : Hid (∀ W,Below w.heap.size w W → Calls Tryz.prog 284 #[.slice a l.length cap,.int .i64 (A : Nat),.int .i64 (b : Nat),.int .i64 s.x] W fun e w' => e = .returned (.int .i64 (ntV l A b s.x)) ∧ Below W.heap.size W w') := fun W hW => hWd.out b W hW (by omega) hbl
     have hnr := hnt.out b (by omega) hbl
     have hw2 : Hid (∀ w2,Below wr.heap.size wr w2 → LW w s p w2) := fun w2 h2 => hLh.out.next h2
     by_cases hwide : s.w < ntV l A b s.x
     ·have hq := lnG_wide (p := p) hbl he hwide
      rw [hr] at hq
      by_cases hpb : A < p.b
      ·rw [if_pos hpb] at hq
       have hr : R = p := hq
       have hpb' : (A : Int) < (p.b : Nat) := by omega
       clear hq he hLg hWd hIt hnt
       generalize ntV l A b s.x = wv at *
       go_wp2_with (first | (refine wpList_load_row rfl 122 _ rfl (w.heap.size + 1 + 1) rfl 122 _ (0,0) _ h3.b7 Tryz.underlying122 rfl (info41 _) ?_) | (refine wpList_store_row rfl 122 _ _ rfl (w.heap.size + 1) (pcL p).toArray rfl rfl 122 _ h3.b6 (info41 _) rfl (pcL_all _) ?_) | (go_at_call 283; refine hlg.out.mono ?_; rintro e w2 ⟨rfl,hb2⟩; have h2 := hw2.out w2 hb2; have cx2 := h2.x) | (go_at_call 284; refine (hwd.out w2 h2.low).mono ?_; rintro e w3 ⟨rfl,hb3⟩; have h3 := h2.next hb3; have cw3 := h3.w; have cb3 := h3.pb))
       exact bodyPost_ret (results_cell_row rfl _ _ (w.heap.size + 1) 122 _ (0,0) _ rfl (setRow_heap _ _ _ _ _ _ h3.b6) Tryz.underlying122 rfl (info41 _)) rfl ⟨by first | rfl | rw [hr],h3.low.trans ((Turns.setRow (X := fun k => k = w.heap.size + 1) _ rfl _).below h3.low.size (fun k hk => by omega))⟩
      ·rw [if_neg hpb] at hq
       have hpb' : ¬ (A : Int) < (p.b : Nat) := by omega
       have hq' : Hid (R = ⟨A,b,true,hyB l b,ntV l A b s.x⟩) := hq
       clear hq he hLg hWd hnt hr
       by_cases hbn : b < l.length
       ·obtain ⟨g,o,rfl,hcell⟩ := hIt.out b hbn
        rw [hyB_in hbn] at hq'
        have hcell' : Hid (∀ W,Below w.heap.size w W → W.cell? ⟨g,o + b * 8 + 7,none⟩ = some (.bool (l[b]).y)) := hcell
        clear hcell hIt
        generalize (l[b]).y = y at *
        generalize ntV l A b s.x = wv at *
        go_wp2_with (first | (go_at_call 283; refine hlg.out.mono ?_; rintro e w2 ⟨rfl,hb2⟩; have h2 := hw2.out w2 hb2; have cx2 := h2.x) | (go_at_call 284; refine (hwd.out w2 h2.low).mono ?_; rintro e w3 ⟨rfl,hb3⟩; have h3 := h2.next hb3; have cw3 := h3.w; have cb3 := h3.pb))
        refine ln_in _ (fun _ _ _ _ _ h => h) _ _ w s A b l.length cap wv true g o y w3 h3.drew.ls (decide_eq_true (by omega)) (by omega) hcell'.out ?_
        have h4 := h3.drew.set ⟨A,b,true,y,wv⟩
        generalize (World.drew w3).setRow (w.heap.size + 1 + 1) (pcL ⟨A,b,true,y,wv⟩).toArray = w4 at *
        unfold fr40
        clear cw3 cb3 cx2 h3 h2 hb3 hb2 hlg hwd hw2 cx cw cb cwd
        go_wp2_with fail
        go_roundw
        case rel => exact ⟨b + 1,_,by omega,by simp,h4,.inr ⟨rfl,hq'.out.symm⟩⟩
        case measure => simp [intOf]; omega
       ·rw [hyB_out hbn] at hq'
        clear hIt
        generalize ntV l A b s.x = wv at *
        go_wp2_with (first | (go_at_call 283; refine hlg.out.mono ?_; rintro e w2 ⟨rfl,hb2⟩; have h2 := hw2.out w2 hb2; have cx2 := h2.x) | (go_at_call 284; refine (hwd.out w2 h2.low).mono ?_; rintro e w3 ⟨rfl,hb3⟩; have h3 := h2.next hb3; have cw3 := h3.w; have cb3 := h3.pb))
        refine ln_out _ (fun _ _ _ _ _ h => h) _ _ w s A b l.length cap wv true a w3 h3.drew.ls (decide_eq_true (by omega)) (by omega) ?_
        have h4 := h3.drew.set ⟨A,b,true,false,wv⟩
        generalize (World.drew w3).setRow (w.heap.size + 1 + 1) (pcL ⟨A,b,true,false,wv⟩).toArray = w4 at *
        unfold fr40
        clear cw3 cb3 cx2 h3 h2 hb3 hb2 hlg hwd hw2 cx cw cb cwd
        go_wp2_with fail
        go_roundw
        case rel => exact ⟨b + 1,_,by omega,by simp,h4,.inr ⟨rfl,hq'.out.symm⟩⟩
        case measure => simp [intOf]; omega
     ·have hq := lnG_fit (p := p) hbl he hwide
      rw [hr] at hq
      have hq' : Hid (R = lnG l A s (l.length + 1 - (b + 1)) (b + 1) ⟨A,b,false,hyB l b,ntV l A b s.x⟩) := hq
      clear hq he hLg hWd hnt hr
      by_cases hbn : b < l.length
      ·obtain ⟨g,o,rfl,hcell⟩ := hIt.out b hbn
       rw [hyB_in hbn] at hq'
       have hcell' : Hid (∀ W,Below w.heap.size w W → W.cell? ⟨g,o + b * 8 + 7,none⟩ = some (.bool (l[b]).y)) := hcell
       clear hcell hIt
       generalize (l[b]).y = y at *
       generalize ntV l A b s.x = wv at *
       go_wp2_with (first | (go_at_call 283; refine hlg.out.mono ?_; rintro e w2 ⟨rfl,hb2⟩; have h2 := hw2.out w2 hb2; have cx2 := h2.x) | (go_at_call 284; refine (hwd.out w2 h2.low).mono ?_; rintro e w3 ⟨rfl,hb3⟩; have h3 := h2.next hb3; have cw3 := h3.w; have cb3 := h3.pb))
       refine ln_in _ (fun _ _ _ _ _ h => h) _ _ w s A b l.length cap wv false g o y w3 h3.drew.ls (decide_eq_false (by omega)) (by omega) hcell'.out ?_
       have h4 := h3.drew.set ⟨A,b,false,y,wv⟩
       generalize (World.drew w3).setRow (w.heap.size + 1 + 1) (pcL ⟨A,b,false,y,wv⟩).toArray = w4 at *
       unfold fr40
       clear cw3 cb3 cx2 h3 h2 hb3 hb2 hlg hwd hw2 cx cw cb cwd
       go_wp2_with fail
       go_roundw
       case rel => exact ⟨b + 1,_,by omega,by simp,h4,.inl ⟨rfl,hq'.out.symm⟩⟩
       case measure => simp [intOf]; omega
      ·rw [hyB_out hbn] at hq'
       clear hIt
       generalize ntV l A b s.x = wv at *
       go_wp2_with (first | (go_at_call 283; refine hlg.out.mono ?_; rintro e w2 ⟨rfl,hb2⟩; have h2 := hw2.out w2 hb2; have cx2 := h2.x) | (go_at_call 284; refine (hwd.out w2 h2.low).mono ?_; rintro e w3 ⟨rfl,hb3⟩; have h3 := h2.next hb3; have cw3 := h3.w; have cb3 := h3.pb))
       refine ln_out _ (fun _ _ _ _ _ h => h) _ _ w s A b l.length cap wv false a w3 h3.drew.ls (decide_eq_false (by omega)) (by omega) ?_
       have h4 := h3.drew.set ⟨A,b,false,false,wv⟩
       generalize (World.drew w3).setRow (w.heap.size + 1 + 1) (pcL ⟨A,b,false,false,wv⟩).toArray = w4 at *
       unfold fr40
       clear cw3 cb3 cx2 h3 h2 hb3 hb2 hlg hwd hw2 cx cw cb cwd
       go_wp2_with fail
       go_roundw
       case rel => exact ⟨b + 1,_,by omega,by simp,h4,.inl ⟨rfl,hq'.out.symm⟩⟩
       case measure => simp [intOf]; omega
   ·rw [hp] at cwd
    replace hr : R = p := hr.symm
    clear hLg hWd hIt hnt
    go_wp2_with (first | (refine wpList_load_row rfl 122 _ rfl (w.heap.size + 1 + 1) rfl 122 _ (0,0) _ hLh.out.b7 Tryz.underlying122 rfl (info41 _) ?_) | (refine wpList_store_row rfl 122 _ _ rfl (w.heap.size + 1) (pcL p).toArray rfl rfl 122 _ hLh.out.b6 (info41 _) rfl (pcL_all _) ?_))
    exact bodyPost_ret (results_cell_row rfl _ _ (w.heap.size + 1) 122 _ (0,0) _ rfl (setRow_heap _ _ _ _ _ _ hLh.out.b6) Tryz.underlying122 rfl (info41 _)) rfl ⟨by first | rfl | rw [hr],hLh.out.low.trans ((Turns.setRow (X := fun k => k = w.heap.size + 1) _ rfl _).below hLh.out.low.size (fun k hk => by omega))⟩
  ·have hbl' : ¬ (b : Int) ≤ l.length := by omega
   have hr : R = p := by
    rcases hrest with ⟨_,hr⟩ | ⟨_,hr⟩
    ·rw [show b = l.length + 1 by omega,lnG_stop] at hr; exact hr.symm
    ·exact hr.symm
   clear hLg hWd hIt hnt hrest
   go_wp2_with (first | (refine wpList_load_row rfl 122 _ rfl (w.heap.size + 1 + 1) rfl 122 _ (0,0) _ hLh.out.b7 Tryz.underlying122 rfl (info41 _) ?_) | (refine wpList_store_row rfl 122 _ _ rfl (w.heap.size + 1) (pcL p).toArray rfl rfl 122 _ hLh.out.b6 (info41 _) rfl (pcL_all _) ?_))
   exact bodyPost_ret (results_cell_row rfl _ _ (w.heap.size + 1) 122 _ (0,0) _ rfl (setRow_heap _ _ _ _ _ _ hLh.out.b6) Tryz.underlying122 rfl (info41 _)) rfl ⟨by first | rfl | rw [hr],hLh.out.low.trans ((Turns.setRow (X := fun k => k = w.heap.size + 1) _ rfl _).below hLh.out.low.size (fun k hk => by omega))⟩
end Go.Proofs.YtaphggjakaghjaaGreatDoor

namespace Go.Proofs.YtaphggjakaghjaaGreatDoor
open Go.RowKit Go.Shelf
set_option maxRecDepth 100000
set_option maxHeartbeats 8000000

theorem info25s (q : Sl) : (Tryz.prog.info? 98).map (·.size) = some (slL q).toArray.size := by show _ = some 2; kernel_rfl
theorem slL_all (q : Sl) : (slL q).toArray.all (·.oneCell') = true := all_oneCell_toArray (fun u hu => by simp [slL] at hu; rcases hu with rfl | rfl <;> rfl)
structure GW (z : World) (qs : List Pc) (W : World) : Prop where
 low : Below z.heap.size z W
 ex : ∃ va vn vc,W.heap[z.heap.size]? = some (.cells #[.slice va vn vc] 288 (0,0)) ∧ W.ownsRow (z.heap.size + 1) 122 5 (.slice va vn vc) qs.length (qs.flatMap pcL)
theorem GW.lt {z : World} {qs : List Pc} {W : World} (h : GW z qs W) : z.heap.size < W.heap.size := by
 obtain ⟨_,_,_,h1,_⟩ := h.ex
 exact (Array.getElem?_eq_some_iff.1 h1).1
theorem GW.next {z : World} {qs : List Pc} {W W' : World} (h : GW z qs W) (hb : Below W.heap.size W W') : GW z qs W' := by
 obtain ⟨va,vn,vc,h1,h2⟩ := h.ex
 exact ⟨h.low.trans (hb.mono h.low.size),va,vn,vc,(hb.block _ h.lt).trans h1,ownsRow_below h2 hb⟩

theorem take_any (z : World) (qs : List Pc) (p : Pc) (hn : qs.length ≤ 9000) (W : World) (h : GW z qs W) (D : Nat) (hD : z.heap.size < D ∧ D < W.heap.size) (hDx : ∀ va vn vc,W.heap[z.heap.size]? = some (.cells #[.slice va vn vc] 288 (0,0)) → Value.ownBlock (.slice va vn vc) ≠ some D) :
  Calls Tryz.prog 207 #[.pointer (some ⟨z.heap.size,0,none⟩),.agg (pcL p).toArray] W fun e W' => (∃ v,e = .returned v) ∧ GW z (qs ++ [p]) W' ∧ W'.heap[D]? = W.heap[D]? := by
 obtain ⟨va,vn,vc,hG,hrow⟩ := h.ex
 have hDn := hDx va vn vc hG
 have hlt := h.lt
 have hlow := h.low
 clear h
 have hEnd : Hid (∀ va' vc' w2,World.ownsRow w2 (z.heap.size + 1) 122 5 (.slice va' (qs.length + 1) vc') (qs ++ [p]).length ((qs ++ [p]).flatMap pcL) → (((W.alloc (.cells (pcL p).toArray 122)).drew).alloc (.cells (pcL p).toArray 122)).grownBy w2 (Value.ownBlock (.slice va vn vc)) → w2.heap[z.heap.size]? = some (.cells #[.slice va vn vc] 288 (0,0)) → GW z (qs ++ [p]) (w2.setCell ⟨z.heap.size,0,none⟩ (.slice va' (qs.length + 1) vc')) ∧ (w2.setCell ⟨z.heap.size,0,none⟩ (.slice va' (qs.length + 1) vc')).heap[D]? = W.heap[D]?) := fun va' vc' w2 h1 h2 h3 => by
  have hbx : Boxed w2 z.heap.size 288 (.slice va vn vc) := h3
  have hb1 : Below z.heap.size z (((W.alloc (.cells (pcL p).toArray 122)).drew).alloc (.cells (pcL p).toArray 122)) := by
   have q1 := hlow.alloc hlow.size (.cells (pcL p).toArray 122)
   have q2 : Below z.heap.size z ((W.alloc (.cells (pcL p).toArray 122)).drew) := ⟨q1.1,q1.2,q1.3,q1.4,q1.5⟩
   exact q2.alloc q2.size _
  have hb2 : Below z.heap.size z w2 := hb1.grown h2 hb1.size (fun k hk => by have := (hrow.lt k hk).1; omega)
  refine ⟨⟨hb2.trans ?_,va',qs.length + 1,vc',Boxed.set _ hbx,h1.kept (grownBy_setCell' w2 _ _) (.inr (hbx.not_row (by decide) h1).symm)⟩,?_⟩
  ·exact ⟨rfl,rfl,rfl,by simp,fun k hk => Below.heap_setCell _ _ _ k (fun e => by have h7 : k = z.heap.size := e; omega)⟩
  ·rw [Below.heap_setCell _ _ _ D (fun e => by have h7 : D = z.heap.size := e; omega),h2.block D (by rw [World.size_alloc]; show D < (W.alloc (.cells (pcL p).toArray 122)).heap.size + 1; rw [World.size_alloc]; omega) (fun e => hDn e.symm),Below.heap_alloc _ _ _ (by show D < (W.alloc (.cells (pcL p).toArray 122)).heap.size; rw [World.size_alloc]; omega)]
   exact Below.heap_alloc W _ _ hD.2
 have hGa : (W.alloc (.cells (pcL p).toArray 122)).drew.heap[z.heap.size]? = some (.cells #[.slice va vn vc] 288 (0,0)) := (Below.heap_alloc W _ _ hlt).trans hG
 have hra : (W.alloc (.cells (pcL p).toArray 122)).drew.ownsRow (z.heap.size + 1) 122 5 (.slice va vn vc) qs.length (qs.flatMap pcL) := hrow.alloc _
 have hDa : DX W.heap.size p (W.alloc (.cells (pcL p).toArray 122)).drew := ⟨World.alloc_heap_new W _⟩
 have hGh : Hid ((W.alloc (.cells (pcL p).toArray 122)).drew.heap[z.heap.size]? = some (.cells #[.slice va vn vc] 288 (0,0))) := hGa
 have hrh : Hid ((W.alloc (.cells (pcL p).toArray 122)).drew.ownsRow (z.heap.size + 1) 122 5 (.slice va vn vc) qs.length (qs.flatMap pcL)) := hra
 have hDh : Hid (DX W.heap.size p (W.alloc (.cells (pcL p).toArray 122)).drew) := hDa
 have hDv : Hid (Value.ownBlock (.slice va vn vc) ≠ some W.heap.size) := fun e => by have := (hrow.lt _ e).2; omega
 have hbs : Hid (z.heap.size + 1 ≤ (W.alloc (.cells (pcL p).toArray 122)).drew.heap.size) := by show _ ≤ (W.alloc (.cells (pcL p).toArray 122)).heap.size; simp; omega
 clear hGa hra hDa hG hrow hlow
 obtain ⟨a,b,wd,hy,nt⟩ := p
 show Calls Tryz.prog 207 #[.pointer (some ⟨z.heap.size,0,none⟩),.agg #[.int .i64 (a : Nat),.int .i64 (b : Nat),.bool wd,.bool hy,.int .i64 nt]] W _
 go_enter Tryz.func207,Tryz.ntmps207
 go_wp2_with fail
 refine tk_r1 _ (fun _ _ _ _ _ h => h) _ _ z.heap.size W.heap.size (z.heap.size + 1) va vn vc qs ⟨a,b,wd,hy,nt⟩ (W.alloc (.cells (pcL ⟨a,b,wd,hy,nt⟩).toArray 122)) hDh.out hGh.out hrh.out hbs.out hn (by omega) hDv.out ?_
 intro va' vc' w2 h1 h2 h3 u4 u5 u6 u7 u8 u9 u10 u11 u12 u13
 have hfin := hEnd.out va' vc' w2 h1 h2 h3
 unfold fr25
 generalize w2.setCell ⟨z.heap.size,0,none⟩ (.slice va' (qs.length + 1) vc') = w3 at *
 clear h1 h2 h3 hEnd hGh hrh hDh hDv hbs
 go_wp2_with fail
 go_returns
 exact ⟨⟨_,rfl⟩,hfin⟩

theorem brk1_any (z : World) (vs : Value) (ss : List Sl) (r : Sl) (n : Int) (B4 B5 : Nat) (hl : ss.length ≤ 9223372036854775807) (h4 : z.heap[B4]? = some (.cells #[vs] 109 (0,0))) (h5 : z.heap[B5]? = some (.cells (slL r).toArray 98 (0,0))) (hS : SlsAt z vs ss) (W : World) (hW : Below z.heap.size z W) :
  Calls Tryz.prog 206 #[.int .i64 n,.pointer (some ⟨B4,0,none⟩),.pointer (some ⟨B5,0,none⟩)] W fun e w' => e = .returned (.agg (slL (slI ss r n)).toArray) ∧ Below W.heap.size W w' := by
 have k4 := (hW.block B4 (Array.getElem?_eq_some_iff.1 h4).1).trans h4
 have k5 := (hW.block B5 (Array.getElem?_eq_some_iff.1 h5).1).trans h5
 have l4 : B4 < W.heap.size := (Array.getElem?_eq_some_iff.1 k4).1
 have l5 : B5 < W.heap.size := (Array.getElem?_eq_some_iff.1 k5).1
 have hB := (Below.refl W.heap.size W).alloc (Nat.le_refl _) (.cells #[.int .i64 0,.int .i64 0] 98)
 have c4 : (W.alloc (.cells #[.int .i64 0,.int .i64 0] 98)).cell? ⟨B4,0,none⟩ = some vs := by rw [hB.cell l4,Lib.cell_of_heap k4]; rfl
 have c5 : (W.alloc (.cells #[.int .i64 0,.int .i64 0] 98)).cell? ⟨B5,0,none⟩ = some (.int .i64 r.x) := by rw [hB.cell l5,Lib.cell_of_heap k5]; rfl
 have c6 : (W.alloc (.cells #[.int .i64 0,.int .i64 0] 98)).cell? ⟨B5,1,none⟩ = some (.int .i64 r.w) := by rw [hB.cell l5,Lib.cell_of_heap k5]; rfl
 have hc : Hid (Calls Tryz.prog 75 #[vs,.agg #[.int .i64 r.x,.int .i64 r.w],.int .i64 n] (W.alloc (.cells #[.int .i64 0,.int .i64 0] 98)) fun e w' => e = .returned (.agg (slL (slI ss r n)).toArray) ∧ Below (W.alloc (.cells #[.int .i64 0,.int .i64 0] 98)).heap.size (W.alloc (.cells #[.int .i64 0,.int .i64 0] 98)) w') := fslot_any vs ss r n hl _ ((hS.below hW (Nat.le_refl _)).below hB (Nat.le_refl _))
 have hz0 : (W.alloc (.cells #[.int .i64 0,.int .i64 0] 98)).heap[W.heap.size]? = some (.cells #[.int .i64 0,.int .i64 0] 98) := World.alloc_heap_new W _
 have hsz : W.heap.size < (W.alloc (.cells #[.int .i64 0,.int .i64 0] 98)).heap.size := by simp
 obtain ⟨a,cap,rfl,-⟩ := hS.ex
 clear hS k4 k5 hW h4 h5
 generalize slI ss r n = q at *
 go_enter Tryz.func206,Tryz.ntmps206
 have hBh : Hid (Below W.heap.size W (W.alloc (.cells #[.int .i64 0,.int .i64 0] 98))) := hB
 have hzh : Hid ((W.alloc (.cells #[.int .i64 0,.int .i64 0] 98)).heap[W.heap.size]? = some (.cells #[.int .i64 0,.int .i64 0] 98)) := hz0
 have hszh : Hid (W.heap.size < (W.alloc (.cells #[.int .i64 0,.int .i64 0] 98)).heap.size) := hsz
 clear hB hz0 hsz
 generalize hw1 : W.alloc (.cells #[.int .i64 0,.int .i64 0] 98) = w1 at *
 go_wp2_with (first | (go_at_call 75; refine hc.out.mono ?_; rintro e w' ⟨rfl,hb2⟩; have hz2 : w'.heap[W.heap.size]? = some (.cells #[.int .i64 0,.int .i64 0] 98 (0,0)) := (hb2.block _ hszh.out).trans hzh.out) | (refine wpList_store_row rfl 98 _ _ rfl W.heap.size (slL q).toArray rfl rfl 98 _ hz2 (info25s _) rfl (slL_all _) ?_))
 exact bodyPost_ret (results_cell_row rfl _ _ W.heap.size 98 (slL q).toArray (0,0) _ rfl (setRow_heap _ _ _ _ _ _ hz2) Tryz.underlying98 rfl (info25s _)) rfl ⟨rfl,(hBh.out.trans (hb2.mono (by have := hBh.out.size; omega))).trans ((Turns.setRow (X := fun k => k = W.heap.size) _ rfl _).below (by have := hBh.out.size; have := hb2.size; omega) (fun k hk => by omega))⟩

def lsR (l : List It) (ss : List Sl) (r : Sl) (a n : Nat) : List Pc := if n = 0 ∨ a < l.length then lsA l ss r a n else []
theorem lsR_go {l : List It} {ss : List Sl} {r : Sl} {a n : Nat} (h : a ≤ l.length) (hc : n = 0 ∨ a < l.length) : lsR l ss r a n = lnP l a (slN ss r n) :: lsR l ss r (bgN l (lnP l a (slN ss r n)).b) (n + 1) := by
 unfold lsR
 rw [if_pos hc]
 by_cases hb : bgN l (lnP l a (slN ss r n)).b < l.length
 ·rw [if_pos (.inr hb),lsA_go h hb]
 ·rw [if_neg (by omega),lsA_end hb]
theorem lsR_no {l : List It} {ss : List Sl} {r : Sl} {a n : Nat} (hc : ¬ (n = 0 ∨ a < l.length)) : lsR l ss r a n = [] := if_neg hc

theorem eachLine_any (z : World) (v vs : Value) (l : List It) (ss : List Sl) (r : Sl) (B4 B5 : Nat) (hck : ckL l = 0) (hcs : ckS ss r = 0) (hS : ItsAt z v l) (h4 : z.heap[B4]? = some (.cells #[vs] 109 (0,0))) (h5 : z.heap[B5]? = some (.cells (slL r).toArray 98 (0,0))) (hV : SlsAt z vs ss) (W : World) (hG : GW z [] W) :
  Calls Tryz.prog 205 #[v,.func (.func 206) #[] #[.pointer (some ⟨B4,0,none⟩),.pointer (some ⟨B5,0,none⟩)],.func (.func 207) #[.pointer (some ⟨z.heap.size,0,none⟩)] #[]] W fun e W' => (∃ v,e = .returned v) ∧ GW z (lsL l ss r) W' := by
 have h8 := ck_len hck
 have hf := ckS_few hcs
 have hBg : Hid (Calls Tryz.prog 241 #[v] W fun e w' => e = .returned (.int .i64 (sk l 0 : Nat)) ∧ Below W.heap.size W w') := fbegin_any v l (by omega) W (hS.below hG.low (Nat.le_refl _))
 have hSl : Hid (∀ (n : Nat) W',Below z.heap.size z W' → Calls Tryz.prog 206 #[.int .i64 (n : Nat),.pointer (some ⟨B4,0,none⟩),.pointer (some ⟨B5,0,none⟩)] W' fun e w' => e = .returned (.agg (slL (slN ss r n)).toArray) ∧ Below W'.heap.size W' w') := fun n W' hW => by
  have := brk1_any z vs ss r n B4 B5 (by omega) h4 h5 hV W' hW
  rwa [slI_nat] at this
 have hLn : Hid (∀ (a n : Nat) W',a ≤ l.length → Below z.heap.size z W' → Calls Tryz.prog 242 #[v,.int .i64 (a : Nat),.agg (slL (slN ss r n)).toArray] W' fun e w' => e = .returned (.agg (pcL (lnP l a (slN ss r n))).toArray) ∧ Below W'.heap.size W' w') := fun a n W' ha hW => line_any v l a _ hck ha (slN_ok hcs n) W' (hS.below hW (Nat.le_refl _))
 have hNx : Hid (∀ (b : Nat) W',b ≤ l.length → Below z.heap.size z W' → Calls Tryz.prog 243 #[v,.int .i64 (b : Nat)] W' fun e w' => e = .returned (.int .i64 (bgN l b : Nat)) ∧ Below W'.heap.size W' w') := fun b W' hb hW => fnext_any v l b hck hb W' (hS.below hW (Nat.le_refl _))
 have hsk := sk_le (l := l) (l.length + 1) 0 (by omega)
 have hR : Hid (lsR l ss r (sk l 0) 0 = lsL l ss r) := by show lsR l ss r (sk l 0) 0 = _; unfold lsR; rw [if_pos (.inl rfl)]; rfl
 have hskl : sk l 0 ≤ l.length := hsk.2
 obtain ⟨a0,cap,rfl,-⟩ := hS.ex
 have hGh : Hid (GW z [] W) := hG
 have hl8 : (l.length : Int) ≤ 8192 := by omega
 clear hS h4 h5 hV hG hck hcs hsk h8
 generalize lsL l ss r = R at *
 go_enter Tryz.func205,Tryz.ntmps205
 go_wp2_with (go_at_call 241; refine hBg.out.mono ?_; rintro e w1 ⟨rfl,hb1⟩; have hG1 := hGh.out.next hb1)
 go_loopw [6,7] (fun i j wr => ∃ (a n : Nat) (qs : List Pc),(a ≤ l.length ∧ n = qs.length ∧ n ≤ a + 1) ∧ i = .int .i64 a ∧ j = .int .i64 n ∧ GW z qs wr ∧ Hid (qs ++ lsR l ss r a n = R)) (fun i j _ => (l.length + 1 - (intOf i).toNat) + (if (intOf j).toNat = 0 then 1 else 0))
 case atStart => exact ⟨sk l 0,0,[],by simp; omega,rfl,rfl,hG1,hR⟩
 case round =>
  obtain ⟨a,n,qs,⟨ha,hn,hna⟩,rfl,rfl,hGr,hr⟩ := hrel
  by_cases hc : n = 0 ∨ a < l.length
  ·have hln := hLn.out a n
   have hsl := hSl.out n
   have hp := lnP_le (s := slN ss r n) ha
   have hbg := bg_le hp.2
   have hlt : n ≠ 0 → a < bgN l (lnP l a (slN ss r n)).b := fun h => by
    have := lnP_b (s := slN ss r n) (show a < l.length by omega); omega
   have hlt2 : a < l.length → a < bgN l (lnP l a (slN ss r n)).b := fun h => by
    have := lnP_b (s := slN ss r n) h; omega
   have hnx : Hid (∀ W',Below z.heap.size z W' → Calls Tryz.prog 243 #[.slice a0 l.length cap,.int .i64 ((lnP l a (slN ss r n)).b : Nat)] W' fun e w' => e = .returned (.int .i64 (bgN l (lnP l a (slN ss r n)).b : Nat)) ∧ Below W'.heap.size W' w') := fun W' => hNx.out _ W' hp.2
   have hsl : Hid (Calls Tryz.prog 206 #[.int .i64 (n : Nat),.pointer (some ⟨B4,0,none⟩),.pointer (some ⟨B5,0,none⟩)] wr fun e w' => e = .returned (.agg (slL (slN ss r n)).toArray) ∧ Below wr.heap.size wr w') := hSl.out n wr hGr.low
   have hln : Hid (∀ W',Below z.heap.size z W' → Calls Tryz.prog 242 #[.slice a0 l.length cap,.int .i64 (a : Nat),.agg (slL (slN ss r n)).toArray] W' fun e w' => e = .returned (.agg (pcL (lnP l a (slN ss r n))).toArray) ∧ Below W'.heap.size W' w') := fun W' => hLn.out a n W' ha
   have hr2 : Hid ((qs ++ [lnP l a (slN ss r n)]) ++ lsR l ss r (bgN l (lnP l a (slN ss r n)).b) (n + 1) = R) := by
    show _ = R
    rw [List.append_assoc,List.singleton_append,← lsR_go ha hc]; exact hr.out
   have hput : Hid (∀ w3,Below wr.heap.size wr w3 → GW z qs ((w3.alloc (.cells #[.int .i64 0,.int .i64 0,.bool false,.bool false,.int .i64 0] 122)).setRow w3.heap.size (pcL (lnP l a (slN ss r n))).toArray) ∧ ((w3.alloc (.cells #[.int .i64 0,.int .i64 0,.bool false,.bool false,.int .i64 0] 122)).setRow w3.heap.size (pcL (lnP l a (slN ss r n))).toArray).heap[w3.heap.size]? = some (.cells (pcL (lnP l a (slN ss r n))).toArray 122 (0,0)) ∧ ∀ W,GW z qs W → W = ((w3.alloc (.cells #[.int .i64 0,.int .i64 0,.bool false,.bool false,.int .i64 0] 122)).setRow w3.heap.size (pcL (lnP l a (slN ss r n))).toArray) → Calls Tryz.prog 207 #[.pointer (some ⟨z.heap.size,0,none⟩),.agg (pcL (lnP l a (slN ss r n))).toArray] W fun e W' => (∃ v,e = .returned v) ∧ GW z (qs ++ [lnP l a (slN ss r n)]) W' ∧ W'.heap[w3.heap.size]? = some (.cells (pcL (lnP l a (slN ss r n))).toArray 122 (0,0))) := fun w3 h3 => by
    have hG3 := hGr.next h3
    have hbb : Below w3.heap.size w3 ((w3.alloc (.cells (pcL zpc).toArray 122)).setRow w3.heap.size (pcL (lnP l a (slN ss r n))).toArray) := ((Below.refl w3.heap.size w3).alloc (Nat.le_refl _) _).trans ((Turns.setRow (X := fun k => k = w3.heap.size) _ rfl _).below (by simp) (fun k hk => by omega))
    have hrow := setRow_heap (w3.alloc (.cells (pcL zpc).toArray 122)) w3.heap.size (pcL zpc).toArray (pcL (lnP l a (slN ss r n))).toArray 122 (0,0) (World.alloc_heap_new w3 _)
    refine ⟨hG3.next hbb,hrow,fun W hG4 e => ?_⟩
    subst e
    refine (take_any z qs _ (by omega) _ hG4 w3.heap.size ⟨hG3.lt,(Array.getElem?_eq_some_iff.1 hrow).1⟩ ?_).mono ?_
    ·intro va vn vc hx e
     obtain ⟨va',vn',vc',k1,k2⟩ := hGr.ex
     have k3 := ((h3.trans (hbb.mono h3.size)).block _ hGr.lt).trans k1
     have k5 := hx.symm.trans k3
     injection k5 with k5
     injection k5 with k5 _
     have k4 : Value.slice va vn vc = .slice va' vn' vc' := by simpa using k5
     rw [k4] at e
     have := (k2.lt _ e).2
     have := h3.size
     omega
    ·rintro e W' ⟨h1,h2,h3'⟩
     exact ⟨h1,h2,h3'.trans hrow⟩
   have hpa := lnP_a l a (slN ss r n)
   have hq0 : n + 1 ≤ bgN l (lnP l a (slN ss r n)).b + 1 := by
    rcases Nat.eq_zero_or_pos n with h | h
    ·omega
    ·have := hlt (by omega); omega
   have hms : (l.length + 1 - bgN l (lnP l a (slN ss r n)).b) < (l.length + 1 - a) + (if n = 0 then 1 else 0) := by
    rcases Nat.eq_zero_or_pos n with h | h
    ·rw [if_pos h]; omega
    ·have := hlt (by omega); omega
   have hmh : Hid ((l.length + 1 - bgN l (lnP l a (slN ss r n)).b) < (l.length + 1 - a) + (if n = 0 then 1 else 0)) := hms
   have hGrl : Hid (∀ w2,Below wr.heap.size wr w2 → Below z.heap.size z w2) := fun w2 h2 => hGr.low.trans (h2.mono hGr.low.size)
   have hb8 : ((lnP l a (slN ss r n)).b : Int) ≤ 8192 := by omega
   have hn8 : (n : Int) ≤ 8193 := by omega
   have hbg2 : bgN l (lnP l a (slN ss r n)).b ≤ l.length := hbg.2
   have hnq : n + 1 = (qs ++ [lnP l a (slN ss r n)]).length := by simp; omega
   clear hr hLn hSl hNx hbg hlt hlt2 hms hp hpa
   have hnqh : Hid (n + 1 = (qs ++ [lnP l a (slN ss r n)]).length) := hnq
   clear hnq hn
   generalize bgN l (lnP l a (slN ss r n)).b = a2 at *
   generalize lnP l a (slN ss r n) = p at *
   generalize slN ss r n = sv at *
   rcases Nat.eq_zero_or_pos n with h0 | h0
   ·have q0 : ((n : Int) == 0) = true := by rw [h0]; rfl
    have h0h : Hid (n = 0) := h0
    clear h0 hc
    go_wp2_with (first | (go_at_call 206; refine hsl.out.mono ?_; rintro e w2 ⟨rfl,hb2⟩) | (go_at_call 242; refine (hln.out w2 (hGrl.out w2 hb2)).mono ?_; rintro e w3 ⟨rfl,hb3⟩) | (refine wpList_store_row rfl 122 _ _ rfl w3.heap.size (pcL p).toArray rfl rfl 122 _ (World.alloc_heap_new _ _) (info41 _) rfl (pcL_all _) ?_; obtain ⟨hG4,hr4,htk⟩ := hput.out w3 (hb2.trans (hb3.mono hb2.size)); generalize (w3.alloc (.cells #[.int .i64 0,.int .i64 0,.bool false,.bool false,.int .i64 0] 122)).setRow w3.heap.size (pcL p).toArray = w4 at *) | (refine wpList_load_row rfl 122 _ rfl w3.heap.size rfl 122 _ (0,0) _ hr4 Tryz.underlying122 rfl (info41 _) ?_) | (go_at_call 207; refine (htk w4 hG4 rfl).mono ?_; rintro e w5 ⟨⟨ve,rfl⟩,hG5,hr5⟩; have cb5 : w5.cell? ⟨w3.heap.size,1,none⟩ = some (.int .i64 (p.b : Nat)) := (by rw [Lib.cell_of_heap hr5]; rfl)) | (go_at_call 243; refine (hnx.out w5 hG5.low).mono ?_; rintro e w6 ⟨rfl,hb6⟩; have hG6 := hG5.next hb6))
    go_roundw
    case rel => exact ⟨a2,n + 1,qs ++ [p],⟨hbg2,hnqh.out,hq0⟩,rfl,by simp,hG6,hr2⟩
    case measure =>
     have h1 := hmh.out
     by_cases hz : n = 0
     ·simp [intOf,hz] at h1 ⊢; omega
     ·simp [intOf,hz] at h1 ⊢; omega
   ·have q0 : ((n : Int) == 0) = false := by simp; omega
    have q1 : (a : Int) < l.length := by omega
    clear hc
    go_wp2_with (first | (go_at_call 206; refine hsl.out.mono ?_; rintro e w2 ⟨rfl,hb2⟩) | (go_at_call 242; refine (hln.out w2 (hGrl.out w2 hb2)).mono ?_; rintro e w3 ⟨rfl,hb3⟩) | (refine wpList_store_row rfl 122 _ _ rfl w3.heap.size (pcL p).toArray rfl rfl 122 _ (World.alloc_heap_new _ _) (info41 _) rfl (pcL_all _) ?_; obtain ⟨hG4,hr4,htk⟩ := hput.out w3 (hb2.trans (hb3.mono hb2.size)); generalize (w3.alloc (.cells #[.int .i64 0,.int .i64 0,.bool false,.bool false,.int .i64 0] 122)).setRow w3.heap.size (pcL p).toArray = w4 at *) | (refine wpList_load_row rfl 122 _ rfl w3.heap.size rfl 122 _ (0,0) _ hr4 Tryz.underlying122 rfl (info41 _) ?_) | (go_at_call 207; refine (htk w4 hG4 rfl).mono ?_; rintro e w5 ⟨⟨ve,rfl⟩,hG5,hr5⟩; have cb5 : w5.cell? ⟨w3.heap.size,1,none⟩ = some (.int .i64 (p.b : Nat)) := (by rw [Lib.cell_of_heap hr5]; rfl)) | (go_at_call 243; refine (hnx.out w5 hG5.low).mono ?_; rintro e w6 ⟨rfl,hb6⟩; have hG6 := hG5.next hb6))
    go_roundw
    case rel => exact ⟨a2,n + 1,qs ++ [p],⟨hbg2,hnqh.out,hq0⟩,rfl,by simp,hG6,hr2⟩
    case measure =>
     have h1 := hmh.out
     by_cases hz : n = 0
     ·simp [intOf,hz] at h1 ⊢; omega
     ·simp [intOf,hz] at h1 ⊢; omega
  ·have q0 : ((n : Int) == 0) = false := by simp; omega
   have q1 : ¬ (a : Int) < l.length := by omega
   have hfin : GW z R wr := by
    have := hr.out
    rw [lsR_no hc,List.append_nil] at this
    rw [← this]; exact hGr
   clear hr hLn hSl hNx hBg hc hn hna
   go_wp2_with fail
   go_returns
   exact ⟨⟨_,rfl⟩,hfin⟩
end Go.Proofs.YtaphggjakaghjaaGreatDoor
