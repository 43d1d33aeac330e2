/-
  What is proved here: what the document's one answers: the line from an item on.
  What is proved here: what take and Break$1 of first do.
-/
import Derived.Test.YtnnlfeimebiboaaGreatDoorG16
import Derived.Test.YtnnlfeimebiboaaGreatDoorG12
import Derived.Test.YtnnlfeimebiboaaGreatDoorG1
namespace Go.Proofs.YtnnlfeimebiboaaGreatDoor
open Go.RowKit Go.Shelf

theorem LW.lt6 {z : World} {s : Sl} {p : Pc} {W : World} (h : LW z s p W) : z.heap.size + 1 < W.heap.size := (Array.getElem?_eq_some_iff.1 h.b6).1
set_option maxRecDepth 100000 in
set_option maxHeartbeats 8000000 in
theorem one_any (v : Value) (l : List It) (A : Nat) (s : Sl) (hck : ckL l = 0) (hA : A < l.length) (hs : okS s = true) (w : World) (hS : ItsAt w v l) :
    Calls Tryz.prog 43 #[v, .int .i64 A, .agg (slL s).toArray] w fun e w' => e = .returned (.agg (pcL (lnP l A s)).toArray) ∧ Below w.heap.size w w' := by
  obtain ⟨a, cap, rfl, -⟩ := hS.ex
  have h8 := ck_len hck
  have hsx := (okS_rng hs).1
  have hEn : Hid (∀ b W, Below w.heap.size w W → b ≤ l.length → Calls Tryz.prog 57 #[.slice a l.length cap, .int .i64 (b : Nat)] W fun e w' => e = .returned (.bool (enB l b)) ∧ w' = W) := fun b W hW hb => rends_any _ l b hb h8 W (hS.below hW (Nat.le_refl _))
  have hLi : Hid (∀ b W, Below w.heap.size w W → A ≤ b → b ≤ l.length → Calls Tryz.prog 58 #[.slice a l.length cap, .int .i64 (A : Nat), .int .i64 (b : Nat), .int .i64 s.x] W fun e w' => e = .returned (.agg (pcL ⟨A, b, false, hyB l b, ntV l A b s.x⟩).toArray) ∧ Below W.heap.size W w') := fun b W hW h0 hb => rline_any _ l A b s.x hck h0 hb hsx W (hS.below hW (Nat.le_refl _))
  have hz : LW w s zpc (((w.alloc (.cells (slL s).toArray 25)).alloc (.cells (pcL zpc).toArray 41)).alloc (.cells (pcL zpc).toArray 41)) := by
    have e3 := World.alloc_heap_new ((w.alloc (.cells (slL s).toArray 25)).alloc (.cells (pcL zpc).toArray 41)) (.cells (pcL zpc).toArray 41)
    have e2 := alloc2_heap w (.cells (slL s).toArray 25) (.cells (pcL zpc).toArray 41)
    have e1 := World.alloc_heap_new w (.cells (slL s).toArray 25)
    rw [World.size_alloc, World.size_alloc] at e3
    refine ⟨(below2 w _ _).alloc (by simp; omega) _, ?_, ?_, e3⟩
    · rw [Below.heap_alloc _ _ _ (by simp; omega), Below.heap_alloc _ _ _ (by simp), e1]
    · rw [Below.heap_alloc _ _ _ (by simp), e2]
  have hR : Hid (lnG l A s (l.length + 1 - (A + 1)) (A + 1) (pc0 A) = lnP l A s) := by
    show _ = lnG l A s (l.length - A) (A + 1) (pc0 A)
    rw [show l.length + 1 - (A + 1) = l.length - A by omega]
  have hRb : Hid (A < (lnP l A s).b) := (lnP_b hA).2
  have hA' : (A : Int) ≤ 8192 := by omega
  have hlen' : (l.length : Int) ≤ 8192 := by omega
  have hnt : Hid (∀ b, A ≤ b → b ≤ l.length → 0 ≤ ntV l A b s.x ∧ ntV l A b s.x ≤ 524288 * 8193) := fun b h1 h2 => nt_rng hck hsx.1 h1 h2
  clear hs hsx hck h8
  generalize lnP l A s = R at *
  have hzh : Hid (LW w s zpc (((w.alloc (.cells #[.int .i64 s.x, .int .i64 s.w] 25)).alloc (.cells #[.int .i64 0, .int .i64 0, .bool false, .bool false, .int .i64 0] 41)).alloc (.cells #[.int .i64 0, .int .i64 0, .bool false, .bool false, .int .i64 0] 41))) := hz
  clear hz hS
  show Calls Tryz.prog 43 #[.slice a l.length cap, .int .i64 (A : Nat), .agg #[.int .i64 s.x, .int .i64 s.w]] w _
  go_enter Tryz.func43, Tryz.ntmps43
  go_wp2_with fail
  generalize ((w.alloc (.cells #[.int .i64 s.x, .int .i64 s.w] 25)).alloc (.cells #[.int .i64 0, .int .i64 0, .bool false, .bool false, .int .i64 0] 41)).alloc (.cells #[.int .i64 0, .int .i64 0, .bool false, .bool false, .int .i64 0] 41) = wz at *
  go_loopw [7, 9] (fun f i wr => ∃ (b : Nat) (q : Pc) (fb : Bool), (A < b ∧ b ≤ l.length + 1) ∧ f = .bool fb ∧ i = .int .i64 b ∧ LW w s q wr ∧ Hid ((fb = false ∧ lnG l A s (l.length + 1 - b) b (pc0 A) = R) ∨ (fb = true ∧ A < q.b ∧ lnG l A s (l.length + 1 - b) b q = R))) (fun _ i _ => l.length + 1 - (intOf i).toNat)
  case atStart => exact ⟨A + 1, zpc, false, by omega, rfl, by simp, hzh, .inl ⟨rfl, hR.out⟩⟩
  case round =>
    obtain ⟨b, q, fb, ⟨hb0, hb1⟩, rfl, rfl, hL, hrest⟩ := hrel
    have cx := hL.x
    have hLh : Hid (LW w s q wr) := hL
    have hb8 : (b : Int) ≤ 8193 := by omega
    clear hL hzh hR
    by_cases hbl : b ≤ l.length
    · have hbl' : (b : Int) ≤ l.length := by omega
      have hen : Hid (Calls Tryz.prog 57 #[.slice a l.length cap, .int .i64 (b : Nat)] wr fun e w' => e = .returned (.bool (enB l b)) ∧ w' = wr) := hEn.out b wr hLh.out.low hbl
      cases he : enB l b with
      | false =>
        rw [he] at hen
        have hr2 : Hid ((fb = false ∧ lnG l A s (l.length + 1 - (b + 1)) (b + 1) (pc0 A) = R) ∨ (fb = true ∧ A < q.b ∧ lnG l A s (l.length + 1 - (b + 1)) (b + 1) q = R)) := by
          rcases hrest with ⟨k1, k2⟩ | ⟨k1, k2, k3⟩
          · exact .inl ⟨k1, by rw [← lnG_no hbl he]; exact k2⟩
          · exact .inr ⟨k1, k2, by rw [← lnG_no hbl he]; exact k3⟩
        clear hrest he hEn hLi hnt
        go_wp2_with (go_at_call 57; refine hen.out.mono ?_; rintro e w2 ⟨rfl, hww⟩; subst w2)
        go_roundw
        case rel => exact ⟨b + 1, q, fb, by omega, rfl, by simp, hLh.out, hr2⟩
        case measure => simp [intOf]; omega
      | true =>
        rw [he] at hen
        have hli : Hid (Calls Tryz.prog 58 #[.slice a l.length cap, .int .i64 (A : Nat), .int .i64 (b : Nat), .int .i64 s.x] wr fun e w' => e = .returned (.agg (pcL ⟨A, b, false, hyB l b, ntV l A b s.x⟩).toArray) ∧ Below wr.heap.size wr w') := hLi.out b wr hLh.out.low (by omega) hbl
        have hnr := hnt.out b (by omega) hbl
        have hput : Hid (∀ w3, Below wr.heap.size wr w3 → LW w s q ((w3.alloc (.cells #[.int .i64 0, .int .i64 0, .bool false, .bool false, .int .i64 0] 41)).setRow w3.heap.size (pcL ⟨A, b, false, hyB l b, ntV l A b s.x⟩).toArray) ∧ ((w3.alloc (.cells #[.int .i64 0, .int .i64 0, .bool false, .bool false, .int .i64 0] 41)).setRow w3.heap.size (pcL ⟨A, b, false, hyB l b, ntV l A b s.x⟩).toArray).heap[w3.heap.size]? = some (.cells (pcL ⟨A, b, false, hyB l b, ntV l A b s.x⟩).toArray 41 (0, 0))) := fun w3 h3 => by
          have hbb : Below w3.heap.size w3 ((w3.alloc (.cells (pcL zpc).toArray 41)).setRow w3.heap.size (pcL ⟨A, b, false, hyB l b, ntV l A b s.x⟩).toArray) := ((Below.refl w3.heap.size w3).alloc (Nat.le_refl _) _).trans ((Turns.setRow (X := fun k => k = w3.heap.size) _ rfl _).below (by simp) (fun k hk => by omega))
          exact ⟨(hLh.out.next h3).next hbb, setRow_heap (w3.alloc (.cells (pcL zpc).toArray 41)) w3.heap.size (pcL zpc).toArray _ 41 (0, 0) (World.alloc_heap_new w3 _)⟩
        by_cases hwide : s.w < ntV l A b s.x
        · rcases hrest with ⟨k1, k2⟩ | ⟨k1, k2, k3⟩
          · subst k1
            have hr := lnG_wide (p := pc0 A) hbl he hwide
            rw [k2, if_neg (by show ¬ A < A; omega)] at hr
            clear hEn hLi hnt he k2
            generalize ntV l A b s.x = nt at *
            generalize hyB l b = hb' at *
            go_wp2_with (first | (go_at_call 57; refine hen.out.mono ?_; rintro e w2 ⟨rfl, hww⟩; subst w2) | (go_at_call 58; refine hli.out.mono ?_; rintro e w3 ⟨rfl, hb3⟩) | (refine wpList_store_row rfl 41 _ _ rfl w3.heap.size (pcL ⟨A, b, false, hb', nt⟩).toArray rfl rfl 41 _ (World.alloc_heap_new _ _) (info41 _) rfl (pcL_all _) ?_; obtain ⟨hL4, hr4⟩ := hput.out w3 hb3; generalize (w3.alloc (.cells #[.int .i64 0, .int .i64 0, .bool false, .bool false, .int .i64 0] 41)).setRow w3.heap.size (pcL ⟨A, b, false, hb', nt⟩).toArray = w4 at *; have cn4 : w4.cell? ⟨w3.heap.size, 4, none⟩ = some (.int .i64 nt) := (by rw [Lib.cell_of_heap hr4]; rfl); have cw4 := hL4.w; have cd4 : w4.cell? ⟨w3.heap.size, 2, none⟩ = some (.bool false) := (by rw [Lib.cell_of_heap hr4]; rfl); have cf4 : w4.frozen? ⟨w3.heap.size, 2, none⟩ = false := Lib.frozen_of_heap hr4 2) | (have hr5 : (w4.setCell ⟨w3.heap.size, 2, none⟩ (.bool true)).heap[w3.heap.size]? = some (.cells (pcL ⟨A, b, true, hb', nt⟩).toArray 41 (0, 0)) := heap_setCell_same w4 w3.heap.size 2 _ 41 (.bool true) hr4; refine wpList_load_row rfl 41 _ rfl (w3.heap.size) rfl 41 (pcL ⟨A, b, true, hb', nt⟩).toArray (0, 0) _ hr5 Tryz.underlying41 rfl (info41 _) ?_) | (have hz6 : (w4.setCell ⟨w3.heap.size, 2, none⟩ (.bool true)).heap[w.heap.size + 1]? = some (.cells (pcL zpc).toArray 41 (0, 0)) := ((Below.heap_setCell _ _ _ _ (fun e => by have h7 : w.heap.size + 1 = w3.heap.size := e; have h8 := hLh.out.lt6; have := hb3.size; omega)).trans hL4.b6); refine wpList_store_row rfl 41 _ _ rfl (w.heap.size + 1) (pcL ⟨A, b, true, hb', nt⟩).toArray rfl rfl 41 _ hz6 (info41 _) rfl (pcL_all _) ?_))
            have hz6 : (w4.setCell ⟨w3.heap.size, 2, none⟩ (.bool true)).heap[w.heap.size + 1]? = some (.cells (pcL zpc).toArray 41 (0, 0)) := ((Below.heap_setCell _ _ _ _ (fun e => by have h7 : w.heap.size + 1 = w3.heap.size := e; have h8 := hLh.out.lt6; have := hb3.size; omega)).trans hL4.b6)
            have hlow : Below w.heap.size w (w4.setCell ⟨w3.heap.size, 2, none⟩ (.bool true)) := hL4.low.setCell (p := ⟨w3.heap.size, 2, none⟩) (by show w.heap.size ≤ w3.heap.size; have := hLh.out.low.size; have := hb3.size; omega) _
            exact bodyPost_ret (results_cell_row rfl _ _ (w.heap.size + 1) 41 (pcL ⟨A, b, true, hb', nt⟩).toArray (0, 0) _ rfl (setRow_heap _ _ _ _ _ _ hz6) Tryz.underlying41 rfl (info41 _)) rfl ⟨by first | rfl | rw [hr], hlow.trans ((Turns.setRow (X := fun k => k = w.heap.size + 1) _ rfl _).below hlow.size (fun k hk => by omega))⟩
          · subst k1
            have hr := lnG_wide (p := q) hbl he hwide
            rw [k3, if_pos k2] at hr
            clear hEn hLi hnt he k2 k3
            generalize ntV l A b s.x = nt at *
            generalize hyB l b = hb' at *
            go_wp2_with (first | (go_at_call 57; refine hen.out.mono ?_; rintro e w2 ⟨rfl, hww⟩; subst w2) | (go_at_call 58; refine hli.out.mono ?_; rintro e w3 ⟨rfl, hb3⟩) | (refine wpList_store_row rfl 41 _ _ rfl w3.heap.size (pcL ⟨A, b, false, hb', nt⟩).toArray rfl rfl 41 _ (World.alloc_heap_new _ _) (info41 _) rfl (pcL_all _) ?_; obtain ⟨hL4, hr4⟩ := hput.out w3 hb3; generalize (w3.alloc (.cells #[.int .i64 0, .int .i64 0, .bool false, .bool false, .int .i64 0] 41)).setRow w3.heap.size (pcL ⟨A, b, false, hb', nt⟩).toArray = w4 at *; have cn4 : w4.cell? ⟨w3.heap.size, 4, none⟩ = some (.int .i64 nt) := (by rw [Lib.cell_of_heap hr4]; rfl); have cw4 := hL4.w; have cd4 : w4.cell? ⟨w3.heap.size, 2, none⟩ = some (.bool false) := (by rw [Lib.cell_of_heap hr4]; rfl); have cf4 : w4.frozen? ⟨w3.heap.size, 2, none⟩ = false := Lib.frozen_of_heap hr4 2) | (refine wpList_load_row rfl 41 _ rfl (w.heap.size + 1 + 1) rfl 41 (pcL q).toArray (0, 0) _ hL4.b7 Tryz.underlying41 rfl (info41 _) ?_) | (refine wpList_store_row rfl 41 _ _ rfl (w.heap.size + 1) (pcL q).toArray rfl rfl 41 _ hL4.b6 (info41 _) rfl (pcL_all _) ?_))
            exact bodyPost_ret (results_cell_row rfl _ _ (w.heap.size + 1) 41 (pcL q).toArray (0, 0) _ rfl (setRow_heap _ _ _ _ _ _ hL4.b6) Tryz.underlying41 rfl (info41 _)) rfl ⟨by first | rfl | rw [hr], hL4.low.trans ((Turns.setRow (X := fun k => k = w.heap.size + 1) _ rfl _).below hL4.low.size (fun k hk => by omega))⟩
        · have hr2 : Hid (lnG l A s (l.length + 1 - (b + 1)) (b + 1) ⟨A, b, false, hyB l b, ntV l A b s.x⟩ = R) := by
            show _ = R
            rcases hrest with ⟨_, k2⟩ | ⟨_, _, k2⟩
            · rw [← lnG_fit (p := pc0 A) hbl he hwide]; exact k2
            · rw [← lnG_fit (p := q) hbl he hwide]; exact k2
          clear hEn hLi hnt he hrest
          generalize ntV l A b s.x = nt at *
          generalize hyB l b = hb' at *
          go_wp2_with (first | (go_at_call 57; refine hen.out.mono ?_; rintro e w2 ⟨rfl, hww⟩; subst w2) | (go_at_call 58; refine hli.out.mono ?_; rintro e w3 ⟨rfl, hb3⟩) | (refine wpList_store_row rfl 41 _ _ rfl w3.heap.size (pcL ⟨A, b, false, hb', nt⟩).toArray rfl rfl 41 _ (World.alloc_heap_new _ _) (info41 _) rfl (pcL_all _) ?_; obtain ⟨hL4, hr4⟩ := hput.out w3 hb3; generalize (w3.alloc (.cells #[.int .i64 0, .int .i64 0, .bool false, .bool false, .int .i64 0] 41)).setRow w3.heap.size (pcL ⟨A, b, false, hb', nt⟩).toArray = w4 at *; have cn4 : w4.cell? ⟨w3.heap.size, 4, none⟩ = some (.int .i64 nt) := (by rw [Lib.cell_of_heap hr4]; rfl); have cw4 := hL4.w; have cd4 : w4.cell? ⟨w3.heap.size, 2, none⟩ = some (.bool false) := (by rw [Lib.cell_of_heap hr4]; rfl); have cf4 : w4.frozen? ⟨w3.heap.size, 2, none⟩ = false := Lib.frozen_of_heap hr4 2) | (refine wpList_load_row rfl 41 _ rfl (w3.heap.size) rfl 41 (pcL ⟨A, b, false, hb', nt⟩).toArray (0, 0) _ hr4 Tryz.underlying41 rfl (info41 _) ?_) | (refine wpList_store_row rfl 41 _ _ rfl (w.heap.size + 1 + 1) (pcL ⟨A, b, false, hb', nt⟩).toArray rfl rfl 41 _ hL4.b7 (info41 _) rfl (pcL_all _) ?_; have hL5 := hL4.set ⟨A, b, false, hb', nt⟩; generalize w4.setRow (w.heap.size + 1 + 1) (pcL ⟨A, b, false, hb', nt⟩).toArray = w5 at *))
          go_roundw
          case rel => exact ⟨b + 1, ⟨A, b, false, hb', nt⟩, true, by omega, rfl, by simp, hL5, .inr ⟨rfl, by omega, hr2.out⟩⟩
          case measure => simp [intOf]; omega
    · have hbl' : ¬ (b : Int) ≤ l.length := by omega
      have hr : R = q := by
        rcases hrest with ⟨_, hr⟩ | ⟨_, _, hr⟩
        · rw [show b = l.length + 1 by omega, lnG_stop] at hr
          have := hRb.out
          rw [← hr] at this
          exact absurd this (Nat.lt_irrefl _)
        · rw [show b = l.length + 1 by omega, lnG_stop] at hr; exact hr.symm
      clear hEn hLi hnt hrest
      go_wp2_with (first | (refine wpList_load_row rfl 41 _ rfl (w.heap.size + 1 + 1) rfl 41 (pcL q).toArray (0, 0) _ hLh.out.b7 Tryz.underlying41 rfl (info41 _) ?_) | (refine wpList_store_row rfl 41 _ _ rfl (w.heap.size + 1) (pcL q).toArray rfl rfl 41 _ hLh.out.b6 (info41 _) rfl (pcL_all _) ?_))
      exact bodyPost_ret (results_cell_row rfl _ _ (w.heap.size + 1) 41 (pcL q).toArray (0, 0) _ rfl (setRow_heap _ _ _ _ _ _ hLh.out.b6) Tryz.underlying41 rfl (info41 _)) rfl ⟨by first | rfl | rw [hr], hLh.out.low.trans ((Turns.setRow (X := fun k => k = w.heap.size + 1) _ rfl _).below hLh.out.low.size (fun k hk => by omega))⟩
end Go.Proofs.YtnnlfeimebiboaaGreatDoor

namespace Go.Proofs.YtnnlfeimebiboaaGreatDoor
open Go.RowKit Go.Shelf

/-- A line's box. -/
structure DX (D : Nat) (p : Pc) (W : World) : Prop where
  row : W.heap[D]? = some (.cells (pcL p).toArray 41 (0, 0))
theorem DX.lt {D : Nat} {p : Pc} {W : World} (h : DX D p W) : D < W.heap.size := (Array.getElem?_eq_some_iff.1 h.row).1
theorem DX.alloc {D : Nat} {p : Pc} {W : World} (h : DX D p W) (x : Obj) : DX D p (W.alloc x) := ⟨(Below.heap_alloc _ _ _ h.lt).trans h.row⟩
theorem load_pc {a : Act} {w : World} {D : Nat} {p : Pc} {o : Oper} {x : Operand} (h : DX D p w) (ho : o.op = .load 41 x) (hx : a.eval x = .pointer (some ⟨D, 0, none⟩)) : (execOp a.eval o).run Tryz.prog w = .ok (.value (.agg (pcL p).toArray)) w := by
  have hl := run_loadVar_row (P := Tryz.prog) w D 41 41 (pcL p).toArray (0, 0) _ h.row Tryz.underlying41 rfl (info41 p)
  simp [execOp, ho, hx, Instr.loadAt, Instr.sureAddr, hl]
theorem run_pbuild1 (W : World) (p : Pc) : (Instr.buildSlice 28 1 #[(0, .agg (pcL p).toArray)]).run Tryz.prog W = .ok (.slice (some ⟨W.heap.size, 0, none⟩) 1 1) (W.alloc (.cells (pcL p).toArray 41)) := by
  obtain ⟨a, b, wd, hy, nt⟩ := p
  kernel_rfl
theorem wp_pbuild1 {oi : Oper} {a : Act} {w : World} {K : Act → World → Prop} {Q : Exit → Act → World → Prop} (y : Operand) (ho : oi.op = .buildSlice 28 1 #[(0, y)]) (p : Pc) (hy : a.eval y = .agg (pcL p).toArray)
    (h : K (a.put oi.dst (.slice (some ⟨w.heap.size, 0, none⟩) 1 1)) (w.alloc (.cells (pcL p).toArray 41))) : oi.wp Tryz.prog a w K Q := by
  have hr := run_pbuild1 w p
  unfold Oper.wp execOp
  simp only [ho, List.map_toArray, List.map_cons, List.map_nil, hy, Sem.run_bind, Sem.run_pure, Result.andThen_ok, hr]
  exact h
theorem info41z : ∃ i z, Tryz.prog.info? 41 = some i ∧ i.zero = some z ∧ i.size = 5 ∧ i.bytes = 32 ∧ z.cells.size = 5 := by
  have h : (Tryz.prog.info? 41).map (fun i => (i.zero.map (fun z => z.cells.size), i.size, i.bytes)) = some (some 5, 5, 32) := by kernel_rfl
  cases hi : Tryz.prog.info? 41 with
  | none => rw [hi] at h; cases h
  | some i =>
    rw [hi] at h
    simp only [Option.map_some, Option.some.injEq, Prod.mk.injEq] at h
    obtain ⟨h1, h2, h3⟩ := h
    cases hz : i.zero with
    | none => rw [hz] at h1; cases h1
    | some z => rw [hz] at h1; exact ⟨i, z, rfl, hz, h2, h3, by simpa using h1⟩
theorem pc_cells (W : World) (p : Pc) : ∀ j u, (pcL p)[j]? = some u → (W.alloc (.cells (pcL p).toArray 41)).cell? ((⟨W.heap.size, 0, none⟩ : Addr).add j) = some u := fun j u hu => by
  rw [addr_add0, Lib.cell_of_heap (World.alloc_heap_new W _)]
  simpa using hu
/-- One line more is appended. -/
theorem wp_papp {oi : Oper} {a : Act} {w : World} {K : Act → World → Prop} {Q : Exit → Act → World → Prop} (x y : Operand) (ho : oi.op = Op.call { callee := Callee.builtin Builtin.append, args := #[x, y], argTypes := #[28, 28] }) (base : Nat) (v : Value) (qs : List Pc) (p : Pc) (hx : a.eval x = v)
    (hown : w.ownsRow base 41 5 v qs.length (qs.flatMap pcL)) (hb : base ≤ w.heap.size) (hn : qs.length ≤ 9000) (hy : a.eval y = .slice (some ⟨w.heap.size, 0, none⟩) 1 1)
    (h : ∀ v' w', w'.ownsRow base 41 5 v' (qs ++ [p]).length ((qs ++ [p]).flatMap pcL) → (w.alloc (.cells (pcL p).toArray 41)).grownBy w' v.ownBlock → K (a.put oi.dst v') w') : oi.wp Tryz.prog a (w.alloc (.cells (pcL p).toArray 41)) K Q := by
  obtain ⟨i, z, hi, hz0, hz1, hz2, hz3⟩ := info41z
  obtain ⟨v', w', hrun, r1, r2, _⟩ := run_append_where (P := Tryz.prog) (w.alloc (.cells (pcL p).toArray 41)) base 28 oi.type 41 i z 5 32 Tryz.underlying28 hi hz0 hz1 hz2 hz3 (by decide) v qs.length (qs.flatMap pcL) (hown.alloc _) ⟨w.heap.size, 0, none⟩ 1 1 (pcL p) rfl (pc_cells w p) (pcL_one p) (by unfold maxLen; omega) (by omega) (by simp; omega)
  have e : [p].flatMap pcL = pcL p := by simp
  have hK := h v' w' (by rw [List.length_append, List.flatMap_append, e]; exact r1) r2
  unfold Oper.wp
  simp [execOp, ho, resolve, invoke, builtin, hx, hy, hrun, Result.andThen]
  exact hK
def fr25 (v0 v1 v2 v3 v4 v5 v6 v7 v8 v9 v10 v11 v12 v13 : Value) : Act := { tmps := #[v0, v1, v2, v3, v4, v5, v6, v7, v8, v9, v10, v11, v12, v13], defers := [] }
def ops25_1_0 (ps : String) : Oper := { dst := some 4, op := Op.move (Operand.tmp 0), type := 73, pos := ps, after := #[], guard := none }
def ops25_1_1 (ps : String) : Oper := { dst := some 5, op := Op.move (Operand.tmp 0), type := 73, pos := ps, after := #[], guard := none }
def ops25_1_2 (ps : String) : Oper := { dst := some 6, op := Op.nilCheck (Operand.tmp 5), type := 0, pos := ps, after := #[{ on := 1, ground := Ground.data }], guard := none }
def ops25_1_3 (ps : String) : Oper := { dst := some 7, op := Op.fieldAddr 51 (Operand.tmp 6) 0, type := 0, pos := ps, after := #[{ on := 2, ground := Ground.data }], guard := none }
def ops25_1_4 (ps : String) : Oper := { dst := some 8, op := Op.load 28 (Operand.tmp 7), type := 28, pos := ps, after := #[{ on := 3, ground := Ground.data }], guard := none }
def ops25_1_5 (ps : String) : Oper := { dst := some 9, op := Op.load 41 (Operand.tmp 3), type := 41, pos := ps, after := #[], guard := none }
def ops25_1_6 (ps : String) : Oper := { dst := some 10, op := Op.buildSlice 28 1 #[(0, Operand.tmp 9)], type := 28, pos := ps, after := #[{ on := 5, ground := Ground.data }], guard := none }
def ops25_1_7 (ps : String) : Oper := { dst := some 11, op := Op.call { callee := Callee.builtin Builtin.append, args := #[Operand.tmp 8, Operand.tmp 10], argTypes := #[28, 28] }, type := 28, pos := ps, after := #[{ on := 4, ground := Ground.data }, { on := 6, ground := Ground.data }], guard := none }
def ops25_1_8 (ps : String) : Oper := { dst := some 12, op := Op.nilCheck (Operand.tmp 4), type := 0, pos := ps, after := #[{ on := 0, ground := Ground.data }, { on := 0, ground := Ground.phase }, { on := 1, ground := Ground.phase }, { on := 2, ground := Ground.phase }, { on := 3, ground := Ground.phase }, { on := 4, ground := Ground.phase }, { on := 5, ground := Ground.phase }, { on := 6, ground := Ground.phase }, { on := 7, ground := Ground.phase }], guard := none }
def ops25_1_9 (ps : String) : Oper := { dst := some 13, op := Op.fieldAddr 51 (Operand.tmp 12) 0, type := 0, pos := ps, after := #[{ on := 8, ground := Ground.data }, { on := 0, ground := Ground.phase }, { on := 1, ground := Ground.phase }, { on := 2, ground := Ground.phase }, { on := 3, ground := Ground.phase }, { on := 4, ground := Ground.phase }, { on := 5, ground := Ground.phase }, { on := 6, ground := Ground.phase }, { on := 7, ground := Ground.phase }], guard := none }
def ops25_1_10 (ps : String) : Oper := { dst := none, op := Op.store 28 (Operand.tmp 13) (Operand.tmp 11), type := 0, pos := ps, after := #[{ on := 9, ground := Ground.data }, { on := 7, ground := Ground.data }, { on := 7, ground := Ground.chain }, { on := 0, ground := Ground.phase }, { on := 1, ground := Ground.phase }, { on := 2, ground := Ground.phase }, { on := 3, ground := Ground.phase }, { on := 4, ground := Ground.phase }, { on := 5, ground := Ground.phase }, { on := 6, ground := Ground.phase }, { on := 7, ground := Ground.phase }], guard := none }
def ops25_1 (ps : String) : Array Oper := #[ops25_1_0 ps, ops25_1_1 ps, ops25_1_2 ps, ops25_1_3 ps, ops25_1_4 ps, ops25_1_5 ps, ops25_1_6 ps, ops25_1_7 ps, ops25_1_8 ps, ops25_1_9 ps, ops25_1_10 ps]

set_option maxRecDepth 100000 in
set_option maxHeartbeats 1000000 in
theorem tk_r1 (Q : Exit → Act → World → Prop) (hQ : ∀ c x (n : Nat) v w, Q (.panic c) (x.put (some n) v) w → Q (.panic c) x w) (id : Nat) (ps : String) {v1 v2 v4 v5 v6 v7 v8 v9 v10 v11 v12 v13 : Value} (G D base : Nat) (va : Option Addr) (vn vc : Nat) (qs : List Pc) (p : Pc) (w : World) (hS : DX D p (World.drew w))
    (hG : (World.drew w).heap[G]? = some (.cells #[.slice va vn vc] 51 (0, 0))) (hrow : (World.drew w).ownsRow base 41 5 (.slice va vn vc) qs.length (qs.flatMap pcL)) (hb : base ≤ (World.drew w).heap.size) (hn : qs.length ≤ 9000) (hlow : G < base) (hDv : Value.ownBlock (.slice va vn vc) ≠ some D)
    (hq : ∀ (va' : Option Addr) (vc' : Nat) (w2 : World), w2.ownsRow base 41 5 (.slice va' (qs.length + 1) vc') (qs ++ [p]).length ((qs ++ [p]).flatMap pcL) → ((World.drew w).alloc (.cells (pcL p).toArray 41)).grownBy w2 (Value.ownBlock (.slice va vn vc)) → w2.heap[G]? = some (.cells #[.slice va vn vc] 51 (0, 0)) → ∀ u4 u5 u6 u7 u8 u9 u10 u11 u12 u13, Q .normal (fr25 (.pointer (some ⟨G, 0, none⟩)) v1 v2 (.pointer (some ⟨D, 0, none⟩)) u4 u5 u6 u7 u8 u9 u10 u11 u12 u13) (w2.setCell ⟨G, 0, none⟩ (.slice va' (qs.length + 1) vc'))) :
    (Code.region id (ops25_1 ps) true).wp Tryz.prog Q (fr25 (.pointer (some ⟨G, 0, none⟩)) v1 v2 (.pointer (some ⟨D, 0, none⟩)) v4 v5 v6 v7 v8 v9 v10 v11 v12 v13) w := by
  refine wp_region_held (S := DX D p) (by kernel_rfl) ?_
  change wpAnyH _ _ _ _ _ 11 _ _ (World.drew w)
  generalize World.drew w = wd at *
  have hGl : G < wd.heap.size := (Array.getElem?_eq_some_iff.1 hG).1
  have hDG : D ≠ G := fun e => by
    have h1 := hS.row
    rw [e, hG] at h1
    injection h1 with h1
    injection h1 with h1 h2
    exact absurd h2 (by decide)
  have hGv : Value.ownBlock (.slice va vn vc) ≠ some G := fun e => by have := (hrow.lt G e).1; omega
  have tail : wpAnyH Tryz.prog .any (ops25_1 ps) Q (DX D p) 4 #[true, true, true, true, true, true, true, false, false, false, false] (fr25 (.pointer (some ⟨G, 0, none⟩)) v1 v2 (.pointer (some ⟨D, 0, none⟩)) (.pointer (some ⟨G, 0, none⟩)) (.pointer (some ⟨G, 0, none⟩)) (.pointer (some ⟨G, 0, none⟩)) (.pointer (some ⟨G, 0, none⟩)) (.slice va vn vc) (.agg (pcL p).toArray) (.slice (some ⟨wd.heap.size, 0, none⟩) 1 1) v11 v12 v13) (wd.alloc (.cells (pcL p).toArray 41)) := by
    refine want_h (i := 7) (oi := ops25_1_7 ps) (fuel := 3) (by kernel_rfl) (by kernel_rfl) (by kernel_rfl) fun K hK => ?_
    refine wp_papp (Operand.tmp 8) (Operand.tmp 10) (by unfold ops25_1_7; rfl) base (.slice va vn vc) qs p rfl hrow hb hn rfl ?_
    intro v' w2 ho hg
    have hS2 : DX D p w2 := ⟨(hg.block D (by have := hS.lt; simp; omega) (fun e => hDv e.symm)).trans (hS.alloc _).row⟩
    have hG2 : w2.heap[G]? = some (.cells #[.slice va vn vc] 51 (0, 0)) := (hg.block G (by simp; omega) (fun e => hGv e.symm)).trans ((Below.heap_alloc _ _ _ hGl).trans hG)
    obtain ⟨va', vc', rfl⟩ : ∃ a c, v' = .slice a (qs.length + 1) c := by
      have e2 : (qs ++ [p]).length = qs.length + 1 := by simp
      rw [e2] at ho
      rcases ho.2 with ⟨e, e0⟩ | ⟨g', cap', cur', e, _⟩
      · omega
      · exact ⟨_, _, e⟩
    have hfz : w2.frozen? ⟨G, 0, none⟩ = false := Boxed.frozen (show Boxed w2 G 51 _ from hG2)
    have hG3 : w2.cell? ⟨G, 0, none⟩ = some (.slice va vn vc) := by rw [Lib.cell_of_heap hG2]; rfl
    refine hK _ _ hS2 (cast_h (fr25 (.pointer (some ⟨G, 0, none⟩)) v1 v2 (.pointer (some ⟨D, 0, none⟩)) (.pointer (some ⟨G, 0, none⟩)) (.pointer (some ⟨G, 0, none⟩)) (.pointer (some ⟨G, 0, none⟩)) (.pointer (some ⟨G, 0, none⟩)) (.slice va vn vc) (.agg (pcL p).toArray) (.slice (some ⟨wd.heap.size, 0, none⟩) 1 1) (.slice va' (qs.length + 1) vc') v12 v13) (by kernel_rfl) ?_)
    clear hK K
    refine take_h (i := 8) (oi := ops25_1_8 ps) (fuel := 2) (v := (.pointer (some ⟨G, 0, none⟩))) (fr25 (.pointer (some ⟨G, 0, none⟩)) v1 v2 (.pointer (some ⟨D, 0, none⟩)) (.pointer (some ⟨G, 0, none⟩)) (.pointer (some ⟨G, 0, none⟩)) (.pointer (some ⟨G, 0, none⟩)) (.pointer (some ⟨G, 0, none⟩)) (.slice va vn vc) (.agg (pcL p).toArray) (.slice (some ⟨wd.heap.size, 0, none⟩) 1 1) (.slice va' (qs.length + 1) vc') (.pointer (some ⟨G, 0, none⟩)) v13) (by kernel_rfl) (by kernel_rfl) (by kernel_rfl) (by kernel_rfl) (fun c x w => hQ c x _ _ w) (by kernel_rfl) (fun w hS => by unfold fr25 ops25_1_8; go_simp) (by kernel_rfl) hS2 ?_
    refine take_h (i := 9) (oi := ops25_1_9 ps) (fuel := 1) (v := (.pointer (some ⟨G, 0, none⟩))) (fr25 (.pointer (some ⟨G, 0, none⟩)) v1 v2 (.pointer (some ⟨D, 0, none⟩)) (.pointer (some ⟨G, 0, none⟩)) (.pointer (some ⟨G, 0, none⟩)) (.pointer (some ⟨G, 0, none⟩)) (.pointer (some ⟨G, 0, none⟩)) (.slice va vn vc) (.agg (pcL p).toArray) (.slice (some ⟨wd.heap.size, 0, none⟩) 1 1) (.slice va' (qs.length + 1) vc') (.pointer (some ⟨G, 0, none⟩)) (.pointer (some ⟨G, 0, none⟩))) (by kernel_rfl) (by kernel_rfl) (by kernel_rfl) (by kernel_rfl) (fun c x w => hQ c x _ _ w) (by kernel_rfl) (fun w hS => by unfold fr25 ops25_1_9; go_simp) (by kernel_rfl) hS2 ?_
    refine want_h (i := 10) (oi := ops25_1_10 ps) (fuel := 0) (by kernel_rfl) (by kernel_rfl) (by kernel_rfl) fun K hK => ?_
    unfold fr25 ops25_1_10
    go_simp
    have hS3 : DX D p (w2.setCell ⟨G, 0, none⟩ (.slice va' (qs.length + 1) vc')) := ⟨(Below.heap_setCell _ _ _ D hDG).trans hS2.row⟩
    refine hK _ _ hS3 (cast_h (fr25 (.pointer (some ⟨G, 0, none⟩)) v1 v2 (.pointer (some ⟨D, 0, none⟩)) (.pointer (some ⟨G, 0, none⟩)) (.pointer (some ⟨G, 0, none⟩)) (.pointer (some ⟨G, 0, none⟩)) (.pointer (some ⟨G, 0, none⟩)) (.slice va vn vc) (.agg (pcL p).toArray) (.slice (some ⟨wd.heap.size, 0, none⟩) 1 1) (.slice va' (qs.length + 1) vc') (.pointer (some ⟨G, 0, none⟩)) (.pointer (some ⟨G, 0, none⟩))) (by kernel_rfl) ?_)
    clear hK K
    exact wpAnyH_done (by kernel_rfl) (hq va' vc' w2 ho hg hG2 _ _ _ _ _ _ _ _ _ _) _
  refine take_h (i := 0) (oi := ops25_1_0 ps) (fuel := 10) (v := (.pointer (some ⟨G, 0, none⟩))) (fr25 (.pointer (some ⟨G, 0, none⟩)) v1 v2 (.pointer (some ⟨D, 0, none⟩)) (.pointer (some ⟨G, 0, none⟩)) v5 v6 v7 v8 v9 v10 v11 v12 v13) (by kernel_rfl) (by kernel_rfl) (by kernel_rfl) (by kernel_rfl) (fun c x w => hQ c x _ _ w) (by kernel_rfl) (fun w _ => by kernel_rfl) (by kernel_rfl) hS ?_
  refine take_h (i := 1) (oi := ops25_1_1 ps) (fuel := 9) (v := (.pointer (some ⟨G, 0, none⟩))) (fr25 (.pointer (some ⟨G, 0, none⟩)) v1 v2 (.pointer (some ⟨D, 0, none⟩)) (.pointer (some ⟨G, 0, none⟩)) (.pointer (some ⟨G, 0, none⟩)) v6 v7 v8 v9 v10 v11 v12 v13) (by kernel_rfl) (by kernel_rfl) (by kernel_rfl) (by kernel_rfl) (fun c x w => hQ c x _ _ w) (by kernel_rfl) (fun w _ => by kernel_rfl) (by kernel_rfl) hS ?_
  refine take_h (i := 2) (oi := ops25_1_2 ps) (fuel := 8) (v := (.pointer (some ⟨G, 0, none⟩))) (fr25 (.pointer (some ⟨G, 0, none⟩)) v1 v2 (.pointer (some ⟨D, 0, none⟩)) (.pointer (some ⟨G, 0, none⟩)) (.pointer (some ⟨G, 0, none⟩)) (.pointer (some ⟨G, 0, none⟩)) v7 v8 v9 v10 v11 v12 v13) (by kernel_rfl) (by kernel_rfl) (by kernel_rfl) (by kernel_rfl) (fun c x w => hQ c x _ _ w) (by kernel_rfl) (fun w hS => by unfold fr25 ops25_1_2; go_simp) (by kernel_rfl) hS ?_
  refine take_h (i := 3) (oi := ops25_1_3 ps) (fuel := 7) (v := (.pointer (some ⟨G, 0, none⟩))) (fr25 (.pointer (some ⟨G, 0, none⟩)) v1 v2 (.pointer (some ⟨D, 0, none⟩)) (.pointer (some ⟨G, 0, none⟩)) (.pointer (some ⟨G, 0, none⟩)) (.pointer (some ⟨G, 0, none⟩)) (.pointer (some ⟨G, 0, none⟩)) v8 v9 v10 v11 v12 v13) (by kernel_rfl) (by kernel_rfl) (by kernel_rfl) (by kernel_rfl) (fun c x w => hQ c x _ _ w) (by kernel_rfl) (fun w hS => by unfold fr25 ops25_1_3; go_simp) (by kernel_rfl) hS ?_
  refine take_h (i := 5) (oi := ops25_1_5 ps) (fuel := 6) (v := (.agg (pcL p).toArray)) (fr25 (.pointer (some ⟨G, 0, none⟩)) v1 v2 (.pointer (some ⟨D, 0, none⟩)) (.pointer (some ⟨G, 0, none⟩)) (.pointer (some ⟨G, 0, none⟩)) (.pointer (some ⟨G, 0, none⟩)) (.pointer (some ⟨G, 0, none⟩)) v8 (.agg (pcL p).toArray) v10 v11 v12 v13) (by kernel_rfl) (by kernel_rfl) (by kernel_rfl) (by kernel_rfl) (fun c x w => hQ c x _ _ w) (by kernel_rfl) (fun w hS => load_pc (x := (Operand.tmp 3)) hS (by kernel_rfl) (by kernel_rfl)) (by kernel_rfl) hS ?_
  refine two_h (i := 4) (j := 6) (oi := ops25_1_4 ps) (oj := ops25_1_6 ps) (fuel := 5) (by kernel_rfl) (by kernel_rfl) (by kernel_rfl) (by kernel_rfl) (by kernel_rfl) (fun K hK => ?_) (fun K hK => ?_)
  · have hc : wd.cell? ⟨G, 0, none⟩ = some (.slice va vn vc) := by rw [Lib.cell_of_heap hG]; rfl
    unfold fr25 ops25_1_4
    go_simp
    refine hK _ _ hS (cast_h (fr25 (.pointer (some ⟨G, 0, none⟩)) v1 v2 (.pointer (some ⟨D, 0, none⟩)) (.pointer (some ⟨G, 0, none⟩)) (.pointer (some ⟨G, 0, none⟩)) (.pointer (some ⟨G, 0, none⟩)) (.pointer (some ⟨G, 0, none⟩)) (.slice va vn vc) (.agg (pcL p).toArray) v10 v11 v12 v13) (by kernel_rfl) ?_)
    refine want_h (i := 6) (oi := ops25_1_6 ps) (fuel := 4) (by kernel_rfl) (by kernel_rfl) (by kernel_rfl) fun K hK => ?_
    refine wp_pbuild1 (Operand.tmp 9) (by unfold ops25_1_6; rfl) p rfl ?_
    exact hK _ _ (hS.alloc _) (cast_h (fr25 (.pointer (some ⟨G, 0, none⟩)) v1 v2 (.pointer (some ⟨D, 0, none⟩)) (.pointer (some ⟨G, 0, none⟩)) (.pointer (some ⟨G, 0, none⟩)) (.pointer (some ⟨G, 0, none⟩)) (.pointer (some ⟨G, 0, none⟩)) (.slice va vn vc) (.agg (pcL p).toArray) (.slice (some ⟨wd.heap.size, 0, none⟩) 1 1) v11 v12 v13) (by kernel_rfl) tail)
  · refine wp_pbuild1 (Operand.tmp 9) (by unfold ops25_1_6; rfl) p rfl ?_
    refine hK _ _ (hS.alloc _) (cast_h (fr25 (.pointer (some ⟨G, 0, none⟩)) v1 v2 (.pointer (some ⟨D, 0, none⟩)) (.pointer (some ⟨G, 0, none⟩)) (.pointer (some ⟨G, 0, none⟩)) (.pointer (some ⟨G, 0, none⟩)) (.pointer (some ⟨G, 0, none⟩)) v8 (.agg (pcL p).toArray) (.slice (some ⟨wd.heap.size, 0, none⟩) 1 1) v11 v12 v13) (by kernel_rfl) ?_)
    refine want_h (i := 4) (oi := ops25_1_4 ps) (fuel := 4) (by kernel_rfl) (by kernel_rfl) (by kernel_rfl) fun K hK => ?_
    have hc : (wd.alloc (.cells (pcL p).toArray 41)).cell? ⟨G, 0, none⟩ = some (.slice va vn vc) := by rw [Lib.cell_of_heap ((Below.heap_alloc _ _ _ hGl).trans hG)]; rfl
    unfold fr25 ops25_1_4
    go_simp
    exact hK _ _ (hS.alloc _) (cast_h (fr25 (.pointer (some ⟨G, 0, none⟩)) v1 v2 (.pointer (some ⟨D, 0, none⟩)) (.pointer (some ⟨G, 0, none⟩)) (.pointer (some ⟨G, 0, none⟩)) (.pointer (some ⟨G, 0, none⟩)) (.pointer (some ⟨G, 0, none⟩)) (.slice va vn vc) (.agg (pcL p).toArray) (.slice (some ⟨wd.heap.size, 0, none⟩) 1 1) v11 v12 v13) (by kernel_rfl) tail)
end Go.Proofs.YtnnlfeimebiboaaGreatDoor
