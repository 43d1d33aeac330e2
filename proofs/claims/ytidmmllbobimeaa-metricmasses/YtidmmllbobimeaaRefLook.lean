/-
  What is proved here: the document's Look and Size: the look and the size of a byte.
-/
import Derived.Test.YtidmmllbobimeaaRefProps
import Derived.Test.YtidmmllbobimeaaLook
namespace Go.Proofs.Ytidmmllbobimeaa
open Go.RowKit Go.Shelf

theorem set3' {w : World} {R : Nat} {y0 y1 y2 : Value} (h : w.heap[R]? = some (.cells #[y0, y1, y2] 49 (0, 0))) (x y z : Int) :
    (((w.setCell ⟨R, 0, none⟩ (.int .i64 x)).setCell ⟨R, 1, none⟩ (.int .i64 y)).setCell ⟨R, 2, none⟩ (.int .i64 z)).heap[R]? = some (.cells #[.int .i64 x, .int .i64 y, .int .i64 z] 49 (0, 0)) := by
  have h1 := heap_setCell_same w R 0 _ 49 (.int .i64 x) h
  have h2 := heap_setCell_same _ R 1 _ 49 (.int .i64 y) h1
  exact heap_setCell_same _ R 2 _ 49 (.int .i64 z) h2
theorem below3' {n R : Nat} {w0 w : World} (hb : Below n w0 w) (hn : n ≤ R) (x y z : Value) :
    Below n w0 (((w.setCell ⟨R, 0, none⟩ x).setCell ⟨R, 1, none⟩ y).setCell ⟨R, 2, none⟩ z) := ((hb.setCell (p := ⟨R, 0, none⟩) hn _).setCell (p := ⟨R, 1, none⟩) hn _).setCell (p := ⟨R, 2, none⟩) hn _

set_option maxRecDepth 100000 in
set_option maxHeartbeats 2000000 in
theorem rlook_any (a : Pa) (hsp : spB a.sp a.t.size = true) (k : Nat) (hk : k < a.t.size) (ht : a.t.size ≤ 4096) (w : World) (hA : PaAt w a) : Calls Try.prog 40 #[paV a, .int .i64 k] w fun e w' => e = .returned (.agg #[.int .i64 (spAt a.sp k).s, .int .i64 (spAt a.sp k).t, .int .i64 (spAt a.sp k).k]) ∧ Below w.heap.size w w' := by
  have hB := (Below.refl w.heap.size w).alloc (Nat.le_refl _) (Obj.cells (paC a) 34)
  have hP := PB.new w a
  have hsz1 : (w.alloc (.cells (paC a) 34)).heap.size = w.heap.size + 1 := World.size_alloc _ _
  have hne : a.sp ≠ [] := by
    intro e
    rw [e] at hsp
    have := of_decide_eq_true hsp
    omega
  obtain ⟨ad, cap, hv, h2⟩ := hA.sp.ex
  have hle := hA.sp.le _ _ _ hv
  have hfew := hA.few.1
  rcases h2 with h2 | ⟨b, o, rfl, hb, hcs⟩
  · exact absurd h2 hne
  have hB2 := hB.alloc hB.size (.cells #[.int .i64 0, .int .i64 0, .int .i64 0] 49)
  have hP2 : PB ((w.alloc (.cells (paC a) 34)).alloc (.cells #[.int .i64 0, .int .i64 0, .int .i64 0] 49)) w.heap.size a := ⟨(Below.heap_alloc _ _ _ (by rw [hsz1]; omega)).trans hP.row⟩
  have hR := World.alloc_heap_new (w.alloc (.cells (paC a) 34)) (.cells #[.int .i64 0, .int .i64 0, .int .i64 0] 49)
  rw [hsz1] at hR
  have hcs2 : Hid (∀ (j : Nat) (h : j < a.sp.length) (i : Nat) (u : Value), (spL a.sp[j])[i]? = some u → ((w.alloc (.cells (paC a) 34)).alloc (.cells #[.int .i64 0, .int .i64 0, .int .i64 0] 49)).cell? ⟨b, o + j * 4 + i, none⟩ = some u) := fun j hj i u hu => (hB2.cell hb).trans (hcs j hj i u hu)
  unfold paV
  obtain ⟨V, hV⟩ : ∃ V, V = Value.agg #[.int .i64 (spAt a.sp k).s, .int .i64 (spAt a.sp k).t, .int .i64 (spAt a.sp k).k] := ⟨_, rfl⟩
  rw [← hV]
  replace hV : Hid _ := hV
  have hv' : Hid (a.sv = .slice (some ⟨b, o, none⟩) a.sp.length cap) := hv
  clear hcs hA hv hP hB hne
  generalize hw1 : w.alloc (.cells (paC a) 34) = w1 at *
  go_enter Try.func40, Try.ntmps40
  go_wp2_with fail
  generalize hw2 : w1.alloc (.cells #[.int .i64 0, .int .i64 0, .int .i64 0] 49) = w2 at *
  have c1 := hP2.c1
  rw [hv'.out] at c1
  obtain ⟨L, hL⟩ : ∃ L, a.sp.length = L := ⟨_, rfl⟩
  rw [hL] at c1 hle hfew
  go_loopw [5, 6] (fun x y wr => ∃ j : Nat, j ≤ L ∧ y = .int .i64 j ∧ x = .int .i64 (offs a.sp j) ∧ Hid (offs a.sp j ≤ k) ∧ wr = w2) (fun _ y _ => L - (intOf y).toNat)
  case atStart => exact ⟨0, by omega, rfl, by rw [offs_zero], by show offs a.sp 0 ≤ _; rw [offs_zero]; omega, rfl⟩
  case round =>
    obtain ⟨j, hj, rfl, rfl, hjk, rfl⟩ := hrel
    have hjl : j < a.sp.length := by
      by_cases h : j < a.sp.length
      · exact h
      · obtain rfl : j = a.sp.length := by omega
        have := hjk.out
        rw [spB_total hsp] at this
        omega
    have hjL : (j : Int) < L := by omega
    have hn := spB_all hsp j hjl
    have hoj := offs_le hsp (Nat.zero_le j) (Nat.le_of_lt hjl)
    rw [offs_zero] at hoj
    have hos := offs_succ hjl
    have hot := offs_le hsp (show j + 1 ≤ a.sp.length by omega) (Nat.le_refl _)
    rw [spB_total hsp] at hot
    have c2 : wr.cell? ⟨b, o + j * 4, none⟩ = some (.int .i64 a.sp[j].n) := hcs2.out j hjl 0 _ rfl
    have c3 : wr.cell? ⟨b, o + j * 4 + 1, none⟩ = some (.int .i64 a.sp[j].s) := hcs2.out j hjl 1 _ rfl
    have c4 : wr.cell? ⟨b, o + j * 4 + 2, none⟩ = some (.int .i64 a.sp[j].t) := hcs2.out j hjl 2 _ rfl
    have c5 : wr.cell? ⟨b, o + j * 4 + 3, none⟩ = some (.int .i64 a.sp[j].k) := hcs2.out j hjl 3 _ rfl
    have hlk : Hid ((k : Int) < offs a.sp (j + 1) → spAt a.sp k = a.sp[j]) := fun h => by
      have hlk : lkI a.sp k = j := lk_uniq hsp hjl hjk.out h
      unfold spAt
      rw [hlk, List.getD_eq_getElem?_getD, List.getElem?_eq_getElem hjl]; rfl
    have ho1 : Hid (offs a.sp (j + 1) = offs a.sp j + a.sp[j].n) := hos
    have hn1 := hn.1
    have hn3 := hn.2.2
    rw [hos] at hot
    clear hos hn hcs2 hsp hv'
    generalize offs a.sp j = e0 at *
    generalize a.sp[j] = r at *
    by_cases hlt : (k : Int) < e0 + r.n
    · have hsa := hlk.out (by rw [ho1.out]; exact hlt)
      have hV2 := hV.out
      rw [hsa] at hV2
      replace hV2 : Hid _ := hV2
      clear hlk ho1 hjk hsa hV
      obtain ⟨n0, s0, t0, k0⟩ := r
      dsimp only at *
      have g0 : wr.frozen? ⟨w.heap.size + 1, 0, none⟩ = false := Lib.frozen_of_heap hR 0
      have g1 : wr.frozen? ⟨w.heap.size + 1, 1, none⟩ = false := Lib.frozen_of_heap hR 1
      have g2 : wr.frozen? ⟨w.heap.size + 1, 2, none⟩ = false := Lib.frozen_of_heap hR 2
      have r0 : wr.cell? ⟨w.heap.size + 1, 0, none⟩ = some (.int .i64 0) := by rw [Lib.cell_of_heap hR]; rfl
      have r1 : wr.cell? ⟨w.heap.size + 1, 1, none⟩ = some (.int .i64 0) := by rw [Lib.cell_of_heap hR]; rfl
      have r2 : wr.cell? ⟨w.heap.size + 1, 2, none⟩ = some (.int .i64 0) := by rw [Lib.cell_of_heap hR]; rfl
      go_wp2_with fail
      have hA := set3' hR s0 t0 k0
      refine bodyPost_ret (results_cell_row rfl _ _ (w.heap.size + 1) 49 _ (0, 0) _ rfl hA Try.underlying49 rfl info49) rfl ⟨by rw [hV2.out], below3' hB2 (by omega) _ _ _⟩
    · have ho1' : Hid (offs a.sp (j + 1) = e0 + r.n) := ho1
      clear hlk ho1 c3 c4 c5 hV
      go_wp2_with fail
      go_roundw
      case rel => exact ⟨j + 1, by omega, by simp, by rw [ho1'.out], by show offs a.sp (j + 1) ≤ _; rw [ho1'.out]; omega, by first | rfl | trivial⟩
      case measure => simp [intOf]; omega

theorem field49_0 (x y z : Int) (w : World) : (Instr.field 49 (.agg #[.int .i64 x, .int .i64 y, .int .i64 z]) 0).run Try.prog w = .ok (.int .i64 x) w := by kernel_rfl
theorem field49_2 (x y z : Int) (w : World) : (Instr.field 49 (.agg #[.int .i64 x, .int .i64 y, .int .i64 z]) 2).run Try.prog w = .ok (.int .i64 z) w := by kernel_rfl
set_option maxRecDepth 100000 in
set_option maxHeartbeats 2000000 in
theorem rsize_any (a : Pa) (hsp : spB a.sp a.t.size = true) (k : Nat) (hk : k < a.t.size) (ht : a.t.size ≤ 4096) (w : World) (hA : PaAt w a) : Calls Try.prog 39 #[paV a, .int .i64 k] w fun e w' => e = .returned (.int .i64 (szAt a k)) ∧ Below w.heap.size w w' := by
  have hB := (Below.refl w.heap.size w).alloc (Nat.le_refl _) (Obj.cells (paC a) 34)
  have hP := PB.new w a
  have hl := rlook_any a hsp k hk ht _ (hA.below hB (Nat.le_refl _))
  have hv : Hid (szAt a k = if (spAt a.sp k).s = 0 then a.p.p0 else (spAt a.sp k).s) := rfl
  generalize szAt a k = z at *
  generalize spAt a.sp k = r at *
  unfold paV at hl ⊢
  generalize hw1 : w.alloc (.cells (paC a) 34) = w1 at *
  clear hA
  go_enter Try.func39, Try.ntmps39
  go_wp2_with (refine wpList_load_row rfl 34 _ rfl w.heap.size rfl 34 _ (0, 0) _ hP.row Try.underlying34 rfl (info34 a) ?_)
  refine hl.mono ?_
  rintro e w2 ⟨rfl, hb2⟩
  have hP2 := hP.below hb2 hP.lt
  have hB2 := hB.trans (hb2.mono hB.size)
  have cP := hP2.c2
  obtain ⟨n0, s0, t0, k0⟩ := r
  dsimp only at *
  have hf := field49_0 s0 t0 k0
  by_cases h0 : s0 = 0
  · subst h0
    have hz : Hid (z = a.p.p0) := hv.out
    clear hv
    go_wp2_with fail
    go_ret
    exact ⟨by rw [hz.out]; rfl, hB2⟩
  · have hz : Hid (z = s0) := by have := hv.out; rw [if_neg h0] at this; exact this
    have h0' : (s0 == 0) = false := by simpa using h0
    clear hv
    go_wp2_with fail
    go_ret
    exact ⟨by rw [hz.out]; rfl, hB2⟩
end Go.Proofs.Ytidmmllbobimeaa
