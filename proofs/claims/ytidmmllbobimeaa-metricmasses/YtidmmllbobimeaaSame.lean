/-
  What is proved here: when two lists of spans, of marks, two paragraphs are the same.
-/
import Derived.Test.YtidmmllbobimeaaCheck
namespace Go.Proofs.Ytidmmllbobimeaa
open Go.RowKit Go.Shelf

set_option maxRecDepth 100000 in
set_option maxHeartbeats 2000000 in
theorem sameSpans_yes (v u : Value) (qs : List Sp) (w : World) (hl : qs.length ≤ 9223372036854775807) (hS : RecAt 4 spL w v qs) (hR : RecAt 4 spL w u qs) :
    Calls Try.prog 47 #[v, u] w fun e w' => e = .returned (.bool true) ∧ Below w.heap.size w w' := by
  obtain ⟨a, cap, rfl, h2⟩ := hS.ex
  obtain ⟨a', cap', rfl, h3⟩ := hR.ex
  clear hS hR
  go_enter Try.func47, Try.ntmps47
  go_wp2_with fail
  go_loopw [5] (fun i wr => ∃ k : Nat, k ≤ qs.length ∧ i = .int .i64 k ∧ Below w.heap.size w wr) (fun i _ => qs.length - (intOf i).toNat)
  case atStart => exact ⟨0, by omega, rfl, Below.refl _ _⟩
  case round =>
    obtain ⟨k, hk, rfl, hb⟩ := hrel
    by_cases hlt : k < qs.length
    · rcases h2 with h2 | ⟨b, o, rfl, hbl, hc⟩
      · rw [h2] at hlt; simp at hlt
      · rcases h3 with h3 | ⟨b', o', rfl, hbl', hc'⟩
        · rw [h3] at hlt; simp at hlt
        · have hlt' : (k : Int) < qs.length := by omega
          have c0 : wr.cell? ⟨b, o + k * 4, none⟩ = some (.int .i64 qs[k].n) := (hb.cell hbl).trans (hc k hlt 0 _ rfl)
          have d0 : wr.cell? ⟨b', o' + k * 4, none⟩ = some (.int .i64 qs[k].n) := (hb.cell hbl').trans (hc' k hlt 0 _ rfl)
          have c1 : wr.cell? ⟨b, o + k * 4 + 1, none⟩ = some (.int .i64 qs[k].s) := (hb.cell hbl).trans (hc k hlt 1 _ rfl)
          have d1 : wr.cell? ⟨b', o' + k * 4 + 1, none⟩ = some (.int .i64 qs[k].s) := (hb.cell hbl').trans (hc' k hlt 1 _ rfl)
          have c2 : wr.cell? ⟨b, o + k * 4 + 2, none⟩ = some (.int .i64 qs[k].t) := (hb.cell hbl).trans (hc k hlt 2 _ rfl)
          have d2 : wr.cell? ⟨b', o' + k * 4 + 2, none⟩ = some (.int .i64 qs[k].t) := (hb.cell hbl').trans (hc' k hlt 2 _ rfl)
          have c3 : wr.cell? ⟨b, o + k * 4 + 3, none⟩ = some (.int .i64 qs[k].k) := (hb.cell hbl).trans (hc k hlt 3 _ rfl)
          have d3 : wr.cell? ⟨b', o' + k * 4 + 3, none⟩ = some (.int .i64 qs[k].k) := (hb.cell hbl').trans (hc' k hlt 3 _ rfl)
          clear hc hc'
          generalize qs[k].n = x0 at *
          generalize qs[k].s = x1 at *
          generalize qs[k].t = x2 at *
          generalize qs[k].k = x3 at *
          go_wp2_with fail
          go_quiet (fail)
          go_wp2_with fail
          go_roundw
          case rel => exact ⟨k + 1, by omega, by simp, below_drewN hb _⟩
          case measure => simp [intOf]; omega
    · have hge : ¬ (k : Int) < qs.length := by omega
      go_wp2_with fail
      go_ret
      exact ⟨rfl, hb⟩

set_option maxRecDepth 100000 in
set_option maxHeartbeats 2000000 in
theorem sameTexts_yes (v u : Value) (qs : List ByteArray) (w : World) (hl : qs.length ≤ 9223372036854775807) (hS : StrsAt w v qs) (hR : StrsAt w u qs) :
    Calls Try.prog 48 #[v, u] w fun e w' => e = .returned (.bool true) ∧ Below w.heap.size w w' := by
  obtain ⟨a, cap, rfl, h2⟩ := hS.ex
  obtain ⟨a', cap', rfl, h3⟩ := hR.ex
  clear hS hR
  go_enter Try.func48, Try.ntmps48
  go_wp2_with fail
  go_loopw [5] (fun i wr => ∃ k : Nat, k ≤ qs.length ∧ i = .int .i64 k ∧ Below w.heap.size w wr) (fun i _ => qs.length - (intOf i).toNat)
  case atStart => exact ⟨0, by omega, rfl, Below.refl _ _⟩
  case round =>
    obtain ⟨k, hk, rfl, hb⟩ := hrel
    by_cases hlt : k < qs.length
    · rcases h2 with h2 | ⟨b, o, rfl, hbl, hc⟩
      · rw [h2] at hlt; simp at hlt
      · rcases h3 with h3 | ⟨b', o', rfl, hbl', hc'⟩
        · rw [h3] at hlt; simp at hlt
        · have hlt' : (k : Int) < qs.length := by omega
          have c0 : wr.cell? ⟨b, o + k, none⟩ = some (.string qs[k]) := (hb.cell hbl).trans (hc k hlt)
          have d0 : wr.cell? ⟨b', o' + k, none⟩ = some (.string qs[k]) := (hb.cell hbl').trans (hc' k hlt)
          clear hc hc'
          generalize qs[k] = x0 at *
          go_wp2_with fail
          go_quiet (fail)
          go_wp2_with fail
          go_roundw
          case rel => exact ⟨k + 1, by omega, by simp, below_drewN hb _⟩
          case measure => simp [intOf]; omega
    · have hge : ¬ (k : Int) < qs.length := by omega
      go_wp2_with fail
      go_ret
      exact ⟨rfl, hb⟩


set_option maxRecDepth 100000 in
set_option maxHeartbeats 4000000 in
theorem eqIn31 (p : Pr) (w : World) : (Op.equalIn 10000 31 (.agg (prL p).toArray) (.agg (prL p).toArray)).run Try.prog w = .ok true w := by
  obtain ⟨x0, x1, x2, x3, x4, x5, x6, x7, x8, x9, x10, x11, x12, x13, x14, x15, x16⟩ := p
  show (Op.equalIn 10000 31 (.agg #[.int .i64 x0, .int .i64 x1, .int .i64 x2, .int .i64 x3, .int .i64 x4, .int .i64 x5, .int .i64 x6, .int .i64 x7, .int .i64 x8, .int .i64 x9, .int .i64 x10, .int .i64 x11, .int .i64 x12, .int .i64 x13, .int .i64 x14, .int .i64 x15, .int .i64 x16]) (.agg #[.int .i64 x0, .int .i64 x1, .int .i64 x2, .int .i64 x3, .int .i64 x4, .int .i64 x5, .int .i64 x6, .int .i64 x7, .int .i64 x8, .int .i64 x9, .int .i64 x10, .int .i64 x11, .int .i64 x12, .int .i64 x13, .int .i64 x14, .int .i64 x15, .int .i64 x16])).run Try.prog w = .ok true w
  go_simp
theorem eql31 (p : Pr) (w : World) : (binOp .eql 31 (.agg (prL p).toArray) (.agg (prL p).toArray)).run Try.prog w = .ok (.bool true) w := by
  rw [run_eql_struct, eqIn31 p w]
  rfl
theorem guard31 : Try.prog.eqGuardType Try.prog.depth 31 = false := by kernel_rfl
theorem wpList_eql31_want {ops : Array Oper} {rest : List Oper} {o : Oper} {a : Act} {w : World} {Q : Exit → Act → World → Prop} (x y : Operand) (ho : o.op = .binOp .eql 31 x y 31) (hw : Region.wanted o (yielded ops a.tmps) = true)
    (p : Pr) (hx : a.eval x = .agg (prL p).toArray) (hy : a.eval y = .agg (prL p).toArray)
    (h : wpList Try.prog ops Q rest (a.put o.dst (.bool true)) w) : wpList Try.prog ops Q (o :: rest) a w :=
  BigFrame.wpList_want hw fun K hK => by
    have he := eql31 p w
    have hg := run_eqGuard_agg w .eql 31 x y (prL p).toArray (prL p).toArray guard31
    unfold Oper.wp execOp
    simp only [ho, hx, hy, Sem.run_bind, hg, he, Result.andThen_ok, Sem.run_pure]
    exact hK _ _ h

/-- The same paragraph, its lists elsewhere. -/
def paW (a : Pa) (v u : Value) : Pa := ⟨a.t, v, a.p, a.lb, u, a.sp, a.ms⟩

set_option maxRecDepth 100000 in
set_option maxHeartbeats 4000000 in
theorem samePara_yes (a : Pa) (v u : Value) (w : World) (hA : PaAt w a) (hA' : PaAt w (paW a v u)) :
    Calls Try.prog 22 #[paV (paW a v u), paV a] w fun e w' => e = .returned (.bool true) ∧ Below w.heap.size w w' := by
  have hB := (Below.refl w.heap.size w).alloc (Nat.le_refl _) (Obj.cells (paC (paW a v u)) 34)
  have hP := PB.new w (paW a v u)
  have hB2 := hB.alloc hB.size (Obj.cells (paC a) 34)
  have hP2 : PB ((w.alloc (.cells (paC (paW a v u)) 34)).alloc (.cells (paC a) 34)) w.heap.size (paW a v u) := ⟨(Below.heap_alloc _ _ _ (by simp)).trans hP.row⟩
  have hQ2 := PB.new (w.alloc (.cells (paC (paW a v u)) 34)) a
  rw [World.size_alloc] at hQ2
  have hA2 := hA.below hB2 (Nat.le_refl _)
  have hA2' := hA'.below hB2 (Nat.le_refl _)
  unfold paV
  have hs1 : (w.alloc (.cells (paC (paW a v u)) 34)).heap.size = w.heap.size + 1 := World.size_alloc _ _
  clear hP hB hA hA'
  go_enter Try.func22, Try.ntmps22
  generalize hw1 : w.alloc (.cells (paC (paW a v u)) 34) = w1 at *
  have c0 := hP2.c0
  have d0 := hQ2.c0
  have c1 := hP2.c1
  have d1 := hQ2.c1
  generalize hw2 : w1.alloc (.cells (paC a) 34) = w2 at *
  have e0 : (paW a v u).t = a.t := rfl
  have e1 : (paW a v u).sv = v := rfl
  rw [e0] at c0
  rw [e1] at c1
  have hss := sameSpans_yes v a.sv a.sp w2 hA2.few.1 hA2'.sp hA2.sp
  go_wp2_with fail
  refine hss.mono ?_
  rintro e w3 ⟨rfl, b3⟩
  have hP3 := hP2.below b3 hP2.lt
  have hQ3 := hQ2.below b3 hQ2.lt
  have hA3 := hA2.below b3 (Nat.le_refl _)
  have hA3' := hA2'.below b3 (Nat.le_refl _)
  have hB3 := hB2.trans (b3.mono hB2.size)
  have c19 := hP3.c19
  have d19 := hQ3.c19
  have c20 := hP3.c20
  have d20 := hQ3.c20
  have e19 : (paW a v u).lb = a.lb := rfl
  have e20 : (paW a v u).mv = u := rfl
  rw [e19] at c19
  rw [e20] at c20
  have hst := sameTexts_yes u a.mv a.ms w3 hA3.few.2 hA3'.ms hA3.ms
  go_wp2_with (first | (refine wpList_load_part 31 _ rfl (by rfl) w.heap.size 2 rfl (prL a.p) _ hP3.pr Try.underlying31 rfl (info31 a.p) ?_) | (refine wpList_load_part 31 _ rfl (by rfl) (w.heap.size + 1) 2 rfl (prL a.p) _ hQ3.pr Try.underlying31 rfl (info31 a.p) ?_) | (refine wpList_eql31_want _ _ rfl (by rfl) a.p rfl rfl ?_))
  refine hst.mono ?_
  rintro e w4 ⟨rfl, b4⟩
  have hB4 := hB3.trans (b4.mono hB3.size)
  go_wp2_with fail
  go_ret
  exact ⟨rfl, hB4⟩
end Go.Proofs.Ytidmmllbobimeaa
