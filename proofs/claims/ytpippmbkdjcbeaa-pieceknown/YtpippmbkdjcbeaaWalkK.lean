/-
  What is proved here: what Count answers of a text in pieces.
-/
import Derived.Test.YtpippmbkdjcbeaaWalkJ
namespace Go.Proofs.Ytpippmbkdjcbeaa
open Go.RowKit Go.Shelf
attribute [local go_sem] Oper.semAt_some wide_fn wide_depth

/-- How often byte c stands in l. -/
def cB (c : Int) (l : List UInt8) : Nat := (l.filter (fun x => decide ((x.toNat : Int) = c))).length

theorem cB_append (c : Int) (a b : List UInt8) : cB c (a ++ b) = cB c a + cB c b := by simp [cB]
theorem cB_le (c : Int) (l : List UInt8) : cB c l ≤ l.length := List.length_filter_le _ _
theorem cB_snoc (c : Int) (l : List UInt8) (x : UInt8) : cB c (l ++ [x]) = cB c l + (if (x.toNat : Int) = c then 1 else 0) := by
  rw [cB_append]; by_cases h : (x.toNat : Int) = c <;> simp [cB, h]

theorem pc_list {rs : List (List UInt8)} {i : Nat} (h : i < rs.length) : (pc rs i).data.toList = rs[i] := by rw [pc_eq h]

set_option maxRecDepth 100000 in
set_option maxHeartbeats 2000000 in
theorem count_text (t : Nat) (sv : Value) (rs : List (List UInt8)) (htot : rs.flatten.length ≤ 4096) (hcnt : rs.length ≤ 4096) (c : Int) (w : World) (hT : TextAt t sv rs w) :
    Calls Try.prog 12 #[.pointer (some ⟨t, 0, none⟩), .int .u8 c] w fun e w' => e = .returned (.int .i64 (cB c rs.flatten)) ∧ Below w.heap.size w w' := by
  refine callsIn_wide (n := 0).1 ?_
  refine callsIn_of_wp_marks Try.func12 rfl trivial ?_ rfl
  simp only [Try.ntmps12, List.size_toArray, List.length_cons, List.length_nil, Nat.reduceAdd, Nat.reduceSub, Array.replicate_succ, Array.replicate_zero, List.push_toArray, List.append_toArray, List.nil_append, List.cons_append]
  gi_wp2_with (gi_at_call 23; refine (callsIn_wide.2 (walk_any _ _)).mono ?_; rintro e w' ⟨rfl, rfl⟩)
  obtain ⟨w1, hw1⟩ : ∃ w1, ((w.alloc (.cells #[.int .u8 c] 5)).alloc (.cells #[.int .i64 0] 3)).alloc (.cells #[.pointer (some ⟨t, 0, none⟩)] 22) = w1 := ⟨_, rfl⟩
  have hs1 : w1.heap.size = w.heap.size + 3 := by rw [← hw1]; simp
  have hT1 : Turns Noth w w1 := by rw [← hw1]; exact ((Turns.alloc _ _ _).trans (Turns.alloc _ _ _)).trans (Turns.alloc _ _ _)
  obtain ⟨hB0, hB1, hB2⟩ := allocs3 w (.cells #[.int .u8 c] 5) (.cells #[.int .i64 0] 3) (.cells #[.pointer (some ⟨t, 0, none⟩)] 22)
  rw [hw1] at hB0 hB1 hB2
  have hRd : Read (w.heap.size + 1 + 1) t sv rs w1 := (hT.turns hT1 (fun _ h => h.elim)).read hB2
  have hmx : Try.prog.follows .mixedOrders = true := by kernel_rfl
  rw [hw1]
  refine wp_range (gf := 37) (lb := #[.pointer (some ⟨w.heap.size + 1 + 1, 0, none⟩)]) rfl (enters_of Try.func37 (by kernel_rfl) rfl) (walk1_gives (w.heap.size + 1 + 1) t sv rs htot hcnt) (fun _ => rfl)
    (fun i X W => Base w1 (fun k => k = w.heap.size + 1) X W ∧ W.heap[w.heap.size + 1]? = some (.cells #[.int .i64 (cB c (rs.take i).flatten)] 3))
    (fun _ _ _ _ => False)
    (fun a' i X W => (Base w1 (fun k => k = w.heap.size + 1) X W ∧ W.heap[w.heap.size + 1]? = some (.cells #[.int .i64 (cB c (rs.take i).flatten)] 3)) ∧ ∃ B, ¬ X B ∧ W.heap[B]? = some (.cells #[.string (pc rs i)] 55) ∧
      a' = { tmps := #[.pointer (some ⟨t, 0, none⟩), .int .u8 c, undef, .pointer (some ⟨w.heap.size, 0, none⟩), .int .i64 0, .pointer (some ⟨w.heap.size + 1, 0, none⟩), undef, .pointer (some ⟨B, 0, none⟩), undef, .pointer (some ⟨t, 0, none⟩), .func (.func 37) #[] #[.pointer (some ⟨w.heap.size + 1 + 1, 0, none⟩)], .int .i64 (start rs i), .agg #[.string (pc rs i)], undef, undef, undef, undef, undef, undef, undef, undef, undef, undef, undef, undef, undef, undef, undef, undef], defers := [] })
    (steady_box (by omega) _) (fun _ => steady_never) (fun a' => (steady_box (by omega) _).and (steady_round a' _ _)) ?hR ⟨Base.start _ _, hB1⟩ ?assign ?body ?done ?stop
  case hR =>
    rintro i X W ⟨hb, _⟩
    exact hRd.turns hb.turns (by omega) (by have := hT.lt; omega) (fun g hg => by have := (hT.row.lt g hg).2; omega)
  case assign =>
    rintro l i X W K hi ⟨hb, hc⟩ hK
    unfold encRun
    gi_wp2
    refine hK _ _ (Keeps.alloc _ _ _) ⟨⟨hb.alloc _, (Below.heap_alloc _ _ _ (by have := hb.turns.size; omega)).trans hc⟩, W.heap.size, hb.fresh, World.alloc_heap_new _ _, rfl⟩
  case body =>
    rintro l i X a' W hi ⟨⟨hb, hc⟩, B, hB, hr, rfl⟩
    have hr0 : W.cell? ⟨B, 0, none⟩ = some (.string (pc rs i)) := by rw [Lib.cell_of_heap hr]; rfl
    have hps := pc_size hi
    have hpl := pc_list hi
    have hst := start_succ rs hi
    have hsl := start_le rs (i + 1)
    have hbs := hb.turns.size
    have hBlt := (Array.getElem?_eq_some_iff.1 hr).1
    generalize pc rs i = r at *
    have hrs : r.size ≤ 4096 := by omega
    have HL : Hid (r.data.toList = rs[i]) := hpl
    clear hps hpl
    gi_wp2
    gi_loopw [16] (fun q wr => ∃ k : Nat, k ≤ r.size ∧ q = .int .i64 k ∧ Base w1 (fun k => k = w.heap.size + 1) X wr ∧ Keeps X W wr ∧ wr.heap[w.heap.size + 1]? = some (.cells #[.int .i64 (cB c ((rs.take i).flatten ++ r.data.toList.take k))] 3) ∧ wr.heap[B]? = some (.cells #[.string r] 55)) (fun q _ => r.size - (intOf q).toNat)
    case atStart => exact ⟨0, Nat.zero_le _, rfl, hb, Keeps.refl _ _, by simpa using hc, hr⟩
    case round =>
      obtain ⟨k, hk, rfl, hbr, hkr, hcr, hrr⟩ := hrel
      by_cases hlt : k < r.size
      · have cr : wr.cell? ⟨B, 0, none⟩ = some (.string r) := by rw [Lib.cell_of_heap hrr]; rfl
        have cb : wr.cell? ⟨w.heap.size, 0, none⟩ = some (.int .u8 c) := by rw [Lib.cell_of_heap ((hbr.turns.block _ (by omega) (by omega)).trans hB0)]; rfl
        have cn : wr.cell? ⟨w.heap.size + 1, 0, none⟩ = some (.int .i64 (cB c ((rs.take i).flatten ++ r.data.toList.take k))) := by rw [Lib.cell_of_heap hcr]; rfl
        have fn : wr.frozen? ⟨w.heap.size + 1, 0, none⟩ = false := Lib.frozen_of_heap hcr 0
        have hsn := cB_snoc c ((rs.take i).flatten ++ r.data.toList.take k) r[k]
        have htk : (rs.take i).flatten ++ r.data.toList.take (k + 1) = ((rs.take i).flatten ++ r.data.toList.take k) ++ [r[k]] := by
          rw [List.take_succ_eq_append_getElem (show k < r.data.toList.length by simpa using hlt), List.append_assoc]; rfl
        rw [← htk] at hsn
        have hle := cB_le c ((rs.take i).flatten ++ r.data.toList.take k)
        have hl2 : ((rs.take i).flatten ++ r.data.toList.take k).length ≤ 8192 := by
          have h1 : (rs.take i).flatten.length ≤ rs.flatten.length := start_le rs i
          have h2 : (r.data.toList.take k).length ≤ k := List.length_take_le _ _
          rw [List.length_append]; omega
        generalize cB c ((rs.take i).flatten ++ r.data.toList.take k) = n0 at *
        have HS : Hid (cB c ((rs.take i).flatten ++ r.data.toList.take (k + 1)) = n0 + if (r[k].toNat : Int) = c then 1 else 0) := hsn
        clear hsn htk
        have hn0 : n0 ≤ 8192 := by omega
        clear hle hl2
        by_cases hx : (r[k].toNat : Int) = c
        · have hxb : ((r[k].toNat : Int) == c) = true := beq_iff_eq.2 hx
          have HX : Hid ((r[k].toNat : Int) = c) := hx
          clear hx
          gi_wp2
          refine wpIn_quiet_round rfl hmx (by kernel_rfl) (by kernel_rfl) ?_
          repeat (gi_big_quiet_step (fail))
          refine wpQuietIn_nil ?_
          rintro _ ⟨nq, rfl⟩
          gi_wp2
          have hne : B ≠ w.heap.size + 1 := fun e => by rw [e, hcr] at hrr; simp at hrr
          have hnX : ¬ X (w.heap.size + 1) := fun h => by have := (hb.young _ h).1; omega
          have hset := Boxed.set (.int .i64 ((n0 : Int) + 1)) (show Boxed (wr.drewN nq) (w.heap.size + 1) 3 _ from hcr)
          go_roundw
          case rel =>
            refine ⟨k + 1, by omega, by simp, (hbr.step (Turns.drewN _ _ nq) (fun _ h => .inl h)).set rfl _, Keeps.trans (B := wr.drewN nq) ⟨hkr.size, hkr.block⟩ (Keeps.set _ hnX _), ?_, (Below.heap_setCell _ _ _ _ hne).trans hrr⟩
            rw [HS.out, if_pos HX.out]
            exact hset
          case measure => simp [intOf]; omega
        · have hxb : ((r[k].toNat : Int) == c) = false := beq_eq_false_iff_ne.2 hx
          gi_wp2
          refine wpIn_quiet_round rfl hmx (by kernel_rfl) (by kernel_rfl) ?_
          repeat (gi_big_quiet_step (fail))
          refine wpQuietIn_nil ?_
          rintro _ ⟨nq, rfl⟩
          gi_wp2
          go_roundw
          case rel => exact ⟨k + 1, by omega, by simp, hbr.step (Turns.drewN _ _ nq) (fun _ h => .inl h), ⟨hkr.size, hkr.block⟩, by rw [HS.out, if_neg hx]; exact hcr, hrr⟩
          case measure => simp [intOf]; omega
      · obtain rfl : k = r.size := by omega
        gi_wp2
        refine ⟨hkr, hbr, ?_⟩
        have hfl : (rs.take (i + 1)).flatten = (rs.take i).flatten ++ r.data.toList := by
          rw [List.take_succ_eq_append_getElem hi, List.flatten_append, HL.out]; simp
        rw [hfl]
        rw [show List.take r.size r.data.toList = r.data.toList from List.take_of_length_le (Nat.le_refl _)] at hcr
        exact hcr
  case done =>
    rintro D W hD ⟨hb, hc⟩ hK
    have hc0 : W.cell? ⟨w.heap.size + 1, 0, none⟩ = some (.int .i64 (cB c (rs.take rs.length).flatten)) := by rw [Lib.cell_of_heap hc]; rfl
    rw [List.take_length] at hc0
    gi_wp2
    refine ⟨by simp, .inl ⟨_, _, rfl, run_takeDeferred hK, ?_⟩⟩
    exact ⟨_, results_tmp rfl _ _ _, rfl, below_end hT1 hb (fun k h => by omega) _⟩
  case stop =>
    rintro D c i W _ _ h _
    exact h.elim

set_option maxRecDepth 100000 in
set_option maxHeartbeats 2000000 in
theorem byte_range (t : Nat) (sv : Value) (rs : List (List UInt8)) (htot : rs.flatten.length ≤ 4096) (hcnt : rs.length ≤ 4096) (a : Int) (ha : a < 0 ∨ (rs.flatten.length : Int) ≤ a) (hab : a ≤ 9223372036854775807) (w : World) (hT : TextAt t sv rs w) :
    Calls Try.prog 8 #[.pointer (some ⟨t, 0, none⟩), .int .i64 a] w fun e w' => e = .returned (.tuple #[.int .u8 0, .int .i64 5]) ∧ Below w.heap.size w w' := by
  refine callsIn_wide (n := 0).1 ?_
  refine callsIn_of_wp_marks Try.func8 rfl trivial ?_ rfl
  simp only [Try.ntmps8, List.size_toArray, List.length_cons, List.length_nil, Nat.reduceAdd, Nat.reduceSub, Array.replicate_succ, Array.replicate_zero, List.push_toArray, List.append_toArray, List.nil_append, List.cons_append]
  have hTx : ∀ o1 o2 o3, TextAt t sv rs (((w.alloc o1).alloc o2).alloc o3) := fun o1 o2 o3 => hT.turns (((Turns.alloc Noth _ _).trans (Turns.alloc _ _ _)).trans (Turns.alloc _ _ _)) (fun _ h => h.elim)
  gi_wp2_with (first | (gi_at_call 21; refine (callsIn_wide.2 (made_yes _ _ (hTx _ _ _).c0)).mono ?_; rintro e w' ⟨rfl, hww⟩; subst w') | (gi_at_call 23; refine (callsIn_wide.2 (walk_any _ _)).mono ?_; rintro e w' ⟨rfl, hww⟩; subst w'))
  obtain ⟨⟨hB0, hB1⟩, hB2, hB3⟩ := allocs4 w (.cells #[.int .i64 a] 3) (.cells #[.int .u8 0] 5) (.cells #[.int .i64 0] 27) (.cells #[.pointer (some ⟨t, 0, none⟩)] 22)
  obtain ⟨w1, hw1⟩ : ∃ w1, (((w.alloc (.cells #[.int .i64 a] 3)).alloc (.cells #[.int .u8 0] 5)).alloc (.cells #[.int .i64 0] 27)).alloc (.cells #[.pointer (some ⟨t, 0, none⟩)] 22) = w1 := ⟨_, rfl⟩
  have hs1 : w1.heap.size = w.heap.size + 4 := by rw [← hw1]; simp
  have hT1 : Turns Noth w w1 := by rw [← hw1]; exact (((Turns.alloc _ _ _).trans (Turns.alloc _ _ _)).trans (Turns.alloc _ _ _)).trans (Turns.alloc _ _ _)
  rw [hw1] at hB0 hB1 hB2 hB3 ⊢
  have hRd : Read (w.heap.size + 1 + 2) t sv rs w1 := (hT.turns hT1 (fun _ h => h.elim)).read hB3
  clear hw1 hTx
  refine wp_range (gf := 37) (lb := #[.pointer (some ⟨w.heap.size + 1 + 2, 0, none⟩)]) (by rfl) (enters_of Try.func37 (by kernel_rfl) rfl) (walk1_gives (w.heap.size + 1 + 2) t sv rs htot hcnt) (fun _ => rfl)
    (fun _ X W => Base w1 Noth X W) (fun _ _ _ _ => False)
    (fun a' i X W => Base w1 Noth X W ∧ ∃ B, ¬ X B ∧ W.heap[B]? = some (.cells #[.string (pc rs i)] 55) ∧
      a' = { tmps := #[.pointer (some ⟨t, 0, none⟩), .int .i64 a, undef, .pointer (some ⟨w.heap.size, 0, none⟩), .pointer (some ⟨w.heap.size + 1, 0, none⟩), .pointer (some ⟨w.heap.size + 1 + 1, 0, none⟩), .int .i64 (start rs i), .pointer (some ⟨B, 0, none⟩), .pointer (some ⟨t, 0, none⟩), .bool true, .bool false, .pointer (some ⟨t, 0, none⟩), .func (.func 37) #[] #[.pointer (some ⟨w.heap.size + 1 + 2, 0, none⟩)], .int .i64 (start rs i), .agg #[.string (pc rs i)], undef, undef, undef, undef, undef, undef, undef, undef, undef, undef, undef, undef, undef, undef, undef, undef, undef, undef], defers := [] })
    (steady_base _ _) (fun _ => steady_never) (fun a' => (steady_base _ _).and (steady_round a' _ _)) ?hR (Base.start _ _) ?assign ?body ?done ?stop
  case hR =>
    rintro i X W hb
    exact hRd.turns hb.turns (fun h => h) (fun h => h) (fun _ _ h => h)
  case assign =>
    rintro l i X W K hi hb hK
    unfold encRun
    gi_wp2
    refine hK _ _ (Keeps.alloc _ _ _) ⟨hb.alloc _, W.heap.size, hb.fresh, World.alloc_heap_new _ _, rfl⟩
  case body =>
    rintro l i X a' W hi ⟨hb, B, hB, hr, rfl⟩
    have hr0 : W.cell? ⟨B, 0, none⟩ = some (.string (pc rs i)) := by rw [Lib.cell_of_heap hr]; rfl
    have ca : W.cell? ⟨w.heap.size, 0, none⟩ = some (.int .i64 a) := by rw [Lib.cell_of_heap ((hb.turns.block _ (by omega) (fun h => h)).trans hB0)]; rfl
    have hps := pc_size hi
    have hst := start_succ rs hi
    have hsl := start_le rs (i + 1)
    have hbd : a < 0 ∨ ((start rs i : Int) ≤ a ∧ (rs[i].length : Int) ≤ a - (start rs i : Int)) := by omega
    have hrs : rs[i].length ≤ 4096 := by omega
    have hss : start rs i ≤ 4096 := by omega
    generalize rs[i].length = n at *
    generalize start rs i = s at *
    clear hst hsl
    rcases hbd with h | ⟨h, h'⟩
    · have hd : decide ((s : Int) ≤ a) = false := by simp; omega
      gi_wp2
      exact ⟨Keeps.refl _ _, hb⟩
    · have hd : decide (a - (s : Int) < (n : Int)) = false := by simp; omega
      gi_wp2
      exact ⟨Keeps.refl _ _, hb⟩
  case done =>
    rintro D W hD hb hK
    have hR1 := (hb.turns.block _ (show w.heap.size + 1 < w1.heap.size by omega) (fun h => h)).trans hB1
    have hR2 := (hb.turns.block _ (show w.heap.size + 1 + 1 < w1.heap.size by omega) (fun h => h)).trans hB2
    have c1 : W.cell? ⟨w.heap.size + 1, 0, none⟩ = some (.int .u8 0) := by rw [Lib.cell_of_heap hR1]; rfl
    have c2 : W.cell? ⟨w.heap.size + 1 + 1, 0, none⟩ = some (.int .i64 0) := by rw [Lib.cell_of_heap hR2]; rfl
    have f1 : W.frozen? ⟨w.heap.size + 1, 0, none⟩ = false := Lib.frozen_of_heap hR1 0
    have f2 : W.frozen? ⟨w.heap.size + 1 + 1, 0, none⟩ = false := Lib.frozen_of_heap hR2 0
    have hDy := (hb.young D rfl).1
    gi_wp2
    obtain ⟨W2, hW2⟩ : ∃ W2, (W.setCell ⟨w.heap.size + 1, 0, none⟩ (.int .u8 0)).setCell ⟨w.heap.size + 1 + 1, 0, none⟩ (.int .i64 5) = W2 := ⟨_, rfl⟩
    have b1 : Boxed W2 (w.heap.size + 1) 5 (.int .u8 0) := by rw [← hW2]; exact (Boxed.set (.int .u8 0) (show Boxed W (w.heap.size + 1) 5 _ from hR1)).other (by omega) _
    have b2 : Boxed W2 (w.heap.size + 1 + 1) 27 (.int .i64 5) := by rw [← hW2]; exact Boxed.set (.int .i64 5) ((show Boxed W (w.heap.size + 1 + 1) 27 _ from hR2).other (by omega) _)
    have hK' : W2.heap[D]? = some (.deferred (some [])) := by
      rw [← hW2]; exact (Below.heap_setCell _ _ _ _ (by show D ≠ w.heap.size + 1 + 1; omega)).trans ((Below.heap_setCell _ _ _ _ (by show D ≠ w.heap.size + 1; omega)).trans hK)
    have hTW : Turns (fun k => w.heap.size ≤ k) w W2 := by
      rw [← hW2]
      exact (((hT1.trans hb.turns).mono (fun _ h => h.elim)).trans (Turns.setCell (p := ⟨w.heap.size + 1, 0, none⟩) W (by show w.heap.size ≤ w.heap.size + 1; omega) _)).trans (Turns.setCell (p := ⟨w.heap.size + 1 + 1, 0, none⟩) _ (by show w.heap.size ≤ w.heap.size + 1 + 1; omega) _)
    rw [hW2]
    refine ⟨by simp, .inl ⟨_, _, rfl, run_takeDeferred hK', ?_⟩⟩
    have d1 := cell_kept b1.cell (grownBy_putObj' _ D (.deferred none)) (fun r e => by cases e; exact ⟨_, hK', rfl⟩)
    have d2 := cell_kept b2.cell (grownBy_putObj' _ D (.deferred none)) (fun r e => by cases e; exact ⟨_, hK', rfl⟩)
    refine ⟨.tuple #[.int .u8 0, .int .i64 5], ?_, rfl, (hTW.trans (Turns.putObj _ (by omega) _)).below (Nat.le_refl _) (fun _ h => h)⟩
    simp [results, Try.f8, go_sem, d1, d2]
  case stop =>
    rintro D c i W _ _ h _
    exact h.elim

/-- The first place at which c stands in the parts, or -1. -/
def fI (c : UInt8) : List (Nat × List UInt8) → Int
  | [] => -1
  | x :: r => if 0 ≤ Lib.indexByte x.2 c then (x.1 : Int) + Lib.indexByte x.2 c else fI c r

theorem parts_bound (f o : Nat) : ∀ (rs : List (List UInt8)) (s : Nat), ∀ x ∈ parts s f o rs, x.1 + x.2.length ≤ s + rs.flatten.length
  | [], s => by simp [parts]
  | r :: rs, s => by
    intro x hx
    simp only [parts, List.mem_append] at hx
    rcases hx with hx | hx
    · by_cases hb : hasB s f o r = true
      · rw [if_pos hb] at hx
        simp only [List.mem_singleton] at hx
        subst hx
        have : f - s < min (o - s) r.length := by simpa [hasB] using hb
        simp only [cut1, List.length_drop, List.length_take, List.flatten_cons, List.length_append]
        omega
      · rw [if_neg hb] at hx; cases hx
    · have := parts_bound f o rs _ x hx
      simp only [List.flatten_cons, List.length_append]
      omega

theorem idx_lt : ∀ (l : List UInt8) (c : UInt8), Lib.indexByte l c < (l.length : Int)
  | [], _ => by simp [Lib.indexByte]
  | b :: l, c => by
    have := idx_lt l c
    simp only [Lib.indexByte, List.length_cons]
    split
    · omega
    · split <;> omega

set_option maxRecDepth 100000 in
set_option maxHeartbeats 2000000 in
theorem find_text (t : Nat) (sv : Value) (rs : List (List UInt8)) (htot : tlen rs ≤ 4096) (hcnt : rs.length ≤ 4096) (c a : Int) (f : Nat) (hfm : max a 0 = (f : Int)) (hf : f ≤ 9223372036854775807) (w : World) (hT : TextAt t sv rs w) :
    Calls Try.prog 11 #[.pointer (some ⟨t, 0, none⟩), .int .u8 c, .int .i64 a] w fun e w' => e = .returned (.int .i64 (fI c.toNat.toUInt8 (parts 0 f (tlen rs) rs))) ∧ Below w.heap.size w w' := by
  refine callsIn_wide (n := 0).1 ?_
  refine callsIn_of_wp_marks Try.func11 rfl trivial ?_ rfl
  simp only [Try.ntmps11, List.size_toArray, List.length_cons, List.length_nil, Nat.reduceAdd, Nat.reduceSub, Array.replicate_succ, Array.replicate_zero, List.push_toArray, List.append_toArray, List.nil_append, List.cons_append]
  have hT2 : ∀ o1 o2, TextAt t sv rs ((w.alloc o1).alloc o2) := fun o1 o2 => hT.turns ((Turns.alloc Noth _ _).trans (Turns.alloc _ _ _)) (fun _ h => h.elim)
  gi_wp2_with (first | (gi_at_call 13; refine (callsIn_wide.2 (len_any t sv rs htot hcnt _ (hT2 _ _))).mono ?_; rintro e w' ⟨rfl, hbl⟩) | (gi_at_call 27; refine (callsIn_wide.2 (between_any _ _ _ _)).mono ?_; rintro e w2 ⟨rfl, rfl⟩))
  obtain ⟨w0, hw0⟩ : ∃ w0, (w.alloc (.cells #[.int .u8 c] 5)).alloc (.cells #[.int .i64 0] 3) = w0 := ⟨_, rfl⟩
  have hs0 : w0.heap.size = w.heap.size + 2 := by rw [← hw0]; simp
  have hT0 : Turns Noth w w0 := by rw [← hw0]; exact (Turns.alloc _ _ _).trans (Turns.alloc _ _ _)
  have hC0 : w0.heap[w.heap.size]? = some (.cells #[.int .u8 c] 5) := by rw [← hw0]; exact (Below.heap_alloc _ _ _ (by simp)).trans (World.alloc_heap_new w _)
  have hR0 : w0.heap[w.heap.size + 1]? = some (.cells #[.int .i64 0] 3) := by rw [← hw0]; have := World.alloc_heap_new (w.alloc (.cells #[.int .u8 c] 5)) (.cells #[.int .i64 0] 3); rwa [World.size_alloc] at this
  rw [hw0] at hbl
  have hsl := hbl.size
  obtain ⟨w1, hw1⟩ : ∃ w1, ((w'.alloc (.cells #[.pointer (some ⟨t, 0, none⟩)] 22)).alloc (.cells #[.int .i64 f] 3)).alloc (.cells #[.int .i64 (tlen rs)] 3) = w1 := ⟨_, rfl⟩
  have hs1 : w1.heap.size = w'.heap.size + 3 := by rw [← hw1]; simp
  obtain ⟨hB1, hB2, hB3⟩ := allocs3 w' (.cells #[.pointer (some ⟨t, 0, none⟩)] 22) (.cells #[.int .i64 f] 3) (.cells #[.int .i64 (tlen rs)] 3)
  rw [hw1] at hB1 hB2 hB3
  have hT1' : Turns Noth w' w1 := by rw [← hw1]; exact ((Turns.alloc _ _ _).trans (Turns.alloc _ _ _)).trans (Turns.alloc _ _ _)
  have hT1 : Turns Noth w w1 := (hT0.trans (Turns.of_below hbl)).trans hT1'
  have hTT := hT.turns hT1 (fun _ h => h.elim)
  have hC1 : w1.heap[w.heap.size]? = some (.cells #[.int .u8 c] 5) := (hT1'.block _ (by omega) (fun h => h)).trans ((hbl.block _ (by omega)).trans hC0)
  have hR1 : w1.heap[w.heap.size + 1]? = some (.cells #[.int .i64 0] 3) := (hT1'.block _ (by omega) (fun h => h)).trans ((hbl.block _ (by omega)).trans hR0)
  have hRd : ReadB w'.heap.size (w'.heap.size + 1) (w'.heap.size + 2) t sv rs f (tlen rs) w1 := ⟨hB1, hB2, hB3, hTT.text, hTT.row⟩
  rw [hw1]
  obtain ⟨ps, hpsd⟩ : ∃ ps, parts 0 f (tlen rs) rs = ps := ⟨_, rfl⟩
  have hgv := between1_gives w'.heap.size (w'.heap.size + 1) (w'.heap.size + 2) t sv rs f (tlen rs) htot hcnt hf htot
  have hbnd := parts_bound f (tlen rs) rs 0
  rw [hpsd] at hgv hbnd
  refine wp_range (gf := 39) (lb := #[.pointer (some ⟨w'.heap.size, 0, none⟩), .pointer (some ⟨w'.heap.size + 1, 0, none⟩), .pointer (some ⟨w'.heap.size + 2, 0, none⟩)]) rfl (enters_of Try.func39 (by kernel_rfl) rfl) hgv (fun _ => rfl)
    (fun j X W => (Base w1 (fun k => k = w.heap.size + 1) X W ∧ W.heap[w.heap.size + 1]? = some (.cells #[.int .i64 0] 3)) ∧ fI c.toNat.toUInt8 ps = fI c.toNat.toUInt8 (ps.drop j))
    (fun cd _ X W => cd = .ret ∧ Base w1 (fun k => k = w.heap.size + 1) X W ∧ W.heap[w.heap.size + 1]? = some (.cells #[.int .i64 (fI c.toNat.toUInt8 ps)] 3))
    (fun a' j X W => ((Base w1 (fun k => k = w.heap.size + 1) X W ∧ W.heap[w.heap.size + 1]? = some (.cells #[.int .i64 0] 3)) ∧ fI c.toNat.toUInt8 ps = fI c.toNat.toUInt8 (ps.drop j)) ∧ ∃ B, ¬ X B ∧ W.heap[B]? = some (.cells #[.string (pby ps j)] 55) ∧
      a' = { tmps := #[.pointer (some ⟨t, 0, none⟩), .int .u8 c, .int .i64 a, undef, .pointer (some ⟨w.heap.size, 0, none⟩), undef, .pointer (some ⟨w.heap.size + 1, 0, none⟩), .int .i64 (pat ps j), .pointer (some ⟨B, 0, none⟩), undef, .pointer (some ⟨t, 0, none⟩), .int .i64 a, .int .i64 f, .pointer (some ⟨t, 0, none⟩), .int .i64 (tlen rs),
        .func (.func 39) #[] #[.pointer (some ⟨w'.heap.size, 0, none⟩), .pointer (some ⟨w'.heap.size + 1, 0, none⟩), .pointer (some ⟨w'.heap.size + 2, 0, none⟩)], .int .i64 (pat ps j), .agg #[.string (pby ps j)], undef, undef, undef, undef, undef, undef, undef, undef, undef], defers := [] })
    ((steady_box (by omega) _).and (fun _ _ _ _ _ h _ _ => h)) (fun cd => Steady.and (fun _ _ _ _ _ h _ _ => h) (steady_box (by omega) (fun _ => .cells #[.int .i64 (fI c.toNat.toUInt8 ps)] 3))) (fun a' => ((steady_box (by omega) _).and (fun _ _ _ _ _ h _ _ => h)).and (steady_round a' _ _)) ?hR ⟨⟨Base.start _ _, hR1⟩, rfl⟩ ?assign ?body ?done ?stop
  case hR =>
    rintro i X W ⟨⟨hb, _⟩, _⟩
    exact hRd.turns hb.turns (by omega) (by omega) (by omega) (by have := hT.lt; omega) (fun g hg => by have := (hT.row.lt g hg).2; omega)
  case assign =>
    rintro l j X W K hj ⟨⟨hb, hc⟩, hfi⟩ hK
    unfold encPart
    gi_wp2
    refine hK _ _ (Keeps.alloc _ _ _) ⟨⟨⟨hb.alloc _, (Below.heap_alloc _ _ _ (by have := hb.turns.size; omega)).trans hc⟩, hfi⟩, W.heap.size, hb.fresh, World.alloc_heap_new _ _, ?_⟩
    first | rfl | (rw [hfm])
  case body =>
    rintro l j X a' W hj ⟨⟨⟨hb, hc⟩, hfi⟩, B, hB, hr, rfl⟩
    have hr0 : W.cell? ⟨B, 0, none⟩ = some (.string (pby ps j)) := by rw [Lib.cell_of_heap hr]; rfl
    have cc : W.cell? ⟨w.heap.size, 0, none⟩ = some (.int .u8 c) := by rw [Lib.cell_of_heap ((hb.turns.block _ (by omega) (by omega)).trans hC1)]; rfl
    have cn : W.cell? ⟨w.heap.size + 1, 0, none⟩ = some (.int .i64 0) := by rw [Lib.cell_of_heap hc]; rfl
    have fn : W.frozen? ⟨w.heap.size + 1, 0, none⟩ = false := Lib.frozen_of_heap hc 0
    have hpl : (pby ps j).data.toList = ps[j].2 := by simp [pby, hj]
    have hpa : pat ps j = ps[j].1 := by simp [pat, hj]
    have hbj := hbnd ps[j] (List.getElem_mem hj)
    have hil := idx_lt ps[j].2 c.toNat.toUInt8
    have hig := Lib.indexByte_ge ps[j].2 c.toNat.toUInt8
    have hdr : fI c.toNat.toUInt8 (ps.drop j) = if 0 ≤ Lib.indexByte ps[j].2 c.toNat.toUInt8 then (ps[j].1 : Int) + Lib.indexByte ps[j].2 c.toNat.toUInt8 else fI c.toNat.toUInt8 (ps.drop (j + 1)) := by
      rw [List.drop_eq_getElem_cons hj]; rfl
    have hflat : rs.flatten.length ≤ 4096 := htot
    have hib := Try.strings_IndexByte (pby ps j) c
    rw [hpl] at hib
    rw [hdr, ← hpa] at hfi
    rw [← hpa] at hbj
    have hx1 : pat ps j ≤ 4096 := by omega
    have hx2 : Lib.indexByte ps[j].2 c.toNat.toUInt8 ≤ 4096 := by omega
    clear hdr hpa hpl hbj hil hflat
    generalize Lib.indexByte ps[j].2 c.toNat.toUInt8 = ix at *
    have HF : Hid (fI c.toNat.toUInt8 ps = if 0 ≤ ix then ((pat ps j : Nat) : Int) + ix else fI c.toNat.toUInt8 (ps.drop (j + 1))) := hfi
    clear hfi
    by_cases hge : 0 ≤ ix
    · gi_wp2_with (gi_at_call 28; refine (CallsIn.inRound l (callsIn_wide.2 (hib _))).mono ?_; rintro e w3 ⟨rfl, hww⟩; subst w3)
      have hset := Boxed.set (.int .i64 (((pat ps j : Nat) : Int) + ix)) (show Boxed W (w.heap.size + 1) 3 _ from hc)
      refine ⟨Keeps.set W (fun h => by have := (hb.young _ h).1; simp at this; omega) _, rfl, hb.set rfl _, ?_⟩
      rw [HF.out, if_pos hge]
      exact hset
    · have hd : decide (0 ≤ ix) = false := by simpa using hge
      gi_wp2_with (gi_at_call 28; refine (CallsIn.inRound l (callsIn_wide.2 (hib _))).mono ?_; rintro e w3 ⟨rfl, hww⟩; subst w3)
      refine ⟨Keeps.refl _ _, ⟨hb, hc⟩, ?_⟩
      have := HF.out
      rw [if_neg (by omega)] at this
      exact this
  case done =>
    rintro D W hD ⟨⟨hb, hc⟩, hfi⟩ hK
    rw [List.drop_length] at hfi
    have hc0 : W.cell? ⟨w.heap.size + 1, 0, none⟩ = some (.int .i64 0) := by rw [Lib.cell_of_heap hc]; rfl
    have hf0 : W.frozen? ⟨w.heap.size + 1, 0, none⟩ = false := Lib.frozen_of_heap hc 0
    have hDy := (hb.young D rfl).1
    have HFI : Hid (_ = _) := hfi
    clear hfi
    gi_wp2
    have hK' : (W.setCell ⟨w.heap.size + 1, 0, none⟩ (.int .i64 (-1))).heap[D]? = some (.deferred (some [])) := (Below.heap_setCell _ _ _ _ (by show D ≠ w.heap.size + 1; omega)).trans hK
    refine ⟨by simp, .inl ⟨_, _, rfl, run_takeDeferred hK', ?_⟩⟩
    have hc5 := cell_kept (World.cell?_setCell_same' W ⟨w.heap.size + 1, 0, none⟩ (.int .i64 (-1)) (by rw [hc0]; rfl)) (grownBy_putObj' _ D (.deferred none)) (fun r e => by cases e; exact ⟨_, hK', rfl⟩)
    refine ⟨.int .i64 (-1), ?_, ?_, ?_⟩
    · simp [results, Try.f11, go_sem, hc5]
    · rw [hpsd, HFI.out]; rfl
    · have h1 : Turns (fun k => w.heap.size ≤ k) w W := ((hT1.mono (fun _ h => h.elim)).trans (hb.turns.mono (fun k h => by omega)))
      exact ((h1.trans (Turns.setCell (p := ⟨w.heap.size + 1, 0, none⟩) W (by show w.heap.size ≤ w.heap.size + 1; omega) _)).trans (Turns.putObj _ (by omega) _)).below (Nat.le_refl _) (fun _ h => h)
  case stop =>
    rintro D cd j W hD hj ⟨rfl, hb, hc⟩ hK
    gi_wp2
    have hDy := (hb.young D rfl).1
    refine ⟨by simp, .inl ⟨_, _, rfl, run_takeDeferred hK, ?_⟩⟩
    have hc5 := cell_kept (show W.cell? ⟨w.heap.size + 1, 0, none⟩ = some (.int .i64 (fI c.toNat.toUInt8 ps)) by rw [Lib.cell_of_heap hc]; rfl) (grownBy_putObj' _ D (.deferred none)) (fun r e => by cases e; exact ⟨_, hK, rfl⟩)
    refine ⟨.int .i64 (fI c.toNat.toUInt8 ps), ?_, by rw [hpsd], ?_⟩
    · simp [results, Try.f11, go_sem, hc5]
    · exact below_end hT1 hb (fun k h => by omega) _

end Go.Proofs.Ytpippmbkdjcbeaa
