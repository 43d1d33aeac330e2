/-
  What is proved here: where no band of a side is any more, and whether a line is beside a band.
-/
import Derived.Test.YthdlhikpjpfpeaaWalkA
import Derived.Test.YthdlhikpjpfpeaaBox
import Derived.BigQuiet
namespace Go.Proofs.Ythdlhikpjpfpeaa
open Go.RowKit Go.Shelf

theorem wpList_load_want {P : Program} {ops : Array Oper} {rest : List Oper} {o : Oper} {a : Act} {w : World} {Q : Exit → Act → World → Prop} (ty : TypeId) (x : Operand) (ho : o.op = .load ty x) (hw : Region.wanted o (yielded ops a.tmps) = true)
    (g : Nat) (hx : a.eval x = .pointer (some ⟨g, 0, none⟩)) (t : TypeId) (cs : Array Value) (fr : Nat × Nat) (d : TypeDesc) (hg : w.heap[g]? = some (.cells cs t fr))
    (hu : P.underlying ty = some d) (hd : (match d with | .struct _ | .array _ _ => true | _ => false) = true) (hi : (P.info? ty).map (·.size) = some cs.size)
    (h : wpList P ops Q rest (a.put o.dst (.agg cs)) w) : wpList P ops Q (o :: rest) a w :=
  BigFrame.wpList_want hw fun _ hK => wp_load_row ty x ho g hx t cs fr d hg hu hd hi (hK _ _ h)
theorem info34 (b : Bd) : (Try.prog.info? 34).map (·.size) = some (bdC b).size := by show _ = some 4; kernel_rfl
theorem info43 (s : Sl) : (Try.prog.info? 43).map (·.size) = some (slC s).size := by show _ = some 2; kernel_rfl
set_option maxRecDepth 100000 in
set_option maxHeartbeats 2000000 in
theorem below_any (v : Value) (l : List Bd) (s y : Int) (hok : Ok l) (w : World) (hS : RecAt 4 bdL w v l) :
    Calls Try.prog 24 #[v, .int .i64 s, .int .i64 y] w fun e w' => e = .returned (.int .i64 (belF s l y)) ∧ Below w.heap.size w w' := by
  have hl := hok.1
  obtain ⟨a, cap, rfl, h2⟩ := hS.ex
  clear hS
  have hr0 : Hid (belF s (l.drop 0) y = belF s l y) := rfl
  generalize belF s l y = r at hr0 ⊢
  go_enter Try.func24, Try.ntmps24
  go_wp2_with fail
  go_loopw [2, 11] (fun u i wr => ∃ (k : Nat) (p : Int), k ≤ l.length ∧ u = .int .i64 p ∧ i = .int .i64 k ∧ Below w.heap.size w wr ∧ Hid (belF s (l.drop k) p = r)) (fun _ i _ => l.length - (intOf i).toNat)
  case atStart => exact ⟨0, y, by omega, rfl, rfl, Below.refl _ _, hr0⟩
  case round =>
    obtain ⟨k, p, hk, rfl, rfl, hb, hr⟩ := hrel
    by_cases hlt : k < l.length
    · rcases h2 with h2 | ⟨b, o, rfl, hbl, hc⟩
      · rw [h2] at hlt; simp at hlt
      · have hlt' : (k : Int) < l.length := by omega
        have c0 : wr.cell? ⟨b, o + k * 4, none⟩ = some (.int .i64 l[k].s) := (hb.cell hbl).trans (hc k hlt 0 _ rfl)
        have c1 : wr.cell? ⟨b, o + k * 4 + 1, none⟩ = some (.int .i64 l[k].y) := (hb.cell hbl).trans (hc k hlt 1 _ rfl)
        have c2 : wr.cell? ⟨b, o + k * 4 + 2, none⟩ = some (.int .i64 l[k].h) := (hb.cell hbl).trans (hc k hlt 2 _ rfl)
        have c3 : wr.cell? ⟨b, o + k * 4 + 3, none⟩ = some (.int .i64 l[k].w) := (hb.cell hbl).trans (hc k hlt 3 _ rfl)
        obtain ⟨_, ⟨o1, o2⟩, ⟨o3, o4⟩, ⟨o5, o6⟩⟩ := hok.get k hlt
        have hr2 : Hid (belF s (l.drop (k + 1)) (if l[k].s = s then max p (l[k].y + l[k].h) else p) = r) := by
          have := hr.out
          rw [drop_at hlt] at this
          exact this
        have hB1 := hb.alloc hb.size (Obj.cells #[.int .i64 l[k].s, .int .i64 l[k].y, .int .i64 l[k].h, .int .i64 l[k].w] 34)
        clear hc hr hr0 hok
        generalize l[k].s = x0 at *
        generalize l[k].y = x1 at *
        generalize l[k].h = x2 at *
        generalize l[k].w = x3 at *
        by_cases d0 : x0 = s
        · subst d0
          have hn : Hid (belF x0 (l.drop (k + 1)) (if p < x1 + x2 then x1 + x2 else p) = r) := (by have := hr2.out; rw [if_pos rfl, (by split <;> omega : max p (x1 + x2) = if p < x1 + x2 then x1 + x2 else p)] at this; exact this : belF x0 (l.drop (k + 1)) (if p < x1 + x2 then x1 + x2 else p) = r)
          clear hr2
          go_wp2_with fail
          go_roundw
          case rel => exact ⟨k + 1, _, by omega, rfl, by simp, hB1, hn⟩
          case measure => simp [intOf]; omega
        · have hn : Hid (belF s (l.drop (k + 1)) p = r) := (by have := hr2.out; rw [if_neg d0] at this; exact this : belF s (l.drop (k + 1)) p = r)
          clear hr2
          go_wp2_with fail
          go_roundw
          case rel => exact ⟨k + 1, p, by omega, rfl, by simp, hB1, hn⟩
          case measure => simp [intOf]; omega
    · have hn : p = r := by
        have := hr.out
        rw [List.drop_eq_nil_of_le (by omega)] at this
        exact this
      have hge : ¬ (k : Int) < l.length := by omega
      clear hr hr0 h2
      subst hn
      go_wp2_with fail
      go_ret
      exact ⟨rfl, hb⟩
theorem ret_dec {A B : Prop} [Decidable A] [Decidable B] (h : A ↔ B) : Ending.returned (.bool (decide A)) = .returned (.bool (decide B)) := by rw [decide_eq_decide.2 h]
set_option maxRecDepth 100000 in
theorem beside_any (b : Bd) (f t : Int) (hy : 0 ≤ b.y ∧ b.y ≤ 4095) (hh : 0 ≤ b.h ∧ b.h ≤ 4095) (w : World) :
    Calls Try.prog 30 #[.agg #[.int .i64 b.s, .int .i64 b.y, .int .i64 b.h, .int .i64 b.w], .int .i64 f, .int .i64 t] w fun e w' => e = .returned (.bool (bsB f t b)) ∧ Below w.heap.size w w' := by
  have hB := (Below.refl w.heap.size w).alloc (Nat.le_refl _) (.cells (bdC b) 34)
  have ho : bsB f t b = decide (max b.y f < min (b.y + b.h) t) := rfl
  generalize bsB f t b = r at *
  obtain ⟨s, y, h, wd⟩ := b
  obtain ⟨y1, y2⟩ : 0 ≤ y ∧ y ≤ 4095 := hy
  obtain ⟨h1, h2⟩ : 0 ≤ h ∧ h ≤ 4095 := hh
  replace ho : r = decide (max y f < min (y + h) t) := ho
  go_enter Try.func30, Try.ntmps30
  subst ho
  go_wp2
  all_goals go_ret
  all_goals exact ⟨ret_dec (by omega), hB⟩
set_option maxRecDepth 100000 in
theorem rbeside_any (b : Bd) (f p : Int) (hf : 0 ≤ f ∧ f ≤ 100000) (hp : 1 ≤ p ∧ p ≤ 255) (hy : 0 ≤ b.y ∧ b.y ≤ 4095) (hh : 0 ≤ b.h ∧ b.h ≤ 4095) (w : World) :
    Calls Try.prog 29 #[.int .i64 f, .int .i64 p, .agg #[.int .i64 b.s, .int .i64 b.y, .int .i64 b.h, .int .i64 b.w]] w fun e w' => e = .returned (.bool (bsB f (f + p) b)) ∧ Below w.heap.size w w' := by
  have hB := (Below.refl w.heap.size w).alloc (Nat.le_refl _) (.cells (bdC b) 34)
  have ho : bsB f (f + p) b = decide (max b.y f < min (b.y + b.h) (f + p)) := rfl
  generalize bsB f (f + p) b = r at *
  obtain ⟨s, y, h, wd⟩ := b
  obtain ⟨y1, y2⟩ : 0 ≤ y ∧ y ≤ 4095 := hy
  obtain ⟨h1, h2⟩ : 0 ≤ h ∧ h ≤ 4095 := hh
  obtain ⟨f1, f2⟩ := hf
  obtain ⟨p1, p2⟩ := hp
  replace ho : r = decide (max y f < min (y + h) (f + p)) := ho
  go_enter Try.func29, Try.ntmps29
  by_cases d1 : 0 < h
  · by_cases d2 : f < y + h
    · by_cases d3 : y < f + p
      · rw [decide_eq_true (by omega)] at ho
        subst ho
        go_wp2
        all_goals go_ret
        all_goals exact ⟨rfl, hB⟩
      · rw [decide_eq_false (by omega)] at ho
        subst ho
        go_wp2
        all_goals go_ret
        all_goals exact ⟨rfl, hB⟩
    · rw [decide_eq_false (by omega)] at ho
      subst ho
      go_wp2
      all_goals go_ret
      all_goals exact ⟨rfl, hB⟩
  · rw [decide_eq_false (by omega)] at ho
    subst ho
    go_wp2
    all_goals go_ret
    all_goals exact ⟨rfl, hB⟩

end Go.Proofs.Ythdlhikpjpfpeaa
