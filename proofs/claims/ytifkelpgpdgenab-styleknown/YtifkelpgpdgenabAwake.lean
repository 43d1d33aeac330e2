/-
  What is proved here: what set and two of the statements answer.
-/
import Derived.Test.YtifkelpgpdgenabResolve
namespace Go.Proofs.Ytifkelpgpdgenab
open Go.RowKit Go.Shelf

theorem wpList_append_want {P : Program} (w : World) {ops : Array Oper} {rest : List Oper} {o : Oper} {a : Act} {Q : Exit → Act → World → Prop} (sl x : Operand) (t : TypeId)
    (ho : o.op = .call { callee := .builtin .append, args := #[sl, x], argTypes := #[t, t] }) (hw : Region.wanted o (yielded ops a.tmps) = true)
    (base : Nat) (e : TypeId) (i : TypeInfo) (z : Value) (size bytes : Nat) (ht : P.underlying t = some (.slice e)) (hi : P.info? e = some i) (hz : i.zero = some z) (hsize : i.size = size) (hby : i.bytes = bytes) (hzs : z.cells.size = size) (hsz : 0 < size)
    (v : Value) (n : Nat) (xs : List Value) (hs : a.eval sl = v) (hown : w.ownsRow base e size v n xs) (m : Nat) (news : List Value) (u : Value) (hxe : a.eval x = u) (hx : Srcs w size u m news)
    (h63 : n + m ≤ maxLen) (hbytes : (n + m) * bytes ≤ 140737488355328) (hbase : base ≤ w.heap.size)
    (h : ∀ v' w', w'.ownsRow base e size v' (n + m) (xs ++ news) → w.grownBy w' v.ownBlock → wpList P ops Q rest (a.put o.dst v') w') : wpList P ops Q (o :: rest) a w := by
  refine BigFrame.wpList_want hw fun K hK => ?_
  obtain ⟨v', w', hr, h2, h3⟩ := run_append_any (P := P) w base t o.type e i z size bytes ht hi hz hsize hby hzs hsz v n xs hown u m news hx h63 hbytes hbase
  unfold Oper.wp execOp
  simp only [ho, resolve, invoke, builtin, Sem.run_bind, Sem.run_pure, Result.andThen_ok, List.map_toArray, List.map_cons, List.map_nil, hs, hxe, hr]
  exact hK _ _ (h v' w' h2 h3)

theorem row_one (w : World) (n v : Int) : (w.alloc (.cells #[.int .i64 n, .int .i64 v] 64)).ownsRow w.heap.size 64 2 (.slice (some ⟨w.heap.size, 0, none⟩) 1 1) 1 (seRow [(n, v)]) :=
  ⟨rfl, .inr ⟨w.heap.size, 1, _, rfl, Nat.le_refl _, heap_new w _, by omega, by unfold maxLen; omega, by rfl, by rfl⟩⟩

set_option maxHeartbeats 400000 in
theorem set_any (n v : Int) (w : World) : Calls Try.prog 14 #[.int .i64 n, .int .i64 v] w fun e w' => e = .returned (.slice (some ⟨w.heap.size, 0, none⟩) 1 1) ∧ w'.ownsRow w.heap.size 64 2 (.slice (some ⟨w.heap.size, 0, none⟩) 1 1) 1 (seRow [(n, v)]) ∧ Below w.heap.size w w' := by
  go_enter Try.func14, Try.ntmps14
  go_wp2
  go_ret
  exact ⟨rfl, row_one w n v, (Below.refl _ w).alloc (Nat.le_refl _) _⟩

def sa : Str := ⟨#[97]⟩
def sb : Str := ⟨#[98]⟩
def La : List (Int × Int) := [(1, 12), (1, 14)]
def Lb : List (Int × Int) := [(5, 5)]
noncomputable def S1 : Sh := upd (fun _ => none) sa (e0, La)
noncomputable def S2 : Sh := upd S1 sb (sa, Lb)

theorem wf_none : WF (fun _ => none) := ⟨fun _ _ h => by simp at h, fun _ _ _ h => by simp at h, fun _ _ _ h => by simp at h, ⟨fun _ => 0, fun _ _ _ h => by simp at h⟩⟩
theorem defE_ok {S : Sh} {n : Nat} {name parent : Str} {L : List (Int × Int)} (h1 : nameB name = true) (h2 : parent = e0 ∨ (S parent).isSome = true) (h3 : refuseL L = 0) (h4 : ansUp S parent name = false) (h5 : (S name).isSome = true ∨ n < 32) : defE S n name parent L = 0 := by
  unfold defE
  rw [if_neg (by rw [h1]; decide), if_neg, if_neg (by rw [h3]; decide), if_neg (by rw [h4]; decide), if_neg]
  · rintro ⟨ha, hb⟩
    rcases h5 with h5 | h5
    · rw [ha] at h5; cases h5
    · omega
  · rintro ⟨ha, hb⟩
    rcases h2 with h2 | h2
    · exact ha h2
    · rw [hb] at h2; cases h2
theorem sab : sa ≠ sb := by decide
theorem S1_a : S1 sa = some (e0, La) := upd_same _ _ _
theorem S1_b : S1 sb = none := upd_other _ _ sab.symm
theorem defE_a (n : Nat) (hn : n < 32) : defE (fun _ => none) n sa e0 La = 0 := defE_ok (by decide) (.inl rfl) (by decide) (ansUp_empty _ _) (.inr hn)
theorem defE_b (n : Nat) (hn : n < 32) : defE S1 n sb sa Lb = 0 := defE_ok (by decide) (.inr (by rw [S1_a]; rfl)) (by decide) (by rw [ansUp_step S1 (by decide) sab S1_a, ansUp_empty]) (.inr hn)

/-- What Define leaves where it answers OK. -/
theorem defPost.ok {w w' : World} {t b n : Nat} {S : Sh} {name parent : Str} {L : List (Int × Int)} {e : Ending} (h : defPost w t b n S name parent L e w') (hd : defE S n name parent L = 0) :
    e = .returned (.int .i64 0) ∧ Only b w w' ∧ SheetAt w' t b (cntN S name n) (upd S name (parent, L)) ∧ WF (upd S name (parent, L)) := by
  obtain ⟨h1, h2, n', S', h3, h4, _, h5⟩ := h
  obtain ⟨rfl, rfl⟩ := h5 hd
  rw [hd] at h1
  exact ⟨h1, h2, h3, h4⟩

theorem cnt2 : cntN S1 sb (cntN (fun _ => none) sa 0) = 2 := by unfold cntN; rw [S1_b]; rfl

/-- What two answers. -/
def twoPost (w : World) (e : Ending) (w' : World) : Prop :=
  ∃ t b, e = .returned (.tuple #[.pointer (some ⟨t, 0, none⟩), .bool true]) ∧ w.heap.size ≤ t ∧ w.heap.size ≤ b ∧ SheetAt w' t b 2 S2 ∧ WF S2 ∧ Below w.heap.size w w'

set_option maxRecDepth 100000 in
set_option maxHeartbeats 2000000 in
theorem two_any (w : World) : Calls Try.prog 4 #[] w (twoPost w) := by
  obtain ⟨i0, hi, hz0, hz1, hz2⟩ := info_parts info37
  go_enter Try.func4, Try.ntmps4
  go_wp2_with fail
  refine (new_any w).mono ?_
  rintro e w1 ⟨t, b, rfl, ht, hb, h1, B1⟩
  go_wp2_with fail
  refine (set_any 1 12 w1).mono ?_
  rintro e w2 ⟨rfl, r2, b2⟩
  have h2 := h1.below b2
  have B2 := B1.trans (b2.mono B1.size)
  go_wp2_with fail
  refine (set_any 1 14 w2).mono ?_
  rintro e w3 ⟨rfl, r3, b3⟩
  have h3 := h2.below b3
  have B3 := B2.trans (b3.mono B2.size)
  have r23 := ownsRow_below r2 b3
  have s3 := ownsRow_srcs r3 (seRow_one _)
  clear h2 h3 r2 r3
  go_wp2_with (refine wpList_append_want _ _ _ 42 rfl (by kernel_rfl) w1.heap.size 64 i0 _ 2 16 Try.underlying42 hi hz0 hz1 hz2 rfl (by decide) _ 1 (seRow [(1, 12)]) rfl r23 1 (seRow [(1, 14)]) _ rfl s3 (by unfold maxLen; omega) (by omega) (by have := b2.size; have := b3.size; omega) ?_; intro v4 w4 hown4 hgrow4)
  have c3 := b2.trans (b3.mono b2.size)
  have c4 : Below w1.heap.size w1 w4 := below_grown c3 r23 (Nat.le_refl _) (Nat.le_refl _) hgrow4
  have h4 := h1.below c4
  have B4 := B1.trans (c4.mono B1.size)
  have s4 : SetsAt w4 v4 La := sets_of_row hown4 (by decide)
  obtain ⟨a4, cp4, rfl, _⟩ := s4.ex
  clear hown4 hgrow4 r23 s3
  refine (define_any t b 0 _ wf_none sa e0 (by decide) _ La w4 h4 s4).mono ?_
  intro e w5 p5
  obtain ⟨rfl, o5, h5, f5⟩ := p5.ok (defE_a 0 (by omega))
  have B5 := Only.below B4 hb (Nat.le_refl _) o5
  clear h4 s4 p5 o5
  go_wp2_with fail
  refine (set_any 5 5 w5).mono ?_
  rintro e w6 ⟨rfl, r6, b6⟩
  have h6 := h5.below b6
  have B6 := B5.trans (b6.mono B5.size)
  have s6 : SetsAt w6 _ Lb := sets_of_row r6 (by decide)
  clear r6 h5
  go_wp2_with fail
  refine (define_any t b _ _ f5 sb sa (by decide) _ Lb w6 h6 s6).mono ?_
  intro e w7 p7
  obtain ⟨rfl, o7, h7, f7⟩ := p7.ok (defE_b _ (by decide))
  have B7 := Only.below B6 hb (Nat.le_refl _) o7
  have hfin : twoPost w (.returned (.tuple #[.pointer (some ⟨t, 0, none⟩), .bool true])) w7 := ⟨t, b, rfl, ht, hb, by exact (cnt2 ▸ h7), f7, B7⟩
  clear h6 s6 p7 o7 h7
  go_wp2_with fail
  go_ret2
  exact hfin

theorem mk_b (l : List Int) : Makes S2 l sb (applyL (applyL l La) Lb) := by
  refine .style (upd_same _ _ _) (by decide) (.style ?_ (by decide) .top)
  unfold S2; rw [upd_other _ _ sab]; exact S1_a
end Go.Proofs.Ytifkelpgpdgenab
