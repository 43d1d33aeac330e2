/-
  What is proved here: the iterator of between goes through what the pieces of a text have between two places, one round a part.
-/
import Derived.Test.YtpippmbkdjcbeaaWalkB
import Derived.Test.YtpippmbkdjcbeaaRegion
namespace Go.Proofs.Ytpippmbkdjcbeaa
open Go.RowKit Go.Shelf
attribute [local go_sem] Oper.semAt_some wide_fn wide_depth

/-- What between's iterator reads. -/
structure ReadB (Bt Bf Bo t : Nat) (sv : Value) (rs : List (List UInt8)) (f o : Nat) (W : World) : Prop where
  box : W.heap[Bt]? = some (.cells #[.pointer (some ⟨t, 0, none⟩)] 22 (0, 0))
  boxf : W.heap[Bf]? = some (.cells #[.int .i64 f] 3 (0, 0))
  boxo : W.heap[Bo]? = some (.cells #[.int .i64 o] 3 (0, 0))
  text : W.heap[t]? = some (.cells #[.pointer (some ⟨t, 0, none⟩), sv] 25 (0, 0))
  row : W.ownsRow 0 55 1 sv rs.length (rs.map cellOf)

/-- Part j: its place, its bytes. -/
def pat (ps : List (Nat × List UInt8)) (j : Nat) : Nat := (ps[j]?.getD (0, [])).1
def pby (ps : List (Nat × List UInt8)) (j : Nat) : ByteArray := ⟨(ps[j]?.getD (0, [])).2.toArray⟩
def encPart (ps : List (Nat × List UInt8)) (j : Nat) : Array Value := #[.int .i64 (pat ps j), .agg #[.string (pby ps j)]]

theorem extract_cut (r : List UInt8) (s f o : Nat) : (⟨r.toArray⟩ : ByteArray).extract (f - s) (min (o - s) r.length) = ⟨(cut1 s f o r).toArray⟩ := by
  apply ByteArray.ext
  rw [ByteArray.data_extract]
  apply Array.ext'
  simp only [List.extract_toArray, List.extract_eq_take_drop, cut1, List.drop_take]
  by_cases h : o - s ≤ r.length
  · rw [Nat.min_eq_left h]
  · rw [Nat.min_eq_right (by omega), List.take_of_length_le (by simp), List.take_of_length_le (by simp; omega)]

theorem yield_args (rs : List (List UInt8)) (f o : Nat) {i : Nat} (hi : i < rs.length) (hbb : hasB (start rs i) f o rs[i] = true) (a b : Int) (ha : a = ((f - start rs i : Nat) : Int)) (hb : b = ((min (o - start rs i) rs[i].length : Nat) : Int)) :
    encPart (parts 0 f o rs) (cnt f o rs i) = #[.int .i64 ((start rs i : Int) + a), .agg #[.string ((pc rs i).extract a.toNat b.toNat)]] := by
  have h2 := (cnt_yes f o rs hi hbb).2
  subst ha hb
  simp only [encPart, pat, pby, h2, Option.getD_some, Int.toNat_natCast, pc_eq hi, extract_cut]
  rw [Int.natCast_add]

/-- Between two rounds of between's own loop: what the caller says, and the two boxes of its own. -/
structure InB (J : Nat → (Nat → Prop) → World → Prop) (By Bw : Nat) (yv tv : Obj) (c : Nat) (X : Nat → Prop) (W : World) : Prop where
  j : J c (fun k => X k ∨ k = By ∨ k = Bw) W
  y : W.heap[By]? = some yv
  b : W.heap[Bw]? = some tv
  ny : ¬ X By
  nb : ¬ X Bw
  old : ∀ k, X k → k < W.heap.size

theorem InB.step {J : Nat → (Nat → Prop) → World → Prop} {By Bw c : Nat} {yv tv : Obj} {X X' : Nat → Prop} {W W' : World} (hJ : Steady J) (h : InB J By Bw yv tv c X W) (ht : Turns X W W')
    (hx : ∀ k, X' k → X k ∨ (W.heap.size ≤ k ∧ k < W'.heap.size)) : InB J By Bw yv tv c X' W' := by
  have sy := (Array.getElem?_eq_some_iff.1 h.y).1
  have sb := (Array.getElem?_eq_some_iff.1 h.b).1
  have s1 := ht.size
  refine ⟨hJ c _ _ W W' h.j (ht.mono (fun _ h => .inl h)) ?_, (ht.block By sy h.ny).trans h.y, (ht.block Bw sb h.nb).trans h.b, fun h' => (hx By h').elim h.ny (fun h => by omega), fun h' => (hx Bw h').elim h.nb (fun h => by omega), ?_⟩
  · rintro k (h | h)
    · exact (hx k h).elim (fun h => .inl (.inl h)) .inr
    · exact .inl (.inr h)
  · intro k hk
    rcases hx k hk with h' | h'
    · have := h.old k h'; omega
    · omega

set_option maxRecDepth 100000 in
set_option maxHeartbeats 1000000 in
theorem between1_gives (Bt Bf Bo t : Nat) (sv : Value) (rs : List (List UInt8)) (f o : Nat) (htot : rs.flatten.length ≤ 4096) (hcnt : rs.length ≤ 4096) (hf : f ≤ 9223372036854775807) (ho : o ≤ 4096) :
    Gives Try.prog 39 #[.pointer (some ⟨Bt, 0, none⟩), .pointer (some ⟨Bf, 0, none⟩), .pointer (some ⟨Bo, 0, none⟩)] (parts 0 f o rs).length (encPart (parts 0 f o rs)) (ReadB Bt Bf Bo t sv rs f o) := by
  intro l J Jx W hJ hJx hRd hY h0
  have hr := hRd _ _ _ h0
  have hb0 : W.cell? ⟨Bt, 0, none⟩ = some (.pointer (some ⟨t, 0, none⟩)) := by rw [Lib.cell_of_heap hr.box]; rfl
  have hlt0 := (Array.getElem?_eq_some_iff.1 hr.box).1
  have hmx : Try.prog.follows .mixedOrders = true := by kernel_rfl
  have hb1 : ∀ o, (W.alloc o).cell? ⟨Bt, 0, none⟩ = some (.pointer (some ⟨t, 0, none⟩)) := fun o => by rw [World.cell?_of_block (Below.heap_alloc W o Bt hlt0)]; exact hb0
  refine callsIn_wide (n := 0).1 ?_
  refine callsIn_of_wp_marks Try.func39 rfl trivial ?_ rfl
  simp only [Try.ntmps39, List.size_toArray, List.length_cons, List.length_nil, Nat.reduceAdd, Nat.reduceSub, Array.replicate_succ, Array.replicate_zero, List.push_toArray, List.append_toArray, List.nil_append, List.cons_append]
  gi_wp2_with (gi_at_call 23; refine (callsIn_wide.2 (walk_any _ _)).mono ?_; rintro e w' ⟨rfl, rfl⟩)
  obtain ⟨w1, hw1⟩ : ∃ w1, (W.alloc (.cells #[.func (.yield l) #[] #[]] 77)).alloc (.cells #[.pointer (some ⟨t, 0, none⟩)] 22) = w1 := ⟨_, rfl⟩
  have hs1 : w1.heap.size = W.heap.size + 2 := by rw [← hw1]; simp
  have hT1 : Turns Noth W w1 := by rw [← hw1]; exact (Turns.alloc _ _ _).trans (Turns.alloc _ _ _)
  have hB1 : w1.heap[W.heap.size]? = some (.cells #[.func (.yield l) #[] #[]] 77) := by rw [← hw1]; exact (Below.heap_alloc _ _ _ (by simp)).trans (World.alloc_heap_new W _)
  have hB2 : w1.heap[W.heap.size + 1]? = some (.cells #[.pointer (some ⟨t, 0, none⟩)] 22) := by rw [← hw1]; have := World.alloc_heap_new (W.alloc (.cells #[.func (.yield l) #[] #[]] 77)) (.cells #[.pointer (some ⟨t, 0, none⟩)] 22); rwa [World.size_alloc] at this
  rw [hw1]
  refine wp_range (gf := 37) (lb := #[.pointer (some ⟨W.heap.size + 1, 0, none⟩)]) rfl (enters_of Try.func37 (by kernel_rfl) rfl) (walk1_gives (W.heap.size + 1) t sv rs htot hcnt) (fun _ => rfl)
    (fun i X A => InB J W.heap.size (W.heap.size + 1) (.cells #[.func (.yield l) #[] #[]] 77) (.cells #[.pointer (some ⟨t, 0, none⟩)] 22) (cnt f o rs i) X A)
    (fun c _ X A => c = .ret ∧ ∃ j, j < (parts 0 f o rs).length ∧ Jx j X A)
    (fun a' i X A => InB J W.heap.size (W.heap.size + 1) (.cells #[.func (.yield l) #[] #[]] 77) (.cells #[.pointer (some ⟨t, 0, none⟩)] 22) (cnt f o rs i) X A ∧ ∃ B, ¬ X B ∧ A.heap[B]? = some (.cells #[.string (pc rs i)] 55) ∧
      a' = { tmps := #[.func (.yield l) #[] #[], .pointer (some ⟨Bt, 0, none⟩), .pointer (some ⟨Bf, 0, none⟩), .pointer (some ⟨Bo, 0, none⟩), .pointer (some ⟨W.heap.size, 0, none⟩), .int .i64 (start rs i), .pointer (some ⟨B, 0, none⟩), undef, undef, .pointer (some ⟨t, 0, none⟩),
        .func (.func 37) #[] #[.pointer (some ⟨W.heap.size + 1, 0, none⟩)], .int .i64 (start rs i), .agg #[.string (pc rs i)], undef, undef, undef, undef, undef, undef, undef, undef, undef, undef, undef, undef, undef, undef, undef, undef, undef, undef, undef, undef, undef, undef, undef, undef, undef, undef, undef, undef], defers := [] })
    (fun _ _ _ _ _ h ht hx => h.step hJ ht hx)
    (fun c i X X' A A' h ht hx => ⟨h.1, by obtain ⟨j, hj, hh⟩ := h.2; exact ⟨j, hj, hJx j X X' A A' hh ht hx⟩⟩)
    (fun a' => Steady.and (fun _ _ _ _ _ h ht hx => h.step hJ ht hx) (steady_round a' _ _)) ?hR ?h0 ?assign ?body ?done ?stop
  case hR =>
    rintro i X A h
    have := hRd _ _ _ h.j
    exact ⟨h.b, this.text, this.row⟩
  case h0 =>
    exact ⟨hJ _ _ _ W w1 h0 hT1 (fun k h => .inr (by rcases h with h | h | h; exact h.elim; omega; omega)), hB1, hB2, fun h => h, fun h => h, fun _ h => h.elim⟩
  case assign =>
    rintro l2 i X A K hi h hK
    unfold encRun
    gi_wp2
    refine hK _ _ (Keeps.alloc _ _ _) ⟨h.step hJ (Turns.alloc _ _ _) (fun _ h => .inl h), A.heap.size, fun hx => by have := h.old _ hx; omega, World.alloc_heap_new _ _, rfl⟩
  case body =>
    rintro l2 i X a' A hi ⟨h', B, hB, hr, rfl⟩
    have hR := hRd _ _ _ h'.j
    have cf : A.cell? ⟨Bf, 0, none⟩ = some (.int .i64 f) := by rw [Lib.cell_of_heap hR.boxf]; rfl
    have co : A.cell? ⟨Bo, 0, none⟩ = some (.int .i64 o) := by rw [Lib.cell_of_heap hR.boxo]; rfl
    have cr : A.cell? ⟨B, 0, none⟩ = some (.string (pc rs i)) := by rw [Lib.cell_of_heap hr]; rfl
    have cy : A.cell? ⟨W.heap.size, 0, none⟩ = some (.func (.yield l) #[] #[]) := by rw [Lib.cell_of_heap h'.y]; rfl
    have hst := start_succ rs hi
    have hsl := start_le rs (i + 1)
    have hps := pc_size hi
    by_cases hbb : hasB (start rs i) f o rs[i] = true
    · have hbn : f - start rs i < min (o - start rs i) rs[i].length := by simpa [hasB] using hbb
      obtain ⟨hc1, hc2⟩ := cnt_yes f o rs hi hbb
      have hcl := cnt_lt f o rs hi hbb
      gi_wp2
      refine wpIn_quiet_round rfl hmx (by kernel_rfl) (by kernel_rfl) ?_
      repeat (gi_big_quiet_step (fail))
      refine wpQuietIn_nil ?_
      rintro _ ⟨nq, rfl⟩
      gi_wp2
      all_goals
        have hJd : J (cnt f o rs i) (fun k => X k ∨ k = W.heap.size ∨ k = W.heap.size + 1) (A.drewN nq).drew := hJ _ _ _ A _ h'.j (Turns.drewN _ _ (nq + 1)) (fun _ h => .inl h)
        have hYd := hY _ _ _ hcl hJd
        refine region5_yes _ (fun _ _ _ _ h => h) _ _ _ _ _ _ _ _ _ _ _ _ _ _ _ _ _ _ _ _ _ _ _ _ _ _ _ _ _ _ (by omega) (by omega) (by omega) (by omega) (by omega) (by omega) cy cr _ (by rw [← yield_args rs f o hi hbb _ _ (by omega) (by omega)]; exact hYd) ?_
        rintro e W3 ⟨hk3, (⟨rfl, hJ3⟩ | ⟨rfl, hJx3⟩)⟩
        · refine ⟨true, rfl, ?_⟩
          gi_wp2
          refine ⟨⟨hk3.size, fun k hx hs => hk3.block k (.inl hx) hs⟩, ?_, hk3.get (.inr (.inl rfl)) h'.y, hk3.get (.inr (.inr rfl)) h'.b, h'.ny, h'.nb, fun k hk => Nat.lt_of_lt_of_le (h'.old k hk) hk3.size⟩
          rw [hc1]
          exact hJ3
        · refine ⟨false, rfl, ?_⟩
          gi_wp2
          exact ⟨⟨hk3.size, fun k hx hs => hk3.block k (.inl hx) hs⟩, rfl, _, hcl, hJx _ _ _ _ _ hJx3 (Turns.refl _ _) (fun k h => .inl (.inl h))⟩
    · have hbn : ¬ f - start rs i < min (o - start rs i) rs[i].length := by simpa [hasB] using hbb
      have hc1 := cnt_no f o rs hi (by simpa using hbb)
      gi_wp2
      refine wpIn_quiet_round rfl hmx (by kernel_rfl) (by kernel_rfl) ?_
      repeat (gi_big_quiet_step (fail))
      refine wpQuietIn_nil ?_
      rintro _ ⟨nq, rfl⟩
      gi_wp2
      all_goals
        refine region5_no _ _ _ _ _ _ _ _ _ _ _ _ _ _ _ _ _ _ _ _ _ _ _ _ _ _ _ _ _ (by omega) ?_
        intro nr
        gi_wp2
        refine ⟨⟨Nat.le_refl _, fun _ _ _ => rfl⟩, ?_⟩
        dsimp only
        rw [hc1]
        exact h'.step hJ ((Turns.drewN _ _ nq).trans (Turns.drewN _ _ nr)) (fun _ h => .inl h)
  case done =>
    rintro D A hD h hK
    gi_wp2
    refine ⟨by simp, .inl ⟨_, _, rfl, run_takeDeferred hK, ?_⟩⟩
    refine ⟨_, results_none rfl _ _ _, ⟨_, rfl⟩, .inl ?_⟩
    have := h.j
    rw [cnt_all] at this
    exact hJ _ _ _ _ _ this (Turns.putObj A (.inl rfl) _) (fun _ h => h.elim)
  case stop =>
    rintro D c i A hD hi ⟨rfl, j, hj, hx⟩ hK
    gi_wp2
    refine ⟨by simp, .inl ⟨_, _, rfl, run_takeDeferred hK, ?_⟩⟩
    exact ⟨_, results_none rfl _ _ _, ⟨_, rfl⟩, .inr ⟨j, hj, hJx _ _ _ _ _ hx (Turns.putObj (X := fun k => k = D) A rfl _) (fun _ h => h.elim)⟩⟩

end Go.Proofs.Ytpippmbkdjcbeaa
