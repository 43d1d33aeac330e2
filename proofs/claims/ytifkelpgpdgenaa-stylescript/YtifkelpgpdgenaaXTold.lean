/-
  What is proved here: what told answers of a sheet and the document's own that have the same styles, given what Names answers (for StyleScript).
-/
import Derived.Test.YtifkelpgpdgenaaXRefDefB
import Derived.Test.YtifkelpgpdgenaaXOver
import Derived.Test.YtifkelpgpdgenaaEq
namespace Go.Proofs.Ytifkelpgpdgenaa
open Go.RowKit Go.Shelf

variable {X : Nat → Prop}

/-- What Names answers: the names that there are, rising, in new memory, all of whose cells are texts. -/
def NamesGive (w : World) (S : Sh) (e : Ending) (w' : World) : Prop :=
  ∃ v ns, e = .returned v ∧ StrsAt w' v ns ∧ ns.Pairwise ltS ∧ (∀ s, s ∈ ns ↔ (S s).isSome = true) ∧ AllStrs w' w.heap.size 16 v ∧ Below w.heap.size w w'

theorem rising_same : ∀ (l m : List Str), l.Pairwise ltS → m.Pairwise ltS → (∀ s, s ∈ l ↔ s ∈ m) → l = m
  | [], [], _, _, _ => rfl
  | [], b :: m, _, _, h => by have := (h b).2 List.mem_cons_self; cases this
  | a :: l, [], _, _, h => by have := (h a).1 List.mem_cons_self; cases this
  | a :: l, b :: m, h1, h2, h => by
    obtain ⟨p1, p2⟩ := List.pairwise_cons.1 h1
    obtain ⟨q1, q2⟩ := List.pairwise_cons.1 h2
    have hab : a = b := by
      rcases List.mem_cons.1 ((h a).1 List.mem_cons_self) with e | e
      · exact e
      · rcases List.mem_cons.1 ((h b).2 List.mem_cons_self) with f | f
        · exact f.symm
        · exact absurd (ltS_trans (q1 _ e) (p1 _ f)) (ltS_irrefl _)
    subst hab
    rw [rising_same l m p2 q2 fun s => ⟨fun hs => ?_, fun hs => ?_⟩]
    · rcases List.mem_cons.1 ((h s).1 (List.mem_cons_of_mem _ hs)) with e | e
      · exact absurd e.symm (ltS_ne (p1 _ hs))
      · exact e
    · rcases List.mem_cons.1 ((h s).2 (List.mem_cons_of_mem _ hs)) with e | e
      · exact absurd e.symm (ltS_ne (q1 _ hs))
      · exact e
theorem names_same {T : Stys} (hsT : SortedT T) {ns : List Str} (h1 : ns.Pairwise ltS) (h2 : ∀ s, s ∈ ns ↔ (shOf T s).isSome = true) : ns = T.map (·.1) := by
  refine rising_same _ _ h1 (List.pairwise_map.2 hsT) fun s => ?_
  rw [h2, List.mem_map]
  constructor
  · intro h
    obtain ⟨i, hi, e, _⟩ := shOf_first h
    exact ⟨_, List.getElem_mem hi, e⟩
  · rintro ⟨x, hx, rfl⟩
    have := (shOf_iff hsT (s := x.1) (y := x.2)).2 hx
    rw [this]; rfl

set_option maxHeartbeats 1000000 in
theorem parent_none (t b n : Nat) (S : Sh) (s : Str) (hs : s.size ≤ maxLen) (hx : S s = none) (w : World) (h : SheetAt X w t b n S) :
    Calls Try.prog 29 #[.pointer (some ⟨t, 0, none⟩), .string s] w fun e w' => e = .returned (.tuple #[.string e0, .int .i64 6]) ∧ Below w.heap.size w w' := by
  have hmade := made_yes t w h.cells.1
  go_enter Try.func29, Try.ntmps29
  go_wp2_with (go_at_call 37; refine hmade.mono ?_; rintro e w' ⟨rfl, hww⟩; subst w')
  refine (has_any t b n S s hs w h).mono ?_
  rintro e w1 ⟨rfl, b1⟩
  rw [hx]
  rw [show (none : Option Sty).isSome = false from rfl]
  go_wp2_with fail
  go_ret2
  exact ⟨rfl, b1⟩

theorem res_same {w w' w2 w3 : World} {S : Sh} {name : Str} {own : List (Int × Int)} {e e2 : Ending} (h : resPost w S name own e w') (h2 : resPost w2 S name own e2 w3) : ∃ q c, q.length = 17 ∧ e = .returned (.tuple #[.agg (prC q), .int .i64 c]) ∧ e2 = .returned (.tuple #[.agg (prC q), .int .i64 c]) := by
  obtain ⟨_, q, h1, hl, hn, hy⟩ := h
  obtain ⟨_, q2, k1, kl, kn, ky⟩ := h2
  have : q = q2 := by
    by_cases h0 : resE S name own = 0
    · obtain ⟨m, m1, rfl⟩ := hy h0
      obtain ⟨m', m2, rfl⟩ := ky h0
      rw [m1.uniq m2]
    · rw [hn h0, kn h0]
  subst this
  exact ⟨q, _, hl, h1, k1⟩

theorem wpList_eql23_want {ops : Array Oper} {rest : List Oper} {o : Oper} {a : Act} {w : World} {Q : Exit → Act → World → Prop} (x y : Operand) (ho : o.op = .binOp .eql 23 x y 23) (hw : Region.wanted o (yielded ops a.tmps) = true)
    (m : List Int) (hm : m.length = 17) (hx : a.eval x = .agg (prC m)) (hy : a.eval y = .agg (prC m))
    (h : wpList Try.prog ops Q rest (a.put o.dst (.bool true)) w) : wpList Try.prog ops Q (o :: rest) a w :=
  BigFrame.wpList_want hw fun K hK => by
    have he := eql_same m hm w
    have hg := run_eqGuard_agg w .eql 23 x y (prC m) (prC m) guard23
    unfold prV at he
    unfold Oper.wp execOp
    simp only [ho, hx, hy, Sem.run_bind, hg, he, Result.andThen_ok, Sem.run_pure]
    exact hK _ _ h

theorem prC_inj {l m : List Int} (h : prC l = prC m) : l = m := by
  have h1 : l.map (Value.int .i64) = m.map (Value.int .i64) := by
    have := congrArg Array.toList h
    simpa only [prC] using this
  exact (List.map_inj_right fun a b e => by cases e; rfl).1 h1
theorem StrsAt.below {W W' : World} {v : Value} {ns : List Str} (h : StrsAt W v ns) (hb : Below W.heap.size W W') : StrsAt W' v ns := by
  obtain ⟨a, cap, rfl, h2⟩ := h.ex
  refine ⟨a, cap, rfl, ?_⟩
  rcases h2 with h2 | ⟨g, rfl, hg, hc⟩
  · exact .inl h2
  · exact .inr ⟨g, rfl, Nat.lt_of_lt_of_le hg hb.size, fun i hi => (hb.cell hg).trans (hc i hi)⟩
theorem AllStrs.below {W W' : World} {base m : Nat} {v : Value} (h : AllStrs W base m v) (hb : Below W.heap.size W W') : AllStrs W' base m v := by
  obtain ⟨a, n, cap, rfl, h1, h2, h3⟩ := h
  refine ⟨a, n, cap, rfl, h1, h2, ?_⟩
  rcases h3 with h3 | ⟨g, rfl, hg, cur, hcur, h4⟩
  · exact .inl h3
  · exact .inr ⟨g, rfl, hg, cur, (hb.block g (Array.getElem?_eq_some_iff.1 hcur).1).trans hcur, h4⟩

set_option maxRecDepth 100000 in
set_option maxHeartbeats 1000000 in
theorem told_there (t b n g : Nat) (T : Stys) (hsT : SortedT T) (hT : T.length ≤ 64) (hWF : WF (shOf T)) (name : Str) (hnl : name.size ≤ maxLen) (hx : (shOf T name).isSome = true) (v : Value) (own : List (Int × Int)) (w : World) (h : SheetAt X w t b n (shOf T)) (hR : RefAt X w g T) (hL : SetsAt w v own)
    (hN : ∀ W, SheetAt X W t b n (shOf T) → Calls Try.prog 30 #[.pointer (some ⟨t, 0, none⟩)] W (NamesGive W (shOf T))) :
    Calls Try.prog 27 #[.pointer (some ⟨t, 0, none⟩), .pointer (some ⟨g, 0, none⟩), .string name, v] w fun e w' => e = .returned (.bool true) ∧ Below w.heap.size w w' := by
  obtain ⟨a, cap, rfl, _⟩ := hL.ex
  go_enter Try.func27, Try.ntmps27
  go_wp2_with fail
  refine (resolve_any t b n _ hWF name hnl _ own w h hL).mono ?_
  intro e w1 r1
  obtain ⟨q, rfl, hql, hr1⟩ : ∃ q, e = .returned (.tuple #[.agg (prC q), .int .i64 (resE (shOf T) name own)]) ∧ q.length = 17 ∧ resPost w (shOf T) name own e w1 := by
    obtain ⟨_, q, h1, hl, _⟩ := id r1
    exact ⟨q, h1, hl, r1⟩
  have b1 := hr1.1
  obtain ⟨c, hc⟩ : ∃ c, resE (shOf T) name own = c := ⟨_, rfl⟩
  replace hr1 : Hid _ := hr1
  clear r1
  obtain ⟨bz, hZ⟩ := room_made w1
  have hP2 := hZ.setRow hql
  have B2 : Below w.heap.size w _ := below_setRow (b1.trans (bz.mono b1.size)) b1.size (prC q)
  rw [hc]
  go_wp2_with (refine wpList_store_row rfl 23 _ _ rfl w1.heap.size (prC q) rfl rfl 23 _ hZ.row (info23l hql) (by rw [prC_size, prC_size, hql]; rfl) (prC_one _) ?_)
  generalize hW2 : (w1.alloc (.cells #[Value.int IntKind.i64 0, Value.int IntKind.i64 0, Value.int IntKind.i64 0, Value.int IntKind.i64 0, Value.int IntKind.i64 0, Value.int IntKind.i64 0, Value.int IntKind.i64 0, Value.int IntKind.i64 0, Value.int IntKind.i64 0, Value.int IntKind.i64 0, Value.int IntKind.i64 0, Value.int IntKind.i64 0, Value.int IntKind.i64 0, Value.int IntKind.i64 0, Value.int IntKind.i64 0, Value.int IntKind.i64 0, Value.int IntKind.i64 0] 23)).setRow w1.heap.size (prC q) = w2 at *
  have h2 := h.below B2
  have hR2 := hR.below B2
  have hL2 := hL.below B2
  clear hZ bz hW2 h hR hL
  refine (refResolve_any g T hWF name _ own w2 hR2 hL2).mono ?_
  intro e w3 r2
  obtain ⟨q', c', _, he1, rfl⟩ := res_same hr1.out r2
  have b3 := r2.1
  obtain ⟨rfl, rfl⟩ : q' = q ∧ c' = c := by
    rw [hc] at he1
    simp only [Ending.returned.injEq, Value.tuple.injEq, Array.mk.injEq, List.cons.injEq, Value.agg.injEq, Value.int.injEq] at he1
    exact ⟨(prC_inj he1.1).symm, he1.2.1.2.symm⟩
  clear r2 hr1 he1
  have B3 := B2.trans (b3.mono B2.size)
  have hP3 := hP2.below b3 hP2.lt
  obtain ⟨bz, hZ⟩ := room_made w3
  have hP4 := hZ.setRow hql
  have B4 : Below w3.heap.size w3 _ := below_setRow bz (Nat.le_refl _) (prC q')
  go_wp2_with (refine wpList_store_row rfl 23 _ _ rfl w3.heap.size (prC q') rfl rfl 23 _ hZ.row (info23l hql) (by rw [prC_size, prC_size, hql]; rfl) (prC_one _) ?_)
  generalize hW4 : (w3.alloc (.cells #[Value.int IntKind.i64 0, Value.int IntKind.i64 0, Value.int IntKind.i64 0, Value.int IntKind.i64 0, Value.int IntKind.i64 0, Value.int IntKind.i64 0, Value.int IntKind.i64 0, Value.int IntKind.i64 0, Value.int IntKind.i64 0, Value.int IntKind.i64 0, Value.int IntKind.i64 0, Value.int IntKind.i64 0, Value.int IntKind.i64 0, Value.int IntKind.i64 0, Value.int IntKind.i64 0, Value.int IntKind.i64 0, Value.int IntKind.i64 0] 23)).setRow w3.heap.size (prC q') = w4 at *
  have hP3' := hP3.below B4 hP3.lt
  have C4 := b3.trans (B4.mono b3.size)
  have h4 := h2.below C4
  have hR4 := hR2.below C4
  have D4 := B2.trans (C4.mono B2.size)
  clear hZ bz hW4 hP2 hP3 h2 hR2 hL2 B4
  refine (hN w4 h4).mono ?_
  rintro e w5 ⟨vn, ns, rfl, hstr, hpw, hmem, hallS, b5⟩
  have hns := names_same hsT hpw hmem
  subst hns
  obtain ⟨an, cn, hvn, _⟩ := hstr.ex
  rw [List.length_map] at hvn
  subst hvn
  have h5 := h4.below b5
  have hR5 := hR4.below b5
  have hP5 := hP3'.below b5 hP3'.lt
  have hP6 := hP4.below b5 hP4.lt
  have D5 := D4.trans (b5.mono D4.size)
  replace hstr : Hid _ := hstr
  replace hallS : Hid _ := hallS
  have hs45 := b5.size
  clear hpw hmem h4 hR4 hP3' hP4
  go_wp2_with fail
  obtain ⟨i, hi, hi1, hi2, hi3⟩ := shOf_first hx
  refine (parent_some t b n _ name T[i].2.1 T[i].2.2 hnl hi3 w5 h5).mono ?_
  rintro e w6 ⟨rfl, b6⟩
  have hR6 := hR5.below b6
  have hat := refAt_there g T name w6 hR6 i hi hi1 hi2
  have hP7 := hP5.below b6 hP5.lt
  have hP8 := hP6.below b6 hP6.lt
  obtain ⟨v6, hv6, hS6⟩ := hR6.ex
  obtain ⟨a6, c6, rfl, k6⟩ := hS6.ex
  rcases k6 with k6 | ⟨bb, o, rfl, _, _, hc6⟩
  · rw [k6] at hi; simp at hi
  obtain ⟨_, y1, _⟩ := hc6 i hi
  have hin0 : ¬ (i : Int) < 0 := by omega
  have hil : (i : Int) < T.length := by omega
  generalize T[i].2.1 = pp at *
  clear hc6 hi1 hi2 hi3 hS6 hP5 hP6
  go_wp2_with fail
  refine hat.mono ?_
  rintro e w' ⟨rfl, hww⟩
  subst w'
  go_wp2_with (first
    | refine wpList_eql23_want _ _ rfl (by kernel_rfl) q' hql rfl rfl ?_
    | refine wpList_load_row rfl 23 _ rfl w1.heap.size rfl 23 _ (0, 0) _ hP7.row Try.underlying23 rfl (info23l hql) ?_
    | refine wpList_load_row rfl 23 _ rfl w3.heap.size rfl 23 _ (0, 0) _ hP8.row Try.underlying23 rfl (info23l hql) ?_)
  refine (refNames_any g T hT w6 hR6).mono ?_
  rintro e w7 ⟨v7, rfl, hstr7, b7⟩
  obtain ⟨a7, c7, hv7, _⟩ := hstr7.ex
  rw [List.length_map] at hv7
  subst hv7
  have hlm : (T.map (·.1)).length ≤ 9223372036854775807 := by rw [List.length_map]; omega
  have hb57 := b6.trans (b7.mono b6.size)
  have hstr5 : Hid _ := hstr.out.below hb57
  replace hstr7 : Hid _ := hstr7
  go_wp2_with fail
  refine (sameTexts_any _ _ (T.map (·.1)) hlm w7 hstr5.out hstr7.out).mono ?_
  rintro e w8 ⟨rfl, b8⟩
  have hb58 := hb57.trans (b8.mono hb57.size)
  go_wp2_with fail
  refine (over_any _ w4.heap.size 16 (by omega) w8 (by have := hb58.size; omega) (AllStrs.below hallS.out hb58)).mono ?_
  rintro e w9 ⟨rfl, b9⟩
  have D9 : Below w.heap.size w w9 := (D5.trans (hb58.mono D5.size)).trans (b9.mono D4.size)
  go_wp2_with fail
  go_ret
  exact ⟨rfl, D9⟩

set_option maxRecDepth 100000 in
set_option maxHeartbeats 1000000 in
theorem told_none (t b n g : Nat) (T : Stys) (hsT : SortedT T) (hT : T.length ≤ 64) (hWF : WF (shOf T)) (name : Str) (hnl : name.size ≤ maxLen) (hx : shOf T name = none) (v : Value) (own : List (Int × Int)) (w : World) (h : SheetAt X w t b n (shOf T)) (hR : RefAt X w g T) (hL : SetsAt w v own)
    (hN : ∀ W, SheetAt X W t b n (shOf T) → Calls Try.prog 30 #[.pointer (some ⟨t, 0, none⟩)] W (NamesGive W (shOf T))) :
    Calls Try.prog 27 #[.pointer (some ⟨t, 0, none⟩), .pointer (some ⟨g, 0, none⟩), .string name, v] w fun e w' => e = .returned (.bool true) ∧ Below w.heap.size w w' := by
  obtain ⟨a, cap, rfl, _⟩ := hL.ex
  go_enter Try.func27, Try.ntmps27
  go_wp2_with fail
  refine (resolve_any t b n _ hWF name hnl _ own w h hL).mono ?_
  intro e w1 r1
  obtain ⟨q, rfl, hql, hr1⟩ : ∃ q, e = .returned (.tuple #[.agg (prC q), .int .i64 (resE (shOf T) name own)]) ∧ q.length = 17 ∧ resPost w (shOf T) name own e w1 := by
    obtain ⟨_, q, h1, hl, _⟩ := id r1
    exact ⟨q, h1, hl, r1⟩
  have b1 := hr1.1
  obtain ⟨c, hc⟩ : ∃ c, resE (shOf T) name own = c := ⟨_, rfl⟩
  replace hr1 : Hid _ := hr1
  clear r1
  obtain ⟨bz, hZ⟩ := room_made w1
  have hP2 := hZ.setRow hql
  have B2 : Below w.heap.size w _ := below_setRow (b1.trans (bz.mono b1.size)) b1.size (prC q)
  rw [hc]
  go_wp2_with (refine wpList_store_row rfl 23 _ _ rfl w1.heap.size (prC q) rfl rfl 23 _ hZ.row (info23l hql) (by rw [prC_size, prC_size, hql]; rfl) (prC_one _) ?_)
  generalize hW2 : (w1.alloc (.cells #[Value.int IntKind.i64 0, Value.int IntKind.i64 0, Value.int IntKind.i64 0, Value.int IntKind.i64 0, Value.int IntKind.i64 0, Value.int IntKind.i64 0, Value.int IntKind.i64 0, Value.int IntKind.i64 0, Value.int IntKind.i64 0, Value.int IntKind.i64 0, Value.int IntKind.i64 0, Value.int IntKind.i64 0, Value.int IntKind.i64 0, Value.int IntKind.i64 0, Value.int IntKind.i64 0, Value.int IntKind.i64 0, Value.int IntKind.i64 0] 23)).setRow w1.heap.size (prC q) = w2 at *
  have h2 := h.below B2
  have hR2 := hR.below B2
  have hL2 := hL.below B2
  clear hZ bz hW2 h hR hL
  refine (refResolve_any g T hWF name _ own w2 hR2 hL2).mono ?_
  intro e w3 r2
  obtain ⟨q', c', _, he1, rfl⟩ := res_same hr1.out r2
  have b3 := r2.1
  obtain ⟨rfl, rfl⟩ : q' = q ∧ c' = c := by
    rw [hc] at he1
    simp only [Ending.returned.injEq, Value.tuple.injEq, Array.mk.injEq, List.cons.injEq, Value.agg.injEq, Value.int.injEq] at he1
    exact ⟨(prC_inj he1.1).symm, he1.2.1.2.symm⟩
  clear r2 hr1 he1
  have B3 := B2.trans (b3.mono B2.size)
  have hP3 := hP2.below b3 hP2.lt
  obtain ⟨bz, hZ⟩ := room_made w3
  have hP4 := hZ.setRow hql
  have B4 : Below w3.heap.size w3 _ := below_setRow bz (Nat.le_refl _) (prC q')
  go_wp2_with (refine wpList_store_row rfl 23 _ _ rfl w3.heap.size (prC q') rfl rfl 23 _ hZ.row (info23l hql) (by rw [prC_size, prC_size, hql]; rfl) (prC_one _) ?_)
  generalize hW4 : (w3.alloc (.cells #[Value.int IntKind.i64 0, Value.int IntKind.i64 0, Value.int IntKind.i64 0, Value.int IntKind.i64 0, Value.int IntKind.i64 0, Value.int IntKind.i64 0, Value.int IntKind.i64 0, Value.int IntKind.i64 0, Value.int IntKind.i64 0, Value.int IntKind.i64 0, Value.int IntKind.i64 0, Value.int IntKind.i64 0, Value.int IntKind.i64 0, Value.int IntKind.i64 0, Value.int IntKind.i64 0, Value.int IntKind.i64 0, Value.int IntKind.i64 0] 23)).setRow w3.heap.size (prC q') = w4 at *
  have hP3' := hP3.below B4 hP3.lt
  have C4 := b3.trans (B4.mono b3.size)
  have h4 := h2.below C4
  have hR4 := hR2.below C4
  have D4 := B2.trans (C4.mono B2.size)
  clear hZ bz hW4 hP2 hP3 h2 hR2 hL2 B4
  refine (hN w4 h4).mono ?_
  rintro e w5 ⟨vn, ns, rfl, hstr, hpw, hmem, hallS, b5⟩
  have hns := names_same hsT hpw hmem
  subst hns
  obtain ⟨an, cn, hvn, _⟩ := hstr.ex
  rw [List.length_map] at hvn
  subst hvn
  have h5 := h4.below b5
  have hR5 := hR4.below b5
  have hP5 := hP3'.below b5 hP3'.lt
  have hP6 := hP4.below b5 hP4.lt
  have D5 := D4.trans (b5.mono D4.size)
  replace hstr : Hid _ := hstr
  replace hallS : Hid _ := hallS
  have hs45 := b5.size
  clear hpw hmem h4 hR4 hP3' hP4
  go_wp2_with fail
  refine (parent_none t b n _ name hnl hx w5 h5).mono ?_
  rintro e w6 ⟨rfl, b6⟩
  have hR6 := hR5.below b6
  have hat := refAt_not g T name w6 hR6 hx
  have hP7 := hP5.below b6 hP5.lt
  have hP8 := hP6.below b6 hP6.lt
  clear hP5 hP6
  unfold e0
  go_wp2_with fail
  refine hat.mono ?_
  rintro e w' ⟨rfl, hww⟩
  subst w'
  go_wp2_with (first
    | refine wpList_eql23_want _ _ rfl (by kernel_rfl) q' hql rfl rfl ?_
    | refine wpList_load_row rfl 23 _ rfl w1.heap.size rfl 23 _ (0, 0) _ hP7.row Try.underlying23 rfl (info23l hql) ?_
    | refine wpList_load_row rfl 23 _ rfl w3.heap.size rfl 23 _ (0, 0) _ hP8.row Try.underlying23 rfl (info23l hql) ?_)
  refine (refNames_any g T hT w6 hR6).mono ?_
  rintro e w7 ⟨v7, rfl, hstr7, b7⟩
  obtain ⟨a7, c7, hv7, _⟩ := hstr7.ex
  rw [List.length_map] at hv7
  subst hv7
  have hlm : (T.map (·.1)).length ≤ 9223372036854775807 := by rw [List.length_map]; omega
  have hb57 := b6.trans (b7.mono b6.size)
  have hstr5 : Hid _ := hstr.out.below hb57
  replace hstr7 : Hid _ := hstr7
  go_wp2_with fail
  refine (sameTexts_any _ _ (T.map (·.1)) hlm w7 hstr5.out hstr7.out).mono ?_
  rintro e w8 ⟨rfl, b8⟩
  have hb58 := hb57.trans (b8.mono hb57.size)
  go_wp2_with fail
  refine (over_any _ w4.heap.size 16 (by omega) w8 (by have := hb58.size; omega) (AllStrs.below hallS.out hb58)).mono ?_
  rintro e w9 ⟨rfl, b9⟩
  have D9 : Below w.heap.size w w9 := (D5.trans (hb58.mono D5.size)).trans (b9.mono D4.size)
  go_wp2_with fail
  go_ret
  exact ⟨rfl, D9⟩

theorem told_any (t b n g : Nat) (T : Stys) (hsT : SortedT T) (hT : T.length ≤ 64) (hWF : WF (shOf T)) (name : Str) (hnl : name.size ≤ maxLen) (v : Value) (own : List (Int × Int)) (w : World) (h : SheetAt X w t b n (shOf T)) (hR : RefAt X w g T) (hL : SetsAt w v own)
    (hN : ∀ W, SheetAt X W t b n (shOf T) → Calls Try.prog 30 #[.pointer (some ⟨t, 0, none⟩)] W (NamesGive W (shOf T))) :
    Calls Try.prog 27 #[.pointer (some ⟨t, 0, none⟩), .pointer (some ⟨g, 0, none⟩), .string name, v] w fun e w' => e = .returned (.bool true) ∧ Below w.heap.size w w' := by
  cases hx : shOf T name with
  | none => exact told_none t b n g T hsT hT hWF name hnl hx v own w h hR hL hN
  | some y => exact told_there t b n g T hsT hT hWF name hnl (by rw [hx]; rfl) v own w h hR hL hN
end Go.Proofs.Ytifkelpgpdgenaa
