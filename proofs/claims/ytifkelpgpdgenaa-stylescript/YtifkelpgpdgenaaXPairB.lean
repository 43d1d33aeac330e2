/-
  What is proved here: a sheet and the document's own that have the same styles, and what Define, Remove and Clone make of them (for StyleScript).
  What is proved here: what Define and Remove, the program's and the document's own one behind the other, make of a pair of sheets, and of another pair (for StyleScript).
-/
import Derived.Test.YtifkelpgpdgenaaXTold
namespace Go.Proofs.Ytifkelpgpdgenaa
open Go.RowKit Go.Shelf

variable {X : Nat → Prop}

theorem shOf_cons_ne {T : Stys} {y : Str × Sty} {s : Str} (h : y.1 ≠ s) : shOf (y :: T) s = shOf T s := by
  classical
  unfold shOf
  rw [List.find?_cons_of_neg (by simpa using h)]
theorem shOf_cons_eq {T : Stys} {y : Str × Sty} {s : Str} (h : y.1 = s) : shOf (y :: T) s = some y.2 := by
  classical
  unfold shOf
  rw [List.find?_cons_of_pos (by simpa using h)]; rfl
theorem putT_length (x : Str × Sty) : ∀ (T : Stys), SortedT T → (putT T x).length = cntN (shOf T) x.1 T.length
  | [], _ => by unfold cntN; rw [shOf_none (by simp)]; rfl
  | y :: T, h => by
    obtain ⟨h1, h2⟩ := List.pairwise_cons.1 h
    have ih := putT_length x T h2
    unfold putT cntN at ih ⊢
    simp only [List.length_append, List.length_cons] at ih ⊢
    by_cases e : y.1 = x.1
    · have hh : ∀ z ∈ T, ltS x.1 z.1 := fun z hz => e ▸ h1 z hz
      rw [shOf_cons_eq e, List.filter_cons_of_neg (by rw [e]; simp [ltS_irrefl]), List.filter_cons_of_neg (by rw [e]; simp [ltS_irrefl]), (filter_hi hh).1, (filter_hi hh).2]
      simp
    · rw [shOf_cons_ne e]
      by_cases hl : ltS x.1 y.1
      · have hh : ∀ z ∈ y :: T, ltS x.1 z.1 := fun z hz => by
          rcases List.mem_cons.1 hz with rfl | hz
          · exact hl
          · exact ltS_trans hl (h1 z hz)
        have hn : shOf T x.1 = none := shOf_none fun z hz => fun e' => ltS_ne (hh z (List.mem_cons_of_mem _ hz)) e'.symm
        rw [(filter_hi hh).1, (filter_hi hh).2, hn]
        simp
      · have hg : ltS y.1 x.1 := (ltS_or e).resolve_right hl
        rw [List.filter_cons_of_pos (by simpa using hg), List.filter_cons_of_neg (by simpa using hl)]
        simp only [List.length_cons]
        split at ih <;> simp_all <;> omega

/-- A sheet and the document's own, with the same styles. -/
structure PairAt (X : Nat → Prop) (w : World) (t b g : Nat) (T : Stys) : Prop where
  sh : SheetAt X w t b T.length (shOf T)
  rf : RefAt X w g T
  so : SortedT T
  wf : WF (shOf T)
theorem PairAt.few {w : World} {t b g : Nat} {T : Stys} (h : PairAt X w t b g T) : T.length ≤ 64 := Nat.le_trans h.sh.few (by omega)
theorem PairAt.below {w w' : World} {t b g : Nat} {T : Stys} (h : PairAt X w t b g T) (hb : Below w.heap.size w w') : PairAt X w' t b g T := ⟨h.sh.below hb, h.rf.below hb, h.so, h.wf⟩
theorem PairAt.change {w : World} {t b g : Nat} {T : Stys} (h : PairAt X w t b g T) {Y : Nat → Prop} (hY : ∀ b, Y b → w.heap.size ≤ b) : PairAt Y w t b g T := ⟨h.sh.change hY, h.rf.change hY, h.so, h.wf⟩
/-- The blocks of a sheet are unlike those of the document's own. -/
theorem PairAt.apart {w : World} {t b g t' b' g' : Nat} {T T' : Stys} (h : PairAt X w t b g T) (h' : PairAt X w t' b' g' T') : t ≠ g' ∧ b ≠ g' ∧ t ≠ b' ∧ g ≠ b' := by
  obtain ⟨u, hu⟩ := h'.rf.obj
  obtain ⟨u2, hu2⟩ := h.rf.obj
  obtain ⟨es, cl, hm⟩ := h.sh.isMap
  obtain ⟨es', cl', hm'⟩ := h'.sh.isMap
  refine ⟨fun e => ?_, fun e => ?_, fun e => ?_, fun e => ?_⟩
  · have := h.sh.obj; rw [e, hu] at this; cases this
  · rw [e, hu] at hm; cases hm
  · have := h.sh.obj; rw [e, hm'] at this; cases this
  · rw [e, hm'] at hu2; cases hu2
/-- A map turns, another sheet's: the pair stays. -/
theorem PairAt.map {w w' : World} {t b g r : Nat} {T : Stys} (h : PairAt X w t b g T) (ho : Only r w w') (hbr : b ≠ r) (hm : NoCells w r) : PairAt X w' t b g T :=
  ⟨h.sh.only2 ho hbr hm, h.rf.only2 ho hm, h.so, h.wf⟩
/-- One of the document's own turns, another one: the pair stays. -/
theorem PairAt.ref {w w' : World} {t b g r : Nat} {T T' : Stys} (h : PairAt X w t b g T) (h' : RefAt X w r T') (ho : Only r w w') (ht : t ≠ r) (hb : b ≠ r) (hg : g ≠ r) : PairAt X w' t b g T :=
  ⟨h.sh.only4 ho hb ht h'.noInts.1, h.rf.keep ho hg (fun _ _ hq => hq.toSetsAt.only4 h'.noInts.1 ho) h'.noInts.2, h.so, h.wf⟩
theorem SheetAt.noCells {w : World} {t b n : Nat} {S : Sh} (h : SheetAt X w t b n S) : NoCells w b := fun cs T fr e => by
  obtain ⟨es, cl, hm⟩ := h.isMap
  rw [hm] at e; cases e
/-- A row of settings that the pair keeps clear of may turn. -/
theorem PairAt.poke {w w' : World} {t b g r : Nat} {T : Stys} (h : PairAt X w t b g T) (hr : X r) {cs : Array Value} {fr : Nat × Nat} (hc : w.heap[r]? = some (.cells cs 37 fr)) (hn : ∀ j s, w.cell? ⟨r, j, none⟩ ≠ some (.string s)) (ho : Only r w w') : PairAt X w' t b g T :=
  ⟨h.sh.poke hr hc ho, h.rf.poke hr ho hn, h.so, h.wf⟩
end Go.Proofs.Ytifkelpgpdgenaa

namespace Go.Proofs.Ytifkelpgpdgenaa
open Go.RowKit Go.Shelf

variable {X : Nat → Prop}

theorem PairAt.own {w : World} {t b g : Nat} {T : Stys} (h : PairAt X w t b g T) : t ≠ g ∧ b ≠ g := ⟨(h.apart h).1, (h.apart h).2.1⟩

theorem PairAt.defined {w w1 w2 : World} {t b g : Nat} {T : Stys} {name parent : Str} {L : List (Int × Int)} {e1 e2 : Ending} (h : PairAt X w t b g T) (h1 : defPost X w t b T.length (shOf T) name parent L e1 w1) (h2 : rdefPost X w1 g T name parent L e2 w2) :
    ∃ c, e1 = .returned (.int .i64 c) ∧ e2 = .returned (.int .i64 c) ∧ ∃ T', PairAt X w2 t b g T' := by
  obtain ⟨r1, ho1, n', S', hsh, hwf, hno, hyes⟩ := h1
  obtain ⟨r2, ho2, T', hrf, hso, kno, kyes⟩ := h2
  have hr1 : RefAt X w1 g T := h.rf.only2 ho1 h.sh.noCells
  have hsh2 : SheetAt X w2 t b n' S' := hsh.only4 ho2 h.own.2 h.own.1 hr1.noInts.1
  refine ⟨_, r1, r2, T', ?_⟩
  by_cases h0 : defE (shOf T) T.length name parent L = 0
  · obtain ⟨rfl, rfl⟩ := hyes h0
    have hT' := kyes h0
    subst hT'
    have e1 := shOf_putT h.so (name, parent, L)
    have e2 := putT_length (name, parent, L) T h.so
    exact ⟨by rw [e1, e2]; exact hsh2, hrf, hso, by rw [e1]; exact hwf⟩
  · obtain ⟨rfl, rfl⟩ := hno h0
    have hT' := kno h0
    subst hT'
    exact ⟨hsh2, hrf, hso, hwf⟩

theorem PairAt.removed {w w1 w2 : World} {t b g : Nat} {T : Stys} {name : Str} {e1 e2 : Ending} (h : PairAt X w t b g T) (h1 : remPost X w t b T.length (shOf T) name e1 w1) (h2 : rremPost X w1 g T name e2 w2) :
    ∃ c, e1 = .returned (.int .i64 c) ∧ e2 = .returned (.int .i64 c) ∧ ∃ T', PairAt X w2 t b g T' := by
  obtain ⟨r1, ho1, n', S', hsh, hwf, hno, hyes⟩ := h1
  obtain ⟨r2, ho2, T', hrf, hso, kno, kyes⟩ := h2
  have hr1 : RefAt X w1 g T := h.rf.only2 ho1 h.sh.noCells
  have hsh2 : SheetAt X w2 t b n' S' := hsh.only4 ho2 h.own.2 h.own.1 hr1.noInts.1
  refine ⟨_, r1, r2, T', ?_⟩
  by_cases h0 : remE (shOf T) name = 0
  · obtain ⟨rfl, hn⟩ := hyes h0
    obtain ⟨k1, k2⟩ := kyes h0
    have : n' = T'.length := by omega
    subst this
    exact ⟨by rw [k1]; exact hsh2, hrf, hso, by rw [k1]; exact hwf⟩
  · obtain ⟨rfl, rfl⟩ := hno h0
    have hT' := kno h0
    subst hT'
    exact ⟨hsh2, hrf, hso, hwf⟩

/-- Another pair stays where a pair turns: its map, then the document's own. -/
theorem PairAt.other {w w1 w2 : World} {t b g t' b' g' : Nat} {T T' : Stys} (h : PairAt X w t b g T) (h' : PairAt X w t' b' g' T') (hb : b' ≠ b) (hg : g' ≠ g) (ho1 : Only b w w1) (ho2 : Only g w1 w2) : PairAt X w2 t' b' g' T' := by
  have hr1 : RefAt X w1 g T := h.rf.only2 ho1 h.sh.noCells
  have h1 : PairAt X w1 t' b' g' T' := h'.map ho1 hb h.sh.noCells
  obtain ⟨k1, k2, _, _⟩ := h'.apart h
  exact h1.ref hr1 ho2 k1 k2 hg

/-- Define of both. -/
theorem PairAt.rdefine {w w1 : World} {t b g : Nat} {T : Stys} {name parent : Str} {L : List (Int × Int)} {e1 : Ending} (h : PairAt X w t b g T) (h1 : defPost X w t b T.length (shOf T) name parent L e1 w1) (hnl : name.size ≤ maxLen) (v : Value) (hL : SetsAt w1 v L) (hXL : XL X w) :
    Calls Try.prog 24 #[.pointer (some ⟨g, 0, none⟩), .string name, .string parent, v] w1 (rdefPost X w1 g T name parent L) :=
  refDefine_any g T h.so h.few h.wf name parent hnl v L w1 (h.rf.only2 h1.2.1 h.sh.noCells) hL (hXL.mono h1.2.1.size)
/-- Remove of both. -/
theorem PairAt.rremove {w w1 : World} {t b g : Nat} {T : Stys} {name : Str} {e1 : Ending} (h : PairAt X w t b g T) (h1 : remPost X w t b T.length (shOf T) name e1 w1) (hXL : XL X w) :
    Calls Try.prog 26 #[.pointer (some ⟨g, 0, none⟩), .string name] w1 (rremPost X w1 g T name) :=
  refRemove_any g T h.so h.few name w1 (h.rf.only2 h1.2.1 h.sh.noCells) (hXL.mono h1.2.1.size)
end Go.Proofs.Ytifkelpgpdgenaa
