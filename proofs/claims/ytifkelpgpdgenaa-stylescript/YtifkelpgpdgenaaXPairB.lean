/-
  What is proved here: what Define and Remove, the program's and the document's own one behind the other, make of a pair of sheets, and of another pair (for StyleScript).
-/
import Derived.Test.YtifkelpgpdgenaaXPair
namespace Go.Proofs.Ytifkelpgpdgenaa
open Go.RowKit Go.Shelf

variable {X : Nat → Prop}

theorem PairAt.own {w : World} {t b g : Nat} {T : Stys} (h : PairAt X w t b g T) : t ≠ g ∧ b ≠ g := ⟨(h.apart h).1, (h.apart h).2.1⟩

theorem PairAt.defined {w w1 w2 : World} {t b g : Nat} {T : Stys} {name parent : Str} {L : List (Int × Int)} {e1 e2 : Ending} (h : PairAt X w t b g T) (h1 : defPost X w t b T.length (shOf T) name parent L e1 w1) (h2 : rdefPost X w1 g T name parent L e2 w2) :
    ∃ c, e1 = .returned (.int .i64 c) ∧ e2 = .returned (.int .i64 c) ∧ ∃ T', PairAt X w2 t b g T' := by
  obtain ⟨r1, ho1, n', S', hsh, hwf, hno, hyes⟩ := h1
  obtain ⟨r2, ho2, T', hrf, hso, kno, kyes⟩ := h2
  have hr1 : RefAt X w1 g T := h.rf.only2 ho1 h.sh.noCells
  have hsh2 : SheetAt X w2 t b n' S' := hsh.only4 ho2 h.own.2 h.own.1 hr1.noInts.1
  refine ⟨_, r1, r2, T', ?_⟩
  by_cases h0 : defE (shOf T) T.length name parent L = 0
  · obtain ⟨rfl, rfl⟩ := hyes h0
    have hT' := kyes h0
    subst hT'
    have e1 := shOf_putT h.so (name, parent, L)
    have e2 := putT_length (name, parent, L) T h.so
    exact ⟨by rw [e1, e2]; exact hsh2, hrf, hso, by rw [e1]; exact hwf⟩
  · obtain ⟨rfl, rfl⟩ := hno h0
    have hT' := kno h0
    subst hT'
    exact ⟨hsh2, hrf, hso, hwf⟩

theorem PairAt.removed {w w1 w2 : World} {t b g : Nat} {T : Stys} {name : Str} {e1 e2 : Ending} (h : PairAt X w t b g T) (h1 : remPost X w t b T.length (shOf T) name e1 w1) (h2 : rremPost X w1 g T name e2 w2) :
    ∃ c, e1 = .returned (.int .i64 c) ∧ e2 = .returned (.int .i64 c) ∧ ∃ T', PairAt X w2 t b g T' := by
  obtain ⟨r1, ho1, n', S', hsh, hwf, hno, hyes⟩ := h1
  obtain ⟨r2, ho2, T', hrf, hso, kno, kyes⟩ := h2
  have hr1 : RefAt X w1 g T := h.rf.only2 ho1 h.sh.noCells
  have hsh2 : SheetAt X w2 t b n' S' := hsh.only4 ho2 h.own.2 h.own.1 hr1.noInts.1
  refine ⟨_, r1, r2, T', ?_⟩
  by_cases h0 : remE (shOf T) name = 0
  · obtain ⟨rfl, hn⟩ := hyes h0
    obtain ⟨k1, k2⟩ := kyes h0
    have : n' = T'.length := by omega
    subst this
    exact ⟨by rw [k1]; exact hsh2, hrf, hso, by rw [k1]; exact hwf⟩
  · obtain ⟨rfl, rfl⟩ := hno h0
    have hT' := kno h0
    subst hT'
    exact ⟨hsh2, hrf, hso, hwf⟩

/-- Another pair stays where a pair turns: its map, then the document's own. -/
theorem PairAt.other {w w1 w2 : World} {t b g t' b' g' : Nat} {T T' : Stys} (h : PairAt X w t b g T) (h' : PairAt X w t' b' g' T') (hb : b' ≠ b) (hg : g' ≠ g) (ho1 : Only b w w1) (ho2 : Only g w1 w2) : PairAt X w2 t' b' g' T' := by
  have hr1 : RefAt X w1 g T := h.rf.only2 ho1 h.sh.noCells
  have h1 : PairAt X w1 t' b' g' T' := h'.map ho1 hb h.sh.noCells
  obtain ⟨k1, k2, _, _⟩ := h'.apart h
  exact h1.ref hr1 ho2 k1 k2 hg

/-- Define of both. -/
theorem PairAt.rdefine {w w1 : World} {t b g : Nat} {T : Stys} {name parent : Str} {L : List (Int × Int)} {e1 : Ending} (h : PairAt X w t b g T) (h1 : defPost X w t b T.length (shOf T) name parent L e1 w1) (hnl : name.size ≤ maxLen) (v : Value) (hL : SetsAt w1 v L) (hXL : XL X w) :
    Calls Try.prog 24 #[.pointer (some ⟨g, 0, none⟩), .string name, .string parent, v] w1 (rdefPost X w1 g T name parent L) :=
  refDefine_any g T h.so h.few h.wf name parent hnl v L w1 (h.rf.only2 h1.2.1 h.sh.noCells) hL (hXL.mono h1.2.1.size)
/-- Remove of both. -/
theorem PairAt.rremove {w w1 : World} {t b g : Nat} {T : Stys} {name : Str} {e1 : Ending} (h : PairAt X w t b g T) (h1 : remPost X w t b T.length (shOf T) name e1 w1) (hXL : XL X w) :
    Calls Try.prog 26 #[.pointer (some ⟨g, 0, none⟩), .string name] w1 (rremPost X w1 g T name) :=
  refRemove_any g T h.so h.few name w1 (h.rf.only2 h1.2.1 h.sh.noCells) (hXL.mono h1.2.1.size)
end Go.Proofs.Ytifkelpgpdgenaa
