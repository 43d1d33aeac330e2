/-
  What is proved here: one call on the program's looks and on the document's is answered alike (act, for SpanScript).
-/
import Derived.Test.YtjakmekifpbldaaRefL
import Derived.Test.YtjakmekifpbldaaRefM
namespace Go.Proofs.Ytjakmekifpbldaa
open Go.RowKit Go.Shelf

/-- Nothing that was there has changed but two blocks. -/
structure Two (t t2 : Nat) (w w' : World) : Prop where
  os : w'.os = w.os
  tape : w'.tape = w.tape
  output : w'.output = w.output
  size : w.heap.size ≤ w'.heap.size
  block : ∀ k, k < w.heap.size → k ≠ t → k ≠ t2 → w'.heap[k]? = w.heap[k]?
theorem Two.of {t t2 : Nat} {w w1 w2 : World} (h1 : Only t w w1) (h2 : Only t2 w1 w2) : Two t t2 w w2 :=
  ⟨h2.os.trans h1.os, h2.tape.trans h1.tape, h2.output.trans h1.output, Nat.le_trans h1.size h2.size, fun k hk a b => (h2.block k (Nat.lt_of_lt_of_le hk h1.size) (by simp; exact b)).trans (h1.block k hk (by simp; exact a))⟩
theorem LooksAt.apart {t g : Nat} {sv : Value} {L : List Ch} {m : Ch} {W : World} {cs : Array Value} {ty : TypeId} {fr : Nat × Nat} (h : LooksAt t sv L m W) (hg : W.heap[g]? = some (.cells cs ty fr)) (h1 : ty ≠ 46) (h2 : ty ≠ 72) : t ≠ g ∧ ∀ k, sv.ownBlock = some k → k ≠ g := by
  refine ⟨fun e => ?_, fun k hk e => ?_⟩
  · subst e
    have := h.obj
    rw [hg] at this
    injection this with this
    injection this with _ h3 _
    exact h1 h3
  · subst e
    rcases h.row.2 with ⟨rfl, _⟩ | ⟨g2, cap, cur2, rfl, _, hg2, _⟩
    · cases hk
    · cases hk
      rw [hg] at hg2
      injection hg2 with this
      injection this with _ h3 _
      exact h2 h3

/-- Both sides, behind a call. -/
def Both (t t2 : Nat) (w w' : World) : Prop := ∃ sv v L m, LooksAt t sv L m w' ∧ RefAt t2 v L m w' ∧ Two t t2 w w'

theorem both_of {t t2 : Nat} {sv v : Value} {k : Int} {L L' : List Ch} {m m' : Ch} {w w1 w2 : World} (hR : RefAt t2 v L m w) {sv' : Value} (hL : LooksAt t sv' L' m' w1) (ho : Only t w w1) (h0 : LooksAt t sv L m w) {e : Ending} (hd : RefAt t2 v L m w1 → DidR t2 k L' m' w1 e w2) : e = .returned (.int .i64 k) ∧ Both t t2 w w2 := by
  have hne := (h0.apart hR.obj (by decide) (by decide)).1
  have hR1 := hR.only ho (Ne.symm hne) h0.obj (by decide)
  obtain ⟨v', rfl, k1, k2⟩ := hd hR1
  obtain ⟨_, q2⟩ := hL.apart hR1.obj (by decide) (by decide)
  exact ⟨rfl, _, _, _, _, hL.only k2 hne q2, k1, Two.of ho k2⟩
end Go.Proofs.Ytjakmekifpbldaa
