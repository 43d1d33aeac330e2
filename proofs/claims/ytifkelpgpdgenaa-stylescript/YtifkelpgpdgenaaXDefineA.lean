/-
  What is proved here: what put of style answers, and what is there behind Define.
-/
import Derived.Test.YtifkelpgpdgenaaXPut
import Derived.Handy
namespace Go.Proofs.Ytifkelpgpdgenaa
open Go.RowKit Go.Shelf

variable {X : Nat → Prop}

theorem SheetAt.len {w : World} {t b n : Nat} {S : Sh} (h : SheetAt X w t b n S) (ty : TypeId) : (Builtin.len_ #[58] ty #[.map (some b)]).run Try.prog w = .ok (.int .i64 n) w := by
  obtain ⟨D, h1, h2, _⟩ := h.own
  have := h1.len Try.underlying58 ty
  rw [h2] at this
  exact this

def cntN (S : Sh) (name : Str) (n : Nat) : Nat := if (S name).isSome then n else n + 1

set_option maxRecDepth 100000 in
set_option maxHeartbeats 1000000 in
theorem put_any (t b n : Nat) (S : Sh) (name p : Str) (hname : name.size ≤ 16) (hp : p.size ≤ 16) (L : List (Int × Int)) (hLl : L.length ≤ 64) (a : Option Addr) (cap : Nat) (w : World) (h : SheetAt X w t b n S) (hL : SetsAt w (.slice a L.length cap) L) (hXL : XL X w) (hfull : S name = none → n < 32) :
    Calls Try.prog 38 #[.pointer (some ⟨t, 0, none⟩), .string name, .agg #[.string p, .slice a L.length cap]] w fun e w' => e = .returned (.tuple #[]) ∧ SheetAt X w' t b (cntN S name n) (upd S name (p, L)) ∧ Only b w w' := by
  have hB := (Below.refl w.heap.size w).alloc (Nat.le_refl _) (Obj.cells #[.string p, .slice a L.length cap] 82)
  have hne : w.heap.size ≠ b := fun e => by have := h.lt2; omega
  have hx := heap_new w (.cells #[.string p, .slice a L.length cap] 82)
  go_enter Try.func38, Try.ntmps38
  go_wp2_with fail
  refine put_region _ (fun _ _ _ _ _ h => h) _ _ t b n S name p hname hp L hLl a cap w.heap.size _ (h.below hB) (hL.below hB) (hXL.mono hB.size) hfull (by simp) hne (by rw [Lib.cell_of_heap hx]; rfl) (by rw [Lib.cell_of_heap hx]; rfl) ?_
  intro w' u17 u18 h1 h2
  unfold fr38
  go_wp2_with fail
  go_returns
  exact ⟨rfl, h1, (only_of_below hB).trans h2⟩

noncomputable def defE (S : Sh) (n : Nat) (name parent : Str) (L : List (Int × Int)) : Int := by
  classical exact if nameB name = false then 4 else if parent ≠ e0 ∧ S parent = none then 6 else if refuseL L ≠ 0 then refuseL L else if ansUp S parent name then 10 else if S name = none ∧ 32 ≤ n then 8 else 0

theorem refuseL_len {L : List (Int × Int)} (h : refuseL L = 0) : L.length ≤ 64 := by
  unfold refuseL at h
  split at h
  · cases h
  · omega

/-- What is there behind Define. -/
def defPost (X : Nat → Prop) (w : World) (t b n : Nat) (S : Sh) (name parent : Str) (L : List (Int × Int)) (e : Ending) (w' : World) : Prop :=
  e = .returned (.int .i64 (defE S n name parent L)) ∧ Only b w w' ∧ ∃ n' S', SheetAt X w' t b n' S' ∧ WF S' ∧ (defE S n name parent L ≠ 0 → S' = S ∧ n' = n) ∧ (defE S n name parent L = 0 → S' = upd S name (parent, L) ∧ n' = cntN S name n)

theorem defPost_no {w w' : World} {t b n : Nat} {S : Sh} {name parent : Str} {L : List (Int × Int)} {e : Int} (hWF : WF S) (hb : Below w.heap.size w w') (h : SheetAt X w' t b n S) (hd : defE S n name parent L = e) (he : e ≠ 0) :
    defPost X w t b n S name parent L (.returned (.int .i64 e)) w' :=
  ⟨by rw [hd], only_of_below hb, n, S, h, hWF, fun _ => ⟨rfl, rfl⟩, fun h0 => absurd (hd ▸ h0) he⟩

theorem up_upd {S : Sh} {name p0 : Str} {L0 : List (Int × Int)} {s u : Str} (h : Up S s u) (hn : ¬ Up S s name) : Up (upd S name (p0, L0)) s u := by
  induction h with
  | here s => exact .here s
  | step h1 h2 h3 ih =>
    refine .step (by rw [upd_other]; exact h1; rintro rfl; exact hn (.here _)) h2 (ih fun h => hn (.step h1 h2 h))

theorem wf_upd {S : Sh} (h : WF S) {name parent : Str} {L : List (Int × Int)} (hn : nameB name = true) (hp : parent = e0 ∨ (S parent).isSome = true) (hL : refuseL L = 0) (hu : ansUp S parent name = false) : WF (upd S name (parent, L)) := by
  classical
  have hnu : parent ≠ e0 → ¬ Up S parent name := fun hp0 hup => by
    have : ansUp S parent name = true := by simp only [ansUp, decide_eq_true_eq]; exact ⟨hp0, hup⟩
    rw [this] at hu; cases hu
  refine ⟨fun s x hs => ?_, fun s p L' hs => ?_, fun s p L' hs hp0 => ?_, ?_⟩
  · by_cases e : s = name
    · rw [e]; exact hn
    · rw [upd_other _ _ e] at hs; exact h.name s x hs
  · by_cases e : s = name
    · subst e; rw [upd_same] at hs; cases hs; exact hL
    · rw [upd_other _ _ e] at hs; exact h.fits s p L' hs
  · by_cases e2 : p = name
    · exact ⟨_, by rw [e2]; exact upd_same _ _ _⟩
    · rw [upd_other _ _ e2]
      by_cases e : s = name
      · subst e; rw [upd_same] at hs; cases hs
        rcases hp with hp | hp
        · exact absurd hp hp0
        · exact Option.isSome_iff_exists.1 hp
      · rw [upd_other _ _ e] at hs; exact h.up s p L' hs hp0
  · obtain ⟨r, hr⟩ := h.rank
    refine ⟨fun s => if Up S s name then r s + (r parent + 1) else r s, fun s p L' hs hp0 => ?_⟩
    by_cases e : s = name
    · subst e; rw [upd_same] at hs; cases hs
      show (if Up S parent s then _ else _) < (if Up S s s then _ else _)
      rw [if_pos (Up.here s), if_neg (hnu hp0)]; omega
    · rw [upd_other _ _ e] at hs
      have hlt := hr s p L' hs hp0
      show (if Up S p name then _ else _) < (if Up S s name then _ else _)
      by_cases hpn : Up S p name
      · rw [if_pos hpn, if_pos (Up.step hs hp0 hpn)]; omega
      · rw [if_neg hpn]
        split <;> omega

theorem defE_zero {S : Sh} {n : Nat} {name parent : Str} {L : List (Int × Int)} (h : defE S n name parent L = 0) : nameB name = true ∧ (parent = e0 ∨ (S parent).isSome = true) ∧ refuseL L = 0 ∧ ansUp S parent name = false := by
  classical
  unfold defE at h
  split at h
  · cases h
  · rename_i h1
    split at h
    · cases h
    · rename_i h2
      split at h
      · rename_i h3; exact absurd h h3
      · rename_i h3
        split at h
        · cases h
        · rename_i h4
          refine ⟨by simpa using h1, ?_, Classical.not_not.1 h3, by simpa using h4⟩
          by_cases hp : parent = e0
          · exact .inl hp
          · right
            cases hx : S parent with
            | none => exact absurd ⟨hp, hx⟩ h2
            | some x => rfl

theorem defPost_yes {w w3 w' : World} {t b n : Nat} {S : Sh} {name parent : Str} {L : List (Int × Int)} (hWF : WF S) (hb : Below w.heap.size w w3) (ho : Only b w3 w') (h : SheetAt X w' t b (cntN S name n) (upd S name (parent, L))) (hd : defE S n name parent L = 0) :
    defPost X w t b n S name parent L (.returned (.int .i64 0)) w' := by
  obtain ⟨h1, h2, h3, h4⟩ := defE_zero hd
  exact ⟨by rw [hd], (only_of_below hb).trans ho, _, _, h, wf_upd hWF h1 h2 h3 h4, fun h0 => absurd hd h0, fun _ => ⟨rfl, rfl⟩⟩
end Go.Proofs.Ytifkelpgpdgenaa
