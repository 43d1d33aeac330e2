/-
  What is proved here: what put of style answers, and what is there behind Define.
  What is proved here: what Define of style answers where a name is none, or a parent is missing.
  What is proved here: what Define of style answers of a style without a parent.
  What is proved here: what Define of style answers of a style with a parent.
  What is proved here: what Define of style answers.
-/
import Derived.Test.YtifkelpgpdgenaaXPut
import Derived.Handy
namespace Go.Proofs.Ytifkelpgpdgenaa
open Go.RowKit Go.Shelf

variable {X : Nat → Prop}

theorem SheetAt.len {w : World} {t b n : Nat} {S : Sh} (h : SheetAt X w t b n S) (ty : TypeId) : (Builtin.len_ #[58] ty #[.map (some b)]).run Try.prog w = .ok (.int .i64 n) w := by
  obtain ⟨D, h1, h2, _⟩ := h.own
  have := h1.len Try.underlying58 ty
  rw [h2] at this
  exact this

def cntN (S : Sh) (name : Str) (n : Nat) : Nat := if (S name).isSome then n else n + 1

set_option maxRecDepth 100000 in
set_option maxHeartbeats 1000000 in
theorem put_any (t b n : Nat) (S : Sh) (name p : Str) (hname : name.size ≤ 16) (hp : p.size ≤ 16) (L : List (Int × Int)) (hLl : L.length ≤ 64) (a : Option Addr) (cap : Nat) (w : World) (h : SheetAt X w t b n S) (hL : SetsAt w (.slice a L.length cap) L) (hXL : XL X w) (hfull : S name = none → n < 32) :
    Calls Try.prog 38 #[.pointer (some ⟨t, 0, none⟩), .string name, .agg #[.string p, .slice a L.length cap]] w fun e w' => e = .returned (.tuple #[]) ∧ SheetAt X w' t b (cntN S name n) (upd S name (p, L)) ∧ Only b w w' := by
  have hB := (Below.refl w.heap.size w).alloc (Nat.le_refl _) (Obj.cells #[.string p, .slice a L.length cap] 82)
  have hne : w.heap.size ≠ b := fun e => by have := h.lt2; omega
  have hx := heap_new w (.cells #[.string p, .slice a L.length cap] 82)
  go_enter Try.func38, Try.ntmps38
  go_wp2_with fail
  refine put_region _ (fun _ _ _ _ _ h => h) _ _ t b n S name p hname hp L hLl a cap w.heap.size _ (h.below hB) (hL.below hB) (hXL.mono hB.size) hfull (by simp) hne (by rw [Lib.cell_of_heap hx]; rfl) (by rw [Lib.cell_of_heap hx]; rfl) ?_
  intro w' u17 u18 h1 h2
  unfold fr38
  go_wp2_with fail
  go_returns
  exact ⟨rfl, h1, (only_of_below hB).trans h2⟩

noncomputable def defE (S : Sh) (n : Nat) (name parent : Str) (L : List (Int × Int)) : Int := by
  classical exact if nameB name = false then 4 else if parent ≠ e0 ∧ S parent = none then 6 else if refuseL L ≠ 0 then refuseL L else if ansUp S parent name then 10 else if S name = none ∧ 32 ≤ n then 8 else 0

theorem refuseL_len {L : List (Int × Int)} (h : refuseL L = 0) : L.length ≤ 64 := by
  unfold refuseL at h
  split at h
  · cases h
  · omega

/-- What is there behind Define. -/
def defPost (X : Nat → Prop) (w : World) (t b n : Nat) (S : Sh) (name parent : Str) (L : List (Int × Int)) (e : Ending) (w' : World) : Prop :=
  e = .returned (.int .i64 (defE S n name parent L)) ∧ Only b w w' ∧ ∃ n' S', SheetAt X w' t b n' S' ∧ WF S' ∧ (defE S n name parent L ≠ 0 → S' = S ∧ n' = n) ∧ (defE S n name parent L = 0 → S' = upd S name (parent, L) ∧ n' = cntN S name n)

theorem defPost_no {w w' : World} {t b n : Nat} {S : Sh} {name parent : Str} {L : List (Int × Int)} {e : Int} (hWF : WF S) (hb : Below w.heap.size w w') (h : SheetAt X w' t b n S) (hd : defE S n name parent L = e) (he : e ≠ 0) :
    defPost X w t b n S name parent L (.returned (.int .i64 e)) w' :=
  ⟨by rw [hd], only_of_below hb, n, S, h, hWF, fun _ => ⟨rfl, rfl⟩, fun h0 => absurd (hd ▸ h0) he⟩

theorem up_upd {S : Sh} {name p0 : Str} {L0 : List (Int × Int)} {s u : Str} (h : Up S s u) (hn : ¬ Up S s name) : Up (upd S name (p0, L0)) s u := by
  induction h with
  | here s => exact .here s
  | step h1 h2 h3 ih =>
    refine .step (by rw [upd_other]; exact h1; rintro rfl; exact hn (.here _)) h2 (ih fun h => hn (.step h1 h2 h))

theorem wf_upd {S : Sh} (h : WF S) {name parent : Str} {L : List (Int × Int)} (hn : nameB name = true) (hp : parent = e0 ∨ (S parent).isSome = true) (hL : refuseL L = 0) (hu : ansUp S parent name = false) : WF (upd S name (parent, L)) := by
  classical
  have hnu : parent ≠ e0 → ¬ Up S parent name := fun hp0 hup => by
    have : ansUp S parent name = true := by simp only [ansUp, decide_eq_true_eq]; exact ⟨hp0, hup⟩
    rw [this] at hu; cases hu
  refine ⟨fun s x hs => ?_, fun s p L' hs => ?_, fun s p L' hs hp0 => ?_, ?_⟩
  · by_cases e : s = name
    · rw [e]; exact hn
    · rw [upd_other _ _ e] at hs; exact h.name s x hs
  · by_cases e : s = name
    · subst e; rw [upd_same] at hs; cases hs; exact hL
    · rw [upd_other _ _ e] at hs; exact h.fits s p L' hs
  · by_cases e2 : p = name
    · exact ⟨_, by rw [e2]; exact upd_same _ _ _⟩
    · rw [upd_other _ _ e2]
      by_cases e : s = name
      · subst e; rw [upd_same] at hs; cases hs
        rcases hp with hp | hp
        · exact absurd hp hp0
        · exact Option.isSome_iff_exists.1 hp
      · rw [upd_other _ _ e] at hs; exact h.up s p L' hs hp0
  · obtain ⟨r, hr⟩ := h.rank
    refine ⟨fun s => if Up S s name then r s + (r parent + 1) else r s, fun s p L' hs hp0 => ?_⟩
    by_cases e : s = name
    · subst e; rw [upd_same] at hs; cases hs
      show (if Up S parent s then _ else _) < (if Up S s s then _ else _)
      rw [if_pos (Up.here s), if_neg (hnu hp0)]; omega
    · rw [upd_other _ _ e] at hs
      have hlt := hr s p L' hs hp0
      show (if Up S p name then _ else _) < (if Up S s name then _ else _)
      by_cases hpn : Up S p name
      · rw [if_pos hpn, if_pos (Up.step hs hp0 hpn)]; omega
      · rw [if_neg hpn]
        split <;> omega

theorem defE_zero {S : Sh} {n : Nat} {name parent : Str} {L : List (Int × Int)} (h : defE S n name parent L = 0) : nameB name = true ∧ (parent = e0 ∨ (S parent).isSome = true) ∧ refuseL L = 0 ∧ ansUp S parent name = false := by
  classical
  unfold defE at h
  split at h
  · cases h
  · rename_i h1
    split at h
    · cases h
    · rename_i h2
      split at h
      · rename_i h3; exact absurd h h3
      · rename_i h3
        split at h
        · cases h
        · rename_i h4
          refine ⟨by simpa using h1, ?_, Classical.not_not.1 h3, by simpa using h4⟩
          by_cases hp : parent = e0
          · exact .inl hp
          · right
            cases hx : S parent with
            | none => exact absurd ⟨hp, hx⟩ h2
            | some x => rfl

theorem defPost_yes {w w3 w' : World} {t b n : Nat} {S : Sh} {name parent : Str} {L : List (Int × Int)} (hWF : WF S) (hb : Below w.heap.size w w3) (ho : Only b w3 w') (h : SheetAt X w' t b (cntN S name n) (upd S name (parent, L))) (hd : defE S n name parent L = 0) :
    defPost X w t b n S name parent L (.returned (.int .i64 0)) w' := by
  obtain ⟨h1, h2, h3, h4⟩ := defE_zero hd
  exact ⟨by rw [hd], (only_of_below hb).trans ho, _, _, h, wf_upd hWF h1 h2 h3 h4, fun h0 => absurd hd h0, fun _ => ⟨rfl, rfl⟩⟩
end Go.Proofs.Ytifkelpgpdgenaa

namespace Go.Proofs.Ytifkelpgpdgenaa
open Go.RowKit Go.Shelf

variable {X : Nat → Prop}

set_option maxRecDepth 100000 in
set_option maxHeartbeats 4000000 in
theorem define_bad (t b n : Nat) (S : Sh) (hWF : WF S) (name parent : Str) (hn : nameB name = false) (v : Value) (L : List (Int × Int)) (w : World) (h : SheetAt X w t b n S) :
    Calls Try.prog 23 #[.pointer (some ⟨t, 0, none⟩), .string name, .string parent, v] w (defPost X w t b n S name parent L) := by
  have hd : defE S n name parent L = 4 := by unfold defE; rw [if_pos hn]
  have hmade := made_yes t w h.cells.1
  have hisn := isName_any name
  rw [hn] at hisn
  have hfin := defPost_no (e := 4) hWF (Below.refl _ w) h hd (by decide)
  go_enter Try.func23, Try.ntmps23
  go_wp2_with (first
    | (go_at_call 37; refine hmade.mono ?_; rintro e w' ⟨rfl, hww⟩; subst w')
    | (go_at_call 39; refine (hisn _).mono ?_; rintro e w' ⟨rfl, hww⟩; subst w'))
  go_ret
  exact hfin

set_option maxRecDepth 100000 in
set_option maxHeartbeats 4000000 in
theorem define_missing (t b n : Nat) (S : Sh) (hWF : WF S) (name parent : Str) (hn : nameB name = true) (hpe : parent ≠ e0) (hps : S parent = none) (hpl : parent.size ≤ maxLen) (v : Value) (L : List (Int × Int)) (w : World) (h : SheetAt X w t b n S) :
    Calls Try.prog 23 #[.pointer (some ⟨t, 0, none⟩), .string name, .string parent, v] w (defPost X w t b n S name parent L) := by
  have hd : defE S n name parent L = 6 := by unfold defE; rw [if_neg (by rw [hn]; decide), if_pos ⟨hpe, hps⟩]
  have hmade := made_yes t w h.cells.1
  have hisn := isName_any name
  rw [hn] at hisn
  have hE := isEmpty_no (size_pos hpe)
  have hh := has_any t b n S parent hpl w h
  rw [hps] at hh
  go_enter Try.func23, Try.ntmps23
  go_wp2_with (first
    | (go_at_call 37; refine hmade.mono ?_; rintro e w' ⟨rfl, hww⟩; subst w')
    | (go_at_call 39; refine (hisn _).mono ?_; rintro e w' ⟨rfl, hww⟩; subst w'))
  refine hh.mono ?_
  rintro e w1 ⟨rfl, b1⟩
  have hfin := defPost_no (e := 6) hWF b1 (h.below b1) hd (by decide)
  rw [show (none : Option Sty).isSome = false from rfl]
  go_wp2_with fail
  go_ret
  exact hfin
end Go.Proofs.Ytifkelpgpdgenaa

namespace Go.Proofs.Ytifkelpgpdgenaa
open Go.RowKit Go.Shelf

variable {X : Nat → Prop}

set_option maxRecDepth 100000 in
set_option maxHeartbeats 4000000 in
theorem define_top (t b n : Nat) (S : Sh) (hWF : WF S) (name parent : Str) (hn : nameB name = true) (hpe : parent = e0) (hpl : parent.size ≤ 16) (v : Value) (L : List (Int × Int)) (w : World) (h : SheetAt X w t b n S) (hL : SetsAt w v L) (hXL : XL X w) :
    Calls Try.prog 23 #[.pointer (some ⟨t, 0, none⟩), .string name, .string parent, v] w (defPost X w t b n S name parent L) := by
  have hnl := (nameB_pos hn).2
  have hmax : name.size ≤ maxLen := by unfold maxLen; omega
  have hmaxp : parent.size ≤ maxLen := by unfold maxLen; omega
  have hdef : defE S n name parent L = if refuseL L ≠ 0 then refuseL L else if ansUp S parent name then 10 else if S name = none ∧ 32 ≤ n then 8 else 0 := by
    unfold defE
    rw [if_neg (by rw [hn]; decide), if_neg (by rintro ⟨h, _⟩; exact h hpe)]
  have hmade := made_yes t w h.cells.1
  have hisn := isName_any name
  rw [hn] at hisn
  have hE : (ByteArray.toList parent).isEmpty = true := by rw [hpe, toList_data]; rfl
  obtain ⟨a, cap, rfl, _⟩ := hL.ex
  replace hdef : Hid _ := hdef
  clear hpe
  go_enter Try.func23, Try.ntmps23
  go_wp2_with (first
    | (go_at_call 37; refine hmade.mono ?_; rintro e w' ⟨rfl, hww⟩; subst w')
    | (go_at_call 39; refine (hisn _).mono ?_; rintro e w' ⟨rfl, hww⟩; subst w'))
  have h1 := h.below (Below.refl w.heap.size w)
  have hL1 := hL.below (Below.refl w.heap.size w)
  have D1 := (Below.refl w.heap.size w)
  refine (refuse_any _ L _ hL1).mono ?_
  rintro e w2 ⟨rfl, b2⟩
  have h2 := h1.below b2
  have hL2 := hL1.below b2
  have D2 := D1.trans (b2.mono D1.size)
  clear h1 hL1 b2
  by_cases hr : refuseL L ≠ 0
  · have hd : defE S n name parent L = refuseL L := by rw [hdef.out, if_pos hr]
    have hr' : (refuseL L == 0) = false := by simpa using hr
    have hr'' : (refuseL L != 0) = true := by simpa using hr
    have hfin := defPost_no hWF D2 h2 hd hr
    generalize refuseL L = rr at *
    go_wp2_with fail
    go_ret
    exact hfin
  · have hr0 : refuseL L = 0 := Classical.not_not.1 hr
    rw [hr0]
    rw [if_neg hr] at hdef
    go_wp2_with fail
    refine (rises_any t b n S hWF parent name hmaxp w2 h2).mono ?_
    rintro e w' ⟨rfl, hww⟩
    subst w'
    cases hu : ansUp S parent name
    · rw [hu] at hdef
      have hdef2 : Hid (defE S n name parent L = if S name = none ∧ 32 ≤ n then 8 else 0) := hdef.out
      clear hdef
      go_wp2_with fail
      refine (has_any t b n S name hmax w2 h2).mono ?_
      rintro e w3 ⟨rfl, b3⟩
      have h3 := h2.below b3
      have hL3 := hL2.below b3
      have D3 := D2.trans (b3.mono D2.size)
      clear h2 hL2 b3
      have hlen := h3.len
      obtain ⟨c0, c1⟩ := h3.cells
      have hput : Hid _ := put_any t b n S name parent hnl hpl L (refuseL_len hr0) a cap w3 h3 hL3 (hXL.mono D3.size)
      cases hx : S name with
      | none =>
        by_cases hfull : 32 ≤ n
        · have hd : defE S n name parent L = 8 := by rw [hdef2.out, if_pos ⟨hx, hfull⟩]
          have hfin := defPost_no (e := 8) hWF D3 h3 hd (by decide)
          have hfull' : (32 : Int) ≤ (n : Int) := by omega
          rw [show (none : Option Sty).isSome = false from rfl]
          go_wp2_with fail
          go_ret
          exact hfin
        · have hd : defE S n name parent L = 0 := by rw [hdef2.out, if_neg (fun h => hfull h.2)]
          have hfull' : ¬ (32 : Int) ≤ (n : Int) := by omega
          rw [show (none : Option Sty).isSome = false from rfl]
          go_wp2_with fail
          refine (hput.out (fun _ => by omega)).mono ?_
          rintro e w4 ⟨rfl, h4, o4⟩
          have hfin := defPost_yes hWF D3 o4 h4 hd
          go_wp2_with fail
          go_ret
          exact hfin
      | some x =>
        have hd : defE S n name parent L = 0 := by rw [hdef2.out, if_neg (fun h => by rw [hx] at h; cases h.1)]
        rw [show (some x : Option Sty).isSome = true from rfl]
        go_wp2_with fail
        refine (hput.out (fun h => by rw [hx] at h; cases h)).mono ?_
        rintro e w4 ⟨rfl, h4, o4⟩
        have hfin := defPost_yes hWF D3 o4 h4 hd
        go_wp2_with fail
        go_ret
        exact hfin
    · rw [hu] at hdef
      have hd : defE S n name parent L = 10 := hdef.out
      have hfin := defPost_no (e := 10) hWF D2 h2 hd (by decide)
      go_wp2_with fail
      go_ret
      exact hfin
end Go.Proofs.Ytifkelpgpdgenaa

namespace Go.Proofs.Ytifkelpgpdgenaa
open Go.RowKit Go.Shelf

variable {X : Nat → Prop}

set_option maxRecDepth 100000 in
set_option maxHeartbeats 4000000 in
theorem define_child (t b n : Nat) (S : Sh) (hWF : WF S) (name parent : Str) (hn : nameB name = true) (hpe : parent ≠ e0) (hps : (S parent).isSome = true) (hpl : parent.size ≤ 16) (v : Value) (L : List (Int × Int)) (w : World) (h : SheetAt X w t b n S) (hL : SetsAt w v L) (hXL : XL X w) :
    Calls Try.prog 23 #[.pointer (some ⟨t, 0, none⟩), .string name, .string parent, v] w (defPost X w t b n S name parent L) := by
  have hnl := (nameB_pos hn).2
  have hmax : name.size ≤ maxLen := by unfold maxLen; omega
  have hmaxp : parent.size ≤ maxLen := by unfold maxLen; omega
  have hdef : defE S n name parent L = if refuseL L ≠ 0 then refuseL L else if ansUp S parent name then 10 else if S name = none ∧ 32 ≤ n then 8 else 0 := by
    unfold defE
    rw [if_neg (by rw [hn]; decide), if_neg (by rintro ⟨_, h⟩; rw [h] at hps; cases hps)]
  have hmade := made_yes t w h.cells.1
  have hisn := isName_any name
  rw [hn] at hisn
  have hE : (ByteArray.toList parent).isEmpty = false := isEmpty_no (size_pos hpe)
  obtain ⟨a, cap, rfl, _⟩ := hL.ex
  replace hdef : Hid _ := hdef
  go_enter Try.func23, Try.ntmps23
  go_wp2_with (first
    | (go_at_call 37; refine hmade.mono ?_; rintro e w' ⟨rfl, hww⟩; subst w')
    | (go_at_call 39; refine (hisn _).mono ?_; rintro e w' ⟨rfl, hww⟩; subst w'))
  refine (has_any t b n S parent hmaxp w h).mono ?_
  rintro e x1 ⟨rfl, q1⟩
  rw [hps]
  have B2 := q1
  go_wp2_with fail
  have h1 := h.below B2
  have hL1 := hL.below B2
  have D1 := B2
  refine (refuse_any _ L _ hL1).mono ?_
  rintro e w2 ⟨rfl, b2⟩
  have h2 := h1.below b2
  have hL2 := hL1.below b2
  have D2 := D1.trans (b2.mono D1.size)
  clear h1 hL1 b2
  by_cases hr : refuseL L ≠ 0
  · have hd : defE S n name parent L = refuseL L := by rw [hdef.out, if_pos hr]
    have hr' : (refuseL L == 0) = false := by simpa using hr
    have hr'' : (refuseL L != 0) = true := by simpa using hr
    have hfin := defPost_no hWF D2 h2 hd hr
    generalize refuseL L = rr at *
    go_wp2_with fail
    go_ret
    exact hfin
  · have hr0 : refuseL L = 0 := Classical.not_not.1 hr
    rw [hr0]
    rw [if_neg hr] at hdef
    go_wp2_with fail
    refine (rises_any t b n S hWF parent name hmaxp w2 h2).mono ?_
    rintro e w' ⟨rfl, hww⟩
    subst w'
    cases hu : ansUp S parent name
    · rw [hu] at hdef
      have hdef2 : Hid (defE S n name parent L = if S name = none ∧ 32 ≤ n then 8 else 0) := hdef.out
      clear hdef
      go_wp2_with fail
      refine (has_any t b n S name hmax w2 h2).mono ?_
      rintro e w3 ⟨rfl, b3⟩
      have h3 := h2.below b3
      have hL3 := hL2.below b3
      have D3 := D2.trans (b3.mono D2.size)
      clear h2 hL2 b3
      have hlen := h3.len
      obtain ⟨c0, c1⟩ := h3.cells
      have hput : Hid _ := put_any t b n S name parent hnl hpl L (refuseL_len hr0) a cap w3 h3 hL3 (hXL.mono D3.size)
      cases hx : S name with
      | none =>
        by_cases hfull : 32 ≤ n
        · have hd : defE S n name parent L = 8 := by rw [hdef2.out, if_pos ⟨hx, hfull⟩]
          have hfin := defPost_no (e := 8) hWF D3 h3 hd (by decide)
          have hfull' : (32 : Int) ≤ (n : Int) := by omega
          rw [show (none : Option Sty).isSome = false from rfl]
          go_wp2_with fail
          go_ret
          exact hfin
        · have hd : defE S n name parent L = 0 := by rw [hdef2.out, if_neg (fun h => hfull h.2)]
          have hfull' : ¬ (32 : Int) ≤ (n : Int) := by omega
          rw [show (none : Option Sty).isSome = false from rfl]
          go_wp2_with fail
          refine (hput.out (fun _ => by omega)).mono ?_
          rintro e w4 ⟨rfl, h4, o4⟩
          have hfin := defPost_yes hWF D3 o4 h4 hd
          go_wp2_with fail
          go_ret
          exact hfin
      | some x =>
        have hd : defE S n name parent L = 0 := by rw [hdef2.out, if_neg (fun h => by rw [hx] at h; cases h.1)]
        rw [show (some x : Option Sty).isSome = true from rfl]
        go_wp2_with fail
        refine (hput.out (fun h => by rw [hx] at h; cases h)).mono ?_
        rintro e w4 ⟨rfl, h4, o4⟩
        have hfin := defPost_yes hWF D3 o4 h4 hd
        go_wp2_with fail
        go_ret
        exact hfin
    · rw [hu] at hdef
      have hd : defE S n name parent L = 10 := hdef.out
      have hfin := defPost_no (e := 10) hWF D2 h2 hd (by decide)
      go_wp2_with fail
      go_ret
      exact hfin
end Go.Proofs.Ytifkelpgpdgenaa

namespace Go.Proofs.Ytifkelpgpdgenaa
open Go.RowKit Go.Shelf

variable {X : Nat → Prop}

theorem define_any (t b n : Nat) (S : Sh) (hWF : WF S) (name parent : Str) (hpl : parent.size ≤ maxLen) (v : Value) (L : List (Int × Int)) (w : World) (h : SheetAt X w t b n S) (hL : SetsAt w v L) (hXL : XL X w) :
    Calls Try.prog 23 #[.pointer (some ⟨t, 0, none⟩), .string name, .string parent, v] w (defPost X w t b n S name parent L) := by
  cases hn : nameB name
  · exact define_bad t b n S hWF name parent hn v L w h
  · by_cases hpe : parent = e0
    · exact define_top t b n S hWF name parent hn hpe (by rw [hpe, e0_size]; omega) v L w h hL hXL
    · cases hps : S parent with
      | none => exact define_missing t b n S hWF name parent hn hpe hps hpl v L w h
      | some x => exact define_child t b n S hWF name parent hn hpe (by rw [hps]; rfl) (nameB_pos (hWF.name _ _ hps)).2 v L w h hL hXL
end Go.Proofs.Ytifkelpgpdgenaa
