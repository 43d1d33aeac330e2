/-
  What is proved here: what Remove of style answers.
-/
import Derived.Test.YtifkelpgpdgenaaXLoopMath
import Derived.Maps.RangeWalk
namespace Go.Proofs.Ytifkelpgpdgenaa
open Go.RowKit Go.Shelf

variable {X : Nat → Prop}

/-- Some style has it as its parent. -/
def Used (S : Sh) (name : Str) : Prop := ∃ s L, S s = some (name, L)
noncomputable def del (S : Sh) (s : Str) : Sh := by classical exact fun u => if u = s then none else S u
theorem del_same (S : Sh) (s : Str) : del S s s = none := by classical simp [del]
theorem del_other (S : Sh) {s u : Str} (h : u ≠ s) : del S s u = S u := by classical simp [del, h]
theorem wf_del {S : Sh} (h : WF S) {name : Str} (hu : ¬ Used S name) : WF (del S name) := by
  have hd : ∀ s x, del S name s = some x → s ≠ name ∧ S s = some x := fun s x hs => by
    by_cases e : s = name
    · rw [e, del_same] at hs; cases hs
    · rw [del_other _ e] at hs; exact ⟨e, hs⟩
  refine ⟨fun s x hs => h.name s x (hd s x hs).2, fun s p L hs => h.fits s p L (hd _ _ hs).2, fun s p L hs hp => ?_, ?_⟩
  · obtain ⟨x, hx⟩ := h.up s p L (hd _ _ hs).2 hp
    refine ⟨x, ?_⟩
    rw [del_other]
    · exact hx
    · rintro rfl; exact hu ⟨s, L, (hd _ _ hs).2⟩
  · obtain ⟨r, hr⟩ := h.rank
    exact ⟨r, fun s p L hs hp => hr s p L (hd _ _ hs).2 hp⟩

/-- What Remove answers. -/
noncomputable def remE (S : Sh) (name : Str) : Int := by
  classical exact if S name = none then 6 else if Used S name then 9 else 0
def remPost (X : Nat → Prop) (w : World) (t b n : Nat) (S : Sh) (name : Str) (e : Ending) (w' : World) : Prop :=
  e = .returned (.int .i64 (remE S name)) ∧ Only b w w' ∧ ∃ n' S', SheetAt X w' t b n' S' ∧ WF S' ∧ (remE S name ≠ 0 → S' = S ∧ n' = n) ∧ (remE S name = 0 → S' = del S name ∧ n' + 1 = n)

theorem SheetAt.drop {w : World} {t b n : Nat} {S : Sh} (h : SheetAt X w t b n S) {name : Str} (hs : name.size ≤ maxLen) (hx : (S name).isSome = true) (ty : TypeId) :
    ∃ w', (Builtin.delete_ #[58, 9] ty #[.map (some b), .string name]).run Try.prog w = .ok (.tuple #[]) w' ∧ SheetAt X w' t b (n - 1) (del S name) ∧ Only b w w' ∧ 1 ≤ n := by
  obtain ⟨D, h1, h2, h3⟩ := h.own
  have hfew := h.few
  obtain ⟨es, clock, hm⟩ := h.isMap
  obtain ⟨w', hrun, ho, hg⟩ := h1.drop law9 Try.underlying58 (keyOf9 hs) ty
  have hg' : Only b w w' := hg.grown
  have ho' := ownsMap_size ho
  have hsz := Maps.size_del (k := keyL name) (h1.tidy law9)
  rw [entry_has (h3 name), hx, h2] at hsz
  simp only [if_true] at hsz
  have hsz' : Maps.size (D.del (keyL name)) = n - 1 := by omega
  rw [hsz'] at ho'
  refine ⟨w', hrun, ⟨(hg'.block t h.lt (by simp; exact h.ne)).trans h.obj, ⟨_, ho', hsz', fun s => ?_⟩, by omega⟩, hg', by omega⟩
  by_cases hsn : s = name
  · subst hsn
    rw [del_same]
    exact Maps.has_del_same
  · rw [del_other _ hsn]
    have he := (h3 s).mono fun v qs hq => hq.only hm hg'
    cases hy : S s with
    | none =>
      rw [hy] at he
      show Maps.has _ _ = false
      rw [Maps.has_del_other (keyL_ne hsn)]; exact he
    | some x =>
      rw [hy] at he
      obtain ⟨a', cap', e1, e2⟩ := he
      exact ⟨a', cap', fun z => by rw [Maps.atKey_del_other (keyL_ne hsn)]; exact e1 z, e2⟩

theorem wpList_del {ops : Array Oper} {rest : List Oper} {o : Oper} {a : Act} {Q : Exit → Act → World → Prop} (w : World) (hg : o.guard = none) (m x : Operand) (hop : o.op = .call { callee := .builtin .delete, args := #[m, x], argTypes := #[58, 9] }) {t b n : Nat} {S : Sh} {name : Str}
    (hm : a.eval m = .map (some b)) (hx : a.eval x = .string name) (h : SheetAt X w t b n S) (hs : name.size ≤ maxLen) (hsome : (S name).isSome = true)
    (hK : ∀ w', SheetAt X w' t b (n - 1) (del S name) → Only b w w' → 1 ≤ n → wpList Try.prog ops Q rest (a.put o.dst (.tuple #[])) w') : wpList Try.prog ops Q (o :: rest) a w := by
  refine wpList_plain hg fun K hK' => ?_
  obtain ⟨w', hr, h2, h3, h4⟩ := h.drop hs hsome o.type
  unfold Oper.wp execOp
  simp only [hop, resolve, invoke, builtin, Sem.run_bind, Sem.run_pure, Result.andThen_ok, List.map_toArray, List.map_cons, List.map_nil, hm, hx, hr]
  exact hK' _ _ (hK w' h2 h3 h4)

theorem remPost_no {w w' : World} {t b n : Nat} {S : Sh} {name : Str} {e : Int} (hWF : WF S) (hb : Below w.heap.size w w') (h : SheetAt X w' t b n S) (hd : remE S name = e) (he : e ≠ 0) : remPost X w t b n S name (.returned (.int .i64 e)) w' :=
  ⟨by rw [hd], only_of_below hb, n, S, h, hWF, fun _ => ⟨rfl, rfl⟩, fun h0 => absurd (hd ▸ h0) he⟩

theorem str_of_key (key : Value) (kl : Lit) (h : keyOf Try.prog 9 key = some kl) : ∃ x : Str, key = .string x := by
  obtain ⟨s, hs, _⟩ := Go.WideMaps.string_of_keyOf Try.underlying9 h
  exact ⟨s, hs⟩

/-- What an entry of the map is. -/
theorem entry_is {w : World} {D : DataW Value} {S : Sh} (h3 : ∀ s, Entry X w D s (S s)) {x : Str} {c : Value} {kl : Lit} {y : DataW Value × List MemPlace} (hk : keyOf Try.prog 9 (.string x) = some kl) (hy : R0 c = some y) (hat : ∀ zd, D.atKey kl zd = y.1) : ∃ p a L cap, S x = some (p, L) ∧ c = .agg #[.string p, .slice a L.length cap] := by
  obtain ⟨s, hs, hkl, _⟩ := Go.WideMaps.string_of_keyOf Try.underlying9 hk
  cases hs
  have hy' : y = (.held c, []) := by simpa [R0] using hy.symm
  subst hy'
  have he := h3 x
  cases hx : S x with
  | none =>
    rw [hx] at he
    have h1 := Maps.atKey_of_not_has (show Maps.has D (keyL x) = false from he) (.nil : DataW Value)
    have h2 := hat (.nil : DataW Value)
    rw [hkl] at h2
    rw [show keyL x = .string x.data.toList from rfl, h2] at h1
    cases h1
  | some z =>
    obtain ⟨p, L⟩ := z
    rw [hx] at he
    obtain ⟨a, cap, e1, _⟩ := he
    have h1 := e1 .nil
    have h2 := hat (.nil : DataW Value)
    rw [hkl] at h2
    rw [show keyL x = .string x.data.toList from rfl, h2] at h1
    cases h1
    exact ⟨p, a, L, cap, rfl, rfl⟩

set_option maxRecDepth 100000 in
set_option maxHeartbeats 2000000 in
theorem remove_missing (t b n : Nat) (S : Sh) (hWF : WF S) (name : Str) (hs : name.size ≤ maxLen) (hx : S name = none) (w : World) (h : SheetAt X w t b n S) :
    Calls Try.prog 25 #[.pointer (some ⟨t, 0, none⟩), .string name] w (remPost X w t b n S name) := by
  have hd : remE S name = 6 := by unfold remE; rw [if_pos hx]
  have hmade := made_yes t w h.cells.1
  have hh := has_any t b n S name hs w h
  rw [hx] at hh
  go_enter Try.func25, Try.ntmps25
  go_wp2_with (go_at_call 37; refine hmade.mono ?_; rintro e w' ⟨rfl, hww⟩; subst w')
  refine hh.mono ?_
  rintro e w1 ⟨rfl, b1⟩
  have hfin := remPost_no (e := 6) hWF b1 (h.below b1) hd (by decide)
  rw [show (none : Option Sty).isSome = false from rfl]
  go_wp2_with fail
  go_ret
  exact hfin

set_option maxRecDepth 100000 in
set_option maxHeartbeats 4000000 in
theorem remove_there (t b n : Nat) (S : Sh) (hWF : WF S) (name : Str) (hs : name.size ≤ maxLen) (hx : (S name).isSome = true) (w : World) (h : SheetAt X w t b n S) :
    Calls Try.prog 25 #[.pointer (some ⟨t, 0, none⟩), .string name] w (remPost X w t b n S name) := by
  have hmade := made_yes t w h.cells.1
  have hh := has_any t b n S name hs w h
  rw [hx] at hh
  go_enter Try.func25, Try.ntmps25
  go_wp2_with (go_at_call 37; refine hmade.mono ?_; rintro e w' ⟨rfl, hww⟩; subst w')
  refine hh.mono ?_
  rintro e w1 ⟨rfl, b1⟩
  have h1 := h.below b1
  obtain ⟨D, g1, g2, g3⟩ := h1.own
  obtain ⟨c0, c1⟩ := h1.cells
  have hlt := h1.lt
  have hlt2 := h1.lt2
  replace g3 : Hid _ := g3
  go_wp2_with (refine wpList_range_own _ rfl _ 58 rfl 9 82 law9 Try.underlying58 R0 b n D rfl g1 ?_; intro w2 hrg2 hg2 hs2)
  go_frame
  have B2 : Below w1.heap.size w1 w2 := ⟨hg2.os, hg2.tape, hg2.output, hg2.size, fun k hk => hg2.block k hk (by simp)⟩
  go_loopw [20] (fun _ wr => ∃ (left : Lit → Bool) (cnt : Nat), wr.ranges Try.prog 9 R0 b w1.heap.size n D left cnt ∧ Below w1.heap.size w1 wr ∧ Hid (∀ s p L, S s = some (p, L) → left (keyL s) = false → p ≠ name)) (fun _ wr => wr.rangeLeft b w1.heap.size)
  case atStart =>
    refine ⟨_, _, hrg2, B2, fun s p L hsx hl => ?_⟩
    have := entry_has (g3.out s)
    rw [hsx, hl] at this
    cases this
  case round =>
    obtain ⟨left, cnt, hrg, hbr, hno⟩ := hrel
    go_wp2_with (refine wpList_next_ranges _ rfl _ rfl 9 law9 R0 (fun x : Str => Value.string x) (fun c : Value => c) str_of_key (fun v _ _ => ⟨v, rfl⟩) b w1.heap.size n D left cnt rfl hrg ?_ ?_)
    · intro _ hl0
      have hnu : ¬ Used S name := fun ⟨s, L, hsx⟩ => hno.out s name L hsx (hl0 _) rfl
      have hd : remE S name = 0 := by unfold remE; rw [if_neg (by intro e; rw [e] at hx; cases hx), if_neg hnu]
      have hr := h1.below hbr
      have Bw := b1.trans (hbr.mono b1.size)
      obtain ⟨d0, d1⟩ := hr.cells
      clear hrg hno
      go_wp2_with (refine wpList_del _ rfl _ _ rfl rfl rfl hr hs hx ?_; intro w5 h5 o5 hn1)
      have hfin : remPost X w t b n S name (.returned (.int .i64 0)) w5 := ⟨by rw [hd], (only_of_below Bw).trans o5, _, _, h5, wf_del hWF hnu, fun h0 => absurd hd h0, fun _ => ⟨rfl, by omega⟩⟩
      try go_frame
      go_wp2_with fail
      go_ret
      exact hfin
    · intro x c kl y1 y2 w' cnt' hk hlk hy hat hrg' hlt' hgr hsz hen
      obtain ⟨p, a, L, cap, hxs, rfl⟩ := entry_is (y := (y1, y2)) g3.out hk hy hat
      have Br : Below w1.heap.size w1 w' := hbr.grown hgr hbr.size (fun j hj => by cases hj; exact Nat.le_refl _)
      have Ba := Br.alloc Br.size (Obj.cells #[.string p, .slice a L.length cap] 82)
      have hkl : kl = keyL x := by
        obtain ⟨s, hs', hkl, _⟩ := Go.WideMaps.string_of_keyOf Try.underlying9 hk
        cases hs'; exact hkl
      by_cases hp : p = name
      · have hd : remE S name = 9 := by
          unfold remE
          rw [if_neg (by intro e; rw [e] at hx; cases hx), if_pos ⟨x, L, by rw [hxs, hp]⟩]
        have hfin := remPost_no (e := 9) hWF (b1.trans (Ba.mono b1.size)) (h1.below Ba) hd (by decide)
        subst hp
        clear hno hrg hrg' hat
        try go_frame
        go_wp2_with fail
        go_ret
        exact hfin
      · have hq := strEq_no hp
        have hN : Hid (∀ s p L, S s = some (p, L) → (left (keyL s) && !(keyL s).sameKey kl) = false → p ≠ name) := fun s p' L' hsx hl => by
          cases hls : left (keyL s) with
          | false => exact hno.out s p' L' hsx hls
          | true =>
            rw [hls] at hl
            have : (keyL s).sameKey kl = true := by simpa using hl
            have e := WideAt.sameKey_eq this
            rw [hkl] at e
            by_cases hsx2 : s = x
            · subst hsx2; rw [hxs] at hsx; cases hsx; exact hp
            · exact absurd e (keyL_ne hsx2)
        have hrg3 := hrg'.alloc (Obj.cells #[.string p, .slice a L.length cap] 82)
        have hm : Hid ((w'.alloc (Obj.cells #[.string p, .slice a L.length cap] 82)).rangeLeft b w1.heap.size < wr.rangeLeft b w1.heap.size) := by rw [hrg3.left_eq, hrg.left_eq]; exact hlt'
        replace hrg3 : Hid _ := hrg3
        clear hno hrg hrg' hat hkl
        try go_frame
        go_wp2_with fail
        go_roundw
        case rel => exact ⟨fun z => left z && !z.sameKey kl, cnt', hrg3.out, Ba, hN⟩
        case measure => exact hm.out

theorem remove_any (t b n : Nat) (S : Sh) (hWF : WF S) (name : Str) (hs : name.size ≤ maxLen) (w : World) (h : SheetAt X w t b n S) :
    Calls Try.prog 25 #[.pointer (some ⟨t, 0, none⟩), .string name] w (remPost X w t b n S name) := by
  cases hx : S name with
  | none => exact remove_missing t b n S hWF name hs hx w h
  | some x => exact remove_there t b n S hWF name hs (by rw [hx]; rfl) w h
end Go.Proofs.Ytifkelpgpdgenaa
