/-
  What is proved here: what Parent of style answers; which names a sheet's map has; that no row of unlike names of a sheet is longer than there are.
  What is proved here: what Remove of style answers.
  What is proved here: what Clone of style answers (for StyleScript).
-/
import Derived.Test.YtifkelpgpdgenaaXResolve
import Derived.Sort.KeysCollected
import Derived.Maps.RangeWalk
namespace Go.Proofs.Ytifkelpgpdgenaa
open Go.RowKit Go.Shelf

variable {X : Nat → Prop}

theorem nodup_le {α : Type} [DecidableEq α] : ∀ (l m : List α), l.Nodup → (∀ x ∈ l, x ∈ m) → l.length ≤ m.length
  | [], _, _, _ => Nat.zero_le _
  | a :: l, m, hn, hs => by
    obtain ⟨h1, h2⟩ := List.nodup_cons.1 hn
    have ha := hs a (by simp)
    have := nodup_le l (m.erase a) h2 fun x hx => by
      refine (List.mem_erase_of_ne ?_).2 (hs x (by simp [hx]))
      intro e; subst e; exact h1 hx
    rw [List.length_erase_of_mem ha] at this
    have hp : 0 < m.length := List.length_pos_of_mem ha
    simp
    omega

set_option maxHeartbeats 1000000 in
theorem parent_some (t b n : Nat) (S : Sh) (s p : Str) (L : List (Int × Int)) (hs : s.size ≤ maxLen) (hx : S s = some (p, L)) (w : World) (h : SheetAt X w t b n S) :
    Calls Try.prog 29 #[.pointer (some ⟨t, 0, none⟩), .string s] w fun e w' => e = .returned (.tuple #[.string p, .int .i64 0]) ∧ Below w.heap.size w w' := by
  have hmade := made_yes t w h.cells.1
  have hfd := field82
  go_enter Try.func29, Try.ntmps29
  go_wp2_with (go_at_call 37; refine hmade.mono ?_; rintro e w' ⟨rfl, hww⟩; subst w')
  refine (has_any t b n S s hs w h).mono ?_
  rintro e w1 ⟨rfl, b1⟩
  rw [hx]
  have h1 := h.below b1
  obtain ⟨D, g1, _, g3⟩ := h1.own
  obtain ⟨a, cap, hl, _⟩ := look_false g1 hs (g3 s)
  rw [hx] at hl
  simp only [Option.map_some, Option.getD_some] at hl
  unfold styV at hl
  obtain ⟨c0, c1⟩ := h1.cells
  rw [show (some (p, L) : Option Sty).isSome = true from rfl]
  clear g1 g3
  go_wp2_with fail
  go_ret2
  exact ⟨rfl, b1⟩

/-- The names that a sheet's map has. -/
theorem keys_of {w : World} {t b n : Nat} {S : Sh} (h : SheetAt X w t b n S) : ∃ D : DataW Value, w.ownsMap Try.prog 9 R0 b n D ∧ Maps.size D = n ∧ (strKeys D).length = n ∧ (∀ x ∈ strKeys D, (S ⟨x.toArray⟩).isSome = true) ∧ ∀ u x, S u = some x → u.data.toList ∈ strKeys D := by
  obtain ⟨D, h1, h2, h3⟩ := h.own
  refine ⟨D, h1, h2, ?_, ?_, ?_⟩
  · obtain ⟨es, clock, _, _, _, rfl⟩ := h1
    rw [← h2]; simp [strKeys, Maps.size]
  · intro x hx
    have he := entry_has (h3 ⟨x.toArray⟩)
    rw [← he]
    obtain ⟨es, clock, _, F, _, rfl⟩ := h1
    simp only [strKeys, List.mem_map] at hx
    obtain ⟨p, hp, rfl⟩ := hx
    have hk := Maps.fit_keys F p ((WideShapes.sorted_perm _).mem_iff.1 hp)
    obtain ⟨v, hv⟩ := hk
    obtain ⟨s, _, hs, _⟩ := Go.WideMaps.string_of_keyOf Try.underlying9 hv
    rw [Maps.has_eq]
    refine List.any_eq_true.2 ⟨p, hp, ?_⟩
    rw [hs]
    have : keyL ⟨(Go.strOf (.string s.data.toList)).toArray⟩ = .string s.data.toList := by simp [keyL, Go.strOf]
    rw [this]
    exact WideAt.sameKey_self trivial
  · intro u x hx
    have he := entry_has (h3 u)
    rw [hx] at he
    obtain ⟨es, clock, _, F, _, rfl⟩ := h1
    rw [Maps.has_eq] at he
    obtain ⟨p, hp, hs⟩ := List.any_eq_true.1 he
    have := WideAt.sameKey_eq hs
    simp only [strKeys, List.mem_map]
    exact ⟨p, hp, by rw [this]; rfl⟩
end Go.Proofs.Ytifkelpgpdgenaa

namespace Go.Proofs.Ytifkelpgpdgenaa
open Go.RowKit Go.Shelf

variable {X : Nat → Prop}

/-- Some style has it as its parent. -/
def Used (S : Sh) (name : Str) : Prop := ∃ s L, S s = some (name, L)
noncomputable def del (S : Sh) (s : Str) : Sh := by classical exact fun u => if u = s then none else S u
theorem del_same (S : Sh) (s : Str) : del S s s = none := by classical simp [del]
theorem del_other (S : Sh) {s u : Str} (h : u ≠ s) : del S s u = S u := by classical simp [del, h]
theorem wf_del {S : Sh} (h : WF S) {name : Str} (hu : ¬ Used S name) : WF (del S name) := by
  have hd : ∀ s x, del S name s = some x → s ≠ name ∧ S s = some x := fun s x hs => by
    by_cases e : s = name
    · rw [e, del_same] at hs; cases hs
    · rw [del_other _ e] at hs; exact ⟨e, hs⟩
  refine ⟨fun s x hs => h.name s x (hd s x hs).2, fun s p L hs => h.fits s p L (hd _ _ hs).2, fun s p L hs hp => ?_, ?_⟩
  · obtain ⟨x, hx⟩ := h.up s p L (hd _ _ hs).2 hp
    refine ⟨x, ?_⟩
    rw [del_other]
    · exact hx
    · rintro rfl; exact hu ⟨s, L, (hd _ _ hs).2⟩
  · obtain ⟨r, hr⟩ := h.rank
    exact ⟨r, fun s p L hs hp => hr s p L (hd _ _ hs).2 hp⟩

/-- What Remove answers. -/
noncomputable def remE (S : Sh) (name : Str) : Int := by
  classical exact if S name = none then 6 else if Used S name then 9 else 0
def remPost (X : Nat → Prop) (w : World) (t b n : Nat) (S : Sh) (name : Str) (e : Ending) (w' : World) : Prop :=
  e = .returned (.int .i64 (remE S name)) ∧ Only b w w' ∧ ∃ n' S', SheetAt X w' t b n' S' ∧ WF S' ∧ (remE S name ≠ 0 → S' = S ∧ n' = n) ∧ (remE S name = 0 → S' = del S name ∧ n' + 1 = n)

theorem SheetAt.drop {w : World} {t b n : Nat} {S : Sh} (h : SheetAt X w t b n S) {name : Str} (hs : name.size ≤ maxLen) (hx : (S name).isSome = true) (ty : TypeId) :
    ∃ w', (Builtin.delete_ #[58, 9] ty #[.map (some b), .string name]).run Try.prog w = .ok (.tuple #[]) w' ∧ SheetAt X w' t b (n - 1) (del S name) ∧ Only b w w' ∧ 1 ≤ n := by
  obtain ⟨D, h1, h2, h3⟩ := h.own
  have hfew := h.few
  obtain ⟨es, clock, hm⟩ := h.isMap
  obtain ⟨w', hrun, ho, hg⟩ := h1.drop law9 Try.underlying58 (keyOf9 hs) ty
  have hg' : Only b w w' := hg.grown
  have ho' := ownsMap_size ho
  have hsz := Maps.size_del (k := keyL name) (h1.tidy law9)
  rw [entry_has (h3 name), hx, h2] at hsz
  simp only [if_true] at hsz
  have hsz' : Maps.size (D.del (keyL name)) = n - 1 := by omega
  rw [hsz'] at ho'
  refine ⟨w', hrun, ⟨(hg'.block t h.lt (by simp; exact h.ne)).trans h.obj, ⟨_, ho', hsz', fun s => ?_⟩, by omega⟩, hg', by omega⟩
  by_cases hsn : s = name
  · subst hsn
    rw [del_same]
    exact Maps.has_del_same
  · rw [del_other _ hsn]
    have he := (h3 s).mono fun v qs hq => hq.only hm hg'
    cases hy : S s with
    | none =>
      rw [hy] at he
      show Maps.has _ _ = false
      rw [Maps.has_del_other (keyL_ne hsn)]; exact he
    | some x =>
      rw [hy] at he
      obtain ⟨a', cap', e1, e2⟩ := he
      exact ⟨a', cap', fun z => by rw [Maps.atKey_del_other (keyL_ne hsn)]; exact e1 z, e2⟩

theorem wpList_del {ops : Array Oper} {rest : List Oper} {o : Oper} {a : Act} {Q : Exit → Act → World → Prop} (w : World) (hg : o.guard = none) (m x : Operand) (hop : o.op = .call { callee := .builtin .delete, args := #[m, x], argTypes := #[58, 9] }) {t b n : Nat} {S : Sh} {name : Str}
    (hm : a.eval m = .map (some b)) (hx : a.eval x = .string name) (h : SheetAt X w t b n S) (hs : name.size ≤ maxLen) (hsome : (S name).isSome = true)
    (hK : ∀ w', SheetAt X w' t b (n - 1) (del S name) → Only b w w' → 1 ≤ n → wpList Try.prog ops Q rest (a.put o.dst (.tuple #[])) w') : wpList Try.prog ops Q (o :: rest) a w := by
  refine wpList_plain hg fun K hK' => ?_
  obtain ⟨w', hr, h2, h3, h4⟩ := h.drop hs hsome o.type
  unfold Oper.wp execOp
  simp only [hop, resolve, invoke, builtin, Sem.run_bind, Sem.run_pure, Result.andThen_ok, List.map_toArray, List.map_cons, List.map_nil, hm, hx, hr]
  exact hK' _ _ (hK w' h2 h3 h4)

theorem remPost_no {w w' : World} {t b n : Nat} {S : Sh} {name : Str} {e : Int} (hWF : WF S) (hb : Below w.heap.size w w') (h : SheetAt X w' t b n S) (hd : remE S name = e) (he : e ≠ 0) : remPost X w t b n S name (.returned (.int .i64 e)) w' :=
  ⟨by rw [hd], only_of_below hb, n, S, h, hWF, fun _ => ⟨rfl, rfl⟩, fun h0 => absurd (hd ▸ h0) he⟩

theorem str_of_key (key : Value) (kl : Lit) (h : keyOf Try.prog 9 key = some kl) : ∃ x : Str, key = .string x := by
  obtain ⟨s, hs, _⟩ := Go.WideMaps.string_of_keyOf Try.underlying9 h
  exact ⟨s, hs⟩

/-- What an entry of the map is. -/
theorem entry_is {w : World} {D : DataW Value} {S : Sh} (h3 : ∀ s, Entry X w D s (S s)) {x : Str} {c : Value} {kl : Lit} {y : DataW Value × List MemPlace} (hk : keyOf Try.prog 9 (.string x) = some kl) (hy : R0 c = some y) (hat : ∀ zd, D.atKey kl zd = y.1) : ∃ p a L cap, S x = some (p, L) ∧ c = .agg #[.string p, .slice a L.length cap] := by
  obtain ⟨s, hs, hkl, _⟩ := Go.WideMaps.string_of_keyOf Try.underlying9 hk
  cases hs
  have hy' : y = (.held c, []) := by simpa [R0] using hy.symm
  subst hy'
  have he := h3 x
  cases hx : S x with
  | none =>
    rw [hx] at he
    have h1 := Maps.atKey_of_not_has (show Maps.has D (keyL x) = false from he) (.nil : DataW Value)
    have h2 := hat (.nil : DataW Value)
    rw [hkl] at h2
    rw [show keyL x = .string x.data.toList from rfl, h2] at h1
    cases h1
  | some z =>
    obtain ⟨p, L⟩ := z
    rw [hx] at he
    obtain ⟨a, cap, e1, _⟩ := he
    have h1 := e1 .nil
    have h2 := hat (.nil : DataW Value)
    rw [hkl] at h2
    rw [show keyL x = .string x.data.toList from rfl, h2] at h1
    cases h1
    exact ⟨p, a, L, cap, rfl, rfl⟩

set_option maxRecDepth 100000 in
set_option maxHeartbeats 2000000 in
theorem remove_missing (t b n : Nat) (S : Sh) (hWF : WF S) (name : Str) (hs : name.size ≤ maxLen) (hx : S name = none) (w : World) (h : SheetAt X w t b n S) :
    Calls Try.prog 25 #[.pointer (some ⟨t, 0, none⟩), .string name] w (remPost X w t b n S name) := by
  have hd : remE S name = 6 := by unfold remE; rw [if_pos hx]
  have hmade := made_yes t w h.cells.1
  have hh := has_any t b n S name hs w h
  rw [hx] at hh
  go_enter Try.func25, Try.ntmps25
  go_wp2_with (go_at_call 37; refine hmade.mono ?_; rintro e w' ⟨rfl, hww⟩; subst w')
  refine hh.mono ?_
  rintro e w1 ⟨rfl, b1⟩
  have hfin := remPost_no (e := 6) hWF b1 (h.below b1) hd (by decide)
  rw [show (none : Option Sty).isSome = false from rfl]
  go_wp2_with fail
  go_ret
  exact hfin

set_option maxRecDepth 100000 in
set_option maxHeartbeats 4000000 in
theorem remove_there (t b n : Nat) (S : Sh) (hWF : WF S) (name : Str) (hs : name.size ≤ maxLen) (hx : (S name).isSome = true) (w : World) (h : SheetAt X w t b n S) :
    Calls Try.prog 25 #[.pointer (some ⟨t, 0, none⟩), .string name] w (remPost X w t b n S name) := by
  have hmade := made_yes t w h.cells.1
  have hh := has_any t b n S name hs w h
  rw [hx] at hh
  go_enter Try.func25, Try.ntmps25
  go_wp2_with (go_at_call 37; refine hmade.mono ?_; rintro e w' ⟨rfl, hww⟩; subst w')
  refine hh.mono ?_
  rintro e w1 ⟨rfl, b1⟩
  have h1 := h.below b1
  obtain ⟨D, g1, g2, g3⟩ := h1.own
  obtain ⟨c0, c1⟩ := h1.cells
  have hlt := h1.lt
  have hlt2 := h1.lt2
  replace g3 : Hid _ := g3
  go_wp2_with (refine wpList_range_own _ rfl _ 58 rfl 9 82 law9 Try.underlying58 R0 b n D rfl g1 ?_; intro w2 hrg2 hg2 hs2)
  go_frame
  have B2 : Below w1.heap.size w1 w2 := ⟨hg2.os, hg2.tape, hg2.output, hg2.size, fun k hk => hg2.block k hk (by simp)⟩
  go_loopw [20] (fun _ wr => ∃ (left : Lit → Bool) (cnt : Nat), wr.ranges Try.prog 9 R0 b w1.heap.size n D left cnt ∧ Below w1.heap.size w1 wr ∧ Hid (∀ s p L, S s = some (p, L) → left (keyL s) = false → p ≠ name)) (fun _ wr => wr.rangeLeft b w1.heap.size)
  case atStart =>
    refine ⟨_, _, hrg2, B2, fun s p L hsx hl => ?_⟩
    have := entry_has (g3.out s)
    rw [hsx, hl] at this
    cases this
  case round =>
    obtain ⟨left, cnt, hrg, hbr, hno⟩ := hrel
    go_wp2_with (refine wpList_next_ranges _ rfl _ rfl 9 law9 R0 (fun x : Str => Value.string x) (fun c : Value => c) str_of_key (fun v _ _ => ⟨v, rfl⟩) b w1.heap.size n D left cnt rfl hrg ?_ ?_)
    · intro _ hl0
      have hnu : ¬ Used S name := fun ⟨s, L, hsx⟩ => hno.out s name L hsx (hl0 _) rfl
      have hd : remE S name = 0 := by unfold remE; rw [if_neg (by intro e; rw [e] at hx; cases hx), if_neg hnu]
      have hr := h1.below hbr
      have Bw := b1.trans (hbr.mono b1.size)
      obtain ⟨d0, d1⟩ := hr.cells
      clear hrg hno
      go_wp2_with (refine wpList_del _ rfl _ _ rfl rfl rfl hr hs hx ?_; intro w5 h5 o5 hn1)
      have hfin : remPost X w t b n S name (.returned (.int .i64 0)) w5 := ⟨by rw [hd], (only_of_below Bw).trans o5, _, _, h5, wf_del hWF hnu, fun h0 => absurd hd h0, fun _ => ⟨rfl, by omega⟩⟩
      try go_frame
      go_wp2_with fail
      go_ret
      exact hfin
    · intro x c kl y1 y2 w' cnt' hk hlk hy hat hrg' hlt' hgr hsz hen
      obtain ⟨p, a, L, cap, hxs, rfl⟩ := entry_is (y := (y1, y2)) g3.out hk hy hat
      have Br : Below w1.heap.size w1 w' := hbr.grown hgr hbr.size (fun j hj => by cases hj; exact Nat.le_refl _)
      have Ba := Br.alloc Br.size (Obj.cells #[.string p, .slice a L.length cap] 82)
      have hkl : kl = keyL x := by
        obtain ⟨s, hs', hkl, _⟩ := Go.WideMaps.string_of_keyOf Try.underlying9 hk
        cases hs'; exact hkl
      by_cases hp : p = name
      · have hd : remE S name = 9 := by
          unfold remE
          rw [if_neg (by intro e; rw [e] at hx; cases hx), if_pos ⟨x, L, by rw [hxs, hp]⟩]
        have hfin := remPost_no (e := 9) hWF (b1.trans (Ba.mono b1.size)) (h1.below Ba) hd (by decide)
        subst hp
        clear hno hrg hrg' hat
        try go_frame
        go_wp2_with fail
        go_ret
        exact hfin
      · have hq := strEq_no hp
        have hN : Hid (∀ s p L, S s = some (p, L) → (left (keyL s) && !(keyL s).sameKey kl) = false → p ≠ name) := fun s p' L' hsx hl => by
          cases hls : left (keyL s) with
          | false => exact hno.out s p' L' hsx hls
          | true =>
            rw [hls] at hl
            have : (keyL s).sameKey kl = true := by simpa using hl
            have e := WideAt.sameKey_eq this
            rw [hkl] at e
            by_cases hsx2 : s = x
            · subst hsx2; rw [hxs] at hsx; cases hsx; exact hp
            · exact absurd e (keyL_ne hsx2)
        have hrg3 := hrg'.alloc (Obj.cells #[.string p, .slice a L.length cap] 82)
        have hm : Hid ((w'.alloc (Obj.cells #[.string p, .slice a L.length cap] 82)).rangeLeft b w1.heap.size < wr.rangeLeft b w1.heap.size) := by rw [hrg3.left_eq, hrg.left_eq]; exact hlt'
        replace hrg3 : Hid _ := hrg3
        clear hno hrg hrg' hat hkl
        try go_frame
        go_wp2_with fail
        go_roundw
        case rel => exact ⟨fun z => left z && !z.sameKey kl, cnt', hrg3.out, Ba, hN⟩
        case measure => exact hm.out

theorem remove_any (t b n : Nat) (S : Sh) (hWF : WF S) (name : Str) (hs : name.size ≤ maxLen) (w : World) (h : SheetAt X w t b n S) :
    Calls Try.prog 25 #[.pointer (some ⟨t, 0, none⟩), .string name] w (remPost X w t b n S name) := by
  cases hx : S name with
  | none => exact remove_missing t b n S hWF name hs hx w h
  | some x => exact remove_there t b n S hWF name hs (by rw [hx]; rfl) w h
end Go.Proofs.Ytifkelpgpdgenaa

namespace Go.Proofs.Ytifkelpgpdgenaa
open Go.RowKit Go.Shelf

variable {X : Nat → Prop}

/-- A block that is none of cells. -/
def NoCells (w : World) (b : Nat) : Prop := ∀ cs T fr, w.heap[b]? ≠ some (.cells cs T fr)
theorem SetsAt.only2 {W W' : World} {b : Nat} {v : Value} {qs : List (Int × Int)} (h : SetsAt W v qs) (hm : NoCells W b) (ho : Only b W W') : SetsAt W' v qs := by
  obtain ⟨a, cap, rfl, h2⟩ := h.ex
  refine ⟨⟨a, cap, rfl, ?_⟩, h.few⟩
  rcases h2 with h2 | ⟨g, o, rfl, hlt, hc⟩
  · exact .inl h2
  · refine .inr ⟨g, o, rfl, Nat.lt_of_lt_of_le hlt ho.size, fun i hi => ?_⟩
    obtain ⟨c0, c1⟩ := hc i hi
    have hg : g ≠ b := fun e => by
      subst e
      unfold World.cell? at c0
      simp only at c0
      split at c0
      · rename_i h1; exact hm _ _ _ h1
      · cases c0
    have hw : ∀ j v, W.cell? ⟨g, j, none⟩ = some v → W'.cell? ⟨g, j, none⟩ = some v := fun j v hv => by
      rw [← hv]
      have := ho.block g hlt (by simp; exact hg)
      simp only [World.cell?, this]
    exact ⟨hw _ _ c0, hw _ _ c1⟩
theorem SheetAt.only2 {w w' : World} {t b n b' : Nat} {S : Sh} (h : SheetAt X w t b n S) (ho : Only b' w w') (hne : b ≠ b') (hm : NoCells w b') : SheetAt X w' t b n S := by
  obtain ⟨D, h1, h2, h3⟩ := h.own
  refine ⟨(ho.block t h.lt (by simp; intro e; subst e; exact hm _ _ _ h.obj)).trans h.obj, ⟨D, h1.kept ho (by simp; exact hne), h2, fun s => (h3 s).mono fun v qs hq => hq.only2 hm ho⟩, h.few⟩

theorem keys_nodup {w : World} {b n : Nat} {D : DataW Value} (h : w.ownsMap Try.prog 9 R0 b n D) : (strKeys D).Nodup := by
  obtain ⟨es, rfl, hp⟩ := h.tidy law9
  have hk : ∀ p ∈ es, ∃ x, p.1 = .string x := by
    obtain ⟨es', clock, _, F, _, e⟩ := h
    cases e
    intro p hp
    obtain ⟨v, hv⟩ := Maps.fit_keys F p ((WideShapes.sorted_perm _).mem_iff.1 hp)
    obtain ⟨s, _, hs, _⟩ := Go.WideMaps.string_of_keyOf Try.underlying9 hv
    exact ⟨_, hs⟩
  show (es.map fun p => Go.strOf p.1).Nodup
  unfold List.Nodup
  rw [List.pairwise_map]
  refine List.Pairwise.imp_of_mem ?_ hp
  intro p q hpm hqm hne e
  obtain ⟨x, hx⟩ := hk p hpm
  obtain ⟨y, hy⟩ := hk q hqm
  rw [hx, hy] at e hne
  simp [Go.strOf] at e
  exact hne (by rw [e])
theorem sheet_le {w w' : World} {t b n t' b' n' : Nat} {S : Sh} (h : SheetAt X w t b n S) (h' : SheetAt X w' t' b' n' S) : n ≤ n' := by
  obtain ⟨D, g1, _, g2, g3, _⟩ := keys_of h
  obtain ⟨D', _, _, k2, _, k3⟩ := keys_of h'
  rw [← g2, ← k2]
  refine nodup_le _ _ (keys_nodup g1) fun x hx => ?_
  obtain ⟨y, hy⟩ := Option.isSome_iff_exists.1 (g3 x hx)
  have := k3 _ y hy
  simpa using this

theorem ranges_nocells {w : World} {b r n cnt : Nat} {D : DataW Value} {left : Lit → Bool} (h : w.ranges Try.prog 9 R0 b r n D left cnt) : NoCells w r := by
  obtain ⟨es, clock, since, seen, c0, _, _, _, _, hr, _⟩ := h
  intro cs T fr e
  rw [e] at hr; cases hr

theorem entry_is2 {w : World} {D : DataW Value} {S : Sh} (h3 : ∀ s, Entry X w D s (S s)) {x : Str} {c : Value} {kl : Lit} {y : DataW Value × List MemPlace} (hk : keyOf Try.prog 9 (.string x) = some kl) (hy : R0 c = some y) (hat : ∀ zd, D.atKey kl zd = y.1) : ∃ p a L cap, S x = some (p, L) ∧ c = .agg #[.string p, .slice a L.length cap] ∧ SetsAt w (.slice a L.length cap) L := by
  obtain ⟨p, a, L, cap, hx, rfl⟩ := entry_is h3 hk hy hat
  have he := h3 x
  rw [hx] at he
  obtain ⟨a', cap', e1, e2⟩ := he
  obtain ⟨s, hs, hkl, _⟩ := Go.WideMaps.string_of_keyOf Try.underlying9 hk
  cases hs
  have hy' : y = (.held (.agg #[.string p, .slice a L.length cap]), []) := by simpa [R0] using hy.symm
  subst hy'
  have h1 := e1 .nil
  have h2 := hat (.nil : DataW Value)
  rw [hkl] at h2
  rw [show keyL x = .string x.data.toList from rfl, h2] at h1
  cases h1
  exact ⟨p, _, L, _, hx, rfl, e2.toSetsAt⟩

set_option maxRecDepth 100000 in
set_option maxHeartbeats 4000000 in
theorem clone_any (t b n : Nat) (S : Sh) (hWF : WF S) (w : World) (h : SheetAt X w t b n S) (hXL : XL X w) :
    Calls Try.prog 21 #[.pointer (some ⟨t, 0, none⟩)] w fun e w' => ∃ t2 b2, e = .returned (.pointer (some ⟨t2, 0, none⟩)) ∧ w.heap.size ≤ t2 ∧ w.heap.size ≤ b2 ∧ SheetAt X w' t2 b2 n S ∧ Below w.heap.size w w' := by
  have hmade := made_yes t w h.cells.1
  have hfew := h.few
  go_enter Try.func21, Try.ntmps21
  go_wp2_with (go_at_call 37; refine hmade.mono ?_; rintro e w' ⟨rfl, hww⟩; subst w')
  refine (new_any (X := X) w).mono ?_
  rintro e w1 ⟨t2, b2, rfl, ht2, hb2, hN1, B1⟩
  have h1 := h.below B1
  obtain ⟨D, g0, g2, g3⟩ := h.own
  have g1 : w1.ownsMap Try.prog 9 R0 b n D := g0.kept (row := none) ⟨B1.1, B1.2, B1.3, B1.4, fun k hk _ => B1.5 k hk⟩ (by simp)
  obtain ⟨c0, c1⟩ := h1.cells
  have hbb : b < w.heap.size := h.lt2
  have hb2l := hN1.lt2
  replace g3 : Hid _ := g3
  go_wp2_with (refine wpList_range_own _ rfl _ 58 rfl 9 82 law9 Try.underlying58 R0 b n D rfl g1 ?_; intro w2 hrg2 hg2 hs2)
  go_frame
  have B2 : Below w1.heap.size w1 w2 := ⟨hg2.os, hg2.tape, hg2.output, hg2.size, fun k hk => hg2.block k hk (by simp)⟩
  go_loopw [16] (fun _ wr => ∃ (left : Lit → Bool) (cnt n2 : Nat) (S2 : Sh), wr.ranges Try.prog 9 R0 b w1.heap.size n D left cnt ∧ Below w.heap.size w wr ∧ w1.heap.size < wr.heap.size ∧ Hid (SheetAt X wr t2 b2 n2 S2 ∧ (∀ s, S2 s = if left (keyL s) then none else S s) ∧ n2 + cnt ≤ n)) (fun _ wr => wr.rangeLeft b w1.heap.size)
  case atStart =>
    refine ⟨_, _, 0, _, hrg2, B1.trans (B2.mono B1.size), by omega, hN1.below B2, fun s => ?_, by rw [g2]; omega⟩
    have := entry_has (g3.out s)
    rw [this]
    cases S s <;> rfl
  case round =>
    obtain ⟨left, cnt, n2, S2, hrg, hbr, hrl, hH⟩ := hrel
    obtain ⟨hN, hS2, hcn⟩ := hH.out
    replace hS2 : Hid _ := hS2
    clear hH
    go_wp2_with (refine wpList_next_ranges _ rfl _ rfl 9 law9 R0 (fun x : Str => Value.string x) (fun c : Value => c) str_of_key (fun v _ _ => ⟨v, rfl⟩) b w1.heap.size n D left cnt rfl hrg ?_ ?_)
    · intro _ hl0
      have hSS : S2 = S := funext fun s => by rw [hS2.out s, hl0]; rfl
      rw [hSS] at hN
      have hnn : n2 = n := Nat.le_antisymm (sheet_le hN h1) (sheet_le h1 hN)
      rw [hnn] at hN
      clear hrg hS2
      go_wp2_with fail
      go_ret
      exact ⟨t2, b2, rfl, ht2, hb2, hN, hbr⟩
    · intro x c kl y1 y2 w' cnt' hk hlk hy hat hrg' hlt' hgr hsz hen
      obtain ⟨p, a, L, cap, hxs, rfl, hset⟩ := entry_is2 (y := (y1, y2)) g3.out hk hy hat
      have hkl : kl = keyL x := by
        obtain ⟨s, hs', hkl, _⟩ := Go.WideMaps.string_of_keyOf Try.underlying9 hk
        cases hs'; exact hkl
      have hx16 := (nameB_pos (hWF.name _ _ hxs)).2
      have hp16 := hWF.psize hxs
      have hL64 := refuseL_len (hWF.fits _ _ _ hxs)
      have hr1 : w.heap.size ≤ w1.heap.size := B1.size
      have Br : Below w.heap.size w w' := hbr.grown hgr hbr.size (fun j hj => by cases hj; exact hr1)
      have hN' := hN.only2 (b' := w1.heap.size) hgr (by omega) (ranges_nocells hrg)
      have hA := (Below.refl w'.heap.size w').alloc (Nat.le_refl _) (Obj.cells #[.string p, .slice a L.length cap] 82)
      have Ba := Br.trans (hA.mono Br.size)
      have hnone : S2 x = none := by rw [hS2.out x, ← hkl, hlk]; rfl
      have hput := put_any t2 b2 n2 S2 x p hx16 hp16 L hL64 a cap _ (hN'.below hA) (hset.below Ba) (hXL.mono Ba.size) (fun _ => by omega)
      have hrg3 := hrg'.alloc (Obj.cells #[.string p, .slice a L.length cap] 82)
      have hNew : Hid (∀ s, upd S2 x (p, L) s = if (left (keyL s) && !(keyL s).sameKey kl) then none else S s) := fun s => by
        by_cases hsx : s = x
        · subst hsx
          rw [upd_same, hkl, WideAt.sameKey_self (keyL_lit _), hxs]; simp
        · rw [upd_other _ _ hsx, hS2.out s, hkl, Maps.sameKey_ne (keyL_ne hsx)]; simp
      have hcnt : cntN S2 x n2 = n2 + 1 := by unfold cntN; rw [hnone]; rfl
      rw [hcnt] at hput
      replace hput : Hid (Calls Try.prog 38 _ _ _) := hput
      replace hrg3 : Hid _ := hrg3
      have hw1' : w1.heap.size < w'.heap.size := by omega
      have hlo : wr.rangeLeft b w1.heap.size = cnt := hrg.left_eq
      replace hlo : Hid _ := hlo
      clear hrg hrg' hat hS2 hN hN' hset hkl hnone hcnt
      try go_frame
      go_wp2_with fail
      refine hput.out.mono ?_
      rintro e w4 ⟨rfl, h4, o4⟩
      have Bw4 := Only.below Ba hb2 (Nat.le_refl _) o4
      have hrg4 : w4.ranges Try.prog 9 R0 b w1.heap.size n D (fun z => left z && !z.sameKey kl) cnt' := World.ranges.kept hrg3.out o4 (by simp; omega) (by simp; omega)
      have hm : Hid (w4.rangeLeft b w1.heap.size < wr.rangeLeft b w1.heap.size) := by rw [hrg4.left_eq, hlo.out]; exact hlt'
      have hsz4 : w1.heap.size < w4.heap.size := by have := o4.size; simp at this; omega
      have hfin : Hid (SheetAt X w4 t2 b2 (n2 + 1) (upd S2 x (p, L)) ∧ (∀ s, upd S2 x (p, L) s = if (left (keyL s) && !(keyL s).sameKey kl) then none else S s) ∧ n2 + 1 + cnt' ≤ n) := ⟨h4, hNew.out, by omega⟩
      replace hrg4 : Hid _ := hrg4
      clear h4 o4 hrg3 hput
      go_wp2_with fail
      go_roundw
      case rel => exact ⟨fun z => left z && !z.sameKey kl, cnt', n2 + 1, upd S2 x (p, L), hrg4.out, Bw4, hsz4, hfin⟩
      case measure => exact hm.out
end Go.Proofs.Ytifkelpgpdgenaa
