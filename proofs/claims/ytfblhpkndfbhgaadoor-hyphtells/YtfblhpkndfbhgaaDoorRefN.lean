/-
  What is proved here: what the document's New answers.
-/
import Derived.Test.YtfblhpkndfbhgaaDoorRefNM
import Derived.Test.YtfblhpkndfbhgaaDoorRefP
import Derived.Test.YtfblhpkndfbhgaaDoorTakeA
namespace Go.Proofs.YtfblhpkndfbhgaaDoor
open Go.RowKit Go.Shelf

/-- The document's own patterns and exceptions, in memory of their own. -/
def RH (W : World) (base m : Nat) (ps xs : List ByteArray) : Prop := base ≤ m ∧ ∃ va vx, W.cell? ⟨m, 0, none⟩ = some va ∧ W.cell? ⟨m, 1, none⟩ = some vx ∧ W.ownsRow base 9 1 va ps.length (strs ps) ∧ W.ownsRow base 9 1 vx xs.length (strs xs)
theorem RH.turns {W W' : World} {base m : Nat} {ps xs : List ByteArray} (h : RH W base m ps xs) {X : Nat → Prop} (ht : Turns X W W') (hX : ∀ k, X k → k < base) : RH W' base m ps xs := by
  obtain ⟨hm, va, vx, h1, h2, h3, h4⟩ := h
  have hc : ∀ o v, W.cell? ⟨m, o, none⟩ = some v → W'.cell? ⟨m, o, none⟩ = some v := fun o v hv => by
    rw [← hv]
    exact World.cell?_of_block (ht.block m (cell_lt hv) (fun hx => by have := hX _ hx; omega))
  exact ⟨hm, va, vx, hc _ _ h1, hc _ _ h2, ownsRow_turns h3 ht (fun g hg hx => by have := (h3.lt g hg).1; have := hX _ hx; omega), ownsRow_turns h4 ht (fun g hg hx => by have := (h4.lt g hg).1; have := hX _ hx; omega)⟩
theorem RH.below {W W' : World} {base m : Nat} {ps xs : List ByteArray} (h : RH W base m ps xs) (hb : Below W.heap.size W W') : RH W' base m ps xs := h.turns (Turns.of_below hb) (fun _ h => h.elim)
theorem RH.tx {W : World} {base m : Nat} {ps xs : List ByteArray} (h : RH W base m ps xs) : ∃ va vx, W.cell? ⟨m, 0, none⟩ = some va ∧ W.cell? ⟨m, 1, none⟩ = some vx ∧ TxAt W va ps ∧ TxAt W vx xs := by
  obtain ⟨_, va, vx, h1, h2, h3, h4⟩ := h
  exact ⟨va, vx, h1, h2, tx_of_row h3, tx_of_row h4⟩
def RNew (w : World) (ps xs : List ByteArray) (e : Ending) (w' : World) : Prop := Below w.heap.size w w' ∧
  ((newI (ps.map bs) (xs.map bs) ≠ 0 ∧ e = .returned (.tuple #[.pointer none, .int .i64 (newI (ps.map bs) (xs.map bs))])) ∨
    (newI (ps.map bs) (xs.map bs) = 0 ∧ ((ps.map bs).all patB = true ∧ (xs.map bs).all excB = true ∧ freshB [] (xs.map bs) = true) ∧ ∃ m, e = .returned (.tuple #[.pointer (some ⟨m, 0, none⟩), .int .i64 0]) ∧ RH w' w.heap.size m ps xs))
theorem newI_long {P X : List Bs} (h : 256 < P.length ∨ 64 < X.length) : newI P X = 3 := by unfold newI; rw [if_pos h]
theorem newI_bytes {P X : List Bs} (h : ¬ (256 < P.length ∨ 64 < X.length)) (h2 : P.all patB = false ∨ X.all excB = false) : newI P X = 4 := by
  unfold newI
  rw [if_neg h, if_neg]
  rcases h2 with h2 | h2 <;> rw [h2] <;> simp
theorem newI_rest {P X : List Bs} (h : ¬ (256 < P.length ∨ 64 < X.length)) (h1 : P.all patB = true) (h2 : X.all excB = true) : newI P X = if freshB [] X then 0 else 7 := by
  unfold newI
  rw [if_neg h, if_pos (by rw [h1, h2]; rfl)]
set_option maxRecDepth 100000 in
set_option maxHeartbeats 8000000 in
theorem rnew_any (v1 v2 : Value) (ps xs : List ByteArray) (w : World) (t1 : TxAt w v1 ps) (t2 : TxAt w v2 xs) (hp : ps.length ≤ 1000) (hx : xs.length ≤ 1000) (hxs : ∀ s ∈ xs, s.size ≤ 200) :
    Calls Tryd.prog 11 #[v1, v2] w fun e w' => RNew w ps xs e w' := by
  obtain ⟨i9, hi⟩ := Option.isSome_iff_exists.1 (show (Tryd.prog.info? 9).isSome = true by kernel_rfl)
  have hz0 : i9.zero = some (.string ⟨#[]⟩) := by
    have h : (Tryd.prog.info? 9).map (·.zero) = some (some (.string ⟨#[]⟩)) := by kernel_rfl
    rw [hi] at h; simpa using h
  have hz1 : i9.size = 1 := by
    have h : (Tryd.prog.info? 9).map (·.size) = some 1 := by kernel_rfl
    rw [hi] at h; simpa using h
  have hz2 : i9.bytes = 16 := by
    have h : (Tryd.prog.info? 9).map (·.bytes) = some 16 := by kernel_rfl
    rw [hi] at h; simpa using h
  have T1 : Hid (∀ W, Below w.heap.size w W → TxAt W v1 ps) := fun W hb => t1.below hb (Nat.le_refl _)
  have T2 : Hid (∀ W, Below w.heap.size w W → TxAt W v2 xs) := fun W hb => t2.below hb (Nat.le_refl _)
  obtain ⟨a1, c1, rfl, -⟩ := t1.ex
  obtain ⟨a2, c2, rfl, -⟩ := t2.ex
  clear t1 t2
  have hlm : (ps.map bs).length = ps.length := List.length_map ..
  have hlx : (xs.map bs).length = xs.length := List.length_map ..
  by_cases hl : 256 < ps.length ∨ 64 < xs.length
  · have hn : Hid (∀ w', Below w.heap.size w w' → RNew w ps xs (.returned (.tuple #[.pointer none, .int .i64 3])) w') := fun w' hb => by
      have e := newI_long (P := ps.map bs) (X := xs.map bs) (by rw [hlm, hlx]; exact hl)
      exact ⟨hb, .inl ⟨by rw [e]; decide, by rw [e]⟩⟩
    have h2 : ((256 : Int) < ps.length) ∨ (¬ (256 : Int) < ps.length ∧ (64 : Int) < xs.length) := by omega
    clear hl hlm hlx
    rcases h2 with g1 | ⟨g1, g2⟩
    · go_enter Tryd.func11, Tryd.ntmps11
      go_wp2_with fail
      go_ret2
      exact hn.out _ (Below.refl _ _)
    · go_enter Tryd.func11, Tryd.ntmps11
      go_wp2_with fail
      go_ret2
      exact hn.out _ (Below.refl _ _)
  · have g1 : ¬ (256 : Int) < ps.length := by omega
    have g2 : ¬ (64 : Int) < xs.length := by omega
    have hl' : ¬ (256 < (ps.map bs).length ∨ 64 < (xs.map bs).length) := by rw [hlm, hlx]; exact hl
    have hn4 : Hid (∀ w', Below w.heap.size w w' → ((ps.map bs).all patB = false ∨ (xs.map bs).all excB = false) → RNew w ps xs (.returned (.tuple #[.pointer none, .int .i64 4])) w') := fun w' hb h => by
      have e := newI_bytes hl' h
      exact ⟨hb, .inl ⟨by rw [e]; decide, by rw [e]⟩⟩
    have hn7 : Hid (∀ w', Below w.heap.size w w' → (ps.map bs).all patB = true → (xs.map bs).all excB = true → freshB [] (xs.map bs) = false → RNew w ps xs (.returned (.tuple #[.pointer none, .int .i64 7])) w') := fun w' hb h1 h2 h3 => by
      have e := newI_rest hl' h1 h2
      rw [h3] at e
      exact ⟨hb, .inl ⟨by rw [e]; decide, by rw [e]; rfl⟩⟩
    have hn0 : Hid (∀ w' m, Below w.heap.size w w' → (ps.map bs).all patB = true → (xs.map bs).all excB = true → freshB [] (xs.map bs) = true → RH w' w.heap.size m ps xs → RNew w ps xs (.returned (.tuple #[.pointer (some ⟨m, 0, none⟩), .int .i64 0])) w') := fun w' m hb h1 h2 h3 hR => by
      have e := newI_rest hl' h1 h2
      rw [h3] at e
      exact ⟨hb, .inr ⟨by rw [e]; rfl, ⟨h1, h2, h3⟩, m, rfl, hR⟩⟩
    have hpl : Hid (ps.length ≤ 256 ∧ xs.length ≤ 64) := ⟨by omega, by omega⟩
    have hxsh : Hid (∀ s ∈ xs, s.size ≤ 200) := hxs
    clear hl hl' hlm hlx hxs
    go_enter Tryd.func11, Tryd.ntmps11
    go_wp2_with fail
    go_loopw [6] (fun i wr => ∃ k : Nat, k ≤ ps.length ∧ i = .int .i64 k ∧ wr = w ∧ Hid (∀ (j : Nat) (h : j < ps.length), j < k → patB (bs (ps[j]'h)) = true)) (fun i _ => ps.length - (intOf i).toNat)
    case atStart => exact ⟨0, by omega, rfl, rfl, fun j _ hj => by omega⟩
    case round =>
      obtain ⟨k, hk, rfl, rfl, hall⟩ := hrel
      obtain ⟨w, rfl⟩ : ∃ w, w = wr := ⟨_, rfl⟩
      by_cases hlt : k < ps.length
      · have hkl : (k : Int) < ps.length := by omega
        obtain ⟨b0, o0, hab, cj⟩ := tx_cell (T1.out _ (Below.refl _ _)) hlt
        subst hab
        have hP := pattern_any (ps[k]'hlt) w
        cases hpb : patB (bs (ps[k]'hlt)) with
        | false =>
          have hf : Hid ((ps.map bs).all patB = false) := by
            show _ = _
            rw [List.all_eq_false]
            exact ⟨_, List.mem_map.2 ⟨_, List.getElem_mem hlt, rfl⟩, by rw [hpb]; decide⟩
          rw [hpb] at hP
          generalize ps[k]'hlt = p at *
          clear hall hpb
          go_wp2_with (go_at_call 32; refine hP.mono ?_; rintro e w' ⟨rfl, hww⟩; subst w')
          go_ret2
          exact hn4.out _ (Below.refl _ _) (.inl hf.out)
        | true =>
          have hall2 : Hid (∀ (j : Nat) (h : j < ps.length), j < k + 1 → patB (bs (ps[j]'h)) = true) := fun j h hj => by
            by_cases hh : j < k
            · exact hall.out j h hh
            · obtain rfl : j = k := by omega
              exact hpb
          rw [hpb] at hP
          generalize ps[k]'hlt = p at *
          clear hall hpb
          go_wp2_with (go_at_call 32; refine hP.mono ?_; rintro e w' ⟨rfl, hww⟩; subst w')
          go_roundw
          case rel => exact ⟨k + 1, by omega, by simp, by first | rfl | trivial, hall2⟩
          case measure => simp [intOf]; omega
      · have hkl : ¬ (k : Int) < ps.length := by omega
        have hPall : Hid ((ps.map bs).all patB = true) := by
          show _ = _
          rw [List.all_eq_true]
          intro x hx
          obtain ⟨y, hy, rfl⟩ := List.mem_map.1 hx
          obtain ⟨j, hj, rfl⟩ := List.getElem_of_mem hy
          exact hall.out j hj (by omega)
        clear hall
        go_wp2_with fail
        go_loopw [7] (fun i wr => ∃ k : Nat, k ≤ xs.length ∧ i = .int .i64 k ∧ wr = w ∧ Hid (∀ (j : Nat) (h : j < xs.length), j < k → excB (bs (xs[j]'h)) = true)) (fun i _ => xs.length - (intOf i).toNat)
        case atStart => exact ⟨0, by omega, rfl, rfl, fun j _ hj => by omega⟩
        case round =>
          obtain ⟨k2, hk2, rfl, rfl, hall⟩ := hrel
          obtain ⟨w, rfl⟩ : ∃ w, w = wr := ⟨_, rfl⟩
          by_cases hlt2 : k2 < xs.length
          · have hkl2 : (k2 : Int) < xs.length := by omega
            obtain ⟨b0, o0, hab, cj⟩ := tx_cell (T2.out _ (Below.refl _ _)) hlt2
            subst hab
            have hP := exception_any (xs[k2]'hlt2) (by have := hxsh.out _ (List.getElem_mem hlt2); omega) w
            cases hpb : excB (bs (xs[k2]'hlt2)) with
            | false =>
              have hf : Hid ((xs.map bs).all excB = false) := by
                show _ = _
                rw [List.all_eq_false]
                exact ⟨_, List.mem_map.2 ⟨_, List.getElem_mem hlt2, rfl⟩, by rw [hpb]; decide⟩
              rw [hpb] at hP
              generalize xs[k2]'hlt2 = p at *
              clear hall hpb
              go_wp2_with (go_at_call 33; refine hP.mono ?_; rintro e w' ⟨rfl, hww⟩; subst w')
              go_ret2
              exact hn4.out _ (Below.refl _ _) (.inr hf.out)
            | true =>
              have hall2 : Hid (∀ (j : Nat) (h : j < xs.length), j < k2 + 1 → excB (bs (xs[j]'h)) = true) := fun j h hj => by
                by_cases hh : j < k2
                · exact hall.out j h hh
                · obtain rfl : j = k2 := by omega
                  exact hpb
              rw [hpb] at hP
              generalize xs[k2]'hlt2 = p at *
              clear hall hpb
              go_wp2_with (go_at_call 33; refine hP.mono ?_; rintro e w' ⟨rfl, hww⟩; subst w')
              go_roundw
              case rel => exact ⟨k2 + 1, by omega, by simp, by first | rfl | trivial, hall2⟩
              case measure => simp [intOf]; omega
          · have hkl2 : ¬ (k2 : Int) < xs.length := by omega
            have hXall : Hid ((xs.map bs).all excB = true) := by
              show _ = _
              rw [List.all_eq_true]
              intro x hx
              obtain ⟨y, hy, rfl⟩ := List.mem_map.1 hx
              obtain ⟨j, hj, rfl⟩ := List.getElem_of_mem hy
              exact hall.out j hj (by omega)
            clear hall
            go_wp2_with fail
            go_loopw [8] (fun i wr => ∃ k : Nat, k ≤ xs.length ∧ i = .int .i64 k ∧ Below w.heap.size w wr ∧ Hid (freshB [] (xs.map bs) = freshB ((xs.map bs).take k) ((xs.map bs).drop k))) (fun i _ => xs.length - (intOf i).toNat)
            case atStart => exact ⟨0, by omega, rfl, Below.refl _ _, rfl⟩
            case round =>
              obtain ⟨i, hi3, rfl, hbl, hfr⟩ := hrel
              by_cases hlt3 : i < xs.length
              · have hil : (i : Int) < xs.length := by omega
                go_wp2_with fail
                go_loopw [9] (fun j wr => ∃ k : Nat, k ≤ i ∧ j = .int .i64 k ∧ Below w.heap.size w wr ∧ Hid (∀ (j : Nat) (h : j < k), ∀ h1 : j < xs.length, bare (bs (xs[i]'hlt3)) ≠ bare (bs (xs[j]'h1)))) (fun j _ => i - (intOf j).toNat)
                case atStart => exact ⟨0, by omega, rfl, hbl, fun j h => by omega⟩
                case round =>
                  clear hbl
                  obtain ⟨j, hj, rfl, hbl, hne⟩ := hrel
                  by_cases hlt4 : j < i
                  · have hjl : (j : Int) < i := by omega
                    have hjx : j < xs.length := by omega
                    obtain ⟨b0, o0, hab, ci⟩ := tx_cell (T2.out _ hbl) hlt3
                    subst hab
                    obtain ⟨b1, o1, hab1, cj⟩ := tx_cell (T2.out _ hbl) hjx
                    cases hab1
                    have hsi := hxsh.out _ (List.getElem_mem hlt3)
                    have hsj := hxsh.out _ (List.getElem_mem hjx)
                    have hBi : Hid (∀ W, Calls Tryd.prog 25 #[.string (xs[i]'hlt3)] W fun e w' => e = .returned (.string ⟨(bare (bs (xs[i]'hlt3))).toArray⟩) ∧ w' = W) := fun W => bare_any _ (by omega) W
                    have hBj : Hid (∀ W, Calls Tryd.prog 25 #[.string (xs[j]'hjx)] W fun e w' => e = .returned (.string ⟨(bare (bs (xs[j]'hjx))).toArray⟩) ∧ w' = W) := fun W => bare_any _ (by omega) W
                    have hbd : Below w.heap.size w wr.drew := ⟨hbl.1, hbl.2, hbl.3, hbl.4, hbl.5⟩
                    obtain ⟨qi, hqi⟩ : ∃ q : ByteArray, (⟨(bare (bs (xs[i]'hlt3))).toArray⟩ : ByteArray) = q := ⟨_, rfl⟩
                    obtain ⟨qj, hqj⟩ : ∃ q : ByteArray, (⟨(bare (bs (xs[j]'hjx))).toArray⟩ : ByteArray) = q := ⟨_, rfl⟩
                    rw [hqi] at hBi
                    rw [hqj] at hBj
                    have ci' : wr.drew.cell? ⟨b0, o0 + i, none⟩ = some (.string (xs[i]'hlt3)) := ci
                    have cj' : wr.drew.cell? ⟨b0, o0 + j, none⟩ = some (.string (xs[j]'hjx)) := cj
                    by_cases heq : bare (bs (xs[i]'hlt3)) = bare (bs (xs[j]'hjx))
                    · have hf : Hid (freshB [] (xs.map bs) = false) := by
                        show _ = _
                        rw [hfr.out]
                        exact fresh_hit (xs := xs.map bs) (i := i) (k := j) (by simpa using hlt3) hlt4 (by simpa using heq)
                      have hqq : qi = qj := by rw [← hqi, ← hqj, heq]
                      subst hqq
                      generalize xs[i]'hlt3 = xi at *
                      generalize xs[j]'hjx = xj at *
                      clear hne hqi hqj heq hfr
                      go_wp2_with fail
                      go_region_with (go_at_call 25; first | (with_reducible refine (hBi.out _).mono ?_; rintro e w' ⟨rfl, hww⟩; subst w') | (with_reducible refine (hBj.out _).mono ?_; rintro e w' ⟨rfl, hww⟩; subst w'))
                      all_goals go_wp2_with fail
                      all_goals (go_ret2; exact hn7.out _ hbd hPall.out hXall.out hf.out)
                    · have hneq : (ByteArray.toList qi == ByteArray.toList qj) = false := by
                        rw [beq_eq_false_iff_ne, ByteArray.toList_eq, ByteArray.toList_eq, ← hqi, ← hqj]
                        exact heq
                      have hne2 : Hid (∀ (j2 : Nat) (h : j2 < j + 1), ∀ h1 : j2 < xs.length, bare (bs (xs[i]'hlt3)) ≠ bare (bs (xs[j2]'h1))) := fun j2 h h1 => by
                        by_cases hh : j2 < j
                        · exact hne.out j2 hh h1
                        · obtain rfl : j2 = j := by omega
                          exact heq
                      generalize xs[i]'hlt3 = xi at *
                      generalize xs[j]'hjx = xj at *
                      clear hne hqi hqj heq
                      go_wp2_with fail
                      go_region_with (go_at_call 25; first | (with_reducible refine (hBi.out _).mono ?_; rintro e w' ⟨rfl, hww⟩; subst w') | (with_reducible refine (hBj.out _).mono ?_; rintro e w' ⟨rfl, hww⟩; subst w'))
                      all_goals go_wp2_with fail
                      all_goals exact ⟨⟨j + 1, by omega, by simp, hbd, hne2⟩, by simp [intOf]; omega⟩
                  · have hjl : ¬ (j : Int) < i := by omega
                    have hfr2 : Hid (freshB [] (xs.map bs) = freshB ((xs.map bs).take (i + 1)) ((xs.map bs).drop (i + 1))) := by
                      show _ = _
                      rw [hfr.out]
                      exact fresh_go (xs := xs.map bs) (by simpa using hlt3) (fun k hk => by
                        have := hne.out k (by omega) (by omega)
                        simpa using this)
                    clear hne hfr
                    go_wp2_with fail
                    go_roundw
                    case rel => exact ⟨i + 1, by omega, by simp, hbl, hfr2⟩
                    case measure => simp [intOf]; omega
              · have hil : ¬ (i : Int) < xs.length := by omega
                have hf : Hid (freshB [] (xs.map bs) = true) := by
                  show _ = _
                  rw [hfr.out, List.drop_of_length_le (by simp; omega)]; rfl
                obtain ⟨hpl1, hxl1⟩ := hpl.out
                clear hfr
                go_wp2_with (at_builtin; first
                  | (refine wpList_append_any _ rfl _ _ 22 rfl wr.heap.size 9 i9 _ 1 16 Tryd.underlying22 hi hz0 hz1 hz2 rfl (by decide) _ 0 [] rfl (ownsRow_lit wr 9 1 wr.heap.size (Nat.le_refl _)) ps.length (strs ps) _ rfl (tx_srcs (T1.out _ (below_one hbl _))) (by unfold maxLen; omega) (by omega) (by simp) ?_; intro va wa hoa hga; rw [Nat.zero_add, List.nil_append] at hoa; obtain ⟨aa, ca, rfl⟩ := row_val hoa; have hba := below_grown (below_one (Below.refl wr.heap.size wr) (.cells #[] 9)) (ownsRow_lit wr 9 1 wr.heap.size (Nat.le_refl _)) (Nat.le_refl _) (Nat.le_refl _) hga; have hbaw := hbl.trans (hba.mono hbl.size))
                  | (refine wpList_append_any _ rfl _ _ 22 rfl wa.heap.size 9 i9 _ 1 16 Tryd.underlying22 hi hz0 hz1 hz2 rfl (by decide) _ 0 [] rfl (ownsRow_lit wa 9 1 wa.heap.size (Nat.le_refl _)) xs.length (strs xs) _ rfl (tx_srcs (T2.out _ (below_one hbaw _))) (by unfold maxLen; omega) (by omega) (by simp) ?_; intro vb wb hob hgb; rw [Nat.zero_add, List.nil_append] at hob; obtain ⟨ab, cb, rfl⟩ := row_val hob; have hbb := below_grown (below_one (Below.refl wa.heap.size wa) (.cells #[] 9)) (ownsRow_lit wa 9 1 wa.heap.size (Nat.le_refl _)) (Nat.le_refl _) (Nat.le_refl _) hgb; have hbbw := hbaw.trans (hbb.mono hbaw.size)))
                go_ret2
                have hA := (ownsRow_below (ownsRow_base hoa hbl.size) hbb).alloc (.cells #[.slice aa ps.length ca, .slice ab xs.length cb] 65)
                have hB := (ownsRow_base hob hbaw.size).alloc (.cells #[.slice aa ps.length ca, .slice ab xs.length cb] 65)
                exact hn0.out _ wb.heap.size (below_one hbbw _) hPall.out hXall.out hf.out ⟨hbbw.size, _, _, Lib.cell_of_heap (World.alloc_heap_new wb _) 0, Lib.cell_of_heap (World.alloc_heap_new wb _) 1, hA, hB⟩
end Go.Proofs.YtfblhpkndfbhgaaDoor
