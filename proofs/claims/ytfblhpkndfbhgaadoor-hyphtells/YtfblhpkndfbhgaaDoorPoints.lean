/-
  What is proved here: what Points of a hyph answers.
-/
import Derived.Test.YtfblhpkndfbhgaaDoorNew
namespace Go.Proofs.YtfblhpkndfbhgaaDoor
open Go.RowKit Go.Shelf

theorem info48 : (Tryd.prog.info? 48).map (fun i => (i.size, i.bytes)) = some (4, 48) := by kernel_rfl
theorem run_eql_ptr_nil {P : Program} (w : World) {tp te : TypeId} (a : Addr) (hp : P.underlying tp = some (.pointer te)) :
    (binOp .eql tp (.pointer none) (.pointer (some a))).run P w = .ok (.bool false) w := by
  have h : ∀ d : Nat, (Op.equalIn (d + 1) tp (.pointer none) (.pointer (some a))).run P w = .ok false w := fun d => by
    simp [Op.equalIn, run_underlying hp]
  simp only [binOp]
  simp [Op.equal, Op.maxDepth, h 9999]
theorem made_nil (w : World) : Calls Tryd.prog 35 #[.pointer none] w fun e w' => e = .returned (.bool false) ∧ w' = w := by
  go_enter Tryd.func35, Tryd.ntmps35
  go_wp2
  go_ret
  exact ⟨rfl, rfl⟩
theorem made_zero (t : Nat) (w : World) (h : w.cell? ⟨t, 0, none⟩ = some (.pointer none)) : Calls Tryd.prog 35 #[.pointer (some ⟨t, 0, none⟩)] w fun e w' => e = .returned (.bool false) ∧ w' = w := by
  have he := run_eql_ptr_nil w ⟨t, 0, none⟩ Tryd.underlying25
  go_enter Tryd.func35, Tryd.ntmps35
  go_wp2
  go_ret
  exact ⟨rfl, rfl⟩
theorem made_yes (t : Nat) (w : World) (h : w.cell? ⟨t, 0, none⟩ = some (.pointer (some ⟨t, 0, none⟩))) : Calls Tryd.prog 35 #[.pointer (some ⟨t, 0, none⟩)] w fun e w' => e = .returned (.bool true) ∧ w' = w := by
  obtain ⟨j, hj, _⟩ := Option.map_eq_some_iff.1 info48
  have he := run_eql_ptr_same w ⟨t, 0, none⟩ Tryd.underlying25 hj
  go_enter Tryd.func35, Tryd.ntmps35
  go_wp2
  go_ret
  exact ⟨rfl, rfl⟩
theorem points_nil (s : ByteArray) (w : World) : Calls Tryd.prog 14 #[.pointer none, .string s] w fun e w' => e = .returned (.tuple #[.slice none 0 0, .int .i64 1]) ∧ w' = w := by
  have hm := made_nil w
  go_enter Tryd.func14, Tryd.ntmps14
  go_wp2_with (go_at_call 35; refine hm.mono ?_; rintro e w' ⟨rfl, hww⟩; subst w')
  go_ret2
  exact ⟨rfl, rfl⟩
theorem points_zero (t : Nat) (s : ByteArray) (w : World) (h : w.cell? ⟨t, 0, none⟩ = some (.pointer none)) : Calls Tryd.prog 14 #[.pointer (some ⟨t, 0, none⟩), .string s] w fun e w' => e = .returned (.tuple #[.slice none 0 0, .int .i64 1]) ∧ w' = w := by
  have hm := made_zero t w h
  go_enter Tryd.func14, Tryd.ntmps14
  go_wp2_with (go_at_call 35; refine hm.mono ?_; rintro e w' ⟨rfl, hww⟩; subst w')
  go_ret2
  exact ⟨rfl, rfl⟩

def low (l : Bs) : Bs := Lib.toLowerA l
def ptE (l : Bs) : Int := if wordB l then 0 else 4
def ptR (T : Tr) (E : Ex) (l : Bs) : List Int := if wordB l then (E (low l)).getD (oddL T (low l)) else []
theorem ltr_ascii {c : UInt8} (h : ltr c = true) : c.toNat < 128 := by
  unfold ltr ltI at h
  rcases Bool.or_eq_true .. ▸ h with h | h
  · have := smI_rng h; omega
  · have := grI_rng h; omega
theorem wordB_parts {l : Bs} (h : wordB l = true) : 1 ≤ l.length ∧ l.length ≤ 64 ∧ ∀ c ∈ l, ltr c = true := by
  unfold wordB at h
  simp only [Bool.and_eq_true, decide_eq_true_eq, List.all_eq_true] at h
  exact ⟨h.1, h.2.1, h.2.2⟩

set_option maxRecDepth 100000 in
set_option maxHeartbeats 1000000 in
theorem points_any {w : World} {base hb : Nat} {T : Tr} {E : Ex} {N : Ns} {em M : Nat} {V : Vs} (h : HyphAt w base hb T E N em M V) (s : ByteArray) :
    Calls Tryd.prog 14 #[.pointer (some ⟨hb, 0, none⟩), .string s] w fun e w' => ∃ v, e = .returned (.tuple #[v, .int .i64 (ptE (bs s))]) ∧ Below w.heap.size w w' ∧ w'.ownsRow w.heap.size 3 1 v (ptR T E (bs s)).length (ints (ptR T E (bs s))) := by
  have hm := made_yes hb w h.cells.1
  have hW := isWord_any s w
  unfold ptE ptR
  cases hw : wordB (bs s) with
  | false =>
    rw [show wordB s.data.toList = false from hw] at hW
    simp only [Bool.false_eq_true, if_false]
    clear hw
    go_enter Tryd.func14, Tryd.ntmps14
    go_wp2_with (first | (go_at_call 35; refine hm.mono ?_; rintro e w' ⟨rfl, hww⟩; subst w') | (go_at_call 36; refine hW.mono ?_; rintro e w' ⟨rfl, hww⟩; subst w'))
    go_ret2
    exact ⟨_, rfl, Below.refl _ _, World.ownsRow_nil _ _ _ _⟩
  | true =>
    rw [show wordB s.data.toList = true from hw] at hW
    simp only [if_true]
    obtain ⟨hl1, hl2, hlt⟩ := wordB_parts hw
    have hL := Tryd.strings_ToLower_ascii s w (by have : s.size ≤ 64 := (by rw [← size_ba]; exact hl2); omega) (fun j b hj => ltr_ascii (hlt b (List.mem_of_getElem? hj)))
    have hLs : (low (bs s)).length ≤ 64 := by unfold low Lib.toLowerA; rw [List.length_map]; exact hl2
    have hL' : Calls Tryd.prog 37 #[.string s] w fun e w' => e = .returned (.string ⟨(low (bs s)).toArray⟩) ∧ Below w.heap.size w w' := hL
    obtain ⟨q, hq⟩ : ∃ q : ByteArray, (⟨(low (bs s)).toArray⟩ : ByteArray) = q := ⟨_, rfl⟩
    have hql : low (bs s) = bs q := by rw [← hq]
    rw [hq] at hL'
    rw [hql] at hLs ⊢
    have hqs : q.size ≤ 64 := by rw [← size_ba]; exact hLs
    have hlook : ∀ w', Below w.heap.size w w' → (Instr.lookup 46 (.map (some em)) (.string q) true).run Tryd.prog w' = .ok (.tuple #[(V (bs q)).getD (.slice none 0 0), .bool (V (bs q)).isSome]) w' := fun w' hb =>
      (h.below hb).emap.look_ok law9 Tryd.underlying46 (zero34 w') q (keyOf9 (by unfold maxLen; omega))
    have hc3 : ∀ w', Below w.heap.size w w' → w'.cell? ⟨hb, 3, none⟩ = some (.map (some em)) := fun w' hb => (h.below hb).cells.2
    cases hv : V (bs q) with
    | none =>
      rw [hv] at hlook
      rw [h.dom _ hv]
      simp only [Option.getD_none, Option.isSome_none] at hlook ⊢
      have hO : Hid (∀ w', Below w.heap.size w w' → Calls Tryd.prog 39 #[.pointer (some ⟨hb, 0, none⟩), .string q] w' fun r w'' => ∃ v, r = .returned v ∧ Below w'.heap.size w' w'' ∧ w''.ownsRow w'.heap.size 3 1 v (oddL T (bs q)).length (ints (oddL T (bs q)))) := fun w' hb => odd_any (h.below hb).trie q hqs
      have hlookh : Hid (∀ w', Below w.heap.size w w' → (Instr.lookup 46 (.map (some em)) (.string q) true).run Tryd.prog w' = .ok (.tuple #[.slice none 0 0, .bool false]) w') := hlook
      have hc3h : Hid (∀ w', Below w.heap.size w w' → w'.cell? ⟨hb, 3, none⟩ = some (.map (some em))) := hc3
      generalize oddL T (bs q) = O at *
      clear hv hlook hc3 hL hw hlt hql hq hLs h
      go_enter Tryd.func14, Tryd.ntmps14
      go_wp2_with (first | (go_at_call 35; refine hm.mono ?_; rintro e w' ⟨rfl, hww⟩; subst w') | (go_at_call 36; refine hW.mono ?_; rintro e w' ⟨rfl, hww⟩; subst w') | (go_at_call 37; refine hL'.mono ?_; rintro e wl ⟨rfl, hbl⟩; have hlk := hlookh.out _ hbl; have hc3 := hc3h.out _ hbl) | (go_at_call 39; refine (hO.out _ hbl).mono ?_; rintro e wo ⟨vo, rfl, hbo, hro⟩; obtain ⟨ao, co, rfl⟩ := row_val hro))
      go_ret2
      exact ⟨_, rfl, hbl.trans (hbo.mono hbl.size), ownsRow_base hro hbl.size⟩
    | some u =>
      rw [hv] at hlook
      obtain ⟨d, hd, hdl, hrow⟩ := h.rows _ u hv
      rw [hd]
      simp only [Option.getD_some, Option.isSome_some] at hlook ⊢
      have hC : Hid (∀ w', Below w.heap.size w w' → Calls Tryd.prog 38 #[u] w' fun e w'' => ∃ v', e = .returned v' ∧ w''.ownsRow w.heap.size 3 1 v' d.length (ints d) ∧ Below w'.heap.size w' w'') := fun w' hb => by
        have hrow' := ownsRow_turns hrow (Turns.of_below hb) (fun _ _ h => h)
        rcases hrow'.2 with ⟨rfl, h0⟩ | ⟨g, cap, cur, rfl, _, hg, hcap, _, _, htk⟩
        · have : d = [] := List.eq_nil_of_length_eq_zero h0
          subst this
          refine (Tryd.slices_Clone_int_nil 0 0 w').mono ?_
          rintro e w'' ⟨rfl, rfl⟩
          exact ⟨_, rfl, World.ownsRow_nil _ _ _ _, Below.refl _ _⟩
        · refine (Tryd.slices_Clone_int g 0 d.length cap d w' (Nat.le_refl _) (by omega) (fun j hj => ?_)).mono ?_
          · have := hrow'.cells (g := g) rfl j (.int .i64 d[j]) (ints_get d hj)
            rw [addr_add0] at this
            rw [Nat.zero_add, List.getD_eq_getElem?_getD, List.getElem?_eq_getElem hj]
            exact this
          · rintro e w'' ⟨v', rfl, h1, _, h2⟩
            rw [List.take_length] at h1
            exact ⟨v', rfl, ownsRow_base h1 hb.size, h2⟩
      obtain ⟨au, cu, rfl⟩ := row_val hrow
      have hlookh : Hid (∀ w', Below w.heap.size w w' → (Instr.lookup 46 (.map (some em)) (.string q) true).run Tryd.prog w' = .ok (.tuple #[.slice au d.length cu, .bool true]) w') := hlook
      have hc3h : Hid (∀ w', Below w.heap.size w w' → w'.cell? ⟨hb, 3, none⟩ = some (.map (some em))) := hc3
      clear hv hlook hc3 hL hw hlt hql hq hLs h hrow hd
      go_enter Tryd.func14, Tryd.ntmps14
      go_wp2_with (first | (go_at_call 35; refine hm.mono ?_; rintro e w' ⟨rfl, hww⟩; subst w') | (go_at_call 36; refine hW.mono ?_; rintro e w' ⟨rfl, hww⟩; subst w') | (go_at_call 37; refine hL'.mono ?_; rintro e wl ⟨rfl, hbl⟩; have hlk := hlookh.out _ hbl; have hc3 := hc3h.out _ hbl) | (go_at_call 38; refine (hC.out _ hbl).mono ?_; rintro e wo ⟨vo, rfl, hro, hbo⟩; obtain ⟨ao, co, rfl⟩ := row_val hro))
      go_ret2
      exact ⟨_, rfl, hbl.trans (hbo.mono hbl.size), hro⟩
end Go.Proofs.YtfblhpkndfbhgaaDoor
