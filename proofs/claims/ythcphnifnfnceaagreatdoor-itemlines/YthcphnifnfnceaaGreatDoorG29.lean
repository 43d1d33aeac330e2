/-
  What is proved here: what all answers of patterns and of exceptions.
  What is proved here: what New of hyph answers.
-/
import Derived.Test.YthcphnifnfnceaaGreatDoorG28
namespace Go.Proofs.YthcphnifnfnceaaGreatDoor.Hy
open Go.RowKit Go.Shelf

/-- A list of texts in memory. -/
abbrev TxAt (W : World) (v : Value) (ss : List ByteArray) : Prop := RecAt 1 (fun s : ByteArray => [Value.string s]) W v ss
theorem cell_lt {w : World} {b o : Nat} {v : Value} (h : w.cell? ⟨b, o, none⟩ = some v) : b < w.heap.size := by
  apply Classical.byContradiction
  intro hc
  have : w.heap[b]? = none := Array.getElem?_eq_none (by omega)
  simp [World.cell?, this] at h
theorem tx_cell {W : World} {a : Option Addr} {cap n : Nat} {ss : List ByteArray} (h : TxAt W (.slice a n cap) ss) {k : Nat} (hk : k < ss.length) : ∃ b o, a = some ⟨b, o, none⟩ ∧ W.cell? ⟨b, o + k, none⟩ = some (.string (ss[k]'hk)) := by
  obtain ⟨a', cap', h1, h2⟩ := h.ex
  cases h1
  rcases h2 with h2 | ⟨b, o, rfl, hb, hc⟩
  · subst h2; simp at hk
  · have := hc k hk 0 (.string (ss[k]'hk)) rfl
    exact ⟨b, o, rfl, by simpa using this⟩

set_option maxRecDepth 100000 in
set_option maxHeartbeats 1000000 in
theorem allPat_any (v : Value) (ss : List ByteArray) (hs : ss.length ≤ 1000000) (w : World) (h : TxAt w v ss) : Calls Tryz.prog 128 #[v, .func (.func 129) #[] #[]] w fun e w' => e = .returned (.bool (ss.all (fun s => patB s.data.toList))) ∧ Below w.heap.size w w' := by
  obtain ⟨a, cap, rfl, hex⟩ := h.ex
  have hno : Hid (∀ (k : Nat) (h : k < ss.length), patB (ss[k]'h).data.toList = false → ss.all (fun s => patB s.data.toList) = false) := fun k h hf => by
    show _ = _
    rw [List.all_eq_false]
    exact ⟨_, List.getElem_mem h, by simp [hf]⟩
  have hyes : Hid ((∀ (k : Nat) (h : k < ss.length), patB (ss[k]'h).data.toList = true) → ss.all (fun s => patB s.data.toList) = true) := fun h => by
    show _ = _
    rw [List.all_eq_true]
    intro s hs
    obtain ⟨k, hk, rfl⟩ := List.getElem_of_mem hs
    exact h k hk
  generalize ss.all (fun s => patB s.data.toList) = r at *
  go_enter Tryz.func128, Tryz.ntmps128
  go_wp2_with fail
  go_loopw [9] (fun i wr => ∃ k : Nat, k ≤ ss.length ∧ i = .int .i64 k ∧ Below w.heap.size w wr ∧ Hid (∀ (j : Nat) (h : j < ss.length), j < k → patB (ss[j]'h).data.toList = true)) (fun i _ => ss.length - (intOf i).toNat)
  case atStart => exact ⟨0, by omega, rfl, Below.refl _ _, fun j _ hj => by omega⟩
  case round =>
    obtain ⟨k, hk, rfl, hb, ha⟩ := hrel
    by_cases hlt : k < ss.length
    · obtain ⟨b0, o0, rfl, c0⟩ := tx_cell h hlt
      have c1 : wr.cell? ⟨b0, o0 + k, none⟩ = some (.string (ss[k]'hlt)) := by
        rw [← c0]; exact World.cell?_of_block (hb.block b0 (cell_lt c0))
      have hI := isPattern_any (ss[k]'hlt) wr
      have hkl : (k : Int) < ss.length := by omega
      cases hc : patB (ss[k]'hlt).data.toList with
      | true =>
        rw [hc] at hI
        have ha2 : Hid (∀ (j : Nat) (h : j < ss.length), j < k + 1 → patB (ss[j]'h).data.toList = true) := fun j hj hjk => by
          by_cases hh : j < k
          · exact ha.out j hj hh
          · obtain rfl : j = k := by omega
            exact hc
        generalize ss[k]'hlt = s at *
        clear hno hyes ha hc hex h
        go_wp2_with (go_at_call 129; refine hI.mono ?_; rintro e w' ⟨rfl, hww⟩; subst w')
        go_roundw
        case rel => exact ⟨k + 1, by omega, by simp, hb, ha2⟩
        case measure => simp [intOf]; omega
      | false =>
        rw [hc] at hI
        have hr := hno.out k hlt hc
        subst hr
        generalize ss[k]'hlt = s at *
        clear hno hyes ha hc hex h
        go_wp2_with (go_at_call 129; refine hI.mono ?_; rintro e w' ⟨rfl, hww⟩; subst w')
        go_ret
        exact ⟨rfl, hb⟩
    · have hr := hyes.out (fun j hj => ha.out j hj (by omega))
      subst hr
      have hkl : ¬ (k : Int) < ss.length := by omega
      clear hno hyes ha
      go_wp2_with fail
      go_ret
      exact ⟨rfl, hb⟩

set_option maxRecDepth 100000 in
set_option maxHeartbeats 1000000 in
theorem allExc_any (v : Value) (ss : List ByteArray) (hs : ss.length ≤ 1000000) (hl : ∀ s ∈ ss, s.size ≤ 1000000) (w : World) (h : TxAt w v ss) : Calls Tryz.prog 128 #[v, .func (.func 130) #[] #[]] w fun e w' => e = .returned (.bool (ss.all (fun s => excB s.data.toList))) ∧ Below w.heap.size w w' := by
  obtain ⟨a, cap, rfl, hex⟩ := h.ex
  have hno : Hid (∀ (k : Nat) (h : k < ss.length), excB (ss[k]'h).data.toList = false → ss.all (fun s => excB s.data.toList) = false) := fun k h hf => by
    show _ = _
    rw [List.all_eq_false]
    exact ⟨_, List.getElem_mem h, by simp [hf]⟩
  have hyes : Hid ((∀ (k : Nat) (h : k < ss.length), excB (ss[k]'h).data.toList = true) → ss.all (fun s => excB s.data.toList) = true) := fun h => by
    show _ = _
    rw [List.all_eq_true]
    intro s hs
    obtain ⟨k, hk, rfl⟩ := List.getElem_of_mem hs
    exact h k hk
  generalize ss.all (fun s => excB s.data.toList) = r at *
  go_enter Tryz.func128, Tryz.ntmps128
  go_wp2_with fail
  go_loopw [9] (fun i wr => ∃ k : Nat, k ≤ ss.length ∧ i = .int .i64 k ∧ Below w.heap.size w wr ∧ Hid (∀ (j : Nat) (h : j < ss.length), j < k → excB (ss[j]'h).data.toList = true)) (fun i _ => ss.length - (intOf i).toNat)
  case atStart => exact ⟨0, by omega, rfl, Below.refl _ _, fun j _ hj => by omega⟩
  case round =>
    obtain ⟨k, hk, rfl, hb, ha⟩ := hrel
    by_cases hlt : k < ss.length
    · obtain ⟨b0, o0, rfl, c0⟩ := tx_cell h hlt
      have c1 : wr.cell? ⟨b0, o0 + k, none⟩ = some (.string (ss[k]'hlt)) := by
        rw [← c0]; exact World.cell?_of_block (hb.block b0 (cell_lt c0))
      have hI := isException_any (ss[k]'hlt) (hl _ (List.getElem_mem hlt)) wr
      have hkl : (k : Int) < ss.length := by omega
      cases hc : excB (ss[k]'hlt).data.toList with
      | true =>
        rw [hc] at hI
        have ha2 : Hid (∀ (j : Nat) (h : j < ss.length), j < k + 1 → excB (ss[j]'h).data.toList = true) := fun j hj hjk => by
          by_cases hh : j < k
          · exact ha.out j hj hh
          · obtain rfl : j = k := by omega
            exact hc
        generalize ss[k]'hlt = s at *
        clear hno hyes ha hc hex h hl
        go_wp2_with (go_at_call 130; refine hI.mono ?_; rintro e w' ⟨rfl, hb2⟩)
        go_roundw
        case rel => exact ⟨k + 1, by omega, by simp, (hb.trans (hb2.mono hb.size)), ha2⟩
        case measure => simp [intOf]; omega
      | false =>
        rw [hc] at hI
        have hr := hno.out k hlt hc
        subst hr
        generalize ss[k]'hlt = s at *
        clear hno hyes ha hc hex h hl
        go_wp2_with (go_at_call 130; refine hI.mono ?_; rintro e w' ⟨rfl, hb2⟩)
        go_ret
        exact ⟨rfl, (hb.trans (hb2.mono hb.size))⟩
    · have hr := hyes.out (fun j hj => ha.out j hj (by omega))
      subst hr
      have hkl : ¬ (k : Int) < ss.length := by omega
      clear hno hyes ha
      go_wp2_with fail
      go_ret
      exact ⟨rfl, hb⟩

end Go.Proofs.YthcphnifnfnceaaGreatDoor.Hy

namespace Go.Proofs.YthcphnifnfnceaaGreatDoor.Hy
open Go.RowKit Go.Shelf

abbrev bs (s : ByteArray) : Bs := s.data.toList
/-- The exceptions of a list. -/
def exE (xs : List Bs) : Ex := xs.foldl (fun E x => setV E (excW x) (excP x)) (fun _ => none)
theorem exE_snoc (xs : List Bs) (x : Bs) : exE (xs ++ [x]) = setV (exE xs) (excW x) (excP x) := by simp [exE]
/-- No two of one word. -/
def freshB : List Bs → List Bs → Bool
  | _, [] => true
  | ys, x :: xs => !(exE ys (excW x)).isSome && freshB (ys ++ [x]) xs
theorem fresh_no (xs : List Bs) : ∀ (n : Nat) (k : Nat) (h : k < xs.length), xs.length - k = n → freshB (xs.take k) (xs.drop k) = (!(exE (xs.take k) (excW xs[k])).isSome && freshB (xs.take (k + 1)) (xs.drop (k + 1))) := fun n k h _ => by
  rw [List.drop_eq_getElem_cons h, freshB, List.take_succ_eq_append_getElem h]
def newI (ps xs : List Bs) : Int := if 256 < ps.length ∨ 64 < xs.length then 3 else if (ps.all patB && xs.all excB) then (if freshB [] xs then 0 else 7) else 4

theorem patB_ltrs {l : Bs} (h : patB l = true) : ltrs l ≠ [] := by
  unfold patB at h
  rw [Bool.and_eq_true] at h
  have h2 := h.2
  unfold patT at h2
  rw [Bool.and_eq_true, decide_eq_true_eq] at h2
  obtain ⟨c, hc⟩ := List.exists_mem_of_length_pos h2.2
  obtain ⟨hc1, hc2⟩ := List.mem_filter.1 hc
  have hm : c ∈ l := by
    unfold trimD Lib.trimSuffix Lib.trimPrefix at hc1
    split at hc1 <;> split at hc1
    all_goals first
      | exact List.mem_of_mem_drop (List.mem_of_mem_take hc1)
      | exact List.mem_of_mem_take hc1
      | exact List.mem_of_mem_drop hc1
      | exact hc1
  have hd : dgt c = false := by
    have := smI_rng hc2
    unfold dgt
    exact dgI_no (by omega)
  intro e
  have : c ∈ ltrs l := by unfold ltrs; rw [List.mem_filter]; exact ⟨hm, by simp [hd]⟩
  rw [e] at this
  cases this
theorem patB_size {s : ByteArray} (h : patB (bs s) = true) : s.size ≤ 16 := by
  unfold patB at h
  rw [Bool.and_eq_true, decide_eq_true_eq, size_ba] at h
  exact h.1

def rootNd (hb em : Nat) : Nd := ⟨hb, 1, #[.pointer (some ⟨hb, 0, none⟩), .map none, .slice none 0 0, .map (some em)], 155, none, .slice none 0 0⟩
def N0 (hb em : Nat) : Ns := fun L => if L = [] then some (rootNd hb em) else none
/-- A hyph that knows nothing. -/
theorem hyph_new {w : World} {base hb em : Nat} (hB : Blk w hb #[.pointer (some ⟨hb, 0, none⟩), .map none, .slice none 0 0, .map (some em)] 155) (hm : MapAt 9 encS w em (fun _ => none) 0) (h1 : base ≤ hb) (h2 : base ≤ em) :
    HyphAt w base hb T0 (fun _ => none) (N0 hb em) em 0 (fun _ => none) := by
  have hown : ∀ k, NOwn (N0 hb em) k → k = hb := by
    rintro k ⟨L, x, hx, hk⟩
    unfold N0 at hx
    split at hx
    · cases hx
      rcases hk with rfl | hk | hk
      · rfl
      · cases hk
      · cases hk
    · cases hx
  have hne : hb ≠ em := fun e => by
    obtain ⟨es, cl, hmm⟩ := hm.isMap
    rw [← e, hB] at hmm; cases hmm
  refine ⟨⟨fun L => ?_, ⟨rootNd hb em, if_pos rfl, rfl, rfl, rfl, rfl⟩, fun L x d hx hd => ?_, fun L L' x y hx hy hne => ?_, fun L c hL => ?_⟩, hm, (fun l v hv => by cases hv), (fun _ _ => rfl), (fun h => hne (hown _ h).symm), (fun l v g hv => by cases hv), fun k hk => ?_⟩
  · unfold N0 T0
    by_cases e : L = [] <;> simp [e]
  · unfold N0 at hx
    unfold T0 at hd
    by_cases e : L = []
    · rw [if_pos e] at hx hd
      cases hx; cases hd
      refine ⟨hB, rfl, rfl, by simp [rootNd], World.ownsRow_nil _ _ _ _, by simp, fun _ c => ?_, (fun mb hm => by cases hm)⟩
      unfold kids N0
      rw [if_neg (by simp)]; rfl
    · rw [if_neg e] at hx; cases hx
  · unfold N0 at hx hy
    split at hx <;> split at hy
    · rename_i e1 e2; exact absurd (e1.trans e2.symm) hne
    · cases hy
    · cases hx
    · cases hx
  · unfold T0 at hL ⊢
    rw [if_neg (by simp)]
  · rcases hk with hk | rfl | ⟨l, v, hv, _⟩
    · have := hown k hk; omega
    · exact h2
    · cases hv

set_option maxRecDepth 100000 in
set_option maxHeartbeats 2000000 in
theorem new_bad (v1 v2 : Value) (ps xs : List ByteArray) (w : World) (h1 : TxAt w v1 ps) (h2 : TxAt w v2 xs) (hp : ps.length ≤ 1000) (hx : xs.length ≤ 1000) (hxs : ∀ s ∈ xs, s.size ≤ 200)
    (hbad : 256 < ps.length ∨ 64 < xs.length ∨ (ps.all (fun s => patB (bs s)) && xs.all (fun s => excB (bs s))) = false) :
    Calls Tryz.prog 100 #[v1, v2] w fun e w' => e = .returned (.tuple #[.pointer none, .int .i64 (if 256 < ps.length ∨ 64 < xs.length then 3 else 4)]) ∧ Below w.heap.size w w' := by
  have hA := allPat_any v1 ps (by omega) w h1
  have hB := fun w' (hb : Below w.heap.size w w') => allExc_any v2 xs (by omega) (fun s hs => by have := hxs s hs; omega) w' (h2.below hb (Nat.le_refl _))
  obtain ⟨a1, c1, rfl, _⟩ := h1.ex
  obtain ⟨a2, c2, rfl, _⟩ := h2.ex
  by_cases hl1 : 256 < ps.length
  · rw [if_pos (.inl hl1)]
    have f1 : (256 : Int) < ps.length := by omega
    clear hbad hA hB
    go_enter Tryz.func100, Tryz.ntmps100
    go_wp2_with fail
    go_ret2
    exact ⟨rfl, Below.refl _ _⟩
  · by_cases hl2 : 64 < xs.length
    · rw [if_pos (.inr hl2)]
      have f1 : ¬ (256 : Int) < ps.length := by omega
      have f2 : (64 : Int) < xs.length := by omega
      clear hbad hA hB
      go_enter Tryz.func100, Tryz.ntmps100
      go_wp2_with fail
      go_ret2
      exact ⟨rfl, Below.refl _ _⟩
    · rw [if_neg (fun h => h.elim hl1 hl2)]
      have f1 : ¬ (256 : Int) < ps.length := by omega
      have f2 : ¬ (64 : Int) < xs.length := by omega
      have hbad' : (ps.all (fun s => patB (bs s)) && xs.all (fun s => excB (bs s))) = false := hbad.elim (fun h => absurd h hl1) (fun h => h.elim (fun h => absurd h hl2) id)
      cases hc : ps.all (fun s => patB (bs s)) with
      | false =>
        have hA' : Calls Tryz.prog 128 #[.slice a1 ps.length c1, .func (.func 129) #[] #[]] w fun e w' => e = .returned (.bool false) ∧ Below w.heap.size w w' := by rw [← hc]; exact hA
        clear hbad hA hB hc hbad'
        go_enter Tryz.func100, Tryz.ntmps100
        go_wp2_with (go_at_call 128; refine hA'.mono ?_; rintro e w' ⟨rfl, hb⟩)
        go_ret2
        exact ⟨rfl, hb⟩
      | true =>
        rw [hc, Bool.true_and] at hbad'
        have hA' : Calls Tryz.prog 128 #[.slice a1 ps.length c1, .func (.func 129) #[] #[]] w fun e w' => e = .returned (.bool true) ∧ Below w.heap.size w w' := by rw [← hc]; exact hA
        have hB' : ∀ w', Below w.heap.size w w' → Calls Tryz.prog 128 #[.slice a2 xs.length c2, .func (.func 130) #[] #[]] w' fun e w'' => e = .returned (.bool false) ∧ Below w'.heap.size w' w'' := by
          intro w' hb; rw [← hbad']; exact hB w' hb
        have hBh : Hid (∀ w', Below w.heap.size w w' → Calls Tryz.prog 128 #[.slice a2 xs.length c2, .func (.func 130) #[] #[]] w' fun e w'' => e = .returned (.bool false) ∧ Below w'.heap.size w' w'') := hB'
        have hAh : Hid (Calls Tryz.prog 128 #[.slice a1 ps.length c1, .func (.func 129) #[] #[]] w fun e w' => e = .returned (.bool true) ∧ Below w.heap.size w w') := hA'
        clear hbad hA hB hc hbad' hA' hB'
        go_enter Tryz.func100, Tryz.ntmps100
        go_wp2_with (go_at_call 128; first | (with_reducible refine hAh.out.mono ?_; rintro e w' ⟨rfl, hb⟩) | (with_reducible refine (hBh.out _ hb).mono ?_; rintro e w'' ⟨rfl, hb2⟩))
        go_ret2
        exact ⟨rfl, hb.trans (hb2.mono hb.size)⟩

/-- What New answers of lists that may be. -/
def NewPost (w : World) (ps xs : List Bs) (e : Ending) (w' : World) : Prop :=
  Below w.heap.size w w' ∧ if freshB [] xs then ∃ hb N em M V, e = .returned (.tuple #[.pointer (some ⟨hb, 0, none⟩), .int .i64 0]) ∧ HyphAt w' w.heap.size hb (trie ps) (exE xs) N em M V ∧ M < 10000 else e = .returned (.tuple #[.pointer none, .int .i64 7])
set_option maxRecDepth 100000 in
set_option maxHeartbeats 2000000 in
theorem new_good (v1 v2 : Value) (ps xs : List ByteArray) (w : World) (h1 : TxAt w v1 ps) (h2 : TxAt w v2 xs) (hp : ps.length ≤ 256) (hx : xs.length ≤ 64) (hxs : ∀ s ∈ xs, s.size ≤ 200)
    (hg1 : ps.all (fun s => patB (bs s)) = true) (hg2 : xs.all (fun s => excB (bs s)) = true) :
    Calls Tryz.prog 100 #[v1, v2] w fun e w' => NewPost w (ps.map bs) (xs.map bs) e w' := by
  have hA : Hid (Calls Tryz.prog 128 #[v1, .func (.func 129) #[] #[]] w fun e w' => e = .returned (.bool true) ∧ Below w.heap.size w w') := by
    have := allPat_any v1 ps (by omega) w h1
    rw [show ps.all (fun s => patB s.data.toList) = true from hg1] at this
    exact this
  have hB : Hid (∀ w', Below w.heap.size w w' → Calls Tryz.prog 128 #[v2, .func (.func 130) #[] #[]] w' fun e w'' => e = .returned (.bool true) ∧ Below w'.heap.size w' w'') := fun w' hb => by
    have := allExc_any v2 xs (by omega) (fun s hs => by have := hxs s hs; omega) w' (h2.below hb (Nat.le_refl _))
    rw [show xs.all (fun s => excB s.data.toList) = true from hg2] at this
    exact this
  have hgp : Hid (∀ (k : Nat) (h : k < ps.length), patB (bs (ps[k]'h)) = true) := fun k h => (List.all_eq_true.1 hg1) _ (List.getElem_mem h)
  have t1 : Hid (TxAt w v1 ps) := h1
  have t2 : Hid (TxAt w v2 xs) := h2
  obtain ⟨a1, c1, rfl, _⟩ := h1.ex
  obtain ⟨a2, c2, rfl, _⟩ := h2.ex
  have f1 : ¬ (256 : Int) < ps.length := by omega
  have f2 : ¬ (64 : Int) < xs.length := by omega
  clear hg1 hg2 h1 h2
  go_enter Tryz.func100, Tryz.ntmps100
  go_wp2_with (go_at_call 128; first | (with_reducible refine hA.out.mono ?_; rintro e w' ⟨rfl, hb⟩) | (with_reducible refine (hB.out _ hb).mono ?_; rintro e wa ⟨rfl, hb2⟩; have hmk : (Instr.makeMap 153 none).run Tryz.prog wa = .ok (.map (some wa.heap.size)) (wa.alloc (.map #[] 0)) := rfl))
  have hbw : Below w.heap.size w wa := hb.trans (hb2.mono hb.size)
  obtain ⟨em, hem⟩ : ∃ em, wa.heap.size = em := ⟨_, rfl⟩
  obtain ⟨hbk, hhb⟩ : ∃ hbk, wa.heap.size + 1 = hbk := ⟨_, rfl⟩
  obtain ⟨wm, hwm⟩ : ∃ wm, (wa.alloc (.map #[] 0)).alloc (.cells #[.pointer (some ⟨wa.heap.size + 1, 0, none⟩), .map none, .slice none 0 0, .map (some wa.heap.size)] 155) = wm := ⟨_, rfl⟩
  have hws := hbw.size
  have hbm : Below w.heap.size w wm := by rw [← hwm]; exact (hbw.alloc hbw.size _).alloc (by simp; omega) _
  have hBk : Blk wm hbk #[.pointer (some ⟨hbk, 0, none⟩), .map none, .slice none 0 0, .map (some em)] 155 := by
    rw [← hwm, ← hhb, ← hem]
    have := World.alloc_heap_new (wa.alloc (.map #[] 0)) (.cells #[.pointer (some ⟨wa.heap.size + 1, 0, none⟩), .map none, .slice none 0 0, .map (some wa.heap.size)] 155)
    rwa [World.size_alloc] at this
  have hmp : MapAt 9 encS wm em (fun _ => none) 0 := by
    rw [← hwm, ← hem]
    exact (MapAt.made wa).turns (Turns.alloc Noth _ _) (fun h => h)
  have hH0 : Hid (∃ V, HyphAt wm w.heap.size hbk T0 (exE ((xs.take 0).map bs)) (N0 hbk em) em 0 V) := ⟨_, hyph_new hBk hmp (by omega) (by omega)⟩
  have hemw : w.heap.size ≤ em := by omega
  have hfr0 : Hid (freshB [] (xs.map bs) = freshB ((xs.take 0).map bs) ((xs.drop 0).map bs)) := rfl
  rw [hwm, hhb, hem]
  clear hwm hBk hmp hmk hb hb2 hbw hem hhb hws hA hB
  go_loopw [36] (fun i wr => ∃ k : Nat, k ≤ xs.length ∧ i = .int .i64 k ∧ Below w.heap.size w wr ∧ Hid (∃ V, HyphAt wr w.heap.size hbk T0 (exE ((xs.take k).map bs)) (N0 hbk em) em k V) ∧ Hid (freshB [] (xs.map bs) = freshB ((xs.take k).map bs) ((xs.drop k).map bs))) (fun i _ => xs.length - (intOf i).toNat)
  case atStart => exact ⟨0, by omega, rfl, hbm, hH0, hfr0⟩
  case round =>
    obtain ⟨k, hk, rfl, hbl, hH, hfr⟩ := hrel
    by_cases hlt : k < xs.length
    · obtain ⟨b0, o0, rfl, c0⟩ := tx_cell (t2.out.below hbl (Nat.le_refl _)) hlt
      obtain ⟨V, hHy⟩ := hH.out
      have hE := except_any hHy hbl.size (by omega) (xs[k]'hlt) (hxs _ (List.getElem_mem hlt))
      have htk : (xs.take (k + 1)).map bs = (xs.take k).map bs ++ [bs (xs[k]'hlt)] := by rw [List.take_succ_eq_append_getElem hlt, List.map_append]; rfl
      have hstep := fresh_no (xs.map bs) _ k (by simpa using hlt) rfl
      rw [← List.map_take, ← List.map_drop, ← List.map_take, ← List.map_drop, List.getElem_map, ← hfr.out] at hstep
      have hkl : (k : Int) < xs.length := by omega
      have hEh : Hid (Calls Tryz.prog 131 #[.pointer (some ⟨hbk, 0, none⟩), .string (xs[k]'hlt)] wr fun e w' => e = .returned (.bool (!(exE ((xs.take k).map bs) (excW (bs (xs[k]'hlt)))).isSome)) ∧ Turns (fun k => k = em) wr w' ∧ EP wr w.heap.size hbk T0 (exE ((xs.take k).map bs)) (N0 hbk em) em k V (bs (xs[k]'hlt)) w') := hE
      have hbt : Hid (∀ w', Turns (fun k => k = em) wr w' → Below w.heap.size w w') := fun w' ht => ⟨ht.os.trans hbl.1, ht.tape.trans hbl.2, ht.output.trans hbl.3, Nat.le_trans hbl.size ht.size, fun k hk => (ht.block k (by have := hbl.size; omega) (by omega)).trans (hbl.block k hk)⟩
      cases hs : (exE ((xs.take k).map bs) (excW (bs (xs[k]'hlt)))).isSome with
      | true =>
        rw [hs] at hstep hEh
        have hnf : Hid (freshB [] (xs.map bs) = false) := hstep
        generalize xs[k]'hlt = s at *
        clear hfr hH hHy hE htk hstep hs hH0 hfr0
        go_wp2_with (go_at_call 131; refine hEh.out.mono ?_; rintro e w' ⟨rfl, hT, _⟩)
        go_ret2
        refine ⟨hbt.out _ hT, ?_⟩
        rw [hnf.out]; rfl
      | false =>
        rw [hs] at hstep hEh
        have hfr2 : Hid (freshB [] (xs.map bs) = freshB ((xs.take (k + 1)).map bs) ((xs.drop (k + 1)).map bs)) := by show _ = _; rw [hstep]; rfl
        have hnext : Hid (∀ w', EP wr w.heap.size hbk T0 (exE ((xs.take k).map bs)) (N0 hbk em) em k V (bs (xs[k]'hlt)) w' → ∃ V, HyphAt w' w.heap.size hbk T0 (exE ((xs.take (k + 1)).map bs)) (N0 hbk em) em (k + 1) V) := fun w' he => by
          unfold EP at he
          rw [hs] at he
          rw [htk, exE_snoc]
          exact he
        generalize xs[k]'hlt = s at *
        clear hfr hH hHy hE htk hstep hs hH0 hfr0
        go_wp2_with (go_at_call 131; refine hEh.out.mono ?_; rintro e w' ⟨rfl, hT, hP⟩)
        go_roundw
        case rel => exact ⟨k + 1, by omega, by simp, hbt.out _ hT, hnext.out _ hP, hfr2⟩
        case measure => simp [intOf]; omega
    · obtain rfl : k = xs.length := by omega
      have hfresh : Hid (freshB [] (xs.map bs) = true) := by
        show _ = _
        rw [hfr.out, List.drop_of_length_le (Nat.le_refl _)]; rfl
      obtain ⟨V, hHy⟩ := hH.out
      rw [List.take_length] at hHy
      have hst : Hid (∃ N M, HyphAt wr w.heap.size hbk (trie ((ps.take 0).map bs)) (exE (xs.map bs)) N em M V ∧ M ≤ 64 + 16 * 0) := ⟨_, _, hHy, hx⟩
      have hkl : ¬ (xs.length : Int) < xs.length := by omega
      clear hfr hH hHy hH0 hfr0
      go_wp2_with fail
      go_loopw [47] (fun i wr => ∃ k : Nat, k ≤ ps.length ∧ i = .int .i64 k ∧ Below w.heap.size w wr ∧ Hid (∃ N M, HyphAt wr w.heap.size hbk (trie ((ps.take k).map bs)) (exE (xs.map bs)) N em M V ∧ M ≤ 64 + 16 * k)) (fun i _ => ps.length - (intOf i).toNat)
      case atStart => exact ⟨0, by omega, rfl, hbl, hst⟩
      case round =>
        obtain ⟨k, hk, rfl, hbl, hH⟩ := hrel
        by_cases hlt : k < ps.length
        · obtain ⟨b0, o0, rfl, c0⟩ := tx_cell (t1.out.below hbl (Nat.le_refl _)) hlt
          obtain ⟨N, M, hHy, hM⟩ := hH.out
          have hpk := hgp.out k hlt
          have hE := add_any hHy.trie (ps[k]'hlt) (patB_size hpk) (patB_ltrs hpk) (by omega)
          have htk : (ps.take (k + 1)).map bs = (ps.take k).map bs ++ [bs (ps[k]'hlt)] := by rw [List.take_succ_eq_append_getElem hlt, List.map_append]; rfl
          have hnext : Hid (∀ w', (∃ N', TrieAt w' hbk (.pointer (some ⟨hbk, 0, none⟩)) (.map (some em)) (addT (trie ((ps.take k).map bs)) (bs (ps[k]'hlt))) N' (M + 16) ∧ Ext N wr N' w') → Below w.heap.size w w' ∧ ∃ N M, HyphAt w' w.heap.size hbk (trie ((ps.take (k + 1)).map bs)) (exE (xs.map bs)) N em M V ∧ M ≤ 64 + 16 * (k + 1)) := fun w' ⟨N', h1, h2⟩ => by
            refine ⟨⟨h2.1.os.trans hbl.1, h2.1.tape.trans hbl.2, h2.1.output.trans hbl.3, Nat.le_trans hbl.size h2.1.size, fun j hj => (h2.1.block j (by have := hbl.size; omega) (fun hN => by have := hHy.young j (.inl hN); omega)).trans (hbl.block j hj)⟩, N', M + 16, ?_, by omega⟩
            rw [htk, trie_snoc]
            exact hHy.trie_step hbl.size h1 h2 (by omega)
          have hEh : Hid (Calls Tryz.prog 132 #[.pointer (some ⟨hbk, 1, none⟩), .string (ps[k]'hlt)] wr fun r w' => r = .returned (.tuple #[]) ∧ ∃ N', TrieAt w' hbk (.pointer (some ⟨hbk, 0, none⟩)) (.map (some em)) (addT (trie ((ps.take k).map bs)) (bs (ps[k]'hlt))) N' (M + 16) ∧ Ext N wr N' w') := hE
          have hkl2 : (k : Int) < ps.length := by omega
          generalize ps[k]'hlt = s at *
          clear hH hHy hE htk hst hpk
          go_wp2_with (go_at_call 132; refine hEh.out.mono ?_; rintro e w' ⟨rfl, hP⟩)
          go_roundw
          case rel => exact ⟨k + 1, by omega, by simp, (hnext.out _ hP).1, (hnext.out _ hP).2⟩
          case measure => simp [intOf]; omega
        · obtain rfl : k = ps.length := by omega
          obtain ⟨N, M, hHy, hM⟩ := hH.out
          rw [List.take_length] at hHy
          have hfin : Hid (HyphAt wr w.heap.size hbk (trie (ps.map bs)) (exE (xs.map bs)) N em M V ∧ M < 10000) := ⟨hHy, by omega⟩
          have hkl2 : ¬ (ps.length : Int) < ps.length := by omega
          clear hH hHy hst
          go_wp2_with fail
          go_ret2
          refine ⟨hbl, ?_⟩
          rw [if_pos hfresh.out]
          exact ⟨hbk, N, em, M, V, rfl, hfin.out⟩
end Go.Proofs.YthcphnifnfnceaaGreatDoor.Hy
