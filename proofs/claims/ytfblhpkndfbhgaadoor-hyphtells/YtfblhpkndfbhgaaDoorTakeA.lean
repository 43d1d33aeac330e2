/-
  What is proved here: what HyphTakes calls: Pick; New of some patterns and of one more; Points of what New made.
-/
import Derived.Test.YtfblhpkndfbhgaaDoorTakeM
import Derived.Test.YtfblhpkndfbhgaaDoorFolds
namespace Go.Proofs.YtfblhpkndfbhgaaDoor
open Go.RowKit Go.Shelf

theorem tmod_lo {x : Int} {n : Nat} (h0 : 0 < n) (h : x.tmod n < 0) : x.tmod n + n = x % n := by
  have h1 := Int.emod_nonneg x (b := (n : Int)) (by omega)
  rw [Int.tmod_eq_emod] at h ⊢
  split at h
  · omega
  · rename_i hd
    rw [if_neg hd]; omega
theorem tmod_hi {x : Int} {n : Nat} (h0 : 0 < n) (h : 0 ≤ x.tmod n) : x.tmod n = x % n := by
  have h1 := Int.emod_lt_of_pos x (b := (n : Int)) (by omega)
  rw [Int.tmod_eq_emod] at h ⊢
  split at h
  · rename_i hd
    rw [if_pos hd]; omega
  · omega
theorem pick_any (x : Int) (n : Nat) (h0 : 0 < n) (hn : n ≤ 1000000) (w : World) : Calls Tryd.prog 26 #[.int .i64 x, .int .i64 n] w fun e w' => ∃ r : Nat, r < n ∧ e = .returned (.int .i64 (r : Nat)) ∧ w' = w := by
  have hn0 : ¬ ((n : Int) < 1) := by omega
  have hz : ¬ ((n : Int) = 0) := by omega
  have hlo := Int.emod_nonneg x (b := (n : Int)) (by omega)
  have hhi := Int.emod_lt_of_pos x (b := (n : Int)) (by omega)
  have hr : (((x % (n : Int)).toNat : Nat) : Int) = x % n := by omega
  go_enter Tryd.func26, Tryd.ntmps26
  go_wp2
  all_goals (go_ret; refine ⟨(x % (n : Int)).toNat, by omega, ?_, rfl⟩)
  · have h1 := tmod_lo h0 (by assumption)
    show Ending.returned (Value.int IntKind.i64 (wrap64 (x.tmod n + n))) = _
    rw [h1, show wrap64 (x % n) = x % n by unfold wrap64; omega, hr]
  · have h1 := tmod_hi h0 (by assumption)
    show Ending.returned (Value.int IntKind.i64 (x.tmod n)) = _
    rw [h1, hr]
theorem lowV_word {l : Bs} (h : wordB l = true) : lowV l = ⟨(low l).toArray⟩ := by
  unfold lowV
  rw [if_pos (by rw [List.all_eq_true]; exact (wordB_parts h).2.2)]
theorem low_small {l : Bs} (h : wordB l = true) : ∀ c ∈ low l, sml c = true := by
  intro c hc
  obtain ⟨d, hd, rfl⟩ := List.mem_map.1 (show c ∈ l.map Lib.lowerB from hc)
  have := lower_small (c := d)
  unfold sml
  rw [this]
  exact (wordB_parts h).2.2 d hd
theorem low_len (l : Bs) : (low l).length = l.length := by unfold low Lib.toLowerA; rw [List.length_map]
theorem newI_eight {ps : List Bs} {p : Bs} (hl : ps.length ≤ 200) (hp : patB p = true) : newI (ps ++ [p]) [] = newI ps [] := by
  have h1 : ¬ (256 < (ps ++ [p]).length ∨ 64 < ([] : List Bs).length) := by simp; omega
  have h2 : ¬ (256 < ps.length ∨ 64 < ([] : List Bs).length) := by simp; omega
  unfold newI
  rw [if_neg h1, if_neg h2, List.all_append]
  simp [hp]
theorem eight_ba {q x1 x2 x3 x4 : ByteArray} {a : Nat} (h1 : q.extract 0 a = x1) (h2 : x1 ++ (⟨#[56]⟩ : ByteArray) = x2) (h3 : q.extract a q.size = x3) (h4 : x2 ++ x3 = x4) : bs x4 = eight (bs q) a := by
  subst h1 h2 h3 h4
  unfold bs eight
  rw [ByteArray.data_append, ByteArray.data_append, Array.toList_append, Array.toList_append, extract_ba, extract_ba, take_all_ba]
  simp
/-- What New answers of patterns alone. -/
def NewR (nI : Int) (P : List Bs) (p : Value) (c : Int) (w' : World) : Prop :=
  (nI ≠ 0 ∧ p = .pointer none ∧ c = nI) ∨ (nI = 0 ∧ P.all patB = true ∧ c = 0 ∧ ∃ base hb N em M V, p = .pointer (some ⟨hb, 0, none⟩) ∧ HyphAt w' base hb (trie P) (exE []) N em M V)
theorem new_alone {v : Value} {ps : List ByteArray} {w W : World} (hb : Below w.heap.size w W) (h : TxAt W v ps) (hl : ps.length ≤ 1000) {nI : Int} (hn : newI (ps.map bs) [] = nI) :
    Calls Tryd.prog 10 #[v, .slice none 0 0] W fun e w' => ∃ p c, e = .returned (.tuple #[p, .int .i64 c]) ∧ Below w.heap.size w w' ∧ NewR nI (ps.map bs) p c w' := by
  subst hn
  refine (new_any v _ ps [] W h (tx_nil W) hl (by simp) (by simp)).mono ?_
  rintro e w' ⟨hb', ⟨hn, rfl⟩ | ⟨hn, hg, g, N, em, M, V, rfl, hH⟩⟩
  · exact ⟨_, _, rfl, hb.trans (hb'.mono hb.size), .inl ⟨hn, rfl, rfl⟩⟩
  · exact ⟨_, _, rfl, hb.trans (hb'.mono hb.size), .inr ⟨hn, hg, rfl, _, g, N, em, M, V, rfl, hH⟩⟩
theorem new_more {v : Value} {ps : List ByteArray} {x : ByteArray} {w W : World} (hb : Below w.heap.size w W) (h : W.ownsRow w.heap.size 9 1 v (ps.length + 1) (strs ps ++ [.string x])) (hl : ps.length ≤ 200) (hx : patB (bs x) = true) {nI : Int} (hn : newI (ps.map bs) [] = nI) :
    Calls Tryd.prog 10 #[v, .slice none 0 0] W fun e w' => ∃ p c, e = .returned (.tuple #[p, .int .i64 c]) ∧ Below w.heap.size w w' ∧ NewR nI (ps.map bs ++ [bs x]) p c w' := by
  have h2 : TxAt W v (ps ++ [x]) := by
    refine tx_of_row (base := w.heap.size) ?_
    rw [List.length_append]
    have e : strs (ps ++ [x]) = strs ps ++ [.string x] := by simp [strs]
    rw [e]; exact h
  have := new_alone hb h2 (by simp; omega) (nI := nI) (by rw [List.map_append, ← hn]; exact newI_eight (by simpa using hl) hx)
  rw [List.map_append] at this
  exact this
theorem points_more {W : World} {base hb : Nat} {P : List Bs} {N : Ns} {em M : Nat} {V : Vs} (hg : P.all patB = true) (h : HyphAt W base hb (trie P) (exE []) N em M V) {s : ByteArray} (hw : wordB (bs s) = true) {d : List Int} (hd : oddV P (low (bs s)) = d) :
    Calls Tryd.prog 14 #[.pointer (some ⟨hb, 0, none⟩), .string s] W fun e w' => ∃ v c, e = .returned (.tuple #[v, .int .i64 c]) ∧ Below W.heap.size W w' ∧ w'.ownsRow W.heap.size 3 1 v d.length (ints d) := by
  have e1 : ptV P [] (bs s) = d := by unfold ptV; rw [if_pos hw, ← hd]; rfl
  have := points_any h s
  rw [ptR_val hg, e1] at this
  refine this.mono ?_
  rintro e w' ⟨v, rfl, h1, h2⟩
  exact ⟨v, _, rfl, h1, h2⟩
theorem tx_srcs {W : World} {v : Value} {ss : List ByteArray} (h : TxAt W v ss) : Srcs W 1 v ss.length (strs ss) := by
  have := rec_srcs (k := 1) (f := fun s : ByteArray => [Value.string s]) (fun _ => rfl) (fun a u hu => by simp at hu; subst hu; rfl) (by decide) h
  rwa [flat_one] at this
/-- Whether the added pattern leaves a point. -/
theorem stands_no1 {r w : Bs} {a : Nat} {k : Int} (h : k - a < 0) : stands r w a k = false := by
  unfold stands; rw [decide_eq_false (by omega)]; rfl
theorem stands_no2 {r w : Bs} {a : Nat} {k : Int} (h : (w.length : Int) < k - a + r.length) : stands r w a k = false := by
  unfold stands; rw [decide_eq_false (p := k - a + r.length ≤ w.length) (by omega)]; simp
theorem cut_ba {q v : ByteArray} {y : Int} (h0 : 0 ≤ y) : (v.extract y.toNat (y + q.size).toNat = q) ↔ ((bs v).drop y.toNat).take (bs q).length = bs q := by
  have e : bs (v.extract y.toNat (y + q.size).toNat) = ((bs v).drop y.toNat).take (bs q).length := by
    unfold bs
    rw [extract_ba, size_ba, List.drop_take]
    congr 1
    omega
  rw [← e]
  constructor
  · intro h; rw [h]
  · intro h
    rw [ba_eq (a := v.extract y.toNat (y + q.size).toNat) h]
theorem stands_case {q v : ByteArray} {a : Nat} {y : Int} (hs : stands (bs q) (bs v) a y = false) (hy : 0 ≤ y) :
    (y - a < 0) ∨ (¬ y - a < 0 ∧ (v.size : Int) < y - a + q.size) ∨ (¬ y - a < 0 ∧ ¬ (v.size : Int) < y - a + q.size ∧ ((v.extract (y.toNat - a) (y - a + q.size).toNat).toList == q.toList) = false) := by
  by_cases h1 : y - a < 0
  · exact .inl h1
  by_cases h2 : (v.size : Int) < y - a + q.size
  · exact .inr (.inl ⟨h1, h2⟩)
  refine .inr (.inr ⟨h1, h2, ?_⟩)
  rw [beq_eq_false_iff_ne, ByteArray.toList_eq, ByteArray.toList_eq]
  intro e
  have e2 : v.extract (y - a).toNat (y - a + q.size).toNat = q := by
    rw [show (y - a).toNat = y.toNat - a by omega]
    exact ByteArray.ext (Array.toList_inj.mp e)
  have e3 := (cut_ba (q := q) (v := v) (y := y - a) (by omega)).1 e2
  unfold stands at hs
  rw [decide_eq_true (by omega), decide_eq_true (by rw [show (bs q).length = q.size from size_ba q, show (bs v).length = v.size from size_ba v]; omega), decide_eq_true e3] at hs
  cases hs
theorem stands_at {q v : ByteArray} {a : Nat} {y : Int} (hs : stands (bs q) (bs v) a y = true) :
    ¬ y - a < 0 ∧ ¬ (v.size : Int) < y - a + q.size ∧ ((v.extract (y.toNat - a) (y - a + q.size).toNat).toList == q.toList) = true := by
  unfold stands at hs
  simp only [Bool.and_eq_true, decide_eq_true_eq] at hs
  obtain ⟨h1, h2, h3⟩ := hs
  rw [show (bs q).length = q.size from size_ba q, show (bs v).length = v.size from size_ba v] at h2
  refine ⟨by omega, by omega, ?_⟩
  have e2 := (cut_ba (q := q) (v := v) (y := y - a) (by omega)).2 h3
  rw [show (y - a).toNat = y.toNat - a by omega] at e2
  rw [e2]
  exact beq_self_eq_true _
end Go.Proofs.YtfblhpkndfbhgaaDoor
