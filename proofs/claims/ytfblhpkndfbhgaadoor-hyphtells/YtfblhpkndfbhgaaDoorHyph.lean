/-
  What is proved here: hyphs in memory: a trie, and exceptions.
-/
import Derived.Test.YtfblhpkndfbhgaaDoorExcA
import Derived.Laws.IdiomStrings
namespace Go.Proofs.YtfblhpkndfbhgaaDoor
open Go.RowKit Go.Shelf

/-- Exceptions: of each word its places. -/
abbrev Ex := Bs → Option (List Int)
abbrev Vs := Bs → Option Value
def HOwn (N : Ns) (em : Nat) (V : Vs) (k : Nat) : Prop := NOwn N k ∨ k = em ∨ ∃ l v, V l = some v ∧ v.ownBlock = some k
structure HyphAt (w : World) (base hb : Nat) (T : Tr) (E : Ex) (N : Ns) (em M : Nat) (V : Vs) : Prop where
  trie : TrieAt w hb (.pointer (some ⟨hb, 0, none⟩)) (.map (some em)) T N M
  emap : MapAt 9 encS w em (fun s => V s.data.toList) M
  rows : ∀ l v, V l = some v → ∃ d, E l = some d ∧ d.length ≤ 1000 ∧ w.ownsRow 0 3 1 v d.length (ints d)
  dom : ∀ l, V l = none → E l = none
  ape : ¬ NOwn N em
  apr : ∀ l v g, V l = some v → v.ownBlock = some g → ¬ NOwn N g
  young : ∀ k, HOwn N em V k → base ≤ k
section
variable {w w' : World} {base hb : Nat} {T : Tr} {E : Ex} {N : Ns} {em M : Nat} {V : Vs}
theorem HyphAt.lt (h : HyphAt w base hb T E N em M V) {k : Nat} (hk : HOwn N em V k) : k < w.heap.size := by
  rcases hk with hk | rfl | ⟨l, v, h1, h2⟩
  · exact h.trie.lt hk
  · exact h.emap.lt
  · obtain ⟨d, _, _, hr⟩ := h.rows l v h1
    exact row_lt hr h2
theorem HyphAt.turns (h : HyphAt w base hb T E N em M V) {X : Nat → Prop} (ht : Turns X w w') (hx : ∀ k, X k → ¬ HOwn N em V k) : HyphAt w' base hb T E N em M V :=
  ⟨h.trie.turns ht (fun k hX hk => hx k hX (.inl hk)), h.emap.turns ht (fun hX => hx em hX (.inr (.inl rfl))), fun l v hv => by
    obtain ⟨d, h1, h2, h3⟩ := h.rows l v hv
    exact ⟨d, h1, h2, ownsRow_turns h3 ht (fun g hg hX => hx g hX (.inr (.inr ⟨l, v, hv, hg⟩)))⟩, h.dom, h.ape, h.apr, h.young⟩
theorem HyphAt.below (h : HyphAt w base hb T E N em M V) (hbl : Below w.heap.size w w') : HyphAt w' base hb T E N em M V := h.turns (Turns.of_below hbl) (fun _ h => h.elim)
theorem HyphAt.mono (h : HyphAt w base hb T E N em M V) {M' : Nat} (hM : M ≤ M') : HyphAt w base hb T E N em M' V :=
  ⟨h.trie.mono hM, h.emap.mono hM, h.rows, h.dom, h.ape, h.apr, h.young⟩
theorem HyphAt.some_iff (h : HyphAt w base hb T E N em M V) (l : Bs) : (V l).isSome = (E l).isSome := by
  cases hv : V l with
  | none => rw [h.dom l hv]; rfl
  | some v => obtain ⟨d, hd, _⟩ := h.rows l v hv; rw [hd]; rfl
/-- The cells of the object itself. -/
theorem HyphAt.cells (h : HyphAt w base hb T E N em M V) : w.cell? ⟨hb, 0, none⟩ = some (.pointer (some ⟨hb, 0, none⟩)) ∧ w.cell? ⟨hb, 3, none⟩ = some (.map (some em)) := by
  obtain ⟨x, h1, h2, h3, h4, h5⟩ := h.trie.root
  obtain ⟨d, hd⟩ := h.trie.get h1
  have hl := h.trie.loc [] x d h1 hd
  have hbk := hl.blk
  rw [h5, h2] at hbk
  exact ⟨by rw [hbk.cell]; rfl, by rw [hbk.cell]; rfl⟩
/-- A pattern is put in. -/
theorem HyphAt.trie_step (h : HyphAt w base hb T E N em M V) {T' : Tr} {N' : Ns} {M' : Nat} (hb0 : base ≤ w.heap.size) (ht : TrieAt w' hb (.pointer (some ⟨hb, 0, none⟩)) (.map (some em)) T' N' M') (hx : Ext N w N' w') (hM : M ≤ M') : HyphAt w' base hb T' E N' em M' V := by
  have hem := h.emap.lt
  refine ⟨ht, (h.emap.turns hx.1 h.ape).mono hM, fun l v hv => ?_, h.dom, fun hk => ?_, fun l v g hv hg hk => ?_, fun k hk => ?_⟩
  · obtain ⟨d, h1, h2, h3⟩ := h.rows l v hv
    exact ⟨d, h1, h2, ownsRow_turns h3 hx.1 (fun g hg => h.apr l v g hv hg)⟩
  · rcases hx.2 em hk with h1 | h1
    · exact h.ape h1
    · omega
  · rcases hx.2 g hk with h1 | h1
    · exact h.apr l v g hv hg h1
    · obtain ⟨d, _, _, h3⟩ := h.rows l v hv
      have := row_lt h3 hg; omega
  · rcases hk with hk | hk
    · rcases hx.2 k hk with h1 | h1
      · exact h.young k (.inl h1)
      · omega
    · exact h.young k (.inr hk)
def setV {α : Type} (V : Bs → Option α) (l : Bs) (v : α) : Bs → Option α := fun u => if u = l then some v else V u
/-- An exception is put in. -/
theorem HyphAt.exc (h : HyphAt w base hb T E N em M V) (_hb0 : base ≤ w.heap.size) {v : Value} {d : List Int} (hd : d.length ≤ 1000) (hr : w.ownsRow base 3 1 v d.length (ints d)) (hv : ∀ g, v.ownBlock = some g → ¬ NOwn N g) (s : ByteArray) (hs : s.size ≤ 1000000) (hM : M < 1000000) :
    ∃ w', (Instr.mapUpdate 46 (.map (some em)) (.string s) v).run Tryd.prog w = .ok () w' ∧ HyphAt w' base hb T (setV E s.data.toList d) N em (M + 1) (setV V s.data.toList v) ∧ Turns (fun k => k = em) w w' := by
  obtain ⟨w', h1, h2, h3⟩ := h.emap.put law9 Tryd.underlying46 (by unfold maxLen; omega) s (keyOf9 (by unfold maxLen; omega)) v encS_inj (fun _ => trivial)
  obtain ⟨es, cl, hm⟩ := h.emap.isMap
  have hrow : ∀ {b n : Nat} {u : Value} {xs : List Value}, w.ownsRow b 3 1 u n xs → w'.ownsRow b 3 1 u n xs := fun hu => ownsRow_turns hu h3 (fun g hg (e : g = em) => by
    subst e
    rcases hu.2 with ⟨h1, _⟩ | ⟨a, cap, cur, h1, _, ha, _⟩
    · rw [h1] at hg; cases hg
    · rw [h1] at hg; cases hg; rw [hm] at ha; cases ha)
  refine ⟨w', h1, ⟨(h.trie.turns h3 (fun k hk hN => h.ape (by subst hk; exact hN))).mono (by omega), ?_, fun l u hu => ?_, fun l hl => ?_, h.ape, fun l u g hu hg => ?_, fun k hk => ?_⟩, h3⟩
  · have e : (fun a : ByteArray => setV V s.data.toList v a.data.toList) = fun a => if a = s then some v else V a.data.toList := by
      funext a
      unfold setV
      by_cases ha : a = s
      · rw [if_pos ha, if_pos (by rw [ha])]
      · rw [if_neg ha, if_neg (fun e => ha (by rw [ba_eq (a := a) rfl, e, ← ba_eq (a := s) rfl]))]
    rw [e]; exact h2
  · unfold setV at hu ⊢
    by_cases hl : l = s.data.toList
    · rw [if_pos hl] at hu ⊢
      cases hu
      exact ⟨d, rfl, hd, hrow (ownsRow_base hr (Nat.zero_le _))⟩
    · rw [if_neg hl] at hu ⊢
      obtain ⟨d', q1, q2, q3⟩ := h.rows l u hu
      exact ⟨d', q1, q2, hrow q3⟩
  · unfold setV at hl ⊢
    by_cases e : l = s.data.toList
    · rw [if_pos e] at hl; cases hl
    · rw [if_neg e] at hl ⊢; exact h.dom l hl
  · unfold setV at hu
    by_cases e : l = s.data.toList
    · rw [if_pos e] at hu; cases hu; exact hv g hg
    · rw [if_neg e] at hu; exact h.apr l u g hu hg
  · rcases hk with hk | rfl | ⟨l, u, hu, hg⟩
    · exact h.young k (.inl hk)
    · exact h.young k (.inr (.inl rfl))
    · unfold setV at hu
      by_cases e : l = s.data.toList
      · rw [if_pos e] at hu; cases hu; exact (hr.lt k hg).1
      · rw [if_neg e] at hu; exact h.young k (.inr (.inr ⟨l, u, hu, hg⟩))
end
/-- Bytes in memory, as a text. -/
theorem conv_bytes {W : World} {base : Nat} {v : Value} {l : Bs} (h : W.ownsRow base 5 1 v l.length (Lib.byteCells l)) : (convert 71 9 v).run Tryd.prog W = .ok (.string ⟨l.toArray⟩) W := by
  rcases h.2 with ⟨rfl, h0⟩ | ⟨g, cap, cur, rfl, _, hg, hcap, _, _, htk⟩
  · have : l = [] := List.eq_nil_of_length_eq_zero h0
    subst this
    show (convert 71 9 (.slice none 0 0)).run Tryd.prog W = _
    rw [run_convert_bytes_string W 71 9 5 none 0 0 Tryd.underlying71 Tryd.underlying5 Tryd.underlying9]
    rfl
  · exact run_convert_bytes_back (P := Tryd.prog) W 71 9 5 ⟨g, 0, none⟩ cap l Tryd.underlying71 Tryd.underlying5 Tryd.underlying9 (fun j hj => h.cells (g := g) rfl j _ (by simp [Lib.byteCells, hj]))
end Go.Proofs.YtfblhpkndfbhgaaDoor
