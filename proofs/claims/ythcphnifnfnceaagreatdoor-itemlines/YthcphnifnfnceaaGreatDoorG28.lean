/-
  What is proved here: hyphs in memory: a trie, and exceptions.
  What is proved here: what except of a hyph does.
-/
import Derived.Test.YthcphnifnfnceaaGreatDoorG27
import Derived.Laws.IdiomStrings
namespace Go.Proofs.YthcphnifnfnceaaGreatDoor.Hy
open Go.RowKit Go.Shelf

/-- Exceptions: of each word its places. -/
abbrev Ex := Bs → Option (List Int)
abbrev Vs := Bs → Option Value
def HOwn (N : Ns) (em : Nat) (V : Vs) (k : Nat) : Prop := NOwn N k ∨ k = em ∨ ∃ l v, V l = some v ∧ v.ownBlock = some k
structure HyphAt (w : World) (base hb : Nat) (T : Tr) (E : Ex) (N : Ns) (em M : Nat) (V : Vs) : Prop where
  trie : TrieAt w hb (.pointer (some ⟨hb, 0, none⟩)) (.map (some em)) T N M
  emap : MapAt 9 encS w em (fun s => V s.data.toList) M
  rows : ∀ l v, V l = some v → ∃ d, E l = some d ∧ d.length ≤ 1000 ∧ w.ownsRow 0 3 1 v d.length (ints d)
  dom : ∀ l, V l = none → E l = none
  ape : ¬ NOwn N em
  apr : ∀ l v g, V l = some v → v.ownBlock = some g → ¬ NOwn N g
  young : ∀ k, HOwn N em V k → base ≤ k
section
variable {w w' : World} {base hb : Nat} {T : Tr} {E : Ex} {N : Ns} {em M : Nat} {V : Vs}
theorem HyphAt.lt (h : HyphAt w base hb T E N em M V) {k : Nat} (hk : HOwn N em V k) : k < w.heap.size := by
  rcases hk with hk | rfl | ⟨l, v, h1, h2⟩
  · exact h.trie.lt hk
  · exact h.emap.lt
  · obtain ⟨d, _, _, hr⟩ := h.rows l v h1
    exact row_lt hr h2
theorem HyphAt.turns (h : HyphAt w base hb T E N em M V) {X : Nat → Prop} (ht : Turns X w w') (hx : ∀ k, X k → ¬ HOwn N em V k) : HyphAt w' base hb T E N em M V :=
  ⟨h.trie.turns ht (fun k hX hk => hx k hX (.inl hk)), h.emap.turns ht (fun hX => hx em hX (.inr (.inl rfl))), fun l v hv => by
    obtain ⟨d, h1, h2, h3⟩ := h.rows l v hv
    exact ⟨d, h1, h2, ownsRow_turns h3 ht (fun g hg hX => hx g hX (.inr (.inr ⟨l, v, hv, hg⟩)))⟩, h.dom, h.ape, h.apr, h.young⟩
theorem HyphAt.below (h : HyphAt w base hb T E N em M V) (hbl : Below w.heap.size w w') : HyphAt w' base hb T E N em M V := h.turns (Turns.of_below hbl) (fun _ h => h.elim)
theorem HyphAt.mono (h : HyphAt w base hb T E N em M V) {M' : Nat} (hM : M ≤ M') : HyphAt w base hb T E N em M' V :=
  ⟨h.trie.mono hM, h.emap.mono hM, h.rows, h.dom, h.ape, h.apr, h.young⟩
theorem HyphAt.some_iff (h : HyphAt w base hb T E N em M V) (l : Bs) : (V l).isSome = (E l).isSome := by
  cases hv : V l with
  | none => rw [h.dom l hv]; rfl
  | some v => obtain ⟨d, hd, _⟩ := h.rows l v hv; rw [hd]; rfl
/-- The cells of the object itself. -/
theorem HyphAt.cells (h : HyphAt w base hb T E N em M V) : w.cell? ⟨hb, 0, none⟩ = some (.pointer (some ⟨hb, 0, none⟩)) ∧ w.cell? ⟨hb, 3, none⟩ = some (.map (some em)) := by
  obtain ⟨x, h1, h2, h3, h4, h5⟩ := h.trie.root
  obtain ⟨d, hd⟩ := h.trie.get h1
  have hl := h.trie.loc [] x d h1 hd
  have hbk := hl.blk
  rw [h5, h2] at hbk
  exact ⟨by rw [hbk.cell]; rfl, by rw [hbk.cell]; rfl⟩
/-- A pattern is put in. -/
theorem HyphAt.trie_step (h : HyphAt w base hb T E N em M V) {T' : Tr} {N' : Ns} {M' : Nat} (hb0 : base ≤ w.heap.size) (ht : TrieAt w' hb (.pointer (some ⟨hb, 0, none⟩)) (.map (some em)) T' N' M') (hx : Ext N w N' w') (hM : M ≤ M') : HyphAt w' base hb T' E N' em M' V := by
  have hem := h.emap.lt
  refine ⟨ht, (h.emap.turns hx.1 h.ape).mono hM, fun l v hv => ?_, h.dom, fun hk => ?_, fun l v g hv hg hk => ?_, fun k hk => ?_⟩
  · obtain ⟨d, h1, h2, h3⟩ := h.rows l v hv
    exact ⟨d, h1, h2, ownsRow_turns h3 hx.1 (fun g hg => h.apr l v g hv hg)⟩
  · rcases hx.2 em hk with h1 | h1
    · exact h.ape h1
    · omega
  · rcases hx.2 g hk with h1 | h1
    · exact h.apr l v g hv hg h1
    · obtain ⟨d, _, _, h3⟩ := h.rows l v hv
      have := row_lt h3 hg; omega
  · rcases hk with hk | hk
    · rcases hx.2 k hk with h1 | h1
      · exact h.young k (.inl h1)
      · omega
    · exact h.young k (.inr hk)
def setV {α : Type} (V : Bs → Option α) (l : Bs) (v : α) : Bs → Option α := fun u => if u = l then some v else V u
/-- An exception is put in. -/
theorem HyphAt.exc (h : HyphAt w base hb T E N em M V) (_hb0 : base ≤ w.heap.size) {v : Value} {d : List Int} (hd : d.length ≤ 1000) (hr : w.ownsRow base 3 1 v d.length (ints d)) (hv : ∀ g, v.ownBlock = some g → ¬ NOwn N g) (s : ByteArray) (hs : s.size ≤ 1000000) (hM : M < 1000000) :
    ∃ w', (Instr.mapUpdate 153 (.map (some em)) (.string s) v).run Tryz.prog w = .ok () w' ∧ HyphAt w' base hb T (setV E s.data.toList d) N em (M + 1) (setV V s.data.toList v) ∧ Turns (fun k => k = em) w w' := by
  obtain ⟨w', h1, h2, h3⟩ := h.emap.put law9 Tryz.underlying153 (by unfold maxLen; omega) s (keyOf9 (by unfold maxLen; omega)) v encS_inj (fun _ => trivial)
  obtain ⟨es, cl, hm⟩ := h.emap.isMap
  have hrow : ∀ {b n : Nat} {u : Value} {xs : List Value}, w.ownsRow b 3 1 u n xs → w'.ownsRow b 3 1 u n xs := fun hu => ownsRow_turns hu h3 (fun g hg (e : g = em) => by
    subst e
    rcases hu.2 with ⟨h1, _⟩ | ⟨a, cap, cur, h1, _, ha, _⟩
    · rw [h1] at hg; cases hg
    · rw [h1] at hg; cases hg; rw [hm] at ha; cases ha)
  refine ⟨w', h1, ⟨(h.trie.turns h3 (fun k hk hN => h.ape (by subst hk; exact hN))).mono (by omega), ?_, fun l u hu => ?_, fun l hl => ?_, h.ape, fun l u g hu hg => ?_, fun k hk => ?_⟩, h3⟩
  · have e : (fun a : ByteArray => setV V s.data.toList v a.data.toList) = fun a => if a = s then some v else V a.data.toList := by
      funext a
      unfold setV
      by_cases ha : a = s
      · rw [if_pos ha, if_pos (by rw [ha])]
      · rw [if_neg ha, if_neg (fun e => ha (by rw [ba_eq (a := a) rfl, e, ← ba_eq (a := s) rfl]))]
    rw [e]; exact h2
  · unfold setV at hu ⊢
    by_cases hl : l = s.data.toList
    · rw [if_pos hl] at hu ⊢
      cases hu
      exact ⟨d, rfl, hd, hrow (ownsRow_base hr (Nat.zero_le _))⟩
    · rw [if_neg hl] at hu ⊢
      obtain ⟨d', q1, q2, q3⟩ := h.rows l u hu
      exact ⟨d', q1, q2, hrow q3⟩
  · unfold setV at hl ⊢
    by_cases e : l = s.data.toList
    · rw [if_pos e] at hl; cases hl
    · rw [if_neg e] at hl ⊢; exact h.dom l hl
  · unfold setV at hu
    by_cases e : l = s.data.toList
    · rw [if_pos e] at hu; cases hu; exact hv g hg
    · rw [if_neg e] at hu; exact h.apr l u g hu hg
  · rcases hk with hk | rfl | ⟨l, u, hu, hg⟩
    · exact h.young k (.inl hk)
    · exact h.young k (.inr (.inl rfl))
    · unfold setV at hu
      by_cases e : l = s.data.toList
      · rw [if_pos e] at hu; cases hu; exact (hr.lt k hg).1
      · rw [if_neg e] at hu; exact h.young k (.inr (.inr ⟨l, u, hu, hg⟩))
end
/-- Bytes in memory, as a text. -/
theorem conv_bytes {W : World} {base : Nat} {v : Value} {l : Bs} (h : W.ownsRow base 5 1 v l.length (Lib.byteCells l)) : (convert 145 9 v).run Tryz.prog W = .ok (.string ⟨l.toArray⟩) W := by
  rcases h.2 with ⟨rfl, h0⟩ | ⟨g, cap, cur, rfl, _, hg, hcap, _, _, htk⟩
  · have : l = [] := List.eq_nil_of_length_eq_zero h0
    subst this
    show (convert 145 9 (.slice none 0 0)).run Tryz.prog W = _
    rw [run_convert_bytes_string W 145 9 5 none 0 0 Tryz.underlying145 Tryz.underlying5 Tryz.underlying9]
    rfl
  · exact run_convert_bytes_back (P := Tryz.prog) W 145 9 5 ⟨g, 0, none⟩ cap l Tryz.underlying145 Tryz.underlying5 Tryz.underlying9 (fun j hj => h.cells (g := g) rfl j _ (by simp [Lib.byteCells, hj]))
end Go.Proofs.YthcphnifnfnceaaGreatDoor.Hy

namespace Go.Proofs.YthcphnifnfnceaaGreatDoor.Hy
open Go.RowKit Go.Shelf
attribute [local go_sem] Oper.semAt_some wide_fn wide_depth

def excW (x : Bs) : Bs := wordTo (parts x) (parts x).length
def excP (x : Bs) : List Int := plTo (parts x) (parts x).length
theorem wordTo_len (x : Bs) : ∀ j, (wordTo (parts x) j).length ≤ x.length := by
  suffices h : ∀ x : Bs, (parts x).flatten.length ≤ x.length by
    intro j
    refine Nat.le_trans ?_ (h x)
    unfold wordTo
    have e : (parts x).flatten = ((parts x).take j).flatten ++ ((parts x).drop j).flatten := by rw [← List.flatten_append, List.take_append_drop]
    rw [e, List.length_append]; omega
  intro x
  induction x with
  | nil => simp [parts]
  | cons c l ih =>
    rw [parts]
    split
    · simp; simp at ih; omega
    · cases hp : parts l with
      | nil => exact absurd hp (parts_ne l)
      | cons a b =>
        rw [hp] at ih
        simp at ih ⊢; omega
theorem parts_cnt : ∀ x : Bs, (parts x).length ≤ x.length + 1
  | [] => by simp [parts]
  | c :: l => by
    have := parts_cnt l
    rw [parts]
    split
    · simp; omega
    · split
      · rename_i e; rw [e] at this; simp at this ⊢; omega
      · simp
def EP (_w : World) (base hb : Nat) (T : Tr) (E : Ex) (N : Ns) (em M : Nat) (V : Vs) (x : Bs) (w' : World) : Prop :=
  if (E (excW x)).isSome then HyphAt w' base hb T E N em M V else ∃ V', HyphAt w' base hb T (setV E (excW x) (excP x)) N em (M + 1) V'

theorem cells_one (W : World) (u : Value) (e : TypeId) : ∀ j v, [u][j]? = some v → (W.alloc (.cells #[u] e)).cell? ((⟨W.heap.size, 0, none⟩ : Addr).add j) = some v := fun j v hj => by
  match j, hj with
  | 0, hj =>
    simp at hj
    subst hj
    rw [addr_add0, Lib.cell_of_heap (World.alloc_heap_new W (.cells #[u] e (0, 0)))]; rfl
set_option maxRecDepth 100000 in
set_option maxHeartbeats 2000000 in
theorem except_any {w : World} {base hb : Nat} {T : Tr} {E : Ex} {N : Ns} {em M : Nat} {V : Vs} (h : HyphAt w base hb T E N em M V) (hbase : base ≤ w.heap.size) (hM : M < 900000) (x : ByteArray) (hx : x.size ≤ 200) :
    Calls Tryz.prog 131 #[.pointer (some ⟨hb, 0, none⟩), .string x] w fun e w' => e = .returned (.bool (!(E (excW x.data.toList)).isSome)) ∧ Turns (fun k => k = em) w w' ∧ EP w base hb T E N em M V x.data.toList w' := by
  obtain ⟨i3, hi⟩ := Option.isSome_iff_exists.1 (show (Tryz.prog.info? 3).isSome = true by kernel_rfl)
  have hz0 : i3.zero = some (.int .i64 0) := by
    have h : (Tryz.prog.info? 3).map (·.zero) = some (some (.int .i64 0)) := by kernel_rfl
    rw [hi] at h; simpa using h
  have hz1 : i3.size = 1 := by
    have h : (Tryz.prog.info? 3).map (·.size) = some 1 := by kernel_rfl
    rw [hi] at h; simpa using h
  have hz2 : i3.bytes = 8 := by
    have h : (Tryz.prog.info? 3).map (·.bytes) = some 8 := by kernel_rfl
    rw [hi] at h; simpa using h
  obtain ⟨i5, hi5⟩ := Option.isSome_iff_exists.1 (show (Tryz.prog.info? 5).isSome = true by kernel_rfl)
  have hy0 : i5.zero = some (.int .u8 0) := by
    have h : (Tryz.prog.info? 5).map (·.zero) = some (some (.int .u8 0)) := by kernel_rfl
    rw [hi5] at h; simpa using h
  have hy1 : i5.size = 1 := by
    have h : (Tryz.prog.info? 5).map (·.size) = some 1 := by kernel_rfl
    rw [hi5] at h; simpa using h
  have hy2 : i5.bytes = 1 := by
    have h : (Tryz.prog.info? 5).map (·.bytes) = some 1 := by kernel_rfl
    rw [hi5] at h; simpa using h
  have hsome := h.some_iff (excW x.data.toList)
  generalize hr : (E (excW x.data.toList)).isSome = r at hsome ⊢
  have hrh : Hid ((E (excW x.data.toList)).isSome = r) := hr
  clear hr
  refine callsIn_wide (n := 0).1 ?_
  refine callsIn_of_wp_marks Tryz.func131 rfl trivial ?_ rfl
  simp only [Tryz.ntmps131, List.size_toArray, List.length_cons, List.length_nil, Nat.reduceAdd, Nat.reduceSub, Array.replicate_succ, Array.replicate_zero, List.push_toArray, List.append_toArray, List.nil_append, List.cons_append]
  gi_wp2_with (gi_at_call 167; refine (callsIn_wide.2 (split_any _ _)).mono ?_; rintro e w' ⟨rfl, rfl⟩)
  obtain ⟨w1, hw1⟩ : ∃ w1, (w.alloc (.cells #[.slice none 0 0] 145)).alloc (.cells #[.slice none 0 0] 111) = w1 := ⟨_, rfl⟩
  have hs1 : w1.heap.size = w.heap.size + 1 + 1 := by rw [← hw1]; simp
  have hB0 : Blk w1 w.heap.size #[.slice none 0 0] 145 := by rw [← hw1]; exact (Below.heap_alloc _ _ _ (by simp)).trans (World.alloc_heap_new w _)
  have hB1 : Blk w1 (w.heap.size + 1) #[.slice none 0 0] 111 := by
    rw [← hw1]
    have := World.alloc_heap_new (w.alloc (.cells #[.slice none 0 0] 145)) (.cells #[.slice none 0 0] 111)
    rwa [World.size_alloc] at this
  have hT1 : Turns Noth w w1 := by rw [← hw1]; exact (Turns.alloc _ _ _).trans (Turns.alloc _ _ _)
  rw [hw1, ← hs1]
  have hlen := wordTo_len x.data.toList
  rw [size_ba] at hlen
  have hpc := parts_cnt x.data.toList
  rw [size_ba] at hpc
  have hst0 : S2 w1 w.heap.size (w.heap.size + 1) (.slice none 0 0) (.slice none 0 0) (wordTo (parts x.data.toList) 0) (plTo (parts x.data.toList) 0) (X3 w1.heap.size) (splitW x w1) :=
    ⟨splitW_base x w1 _, hB0.turns (splitW_turns x w1 Noth) (fun h => h), hB1.turns (splitW_turns x w1 Noth) (fun h => h), World.ownsRow_nil _ _ _ _, World.ownsRow_nil _ _ _ _, (fun g hg => by cases hg), (fun g hg => by cases hg)⟩
  refine wp_rangeX (gf := 195) (lb := splitV w1.heap.size) rfl (enters_of Tryz.func195 (by kernel_rfl) rfl) (split1_gives w1.heap.size x (by omega)) (fun _ => rfl)
    (fun j X W => ∃ wv pv, S2 w1 w.heap.size (w.heap.size + 1) wv pv (wordTo (parts x.data.toList) j) (plTo (parts x.data.toList) j) X W)
    (fun c j X W => False)
    (fun a' j X W => (∃ wv pv, S2 w1 w.heap.size (w.heap.size + 1) wv pv (wordTo (parts x.data.toList) j) (plTo (parts x.data.toList) j) X W) ∧
      a' = { tmps := #[.pointer (some ⟨hb, 0, none⟩), .string x, undef, undef, .bool false, .pointer (some ⟨w.heap.size, 0, none⟩), .pointer (some ⟨w.heap.size + 1, 0, none⟩), .string (partN x j), undef, undef, .string x, .func (.func 195) #[] (splitV w1.heap.size), .string (partN x j), undef, undef, undef, undef, undef, undef, undef, undef, undef, undef, undef, undef, undef, undef, undef, undef, undef, undef, undef, undef, undef, undef, undef, undef, undef, undef, undef, undef, undef], defers := [] })
    (S2.steady w1 _ _ (by omega) (by omega) _ _) (fun c => steady_never) (fun a' => (S2.steady w1 _ _ (by omega) (by omega) _ _).and (Steady.pure _)) (splitW_read x w1) ?hX ⟨_, _, hst0⟩ ?assign ?body ?done ?stop
  case hX => intro k hk; rw [splitW_size]; rcases hk with rfl | rfl | rfl <;> omega
  case assign =>
    rintro l j X W K hj hS hK
    unfold encP
    gi_wp2
    exact hK _ _ (Keeps.refl _ _) ⟨hS, by rw [hs1]⟩
  case body =>
    rintro l j X a' W hj ⟨⟨wv, pv, hS⟩, rfl⟩
    have hws := wordTo_succ hj
    rw [← partN_is hj] at hws
    have hplj := plTo_len (parts x.data.toList) j
    have hpls : plTo (parts x.data.toList) (j + 1) = if 0 < (wordTo (parts x.data.toList) j).length then plTo (parts x.data.toList) j ++ [((wordTo (parts x.data.toList) j).length : Int)] else plTo (parts x.data.toList) j := rfl
    have hl0 := hlen j
    have hl1 := hlen (j + 1)
    have hlw : (wordTo (parts x.data.toList) (j + 1)).length = (wordTo (parts x.data.toList) j).length + (partN x j).size := by rw [hws, List.length_append, size_ba]
    have hbs := hS.base.turns.size
    have hsum : (wordTo (parts x.data.toList) j).length + (partN x j).size ≤ 200 := by omega
    have hgo : Hid (∀ W1 pv1 pl1, S2 w1 w.heap.size (w.heap.size + 1) wv pv1 (wordTo (parts x.data.toList) j) pl1 X W1 → Keeps X W W1 → plTo (parts x.data.toList) (j + 1) = pl1 → ∀ wv' W2, W2.ownsRow w1.heap.size 5 1 wv' ((wordTo (parts x.data.toList) j).length + (partN x j).size) (Lib.byteCells (wordTo (parts x.data.toList) j) ++ Lib.strCells (partN x j)) → W1.grownBy W2 wv.ownBlock →
        (wv'.ownBlock = wv.ownBlock ∨ ∀ g, wv'.ownBlock = some g → W1.heap.size ≤ g) → (W2.frozen? ⟨w.heap.size, 0, none⟩ = false ∧ W2.cell? ⟨w.heap.size, 0, none⟩ = some wv) ∧ Keeps X W (W2.setCell ⟨w.heap.size, 0, none⟩ wv') ∧ ∃ wv pv, S2 w1 w.heap.size (w.heap.size + 1) wv pv (wordTo (parts x.data.toList) (j + 1)) (plTo (parts x.data.toList) (j + 1)) X (W2.setCell ⟨w.heap.size, 0, none⟩ wv')) := by
      intro W1 pv1 pl1 h1 hk1 hpl wv' W2 h2 h3 h4
      have hb2 : Blk W2 w.heap.size #[wv] 145 := h1.bw.turns (Turns.of_grownBy h3) (fun e => row_ne h1.rw h1.bw (by decide) e)
      have hT : Turns (fun k => k = w.heap.size ∨ wv.ownBlock = some k) W1 (W2.setCell ⟨w.heap.size, 0, none⟩ wv') := ((Turns.of_grownBy h3).mono (fun k hk => .inr hk)).trans (Turns.setCell W2 (p := ⟨w.heap.size, 0, none⟩) (.inl rfl) _)
      have h2' : W2.ownsRow w1.heap.size 5 1 wv' (wordTo (parts x.data.toList) (j + 1)).length (Lib.byteCells (wordTo (parts x.data.toList) (j + 1))) := by
        rw [hlw, hws, byteCells_append, ← strCells_eq]; exact h2
      obtain ⟨q1, q2⟩ := h1.word (by omega) (by omega) hT (hb2.set 0 wv') (ownsRow_turns h2' (Turns.setCell (X := fun k => k = w.heap.size) W2 (p := ⟨w.heap.size, 0, none⟩) rfl _) (fun g hg (e : g = w.heap.size) => by subst e; have := (h2'.lt _ hg).1; omega)) h4
      refine ⟨⟨hb2.free 0, by rw [hb2.cell]; rfl⟩, hk1.trans q2, wv', pv1, ?_⟩
      rw [hpl]; exact q1
    have cw : W.cell? ⟨w.heap.size, 0, none⟩ = some wv := by rw [hS.bw.cell]; rfl
    have cp : W.cell? ⟨w.heap.size + 1, 0, none⟩ = some pv := by rw [hS.bp.cell]; rfl
    obtain ⟨aw, capw, hwv⟩ := row_val hS.rw
    obtain ⟨ap, capp, hpv⟩ := row_val hS.rp
    by_cases hpos : 0 < (wordTo (parts x.data.toList) j).length
    · rw [if_pos hpos] at hpls
      have hpl2 : Hid (∀ pv' W2, W2.ownsRow w1.heap.size 3 1 pv' ((plTo (parts x.data.toList) j).length + 1) (ints (plTo (parts x.data.toList) j) ++ [.int .i64 ((wordTo (parts x.data.toList) j).length : Int)]) → (W.alloc (.cells #[.int .i64 ((wordTo (parts x.data.toList) j).length : Int)] 3)).grownBy W2 pv.ownBlock →
          (pv'.ownBlock = pv.ownBlock ∨ ∀ g, pv'.ownBlock = some g → (W.alloc (.cells #[.int .i64 ((wordTo (parts x.data.toList) j).length : Int)] 3)).heap.size ≤ g) → (W2.frozen? ⟨w.heap.size + 1, 0, none⟩ = false ∧ W2.cell? ⟨w.heap.size + 1, 0, none⟩ = some pv) ∧ Keeps X W (W2.setCell ⟨w.heap.size + 1, 0, none⟩ pv') ∧ S2 w1 w.heap.size (w.heap.size + 1) wv pv' (wordTo (parts x.data.toList) j) (plTo (parts x.data.toList) (j + 1)) X (W2.setCell ⟨w.heap.size + 1, 0, none⟩ pv')) := by
        intro pv' W2 h2 h3 h4
        have hTg : Turns (fun k => pv.ownBlock = some k) W W2 := (Turns.alloc _ _ _).trans (Turns.of_grownBy h3)
        have hb2 : Blk W2 (w.heap.size + 1) #[pv] 111 := hS.bp.turns hTg (fun e => row_ne hS.rp hS.bp (by decide) e)
        have hT : Turns (fun k => k = w.heap.size + 1 ∨ pv.ownBlock = some k) W (W2.setCell ⟨w.heap.size + 1, 0, none⟩ pv') := (hTg.mono (fun k hk => .inr hk)).trans (Turns.setCell W2 (p := ⟨w.heap.size + 1, 0, none⟩) (.inl rfl) _)
        have h2' : W2.ownsRow w1.heap.size 3 1 pv' (plTo (parts x.data.toList) (j + 1)).length (ints (plTo (parts x.data.toList) (j + 1))) := by
          rw [hpls, ints_append, List.length_append]; exact h2
        obtain ⟨q1, q2⟩ := hS.places (by omega) (by omega) hT (hb2.set 0 pv') (ownsRow_turns h2' (Turns.setCell (X := fun k => k = w.heap.size + 1) W2 (p := ⟨w.heap.size + 1, 0, none⟩) rfl _) (fun g hg (e : g = w.heap.size + 1) => by subst e; have := (h2'.lt _ hg).1; omega)) (h4.imp id (fun h g hg => Nat.le_trans (by simp) (h g hg)))
        exact ⟨⟨hb2.free 0, by rw [hb2.cell]; rfl⟩, q2, q1⟩
      have hrw := hS.rw
      have hrp := hS.rp
      subst hwv hpv
      have hSh : Hid (S2 w1 w.heap.size (w.heap.size + 1) (.slice aw (wordTo (parts x.data.toList) j).length capw) (.slice ap (plTo (parts x.data.toList) j).length capp) (wordTo (parts x.data.toList) j) (plTo (parts x.data.toList) j) X W) := hS
      have hrph : Hid (W.ownsRow w1.heap.size 3 1 (.slice ap (plTo (parts x.data.toList) j).length capp) (plTo (parts x.data.toList) j).length (ints (plTo (parts x.data.toList) j))) := hrp
      clear hS hrw hrp hws hlw hpls
      generalize hwl : (wordTo (parts x.data.toList) j).length = wl at *
      generalize hpl : (plTo (parts x.data.toList) j).length = pll at *
      have hpos' : (0 : Int) < wl := by omega
      gi_wp2_with (gi_at_builtin; first
        | (refine wpListIn_append_where _ rfl _ _ 111 rfl w1.heap.size 3 i3 _ 1 8 Tryz.underlying111 hi hz0 hz1 hz2 rfl (by decide) _ _ _ rfl (hrph.out.alloc _) ⟨W.heap.size, 0, none⟩ 1 1 [.int .i64 wl] rfl rfl (cells_one W _ _) (by simp [Value.oneCell']) (by unfold maxLen; omega) (by omega) (by simp; omega) ?_; intro v' w2 hown' hgrow hwh; obtain ⟨g', cap', rfl⟩ := row_val hown'; obtain ⟨⟨hf1, hc1⟩, hk1, hS1⟩ := hpl2.out _ w2 hown' hgrow hwh; have c3 : (w2.setCell ⟨w.heap.size + 1, 0, none⟩ (.slice g' (pll + 1) cap')).cell? ⟨w.heap.size, 0, none⟩ = some (.slice aw wl capw) := by rw [hS1.bw.cell]; rfl
           have hS1h : Hid (S2 w1 w.heap.size (w.heap.size + 1) (.slice aw wl capw) (.slice g' (pll + 1) cap') (wordTo (parts x.data.toList) j) (plTo (parts x.data.toList) (j + 1)) X (w2.setCell ⟨w.heap.size + 1, 0, none⟩ (.slice g' (pll + 1) cap'))) := hS1
           have hk1h : Hid (Keeps X W (w2.setCell ⟨w.heap.size + 1, 0, none⟩ (.slice g' (pll + 1) cap'))) := hk1
           have hrw1 : Hid ((w2.setCell ⟨w.heap.size + 1, 0, none⟩ (.slice g' (pll + 1) cap')).ownsRow w1.heap.size 5 1 (.slice aw wl capw) wl (Lib.byteCells (wordTo (parts x.data.toList) j))) := hwl ▸ hS1.rw
           clear hS1 hk1 hown' hgrow hwh)
        | (refine wpListIn_append_where_string _ rfl _ _ 145 9 rfl w1.heap.size 5 i5 Tryz.underlying145 Tryz.underlying9 hi5 hy0 hy1 hy2 _ wl _ rfl hrw1.out (partN x j) rfl (by unfold maxLen; omega) (by omega) (by have := hk1h.out.size; omega) ?_; intro v' w3 hown' hgrow hwh; obtain ⟨g2', cap2', rfl⟩ := row_val hown'; obtain ⟨⟨hf2, hc2⟩, hk2, hS2⟩ := hgo.out _ _ _ hS1h.out hk1h.out rfl _ w3 hown' hgrow hwh))
      exact ⟨hk2, hS2⟩
    · rw [if_neg hpos] at hpls
      have hrw := hS.rw
      subst hwv
      have hSh : Hid (S2 w1 w.heap.size (w.heap.size + 1) (.slice aw (wordTo (parts x.data.toList) j).length capw) pv (wordTo (parts x.data.toList) j) (plTo (parts x.data.toList) j) X W) := hS
      have hrwh : Hid (W.ownsRow w1.heap.size 5 1 (.slice aw (wordTo (parts x.data.toList) j).length capw) (wordTo (parts x.data.toList) j).length (Lib.byteCells (wordTo (parts x.data.toList) j))) := hrw
      have hplsh : Hid (plTo (parts x.data.toList) (j + 1) = plTo (parts x.data.toList) j) := hpls
      clear hS hrw hws hlw hpls
      generalize hwl : (wordTo (parts x.data.toList) j).length = wl at *
      have hpos' : ¬ (0 : Int) < wl := by omega
      gi_wp2_with (gi_at_builtin; refine wpListIn_append_where_string _ rfl _ _ 145 9 rfl w1.heap.size 5 i5 Tryz.underlying145 Tryz.underlying9 hi5 hy0 hy1 hy2 _ wl _ rfl hrwh.out (partN x j) rfl (by unfold maxLen; omega) (by omega) (by omega) ?_; intro v' w3 hown' hgrow hwh; obtain ⟨g2', cap2', rfl⟩ := row_val hown'; obtain ⟨⟨hf2, hc2⟩, hk2, hS2⟩ := hgo.out _ _ _ hSh.out (Keeps.refl _ _) hplsh.out _ w3 hown' hgrow hwh)
      exact ⟨hk2, hS2⟩
  case done =>
    rintro D W hD ⟨wv, pv, hS⟩ hK
    rw [splitW_size] at hD
    have hBl : Below w.heap.size w W := by
      refine ⟨hS.base.turns.os.trans hT1.os, hS.base.turns.tape.trans hT1.tape, hS.base.turns.output.trans hT1.output, Nat.le_trans hT1.size hS.base.turns.size, fun k hk => (hS.base.turns.block k (by omega) (by omega)).trans (hT1.block k hk (fun h => h))⟩
    have hH := h.below hBl
    have hWs := hBl.size
    obtain ⟨cs0, ce0⟩ := hH.cells
    have cw : W.cell? ⟨w.heap.size, 0, none⟩ = some wv := by rw [hS.bw.cell]; rfl
    have cp : W.cell? ⟨w.heap.size + 1, 0, none⟩ = some pv := by rw [hS.bp.cell]; rfl
    obtain ⟨aw, capw, hwv⟩ := row_val hS.rw
    obtain ⟨ap, capp, hpv⟩ := row_val hS.rp
    have hconv := conv_bytes hS.rw
    obtain ⟨q, hq⟩ : ∃ q : ByteArray, (⟨(wordTo (parts x.data.toList) (parts x.data.toList).length).toArray⟩ : ByteArray) = q := ⟨_, rfl⟩
    have hql : excW x.data.toList = q.data.toList := by rw [← hq]; rfl
    have hqs : q.size ≤ 200 := by rw [← size_ba, ← hql]; exact Nat.le_trans (hlen _) hx
    rw [hq] at hconv
    have hlook := (hH.emap.turns (Turns.drew Noth W) (fun h => h)).look_ok law9 Tryz.underlying153 (zero34 W.drew) q (keyOf9 (by unfold maxLen; omega))
    have hconv1 : (convert 145 9 wv).run Tryz.prog W.drew = .ok (.string q) W.drew := by
      have := conv_bytes (ownsRow_turns hS.rw (Turns.drew Noth W) (fun _ _ h => h))
      rw [hq] at this; exact this
    cases hv : V (excW x.data.toList) with
    | some u =>
      rw [hv] at hsome
      simp only [Option.isSome_some] at hsome
      subst hsome
      have hv' : V q.data.toList = some u := by rw [← hql]; exact hv
      rw [hv'] at hlook
      obtain ⟨dd, _, _, hru⟩ := hH.rows _ u hv
      obtain ⟨au, capu, hu⟩ := row_val hru
      subst hu hwv
      simp only [Option.getD_some, Option.isSome_some] at hlook
      have hEP : Hid (∀ W', Turns (fun k => k = D) W W' → Turns (fun k => k = em) w W' ∧ EP w base hb T E N em M V x.data.toList W') := fun W' ht => by
        refine ⟨((Turns.of_below hBl).mono (fun _ h => h.elim)).trans' ht (fun k hk => .inr (by omega)), ?_⟩
        unfold EP
        rw [if_pos hrh.out]
        refine hH.turns ht (fun k hk hO => ?_)
        have := h.lt hO
        omega
      generalize (wordTo (parts x.data.toList) (parts x.data.toList).length).length = wl at *
      clear hv hv' hH hS hru hql h
      gi_wp2_with fail
      refine wpIn_wide.2 ?_
      go_region
      gi_wp2_with fail
      refine ⟨by simp, .inl ⟨_, _, rfl, run_takeDeferred (show W.drew.heap[D]? = _ from hK), ?_⟩⟩
      obtain ⟨t1, t2⟩ := hEP.out _ ((Turns.drew (fun k => k = D) W).trans (Turns.putObj (X := fun k => k = D) W.drew (r := D) rfl _))
      exact ⟨_, results_tmp rfl _ _ _, rfl, t1, t2⟩
    | none =>
      rw [hv] at hsome
      simp only [Option.isSome_none] at hsome
      subst hsome
      have hv' : V q.data.toList = none := by rw [← hql]; exact hv
      rw [hv'] at hlook
      simp only [Option.getD_none, Option.isSome_none] at hlook
      have hH2 : HyphAt W.drew.drew base hb T E N em M V := hH.turns ((Turns.drew Noth W).trans (Turns.drew _ _)) (fun _ h => h.elim)
      have hrp2 : W.drew.drew.ownsRow base 3 1 pv (excP x.data.toList).length (ints (excP x.data.toList)) := ownsRow_turns (ownsRow_base hS.rp (by omega)) ((Turns.drew Noth W).trans (Turns.drew _ _)) (fun _ _ h => h)
      have hpn : ∀ g, pv.ownBlock = some g → w1.heap.size ≤ g ∧ g ≠ D := fun g hg => ⟨(hS.rp.lt g hg).1, fun e => hS.xp g hg e⟩
      have hpll : (excP x.data.toList).length ≤ 1000 := by
        have := plTo_len (parts x.data.toList) (parts x.data.toList).length
        unfold excP; omega
      obtain ⟨w2, hput, hH3, hT3⟩ := hH2.exc (by show base ≤ W.heap.size; omega) hpll hrp2 (fun g hg hN => by have := h.lt (.inl hN); have := (hpn g hg).1; omega) q (by omega) (by omega)
      have hemD : em ≠ D := by have := h.lt (.inr (.inl rfl)); omega
      have hK2 : w2.heap[D]? = some (.deferred (some [])) := (hT3.block D (Array.getElem?_eq_some_iff.1 hK).1 (fun e => hemD e.symm)).trans hK
      have hconv2 : (convert 145 9 wv).run Tryz.prog W.drew.drew = .ok (.string q) W.drew.drew := by
        have := conv_bytes (ownsRow_turns hS.rw ((Turns.drew Noth W).trans (Turns.drew _ _)) (fun _ _ h => h))
        rw [hq] at this; exact this
      have hEP : Hid (∀ W', Turns (fun k => k = D) w2 W' → Turns (fun k => k = em) w W' ∧ EP w base hb T E N em M V x.data.toList W') := fun W' ht => by
        refine ⟨(((Turns.of_below hBl).mono (fun _ h => h.elim)).trans (((Turns.drew _ W).trans (Turns.drew _ _)).trans hT3)).trans' ht (fun k hk => .inr (by omega)), ?_⟩
        unfold EP
        rw [if_neg (by rw [hrh.out]; simp), hql]
        refine ⟨_, hH3.turns ht (fun k hk hO => ?_)⟩
        rcases hO with hO | rfl | ⟨l, u, hu, hg⟩
        · have := h.lt (.inl hO); omega
        · exact hemD hk
        · unfold setV at hu
          by_cases el : l = q.data.toList
          · rw [if_pos el] at hu; cases hu; exact (hpn k hg).2 hk
          · rw [if_neg el] at hu
            have := h.lt (.inr (.inr ⟨l, u, hu, hg⟩)); omega
      have ce2 : W.drew.drew.cell? ⟨hb, 3, none⟩ = some (.map (some em)) := ce0
      have cw2 : W.drew.drew.cell? ⟨w.heap.size, 0, none⟩ = some wv := cw
      have cp2 : W.drew.drew.cell? ⟨w.heap.size + 1, 0, none⟩ = some pv := cp
      subst hpv hwv
      generalize (wordTo (parts x.data.toList) (parts x.data.toList).length).length = wl at *
      generalize (plTo (parts x.data.toList) (parts x.data.toList).length).length = pll at *
      clear hv hv' hH hS hql h hH2 hH3 hrp2 hpn hT3
      gi_wp2_with fail
      refine wpIn_wide.2 ?_
      go_region
      gi_wp2_with fail
      refine wpIn_wide.2 ?_
      go_region
      gi_wp2_with fail
      refine ⟨by simp, .inl ⟨_, _, rfl, run_takeDeferred hK2, ?_⟩⟩
      obtain ⟨t1, t2⟩ := hEP.out _ (Turns.putObj (X := fun k => k = D) w2 (r := D) rfl _)
      exact ⟨_, results_tmp rfl _ _ _, rfl, t1, t2⟩
  case stop =>
    rintro D c i W _ _ h _
    exact h.elim
end Go.Proofs.YthcphnifnfnceaaGreatDoor.Hy
