/-
  What is proved here: tries in memory: nodes, kept and turned.
-/
import Derived.Test.YtfblhpkndfbhgaaDoorMaps
namespace Go.Proofs.YtfblhpkndfbhgaaDoor
open Go.RowKit Go.Shelf

/-- A node in memory: its block, where in it, the block's cells and type, its map's block, its digits' row. -/
structure Nd where
  b : Nat
  o : Nat
  cs : Array Value
  t : TypeId
  m : Option Nat
  v : Value
def Nd.at (x : Nd) : Value := .pointer (some ⟨x.b, x.o, none⟩)
def Nd.Own (x : Nd) (k : Nat) : Prop := k = x.b ∨ x.m = some k ∨ x.v.ownBlock = some k
structure Loc (w : World) (M : Nat) (x : Nd) (d : List Int) (ch : UInt8 → Option Value) : Prop where
  blk : Blk w x.b x.cs x.t
  cm : x.cs[x.o]? = some (.map x.m)
  ce : x.cs[x.o + 1]? = some x.v
  ty : x.t ≠ 3
  row : w.ownsRow 0 3 1 x.v d.length (ints d)
  len : d.length ≤ 1000
  nomap : x.m = none → ∀ c, ch c = none
  map : ∀ mb, x.m = some mb → MapAt 5 encB w mb ch M
theorem row_lt {w : World} {base : Nat} {e : TypeId} {sz : Nat} {v : Value} {n g : Nat} {xs : List Value} (h : w.ownsRow base e sz v n xs) (hg : v.ownBlock = some g) : g < w.heap.size := (h.lt g hg).2
theorem Loc.lt {w : World} {M : Nat} {x : Nd} {d : List Int} {ch : UInt8 → Option Value} (h : Loc w M x d ch) {k : Nat} (hk : x.Own k) : k < w.heap.size := by
  rcases hk with rfl | hk | hk
  · exact h.blk.lt
  · exact (h.map k hk).lt
  · exact row_lt h.row hk
theorem Loc.turns {w w' : World} {M : Nat} {x : Nd} {d : List Int} {ch : UInt8 → Option Value} {X : Nat → Prop} (h : Loc w M x d ch) (ht : Turns X w w') (hx : ∀ k, X k → ¬ x.Own k) : Loc w' M x d ch :=
  ⟨h.blk.turns ht (fun hX => hx _ hX (.inl rfl)), h.cm, h.ce, h.ty, ownsRow_turns h.row ht (fun g hg hX => hx g hX (.inr (.inr hg))), h.len, h.nomap, fun mb hm => (h.map mb hm).turns ht (fun hX => hx mb hX (.inr (.inl hm)))⟩
theorem Loc.mono {w : World} {M M' : Nat} {x : Nd} {d : List Int} {ch : UInt8 → Option Value} (h : Loc w M x d ch) (hM : M ≤ M') : Loc w M' x d ch :=
  ⟨h.blk, h.cm, h.ce, h.ty, h.row, h.len, h.nomap, fun mb hm => (h.map mb hm).mono hM⟩

abbrev Ns := Bs → Option Nd
def kids (N : Ns) (L : Bs) : UInt8 → Option Value := fun c => (N (L ++ [c])).map Nd.at
/-- A trie in memory: its root's block, of which the first and the last cell are something else's. -/
structure TrieAt (w : World) (rb : Nat) (s e : Value) (T : Tr) (N : Ns) (M : Nat) : Prop where
  dom : ∀ L, (N L).isSome = (T L).isSome
  root : ∃ x, N [] = some x ∧ x.b = rb ∧ x.o = 1 ∧ x.t = 48 ∧ x.cs = #[s, .map x.m, x.v, e]
  loc : ∀ L x d, N L = some x → T L = some d → Loc w M x d (kids N L)
  ap : ∀ L L' x y, N L = some x → N L' = some y → L ≠ L' → ∀ k, x.Own k → ¬ y.Own k
  cl : ∀ L c, T L = none → T (L ++ [c]) = none
/-- The blocks of a trie. -/
def NOwn (N : Ns) (k : Nat) : Prop := ∃ L x, N L = some x ∧ x.Own k
section
variable {w w' : World} {rb : Nat} {s e : Value} {T : Tr} {N : Ns} {M : Nat}
theorem TrieAt.get (h : TrieAt w rb s e T N M) {L : Bs} {x : Nd} (hx : N L = some x) : ∃ d, T L = some d := by
  have := h.dom L
  rw [hx] at this
  exact Option.isSome_iff_exists.1 this.symm
theorem TrieAt.getN (h : TrieAt w rb s e T N M) {L : Bs} {d : List Int} (hd : T L = some d) : ∃ x, N L = some x := by
  have := h.dom L
  rw [hd] at this
  exact Option.isSome_iff_exists.1 this
theorem TrieAt.none_iff (h : TrieAt w rb s e T N M) {L : Bs} : N L = none ↔ T L = none := by
  have := h.dom L
  cases h1 : N L <;> cases h2 : T L <;> simp_all
theorem TrieAt.lt (h : TrieAt w rb s e T N M) {k : Nat} (hk : NOwn N k) : k < w.heap.size := by
  obtain ⟨L, x, hx, hk⟩ := hk
  obtain ⟨d, hd⟩ := h.get hx
  exact (h.loc L x d hx hd).lt hk
theorem TrieAt.turns {X : Nat → Prop} (h : TrieAt w rb s e T N M) (ht : Turns X w w') (hx : ∀ k, X k → ¬ NOwn N k) : TrieAt w' rb s e T N M :=
  ⟨h.dom, h.root, fun L x d h1 h2 => (h.loc L x d h1 h2).turns ht (fun k hX hk => hx k hX ⟨L, x, h1, hk⟩), h.ap, h.cl⟩
theorem TrieAt.mono {M' : Nat} (h : TrieAt w rb s e T N M) (hM : M ≤ M') : TrieAt w rb s e T N M' :=
  ⟨h.dom, h.root, fun L x d h1 h2 => (h.loc L x d h1 h2).mono hM, h.ap, h.cl⟩

def setN (N : Ns) (L : Bs) (x : Nd) : Ns := fun K => if K = L then some x else N K
theorem setN_same (N : Ns) (L : Bs) (x : Nd) : setN N L x L = some x := if_pos rfl
theorem setN_other (N : Ns) {L K : Bs} (x : Nd) (h : K ≠ L) : setN N L x K = N K := if_neg h
theorem kids_setN {L K : Bs} {x x' : Nd} (hx : N L = some x) (hat : x'.at = x.at) : kids (setN N L x') K = kids N K := by
  funext c
  unfold kids
  by_cases h : K ++ [c] = L
  · rw [h, setN_same, hx]; simp [hat]
  · rw [setN_other _ _ h]
theorem NOwn_setN {L : Bs} {x x' : Nd} (hx : N L = some x) {S : Nat → Prop} (ho : ∀ k, x'.Own k → x.Own k ∨ S k) {k : Nat} (hk : NOwn (setN N L x') k) : NOwn N k ∨ S k := by
  obtain ⟨K, y, hy, hk⟩ := hk
  by_cases e : K = L
  · subst e
    rw [setN_same] at hy
    cases hy
    exact (ho k hk).imp (fun h => ⟨K, x, hx, h⟩) id
  · rw [setN_other _ _ e] at hy
    exact .inl ⟨K, y, hy, hk⟩
/-- A node turns: its own blocks alone, or new ones. -/
theorem TrieAt.change (h : TrieAt w rb s e T N M) {L : Bs} {x x' : Nd} (hx : N L = some x) (hat : x'.at = x.at) {d' : List Int} {X : Nat → Prop} (ht : Turns X w w') (hX : ∀ k, X k → x.Own k)
    (ho : ∀ k, x'.Own k → x.Own k ∨ w.heap.size ≤ k) (hl : Loc w' M x' d' (kids N L)) (hr : L = [] → x'.t = 48 ∧ x'.cs = #[s, .map x'.m, x'.v, e]) : TrieAt w' rb s e (putT T L d') (setN N L x') M := by
  have hb : x'.b = x.b ∧ x'.o = x.o := by
    unfold Nd.at at hat
    injection hat with h1
    injection h1 with h1
    injection h1 with h1 h2
    exact ⟨h1, h2⟩
  refine ⟨fun K => ?_, ?_, fun K y d hy hd => ?_, fun K K' y z hy hz hne k hk hk' => ?_, fun K c hK => ?_⟩
  · by_cases e : K = L
    · subst e; simp [setN, putT]
    · rw [setN_other _ _ e, putT, if_neg e]; exact h.dom K
  · obtain ⟨r, h1, h2, h3, h4, h5⟩ := h.root
    by_cases e : L = []
    · subst e
      rw [hx] at h1
      cases h1
      exact ⟨x', setN_same _ _ _, hb.1.trans h2, hb.2.trans h3, hr rfl⟩
    · exact ⟨r, by rw [setN_other _ _ (fun e' => e e'.symm)]; exact h1, h2, h3, h4, h5⟩
  · rw [kids_setN hx hat]
    by_cases e : K = L
    · subst e
      rw [setN_same] at hy
      rw [putT, if_pos rfl] at hd
      cases hy; cases hd
      exact hl
    · rw [setN_other _ _ e] at hy
      rw [putT, if_neg e] at hd
      exact (h.loc K y d hy hd).turns ht (fun k hk hk' => h.ap L K x y hx hy (fun e' => e e'.symm) k (hX k hk) hk')
  · by_cases e : K = L
    · subst e
      rw [setN_same] at hy; cases hy
      rw [setN_other _ _ (fun e' => hne e'.symm)] at hz
      rcases ho k hk with h1 | h1
      · exact h.ap _ _ _ _ hx hz hne k h1 hk'
      · have := h.lt ⟨K', z, hz, hk'⟩; omega
    · rw [setN_other _ _ e] at hy
      by_cases e2 : K' = L
      · subst e2
        rw [setN_same] at hz; cases hz
        rcases ho k hk' with h1 | h1
        · exact h.ap _ _ _ _ hy hx hne k hk h1
        · have := h.lt ⟨K, y, hy, hk⟩; omega
      · rw [setN_other _ _ e2] at hz
        exact h.ap _ _ _ _ hy hz hne k hk hk'
  · obtain ⟨d0, hd0⟩ := h.get hx
    unfold putT at hK ⊢
    by_cases e : K = L
    · rw [if_pos e] at hK; cases hK
    · rw [if_neg e] at hK
      have := h.cl K c hK
      by_cases e2 : K ++ [c] = L
      · rw [e2, hd0] at this; cases this
      · rw [if_neg e2]; exact this
theorem putT_self {L : Bs} {d : List Int} (h : T L = some d) : putT T L d = T := by
  funext K
  unfold putT
  by_cases e : K = L
  · rw [if_pos e, e, h]
  · rw [if_neg e]
/-- A node more. -/
theorem TrieAt.more (h : TrieAt w rb s e T N M) {L : Bs} {x : Nd} (hx : N L = some x) {c : UInt8} (hc : N (L ++ [c]) = none) {y : Nd} {mb : Nat} (hm : x.m = some mb) (ht : Turns (fun k => k = mb) w w')
    (hM : MapAt 5 encB w' mb (fun a => if a = c then some y.at else kids N L a) (M + 1)) (hy : ∀ k, y.Own k → w.heap.size ≤ k) (hl : Loc w' (M + 1) y [] (fun _ => none)) :
    TrieAt w' rb s e (putT T (L ++ [c]) []) (setN N (L ++ [c]) y) (M + 1) := by
  have hne : L ≠ L ++ [c] := fun e => by have := congrArg List.length e; simp at this
  have hkid : ∀ K, K ≠ L → kids (setN N (L ++ [c]) y) K = kids N K := fun K hK => by
    funext a
    unfold kids
    rw [setN_other]
    intro e
    have := List.append_inj' e rfl
    exact hK this.1
  have hT : T (L ++ [c]) = none := h.none_iff.1 hc
  refine ⟨fun K => ?_, ?_, fun K z d hz hd => ?_, fun K K' z z' hz hz' hne' k hk hk' => ?_, fun K a hK => ?_⟩
  · by_cases e : K = L ++ [c]
    · subst e; simp [setN, putT]
    · rw [setN_other _ _ e, putT, if_neg e]; exact h.dom K
  · obtain ⟨r, h1, h2⟩ := h.root
    exact ⟨r, by rw [setN_other _ _ (by simp)]; exact h1, h2⟩
  · by_cases e : K = L ++ [c]
    · subst e
      rw [setN_same] at hz
      rw [putT, if_pos rfl] at hd
      cases hz; cases hd
      have e2 : kids (setN N (L ++ [c]) y) (L ++ [c]) = fun _ => none := by
        rw [hkid _ (fun e => hne e.symm)]
        funext a
        unfold kids
        rw [h.none_iff.2 (h.cl _ a hT)]; rfl
      rw [e2]; exact hl
    · rw [setN_other _ _ e] at hz
      rw [putT, if_neg e] at hd
      have h0 := (h.loc K z d hz hd)
      by_cases e2 : K = L
      · subst e2
        rw [hx] at hz; cases hz
        have hmb : ∀ k, k = mb → k = x.b ∨ x.v.ownBlock = some k → False := fun k hk hk' => by
          subst hk
          obtain ⟨es, cl, hmm⟩ := (h0.map k hm).isMap
          rcases hk' with rfl | hk'
          · have := h0.blk; rw [Blk, hmm] at this; cases this
          · rcases h0.row.2 with ⟨h1, _⟩ | ⟨g, cap, cur, h1, _, hg, _⟩
            · rw [h1] at hk'; cases hk'
            · rw [h1] at hk'; cases hk'; rw [hmm] at hg; cases hg
        refine ⟨h0.blk.turns ht (fun hX => hmb _ hX (.inl rfl)), h0.cm, h0.ce, h0.ty, ownsRow_turns h0.row ht (fun g hg hX => hmb _ hX (.inr hg)), h0.len, fun hn => ?_, fun mb' hm' => ?_⟩
        · rw [hm] at hn; cases hn
        · rw [hm] at hm'; cases hm'
          have e3 : kids (setN N (K ++ [c]) y) K = fun a => if a = c then some y.at else kids N K a := by
            funext a
            by_cases ea : a = c
            · subst ea; simp [kids, setN_same]
            · rw [if_neg ea]
              unfold kids
              rw [setN_other]
              intro e
              have := (List.append_inj' e rfl).2
              simp at this
              exact ea this
          rw [e3]; exact hM
      · rw [hkid K e2]
        exact (h0.turns ht (fun k hk hk' => by subst hk; exact h.ap _ _ _ _ hx hz (fun e => e2 e.symm) k (.inr (.inl hm)) hk')).mono (by omega)
  · by_cases e1 : K = L ++ [c]
    · subst e1
      rw [setN_same] at hz; cases hz
      rw [setN_other _ _ (fun e' => hne' e'.symm)] at hz'
      have := h.lt ⟨K', z', hz', hk'⟩
      have := hy k hk
      omega
    · rw [setN_other _ _ e1] at hz
      by_cases e2 : K' = L ++ [c]
      · subst e2
        rw [setN_same] at hz'; cases hz'
        have := h.lt ⟨K, z, hz, hk⟩
        have := hy k hk'
        omega
      · rw [setN_other _ _ e2] at hz'
        exact h.ap _ _ _ _ hz hz' hne' k hk hk'
  · obtain ⟨d0, hd0⟩ := h.get hx
    unfold putT at hK ⊢
    by_cases e1 : K = L ++ [c]
    · rw [if_pos e1] at hK; cases hK
    · rw [if_neg e1] at hK
      have := h.cl K a hK
      by_cases e2 : K ++ [a] = L ++ [c]
      · have := (List.append_inj' e2 rfl).1
        subst this
        rw [hd0] at hK; cases hK
      · rw [if_neg e2]; exact this
end
end Go.Proofs.YtfblhpkndfbhgaaDoor
