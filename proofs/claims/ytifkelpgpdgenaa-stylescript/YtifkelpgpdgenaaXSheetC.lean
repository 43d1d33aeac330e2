/-
  What is proved here: what strings.Clone, slices.Clone answer, and New.
-/
import Derived.Test.YtifkelpgpdgenaaXSheetB
import Derived.Test.YtifkelpgpdgenaaRow
import Derived.Test.YtifkelpgpdgenaaShelf
import Derived.Laws.Cover3
namespace Go.Proofs.Ytifkelpgpdgenaa
open Go.RowKit Go.Shelf

variable {X : Nat → Prop}

set_option maxHeartbeats 400000 in
theorem strClone (s : Str) (hs : s.size ≤ 16) (w : World) : Calls Try.prog 55 #[.string s] w fun e w' => e = .returned (.string s) ∧ Below w.heap.size w w' := by
  have hc := Try.stringslite_Clone s w (by omega)
  go_enter Try.func55, Try.ntmps55
  go_wp2_with (go_at_call 63; refine hc.mono ?_; rintro e w' ⟨rfl, hb⟩)
  go_ret
  exact ⟨rfl, hb⟩

def seCells (q : Int × Int) : List Value := [.int .i64 q.1, .int .i64 q.2]
def seRow (qs : List (Int × Int)) : List Value := qs.flatMap seCells
theorem seRow_length (qs : List (Int × Int)) : (seRow qs).length = qs.length * 2 := by
  induction qs with
  | nil => rfl
  | cons p r ih => simp [seRow, List.flatMap_cons, seCells] at ih ⊢; omega
theorem seRow_get (qs : List (Int × Int)) {i : Nat} (h : i < qs.length) (j : Nat) (hj : j < 2) : (seRow qs)[i * 2 + j]? = (seCells qs[i])[j]? := by
  have hs : qs = qs.take i ++ (qs[i] :: qs.drop (i + 1)) := by simp
  conv => lhs; rw [hs]
  have ha : seRow (qs.take i ++ (qs[i] :: qs.drop (i + 1))) = seRow (qs.take i) ++ (seCells qs[i] ++ seRow (qs.drop (i + 1))) := by unfold seRow; rw [List.flatMap_append, List.flatMap_cons]
  have hl : (seRow (qs.take i)).length = i * 2 := by rw [seRow_length, List.length_take, Nat.min_eq_left (by omega)]
  rw [ha, List.getElem?_append_right (by omega), hl, List.getElem?_append_left (by simp [seCells]; omega)]
  congr 1; omega
theorem seRow_one (qs : List (Int × Int)) : ∀ u ∈ seRow qs, u.oneCell' = true := by
  intro u hu
  obtain ⟨p, _, hp⟩ := List.mem_flatMap.1 hu
  simp [seCells] at hp
  rcases hp with rfl | rfl <;> rfl
theorem srcs_of {W : World} {v : Value} {qs : List (Int × Int)} (h : SetsAt W v qs) : Srcs W 2 v qs.length (seRow qs) := by
  refine ⟨seRow_length qs, seRow_one qs, ?_⟩
  obtain ⟨a, cap, rfl, h2⟩ := h.ex
  rcases h2 with rfl | ⟨b, o, rfl, hlt, hc⟩
  · cases a with
    | none => exact .inl ⟨rfl, cap, rfl⟩
    | some a => exact .inr ⟨a, cap, rfl, fun j u hu => by simp [seRow] at hu⟩
  · refine .inr ⟨_, cap, rfl, fun j u hu => ?_⟩
    have hj : j < qs.length * 2 := by rw [← seRow_length]; exact (List.getElem?_eq_some_iff.1 hu).1
    have hi : j / 2 < qs.length := by omega
    have hg := seRow_get qs hi (j % 2) (by omega)
    have hjj : j / 2 * 2 + j % 2 = j := by omega
    rw [hjj, hu] at hg
    obtain ⟨c0, c1⟩ := hc (j / 2) hi
    rw [addr_add]
    have h4 : j % 2 = 0 ∨ j % 2 = 1 := by omega
    rcases h4 with h4 | h4 <;> rw [h4] at hg <;> simp [seCells] at hg <;> subst hg
    · rw [← c0]; congr 2; omega
    · rw [← c1]; congr 2; omega
theorem sets_of_row {W : World} {base : Nat} {v : Value} {qs : List (Int × Int)} (h : W.ownsRow base 37 2 v qs.length (seRow qs)) (hf : qs.length ≤ 9223372036854775807) : SetsAt W v qs := by
  have hcs := fun g cap (hv : v = .slice (some ⟨g, 0, none⟩) qs.length cap) => (by subst hv; exact h.cells (g := g) rfl : ∀ j u, (seRow qs)[j]? = some u → W.cell? ((⟨g, 0, none⟩ : Addr).add j) = some u)
  refine ⟨?_, hf⟩
  rcases h.2 with ⟨rfl, hn⟩ | ⟨g, cap, cur, rfl, hb', hg, r⟩
  · have : qs = [] := List.eq_nil_of_length_eq_zero hn
    exact ⟨none, 0, by rw [hn], .inl this⟩
  · refine ⟨_, cap, rfl, .inr ⟨g, 0, rfl, (Array.getElem?_eq_some_iff.1 hg).1, fun i hi => ?_⟩⟩
    have hc : ∀ j u, (seRow qs)[j]? = some u → W.cell? ⟨g, j, none⟩ = some u := fun j u hu => by have := hcs g cap rfl j u hu; rwa [addr_add0] at this
    simp only [Nat.zero_add]
    exact ⟨hc _ _ (seRow_get qs hi 0 (by omega)), hc _ _ (seRow_get qs hi 1 (by omega))⟩

theorem info37 : (Try.prog.info? 37).map (fun i => (i.zero, i.size, i.bytes)) = some (some (.agg #[.int .i64 0, .int .i64 0]), 2, 16) := by kernel_rfl
theorem eqlNil (W : World) (a : Option Addr) (l c : Nat) : (binOp .eql 44 (.slice a l c) (.slice none 0 0)).run Try.prog W = .ok (.bool a.isNone) W := by
  simp only [binOp]
  simp [run_equal_slice_nil W 44 37 a l c Try.underlying44]

set_option maxHeartbeats 1000000 in
theorem sclone_any (v : Value) (qs : List (Int × Int)) (hl : qs.length ≤ 64) (w : World) (h : SetsAt w v qs) :
    Calls Try.prog 56 #[v] w fun e w' => ∃ a cap, e = .returned (.slice a qs.length cap) ∧ SetsAt w' (.slice a qs.length cap) qs ∧ Below w.heap.size w w' ∧ (qs = [] ∨ ∀ b o l c, Value.slice a qs.length cap = .slice (some ⟨b, o, none⟩) l c → w.heap.size ≤ b) := by
  obtain ⟨i0, hi, hz0, hz1, hz2⟩ := info_parts info37
  have hB := (Below.refl w.heap.size w).alloc (Nat.le_refl _) (.cells #[] 37)
  have hsrc := srcs_of (h.below hB)
  obtain ⟨a, cap, rfl, h2⟩ := h.ex
  cases a with
  | none =>
    obtain rfl : qs = [] := by
      rcases h2 with h2 | ⟨b, o, hx, _⟩
      · exact h2
      · cases hx
    have he : ∀ W, (binOp .eql 44 (.slice none 0 cap) (.slice none 0 0)).run Try.prog W = .ok (.bool true) W := fun W => eqlNil W none 0 cap
    clear h hsrc
    go_enter Try.func56, Try.ntmps56
    go_wp2
    go_ret
    exact ⟨none, 0, rfl, ⟨⟨none, 0, rfl, .inl rfl⟩, by simp⟩, Below.refl _ _⟩
  | some x =>
    have hsrc' : Hid _ := hsrc
    clear hsrc h h2
    have he : ∀ W, (binOp .eql 44 (.slice (some x) qs.length cap) (.slice none 0 0)).run Try.prog W = .ok (.bool false) W := fun W => eqlNil W _ _ _
    go_enter Try.func56, Try.ntmps56
    go_wp2_with (at_builtin; refine wpList_append_any _ rfl _ _ 44 rfl w.heap.size 37 i0 _ 2 16 Try.underlying44 hi hz0 hz1 hz2 rfl (by decide) _ 0 [] rfl (ownsRow_lit w 37 2 _ (Nat.le_refl _)) qs.length (seRow qs) _ rfl hsrc'.out (by unfold maxLen; omega) (by omega) (by simp) ?_; intro v' w2 hown hgrow; rw [Nat.zero_add, List.nil_append] at hown)
    have hB2 : Below w.heap.size w w2 := below_grown hB (ownsRow_lit w 37 2 _ (Nat.le_refl _)) (Nat.le_refl _) (Nat.le_refl _) hgrow
    have hset := sets_of_row hown (by omega)
    have hnew : Hid (qs = [] ∨ ∀ b o l c, v' = .slice (some ⟨b, o, none⟩) l c → w.heap.size ≤ b) := by
      rcases hown.2 with ⟨_, hn⟩ | ⟨g, cap, cur, hv, hb', hg, r⟩
      · exact .inl (List.eq_nil_of_length_eq_zero hn)
      · exact .inr fun b o l c e => by rw [hv] at e; cases e; exact hb'
    obtain ⟨a2, cp2, rfl, _⟩ := hset.ex
    have hset' : Hid _ := hset
    clear hset hown hgrow hsrc'
    go_wp2_with fail
    go_ret
    exact ⟨_, _, rfl, hset'.out, hB2, hnew.out⟩

/-- New. -/
theorem ents_none (w : World) (s : Str) : Entry X w (.map []) s none := by
  show Maps.has _ _ = false
  rw [Maps.has_eq]; rfl
set_option maxHeartbeats 1000000 in
theorem new_any (w : World) : Calls Try.prog 20 #[] w fun e w' => ∃ t b, e = .returned (.pointer (some ⟨t, 0, none⟩)) ∧ w.heap.size ≤ t ∧ w.heap.size ≤ b ∧ SheetAt X w' t b 0 (fun _ => none) ∧ Below w.heap.size w w' := by
  have hmm := @run_makeMap Try.prog
  go_enter Try.func20, Try.ntmps20
  go_wp2_with fail
  go_ret
  refine ⟨w.heap.size + 1, w.heap.size, rfl, by omega, Nat.le_refl _, ⟨?_, ⟨.map [], ?_, rfl, fun s => ents_none _ s⟩, by omega⟩, ((Below.refl _ w).alloc (Nat.le_refl _) _).alloc (by simp) _⟩
  · exact heap_alloc2_new w (.map #[] 0) (.cells #[.pointer (some ⟨w.heap.size + 1, 0, none⟩), .map (some w.heap.size)] 60)
  · exact (World.ownsMap_made w Try.prog 9 R0).alloc _
end Go.Proofs.Ytifkelpgpdgenaa
