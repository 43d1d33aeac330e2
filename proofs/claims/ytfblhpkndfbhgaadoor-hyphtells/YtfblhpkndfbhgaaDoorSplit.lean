/-
  What is proved here: strings.SplitSeq at one sign: its iterator goes through the parts of a text, one round a part.
-/
import Derived.Test.YtfblhpkndfbhgaaDoorWalkB
import Derived.Test.YtfblhpkndfbhgaaDoorRangeX
import Derived.RangeFuncNested
import Derived.RangeFuncBound
import Derived.RangeFuncCalls
import Derived.RangeFuncLeaves
import Derived.Shelf.Abstract
import Derived.Shelf.RegionOpen
import Derived.OwnWalkIn
import Derived.TacticsInMore
import Derived.LoopNIn
import Derived.LoopIn
import Derived.Lib.Builder
namespace Go.Proofs.YtfblhpkndfbhgaaDoor
open Go.RowKit Go.Shelf

/-- The parts of a text between the signs. -/
def parts : Bs → List Bs
  | [] => [[]]
  | c :: l => if c == 45 then [] :: parts l else match parts l with
    | h :: t => (c :: h) :: t
    | [] => [[c]]
theorem parts_ne : ∀ l, parts l ≠ []
  | [] => by simp [parts]
  | c :: l => by
    rw [parts]
    split
    · simp
    · split <;> simp
theorem idx_parts : ∀ l : Bs, (Lib.indexByte l 45 = -1 ∧ parts l = [l]) ∨ ∃ n : Nat, Lib.indexByte l 45 = n ∧ n < l.length ∧ parts l = l.take n :: parts (l.drop (n + 1))
  | [] => .inl ⟨rfl, rfl⟩
  | c :: l => by
    rw [parts, Lib.indexByte]
    by_cases h : (c == 45) = true
    · rw [if_pos h, if_pos h]
      exact .inr ⟨0, rfl, by simp, by simp⟩
    · rw [if_neg h, if_neg h]
      rcases idx_parts l with ⟨h1, h2⟩ | ⟨n, h1, h2, h3⟩
      · rw [h1, h2]; exact .inl ⟨rfl, rfl⟩
      · rw [h1, h3]
        refine .inr ⟨n + 1, ?_, by simp; omega, by simp⟩
        have : ((n : Int) == -1) = false := by rw [beq_eq_false_iff_ne]; omega
        rw [this]; simp
theorem ba_eq {a : ByteArray} {l : Bs} (h : a.data.toList = l) : a = ⟨l.toArray⟩ := by
  subst h
  obtain ⟨⟨a⟩⟩ := a
  rfl
theorem extract_ba (s : ByteArray) (i j : Nat) : (s.extract i j).data.toList = (s.data.toList.take j).drop i := by
  rw [ByteArray.data_extract, Array.toList_extract, List.extract_eq_take_drop]
  simp [List.drop_take]

theorem wide_fn (f : FuncId) : Fence.wide.fn f = True := rfl
theorem wide_depth : Fence.wide.depth = none := rfl
theorem wide_round : Fence.wide.round = none := rfl
attribute [local go_sem] Oper.semAt_some wide_fn wide_depth

def splitW (x : ByteArray) (w : World) : World := ((w.alloc (.cells #[.string x] 9)).alloc (.cells #[.string ⟨#[45]⟩] 9)).alloc (.cells #[.int .i64 0] 3)
def splitV (n : Nat) : Array Value := #[.pointer (some ⟨n + 1, 0, none⟩), .pointer (some ⟨n, 0, none⟩), .pointer (some ⟨n + 2, 0, none⟩)]
set_option maxHeartbeats 400000 in
theorem split_any (x : ByteArray) (w : World) : Calls Tryd.prog 48 #[.string x, .string ⟨#[45]⟩] w fun e w' => e = .returned (.func (.func 83) #[] (splitV w.heap.size)) ∧ w' = splitW x w := by
  go_enter Tryd.func48, Tryd.ntmps48
  go_wp2
  go_ret
  exact ⟨rfl, rfl⟩

/-- The iterator's own boxes. -/
def X3 (n : Nat) (k : Nat) : Prop := k = n ∨ k = n + 1 ∨ k = n + 2
structure Read3 (n : Nat) (x : ByteArray) (W : World) : Prop where
  s : Blk W n #[.string x] 9
  p : Blk W (n + 1) #[.string ⟨#[45]⟩] 9
  v : Blk W (n + 2) #[.int .i64 0] 3
/-- A text's part. -/
def partN (x : ByteArray) (i : Nat) : ByteArray := ⟨((parts x.data.toList).getD i []).toArray⟩
def encP (x : ByteArray) (i : Nat) : Array Value := #[.string (partN x i)]
def strAt (b : Nat) (w : World) : Nat := match w.cell? ⟨b, 0, none⟩ with
  | some (.string s) => s.size
  | _ => 0
theorem strAt_is {w : World} {b : Nat} {s : ByteArray} (h : w.cell? ⟨b, 0, none⟩ = some (.string s)) : strAt b w = s.size := by simp [strAt, h]
theorem Read3.keeps {n : Nat} {x : ByteArray} {W W' : World} (h : Read3 n x W) (hk : Keeps (X3 n) W W') : Read3 n x W' :=
  ⟨hk.get (.inl rfl) h.s, hk.get (.inr (.inl rfl)) h.p, hk.get (.inr (.inr rfl)) h.v⟩

set_option maxRecDepth 100000 in
set_option maxHeartbeats 2000000 in
theorem split1_gives (n : Nat) (x : ByteArray) (hx : x.size ≤ 1000000) :
    GivesX Tryd.prog 83 (splitV n) (parts x.data.toList).length (encP x) (X3 n) (Read3 n x) := by
  intro l J Jx W hJ hJx hY h0 hR0 hlt0
  refine callsIn_wide (n := 0).1 ?_
  refine callsIn_of_wp Tryd.func83 rfl trivial ?_ rfl
  unfold splitV
  simp only [Tryd.ntmps83, List.size_toArray, List.length_cons, List.length_nil, Nat.reduceAdd, Nat.reduceSub, Array.replicate_succ, Array.replicate_zero, List.push_toArray, List.append_toArray, List.nil_append, List.cons_append]
  have c0 : W.cell? ⟨n, 0, none⟩ = some (.string x) := by rw [hR0.s.cell]; rfl
  have c1 : W.cell? ⟨n + 1, 0, none⟩ = some (.string ⟨#[45]⟩) := by rw [hR0.p.cell]; rfl
  have c2 : W.cell? ⟨n + 2, 0, none⟩ = some (.int .i64 0) := by rw [hR0.v.cell]; rfl
  have hgetD : Hid (∀ (k : Nat) (r : ByteArray) (h : Bs) (t : List Bs), parts r.data.toList = (parts x.data.toList).drop k → parts r.data.toList = h :: t → encP x k = #[.string ⟨h.toArray⟩] ∧ k < (parts x.data.toList).length ∧ (parts x.data.toList).drop (k + 1) = t) := by
    intro k r h t h1 h2
    rw [h2] at h1
    have hk : k < (parts x.data.toList).length := by
      apply Classical.byContradiction
      intro hc
      rw [List.drop_of_length_le (by omega)] at h1
      cases h1
    rw [List.drop_eq_getElem_cons hk] at h1
    injection h1 with h3 h4
    refine ⟨?_, hk, h4.symm⟩
    unfold encP partN
    rw [List.getD_eq_getElem?_getD, List.getElem?_eq_getElem hk, ← h3]; rfl
  gi_wp2
  gi_loopw [7] (fun _ wr => ∃ (k : Nat) (r : ByteArray), Read3 n r wr ∧ J k (X3 n) wr ∧ r.size ≤ x.size ∧ Hid (parts r.data.toList = (parts x.data.toList).drop k)) (fun _ wr => strAt n wr)
  case atStart => exact ⟨0, x, hR0, h0, by omega, rfl⟩
  case round =>
    obtain ⟨k, r, hR, hJk, hrx, hpr⟩ := hrel
    have d0 : wr.cell? ⟨n, 0, none⟩ = some (.string r) := by rw [hR.s.cell]; rfl
    have d1 : wr.cell? ⟨n + 1, 0, none⟩ = some (.string ⟨#[45]⟩) := by rw [hR.p.cell]; rfl
    have d2 : wr.cell? ⟨n + 2, 0, none⟩ = some (.int .i64 0) := by rw [hR.v.cell]; rfl
    have hsz : Hid (strAt n wr = r.size) := strAt_is d0
    have hIx := Tryd.strings_Index_one r 45 wr
    rcases idx_parts r.data.toList with ⟨h1, h2⟩ | ⟨m, h1, h2, h3⟩
    · rw [h1] at hIx
      obtain ⟨e1, e2, e3⟩ := hgetD.out k r _ _ hpr.out h2
      have e4 : k + 1 = (parts x.data.toList).length := by
        have := congrArg List.length e3
        simp at this
        omega
      have hYk := hY k _ _ e2 hJk
      rw [e1, ← ba_eq (a := r) rfl] at hYk
      obtain ⟨fn, tmps, assign, body, hy, hRo⟩ := hYk
      have hfin : Hid (k + 1 = (parts x.data.toList).length ∧ k < (parts x.data.toList).length) := ⟨e4, e2⟩
      clear hgetD hpr h1 h2 e1 e2 e3 e4
      gi_wp2_with (gi_at_call 70; refine (callsIn_wide.2 hIx).mono ?_; rintro e w' ⟨rfl, hww⟩; subst w')
      refine hRo.mono ?_
      rintro e W3 ⟨hk3, (⟨rfl, hJ3⟩ | ⟨rfl, hJx3⟩)⟩
      · gi_wp2
        go_end0
        refine ⟨⟨_, rfl⟩, .inl ?_⟩
        rw [← hfin.out.1]; exact hJ3
      · gi_wp2
        go_end0
        exact ⟨⟨_, rfl⟩, .inr ⟨k, hfin.out.2, hJx3⟩⟩
    · rw [h1] at hIx
      have hml : m < r.size := by rw [size_ba] at h2; exact h2
      obtain ⟨e1, e2, e3⟩ := hgetD.out k r _ _ hpr.out h3
      have hYk := hY k _ _ e2 hJk
      rw [e1] at hYk
      obtain ⟨fr, hfr⟩ : ∃ fr : ByteArray, (⟨(r.data.toList.take m).toArray⟩ : ByteArray) = fr := ⟨_, rfl⟩
      have hfr2 : r.extract 0 m = fr := by rw [← hfr]; apply ba_eq; rw [extract_ba]; simp
      rw [hfr] at hYk
      obtain ⟨fn, tmps, assign, body, hy, hRo⟩ := hYk
      obtain ⟨r2, hr2⟩ : ∃ r2, r.extract (m + 1) r.size = r2 := ⟨_, rfl⟩
      have hr2l : r2.data.toList = r.data.toList.drop (m + 1) := by rw [← hr2, extract_ba, take_all_ba]
      have hr2s : r2.size = r.size - (m + 1) := by rw [← size_ba, hr2l, List.length_drop, size_ba]
      have hnext : Hid (parts r2.data.toList = (parts x.data.toList).drop (k + 1)) := by show _ = _; rw [hr2l, e3]
      have hRf : Hid (Read3 n r wr) := hR
      have hkn : Hid (k < (parts x.data.toList).length) := e2
      have m1 : (m : Int) ≤ r.size := by omega
      have m2 : (m : Int) + 1 ≤ r.size := by omega
      clear hgetD hpr h1 h3 e1 e2 e3 hr2l hR h2
      gi_wp2_with (gi_at_call 70; refine (callsIn_wide.2 hIx).mono ?_; rintro e w' ⟨rfl, hww⟩; subst w')
      refine hRo.mono ?_
      rintro e W3 ⟨hk3, (⟨rfl, hJ3⟩ | ⟨rfl, hJx3⟩)⟩
      · have hR3 := hRf.out.keeps hk3
        have g0 : W3.cell? ⟨n, 0, none⟩ = some (.string r) := by rw [hR3.s.cell]; rfl
        have g1 : W3.cell? ⟨n + 1, 0, none⟩ = some (.string ⟨#[45]⟩) := by rw [hR3.p.cell]; rfl
        have gf := hR3.s.free 0
        have hR4 : Read3 n r2 (W3.setCell ⟨n, 0, none⟩ (.string r2)) := ⟨hR3.s.set 0 _, hR3.p.other 0 _ (by omega), hR3.v.other 0 _ (by omega)⟩
        have hJ4 : J (k + 1) (X3 n) (W3.setCell ⟨n, 0, none⟩ (.string r2)) := hJ _ _ _ _ _ hJ3 (Turns.setCell W3 (p := ⟨n, 0, none⟩) (.inl rfl) _) (fun _ h => .inl h)
        have hsz2 : Hid (strAt n (W3.setCell ⟨n, 0, none⟩ (.string r2)) = r2.size) := strAt_is (by rw [hR4.s.cell]; rfl)
        clear hR3 hRf hJ3
        gi_wp2
        go_roundw
        case rel => exact ⟨k + 1, r2, hR4, hJ4, by omega, hnext⟩
        case measure => rw [hsz.out, hsz2.out]; omega
      · gi_wp2
        refine bodyPost_ret (results_none rfl _ _ _) rfl ?_
        exact ⟨⟨_, rfl⟩, .inr ⟨k, hkn.out, hJx3⟩⟩
end Go.Proofs.YtfblhpkndfbhgaaDoor
