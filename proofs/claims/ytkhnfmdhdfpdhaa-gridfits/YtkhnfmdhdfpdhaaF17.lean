/-
  What is proved here: what SameInts, example, wide and awake answer.
  What is proved here: what strings.Repeat answers in this program: the library's contract, laid at its numbers by the library's tool.
  What is proved here: GridKnown answers true.
  What is proved here: widths fit, and keep their bounds: the mathematics.
  What is proved here: GridFits answers true.
-/
import Derived.Test.YtkhnfmdhdfpdhaaF16
import Derived.Deep.QuietTactic
import Derived.Shelf.Strings.Repeat
import Derived.Test.YtkhnfmdhdfpdhaaProg
import Derived.BigQuiet
namespace Go.Proofs.Ytkhnfmdhdfpdhaa
open Go.RowKit Go.Shelf

theorem InAt.cell {W : World} {b o : Nat} {l : List Int} {k : Nat} (hk : k < l.length) (h : ∀ (i : Nat) (h : i < l.length) (j : Nat) (u : Value), (inL l[i])[j]? = some u → W.cell? ⟨b, o + i * 1 + j, none⟩ = some u) : W.cell? ⟨b, o + k, none⟩ = some (.int .i64 l[k]) := by
  have := h k hk 0 _ rfl
  rwa [show o + k * 1 + 0 = o + k by omega] at this
theorem in_of_row {W : World} {base : Nat} {v : Value} {l : List Int} {n : Nat} (hn : n = l.length) (h : W.ownsRow base 3 1 v n (ints l)) : InAt W v l := rec_of_row (f := inL) (fun _ => rfl) hn (by rw [inL_map]; exact h)
set_option maxRecDepth 100000 in
set_option maxHeartbeats 2000000 in
theorem sameInts_yes (v1 v2 : Value) (L : List Int) (hlen : L.length ≤ 140737488355328) (w : World) (h1 : InAt w v1 L) (h2 : InAt w v2 L) :
    Calls Try.prog 13 #[v1, v2] w fun e w' => e = .returned (.bool true) ∧ Below w.heap.size w w' := by
  obtain ⟨a1, cap1, rfl, k1⟩ := h1.ex
  obtain ⟨a2, cap2, rfl, k2⟩ := h2.ex
  go_enter Try.func13, Try.ntmps13
  go_wp2_with fail
  go_loopw [5] (fun i wr => ∃ k : Nat, k ≤ L.length ∧ i = .int .i64 k ∧ Below w.heap.size w wr) (fun i _ => L.length - (RowKit.intOf i).toNat)
  case atStart => exact ⟨0, by omega, rfl, Below.refl _ _⟩
  case round =>
    obtain ⟨k, hk, rfl, hb⟩ := hrel
    by_cases hlt : k < L.length
    · rcases k1 with k1 | ⟨b1, o1, rfl, hl1, hc1⟩
      · rw [k1] at hlt; simp at hlt
      · rcases k2 with k2 | ⟨b2, o2, rfl, hl2, hc2⟩
        · rw [k2] at hlt; simp at hlt
        · have d1 : wr.cell? ⟨b1, o1 + k, none⟩ = some (.int .i64 L[k]) := (hb.cell hl1).trans (InAt.cell hlt hc1)
          have d2 : wr.cell? ⟨b2, o2 + k, none⟩ = some (.int .i64 L[k]) := (hb.cell hl2).trans (InAt.cell hlt hc2)
          have hkl : (k : Int) < L.length := by omega
          clear hc1 hc2 h1 h2
          generalize L[k] = s at d1 d2
          go_wp2_with fail
          go_quiet (fail)
          go_wp2_with fail
          go_roundw
          case rel => exact ⟨k + 1, by omega, by simp, ⟨hb.os, hb.tape, hb.output, hb.size, hb.block⟩⟩
          case measure => simp [RowKit.intOf]; omega
    · obtain rfl : k = L.length := by omega
      go_wp2_with fail
      go_ret
      exact ⟨rfl, hb⟩

/-- The chapter's table. -/
def exl : List ByteArray := [⟨#[97, 98, 32, 99]⟩, ⟨#[100, 100]⟩]
theorem info24t (c : Int) (v : Value) : (Try.prog.info? 24).map (·.size) = some (#[Value.int .i64 c, v] : Array Value).size := by show _ = some 2; kernel_rfl
theorem one24 (c : Int) (v : Value) (h : v.oneCell' = true) : (#[Value.int .i64 c, v] : Array Value).all (·.oneCell') = true := by simp [Value.oneCell'] at h ⊢; exact h
set_option maxRecDepth 100000 in
set_option maxHeartbeats 2000000 in
theorem example_any (w : World) : Calls Try.prog 22 #[] w fun e w' => ∃ v, e = .returned (.agg #[.int .i64 2, v]) ∧ StrsAt w' v exl ∧ Below w.heap.size w w' := by
  have hB0 := (Below.refl w.heap.size w).alloc (Nat.le_refl _) (.cells #[.int .i64 0, .slice none 0 0] 24)
  have hr0 := TB.new w 0 (.slice none 0 0)
  have hs0 : (w.alloc (.cells #[.int .i64 0, .slice none 0 0] 24)).heap.size = w.heap.size + 1 := World.size_alloc _ _
  have hS1 := strs_new (w.alloc (.cells #[.int .i64 0, .slice none 0 0] 24)) exl
  have e1 : (exl.map Value.string).toArray = #[.string ⟨#[97, 98, 32, 99]⟩, .string ⟨#[100, 100]⟩] := rfl
  rw [e1] at hS1
  have hr1 := hr0.turns (Turns.alloc Noth _ (.cells #[.string ⟨#[97, 98, 32, 99]⟩, .string ⟨#[100, 100]⟩] 9)) (fun h => h)
  have hB1 := hB0.alloc hB0.size (.cells #[.string ⟨#[97, 98, 32, 99]⟩, .string ⟨#[100, 100]⟩] 9)
  rw [hs0] at hS1
  generalize hw1 : (w.alloc (.cells #[.int .i64 0, .slice none 0 0] 24)).alloc (.cells #[.string ⟨#[97, 98, 32, 99]⟩, .string ⟨#[100, 100]⟩] 9) = w1 at *
  have hT2 := Turns.setRow (X := fun b => b = w.heap.size) w1 (r := w.heap.size) rfl #[.int .i64 2, .slice (some ⟨w.heap.size + 1, 0, none⟩) 2 2]
  have hB2 := hB1.trans (hT2.below hB1.size (fun k hk => by omega))
  have hr2 : TB (w1.setRow w.heap.size #[.int .i64 2, .slice (some ⟨w.heap.size + 1, 0, none⟩) 2 2]) w.heap.size 2 (.slice (some ⟨w.heap.size + 1, 0, none⟩) 2 2) := ⟨setRow_heap _ _ _ _ 24 _ hr1.row⟩
  have hS2 : StrsAt (w1.setRow w.heap.size #[.int .i64 2, .slice (some ⟨w.heap.size + 1, 0, none⟩) 2 2]) (.slice (some ⟨w.heap.size + 1, 0, none⟩) 2 2) exl := by
    obtain ⟨⟨a, cap, e, h2⟩, hle⟩ := hS1
    refine ⟨⟨a, cap, e, ?_⟩, hle⟩
    rcases h2 with h2 | ⟨b, o, rfl, hlt, hc⟩
    · exact absurd h2 (by unfold exl; simp)
    · cases e
      refine .inr ⟨w.heap.size + 1, 0, rfl, Nat.lt_of_lt_of_le hlt hT2.size, fun i hi => ?_⟩
      rw [← hc i hi]
      unfold World.cell?
      rw [hT2.block _ hlt (by omega)]
  clear hS1 hB0 hr0 hB1
  subst hw1
  go_enter Try.func22, Try.ntmps22
  go_wp2_with (refine wpList_store_row rfl 24 _ _ rfl w.heap.size #[.int .i64 2, .slice (some ⟨w.heap.size + 1, 0, none⟩) 2 2] rfl rfl 24 _ hr1.row (info24t _ _) rfl (one24 _ _ rfl) ?_)
  exact bodyPost_ret (results_cell_row rfl _ _ w.heap.size 24 #[.int .i64 2, .slice (some ⟨w.heap.size + 1, 0, none⟩) 2 2] (0, 0) _ rfl hr2.row Try.underlying24 rfl (info24t _ _)) rfl ⟨_, rfl, hS2, hB2⟩

theorem ex_ck : chkG 2 exl = 0 := by kernel_rfl
theorem sizes_ok (l : List ByteArray) (h : ∀ t ∈ l, t.size ≤ 200) : ∀ t ∈ l, t.size ≤ 9223372036854775807 := fun t ht => by have := h t ht; omega
theorem ex_small : ∀ t ∈ exl, t.size ≤ 9223372036854775807 := sizes_ok _ (by decide)
theorem ex_ls : leS 2 exl 2 = [14, 14] ∧ leM 2 exl 2 = [22, 14] := by constructor <;> kernel_rfl
theorem ex_w50 : wdL 2 exl 50 = [22, 14] ∧ decide (50 < sumS 2 exl) = false := by constructor <;> kernel_rfl
theorem ex_w36 : wdL 2 exl 36 = [22, 14] ∧ decide (36 < sumS 2 exl) = false := by constructor <;> kernel_rfl
theorem ex_w30 : wdL 2 exl 30 = [16, 14] ∧ decide (30 < sumS 2 exl) = false := by constructor <;> kernel_rfl
theorem ex_w28 : wdL 2 exl 28 = [14, 14] ∧ decide (28 < sumS 2 exl) = false := by constructor <;> kernel_rfl
theorem ex_w21 : wdL 2 exl 21 = [10, 11] ∧ decide (21 < sumS 2 exl) = true := by constructor <;> kernel_rfl

set_option maxRecDepth 100000 in
set_option maxHeartbeats 2000000 in
theorem wide_yes (q : Int) (vw : Value) (L : List Int) (tight : Bool) (hq : 0 ≤ q ∧ q ≤ 4095) (hw : wdL 2 exl q = L ∧ decide (q < sumS 2 exl) = tight) (hL : L.length = 2) (w : World) (hI : InAt w vw L) :
    Calls Try.prog 24 #[.int .i64 q, vw, .bool tight] w fun e w' => e = .returned (.bool true) ∧ Below w.heap.size w w' := by
  have hsame := fun v W (h1 : InAt W v L) (h2 : InAt W vw L) => sameInts_yes v vw L (by omega) W h1 h2
  have hwd : ∀ v W, StrsAt W v exl → Calls Try.prog 11 #[.agg #[.int .i64 2, v], .int .i64 q] W fun e w' => ∃ b, e = .returned (.tuple #[.slice (some ⟨b, 0, none⟩) 2 2, .bool tight, .int .i64 0]) ∧ InAt w' (.slice (some ⟨b, 0, none⟩) 2 2) L ∧ Below W.heap.size W w' := fun v W hS => by
    refine (widths_any 2 v exl q (by decide) ex_small W hS).mono ?_
    rintro e w' ⟨hb, h | h | h⟩
    · exact absurd ex_ck h.1
    · exact absurd hq h.2.1
    · obtain ⟨_, _, b, _, he, hi⟩ := h
      rw [show (2 : Int).toNat = 2 from rfl, hw.1] at hi
      rw [show (2 : Int).toNat = 2 from rfl, hw.2] at he
      have := hi.at
      rw [hL] at this
      exact ⟨b, he, this, hb⟩
  have hex := example_any
  clear hw hq
  cases tight
  all_goals
    go_enter Try.func24, Try.ntmps24
    go_wp2_with (first
      | (go_at_call 22; refine (hex _).mono ?_; rintro e w1 ⟨v, rfl, hS1, b1⟩)
      | (go_at_call 11; refine (hwd v _ hS1).mono ?_; rintro e w2 ⟨b, rfl, hI2, b2⟩; have hB2 := b1.trans (b2.mono b1.size); have hI3 := hI.below hB2 (Nat.le_refl _))
      | (go_at_call 13; refine (hsame _ _ hI2 hI3).mono ?_; rintro e w3 ⟨rfl, b3⟩; have hB3 := hB2.trans (b3.mono hB2.size)))
    go_ret
    exact ⟨rfl, hB3⟩
theorem lit26 (w : World) (x y : Int) : InAt (w.alloc (.cells #[.int .i64 x, .int .i64 y] 3)) (.slice (some ⟨w.heap.size, 0, none⟩) 2 2) [x, y] := by
  have := rec_new (f := inL) (k := 1) (fun _ => rfl) w 3 [x, y]
  exact this
set_option maxRecDepth 100000 in
set_option maxHeartbeats 2000000 in
theorem awake_any (w : World) : Calls Try.prog 21 #[] w fun e w' => e = .returned (.bool true) ∧ Below w.heap.size w w' := by
  have hB0 := (Below.refl w.heap.size w).alloc (Nat.le_refl _) (.cells #[.int .i64 16, .int .i64 14] 3)
  have hI := lit26 w 16 14
  have hw := wide_yes 30 _ [16, 14] false ⟨by omega, by omega⟩ ex_w30 rfl _ hI
  go_enter Try.func21, Try.ntmps21
  go_wp2_with (go_at_call 24; refine hw.mono ?_; rintro e w1 ⟨rfl, b1⟩)
  go_ret
  exact ⟨rfl, hB0.trans (b1.mono hB0.size)⟩
end Go.Proofs.Ytkhnfmdhdfpdhaa

namespace Go.Proofs
open Go.Shelf
def Try.lays105_ren : Go.Shelf.Ren := ⟨fun | 105 => 23 | 212 => 37 | 99 => 38 | 165 => 39 | 166 => 40 | 170 => 41 | 169 => 42 | 263 => 49 | 264 => 50 | 206 => 51 | 240 => 52 | 241 => 53 | 276 => 57 | 277 => 58 | n => n, fun | 9 => 9 | 3 => 3 | 4 => 4 | 20 => 20 | 0 => 0 | 46 => 70 | 109 => 71 | 5 => 5 | 72 => 77 | 76 => 81 | 51 => 93 | 146 => 94 | 53 => 96 | 148 => 97 | 70 => 74 | 37 => 75 | 75 => 80 | 127 => 99 | 164 => 108 | 80 => 84 | n => n, fun | n => n⟩
theorem Try.lays105 : Go.Proofs.Lays.n105 Try.prog Try.lays105_ren := {
  mixed := by kernel_rfl
  f99 := Try.func38.trans (congrArg some (by kernel_rfl))
  f105 := Try.func23.trans (congrArg some (by kernel_rfl))
  f165 := Try.func39.trans (congrArg some (by kernel_rfl))
  f166 := Try.func40.trans (congrArg some (by kernel_rfl))
  f169 := Try.func42.trans (congrArg some (by kernel_rfl))
  f170 := Try.func41.trans (congrArg some (by kernel_rfl))
  f206 := Try.func51.trans (congrArg some (by kernel_rfl))
  f212 := Try.func37.trans (congrArg some (by kernel_rfl))
  f240 := Try.func52.trans (congrArg some (by kernel_rfl))
  f241 := Try.func53.trans (congrArg some (by kernel_rfl))
  f263 := Try.func49.trans (congrArg some (by kernel_rfl))
  f264 := Try.func50.trans (congrArg some (by kernel_rfl))
  f276 := Try.func57.trans (congrArg some (by kernel_rfl))
  f277 := Try.func58.trans (congrArg some (by kernel_rfl))
  t0 := Try.underlying0
  a0 := Try.isAgg0
  z0 := Try.sizeOf0
  v0 := Try.zeroValue0
  t3 := Try.underlying3
  a3 := Try.isAgg3
  z3 := Try.sizeOf3
  v3 := Try.zeroValue3
  t4 := Try.underlying4
  a4 := Try.isAgg4
  z4 := Try.sizeOf4
  v4 := Try.zeroValue4
  t5 := Try.underlying5
  a5 := Try.isAgg5
  z5 := Try.sizeOf5
  v5 := Try.zeroValue5
  t9 := Try.underlying9
  a9 := Try.isAgg9
  z9 := Try.sizeOf9
  v9 := Try.zeroValue9
  t20 := Try.underlying20
  a20 := Try.isAgg20
  z20 := Try.sizeOf20
  v20 := Try.zeroValue20
  t37 := Try.underlying75
  a37 := Try.isAgg75
  z37 := Try.sizeOf75
  v37 := Try.zeroValue75
  t46 := Try.underlying70
  a46 := Try.isAgg70
  z46 := Try.sizeOf70
  v46 := Try.zeroValue70
  t51 := Try.underlying93
  a51 := Try.isAgg93
  z51 := Try.sizeOf93
  v51 := Try.zeroValue93
  t53 := Try.underlying96
  a53 := Try.isAgg96
  z53 := Try.sizeOf96
  v53 := Try.zeroValue96
  t70 := Try.underlying74
  a70 := Try.isAgg74
  z70 := Try.sizeOf74
  v70 := Try.zeroValue74
  t72 := Try.underlying77
  a72 := Try.isAgg77
  z72 := Try.sizeOf77
  v72 := Try.zeroValue77
  t75 := Try.underlying80
  a75 := Try.isAgg80
  z75 := Try.sizeOf80
  v75 := Try.zeroValue80
  t76 := Try.underlying81
  a76 := Try.isAgg81
  z76 := Try.sizeOf81
  v76 := Try.zeroValue81
  t109 := Try.underlying71
  a109 := Try.isAgg71
  z109 := Try.sizeOf71
  v109 := Try.zeroValue71
  t127 := Try.underlying99
  a127 := Try.isAgg99
  z127 := Try.sizeOf99
  v127 := Try.zeroValue99
  t146 := Try.underlying94
  a146 := Try.isAgg94
  z146 := Try.sizeOf94
  v146 := Try.zeroValue94
  t148 := Try.underlying97
  a148 := Try.isAgg97
  z148 := Try.sizeOf97
  v148 := Try.zeroValue97
  t164 := Try.underlying108
  a164 := Try.isAgg108
  z164 := Try.sizeOf108
  v164 := Try.zeroValue108 }
theorem Try.Builder_Extra_105 : Builder.Extra Try.prog Try.lays105_ren := {
  sizeBuilder := by kernel_rfl
  liesBuilder := by kernel_rfl
  t5 := Try.underlying5
  a5 := Try.isAgg5
  z5 := Try.sizeOf5
  v5 := Try.zeroValue5
  infoByte := by kernel_rfl
  cellsByte := by kernel_rfl
  sizeByte := by kernel_rfl
  neB5 := by decide }
open Go.RowKit Go.Lib in
/-- **strings.Repeat: count ≥ 0, the result within one allocation: count copies of s.** (LAID: no walk: one application.) -/
theorem Try.strings_Repeat (s : ByteArray) (c : Nat) (w : World) (hc : c ≤ 9223372036854775807) (hlen : s.size * c ≤ 140737488355328) :
    Calls Try.prog 23 #[.string s, .int .i64 c] w fun e w' => e = .returned (.string ⟨(Lib.repeatL s.data.toList c).toArray⟩) ∧ Below w.heap.size w w' := Any.strings_Repeat Try.lays105 Try.Builder_Extra_105 s c w hc hlen
end Go.Proofs

namespace Go.Proofs.Ytkhnfmdhdfpdhaa
open Go.RowKit Go.Shelf

def exm : List ByteArray := [⟨#[97]⟩, ⟨#[98]⟩, ⟨#[99]⟩]
/-- 201 letters. -/
def big : ByteArray := ⟨(Lib.repeatL (⟨#[97]⟩ : ByteArray).data.toList 201).toArray⟩
theorem ex_ckm : chkG 2 exm = 2 := by kernel_rfl
theorem ex_ckz : chkG 0 [] = 2 := by kernel_rfl
theorem big_size : big.size = 201 := by kernel_rfl
theorem ex_ckb : chkG 1 [big] = 2 := by
  have h : cellB big = false := decide_eq_false (fun h => by have := h.1; rw [big_size] at this; omega)
  unfold chkG
  rw [if_neg]
  intro h'
  have := h'.2.2.2
  simp [h] at this
theorem lit9 (w : World) (l : List ByteArray) : StrsAt (w.alloc (.cells (l.map Value.string).toArray 9)) (.slice (some ⟨w.heap.size, 0, none⟩) l.length l.length) l := strs_new w l
theorem strs_nil (w : World) : StrsAt w (.slice none 0 0) [] := ⟨⟨none, 0, rfl, .inl rfl⟩, fun a n c e => by cases e; exact Nat.le_refl _⟩

set_option maxRecDepth 100000 in
set_option maxHeartbeats 4000000 in
theorem known_any (w : World) : Calls Try.prog 4 #[] w fun e w' => e = .returned (.bool true) ∧ Below w.heap.size w w' := by
  have f1 : True := trivial
  have f2 : True := trivial
  have g1 : True := trivial
  have g2 : True := trivial
  have d1 : True := trivial
  have k1 : True := trivial
  have k2 : True := trivial
  have k3 : True := trivial
  have hex := example_any
  have hle : ∀ v W, StrsAt W v exl → Calls Try.prog 7 #[.agg #[.int .i64 2, v]] W fun e w' => ∃ u, e = .returned (.tuple #[u, .int .i64 0]) ∧ InAt w' u [14, 14] ∧ Below W.heap.size W w' := fun v W hS => by
    refine (gleast_any 2 v exl (by decide) ex_small W hS).mono ?_
    rintro e w' (⟨h, _⟩ | ⟨_, u, he, ⟨hr, _⟩, hb⟩)
    · exact absurd ex_ck h
    · rw [show (2 : Int).toNat = 2 from rfl, ex_ls.1] at hr
      exact ⟨u, he, in_of_row rfl hr, hb⟩
  have hmo : ∀ v W, StrsAt W v exl → Calls Try.prog 9 #[.agg #[.int .i64 2, v]] W fun e w' => ∃ u, e = .returned (.tuple #[u, .int .i64 0]) ∧ InAt w' u [22, 14] ∧ Below W.heap.size W w' := fun v W hS => by
    refine (gmost_any 2 v exl (by decide) ex_small W hS).mono ?_
    rintro e w' (⟨h, _⟩ | ⟨_, u, he, ⟨hr, _⟩, hb⟩)
    · exact absurd ex_ck h
    · rw [show (2 : Int).toNat = 2 from rfl, ex_ls.2] at hr
      exact ⟨u, he, in_of_row rfl hr, hb⟩
  have hwn : ∀ v W, StrsAt W v exl → Calls Try.prog 11 #[.agg #[.int .i64 2, v], .int .i64 (-1)] W fun e w' => e = .returned (.tuple #[.slice none 0 0, .bool false, .int .i64 5]) ∧ Below W.heap.size W w' := fun v W hS => by
    refine (widths_any 2 v exl (-1) (by decide) ex_small W hS).mono ?_
    rintro e w' ⟨hb, h | h | h⟩
    · exact absurd ex_ck h.1
    · exact ⟨h.2.2, hb⟩
    · exact absurd h.2.1 (by omega)
  have hc1 : ∀ W, Calls Try.prog 14 #[.agg #[.int .i64 2, .slice (some ⟨W.heap.size, 0, none⟩) 3 3]] (W.alloc (.cells #[.string ⟨#[97]⟩, .string ⟨#[98]⟩, .string ⟨#[99]⟩] 9)) fun e w' => e = .returned (.int .i64 2) ∧ Below W.heap.size W w' := fun W => by
    refine (gcheck_any 2 _ exm (by decide) (sizes_ok _ (by decide)) _ (lit9 W exm)).mono ?_
    rintro e w' ⟨rfl, hb⟩
    have h0 := (Below.refl W.heap.size W).alloc (Nat.le_refl _) (.cells #[.string ⟨#[97]⟩, .string ⟨#[98]⟩, .string ⟨#[99]⟩] 9)
    exact ⟨by rw [ex_ckm], h0.trans (hb.mono h0.size)⟩
  have hc2 : ∀ W, Calls Try.prog 14 #[.agg #[.int .i64 0, .slice none 0 0]] W fun e w' => e = .returned (.int .i64 2) ∧ Below W.heap.size W w' := fun W => by
    refine (gcheck_any 0 _ [] (by decide) (sizes_ok _ (by decide)) _ (strs_nil W)).mono ?_
    rintro e w' ⟨rfl, hb⟩
    exact ⟨by rw [ex_ckz], hb⟩
  have hc3 : ∀ W, Calls Try.prog 14 #[.agg #[.int .i64 1, .slice (some ⟨W.heap.size, 0, none⟩) 1 1]] (W.alloc (.cells #[.string big] 9)) fun e w' => e = .returned (.int .i64 2) ∧ Below W.heap.size W w' := fun W => by
    refine (gcheck_any 1 _ [big] (by show 1 ≤ _; omega) (fun t ht => by rw [List.mem_singleton.1 ht, big_size]; omega) _ (lit9 W [big])).mono ?_
    rintro e w' ⟨rfl, hb⟩
    have h0 := (Below.refl W.heap.size W).alloc (Nat.le_refl _) (.cells #[.string big] 9)
    exact ⟨by rw [ex_ckb], h0.trans (hb.mono h0.size)⟩
  have hrep : ∀ W, Calls Try.prog 23 #[.string ⟨#[97]⟩, .int .i64 201] W fun e w' => e = .returned (.string big) ∧ Below W.heap.size W w' := fun W => Try.strings_Repeat ⟨#[97]⟩ 201 W (by omega) (by show 1 * 201 ≤ _; omega)
  have haw := awake_any
  have hsm : ∀ (L : List Int) (h2 : L.length = 2) u v W, InAt W u L → InAt W v L → Calls Try.prog 13 #[u, v] W fun e w' => e = .returned (.bool true) ∧ Below W.heap.size W w' := fun L h2 u v W a b => sameInts_yes u v L (by omega) W a b
  have hw1 : ∀ (q : Int) (x y : Int) (t : Bool) (hq : 0 ≤ q ∧ q ≤ 4095) (hw : wdL 2 exl q = [x, y] ∧ decide (q < sumS 2 exl) = t) (W : World), Calls Try.prog 24 #[.int .i64 q, .slice (some ⟨W.heap.size, 0, none⟩) 2 2, .bool t] (W.alloc (.cells #[.int .i64 x, .int .i64 y] 3)) fun e w' => e = .returned (.bool true) ∧ Below W.heap.size W w' := fun q x y t hq hw W => by
    refine (wide_yes q _ [x, y] t hq hw rfl _ (lit26 W x y)).mono ?_
    rintro e w' ⟨rfl, hb⟩
    have h0 := (Below.refl W.heap.size W).alloc (Nat.le_refl _) (.cells #[.int .i64 x, .int .i64 y] 3)
    exact ⟨rfl, h0.trans (hb.mono h0.size)⟩
  have hwA := hw1 50 22 14 false (by omega) ex_w50
  have hwB := hw1 36 22 14 false (by omega) ex_w36
  have hwC := hw1 28 14 14 false (by omega) ex_w28
  have hwD := hw1 21 10 11 true (by omega) ex_w21
  clear hw1
  go_enter Try.func4, Try.ntmps4
  go_wp2_with (first
    | (go_at_call 22; clear f1; refine (hex _).mono ?_; rintro e w1 ⟨v1, rfl, hS1, b1⟩)
    | (go_at_call 7; refine (hle _ _ hS1).mono ?_; rintro e w2 ⟨u1, rfl, hI1, b2⟩; have c2 := b1.trans (b2.mono b1.size))
    | (go_at_call 22; clear f2; refine (hex _).mono ?_; rintro e w3 ⟨v2, rfl, hS3, b3⟩; have c3 := c2.trans (b3.mono c2.size); have hI3 := hI1.below b3 (Nat.le_refl _))
    | (go_at_call 9; refine (hmo _ _ hS3).mono ?_; rintro e w4 ⟨u2, rfl, hJ4, b4⟩; have c4 := c3.trans (b4.mono c3.size); have hI4 := hI3.below b4 (Nat.le_refl _))
    | (go_at_call 22; refine (hex _).mono ?_; rintro e w5 ⟨v3, rfl, hS5, b5⟩; have c5 := c4.trans (b5.mono c4.size); have hI5 := hI4.below b5 (Nat.le_refl _); have hJ5 := hJ4.below b5 (Nat.le_refl _))
    | (go_at_call 11; refine (hwn _ _ hS5).mono ?_; rintro e w6 ⟨rfl, b6⟩; have c6 := c5.trans (b6.mono c5.size); have hI6 := hI5.below b6 (Nat.le_refl _); have hJ6 := hJ5.below b6 (Nat.le_refl _))
    | (go_at_call 14; clear g1; refine (hc1 w6).mono ?_; rintro e w7 ⟨rfl, b7⟩; have c7 := c6.trans (b7.mono c6.size); have hI7 := hI6.below b7 (Nat.le_refl _); have hJ7 := hJ6.below b7 (Nat.le_refl _))
    | (go_at_call 14; clear g2; refine (hc2 w7).mono ?_; rintro e w8 ⟨rfl, b8⟩; have c8 := c7.trans (b8.mono c7.size); have hI8 := hI7.below b8 (Nat.le_refl _); have hJ8 := hJ7.below b8 (Nat.le_refl _))
    | (go_at_call 23; refine (hrep w8).mono ?_; rintro e w9 ⟨rfl, b9⟩; have c9 := c8.trans (b9.mono c8.size); have hI9 := hI8.below b9 (Nat.le_refl _); have hJ9 := hJ8.below b9 (Nat.le_refl _))
    | (go_at_call 14; refine (hc3 w9).mono ?_; rintro e w10 ⟨rfl, b10⟩; have c10 := c9.trans (b10.mono c9.size); have hI10 := hI9.below b10 (Nat.le_refl _); have hJ10 := hJ9.below b10 (Nat.le_refl _))
    | (go_at_call 21; refine (haw w10).mono ?_; rintro e w11 ⟨rfl, b11⟩; have c11 := c10.trans (b11.mono c10.size); have hJ11 := hJ10.below b11 (Nat.le_refl _); have hI11 := hI10.below b11 (Nat.le_refl _))
    | (go_at_call 13; clear d1; refine (hsm [14, 14] rfl _ _ _ (hI11.below ((Below.refl w11.heap.size w11).alloc (Nat.le_refl _) (.cells #[.int .i64 14, .int .i64 14] 3)) (Nat.le_refl _)) (lit26 w11 14 14)).mono ?_; rintro e w12 ⟨rfl, b12'⟩; have b12 := ((Below.refl w11.heap.size w11).alloc (Nat.le_refl _) (.cells #[.int .i64 14, .int .i64 14] 3)).trans (b12'.mono (by rw [World.size_alloc]; omega)); have c12 := c11.trans (b12.mono c11.size); have hJ12 := hJ11.below b12 (Nat.le_refl _))
    | (go_at_call 13; refine (hsm [22, 14] rfl _ _ _ (hJ12.below ((Below.refl w12.heap.size w12).alloc (Nat.le_refl _) (.cells #[.int .i64 22, .int .i64 14] 3)) (Nat.le_refl _)) (lit26 w12 22 14)).mono ?_; rintro e w13 ⟨rfl, b13'⟩; have b13 := ((Below.refl w12.heap.size w12).alloc (Nat.le_refl _) (.cells #[.int .i64 22, .int .i64 14] 3)).trans (b13'.mono (by rw [World.size_alloc]; omega)); have c13 := c12.trans (b13.mono c12.size))
    | (go_at_call 24; clear k1; refine (hwA w13).mono ?_; rintro e w14 ⟨rfl, b14⟩; have c14 := c13.trans (b14.mono c13.size))
    | (go_at_call 24; clear k2; refine (hwB w14).mono ?_; rintro e w15 ⟨rfl, b15⟩; have c15 := c14.trans (b15.mono c14.size))
    | (go_at_call 24; clear k3; refine (hwC w15).mono ?_; rintro e w16 ⟨rfl, b16⟩; have c16 := c15.trans (b16.mono c15.size))
    | (go_at_call 24; refine (hwD w16).mono ?_; rintro e w17 ⟨rfl, b17⟩; have c17 := c16.trans (b17.mono c16.size)))
  go_ret
  exact ⟨rfl, c17⟩
end Go.Proofs.Ytkhnfmdhdfpdhaa

namespace Go.Proofs.Ytkhnfmdhdfpdhaa
open Go.RowKit Go.Shelf

/-- The sum of the first numbers. -/
def smI (l : List Int) (k : Nat) : Int := tot (fun i => l.getD i 0) k
theorem smI_succ (l : List Int) (k : Nat) : smI l (k + 1) = smI l k + l.getD k 0 := rfl
theorem getD_map {f : Nat → Int} {n k : Nat} (h : k < n) : ((List.range n).map f).getD k 0 = f k := by
  rw [List.getD_eq_getElem?_getD, List.getElem?_eq_getElem (by simpa using h)]
  simp
theorem smI_map (f : Nat → Int) (n : Nat) : ∀ k, k ≤ n → smI ((List.range n).map f) k = tot f k
  | 0, _ => rfl
  | k + 1, h => by
    rw [smI_succ, smI_map f n k (by omega), getD_map (by omega)]
    rfl
theorem tot_ext {f g : Nat → Int} : ∀ k, (∀ i, i < k → f i = g i) → tot f k = tot g k
  | 0, _ => rfl
  | k + 1, h => by
    show tot f k + f k = tot g k + g k
    rw [tot_ext k (fun i hi => h i (by omega)), h k (by omega)]
theorem sAt_cols {n : Nat} {l : List ByteArray} {k : Nat} (h : k < n) : sAt (cols n l) k = (colI n l k).s := by
  rw [sAt_get (by rw [cols_len]; exact h), cols_get]
theorem mAt_cols {n : Nat} {l : List ByteArray} {k : Nat} (h : k < n) : mAt (cols n l) k = (colI n l k).m := by
  rw [mAt_get (by rw [cols_len]; exact h), cols_get]
theorem sm_leS (n : Nat) (l : List ByteArray) (k : Nat) (h : k ≤ n) : smI (leS n l n) k = tot (sAt (cols n l)) k := by
  unfold leS
  rw [smI_map _ _ _ h]
  exact tot_ext k (fun i hi => (sAt_cols (by omega)).symm)
theorem sm_leM (n : Nat) (l : List ByteArray) (k : Nat) (h : k ≤ n) : smI (leM n l n) k = tot (mAt (cols n l)) k := by
  unfold leM
  rw [smI_map _ _ _ h]
  exact tot_ext k (fun i hi => (mAt_cols (by omega)).symm)
theorem gv_mono {r p t d : Int} (hr : 0 ≤ r) (hd : 0 ≤ d) : gv r p t ≤ gv r p (t + d) := by
  unfold gv
  refine Int.ediv_le_ediv (by omega) ?_
  exact Int.mul_le_mul_of_nonneg_left (by omega) hr
theorem gv_step {r p t d : Int} (hd : 0 ≤ d) (hrp : r ≤ max p 1) : gv r p (t + d) ≤ gv r p t + d := by
  unfold gv
  have hm : 0 < max p 1 := by omega
  generalize max p 1 = m at *
  have h1 : r * (t + d) ≤ r * t + d * m := by
    rw [Int.mul_add]
    have : r * d ≤ m * d := Int.mul_le_mul_of_nonneg_right hrp hd
    rw [Int.mul_comm m d] at this
    omega
  have h2 := Int.ediv_le_ediv hm h1
  rw [Int.add_mul_ediv_right _ _ (by omega)] at h2
  exact h2
theorem tot_tele (g : Nat → Int) : ∀ k, tot (fun i => g (i + 1) - g i) k = g k - g 0
  | 0 => by show (0 : Int) = _; omega
  | k + 1 => by
    show tot (fun i => g (i + 1) - g i) k + (g (k + 1) - g k) = _
    rw [tot_tele g k]; omega
theorem tot_add (f g : Nat → Int) : ∀ k, tot (fun i => f i + g i) k = tot f k + tot g k
  | 0 => rfl
  | k + 1 => by
    show tot (fun i => f i + g i) k + (f k + g k) = tot f k + f k + (tot g k + g k)
    rw [tot_add f g k]; omega
/-- What is known of the widths for a room. -/
structure Fit (n : Nat) (L A B : List Int) (q S : Int) : Prop where
  hl : L.length = n
  ha : A.length = n
  hb : B.length = n
  le : smI L n ≤ q
  eq : q ≤ smI B n → smI L n = q
  sa : smI A n = S
  lo : ∀ k, k < n → 0 ≤ L.getD k 0 ∧ L.getD k 0 ≤ 4095
  ins : ¬ q < S → ∀ k, k < n → A.getD k 0 ≤ L.getD k 0 ∧ L.getD k 0 ≤ B.getD k 0
  ra : ∀ k, k < n → 0 ≤ A.getD k 0 ∧ A.getD k 0 ≤ 819004
  rb : ∀ k, k < n → 0 ≤ B.getD k 0 ∧ B.getD k 0 ≤ 819004
theorem smI_rng {l : List Int} {n : Nat} {b : Int} (h : ∀ k, k < n → 0 ≤ l.getD k 0 ∧ l.getD k 0 ≤ b) : ∀ k, k ≤ n → 0 ≤ smI l k ∧ smI l k ≤ b * (k : Int)
  | 0, _ => by show (0 : Int) ≤ 0 ∧ (0 : Int) ≤ b * 0; omega
  | k + 1, hk => by
    have ih := smI_rng h k (by omega)
    have := h k (by omega)
    rw [smI_succ, show b * ((k + 1 : Nat) : Int) = b * (k : Int) + b by rw [Int.natCast_add, Int.mul_add]; simp]
    omega
theorem smI_ge {l : List Int} {n : Nat} {b : Int} (h : ∀ k, k < n → 0 ≤ l.getD k 0 ∧ l.getD k 0 ≤ b) : ∀ k j, j < k → k ≤ n → l.getD j 0 ≤ smI l k
  | 0, j, hj, _ => by omega
  | k + 1, j, hj, hk => by
    have h0 := (smI_rng h k (by omega)).1
    have := h k (by omega)
    rw [smI_succ]
    by_cases e : j = k
    · rw [e]; omega
    · have := smI_ge h k j (by omega) (by omega); omega
theorem ev_sum (n : Nat) (q : Int) (hn : 1 ≤ n) : tot (evF n q) n = q := by
  have h : tot (evF n q) n = gv q n n - gv q n (0 : Nat) := tot_tele (fun i => gv q n ((i : Nat) : Int)) n
  rw [h, show ((0 : Nat) : Int) = 0 from rfl, gv_zero]
  unfold gv
  rw [show max (n : Int) 1 = n by omega, Int.mul_ediv_cancel _ (by omega)]
  omega
theorem gro_sum (L : List Co) (hF : Few L) (q : Int) (hq : tot (sAt L) L.length ≤ q) : tot (groF L q) L.length = min q (tot (mAt L) L.length) := by
  have h : tot (groF L q) L.length = tot (sAt L) L.length + (gv (groR L q) (gt L L.length) (gt L L.length) - gv (groR L q) (gt L L.length) (gt L 0)) := by
    rw [← tot_tele (fun i => gv (groR L q) (gt L L.length) (gt L i)), ← tot_add]; rfl
  have ht := hF.tot L.length (Nat.le_refl _)
  have hg := gt_rng hF (Nat.le_refl L.length)
  have hR : groR L q = min q (tot (mAt L) L.length) - tot (sAt L) L.length := rfl
  have hP : gt L L.length = tot (mAt L) L.length - tot (sAt L) L.length := rfl
  rw [h, show gt L 0 = 0 from rfl, gv_zero]
  by_cases h0 : gt L L.length = 0
  · rw [h0, gv_zero]; omega
  · have e : gv (groR L q) (gt L L.length) (gt L L.length) = groR L q := by
      unfold gv
      rw [show max (gt L L.length) 1 = gt L L.length by omega, Int.mul_ediv_cancel _ h0]
    rw [e]; omega
theorem fit_of {n : Nat} {l : List ByteArray} (hT : Tab n l) {q : Int} (hq : 0 ≤ q ∧ q ≤ 4095) : Fit n (wdL n l q) (leS n l n) (leM n l n) q (sumS n l) := by
  have hF := cols_few hT
  have hcn : (cols n l).length = n := cols_len n l
  obtain ⟨n1, n2⟩ := hT.hc
  have hsa : smI (leS n l n) n = sumS n l := sm_leS n l n (Nat.le_refl _)
  have hsb : smI (leM n l n) n = sumM n l := sm_leM n l n (Nat.le_refl _)
  have gA : ∀ k, k < n → (leS n l n).getD k 0 = (colI n l k).s := fun k hk => getD_map hk
  have gB : ∀ k, k < n → (leM n l n).getD k 0 = (colI n l k).m := fun k hk => getD_map hk
  have hrng := hT.ha.col n
  have ra : ∀ k, k < n → 0 ≤ (leS n l n).getD k 0 ∧ (leS n l n).getD k 0 ≤ 819004 := fun k hk => by rw [gA k hk]; have := hrng k; omega
  have rb : ∀ k, k < n → 0 ≤ (leM n l n).getD k 0 ∧ (leM n l n).getD k 0 ≤ 819004 := fun k hk => by rw [gB k hk]; have := hrng k; omega
  have hts := hF.tot n (by omega)
  have hSM : sumS n l ≤ sumM n l := hts.2.1
  by_cases ht : q < sumS n l
  · have hL : wdL n l q = evL n q := if_pos ht
    have gL : ∀ k, k < n → (evL n q).getD k 0 = evF n q k := fun k hk => getD_map hk
    have hs : smI (evL n q) n = q := by unfold evL; rw [smI_map _ _ _ (Nat.le_refl _), ev_sum n q n1]
    have lo0 : ∀ k, k < n → 0 ≤ (evL n q).getD k 0 ∧ (evL n q).getD k 0 ≤ 4095 * 9 := fun k hk => by
      rw [gL k hk]
      unfold evF
      have h1 := gv_mono (r := q) (p := n) (t := (k : Int)) (d := 1) hq.1 (by omega)
      have h2 := gv_rng (r := q) (p := n) (t := ((k + 1 : Nat) : Int)) hq.1 (by omega)
      have h3 := gv_rng (r := q) (p := n) (t := (k : Int)) hq.1 (by omega)
      have h4 : q * ((k + 1 : Nat) : Int) ≤ 4095 * 9 := Int.mul_le_mul hq.2 (by omega) (by omega) (by omega)
      rw [show ((k + 1 : Nat) : Int) = (k : Int) + 1 by omega] at *
      omega
    refine ⟨by rw [hL]; simp [evL], by simp [leS], by simp [leM], by rw [hL, hs]; omega, fun _ => by rw [hL, hs], hsa, fun k hk => ?_, fun h => absurd ht h, ra, rb⟩
    rw [hL]
    have := smI_ge lo0 n k hk (Nat.le_refl _)
    have := lo0 k hk
    omega
  · have hL : wdL n l q = groL (cols n l) q := if_neg ht
    have e : groL (cols n l) q = (List.range n).map (groF (cols n l) q) := by unfold groL; rw [hcn]
    have gL : ∀ k, k < n → (groL (cols n l) q).getD k 0 = groF (cols n l) q k := fun k hk => by rw [e]; exact getD_map hk
    have hqS : tot (sAt (cols n l)) (cols n l).length ≤ q := by rw [hcn]; show sumS n l ≤ q; omega
    have hs : smI (groL (cols n l) q) n = min q (sumM n l) := by
      rw [e, smI_map _ _ _ (Nat.le_refl _)]
      have := gro_sum (cols n l) hF q hqS
      rw [hcn] at this
      exact this
    have hR := groR_rng hF ⟨hqS, hq.2⟩
    have hins : ∀ k, k < n → (colI n l k).s ≤ groF (cols n l) q k ∧ groF (cols n l) q k ≤ (colI n l k).m := fun k hk => by
      unfold groF
      rw [sAt_cols hk, gt_succ (by rw [hcn]; exact hk)]
      have hc := hrng k
      rw [cols_get]
      have h1 := gv_mono (r := groR (cols n l) q) (p := gt (cols n l) (cols n l).length) (t := gt (cols n l) k) (d := (colI n l k).m - (colI n l k).s) hR.1 (by omega)
      have h2 := gv_step (r := groR (cols n l) q) (p := gt (cols n l) (cols n l).length) (t := gt (cols n l) k) (d := (colI n l k).m - (colI n l k).s) (by omega) (by
        have hRe : groR (cols n l) q = min q (tot (mAt (cols n l)) (cols n l).length) - tot (sAt (cols n l)) (cols n l).length := rfl
        have hPe : gt (cols n l) (cols n l).length = tot (mAt (cols n l)) (cols n l).length - tot (sAt (cols n l)) (cols n l).length := rfl
        omega)
      omega
    have lo0 : ∀ k, k < n → 0 ≤ (groL (cols n l) q).getD k 0 ∧ (groL (cols n l) q).getD k 0 ≤ 819004 := fun k hk => by
      rw [gL k hk]; have := hins k hk; have := hrng k; omega
    refine ⟨by rw [hL, e]; simp, by simp [leS], by simp [leM], by rw [hL, hs]; omega, fun h => by rw [hsb] at h; rw [hL, hs]; omega, hsa, fun k hk => ?_, fun _ k hk => ?_, ra, rb⟩
    · rw [hL]
      have := smI_ge lo0 n k hk (Nat.le_refl _)
      have := lo0 k hk
      omega
    · rw [hL, gA k hk, gB k hk, gL k hk]
      exact hins k hk

set_option maxRecDepth 100000 in
set_option maxHeartbeats 2000000 in
theorem gsum_any (v : Value) (L : List Int) (b : Int) (hlen : L.length ≤ 8) (hb : 0 ≤ b ∧ b ≤ 10000000) (hr : ∀ k, k < L.length → 0 ≤ L.getD k 0 ∧ L.getD k 0 ≤ b) (w : World) (hI : InAt w v L) :
    Calls Try.prog 25 #[v] w fun e w' => e = .returned (.int .i64 (smI L L.length)) ∧ w' = w := by
  obtain ⟨a1, cap1, rfl, k1⟩ := hI.ex
  clear hI
  go_enter Try.func25, Try.ntmps25
  go_wp2_with fail
  go_loopw [3, 4] (fun s i wr => ∃ k : Nat, k ≤ L.length ∧ s = .int .i64 (smI L k) ∧ i = .int .i64 k ∧ wr = w) (fun _ i _ => L.length - (RowKit.intOf i).toNat)
  case atStart => exact ⟨0, by omega, rfl, rfl, rfl⟩
  case round =>
    obtain ⟨k, hk, rfl, rfl, rfl⟩ := hrel
    have hs := smI_rng hr k hk
    have hs2 : b * (k : Int) ≤ 10000000 * 8 := Int.mul_le_mul hb.2 (by omega) (by omega) (by omega)
    by_cases hlt : k < L.length
    · rcases k1 with k1 | ⟨b1, o1, rfl, hl1, hc1⟩
      · rw [k1] at hlt; simp at hlt
      · have d1 : wr.cell? ⟨b1, o1 + k, none⟩ = some (.int .i64 L[k]) := InAt.cell hlt hc1
        have hkl : (k : Int) < L.length := by omega
        have hg : L.getD k 0 = L[k] := by rw [List.getD_eq_getElem?_getD, List.getElem?_eq_getElem hlt]; rfl
        have hx := hr k hlt
        have hn : Hid (smI L (k + 1) = smI L k + L[k]) := (by rw [smI_succ, hg] : _ = _)
        rw [hg] at hx
        clear hc1 hg
        generalize L[k] = x at *
        generalize smI L k = S at *
        go_wp2_with fail
        go_roundw
        case rel => exact ⟨k + 1, by omega, by rw [hn.out], by simp, trivial⟩
        case measure => simp [RowKit.intOf]; omega
    · obtain rfl : k = L.length := by omega
      have hkl : ¬ (L.length : Int) < L.length := by omega
      generalize hS : smI L L.length = S at *
      have hS' : Hid (smI L L.length = S) := hS
      clear hS
      go_wp2_with fail
      go_ret
      exact ⟨by rw [hS'.out]; rfl, rfl⟩
end Go.Proofs.Ytkhnfmdhdfpdhaa

namespace Go.Proofs.Ytkhnfmdhdfpdhaa
open Go.RowKit Go.Shelf

theorem getD_at {l : List Int} {k : Nat} (h : k < l.length) : l.getD k 0 = l[k] := by rw [List.getD_eq_getElem?_getD, List.getElem?_eq_getElem h]; rfl
theorem in_cell {W W' : World} {v : Value} {l : List Int} {k : Nat} (h : InAt W v l) (hb : Below W.heap.size W W') (hk : k < l.length) : ∃ b o cap, v = .slice (some ⟨b, o, none⟩) l.length cap ∧ W'.cell? ⟨b, o + k, none⟩ = some (.int .i64 (l.getD k 0)) := by
  obtain ⟨a, cap, rfl, h2⟩ := h.ex
  rcases h2 with h2 | ⟨b, o, rfl, hl, hc⟩
  · rw [h2] at hk; simp at hk
  · exact ⟨b, o, cap, rfl, by rw [getD_at hk]; exact (hb.cell hl).trans (InAt.cell hk hc)⟩

set_option maxRecDepth 100000 in
set_option maxHeartbeats 8000000 in
theorem fits_many (c : Int) (v : Value) (l : List ByteArray) (q : Int) (hl : l.length ≤ 9223372036854775807) (hsz : ∀ t ∈ l, t.size ≤ 9223372036854775807) (w : World) (hS : StrsAt w v l) (h100 : 100 < l.length) :
    Calls Try.prog 5 #[.agg #[.int .i64 c, v], .int .i64 q] w fun e w' => e = .returned (.bool true) ∧ Below w.heap.size w w' := by
  have hB0 := (Below.refl w.heap.size w).alloc (Nat.le_refl _) (.cells #[.int .i64 c, v] 24)
  have hS0 := hS.below hB0 (Nat.le_refl _)
  have hs0 : (w.alloc (.cells #[.int .i64 c, v] 24)).heap.size = w.heap.size + 1 := World.size_alloc _ _
  have hbx : (w.alloc (.cells #[.int .i64 c, v] 24)).heap[w.heap.size]? = some (.cells #[.int .i64 c, v] 24) := World.alloc_heap_new w _
  have hkn := known_any
  have hwd := fun W h => widths_any c v l q hl hsz W h
  have hle := fun W h => gleast_any c v l hl hsz W h
  have hmo := fun W h => gmost_any c v l hl hsz W h
  obtain ⟨a, cap, rfl, -⟩ := hS.ex
  clear hS
  have hgt : (100 : Int) < (l.length : Int) := by omega
  clear hwd hle hmo
  go_enter Try.func5, Try.ntmps5
  go_wp2_with (go_at_call 4; refine (hkn _).mono ?_; rintro e w1 ⟨rfl, b1⟩; have hx1 := (b1.block w.heap.size (by omega)).trans hbx; (have c0 : w1.cell? ⟨w.heap.size, 0, none⟩ = some (.int .i64 c) := by rw [Lib.cell_of_heap hx1]; rfl); (have c1 : w1.cell? ⟨w.heap.size, 1, none⟩ = some (.slice a l.length cap) := by rw [Lib.cell_of_heap hx1]; rfl); have hB1 := hB0.trans (b1.mono hB0.size); have hS1 := hS0.below b1 (Nat.le_refl _); have hlt1 := (Array.getElem?_eq_some_iff.1 hx1).1)
  go_ret
  exact ⟨rfl, hB1⟩

set_option maxRecDepth 100000 in
set_option maxHeartbeats 8000000 in
theorem fits_err (c : Int) (v : Value) (l : List ByteArray) (q : Int) (hl : l.length ≤ 9223372036854775807) (hsz : ∀ t ∈ l, t.size ≤ 9223372036854775807) (w : World) (hS : StrsAt w v l) (h100 : ¬ 100 < l.length) (hbad : chkG c l ≠ 0 ∨ ¬ (0 ≤ q ∧ q ≤ 4095)) :
    Calls Try.prog 5 #[.agg #[.int .i64 c, v], .int .i64 q] w fun e w' => e = .returned (.bool true) ∧ Below w.heap.size w w' := by
  have hB0 := (Below.refl w.heap.size w).alloc (Nat.le_refl _) (.cells #[.int .i64 c, v] 24)
  have hS0 := hS.below hB0 (Nat.le_refl _)
  have hs0 : (w.alloc (.cells #[.int .i64 c, v] 24)).heap.size = w.heap.size + 1 := World.size_alloc _ _
  have hbx : (w.alloc (.cells #[.int .i64 c, v] 24)).heap[w.heap.size]? = some (.cells #[.int .i64 c, v] 24) := World.alloc_heap_new w _
  have hkn := known_any
  have hwd := fun W h => widths_any c v l q hl hsz W h
  have hle := fun W h => gleast_any c v l hl hsz W h
  have hmo := fun W h => gmost_any c v l hl hsz W h
  obtain ⟨a, cap, rfl, -⟩ := hS.ex
  clear hS
  have hgt : ¬ (100 : Int) < (l.length : Int) := by omega
  have hw : ∀ W, StrsAt W (.slice a l.length cap) l → Calls Try.prog 11 #[.agg #[.int .i64 c, .slice a l.length cap], .int .i64 q] W fun e w' => ∃ x : Int, e = .returned (.tuple #[.slice none 0 0, .bool false, .int .i64 x]) ∧ x ≠ 0 ∧ Below W.heap.size W w' := fun W h => by
    refine (hwd W h).mono ?_
    rintro e w' ⟨hb, h | h | h⟩
    · exact ⟨_, h.2, h.1, hb⟩
    · exact ⟨_, h.2.2, by omega, hb⟩
    · rcases hbad with hb2 | hb2
      · exact absurd h.1 hb2
      · exact absurd h.2.1 hb2
  clear hwd hle hmo hbad
  go_enter Try.func5, Try.ntmps5
  go_wp2_with (first | (go_at_call 4; refine (hkn _).mono ?_; rintro e w1 ⟨rfl, b1⟩; have hx1 := (b1.block w.heap.size (by omega)).trans hbx; (have c0 : w1.cell? ⟨w.heap.size, 0, none⟩ = some (.int .i64 c) := by rw [Lib.cell_of_heap hx1]; rfl); (have c1 : w1.cell? ⟨w.heap.size, 1, none⟩ = some (.slice a l.length cap) := by rw [Lib.cell_of_heap hx1]; rfl); have hB1 := hB0.trans (b1.mono hB0.size); have hS1 := hS0.below b1 (Nat.le_refl _); have hlt1 := (Array.getElem?_eq_some_iff.1 hx1).1) | (go_at_call 11; refine (hw _ hS1).mono ?_; rintro e w2 ⟨x, rfl, hne, b2⟩; have hB2 := hB1.trans (b2.mono hB1.size)))
  go_ret
  exact ⟨rfl, hB2⟩
end Go.Proofs.Ytkhnfmdhdfpdhaa
