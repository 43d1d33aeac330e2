/-
  What is proved here: the stop behind a place, as behind and the document's After tell it.
-/
import Derived.Test.YtbnpplihiolpiaaSearch
import Derived.Test.YtbnpplihiolpiaaReg
import Derived.Laws.ResultCell
namespace Go.Proofs.Ytbnpplihiolpiaa
open Go.RowKit Go.Shelf

def stC (s : St) : Array Value := #[.int .i64 s.a, .int .i64 s.k]
theorem stV_eq (s : St) : stV s = .agg (stC s) := rfl
theorem stC_one (s : St) : (stC s).all (·.oneCell') = true := by simp [stC, Value.oneCell']
theorem info24 (s : St) : (Try.prog.info? 24).map (·.size) = some (stC s).size := by show _ = some 2; kernel_rfl
theorem heap_new (w : World) (o : Obj) : (w.alloc o).heap[w.heap.size]? = some o := by show (w.heap.push o)[w.heap.size]? = _; simp
theorem Turns.setRow {X : Nat → Prop} (W : World) {r : Nat} (hp : X r) (cs : Array Value) : Turns X W (W.setRow r cs) :=
  ⟨rfl, rfl, rfl, by simp, fun k _ hk => setRow_other W r k cs (fun e => hk (e ▸ hp))⟩
theorem below_row {n b : Nat} {w W : World} (h : Below n w W) (hn : n ≤ W.heap.size) (hb : n ≤ b) (cs : Array Value) : Below n w (W.setRow b cs) :=
  h.trans ((Turns.setRow (X := fun k => k = b) W rfl cs).below hn (fun k hk => by omega))
theorem results_cell_row2 {P : Program} {fn : Func} {p u : Tmp} {ty : TypeId} (h : fn.results = #[.cell p ty, .tmp u]) (tmps : Array Value) (w : World) (g : Nat) (t : TypeId) (cs : Array Value) (fr : Nat × Nat) (d : TypeDesc)
    (hp : tmps.getD p undef = .pointer (some ⟨g, 0, none⟩)) (hg : w.heap[g]? = some (.cells cs t fr))
    (hu : P.underlying ty = some d) (hd : (match d with | .struct _ | .array _ _ => true | _ => false) = true) (hi : (P.info? ty).map (·.size) = some cs.size) :
    (results fn tmps).run P w = .ok (.tuple #[.agg cs, tmps.getD u undef]) w := by
  have hp' : tmps[p]?.getD undef = .pointer (some ⟨g, 0, none⟩) := by simpa using hp
  rw [results_cell_tmp h]
  simp [hp', asAddr, run_loadVar_row w g t ty cs fr d hg hu hd hi, Result.andThen]
/-- A stop's box. -/
structure SB (W : World) (b : Nat) (s : St) : Prop where
  row : W.heap[b]? = some (.cells (stC s) 24 (0, 0))
theorem SB.new (w : World) (s : St) : SB (w.alloc (.cells (stC s) 24)) w.heap.size s := ⟨heap_new w _⟩
theorem SB.lt {W : World} {b : Nat} {s : St} (h : SB W b s) : b < W.heap.size := (Array.getElem?_eq_some_iff.1 h.row).1
theorem SB.below {n : Nat} {W W' : World} {b : Nat} {s : St} (h : SB W b s) (hb : Below n W W') (hn : b < n) : SB W' b s := ⟨(hb.block b hn).trans h.row⟩
theorem SB.set {W : World} {b : Nat} {s : St} (h : SB W b s) (t : St) : SB (W.setRow b (stC t)) b t := ⟨setRow_heap _ _ _ _ 24 _ h.row⟩
theorem SB.c0 {W : World} {b : Nat} {s : St} (h : SB W b s) : W.cell? ⟨b, 0, none⟩ = some (.int .i64 s.a) := by rw [Lib.cell_of_heap h.row]; rfl
theorem SB.c1 {W : World} {b : Nat} {s : St} (h : SB W b s) : W.cell? ⟨b, 1, none⟩ = some (.int .i64 s.k) := by rw [Lib.cell_of_heap h.row]; rfl

set_option maxRecDepth 100000 in
set_option maxHeartbeats 2000000 in
theorem behind_any (v : Value) (l : List St) (x : Int) (hok : okB l = true) (hx : inB x = true) (w : World) (hS : RecAt 2 stL w v l) :
    Calls Try.prog 17 #[v, .int .i64 x] w fun e w' => e = .returned (stV (firstS l x)) ∧ Below w.heap.size w w' := by
  have hx' : 0 ≤ x ∧ x ≤ 8190 := of_decide_eq_true hx
  have hl := (ok_get hok).1
  have hB := (Below.refl w.heap.size w).alloc (Nat.le_refl _) (.cells (stC ⟨0, 0⟩) 24)
  have hS1 := hS.below hB (Nat.le_refl _)
  have hs := search_any v l (x + 1) hl (ok_rise hok) _ hS1
  have hb0 := SB.new w ⟨0, 0⟩
  obtain ⟨a, cap, rfl, h2⟩ := hS.ex
  have hsz : (w.alloc (.cells (stC ⟨0, 0⟩) 24)).heap.size = w.heap.size + 1 := World.size_alloc _ _
  clear hS hS1
  go_enter Try.func17, Try.ntmps17
  go_wp2_with fail
  refine hs.mono ?_
  rintro e w1 ⟨k, f, rfl, hk, hlo, hhi, hb1⟩
  have hb2 := hb0.below hb1 hb0.lt
  have hB1 := hB.trans (hb1.mono hB.size)
  have hgr := hb1.size
  clear hs hb0
  by_cases hlt : k < l.length
  · rcases h2 with h2 | ⟨b, o, rfl, hbl, hc⟩
    · rw [h2] at hlt; simp at hlt
    have hlt' : (k : Int) < l.length := by omega
    have hres : Hid (firstS l x = l[k]) := first_at k hlt (fun j hj h => by have := hlo.out j hj h; omega) (by have := hhi.out k hlt (Nat.le_refl _); omega)
    have c0 : w1.cell? ⟨b, o + k * 2, none⟩ = some (.int .i64 l[k].a) := (hB1.cell hbl).trans (hc k hlt 0 _ rfl)
    have c1 : w1.cell? ⟨b, o + k * 2 + 1, none⟩ = some (.int .i64 l[k].k) := (hB1.cell hbl).trans (hc k hlt 1 _ rfl)
    clear hc hlo hhi hb1 hB
    go_wp2_with (refine wpList_store_row rfl 24 _ _ rfl w.heap.size (stC l[k]) rfl rfl 24 _ hb2.row (info24 _) rfl (stC_one _) ?_)
    refine bodyPost_ret (results_cell_row rfl _ _ w.heap.size 24 _ (0, 0) _ rfl (hb2.set _).row Try.underlying24 rfl (info24 _)) rfl ⟨?_, below_row hB1 hB1.size (Nat.le_refl _) _⟩
    rw [hres.out]; rfl
  · have hge : ¬ (k : Int) < l.length := by omega
    have hres : Hid (firstS l x = ⟨(x.tdiv 48 + 1) * 48, 0⟩) := first_no (fun j hj => by have := hlo.out j hj (by omega); omega)
    have hdv : x.tdiv 48 = x / 48 := Int.tdiv_eq_ediv_of_nonneg hx'.1
    rw [hdv] at hres
    clear h2 hlo hhi hb1 hB
    go_wp2_with (refine wpList_store_row rfl 24 _ _ rfl w.heap.size (stC ⟨(x / 48 + 1) * 48, 0⟩) rfl rfl 24 _ hb2.row (info24 _) rfl (stC_one _) ?_)
    refine bodyPost_ret (results_cell_row rfl _ _ w.heap.size 24 _ (0, 0) _ rfl (hb2.set _).row Try.underlying24 rfl (info24 ⟨(x / 48 + 1) * 48, 0⟩)) rfl ⟨?_, below_row hB1 hB1.size (Nat.le_refl _) _⟩
    rw [hres.out]; rfl

set_option maxRecDepth 100000 in
set_option maxHeartbeats 2000000 in
theorem after_any (v : Value) (l : List St) (x : Int) (hl : l.length ≤ 16) (hx : inB x = true) (w : World) (hS : RecAt 2 stL w v l) :
    Calls Try.prog 18 #[v, .int .i64 x] w fun e w' => e = .returned (stV (firstS l x)) ∧ Below w.heap.size w w' := by
  have hx' : 0 ≤ x ∧ x ≤ 8190 := of_decide_eq_true hx
  have hB := (Below.refl w.heap.size w).alloc (Nat.le_refl _) (.cells (stC ⟨0, 0⟩) 24)
  have hb0 := SB.new w ⟨0, 0⟩
  obtain ⟨a, cap, rfl, h2⟩ := hS.ex
  clear hS
  have hY : Hid (∀ k (hk : k < l.length), (∀ j (hj : j < l.length), j < k → l[j].a ≤ x) → x < l[k].a → firstS l x = l[k]) := fun k hk h1 h2 => first_at k hk h1 h2
  have hN : Hid ((∀ j (hj : j < l.length), l[j].a ≤ x) → firstS l x = ⟨(x.tdiv 48 + 1) * 48, 0⟩) := first_no
  generalize firstS l x = z at hY hN ⊢
  go_enter Try.func18, Try.ntmps18
  go_wp2_with fail
  go_loopw [5] (fun i wr => ∃ (k : Nat), k ≤ l.length ∧ i = .int .i64 k ∧ Below w.heap.size w wr ∧ SB wr w.heap.size ⟨0, 0⟩ ∧ Hid (∀ j (hj : j < l.length), j < k → l[j].a ≤ x)) (fun i _ => l.length - (intOf i).toNat)
  case atStart => exact ⟨0, by omega, rfl, hB, hb0, fun j _ hj => by omega⟩
  case round =>
    obtain ⟨k, hk, rfl, hb, hsb, hall⟩ := hrel
    clear hB hb0
    by_cases hlt : k < l.length
    · rcases h2 with h2 | ⟨b, o, rfl, hbl, hc⟩
      · rw [h2] at hlt; simp at hlt
      have hlt' : (k : Int) < l.length := by omega
      have c0 : wr.cell? ⟨b, o + k * 2, none⟩ = some (.int .i64 l[k].a) := (hb.cell hbl).trans (hc k hlt 0 _ rfl)
      have c1 : wr.cell? ⟨b, o + k * 2 + 1, none⟩ = some (.int .i64 l[k].k) := (hb.cell hbl).trans (hc k hlt 1 _ rfl)
      by_cases hlx : x < l[k].a
      · have hz := hY.out k hlt hall.out hlx
        subst hz
        clear hc hall hY hN
        go_wp2_with (refine wpList_store_row rfl 24 _ _ rfl w.heap.size (stC l[k]) rfl rfl 24 _ hsb.row (info24 _) rfl (stC_one _) ?_)
        refine bodyPost_ret (results_cell_row rfl _ _ w.heap.size 24 _ (0, 0) _ rfl (hsb.set _).row Try.underlying24 rfl (info24 _)) rfl ⟨rfl, below_row hb hb.size (Nat.le_refl _) _⟩
      · have hall' : Hid (∀ j (hj : j < l.length), j < k + 1 → l[j].a ≤ x) := fun j hj hjk => by
          by_cases e : j = k
          · subst e; omega
          · exact hall.out j hj (by omega)
        clear hc hall hY hN
        go_wp2_with fail
        go_roundw
        case rel => exact ⟨k + 1, by omega, by simp, hb, hsb, hall'⟩
        case measure => simp [intOf]; omega
    · have hge : ¬ (k : Int) < l.length := by omega
      have hz := hN.out (fun j hj => hall.out j hj (by omega))
      have hdv : x.tdiv 48 = x / 48 := Int.tdiv_eq_ediv_of_nonneg hx'.1
      rw [hdv] at hz
      subst hz
      clear h2 hall hY hN
      go_wp2_with (refine wpList_store_row rfl 24 _ _ rfl w.heap.size (stC ⟨(x / 48 + 1) * 48, 0⟩) rfl rfl 24 _ hsb.row (info24 _) rfl (stC_one _) ?_)
      refine bodyPost_ret (results_cell_row rfl _ _ w.heap.size 24 _ (0, 0) _ rfl (hsb.set _).row Try.underlying24 rfl (info24 ⟨(x / 48 + 1) * 48, 0⟩)) rfl ⟨rfl, below_row hb hb.size (Nat.le_refl _) _⟩
end Go.Proofs.Ytbnpplihiolpiaa
