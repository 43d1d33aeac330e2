/-
  What is proved here: how a region is gone through whose operations come up in any order (no function of the program is named).
  What is proved here: how plain regions with guards are gone through, moves and skipped operations many at once (no function of the program is named).
  What is proved here: how regions whose order is drawn are gone through, moves and skipped operations many at once (no function of the program is named).
-/
import Derived.Test.YtbdpghjegachaaaGreatDoorG1
import Derived.OrdersHeld
import Derived.BigFrame
namespace Go.Proofs.YtbdpghjegachaaaGreatDoor
open Go.RowKit Go.Shelf

theorem take_h {P : Program} {md : Region.Mode} {ops : Array Oper} {Q : Exit → Act → World → Prop} {S : World → Prop} {i : Nat} {oi : Oper} {v : Value} {fuel : Nat} {listed : Array Bool} {a : Act} {w : World} (a' : Act) (hi : ops[i]? = some oi)
    (hs : Region.noSelect ops = true) (hf : Region.free md ops listed i = true) (hr : (Region.ready md ops listed).contains i = true)
    (hQ : ∀ c x w, Q (.panic c) (x.put oi.dst v) w → Q (.panic c) x w) (hw : Region.wanted oi (yielded ops a.tmps) = true) (hy : ∀ w, S w → (execOp a.eval oi).run P w = .ok (.value v) w) (ha : a.put oi.dst v = a') (hS : S w)
    (h : wpAnyH P md ops Q S fuel (listed.setIfInBounds i true) a' w) : wpAnyH P md ops Q S (fuel + 1) listed a w :=
  wpAnyH_take hi hs hf hr hQ (Or.inl ⟨hw, hy⟩) hS (ha ▸ h)
theorem skip_h {P : Program} {md : Region.Mode} {ops : Array Oper} {Q : Exit → Act → World → Prop} {S : World → Prop} {i : Nat} {oi : Oper} {fuel : Nat} {listed : Array Bool} {a : Act} {w : World} (a' : Act) (hi : ops[i]? = some oi)
    (hs : Region.noSelect ops = true) (hf : Region.free md ops listed i = true) (hr : (Region.ready md ops listed).contains i = true)
    (hQ : ∀ c x w, Q (.panic c) (x.put oi.dst undef) w → Q (.panic c) x w) (hw : Region.wanted oi (yielded ops a.tmps) = false) (ha : a.put oi.dst undef = a') (hS : S w)
    (h : wpAnyH P md ops Q S fuel (listed.setIfInBounds i true) a' w) : wpAnyH P md ops Q S (fuel + 1) listed a w :=
  wpAnyH_take hi hs hf hr hQ (Or.inr ⟨hw, rfl⟩) hS (ha ▸ h)
theorem want_h {P : Program} {md : Region.Mode} {ops : Array Oper} {Q : Exit → Act → World → Prop} {S : World → Prop} {i : Nat} {oi : Oper} {fuel : Nat} {listed : Array Bool} {a : Act} {w : World} (hr : Region.ready md ops listed = [i]) (hi : ops[i]? = some oi)
    (hw : Region.wanted oi (yielded ops a.tmps) = true) (h : ∀ K : Act → World → Prop, (∀ a' w', S w' → wpAnyH P md ops Q S fuel (listed.setIfInBounds i true) a' w' → K a' w') → oi.wp P a w K Q) : wpAnyH P md ops Q S (fuel + 1) listed a w :=
  wpAnyH_all hr (by simp) fun j hj => by
    obtain rfl := List.mem_singleton.1 hj
    unfold wpOp
    simp only [hi, hw, if_true]
    exact Or.inl (h _ fun a' w' hS h' => ⟨hS, h'⟩)
theorem cast_h {P : Program} {md : Region.Mode} {ops : Array Oper} {Q : Exit → Act → World → Prop} {S : World → Prop} {fuel : Nat} {listed : Array Bool} {a : Act} {w : World} (a' : Act) (ha : a = a') (h : wpAnyH P md ops Q S fuel listed a' w) : wpAnyH P md ops Q S fuel listed a w := ha ▸ h

theorem two_h {P : Program} {md : Region.Mode} {ops : Array Oper} {Q : Exit → Act → World → Prop} {S : World → Prop} {i j : Nat} {oi oj : Oper} {fuel : Nat} {listed : Array Bool} {a : Act} {w : World} (hr : Region.ready md ops listed = [i, j]) (hi : ops[i]? = some oi) (hj : ops[j]? = some oj)
    (hw : Region.wanted oi (yielded ops a.tmps) = true) (hw' : Region.wanted oj (yielded ops a.tmps) = true) (h : ∀ K : Act → World → Prop, (∀ a' w', S w' → wpAnyH P md ops Q S fuel (listed.setIfInBounds i true) a' w' → K a' w') → oi.wp P a w K Q)
    (h' : ∀ K : Act → World → Prop, (∀ a' w', S w' → wpAnyH P md ops Q S fuel (listed.setIfInBounds j true) a' w' → K a' w') → oj.wp P a w K Q) : wpAnyH P md ops Q S (fuel + 1) listed a w :=
  wpAnyH_all hr (by simp) fun k hk => by
    rcases List.mem_cons.1 hk with rfl | hk
    · unfold wpOp
      simp only [hi, hw, if_true]
      exact Or.inl (h _ fun a' w' hS h' => ⟨hS, h'⟩)
    · obtain rfl := List.mem_singleton.1 hk
      unfold wpOp
      simp only [hj, hw', if_true]
      exact Or.inl (h' _ fun a' w' hS h' => ⟨hS, h'⟩)

theorem wp_append_any {P : Program} (w : World) {o : Oper} {a : Act} {K : Act → World → Prop} {Q : Exit → Act → World → Prop} (sl x : Operand) (t : TypeId)
    (ho : o.op = .call { callee := .builtin .append, args := #[sl, x], argTypes := #[t, t] })
    (base : Nat) (e : TypeId) (i : TypeInfo) (z : Value) (size bytes : Nat) (ht : P.underlying t = some (.slice e)) (hi : P.info? e = some i) (hz : i.zero = some z) (hsize : i.size = size) (hby : i.bytes = bytes) (hzs : z.cells.size = size) (hsz : 0 < size)
    (v : Value) (n : Nat) (xs : List Value) (hs : a.eval sl = v) (hown : w.ownsRow base e size v n xs) (m : Nat) (news : List Value) (u : Value) (hxe : a.eval x = u) (hx : Srcs w size u m news)
    (h63 : n + m ≤ maxLen) (hbytes : (n + m) * bytes ≤ 140737488355328) (hbase : base ≤ w.heap.size)
    (h : ∀ v' w', w'.ownsRow base e size v' (n + m) (xs ++ news) → w.grownBy w' v.ownBlock → K (a.put o.dst v') w') : o.wp P a w K Q := by
  obtain ⟨v', w', hr, h2, h3⟩ := run_append_any (P := P) w base t o.type e i z size bytes ht hi hz hsize hby hzs hsz v n xs hown u m news hx h63 hbytes hbase
  unfold Oper.wp execOp
  simp only [ho, resolve, invoke, builtin, Sem.run_bind, Sem.run_pure, Result.andThen_ok, List.map_toArray, List.map_cons, List.map_nil, hs, hxe, hr]
  exact h v' w' h2 h3
theorem list_h {P : Program} {md : Region.Mode} {ops : Array Oper} {Q : Exit → Act → World → Prop} {S : World → Prop} {fuel : Nat} {listed : Array Bool} {a : Act} {w : World} (listed' : Array Bool) (hl : listed = listed') (h : wpAnyH P md ops Q S fuel listed' a w) : wpAnyH P md ops Q S fuel listed a w := hl ▸ h

end Go.Proofs.YtbdpghjegachaaaGreatDoor

namespace Go.Proofs.YtbdpghjegachaaaGreatDoor
open Go.RowKit Go.Shelf

section
variable {P : Program} {ops : Array Oper} {Q : Exit → Act → World → Prop} {w : World}
theorem wl_cons {i : Nat} {oi : Oper} (hi : ops[i]? = some oi) : ops.toList.drop i = oi :: ops.toList.drop (i + 1) := by
  obtain ⟨h, e⟩ := Array.getElem?_eq_some_iff.1 hi
  rw [List.drop_eq_getElem_cons (by simpa using h)]
  simp [e]
theorem take_i (i : Nat) {oi : Oper} {v : Value} {a : Act} (a' : Act) (hi : ops[i]? = some oi) (hw : Region.wanted oi (yielded ops a.tmps) = true) (hy : (execOp a.eval oi).run P w = .ok (.value v) w) (ha : a.put oi.dst v = a')
    (h : wpList P ops Q (ops.toList.drop (i + 1)) a' w) : wpList P ops Q (ops.toList.drop i) a w := by
  rw [wl_cons hi]
  refine BigFrame.wpList_want hw fun K hK => ?_
  unfold Oper.wp
  rw [hy]
  exact hK _ _ (ha ▸ h)
theorem want_i (i : Nat) {oi : Oper} {a : Act} (hi : ops[i]? = some oi) (hw : Region.wanted oi (yielded ops a.tmps) = true)
    (h : ∀ K : Act → World → Prop, (∀ a' w', wpList P ops Q (ops.toList.drop (i + 1)) a' w' → K a' w') → oi.wp P a w K Q) : wpList P ops Q (ops.toList.drop i) a w := by
  rw [wl_cons hi]
  exact BigFrame.wpList_want hw h
theorem cast_l {l : List Oper} {a : Act} (a' : Act) (ha : a = a') (h : wpList P ops Q l a' w) : wpList P ops Q l a w := ha ▸ h
/-- What an operation that only moves values answers. -/
def pureVal (a : Act) (o : Oper) : Option Value :=
  match o.op with
  | .move x => some (a.eval x)
  | .assign x => some (a.eval x)
  | .pick c x y => match a.eval c with
    | .bool b => some (if b then a.eval x else a.eval y)
    | _ => none
  | _ => none
theorem pureVal_run {a : Act} {o : Oper} {v : Value} (h : pureVal a o = some v) : (execOp a.eval o).run P w = .ok (.value v) w := by
  unfold pureVal at h
  unfold execOp
  split at h
  · rename_i x e
    cases h
    rw [e]; rfl
  · rename_i x e
    cases h
    rw [e]; rfl
  · rename_i c x y e
    rw [e]
    split at h
    · rename_i b e2
      cases h
      simp only [e2]
      rfl
    · cases h
  · cases h
/-- The frame behind operations that are skipped or only move values. -/
def pureRun (ops : Array Oper) : List Oper → Act → Option Act
  | [], a => some a
  | o :: l, a => if Region.wanted o (yielded ops a.tmps) then (match pureVal a o with
    | some v => pureRun ops l (a.put o.dst v)
    | none => none) else pureRun ops l (a.put o.dst undef)
theorem pures_l {l2 : List Oper} {a' : Act} (hq : wpList P ops Q l2 a' w) : ∀ (l1 : List Oper) (a : Act), pureRun ops l1 a = some a' → wpList P ops Q (l1 ++ l2) a w
  | [], a, h => by cases h; exact hq
  | o :: l, a, h => by
    unfold pureRun at h
    show wpList P ops Q (o :: (l ++ l2)) a w
    split at h
    · rename_i hw
      split at h
      · rename_i v hv
        refine BigFrame.wpList_want hw fun K hK => ?_
        unfold Oper.wp
        rw [pureVal_run hv]
        exact hK _ _ (pures_l hq l _ h)
      · cases h
    · rename_i hw
      exact wpList_skip (by simpa using hw) (pures_l hq l _ h)
theorem pures_i (i n : Nat) {a : Act} (a' : Act) (h : pureRun ops ((ops.toList.drop i).take n) a = some a') (hq : wpList P ops Q (ops.toList.drop (i + n)) a' w) : wpList P ops Q (ops.toList.drop i) a w := by
  have e : ops.toList.drop i = (ops.toList.drop i).take n ++ ops.toList.drop (i + n) := by
    rw [← List.drop_drop, List.take_append_drop]
  rw [e]
  exact pures_l hq _ _ h
theorem end_i (i : Nat) {a : Act} (h : ops.size = i) (hq : Q .normal a w) : wpList P ops Q (ops.toList.drop i) a w := by
  have e : ops.toList.drop i = [] := List.drop_of_length_le (by simp [h])
  rw [e]
  exact wpList_nil hq
end
end Go.Proofs.YtbdpghjegachaaaGreatDoor

namespace Go.Proofs.YtbdpghjegachaaaGreatDoor
open Go.RowKit Go.Shelf

/-- The frame behind operations that are skipped or only move values, one after another as the list says. -/
def pureRunH (md : Region.Mode) (ops : Array Oper) : List Nat → Array Bool → Act → Option Act
  | [], _, a => some a
  | i :: is, l, a => match ops[i]? with
    | none => none
    | some o => if Region.free md ops l i && (Region.ready md ops l).contains i then (if Region.wanted o (yielded ops a.tmps) then (match pureVal a o with
        | some v => pureRunH md ops is (l.setIfInBounds i true) (a.put o.dst v)
        | none => none) else pureRunH md ops is (l.setIfInBounds i true) (a.put o.dst undef)) else none
def doneH : List Nat → Array Bool → Array Bool
  | [], l => l
  | i :: is, l => doneH is (l.setIfInBounds i true)
theorem put_any {Q : Exit → Act → World → Prop} (hQ : ∀ c x (n : Nat) v w, Q (.panic c) (x.put (some n) v) w → Q (.panic c) x w) (d : Option Tmp) (v : Value) : ∀ c x w, Q (.panic c) (x.put d v) w → Q (.panic c) x w := fun c x w h => by
  cases d with
  | none => exact h
  | some n => exact hQ c x n v w h
theorem pures_h {P : Program} {md : Region.Mode} {ops : Array Oper} {Q : Exit → Act → World → Prop} {S : World → Prop} {w : World} {fuel : Nat} (hs : Region.noSelect ops = true) (hQ : ∀ c x (n : Nat) v w, Q (.panic c) (x.put (some n) v) w → Q (.panic c) x w) (hS : S w) :
    ∀ (is : List Nat) {n : Nat} {l : Array Bool} {a : Act} (a' : Act), pureRunH md ops is l a = some a' → fuel + is.length = n → wpAnyH P md ops Q S fuel (doneH is l) a' w → wpAnyH P md ops Q S n l a w
  | [], n, l, a, a', h, hn, hq => by cases h; subst hn; exact hq
  | i :: is, n, l, a, a', h, hn, hq => by
    subst hn
    unfold pureRunH at h
    split at h
    · cases h
    · rename_i o ho
      split at h
      · rename_i hfr
        rw [Bool.and_eq_true] at hfr
        split at h
        · rename_i hw
          split at h
          · rename_i v hv
            exact wpAnyH_take ho hs hfr.1 hfr.2 (put_any hQ _ _) (Or.inl ⟨hw, fun w _ => pureVal_run hv⟩) hS (pures_h hs hQ hS is a' h rfl hq)
          · cases h
        · rename_i hw
          exact wpAnyH_take ho hs hfr.1 hfr.2 (put_any hQ _ _) (Or.inr ⟨by simpa using hw, rfl⟩) hS (pures_h hs hQ hS is a' h rfl hq)
      · cases h
end Go.Proofs.YtbdpghjegachaaaGreatDoor
