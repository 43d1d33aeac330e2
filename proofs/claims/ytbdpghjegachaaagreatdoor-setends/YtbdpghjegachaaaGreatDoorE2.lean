/-
  What is proved here: how regions whose order is drawn are gone through, moves and skipped operations many at once (no function of the program is named).
  What is proved here: take_h and skip_h (text Reg) with what can be checked by itself left out (no function of the program is named).
-/
import Derived.Test.YtbdpghjegachaaaGreatDoorE1
namespace Go.Proofs.YtbdpghjegachaaaGreatDoor
open Go.RowKit Go.Shelf

def pureRunH (md : Region.Mode) (ops : Array Oper) : List Nat → Array Bool → Act → Option Act
 | [],_,a => some a
 | i :: is,l,a => match ops[i]? with
  | none => none
  | some o => if Region.free md ops l i && (Region.ready md ops l).contains i then (if Region.wanted o (yielded ops a.tmps) then (match pureVal a o with
    | some v => pureRunH md ops is (l.setIfInBounds i true) (a.put o.dst v)
    | none => none) else pureRunH md ops is (l.setIfInBounds i true) (a.put o.dst undef)) else none
def doneH : List Nat → Array Bool → Array Bool
 | [],l => l
 | i :: is,l => doneH is (l.setIfInBounds i true)
theorem put_any {Q : Exit → Act → World → Prop} (hQ : ∀ c x (n : Nat) v w,Q (.panic c) (x.put (some n) v) w → Q (.panic c) x w) (d : Option Tmp) (v : Value) : ∀ c x w,Q (.panic c) (x.put d v) w → Q (.panic c) x w := fun c x w h => by
 cases d with
 | none => exact h
 | some n => exact hQ c x n v w h
theorem pures_h {P : Program} {md : Region.Mode} {ops : Array Oper} {Q : Exit → Act → World → Prop} {S : World → Prop} {w : World} {fuel : Nat} (hs : Region.noSelect ops = true) (hQ : ∀ c x (n : Nat) v w,Q (.panic c) (x.put (some n) v) w → Q (.panic c) x w) (hS : S w) :
  ∀ (is : List Nat) {n : Nat} {l : Array Bool} {a : Act} (a' : Act),pureRunH md ops is l a = some a' → fuel + is.length = n → wpAnyH P md ops Q S fuel (doneH is l) a' w → wpAnyH P md ops Q S n l a w
 | [],n,l,a,a',h,hn,hq => by cases h; subst hn; exact hq
 | i :: is, n, l, a, a', h, hn, hq => by
  subst hn
  unfold pureRunH at h
  split at h
  ·cases h
  ·rename_i o ho
   split at h
   ·rename_i hfr
    rw [Bool.and_eq_true] at hfr
    split at h
    ·rename_i hw
     split at h
     ·rename_i v hv
      exact wpAnyH_take ho hs hfr.1 hfr.2 (put_any hQ _ _) (Or.inl ⟨hw,fun w _ => pureVal_run hv⟩) hS (pures_h hs hQ hS is a' h rfl hq)
     ·cases h
    ·rename_i hw
     exact wpAnyH_take ho hs hfr.1 hfr.2 (put_any hQ _ _) (Or.inr ⟨by simpa using hw,rfl⟩) hS (pures_h hs hQ hS is a' h rfl hq)
   ·cases h
end Go.Proofs.YtbdpghjegachaaaGreatDoor

namespace Go.Proofs.YtbdpghjegachaaaGreatDoor
open Go.RowKit Go.Shelf

theorem take_k {P : Program} {md : Region.Mode} {ops : Array Oper} {Q : Exit → Act → World → Prop} {S : World → Prop} {fuel : Nat} {listed : Array Bool} {a : Act} {w : World} (i : Nat) (oi : Oper) (v : Value) (a' : Act)
  (hQ : ∀ c x (n : Nat) v w,Q (.panic c) (x.put (some n) v) w → Q (.panic c) x w) (hy : ∀ w,S w → (execOp a.eval oi).run P w = .ok (.value v) w) (hS : S w)
  (h : wpAnyH P md ops Q S fuel (listed.setIfInBounds i true) a' w)
  (hi : ops[i]? = some oi := by kernel_rfl) (hs : Region.noSelect ops = true := by kernel_rfl) (hf : Region.free md ops listed i = true := by kernel_rfl) (hr : (Region.ready md ops listed).contains i = true := by kernel_rfl)
  (hw : Region.wanted oi (yielded ops a.tmps) = true := by kernel_rfl) (ha : a.put oi.dst v = a' := by kernel_rfl) : wpAnyH P md ops Q S (fuel + 1) listed a w :=
 take_h a' hi hs hf hr (put_any hQ _ _) hw hy ha hS h
theorem take_r {P : Program} {md : Region.Mode} {ops : Array Oper} {Q : Exit → Act → World → Prop} {S : World → Prop} {fuel : Nat} {listed : Array Bool} {a : Act} {w : World} (i : Nat) (oi : Oper) (v : Value)
  (hQ : ∀ c x (n : Nat) v w,Q (.panic c) (x.put (some n) v) w → Q (.panic c) x w) (hy : ∀ w,S w → (execOp a.eval oi).run P w = .ok (.value v) w) (hS : S w)
  (h : wpAnyH P md ops Q S fuel (listed.setIfInBounds i true) (a.put oi.dst v) w)
  (hi : ops[i]? = some oi := by kernel_rfl) (hs : Region.noSelect ops = true := by kernel_rfl) (hf : Region.free md ops listed i = true := by kernel_rfl) (hr : (Region.ready md ops listed).contains i = true := by kernel_rfl)
  (hw : Region.wanted oi (yielded ops a.tmps) = true := by kernel_rfl) : wpAnyH P md ops Q S (fuel + 1) listed a w :=
 take_h _ hi hs hf hr (put_any hQ _ _) hw hy rfl hS h
theorem skip_k {P : Program} {md : Region.Mode} {ops : Array Oper} {Q : Exit → Act → World → Prop} {S : World → Prop} {fuel : Nat} {listed : Array Bool} {a : Act} {w : World} (i : Nat) (oi : Oper) (a' : Act)
  (hQ : ∀ c x (n : Nat) v w,Q (.panic c) (x.put (some n) v) w → Q (.panic c) x w) (hS : S w)
  (h : wpAnyH P md ops Q S fuel (listed.setIfInBounds i true) a' w)
  (hi : ops[i]? = some oi := by kernel_rfl) (hs : Region.noSelect ops = true := by kernel_rfl) (hf : Region.free md ops listed i = true := by kernel_rfl) (hr : (Region.ready md ops listed).contains i = true := by kernel_rfl)
  (hw : Region.wanted oi (yielded ops a.tmps) = false := by kernel_rfl) (ha : a.put oi.dst undef = a' := by kernel_rfl) : wpAnyH P md ops Q S (fuel + 1) listed a w :=
 skip_h a' hi hs hf hr (put_any hQ _ _) hw ha hS h
theorem skip_r {P : Program} {md : Region.Mode} {ops : Array Oper} {Q : Exit → Act → World → Prop} {S : World → Prop} {fuel : Nat} {listed : Array Bool} {a : Act} {w : World} (i : Nat) (oi : Oper)
  (hQ : ∀ c x (n : Nat) v w,Q (.panic c) (x.put (some n) v) w → Q (.panic c) x w) (hS : S w)
  (h : wpAnyH P md ops Q S fuel (listed.setIfInBounds i true) (a.put oi.dst undef) w)
  (hi : ops[i]? = some oi := by kernel_rfl) (hs : Region.noSelect ops = true := by kernel_rfl) (hf : Region.free md ops listed i = true := by kernel_rfl) (hr : (Region.ready md ops listed).contains i = true := by kernel_rfl)
  (hw : Region.wanted oi (yielded ops a.tmps) = false := by kernel_rfl) : wpAnyH P md ops Q S (fuel + 1) listed a w :=
 skip_h _ hi hs hf hr (put_any hQ _ _) hw rfl hS h
theorem want_k {P : Program} {md : Region.Mode} {ops : Array Oper} {Q : Exit → Act → World → Prop} {S : World → Prop} {fuel : Nat} {listed : Array Bool} {a : Act} {w : World} (i : Nat) (oi : Oper)
  (h : ∀ K : Act → World → Prop,(∀ a' w',S w' → wpAnyH P md ops Q S fuel (listed.setIfInBounds i true) a' w' → K a' w') → oi.wp P a w K Q)
  (hr : Region.ready md ops listed = [i] := by kernel_rfl) (hi : ops[i]? = some oi := by kernel_rfl)
  (hw : Region.wanted oi (yielded ops a.tmps) = true := by kernel_rfl) : wpAnyH P md ops Q S (fuel + 1) listed a w :=
 want_h hr hi hw h
end Go.Proofs.YtbdpghjegachaaaGreatDoor
