/-
  What is proved here: what legal, next and refuse of least and Leaps of item answer.
  What is proved here: what next of least answers.
-/
import Derived.Test.YtfiekhephkpdjaaGreatDoorG5
import Derived.Test.YtfiekhephkpdjaaGreatDoorG16
import Derived.Test.YtfiekhephkpdjaaGreatDoorG4
namespace Go.Proofs.YtfiekhephkpdjaaGreatDoor
open Go.RowKit Go.Shelf
set_option maxRecDepth 100000
set_option maxHeartbeats 2000000

def lpB (l : List It) : Bool := l.any (fun x => x.k == 4)
theorem leaps1_any (x : It) (w : World) : Calls Tryz.prog 35 #[.agg (itL x).toArray] w fun e w' => e = .returned (.bool (x.k == 4)) ∧ Below w.heap.size w w' := by
 obtain ⟨k0,f0,t0,w0,s0,h0,q0,y0⟩ := x
 have hB := (Below.refl w.heap.size w).alloc (Nat.le_refl _) (.cells #[.int .i64 k0,.int .i64 f0,.int .i64 t0,.int .i64 w0,.int .i64 s0,.int .i64 h0,.int .i64 q0,.bool y0] 68)
 show Calls Tryz.prog 35 #[.agg #[.int .i64 k0,.int .i64 f0,.int .i64 t0,.int .i64 w0,.int .i64 s0,.int .i64 h0,.int .i64 q0,.bool y0]] w _
 go_enter Tryz.func35,Tryz.ntmps35
 go_wp2_with fail
 go_ret
 exact ⟨rfl,hB⟩
theorem any_no {l : List It} (h : ∀ i (hi : i < l.length),(l[i].k == 4) = false) : lpB l = false := by
 unfold lpB
 rw [List.any_eq_false]
 intro x hx
 obtain ⟨i,hi,rfl⟩ := List.getElem_of_mem hx
 rw [h i hi]; decide
theorem any_yes {l : List It} {i : Nat} (hi : i < l.length) (h : (l[i].k == 4) = true) : lpB l = true := List.any_eq_true.2 ⟨l[i],List.getElem_mem hi,h⟩

theorem lindex_any (v : Value) (l : List It) (hl : l.length ≤ 9223372036854775807) (w : World) (hS : ItsAt w v l) :
  Calls Tryz.prog 60 #[v,.func (.func 35) #[] #[]] w fun e w' => (∃ n : Int,e = .returned (.int .i64 n) ∧ decide (0 ≤ n) = lpB l) ∧ Below w.heap.size w w' := by
 obtain ⟨a,cap,rfl,-⟩ := hS.ex
 have hY : Hid (∀ k (hk : k < l.length),(l[k].k == 4) = true → decide ((0 : Int) ≤ (k : Nat)) = lpB l) := fun k hk e => by rw [any_yes hk e]; simp
 have hN : Hid ((∀ k (hk : k < l.length),(l[k].k == 4) = false) → decide ((0 : Int) ≤ -1) = lpB l) := fun h => by rw [any_no h]; simp
 have hSh : Hid (ItsAt w (.slice a l.length cap) l) := hS
 clear hS
 generalize lpB l = r at hY hN ⊢
 go_enter Tryz.func60,Tryz.ntmps60
 go_wp2_with fail
 go_loopw [8] (fun i wr => ∃ (k : Nat),k ≤ l.length ∧ i = .int .i64 k ∧ Below w.heap.size w wr ∧ Hid (∀ j (hj : j < l.length),j < k → (l[j].k == 4) = false)) (fun i _ => l.length - (intOf i).toNat)
 case atStart => exact ⟨0,by omega,rfl,Below.refl _ _,fun j _ hj => by omega⟩
 case round =>
  obtain ⟨k,hk,rfl,hb,hall⟩ := hrel
  by_cases hlt : k < l.length
  ·obtain ⟨b,o,rfl,hbl,hit⟩ := its_at hSh.out hlt
   have hi := hit wr hb
   have c0 := hi.c0
   have c1 := hi.c1
   have c2 := hi.c2
   have c3 := hi.c3
   have c4 := hi.c4
   have c5 := hi.c5
   have c6 := hi.c6
   have c7 := hi.c7
   have hlt' : (k : Int) < l.length := by omega
   have hm := leaps1_any l[k] wr
   have hyes : Hid ((l[k].k == 4) = true → decide ((0 : Int) ≤ (k : Nat)) = r) := hY.out k hlt
   have hno : Hid ((l[k].k == 4) = false → ∀ j (hj : j < l.length),j < k + 1 → (l[j].k == 4) = false) := fun hv j hj hjk => by
    by_cases h : j < k
    ·exact hall.out j hj h
    ·obtain rfl : j = k := by omega
     exact hv
   clear hY hN hall hit hSh hi
   generalize l[k] = it at *
   obtain ⟨k0,f0,t0,w0,s0,h0,q0,y0⟩ := it
   simp only at c0 c1 c2 c3 c4 c5 c6 c7 hm hyes hno
   have hm' : Hid (Calls Tryz.prog 35 #[.agg #[.int .i64 k0,.int .i64 f0,.int .i64 t0,.int .i64 w0,.int .i64 s0,.int .i64 h0,.int .i64 q0,.bool y0]] wr fun e w' => e = .returned (.bool (k0 == 4)) ∧ Below wr.heap.size wr w') := hm
   clear hm
   cases hv : (k0 == 4) with
   | true =>
    have hn := hyes.out hv
    rw [hv] at hm'
    clear hyes hno hv
    have hn' : Hid (decide ((0 : Int) ≤ (k : Nat)) = r) := hn
    clear hn
    go_wp2_with (go_at_call 35; refine hm'.out.mono ?_; rintro e w' ⟨rfl,hb2⟩)
    go_ret
    exact ⟨⟨_,rfl,hn'.out⟩,hb.trans (hb2.mono hb.size)⟩
   | false =>
    have hn : Hid (∀ j (hj : j < l.length),j < k + 1 → (l[j].k == 4) = false) := hno.out hv
    rw [hv] at hm'
    clear hyes hno hv
    go_wp2_with (go_at_call 35; refine hm'.out.mono ?_; rintro e w' ⟨rfl,hb2⟩)
    go_roundw
    case rel => exact ⟨k + 1,by omega,by simp,hb.trans (hb2.mono hb.size),hn⟩
    case measure => simp [intOf]; omega
  ·have hn := hN.out (fun j hj => hall.out j hj (by omega))
   have hn' : Hid (decide ((0 : Int) ≤ -1) = r) := hn
   have hge : ¬ (k : Int) < l.length := by omega
   clear hY hN hall hSh hn
   go_wp2_with fail
   go_ret
   exact ⟨⟨_,rfl,hn'.out⟩,hb⟩

theorem leaps_any (v : Value) (l : List It) (hl : l.length ≤ 9223372036854775807) (w : World) (hS : ItsAt w v l) :
  Calls Tryz.prog 21 #[v] w fun e w' => e = .returned (.bool (lpB l)) ∧ Below w.heap.size w w' := by
 have hi : Hid (Calls Tryz.prog 60 #[v,.func (.func 35) #[] #[]] w fun e w' => (∃ n : Int,e = .returned (.int .i64 n) ∧ decide (0 ≤ n) = lpB l) ∧ Below w.heap.size w w') := lindex_any v l hl w hS
 obtain ⟨a,cap,rfl,-⟩ := hS.ex
 clear hS
 have hcf : Hid (Calls Tryz.prog 34 #[.slice a l.length cap,.func (.func 35) #[] #[]] w fun e w' => e = .returned (.bool (lpB l)) ∧ Below w.heap.size w w') := by
  show Calls Tryz.prog 34 _ _ _
  generalize lpB l = r at *
  go_enter Tryz.func34,Tryz.ntmps34
  go_wp2_with (go_at_call 60; refine hi.out.mono ?_; rintro e w' ⟨⟨n,rfl,hn⟩,hb2⟩)
  go_ret
  exact ⟨by rw [← hn]; rfl,hb2⟩
 clear hi
 generalize lpB l = r at *
 go_enter Tryz.func21,Tryz.ntmps21
 go_wp2_with (go_at_call 34; refine hcf.out.mono ?_; rintro e w' ⟨rfl,hb2⟩)
 go_ret
 exact ⟨rfl,hb2⟩


theorem slice26 (a : Option Addr) (n cap f t : Nat) (h1 : f ≤ t) (h2 : t ≤ cap) : ∃ a',(∀ W : World,(Instr.slice 48 (.slice a n cap) (some (.int .i64 (f : Int))) (some (.int .i64 (t : Int))) none).run Tryz.prog W = .ok (.slice a' (t - f) (cap - f)) W) ∧ (∀ b o,a = some ⟨b,o,none⟩ → f < t → a' = some ⟨b,o + f * 8,none⟩) := by
 have he : Tryz.prog.elem 48 = 68 := by kernel_rfl
 have hu : Tryz.prog.underlying 48 = some (.slice (Tryz.prog.elem 48)) := by rw [he]; exact Tryz.underlying48
 have hr := fun W => run_slice_lh (P := Tryz.prog) (w := W) 48 a n cap hu .i64 .i64 f t (by omega) (by omega) (by omega)
 have hs : ∀ W,(sizeOf (Tryz.prog.elem 48)).run Tryz.prog W = .ok 8 W := fun W => by kernel_rfl
 simp only [hs,Result.andThen,sliced,Int.toNat_natCast] at hr
 refine ⟨_,hr,fun b o e hlt => ?_⟩
 rw [if_neg (by omega),e]
 simp [addr_add]
theorem low26 (a : Option Addr) (n cap f : Nat) (h1 : f ≤ n) (h2 : n ≤ cap) : ∃ a',(∀ W : World,(Instr.slice 48 (.slice a n cap) (some (.int .i64 (f : Int))) none none).run Tryz.prog W = .ok (.slice a' (n - f) (cap - f)) W) ∧ ∀ b o,a = some ⟨b,o,none⟩ → f < n → a' = some ⟨b,o + f * 8,none⟩ := by
 have he : Tryz.prog.elem 48 = 68 := by kernel_rfl
 have hu : Tryz.prog.underlying 48 = some (.slice (Tryz.prog.elem 48)) := by rw [he]; exact Tryz.underlying48
 have hr := fun W => run_slice_l (P := Tryz.prog) (w := W) 48 a n cap hu .i64 f (by omega) (by omega)
 have hs : ∀ W,(sizeOf (Tryz.prog.elem 48)).run Tryz.prog W = .ok 8 W := fun W => by kernel_rfl
 simp only [hs,Result.andThen,sliced,Int.toNat_natCast] at hr
 refine ⟨_,hr,fun b o e hlt => ?_⟩
 rw [if_neg (by omega),e]
 simp [addr_add]
theorem legal30_any (v : Value) (l : List It) (b : Nat) (h : ckL l = 0) (h0 : 0 < b) (hb : b ≤ l.length) (w : World) (hS : ItsAt w v l) :
  Calls Tryz.prog 99 #[v,.int .i64 b] w fun e w' => e = .returned (.bool (enB l b)) ∧ Below w.heap.size w w' := by
 obtain ⟨a,cap,rfl,-⟩ := hS.ex
 have hle := hS.le _ _ _ rfl
 have h8 := ck_len h
 have hm : min (b + 1) l.length ≤ l.length := Nat.min_le_right _ _
 have hmb : b - 1 ≤ min (b + 1) l.length := by omega
 obtain ⟨a',hr,ha'⟩ := slice26 a l.length cap (b - 1) (min (b + 1) l.length) hmb (by omega)
 have hI := sub_its hS hmb hm (fun g o e h => ha' g o e h)
 have hL : Hid (Calls Tryz.prog 135 #[.slice a' (min (b + 1) l.length - (b - 1)) (cap - (b - 1)),.int .i64 1] w fun e w' => e = .returned (.bool (enB l b)) ∧ Below w.heap.size w w') := by
  have := legal_any _ _ 1 w hI
  rw [sub_legal h h0 hb] at this
  exact this
 have hr1 : ∀ m : Int,m = (min (b + 1) l.length : Nat) → (Instr.slice 48 (.slice a l.length cap) (some (.int .i64 ((b : Int) - 1))) (some (.int .i64 m)) none).run Tryz.prog w = .ok (.slice a' (min (b + 1) l.length - (b - 1)) (cap - (b - 1))) w := fun m e => by
  have := hr w
  rwa [show ((b - 1 : Nat) : Int) = (b : Int) - 1 by omega,← e] at this
 have h1' : (1 : Int) ≤ b := by omega
 have hb' : (b : Int) ≤ 8192 := by omega
 have hl' : (l.length : Int) ≤ 8192 := by omega
 by_cases hlt : b < l.length
 ·have hr2 := hr1 ((b : Int) + 1) (by rw [Nat.min_eq_left (by omega)]; omega)
  have hlt' : (b : Int) + 1 ≤ l.length := by omega
  clear hI hS hr ha' hmb hm h h8 hle hr1
  generalize min (b + 1) l.length = m at *
  generalize enB l b = q at *
  go_enter Tryz.func99,Tryz.ntmps99
  go_wp2_with (go_at_call 135; refine hL.out.mono ?_; rintro e w' ⟨rfl,hb2⟩)
  all_goals first | (exfalso; omega) | (go_ret; exact ⟨rfl,hb2⟩)
 ·have hr2 := hr1 (l.length : Int) (by rw [Nat.min_eq_right (by omega)])
  have hlt' : (l.length : Int) < (b : Int) + 1 := by omega
  clear hI hS hr ha' hmb hm h h8 hle hr1
  generalize min (b + 1) l.length = m at *
  generalize enB l b = q at *
  go_enter Tryz.func99,Tryz.ntmps99
  go_wp2_with (go_at_call 135; refine hL.out.mono ?_; rintro e w' ⟨rfl,hb2⟩)
  all_goals first | (exfalso; omega) | (go_ret; exact ⟨rfl,hb2⟩)
theorem bg_end (l : List It) : bgN l l.length = l.length := by have := bg_le (Nat.le_refl l.length); omega
theorem skG_is {l : List It} : ∀ n i,i ≤ l.length → l.length ≤ i + n → (i ≤ skG l n i ∧ skG l n i ≤ l.length) ∧ (∀ j,i ≤ j → j < skG l n i → (itAt l j).k = 2) ∧ (skG l n i = l.length ∨ (itAt l (skG l n i)).k ≠ 2)
 | 0,i,h1,h2 => ⟨⟨Nat.le_refl _,h1⟩,fun j h3 h4 => by unfold skG at h4; omega,.inl (by unfold skG; omega)⟩
 | n + 1, i, h1, h2 => by
  by_cases h : i < l.length ∧ (itAt l i).k = 2
  ·rw [skG_go h]
   obtain ⟨⟨a1,a2⟩,a3,a4⟩ := skG_is (l := l) n (i + 1) (by omega) (by omega)
   exact ⟨⟨by omega,a2⟩,fun j h3 h4 => if e : j = i then by rw [e]; exact h.2 else a3 j (by omega) h4,a4⟩
  ·rw [skG_no h]
   exact ⟨⟨Nat.le_refl _,h1⟩,fun j h3 h4 => by omega,if e : i = l.length then .inl e else .inr (fun h' => h ⟨by omega,h'⟩)⟩
theorem skG_one {l : List It} {n i k : Nat} (h1 : i ≤ k) (h2 : k ≤ l.length) (h3 : ∀ j,i ≤ j → j < k → (itAt l j).k = 2) (h4 : k = l.length ∨ (itAt l k).k ≠ 2) (hn : l.length ≤ i + n) : skG l n i = k := by
 obtain ⟨⟨a1,a2⟩,a3,a4⟩ := skG_is n i (by omega) hn
 by_cases e : skG l n i < k
 ·exfalso
  rcases a4 with a4 | a4
  ·omega
  ·exact a4 (h3 _ a1 e)
 ·by_cases e' : k < skG l n i
  ·exfalso
   rcases h4 with h4 | h4
   ·omega
   ·exact h4 (a3 _ h1 e')
  ·omega
theorem nx_math {l : List It} {b e : Nat} (hb : b ≤ l.length) (he : e = min (b + 1) l.length + sk (subL l (min (b + 1) l.length) l.length) 0) : (b ≤ e ∧ e ≤ l.length ∧ min (b + 1) l.length ≤ e) ∧ b + bgN (subL l b e) 0 = bgN l b := by
 have hm : min (b + 1) l.length ≤ l.length := Nat.min_le_right _ _
 have hl1 := sub_len (l := l) (f := min (b + 1) l.length) (Nat.le_refl l.length)
 obtain ⟨⟨a1,a2⟩,a3,a4⟩ := skG_is (l := subL l (min (b + 1) l.length) l.length) ((subL l (min (b + 1) l.length) l.length).length + 1) 0 (by omega) (by omega)
 have hsk : sk (subL l (min (b + 1) l.length) l.length) 0 = skG (subL l (min (b + 1) l.length) l.length) ((subL l (min (b + 1) l.length) l.length).length + 1) 0 := rfl
 rw [← hsk,hl1] at a2
 rw [← hsk] at a3
 rw [← hsk,hl1] at a4
 have hel : e ≤ l.length := by omega
 refine ⟨⟨by omega,hel,by omega⟩,?_⟩
 by_cases hlt : b < l.length
 ·rw [Nat.min_eq_left (by omega)] at he a2 a3 a4
  have g3 : ∀ j,b + 1 ≤ j → j < e → (itAt l j).k = 2 := fun j h1 h2 => by
   have := a3 (j - (b + 1)) (by omega) (by omega)
   rwa [sub_at (Nat.le_refl _) (by omega),show b + 1 + (j - (b + 1)) = j by omega] at this
  have g4 : e = l.length ∨ (itAt l e).k ≠ 2 := by
   by_cases h : e = l.length
   ·exact .inl h
   ·right
    rcases a4 with a4 | a4
    ·omega
    ·rw [sub_at (Nat.le_refl _) (by omega),show b + 1 + sk (subL l (b + 1) l.length) 0 = e by omega] at a4
     exact a4
  have hl2 := sub_len (l := l) (f := b) hel
  have e0 : itAt (subL l b e) 0 = itAt l b := by rw [sub_at hel (by omega)]; rfl
  have ej : ∀ j,b + j < e → itAt (subL l b e) j = itAt l (b + j) := fun j h => sub_at hel h
  by_cases k3 : (itAt l b).k = 3
  ·have x1 : bgN l b = e := by
    unfold bgN
    rw [if_pos ⟨hlt,k3⟩]
    exact skG_one (by omega) hel g3 g4 (by omega)
   have x2 : bgN (subL l b e) 0 = e - b := by
    unfold bgN
    rw [if_pos ⟨by omega,by rw [e0]; exact k3⟩]
    exact skG_one (by omega) (by omega) (fun j h1 h2 => by rw [ej j (by omega)]; exact g3 _ (by omega) (by omega)) (.inl hl2.symm) (by omega)
   omega
  ·by_cases k2 : (itAt l b).k = 2
   ·have g3' : ∀ j,b ≤ j → j < e → (itAt l j).k = 2 := fun j h1 h2 => if h : j = b then by rw [h]; exact k2 else g3 j (by omega) h2
    have x1 : bgN l b = e := by
     unfold bgN
     rw [if_neg (fun h => k3 h.2)]
     exact skG_one (by omega) hel g3' g4 (by omega)
    have x2 : bgN (subL l b e) 0 = e - b := by
     unfold bgN
     rw [if_neg (fun h => k3 (by rw [← e0]; exact h.2))]
     exact skG_one (by omega) (by omega) (fun j h1 h2 => by rw [ej j (by omega)]; exact g3' _ (by omega) (by omega)) (.inl hl2.symm) (by omega)
    omega
   ·have x1 : bgN l b = b := by
     unfold bgN
     rw [if_neg (fun h => k3 h.2)]
     exact skG_no (fun h => k2 h.2)
    have x2 : bgN (subL l b e) 0 = 0 := by
     unfold bgN
     rw [if_neg (fun h => k3 (by rw [← e0]; exact h.2))]
     exact skG_no (fun h => k2 (by rw [← e0]; exact h.2))
    omega
 ·obtain rfl : b = l.length := by omega
  rw [bg_end]
  have he' : e = l.length := by omega
  have hl2 := sub_len (l := l) (f := l.length) hel
  rw [he'] at hl2
  have := bg_le (l := subL l l.length e) (i := 0) (by omega)
  rw [he'] at this ⊢
  omega
end Go.Proofs.YtfiekhephkpdjaaGreatDoor

namespace Go.Proofs.YtfiekhephkpdjaaGreatDoor
open Go.RowKit Go.Shelf
set_option maxRecDepth 100000
set_option maxHeartbeats 400000

theorem next60_any (v : Value) (l : List It) (b : Nat) (h : ckL l = 0) (hb : b ≤ l.length) (w : World) (hS : ItsAt w v l) :
  Calls Tryz.prog 136 #[v,.int .i64 b] w fun e w' => e = .returned (.int .i64 (bgN l b : Nat)) ∧ Below w.heap.size w w' := by
 obtain ⟨a,cap,rfl,-⟩ := hS.ex
 have hle := hS.le _ _ _ rfl
 have h8 := ck_len h
 have hm : min (b + 1) l.length ≤ l.length := Nat.min_le_right _ _
 obtain ⟨a1,hr1,ha1⟩ := low26 a l.length cap (min (b + 1) l.length) hm hle
 have hI1 := sub_its hS hm (Nat.le_refl _) (fun g o e h => ha1 g o e h)
 obtain ⟨⟨e1,e2,e3⟩,hnx⟩ := nx_math (l := l) hb rfl
 obtain ⟨a2,hr2,ha2⟩ := slice26 a l.length cap b (min (b + 1) l.length + sk (subL l (min (b + 1) l.length) l.length) 0) e1 (by omega)
 have hI2 := sub_its hS e1 e2 (fun g o e h => ha2 g o e h)
 have hl1 := sub_len (l := l) (f := min (b + 1) l.length) (Nat.le_refl l.length)
 have hB : Hid (Calls Tryz.prog 62 #[.slice a1 (l.length - min (b + 1) l.length) (cap - min (b + 1) l.length)] w fun e w' => e = .returned (.int .i64 (sk (subL l (min (b + 1) l.length) l.length) 0 : Nat)) ∧ Below w.heap.size w w') := begin_any _ _ (by rw [hl1]; omega) w hI1
 have hs0 : stV (subL l b (min (b + 1) l.length + sk (subL l (min (b + 1) l.length) l.length) 0)) 0 = (bgN (subL l b (min (b + 1) l.length + sk (subL l (min (b + 1) l.length) l.length) 0)) 0 : Nat) := by
  unfold stV
  rw [if_pos]
  ·rfl
  ·have hc := sub_ck h (f := b) e2
   unfold rfL
   rw [if_neg (by simpa using hc),if_pos (by omega)]
 have hst : Hid (∀ W,Below w.heap.size w W → Calls Tryz.prog 150 #[.slice a2 (min (b + 1) l.length + sk (subL l (min (b + 1) l.length) l.length) 0 - b) (cap - b),.int .i64 0] W fun e w' => (∃ er,e = .returned (.tuple #[.int .i64 (bgN (subL l b (min (b + 1) l.length + sk (subL l (min (b + 1) l.length) l.length) 0)) 0 : Nat),.int .i64 er])) ∧ Below W.heap.size W w') := fun W hW => by
  have := start_any _ _ 0 W (hI2.below hW (Nat.le_refl _))
  rw [hs0] at this
  exact this.mono fun e w' h => ⟨⟨_,h.1⟩,h.2⟩
 have hbg := bg_le hb
 generalize bgN (subL l b (min (b + 1) l.length + sk (subL l (min (b + 1) l.length) l.length) 0)) 0 = x at *
 generalize sk (subL l (min (b + 1) l.length) l.length) 0 = y at *
 have hq : (bgN l b : Int) ≤ 8192 := by omega
 have hbl : (b : Int) ≤ 8192 := by omega
 have hnn : (l.length : Int) ≤ 8192 := by omega
 have hx : Hid ((b : Int) + (x : Int) = (bgN l b : Nat)) := by show _ = _; omega
 have hx8 : (b : Int) + (x : Int) ≤ 8192 := by omega
 generalize bgN l b = q at *
 have hr2' : ∀ m : Int,m = (min (b + 1) l.length + y : Nat) → ∀ W,(Instr.slice 48 (.slice a l.length cap) (some (.int .i64 (b : Int))) (some (.int .i64 m)) none).run Tryz.prog W = .ok (.slice a2 (min (b + 1) l.length + y - b) (cap - b)) W := fun m e W => by rw [e]; exact hr2 W
 have hr1' : ∀ m : Int,m = (min (b + 1) l.length : Nat) → ∀ W,(Instr.slice 48 (.slice a l.length cap) (some (.int .i64 m)) none none).run Tryz.prog W = .ok (.slice a1 (l.length - min (b + 1) l.length) (cap - min (b + 1) l.length)) W := fun m e W => by rw [e]; exact hr1 W
 have hmin : Hid (min (b + 1) l.length = b + 1 ∨ min (b + 1) l.length = l.length) := by show _ ∨ _; omega
 clear hI1 hI2 hS hr1 hr2 ha1 ha2 hs0 hnx h hl1 hbg
 generalize l.length - min (b + 1) l.length = n1 at *
 generalize cap - min (b + 1) l.length = c1 at *
 generalize min (b + 1) l.length + y - b = n2 at *
 generalize cap - b = c2 at *
 by_cases hlt : b < l.length
 ·have em : min (b + 1) l.length = b + 1 := Nat.min_eq_left (by omega)
  have hr3 := hr1' ((b : Int) + 1) (by omega)
  have hr4 := hr2' ((b : Int) + 1 + y) (by omega)
  have hlt' : (b : Int) + 1 ≤ l.length := by omega
  have hy8 : (b : Int) + 1 + y ≤ 8192 := by omega
  clear hr1' hr2' em hmin e1 e2 e3 hm
  go_enter Tryz.func136,Tryz.ntmps136
  go_wp2_with (first | (go_at_call 62; refine hB.out.mono ?_; rintro e w2 ⟨rfl,hb2⟩) | (go_at_call 150; refine (hst.out w2 hb2).mono ?_; rintro e w3 ⟨⟨er,rfl⟩,hb3⟩))
  all_goals first | (exfalso; omega) | (go_ret; exact ⟨by rw [← hx.out]; rfl,hb2.trans (hb3.mono hb2.size)⟩)
 ·have em : min (b + 1) l.length = l.length := Nat.min_eq_right (by omega)
  have hr3 := hr1' (l.length : Int) (by omega)
  have hr4 := hr2' ((l.length : Int) + y) (by omega)
  have hlt' : (l.length : Int) < (b : Int) + 1 := by omega
  have hy8 : (l.length : Int) + y ≤ 8192 := by omega
  clear hr1' hr2' em hmin e1 e2 e3 hm
  go_enter Tryz.func136,Tryz.ntmps136
  go_wp2_with (first | (go_at_call 62; refine hB.out.mono ?_; rintro e w2 ⟨rfl,hb2⟩) | (go_at_call 150; refine (hst.out w2 hb2).mono ?_; rintro e w3 ⟨⟨er,rfl⟩,hb3⟩))
  all_goals first | (exfalso; omega) | (go_ret; exact ⟨by rw [← hx.out]; rfl,hb2.trans (hb3.mono hb2.size)⟩)
end Go.Proofs.YtfiekhephkpdjaaGreatDoor
