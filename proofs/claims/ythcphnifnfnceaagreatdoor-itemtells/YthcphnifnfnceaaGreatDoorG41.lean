/-
  What is proved here: what the document's New answers.
  What is proved here: the greatest digit at a place, as the document gathers it (no function of the program is named).
  What is proved here: what the document's Values answers.
-/
import Derived.Test.YthcphnifnfnceaaGreatDoorG39
import Derived.Test.YthcphnifnfnceaaGreatDoorG40
import Derived.Lib.BufferMore
namespace Go.Proofs.YthcphnifnfnceaaGreatDoor.Hy
open Go.RowKit Go.Shelf
set_option maxRecDepth 100000
set_option maxHeartbeats 8000000

def RH (W : World) (base m : Nat) (ps xs : List ByteArray) : Prop := base ≤ m ∧ ∃ va vx,W.cell? ⟨m,0,none⟩ = some va ∧ W.cell? ⟨m,1,none⟩ = some vx ∧ W.ownsRow base 9 1 va ps.length (strs ps) ∧ W.ownsRow base 9 1 vx xs.length (strs xs)
theorem RH.turns {W W' : World} {base m : Nat} {ps xs : List ByteArray} (h : RH W base m ps xs) {X : Nat → Prop} (ht : Turns X W W') (hX : ∀ k,X k → k < base) : RH W' base m ps xs := by
 obtain ⟨hm,va,vx,h1,h2,h3,h4⟩ := h
 have hc : ∀ o v,W.cell? ⟨m,o,none⟩ = some v → W'.cell? ⟨m,o,none⟩ = some v := fun o v hv => by
  rw [← hv]
  exact World.cell?_of_block (ht.block m (cell_lt hv) (fun hx => by have := hX _ hx; omega))
 exact ⟨hm,va,vx,hc _ _ h1,hc _ _ h2,ownsRow_turns h3 ht (fun g hg hx => by have := (h3.lt g hg).1; have := hX _ hx; omega),ownsRow_turns h4 ht (fun g hg hx => by have := (h4.lt g hg).1; have := hX _ hx; omega)⟩
theorem RH.below {W W' : World} {base m : Nat} {ps xs : List ByteArray} (h : RH W base m ps xs) (hb : Below W.heap.size W W') : RH W' base m ps xs := h.turns (Turns.of_below hb) (fun _ h => h.elim)
theorem RH.tx {W : World} {base m : Nat} {ps xs : List ByteArray} (h : RH W base m ps xs) : ∃ va vx,W.cell? ⟨m,0,none⟩ = some va ∧ W.cell? ⟨m,1,none⟩ = some vx ∧ TxAt W va ps ∧ TxAt W vx xs := by
 obtain ⟨_,va,vx,h1,h2,h3,h4⟩ := h
 exact ⟨va,vx,h1,h2,tx_of_row h3,tx_of_row h4⟩
def RNew (w : World) (ps xs : List ByteArray) (e : Ending) (w' : World) : Prop := Below w.heap.size w w' ∧
 ((newI (ps.map bs) (xs.map bs) ≠ 0 ∧ e = .returned (.tuple #[.pointer none, .int .i64 (newI (ps.map bs) (xs.map bs))])) ∨
   (newI (ps.map bs) (xs.map bs) = 0 ∧ ((ps.map bs).all patB = true ∧ (xs.map bs).all excB = true ∧ freshB [] (xs.map bs) = true) ∧ ∃ m,e = .returned (.tuple #[.pointer (some ⟨m,0,none⟩),.int .i64 0]) ∧ RH w' w.heap.size m ps xs))
theorem newI_long {P X : List Bs} (h : 256 < P.length ∨ 64 < X.length) : newI P X = 3 := by unfold newI; rw [if_pos h]
theorem newI_bytes {P X : List Bs} (h : ¬ (256 < P.length ∨ 64 < X.length)) (h2 : P.all patB = false ∨ X.all excB = false) : newI P X = 4 := by
 unfold newI
 rw [if_neg h,if_neg]
 rcases h2 with h2 | h2 <;> rw [h2] <;> simp
theorem newI_rest {P X : List Bs} (h : ¬ (256 < P.length ∨ 64 < X.length)) (h1 : P.all patB = true) (h2 : X.all excB = true) : newI P X = if freshB [] X then 0 else 7 := by
 unfold newI
 rw [if_neg h,if_pos (by rw [h1,h2]; rfl)]
theorem rnew_any (v1 v2 : Value) (ps xs : List ByteArray) (w : World) (t1 : TxAt w v1 ps) (t2 : TxAt w v2 xs) (hp : ps.length ≤ 1000) (hx : xs.length ≤ 1000) (hxs : ∀ s ∈ xs,s.size ≤ 200) :
  Calls Tryz.prog 118 #[v1,v2] w fun e w' => RNew w ps xs e w' := by
 obtain ⟨i9,hi⟩ := Option.isSome_iff_exists.1 (show (Tryz.prog.info? 9).isSome = true by kernel_rfl)
 have hz0 : i9.zero = some (.string ⟨#[]⟩) := by
  have h : (Tryz.prog.info? 9).map (·.zero) = some (some (.string ⟨#[]⟩)) := by kernel_rfl
  rw [hi] at h; simpa using h
 have hz1 : i9.size = 1 := by
  have h : (Tryz.prog.info? 9).map (·.size) = some 1 := by kernel_rfl
  rw [hi] at h; simpa using h
 have hz2 : i9.bytes = 16 := by
  have h : (Tryz.prog.info? 9).map (·.bytes) = some 16 := by kernel_rfl
  rw [hi] at h; simpa using h
 have T1 : Hid (∀ W,Below w.heap.size w W → TxAt W v1 ps) := fun W hb => t1.below hb (Nat.le_refl _)
 have T2 : Hid (∀ W,Below w.heap.size w W → TxAt W v2 xs) := fun W hb => t2.below hb (Nat.le_refl _)
 obtain ⟨a1,c1,rfl,-⟩ := t1.ex
 obtain ⟨a2,c2,rfl,-⟩ := t2.ex
 clear t1 t2
 have hlm : (ps.map bs).length = ps.length := List.length_map ..
 have hlx : (xs.map bs).length = xs.length := List.length_map ..
 by_cases hl : 256 < ps.length ∨ 64 < xs.length
 ·have hn : Hid (∀ w',Below w.heap.size w w' → RNew w ps xs (.returned (.tuple #[.pointer none,.int .i64 3])) w') := fun w' hb => by
   have e := newI_long (P := ps.map bs) (X := xs.map bs) (by rw [hlm,hlx]; exact hl)
   exact ⟨hb,.inl ⟨by rw [e]; decide,by rw [e]⟩⟩
  have h2 : ((256 : Int) < ps.length) ∨ (¬ (256 : Int) < ps.length ∧ (64 : Int) < xs.length) := by omega
  clear hl hlm hlx
  rcases h2 with g1 | ⟨g1,g2⟩
  ·go_enter Tryz.func118,Tryz.ntmps118
   go_wp2_with fail
   go_ret2
   exact hn.out _ (Below.refl _ _)
  ·go_enter Tryz.func118,Tryz.ntmps118
   go_wp2_with fail
   go_ret2
   exact hn.out _ (Below.refl _ _)
 ·have g1 : ¬ (256 : Int) < ps.length := by omega
  have g2 : ¬ (64 : Int) < xs.length := by omega
  have hl' : ¬ (256 < (ps.map bs).length ∨ 64 < (xs.map bs).length) := by rw [hlm,hlx]; exact hl
  have hn4 : Hid (∀ w',Below w.heap.size w w' → ((ps.map bs).all patB = false ∨ (xs.map bs).all excB = false) → RNew w ps xs (.returned (.tuple #[.pointer none,.int .i64 4])) w') := fun w' hb h => by
   have e := newI_bytes hl' h
   exact ⟨hb,.inl ⟨by rw [e]; decide,by rw [e]⟩⟩
  have hn7 : Hid (∀ w',Below w.heap.size w w' → (ps.map bs).all patB = true → (xs.map bs).all excB = true → freshB [] (xs.map bs) = false → RNew w ps xs (.returned (.tuple #[.pointer none,.int .i64 7])) w') := fun w' hb h1 h2 h3 => by
   have e := newI_rest hl' h1 h2
   rw [h3] at e
   exact ⟨hb,.inl ⟨by rw [e]; decide,by rw [e]; rfl⟩⟩
  have hn0 : Hid (∀ w' m,Below w.heap.size w w' → (ps.map bs).all patB = true → (xs.map bs).all excB = true → freshB [] (xs.map bs) = true → RH w' w.heap.size m ps xs → RNew w ps xs (.returned (.tuple #[.pointer (some ⟨m,0,none⟩),.int .i64 0])) w') := fun w' m hb h1 h2 h3 hR => by
   have e := newI_rest hl' h1 h2
   rw [h3] at e
   exact ⟨hb,.inr ⟨by rw [e]; rfl,⟨h1,h2,h3⟩,m,rfl,hR⟩⟩
  have hpl : Hid (ps.length ≤ 256 ∧ xs.length ≤ 64) := ⟨by omega,by omega⟩
  have hxsh : Hid (∀ s ∈ xs,s.size ≤ 200) := hxs
  clear hl hl' hlm hlx hxs
  go_enter Tryz.func118,Tryz.ntmps118
  go_wp2_with fail
  go_loopw [6] (fun i wr => ∃ k : Nat,k ≤ ps.length ∧ i = .int .i64 k ∧ wr = w ∧ Hid (∀ (j : Nat) (h : j < ps.length),j < k → patB (bs (ps[j]'h)) = true)) (fun i _ => ps.length - (intOf i).toNat)
  case atStart => exact ⟨0,by omega,rfl,rfl,fun j _ hj => by omega⟩
  case round =>
   obtain ⟨k,hk,rfl,rfl,hall⟩ := hrel
   obtain ⟨w,rfl⟩ : ∃ w,w = wr := ⟨_,rfl⟩
   by_cases hlt : k < ps.length
   ·have hkl : (k : Int) < ps.length := by omega
    obtain ⟨b0,o0,hab,cj⟩ := tx_cell (T1.out _ (Below.refl _ _)) hlt
    subst hab
    have hP := pattern_any (ps[k]'hlt) w
    cases hpb : patB (bs (ps[k]'hlt)) with
    | false =>
     have hf : Hid ((ps.map bs).all patB = false) := by
      show _ = _
      rw [List.all_eq_false]
      exact ⟨_,List.mem_map.2 ⟨_,List.getElem_mem hlt,rfl⟩,by rw [hpb]; decide⟩
     rw [hpb] at hP
     generalize ps[k]'hlt = p at *
     clear hall hpb
     go_wp2_with (go_at_call 151; refine hP.mono ?_; rintro e w' ⟨rfl,hww⟩; subst w')
     go_ret2
     exact hn4.out _ (Below.refl _ _) (.inl hf.out)
    | true =>
     have hall2 : Hid (∀ (j : Nat) (h : j < ps.length),j < k + 1 → patB (bs (ps[j]'h)) = true) := fun j h hj => by
      by_cases hh : j < k
      ·exact hall.out j h hh
      ·obtain rfl : j = k := by omega
       exact hpb
     rw [hpb] at hP
     generalize ps[k]'hlt = p at *
     clear hall hpb
     go_wp2_with (go_at_call 151; refine hP.mono ?_; rintro e w' ⟨rfl,hww⟩; subst w')
     go_roundw
     case rel => exact ⟨k + 1,by omega,by simp,by first | rfl | trivial,hall2⟩
     case measure => simp [intOf]; omega
   ·have hkl : ¬ (k : Int) < ps.length := by omega
    have hPall : Hid ((ps.map bs).all patB = true) := by
     show _ = _
     rw [List.all_eq_true]
     intro x hx
     obtain ⟨y,hy,rfl⟩ := List.mem_map.1 hx
     obtain ⟨j,hj,rfl⟩ := List.getElem_of_mem hy
     exact hall.out j hj (by omega)
    clear hall
    go_wp2_with fail
    go_loopw [7] (fun i wr => ∃ k : Nat,k ≤ xs.length ∧ i = .int .i64 k ∧ wr = w ∧ Hid (∀ (j : Nat) (h : j < xs.length),j < k → excB (bs (xs[j]'h)) = true)) (fun i _ => xs.length - (intOf i).toNat)
    case atStart => exact ⟨0,by omega,rfl,rfl,fun j _ hj => by omega⟩
    case round =>
     obtain ⟨k2,hk2,rfl,rfl,hall⟩ := hrel
     obtain ⟨w,rfl⟩ : ∃ w,w = wr := ⟨_,rfl⟩
     by_cases hlt2 : k2 < xs.length
     ·have hkl2 : (k2 : Int) < xs.length := by omega
      obtain ⟨b0,o0,hab,cj⟩ := tx_cell (T2.out _ (Below.refl _ _)) hlt2
      subst hab
      have hP := exception_any (xs[k2]'hlt2) (by have := hxsh.out _ (List.getElem_mem hlt2); omega) w
      cases hpb : excB (bs (xs[k2]'hlt2)) with
      | false =>
       have hf : Hid ((xs.map bs).all excB = false) := by
        show _ = _
        rw [List.all_eq_false]
        exact ⟨_,List.mem_map.2 ⟨_,List.getElem_mem hlt2,rfl⟩,by rw [hpb]; decide⟩
       rw [hpb] at hP
       generalize xs[k2]'hlt2 = p at *
       clear hall hpb
       go_wp2_with (go_at_call 152; refine hP.mono ?_; rintro e w' ⟨rfl,hww⟩; subst w')
       go_ret2
       exact hn4.out _ (Below.refl _ _) (.inr hf.out)
      | true =>
       have hall2 : Hid (∀ (j : Nat) (h : j < xs.length),j < k2 + 1 → excB (bs (xs[j]'h)) = true) := fun j h hj => by
        by_cases hh : j < k2
        ·exact hall.out j h hh
        ·obtain rfl : j = k2 := by omega
         exact hpb
       rw [hpb] at hP
       generalize xs[k2]'hlt2 = p at *
       clear hall hpb
       go_wp2_with (go_at_call 152; refine hP.mono ?_; rintro e w' ⟨rfl,hww⟩; subst w')
       go_roundw
       case rel => exact ⟨k2 + 1,by omega,by simp,by first | rfl | trivial,hall2⟩
       case measure => simp [intOf]; omega
     ·have hkl2 : ¬ (k2 : Int) < xs.length := by omega
      have hXall : Hid ((xs.map bs).all excB = true) := by
       show _ = _
       rw [List.all_eq_true]
       intro x hx
       obtain ⟨y,hy,rfl⟩ := List.mem_map.1 hx
       obtain ⟨j,hj,rfl⟩ := List.getElem_of_mem hy
       exact hall.out j hj (by omega)
      clear hall
      go_wp2_with fail
      go_loopw [8] (fun i wr => ∃ k : Nat,k ≤ xs.length ∧ i = .int .i64 k ∧ Below w.heap.size w wr ∧ Hid (freshB [] (xs.map bs) = freshB ((xs.map bs).take k) ((xs.map bs).drop k))) (fun i _ => xs.length - (intOf i).toNat)
      case atStart => exact ⟨0,by omega,rfl,Below.refl _ _,rfl⟩
      case round =>
       obtain ⟨i,hi3,rfl,hbl,hfr⟩ := hrel
       by_cases hlt3 : i < xs.length
       ·have hil : (i : Int) < xs.length := by omega
        go_wp2_with fail
        go_loopw [9] (fun j wr => ∃ k : Nat,k ≤ i ∧ j = .int .i64 k ∧ Below w.heap.size w wr ∧ Hid (∀ (j : Nat) (h : j < k),∀ h1 : j < xs.length,bare (bs (xs[i]'hlt3)) ≠ bare (bs (xs[j]'h1)))) (fun j _ => i - (intOf j).toNat)
        case atStart => exact ⟨0,by omega,rfl,hbl,fun j h => by omega⟩
        case round =>
         clear hbl
         obtain ⟨j,hj,rfl,hbl,hne⟩ := hrel
         by_cases hlt4 : j < i
         ·have hjl : (j : Int) < i := by omega
          have hjx : j < xs.length := by omega
          obtain ⟨b0,o0,hab,ci⟩ := tx_cell (T2.out _ hbl) hlt3
          subst hab
          obtain ⟨b1,o1,hab1,cj⟩ := tx_cell (T2.out _ hbl) hjx
          cases hab1
          have hsi := hxsh.out _ (List.getElem_mem hlt3)
          have hsj := hxsh.out _ (List.getElem_mem hjx)
          have hBi : Hid (∀ W,Calls Tryz.prog 120 #[.string (xs[i]'hlt3)] W fun e w' => e = .returned (.string ⟨(bare (bs (xs[i]'hlt3))).toArray⟩) ∧ w' = W) := fun W => bare_any _ (by omega) W
          have hBj : Hid (∀ W,Calls Tryz.prog 120 #[.string (xs[j]'hjx)] W fun e w' => e = .returned (.string ⟨(bare (bs (xs[j]'hjx))).toArray⟩) ∧ w' = W) := fun W => bare_any _ (by omega) W
          have hbd : Below w.heap.size w wr.drew := ⟨hbl.1,hbl.2,hbl.3,hbl.4,hbl.5⟩
          obtain ⟨qi,hqi⟩ : ∃ q : ByteArray,(⟨(bare (bs (xs[i]'hlt3))).toArray⟩ : ByteArray) = q := ⟨_,rfl⟩
          obtain ⟨qj,hqj⟩ : ∃ q : ByteArray,(⟨(bare (bs (xs[j]'hjx))).toArray⟩ : ByteArray) = q := ⟨_,rfl⟩
          rw [hqi] at hBi
          rw [hqj] at hBj
          have ci' : wr.drew.cell? ⟨b0,o0 + i,none⟩ = some (.string (xs[i]'hlt3)) := ci
          have cj' : wr.drew.cell? ⟨b0,o0 + j,none⟩ = some (.string (xs[j]'hjx)) := cj
          by_cases heq : bare (bs (xs[i]'hlt3)) = bare (bs (xs[j]'hjx))
          ·have hf : Hid (freshB [] (xs.map bs) = false) := by
            show _ = _
            rw [hfr.out]
            exact fresh_hit (xs := xs.map bs) (i := i) (k := j) (by simpa using hlt3) hlt4 (by simpa using heq)
           have hqq : qi = qj := by rw [← hqi,← hqj,heq]
           subst hqq
           generalize xs[i]'hlt3 = xi at *
           generalize xs[j]'hjx = xj at *
           clear hne hqi hqj heq hfr
           go_wp2_with fail
           go_region_with (go_at_call 120; first | (with_reducible refine (hBi.out _).mono ?_; rintro e w' ⟨rfl,hww⟩; subst w') | (with_reducible refine (hBj.out _).mono ?_; rintro e w' ⟨rfl,hww⟩; subst w'))
           all_goals go_wp2_with fail
           all_goals (go_ret2; exact hn7.out _ hbd hPall.out hXall.out hf.out)
          ·have hneq : (ByteArray.toList qi == ByteArray.toList qj) = false := by
            rw [beq_eq_false_iff_ne,ByteArray.toList_eq,ByteArray.toList_eq,← hqi,← hqj]
            exact heq
           have hne2 : Hid (∀ (j2 : Nat) (h : j2 < j + 1),∀ h1 : j2 < xs.length,bare (bs (xs[i]'hlt3)) ≠ bare (bs (xs[j2]'h1))) := fun j2 h h1 => by
            by_cases hh : j2 < j
            ·exact hne.out j2 hh h1
            ·obtain rfl : j2 = j := by omega
             exact heq
           generalize xs[i]'hlt3 = xi at *
           generalize xs[j]'hjx = xj at *
           clear hne hqi hqj heq
           go_wp2_with fail
           go_region_with (go_at_call 120; first | (with_reducible refine (hBi.out _).mono ?_; rintro e w' ⟨rfl,hww⟩; subst w') | (with_reducible refine (hBj.out _).mono ?_; rintro e w' ⟨rfl,hww⟩; subst w'))
           all_goals go_wp2_with fail
           all_goals exact ⟨⟨j + 1,by omega,by simp,hbd,hne2⟩,by simp [intOf]; omega⟩
         ·have hjl : ¬ (j : Int) < i := by omega
          have hfr2 : Hid (freshB [] (xs.map bs) = freshB ((xs.map bs).take (i + 1)) ((xs.map bs).drop (i + 1))) := by
           show _ = _
           rw [hfr.out]
           exact fresh_go (xs := xs.map bs) (by simpa using hlt3) (fun k hk => by
            have := hne.out k (by omega) (by omega)
            simpa using this)
          clear hne hfr
          go_wp2_with fail
          go_roundw
          case rel => exact ⟨i + 1,by omega,by simp,hbl,hfr2⟩
          case measure => simp [intOf]; omega
       ·have hil : ¬ (i : Int) < xs.length := by omega
        have hf : Hid (freshB [] (xs.map bs) = true) := by
         show _ = _
         rw [hfr.out,List.drop_of_length_le (by simp; omega)]; rfl
        obtain ⟨hpl1,hxl1⟩ := hpl.out
        clear hfr
        go_wp2_with (at_builtin; first
         | (refine wpList_append_any _ rfl _ _ 25 rfl wr.heap.size 9 i9 _ 1 16 Tryz.underlying25 hi hz0 hz1 hz2 rfl (by decide) _ 0 [] rfl (ownsRow_lit wr 9 1 wr.heap.size (Nat.le_refl _)) ps.length (strs ps) _ rfl (tx_srcs (T1.out _ (below_one hbl _))) (by unfold maxLen; omega) (by omega) (by simp) ?_; intro va wa hoa hga; rw [Nat.zero_add,List.nil_append] at hoa; obtain ⟨aa,ca,rfl⟩ := row_val hoa; have hba := below_grown (below_one (Below.refl wr.heap.size wr) (.cells #[] 9)) (ownsRow_lit wr 9 1 wr.heap.size (Nat.le_refl _)) (Nat.le_refl _) (Nat.le_refl _) hga; have hbaw := hbl.trans (hba.mono hbl.size))
         | (refine wpList_append_any _ rfl _ _ 25 rfl wa.heap.size 9 i9 _ 1 16 Tryz.underlying25 hi hz0 hz1 hz2 rfl (by decide) _ 0 [] rfl (ownsRow_lit wa 9 1 wa.heap.size (Nat.le_refl _)) xs.length (strs xs) _ rfl (tx_srcs (T2.out _ (below_one hbaw _))) (by unfold maxLen; omega) (by omega) (by simp) ?_; intro vb wb hob hgb; rw [Nat.zero_add,List.nil_append] at hob; obtain ⟨ab,cb,rfl⟩ := row_val hob; have hbb := below_grown (below_one (Below.refl wa.heap.size wa) (.cells #[] 9)) (ownsRow_lit wa 9 1 wa.heap.size (Nat.le_refl _)) (Nat.le_refl _) (Nat.le_refl _) hgb; have hbbw := hbaw.trans (hbb.mono hbaw.size)))
        go_ret2
        have hA := (ownsRow_below (ownsRow_base hoa hbl.size) hbb).alloc (.cells #[.slice aa ps.length ca,.slice ab xs.length cb] 166)
        have hB := (ownsRow_base hob hbaw.size).alloc (.cells #[.slice aa ps.length ca,.slice ab xs.length cb] 166)
        exact hn0.out _ wb.heap.size (below_one hbbw _) hPall.out hXall.out hf.out ⟨hbbw.size,_,_,Lib.cell_of_heap (World.alloc_heap_new wb _) 0,Lib.cell_of_heap (World.alloc_heap_new wb _) 1,hA,hB⟩
end Go.Proofs.YthcphnifnfnceaaGreatDoor.Hy

namespace Go.Proofs.YthcphnifnfnceaaGreatDoor.Hy

def VI (d : List Int) (S : Nat → Int → Prop) : Prop := ∀ (k : Nat) (h : k < d.length),0 ≤ d[k] ∧ ∀ v,0 < v → (v ≤ d[k] ↔ S k v)
theorem VI.cast {d : List Int} {S S' : Nat → Int → Prop} (h : VI d S) (he : ∀ k v,0 < v → (S k v ↔ S' k v)) : VI d S' := fun k hk => ⟨(h k hk).1,fun v hv => ((h k hk).2 v hv).trans (he k v hv)⟩
theorem VI.zero (n : Nat) {S : Nat → Int → Prop} (hS : ∀ k v,0 < v → ¬ S k v) : VI (List.replicate n 0) S := fun k hk => by
 rw [List.getElem_replicate]
 exact ⟨Int.le_refl _,fun v hv => ⟨fun h => by omega,fun h => absurd h (hS k v hv)⟩⟩
theorem VI.put {d : List Int} {S : Nat → Int → Prop} (h : VI d S) {k0 : Nat} (hk0 : k0 < d.length) {x : Int} (y : Int) (hy : y = max (d[k0]'hk0) x) : VI (d.set k0 y) (fun k v => S k v ∨ ((k : Int) = (k0 : Int) ∧ v ≤ x)) := fun k hk => by
 have hk' : k < d.length := by simpa using hk
 obtain ⟨h1,h2⟩ := h k hk'
 rw [List.getElem_set]
 by_cases e : k0 = k
 ·subst e
  rw [if_pos rfl,hy]
  refine ⟨by omega,fun v hv => ?_⟩
  show v ≤ max (d[k0]'hk0) x ↔ (S k0 v ∨ ((k0 : Int) = (k0 : Int) ∧ v ≤ x))
  rw [← h2 v hv]
  constructor
  ·intro hh; by_cases hc : v ≤ d[k0]
   ·exact .inl hc
   ·exact .inr ⟨rfl,by omega⟩
  ·rintro (hh | ⟨-,hh⟩) <;> omega
 ·rw [if_neg e]
  refine ⟨h1,fun v hv => ?_⟩
  rw [h2 v hv]
  constructor
  ·exact .inl
  ·rintro (hh | ⟨hh,-⟩)
   ·exact hh
   ·exact absurd hh (by omega)
theorem VI.miss {d : List Int} {S : Nat → Int → Prop} (h : VI d S) {kv : Int} (hk : kv < 0 ∨ (d.length : Int) ≤ kv) (x : Int) : VI d (fun k v => S k v ∨ ((k : Int) = kv ∧ v ≤ x)) := fun k hk' => by
 obtain ⟨h1,h2⟩ := h k hk'
 refine ⟨h1,fun v hv => ?_⟩
 rw [h2 v hv]
 constructor
 ·exact .inl
 ·rintro (hh | ⟨hh,-⟩)
  ·exact hh
  ·omega
def S0 (ps : List Bs) (text : Bs) (i : Nat) (k : Nat) (v : Int) : Prop := Has (ps.take i) text (k + 1) v text.length
def S1 (ps : List Bs) (text : Bs) (i : Nat) (p : Bs) (at_ : Nat) (k : Nat) (v : Int) : Prop := S0 ps text i k v ∨ ∃ a,a < at_ ∧ ltrs p <+: text.drop a ∧ ∃ x ∈ digs 0 p,a + x.1 = k + 1 ∧ v ≤ x.2
def S2' (ps : List Bs) (text : Bs) (i : Nat) (p : Bs) (at_ j : Nat) (k : Nat) (v : Int) : Prop := S1 ps text i p at_ k v ∨ ∃ x ∈ digs 0 (p.take j),at_ + x.1 = k + 1 ∧ v ≤ x.2
theorem s1_zero {ps : List Bs} {text : Bs} {i : Nat} {p : Bs} (k : Nat) (v : Int) : S0 ps text i k v ↔ S1 ps text i p 0 k v := by
 unfold S1
 constructor
 ·exact .inl
 ·rintro (h | ⟨a,h,_⟩)
  ·exact h
  ·omega
theorem s1_skip {ps : List Bs} {text : Bs} {i : Nat} {p : Bs} {m : Nat} (h : ¬ ltrs p <+: text.drop m) (k : Nat) (v : Int) : S1 ps text i p m k v ↔ S1 ps text i p (m + 1) k v := by
 unfold S1
 constructor
 ·rintro (h1 | ⟨a,h1,h2⟩)
  ·exact .inl h1
  ·exact .inr ⟨a,by omega,h2⟩
 ·rintro (h1 | ⟨a,h1,h2,h3⟩)
  ·exact .inl h1
  ·by_cases e : a = m
   ·subst e; exact absurd h2 h
   ·exact .inr ⟨a,by omega,h2,h3⟩
theorem s2_zero {ps : List Bs} {text : Bs} {i : Nat} {p : Bs} {m : Nat} (k : Nat) (v : Int) : S1 ps text i p m k v ↔ S2' ps text i p m 0 k v := by
 unfold S2'
 rw [List.take_zero,digs]
 simp
theorem digs_take {p : Bs} {j : Nat} (h : j < p.length) : digs 0 (p.take (j + 1)) = digs 0 (p.take j) ++ (if dgt p[j] then [((ltrs (p.take j)).length,(p[j].toNat : Int) - 48)] else []) := by
 rw [List.take_succ_eq_append_getElem h,digs_append,Nat.zero_add]
 congr 1
theorem s2_let {ps : List Bs} {text : Bs} {i : Nat} {p : Bs} {m j : Nat} (h : j < p.length) (hc : dgt p[j] = false) (k : Nat) (v : Int) : S2' ps text i p m j k v ↔ S2' ps text i p m (j + 1) k v := by
 unfold S2'
 rw [digs_take h,if_neg (by rw [hc]; decide),List.append_nil]
theorem s2_dig {ps : List Bs} {text : Bs} {i : Nat} {p : Bs} {m j : Nat} (h : j < p.length) (hc : dgt p[j] = true) (k : Nat) (v : Int) : (S2' ps text i p m j k v ∨ ((k : Int) = (m : Int) - 1 + ((ltrs (p.take j)).length : Int) ∧ v ≤ (p[j].toNat : Int) - 48)) ↔ S2' ps text i p m (j + 1) k v := by
 unfold S2'
 rw [digs_take h,if_pos hc]
 simp only [List.mem_append,List.mem_singleton]
 constructor
 ·rintro ((h1 | ⟨x,hx,h1,h2⟩) | ⟨h1,h2⟩)
  ·exact .inl h1
  ·exact .inr ⟨x,.inl hx,h1,h2⟩
  ·exact .inr ⟨_,.inr rfl,by simp; omega,h2⟩
 ·rintro (h1 | ⟨x,hx | rfl,h1,h2⟩)
  ·exact .inl (.inl h1)
  ·exact .inl (.inr ⟨x,hx,h1,h2⟩)
  ·exact .inr ⟨by simp at h1; omega,h2⟩
theorem s2_end {ps : List Bs} {text : Bs} {i : Nat} {p : Bs} {m : Nat} (h : ltrs p <+: text.drop m) (k : Nat) (v : Int) : S2' ps text i p m p.length k v ↔ S1 ps text i p (m + 1) k v := by
 unfold S2' S1
 rw [List.take_of_length_le (Nat.le_refl _)]
 constructor
 ·rintro ((h1 | ⟨a,h1,h2⟩) | h1)
  ·exact .inl h1
  ·exact .inr ⟨a,by omega,h2⟩
  ·exact .inr ⟨m,by omega,h,h1⟩
 ·rintro (h1 | ⟨a,h1,h2,h3⟩)
  ·exact .inl (.inl h1)
  ·by_cases e : a = m
   ·subst e; exact .inr h3
   ·exact .inl (.inr ⟨a,by omega,h2,h3⟩)
theorem s1_end {ps : List Bs} {text : Bs} {i : Nat} (hi : i < ps.length) {m : Nat} (hn : ltrs ps[i] ≠ []) (hm : text.length < m + (ltrs ps[i]).length) (k : Nat) (v : Int) : S1 ps text i ps[i] m k v ↔ S0 ps text (i + 1) k v := by
 have hl : 0 < (ltrs ps[i]).length := List.length_pos_iff.2 hn
 have hpre : ∀ a,ltrs ps[i] <+: text.drop a → a + (ltrs ps[i]).length ≤ text.length := fun a h => by
  have := h.length_le
  rw [List.length_drop] at this
  omega
 unfold S1 S0 Has
 rw [List.take_succ_eq_append_getElem hi]
 simp only [List.mem_append,List.mem_singleton]
 constructor
 ·rintro (⟨p,hp,h1⟩ | ⟨a,h1,h2,h3⟩)
  ·exact ⟨p,.inl hp,h1⟩
  ·exact ⟨_,.inr rfl,a,by have := hpre a h2; omega,h2,h3⟩
 ·rintro ⟨p,hp | rfl,a,h1,h2,h3⟩
  ·exact .inl ⟨p,hp,a,h1,h2,h3⟩
  ·exact .inr ⟨a,by have := hpre a h2; omega,h2,h3⟩
theorem VI.val {d : List Int} {ps : List Bs} {text : Bs} (h : VI d (S0 ps text ps.length)) {k : Nat} (hk : k < d.length) : d[k] = valI ps text (k + 1) := by
 obtain ⟨h1,h2⟩ := h k hk
 refine eq_of_le h1 (valI_nonneg _ _ _) fun v hv => ?_
 rw [h2 v hv,le_valI hv]
 unfold S0
 rw [List.take_of_length_le (Nat.le_refl _)]
end Go.Proofs.YthcphnifnfnceaaGreatDoor.Hy

namespace Go.Proofs.YthcphnifnfnceaaGreatDoor.Hy
open Go.RowKit Go.Shelf
set_option maxRecDepth 100000
set_option maxHeartbeats 8000000

theorem made34 (n : Nat) : madeCells #[.int .i64 0] n = (ints (List.replicate n 0)).toArray := by
 apply Array.ext
 ·simp [madeCells,ints]
 ·intro i h1 h2
  simp [madeCells,ints,Nat.mod_one]
theorem make34 {n : Nat} (h : n ≤ 100) (W : World) : (Instr.makeSlice 111 (.int .i64 (n : Int)) (.int .i64 (n : Int))).run Tryz.prog W = .ok (.slice (some ⟨W.heap.size,0,none⟩) n n) (W.alloc (.cells (ints (List.replicate n 0)).toArray 3)) := by
 obtain ⟨i3,hi⟩ := Option.isSome_iff_exists.1 (show (Tryz.prog.info? 3).isSome = true by kernel_rfl)
 have hz0 : i3.zero = some (.int .i64 0) := by
  have h : (Tryz.prog.info? 3).map (·.zero) = some (some (.int .i64 0)) := by kernel_rfl
  rw [hi] at h; simpa using h
 have hz1 : i3.size = 1 := by
  have h : (Tryz.prog.info? 3).map (·.size) = some 1 := by kernel_rfl
  rw [hi] at h; simpa using h
 have hz2 : i3.bytes = 8 := by
  have h : (Tryz.prog.info? 3).map (·.bytes) = some 8 := by kernel_rfl
  rw [hi] at h; simpa using h
 have := run_makeSlice (P := Tryz.prog) (w := W) 111 3 i3 _ Tryz.underlying111 hi hz0 .i64 .i64 n n (by omega) (by omega) (by rw [hz1]; omega) (by rw [hz2]; omega) (by omega)
 rw [hz1,Int.toNat_natCast,Nat.mul_one] at this
 rw [← made34]
 exact this
def IB (W : World) (g : Nat) (d : List Int) : Prop := W.heap[g]? = some (.cells (ints d).toArray 3 (0,0))
theorem IB.cell {W : World} {g : Nat} {d : List Int} (h : IB W g d) {k : Nat} (hk : k < d.length) : W.cell? ⟨g,k,none⟩ = some (.int .i64 (d[k]'hk)) ∧ W.frozen? ⟨g,k,none⟩ = false := by
 refine ⟨?_,Lib.frozen_of_heap h _⟩
 rw [Lib.cell_of_heap h]
 simp [ints,hk]
theorem IB.set {W : World} {g : Nat} {d : List Int} (h : IB W g d) (k : Nat) (x : Int) : IB (W.setCell ⟨g,k,none⟩ (.int .i64 x)) g (d.set k x) := by
 have := Lib.heap_setCell_same (i := k) h (.int .i64 x)
 unfold IB
 rw [this]
 congr 2
 apply Array.ext'
 simp [ints,List.map_set]
theorem pre_cut {l q : ByteArray} {m : Nat} : ((q.extract m (m + l.size)).toList == l.toList) = true ↔ bs l <+: (bs q).drop m := by
 rw [beq_iff_eq,ByteArray.toList_eq,ByteArray.toList_eq,extract_ba,List.drop_take,List.prefix_iff_eq_take,show m + l.size - m = (bs l).length by rw [show (bs l).length = l.size from size_ba l]; omega]
 exact eq_comm
theorem values_any (v1 : Value) (ps : List ByteArray) (s : ByteArray) (hs : s.size ≤ 64) (hp : ps.length ≤ 1000) (hps : ∀ p ∈ ps,p.size ≤ 16 ∧ ltrs (bs p) ≠ []) (w : World) (t1 : TxAt w v1 ps) :
  Calls Tryz.prog 121 #[v1,.string s] w fun e w' => ∃ d,e = .returned (.slice (some ⟨w.heap.size,0,none⟩) (s.size + 1) (s.size + 1)) ∧ Below w.heap.size w w' ∧ d.length = s.size + 1 ∧ IB w' w.heap.size d ∧ ∀ (k : Nat) (h : k < d.length),d[k] = valI (ps.map bs) (dot (bs s)) (k + 1) := by
 have T1 : Hid (∀ W,Below w.heap.size w W → TxAt W v1 ps) := fun W hb => t1.below hb (Nat.le_refl _)
 obtain ⟨a1,c1,rfl,-⟩ := t1.ex
 clear t1
 have hmk : ∀ W,(Instr.makeSlice 111 (.int .i64 ((s.size : Int) + 1)) (.int .i64 ((s.size : Int) + 1))).run Tryz.prog W = .ok (.slice (some ⟨W.heap.size,0,none⟩) (s.size + 1) (s.size + 1)) (W.alloc (.cells (ints (List.replicate (s.size + 1) 0)).toArray 3)) := fun W => by
  have := make34 (n := s.size + 1) (by omega) W
  rwa [show (((s.size + 1 : Nat)) : Int) = (s.size : Int) + 1 by omega] at this
 obtain ⟨q,hq⟩ : ∃ q : ByteArray,(⟨#[46]⟩ : ByteArray) ++ s ++ ⟨#[46]⟩ = q := ⟨_,rfl⟩
 have hql : bs q = dot (bs s) := by rw [← hq]; exact dot_str s
 have hqs : q.size = s.size + 2 := by rw [← size_ba,show q.data.toList = dot (bs s) from hql,dot]; simp
 have hq66 : q.size ≤ 66 := by omega
 clear hqs
 have hb1 : Below w.heap.size w (w.alloc (.cells (ints (List.replicate (s.size + 1) 0)).toArray 3)) := below_one (Below.refl _ _) _
 have hI1 : Hid (IB (w.alloc (.cells (ints (List.replicate (s.size + 1) 0)).toArray 3)) w.heap.size (List.replicate (s.size + 1) 0)) := World.alloc_heap_new w _
 have hmk1 := hmk w
 generalize w.alloc (.cells (ints (List.replicate (s.size + 1) 0)).toArray 3) = w1 at *
 obtain ⟨g,hg⟩ : ∃ g,w.heap.size = g := ⟨_,rfl⟩
 rw [hg] at hmk1 hb1 hI1 T1 ⊢
 have hgh : Hid (w.heap.size = g) := hg
 have hpsh : Hid (∀ p ∈ ps,p.size ≤ 16 ∧ ltrs (bs p) ≠ []) := hps
 have hqh : Hid (bs q = dot (bs s)) := hql
 obtain ⟨tx,htx⟩ : ∃ tx,dot (bs s) = tx := ⟨_,rfl⟩
 rw [htx] at hqh ⊢
 obtain ⟨PS,hPS⟩ : ∃ PS,ps.map bs = PS := ⟨_,rfl⟩
 rw [hPS]
 have hPSh : Hid (ps.map bs = PS) := hPS
 have hLet : Hid (∀ p ∈ ps,∀ W,Calls Tryz.prog 154 #[.string p] W fun e w' => e = .returned (.string ⟨(ltrs (bs p)).toArray⟩) ∧ w' = W) := fun p h W => letters_any p (by have := (hps p h).1; omega) W
 have f1 : ¬ 9223372036854775807 < (⟨#[46]⟩ : ByteArray).size + s.size := by show ¬ _ < 1 + s.size; omega
 have f2 : ¬ 9223372036854775807 < ((⟨#[46]⟩ : ByteArray) ++ s).size + (⟨#[46]⟩ : ByteArray).size := by rw [ByteArray.size_append]; show ¬ _ < 1 + s.size + 1; omega
 have f1' : ¬ 9223372036854775807 < 1 + s.size := by omega
 have f2' : ¬ 9223372036854775807 < 1 + s.size + 1 := by omega
 clear hmk hg hps hql htx hPS
 go_enter Tryz.func121,Tryz.ntmps121
 go_wp2_with fail
 clear hmk1
 go_loopw [7] (fun i wr => ∃ (k : Nat) (d : List Int),k ≤ ps.length ∧ i = .int .i64 k ∧ Below g w wr ∧ d.length = s.size + 1 ∧ Hid (IB wr g d) ∧ Hid (VI d (S0 PS tx k))) (fun i _ => ps.length - (intOf i).toNat)
 case atStart => exact ⟨0,List.replicate (s.size + 1) 0,by omega,rfl,hb1,by simp,hI1,VI.zero _ (fun k v hv h => by obtain ⟨p,hp,_⟩ := h; simp at hp)⟩
 case round =>
  obtain ⟨i,d,hi,rfl,hbl,hdl,hIB,hVI⟩ := hrel
  obtain ⟨wo,rfl⟩ : ∃ wo,wo = wr := ⟨_,rfl⟩
  by_cases hlt : i < ps.length
  ·have hil : (i : Int) < ps.length := by omega
   obtain ⟨b0,o0,hab,cj⟩ := tx_cell (T1.out _ hbl) hlt
   subst hab
   obtain ⟨hp16,hpne⟩ := hpsh.out _ (List.getElem_mem hlt)
   have hL := hLet.out _ (List.getElem_mem hlt)
   have hiP : i < PS.length := by rw [← hPSh.out,List.length_map]; exact hlt
   have hPi : PS[i]'hiP = bs (ps[i]'hlt) := by simp [← hPSh.out]
   have hTx : Hid (∀ W,Below g w W → W.cell? ⟨b0,o0 + i,none⟩ = some (.string (ps[i]'hlt))) := fun W hb => by
    obtain ⟨b1,o1,e1,e2⟩ := tx_cell (T1.out _ hb) hlt
    cases e1; exact e2
   generalize ps[i]'hlt = p at *
   obtain ⟨l,hl⟩ : ∃ l : ByteArray,(⟨(ltrs (bs p)).toArray⟩ : ByteArray) = l := ⟨_,rfl⟩
   have hlb : bs l = ltrs (bs p) := by rw [← hl]
   have hls : l.size ≤ 16 := by
    rw [← size_ba,show l.data.toList = ltrs (bs p) from hlb]
    exact Nat.le_trans (List.length_filter_le _ _) (by rw [show (bs p).length = p.size from size_ba p]; exact hp16)
   rw [hl] at hL
   have hlbh : Hid (bs l = ltrs (bs p) ∧ ltrs (bs p) ≠ []) := ⟨hlb,hpne⟩
   have hVI1 : Hid (VI d (S1 PS tx i (bs p) 0)) := hVI.out.cast (fun k v _ => s1_zero k v)
   have hPih : Hid (∃ hiP : i < PS.length,PS[i]'hiP = bs p) := ⟨hiP,hPi⟩
   clear hl hlb hpne hVI hPi hiP
   go_wp2_with (go_at_call 154; refine (hL _).mono ?_; rintro e w' ⟨rfl,hww⟩; subst w')
   clear hL cj
   go_loopw [9] (fun a wr => ∃ (m : Nat) (d : List Int),m ≤ q.size + 1 ∧ a = .int .i64 m ∧ Below g w wr ∧ d.length = s.size + 1 ∧ Hid (IB wr g d) ∧ Hid (VI d (S1 PS tx i (bs p) m))) (fun a _ => q.size + 2 - (intOf a).toNat)
   case atStart => exact ⟨0,d,by omega,rfl,hbl,hdl,hIB,hVI1⟩
   case round =>
    clear hVI1 hIB hdl hbl
    obtain ⟨m,d,hm,rfl,hbl,hdl,hIB,hVI⟩ := hrel
    obtain ⟨wo,rfl⟩ : ∃ wo,wo = wr := ⟨_,rfl⟩
    by_cases hml : m + l.size ≤ q.size
    ·have hmlI : (m : Int) + l.size ≤ q.size := by omega
     cases hcut : ((q.extract m (m + l.size)).toList == l.toList) with
     | false =>
      have hno : ¬ ltrs (bs p) <+: tx.drop m := by
       rw [← hlbh.out.1,← hqh.out,← pre_cut,hcut]; decide
      have hVI2 : Hid (VI d (S1 PS tx i (bs p) (m + 1))) := hVI.out.cast (fun k v _ => s1_skip hno k v)
      clear hVI hno
      go_wp2_with fail
      go_roundw
      case rel => exact ⟨m + 1,d,by omega,by simp,hbl,hdl,hIB,hVI2⟩
      case measure => simp [intOf]; omega
     | true =>
      have hyes : Hid (ltrs (bs p) <+: tx.drop m) := by
       show _ <+: _
       rw [← hlbh.out.1,← hqh.out,← pre_cut,hcut]
      have hVI2 : Hid (VI d (S2' PS tx i (bs p) m 0)) := hVI.out.cast (fun k v _ => s2_zero k v)
      clear hVI
      go_wp2_with fail
      go_loopw [10,11] (fun kk jj wr => ∃ (j n : Nat) (kv : Int) (d : List Int),j ≤ p.size ∧ n ≤ j ∧ jj = .int .i64 j ∧ kk = .int .i64 kv ∧ kv = (m : Int) - 1 + n ∧ Below g w wr ∧ d.length = s.size + 1 ∧ Hid (n = (ltrs ((bs p).take j)).length) ∧ Hid (IB wr g d) ∧ Hid (VI d (S2' PS tx i (bs p) m j))) (fun _ jj _ => p.size - (intOf jj).toNat)
      case atStart => exact ⟨0,0,(m : Int) - 1,d,by omega,by omega,rfl,rfl,by omega,hbl,hdl,rfl,hIB,hVI2⟩
      case round =>
       clear hVI2 hIB hdl hbl
       obtain ⟨j,n,kv,d,hj,hnj,rfl,rfl,hkv,hbl,hdl,hn,hIB,hVI⟩ := hrel
       have cj := hTx.out _ hbl
       by_cases hjl : j < p.size
       ·have hjlI : (j : Int) < p.size := by omega
        have hjb : j < (bs p).length := by rw [show (bs p).length = p.size from size_ba p]; exact hjl
        have hget : (bs p)[j]'hjb = p[j]'hjl := by
         have := getD_ba hjl
         rw [List.getD_eq_getElem?_getD,List.getElem?_eq_getElem (show j < p.data.toList.length from hjb)] at this
         exact this
        have hD := rdigit_any ((p[j]'hjl).toNat : Int)
        have hlt1 : ltrs ((bs p).take (j + 1)) = if dgt (p[j]'hjl) then ltrs ((bs p).take j) else ltrs ((bs p).take j) ++ [p[j]'hjl] := by
         rw [List.take_succ_eq_append_getElem hjb,hget,ltrs_add]
        cases hc : dgt (p[j]'hjl) with
        | false =>
         rw [show dgI ((p[j]'hjl).toNat : Int) = false from hc] at hD
         have hn2 : Hid (n + 1 = (ltrs ((bs p).take (j + 1))).length) := by
          show _ = _
          rw [hlt1,if_neg (by rw [hc]; decide),List.length_append,← hn.out]; rfl
         have hVI2 : Hid (VI d (S2' PS tx i (bs p) m (j + 1))) := hVI.out.cast (fun k v _ => s2_let hjb (by rw [hget]; exact hc) k v)
         have hkv2 : Hid (kv + 1 = (m : Int) - 1 + ((n + 1 : Nat) : Int)) := by show _ = _; omega
         have hkvh : Hid (kv = (m : Int) - 1 + n) := hkv
         have k1 : -1 ≤ kv := by omega
         have k2 : kv ≤ 200 := by omega
         clear hVI hlt1 hn hget hjb hc hkv
         go_wp2_with (go_at_call 155; refine (hD _).mono ?_; rintro e w' ⟨rfl,hww⟩; subst w')
         go_roundw
         case rel => exact ⟨j + 1,n + 1,kv + 1,d,by omega,by omega,by simp,by simp,hkv2.out,hbl,hdl,hn2,hIB,hVI2⟩
         case measure => simp [intOf]; omega
        | true =>
         have hr := dgI_rng (show dgI ((p[j]'hjl).toNat : Int) = true from hc)
         rw [show dgI ((p[j]'hjl).toNat : Int) = true from hc] at hD
         have hn2 : Hid (n = (ltrs ((bs p).take (j + 1))).length) := by
          show _ = _
          rw [hlt1,if_pos hc,← hn.out]
         have hcast : Hid (∀ d',VI d' (fun k v => S2' PS tx i (bs p) m j k v ∨ ((k : Int) = kv ∧ v ≤ ((p[j]'hjl).toNat : Int) - 48)) → VI d' (S2' PS tx i (bs p) m (j + 1))) := fun d' h => h.cast (fun k v _ => by
          have := s2_dig (ps := PS) (text := tx) (i := i) (m := m) hjb (by rw [hget]; exact hc) k v
          rw [hget,← hn.out,← hkv] at this
          exact this)
         have hkvh : Hid (kv = (m : Int) - 1 + n) := hkv
         have k1 : -1 ≤ kv := by omega
         have k2 : kv ≤ 200 := by omega
         by_cases hin : 0 ≤ kv ∧ kv ≤ s.size
         ·obtain ⟨h0,h1⟩ := hin
          obtain ⟨kn,hkn⟩ : ∃ kn : Nat,kv = (kn : Int) := ⟨kv.toNat,by omega⟩
          have hknd : kn < d.length := by omega
          obtain ⟨c0,fz0⟩ := hIB.out.cell hknd
          have hset : Hid (∀ y,y = max (d[kn]'hknd) (((p[j]'hjl).toNat : Int) - 48) → (d.set kn y).length = s.size + 1 ∧ Hid (IB (wr.setCell ⟨g,kn,none⟩ (.int .i64 y)) g (d.set kn y)) ∧ Hid (VI (d.set kn y) (S2' PS tx i (bs p) m (j + 1))) ∧ Below g w (wr.setCell ⟨g,kn,none⟩ (.int .i64 y))) := fun y hy =>
           ⟨by simpa using hdl,hIB.out.set kn y,hcast.out _ (by
            have := hVI.out.put hknd (x := ((p[j]'hjl).toNat : Int) - 48) y hy
            rw [← hkn] at this
            exact this),hbl.setCell (p := ⟨g,kn,none⟩) (Nat.le_refl _) _⟩
          subst hkn
          generalize d[kn]'hknd = dk at *
          generalize hcN : (p[j]'hjl).toNat = cN at *
          obtain ⟨hr1,hr2⟩ := hr
          have hcNh : Hid ((p[j]'hjl).toNat = cN) := hcN
          clear hVI hlt1 hn hget hjb hc hcast hkv
          go_wp2_with (go_at_call 155; refine (hD _).mono ?_; rintro e w' ⟨rfl,hww⟩; subst w')
          go_roundw
          case rel =>
           obtain ⟨e1,e2,e3,e4⟩ := hset.out _ rfl
           exact ⟨j + 1,n,kn,d.set kn (max dk ((cN : Int) - 48)),by omega,by omega,by simp,rfl,hkvh.out,e4,e1,hn2,e2,e3⟩
          case measure => simp [intOf]; omega
         ·have hVI2 : Hid (VI d (S2' PS tx i (bs p) m (j + 1))) := hcast.out d (hVI.out.miss (by omega) _)
          have hin3 : ¬ 0 ≤ kv ∨ (0 ≤ kv ∧ ¬ kv ≤ s.size) := by omega
          clear hVI hlt1 hn hget hjb hc hcast hkv hin
          rcases hin3 with h0 | ⟨h0,h1⟩
          ·go_wp2_with (go_at_call 155; refine (hD _).mono ?_; rintro e w' ⟨rfl,hww⟩; subst w')
           go_roundw
           case rel => exact ⟨j + 1,n,kv,d,by omega,by omega,by simp,rfl,hkvh.out,hbl,hdl,hn2,hIB,hVI2⟩
           case measure => simp [intOf]; omega
          ·go_wp2_with (go_at_call 155; refine (hD _).mono ?_; rintro e w' ⟨rfl,hww⟩; subst w')
           go_roundw
           case rel => exact ⟨j + 1,n,kv,d,by omega,by omega,by simp,rfl,hkvh.out,hbl,hdl,hn2,hIB,hVI2⟩
           case measure => simp [intOf]; omega
       ·obtain rfl : j = p.size := by omega
        have hVI2 : Hid (VI d (S1 PS tx i (bs p) (m + 1))) := hVI.out.cast (fun k v _ => by
         rw [show p.size = (bs p).length from (size_ba p).symm]
         exact s2_end hyes.out k v)
        have hjlI : ¬ (p.size : Int) < p.size := by omega
        clear hVI hn hkv
        go_wp2_with fail
        go_roundw
        case rel => exact ⟨m + 1,d,by omega,by simp,hbl,hdl,hIB,hVI2⟩
        case measure => simp [intOf]; omega
    ·have hmlI : ¬ (m : Int) + l.size ≤ q.size := by omega
     have hVI2 : Hid (VI d (S0 PS tx (i + 1))) := by
      obtain ⟨hiP,hPi⟩ := hPih.out
      obtain ⟨e1,e2⟩ := hlbh.out
      rw [← hPi] at e1 e2 hVI
      refine hVI.out.cast (fun k v _ => s1_end hiP e2 ?_ k v)
      rw [← e1,← hqh.out,show (bs q).length = q.size from size_ba q,show (bs l).length = l.size from size_ba l]
      omega
     clear hVI
     go_wp2_with fail
     go_roundw
     case rel => exact ⟨i + 1,d,by omega,by simp,hbl,hdl,hIB,hVI2⟩
     case measure => simp [intOf]; omega
  ·obtain rfl : i = ps.length := by omega
   have hval : Hid (∀ (k : Nat) (h : k < d.length),d[k] = valI PS tx (k + 1)) := fun k h => by
    refine VI.val (text := tx) ?_ h
    rw [← hPSh.out,List.length_map,hPSh.out]; exact hVI.out
   clear hVI
   go_wp2_with fail
   go_ret
   exact ⟨d,rfl,hbl,hdl,hIB.out,hval.out⟩
end Go.Proofs.YthcphnifnfnceaaGreatDoor.Hy
