/-
  What is proved here: the middle of Place: what it is made of.
  What is proved here: the middle of Place.
-/
import Derived.Test.YtbdpghjegachaaaGreatDoorG34
import Derived.Test.YtbdpghjegachaaaGreatDoorG36
import Derived.Test.YtbdpghjegachaaaGreatDoorG35
import Derived.Test.YtbdpghjegachaaaGreatDoorG37
namespace Go.Proofs.YtbdpghjegachaaaGreatDoor
open Go.RowKit Go.Shelf

def rest18 : Code := (Code.region 18 #[{ dst := some 110, op := Op.fieldAddr 60 (Operand.tmp 15) 2, type := 0, pos := "set.go:62", after := #[], guard := none }, { dst := some 111, op := Op.load 3 (Operand.tmp 110), type := 3, pos := "set.go:62", after := #[{ on := 0, ground := Ground.data }], guard := none }, { dst := some 112, op := Op.call { callee := Callee.value (Operand.func 31), args := #[], argTypes := #[] }, type := 67, pos := "set.go:62", after := #[], guard := none }, { dst := some 113, op := Op.fieldAddr 27 (Operand.tmp 3) 2, type := 0, pos := "set.go:62", after := #[], guard := none }, { dst := some 114, op := Op.fieldAddr 24 (Operand.tmp 113) 2, type := 0, pos := "set.go:62", after := #[{ on := 3, ground := Ground.data }], guard := none }, { dst := some 115, op := Op.load 3 (Operand.tmp 114), type := 3, pos := "set.go:62", after := #[{ on := 4, ground := Ground.data }], guard := none }, { dst := some 116, op := Op.index 67 (Operand.tmp 112) (Operand.tmp 115), type := 66, pos := "set.go:62", after := #[{ on := 2, ground := Ground.data }, { on := 5, ground := Ground.data }], guard := none }, { dst := some 117, op := Op.call { callee := Callee.value (Operand.tmp 116), args := #[Operand.tmp 15], argTypes := #[69] }, type := 3, pos := "set.go:62", after := #[{ on := 6, ground := Ground.data }, { on := 2, ground := Ground.chain }], guard := none }, { dst := some 118, op := Op.binOp BinOp.add 3 (Operand.tmp 111) (Operand.tmp 117) 3, type := 3, pos := "set.go:62", after := #[{ on := 1, ground := Ground.data }, { on := 7, ground := Ground.data }], guard := none }, { dst := some 119, op := Op.fieldAddr 60 (Operand.tmp 15) 2, type := 0, pos := "set.go:62", after := #[{ on := 0, ground := Ground.phase }, { on := 1, ground := Ground.phase }, { on := 2, ground := Ground.phase }, { on := 3, ground := Ground.phase }, { on := 4, ground := Ground.phase }, { on := 5, ground := Ground.phase }, { on := 6, ground := Ground.phase }, { on := 7, ground := Ground.phase }, { on := 8, ground := Ground.phase }], guard := none }, { dst := none, op := Op.store 3 (Operand.tmp 119) (Operand.tmp 118), type := 0, pos := "set.go:62", after := #[{ on := 9, ground := Ground.data }, { on := 8, ground := Ground.data }, { on := 7, ground := Ground.chain }, { on := 0, ground := Ground.phase }, { on := 1, ground := Ground.phase }, { on := 2, ground := Ground.phase }, { on := 3, ground := Ground.phase }, { on := 4, ground := Ground.phase }, { on := 5, ground := Ground.phase }, { on := 6, ground := Ground.phase }, { on := 7, ground := Ground.phase }, { on := 8, ground := Ground.phase }], guard := none }] true).seq rest19
def rest17 : Code := (Code.region 17 #[{ dst := some 105, op := Op.fieldAddr 29 (Operand.tmp 4) 3, type := 0, pos := "set.go:61", after := #[], guard := none }, { dst := some 106, op := Op.load 3 (Operand.tmp 105), type := 3, pos := "set.go:61", after := #[{ on := 0, ground := Ground.data }], guard := none }, { dst := some 107, op := Op.call { callee := Callee.value (Operand.func 30), args := #[Operand.tmp 15], argTypes := #[60] }, type := 3, pos := "set.go:61", after := #[], guard := none }, { dst := some 108, op := Op.binOp BinOp.sub 3 (Operand.tmp 106) (Operand.tmp 107) 3, type := 3, pos := "set.go:61", after := #[{ on := 1, ground := Ground.data }, { on := 2, ground := Ground.data }], guard := none }, { dst := some 109, op := Op.fieldAddr 60 (Operand.tmp 15) 4, type := 0, pos := "set.go:61", after := #[{ on := 0, ground := Ground.phase }, { on := 1, ground := Ground.phase }, { on := 2, ground := Ground.phase }, { on := 3, ground := Ground.phase }], guard := none }, { dst := none, op := Op.store 3 (Operand.tmp 109) (Operand.tmp 108), type := 0, pos := "set.go:61", after := #[{ on := 4, ground := Ground.data }, { on := 3, ground := Ground.data }, { on := 2, ground := Ground.chain }, { on := 0, ground := Ground.phase }, { on := 1, ground := Ground.phase }, { on := 2, ground := Ground.phase }, { on := 3, ground := Ground.phase }], guard := none }] true).seq rest18
def rest15 : Code := ((Code.region 15 #[{ dst := some 99, op := Op.fieldAddr 29 (Operand.tmp 4) 5, type := 0, pos := "set.go:58", after := #[], guard := none }, { dst := some 100, op := Op.load 4 (Operand.tmp 99), type := 4, pos := "set.go:58", after := #[{ on := 0, ground := Ground.data }], guard := none }] false).seq (Code.cond (Operand.tmp 100) (Code.region 16 #[{ dst := some 101, op := Op.load 27 (Operand.tmp 3), type := 27, pos := "set.go:59", after := #[], guard := none }, { dst := some 102, op := Op.call { callee := Callee.value (Operand.func 29), args := #[Operand.tmp 15, Operand.tmp 101], argTypes := #[60, 27] }, type := 3, pos := "set.go:59", after := #[{ on := 0, ground := Ground.data }], guard := none }, { dst := some 103, op := Op.call { callee := Callee.value (Operand.func 28), args := #[Operand.tmp 102], argTypes := #[3] }, type := 3, pos := "set.go:59", after := #[{ on := 1, ground := Ground.data }, { on := 1, ground := Ground.chain }], guard := none }, { dst := some 104, op := Op.fieldAddr 60 (Operand.tmp 15) 3, type := 0, pos := "set.go:59", after := #[{ on := 0, ground := Ground.phase }, { on := 1, ground := Ground.phase }, { on := 2, ground := Ground.phase }], guard := none }, { dst := none, op := Op.store 3 (Operand.tmp 104) (Operand.tmp 103), type := 0, pos := "set.go:59", after := #[{ on := 3, ground := Ground.data }, { on := 2, ground := Ground.data }, { on := 2, ground := Ground.chain }, { on := 0, ground := Ground.phase }, { on := 1, ground := Ground.phase }, { on := 2, ground := Ground.phase }], guard := none }] false) Code.skip)).seq rest17
set_option maxRecDepth 100000 in
set_option maxHeartbeats 1000000 in
theorem r18_call0 (ps : String) (r : Nat) (mv : Int) (P1 PP : World → Prop) (h : ∀ w, P1 w → Calls Tryz.prog 63 #[.pointer (some ⟨r, 0, none⟩)] w fun e w' => e = .returned (.int .i64 mv) ∧ PP w') : ∀ (fr : Act) (w : World) (K : Act → World → Prop) (Q : Exit → Act → World → Prop), fr.eval (.tmp 116) = .func (.func 63) #[] #[] → fr.eval (.tmp 15) = .pointer (some ⟨r, 0, none⟩) → P1 w → (∀ w', PP w' → K (fr.put (some 117) (.int .i64 mv)) w') → (ops8_18_7 ps).wp Tryz.prog fr w K Q := by
  intro fr w K Q h1 h2 hP hK
  have hc := h w hP
  unfold ops8_18_7
  unfold Oper.wp execOp
  simp only [resolve, List.map_toArray, List.map_cons, List.map_nil, h1, h2]
  go_simp
  refine hc.mono ?_
  rintro e w' ⟨rfl, h3⟩
  exact hK w' h3
set_option maxRecDepth 100000 in
set_option maxHeartbeats 1000000 in
theorem r18_call1 (ps : String) (r : Nat) (mv : Int) (P1 PP : World → Prop) (h : ∀ w, P1 w → Calls Tryz.prog 64 #[.pointer (some ⟨r, 0, none⟩)] w fun e w' => e = .returned (.int .i64 mv) ∧ PP w') : ∀ (fr : Act) (w : World) (K : Act → World → Prop) (Q : Exit → Act → World → Prop), fr.eval (.tmp 116) = .func (.func 64) #[] #[] → fr.eval (.tmp 15) = .pointer (some ⟨r, 0, none⟩) → P1 w → (∀ w', PP w' → K (fr.put (some 117) (.int .i64 mv)) w') → (ops8_18_7 ps).wp Tryz.prog fr w K Q := by
  intro fr w K Q h1 h2 hP hK
  have hc := h w hP
  unfold ops8_18_7
  unfold Oper.wp execOp
  simp only [resolve, List.map_toArray, List.map_cons, List.map_nil, h1, h2]
  go_simp
  refine hc.mono ?_
  rintro e w' ⟨rfl, h3⟩
  exact hK w' h3
set_option maxRecDepth 100000 in
set_option maxHeartbeats 1000000 in
theorem r18_call2 (ps : String) (r : Nat) (mv : Int) (P1 PP : World → Prop) (h : ∀ w, P1 w → Calls Tryz.prog 65 #[.pointer (some ⟨r, 0, none⟩)] w fun e w' => e = .returned (.int .i64 mv) ∧ PP w') : ∀ (fr : Act) (w : World) (K : Act → World → Prop) (Q : Exit → Act → World → Prop), fr.eval (.tmp 116) = .func (.func 65) #[] #[] → fr.eval (.tmp 15) = .pointer (some ⟨r, 0, none⟩) → P1 w → (∀ w', PP w' → K (fr.put (some 117) (.int .i64 mv)) w') → (ops8_18_7 ps).wp Tryz.prog fr w K Q := by
  intro fr w K Q h1 h2 hP hK
  have hc := h w hP
  unfold ops8_18_7
  unfold Oper.wp execOp
  simp only [resolve, List.map_toArray, List.map_cons, List.map_nil, h1, h2]
  go_simp
  refine hc.mono ?_
  rintro e w' ⟨rfl, h3⟩
  exact hK w' h3
set_option maxRecDepth 100000 in
set_option maxHeartbeats 1000000 in
theorem r18_call3 (ps : String) (r : Nat) (mv : Int) (P1 PP : World → Prop) (h : ∀ w, P1 w → Calls Tryz.prog 66 #[.pointer (some ⟨r, 0, none⟩)] w fun e w' => e = .returned (.int .i64 mv) ∧ PP w') : ∀ (fr : Act) (w : World) (K : Act → World → Prop) (Q : Exit → Act → World → Prop), fr.eval (.tmp 116) = .func (.func 66) #[] #[] → fr.eval (.tmp 15) = .pointer (some ⟨r, 0, none⟩) → P1 w → (∀ w', PP w' → K (fr.put (some 117) (.int .i64 mv)) w') → (ops8_18_7 ps).wp Tryz.prog fr w K Q := by
  intro fr w K Q h1 h2 hP hK
  have hc := h w hP
  unfold ops8_18_7
  unfold Oper.wp execOp
  simp only [resolve, List.map_toArray, List.map_cons, List.map_nil, h1, h2]
  go_simp
  refine hc.mono ?_
  rintro e w' ⟨rfl, h3⟩
  exact hK w' h3
/-- Blocks that are not the same. -/
structure Sep (w0 : World) (r g N Pb Lb : Nat) (v : Value) : Prop where
  rP : r ≠ Pb
  rL : r ≠ Lb
  r0 : w0.heap.size ≤ r
  gg : 0 < N → w0.heap.size ≤ g ∧ g ≠ Pb ∧ g ≠ Lb ∧ g ≠ r
  vr : v.ownBlock ≠ some r
  vg : 0 < N → v.ownBlock ≠ some g
theorem Sep.rg {w0 : World} {r g N Pb Lb : Nat} {v : Value} (h : Sep w0 r g N Pb Lb v) : ¬ XG g N r := fun e => (h.gg e.2).2.2.2 e.1.symm
/-- All that stands while a line is set. -/
structure QS (w0 : World) (a : Pa) (l : Ln) (Pb Lb base : Nat) (v : Value) (L : List Gl) (r g o N cap : Nat) (av : Option Addr) (vb : Value) (x h m : Int) (last : Bool) (M : Nat → Ms) (W : World) : Prop where
  ps : PS w0 a l Pb Lb base v L W
  rw : RW W r (.slice av N cap) vb x h m last
  rf : RF W g o N M
section
variable {w0 : World} {a : Pa} {l : Ln} {Pb Lb base : Nat} {v : Value} {L : List Gl} {r g o N cap : Nat} {av : Option Addr} {vb : Value} {x h m : Int} {last : Bool} {M M' : Nat → Ms} {W W' : World}
theorem QS.below (k : QS w0 a l Pb Lb base v L r g o N cap av vb x h m last M W) (hb : Below W.heap.size W W') : QS w0 a l Pb Lb base v L r g o N cap av vb x h m last M W' :=
  ⟨k.ps.below hb, k.rw.below hb k.rw.lt, k.rf.below hb (fun h => k.rf.lt h)⟩
theorem QS.drew (k : QS w0 a l Pb Lb base v L r g o N cap av vb x h m last M W) : QS w0 a l Pb Lb base v L r g o N cap av vb x h m last M W.drew := k.below (below_drew W)
theorem QS.mass (k : QS w0 a l Pb Lb base v L r g o N cap av vb x h m last M W) (s : Sep w0 r g N Pb Lb v) (ht : Turns (XG g N) W W') (hf : RF W' g o N M') : QS w0 a l Pb Lb base v L r g o N cap av vb x h m last M' W' :=
  ⟨k.ps.turns ht (fun j hj => by obtain ⟨e1, e2⟩ := hj; subst e1; have := s.gg e2; exact ⟨this.1, this.2.1, this.2.2.1⟩) (fun j hj hX => by obtain ⟨e1, e2⟩ := hX; subst e1; exact s.vg e2 hj), k.rw.turns ht s.rg, hf⟩
theorem QS.setr (k : QS w0 a l Pb Lb base v L r g o N cap av vb x h m last M W) (s : Sep w0 r g N Pb Lb v) (j : Nat) (u : Value) : PS w0 a l Pb Lb base v L (W.setCell ⟨r, j, none⟩ u) ∧ RF (W.setCell ⟨r, j, none⟩ u) g o N M := by
  have ht := Turns.setCell (X := fun k => k = r) W (p := ⟨r, j, none⟩) rfl u
  exact ⟨k.ps.turns ht (fun j hj => by subst hj; exact ⟨s.r0, s.rP, s.rL⟩) (fun j hj hX => by subst hX; exact s.vr hj), k.rf.turns ht (fun hN e => (s.gg hN).2.2.2 e)⟩
theorem QS.set2 (k : QS w0 a l Pb Lb base v L r g o N cap av vb x h m last M W) (s : Sep w0 r g N Pb Lb v) (u : Int) : QS w0 a l Pb Lb base v L r g o N cap av vb u h m last M (W.setCell ⟨r, 2, none⟩ (.int .i64 u)) := ⟨(k.setr s 2 _).1, k.rw.set2 u, (k.setr s 2 _).2⟩
theorem QS.set3 (k : QS w0 a l Pb Lb base v L r g o N cap av vb x h m last M W) (s : Sep w0 r g N Pb Lb v) (u : Int) : QS w0 a l Pb Lb base v L r g o N cap av vb x u m last M (W.setCell ⟨r, 3, none⟩ (.int .i64 u)) := ⟨(k.setr s 3 _).1, k.rw.set3 u, (k.setr s 3 _).2⟩
theorem QS.set4 (k : QS w0 a l Pb Lb base v L r g o N cap av vb x h m last M W) (s : Sep w0 r g N Pb Lb v) (u : Int) : QS w0 a l Pb Lb base v L r g o N cap av vb x h u last M (W.setCell ⟨r, 4, none⟩ (.int .i64 u)) := ⟨(k.setr s 4 _).1, k.rw.set4 u, (k.setr s 4 _).2⟩
end
/-- The masses once they are aligned, and by how much the line is moved. -/
def alM (al : Int) (last : Bool) (M : Nat → Ms) (s n : Nat) (rm : Int) : Nat → Ms := if al = 1 then spF last M s n rm else M
def mvI (al rm : Int) : Int := if al = 2 then posI rm else if al = 3 then posI rm / 2 else 0
theorem tdiv_small {rm S A : Int} (h0 : 0 ≤ S) (h1 : S ≤ A) (hA : 0 < A) (hr : -50000000 ≤ rm ∧ rm ≤ 50000000) : -50000000 ≤ Int.tdiv (rm * S) A ∧ Int.tdiv (rm * S) A ≤ 50000000 := by
  have h : (Int.tdiv (rm * S) A).natAbs ≤ 50000000 := by
    rw [Int.natAbs_tdiv, Int.natAbs_mul]
    apply Nat.div_le_of_le_mul
    have a1 : rm.natAbs ≤ 50000000 := by omega
    have a2 : S.natAbs ≤ A.natAbs := by omega
    have a3 := Nat.mul_le_mul a1 a2
    rw [Nat.mul_comm 50000000] at a3
    exact a3
  omega
theorem shS_mono {M : Nat → Ms} {s n : Nat} {rm : Int} (hM : ∀ i, i < n → 0 ≤ (M (s + i)).w ∧ (M (s + i)).w ≤ 4095) (j : Nat) : ∀ d, j + d ≤ n → shS M s rm j ≤ shS M s rm (j + d)
  | 0, _ => Int.le_refl _
  | d + 1, hd => by
    have h1 := shS_mono (rm := rm) hM j d (by omega)
    have h2 : shS M s rm (j + d) ≤ shS M s rm (j + d + 1) := by
      unfold shS
      by_cases h3 : (M (s + (j + d))).k = 3
      · rw [bkL_yes h3, ssL_app]
        have := (shI_rng (rm := rm) (hM (j + d) (by omega))).1
        omega
      · rw [bkL_no h3]; exact Int.le_refl _
    rw [show j + (d + 1) = j + d + 1 by omega]
    omega
theorem spW_rng {M : Nat → Ms} {s n : Nat} {rm : Int} (hn : n ≤ 4096) (hM : ∀ i, i < n → 0 ≤ (M (s + i)).w ∧ (M (s + i)).w ≤ 4095) (hrm : -50000000 ≤ rm ∧ rm ≤ 50000000) (hA : 0 < shS M s rm n) {i : Nat} (hi : i < n) : -100000000 ≤ spW M s rm (shS M s rm n) i ∧ spW M s rm (shS M s rm n) i ≤ 110000000 := by
  have key : ∀ j, j ≤ n → -50000000 ≤ Int.tdiv (rm * shS M s rm j) (shS M s rm n) ∧ Int.tdiv (rm * shS M s rm j) (shS M s rm n) ≤ 50000000 := fun j hj => by
    have hle := shS_mono (rm := rm) hM j (n - j) (by omega)
    rw [show j + (n - j) = n by omega] at hle
    exact tdiv_small (shS_rng hM hn rm hj).1 hle hA hrm
  have k1 := key i (by omega)
  have k2 := key (i + 1) (by omega)
  have k3 := hM i hi
  unfold spW
  omega
/-- The widths keep their bounds. -/
theorem spF_rng {M : Nat → Ms} {N s n : Nat} {rm : Int} {last : Bool} (hs : s + n ≤ N) (hN : N ≤ 4096) (hM : ∀ i, i < N → 0 ≤ (M i).w ∧ (M i).w ≤ 4095) (hrm : -50000000 ≤ rm ∧ rm ≤ 50000000) {i : Nat} (hi : i < N) : (spF last M s n rm i).q = (M i).q ∧ (spF last M s n rm i).f = (M i).f ∧ (spF last M s n rm i).t = (M i).t ∧ -200000000 ≤ (spF last M s n rm i).w ∧ (spF last M s n rm i).w ≤ 200000000 := by
  have hm := hM i hi
  unfold spF
  split
  · exact ⟨rfl, rfl, rfl, by omega, by omega⟩
  · rename_i hc
    have hA : 0 < shS M s rm n := by
      have hne : bkL M s n ≠ [] := fun e => hc (.inr (.inr (.inl e)))
      have hbig : ¬ rm < -(shS M s rm n) := fun e => hc (.inr (.inr (.inr e)))
      by_cases hr : rm < 0
      · omega
      · unfold shS
        rw [shS_even hr]
        have := List.length_pos_iff.2 hne
        omega
    unfold spQ
    split
    · rename_i hb
      have h1 := (bkL_mem.1 hb.2).1
      have h2 := spW_rng (M := M) (s := s) (n := n) (rm := rm) (by omega) (fun j hj => hM (s + j) (by omega)) hrm hA h1
      exact ⟨rfl, rfl, rfl, by show _ ≤ spW M s rm (shS M s rm n) (i - s); omega, by show spW M s rm (shS M s rm n) (i - s) ≤ _; omega⟩
    · exact ⟨rfl, rfl, rfl, by omega, by omega⟩
theorem tabM_rng {M : Nat → Ms} {N s n : Nat} {x : Int} (hM : ∀ i, i < N → MOk (M i)) {i : Nat} (hi : i < N) : (tabM M s x n i).q = (M i).q ∧ (tabM M s x n i).f = (M i).f ∧ (tabM M s x n i).t = (M i).t ∧ (tabM M s x n i).k = (M i).k ∧ 0 ≤ (tabM M s x n i).w ∧ (tabM M s x n i).w ≤ 4095 := by
  have hm := hM i hi
  have h0 := hm.w0
  have h1 := hm.w1
  unfold tabM
  split
  · exact ⟨rfl, rfl, rfl, rfl, by show 0 ≤ 48 - _ % 48; omega, by show 48 - _ % 48 ≤ 4095; omega⟩
  · exact ⟨rfl, rfl, rfl, rfl, h0, h1⟩
end Go.Proofs.YtbdpghjegachaaaGreatDoor

namespace Go.Proofs.YtbdpghjegachaaaGreatDoor
open Go.RowKit Go.Shelf

/-- The line once it is aligned. -/
def fiL (a : Pa) (l : Ln) (last : Bool) (M : Nat → Ms) (s n N : Nat) (hh : Int) (L : List Gl) : List Gl := (L ++ glS (alM a.p.p2 last (tabM M s l.x n) s n (l.w - (atQ M s l.x n + hh - l.x))) (l.x + (mvI a.p.p2 (l.w - (atQ M s l.x n + hh - l.x)))) N ++ (if l.y = true then [(⟨l.t, l.t, psN (alM a.p.p2 last (tabM M s l.x n) s n (l.w - (atQ M s l.x n + hh - l.x))) (l.x + (mvI a.p.p2 (l.w - (atQ M s l.x n + hh - l.x)))) N, hh⟩ : Gl)] else []))
set_option maxRecDepth 100000 in
set_option maxHeartbeats 4000000 in
theorem place_d (a : Pa) (l : Ln) (w0 : World) (Pb Lb r g o N cap base s n cap' q : Nat) (M : Nat → Ms) (last : Bool) (v : Value) (L : List Gl) (av a' : Option Addr) (hav : 0 < N → av = some ⟨g, o, none⟩) (hcap : N ≤ cap) (hN : N ≤ 4096) (hL : L.length ≤ 1) (hq : Hid (q = o + s * 6)) (hs : s + n ≤ N) (ha' : 0 < n → a' = some ⟨g, q, none⟩) (hcap' : n ≤ cap') (hM : ∀ i, i < N → MOk (M i)) (hal : 0 ≤ a.p.p2 ∧ a.p.p2 ≤ 3) (hlx : 0 ≤ l.x ∧ l.x ≤ 4095) (hlw : 0 ≤ l.w ∧ l.w ≤ 4095) (hSep : Sep w0 r g N Pb Lb v) (hh : Int) (hhh : 0 ≤ hh ∧ hh ≤ 64) (W : World) (hQ0 : QS w0 a l Pb Lb base v L r g o N cap av (.slice a' n cap') l.x hh (l.w - (atQ M s l.x n + hh - l.x)) last (tabM M s l.x n) W)
    (RR : Ending → World → Prop) (hfin : ∀ v' W', W'.ownsRow base 41 4 v' (fiL a l last M s n N hh L).length ((fiL a l last M s n N hh L).flatMap glL) → Below w0.heap.size w0 W' → RR (.returned (.tuple #[v', .int .i64 0])) W') (v0 v1 v2 v5 v6 v7 v8 v9 v10 v11 v12 v13 v16 v17 v18 v19 v20 v21 v22 v23 v24 v25 v26 v27 v28 v29 v30 v31 v32 v33 v34 v35 v36 v37 v38 v39 v40 v41 v42 v43 v44 v45 v46 v47 v48 v49 v50 v51 v52 v53 v54 v55 v56 v57 v58 v59 v60 v61 v62 v63 v64 v65 v66 v67 v68 v69 v70 v71 v72 v73 v74 v75 v76 v77 v78 v79 v80 v81 v82 v83 v84 v85 v86 v87 v88 v89 v90 v91 v92 v93 v94 v95 v96 v97 v98 v99 v100 v101 v102 v103 v104 v105 v106 v107 v108 v109 v110 v111 v112 v113 v114 v115 v116 v117 v118 v119 v120 v121 v122 v123 v124 v125 v126 v127 v128 v129 v130 v131 v132 v133 v134 v135 v136 v137 v138 : Value) :
    rest18.wp Tryz.prog (bodyPost Tryz.prog Tryz.f8 RR) (fr8 v0 v1 v2 (.pointer (some ⟨Pb, 0, none⟩)) (.pointer (some ⟨Lb, 0, none⟩)) v5 v6 v7 v8 v9 v10 v11 v12 v13 v (.pointer (some ⟨r, 0, none⟩)) v16 v17 v18 v19 v20 v21 v22 v23 v24 v25 v26 v27 v28 v29 v30 v31 v32 v33 v34 v35 v36 v37 v38 v39 v40 v41 v42 v43 v44 v45 v46 v47 v48 v49 v50 v51 v52 v53 v54 v55 v56 v57 v58 v59 v60 v61 v62 v63 v64 v65 v66 v67 v68 v69 v70 v71 v72 v73 v74 v75 v76 v77 v78 v79 v80 v81 v82 v83 v84 v85 v86 v87 v88 v89 v90 v91 v92 v93 v94 v95 v96 v97 v98 v99 v100 v101 v102 v103 v104 v105 v106 v107 v108 v109 v110 v111 v112 v113 v114 v115 v116 v117 v118 v119 v120 v121 v122 v123 v124 v125 v126 v127 v128 v129 v130 v131 v132 v133 v134 v135 v136 v137 v138) W := by
  have hat := atN_rng hM (s := s) hlx.1 n hs
  have hrm : -50000000 ≤ (l.w - (atQ M s l.x n + hh - l.x)) ∧ (l.w - (atQ M s l.x n + hh - l.x)) ≤ 50000000 := by omega
  have hT : ∀ i, i < N → (tabM M s l.x n i).q = (M i).q ∧ (tabM M s l.x n i).f = (M i).f ∧ (tabM M s l.x n i).t = (M i).t ∧ (tabM M s l.x n i).k = (M i).k ∧ 0 ≤ (tabM M s l.x n i).w ∧ (tabM M s l.x n i).w ≤ 4095 := fun i hi => tabM_rng hM hi
  unfold fiL at hfin
  generalize hrme : (l.w - (atQ M s l.x n + hh - l.x)) = rm at *
  have hq0 : Hid (QS w0 a l Pb Lb base v L r g o N cap av (.slice a' n cap') l.x hh rm last (tabM M s l.x n) W.drew) := hQ0.drew
  -- what each way does
  have main : ∀ (al mv : Int) (FV : Value) (M4 : Nat → Ms), a.p.p2 = al → (0 ≤ mv ∧ mv ≤ 100000000) → (∀ i, i < N → (-64 ≤ (M4 i).q ∧ (M4 i).q ≤ 0) ∧ -200000000 ≤ (M4 i).w ∧ (M4 i).w ≤ 200000000) → alM a.p.p2 last (tabM M s l.x n) s n rm = M4 → mvI a.p.p2 rm = mv → (∀ W, (Instr.index 67 (.agg alC) (.int .i64 al)).run Tryz.prog W = .ok FV W) →
      (∀ ps, ∀ (fr : Act) (w : World) (K : Act → World → Prop) (Q : Exit → Act → World → Prop), fr.eval (.tmp 116) = FV → fr.eval (.tmp 15) = .pointer (some ⟨r, 0, none⟩) → QS w0 a l Pb Lb base v L r g o N cap av (.slice a' n cap') l.x hh rm last (tabM M s l.x n) w → (∀ w', QS w0 a l Pb Lb base v L r g o N cap av (.slice a' n cap') l.x hh rm last M4 w' → K (fr.put (some 117) (.int .i64 mv)) w') → (ops8_18_7 ps).wp Tryz.prog fr w K Q) →
      rest18.wp Tryz.prog (bodyPost Tryz.prog Tryz.f8 RR) (fr8 v0 v1 v2 (.pointer (some ⟨Pb, 0, none⟩)) (.pointer (some ⟨Lb, 0, none⟩)) v5 v6 v7 v8 v9 v10 v11 v12 v13 v (.pointer (some ⟨r, 0, none⟩)) v16 v17 v18 v19 v20 v21 v22 v23 v24 v25 v26 v27 v28 v29 v30 v31 v32 v33 v34 v35 v36 v37 v38 v39 v40 v41 v42 v43 v44 v45 v46 v47 v48 v49 v50 v51 v52 v53 v54 v55 v56 v57 v58 v59 v60 v61 v62 v63 v64 v65 v66 v67 v68 v69 v70 v71 v72 v73 v74 v75 v76 v77 v78 v79 v80 v81 v82 v83 v84 v85 v86 v87 v88 v89 v90 v91 v92 v93 v94 v95 v96 v97 v98 v99 v100 v101 v102 v103 v104 v105 v106 v107 v108 v109 v110 v111 v112 v113 v114 v115 v116 v117 v118 v119 v120 v121 v122 v123 v124 v125 v126 v127 v128 v129 v130 v131 v132 v133 v134 v135 v136 v137 v138) W := by
    intro al mv FV M4 h1 h2 h3 h4 h5 h6 h7
    rw [h4, h5] at hfin
    have hcell : ∀ {M : Nat → Ms} w, QS w0 a l Pb Lb base v L r g o N cap av (.slice a' n cap') l.x hh rm last M w → w.cell? ⟨r, 2, none⟩ = some (.int .i64 l.x) ∧ w.cell? ⟨Pb, 4, none⟩ = some (.int .i64 al) := fun w hw => ⟨hw.rw.c.2.2.1, by rw [← h1]; exact hw.ps.pb.c4⟩
    unfold rest18
    refine wp_seq_k ?_
    intro K hK
    refine pl_r18 _ (fun _ _ _ _ _ h => h) _ _ r Pb l.x mv al FV (QS w0 a l Pb Lb base v L r g o N cap av (.slice a' n cap') l.x hh rm last (tabM M s l.x n)) (QS w0 a l Pb Lb base v L r g o N cap av (.slice a' n cap') l.x hh rm last (tabM M s l.x n)) (QS w0 a l Pb Lb base v L r g o N cap av (.slice a' n cap') l.x hh rm last M4) W hq0.out h6 hlx.1 hlx.2 h2.1 h2.2 (fun w hw => hcell w hw) (fun w hw => hcell w hw) (fun w hw => ⟨(hcell w hw).1, (hcell w hw).2, hw.rw.z 2, by rw [← h1]; exact (hw.set2 hSep _).ps.pb.c4⟩) (fun w hw => (alignments_any w).mono (fun e w' h => ⟨h.1, hw.below h.2⟩)) (h7 _) ?_
    intro w' hw'
    have hw2 := hw'.set2 hSep (l.x + mv)
    refine hK _ _ ?_
    exact place_c a l w0 Pb Lb r g o N cap base M4 (l.x + mv) hh rm last _ v L av hav hcap hN hL h3 (by omega) _ hw2.ps hw2.rw hw2.rf hSep.vg hSep.vr RR hfin _ _ _ _ _ _ _ _ _ _ _ _ _ _ _ _ _ _ _ _ _ _ _ _ _ _ _ _ _ _ _ _ _ _ _ _ _ _ _ _ _ _ _ _ _ _ _ _ _ _ _ _ _ _ _ _ _ _ _ _ _ _ _ _ _ _ _ _ _ _ _ _ _ _ _ _ _ _ _ _ _ _ _ _ _ _ _ _ _ _ _ _ _ _ _ _ _ _ _ _ _ _ _ _ _ _ _ _ _ _ _ _ _ _ _ _ _ _ _ _ _ _ _ _ _ _ _ _ _ _ _ _ _ _ _
  have hpos := posI_rng rm (by omega)
  have hposr : posI rm ≤ 50000000 := by unfold posI; split <;> omega
  have hMT : ∀ i, i < N → (-64 ≤ (tabM M s l.x n i).q ∧ (tabM M s l.x n i).q ≤ 0) ∧ -200000000 ≤ (tabM M s l.x n i).w ∧ (tabM M s l.x n i).w ≤ 200000000 := fun i hi => by
    have e := hT i hi
    have hm := hM i hi
    have := hm.q0; have := hm.q1
    omega
  rcases (by omega : a.p.p2 = 0 ∨ a.p.p2 = 1 ∨ a.p.p2 = 2 ∨ a.p.p2 = 3) with e | e | e | e
  · exact main 0 0 (.func (.func 63) #[] #[]) (tabM M s l.x n) e (by omega) hMT (by unfold alM; rw [e]; rfl) (by unfold mvI; rw [e]; rfl) (fun W => by kernel_rfl) (fun ps => r18_call0 ps r 0 _ _ (fun w hw => (stay_any _ w).mono (fun e w' h => ⟨h.1, by rw [h.2]; exact hw⟩)))
  · exact main 1 0 (.func (.func 64) #[] #[]) (spF last (tabM M s l.x n) s n rm) e (by omega) (fun i hi => by
      have e1 := hT i hi
      have e2 := spF_rng (last := last) (M := tabM M s l.x n) hs hN (fun j hj => ⟨(hT j hj).2.2.2.2.1, (hT j hj).2.2.2.2.2⟩) hrm hi
      have hm := hM i hi
      have := hm.q0; have := hm.q1
      omega) (by unfold alM; rw [e]; rfl) (by unfold mvI; rw [e]; rfl) (fun W => by kernel_rfl) (fun ps => r18_call1 ps r 0 _ _ (fun w hw => (spread_any w r g o N s n cap' q (tabM M s l.x n) l.x hh rm last _ hq hs hN a' ha' hcap' (fun i hi => ⟨(hT (s + i) (by omega)).2.2.2.2.1, (hT (s + i) (by omega)).2.2.2.2.2⟩) (by omega) hw.rf hw.rw hSep.rg).mono (fun e w' h => ⟨h.1, hw.mass hSep h.2.1 h.2.2⟩)))
  · exact main 2 (posI rm) (.func (.func 65) #[] #[]) (tabM M s l.x n) e (by omega) hMT (by unfold alM; rw [e]; rfl) (by unfold mvI; rw [e]; rfl) (fun W => by kernel_rfl) (fun ps => r18_call2 ps r (posI rm) _ _ (fun w hw => (moveAll_any r _ _ _ _ rm last w hw.rw).mono (fun e w' h => ⟨h.1, by rw [h.2]; exact hw⟩)))
  · exact main 3 (posI rm / 2) (.func (.func 66) #[] #[]) (tabM M s l.x n) e (by omega) hMT (by unfold alM; rw [e]; rfl) (by unfold mvI; rw [e]; rfl) (fun W => by kernel_rfl) (fun ps => r18_call3 ps r (posI rm / 2) _ _ (fun w hw => (moveHalf_any r _ _ _ _ rm last (by omega) w hw.rw).mono (fun e w' h => ⟨h.1, by rw [h.2]; exact hw⟩)))
set_option maxRecDepth 100000 in
set_option maxHeartbeats 4000000 in
theorem place_e (a : Pa) (l : Ln) (w0 : World) (Pb Lb r g o N cap base s n cap' q : Nat) (M : Nat → Ms) (last : Bool) (v : Value) (L : List Gl) (av a' : Option Addr) (hav : 0 < N → av = some ⟨g, o, none⟩) (hcap : N ≤ cap) (hN : N ≤ 4096) (hL : L.length ≤ 1) (hq : Hid (q = o + s * 6)) (hs : s + n ≤ N) (ha' : 0 < n → a' = some ⟨g, q, none⟩) (hcap' : n ≤ cap') (hM : ∀ i, i < N → MOk (M i)) (hal : 0 ≤ a.p.p2 ∧ a.p.p2 ≤ 3) (hlx : 0 ≤ l.x ∧ l.x ≤ 4095) (hlw : 0 ≤ l.w ∧ l.w ≤ 4095) (hSep : Sep w0 r g N Pb Lb v) (hh : Int) (hhh : 0 ≤ hh ∧ hh ≤ 64) (W : World) (hQ0 : QS w0 a l Pb Lb base v L r g o N cap av (.slice a' n cap') l.x hh 0 last M W)
    (RR : Ending → World → Prop) (hfin : ∀ v' W', W'.ownsRow base 41 4 v' (fiL a l last M s n N hh L).length ((fiL a l last M s n N hh L).flatMap glL) → Below w0.heap.size w0 W' → RR (.returned (.tuple #[v', .int .i64 0])) W') (v0 v1 v2 v5 v6 v7 v8 v9 v10 v11 v12 v13 v16 v17 v18 v19 v20 v21 v22 v23 v24 v25 v26 v27 v28 v29 v30 v31 v32 v33 v34 v35 v36 v37 v38 v39 v40 v41 v42 v43 v44 v45 v46 v47 v48 v49 v50 v51 v52 v53 v54 v55 v56 v57 v58 v59 v60 v61 v62 v63 v64 v65 v66 v67 v68 v69 v70 v71 v72 v73 v74 v75 v76 v77 v78 v79 v80 v81 v82 v83 v84 v85 v86 v87 v88 v89 v90 v91 v92 v93 v94 v95 v96 v97 v98 v99 v100 v101 v102 v103 v104 v105 v106 v107 v108 v109 v110 v111 v112 v113 v114 v115 v116 v117 v118 v119 v120 v121 v122 v123 v124 v125 v126 v127 v128 v129 v130 v131 v132 v133 v134 v135 v136 v137 v138 : Value) :
    rest17.wp Tryz.prog (bodyPost Tryz.prog Tryz.f8 RR) (fr8 v0 v1 v2 (.pointer (some ⟨Pb, 0, none⟩)) (.pointer (some ⟨Lb, 0, none⟩)) v5 v6 v7 v8 v9 v10 v11 v12 v13 v (.pointer (some ⟨r, 0, none⟩)) v16 v17 v18 v19 v20 v21 v22 v23 v24 v25 v26 v27 v28 v29 v30 v31 v32 v33 v34 v35 v36 v37 v38 v39 v40 v41 v42 v43 v44 v45 v46 v47 v48 v49 v50 v51 v52 v53 v54 v55 v56 v57 v58 v59 v60 v61 v62 v63 v64 v65 v66 v67 v68 v69 v70 v71 v72 v73 v74 v75 v76 v77 v78 v79 v80 v81 v82 v83 v84 v85 v86 v87 v88 v89 v90 v91 v92 v93 v94 v95 v96 v97 v98 v99 v100 v101 v102 v103 v104 v105 v106 v107 v108 v109 v110 v111 v112 v113 v114 v115 v116 v117 v118 v119 v120 v121 v122 v123 v124 v125 v126 v127 v128 v129 v130 v131 v132 v133 v134 v135 v136 v137 v138) W := by
  have hat := atN_rng hM (s := s) hlx.1 n hs
  have hq0 := hQ0.drew
  unfold rest17
  refine wp_seq_k ?_
  intro K hK
  refine pl_r17 _ (fun _ _ _ _ _ h => h) _ _ Lb r l (atQ M s l.x n + hh - l.x) (QS w0 a l Pb Lb base v L r g o N cap av (.slice a' n cap') l.x hh 0 last (tabM M s l.x n)) W hq0.ps.lb hSep.rL (fun w1 h => h.turns (Turns.setCell (X := fun k => k = r) w1 (p := ⟨r, 4, none⟩) rfl _) (fun e => hSep.rL e.symm)) hlw.1 hlw.2 (by omega) (by omega) ((lnat_any _ r g o N s n cap' q M l.x hh 0 last _ hq hs hN a' ha' hcap' hM hlx (by omega) hq0.rf hq0.rw hSep.rg).mono (fun e w' h => ?_)) ?_
  · have h1 := hq0.mass hSep h.2.1 h.2.2
    exact ⟨h.1, h1, h1.ps.lb, ⟨_, h1.rw.c.2.2.2.2.1⟩, h1.rw.z 4⟩
  · intro w' hw'
    refine hK _ _ ?_
    exact place_d a l w0 Pb Lb r g o N cap base s n cap' q M last v L av a' hav hcap hN hL hq hs ha' hcap' hM hal hlx hlw hSep hh hhh _ (hw'.set4 hSep _) RR hfin _ _ _ _ _ _ _ _ _ _ _ _ _ _ _ _ _ _ _ _ _ _ _ _ _ _ _ _ _ _ _ _ _ _ _ _ _ _ _ _ _ _ _ _ _ _ _ _ _ _ _ _ _ _ _ _ _ _ _ _ _ _ _ _ _ _ _ _ _ _ _ _ _ _ _ _ _ _ _ _ _ _ _ _ _ _ _ _ _ _ _ _ _ _ _ _ _ _ _ _ _ _ _ _ _ _ _ _ _ _ _ _ _ _ _ _ _ _ _ _ _ _ _ _ _ _ _ _ _ _ _ _ _ _ _
/-- How wide the line's hyphen is. -/
def hyI (a : Pa) (l : Ln) (M : Nat → Ms) (N : Nat) : Int := if l.y = true then shyW (hsI M a.p.p0 N) else 0
theorem hyW_any (s : Int) : 0 ≤ shyW s ∧ shyW s ≤ 64 := wVal_rng _ _ (by decide)
set_option maxRecDepth 100000 in
set_option maxHeartbeats 4000000 in
theorem place_b (a : Pa) (l : Ln) (w0 : World) (Pb Lb r g o N cap base s n cap' q : Nat) (M : Nat → Ms) (last : Bool) (v : Value) (L : List Gl) (av a' : Option Addr) (hav : 0 < N → av = some ⟨g, o, none⟩) (hcap : N ≤ cap) (hN : N ≤ 4096) (hL : L.length ≤ 1) (hq : Hid (q = o + s * 6)) (hs : s + n ≤ N) (ha' : 0 < n → a' = some ⟨g, q, none⟩) (hcap' : n ≤ cap') (hM : ∀ i, i < N → MOk (M i)) (hal : 0 ≤ a.p.p2 ∧ a.p.p2 ≤ 3) (hlx : 0 ≤ l.x ∧ l.x ≤ 4095) (hlw : 0 ≤ l.w ∧ l.w ≤ 4095) (hSep : Sep w0 r g N Pb Lb v) (W : World) (hQ0 : QS w0 a l Pb Lb base v L r g o N cap av (.slice a' n cap') l.x 0 0 last M W)
    (RR : Ending → World → Prop) (hfin : ∀ v' W', W'.ownsRow base 41 4 v' (fiL a l last M s n N (hyI a l M N) L).length ((fiL a l last M s n N (hyI a l M N) L).flatMap glL) → Below w0.heap.size w0 W' → RR (.returned (.tuple #[v', .int .i64 0])) W') (v0 v1 v2 v5 v6 v7 v8 v9 v10 v11 v12 v13 v16 v17 v18 v19 v20 v21 v22 v23 v24 v25 v26 v27 v28 v29 v30 v31 v32 v33 v34 v35 v36 v37 v38 v39 v40 v41 v42 v43 v44 v45 v46 v47 v48 v49 v50 v51 v52 v53 v54 v55 v56 v57 v58 v59 v60 v61 v62 v63 v64 v65 v66 v67 v68 v69 v70 v71 v72 v73 v74 v75 v76 v77 v78 v79 v80 v81 v82 v83 v84 v85 v86 v87 v88 v89 v90 v91 v92 v93 v94 v95 v96 v97 v98 v99 v100 v101 v102 v103 v104 v105 v106 v107 v108 v109 v110 v111 v112 v113 v114 v115 v116 v117 v118 v119 v120 v121 v122 v123 v124 v125 v126 v127 v128 v129 v130 v131 v132 v133 v134 v135 v136 v137 v138 : Value) :
    rest15.wp Tryz.prog (bodyPost Tryz.prog Tryz.f8 RR) (fr8 v0 v1 v2 (.pointer (some ⟨Pb, 0, none⟩)) (.pointer (some ⟨Lb, 0, none⟩)) v5 v6 v7 v8 v9 v10 v11 v12 v13 v (.pointer (some ⟨r, 0, none⟩)) v16 v17 v18 v19 v20 v21 v22 v23 v24 v25 v26 v27 v28 v29 v30 v31 v32 v33 v34 v35 v36 v37 v38 v39 v40 v41 v42 v43 v44 v45 v46 v47 v48 v49 v50 v51 v52 v53 v54 v55 v56 v57 v58 v59 v60 v61 v62 v63 v64 v65 v66 v67 v68 v69 v70 v71 v72 v73 v74 v75 v76 v77 v78 v79 v80 v81 v82 v83 v84 v85 v86 v87 v88 v89 v90 v91 v92 v93 v94 v95 v96 v97 v98 v99 v100 v101 v102 v103 v104 v105 v106 v107 v108 v109 v110 v111 v112 v113 v114 v115 v116 v117 v118 v119 v120 v121 v122 v123 v124 v125 v126 v127 v128 v129 v130 v131 v132 v133 v134 v135 v136 v137 v138) W := by
  have hlb := hQ0.ps.lb.c5
  cases hly : l.y
  · have e0 : hyI a l M N = 0 := by unfold hyI; rw [hly]; rfl
    rw [e0] at hfin
    rw [hly] at hlb
    have hend : Hid (∀ v0 v1 v2 v5 v6 v7 v8 v9 v10 v11 v12 v13 v16 v17 v18 v19 v20 v21 v22 v23 v24 v25 v26 v27 v28 v29 v30 v31 v32 v33 v34 v35 v36 v37 v38 v39 v40 v41 v42 v43 v44 v45 v46 v47 v48 v49 v50 v51 v52 v53 v54 v55 v56 v57 v58 v59 v60 v61 v62 v63 v64 v65 v66 v67 v68 v69 v70 v71 v72 v73 v74 v75 v76 v77 v78 v79 v80 v81 v82 v83 v84 v85 v86 v87 v88 v89 v90 v91 v92 v93 v94 v95 v96 v97 v98 v99 v100 v101 v102 v103 v104 v105 v106 v107 v108 v109 v110 v111 v112 v113 v114 v115 v116 v117 v118 v119 v120 v121 v122 v123 v124 v125 v126 v127 v128 v129 v130 v131 v132 v133 v134 v135 v136 v137 v138 : Value, rest17.wp Tryz.prog (bodyPost Tryz.prog Tryz.f8 RR) (fr8 v0 v1 v2 (.pointer (some ⟨Pb, 0, none⟩)) (.pointer (some ⟨Lb, 0, none⟩)) v5 v6 v7 v8 v9 v10 v11 v12 v13 v (.pointer (some ⟨r, 0, none⟩)) v16 v17 v18 v19 v20 v21 v22 v23 v24 v25 v26 v27 v28 v29 v30 v31 v32 v33 v34 v35 v36 v37 v38 v39 v40 v41 v42 v43 v44 v45 v46 v47 v48 v49 v50 v51 v52 v53 v54 v55 v56 v57 v58 v59 v60 v61 v62 v63 v64 v65 v66 v67 v68 v69 v70 v71 v72 v73 v74 v75 v76 v77 v78 v79 v80 v81 v82 v83 v84 v85 v86 v87 v88 v89 v90 v91 v92 v93 v94 v95 v96 v97 v98 v99 v100 v101 v102 v103 v104 v105 v106 v107 v108 v109 v110 v111 v112 v113 v114 v115 v116 v117 v118 v119 v120 v121 v122 v123 v124 v125 v126 v127 v128 v129 v130 v131 v132 v133 v134 v135 v136 v137 v138) W) := fun v0 v1 v2 v5 v6 v7 v8 v9 v10 v11 v12 v13 v16 v17 v18 v19 v20 v21 v22 v23 v24 v25 v26 v27 v28 v29 v30 v31 v32 v33 v34 v35 v36 v37 v38 v39 v40 v41 v42 v43 v44 v45 v46 v47 v48 v49 v50 v51 v52 v53 v54 v55 v56 v57 v58 v59 v60 v61 v62 v63 v64 v65 v66 v67 v68 v69 v70 v71 v72 v73 v74 v75 v76 v77 v78 v79 v80 v81 v82 v83 v84 v85 v86 v87 v88 v89 v90 v91 v92 v93 v94 v95 v96 v97 v98 v99 v100 v101 v102 v103 v104 v105 v106 v107 v108 v109 v110 v111 v112 v113 v114 v115 v116 v117 v118 v119 v120 v121 v122 v123 v124 v125 v126 v127 v128 v129 v130 v131 v132 v133 v134 v135 v136 v137 v138 => place_e a l w0 Pb Lb r g o N cap base s n cap' q M last v L av a' hav hcap hN hL hq hs ha' hcap' hM hal hlx hlw hSep 0 (by omega) W hQ0 RR hfin v0 v1 v2 v5 v6 v7 v8 v9 v10 v11 v12 v13 v16 v17 v18 v19 v20 v21 v22 v23 v24 v25 v26 v27 v28 v29 v30 v31 v32 v33 v34 v35 v36 v37 v38 v39 v40 v41 v42 v43 v44 v45 v46 v47 v48 v49 v50 v51 v52 v53 v54 v55 v56 v57 v58 v59 v60 v61 v62 v63 v64 v65 v66 v67 v68 v69 v70 v71 v72 v73 v74 v75 v76 v77 v78 v79 v80 v81 v82 v83 v84 v85 v86 v87 v88 v89 v90 v91 v92 v93 v94 v95 v96 v97 v98 v99 v100 v101 v102 v103 v104 v105 v106 v107 v108 v109 v110 v111 v112 v113 v114 v115 v116 v117 v118 v119 v120 v121 v122 v123 v124 v125 v126 v127 v128 v129 v130 v131 v132 v133 v134 v135 v136 v137 v138
    clear hQ0 hfin hM hav ha' hSep hly e0
    unfold rest15 fr8
    unfold fr8 at hend
    go_wp2_with fail
    exact hend.out _ _ _ _ _ _ _ _ _ _ _ _ _ _ _ _ _ _ _ _ _ _ _ _ _ _ _ _ _ _ _ _ _ _ _ _ _ _ _ _ _ _ _ _ _ _ _ _ _ _ _ _ _ _ _ _ _ _ _ _ _ _ _ _ _ _ _ _ _ _ _ _ _ _ _ _ _ _ _ _ _ _ _ _ _ _ _ _ _ _ _ _ _ _ _ _ _ _ _ _ _ _ _ _ _ _ _ _ _ _ _ _ _ _ _ _ _ _ _ _ _ _ _ _ _ _ _ _ _ _ _ _ _ _ _
  · have e0 : hyI a l M N = shyW (hsI M a.p.p0 N) := by unfold hyI; rw [hly]; rfl
    rw [e0] at hfin
    rw [hly] at hlb
    have hpr := hQ0.ps.pb
    have hsz : Hid (Calls Tryz.prog 29 #[.pointer (some ⟨r, 0, none⟩), .agg (paC a)] W fun e w' => e = .returned (.int .i64 (hsI M a.p.p0 N)) ∧ Below W.heap.size W w') := hyphenSize_any a W r g o N cap M av hav hcap hN _ _ _ _ last hQ0.rf hQ0.rw
    have hwd : Hid (∀ w', Below W.heap.size W w' → Calls Tryz.prog 28 #[.int .i64 (hsI M a.p.p0 N)] w' fun e w'' => e = .returned (.int .i64 (shyW (hsI M a.p.p0 N))) ∧ w'' = w' ∧ w'.cell? ⟨r, 3, none⟩ = some (.int .i64 0) ∧ w'.frozen? ⟨r, 3, none⟩ = false ∧ Hid (∀ v0 v1 v2 v5 v6 v7 v8 v9 v10 v11 v12 v13 v16 v17 v18 v19 v20 v21 v22 v23 v24 v25 v26 v27 v28 v29 v30 v31 v32 v33 v34 v35 v36 v37 v38 v39 v40 v41 v42 v43 v44 v45 v46 v47 v48 v49 v50 v51 v52 v53 v54 v55 v56 v57 v58 v59 v60 v61 v62 v63 v64 v65 v66 v67 v68 v69 v70 v71 v72 v73 v74 v75 v76 v77 v78 v79 v80 v81 v82 v83 v84 v85 v86 v87 v88 v89 v90 v91 v92 v93 v94 v95 v96 v97 v98 v99 v100 v101 v102 v103 v104 v105 v106 v107 v108 v109 v110 v111 v112 v113 v114 v115 v116 v117 v118 v119 v120 v121 v122 v123 v124 v125 v126 v127 v128 v129 v130 v131 v132 v133 v134 v135 v136 v137 v138 : Value, rest17.wp Tryz.prog (bodyPost Tryz.prog Tryz.f8 RR) (fr8 v0 v1 v2 (.pointer (some ⟨Pb, 0, none⟩)) (.pointer (some ⟨Lb, 0, none⟩)) v5 v6 v7 v8 v9 v10 v11 v12 v13 v (.pointer (some ⟨r, 0, none⟩)) v16 v17 v18 v19 v20 v21 v22 v23 v24 v25 v26 v27 v28 v29 v30 v31 v32 v33 v34 v35 v36 v37 v38 v39 v40 v41 v42 v43 v44 v45 v46 v47 v48 v49 v50 v51 v52 v53 v54 v55 v56 v57 v58 v59 v60 v61 v62 v63 v64 v65 v66 v67 v68 v69 v70 v71 v72 v73 v74 v75 v76 v77 v78 v79 v80 v81 v82 v83 v84 v85 v86 v87 v88 v89 v90 v91 v92 v93 v94 v95 v96 v97 v98 v99 v100 v101 v102 v103 v104 v105 v106 v107 v108 v109 v110 v111 v112 v113 v114 v115 v116 v117 v118 v119 v120 v121 v122 v123 v124 v125 v126 v127 v128 v129 v130 v131 v132 v133 v134 v135 v136 v137 v138) (w'.setCell ⟨r, 3, none⟩ (.int .i64 (shyW (hsI M a.p.p0 N)))))) := fun w' hb => by
      have hq1 := hQ0.below hb
      refine (shyphenWidth_any (hsI M a.p.p0 N) w').mono ?_
      rintro e w'' ⟨rfl, rfl⟩
      exact ⟨rfl, rfl, hq1.rw.c.2.2.2.1, hq1.rw.z 3, fun v0 v1 v2 v5 v6 v7 v8 v9 v10 v11 v12 v13 v16 v17 v18 v19 v20 v21 v22 v23 v24 v25 v26 v27 v28 v29 v30 v31 v32 v33 v34 v35 v36 v37 v38 v39 v40 v41 v42 v43 v44 v45 v46 v47 v48 v49 v50 v51 v52 v53 v54 v55 v56 v57 v58 v59 v60 v61 v62 v63 v64 v65 v66 v67 v68 v69 v70 v71 v72 v73 v74 v75 v76 v77 v78 v79 v80 v81 v82 v83 v84 v85 v86 v87 v88 v89 v90 v91 v92 v93 v94 v95 v96 v97 v98 v99 v100 v101 v102 v103 v104 v105 v106 v107 v108 v109 v110 v111 v112 v113 v114 v115 v116 v117 v118 v119 v120 v121 v122 v123 v124 v125 v126 v127 v128 v129 v130 v131 v132 v133 v134 v135 v136 v137 v138 => place_e a l w0 Pb Lb r g o N cap base s n cap' q M last v L av a' hav hcap hN hL hq hs ha' hcap' hM hal hlx hlw hSep (shyW (hsI M a.p.p0 N)) (hyW_any _) _ (hq1.set3 hSep _) RR hfin v0 v1 v2 v5 v6 v7 v8 v9 v10 v11 v12 v13 v16 v17 v18 v19 v20 v21 v22 v23 v24 v25 v26 v27 v28 v29 v30 v31 v32 v33 v34 v35 v36 v37 v38 v39 v40 v41 v42 v43 v44 v45 v46 v47 v48 v49 v50 v51 v52 v53 v54 v55 v56 v57 v58 v59 v60 v61 v62 v63 v64 v65 v66 v67 v68 v69 v70 v71 v72 v73 v74 v75 v76 v77 v78 v79 v80 v81 v82 v83 v84 v85 v86 v87 v88 v89 v90 v91 v92 v93 v94 v95 v96 v97 v98 v99 v100 v101 v102 v103 v104 v105 v106 v107 v108 v109 v110 v111 v112 v113 v114 v115 v116 v117 v118 v119 v120 v121 v122 v123 v124 v125 v126 v127 v128 v129 v130 v131 v132 v133 v134 v135 v136 v137 v138⟩
    clear hQ0 hfin hM hav ha' hSep hly e0
    generalize shyW (hsI M a.p.p0 N) = hv at *
    generalize hsI M a.p.p0 N = sv at *
    unfold rest15 fr8
    unfold fr8 at hwd
    go_wp2_with (first | (refine wpList_load_row rfl 27 _ rfl Pb rfl 27 _ (0, 0) _ hpr.row Tryz.underlying27 rfl (info34 a) ?_) | (go_at_call 29; refine hsz.out.mono ?_; rintro e W2 ⟨rfl, hb2⟩; have hwd2 := hwd.out W2 hb2; clear hwd hsz) | (go_at_call 28; refine hwd2.mono ?_; rintro e W3 ⟨rfl, rfl, c3, z3, hend⟩; clear hwd2))
    exact hend.out _ _ _ _ _ _ _ _ _ _ _ _ _ _ _ _ _ _ _ _ _ _ _ _ _ _ _ _ _ _ _ _ _ _ _ _ _ _ _ _ _ _ _ _ _ _ _ _ _ _ _ _ _ _ _ _ _ _ _ _ _ _ _ _ _ _ _ _ _ _ _ _ _ _ _ _ _ _ _ _ _ _ _ _ _ _ _ _ _ _ _ _ _ _ _ _ _ _ _ _ _ _ _ _ _ _ _ _ _ _ _ _ _ _ _ _ _ _ _ _ _ _ _ _ _ _ _ _ _ _ _ _ _ _ _
end Go.Proofs.YtbdpghjegachaaaGreatDoor
