/-
  What is proved here: what glyphs of set answers.
  What is proved here: what stands while a line is set; the end of Place.
-/
import Derived.Test.YtbdpghjegachaaaGreatDoorG32
import Derived.Test.YtbdpghjegachaaaGreatDoorG33
namespace Go.Proofs.YtbdpghjegachaaaGreatDoor
open Go.RowKit Go.Shelf

/-- Where the line has come to behind k masses. -/
def psN (M : Nat → Ms) (x : Int) : Nat → Int
  | 0 => x
  | k + 1 => psN M x k + (M k).q + (M k).w
/-- The glyphs of k masses. -/
def glS (M : Nat → Ms) (x : Int) : Nat → List Gl
  | 0 => []
  | k + 1 => glS M x k ++ [⟨(M k).f, (M k).t, psN M x k + (M k).q, (M k).w⟩]
theorem glS_len (M : Nat → Ms) (x : Int) : ∀ k, (glS M x k).length = k
  | 0 => rfl
  | k + 1 => by unfold glS; rw [List.length_append, glS_len M x k]; rfl
theorem psN_rng {M : Nat → Ms} {N : Nat} {x : Int} (hx : -1000000000 ≤ x ∧ x ≤ 1000000000) (hM : ∀ i, i < N → (-64 ≤ (M i).q ∧ (M i).q ≤ 0) ∧ -200000000 ≤ (M i).w ∧ (M i).w ≤ 200000000) : ∀ k, k ≤ N → -1000000000 - 201000000 * (k : Int) ≤ psN M x k ∧ psN M x k ≤ 1000000000 + 201000000 * (k : Int)
  | 0, _ => by show _ ≤ x ∧ x ≤ _; omega
  | k + 1, h => by
    have ih := psN_rng hx hM k (by omega)
    have := hM k (by omega)
    show _ ≤ psN M x k + (M k).q + (M k).w ∧ psN M x k + (M k).q + (M k).w ≤ _
    omega
/-- What stands while glyphs are put behind others. -/
structure GyS (w : World) (v0 : Value) (c base : Nat) (W : World) (y : Int) (v : Value) (L : List Gl) : Prop where
  t : Turns (fun k => v0.ownBlock = some k) w W
  b : Boxed W c 3 (.int .i64 y)
  row : W.ownsRow base 41 4 v L.length (L.flatMap glL)
  own : v.ownBlock = v0.ownBlock ∨ ∀ g, v.ownBlock = some g → c < g
theorem GyS.below {w : World} {v0 : Value} {c base : Nat} {W W' : World} {y : Int} {v : Value} {L : List Gl} (h : GyS w v0 c base W y v L) (hb : Below W.heap.size W W') : GyS w v0 c base W' y v L :=
  ⟨h.t.trans ((Turns.of_below hb).mono fun _ k => k.elim), (hb.block c (Boxed.lt h.b)).trans h.b, ownsRow_below h.row hb, h.own⟩
theorem GyS.drew {w : World} {v0 : Value} {c base : Nat} {W : World} {y : Int} {v : Value} {L : List Gl} (h : GyS w v0 c base W y v L) : GyS w v0 c base W.drew y v L := h.below ⟨rfl, rfl, rfl, Nat.le_refl _, fun _ _ => rfl⟩
theorem GyS.not {w : World} {v0 : Value} {c base : Nat} {W : World} {y : Int} {v : Value} {L : List Gl} (h : GyS w v0 c base W y v L) (hc : w.heap.size = c) (h0 : ∀ k, v0.ownBlock = some k → k < w.heap.size) : ¬ v.ownBlock = some c := fun e => by
  rcases h.own with h1 | h1
  · rw [h1] at e; have := h0 c e; omega
  · have := h1 c e; omega
theorem GyS.step {w : World} {v0 : Value} {c base : Nat} {W : World} {y : Int} {v : Value} {L : List Gl} (h : GyS w v0 c base W y v L) (hc : w.heap.size = c) (h0 : ∀ k, v0.ownBlock = some k → k < w.heap.size) {k d : Int} (hy : -1000000000000 ≤ y ∧ y ≤ 1000000000000) (hk : -1000000000000 ≤ k ∧ k ≤ 1000000000000) (hd : -1000000000000 ≤ d ∧ d ≤ 1000000000000) :
    Calls Tryz.prog 103 #[.int .i64 k, .int .i64 d, .pointer (some ⟨c, 0, none⟩)] W fun e w' => e = .returned (.int .i64 (y + k)) ∧ GyS w v0 c base w' (y + k + d) v L ∧ Turns (fun j => j = c) W w' := by
  refine (step_any c y k d hy hk hd W h.b).mono ?_
  rintro e w' ⟨rfl, rfl⟩
  have ht := Turns.setCell (X := fun k => k = c) W (p := ⟨c, 0, none⟩) rfl (.int .i64 (y + k + d))
  have hn := h.not hc h0
  exact ⟨rfl, ⟨h.t.trans' ht (fun i hi => .inr (by omega)), Boxed.set _ h.b, ownsRow_turns h.row ht (fun g hg e => hn (e ▸ hg)), h.own⟩, ht⟩
theorem GyS.app {w : World} {v0 : Value} {c base : Nat} {W W' : World} {y : Int} {v v' : Value} {L L' : List Gl} (h : GyS w v0 c base W y v L) (hc : w.heap.size = c) (h0 : ∀ k, v0.ownBlock = some k → k < w.heap.size) (hr : W'.ownsRow base 41 4 v' L'.length (L'.flatMap glL)) (ht : Turns (fun g => v.ownBlock = some g) W W') (hw : v'.ownBlock = v.ownBlock ∨ ∀ g, v'.ownBlock = some g → W.heap.size ≤ g) : GyS w v0 c base W' y v' L' := by
  have hlt := Boxed.lt h.b
  refine ⟨h.t.trans' ht (fun i hi => ?_), (ht.block c hlt (h.not hc h0)).trans h.b, hr, ?_⟩
  · rcases h.own with h1 | h1
    · exact .inl (h1 ▸ hi)
    · have := h1 i hi; exact .inr (by omega)
  · rcases hw with h1 | h1
    · rw [h1]; exact h.own
    · exact .inr fun g hg => by have := h1 g hg; omega
/-- What glyphs answers. -/
def GyEnd (w : World) (base : Nat) (v0 : Value) (L0 : List Gl) (M : Nat → Ms) (x : Int) (N : Nat) (e : Ending) (w' : World) : Prop := ∃ v, e = .returned (.tuple #[v, .int .i64 (psN M x N)]) ∧ w'.ownsRow base 41 4 v (L0 ++ glS M x N).length ((L0 ++ glS M x N).flatMap glL) ∧ Turns (fun k => v0.ownBlock = some k) w w' ∧ (v.ownBlock = v0.ownBlock ∨ ∀ g, v.ownBlock = some g → w.heap.size ≤ g)
set_option maxRecDepth 100000 in
set_option maxHeartbeats 4000000 in
theorem glyphs_any (w : World) (r g o N cap : Nat) (M : Nat → Ms) (x hy rm : Int) (l : Bool) (vb : Value) (hN : N ≤ 4096) (a : Option Addr) (ha : 0 < N → a = some ⟨g, o, none⟩) (hcap : N ≤ cap) (hM : ∀ i, i < N → (-64 ≤ (M i).q ∧ (M i).q ≤ 0) ∧ -200000000 ≤ (M i).w ∧ (M i).w ≤ 200000000) (hx : -1000000000 ≤ x ∧ x ≤ 1000000000) (hR : RF w g o N M) (hW : RW w r (.slice a N cap) vb x hy rm l)
    (base : Nat) (v0 : Value) (L0 : List Gl) (hL0 : L0.length ≤ 1) (hv0 : w.ownsRow base 41 4 v0 L0.length (L0.flatMap glL)) (hbase : base ≤ w.heap.size) (hvg : 0 < N → v0.ownBlock ≠ some g) (hvr : v0.ownBlock ≠ some r) :
    Calls Tryz.prog 32 #[.pointer (some ⟨r, 0, none⟩), v0] w (GyEnd w base v0 L0 M x N) := by
  have hN' : (N : Int) ≤ 4096 := by omega
  have hw := walk_any x w
  obtain ⟨c0, _, c2, _, _, _⟩ := hW.c
  have hB1 := (Below.refl w.heap.size w).alloc (Nat.le_refl _) (.cells #[.int .i64 x] 3)
  have hown : Hid (∀ k, v0.ownBlock = some k → k < w.heap.size) := fun k hk => (hv0.lt k hk).2
  have hI0 : Hid (GyS w v0 w.heap.size base (w.alloc (.cells #[.int .i64 x] 3)) (psN M x 0) v0 (L0 ++ glS M x 0)) := ⟨(Turns.of_below hB1).mono fun _ k => k.elim, Boxed.new _ _ _, by rw [show L0 ++ glS M x 0 = L0 from List.append_nil _]; exact ownsRow_below hv0 hB1, .inl rfl⟩
  have hrow : Hid (∀ W, Turns (fun k => v0.ownBlock = some k) w W → W.cell? ⟨r, 0, none⟩ = some (.slice a N cap)) := fun W ht => (hW.turns ht hvr).c.1
  have hcl : Hid (∀ W k, k < N → Turns (fun k => v0.ownBlock = some k) w W → W.cell? ⟨g, o + k * 6, none⟩ = some (.int .i64 (M k).f) ∧ W.cell? ⟨g, o + k * 6 + 1, none⟩ = some (.int .i64 (M k).t) ∧ W.cell? ⟨g, o + k * 6 + 2, none⟩ = some (.int .i64 (M k).k) ∧ W.cell? ⟨g, o + k * 6 + 3, none⟩ = some (.int .i64 (M k).s) ∧ W.cell? ⟨g, o + k * 6 + 4, none⟩ = some (.int .i64 (M k).w) ∧ W.cell? ⟨g, o + k * 6 + 5, none⟩ = some (.int .i64 (M k).q)) := fun W k hk ht => (hR.turns ht (fun h => hvg h)).c hk
  have hpr : Hid (∀ k, k ≤ N → -1000000000000 ≤ psN M x k ∧ psN M x k ≤ 1000000000000) := fun k hk => by
    have := psN_rng hx hM k hk
    omega
  have hMh : Hid (∀ i, i < N → (-64 ≤ (M i).q ∧ (M i).q ≤ 0) ∧ -200000000 ≤ (M i).w ∧ (M i).w ≤ 200000000) := hM
  have c0' := hrow.out _ hI0.out.t
  have hbs : Hid (base ≤ w.heap.size) := hbase
  clear hW hR hM hB1 hbase hv0
  generalize hc0 : w.heap.size = c at *
  replace hc0 : Hid (w.heap.size = c) := hc0
  generalize hw1 : w.alloc (.cells #[.int .i64 x] 3) = w1 at *
  go_enter Tryz.func32, Tryz.ntmps32
  go_wp2_with (go_at_call 61; refine hw.mono ?_; rintro e w' ⟨rfl, rfl⟩; unfold wkV)
  go_loopw [1, 19] (fun v i wr => ∃ k : Nat, k ≤ N ∧ i = .int .i64 k ∧ Hid (GyS w v0 c base wr (psN M x k) v (L0 ++ glS M x k))) (fun _ i _ => N - (intOf i).toNat)
  case atStart => exact ⟨0, by omega, rfl, hI0⟩
  case round =>
    obtain ⟨k, hk, rfl, hI⟩ := hrel
    obtain ⟨va, vc, rfl, hvcc⟩ := row_slice glL_len hI.out.row
    obtain ⟨y0, y1⟩ := hpr.out k hk
    by_cases hlt : k < N
    · obtain rfl := ha (by omega)
      have hlt' : (k : Int) < N := by omega
      obtain ⟨m0, m1, m2, m3, m4, m5⟩ := hcl.out wr k hlt hI.out.t
      obtain ⟨⟨q0, q1⟩, u0, u1⟩ := hMh.out k hlt
      have hIb : Hid (GyS w v0 c base (World.drew (wr.alloc (.cells (msL (M k)).toArray 53))) (psN M x k) (.slice va (L0 ++ glS M x k).length vc) (L0 ++ glS M x k)) := (hI.out.below ((Below.refl wr.heap.size wr).alloc (Nat.le_refl _) _)).drew
      have hMB : Hid (MB5 wr.heap.size (M k) (World.drew (wr.alloc (.cells (msL (M k)).toArray 53)))) := ⟨World.alloc_heap_new wr _⟩
      have hcw : Hid (c < wr.heap.size) := Boxed.lt hI.out.b
      have hcall : Hid (Calls Tryz.prog 103 #[.int .i64 (M k).q, .int .i64 (M k).w, .pointer (some ⟨c, 0, none⟩)] (World.drew (wr.alloc (.cells (msL (M k)).toArray 53))) fun e w' => e = .returned (.int .i64 (psN M x k + (M k).q)) ∧ GyS w v0 c base w' (psN M x (k + 1)) (.slice va (L0 ++ glS M x k).length vc) (L0 ++ glS M x k) ∧ MB5 wr.heap.size (M k) w') := by
        refine (hIb.out.step hc0.out (by rw [hc0.out]; exact hown.out) ⟨y0, y1⟩ (by omega) (by omega)).mono ?_
        rintro e w' ⟨rfl, h1, h2⟩
        exact ⟨rfl, h1, hMB.out.turns h2 (by have := hcw.out; omega)⟩
      have hrw : Hid (∀ w1, GyS w v0 c base w1 (psN M x (k + 1)) (.slice va (L0 ++ glS M x k).length vc) (L0 ++ glS M x k) → w1.ownsRow base 41 4 (.slice va (L0 ++ glS M x k).length vc) (L0 ++ glS M x k).length ((L0 ++ glS M x k).flatMap glL) ∧ base ≤ w1.heap.size ∧ ¬ (Value.slice va (L0 ++ glS M x k).length vc).ownBlock = some wr.heap.size) := fun w1 h => ⟨h.row, by have := hbs.out; have := h.t.size; have := hc0.out; omega, fun e => by have := (hI.out.row.lt _ e).2; omega⟩
      have hll : (L0 ++ glS M x k).length ≤ 9000 := by rw [List.length_append, glS_len]; omega
      have hnx : Hid (∀ w1 v' w2, GyS w v0 c base w1 (psN M x (k + 1)) (.slice va (L0 ++ glS M x k).length vc) (L0 ++ glS M x k) → w2.ownsRow base 41 4 v' ((L0 ++ glS M x k) ++ [(⟨(M k).f, (M k).t, psN M x k + (M k).q, (M k).w⟩ : Gl)]).length (((L0 ++ glS M x k) ++ [(⟨(M k).f, (M k).t, psN M x k + (M k).q, (M k).w⟩ : Gl)]).flatMap glL) → Turns (fun g => (Value.slice va (L0 ++ glS M x k).length vc).ownBlock = some g) w1 w2 → (v'.ownBlock = (Value.slice va (L0 ++ glS M x k).length vc).ownBlock ∨ ∀ g, v'.ownBlock = some g → w1.heap.size ≤ g) → GyS w v0 c base w2 (psN M x (k + 1)) v' (L0 ++ glS M x (k + 1))) := fun w1 v' w2 h1 h2 h3 h4 => by
        have := h1.app hc0.out (by rw [hc0.out]; exact hown.out) h2 h3 h4
        rw [List.append_assoc] at this
        exact this
      clear hI
      generalize (L0 ++ glS M x k) = L at *
      generalize hmm : M k = mm at *
      replace hmm : Hid (M k = mm) := hmm
      obtain ⟨x0, x1, x2, x3, x4, x5⟩ := mm
      have e0 : (msL (⟨x0, x1, x2, x3, x4, x5⟩ : Ms)).toArray = #[.int .i64 x0, .int .i64 x1, .int .i64 x2, .int .i64 x3, .int .i64 x4, .int .i64 x5] := rfl
      rw [e0] at hcall hMB hIb
      clear e0
      go_wp2_with fail
      generalize wr.alloc (.cells #[.int .i64 x0, .int .i64 x1, .int .i64 x2, .int .i64 x3, .int .i64 x4, .int .i64 x5] 53) = w3 at *
      refine gl_r5 _ (fun _ _ _ _ _ h => h) _ _ c wr.heap.size ⟨x0, x1, x2, x3, x4, x5⟩ (psN M x k) va L.length vc base L (fun w1 => GyS w v0 c base w1 (psN M x (k + 1)) (.slice va L.length vc) L) w3 hMB.out hcall hrw hll ?_
      intro vv w4 v' w5 h1 h2 h3 h4
      have hI5 : Hid (GyS w v0 c base w5 (psN M x (k + 1)) v' (L0 ++ glS M x (k + 1))) := hnx.out w4 v' w5 h1 h2 h3 h4
      clear h1 h2 h3 h4 hnx
      unfold fr32
      go_wp2_with fail
      exact ⟨⟨k + 1, by omega, by simp, hI5⟩, by simp [intOf]; omega⟩
    · obtain rfl : k = N := by omega
      have hlt' : ¬ (k : Int) < k := by omega
      have hcall : Hid (Calls Tryz.prog 103 #[.int .i64 0, .int .i64 0, .pointer (some ⟨c, 0, none⟩)] wr fun e w' => e = .returned (.int .i64 (psN M x k)) ∧ GyS w v0 c base w' (psN M x k) (.slice va (L0 ++ glS M x k).length vc) (L0 ++ glS M x k)) := by
        refine (hI.out.step hc0.out (by rw [hc0.out]; exact hown.out) ⟨y0, y1⟩ (by omega) (by omega)).mono ?_
        rintro e w' ⟨rfl, h1, h2⟩
        simp only [Int.add_zero] at h1
        exact ⟨by rw [Int.add_zero], h1⟩
      have hend : Hid (∀ w', GyS w v0 c base w' (psN M x k) (.slice va (L0 ++ glS M x k).length vc) (L0 ++ glS M x k) → GyEnd w base v0 L0 M x k (.returned (.tuple #[.slice va (L0 ++ glS M x k).length vc, .int .i64 (psN M x k)])) w') := fun w' h => ⟨_, rfl, h.row, h.t, h.own.imp id (fun h1 g hg => by have := h1 g hg; have := hc0.out; omega)⟩
      clear hI
      generalize (L0 ++ glS M x k).length = ln at *
      go_wp2_with (go_at_call 103; refine hcall.out.mono ?_; rintro e w2 ⟨rfl, h2⟩)
      go_ret2
      exact hend.out _ h2
end Go.Proofs.YtbdpghjegachaaaGreatDoor

namespace Go.Proofs.YtbdpghjegachaaaGreatDoor
open Go.RowKit Go.Shelf

/-- What stands while a line is set: where it began, the paragraph's box, the line's box, the glyphs so far. -/
structure PS (w0 : World) (a : Pa) (l : Ln) (Pb Lb base : Nat) (v : Value) (L : List Gl) (W : World) : Prop where
  low : Below w0.heap.size w0 W
  pb : PB W Pb a
  lb : LB W Lb l
  row : W.ownsRow base 41 4 v L.length (L.flatMap glL)
  bs : w0.heap.size ≤ base ∧ base ≤ W.heap.size
  own : ∀ k, v.ownBlock = some k → k ≠ Pb ∧ k ≠ Lb
section
variable {w0 : World} {a : Pa} {l : Ln} {Pb Lb base : Nat} {v : Value} {L : List Gl} {W W' : World}
theorem PS.turns {X : Nat → Prop} (h : PS w0 a l Pb Lb base v L W) (ht : Turns X W W') (hX : ∀ k, X k → w0.heap.size ≤ k ∧ k ≠ Pb ∧ k ≠ Lb) (hv : ∀ k, v.ownBlock = some k → ¬ X k) : PS w0 a l Pb Lb base v L W' :=
  ⟨h.low.trans (ht.below h.low.size (fun k hk => (hX k hk).1)), h.pb.turns ht (fun e => (hX _ e).2.1 rfl), h.lb.turns ht (fun e => (hX _ e).2.2 rfl), ownsRow_turns h.row ht hv, ⟨h.bs.1, Nat.le_trans h.bs.2 ht.size⟩, h.own⟩
theorem PS.below (h : PS w0 a l Pb Lb base v L W) (hb : Below W.heap.size W W') : PS w0 a l Pb Lb base v L W' := h.turns (Turns.of_below hb) (fun _k hk => hk.elim) (fun _k _ hk => hk.elim)
theorem PS.drew (h : PS w0 a l Pb Lb base v L W) : PS w0 a l Pb Lb base v L W.drew := h.below (below_drew W)
/-- More glyphs. -/
theorem PS.app {v' : Value} {L' : List Gl} (h : PS w0 a l Pb Lb base v L W) (hr : W'.ownsRow base 41 4 v' L'.length (L'.flatMap glL)) (ht : Turns (fun k => v.ownBlock = some k) W W') (hw : v'.ownBlock = v.ownBlock ∨ ∀ k, v'.ownBlock = some k → W.heap.size ≤ k) : PS w0 a l Pb Lb base v' L' W' := by
  have hb1 := h.bs.1
  have hX : ∀ k, v.ownBlock = some k → w0.heap.size ≤ k ∧ k ≠ Pb ∧ k ≠ Lb := fun k hk => ⟨Nat.le_trans hb1 (h.row.lt k hk).1, h.own k hk⟩
  refine ⟨h.low.trans (ht.below h.low.size (fun k hk => (hX k hk).1)), h.pb.turns ht (fun e => (hX _ e).2.1 rfl), h.lb.turns ht (fun e => (hX _ e).2.2 rfl), hr, ⟨h.bs.1, Nat.le_trans h.bs.2 ht.size⟩, fun k hk => ?_⟩
  rcases hw with e | e
  · exact h.own k (e ▸ hk)
  · have h1 := e k hk
    have h2 := h.pb.lt
    have h3 := h.lb.lt
    exact ⟨by omega, by omega⟩
end
def rest19 : Code := (Code.region 19 #[{ dst := some 121, op := Op.move (Operand.tmp 14), type := 31, pos := "set.go:63", after := #[], guard := none }, { dst := some 122, op := Op.call { callee := Callee.value (Operand.func 32), args := #[Operand.tmp 15, Operand.tmp 121], argTypes := #[60, 31] }, type := 70, pos := "set.go:63", after := #[{ on := 0, ground := Ground.data }], guard := none }, { dst := some 120, op := Op.move (Operand.tmp 122), type := 70, pos := "set.go:63", after := #[{ on := 1, ground := Ground.data }], guard := none }, { dst := some 123, op := Op.extract (Operand.tmp 120) 0, type := 31, pos := "set.go:63", after := #[{ on := 2, ground := Ground.data }], guard := none }, { dst := some 124, op := Op.extract (Operand.tmp 120) 1, type := 3, pos := "set.go:63", after := #[{ on := 2, ground := Ground.data }, { on := 5, ground := Ground.gcOnly Departure.lateStores }], guard := none }, { dst := some 14, op := Op.assign (Operand.tmp 123), type := 31, pos := "set.go:63", after := #[{ on := 3, ground := Ground.data }, { on := 1, ground := Ground.chain }, { on := 0, ground := Ground.phase }, { on := 1, ground := Ground.phase }, { on := 2, ground := Ground.phase }, { on := 3, ground := Ground.phase }, { on := 4, ground := Ground.textOnly Departure.lateStores }], guard := none }, { dst := some 16, op := Op.assign (Operand.tmp 124), type := 3, pos := "set.go:63", after := #[{ on := 4, ground := Ground.data }, { on := 5, ground := Ground.chain }, { on := 0, ground := Ground.phase }, { on := 1, ground := Ground.phase }, { on := 2, ground := Ground.phase }, { on := 3, ground := Ground.phase }, { on := 4, ground := Ground.phase }, { on := 5, ground := Ground.phase }], guard := none }] false).seq (((Code.region 20 #[{ dst := some 125, op := Op.fieldAddr 29 (Operand.tmp 4) 5, type := 0, pos := "set.go:64", after := #[], guard := none }, { dst := some 126, op := Op.load 4 (Operand.tmp 125), type := 4, pos := "set.go:64", after := #[{ on := 0, ground := Ground.data }], guard := none }] false).seq (Code.cond (Operand.tmp 126) (Code.region 21 #[{ dst := some 127, op := Op.move (Operand.tmp 14), type := 31, pos := "set.go:65", after := #[], guard := none }, { dst := some 128, op := Op.fieldAddr 29 (Operand.tmp 4) 1, type := 0, pos := "set.go:65", after := #[], guard := none }, { dst := some 129, op := Op.load 3 (Operand.tmp 128), type := 3, pos := "set.go:65", after := #[{ on := 1, ground := Ground.data }], guard := none }, { dst := some 130, op := Op.fieldAddr 29 (Operand.tmp 4) 1, type := 0, pos := "set.go:65", after := #[], guard := none }, { dst := some 131, op := Op.load 3 (Operand.tmp 130), type := 3, pos := "set.go:65", after := #[{ on := 3, ground := Ground.data }], guard := none }, { dst := some 132, op := Op.move (Operand.tmp 16), type := 3, pos := "set.go:65", after := #[], guard := none }, { dst := some 133, op := Op.fieldAddr 60 (Operand.tmp 15) 3, type := 0, pos := "set.go:65", after := #[], guard := none }, { dst := some 134, op := Op.load 3 (Operand.tmp 133), type := 3, pos := "set.go:65", after := #[{ on := 6, ground := Ground.data }], guard := none }, { dst := some 135, op := Op.build 41 #[(0, Operand.tmp 129), (1, Operand.tmp 131), (2, Operand.tmp 132), (3, Operand.tmp 134)], type := 41, pos := "set.go:65", after := #[{ on := 2, ground := Ground.data }, { on := 4, ground := Ground.data }, { on := 5, ground := Ground.data }, { on := 7, ground := Ground.data }], guard := none }, { dst := some 136, op := Op.buildSlice 31 1 #[(0, Operand.tmp 135)], type := 31, pos := "set.go:65", after := #[{ on := 8, ground := Ground.data }], guard := none }, { dst := some 137, op := Op.call { callee := Callee.builtin Builtin.append, args := #[Operand.tmp 127, Operand.tmp 136], argTypes := #[31, 31] }, type := 31, pos := "set.go:65", after := #[{ on := 0, ground := Ground.data }, { on := 9, ground := Ground.data }], guard := none }, { dst := some 14, op := Op.assign (Operand.tmp 137), type := 31, pos := "set.go:65", after := #[{ on := 10, ground := Ground.data }, { on := 10, ground := Ground.chain }, { on := 0, ground := Ground.phase }, { on := 1, ground := Ground.phase }, { on := 2, ground := Ground.phase }, { on := 3, ground := Ground.phase }, { on := 4, ground := Ground.phase }, { on := 5, ground := Ground.phase }, { on := 6, ground := Ground.phase }, { on := 7, ground := Ground.phase }, { on := 8, ground := Ground.phase }, { on := 9, ground := Ground.phase }, { on := 10, ground := Ground.phase }], guard := none }] false) Code.skip)).seq ((Code.region 22 #[{ dst := some 138, op := Op.move (Operand.tmp 14), type := 31, pos := "set.go:67", after := #[], guard := none }, { dst := some 6, op := Op.assign (Operand.tmp 138), type := 31, pos := "set.go:67", after := #[{ on := 0, ground := Ground.data }, { on := 0, ground := Ground.phase }], guard := none }, { dst := some 7, op := Op.assign (Operand.const (Value.int IntKind.i64 0)), type := 32, pos := "set.go:67", after := #[{ on := 1, ground := Ground.chain }, { on := 0, ground := Ground.phase }, { on := 1, ground := Ground.phase }], guard := none }] false).seq Code.ret))
set_option maxRecDepth 100000 in
set_option maxHeartbeats 4000000 in
theorem place_c (a : Pa) (l : Ln) (w0 : World) (Pb Lb r g o N cap base : Nat) (M : Nat → Ms) (x hy rm : Int) (last : Bool) (vb v : Value) (L : List Gl) (av : Option Addr) (hav : 0 < N → av = some ⟨g, o, none⟩) (hcap : N ≤ cap) (hN : N ≤ 4096) (hL : L.length ≤ 1)
    (hM : ∀ i, i < N → (-64 ≤ (M i).q ∧ (M i).q ≤ 0) ∧ -200000000 ≤ (M i).w ∧ (M i).w ≤ 200000000) (hx : -1000000000 ≤ x ∧ x ≤ 1000000000) (W : World) (hP : PS w0 a l Pb Lb base v L W) (hW : RW W r (.slice av N cap) vb x hy rm last) (hR : RF W g o N M) (hvg : 0 < N → v.ownBlock ≠ some g) (hvr : v.ownBlock ≠ some r)
    (RR : Ending → World → Prop) (hfin : ∀ v' W', W'.ownsRow base 41 4 v' (L ++ glS M x N ++ (if l.y = true then [(⟨l.t, l.t, psN M x N, hy⟩ : Gl)] else [])).length ((L ++ glS M x N ++ (if l.y = true then [(⟨l.t, l.t, psN M x N, hy⟩ : Gl)] else [])).flatMap glL) → Below w0.heap.size w0 W' → RR (.returned (.tuple #[v', .int .i64 0])) W') (v0 v1 v2 v5 v6 v7 v8 v9 v10 v11 v12 v13 v16 v17 v18 v19 v20 v21 v22 v23 v24 v25 v26 v27 v28 v29 v30 v31 v32 v33 v34 v35 v36 v37 v38 v39 v40 v41 v42 v43 v44 v45 v46 v47 v48 v49 v50 v51 v52 v53 v54 v55 v56 v57 v58 v59 v60 v61 v62 v63 v64 v65 v66 v67 v68 v69 v70 v71 v72 v73 v74 v75 v76 v77 v78 v79 v80 v81 v82 v83 v84 v85 v86 v87 v88 v89 v90 v91 v92 v93 v94 v95 v96 v97 v98 v99 v100 v101 v102 v103 v104 v105 v106 v107 v108 v109 v110 v111 v112 v113 v114 v115 v116 v117 v118 v119 v120 v121 v122 v123 v124 v125 v126 v127 v128 v129 v130 v131 v132 v133 v134 v135 v136 v137 v138 : Value) :
    rest19.wp Tryz.prog (bodyPost Tryz.prog Tryz.f8 RR) (fr8 v0 v1 v2 (.pointer (some ⟨Pb, 0, none⟩)) (.pointer (some ⟨Lb, 0, none⟩)) v5 v6 v7 v8 v9 v10 v11 v12 v13 v (.pointer (some ⟨r, 0, none⟩)) v16 v17 v18 v19 v20 v21 v22 v23 v24 v25 v26 v27 v28 v29 v30 v31 v32 v33 v34 v35 v36 v37 v38 v39 v40 v41 v42 v43 v44 v45 v46 v47 v48 v49 v50 v51 v52 v53 v54 v55 v56 v57 v58 v59 v60 v61 v62 v63 v64 v65 v66 v67 v68 v69 v70 v71 v72 v73 v74 v75 v76 v77 v78 v79 v80 v81 v82 v83 v84 v85 v86 v87 v88 v89 v90 v91 v92 v93 v94 v95 v96 v97 v98 v99 v100 v101 v102 v103 v104 v105 v106 v107 v108 v109 v110 v111 v112 v113 v114 v115 v116 v117 v118 v119 v120 v121 v122 v123 v124 v125 v126 v127 v128 v129 v130 v131 v132 v133 v134 v135 v136 v137 v138) W := by
  have hg := glyphs_any W r g o N cap M x hy rm last vb hN av hav hcap hM hx hR hW base v L hL hP.row hP.bs.2 hvg hvr
  have hrc : Hid (∀ W', Turns (fun k => v.ownBlock = some k) W W' → W'.cell? ⟨r, 3, none⟩ = some (.int .i64 hy)) := fun W' ht => (hW.turns ht hvr).c.2.2.2.1
  have hPh : Hid (PS w0 a l Pb Lb base v L W) := hP
  have hll : (L ++ glS M x N).length ≤ 9000 := by rw [List.length_append, glS_len]; omega
  have hfh : Hid (∀ v' W', W'.ownsRow base 41 4 v' (L ++ glS M x N ++ (if l.y = true then [(⟨l.t, l.t, psN M x N, hy⟩ : Gl)] else [])).length ((L ++ glS M x N ++ (if l.y = true then [(⟨l.t, l.t, psN M x N, hy⟩ : Gl)] else [])).flatMap glL) → Below w0.heap.size w0 W' → RR (.returned (.tuple #[v', .int .i64 0])) W') := hfin
  clear hR hW hM hP hfin
  unfold GyEnd at hg
  generalize L ++ glS M x N = LL at *
  cases hly : l.y
  · rw [hly, if_neg (by simp), List.append_nil] at hfh
    unfold rest19 fr8
    go_wp2_with (go_at_call 32; refine hg.mono ?_; rintro e W2 ⟨v2, rfl, hr2, hT2, ho2⟩; have hP2 : Hid (PS w0 a l Pb Lb base v2 (LL) W2) := hPh.out.app hr2 hT2 ho2; have l5 := hP2.out.lb.c5; rw [hly] at l5; clear hr2 hT2 ho2 hPh hrc hly)
    exact hfh.out _ _ hP2.out.row hP2.out.low
  · rw [hly, if_pos rfl] at hfh
    unfold rest19 fr8
    go_wp2_with (first | (go_at_call 32; refine hg.mono ?_; rintro e W2 ⟨v2, rfl, hr2, hT2, ho2⟩; have hP2 : Hid (PS w0 a l Pb Lb base v2 (LL) W2) := hPh.out.app hr2 hT2 ho2; have c3 := hrc.out W2 hT2; have l1 := hP2.out.lb.c1; have l5 := hP2.out.lb.c5; rw [hly] at l5; clear hr2 hT2 ho2 hPh hrc hly; obtain ⟨va2, vc2, rfl, _⟩ := row_slice glL_len hP2.out.row) | (refine wpList_app2 (k := 4) (f := glL) (w0 := W2) (bytes := 32) rfl el31 glL_len glL_one (by omega) (by omega) _ _ rfl base (.slice va2 (LL).length vc2) (LL) ⟨l.t, l.t, psN M x N, hy⟩ rfl hP2.out.row hP2.out.bs.2 hll rfl rfl ?_; intro v' w6 hr6 hT6 hw6; have hP6 : Hid (PS w0 a l Pb Lb base v' (LL ++ [(⟨l.t, l.t, psN M x N, hy⟩ : Gl)]) w6) := hP2.out.app hr6 hT6 hw6; clear hr6 hT6 hw6 hP2))
    exact hfh.out _ _ hP6.out.row hP6.out.low
end Go.Proofs.YtbdpghjegachaaaGreatDoor
