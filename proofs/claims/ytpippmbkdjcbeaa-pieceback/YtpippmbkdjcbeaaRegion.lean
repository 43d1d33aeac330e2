/-
  What is proved here: the statement of between's loop that hands a part on, in whatever order its operations come up.
-/
import Derived.Test.YtpippmbkdjcbeaaWalkB
import Derived.Test.YtpippmbkdjcbeaaRound
namespace Go.Proofs.Ytpippmbkdjcbeaa
open Go.RowKit Go.Shelf
attribute [local go_sem] Oper.semAt_some wide_fn wide_depth

def ops5 (ps : String) : Array Oper := #[{ dst := some 24, op := Op.move (Operand.tmp 7), type := 3, pos := ps, after := #[], guard := none }, { dst := some 25, op := Op.move (Operand.tmp 8), type := 3, pos := ps, after := #[], guard := none }, { dst := some 26, op := Op.binOp BinOp.lss 3 (Operand.tmp 24) (Operand.tmp 25) 3, type := 4, pos := ps, after := #[{ on := 0, ground := Ground.data }, { on := 1, ground := Ground.data }], guard := none }, { dst := some 27, op := Op.move (Operand.tmp 26), type := 4, pos := ps, after := #[{ on := 2, ground := Ground.data }], guard := none }, { dst := some 28, op := Op.load 77 (Operand.tmp 4), type := 77, pos := ps, after := #[{ on := 3, ground := Ground.guard }], guard := some (3, true) }, { dst := some 29, op := Op.move (Operand.tmp 5), type := 3, pos := ps, after := #[{ on := 3, ground := Ground.guard }], guard := some (3, true) }, { dst := some 30, op := Op.move (Operand.tmp 7), type := 3, pos := ps, after := #[{ on := 3, ground := Ground.guard }], guard := some (3, true) }, { dst := some 31, op := Op.binOp BinOp.add 3 (Operand.tmp 29) (Operand.tmp 30) 3, type := 3, pos := ps, after := #[{ on := 5, ground := Ground.data }, { on := 6, ground := Ground.data }, { on := 3, ground := Ground.guard }], guard := some (3, true) }, { dst := some 32, op := Op.fieldAddr 55 (Operand.tmp 6) 0, type := 0, pos := ps, after := #[{ on := 3, ground := Ground.guard }], guard := some (3, true) }, { dst := some 33, op := Op.load 9 (Operand.tmp 32), type := 9, pos := ps, after := #[{ on := 8, ground := Ground.data }, { on := 3, ground := Ground.guard }], guard := some (3, true) }, { dst := some 34, op := Op.move (Operand.tmp 7), type := 3, pos := ps, after := #[{ on := 3, ground := Ground.guard }], guard := some (3, true) }, { dst := some 35, op := Op.move (Operand.tmp 8), type := 3, pos := ps, after := #[{ on := 3, ground := Ground.guard }], guard := some (3, true) }, { dst := some 36, op := Op.slice 9 (Operand.tmp 33) (some (Operand.tmp 34)) (some (Operand.tmp 35)) none, type := 9, pos := ps, after := #[{ on := 9, ground := Ground.data }, { on := 10, ground := Ground.data }, { on := 11, ground := Ground.data }, { on := 3, ground := Ground.guard }], guard := some (3, true) }, { dst := some 37, op := Op.build 55 #[(0, Operand.tmp 36)], type := 55, pos := ps, after := #[{ on := 12, ground := Ground.data }, { on := 3, ground := Ground.guard }], guard := some (3, true) }, { dst := some 38, op := Op.call { callee := Callee.value (Operand.tmp 28), args := #[Operand.tmp 31, Operand.tmp 37], argTypes := #[3, 55] }, type := 4, pos := ps, after := #[{ on := 4, ground := Ground.data }, { on := 7, ground := Ground.data }, { on := 13, ground := Ground.data }, { on := 3, ground := Ground.chain }, { on := 3, ground := Ground.guard }], guard := some (3, true) }, { dst := some 39, op := Op.unOp UnOp.not 4 (Operand.tmp 38), type := 4, pos := ps, after := #[{ on := 14, ground := Ground.data }, { on := 3, ground := Ground.guard }], guard := some (3, true) }, { dst := some 40, op := Op.pick (Operand.tmp 27) (Operand.tmp 39) (Operand.const (Value.bool false)), type := 4, pos := ps, after := #[{ on := 3, ground := Ground.data }, { on := 15, ground := Ground.data }], guard := none }]

set_option maxRecDepth 100000 in
set_option maxHeartbeats 1000000 in
theorem region5_yes (Q : Exit → Act → World → Prop) (hQ : ∀ c x y w, Q (.panic c) x w → Q (.panic c) y w) (id : Nat) (ps : String) (l2 l By B : Nat) (a b s : Int) (r : ByteArray) (v0 v1 v2 v3 v9 v10 v11 v12 v13 v14 v15 v16 v17 v18 v19 v20 v21 v22 v23 : Value) (W : World)
    (ha : 0 ≤ a) (hab : a < b) (hb : b ≤ r.size) (hr : r.size ≤ 4096) (hs : 0 ≤ s) (hsa : s + a ≤ 9223372036854775807)
    (cy : W.cell? ⟨By, 0, none⟩ = some (.func (.yield l) #[] #[])) (cr : W.cell? ⟨B, 0, none⟩ = some (.string r))
    (R : Ending → World → Prop) (hY : YieldAt Fence.wide 0 Try.prog l #[.int .i64 (s + a), .agg #[.string (r.extract a.toNat b.toNat)]] W.drew R)
    (hR : ∀ e W', R e W' → ∃ c : Bool, e = .returned (.bool c) ∧ Q .normal { tmps := #[v0, v1, v2, v3, .pointer (some ⟨By, 0, none⟩), .int .i64 s, .pointer (some ⟨B, 0, none⟩), .int .i64 a, .int .i64 b, v9, v10, v11, v12, v13, v14, v15, v16, v17, v18, v19, v20, v21, v22, v23, .int .i64 a, .int .i64 b, .bool true, .bool true, .func (.yield l) #[] #[], .int .i64 s, .int .i64 a, .int .i64 (s + a), .pointer (some ⟨B, 0, none⟩), .string r, .int .i64 a, .int .i64 b, .string (r.extract a.toNat b.toNat), .agg #[.string (r.extract a.toNat b.toNat)], .bool c, .bool (!c), .bool (!c)], defers := [] } W') :
    (Code.region id (ops5 ps) true).wpIn (Fence.wide.inRound l2) 0 Try.prog Q { tmps := #[v0, v1, v2, v3, .pointer (some ⟨By, 0, none⟩), .int .i64 s, .pointer (some ⟨B, 0, none⟩), .int .i64 a, .int .i64 b, v9, v10, v11, v12, v13, v14, v15, v16, v17, v18, v19, v20, v21, v22, v23, undef, undef, undef, undef, undef, undef, undef, undef, undef, undef, undef, undef, undef, undef, undef, undef, undef], defers := [] } W := by
  have hmx : Try.prog.follows .mixedOrders = true := by kernel_rfl
  obtain ⟨fn, tmps, assign, body, hy, hRd⟩ := hY
  refine wpIn_region_round rfl hmx (by kernel_rfl) ?_
  unfold ops5
  refine wpAnyIn_take (i := 0) (v := .int .i64 a) rfl rfl (by kernel_rfl) (by kernel_rfl) (by kernel_rfl) (fun c x w => hQ c _ x w) ⟨Or.inl ⟨by rfl, ?y0⟩, fun _ => rfl⟩ ?_
  case y0 => (intro w; go_simp)
  go_simp
  refine wpAnyIn_take (i := 1) (v := .int .i64 b) rfl rfl (by kernel_rfl) (by kernel_rfl) (by kernel_rfl) (fun c x w => hQ c _ x w) ⟨Or.inl ⟨by rfl, ?y1⟩, fun _ => rfl⟩ ?_
  case y1 => (intro w; go_simp)
  go_simp
  refine wpAnyIn_take (i := 2) (v := .bool true) rfl rfl (by kernel_rfl) (by kernel_rfl) (by kernel_rfl) (fun c x w => hQ c _ x w) ⟨Or.inl ⟨by rfl, ?y2⟩, fun _ => rfl⟩ ?_
  case y2 => (intro w; go_simp)
  go_simp
  refine wpAnyIn_take (i := 3) (v := .bool true) rfl rfl (by kernel_rfl) (by kernel_rfl) (by kernel_rfl) (fun c x w => hQ c _ x w) ⟨Or.inl ⟨by rfl, ?y3⟩, fun _ => rfl⟩ ?_
  case y3 => (intro w; go_simp)
  go_simp
  refine wpAnyIn_take (i := 5) (v := .int .i64 s) rfl rfl (by kernel_rfl) (by kernel_rfl) (by kernel_rfl) (fun c x w => hQ c _ x w) ⟨Or.inl ⟨by rfl, ?y5⟩, fun _ => rfl⟩ ?_
  case y5 => (intro w; go_simp)
  go_simp
  refine wpAnyIn_take (i := 6) (v := .int .i64 a) rfl rfl (by kernel_rfl) (by kernel_rfl) (by kernel_rfl) (fun c x w => hQ c _ x w) ⟨Or.inl ⟨by rfl, ?y6⟩, fun _ => rfl⟩ ?_
  case y6 => (intro w; go_simp)
  go_simp
  refine wpAnyIn_take (i := 7) (v := .int .i64 (s + a)) rfl rfl (by kernel_rfl) (by kernel_rfl) (by kernel_rfl) (fun c x w => hQ c _ x w) ⟨Or.inl ⟨by rfl, ?y7⟩, fun _ => rfl⟩ ?_
  case y7 => (intro w; go_simp; simp [IntKind.wrap, IntKind.bits, IntKind.signed]; omega)
  go_simp
  refine wpAnyIn_take (i := 8) (v := .pointer (some ⟨B, 0, none⟩)) rfl rfl (by kernel_rfl) (by kernel_rfl) (by kernel_rfl) (fun c x w => hQ c _ x w) ⟨Or.inl ⟨by rfl, ?y8⟩, fun _ => rfl⟩ ?_
  case y8 => (intro w; go_simp)
  go_simp
  refine wpAnyIn_take (i := 10) (v := .int .i64 a) rfl rfl (by kernel_rfl) (by kernel_rfl) (by kernel_rfl) (fun c x w => hQ c _ x w) ⟨Or.inl ⟨by rfl, ?y10⟩, fun _ => rfl⟩ ?_
  case y10 => (intro w; go_simp)
  go_simp
  refine wpAnyIn_take (i := 11) (v := .int .i64 b) rfl rfl (by kernel_rfl) (by kernel_rfl) (by kernel_rfl) (fun c x w => hQ c _ x w) ⟨Or.inl ⟨by rfl, ?y11⟩, fun _ => rfl⟩ ?_
  case y11 => (intro w; go_simp)
  go_simp
  refine wpAnyIn_ready (rs := [4, 9]) (by kernel_rfl) (by simp) ?_
  refine AllReadyIn.cons rfl (fun K hK => ?_) (AllReadyIn.cons rfl (fun K hK => ?_) AllReadyIn.nil)
  · go_simp
    refine hK _ _ ?_
    clear hK K
    go_simp
    refine wpAnyIn_ready (rs := [9]) (by kernel_rfl) (by simp) ?_
    refine AllReadyIn.cons rfl (fun K hK => ?_) AllReadyIn.nil
    go_simp
    refine hK _ _ ?_
    clear hK K
    go_simp
    refine wpAnyIn_take (i := 12) (v := .string (r.extract a.toNat b.toNat)) rfl rfl (by kernel_rfl) (by kernel_rfl) (by kernel_rfl) (fun c x w => hQ c _ x w) ⟨Or.inl ⟨by rfl, ?y12⟩, fun _ => rfl⟩ ?_
    case y12 => (intro w; go_simp; rw [if_pos (by omega), if_pos (by omega)])
    go_simp
    refine wpAnyIn_take (i := 13) (v := .agg #[.string (r.extract a.toNat b.toNat)]) rfl rfl (by kernel_rfl) (by kernel_rfl) (by kernel_rfl) (fun c x w => hQ c _ x w) ⟨Or.inl ⟨by rfl, ?y13⟩, fun _ => rfl⟩ ?_
    case y13 => (intro w; go_simp)
    go_simp
    refine wpAnyIn_ready (rs := [14]) (by kernel_rfl) (by simp) ?_
    refine AllReadyIn.cons rfl (fun K hK => ?_) AllReadyIn.nil
    go_simp
    refine hRd.mono ?_
    intro e W2 hR2
    obtain ⟨c, rfl, hq⟩ := hR e W2 hR2
    refine hK _ _ ?_
    clear hK K
    go_simp
    refine wpAnyIn_take (i := 15) (v := .bool (!c)) rfl rfl (by kernel_rfl) (by kernel_rfl) (by kernel_rfl) (fun c x w => hQ c _ x w) ⟨Or.inl ⟨by rfl, ?y15⟩, fun _ => rfl⟩ ?_
    case y15 => (intro w; go_simp)
    go_simp
    refine wpAnyIn_take (i := 16) (v := .bool (!c)) rfl rfl (by kernel_rfl) (by kernel_rfl) (by kernel_rfl) (fun c x w => hQ c _ x w) ⟨Or.inl ⟨by rfl, ?y16⟩, fun _ => rfl⟩ ?_
    case y16 => (intro w; go_simp)
    go_simp
    exact wpAnyIn_done (by kernel_rfl) hq _
  · go_simp
    refine hK _ _ ?_
    clear hK K
    go_simp
    refine wpAnyIn_take (i := 12) (v := .string (r.extract a.toNat b.toNat)) rfl rfl (by kernel_rfl) (by kernel_rfl) (by kernel_rfl) (fun c x w => hQ c _ x w) ⟨Or.inl ⟨by rfl, ?y12⟩, fun _ => rfl⟩ ?_
    case y12 => (intro w; go_simp; rw [if_pos (by omega), if_pos (by omega)])
    go_simp
    refine wpAnyIn_take (i := 13) (v := .agg #[.string (r.extract a.toNat b.toNat)]) rfl rfl (by kernel_rfl) (by kernel_rfl) (by kernel_rfl) (fun c x w => hQ c _ x w) ⟨Or.inl ⟨by rfl, ?y13⟩, fun _ => rfl⟩ ?_
    case y13 => (intro w; go_simp)
    go_simp
    refine wpAnyIn_ready (rs := [4]) (by kernel_rfl) (by simp) ?_
    refine AllReadyIn.cons rfl (fun K hK => ?_) AllReadyIn.nil
    go_simp
    refine hK _ _ ?_
    clear hK K
    go_simp
    refine wpAnyIn_ready (rs := [14]) (by kernel_rfl) (by simp) ?_
    refine AllReadyIn.cons rfl (fun K hK => ?_) AllReadyIn.nil
    go_simp
    refine hRd.mono ?_
    intro e W2 hR2
    obtain ⟨c, rfl, hq⟩ := hR e W2 hR2
    refine hK _ _ ?_
    clear hK K
    go_simp
    refine wpAnyIn_take (i := 15) (v := .bool (!c)) rfl rfl (by kernel_rfl) (by kernel_rfl) (by kernel_rfl) (fun c x w => hQ c _ x w) ⟨Or.inl ⟨by rfl, ?y15⟩, fun _ => rfl⟩ ?_
    case y15 => (intro w; go_simp)
    go_simp
    refine wpAnyIn_take (i := 16) (v := .bool (!c)) rfl rfl (by kernel_rfl) (by kernel_rfl) (by kernel_rfl) (fun c x w => hQ c _ x w) ⟨Or.inl ⟨by rfl, ?y16⟩, fun _ => rfl⟩ ?_
    case y16 => (intro w; go_simp)
    go_simp
    exact wpAnyIn_done (by kernel_rfl) hq _

set_option maxRecDepth 100000 in
set_option maxHeartbeats 1000000 in
theorem region5_no (Q : Exit → Act → World → Prop) (id : Nat) (ps : String) (l2 : Nat) (a b : Int) (v0 v1 v2 v3 v4 v5 v6 v9 v10 v11 v12 v13 v14 v15 v16 v17 v18 v19 v20 v21 v22 v23 : Value) (W : World) (hab : b ≤ a)
    (hq : ∀ nq, Q .normal { tmps := #[v0, v1, v2, v3, v4, v5, v6, .int .i64 a, .int .i64 b, v9, v10, v11, v12, v13, v14, v15, v16, v17, v18, v19, v20, v21, v22, v23, .int .i64 a, .int .i64 b, .bool false, .bool false, undef, undef, undef, undef, undef, undef, undef, undef, undef, undef, undef, undef, .bool false], defers := [] } (W.drewN nq)) :
    (Code.region id (ops5 ps) true).wpIn (Fence.wide.inRound l2) 0 Try.prog Q { tmps := #[v0, v1, v2, v3, v4, v5, v6, .int .i64 a, .int .i64 b, v9, v10, v11, v12, v13, v14, v15, v16, v17, v18, v19, v20, v21, v22, v23, undef, undef, undef, undef, undef, undef, undef, undef, undef, undef, undef, undef, undef, undef, undef, undef, undef], defers := [] } W := by
  have hmx : Try.prog.follows .mixedOrders = true := by kernel_rfl
  have hd : decide (a < b) = false := by simp; omega
  unfold ops5
  refine wpIn_quiet_round rfl hmx (by kernel_rfl) (by kernel_rfl) ?_
  dsimp only
  repeat (gi_big_quiet_step (fail))
  refine wpQuietIn_nil ?_
  rintro _ ⟨nq, rfl⟩
  exact hq nq

end Go.Proofs.Ytpippmbkdjcbeaa
