/-
  What is proved here: what the document's Clone answers (for SpanScript).
-/
import Derived.Test.YtjakmekifpbldaaRefB
import Derived.OrdersHeld
namespace Go.Proofs.Ytjakmekifpbldaa
open Go.RowKit Go.Shelf

theorem take_h {P : Program} {md : Region.Mode} {ops : Array Oper} {Q : Exit → Act → World → Prop} {S : World → Prop} {i : Nat} {oi : Oper} {v : Value} {fuel : Nat} {listed : Array Bool} {a : Act} {w : World} (a' : Act) (hi : ops[i]? = some oi)
    (hs : Region.noSelect ops = true) (hf : Region.free md ops listed i = true) (hr : (Region.ready md ops listed).contains i = true)
    (hQ : ∀ c x w, Q (.panic c) (x.put oi.dst v) w → Q (.panic c) x w) (hw : Region.wanted oi (yielded ops a.tmps) = true) (hy : ∀ w, S w → (execOp a.eval oi).run P w = .ok (.value v) w) (ha : a.put oi.dst v = a') (hS : S w)
    (h : wpAnyH P md ops Q S fuel (listed.setIfInBounds i true) a' w) : wpAnyH P md ops Q S (fuel + 1) listed a w :=
  wpAnyH_take hi hs hf hr hQ (Or.inl ⟨hw, hy⟩) hS (ha ▸ h)
theorem skip_h {P : Program} {md : Region.Mode} {ops : Array Oper} {Q : Exit → Act → World → Prop} {S : World → Prop} {i : Nat} {oi : Oper} {fuel : Nat} {listed : Array Bool} {a : Act} {w : World} (a' : Act) (hi : ops[i]? = some oi)
    (hs : Region.noSelect ops = true) (hf : Region.free md ops listed i = true) (hr : (Region.ready md ops listed).contains i = true)
    (hQ : ∀ c x w, Q (.panic c) (x.put oi.dst undef) w → Q (.panic c) x w) (hw : Region.wanted oi (yielded ops a.tmps) = false) (ha : a.put oi.dst undef = a') (hS : S w)
    (h : wpAnyH P md ops Q S fuel (listed.setIfInBounds i true) a' w) : wpAnyH P md ops Q S (fuel + 1) listed a w :=
  wpAnyH_take hi hs hf hr hQ (Or.inr ⟨hw, rfl⟩) hS (ha ▸ h)
theorem want_h {P : Program} {md : Region.Mode} {ops : Array Oper} {Q : Exit → Act → World → Prop} {S : World → Prop} {i : Nat} {oi : Oper} {fuel : Nat} {listed : Array Bool} {a : Act} {w : World} (hr : Region.ready md ops listed = [i]) (hi : ops[i]? = some oi)
    (hw : Region.wanted oi (yielded ops a.tmps) = true) (h : ∀ K : Act → World → Prop, (∀ a' w', S w' → wpAnyH P md ops Q S fuel (listed.setIfInBounds i true) a' w' → K a' w') → oi.wp P a w K Q) : wpAnyH P md ops Q S (fuel + 1) listed a w :=
  wpAnyH_all hr (by simp) fun j hj => by
    obtain rfl := List.mem_singleton.1 hj
    unfold wpOp
    simp only [hi, hw, if_true]
    exact Or.inl (h _ fun a' w' hS h' => ⟨hS, h'⟩)
theorem cast_h {P : Program} {md : Region.Mode} {ops : Array Oper} {Q : Exit → Act → World → Prop} {S : World → Prop} {fuel : Nat} {listed : Array Bool} {a : Act} {w : World} (a' : Act) (ha : a = a') (h : wpAnyH P md ops Q S fuel listed a' w) : wpAnyH P md ops Q S fuel listed a w := ha ▸ h

theorem two_h {P : Program} {md : Region.Mode} {ops : Array Oper} {Q : Exit → Act → World → Prop} {S : World → Prop} {i j : Nat} {oi oj : Oper} {fuel : Nat} {listed : Array Bool} {a : Act} {w : World} (hr : Region.ready md ops listed = [i, j]) (hi : ops[i]? = some oi) (hj : ops[j]? = some oj)
    (hw : Region.wanted oi (yielded ops a.tmps) = true) (hw' : Region.wanted oj (yielded ops a.tmps) = true) (h : ∀ K : Act → World → Prop, (∀ a' w', S w' → wpAnyH P md ops Q S fuel (listed.setIfInBounds i true) a' w' → K a' w') → oi.wp P a w K Q)
    (h' : ∀ K : Act → World → Prop, (∀ a' w', S w' → wpAnyH P md ops Q S fuel (listed.setIfInBounds j true) a' w' → K a' w') → oj.wp P a w K Q) : wpAnyH P md ops Q S (fuel + 1) listed a w :=
  wpAnyH_all hr (by simp) fun k hk => by
    rcases List.mem_cons.1 hk with rfl | hk
    · unfold wpOp
      simp only [hi, hw, if_true]
      exact Or.inl (h _ fun a' w' hS h' => ⟨hS, h'⟩)
    · obtain rfl := List.mem_singleton.1 hk
      unfold wpOp
      simp only [hj, hw', if_true]
      exact Or.inl (h' _ fun a' w' hS h' => ⟨hS, h'⟩)

theorem wp_append_any {P : Program} (w : World) {o : Oper} {a : Act} {K : Act → World → Prop} {Q : Exit → Act → World → Prop} (sl x : Operand) (t : TypeId)
    (ho : o.op = .call { callee := .builtin .append, args := #[sl, x], argTypes := #[t, t] })
    (base : Nat) (e : TypeId) (i : TypeInfo) (z : Value) (size bytes : Nat) (ht : P.underlying t = some (.slice e)) (hi : P.info? e = some i) (hz : i.zero = some z) (hsize : i.size = size) (hby : i.bytes = bytes) (hzs : z.cells.size = size) (hsz : 0 < size)
    (v : Value) (n : Nat) (xs : List Value) (hs : a.eval sl = v) (hown : w.ownsRow base e size v n xs) (m : Nat) (news : List Value) (u : Value) (hxe : a.eval x = u) (hx : Srcs w size u m news)
    (h63 : n + m ≤ maxLen) (hbytes : (n + m) * bytes ≤ 140737488355328) (hbase : base ≤ w.heap.size)
    (h : ∀ v' w', w'.ownsRow base e size v' (n + m) (xs ++ news) → w.grownBy w' v.ownBlock → K (a.put o.dst v') w') : o.wp P a w K Q := by
  obtain ⟨v', w', hr, h2, h3⟩ := run_append_any (P := P) w base t o.type e i z size bytes ht hi hz hsize hby hzs hsz v n xs hown u m news hx h63 hbytes hbase
  unfold Oper.wp execOp
  simp only [ho, resolve, invoke, builtin, Sem.run_bind, Sem.run_pure, Result.andThen_ok, List.map_toArray, List.map_cons, List.map_nil, hs, hxe, hr]
  exact h v' w' h2 h3

def fr13 (v0 v1 v2 v3 v4 v5 v6 v7 v8 v9 v10 v11 v12 v13 v14 : Value) : Act := { tmps := #[v0, v1, v2, v3, v4, v5, v6, v7, v8, v9, v10, v11, v12, v13, v14], defers := [] }
def ops13 (ps : String) : Array Oper := #[{ dst := some 3, op := Op.buildSlice 58 0 #[], type := 58, pos := ps, after := #[], guard := none }, { dst := some 4, op := Op.move (Operand.tmp 0), type := 29, pos := ps, after := #[], guard := none }, { dst := some 5, op := Op.nilCheck (Operand.tmp 4), type := 0, pos := ps, after := #[{ on := 1, ground := Ground.data }], guard := none }, { dst := some 6, op := Op.fieldAddr 68 (Operand.tmp 5) 0, type := 0, pos := ps, after := #[{ on := 2, ground := Ground.data }], guard := none }, { dst := some 7, op := Op.load 58 (Operand.tmp 6), type := 58, pos := ps, after := #[{ on := 3, ground := Ground.data }], guard := none }, { dst := some 8, op := Op.call { callee := Callee.builtin Builtin.append, args := #[Operand.tmp 3, Operand.tmp 7], argTypes := #[58, 58] }, type := 58, pos := ps, after := #[{ on := 0, ground := Ground.data }, { on := 4, ground := Ground.data }], guard := none }, { dst := some 9, op := Op.move (Operand.tmp 0), type := 29, pos := ps, after := #[], guard := none }, { dst := some 10, op := Op.nilCheck (Operand.tmp 9), type := 0, pos := ps, after := #[{ on := 6, ground := Ground.data }], guard := none }, { dst := some 11, op := Op.fieldAddr 68 (Operand.tmp 10) 1, type := 0, pos := ps, after := #[{ on := 7, ground := Ground.data }], guard := none }, { dst := some 12, op := Op.load 23 (Operand.tmp 11), type := 23, pos := ps, after := #[{ on := 8, ground := Ground.data }], guard := none }, { dst := some 13, op := Op.build 68 #[(0, Operand.tmp 8), (1, Operand.tmp 12)], type := 68, pos := ps, after := #[{ on := 5, ground := Ground.data }, { on := 9, ground := Ground.data }], guard := none }, { dst := some 14, op := Op.box 68 (Operand.tmp 13), type := 29, pos := ps, after := #[{ on := 10, ground := Ground.data }], guard := none }, { dst := some 2, op := Op.assign (Operand.tmp 14), type := 29, pos := ps, after := #[{ on := 11, ground := Ground.data }, { on := 5, ground := Ground.chain }, { on := 0, ground := Ground.phase }, { on := 1, ground := Ground.phase }, { on := 2, ground := Ground.phase }, { on := 3, ground := Ground.phase }, { on := 4, ground := Ground.phase }, { on := 5, ground := Ground.phase }, { on := 6, ground := Ground.phase }, { on := 7, ground := Ground.phase }, { on := 8, ground := Ground.phase }, { on := 9, ground := Ground.phase }, { on := 10, ground := Ground.phase }, { on := 11, ground := Ground.phase }], guard := none }]

theorem CharsAt.srcs {W W' : World} {base : Nat} {v : Value} {L : List Ch} (h : CharsAt W base v L) (hb : Below W.heap.size W W') : Srcs W' 3 v L.length (chRow L) := ownsRow_srcs (ownsRow_below h.out hb) (chRow_one L)

set_option maxRecDepth 100000 in
set_option maxHeartbeats 1000000 in
theorem clone_region (Q : Exit → Act → World → Prop) (hQ : ∀ c x (n : Nat) v w, Q (.panic c) (x.put (some n) v) w → Q (.panic c) x w) (id : Nat) (ps : String) {v1 v2 v3 v4 v5 v6 v7 v8 v9 v10 v11 v12 v13 v14 : Value}
    (a : Option Addr) (n cap t : Nat) (L : List Ch) (m : Ch) (hn : n = L.length) (w0 : World) (h : RefAt t (.slice a n cap) L m w0)
    (hq : ∀ s3 s8 s13 t2 v2 w', w0.heap.size ≤ t2 → RefAt t2 v2 L m w' → Below w0.heap.size w0 w' → Q .normal (fr13 (.pointer (some ⟨t, 0, none⟩)) v1 (.pointer (some ⟨t2, 0, none⟩)) s3 (.pointer (some ⟨t, 0, none⟩)) (.pointer (some ⟨t, 0, none⟩)) (.pointer (some ⟨t, 0, none⟩)) (.slice a n cap) s8 (.pointer (some ⟨t, 0, none⟩)) (.pointer (some ⟨t, 0, none⟩)) (.pointer (some ⟨t, 1, none⟩)) (.agg #[.int .i64 m.s, .int .i64 m.t, .int .i64 m.k]) s13 (.pointer (some ⟨t2, 0, none⟩))) w') :
    (Code.region id (ops13 ps) true).wp Try.prog Q (fr13 (.pointer (some ⟨t, 0, none⟩)) v1 v2 v3 v4 v5 v6 v7 v8 v9 v10 v11 v12 v13 v14) w0 := by
  obtain ⟨i0, hi0, hz0, hz1, hz2⟩ := info_parts info23
  have hfew := h.few
  have hc : ∀ w, Below w0.heap.size w0 w → w.cell? ⟨t, 0, none⟩ = some (.slice a n cap) ∧ w.cell? ⟨t, 1, none⟩ = some (.int .i64 m.s) ∧ w.cell? ⟨t, 2, none⟩ = some (.int .i64 m.t) ∧ w.cell? ⟨t, 3, none⟩ = some (.int .i64 m.k) := fun w hb => (h.below hb).cells
  have hs : ∀ w, Below w0.heap.size w0 w → Srcs w 3 (.slice a n cap) n (chRow L) := fun w hb => by have := h.row.srcs hb; rwa [← hn] at this
  have hn' : Hid _ := hn
  have hn4 : n ≤ 4096 := by omega
  clear h hn
  refine wp_region_held (S := fun w' => Below w0.heap.size w0 w') (by kernel_rfl) ?_
  change wpAnyH _ _ _ _ _ 13 _ _ (World.drew w0)
  have C0 : Below w0.heap.size w0 w0.drew := (Below.refl _ _).drew
  refine take_h (i := 1) (oi := { dst := some 4, op := Op.move (Operand.tmp 0), type := 29, pos := ps, after := #[], guard := none }) (fuel := 12) (v := (.pointer (some ⟨t, 0, none⟩))) (fr13 (.pointer (some ⟨t, 0, none⟩)) v1 v2 v3 (.pointer (some ⟨t, 0, none⟩)) v5 v6 v7 v8 v9 v10 v11 v12 v13 v14) (by kernel_rfl) (by kernel_rfl) (by kernel_rfl) (by kernel_rfl) (fun c x w => hQ c x _ _ w) (by kernel_rfl) (fun w _ => by kernel_rfl) (by kernel_rfl) C0 ?_
  refine take_h (i := 2) (oi := { dst := some 5, op := Op.nilCheck (Operand.tmp 4), type := 0, pos := ps, after := #[{ on := 1, ground := Ground.data }], guard := none }) (fuel := 11) (v := (.pointer (some ⟨t, 0, none⟩))) (fr13 (.pointer (some ⟨t, 0, none⟩)) v1 v2 v3 (.pointer (some ⟨t, 0, none⟩)) (.pointer (some ⟨t, 0, none⟩)) v6 v7 v8 v9 v10 v11 v12 v13 v14) (by kernel_rfl) (by kernel_rfl) (by kernel_rfl) (by kernel_rfl) (fun c x w => hQ c x _ _ w) (by kernel_rfl) (fun w _ => by unfold fr13; go_simp) (by kernel_rfl) C0 ?_
  refine take_h (i := 3) (oi := { dst := some 6, op := Op.fieldAddr 68 (Operand.tmp 5) 0, type := 0, pos := ps, after := #[{ on := 2, ground := Ground.data }], guard := none }) (fuel := 10) (v := (.pointer (some ⟨t, 0, none⟩))) (fr13 (.pointer (some ⟨t, 0, none⟩)) v1 v2 v3 (.pointer (some ⟨t, 0, none⟩)) (.pointer (some ⟨t, 0, none⟩)) (.pointer (some ⟨t, 0, none⟩)) v7 v8 v9 v10 v11 v12 v13 v14) (by kernel_rfl) (by kernel_rfl) (by kernel_rfl) (by kernel_rfl) (fun c x w => hQ c x _ _ w) (by kernel_rfl) (fun w _ => by unfold fr13; go_simp) (by kernel_rfl) C0 ?_
  refine take_h (i := 4) (oi := { dst := some 7, op := Op.load 58 (Operand.tmp 6), type := 58, pos := ps, after := #[{ on := 3, ground := Ground.data }], guard := none }) (fuel := 9) (v := (.slice a n cap)) (fr13 (.pointer (some ⟨t, 0, none⟩)) v1 v2 v3 (.pointer (some ⟨t, 0, none⟩)) (.pointer (some ⟨t, 0, none⟩)) (.pointer (some ⟨t, 0, none⟩)) (.slice a n cap) v8 v9 v10 v11 v12 v13 v14) (by kernel_rfl) (by kernel_rfl) (by kernel_rfl) (by kernel_rfl) (fun c x w => hQ c x _ _ w) (by kernel_rfl) (fun w h => by have e0 := (hc w h).1; unfold fr13; go_simp) (by kernel_rfl) C0 ?_
  refine take_h (i := 6) (oi := { dst := some 9, op := Op.move (Operand.tmp 0), type := 29, pos := ps, after := #[], guard := none }) (fuel := 8) (v := (.pointer (some ⟨t, 0, none⟩))) (fr13 (.pointer (some ⟨t, 0, none⟩)) v1 v2 v3 (.pointer (some ⟨t, 0, none⟩)) (.pointer (some ⟨t, 0, none⟩)) (.pointer (some ⟨t, 0, none⟩)) (.slice a n cap) v8 (.pointer (some ⟨t, 0, none⟩)) v10 v11 v12 v13 v14) (by kernel_rfl) (by kernel_rfl) (by kernel_rfl) (by kernel_rfl) (fun c x w => hQ c x _ _ w) (by kernel_rfl) (fun w _ => by kernel_rfl) (by kernel_rfl) C0 ?_
  refine take_h (i := 7) (oi := { dst := some 10, op := Op.nilCheck (Operand.tmp 9), type := 0, pos := ps, after := #[{ on := 6, ground := Ground.data }], guard := none }) (fuel := 7) (v := (.pointer (some ⟨t, 0, none⟩))) (fr13 (.pointer (some ⟨t, 0, none⟩)) v1 v2 v3 (.pointer (some ⟨t, 0, none⟩)) (.pointer (some ⟨t, 0, none⟩)) (.pointer (some ⟨t, 0, none⟩)) (.slice a n cap) v8 (.pointer (some ⟨t, 0, none⟩)) (.pointer (some ⟨t, 0, none⟩)) v11 v12 v13 v14) (by kernel_rfl) (by kernel_rfl) (by kernel_rfl) (by kernel_rfl) (fun c x w => hQ c x _ _ w) (by kernel_rfl) (fun w _ => by unfold fr13; go_simp) (by kernel_rfl) C0 ?_
  refine take_h (i := 8) (oi := { dst := some 11, op := Op.fieldAddr 68 (Operand.tmp 10) 1, type := 0, pos := ps, after := #[{ on := 7, ground := Ground.data }], guard := none }) (fuel := 6) (v := (.pointer (some ⟨t, 1, none⟩))) (fr13 (.pointer (some ⟨t, 0, none⟩)) v1 v2 v3 (.pointer (some ⟨t, 0, none⟩)) (.pointer (some ⟨t, 0, none⟩)) (.pointer (some ⟨t, 0, none⟩)) (.slice a n cap) v8 (.pointer (some ⟨t, 0, none⟩)) (.pointer (some ⟨t, 0, none⟩)) (.pointer (some ⟨t, 1, none⟩)) v12 v13 v14) (by kernel_rfl) (by kernel_rfl) (by kernel_rfl) (by kernel_rfl) (fun c x w => hQ c x _ _ w) (by kernel_rfl) (fun w _ => by unfold fr13; go_simp) (by kernel_rfl) C0 ?_
  refine take_h (i := 9) (oi := { dst := some 12, op := Op.load 23 (Operand.tmp 11), type := 23, pos := ps, after := #[{ on := 8, ground := Ground.data }], guard := none }) (fuel := 5) (v := (.agg #[.int .i64 m.s, .int .i64 m.t, .int .i64 m.k])) (fr13 (.pointer (some ⟨t, 0, none⟩)) v1 v2 v3 (.pointer (some ⟨t, 0, none⟩)) (.pointer (some ⟨t, 0, none⟩)) (.pointer (some ⟨t, 0, none⟩)) (.slice a n cap) v8 (.pointer (some ⟨t, 0, none⟩)) (.pointer (some ⟨t, 0, none⟩)) (.pointer (some ⟨t, 1, none⟩)) (.agg #[.int .i64 m.s, .int .i64 m.t, .int .i64 m.k]) v13 v14) (by kernel_rfl) (by kernel_rfl) (by kernel_rfl) (by kernel_rfl) (fun c x w => hQ c x _ _ w) (by kernel_rfl) (fun w h => by obtain ⟨_, e1, e2, e3⟩ := hc w h; unfold fr13; go_simp) (by kernel_rfl) C0 ?_
  refine want_h (i := 0) (oi := { dst := some 3, op := Op.buildSlice 58 0 #[], type := 58, pos := ps, after := #[], guard := none }) (fuel := 4) (by kernel_rfl) (by kernel_rfl) (by kernel_rfl) fun K hK => ?_
  unfold fr13
  go_simp
  have B1 : Below w0.heap.size w0 (w0.drew.alloc (.cells #[] 23)) := C0.alloc (Nat.le_refl _) _
  have R1 : (w0.drew.alloc (.cells #[] 23)).ownsRow w0.heap.size 23 3 (.slice (some ⟨w0.heap.size, 0, none⟩) 0 0) 0 [] := ownsRow_lit w0.drew 23 3 _ (Nat.le_refl _)
  refine hK _ _ B1 (cast_h (fr13 (.pointer (some ⟨t, 0, none⟩)) v1 v2 (.slice (some ⟨w0.heap.size, 0, none⟩) 0 0) (.pointer (some ⟨t, 0, none⟩)) (.pointer (some ⟨t, 0, none⟩)) (.pointer (some ⟨t, 0, none⟩)) (.slice a n cap) v8 (.pointer (some ⟨t, 0, none⟩)) (.pointer (some ⟨t, 0, none⟩)) (.pointer (some ⟨t, 1, none⟩)) (.agg #[.int .i64 m.s, .int .i64 m.t, .int .i64 m.k]) v13 v14) (by kernel_rfl) ?_)
  clear hK K
  change wpAnyH _ _ _ _ _ _ _ _ (w0.drew.alloc (.cells #[] 23))
  refine want_h (i := 5) (oi := { dst := some 8, op := Op.call { callee := Callee.builtin Builtin.append, args := #[Operand.tmp 3, Operand.tmp 7], argTypes := #[58, 58] }, type := 58, pos := ps, after := #[{ on := 0, ground := Ground.data }, { on := 4, ground := Ground.data }], guard := none }) (fuel := 3) (by kernel_rfl) (by kernel_rfl) (by kernel_rfl) fun K hK => ?_
  refine wp_append_any (w0.drew.alloc (.cells #[] 23)) _ _ 58 rfl w0.heap.size 23 i0 _ 3 24 Try.underlying58 hi0 hz0 hz1 hz2 rfl (by decide) (.slice (some ⟨w0.heap.size, 0, none⟩) 0 0) 0 [] (by kernel_rfl) R1 n (chRow L) (.slice a n cap) (by kernel_rfl) (hs _ B1) (by unfold maxLen; omega) (by omega) B1.size ?_
  intro u W r g
  rw [Nat.zero_add, List.nil_append] at r
  have B2 := below_grown B1 R1 (Nat.le_refl _) (Nat.le_refl _) g
  have rC : CharsAt W w0.heap.size u L := charsAt_of r hn'.out rfl
  refine hK _ _ B2 (cast_h (fr13 (.pointer (some ⟨t, 0, none⟩)) v1 v2 (.slice (some ⟨w0.heap.size, 0, none⟩) 0 0) (.pointer (some ⟨t, 0, none⟩)) (.pointer (some ⟨t, 0, none⟩)) (.pointer (some ⟨t, 0, none⟩)) (.slice a n cap) u (.pointer (some ⟨t, 0, none⟩)) (.pointer (some ⟨t, 0, none⟩)) (.pointer (some ⟨t, 1, none⟩)) (.agg #[.int .i64 m.s, .int .i64 m.t, .int .i64 m.k]) v13 v14) (by kernel_rfl) ?_)
  clear hK K
  obtain ⟨au, cu, hu⟩ := rC.form
  subst hu
  refine take_h (i := 10) (oi := { dst := some 13, op := Op.build 68 #[(0, Operand.tmp 8), (1, Operand.tmp 12)], type := 68, pos := ps, after := #[{ on := 5, ground := Ground.data }, { on := 9, ground := Ground.data }], guard := none }) (fuel := 2) (v := (.agg #[.slice au L.length cu, .int .i64 m.s, .int .i64 m.t, .int .i64 m.k])) (fr13 (.pointer (some ⟨t, 0, none⟩)) v1 v2 (.slice (some ⟨w0.heap.size, 0, none⟩) 0 0) (.pointer (some ⟨t, 0, none⟩)) (.pointer (some ⟨t, 0, none⟩)) (.pointer (some ⟨t, 0, none⟩)) (.slice a n cap) (.slice au L.length cu) (.pointer (some ⟨t, 0, none⟩)) (.pointer (some ⟨t, 0, none⟩)) (.pointer (some ⟨t, 1, none⟩)) (.agg #[.int .i64 m.s, .int .i64 m.t, .int .i64 m.k]) (.agg #[.slice au L.length cu, .int .i64 m.s, .int .i64 m.t, .int .i64 m.k]) v14) (by kernel_rfl) (by kernel_rfl) (by kernel_rfl) (by kernel_rfl) (fun c x w => hQ c x _ _ w) (by kernel_rfl) (fun w _ => by unfold fr13; go_simp) (by kernel_rfl) B2 ?_
  refine want_h (i := 11) (oi := { dst := some 14, op := Op.box 68 (Operand.tmp 13), type := 29, pos := ps, after := #[{ on := 10, ground := Ground.data }], guard := none }) (fuel := 1) (by kernel_rfl) (by kernel_rfl) (by kernel_rfl) fun K hK => ?_
  unfold fr13
  go_simp
  have B3 : Below w0.heap.size w0 (W.alloc (.cells #[.slice au L.length cu, .int .i64 m.s, .int .i64 m.t, .int .i64 m.k] 68)) := B2.alloc B2.size _
  refine hK _ _ B3 (cast_h (fr13 (.pointer (some ⟨t, 0, none⟩)) v1 v2 (.slice (some ⟨w0.heap.size, 0, none⟩) 0 0) (.pointer (some ⟨t, 0, none⟩)) (.pointer (some ⟨t, 0, none⟩)) (.pointer (some ⟨t, 0, none⟩)) (.slice a n cap) (.slice au L.length cu) (.pointer (some ⟨t, 0, none⟩)) (.pointer (some ⟨t, 0, none⟩)) (.pointer (some ⟨t, 1, none⟩)) (.agg #[.int .i64 m.s, .int .i64 m.t, .int .i64 m.k]) (.agg #[.slice au L.length cu, .int .i64 m.s, .int .i64 m.t, .int .i64 m.k]) (.pointer (some ⟨W.heap.size, 0, none⟩))) (by kernel_rfl) ?_)
  clear hK K
  change wpAnyH _ _ _ _ _ _ _ _ (W.alloc (.cells #[.slice au L.length cu, .int .i64 m.s, .int .i64 m.t, .int .i64 m.k] 68))
  refine take_h (i := 12) (oi := { dst := some 2, op := Op.assign (Operand.tmp 14), type := 29, pos := ps, after := #[{ on := 11, ground := Ground.data }, { on := 5, ground := Ground.chain }, { on := 0, ground := Ground.phase }, { on := 1, ground := Ground.phase }, { on := 2, ground := Ground.phase }, { on := 3, ground := Ground.phase }, { on := 4, ground := Ground.phase }, { on := 5, ground := Ground.phase }, { on := 6, ground := Ground.phase }, { on := 7, ground := Ground.phase }, { on := 8, ground := Ground.phase }, { on := 9, ground := Ground.phase }, { on := 10, ground := Ground.phase }, { on := 11, ground := Ground.phase }], guard := none }) (fuel := 0) (v := (.pointer (some ⟨W.heap.size, 0, none⟩))) (fr13 (.pointer (some ⟨t, 0, none⟩)) v1 (.pointer (some ⟨W.heap.size, 0, none⟩)) (.slice (some ⟨w0.heap.size, 0, none⟩) 0 0) (.pointer (some ⟨t, 0, none⟩)) (.pointer (some ⟨t, 0, none⟩)) (.pointer (some ⟨t, 0, none⟩)) (.slice a n cap) (.slice au L.length cu) (.pointer (some ⟨t, 0, none⟩)) (.pointer (some ⟨t, 0, none⟩)) (.pointer (some ⟨t, 1, none⟩)) (.agg #[.int .i64 m.s, .int .i64 m.t, .int .i64 m.k]) (.agg #[.slice au L.length cu, .int .i64 m.s, .int .i64 m.t, .int .i64 m.k]) (.pointer (some ⟨W.heap.size, 0, none⟩))) (by kernel_rfl) (by kernel_rfl) (by kernel_rfl) (by kernel_rfl) (fun c x w => hQ c x _ _ w) (by kernel_rfl) (fun w _ => by kernel_rfl) (by kernel_rfl) B3 ?_
  refine wpAnyH_done (by kernel_rfl) (hq _ _ _ _ _ _ B2.size ⟨heap_new W _, (rC.base (Nat.zero_le _)).below ((Below.refl _ _).alloc (Nat.le_refl _) _), hfew⟩ B3) _

set_option maxRecDepth 100000 in
set_option maxHeartbeats 1000000 in
theorem rclone_ok (t : Nat) (v : Value) (L : List Ch) (m : Ch) (w : World) (h : RefAt t v L m w) :
    Calls Try.prog 13 #[.pointer (some ⟨t, 0, none⟩)] w fun e w' => ∃ t2 v2, e = .returned (.pointer (some ⟨t2, 0, none⟩)) ∧ w.heap.size ≤ t2 ∧ RefAt t2 v2 L m w' ∧ Below w.heap.size w w' := by
  obtain ⟨a0, cp0, rfl⟩ := h.row.form
  have h' : Hid (RefAt t (.slice a0 L.length cp0) L m w) := h
  clear h
  go_enter Try.func13, Try.ntmps13
  go_wp2_with fail
  refine clone_region _ (fun _ _ _ _ _ h => h) _ _ _ _ _ _ _ _ rfl _ h'.out ?_
  intro s3 s8 s13 t2 v2 w' ht hr hb
  unfold fr13
  go_wp2_with fail
  go_ret
  exact ⟨_, _, rfl, ht, hr, hb⟩
end Go.Proofs.Ytjakmekifpbldaa
