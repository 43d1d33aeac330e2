/-
  What is proved here: what put of style answers, in whatever order its operations come up.
-/
import Derived.Test.YtifkelpgpdgenaaXSheetD
import Derived.OrdersHeld
import Derived.BigRegion
namespace Go.Proofs.Ytifkelpgpdgenaa
open Go.RowKit Go.Shelf

variable {X : Nat → Prop}
namespace Put

theorem take_h {P : Program} {md : Region.Mode} {ops : Array Oper} {Q : Exit → Act → World → Prop} {S : World → Prop} {i : Nat} {oi : Oper} {v : Value} {fuel : Nat} {listed : Array Bool} {a : Act} {w : World} (a' : Act) (hi : ops[i]? = some oi)
    (hs : Region.noSelect ops = true) (hf : Region.free md ops listed i = true) (hr : (Region.ready md ops listed).contains i = true)
    (hQ : ∀ c x w, Q (.panic c) (x.put oi.dst v) w → Q (.panic c) x w) (hw : Region.wanted oi (yielded ops a.tmps) = true) (hy : ∀ w, S w → (execOp a.eval oi).run P w = .ok (.value v) w) (ha : a.put oi.dst v = a') (hS : S w)
    (h : wpAnyH P md ops Q S fuel (listed.setIfInBounds i true) a' w) : wpAnyH P md ops Q S (fuel + 1) listed a w :=
  wpAnyH_take hi hs hf hr hQ (Or.inl ⟨hw, hy⟩) hS (ha ▸ h)
theorem skip_h {P : Program} {md : Region.Mode} {ops : Array Oper} {Q : Exit → Act → World → Prop} {S : World → Prop} {i : Nat} {oi : Oper} {fuel : Nat} {listed : Array Bool} {a : Act} {w : World} (a' : Act) (hi : ops[i]? = some oi)
    (hs : Region.noSelect ops = true) (hf : Region.free md ops listed i = true) (hr : (Region.ready md ops listed).contains i = true)
    (hQ : ∀ c x w, Q (.panic c) (x.put oi.dst undef) w → Q (.panic c) x w) (hw : Region.wanted oi (yielded ops a.tmps) = false) (ha : a.put oi.dst undef = a') (hS : S w)
    (h : wpAnyH P md ops Q S fuel (listed.setIfInBounds i true) a' w) : wpAnyH P md ops Q S (fuel + 1) listed a w :=
  wpAnyH_take hi hs hf hr hQ (Or.inr ⟨hw, rfl⟩) hS (ha ▸ h)
theorem want_h {P : Program} {md : Region.Mode} {ops : Array Oper} {Q : Exit → Act → World → Prop} {S : World → Prop} {i : Nat} {oi : Oper} {fuel : Nat} {listed : Array Bool} {a : Act} {w : World} (hr : Region.ready md ops listed = [i]) (hi : ops[i]? = some oi)
    (hw : Region.wanted oi (yielded ops a.tmps) = true) (h : ∀ K : Act → World → Prop, (∀ a' w', S w' → wpAnyH P md ops Q S fuel (listed.setIfInBounds i true) a' w' → K a' w') → oi.wp P a w K Q) : wpAnyH P md ops Q S (fuel + 1) listed a w :=
  wpAnyH_all hr (by simp) fun j hj => by
    obtain rfl := List.mem_singleton.1 hj
    unfold wpOp
    simp only [hi, hw, if_true]
    exact Or.inl (h _ fun a' w' hS h' => ⟨hS, h'⟩)
theorem cast_h {P : Program} {md : Region.Mode} {ops : Array Oper} {Q : Exit → Act → World → Prop} {S : World → Prop} {fuel : Nat} {listed : Array Bool} {a : Act} {w : World} (a' : Act) (ha : a = a') (h : wpAnyH P md ops Q S fuel listed a' w) : wpAnyH P md ops Q S fuel listed a w := ha ▸ h

end Put
open Put

theorem entry_has {w : World} {D : DataW Value} {s : Str} {x : Option Sty} (h : Entry X w D s x) : Maps.has D (keyL s) = x.isSome := by
  cases x with
  | none => exact h
  | some x => obtain ⟨a, cap, h1, _⟩ := h; rw [Maps.has_true_of_atKey h1]; rfl
theorem ownsMap_size {w : World} {b n : Nat} {D : DataW Value} (h : w.ownsMap Try.prog 9 R0 b n D) : w.ownsMap Try.prog 9 R0 b (Maps.size D) D := by
  obtain ⟨es, clock, hb, F, hs, rfl⟩ := h
  exact ⟨es, clock, hb, F, by simp [Maps.size, length_sorted], rfl⟩
theorem keyL_lit (s : Str) : WideAt.IsKeyLit (keyL s) := trivial

theorem SheetAt.put {w : World} {t b n : Nat} {S : Sh} (h : SheetAt X w t b n S) {name p : Str} (hs : name.size ≤ 16) {L : List (Int × Int)} {a : Option Addr} {cap : Nat} (hL : SetsX X w (.slice a L.length cap) L) (hfull : S name = none → n < 32) :
    ∃ w', (Instr.mapUpdate 58 (.map (some b)) (.string name) (styV p (.slice a L.length cap))).run Try.prog w = .ok () w' ∧ SheetAt X w' t b (if (S name).isSome then n else n + 1) (upd S name (p, L)) ∧ Only b w w' := by
  obtain ⟨D, h1, h2, h3⟩ := h.own
  have hfew := h.few
  obtain ⟨es, clock, hm⟩ := h.isMap
  obtain ⟨w', hrun, ho, hg⟩ := h1.update law9 Try.underlying58 (by unfold maxLen; omega) (keyOf9 (s := name) (by unfold maxLen; omega)) (val := styV p (.slice a L.length cap)) (d := .held (styV p (.slice a L.length cap))) (ps := []) rfl
  have ho' := ownsMap_size ho
  have hsz : Maps.size (D.put (keyL name) (.held (styV p (.slice a L.length cap)))) = if (S name).isSome then n else n + 1 := by
    rw [Maps.size_put (h1.tidy law9), entry_has (h3 name), h2]
  rw [hsz] at ho'
  refine ⟨w', hrun, ⟨(hg.block t h.lt (by simp; exact h.ne)).trans h.obj, ⟨_, ho', hsz, fun s => ?_⟩, ?_⟩, hg⟩
  · by_cases hsn : s = name
    · subst hsn
      rw [upd_same]
      exact ⟨a, cap, fun z => Maps.atKey_put_same h1.isMap (keyL_lit _) _ _, ⟨hL.toSetsAt.only hm hg, hL.av⟩⟩
    · rw [upd_other _ _ hsn]
      have he := (h3 s).mono fun v qs hq => hq.only hm hg
      cases hx : S s with
      | none =>
        rw [hx] at he
        show Maps.has _ _ = false
        rw [Maps.has_put_other (keyL_ne hsn)]; exact he
      | some x =>
        rw [hx] at he
        obtain ⟨a', cap', e1, e2⟩ := he
        exact ⟨a', cap', fun z => by rw [Maps.atKey_put_other (keyL_ne hsn)]; exact e1 z, e2⟩
  · cases hx : S name with
    | none => have := hfull hx; simp; omega
    | some x => simpa using hfew

theorem only_cell {b g k : Nat} {w w' : World} {v : Value} (h : Only b w w') (hg : g < w.heap.size) (hne : g ≠ b) (hc : w.cell? ⟨g, k, none⟩ = some v) : w'.cell? ⟨g, k, none⟩ = some v := by
  rw [← hc]
  have := h.block g hg (by simp; exact hne)
  simp only [World.cell?, this]

section
variable {ρ : Operand → Value} {w : World} {ps : String} {A : Array Edge} {G : Option (Nat × Bool)} {d : Option Nat} {i j : Nat}
theorem o_nil (x : Addr) {ty : TypeId} (h : ρ (.tmp i) = .pointer (some x)) : (execOp ρ { dst := d, op := Op.nilCheck (Operand.tmp i), type := ty, pos := ps, after := A, guard := G }).run Try.prog w = .ok (.value (.pointer (some x))) w := by
  go_simp
theorem o_field60 (t : Nat) (h : ρ (.tmp i) = .pointer (some ⟨t, 0, none⟩)) : (execOp ρ { dst := d, op := Op.fieldAddr 60 (Operand.tmp i) 1, type := 0, pos := ps, after := A, guard := G }).run Try.prog w = .ok (.value (.pointer (some ⟨t, 1, none⟩))) w := by
  go_simp
theorem o_field82_0 (t : Nat) (h : ρ (.tmp i) = .pointer (some ⟨t, 0, none⟩)) : (execOp ρ { dst := d, op := Op.fieldAddr 82 (Operand.tmp i) 0, type := 0, pos := ps, after := A, guard := G }).run Try.prog w = .ok (.value (.pointer (some ⟨t, 0, none⟩))) w := by
  go_simp
theorem o_field82_1 (t : Nat) (h : ρ (.tmp i) = .pointer (some ⟨t, 0, none⟩)) : (execOp ρ { dst := d, op := Op.fieldAddr 82 (Operand.tmp i) 1, type := 0, pos := ps, after := A, guard := G }).run Try.prog w = .ok (.value (.pointer (some ⟨t, 1, none⟩))) w := by
  go_simp
theorem o_load58 (x : Addr) (v : Value) (hc : w.cell? x = some v) (h : ρ (.tmp i) = .pointer (some x)) : (execOp ρ { dst := d, op := Op.load 58 (Operand.tmp i), type := 58, pos := ps, after := A, guard := G }).run Try.prog w = .ok (.value v) w := by
  go_simp
theorem o_load9 (x : Addr) (v : Value) (hc : w.cell? x = some v) (h : ρ (.tmp i) = .pointer (some x)) : (execOp ρ { dst := d, op := Op.load 9 (Operand.tmp i), type := 9, pos := ps, after := A, guard := G }).run Try.prog w = .ok (.value v) w := by
  go_simp
theorem o_load44 (x : Addr) (v : Value) (hc : w.cell? x = some v) (h : ρ (.tmp i) = .pointer (some x)) : (execOp ρ { dst := d, op := Op.load 44 (Operand.tmp i), type := 44, pos := ps, after := A, guard := G }).run Try.prog w = .ok (.value v) w := by
  go_simp
theorem o_build82 (p : Str) (a : Option Addr) (l c : Nat) (h : ρ (.tmp i) = .string p) (h' : ρ (.tmp j) = .slice a l c) : (execOp ρ { dst := d, op := Op.build 82 #[(0, Operand.tmp i), (1, Operand.tmp j)], type := 82, pos := ps, after := A, guard := G }).run Try.prog w = .ok (.value (.agg #[.string p, .slice a l c])) w := by
  go_simp
end

def fr38 (v0 v1 v2 v3 v4 v5 v6 v7 v8 v9 v10 v11 v12 v13 v14 v15 v16 v17 v18 : Value) : Act := { tmps := #[v0, v1, v2, v3, v4, v5, v6, v7, v8, v9, v10, v11, v12, v13, v14, v15, v16, v17, v18], defers := [] }

def ops38 (ps : String) : Array Oper := #[{ dst := some 6, op := Op.move (Operand.tmp 0), type := 45, pos := ps, after := #[], guard := none }, { dst := some 7, op := Op.nilCheck (Operand.tmp 6), type := 0, pos := ps, after := #[{ on := 0, ground := Ground.data }], guard := none }, { dst := some 8, op := Op.fieldAddr 60 (Operand.tmp 7) 1, type := 0, pos := ps, after := #[{ on := 1, ground := Ground.data }], guard := none }, { dst := some 9, op := Op.load 58 (Operand.tmp 8), type := 58, pos := ps, after := #[{ on := 2, ground := Ground.data }], guard := none }, { dst := some 10, op := Op.move (Operand.tmp 1), type := 9, pos := ps, after := #[], guard := none }, { dst := some 11, op := Op.call { callee := Callee.value (Operand.func 55), args := #[Operand.tmp 10], argTypes := #[9] }, type := 9, pos := ps, after := #[{ on := 4, ground := Ground.data }], guard := none }, { dst := some 12, op := Op.fieldAddr 82 (Operand.tmp 5) 0, type := 0, pos := ps, after := #[], guard := none }, { dst := some 13, op := Op.load 9 (Operand.tmp 12), type := 9, pos := ps, after := #[{ on := 6, ground := Ground.data }], guard := none }, { dst := some 14, op := Op.call { callee := Callee.value (Operand.func 55), args := #[Operand.tmp 13], argTypes := #[9] }, type := 9, pos := ps, after := #[{ on := 7, ground := Ground.data }, { on := 5, ground := Ground.chain }], guard := none }, { dst := some 15, op := Op.fieldAddr 82 (Operand.tmp 5) 1, type := 0, pos := ps, after := #[], guard := none }, { dst := some 16, op := Op.load 44 (Operand.tmp 15), type := 44, pos := ps, after := #[{ on := 9, ground := Ground.data }], guard := none }, { dst := some 17, op := Op.call { callee := Callee.value (Operand.func 56), args := #[Operand.tmp 16], argTypes := #[44] }, type := 44, pos := ps, after := #[{ on := 10, ground := Ground.data }, { on := 8, ground := Ground.chain }], guard := none }, { dst := some 18, op := Op.build 82 #[(0, Operand.tmp 14), (1, Operand.tmp 17)], type := 82, pos := ps, after := #[{ on := 8, ground := Ground.data }, { on := 11, ground := Ground.data }], guard := none }, { dst := none, op := Op.mapUpdate 58 (Operand.tmp 9) (Operand.tmp 11) (Operand.tmp 18), type := 0, pos := ps, after := #[{ on := 3, ground := Ground.data }, { on := 5, ground := Ground.data }, { on := 12, ground := Ground.data }, { on := 11, ground := Ground.chain }, { on := 0, ground := Ground.phase }, { on := 1, ground := Ground.phase }, { on := 2, ground := Ground.phase }, { on := 3, ground := Ground.phase }, { on := 4, ground := Ground.phase }, { on := 5, ground := Ground.phase }, { on := 6, ground := Ground.phase }, { on := 7, ground := Ground.phase }, { on := 8, ground := Ground.phase }, { on := 9, ground := Ground.phase }, { on := 10, ground := Ground.phase }, { on := 11, ground := Ground.phase }, { on := 12, ground := Ground.phase }], guard := none }]

set_option maxRecDepth 100000 in
set_option maxHeartbeats 4000000 in
theorem put_region (Q : Exit → Act → World → Prop) (hQ : ∀ c x (n : Nat) v w, Q (.panic c) (x.put (some n) v) w → Q (.panic c) x w) (id : Nat) (ps : String) {v2 v3 v4 : Value}
    (t b n : Nat) (S : Sh) (name p : Str) (hname : name.size ≤ 16) (hp : p.size ≤ 16) (L : List (Int × Int)) (hLl : L.length ≤ 64) (a : Option Addr) (cap B : Nat) (w0 : World) (hSh : SheetAt X w0 t b n S) (hL : SetsAt w0 (.slice a L.length cap) L) (hXL : XL X w0) (hfull : S name = none → n < 32)
    (hBl : B < w0.heap.size) (hBb : B ≠ b) (hB0 : w0.cell? ⟨B, 0, none⟩ = some (.string p)) (hB1 : w0.cell? ⟨B, 1, none⟩ = some (.slice a L.length cap))
    (hq : ∀ w' u17 u18, SheetAt X w' t b (if (S name).isSome then n else n + 1) (upd S name (p, L)) → Only b w0 w' → Q .normal (fr38 (.pointer (some ⟨t, 0, none⟩)) (.string name) v2 v3 v4 (.pointer (some ⟨B, 0, none⟩)) (.pointer (some ⟨t, 0, none⟩)) (.pointer (some ⟨t, 0, none⟩)) (.pointer (some ⟨t, 1, none⟩)) (.map (some b)) (.string name) (.string name) (.pointer (some ⟨B, 0, none⟩)) (.string p) (.string p) (.pointer (some ⟨B, 1, none⟩)) (.slice a L.length cap) u17 u18) w') :
    (Code.region id (ops38 ps) true).wp Try.prog Q (fr38 (.pointer (some ⟨t, 0, none⟩)) (.string name) v2 v3 v4 (.pointer (some ⟨B, 0, none⟩)) undef undef undef undef undef undef undef undef undef undef undef undef undef) w0 := by
  refine wp_region_held (S := fun w' => Only b w0 w') (by kernel_rfl) ?_
  change wpAnyH _ _ _ _ _ 14 _ _ (World.drew w0)
  have C0 : Below w0.heap.size w0 w0.drew := below_drew (Below.refl _ _)
  refine take_h (i := 0) (oi := { dst := some 6, op := Op.move (Operand.tmp 0), type := 45, pos := ps, after := #[], guard := none }) (fuel := 13) (v := (.pointer (some ⟨t, 0, none⟩))) (fr38 (.pointer (some ⟨t, 0, none⟩)) (.string name) v2 v3 v4 (.pointer (some ⟨B, 0, none⟩)) (.pointer (some ⟨t, 0, none⟩)) undef undef undef undef undef undef undef undef undef undef undef undef) (by kernel_rfl) (by kernel_rfl) (by kernel_rfl) (by kernel_rfl) (fun c x w => hQ c x _ _ w) (by kernel_rfl) (fun _ hS => by kernel_rfl) (by kernel_rfl) (only_of_below C0) ?_
  refine take_h (i := 1) (oi := { dst := some 7, op := Op.nilCheck (Operand.tmp 6), type := 0, pos := ps, after := #[{ on := 0, ground := Ground.data }], guard := none }) (fuel := 12) (v := (.pointer (some ⟨t, 0, none⟩))) (fr38 (.pointer (some ⟨t, 0, none⟩)) (.string name) v2 v3 v4 (.pointer (some ⟨B, 0, none⟩)) (.pointer (some ⟨t, 0, none⟩)) (.pointer (some ⟨t, 0, none⟩)) undef undef undef undef undef undef undef undef undef undef undef) (by kernel_rfl) (by kernel_rfl) (by kernel_rfl) (by kernel_rfl) (fun c x w => hQ c x _ _ w) (by kernel_rfl) (fun _ hS => o_nil _ rfl) (by kernel_rfl) (only_of_below C0) ?_
  refine take_h (i := 2) (oi := { dst := some 8, op := Op.fieldAddr 60 (Operand.tmp 7) 1, type := 0, pos := ps, after := #[{ on := 1, ground := Ground.data }], guard := none }) (fuel := 11) (v := (.pointer (some ⟨t, 1, none⟩))) (fr38 (.pointer (some ⟨t, 0, none⟩)) (.string name) v2 v3 v4 (.pointer (some ⟨B, 0, none⟩)) (.pointer (some ⟨t, 0, none⟩)) (.pointer (some ⟨t, 0, none⟩)) (.pointer (some ⟨t, 1, none⟩)) undef undef undef undef undef undef undef undef undef undef) (by kernel_rfl) (by kernel_rfl) (by kernel_rfl) (by kernel_rfl) (fun c x w => hQ c x _ _ w) (by kernel_rfl) (fun _ hS => o_field60 _ rfl) (by kernel_rfl) (only_of_below C0) ?_
  refine take_h (i := 3) (oi := { dst := some 9, op := Op.load 58 (Operand.tmp 8), type := 58, pos := ps, after := #[{ on := 2, ground := Ground.data }], guard := none }) (fuel := 10) (v := (.map (some b))) (fr38 (.pointer (some ⟨t, 0, none⟩)) (.string name) v2 v3 v4 (.pointer (some ⟨B, 0, none⟩)) (.pointer (some ⟨t, 0, none⟩)) (.pointer (some ⟨t, 0, none⟩)) (.pointer (some ⟨t, 1, none⟩)) (.map (some b)) undef undef undef undef undef undef undef undef undef) (by kernel_rfl) (by kernel_rfl) (by kernel_rfl) (by kernel_rfl) (fun c x w => hQ c x _ _ w) (by kernel_rfl) (fun _ hS => o_load58 _ _ (only_cell hS hSh.lt hSh.ne hSh.cells.2) rfl) (by kernel_rfl) (only_of_below C0) ?_
  refine take_h (i := 4) (oi := { dst := some 10, op := Op.move (Operand.tmp 1), type := 9, pos := ps, after := #[], guard := none }) (fuel := 9) (v := (.string name)) (fr38 (.pointer (some ⟨t, 0, none⟩)) (.string name) v2 v3 v4 (.pointer (some ⟨B, 0, none⟩)) (.pointer (some ⟨t, 0, none⟩)) (.pointer (some ⟨t, 0, none⟩)) (.pointer (some ⟨t, 1, none⟩)) (.map (some b)) (.string name) undef undef undef undef undef undef undef undef) (by kernel_rfl) (by kernel_rfl) (by kernel_rfl) (by kernel_rfl) (fun c x w => hQ c x _ _ w) (by kernel_rfl) (fun _ hS => by kernel_rfl) (by kernel_rfl) (only_of_below C0) ?_
  refine take_h (i := 6) (oi := { dst := some 12, op := Op.fieldAddr 82 (Operand.tmp 5) 0, type := 0, pos := ps, after := #[], guard := none }) (fuel := 8) (v := (.pointer (some ⟨B, 0, none⟩))) (fr38 (.pointer (some ⟨t, 0, none⟩)) (.string name) v2 v3 v4 (.pointer (some ⟨B, 0, none⟩)) (.pointer (some ⟨t, 0, none⟩)) (.pointer (some ⟨t, 0, none⟩)) (.pointer (some ⟨t, 1, none⟩)) (.map (some b)) (.string name) undef (.pointer (some ⟨B, 0, none⟩)) undef undef undef undef undef undef) (by kernel_rfl) (by kernel_rfl) (by kernel_rfl) (by kernel_rfl) (fun c x w => hQ c x _ _ w) (by kernel_rfl) (fun _ hS => o_field82_0 _ rfl) (by kernel_rfl) (only_of_below C0) ?_
  refine take_h (i := 7) (oi := { dst := some 13, op := Op.load 9 (Operand.tmp 12), type := 9, pos := ps, after := #[{ on := 6, ground := Ground.data }], guard := none }) (fuel := 7) (v := (.string p)) (fr38 (.pointer (some ⟨t, 0, none⟩)) (.string name) v2 v3 v4 (.pointer (some ⟨B, 0, none⟩)) (.pointer (some ⟨t, 0, none⟩)) (.pointer (some ⟨t, 0, none⟩)) (.pointer (some ⟨t, 1, none⟩)) (.map (some b)) (.string name) undef (.pointer (some ⟨B, 0, none⟩)) (.string p) undef undef undef undef undef) (by kernel_rfl) (by kernel_rfl) (by kernel_rfl) (by kernel_rfl) (fun c x w => hQ c x _ _ w) (by kernel_rfl) (fun _ hS => o_load9 _ _ (only_cell hS hBl hBb hB0) rfl) (by kernel_rfl) (only_of_below C0) ?_
  refine take_h (i := 9) (oi := { dst := some 15, op := Op.fieldAddr 82 (Operand.tmp 5) 1, type := 0, pos := ps, after := #[], guard := none }) (fuel := 6) (v := (.pointer (some ⟨B, 1, none⟩))) (fr38 (.pointer (some ⟨t, 0, none⟩)) (.string name) v2 v3 v4 (.pointer (some ⟨B, 0, none⟩)) (.pointer (some ⟨t, 0, none⟩)) (.pointer (some ⟨t, 0, none⟩)) (.pointer (some ⟨t, 1, none⟩)) (.map (some b)) (.string name) undef (.pointer (some ⟨B, 0, none⟩)) (.string p) undef (.pointer (some ⟨B, 1, none⟩)) undef undef undef) (by kernel_rfl) (by kernel_rfl) (by kernel_rfl) (by kernel_rfl) (fun c x w => hQ c x _ _ w) (by kernel_rfl) (fun _ hS => o_field82_1 _ rfl) (by kernel_rfl) (only_of_below C0) ?_
  refine take_h (i := 10) (oi := { dst := some 16, op := Op.load 44 (Operand.tmp 15), type := 44, pos := ps, after := #[{ on := 9, ground := Ground.data }], guard := none }) (fuel := 5) (v := (.slice a L.length cap)) (fr38 (.pointer (some ⟨t, 0, none⟩)) (.string name) v2 v3 v4 (.pointer (some ⟨B, 0, none⟩)) (.pointer (some ⟨t, 0, none⟩)) (.pointer (some ⟨t, 0, none⟩)) (.pointer (some ⟨t, 1, none⟩)) (.map (some b)) (.string name) undef (.pointer (some ⟨B, 0, none⟩)) (.string p) undef (.pointer (some ⟨B, 1, none⟩)) (.slice a L.length cap) undef undef) (by kernel_rfl) (by kernel_rfl) (by kernel_rfl) (by kernel_rfl) (fun c x w => hQ c x _ _ w) (by kernel_rfl) (fun _ hS => o_load44 _ _ (only_cell hS hBl hBb hB1) rfl) (by kernel_rfl) (only_of_below C0) ?_
  refine want_h (i := 5) (oi := { dst := some 11, op := Op.call { callee := Callee.value (Operand.func 55), args := #[Operand.tmp 10], argTypes := #[9] }, type := 9, pos := ps, after := #[{ on := 4, ground := Ground.data }], guard := none }) (fuel := 4) (by kernel_rfl) (by kernel_rfl) (by kernel_rfl) fun K hK => ?_
  unfold fr38
  go_simp
  refine (strClone name hname _).mono ?_
  rintro e y1 ⟨rfl, hb⟩
  have C1 : Below w0.heap.size w0 y1 := C0.trans (hb.mono C0.size)
  clear hb
  refine hK _ _ (only_of_below C1) (cast_h (fr38 (.pointer (some ⟨t, 0, none⟩)) (.string name) v2 v3 v4 (.pointer (some ⟨B, 0, none⟩)) (.pointer (some ⟨t, 0, none⟩)) (.pointer (some ⟨t, 0, none⟩)) (.pointer (some ⟨t, 1, none⟩)) (.map (some b)) (.string name) (.string name) (.pointer (some ⟨B, 0, none⟩)) (.string p) undef (.pointer (some ⟨B, 1, none⟩)) (.slice a L.length cap) undef undef) (by kernel_rfl) ?_)
  clear hK K
  refine want_h (i := 8) (oi := { dst := some 14, op := Op.call { callee := Callee.value (Operand.func 55), args := #[Operand.tmp 13], argTypes := #[9] }, type := 9, pos := ps, after := #[{ on := 7, ground := Ground.data }, { on := 5, ground := Ground.chain }], guard := none }) (fuel := 3) (by kernel_rfl) (by kernel_rfl) (by kernel_rfl) fun K hK => ?_
  unfold fr38
  go_simp
  refine (strClone p hp _).mono ?_
  rintro e y2 ⟨rfl, hb⟩
  have C2 : Below w0.heap.size w0 y2 := C1.trans (hb.mono C1.size)
  clear hb
  refine hK _ _ (only_of_below C2) (cast_h (fr38 (.pointer (some ⟨t, 0, none⟩)) (.string name) v2 v3 v4 (.pointer (some ⟨B, 0, none⟩)) (.pointer (some ⟨t, 0, none⟩)) (.pointer (some ⟨t, 0, none⟩)) (.pointer (some ⟨t, 1, none⟩)) (.map (some b)) (.string name) (.string name) (.pointer (some ⟨B, 0, none⟩)) (.string p) (.string p) (.pointer (some ⟨B, 1, none⟩)) (.slice a L.length cap) undef undef) (by kernel_rfl) ?_)
  clear hK K
  refine want_h (i := 11) (oi := { dst := some 17, op := Op.call { callee := Callee.value (Operand.func 56), args := #[Operand.tmp 16], argTypes := #[44] }, type := 44, pos := ps, after := #[{ on := 10, ground := Ground.data }, { on := 8, ground := Ground.chain }], guard := none }) (fuel := 2) (by kernel_rfl) (by kernel_rfl) (by kernel_rfl) fun K hK => ?_
  unfold fr38
  go_simp
  refine (sclone_any _ L hLl _ (hL.below C2)).mono ?_
  rintro e y3 ⟨a2, cap2, rfl, hL2, hb, hnw⟩
  have hLX : SetsX X y3 (.slice a2 L.length cap2) L := ⟨hL2, hnw.imp_right fun hh b o l c e hx => absurd (hXL _ hx) (by have := hh _ _ _ _ e; have := C2.size; omega)⟩
  have C3 : Below w0.heap.size w0 y3 := C2.trans (hb.mono C2.size)
  clear hb
  refine hK _ _ (only_of_below C3) (cast_h (fr38 (.pointer (some ⟨t, 0, none⟩)) (.string name) v2 v3 v4 (.pointer (some ⟨B, 0, none⟩)) (.pointer (some ⟨t, 0, none⟩)) (.pointer (some ⟨t, 0, none⟩)) (.pointer (some ⟨t, 1, none⟩)) (.map (some b)) (.string name) (.string name) (.pointer (some ⟨B, 0, none⟩)) (.string p) (.string p) (.pointer (some ⟨B, 1, none⟩)) (.slice a L.length cap) (.slice a2 L.length cap2) undef) (by kernel_rfl) ?_)
  clear hK K
  refine take_h (i := 12) (oi := { dst := some 18, op := Op.build 82 #[(0, Operand.tmp 14), (1, Operand.tmp 17)], type := 82, pos := ps, after := #[{ on := 8, ground := Ground.data }, { on := 11, ground := Ground.data }], guard := none }) (fuel := 1) (v := (.agg #[.string p, .slice a2 L.length cap2])) (fr38 (.pointer (some ⟨t, 0, none⟩)) (.string name) v2 v3 v4 (.pointer (some ⟨B, 0, none⟩)) (.pointer (some ⟨t, 0, none⟩)) (.pointer (some ⟨t, 0, none⟩)) (.pointer (some ⟨t, 1, none⟩)) (.map (some b)) (.string name) (.string name) (.pointer (some ⟨B, 0, none⟩)) (.string p) (.string p) (.pointer (some ⟨B, 1, none⟩)) (.slice a L.length cap) (.slice a2 L.length cap2) (.agg #[.string p, .slice a2 L.length cap2])) (by kernel_rfl) (by kernel_rfl) (by kernel_rfl) (by kernel_rfl) (fun c x w => hQ c x _ _ w) (by kernel_rfl) (fun _ hS => o_build82 _ _ _ _ rfl rfl) (by kernel_rfl) (only_of_below C3) ?_
  refine want_h (i := 13) (oi := { dst := none, op := Op.mapUpdate 58 (Operand.tmp 9) (Operand.tmp 11) (Operand.tmp 18), type := 0, pos := ps, after := #[{ on := 3, ground := Ground.data }, { on := 5, ground := Ground.data }, { on := 12, ground := Ground.data }, { on := 11, ground := Ground.chain }, { on := 0, ground := Ground.phase }, { on := 1, ground := Ground.phase }, { on := 2, ground := Ground.phase }, { on := 3, ground := Ground.phase }, { on := 4, ground := Ground.phase }, { on := 5, ground := Ground.phase }, { on := 6, ground := Ground.phase }, { on := 7, ground := Ground.phase }, { on := 8, ground := Ground.phase }, { on := 9, ground := Ground.phase }, { on := 10, ground := Ground.phase }, { on := 11, ground := Ground.phase }, { on := 12, ground := Ground.phase }], guard := none }) (fuel := 0) (by kernel_rfl) (by kernel_rfl) (by kernel_rfl) fun K hK => ?_
  unfold fr38
  obtain ⟨y4, hrun, hnew, hon⟩ := (hSh.below C3).put (p := p) hname hLX hfull
  unfold styV at hrun
  unfold Oper.wp
  simp [execOp, Act.eval, hrun, Result.andThen, Oper.upon]
  have hfin : Only b w0 y4 := (only_of_below C3).trans hon
  refine hK _ _ hfin (cast_h (fr38 (.pointer (some ⟨t, 0, none⟩)) (.string name) v2 v3 v4 (.pointer (some ⟨B, 0, none⟩)) (.pointer (some ⟨t, 0, none⟩)) (.pointer (some ⟨t, 0, none⟩)) (.pointer (some ⟨t, 1, none⟩)) (.map (some b)) (.string name) (.string name) (.pointer (some ⟨B, 0, none⟩)) (.string p) (.string p) (.pointer (some ⟨B, 1, none⟩)) (.slice a L.length cap) (.slice a2 L.length cap2) (.agg #[.string p, .slice a2 L.length cap2])) (by kernel_rfl) ?_)
  clear hK K
  exact wpAnyH_done (by kernel_rfl) (hq _ _ _ hnew hfin) _
end Go.Proofs.Ytifkelpgpdgenaa
