/-
  What is proved here: maps in memory, read, turned and kept.
-/
import Derived.Test.YtfblhpkndfbhgaaDoorEach
import Derived.Maps.OwnSet
namespace Go.Proofs.YtfblhpkndfbhgaaDoor
open Go.RowKit Go.Shelf
open Go.Maps (Keyed)

/-- How an element reads: as itself. -/
def R0 (v : Value) : Option (DataW Value × List MemPlace) := some (.held v, [])
/-- A map in memory: its block, what it has of each key, and a bound on how many there are. -/
def MapAt {κ : Type} (kt : TypeId) (enc : κ → Lit) (w : World) (mb : Nat) (f : κ → Option Value) (M : Nat) : Prop :=
  ∃ D, w.ownsMap Tryd.prog kt R0 mb M D ∧ ∀ c z, D.atKey (enc c) z = (f c).elim z .held
section
variable {κ : Type} {kt : TypeId} {enc : κ → Lit} {w w' : World} {mb M : Nat} {f : κ → Option Value}
theorem MapAt.lt (h : MapAt kt enc w mb f M) : mb < w.heap.size := by obtain ⟨D, h1, _⟩ := h; exact h1.lt
theorem MapAt.isMap (h : MapAt kt enc w mb f M) : ∃ es clock, w.heap[mb]? = some (.map es clock) := by
  obtain ⟨D, ⟨es, clock, hb, _⟩, _⟩ := h; exact ⟨es, clock, hb⟩
theorem MapAt.mono {M' : Nat} (h : MapAt kt enc w mb f M) (hM : M ≤ M') : MapAt kt enc w mb f M' := by
  obtain ⟨D, h1, h2⟩ := h; exact ⟨D, h1.mono hM, h2⟩
theorem MapAt.turns {X : Nat → Prop} (h : MapAt kt enc w mb f M) (ht : Turns X w w') (hx : ¬ X mb) : MapAt kt enc w' mb f M := by
  have hlt := h.lt
  obtain ⟨D, ⟨es, clock, hb, r⟩, h2⟩ := h
  exact ⟨D, ⟨es, clock, (ht.block mb hlt hx).trans hb, r⟩, h2⟩
theorem MapAt.made (w : World) : MapAt kt enc (w.alloc (.map #[] 0)) w.heap.size (fun _ => none) 0 :=
  ⟨.map [], World.ownsMap_made w Tryd.prog kt R0, fun c z => by
    show DataW.atKey (.map []) (enc c) z = z
    rfl⟩
theorem MapAt.look (h : MapAt kt enc w mb f M) (K : Keyed Tryd.prog kt) {t e : TypeId} (ht : Tryd.prog.underlying t = some (.map kt e)) {z : Value} (hz : (zeroValue e).run Tryd.prog w = .ok z w) {key : Value} (c : κ) (hkey : keyOf Tryd.prog kt key = some (enc c)) :
    (Instr.lookup t (.map (some mb)) key false).run Tryd.prog w = .ok ((f c).getD z) w := by
  obtain ⟨D, h1, h2⟩ := h
  obtain ⟨v, ps, hrun, hv⟩ := h1.lookup K ht hz (zd := .held z) (zp := []) rfl hkey
  simp only [R0, Option.some.injEq, Prod.mk.injEq] at hv
  obtain ⟨hv, _⟩ := hv
  rw [h2] at hv
  rw [hrun]
  cases hf : f c with
  | none => rw [hf] at hv; cases hv; rfl
  | some u => rw [hf] at hv; cases hv; rfl
theorem MapAt.has (h : MapAt kt enc w mb f M) : ∃ D, w.ownsMap Tryd.prog kt R0 mb M D ∧ (∀ c z, D.atKey (enc c) z = (f c).elim z .held) ∧ ∀ c, Maps.has D (enc c) = (f c).isSome := by
  obtain ⟨D, h1, h2⟩ := h
  refine ⟨D, h1, h2, fun c => ?_⟩
  cases hf : f c with
  | none => exact Maps.has_false_of_atKey fun z => by rw [h2, hf]; rfl
  | some u => exact Maps.has_true_of_atKey (y := .held u) fun z => by rw [h2, hf]; rfl
theorem MapAt.look_ok (h : MapAt kt enc w mb f M) (K : Keyed Tryd.prog kt) {t e : TypeId} (ht : Tryd.prog.underlying t = some (.map kt e)) {z : Value} (hz : (zeroValue e).run Tryd.prog w = .ok z w) {key : Value} (c : κ) (hkey : keyOf Tryd.prog kt key = some (enc c)) :
    (Instr.lookup t (.map (some mb)) key true).run Tryd.prog w = .ok (.tuple #[(f c).getD z, .bool (f c).isSome]) w := by
  obtain ⟨D, h1, h2, h3⟩ := h.has
  obtain ⟨v, ps, hrun, hv⟩ := h1.look_ok K ht hz (zd := .held z) (zp := []) rfl hkey
  simp only [R0, Option.some.injEq, Prod.mk.injEq] at hv
  obtain ⟨hv, _⟩ := hv
  rw [h2] at hv
  rw [hrun, h3]
  cases hf : f c with
  | none => rw [hf] at hv; cases hv; rfl
  | some u => rw [hf] at hv; cases hv; rfl
theorem MapAt.put [DecidableEq κ] (h : MapAt kt enc w mb f M) (K : Keyed Tryd.prog kt) {t e : TypeId} (ht : Tryd.prog.underlying t = some (.map kt e)) (hM : M < maxLen) {key : Value} (c : κ) (hkey : keyOf Tryd.prog kt key = some (enc c)) (v : Value)
    (hi : ∀ a b, enc a = enc b → a = b) (hl : ∀ a, WideAt.IsKeyLit (enc a)) :
    ∃ w', (Instr.mapUpdate t (.map (some mb)) key v).run Tryd.prog w = .ok () w' ∧ MapAt kt enc w' mb (fun a => if a = c then some v else f a) (M + 1) ∧ Turns (fun k => k = mb) w w' := by
  obtain ⟨D, h1, h2⟩ := h
  obtain ⟨w', hrun, ho, hg⟩ := h1.update K ht hM hkey (val := v) (d := .held v) (ps := []) rfl
  refine ⟨w', hrun, ⟨_, ho, fun a z => ?_⟩, ⟨hg.os, hg.tape, hg.output, hg.size, fun k hk hx => hg.block k hk (by simp; exact hx)⟩⟩
  by_cases e : a = c
  · subst e
    simp only [if_true]
    exact Maps.atKey_put_same h1.isMap (hl _) _ _
  · simp only [e, if_false]
    rw [Maps.atKey_put_other (fun h => e (hi _ _ h)), h2]
end
def encB (c : UInt8) : Lit := .int .u8 c.toNat
theorem encB_inj (a b : UInt8) (h : encB a = encB b) : a = b := by
  simp [encB] at h
  exact UInt8.toNat_inj.1 (by omega)
theorem law5 : Keyed Tryd.prog 5 := Maps.int_keyed Tryd.underlying5
theorem keyOf5 (c : UInt8) : keyOf Tryd.prog 5 (.int .u8 c.toNat) = some (encB c) := Maps.keyOf_int_mk Tryd.underlying5 (by
  have := c.toNat_lt
  have h0 : IntKind.u8.min = 0 := rfl
  have h1 : IntKind.u8.max = 255 := rfl
  simp [Lit.wf]
  omega)
theorem zero79 (w : World) : (zeroValue 79).run Tryd.prog w = .ok (.pointer none) w := by kernel_rfl
def encS (s : ByteArray) : Lit := .string s.data.toList
theorem encS_inj (a b : ByteArray) (h : encS a = encS b) : a = b := by
  have h1 : a.data.toList = b.data.toList := by simpa [encS] using h
  have h2 : a.data = b.data := Array.toList_inj.1 h1
  obtain ⟨a⟩ := a; obtain ⟨b⟩ := b; simp at h2; rw [h2]
theorem law9 : Keyed Tryd.prog 9 := Maps.string_keyed Tryd.underlying9
theorem keyOf9 {s : ByteArray} (h : s.size ≤ maxLen) : keyOf Tryd.prog 9 (.string s) = some (encS s) := Go.WideMaps.keyOf_string_mk Tryd.underlying9 h
theorem zero34 (w : World) : (zeroValue 34).run Tryd.prog w = .ok (.slice none 0 0) w := by kernel_rfl
end Go.Proofs.YtfblhpkndfbhgaaDoor
