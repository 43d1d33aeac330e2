/-
  What is proved here: bands, slots, what bands leave of a line, and how that hangs together (no function of the program is named).
-/
import Derived.Test.YthdlhikpjpfpeaaRec
import Derived.Test.YthdlhikpjpfpeaaRows
import Derived.WalkKit
import Derived.WalkSpells
import Derived.LoopN
namespace Go.Proofs.Ythdlhikpjpfpeaa
open Go.RowKit Go.Shelf

/-- A band: its side, its place, its height, its width. -/
structure Bd where
  s : Int
  y : Int
  h : Int
  w : Int
def bdL (b : Bd) : List Value := [.int .i64 b.s, .int .i64 b.y, .int .i64 b.h, .int .i64 b.w]
def bdC (b : Bd) : Array Value := #[.int .i64 b.s, .int .i64 b.y, .int .i64 b.h, .int .i64 b.w]
def bdV (b : Bd) : Value := .agg #[.int .i64 b.s, .int .i64 b.y, .int .i64 b.h, .int .i64 b.w]
theorem bdL_len (b : Bd) : (bdL b).length = 4 := rfl
theorem bdL_one (b : Bd) : ∀ u ∈ bdL b, u.oneCell' = true := by intro u hu; simp [bdL] at hu; rcases hu with rfl | rfl | rfl | rfl <;> rfl
theorem bdC_one (b : Bd) : (bdC b).all (·.oneCell') = true := by simp [bdC, Value.oneCell']
/-- A slot: where it begins, how wide it is. -/
structure Sl where
  x : Int
  w : Int
def slL (s : Sl) : List Value := [.int .i64 s.x, .int .i64 s.w]
def slC (s : Sl) : Array Value := #[.int .i64 s.x, .int .i64 s.w]
def slV (s : Sl) : Value := .agg #[.int .i64 s.x, .int .i64 s.w]
theorem slL_len (s : Sl) : (slL s).length = 2 := rfl
theorem slL_one (s : Sl) : ∀ u ∈ slL s, u.oneCell' = true := by intro u hu; simp [slL] at hu; rcases hu with rfl | rfl <;> rfl
theorem slC_one (s : Sl) : (slC s).all (·.oneCell') = true := by simp [slC, Value.oneCell']
def sl0 : Sl := ⟨0, 0⟩

def inB (n : Int) : Bool := decide (0 ≤ n ∧ n ≤ 4095)
theorem inB_get {n : Int} (h : inB n = true) : 0 ≤ n ∧ n ≤ 4095 := of_decide_eq_true h
def sdB (k : Int) : Bool := k == 0 || k == 2
theorem sd_get {k : Int} (h : sdB k = true) : k = 0 ∨ k = 2 := by
  unfold sdB at h
  simpa only [Bool.or_eq_true, beq_iff_eq] using h
theorem sd_of {k : Int} (h : k = 0 ∨ k = 2) : sdB k = true := by
  unfold sdB
  simpa only [Bool.or_eq_true, beq_iff_eq] using h
def bdB (b : Bd) : Bool := sdB b.s && inB b.y && inB b.h && inB b.w
/-- Why bands may not be, from the first one on. -/
def ckL : List Bd → Int
  | [] => 0
  | b :: r => if sdB b.s = true then (if inB b.y = true ∧ inB b.h = true ∧ inB b.w = true then ckL r else 5) else 2
def ckI (l : List Bd) : Int := if 64 < l.length then 3 else ckL l
/-- Bands that may be. -/
def Ok (l : List Bd) : Prop := l.length ≤ 64 ∧ ∀ b ∈ l, (b.s = 0 ∨ b.s = 2) ∧ (0 ≤ b.y ∧ b.y ≤ 4095) ∧ (0 ≤ b.h ∧ b.h ≤ 4095) ∧ (0 ≤ b.w ∧ b.w ≤ 4095)
theorem ckL_ok : ∀ {l : List Bd}, ckL l = 0 → ∀ b ∈ l, (b.s = 0 ∨ b.s = 2) ∧ (0 ≤ b.y ∧ b.y ≤ 4095) ∧ (0 ≤ b.h ∧ b.h ≤ 4095) ∧ (0 ≤ b.w ∧ b.w ≤ 4095)
  | [], _, b, hb => by simp at hb
  | c :: r, h, b, hb => by
    unfold ckL at h
    split at h
    · rename_i h1
      split at h
      · rename_i h2
        rcases List.mem_cons.1 hb with rfl | hb
        · exact ⟨sd_get h1, inB_get h2.1, inB_get h2.2.1, inB_get h2.2.2⟩
        · exact ckL_ok h b hb
      · omega
    · omega
theorem ckI_ok {l : List Bd} (h : ckI l = 0) : Ok l := by
  unfold ckI at h
  split at h
  · omega
  · exact ⟨by omega, ckL_ok h⟩
theorem ckL_of : ∀ {l : List Bd}, (∀ b ∈ l, (b.s = 0 ∨ b.s = 2) ∧ (0 ≤ b.y ∧ b.y ≤ 4095) ∧ (0 ≤ b.h ∧ b.h ≤ 4095) ∧ (0 ≤ b.w ∧ b.w ≤ 4095)) → ckL l = 0
  | [], _ => rfl
  | c :: r, h => by
    obtain ⟨h1, h2, h3, h4⟩ := h c (List.mem_cons_self ..)
    unfold ckL
    have e1 : sdB c.s = true := sd_of h1
    have e2 : inB c.y = true ∧ inB c.h = true ∧ inB c.w = true := ⟨decide_eq_true h2, decide_eq_true h3, decide_eq_true h4⟩
    rw [if_pos e1, if_pos e2]
    exact ckL_of fun b hb => h b (List.mem_cons_of_mem _ hb)
theorem ckI_of {l : List Bd} (h : Ok l) : ckI l = 0 := by
  unfold ckI
  rw [if_neg (by have := h.1; omega)]
  exact ckL_of h.2
theorem Ok.get {l : List Bd} (h : Ok l) (k : Nat) (hk : k < l.length) : (l[k].s = 0 ∨ l[k].s = 2) ∧ (0 ≤ l[k].y ∧ l[k].y ≤ 4095) ∧ (0 ≤ l[k].h ∧ l[k].h ≤ 4095) ∧ (0 ≤ l[k].w ∧ l[k].w ≤ 4095) := h.2 _ (List.getElem_mem hk)
theorem Ok.tail {b : Bd} {l : List Bd} (h : Ok (b :: l)) : Ok l := ⟨by have := h.1; simp at this; omega, fun c hc => h.2 c (List.mem_cons_of_mem _ hc)⟩

/-- The first place below the bands of a side. -/
def belF (s : Int) : List Bd → Int → Int
  | [], y => y
  | b :: r, y => belF s r (if b.s = s then max y (b.y + b.h) else y)
/-- Is a line beside a band? -/
def bsB (f t : Int) (b : Bd) : Bool := decide (max b.y f < min (b.y + b.h) t)
/-- The greatest width of a side's bands beside a line. -/
def widF (s f t : Int) : List Bd → Int → Int
  | [], m => m
  | b :: r, m => widF s f t r (if b.s = s ∧ bsB f t b = true then max m b.w else m)
theorem widF_rng (s f t : Int) : ∀ (l : List Bd) (m : Int), Ok l → 0 ≤ m → m ≤ 4095 → 0 ≤ widF s f t l m ∧ widF s f t l m ≤ 4095
  | [], m, _, h0, h1 => ⟨h0, h1⟩
  | b :: r, m, h, h0, h1 => by
    obtain ⟨_, _, _, h2⟩ := h.2 b (List.mem_cons_self ..)
    unfold widF
    refine widF_rng s f t r _ h.tail ?_ ?_
    all_goals split <;> omega
def sloS (w : Int) (l : List Bd) (y p : Int) : Sl := ⟨widF 0 y (y + p) l 0, max (w - widF 0 y (y + p) l 0 - widF 2 y (y + p) l 0) 0⟩
/-- What Slots answers. -/
def slsE (w : Int) (l : List Bd) (y p n : Int) : Int := if ckI l = 0 then (if inB w = true ∧ inB y = true ∧ (1 ≤ p ∧ p ≤ 255) ∧ (0 ≤ n ∧ n ≤ 256) then 0 else 5) else ckI l
def slsL (w : Int) (l : List Bd) (y p n : Int) : List Sl := if slsE w l y p n = 0 then (List.range n.toNat).map (fun i => sloS w l (y + (i : Nat) * p) p) else []
/-- What Put answers. -/
def putE (w : Int) (l : List Bd) (s y h wd : Int) : Int := if ckI l = 0 then (if sdB s = true then (if inB w = true ∧ inB y = true ∧ inB h = true ∧ inB wd = true then 0 else 5) else 2) else ckI l
def putB (w : Int) (l : List Bd) (s y h wd : Int) : Bd := if putE w l s y h wd = 0 then ⟨s, belF s l y, h, min wd ((max (w - 10) 0) / 2)⟩ else ⟨0, 0, 0, 0⟩
/-- What Clear answers. -/
def clrE (l : List Bd) (y : Int) : Int := if ckI l = 0 then (if inB y = true then 0 else 5) else ckI l
def clrF : List Bd → Int → Int
  | [], y => y
  | b :: r, y => clrF r (max y (b.y + b.h))
def clrV (l : List Bd) (y : Int) : Int := if clrE l y = 0 then clrF l y else 0
theorem bel_two : ∀ (l : List Bd) (a b : Int), Ok l → max (belF 0 l a) (belF 2 l b) = clrF l (max a b)
  | [], a, b, _ => rfl
  | c :: r, a, b, h => by
    unfold belF clrF
    rw [bel_two r _ _ h.tail]
    obtain ⟨h1, _⟩ := h.2 c (List.mem_cons_self ..)
    congr 1
    rcases h1 with e | e
    · rw [if_pos e, if_neg (by omega)]; omega
    · rw [if_neg (by omega), if_pos e]; omega
theorem bel_clr (l : List Bd) (y : Int) (h : Ok l) : max (belF 0 l y) (belF 2 l y) = clrF l y := by rw [bel_two l y y h]; congr 1; omega
theorem belF_rng (s : Int) : ∀ (l : List Bd) (y m : Int), 0 ≤ y → y ≤ m → (∀ b ∈ l, 0 ≤ b.y + b.h ∧ b.y + b.h ≤ m) → y ≤ belF s l y ∧ belF s l y ≤ m
  | [], y, m, _, h1, _ => ⟨Int.le_refl _, h1⟩
  | c :: r, y, m, h0, h1, h2 => by
    have := h2 c (List.mem_cons_self ..)
    unfold belF
    have h3 := belF_rng s r (if c.s = s then max y (c.y + c.h) else y) m (by split <;> omega) (by split <;> omega) (fun b hb => h2 b (List.mem_cons_of_mem _ hb))
    refine ⟨?_, h3.2⟩
    have h4 := h3.1
    split at h4 <;> split <;> omega
theorem belF_ge (s : Int) : ∀ (l : List Bd) (y : Int), y ≤ belF s l y ∧ ∀ b ∈ l, b.s = s → b.y + b.h ≤ belF s l y
  | [], y => ⟨Int.le_refl _, fun b hb => by simp at hb⟩
  | c :: r, y => by
    unfold belF
    obtain ⟨h1, h2⟩ := belF_ge s r (if c.s = s then max y (c.y + c.h) else y)
    refine ⟨?_, fun b hb e => ?_⟩
    · split at h1 <;> split <;> omega
    · rcases List.mem_cons.1 hb with rfl | hb
      · rw [if_pos e] at h1 ⊢; omega
      · exact h2 b hb e
theorem clrF_ge : ∀ (l : List Bd) (y : Int), y ≤ clrF l y ∧ ∀ b ∈ l, b.y + b.h ≤ clrF l y
  | [], y => ⟨Int.le_refl _, fun b hb => by simp at hb⟩
  | c :: r, y => by
    unfold clrF
    obtain ⟨h1, h2⟩ := clrF_ge r (max y (c.y + c.h))
    refine ⟨by omega, fun b hb => ?_⟩
    rcases List.mem_cons.1 hb with rfl | hb
    · omega
    · exact h2 b hb
theorem drop_at {l : List Bd} {k : Nat} (h : k < l.length) : l.drop k = l[k] :: l.drop (k + 1) := List.drop_eq_getElem_cons h
end Go.Proofs.Ythdlhikpjpfpeaa
