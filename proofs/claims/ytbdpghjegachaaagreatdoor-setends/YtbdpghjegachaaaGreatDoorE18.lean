/-
  What is proved here: what except of a hyph does.
  What is proved here: what all answers of patterns and of exceptions.
-/
import Derived.Test.YtbdpghjegachaaaGreatDoorE17
namespace Go.Proofs.YtbdpghjegachaaaGreatDoor.Hy
open Go.RowKit Go.Shelf
set_option maxRecDepth 100000
set_option maxHeartbeats 2000000
attribute [local go_sem] Oper.semAt_some wide_fn wide_depth

def excW (x : Bs) : Bs := wordTo (parts x) (parts x).length
def excP (x : Bs) : List Int := plTo (parts x) (parts x).length
theorem wordTo_len (x : Bs) : ∀ j,(wordTo (parts x) j).length ≤ x.length := by
 suffices h : ∀ x : Bs,(parts x).flatten.length ≤ x.length by
  intro j
  refine Nat.le_trans ?_ (h x)
  unfold wordTo
  have e : (parts x).flatten = ((parts x).take j).flatten ++ ((parts x).drop j).flatten := by rw [← List.flatten_append,List.take_append_drop]
  rw [e,List.length_append]; omega
 intro x
 induction x with
 | nil => simp [parts]
 | cons c l ih =>
  rw [parts]
  split
  ·simp; simp at ih; omega
  ·cases hp : parts l with
   | nil => exact absurd hp (parts_ne l)
   | cons a b =>
    rw [hp] at ih
    simp at ih ⊢; omega
theorem parts_cnt : ∀ x : Bs,(parts x).length ≤ x.length + 1
 | [] => by simp [parts]
 | c :: l => by
  have := parts_cnt l
  rw [parts]
  split
  ·simp; omega
  ·split
   ·rename_i e; rw [e] at this; simp at this ⊢; omega
   ·simp
def EP (_w : World) (base hb : Nat) (T : Tr) (E : Ex) (N : Ns) (em M : Nat) (V : Vs) (x : Bs) (w' : World) : Prop :=
 if (E (excW x)).isSome then HyphAt w' base hb T E N em M V else ∃ V',HyphAt w' base hb T (setV E (excW x) (excP x)) N em (M + 1) V'

theorem cells_one (W : World) (u : Value) (e : TypeId) : ∀ j v,[u][j]? = some v → (W.alloc (.cells #[u] e)).cell? ((⟨W.heap.size,0,none⟩ : Addr).add j) = some v := fun j v hj => by
 match j,hj with
 | 0,hj =>
  simp at hj
  subst hj
  rw [addr_add0,Lib.cell_of_heap (World.alloc_heap_new W (.cells #[u] e (0,0)))]; rfl
theorem except_any {w : World} {base hb : Nat} {T : Tr} {E : Ex} {N : Ns} {em M : Nat} {V : Vs} (h : HyphAt w base hb T E N em M V) (hbase : base ≤ w.heap.size) (hM : M < 900000) (x : ByteArray) (hx : x.size ≤ 200) :
  Calls Tryz.prog 179 #[.pointer (some ⟨hb,0,none⟩),.string x] w fun e w' => e = .returned (.bool (!(E (excW x.data.toList)).isSome)) ∧ Turns (fun k => k = em) w w' ∧ EP w base hb T E N em M V x.data.toList w' := by
 obtain ⟨i3,hi⟩ := Option.isSome_iff_exists.1 (show (Tryz.prog.info? 3).isSome = true by kernel_rfl)
 have hz0 : i3.zero = some (.int .i64 0) := by
  have h : (Tryz.prog.info? 3).map (·.zero) = some (some (.int .i64 0)) := by kernel_rfl
  rw [hi] at h; simpa using h
 have hz1 : i3.size = 1 := by
  have h : (Tryz.prog.info? 3).map (·.size) = some 1 := by kernel_rfl
  rw [hi] at h; simpa using h
 have hz2 : i3.bytes = 8 := by
  have h : (Tryz.prog.info? 3).map (·.bytes) = some 8 := by kernel_rfl
  rw [hi] at h; simpa using h
 obtain ⟨i5,hi5⟩ := Option.isSome_iff_exists.1 (show (Tryz.prog.info? 5).isSome = true by kernel_rfl)
 have hy0 : i5.zero = some (.int .u8 0) := by
  have h : (Tryz.prog.info? 5).map (·.zero) = some (some (.int .u8 0)) := by kernel_rfl
  rw [hi5] at h; simpa using h
 have hy1 : i5.size = 1 := by
  have h : (Tryz.prog.info? 5).map (·.size) = some 1 := by kernel_rfl
  rw [hi5] at h; simpa using h
 have hy2 : i5.bytes = 1 := by
  have h : (Tryz.prog.info? 5).map (·.bytes) = some 1 := by kernel_rfl
  rw [hi5] at h; simpa using h
 have hsome := h.some_iff (excW x.data.toList)
 generalize hr : (E (excW x.data.toList)).isSome = r at hsome ⊢
 have hrh : Hid ((E (excW x.data.toList)).isSome = r) := hr
 clear hr
 refine callsIn_wide (n := 0).1 ?_
 refine callsIn_of_wp_marks Tryz.func179 rfl trivial ?_ rfl
 simp only [Tryz.ntmps179,List.size_toArray,List.length_cons,List.length_nil,Nat.reduceAdd,Nat.reduceSub,Array.replicate_succ,Array.replicate_zero,List.push_toArray,List.append_toArray,List.nil_append,List.cons_append]
 gi_wp2_with (gi_at_call 200; refine (callsIn_wide.2 (split_any _ _)).mono ?_; rintro e w' ⟨rfl,rfl⟩)
 obtain ⟨w1,hw1⟩ : ∃ w1,(w.alloc (.cells #[.slice none 0 0] 176)).alloc (.cells #[.slice none 0 0] 44) = w1 := ⟨_,rfl⟩
 have hs1 : w1.heap.size = w.heap.size + 1 + 1 := by rw [← hw1]; simp
 have hB0 : Blk w1 w.heap.size #[.slice none 0 0] 176 := by rw [← hw1]; exact (Below.heap_alloc _ _ _ (by simp)).trans (World.alloc_heap_new w _)
 have hB1 : Blk w1 (w.heap.size + 1) #[.slice none 0 0] 44 := by
  rw [← hw1]
  have := World.alloc_heap_new (w.alloc (.cells #[.slice none 0 0] 176)) (.cells #[.slice none 0 0] 44)
  rwa [World.size_alloc] at this
 have hT1 : Turns Noth w w1 := by rw [← hw1]; exact (Turns.alloc _ _ _).trans (Turns.alloc _ _ _)
 rw [hw1,← hs1]
 have hlen := wordTo_len x.data.toList
 rw [size_ba] at hlen
 have hpc := parts_cnt x.data.toList
 rw [size_ba] at hpc
 have hst0 : S2 w1 w.heap.size (w.heap.size + 1) (.slice none 0 0) (.slice none 0 0) (wordTo (parts x.data.toList) 0) (plTo (parts x.data.toList) 0) (X3 w1.heap.size) (splitW x w1) :=
  ⟨splitW_base x w1 _,hB0.turns (splitW_turns x w1 Noth) (fun h => h),hB1.turns (splitW_turns x w1 Noth) (fun h => h),World.ownsRow_nil _ _ _ _,World.ownsRow_nil _ _ _ _,(fun g hg => by cases hg),(fun g hg => by cases hg)⟩
 refine wp_rangeX (gf := 223) (lb := splitV w1.heap.size) rfl (enters_of Tryz.func223 (by kernel_rfl) rfl) (split1_gives w1.heap.size x (by omega)) (fun _ => rfl)
  (fun j X W => ∃ wv pv,S2 w1 w.heap.size (w.heap.size + 1) wv pv (wordTo (parts x.data.toList) j) (plTo (parts x.data.toList) j) X W)
  (fun c j X W => False)
  (fun a' j X W => (∃ wv pv,S2 w1 w.heap.size (w.heap.size + 1) wv pv (wordTo (parts x.data.toList) j) (plTo (parts x.data.toList) j) X W) ∧
   a' = { tmps := #[.pointer (some ⟨hb,0,none⟩),.string x,undef,undef,.bool false,.pointer (some ⟨w.heap.size,0,none⟩),.pointer (some ⟨w.heap.size + 1,0,none⟩),.string (partN x j),undef,undef,.string x,.func (.func 223) #[] (splitV w1.heap.size),.string (partN x j),undef,undef,undef,undef,undef,undef,undef,undef,undef,undef,undef,undef,undef,undef,undef,undef,undef,undef,undef,undef,undef,undef,undef,undef,undef,undef,undef,undef,undef],defers := [] })
  (S2.steady w1 _ _ (by omega) (by omega) _ _) (fun c => steady_never) (fun a' => (S2.steady w1 _ _ (by omega) (by omega) _ _).and (Steady.pure _)) (splitW_read x w1) ?hX ⟨_,_,hst0⟩ ?assign ?body ?done ?stop
 case hX => intro k hk; rw [splitW_size]; rcases hk with rfl | rfl | rfl <;> omega
 case assign =>
  rintro l j X W K hj hS hK
  unfold encP
  gi_wp2
  exact hK _ _ (Keeps.refl _ _) ⟨hS,by rw [hs1]⟩
 case body =>
  rintro l j X a' W hj ⟨⟨wv,pv,hS⟩,rfl⟩
  have hws := wordTo_succ hj
  rw [← partN_is hj] at hws
  have hplj := plTo_len (parts x.data.toList) j
  have hpls : plTo (parts x.data.toList) (j + 1) = if 0 < (wordTo (parts x.data.toList) j).length then plTo (parts x.data.toList) j ++ [((wordTo (parts x.data.toList) j).length : Int)] else plTo (parts x.data.toList) j := rfl
  have hl0 := hlen j
  have hl1 := hlen (j + 1)
  have hlw : (wordTo (parts x.data.toList) (j + 1)).length = (wordTo (parts x.data.toList) j).length + (partN x j).size := by rw [hws,List.length_append,size_ba]
  have hbs := hS.base.turns.size
  have hsum : (wordTo (parts x.data.toList) j).length + (partN x j).size ≤ 200 := by omega
  have hgo : Hid (∀ W1 pv1 pl1,S2 w1 w.heap.size (w.heap.size + 1) wv pv1 (wordTo (parts x.data.toList) j) pl1 X W1 → Keeps X W W1 → plTo (parts x.data.toList) (j + 1) = pl1 → ∀ wv' W2,W2.ownsRow w1.heap.size 5 1 wv' ((wordTo (parts x.data.toList) j).length + (partN x j).size) (Lib.byteCells (wordTo (parts x.data.toList) j) ++ Lib.strCells (partN x j)) → W1.grownBy W2 wv.ownBlock →
    (wv'.ownBlock = wv.ownBlock ∨ ∀ g,wv'.ownBlock = some g → W1.heap.size ≤ g) → (W2.frozen? ⟨w.heap.size,0,none⟩ = false ∧ W2.cell? ⟨w.heap.size,0,none⟩ = some wv) ∧ Keeps X W (W2.setCell ⟨w.heap.size,0,none⟩ wv') ∧ ∃ wv pv,S2 w1 w.heap.size (w.heap.size + 1) wv pv (wordTo (parts x.data.toList) (j + 1)) (plTo (parts x.data.toList) (j + 1)) X (W2.setCell ⟨w.heap.size,0,none⟩ wv')) := by
   intro W1 pv1 pl1 h1 hk1 hpl wv' W2 h2 h3 h4
   have hb2 : Blk W2 w.heap.size #[wv] 176 := h1.bw.turns (Turns.of_grownBy h3) (fun e => row_ne h1.rw h1.bw (by decide) e)
   have hT : Turns (fun k => k = w.heap.size ∨ wv.ownBlock = some k) W1 (W2.setCell ⟨w.heap.size,0,none⟩ wv') := ((Turns.of_grownBy h3).mono (fun k hk => .inr hk)).trans (Turns.setCell W2 (p := ⟨w.heap.size,0,none⟩) (.inl rfl) _)
   have h2' : W2.ownsRow w1.heap.size 5 1 wv' (wordTo (parts x.data.toList) (j + 1)).length (Lib.byteCells (wordTo (parts x.data.toList) (j + 1))) := by
    rw [hlw,hws,byteCells_append,← strCells_eq]; exact h2
   obtain ⟨q1,q2⟩ := h1.word (by omega) (by omega) hT (hb2.set 0 wv') (ownsRow_turns h2' (Turns.setCell (X := fun k => k = w.heap.size) W2 (p := ⟨w.heap.size,0,none⟩) rfl _) (fun g hg (e : g = w.heap.size) => by subst e; have := (h2'.lt _ hg).1; omega)) h4
   refine ⟨⟨hb2.free 0,by rw [hb2.cell]; rfl⟩,hk1.trans q2,wv',pv1,?_⟩
   rw [hpl]; exact q1
  have cw : W.cell? ⟨w.heap.size,0,none⟩ = some wv := by rw [hS.bw.cell]; rfl
  have cp : W.cell? ⟨w.heap.size + 1,0,none⟩ = some pv := by rw [hS.bp.cell]; rfl
  obtain ⟨aw,capw,hwv⟩ := row_val hS.rw
  obtain ⟨ap,capp,hpv⟩ := row_val hS.rp
  by_cases hpos : 0 < (wordTo (parts x.data.toList) j).length
  ·rw [if_pos hpos] at hpls
   have hpl2 : Hid (∀ pv' W2,W2.ownsRow w1.heap.size 3 1 pv' ((plTo (parts x.data.toList) j).length + 1) (ints (plTo (parts x.data.toList) j) ++ [.int .i64 ((wordTo (parts x.data.toList) j).length : Int)]) → (W.alloc (.cells #[.int .i64 ((wordTo (parts x.data.toList) j).length : Int)] 3)).grownBy W2 pv.ownBlock →
     (pv'.ownBlock = pv.ownBlock ∨ ∀ g,pv'.ownBlock = some g → (W.alloc (.cells #[.int .i64 ((wordTo (parts x.data.toList) j).length : Int)] 3)).heap.size ≤ g) → (W2.frozen? ⟨w.heap.size + 1,0,none⟩ = false ∧ W2.cell? ⟨w.heap.size + 1,0,none⟩ = some pv) ∧ Keeps X W (W2.setCell ⟨w.heap.size + 1,0,none⟩ pv') ∧ S2 w1 w.heap.size (w.heap.size + 1) wv pv' (wordTo (parts x.data.toList) j) (plTo (parts x.data.toList) (j + 1)) X (W2.setCell ⟨w.heap.size + 1,0,none⟩ pv')) := by
    intro pv' W2 h2 h3 h4
    have hTg : Turns (fun k => pv.ownBlock = some k) W W2 := (Turns.alloc _ _ _).trans (Turns.of_grownBy h3)
    have hb2 : Blk W2 (w.heap.size + 1) #[pv] 44 := hS.bp.turns hTg (fun e => row_ne hS.rp hS.bp (by decide) e)
    have hT : Turns (fun k => k = w.heap.size + 1 ∨ pv.ownBlock = some k) W (W2.setCell ⟨w.heap.size + 1,0,none⟩ pv') := (hTg.mono (fun k hk => .inr hk)).trans (Turns.setCell W2 (p := ⟨w.heap.size + 1,0,none⟩) (.inl rfl) _)
    have h2' : W2.ownsRow w1.heap.size 3 1 pv' (plTo (parts x.data.toList) (j + 1)).length (ints (plTo (parts x.data.toList) (j + 1))) := by
     rw [hpls,ints_append,List.length_append]; exact h2
    obtain ⟨q1,q2⟩ := hS.places (by omega) (by omega) hT (hb2.set 0 pv') (ownsRow_turns h2' (Turns.setCell (X := fun k => k = w.heap.size + 1) W2 (p := ⟨w.heap.size + 1,0,none⟩) rfl _) (fun g hg (e : g = w.heap.size + 1) => by subst e; have := (h2'.lt _ hg).1; omega)) (h4.imp id (fun h g hg => Nat.le_trans (by simp) (h g hg)))
    exact ⟨⟨hb2.free 0,by rw [hb2.cell]; rfl⟩,q2,q1⟩
   have hrw := hS.rw
   have hrp := hS.rp
   subst hwv hpv
   have hSh : Hid (S2 w1 w.heap.size (w.heap.size + 1) (.slice aw (wordTo (parts x.data.toList) j).length capw) (.slice ap (plTo (parts x.data.toList) j).length capp) (wordTo (parts x.data.toList) j) (plTo (parts x.data.toList) j) X W) := hS
   have hrph : Hid (W.ownsRow w1.heap.size 3 1 (.slice ap (plTo (parts x.data.toList) j).length capp) (plTo (parts x.data.toList) j).length (ints (plTo (parts x.data.toList) j))) := hrp
   clear hS hrw hrp hws hlw hpls
   generalize hwl : (wordTo (parts x.data.toList) j).length = wl at *
   generalize hpl : (plTo (parts x.data.toList) j).length = pll at *
   have hpos' : (0 : Int) < wl := by omega
   gi_wp2_with (gi_at_builtin; first
    | (refine wpListIn_append_where _ rfl _ _ 44 rfl w1.heap.size 3 i3 _ 1 8 Tryz.underlying44 hi hz0 hz1 hz2 rfl (by decide) _ _ _ rfl (hrph.out.alloc _) ⟨W.heap.size, 0, none⟩ 1 1 [.int .i64 wl] rfl rfl (cells_one W _ _) (by simp [Value.oneCell']) (by unfold maxLen; omega) (by omega) (by simp; omega) ?_; intro v' w2 hown' hgrow hwh; obtain ⟨g', cap', rfl⟩ := row_val hown'; obtain ⟨⟨hf1, hc1⟩, hk1, hS1⟩ := hpl2.out _ w2 hown' hgrow hwh; have c3 : (w2.setCell ⟨w.heap.size + 1, 0, none⟩ (.slice g' (pll + 1) cap')).cell? ⟨w.heap.size, 0, none⟩ = some (.slice aw wl capw) := by rw [hS1.bw.cell]; rfl
       have hS1h : Hid (S2 w1 w.heap.size (w.heap.size + 1) (.slice aw wl capw) (.slice g' (pll + 1) cap') (wordTo (parts x.data.toList) j) (plTo (parts x.data.toList) (j + 1)) X (w2.setCell ⟨w.heap.size + 1,0,none⟩ (.slice g' (pll + 1) cap'))) := hS1
       have hk1h : Hid (Keeps X W (w2.setCell ⟨w.heap.size + 1,0,none⟩ (.slice g' (pll + 1) cap'))) := hk1
       have hrw1 : Hid ((w2.setCell ⟨w.heap.size + 1,0,none⟩ (.slice g' (pll + 1) cap')).ownsRow w1.heap.size 5 1 (.slice aw wl capw) wl (Lib.byteCells (wordTo (parts x.data.toList) j))) := hwl ▸ hS1.rw
       clear hS1 hk1 hown' hgrow hwh)
    | (refine wpListIn_append_where_string _ rfl _ _ 176 9 rfl w1.heap.size 5 i5 Tryz.underlying176 Tryz.underlying9 hi5 hy0 hy1 hy2 _ wl _ rfl hrw1.out (partN x j) rfl (by unfold maxLen; omega) (by omega) (by have := hk1h.out.size; omega) ?_; intro v' w3 hown' hgrow hwh; obtain ⟨g2',cap2',rfl⟩ := row_val hown'; obtain ⟨⟨hf2,hc2⟩,hk2,hS2⟩ := hgo.out _ _ _ hS1h.out hk1h.out rfl _ w3 hown' hgrow hwh))
   exact ⟨hk2,hS2⟩
  ·rw [if_neg hpos] at hpls
   have hrw := hS.rw
   subst hwv
   have hSh : Hid (S2 w1 w.heap.size (w.heap.size + 1) (.slice aw (wordTo (parts x.data.toList) j).length capw) pv (wordTo (parts x.data.toList) j) (plTo (parts x.data.toList) j) X W) := hS
   have hrwh : Hid (W.ownsRow w1.heap.size 5 1 (.slice aw (wordTo (parts x.data.toList) j).length capw) (wordTo (parts x.data.toList) j).length (Lib.byteCells (wordTo (parts x.data.toList) j))) := hrw
   have hplsh : Hid (plTo (parts x.data.toList) (j + 1) = plTo (parts x.data.toList) j) := hpls
   clear hS hrw hws hlw hpls
   generalize hwl : (wordTo (parts x.data.toList) j).length = wl at *
   have hpos' : ¬ (0 : Int) < wl := by omega
   gi_wp2_with (gi_at_builtin; refine wpListIn_append_where_string _ rfl _ _ 176 9 rfl w1.heap.size 5 i5 Tryz.underlying176 Tryz.underlying9 hi5 hy0 hy1 hy2 _ wl _ rfl hrwh.out (partN x j) rfl (by unfold maxLen; omega) (by omega) (by omega) ?_; intro v' w3 hown' hgrow hwh; obtain ⟨g2',cap2',rfl⟩ := row_val hown'; obtain ⟨⟨hf2,hc2⟩,hk2,hS2⟩ := hgo.out _ _ _ hSh.out (Keeps.refl _ _) hplsh.out _ w3 hown' hgrow hwh)
   exact ⟨hk2,hS2⟩
 case done =>
  rintro D W hD ⟨wv,pv,hS⟩ hK
  rw [splitW_size] at hD
  have hBl : Below w.heap.size w W := by
   refine ⟨hS.base.turns.os.trans hT1.os,hS.base.turns.tape.trans hT1.tape,hS.base.turns.output.trans hT1.output,Nat.le_trans hT1.size hS.base.turns.size,fun k hk => (hS.base.turns.block k (by omega) (by omega)).trans (hT1.block k hk (fun h => h))⟩
  have hH := h.below hBl
  have hWs := hBl.size
  obtain ⟨cs0,ce0⟩ := hH.cells
  have cw : W.cell? ⟨w.heap.size,0,none⟩ = some wv := by rw [hS.bw.cell]; rfl
  have cp : W.cell? ⟨w.heap.size + 1,0,none⟩ = some pv := by rw [hS.bp.cell]; rfl
  obtain ⟨aw,capw,hwv⟩ := row_val hS.rw
  obtain ⟨ap,capp,hpv⟩ := row_val hS.rp
  have hconv := conv_bytes hS.rw
  obtain ⟨q,hq⟩ : ∃ q : ByteArray,(⟨(wordTo (parts x.data.toList) (parts x.data.toList).length).toArray⟩ : ByteArray) = q := ⟨_,rfl⟩
  have hql : excW x.data.toList = q.data.toList := by rw [← hq]; rfl
  have hqs : q.size ≤ 200 := by rw [← size_ba,← hql]; exact Nat.le_trans (hlen _) hx
  rw [hq] at hconv
  have hlook := (hH.emap.turns (Turns.drew Noth W) (fun h => h)).look_ok law9 Tryz.underlying206 (zero34 W.drew) q (keyOf9 (by unfold maxLen; omega))
  have hconv1 : (convert 176 9 wv).run Tryz.prog W.drew = .ok (.string q) W.drew := by
   have := conv_bytes (ownsRow_turns hS.rw (Turns.drew Noth W) (fun _ _ h => h))
   rw [hq] at this; exact this
  cases hv : V (excW x.data.toList) with
  | some u =>
   rw [hv] at hsome
   simp only [Option.isSome_some] at hsome
   subst hsome
   have hv' : V q.data.toList = some u := by rw [← hql]; exact hv
   rw [hv'] at hlook
   obtain ⟨dd,_,_,hru⟩ := hH.rows _ u hv
   obtain ⟨au,capu,hu⟩ := row_val hru
   subst hu hwv
   simp only [Option.getD_some,Option.isSome_some] at hlook
   have hEP : Hid (∀ W',Turns (fun k => k = D) W W' → Turns (fun k => k = em) w W' ∧ EP w base hb T E N em M V x.data.toList W') := fun W' ht => by
    refine ⟨((Turns.of_below hBl).mono (fun _ h => h.elim)).trans' ht (fun k hk => .inr (by omega)),?_⟩
    unfold EP
    rw [if_pos hrh.out]
    refine hH.turns ht (fun k hk hO => ?_)
    have := h.lt hO
    omega
   generalize (wordTo (parts x.data.toList) (parts x.data.toList).length).length = wl at *
   clear hv hv' hH hS hru hql h
   gi_wp2_with fail
   refine wpIn_wide.2 ?_
   go_region
   gi_wp2_with fail
   refine ⟨by simp,.inl ⟨_,_,rfl,run_takeDeferred (show W.drew.heap[D]? = _ from hK),?_⟩⟩
   obtain ⟨t1,t2⟩ := hEP.out _ ((Turns.drew (fun k => k = D) W).trans (Turns.putObj (X := fun k => k = D) W.drew (r := D) rfl _))
   exact ⟨_,results_tmp rfl _ _ _,rfl,t1,t2⟩
  | none =>
   rw [hv] at hsome
   simp only [Option.isSome_none] at hsome
   subst hsome
   have hv' : V q.data.toList = none := by rw [← hql]; exact hv
   rw [hv'] at hlook
   simp only [Option.getD_none,Option.isSome_none] at hlook
   have hH2 : HyphAt W.drew.drew base hb T E N em M V := hH.turns ((Turns.drew Noth W).trans (Turns.drew _ _)) (fun _ h => h.elim)
   have hrp2 : W.drew.drew.ownsRow base 3 1 pv (excP x.data.toList).length (ints (excP x.data.toList)) := ownsRow_turns (ownsRow_base hS.rp (by omega)) ((Turns.drew Noth W).trans (Turns.drew _ _)) (fun _ _ h => h)
   have hpn : ∀ g,pv.ownBlock = some g → w1.heap.size ≤ g ∧ g ≠ D := fun g hg => ⟨(hS.rp.lt g hg).1,fun e => hS.xp g hg e⟩
   have hpll : (excP x.data.toList).length ≤ 1000 := by
    have := plTo_len (parts x.data.toList) (parts x.data.toList).length
    unfold excP; omega
   obtain ⟨w2,hput,hH3,hT3⟩ := hH2.exc (by show base ≤ W.heap.size; omega) hpll hrp2 (fun g hg hN => by have := h.lt (.inl hN); have := (hpn g hg).1; omega) q (by omega) (by omega)
   have hemD : em ≠ D := by have := h.lt (.inr (.inl rfl)); omega
   have hK2 : w2.heap[D]? = some (.deferred (some [])) := (hT3.block D (Array.getElem?_eq_some_iff.1 hK).1 (fun e => hemD e.symm)).trans hK
   have hconv2 : (convert 176 9 wv).run Tryz.prog W.drew.drew = .ok (.string q) W.drew.drew := by
    have := conv_bytes (ownsRow_turns hS.rw ((Turns.drew Noth W).trans (Turns.drew _ _)) (fun _ _ h => h))
    rw [hq] at this; exact this
   have hEP : Hid (∀ W',Turns (fun k => k = D) w2 W' → Turns (fun k => k = em) w W' ∧ EP w base hb T E N em M V x.data.toList W') := fun W' ht => by
    refine ⟨(((Turns.of_below hBl).mono (fun _ h => h.elim)).trans (((Turns.drew _ W).trans (Turns.drew _ _)).trans hT3)).trans' ht (fun k hk => .inr (by omega)),?_⟩
    unfold EP
    rw [if_neg (by rw [hrh.out]; simp),hql]
    refine ⟨_,hH3.turns ht (fun k hk hO => ?_)⟩
    rcases hO with hO | rfl | ⟨l,u,hu,hg⟩
    ·have := h.lt (.inl hO); omega
    ·exact hemD hk
    ·unfold setV at hu
     by_cases el : l = q.data.toList
     ·rw [if_pos el] at hu; cases hu; exact (hpn k hg).2 hk
     ·rw [if_neg el] at hu
      have := h.lt (.inr (.inr ⟨l,u,hu,hg⟩)); omega
   have ce2 : W.drew.drew.cell? ⟨hb,3,none⟩ = some (.map (some em)) := ce0
   have cw2 : W.drew.drew.cell? ⟨w.heap.size,0,none⟩ = some wv := cw
   have cp2 : W.drew.drew.cell? ⟨w.heap.size + 1,0,none⟩ = some pv := cp
   subst hpv hwv
   generalize (wordTo (parts x.data.toList) (parts x.data.toList).length).length = wl at *
   generalize (plTo (parts x.data.toList) (parts x.data.toList).length).length = pll at *
   clear hv hv' hH hS hql h hH2 hH3 hrp2 hpn hT3
   gi_wp2_with fail
   refine wpIn_wide.2 ?_
   go_region
   gi_wp2_with fail
   refine wpIn_wide.2 ?_
   go_region
   gi_wp2_with fail
   refine ⟨by simp,.inl ⟨_,_,rfl,run_takeDeferred hK2,?_⟩⟩
   obtain ⟨t1,t2⟩ := hEP.out _ (Turns.putObj (X := fun k => k = D) w2 (r := D) rfl _)
   exact ⟨_,results_tmp rfl _ _ _,rfl,t1,t2⟩
 case stop =>
  rintro D c i W _ _ h _
  exact h.elim
end Go.Proofs.YtbdpghjegachaaaGreatDoor.Hy

namespace Go.Proofs.YtbdpghjegachaaaGreatDoor.Hy
open Go.RowKit Go.Shelf
set_option maxRecDepth 100000
set_option maxHeartbeats 1000000

abbrev TxAt (W : World) (v : Value) (ss : List ByteArray) : Prop := RecAt 1 (fun s : ByteArray => [Value.string s]) W v ss
theorem cell_lt {w : World} {b o : Nat} {v : Value} (h : w.cell? ⟨b,o,none⟩ = some v) : b < w.heap.size := by
 apply Classical.byContradiction
 intro hc
 have : w.heap[b]? = none := Array.getElem?_eq_none (by omega)
 simp [World.cell?,this] at h
theorem tx_cell {W : World} {a : Option Addr} {cap n : Nat} {ss : List ByteArray} (h : TxAt W (.slice a n cap) ss) {k : Nat} (hk : k < ss.length) : ∃ b o,a = some ⟨b,o,none⟩ ∧ W.cell? ⟨b,o + k,none⟩ = some (.string (ss[k]'hk)) := by
 obtain ⟨a',cap',h1,h2⟩ := h.ex
 cases h1
 rcases h2 with h2 | ⟨b,o,rfl,hb,hc⟩
 ·subst h2; simp at hk
 ·have := hc k hk 0 (.string (ss[k]'hk)) rfl
  exact ⟨b,o,rfl,by simpa using this⟩

theorem allPat_any (v : Value) (ss : List ByteArray) (hs : ss.length ≤ 1000000) (w : World) (h : TxAt w v ss) : Calls Tryz.prog 176 #[v,.func (.func 177) #[] #[]] w fun e w' => e = .returned (.bool (ss.all (fun s => patB s.data.toList))) ∧ Below w.heap.size w w' := by
 obtain ⟨a,cap,rfl,hex⟩ := h.ex
 have hno : Hid (∀ (k : Nat) (h : k < ss.length),patB (ss[k]'h).data.toList = false → ss.all (fun s => patB s.data.toList) = false) := fun k h hf => by
  show _ = _
  rw [List.all_eq_false]
  exact ⟨_,List.getElem_mem h,by simp [hf]⟩
 have hyes : Hid ((∀ (k : Nat) (h : k < ss.length),patB (ss[k]'h).data.toList = true) → ss.all (fun s => patB s.data.toList) = true) := fun h => by
  show _ = _
  rw [List.all_eq_true]
  intro s hs
  obtain ⟨k,hk,rfl⟩ := List.getElem_of_mem hs
  exact h k hk
 generalize ss.all (fun s => patB s.data.toList) = r at *
 go_enter Tryz.func176,Tryz.ntmps176
 go_wp2_with fail
 go_loopw [9] (fun i wr => ∃ k : Nat,k ≤ ss.length ∧ i = .int .i64 k ∧ Below w.heap.size w wr ∧ Hid (∀ (j : Nat) (h : j < ss.length),j < k → patB (ss[j]'h).data.toList = true)) (fun i _ => ss.length - (intOf i).toNat)
 case atStart => exact ⟨0,by omega,rfl,Below.refl _ _,fun j _ hj => by omega⟩
 case round =>
  obtain ⟨k,hk,rfl,hb,ha⟩ := hrel
  by_cases hlt : k < ss.length
  ·obtain ⟨b0,o0,rfl,c0⟩ := tx_cell h hlt
   have c1 : wr.cell? ⟨b0,o0 + k,none⟩ = some (.string (ss[k]'hlt)) := by
    rw [← c0]; exact World.cell?_of_block (hb.block b0 (cell_lt c0))
   have hI := isPattern_any (ss[k]'hlt) wr
   have hkl : (k : Int) < ss.length := by omega
   cases hc : patB (ss[k]'hlt).data.toList with
   | true =>
    rw [hc] at hI
    have ha2 : Hid (∀ (j : Nat) (h : j < ss.length),j < k + 1 → patB (ss[j]'h).data.toList = true) := fun j hj hjk => by
     by_cases hh : j < k
     ·exact ha.out j hj hh
     ·obtain rfl : j = k := by omega
      exact hc
    generalize ss[k]'hlt = s at *
    clear hno hyes ha hc hex h
    go_wp2_with (go_at_call 177; refine hI.mono ?_; rintro e w' ⟨rfl,hww⟩; subst w')
    go_roundw
    case rel => exact ⟨k + 1,by omega,by simp,hb,ha2⟩
    case measure => simp [intOf]; omega
   | false =>
    rw [hc] at hI
    have hr := hno.out k hlt hc
    subst hr
    generalize ss[k]'hlt = s at *
    clear hno hyes ha hc hex h
    go_wp2_with (go_at_call 177; refine hI.mono ?_; rintro e w' ⟨rfl,hww⟩; subst w')
    go_ret
    exact ⟨rfl,hb⟩
  ·have hr := hyes.out (fun j hj => ha.out j hj (by omega))
   subst hr
   have hkl : ¬ (k : Int) < ss.length := by omega
   clear hno hyes ha
   go_wp2_with fail
   go_ret
   exact ⟨rfl,hb⟩

theorem allExc_any (v : Value) (ss : List ByteArray) (hs : ss.length ≤ 1000000) (hl : ∀ s ∈ ss,s.size ≤ 1000000) (w : World) (h : TxAt w v ss) : Calls Tryz.prog 176 #[v,.func (.func 178) #[] #[]] w fun e w' => e = .returned (.bool (ss.all (fun s => excB s.data.toList))) ∧ Below w.heap.size w w' := by
 obtain ⟨a,cap,rfl,hex⟩ := h.ex
 have hno : Hid (∀ (k : Nat) (h : k < ss.length),excB (ss[k]'h).data.toList = false → ss.all (fun s => excB s.data.toList) = false) := fun k h hf => by
  show _ = _
  rw [List.all_eq_false]
  exact ⟨_,List.getElem_mem h,by simp [hf]⟩
 have hyes : Hid ((∀ (k : Nat) (h : k < ss.length),excB (ss[k]'h).data.toList = true) → ss.all (fun s => excB s.data.toList) = true) := fun h => by
  show _ = _
  rw [List.all_eq_true]
  intro s hs
  obtain ⟨k,hk,rfl⟩ := List.getElem_of_mem hs
  exact h k hk
 generalize ss.all (fun s => excB s.data.toList) = r at *
 go_enter Tryz.func176,Tryz.ntmps176
 go_wp2_with fail
 go_loopw [9] (fun i wr => ∃ k : Nat,k ≤ ss.length ∧ i = .int .i64 k ∧ Below w.heap.size w wr ∧ Hid (∀ (j : Nat) (h : j < ss.length),j < k → excB (ss[j]'h).data.toList = true)) (fun i _ => ss.length - (intOf i).toNat)
 case atStart => exact ⟨0,by omega,rfl,Below.refl _ _,fun j _ hj => by omega⟩
 case round =>
  obtain ⟨k,hk,rfl,hb,ha⟩ := hrel
  by_cases hlt : k < ss.length
  ·obtain ⟨b0,o0,rfl,c0⟩ := tx_cell h hlt
   have c1 : wr.cell? ⟨b0,o0 + k,none⟩ = some (.string (ss[k]'hlt)) := by
    rw [← c0]; exact World.cell?_of_block (hb.block b0 (cell_lt c0))
   have hI := isException_any (ss[k]'hlt) (hl _ (List.getElem_mem hlt)) wr
   have hkl : (k : Int) < ss.length := by omega
   cases hc : excB (ss[k]'hlt).data.toList with
   | true =>
    rw [hc] at hI
    have ha2 : Hid (∀ (j : Nat) (h : j < ss.length),j < k + 1 → excB (ss[j]'h).data.toList = true) := fun j hj hjk => by
     by_cases hh : j < k
     ·exact ha.out j hj hh
     ·obtain rfl : j = k := by omega
      exact hc
    generalize ss[k]'hlt = s at *
    clear hno hyes ha hc hex h hl
    go_wp2_with (go_at_call 178; refine hI.mono ?_; rintro e w' ⟨rfl,hb2⟩)
    go_roundw
    case rel => exact ⟨k + 1,by omega,by simp,(hb.trans (hb2.mono hb.size)),ha2⟩
    case measure => simp [intOf]; omega
   | false =>
    rw [hc] at hI
    have hr := hno.out k hlt hc
    subst hr
    generalize ss[k]'hlt = s at *
    clear hno hyes ha hc hex h hl
    go_wp2_with (go_at_call 178; refine hI.mono ?_; rintro e w' ⟨rfl,hb2⟩)
    go_ret
    exact ⟨rfl,(hb.trans (hb2.mono hb.size))⟩
  ·have hr := hyes.out (fun j hj => ha.out j hj (by omega))
   subst hr
   have hkl : ¬ (k : Int) < ss.length := by omega
   clear hno hyes ha
   go_wp2_with fail
   go_ret
   exact ⟨rfl,hb⟩

end Go.Proofs.YtbdpghjegachaaaGreatDoor.Hy
