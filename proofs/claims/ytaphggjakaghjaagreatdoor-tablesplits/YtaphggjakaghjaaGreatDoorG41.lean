/-
  What is proved here: at each of its splits a row has all lines once, and each part holds its lines.
  What is proved here: what TableSplits reads of a table's rows.
  What is proved here: GridKnown answers true.
-/
import Derived.Test.YtaphggjakaghjaaGreatDoorG40
import Derived.Test.YtaphggjakaghjaaGreatDoorG28
import Derived.Shelf.Strings.Repeat
import Derived.Test.YtaphggjakaghjaaGreatDoorProg
namespace Go.Proofs.YtaphggjakaghjaaGreatDoor
open Go.RowKit Go.Shelf
set_option maxRecDepth 100000
set_option maxHeartbeats 8000000

structure BtR (cs : List Cel) (f t : Int) (g : Nat) (W : World) : Prop where
 ex : ∃ d,RB 3 ceL W g d ∧ d.length = cs.length ∧ ∀ i (h : i < d.length),BtIs f t (cs.getD i ce0) d[i] ∧ BtAt 0 W d[i]
theorem BtR.below {cs : List Cel} {f t : Int} {g : Nat} {W W' : World} (h : BtR cs f t g W) (hb : Below W.heap.size W W') : BtR cs f t g W' := by
 obtain ⟨d,hr,hd,hi⟩ := h.ex
 exact ⟨d,hr.below hb hr.lt,hd,fun i hi' => ⟨(hi i hi').1,ownsRow_below (hi i hi').2 hb⟩⟩
theorem BtR.len {cs : List Cel} {f t : Int} {g : Nat} {W : World} (h : BtR cs f t g W) {c : Nat} (hc : c < cs.length) : ∃ (a : Option Addr) (k : Nat),W.cell? ⟨g,c * 3 + 2,none⟩ = some (.slice a (wiL (cs.getD c ce0).ls f t).length k) := by
 obtain ⟨d,hr,hd,hi⟩ := h.ex
 have hcd : c < d.length := by omega
 obtain ⟨h1,h2⟩ := hi c hcd
 obtain ⟨a,k,hv⟩ := owns_slice h2
 refine ⟨a,k,?_⟩
 have := (hr.all c hcd 2 d[c].v rfl).1
 rw [hv,h1.ls] at this
 exact this
structure C3F (gu i N cap : Nat) (h : Int) (sa : Option Addr) (sn sc T n mx : Nat) (cs : List Cel) (W : World) : Prop where
 row : RoF gu i h sa sn sc T n W
 iN : i < N
 sp : InAt W (.slice sa sn sc) (spI (mx - 1))
 h : h = 10 * (mx : Int) + 4
 m5 : mx ≤ 500
 rc : RecAt 3 ceL W (.slice (some ⟨T,0,none⟩) n n) cs
 cn : cs.length = n
 n8 : n ≤ 8
 ls : ∀ c ∈ cs,LxsAt W c.v c.ls ∧ c.ls.length ≤ mx
theorem C3F.below {gu i N cap : Nat} {h : Int} {sa : Option Addr} {sn sc T n mx : Nat} {cs : List Cel} {W W' : World} (k : C3F gu i N cap h sa sn sc T n mx cs W) (hb : Below W.heap.size W W') : C3F gu i N cap h sa sn sc T n mx cs W' :=
 ⟨k.row.below hb,k.iN,k.sp.below hb (Nat.le_refl _),k.h,k.m5,k.rc.below hb (Nat.le_refl _),k.cn,k.n8,fun c hc => ⟨(k.ls c hc).1.below hb (Nat.le_refl _),(k.ls c hc).2⟩⟩
theorem C3F.bet {gu i N cap : Nat} {h : Int} {sa : Option Addr} {sn sc T n mx : Nat} {cs : List Cel} {W : World} (k : C3F gu i N cap h sa sn sc T n mx cs W) (f t : Int) (hft : 0 ≤ f ∧ f ≤ t ∧ t ≤ h) :
  Calls Tryz.prog 21 #[.agg #[.int .i64 h,.slice sa sn sc,.slice (some ⟨T,0,none⟩) n n],.int .i64 f,.int .i64 t] W fun e w' => ∃ g,e = .returned (.tuple #[.slice (some ⟨g,0,none⟩) n n,.int .i64 0]) ∧ BtR cs f t g w' ∧ Below W.heap.size W w' := by
 refine (between_yes h (.slice sa sn sc) (.slice (some ⟨T,0,none⟩) n n) cs f t hft (by have := k.cn; have := k.n8; omega) (fun c hc => by have := (k.ls c hc).2; have := k.m5; omega) W k.rc (fun c hc => (k.ls c hc).1)).mono ?_
 rintro e w' ⟨⟨g,d,_,rfl,hr,hd,hi⟩,hb⟩
 rw [k.cn]
 exact ⟨g,rfl,⟨d,hr,hd,fun i h => ⟨(hi i h).1,ownsRow_base (hi i h).2 (Nat.zero_le _)⟩⟩,hb⟩
structure JoR (cs : List Cel) (v : Value) (W : World) : Prop where
 ex : ∃ d,d.length = cs.length ∧ RecAt 3 ceL W v d ∧ (∀ i (h : i < cs.length) (h' : i < d.length),cs[i].x = d[i].x ∧ cs[i].w = d[i].w ∧ cs[i].ls = d[i].ls) ∧ ∀ c ∈ d,LxsAt W c.v c.ls
theorem C3F.join {gu i N cap : Nat} {h : Int} {sa : Option Addr} {sn sc T n mx : Nat} {cs : List Cel} {W : World} (k : C3F gu i N cap h sa sn sc T n mx cs W) (m ga gb : Nat) (h1 : BtR cs 0 (2 + 10 * (m : Int)) ga W) (h2 : BtR cs (2 + 10 * (m : Int)) h gb W) :
  Calls Tryz.prog 25 #[.slice (some ⟨ga,0,none⟩) n n,.slice (some ⟨gb,0,none⟩) n n] W fun e w' => ∃ v,e = .returned v ∧ JoR cs v w' ∧ Below W.heap.size W w' := by
 obtain ⟨d1,r1,n1,i1⟩ := h1.ex
 obtain ⟨d2,r2,n2,i2⟩ := h2.ex
 have hcn := k.cn
 have hcut : ∀ c ∈ cs,wiL c.ls 0 (2 + 10 * (m : Int)) = c.ls.take m ∧ wiL c.ls (2 + 10 * (m : Int)) h = c.ls.drop m := fun c hc => wi_cut c.ls m h (fun q hq => by have := (k.ls c hc).2; have := k.h; omega)
 have hget : ∀ q (hq : q < cs.length),cs.getD q ce0 = cs[q] := fun q hq => by rw [List.getD_eq_getElem?_getD,List.getElem?_eq_getElem hq]; rfl
 have hrec : ∀ (g : Nat) (d : List Cel),RB 3 ceL W g d → d.length = cs.length → RecAt 3 ceL W (.slice (some ⟨g,0,none⟩) n n) d := fun g d hr hd => by
  have := hr.recs (n := n) (cap := n) (by omega) (Nat.le_refl _)
  rwa [List.take_of_length_le (by omega)] at this
 refine (joined_any (.slice (some ⟨ga,0,none⟩) n n) (.slice (some ⟨gb,0,none⟩) n n) d1 d2 W (by omega) (by have := k.n8; omega) (hrec ga d1 r1 n1) (hrec gb d2 r2 n2) (fun c hc => ?_) (fun c hc => ?_)).mono ?_
 ·obtain ⟨q,hq,rfl⟩ := List.getElem_of_mem hc
  refine ⟨rec_of_row lxL_len rfl (i1 q hq).2,?_⟩
  rw [(i1 q hq).1.ls,hget q (by omega),(hcut _ (List.getElem_mem _)).1,List.length_take]
  have := (k.ls _ (List.getElem_mem (show q < cs.length by omega))).2
  have := k.m5
  omega
 ·obtain ⟨q,hq,rfl⟩ := List.getElem_of_mem hc
  refine ⟨rec_of_row lxL_len rfl (i2 q hq).2,?_⟩
  rw [(i2 q hq).1.ls,hget q (by omega),(hcut _ (List.getElem_mem _)).2,List.length_drop]
  have := (k.ls _ (List.getElem_mem (show q < cs.length by omega))).2
  have := k.m5
  omega
 ·rintro e w' ⟨⟨v,d,rfl,hd,hr,hi⟩,hb⟩
  refine ⟨v,rfl,⟨d,by omega,hr,fun q hq hq' => ?_,fun c hc => ?_⟩,hb⟩
  ·have hj := (hi q hq').1
   have e1 : d1.getD q ce0 = d1[q]'(by omega) := by rw [List.getD_eq_getElem?_getD,List.getElem?_eq_getElem (by omega)]; rfl
   have e2 : d2.getD q ce0 = d2[q]'(by omega) := by rw [List.getD_eq_getElem?_getD,List.getElem?_eq_getElem (by omega)]; rfl
   have j1 := (i1 q (by omega)).1
   have j2 := (i2 q (by omega)).1
   rw [hget q hq] at j1 j2
   have hc := hcut _ (List.getElem_mem hq)
   refine ⟨by rw [hj.x,e1,j1.x],by rw [hj.w,e1,j1.w],?_⟩
   rw [hj.ls,e1,e2,j1.ls,j2.ls,hc.1,hc.2,List.take_append_drop]
  ·obtain ⟨q,hq,rfl⟩ := List.getElem_of_mem hc
   exact (hi q hq).2
theorem C3F.same {gu i N cap : Nat} {h : Int} {sa : Option Addr} {sn sc T n mx : Nat} {cs : List Cel} {W : World} (k : C3F gu i N cap h sa sn sc T n mx cs W) (v : Value) (hJ : JoR cs v W) :
  Calls Tryz.prog 23 #[v,.slice (some ⟨T,0,none⟩) n n] W fun e w' => e = .returned (.bool true) ∧ Below W.heap.size W w' := by
 obtain ⟨d,hd,hr,hi,hl⟩ := hJ.ex
 refine sameCells_yes v (.slice (some ⟨T,0,none⟩) n n) d cs W (by have := k.cn; have := k.n8; omega) hd.symm hr k.rc (fun c hc => ?_) (fun q h1 h2 => hi q h2 h1) hl (fun c hc => (k.ls c hc).1)
 obtain ⟨q,hq,rfl⟩ := List.getElem_of_mem hc
 have := hi q (by omega) hq
 rw [← this.2.2]
 have := (k.ls _ (List.getElem_mem (show q < cs.length by omega))).2
 have := k.m5
 omega
def codeC3 : Code := ((Code.region 30 #[⟨some 15,.assign (.const (.int .i64 0)),3,"outright.go:85",#[],none⟩] false).seq (Code.block 6 (((Code.region 31 #[⟨some 142,.move (.tmp 15),3,"outright.go:85",#[],none⟩,⟨some 143,.move (.tmp 6),27,"outright.go:85",#[],none⟩,⟨some 144,.move (.tmp 8),3,"outright.go:85",#[],none⟩,⟨some 145,.indexAddr 27 (.tmp 143) (.tmp 144),0,"outright.go:85",#[⟨1,.data⟩,⟨2,.data⟩],none⟩,⟨some 146,.fieldAddr 39 (.tmp 145) 1,0,"outright.go:85",#[⟨3,.data⟩],none⟩,⟨some 147,.load 36 (.tmp 146),36,"outright.go:85",#[⟨4,.data⟩],none⟩,⟨some 148,.call ⟨.builtin .len,#[.tmp 147],#[36]⟩,3,"outright.go:85",#[⟨5,.data⟩],none⟩,⟨some 149,.binOp .lss 3 (.tmp 142) (.tmp 148) 3,4,"outright.go:85",#[⟨0,.data⟩,⟨6,.data⟩],none⟩] false).seq (Code.cond (Operand.tmp 149) Code.skip (Code.exit 6))).seq ((Code.block 7 ((Code.region 33 #[⟨some 152,.move (.tmp 6),27,"outright.go:86",#[],none⟩,⟨some 153,.move (.tmp 8),3,"outright.go:86",#[],none⟩,⟨some 154,.indexAddr 27 (.tmp 152) (.tmp 153),0,"outright.go:86",#[⟨0,.data⟩,⟨1,.data⟩],none⟩,⟨some 155,.fieldAddr 39 (.tmp 154) 1,0,"outright.go:86",#[⟨2,.data⟩],none⟩,⟨some 156,.load 36 (.tmp 155),36,"outright.go:86",#[⟨3,.data⟩],none⟩,⟨some 157,.move (.tmp 15),3,"outright.go:86",#[],none⟩,⟨some 158,.indexAddr 36 (.tmp 156) (.tmp 157),0,"outright.go:86",#[⟨4,.data⟩,⟨5,.data⟩],none⟩,⟨some 159,.load 3 (.tmp 158),3,"outright.go:86",#[⟨6,.data⟩],none⟩,⟨some 16,.assign (.tmp 159),3,"outright.go:86",#[⟨7,.data⟩,⟨0,.phase⟩,⟨1,.phase⟩,⟨2,.phase⟩,⟨3,.phase⟩,⟨4,.phase⟩,⟨5,.phase⟩,⟨6,.phase⟩,⟨7,.phase⟩],none⟩] false).seq ((Code.region 34 #[⟨some 161,.move (.tmp 6),27,"outright.go:87",#[],none⟩,⟨some 162,.move (.tmp 8),3,"outright.go:87",#[],none⟩,⟨some 163,.indexAddr 27 (.tmp 161) (.tmp 162),0,"outright.go:87",#[⟨0,.data⟩,⟨1,.data⟩],none⟩,⟨some 164,.load 39 (.tmp 163),39,"outright.go:87",#[⟨2,.data⟩],none⟩,⟨some 165,.move (.tmp 16),3,"outright.go:87",#[],none⟩,⟨some 166,.call ⟨.value (.func 21),#[.tmp 164,.const (.int .i64 0),.tmp 165],#[39,3,3]⟩,48,"outright.go:87",#[⟨3,.data⟩,⟨4,.data⟩],none⟩,⟨some 160,.move (.tmp 166),48,"outright.go:87",#[⟨5,.data⟩],none⟩,⟨some 167,.extract (.tmp 160) 0,37,"outright.go:87",#[⟨6,.data⟩],none⟩,⟨some 168,.extract (.tmp 160) 1,28,"outright.go:87",#[⟨6,.data⟩,⟨9,.gcOnly .lateStores⟩],none⟩,⟨some 17,.assign (.tmp 167),37,"outright.go:87",#[⟨7,.data⟩,⟨5,.chain⟩,⟨0,.phase⟩,⟨1,.phase⟩,⟨2,.phase⟩,⟨3,.phase⟩,⟨4,.phase⟩,⟨5,.phase⟩,⟨6,.phase⟩,⟨7,.phase⟩,⟨8,.textOnly .lateStores⟩],none⟩,⟨some 18,.assign (.tmp 168),28,"outright.go:87",#[⟨8,.data⟩,⟨9,.chain⟩,⟨0,.phase⟩,⟨1,.phase⟩,⟨2,.phase⟩,⟨3,.phase⟩,⟨4,.phase⟩,⟨5,.phase⟩,⟨6,.phase⟩,⟨7,.phase⟩,⟨8,.phase⟩,⟨9,.phase⟩],none⟩] false).seq ((Code.region 35 #[⟨some 170,.move (.tmp 6),27,"outright.go:88",#[],none⟩,⟨some 171,.move (.tmp 8),3,"outright.go:88",#[],none⟩,⟨some 172,.indexAddr 27 (.tmp 170) (.tmp 171),0,"outright.go:88",#[⟨0,.data⟩,⟨1,.data⟩],none⟩,⟨some 173,.load 39 (.tmp 172),39,"outright.go:88",#[⟨2,.data⟩],none⟩,⟨some 174,.move (.tmp 16),3,"outright.go:88",#[],none⟩,⟨some 175,.move (.tmp 6),27,"outright.go:88",#[],none⟩,⟨some 176,.move (.tmp 8),3,"outright.go:88",#[],none⟩,⟨some 177,.indexAddr 27 (.tmp 175) (.tmp 176),0,"outright.go:88",#[⟨5,.data⟩,⟨6,.data⟩],none⟩,⟨some 178,.fieldAddr 39 (.tmp 177) 0,0,"outright.go:88",#[⟨7,.data⟩],none⟩,⟨some 179,.load 3 (.tmp 178),3,"outright.go:88",#[⟨8,.data⟩],none⟩,⟨some 180,.call ⟨.value (.func 21),#[.tmp 173,.tmp 174,.tmp 179],#[39,3,3]⟩,48,"outright.go:88",#[⟨3,.data⟩,⟨4,.data⟩,⟨9,.data⟩],none⟩,⟨some 169,.move (.tmp 180),48,"outright.go:88",#[⟨10,.data⟩],none⟩,⟨some 181,.extract (.tmp 169) 0,37,"outright.go:88",#[⟨11,.data⟩],none⟩,⟨some 182,.extract (.tmp 169) 1,28,"outright.go:88",#[⟨11,.data⟩,⟨14,.gcOnly .lateStores⟩],none⟩,⟨some 19,.assign (.tmp 181),37,"outright.go:88",#[⟨12,.data⟩,⟨10,.chain⟩,⟨0,.phase⟩,⟨1,.phase⟩,⟨2,.phase⟩,⟨3,.phase⟩,⟨4,.phase⟩,⟨5,.phase⟩,⟨6,.phase⟩,⟨7,.phase⟩,⟨8,.phase⟩,⟨9,.phase⟩,⟨10,.phase⟩,⟨11,.phase⟩,⟨12,.phase⟩,⟨13,.textOnly .lateStores⟩],none⟩,⟨some 20,.assign (.tmp 182),28,"outright.go:88",#[⟨13,.data⟩,⟨14,.chain⟩,⟨0,.phase⟩,⟨1,.phase⟩,⟨2,.phase⟩,⟨3,.phase⟩,⟨4,.phase⟩,⟨5,.phase⟩,⟨6,.phase⟩,⟨7,.phase⟩,⟨8,.phase⟩,⟨9,.phase⟩,⟨10,.phase⟩,⟨11,.phase⟩,⟨12,.phase⟩,⟨13,.phase⟩,⟨14,.phase⟩],none⟩] true).seq (((Code.region 36 #[⟨some 183,.move (.tmp 18),28,"outright.go:89",#[],none⟩,⟨some 184,.binOp .neq 28 (.tmp 183) (.const (.int .i64 0)) 28,4,"outright.go:89",#[⟨0,.data⟩],none⟩,⟨some 185,.move (.tmp 184),4,"outright.go:89",#[⟨1,.data⟩],none⟩,⟨some 186,.move (.tmp 20),28,"outright.go:89",#[⟨2,.guard⟩],some (2,false)⟩,⟨some 187,.binOp .neq 28 (.tmp 186) (.const (.int .i64 0)) 28,4,"outright.go:89",#[⟨3,.data⟩,⟨2,.guard⟩],some (2,false)⟩,⟨some 188,.pick (.tmp 185) (.const (.bool true)) (.tmp 187),4,"outright.go:89",#[⟨2,.data⟩,⟨4,.data⟩],none⟩,⟨some 189,.move (.tmp 188),4,"outright.go:89",#[⟨5,.data⟩,⟨2,.chain⟩],none⟩,⟨some 190,.move (.tmp 17),37,"outright.go:89",#[⟨6,.guard⟩],some (6,false)⟩,⟨some 191,.move (.tmp 19),37,"outright.go:89",#[⟨6,.guard⟩],some (6,false)⟩,⟨some 192,.call ⟨.value (.func 25),#[.tmp 190,.tmp 191],#[37,37]⟩,37,"outright.go:89",#[⟨7,.data⟩,⟨8,.data⟩,⟨6,.chain⟩,⟨6,.guard⟩],some (6,false)⟩,⟨some 193,.move (.tmp 6),27,"outright.go:89",#[⟨6,.guard⟩],some (6,false)⟩,⟨some 194,.move (.tmp 8),3,"outright.go:89",#[⟨6,.guard⟩],some (6,false)⟩,⟨some 195,.indexAddr 27 (.tmp 193) (.tmp 194),0,"outright.go:89",#[⟨10,.data⟩,⟨11,.data⟩,⟨6,.guard⟩],some (6,false)⟩,⟨some 196,.fieldAddr 39 (.tmp 195) 2,0,"outright.go:89",#[⟨12,.data⟩,⟨6,.guard⟩],some (6,false)⟩,⟨some 197,.load 37 (.tmp 196),37,"outright.go:89",#[⟨13,.data⟩,⟨6,.guard⟩],some (6,false)⟩,⟨some 198,.call ⟨.value (.func 23),#[.tmp 192,.tmp 197],#[37,37]⟩,4,"outright.go:89",#[⟨9,.data⟩,⟨14,.data⟩,⟨9,.chain⟩,⟨6,.guard⟩],some (6,false)⟩,⟨some 199,.unOp .not 4 (.tmp 198),4,"outright.go:89",#[⟨15,.data⟩,⟨6,.guard⟩],some (6,false)⟩,⟨some 200,.pick (.tmp 189) (.const (.bool true)) (.tmp 199),4,"outright.go:89",#[⟨6,.data⟩,⟨16,.data⟩],none⟩] true).seq (Code.cond (Operand.tmp 200) ((Code.region 37 #[⟨some 4,.assign (.const (.bool false)),4,"outright.go:90",#[],none⟩] false).seq Code.ret) Code.skip)).seq ((Code.region 38 #[⟨some 21,.assign (.const (.int .i64 0)),3,"outright.go:92",#[],none⟩] false).seq (Code.block 8 (((Code.region 39 #[⟨some 201,.move (.tmp 21),3,"outright.go:92",#[],none⟩,⟨some 202,.move (.tmp 17),37,"outright.go:92",#[],none⟩,⟨some 203,.call ⟨.builtin .len,#[.tmp 202],#[37]⟩,3,"outright.go:92",#[⟨1,.data⟩],none⟩,⟨some 204,.binOp .lss 3 (.tmp 201) (.tmp 203) 3,4,"outright.go:92",#[⟨0,.data⟩,⟨2,.data⟩],none⟩] false).seq (Code.cond (Operand.tmp 204) Code.skip (Code.exit 8))).seq ((Code.block 9 ((Code.region 41 #[⟨some 207,.move (.tmp 17),37,"outright.go:93",#[],none⟩,⟨some 208,.move (.tmp 21),3,"outright.go:93",#[],none⟩,⟨some 209,.indexAddr 37 (.tmp 207) (.tmp 208),0,"outright.go:93",#[⟨0,.data⟩,⟨1,.data⟩],none⟩,⟨some 210,.fieldAddr 46 (.tmp 209) 2,0,"outright.go:93",#[⟨2,.data⟩],none⟩,⟨some 211,.load 44 (.tmp 210),44,"outright.go:93",#[⟨3,.data⟩],none⟩,⟨some 212,.call ⟨.builtin .len,#[.tmp 211],#[44]⟩,3,"outright.go:93",#[⟨4,.data⟩],none⟩,⟨some 213,.binOp .mul 3 (.const (.int .i64 10)) (.tmp 212) 3,3,"outright.go:93",#[⟨5,.data⟩],none⟩,⟨some 214,.binOp .add 3 (.const (.int .i64 2)) (.tmp 213) 3,3,"outright.go:93",#[⟨6,.data⟩],none⟩,⟨some 215,.move (.tmp 16),3,"outright.go:93",#[],none⟩,⟨some 216,.binOp .gtr 3 (.tmp 214) (.tmp 215) 3,4,"outright.go:93",#[⟨7,.data⟩,⟨8,.data⟩],none⟩,⟨some 217,.move (.tmp 216),4,"outright.go:93",#[⟨9,.data⟩],none⟩,⟨some 218,.move (.tmp 19),37,"outright.go:93",#[⟨10,.guard⟩],some (10,false)⟩,⟨some 219,.move (.tmp 21),3,"outright.go:93",#[⟨10,.guard⟩],some (10,false)⟩,⟨some 220,.indexAddr 37 (.tmp 218) (.tmp 219),0,"outright.go:93",#[⟨11,.data⟩,⟨12,.data⟩,⟨10,.guard⟩],some (10,false)⟩,⟨some 221,.fieldAddr 46 (.tmp 220) 2,0,"outright.go:93",#[⟨13,.data⟩,⟨10,.guard⟩],some (10,false)⟩,⟨some 222,.load 44 (.tmp 221),44,"outright.go:93",#[⟨14,.data⟩,⟨10,.guard⟩],some (10,false)⟩,⟨some 223,.call ⟨.builtin .len,#[.tmp 222],#[44]⟩,3,"outright.go:93",#[⟨15,.data⟩,⟨10,.guard⟩],some (10,false)⟩,⟨some 224,.binOp .mul 3 (.const (.int .i64 10)) (.tmp 223) 3,3,"outright.go:93",#[⟨16,.data⟩,⟨10,.guard⟩],some (10,false)⟩,⟨some 225,.move (.tmp 6),27,"outright.go:93",#[⟨10,.guard⟩],some (10,false)⟩,⟨some 226,.move (.tmp 8),3,"outright.go:93",#[⟨10,.guard⟩],some (10,false)⟩,⟨some 227,.indexAddr 27 (.tmp 225) (.tmp 226),0,"outright.go:93",#[⟨18,.data⟩,⟨19,.data⟩,⟨10,.guard⟩],some (10,false)⟩,⟨some 228,.fieldAddr 39 (.tmp 227) 0,0,"outright.go:93",#[⟨20,.data⟩,⟨10,.guard⟩],some (10,false)⟩,⟨some 229,.load 3 (.tmp 228),3,"outright.go:93",#[⟨21,.data⟩,⟨10,.guard⟩],some (10,false)⟩,⟨some 230,.move (.tmp 16),3,"outright.go:93",#[⟨10,.guard⟩],some (10,false)⟩,⟨some 231,.binOp .sub 3 (.tmp 229) (.tmp 230) 3,3,"outright.go:93",#[⟨22,.data⟩,⟨23,.data⟩,⟨10,.guard⟩],some (10,false)⟩,⟨some 232,.binOp .gtr 3 (.tmp 224) (.tmp 231) 3,4,"outright.go:93",#[⟨17,.data⟩,⟨24,.data⟩,⟨10,.guard⟩],some (10,false)⟩,⟨some 233,.pick (.tmp 217) (.const (.bool true)) (.tmp 232),4,"outright.go:93",#[⟨10,.data⟩,⟨25,.data⟩],none⟩] true).seq (Code.cond (Operand.tmp 233) ((Code.region 42 #[⟨some 4,.assign (.const (.bool false)),4,"outright.go:94",#[],none⟩] false).seq Code.ret) Code.skip))).seq (Code.region 40 #[⟨some 205,.move (.tmp 21),3,"outright.go:92",#[],none⟩,⟨some 206,.binOp .add 3 (.tmp 205) (.const (.int .i64 1)) 3,3,"outright.go:92",#[⟨0,.data⟩],none⟩,⟨some 21,.assign (.tmp 206),3,"outright.go:92",#[⟨1,.data⟩,⟨0,.phase⟩,⟨1,.phase⟩],none⟩] false))).loop))))))).seq (Code.region 32 #[⟨some 150,.move (.tmp 15),3,"outright.go:85",#[],none⟩,⟨some 151,.binOp .add 3 (.tmp 150) (.const (.int .i64 1)) 3,3,"outright.go:85",#[⟨0,.data⟩],none⟩,⟨some 15,.assign (.tmp 151),3,"outright.go:85",#[⟨1,.data⟩,⟨0,.phase⟩,⟨1,.phase⟩],none⟩] false))).loop))
theorem c3_wp (Q : Exit → Act → World → Prop) (hQ : ∀ c x (n : Nat) v w,Q (.panic c) (x.put (some n) v) w → Q (.panic c) x w) (gu i N cap : Nat) (h : Int) (sa : Option Addr) (sn sc T n mx : Nat) (cs : List Cel) {v0 v1 v2 v3 v4 v5 v7 v9 xa xb xc xd xe xf xg xh xi xj xk xl xm xn xo xp xq xr xt xu xv xw xx xy xz xA xB xC xD xE xF xG xH xI xJ xK xL xM xN xO xP xQ xR xS xT xU xV xW xX xY xZ ya yb yc yd ye yf yg yh yi yj yk yl ym yn yo yp yq yr yt yu yv yw yx yy yz yA yB yC yD yE yF yG yH yI yJ yK yL yM yN yO yP yQ yR yS yT yU yV yW yX yY yZ za zb zc zd ze zf zg zh zi zj zk zl zm zn zo zp zq zr zs zt zu zv zw zx zy zz zA zB zC zD zE zF zG zH zI zJ zK zL zM zN zO zP zQ zR zS zT zU zV zW zX zY zZ qa qb qc qd qf qg qh qi qj qk ql qm qn qo qp qq qr qs qt qu qv qw qx qy qz qA qB qC qD qE qF qG qH qI qJ qK qL qM qN qO qP qQ qR qS qT qU qV qW qX qY qZ ja jb jc jd je jf jg jh ji jj jk jl jm jn jo jp jq jr js jt : Value} (W : World) (hF : C3F gu i N cap h sa sn sc T n mx cs W)
  (hK : Hid (∀ W',Below W.heap.size W W' → ∀ u4 u15 u16 u17 u18 u19 u20 u21 u142 u143 u144 u145 u146 u147 u148 u149 u150 u151 u152 u153 u154 u155 u156 u157 u158 u159 u160 u161 u162 u163 u164 u165 u166 u167 u168 u169 u170 u171 u172 u173 u174 u175 u176 u177 u178 u179 u180 u181 u182 u183 u184 u185 u186 u187 u188 u189 u190 u191 u192 u193 u194 u195 u196 u197 u198 u199 u200 u201 u202 u203 u204 u205 u206 u207 u208 u209 u210 u211 u212 u213 u214 u215 u216 u217 u218 u219 u220 u221 u222 u223 u224 u225 u226 u227 u228 u229 u230 u231 u232 u233,Q .normal { tmps := #[v0,v1,v2,v3,u4,v5,.slice (some ⟨gu,0,none⟩) N cap,v7,.int .i64 (i : Nat),v9,xa,xb,xc,xd,xe,u15,u16,u17,u18,u19,u20,u21,xm,xn,xo,xp,xq,xr,xt,xu,xv,xw,xx,xy,xz,xA,xB,xC,xD,xE,xF,xG,xH,xI,xJ,xK,xL,xM,xN,xO,xP,xQ,xR,xS,xT,xU,xV,xW,xX,xY,xZ,ya,yb,yc,yd,ye,yf,yg,yh,yi,yj,yk,yl,ym,yn,yo,yp,yq,yr,yt,yu,yv,yw,yx,yy,yz,yA,yB,yC,yD,yE,yF,yG,yH,yI,yJ,yK,yL,yM,yN,yO,yP,yQ,yR,yS,yT,yU,yV,yW,yX,yY,yZ,za,zb,zc,zd,ze,zf,zg,zh,zi,zj,zk,zl,zm,zn,zo,zp,zq,zr,zs,zt,zu,zv,zw,zx,zy,zz,zA,zB,zC,zD,u142,u143,u144,u145,u146,u147,u148,u149,u150,u151,u152,u153,u154,u155,u156,u157,u158,u159,u160,u161,u162,u163,u164,u165,u166,u167,u168,u169,u170,u171,u172,u173,u174,u175,u176,u177,u178,u179,u180,u181,u182,u183,u184,u185,u186,u187,u188,u189,u190,u191,u192,u193,u194,u195,u196,u197,u198,u199,u200,u201,u202,u203,u204,u205,u206,u207,u208,u209,u210,u211,u212,u213,u214,u215,u216,u217,u218,u219,u220,u221,u222,u223,u224,u225,u226,u227,u228,u229,u230,u231,u232,u233,jt],defers := [] } W')) :
  codeC3.wp Tryz.prog Q { tmps := #[v0,v1,v2,v3,v4,v5,.slice (some ⟨gu,0,none⟩) N cap,v7,.int .i64 (i : Nat),v9,xa,xb,xc,xd,xe,xf,xg,xh,xi,xj,xk,xl,xm,xn,xo,xp,xq,xr,xt,xu,xv,xw,xx,xy,xz,xA,xB,xC,xD,xE,xF,xG,xH,xI,xJ,xK,xL,xM,xN,xO,xP,xQ,xR,xS,xT,xU,xV,xW,xX,xY,xZ,ya,yb,yc,yd,ye,yf,yg,yh,yi,yj,yk,yl,ym,yn,yo,yp,yq,yr,yt,yu,yv,yw,yx,yy,yz,yA,yB,yC,yD,yE,yF,yG,yH,yI,yJ,yK,yL,yM,yN,yO,yP,yQ,yR,yS,yT,yU,yV,yW,yX,yY,yZ,za,zb,zc,zd,ze,zf,zg,zh,zi,zj,zk,zl,zm,zn,zo,zp,zq,zr,zs,zt,zu,zv,zw,zx,zy,zz,zA,zB,zC,zD,zE,zF,zG,zH,zI,zJ,zK,zL,zM,zN,zO,zP,zQ,zR,zS,zT,zU,zV,zW,zX,zY,zZ,qa,qb,qc,qd,qf,qg,qh,qi,qj,qk,ql,qm,qn,qo,qp,qq,qr,qs,qt,qu,qv,qw,qx,qy,qz,qA,qB,qC,qD,qE,qF,qG,qH,qI,qJ,qK,qL,qM,qN,qO,qP,qQ,qR,qS,qT,qU,qV,qW,qX,qY,qZ,ja,jb,jc,jd,je,jf,jg,jh,ji,jj,jk,jl,jm,jn,jo,jp,jq,jr,js,jt],defers := [] } W := by
 have hFh : Hid (∀ W',Below W.heap.size W W' → C3F gu i N cap h sa sn sc T n mx cs W') := fun W' hb => hF.below hb
 have hiN : (i : Int) < (N : Int) := by have := hF.iN; omega
 have hn8 : n ≤ 8 := hF.n8
 have hcn : Hid (cs.length = n) := hF.cn
 have hmx : mx ≤ 500 := hF.m5
 have hhe : Hid (h = 10 * (mx : Int) + 4) := hF.h
 have hsn : Hid (sn = mx - 1) := by
  obtain ⟨_,_,e,_⟩ := hF.sp.ex
  have e2 : sn = (spI (mx - 1)).length := by injection e
  rw [spI_len] at e2
  exact e2
 clear hF
 unfold codeC3
 go_wp2_with fail
 go_loopw [15] (fun xf wr => ∃ j : Nat,j ≤ sn ∧ xf = .int .i64 (j : Int) ∧ Hid (Below W.heap.size W wr)) (fun xf _ => sn - (intOf xf).toNat)
 case atStart => exact ⟨0,by omega,rfl,Below.refl _ _⟩
 case round =>
  obtain ⟨j,hj,rfl,hb⟩ := hrel
  have hFr := hFh.out wr hb.out
  have r1 := hFr.row.c1
  by_cases hlt : j < sn
  ·have hlt' : (j : Int) < (sn : Int) := by omega
   have hspl : j < (spI (mx - 1)).length := by rw [spI_len]; have := hsn.out; omega
   obtain ⟨b,o,rfl,_,hrj⟩ := RecAt.range hFr.sp hspl
   have hyj : (spI (mx - 1))[j] = 2 + 10 * ((j + 1 : Nat) : Int) := by simp [spI]
   have s1 : wr.cell? ⟨b,o + j,none⟩ = some (.int .i64 (2 + 10 * ((j + 1 : Nat) : Int))) := by
    have := hrj 0 _ rfl
    rw [hyj] at this
    rwa [Nat.mul_one,Nat.add_zero] at this
   have hrg := hFr.row.range
   have hjm : j + 1 ≤ mx := by have := hsn.out; omega
   have hyb : Hid (0 ≤ 2 + 10 * ((j + 1 : Nat) : Int) ∧ 2 + 10 * ((j + 1 : Nat) : Int) ≤ h ∧ h ≤ 6000) := by have := hhe.out; show _ ∧ _ ∧ _; omega
   have hbt := hFr.bet 0 (2 + 10 * ((j + 1 : Nat) : Int)) ⟨Int.le_refl _,hyb.out.1,hyb.out.2.1⟩
   have hlens : Hid (∀ c < n,(wiL (cs.getD c ce0).ls 0 (2 + 10 * ((j + 1 : Nat) : Int))).length ≤ j + 1 ∧ 10 * ((wiL (cs.getD c ce0).ls (2 + 10 * ((j + 1 : Nat) : Int)) h).length : Int) ≤ h - (2 + 10 * ((j + 1 : Nat) : Int)) ∧ (wiL (cs.getD c ce0).ls (2 + 10 * ((j + 1 : Nat) : Int)) h).length ≤ 500) := fun c hc => by
    have hcl : c < cs.length := by have := hcn.out; omega
    have hg : cs.getD c ce0 = cs[c] := by rw [List.getD_eq_getElem?_getD,List.getElem?_eq_getElem hcl]; rfl
    have hl := (hFr.ls _ (List.getElem_mem hcl)).2
    have hc := wi_cut cs[c].ls (j + 1) h (fun q hq => by have := hhe.out; omega)
    rw [hg,hc.1,hc.2,List.length_take,List.length_drop]
    have := hhe.out
    omega
   obtain ⟨Y,hY⟩ : ∃ Y : Int,2 + 10 * ((j + 1 : Nat) : Int) = Y := ⟨_,rfl⟩
   rw [hY] at s1 hbt hlens hyb
   have hYh : Hid (2 + 10 * ((j + 1 : Nat) : Int) = Y) := hY
   clear hFr hrj hyj hY hspl
   go_wp2_with (first | (refine wpList_load_mid rfl 39 _ rfl gu (i * 3) rfl [.int .i64 h,.slice (some ⟨b,o,none⟩) sn sc,.slice (some ⟨T,0,none⟩) n n] _ hrg Tryz.underlying39 rfl (info39l _ _ _) ?_) | (go_at_call 21; refine hbt.mono ?_; rintro e w5 ⟨ga,rfl,hA,hb5⟩; have hB5 : Hid (Below W.heap.size W w5) := hb.out.trans (hb5.mono hb.out.size); have hAh : Hid (BtR cs 0 Y ga w5) := hA; clear hA hb5 hbt hb r1 s1 hrg))
   have hF5 := hFh.out w5 hB5.out
   refine sp_r35 _ ?_ _ _ gu i N cap h Y (some ⟨b,o,none⟩) sn sc T n (fun g w' => BtR cs Y h g w') w5 hiN hF5.row (fun W0 h0 => ?_) ?_
   ·exact fun c x n v w h => hQ c x n v w h
   ·refine ((hF5.below h0).bet Y h ⟨hyb.out.1,hyb.out.2.1,Int.le_refl _⟩).mono ?_
    rintro e w' ⟨g,rfl,h1,h2⟩
    exact ⟨g,rfl,h1,h0.trans (h2.mono h0.size)⟩
   intro gb w6 hG hb6
   have hA6 : Hid (BtR cs 0 Y ga w6 ∧ BtR cs Y h gb w6) := ⟨hAh.out.below hb6,hG⟩
   have hB6 : Hid (Below W.heap.size W w6) := hB5.out.trans (hb6.mono hB5.out.size)
   clear hF5 hG hb6 hAh hB5
   go_wp2_with fail
   have hF6 := hFh.out w6 hB6.out
   refine sp_r36 _ ?_ _ _ gu i N cap h (some ⟨b,o,none⟩) sn sc T n (.slice (some ⟨ga,0,none⟩) n n) (.slice (some ⟨gb,0,none⟩) n n) (fun v w' => JoR cs v w') w6 hiN hF6.row (fun W0 h0 => ?_) (fun v W0 hJ h0 => ?_) ?_
   ·exact fun c x n v w h => hQ c x n v w h
   ·have e1 := hA6.out.1.below h0
    have e2 := hA6.out.2.below h0
    rw [← hYh.out] at e1 e2
    refine ((hF6.below h0).join (j + 1) ga gb e1 e2).mono ?_
    rintro e w' ⟨v,rfl,h1,h2⟩
    exact ⟨v,rfl,h1,h0.trans (h2.mono h0.size)⟩
   ·refine ((hF6.below h0).same v hJ).mono ?_
    rintro e w' ⟨rfl,h2⟩
    exact ⟨rfl,h0.trans (h2.mono h0.size)⟩
   intro vj w7 hb7
   have hA7 : Hid (BtR cs 0 Y ga w7 ∧ BtR cs Y h gb w7) := ⟨hA6.out.1.below hb7,hA6.out.2.below hb7⟩
   have hB7 : Hid (Below W.heap.size W w7) := hB6.out.trans (hb7.mono hB6.out.size)
   clear hF6 hb7 hA6 hB6
   go_wp2_with fail
   go_loopw [21] (fun xl wr => ∃ c : Nat,c ≤ n ∧ xl = .int .i64 (c : Int) ∧ Hid (Below w7.heap.size w7 wr)) (fun xl _ => n - (intOf xl).toNat)
   case atStart => exact ⟨0,by omega,rfl,Below.refl _ _⟩
   case round =>
    obtain ⟨c,hc,rfl,hq⟩ := hrel
    by_cases hcl : c < n
    ·have hcl' : (c : Int) < (n : Int) := by omega
     obtain ⟨a1,k1,m1⟩ := (hA7.out.1.below hq.out).len (c := c) (by have := hcn.out; omega)
     obtain ⟨a2,k2,m2⟩ := (hA7.out.2.below hq.out).len (c := c) (by have := hcn.out; omega)
     have hBr : Hid (Below W.heap.size W wr) := hB7.out.trans (hq.out.mono hB7.out.size)
     have r0 := (hFh.out wr hBr.out).row.c0
     obtain ⟨l1,l2,l3⟩ := hlens.out c hcl
     generalize (wiL (cs.getD c ce0).ls 0 Y).length = p1 at *
     generalize (wiL (cs.getD c ce0).ls Y h).length = p2 at *
     obtain ⟨y1,y2,y3⟩ := hyb.out
     have g1 : ¬ Y < 2 + 10 * (p1 : Int) := by have := hYh.out; omega
     have g2 : ¬ h - Y < 10 * (p2 : Int) := by omega
     have hga : ga < wr.heap.size := by
      obtain ⟨d,hr,_,_⟩ := (hA7.out.1.below hq.out).ex
      exact hr.lt
     have hgb : gb < wr.heap.size := by
      obtain ⟨d,hr,_,_⟩ := (hA7.out.2.below hq.out).ex
      exact hr.lt
     have hgu := (hFh.out wr hBr.out).row.lt
     have hh6 : 0 ≤ h ∧ h ≤ 6000 := by omega
     have hp1 : p1 ≤ 600 := by omega
     have hqh : Hid (Below w7.heap.size w7 wr) := hq
     clear hq
     go_wp2_with fail
     refine sp_r41 _ ?_ _ _ gu i N cap ga gb n c p1 p2 k1 k2 h Y a1 a2 wr hiN hcl' hga hgb hgu m1 m2 r0 hp1 (by omega) ⟨y1,by omega⟩ hh6 (by omega) (by omega) ?_
     ·exact fun c x n v w h => hQ c x n v w h
     intro w8 hb8
     have hB8 : Hid (Below w7.heap.size w7 w8) := hqh.out.trans (hb8.mono hqh.out.size)
     clear m1 m2 r0 g1 g2 hqh hb8 hga hgb hgu hBr
     go_wp2_with fail
     exact ⟨⟨c + 1,by omega,rfl,hB8.out⟩,by simp [intOf]; omega⟩
    ·have hce : c = n := by omega
     subst hce
     have hge : ¬ (c : Int) < (c : Int) := by omega
     have hBr : Hid (Below W.heap.size W wr) := hB7.out.trans (hq.out.mono hB7.out.size)
     clear hlens hyb hYh hA7 hFh hcn hhe hsn hK hq hB7
     go_wp2_with fail
     exact ⟨⟨j + 1,by omega,rfl,hBr.out⟩,by simp [intOf]; omega⟩
  ·have hje : j = sn := by omega
   subst hje
   have hge : ¬ (j : Int) < (j : Int) := by omega
   have hfin := hK.out wr hb.out
   clear hK hFh hFr
   go_wp2_with fail
   exact hfin ..
end Go.Proofs.YtaphggjakaghjaaGreatDoor

namespace Go.Proofs.YtaphggjakaghjaaGreatDoor
open Go.RowKit Go.Shelf
set_option maxRecDepth 100000
set_option maxHeartbeats 4000000

theorem mxN_ge {ws : List Int} {ts : List ByteArray} : ∀ k c,c < k → (ceI ws ts c).length ≤ mxN ws ts k
 | 0,_,h => by omega
 | k + 1,c,h => by
  show _ ≤ max (mxN ws ts k) (ceI ws ts k).length
  by_cases e : c = k
  ·subst e; omega
  ·have := mxN_ge (ws := ws) (ts := ts) k c (by omega); omega
structure TbF (tB gu N cap b o cap2 n : Nat) (q : Int) (ws : List Int) (l : List ByteArray) (rs : List Rw) (W : World) : Prop where
 rb : RB 3 rwL W gu rs
 rN : rs.length = N
 at' : ∀ r ∈ rs,RwAt 0 W r
 is : ∀ i (h : i < rs.length),RwIs ws (ckT l n i) rs[i]
 num : N * n = l.length
 l64 : l.length ≤ 64
 n8 : 1 ≤ n ∧ n ≤ 8
 cb : ∀ t ∈ l,cellB t = true
 st : StrsAt W (.slice (some ⟨b,o,none⟩) l.length cap2) l
 bl : b < W.heap.size
 box : W.heap[tB]? = some (.cells #[.int .i64 n,.slice (some ⟨b,o,none⟩) l.length cap2] 24 (0,0))
 wok : ∀ c,c < n → (0 ≤ ws.getD c 0 ∧ ws.getD c 0 ≤ 4095) ∧ (0 ≤ smI ws c ∧ smI ws c ≤ 100000)
 wl : ws.length = n
 sum : smI ws n ≤ q
theorem TbF.below {tB gu N cap b o cap2 n : Nat} {q : Int} {ws : List Int} {l : List ByteArray} {rs : List Rw} {W W' : World} (k : TbF tB gu N cap b o cap2 n q ws l rs W) (hb : Below W.heap.size W W') : TbF tB gu N cap b o cap2 n q ws l rs W' :=
 ⟨k.rb.below hb k.rb.lt,k.rN,fun r hr => (k.at' r hr).below hb,k.is,k.num,k.l64,k.n8,k.cb,k.st.below hb (Nat.le_refl _),Nat.lt_of_lt_of_le k.bl hb.size,(hb.block _ (Array.getElem?_eq_some_iff.1 k.box).1).trans k.box,k.wok,k.wl,k.sum⟩
theorem TbF.row {tB gu N cap b o cap2 n : Nat} {q : Int} {ws : List Int} {l : List ByteArray} {rs : List Rw} {W : World} (k : TbF tB gu N cap b o cap2 n q ws l rs W) {i : Nat} (hi : i < N) :
  ∃ (h : Int) (sa : Option Addr) (sn sc T mx : Nat) (cs : List Cel),C1F tB gu i N cap b o l.length cap2 n h sa sn sc T mx ws (ckT l n i) W ∧ C3F gu i N cap h sa sn sc T n mx cs W := by
 have hir : i < rs.length := by have := k.rN; omega
 have hR := k.at' _ (List.getElem_mem hir)
 have hI := k.is i hir
 obtain ⟨n1,n2⟩ := k.n8
 have hin : (i + 1) * n ≤ l.length := by
  have := Nat.mul_le_mul_right n (show i + 1 ≤ N from hi)
  rw [k.num] at this
  exact this
 have hin2 : (i + 1) * n = i * n + n := Nat.succ_mul _ _
 have htl := chk_len hin
 have hcb := ck_cells (l := l) (c := n) (i := i) k.cb
 have hcn : rs[i].cs.length = n := by rw [hI.n,htl]
 obtain ⟨T,_,hcv,hrb⟩ := hR.cv
 obtain ⟨sa,sc,hsv⟩ := owns_slice hR.sp
 have hmx := mxN_le (ws := ws) hcb (ckT l n i).length (Nat.le_refl _)
 have hc3 : ∀ j u,(rwL rs[i])[j]? = some u → W.cell? ⟨gu,i * 3 + j,none⟩ = some u := fun j u hu => (k.rb.all i hir j u hu).1
 have hrow : RoF gu i rs[i].h sa rs[i].sp.length sc T n W := ⟨k.rb.lt,hc3 0 _ rfl,by have := hc3 1 _ rfl; rw [hsv] at this; exact this,by have := hc3 2 _ rfl; rw [hcv,hcn] at this; exact this⟩
 have hh : rs[i].h = 10 * (mxN ws (ckT l n i) (ckT l n i).length : Nat) + 4 := hI.h
 have hlx : ∀ c (hc : c < rs[i].cs.length),∃ g,rs[i].cs[c].v = .slice (some ⟨g,0,none⟩) rs[i].cs[c].ls.length rs[i].cs[c].ls.length ∧ LxsAt W (.slice (some ⟨g,0,none⟩) rs[i].cs[c].ls.length rs[i].cs[c].ls.length) rs[i].cs[c].ls := fun c hc => by
  obtain ⟨g,_,h1,h2⟩ := (hR.cs _ (List.getElem_mem hc)).ex
  exact ⟨g,h1,h2⟩
 have hle : ∀ c (hc : c < rs[i].cs.length),rs[i].cs[c].ls.length ≤ mxN ws (ckT l n i) (ckT l n i).length := fun c hc => by
  rw [(hI.cs c hc).ls]
  exact mxN_ge _ c (by omega)
 refine ⟨rs[i].h,sa,rs[i].sp.length,sc,T,mxN ws (ckT l n i) (ckT l n i).length,rs[i].cs,?_,?_⟩
 ·refine ⟨hrow,hi,(Lib.cell_of_heap k.box _).trans rfl,(Lib.cell_of_heap k.box _).trans rfl,(Array.getElem?_eq_some_iff.1 k.box).1,fun c hc => ?_,k.bl,⟨by omega,k.l64⟩,fun c hc => ?_,hrb.lt,hh,by omega,k.wok,n2⟩
  ·obtain ⟨q1,q2,q3⟩ := chk_get hin hc
   have hg : (ckT l n i).getD c ⟨#[]⟩ = (ckT l n i)[c] := by rw [List.getD_eq_getElem?_getD,List.getElem?_eq_getElem q1]; rfl
   obtain ⟨a,cp,e,h2⟩ := k.st.ex
   cases e
   rcases h2 with h2 | ⟨g,o',e1,_,hcl⟩
   ·rw [h2] at q2; simp at q2
   ·cases e1
    refine ⟨by rw [hg,q3]; exact hcl _ q2,?_⟩
    rw [hg]
    exact (cell_get (hcb _ (List.getElem_mem q1))).1
  ·have hcl : c < rs[i].cs.length := by omega
   have hct : c < (ckT l n i).length := by omega
   obtain ⟨g,hv,hl⟩ := hlx c hcl
   have hci := hI.cs c hcl
   have hg : (ckT l n i).getD c ⟨#[]⟩ = (ckT l n i)[c] := by rw [List.getD_eq_getElem?_getD,List.getElem?_eq_getElem hct]; rfl
   refine ⟨g,rs[i].cs[c].ls,fun j u hu => ?_,hl,?_,hle c hcl⟩
   ·have e : ceL rs[i].cs[c] = [.int .i64 (smI ws c),.int .i64 (ws.getD c 0),.slice (some ⟨g,0,none⟩) rs[i].cs[c].ls.length rs[i].cs[c].ls.length] := by show [_,_,rs[i].cs[c].v] = _; rw [hv,hci.x,hci.w]
    rw [← e] at hu
    exact (hrb.all c hcl j u hu).1
   ·rw [hci.ls]
    unfold ceI
    rw [hg]
    exact cell_ls (hcb _ (List.getElem_mem hct)) _
 ·refine ⟨hrow,hi,?_,hh,by omega,?_,hcn,n2,fun c hc => ?_⟩
  ·have hs := rec_of_row (f := inL) (fun _ => rfl) rfl hR.sp
   rw [hsv] at hs
   have e := hI.sp
   rw [e] at hs ⊢
   exact hs
  ·have := hrb.recs (n := n) (cap := n) (by omega) (Nat.le_refl _)
   rwa [List.take_of_length_le (by omega)] at this
  ·obtain ⟨q,hq,rfl⟩ := List.getElem_of_mem hc
   obtain ⟨g,hv,hl⟩ := hlx q hq
   exact ⟨by rw [hv]; exact hl,hle q hq⟩
def HvEnd (w : World) (e : Ending) (w' : World) : Prop := ∃ b,e = .returned (.bool b) ∧ Below w.heap.size w w'
theorem heavy_any (c : Int) (v : Value) (l : List ByteArray) (hl : l.length ≤ 9223372036854775807) (hsz : ∀ t ∈ l,t.size ≤ 9223372036854775807) (w : World) (hS : StrsAt w v l) : Calls Tryz.prog 7 #[.agg #[.int .i64 c,v]] w (HvEnd w) := by
 obtain ⟨a,cap,rfl,h2⟩ := hS.ex
 have hend : Hid (∀ b W,Below w.heap.size w W → HvEnd w (.returned (.bool b)) W) := fun b W h => ⟨b,rfl,h⟩
 generalize HvEnd w = E at *
 have hB0 := (Below.refl w.heap.size w).alloc (Nat.le_refl _) (.cells #[.int .i64 c,.slice a l.length cap] 24)
 have hbx : Hid (∀ W,Below (w.heap.size + 1) (w.alloc (.cells #[.int .i64 c,.slice a l.length cap] 24)) W → W.cell? ⟨w.heap.size,1,none⟩ = some (.slice a l.length cap)) := fun W hb => by
  rw [Lib.cell_of_heap ((hb.block _ (by omega)).trans (World.alloc_heap_new w _))]; rfl
 have c1 := hbx.out _ (Below.refl _ _)
 have hs1 : (w.alloc (.cells #[.int .i64 c,.slice a l.length cap] 24)).heap.size = w.heap.size + 1 := World.size_alloc _ _
 have hszh : Hid (∀ k (h : k < l.length),(l[k]).size ≤ 9223372036854775807) := fun k h => hsz _ (List.getElem_mem h)
 have hB0h : Hid (Below w.heap.size w (w.alloc (.cells #[.int .i64 c,.slice a l.length cap] 24)) ∧ Below (w.heap.size + 1) (w.alloc (.cells #[.int .i64 c,.slice a l.length cap] 24)) (w.alloc (.cells #[.int .i64 c,.slice a l.length cap] 24))) := ⟨hB0,Below.refl _ _⟩
 clear hsz hS hB0
 by_cases h100 : 100 < l.length
 ·have h100' : (100 : Int) < (l.length : Int) := by omega
  go_enter Tryz.func7,Tryz.ntmps7
  go_wp2_with fail
  exact hend.out _ _ hB0h.out.1
 ·have h100' : ¬ (100 : Int) < (l.length : Int) := by omega
  go_enter Tryz.func7,Tryz.ntmps7
  go_wp2_with fail
  generalize hw1 : w.alloc (.cells #[.int .i64 c,.slice a l.length cap] 24) = w1 at *
  clear hw1
  go_loopw [3] (fun v3 wr => ∃ k : Nat,k ≤ l.length ∧ v3 = .int .i64 (k : Int) ∧ wr = w1) (fun v3 _ => l.length - (intOf v3).toNat)
  case atStart => exact ⟨0,by omega,rfl,rfl⟩
  case round =>
   obtain ⟨k,hk,rfl,hwr⟩ := hrel
   subst hwr
   by_cases hlt : k < l.length
   ·have hlt' : (k : Int) < (l.length : Int) := by omega
    rcases h2 with h2 | ⟨b,o,rfl,hbl,hcl⟩
    ·rw [h2] at hlt; simp at hlt
    ·have s1 := (hB0h.out.1.cell hbl).trans (hcl k hlt)
     have hz := hszh.out k hlt
     clear hcl hszh
     generalize l[k] = t at *
     by_cases h3 : 300 < t.size
     ·have h3' : (300 : Int) < (t.size : Int) := by omega
      go_wp2_with fail
      exact hend.out _ _ hB0h.out.1
     ·have h3' : ¬ (300 : Int) < (t.size : Int) := by omega
      go_wp2_with fail
      go_roundw
      case rel => exact ⟨k + 1,by omega,by simp,trivial⟩
      case measure => simp [intOf]; omega
   ·have hkn : k = l.length := by omega
    subst hkn
    have hge : ¬ ((l.length : Nat) : Int) < (l.length : Int) := by omega
    go_wp2_with fail
    exact hend.out _ _ hB0h.out.1
end Go.Proofs.YtaphggjakaghjaaGreatDoor

namespace Go.Proofs.YtaphggjakaghjaaGreatDoor
open Go.RowKit Go.Shelf

theorem strs_nil (w : World) : StrsAt w (.slice none 0 0) [] := ⟨⟨none,0,rfl,.inl rfl⟩,fun a n c e => by cases e; exact Nat.le_refl _⟩

end Go.Proofs.YtaphggjakaghjaaGreatDoor
