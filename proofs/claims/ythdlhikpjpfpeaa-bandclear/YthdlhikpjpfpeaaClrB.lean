/-
  What is proved here: the lines beside what objects made.
-/
import Derived.Test.YthdlhikpjpfpeaaClrC
import Derived.BigQuiet
namespace Go.Proofs.Ythdlhikpjpfpeaa
open Go.RowKit Go.Shelf

theorem widF_le (s f t M : Int) : ∀ (l : List Bd) (m : Int), (∀ b ∈ l, b.w ≤ M) → m ≤ M → widF s f t l m ≤ M
  | [], _, _, h => h
  | b :: r, m, h, h1 => by
    have := h b (List.mem_cons_self ..)
    unfold widF
    refine widF_le s f t M r _ (fun c hc => h c (List.mem_cons_of_mem _ hc)) ?_
    split <;> omega
theorem ov_bs (f t : Int) (b : Bd) : ovB f t b.y b.h = bsB f (f + t) b := decide_eq_decide.2 (by omega)
def rest20 : Code := ((Code.region 20 #[{ dst := some 198, op := Op.move (Operand.tmp 0), type := 3, pos := "outright.go:50", after := #[], guard := none }, { dst := some 199, op := Op.move (Operand.tmp 10), type := 22, pos := "outright.go:50", after := #[], guard := none }, { dst := some 200, op := Op.move (Operand.tmp 2), type := 3, pos := "outright.go:50", after := #[], guard := none }, { dst := some 201, op := Op.move (Operand.tmp 3), type := 3, pos := "outright.go:50", after := #[], guard := none }, { dst := some 202, op := Op.call { callee := Callee.value (Operand.func 7), args := #[Operand.tmp 198, Operand.tmp 199, Operand.tmp 200, Operand.tmp 201, Operand.const (Value.int IntKind.i64 256)], argTypes := #[3, 22, 3, 3, 3] }, type := 25, pos := "outright.go:50", after := #[{ on := 0, ground := Ground.data }, { on := 1, ground := Ground.data }, { on := 2, ground := Ground.data }, { on := 3, ground := Ground.data }], guard := none }, { dst := some 197, op := Op.move (Operand.tmp 202), type := 25, pos := "outright.go:50", after := #[{ on := 4, ground := Ground.data }], guard := none }, { dst := some 203, op := Op.extract (Operand.tmp 197) 0, type := 23, pos := "outright.go:50", after := #[{ on := 5, ground := Ground.data }], guard := none }, { dst := some 204, op := Op.extract (Operand.tmp 197) 1, type := 24, pos := "outright.go:50", after := #[{ on := 5, ground := Ground.data }, { on := 8, ground := Ground.gcOnly Departure.lateStores }], guard := none }, { dst := some 16, op := Op.assign (Operand.tmp 203), type := 23, pos := "outright.go:50", after := #[{ on := 6, ground := Ground.data }, { on := 4, ground := Ground.chain }, { on := 0, ground := Ground.phase }, { on := 1, ground := Ground.phase }, { on := 2, ground := Ground.phase }, { on := 3, ground := Ground.phase }, { on := 4, ground := Ground.phase }, { on := 5, ground := Ground.phase }, { on := 6, ground := Ground.phase }, { on := 7, ground := Ground.textOnly Departure.lateStores }], guard := none }, { dst := some 17, op := Op.assign (Operand.tmp 204), type := 24, pos := "outright.go:50", after := #[{ on := 7, ground := Ground.data }, { on := 8, ground := Ground.chain }, { on := 0, ground := Ground.phase }, { on := 1, ground := Ground.phase }, { on := 2, ground := Ground.phase }, { on := 3, ground := Ground.phase }, { on := 4, ground := Ground.phase }, { on := 5, ground := Ground.phase }, { on := 6, ground := Ground.phase }, { on := 7, ground := Ground.phase }, { on := 8, ground := Ground.phase }], guard := none }] false).seq (((Code.region 21 #[{ dst := some 205, op := Op.move (Operand.tmp 17), type := 24, pos := "outright.go:51", after := #[], guard := none }, { dst := some 206, op := Op.binOp BinOp.neq 24 (Operand.tmp 205) (Operand.const (Value.int IntKind.i64 0)) 24, type := 4, pos := "outright.go:51", after := #[{ on := 0, ground := Ground.data }], guard := none }, { dst := some 207, op := Op.move (Operand.tmp 206), type := 4, pos := "outright.go:51", after := #[{ on := 1, ground := Ground.data }], guard := none }, { dst := some 208, op := Op.move (Operand.tmp 16), type := 23, pos := "outright.go:51", after := #[{ on := 2, ground := Ground.guard }], guard := some (2, false) }, { dst := some 209, op := Op.call { callee := Callee.builtin Builtin.len, args := #[Operand.tmp 208], argTypes := #[23] }, type := 3, pos := "outright.go:51", after := #[{ on := 3, ground := Ground.data }, { on := 2, ground := Ground.guard }], guard := some (2, false) }, { dst := some 210, op := Op.binOp BinOp.neq 3 (Operand.tmp 209) (Operand.const (Value.int IntKind.i64 256)) 3, type := 4, pos := "outright.go:51", after := #[{ on := 4, ground := Ground.data }, { on := 2, ground := Ground.guard }], guard := some (2, false) }, { dst := some 211, op := Op.pick (Operand.tmp 207) (Operand.const (Value.bool true)) (Operand.tmp 210), type := 4, pos := "outright.go:51", after := #[{ on := 2, ground := Ground.data }, { on := 5, ground := Ground.data }], guard := none }] false).seq (Code.cond (Operand.tmp 211) ((Code.region 22 #[{ dst := some 8, op := Op.assign (Operand.const (Value.bool false)), type := 4, pos := "outright.go:52", after := #[], guard := none }] false).seq Code.ret) Code.skip)).seq (((Code.region 23 #[{ dst := some 18, op := Op.assign (Operand.const (Value.int IntKind.i64 0)), type := 3, pos := "outright.go:54", after := #[], guard := none }] false).seq (Code.block 4 (((Code.region 24 #[{ dst := some 212, op := Op.move (Operand.tmp 18), type := 3, pos := "outright.go:54", after := #[], guard := none }, { dst := some 213, op := Op.move (Operand.tmp 16), type := 23, pos := "outright.go:54", after := #[], guard := none }, { dst := some 214, op := Op.call { callee := Callee.builtin Builtin.len, args := #[Operand.tmp 213], argTypes := #[23] }, type := 3, pos := "outright.go:54", after := #[{ on := 1, ground := Ground.data }], guard := none }, { dst := some 215, op := Op.binOp BinOp.lss 3 (Operand.tmp 212) (Operand.tmp 214) 3, type := 4, pos := "outright.go:54", after := #[{ on := 0, ground := Ground.data }, { on := 2, ground := Ground.data }], guard := none }] false).seq (Code.cond (Operand.tmp 215) Code.skip (Code.exit 4))).seq ((Code.block 5 ((Code.region 26 #[{ dst := some 19, op := Op.assign (Operand.const (Value.int IntKind.i64 0)), type := 3, pos := "outright.go:55", after := #[], guard := none }, { dst := some 20, op := Op.assign (Operand.const (Value.int IntKind.i64 0)), type := 3, pos := "outright.go:55", after := #[{ on := 0, ground := Ground.chain }, { on := 0, ground := Ground.phase }], guard := none }] false).seq (((Code.region 27 #[{ dst := some 21, op := Op.assign (Operand.const (Value.int IntKind.i64 0)), type := 3, pos := "outright.go:56", after := #[], guard := none }] false).seq (Code.block 6 (((Code.region 28 #[{ dst := some 218, op := Op.move (Operand.tmp 21), type := 3, pos := "outright.go:56", after := #[], guard := none }, { dst := some 219, op := Op.move (Operand.tmp 10), type := 22, pos := "outright.go:56", after := #[], guard := none }, { dst := some 220, op := Op.call { callee := Callee.builtin Builtin.len, args := #[Operand.tmp 219], argTypes := #[22] }, type := 3, pos := "outright.go:56", after := #[{ on := 1, ground := Ground.data }], guard := none }, { dst := some 221, op := Op.binOp BinOp.lss 3 (Operand.tmp 218) (Operand.tmp 220) 3, type := 4, pos := "outright.go:56", after := #[{ on := 0, ground := Ground.data }, { on := 2, ground := Ground.data }], guard := none }] false).seq (Code.cond (Operand.tmp 221) Code.skip (Code.exit 6))).seq ((Code.block 7 (((Code.region 30 #[{ dst := some 224, op := Op.move (Operand.tmp 2), type := 3, pos := "outright.go:57", after := #[], guard := none }, { dst := some 225, op := Op.move (Operand.tmp 18), type := 3, pos := "outright.go:57", after := #[], guard := none }, { dst := some 226, op := Op.move (Operand.tmp 3), type := 3, pos := "outright.go:57", after := #[], guard := none }, { dst := some 227, op := Op.binOp BinOp.mul 3 (Operand.tmp 225) (Operand.tmp 226) 3, type := 3, pos := "outright.go:57", after := #[{ on := 1, ground := Ground.data }, { on := 2, ground := Ground.data }], guard := none }, { dst := some 228, op := Op.binOp BinOp.add 3 (Operand.tmp 224) (Operand.tmp 227) 3, type := 3, pos := "outright.go:57", after := #[{ on := 0, ground := Ground.data }, { on := 3, ground := Ground.data }], guard := none }, { dst := some 229, op := Op.move (Operand.tmp 3), type := 3, pos := "outright.go:57", after := #[], guard := none }, { dst := some 230, op := Op.move (Operand.tmp 10), type := 22, pos := "outright.go:57", after := #[], guard := none }, { dst := some 231, op := Op.move (Operand.tmp 21), type := 3, pos := "outright.go:57", after := #[], guard := none }, { dst := some 232, op := Op.indexAddr 22 (Operand.tmp 230) (Operand.tmp 231), type := 0, pos := "outright.go:57", after := #[{ on := 6, ground := Ground.data }, { on := 7, ground := Ground.data }], guard := none }, { dst := some 233, op := Op.fieldAddr 34 (Operand.tmp 232) 1, type := 0, pos := "outright.go:57", after := #[{ on := 8, ground := Ground.data }], guard := none }, { dst := some 234, op := Op.load 3 (Operand.tmp 233), type := 3, pos := "outright.go:57", after := #[{ on := 9, ground := Ground.data }], guard := none }, { dst := some 235, op := Op.move (Operand.tmp 10), type := 22, pos := "outright.go:57", after := #[], guard := none }, { dst := some 236, op := Op.move (Operand.tmp 21), type := 3, pos := "outright.go:57", after := #[], guard := none }, { dst := some 237, op := Op.indexAddr 22 (Operand.tmp 235) (Operand.tmp 236), type := 0, pos := "outright.go:57", after := #[{ on := 11, ground := Ground.data }, { on := 12, ground := Ground.data }], guard := none }, { dst := some 238, op := Op.fieldAddr 34 (Operand.tmp 237) 2, type := 0, pos := "outright.go:57", after := #[{ on := 13, ground := Ground.data }], guard := none }, { dst := some 239, op := Op.load 3 (Operand.tmp 238), type := 3, pos := "outright.go:57", after := #[{ on := 14, ground := Ground.data }], guard := none }, { dst := some 240, op := Op.call { callee := Callee.value (Operand.func 18), args := #[Operand.tmp 228, Operand.tmp 229, Operand.tmp 234, Operand.tmp 239], argTypes := #[3, 3, 3, 3] }, type := 4, pos := "outright.go:57", after := #[{ on := 4, ground := Ground.data }, { on := 5, ground := Ground.data }, { on := 10, ground := Ground.data }, { on := 15, ground := Ground.data }], guard := none }, { dst := some 241, op := Op.unOp UnOp.not 4 (Operand.tmp 240), type := 4, pos := "outright.go:57", after := #[{ on := 16, ground := Ground.data }], guard := none }] true).seq (Code.cond (Operand.tmp 241) (Code.exit 7) Code.skip)).seq ((Code.region 31 #[{ dst := some 242, op := Op.move (Operand.tmp 10), type := 22, pos := "outright.go:60", after := #[], guard := none }, { dst := some 243, op := Op.move (Operand.tmp 21), type := 3, pos := "outright.go:60", after := #[], guard := none }, { dst := some 244, op := Op.indexAddr 22 (Operand.tmp 242) (Operand.tmp 243), type := 0, pos := "outright.go:60", after := #[{ on := 0, ground := Ground.data }, { on := 1, ground := Ground.data }], guard := none }, { dst := some 245, op := Op.fieldAddr 34 (Operand.tmp 244) 0, type := 0, pos := "outright.go:60", after := #[{ on := 2, ground := Ground.data }], guard := none }, { dst := some 246, op := Op.load 3 (Operand.tmp 245), type := 3, pos := "outright.go:60", after := #[{ on := 3, ground := Ground.data }], guard := none }, { dst := some 247, op := Op.binOp BinOp.eql 3 (Operand.tmp 246) (Operand.const (Value.int IntKind.i64 0)) 3, type := 4, pos := "outright.go:60", after := #[{ on := 4, ground := Ground.data }], guard := none }] false).seq (Code.cond (Operand.tmp 247) (Code.region 32 #[{ dst := some 248, op := Op.move (Operand.tmp 19), type := 3, pos := "outright.go:61", after := #[], guard := none }, { dst := some 249, op := Op.move (Operand.tmp 10), type := 22, pos := "outright.go:61", after := #[], guard := none }, { dst := some 250, op := Op.move (Operand.tmp 21), type := 3, pos := "outright.go:61", after := #[], guard := none }, { dst := some 251, op := Op.indexAddr 22 (Operand.tmp 249) (Operand.tmp 250), type := 0, pos := "outright.go:61", after := #[{ on := 1, ground := Ground.data }, { on := 2, ground := Ground.data }], guard := none }, { dst := some 252, op := Op.fieldAddr 34 (Operand.tmp 251) 3, type := 0, pos := "outright.go:61", after := #[{ on := 3, ground := Ground.data }], guard := none }, { dst := some 253, op := Op.load 3 (Operand.tmp 252), type := 3, pos := "outright.go:61", after := #[{ on := 4, ground := Ground.data }], guard := none }, { dst := some 254, op := Op.call { callee := Callee.builtin Builtin.max, args := #[Operand.tmp 248, Operand.tmp 253], argTypes := #[3, 3] }, type := 3, pos := "outright.go:61", after := #[{ on := 0, ground := Ground.data }, { on := 5, ground := Ground.data }], guard := none }, { dst := some 19, op := Op.assign (Operand.tmp 254), type := 3, pos := "outright.go:61", after := #[{ on := 6, ground := Ground.data }, { on := 0, ground := Ground.phase }, { on := 1, ground := Ground.phase }, { on := 2, ground := Ground.phase }, { on := 3, ground := Ground.phase }, { on := 4, ground := Ground.phase }, { on := 5, ground := Ground.phase }, { on := 6, ground := Ground.phase }], guard := none }] false) (Code.region 33 #[{ dst := some 255, op := Op.move (Operand.tmp 20), type := 3, pos := "outright.go:63", after := #[], guard := none }, { dst := some 256, op := Op.move (Operand.tmp 10), type := 22, pos := "outright.go:63", after := #[], guard := none }, { dst := some 257, op := Op.move (Operand.tmp 21), type := 3, pos := "outright.go:63", after := #[], guard := none }, { dst := some 258, op := Op.indexAddr 22 (Operand.tmp 256) (Operand.tmp 257), type := 0, pos := "outright.go:63", after := #[{ on := 1, ground := Ground.data }, { on := 2, ground := Ground.data }], guard := none }, { dst := some 259, op := Op.fieldAddr 34 (Operand.tmp 258) 3, type := 0, pos := "outright.go:63", after := #[{ on := 3, ground := Ground.data }], guard := none }, { dst := some 260, op := Op.load 3 (Operand.tmp 259), type := 3, pos := "outright.go:63", after := #[{ on := 4, ground := Ground.data }], guard := none }, { dst := some 261, op := Op.call { callee := Callee.builtin Builtin.max, args := #[Operand.tmp 255, Operand.tmp 260], argTypes := #[3, 3] }, type := 3, pos := "outright.go:63", after := #[{ on := 0, ground := Ground.data }, { on := 5, ground := Ground.data }], guard := none }, { dst := some 20, op := Op.assign (Operand.tmp 261), type := 3, pos := "outright.go:63", after := #[{ on := 6, ground := Ground.data }, { on := 0, ground := Ground.phase }, { on := 1, ground := Ground.phase }, { on := 2, ground := Ground.phase }, { on := 3, ground := Ground.phase }, { on := 4, ground := Ground.phase }, { on := 5, ground := Ground.phase }, { on := 6, ground := Ground.phase }], guard := none }] false))))).seq (Code.region 29 #[{ dst := some 222, op := Op.move (Operand.tmp 21), type := 3, pos := "outright.go:56", after := #[], guard := none }, { dst := some 223, op := Op.binOp BinOp.add 3 (Operand.tmp 222) (Operand.const (Value.int IntKind.i64 1)) 3, type := 3, pos := "outright.go:56", after := #[{ on := 0, ground := Ground.data }], guard := none }, { dst := some 21, op := Op.assign (Operand.tmp 223), type := 3, pos := "outright.go:56", after := #[{ on := 1, ground := Ground.data }, { on := 0, ground := Ground.phase }, { on := 1, ground := Ground.phase }], guard := none }] false))).loop)).seq ((Code.region 34 #[{ dst := some 262, op := Op.move (Operand.tmp 16), type := 23, pos := "outright.go:66", after := #[], guard := none }, { dst := some 263, op := Op.move (Operand.tmp 18), type := 3, pos := "outright.go:66", after := #[], guard := none }, { dst := some 264, op := Op.indexAddr 23 (Operand.tmp 262) (Operand.tmp 263), type := 0, pos := "outright.go:66", after := #[{ on := 0, ground := Ground.data }, { on := 1, ground := Ground.data }], guard := none }, { dst := some 265, op := Op.fieldAddr 43 (Operand.tmp 264) 1, type := 0, pos := "outright.go:66", after := #[{ on := 2, ground := Ground.data }], guard := none }, { dst := some 266, op := Op.load 3 (Operand.tmp 265), type := 3, pos := "outright.go:66", after := #[{ on := 3, ground := Ground.data }], guard := none }, { dst := some 267, op := Op.binOp BinOp.lss 3 (Operand.tmp 266) (Operand.const (Value.int IntKind.i64 10)) 3, type := 4, pos := "outright.go:66", after := #[{ on := 4, ground := Ground.data }], guard := none }, { dst := some 268, op := Op.move (Operand.tmp 267), type := 4, pos := "outright.go:66", after := #[{ on := 5, ground := Ground.data }], guard := none }, { dst := some 269, op := Op.move (Operand.tmp 16), type := 23, pos := "outright.go:66", after := #[{ on := 6, ground := Ground.guard }], guard := some (6, false) }, { dst := some 270, op := Op.move (Operand.tmp 18), type := 3, pos := "outright.go:66", after := #[{ on := 6, ground := Ground.guard }], guard := some (6, false) }, { dst := some 271, op := Op.indexAddr 23 (Operand.tmp 269) (Operand.tmp 270), type := 0, pos := "outright.go:66", after := #[{ on := 7, ground := Ground.data }, { on := 8, ground := Ground.data }, { on := 6, ground := Ground.guard }], guard := some (6, false) }, { dst := some 272, op := Op.fieldAddr 43 (Operand.tmp 271) 0, type := 0, pos := "outright.go:66", after := #[{ on := 9, ground := Ground.data }, { on := 6, ground := Ground.guard }], guard := some (6, false) }, { dst := some 273, op := Op.load 3 (Operand.tmp 272), type := 3, pos := "outright.go:66", after := #[{ on := 10, ground := Ground.data }, { on := 6, ground := Ground.guard }], guard := some (6, false) }, { dst := some 274, op := Op.move (Operand.tmp 19), type := 3, pos := "outright.go:66", after := #[{ on := 6, ground := Ground.guard }], guard := some (6, false) }, { dst := some 275, op := Op.binOp BinOp.neq 3 (Operand.tmp 273) (Operand.tmp 274) 3, type := 4, pos := "outright.go:66", after := #[{ on := 11, ground := Ground.data }, { on := 12, ground := Ground.data }, { on := 6, ground := Ground.guard }], guard := some (6, false) }, { dst := some 276, op := Op.pick (Operand.tmp 268) (Operand.const (Value.bool true)) (Operand.tmp 275), type := 4, pos := "outright.go:66", after := #[{ on := 6, ground := Ground.data }, { on := 13, ground := Ground.data }], guard := none }, { dst := some 277, op := Op.move (Operand.tmp 276), type := 4, pos := "outright.go:66", after := #[{ on := 14, ground := Ground.data }, { on := 6, ground := Ground.chain }], guard := none }, { dst := some 278, op := Op.move (Operand.tmp 16), type := 23, pos := "outright.go:66", after := #[{ on := 15, ground := Ground.guard }], guard := some (15, false) }, { dst := some 279, op := Op.move (Operand.tmp 18), type := 3, pos := "outright.go:66", after := #[{ on := 15, ground := Ground.guard }], guard := some (15, false) }, { dst := some 280, op := Op.indexAddr 23 (Operand.tmp 278) (Operand.tmp 279), type := 0, pos := "outright.go:66", after := #[{ on := 16, ground := Ground.data }, { on := 17, ground := Ground.data }, { on := 15, ground := Ground.guard }], guard := some (15, false) }, { dst := some 281, op := Op.fieldAddr 43 (Operand.tmp 280) 0, type := 0, pos := "outright.go:66", after := #[{ on := 18, ground := Ground.data }, { on := 15, ground := Ground.guard }], guard := some (15, false) }, { dst := some 282, op := Op.load 3 (Operand.tmp 281), type := 3, pos := "outright.go:66", after := #[{ on := 19, ground := Ground.data }, { on := 15, ground := Ground.guard }], guard := some (15, false) }, { dst := some 283, op := Op.move (Operand.tmp 16), type := 23, pos := "outright.go:66", after := #[{ on := 15, ground := Ground.guard }], guard := some (15, false) }, { dst := some 284, op := Op.move (Operand.tmp 18), type := 3, pos := "outright.go:66", after := #[{ on := 15, ground := Ground.guard }], guard := some (15, false) }, { dst := some 285, op := Op.indexAddr 23 (Operand.tmp 283) (Operand.tmp 284), type := 0, pos := "outright.go:66", after := #[{ on := 21, ground := Ground.data }, { on := 22, ground := Ground.data }, { on := 15, ground := Ground.guard }], guard := some (15, false) }, { dst := some 286, op := Op.fieldAddr 43 (Operand.tmp 285) 1, type := 0, pos := "outright.go:66", after := #[{ on := 23, ground := Ground.data }, { on := 15, ground := Ground.guard }], guard := some (15, false) }, { dst := some 287, op := Op.load 3 (Operand.tmp 286), type := 3, pos := "outright.go:66", after := #[{ on := 24, ground := Ground.data }, { on := 15, ground := Ground.guard }], guard := some (15, false) }, { dst := some 288, op := Op.binOp BinOp.add 3 (Operand.tmp 282) (Operand.tmp 287) 3, type := 3, pos := "outright.go:66", after := #[{ on := 20, ground := Ground.data }, { on := 25, ground := Ground.data }, { on := 15, ground := Ground.guard }], guard := some (15, false) }, { dst := some 289, op := Op.move (Operand.tmp 0), type := 3, pos := "outright.go:66", after := #[{ on := 15, ground := Ground.guard }], guard := some (15, false) }, { dst := some 290, op := Op.move (Operand.tmp 20), type := 3, pos := "outright.go:66", after := #[{ on := 15, ground := Ground.guard }], guard := some (15, false) }, { dst := some 291, op := Op.binOp BinOp.sub 3 (Operand.tmp 289) (Operand.tmp 290) 3, type := 3, pos := "outright.go:66", after := #[{ on := 27, ground := Ground.data }, { on := 28, ground := Ground.data }, { on := 15, ground := Ground.guard }], guard := some (15, false) }, { dst := some 292, op := Op.binOp BinOp.neq 3 (Operand.tmp 288) (Operand.tmp 291) 3, type := 4, pos := "outright.go:66", after := #[{ on := 26, ground := Ground.data }, { on := 29, ground := Ground.data }, { on := 15, ground := Ground.guard }], guard := some (15, false) }, { dst := some 293, op := Op.pick (Operand.tmp 277) (Operand.const (Value.bool true)) (Operand.tmp 292), type := 4, pos := "outright.go:66", after := #[{ on := 15, ground := Ground.data }, { on := 30, ground := Ground.data }], guard := none }] true).seq (Code.cond (Operand.tmp 293) ((Code.region 35 #[{ dst := some 8, op := Op.assign (Operand.const (Value.bool false)), type := 4, pos := "outright.go:67", after := #[], guard := none }] false).seq Code.ret) Code.skip))))).seq (Code.region 25 #[{ dst := some 216, op := Op.move (Operand.tmp 18), type := 3, pos := "outright.go:54", after := #[], guard := none }, { dst := some 217, op := Op.binOp BinOp.add 3 (Operand.tmp 216) (Operand.const (Value.int IntKind.i64 1)) 3, type := 3, pos := "outright.go:54", after := #[{ on := 0, ground := Ground.data }], guard := none }, { dst := some 18, op := Op.assign (Operand.tmp 217), type := 3, pos := "outright.go:54", after := #[{ on := 1, ground := Ground.data }, { on := 0, ground := Ground.phase }, { on := 1, ground := Ground.phase }], guard := none }] false))).loop)).seq rest36)))
set_option maxRecDepth 100000 in
set_option maxHeartbeats 8000000 in
theorem rest20_wp (RR : Ending → World → Prop) (z w : World) (a : Option Addr) (l : List Bd) (cap K : Nat) (n y p : Int) (hG : GL n K l) (hn : 10 ≤ n ∧ n ≤ 4095) (hy : inB y = true) (hp : 1 ≤ p ∧ p ≤ 255) (hz : Below z.heap.size z w) (hS : RecAt 4 bdL w (.slice a l.length cap) l) {v1 v4 v5 v6 v7 v8 v11 v12 v13 v14 v15 v16 v17 v18 v19 v20 v21 v22 v23 v24 v25 v26 v27 v28 v29 v30 v31 v32 v33 v34 v35 v36 v37 v38 v39 v40 v41 v42 v43 v44 v45 v46 v47 v48 v49 v50 v51 v52 v53 v54 v55 v56 v57 v58 v59 v60 v61 v62 v63 v64 v65 v66 v67 v68 v69 v70 v71 v72 v73 v74 v75 v76 v77 v78 v79 v80 v81 v82 v83 v84 v85 v86 v87 v88 v89 v90 v91 v92 v93 v94 v95 v96 v97 v98 v99 v100 v101 v102 v103 v104 v105 v106 v107 v108 v109 v110 v111 v112 v113 v114 v115 v116 v117 v118 v119 v120 v121 v122 v123 v124 v125 v126 v127 v128 v129 v130 v131 v132 v133 v134 v135 v136 v137 v138 v139 v140 v141 v142 v143 v144 v145 v146 v147 v148 v149 v150 v151 v152 v153 v154 v155 v156 v157 v158 v159 v160 v161 v162 v163 v164 v165 v166 v167 v168 v169 v170 v171 v172 v173 v174 v175 v176 v177 v178 v179 v180 v181 v182 v183 v184 v185 v186 v187 v188 v189 v190 v191 v192 v193 v194 v195 v196 v197 v198 v199 v200 v201 v202 v203 v204 v205 v206 v207 v208 v209 v210 v211 v212 v213 v214 v215 v216 v217 v218 v219 v220 v221 v222 v223 v224 v225 v226 v227 v228 v229 v230 v231 v232 v233 v234 v235 v236 v237 v238 v239 v240 v241 v242 v243 v244 v245 v246 v247 v248 v249 v250 v251 v252 v253 v254 v255 v256 v257 v258 v259 v260 v261 v262 v263 v264 v265 v266 v267 v268 v269 v270 v271 v272 v273 v274 v275 v276 v277 v278 v279 v280 v281 v282 v283 v284 v285 v286 v287 v288 v289 v290 v291 v292 v293 v294 v295 v296 v297 v298 v299 v300 v301 v302 v303 v304 v305 v306 v307 v308 v309 v310 v311 v312 v313 v314 v315 v316 v317 v318 v319 v320 v321 v322 v323 v324 v325 v326 v327 v328 : Value}
    (hR : Hid (∀ W, Below z.heap.size z W → RR (.returned (.bool true)) W)) :
    rest20.wp Try.prog (bodyPost Try.prog Try.f5 RR) { tmps := #[.int .i64 n, v1, .int .i64 y, .int .i64 p, v4, v5, v6, v7, v8, .bool true, .slice a l.length cap, v11, v12, v13, v14, v15, v16, v17, v18, v19, v20, v21, v22, v23, v24, v25, v26, v27, v28, v29, v30, v31, v32, v33, v34, v35, v36, v37, v38, v39, v40, v41, v42, v43, v44, v45, v46, v47, v48, v49, v50, v51, v52, v53, v54, v55, v56, v57, v58, v59, v60, v61, v62, v63, v64, v65, v66, v67, v68, v69, v70, v71, v72, v73, v74, v75, v76, v77, v78, v79, v80, v81, v82, v83, v84, v85, v86, v87, v88, v89, v90, v91, v92, v93, v94, v95, v96, v97, v98, v99, v100, v101, v102, v103, v104, v105, v106, v107, v108, v109, v110, v111, v112, v113, v114, v115, v116, v117, v118, v119, v120, v121, v122, v123, v124, v125, v126, v127, v128, v129, v130, v131, v132, v133, v134, v135, v136, v137, v138, v139, v140, v141, v142, v143, v144, v145, v146, v147, v148, v149, v150, v151, v152, v153, v154, v155, v156, v157, v158, v159, v160, v161, v162, v163, v164, v165, v166, v167, v168, v169, v170, v171, v172, v173, v174, v175, v176, v177, v178, v179, v180, v181, v182, v183, v184, v185, v186, v187, v188, v189, v190, v191, v192, v193, v194, v195, v196, v197, v198, v199, v200, v201, v202, v203, v204, v205, v206, v207, v208, v209, v210, v211, v212, v213, v214, v215, v216, v217, v218, v219, v220, v221, v222, v223, v224, v225, v226, v227, v228, v229, v230, v231, v232, v233, v234, v235, v236, v237, v238, v239, v240, v241, v242, v243, v244, v245, v246, v247, v248, v249, v250, v251, v252, v253, v254, v255, v256, v257, v258, v259, v260, v261, v262, v263, v264, v265, v266, v267, v268, v269, v270, v271, v272, v273, v274, v275, v276, v277, v278, v279, v280, v281, v282, v283, v284, v285, v286, v287, v288, v289, v290, v291, v292, v293, v294, v295, v296, v297, v298, v299, v300, v301, v302, v303, v304, v305, v306, v307, v308, v309, v310, v311, v312, v313, v314, v315, v316, v317, v318, v319, v320, v321, v322, v323, v324, v325, v326, v327, v328], defers := [] } w := by
  obtain ⟨n1, n2⟩ := hn
  obtain ⟨p1, p2⟩ := hp
  have hok := hG.ok n2
  have hl := hok.1
  have hyh : Hid (inB y = true) := hy
  obtain ⟨y1, y2⟩ := inB_get hy
  have hE : slsE n l y p 256 = 0 := slsE_in (ckI_of hok) ⟨decide_eq_true ⟨by omega, n2⟩, hy, ⟨p1, p2⟩, by omega, by omega⟩
  have hs := slots_any _ l n y p 256 (by omega) w hS
  unfold SlEnd at hs
  have hsl : slsL n l y p ((256 : Nat) : Int) = (List.range 256).map (slF n l y p) := slsL_ok hE
  have hsl' : slsL n l y p 256 = (List.range 256).map (slF n l y p) := hsl
  rw [hE, hsl'] at hs
  have hwid : Hid (∀ i : Nat, i < 256 → ∃ L R, widF 0 (y + i * p) (y + i * p + p) l 0 = L ∧ widF 2 (y + i * p) (y + i * p + p) l 0 = R ∧ 0 ≤ L ∧ 0 ≤ R ∧ L ≤ (n - 10) / 2 ∧ R ≤ (n - 10) / 2 ∧ slF n l y p i = ⟨L, n - L - R⟩) := fun i _ => by
    have a1 := widF_rng 0 (y + i * p) (y + i * p + p) l 0 hok (by omega) (by omega)
    have a2 := widF_rng 2 (y + i * p) (y + i * p + p) l 0 hok (by omega) (by omega)
    have a3 := widF_le 0 (y + i * p) (y + i * p + p) ((n - 10) / 2) l 0 (fun b hb => (hG.all b hb).2.2.2.2.2.2) (by omega)
    have a4 := widF_le 2 (y + i * p) (y + i * p + p) ((n - 10) / 2) l 0 (fun b hb => (hG.all b hb).2.2.2.2.2.2) (by omega)
    refine ⟨_, _, rfl, rfl, a1.1, a2.1, a3, a4, ?_⟩
    unfold slF sloS
    rw [(by omega : max (n - widF 0 (y + i * p) (y + i * p + p) l 0 - widF 2 (y + i * p) (y + i * p + p) l 0) 0 = n - widF 0 (y + i * p) (y + i * p + p) l 0 - widF 2 (y + i * p) (y + i * p + p) l 0)]
  clear hsl hsl' hE hy
  unfold rest20
  go_wp2_with fail
  refine hs.mono ?_
  rintro e w2 ⟨b2, v, rfl, hv⟩
  have B2 := hz.trans (b2.mono hz.size)
  have S2 := hS.below b2 (Nat.le_refl _)
  obtain ⟨sa, sc, rfl, hv2⟩ := hv.ex
  rw [List.length_map, List.length_range]
  obtain ⟨a', cap', e, h2⟩ := S2.ex
  cases e
  have hS2 : Hid (RecAt 4 bdL w2 (.slice a l.length cap) l) := S2
  have hlen : ((List.range 256).map (slF n l y p)).length = 256 := by simp
  have hsc : Hid (∀ i : Nat, i < 256 → ∃ sb so, sa = some ⟨sb, so, none⟩ ∧ sb < w2.heap.size ∧ w2.cell? ⟨sb, so + i * 2, none⟩ = some (.int .i64 (slF n l y p i).x) ∧ w2.cell? ⟨sb, so + i * 2 + 1, none⟩ = some (.int .i64 (slF n l y p i).w)) := fun i hi => by
    rcases hv2 with hv2 | ⟨b, o, e1, hb, hc⟩
    · rw [hv2] at hlen; simp at hlen
    · have hc0 := hc i (by rw [hlen]; exact hi) 0 (.int .i64 (slF n l y p i).x) (by simp [slL])
      have hc1 := hc i (by rw [hlen]; exact hi) 1 (.int .i64 (slF n l y p i).w) (by simp [slL])
      exact ⟨b, o, e1, hb, hc0, hc1⟩
  clear hs hS S2 b2 hz hv hv2 hlen hG
  have hmk : Hid (∀ k : Nat, k < 256 → 0 ≤ (k : Int) * p ∧ (k : Int) * p ≤ 65025) := fun k hk => mul_rng (by omega) (by omega) p1 p2
  go_wp2_with fail
  go_loopw [18] (fun i wr => ∃ k : Nat, k ≤ 256 ∧ i = .int .i64 k ∧ Below w2.heap.size w2 wr) (fun i _ => 256 - (intOf i).toNat)
  case atStart => exact ⟨0, by omega, rfl, Below.refl _ _⟩
  case round =>
    obtain ⟨i, hi, rfl, hb⟩ := hrel
    by_cases hlt : i < 256
    · have hlt' : (i : Int) < 256 := by omega
      obtain ⟨q1, q2⟩ := hmk.out i hlt
      obtain ⟨Lw, Rw, hLw, hRw, l1, r1, l2, r2, hsf⟩ := hwid.out i hlt
      obtain ⟨sb, so, rfl, hsb, hs0, hs1⟩ := hsc.out i hlt
      rw [hsf] at hs0 hs1
      have hs0' : w2.cell? ⟨sb, so + i * 2, none⟩ = some (.int .i64 Lw) := hs0
      have hs1' : w2.cell? ⟨sb, so + i * 2 + 1, none⟩ = some (.int .i64 (n - Lw - Rw)) := hs1
      have hcell : Hid (∀ W, Below w2.heap.size w2 W → W.cell? ⟨sb, so + i * 2, none⟩ = some (.int .i64 Lw) ∧ W.cell? ⟨sb, so + i * 2 + 1, none⟩ = some (.int .i64 (n - Lw - Rw))) := fun W hW => ⟨(hW.cell hsb).trans hs0', (hW.cell hsb).trans hs1'⟩
      have hL0 : Hid (widF 0 (y + i * p) (y + i * p + p) (l.drop 0) 0 = Lw) := hLw
      have hR0 : Hid (widF 2 (y + i * p) (y + i * p + p) (l.drop 0) 0 = Rw) := hRw
      have hYr : Hid (0 ≤ y + i * p ∧ y + i * p ≤ 100000) := (by omega : 0 ≤ y + i * p ∧ y + i * p ≤ 100000)
      have hYe : Hid (y + i * p = y + i * p) := rfl
      clear hs0 hs1 hs0' hs1' hLw hRw hsf hsc hwid hmk
      obtain ⟨Y, hY⟩ : ∃ Y, y + i * p = Y := ⟨_, rfl⟩
      rw [hY] at hL0 hR0 hYr
      obtain ⟨wm, rfl⟩ : ∃ wm, wm = wr := ⟨_, rfl⟩
      have hYh : Hid (y + i * p = Y) := hY
      clear hY hYe
      go_wp2_with fail
      go_loopw [19, 20, 21] (fun P U j wr => ∃ (k : Nat) (pp uu : Int), k ≤ l.length ∧ P = .int .i64 pp ∧ U = .int .i64 uu ∧ j = .int .i64 k ∧ Below w2.heap.size w2 wr ∧ Hid (widF 0 Y (Y + p) (l.drop k) pp = Lw) ∧ Hid (widF 2 Y (Y + p) (l.drop k) uu = Rw)) (fun _ _ j _ => l.length - (intOf j).toNat)
      case atStart => exact ⟨0, 0, 0, by omega, rfl, rfl, rfl, hb, hL0, hR0⟩
      case round =>
        obtain ⟨k, pp, uu, hk, rfl, rfl, rfl, hb, hL, hR9⟩ := hrel
        by_cases hltk : k < l.length
        · rcases h2 with h2 | ⟨b, o, rfl, hbl, hc⟩
          · rw [h2] at hltk; simp at hltk
          have hltk' : (k : Int) < l.length := by omega
          have c0 : wr.cell? ⟨b, o + k * 4, none⟩ = some (.int .i64 l[k].s) := (hb.cell hbl).trans (hc k hltk 0 _ rfl)
          have c1 : wr.cell? ⟨b, o + k * 4 + 1, none⟩ = some (.int .i64 l[k].y) := (hb.cell hbl).trans (hc k hltk 1 _ rfl)
          have c2 : wr.cell? ⟨b, o + k * 4 + 2, none⟩ = some (.int .i64 l[k].h) := (hb.cell hbl).trans (hc k hltk 2 _ rfl)
          have c3 : wr.cell? ⟨b, o + k * 4 + 3, none⟩ = some (.int .i64 l[k].w) := (hb.cell hbl).trans (hc k hltk 3 _ rfl)
          obtain ⟨hsd, ⟨o1, o2⟩, ⟨o3, o4⟩, ⟨o5, o6⟩⟩ := hok.get k hltk
          have hL2 : Hid (widF 0 Y (Y + p) (l.drop (k + 1)) (if l[k].s = 0 ∧ bsB Y (Y + p) l[k] = true then max pp l[k].w else pp) = Lw) := by
            have := hL.out
            rw [drop_at hltk] at this
            exact this
          have hR2 : Hid (widF 2 Y (Y + p) (l.drop (k + 1)) (if l[k].s = 2 ∧ bsB Y (Y + p) l[k] = true then max uu l[k].w else uu) = Rw) := by
            have := hR9.out
            rw [drop_at hltk] at this
            exact this
          have hov := fun W => overlap_any Y p l[k].y l[k].h hYr.out ⟨by omega, by omega⟩ ⟨o1, by omega⟩ ⟨o3, by omega⟩ W
          rw [ov_bs] at hov
          clear hc hok hR hL hR9 hL0 hR0 hS2 hcell
          generalize bsB Y (Y + p) l[k] = q at *
          generalize l[k].s = x0 at *
          generalize l[k].y = x1 at *
          generalize l[k].h = x2 at *
          generalize l[k].w = x3 at *
          rw [← hYh.out] at hov
          rcases hsd with rfl | rfl
          · rcases q with _ | _
            · skip
              have hn0 : Hid (widF 0 Y (Y + p) (l.drop (k + 1)) pp = Lw) := (by have := hL2.out; rw [if_neg (by simp)] at this; exact this : widF 0 Y (Y + p) (l.drop (k + 1)) pp = Lw)
              have hn2 : Hid (widF 2 Y (Y + p) (l.drop (k + 1)) uu = Rw) := (by have := hR2.out; rw [if_neg (by simp)] at this; exact this : widF 2 Y (Y + p) (l.drop (k + 1)) uu = Rw)
              clear hL2 hR2
              go_wp2_with fail
              go_quiet (first | (go_at_call 18; refine Calls.quiet_of_same (hov _)))
              go_wp2_with fail
              go_roundw
              case rel => exact ⟨k + 1, pp, uu, by omega, rfl, rfl, by simp, below_drewN hb _, hn0, hn2⟩
              case measure => simp [intOf]; omega
            · skip
              by_cases dm : pp < x3
              · have hn0 : Hid (widF 0 Y (Y + p) (l.drop (k + 1)) x3 = Lw) := (by have := hL2.out; rw [if_pos ⟨rfl, rfl⟩, (by omega : max pp x3 = x3)] at this; exact this : widF 0 Y (Y + p) (l.drop (k + 1)) x3 = Lw)
                have hn2 : Hid (widF 2 Y (Y + p) (l.drop (k + 1)) uu = Rw) := (by have := hR2.out; rw [if_neg (by simp)] at this; exact this : widF 2 Y (Y + p) (l.drop (k + 1)) uu = Rw)
                clear hL2 hR2
                go_wp2_with fail
                go_quiet (first | (go_at_call 18; refine Calls.quiet_of_same (hov _)))
                go_wp2_with fail
                go_roundw
                case rel => exact ⟨k + 1, x3, uu, by omega, rfl, rfl, by simp, below_drewN hb _, hn0, hn2⟩
                case measure => simp [intOf]; omega
              · have hn0 : Hid (widF 0 Y (Y + p) (l.drop (k + 1)) pp = Lw) := (by have := hL2.out; rw [if_pos ⟨rfl, rfl⟩, (by omega : max pp x3 = pp)] at this; exact this : widF 0 Y (Y + p) (l.drop (k + 1)) pp = Lw)
                have hn2 : Hid (widF 2 Y (Y + p) (l.drop (k + 1)) uu = Rw) := (by have := hR2.out; rw [if_neg (by simp)] at this; exact this : widF 2 Y (Y + p) (l.drop (k + 1)) uu = Rw)
                clear hL2 hR2
                go_wp2_with fail
                go_quiet (first | (go_at_call 18; refine Calls.quiet_of_same (hov _)))
                go_wp2_with fail
                go_roundw
                case rel => exact ⟨k + 1, pp, uu, by omega, rfl, rfl, by simp, below_drewN hb _, hn0, hn2⟩
                case measure => simp [intOf]; omega
          · rcases q with _ | _
            · skip
              have hn0 : Hid (widF 0 Y (Y + p) (l.drop (k + 1)) pp = Lw) := (by have := hL2.out; rw [if_neg (by simp)] at this; exact this : widF 0 Y (Y + p) (l.drop (k + 1)) pp = Lw)
              have hn2 : Hid (widF 2 Y (Y + p) (l.drop (k + 1)) uu = Rw) := (by have := hR2.out; rw [if_neg (by simp)] at this; exact this : widF 2 Y (Y + p) (l.drop (k + 1)) uu = Rw)
              clear hL2 hR2
              go_wp2_with fail
              go_quiet (first | (go_at_call 18; refine Calls.quiet_of_same (hov _)))
              go_wp2_with fail
              go_roundw
              case rel => exact ⟨k + 1, pp, uu, by omega, rfl, rfl, by simp, below_drewN hb _, hn0, hn2⟩
              case measure => simp [intOf]; omega
            · skip
              by_cases dm : uu < x3
              · have hn0 : Hid (widF 0 Y (Y + p) (l.drop (k + 1)) pp = Lw) := (by have := hL2.out; rw [if_neg (by simp)] at this; exact this : widF 0 Y (Y + p) (l.drop (k + 1)) pp = Lw)
                have hn2 : Hid (widF 2 Y (Y + p) (l.drop (k + 1)) x3 = Rw) := (by have := hR2.out; rw [if_pos ⟨rfl, rfl⟩, (by omega : max uu x3 = x3)] at this; exact this : widF 2 Y (Y + p) (l.drop (k + 1)) x3 = Rw)
                clear hL2 hR2
                go_wp2_with fail
                go_quiet (first | (go_at_call 18; refine Calls.quiet_of_same (hov _)))
                go_wp2_with fail
                go_roundw
                case rel => exact ⟨k + 1, pp, x3, by omega, rfl, rfl, by simp, below_drewN hb _, hn0, hn2⟩
                case measure => simp [intOf]; omega
              · have hn0 : Hid (widF 0 Y (Y + p) (l.drop (k + 1)) pp = Lw) := (by have := hL2.out; rw [if_neg (by simp)] at this; exact this : widF 0 Y (Y + p) (l.drop (k + 1)) pp = Lw)
                have hn2 : Hid (widF 2 Y (Y + p) (l.drop (k + 1)) uu = Rw) := (by have := hR2.out; rw [if_pos ⟨rfl, rfl⟩, (by omega : max uu x3 = uu)] at this; exact this : widF 2 Y (Y + p) (l.drop (k + 1)) uu = Rw)
                clear hL2 hR2
                go_wp2_with fail
                go_quiet (first | (go_at_call 18; refine Calls.quiet_of_same (hov _)))
                go_wp2_with fail
                go_roundw
                case rel => exact ⟨k + 1, pp, uu, by omega, rfl, rfl, by simp, below_drewN hb _, hn0, hn2⟩
                case measure => simp [intOf]; omega
        · have hn0 : pp = Lw := by
            have := hL.out
            rw [List.drop_eq_nil_of_le (by omega)] at this
            exact this
          have hn2 : uu = Rw := by
            have := hR9.out
            rw [List.drop_eq_nil_of_le (by omega)] at this
            exact this
          subst hn0 hn2
          have hge : ¬ (k : Int) < l.length := by omega
          obtain ⟨c0, c1⟩ := hcell.out wr hb
          have g1 : decide (n - pp - uu < 10) = false := decide_eq_false (by omega)
          have g3 : (pp + (n - pp - uu) != n - uu) = false := by simp; omega
          clear h2 hok hL hR9 hL0 hR0 hS2 hcell hR
          go_wp2_with fail
          go_quiet (fail)
          go_wp2_with fail
          go_roundw
          case rel => exact ⟨i + 1, by omega, by simp, below_drewN hb _⟩
          case measure => simp [intOf]; omega
    · have hge : ¬ (i : Int) < 256 := by omega
      have B3 := B2.trans (hb.mono B2.size)
      have S3 := hS2.out.below hb (Nat.le_refl _)
      clear hmk hsc hwid h2 hS2
      go_wp2_with fail
      exact rest36_wp RR z wr a l cap y hok hyh.out B3 S3 hR

end Go.Proofs.Ythdlhikpjpfpeaa
