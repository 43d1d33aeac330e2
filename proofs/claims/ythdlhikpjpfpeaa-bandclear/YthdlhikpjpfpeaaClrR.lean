/-
  What is proved here: a round of BandClear from its Put on.
-/
import Derived.Test.YthdlhikpjpfpeaaClrB
import Derived.BigQuiet
namespace Go.Proofs.Ythdlhikpjpfpeaa
open Go.RowKit Go.Shelf

def rest11 : Code := ((Code.region 11 #[{ dst := some 104, op := Op.move (Operand.tmp 0), type := 3, pos := "outright.go:39", after := #[], guard := none }, { dst := some 105, op := Op.move (Operand.tmp 10), type := 22, pos := "outright.go:39", after := #[], guard := none }, { dst := some 106, op := Op.fieldAddr 40 (Operand.tmp 12) 0, type := 0, pos := "outright.go:39", after := #[], guard := none }, { dst := some 107, op := Op.load 3 (Operand.tmp 106), type := 3, pos := "outright.go:39", after := #[{ on := 2, ground := Ground.data }], guard := none }, { dst := some 108, op := Op.fieldAddr 40 (Operand.tmp 12) 1, type := 0, pos := "outright.go:39", after := #[], guard := none }, { dst := some 109, op := Op.load 3 (Operand.tmp 108), type := 3, pos := "outright.go:39", after := #[{ on := 4, ground := Ground.data }], guard := none }, { dst := some 110, op := Op.fieldAddr 40 (Operand.tmp 12) 2, type := 0, pos := "outright.go:39", after := #[], guard := none }, { dst := some 111, op := Op.load 3 (Operand.tmp 110), type := 3, pos := "outright.go:39", after := #[{ on := 6, ground := Ground.data }], guard := none }, { dst := some 112, op := Op.fieldAddr 40 (Operand.tmp 12) 3, type := 0, pos := "outright.go:39", after := #[], guard := none }, { dst := some 113, op := Op.load 3 (Operand.tmp 112), type := 3, pos := "outright.go:39", after := #[{ on := 8, ground := Ground.data }], guard := none }, { dst := some 114, op := Op.call { callee := Callee.value (Operand.func 15), args := #[Operand.tmp 104, Operand.tmp 105, Operand.tmp 107, Operand.tmp 109, Operand.tmp 111, Operand.tmp 113], argTypes := #[3, 22, 3, 3, 3, 3] }, type := 35, pos := "outright.go:39", after := #[{ on := 0, ground := Ground.data }, { on := 1, ground := Ground.data }, { on := 3, ground := Ground.data }, { on := 5, ground := Ground.data }, { on := 7, ground := Ground.data }, { on := 9, ground := Ground.data }], guard := none }, { dst := some 103, op := Op.move (Operand.tmp 114), type := 35, pos := "outright.go:39", after := #[{ on := 10, ground := Ground.data }], guard := none }, { dst := some 115, op := Op.extract (Operand.tmp 103) 0, type := 34, pos := "outright.go:39", after := #[{ on := 11, ground := Ground.data }], guard := none }, { dst := some 116, op := Op.extract (Operand.tmp 103) 1, type := 24, pos := "outright.go:39", after := #[{ on := 11, ground := Ground.data }, { on := 15, ground := Ground.gcOnly Departure.lateStores }], guard := none }, { dst := some 13, op := Op.alloc 34, type := 0, pos := "outright.go:39", after := #[], guard := none }, { dst := none, op := Op.store 34 (Operand.tmp 13) (Operand.tmp 115), type := 0, pos := "outright.go:39", after := #[{ on := 14, ground := Ground.data }, { on := 12, ground := Ground.data }, { on := 10, ground := Ground.chain }, { on := 0, ground := Ground.phase }, { on := 1, ground := Ground.phase }, { on := 2, ground := Ground.phase }, { on := 3, ground := Ground.phase }, { on := 4, ground := Ground.phase }, { on := 5, ground := Ground.phase }, { on := 6, ground := Ground.phase }, { on := 7, ground := Ground.phase }, { on := 8, ground := Ground.phase }, { on := 9, ground := Ground.phase }, { on := 10, ground := Ground.phase }, { on := 11, ground := Ground.phase }, { on := 12, ground := Ground.phase }, { on := 13, ground := Ground.textOnly Departure.lateStores }, { on := 14, ground := Ground.phase }], guard := none }, { dst := some 14, op := Op.assign (Operand.tmp 116), type := 24, pos := "outright.go:39", after := #[{ on := 13, ground := Ground.data }, { on := 15, ground := Ground.chain }, { on := 0, ground := Ground.phase }, { on := 1, ground := Ground.phase }, { on := 2, ground := Ground.phase }, { on := 3, ground := Ground.phase }, { on := 4, ground := Ground.phase }, { on := 5, ground := Ground.phase }, { on := 6, ground := Ground.phase }, { on := 7, ground := Ground.phase }, { on := 8, ground := Ground.phase }, { on := 9, ground := Ground.phase }, { on := 10, ground := Ground.phase }, { on := 11, ground := Ground.phase }, { on := 12, ground := Ground.phase }, { on := 13, ground := Ground.phase }, { on := 14, ground := Ground.phase }, { on := 15, ground := Ground.phase }], guard := none }] false).seq (((Code.region 12 #[{ dst := some 117, op := Op.move (Operand.tmp 14), type := 24, pos := "outright.go:40", after := #[], guard := none }, { dst := some 118, op := Op.binOp BinOp.neq 24 (Operand.tmp 117) (Operand.const (Value.int IntKind.i64 0)) 24, type := 4, pos := "outright.go:40", after := #[{ on := 0, ground := Ground.data }], guard := none }, { dst := some 119, op := Op.move (Operand.tmp 118), type := 4, pos := "outright.go:40", after := #[{ on := 1, ground := Ground.data }], guard := none }, { dst := some 120, op := Op.fieldAddr 34 (Operand.tmp 13) 0, type := 0, pos := "outright.go:40", after := #[{ on := 2, ground := Ground.guard }], guard := some (2, false) }, { dst := some 121, op := Op.load 3 (Operand.tmp 120), type := 3, pos := "outright.go:40", after := #[{ on := 3, ground := Ground.data }, { on := 2, ground := Ground.guard }], guard := some (2, false) }, { dst := some 122, op := Op.fieldAddr 40 (Operand.tmp 12) 0, type := 0, pos := "outright.go:40", after := #[{ on := 2, ground := Ground.guard }], guard := some (2, false) }, { dst := some 123, op := Op.load 3 (Operand.tmp 122), type := 3, pos := "outright.go:40", after := #[{ on := 5, ground := Ground.data }, { on := 2, ground := Ground.guard }], guard := some (2, false) }, { dst := some 124, op := Op.binOp BinOp.neq 3 (Operand.tmp 121) (Operand.tmp 123) 3, type := 4, pos := "outright.go:40", after := #[{ on := 4, ground := Ground.data }, { on := 6, ground := Ground.data }, { on := 2, ground := Ground.guard }], guard := some (2, false) }, { dst := some 125, op := Op.pick (Operand.tmp 119) (Operand.const (Value.bool true)) (Operand.tmp 124), type := 4, pos := "outright.go:40", after := #[{ on := 2, ground := Ground.data }, { on := 7, ground := Ground.data }], guard := none }, { dst := some 126, op := Op.move (Operand.tmp 125), type := 4, pos := "outright.go:40", after := #[{ on := 8, ground := Ground.data }, { on := 2, ground := Ground.chain }], guard := none }, { dst := some 127, op := Op.fieldAddr 34 (Operand.tmp 13) 2, type := 0, pos := "outright.go:40", after := #[{ on := 9, ground := Ground.guard }], guard := some (9, false) }, { dst := some 128, op := Op.load 3 (Operand.tmp 127), type := 3, pos := "outright.go:40", after := #[{ on := 10, ground := Ground.data }, { on := 9, ground := Ground.guard }], guard := some (9, false) }, { dst := some 129, op := Op.fieldAddr 40 (Operand.tmp 12) 2, type := 0, pos := "outright.go:40", after := #[{ on := 9, ground := Ground.guard }], guard := some (9, false) }, { dst := some 130, op := Op.load 3 (Operand.tmp 129), type := 3, pos := "outright.go:40", after := #[{ on := 12, ground := Ground.data }, { on := 9, ground := Ground.guard }], guard := some (9, false) }, { dst := some 131, op := Op.binOp BinOp.neq 3 (Operand.tmp 128) (Operand.tmp 130) 3, type := 4, pos := "outright.go:40", after := #[{ on := 11, ground := Ground.data }, { on := 13, ground := Ground.data }, { on := 9, ground := Ground.guard }], guard := some (9, false) }, { dst := some 132, op := Op.pick (Operand.tmp 126) (Operand.const (Value.bool true)) (Operand.tmp 131), type := 4, pos := "outright.go:40", after := #[{ on := 9, ground := Ground.data }, { on := 14, ground := Ground.data }], guard := none }, { dst := some 133, op := Op.move (Operand.tmp 132), type := 4, pos := "outright.go:40", after := #[{ on := 15, ground := Ground.data }, { on := 9, ground := Ground.chain }], guard := none }, { dst := some 134, op := Op.fieldAddr 34 (Operand.tmp 13) 1, type := 0, pos := "outright.go:40", after := #[{ on := 16, ground := Ground.guard }], guard := some (16, false) }, { dst := some 135, op := Op.load 3 (Operand.tmp 134), type := 3, pos := "outright.go:40", after := #[{ on := 17, ground := Ground.data }, { on := 16, ground := Ground.guard }], guard := some (16, false) }, { dst := some 136, op := Op.fieldAddr 40 (Operand.tmp 12) 1, type := 0, pos := "outright.go:40", after := #[{ on := 16, ground := Ground.guard }], guard := some (16, false) }, { dst := some 137, op := Op.load 3 (Operand.tmp 136), type := 3, pos := "outright.go:40", after := #[{ on := 19, ground := Ground.data }, { on := 16, ground := Ground.guard }], guard := some (16, false) }, { dst := some 138, op := Op.binOp BinOp.lss 3 (Operand.tmp 135) (Operand.tmp 137) 3, type := 4, pos := "outright.go:40", after := #[{ on := 18, ground := Ground.data }, { on := 20, ground := Ground.data }, { on := 16, ground := Ground.guard }], guard := some (16, false) }, { dst := some 139, op := Op.pick (Operand.tmp 133) (Operand.const (Value.bool true)) (Operand.tmp 138), type := 4, pos := "outright.go:40", after := #[{ on := 16, ground := Ground.data }, { on := 21, ground := Ground.data }], guard := none }, { dst := some 140, op := Op.move (Operand.tmp 139), type := 4, pos := "outright.go:40", after := #[{ on := 22, ground := Ground.data }, { on := 16, ground := Ground.chain }], guard := none }, { dst := some 141, op := Op.fieldAddr 34 (Operand.tmp 13) 3, type := 0, pos := "outright.go:40", after := #[{ on := 23, ground := Ground.guard }], guard := some (23, false) }, { dst := some 142, op := Op.load 3 (Operand.tmp 141), type := 3, pos := "outright.go:40", after := #[{ on := 24, ground := Ground.data }, { on := 23, ground := Ground.guard }], guard := some (23, false) }, { dst := some 143, op := Op.fieldAddr 40 (Operand.tmp 12) 3, type := 0, pos := "outright.go:40", after := #[{ on := 23, ground := Ground.guard }], guard := some (23, false) }, { dst := some 144, op := Op.load 3 (Operand.tmp 143), type := 3, pos := "outright.go:40", after := #[{ on := 26, ground := Ground.data }, { on := 23, ground := Ground.guard }], guard := some (23, false) }, { dst := some 145, op := Op.binOp BinOp.gtr 3 (Operand.tmp 142) (Operand.tmp 144) 3, type := 4, pos := "outright.go:40", after := #[{ on := 25, ground := Ground.data }, { on := 27, ground := Ground.data }, { on := 23, ground := Ground.guard }], guard := some (23, false) }, { dst := some 146, op := Op.pick (Operand.tmp 140) (Operand.const (Value.bool true)) (Operand.tmp 145), type := 4, pos := "outright.go:40", after := #[{ on := 23, ground := Ground.data }, { on := 28, ground := Ground.data }], guard := none }, { dst := some 147, op := Op.move (Operand.tmp 146), type := 4, pos := "outright.go:40", after := #[{ on := 29, ground := Ground.data }, { on := 23, ground := Ground.chain }], guard := none }, { dst := some 148, op := Op.fieldAddr 34 (Operand.tmp 13) 3, type := 0, pos := "outright.go:40", after := #[{ on := 30, ground := Ground.guard }], guard := some (30, false) }, { dst := some 149, op := Op.load 3 (Operand.tmp 148), type := 3, pos := "outright.go:40", after := #[{ on := 31, ground := Ground.data }, { on := 30, ground := Ground.guard }], guard := some (30, false) }, { dst := some 150, op := Op.fieldAddr 40 (Operand.tmp 12) 3, type := 0, pos := "outright.go:40", after := #[{ on := 30, ground := Ground.guard }], guard := some (30, false) }, { dst := some 151, op := Op.load 3 (Operand.tmp 150), type := 3, pos := "outright.go:40", after := #[{ on := 33, ground := Ground.data }, { on := 30, ground := Ground.guard }], guard := some (30, false) }, { dst := some 152, op := Op.binOp BinOp.lss 3 (Operand.tmp 149) (Operand.tmp 151) 3, type := 4, pos := "outright.go:40", after := #[{ on := 32, ground := Ground.data }, { on := 34, ground := Ground.data }, { on := 30, ground := Ground.guard }], guard := some (30, false) }, { dst := some 153, op := Op.move (Operand.tmp 152), type := 4, pos := "outright.go:40", after := #[{ on := 35, ground := Ground.data }, { on := 30, ground := Ground.chain }, { on := 30, ground := Ground.guard }], guard := some (30, false) }, { dst := some 154, op := Op.fieldAddr 34 (Operand.tmp 13) 3, type := 0, pos := "outright.go:40", after := #[{ on := 36, ground := Ground.guard }], guard := some (36, true) }, { dst := some 155, op := Op.load 3 (Operand.tmp 154), type := 3, pos := "outright.go:40", after := #[{ on := 37, ground := Ground.data }, { on := 36, ground := Ground.guard }], guard := some (36, true) }, { dst := some 156, op := Op.move (Operand.tmp 0), type := 3, pos := "outright.go:40", after := #[{ on := 36, ground := Ground.guard }], guard := some (36, true) }, { dst := some 157, op := Op.binOp BinOp.sub 3 (Operand.tmp 156) (Operand.const (Value.int IntKind.i64 10)) 3, type := 3, pos := "outright.go:40", after := #[{ on := 39, ground := Ground.data }, { on := 36, ground := Ground.guard }], guard := some (36, true) }, { dst := some 158, op := Op.binOp BinOp.quo 3 (Operand.tmp 157) (Operand.const (Value.int IntKind.i64 2)) 3, type := 3, pos := "outright.go:40", after := #[{ on := 40, ground := Ground.data }, { on := 36, ground := Ground.guard }], guard := some (36, true) }, { dst := some 159, op := Op.binOp BinOp.neq 3 (Operand.tmp 155) (Operand.tmp 158) 3, type := 4, pos := "outright.go:40", after := #[{ on := 38, ground := Ground.data }, { on := 41, ground := Ground.data }, { on := 36, ground := Ground.guard }], guard := some (36, true) }, { dst := some 160, op := Op.pick (Operand.tmp 153) (Operand.tmp 159) (Operand.const (Value.bool false)), type := 4, pos := "outright.go:40", after := #[{ on := 36, ground := Ground.data }, { on := 42, ground := Ground.data }, { on := 30, ground := Ground.guard }], guard := some (30, false) }, { dst := some 161, op := Op.pick (Operand.tmp 147) (Operand.const (Value.bool true)) (Operand.tmp 160), type := 4, pos := "outright.go:40", after := #[{ on := 30, ground := Ground.data }, { on := 43, ground := Ground.data }], guard := none }] false).seq (Code.cond (Operand.tmp 161) ((Code.region 13 #[{ dst := some 8, op := Op.assign (Operand.const (Value.bool false)), type := 4, pos := "outright.go:41", after := #[], guard := none }] false).seq Code.ret) Code.skip)).seq (((Code.region 14 #[{ dst := some 15, op := Op.assign (Operand.const (Value.int IntKind.i64 0)), type := 3, pos := "outright.go:43", after := #[], guard := none }] false).seq (Code.block 2 (((Code.region 15 #[{ dst := some 162, op := Op.move (Operand.tmp 15), type := 3, pos := "outright.go:43", after := #[], guard := none }, { dst := some 163, op := Op.move (Operand.tmp 10), type := 22, pos := "outright.go:43", after := #[], guard := none }, { dst := some 164, op := Op.call { callee := Callee.builtin Builtin.len, args := #[Operand.tmp 163], argTypes := #[22] }, type := 3, pos := "outright.go:43", after := #[{ on := 1, ground := Ground.data }], guard := none }, { dst := some 165, op := Op.binOp BinOp.lss 3 (Operand.tmp 162) (Operand.tmp 164) 3, type := 4, pos := "outright.go:43", after := #[{ on := 0, ground := Ground.data }, { on := 2, ground := Ground.data }], guard := none }] false).seq (Code.cond (Operand.tmp 165) Code.skip (Code.exit 2))).seq ((Code.block 3 ((Code.region 17 #[{ dst := some 168, op := Op.move (Operand.tmp 10), type := 22, pos := "outright.go:44", after := #[], guard := none }, { dst := some 169, op := Op.move (Operand.tmp 15), type := 3, pos := "outright.go:44", after := #[], guard := none }, { dst := some 170, op := Op.indexAddr 22 (Operand.tmp 168) (Operand.tmp 169), type := 0, pos := "outright.go:44", after := #[{ on := 0, ground := Ground.data }, { on := 1, ground := Ground.data }], guard := none }, { dst := some 171, op := Op.fieldAddr 34 (Operand.tmp 170) 0, type := 0, pos := "outright.go:44", after := #[{ on := 2, ground := Ground.data }], guard := none }, { dst := some 172, op := Op.load 3 (Operand.tmp 171), type := 3, pos := "outright.go:44", after := #[{ on := 3, ground := Ground.data }], guard := none }, { dst := some 173, op := Op.fieldAddr 34 (Operand.tmp 13) 0, type := 0, pos := "outright.go:44", after := #[], guard := none }, { dst := some 174, op := Op.load 3 (Operand.tmp 173), type := 3, pos := "outright.go:44", after := #[{ on := 5, ground := Ground.data }], guard := none }, { dst := some 175, op := Op.binOp BinOp.eql 3 (Operand.tmp 172) (Operand.tmp 174) 3, type := 4, pos := "outright.go:44", after := #[{ on := 4, ground := Ground.data }, { on := 6, ground := Ground.data }], guard := none }, { dst := some 176, op := Op.move (Operand.tmp 175), type := 4, pos := "outright.go:44", after := #[{ on := 7, ground := Ground.data }], guard := none }, { dst := some 177, op := Op.move (Operand.tmp 10), type := 22, pos := "outright.go:44", after := #[{ on := 8, ground := Ground.guard }], guard := some (8, true) }, { dst := some 178, op := Op.move (Operand.tmp 15), type := 3, pos := "outright.go:44", after := #[{ on := 8, ground := Ground.guard }], guard := some (8, true) }, { dst := some 179, op := Op.indexAddr 22 (Operand.tmp 177) (Operand.tmp 178), type := 0, pos := "outright.go:44", after := #[{ on := 9, ground := Ground.data }, { on := 10, ground := Ground.data }, { on := 8, ground := Ground.guard }], guard := some (8, true) }, { dst := some 180, op := Op.fieldAddr 34 (Operand.tmp 179) 1, type := 0, pos := "outright.go:44", after := #[{ on := 11, ground := Ground.data }, { on := 8, ground := Ground.guard }], guard := some (8, true) }, { dst := some 181, op := Op.load 3 (Operand.tmp 180), type := 3, pos := "outright.go:44", after := #[{ on := 12, ground := Ground.data }, { on := 8, ground := Ground.guard }], guard := some (8, true) }, { dst := some 182, op := Op.move (Operand.tmp 10), type := 22, pos := "outright.go:44", after := #[{ on := 8, ground := Ground.guard }], guard := some (8, true) }, { dst := some 183, op := Op.move (Operand.tmp 15), type := 3, pos := "outright.go:44", after := #[{ on := 8, ground := Ground.guard }], guard := some (8, true) }, { dst := some 184, op := Op.indexAddr 22 (Operand.tmp 182) (Operand.tmp 183), type := 0, pos := "outright.go:44", after := #[{ on := 14, ground := Ground.data }, { on := 15, ground := Ground.data }, { on := 8, ground := Ground.guard }], guard := some (8, true) }, { dst := some 185, op := Op.fieldAddr 34 (Operand.tmp 184) 2, type := 0, pos := "outright.go:44", after := #[{ on := 16, ground := Ground.data }, { on := 8, ground := Ground.guard }], guard := some (8, true) }, { dst := some 186, op := Op.load 3 (Operand.tmp 185), type := 3, pos := "outright.go:44", after := #[{ on := 17, ground := Ground.data }, { on := 8, ground := Ground.guard }], guard := some (8, true) }, { dst := some 187, op := Op.fieldAddr 34 (Operand.tmp 13) 1, type := 0, pos := "outright.go:44", after := #[{ on := 8, ground := Ground.guard }], guard := some (8, true) }, { dst := some 188, op := Op.load 3 (Operand.tmp 187), type := 3, pos := "outright.go:44", after := #[{ on := 19, ground := Ground.data }, { on := 8, ground := Ground.guard }], guard := some (8, true) }, { dst := some 189, op := Op.fieldAddr 34 (Operand.tmp 13) 2, type := 0, pos := "outright.go:44", after := #[{ on := 8, ground := Ground.guard }], guard := some (8, true) }, { dst := some 190, op := Op.load 3 (Operand.tmp 189), type := 3, pos := "outright.go:44", after := #[{ on := 21, ground := Ground.data }, { on := 8, ground := Ground.guard }], guard := some (8, true) }, { dst := some 191, op := Op.call { callee := Callee.value (Operand.func 18), args := #[Operand.tmp 181, Operand.tmp 186, Operand.tmp 188, Operand.tmp 190], argTypes := #[3, 3, 3, 3] }, type := 4, pos := "outright.go:44", after := #[{ on := 13, ground := Ground.data }, { on := 18, ground := Ground.data }, { on := 20, ground := Ground.data }, { on := 22, ground := Ground.data }, { on := 8, ground := Ground.chain }, { on := 8, ground := Ground.guard }], guard := some (8, true) }, { dst := some 192, op := Op.pick (Operand.tmp 176) (Operand.tmp 191) (Operand.const (Value.bool false)), type := 4, pos := "outright.go:44", after := #[{ on := 8, ground := Ground.data }, { on := 23, ground := Ground.data }], guard := none }] true).seq (Code.cond (Operand.tmp 192) ((Code.region 18 #[{ dst := some 8, op := Op.assign (Operand.const (Value.bool false)), type := 4, pos := "outright.go:45", after := #[], guard := none }] false).seq Code.ret) Code.skip))).seq (Code.region 16 #[{ dst := some 166, op := Op.move (Operand.tmp 15), type := 3, pos := "outright.go:43", after := #[], guard := none }, { dst := some 167, op := Op.binOp BinOp.add 3 (Operand.tmp 166) (Operand.const (Value.int IntKind.i64 1)) 3, type := 3, pos := "outright.go:43", after := #[{ on := 0, ground := Ground.data }], guard := none }, { dst := some 15, op := Op.assign (Operand.tmp 167), type := 3, pos := "outright.go:43", after := #[{ on := 1, ground := Ground.data }, { on := 0, ground := Ground.phase }, { on := 1, ground := Ground.phase }], guard := none }] false))).loop)).seq (Code.region 19 #[{ dst := some 193, op := Op.move (Operand.tmp 10), type := 22, pos := "outright.go:48", after := #[], guard := none }, { dst := some 194, op := Op.load 34 (Operand.tmp 13), type := 34, pos := "outright.go:48", after := #[], guard := none }, { dst := some 195, op := Op.buildSlice 22 1 #[(0, Operand.tmp 194)], type := 22, pos := "outright.go:48", after := #[{ on := 1, ground := Ground.data }], guard := none }, { dst := some 196, op := Op.call { callee := Callee.builtin Builtin.append, args := #[Operand.tmp 193, Operand.tmp 195], argTypes := #[22, 22] }, type := 22, pos := "outright.go:48", after := #[{ on := 0, ground := Ground.data }, { on := 2, ground := Ground.data }], guard := none }, { dst := some 10, op := Op.assign (Operand.tmp 196), type := 22, pos := "outright.go:48", after := #[{ on := 3, ground := Ground.data }, { on := 3, ground := Ground.chain }, { on := 0, ground := Ground.phase }, { on := 1, ground := Ground.phase }, { on := 2, ground := Ground.phase }, { on := 3, ground := Ground.phase }], guard := none }] false))))
set_option maxRecDepth 100000 in
set_option maxHeartbeats 16000000 in
theorem rest11_wp (Q : Exit → Act → World → Prop) (w1 wa : World) (k : Nat) (l : List Bd) (n x0 x1 x2 x3 : Int) (u : Value) (g1 : Nat) {v1 v2 v3 v4 v5 v6 v7 v8 v13 v14 v15 v16 v17 v18 v19 v20 v21 v22 v23 v24 v25 v26 v27 v28 v29 v30 v31 v32 v33 v34 v35 v36 v37 v38 v39 v40 v41 v42 v43 v44 v45 v46 v47 v48 v49 v50 v51 v52 v53 v54 v55 v56 v57 v58 v59 v60 v61 v62 v63 v64 v65 v66 v67 v68 v69 v70 v71 v72 v73 v74 v75 v76 v77 v78 v79 v80 v81 v82 v83 v84 v85 v86 v87 v88 v89 v90 v91 v92 v93 v94 v95 v96 v97 v98 v99 v100 v101 v102 v103 v104 v105 v106 v107 v108 v109 v110 v111 v112 v113 v114 v115 v116 v117 v118 v119 v120 v121 v122 v123 v124 v125 v126 v127 v128 v129 v130 v131 v132 v133 v134 v135 v136 v137 v138 v139 v140 v141 v142 v143 v144 v145 v146 v147 v148 v149 v150 v151 v152 v153 v154 v155 v156 v157 v158 v159 v160 v161 v162 v163 v164 v165 v166 v167 v168 v169 v170 v171 v172 v173 v174 v175 v176 v177 v178 v179 v180 v181 v182 v183 v184 v185 v186 v187 v188 v189 v190 v191 v192 v193 v194 v195 v196 v197 v198 v199 v200 v201 v202 v203 v204 v205 v206 v207 v208 v209 v210 v211 v212 v213 v214 v215 v216 v217 v218 v219 v220 v221 v222 v223 v224 v225 v226 v227 v228 v229 v230 v231 v232 v233 v234 v235 v236 v237 v238 v239 v240 v241 v242 v243 v244 v245 v246 v247 v248 v249 v250 v251 v252 v253 v254 v255 v256 v257 v258 v259 v260 v261 v262 v263 v264 v265 v266 v267 v268 v269 v270 v271 v272 v273 v274 v275 v276 v277 v278 v279 v280 v281 v282 v283 v284 v285 v286 v287 v288 v289 v290 v291 v292 v293 v294 v295 v296 v297 v298 v299 v300 v301 v302 v303 v304 v305 v306 v307 v308 v309 v310 v311 v312 v313 v314 v315 v316 v317 v318 v319 v320 v321 v322 v323 v324 v325 v326 v327 v328 : Value}
    (n1 : 10 ≤ n) (n2 : n ≤ 4095) (hk12 : k < 12) (hG : GL n k l) (hob : obB ⟨x0, x1, x2, x3⟩) (hw1 : Below w1.heap.size w1 wa) (hrow : wa.ownsRow w1.heap.size 34 4 u k (l.flatMap bdL)) (hbox : wa.heap[g1]? = some (.cells #[.int .i64 x0, .int .i64 x1, .int .i64 x2, .int .i64 x3] 40 (0, 0)))
    (hQ : Hid (∀ (v' : Value) (w6 : World) (c8 c13 c14 c15 c103 c104 c105 c106 c107 c108 c109 c110 c111 c112 c113 c114 c115 c116 c117 c118 c119 c120 c121 c122 c123 c124 c125 c126 c127 c128 c129 c130 c131 c132 c133 c134 c135 c136 c137 c138 c139 c140 c141 c142 c143 c144 c145 c146 c147 c148 c149 c150 c151 c152 c153 c154 c155 c156 c157 c158 c159 c160 c161 c162 c163 c164 c165 c166 c167 c168 c169 c170 c171 c172 c173 c174 c175 c176 c177 c178 c179 c180 c181 c182 c183 c184 c185 c186 c187 c188 c189 c190 c191 c192 c193 c194 c195 c196 : Value), Below w1.heap.size w1 w6 → w6.ownsRow w1.heap.size 34 4 v' (k + 1) ((l ++ [mkB n l ⟨x0, x1, x2, x3⟩]).flatMap bdL) → Q .normal { tmps := #[.int .i64 n, v1, v2, v3, v4, v5, v6, v7, c8, .bool true, v', .int .i64 (k : Nat), .pointer (some ⟨g1, 0, none⟩), c13, c14, c15, v16, v17, v18, v19, v20, v21, v22, v23, v24, v25, v26, v27, v28, v29, v30, v31, v32, v33, v34, v35, v36, v37, v38, v39, v40, v41, v42, v43, v44, v45, v46, v47, v48, v49, v50, v51, v52, v53, v54, v55, v56, v57, v58, v59, v60, v61, v62, v63, v64, v65, v66, v67, v68, v69, v70, v71, v72, v73, v74, v75, v76, v77, v78, v79, v80, v81, v82, v83, v84, v85, v86, v87, v88, v89, v90, v91, v92, v93, v94, v95, v96, v97, v98, v99, v100, v101, v102, c103, c104, c105, c106, c107, c108, c109, c110, c111, c112, c113, c114, c115, c116, c117, c118, c119, c120, c121, c122, c123, c124, c125, c126, c127, c128, c129, c130, c131, c132, c133, c134, c135, c136, c137, c138, c139, c140, c141, c142, c143, c144, c145, c146, c147, c148, c149, c150, c151, c152, c153, c154, c155, c156, c157, c158, c159, c160, c161, c162, c163, c164, c165, c166, c167, c168, c169, c170, c171, c172, c173, c174, c175, c176, c177, c178, c179, c180, c181, c182, c183, c184, c185, c186, c187, c188, c189, c190, c191, c192, c193, c194, c195, c196, v197, v198, v199, v200, v201, v202, v203, v204, v205, v206, v207, v208, v209, v210, v211, v212, v213, v214, v215, v216, v217, v218, v219, v220, v221, v222, v223, v224, v225, v226, v227, v228, v229, v230, v231, v232, v233, v234, v235, v236, v237, v238, v239, v240, v241, v242, v243, v244, v245, v246, v247, v248, v249, v250, v251, v252, v253, v254, v255, v256, v257, v258, v259, v260, v261, v262, v263, v264, v265, v266, v267, v268, v269, v270, v271, v272, v273, v274, v275, v276, v277, v278, v279, v280, v281, v282, v283, v284, v285, v286, v287, v288, v289, v290, v291, v292, v293, v294, v295, v296, v297, v298, v299, v300, v301, v302, v303, v304, v305, v306, v307, v308, v309, v310, v311, v312, v313, v314, v315, v316, v317, v318, v319, v320, v321, v322, v323, v324, v325, v326, v327, v328], defers := [] } w6)) :
    rest11.wp Try.prog Q { tmps := #[.int .i64 n, v1, v2, v3, v4, v5, v6, v7, v8, .bool true, u, .int .i64 (k : Nat), .pointer (some ⟨g1, 0, none⟩), v13, v14, v15, v16, v17, v18, v19, v20, v21, v22, v23, v24, v25, v26, v27, v28, v29, v30, v31, v32, v33, v34, v35, v36, v37, v38, v39, v40, v41, v42, v43, v44, v45, v46, v47, v48, v49, v50, v51, v52, v53, v54, v55, v56, v57, v58, v59, v60, v61, v62, v63, v64, v65, v66, v67, v68, v69, v70, v71, v72, v73, v74, v75, v76, v77, v78, v79, v80, v81, v82, v83, v84, v85, v86, v87, v88, v89, v90, v91, v92, v93, v94, v95, v96, v97, v98, v99, v100, v101, v102, v103, v104, v105, v106, v107, v108, v109, v110, v111, v112, v113, v114, v115, v116, v117, v118, v119, v120, v121, v122, v123, v124, v125, v126, v127, v128, v129, v130, v131, v132, v133, v134, v135, v136, v137, v138, v139, v140, v141, v142, v143, v144, v145, v146, v147, v148, v149, v150, v151, v152, v153, v154, v155, v156, v157, v158, v159, v160, v161, v162, v163, v164, v165, v166, v167, v168, v169, v170, v171, v172, v173, v174, v175, v176, v177, v178, v179, v180, v181, v182, v183, v184, v185, v186, v187, v188, v189, v190, v191, v192, v193, v194, v195, v196, v197, v198, v199, v200, v201, v202, v203, v204, v205, v206, v207, v208, v209, v210, v211, v212, v213, v214, v215, v216, v217, v218, v219, v220, v221, v222, v223, v224, v225, v226, v227, v228, v229, v230, v231, v232, v233, v234, v235, v236, v237, v238, v239, v240, v241, v242, v243, v244, v245, v246, v247, v248, v249, v250, v251, v252, v253, v254, v255, v256, v257, v258, v259, v260, v261, v262, v263, v264, v265, v266, v267, v268, v269, v270, v271, v272, v273, v274, v275, v276, v277, v278, v279, v280, v281, v282, v283, v284, v285, v286, v287, v288, v289, v290, v291, v292, v293, v294, v295, v296, v297, v298, v299, v300, v301, v302, v303, v304, v305, v306, v307, v308, v309, v310, v311, v312, v313, v314, v315, v316, v317, v318, v319, v320, v321, v322, v323, v324, v325, v326, v327, v328], defers := [] } wa := by
  obtain ⟨i0, hi, hz0, hz1, hz2⟩ := info_parts info34i
  have hg1 := (Array.getElem?_eq_some_iff.1 hbox).1
  have hlk : Hid (k = l.length) := hG.len.symm
  have hl12 : l.length ≤ 12 := by rw [hG.len]; exact hG.few
  obtain ⟨m0, ⟨m1, m2⟩, ⟨m3, m4⟩, ⟨m5, m6⟩⟩ := hob
  have m1' : 0 ≤ x1 := m1
  have m2' : x1 ≤ 1000 := m2
  have m3' : 0 ≤ x2 := m3
  have m4' : x2 ≤ 200 := m4
  have m5' : 0 ≤ x3 := m5
  have m6' : x3 ≤ 4095 := m6
  have m0' : x0 = 0 ∨ x0 = 2 := m0
  have hpt : putE n l x0 x1 x2 x3 = 0 ∧ putB n l x0 x1 x2 x3 = mkB n l ⟨x0, x1, x2, x3⟩ := putE_in (ckI_of (hG.ok n2)) (sd_of m0') ⟨decide_eq_true ⟨by omega, by omega⟩, decide_eq_true ⟨by omega, by omega⟩, decide_eq_true ⟨by omega, by omega⟩, decide_eq_true ⟨by omega, by omega⟩⟩
  have hr1 := belF_rng x0 l x1 (1000 + 200 * (k : Int)) (by omega) (by omega) (fun b hb => by obtain ⟨a1, a2, a3, a4, a5, a6, a7⟩ := hG.all b hb; exact ⟨by omega, by omega⟩)
  have hbl1 := (belF_ge x0 l x1).2
  have hput := put_any u l n x0 x1 x2 x3 (by omega) _ (rec_of_row bdL_len hlk.out hrow)
  obtain ⟨Y1, hY1⟩ : ∃ Y1, belF x0 l x1 = Y1 := ⟨_, rfl⟩
  rw [hY1] at hr1 hbl1
  have hbelow : Hid (∀ b ∈ l, b.s = x0 → b.y + b.h ≤ Y1) := hbl1
  obtain ⟨r1, r2⟩ := hr1
  clear hbl1 m0 m1 m2 m3 m4 m5 m6 m0'
  by_cases hM : x3 ≤ (n - 10) / 2
  · have hMe : mkB n l ⟨x0, x1, x2, x3⟩ = ⟨x0, Y1, x2, x3⟩ := by
      show Bd.mk x0 (belF x0 l x1) x2 (min x3 ((max (n - 10) 0) / 2)) = _
      rw [hY1, (by omega : min x3 ((max (n - 10) 0) / 2) = x3)]
    have hpe : putB n l x0 x1 x2 x3 = ⟨x0, Y1, x2, x3⟩ := hpt.2.trans hMe
    rw [hpt.1, hpe] at hput
    rw [hMe] at hQ
    clear hMe hpe hpt
    have i1 : wa.cell? ⟨g1, 0, none⟩ = some (.int .i64 x0) := by rw [Lib.cell_of_heap hbox]; rfl
    have i2 : wa.cell? ⟨g1, 1, none⟩ = some (.int .i64 x1) := by rw [Lib.cell_of_heap hbox]; rfl
    have i3 : wa.cell? ⟨g1, 2, none⟩ = some (.int .i64 x2) := by rw [Lib.cell_of_heap hbox]; rfl
    have i4 : wa.cell? ⟨g1, 3, none⟩ = some (.int .i64 x3) := by rw [Lib.cell_of_heap hbox]; rfl
    unfold rest11
    go_wp2_with fail
    refine hput.mono ?_
    rintro e w3 ⟨rfl, b3⟩
    obtain ⟨g4, b4⟩ := boxed w3 ⟨x0, Y1, x2, x3⟩
    have b34 := b3.trans (b4.mono b3.size)
    have B4 := hw1.trans (b34.mono hw1.size)
    have R4 := ownsRow_below hrow b34
    have hsz3 := b3.size
    have N3 := BB.new w3 bd0
    generalize hw4 : ((w3.alloc (Obj.cells #[.int .i64 0, .int .i64 0, .int .i64 0, .int .i64 0] 34)).setRow w3.heap.size (bdC ⟨x0, Y1, x2, x3⟩)) = w4 at *
    have hob : w4.heap[g1]? = some (.cells #[.int .i64 x0, .int .i64 x1, .int .i64 x2, .int .i64 x3] 40 (0, 0)) := (b34.block _ hg1).trans hbox
    have o0 : w4.cell? ⟨g1, 0, none⟩ = some (.int .i64 x0) := by rw [Lib.cell_of_heap hob]; rfl
    have o1 : w4.cell? ⟨g1, 1, none⟩ = some (.int .i64 x1) := by rw [Lib.cell_of_heap hob]; rfl
    have o2 : w4.cell? ⟨g1, 2, none⟩ = some (.int .i64 x2) := by rw [Lib.cell_of_heap hob]; rfl
    have o3 : w4.cell? ⟨g1, 3, none⟩ = some (.int .i64 x3) := by rw [Lib.cell_of_heap hob]; rfl
    have d0 : w4.cell? ⟨w3.heap.size, 0, none⟩ = some (.int .i64 x0) := g4.c0
    have d1 : w4.cell? ⟨w3.heap.size, 1, none⟩ = some (.int .i64 Y1) := g4.c1
    have d2 : w4.cell? ⟨w3.heap.size, 2, none⟩ = some (.int .i64 x2) := g4.c2
    have d3 : w4.cell? ⟨w3.heap.size, 3, none⟩ = some (.int .i64 x3) := g4.c3
    have hlt4 := g4.lt
    have hne13 : ¬ g1 = w3.heap.size := by omega
    clear hput b3 b4 b34 hob hsz3 hbox hg1 hw1 i1 i2 i3 i4
    go_wp2_with (first | (refine wpList_store_row rfl 34 _ _ rfl w3.heap.size (bdC ⟨x0, Y1, x2, x3⟩) rfl rfl 34 _ N3.row (info34 _) rfl (bdC_one _) ?_; (show wpList _ _ _ _ _ ((w3.alloc (Obj.cells #[.int .i64 0, .int .i64 0, .int .i64 0, .int .i64 0] 34)).setRow w3.heap.size (bdC ⟨x0, Y1, x2, x3⟩))); rw [hw4]; clear hw4 N3))
    generalize w3.heap.size = g3 at *
    obtain ⟨ua, uc, rfl, h5⟩ := (rec_of_row (k := 4) (f := bdL) bdL_len hlk.out R4).ex
    have R4h : Hid (w4.ownsRow w1.heap.size 34 4 (.slice ua l.length uc) k (l.flatMap bdL)) := R4
    have hgb : Hid (BB w4 g3 ⟨x0, Y1, x2, x3⟩) := g4
    have hdl : Hid (∀ W, Below w4.heap.size w4 W → W.cell? ⟨g3, 0, none⟩ = some (.int .i64 x0) ∧ W.cell? ⟨g3, 1, none⟩ = some (.int .i64 Y1) ∧ W.cell? ⟨g3, 2, none⟩ = some (.int .i64 x2)) := fun W hW => ⟨(hW.cell hlt4).trans d0, (hW.cell hlt4).trans d1, (hW.cell hlt4).trans d2⟩
    have hb4 : Hid (Below w1.heap.size w1 w4) := B4
    have hb1s := B4.size
    clear hrow R4 o0 o1 o2 o3 d0 d1 d2 d3 g4 hne13 B4
    go_loopw [15] (fun j wr => ∃ q : Nat, q ≤ l.length ∧ j = .int .i64 q ∧ Below w4.heap.size w4 wr) (fun j _ => l.length - (intOf j).toNat)
    case atStart => exact ⟨0, by omega, rfl, Below.refl _ _⟩
    case round =>
      obtain ⟨q, hq, rfl, hb9⟩ := hrel
      obtain ⟨d0, d1, d2⟩ := hdl.out wr hb9
      by_cases hltq : q < l.length
      · rcases h5 with h5 | ⟨b, o, rfl, hbl, hc⟩
        · rw [h5] at hltq; simp at hltq
        have hltq' : (q : Int) < l.length := by omega
        have c0 : wr.cell? ⟨b, o + q * 4, none⟩ = some (.int .i64 l[q].s) := (hb9.cell hbl).trans (hc q hltq 0 _ rfl)
        have c1 : wr.cell? ⟨b, o + q * 4 + 1, none⟩ = some (.int .i64 l[q].y) := (hb9.cell hbl).trans (hc q hltq 1 _ rfl)
        have c2 : wr.cell? ⟨b, o + q * 4 + 2, none⟩ = some (.int .i64 l[q].h) := (hb9.cell hbl).trans (hc q hltq 2 _ rfl)
        obtain ⟨s1, s2, s3, s4, s5, s6, s7⟩ := hG.all l[q] (List.getElem_mem hltq)
        have hge := hbelow.out l[q] (List.getElem_mem hltq)
        have hov := fun W => overlap_any l[q].y l[q].h Y1 x2 ⟨s2, by omega⟩ ⟨s3, by omega⟩ ⟨by omega, by omega⟩ ⟨by omega, by omega⟩ W
        have hof : l[q].s = x0 → ovB l[q].y l[q].h Y1 x2 = false := fun e => decide_eq_false (by have := hge e; omega)
        clear hc hG hbelow hge R4h hgb hdl hb4 hQ s1
        generalize ovB l[q].y l[q].h Y1 x2 = ov at *
        generalize l[q].s = z0 at *
        generalize l[q].y = z1 at *
        generalize l[q].h = z2 at *
        by_cases hs : z0 = x0
        · have e := hof hs
          have e0 : (z0 == x0) = true := by simpa using hs
          subst e
          clear hof hs
          go_wp2_with fail
          go_quiet (first | (go_at_call 18; refine Calls.quiet_of_same (hov _)))
          go_wp2_with fail
          go_roundw
          case rel => exact ⟨q + 1, by omega, by simp, below_drewN hb9 _⟩
          case measure => simp [intOf]; omega
        · have e0 : (z0 == x0) = false := by simpa using hs
          clear hof hs
          go_wp2_with fail
          go_quiet (fail)
          go_wp2_with fail
          go_roundw
          case rel => exact ⟨q + 1, by omega, by simp, below_drewN hb9 _⟩
          case measure => simp [intOf]; omega
      · have hge : ¬ (q : Int) < l.length := by omega
        have r4 : wr.heap[g3]? = some (.cells #[.int .i64 x0, .int .i64 Y1, .int .i64 x2, .int .i64 x3] 34 (0, 0)) := (hgb.out.below hb9 hlt4).row
        have R9 := ownsRow_below R4h.out hb9
        have B9 := hb4.out.trans (hb9.mono hb4.out.size)
        have hB9 := B9.size
        have B9a := B9.alloc B9.size (.cells (bdC ⟨x0, Y1, x2, x3⟩) 34)
        clear h5 R4h hgb hdl hb4 hb9 d0 d1 d2 hbelow
        go_wp2_with (first | (refine wpList_load_row rfl 34 _ rfl g3 rfl 34 _ (0, 0) _ r4 Try.underlying34 rfl (info34 ⟨x0, Y1, x2, x3⟩) ?_) | (at_builtin; refine wpList_append_any _ rfl _ _ 22 rfl w1.heap.size 34 i0 _ 4 32 Try.underlying22 hi hz0 hz1 hz2 rfl (by decide) _ k (l.flatMap bdL) rfl (by exact R9.alloc _) 1 _ _ rfl (by exact src_bd wr ⟨x0, Y1, x2, x3⟩) (by unfold maxLen; omega) (by omega) (by simp; omega) ?_; intro v' w6 hown hgrow))
        have B6 : Below w1.heap.size w1 w6 := below_grown B9a (R9.alloc _) (Nat.le_refl _) (Nat.le_refl _) hgrow
        have hfl : (l ++ [(⟨x0, Y1, x2, x3⟩ : Bd)]).flatMap bdL = l.flatMap bdL ++ bdL ⟨x0, Y1, x2, x3⟩ := by simp
        rw [← hfl] at hown
        exact hQ.out v' w6 _ _ _ _ _ _ _ _ _ _ _ _ _ _ _ _ _ _ _ _ _ _ _ _ _ _ _ _ _ _ _ _ _ _ _ _ _ _ _ _ _ _ _ _ _ _ _ _ _ _ _ _ _ _ _ _ _ _ _ _ _ _ _ _ _ _ _ _ _ _ _ _ _ _ _ _ _ _ _ _ _ _ _ _ _ _ _ _ _ _ _ _ _ _ _ _ _ _ B6 hown
  · have hMe : mkB n l ⟨x0, x1, x2, x3⟩ = ⟨x0, Y1, x2, ((n - 10) / 2)⟩ := by
      show Bd.mk x0 (belF x0 l x1) x2 (min x3 ((max (n - 10) 0) / 2)) = _
      rw [hY1, (by omega : min x3 ((max (n - 10) 0) / 2) = ((n - 10) / 2))]
    have hpe : putB n l x0 x1 x2 x3 = ⟨x0, Y1, x2, ((n - 10) / 2)⟩ := hpt.2.trans hMe
    rw [hpt.1, hpe] at hput
    rw [hMe] at hQ
    clear hMe hpe hpt
    have i1 : wa.cell? ⟨g1, 0, none⟩ = some (.int .i64 x0) := by rw [Lib.cell_of_heap hbox]; rfl
    have i2 : wa.cell? ⟨g1, 1, none⟩ = some (.int .i64 x1) := by rw [Lib.cell_of_heap hbox]; rfl
    have i3 : wa.cell? ⟨g1, 2, none⟩ = some (.int .i64 x2) := by rw [Lib.cell_of_heap hbox]; rfl
    have i4 : wa.cell? ⟨g1, 3, none⟩ = some (.int .i64 x3) := by rw [Lib.cell_of_heap hbox]; rfl
    unfold rest11
    go_wp2_with fail
    refine hput.mono ?_
    rintro e w3 ⟨rfl, b3⟩
    obtain ⟨g4, b4⟩ := boxed w3 ⟨x0, Y1, x2, ((n - 10) / 2)⟩
    have b34 := b3.trans (b4.mono b3.size)
    have B4 := hw1.trans (b34.mono hw1.size)
    have R4 := ownsRow_below hrow b34
    have hsz3 := b3.size
    have N3 := BB.new w3 bd0
    generalize hw4 : ((w3.alloc (Obj.cells #[.int .i64 0, .int .i64 0, .int .i64 0, .int .i64 0] 34)).setRow w3.heap.size (bdC ⟨x0, Y1, x2, ((n - 10) / 2)⟩)) = w4 at *
    have hob : w4.heap[g1]? = some (.cells #[.int .i64 x0, .int .i64 x1, .int .i64 x2, .int .i64 x3] 40 (0, 0)) := (b34.block _ hg1).trans hbox
    have o0 : w4.cell? ⟨g1, 0, none⟩ = some (.int .i64 x0) := by rw [Lib.cell_of_heap hob]; rfl
    have o1 : w4.cell? ⟨g1, 1, none⟩ = some (.int .i64 x1) := by rw [Lib.cell_of_heap hob]; rfl
    have o2 : w4.cell? ⟨g1, 2, none⟩ = some (.int .i64 x2) := by rw [Lib.cell_of_heap hob]; rfl
    have o3 : w4.cell? ⟨g1, 3, none⟩ = some (.int .i64 x3) := by rw [Lib.cell_of_heap hob]; rfl
    have d0 : w4.cell? ⟨w3.heap.size, 0, none⟩ = some (.int .i64 x0) := g4.c0
    have d1 : w4.cell? ⟨w3.heap.size, 1, none⟩ = some (.int .i64 Y1) := g4.c1
    have d2 : w4.cell? ⟨w3.heap.size, 2, none⟩ = some (.int .i64 x2) := g4.c2
    have d3 : w4.cell? ⟨w3.heap.size, 3, none⟩ = some (.int .i64 ((n - 10) / 2)) := g4.c3
    have hlt4 := g4.lt
    have hne13 : ¬ g1 = w3.heap.size := by omega
    clear hput b3 b4 b34 hob hsz3 hbox hg1 hw1 i1 i2 i3 i4
    go_wp2_with (first | (refine wpList_store_row rfl 34 _ _ rfl w3.heap.size (bdC ⟨x0, Y1, x2, ((n - 10) / 2)⟩) rfl rfl 34 _ N3.row (info34 _) rfl (bdC_one _) ?_; (show wpList _ _ _ _ _ ((w3.alloc (Obj.cells #[.int .i64 0, .int .i64 0, .int .i64 0, .int .i64 0] 34)).setRow w3.heap.size (bdC ⟨x0, Y1, x2, ((n - 10) / 2)⟩))); rw [hw4]; clear hw4 N3))
    generalize w3.heap.size = g3 at *
    obtain ⟨ua, uc, rfl, h5⟩ := (rec_of_row (k := 4) (f := bdL) bdL_len hlk.out R4).ex
    have R4h : Hid (w4.ownsRow w1.heap.size 34 4 (.slice ua l.length uc) k (l.flatMap bdL)) := R4
    have hgb : Hid (BB w4 g3 ⟨x0, Y1, x2, ((n - 10) / 2)⟩) := g4
    have hdl : Hid (∀ W, Below w4.heap.size w4 W → W.cell? ⟨g3, 0, none⟩ = some (.int .i64 x0) ∧ W.cell? ⟨g3, 1, none⟩ = some (.int .i64 Y1) ∧ W.cell? ⟨g3, 2, none⟩ = some (.int .i64 x2)) := fun W hW => ⟨(hW.cell hlt4).trans d0, (hW.cell hlt4).trans d1, (hW.cell hlt4).trans d2⟩
    have hb4 : Hid (Below w1.heap.size w1 w4) := B4
    have hb1s := B4.size
    clear hrow R4 o0 o1 o2 o3 d0 d1 d2 d3 g4 hne13 B4
    go_loopw [15] (fun j wr => ∃ q : Nat, q ≤ l.length ∧ j = .int .i64 q ∧ Below w4.heap.size w4 wr) (fun j _ => l.length - (intOf j).toNat)
    case atStart => exact ⟨0, by omega, rfl, Below.refl _ _⟩
    case round =>
      obtain ⟨q, hq, rfl, hb9⟩ := hrel
      obtain ⟨d0, d1, d2⟩ := hdl.out wr hb9
      by_cases hltq : q < l.length
      · rcases h5 with h5 | ⟨b, o, rfl, hbl, hc⟩
        · rw [h5] at hltq; simp at hltq
        have hltq' : (q : Int) < l.length := by omega
        have c0 : wr.cell? ⟨b, o + q * 4, none⟩ = some (.int .i64 l[q].s) := (hb9.cell hbl).trans (hc q hltq 0 _ rfl)
        have c1 : wr.cell? ⟨b, o + q * 4 + 1, none⟩ = some (.int .i64 l[q].y) := (hb9.cell hbl).trans (hc q hltq 1 _ rfl)
        have c2 : wr.cell? ⟨b, o + q * 4 + 2, none⟩ = some (.int .i64 l[q].h) := (hb9.cell hbl).trans (hc q hltq 2 _ rfl)
        obtain ⟨s1, s2, s3, s4, s5, s6, s7⟩ := hG.all l[q] (List.getElem_mem hltq)
        have hge := hbelow.out l[q] (List.getElem_mem hltq)
        have hov := fun W => overlap_any l[q].y l[q].h Y1 x2 ⟨s2, by omega⟩ ⟨s3, by omega⟩ ⟨by omega, by omega⟩ ⟨by omega, by omega⟩ W
        have hof : l[q].s = x0 → ovB l[q].y l[q].h Y1 x2 = false := fun e => decide_eq_false (by have := hge e; omega)
        clear hc hG hbelow hge R4h hgb hdl hb4 hQ s1
        generalize ovB l[q].y l[q].h Y1 x2 = ov at *
        generalize l[q].s = z0 at *
        generalize l[q].y = z1 at *
        generalize l[q].h = z2 at *
        by_cases hs : z0 = x0
        · have e := hof hs
          have e0 : (z0 == x0) = true := by simpa using hs
          subst e
          clear hof hs
          go_wp2_with fail
          go_quiet (first | (go_at_call 18; refine Calls.quiet_of_same (hov _)))
          go_wp2_with fail
          go_roundw
          case rel => exact ⟨q + 1, by omega, by simp, below_drewN hb9 _⟩
          case measure => simp [intOf]; omega
        · have e0 : (z0 == x0) = false := by simpa using hs
          clear hof hs
          go_wp2_with fail
          go_quiet (fail)
          go_wp2_with fail
          go_roundw
          case rel => exact ⟨q + 1, by omega, by simp, below_drewN hb9 _⟩
          case measure => simp [intOf]; omega
      · have hge : ¬ (q : Int) < l.length := by omega
        have r4 : wr.heap[g3]? = some (.cells #[.int .i64 x0, .int .i64 Y1, .int .i64 x2, .int .i64 ((n - 10) / 2)] 34 (0, 0)) := (hgb.out.below hb9 hlt4).row
        have R9 := ownsRow_below R4h.out hb9
        have B9 := hb4.out.trans (hb9.mono hb4.out.size)
        have hB9 := B9.size
        have B9a := B9.alloc B9.size (.cells (bdC ⟨x0, Y1, x2, ((n - 10) / 2)⟩) 34)
        clear h5 R4h hgb hdl hb4 hb9 d0 d1 d2 hbelow
        go_wp2_with (first | (refine wpList_load_row rfl 34 _ rfl g3 rfl 34 _ (0, 0) _ r4 Try.underlying34 rfl (info34 ⟨x0, Y1, x2, ((n - 10) / 2)⟩) ?_) | (at_builtin; refine wpList_append_any _ rfl _ _ 22 rfl w1.heap.size 34 i0 _ 4 32 Try.underlying22 hi hz0 hz1 hz2 rfl (by decide) _ k (l.flatMap bdL) rfl (by exact R9.alloc _) 1 _ _ rfl (by exact src_bd wr ⟨x0, Y1, x2, ((n - 10) / 2)⟩) (by unfold maxLen; omega) (by omega) (by simp; omega) ?_; intro v' w6 hown hgrow))
        have B6 : Below w1.heap.size w1 w6 := below_grown B9a (R9.alloc _) (Nat.le_refl _) (Nat.le_refl _) hgrow
        have hfl : (l ++ [(⟨x0, Y1, x2, ((n - 10) / 2)⟩ : Bd)]).flatMap bdL = l.flatMap bdL ++ bdL ⟨x0, Y1, x2, ((n - 10) / 2)⟩ := by simp
        rw [← hfl] at hown
        exact hQ.out v' w6 _ _ _ _ _ _ _ _ _ _ _ _ _ _ _ _ _ _ _ _ _ _ _ _ _ _ _ _ _ _ _ _ _ _ _ _ _ _ _ _ _ _ _ _ _ _ _ _ _ _ _ _ _ _ _ _ _ _ _ _ _ _ _ _ _ _ _ _ _ _ _ _ _ _ _ _ _ _ _ _ _ _ _ _ _ _ _ _ _ _ _ _ _ _ _ _ _ _ B6 hown

end Go.Proofs.Ythdlhikpjpfpeaa
