import Derived.Deep.RegionHeld3
import Derived.BigQuiet
import Derived.Test.YtmoenmpbkockoaaGreatWj47
import Derived.Test.YtmoenmpbkockoaaGreatWj48
import Derived.Test.YtmoenmpbkockoaaGreatVj1
import Derived.Test.YtmoenmpbkockoaaGreatVj2
namespace Go.Proofs.YtmoenmpbkockoaaGreat
open Go.RowKit
set_option maxHeartbeats 8000000 in
set_option maxRecDepth 100000 in
theorem sound_reg (w1 : World) (k r c q : Int) (g0 rb ro rn rc i : Nat) (s : Nat) (hs : s < 2) (hi : (0 : Int) <= (i : Int)) (hi2 : (i : Int) < (rn : Int)) (a0 : Option Addr) (n0 c0 : Nat) (y : Sl) (b : Bool) (x : Int) (x0 x1 x3 x4 x6 x7 x8 x9 x10 x13 x14 x15 x16 x17 x18 x19 x20 x21 x22 x23 x24 x25 x26 x27 x28 x29 x30 x31 x32 x33 x34 x35 x36 x37 x38 x39 x40 x41 x42 x43 x44 x45 x46 x47 x48 x49 x50 x51 x52 x53 x54 x55 x56 x57 x58 x59 x60 x61 x62 x63 x64 x65 x66 x67 x68 x69 x70 x71 x72 x73 x74 x75 x76 x77 x78 x79 x80 x81 x82 x83 x84 x85 x86 x87 x88 x89 x90 x91 x92 x93 x94 x95 x96 x97 x98 x99 x100 x101 x102 x103 x104 x105 x106 x107 x108 x109 x110 x111 x112 x113 x114 x115 x116 x117 x118 x119 x120 x121 x122 x123 x124 x125 x126 x127 x128 x129 x130 x131 x132 x133 x134 : Value)
    (HS : Hid (∀ v, Below w1.heap.size w1 v -> (v.cell? ⟨g0, 0, none⟩ = some (.int .i64 k) /\ v.cell? ⟨g0, 1, none⟩ = some (.int .i64 r) /\ v.cell? ⟨g0, 2, none⟩ = some (.int .i64 c) /\ v.cell? ⟨g0, 3, none⟩ = some (.int .i64 q) /\ v.cell? ⟨rb, ro + i * 2 + s, none⟩ = some (.slice a0 n0 c0))))
    (HP1 : Hid (∀ v, Below w1.heap.size w1 v -> Calls Tryz.prog 51 #[.agg #[.int .i64 k, .int .i64 r, .int .i64 c, .int .i64 q], .slice a0 n0 c0] v fun e w' => ∃ ao ca bo cb, e = .returned (.tuple #[.agg #[.int .u8 ((y.kd.toNat : Nat) : Int), .int .i64 y.ix, .int .i64 y.ce, .int .i64 y.st, .slice ao y.vn ca, .slice bo y.dn cb], .bool b, .int .i64 x]) /\ Got v.heap.size w' y ao ca bo cb /\ Below v.heap.size v w'))
    (Q : Exit -> Act -> World -> Prop) (HQ : Hid (∀ v g ao ca bo cb, Below w1.heap.size w1 v -> At w1 v g #[.int .u8 ((y.kd.toNat : Nat) : Int), .int .i64 y.ix, .int .i64 y.ce, .int .i64 y.st, .slice ao y.vn ca, .slice bo y.dn cb] 94 -> Got w1.heap.size v y ao ca bo cb -> Q .normal { tmps := #[x0, x1, .pointer (some ⟨g0, 0, none⟩), x3, x4, .slice (some ⟨rb, ro, none⟩) rn rc, x6, x7, x8, x9, x10, .int .i64 (i : Int), .int .i64 (s : Int), .pointer (some ⟨g, 0, none⟩), .bool b, .int .i64 x, x16, x17, x18, x19, x20, x21, x22, x23, x24, x25, x26, x27, x28, x29, x30, x31, x32, x33, x34, x35, x36, x37, x38, x39, x40, x41, x42, x43, x44, x45, x46, x47, x48, x49, x50, x51, x52, x53, x54, x55, x56, x57, x58, .tuple #[.agg #[.int .u8 ((y.kd.toNat : Nat) : Int), .int .i64 y.ix, .int .i64 y.ce, .int .i64 y.st, .slice ao y.vn ca, .slice bo y.dn cb], .bool b, .int .i64 x], .pointer (some ⟨g0, 0, none⟩), .agg #[.int .i64 k, .int .i64 r, .int .i64 c, .int .i64 q], .slice (some ⟨rb, ro, none⟩) rn rc, .int .i64 (i : Int), .int .i64 (s : Int), .pointer (some ⟨rb, ro + i * 2, none⟩), .pointer (some ⟨rb, ro + i * 2 + s, none⟩), .slice a0 n0 c0, .tuple #[.agg #[.int .u8 ((y.kd.toNat : Nat) : Int), .int .i64 y.ix, .int .i64 y.ce, .int .i64 y.st, .slice ao y.vn ca, .slice bo y.dn cb], .bool b, .int .i64 x], .agg #[.int .u8 ((y.kd.toNat : Nat) : Int), .int .i64 y.ix, .int .i64 y.ce, .int .i64 y.st, .slice ao y.vn ca, .slice bo y.dn cb], .bool b, .int .i64 x, x72, x73, x74, x75, x76, x77, x78, x79, x80, x81, x82, x83, x84, x85, x86, x87, x88, x89, x90, x91, x92, x93, x94, x95, x96, x97, x98, x99, x100, x101, x102, x103, x104, x105, x106, x107, x108, x109, x110, x111, x112, x113, x114, x115, x116, x117, x118, x119, x120, x121, x122, x123, x124, x125, x126, x127, x128, x129, x130, x131, x132, x133, x134], defers := [] } v)) :
    Code.wp Tryz.prog (Code.region 12 #[{ dst := some 60, op := Op.fieldAddr 51 (.tmp 2) 0, type := 0, pos := "outright.go:83", after := #[], guard := none }, { dst := some 61, op := Op.load 23 (.tmp 60), type := 23, pos := "outright.go:83", after := #[{ on := 0, ground := .data }], guard := none }, { dst := some 62, op := Op.move (.tmp 5), type := 24, pos := "outright.go:83", after := #[], guard := none }, { dst := some 63, op := Op.move (.tmp 11), type := 3, pos := "outright.go:83", after := #[], guard := none }, { dst := some 64, op := Op.move (.tmp 12), type := 3, pos := "outright.go:83", after := #[], guard := none }, { dst := some 65, op := Op.indexAddr 24 (.tmp 62) (.tmp 63), type := 0, pos := "outright.go:83", after := #[{ on := 2, ground := .data }, { on := 3, ground := .data }], guard := none }, { dst := some 66, op := Op.indexAddr 98 (.tmp 65) (.tmp 64), type := 0, pos := "outright.go:83", after := #[{ on := 5, ground := .data }, { on := 4, ground := .data }], guard := none }, { dst := some 67, op := Op.load 75 (.tmp 66), type := 75, pos := "outright.go:83", after := #[{ on := 6, ground := .data }], guard := none }, { dst := some 68, op := Op.call { callee := Callee.value (Operand.func 51), args := #[.tmp 61, .tmp 67], argTypes := #[23, 75] }, type := 95, pos := "outright.go:83", after := #[{ on := 1, ground := .data }, { on := 7, ground := .data }], guard := none }, { dst := some 59, op := Op.move (.tmp 68), type := 95, pos := "outright.go:83", after := #[{ on := 8, ground := .data }], guard := none }, { dst := some 69, op := Op.extract (.tmp 59) 0, type := 94, pos := "outright.go:83", after := #[{ on := 9, ground := .data }], guard := none }, { dst := some 70, op := Op.extract (.tmp 59) 1, type := 4, pos := "outright.go:83", after := #[{ on := 9, ground := .data }, { on := 14, ground := Ground.gcOnly Departure.lateStores }], guard := none }, { dst := some 71, op := Op.extract (.tmp 59) 2, type := 31, pos := "outright.go:83", after := #[{ on := 9, ground := .data }, { on := 15, ground := Ground.gcOnly Departure.lateStores }], guard := none }, { dst := some 13, op := Op.alloc 94, type := 0, pos := "outright.go:83", after := #[], guard := none }, { dst := none, op := Op.store 94 (.tmp 13) (.tmp 69), type := 0, pos := "outright.go:83", after := #[{ on := 13, ground := .data }, { on := 10, ground := .data }, { on := 8, ground := Ground.chain }, { on := 0, ground := Ground.phase }, { on := 1, ground := Ground.phase }, { on := 2, ground := Ground.phase }, { on := 3, ground := Ground.phase }, { on := 4, ground := Ground.phase }, { on := 5, ground := Ground.phase }, { on := 6, ground := Ground.phase }, { on := 7, ground := Ground.phase }, { on := 8, ground := Ground.phase }, { on := 9, ground := Ground.phase }, { on := 10, ground := Ground.phase }, { on := 11, ground := Ground.textOnly Departure.lateStores }, { on := 12, ground := Ground.textOnly Departure.lateStores }, { on := 13, ground := Ground.phase }], guard := none }, { dst := some 14, op := Op.assign (.tmp 70), type := 4, pos := "outright.go:83", after := #[{ on := 11, ground := .data }, { on := 14, ground := Ground.chain }, { on := 0, ground := Ground.phase }, { on := 1, ground := Ground.phase }, { on := 2, ground := Ground.phase }, { on := 3, ground := Ground.phase }, { on := 4, ground := Ground.phase }, { on := 5, ground := Ground.phase }, { on := 6, ground := Ground.phase }, { on := 7, ground := Ground.phase }, { on := 8, ground := Ground.phase }, { on := 9, ground := Ground.phase }, { on := 10, ground := Ground.phase }, { on := 11, ground := Ground.phase }, { on := 12, ground := Ground.textOnly Departure.lateStores }, { on := 13, ground := Ground.phase }, { on := 14, ground := Ground.phase }], guard := none }, { dst := some 15, op := Op.assign (.tmp 71), type := 31, pos := "outright.go:83", after := #[{ on := 12, ground := .data }, { on := 15, ground := Ground.chain }, { on := 0, ground := Ground.phase }, { on := 1, ground := Ground.phase }, { on := 2, ground := Ground.phase }, { on := 3, ground := Ground.phase }, { on := 4, ground := Ground.phase }, { on := 5, ground := Ground.phase }, { on := 6, ground := Ground.phase }, { on := 7, ground := Ground.phase }, { on := 8, ground := Ground.phase }, { on := 9, ground := Ground.phase }, { on := 10, ground := Ground.phase }, { on := 11, ground := Ground.phase }, { on := 12, ground := Ground.phase }, { on := 13, ground := Ground.phase }, { on := 14, ground := Ground.phase }, { on := 15, ground := Ground.phase }], guard := none }] true) Q { tmps := #[x0, x1, .pointer (some ⟨g0, 0, none⟩), x3, x4, .slice (some ⟨rb, ro, none⟩) rn rc, x6, x7, x8, x9, x10, .int .i64 (i : Int), .int .i64 (s : Int), x13, x14, x15, x16, x17, x18, x19, x20, x21, x22, x23, x24, x25, x26, x27, x28, x29, x30, x31, x32, x33, x34, x35, x36, x37, x38, x39, x40, x41, x42, x43, x44, x45, x46, x47, x48, x49, x50, x51, x52, x53, x54, x55, x56, x57, x58, x59, x60, x61, x62, x63, x64, x65, x66, x67, x68, x69, x70, x71, x72, x73, x74, x75, x76, x77, x78, x79, x80, x81, x82, x83, x84, x85, x86, x87, x88, x89, x90, x91, x92, x93, x94, x95, x96, x97, x98, x99, x100, x101, x102, x103, x104, x105, x106, x107, x108, x109, x110, x111, x112, x113, x114, x115, x116, x117, x118, x119, x120, x121, x122, x123, x124, x125, x126, x127, x128, x129, x130, x131, x132, x133, x134], defers := [] } w1 := by
  obtain ⟨s0, s1, s2, s3, s4⟩ := HS.out w1 (Below.refl _ _)
  have hs0 : (0 : Int) <= (s : Int) := by omega
  have hs2 : (s : Int) < 2 := by omega
  have hd0 : Below w1.heap.size w1 w1.drew := below_drew _ _
  have hda : ∀ o, Below w1.heap.size w1 (w1.alloc o).drew := fun o => b_drew (b_alloc (Below.refl _ _) o)
  go_region_held3 (fun v => v.cell? ⟨g0, 0, none⟩ = some (.int .i64 k) /\ v.cell? ⟨g0, 1, none⟩ = some (.int .i64 r) /\ v.cell? ⟨g0, 2, none⟩ = some (.int .i64 c) /\ v.cell? ⟨g0, 3, none⟩ = some (.int .i64 q) /\ v.cell? ⟨rb, ro + i * 2 + s, none⟩ = some (.slice a0 n0 c0)) ((refine HS.out _ ?_; first | with_reducible exact hd0 | with_reducible exact hda _ | with_reducible exact hb' | with_reducible exact b_alloc hb' _ | with_reducible exact below_six hb' hgg _ _ _ _ _ _ | with_reducible exact below_six (b_alloc hb' _) hb'.size _ _ _ _ _ _)) ((first
    | (go_at_call 51; refine (HP1.out _ (hda _)).mono ?_; rintro e w' ⟨ao, ca, bo, cb, rfl, hv, hw'⟩; have hb' := below_then (hda _) hw'; have hat : At w1 w' w1.heap.size #[.int .u8 0, .int .i64 0, .int .i64 0, .int .i64 0, .slice none 0 0, .slice none 0 0] 94 := (at_new (a := w1) (Below.refl _ _) _ 94).drew.below hw'; have hgg := hat.1; have c0 := hat.cell (i := 0) rfl; have c1 := hat.cell (i := 1) rfl; have c2 := hat.cell (i := 2) rfl; have c3 := hat.cell (i := 3) rfl; have c4 := hat.cell (i := 4) rfl; have c5 := hat.cell (i := 5) rfl; have cf := hat.free; clear hw')
    | (go_at_call 51; refine (HP1.out _ hd0).mono ?_; rintro e w' ⟨ao, ca, bo, cb, rfl, hv, hw'⟩; have hb' := below_then hd0 hw'; clear hw')))
  · refine HQ.out _ _ ao ca bo cb ?_ ?_ ?_
    · exact b_alloc hb' _
    · exact at_new hb' _ _
    · exact hv.below (below_alloc _ _)
  · refine HQ.out _ _ ao ca bo cb ?_ ?_ ?_
    · exact below_six hb' hgg _ _ _ _ _ _
    · exact at_six hat _ _ _ _ _ _
    · exact (Got.stay hv (only_six w' w1.heap.size _ _ _ _ _ _) (by show w1.heap.size < (w1.alloc _).heap.size; simp)).mono (by show w1.heap.size <= (w1.alloc _).heap.size; simp)
set_option maxHeartbeats 8000000 in
set_option maxRecDepth 100000 in
theorem told_reg0 (w1 : World) (k r c q : Int) (g0 rb ro rn rc i : Nat) (hi : (0 : Int) <= (i : Int)) (hi2 : (i : Int) < (rn : Int)) (a0 : Option Addr) (n0 c0 : Nat) (y : Sl) (b : Bool) (x : Int) (x0 x1 x3 x4 x6 x7 x9 x10 x11 x12 x13 x14 x15 x16 x17 x18 x19 x20 x21 x22 x23 x24 x25 x26 x27 x28 x29 x30 x31 x32 x33 x34 x35 x36 x37 x38 x39 x40 x41 x42 x43 x44 x45 x46 x47 x48 x49 x50 x51 x52 x53 x54 x55 x56 x57 x58 x59 x60 x61 x62 x63 x64 x65 x66 x67 x68 x69 x70 x71 x72 x73 x74 x75 x76 x77 x78 x79 x80 x81 x82 x83 x84 x85 x86 x87 x88 x89 x90 x91 x92 x93 x94 x95 x96 x97 x98 : Value)
    (HS : Hid (∀ v, Below w1.heap.size w1 v -> (v.cell? ⟨g0, 0, none⟩ = some (.int .i64 k) /\ v.cell? ⟨g0, 1, none⟩ = some (.int .i64 r) /\ v.cell? ⟨g0, 2, none⟩ = some (.int .i64 c) /\ v.cell? ⟨g0, 3, none⟩ = some (.int .i64 q) /\ v.cell? ⟨rb, ro + i * 2, none⟩ = some (.slice a0 n0 c0))))
    (HP1 : Hid (∀ v, Below w1.heap.size w1 v -> Calls Tryz.prog 51 #[.agg #[.int .i64 k, .int .i64 r, .int .i64 c, .int .i64 q], .slice a0 n0 c0] v fun e w' => ∃ ao ca bo cb, e = .returned (.tuple #[.agg #[.int .u8 ((y.kd.toNat : Nat) : Int), .int .i64 y.ix, .int .i64 y.ce, .int .i64 y.st, .slice ao y.vn ca, .slice bo y.dn cb], .bool b, .int .i64 x]) /\ Got v.heap.size w' y ao ca bo cb /\ Below v.heap.size v w'))
    (Q : Exit -> Act -> World -> Prop) (HQ : Hid (∀ v g ao ca bo cb, Below w1.heap.size w1 v -> At w1 v g #[.int .u8 ((y.kd.toNat : Nat) : Int), .int .i64 y.ix, .int .i64 y.ce, .int .i64 y.st, .slice ao y.vn ca, .slice bo y.dn cb] 94 -> Got w1.heap.size v y ao ca bo cb -> Q .normal { tmps := #[x0, x1, .pointer (some ⟨g0, 0, none⟩), x3, x4, .slice (some ⟨rb, ro, none⟩) rn rc, x6, x7, .int .i64 (i : Int), .pointer (some ⟨g, 0, none⟩), .bool b, .int .i64 x, x12, x13, x14, x15, x16, x17, x18, x19, x20, x21, x22, x23, x24, x25, x26, x27, .tuple #[.agg #[.int .u8 ((y.kd.toNat : Nat) : Int), .int .i64 y.ix, .int .i64 y.ce, .int .i64 y.st, .slice ao y.vn ca, .slice bo y.dn cb], .bool b, .int .i64 x], .pointer (some ⟨g0, 0, none⟩), .agg #[.int .i64 k, .int .i64 r, .int .i64 c, .int .i64 q], .slice (some ⟨rb, ro, none⟩) rn rc, .int .i64 (i : Int), .pointer (some ⟨rb, ro + i * 2, none⟩), .pointer (some ⟨rb, ro + i * 2, none⟩), .slice a0 n0 c0, .tuple #[.agg #[.int .u8 ((y.kd.toNat : Nat) : Int), .int .i64 y.ix, .int .i64 y.ce, .int .i64 y.st, .slice ao y.vn ca, .slice bo y.dn cb], .bool b, .int .i64 x], .agg #[.int .u8 ((y.kd.toNat : Nat) : Int), .int .i64 y.ix, .int .i64 y.ce, .int .i64 y.st, .slice ao y.vn ca, .slice bo y.dn cb], .bool b, .int .i64 x, x40, x41, x42, x43, x44, x45, x46, x47, x48, x49, x50, x51, x52, x53, x54, x55, x56, x57, x58, x59, x60, x61, x62, x63, x64, x65, x66, x67, x68, x69, x70, x71, x72, x73, x74, x75, x76, x77, x78, x79, x80, x81, x82, x83, x84, x85, x86, x87, x88, x89, x90, x91, x92, x93, x94, x95, x96, x97, x98], defers := [] } v)) :
    Code.wp Tryz.prog (Code.region 6 #[{ dst := some 29, op := Op.fieldAddr 51 (.tmp 2) 0, type := 0, pos := "outright.go:110", after := #[], guard := none }, { dst := some 30, op := Op.load 23 (.tmp 29), type := 23, pos := "outright.go:110", after := #[{ on := 0, ground := .data }], guard := none }, { dst := some 31, op := Op.move (.tmp 5), type := 24, pos := "outright.go:110", after := #[], guard := none }, { dst := some 32, op := Op.move (.tmp 8), type := 3, pos := "outright.go:110", after := #[], guard := none }, { dst := some 33, op := Op.indexAddr 24 (.tmp 31) (.tmp 32), type := 0, pos := "outright.go:110", after := #[{ on := 2, ground := .data }, { on := 3, ground := .data }], guard := none }, { dst := some 34, op := Op.indexAddr 98 (.tmp 33) (Operand.const (Value.int IntKind.i64 0)), type := 0, pos := "outright.go:110", after := #[{ on := 4, ground := .data }], guard := none }, { dst := some 35, op := Op.load 75 (.tmp 34), type := 75, pos := "outright.go:110", after := #[{ on := 5, ground := .data }], guard := none }, { dst := some 36, op := Op.call { callee := Callee.value (Operand.func 51), args := #[.tmp 30, .tmp 35], argTypes := #[23, 75] }, type := 95, pos := "outright.go:110", after := #[{ on := 1, ground := .data }, { on := 6, ground := .data }], guard := none }, { dst := some 28, op := Op.move (.tmp 36), type := 95, pos := "outright.go:110", after := #[{ on := 7, ground := .data }], guard := none }, { dst := some 37, op := Op.extract (.tmp 28) 0, type := 94, pos := "outright.go:110", after := #[{ on := 8, ground := .data }], guard := none }, { dst := some 38, op := Op.extract (.tmp 28) 1, type := 4, pos := "outright.go:110", after := #[{ on := 8, ground := .data }, { on := 13, ground := Ground.gcOnly Departure.lateStores }], guard := none }, { dst := some 39, op := Op.extract (.tmp 28) 2, type := 31, pos := "outright.go:110", after := #[{ on := 8, ground := .data }, { on := 14, ground := Ground.gcOnly Departure.lateStores }], guard := none }, { dst := some 9, op := Op.alloc 94, type := 0, pos := "outright.go:110", after := #[], guard := none }, { dst := none, op := Op.store 94 (.tmp 9) (.tmp 37), type := 0, pos := "outright.go:110", after := #[{ on := 12, ground := .data }, { on := 9, ground := .data }, { on := 7, ground := Ground.chain }, { on := 0, ground := Ground.phase }, { on := 1, ground := Ground.phase }, { on := 2, ground := Ground.phase }, { on := 3, ground := Ground.phase }, { on := 4, ground := Ground.phase }, { on := 5, ground := Ground.phase }, { on := 6, ground := Ground.phase }, { on := 7, ground := Ground.phase }, { on := 8, ground := Ground.phase }, { on := 9, ground := Ground.phase }, { on := 10, ground := Ground.textOnly Departure.lateStores }, { on := 11, ground := Ground.textOnly Departure.lateStores }, { on := 12, ground := Ground.phase }], guard := none }, { dst := some 10, op := Op.assign (.tmp 38), type := 4, pos := "outright.go:110", after := #[{ on := 10, ground := .data }, { on := 13, ground := Ground.chain }, { on := 0, ground := Ground.phase }, { on := 1, ground := Ground.phase }, { on := 2, ground := Ground.phase }, { on := 3, ground := Ground.phase }, { on := 4, ground := Ground.phase }, { on := 5, ground := Ground.phase }, { on := 6, ground := Ground.phase }, { on := 7, ground := Ground.phase }, { on := 8, ground := Ground.phase }, { on := 9, ground := Ground.phase }, { on := 10, ground := Ground.phase }, { on := 11, ground := Ground.textOnly Departure.lateStores }, { on := 12, ground := Ground.phase }, { on := 13, ground := Ground.phase }], guard := none }, { dst := some 11, op := Op.assign (.tmp 39), type := 31, pos := "outright.go:110", after := #[{ on := 11, ground := .data }, { on := 14, ground := Ground.chain }, { on := 0, ground := Ground.phase }, { on := 1, ground := Ground.phase }, { on := 2, ground := Ground.phase }, { on := 3, ground := Ground.phase }, { on := 4, ground := Ground.phase }, { on := 5, ground := Ground.phase }, { on := 6, ground := Ground.phase }, { on := 7, ground := Ground.phase }, { on := 8, ground := Ground.phase }, { on := 9, ground := Ground.phase }, { on := 10, ground := Ground.phase }, { on := 11, ground := Ground.phase }, { on := 12, ground := Ground.phase }, { on := 13, ground := Ground.phase }, { on := 14, ground := Ground.phase }], guard := none }] true) Q { tmps := #[x0, x1, .pointer (some ⟨g0, 0, none⟩), x3, x4, .slice (some ⟨rb, ro, none⟩) rn rc, x6, x7, .int .i64 (i : Int), x9, x10, x11, x12, x13, x14, x15, x16, x17, x18, x19, x20, x21, x22, x23, x24, x25, x26, x27, x28, x29, x30, x31, x32, x33, x34, x35, x36, x37, x38, x39, x40, x41, x42, x43, x44, x45, x46, x47, x48, x49, x50, x51, x52, x53, x54, x55, x56, x57, x58, x59, x60, x61, x62, x63, x64, x65, x66, x67, x68, x69, x70, x71, x72, x73, x74, x75, x76, x77, x78, x79, x80, x81, x82, x83, x84, x85, x86, x87, x88, x89, x90, x91, x92, x93, x94, x95, x96, x97, x98], defers := [] } w1 := by
  obtain ⟨s0, s1, s2, s3, s4⟩ := HS.out w1 (Below.refl _ _)
  have hd0 : Below w1.heap.size w1 w1.drew := below_drew _ _
  have hda : ∀ o, Below w1.heap.size w1 (w1.alloc o).drew := fun o => b_drew (b_alloc (Below.refl _ _) o)
  go_region_held3 (fun v => v.cell? ⟨g0, 0, none⟩ = some (.int .i64 k) /\ v.cell? ⟨g0, 1, none⟩ = some (.int .i64 r) /\ v.cell? ⟨g0, 2, none⟩ = some (.int .i64 c) /\ v.cell? ⟨g0, 3, none⟩ = some (.int .i64 q) /\ v.cell? ⟨rb, ro + i * 2, none⟩ = some (.slice a0 n0 c0)) ((refine HS.out _ ?_; first | with_reducible exact hd0 | with_reducible exact hda _ | with_reducible exact hb' | with_reducible exact b_alloc hb' _ | with_reducible exact below_six hb' hgg _ _ _ _ _ _ | with_reducible exact below_six (b_alloc hb' _) hb'.size _ _ _ _ _ _)) ((first
    | (go_at_call 51; refine (HP1.out _ (hda _)).mono ?_; rintro e w' ⟨ao, ca, bo, cb, rfl, hv, hw'⟩; have hb' := below_then (hda _) hw'; have hat : At w1 w' w1.heap.size #[.int .u8 0, .int .i64 0, .int .i64 0, .int .i64 0, .slice none 0 0, .slice none 0 0] 94 := (at_new (a := w1) (Below.refl _ _) _ 94).drew.below hw'; have hgg := hat.1; have c0 := hat.cell (i := 0) rfl; have c1 := hat.cell (i := 1) rfl; have c2 := hat.cell (i := 2) rfl; have c3 := hat.cell (i := 3) rfl; have c4 := hat.cell (i := 4) rfl; have c5 := hat.cell (i := 5) rfl; have cf := hat.free; clear hw')
    | (go_at_call 51; refine (HP1.out _ hd0).mono ?_; rintro e w' ⟨ao, ca, bo, cb, rfl, hv, hw'⟩; have hb' := below_then hd0 hw'; clear hw')))
  · refine HQ.out _ _ ao ca bo cb ?_ ?_ ?_
    · exact b_alloc hb' _
    · exact at_new hb' _ _
    · exact hv.below (below_alloc _ _)
  · refine HQ.out _ _ ao ca bo cb ?_ ?_ ?_
    · exact below_six hb' hgg _ _ _ _ _ _
    · exact at_six hat _ _ _ _ _ _
    · exact (Got.stay hv (only_six w' w1.heap.size _ _ _ _ _ _) (by show w1.heap.size < (w1.alloc _).heap.size; simp)).mono (by show w1.heap.size <= (w1.alloc _).heap.size; simp)
set_option maxHeartbeats 8000000 in
set_option maxRecDepth 100000 in
theorem told_reg1 (w1 : World) (k r c q : Int) (g0 rb ro rn rc i : Nat) (hi : (0 : Int) <= (i : Int)) (hi2 : (i : Int) < (rn : Int)) (a0 : Option Addr) (n0 c0 : Nat) (y : Sl) (b : Bool) (x : Int) (x0 x1 x3 x4 x6 x7 x9 x10 x11 x12 x13 x14 x15 x16 x17 x18 x19 x20 x21 x22 x23 x24 x25 x26 x27 x28 x29 x30 x31 x32 x33 x34 x35 x36 x37 x38 x39 x40 x41 x42 x43 x44 x45 x46 x47 x48 x49 x50 x51 x52 x53 x54 x55 x56 x57 x58 x59 x60 x61 x62 x63 x64 x65 x66 x67 x68 x69 x70 x71 x72 x73 x74 x75 x76 x77 x78 x79 x80 x81 x82 x83 x84 x85 x86 x87 x88 x89 x90 x91 x92 x93 x94 x95 x96 x97 x98 : Value)
    (HS : Hid (∀ v, Below w1.heap.size w1 v -> (v.cell? ⟨g0, 0, none⟩ = some (.int .i64 k) /\ v.cell? ⟨g0, 1, none⟩ = some (.int .i64 r) /\ v.cell? ⟨g0, 2, none⟩ = some (.int .i64 c) /\ v.cell? ⟨g0, 3, none⟩ = some (.int .i64 q) /\ v.cell? ⟨rb, ro + i * 2 + 1, none⟩ = some (.slice a0 n0 c0))))
    (HP1 : Hid (∀ v, Below w1.heap.size w1 v -> Calls Tryz.prog 51 #[.agg #[.int .i64 k, .int .i64 r, .int .i64 c, .int .i64 q], .slice a0 n0 c0] v fun e w' => ∃ ao ca bo cb, e = .returned (.tuple #[.agg #[.int .u8 ((y.kd.toNat : Nat) : Int), .int .i64 y.ix, .int .i64 y.ce, .int .i64 y.st, .slice ao y.vn ca, .slice bo y.dn cb], .bool b, .int .i64 x]) /\ Got v.heap.size w' y ao ca bo cb /\ Below v.heap.size v w'))
    (Q : Exit -> Act -> World -> Prop) (HQ : Hid (∀ v g ao ca bo cb, Below w1.heap.size w1 v -> At w1 v g #[.int .u8 ((y.kd.toNat : Nat) : Int), .int .i64 y.ix, .int .i64 y.ce, .int .i64 y.st, .slice ao y.vn ca, .slice bo y.dn cb] 94 -> Got w1.heap.size v y ao ca bo cb -> Q .normal { tmps := #[x0, x1, .pointer (some ⟨g0, 0, none⟩), x3, x4, .slice (some ⟨rb, ro, none⟩) rn rc, x6, x7, .int .i64 (i : Int), x9, x10, x11, .pointer (some ⟨g, 0, none⟩), .bool b, .int .i64 x, x15, x16, x17, x18, x19, x20, x21, x22, x23, x24, x25, x26, x27, x28, x29, x30, x31, x32, x33, x34, x35, x36, x37, x38, x39, .tuple #[.agg #[.int .u8 ((y.kd.toNat : Nat) : Int), .int .i64 y.ix, .int .i64 y.ce, .int .i64 y.st, .slice ao y.vn ca, .slice bo y.dn cb], .bool b, .int .i64 x], .pointer (some ⟨g0, 0, none⟩), .agg #[.int .i64 k, .int .i64 r, .int .i64 c, .int .i64 q], .slice (some ⟨rb, ro, none⟩) rn rc, .int .i64 (i : Int), .pointer (some ⟨rb, ro + i * 2, none⟩), .pointer (some ⟨rb, ro + i * 2 + 1, none⟩), .slice a0 n0 c0, .tuple #[.agg #[.int .u8 ((y.kd.toNat : Nat) : Int), .int .i64 y.ix, .int .i64 y.ce, .int .i64 y.st, .slice ao y.vn ca, .slice bo y.dn cb], .bool b, .int .i64 x], .agg #[.int .u8 ((y.kd.toNat : Nat) : Int), .int .i64 y.ix, .int .i64 y.ce, .int .i64 y.st, .slice ao y.vn ca, .slice bo y.dn cb], .bool b, .int .i64 x, x52, x53, x54, x55, x56, x57, x58, x59, x60, x61, x62, x63, x64, x65, x66, x67, x68, x69, x70, x71, x72, x73, x74, x75, x76, x77, x78, x79, x80, x81, x82, x83, x84, x85, x86, x87, x88, x89, x90, x91, x92, x93, x94, x95, x96, x97, x98], defers := [] } v)) :
    Code.wp Tryz.prog (Code.region 7 #[{ dst := some 41, op := Op.fieldAddr 51 (.tmp 2) 0, type := 0, pos := "outright.go:111", after := #[], guard := none }, { dst := some 42, op := Op.load 23 (.tmp 41), type := 23, pos := "outright.go:111", after := #[{ on := 0, ground := .data }], guard := none }, { dst := some 43, op := Op.move (.tmp 5), type := 24, pos := "outright.go:111", after := #[], guard := none }, { dst := some 44, op := Op.move (.tmp 8), type := 3, pos := "outright.go:111", after := #[], guard := none }, { dst := some 45, op := Op.indexAddr 24 (.tmp 43) (.tmp 44), type := 0, pos := "outright.go:111", after := #[{ on := 2, ground := .data }, { on := 3, ground := .data }], guard := none }, { dst := some 46, op := Op.indexAddr 98 (.tmp 45) (Operand.const (Value.int IntKind.i64 1)), type := 0, pos := "outright.go:111", after := #[{ on := 4, ground := .data }], guard := none }, { dst := some 47, op := Op.load 75 (.tmp 46), type := 75, pos := "outright.go:111", after := #[{ on := 5, ground := .data }], guard := none }, { dst := some 48, op := Op.call { callee := Callee.value (Operand.func 51), args := #[.tmp 42, .tmp 47], argTypes := #[23, 75] }, type := 95, pos := "outright.go:111", after := #[{ on := 1, ground := .data }, { on := 6, ground := .data }], guard := none }, { dst := some 40, op := Op.move (.tmp 48), type := 95, pos := "outright.go:111", after := #[{ on := 7, ground := .data }], guard := none }, { dst := some 49, op := Op.extract (.tmp 40) 0, type := 94, pos := "outright.go:111", after := #[{ on := 8, ground := .data }], guard := none }, { dst := some 50, op := Op.extract (.tmp 40) 1, type := 4, pos := "outright.go:111", after := #[{ on := 8, ground := .data }, { on := 13, ground := Ground.gcOnly Departure.lateStores }], guard := none }, { dst := some 51, op := Op.extract (.tmp 40) 2, type := 31, pos := "outright.go:111", after := #[{ on := 8, ground := .data }, { on := 14, ground := Ground.gcOnly Departure.lateStores }], guard := none }, { dst := some 12, op := Op.alloc 94, type := 0, pos := "outright.go:111", after := #[], guard := none }, { dst := none, op := Op.store 94 (.tmp 12) (.tmp 49), type := 0, pos := "outright.go:111", after := #[{ on := 12, ground := .data }, { on := 9, ground := .data }, { on := 7, ground := Ground.chain }, { on := 0, ground := Ground.phase }, { on := 1, ground := Ground.phase }, { on := 2, ground := Ground.phase }, { on := 3, ground := Ground.phase }, { on := 4, ground := Ground.phase }, { on := 5, ground := Ground.phase }, { on := 6, ground := Ground.phase }, { on := 7, ground := Ground.phase }, { on := 8, ground := Ground.phase }, { on := 9, ground := Ground.phase }, { on := 10, ground := Ground.textOnly Departure.lateStores }, { on := 11, ground := Ground.textOnly Departure.lateStores }, { on := 12, ground := Ground.phase }], guard := none }, { dst := some 13, op := Op.assign (.tmp 50), type := 4, pos := "outright.go:111", after := #[{ on := 10, ground := .data }, { on := 13, ground := Ground.chain }, { on := 0, ground := Ground.phase }, { on := 1, ground := Ground.phase }, { on := 2, ground := Ground.phase }, { on := 3, ground := Ground.phase }, { on := 4, ground := Ground.phase }, { on := 5, ground := Ground.phase }, { on := 6, ground := Ground.phase }, { on := 7, ground := Ground.phase }, { on := 8, ground := Ground.phase }, { on := 9, ground := Ground.phase }, { on := 10, ground := Ground.phase }, { on := 11, ground := Ground.textOnly Departure.lateStores }, { on := 12, ground := Ground.phase }, { on := 13, ground := Ground.phase }], guard := none }, { dst := some 14, op := Op.assign (.tmp 51), type := 31, pos := "outright.go:111", after := #[{ on := 11, ground := .data }, { on := 14, ground := Ground.chain }, { on := 0, ground := Ground.phase }, { on := 1, ground := Ground.phase }, { on := 2, ground := Ground.phase }, { on := 3, ground := Ground.phase }, { on := 4, ground := Ground.phase }, { on := 5, ground := Ground.phase }, { on := 6, ground := Ground.phase }, { on := 7, ground := Ground.phase }, { on := 8, ground := Ground.phase }, { on := 9, ground := Ground.phase }, { on := 10, ground := Ground.phase }, { on := 11, ground := Ground.phase }, { on := 12, ground := Ground.phase }, { on := 13, ground := Ground.phase }, { on := 14, ground := Ground.phase }], guard := none }] true) Q { tmps := #[x0, x1, .pointer (some ⟨g0, 0, none⟩), x3, x4, .slice (some ⟨rb, ro, none⟩) rn rc, x6, x7, .int .i64 (i : Int), x9, x10, x11, x12, x13, x14, x15, x16, x17, x18, x19, x20, x21, x22, x23, x24, x25, x26, x27, x28, x29, x30, x31, x32, x33, x34, x35, x36, x37, x38, x39, x40, x41, x42, x43, x44, x45, x46, x47, x48, x49, x50, x51, x52, x53, x54, x55, x56, x57, x58, x59, x60, x61, x62, x63, x64, x65, x66, x67, x68, x69, x70, x71, x72, x73, x74, x75, x76, x77, x78, x79, x80, x81, x82, x83, x84, x85, x86, x87, x88, x89, x90, x91, x92, x93, x94, x95, x96, x97, x98], defers := [] } w1 := by
  obtain ⟨s0, s1, s2, s3, s4⟩ := HS.out w1 (Below.refl _ _)
  have hd0 : Below w1.heap.size w1 w1.drew := below_drew _ _
  have hda : ∀ o, Below w1.heap.size w1 (w1.alloc o).drew := fun o => b_drew (b_alloc (Below.refl _ _) o)
  go_region_held3 (fun v => v.cell? ⟨g0, 0, none⟩ = some (.int .i64 k) /\ v.cell? ⟨g0, 1, none⟩ = some (.int .i64 r) /\ v.cell? ⟨g0, 2, none⟩ = some (.int .i64 c) /\ v.cell? ⟨g0, 3, none⟩ = some (.int .i64 q) /\ v.cell? ⟨rb, ro + i * 2 + 1, none⟩ = some (.slice a0 n0 c0)) ((refine HS.out _ ?_; first | with_reducible exact hd0 | with_reducible exact hda _ | with_reducible exact hb' | with_reducible exact b_alloc hb' _ | with_reducible exact below_six hb' hgg _ _ _ _ _ _ | with_reducible exact below_six (b_alloc hb' _) hb'.size _ _ _ _ _ _)) ((first
    | (go_at_call 51; refine (HP1.out _ (hda _)).mono ?_; rintro e w' ⟨ao, ca, bo, cb, rfl, hv, hw'⟩; have hb' := below_then (hda _) hw'; have hat : At w1 w' w1.heap.size #[.int .u8 0, .int .i64 0, .int .i64 0, .int .i64 0, .slice none 0 0, .slice none 0 0] 94 := (at_new (a := w1) (Below.refl _ _) _ 94).drew.below hw'; have hgg := hat.1; have c0 := hat.cell (i := 0) rfl; have c1 := hat.cell (i := 1) rfl; have c2 := hat.cell (i := 2) rfl; have c3 := hat.cell (i := 3) rfl; have c4 := hat.cell (i := 4) rfl; have c5 := hat.cell (i := 5) rfl; have cf := hat.free; clear hw')
    | (go_at_call 51; refine (HP1.out _ hd0).mono ?_; rintro e w' ⟨ao, ca, bo, cb, rfl, hv, hw'⟩; have hb' := below_then hd0 hw'; clear hw')))
  · refine HQ.out _ _ ao ca bo cb ?_ ?_ ?_
    · exact b_alloc hb' _
    · exact at_new hb' _ _
    · exact hv.below (below_alloc _ _)
  · refine HQ.out _ _ ao ca bo cb ?_ ?_ ?_
    · exact below_six hb' hgg _ _ _ _ _ _
    · exact at_six hat _ _ _ _ _ _
    · exact (Got.stay hv (only_six w' w1.heap.size _ _ _ _ _ _) (by show w1.heap.size < (w1.alloc _).heap.size; simp)).mono (by show w1.heap.size <= (w1.alloc _).heap.size; simp)
end Go.Proofs.YtmoenmpbkockoaaGreat
namespace Go.Proofs.YtmoenmpbkockoaaGreat
open Go.RowKit
def AnsVb (w : World) (E : Int) (t : Sl) (e : Ending) (w' : World) : Prop := ∃ ao ca, e = .returned (.tuple #[.slice ao (lenE E t.vn) ca, .bool (decide (E = 0 /\ t.ce ≠ 0)), .int .i64 E]) /\ Own w.heap.size w' ao (lenE E t.vn) ca t.V /\ Below w.heap.size w w'
set_option maxHeartbeats 4000000 in
set_option maxRecDepth 100000 in
theorem Vector_any {k r c q : Int} {N W : Nat} {x : Int} (h : Par k r c q N W x) (w : World) (ro : Option Addr) (rn rc : Nat) (A : Nat -> Option Addr) (L C : Nat -> Nat) (F : Nat -> Nat -> UInt8) (hr : Rw w ro rn A L C F) (kd : UInt8) (v : Int) (E : Int) (hE : erK x N c rn L kd v = E) (t : Sl) (ht : tS (yy N c L F) kd v (2 * N) = t) :
    Calls Tryz.prog 71 #[.agg #[.int .i64 k, .int .i64 r, .int .i64 c, .int .i64 q], .slice ro rn rc, .int .u8 ((kd.toNat : Nat) : Int), .int .i64 v] w (AnsVb w E t) := by
  have HA : Hid (∀ u, Below w.heap.size w u -> Calls Tryz.prog 130 #[.agg #[.int .i64 k, .int .i64 r, .int .i64 c, .int .i64 q], .slice ro rn rc, .int .u8 ((kd.toNat : Nat) : Int), .int .i64 v] u fun e w' => e = .returned (.tuple #[if E = 0 then stv k r c q ro rn rc kd else stz, .int .i64 E]) /\ Below u.heap.size u w') := fun u hu => asked_any h u ro rn rc A L C F (hr.below hu) kd v E hE
  obtain ⟨w0, hw0⟩ : ∃ w0, w0 = w.alloc (.cells #[.int .i64 k, .int .i64 r, .int .i64 c, .int .i64 q] 23) := ⟨_, rfl⟩
  have B0 : Hid (Below w.heap.size w w0) := by show Below _ _ _; rw [hw0]; exact below_alloc _ _
  unfold AnsVb
  by_cases he : E = 0
  · subst he
    obtain ⟨hR, hk, _⟩ := erK_zero hE
    obtain ⟨rfl, rfl, hL⟩ := erR_zero hR
    have HV : Hid (∀ u, Below w.heap.size w u -> Calls Tryz.prog 119 #[stv k r c q ro rn rc kd, .int .i64 v] u (AnsV u t)) := fun u hu => vector_any h u ro rc A L C F (hr.below hu) hL kd hk v t ht
    rw [if_pos rfl] at HA
    have ht0 : t.ce = 0 -> t = zSl := fun e => by
      rcases tS_is (v := v) hk (yy_ok rn c L F) (2 * rn) (Nat.le_refl _) with ⟨a, _⟩ | ⟨j, _, a2, _, a4, _⟩
      · rw [<- ht]; exact a
      · rw [ht] at a2; rw [a2] at e; exact absurd e (ok_of a4.1).ne
    rw [show lenE 0 t.vn = t.vn from rfl]
    clear h hr hE hR hL hk ht
    unfold stv at HA HV
    by_cases h0 : t.ce = 0
    · obtain rfl := ht0 h0
      rw [show decide ((0 : Int) = 0 /\ zSl.ce ≠ 0) = false from rfl, show zSl.vn = 0 from rfl]
      clear ht0 h0
      go_enter Tryz.func71, Tryz.ntmps71
      go_wp2_with fail
      rw [<- hw0]
      clear hw0
      refine (HA.out _ B0.out).mono ?_
      rintro e wa ⟨rfl, ha⟩
      obtain ⟨w2, hw2⟩ : ∃ w2, w2 = wa.alloc (.cells #[.int .i64 k, .int .i64 r, .int .i64 c, .int .i64 q, .slice ro rn rc, .int .u8 ((kd.toNat : Nat) : Int)] 151) := ⟨_, rfl⟩
      have B2 : Hid (Below w.heap.size w w2) := by show Below _ _ _; rw [hw2]; exact below_then (below_then B0.out ha) (below_alloc _ _)
      clear ha
      go_wp2_with fail
      rw [<- hw2]
      clear hw2
      refine (HV.out _ B2.out).mono ?_
      rintro e wf ⟨ao, ca, rfl, hown, hnil, hb⟩
      have HO : Hid (Own w.heap.size wf ao 0 ca zSl.V) := hown.mono B2.out.size
      have HBF : Hid (Below w.heap.size w wf) := below_then B2.out hb
      obtain rfl : ao = none := hnil.2 rfl
      obtain ⟨_, rfl⟩ := hown.vec.nil rfl
      have hq := neqv_no
      clear hown hnil hb
      go_wp2_with fail
      refine bodyPost_ret (v := .tuple #[.slice none 0 0, .bool false, .int .i64 0]) (by simp [results, Tryz.results71, go_sem]) rfl ?_
      exact ⟨none, 0, rfl, HO.out, HBF.out⟩
    · rw [show decide ((0 : Int) = 0 /\ t.ce ≠ 0) = true from decide_eq_true ⟨rfl, h0⟩]
      clear ht0
      go_enter Tryz.func71, Tryz.ntmps71
      go_wp2_with fail
      rw [<- hw0]
      clear hw0
      refine (HA.out _ B0.out).mono ?_
      rintro e wa ⟨rfl, ha⟩
      obtain ⟨w2, hw2⟩ : ∃ w2, w2 = wa.alloc (.cells #[.int .i64 k, .int .i64 r, .int .i64 c, .int .i64 q, .slice ro rn rc, .int .u8 ((kd.toNat : Nat) : Int)] 151) := ⟨_, rfl⟩
      have B2 : Hid (Below w.heap.size w w2) := by show Below _ _ _; rw [hw2]; exact below_then (below_then B0.out ha) (below_alloc _ _)
      clear ha
      go_wp2_with fail
      rw [<- hw2]
      clear hw2
      refine (HV.out _ B2.out).mono ?_
      rintro e wf ⟨ao, ca, rfl, hown, hnil, hb⟩
      have HO : Hid (Own w.heap.size wf ao t.vn ca t.V) := hown.mono B2.out.size
      have HBF : Hid (Below w.heap.size w wf) := below_then B2.out hb
      obtain ⟨a, rfl⟩ : ∃ a, ao = some a := by
        cases ao with
        | none => exact absurd (hnil.1 rfl) h0
        | some a => exact ⟨a, rfl⟩
      have hq := neqv_yes
      clear hown hnil hb h0
      go_wp2_with fail
      refine bodyPost_ret (v := .tuple #[.slice (some a) t.vn ca, .bool true, .int .i64 0]) (by simp [results, Tryz.results71, go_sem]) rfl ?_
      exact ⟨some a, ca, rfl, HO.out, HBF.out⟩
  · rw [if_neg he] at HA
    have e1 : (E != 0) = true := by simp [he]
    have hd : decide (E = 0 /\ t.ce ≠ 0) = false := decide_eq_false fun a => he a.1
    rw [show lenE E t.vn = 0 from if_neg he, hd]
    clear h hr hE hd
    unfold stz at HA
    go_enter Tryz.func71, Tryz.ntmps71
    go_wp2_with fail
    rw [<- hw0]
    clear hw0
    refine (HA.out _ B0.out).mono ?_
    rintro e wa ⟨rfl, ha⟩
    go_wp2_with fail
    refine bodyPost_ret (v := .tuple #[.slice none 0 0, .bool false, .int .i64 E]) (by simp [results, Tryz.results71, go_sem]) rfl ?_
    exact ⟨none, 0, rfl, own_nil _ _ _, below_then (below_then B0.out ha) (below_alloc _ _)⟩
end Go.Proofs.YtmoenmpbkockoaaGreat
namespace Go.Proofs.YtmoenmpbkockoaaGreat
open Go.RowKit
def zq (N : Nat) (c : Int) (L : Nat -> Nat) (F : Nat -> Nat -> UInt8) (j : Nat) : Sl := slQ (isS N c (L j) (F j)) N c (F j)
theorem yq {N : Nat} {c : Int} {L : Nat -> Nat} {F : Nat -> Nat -> UInt8} (j : Nat) : yy N c L F j = zSl \/ (isS N c (L j) (F j) = true /\ yy N c L F j = zq N c L F j) := by
  rcases he_is N c ((j / 2 : Nat) : Int) (L j) (F j) with h | ⟨_, _, h, e⟩
  · exact .inl h
  · refine .inr ⟨h, e.trans ?_⟩
    unfold zq slQ; rw [h, if_pos rfl]
theorem rows_set {N d : Nat} (T : Nat -> Option Addr) (L U : Nat -> Nat) (a : Option Addr) (l u : Nat) : (Cod.rowsOf N T L U).set d (.slice a l u) = Cod.rowsOf N (Cod.put d a T) (Cod.put d l L) (Cod.put d u U) := by
  apply List.ext_getElem?
  intro i
  rw [List.getElem?_set]
  by_cases hi : i < N
  · rw [Cod.rowsOf_get N (Cod.put d a T) _ _ i hi]
    by_cases e : d = i
    · subst e; rw [if_pos rfl, if_pos (by rw [Cod.rowsOf_length]; exact hi), Cod.put_at, Cod.put_at, Cod.put_at]
    · rw [if_neg e, Cod.rowsOf_get _ _ _ _ _ hi, Cod.put_ne _ _ (fun h => e h.symm), Cod.put_ne _ _ (fun h => e h.symm), Cod.put_ne _ _ (fun h => e h.symm)]
  · have h1 : (Cod.rowsOf N (Cod.put d a T) (Cod.put d l L) (Cod.put d u U))[i]? = none := List.getElem?_eq_none (by rw [Cod.rowsOf_length]; omega)
    rw [h1]
    by_cases e : d = i
    · subst e; rw [if_pos rfl, if_neg (by rw [Cod.rowsOf_length]; exact hi)]
    · rw [if_neg e, List.getElem?_eq_none (by rw [Cod.rowsOf_length]; omega)]
theorem made_rows (n : Nat) : madeCells #[Value.slice none 0 0] n = (Cod.rowsOf n (fun _ => none) (fun _ => 0) (fun _ => 0)).toArray := by
  apply Array.ext'
  unfold Cod.rowsOf madeCells
  apply List.ext_getElem?
  intro i
  by_cases h : i < n
  · simp [h, Nat.mod_one]
  · simp [h]
theorem put_dn (i : Nat) (y : Sl) (Z : Nat -> Sl) : (fun j => (Cod.put i y Z j).dn) = Cod.put i y.dn (fun j => (Z j).dn) := funext fun j => by
  unfold Cod.put; split <;> rfl
theorem int_beq2 (a b : Int) : (a == b) = decide (a = b) := by
  by_cases h : a = b
  · rw [decide_eq_true h]; simpa using h
  · rw [decide_eq_false h]; simpa using h
def sdT (Y : Nat -> Sl) (kd : UInt8) (t : Sl) (s i : Nat) : Sl := if 2 <= s /\ hB (Y (2 * i)) kd (t.V i) = true then Y (2 * i) else if 1 <= s /\ hB (Y (2 * i + 1)) kd (t.V i) = true then Y (2 * i + 1) else zSl
def sdZ (Y : Nat -> Sl) (kd : UInt8) (t : Sl) (i s j : Nat) : Sl := if j < i then sdT Y kd t 2 j else if j = i then sdT Y kd t s j else zSl
theorem sdZ_next (Y : Nat -> Sl) (kd : UInt8) (t : Sl) (i : Nat) : sdZ Y kd t i 2 = sdZ Y kd t (i + 1) 0 := funext fun j => by
  have h0 : ∀ u, sdT Y kd t 0 u = zSl := fun u => by unfold sdT; rw [if_neg (fun a => by omega), if_neg (fun a => by omega)]
  unfold sdZ
  by_cases a : j < i
  · rw [if_pos a, if_pos (by omega)]
  · rw [if_neg a]
    by_cases b : j = i
    · rw [if_pos b, if_pos (by omega)]
    · rw [if_neg b, if_neg (by omega)]
      by_cases d : j = i + 1
      · rw [if_pos d, h0]
      · rw [if_neg d]
theorem sdZ_zero (Y : Nat -> Sl) (kd : UInt8) (t : Sl) : sdZ Y kd t 0 0 = fun _ => zSl := funext fun j => by
  unfold sdZ sdT
  rw [if_neg (by omega)]
  by_cases b : j = 0
  · rw [if_pos b, if_neg (fun a => by omega), if_neg (fun a => by omega)]
  · rw [if_neg b]
theorem sdZ_take {Y : Nat -> Sl} {kd : UInt8} {t : Sl} {i s : Nat} (hs : s < 2) (h : hB (Y (2 * i + (1 - s))) kd (t.V i) = true) : sdZ Y kd t i (s + 1) = Cod.put i (Y (2 * i + (1 - s))) (sdZ Y kd t i s) := funext fun j => by
  by_cases b : j = i
  · rw [b, Cod.put_at]
    unfold sdZ sdT
    rw [if_neg (Nat.lt_irrefl i), if_pos rfl]
    rcases (show s = 0 \/ s = 1 by omega) with rfl | rfl
    · rw [if_neg (fun a => by omega), if_pos ⟨by omega, h⟩]
    · rw [if_pos ⟨by omega, h⟩]; rfl
  · rw [Cod.put_ne _ _ b]
    unfold sdZ
    by_cases a : j < i
    · rw [if_pos a, if_pos a]
    · rw [if_neg a, if_neg a, if_neg b, if_neg b]
theorem sdZ_skip {Y : Nat -> Sl} {kd : UInt8} {t : Sl} {i s : Nat} (hs : s < 2) (h : hB (Y (2 * i + (1 - s))) kd (t.V i) = false) : sdZ Y kd t i (s + 1) = sdZ Y kd t i s := funext fun j => by
  unfold sdZ
  by_cases a : j < i
  · rw [if_pos a, if_pos a]
  · rw [if_neg a, if_neg a]
    by_cases b : j = i
    · rw [if_pos b, if_pos b, b]
      unfold sdT
      rcases (show s = 0 \/ s = 1 by omega) with rfl | rfl
      · have h' : hB (Y (2 * i + 1)) kd (t.V i) = false := h
        rw [if_neg (fun a => by omega), if_neg (fun a => by rw [h'] at a; cases a.2), if_neg (fun a => by omega), if_neg (fun a => by omega)]
      · have h' : hB (Y (2 * i)) kd (t.V i) = false := h
        rw [if_neg (fun a => by rw [h'] at a; cases a.2), if_neg (fun a : 2 <= 1 /\ _ => by omega)]
        by_cases d : hB (Y (2 * i + 1)) kd (t.V i) = true
        · rw [if_pos ⟨by omega, d⟩, if_pos ⟨by omega, d⟩]
        · rw [if_neg (fun a => d a.2), if_neg (fun a => d a.2)]
    · rw [if_neg b, if_neg b]
theorem sdT_zz {Y : Nat -> Sl} {kd : UInt8} {t : Sl} (h : t.ce ≠ 0) (i : Nat) : sdT Y kd t 2 i = zz Y kd t i := by
  unfold sdT zz fZ
  rw [if_neg h]
  by_cases a : hB (Y (2 * i)) kd (t.V i) = true
  · rw [if_pos ⟨Nat.le_refl _, a⟩, if_pos a]
  · rw [if_neg (fun e => a e.2), if_neg a]
    by_cases b : hB (Y (2 * i + 1)) kd (t.V i) = true
    · rw [if_pos ⟨by omega, b⟩, if_pos b]
    · rw [if_neg (fun e => b e.2), if_neg b]
theorem yy_is {N : Nat} {c : Int} {L : Nat -> Nat} {F : Nat -> Nat -> UInt8} {kd : UInt8} (hk : kd = 1 \/ kd = 2) (j : Nat) : (yy N c L F j).kd = kd ↔ (isS N c (L j) (F j) = true /\ (zq N c L F j).kd = kd /\ (zq N c L F j).ix = ((j / 2 : Nat) : Int)) := by
  rcases he_is N c ((j / 2 : Nat) : Int) (L j) (F j) with h | ⟨_, hix, h, e⟩
  · have h' : yy N c L F j = zSl := h
    rw [h']
    constructor
    · intro e; rcases hk with rfl | rfl <;> exact absurd e (by decide)
    · rintro ⟨a, b, d⟩
      unfold he at h
      rw [if_pos rfl] at h
      unfold zq at b d
      unfold ofI at h
      rw [if_pos d] at h
      rw [h] at b
      exact b
  · have h' : yy N c L F j = zq N c L F j := by
      show he 0 N c ((j / 2 : Nat) : Int) (L j) (F j) = _
      rw [e]; unfold zq slQ; rw [h, if_pos rfl]
    have hix' : (zq N c L F j).ix = ((j / 2 : Nat) : Int) := by rw [<- h']; exact hix
    rw [h']
    exact ⟨fun a => ⟨h, a, hix'⟩, fun a => a.2.1⟩
theorem yy_zq {N : Nat} {c : Int} {L : Nat -> Nat} {F : Nat -> Nat -> UInt8} {kd : UInt8} (hk : kd = 1 \/ kd = 2) {j : Nat} (h : (yy N c L F j).kd = kd) : yy N c L F j = zq N c L F j := by
  rcases yq (N := N) (c := c) (L := L) (F := F) j with e | ⟨_, e⟩
  · rw [e] at h; rcases hk with rfl | rfl <;> exact absurd h (by decide)
  · exact e
set_option maxHeartbeats 1000000 in
set_option maxRecDepth 100000 in
theorem same_any (w : World) (ao bo : Option Addr) (n ca cb : Nat) (R V : Nat -> Int) (ha : Vec w ao n ca R) (hb : Vec w bo n cb V) (hn : n <= 1000) :
    Calls Tryz.prog 72 #[.slice ao n ca, .slice bo n cb] w fun e w' => e = .returned (.bool (decide (∀ l, l < n -> R l = V l))) /\ Below w.heap.size w w' := by
  have HA : Hid (Vec w ao n ca R) := ha
  have HB : Hid (Vec w bo n cb V) := hb
  clear ha hb
  have e1 : ((n : Int) != (n : Int)) = false := by simp
  go_enter Tryz.func72, Tryz.ntmps72
  go_wp2_with fail
  go_loopw [5] (fun y wr => ∃ i : Nat, i <= n /\ y = .int .i64 (i : Int) /\ Hid (∀ l, l < i -> R l = V l) /\ Hid (Below w.heap.size w wr)) (fun y _ => n - (intOf y).toNat)
  case atStart => exact ⟨0, Nat.zero_le _, rfl, fun l h => absurd h (Nat.not_lt_zero _), Below.refl _ _⟩
  case round =>
    obtain ⟨i, hi, rfl, hs, hw⟩ := hrel
    by_cases hlt : i < n
    · obtain ⟨b1, o1, rfl, h1⟩ := (HA.out.below hw.out).rd (by omega)
      obtain ⟨b2, o2, rfl, h2⟩ := (HB.out.below hw.out).rd (by omega)
      have c1 := h1 i hlt
      have c2 := h2 i hlt
      obtain ⟨x, hx⟩ : ∃ x, x = R i := ⟨_, rfl⟩
      obtain ⟨y, hy⟩ : ∃ y, y = V i := ⟨_, rfl⟩
      rw [<- hx] at c1
      rw [<- hy] at c2
      have i1 : (0 : Int) <= (i : Int) := by omega
      have i2 : (i : Int) < (n : Int) := by omega
      have HW : Hid (Below w.heap.size w wr) := hw.out
      have HXY : Hid (x = R i /\ y = V i) := ⟨hx, hy⟩
      clear h1 h2 hw hx hy
      by_cases hxy : x = y
      · subst hxy
        go_wp2_with fail
        go_big_quiet (fail)
        have HBq : Hid (Below w.heap.size w (wr.drewN nq)) := below_then HW.out (below_drewN _ _ _)
        clear c1 c2
        go_wp2_with fail
        go_roundw
        case rel => exact ⟨i + 1, by omega, by go_num, fun l hl => by
          rcases Nat.lt_succ_iff_lt_or_eq.1 hl with g | g
          · exact hs.out l g
          · subst g; rw [<- HXY.out.1]; exact HXY.out.2, HBq⟩
        case measure => simp [intOf]; omega
      · have HN : Hid (¬ x = y) := hxy
        have hz : (x != y) = true := by simpa using hxy
        go_wp2_with fail
        go_big_quiet (fail)
        have HBq : Hid (Below w.heap.size w (wr.drewN nq)) := below_then HW.out (below_drewN _ _ _)
        clear c1 c2
        go_wp2_with fail
        go_ret
        refine ⟨ret_bool (decide_eq_false fun h => HN.out ?_).symm, HBq.out⟩
        rw [HXY.out.1, HXY.out.2]; exact h i hlt
    · have hlt2 : ¬ ((i : Int) < (n : Int)) := by omega
      go_wp2_with fail
      go_ret
      exact ⟨ret_bool (decide_eq_true fun l hl => hs.out l (by omega)).symm, hw.out⟩
end Go.Proofs.YtmoenmpbkockoaaGreat
