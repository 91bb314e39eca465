import Derived.Test.YtemlojjkokooeaaGreatTk
import Derived.Test.YtemlojjkokooeaaGreatSj15
set_option maxHeartbeats 8000000
set_option maxRecDepth 100000
namespace Go.Proofs.YtemlojjkokooeaaGreat
open Go.RowKit
def mops : Array Oper := #[{ dst := some 6, op := .fieldAddr 107 (.tmp 3) 0, type := 0, pos := "ref.go:37", after := #[], guard := none }, { dst := some 7, op := .load 5 (.tmp 6), type := 5, pos := "ref.go:37", after := #[{ on := 0, ground := .data }], guard := none }, { dst := some 8, op := .binOp BinOp.neq 5 (.tmp 7) (.const (.int .u8 1)) 5, type := 4, pos := "ref.go:37", after := #[{ on := 1, ground := .data }], guard := none }, { dst := some 9, op := .move (.tmp 8), type := 4, pos := "ref.go:37", after := #[{ on := 2, ground := .data }], guard := none }, { dst := some 10, op := .fieldAddr 107 (.tmp 3) 0, type := 0, pos := "ref.go:37", after := #[{ on := 3, ground := Ground.guard }], guard := some (3, true) }, { dst := some 11, op := .load 5 (.tmp 10), type := 5, pos := "ref.go:37", after := #[{ on := 4, ground := .data }, { on := 3, ground := Ground.guard }], guard := some (3, true) }, { dst := some 12, op := .binOp BinOp.neq 5 (.tmp 11) (.const (.int .u8 2)) 5, type := 4, pos := "ref.go:37", after := #[{ on := 5, ground := .data }, { on := 3, ground := Ground.guard }], guard := some (3, true) }, { dst := some 13, op := .pick (.tmp 9) (.tmp 12) (.const (Value.bool false)), type := 4, pos := "ref.go:37", after := #[{ on := 3, ground := .data }, { on := 6, ground := .data }], guard := none }, { dst := some 14, op := .move (.tmp 13), type := 4, pos := "ref.go:37", after := #[{ on := 7, ground := .data }, { on := 3, ground := .chain }], guard := none }, { dst := some 15, op := .fieldAddr 107 (.tmp 3) 1, type := 0, pos := "ref.go:37", after := #[{ on := 8, ground := Ground.guard }], guard := some (8, false) }, { dst := some 16, op := .load 3 (.tmp 15), type := 3, pos := "ref.go:37", after := #[{ on := 9, ground := .data }, { on := 8, ground := Ground.guard }], guard := some (8, false) }, { dst := some 17, op := .binOp BinOp.lss 3 (.tmp 16) (.const (.int .i64 0)) 3, type := 4, pos := "ref.go:37", after := #[{ on := 10, ground := .data }, { on := 8, ground := Ground.guard }], guard := some (8, false) }, { dst := some 18, op := .pick (.tmp 14) (.const (Value.bool true)) (.tmp 17), type := 4, pos := "ref.go:37", after := #[{ on := 8, ground := .data }, { on := 11, ground := .data }], guard := none }, { dst := some 19, op := .move (.tmp 18), type := 4, pos := "ref.go:37", after := #[{ on := 12, ground := .data }, { on := 8, ground := .chain }], guard := none }, { dst := some 20, op := .fieldAddr 107 (.tmp 3) 1, type := 0, pos := "ref.go:37", after := #[{ on := 13, ground := Ground.guard }], guard := some (13, false) }, { dst := some 21, op := .load 3 (.tmp 20), type := 3, pos := "ref.go:37", after := #[{ on := 14, ground := .data }, { on := 13, ground := Ground.guard }], guard := some (13, false) }, { dst := some 22, op := .load 23 (.tmp 2), type := 23, pos := "ref.go:37", after := #[{ on := 13, ground := Ground.guard }], guard := some (13, false) }, { dst := some 23, op := .call { callee := .value (.func 111), args := #[.tmp 22], argTypes := #[23] }, type := 3, pos := "ref.go:37", after := #[{ on := 16, ground := .data }, { on := 13, ground := .chain }, { on := 13, ground := Ground.guard }], guard := some (13, false) }, { dst := some 24, op := .binOp BinOp.geq 3 (.tmp 21) (.tmp 23) 3, type := 4, pos := "ref.go:37", after := #[{ on := 15, ground := .data }, { on := 17, ground := .data }, { on := 13, ground := Ground.guard }], guard := some (13, false) }, { dst := some 25, op := .pick (.tmp 19) (.const (Value.bool true)) (.tmp 24), type := 4, pos := "ref.go:37", after := #[{ on := 13, ground := .data }, { on := 18, ground := .data }], guard := none }, { dst := some 26, op := .move (.tmp 25), type := 4, pos := "ref.go:37", after := #[{ on := 19, ground := .data }, { on := 17, ground := .chain }], guard := none }, { dst := some 27, op := .fieldAddr 107 (.tmp 3) 5, type := 0, pos := "ref.go:37", after := #[{ on := 20, ground := Ground.guard }], guard := some (20, false) }, { dst := some 28, op := .load 36 (.tmp 27), type := 36, pos := "ref.go:37", after := #[{ on := 21, ground := .data }, { on := 20, ground := Ground.guard }], guard := some (20, false) }, { dst := some 29, op := .call { callee := Callee.builtin Builtin.len, args := #[.tmp 28], argTypes := #[36] }, type := 3, pos := "ref.go:37", after := #[{ on := 22, ground := .data }, { on := 20, ground := Ground.guard }], guard := some (20, false) }, { dst := some 30, op := .fieldAddr 23 (.tmp 2) 2, type := 0, pos := "ref.go:37", after := #[{ on := 20, ground := Ground.guard }], guard := some (20, false) }, { dst := some 31, op := .load 3 (.tmp 30), type := 3, pos := "ref.go:37", after := #[{ on := 24, ground := .data }, { on := 20, ground := Ground.guard }], guard := some (20, false) }, { dst := some 32, op := .binOp BinOp.neq 3 (.tmp 29) (.tmp 31) 3, type := 4, pos := "ref.go:37", after := #[{ on := 23, ground := .data }, { on := 25, ground := .data }, { on := 20, ground := Ground.guard }], guard := some (20, false) }, { dst := some 33, op := .pick (.tmp 26) (.const (Value.bool true)) (.tmp 32), type := 4, pos := "ref.go:37", after := #[{ on := 20, ground := .data }, { on := 26, ground := .data }], guard := none }]
theorem may_1big {pv sv u : Value} (w1 : World) (k r c q : Int) (g N t _vn _ca dn cb : Nat) (_ce _st : Int) (_ao bo : Option Addr)
  (hS : ∀ v, Below w1.heap.size w1 v -> (v.cell? ⟨g, 0, none⟩ = some (.int .i64 k) /\ v.cell? ⟨g, 1, none⟩ = some (.int .i64 r) /\ v.cell? ⟨g, 2, none⟩ = some (.int .i64 c) /\ v.cell? ⟨g, 3, none⟩ = some (.int .i64 q) /\ v.cell? ⟨g + 1, 0, none⟩ = some (.int .u8 1) /\ v.cell? ⟨g + 1, 1, none⟩ = some (.int .i64 (t : Int)) /\ v.cell? ⟨g + 1, 5, none⟩ = some (.slice bo dn cb)))
  (HN : ∀ w, Calls Tryz.prog 111 #[.agg #[.int .i64 k, .int .i64 r, .int .i64 c, .int .i64 q]] w fun e w' => e = .returned (.int .i64 (N : Int)) /\ Below w.heap.size w w') (h1 : N <= t)
  (Q : Exit -> Act -> World -> Prop) (hQp : ∀ ch a v, Q (.panic ch) a v -> False) (hQ : ∀ wa, Below w1.heap.size w1 wa -> Q .normal { tmps := #[pv, sv, .pointer (some ⟨g, 0, none⟩), .pointer (some ⟨g + 1, 0, none⟩), .bool false, u, .pointer (some ⟨g + 1, 0, none⟩), .int .u8 1, .bool false, .bool false, undef, undef, undef, .bool false, .bool false, .pointer (some ⟨g + 1, 1, none⟩), .int .i64 (t : Int), .bool false, .bool false, .bool false, .pointer (some ⟨g + 1, 1, none⟩), .int .i64 (t : Int), .agg #[.int .i64 k, .int .i64 r, .int .i64 c, .int .i64 q], .int .i64 (N : Int), .bool true, .bool true, .bool true, undef, undef, undef, undef, undef, undef, .bool true, u, u, u, u, u, u, u, u, u, u, u, u, u, u, u, u, u, u, u, u, u, u, u], defers := [] } wa) :
  Code.wp Tryz.prog (Code.region 1 mops true) Q { tmps := #[pv, sv, .pointer (some ⟨g, 0, none⟩), .pointer (some ⟨g + 1, 0, none⟩), .bool false, u, u, u, u, u, u, u, u, u, u, u, u, u, u, u, u, u, u, u, u, u, u, u, u, u, u, u, u, u, u, u, u, u, u, u, u, u, u, u, u, u, u, u, u, u, u, u, u, u, u, u, u], defers := [] } w1 := by
 have HQ : Hid _ := hQ
 obtain ⟨S, HS1, HS⟩ : ∃ S : World -> Prop, Hid (∀ v, S v -> (v.cell? ⟨g, 0, none⟩ = some (.int .i64 k) /\ v.cell? ⟨g, 1, none⟩ = some (.int .i64 r) /\ v.cell? ⟨g, 2, none⟩ = some (.int .i64 c) /\ v.cell? ⟨g, 3, none⟩ = some (.int .i64 q) /\ v.cell? ⟨g + 1, 0, none⟩ = some (.int .u8 1) /\ v.cell? ⟨g + 1, 1, none⟩ = some (.int .i64 (t : Int)) /\ v.cell? ⟨g + 1, 5, none⟩ = some (.slice bo dn cb))) /\ Hid (∀ v, Below w1.heap.size w1 v -> S v) := ⟨fun v => v.cell? ⟨g, 0, none⟩ = some (.int .i64 k) /\ v.cell? ⟨g, 1, none⟩ = some (.int .i64 r) /\ v.cell? ⟨g, 2, none⟩ = some (.int .i64 c) /\ v.cell? ⟨g, 3, none⟩ = some (.int .i64 q) /\ v.cell? ⟨g + 1, 0, none⟩ = some (.int .u8 1) /\ v.cell? ⟨g + 1, 1, none⟩ = some (.int .i64 (t : Int)) /\ v.cell? ⟨g + 1, 5, none⟩ = some (.slice bo dn cb), fun v h => h, hS⟩
 clear hS hQ
 have j4 : ¬ (t : Int) < 0 := by omega
 have j5 : (N : Int) <= (t : Int) := by omega
 refine wp_region_held_drew (S := S) (by kernel_rfl) (HS.out _ (below_drew _ _)) (fun hHeld => ?_)
 have hb : Below w1.heap.size w1 w1.drew := below_drew _ _
 rw [show mops.size = 28 from by kernel_rfl, show Array.replicate 28 false = #[false, false, false, false, false, false, false, false, false, false, false, false, false, false, false, false, false, false, false, false, false, false, false, false, false, false, false, false] from by kernel_rfl]
 refine tkq hQp HS1 0 { dst := some 6, op := .fieldAddr 107 (.tmp 3) 0, type := 0, pos := "ref.go:37", after := #[], guard := none } (.pointer (some ⟨g + 1, 0, none⟩)) (HS.out _ hb) ?_ ?_
 ·rintro w' ⟨s0, s1, s2, s3, s4, s5, s6⟩
  go_simp <;> first | with_reducible rfl | assumption
 refine tkq hQp HS1 1 { dst := some 7, op := .load 5 (.tmp 6), type := 5, pos := "ref.go:37", after := #[{ on := 0, ground := .data }], guard := none } (.int .u8 1) (HS.out _ hb) ?_ ?_
 ·rintro w' ⟨s0, s1, s2, s3, s4, s5, s6⟩
  go_simp <;> first | with_reducible rfl | assumption
 refine tkq hQp HS1 2 { dst := some 8, op := .binOp BinOp.neq 5 (.tmp 7) (.const (.int .u8 1)) 5, type := 4, pos := "ref.go:37", after := #[{ on := 1, ground := .data }], guard := none } (.bool false) (HS.out _ hb) ?_ ?_
 ·rintro w' ⟨s0, s1, s2, s3, s4, s5, s6⟩
  go_simp <;> first | with_reducible rfl | assumption
 refine tkq hQp HS1 3 { dst := some 9, op := .move (.tmp 8), type := 4, pos := "ref.go:37", after := #[{ on := 2, ground := .data }], guard := none } (.bool false) (HS.out _ hb) ?_ ?_
 ·rintro w' ⟨s0, s1, s2, s3, s4, s5, s6⟩
  go_simp <;> first | with_reducible rfl | assumption
 show wpAnyH Tryz.prog .any mops Q S 24 #[true, true, true, true, false, false, false, false, false, false, false, false, false, false, false, false, false, false, false, false, false, false, false, false, false, false, false, false] { tmps := #[pv, sv, .pointer (some ⟨g, 0, none⟩), .pointer (some ⟨g + 1, 0, none⟩), .bool false, u, .pointer (some ⟨g + 1, 0, none⟩), .int .u8 1, .bool false, .bool false, u, u, u, u, u, u, u, u, u, u, u, u, u, u, u, u, u, u, u, u, u, u, u, u, u, u, u, u, u, u, u, u, u, u, u, u, u, u, u, u, u, u, u, u, u, u, u], defers := [] } w1.drew
 refine wpAnyH_take (i := 4) (oi := { dst := some 10, op := .fieldAddr 107 (.tmp 3) 0, type := 0, pos := "ref.go:37", after := #[{ on := 3, ground := Ground.guard }], guard := some (3, true) }) (v := undef) rfl (by kernel_rfl) (by kernel_rfl) (by kernel_rfl) (fun _ _ _ h => (hQp _ _ _ h).elim) (Or.inr ⟨by kernel_rfl, rfl⟩) (HS.out _ hb) ?_
 refine wpAnyH_take (i := 5) (oi := { dst := some 11, op := .load 5 (.tmp 10), type := 5, pos := "ref.go:37", after := #[{ on := 4, ground := .data }, { on := 3, ground := Ground.guard }], guard := some (3, true) }) (v := undef) rfl (by kernel_rfl) (by kernel_rfl) (by kernel_rfl) (fun _ _ _ h => (hQp _ _ _ h).elim) (Or.inr ⟨by kernel_rfl, rfl⟩) (HS.out _ hb) ?_
 refine wpAnyH_take (i := 6) (oi := { dst := some 12, op := .binOp BinOp.neq 5 (.tmp 11) (.const (.int .u8 2)) 5, type := 4, pos := "ref.go:37", after := #[{ on := 5, ground := .data }, { on := 3, ground := Ground.guard }], guard := some (3, true) }) (v := undef) rfl (by kernel_rfl) (by kernel_rfl) (by kernel_rfl) (fun _ _ _ h => (hQp _ _ _ h).elim) (Or.inr ⟨by kernel_rfl, rfl⟩) (HS.out _ hb) ?_
 refine tkq hQp HS1 7 { dst := some 13, op := .pick (.tmp 9) (.tmp 12) (.const (Value.bool false)), type := 4, pos := "ref.go:37", after := #[{ on := 3, ground := .data }, { on := 6, ground := .data }], guard := none } (.bool false) (HS.out _ hb) ?_ ?_
 ·rintro w' ⟨s0, s1, s2, s3, s4, s5, s6⟩
  go_simp <;> first | with_reducible rfl | assumption
 show wpAnyH Tryz.prog .any mops Q S 20 #[true, true, true, true, true, true, true, true, false, false, false, false, false, false, false, false, false, false, false, false, false, false, false, false, false, false, false, false] { tmps := #[pv, sv, .pointer (some ⟨g, 0, none⟩), .pointer (some ⟨g + 1, 0, none⟩), .bool false, u, .pointer (some ⟨g + 1, 0, none⟩), .int .u8 1, .bool false, .bool false, undef, undef, undef, .bool false, u, u, u, u, u, u, u, u, u, u, u, u, u, u, u, u, u, u, u, u, u, u, u, u, u, u, u, u, u, u, u, u, u, u, u, u, u, u, u, u, u, u, u], defers := [] } w1.drew
 refine tkq hQp HS1 8 { dst := some 14, op := .move (.tmp 13), type := 4, pos := "ref.go:37", after := #[{ on := 7, ground := .data }, { on := 3, ground := .chain }], guard := none } (.bool false) (HS.out _ hb) ?_ ?_
 ·rintro w' ⟨s0, s1, s2, s3, s4, s5, s6⟩
  go_simp <;> first | with_reducible rfl | assumption
 refine tkq hQp HS1 9 { dst := some 15, op := .fieldAddr 107 (.tmp 3) 1, type := 0, pos := "ref.go:37", after := #[{ on := 8, ground := Ground.guard }], guard := some (8, false) } (.pointer (some ⟨g + 1, 1, none⟩)) (HS.out _ hb) ?_ ?_
 ·rintro w' ⟨s0, s1, s2, s3, s4, s5, s6⟩
  go_simp <;> first | with_reducible rfl | assumption
 refine tkq hQp HS1 10 { dst := some 16, op := .load 3 (.tmp 15), type := 3, pos := "ref.go:37", after := #[{ on := 9, ground := .data }, { on := 8, ground := Ground.guard }], guard := some (8, false) } (.int .i64 (t : Int)) (HS.out _ hb) ?_ ?_
 ·rintro w' ⟨s0, s1, s2, s3, s4, s5, s6⟩
  go_simp <;> first | with_reducible rfl | assumption
 refine tkq hQp HS1 11 { dst := some 17, op := .binOp BinOp.lss 3 (.tmp 16) (.const (.int .i64 0)) 3, type := 4, pos := "ref.go:37", after := #[{ on := 10, ground := .data }, { on := 8, ground := Ground.guard }], guard := some (8, false) } (.bool false) (HS.out _ hb) ?_ ?_
 ·rintro w' ⟨s0, s1, s2, s3, s4, s5, s6⟩
  go_simp <;> first | with_reducible rfl | assumption
 show wpAnyH Tryz.prog .any mops Q S 16 #[true, true, true, true, true, true, true, true, true, true, true, true, false, false, false, false, false, false, false, false, false, false, false, false, false, false, false, false] { tmps := #[pv, sv, .pointer (some ⟨g, 0, none⟩), .pointer (some ⟨g + 1, 0, none⟩), .bool false, u, .pointer (some ⟨g + 1, 0, none⟩), .int .u8 1, .bool false, .bool false, undef, undef, undef, .bool false, .bool false, .pointer (some ⟨g + 1, 1, none⟩), .int .i64 (t : Int), .bool false, u, u, u, u, u, u, u, u, u, u, u, u, u, u, u, u, u, u, u, u, u, u, u, u, u, u, u, u, u, u, u, u, u, u, u, u, u, u, u], defers := [] } w1.drew
 refine tkq hQp HS1 12 { dst := some 18, op := .pick (.tmp 14) (.const (Value.bool true)) (.tmp 17), type := 4, pos := "ref.go:37", after := #[{ on := 8, ground := .data }, { on := 11, ground := .data }], guard := none } (.bool false) (HS.out _ hb) ?_ ?_
 ·rintro w' ⟨s0, s1, s2, s3, s4, s5, s6⟩
  go_simp <;> first | with_reducible rfl | assumption
 refine tkq hQp HS1 13 { dst := some 19, op := .move (.tmp 18), type := 4, pos := "ref.go:37", after := #[{ on := 12, ground := .data }, { on := 8, ground := .chain }], guard := none } (.bool false) (HS.out _ hb) ?_ ?_
 ·rintro w' ⟨s0, s1, s2, s3, s4, s5, s6⟩
  go_simp <;> first | with_reducible rfl | assumption
 refine tkq hQp HS1 14 { dst := some 20, op := .fieldAddr 107 (.tmp 3) 1, type := 0, pos := "ref.go:37", after := #[{ on := 13, ground := Ground.guard }], guard := some (13, false) } (.pointer (some ⟨g + 1, 1, none⟩)) (HS.out _ hb) ?_ ?_
 ·rintro w' ⟨s0, s1, s2, s3, s4, s5, s6⟩
  go_simp <;> first | with_reducible rfl | assumption
 refine tkq hQp HS1 15 { dst := some 21, op := .load 3 (.tmp 20), type := 3, pos := "ref.go:37", after := #[{ on := 14, ground := .data }, { on := 13, ground := Ground.guard }], guard := some (13, false) } (.int .i64 (t : Int)) (HS.out _ hb) ?_ ?_
 ·rintro w' ⟨s0, s1, s2, s3, s4, s5, s6⟩
  go_simp <;> first | with_reducible rfl | assumption
 show wpAnyH Tryz.prog .any mops Q S 12 #[true, true, true, true, true, true, true, true, true, true, true, true, true, true, true, true, false, false, false, false, false, false, false, false, false, false, false, false] { tmps := #[pv, sv, .pointer (some ⟨g, 0, none⟩), .pointer (some ⟨g + 1, 0, none⟩), .bool false, u, .pointer (some ⟨g + 1, 0, none⟩), .int .u8 1, .bool false, .bool false, undef, undef, undef, .bool false, .bool false, .pointer (some ⟨g + 1, 1, none⟩), .int .i64 (t : Int), .bool false, .bool false, .bool false, .pointer (some ⟨g + 1, 1, none⟩), .int .i64 (t : Int), u, u, u, u, u, u, u, u, u, u, u, u, u, u, u, u, u, u, u, u, u, u, u, u, u, u, u, u, u, u, u, u, u, u, u], defers := [] } w1.drew
 refine tkq hQp HS1 16 { dst := some 22, op := .load 23 (.tmp 2), type := 23, pos := "ref.go:37", after := #[{ on := 13, ground := Ground.guard }], guard := some (13, false) } (.agg #[.int .i64 k, .int .i64 r, .int .i64 c, .int .i64 q]) (HS.out _ hb) ?_ ?_
 ·rintro w' ⟨s0, s1, s2, s3, s4, s5, s6⟩
  go_simp <;> first | with_reducible rfl | assumption
 show wpAnyH Tryz.prog .any mops Q S 11 #[true, true, true, true, true, true, true, true, true, true, true, true, true, true, true, true, true, false, false, false, false, false, false, false, false, false, false, false] { tmps := #[pv, sv, .pointer (some ⟨g, 0, none⟩), .pointer (some ⟨g + 1, 0, none⟩), .bool false, u, .pointer (some ⟨g + 1, 0, none⟩), .int .u8 1, .bool false, .bool false, undef, undef, undef, .bool false, .bool false, .pointer (some ⟨g + 1, 1, none⟩), .int .i64 (t : Int), .bool false, .bool false, .bool false, .pointer (some ⟨g + 1, 1, none⟩), .int .i64 (t : Int), .agg #[.int .i64 k, .int .i64 r, .int .i64 c, .int .i64 q], u, u, u, u, u, u, u, u, u, u, u, u, u, u, u, u, u, u, u, u, u, u, u, u, u, u, u, u, u, u, u, u, u, u], defers := [] } w1.drew
 refine wpAnyH_ready (rs := [17]) (by kernel_rfl) (by simp) ?_
 refine AllReadyH.cons (o := { dst := some 23, op := .call { callee := .value (.func 111), args := #[.tmp 22], argTypes := #[23] }, type := 3, pos := "ref.go:37", after := #[{ on := 16, ground := .data }, { on := 13, ground := .chain }, { on := 13, ground := Ground.guard }], guard := some (13, false) }) rfl (fun K hK => ?_) AllReadyH.nil
 go_simp
 refine (HN _).mono ?_
 rintro e wa ⟨rfl, ha⟩
 refine hK.out _ _ (HS.out _ (below_then hb ha)) (fun hHeld2 => ?_)
 replace hb : Below w1.heap.size w1 wa := (below_then hb ha)
 clear hK K hHeld
 have hHeld := hHeld2
 clear hHeld2
 show wpAnyH Tryz.prog .any mops Q S 10 #[true, true, true, true, true, true, true, true, true, true, true, true, true, true, true, true, true, true, false, false, false, false, false, false, false, false, false, false] { tmps := #[pv, sv, .pointer (some ⟨g, 0, none⟩), .pointer (some ⟨g + 1, 0, none⟩), .bool false, u, .pointer (some ⟨g + 1, 0, none⟩), .int .u8 1, .bool false, .bool false, undef, undef, undef, .bool false, .bool false, .pointer (some ⟨g + 1, 1, none⟩), .int .i64 (t : Int), .bool false, .bool false, .bool false, .pointer (some ⟨g + 1, 1, none⟩), .int .i64 (t : Int), .agg #[.int .i64 k, .int .i64 r, .int .i64 c, .int .i64 q], .int .i64 (N : Int), u, u, u, u, u, u, u, u, u, u, u, u, u, u, u, u, u, u, u, u, u, u, u, u, u, u, u, u, u, u, u, u, u], defers := [] } wa
 refine tkq hQp HS1 18 { dst := some 24, op := .binOp BinOp.geq 3 (.tmp 21) (.tmp 23) 3, type := 4, pos := "ref.go:37", after := #[{ on := 15, ground := .data }, { on := 17, ground := .data }, { on := 13, ground := Ground.guard }], guard := some (13, false) } (.bool true) (HS.out _ hb) ?_ ?_
 ·rintro w' ⟨s0, s1, s2, s3, s4, s5, s6⟩
  go_simp <;> first | with_reducible rfl | assumption
 refine tkq hQp HS1 19 { dst := some 25, op := .pick (.tmp 19) (.const (Value.bool true)) (.tmp 24), type := 4, pos := "ref.go:37", after := #[{ on := 13, ground := .data }, { on := 18, ground := .data }], guard := none } (.bool true) (HS.out _ hb) ?_ ?_
 ·rintro w' ⟨s0, s1, s2, s3, s4, s5, s6⟩
  go_simp <;> first | with_reducible rfl | assumption
 show wpAnyH Tryz.prog .any mops Q S 8 #[true, true, true, true, true, true, true, true, true, true, true, true, true, true, true, true, true, true, true, true, false, false, false, false, false, false, false, false] { tmps := #[pv, sv, .pointer (some ⟨g, 0, none⟩), .pointer (some ⟨g + 1, 0, none⟩), .bool false, u, .pointer (some ⟨g + 1, 0, none⟩), .int .u8 1, .bool false, .bool false, undef, undef, undef, .bool false, .bool false, .pointer (some ⟨g + 1, 1, none⟩), .int .i64 (t : Int), .bool false, .bool false, .bool false, .pointer (some ⟨g + 1, 1, none⟩), .int .i64 (t : Int), .agg #[.int .i64 k, .int .i64 r, .int .i64 c, .int .i64 q], .int .i64 (N : Int), .bool true, .bool true, u, u, u, u, u, u, u, u, u, u, u, u, u, u, u, u, u, u, u, u, u, u, u, u, u, u, u, u, u, u, u], defers := [] } wa
 refine tkq hQp HS1 20 { dst := some 26, op := .move (.tmp 25), type := 4, pos := "ref.go:37", after := #[{ on := 19, ground := .data }, { on := 17, ground := .chain }], guard := none } (.bool true) (HS.out _ hb) ?_ ?_
 ·rintro w' ⟨s0, s1, s2, s3, s4, s5, s6⟩
  go_simp <;> first | with_reducible rfl | assumption
 refine wpAnyH_take (i := 21) (oi := { dst := some 27, op := .fieldAddr 107 (.tmp 3) 5, type := 0, pos := "ref.go:37", after := #[{ on := 20, ground := Ground.guard }], guard := some (20, false) }) (v := undef) rfl (by kernel_rfl) (by kernel_rfl) (by kernel_rfl) (fun _ _ _ h => (hQp _ _ _ h).elim) (Or.inr ⟨by kernel_rfl, rfl⟩) (HS.out _ hb) ?_
 refine wpAnyH_take (i := 22) (oi := { dst := some 28, op := .load 36 (.tmp 27), type := 36, pos := "ref.go:37", after := #[{ on := 21, ground := .data }, { on := 20, ground := Ground.guard }], guard := some (20, false) }) (v := undef) rfl (by kernel_rfl) (by kernel_rfl) (by kernel_rfl) (fun _ _ _ h => (hQp _ _ _ h).elim) (Or.inr ⟨by kernel_rfl, rfl⟩) (HS.out _ hb) ?_
 refine wpAnyH_take (i := 23) (oi := { dst := some 29, op := .call { callee := Callee.builtin Builtin.len, args := #[.tmp 28], argTypes := #[36] }, type := 3, pos := "ref.go:37", after := #[{ on := 22, ground := .data }, { on := 20, ground := Ground.guard }], guard := some (20, false) }) (v := undef) rfl (by kernel_rfl) (by kernel_rfl) (by kernel_rfl) (fun _ _ _ h => (hQp _ _ _ h).elim) (Or.inr ⟨by kernel_rfl, rfl⟩) (HS.out _ hb) ?_
 show wpAnyH Tryz.prog .any mops Q S 4 #[true, true, true, true, true, true, true, true, true, true, true, true, true, true, true, true, true, true, true, true, true, true, true, true, false, false, false, false] { tmps := #[pv, sv, .pointer (some ⟨g, 0, none⟩), .pointer (some ⟨g + 1, 0, none⟩), .bool false, u, .pointer (some ⟨g + 1, 0, none⟩), .int .u8 1, .bool false, .bool false, undef, undef, undef, .bool false, .bool false, .pointer (some ⟨g + 1, 1, none⟩), .int .i64 (t : Int), .bool false, .bool false, .bool false, .pointer (some ⟨g + 1, 1, none⟩), .int .i64 (t : Int), .agg #[.int .i64 k, .int .i64 r, .int .i64 c, .int .i64 q], .int .i64 (N : Int), .bool true, .bool true, .bool true, undef, undef, undef, u, u, u, u, u, u, u, u, u, u, u, u, u, u, u, u, u, u, u, u, u, u, u, u, u, u, u], defers := [] } wa
 refine wpAnyH_take (i := 24) (oi := { dst := some 30, op := .fieldAddr 23 (.tmp 2) 2, type := 0, pos := "ref.go:37", after := #[{ on := 20, ground := Ground.guard }], guard := some (20, false) }) (v := undef) rfl (by kernel_rfl) (by kernel_rfl) (by kernel_rfl) (fun _ _ _ h => (hQp _ _ _ h).elim) (Or.inr ⟨by kernel_rfl, rfl⟩) (HS.out _ hb) ?_
 refine wpAnyH_take (i := 25) (oi := { dst := some 31, op := .load 3 (.tmp 30), type := 3, pos := "ref.go:37", after := #[{ on := 24, ground := .data }, { on := 20, ground := Ground.guard }], guard := some (20, false) }) (v := undef) rfl (by kernel_rfl) (by kernel_rfl) (by kernel_rfl) (fun _ _ _ h => (hQp _ _ _ h).elim) (Or.inr ⟨by kernel_rfl, rfl⟩) (HS.out _ hb) ?_
 refine wpAnyH_take (i := 26) (oi := { dst := some 32, op := .binOp BinOp.neq 3 (.tmp 29) (.tmp 31) 3, type := 4, pos := "ref.go:37", after := #[{ on := 23, ground := .data }, { on := 25, ground := .data }, { on := 20, ground := Ground.guard }], guard := some (20, false) }) (v := undef) rfl (by kernel_rfl) (by kernel_rfl) (by kernel_rfl) (fun _ _ _ h => (hQp _ _ _ h).elim) (Or.inr ⟨by kernel_rfl, rfl⟩) (HS.out _ hb) ?_
 refine tkq hQp HS1 27 { dst := some 33, op := .pick (.tmp 26) (.const (Value.bool true)) (.tmp 32), type := 4, pos := "ref.go:37", after := #[{ on := 20, ground := .data }, { on := 26, ground := .data }], guard := none } (.bool true) (HS.out _ hb) ?_ ?_
 ·rintro w' ⟨s0, s1, s2, s3, s4, s5, s6⟩
  go_simp <;> first | with_reducible rfl | assumption
 show wpAnyH Tryz.prog .any mops Q S 0 #[true, true, true, true, true, true, true, true, true, true, true, true, true, true, true, true, true, true, true, true, true, true, true, true, true, true, true, true] { tmps := #[pv, sv, .pointer (some ⟨g, 0, none⟩), .pointer (some ⟨g + 1, 0, none⟩), .bool false, u, .pointer (some ⟨g + 1, 0, none⟩), .int .u8 1, .bool false, .bool false, undef, undef, undef, .bool false, .bool false, .pointer (some ⟨g + 1, 1, none⟩), .int .i64 (t : Int), .bool false, .bool false, .bool false, .pointer (some ⟨g + 1, 1, none⟩), .int .i64 (t : Int), .agg #[.int .i64 k, .int .i64 r, .int .i64 c, .int .i64 q], .int .i64 (N : Int), .bool true, .bool true, .bool true, undef, undef, undef, undef, undef, undef, .bool true, u, u, u, u, u, u, u, u, u, u, u, u, u, u, u, u, u, u, u, u, u, u, u], defers := [] } wa
 refine wpAnyH_done (by kernel_rfl) ?_ _
 exact HQ.out _ hb
theorem may_1ne {pv sv u : Value} (w1 : World) (k r c q : Int) (g N t _vn _ca dn cb : Nat) (_ce _st : Int) (_ao bo : Option Addr)
  (hS : ∀ v, Below w1.heap.size w1 v -> (v.cell? ⟨g, 0, none⟩ = some (.int .i64 k) /\ v.cell? ⟨g, 1, none⟩ = some (.int .i64 r) /\ v.cell? ⟨g, 2, none⟩ = some (.int .i64 c) /\ v.cell? ⟨g, 3, none⟩ = some (.int .i64 q) /\ v.cell? ⟨g + 1, 0, none⟩ = some (.int .u8 1) /\ v.cell? ⟨g + 1, 1, none⟩ = some (.int .i64 (t : Int)) /\ v.cell? ⟨g + 1, 5, none⟩ = some (.slice bo dn cb)))
  (HN : ∀ w, Calls Tryz.prog 111 #[.agg #[.int .i64 k, .int .i64 r, .int .i64 c, .int .i64 q]] w fun e w' => e = .returned (.int .i64 (N : Int)) /\ Below w.heap.size w w') (h1 : t < N) (h2 : ((dn : Int) != c) = true)
  (Q : Exit -> Act -> World -> Prop) (hQp : ∀ ch a v, Q (.panic ch) a v -> False) (hQ : ∀ wa, Below w1.heap.size w1 wa -> Q .normal { tmps := #[pv, sv, .pointer (some ⟨g, 0, none⟩), .pointer (some ⟨g + 1, 0, none⟩), .bool false, u, .pointer (some ⟨g + 1, 0, none⟩), .int .u8 1, .bool false, .bool false, undef, undef, undef, .bool false, .bool false, .pointer (some ⟨g + 1, 1, none⟩), .int .i64 (t : Int), .bool false, .bool false, .bool false, .pointer (some ⟨g + 1, 1, none⟩), .int .i64 (t : Int), .agg #[.int .i64 k, .int .i64 r, .int .i64 c, .int .i64 q], .int .i64 (N : Int), .bool false, .bool false, .bool false, .pointer (some ⟨g + 1, 5, none⟩), .slice bo dn cb, .int .i64 (dn : Int), .pointer (some ⟨g, 2, none⟩), .int .i64 c, .bool true, .bool true, u, u, u, u, u, u, u, u, u, u, u, u, u, u, u, u, u, u, u, u, u, u, u], defers := [] } wa) :
  Code.wp Tryz.prog (Code.region 1 mops true) Q { tmps := #[pv, sv, .pointer (some ⟨g, 0, none⟩), .pointer (some ⟨g + 1, 0, none⟩), .bool false, u, u, u, u, u, u, u, u, u, u, u, u, u, u, u, u, u, u, u, u, u, u, u, u, u, u, u, u, u, u, u, u, u, u, u, u, u, u, u, u, u, u, u, u, u, u, u, u, u, u, u, u], defers := [] } w1 := by
 have HQ : Hid _ := hQ
 obtain ⟨S, HS1, HS⟩ : ∃ S : World -> Prop, Hid (∀ v, S v -> (v.cell? ⟨g, 0, none⟩ = some (.int .i64 k) /\ v.cell? ⟨g, 1, none⟩ = some (.int .i64 r) /\ v.cell? ⟨g, 2, none⟩ = some (.int .i64 c) /\ v.cell? ⟨g, 3, none⟩ = some (.int .i64 q) /\ v.cell? ⟨g + 1, 0, none⟩ = some (.int .u8 1) /\ v.cell? ⟨g + 1, 1, none⟩ = some (.int .i64 (t : Int)) /\ v.cell? ⟨g + 1, 5, none⟩ = some (.slice bo dn cb))) /\ Hid (∀ v, Below w1.heap.size w1 v -> S v) := ⟨fun v => v.cell? ⟨g, 0, none⟩ = some (.int .i64 k) /\ v.cell? ⟨g, 1, none⟩ = some (.int .i64 r) /\ v.cell? ⟨g, 2, none⟩ = some (.int .i64 c) /\ v.cell? ⟨g, 3, none⟩ = some (.int .i64 q) /\ v.cell? ⟨g + 1, 0, none⟩ = some (.int .u8 1) /\ v.cell? ⟨g + 1, 1, none⟩ = some (.int .i64 (t : Int)) /\ v.cell? ⟨g + 1, 5, none⟩ = some (.slice bo dn cb), fun v h => h, hS⟩
 clear hS hQ
 have j4 : ¬ (t : Int) < 0 := by omega
 have j5 : ¬ N <= t := by omega
 have j6 : ¬ (N : Int) <= (t : Int) := by omega
 refine wp_region_held_drew (S := S) (by kernel_rfl) (HS.out _ (below_drew _ _)) (fun hHeld => ?_)
 have hb : Below w1.heap.size w1 w1.drew := below_drew _ _
 rw [show mops.size = 28 from by kernel_rfl, show Array.replicate 28 false = #[false, false, false, false, false, false, false, false, false, false, false, false, false, false, false, false, false, false, false, false, false, false, false, false, false, false, false, false] from by kernel_rfl]
 refine tkq hQp HS1 0 { dst := some 6, op := .fieldAddr 107 (.tmp 3) 0, type := 0, pos := "ref.go:37", after := #[], guard := none } (.pointer (some ⟨g + 1, 0, none⟩)) (HS.out _ hb) ?_ ?_
 ·rintro w' ⟨s0, s1, s2, s3, s4, s5, s6⟩
  go_simp <;> first | with_reducible rfl | assumption
 refine tkq hQp HS1 1 { dst := some 7, op := .load 5 (.tmp 6), type := 5, pos := "ref.go:37", after := #[{ on := 0, ground := .data }], guard := none } (.int .u8 1) (HS.out _ hb) ?_ ?_
 ·rintro w' ⟨s0, s1, s2, s3, s4, s5, s6⟩
  go_simp <;> first | with_reducible rfl | assumption
 refine tkq hQp HS1 2 { dst := some 8, op := .binOp BinOp.neq 5 (.tmp 7) (.const (.int .u8 1)) 5, type := 4, pos := "ref.go:37", after := #[{ on := 1, ground := .data }], guard := none } (.bool false) (HS.out _ hb) ?_ ?_
 ·rintro w' ⟨s0, s1, s2, s3, s4, s5, s6⟩
  go_simp <;> first | with_reducible rfl | assumption
 refine tkq hQp HS1 3 { dst := some 9, op := .move (.tmp 8), type := 4, pos := "ref.go:37", after := #[{ on := 2, ground := .data }], guard := none } (.bool false) (HS.out _ hb) ?_ ?_
 ·rintro w' ⟨s0, s1, s2, s3, s4, s5, s6⟩
  go_simp <;> first | with_reducible rfl | assumption
 show wpAnyH Tryz.prog .any mops Q S 24 #[true, true, true, true, false, false, false, false, false, false, false, false, false, false, false, false, false, false, false, false, false, false, false, false, false, false, false, false] { tmps := #[pv, sv, .pointer (some ⟨g, 0, none⟩), .pointer (some ⟨g + 1, 0, none⟩), .bool false, u, .pointer (some ⟨g + 1, 0, none⟩), .int .u8 1, .bool false, .bool false, u, u, u, u, u, u, u, u, u, u, u, u, u, u, u, u, u, u, u, u, u, u, u, u, u, u, u, u, u, u, u, u, u, u, u, u, u, u, u, u, u, u, u, u, u, u, u], defers := [] } w1.drew
 refine wpAnyH_take (i := 4) (oi := { dst := some 10, op := .fieldAddr 107 (.tmp 3) 0, type := 0, pos := "ref.go:37", after := #[{ on := 3, ground := Ground.guard }], guard := some (3, true) }) (v := undef) rfl (by kernel_rfl) (by kernel_rfl) (by kernel_rfl) (fun _ _ _ h => (hQp _ _ _ h).elim) (Or.inr ⟨by kernel_rfl, rfl⟩) (HS.out _ hb) ?_
 refine wpAnyH_take (i := 5) (oi := { dst := some 11, op := .load 5 (.tmp 10), type := 5, pos := "ref.go:37", after := #[{ on := 4, ground := .data }, { on := 3, ground := Ground.guard }], guard := some (3, true) }) (v := undef) rfl (by kernel_rfl) (by kernel_rfl) (by kernel_rfl) (fun _ _ _ h => (hQp _ _ _ h).elim) (Or.inr ⟨by kernel_rfl, rfl⟩) (HS.out _ hb) ?_
 refine wpAnyH_take (i := 6) (oi := { dst := some 12, op := .binOp BinOp.neq 5 (.tmp 11) (.const (.int .u8 2)) 5, type := 4, pos := "ref.go:37", after := #[{ on := 5, ground := .data }, { on := 3, ground := Ground.guard }], guard := some (3, true) }) (v := undef) rfl (by kernel_rfl) (by kernel_rfl) (by kernel_rfl) (fun _ _ _ h => (hQp _ _ _ h).elim) (Or.inr ⟨by kernel_rfl, rfl⟩) (HS.out _ hb) ?_
 refine tkq hQp HS1 7 { dst := some 13, op := .pick (.tmp 9) (.tmp 12) (.const (Value.bool false)), type := 4, pos := "ref.go:37", after := #[{ on := 3, ground := .data }, { on := 6, ground := .data }], guard := none } (.bool false) (HS.out _ hb) ?_ ?_
 ·rintro w' ⟨s0, s1, s2, s3, s4, s5, s6⟩
  go_simp <;> first | with_reducible rfl | assumption
 show wpAnyH Tryz.prog .any mops Q S 20 #[true, true, true, true, true, true, true, true, false, false, false, false, false, false, false, false, false, false, false, false, false, false, false, false, false, false, false, false] { tmps := #[pv, sv, .pointer (some ⟨g, 0, none⟩), .pointer (some ⟨g + 1, 0, none⟩), .bool false, u, .pointer (some ⟨g + 1, 0, none⟩), .int .u8 1, .bool false, .bool false, undef, undef, undef, .bool false, u, u, u, u, u, u, u, u, u, u, u, u, u, u, u, u, u, u, u, u, u, u, u, u, u, u, u, u, u, u, u, u, u, u, u, u, u, u, u, u, u, u, u], defers := [] } w1.drew
 refine tkq hQp HS1 8 { dst := some 14, op := .move (.tmp 13), type := 4, pos := "ref.go:37", after := #[{ on := 7, ground := .data }, { on := 3, ground := .chain }], guard := none } (.bool false) (HS.out _ hb) ?_ ?_
 ·rintro w' ⟨s0, s1, s2, s3, s4, s5, s6⟩
  go_simp <;> first | with_reducible rfl | assumption
 refine tkq hQp HS1 9 { dst := some 15, op := .fieldAddr 107 (.tmp 3) 1, type := 0, pos := "ref.go:37", after := #[{ on := 8, ground := Ground.guard }], guard := some (8, false) } (.pointer (some ⟨g + 1, 1, none⟩)) (HS.out _ hb) ?_ ?_
 ·rintro w' ⟨s0, s1, s2, s3, s4, s5, s6⟩
  go_simp <;> first | with_reducible rfl | assumption
 refine tkq hQp HS1 10 { dst := some 16, op := .load 3 (.tmp 15), type := 3, pos := "ref.go:37", after := #[{ on := 9, ground := .data }, { on := 8, ground := Ground.guard }], guard := some (8, false) } (.int .i64 (t : Int)) (HS.out _ hb) ?_ ?_
 ·rintro w' ⟨s0, s1, s2, s3, s4, s5, s6⟩
  go_simp <;> first | with_reducible rfl | assumption
 refine tkq hQp HS1 11 { dst := some 17, op := .binOp BinOp.lss 3 (.tmp 16) (.const (.int .i64 0)) 3, type := 4, pos := "ref.go:37", after := #[{ on := 10, ground := .data }, { on := 8, ground := Ground.guard }], guard := some (8, false) } (.bool false) (HS.out _ hb) ?_ ?_
 ·rintro w' ⟨s0, s1, s2, s3, s4, s5, s6⟩
  go_simp <;> first | with_reducible rfl | assumption
 show wpAnyH Tryz.prog .any mops Q S 16 #[true, true, true, true, true, true, true, true, true, true, true, true, false, false, false, false, false, false, false, false, false, false, false, false, false, false, false, false] { tmps := #[pv, sv, .pointer (some ⟨g, 0, none⟩), .pointer (some ⟨g + 1, 0, none⟩), .bool false, u, .pointer (some ⟨g + 1, 0, none⟩), .int .u8 1, .bool false, .bool false, undef, undef, undef, .bool false, .bool false, .pointer (some ⟨g + 1, 1, none⟩), .int .i64 (t : Int), .bool false, u, u, u, u, u, u, u, u, u, u, u, u, u, u, u, u, u, u, u, u, u, u, u, u, u, u, u, u, u, u, u, u, u, u, u, u, u, u, u], defers := [] } w1.drew
 refine tkq hQp HS1 12 { dst := some 18, op := .pick (.tmp 14) (.const (Value.bool true)) (.tmp 17), type := 4, pos := "ref.go:37", after := #[{ on := 8, ground := .data }, { on := 11, ground := .data }], guard := none } (.bool false) (HS.out _ hb) ?_ ?_
 ·rintro w' ⟨s0, s1, s2, s3, s4, s5, s6⟩
  go_simp <;> first | with_reducible rfl | assumption
 refine tkq hQp HS1 13 { dst := some 19, op := .move (.tmp 18), type := 4, pos := "ref.go:37", after := #[{ on := 12, ground := .data }, { on := 8, ground := .chain }], guard := none } (.bool false) (HS.out _ hb) ?_ ?_
 ·rintro w' ⟨s0, s1, s2, s3, s4, s5, s6⟩
  go_simp <;> first | with_reducible rfl | assumption
 refine tkq hQp HS1 14 { dst := some 20, op := .fieldAddr 107 (.tmp 3) 1, type := 0, pos := "ref.go:37", after := #[{ on := 13, ground := Ground.guard }], guard := some (13, false) } (.pointer (some ⟨g + 1, 1, none⟩)) (HS.out _ hb) ?_ ?_
 ·rintro w' ⟨s0, s1, s2, s3, s4, s5, s6⟩
  go_simp <;> first | with_reducible rfl | assumption
 refine tkq hQp HS1 15 { dst := some 21, op := .load 3 (.tmp 20), type := 3, pos := "ref.go:37", after := #[{ on := 14, ground := .data }, { on := 13, ground := Ground.guard }], guard := some (13, false) } (.int .i64 (t : Int)) (HS.out _ hb) ?_ ?_
 ·rintro w' ⟨s0, s1, s2, s3, s4, s5, s6⟩
  go_simp <;> first | with_reducible rfl | assumption
 show wpAnyH Tryz.prog .any mops Q S 12 #[true, true, true, true, true, true, true, true, true, true, true, true, true, true, true, true, false, false, false, false, false, false, false, false, false, false, false, false] { tmps := #[pv, sv, .pointer (some ⟨g, 0, none⟩), .pointer (some ⟨g + 1, 0, none⟩), .bool false, u, .pointer (some ⟨g + 1, 0, none⟩), .int .u8 1, .bool false, .bool false, undef, undef, undef, .bool false, .bool false, .pointer (some ⟨g + 1, 1, none⟩), .int .i64 (t : Int), .bool false, .bool false, .bool false, .pointer (some ⟨g + 1, 1, none⟩), .int .i64 (t : Int), u, u, u, u, u, u, u, u, u, u, u, u, u, u, u, u, u, u, u, u, u, u, u, u, u, u, u, u, u, u, u, u, u, u, u], defers := [] } w1.drew
 refine tkq hQp HS1 16 { dst := some 22, op := .load 23 (.tmp 2), type := 23, pos := "ref.go:37", after := #[{ on := 13, ground := Ground.guard }], guard := some (13, false) } (.agg #[.int .i64 k, .int .i64 r, .int .i64 c, .int .i64 q]) (HS.out _ hb) ?_ ?_
 ·rintro w' ⟨s0, s1, s2, s3, s4, s5, s6⟩
  go_simp <;> first | with_reducible rfl | assumption
 show wpAnyH Tryz.prog .any mops Q S 11 #[true, true, true, true, true, true, true, true, true, true, true, true, true, true, true, true, true, false, false, false, false, false, false, false, false, false, false, false] { tmps := #[pv, sv, .pointer (some ⟨g, 0, none⟩), .pointer (some ⟨g + 1, 0, none⟩), .bool false, u, .pointer (some ⟨g + 1, 0, none⟩), .int .u8 1, .bool false, .bool false, undef, undef, undef, .bool false, .bool false, .pointer (some ⟨g + 1, 1, none⟩), .int .i64 (t : Int), .bool false, .bool false, .bool false, .pointer (some ⟨g + 1, 1, none⟩), .int .i64 (t : Int), .agg #[.int .i64 k, .int .i64 r, .int .i64 c, .int .i64 q], u, u, u, u, u, u, u, u, u, u, u, u, u, u, u, u, u, u, u, u, u, u, u, u, u, u, u, u, u, u, u, u, u, u], defers := [] } w1.drew
 refine wpAnyH_ready (rs := [17]) (by kernel_rfl) (by simp) ?_
 refine AllReadyH.cons (o := { dst := some 23, op := .call { callee := .value (.func 111), args := #[.tmp 22], argTypes := #[23] }, type := 3, pos := "ref.go:37", after := #[{ on := 16, ground := .data }, { on := 13, ground := .chain }, { on := 13, ground := Ground.guard }], guard := some (13, false) }) rfl (fun K hK => ?_) AllReadyH.nil
 go_simp
 refine (HN _).mono ?_
 rintro e wa ⟨rfl, ha⟩
 refine hK.out _ _ (HS.out _ (below_then hb ha)) (fun hHeld2 => ?_)
 replace hb : Below w1.heap.size w1 wa := (below_then hb ha)
 clear hK K hHeld
 have hHeld := hHeld2
 clear hHeld2
 show wpAnyH Tryz.prog .any mops Q S 10 #[true, true, true, true, true, true, true, true, true, true, true, true, true, true, true, true, true, true, false, false, false, false, false, false, false, false, false, false] { tmps := #[pv, sv, .pointer (some ⟨g, 0, none⟩), .pointer (some ⟨g + 1, 0, none⟩), .bool false, u, .pointer (some ⟨g + 1, 0, none⟩), .int .u8 1, .bool false, .bool false, undef, undef, undef, .bool false, .bool false, .pointer (some ⟨g + 1, 1, none⟩), .int .i64 (t : Int), .bool false, .bool false, .bool false, .pointer (some ⟨g + 1, 1, none⟩), .int .i64 (t : Int), .agg #[.int .i64 k, .int .i64 r, .int .i64 c, .int .i64 q], .int .i64 (N : Int), u, u, u, u, u, u, u, u, u, u, u, u, u, u, u, u, u, u, u, u, u, u, u, u, u, u, u, u, u, u, u, u, u], defers := [] } wa
 refine tkq hQp HS1 18 { dst := some 24, op := .binOp BinOp.geq 3 (.tmp 21) (.tmp 23) 3, type := 4, pos := "ref.go:37", after := #[{ on := 15, ground := .data }, { on := 17, ground := .data }, { on := 13, ground := Ground.guard }], guard := some (13, false) } (.bool false) (HS.out _ hb) ?_ ?_
 ·rintro w' ⟨s0, s1, s2, s3, s4, s5, s6⟩
  go_simp <;> first | with_reducible rfl | assumption
 refine tkq hQp HS1 19 { dst := some 25, op := .pick (.tmp 19) (.const (Value.bool true)) (.tmp 24), type := 4, pos := "ref.go:37", after := #[{ on := 13, ground := .data }, { on := 18, ground := .data }], guard := none } (.bool false) (HS.out _ hb) ?_ ?_
 ·rintro w' ⟨s0, s1, s2, s3, s4, s5, s6⟩
  go_simp <;> first | with_reducible rfl | assumption
 show wpAnyH Tryz.prog .any mops Q S 8 #[true, true, true, true, true, true, true, true, true, true, true, true, true, true, true, true, true, true, true, true, false, false, false, false, false, false, false, false] { tmps := #[pv, sv, .pointer (some ⟨g, 0, none⟩), .pointer (some ⟨g + 1, 0, none⟩), .bool false, u, .pointer (some ⟨g + 1, 0, none⟩), .int .u8 1, .bool false, .bool false, undef, undef, undef, .bool false, .bool false, .pointer (some ⟨g + 1, 1, none⟩), .int .i64 (t : Int), .bool false, .bool false, .bool false, .pointer (some ⟨g + 1, 1, none⟩), .int .i64 (t : Int), .agg #[.int .i64 k, .int .i64 r, .int .i64 c, .int .i64 q], .int .i64 (N : Int), .bool false, .bool false, u, u, u, u, u, u, u, u, u, u, u, u, u, u, u, u, u, u, u, u, u, u, u, u, u, u, u, u, u, u, u], defers := [] } wa
 refine tkq hQp HS1 20 { dst := some 26, op := .move (.tmp 25), type := 4, pos := "ref.go:37", after := #[{ on := 19, ground := .data }, { on := 17, ground := .chain }], guard := none } (.bool false) (HS.out _ hb) ?_ ?_
 ·rintro w' ⟨s0, s1, s2, s3, s4, s5, s6⟩
  go_simp <;> first | with_reducible rfl | assumption
 refine tkq hQp HS1 21 { dst := some 27, op := .fieldAddr 107 (.tmp 3) 5, type := 0, pos := "ref.go:37", after := #[{ on := 20, ground := Ground.guard }], guard := some (20, false) } (.pointer (some ⟨g + 1, 5, none⟩)) (HS.out _ hb) ?_ ?_
 ·rintro w' ⟨s0, s1, s2, s3, s4, s5, s6⟩
  go_simp <;> first | with_reducible rfl | assumption
 refine tkq hQp HS1 22 { dst := some 28, op := .load 36 (.tmp 27), type := 36, pos := "ref.go:37", after := #[{ on := 21, ground := .data }, { on := 20, ground := Ground.guard }], guard := some (20, false) } (.slice bo dn cb) (HS.out _ hb) ?_ ?_
 ·rintro w' ⟨s0, s1, s2, s3, s4, s5, s6⟩
  go_simp <;> first | with_reducible rfl | assumption
 refine tkq hQp HS1 23 { dst := some 29, op := .call { callee := Callee.builtin Builtin.len, args := #[.tmp 28], argTypes := #[36] }, type := 3, pos := "ref.go:37", after := #[{ on := 22, ground := .data }, { on := 20, ground := Ground.guard }], guard := some (20, false) } (.int .i64 (dn : Int)) (HS.out _ hb) ?_ ?_
 ·rintro w' ⟨s0, s1, s2, s3, s4, s5, s6⟩
  go_simp <;> first | with_reducible rfl | assumption
 show wpAnyH Tryz.prog .any mops Q S 4 #[true, true, true, true, true, true, true, true, true, true, true, true, true, true, true, true, true, true, true, true, true, true, true, true, false, false, false, false] { tmps := #[pv, sv, .pointer (some ⟨g, 0, none⟩), .pointer (some ⟨g + 1, 0, none⟩), .bool false, u, .pointer (some ⟨g + 1, 0, none⟩), .int .u8 1, .bool false, .bool false, undef, undef, undef, .bool false, .bool false, .pointer (some ⟨g + 1, 1, none⟩), .int .i64 (t : Int), .bool false, .bool false, .bool false, .pointer (some ⟨g + 1, 1, none⟩), .int .i64 (t : Int), .agg #[.int .i64 k, .int .i64 r, .int .i64 c, .int .i64 q], .int .i64 (N : Int), .bool false, .bool false, .bool false, .pointer (some ⟨g + 1, 5, none⟩), .slice bo dn cb, .int .i64 (dn : Int), u, u, u, u, u, u, u, u, u, u, u, u, u, u, u, u, u, u, u, u, u, u, u, u, u, u, u], defers := [] } wa
 refine tkq hQp HS1 24 { dst := some 30, op := .fieldAddr 23 (.tmp 2) 2, type := 0, pos := "ref.go:37", after := #[{ on := 20, ground := Ground.guard }], guard := some (20, false) } (.pointer (some ⟨g, 2, none⟩)) (HS.out _ hb) ?_ ?_
 ·rintro w' ⟨s0, s1, s2, s3, s4, s5, s6⟩
  go_simp <;> first | with_reducible rfl | assumption
 refine tkq hQp HS1 25 { dst := some 31, op := .load 3 (.tmp 30), type := 3, pos := "ref.go:37", after := #[{ on := 24, ground := .data }, { on := 20, ground := Ground.guard }], guard := some (20, false) } (.int .i64 c) (HS.out _ hb) ?_ ?_
 ·rintro w' ⟨s0, s1, s2, s3, s4, s5, s6⟩
  go_simp <;> first | with_reducible rfl | assumption
 refine tkq hQp HS1 26 { dst := some 32, op := .binOp BinOp.neq 3 (.tmp 29) (.tmp 31) 3, type := 4, pos := "ref.go:37", after := #[{ on := 23, ground := .data }, { on := 25, ground := .data }, { on := 20, ground := Ground.guard }], guard := some (20, false) } (.bool true) (HS.out _ hb) ?_ ?_
 ·rintro w' ⟨s0, s1, s2, s3, s4, s5, s6⟩
  go_simp <;> first | with_reducible rfl | assumption
 refine tkq hQp HS1 27 { dst := some 33, op := .pick (.tmp 26) (.const (Value.bool true)) (.tmp 32), type := 4, pos := "ref.go:37", after := #[{ on := 20, ground := .data }, { on := 26, ground := .data }], guard := none } (.bool true) (HS.out _ hb) ?_ ?_
 ·rintro w' ⟨s0, s1, s2, s3, s4, s5, s6⟩
  go_simp <;> first | with_reducible rfl | assumption
 show wpAnyH Tryz.prog .any mops Q S 0 #[true, true, true, true, true, true, true, true, true, true, true, true, true, true, true, true, true, true, true, true, true, true, true, true, true, true, true, true] { tmps := #[pv, sv, .pointer (some ⟨g, 0, none⟩), .pointer (some ⟨g + 1, 0, none⟩), .bool false, u, .pointer (some ⟨g + 1, 0, none⟩), .int .u8 1, .bool false, .bool false, undef, undef, undef, .bool false, .bool false, .pointer (some ⟨g + 1, 1, none⟩), .int .i64 (t : Int), .bool false, .bool false, .bool false, .pointer (some ⟨g + 1, 1, none⟩), .int .i64 (t : Int), .agg #[.int .i64 k, .int .i64 r, .int .i64 c, .int .i64 q], .int .i64 (N : Int), .bool false, .bool false, .bool false, .pointer (some ⟨g + 1, 5, none⟩), .slice bo dn cb, .int .i64 (dn : Int), .pointer (some ⟨g, 2, none⟩), .int .i64 c, .bool true, .bool true, u, u, u, u, u, u, u, u, u, u, u, u, u, u, u, u, u, u, u, u, u, u, u], defers := [] } wa
 refine wpAnyH_done (by kernel_rfl) ?_ _
 exact HQ.out _ hb
theorem may_1ok {pv sv u : Value} (w1 : World) (k r c q : Int) (g N t _vn _ca dn cb : Nat) (_ce _st : Int) (_ao bo : Option Addr)
  (hS : ∀ v, Below w1.heap.size w1 v -> (v.cell? ⟨g, 0, none⟩ = some (.int .i64 k) /\ v.cell? ⟨g, 1, none⟩ = some (.int .i64 r) /\ v.cell? ⟨g, 2, none⟩ = some (.int .i64 c) /\ v.cell? ⟨g, 3, none⟩ = some (.int .i64 q) /\ v.cell? ⟨g + 1, 0, none⟩ = some (.int .u8 1) /\ v.cell? ⟨g + 1, 1, none⟩ = some (.int .i64 (t : Int)) /\ v.cell? ⟨g + 1, 5, none⟩ = some (.slice bo dn cb)))
  (HN : ∀ w, Calls Tryz.prog 111 #[.agg #[.int .i64 k, .int .i64 r, .int .i64 c, .int .i64 q]] w fun e w' => e = .returned (.int .i64 (N : Int)) /\ Below w.heap.size w w') (h1 : t < N) (h2 : ((dn : Int) != c) = false)
  (Q : Exit -> Act -> World -> Prop) (hQp : ∀ ch a v, Q (.panic ch) a v -> False) (hQ : ∀ wa, Below w1.heap.size w1 wa -> Q .normal { tmps := #[pv, sv, .pointer (some ⟨g, 0, none⟩), .pointer (some ⟨g + 1, 0, none⟩), .bool false, u, .pointer (some ⟨g + 1, 0, none⟩), .int .u8 1, .bool false, .bool false, undef, undef, undef, .bool false, .bool false, .pointer (some ⟨g + 1, 1, none⟩), .int .i64 (t : Int), .bool false, .bool false, .bool false, .pointer (some ⟨g + 1, 1, none⟩), .int .i64 (t : Int), .agg #[.int .i64 k, .int .i64 r, .int .i64 c, .int .i64 q], .int .i64 (N : Int), .bool false, .bool false, .bool false, .pointer (some ⟨g + 1, 5, none⟩), .slice bo dn cb, .int .i64 (dn : Int), .pointer (some ⟨g, 2, none⟩), .int .i64 c, .bool false, .bool false, u, u, u, u, u, u, u, u, u, u, u, u, u, u, u, u, u, u, u, u, u, u, u], defers := [] } wa) :
  Code.wp Tryz.prog (Code.region 1 mops true) Q { tmps := #[pv, sv, .pointer (some ⟨g, 0, none⟩), .pointer (some ⟨g + 1, 0, none⟩), .bool false, u, u, u, u, u, u, u, u, u, u, u, u, u, u, u, u, u, u, u, u, u, u, u, u, u, u, u, u, u, u, u, u, u, u, u, u, u, u, u, u, u, u, u, u, u, u, u, u, u, u, u, u], defers := [] } w1 := by
 have HQ : Hid _ := hQ
 obtain ⟨S, HS1, HS⟩ : ∃ S : World -> Prop, Hid (∀ v, S v -> (v.cell? ⟨g, 0, none⟩ = some (.int .i64 k) /\ v.cell? ⟨g, 1, none⟩ = some (.int .i64 r) /\ v.cell? ⟨g, 2, none⟩ = some (.int .i64 c) /\ v.cell? ⟨g, 3, none⟩ = some (.int .i64 q) /\ v.cell? ⟨g + 1, 0, none⟩ = some (.int .u8 1) /\ v.cell? ⟨g + 1, 1, none⟩ = some (.int .i64 (t : Int)) /\ v.cell? ⟨g + 1, 5, none⟩ = some (.slice bo dn cb))) /\ Hid (∀ v, Below w1.heap.size w1 v -> S v) := ⟨fun v => v.cell? ⟨g, 0, none⟩ = some (.int .i64 k) /\ v.cell? ⟨g, 1, none⟩ = some (.int .i64 r) /\ v.cell? ⟨g, 2, none⟩ = some (.int .i64 c) /\ v.cell? ⟨g, 3, none⟩ = some (.int .i64 q) /\ v.cell? ⟨g + 1, 0, none⟩ = some (.int .u8 1) /\ v.cell? ⟨g + 1, 1, none⟩ = some (.int .i64 (t : Int)) /\ v.cell? ⟨g + 1, 5, none⟩ = some (.slice bo dn cb), fun v h => h, hS⟩
 clear hS hQ
 have j4 : ¬ (t : Int) < 0 := by omega
 have j5 : ¬ N <= t := by omega
 have j6 : ¬ (N : Int) <= (t : Int) := by omega
 refine wp_region_held_drew (S := S) (by kernel_rfl) (HS.out _ (below_drew _ _)) (fun hHeld => ?_)
 have hb : Below w1.heap.size w1 w1.drew := below_drew _ _
 rw [show mops.size = 28 from by kernel_rfl, show Array.replicate 28 false = #[false, false, false, false, false, false, false, false, false, false, false, false, false, false, false, false, false, false, false, false, false, false, false, false, false, false, false, false] from by kernel_rfl]
 refine tkq hQp HS1 0 { dst := some 6, op := .fieldAddr 107 (.tmp 3) 0, type := 0, pos := "ref.go:37", after := #[], guard := none } (.pointer (some ⟨g + 1, 0, none⟩)) (HS.out _ hb) ?_ ?_
 ·rintro w' ⟨s0, s1, s2, s3, s4, s5, s6⟩
  go_simp <;> first | with_reducible rfl | assumption
 refine tkq hQp HS1 1 { dst := some 7, op := .load 5 (.tmp 6), type := 5, pos := "ref.go:37", after := #[{ on := 0, ground := .data }], guard := none } (.int .u8 1) (HS.out _ hb) ?_ ?_
 ·rintro w' ⟨s0, s1, s2, s3, s4, s5, s6⟩
  go_simp <;> first | with_reducible rfl | assumption
 refine tkq hQp HS1 2 { dst := some 8, op := .binOp BinOp.neq 5 (.tmp 7) (.const (.int .u8 1)) 5, type := 4, pos := "ref.go:37", after := #[{ on := 1, ground := .data }], guard := none } (.bool false) (HS.out _ hb) ?_ ?_
 ·rintro w' ⟨s0, s1, s2, s3, s4, s5, s6⟩
  go_simp <;> first | with_reducible rfl | assumption
 refine tkq hQp HS1 3 { dst := some 9, op := .move (.tmp 8), type := 4, pos := "ref.go:37", after := #[{ on := 2, ground := .data }], guard := none } (.bool false) (HS.out _ hb) ?_ ?_
 ·rintro w' ⟨s0, s1, s2, s3, s4, s5, s6⟩
  go_simp <;> first | with_reducible rfl | assumption
 show wpAnyH Tryz.prog .any mops Q S 24 #[true, true, true, true, false, false, false, false, false, false, false, false, false, false, false, false, false, false, false, false, false, false, false, false, false, false, false, false] { tmps := #[pv, sv, .pointer (some ⟨g, 0, none⟩), .pointer (some ⟨g + 1, 0, none⟩), .bool false, u, .pointer (some ⟨g + 1, 0, none⟩), .int .u8 1, .bool false, .bool false, u, u, u, u, u, u, u, u, u, u, u, u, u, u, u, u, u, u, u, u, u, u, u, u, u, u, u, u, u, u, u, u, u, u, u, u, u, u, u, u, u, u, u, u, u, u, u], defers := [] } w1.drew
 refine wpAnyH_take (i := 4) (oi := { dst := some 10, op := .fieldAddr 107 (.tmp 3) 0, type := 0, pos := "ref.go:37", after := #[{ on := 3, ground := Ground.guard }], guard := some (3, true) }) (v := undef) rfl (by kernel_rfl) (by kernel_rfl) (by kernel_rfl) (fun _ _ _ h => (hQp _ _ _ h).elim) (Or.inr ⟨by kernel_rfl, rfl⟩) (HS.out _ hb) ?_
 refine wpAnyH_take (i := 5) (oi := { dst := some 11, op := .load 5 (.tmp 10), type := 5, pos := "ref.go:37", after := #[{ on := 4, ground := .data }, { on := 3, ground := Ground.guard }], guard := some (3, true) }) (v := undef) rfl (by kernel_rfl) (by kernel_rfl) (by kernel_rfl) (fun _ _ _ h => (hQp _ _ _ h).elim) (Or.inr ⟨by kernel_rfl, rfl⟩) (HS.out _ hb) ?_
 refine wpAnyH_take (i := 6) (oi := { dst := some 12, op := .binOp BinOp.neq 5 (.tmp 11) (.const (.int .u8 2)) 5, type := 4, pos := "ref.go:37", after := #[{ on := 5, ground := .data }, { on := 3, ground := Ground.guard }], guard := some (3, true) }) (v := undef) rfl (by kernel_rfl) (by kernel_rfl) (by kernel_rfl) (fun _ _ _ h => (hQp _ _ _ h).elim) (Or.inr ⟨by kernel_rfl, rfl⟩) (HS.out _ hb) ?_
 refine tkq hQp HS1 7 { dst := some 13, op := .pick (.tmp 9) (.tmp 12) (.const (Value.bool false)), type := 4, pos := "ref.go:37", after := #[{ on := 3, ground := .data }, { on := 6, ground := .data }], guard := none } (.bool false) (HS.out _ hb) ?_ ?_
 ·rintro w' ⟨s0, s1, s2, s3, s4, s5, s6⟩
  go_simp <;> first | with_reducible rfl | assumption
 show wpAnyH Tryz.prog .any mops Q S 20 #[true, true, true, true, true, true, true, true, false, false, false, false, false, false, false, false, false, false, false, false, false, false, false, false, false, false, false, false] { tmps := #[pv, sv, .pointer (some ⟨g, 0, none⟩), .pointer (some ⟨g + 1, 0, none⟩), .bool false, u, .pointer (some ⟨g + 1, 0, none⟩), .int .u8 1, .bool false, .bool false, undef, undef, undef, .bool false, u, u, u, u, u, u, u, u, u, u, u, u, u, u, u, u, u, u, u, u, u, u, u, u, u, u, u, u, u, u, u, u, u, u, u, u, u, u, u, u, u, u, u], defers := [] } w1.drew
 refine tkq hQp HS1 8 { dst := some 14, op := .move (.tmp 13), type := 4, pos := "ref.go:37", after := #[{ on := 7, ground := .data }, { on := 3, ground := .chain }], guard := none } (.bool false) (HS.out _ hb) ?_ ?_
 ·rintro w' ⟨s0, s1, s2, s3, s4, s5, s6⟩
  go_simp <;> first | with_reducible rfl | assumption
 refine tkq hQp HS1 9 { dst := some 15, op := .fieldAddr 107 (.tmp 3) 1, type := 0, pos := "ref.go:37", after := #[{ on := 8, ground := Ground.guard }], guard := some (8, false) } (.pointer (some ⟨g + 1, 1, none⟩)) (HS.out _ hb) ?_ ?_
 ·rintro w' ⟨s0, s1, s2, s3, s4, s5, s6⟩
  go_simp <;> first | with_reducible rfl | assumption
 refine tkq hQp HS1 10 { dst := some 16, op := .load 3 (.tmp 15), type := 3, pos := "ref.go:37", after := #[{ on := 9, ground := .data }, { on := 8, ground := Ground.guard }], guard := some (8, false) } (.int .i64 (t : Int)) (HS.out _ hb) ?_ ?_
 ·rintro w' ⟨s0, s1, s2, s3, s4, s5, s6⟩
  go_simp <;> first | with_reducible rfl | assumption
 refine tkq hQp HS1 11 { dst := some 17, op := .binOp BinOp.lss 3 (.tmp 16) (.const (.int .i64 0)) 3, type := 4, pos := "ref.go:37", after := #[{ on := 10, ground := .data }, { on := 8, ground := Ground.guard }], guard := some (8, false) } (.bool false) (HS.out _ hb) ?_ ?_
 ·rintro w' ⟨s0, s1, s2, s3, s4, s5, s6⟩
  go_simp <;> first | with_reducible rfl | assumption
 show wpAnyH Tryz.prog .any mops Q S 16 #[true, true, true, true, true, true, true, true, true, true, true, true, false, false, false, false, false, false, false, false, false, false, false, false, false, false, false, false] { tmps := #[pv, sv, .pointer (some ⟨g, 0, none⟩), .pointer (some ⟨g + 1, 0, none⟩), .bool false, u, .pointer (some ⟨g + 1, 0, none⟩), .int .u8 1, .bool false, .bool false, undef, undef, undef, .bool false, .bool false, .pointer (some ⟨g + 1, 1, none⟩), .int .i64 (t : Int), .bool false, u, u, u, u, u, u, u, u, u, u, u, u, u, u, u, u, u, u, u, u, u, u, u, u, u, u, u, u, u, u, u, u, u, u, u, u, u, u, u], defers := [] } w1.drew
 refine tkq hQp HS1 12 { dst := some 18, op := .pick (.tmp 14) (.const (Value.bool true)) (.tmp 17), type := 4, pos := "ref.go:37", after := #[{ on := 8, ground := .data }, { on := 11, ground := .data }], guard := none } (.bool false) (HS.out _ hb) ?_ ?_
 ·rintro w' ⟨s0, s1, s2, s3, s4, s5, s6⟩
  go_simp <;> first | with_reducible rfl | assumption
 refine tkq hQp HS1 13 { dst := some 19, op := .move (.tmp 18), type := 4, pos := "ref.go:37", after := #[{ on := 12, ground := .data }, { on := 8, ground := .chain }], guard := none } (.bool false) (HS.out _ hb) ?_ ?_
 ·rintro w' ⟨s0, s1, s2, s3, s4, s5, s6⟩
  go_simp <;> first | with_reducible rfl | assumption
 refine tkq hQp HS1 14 { dst := some 20, op := .fieldAddr 107 (.tmp 3) 1, type := 0, pos := "ref.go:37", after := #[{ on := 13, ground := Ground.guard }], guard := some (13, false) } (.pointer (some ⟨g + 1, 1, none⟩)) (HS.out _ hb) ?_ ?_
 ·rintro w' ⟨s0, s1, s2, s3, s4, s5, s6⟩
  go_simp <;> first | with_reducible rfl | assumption
 refine tkq hQp HS1 15 { dst := some 21, op := .load 3 (.tmp 20), type := 3, pos := "ref.go:37", after := #[{ on := 14, ground := .data }, { on := 13, ground := Ground.guard }], guard := some (13, false) } (.int .i64 (t : Int)) (HS.out _ hb) ?_ ?_
 ·rintro w' ⟨s0, s1, s2, s3, s4, s5, s6⟩
  go_simp <;> first | with_reducible rfl | assumption
 show wpAnyH Tryz.prog .any mops Q S 12 #[true, true, true, true, true, true, true, true, true, true, true, true, true, true, true, true, false, false, false, false, false, false, false, false, false, false, false, false] { tmps := #[pv, sv, .pointer (some ⟨g, 0, none⟩), .pointer (some ⟨g + 1, 0, none⟩), .bool false, u, .pointer (some ⟨g + 1, 0, none⟩), .int .u8 1, .bool false, .bool false, undef, undef, undef, .bool false, .bool false, .pointer (some ⟨g + 1, 1, none⟩), .int .i64 (t : Int), .bool false, .bool false, .bool false, .pointer (some ⟨g + 1, 1, none⟩), .int .i64 (t : Int), u, u, u, u, u, u, u, u, u, u, u, u, u, u, u, u, u, u, u, u, u, u, u, u, u, u, u, u, u, u, u, u, u, u, u], defers := [] } w1.drew
 refine tkq hQp HS1 16 { dst := some 22, op := .load 23 (.tmp 2), type := 23, pos := "ref.go:37", after := #[{ on := 13, ground := Ground.guard }], guard := some (13, false) } (.agg #[.int .i64 k, .int .i64 r, .int .i64 c, .int .i64 q]) (HS.out _ hb) ?_ ?_
 ·rintro w' ⟨s0, s1, s2, s3, s4, s5, s6⟩
  go_simp <;> first | with_reducible rfl | assumption
 show wpAnyH Tryz.prog .any mops Q S 11 #[true, true, true, true, true, true, true, true, true, true, true, true, true, true, true, true, true, false, false, false, false, false, false, false, false, false, false, false] { tmps := #[pv, sv, .pointer (some ⟨g, 0, none⟩), .pointer (some ⟨g + 1, 0, none⟩), .bool false, u, .pointer (some ⟨g + 1, 0, none⟩), .int .u8 1, .bool false, .bool false, undef, undef, undef, .bool false, .bool false, .pointer (some ⟨g + 1, 1, none⟩), .int .i64 (t : Int), .bool false, .bool false, .bool false, .pointer (some ⟨g + 1, 1, none⟩), .int .i64 (t : Int), .agg #[.int .i64 k, .int .i64 r, .int .i64 c, .int .i64 q], u, u, u, u, u, u, u, u, u, u, u, u, u, u, u, u, u, u, u, u, u, u, u, u, u, u, u, u, u, u, u, u, u, u], defers := [] } w1.drew
 refine wpAnyH_ready (rs := [17]) (by kernel_rfl) (by simp) ?_
 refine AllReadyH.cons (o := { dst := some 23, op := .call { callee := .value (.func 111), args := #[.tmp 22], argTypes := #[23] }, type := 3, pos := "ref.go:37", after := #[{ on := 16, ground := .data }, { on := 13, ground := .chain }, { on := 13, ground := Ground.guard }], guard := some (13, false) }) rfl (fun K hK => ?_) AllReadyH.nil
 go_simp
 refine (HN _).mono ?_
 rintro e wa ⟨rfl, ha⟩
 refine hK.out _ _ (HS.out _ (below_then hb ha)) (fun hHeld2 => ?_)
 replace hb : Below w1.heap.size w1 wa := (below_then hb ha)
 clear hK K hHeld
 have hHeld := hHeld2
 clear hHeld2
 show wpAnyH Tryz.prog .any mops Q S 10 #[true, true, true, true, true, true, true, true, true, true, true, true, true, true, true, true, true, true, false, false, false, false, false, false, false, false, false, false] { tmps := #[pv, sv, .pointer (some ⟨g, 0, none⟩), .pointer (some ⟨g + 1, 0, none⟩), .bool false, u, .pointer (some ⟨g + 1, 0, none⟩), .int .u8 1, .bool false, .bool false, undef, undef, undef, .bool false, .bool false, .pointer (some ⟨g + 1, 1, none⟩), .int .i64 (t : Int), .bool false, .bool false, .bool false, .pointer (some ⟨g + 1, 1, none⟩), .int .i64 (t : Int), .agg #[.int .i64 k, .int .i64 r, .int .i64 c, .int .i64 q], .int .i64 (N : Int), u, u, u, u, u, u, u, u, u, u, u, u, u, u, u, u, u, u, u, u, u, u, u, u, u, u, u, u, u, u, u, u, u], defers := [] } wa
 refine tkq hQp HS1 18 { dst := some 24, op := .binOp BinOp.geq 3 (.tmp 21) (.tmp 23) 3, type := 4, pos := "ref.go:37", after := #[{ on := 15, ground := .data }, { on := 17, ground := .data }, { on := 13, ground := Ground.guard }], guard := some (13, false) } (.bool false) (HS.out _ hb) ?_ ?_
 ·rintro w' ⟨s0, s1, s2, s3, s4, s5, s6⟩
  go_simp <;> first | with_reducible rfl | assumption
 refine tkq hQp HS1 19 { dst := some 25, op := .pick (.tmp 19) (.const (Value.bool true)) (.tmp 24), type := 4, pos := "ref.go:37", after := #[{ on := 13, ground := .data }, { on := 18, ground := .data }], guard := none } (.bool false) (HS.out _ hb) ?_ ?_
 ·rintro w' ⟨s0, s1, s2, s3, s4, s5, s6⟩
  go_simp <;> first | with_reducible rfl | assumption
 show wpAnyH Tryz.prog .any mops Q S 8 #[true, true, true, true, true, true, true, true, true, true, true, true, true, true, true, true, true, true, true, true, false, false, false, false, false, false, false, false] { tmps := #[pv, sv, .pointer (some ⟨g, 0, none⟩), .pointer (some ⟨g + 1, 0, none⟩), .bool false, u, .pointer (some ⟨g + 1, 0, none⟩), .int .u8 1, .bool false, .bool false, undef, undef, undef, .bool false, .bool false, .pointer (some ⟨g + 1, 1, none⟩), .int .i64 (t : Int), .bool false, .bool false, .bool false, .pointer (some ⟨g + 1, 1, none⟩), .int .i64 (t : Int), .agg #[.int .i64 k, .int .i64 r, .int .i64 c, .int .i64 q], .int .i64 (N : Int), .bool false, .bool false, u, u, u, u, u, u, u, u, u, u, u, u, u, u, u, u, u, u, u, u, u, u, u, u, u, u, u, u, u, u, u], defers := [] } wa
 refine tkq hQp HS1 20 { dst := some 26, op := .move (.tmp 25), type := 4, pos := "ref.go:37", after := #[{ on := 19, ground := .data }, { on := 17, ground := .chain }], guard := none } (.bool false) (HS.out _ hb) ?_ ?_
 ·rintro w' ⟨s0, s1, s2, s3, s4, s5, s6⟩
  go_simp <;> first | with_reducible rfl | assumption
 refine tkq hQp HS1 21 { dst := some 27, op := .fieldAddr 107 (.tmp 3) 5, type := 0, pos := "ref.go:37", after := #[{ on := 20, ground := Ground.guard }], guard := some (20, false) } (.pointer (some ⟨g + 1, 5, none⟩)) (HS.out _ hb) ?_ ?_
 ·rintro w' ⟨s0, s1, s2, s3, s4, s5, s6⟩
  go_simp <;> first | with_reducible rfl | assumption
 refine tkq hQp HS1 22 { dst := some 28, op := .load 36 (.tmp 27), type := 36, pos := "ref.go:37", after := #[{ on := 21, ground := .data }, { on := 20, ground := Ground.guard }], guard := some (20, false) } (.slice bo dn cb) (HS.out _ hb) ?_ ?_
 ·rintro w' ⟨s0, s1, s2, s3, s4, s5, s6⟩
  go_simp <;> first | with_reducible rfl | assumption
 refine tkq hQp HS1 23 { dst := some 29, op := .call { callee := Callee.builtin Builtin.len, args := #[.tmp 28], argTypes := #[36] }, type := 3, pos := "ref.go:37", after := #[{ on := 22, ground := .data }, { on := 20, ground := Ground.guard }], guard := some (20, false) } (.int .i64 (dn : Int)) (HS.out _ hb) ?_ ?_
 ·rintro w' ⟨s0, s1, s2, s3, s4, s5, s6⟩
  go_simp <;> first | with_reducible rfl | assumption
 show wpAnyH Tryz.prog .any mops Q S 4 #[true, true, true, true, true, true, true, true, true, true, true, true, true, true, true, true, true, true, true, true, true, true, true, true, false, false, false, false] { tmps := #[pv, sv, .pointer (some ⟨g, 0, none⟩), .pointer (some ⟨g + 1, 0, none⟩), .bool false, u, .pointer (some ⟨g + 1, 0, none⟩), .int .u8 1, .bool false, .bool false, undef, undef, undef, .bool false, .bool false, .pointer (some ⟨g + 1, 1, none⟩), .int .i64 (t : Int), .bool false, .bool false, .bool false, .pointer (some ⟨g + 1, 1, none⟩), .int .i64 (t : Int), .agg #[.int .i64 k, .int .i64 r, .int .i64 c, .int .i64 q], .int .i64 (N : Int), .bool false, .bool false, .bool false, .pointer (some ⟨g + 1, 5, none⟩), .slice bo dn cb, .int .i64 (dn : Int), u, u, u, u, u, u, u, u, u, u, u, u, u, u, u, u, u, u, u, u, u, u, u, u, u, u, u], defers := [] } wa
 refine tkq hQp HS1 24 { dst := some 30, op := .fieldAddr 23 (.tmp 2) 2, type := 0, pos := "ref.go:37", after := #[{ on := 20, ground := Ground.guard }], guard := some (20, false) } (.pointer (some ⟨g, 2, none⟩)) (HS.out _ hb) ?_ ?_
 ·rintro w' ⟨s0, s1, s2, s3, s4, s5, s6⟩
  go_simp <;> first | with_reducible rfl | assumption
 refine tkq hQp HS1 25 { dst := some 31, op := .load 3 (.tmp 30), type := 3, pos := "ref.go:37", after := #[{ on := 24, ground := .data }, { on := 20, ground := Ground.guard }], guard := some (20, false) } (.int .i64 c) (HS.out _ hb) ?_ ?_
 ·rintro w' ⟨s0, s1, s2, s3, s4, s5, s6⟩
  go_simp <;> first | with_reducible rfl | assumption
 refine tkq hQp HS1 26 { dst := some 32, op := .binOp BinOp.neq 3 (.tmp 29) (.tmp 31) 3, type := 4, pos := "ref.go:37", after := #[{ on := 23, ground := .data }, { on := 25, ground := .data }, { on := 20, ground := Ground.guard }], guard := some (20, false) } (.bool false) (HS.out _ hb) ?_ ?_
 ·rintro w' ⟨s0, s1, s2, s3, s4, s5, s6⟩
  go_simp <;> first | with_reducible rfl | assumption
 refine tkq hQp HS1 27 { dst := some 33, op := .pick (.tmp 26) (.const (Value.bool true)) (.tmp 32), type := 4, pos := "ref.go:37", after := #[{ on := 20, ground := .data }, { on := 26, ground := .data }], guard := none } (.bool false) (HS.out _ hb) ?_ ?_
 ·rintro w' ⟨s0, s1, s2, s3, s4, s5, s6⟩
  go_simp <;> first | with_reducible rfl | assumption
 show wpAnyH Tryz.prog .any mops Q S 0 #[true, true, true, true, true, true, true, true, true, true, true, true, true, true, true, true, true, true, true, true, true, true, true, true, true, true, true, true] { tmps := #[pv, sv, .pointer (some ⟨g, 0, none⟩), .pointer (some ⟨g + 1, 0, none⟩), .bool false, u, .pointer (some ⟨g + 1, 0, none⟩), .int .u8 1, .bool false, .bool false, undef, undef, undef, .bool false, .bool false, .pointer (some ⟨g + 1, 1, none⟩), .int .i64 (t : Int), .bool false, .bool false, .bool false, .pointer (some ⟨g + 1, 1, none⟩), .int .i64 (t : Int), .agg #[.int .i64 k, .int .i64 r, .int .i64 c, .int .i64 q], .int .i64 (N : Int), .bool false, .bool false, .bool false, .pointer (some ⟨g + 1, 5, none⟩), .slice bo dn cb, .int .i64 (dn : Int), .pointer (some ⟨g, 2, none⟩), .int .i64 c, .bool false, .bool false, u, u, u, u, u, u, u, u, u, u, u, u, u, u, u, u, u, u, u, u, u, u, u], defers := [] } wa
 refine wpAnyH_done (by kernel_rfl) ?_ _
 exact HQ.out _ hb
theorem may_2big {pv sv u : Value} (w1 : World) (k r c q : Int) (g N t _vn _ca dn cb : Nat) (_ce _st : Int) (_ao bo : Option Addr)
  (hS : ∀ v, Below w1.heap.size w1 v -> (v.cell? ⟨g, 0, none⟩ = some (.int .i64 k) /\ v.cell? ⟨g, 1, none⟩ = some (.int .i64 r) /\ v.cell? ⟨g, 2, none⟩ = some (.int .i64 c) /\ v.cell? ⟨g, 3, none⟩ = some (.int .i64 q) /\ v.cell? ⟨g + 1, 0, none⟩ = some (.int .u8 2) /\ v.cell? ⟨g + 1, 1, none⟩ = some (.int .i64 (t : Int)) /\ v.cell? ⟨g + 1, 5, none⟩ = some (.slice bo dn cb)))
  (HN : ∀ w, Calls Tryz.prog 111 #[.agg #[.int .i64 k, .int .i64 r, .int .i64 c, .int .i64 q]] w fun e w' => e = .returned (.int .i64 (N : Int)) /\ Below w.heap.size w w') (h1 : N <= t)
  (Q : Exit -> Act -> World -> Prop) (hQp : ∀ ch a v, Q (.panic ch) a v -> False) (hQ : ∀ wa, Below w1.heap.size w1 wa -> Q .normal { tmps := #[pv, sv, .pointer (some ⟨g, 0, none⟩), .pointer (some ⟨g + 1, 0, none⟩), .bool false, u, .pointer (some ⟨g + 1, 0, none⟩), .int .u8 2, .bool true, .bool true, .pointer (some ⟨g + 1, 0, none⟩), .int .u8 2, .bool false, .bool false, .bool false, .pointer (some ⟨g + 1, 1, none⟩), .int .i64 (t : Int), .bool false, .bool false, .bool false, .pointer (some ⟨g + 1, 1, none⟩), .int .i64 (t : Int), .agg #[.int .i64 k, .int .i64 r, .int .i64 c, .int .i64 q], .int .i64 (N : Int), .bool true, .bool true, .bool true, undef, undef, undef, undef, undef, undef, .bool true, u, u, u, u, u, u, u, u, u, u, u, u, u, u, u, u, u, u, u, u, u, u, u], defers := [] } wa) :
  Code.wp Tryz.prog (Code.region 1 mops true) Q { tmps := #[pv, sv, .pointer (some ⟨g, 0, none⟩), .pointer (some ⟨g + 1, 0, none⟩), .bool false, u, u, u, u, u, u, u, u, u, u, u, u, u, u, u, u, u, u, u, u, u, u, u, u, u, u, u, u, u, u, u, u, u, u, u, u, u, u, u, u, u, u, u, u, u, u, u, u, u, u, u, u], defers := [] } w1 := by
 have HQ : Hid _ := hQ
 obtain ⟨S, HS1, HS⟩ : ∃ S : World -> Prop, Hid (∀ v, S v -> (v.cell? ⟨g, 0, none⟩ = some (.int .i64 k) /\ v.cell? ⟨g, 1, none⟩ = some (.int .i64 r) /\ v.cell? ⟨g, 2, none⟩ = some (.int .i64 c) /\ v.cell? ⟨g, 3, none⟩ = some (.int .i64 q) /\ v.cell? ⟨g + 1, 0, none⟩ = some (.int .u8 2) /\ v.cell? ⟨g + 1, 1, none⟩ = some (.int .i64 (t : Int)) /\ v.cell? ⟨g + 1, 5, none⟩ = some (.slice bo dn cb))) /\ Hid (∀ v, Below w1.heap.size w1 v -> S v) := ⟨fun v => v.cell? ⟨g, 0, none⟩ = some (.int .i64 k) /\ v.cell? ⟨g, 1, none⟩ = some (.int .i64 r) /\ v.cell? ⟨g, 2, none⟩ = some (.int .i64 c) /\ v.cell? ⟨g, 3, none⟩ = some (.int .i64 q) /\ v.cell? ⟨g + 1, 0, none⟩ = some (.int .u8 2) /\ v.cell? ⟨g + 1, 1, none⟩ = some (.int .i64 (t : Int)) /\ v.cell? ⟨g + 1, 5, none⟩ = some (.slice bo dn cb), fun v h => h, hS⟩
 clear hS hQ
 have j4 : ¬ (t : Int) < 0 := by omega
 have j5 : (N : Int) <= (t : Int) := by omega
 refine wp_region_held_drew (S := S) (by kernel_rfl) (HS.out _ (below_drew _ _)) (fun hHeld => ?_)
 have hb : Below w1.heap.size w1 w1.drew := below_drew _ _
 rw [show mops.size = 28 from by kernel_rfl, show Array.replicate 28 false = #[false, false, false, false, false, false, false, false, false, false, false, false, false, false, false, false, false, false, false, false, false, false, false, false, false, false, false, false] from by kernel_rfl]
 refine tkq hQp HS1 0 { dst := some 6, op := .fieldAddr 107 (.tmp 3) 0, type := 0, pos := "ref.go:37", after := #[], guard := none } (.pointer (some ⟨g + 1, 0, none⟩)) (HS.out _ hb) ?_ ?_
 ·rintro w' ⟨s0, s1, s2, s3, s4, s5, s6⟩
  go_simp <;> first | with_reducible rfl | assumption
 refine tkq hQp HS1 1 { dst := some 7, op := .load 5 (.tmp 6), type := 5, pos := "ref.go:37", after := #[{ on := 0, ground := .data }], guard := none } (.int .u8 2) (HS.out _ hb) ?_ ?_
 ·rintro w' ⟨s0, s1, s2, s3, s4, s5, s6⟩
  go_simp <;> first | with_reducible rfl | assumption
 refine tkq hQp HS1 2 { dst := some 8, op := .binOp BinOp.neq 5 (.tmp 7) (.const (.int .u8 1)) 5, type := 4, pos := "ref.go:37", after := #[{ on := 1, ground := .data }], guard := none } (.bool true) (HS.out _ hb) ?_ ?_
 ·rintro w' ⟨s0, s1, s2, s3, s4, s5, s6⟩
  go_simp <;> first | with_reducible rfl | assumption
 refine tkq hQp HS1 3 { dst := some 9, op := .move (.tmp 8), type := 4, pos := "ref.go:37", after := #[{ on := 2, ground := .data }], guard := none } (.bool true) (HS.out _ hb) ?_ ?_
 ·rintro w' ⟨s0, s1, s2, s3, s4, s5, s6⟩
  go_simp <;> first | with_reducible rfl | assumption
 show wpAnyH Tryz.prog .any mops Q S 24 #[true, true, true, true, false, false, false, false, false, false, false, false, false, false, false, false, false, false, false, false, false, false, false, false, false, false, false, false] { tmps := #[pv, sv, .pointer (some ⟨g, 0, none⟩), .pointer (some ⟨g + 1, 0, none⟩), .bool false, u, .pointer (some ⟨g + 1, 0, none⟩), .int .u8 2, .bool true, .bool true, u, u, u, u, u, u, u, u, u, u, u, u, u, u, u, u, u, u, u, u, u, u, u, u, u, u, u, u, u, u, u, u, u, u, u, u, u, u, u, u, u, u, u, u, u, u, u], defers := [] } w1.drew
 refine tkq hQp HS1 4 { dst := some 10, op := .fieldAddr 107 (.tmp 3) 0, type := 0, pos := "ref.go:37", after := #[{ on := 3, ground := Ground.guard }], guard := some (3, true) } (.pointer (some ⟨g + 1, 0, none⟩)) (HS.out _ hb) ?_ ?_
 ·rintro w' ⟨s0, s1, s2, s3, s4, s5, s6⟩
  go_simp <;> first | with_reducible rfl | assumption
 refine tkq hQp HS1 5 { dst := some 11, op := .load 5 (.tmp 10), type := 5, pos := "ref.go:37", after := #[{ on := 4, ground := .data }, { on := 3, ground := Ground.guard }], guard := some (3, true) } (.int .u8 2) (HS.out _ hb) ?_ ?_
 ·rintro w' ⟨s0, s1, s2, s3, s4, s5, s6⟩
  go_simp <;> first | with_reducible rfl | assumption
 refine tkq hQp HS1 6 { dst := some 12, op := .binOp BinOp.neq 5 (.tmp 11) (.const (.int .u8 2)) 5, type := 4, pos := "ref.go:37", after := #[{ on := 5, ground := .data }, { on := 3, ground := Ground.guard }], guard := some (3, true) } (.bool false) (HS.out _ hb) ?_ ?_
 ·rintro w' ⟨s0, s1, s2, s3, s4, s5, s6⟩
  go_simp <;> first | with_reducible rfl | assumption
 refine tkq hQp HS1 7 { dst := some 13, op := .pick (.tmp 9) (.tmp 12) (.const (Value.bool false)), type := 4, pos := "ref.go:37", after := #[{ on := 3, ground := .data }, { on := 6, ground := .data }], guard := none } (.bool false) (HS.out _ hb) ?_ ?_
 ·rintro w' ⟨s0, s1, s2, s3, s4, s5, s6⟩
  go_simp <;> first | with_reducible rfl | assumption
 show wpAnyH Tryz.prog .any mops Q S 20 #[true, true, true, true, true, true, true, true, false, false, false, false, false, false, false, false, false, false, false, false, false, false, false, false, false, false, false, false] { tmps := #[pv, sv, .pointer (some ⟨g, 0, none⟩), .pointer (some ⟨g + 1, 0, none⟩), .bool false, u, .pointer (some ⟨g + 1, 0, none⟩), .int .u8 2, .bool true, .bool true, .pointer (some ⟨g + 1, 0, none⟩), .int .u8 2, .bool false, .bool false, u, u, u, u, u, u, u, u, u, u, u, u, u, u, u, u, u, u, u, u, u, u, u, u, u, u, u, u, u, u, u, u, u, u, u, u, u, u, u, u, u, u, u], defers := [] } w1.drew
 refine tkq hQp HS1 8 { dst := some 14, op := .move (.tmp 13), type := 4, pos := "ref.go:37", after := #[{ on := 7, ground := .data }, { on := 3, ground := .chain }], guard := none } (.bool false) (HS.out _ hb) ?_ ?_
 ·rintro w' ⟨s0, s1, s2, s3, s4, s5, s6⟩
  go_simp <;> first | with_reducible rfl | assumption
 refine tkq hQp HS1 9 { dst := some 15, op := .fieldAddr 107 (.tmp 3) 1, type := 0, pos := "ref.go:37", after := #[{ on := 8, ground := Ground.guard }], guard := some (8, false) } (.pointer (some ⟨g + 1, 1, none⟩)) (HS.out _ hb) ?_ ?_
 ·rintro w' ⟨s0, s1, s2, s3, s4, s5, s6⟩
  go_simp <;> first | with_reducible rfl | assumption
 refine tkq hQp HS1 10 { dst := some 16, op := .load 3 (.tmp 15), type := 3, pos := "ref.go:37", after := #[{ on := 9, ground := .data }, { on := 8, ground := Ground.guard }], guard := some (8, false) } (.int .i64 (t : Int)) (HS.out _ hb) ?_ ?_
 ·rintro w' ⟨s0, s1, s2, s3, s4, s5, s6⟩
  go_simp <;> first | with_reducible rfl | assumption
 refine tkq hQp HS1 11 { dst := some 17, op := .binOp BinOp.lss 3 (.tmp 16) (.const (.int .i64 0)) 3, type := 4, pos := "ref.go:37", after := #[{ on := 10, ground := .data }, { on := 8, ground := Ground.guard }], guard := some (8, false) } (.bool false) (HS.out _ hb) ?_ ?_
 ·rintro w' ⟨s0, s1, s2, s3, s4, s5, s6⟩
  go_simp <;> first | with_reducible rfl | assumption
 show wpAnyH Tryz.prog .any mops Q S 16 #[true, true, true, true, true, true, true, true, true, true, true, true, false, false, false, false, false, false, false, false, false, false, false, false, false, false, false, false] { tmps := #[pv, sv, .pointer (some ⟨g, 0, none⟩), .pointer (some ⟨g + 1, 0, none⟩), .bool false, u, .pointer (some ⟨g + 1, 0, none⟩), .int .u8 2, .bool true, .bool true, .pointer (some ⟨g + 1, 0, none⟩), .int .u8 2, .bool false, .bool false, .bool false, .pointer (some ⟨g + 1, 1, none⟩), .int .i64 (t : Int), .bool false, u, u, u, u, u, u, u, u, u, u, u, u, u, u, u, u, u, u, u, u, u, u, u, u, u, u, u, u, u, u, u, u, u, u, u, u, u, u, u], defers := [] } w1.drew
 refine tkq hQp HS1 12 { dst := some 18, op := .pick (.tmp 14) (.const (Value.bool true)) (.tmp 17), type := 4, pos := "ref.go:37", after := #[{ on := 8, ground := .data }, { on := 11, ground := .data }], guard := none } (.bool false) (HS.out _ hb) ?_ ?_
 ·rintro w' ⟨s0, s1, s2, s3, s4, s5, s6⟩
  go_simp <;> first | with_reducible rfl | assumption
 refine tkq hQp HS1 13 { dst := some 19, op := .move (.tmp 18), type := 4, pos := "ref.go:37", after := #[{ on := 12, ground := .data }, { on := 8, ground := .chain }], guard := none } (.bool false) (HS.out _ hb) ?_ ?_
 ·rintro w' ⟨s0, s1, s2, s3, s4, s5, s6⟩
  go_simp <;> first | with_reducible rfl | assumption
 refine tkq hQp HS1 14 { dst := some 20, op := .fieldAddr 107 (.tmp 3) 1, type := 0, pos := "ref.go:37", after := #[{ on := 13, ground := Ground.guard }], guard := some (13, false) } (.pointer (some ⟨g + 1, 1, none⟩)) (HS.out _ hb) ?_ ?_
 ·rintro w' ⟨s0, s1, s2, s3, s4, s5, s6⟩
  go_simp <;> first | with_reducible rfl | assumption
 refine tkq hQp HS1 15 { dst := some 21, op := .load 3 (.tmp 20), type := 3, pos := "ref.go:37", after := #[{ on := 14, ground := .data }, { on := 13, ground := Ground.guard }], guard := some (13, false) } (.int .i64 (t : Int)) (HS.out _ hb) ?_ ?_
 ·rintro w' ⟨s0, s1, s2, s3, s4, s5, s6⟩
  go_simp <;> first | with_reducible rfl | assumption
 show wpAnyH Tryz.prog .any mops Q S 12 #[true, true, true, true, true, true, true, true, true, true, true, true, true, true, true, true, false, false, false, false, false, false, false, false, false, false, false, false] { tmps := #[pv, sv, .pointer (some ⟨g, 0, none⟩), .pointer (some ⟨g + 1, 0, none⟩), .bool false, u, .pointer (some ⟨g + 1, 0, none⟩), .int .u8 2, .bool true, .bool true, .pointer (some ⟨g + 1, 0, none⟩), .int .u8 2, .bool false, .bool false, .bool false, .pointer (some ⟨g + 1, 1, none⟩), .int .i64 (t : Int), .bool false, .bool false, .bool false, .pointer (some ⟨g + 1, 1, none⟩), .int .i64 (t : Int), u, u, u, u, u, u, u, u, u, u, u, u, u, u, u, u, u, u, u, u, u, u, u, u, u, u, u, u, u, u, u, u, u, u, u], defers := [] } w1.drew
 refine tkq hQp HS1 16 { dst := some 22, op := .load 23 (.tmp 2), type := 23, pos := "ref.go:37", after := #[{ on := 13, ground := Ground.guard }], guard := some (13, false) } (.agg #[.int .i64 k, .int .i64 r, .int .i64 c, .int .i64 q]) (HS.out _ hb) ?_ ?_
 ·rintro w' ⟨s0, s1, s2, s3, s4, s5, s6⟩
  go_simp <;> first | with_reducible rfl | assumption
 show wpAnyH Tryz.prog .any mops Q S 11 #[true, true, true, true, true, true, true, true, true, true, true, true, true, true, true, true, true, false, false, false, false, false, false, false, false, false, false, false] { tmps := #[pv, sv, .pointer (some ⟨g, 0, none⟩), .pointer (some ⟨g + 1, 0, none⟩), .bool false, u, .pointer (some ⟨g + 1, 0, none⟩), .int .u8 2, .bool true, .bool true, .pointer (some ⟨g + 1, 0, none⟩), .int .u8 2, .bool false, .bool false, .bool false, .pointer (some ⟨g + 1, 1, none⟩), .int .i64 (t : Int), .bool false, .bool false, .bool false, .pointer (some ⟨g + 1, 1, none⟩), .int .i64 (t : Int), .agg #[.int .i64 k, .int .i64 r, .int .i64 c, .int .i64 q], u, u, u, u, u, u, u, u, u, u, u, u, u, u, u, u, u, u, u, u, u, u, u, u, u, u, u, u, u, u, u, u, u, u], defers := [] } w1.drew
 refine wpAnyH_ready (rs := [17]) (by kernel_rfl) (by simp) ?_
 refine AllReadyH.cons (o := { dst := some 23, op := .call { callee := .value (.func 111), args := #[.tmp 22], argTypes := #[23] }, type := 3, pos := "ref.go:37", after := #[{ on := 16, ground := .data }, { on := 13, ground := .chain }, { on := 13, ground := Ground.guard }], guard := some (13, false) }) rfl (fun K hK => ?_) AllReadyH.nil
 go_simp
 refine (HN _).mono ?_
 rintro e wa ⟨rfl, ha⟩
 refine hK.out _ _ (HS.out _ (below_then hb ha)) (fun hHeld2 => ?_)
 replace hb : Below w1.heap.size w1 wa := (below_then hb ha)
 clear hK K hHeld
 have hHeld := hHeld2
 clear hHeld2
 show wpAnyH Tryz.prog .any mops Q S 10 #[true, true, true, true, true, true, true, true, true, true, true, true, true, true, true, true, true, true, false, false, false, false, false, false, false, false, false, false] { tmps := #[pv, sv, .pointer (some ⟨g, 0, none⟩), .pointer (some ⟨g + 1, 0, none⟩), .bool false, u, .pointer (some ⟨g + 1, 0, none⟩), .int .u8 2, .bool true, .bool true, .pointer (some ⟨g + 1, 0, none⟩), .int .u8 2, .bool false, .bool false, .bool false, .pointer (some ⟨g + 1, 1, none⟩), .int .i64 (t : Int), .bool false, .bool false, .bool false, .pointer (some ⟨g + 1, 1, none⟩), .int .i64 (t : Int), .agg #[.int .i64 k, .int .i64 r, .int .i64 c, .int .i64 q], .int .i64 (N : Int), u, u, u, u, u, u, u, u, u, u, u, u, u, u, u, u, u, u, u, u, u, u, u, u, u, u, u, u, u, u, u, u, u], defers := [] } wa
 refine tkq hQp HS1 18 { dst := some 24, op := .binOp BinOp.geq 3 (.tmp 21) (.tmp 23) 3, type := 4, pos := "ref.go:37", after := #[{ on := 15, ground := .data }, { on := 17, ground := .data }, { on := 13, ground := Ground.guard }], guard := some (13, false) } (.bool true) (HS.out _ hb) ?_ ?_
 ·rintro w' ⟨s0, s1, s2, s3, s4, s5, s6⟩
  go_simp <;> first | with_reducible rfl | assumption
 refine tkq hQp HS1 19 { dst := some 25, op := .pick (.tmp 19) (.const (Value.bool true)) (.tmp 24), type := 4, pos := "ref.go:37", after := #[{ on := 13, ground := .data }, { on := 18, ground := .data }], guard := none } (.bool true) (HS.out _ hb) ?_ ?_
 ·rintro w' ⟨s0, s1, s2, s3, s4, s5, s6⟩
  go_simp <;> first | with_reducible rfl | assumption
 show wpAnyH Tryz.prog .any mops Q S 8 #[true, true, true, true, true, true, true, true, true, true, true, true, true, true, true, true, true, true, true, true, false, false, false, false, false, false, false, false] { tmps := #[pv, sv, .pointer (some ⟨g, 0, none⟩), .pointer (some ⟨g + 1, 0, none⟩), .bool false, u, .pointer (some ⟨g + 1, 0, none⟩), .int .u8 2, .bool true, .bool true, .pointer (some ⟨g + 1, 0, none⟩), .int .u8 2, .bool false, .bool false, .bool false, .pointer (some ⟨g + 1, 1, none⟩), .int .i64 (t : Int), .bool false, .bool false, .bool false, .pointer (some ⟨g + 1, 1, none⟩), .int .i64 (t : Int), .agg #[.int .i64 k, .int .i64 r, .int .i64 c, .int .i64 q], .int .i64 (N : Int), .bool true, .bool true, u, u, u, u, u, u, u, u, u, u, u, u, u, u, u, u, u, u, u, u, u, u, u, u, u, u, u, u, u, u, u], defers := [] } wa
 refine tkq hQp HS1 20 { dst := some 26, op := .move (.tmp 25), type := 4, pos := "ref.go:37", after := #[{ on := 19, ground := .data }, { on := 17, ground := .chain }], guard := none } (.bool true) (HS.out _ hb) ?_ ?_
 ·rintro w' ⟨s0, s1, s2, s3, s4, s5, s6⟩
  go_simp <;> first | with_reducible rfl | assumption
 refine wpAnyH_take (i := 21) (oi := { dst := some 27, op := .fieldAddr 107 (.tmp 3) 5, type := 0, pos := "ref.go:37", after := #[{ on := 20, ground := Ground.guard }], guard := some (20, false) }) (v := undef) rfl (by kernel_rfl) (by kernel_rfl) (by kernel_rfl) (fun _ _ _ h => (hQp _ _ _ h).elim) (Or.inr ⟨by kernel_rfl, rfl⟩) (HS.out _ hb) ?_
 refine wpAnyH_take (i := 22) (oi := { dst := some 28, op := .load 36 (.tmp 27), type := 36, pos := "ref.go:37", after := #[{ on := 21, ground := .data }, { on := 20, ground := Ground.guard }], guard := some (20, false) }) (v := undef) rfl (by kernel_rfl) (by kernel_rfl) (by kernel_rfl) (fun _ _ _ h => (hQp _ _ _ h).elim) (Or.inr ⟨by kernel_rfl, rfl⟩) (HS.out _ hb) ?_
 refine wpAnyH_take (i := 23) (oi := { dst := some 29, op := .call { callee := Callee.builtin Builtin.len, args := #[.tmp 28], argTypes := #[36] }, type := 3, pos := "ref.go:37", after := #[{ on := 22, ground := .data }, { on := 20, ground := Ground.guard }], guard := some (20, false) }) (v := undef) rfl (by kernel_rfl) (by kernel_rfl) (by kernel_rfl) (fun _ _ _ h => (hQp _ _ _ h).elim) (Or.inr ⟨by kernel_rfl, rfl⟩) (HS.out _ hb) ?_
 show wpAnyH Tryz.prog .any mops Q S 4 #[true, true, true, true, true, true, true, true, true, true, true, true, true, true, true, true, true, true, true, true, true, true, true, true, false, false, false, false] { tmps := #[pv, sv, .pointer (some ⟨g, 0, none⟩), .pointer (some ⟨g + 1, 0, none⟩), .bool false, u, .pointer (some ⟨g + 1, 0, none⟩), .int .u8 2, .bool true, .bool true, .pointer (some ⟨g + 1, 0, none⟩), .int .u8 2, .bool false, .bool false, .bool false, .pointer (some ⟨g + 1, 1, none⟩), .int .i64 (t : Int), .bool false, .bool false, .bool false, .pointer (some ⟨g + 1, 1, none⟩), .int .i64 (t : Int), .agg #[.int .i64 k, .int .i64 r, .int .i64 c, .int .i64 q], .int .i64 (N : Int), .bool true, .bool true, .bool true, undef, undef, undef, u, u, u, u, u, u, u, u, u, u, u, u, u, u, u, u, u, u, u, u, u, u, u, u, u, u, u], defers := [] } wa
 refine wpAnyH_take (i := 24) (oi := { dst := some 30, op := .fieldAddr 23 (.tmp 2) 2, type := 0, pos := "ref.go:37", after := #[{ on := 20, ground := Ground.guard }], guard := some (20, false) }) (v := undef) rfl (by kernel_rfl) (by kernel_rfl) (by kernel_rfl) (fun _ _ _ h => (hQp _ _ _ h).elim) (Or.inr ⟨by kernel_rfl, rfl⟩) (HS.out _ hb) ?_
 refine wpAnyH_take (i := 25) (oi := { dst := some 31, op := .load 3 (.tmp 30), type := 3, pos := "ref.go:37", after := #[{ on := 24, ground := .data }, { on := 20, ground := Ground.guard }], guard := some (20, false) }) (v := undef) rfl (by kernel_rfl) (by kernel_rfl) (by kernel_rfl) (fun _ _ _ h => (hQp _ _ _ h).elim) (Or.inr ⟨by kernel_rfl, rfl⟩) (HS.out _ hb) ?_
 refine wpAnyH_take (i := 26) (oi := { dst := some 32, op := .binOp BinOp.neq 3 (.tmp 29) (.tmp 31) 3, type := 4, pos := "ref.go:37", after := #[{ on := 23, ground := .data }, { on := 25, ground := .data }, { on := 20, ground := Ground.guard }], guard := some (20, false) }) (v := undef) rfl (by kernel_rfl) (by kernel_rfl) (by kernel_rfl) (fun _ _ _ h => (hQp _ _ _ h).elim) (Or.inr ⟨by kernel_rfl, rfl⟩) (HS.out _ hb) ?_
 refine tkq hQp HS1 27 { dst := some 33, op := .pick (.tmp 26) (.const (Value.bool true)) (.tmp 32), type := 4, pos := "ref.go:37", after := #[{ on := 20, ground := .data }, { on := 26, ground := .data }], guard := none } (.bool true) (HS.out _ hb) ?_ ?_
 ·rintro w' ⟨s0, s1, s2, s3, s4, s5, s6⟩
  go_simp <;> first | with_reducible rfl | assumption
 show wpAnyH Tryz.prog .any mops Q S 0 #[true, true, true, true, true, true, true, true, true, true, true, true, true, true, true, true, true, true, true, true, true, true, true, true, true, true, true, true] { tmps := #[pv, sv, .pointer (some ⟨g, 0, none⟩), .pointer (some ⟨g + 1, 0, none⟩), .bool false, u, .pointer (some ⟨g + 1, 0, none⟩), .int .u8 2, .bool true, .bool true, .pointer (some ⟨g + 1, 0, none⟩), .int .u8 2, .bool false, .bool false, .bool false, .pointer (some ⟨g + 1, 1, none⟩), .int .i64 (t : Int), .bool false, .bool false, .bool false, .pointer (some ⟨g + 1, 1, none⟩), .int .i64 (t : Int), .agg #[.int .i64 k, .int .i64 r, .int .i64 c, .int .i64 q], .int .i64 (N : Int), .bool true, .bool true, .bool true, undef, undef, undef, undef, undef, undef, .bool true, u, u, u, u, u, u, u, u, u, u, u, u, u, u, u, u, u, u, u, u, u, u, u], defers := [] } wa
 refine wpAnyH_done (by kernel_rfl) ?_ _
 exact HQ.out _ hb
theorem may_2ne {pv sv u : Value} (w1 : World) (k r c q : Int) (g N t _vn _ca dn cb : Nat) (_ce _st : Int) (_ao bo : Option Addr)
  (hS : ∀ v, Below w1.heap.size w1 v -> (v.cell? ⟨g, 0, none⟩ = some (.int .i64 k) /\ v.cell? ⟨g, 1, none⟩ = some (.int .i64 r) /\ v.cell? ⟨g, 2, none⟩ = some (.int .i64 c) /\ v.cell? ⟨g, 3, none⟩ = some (.int .i64 q) /\ v.cell? ⟨g + 1, 0, none⟩ = some (.int .u8 2) /\ v.cell? ⟨g + 1, 1, none⟩ = some (.int .i64 (t : Int)) /\ v.cell? ⟨g + 1, 5, none⟩ = some (.slice bo dn cb)))
  (HN : ∀ w, Calls Tryz.prog 111 #[.agg #[.int .i64 k, .int .i64 r, .int .i64 c, .int .i64 q]] w fun e w' => e = .returned (.int .i64 (N : Int)) /\ Below w.heap.size w w') (h1 : t < N) (h2 : ((dn : Int) != c) = true)
  (Q : Exit -> Act -> World -> Prop) (hQp : ∀ ch a v, Q (.panic ch) a v -> False) (hQ : ∀ wa, Below w1.heap.size w1 wa -> Q .normal { tmps := #[pv, sv, .pointer (some ⟨g, 0, none⟩), .pointer (some ⟨g + 1, 0, none⟩), .bool false, u, .pointer (some ⟨g + 1, 0, none⟩), .int .u8 2, .bool true, .bool true, .pointer (some ⟨g + 1, 0, none⟩), .int .u8 2, .bool false, .bool false, .bool false, .pointer (some ⟨g + 1, 1, none⟩), .int .i64 (t : Int), .bool false, .bool false, .bool false, .pointer (some ⟨g + 1, 1, none⟩), .int .i64 (t : Int), .agg #[.int .i64 k, .int .i64 r, .int .i64 c, .int .i64 q], .int .i64 (N : Int), .bool false, .bool false, .bool false, .pointer (some ⟨g + 1, 5, none⟩), .slice bo dn cb, .int .i64 (dn : Int), .pointer (some ⟨g, 2, none⟩), .int .i64 c, .bool true, .bool true, u, u, u, u, u, u, u, u, u, u, u, u, u, u, u, u, u, u, u, u, u, u, u], defers := [] } wa) :
  Code.wp Tryz.prog (Code.region 1 mops true) Q { tmps := #[pv, sv, .pointer (some ⟨g, 0, none⟩), .pointer (some ⟨g + 1, 0, none⟩), .bool false, u, u, u, u, u, u, u, u, u, u, u, u, u, u, u, u, u, u, u, u, u, u, u, u, u, u, u, u, u, u, u, u, u, u, u, u, u, u, u, u, u, u, u, u, u, u, u, u, u, u, u, u], defers := [] } w1 := by
 have HQ : Hid _ := hQ
 obtain ⟨S, HS1, HS⟩ : ∃ S : World -> Prop, Hid (∀ v, S v -> (v.cell? ⟨g, 0, none⟩ = some (.int .i64 k) /\ v.cell? ⟨g, 1, none⟩ = some (.int .i64 r) /\ v.cell? ⟨g, 2, none⟩ = some (.int .i64 c) /\ v.cell? ⟨g, 3, none⟩ = some (.int .i64 q) /\ v.cell? ⟨g + 1, 0, none⟩ = some (.int .u8 2) /\ v.cell? ⟨g + 1, 1, none⟩ = some (.int .i64 (t : Int)) /\ v.cell? ⟨g + 1, 5, none⟩ = some (.slice bo dn cb))) /\ Hid (∀ v, Below w1.heap.size w1 v -> S v) := ⟨fun v => v.cell? ⟨g, 0, none⟩ = some (.int .i64 k) /\ v.cell? ⟨g, 1, none⟩ = some (.int .i64 r) /\ v.cell? ⟨g, 2, none⟩ = some (.int .i64 c) /\ v.cell? ⟨g, 3, none⟩ = some (.int .i64 q) /\ v.cell? ⟨g + 1, 0, none⟩ = some (.int .u8 2) /\ v.cell? ⟨g + 1, 1, none⟩ = some (.int .i64 (t : Int)) /\ v.cell? ⟨g + 1, 5, none⟩ = some (.slice bo dn cb), fun v h => h, hS⟩
 clear hS hQ
 have j4 : ¬ (t : Int) < 0 := by omega
 have j5 : ¬ N <= t := by omega
 have j6 : ¬ (N : Int) <= (t : Int) := by omega
 refine wp_region_held_drew (S := S) (by kernel_rfl) (HS.out _ (below_drew _ _)) (fun hHeld => ?_)
 have hb : Below w1.heap.size w1 w1.drew := below_drew _ _
 rw [show mops.size = 28 from by kernel_rfl, show Array.replicate 28 false = #[false, false, false, false, false, false, false, false, false, false, false, false, false, false, false, false, false, false, false, false, false, false, false, false, false, false, false, false] from by kernel_rfl]
 refine tkq hQp HS1 0 { dst := some 6, op := .fieldAddr 107 (.tmp 3) 0, type := 0, pos := "ref.go:37", after := #[], guard := none } (.pointer (some ⟨g + 1, 0, none⟩)) (HS.out _ hb) ?_ ?_
 ·rintro w' ⟨s0, s1, s2, s3, s4, s5, s6⟩
  go_simp <;> first | with_reducible rfl | assumption
 refine tkq hQp HS1 1 { dst := some 7, op := .load 5 (.tmp 6), type := 5, pos := "ref.go:37", after := #[{ on := 0, ground := .data }], guard := none } (.int .u8 2) (HS.out _ hb) ?_ ?_
 ·rintro w' ⟨s0, s1, s2, s3, s4, s5, s6⟩
  go_simp <;> first | with_reducible rfl | assumption
 refine tkq hQp HS1 2 { dst := some 8, op := .binOp BinOp.neq 5 (.tmp 7) (.const (.int .u8 1)) 5, type := 4, pos := "ref.go:37", after := #[{ on := 1, ground := .data }], guard := none } (.bool true) (HS.out _ hb) ?_ ?_
 ·rintro w' ⟨s0, s1, s2, s3, s4, s5, s6⟩
  go_simp <;> first | with_reducible rfl | assumption
 refine tkq hQp HS1 3 { dst := some 9, op := .move (.tmp 8), type := 4, pos := "ref.go:37", after := #[{ on := 2, ground := .data }], guard := none } (.bool true) (HS.out _ hb) ?_ ?_
 ·rintro w' ⟨s0, s1, s2, s3, s4, s5, s6⟩
  go_simp <;> first | with_reducible rfl | assumption
 show wpAnyH Tryz.prog .any mops Q S 24 #[true, true, true, true, false, false, false, false, false, false, false, false, false, false, false, false, false, false, false, false, false, false, false, false, false, false, false, false] { tmps := #[pv, sv, .pointer (some ⟨g, 0, none⟩), .pointer (some ⟨g + 1, 0, none⟩), .bool false, u, .pointer (some ⟨g + 1, 0, none⟩), .int .u8 2, .bool true, .bool true, u, u, u, u, u, u, u, u, u, u, u, u, u, u, u, u, u, u, u, u, u, u, u, u, u, u, u, u, u, u, u, u, u, u, u, u, u, u, u, u, u, u, u, u, u, u, u], defers := [] } w1.drew
 refine tkq hQp HS1 4 { dst := some 10, op := .fieldAddr 107 (.tmp 3) 0, type := 0, pos := "ref.go:37", after := #[{ on := 3, ground := Ground.guard }], guard := some (3, true) } (.pointer (some ⟨g + 1, 0, none⟩)) (HS.out _ hb) ?_ ?_
 ·rintro w' ⟨s0, s1, s2, s3, s4, s5, s6⟩
  go_simp <;> first | with_reducible rfl | assumption
 refine tkq hQp HS1 5 { dst := some 11, op := .load 5 (.tmp 10), type := 5, pos := "ref.go:37", after := #[{ on := 4, ground := .data }, { on := 3, ground := Ground.guard }], guard := some (3, true) } (.int .u8 2) (HS.out _ hb) ?_ ?_
 ·rintro w' ⟨s0, s1, s2, s3, s4, s5, s6⟩
  go_simp <;> first | with_reducible rfl | assumption
 refine tkq hQp HS1 6 { dst := some 12, op := .binOp BinOp.neq 5 (.tmp 11) (.const (.int .u8 2)) 5, type := 4, pos := "ref.go:37", after := #[{ on := 5, ground := .data }, { on := 3, ground := Ground.guard }], guard := some (3, true) } (.bool false) (HS.out _ hb) ?_ ?_
 ·rintro w' ⟨s0, s1, s2, s3, s4, s5, s6⟩
  go_simp <;> first | with_reducible rfl | assumption
 refine tkq hQp HS1 7 { dst := some 13, op := .pick (.tmp 9) (.tmp 12) (.const (Value.bool false)), type := 4, pos := "ref.go:37", after := #[{ on := 3, ground := .data }, { on := 6, ground := .data }], guard := none } (.bool false) (HS.out _ hb) ?_ ?_
 ·rintro w' ⟨s0, s1, s2, s3, s4, s5, s6⟩
  go_simp <;> first | with_reducible rfl | assumption
 show wpAnyH Tryz.prog .any mops Q S 20 #[true, true, true, true, true, true, true, true, false, false, false, false, false, false, false, false, false, false, false, false, false, false, false, false, false, false, false, false] { tmps := #[pv, sv, .pointer (some ⟨g, 0, none⟩), .pointer (some ⟨g + 1, 0, none⟩), .bool false, u, .pointer (some ⟨g + 1, 0, none⟩), .int .u8 2, .bool true, .bool true, .pointer (some ⟨g + 1, 0, none⟩), .int .u8 2, .bool false, .bool false, u, u, u, u, u, u, u, u, u, u, u, u, u, u, u, u, u, u, u, u, u, u, u, u, u, u, u, u, u, u, u, u, u, u, u, u, u, u, u, u, u, u, u], defers := [] } w1.drew
 refine tkq hQp HS1 8 { dst := some 14, op := .move (.tmp 13), type := 4, pos := "ref.go:37", after := #[{ on := 7, ground := .data }, { on := 3, ground := .chain }], guard := none } (.bool false) (HS.out _ hb) ?_ ?_
 ·rintro w' ⟨s0, s1, s2, s3, s4, s5, s6⟩
  go_simp <;> first | with_reducible rfl | assumption
 refine tkq hQp HS1 9 { dst := some 15, op := .fieldAddr 107 (.tmp 3) 1, type := 0, pos := "ref.go:37", after := #[{ on := 8, ground := Ground.guard }], guard := some (8, false) } (.pointer (some ⟨g + 1, 1, none⟩)) (HS.out _ hb) ?_ ?_
 ·rintro w' ⟨s0, s1, s2, s3, s4, s5, s6⟩
  go_simp <;> first | with_reducible rfl | assumption
 refine tkq hQp HS1 10 { dst := some 16, op := .load 3 (.tmp 15), type := 3, pos := "ref.go:37", after := #[{ on := 9, ground := .data }, { on := 8, ground := Ground.guard }], guard := some (8, false) } (.int .i64 (t : Int)) (HS.out _ hb) ?_ ?_
 ·rintro w' ⟨s0, s1, s2, s3, s4, s5, s6⟩
  go_simp <;> first | with_reducible rfl | assumption
 refine tkq hQp HS1 11 { dst := some 17, op := .binOp BinOp.lss 3 (.tmp 16) (.const (.int .i64 0)) 3, type := 4, pos := "ref.go:37", after := #[{ on := 10, ground := .data }, { on := 8, ground := Ground.guard }], guard := some (8, false) } (.bool false) (HS.out _ hb) ?_ ?_
 ·rintro w' ⟨s0, s1, s2, s3, s4, s5, s6⟩
  go_simp <;> first | with_reducible rfl | assumption
 show wpAnyH Tryz.prog .any mops Q S 16 #[true, true, true, true, true, true, true, true, true, true, true, true, false, false, false, false, false, false, false, false, false, false, false, false, false, false, false, false] { tmps := #[pv, sv, .pointer (some ⟨g, 0, none⟩), .pointer (some ⟨g + 1, 0, none⟩), .bool false, u, .pointer (some ⟨g + 1, 0, none⟩), .int .u8 2, .bool true, .bool true, .pointer (some ⟨g + 1, 0, none⟩), .int .u8 2, .bool false, .bool false, .bool false, .pointer (some ⟨g + 1, 1, none⟩), .int .i64 (t : Int), .bool false, u, u, u, u, u, u, u, u, u, u, u, u, u, u, u, u, u, u, u, u, u, u, u, u, u, u, u, u, u, u, u, u, u, u, u, u, u, u, u], defers := [] } w1.drew
 refine tkq hQp HS1 12 { dst := some 18, op := .pick (.tmp 14) (.const (Value.bool true)) (.tmp 17), type := 4, pos := "ref.go:37", after := #[{ on := 8, ground := .data }, { on := 11, ground := .data }], guard := none } (.bool false) (HS.out _ hb) ?_ ?_
 ·rintro w' ⟨s0, s1, s2, s3, s4, s5, s6⟩
  go_simp <;> first | with_reducible rfl | assumption
 refine tkq hQp HS1 13 { dst := some 19, op := .move (.tmp 18), type := 4, pos := "ref.go:37", after := #[{ on := 12, ground := .data }, { on := 8, ground := .chain }], guard := none } (.bool false) (HS.out _ hb) ?_ ?_
 ·rintro w' ⟨s0, s1, s2, s3, s4, s5, s6⟩
  go_simp <;> first | with_reducible rfl | assumption
 refine tkq hQp HS1 14 { dst := some 20, op := .fieldAddr 107 (.tmp 3) 1, type := 0, pos := "ref.go:37", after := #[{ on := 13, ground := Ground.guard }], guard := some (13, false) } (.pointer (some ⟨g + 1, 1, none⟩)) (HS.out _ hb) ?_ ?_
 ·rintro w' ⟨s0, s1, s2, s3, s4, s5, s6⟩
  go_simp <;> first | with_reducible rfl | assumption
 refine tkq hQp HS1 15 { dst := some 21, op := .load 3 (.tmp 20), type := 3, pos := "ref.go:37", after := #[{ on := 14, ground := .data }, { on := 13, ground := Ground.guard }], guard := some (13, false) } (.int .i64 (t : Int)) (HS.out _ hb) ?_ ?_
 ·rintro w' ⟨s0, s1, s2, s3, s4, s5, s6⟩
  go_simp <;> first | with_reducible rfl | assumption
 show wpAnyH Tryz.prog .any mops Q S 12 #[true, true, true, true, true, true, true, true, true, true, true, true, true, true, true, true, false, false, false, false, false, false, false, false, false, false, false, false] { tmps := #[pv, sv, .pointer (some ⟨g, 0, none⟩), .pointer (some ⟨g + 1, 0, none⟩), .bool false, u, .pointer (some ⟨g + 1, 0, none⟩), .int .u8 2, .bool true, .bool true, .pointer (some ⟨g + 1, 0, none⟩), .int .u8 2, .bool false, .bool false, .bool false, .pointer (some ⟨g + 1, 1, none⟩), .int .i64 (t : Int), .bool false, .bool false, .bool false, .pointer (some ⟨g + 1, 1, none⟩), .int .i64 (t : Int), u, u, u, u, u, u, u, u, u, u, u, u, u, u, u, u, u, u, u, u, u, u, u, u, u, u, u, u, u, u, u, u, u, u, u], defers := [] } w1.drew
 refine tkq hQp HS1 16 { dst := some 22, op := .load 23 (.tmp 2), type := 23, pos := "ref.go:37", after := #[{ on := 13, ground := Ground.guard }], guard := some (13, false) } (.agg #[.int .i64 k, .int .i64 r, .int .i64 c, .int .i64 q]) (HS.out _ hb) ?_ ?_
 ·rintro w' ⟨s0, s1, s2, s3, s4, s5, s6⟩
  go_simp <;> first | with_reducible rfl | assumption
 show wpAnyH Tryz.prog .any mops Q S 11 #[true, true, true, true, true, true, true, true, true, true, true, true, true, true, true, true, true, false, false, false, false, false, false, false, false, false, false, false] { tmps := #[pv, sv, .pointer (some ⟨g, 0, none⟩), .pointer (some ⟨g + 1, 0, none⟩), .bool false, u, .pointer (some ⟨g + 1, 0, none⟩), .int .u8 2, .bool true, .bool true, .pointer (some ⟨g + 1, 0, none⟩), .int .u8 2, .bool false, .bool false, .bool false, .pointer (some ⟨g + 1, 1, none⟩), .int .i64 (t : Int), .bool false, .bool false, .bool false, .pointer (some ⟨g + 1, 1, none⟩), .int .i64 (t : Int), .agg #[.int .i64 k, .int .i64 r, .int .i64 c, .int .i64 q], u, u, u, u, u, u, u, u, u, u, u, u, u, u, u, u, u, u, u, u, u, u, u, u, u, u, u, u, u, u, u, u, u, u], defers := [] } w1.drew
 refine wpAnyH_ready (rs := [17]) (by kernel_rfl) (by simp) ?_
 refine AllReadyH.cons (o := { dst := some 23, op := .call { callee := .value (.func 111), args := #[.tmp 22], argTypes := #[23] }, type := 3, pos := "ref.go:37", after := #[{ on := 16, ground := .data }, { on := 13, ground := .chain }, { on := 13, ground := Ground.guard }], guard := some (13, false) }) rfl (fun K hK => ?_) AllReadyH.nil
 go_simp
 refine (HN _).mono ?_
 rintro e wa ⟨rfl, ha⟩
 refine hK.out _ _ (HS.out _ (below_then hb ha)) (fun hHeld2 => ?_)
 replace hb : Below w1.heap.size w1 wa := (below_then hb ha)
 clear hK K hHeld
 have hHeld := hHeld2
 clear hHeld2
 show wpAnyH Tryz.prog .any mops Q S 10 #[true, true, true, true, true, true, true, true, true, true, true, true, true, true, true, true, true, true, false, false, false, false, false, false, false, false, false, false] { tmps := #[pv, sv, .pointer (some ⟨g, 0, none⟩), .pointer (some ⟨g + 1, 0, none⟩), .bool false, u, .pointer (some ⟨g + 1, 0, none⟩), .int .u8 2, .bool true, .bool true, .pointer (some ⟨g + 1, 0, none⟩), .int .u8 2, .bool false, .bool false, .bool false, .pointer (some ⟨g + 1, 1, none⟩), .int .i64 (t : Int), .bool false, .bool false, .bool false, .pointer (some ⟨g + 1, 1, none⟩), .int .i64 (t : Int), .agg #[.int .i64 k, .int .i64 r, .int .i64 c, .int .i64 q], .int .i64 (N : Int), u, u, u, u, u, u, u, u, u, u, u, u, u, u, u, u, u, u, u, u, u, u, u, u, u, u, u, u, u, u, u, u, u], defers := [] } wa
 refine tkq hQp HS1 18 { dst := some 24, op := .binOp BinOp.geq 3 (.tmp 21) (.tmp 23) 3, type := 4, pos := "ref.go:37", after := #[{ on := 15, ground := .data }, { on := 17, ground := .data }, { on := 13, ground := Ground.guard }], guard := some (13, false) } (.bool false) (HS.out _ hb) ?_ ?_
 ·rintro w' ⟨s0, s1, s2, s3, s4, s5, s6⟩
  go_simp <;> first | with_reducible rfl | assumption
 refine tkq hQp HS1 19 { dst := some 25, op := .pick (.tmp 19) (.const (Value.bool true)) (.tmp 24), type := 4, pos := "ref.go:37", after := #[{ on := 13, ground := .data }, { on := 18, ground := .data }], guard := none } (.bool false) (HS.out _ hb) ?_ ?_
 ·rintro w' ⟨s0, s1, s2, s3, s4, s5, s6⟩
  go_simp <;> first | with_reducible rfl | assumption
 show wpAnyH Tryz.prog .any mops Q S 8 #[true, true, true, true, true, true, true, true, true, true, true, true, true, true, true, true, true, true, true, true, false, false, false, false, false, false, false, false] { tmps := #[pv, sv, .pointer (some ⟨g, 0, none⟩), .pointer (some ⟨g + 1, 0, none⟩), .bool false, u, .pointer (some ⟨g + 1, 0, none⟩), .int .u8 2, .bool true, .bool true, .pointer (some ⟨g + 1, 0, none⟩), .int .u8 2, .bool false, .bool false, .bool false, .pointer (some ⟨g + 1, 1, none⟩), .int .i64 (t : Int), .bool false, .bool false, .bool false, .pointer (some ⟨g + 1, 1, none⟩), .int .i64 (t : Int), .agg #[.int .i64 k, .int .i64 r, .int .i64 c, .int .i64 q], .int .i64 (N : Int), .bool false, .bool false, u, u, u, u, u, u, u, u, u, u, u, u, u, u, u, u, u, u, u, u, u, u, u, u, u, u, u, u, u, u, u], defers := [] } wa
 refine tkq hQp HS1 20 { dst := some 26, op := .move (.tmp 25), type := 4, pos := "ref.go:37", after := #[{ on := 19, ground := .data }, { on := 17, ground := .chain }], guard := none } (.bool false) (HS.out _ hb) ?_ ?_
 ·rintro w' ⟨s0, s1, s2, s3, s4, s5, s6⟩
  go_simp <;> first | with_reducible rfl | assumption
 refine tkq hQp HS1 21 { dst := some 27, op := .fieldAddr 107 (.tmp 3) 5, type := 0, pos := "ref.go:37", after := #[{ on := 20, ground := Ground.guard }], guard := some (20, false) } (.pointer (some ⟨g + 1, 5, none⟩)) (HS.out _ hb) ?_ ?_
 ·rintro w' ⟨s0, s1, s2, s3, s4, s5, s6⟩
  go_simp <;> first | with_reducible rfl | assumption
 refine tkq hQp HS1 22 { dst := some 28, op := .load 36 (.tmp 27), type := 36, pos := "ref.go:37", after := #[{ on := 21, ground := .data }, { on := 20, ground := Ground.guard }], guard := some (20, false) } (.slice bo dn cb) (HS.out _ hb) ?_ ?_
 ·rintro w' ⟨s0, s1, s2, s3, s4, s5, s6⟩
  go_simp <;> first | with_reducible rfl | assumption
 refine tkq hQp HS1 23 { dst := some 29, op := .call { callee := Callee.builtin Builtin.len, args := #[.tmp 28], argTypes := #[36] }, type := 3, pos := "ref.go:37", after := #[{ on := 22, ground := .data }, { on := 20, ground := Ground.guard }], guard := some (20, false) } (.int .i64 (dn : Int)) (HS.out _ hb) ?_ ?_
 ·rintro w' ⟨s0, s1, s2, s3, s4, s5, s6⟩
  go_simp <;> first | with_reducible rfl | assumption
 show wpAnyH Tryz.prog .any mops Q S 4 #[true, true, true, true, true, true, true, true, true, true, true, true, true, true, true, true, true, true, true, true, true, true, true, true, false, false, false, false] { tmps := #[pv, sv, .pointer (some ⟨g, 0, none⟩), .pointer (some ⟨g + 1, 0, none⟩), .bool false, u, .pointer (some ⟨g + 1, 0, none⟩), .int .u8 2, .bool true, .bool true, .pointer (some ⟨g + 1, 0, none⟩), .int .u8 2, .bool false, .bool false, .bool false, .pointer (some ⟨g + 1, 1, none⟩), .int .i64 (t : Int), .bool false, .bool false, .bool false, .pointer (some ⟨g + 1, 1, none⟩), .int .i64 (t : Int), .agg #[.int .i64 k, .int .i64 r, .int .i64 c, .int .i64 q], .int .i64 (N : Int), .bool false, .bool false, .bool false, .pointer (some ⟨g + 1, 5, none⟩), .slice bo dn cb, .int .i64 (dn : Int), u, u, u, u, u, u, u, u, u, u, u, u, u, u, u, u, u, u, u, u, u, u, u, u, u, u, u], defers := [] } wa
 refine tkq hQp HS1 24 { dst := some 30, op := .fieldAddr 23 (.tmp 2) 2, type := 0, pos := "ref.go:37", after := #[{ on := 20, ground := Ground.guard }], guard := some (20, false) } (.pointer (some ⟨g, 2, none⟩)) (HS.out _ hb) ?_ ?_
 ·rintro w' ⟨s0, s1, s2, s3, s4, s5, s6⟩
  go_simp <;> first | with_reducible rfl | assumption
 refine tkq hQp HS1 25 { dst := some 31, op := .load 3 (.tmp 30), type := 3, pos := "ref.go:37", after := #[{ on := 24, ground := .data }, { on := 20, ground := Ground.guard }], guard := some (20, false) } (.int .i64 c) (HS.out _ hb) ?_ ?_
 ·rintro w' ⟨s0, s1, s2, s3, s4, s5, s6⟩
  go_simp <;> first | with_reducible rfl | assumption
 refine tkq hQp HS1 26 { dst := some 32, op := .binOp BinOp.neq 3 (.tmp 29) (.tmp 31) 3, type := 4, pos := "ref.go:37", after := #[{ on := 23, ground := .data }, { on := 25, ground := .data }, { on := 20, ground := Ground.guard }], guard := some (20, false) } (.bool true) (HS.out _ hb) ?_ ?_
 ·rintro w' ⟨s0, s1, s2, s3, s4, s5, s6⟩
  go_simp <;> first | with_reducible rfl | assumption
 refine tkq hQp HS1 27 { dst := some 33, op := .pick (.tmp 26) (.const (Value.bool true)) (.tmp 32), type := 4, pos := "ref.go:37", after := #[{ on := 20, ground := .data }, { on := 26, ground := .data }], guard := none } (.bool true) (HS.out _ hb) ?_ ?_
 ·rintro w' ⟨s0, s1, s2, s3, s4, s5, s6⟩
  go_simp <;> first | with_reducible rfl | assumption
 show wpAnyH Tryz.prog .any mops Q S 0 #[true, true, true, true, true, true, true, true, true, true, true, true, true, true, true, true, true, true, true, true, true, true, true, true, true, true, true, true] { tmps := #[pv, sv, .pointer (some ⟨g, 0, none⟩), .pointer (some ⟨g + 1, 0, none⟩), .bool false, u, .pointer (some ⟨g + 1, 0, none⟩), .int .u8 2, .bool true, .bool true, .pointer (some ⟨g + 1, 0, none⟩), .int .u8 2, .bool false, .bool false, .bool false, .pointer (some ⟨g + 1, 1, none⟩), .int .i64 (t : Int), .bool false, .bool false, .bool false, .pointer (some ⟨g + 1, 1, none⟩), .int .i64 (t : Int), .agg #[.int .i64 k, .int .i64 r, .int .i64 c, .int .i64 q], .int .i64 (N : Int), .bool false, .bool false, .bool false, .pointer (some ⟨g + 1, 5, none⟩), .slice bo dn cb, .int .i64 (dn : Int), .pointer (some ⟨g, 2, none⟩), .int .i64 c, .bool true, .bool true, u, u, u, u, u, u, u, u, u, u, u, u, u, u, u, u, u, u, u, u, u, u, u], defers := [] } wa
 refine wpAnyH_done (by kernel_rfl) ?_ _
 exact HQ.out _ hb
theorem may_2ok {pv sv u : Value} (w1 : World) (k r c q : Int) (g N t _vn _ca dn cb : Nat) (_ce _st : Int) (_ao bo : Option Addr)
  (hS : ∀ v, Below w1.heap.size w1 v -> (v.cell? ⟨g, 0, none⟩ = some (.int .i64 k) /\ v.cell? ⟨g, 1, none⟩ = some (.int .i64 r) /\ v.cell? ⟨g, 2, none⟩ = some (.int .i64 c) /\ v.cell? ⟨g, 3, none⟩ = some (.int .i64 q) /\ v.cell? ⟨g + 1, 0, none⟩ = some (.int .u8 2) /\ v.cell? ⟨g + 1, 1, none⟩ = some (.int .i64 (t : Int)) /\ v.cell? ⟨g + 1, 5, none⟩ = some (.slice bo dn cb)))
  (HN : ∀ w, Calls Tryz.prog 111 #[.agg #[.int .i64 k, .int .i64 r, .int .i64 c, .int .i64 q]] w fun e w' => e = .returned (.int .i64 (N : Int)) /\ Below w.heap.size w w') (h1 : t < N) (h2 : ((dn : Int) != c) = false)
  (Q : Exit -> Act -> World -> Prop) (hQp : ∀ ch a v, Q (.panic ch) a v -> False) (hQ : ∀ wa, Below w1.heap.size w1 wa -> Q .normal { tmps := #[pv, sv, .pointer (some ⟨g, 0, none⟩), .pointer (some ⟨g + 1, 0, none⟩), .bool false, u, .pointer (some ⟨g + 1, 0, none⟩), .int .u8 2, .bool true, .bool true, .pointer (some ⟨g + 1, 0, none⟩), .int .u8 2, .bool false, .bool false, .bool false, .pointer (some ⟨g + 1, 1, none⟩), .int .i64 (t : Int), .bool false, .bool false, .bool false, .pointer (some ⟨g + 1, 1, none⟩), .int .i64 (t : Int), .agg #[.int .i64 k, .int .i64 r, .int .i64 c, .int .i64 q], .int .i64 (N : Int), .bool false, .bool false, .bool false, .pointer (some ⟨g + 1, 5, none⟩), .slice bo dn cb, .int .i64 (dn : Int), .pointer (some ⟨g, 2, none⟩), .int .i64 c, .bool false, .bool false, u, u, u, u, u, u, u, u, u, u, u, u, u, u, u, u, u, u, u, u, u, u, u], defers := [] } wa) :
  Code.wp Tryz.prog (Code.region 1 mops true) Q { tmps := #[pv, sv, .pointer (some ⟨g, 0, none⟩), .pointer (some ⟨g + 1, 0, none⟩), .bool false, u, u, u, u, u, u, u, u, u, u, u, u, u, u, u, u, u, u, u, u, u, u, u, u, u, u, u, u, u, u, u, u, u, u, u, u, u, u, u, u, u, u, u, u, u, u, u, u, u, u, u, u], defers := [] } w1 := by
 have HQ : Hid _ := hQ
 obtain ⟨S, HS1, HS⟩ : ∃ S : World -> Prop, Hid (∀ v, S v -> (v.cell? ⟨g, 0, none⟩ = some (.int .i64 k) /\ v.cell? ⟨g, 1, none⟩ = some (.int .i64 r) /\ v.cell? ⟨g, 2, none⟩ = some (.int .i64 c) /\ v.cell? ⟨g, 3, none⟩ = some (.int .i64 q) /\ v.cell? ⟨g + 1, 0, none⟩ = some (.int .u8 2) /\ v.cell? ⟨g + 1, 1, none⟩ = some (.int .i64 (t : Int)) /\ v.cell? ⟨g + 1, 5, none⟩ = some (.slice bo dn cb))) /\ Hid (∀ v, Below w1.heap.size w1 v -> S v) := ⟨fun v => v.cell? ⟨g, 0, none⟩ = some (.int .i64 k) /\ v.cell? ⟨g, 1, none⟩ = some (.int .i64 r) /\ v.cell? ⟨g, 2, none⟩ = some (.int .i64 c) /\ v.cell? ⟨g, 3, none⟩ = some (.int .i64 q) /\ v.cell? ⟨g + 1, 0, none⟩ = some (.int .u8 2) /\ v.cell? ⟨g + 1, 1, none⟩ = some (.int .i64 (t : Int)) /\ v.cell? ⟨g + 1, 5, none⟩ = some (.slice bo dn cb), fun v h => h, hS⟩
 clear hS hQ
 have j4 : ¬ (t : Int) < 0 := by omega
 have j5 : ¬ N <= t := by omega
 have j6 : ¬ (N : Int) <= (t : Int) := by omega
 refine wp_region_held_drew (S := S) (by kernel_rfl) (HS.out _ (below_drew _ _)) (fun hHeld => ?_)
 have hb : Below w1.heap.size w1 w1.drew := below_drew _ _
 rw [show mops.size = 28 from by kernel_rfl, show Array.replicate 28 false = #[false, false, false, false, false, false, false, false, false, false, false, false, false, false, false, false, false, false, false, false, false, false, false, false, false, false, false, false] from by kernel_rfl]
 refine tkq hQp HS1 0 { dst := some 6, op := .fieldAddr 107 (.tmp 3) 0, type := 0, pos := "ref.go:37", after := #[], guard := none } (.pointer (some ⟨g + 1, 0, none⟩)) (HS.out _ hb) ?_ ?_
 ·rintro w' ⟨s0, s1, s2, s3, s4, s5, s6⟩
  go_simp <;> first | with_reducible rfl | assumption
 refine tkq hQp HS1 1 { dst := some 7, op := .load 5 (.tmp 6), type := 5, pos := "ref.go:37", after := #[{ on := 0, ground := .data }], guard := none } (.int .u8 2) (HS.out _ hb) ?_ ?_
 ·rintro w' ⟨s0, s1, s2, s3, s4, s5, s6⟩
  go_simp <;> first | with_reducible rfl | assumption
 refine tkq hQp HS1 2 { dst := some 8, op := .binOp BinOp.neq 5 (.tmp 7) (.const (.int .u8 1)) 5, type := 4, pos := "ref.go:37", after := #[{ on := 1, ground := .data }], guard := none } (.bool true) (HS.out _ hb) ?_ ?_
 ·rintro w' ⟨s0, s1, s2, s3, s4, s5, s6⟩
  go_simp <;> first | with_reducible rfl | assumption
 refine tkq hQp HS1 3 { dst := some 9, op := .move (.tmp 8), type := 4, pos := "ref.go:37", after := #[{ on := 2, ground := .data }], guard := none } (.bool true) (HS.out _ hb) ?_ ?_
 ·rintro w' ⟨s0, s1, s2, s3, s4, s5, s6⟩
  go_simp <;> first | with_reducible rfl | assumption
 show wpAnyH Tryz.prog .any mops Q S 24 #[true, true, true, true, false, false, false, false, false, false, false, false, false, false, false, false, false, false, false, false, false, false, false, false, false, false, false, false] { tmps := #[pv, sv, .pointer (some ⟨g, 0, none⟩), .pointer (some ⟨g + 1, 0, none⟩), .bool false, u, .pointer (some ⟨g + 1, 0, none⟩), .int .u8 2, .bool true, .bool true, u, u, u, u, u, u, u, u, u, u, u, u, u, u, u, u, u, u, u, u, u, u, u, u, u, u, u, u, u, u, u, u, u, u, u, u, u, u, u, u, u, u, u, u, u, u, u], defers := [] } w1.drew
 refine tkq hQp HS1 4 { dst := some 10, op := .fieldAddr 107 (.tmp 3) 0, type := 0, pos := "ref.go:37", after := #[{ on := 3, ground := Ground.guard }], guard := some (3, true) } (.pointer (some ⟨g + 1, 0, none⟩)) (HS.out _ hb) ?_ ?_
 ·rintro w' ⟨s0, s1, s2, s3, s4, s5, s6⟩
  go_simp <;> first | with_reducible rfl | assumption
 refine tkq hQp HS1 5 { dst := some 11, op := .load 5 (.tmp 10), type := 5, pos := "ref.go:37", after := #[{ on := 4, ground := .data }, { on := 3, ground := Ground.guard }], guard := some (3, true) } (.int .u8 2) (HS.out _ hb) ?_ ?_
 ·rintro w' ⟨s0, s1, s2, s3, s4, s5, s6⟩
  go_simp <;> first | with_reducible rfl | assumption
 refine tkq hQp HS1 6 { dst := some 12, op := .binOp BinOp.neq 5 (.tmp 11) (.const (.int .u8 2)) 5, type := 4, pos := "ref.go:37", after := #[{ on := 5, ground := .data }, { on := 3, ground := Ground.guard }], guard := some (3, true) } (.bool false) (HS.out _ hb) ?_ ?_
 ·rintro w' ⟨s0, s1, s2, s3, s4, s5, s6⟩
  go_simp <;> first | with_reducible rfl | assumption
 refine tkq hQp HS1 7 { dst := some 13, op := .pick (.tmp 9) (.tmp 12) (.const (Value.bool false)), type := 4, pos := "ref.go:37", after := #[{ on := 3, ground := .data }, { on := 6, ground := .data }], guard := none } (.bool false) (HS.out _ hb) ?_ ?_
 ·rintro w' ⟨s0, s1, s2, s3, s4, s5, s6⟩
  go_simp <;> first | with_reducible rfl | assumption
 show wpAnyH Tryz.prog .any mops Q S 20 #[true, true, true, true, true, true, true, true, false, false, false, false, false, false, false, false, false, false, false, false, false, false, false, false, false, false, false, false] { tmps := #[pv, sv, .pointer (some ⟨g, 0, none⟩), .pointer (some ⟨g + 1, 0, none⟩), .bool false, u, .pointer (some ⟨g + 1, 0, none⟩), .int .u8 2, .bool true, .bool true, .pointer (some ⟨g + 1, 0, none⟩), .int .u8 2, .bool false, .bool false, u, u, u, u, u, u, u, u, u, u, u, u, u, u, u, u, u, u, u, u, u, u, u, u, u, u, u, u, u, u, u, u, u, u, u, u, u, u, u, u, u, u, u], defers := [] } w1.drew
 refine tkq hQp HS1 8 { dst := some 14, op := .move (.tmp 13), type := 4, pos := "ref.go:37", after := #[{ on := 7, ground := .data }, { on := 3, ground := .chain }], guard := none } (.bool false) (HS.out _ hb) ?_ ?_
 ·rintro w' ⟨s0, s1, s2, s3, s4, s5, s6⟩
  go_simp <;> first | with_reducible rfl | assumption
 refine tkq hQp HS1 9 { dst := some 15, op := .fieldAddr 107 (.tmp 3) 1, type := 0, pos := "ref.go:37", after := #[{ on := 8, ground := Ground.guard }], guard := some (8, false) } (.pointer (some ⟨g + 1, 1, none⟩)) (HS.out _ hb) ?_ ?_
 ·rintro w' ⟨s0, s1, s2, s3, s4, s5, s6⟩
  go_simp <;> first | with_reducible rfl | assumption
 refine tkq hQp HS1 10 { dst := some 16, op := .load 3 (.tmp 15), type := 3, pos := "ref.go:37", after := #[{ on := 9, ground := .data }, { on := 8, ground := Ground.guard }], guard := some (8, false) } (.int .i64 (t : Int)) (HS.out _ hb) ?_ ?_
 ·rintro w' ⟨s0, s1, s2, s3, s4, s5, s6⟩
  go_simp <;> first | with_reducible rfl | assumption
 refine tkq hQp HS1 11 { dst := some 17, op := .binOp BinOp.lss 3 (.tmp 16) (.const (.int .i64 0)) 3, type := 4, pos := "ref.go:37", after := #[{ on := 10, ground := .data }, { on := 8, ground := Ground.guard }], guard := some (8, false) } (.bool false) (HS.out _ hb) ?_ ?_
 ·rintro w' ⟨s0, s1, s2, s3, s4, s5, s6⟩
  go_simp <;> first | with_reducible rfl | assumption
 show wpAnyH Tryz.prog .any mops Q S 16 #[true, true, true, true, true, true, true, true, true, true, true, true, false, false, false, false, false, false, false, false, false, false, false, false, false, false, false, false] { tmps := #[pv, sv, .pointer (some ⟨g, 0, none⟩), .pointer (some ⟨g + 1, 0, none⟩), .bool false, u, .pointer (some ⟨g + 1, 0, none⟩), .int .u8 2, .bool true, .bool true, .pointer (some ⟨g + 1, 0, none⟩), .int .u8 2, .bool false, .bool false, .bool false, .pointer (some ⟨g + 1, 1, none⟩), .int .i64 (t : Int), .bool false, u, u, u, u, u, u, u, u, u, u, u, u, u, u, u, u, u, u, u, u, u, u, u, u, u, u, u, u, u, u, u, u, u, u, u, u, u, u, u], defers := [] } w1.drew
 refine tkq hQp HS1 12 { dst := some 18, op := .pick (.tmp 14) (.const (Value.bool true)) (.tmp 17), type := 4, pos := "ref.go:37", after := #[{ on := 8, ground := .data }, { on := 11, ground := .data }], guard := none } (.bool false) (HS.out _ hb) ?_ ?_
 ·rintro w' ⟨s0, s1, s2, s3, s4, s5, s6⟩
  go_simp <;> first | with_reducible rfl | assumption
 refine tkq hQp HS1 13 { dst := some 19, op := .move (.tmp 18), type := 4, pos := "ref.go:37", after := #[{ on := 12, ground := .data }, { on := 8, ground := .chain }], guard := none } (.bool false) (HS.out _ hb) ?_ ?_
 ·rintro w' ⟨s0, s1, s2, s3, s4, s5, s6⟩
  go_simp <;> first | with_reducible rfl | assumption
 refine tkq hQp HS1 14 { dst := some 20, op := .fieldAddr 107 (.tmp 3) 1, type := 0, pos := "ref.go:37", after := #[{ on := 13, ground := Ground.guard }], guard := some (13, false) } (.pointer (some ⟨g + 1, 1, none⟩)) (HS.out _ hb) ?_ ?_
 ·rintro w' ⟨s0, s1, s2, s3, s4, s5, s6⟩
  go_simp <;> first | with_reducible rfl | assumption
 refine tkq hQp HS1 15 { dst := some 21, op := .load 3 (.tmp 20), type := 3, pos := "ref.go:37", after := #[{ on := 14, ground := .data }, { on := 13, ground := Ground.guard }], guard := some (13, false) } (.int .i64 (t : Int)) (HS.out _ hb) ?_ ?_
 ·rintro w' ⟨s0, s1, s2, s3, s4, s5, s6⟩
  go_simp <;> first | with_reducible rfl | assumption
 show wpAnyH Tryz.prog .any mops Q S 12 #[true, true, true, true, true, true, true, true, true, true, true, true, true, true, true, true, false, false, false, false, false, false, false, false, false, false, false, false] { tmps := #[pv, sv, .pointer (some ⟨g, 0, none⟩), .pointer (some ⟨g + 1, 0, none⟩), .bool false, u, .pointer (some ⟨g + 1, 0, none⟩), .int .u8 2, .bool true, .bool true, .pointer (some ⟨g + 1, 0, none⟩), .int .u8 2, .bool false, .bool false, .bool false, .pointer (some ⟨g + 1, 1, none⟩), .int .i64 (t : Int), .bool false, .bool false, .bool false, .pointer (some ⟨g + 1, 1, none⟩), .int .i64 (t : Int), u, u, u, u, u, u, u, u, u, u, u, u, u, u, u, u, u, u, u, u, u, u, u, u, u, u, u, u, u, u, u, u, u, u, u], defers := [] } w1.drew
 refine tkq hQp HS1 16 { dst := some 22, op := .load 23 (.tmp 2), type := 23, pos := "ref.go:37", after := #[{ on := 13, ground := Ground.guard }], guard := some (13, false) } (.agg #[.int .i64 k, .int .i64 r, .int .i64 c, .int .i64 q]) (HS.out _ hb) ?_ ?_
 ·rintro w' ⟨s0, s1, s2, s3, s4, s5, s6⟩
  go_simp <;> first | with_reducible rfl | assumption
 show wpAnyH Tryz.prog .any mops Q S 11 #[true, true, true, true, true, true, true, true, true, true, true, true, true, true, true, true, true, false, false, false, false, false, false, false, false, false, false, false] { tmps := #[pv, sv, .pointer (some ⟨g, 0, none⟩), .pointer (some ⟨g + 1, 0, none⟩), .bool false, u, .pointer (some ⟨g + 1, 0, none⟩), .int .u8 2, .bool true, .bool true, .pointer (some ⟨g + 1, 0, none⟩), .int .u8 2, .bool false, .bool false, .bool false, .pointer (some ⟨g + 1, 1, none⟩), .int .i64 (t : Int), .bool false, .bool false, .bool false, .pointer (some ⟨g + 1, 1, none⟩), .int .i64 (t : Int), .agg #[.int .i64 k, .int .i64 r, .int .i64 c, .int .i64 q], u, u, u, u, u, u, u, u, u, u, u, u, u, u, u, u, u, u, u, u, u, u, u, u, u, u, u, u, u, u, u, u, u, u], defers := [] } w1.drew
 refine wpAnyH_ready (rs := [17]) (by kernel_rfl) (by simp) ?_
 refine AllReadyH.cons (o := { dst := some 23, op := .call { callee := .value (.func 111), args := #[.tmp 22], argTypes := #[23] }, type := 3, pos := "ref.go:37", after := #[{ on := 16, ground := .data }, { on := 13, ground := .chain }, { on := 13, ground := Ground.guard }], guard := some (13, false) }) rfl (fun K hK => ?_) AllReadyH.nil
 go_simp
 refine (HN _).mono ?_
 rintro e wa ⟨rfl, ha⟩
 refine hK.out _ _ (HS.out _ (below_then hb ha)) (fun hHeld2 => ?_)
 replace hb : Below w1.heap.size w1 wa := (below_then hb ha)
 clear hK K hHeld
 have hHeld := hHeld2
 clear hHeld2
 show wpAnyH Tryz.prog .any mops Q S 10 #[true, true, true, true, true, true, true, true, true, true, true, true, true, true, true, true, true, true, false, false, false, false, false, false, false, false, false, false] { tmps := #[pv, sv, .pointer (some ⟨g, 0, none⟩), .pointer (some ⟨g + 1, 0, none⟩), .bool false, u, .pointer (some ⟨g + 1, 0, none⟩), .int .u8 2, .bool true, .bool true, .pointer (some ⟨g + 1, 0, none⟩), .int .u8 2, .bool false, .bool false, .bool false, .pointer (some ⟨g + 1, 1, none⟩), .int .i64 (t : Int), .bool false, .bool false, .bool false, .pointer (some ⟨g + 1, 1, none⟩), .int .i64 (t : Int), .agg #[.int .i64 k, .int .i64 r, .int .i64 c, .int .i64 q], .int .i64 (N : Int), u, u, u, u, u, u, u, u, u, u, u, u, u, u, u, u, u, u, u, u, u, u, u, u, u, u, u, u, u, u, u, u, u], defers := [] } wa
 refine tkq hQp HS1 18 { dst := some 24, op := .binOp BinOp.geq 3 (.tmp 21) (.tmp 23) 3, type := 4, pos := "ref.go:37", after := #[{ on := 15, ground := .data }, { on := 17, ground := .data }, { on := 13, ground := Ground.guard }], guard := some (13, false) } (.bool false) (HS.out _ hb) ?_ ?_
 ·rintro w' ⟨s0, s1, s2, s3, s4, s5, s6⟩
  go_simp <;> first | with_reducible rfl | assumption
 refine tkq hQp HS1 19 { dst := some 25, op := .pick (.tmp 19) (.const (Value.bool true)) (.tmp 24), type := 4, pos := "ref.go:37", after := #[{ on := 13, ground := .data }, { on := 18, ground := .data }], guard := none } (.bool false) (HS.out _ hb) ?_ ?_
 ·rintro w' ⟨s0, s1, s2, s3, s4, s5, s6⟩
  go_simp <;> first | with_reducible rfl | assumption
 show wpAnyH Tryz.prog .any mops Q S 8 #[true, true, true, true, true, true, true, true, true, true, true, true, true, true, true, true, true, true, true, true, false, false, false, false, false, false, false, false] { tmps := #[pv, sv, .pointer (some ⟨g, 0, none⟩), .pointer (some ⟨g + 1, 0, none⟩), .bool false, u, .pointer (some ⟨g + 1, 0, none⟩), .int .u8 2, .bool true, .bool true, .pointer (some ⟨g + 1, 0, none⟩), .int .u8 2, .bool false, .bool false, .bool false, .pointer (some ⟨g + 1, 1, none⟩), .int .i64 (t : Int), .bool false, .bool false, .bool false, .pointer (some ⟨g + 1, 1, none⟩), .int .i64 (t : Int), .agg #[.int .i64 k, .int .i64 r, .int .i64 c, .int .i64 q], .int .i64 (N : Int), .bool false, .bool false, u, u, u, u, u, u, u, u, u, u, u, u, u, u, u, u, u, u, u, u, u, u, u, u, u, u, u, u, u, u, u], defers := [] } wa
 refine tkq hQp HS1 20 { dst := some 26, op := .move (.tmp 25), type := 4, pos := "ref.go:37", after := #[{ on := 19, ground := .data }, { on := 17, ground := .chain }], guard := none } (.bool false) (HS.out _ hb) ?_ ?_
 ·rintro w' ⟨s0, s1, s2, s3, s4, s5, s6⟩
  go_simp <;> first | with_reducible rfl | assumption
 refine tkq hQp HS1 21 { dst := some 27, op := .fieldAddr 107 (.tmp 3) 5, type := 0, pos := "ref.go:37", after := #[{ on := 20, ground := Ground.guard }], guard := some (20, false) } (.pointer (some ⟨g + 1, 5, none⟩)) (HS.out _ hb) ?_ ?_
 ·rintro w' ⟨s0, s1, s2, s3, s4, s5, s6⟩
  go_simp <;> first | with_reducible rfl | assumption
 refine tkq hQp HS1 22 { dst := some 28, op := .load 36 (.tmp 27), type := 36, pos := "ref.go:37", after := #[{ on := 21, ground := .data }, { on := 20, ground := Ground.guard }], guard := some (20, false) } (.slice bo dn cb) (HS.out _ hb) ?_ ?_
 ·rintro w' ⟨s0, s1, s2, s3, s4, s5, s6⟩
  go_simp <;> first | with_reducible rfl | assumption
 refine tkq hQp HS1 23 { dst := some 29, op := .call { callee := Callee.builtin Builtin.len, args := #[.tmp 28], argTypes := #[36] }, type := 3, pos := "ref.go:37", after := #[{ on := 22, ground := .data }, { on := 20, ground := Ground.guard }], guard := some (20, false) } (.int .i64 (dn : Int)) (HS.out _ hb) ?_ ?_
 ·rintro w' ⟨s0, s1, s2, s3, s4, s5, s6⟩
  go_simp <;> first | with_reducible rfl | assumption
 show wpAnyH Tryz.prog .any mops Q S 4 #[true, true, true, true, true, true, true, true, true, true, true, true, true, true, true, true, true, true, true, true, true, true, true, true, false, false, false, false] { tmps := #[pv, sv, .pointer (some ⟨g, 0, none⟩), .pointer (some ⟨g + 1, 0, none⟩), .bool false, u, .pointer (some ⟨g + 1, 0, none⟩), .int .u8 2, .bool true, .bool true, .pointer (some ⟨g + 1, 0, none⟩), .int .u8 2, .bool false, .bool false, .bool false, .pointer (some ⟨g + 1, 1, none⟩), .int .i64 (t : Int), .bool false, .bool false, .bool false, .pointer (some ⟨g + 1, 1, none⟩), .int .i64 (t : Int), .agg #[.int .i64 k, .int .i64 r, .int .i64 c, .int .i64 q], .int .i64 (N : Int), .bool false, .bool false, .bool false, .pointer (some ⟨g + 1, 5, none⟩), .slice bo dn cb, .int .i64 (dn : Int), u, u, u, u, u, u, u, u, u, u, u, u, u, u, u, u, u, u, u, u, u, u, u, u, u, u, u], defers := [] } wa
 refine tkq hQp HS1 24 { dst := some 30, op := .fieldAddr 23 (.tmp 2) 2, type := 0, pos := "ref.go:37", after := #[{ on := 20, ground := Ground.guard }], guard := some (20, false) } (.pointer (some ⟨g, 2, none⟩)) (HS.out _ hb) ?_ ?_
 ·rintro w' ⟨s0, s1, s2, s3, s4, s5, s6⟩
  go_simp <;> first | with_reducible rfl | assumption
 refine tkq hQp HS1 25 { dst := some 31, op := .load 3 (.tmp 30), type := 3, pos := "ref.go:37", after := #[{ on := 24, ground := .data }, { on := 20, ground := Ground.guard }], guard := some (20, false) } (.int .i64 c) (HS.out _ hb) ?_ ?_
 ·rintro w' ⟨s0, s1, s2, s3, s4, s5, s6⟩
  go_simp <;> first | with_reducible rfl | assumption
 refine tkq hQp HS1 26 { dst := some 32, op := .binOp BinOp.neq 3 (.tmp 29) (.tmp 31) 3, type := 4, pos := "ref.go:37", after := #[{ on := 23, ground := .data }, { on := 25, ground := .data }, { on := 20, ground := Ground.guard }], guard := some (20, false) } (.bool false) (HS.out _ hb) ?_ ?_
 ·rintro w' ⟨s0, s1, s2, s3, s4, s5, s6⟩
  go_simp <;> first | with_reducible rfl | assumption
 refine tkq hQp HS1 27 { dst := some 33, op := .pick (.tmp 26) (.const (Value.bool true)) (.tmp 32), type := 4, pos := "ref.go:37", after := #[{ on := 20, ground := .data }, { on := 26, ground := .data }], guard := none } (.bool false) (HS.out _ hb) ?_ ?_
 ·rintro w' ⟨s0, s1, s2, s3, s4, s5, s6⟩
  go_simp <;> first | with_reducible rfl | assumption
 show wpAnyH Tryz.prog .any mops Q S 0 #[true, true, true, true, true, true, true, true, true, true, true, true, true, true, true, true, true, true, true, true, true, true, true, true, true, true, true, true] { tmps := #[pv, sv, .pointer (some ⟨g, 0, none⟩), .pointer (some ⟨g + 1, 0, none⟩), .bool false, u, .pointer (some ⟨g + 1, 0, none⟩), .int .u8 2, .bool true, .bool true, .pointer (some ⟨g + 1, 0, none⟩), .int .u8 2, .bool false, .bool false, .bool false, .pointer (some ⟨g + 1, 1, none⟩), .int .i64 (t : Int), .bool false, .bool false, .bool false, .pointer (some ⟨g + 1, 1, none⟩), .int .i64 (t : Int), .agg #[.int .i64 k, .int .i64 r, .int .i64 c, .int .i64 q], .int .i64 (N : Int), .bool false, .bool false, .bool false, .pointer (some ⟨g + 1, 5, none⟩), .slice bo dn cb, .int .i64 (dn : Int), .pointer (some ⟨g, 2, none⟩), .int .i64 c, .bool false, .bool false, u, u, u, u, u, u, u, u, u, u, u, u, u, u, u, u, u, u, u, u, u, u, u], defers := [] } wa
 refine wpAnyH_done (by kernel_rfl) ?_ _
 exact HQ.out _ hb
end Go.Proofs.YtemlojjkokooeaaGreat
