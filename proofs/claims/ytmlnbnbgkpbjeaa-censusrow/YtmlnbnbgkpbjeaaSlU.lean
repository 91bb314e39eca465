/- The region in which the document's May looks at a slot's numbers. -/
import Derived.Test.YtmlnbnbgkpbjeaaSlR
namespace Go.Proofs.Ytmlnbnbgkpbjeaa
open Go.RowKit

/-- The operations of that region. -/
def mops : Array Oper := #[{ dst := some 6, op := Op.fieldAddr 68 (Operand.tmp 3) 0, type := 0, pos := "ref.go:37", after := #[], guard := none }, { dst := some 7, op := Op.load 5 (Operand.tmp 6), type := 5, pos := "ref.go:37", after := #[{ on := 0, ground := Ground.data }], guard := none }, { dst := some 8, op := Op.binOp BinOp.neq 5 (Operand.tmp 7) (Operand.const (Value.int IntKind.u8 1)) 5, type := 4, pos := "ref.go:37", after := #[{ on := 1, ground := Ground.data }], guard := none }, { dst := some 9, op := Op.move (Operand.tmp 8), type := 4, pos := "ref.go:37", after := #[{ on := 2, ground := Ground.data }], guard := none }, { dst := some 10, op := Op.fieldAddr 68 (Operand.tmp 3) 0, type := 0, pos := "ref.go:37", after := #[{ on := 3, ground := Ground.guard }], guard := some (3, true) }, { dst := some 11, op := Op.load 5 (Operand.tmp 10), type := 5, pos := "ref.go:37", after := #[{ on := 4, ground := Ground.data }, { on := 3, ground := Ground.guard }], guard := some (3, true) }, { dst := some 12, op := Op.binOp BinOp.neq 5 (Operand.tmp 11) (Operand.const (Value.int IntKind.u8 2)) 5, type := 4, pos := "ref.go:37", after := #[{ on := 5, ground := Ground.data }, { on := 3, ground := Ground.guard }], guard := some (3, true) }, { dst := some 13, op := Op.pick (Operand.tmp 9) (Operand.tmp 12) (Operand.const (Value.bool false)), type := 4, pos := "ref.go:37", after := #[{ on := 3, ground := Ground.data }, { on := 6, ground := Ground.data }], guard := none }, { dst := some 14, op := Op.move (Operand.tmp 13), type := 4, pos := "ref.go:37", after := #[{ on := 7, ground := Ground.data }, { on := 3, ground := Ground.chain }], guard := none }, { dst := some 15, op := Op.fieldAddr 68 (Operand.tmp 3) 1, type := 0, pos := "ref.go:37", after := #[{ on := 8, ground := Ground.guard }], guard := some (8, false) }, { dst := some 16, op := Op.load 3 (Operand.tmp 15), type := 3, pos := "ref.go:37", after := #[{ on := 9, ground := Ground.data }, { on := 8, ground := Ground.guard }], guard := some (8, false) }, { dst := some 17, op := Op.binOp BinOp.lss 3 (Operand.tmp 16) (Operand.const (Value.int IntKind.i64 0)) 3, type := 4, pos := "ref.go:37", after := #[{ on := 10, ground := Ground.data }, { on := 8, ground := Ground.guard }], guard := some (8, false) }, { dst := some 18, op := Op.pick (Operand.tmp 14) (Operand.const (Value.bool true)) (Operand.tmp 17), type := 4, pos := "ref.go:37", after := #[{ on := 8, ground := Ground.data }, { on := 11, ground := Ground.data }], guard := none }, { dst := some 19, op := Op.move (Operand.tmp 18), type := 4, pos := "ref.go:37", after := #[{ on := 12, ground := Ground.data }, { on := 8, ground := Ground.chain }], guard := none }, { dst := some 20, op := Op.fieldAddr 68 (Operand.tmp 3) 1, type := 0, pos := "ref.go:37", after := #[{ on := 13, ground := Ground.guard }], guard := some (13, false) }, { dst := some 21, op := Op.load 3 (Operand.tmp 20), type := 3, pos := "ref.go:37", after := #[{ on := 14, ground := Ground.data }, { on := 13, ground := Ground.guard }], guard := some (13, false) }, { dst := some 22, op := Op.load 23 (Operand.tmp 2), type := 23, pos := "ref.go:37", after := #[{ on := 13, ground := Ground.guard }], guard := some (13, false) }, { dst := some 23, op := Op.call { callee := Callee.value (Operand.func 52), args := #[Operand.tmp 22], argTypes := #[23] }, type := 3, pos := "ref.go:37", after := #[{ on := 16, ground := Ground.data }, { on := 13, ground := Ground.chain }, { on := 13, ground := Ground.guard }], guard := some (13, false) }, { dst := some 24, op := Op.binOp BinOp.geq 3 (Operand.tmp 21) (Operand.tmp 23) 3, type := 4, pos := "ref.go:37", after := #[{ on := 15, ground := Ground.data }, { on := 17, ground := Ground.data }, { on := 13, ground := Ground.guard }], guard := some (13, false) }, { dst := some 25, op := Op.pick (Operand.tmp 19) (Operand.const (Value.bool true)) (Operand.tmp 24), type := 4, pos := "ref.go:37", after := #[{ on := 13, ground := Ground.data }, { on := 18, ground := Ground.data }], guard := none }, { dst := some 26, op := Op.move (Operand.tmp 25), type := 4, pos := "ref.go:37", after := #[{ on := 19, ground := Ground.data }, { on := 17, ground := Ground.chain }], guard := none }, { dst := some 27, op := Op.fieldAddr 68 (Operand.tmp 3) 5, type := 0, pos := "ref.go:37", after := #[{ on := 20, ground := Ground.guard }], guard := some (20, false) }, { dst := some 28, op := Op.load 45 (Operand.tmp 27), type := 45, pos := "ref.go:37", after := #[{ on := 21, ground := Ground.data }, { on := 20, ground := Ground.guard }], guard := some (20, false) }, { dst := some 29, op := Op.call { callee := Callee.builtin Builtin.len, args := #[Operand.tmp 28], argTypes := #[45] }, type := 3, pos := "ref.go:37", after := #[{ on := 22, ground := Ground.data }, { on := 20, ground := Ground.guard }], guard := some (20, false) }, { dst := some 30, op := Op.fieldAddr 23 (Operand.tmp 2) 2, type := 0, pos := "ref.go:37", after := #[{ on := 20, ground := Ground.guard }], guard := some (20, false) }, { dst := some 31, op := Op.load 3 (Operand.tmp 30), type := 3, pos := "ref.go:37", after := #[{ on := 24, ground := Ground.data }, { on := 20, ground := Ground.guard }], guard := some (20, false) }, { dst := some 32, op := Op.binOp BinOp.neq 3 (Operand.tmp 29) (Operand.tmp 31) 3, type := 4, pos := "ref.go:37", after := #[{ on := 23, ground := Ground.data }, { on := 25, ground := Ground.data }, { on := 20, ground := Ground.guard }], guard := some (20, false) }, { dst := some 33, op := Op.pick (Operand.tmp 26) (Operand.const (Value.bool true)) (Operand.tmp 32), type := 4, pos := "ref.go:37", after := #[{ on := 20, ground := Ground.data }, { on := 26, ground := Ground.data }], guard := none }]

set_option maxHeartbeats 8000000 in
set_option maxRecDepth 100000 in
theorem may_1big {pv sv u : Value} (w1 : World) (k r c q : Int) (g N t _vn _ca dn cb : Nat) (_ce _st : Int) (_ao bo : Option Addr)
    (hS : ∀ v, Below w1.heap.size w1 v → (v.cell? ⟨g, 0, none⟩ = some (.int .i64 k) ∧ v.cell? ⟨g, 1, none⟩ = some (.int .i64 r) ∧ v.cell? ⟨g, 2, none⟩ = some (.int .i64 c) ∧ v.cell? ⟨g, 3, none⟩ = some (.int .i64 q) ∧ v.cell? ⟨g + 1, 0, none⟩ = some (.int .u8 1) ∧ v.cell? ⟨g + 1, 1, none⟩ = some (.int .i64 (t : Int)) ∧ v.cell? ⟨g + 1, 5, none⟩ = some (.slice bo dn cb)))
    (HN : ∀ w, Calls Try.prog 52 #[.agg #[.int .i64 k, .int .i64 r, .int .i64 c, .int .i64 q]] w fun e w' => e = .returned (.int .i64 (N : Int)) ∧ Below w.heap.size w w') (h1 : N ≤ t)
    (Q : Exit → Act → World → Prop) (hQp : ∀ ch a v, Q (.panic ch) a v → False) (hQ : ∀ wa, Below w1.heap.size w1 wa → Q .normal { tmps := #[pv, sv, .pointer (some ⟨g, 0, none⟩), .pointer (some ⟨g + 1, 0, none⟩), .bool false, u, .pointer (some ⟨g + 1, 0, none⟩), .int .u8 1, .bool false, .bool false, undef, undef, undef, .bool false, .bool false, .pointer (some ⟨g + 1, 1, none⟩), .int .i64 (t : Int), .bool false, .bool false, .bool false, .pointer (some ⟨g + 1, 1, none⟩), .int .i64 (t : Int), .agg #[.int .i64 k, .int .i64 r, .int .i64 c, .int .i64 q], .int .i64 (N : Int), .bool true, .bool true, .bool true, undef, undef, undef, undef, undef, undef, .bool true, u, u, u, u, u, u, u, u, u, u, u, u, u, u, u, u, u, u, u, u, u, u, u], defers := [] } wa) :
    Code.wp Try.prog (Code.region 1 mops true) Q { tmps := #[pv, sv, .pointer (some ⟨g, 0, none⟩), .pointer (some ⟨g + 1, 0, none⟩), .bool false, u, u, u, u, u, u, u, u, u, u, u, u, u, u, u, u, u, u, u, u, u, u, u, u, u, u, u, u, u, u, u, u, u, u, u, u, u, u, u, u, u, u, u, u, u, u, u, u, u, u, u, u], defers := [] } w1 := by
  have HQ : Hid (∀ wa, Below w1.heap.size w1 wa → Q .normal { tmps := #[pv, sv, .pointer (some ⟨g, 0, none⟩), .pointer (some ⟨g + 1, 0, none⟩), .bool false, u, .pointer (some ⟨g + 1, 0, none⟩), .int .u8 1, .bool false, .bool false, undef, undef, undef, .bool false, .bool false, .pointer (some ⟨g + 1, 1, none⟩), .int .i64 (t : Int), .bool false, .bool false, .bool false, .pointer (some ⟨g + 1, 1, none⟩), .int .i64 (t : Int), .agg #[.int .i64 k, .int .i64 r, .int .i64 c, .int .i64 q], .int .i64 (N : Int), .bool true, .bool true, .bool true, undef, undef, undef, undef, undef, undef, .bool true, u, u, u, u, u, u, u, u, u, u, u, u, u, u, u, u, u, u, u, u, u, u, u], defers := [] } wa) := hQ
  obtain ⟨S, HS1, HS⟩ : ∃ S : World → Prop, Hid (∀ v, S v → (v.cell? ⟨g, 0, none⟩ = some (.int .i64 k) ∧ v.cell? ⟨g, 1, none⟩ = some (.int .i64 r) ∧ v.cell? ⟨g, 2, none⟩ = some (.int .i64 c) ∧ v.cell? ⟨g, 3, none⟩ = some (.int .i64 q) ∧ v.cell? ⟨g + 1, 0, none⟩ = some (.int .u8 1) ∧ v.cell? ⟨g + 1, 1, none⟩ = some (.int .i64 (t : Int)) ∧ v.cell? ⟨g + 1, 5, none⟩ = some (.slice bo dn cb))) ∧ Hid (∀ v, Below w1.heap.size w1 v → S v) := ⟨fun v => v.cell? ⟨g, 0, none⟩ = some (.int .i64 k) ∧ v.cell? ⟨g, 1, none⟩ = some (.int .i64 r) ∧ v.cell? ⟨g, 2, none⟩ = some (.int .i64 c) ∧ v.cell? ⟨g, 3, none⟩ = some (.int .i64 q) ∧ v.cell? ⟨g + 1, 0, none⟩ = some (.int .u8 1) ∧ v.cell? ⟨g + 1, 1, none⟩ = some (.int .i64 (t : Int)) ∧ v.cell? ⟨g + 1, 5, none⟩ = some (.slice bo dn cb), fun v h => h, hS⟩
  clear hS hQ
  have j4 : ¬ (t : Int) < 0 := by omega
  have j5 : (N : Int) ≤ (t : Int) := by omega
  refine wp_region_held_drew (S := S) (by kernel_rfl) (HS.out _ (below_drew _ _)) (fun hHeld => ?_)
  have hb : Below w1.heap.size w1 w1.drew := below_drew _ _
  rw [show mops.size = 28 from by kernel_rfl, show Array.replicate 28 false = #[false, false, false, false, false, false, false, false, false, false, false, false, false, false, false, false, false, false, false, false, false, false, false, false, false, false, false, false] from by kernel_rfl]
  refine wpAnyH_take (i := 0) (oi := { dst := some 6, op := Op.fieldAddr 68 (Operand.tmp 3) 0, type := 0, pos := "ref.go:37", after := #[], guard := none }) (v := .pointer (some ⟨g + 1, 0, none⟩)) rfl (by kernel_rfl) (by kernel_rfl) (by kernel_rfl) (fun _ _ _ h => (hQp _ _ _ h).elim) (Or.inl ⟨by kernel_rfl, ?_⟩) (HS.out _ hb) ?_
  · intro w' hSw
    obtain ⟨s0, s1, s2, s3, s4, s5, s6⟩ := HS1.out _ hSw
    go_simp <;> first | with_reducible rfl | assumption
  refine wpAnyH_take (i := 1) (oi := { dst := some 7, op := Op.load 5 (Operand.tmp 6), type := 5, pos := "ref.go:37", after := #[{ on := 0, ground := Ground.data }], guard := none }) (v := .int .u8 1) rfl (by kernel_rfl) (by kernel_rfl) (by kernel_rfl) (fun _ _ _ h => (hQp _ _ _ h).elim) (Or.inl ⟨by kernel_rfl, ?_⟩) (HS.out _ hb) ?_
  · intro w' hSw
    obtain ⟨s0, s1, s2, s3, s4, s5, s6⟩ := HS1.out _ hSw
    go_simp <;> first | with_reducible rfl | assumption
  refine wpAnyH_take (i := 2) (oi := { dst := some 8, op := Op.binOp BinOp.neq 5 (Operand.tmp 7) (Operand.const (Value.int IntKind.u8 1)) 5, type := 4, pos := "ref.go:37", after := #[{ on := 1, ground := Ground.data }], guard := none }) (v := .bool false) rfl (by kernel_rfl) (by kernel_rfl) (by kernel_rfl) (fun _ _ _ h => (hQp _ _ _ h).elim) (Or.inl ⟨by kernel_rfl, ?_⟩) (HS.out _ hb) ?_
  · intro w' hSw
    obtain ⟨s0, s1, s2, s3, s4, s5, s6⟩ := HS1.out _ hSw
    go_simp <;> first | with_reducible rfl | assumption
  refine wpAnyH_take (i := 3) (oi := { dst := some 9, op := Op.move (Operand.tmp 8), type := 4, pos := "ref.go:37", after := #[{ on := 2, ground := Ground.data }], guard := none }) (v := .bool false) rfl (by kernel_rfl) (by kernel_rfl) (by kernel_rfl) (fun _ _ _ h => (hQp _ _ _ h).elim) (Or.inl ⟨by kernel_rfl, ?_⟩) (HS.out _ hb) ?_
  · intro w' hSw
    obtain ⟨s0, s1, s2, s3, s4, s5, s6⟩ := HS1.out _ hSw
    go_simp <;> first | with_reducible rfl | assumption
  show wpAnyH Try.prog .any mops Q S 24 #[true, true, true, true, false, false, false, false, false, false, false, false, false, false, false, false, false, false, false, false, false, false, false, false, false, false, false, false] { tmps := #[pv, sv, .pointer (some ⟨g, 0, none⟩), .pointer (some ⟨g + 1, 0, none⟩), .bool false, u, .pointer (some ⟨g + 1, 0, none⟩), .int .u8 1, .bool false, .bool false, u, u, u, u, u, u, u, u, u, u, u, u, u, u, u, u, u, u, u, u, u, u, u, u, u, u, u, u, u, u, u, u, u, u, u, u, u, u, u, u, u, u, u, u, u, u, u], defers := [] } w1.drew
  refine wpAnyH_take (i := 4) (oi := { dst := some 10, op := Op.fieldAddr 68 (Operand.tmp 3) 0, type := 0, pos := "ref.go:37", after := #[{ on := 3, ground := Ground.guard }], guard := some (3, true) }) (v := undef) rfl (by kernel_rfl) (by kernel_rfl) (by kernel_rfl) (fun _ _ _ h => (hQp _ _ _ h).elim) (Or.inr ⟨by kernel_rfl, rfl⟩) (HS.out _ hb) ?_
  refine wpAnyH_take (i := 5) (oi := { dst := some 11, op := Op.load 5 (Operand.tmp 10), type := 5, pos := "ref.go:37", after := #[{ on := 4, ground := Ground.data }, { on := 3, ground := Ground.guard }], guard := some (3, true) }) (v := undef) rfl (by kernel_rfl) (by kernel_rfl) (by kernel_rfl) (fun _ _ _ h => (hQp _ _ _ h).elim) (Or.inr ⟨by kernel_rfl, rfl⟩) (HS.out _ hb) ?_
  refine wpAnyH_take (i := 6) (oi := { dst := some 12, op := Op.binOp BinOp.neq 5 (Operand.tmp 11) (Operand.const (Value.int IntKind.u8 2)) 5, type := 4, pos := "ref.go:37", after := #[{ on := 5, ground := Ground.data }, { on := 3, ground := Ground.guard }], guard := some (3, true) }) (v := undef) rfl (by kernel_rfl) (by kernel_rfl) (by kernel_rfl) (fun _ _ _ h => (hQp _ _ _ h).elim) (Or.inr ⟨by kernel_rfl, rfl⟩) (HS.out _ hb) ?_
  refine wpAnyH_take (i := 7) (oi := { dst := some 13, op := Op.pick (Operand.tmp 9) (Operand.tmp 12) (Operand.const (Value.bool false)), type := 4, pos := "ref.go:37", after := #[{ on := 3, ground := Ground.data }, { on := 6, ground := Ground.data }], guard := none }) (v := .bool false) rfl (by kernel_rfl) (by kernel_rfl) (by kernel_rfl) (fun _ _ _ h => (hQp _ _ _ h).elim) (Or.inl ⟨by kernel_rfl, ?_⟩) (HS.out _ hb) ?_
  · intro w' hSw
    obtain ⟨s0, s1, s2, s3, s4, s5, s6⟩ := HS1.out _ hSw
    go_simp <;> first | with_reducible rfl | assumption
  show wpAnyH Try.prog .any mops Q S 20 #[true, true, true, true, true, true, true, true, false, false, false, false, false, false, false, false, false, false, false, false, false, false, false, false, false, false, false, false] { tmps := #[pv, sv, .pointer (some ⟨g, 0, none⟩), .pointer (some ⟨g + 1, 0, none⟩), .bool false, u, .pointer (some ⟨g + 1, 0, none⟩), .int .u8 1, .bool false, .bool false, undef, undef, undef, .bool false, u, u, u, u, u, u, u, u, u, u, u, u, u, u, u, u, u, u, u, u, u, u, u, u, u, u, u, u, u, u, u, u, u, u, u, u, u, u, u, u, u, u, u], defers := [] } w1.drew
  refine wpAnyH_take (i := 8) (oi := { dst := some 14, op := Op.move (Operand.tmp 13), type := 4, pos := "ref.go:37", after := #[{ on := 7, ground := Ground.data }, { on := 3, ground := Ground.chain }], guard := none }) (v := .bool false) rfl (by kernel_rfl) (by kernel_rfl) (by kernel_rfl) (fun _ _ _ h => (hQp _ _ _ h).elim) (Or.inl ⟨by kernel_rfl, ?_⟩) (HS.out _ hb) ?_
  · intro w' hSw
    obtain ⟨s0, s1, s2, s3, s4, s5, s6⟩ := HS1.out _ hSw
    go_simp <;> first | with_reducible rfl | assumption
  refine wpAnyH_take (i := 9) (oi := { dst := some 15, op := Op.fieldAddr 68 (Operand.tmp 3) 1, type := 0, pos := "ref.go:37", after := #[{ on := 8, ground := Ground.guard }], guard := some (8, false) }) (v := .pointer (some ⟨g + 1, 1, none⟩)) rfl (by kernel_rfl) (by kernel_rfl) (by kernel_rfl) (fun _ _ _ h => (hQp _ _ _ h).elim) (Or.inl ⟨by kernel_rfl, ?_⟩) (HS.out _ hb) ?_
  · intro w' hSw
    obtain ⟨s0, s1, s2, s3, s4, s5, s6⟩ := HS1.out _ hSw
    go_simp <;> first | with_reducible rfl | assumption
  refine wpAnyH_take (i := 10) (oi := { dst := some 16, op := Op.load 3 (Operand.tmp 15), type := 3, pos := "ref.go:37", after := #[{ on := 9, ground := Ground.data }, { on := 8, ground := Ground.guard }], guard := some (8, false) }) (v := .int .i64 (t : Int)) rfl (by kernel_rfl) (by kernel_rfl) (by kernel_rfl) (fun _ _ _ h => (hQp _ _ _ h).elim) (Or.inl ⟨by kernel_rfl, ?_⟩) (HS.out _ hb) ?_
  · intro w' hSw
    obtain ⟨s0, s1, s2, s3, s4, s5, s6⟩ := HS1.out _ hSw
    go_simp <;> first | with_reducible rfl | assumption
  refine wpAnyH_take (i := 11) (oi := { dst := some 17, op := Op.binOp BinOp.lss 3 (Operand.tmp 16) (Operand.const (Value.int IntKind.i64 0)) 3, type := 4, pos := "ref.go:37", after := #[{ on := 10, ground := Ground.data }, { on := 8, ground := Ground.guard }], guard := some (8, false) }) (v := .bool false) rfl (by kernel_rfl) (by kernel_rfl) (by kernel_rfl) (fun _ _ _ h => (hQp _ _ _ h).elim) (Or.inl ⟨by kernel_rfl, ?_⟩) (HS.out _ hb) ?_
  · intro w' hSw
    obtain ⟨s0, s1, s2, s3, s4, s5, s6⟩ := HS1.out _ hSw
    go_simp <;> first | with_reducible rfl | assumption
  show wpAnyH Try.prog .any mops Q S 16 #[true, true, true, true, true, true, true, true, true, true, true, true, false, false, false, false, false, false, false, false, false, false, false, false, false, false, false, false] { tmps := #[pv, sv, .pointer (some ⟨g, 0, none⟩), .pointer (some ⟨g + 1, 0, none⟩), .bool false, u, .pointer (some ⟨g + 1, 0, none⟩), .int .u8 1, .bool false, .bool false, undef, undef, undef, .bool false, .bool false, .pointer (some ⟨g + 1, 1, none⟩), .int .i64 (t : Int), .bool false, u, u, u, u, u, u, u, u, u, u, u, u, u, u, u, u, u, u, u, u, u, u, u, u, u, u, u, u, u, u, u, u, u, u, u, u, u, u, u], defers := [] } w1.drew
  refine wpAnyH_take (i := 12) (oi := { dst := some 18, op := Op.pick (Operand.tmp 14) (Operand.const (Value.bool true)) (Operand.tmp 17), type := 4, pos := "ref.go:37", after := #[{ on := 8, ground := Ground.data }, { on := 11, ground := Ground.data }], guard := none }) (v := .bool false) rfl (by kernel_rfl) (by kernel_rfl) (by kernel_rfl) (fun _ _ _ h => (hQp _ _ _ h).elim) (Or.inl ⟨by kernel_rfl, ?_⟩) (HS.out _ hb) ?_
  · intro w' hSw
    obtain ⟨s0, s1, s2, s3, s4, s5, s6⟩ := HS1.out _ hSw
    go_simp <;> first | with_reducible rfl | assumption
  refine wpAnyH_take (i := 13) (oi := { dst := some 19, op := Op.move (Operand.tmp 18), type := 4, pos := "ref.go:37", after := #[{ on := 12, ground := Ground.data }, { on := 8, ground := Ground.chain }], guard := none }) (v := .bool false) rfl (by kernel_rfl) (by kernel_rfl) (by kernel_rfl) (fun _ _ _ h => (hQp _ _ _ h).elim) (Or.inl ⟨by kernel_rfl, ?_⟩) (HS.out _ hb) ?_
  · intro w' hSw
    obtain ⟨s0, s1, s2, s3, s4, s5, s6⟩ := HS1.out _ hSw
    go_simp <;> first | with_reducible rfl | assumption
  refine wpAnyH_take (i := 14) (oi := { dst := some 20, op := Op.fieldAddr 68 (Operand.tmp 3) 1, type := 0, pos := "ref.go:37", after := #[{ on := 13, ground := Ground.guard }], guard := some (13, false) }) (v := .pointer (some ⟨g + 1, 1, none⟩)) rfl (by kernel_rfl) (by kernel_rfl) (by kernel_rfl) (fun _ _ _ h => (hQp _ _ _ h).elim) (Or.inl ⟨by kernel_rfl, ?_⟩) (HS.out _ hb) ?_
  · intro w' hSw
    obtain ⟨s0, s1, s2, s3, s4, s5, s6⟩ := HS1.out _ hSw
    go_simp <;> first | with_reducible rfl | assumption
  refine wpAnyH_take (i := 15) (oi := { dst := some 21, op := Op.load 3 (Operand.tmp 20), type := 3, pos := "ref.go:37", after := #[{ on := 14, ground := Ground.data }, { on := 13, ground := Ground.guard }], guard := some (13, false) }) (v := .int .i64 (t : Int)) rfl (by kernel_rfl) (by kernel_rfl) (by kernel_rfl) (fun _ _ _ h => (hQp _ _ _ h).elim) (Or.inl ⟨by kernel_rfl, ?_⟩) (HS.out _ hb) ?_
  · intro w' hSw
    obtain ⟨s0, s1, s2, s3, s4, s5, s6⟩ := HS1.out _ hSw
    go_simp <;> first | with_reducible rfl | assumption
  show wpAnyH Try.prog .any mops Q S 12 #[true, true, true, true, true, true, true, true, true, true, true, true, true, true, true, true, false, false, false, false, false, false, false, false, false, false, false, false] { tmps := #[pv, sv, .pointer (some ⟨g, 0, none⟩), .pointer (some ⟨g + 1, 0, none⟩), .bool false, u, .pointer (some ⟨g + 1, 0, none⟩), .int .u8 1, .bool false, .bool false, undef, undef, undef, .bool false, .bool false, .pointer (some ⟨g + 1, 1, none⟩), .int .i64 (t : Int), .bool false, .bool false, .bool false, .pointer (some ⟨g + 1, 1, none⟩), .int .i64 (t : Int), u, u, u, u, u, u, u, u, u, u, u, u, u, u, u, u, u, u, u, u, u, u, u, u, u, u, u, u, u, u, u, u, u, u, u], defers := [] } w1.drew
  refine wpAnyH_take (i := 16) (oi := { dst := some 22, op := Op.load 23 (Operand.tmp 2), type := 23, pos := "ref.go:37", after := #[{ on := 13, ground := Ground.guard }], guard := some (13, false) }) (v := .agg #[.int .i64 k, .int .i64 r, .int .i64 c, .int .i64 q]) rfl (by kernel_rfl) (by kernel_rfl) (by kernel_rfl) (fun _ _ _ h => (hQp _ _ _ h).elim) (Or.inl ⟨by kernel_rfl, ?_⟩) (HS.out _ hb) ?_
  · intro w' hSw
    obtain ⟨s0, s1, s2, s3, s4, s5, s6⟩ := HS1.out _ hSw
    go_simp <;> first | with_reducible rfl | assumption
  show wpAnyH Try.prog .any mops Q S 11 #[true, true, true, true, true, true, true, true, true, true, true, true, true, true, true, true, true, false, false, false, false, false, false, false, false, false, false, false] { tmps := #[pv, sv, .pointer (some ⟨g, 0, none⟩), .pointer (some ⟨g + 1, 0, none⟩), .bool false, u, .pointer (some ⟨g + 1, 0, none⟩), .int .u8 1, .bool false, .bool false, undef, undef, undef, .bool false, .bool false, .pointer (some ⟨g + 1, 1, none⟩), .int .i64 (t : Int), .bool false, .bool false, .bool false, .pointer (some ⟨g + 1, 1, none⟩), .int .i64 (t : Int), .agg #[.int .i64 k, .int .i64 r, .int .i64 c, .int .i64 q], u, u, u, u, u, u, u, u, u, u, u, u, u, u, u, u, u, u, u, u, u, u, u, u, u, u, u, u, u, u, u, u, u, u], defers := [] } w1.drew
  refine wpAnyH_ready (rs := [17]) (by kernel_rfl) (by simp) ?_
  refine AllReadyH.cons (o := { dst := some 23, op := Op.call { callee := Callee.value (Operand.func 52), args := #[Operand.tmp 22], argTypes := #[23] }, type := 3, pos := "ref.go:37", after := #[{ on := 16, ground := Ground.data }, { on := 13, ground := Ground.chain }, { on := 13, ground := Ground.guard }], guard := some (13, false) }) rfl (fun K hK => ?_) AllReadyH.nil
  go_simp
  refine (HN _).mono ?_
  rintro e wa ⟨rfl, ha⟩
  refine hK.out _ _ (HS.out _ (below_then hb ha)) (fun hHeld2 => ?_)
  replace hb : Below w1.heap.size w1 wa := (below_then hb ha)
  clear hK K hHeld
  have hHeld := hHeld2
  clear hHeld2
  show wpAnyH Try.prog .any mops Q S 10 #[true, true, true, true, true, true, true, true, true, true, true, true, true, true, true, true, true, true, false, false, false, false, false, false, false, false, false, false] { tmps := #[pv, sv, .pointer (some ⟨g, 0, none⟩), .pointer (some ⟨g + 1, 0, none⟩), .bool false, u, .pointer (some ⟨g + 1, 0, none⟩), .int .u8 1, .bool false, .bool false, undef, undef, undef, .bool false, .bool false, .pointer (some ⟨g + 1, 1, none⟩), .int .i64 (t : Int), .bool false, .bool false, .bool false, .pointer (some ⟨g + 1, 1, none⟩), .int .i64 (t : Int), .agg #[.int .i64 k, .int .i64 r, .int .i64 c, .int .i64 q], .int .i64 (N : Int), u, u, u, u, u, u, u, u, u, u, u, u, u, u, u, u, u, u, u, u, u, u, u, u, u, u, u, u, u, u, u, u, u], defers := [] } wa
  refine wpAnyH_take (i := 18) (oi := { dst := some 24, op := Op.binOp BinOp.geq 3 (Operand.tmp 21) (Operand.tmp 23) 3, type := 4, pos := "ref.go:37", after := #[{ on := 15, ground := Ground.data }, { on := 17, ground := Ground.data }, { on := 13, ground := Ground.guard }], guard := some (13, false) }) (v := .bool true) rfl (by kernel_rfl) (by kernel_rfl) (by kernel_rfl) (fun _ _ _ h => (hQp _ _ _ h).elim) (Or.inl ⟨by kernel_rfl, ?_⟩) (HS.out _ hb) ?_
  · intro w' hSw
    obtain ⟨s0, s1, s2, s3, s4, s5, s6⟩ := HS1.out _ hSw
    go_simp <;> first | with_reducible rfl | assumption
  refine wpAnyH_take (i := 19) (oi := { dst := some 25, op := Op.pick (Operand.tmp 19) (Operand.const (Value.bool true)) (Operand.tmp 24), type := 4, pos := "ref.go:37", after := #[{ on := 13, ground := Ground.data }, { on := 18, ground := Ground.data }], guard := none }) (v := .bool true) rfl (by kernel_rfl) (by kernel_rfl) (by kernel_rfl) (fun _ _ _ h => (hQp _ _ _ h).elim) (Or.inl ⟨by kernel_rfl, ?_⟩) (HS.out _ hb) ?_
  · intro w' hSw
    obtain ⟨s0, s1, s2, s3, s4, s5, s6⟩ := HS1.out _ hSw
    go_simp <;> first | with_reducible rfl | assumption
  show wpAnyH Try.prog .any mops Q S 8 #[true, true, true, true, true, true, true, true, true, true, true, true, true, true, true, true, true, true, true, true, false, false, false, false, false, false, false, false] { tmps := #[pv, sv, .pointer (some ⟨g, 0, none⟩), .pointer (some ⟨g + 1, 0, none⟩), .bool false, u, .pointer (some ⟨g + 1, 0, none⟩), .int .u8 1, .bool false, .bool false, undef, undef, undef, .bool false, .bool false, .pointer (some ⟨g + 1, 1, none⟩), .int .i64 (t : Int), .bool false, .bool false, .bool false, .pointer (some ⟨g + 1, 1, none⟩), .int .i64 (t : Int), .agg #[.int .i64 k, .int .i64 r, .int .i64 c, .int .i64 q], .int .i64 (N : Int), .bool true, .bool true, u, u, u, u, u, u, u, u, u, u, u, u, u, u, u, u, u, u, u, u, u, u, u, u, u, u, u, u, u, u, u], defers := [] } wa
  refine wpAnyH_take (i := 20) (oi := { dst := some 26, op := Op.move (Operand.tmp 25), type := 4, pos := "ref.go:37", after := #[{ on := 19, ground := Ground.data }, { on := 17, ground := Ground.chain }], guard := none }) (v := .bool true) rfl (by kernel_rfl) (by kernel_rfl) (by kernel_rfl) (fun _ _ _ h => (hQp _ _ _ h).elim) (Or.inl ⟨by kernel_rfl, ?_⟩) (HS.out _ hb) ?_
  · intro w' hSw
    obtain ⟨s0, s1, s2, s3, s4, s5, s6⟩ := HS1.out _ hSw
    go_simp <;> first | with_reducible rfl | assumption
  refine wpAnyH_take (i := 21) (oi := { dst := some 27, op := Op.fieldAddr 68 (Operand.tmp 3) 5, type := 0, pos := "ref.go:37", after := #[{ on := 20, ground := Ground.guard }], guard := some (20, false) }) (v := undef) rfl (by kernel_rfl) (by kernel_rfl) (by kernel_rfl) (fun _ _ _ h => (hQp _ _ _ h).elim) (Or.inr ⟨by kernel_rfl, rfl⟩) (HS.out _ hb) ?_
  refine wpAnyH_take (i := 22) (oi := { dst := some 28, op := Op.load 45 (Operand.tmp 27), type := 45, pos := "ref.go:37", after := #[{ on := 21, ground := Ground.data }, { on := 20, ground := Ground.guard }], guard := some (20, false) }) (v := undef) rfl (by kernel_rfl) (by kernel_rfl) (by kernel_rfl) (fun _ _ _ h => (hQp _ _ _ h).elim) (Or.inr ⟨by kernel_rfl, rfl⟩) (HS.out _ hb) ?_
  refine wpAnyH_take (i := 23) (oi := { dst := some 29, op := Op.call { callee := Callee.builtin Builtin.len, args := #[Operand.tmp 28], argTypes := #[45] }, type := 3, pos := "ref.go:37", after := #[{ on := 22, ground := Ground.data }, { on := 20, ground := Ground.guard }], guard := some (20, false) }) (v := undef) rfl (by kernel_rfl) (by kernel_rfl) (by kernel_rfl) (fun _ _ _ h => (hQp _ _ _ h).elim) (Or.inr ⟨by kernel_rfl, rfl⟩) (HS.out _ hb) ?_
  show wpAnyH Try.prog .any mops Q S 4 #[true, true, true, true, true, true, true, true, true, true, true, true, true, true, true, true, true, true, true, true, true, true, true, true, false, false, false, false] { tmps := #[pv, sv, .pointer (some ⟨g, 0, none⟩), .pointer (some ⟨g + 1, 0, none⟩), .bool false, u, .pointer (some ⟨g + 1, 0, none⟩), .int .u8 1, .bool false, .bool false, undef, undef, undef, .bool false, .bool false, .pointer (some ⟨g + 1, 1, none⟩), .int .i64 (t : Int), .bool false, .bool false, .bool false, .pointer (some ⟨g + 1, 1, none⟩), .int .i64 (t : Int), .agg #[.int .i64 k, .int .i64 r, .int .i64 c, .int .i64 q], .int .i64 (N : Int), .bool true, .bool true, .bool true, undef, undef, undef, u, u, u, u, u, u, u, u, u, u, u, u, u, u, u, u, u, u, u, u, u, u, u, u, u, u, u], defers := [] } wa
  refine wpAnyH_take (i := 24) (oi := { dst := some 30, op := Op.fieldAddr 23 (Operand.tmp 2) 2, type := 0, pos := "ref.go:37", after := #[{ on := 20, ground := Ground.guard }], guard := some (20, false) }) (v := undef) rfl (by kernel_rfl) (by kernel_rfl) (by kernel_rfl) (fun _ _ _ h => (hQp _ _ _ h).elim) (Or.inr ⟨by kernel_rfl, rfl⟩) (HS.out _ hb) ?_
  refine wpAnyH_take (i := 25) (oi := { dst := some 31, op := Op.load 3 (Operand.tmp 30), type := 3, pos := "ref.go:37", after := #[{ on := 24, ground := Ground.data }, { on := 20, ground := Ground.guard }], guard := some (20, false) }) (v := undef) rfl (by kernel_rfl) (by kernel_rfl) (by kernel_rfl) (fun _ _ _ h => (hQp _ _ _ h).elim) (Or.inr ⟨by kernel_rfl, rfl⟩) (HS.out _ hb) ?_
  refine wpAnyH_take (i := 26) (oi := { dst := some 32, op := Op.binOp BinOp.neq 3 (Operand.tmp 29) (Operand.tmp 31) 3, type := 4, pos := "ref.go:37", after := #[{ on := 23, ground := Ground.data }, { on := 25, ground := Ground.data }, { on := 20, ground := Ground.guard }], guard := some (20, false) }) (v := undef) rfl (by kernel_rfl) (by kernel_rfl) (by kernel_rfl) (fun _ _ _ h => (hQp _ _ _ h).elim) (Or.inr ⟨by kernel_rfl, rfl⟩) (HS.out _ hb) ?_
  refine wpAnyH_take (i := 27) (oi := { dst := some 33, op := Op.pick (Operand.tmp 26) (Operand.const (Value.bool true)) (Operand.tmp 32), type := 4, pos := "ref.go:37", after := #[{ on := 20, ground := Ground.data }, { on := 26, ground := Ground.data }], guard := none }) (v := .bool true) rfl (by kernel_rfl) (by kernel_rfl) (by kernel_rfl) (fun _ _ _ h => (hQp _ _ _ h).elim) (Or.inl ⟨by kernel_rfl, ?_⟩) (HS.out _ hb) ?_
  · intro w' hSw
    obtain ⟨s0, s1, s2, s3, s4, s5, s6⟩ := HS1.out _ hSw
    go_simp <;> first | with_reducible rfl | assumption
  show wpAnyH Try.prog .any mops Q S 0 #[true, true, true, true, true, true, true, true, true, true, true, true, true, true, true, true, true, true, true, true, true, true, true, true, true, true, true, true] { tmps := #[pv, sv, .pointer (some ⟨g, 0, none⟩), .pointer (some ⟨g + 1, 0, none⟩), .bool false, u, .pointer (some ⟨g + 1, 0, none⟩), .int .u8 1, .bool false, .bool false, undef, undef, undef, .bool false, .bool false, .pointer (some ⟨g + 1, 1, none⟩), .int .i64 (t : Int), .bool false, .bool false, .bool false, .pointer (some ⟨g + 1, 1, none⟩), .int .i64 (t : Int), .agg #[.int .i64 k, .int .i64 r, .int .i64 c, .int .i64 q], .int .i64 (N : Int), .bool true, .bool true, .bool true, undef, undef, undef, undef, undef, undef, .bool true, u, u, u, u, u, u, u, u, u, u, u, u, u, u, u, u, u, u, u, u, u, u, u], defers := [] } wa
  refine wpAnyH_done (by kernel_rfl) ?_ _
  exact HQ.out _ hb
set_option maxHeartbeats 8000000 in
set_option maxRecDepth 100000 in
theorem may_1ne {pv sv u : Value} (w1 : World) (k r c q : Int) (g N t _vn _ca dn cb : Nat) (_ce _st : Int) (_ao bo : Option Addr)
    (hS : ∀ v, Below w1.heap.size w1 v → (v.cell? ⟨g, 0, none⟩ = some (.int .i64 k) ∧ v.cell? ⟨g, 1, none⟩ = some (.int .i64 r) ∧ v.cell? ⟨g, 2, none⟩ = some (.int .i64 c) ∧ v.cell? ⟨g, 3, none⟩ = some (.int .i64 q) ∧ v.cell? ⟨g + 1, 0, none⟩ = some (.int .u8 1) ∧ v.cell? ⟨g + 1, 1, none⟩ = some (.int .i64 (t : Int)) ∧ v.cell? ⟨g + 1, 5, none⟩ = some (.slice bo dn cb)))
    (HN : ∀ w, Calls Try.prog 52 #[.agg #[.int .i64 k, .int .i64 r, .int .i64 c, .int .i64 q]] w fun e w' => e = .returned (.int .i64 (N : Int)) ∧ Below w.heap.size w w') (h1 : t < N) (h2 : ((dn : Int) != c) = true)
    (Q : Exit → Act → World → Prop) (hQp : ∀ ch a v, Q (.panic ch) a v → False) (hQ : ∀ wa, Below w1.heap.size w1 wa → Q .normal { tmps := #[pv, sv, .pointer (some ⟨g, 0, none⟩), .pointer (some ⟨g + 1, 0, none⟩), .bool false, u, .pointer (some ⟨g + 1, 0, none⟩), .int .u8 1, .bool false, .bool false, undef, undef, undef, .bool false, .bool false, .pointer (some ⟨g + 1, 1, none⟩), .int .i64 (t : Int), .bool false, .bool false, .bool false, .pointer (some ⟨g + 1, 1, none⟩), .int .i64 (t : Int), .agg #[.int .i64 k, .int .i64 r, .int .i64 c, .int .i64 q], .int .i64 (N : Int), .bool false, .bool false, .bool false, .pointer (some ⟨g + 1, 5, none⟩), .slice bo dn cb, .int .i64 (dn : Int), .pointer (some ⟨g, 2, none⟩), .int .i64 c, .bool true, .bool true, u, u, u, u, u, u, u, u, u, u, u, u, u, u, u, u, u, u, u, u, u, u, u], defers := [] } wa) :
    Code.wp Try.prog (Code.region 1 mops true) Q { tmps := #[pv, sv, .pointer (some ⟨g, 0, none⟩), .pointer (some ⟨g + 1, 0, none⟩), .bool false, u, u, u, u, u, u, u, u, u, u, u, u, u, u, u, u, u, u, u, u, u, u, u, u, u, u, u, u, u, u, u, u, u, u, u, u, u, u, u, u, u, u, u, u, u, u, u, u, u, u, u, u], defers := [] } w1 := by
  have HQ : Hid (∀ wa, Below w1.heap.size w1 wa → Q .normal { tmps := #[pv, sv, .pointer (some ⟨g, 0, none⟩), .pointer (some ⟨g + 1, 0, none⟩), .bool false, u, .pointer (some ⟨g + 1, 0, none⟩), .int .u8 1, .bool false, .bool false, undef, undef, undef, .bool false, .bool false, .pointer (some ⟨g + 1, 1, none⟩), .int .i64 (t : Int), .bool false, .bool false, .bool false, .pointer (some ⟨g + 1, 1, none⟩), .int .i64 (t : Int), .agg #[.int .i64 k, .int .i64 r, .int .i64 c, .int .i64 q], .int .i64 (N : Int), .bool false, .bool false, .bool false, .pointer (some ⟨g + 1, 5, none⟩), .slice bo dn cb, .int .i64 (dn : Int), .pointer (some ⟨g, 2, none⟩), .int .i64 c, .bool true, .bool true, u, u, u, u, u, u, u, u, u, u, u, u, u, u, u, u, u, u, u, u, u, u, u], defers := [] } wa) := hQ
  obtain ⟨S, HS1, HS⟩ : ∃ S : World → Prop, Hid (∀ v, S v → (v.cell? ⟨g, 0, none⟩ = some (.int .i64 k) ∧ v.cell? ⟨g, 1, none⟩ = some (.int .i64 r) ∧ v.cell? ⟨g, 2, none⟩ = some (.int .i64 c) ∧ v.cell? ⟨g, 3, none⟩ = some (.int .i64 q) ∧ v.cell? ⟨g + 1, 0, none⟩ = some (.int .u8 1) ∧ v.cell? ⟨g + 1, 1, none⟩ = some (.int .i64 (t : Int)) ∧ v.cell? ⟨g + 1, 5, none⟩ = some (.slice bo dn cb))) ∧ Hid (∀ v, Below w1.heap.size w1 v → S v) := ⟨fun v => v.cell? ⟨g, 0, none⟩ = some (.int .i64 k) ∧ v.cell? ⟨g, 1, none⟩ = some (.int .i64 r) ∧ v.cell? ⟨g, 2, none⟩ = some (.int .i64 c) ∧ v.cell? ⟨g, 3, none⟩ = some (.int .i64 q) ∧ v.cell? ⟨g + 1, 0, none⟩ = some (.int .u8 1) ∧ v.cell? ⟨g + 1, 1, none⟩ = some (.int .i64 (t : Int)) ∧ v.cell? ⟨g + 1, 5, none⟩ = some (.slice bo dn cb), fun v h => h, hS⟩
  clear hS hQ
  have j4 : ¬ (t : Int) < 0 := by omega
  have j5 : ¬ N ≤ t := by omega
  have j6 : ¬ (N : Int) ≤ (t : Int) := by omega
  refine wp_region_held_drew (S := S) (by kernel_rfl) (HS.out _ (below_drew _ _)) (fun hHeld => ?_)
  have hb : Below w1.heap.size w1 w1.drew := below_drew _ _
  rw [show mops.size = 28 from by kernel_rfl, show Array.replicate 28 false = #[false, false, false, false, false, false, false, false, false, false, false, false, false, false, false, false, false, false, false, false, false, false, false, false, false, false, false, false] from by kernel_rfl]
  refine wpAnyH_take (i := 0) (oi := { dst := some 6, op := Op.fieldAddr 68 (Operand.tmp 3) 0, type := 0, pos := "ref.go:37", after := #[], guard := none }) (v := .pointer (some ⟨g + 1, 0, none⟩)) rfl (by kernel_rfl) (by kernel_rfl) (by kernel_rfl) (fun _ _ _ h => (hQp _ _ _ h).elim) (Or.inl ⟨by kernel_rfl, ?_⟩) (HS.out _ hb) ?_
  · intro w' hSw
    obtain ⟨s0, s1, s2, s3, s4, s5, s6⟩ := HS1.out _ hSw
    go_simp <;> first | with_reducible rfl | assumption
  refine wpAnyH_take (i := 1) (oi := { dst := some 7, op := Op.load 5 (Operand.tmp 6), type := 5, pos := "ref.go:37", after := #[{ on := 0, ground := Ground.data }], guard := none }) (v := .int .u8 1) rfl (by kernel_rfl) (by kernel_rfl) (by kernel_rfl) (fun _ _ _ h => (hQp _ _ _ h).elim) (Or.inl ⟨by kernel_rfl, ?_⟩) (HS.out _ hb) ?_
  · intro w' hSw
    obtain ⟨s0, s1, s2, s3, s4, s5, s6⟩ := HS1.out _ hSw
    go_simp <;> first | with_reducible rfl | assumption
  refine wpAnyH_take (i := 2) (oi := { dst := some 8, op := Op.binOp BinOp.neq 5 (Operand.tmp 7) (Operand.const (Value.int IntKind.u8 1)) 5, type := 4, pos := "ref.go:37", after := #[{ on := 1, ground := Ground.data }], guard := none }) (v := .bool false) rfl (by kernel_rfl) (by kernel_rfl) (by kernel_rfl) (fun _ _ _ h => (hQp _ _ _ h).elim) (Or.inl ⟨by kernel_rfl, ?_⟩) (HS.out _ hb) ?_
  · intro w' hSw
    obtain ⟨s0, s1, s2, s3, s4, s5, s6⟩ := HS1.out _ hSw
    go_simp <;> first | with_reducible rfl | assumption
  refine wpAnyH_take (i := 3) (oi := { dst := some 9, op := Op.move (Operand.tmp 8), type := 4, pos := "ref.go:37", after := #[{ on := 2, ground := Ground.data }], guard := none }) (v := .bool false) rfl (by kernel_rfl) (by kernel_rfl) (by kernel_rfl) (fun _ _ _ h => (hQp _ _ _ h).elim) (Or.inl ⟨by kernel_rfl, ?_⟩) (HS.out _ hb) ?_
  · intro w' hSw
    obtain ⟨s0, s1, s2, s3, s4, s5, s6⟩ := HS1.out _ hSw
    go_simp <;> first | with_reducible rfl | assumption
  show wpAnyH Try.prog .any mops Q S 24 #[true, true, true, true, false, false, false, false, false, false, false, false, false, false, false, false, false, false, false, false, false, false, false, false, false, false, false, false] { tmps := #[pv, sv, .pointer (some ⟨g, 0, none⟩), .pointer (some ⟨g + 1, 0, none⟩), .bool false, u, .pointer (some ⟨g + 1, 0, none⟩), .int .u8 1, .bool false, .bool false, u, u, u, u, u, u, u, u, u, u, u, u, u, u, u, u, u, u, u, u, u, u, u, u, u, u, u, u, u, u, u, u, u, u, u, u, u, u, u, u, u, u, u, u, u, u, u], defers := [] } w1.drew
  refine wpAnyH_take (i := 4) (oi := { dst := some 10, op := Op.fieldAddr 68 (Operand.tmp 3) 0, type := 0, pos := "ref.go:37", after := #[{ on := 3, ground := Ground.guard }], guard := some (3, true) }) (v := undef) rfl (by kernel_rfl) (by kernel_rfl) (by kernel_rfl) (fun _ _ _ h => (hQp _ _ _ h).elim) (Or.inr ⟨by kernel_rfl, rfl⟩) (HS.out _ hb) ?_
  refine wpAnyH_take (i := 5) (oi := { dst := some 11, op := Op.load 5 (Operand.tmp 10), type := 5, pos := "ref.go:37", after := #[{ on := 4, ground := Ground.data }, { on := 3, ground := Ground.guard }], guard := some (3, true) }) (v := undef) rfl (by kernel_rfl) (by kernel_rfl) (by kernel_rfl) (fun _ _ _ h => (hQp _ _ _ h).elim) (Or.inr ⟨by kernel_rfl, rfl⟩) (HS.out _ hb) ?_
  refine wpAnyH_take (i := 6) (oi := { dst := some 12, op := Op.binOp BinOp.neq 5 (Operand.tmp 11) (Operand.const (Value.int IntKind.u8 2)) 5, type := 4, pos := "ref.go:37", after := #[{ on := 5, ground := Ground.data }, { on := 3, ground := Ground.guard }], guard := some (3, true) }) (v := undef) rfl (by kernel_rfl) (by kernel_rfl) (by kernel_rfl) (fun _ _ _ h => (hQp _ _ _ h).elim) (Or.inr ⟨by kernel_rfl, rfl⟩) (HS.out _ hb) ?_
  refine wpAnyH_take (i := 7) (oi := { dst := some 13, op := Op.pick (Operand.tmp 9) (Operand.tmp 12) (Operand.const (Value.bool false)), type := 4, pos := "ref.go:37", after := #[{ on := 3, ground := Ground.data }, { on := 6, ground := Ground.data }], guard := none }) (v := .bool false) rfl (by kernel_rfl) (by kernel_rfl) (by kernel_rfl) (fun _ _ _ h => (hQp _ _ _ h).elim) (Or.inl ⟨by kernel_rfl, ?_⟩) (HS.out _ hb) ?_
  · intro w' hSw
    obtain ⟨s0, s1, s2, s3, s4, s5, s6⟩ := HS1.out _ hSw
    go_simp <;> first | with_reducible rfl | assumption
  show wpAnyH Try.prog .any mops Q S 20 #[true, true, true, true, true, true, true, true, false, false, false, false, false, false, false, false, false, false, false, false, false, false, false, false, false, false, false, false] { tmps := #[pv, sv, .pointer (some ⟨g, 0, none⟩), .pointer (some ⟨g + 1, 0, none⟩), .bool false, u, .pointer (some ⟨g + 1, 0, none⟩), .int .u8 1, .bool false, .bool false, undef, undef, undef, .bool false, u, u, u, u, u, u, u, u, u, u, u, u, u, u, u, u, u, u, u, u, u, u, u, u, u, u, u, u, u, u, u, u, u, u, u, u, u, u, u, u, u, u, u], defers := [] } w1.drew
  refine wpAnyH_take (i := 8) (oi := { dst := some 14, op := Op.move (Operand.tmp 13), type := 4, pos := "ref.go:37", after := #[{ on := 7, ground := Ground.data }, { on := 3, ground := Ground.chain }], guard := none }) (v := .bool false) rfl (by kernel_rfl) (by kernel_rfl) (by kernel_rfl) (fun _ _ _ h => (hQp _ _ _ h).elim) (Or.inl ⟨by kernel_rfl, ?_⟩) (HS.out _ hb) ?_
  · intro w' hSw
    obtain ⟨s0, s1, s2, s3, s4, s5, s6⟩ := HS1.out _ hSw
    go_simp <;> first | with_reducible rfl | assumption
  refine wpAnyH_take (i := 9) (oi := { dst := some 15, op := Op.fieldAddr 68 (Operand.tmp 3) 1, type := 0, pos := "ref.go:37", after := #[{ on := 8, ground := Ground.guard }], guard := some (8, false) }) (v := .pointer (some ⟨g + 1, 1, none⟩)) rfl (by kernel_rfl) (by kernel_rfl) (by kernel_rfl) (fun _ _ _ h => (hQp _ _ _ h).elim) (Or.inl ⟨by kernel_rfl, ?_⟩) (HS.out _ hb) ?_
  · intro w' hSw
    obtain ⟨s0, s1, s2, s3, s4, s5, s6⟩ := HS1.out _ hSw
    go_simp <;> first | with_reducible rfl | assumption
  refine wpAnyH_take (i := 10) (oi := { dst := some 16, op := Op.load 3 (Operand.tmp 15), type := 3, pos := "ref.go:37", after := #[{ on := 9, ground := Ground.data }, { on := 8, ground := Ground.guard }], guard := some (8, false) }) (v := .int .i64 (t : Int)) rfl (by kernel_rfl) (by kernel_rfl) (by kernel_rfl) (fun _ _ _ h => (hQp _ _ _ h).elim) (Or.inl ⟨by kernel_rfl, ?_⟩) (HS.out _ hb) ?_
  · intro w' hSw
    obtain ⟨s0, s1, s2, s3, s4, s5, s6⟩ := HS1.out _ hSw
    go_simp <;> first | with_reducible rfl | assumption
  refine wpAnyH_take (i := 11) (oi := { dst := some 17, op := Op.binOp BinOp.lss 3 (Operand.tmp 16) (Operand.const (Value.int IntKind.i64 0)) 3, type := 4, pos := "ref.go:37", after := #[{ on := 10, ground := Ground.data }, { on := 8, ground := Ground.guard }], guard := some (8, false) }) (v := .bool false) rfl (by kernel_rfl) (by kernel_rfl) (by kernel_rfl) (fun _ _ _ h => (hQp _ _ _ h).elim) (Or.inl ⟨by kernel_rfl, ?_⟩) (HS.out _ hb) ?_
  · intro w' hSw
    obtain ⟨s0, s1, s2, s3, s4, s5, s6⟩ := HS1.out _ hSw
    go_simp <;> first | with_reducible rfl | assumption
  show wpAnyH Try.prog .any mops Q S 16 #[true, true, true, true, true, true, true, true, true, true, true, true, false, false, false, false, false, false, false, false, false, false, false, false, false, false, false, false] { tmps := #[pv, sv, .pointer (some ⟨g, 0, none⟩), .pointer (some ⟨g + 1, 0, none⟩), .bool false, u, .pointer (some ⟨g + 1, 0, none⟩), .int .u8 1, .bool false, .bool false, undef, undef, undef, .bool false, .bool false, .pointer (some ⟨g + 1, 1, none⟩), .int .i64 (t : Int), .bool false, u, u, u, u, u, u, u, u, u, u, u, u, u, u, u, u, u, u, u, u, u, u, u, u, u, u, u, u, u, u, u, u, u, u, u, u, u, u, u], defers := [] } w1.drew
  refine wpAnyH_take (i := 12) (oi := { dst := some 18, op := Op.pick (Operand.tmp 14) (Operand.const (Value.bool true)) (Operand.tmp 17), type := 4, pos := "ref.go:37", after := #[{ on := 8, ground := Ground.data }, { on := 11, ground := Ground.data }], guard := none }) (v := .bool false) rfl (by kernel_rfl) (by kernel_rfl) (by kernel_rfl) (fun _ _ _ h => (hQp _ _ _ h).elim) (Or.inl ⟨by kernel_rfl, ?_⟩) (HS.out _ hb) ?_
  · intro w' hSw
    obtain ⟨s0, s1, s2, s3, s4, s5, s6⟩ := HS1.out _ hSw
    go_simp <;> first | with_reducible rfl | assumption
  refine wpAnyH_take (i := 13) (oi := { dst := some 19, op := Op.move (Operand.tmp 18), type := 4, pos := "ref.go:37", after := #[{ on := 12, ground := Ground.data }, { on := 8, ground := Ground.chain }], guard := none }) (v := .bool false) rfl (by kernel_rfl) (by kernel_rfl) (by kernel_rfl) (fun _ _ _ h => (hQp _ _ _ h).elim) (Or.inl ⟨by kernel_rfl, ?_⟩) (HS.out _ hb) ?_
  · intro w' hSw
    obtain ⟨s0, s1, s2, s3, s4, s5, s6⟩ := HS1.out _ hSw
    go_simp <;> first | with_reducible rfl | assumption
  refine wpAnyH_take (i := 14) (oi := { dst := some 20, op := Op.fieldAddr 68 (Operand.tmp 3) 1, type := 0, pos := "ref.go:37", after := #[{ on := 13, ground := Ground.guard }], guard := some (13, false) }) (v := .pointer (some ⟨g + 1, 1, none⟩)) rfl (by kernel_rfl) (by kernel_rfl) (by kernel_rfl) (fun _ _ _ h => (hQp _ _ _ h).elim) (Or.inl ⟨by kernel_rfl, ?_⟩) (HS.out _ hb) ?_
  · intro w' hSw
    obtain ⟨s0, s1, s2, s3, s4, s5, s6⟩ := HS1.out _ hSw
    go_simp <;> first | with_reducible rfl | assumption
  refine wpAnyH_take (i := 15) (oi := { dst := some 21, op := Op.load 3 (Operand.tmp 20), type := 3, pos := "ref.go:37", after := #[{ on := 14, ground := Ground.data }, { on := 13, ground := Ground.guard }], guard := some (13, false) }) (v := .int .i64 (t : Int)) rfl (by kernel_rfl) (by kernel_rfl) (by kernel_rfl) (fun _ _ _ h => (hQp _ _ _ h).elim) (Or.inl ⟨by kernel_rfl, ?_⟩) (HS.out _ hb) ?_
  · intro w' hSw
    obtain ⟨s0, s1, s2, s3, s4, s5, s6⟩ := HS1.out _ hSw
    go_simp <;> first | with_reducible rfl | assumption
  show wpAnyH Try.prog .any mops Q S 12 #[true, true, true, true, true, true, true, true, true, true, true, true, true, true, true, true, false, false, false, false, false, false, false, false, false, false, false, false] { tmps := #[pv, sv, .pointer (some ⟨g, 0, none⟩), .pointer (some ⟨g + 1, 0, none⟩), .bool false, u, .pointer (some ⟨g + 1, 0, none⟩), .int .u8 1, .bool false, .bool false, undef, undef, undef, .bool false, .bool false, .pointer (some ⟨g + 1, 1, none⟩), .int .i64 (t : Int), .bool false, .bool false, .bool false, .pointer (some ⟨g + 1, 1, none⟩), .int .i64 (t : Int), u, u, u, u, u, u, u, u, u, u, u, u, u, u, u, u, u, u, u, u, u, u, u, u, u, u, u, u, u, u, u, u, u, u, u], defers := [] } w1.drew
  refine wpAnyH_take (i := 16) (oi := { dst := some 22, op := Op.load 23 (Operand.tmp 2), type := 23, pos := "ref.go:37", after := #[{ on := 13, ground := Ground.guard }], guard := some (13, false) }) (v := .agg #[.int .i64 k, .int .i64 r, .int .i64 c, .int .i64 q]) rfl (by kernel_rfl) (by kernel_rfl) (by kernel_rfl) (fun _ _ _ h => (hQp _ _ _ h).elim) (Or.inl ⟨by kernel_rfl, ?_⟩) (HS.out _ hb) ?_
  · intro w' hSw
    obtain ⟨s0, s1, s2, s3, s4, s5, s6⟩ := HS1.out _ hSw
    go_simp <;> first | with_reducible rfl | assumption
  show wpAnyH Try.prog .any mops Q S 11 #[true, true, true, true, true, true, true, true, true, true, true, true, true, true, true, true, true, false, false, false, false, false, false, false, false, false, false, false] { tmps := #[pv, sv, .pointer (some ⟨g, 0, none⟩), .pointer (some ⟨g + 1, 0, none⟩), .bool false, u, .pointer (some ⟨g + 1, 0, none⟩), .int .u8 1, .bool false, .bool false, undef, undef, undef, .bool false, .bool false, .pointer (some ⟨g + 1, 1, none⟩), .int .i64 (t : Int), .bool false, .bool false, .bool false, .pointer (some ⟨g + 1, 1, none⟩), .int .i64 (t : Int), .agg #[.int .i64 k, .int .i64 r, .int .i64 c, .int .i64 q], u, u, u, u, u, u, u, u, u, u, u, u, u, u, u, u, u, u, u, u, u, u, u, u, u, u, u, u, u, u, u, u, u, u], defers := [] } w1.drew
  refine wpAnyH_ready (rs := [17]) (by kernel_rfl) (by simp) ?_
  refine AllReadyH.cons (o := { dst := some 23, op := Op.call { callee := Callee.value (Operand.func 52), args := #[Operand.tmp 22], argTypes := #[23] }, type := 3, pos := "ref.go:37", after := #[{ on := 16, ground := Ground.data }, { on := 13, ground := Ground.chain }, { on := 13, ground := Ground.guard }], guard := some (13, false) }) rfl (fun K hK => ?_) AllReadyH.nil
  go_simp
  refine (HN _).mono ?_
  rintro e wa ⟨rfl, ha⟩
  refine hK.out _ _ (HS.out _ (below_then hb ha)) (fun hHeld2 => ?_)
  replace hb : Below w1.heap.size w1 wa := (below_then hb ha)
  clear hK K hHeld
  have hHeld := hHeld2
  clear hHeld2
  show wpAnyH Try.prog .any mops Q S 10 #[true, true, true, true, true, true, true, true, true, true, true, true, true, true, true, true, true, true, false, false, false, false, false, false, false, false, false, false] { tmps := #[pv, sv, .pointer (some ⟨g, 0, none⟩), .pointer (some ⟨g + 1, 0, none⟩), .bool false, u, .pointer (some ⟨g + 1, 0, none⟩), .int .u8 1, .bool false, .bool false, undef, undef, undef, .bool false, .bool false, .pointer (some ⟨g + 1, 1, none⟩), .int .i64 (t : Int), .bool false, .bool false, .bool false, .pointer (some ⟨g + 1, 1, none⟩), .int .i64 (t : Int), .agg #[.int .i64 k, .int .i64 r, .int .i64 c, .int .i64 q], .int .i64 (N : Int), u, u, u, u, u, u, u, u, u, u, u, u, u, u, u, u, u, u, u, u, u, u, u, u, u, u, u, u, u, u, u, u, u], defers := [] } wa
  refine wpAnyH_take (i := 18) (oi := { dst := some 24, op := Op.binOp BinOp.geq 3 (Operand.tmp 21) (Operand.tmp 23) 3, type := 4, pos := "ref.go:37", after := #[{ on := 15, ground := Ground.data }, { on := 17, ground := Ground.data }, { on := 13, ground := Ground.guard }], guard := some (13, false) }) (v := .bool false) rfl (by kernel_rfl) (by kernel_rfl) (by kernel_rfl) (fun _ _ _ h => (hQp _ _ _ h).elim) (Or.inl ⟨by kernel_rfl, ?_⟩) (HS.out _ hb) ?_
  · intro w' hSw
    obtain ⟨s0, s1, s2, s3, s4, s5, s6⟩ := HS1.out _ hSw
    go_simp <;> first | with_reducible rfl | assumption
  refine wpAnyH_take (i := 19) (oi := { dst := some 25, op := Op.pick (Operand.tmp 19) (Operand.const (Value.bool true)) (Operand.tmp 24), type := 4, pos := "ref.go:37", after := #[{ on := 13, ground := Ground.data }, { on := 18, ground := Ground.data }], guard := none }) (v := .bool false) rfl (by kernel_rfl) (by kernel_rfl) (by kernel_rfl) (fun _ _ _ h => (hQp _ _ _ h).elim) (Or.inl ⟨by kernel_rfl, ?_⟩) (HS.out _ hb) ?_
  · intro w' hSw
    obtain ⟨s0, s1, s2, s3, s4, s5, s6⟩ := HS1.out _ hSw
    go_simp <;> first | with_reducible rfl | assumption
  show wpAnyH Try.prog .any mops Q S 8 #[true, true, true, true, true, true, true, true, true, true, true, true, true, true, true, true, true, true, true, true, false, false, false, false, false, false, false, false] { tmps := #[pv, sv, .pointer (some ⟨g, 0, none⟩), .pointer (some ⟨g + 1, 0, none⟩), .bool false, u, .pointer (some ⟨g + 1, 0, none⟩), .int .u8 1, .bool false, .bool false, undef, undef, undef, .bool false, .bool false, .pointer (some ⟨g + 1, 1, none⟩), .int .i64 (t : Int), .bool false, .bool false, .bool false, .pointer (some ⟨g + 1, 1, none⟩), .int .i64 (t : Int), .agg #[.int .i64 k, .int .i64 r, .int .i64 c, .int .i64 q], .int .i64 (N : Int), .bool false, .bool false, u, u, u, u, u, u, u, u, u, u, u, u, u, u, u, u, u, u, u, u, u, u, u, u, u, u, u, u, u, u, u], defers := [] } wa
  refine wpAnyH_take (i := 20) (oi := { dst := some 26, op := Op.move (Operand.tmp 25), type := 4, pos := "ref.go:37", after := #[{ on := 19, ground := Ground.data }, { on := 17, ground := Ground.chain }], guard := none }) (v := .bool false) rfl (by kernel_rfl) (by kernel_rfl) (by kernel_rfl) (fun _ _ _ h => (hQp _ _ _ h).elim) (Or.inl ⟨by kernel_rfl, ?_⟩) (HS.out _ hb) ?_
  · intro w' hSw
    obtain ⟨s0, s1, s2, s3, s4, s5, s6⟩ := HS1.out _ hSw
    go_simp <;> first | with_reducible rfl | assumption
  refine wpAnyH_take (i := 21) (oi := { dst := some 27, op := Op.fieldAddr 68 (Operand.tmp 3) 5, type := 0, pos := "ref.go:37", after := #[{ on := 20, ground := Ground.guard }], guard := some (20, false) }) (v := .pointer (some ⟨g + 1, 5, none⟩)) rfl (by kernel_rfl) (by kernel_rfl) (by kernel_rfl) (fun _ _ _ h => (hQp _ _ _ h).elim) (Or.inl ⟨by kernel_rfl, ?_⟩) (HS.out _ hb) ?_
  · intro w' hSw
    obtain ⟨s0, s1, s2, s3, s4, s5, s6⟩ := HS1.out _ hSw
    go_simp <;> first | with_reducible rfl | assumption
  refine wpAnyH_take (i := 22) (oi := { dst := some 28, op := Op.load 45 (Operand.tmp 27), type := 45, pos := "ref.go:37", after := #[{ on := 21, ground := Ground.data }, { on := 20, ground := Ground.guard }], guard := some (20, false) }) (v := .slice bo dn cb) rfl (by kernel_rfl) (by kernel_rfl) (by kernel_rfl) (fun _ _ _ h => (hQp _ _ _ h).elim) (Or.inl ⟨by kernel_rfl, ?_⟩) (HS.out _ hb) ?_
  · intro w' hSw
    obtain ⟨s0, s1, s2, s3, s4, s5, s6⟩ := HS1.out _ hSw
    go_simp <;> first | with_reducible rfl | assumption
  refine wpAnyH_take (i := 23) (oi := { dst := some 29, op := Op.call { callee := Callee.builtin Builtin.len, args := #[Operand.tmp 28], argTypes := #[45] }, type := 3, pos := "ref.go:37", after := #[{ on := 22, ground := Ground.data }, { on := 20, ground := Ground.guard }], guard := some (20, false) }) (v := .int .i64 (dn : Int)) rfl (by kernel_rfl) (by kernel_rfl) (by kernel_rfl) (fun _ _ _ h => (hQp _ _ _ h).elim) (Or.inl ⟨by kernel_rfl, ?_⟩) (HS.out _ hb) ?_
  · intro w' hSw
    obtain ⟨s0, s1, s2, s3, s4, s5, s6⟩ := HS1.out _ hSw
    go_simp <;> first | with_reducible rfl | assumption
  show wpAnyH Try.prog .any mops Q S 4 #[true, true, true, true, true, true, true, true, true, true, true, true, true, true, true, true, true, true, true, true, true, true, true, true, false, false, false, false] { tmps := #[pv, sv, .pointer (some ⟨g, 0, none⟩), .pointer (some ⟨g + 1, 0, none⟩), .bool false, u, .pointer (some ⟨g + 1, 0, none⟩), .int .u8 1, .bool false, .bool false, undef, undef, undef, .bool false, .bool false, .pointer (some ⟨g + 1, 1, none⟩), .int .i64 (t : Int), .bool false, .bool false, .bool false, .pointer (some ⟨g + 1, 1, none⟩), .int .i64 (t : Int), .agg #[.int .i64 k, .int .i64 r, .int .i64 c, .int .i64 q], .int .i64 (N : Int), .bool false, .bool false, .bool false, .pointer (some ⟨g + 1, 5, none⟩), .slice bo dn cb, .int .i64 (dn : Int), u, u, u, u, u, u, u, u, u, u, u, u, u, u, u, u, u, u, u, u, u, u, u, u, u, u, u], defers := [] } wa
  refine wpAnyH_take (i := 24) (oi := { dst := some 30, op := Op.fieldAddr 23 (Operand.tmp 2) 2, type := 0, pos := "ref.go:37", after := #[{ on := 20, ground := Ground.guard }], guard := some (20, false) }) (v := .pointer (some ⟨g, 2, none⟩)) rfl (by kernel_rfl) (by kernel_rfl) (by kernel_rfl) (fun _ _ _ h => (hQp _ _ _ h).elim) (Or.inl ⟨by kernel_rfl, ?_⟩) (HS.out _ hb) ?_
  · intro w' hSw
    obtain ⟨s0, s1, s2, s3, s4, s5, s6⟩ := HS1.out _ hSw
    go_simp <;> first | with_reducible rfl | assumption
  refine wpAnyH_take (i := 25) (oi := { dst := some 31, op := Op.load 3 (Operand.tmp 30), type := 3, pos := "ref.go:37", after := #[{ on := 24, ground := Ground.data }, { on := 20, ground := Ground.guard }], guard := some (20, false) }) (v := .int .i64 c) rfl (by kernel_rfl) (by kernel_rfl) (by kernel_rfl) (fun _ _ _ h => (hQp _ _ _ h).elim) (Or.inl ⟨by kernel_rfl, ?_⟩) (HS.out _ hb) ?_
  · intro w' hSw
    obtain ⟨s0, s1, s2, s3, s4, s5, s6⟩ := HS1.out _ hSw
    go_simp <;> first | with_reducible rfl | assumption
  refine wpAnyH_take (i := 26) (oi := { dst := some 32, op := Op.binOp BinOp.neq 3 (Operand.tmp 29) (Operand.tmp 31) 3, type := 4, pos := "ref.go:37", after := #[{ on := 23, ground := Ground.data }, { on := 25, ground := Ground.data }, { on := 20, ground := Ground.guard }], guard := some (20, false) }) (v := .bool true) rfl (by kernel_rfl) (by kernel_rfl) (by kernel_rfl) (fun _ _ _ h => (hQp _ _ _ h).elim) (Or.inl ⟨by kernel_rfl, ?_⟩) (HS.out _ hb) ?_
  · intro w' hSw
    obtain ⟨s0, s1, s2, s3, s4, s5, s6⟩ := HS1.out _ hSw
    go_simp <;> first | with_reducible rfl | assumption
  refine wpAnyH_take (i := 27) (oi := { dst := some 33, op := Op.pick (Operand.tmp 26) (Operand.const (Value.bool true)) (Operand.tmp 32), type := 4, pos := "ref.go:37", after := #[{ on := 20, ground := Ground.data }, { on := 26, ground := Ground.data }], guard := none }) (v := .bool true) rfl (by kernel_rfl) (by kernel_rfl) (by kernel_rfl) (fun _ _ _ h => (hQp _ _ _ h).elim) (Or.inl ⟨by kernel_rfl, ?_⟩) (HS.out _ hb) ?_
  · intro w' hSw
    obtain ⟨s0, s1, s2, s3, s4, s5, s6⟩ := HS1.out _ hSw
    go_simp <;> first | with_reducible rfl | assumption
  show wpAnyH Try.prog .any mops Q S 0 #[true, true, true, true, true, true, true, true, true, true, true, true, true, true, true, true, true, true, true, true, true, true, true, true, true, true, true, true] { tmps := #[pv, sv, .pointer (some ⟨g, 0, none⟩), .pointer (some ⟨g + 1, 0, none⟩), .bool false, u, .pointer (some ⟨g + 1, 0, none⟩), .int .u8 1, .bool false, .bool false, undef, undef, undef, .bool false, .bool false, .pointer (some ⟨g + 1, 1, none⟩), .int .i64 (t : Int), .bool false, .bool false, .bool false, .pointer (some ⟨g + 1, 1, none⟩), .int .i64 (t : Int), .agg #[.int .i64 k, .int .i64 r, .int .i64 c, .int .i64 q], .int .i64 (N : Int), .bool false, .bool false, .bool false, .pointer (some ⟨g + 1, 5, none⟩), .slice bo dn cb, .int .i64 (dn : Int), .pointer (some ⟨g, 2, none⟩), .int .i64 c, .bool true, .bool true, u, u, u, u, u, u, u, u, u, u, u, u, u, u, u, u, u, u, u, u, u, u, u], defers := [] } wa
  refine wpAnyH_done (by kernel_rfl) ?_ _
  exact HQ.out _ hb
set_option maxHeartbeats 8000000 in
set_option maxRecDepth 100000 in
theorem may_1ok {pv sv u : Value} (w1 : World) (k r c q : Int) (g N t _vn _ca dn cb : Nat) (_ce _st : Int) (_ao bo : Option Addr)
    (hS : ∀ v, Below w1.heap.size w1 v → (v.cell? ⟨g, 0, none⟩ = some (.int .i64 k) ∧ v.cell? ⟨g, 1, none⟩ = some (.int .i64 r) ∧ v.cell? ⟨g, 2, none⟩ = some (.int .i64 c) ∧ v.cell? ⟨g, 3, none⟩ = some (.int .i64 q) ∧ v.cell? ⟨g + 1, 0, none⟩ = some (.int .u8 1) ∧ v.cell? ⟨g + 1, 1, none⟩ = some (.int .i64 (t : Int)) ∧ v.cell? ⟨g + 1, 5, none⟩ = some (.slice bo dn cb)))
    (HN : ∀ w, Calls Try.prog 52 #[.agg #[.int .i64 k, .int .i64 r, .int .i64 c, .int .i64 q]] w fun e w' => e = .returned (.int .i64 (N : Int)) ∧ Below w.heap.size w w') (h1 : t < N) (h2 : ((dn : Int) != c) = false)
    (Q : Exit → Act → World → Prop) (hQp : ∀ ch a v, Q (.panic ch) a v → False) (hQ : ∀ wa, Below w1.heap.size w1 wa → Q .normal { tmps := #[pv, sv, .pointer (some ⟨g, 0, none⟩), .pointer (some ⟨g + 1, 0, none⟩), .bool false, u, .pointer (some ⟨g + 1, 0, none⟩), .int .u8 1, .bool false, .bool false, undef, undef, undef, .bool false, .bool false, .pointer (some ⟨g + 1, 1, none⟩), .int .i64 (t : Int), .bool false, .bool false, .bool false, .pointer (some ⟨g + 1, 1, none⟩), .int .i64 (t : Int), .agg #[.int .i64 k, .int .i64 r, .int .i64 c, .int .i64 q], .int .i64 (N : Int), .bool false, .bool false, .bool false, .pointer (some ⟨g + 1, 5, none⟩), .slice bo dn cb, .int .i64 (dn : Int), .pointer (some ⟨g, 2, none⟩), .int .i64 c, .bool false, .bool false, u, u, u, u, u, u, u, u, u, u, u, u, u, u, u, u, u, u, u, u, u, u, u], defers := [] } wa) :
    Code.wp Try.prog (Code.region 1 mops true) Q { tmps := #[pv, sv, .pointer (some ⟨g, 0, none⟩), .pointer (some ⟨g + 1, 0, none⟩), .bool false, u, u, u, u, u, u, u, u, u, u, u, u, u, u, u, u, u, u, u, u, u, u, u, u, u, u, u, u, u, u, u, u, u, u, u, u, u, u, u, u, u, u, u, u, u, u, u, u, u, u, u, u], defers := [] } w1 := by
  have HQ : Hid (∀ wa, Below w1.heap.size w1 wa → Q .normal { tmps := #[pv, sv, .pointer (some ⟨g, 0, none⟩), .pointer (some ⟨g + 1, 0, none⟩), .bool false, u, .pointer (some ⟨g + 1, 0, none⟩), .int .u8 1, .bool false, .bool false, undef, undef, undef, .bool false, .bool false, .pointer (some ⟨g + 1, 1, none⟩), .int .i64 (t : Int), .bool false, .bool false, .bool false, .pointer (some ⟨g + 1, 1, none⟩), .int .i64 (t : Int), .agg #[.int .i64 k, .int .i64 r, .int .i64 c, .int .i64 q], .int .i64 (N : Int), .bool false, .bool false, .bool false, .pointer (some ⟨g + 1, 5, none⟩), .slice bo dn cb, .int .i64 (dn : Int), .pointer (some ⟨g, 2, none⟩), .int .i64 c, .bool false, .bool false, u, u, u, u, u, u, u, u, u, u, u, u, u, u, u, u, u, u, u, u, u, u, u], defers := [] } wa) := hQ
  obtain ⟨S, HS1, HS⟩ : ∃ S : World → Prop, Hid (∀ v, S v → (v.cell? ⟨g, 0, none⟩ = some (.int .i64 k) ∧ v.cell? ⟨g, 1, none⟩ = some (.int .i64 r) ∧ v.cell? ⟨g, 2, none⟩ = some (.int .i64 c) ∧ v.cell? ⟨g, 3, none⟩ = some (.int .i64 q) ∧ v.cell? ⟨g + 1, 0, none⟩ = some (.int .u8 1) ∧ v.cell? ⟨g + 1, 1, none⟩ = some (.int .i64 (t : Int)) ∧ v.cell? ⟨g + 1, 5, none⟩ = some (.slice bo dn cb))) ∧ Hid (∀ v, Below w1.heap.size w1 v → S v) := ⟨fun v => v.cell? ⟨g, 0, none⟩ = some (.int .i64 k) ∧ v.cell? ⟨g, 1, none⟩ = some (.int .i64 r) ∧ v.cell? ⟨g, 2, none⟩ = some (.int .i64 c) ∧ v.cell? ⟨g, 3, none⟩ = some (.int .i64 q) ∧ v.cell? ⟨g + 1, 0, none⟩ = some (.int .u8 1) ∧ v.cell? ⟨g + 1, 1, none⟩ = some (.int .i64 (t : Int)) ∧ v.cell? ⟨g + 1, 5, none⟩ = some (.slice bo dn cb), fun v h => h, hS⟩
  clear hS hQ
  have j4 : ¬ (t : Int) < 0 := by omega
  have j5 : ¬ N ≤ t := by omega
  have j6 : ¬ (N : Int) ≤ (t : Int) := by omega
  refine wp_region_held_drew (S := S) (by kernel_rfl) (HS.out _ (below_drew _ _)) (fun hHeld => ?_)
  have hb : Below w1.heap.size w1 w1.drew := below_drew _ _
  rw [show mops.size = 28 from by kernel_rfl, show Array.replicate 28 false = #[false, false, false, false, false, false, false, false, false, false, false, false, false, false, false, false, false, false, false, false, false, false, false, false, false, false, false, false] from by kernel_rfl]
  refine wpAnyH_take (i := 0) (oi := { dst := some 6, op := Op.fieldAddr 68 (Operand.tmp 3) 0, type := 0, pos := "ref.go:37", after := #[], guard := none }) (v := .pointer (some ⟨g + 1, 0, none⟩)) rfl (by kernel_rfl) (by kernel_rfl) (by kernel_rfl) (fun _ _ _ h => (hQp _ _ _ h).elim) (Or.inl ⟨by kernel_rfl, ?_⟩) (HS.out _ hb) ?_
  · intro w' hSw
    obtain ⟨s0, s1, s2, s3, s4, s5, s6⟩ := HS1.out _ hSw
    go_simp <;> first | with_reducible rfl | assumption
  refine wpAnyH_take (i := 1) (oi := { dst := some 7, op := Op.load 5 (Operand.tmp 6), type := 5, pos := "ref.go:37", after := #[{ on := 0, ground := Ground.data }], guard := none }) (v := .int .u8 1) rfl (by kernel_rfl) (by kernel_rfl) (by kernel_rfl) (fun _ _ _ h => (hQp _ _ _ h).elim) (Or.inl ⟨by kernel_rfl, ?_⟩) (HS.out _ hb) ?_
  · intro w' hSw
    obtain ⟨s0, s1, s2, s3, s4, s5, s6⟩ := HS1.out _ hSw
    go_simp <;> first | with_reducible rfl | assumption
  refine wpAnyH_take (i := 2) (oi := { dst := some 8, op := Op.binOp BinOp.neq 5 (Operand.tmp 7) (Operand.const (Value.int IntKind.u8 1)) 5, type := 4, pos := "ref.go:37", after := #[{ on := 1, ground := Ground.data }], guard := none }) (v := .bool false) rfl (by kernel_rfl) (by kernel_rfl) (by kernel_rfl) (fun _ _ _ h => (hQp _ _ _ h).elim) (Or.inl ⟨by kernel_rfl, ?_⟩) (HS.out _ hb) ?_
  · intro w' hSw
    obtain ⟨s0, s1, s2, s3, s4, s5, s6⟩ := HS1.out _ hSw
    go_simp <;> first | with_reducible rfl | assumption
  refine wpAnyH_take (i := 3) (oi := { dst := some 9, op := Op.move (Operand.tmp 8), type := 4, pos := "ref.go:37", after := #[{ on := 2, ground := Ground.data }], guard := none }) (v := .bool false) rfl (by kernel_rfl) (by kernel_rfl) (by kernel_rfl) (fun _ _ _ h => (hQp _ _ _ h).elim) (Or.inl ⟨by kernel_rfl, ?_⟩) (HS.out _ hb) ?_
  · intro w' hSw
    obtain ⟨s0, s1, s2, s3, s4, s5, s6⟩ := HS1.out _ hSw
    go_simp <;> first | with_reducible rfl | assumption
  show wpAnyH Try.prog .any mops Q S 24 #[true, true, true, true, false, false, false, false, false, false, false, false, false, false, false, false, false, false, false, false, false, false, false, false, false, false, false, false] { tmps := #[pv, sv, .pointer (some ⟨g, 0, none⟩), .pointer (some ⟨g + 1, 0, none⟩), .bool false, u, .pointer (some ⟨g + 1, 0, none⟩), .int .u8 1, .bool false, .bool false, u, u, u, u, u, u, u, u, u, u, u, u, u, u, u, u, u, u, u, u, u, u, u, u, u, u, u, u, u, u, u, u, u, u, u, u, u, u, u, u, u, u, u, u, u, u, u], defers := [] } w1.drew
  refine wpAnyH_take (i := 4) (oi := { dst := some 10, op := Op.fieldAddr 68 (Operand.tmp 3) 0, type := 0, pos := "ref.go:37", after := #[{ on := 3, ground := Ground.guard }], guard := some (3, true) }) (v := undef) rfl (by kernel_rfl) (by kernel_rfl) (by kernel_rfl) (fun _ _ _ h => (hQp _ _ _ h).elim) (Or.inr ⟨by kernel_rfl, rfl⟩) (HS.out _ hb) ?_
  refine wpAnyH_take (i := 5) (oi := { dst := some 11, op := Op.load 5 (Operand.tmp 10), type := 5, pos := "ref.go:37", after := #[{ on := 4, ground := Ground.data }, { on := 3, ground := Ground.guard }], guard := some (3, true) }) (v := undef) rfl (by kernel_rfl) (by kernel_rfl) (by kernel_rfl) (fun _ _ _ h => (hQp _ _ _ h).elim) (Or.inr ⟨by kernel_rfl, rfl⟩) (HS.out _ hb) ?_
  refine wpAnyH_take (i := 6) (oi := { dst := some 12, op := Op.binOp BinOp.neq 5 (Operand.tmp 11) (Operand.const (Value.int IntKind.u8 2)) 5, type := 4, pos := "ref.go:37", after := #[{ on := 5, ground := Ground.data }, { on := 3, ground := Ground.guard }], guard := some (3, true) }) (v := undef) rfl (by kernel_rfl) (by kernel_rfl) (by kernel_rfl) (fun _ _ _ h => (hQp _ _ _ h).elim) (Or.inr ⟨by kernel_rfl, rfl⟩) (HS.out _ hb) ?_
  refine wpAnyH_take (i := 7) (oi := { dst := some 13, op := Op.pick (Operand.tmp 9) (Operand.tmp 12) (Operand.const (Value.bool false)), type := 4, pos := "ref.go:37", after := #[{ on := 3, ground := Ground.data }, { on := 6, ground := Ground.data }], guard := none }) (v := .bool false) rfl (by kernel_rfl) (by kernel_rfl) (by kernel_rfl) (fun _ _ _ h => (hQp _ _ _ h).elim) (Or.inl ⟨by kernel_rfl, ?_⟩) (HS.out _ hb) ?_
  · intro w' hSw
    obtain ⟨s0, s1, s2, s3, s4, s5, s6⟩ := HS1.out _ hSw
    go_simp <;> first | with_reducible rfl | assumption
  show wpAnyH Try.prog .any mops Q S 20 #[true, true, true, true, true, true, true, true, false, false, false, false, false, false, false, false, false, false, false, false, false, false, false, false, false, false, false, false] { tmps := #[pv, sv, .pointer (some ⟨g, 0, none⟩), .pointer (some ⟨g + 1, 0, none⟩), .bool false, u, .pointer (some ⟨g + 1, 0, none⟩), .int .u8 1, .bool false, .bool false, undef, undef, undef, .bool false, u, u, u, u, u, u, u, u, u, u, u, u, u, u, u, u, u, u, u, u, u, u, u, u, u, u, u, u, u, u, u, u, u, u, u, u, u, u, u, u, u, u, u], defers := [] } w1.drew
  refine wpAnyH_take (i := 8) (oi := { dst := some 14, op := Op.move (Operand.tmp 13), type := 4, pos := "ref.go:37", after := #[{ on := 7, ground := Ground.data }, { on := 3, ground := Ground.chain }], guard := none }) (v := .bool false) rfl (by kernel_rfl) (by kernel_rfl) (by kernel_rfl) (fun _ _ _ h => (hQp _ _ _ h).elim) (Or.inl ⟨by kernel_rfl, ?_⟩) (HS.out _ hb) ?_
  · intro w' hSw
    obtain ⟨s0, s1, s2, s3, s4, s5, s6⟩ := HS1.out _ hSw
    go_simp <;> first | with_reducible rfl | assumption
  refine wpAnyH_take (i := 9) (oi := { dst := some 15, op := Op.fieldAddr 68 (Operand.tmp 3) 1, type := 0, pos := "ref.go:37", after := #[{ on := 8, ground := Ground.guard }], guard := some (8, false) }) (v := .pointer (some ⟨g + 1, 1, none⟩)) rfl (by kernel_rfl) (by kernel_rfl) (by kernel_rfl) (fun _ _ _ h => (hQp _ _ _ h).elim) (Or.inl ⟨by kernel_rfl, ?_⟩) (HS.out _ hb) ?_
  · intro w' hSw
    obtain ⟨s0, s1, s2, s3, s4, s5, s6⟩ := HS1.out _ hSw
    go_simp <;> first | with_reducible rfl | assumption
  refine wpAnyH_take (i := 10) (oi := { dst := some 16, op := Op.load 3 (Operand.tmp 15), type := 3, pos := "ref.go:37", after := #[{ on := 9, ground := Ground.data }, { on := 8, ground := Ground.guard }], guard := some (8, false) }) (v := .int .i64 (t : Int)) rfl (by kernel_rfl) (by kernel_rfl) (by kernel_rfl) (fun _ _ _ h => (hQp _ _ _ h).elim) (Or.inl ⟨by kernel_rfl, ?_⟩) (HS.out _ hb) ?_
  · intro w' hSw
    obtain ⟨s0, s1, s2, s3, s4, s5, s6⟩ := HS1.out _ hSw
    go_simp <;> first | with_reducible rfl | assumption
  refine wpAnyH_take (i := 11) (oi := { dst := some 17, op := Op.binOp BinOp.lss 3 (Operand.tmp 16) (Operand.const (Value.int IntKind.i64 0)) 3, type := 4, pos := "ref.go:37", after := #[{ on := 10, ground := Ground.data }, { on := 8, ground := Ground.guard }], guard := some (8, false) }) (v := .bool false) rfl (by kernel_rfl) (by kernel_rfl) (by kernel_rfl) (fun _ _ _ h => (hQp _ _ _ h).elim) (Or.inl ⟨by kernel_rfl, ?_⟩) (HS.out _ hb) ?_
  · intro w' hSw
    obtain ⟨s0, s1, s2, s3, s4, s5, s6⟩ := HS1.out _ hSw
    go_simp <;> first | with_reducible rfl | assumption
  show wpAnyH Try.prog .any mops Q S 16 #[true, true, true, true, true, true, true, true, true, true, true, true, false, false, false, false, false, false, false, false, false, false, false, false, false, false, false, false] { tmps := #[pv, sv, .pointer (some ⟨g, 0, none⟩), .pointer (some ⟨g + 1, 0, none⟩), .bool false, u, .pointer (some ⟨g + 1, 0, none⟩), .int .u8 1, .bool false, .bool false, undef, undef, undef, .bool false, .bool false, .pointer (some ⟨g + 1, 1, none⟩), .int .i64 (t : Int), .bool false, u, u, u, u, u, u, u, u, u, u, u, u, u, u, u, u, u, u, u, u, u, u, u, u, u, u, u, u, u, u, u, u, u, u, u, u, u, u, u], defers := [] } w1.drew
  refine wpAnyH_take (i := 12) (oi := { dst := some 18, op := Op.pick (Operand.tmp 14) (Operand.const (Value.bool true)) (Operand.tmp 17), type := 4, pos := "ref.go:37", after := #[{ on := 8, ground := Ground.data }, { on := 11, ground := Ground.data }], guard := none }) (v := .bool false) rfl (by kernel_rfl) (by kernel_rfl) (by kernel_rfl) (fun _ _ _ h => (hQp _ _ _ h).elim) (Or.inl ⟨by kernel_rfl, ?_⟩) (HS.out _ hb) ?_
  · intro w' hSw
    obtain ⟨s0, s1, s2, s3, s4, s5, s6⟩ := HS1.out _ hSw
    go_simp <;> first | with_reducible rfl | assumption
  refine wpAnyH_take (i := 13) (oi := { dst := some 19, op := Op.move (Operand.tmp 18), type := 4, pos := "ref.go:37", after := #[{ on := 12, ground := Ground.data }, { on := 8, ground := Ground.chain }], guard := none }) (v := .bool false) rfl (by kernel_rfl) (by kernel_rfl) (by kernel_rfl) (fun _ _ _ h => (hQp _ _ _ h).elim) (Or.inl ⟨by kernel_rfl, ?_⟩) (HS.out _ hb) ?_
  · intro w' hSw
    obtain ⟨s0, s1, s2, s3, s4, s5, s6⟩ := HS1.out _ hSw
    go_simp <;> first | with_reducible rfl | assumption
  refine wpAnyH_take (i := 14) (oi := { dst := some 20, op := Op.fieldAddr 68 (Operand.tmp 3) 1, type := 0, pos := "ref.go:37", after := #[{ on := 13, ground := Ground.guard }], guard := some (13, false) }) (v := .pointer (some ⟨g + 1, 1, none⟩)) rfl (by kernel_rfl) (by kernel_rfl) (by kernel_rfl) (fun _ _ _ h => (hQp _ _ _ h).elim) (Or.inl ⟨by kernel_rfl, ?_⟩) (HS.out _ hb) ?_
  · intro w' hSw
    obtain ⟨s0, s1, s2, s3, s4, s5, s6⟩ := HS1.out _ hSw
    go_simp <;> first | with_reducible rfl | assumption
  refine wpAnyH_take (i := 15) (oi := { dst := some 21, op := Op.load 3 (Operand.tmp 20), type := 3, pos := "ref.go:37", after := #[{ on := 14, ground := Ground.data }, { on := 13, ground := Ground.guard }], guard := some (13, false) }) (v := .int .i64 (t : Int)) rfl (by kernel_rfl) (by kernel_rfl) (by kernel_rfl) (fun _ _ _ h => (hQp _ _ _ h).elim) (Or.inl ⟨by kernel_rfl, ?_⟩) (HS.out _ hb) ?_
  · intro w' hSw
    obtain ⟨s0, s1, s2, s3, s4, s5, s6⟩ := HS1.out _ hSw
    go_simp <;> first | with_reducible rfl | assumption
  show wpAnyH Try.prog .any mops Q S 12 #[true, true, true, true, true, true, true, true, true, true, true, true, true, true, true, true, false, false, false, false, false, false, false, false, false, false, false, false] { tmps := #[pv, sv, .pointer (some ⟨g, 0, none⟩), .pointer (some ⟨g + 1, 0, none⟩), .bool false, u, .pointer (some ⟨g + 1, 0, none⟩), .int .u8 1, .bool false, .bool false, undef, undef, undef, .bool false, .bool false, .pointer (some ⟨g + 1, 1, none⟩), .int .i64 (t : Int), .bool false, .bool false, .bool false, .pointer (some ⟨g + 1, 1, none⟩), .int .i64 (t : Int), u, u, u, u, u, u, u, u, u, u, u, u, u, u, u, u, u, u, u, u, u, u, u, u, u, u, u, u, u, u, u, u, u, u, u], defers := [] } w1.drew
  refine wpAnyH_take (i := 16) (oi := { dst := some 22, op := Op.load 23 (Operand.tmp 2), type := 23, pos := "ref.go:37", after := #[{ on := 13, ground := Ground.guard }], guard := some (13, false) }) (v := .agg #[.int .i64 k, .int .i64 r, .int .i64 c, .int .i64 q]) rfl (by kernel_rfl) (by kernel_rfl) (by kernel_rfl) (fun _ _ _ h => (hQp _ _ _ h).elim) (Or.inl ⟨by kernel_rfl, ?_⟩) (HS.out _ hb) ?_
  · intro w' hSw
    obtain ⟨s0, s1, s2, s3, s4, s5, s6⟩ := HS1.out _ hSw
    go_simp <;> first | with_reducible rfl | assumption
  show wpAnyH Try.prog .any mops Q S 11 #[true, true, true, true, true, true, true, true, true, true, true, true, true, true, true, true, true, false, false, false, false, false, false, false, false, false, false, false] { tmps := #[pv, sv, .pointer (some ⟨g, 0, none⟩), .pointer (some ⟨g + 1, 0, none⟩), .bool false, u, .pointer (some ⟨g + 1, 0, none⟩), .int .u8 1, .bool false, .bool false, undef, undef, undef, .bool false, .bool false, .pointer (some ⟨g + 1, 1, none⟩), .int .i64 (t : Int), .bool false, .bool false, .bool false, .pointer (some ⟨g + 1, 1, none⟩), .int .i64 (t : Int), .agg #[.int .i64 k, .int .i64 r, .int .i64 c, .int .i64 q], u, u, u, u, u, u, u, u, u, u, u, u, u, u, u, u, u, u, u, u, u, u, u, u, u, u, u, u, u, u, u, u, u, u], defers := [] } w1.drew
  refine wpAnyH_ready (rs := [17]) (by kernel_rfl) (by simp) ?_
  refine AllReadyH.cons (o := { dst := some 23, op := Op.call { callee := Callee.value (Operand.func 52), args := #[Operand.tmp 22], argTypes := #[23] }, type := 3, pos := "ref.go:37", after := #[{ on := 16, ground := Ground.data }, { on := 13, ground := Ground.chain }, { on := 13, ground := Ground.guard }], guard := some (13, false) }) rfl (fun K hK => ?_) AllReadyH.nil
  go_simp
  refine (HN _).mono ?_
  rintro e wa ⟨rfl, ha⟩
  refine hK.out _ _ (HS.out _ (below_then hb ha)) (fun hHeld2 => ?_)
  replace hb : Below w1.heap.size w1 wa := (below_then hb ha)
  clear hK K hHeld
  have hHeld := hHeld2
  clear hHeld2
  show wpAnyH Try.prog .any mops Q S 10 #[true, true, true, true, true, true, true, true, true, true, true, true, true, true, true, true, true, true, false, false, false, false, false, false, false, false, false, false] { tmps := #[pv, sv, .pointer (some ⟨g, 0, none⟩), .pointer (some ⟨g + 1, 0, none⟩), .bool false, u, .pointer (some ⟨g + 1, 0, none⟩), .int .u8 1, .bool false, .bool false, undef, undef, undef, .bool false, .bool false, .pointer (some ⟨g + 1, 1, none⟩), .int .i64 (t : Int), .bool false, .bool false, .bool false, .pointer (some ⟨g + 1, 1, none⟩), .int .i64 (t : Int), .agg #[.int .i64 k, .int .i64 r, .int .i64 c, .int .i64 q], .int .i64 (N : Int), u, u, u, u, u, u, u, u, u, u, u, u, u, u, u, u, u, u, u, u, u, u, u, u, u, u, u, u, u, u, u, u, u], defers := [] } wa
  refine wpAnyH_take (i := 18) (oi := { dst := some 24, op := Op.binOp BinOp.geq 3 (Operand.tmp 21) (Operand.tmp 23) 3, type := 4, pos := "ref.go:37", after := #[{ on := 15, ground := Ground.data }, { on := 17, ground := Ground.data }, { on := 13, ground := Ground.guard }], guard := some (13, false) }) (v := .bool false) rfl (by kernel_rfl) (by kernel_rfl) (by kernel_rfl) (fun _ _ _ h => (hQp _ _ _ h).elim) (Or.inl ⟨by kernel_rfl, ?_⟩) (HS.out _ hb) ?_
  · intro w' hSw
    obtain ⟨s0, s1, s2, s3, s4, s5, s6⟩ := HS1.out _ hSw
    go_simp <;> first | with_reducible rfl | assumption
  refine wpAnyH_take (i := 19) (oi := { dst := some 25, op := Op.pick (Operand.tmp 19) (Operand.const (Value.bool true)) (Operand.tmp 24), type := 4, pos := "ref.go:37", after := #[{ on := 13, ground := Ground.data }, { on := 18, ground := Ground.data }], guard := none }) (v := .bool false) rfl (by kernel_rfl) (by kernel_rfl) (by kernel_rfl) (fun _ _ _ h => (hQp _ _ _ h).elim) (Or.inl ⟨by kernel_rfl, ?_⟩) (HS.out _ hb) ?_
  · intro w' hSw
    obtain ⟨s0, s1, s2, s3, s4, s5, s6⟩ := HS1.out _ hSw
    go_simp <;> first | with_reducible rfl | assumption
  show wpAnyH Try.prog .any mops Q S 8 #[true, true, true, true, true, true, true, true, true, true, true, true, true, true, true, true, true, true, true, true, false, false, false, false, false, false, false, false] { tmps := #[pv, sv, .pointer (some ⟨g, 0, none⟩), .pointer (some ⟨g + 1, 0, none⟩), .bool false, u, .pointer (some ⟨g + 1, 0, none⟩), .int .u8 1, .bool false, .bool false, undef, undef, undef, .bool false, .bool false, .pointer (some ⟨g + 1, 1, none⟩), .int .i64 (t : Int), .bool false, .bool false, .bool false, .pointer (some ⟨g + 1, 1, none⟩), .int .i64 (t : Int), .agg #[.int .i64 k, .int .i64 r, .int .i64 c, .int .i64 q], .int .i64 (N : Int), .bool false, .bool false, u, u, u, u, u, u, u, u, u, u, u, u, u, u, u, u, u, u, u, u, u, u, u, u, u, u, u, u, u, u, u], defers := [] } wa
  refine wpAnyH_take (i := 20) (oi := { dst := some 26, op := Op.move (Operand.tmp 25), type := 4, pos := "ref.go:37", after := #[{ on := 19, ground := Ground.data }, { on := 17, ground := Ground.chain }], guard := none }) (v := .bool false) rfl (by kernel_rfl) (by kernel_rfl) (by kernel_rfl) (fun _ _ _ h => (hQp _ _ _ h).elim) (Or.inl ⟨by kernel_rfl, ?_⟩) (HS.out _ hb) ?_
  · intro w' hSw
    obtain ⟨s0, s1, s2, s3, s4, s5, s6⟩ := HS1.out _ hSw
    go_simp <;> first | with_reducible rfl | assumption
  refine wpAnyH_take (i := 21) (oi := { dst := some 27, op := Op.fieldAddr 68 (Operand.tmp 3) 5, type := 0, pos := "ref.go:37", after := #[{ on := 20, ground := Ground.guard }], guard := some (20, false) }) (v := .pointer (some ⟨g + 1, 5, none⟩)) rfl (by kernel_rfl) (by kernel_rfl) (by kernel_rfl) (fun _ _ _ h => (hQp _ _ _ h).elim) (Or.inl ⟨by kernel_rfl, ?_⟩) (HS.out _ hb) ?_
  · intro w' hSw
    obtain ⟨s0, s1, s2, s3, s4, s5, s6⟩ := HS1.out _ hSw
    go_simp <;> first | with_reducible rfl | assumption
  refine wpAnyH_take (i := 22) (oi := { dst := some 28, op := Op.load 45 (Operand.tmp 27), type := 45, pos := "ref.go:37", after := #[{ on := 21, ground := Ground.data }, { on := 20, ground := Ground.guard }], guard := some (20, false) }) (v := .slice bo dn cb) rfl (by kernel_rfl) (by kernel_rfl) (by kernel_rfl) (fun _ _ _ h => (hQp _ _ _ h).elim) (Or.inl ⟨by kernel_rfl, ?_⟩) (HS.out _ hb) ?_
  · intro w' hSw
    obtain ⟨s0, s1, s2, s3, s4, s5, s6⟩ := HS1.out _ hSw
    go_simp <;> first | with_reducible rfl | assumption
  refine wpAnyH_take (i := 23) (oi := { dst := some 29, op := Op.call { callee := Callee.builtin Builtin.len, args := #[Operand.tmp 28], argTypes := #[45] }, type := 3, pos := "ref.go:37", after := #[{ on := 22, ground := Ground.data }, { on := 20, ground := Ground.guard }], guard := some (20, false) }) (v := .int .i64 (dn : Int)) rfl (by kernel_rfl) (by kernel_rfl) (by kernel_rfl) (fun _ _ _ h => (hQp _ _ _ h).elim) (Or.inl ⟨by kernel_rfl, ?_⟩) (HS.out _ hb) ?_
  · intro w' hSw
    obtain ⟨s0, s1, s2, s3, s4, s5, s6⟩ := HS1.out _ hSw
    go_simp <;> first | with_reducible rfl | assumption
  show wpAnyH Try.prog .any mops Q S 4 #[true, true, true, true, true, true, true, true, true, true, true, true, true, true, true, true, true, true, true, true, true, true, true, true, false, false, false, false] { tmps := #[pv, sv, .pointer (some ⟨g, 0, none⟩), .pointer (some ⟨g + 1, 0, none⟩), .bool false, u, .pointer (some ⟨g + 1, 0, none⟩), .int .u8 1, .bool false, .bool false, undef, undef, undef, .bool false, .bool false, .pointer (some ⟨g + 1, 1, none⟩), .int .i64 (t : Int), .bool false, .bool false, .bool false, .pointer (some ⟨g + 1, 1, none⟩), .int .i64 (t : Int), .agg #[.int .i64 k, .int .i64 r, .int .i64 c, .int .i64 q], .int .i64 (N : Int), .bool false, .bool false, .bool false, .pointer (some ⟨g + 1, 5, none⟩), .slice bo dn cb, .int .i64 (dn : Int), u, u, u, u, u, u, u, u, u, u, u, u, u, u, u, u, u, u, u, u, u, u, u, u, u, u, u], defers := [] } wa
  refine wpAnyH_take (i := 24) (oi := { dst := some 30, op := Op.fieldAddr 23 (Operand.tmp 2) 2, type := 0, pos := "ref.go:37", after := #[{ on := 20, ground := Ground.guard }], guard := some (20, false) }) (v := .pointer (some ⟨g, 2, none⟩)) rfl (by kernel_rfl) (by kernel_rfl) (by kernel_rfl) (fun _ _ _ h => (hQp _ _ _ h).elim) (Or.inl ⟨by kernel_rfl, ?_⟩) (HS.out _ hb) ?_
  · intro w' hSw
    obtain ⟨s0, s1, s2, s3, s4, s5, s6⟩ := HS1.out _ hSw
    go_simp <;> first | with_reducible rfl | assumption
  refine wpAnyH_take (i := 25) (oi := { dst := some 31, op := Op.load 3 (Operand.tmp 30), type := 3, pos := "ref.go:37", after := #[{ on := 24, ground := Ground.data }, { on := 20, ground := Ground.guard }], guard := some (20, false) }) (v := .int .i64 c) rfl (by kernel_rfl) (by kernel_rfl) (by kernel_rfl) (fun _ _ _ h => (hQp _ _ _ h).elim) (Or.inl ⟨by kernel_rfl, ?_⟩) (HS.out _ hb) ?_
  · intro w' hSw
    obtain ⟨s0, s1, s2, s3, s4, s5, s6⟩ := HS1.out _ hSw
    go_simp <;> first | with_reducible rfl | assumption
  refine wpAnyH_take (i := 26) (oi := { dst := some 32, op := Op.binOp BinOp.neq 3 (Operand.tmp 29) (Operand.tmp 31) 3, type := 4, pos := "ref.go:37", after := #[{ on := 23, ground := Ground.data }, { on := 25, ground := Ground.data }, { on := 20, ground := Ground.guard }], guard := some (20, false) }) (v := .bool false) rfl (by kernel_rfl) (by kernel_rfl) (by kernel_rfl) (fun _ _ _ h => (hQp _ _ _ h).elim) (Or.inl ⟨by kernel_rfl, ?_⟩) (HS.out _ hb) ?_
  · intro w' hSw
    obtain ⟨s0, s1, s2, s3, s4, s5, s6⟩ := HS1.out _ hSw
    go_simp <;> first | with_reducible rfl | assumption
  refine wpAnyH_take (i := 27) (oi := { dst := some 33, op := Op.pick (Operand.tmp 26) (Operand.const (Value.bool true)) (Operand.tmp 32), type := 4, pos := "ref.go:37", after := #[{ on := 20, ground := Ground.data }, { on := 26, ground := Ground.data }], guard := none }) (v := .bool false) rfl (by kernel_rfl) (by kernel_rfl) (by kernel_rfl) (fun _ _ _ h => (hQp _ _ _ h).elim) (Or.inl ⟨by kernel_rfl, ?_⟩) (HS.out _ hb) ?_
  · intro w' hSw
    obtain ⟨s0, s1, s2, s3, s4, s5, s6⟩ := HS1.out _ hSw
    go_simp <;> first | with_reducible rfl | assumption
  show wpAnyH Try.prog .any mops Q S 0 #[true, true, true, true, true, true, true, true, true, true, true, true, true, true, true, true, true, true, true, true, true, true, true, true, true, true, true, true] { tmps := #[pv, sv, .pointer (some ⟨g, 0, none⟩), .pointer (some ⟨g + 1, 0, none⟩), .bool false, u, .pointer (some ⟨g + 1, 0, none⟩), .int .u8 1, .bool false, .bool false, undef, undef, undef, .bool false, .bool false, .pointer (some ⟨g + 1, 1, none⟩), .int .i64 (t : Int), .bool false, .bool false, .bool false, .pointer (some ⟨g + 1, 1, none⟩), .int .i64 (t : Int), .agg #[.int .i64 k, .int .i64 r, .int .i64 c, .int .i64 q], .int .i64 (N : Int), .bool false, .bool false, .bool false, .pointer (some ⟨g + 1, 5, none⟩), .slice bo dn cb, .int .i64 (dn : Int), .pointer (some ⟨g, 2, none⟩), .int .i64 c, .bool false, .bool false, u, u, u, u, u, u, u, u, u, u, u, u, u, u, u, u, u, u, u, u, u, u, u], defers := [] } wa
  refine wpAnyH_done (by kernel_rfl) ?_ _
  exact HQ.out _ hb
set_option maxHeartbeats 8000000 in
set_option maxRecDepth 100000 in
theorem may_2big {pv sv u : Value} (w1 : World) (k r c q : Int) (g N t _vn _ca dn cb : Nat) (_ce _st : Int) (_ao bo : Option Addr)
    (hS : ∀ v, Below w1.heap.size w1 v → (v.cell? ⟨g, 0, none⟩ = some (.int .i64 k) ∧ v.cell? ⟨g, 1, none⟩ = some (.int .i64 r) ∧ v.cell? ⟨g, 2, none⟩ = some (.int .i64 c) ∧ v.cell? ⟨g, 3, none⟩ = some (.int .i64 q) ∧ v.cell? ⟨g + 1, 0, none⟩ = some (.int .u8 2) ∧ v.cell? ⟨g + 1, 1, none⟩ = some (.int .i64 (t : Int)) ∧ v.cell? ⟨g + 1, 5, none⟩ = some (.slice bo dn cb)))
    (HN : ∀ w, Calls Try.prog 52 #[.agg #[.int .i64 k, .int .i64 r, .int .i64 c, .int .i64 q]] w fun e w' => e = .returned (.int .i64 (N : Int)) ∧ Below w.heap.size w w') (h1 : N ≤ t)
    (Q : Exit → Act → World → Prop) (hQp : ∀ ch a v, Q (.panic ch) a v → False) (hQ : ∀ wa, Below w1.heap.size w1 wa → Q .normal { tmps := #[pv, sv, .pointer (some ⟨g, 0, none⟩), .pointer (some ⟨g + 1, 0, none⟩), .bool false, u, .pointer (some ⟨g + 1, 0, none⟩), .int .u8 2, .bool true, .bool true, .pointer (some ⟨g + 1, 0, none⟩), .int .u8 2, .bool false, .bool false, .bool false, .pointer (some ⟨g + 1, 1, none⟩), .int .i64 (t : Int), .bool false, .bool false, .bool false, .pointer (some ⟨g + 1, 1, none⟩), .int .i64 (t : Int), .agg #[.int .i64 k, .int .i64 r, .int .i64 c, .int .i64 q], .int .i64 (N : Int), .bool true, .bool true, .bool true, undef, undef, undef, undef, undef, undef, .bool true, u, u, u, u, u, u, u, u, u, u, u, u, u, u, u, u, u, u, u, u, u, u, u], defers := [] } wa) :
    Code.wp Try.prog (Code.region 1 mops true) Q { tmps := #[pv, sv, .pointer (some ⟨g, 0, none⟩), .pointer (some ⟨g + 1, 0, none⟩), .bool false, u, u, u, u, u, u, u, u, u, u, u, u, u, u, u, u, u, u, u, u, u, u, u, u, u, u, u, u, u, u, u, u, u, u, u, u, u, u, u, u, u, u, u, u, u, u, u, u, u, u, u, u], defers := [] } w1 := by
  have HQ : Hid (∀ wa, Below w1.heap.size w1 wa → Q .normal { tmps := #[pv, sv, .pointer (some ⟨g, 0, none⟩), .pointer (some ⟨g + 1, 0, none⟩), .bool false, u, .pointer (some ⟨g + 1, 0, none⟩), .int .u8 2, .bool true, .bool true, .pointer (some ⟨g + 1, 0, none⟩), .int .u8 2, .bool false, .bool false, .bool false, .pointer (some ⟨g + 1, 1, none⟩), .int .i64 (t : Int), .bool false, .bool false, .bool false, .pointer (some ⟨g + 1, 1, none⟩), .int .i64 (t : Int), .agg #[.int .i64 k, .int .i64 r, .int .i64 c, .int .i64 q], .int .i64 (N : Int), .bool true, .bool true, .bool true, undef, undef, undef, undef, undef, undef, .bool true, u, u, u, u, u, u, u, u, u, u, u, u, u, u, u, u, u, u, u, u, u, u, u], defers := [] } wa) := hQ
  obtain ⟨S, HS1, HS⟩ : ∃ S : World → Prop, Hid (∀ v, S v → (v.cell? ⟨g, 0, none⟩ = some (.int .i64 k) ∧ v.cell? ⟨g, 1, none⟩ = some (.int .i64 r) ∧ v.cell? ⟨g, 2, none⟩ = some (.int .i64 c) ∧ v.cell? ⟨g, 3, none⟩ = some (.int .i64 q) ∧ v.cell? ⟨g + 1, 0, none⟩ = some (.int .u8 2) ∧ v.cell? ⟨g + 1, 1, none⟩ = some (.int .i64 (t : Int)) ∧ v.cell? ⟨g + 1, 5, none⟩ = some (.slice bo dn cb))) ∧ Hid (∀ v, Below w1.heap.size w1 v → S v) := ⟨fun v => v.cell? ⟨g, 0, none⟩ = some (.int .i64 k) ∧ v.cell? ⟨g, 1, none⟩ = some (.int .i64 r) ∧ v.cell? ⟨g, 2, none⟩ = some (.int .i64 c) ∧ v.cell? ⟨g, 3, none⟩ = some (.int .i64 q) ∧ v.cell? ⟨g + 1, 0, none⟩ = some (.int .u8 2) ∧ v.cell? ⟨g + 1, 1, none⟩ = some (.int .i64 (t : Int)) ∧ v.cell? ⟨g + 1, 5, none⟩ = some (.slice bo dn cb), fun v h => h, hS⟩
  clear hS hQ
  have j4 : ¬ (t : Int) < 0 := by omega
  have j5 : (N : Int) ≤ (t : Int) := by omega
  refine wp_region_held_drew (S := S) (by kernel_rfl) (HS.out _ (below_drew _ _)) (fun hHeld => ?_)
  have hb : Below w1.heap.size w1 w1.drew := below_drew _ _
  rw [show mops.size = 28 from by kernel_rfl, show Array.replicate 28 false = #[false, false, false, false, false, false, false, false, false, false, false, false, false, false, false, false, false, false, false, false, false, false, false, false, false, false, false, false] from by kernel_rfl]
  refine wpAnyH_take (i := 0) (oi := { dst := some 6, op := Op.fieldAddr 68 (Operand.tmp 3) 0, type := 0, pos := "ref.go:37", after := #[], guard := none }) (v := .pointer (some ⟨g + 1, 0, none⟩)) rfl (by kernel_rfl) (by kernel_rfl) (by kernel_rfl) (fun _ _ _ h => (hQp _ _ _ h).elim) (Or.inl ⟨by kernel_rfl, ?_⟩) (HS.out _ hb) ?_
  · intro w' hSw
    obtain ⟨s0, s1, s2, s3, s4, s5, s6⟩ := HS1.out _ hSw
    go_simp <;> first | with_reducible rfl | assumption
  refine wpAnyH_take (i := 1) (oi := { dst := some 7, op := Op.load 5 (Operand.tmp 6), type := 5, pos := "ref.go:37", after := #[{ on := 0, ground := Ground.data }], guard := none }) (v := .int .u8 2) rfl (by kernel_rfl) (by kernel_rfl) (by kernel_rfl) (fun _ _ _ h => (hQp _ _ _ h).elim) (Or.inl ⟨by kernel_rfl, ?_⟩) (HS.out _ hb) ?_
  · intro w' hSw
    obtain ⟨s0, s1, s2, s3, s4, s5, s6⟩ := HS1.out _ hSw
    go_simp <;> first | with_reducible rfl | assumption
  refine wpAnyH_take (i := 2) (oi := { dst := some 8, op := Op.binOp BinOp.neq 5 (Operand.tmp 7) (Operand.const (Value.int IntKind.u8 1)) 5, type := 4, pos := "ref.go:37", after := #[{ on := 1, ground := Ground.data }], guard := none }) (v := .bool true) rfl (by kernel_rfl) (by kernel_rfl) (by kernel_rfl) (fun _ _ _ h => (hQp _ _ _ h).elim) (Or.inl ⟨by kernel_rfl, ?_⟩) (HS.out _ hb) ?_
  · intro w' hSw
    obtain ⟨s0, s1, s2, s3, s4, s5, s6⟩ := HS1.out _ hSw
    go_simp <;> first | with_reducible rfl | assumption
  refine wpAnyH_take (i := 3) (oi := { dst := some 9, op := Op.move (Operand.tmp 8), type := 4, pos := "ref.go:37", after := #[{ on := 2, ground := Ground.data }], guard := none }) (v := .bool true) rfl (by kernel_rfl) (by kernel_rfl) (by kernel_rfl) (fun _ _ _ h => (hQp _ _ _ h).elim) (Or.inl ⟨by kernel_rfl, ?_⟩) (HS.out _ hb) ?_
  · intro w' hSw
    obtain ⟨s0, s1, s2, s3, s4, s5, s6⟩ := HS1.out _ hSw
    go_simp <;> first | with_reducible rfl | assumption
  show wpAnyH Try.prog .any mops Q S 24 #[true, true, true, true, false, false, false, false, false, false, false, false, false, false, false, false, false, false, false, false, false, false, false, false, false, false, false, false] { tmps := #[pv, sv, .pointer (some ⟨g, 0, none⟩), .pointer (some ⟨g + 1, 0, none⟩), .bool false, u, .pointer (some ⟨g + 1, 0, none⟩), .int .u8 2, .bool true, .bool true, u, u, u, u, u, u, u, u, u, u, u, u, u, u, u, u, u, u, u, u, u, u, u, u, u, u, u, u, u, u, u, u, u, u, u, u, u, u, u, u, u, u, u, u, u, u, u], defers := [] } w1.drew
  refine wpAnyH_take (i := 4) (oi := { dst := some 10, op := Op.fieldAddr 68 (Operand.tmp 3) 0, type := 0, pos := "ref.go:37", after := #[{ on := 3, ground := Ground.guard }], guard := some (3, true) }) (v := .pointer (some ⟨g + 1, 0, none⟩)) rfl (by kernel_rfl) (by kernel_rfl) (by kernel_rfl) (fun _ _ _ h => (hQp _ _ _ h).elim) (Or.inl ⟨by kernel_rfl, ?_⟩) (HS.out _ hb) ?_
  · intro w' hSw
    obtain ⟨s0, s1, s2, s3, s4, s5, s6⟩ := HS1.out _ hSw
    go_simp <;> first | with_reducible rfl | assumption
  refine wpAnyH_take (i := 5) (oi := { dst := some 11, op := Op.load 5 (Operand.tmp 10), type := 5, pos := "ref.go:37", after := #[{ on := 4, ground := Ground.data }, { on := 3, ground := Ground.guard }], guard := some (3, true) }) (v := .int .u8 2) rfl (by kernel_rfl) (by kernel_rfl) (by kernel_rfl) (fun _ _ _ h => (hQp _ _ _ h).elim) (Or.inl ⟨by kernel_rfl, ?_⟩) (HS.out _ hb) ?_
  · intro w' hSw
    obtain ⟨s0, s1, s2, s3, s4, s5, s6⟩ := HS1.out _ hSw
    go_simp <;> first | with_reducible rfl | assumption
  refine wpAnyH_take (i := 6) (oi := { dst := some 12, op := Op.binOp BinOp.neq 5 (Operand.tmp 11) (Operand.const (Value.int IntKind.u8 2)) 5, type := 4, pos := "ref.go:37", after := #[{ on := 5, ground := Ground.data }, { on := 3, ground := Ground.guard }], guard := some (3, true) }) (v := .bool false) rfl (by kernel_rfl) (by kernel_rfl) (by kernel_rfl) (fun _ _ _ h => (hQp _ _ _ h).elim) (Or.inl ⟨by kernel_rfl, ?_⟩) (HS.out _ hb) ?_
  · intro w' hSw
    obtain ⟨s0, s1, s2, s3, s4, s5, s6⟩ := HS1.out _ hSw
    go_simp <;> first | with_reducible rfl | assumption
  refine wpAnyH_take (i := 7) (oi := { dst := some 13, op := Op.pick (Operand.tmp 9) (Operand.tmp 12) (Operand.const (Value.bool false)), type := 4, pos := "ref.go:37", after := #[{ on := 3, ground := Ground.data }, { on := 6, ground := Ground.data }], guard := none }) (v := .bool false) rfl (by kernel_rfl) (by kernel_rfl) (by kernel_rfl) (fun _ _ _ h => (hQp _ _ _ h).elim) (Or.inl ⟨by kernel_rfl, ?_⟩) (HS.out _ hb) ?_
  · intro w' hSw
    obtain ⟨s0, s1, s2, s3, s4, s5, s6⟩ := HS1.out _ hSw
    go_simp <;> first | with_reducible rfl | assumption
  show wpAnyH Try.prog .any mops Q S 20 #[true, true, true, true, true, true, true, true, false, false, false, false, false, false, false, false, false, false, false, false, false, false, false, false, false, false, false, false] { tmps := #[pv, sv, .pointer (some ⟨g, 0, none⟩), .pointer (some ⟨g + 1, 0, none⟩), .bool false, u, .pointer (some ⟨g + 1, 0, none⟩), .int .u8 2, .bool true, .bool true, .pointer (some ⟨g + 1, 0, none⟩), .int .u8 2, .bool false, .bool false, u, u, u, u, u, u, u, u, u, u, u, u, u, u, u, u, u, u, u, u, u, u, u, u, u, u, u, u, u, u, u, u, u, u, u, u, u, u, u, u, u, u, u], defers := [] } w1.drew
  refine wpAnyH_take (i := 8) (oi := { dst := some 14, op := Op.move (Operand.tmp 13), type := 4, pos := "ref.go:37", after := #[{ on := 7, ground := Ground.data }, { on := 3, ground := Ground.chain }], guard := none }) (v := .bool false) rfl (by kernel_rfl) (by kernel_rfl) (by kernel_rfl) (fun _ _ _ h => (hQp _ _ _ h).elim) (Or.inl ⟨by kernel_rfl, ?_⟩) (HS.out _ hb) ?_
  · intro w' hSw
    obtain ⟨s0, s1, s2, s3, s4, s5, s6⟩ := HS1.out _ hSw
    go_simp <;> first | with_reducible rfl | assumption
  refine wpAnyH_take (i := 9) (oi := { dst := some 15, op := Op.fieldAddr 68 (Operand.tmp 3) 1, type := 0, pos := "ref.go:37", after := #[{ on := 8, ground := Ground.guard }], guard := some (8, false) }) (v := .pointer (some ⟨g + 1, 1, none⟩)) rfl (by kernel_rfl) (by kernel_rfl) (by kernel_rfl) (fun _ _ _ h => (hQp _ _ _ h).elim) (Or.inl ⟨by kernel_rfl, ?_⟩) (HS.out _ hb) ?_
  · intro w' hSw
    obtain ⟨s0, s1, s2, s3, s4, s5, s6⟩ := HS1.out _ hSw
    go_simp <;> first | with_reducible rfl | assumption
  refine wpAnyH_take (i := 10) (oi := { dst := some 16, op := Op.load 3 (Operand.tmp 15), type := 3, pos := "ref.go:37", after := #[{ on := 9, ground := Ground.data }, { on := 8, ground := Ground.guard }], guard := some (8, false) }) (v := .int .i64 (t : Int)) rfl (by kernel_rfl) (by kernel_rfl) (by kernel_rfl) (fun _ _ _ h => (hQp _ _ _ h).elim) (Or.inl ⟨by kernel_rfl, ?_⟩) (HS.out _ hb) ?_
  · intro w' hSw
    obtain ⟨s0, s1, s2, s3, s4, s5, s6⟩ := HS1.out _ hSw
    go_simp <;> first | with_reducible rfl | assumption
  refine wpAnyH_take (i := 11) (oi := { dst := some 17, op := Op.binOp BinOp.lss 3 (Operand.tmp 16) (Operand.const (Value.int IntKind.i64 0)) 3, type := 4, pos := "ref.go:37", after := #[{ on := 10, ground := Ground.data }, { on := 8, ground := Ground.guard }], guard := some (8, false) }) (v := .bool false) rfl (by kernel_rfl) (by kernel_rfl) (by kernel_rfl) (fun _ _ _ h => (hQp _ _ _ h).elim) (Or.inl ⟨by kernel_rfl, ?_⟩) (HS.out _ hb) ?_
  · intro w' hSw
    obtain ⟨s0, s1, s2, s3, s4, s5, s6⟩ := HS1.out _ hSw
    go_simp <;> first | with_reducible rfl | assumption
  show wpAnyH Try.prog .any mops Q S 16 #[true, true, true, true, true, true, true, true, true, true, true, true, false, false, false, false, false, false, false, false, false, false, false, false, false, false, false, false] { tmps := #[pv, sv, .pointer (some ⟨g, 0, none⟩), .pointer (some ⟨g + 1, 0, none⟩), .bool false, u, .pointer (some ⟨g + 1, 0, none⟩), .int .u8 2, .bool true, .bool true, .pointer (some ⟨g + 1, 0, none⟩), .int .u8 2, .bool false, .bool false, .bool false, .pointer (some ⟨g + 1, 1, none⟩), .int .i64 (t : Int), .bool false, u, u, u, u, u, u, u, u, u, u, u, u, u, u, u, u, u, u, u, u, u, u, u, u, u, u, u, u, u, u, u, u, u, u, u, u, u, u, u], defers := [] } w1.drew
  refine wpAnyH_take (i := 12) (oi := { dst := some 18, op := Op.pick (Operand.tmp 14) (Operand.const (Value.bool true)) (Operand.tmp 17), type := 4, pos := "ref.go:37", after := #[{ on := 8, ground := Ground.data }, { on := 11, ground := Ground.data }], guard := none }) (v := .bool false) rfl (by kernel_rfl) (by kernel_rfl) (by kernel_rfl) (fun _ _ _ h => (hQp _ _ _ h).elim) (Or.inl ⟨by kernel_rfl, ?_⟩) (HS.out _ hb) ?_
  · intro w' hSw
    obtain ⟨s0, s1, s2, s3, s4, s5, s6⟩ := HS1.out _ hSw
    go_simp <;> first | with_reducible rfl | assumption
  refine wpAnyH_take (i := 13) (oi := { dst := some 19, op := Op.move (Operand.tmp 18), type := 4, pos := "ref.go:37", after := #[{ on := 12, ground := Ground.data }, { on := 8, ground := Ground.chain }], guard := none }) (v := .bool false) rfl (by kernel_rfl) (by kernel_rfl) (by kernel_rfl) (fun _ _ _ h => (hQp _ _ _ h).elim) (Or.inl ⟨by kernel_rfl, ?_⟩) (HS.out _ hb) ?_
  · intro w' hSw
    obtain ⟨s0, s1, s2, s3, s4, s5, s6⟩ := HS1.out _ hSw
    go_simp <;> first | with_reducible rfl | assumption
  refine wpAnyH_take (i := 14) (oi := { dst := some 20, op := Op.fieldAddr 68 (Operand.tmp 3) 1, type := 0, pos := "ref.go:37", after := #[{ on := 13, ground := Ground.guard }], guard := some (13, false) }) (v := .pointer (some ⟨g + 1, 1, none⟩)) rfl (by kernel_rfl) (by kernel_rfl) (by kernel_rfl) (fun _ _ _ h => (hQp _ _ _ h).elim) (Or.inl ⟨by kernel_rfl, ?_⟩) (HS.out _ hb) ?_
  · intro w' hSw
    obtain ⟨s0, s1, s2, s3, s4, s5, s6⟩ := HS1.out _ hSw
    go_simp <;> first | with_reducible rfl | assumption
  refine wpAnyH_take (i := 15) (oi := { dst := some 21, op := Op.load 3 (Operand.tmp 20), type := 3, pos := "ref.go:37", after := #[{ on := 14, ground := Ground.data }, { on := 13, ground := Ground.guard }], guard := some (13, false) }) (v := .int .i64 (t : Int)) rfl (by kernel_rfl) (by kernel_rfl) (by kernel_rfl) (fun _ _ _ h => (hQp _ _ _ h).elim) (Or.inl ⟨by kernel_rfl, ?_⟩) (HS.out _ hb) ?_
  · intro w' hSw
    obtain ⟨s0, s1, s2, s3, s4, s5, s6⟩ := HS1.out _ hSw
    go_simp <;> first | with_reducible rfl | assumption
  show wpAnyH Try.prog .any mops Q S 12 #[true, true, true, true, true, true, true, true, true, true, true, true, true, true, true, true, false, false, false, false, false, false, false, false, false, false, false, false] { tmps := #[pv, sv, .pointer (some ⟨g, 0, none⟩), .pointer (some ⟨g + 1, 0, none⟩), .bool false, u, .pointer (some ⟨g + 1, 0, none⟩), .int .u8 2, .bool true, .bool true, .pointer (some ⟨g + 1, 0, none⟩), .int .u8 2, .bool false, .bool false, .bool false, .pointer (some ⟨g + 1, 1, none⟩), .int .i64 (t : Int), .bool false, .bool false, .bool false, .pointer (some ⟨g + 1, 1, none⟩), .int .i64 (t : Int), u, u, u, u, u, u, u, u, u, u, u, u, u, u, u, u, u, u, u, u, u, u, u, u, u, u, u, u, u, u, u, u, u, u, u], defers := [] } w1.drew
  refine wpAnyH_take (i := 16) (oi := { dst := some 22, op := Op.load 23 (Operand.tmp 2), type := 23, pos := "ref.go:37", after := #[{ on := 13, ground := Ground.guard }], guard := some (13, false) }) (v := .agg #[.int .i64 k, .int .i64 r, .int .i64 c, .int .i64 q]) rfl (by kernel_rfl) (by kernel_rfl) (by kernel_rfl) (fun _ _ _ h => (hQp _ _ _ h).elim) (Or.inl ⟨by kernel_rfl, ?_⟩) (HS.out _ hb) ?_
  · intro w' hSw
    obtain ⟨s0, s1, s2, s3, s4, s5, s6⟩ := HS1.out _ hSw
    go_simp <;> first | with_reducible rfl | assumption
  show wpAnyH Try.prog .any mops Q S 11 #[true, true, true, true, true, true, true, true, true, true, true, true, true, true, true, true, true, false, false, false, false, false, false, false, false, false, false, false] { tmps := #[pv, sv, .pointer (some ⟨g, 0, none⟩), .pointer (some ⟨g + 1, 0, none⟩), .bool false, u, .pointer (some ⟨g + 1, 0, none⟩), .int .u8 2, .bool true, .bool true, .pointer (some ⟨g + 1, 0, none⟩), .int .u8 2, .bool false, .bool false, .bool false, .pointer (some ⟨g + 1, 1, none⟩), .int .i64 (t : Int), .bool false, .bool false, .bool false, .pointer (some ⟨g + 1, 1, none⟩), .int .i64 (t : Int), .agg #[.int .i64 k, .int .i64 r, .int .i64 c, .int .i64 q], u, u, u, u, u, u, u, u, u, u, u, u, u, u, u, u, u, u, u, u, u, u, u, u, u, u, u, u, u, u, u, u, u, u], defers := [] } w1.drew
  refine wpAnyH_ready (rs := [17]) (by kernel_rfl) (by simp) ?_
  refine AllReadyH.cons (o := { dst := some 23, op := Op.call { callee := Callee.value (Operand.func 52), args := #[Operand.tmp 22], argTypes := #[23] }, type := 3, pos := "ref.go:37", after := #[{ on := 16, ground := Ground.data }, { on := 13, ground := Ground.chain }, { on := 13, ground := Ground.guard }], guard := some (13, false) }) rfl (fun K hK => ?_) AllReadyH.nil
  go_simp
  refine (HN _).mono ?_
  rintro e wa ⟨rfl, ha⟩
  refine hK.out _ _ (HS.out _ (below_then hb ha)) (fun hHeld2 => ?_)
  replace hb : Below w1.heap.size w1 wa := (below_then hb ha)
  clear hK K hHeld
  have hHeld := hHeld2
  clear hHeld2
  show wpAnyH Try.prog .any mops Q S 10 #[true, true, true, true, true, true, true, true, true, true, true, true, true, true, true, true, true, true, false, false, false, false, false, false, false, false, false, false] { tmps := #[pv, sv, .pointer (some ⟨g, 0, none⟩), .pointer (some ⟨g + 1, 0, none⟩), .bool false, u, .pointer (some ⟨g + 1, 0, none⟩), .int .u8 2, .bool true, .bool true, .pointer (some ⟨g + 1, 0, none⟩), .int .u8 2, .bool false, .bool false, .bool false, .pointer (some ⟨g + 1, 1, none⟩), .int .i64 (t : Int), .bool false, .bool false, .bool false, .pointer (some ⟨g + 1, 1, none⟩), .int .i64 (t : Int), .agg #[.int .i64 k, .int .i64 r, .int .i64 c, .int .i64 q], .int .i64 (N : Int), u, u, u, u, u, u, u, u, u, u, u, u, u, u, u, u, u, u, u, u, u, u, u, u, u, u, u, u, u, u, u, u, u], defers := [] } wa
  refine wpAnyH_take (i := 18) (oi := { dst := some 24, op := Op.binOp BinOp.geq 3 (Operand.tmp 21) (Operand.tmp 23) 3, type := 4, pos := "ref.go:37", after := #[{ on := 15, ground := Ground.data }, { on := 17, ground := Ground.data }, { on := 13, ground := Ground.guard }], guard := some (13, false) }) (v := .bool true) rfl (by kernel_rfl) (by kernel_rfl) (by kernel_rfl) (fun _ _ _ h => (hQp _ _ _ h).elim) (Or.inl ⟨by kernel_rfl, ?_⟩) (HS.out _ hb) ?_
  · intro w' hSw
    obtain ⟨s0, s1, s2, s3, s4, s5, s6⟩ := HS1.out _ hSw
    go_simp <;> first | with_reducible rfl | assumption
  refine wpAnyH_take (i := 19) (oi := { dst := some 25, op := Op.pick (Operand.tmp 19) (Operand.const (Value.bool true)) (Operand.tmp 24), type := 4, pos := "ref.go:37", after := #[{ on := 13, ground := Ground.data }, { on := 18, ground := Ground.data }], guard := none }) (v := .bool true) rfl (by kernel_rfl) (by kernel_rfl) (by kernel_rfl) (fun _ _ _ h => (hQp _ _ _ h).elim) (Or.inl ⟨by kernel_rfl, ?_⟩) (HS.out _ hb) ?_
  · intro w' hSw
    obtain ⟨s0, s1, s2, s3, s4, s5, s6⟩ := HS1.out _ hSw
    go_simp <;> first | with_reducible rfl | assumption
  show wpAnyH Try.prog .any mops Q S 8 #[true, true, true, true, true, true, true, true, true, true, true, true, true, true, true, true, true, true, true, true, false, false, false, false, false, false, false, false] { tmps := #[pv, sv, .pointer (some ⟨g, 0, none⟩), .pointer (some ⟨g + 1, 0, none⟩), .bool false, u, .pointer (some ⟨g + 1, 0, none⟩), .int .u8 2, .bool true, .bool true, .pointer (some ⟨g + 1, 0, none⟩), .int .u8 2, .bool false, .bool false, .bool false, .pointer (some ⟨g + 1, 1, none⟩), .int .i64 (t : Int), .bool false, .bool false, .bool false, .pointer (some ⟨g + 1, 1, none⟩), .int .i64 (t : Int), .agg #[.int .i64 k, .int .i64 r, .int .i64 c, .int .i64 q], .int .i64 (N : Int), .bool true, .bool true, u, u, u, u, u, u, u, u, u, u, u, u, u, u, u, u, u, u, u, u, u, u, u, u, u, u, u, u, u, u, u], defers := [] } wa
  refine wpAnyH_take (i := 20) (oi := { dst := some 26, op := Op.move (Operand.tmp 25), type := 4, pos := "ref.go:37", after := #[{ on := 19, ground := Ground.data }, { on := 17, ground := Ground.chain }], guard := none }) (v := .bool true) rfl (by kernel_rfl) (by kernel_rfl) (by kernel_rfl) (fun _ _ _ h => (hQp _ _ _ h).elim) (Or.inl ⟨by kernel_rfl, ?_⟩) (HS.out _ hb) ?_
  · intro w' hSw
    obtain ⟨s0, s1, s2, s3, s4, s5, s6⟩ := HS1.out _ hSw
    go_simp <;> first | with_reducible rfl | assumption
  refine wpAnyH_take (i := 21) (oi := { dst := some 27, op := Op.fieldAddr 68 (Operand.tmp 3) 5, type := 0, pos := "ref.go:37", after := #[{ on := 20, ground := Ground.guard }], guard := some (20, false) }) (v := undef) rfl (by kernel_rfl) (by kernel_rfl) (by kernel_rfl) (fun _ _ _ h => (hQp _ _ _ h).elim) (Or.inr ⟨by kernel_rfl, rfl⟩) (HS.out _ hb) ?_
  refine wpAnyH_take (i := 22) (oi := { dst := some 28, op := Op.load 45 (Operand.tmp 27), type := 45, pos := "ref.go:37", after := #[{ on := 21, ground := Ground.data }, { on := 20, ground := Ground.guard }], guard := some (20, false) }) (v := undef) rfl (by kernel_rfl) (by kernel_rfl) (by kernel_rfl) (fun _ _ _ h => (hQp _ _ _ h).elim) (Or.inr ⟨by kernel_rfl, rfl⟩) (HS.out _ hb) ?_
  refine wpAnyH_take (i := 23) (oi := { dst := some 29, op := Op.call { callee := Callee.builtin Builtin.len, args := #[Operand.tmp 28], argTypes := #[45] }, type := 3, pos := "ref.go:37", after := #[{ on := 22, ground := Ground.data }, { on := 20, ground := Ground.guard }], guard := some (20, false) }) (v := undef) rfl (by kernel_rfl) (by kernel_rfl) (by kernel_rfl) (fun _ _ _ h => (hQp _ _ _ h).elim) (Or.inr ⟨by kernel_rfl, rfl⟩) (HS.out _ hb) ?_
  show wpAnyH Try.prog .any mops Q S 4 #[true, true, true, true, true, true, true, true, true, true, true, true, true, true, true, true, true, true, true, true, true, true, true, true, false, false, false, false] { tmps := #[pv, sv, .pointer (some ⟨g, 0, none⟩), .pointer (some ⟨g + 1, 0, none⟩), .bool false, u, .pointer (some ⟨g + 1, 0, none⟩), .int .u8 2, .bool true, .bool true, .pointer (some ⟨g + 1, 0, none⟩), .int .u8 2, .bool false, .bool false, .bool false, .pointer (some ⟨g + 1, 1, none⟩), .int .i64 (t : Int), .bool false, .bool false, .bool false, .pointer (some ⟨g + 1, 1, none⟩), .int .i64 (t : Int), .agg #[.int .i64 k, .int .i64 r, .int .i64 c, .int .i64 q], .int .i64 (N : Int), .bool true, .bool true, .bool true, undef, undef, undef, u, u, u, u, u, u, u, u, u, u, u, u, u, u, u, u, u, u, u, u, u, u, u, u, u, u, u], defers := [] } wa
  refine wpAnyH_take (i := 24) (oi := { dst := some 30, op := Op.fieldAddr 23 (Operand.tmp 2) 2, type := 0, pos := "ref.go:37", after := #[{ on := 20, ground := Ground.guard }], guard := some (20, false) }) (v := undef) rfl (by kernel_rfl) (by kernel_rfl) (by kernel_rfl) (fun _ _ _ h => (hQp _ _ _ h).elim) (Or.inr ⟨by kernel_rfl, rfl⟩) (HS.out _ hb) ?_
  refine wpAnyH_take (i := 25) (oi := { dst := some 31, op := Op.load 3 (Operand.tmp 30), type := 3, pos := "ref.go:37", after := #[{ on := 24, ground := Ground.data }, { on := 20, ground := Ground.guard }], guard := some (20, false) }) (v := undef) rfl (by kernel_rfl) (by kernel_rfl) (by kernel_rfl) (fun _ _ _ h => (hQp _ _ _ h).elim) (Or.inr ⟨by kernel_rfl, rfl⟩) (HS.out _ hb) ?_
  refine wpAnyH_take (i := 26) (oi := { dst := some 32, op := Op.binOp BinOp.neq 3 (Operand.tmp 29) (Operand.tmp 31) 3, type := 4, pos := "ref.go:37", after := #[{ on := 23, ground := Ground.data }, { on := 25, ground := Ground.data }, { on := 20, ground := Ground.guard }], guard := some (20, false) }) (v := undef) rfl (by kernel_rfl) (by kernel_rfl) (by kernel_rfl) (fun _ _ _ h => (hQp _ _ _ h).elim) (Or.inr ⟨by kernel_rfl, rfl⟩) (HS.out _ hb) ?_
  refine wpAnyH_take (i := 27) (oi := { dst := some 33, op := Op.pick (Operand.tmp 26) (Operand.const (Value.bool true)) (Operand.tmp 32), type := 4, pos := "ref.go:37", after := #[{ on := 20, ground := Ground.data }, { on := 26, ground := Ground.data }], guard := none }) (v := .bool true) rfl (by kernel_rfl) (by kernel_rfl) (by kernel_rfl) (fun _ _ _ h => (hQp _ _ _ h).elim) (Or.inl ⟨by kernel_rfl, ?_⟩) (HS.out _ hb) ?_
  · intro w' hSw
    obtain ⟨s0, s1, s2, s3, s4, s5, s6⟩ := HS1.out _ hSw
    go_simp <;> first | with_reducible rfl | assumption
  show wpAnyH Try.prog .any mops Q S 0 #[true, true, true, true, true, true, true, true, true, true, true, true, true, true, true, true, true, true, true, true, true, true, true, true, true, true, true, true] { tmps := #[pv, sv, .pointer (some ⟨g, 0, none⟩), .pointer (some ⟨g + 1, 0, none⟩), .bool false, u, .pointer (some ⟨g + 1, 0, none⟩), .int .u8 2, .bool true, .bool true, .pointer (some ⟨g + 1, 0, none⟩), .int .u8 2, .bool false, .bool false, .bool false, .pointer (some ⟨g + 1, 1, none⟩), .int .i64 (t : Int), .bool false, .bool false, .bool false, .pointer (some ⟨g + 1, 1, none⟩), .int .i64 (t : Int), .agg #[.int .i64 k, .int .i64 r, .int .i64 c, .int .i64 q], .int .i64 (N : Int), .bool true, .bool true, .bool true, undef, undef, undef, undef, undef, undef, .bool true, u, u, u, u, u, u, u, u, u, u, u, u, u, u, u, u, u, u, u, u, u, u, u], defers := [] } wa
  refine wpAnyH_done (by kernel_rfl) ?_ _
  exact HQ.out _ hb
set_option maxHeartbeats 8000000 in
set_option maxRecDepth 100000 in
theorem may_2ne {pv sv u : Value} (w1 : World) (k r c q : Int) (g N t _vn _ca dn cb : Nat) (_ce _st : Int) (_ao bo : Option Addr)
    (hS : ∀ v, Below w1.heap.size w1 v → (v.cell? ⟨g, 0, none⟩ = some (.int .i64 k) ∧ v.cell? ⟨g, 1, none⟩ = some (.int .i64 r) ∧ v.cell? ⟨g, 2, none⟩ = some (.int .i64 c) ∧ v.cell? ⟨g, 3, none⟩ = some (.int .i64 q) ∧ v.cell? ⟨g + 1, 0, none⟩ = some (.int .u8 2) ∧ v.cell? ⟨g + 1, 1, none⟩ = some (.int .i64 (t : Int)) ∧ v.cell? ⟨g + 1, 5, none⟩ = some (.slice bo dn cb)))
    (HN : ∀ w, Calls Try.prog 52 #[.agg #[.int .i64 k, .int .i64 r, .int .i64 c, .int .i64 q]] w fun e w' => e = .returned (.int .i64 (N : Int)) ∧ Below w.heap.size w w') (h1 : t < N) (h2 : ((dn : Int) != c) = true)
    (Q : Exit → Act → World → Prop) (hQp : ∀ ch a v, Q (.panic ch) a v → False) (hQ : ∀ wa, Below w1.heap.size w1 wa → Q .normal { tmps := #[pv, sv, .pointer (some ⟨g, 0, none⟩), .pointer (some ⟨g + 1, 0, none⟩), .bool false, u, .pointer (some ⟨g + 1, 0, none⟩), .int .u8 2, .bool true, .bool true, .pointer (some ⟨g + 1, 0, none⟩), .int .u8 2, .bool false, .bool false, .bool false, .pointer (some ⟨g + 1, 1, none⟩), .int .i64 (t : Int), .bool false, .bool false, .bool false, .pointer (some ⟨g + 1, 1, none⟩), .int .i64 (t : Int), .agg #[.int .i64 k, .int .i64 r, .int .i64 c, .int .i64 q], .int .i64 (N : Int), .bool false, .bool false, .bool false, .pointer (some ⟨g + 1, 5, none⟩), .slice bo dn cb, .int .i64 (dn : Int), .pointer (some ⟨g, 2, none⟩), .int .i64 c, .bool true, .bool true, u, u, u, u, u, u, u, u, u, u, u, u, u, u, u, u, u, u, u, u, u, u, u], defers := [] } wa) :
    Code.wp Try.prog (Code.region 1 mops true) Q { tmps := #[pv, sv, .pointer (some ⟨g, 0, none⟩), .pointer (some ⟨g + 1, 0, none⟩), .bool false, u, u, u, u, u, u, u, u, u, u, u, u, u, u, u, u, u, u, u, u, u, u, u, u, u, u, u, u, u, u, u, u, u, u, u, u, u, u, u, u, u, u, u, u, u, u, u, u, u, u, u, u], defers := [] } w1 := by
  have HQ : Hid (∀ wa, Below w1.heap.size w1 wa → Q .normal { tmps := #[pv, sv, .pointer (some ⟨g, 0, none⟩), .pointer (some ⟨g + 1, 0, none⟩), .bool false, u, .pointer (some ⟨g + 1, 0, none⟩), .int .u8 2, .bool true, .bool true, .pointer (some ⟨g + 1, 0, none⟩), .int .u8 2, .bool false, .bool false, .bool false, .pointer (some ⟨g + 1, 1, none⟩), .int .i64 (t : Int), .bool false, .bool false, .bool false, .pointer (some ⟨g + 1, 1, none⟩), .int .i64 (t : Int), .agg #[.int .i64 k, .int .i64 r, .int .i64 c, .int .i64 q], .int .i64 (N : Int), .bool false, .bool false, .bool false, .pointer (some ⟨g + 1, 5, none⟩), .slice bo dn cb, .int .i64 (dn : Int), .pointer (some ⟨g, 2, none⟩), .int .i64 c, .bool true, .bool true, u, u, u, u, u, u, u, u, u, u, u, u, u, u, u, u, u, u, u, u, u, u, u], defers := [] } wa) := hQ
  obtain ⟨S, HS1, HS⟩ : ∃ S : World → Prop, Hid (∀ v, S v → (v.cell? ⟨g, 0, none⟩ = some (.int .i64 k) ∧ v.cell? ⟨g, 1, none⟩ = some (.int .i64 r) ∧ v.cell? ⟨g, 2, none⟩ = some (.int .i64 c) ∧ v.cell? ⟨g, 3, none⟩ = some (.int .i64 q) ∧ v.cell? ⟨g + 1, 0, none⟩ = some (.int .u8 2) ∧ v.cell? ⟨g + 1, 1, none⟩ = some (.int .i64 (t : Int)) ∧ v.cell? ⟨g + 1, 5, none⟩ = some (.slice bo dn cb))) ∧ Hid (∀ v, Below w1.heap.size w1 v → S v) := ⟨fun v => v.cell? ⟨g, 0, none⟩ = some (.int .i64 k) ∧ v.cell? ⟨g, 1, none⟩ = some (.int .i64 r) ∧ v.cell? ⟨g, 2, none⟩ = some (.int .i64 c) ∧ v.cell? ⟨g, 3, none⟩ = some (.int .i64 q) ∧ v.cell? ⟨g + 1, 0, none⟩ = some (.int .u8 2) ∧ v.cell? ⟨g + 1, 1, none⟩ = some (.int .i64 (t : Int)) ∧ v.cell? ⟨g + 1, 5, none⟩ = some (.slice bo dn cb), fun v h => h, hS⟩
  clear hS hQ
  have j4 : ¬ (t : Int) < 0 := by omega
  have j5 : ¬ N ≤ t := by omega
  have j6 : ¬ (N : Int) ≤ (t : Int) := by omega
  refine wp_region_held_drew (S := S) (by kernel_rfl) (HS.out _ (below_drew _ _)) (fun hHeld => ?_)
  have hb : Below w1.heap.size w1 w1.drew := below_drew _ _
  rw [show mops.size = 28 from by kernel_rfl, show Array.replicate 28 false = #[false, false, false, false, false, false, false, false, false, false, false, false, false, false, false, false, false, false, false, false, false, false, false, false, false, false, false, false] from by kernel_rfl]
  refine wpAnyH_take (i := 0) (oi := { dst := some 6, op := Op.fieldAddr 68 (Operand.tmp 3) 0, type := 0, pos := "ref.go:37", after := #[], guard := none }) (v := .pointer (some ⟨g + 1, 0, none⟩)) rfl (by kernel_rfl) (by kernel_rfl) (by kernel_rfl) (fun _ _ _ h => (hQp _ _ _ h).elim) (Or.inl ⟨by kernel_rfl, ?_⟩) (HS.out _ hb) ?_
  · intro w' hSw
    obtain ⟨s0, s1, s2, s3, s4, s5, s6⟩ := HS1.out _ hSw
    go_simp <;> first | with_reducible rfl | assumption
  refine wpAnyH_take (i := 1) (oi := { dst := some 7, op := Op.load 5 (Operand.tmp 6), type := 5, pos := "ref.go:37", after := #[{ on := 0, ground := Ground.data }], guard := none }) (v := .int .u8 2) rfl (by kernel_rfl) (by kernel_rfl) (by kernel_rfl) (fun _ _ _ h => (hQp _ _ _ h).elim) (Or.inl ⟨by kernel_rfl, ?_⟩) (HS.out _ hb) ?_
  · intro w' hSw
    obtain ⟨s0, s1, s2, s3, s4, s5, s6⟩ := HS1.out _ hSw
    go_simp <;> first | with_reducible rfl | assumption
  refine wpAnyH_take (i := 2) (oi := { dst := some 8, op := Op.binOp BinOp.neq 5 (Operand.tmp 7) (Operand.const (Value.int IntKind.u8 1)) 5, type := 4, pos := "ref.go:37", after := #[{ on := 1, ground := Ground.data }], guard := none }) (v := .bool true) rfl (by kernel_rfl) (by kernel_rfl) (by kernel_rfl) (fun _ _ _ h => (hQp _ _ _ h).elim) (Or.inl ⟨by kernel_rfl, ?_⟩) (HS.out _ hb) ?_
  · intro w' hSw
    obtain ⟨s0, s1, s2, s3, s4, s5, s6⟩ := HS1.out _ hSw
    go_simp <;> first | with_reducible rfl | assumption
  refine wpAnyH_take (i := 3) (oi := { dst := some 9, op := Op.move (Operand.tmp 8), type := 4, pos := "ref.go:37", after := #[{ on := 2, ground := Ground.data }], guard := none }) (v := .bool true) rfl (by kernel_rfl) (by kernel_rfl) (by kernel_rfl) (fun _ _ _ h => (hQp _ _ _ h).elim) (Or.inl ⟨by kernel_rfl, ?_⟩) (HS.out _ hb) ?_
  · intro w' hSw
    obtain ⟨s0, s1, s2, s3, s4, s5, s6⟩ := HS1.out _ hSw
    go_simp <;> first | with_reducible rfl | assumption
  show wpAnyH Try.prog .any mops Q S 24 #[true, true, true, true, false, false, false, false, false, false, false, false, false, false, false, false, false, false, false, false, false, false, false, false, false, false, false, false] { tmps := #[pv, sv, .pointer (some ⟨g, 0, none⟩), .pointer (some ⟨g + 1, 0, none⟩), .bool false, u, .pointer (some ⟨g + 1, 0, none⟩), .int .u8 2, .bool true, .bool true, u, u, u, u, u, u, u, u, u, u, u, u, u, u, u, u, u, u, u, u, u, u, u, u, u, u, u, u, u, u, u, u, u, u, u, u, u, u, u, u, u, u, u, u, u, u, u], defers := [] } w1.drew
  refine wpAnyH_take (i := 4) (oi := { dst := some 10, op := Op.fieldAddr 68 (Operand.tmp 3) 0, type := 0, pos := "ref.go:37", after := #[{ on := 3, ground := Ground.guard }], guard := some (3, true) }) (v := .pointer (some ⟨g + 1, 0, none⟩)) rfl (by kernel_rfl) (by kernel_rfl) (by kernel_rfl) (fun _ _ _ h => (hQp _ _ _ h).elim) (Or.inl ⟨by kernel_rfl, ?_⟩) (HS.out _ hb) ?_
  · intro w' hSw
    obtain ⟨s0, s1, s2, s3, s4, s5, s6⟩ := HS1.out _ hSw
    go_simp <;> first | with_reducible rfl | assumption
  refine wpAnyH_take (i := 5) (oi := { dst := some 11, op := Op.load 5 (Operand.tmp 10), type := 5, pos := "ref.go:37", after := #[{ on := 4, ground := Ground.data }, { on := 3, ground := Ground.guard }], guard := some (3, true) }) (v := .int .u8 2) rfl (by kernel_rfl) (by kernel_rfl) (by kernel_rfl) (fun _ _ _ h => (hQp _ _ _ h).elim) (Or.inl ⟨by kernel_rfl, ?_⟩) (HS.out _ hb) ?_
  · intro w' hSw
    obtain ⟨s0, s1, s2, s3, s4, s5, s6⟩ := HS1.out _ hSw
    go_simp <;> first | with_reducible rfl | assumption
  refine wpAnyH_take (i := 6) (oi := { dst := some 12, op := Op.binOp BinOp.neq 5 (Operand.tmp 11) (Operand.const (Value.int IntKind.u8 2)) 5, type := 4, pos := "ref.go:37", after := #[{ on := 5, ground := Ground.data }, { on := 3, ground := Ground.guard }], guard := some (3, true) }) (v := .bool false) rfl (by kernel_rfl) (by kernel_rfl) (by kernel_rfl) (fun _ _ _ h => (hQp _ _ _ h).elim) (Or.inl ⟨by kernel_rfl, ?_⟩) (HS.out _ hb) ?_
  · intro w' hSw
    obtain ⟨s0, s1, s2, s3, s4, s5, s6⟩ := HS1.out _ hSw
    go_simp <;> first | with_reducible rfl | assumption
  refine wpAnyH_take (i := 7) (oi := { dst := some 13, op := Op.pick (Operand.tmp 9) (Operand.tmp 12) (Operand.const (Value.bool false)), type := 4, pos := "ref.go:37", after := #[{ on := 3, ground := Ground.data }, { on := 6, ground := Ground.data }], guard := none }) (v := .bool false) rfl (by kernel_rfl) (by kernel_rfl) (by kernel_rfl) (fun _ _ _ h => (hQp _ _ _ h).elim) (Or.inl ⟨by kernel_rfl, ?_⟩) (HS.out _ hb) ?_
  · intro w' hSw
    obtain ⟨s0, s1, s2, s3, s4, s5, s6⟩ := HS1.out _ hSw
    go_simp <;> first | with_reducible rfl | assumption
  show wpAnyH Try.prog .any mops Q S 20 #[true, true, true, true, true, true, true, true, false, false, false, false, false, false, false, false, false, false, false, false, false, false, false, false, false, false, false, false] { tmps := #[pv, sv, .pointer (some ⟨g, 0, none⟩), .pointer (some ⟨g + 1, 0, none⟩), .bool false, u, .pointer (some ⟨g + 1, 0, none⟩), .int .u8 2, .bool true, .bool true, .pointer (some ⟨g + 1, 0, none⟩), .int .u8 2, .bool false, .bool false, u, u, u, u, u, u, u, u, u, u, u, u, u, u, u, u, u, u, u, u, u, u, u, u, u, u, u, u, u, u, u, u, u, u, u, u, u, u, u, u, u, u, u], defers := [] } w1.drew
  refine wpAnyH_take (i := 8) (oi := { dst := some 14, op := Op.move (Operand.tmp 13), type := 4, pos := "ref.go:37", after := #[{ on := 7, ground := Ground.data }, { on := 3, ground := Ground.chain }], guard := none }) (v := .bool false) rfl (by kernel_rfl) (by kernel_rfl) (by kernel_rfl) (fun _ _ _ h => (hQp _ _ _ h).elim) (Or.inl ⟨by kernel_rfl, ?_⟩) (HS.out _ hb) ?_
  · intro w' hSw
    obtain ⟨s0, s1, s2, s3, s4, s5, s6⟩ := HS1.out _ hSw
    go_simp <;> first | with_reducible rfl | assumption
  refine wpAnyH_take (i := 9) (oi := { dst := some 15, op := Op.fieldAddr 68 (Operand.tmp 3) 1, type := 0, pos := "ref.go:37", after := #[{ on := 8, ground := Ground.guard }], guard := some (8, false) }) (v := .pointer (some ⟨g + 1, 1, none⟩)) rfl (by kernel_rfl) (by kernel_rfl) (by kernel_rfl) (fun _ _ _ h => (hQp _ _ _ h).elim) (Or.inl ⟨by kernel_rfl, ?_⟩) (HS.out _ hb) ?_
  · intro w' hSw
    obtain ⟨s0, s1, s2, s3, s4, s5, s6⟩ := HS1.out _ hSw
    go_simp <;> first | with_reducible rfl | assumption
  refine wpAnyH_take (i := 10) (oi := { dst := some 16, op := Op.load 3 (Operand.tmp 15), type := 3, pos := "ref.go:37", after := #[{ on := 9, ground := Ground.data }, { on := 8, ground := Ground.guard }], guard := some (8, false) }) (v := .int .i64 (t : Int)) rfl (by kernel_rfl) (by kernel_rfl) (by kernel_rfl) (fun _ _ _ h => (hQp _ _ _ h).elim) (Or.inl ⟨by kernel_rfl, ?_⟩) (HS.out _ hb) ?_
  · intro w' hSw
    obtain ⟨s0, s1, s2, s3, s4, s5, s6⟩ := HS1.out _ hSw
    go_simp <;> first | with_reducible rfl | assumption
  refine wpAnyH_take (i := 11) (oi := { dst := some 17, op := Op.binOp BinOp.lss 3 (Operand.tmp 16) (Operand.const (Value.int IntKind.i64 0)) 3, type := 4, pos := "ref.go:37", after := #[{ on := 10, ground := Ground.data }, { on := 8, ground := Ground.guard }], guard := some (8, false) }) (v := .bool false) rfl (by kernel_rfl) (by kernel_rfl) (by kernel_rfl) (fun _ _ _ h => (hQp _ _ _ h).elim) (Or.inl ⟨by kernel_rfl, ?_⟩) (HS.out _ hb) ?_
  · intro w' hSw
    obtain ⟨s0, s1, s2, s3, s4, s5, s6⟩ := HS1.out _ hSw
    go_simp <;> first | with_reducible rfl | assumption
  show wpAnyH Try.prog .any mops Q S 16 #[true, true, true, true, true, true, true, true, true, true, true, true, false, false, false, false, false, false, false, false, false, false, false, false, false, false, false, false] { tmps := #[pv, sv, .pointer (some ⟨g, 0, none⟩), .pointer (some ⟨g + 1, 0, none⟩), .bool false, u, .pointer (some ⟨g + 1, 0, none⟩), .int .u8 2, .bool true, .bool true, .pointer (some ⟨g + 1, 0, none⟩), .int .u8 2, .bool false, .bool false, .bool false, .pointer (some ⟨g + 1, 1, none⟩), .int .i64 (t : Int), .bool false, u, u, u, u, u, u, u, u, u, u, u, u, u, u, u, u, u, u, u, u, u, u, u, u, u, u, u, u, u, u, u, u, u, u, u, u, u, u, u], defers := [] } w1.drew
  refine wpAnyH_take (i := 12) (oi := { dst := some 18, op := Op.pick (Operand.tmp 14) (Operand.const (Value.bool true)) (Operand.tmp 17), type := 4, pos := "ref.go:37", after := #[{ on := 8, ground := Ground.data }, { on := 11, ground := Ground.data }], guard := none }) (v := .bool false) rfl (by kernel_rfl) (by kernel_rfl) (by kernel_rfl) (fun _ _ _ h => (hQp _ _ _ h).elim) (Or.inl ⟨by kernel_rfl, ?_⟩) (HS.out _ hb) ?_
  · intro w' hSw
    obtain ⟨s0, s1, s2, s3, s4, s5, s6⟩ := HS1.out _ hSw
    go_simp <;> first | with_reducible rfl | assumption
  refine wpAnyH_take (i := 13) (oi := { dst := some 19, op := Op.move (Operand.tmp 18), type := 4, pos := "ref.go:37", after := #[{ on := 12, ground := Ground.data }, { on := 8, ground := Ground.chain }], guard := none }) (v := .bool false) rfl (by kernel_rfl) (by kernel_rfl) (by kernel_rfl) (fun _ _ _ h => (hQp _ _ _ h).elim) (Or.inl ⟨by kernel_rfl, ?_⟩) (HS.out _ hb) ?_
  · intro w' hSw
    obtain ⟨s0, s1, s2, s3, s4, s5, s6⟩ := HS1.out _ hSw
    go_simp <;> first | with_reducible rfl | assumption
  refine wpAnyH_take (i := 14) (oi := { dst := some 20, op := Op.fieldAddr 68 (Operand.tmp 3) 1, type := 0, pos := "ref.go:37", after := #[{ on := 13, ground := Ground.guard }], guard := some (13, false) }) (v := .pointer (some ⟨g + 1, 1, none⟩)) rfl (by kernel_rfl) (by kernel_rfl) (by kernel_rfl) (fun _ _ _ h => (hQp _ _ _ h).elim) (Or.inl ⟨by kernel_rfl, ?_⟩) (HS.out _ hb) ?_
  · intro w' hSw
    obtain ⟨s0, s1, s2, s3, s4, s5, s6⟩ := HS1.out _ hSw
    go_simp <;> first | with_reducible rfl | assumption
  refine wpAnyH_take (i := 15) (oi := { dst := some 21, op := Op.load 3 (Operand.tmp 20), type := 3, pos := "ref.go:37", after := #[{ on := 14, ground := Ground.data }, { on := 13, ground := Ground.guard }], guard := some (13, false) }) (v := .int .i64 (t : Int)) rfl (by kernel_rfl) (by kernel_rfl) (by kernel_rfl) (fun _ _ _ h => (hQp _ _ _ h).elim) (Or.inl ⟨by kernel_rfl, ?_⟩) (HS.out _ hb) ?_
  · intro w' hSw
    obtain ⟨s0, s1, s2, s3, s4, s5, s6⟩ := HS1.out _ hSw
    go_simp <;> first | with_reducible rfl | assumption
  show wpAnyH Try.prog .any mops Q S 12 #[true, true, true, true, true, true, true, true, true, true, true, true, true, true, true, true, false, false, false, false, false, false, false, false, false, false, false, false] { tmps := #[pv, sv, .pointer (some ⟨g, 0, none⟩), .pointer (some ⟨g + 1, 0, none⟩), .bool false, u, .pointer (some ⟨g + 1, 0, none⟩), .int .u8 2, .bool true, .bool true, .pointer (some ⟨g + 1, 0, none⟩), .int .u8 2, .bool false, .bool false, .bool false, .pointer (some ⟨g + 1, 1, none⟩), .int .i64 (t : Int), .bool false, .bool false, .bool false, .pointer (some ⟨g + 1, 1, none⟩), .int .i64 (t : Int), u, u, u, u, u, u, u, u, u, u, u, u, u, u, u, u, u, u, u, u, u, u, u, u, u, u, u, u, u, u, u, u, u, u, u], defers := [] } w1.drew
  refine wpAnyH_take (i := 16) (oi := { dst := some 22, op := Op.load 23 (Operand.tmp 2), type := 23, pos := "ref.go:37", after := #[{ on := 13, ground := Ground.guard }], guard := some (13, false) }) (v := .agg #[.int .i64 k, .int .i64 r, .int .i64 c, .int .i64 q]) rfl (by kernel_rfl) (by kernel_rfl) (by kernel_rfl) (fun _ _ _ h => (hQp _ _ _ h).elim) (Or.inl ⟨by kernel_rfl, ?_⟩) (HS.out _ hb) ?_
  · intro w' hSw
    obtain ⟨s0, s1, s2, s3, s4, s5, s6⟩ := HS1.out _ hSw
    go_simp <;> first | with_reducible rfl | assumption
  show wpAnyH Try.prog .any mops Q S 11 #[true, true, true, true, true, true, true, true, true, true, true, true, true, true, true, true, true, false, false, false, false, false, false, false, false, false, false, false] { tmps := #[pv, sv, .pointer (some ⟨g, 0, none⟩), .pointer (some ⟨g + 1, 0, none⟩), .bool false, u, .pointer (some ⟨g + 1, 0, none⟩), .int .u8 2, .bool true, .bool true, .pointer (some ⟨g + 1, 0, none⟩), .int .u8 2, .bool false, .bool false, .bool false, .pointer (some ⟨g + 1, 1, none⟩), .int .i64 (t : Int), .bool false, .bool false, .bool false, .pointer (some ⟨g + 1, 1, none⟩), .int .i64 (t : Int), .agg #[.int .i64 k, .int .i64 r, .int .i64 c, .int .i64 q], u, u, u, u, u, u, u, u, u, u, u, u, u, u, u, u, u, u, u, u, u, u, u, u, u, u, u, u, u, u, u, u, u, u], defers := [] } w1.drew
  refine wpAnyH_ready (rs := [17]) (by kernel_rfl) (by simp) ?_
  refine AllReadyH.cons (o := { dst := some 23, op := Op.call { callee := Callee.value (Operand.func 52), args := #[Operand.tmp 22], argTypes := #[23] }, type := 3, pos := "ref.go:37", after := #[{ on := 16, ground := Ground.data }, { on := 13, ground := Ground.chain }, { on := 13, ground := Ground.guard }], guard := some (13, false) }) rfl (fun K hK => ?_) AllReadyH.nil
  go_simp
  refine (HN _).mono ?_
  rintro e wa ⟨rfl, ha⟩
  refine hK.out _ _ (HS.out _ (below_then hb ha)) (fun hHeld2 => ?_)
  replace hb : Below w1.heap.size w1 wa := (below_then hb ha)
  clear hK K hHeld
  have hHeld := hHeld2
  clear hHeld2
  show wpAnyH Try.prog .any mops Q S 10 #[true, true, true, true, true, true, true, true, true, true, true, true, true, true, true, true, true, true, false, false, false, false, false, false, false, false, false, false] { tmps := #[pv, sv, .pointer (some ⟨g, 0, none⟩), .pointer (some ⟨g + 1, 0, none⟩), .bool false, u, .pointer (some ⟨g + 1, 0, none⟩), .int .u8 2, .bool true, .bool true, .pointer (some ⟨g + 1, 0, none⟩), .int .u8 2, .bool false, .bool false, .bool false, .pointer (some ⟨g + 1, 1, none⟩), .int .i64 (t : Int), .bool false, .bool false, .bool false, .pointer (some ⟨g + 1, 1, none⟩), .int .i64 (t : Int), .agg #[.int .i64 k, .int .i64 r, .int .i64 c, .int .i64 q], .int .i64 (N : Int), u, u, u, u, u, u, u, u, u, u, u, u, u, u, u, u, u, u, u, u, u, u, u, u, u, u, u, u, u, u, u, u, u], defers := [] } wa
  refine wpAnyH_take (i := 18) (oi := { dst := some 24, op := Op.binOp BinOp.geq 3 (Operand.tmp 21) (Operand.tmp 23) 3, type := 4, pos := "ref.go:37", after := #[{ on := 15, ground := Ground.data }, { on := 17, ground := Ground.data }, { on := 13, ground := Ground.guard }], guard := some (13, false) }) (v := .bool false) rfl (by kernel_rfl) (by kernel_rfl) (by kernel_rfl) (fun _ _ _ h => (hQp _ _ _ h).elim) (Or.inl ⟨by kernel_rfl, ?_⟩) (HS.out _ hb) ?_
  · intro w' hSw
    obtain ⟨s0, s1, s2, s3, s4, s5, s6⟩ := HS1.out _ hSw
    go_simp <;> first | with_reducible rfl | assumption
  refine wpAnyH_take (i := 19) (oi := { dst := some 25, op := Op.pick (Operand.tmp 19) (Operand.const (Value.bool true)) (Operand.tmp 24), type := 4, pos := "ref.go:37", after := #[{ on := 13, ground := Ground.data }, { on := 18, ground := Ground.data }], guard := none }) (v := .bool false) rfl (by kernel_rfl) (by kernel_rfl) (by kernel_rfl) (fun _ _ _ h => (hQp _ _ _ h).elim) (Or.inl ⟨by kernel_rfl, ?_⟩) (HS.out _ hb) ?_
  · intro w' hSw
    obtain ⟨s0, s1, s2, s3, s4, s5, s6⟩ := HS1.out _ hSw
    go_simp <;> first | with_reducible rfl | assumption
  show wpAnyH Try.prog .any mops Q S 8 #[true, true, true, true, true, true, true, true, true, true, true, true, true, true, true, true, true, true, true, true, false, false, false, false, false, false, false, false] { tmps := #[pv, sv, .pointer (some ⟨g, 0, none⟩), .pointer (some ⟨g + 1, 0, none⟩), .bool false, u, .pointer (some ⟨g + 1, 0, none⟩), .int .u8 2, .bool true, .bool true, .pointer (some ⟨g + 1, 0, none⟩), .int .u8 2, .bool false, .bool false, .bool false, .pointer (some ⟨g + 1, 1, none⟩), .int .i64 (t : Int), .bool false, .bool false, .bool false, .pointer (some ⟨g + 1, 1, none⟩), .int .i64 (t : Int), .agg #[.int .i64 k, .int .i64 r, .int .i64 c, .int .i64 q], .int .i64 (N : Int), .bool false, .bool false, u, u, u, u, u, u, u, u, u, u, u, u, u, u, u, u, u, u, u, u, u, u, u, u, u, u, u, u, u, u, u], defers := [] } wa
  refine wpAnyH_take (i := 20) (oi := { dst := some 26, op := Op.move (Operand.tmp 25), type := 4, pos := "ref.go:37", after := #[{ on := 19, ground := Ground.data }, { on := 17, ground := Ground.chain }], guard := none }) (v := .bool false) rfl (by kernel_rfl) (by kernel_rfl) (by kernel_rfl) (fun _ _ _ h => (hQp _ _ _ h).elim) (Or.inl ⟨by kernel_rfl, ?_⟩) (HS.out _ hb) ?_
  · intro w' hSw
    obtain ⟨s0, s1, s2, s3, s4, s5, s6⟩ := HS1.out _ hSw
    go_simp <;> first | with_reducible rfl | assumption
  refine wpAnyH_take (i := 21) (oi := { dst := some 27, op := Op.fieldAddr 68 (Operand.tmp 3) 5, type := 0, pos := "ref.go:37", after := #[{ on := 20, ground := Ground.guard }], guard := some (20, false) }) (v := .pointer (some ⟨g + 1, 5, none⟩)) rfl (by kernel_rfl) (by kernel_rfl) (by kernel_rfl) (fun _ _ _ h => (hQp _ _ _ h).elim) (Or.inl ⟨by kernel_rfl, ?_⟩) (HS.out _ hb) ?_
  · intro w' hSw
    obtain ⟨s0, s1, s2, s3, s4, s5, s6⟩ := HS1.out _ hSw
    go_simp <;> first | with_reducible rfl | assumption
  refine wpAnyH_take (i := 22) (oi := { dst := some 28, op := Op.load 45 (Operand.tmp 27), type := 45, pos := "ref.go:37", after := #[{ on := 21, ground := Ground.data }, { on := 20, ground := Ground.guard }], guard := some (20, false) }) (v := .slice bo dn cb) rfl (by kernel_rfl) (by kernel_rfl) (by kernel_rfl) (fun _ _ _ h => (hQp _ _ _ h).elim) (Or.inl ⟨by kernel_rfl, ?_⟩) (HS.out _ hb) ?_
  · intro w' hSw
    obtain ⟨s0, s1, s2, s3, s4, s5, s6⟩ := HS1.out _ hSw
    go_simp <;> first | with_reducible rfl | assumption
  refine wpAnyH_take (i := 23) (oi := { dst := some 29, op := Op.call { callee := Callee.builtin Builtin.len, args := #[Operand.tmp 28], argTypes := #[45] }, type := 3, pos := "ref.go:37", after := #[{ on := 22, ground := Ground.data }, { on := 20, ground := Ground.guard }], guard := some (20, false) }) (v := .int .i64 (dn : Int)) rfl (by kernel_rfl) (by kernel_rfl) (by kernel_rfl) (fun _ _ _ h => (hQp _ _ _ h).elim) (Or.inl ⟨by kernel_rfl, ?_⟩) (HS.out _ hb) ?_
  · intro w' hSw
    obtain ⟨s0, s1, s2, s3, s4, s5, s6⟩ := HS1.out _ hSw
    go_simp <;> first | with_reducible rfl | assumption
  show wpAnyH Try.prog .any mops Q S 4 #[true, true, true, true, true, true, true, true, true, true, true, true, true, true, true, true, true, true, true, true, true, true, true, true, false, false, false, false] { tmps := #[pv, sv, .pointer (some ⟨g, 0, none⟩), .pointer (some ⟨g + 1, 0, none⟩), .bool false, u, .pointer (some ⟨g + 1, 0, none⟩), .int .u8 2, .bool true, .bool true, .pointer (some ⟨g + 1, 0, none⟩), .int .u8 2, .bool false, .bool false, .bool false, .pointer (some ⟨g + 1, 1, none⟩), .int .i64 (t : Int), .bool false, .bool false, .bool false, .pointer (some ⟨g + 1, 1, none⟩), .int .i64 (t : Int), .agg #[.int .i64 k, .int .i64 r, .int .i64 c, .int .i64 q], .int .i64 (N : Int), .bool false, .bool false, .bool false, .pointer (some ⟨g + 1, 5, none⟩), .slice bo dn cb, .int .i64 (dn : Int), u, u, u, u, u, u, u, u, u, u, u, u, u, u, u, u, u, u, u, u, u, u, u, u, u, u, u], defers := [] } wa
  refine wpAnyH_take (i := 24) (oi := { dst := some 30, op := Op.fieldAddr 23 (Operand.tmp 2) 2, type := 0, pos := "ref.go:37", after := #[{ on := 20, ground := Ground.guard }], guard := some (20, false) }) (v := .pointer (some ⟨g, 2, none⟩)) rfl (by kernel_rfl) (by kernel_rfl) (by kernel_rfl) (fun _ _ _ h => (hQp _ _ _ h).elim) (Or.inl ⟨by kernel_rfl, ?_⟩) (HS.out _ hb) ?_
  · intro w' hSw
    obtain ⟨s0, s1, s2, s3, s4, s5, s6⟩ := HS1.out _ hSw
    go_simp <;> first | with_reducible rfl | assumption
  refine wpAnyH_take (i := 25) (oi := { dst := some 31, op := Op.load 3 (Operand.tmp 30), type := 3, pos := "ref.go:37", after := #[{ on := 24, ground := Ground.data }, { on := 20, ground := Ground.guard }], guard := some (20, false) }) (v := .int .i64 c) rfl (by kernel_rfl) (by kernel_rfl) (by kernel_rfl) (fun _ _ _ h => (hQp _ _ _ h).elim) (Or.inl ⟨by kernel_rfl, ?_⟩) (HS.out _ hb) ?_
  · intro w' hSw
    obtain ⟨s0, s1, s2, s3, s4, s5, s6⟩ := HS1.out _ hSw
    go_simp <;> first | with_reducible rfl | assumption
  refine wpAnyH_take (i := 26) (oi := { dst := some 32, op := Op.binOp BinOp.neq 3 (Operand.tmp 29) (Operand.tmp 31) 3, type := 4, pos := "ref.go:37", after := #[{ on := 23, ground := Ground.data }, { on := 25, ground := Ground.data }, { on := 20, ground := Ground.guard }], guard := some (20, false) }) (v := .bool true) rfl (by kernel_rfl) (by kernel_rfl) (by kernel_rfl) (fun _ _ _ h => (hQp _ _ _ h).elim) (Or.inl ⟨by kernel_rfl, ?_⟩) (HS.out _ hb) ?_
  · intro w' hSw
    obtain ⟨s0, s1, s2, s3, s4, s5, s6⟩ := HS1.out _ hSw
    go_simp <;> first | with_reducible rfl | assumption
  refine wpAnyH_take (i := 27) (oi := { dst := some 33, op := Op.pick (Operand.tmp 26) (Operand.const (Value.bool true)) (Operand.tmp 32), type := 4, pos := "ref.go:37", after := #[{ on := 20, ground := Ground.data }, { on := 26, ground := Ground.data }], guard := none }) (v := .bool true) rfl (by kernel_rfl) (by kernel_rfl) (by kernel_rfl) (fun _ _ _ h => (hQp _ _ _ h).elim) (Or.inl ⟨by kernel_rfl, ?_⟩) (HS.out _ hb) ?_
  · intro w' hSw
    obtain ⟨s0, s1, s2, s3, s4, s5, s6⟩ := HS1.out _ hSw
    go_simp <;> first | with_reducible rfl | assumption
  show wpAnyH Try.prog .any mops Q S 0 #[true, true, true, true, true, true, true, true, true, true, true, true, true, true, true, true, true, true, true, true, true, true, true, true, true, true, true, true] { tmps := #[pv, sv, .pointer (some ⟨g, 0, none⟩), .pointer (some ⟨g + 1, 0, none⟩), .bool false, u, .pointer (some ⟨g + 1, 0, none⟩), .int .u8 2, .bool true, .bool true, .pointer (some ⟨g + 1, 0, none⟩), .int .u8 2, .bool false, .bool false, .bool false, .pointer (some ⟨g + 1, 1, none⟩), .int .i64 (t : Int), .bool false, .bool false, .bool false, .pointer (some ⟨g + 1, 1, none⟩), .int .i64 (t : Int), .agg #[.int .i64 k, .int .i64 r, .int .i64 c, .int .i64 q], .int .i64 (N : Int), .bool false, .bool false, .bool false, .pointer (some ⟨g + 1, 5, none⟩), .slice bo dn cb, .int .i64 (dn : Int), .pointer (some ⟨g, 2, none⟩), .int .i64 c, .bool true, .bool true, u, u, u, u, u, u, u, u, u, u, u, u, u, u, u, u, u, u, u, u, u, u, u], defers := [] } wa
  refine wpAnyH_done (by kernel_rfl) ?_ _
  exact HQ.out _ hb
set_option maxHeartbeats 8000000 in
set_option maxRecDepth 100000 in
theorem may_2ok {pv sv u : Value} (w1 : World) (k r c q : Int) (g N t _vn _ca dn cb : Nat) (_ce _st : Int) (_ao bo : Option Addr)
    (hS : ∀ v, Below w1.heap.size w1 v → (v.cell? ⟨g, 0, none⟩ = some (.int .i64 k) ∧ v.cell? ⟨g, 1, none⟩ = some (.int .i64 r) ∧ v.cell? ⟨g, 2, none⟩ = some (.int .i64 c) ∧ v.cell? ⟨g, 3, none⟩ = some (.int .i64 q) ∧ v.cell? ⟨g + 1, 0, none⟩ = some (.int .u8 2) ∧ v.cell? ⟨g + 1, 1, none⟩ = some (.int .i64 (t : Int)) ∧ v.cell? ⟨g + 1, 5, none⟩ = some (.slice bo dn cb)))
    (HN : ∀ w, Calls Try.prog 52 #[.agg #[.int .i64 k, .int .i64 r, .int .i64 c, .int .i64 q]] w fun e w' => e = .returned (.int .i64 (N : Int)) ∧ Below w.heap.size w w') (h1 : t < N) (h2 : ((dn : Int) != c) = false)
    (Q : Exit → Act → World → Prop) (hQp : ∀ ch a v, Q (.panic ch) a v → False) (hQ : ∀ wa, Below w1.heap.size w1 wa → Q .normal { tmps := #[pv, sv, .pointer (some ⟨g, 0, none⟩), .pointer (some ⟨g + 1, 0, none⟩), .bool false, u, .pointer (some ⟨g + 1, 0, none⟩), .int .u8 2, .bool true, .bool true, .pointer (some ⟨g + 1, 0, none⟩), .int .u8 2, .bool false, .bool false, .bool false, .pointer (some ⟨g + 1, 1, none⟩), .int .i64 (t : Int), .bool false, .bool false, .bool false, .pointer (some ⟨g + 1, 1, none⟩), .int .i64 (t : Int), .agg #[.int .i64 k, .int .i64 r, .int .i64 c, .int .i64 q], .int .i64 (N : Int), .bool false, .bool false, .bool false, .pointer (some ⟨g + 1, 5, none⟩), .slice bo dn cb, .int .i64 (dn : Int), .pointer (some ⟨g, 2, none⟩), .int .i64 c, .bool false, .bool false, u, u, u, u, u, u, u, u, u, u, u, u, u, u, u, u, u, u, u, u, u, u, u], defers := [] } wa) :
    Code.wp Try.prog (Code.region 1 mops true) Q { tmps := #[pv, sv, .pointer (some ⟨g, 0, none⟩), .pointer (some ⟨g + 1, 0, none⟩), .bool false, u, u, u, u, u, u, u, u, u, u, u, u, u, u, u, u, u, u, u, u, u, u, u, u, u, u, u, u, u, u, u, u, u, u, u, u, u, u, u, u, u, u, u, u, u, u, u, u, u, u, u, u], defers := [] } w1 := by
  have HQ : Hid (∀ wa, Below w1.heap.size w1 wa → Q .normal { tmps := #[pv, sv, .pointer (some ⟨g, 0, none⟩), .pointer (some ⟨g + 1, 0, none⟩), .bool false, u, .pointer (some ⟨g + 1, 0, none⟩), .int .u8 2, .bool true, .bool true, .pointer (some ⟨g + 1, 0, none⟩), .int .u8 2, .bool false, .bool false, .bool false, .pointer (some ⟨g + 1, 1, none⟩), .int .i64 (t : Int), .bool false, .bool false, .bool false, .pointer (some ⟨g + 1, 1, none⟩), .int .i64 (t : Int), .agg #[.int .i64 k, .int .i64 r, .int .i64 c, .int .i64 q], .int .i64 (N : Int), .bool false, .bool false, .bool false, .pointer (some ⟨g + 1, 5, none⟩), .slice bo dn cb, .int .i64 (dn : Int), .pointer (some ⟨g, 2, none⟩), .int .i64 c, .bool false, .bool false, u, u, u, u, u, u, u, u, u, u, u, u, u, u, u, u, u, u, u, u, u, u, u], defers := [] } wa) := hQ
  obtain ⟨S, HS1, HS⟩ : ∃ S : World → Prop, Hid (∀ v, S v → (v.cell? ⟨g, 0, none⟩ = some (.int .i64 k) ∧ v.cell? ⟨g, 1, none⟩ = some (.int .i64 r) ∧ v.cell? ⟨g, 2, none⟩ = some (.int .i64 c) ∧ v.cell? ⟨g, 3, none⟩ = some (.int .i64 q) ∧ v.cell? ⟨g + 1, 0, none⟩ = some (.int .u8 2) ∧ v.cell? ⟨g + 1, 1, none⟩ = some (.int .i64 (t : Int)) ∧ v.cell? ⟨g + 1, 5, none⟩ = some (.slice bo dn cb))) ∧ Hid (∀ v, Below w1.heap.size w1 v → S v) := ⟨fun v => v.cell? ⟨g, 0, none⟩ = some (.int .i64 k) ∧ v.cell? ⟨g, 1, none⟩ = some (.int .i64 r) ∧ v.cell? ⟨g, 2, none⟩ = some (.int .i64 c) ∧ v.cell? ⟨g, 3, none⟩ = some (.int .i64 q) ∧ v.cell? ⟨g + 1, 0, none⟩ = some (.int .u8 2) ∧ v.cell? ⟨g + 1, 1, none⟩ = some (.int .i64 (t : Int)) ∧ v.cell? ⟨g + 1, 5, none⟩ = some (.slice bo dn cb), fun v h => h, hS⟩
  clear hS hQ
  have j4 : ¬ (t : Int) < 0 := by omega
  have j5 : ¬ N ≤ t := by omega
  have j6 : ¬ (N : Int) ≤ (t : Int) := by omega
  refine wp_region_held_drew (S := S) (by kernel_rfl) (HS.out _ (below_drew _ _)) (fun hHeld => ?_)
  have hb : Below w1.heap.size w1 w1.drew := below_drew _ _
  rw [show mops.size = 28 from by kernel_rfl, show Array.replicate 28 false = #[false, false, false, false, false, false, false, false, false, false, false, false, false, false, false, false, false, false, false, false, false, false, false, false, false, false, false, false] from by kernel_rfl]
  refine wpAnyH_take (i := 0) (oi := { dst := some 6, op := Op.fieldAddr 68 (Operand.tmp 3) 0, type := 0, pos := "ref.go:37", after := #[], guard := none }) (v := .pointer (some ⟨g + 1, 0, none⟩)) rfl (by kernel_rfl) (by kernel_rfl) (by kernel_rfl) (fun _ _ _ h => (hQp _ _ _ h).elim) (Or.inl ⟨by kernel_rfl, ?_⟩) (HS.out _ hb) ?_
  · intro w' hSw
    obtain ⟨s0, s1, s2, s3, s4, s5, s6⟩ := HS1.out _ hSw
    go_simp <;> first | with_reducible rfl | assumption
  refine wpAnyH_take (i := 1) (oi := { dst := some 7, op := Op.load 5 (Operand.tmp 6), type := 5, pos := "ref.go:37", after := #[{ on := 0, ground := Ground.data }], guard := none }) (v := .int .u8 2) rfl (by kernel_rfl) (by kernel_rfl) (by kernel_rfl) (fun _ _ _ h => (hQp _ _ _ h).elim) (Or.inl ⟨by kernel_rfl, ?_⟩) (HS.out _ hb) ?_
  · intro w' hSw
    obtain ⟨s0, s1, s2, s3, s4, s5, s6⟩ := HS1.out _ hSw
    go_simp <;> first | with_reducible rfl | assumption
  refine wpAnyH_take (i := 2) (oi := { dst := some 8, op := Op.binOp BinOp.neq 5 (Operand.tmp 7) (Operand.const (Value.int IntKind.u8 1)) 5, type := 4, pos := "ref.go:37", after := #[{ on := 1, ground := Ground.data }], guard := none }) (v := .bool true) rfl (by kernel_rfl) (by kernel_rfl) (by kernel_rfl) (fun _ _ _ h => (hQp _ _ _ h).elim) (Or.inl ⟨by kernel_rfl, ?_⟩) (HS.out _ hb) ?_
  · intro w' hSw
    obtain ⟨s0, s1, s2, s3, s4, s5, s6⟩ := HS1.out _ hSw
    go_simp <;> first | with_reducible rfl | assumption
  refine wpAnyH_take (i := 3) (oi := { dst := some 9, op := Op.move (Operand.tmp 8), type := 4, pos := "ref.go:37", after := #[{ on := 2, ground := Ground.data }], guard := none }) (v := .bool true) rfl (by kernel_rfl) (by kernel_rfl) (by kernel_rfl) (fun _ _ _ h => (hQp _ _ _ h).elim) (Or.inl ⟨by kernel_rfl, ?_⟩) (HS.out _ hb) ?_
  · intro w' hSw
    obtain ⟨s0, s1, s2, s3, s4, s5, s6⟩ := HS1.out _ hSw
    go_simp <;> first | with_reducible rfl | assumption
  show wpAnyH Try.prog .any mops Q S 24 #[true, true, true, true, false, false, false, false, false, false, false, false, false, false, false, false, false, false, false, false, false, false, false, false, false, false, false, false] { tmps := #[pv, sv, .pointer (some ⟨g, 0, none⟩), .pointer (some ⟨g + 1, 0, none⟩), .bool false, u, .pointer (some ⟨g + 1, 0, none⟩), .int .u8 2, .bool true, .bool true, u, u, u, u, u, u, u, u, u, u, u, u, u, u, u, u, u, u, u, u, u, u, u, u, u, u, u, u, u, u, u, u, u, u, u, u, u, u, u, u, u, u, u, u, u, u, u], defers := [] } w1.drew
  refine wpAnyH_take (i := 4) (oi := { dst := some 10, op := Op.fieldAddr 68 (Operand.tmp 3) 0, type := 0, pos := "ref.go:37", after := #[{ on := 3, ground := Ground.guard }], guard := some (3, true) }) (v := .pointer (some ⟨g + 1, 0, none⟩)) rfl (by kernel_rfl) (by kernel_rfl) (by kernel_rfl) (fun _ _ _ h => (hQp _ _ _ h).elim) (Or.inl ⟨by kernel_rfl, ?_⟩) (HS.out _ hb) ?_
  · intro w' hSw
    obtain ⟨s0, s1, s2, s3, s4, s5, s6⟩ := HS1.out _ hSw
    go_simp <;> first | with_reducible rfl | assumption
  refine wpAnyH_take (i := 5) (oi := { dst := some 11, op := Op.load 5 (Operand.tmp 10), type := 5, pos := "ref.go:37", after := #[{ on := 4, ground := Ground.data }, { on := 3, ground := Ground.guard }], guard := some (3, true) }) (v := .int .u8 2) rfl (by kernel_rfl) (by kernel_rfl) (by kernel_rfl) (fun _ _ _ h => (hQp _ _ _ h).elim) (Or.inl ⟨by kernel_rfl, ?_⟩) (HS.out _ hb) ?_
  · intro w' hSw
    obtain ⟨s0, s1, s2, s3, s4, s5, s6⟩ := HS1.out _ hSw
    go_simp <;> first | with_reducible rfl | assumption
  refine wpAnyH_take (i := 6) (oi := { dst := some 12, op := Op.binOp BinOp.neq 5 (Operand.tmp 11) (Operand.const (Value.int IntKind.u8 2)) 5, type := 4, pos := "ref.go:37", after := #[{ on := 5, ground := Ground.data }, { on := 3, ground := Ground.guard }], guard := some (3, true) }) (v := .bool false) rfl (by kernel_rfl) (by kernel_rfl) (by kernel_rfl) (fun _ _ _ h => (hQp _ _ _ h).elim) (Or.inl ⟨by kernel_rfl, ?_⟩) (HS.out _ hb) ?_
  · intro w' hSw
    obtain ⟨s0, s1, s2, s3, s4, s5, s6⟩ := HS1.out _ hSw
    go_simp <;> first | with_reducible rfl | assumption
  refine wpAnyH_take (i := 7) (oi := { dst := some 13, op := Op.pick (Operand.tmp 9) (Operand.tmp 12) (Operand.const (Value.bool false)), type := 4, pos := "ref.go:37", after := #[{ on := 3, ground := Ground.data }, { on := 6, ground := Ground.data }], guard := none }) (v := .bool false) rfl (by kernel_rfl) (by kernel_rfl) (by kernel_rfl) (fun _ _ _ h => (hQp _ _ _ h).elim) (Or.inl ⟨by kernel_rfl, ?_⟩) (HS.out _ hb) ?_
  · intro w' hSw
    obtain ⟨s0, s1, s2, s3, s4, s5, s6⟩ := HS1.out _ hSw
    go_simp <;> first | with_reducible rfl | assumption
  show wpAnyH Try.prog .any mops Q S 20 #[true, true, true, true, true, true, true, true, false, false, false, false, false, false, false, false, false, false, false, false, false, false, false, false, false, false, false, false] { tmps := #[pv, sv, .pointer (some ⟨g, 0, none⟩), .pointer (some ⟨g + 1, 0, none⟩), .bool false, u, .pointer (some ⟨g + 1, 0, none⟩), .int .u8 2, .bool true, .bool true, .pointer (some ⟨g + 1, 0, none⟩), .int .u8 2, .bool false, .bool false, u, u, u, u, u, u, u, u, u, u, u, u, u, u, u, u, u, u, u, u, u, u, u, u, u, u, u, u, u, u, u, u, u, u, u, u, u, u, u, u, u, u, u], defers := [] } w1.drew
  refine wpAnyH_take (i := 8) (oi := { dst := some 14, op := Op.move (Operand.tmp 13), type := 4, pos := "ref.go:37", after := #[{ on := 7, ground := Ground.data }, { on := 3, ground := Ground.chain }], guard := none }) (v := .bool false) rfl (by kernel_rfl) (by kernel_rfl) (by kernel_rfl) (fun _ _ _ h => (hQp _ _ _ h).elim) (Or.inl ⟨by kernel_rfl, ?_⟩) (HS.out _ hb) ?_
  · intro w' hSw
    obtain ⟨s0, s1, s2, s3, s4, s5, s6⟩ := HS1.out _ hSw
    go_simp <;> first | with_reducible rfl | assumption
  refine wpAnyH_take (i := 9) (oi := { dst := some 15, op := Op.fieldAddr 68 (Operand.tmp 3) 1, type := 0, pos := "ref.go:37", after := #[{ on := 8, ground := Ground.guard }], guard := some (8, false) }) (v := .pointer (some ⟨g + 1, 1, none⟩)) rfl (by kernel_rfl) (by kernel_rfl) (by kernel_rfl) (fun _ _ _ h => (hQp _ _ _ h).elim) (Or.inl ⟨by kernel_rfl, ?_⟩) (HS.out _ hb) ?_
  · intro w' hSw
    obtain ⟨s0, s1, s2, s3, s4, s5, s6⟩ := HS1.out _ hSw
    go_simp <;> first | with_reducible rfl | assumption
  refine wpAnyH_take (i := 10) (oi := { dst := some 16, op := Op.load 3 (Operand.tmp 15), type := 3, pos := "ref.go:37", after := #[{ on := 9, ground := Ground.data }, { on := 8, ground := Ground.guard }], guard := some (8, false) }) (v := .int .i64 (t : Int)) rfl (by kernel_rfl) (by kernel_rfl) (by kernel_rfl) (fun _ _ _ h => (hQp _ _ _ h).elim) (Or.inl ⟨by kernel_rfl, ?_⟩) (HS.out _ hb) ?_
  · intro w' hSw
    obtain ⟨s0, s1, s2, s3, s4, s5, s6⟩ := HS1.out _ hSw
    go_simp <;> first | with_reducible rfl | assumption
  refine wpAnyH_take (i := 11) (oi := { dst := some 17, op := Op.binOp BinOp.lss 3 (Operand.tmp 16) (Operand.const (Value.int IntKind.i64 0)) 3, type := 4, pos := "ref.go:37", after := #[{ on := 10, ground := Ground.data }, { on := 8, ground := Ground.guard }], guard := some (8, false) }) (v := .bool false) rfl (by kernel_rfl) (by kernel_rfl) (by kernel_rfl) (fun _ _ _ h => (hQp _ _ _ h).elim) (Or.inl ⟨by kernel_rfl, ?_⟩) (HS.out _ hb) ?_
  · intro w' hSw
    obtain ⟨s0, s1, s2, s3, s4, s5, s6⟩ := HS1.out _ hSw
    go_simp <;> first | with_reducible rfl | assumption
  show wpAnyH Try.prog .any mops Q S 16 #[true, true, true, true, true, true, true, true, true, true, true, true, false, false, false, false, false, false, false, false, false, false, false, false, false, false, false, false] { tmps := #[pv, sv, .pointer (some ⟨g, 0, none⟩), .pointer (some ⟨g + 1, 0, none⟩), .bool false, u, .pointer (some ⟨g + 1, 0, none⟩), .int .u8 2, .bool true, .bool true, .pointer (some ⟨g + 1, 0, none⟩), .int .u8 2, .bool false, .bool false, .bool false, .pointer (some ⟨g + 1, 1, none⟩), .int .i64 (t : Int), .bool false, u, u, u, u, u, u, u, u, u, u, u, u, u, u, u, u, u, u, u, u, u, u, u, u, u, u, u, u, u, u, u, u, u, u, u, u, u, u, u], defers := [] } w1.drew
  refine wpAnyH_take (i := 12) (oi := { dst := some 18, op := Op.pick (Operand.tmp 14) (Operand.const (Value.bool true)) (Operand.tmp 17), type := 4, pos := "ref.go:37", after := #[{ on := 8, ground := Ground.data }, { on := 11, ground := Ground.data }], guard := none }) (v := .bool false) rfl (by kernel_rfl) (by kernel_rfl) (by kernel_rfl) (fun _ _ _ h => (hQp _ _ _ h).elim) (Or.inl ⟨by kernel_rfl, ?_⟩) (HS.out _ hb) ?_
  · intro w' hSw
    obtain ⟨s0, s1, s2, s3, s4, s5, s6⟩ := HS1.out _ hSw
    go_simp <;> first | with_reducible rfl | assumption
  refine wpAnyH_take (i := 13) (oi := { dst := some 19, op := Op.move (Operand.tmp 18), type := 4, pos := "ref.go:37", after := #[{ on := 12, ground := Ground.data }, { on := 8, ground := Ground.chain }], guard := none }) (v := .bool false) rfl (by kernel_rfl) (by kernel_rfl) (by kernel_rfl) (fun _ _ _ h => (hQp _ _ _ h).elim) (Or.inl ⟨by kernel_rfl, ?_⟩) (HS.out _ hb) ?_
  · intro w' hSw
    obtain ⟨s0, s1, s2, s3, s4, s5, s6⟩ := HS1.out _ hSw
    go_simp <;> first | with_reducible rfl | assumption
  refine wpAnyH_take (i := 14) (oi := { dst := some 20, op := Op.fieldAddr 68 (Operand.tmp 3) 1, type := 0, pos := "ref.go:37", after := #[{ on := 13, ground := Ground.guard }], guard := some (13, false) }) (v := .pointer (some ⟨g + 1, 1, none⟩)) rfl (by kernel_rfl) (by kernel_rfl) (by kernel_rfl) (fun _ _ _ h => (hQp _ _ _ h).elim) (Or.inl ⟨by kernel_rfl, ?_⟩) (HS.out _ hb) ?_
  · intro w' hSw
    obtain ⟨s0, s1, s2, s3, s4, s5, s6⟩ := HS1.out _ hSw
    go_simp <;> first | with_reducible rfl | assumption
  refine wpAnyH_take (i := 15) (oi := { dst := some 21, op := Op.load 3 (Operand.tmp 20), type := 3, pos := "ref.go:37", after := #[{ on := 14, ground := Ground.data }, { on := 13, ground := Ground.guard }], guard := some (13, false) }) (v := .int .i64 (t : Int)) rfl (by kernel_rfl) (by kernel_rfl) (by kernel_rfl) (fun _ _ _ h => (hQp _ _ _ h).elim) (Or.inl ⟨by kernel_rfl, ?_⟩) (HS.out _ hb) ?_
  · intro w' hSw
    obtain ⟨s0, s1, s2, s3, s4, s5, s6⟩ := HS1.out _ hSw
    go_simp <;> first | with_reducible rfl | assumption
  show wpAnyH Try.prog .any mops Q S 12 #[true, true, true, true, true, true, true, true, true, true, true, true, true, true, true, true, false, false, false, false, false, false, false, false, false, false, false, false] { tmps := #[pv, sv, .pointer (some ⟨g, 0, none⟩), .pointer (some ⟨g + 1, 0, none⟩), .bool false, u, .pointer (some ⟨g + 1, 0, none⟩), .int .u8 2, .bool true, .bool true, .pointer (some ⟨g + 1, 0, none⟩), .int .u8 2, .bool false, .bool false, .bool false, .pointer (some ⟨g + 1, 1, none⟩), .int .i64 (t : Int), .bool false, .bool false, .bool false, .pointer (some ⟨g + 1, 1, none⟩), .int .i64 (t : Int), u, u, u, u, u, u, u, u, u, u, u, u, u, u, u, u, u, u, u, u, u, u, u, u, u, u, u, u, u, u, u, u, u, u, u], defers := [] } w1.drew
  refine wpAnyH_take (i := 16) (oi := { dst := some 22, op := Op.load 23 (Operand.tmp 2), type := 23, pos := "ref.go:37", after := #[{ on := 13, ground := Ground.guard }], guard := some (13, false) }) (v := .agg #[.int .i64 k, .int .i64 r, .int .i64 c, .int .i64 q]) rfl (by kernel_rfl) (by kernel_rfl) (by kernel_rfl) (fun _ _ _ h => (hQp _ _ _ h).elim) (Or.inl ⟨by kernel_rfl, ?_⟩) (HS.out _ hb) ?_
  · intro w' hSw
    obtain ⟨s0, s1, s2, s3, s4, s5, s6⟩ := HS1.out _ hSw
    go_simp <;> first | with_reducible rfl | assumption
  show wpAnyH Try.prog .any mops Q S 11 #[true, true, true, true, true, true, true, true, true, true, true, true, true, true, true, true, true, false, false, false, false, false, false, false, false, false, false, false] { tmps := #[pv, sv, .pointer (some ⟨g, 0, none⟩), .pointer (some ⟨g + 1, 0, none⟩), .bool false, u, .pointer (some ⟨g + 1, 0, none⟩), .int .u8 2, .bool true, .bool true, .pointer (some ⟨g + 1, 0, none⟩), .int .u8 2, .bool false, .bool false, .bool false, .pointer (some ⟨g + 1, 1, none⟩), .int .i64 (t : Int), .bool false, .bool false, .bool false, .pointer (some ⟨g + 1, 1, none⟩), .int .i64 (t : Int), .agg #[.int .i64 k, .int .i64 r, .int .i64 c, .int .i64 q], u, u, u, u, u, u, u, u, u, u, u, u, u, u, u, u, u, u, u, u, u, u, u, u, u, u, u, u, u, u, u, u, u, u], defers := [] } w1.drew
  refine wpAnyH_ready (rs := [17]) (by kernel_rfl) (by simp) ?_
  refine AllReadyH.cons (o := { dst := some 23, op := Op.call { callee := Callee.value (Operand.func 52), args := #[Operand.tmp 22], argTypes := #[23] }, type := 3, pos := "ref.go:37", after := #[{ on := 16, ground := Ground.data }, { on := 13, ground := Ground.chain }, { on := 13, ground := Ground.guard }], guard := some (13, false) }) rfl (fun K hK => ?_) AllReadyH.nil
  go_simp
  refine (HN _).mono ?_
  rintro e wa ⟨rfl, ha⟩
  refine hK.out _ _ (HS.out _ (below_then hb ha)) (fun hHeld2 => ?_)
  replace hb : Below w1.heap.size w1 wa := (below_then hb ha)
  clear hK K hHeld
  have hHeld := hHeld2
  clear hHeld2
  show wpAnyH Try.prog .any mops Q S 10 #[true, true, true, true, true, true, true, true, true, true, true, true, true, true, true, true, true, true, false, false, false, false, false, false, false, false, false, false] { tmps := #[pv, sv, .pointer (some ⟨g, 0, none⟩), .pointer (some ⟨g + 1, 0, none⟩), .bool false, u, .pointer (some ⟨g + 1, 0, none⟩), .int .u8 2, .bool true, .bool true, .pointer (some ⟨g + 1, 0, none⟩), .int .u8 2, .bool false, .bool false, .bool false, .pointer (some ⟨g + 1, 1, none⟩), .int .i64 (t : Int), .bool false, .bool false, .bool false, .pointer (some ⟨g + 1, 1, none⟩), .int .i64 (t : Int), .agg #[.int .i64 k, .int .i64 r, .int .i64 c, .int .i64 q], .int .i64 (N : Int), u, u, u, u, u, u, u, u, u, u, u, u, u, u, u, u, u, u, u, u, u, u, u, u, u, u, u, u, u, u, u, u, u], defers := [] } wa
  refine wpAnyH_take (i := 18) (oi := { dst := some 24, op := Op.binOp BinOp.geq 3 (Operand.tmp 21) (Operand.tmp 23) 3, type := 4, pos := "ref.go:37", after := #[{ on := 15, ground := Ground.data }, { on := 17, ground := Ground.data }, { on := 13, ground := Ground.guard }], guard := some (13, false) }) (v := .bool false) rfl (by kernel_rfl) (by kernel_rfl) (by kernel_rfl) (fun _ _ _ h => (hQp _ _ _ h).elim) (Or.inl ⟨by kernel_rfl, ?_⟩) (HS.out _ hb) ?_
  · intro w' hSw
    obtain ⟨s0, s1, s2, s3, s4, s5, s6⟩ := HS1.out _ hSw
    go_simp <;> first | with_reducible rfl | assumption
  refine wpAnyH_take (i := 19) (oi := { dst := some 25, op := Op.pick (Operand.tmp 19) (Operand.const (Value.bool true)) (Operand.tmp 24), type := 4, pos := "ref.go:37", after := #[{ on := 13, ground := Ground.data }, { on := 18, ground := Ground.data }], guard := none }) (v := .bool false) rfl (by kernel_rfl) (by kernel_rfl) (by kernel_rfl) (fun _ _ _ h => (hQp _ _ _ h).elim) (Or.inl ⟨by kernel_rfl, ?_⟩) (HS.out _ hb) ?_
  · intro w' hSw
    obtain ⟨s0, s1, s2, s3, s4, s5, s6⟩ := HS1.out _ hSw
    go_simp <;> first | with_reducible rfl | assumption
  show wpAnyH Try.prog .any mops Q S 8 #[true, true, true, true, true, true, true, true, true, true, true, true, true, true, true, true, true, true, true, true, false, false, false, false, false, false, false, false] { tmps := #[pv, sv, .pointer (some ⟨g, 0, none⟩), .pointer (some ⟨g + 1, 0, none⟩), .bool false, u, .pointer (some ⟨g + 1, 0, none⟩), .int .u8 2, .bool true, .bool true, .pointer (some ⟨g + 1, 0, none⟩), .int .u8 2, .bool false, .bool false, .bool false, .pointer (some ⟨g + 1, 1, none⟩), .int .i64 (t : Int), .bool false, .bool false, .bool false, .pointer (some ⟨g + 1, 1, none⟩), .int .i64 (t : Int), .agg #[.int .i64 k, .int .i64 r, .int .i64 c, .int .i64 q], .int .i64 (N : Int), .bool false, .bool false, u, u, u, u, u, u, u, u, u, u, u, u, u, u, u, u, u, u, u, u, u, u, u, u, u, u, u, u, u, u, u], defers := [] } wa
  refine wpAnyH_take (i := 20) (oi := { dst := some 26, op := Op.move (Operand.tmp 25), type := 4, pos := "ref.go:37", after := #[{ on := 19, ground := Ground.data }, { on := 17, ground := Ground.chain }], guard := none }) (v := .bool false) rfl (by kernel_rfl) (by kernel_rfl) (by kernel_rfl) (fun _ _ _ h => (hQp _ _ _ h).elim) (Or.inl ⟨by kernel_rfl, ?_⟩) (HS.out _ hb) ?_
  · intro w' hSw
    obtain ⟨s0, s1, s2, s3, s4, s5, s6⟩ := HS1.out _ hSw
    go_simp <;> first | with_reducible rfl | assumption
  refine wpAnyH_take (i := 21) (oi := { dst := some 27, op := Op.fieldAddr 68 (Operand.tmp 3) 5, type := 0, pos := "ref.go:37", after := #[{ on := 20, ground := Ground.guard }], guard := some (20, false) }) (v := .pointer (some ⟨g + 1, 5, none⟩)) rfl (by kernel_rfl) (by kernel_rfl) (by kernel_rfl) (fun _ _ _ h => (hQp _ _ _ h).elim) (Or.inl ⟨by kernel_rfl, ?_⟩) (HS.out _ hb) ?_
  · intro w' hSw
    obtain ⟨s0, s1, s2, s3, s4, s5, s6⟩ := HS1.out _ hSw
    go_simp <;> first | with_reducible rfl | assumption
  refine wpAnyH_take (i := 22) (oi := { dst := some 28, op := Op.load 45 (Operand.tmp 27), type := 45, pos := "ref.go:37", after := #[{ on := 21, ground := Ground.data }, { on := 20, ground := Ground.guard }], guard := some (20, false) }) (v := .slice bo dn cb) rfl (by kernel_rfl) (by kernel_rfl) (by kernel_rfl) (fun _ _ _ h => (hQp _ _ _ h).elim) (Or.inl ⟨by kernel_rfl, ?_⟩) (HS.out _ hb) ?_
  · intro w' hSw
    obtain ⟨s0, s1, s2, s3, s4, s5, s6⟩ := HS1.out _ hSw
    go_simp <;> first | with_reducible rfl | assumption
  refine wpAnyH_take (i := 23) (oi := { dst := some 29, op := Op.call { callee := Callee.builtin Builtin.len, args := #[Operand.tmp 28], argTypes := #[45] }, type := 3, pos := "ref.go:37", after := #[{ on := 22, ground := Ground.data }, { on := 20, ground := Ground.guard }], guard := some (20, false) }) (v := .int .i64 (dn : Int)) rfl (by kernel_rfl) (by kernel_rfl) (by kernel_rfl) (fun _ _ _ h => (hQp _ _ _ h).elim) (Or.inl ⟨by kernel_rfl, ?_⟩) (HS.out _ hb) ?_
  · intro w' hSw
    obtain ⟨s0, s1, s2, s3, s4, s5, s6⟩ := HS1.out _ hSw
    go_simp <;> first | with_reducible rfl | assumption
  show wpAnyH Try.prog .any mops Q S 4 #[true, true, true, true, true, true, true, true, true, true, true, true, true, true, true, true, true, true, true, true, true, true, true, true, false, false, false, false] { tmps := #[pv, sv, .pointer (some ⟨g, 0, none⟩), .pointer (some ⟨g + 1, 0, none⟩), .bool false, u, .pointer (some ⟨g + 1, 0, none⟩), .int .u8 2, .bool true, .bool true, .pointer (some ⟨g + 1, 0, none⟩), .int .u8 2, .bool false, .bool false, .bool false, .pointer (some ⟨g + 1, 1, none⟩), .int .i64 (t : Int), .bool false, .bool false, .bool false, .pointer (some ⟨g + 1, 1, none⟩), .int .i64 (t : Int), .agg #[.int .i64 k, .int .i64 r, .int .i64 c, .int .i64 q], .int .i64 (N : Int), .bool false, .bool false, .bool false, .pointer (some ⟨g + 1, 5, none⟩), .slice bo dn cb, .int .i64 (dn : Int), u, u, u, u, u, u, u, u, u, u, u, u, u, u, u, u, u, u, u, u, u, u, u, u, u, u, u], defers := [] } wa
  refine wpAnyH_take (i := 24) (oi := { dst := some 30, op := Op.fieldAddr 23 (Operand.tmp 2) 2, type := 0, pos := "ref.go:37", after := #[{ on := 20, ground := Ground.guard }], guard := some (20, false) }) (v := .pointer (some ⟨g, 2, none⟩)) rfl (by kernel_rfl) (by kernel_rfl) (by kernel_rfl) (fun _ _ _ h => (hQp _ _ _ h).elim) (Or.inl ⟨by kernel_rfl, ?_⟩) (HS.out _ hb) ?_
  · intro w' hSw
    obtain ⟨s0, s1, s2, s3, s4, s5, s6⟩ := HS1.out _ hSw
    go_simp <;> first | with_reducible rfl | assumption
  refine wpAnyH_take (i := 25) (oi := { dst := some 31, op := Op.load 3 (Operand.tmp 30), type := 3, pos := "ref.go:37", after := #[{ on := 24, ground := Ground.data }, { on := 20, ground := Ground.guard }], guard := some (20, false) }) (v := .int .i64 c) rfl (by kernel_rfl) (by kernel_rfl) (by kernel_rfl) (fun _ _ _ h => (hQp _ _ _ h).elim) (Or.inl ⟨by kernel_rfl, ?_⟩) (HS.out _ hb) ?_
  · intro w' hSw
    obtain ⟨s0, s1, s2, s3, s4, s5, s6⟩ := HS1.out _ hSw
    go_simp <;> first | with_reducible rfl | assumption
  refine wpAnyH_take (i := 26) (oi := { dst := some 32, op := Op.binOp BinOp.neq 3 (Operand.tmp 29) (Operand.tmp 31) 3, type := 4, pos := "ref.go:37", after := #[{ on := 23, ground := Ground.data }, { on := 25, ground := Ground.data }, { on := 20, ground := Ground.guard }], guard := some (20, false) }) (v := .bool false) rfl (by kernel_rfl) (by kernel_rfl) (by kernel_rfl) (fun _ _ _ h => (hQp _ _ _ h).elim) (Or.inl ⟨by kernel_rfl, ?_⟩) (HS.out _ hb) ?_
  · intro w' hSw
    obtain ⟨s0, s1, s2, s3, s4, s5, s6⟩ := HS1.out _ hSw
    go_simp <;> first | with_reducible rfl | assumption
  refine wpAnyH_take (i := 27) (oi := { dst := some 33, op := Op.pick (Operand.tmp 26) (Operand.const (Value.bool true)) (Operand.tmp 32), type := 4, pos := "ref.go:37", after := #[{ on := 20, ground := Ground.data }, { on := 26, ground := Ground.data }], guard := none }) (v := .bool false) rfl (by kernel_rfl) (by kernel_rfl) (by kernel_rfl) (fun _ _ _ h => (hQp _ _ _ h).elim) (Or.inl ⟨by kernel_rfl, ?_⟩) (HS.out _ hb) ?_
  · intro w' hSw
    obtain ⟨s0, s1, s2, s3, s4, s5, s6⟩ := HS1.out _ hSw
    go_simp <;> first | with_reducible rfl | assumption
  show wpAnyH Try.prog .any mops Q S 0 #[true, true, true, true, true, true, true, true, true, true, true, true, true, true, true, true, true, true, true, true, true, true, true, true, true, true, true, true] { tmps := #[pv, sv, .pointer (some ⟨g, 0, none⟩), .pointer (some ⟨g + 1, 0, none⟩), .bool false, u, .pointer (some ⟨g + 1, 0, none⟩), .int .u8 2, .bool true, .bool true, .pointer (some ⟨g + 1, 0, none⟩), .int .u8 2, .bool false, .bool false, .bool false, .pointer (some ⟨g + 1, 1, none⟩), .int .i64 (t : Int), .bool false, .bool false, .bool false, .pointer (some ⟨g + 1, 1, none⟩), .int .i64 (t : Int), .agg #[.int .i64 k, .int .i64 r, .int .i64 c, .int .i64 q], .int .i64 (N : Int), .bool false, .bool false, .bool false, .pointer (some ⟨g + 1, 5, none⟩), .slice bo dn cb, .int .i64 (dn : Int), .pointer (some ⟨g, 2, none⟩), .int .i64 c, .bool false, .bool false, u, u, u, u, u, u, u, u, u, u, u, u, u, u, u, u, u, u, u, u, u, u, u], defers := [] } wa
  refine wpAnyH_done (by kernel_rfl) ?_ _
  exact HQ.out _ hb
end Go.Proofs.Ytmlnbnbgkpbjeaa
