/- The last look of the document's Refs, as a region of its own. -/
import Derived.Test.YtjncnojplkljnaaDeD
namespace Go.Proofs.Ytjncnojplkljnaa
open Go.RowKit
def rrops : Array Oper := #[{ dst := some 30, op := Op.load 24 (Operand.tmp 3), type := 24, pos := "ref.go:166", after := #[], guard := none }, { dst := some 31, op := Op.move (Operand.tmp 8), type := 28, pos := "ref.go:166", after := #[], guard := none }, { dst := some 32, op := Op.call { callee := Callee.value (Operand.func 42), args := #[Operand.tmp 30, Operand.tmp 31], argTypes := #[24, 28] }, type := 4, pos := "ref.go:166", after := #[{ on := 0, ground := Ground.data }, { on := 1, ground := Ground.data }], guard := none }, { dst := some 33, op := Op.unOp UnOp.not 4 (Operand.tmp 32), type := 4, pos := "ref.go:166", after := #[{ on := 2, ground := Ground.data }], guard := none }, { dst := some 34, op := Op.move (Operand.tmp 33), type := 4, pos := "ref.go:166", after := #[{ on := 3, ground := Ground.data }, { on := 2, ground := Ground.chain }], guard := none }, { dst := some 35, op := Op.load 24 (Operand.tmp 3), type := 24, pos := "ref.go:166", after := #[{ on := 4, ground := Ground.guard }], guard := some (4, false) }, { dst := some 36, op := Op.move (Operand.tmp 8), type := 28, pos := "ref.go:166", after := #[{ on := 4, ground := Ground.guard }], guard := some (4, false) }, { dst := some 37, op := Op.call { callee := Callee.value (Operand.func 44), args := #[Operand.tmp 36], argTypes := #[28] }, type := 29, pos := "ref.go:166", after := #[{ on := 6, ground := Ground.data }, { on := 4, ground := Ground.chain }, { on := 4, ground := Ground.guard }], guard := some (4, false) }, { dst := some 38, op := Op.call { callee := Callee.value (Operand.func 43), args := #[Operand.tmp 35, Operand.tmp 37], argTypes := #[24, 29] }, type := 29, pos := "ref.go:166", after := #[{ on := 5, ground := Ground.data }, { on := 7, ground := Ground.data }, { on := 7, ground := Ground.chain }, { on := 4, ground := Ground.guard }], guard := some (4, false) }, { dst := some 39, op := Op.convert 29 9 (Operand.tmp 38), type := 9, pos := "ref.go:166", after := #[{ on := 8, ground := Ground.data }, { on := 4, ground := Ground.guard }], guard := some (4, false) }, { dst := some 40, op := Op.move (Operand.tmp 1), type := 29, pos := "ref.go:166", after := #[{ on := 4, ground := Ground.guard }], guard := some (4, false) }, { dst := some 41, op := Op.convert 29 9 (Operand.tmp 40), type := 9, pos := "ref.go:166", after := #[{ on := 10, ground := Ground.data }, { on := 4, ground := Ground.guard }], guard := some (4, false) }, { dst := some 42, op := Op.binOp BinOp.neq 9 (Operand.tmp 39) (Operand.tmp 41) 9, type := 4, pos := "ref.go:166", after := #[{ on := 9, ground := Ground.data }, { on := 11, ground := Ground.data }, { on := 4, ground := Ground.guard }], guard := some (4, false) }, { dst := some 43, op := Op.pick (Operand.tmp 34) (Operand.const (Value.bool true)) (Operand.tmp 42), type := 4, pos := "ref.go:166", after := #[{ on := 4, ground := Ground.data }, { on := 12, ground := Ground.data }], guard := none }]
set_option maxHeartbeats 8000000 in
set_option maxRecDepth 100000 in
theorem rr_no {z0 z2 z4 z5 z6 z7 z9 z10 z11 z12 z13 z14 z15 z16 z17 z18 z19 z20 z21 z22 z23 z24 z25 z26 z27 z28 z29 z44 : Value} (w1 : World) (k r c q : Int) (g W bc n : Nat) (uo bo : Option Addr) (uc : Nat) (SY : ByteArray)
    (hS : ∀ v, Below w1.heap.size w1 v → (v.cell? ⟨g, 0, none⟩ = some (.int .i64 k) ∧ v.cell? ⟨g, 1, none⟩ = some (.int .i64 r) ∧ v.cell? ⟨g, 2, none⟩ = some (.int .i64 c) ∧ v.cell? ⟨g, 3, none⟩ = some (.int .i64 q) ∧ (convert 29 9 (.slice bo W bc)).run Try.prog v = .ok (.string SY) v))
    (HC0 : ∀ v, Below w1.heap.size w1 v → Calls Try.prog 42 #[.agg #[.int .i64 k, .int .i64 r, .int .i64 c, .int .i64 q], .slice uo n uc] v fun e w' => e = .returned (.bool false) ∧ Below v.heap.size v w')
    (Q : Exit → Act → World → Prop) (hQp : ∀ ch a v, Q (.panic ch) a v → False) (hQ : ∀ w2, Below w1.heap.size w1 w2 → Q .normal { tmps := #[z0, .slice bo W bc, z2, .pointer (some ⟨g, 0, none⟩), z4, z5, z6, z7, .slice uo n uc, z9, z10, z11, z12, z13, z14, z15, z16, z17, z18, z19, z20, z21, z22, z23, z24, z25, z26, z27, z28, z29, .agg #[.int .i64 k, .int .i64 r, .int .i64 c, .int .i64 q], .slice uo n uc, .bool false, .bool true, .bool true, undef, undef, undef, undef, undef, undef, undef, undef, .bool true, z44], defers := [] } w2) :
    Code.wp Try.prog (Code.region 6 rrops true) Q { tmps := #[z0, .slice bo W bc, z2, .pointer (some ⟨g, 0, none⟩), z4, z5, z6, z7, .slice uo n uc, z9, z10, z11, z12, z13, z14, z15, z16, z17, z18, z19, z20, z21, z22, z23, z24, z25, z26, z27, z28, z29, undef, undef, undef, undef, undef, undef, undef, undef, undef, undef, undef, undef, undef, undef, z44], defers := [] } w1 := by
  have HQ : Hid (∀ w2, Below w1.heap.size w1 w2 → Q .normal { tmps := #[z0, .slice bo W bc, z2, .pointer (some ⟨g, 0, none⟩), z4, z5, z6, z7, .slice uo n uc, z9, z10, z11, z12, z13, z14, z15, z16, z17, z18, z19, z20, z21, z22, z23, z24, z25, z26, z27, z28, z29, .agg #[.int .i64 k, .int .i64 r, .int .i64 c, .int .i64 q], .slice uo n uc, .bool false, .bool true, .bool true, undef, undef, undef, undef, undef, undef, undef, undef, .bool true, z44], defers := [] } w2) := hQ
  obtain ⟨S, HS1, HS⟩ : ∃ S : World → Prop, Hid (∀ v, S v → (v.cell? ⟨g, 0, none⟩ = some (.int .i64 k) ∧ v.cell? ⟨g, 1, none⟩ = some (.int .i64 r) ∧ v.cell? ⟨g, 2, none⟩ = some (.int .i64 c) ∧ v.cell? ⟨g, 3, none⟩ = some (.int .i64 q) ∧ (convert 29 9 (.slice bo W bc)).run Try.prog v = .ok (.string SY) v)) ∧ Hid (∀ v, Below w1.heap.size w1 v → S v) := ⟨fun v => v.cell? ⟨g, 0, none⟩ = some (.int .i64 k) ∧ v.cell? ⟨g, 1, none⟩ = some (.int .i64 r) ∧ v.cell? ⟨g, 2, none⟩ = some (.int .i64 c) ∧ v.cell? ⟨g, 3, none⟩ = some (.int .i64 q) ∧ (convert 29 9 (.slice bo W bc)).run Try.prog v = .ok (.string SY) v, fun v h => h, hS⟩
  clear hS hQ
  have HC : Hid (∀ v, Below w1.heap.size w1 v → Calls Try.prog 42 #[.agg #[.int .i64 k, .int .i64 r, .int .i64 c, .int .i64 q], .slice uo n uc] v fun e w' => e = .returned (.bool false) ∧ Below v.heap.size v w') := HC0
  clear HC0
  refine wp_region_held_drew (S := S) (by kernel_rfl) (HS.out _ (below_drew _ _)) (fun hHeld => ?_)
  have hb : Below w1.heap.size w1 w1.drew := below_drew _ _
  rw [show rrops.size = 14 from by kernel_rfl, show Array.replicate 14 false = #[false, false, false, false, false, false, false, false, false, false, false, false, false, false] from by kernel_rfl]
  refine wpAnyH_take (i := 0) (oi := { dst := some 30, op := Op.load 24 (Operand.tmp 3), type := 24, pos := "ref.go:166", after := #[], guard := none }) (v := .agg #[.int .i64 k, .int .i64 r, .int .i64 c, .int .i64 q]) rfl (by kernel_rfl) (by kernel_rfl) (by kernel_rfl) (fun _ _ _ h => (hQp _ _ _ h).elim) (Or.inl ⟨by kernel_rfl, ?_⟩) (HS.out _ hb) ?_
  · intro w' hSw
    obtain ⟨s0, s1, s2, s3, s4⟩ := HS1.out _ hSw
    go_simp <;> first | with_reducible rfl | assumption
  refine wpAnyH_take (i := 1) (oi := { dst := some 31, op := Op.move (Operand.tmp 8), type := 28, pos := "ref.go:166", after := #[], guard := none }) (v := .slice uo n uc) rfl (by kernel_rfl) (by kernel_rfl) (by kernel_rfl) (fun _ _ _ h => (hQp _ _ _ h).elim) (Or.inl ⟨by kernel_rfl, ?_⟩) (HS.out _ hb) ?_
  · intro w' hSw
    obtain ⟨s0, s1, s2, s3, s4⟩ := HS1.out _ hSw
    go_simp <;> first | with_reducible rfl | assumption
  show wpAnyH Try.prog .any rrops Q S 12 #[true, true, false, false, false, false, false, false, false, false, false, false, false, false] { tmps := #[z0, .slice bo W bc, z2, .pointer (some ⟨g, 0, none⟩), z4, z5, z6, z7, .slice uo n uc, z9, z10, z11, z12, z13, z14, z15, z16, z17, z18, z19, z20, z21, z22, z23, z24, z25, z26, z27, z28, z29, .agg #[.int .i64 k, .int .i64 r, .int .i64 c, .int .i64 q], .slice uo n uc, undef, undef, undef, undef, undef, undef, undef, undef, undef, undef, undef, undef, z44], defers := [] } w1.drew
  refine wpAnyH_ready (rs := [2]) (by kernel_rfl) (by simp) ?_
  refine AllReadyH.cons (o := { dst := some 32, op := Op.call { callee := Callee.value (Operand.func 42), args := #[Operand.tmp 30, Operand.tmp 31], argTypes := #[24, 28] }, type := 4, pos := "ref.go:166", after := #[{ on := 0, ground := Ground.data }, { on := 1, ground := Ground.data }], guard := none }) rfl (fun K hK => ?_) AllReadyH.nil
  go_simp
  refine (HC.out _ hb).mono ?_
  rintro e wa ⟨rfl, ha⟩
  refine hK.out _ _ (HS.out _ (below_then hb ha)) (fun hHeld2 => ?_)
  replace hb : Below w1.heap.size w1 wa := (below_then hb ha)
  clear hK K hHeld
  have hHeld := hHeld2
  clear hHeld2
  show wpAnyH Try.prog .any rrops Q S 11 #[true, true, true, false, false, false, false, false, false, false, false, false, false, false] { tmps := #[z0, .slice bo W bc, z2, .pointer (some ⟨g, 0, none⟩), z4, z5, z6, z7, .slice uo n uc, z9, z10, z11, z12, z13, z14, z15, z16, z17, z18, z19, z20, z21, z22, z23, z24, z25, z26, z27, z28, z29, .agg #[.int .i64 k, .int .i64 r, .int .i64 c, .int .i64 q], .slice uo n uc, .bool false, undef, undef, undef, undef, undef, undef, undef, undef, undef, undef, undef, z44], defers := [] } wa
  refine wpAnyH_take (i := 3) (oi := { dst := some 33, op := Op.unOp UnOp.not 4 (Operand.tmp 32), type := 4, pos := "ref.go:166", after := #[{ on := 2, ground := Ground.data }], guard := none }) (v := .bool true) rfl (by kernel_rfl) (by kernel_rfl) (by kernel_rfl) (fun _ _ _ h => (hQp _ _ _ h).elim) (Or.inl ⟨by kernel_rfl, ?_⟩) (HS.out _ hb) ?_
  · intro w' hSw
    obtain ⟨s0, s1, s2, s3, s4⟩ := HS1.out _ hSw
    go_simp <;> first | with_reducible rfl | assumption
  show wpAnyH Try.prog .any rrops Q S 10 #[true, true, true, true, false, false, false, false, false, false, false, false, false, false] { tmps := #[z0, .slice bo W bc, z2, .pointer (some ⟨g, 0, none⟩), z4, z5, z6, z7, .slice uo n uc, z9, z10, z11, z12, z13, z14, z15, z16, z17, z18, z19, z20, z21, z22, z23, z24, z25, z26, z27, z28, z29, .agg #[.int .i64 k, .int .i64 r, .int .i64 c, .int .i64 q], .slice uo n uc, .bool false, .bool true, undef, undef, undef, undef, undef, undef, undef, undef, undef, undef, z44], defers := [] } wa
  refine wpAnyH_take (i := 4) (oi := { dst := some 34, op := Op.move (Operand.tmp 33), type := 4, pos := "ref.go:166", after := #[{ on := 3, ground := Ground.data }, { on := 2, ground := Ground.chain }], guard := none }) (v := .bool true) rfl (by kernel_rfl) (by kernel_rfl) (by kernel_rfl) (fun _ _ _ h => (hQp _ _ _ h).elim) (Or.inl ⟨by kernel_rfl, ?_⟩) (HS.out _ hb) ?_
  · intro w' hSw
    obtain ⟨s0, s1, s2, s3, s4⟩ := HS1.out _ hSw
    go_simp <;> first | with_reducible rfl | assumption
  refine wpAnyH_take (i := 5) (oi := { dst := some 35, op := Op.load 24 (Operand.tmp 3), type := 24, pos := "ref.go:166", after := #[{ on := 4, ground := Ground.guard }], guard := some (4, false) }) (v := undef) rfl (by kernel_rfl) (by kernel_rfl) (by kernel_rfl) (fun _ _ _ h => (hQp _ _ _ h).elim) (Or.inr ⟨by kernel_rfl, rfl⟩) (HS.out _ hb) ?_
  refine wpAnyH_take (i := 6) (oi := { dst := some 36, op := Op.move (Operand.tmp 8), type := 28, pos := "ref.go:166", after := #[{ on := 4, ground := Ground.guard }], guard := some (4, false) }) (v := undef) rfl (by kernel_rfl) (by kernel_rfl) (by kernel_rfl) (fun _ _ _ h => (hQp _ _ _ h).elim) (Or.inr ⟨by kernel_rfl, rfl⟩) (HS.out _ hb) ?_
  refine wpAnyH_take (i := 7) (oi := { dst := some 37, op := Op.call { callee := Callee.value (Operand.func 44), args := #[Operand.tmp 36], argTypes := #[28] }, type := 29, pos := "ref.go:166", after := #[{ on := 6, ground := Ground.data }, { on := 4, ground := Ground.chain }, { on := 4, ground := Ground.guard }], guard := some (4, false) }) (v := undef) rfl (by kernel_rfl) (by kernel_rfl) (by kernel_rfl) (fun _ _ _ h => (hQp _ _ _ h).elim) (Or.inr ⟨by kernel_rfl, rfl⟩) (HS.out _ hb) ?_
  show wpAnyH Try.prog .any rrops Q S 6 #[true, true, true, true, true, true, true, true, false, false, false, false, false, false] { tmps := #[z0, .slice bo W bc, z2, .pointer (some ⟨g, 0, none⟩), z4, z5, z6, z7, .slice uo n uc, z9, z10, z11, z12, z13, z14, z15, z16, z17, z18, z19, z20, z21, z22, z23, z24, z25, z26, z27, z28, z29, .agg #[.int .i64 k, .int .i64 r, .int .i64 c, .int .i64 q], .slice uo n uc, .bool false, .bool true, .bool true, undef, undef, undef, undef, undef, undef, undef, undef, undef, z44], defers := [] } wa
  refine wpAnyH_take (i := 8) (oi := { dst := some 38, op := Op.call { callee := Callee.value (Operand.func 43), args := #[Operand.tmp 35, Operand.tmp 37], argTypes := #[24, 29] }, type := 29, pos := "ref.go:166", after := #[{ on := 5, ground := Ground.data }, { on := 7, ground := Ground.data }, { on := 7, ground := Ground.chain }, { on := 4, ground := Ground.guard }], guard := some (4, false) }) (v := undef) rfl (by kernel_rfl) (by kernel_rfl) (by kernel_rfl) (fun _ _ _ h => (hQp _ _ _ h).elim) (Or.inr ⟨by kernel_rfl, rfl⟩) (HS.out _ hb) ?_
  refine wpAnyH_take (i := 9) (oi := { dst := some 39, op := Op.convert 29 9 (Operand.tmp 38), type := 9, pos := "ref.go:166", after := #[{ on := 8, ground := Ground.data }, { on := 4, ground := Ground.guard }], guard := some (4, false) }) (v := undef) rfl (by kernel_rfl) (by kernel_rfl) (by kernel_rfl) (fun _ _ _ h => (hQp _ _ _ h).elim) (Or.inr ⟨by kernel_rfl, rfl⟩) (HS.out _ hb) ?_
  refine wpAnyH_take (i := 10) (oi := { dst := some 40, op := Op.move (Operand.tmp 1), type := 29, pos := "ref.go:166", after := #[{ on := 4, ground := Ground.guard }], guard := some (4, false) }) (v := undef) rfl (by kernel_rfl) (by kernel_rfl) (by kernel_rfl) (fun _ _ _ h => (hQp _ _ _ h).elim) (Or.inr ⟨by kernel_rfl, rfl⟩) (HS.out _ hb) ?_
  refine wpAnyH_take (i := 11) (oi := { dst := some 41, op := Op.convert 29 9 (Operand.tmp 40), type := 9, pos := "ref.go:166", after := #[{ on := 10, ground := Ground.data }, { on := 4, ground := Ground.guard }], guard := some (4, false) }) (v := undef) rfl (by kernel_rfl) (by kernel_rfl) (by kernel_rfl) (fun _ _ _ h => (hQp _ _ _ h).elim) (Or.inr ⟨by kernel_rfl, rfl⟩) (HS.out _ hb) ?_
  show wpAnyH Try.prog .any rrops Q S 2 #[true, true, true, true, true, true, true, true, true, true, true, true, false, false] { tmps := #[z0, .slice bo W bc, z2, .pointer (some ⟨g, 0, none⟩), z4, z5, z6, z7, .slice uo n uc, z9, z10, z11, z12, z13, z14, z15, z16, z17, z18, z19, z20, z21, z22, z23, z24, z25, z26, z27, z28, z29, .agg #[.int .i64 k, .int .i64 r, .int .i64 c, .int .i64 q], .slice uo n uc, .bool false, .bool true, .bool true, undef, undef, undef, undef, undef, undef, undef, undef, undef, z44], defers := [] } wa
  refine wpAnyH_take (i := 12) (oi := { dst := some 42, op := Op.binOp BinOp.neq 9 (Operand.tmp 39) (Operand.tmp 41) 9, type := 4, pos := "ref.go:166", after := #[{ on := 9, ground := Ground.data }, { on := 11, ground := Ground.data }, { on := 4, ground := Ground.guard }], guard := some (4, false) }) (v := undef) rfl (by kernel_rfl) (by kernel_rfl) (by kernel_rfl) (fun _ _ _ h => (hQp _ _ _ h).elim) (Or.inr ⟨by kernel_rfl, rfl⟩) (HS.out _ hb) ?_
  refine wpAnyH_take (i := 13) (oi := { dst := some 43, op := Op.pick (Operand.tmp 34) (Operand.const (Value.bool true)) (Operand.tmp 42), type := 4, pos := "ref.go:166", after := #[{ on := 4, ground := Ground.data }, { on := 12, ground := Ground.data }], guard := none }) (v := .bool true) rfl (by kernel_rfl) (by kernel_rfl) (by kernel_rfl) (fun _ _ _ h => (hQp _ _ _ h).elim) (Or.inl ⟨by kernel_rfl, ?_⟩) (HS.out _ hb) ?_
  · intro w' hSw
    obtain ⟨s0, s1, s2, s3, s4⟩ := HS1.out _ hSw
    go_simp <;> first | with_reducible rfl | assumption
  show wpAnyH Try.prog .any rrops Q S 0 #[true, true, true, true, true, true, true, true, true, true, true, true, true, true] { tmps := #[z0, .slice bo W bc, z2, .pointer (some ⟨g, 0, none⟩), z4, z5, z6, z7, .slice uo n uc, z9, z10, z11, z12, z13, z14, z15, z16, z17, z18, z19, z20, z21, z22, z23, z24, z25, z26, z27, z28, z29, .agg #[.int .i64 k, .int .i64 r, .int .i64 c, .int .i64 q], .slice uo n uc, .bool false, .bool true, .bool true, undef, undef, undef, undef, undef, undef, undef, undef, .bool true, z44], defers := [] } wa
  refine wpAnyH_done (by kernel_rfl) ?_ _
  exact HQ.out _ hb
set_option maxHeartbeats 8000000 in
set_option maxRecDepth 100000 in
theorem rr_ne {z0 z2 z4 z5 z6 z7 z9 z10 z11 z12 z13 z14 z15 z16 z17 z18 z19 z20 z21 z22 z23 z24 z25 z26 z27 z28 z29 z44 : Value} (w1 : World) (k r c q : Int) (g W bc n : Nat) (uo bo : Option Addr) (uc : Nat) (SY : ByteArray) (SX : ByteArray) (H : Nat → UInt8) (hne : ¬ SX.toList = SY.toList)
    (hS : ∀ v, Below w1.heap.size w1 v → (v.cell? ⟨g, 0, none⟩ = some (.int .i64 k) ∧ v.cell? ⟨g, 1, none⟩ = some (.int .i64 r) ∧ v.cell? ⟨g, 2, none⟩ = some (.int .i64 c) ∧ v.cell? ⟨g, 3, none⟩ = some (.int .i64 q) ∧ (convert 29 9 (.slice bo W bc)).run Try.prog v = .ok (.string SY) v))
    (HC0 : ∀ v, Below w1.heap.size w1 v → Calls Try.prog 42 #[.agg #[.int .i64 k, .int .i64 r, .int .i64 c, .int .i64 q], .slice uo n uc] v fun e w' => e = .returned (.bool true) ∧ Below v.heap.size v w') (HD0 : ∀ v, Below w1.heap.size w1 v → Calls Try.prog 44 #[.slice uo n uc] v fun e w' => ∃ to tc, e = .returned (.slice to (6 * n) tc) ∧ OwU v.heap.size w' to (6 * n) tc H ∧ Below v.heap.size v w') (HE0 : ∀ v to tc, Below w1.heap.size w1 v → Bec v to (6 * n) tc H → Calls Try.prog 43 #[.agg #[.int .i64 k, .int .i64 r, .int .i64 c, .int .i64 q], .slice to (6 * n) tc] v fun e w' => ∃ g2, e = .returned (.slice (some ⟨g2, 0, none⟩) W W) ∧ (convert 29 9 (.slice (some ⟨g2, 0, none⟩) W W)).run Try.prog w' = .ok (.string SX) w' ∧ Below v.heap.size v w')
    (Q : Exit → Act → World → Prop) (hQp : ∀ ch a v, Q (.panic ch) a v → False) (hQ : ∀ w2 g2 to tc, Below w1.heap.size w1 w2 → Q .normal { tmps := #[z0, .slice bo W bc, z2, .pointer (some ⟨g, 0, none⟩), z4, z5, z6, z7, .slice uo n uc, z9, z10, z11, z12, z13, z14, z15, z16, z17, z18, z19, z20, z21, z22, z23, z24, z25, z26, z27, z28, z29, .agg #[.int .i64 k, .int .i64 r, .int .i64 c, .int .i64 q], .slice uo n uc, .bool true, .bool false, .bool false, .agg #[.int .i64 k, .int .i64 r, .int .i64 c, .int .i64 q], .slice uo n uc, .slice to (6 * n) tc, .slice (some ⟨g2, 0, none⟩) W W, .string SX, .slice bo W bc, .string SY, .bool true, .bool true, z44], defers := [] } w2) :
    Code.wp Try.prog (Code.region 6 rrops true) Q { tmps := #[z0, .slice bo W bc, z2, .pointer (some ⟨g, 0, none⟩), z4, z5, z6, z7, .slice uo n uc, z9, z10, z11, z12, z13, z14, z15, z16, z17, z18, z19, z20, z21, z22, z23, z24, z25, z26, z27, z28, z29, undef, undef, undef, undef, undef, undef, undef, undef, undef, undef, undef, undef, undef, undef, z44], defers := [] } w1 := by
  have HQ : Hid (∀ w2 g2 to tc, Below w1.heap.size w1 w2 → Q .normal { tmps := #[z0, .slice bo W bc, z2, .pointer (some ⟨g, 0, none⟩), z4, z5, z6, z7, .slice uo n uc, z9, z10, z11, z12, z13, z14, z15, z16, z17, z18, z19, z20, z21, z22, z23, z24, z25, z26, z27, z28, z29, .agg #[.int .i64 k, .int .i64 r, .int .i64 c, .int .i64 q], .slice uo n uc, .bool true, .bool false, .bool false, .agg #[.int .i64 k, .int .i64 r, .int .i64 c, .int .i64 q], .slice uo n uc, .slice to (6 * n) tc, .slice (some ⟨g2, 0, none⟩) W W, .string SX, .slice bo W bc, .string SY, .bool true, .bool true, z44], defers := [] } w2) := hQ
  obtain ⟨S, HS1, HS⟩ : ∃ S : World → Prop, Hid (∀ v, S v → (v.cell? ⟨g, 0, none⟩ = some (.int .i64 k) ∧ v.cell? ⟨g, 1, none⟩ = some (.int .i64 r) ∧ v.cell? ⟨g, 2, none⟩ = some (.int .i64 c) ∧ v.cell? ⟨g, 3, none⟩ = some (.int .i64 q) ∧ (convert 29 9 (.slice bo W bc)).run Try.prog v = .ok (.string SY) v)) ∧ Hid (∀ v, Below w1.heap.size w1 v → S v) := ⟨fun v => v.cell? ⟨g, 0, none⟩ = some (.int .i64 k) ∧ v.cell? ⟨g, 1, none⟩ = some (.int .i64 r) ∧ v.cell? ⟨g, 2, none⟩ = some (.int .i64 c) ∧ v.cell? ⟨g, 3, none⟩ = some (.int .i64 q) ∧ (convert 29 9 (.slice bo W bc)).run Try.prog v = .ok (.string SY) v, fun v h => h, hS⟩
  clear hS hQ
  have HC : Hid (∀ v, Below w1.heap.size w1 v → Calls Try.prog 42 #[.agg #[.int .i64 k, .int .i64 r, .int .i64 c, .int .i64 q], .slice uo n uc] v fun e w' => e = .returned (.bool true) ∧ Below v.heap.size v w') := HC0
  clear HC0
  have HD : Hid (∀ v, Below w1.heap.size w1 v → Calls Try.prog 44 #[.slice uo n uc] v fun e w' => ∃ to tc, e = .returned (.slice to (6 * n) tc) ∧ OwU v.heap.size w' to (6 * n) tc H ∧ Below v.heap.size v w') := HD0
  have HE : Hid (∀ v to tc, Below w1.heap.size w1 v → Bec v to (6 * n) tc H → Calls Try.prog 43 #[.agg #[.int .i64 k, .int .i64 r, .int .i64 c, .int .i64 q], .slice to (6 * n) tc] v fun e w' => ∃ g2, e = .returned (.slice (some ⟨g2, 0, none⟩) W W) ∧ (convert 29 9 (.slice (some ⟨g2, 0, none⟩) W W)).run Try.prog w' = .ok (.string SX) w' ∧ Below v.heap.size v w') := HE0
  clear HD0 HE0
  refine wp_region_held_drew (S := S) (by kernel_rfl) (HS.out _ (below_drew _ _)) (fun hHeld => ?_)
  have hb : Below w1.heap.size w1 w1.drew := below_drew _ _
  rw [show rrops.size = 14 from by kernel_rfl, show Array.replicate 14 false = #[false, false, false, false, false, false, false, false, false, false, false, false, false, false] from by kernel_rfl]
  refine wpAnyH_take (i := 0) (oi := { dst := some 30, op := Op.load 24 (Operand.tmp 3), type := 24, pos := "ref.go:166", after := #[], guard := none }) (v := .agg #[.int .i64 k, .int .i64 r, .int .i64 c, .int .i64 q]) rfl (by kernel_rfl) (by kernel_rfl) (by kernel_rfl) (fun _ _ _ h => (hQp _ _ _ h).elim) (Or.inl ⟨by kernel_rfl, ?_⟩) (HS.out _ hb) ?_
  · intro w' hSw
    obtain ⟨s0, s1, s2, s3, s4⟩ := HS1.out _ hSw
    go_simp <;> first | with_reducible rfl | assumption
  refine wpAnyH_take (i := 1) (oi := { dst := some 31, op := Op.move (Operand.tmp 8), type := 28, pos := "ref.go:166", after := #[], guard := none }) (v := .slice uo n uc) rfl (by kernel_rfl) (by kernel_rfl) (by kernel_rfl) (fun _ _ _ h => (hQp _ _ _ h).elim) (Or.inl ⟨by kernel_rfl, ?_⟩) (HS.out _ hb) ?_
  · intro w' hSw
    obtain ⟨s0, s1, s2, s3, s4⟩ := HS1.out _ hSw
    go_simp <;> first | with_reducible rfl | assumption
  show wpAnyH Try.prog .any rrops Q S 12 #[true, true, false, false, false, false, false, false, false, false, false, false, false, false] { tmps := #[z0, .slice bo W bc, z2, .pointer (some ⟨g, 0, none⟩), z4, z5, z6, z7, .slice uo n uc, z9, z10, z11, z12, z13, z14, z15, z16, z17, z18, z19, z20, z21, z22, z23, z24, z25, z26, z27, z28, z29, .agg #[.int .i64 k, .int .i64 r, .int .i64 c, .int .i64 q], .slice uo n uc, undef, undef, undef, undef, undef, undef, undef, undef, undef, undef, undef, undef, z44], defers := [] } w1.drew
  refine wpAnyH_ready (rs := [2]) (by kernel_rfl) (by simp) ?_
  refine AllReadyH.cons (o := { dst := some 32, op := Op.call { callee := Callee.value (Operand.func 42), args := #[Operand.tmp 30, Operand.tmp 31], argTypes := #[24, 28] }, type := 4, pos := "ref.go:166", after := #[{ on := 0, ground := Ground.data }, { on := 1, ground := Ground.data }], guard := none }) rfl (fun K hK => ?_) AllReadyH.nil
  go_simp
  refine (HC.out _ hb).mono ?_
  rintro e wa ⟨rfl, ha⟩
  refine hK.out _ _ (HS.out _ (below_then hb ha)) (fun hHeld2 => ?_)
  replace hb : Below w1.heap.size w1 wa := (below_then hb ha)
  clear hK K hHeld
  have hHeld := hHeld2
  clear hHeld2
  show wpAnyH Try.prog .any rrops Q S 11 #[true, true, true, false, false, false, false, false, false, false, false, false, false, false] { tmps := #[z0, .slice bo W bc, z2, .pointer (some ⟨g, 0, none⟩), z4, z5, z6, z7, .slice uo n uc, z9, z10, z11, z12, z13, z14, z15, z16, z17, z18, z19, z20, z21, z22, z23, z24, z25, z26, z27, z28, z29, .agg #[.int .i64 k, .int .i64 r, .int .i64 c, .int .i64 q], .slice uo n uc, .bool true, undef, undef, undef, undef, undef, undef, undef, undef, undef, undef, undef, z44], defers := [] } wa
  refine wpAnyH_take (i := 3) (oi := { dst := some 33, op := Op.unOp UnOp.not 4 (Operand.tmp 32), type := 4, pos := "ref.go:166", after := #[{ on := 2, ground := Ground.data }], guard := none }) (v := .bool false) rfl (by kernel_rfl) (by kernel_rfl) (by kernel_rfl) (fun _ _ _ h => (hQp _ _ _ h).elim) (Or.inl ⟨by kernel_rfl, ?_⟩) (HS.out _ hb) ?_
  · intro w' hSw
    obtain ⟨s0, s1, s2, s3, s4⟩ := HS1.out _ hSw
    go_simp <;> first | with_reducible rfl | assumption
  show wpAnyH Try.prog .any rrops Q S 10 #[true, true, true, true, false, false, false, false, false, false, false, false, false, false] { tmps := #[z0, .slice bo W bc, z2, .pointer (some ⟨g, 0, none⟩), z4, z5, z6, z7, .slice uo n uc, z9, z10, z11, z12, z13, z14, z15, z16, z17, z18, z19, z20, z21, z22, z23, z24, z25, z26, z27, z28, z29, .agg #[.int .i64 k, .int .i64 r, .int .i64 c, .int .i64 q], .slice uo n uc, .bool true, .bool false, undef, undef, undef, undef, undef, undef, undef, undef, undef, undef, z44], defers := [] } wa
  refine wpAnyH_take (i := 4) (oi := { dst := some 34, op := Op.move (Operand.tmp 33), type := 4, pos := "ref.go:166", after := #[{ on := 3, ground := Ground.data }, { on := 2, ground := Ground.chain }], guard := none }) (v := .bool false) rfl (by kernel_rfl) (by kernel_rfl) (by kernel_rfl) (fun _ _ _ h => (hQp _ _ _ h).elim) (Or.inl ⟨by kernel_rfl, ?_⟩) (HS.out _ hb) ?_
  · intro w' hSw
    obtain ⟨s0, s1, s2, s3, s4⟩ := HS1.out _ hSw
    go_simp <;> first | with_reducible rfl | assumption
  refine wpAnyH_take (i := 5) (oi := { dst := some 35, op := Op.load 24 (Operand.tmp 3), type := 24, pos := "ref.go:166", after := #[{ on := 4, ground := Ground.guard }], guard := some (4, false) }) (v := .agg #[.int .i64 k, .int .i64 r, .int .i64 c, .int .i64 q]) rfl (by kernel_rfl) (by kernel_rfl) (by kernel_rfl) (fun _ _ _ h => (hQp _ _ _ h).elim) (Or.inl ⟨by kernel_rfl, ?_⟩) (HS.out _ hb) ?_
  · intro w' hSw
    obtain ⟨s0, s1, s2, s3, s4⟩ := HS1.out _ hSw
    go_simp <;> first | with_reducible rfl | assumption
  refine wpAnyH_take (i := 6) (oi := { dst := some 36, op := Op.move (Operand.tmp 8), type := 28, pos := "ref.go:166", after := #[{ on := 4, ground := Ground.guard }], guard := some (4, false) }) (v := .slice uo n uc) rfl (by kernel_rfl) (by kernel_rfl) (by kernel_rfl) (fun _ _ _ h => (hQp _ _ _ h).elim) (Or.inl ⟨by kernel_rfl, ?_⟩) (HS.out _ hb) ?_
  · intro w' hSw
    obtain ⟨s0, s1, s2, s3, s4⟩ := HS1.out _ hSw
    go_simp <;> first | with_reducible rfl | assumption
  refine wpAnyH_take (i := 10) (oi := { dst := some 40, op := Op.move (Operand.tmp 1), type := 29, pos := "ref.go:166", after := #[{ on := 4, ground := Ground.guard }], guard := some (4, false) }) (v := .slice bo W bc) rfl (by kernel_rfl) (by kernel_rfl) (by kernel_rfl) (fun _ _ _ h => (hQp _ _ _ h).elim) (Or.inl ⟨by kernel_rfl, ?_⟩) (HS.out _ hb) ?_
  · intro w' hSw
    obtain ⟨s0, s1, s2, s3, s4⟩ := HS1.out _ hSw
    go_simp <;> first | with_reducible rfl | assumption
  show wpAnyH Try.prog .any rrops Q S 6 #[true, true, true, true, true, true, true, false, false, false, true, false, false, false] { tmps := #[z0, .slice bo W bc, z2, .pointer (some ⟨g, 0, none⟩), z4, z5, z6, z7, .slice uo n uc, z9, z10, z11, z12, z13, z14, z15, z16, z17, z18, z19, z20, z21, z22, z23, z24, z25, z26, z27, z28, z29, .agg #[.int .i64 k, .int .i64 r, .int .i64 c, .int .i64 q], .slice uo n uc, .bool true, .bool false, .bool false, .agg #[.int .i64 k, .int .i64 r, .int .i64 c, .int .i64 q], .slice uo n uc, undef, undef, undef, .slice bo W bc, undef, undef, undef, z44], defers := [] } wa
  refine wpAnyH_take (i := 11) (oi := { dst := some 41, op := Op.convert 29 9 (Operand.tmp 40), type := 9, pos := "ref.go:166", after := #[{ on := 10, ground := Ground.data }, { on := 4, ground := Ground.guard }], guard := some (4, false) }) (v := .string SY) rfl (by kernel_rfl) (by kernel_rfl) (by kernel_rfl) (fun _ _ _ h => (hQp _ _ _ h).elim) (Or.inl ⟨by kernel_rfl, ?_⟩) (HS.out _ hb) ?_
  · intro w' hSw
    obtain ⟨s0, s1, s2, s3, s4⟩ := HS1.out _ hSw
    go_simp <;> first | with_reducible rfl | assumption
  show wpAnyH Try.prog .any rrops Q S 5 #[true, true, true, true, true, true, true, false, false, false, true, true, false, false] { tmps := #[z0, .slice bo W bc, z2, .pointer (some ⟨g, 0, none⟩), z4, z5, z6, z7, .slice uo n uc, z9, z10, z11, z12, z13, z14, z15, z16, z17, z18, z19, z20, z21, z22, z23, z24, z25, z26, z27, z28, z29, .agg #[.int .i64 k, .int .i64 r, .int .i64 c, .int .i64 q], .slice uo n uc, .bool true, .bool false, .bool false, .agg #[.int .i64 k, .int .i64 r, .int .i64 c, .int .i64 q], .slice uo n uc, undef, undef, undef, .slice bo W bc, .string SY, undef, undef, z44], defers := [] } wa
  refine wpAnyH_ready (rs := [7]) (by kernel_rfl) (by simp) ?_
  refine AllReadyH.cons (o := { dst := some 37, op := Op.call { callee := Callee.value (Operand.func 44), args := #[Operand.tmp 36], argTypes := #[28] }, type := 29, pos := "ref.go:166", after := #[{ on := 6, ground := Ground.data }, { on := 4, ground := Ground.chain }, { on := 4, ground := Ground.guard }], guard := some (4, false) }) rfl (fun K hK => ?_) AllReadyH.nil
  go_simp
  refine (HD.out _ hb).mono ?_
  rintro e wd ⟨to, tc, rfl, hto, hd⟩
  refine hK.out _ _ (HS.out _ (below_then hb hd)) (fun hHeld2 => ?_)
  replace hb : Below w1.heap.size w1 wd := (below_then hb hd)
  clear hK K hHeld
  have hHeld := hHeld2
  clear hHeld2
  show wpAnyH Try.prog .any rrops Q S 4 #[true, true, true, true, true, true, true, true, false, false, true, true, false, false] { tmps := #[z0, .slice bo W bc, z2, .pointer (some ⟨g, 0, none⟩), z4, z5, z6, z7, .slice uo n uc, z9, z10, z11, z12, z13, z14, z15, z16, z17, z18, z19, z20, z21, z22, z23, z24, z25, z26, z27, z28, z29, .agg #[.int .i64 k, .int .i64 r, .int .i64 c, .int .i64 q], .slice uo n uc, .bool true, .bool false, .bool false, .agg #[.int .i64 k, .int .i64 r, .int .i64 c, .int .i64 q], .slice uo n uc, .slice to (6 * n) tc, undef, undef, .slice bo W bc, .string SY, undef, undef, z44], defers := [] } wd
  refine wpAnyH_ready (rs := [8]) (by kernel_rfl) (by simp) ?_
  refine AllReadyH.cons (o := { dst := some 38, op := Op.call { callee := Callee.value (Operand.func 43), args := #[Operand.tmp 35, Operand.tmp 37], argTypes := #[24, 29] }, type := 29, pos := "ref.go:166", after := #[{ on := 5, ground := Ground.data }, { on := 7, ground := Ground.data }, { on := 7, ground := Ground.chain }, { on := 4, ground := Ground.guard }], guard := some (4, false) }) rfl (fun K hK => ?_) AllReadyH.nil
  go_simp
  refine (HE.out _ to tc hb hto.bec).mono ?_
  rintro e we ⟨g2, rfl, hv, he⟩
  refine hK.out _ _ (HS.out _ (below_then hb he)) (fun hHeld2 => ?_)
  replace hb : Below w1.heap.size w1 we := (below_then hb he)
  clear hK K hHeld
  have hHeld := hHeld2
  clear hHeld2
  show wpAnyH Try.prog .any rrops Q S 3 #[true, true, true, true, true, true, true, true, true, false, true, true, false, false] { tmps := #[z0, .slice bo W bc, z2, .pointer (some ⟨g, 0, none⟩), z4, z5, z6, z7, .slice uo n uc, z9, z10, z11, z12, z13, z14, z15, z16, z17, z18, z19, z20, z21, z22, z23, z24, z25, z26, z27, z28, z29, .agg #[.int .i64 k, .int .i64 r, .int .i64 c, .int .i64 q], .slice uo n uc, .bool true, .bool false, .bool false, .agg #[.int .i64 k, .int .i64 r, .int .i64 c, .int .i64 q], .slice uo n uc, .slice to (6 * n) tc, .slice (some ⟨g2, 0, none⟩) W W, undef, .slice bo W bc, .string SY, undef, undef, z44], defers := [] } we
  refine wpAnyH_ready (rs := [9]) (by kernel_rfl) (by simp) ?_
  refine AllReadyH.cons (o := { dst := some 39, op := Op.convert 29 9 (Operand.tmp 38), type := 9, pos := "ref.go:166", after := #[{ on := 8, ground := Ground.data }, { on := 4, ground := Ground.guard }], guard := some (4, false) }) rfl (fun K hK => ?_) AllReadyH.nil
  go_simp
  refine hK.out _ _ (HS.out _ hb) (fun hHeld2 => ?_)
  clear hK K hHeld
  have hHeld := hHeld2
  clear hHeld2
  show wpAnyH Try.prog .any rrops Q S 2 #[true, true, true, true, true, true, true, true, true, true, true, true, false, false] { tmps := #[z0, .slice bo W bc, z2, .pointer (some ⟨g, 0, none⟩), z4, z5, z6, z7, .slice uo n uc, z9, z10, z11, z12, z13, z14, z15, z16, z17, z18, z19, z20, z21, z22, z23, z24, z25, z26, z27, z28, z29, .agg #[.int .i64 k, .int .i64 r, .int .i64 c, .int .i64 q], .slice uo n uc, .bool true, .bool false, .bool false, .agg #[.int .i64 k, .int .i64 r, .int .i64 c, .int .i64 q], .slice uo n uc, .slice to (6 * n) tc, .slice (some ⟨g2, 0, none⟩) W W, .string SX, .slice bo W bc, .string SY, undef, undef, z44], defers := [] } we
  refine wpAnyH_take (i := 12) (oi := { dst := some 42, op := Op.binOp BinOp.neq 9 (Operand.tmp 39) (Operand.tmp 41) 9, type := 4, pos := "ref.go:166", after := #[{ on := 9, ground := Ground.data }, { on := 11, ground := Ground.data }, { on := 4, ground := Ground.guard }], guard := some (4, false) }) (v := .bool true) rfl (by kernel_rfl) (by kernel_rfl) (by kernel_rfl) (fun _ _ _ h => (hQp _ _ _ h).elim) (Or.inl ⟨by kernel_rfl, ?_⟩) (HS.out _ hb) ?_
  · intro w' hSw
    obtain ⟨s0, s1, s2, s3, s4⟩ := HS1.out _ hSw
    go_simp <;> first | with_reducible rfl | assumption
  refine wpAnyH_take (i := 13) (oi := { dst := some 43, op := Op.pick (Operand.tmp 34) (Operand.const (Value.bool true)) (Operand.tmp 42), type := 4, pos := "ref.go:166", after := #[{ on := 4, ground := Ground.data }, { on := 12, ground := Ground.data }], guard := none }) (v := .bool true) rfl (by kernel_rfl) (by kernel_rfl) (by kernel_rfl) (fun _ _ _ h => (hQp _ _ _ h).elim) (Or.inl ⟨by kernel_rfl, ?_⟩) (HS.out _ hb) ?_
  · intro w' hSw
    obtain ⟨s0, s1, s2, s3, s4⟩ := HS1.out _ hSw
    go_simp <;> first | with_reducible rfl | assumption
  show wpAnyH Try.prog .any rrops Q S 0 #[true, true, true, true, true, true, true, true, true, true, true, true, true, true] { tmps := #[z0, .slice bo W bc, z2, .pointer (some ⟨g, 0, none⟩), z4, z5, z6, z7, .slice uo n uc, z9, z10, z11, z12, z13, z14, z15, z16, z17, z18, z19, z20, z21, z22, z23, z24, z25, z26, z27, z28, z29, .agg #[.int .i64 k, .int .i64 r, .int .i64 c, .int .i64 q], .slice uo n uc, .bool true, .bool false, .bool false, .agg #[.int .i64 k, .int .i64 r, .int .i64 c, .int .i64 q], .slice uo n uc, .slice to (6 * n) tc, .slice (some ⟨g2, 0, none⟩) W W, .string SX, .slice bo W bc, .string SY, .bool true, .bool true, z44], defers := [] } we
  refine wpAnyH_done (by kernel_rfl) ?_ _
  exact HQ.out _ g2 to tc hb
set_option maxHeartbeats 8000000 in
set_option maxRecDepth 100000 in
theorem rr_eq {z0 z2 z4 z5 z6 z7 z9 z10 z11 z12 z13 z14 z15 z16 z17 z18 z19 z20 z21 z22 z23 z24 z25 z26 z27 z28 z29 z44 : Value} (w1 : World) (k r c q : Int) (g W bc n : Nat) (uo bo : Option Addr) (uc : Nat) (SY : ByteArray) (SX : ByteArray) (H : Nat → UInt8) (heq : SX.toList = SY.toList)
    (hS : ∀ v, Below w1.heap.size w1 v → (v.cell? ⟨g, 0, none⟩ = some (.int .i64 k) ∧ v.cell? ⟨g, 1, none⟩ = some (.int .i64 r) ∧ v.cell? ⟨g, 2, none⟩ = some (.int .i64 c) ∧ v.cell? ⟨g, 3, none⟩ = some (.int .i64 q) ∧ (convert 29 9 (.slice bo W bc)).run Try.prog v = .ok (.string SY) v))
    (HC0 : ∀ v, Below w1.heap.size w1 v → Calls Try.prog 42 #[.agg #[.int .i64 k, .int .i64 r, .int .i64 c, .int .i64 q], .slice uo n uc] v fun e w' => e = .returned (.bool true) ∧ Below v.heap.size v w') (HD0 : ∀ v, Below w1.heap.size w1 v → Calls Try.prog 44 #[.slice uo n uc] v fun e w' => ∃ to tc, e = .returned (.slice to (6 * n) tc) ∧ OwU v.heap.size w' to (6 * n) tc H ∧ Below v.heap.size v w') (HE0 : ∀ v to tc, Below w1.heap.size w1 v → Bec v to (6 * n) tc H → Calls Try.prog 43 #[.agg #[.int .i64 k, .int .i64 r, .int .i64 c, .int .i64 q], .slice to (6 * n) tc] v fun e w' => ∃ g2, e = .returned (.slice (some ⟨g2, 0, none⟩) W W) ∧ (convert 29 9 (.slice (some ⟨g2, 0, none⟩) W W)).run Try.prog w' = .ok (.string SX) w' ∧ Below v.heap.size v w')
    (Q : Exit → Act → World → Prop) (hQp : ∀ ch a v, Q (.panic ch) a v → False) (hQ : ∀ w2 g2 to tc, Below w1.heap.size w1 w2 → Q .normal { tmps := #[z0, .slice bo W bc, z2, .pointer (some ⟨g, 0, none⟩), z4, z5, z6, z7, .slice uo n uc, z9, z10, z11, z12, z13, z14, z15, z16, z17, z18, z19, z20, z21, z22, z23, z24, z25, z26, z27, z28, z29, .agg #[.int .i64 k, .int .i64 r, .int .i64 c, .int .i64 q], .slice uo n uc, .bool true, .bool false, .bool false, .agg #[.int .i64 k, .int .i64 r, .int .i64 c, .int .i64 q], .slice uo n uc, .slice to (6 * n) tc, .slice (some ⟨g2, 0, none⟩) W W, .string SX, .slice bo W bc, .string SY, .bool false, .bool false, z44], defers := [] } w2) :
    Code.wp Try.prog (Code.region 6 rrops true) Q { tmps := #[z0, .slice bo W bc, z2, .pointer (some ⟨g, 0, none⟩), z4, z5, z6, z7, .slice uo n uc, z9, z10, z11, z12, z13, z14, z15, z16, z17, z18, z19, z20, z21, z22, z23, z24, z25, z26, z27, z28, z29, undef, undef, undef, undef, undef, undef, undef, undef, undef, undef, undef, undef, undef, undef, z44], defers := [] } w1 := by
  have HQ : Hid (∀ w2 g2 to tc, Below w1.heap.size w1 w2 → Q .normal { tmps := #[z0, .slice bo W bc, z2, .pointer (some ⟨g, 0, none⟩), z4, z5, z6, z7, .slice uo n uc, z9, z10, z11, z12, z13, z14, z15, z16, z17, z18, z19, z20, z21, z22, z23, z24, z25, z26, z27, z28, z29, .agg #[.int .i64 k, .int .i64 r, .int .i64 c, .int .i64 q], .slice uo n uc, .bool true, .bool false, .bool false, .agg #[.int .i64 k, .int .i64 r, .int .i64 c, .int .i64 q], .slice uo n uc, .slice to (6 * n) tc, .slice (some ⟨g2, 0, none⟩) W W, .string SX, .slice bo W bc, .string SY, .bool false, .bool false, z44], defers := [] } w2) := hQ
  obtain ⟨S, HS1, HS⟩ : ∃ S : World → Prop, Hid (∀ v, S v → (v.cell? ⟨g, 0, none⟩ = some (.int .i64 k) ∧ v.cell? ⟨g, 1, none⟩ = some (.int .i64 r) ∧ v.cell? ⟨g, 2, none⟩ = some (.int .i64 c) ∧ v.cell? ⟨g, 3, none⟩ = some (.int .i64 q) ∧ (convert 29 9 (.slice bo W bc)).run Try.prog v = .ok (.string SY) v)) ∧ Hid (∀ v, Below w1.heap.size w1 v → S v) := ⟨fun v => v.cell? ⟨g, 0, none⟩ = some (.int .i64 k) ∧ v.cell? ⟨g, 1, none⟩ = some (.int .i64 r) ∧ v.cell? ⟨g, 2, none⟩ = some (.int .i64 c) ∧ v.cell? ⟨g, 3, none⟩ = some (.int .i64 q) ∧ (convert 29 9 (.slice bo W bc)).run Try.prog v = .ok (.string SY) v, fun v h => h, hS⟩
  clear hS hQ
  have HC : Hid (∀ v, Below w1.heap.size w1 v → Calls Try.prog 42 #[.agg #[.int .i64 k, .int .i64 r, .int .i64 c, .int .i64 q], .slice uo n uc] v fun e w' => e = .returned (.bool true) ∧ Below v.heap.size v w') := HC0
  clear HC0
  have HD : Hid (∀ v, Below w1.heap.size w1 v → Calls Try.prog 44 #[.slice uo n uc] v fun e w' => ∃ to tc, e = .returned (.slice to (6 * n) tc) ∧ OwU v.heap.size w' to (6 * n) tc H ∧ Below v.heap.size v w') := HD0
  have HE : Hid (∀ v to tc, Below w1.heap.size w1 v → Bec v to (6 * n) tc H → Calls Try.prog 43 #[.agg #[.int .i64 k, .int .i64 r, .int .i64 c, .int .i64 q], .slice to (6 * n) tc] v fun e w' => ∃ g2, e = .returned (.slice (some ⟨g2, 0, none⟩) W W) ∧ (convert 29 9 (.slice (some ⟨g2, 0, none⟩) W W)).run Try.prog w' = .ok (.string SX) w' ∧ Below v.heap.size v w') := HE0
  clear HD0 HE0
  refine wp_region_held_drew (S := S) (by kernel_rfl) (HS.out _ (below_drew _ _)) (fun hHeld => ?_)
  have hb : Below w1.heap.size w1 w1.drew := below_drew _ _
  rw [show rrops.size = 14 from by kernel_rfl, show Array.replicate 14 false = #[false, false, false, false, false, false, false, false, false, false, false, false, false, false] from by kernel_rfl]
  refine wpAnyH_take (i := 0) (oi := { dst := some 30, op := Op.load 24 (Operand.tmp 3), type := 24, pos := "ref.go:166", after := #[], guard := none }) (v := .agg #[.int .i64 k, .int .i64 r, .int .i64 c, .int .i64 q]) rfl (by kernel_rfl) (by kernel_rfl) (by kernel_rfl) (fun _ _ _ h => (hQp _ _ _ h).elim) (Or.inl ⟨by kernel_rfl, ?_⟩) (HS.out _ hb) ?_
  · intro w' hSw
    obtain ⟨s0, s1, s2, s3, s4⟩ := HS1.out _ hSw
    go_simp <;> first | with_reducible rfl | assumption
  refine wpAnyH_take (i := 1) (oi := { dst := some 31, op := Op.move (Operand.tmp 8), type := 28, pos := "ref.go:166", after := #[], guard := none }) (v := .slice uo n uc) rfl (by kernel_rfl) (by kernel_rfl) (by kernel_rfl) (fun _ _ _ h => (hQp _ _ _ h).elim) (Or.inl ⟨by kernel_rfl, ?_⟩) (HS.out _ hb) ?_
  · intro w' hSw
    obtain ⟨s0, s1, s2, s3, s4⟩ := HS1.out _ hSw
    go_simp <;> first | with_reducible rfl | assumption
  show wpAnyH Try.prog .any rrops Q S 12 #[true, true, false, false, false, false, false, false, false, false, false, false, false, false] { tmps := #[z0, .slice bo W bc, z2, .pointer (some ⟨g, 0, none⟩), z4, z5, z6, z7, .slice uo n uc, z9, z10, z11, z12, z13, z14, z15, z16, z17, z18, z19, z20, z21, z22, z23, z24, z25, z26, z27, z28, z29, .agg #[.int .i64 k, .int .i64 r, .int .i64 c, .int .i64 q], .slice uo n uc, undef, undef, undef, undef, undef, undef, undef, undef, undef, undef, undef, undef, z44], defers := [] } w1.drew
  refine wpAnyH_ready (rs := [2]) (by kernel_rfl) (by simp) ?_
  refine AllReadyH.cons (o := { dst := some 32, op := Op.call { callee := Callee.value (Operand.func 42), args := #[Operand.tmp 30, Operand.tmp 31], argTypes := #[24, 28] }, type := 4, pos := "ref.go:166", after := #[{ on := 0, ground := Ground.data }, { on := 1, ground := Ground.data }], guard := none }) rfl (fun K hK => ?_) AllReadyH.nil
  go_simp
  refine (HC.out _ hb).mono ?_
  rintro e wa ⟨rfl, ha⟩
  refine hK.out _ _ (HS.out _ (below_then hb ha)) (fun hHeld2 => ?_)
  replace hb : Below w1.heap.size w1 wa := (below_then hb ha)
  clear hK K hHeld
  have hHeld := hHeld2
  clear hHeld2
  show wpAnyH Try.prog .any rrops Q S 11 #[true, true, true, false, false, false, false, false, false, false, false, false, false, false] { tmps := #[z0, .slice bo W bc, z2, .pointer (some ⟨g, 0, none⟩), z4, z5, z6, z7, .slice uo n uc, z9, z10, z11, z12, z13, z14, z15, z16, z17, z18, z19, z20, z21, z22, z23, z24, z25, z26, z27, z28, z29, .agg #[.int .i64 k, .int .i64 r, .int .i64 c, .int .i64 q], .slice uo n uc, .bool true, undef, undef, undef, undef, undef, undef, undef, undef, undef, undef, undef, z44], defers := [] } wa
  refine wpAnyH_take (i := 3) (oi := { dst := some 33, op := Op.unOp UnOp.not 4 (Operand.tmp 32), type := 4, pos := "ref.go:166", after := #[{ on := 2, ground := Ground.data }], guard := none }) (v := .bool false) rfl (by kernel_rfl) (by kernel_rfl) (by kernel_rfl) (fun _ _ _ h => (hQp _ _ _ h).elim) (Or.inl ⟨by kernel_rfl, ?_⟩) (HS.out _ hb) ?_
  · intro w' hSw
    obtain ⟨s0, s1, s2, s3, s4⟩ := HS1.out _ hSw
    go_simp <;> first | with_reducible rfl | assumption
  show wpAnyH Try.prog .any rrops Q S 10 #[true, true, true, true, false, false, false, false, false, false, false, false, false, false] { tmps := #[z0, .slice bo W bc, z2, .pointer (some ⟨g, 0, none⟩), z4, z5, z6, z7, .slice uo n uc, z9, z10, z11, z12, z13, z14, z15, z16, z17, z18, z19, z20, z21, z22, z23, z24, z25, z26, z27, z28, z29, .agg #[.int .i64 k, .int .i64 r, .int .i64 c, .int .i64 q], .slice uo n uc, .bool true, .bool false, undef, undef, undef, undef, undef, undef, undef, undef, undef, undef, z44], defers := [] } wa
  refine wpAnyH_take (i := 4) (oi := { dst := some 34, op := Op.move (Operand.tmp 33), type := 4, pos := "ref.go:166", after := #[{ on := 3, ground := Ground.data }, { on := 2, ground := Ground.chain }], guard := none }) (v := .bool false) rfl (by kernel_rfl) (by kernel_rfl) (by kernel_rfl) (fun _ _ _ h => (hQp _ _ _ h).elim) (Or.inl ⟨by kernel_rfl, ?_⟩) (HS.out _ hb) ?_
  · intro w' hSw
    obtain ⟨s0, s1, s2, s3, s4⟩ := HS1.out _ hSw
    go_simp <;> first | with_reducible rfl | assumption
  refine wpAnyH_take (i := 5) (oi := { dst := some 35, op := Op.load 24 (Operand.tmp 3), type := 24, pos := "ref.go:166", after := #[{ on := 4, ground := Ground.guard }], guard := some (4, false) }) (v := .agg #[.int .i64 k, .int .i64 r, .int .i64 c, .int .i64 q]) rfl (by kernel_rfl) (by kernel_rfl) (by kernel_rfl) (fun _ _ _ h => (hQp _ _ _ h).elim) (Or.inl ⟨by kernel_rfl, ?_⟩) (HS.out _ hb) ?_
  · intro w' hSw
    obtain ⟨s0, s1, s2, s3, s4⟩ := HS1.out _ hSw
    go_simp <;> first | with_reducible rfl | assumption
  refine wpAnyH_take (i := 6) (oi := { dst := some 36, op := Op.move (Operand.tmp 8), type := 28, pos := "ref.go:166", after := #[{ on := 4, ground := Ground.guard }], guard := some (4, false) }) (v := .slice uo n uc) rfl (by kernel_rfl) (by kernel_rfl) (by kernel_rfl) (fun _ _ _ h => (hQp _ _ _ h).elim) (Or.inl ⟨by kernel_rfl, ?_⟩) (HS.out _ hb) ?_
  · intro w' hSw
    obtain ⟨s0, s1, s2, s3, s4⟩ := HS1.out _ hSw
    go_simp <;> first | with_reducible rfl | assumption
  refine wpAnyH_take (i := 10) (oi := { dst := some 40, op := Op.move (Operand.tmp 1), type := 29, pos := "ref.go:166", after := #[{ on := 4, ground := Ground.guard }], guard := some (4, false) }) (v := .slice bo W bc) rfl (by kernel_rfl) (by kernel_rfl) (by kernel_rfl) (fun _ _ _ h => (hQp _ _ _ h).elim) (Or.inl ⟨by kernel_rfl, ?_⟩) (HS.out _ hb) ?_
  · intro w' hSw
    obtain ⟨s0, s1, s2, s3, s4⟩ := HS1.out _ hSw
    go_simp <;> first | with_reducible rfl | assumption
  show wpAnyH Try.prog .any rrops Q S 6 #[true, true, true, true, true, true, true, false, false, false, true, false, false, false] { tmps := #[z0, .slice bo W bc, z2, .pointer (some ⟨g, 0, none⟩), z4, z5, z6, z7, .slice uo n uc, z9, z10, z11, z12, z13, z14, z15, z16, z17, z18, z19, z20, z21, z22, z23, z24, z25, z26, z27, z28, z29, .agg #[.int .i64 k, .int .i64 r, .int .i64 c, .int .i64 q], .slice uo n uc, .bool true, .bool false, .bool false, .agg #[.int .i64 k, .int .i64 r, .int .i64 c, .int .i64 q], .slice uo n uc, undef, undef, undef, .slice bo W bc, undef, undef, undef, z44], defers := [] } wa
  refine wpAnyH_take (i := 11) (oi := { dst := some 41, op := Op.convert 29 9 (Operand.tmp 40), type := 9, pos := "ref.go:166", after := #[{ on := 10, ground := Ground.data }, { on := 4, ground := Ground.guard }], guard := some (4, false) }) (v := .string SY) rfl (by kernel_rfl) (by kernel_rfl) (by kernel_rfl) (fun _ _ _ h => (hQp _ _ _ h).elim) (Or.inl ⟨by kernel_rfl, ?_⟩) (HS.out _ hb) ?_
  · intro w' hSw
    obtain ⟨s0, s1, s2, s3, s4⟩ := HS1.out _ hSw
    go_simp <;> first | with_reducible rfl | assumption
  show wpAnyH Try.prog .any rrops Q S 5 #[true, true, true, true, true, true, true, false, false, false, true, true, false, false] { tmps := #[z0, .slice bo W bc, z2, .pointer (some ⟨g, 0, none⟩), z4, z5, z6, z7, .slice uo n uc, z9, z10, z11, z12, z13, z14, z15, z16, z17, z18, z19, z20, z21, z22, z23, z24, z25, z26, z27, z28, z29, .agg #[.int .i64 k, .int .i64 r, .int .i64 c, .int .i64 q], .slice uo n uc, .bool true, .bool false, .bool false, .agg #[.int .i64 k, .int .i64 r, .int .i64 c, .int .i64 q], .slice uo n uc, undef, undef, undef, .slice bo W bc, .string SY, undef, undef, z44], defers := [] } wa
  refine wpAnyH_ready (rs := [7]) (by kernel_rfl) (by simp) ?_
  refine AllReadyH.cons (o := { dst := some 37, op := Op.call { callee := Callee.value (Operand.func 44), args := #[Operand.tmp 36], argTypes := #[28] }, type := 29, pos := "ref.go:166", after := #[{ on := 6, ground := Ground.data }, { on := 4, ground := Ground.chain }, { on := 4, ground := Ground.guard }], guard := some (4, false) }) rfl (fun K hK => ?_) AllReadyH.nil
  go_simp
  refine (HD.out _ hb).mono ?_
  rintro e wd ⟨to, tc, rfl, hto, hd⟩
  refine hK.out _ _ (HS.out _ (below_then hb hd)) (fun hHeld2 => ?_)
  replace hb : Below w1.heap.size w1 wd := (below_then hb hd)
  clear hK K hHeld
  have hHeld := hHeld2
  clear hHeld2
  show wpAnyH Try.prog .any rrops Q S 4 #[true, true, true, true, true, true, true, true, false, false, true, true, false, false] { tmps := #[z0, .slice bo W bc, z2, .pointer (some ⟨g, 0, none⟩), z4, z5, z6, z7, .slice uo n uc, z9, z10, z11, z12, z13, z14, z15, z16, z17, z18, z19, z20, z21, z22, z23, z24, z25, z26, z27, z28, z29, .agg #[.int .i64 k, .int .i64 r, .int .i64 c, .int .i64 q], .slice uo n uc, .bool true, .bool false, .bool false, .agg #[.int .i64 k, .int .i64 r, .int .i64 c, .int .i64 q], .slice uo n uc, .slice to (6 * n) tc, undef, undef, .slice bo W bc, .string SY, undef, undef, z44], defers := [] } wd
  refine wpAnyH_ready (rs := [8]) (by kernel_rfl) (by simp) ?_
  refine AllReadyH.cons (o := { dst := some 38, op := Op.call { callee := Callee.value (Operand.func 43), args := #[Operand.tmp 35, Operand.tmp 37], argTypes := #[24, 29] }, type := 29, pos := "ref.go:166", after := #[{ on := 5, ground := Ground.data }, { on := 7, ground := Ground.data }, { on := 7, ground := Ground.chain }, { on := 4, ground := Ground.guard }], guard := some (4, false) }) rfl (fun K hK => ?_) AllReadyH.nil
  go_simp
  refine (HE.out _ to tc hb hto.bec).mono ?_
  rintro e we ⟨g2, rfl, hv, he⟩
  refine hK.out _ _ (HS.out _ (below_then hb he)) (fun hHeld2 => ?_)
  replace hb : Below w1.heap.size w1 we := (below_then hb he)
  clear hK K hHeld
  have hHeld := hHeld2
  clear hHeld2
  show wpAnyH Try.prog .any rrops Q S 3 #[true, true, true, true, true, true, true, true, true, false, true, true, false, false] { tmps := #[z0, .slice bo W bc, z2, .pointer (some ⟨g, 0, none⟩), z4, z5, z6, z7, .slice uo n uc, z9, z10, z11, z12, z13, z14, z15, z16, z17, z18, z19, z20, z21, z22, z23, z24, z25, z26, z27, z28, z29, .agg #[.int .i64 k, .int .i64 r, .int .i64 c, .int .i64 q], .slice uo n uc, .bool true, .bool false, .bool false, .agg #[.int .i64 k, .int .i64 r, .int .i64 c, .int .i64 q], .slice uo n uc, .slice to (6 * n) tc, .slice (some ⟨g2, 0, none⟩) W W, undef, .slice bo W bc, .string SY, undef, undef, z44], defers := [] } we
  refine wpAnyH_ready (rs := [9]) (by kernel_rfl) (by simp) ?_
  refine AllReadyH.cons (o := { dst := some 39, op := Op.convert 29 9 (Operand.tmp 38), type := 9, pos := "ref.go:166", after := #[{ on := 8, ground := Ground.data }, { on := 4, ground := Ground.guard }], guard := some (4, false) }) rfl (fun K hK => ?_) AllReadyH.nil
  go_simp
  refine hK.out _ _ (HS.out _ hb) (fun hHeld2 => ?_)
  clear hK K hHeld
  have hHeld := hHeld2
  clear hHeld2
  show wpAnyH Try.prog .any rrops Q S 2 #[true, true, true, true, true, true, true, true, true, true, true, true, false, false] { tmps := #[z0, .slice bo W bc, z2, .pointer (some ⟨g, 0, none⟩), z4, z5, z6, z7, .slice uo n uc, z9, z10, z11, z12, z13, z14, z15, z16, z17, z18, z19, z20, z21, z22, z23, z24, z25, z26, z27, z28, z29, .agg #[.int .i64 k, .int .i64 r, .int .i64 c, .int .i64 q], .slice uo n uc, .bool true, .bool false, .bool false, .agg #[.int .i64 k, .int .i64 r, .int .i64 c, .int .i64 q], .slice uo n uc, .slice to (6 * n) tc, .slice (some ⟨g2, 0, none⟩) W W, .string SX, .slice bo W bc, .string SY, undef, undef, z44], defers := [] } we
  refine wpAnyH_take (i := 12) (oi := { dst := some 42, op := Op.binOp BinOp.neq 9 (Operand.tmp 39) (Operand.tmp 41) 9, type := 4, pos := "ref.go:166", after := #[{ on := 9, ground := Ground.data }, { on := 11, ground := Ground.data }, { on := 4, ground := Ground.guard }], guard := some (4, false) }) (v := .bool false) rfl (by kernel_rfl) (by kernel_rfl) (by kernel_rfl) (fun _ _ _ h => (hQp _ _ _ h).elim) (Or.inl ⟨by kernel_rfl, ?_⟩) (HS.out _ hb) ?_
  · intro w' hSw
    obtain ⟨s0, s1, s2, s3, s4⟩ := HS1.out _ hSw
    go_simp <;> first | with_reducible rfl | assumption
  refine wpAnyH_take (i := 13) (oi := { dst := some 43, op := Op.pick (Operand.tmp 34) (Operand.const (Value.bool true)) (Operand.tmp 42), type := 4, pos := "ref.go:166", after := #[{ on := 4, ground := Ground.data }, { on := 12, ground := Ground.data }], guard := none }) (v := .bool false) rfl (by kernel_rfl) (by kernel_rfl) (by kernel_rfl) (fun _ _ _ h => (hQp _ _ _ h).elim) (Or.inl ⟨by kernel_rfl, ?_⟩) (HS.out _ hb) ?_
  · intro w' hSw
    obtain ⟨s0, s1, s2, s3, s4⟩ := HS1.out _ hSw
    go_simp <;> first | with_reducible rfl | assumption
  show wpAnyH Try.prog .any rrops Q S 0 #[true, true, true, true, true, true, true, true, true, true, true, true, true, true] { tmps := #[z0, .slice bo W bc, z2, .pointer (some ⟨g, 0, none⟩), z4, z5, z6, z7, .slice uo n uc, z9, z10, z11, z12, z13, z14, z15, z16, z17, z18, z19, z20, z21, z22, z23, z24, z25, z26, z27, z28, z29, .agg #[.int .i64 k, .int .i64 r, .int .i64 c, .int .i64 q], .slice uo n uc, .bool true, .bool false, .bool false, .agg #[.int .i64 k, .int .i64 r, .int .i64 c, .int .i64 q], .slice uo n uc, .slice to (6 * n) tc, .slice (some ⟨g2, 0, none⟩) W W, .string SX, .slice bo W bc, .string SY, .bool false, .bool false, z44], defers := [] } we
  refine wpAnyH_done (by kernel_rfl) ?_ _
  exact HQ.out _ g2 to tc hb
end Go.Proofs.Ytjncnojplkljnaa
