/- The document's answer: what Newest tells. -/
import Derived.Test.YtmdeadakbohpeaaCeT
import Derived.Test.YtmdeadakbohpeaaCeE
namespace Go.Proofs.Ytmdeadakbohpeaa
open Go.RowKit

theorem gB_pos {y : Sl} (h : 0 ≤ y.ce) : decide (0 < y.ce) = decide (¬ y.ce = 0) := decide_eq_decide.2 ⟨fun h => by omega, fun h => by omega⟩
/-- The tests of a slot: is there one, of the kind, above a version. -/
theorem gt_tests (y : Sl) (kd : UInt8) (m : Int) (hm : 0 ≤ m) (hz : 0 ≤ y.ce ∧ (y.ce = 0 → y = zSl)) : (¬ m < (ofK kd y).ce ∧ decide (¬ y.ce = 0) = false) ∨ (¬ m < (ofK kd y).ce ∧ decide (¬ y.ce = 0) = true ∧ (((y.kd.toNat : Nat) : Int) == ((kd.toNat : Nat) : Int)) = false) ∨ (¬ m < (ofK kd y).ce ∧ decide (¬ y.ce = 0) = true ∧ (((y.kd.toNat : Nat) : Int) == ((kd.toNat : Nat) : Int)) = true ∧ ¬ m < y.ce) ∨ (m < (ofK kd y).ce ∧ decide (¬ y.ce = 0) = true ∧ (((y.kd.toNat : Nat) : Int) == ((kd.toNat : Nat) : Int)) = true ∧ m < y.ce ∧ ofK kd y = y) := by
  by_cases h1 : y.ce = 0
  · refine .inl ⟨?_, decide_eq_false fun h => h h1⟩
    rw [hz.2 h1, ofK_z]
    show ¬ m < 0
    omega
  · by_cases h2 : y.kd = kd
    · have e2 : (((y.kd.toNat : Nat) : Int) == ((kd.toNat : Nat) : Int)) = true := by rw [h2]; simp
      have e3 : ofK kd y = y := by unfold ofK; rw [if_pos h2]
      rw [e3]
      by_cases h3 : m < y.ce
      · exact .inr (.inr (.inr ⟨h3, decide_eq_true h1, e2, h3, rfl⟩))
      · exact .inr (.inr (.inl ⟨h3, decide_eq_true h1, e2, h3⟩))
    · have e3 : ofK kd y = zSl := by unfold ofK; rw [if_neg h2]
      refine .inr (.inl ⟨?_, decide_eq_true h1, ?_⟩)
      · rw [e3]
        show ¬ m < 0
        omega
      · simp only [beq_eq_false_iff_ne, ne_eq, Int.natCast_inj]
        exact fun e => h2 (UInt8.toNat_inj.1 e)

def wops : Array Oper := #[{ dst := some 32, op := Op.load 23 (Operand.tmp 4), type := 23, pos := "ref.go:85", after := #[], guard := none }, { dst := some 33, op := Op.move (Operand.tmp 15), type := 3, pos := "ref.go:85", after := #[], guard := none }, { dst := some 34, op := Op.indexAddr 26 (Operand.tmp 5) (Operand.tmp 33), type := 0, pos := "ref.go:85", after := #[{ on := 1, ground := Ground.data }], guard := none }, { dst := some 35, op := Op.load 24 (Operand.tmp 34), type := 24, pos := "ref.go:85", after := #[{ on := 2, ground := Ground.data }], guard := none }, { dst := some 36, op := Op.move (Operand.tmp 3), type := 3, pos := "ref.go:85", after := #[], guard := none }, { dst := some 37, op := Op.call { callee := Callee.value (Operand.func 24), args := #[Operand.tmp 32, Operand.tmp 35, Operand.tmp 36], argTypes := #[23, 24, 3] }, type := 57, pos := "ref.go:85", after := #[{ on := 0, ground := Ground.data }, { on := 3, ground := Ground.data }, { on := 4, ground := Ground.data }], guard := none }, { dst := some 31, op := Op.move (Operand.tmp 37), type := 57, pos := "ref.go:85", after := #[{ on := 5, ground := Ground.data }], guard := none }, { dst := some 38, op := Op.extract (Operand.tmp 31) 0, type := 31, pos := "ref.go:85", after := #[{ on := 6, ground := Ground.data }], guard := none }, { dst := some 39, op := Op.extract (Operand.tmp 31) 1, type := 4, pos := "ref.go:85", after := #[{ on := 6, ground := Ground.data }, { on := 10, ground := Ground.gcOnly Departure.lateStores }], guard := none }, { dst := some 16, op := Op.alloc 31, type := 0, pos := "ref.go:85", after := #[], guard := none }, { dst := none, op := Op.store 31 (Operand.tmp 16) (Operand.tmp 38), type := 0, pos := "ref.go:85", after := #[{ on := 9, ground := Ground.data }, { on := 7, ground := Ground.data }, { on := 5, ground := Ground.chain }, { on := 0, ground := Ground.phase }, { on := 1, ground := Ground.phase }, { on := 2, ground := Ground.phase }, { on := 3, ground := Ground.phase }, { on := 4, ground := Ground.phase }, { on := 5, ground := Ground.phase }, { on := 6, ground := Ground.phase }, { on := 7, ground := Ground.phase }, { on := 8, ground := Ground.textOnly Departure.lateStores }, { on := 9, ground := Ground.phase }], guard := none }, { dst := some 17, op := Op.assign (Operand.tmp 39), type := 4, pos := "ref.go:85", after := #[{ on := 8, ground := Ground.data }, { on := 10, ground := Ground.chain }, { on := 0, ground := Ground.phase }, { on := 1, ground := Ground.phase }, { on := 2, ground := Ground.phase }, { on := 3, ground := Ground.phase }, { on := 4, ground := Ground.phase }, { on := 5, ground := Ground.phase }, { on := 6, ground := Ground.phase }, { on := 7, ground := Ground.phase }, { on := 8, ground := Ground.phase }, { on := 9, ground := Ground.phase }, { on := 10, ground := Ground.phase }], guard := none }]
set_option maxHeartbeats 8000000 in
set_option maxRecDepth 100000 in
theorem new_reg0 (w1 : World) (k r c q ix : Int) (g0 g1 : Nat) (a0 : Option Addr) (n0 c0 : Nat) (y : Sl) (b : Bool) (x0 x1 x2 x6 x7 x8 x9 x10 x11 x12 x13 x14 x16 x17 x18 x19 x20 x21 x22 x23 x24 x25 x26 x27 x28 x29 x30 x31 x32 x33 x34 x35 x36 x37 x38 x39 x40 x41 x42 x43 x44 x45 x46 x47 x48 x49 x50 x51 x52 x53 x54 x55 x56 x57 x58 x59 x60 : Value)
    (hS : ∀ v, Below w1.heap.size w1 v → (v.cell? ⟨g0, 0, none⟩ = some (.int .i64 k) ∧ v.cell? ⟨g0, 1, none⟩ = some (.int .i64 r) ∧ v.cell? ⟨g0, 2, none⟩ = some (.int .i64 c) ∧ v.cell? ⟨g0, 3, none⟩ = some (.int .i64 q) ∧ v.cell? ⟨g1, 0, none⟩ = some (.slice a0 n0 c0)))
    (P1 : ∀ v, Below w1.heap.size w1 v → Calls Try.prog 24 #[.agg #[.int .i64 k, .int .i64 r, .int .i64 c, .int .i64 q], .slice a0 n0 c0, .int .i64 ix] v fun e w' => ∃ ao ca bo cb, e = .returned (.tuple #[.agg #[.int .u8 ((y.kd.toNat : Nat) : Int), .int .i64 y.ix, .int .i64 y.ce, .int .i64 y.st, .slice ao y.vn ca, .slice bo y.dn cb], .bool b]) ∧ Got v.heap.size w' y ao ca bo cb ∧ Below v.heap.size v w')
    (Q : Exit → Act → World → Prop) (hQp : ∀ ch a v, Q (.panic ch) a v → False) (hQ : ∀ v g ao ca bo cb, Below w1.heap.size w1 v → At w1 v g #[.int .u8 ((y.kd.toNat : Nat) : Int), .int .i64 y.ix, .int .i64 y.ce, .int .i64 y.st, .slice ao y.vn ca, .slice bo y.dn cb] 31 → Got w1.heap.size v y ao ca bo cb → Q .normal { tmps := #[x0, x1, x2, .int .i64 ix, .pointer (some ⟨g0, 0, none⟩), .pointer (some ⟨g1, 0, none⟩), x6, x7, x8, x9, x10, x11, x12, x13, x14, .int .i64 0, .pointer (some ⟨g, 0, none⟩), .bool b, x18, x19, x20, x21, x22, x23, x24, x25, x26, x27, x28, x29, x30, .tuple #[.agg #[.int .u8 ((y.kd.toNat : Nat) : Int), .int .i64 y.ix, .int .i64 y.ce, .int .i64 y.st, .slice ao y.vn ca, .slice bo y.dn cb], .bool b], .agg #[.int .i64 k, .int .i64 r, .int .i64 c, .int .i64 q], .int .i64 0, .pointer (some ⟨g1, 0, none⟩), .slice a0 n0 c0, .int .i64 ix, .tuple #[.agg #[.int .u8 ((y.kd.toNat : Nat) : Int), .int .i64 y.ix, .int .i64 y.ce, .int .i64 y.st, .slice ao y.vn ca, .slice bo y.dn cb], .bool b], .agg #[.int .u8 ((y.kd.toNat : Nat) : Int), .int .i64 y.ix, .int .i64 y.ce, .int .i64 y.st, .slice ao y.vn ca, .slice bo y.dn cb], .bool b, x40, x41, x42, x43, x44, x45, x46, x47, x48, x49, x50, x51, x52, x53, x54, x55, x56, x57, x58, x59, x60], defers := [] } v) :
    Code.wp Try.prog (Code.region 9 wops true) Q { tmps := #[x0, x1, x2, .int .i64 ix, .pointer (some ⟨g0, 0, none⟩), .pointer (some ⟨g1, 0, none⟩), x6, x7, x8, x9, x10, x11, x12, x13, x14, .int .i64 0, x16, x17, x18, x19, x20, x21, x22, x23, x24, x25, x26, x27, x28, x29, x30, x31, x32, x33, x34, x35, x36, x37, x38, x39, x40, x41, x42, x43, x44, x45, x46, x47, x48, x49, x50, x51, x52, x53, x54, x55, x56, x57, x58, x59, x60], defers := [] } w1 := by
  have HQ : Hid (∀ v g ao ca bo cb, Below w1.heap.size w1 v → At w1 v g #[.int .u8 ((y.kd.toNat : Nat) : Int), .int .i64 y.ix, .int .i64 y.ce, .int .i64 y.st, .slice ao y.vn ca, .slice bo y.dn cb] 31 → Got w1.heap.size v y ao ca bo cb → Q .normal { tmps := #[x0, x1, x2, .int .i64 ix, .pointer (some ⟨g0, 0, none⟩), .pointer (some ⟨g1, 0, none⟩), x6, x7, x8, x9, x10, x11, x12, x13, x14, .int .i64 0, .pointer (some ⟨g, 0, none⟩), .bool b, x18, x19, x20, x21, x22, x23, x24, x25, x26, x27, x28, x29, x30, .tuple #[.agg #[.int .u8 ((y.kd.toNat : Nat) : Int), .int .i64 y.ix, .int .i64 y.ce, .int .i64 y.st, .slice ao y.vn ca, .slice bo y.dn cb], .bool b], .agg #[.int .i64 k, .int .i64 r, .int .i64 c, .int .i64 q], .int .i64 0, .pointer (some ⟨g1, 0, none⟩), .slice a0 n0 c0, .int .i64 ix, .tuple #[.agg #[.int .u8 ((y.kd.toNat : Nat) : Int), .int .i64 y.ix, .int .i64 y.ce, .int .i64 y.st, .slice ao y.vn ca, .slice bo y.dn cb], .bool b], .agg #[.int .u8 ((y.kd.toNat : Nat) : Int), .int .i64 y.ix, .int .i64 y.ce, .int .i64 y.st, .slice ao y.vn ca, .slice bo y.dn cb], .bool b, x40, x41, x42, x43, x44, x45, x46, x47, x48, x49, x50, x51, x52, x53, x54, x55, x56, x57, x58, x59, x60], defers := [] } v) := hQ
  obtain ⟨S, HS1, HS⟩ : ∃ S : World → Prop, Hid (∀ v, S v → (v.cell? ⟨g0, 0, none⟩ = some (.int .i64 k) ∧ v.cell? ⟨g0, 1, none⟩ = some (.int .i64 r) ∧ v.cell? ⟨g0, 2, none⟩ = some (.int .i64 c) ∧ v.cell? ⟨g0, 3, none⟩ = some (.int .i64 q) ∧ v.cell? ⟨g1, 0, none⟩ = some (.slice a0 n0 c0))) ∧ Hid (∀ v, Below w1.heap.size w1 v → S v) := ⟨fun v => v.cell? ⟨g0, 0, none⟩ = some (.int .i64 k) ∧ v.cell? ⟨g0, 1, none⟩ = some (.int .i64 r) ∧ v.cell? ⟨g0, 2, none⟩ = some (.int .i64 c) ∧ v.cell? ⟨g0, 3, none⟩ = some (.int .i64 q) ∧ v.cell? ⟨g1, 0, none⟩ = some (.slice a0 n0 c0), fun v h => h, hS⟩
  have HP1 : Hid (∀ v, Below w1.heap.size w1 v → Calls Try.prog 24 #[.agg #[.int .i64 k, .int .i64 r, .int .i64 c, .int .i64 q], .slice a0 n0 c0, .int .i64 ix] v fun e w' => ∃ ao ca bo cb, e = .returned (.tuple #[.agg #[.int .u8 ((y.kd.toNat : Nat) : Int), .int .i64 y.ix, .int .i64 y.ce, .int .i64 y.st, .slice ao y.vn ca, .slice bo y.dn cb], .bool b]) ∧ Got v.heap.size w' y ao ca bo cb ∧ Below v.heap.size v w') := P1
  clear hS hQ P1
  have H11 : Hid (∀ (v : World) (ao : Option Addr) (ca : Nat) (bo : Option Addr) (cb : Nat) (g : Nat), Below w1.heap.size w1 v → Got w1.heap.size v y ao ca bo cb → At w1 v g #[.int .u8 0, .int .i64 0, .int .i64 0, .int .i64 0, .slice none 0 0, .slice none 0 0] 31 → wpAnyH Try.prog .any wops Q S 2 #[true, true, true, true, true, true, true, true, true, true, false, false] { tmps := #[x0, x1, x2, .int .i64 ix, .pointer (some ⟨g0, 0, none⟩), .pointer (some ⟨g1, 0, none⟩), x6, x7, x8, x9, x10, x11, x12, x13, x14, .int .i64 0, .pointer (some ⟨g, 0, none⟩), x17, x18, x19, x20, x21, x22, x23, x24, x25, x26, x27, x28, x29, x30, .tuple #[.agg #[.int .u8 ((y.kd.toNat : Nat) : Int), .int .i64 y.ix, .int .i64 y.ce, .int .i64 y.st, .slice ao y.vn ca, .slice bo y.dn cb], .bool b], .agg #[.int .i64 k, .int .i64 r, .int .i64 c, .int .i64 q], .int .i64 0, .pointer (some ⟨g1, 0, none⟩), .slice a0 n0 c0, .int .i64 ix, .tuple #[.agg #[.int .u8 ((y.kd.toNat : Nat) : Int), .int .i64 y.ix, .int .i64 y.ce, .int .i64 y.st, .slice ao y.vn ca, .slice bo y.dn cb], .bool b], .agg #[.int .u8 ((y.kd.toNat : Nat) : Int), .int .i64 y.ix, .int .i64 y.ce, .int .i64 y.st, .slice ao y.vn ca, .slice bo y.dn cb], .bool b, x40, x41, x42, x43, x44, x45, x46, x47, x48, x49, x50, x51, x52, x53, x54, x55, x56, x57, x58, x59, x60], defers := [] } v) := fun v ao ca bo cb g hb hg f3 => by
    have c0 := f3.cell (i := 0) rfl
    have c1 := f3.cell (i := 1) rfl
    have c2 := f3.cell (i := 2) rfl
    have c3 := f3.cell (i := 3) rfl
    have c4 := f3.cell (i := 4) rfl
    have c5 := f3.cell (i := 5) rfl
    have cf := f3.free
    have hbb := b_lo hb f3.1 (.int .u8 ((y.kd.toNat : Nat) : Int)) (.int .i64 y.ix) (.int .i64 y.ce) (.int .i64 y.st) (.slice ao y.vn ca) (.slice bo y.dn cb)
    have ho := only_lo v g (.int .u8 ((y.kd.toNat : Nat) : Int)) (.int .i64 y.ix) (.int .i64 y.ce) (.int .i64 y.st) (.slice ao y.vn ca) (.slice bo y.dn cb)
    have hgg := hg.apart ho f3
    have hat := at_six f3 (.int .u8 ((y.kd.toNat : Nat) : Int)) (.int .i64 y.ix) (.int .i64 y.ce) (.int .i64 y.st) (.slice ao y.vn ca) (.slice bo y.dn cb)
    refine wpAnyH_ready (rs := [10]) (by kernel_rfl) (by simp) ?_
    refine AllReadyH.cons (o := { dst := none, op := Op.store 31 (Operand.tmp 16) (Operand.tmp 38), type := 0, pos := "ref.go:85", after := #[{ on := 9, ground := Ground.data }, { on := 7, ground := Ground.data }, { on := 5, ground := Ground.chain }, { on := 0, ground := Ground.phase }, { on := 1, ground := Ground.phase }, { on := 2, ground := Ground.phase }, { on := 3, ground := Ground.phase }, { on := 4, ground := Ground.phase }, { on := 5, ground := Ground.phase }, { on := 6, ground := Ground.phase }, { on := 7, ground := Ground.phase }, { on := 8, ground := Ground.textOnly Departure.lateStores }, { on := 9, ground := Ground.phase }], guard := none }) rfl (fun K hK => ?_) AllReadyH.nil
    go_simp
    refine hK.out _ _ (HS.out _ hbb) (fun hHeld => ?_)
    refine wpAnyH_take (i := 11) (oi := { dst := some 17, op := Op.assign (Operand.tmp 39), type := 4, pos := "ref.go:85", after := #[{ on := 8, ground := Ground.data }, { on := 10, ground := Ground.chain }, { on := 0, ground := Ground.phase }, { on := 1, ground := Ground.phase }, { on := 2, ground := Ground.phase }, { on := 3, ground := Ground.phase }, { on := 4, ground := Ground.phase }, { on := 5, ground := Ground.phase }, { on := 6, ground := Ground.phase }, { on := 7, ground := Ground.phase }, { on := 8, ground := Ground.phase }, { on := 9, ground := Ground.phase }, { on := 10, ground := Ground.phase }], guard := none }) (v := .bool b) rfl (by kernel_rfl) (by kernel_rfl) (by kernel_rfl) (fun _ _ _ h => (hQp _ _ _ h).elim) (Or.inl ⟨by kernel_rfl, ?_⟩) (HS.out _ hbb) ?_
    · intro w' hSw
      obtain ⟨s0, s1, s2, s3, s4⟩ := HS1.out _ hSw
      go_simp <;> first | with_reducible rfl | assumption
    refine wpAnyH_done (by kernel_rfl) ?_ _
    exact HQ.out _ g ao ca bo cb hbb hat hgg
  have H10 : Hid (∀ (v : World) (ao : Option Addr) (ca : Nat) (bo : Option Addr) (cb : Nat), Below w1.heap.size w1 v → Got w1.heap.size v y ao ca bo cb → wpAnyH Try.prog .any wops Q S 3 #[true, true, true, true, true, true, true, true, true, false, false, false] { tmps := #[x0, x1, x2, .int .i64 ix, .pointer (some ⟨g0, 0, none⟩), .pointer (some ⟨g1, 0, none⟩), x6, x7, x8, x9, x10, x11, x12, x13, x14, .int .i64 0, x16, x17, x18, x19, x20, x21, x22, x23, x24, x25, x26, x27, x28, x29, x30, .tuple #[.agg #[.int .u8 ((y.kd.toNat : Nat) : Int), .int .i64 y.ix, .int .i64 y.ce, .int .i64 y.st, .slice ao y.vn ca, .slice bo y.dn cb], .bool b], .agg #[.int .i64 k, .int .i64 r, .int .i64 c, .int .i64 q], .int .i64 0, .pointer (some ⟨g1, 0, none⟩), .slice a0 n0 c0, .int .i64 ix, .tuple #[.agg #[.int .u8 ((y.kd.toNat : Nat) : Int), .int .i64 y.ix, .int .i64 y.ce, .int .i64 y.st, .slice ao y.vn ca, .slice bo y.dn cb], .bool b], .agg #[.int .u8 ((y.kd.toNat : Nat) : Int), .int .i64 y.ix, .int .i64 y.ce, .int .i64 y.st, .slice ao y.vn ca, .slice bo y.dn cb], .bool b, x40, x41, x42, x43, x44, x45, x46, x47, x48, x49, x50, x51, x52, x53, x54, x55, x56, x57, x58, x59, x60], defers := [] } v) := fun v ao ca bo cb hb hg => by
    refine wpAnyH_ready (rs := [9]) (by kernel_rfl) (by simp) ?_
    refine AllReadyH.cons (o := { dst := some 16, op := Op.alloc 31, type := 0, pos := "ref.go:85", after := #[], guard := none }) rfl (fun K hK => ?_) AllReadyH.nil
    go_simp
    refine hK.out _ _ (HS.out _ (b_alloc hb _)) (fun hHeld => ?_)
    exact H11.out _ ao ca bo cb _ (b_alloc hb _) (hg.below (below_alloc _ _)) (at_new hb _ _)
  have H01 : Hid (∀ (v : World) (g : Nat), Below w1.heap.size w1 v → At w1 v g #[.int .u8 0, .int .i64 0, .int .i64 0, .int .i64 0, .slice none 0 0, .slice none 0 0] 31 → wpAnyH Try.prog .any wops Q S 6 #[true, true, true, true, true, false, false, false, false, true, false, false] { tmps := #[x0, x1, x2, .int .i64 ix, .pointer (some ⟨g0, 0, none⟩), .pointer (some ⟨g1, 0, none⟩), x6, x7, x8, x9, x10, x11, x12, x13, x14, .int .i64 0, .pointer (some ⟨g, 0, none⟩), x17, x18, x19, x20, x21, x22, x23, x24, x25, x26, x27, x28, x29, x30, x31, .agg #[.int .i64 k, .int .i64 r, .int .i64 c, .int .i64 q], .int .i64 0, .pointer (some ⟨g1, 0, none⟩), .slice a0 n0 c0, .int .i64 ix, x37, x38, x39, x40, x41, x42, x43, x44, x45, x46, x47, x48, x49, x50, x51, x52, x53, x54, x55, x56, x57, x58, x59, x60], defers := [] } v) := fun v g hb f3 => by
    refine wpAnyH_ready (rs := [5]) (by kernel_rfl) (by simp) ?_
    refine AllReadyH.cons (o := { dst := some 37, op := Op.call { callee := Callee.value (Operand.func 24), args := #[Operand.tmp 32, Operand.tmp 35, Operand.tmp 36], argTypes := #[23, 24, 3] }, type := 57, pos := "ref.go:85", after := #[{ on := 0, ground := Ground.data }, { on := 3, ground := Ground.data }, { on := 4, ground := Ground.data }], guard := none }) rfl (fun K hK => ?_) AllReadyH.nil
    go_simp
    refine (HP1.out _ hb).mono ?_
    rintro e w' ⟨ao, ca, bo, cb, rfl, hg, hw'⟩
    have hb' := below_then hb hw'
    have hg' := hg.mono hb.size
    refine hK.out _ _ (HS.out _ hb') (fun hHeld => ?_)
    refine wpAnyH_take (i := 6) (oi := { dst := some 31, op := Op.move (Operand.tmp 37), type := 57, pos := "ref.go:85", after := #[{ on := 5, ground := Ground.data }], guard := none }) (v := .tuple #[.agg #[.int .u8 ((y.kd.toNat : Nat) : Int), .int .i64 y.ix, .int .i64 y.ce, .int .i64 y.st, .slice ao y.vn ca, .slice bo y.dn cb], .bool b]) rfl (by kernel_rfl) (by kernel_rfl) (by kernel_rfl) (fun _ _ _ h => (hQp _ _ _ h).elim) (Or.inl ⟨by kernel_rfl, ?_⟩) (HS.out _ hb') ?_
    · intro w' hSw
      obtain ⟨s0, s1, s2, s3, s4⟩ := HS1.out _ hSw
      go_simp <;> first | with_reducible rfl | assumption
    show wpAnyH Try.prog .any wops Q S 4 #[true, true, true, true, true, true, true, false, false, true, false, false] { tmps := #[x0, x1, x2, .int .i64 ix, .pointer (some ⟨g0, 0, none⟩), .pointer (some ⟨g1, 0, none⟩), x6, x7, x8, x9, x10, x11, x12, x13, x14, .int .i64 0, .pointer (some ⟨g, 0, none⟩), x17, x18, x19, x20, x21, x22, x23, x24, x25, x26, x27, x28, x29, x30, .tuple #[.agg #[.int .u8 ((y.kd.toNat : Nat) : Int), .int .i64 y.ix, .int .i64 y.ce, .int .i64 y.st, .slice ao y.vn ca, .slice bo y.dn cb], .bool b], .agg #[.int .i64 k, .int .i64 r, .int .i64 c, .int .i64 q], .int .i64 0, .pointer (some ⟨g1, 0, none⟩), .slice a0 n0 c0, .int .i64 ix, .tuple #[.agg #[.int .u8 ((y.kd.toNat : Nat) : Int), .int .i64 y.ix, .int .i64 y.ce, .int .i64 y.st, .slice ao y.vn ca, .slice bo y.dn cb], .bool b], x38, x39, x40, x41, x42, x43, x44, x45, x46, x47, x48, x49, x50, x51, x52, x53, x54, x55, x56, x57, x58, x59, x60], defers := [] } w'
    refine wpAnyH_take (i := 7) (oi := { dst := some 38, op := Op.extract (Operand.tmp 31) 0, type := 31, pos := "ref.go:85", after := #[{ on := 6, ground := Ground.data }], guard := none }) (v := .agg #[.int .u8 ((y.kd.toNat : Nat) : Int), .int .i64 y.ix, .int .i64 y.ce, .int .i64 y.st, .slice ao y.vn ca, .slice bo y.dn cb]) rfl (by kernel_rfl) (by kernel_rfl) (by kernel_rfl) (fun _ _ _ h => (hQp _ _ _ h).elim) (Or.inl ⟨by kernel_rfl, ?_⟩) (HS.out _ hb') ?_
    · intro w' hSw
      obtain ⟨s0, s1, s2, s3, s4⟩ := HS1.out _ hSw
      go_simp <;> first | with_reducible rfl | assumption
    show wpAnyH Try.prog .any wops Q S 3 #[true, true, true, true, true, true, true, true, false, true, false, false] { tmps := #[x0, x1, x2, .int .i64 ix, .pointer (some ⟨g0, 0, none⟩), .pointer (some ⟨g1, 0, none⟩), x6, x7, x8, x9, x10, x11, x12, x13, x14, .int .i64 0, .pointer (some ⟨g, 0, none⟩), x17, x18, x19, x20, x21, x22, x23, x24, x25, x26, x27, x28, x29, x30, .tuple #[.agg #[.int .u8 ((y.kd.toNat : Nat) : Int), .int .i64 y.ix, .int .i64 y.ce, .int .i64 y.st, .slice ao y.vn ca, .slice bo y.dn cb], .bool b], .agg #[.int .i64 k, .int .i64 r, .int .i64 c, .int .i64 q], .int .i64 0, .pointer (some ⟨g1, 0, none⟩), .slice a0 n0 c0, .int .i64 ix, .tuple #[.agg #[.int .u8 ((y.kd.toNat : Nat) : Int), .int .i64 y.ix, .int .i64 y.ce, .int .i64 y.st, .slice ao y.vn ca, .slice bo y.dn cb], .bool b], .agg #[.int .u8 ((y.kd.toNat : Nat) : Int), .int .i64 y.ix, .int .i64 y.ce, .int .i64 y.st, .slice ao y.vn ca, .slice bo y.dn cb], x39, x40, x41, x42, x43, x44, x45, x46, x47, x48, x49, x50, x51, x52, x53, x54, x55, x56, x57, x58, x59, x60], defers := [] } w'
    refine wpAnyH_take (i := 8) (oi := { dst := some 39, op := Op.extract (Operand.tmp 31) 1, type := 4, pos := "ref.go:85", after := #[{ on := 6, ground := Ground.data }, { on := 10, ground := Ground.gcOnly Departure.lateStores }], guard := none }) (v := .bool b) rfl (by kernel_rfl) (by kernel_rfl) (by kernel_rfl) (fun _ _ _ h => (hQp _ _ _ h).elim) (Or.inl ⟨by kernel_rfl, ?_⟩) (HS.out _ hb') ?_
    · intro w' hSw
      obtain ⟨s0, s1, s2, s3, s4⟩ := HS1.out _ hSw
      go_simp <;> first | with_reducible rfl | assumption
    show wpAnyH Try.prog .any wops Q S 2 #[true, true, true, true, true, true, true, true, true, true, false, false] { tmps := #[x0, x1, x2, .int .i64 ix, .pointer (some ⟨g0, 0, none⟩), .pointer (some ⟨g1, 0, none⟩), x6, x7, x8, x9, x10, x11, x12, x13, x14, .int .i64 0, .pointer (some ⟨g, 0, none⟩), x17, x18, x19, x20, x21, x22, x23, x24, x25, x26, x27, x28, x29, x30, .tuple #[.agg #[.int .u8 ((y.kd.toNat : Nat) : Int), .int .i64 y.ix, .int .i64 y.ce, .int .i64 y.st, .slice ao y.vn ca, .slice bo y.dn cb], .bool b], .agg #[.int .i64 k, .int .i64 r, .int .i64 c, .int .i64 q], .int .i64 0, .pointer (some ⟨g1, 0, none⟩), .slice a0 n0 c0, .int .i64 ix, .tuple #[.agg #[.int .u8 ((y.kd.toNat : Nat) : Int), .int .i64 y.ix, .int .i64 y.ce, .int .i64 y.st, .slice ao y.vn ca, .slice bo y.dn cb], .bool b], .agg #[.int .u8 ((y.kd.toNat : Nat) : Int), .int .i64 y.ix, .int .i64 y.ce, .int .i64 y.st, .slice ao y.vn ca, .slice bo y.dn cb], .bool b, x40, x41, x42, x43, x44, x45, x46, x47, x48, x49, x50, x51, x52, x53, x54, x55, x56, x57, x58, x59, x60], defers := [] } w'
    exact H11.out _ ao ca bo cb g hb' hg' (f3.below hw')
  have H00 : Hid (∀ (v : World), Below w1.heap.size w1 v → wpAnyH Try.prog .any wops Q S 7 #[true, true, true, true, true, false, false, false, false, false, false, false] { tmps := #[x0, x1, x2, .int .i64 ix, .pointer (some ⟨g0, 0, none⟩), .pointer (some ⟨g1, 0, none⟩), x6, x7, x8, x9, x10, x11, x12, x13, x14, .int .i64 0, x16, x17, x18, x19, x20, x21, x22, x23, x24, x25, x26, x27, x28, x29, x30, x31, .agg #[.int .i64 k, .int .i64 r, .int .i64 c, .int .i64 q], .int .i64 0, .pointer (some ⟨g1, 0, none⟩), .slice a0 n0 c0, .int .i64 ix, x37, x38, x39, x40, x41, x42, x43, x44, x45, x46, x47, x48, x49, x50, x51, x52, x53, x54, x55, x56, x57, x58, x59, x60], defers := [] } v) := fun v hb => by
    refine wpAnyH_ready (rs := [5, 9]) (by kernel_rfl) (by simp) ?_
    refine AllReadyH.cons (o := { dst := some 37, op := Op.call { callee := Callee.value (Operand.func 24), args := #[Operand.tmp 32, Operand.tmp 35, Operand.tmp 36], argTypes := #[23, 24, 3] }, type := 57, pos := "ref.go:85", after := #[{ on := 0, ground := Ground.data }, { on := 3, ground := Ground.data }, { on := 4, ground := Ground.data }], guard := none }) rfl (fun K hK => ?_) ?_
    rotate_left
    refine AllReadyH.cons (o := { dst := some 16, op := Op.alloc 31, type := 0, pos := "ref.go:85", after := #[], guard := none }) rfl (fun K hK => ?_) AllReadyH.nil
    rotate_left
    · skip
      go_simp
      refine (HP1.out _ hb).mono ?_
      rintro e w' ⟨ao, ca, bo, cb, rfl, hg, hw'⟩
      have hb' := below_then hb hw'
      have hg' := hg.mono hb.size
      refine hK.out _ _ (HS.out _ hb') (fun hHeld => ?_)
      refine wpAnyH_take (i := 6) (oi := { dst := some 31, op := Op.move (Operand.tmp 37), type := 57, pos := "ref.go:85", after := #[{ on := 5, ground := Ground.data }], guard := none }) (v := .tuple #[.agg #[.int .u8 ((y.kd.toNat : Nat) : Int), .int .i64 y.ix, .int .i64 y.ce, .int .i64 y.st, .slice ao y.vn ca, .slice bo y.dn cb], .bool b]) rfl (by kernel_rfl) (by kernel_rfl) (by kernel_rfl) (fun _ _ _ h => (hQp _ _ _ h).elim) (Or.inl ⟨by kernel_rfl, ?_⟩) (HS.out _ hb') ?_
      · intro w' hSw
        obtain ⟨s0, s1, s2, s3, s4⟩ := HS1.out _ hSw
        go_simp <;> first | with_reducible rfl | assumption
      show wpAnyH Try.prog .any wops Q S 5 #[true, true, true, true, true, true, true, false, false, false, false, false] { tmps := #[x0, x1, x2, .int .i64 ix, .pointer (some ⟨g0, 0, none⟩), .pointer (some ⟨g1, 0, none⟩), x6, x7, x8, x9, x10, x11, x12, x13, x14, .int .i64 0, x16, x17, x18, x19, x20, x21, x22, x23, x24, x25, x26, x27, x28, x29, x30, .tuple #[.agg #[.int .u8 ((y.kd.toNat : Nat) : Int), .int .i64 y.ix, .int .i64 y.ce, .int .i64 y.st, .slice ao y.vn ca, .slice bo y.dn cb], .bool b], .agg #[.int .i64 k, .int .i64 r, .int .i64 c, .int .i64 q], .int .i64 0, .pointer (some ⟨g1, 0, none⟩), .slice a0 n0 c0, .int .i64 ix, .tuple #[.agg #[.int .u8 ((y.kd.toNat : Nat) : Int), .int .i64 y.ix, .int .i64 y.ce, .int .i64 y.st, .slice ao y.vn ca, .slice bo y.dn cb], .bool b], x38, x39, x40, x41, x42, x43, x44, x45, x46, x47, x48, x49, x50, x51, x52, x53, x54, x55, x56, x57, x58, x59, x60], defers := [] } w'
      refine wpAnyH_take (i := 7) (oi := { dst := some 38, op := Op.extract (Operand.tmp 31) 0, type := 31, pos := "ref.go:85", after := #[{ on := 6, ground := Ground.data }], guard := none }) (v := .agg #[.int .u8 ((y.kd.toNat : Nat) : Int), .int .i64 y.ix, .int .i64 y.ce, .int .i64 y.st, .slice ao y.vn ca, .slice bo y.dn cb]) rfl (by kernel_rfl) (by kernel_rfl) (by kernel_rfl) (fun _ _ _ h => (hQp _ _ _ h).elim) (Or.inl ⟨by kernel_rfl, ?_⟩) (HS.out _ hb') ?_
      · intro w' hSw
        obtain ⟨s0, s1, s2, s3, s4⟩ := HS1.out _ hSw
        go_simp <;> first | with_reducible rfl | assumption
      show wpAnyH Try.prog .any wops Q S 4 #[true, true, true, true, true, true, true, true, false, false, false, false] { tmps := #[x0, x1, x2, .int .i64 ix, .pointer (some ⟨g0, 0, none⟩), .pointer (some ⟨g1, 0, none⟩), x6, x7, x8, x9, x10, x11, x12, x13, x14, .int .i64 0, x16, x17, x18, x19, x20, x21, x22, x23, x24, x25, x26, x27, x28, x29, x30, .tuple #[.agg #[.int .u8 ((y.kd.toNat : Nat) : Int), .int .i64 y.ix, .int .i64 y.ce, .int .i64 y.st, .slice ao y.vn ca, .slice bo y.dn cb], .bool b], .agg #[.int .i64 k, .int .i64 r, .int .i64 c, .int .i64 q], .int .i64 0, .pointer (some ⟨g1, 0, none⟩), .slice a0 n0 c0, .int .i64 ix, .tuple #[.agg #[.int .u8 ((y.kd.toNat : Nat) : Int), .int .i64 y.ix, .int .i64 y.ce, .int .i64 y.st, .slice ao y.vn ca, .slice bo y.dn cb], .bool b], .agg #[.int .u8 ((y.kd.toNat : Nat) : Int), .int .i64 y.ix, .int .i64 y.ce, .int .i64 y.st, .slice ao y.vn ca, .slice bo y.dn cb], x39, x40, x41, x42, x43, x44, x45, x46, x47, x48, x49, x50, x51, x52, x53, x54, x55, x56, x57, x58, x59, x60], defers := [] } w'
      refine wpAnyH_take (i := 8) (oi := { dst := some 39, op := Op.extract (Operand.tmp 31) 1, type := 4, pos := "ref.go:85", after := #[{ on := 6, ground := Ground.data }, { on := 10, ground := Ground.gcOnly Departure.lateStores }], guard := none }) (v := .bool b) rfl (by kernel_rfl) (by kernel_rfl) (by kernel_rfl) (fun _ _ _ h => (hQp _ _ _ h).elim) (Or.inl ⟨by kernel_rfl, ?_⟩) (HS.out _ hb') ?_
      · intro w' hSw
        obtain ⟨s0, s1, s2, s3, s4⟩ := HS1.out _ hSw
        go_simp <;> first | with_reducible rfl | assumption
      show wpAnyH Try.prog .any wops Q S 3 #[true, true, true, true, true, true, true, true, true, false, false, false] { tmps := #[x0, x1, x2, .int .i64 ix, .pointer (some ⟨g0, 0, none⟩), .pointer (some ⟨g1, 0, none⟩), x6, x7, x8, x9, x10, x11, x12, x13, x14, .int .i64 0, x16, x17, x18, x19, x20, x21, x22, x23, x24, x25, x26, x27, x28, x29, x30, .tuple #[.agg #[.int .u8 ((y.kd.toNat : Nat) : Int), .int .i64 y.ix, .int .i64 y.ce, .int .i64 y.st, .slice ao y.vn ca, .slice bo y.dn cb], .bool b], .agg #[.int .i64 k, .int .i64 r, .int .i64 c, .int .i64 q], .int .i64 0, .pointer (some ⟨g1, 0, none⟩), .slice a0 n0 c0, .int .i64 ix, .tuple #[.agg #[.int .u8 ((y.kd.toNat : Nat) : Int), .int .i64 y.ix, .int .i64 y.ce, .int .i64 y.st, .slice ao y.vn ca, .slice bo y.dn cb], .bool b], .agg #[.int .u8 ((y.kd.toNat : Nat) : Int), .int .i64 y.ix, .int .i64 y.ce, .int .i64 y.st, .slice ao y.vn ca, .slice bo y.dn cb], .bool b, x40, x41, x42, x43, x44, x45, x46, x47, x48, x49, x50, x51, x52, x53, x54, x55, x56, x57, x58, x59, x60], defers := [] } w'
      exact H10.out _ ao ca bo cb hb' hg'
    · go_simp
      refine hK.out _ _ (HS.out _ (b_alloc hb _)) (fun hHeld => ?_)
      exact H01.out _ _ (b_alloc hb _) (at_new hb _ _)
  refine wp_region_held_drew (S := S) (by kernel_rfl) (HS.out _ (below_drew _ _)) (fun hHeld => ?_)
  have hb : Below w1.heap.size w1 w1.drew := below_drew _ _
  rw [show wops.size = 12 from by kernel_rfl, show Array.replicate 12 false = #[false, false, false, false, false, false, false, false, false, false, false, false] from by kernel_rfl]
  refine wpAnyH_take (i := 0) (oi := { dst := some 32, op := Op.load 23 (Operand.tmp 4), type := 23, pos := "ref.go:85", after := #[], guard := none }) (v := .agg #[.int .i64 k, .int .i64 r, .int .i64 c, .int .i64 q]) rfl (by kernel_rfl) (by kernel_rfl) (by kernel_rfl) (fun _ _ _ h => (hQp _ _ _ h).elim) (Or.inl ⟨by kernel_rfl, ?_⟩) (HS.out _ hb) ?_
  · intro w' hSw
    obtain ⟨s0, s1, s2, s3, s4⟩ := HS1.out _ hSw
    go_simp <;> first | with_reducible rfl | assumption
  show wpAnyH Try.prog .any wops Q S 11 #[true, false, false, false, false, false, false, false, false, false, false, false] { tmps := #[x0, x1, x2, .int .i64 ix, .pointer (some ⟨g0, 0, none⟩), .pointer (some ⟨g1, 0, none⟩), x6, x7, x8, x9, x10, x11, x12, x13, x14, .int .i64 0, x16, x17, x18, x19, x20, x21, x22, x23, x24, x25, x26, x27, x28, x29, x30, x31, .agg #[.int .i64 k, .int .i64 r, .int .i64 c, .int .i64 q], x33, x34, x35, x36, x37, x38, x39, x40, x41, x42, x43, x44, x45, x46, x47, x48, x49, x50, x51, x52, x53, x54, x55, x56, x57, x58, x59, x60], defers := [] } w1.drew
  refine wpAnyH_take (i := 1) (oi := { dst := some 33, op := Op.move (Operand.tmp 15), type := 3, pos := "ref.go:85", after := #[], guard := none }) (v := .int .i64 0) rfl (by kernel_rfl) (by kernel_rfl) (by kernel_rfl) (fun _ _ _ h => (hQp _ _ _ h).elim) (Or.inl ⟨by kernel_rfl, ?_⟩) (HS.out _ hb) ?_
  · intro w' hSw
    obtain ⟨s0, s1, s2, s3, s4⟩ := HS1.out _ hSw
    go_simp <;> first | with_reducible rfl | assumption
  show wpAnyH Try.prog .any wops Q S 10 #[true, true, false, false, false, false, false, false, false, false, false, false] { tmps := #[x0, x1, x2, .int .i64 ix, .pointer (some ⟨g0, 0, none⟩), .pointer (some ⟨g1, 0, none⟩), x6, x7, x8, x9, x10, x11, x12, x13, x14, .int .i64 0, x16, x17, x18, x19, x20, x21, x22, x23, x24, x25, x26, x27, x28, x29, x30, x31, .agg #[.int .i64 k, .int .i64 r, .int .i64 c, .int .i64 q], .int .i64 0, x34, x35, x36, x37, x38, x39, x40, x41, x42, x43, x44, x45, x46, x47, x48, x49, x50, x51, x52, x53, x54, x55, x56, x57, x58, x59, x60], defers := [] } w1.drew
  refine wpAnyH_take (i := 2) (oi := { dst := some 34, op := Op.indexAddr 26 (Operand.tmp 5) (Operand.tmp 33), type := 0, pos := "ref.go:85", after := #[{ on := 1, ground := Ground.data }], guard := none }) (v := .pointer (some ⟨g1, 0, none⟩)) rfl (by kernel_rfl) (by kernel_rfl) (by kernel_rfl) (fun _ _ _ h => (hQp _ _ _ h).elim) (Or.inl ⟨by kernel_rfl, ?_⟩) (HS.out _ hb) ?_
  · intro w' hSw
    obtain ⟨s0, s1, s2, s3, s4⟩ := HS1.out _ hSw
    go_simp <;> first | with_reducible rfl | assumption
  show wpAnyH Try.prog .any wops Q S 9 #[true, true, true, false, false, false, false, false, false, false, false, false] { tmps := #[x0, x1, x2, .int .i64 ix, .pointer (some ⟨g0, 0, none⟩), .pointer (some ⟨g1, 0, none⟩), x6, x7, x8, x9, x10, x11, x12, x13, x14, .int .i64 0, x16, x17, x18, x19, x20, x21, x22, x23, x24, x25, x26, x27, x28, x29, x30, x31, .agg #[.int .i64 k, .int .i64 r, .int .i64 c, .int .i64 q], .int .i64 0, .pointer (some ⟨g1, 0, none⟩), x35, x36, x37, x38, x39, x40, x41, x42, x43, x44, x45, x46, x47, x48, x49, x50, x51, x52, x53, x54, x55, x56, x57, x58, x59, x60], defers := [] } w1.drew
  refine wpAnyH_take (i := 3) (oi := { dst := some 35, op := Op.load 24 (Operand.tmp 34), type := 24, pos := "ref.go:85", after := #[{ on := 2, ground := Ground.data }], guard := none }) (v := .slice a0 n0 c0) rfl (by kernel_rfl) (by kernel_rfl) (by kernel_rfl) (fun _ _ _ h => (hQp _ _ _ h).elim) (Or.inl ⟨by kernel_rfl, ?_⟩) (HS.out _ hb) ?_
  · intro w' hSw
    obtain ⟨s0, s1, s2, s3, s4⟩ := HS1.out _ hSw
    go_simp <;> first | with_reducible rfl | assumption
  show wpAnyH Try.prog .any wops Q S 8 #[true, true, true, true, false, false, false, false, false, false, false, false] { tmps := #[x0, x1, x2, .int .i64 ix, .pointer (some ⟨g0, 0, none⟩), .pointer (some ⟨g1, 0, none⟩), x6, x7, x8, x9, x10, x11, x12, x13, x14, .int .i64 0, x16, x17, x18, x19, x20, x21, x22, x23, x24, x25, x26, x27, x28, x29, x30, x31, .agg #[.int .i64 k, .int .i64 r, .int .i64 c, .int .i64 q], .int .i64 0, .pointer (some ⟨g1, 0, none⟩), .slice a0 n0 c0, x36, x37, x38, x39, x40, x41, x42, x43, x44, x45, x46, x47, x48, x49, x50, x51, x52, x53, x54, x55, x56, x57, x58, x59, x60], defers := [] } w1.drew
  refine wpAnyH_take (i := 4) (oi := { dst := some 36, op := Op.move (Operand.tmp 3), type := 3, pos := "ref.go:85", after := #[], guard := none }) (v := .int .i64 ix) rfl (by kernel_rfl) (by kernel_rfl) (by kernel_rfl) (fun _ _ _ h => (hQp _ _ _ h).elim) (Or.inl ⟨by kernel_rfl, ?_⟩) (HS.out _ hb) ?_
  · intro w' hSw
    obtain ⟨s0, s1, s2, s3, s4⟩ := HS1.out _ hSw
    go_simp <;> first | with_reducible rfl | assumption
  show wpAnyH Try.prog .any wops Q S 7 #[true, true, true, true, true, false, false, false, false, false, false, false] { tmps := #[x0, x1, x2, .int .i64 ix, .pointer (some ⟨g0, 0, none⟩), .pointer (some ⟨g1, 0, none⟩), x6, x7, x8, x9, x10, x11, x12, x13, x14, .int .i64 0, x16, x17, x18, x19, x20, x21, x22, x23, x24, x25, x26, x27, x28, x29, x30, x31, .agg #[.int .i64 k, .int .i64 r, .int .i64 c, .int .i64 q], .int .i64 0, .pointer (some ⟨g1, 0, none⟩), .slice a0 n0 c0, .int .i64 ix, x37, x38, x39, x40, x41, x42, x43, x44, x45, x46, x47, x48, x49, x50, x51, x52, x53, x54, x55, x56, x57, x58, x59, x60], defers := [] } w1.drew
  exact H00.out _ hb
set_option maxHeartbeats 8000000 in
set_option maxRecDepth 100000 in
theorem new_reg1 (w1 : World) (k r c q ix : Int) (g0 g1 : Nat) (a0 : Option Addr) (n0 c0 : Nat) (y : Sl) (b : Bool) (x0 x1 x2 x6 x7 x8 x9 x10 x11 x12 x13 x14 x16 x17 x18 x19 x20 x21 x22 x23 x24 x25 x26 x27 x28 x29 x30 x31 x32 x33 x34 x35 x36 x37 x38 x39 x40 x41 x42 x43 x44 x45 x46 x47 x48 x49 x50 x51 x52 x53 x54 x55 x56 x57 x58 x59 x60 : Value)
    (hS : ∀ v, Below w1.heap.size w1 v → (v.cell? ⟨g0, 0, none⟩ = some (.int .i64 k) ∧ v.cell? ⟨g0, 1, none⟩ = some (.int .i64 r) ∧ v.cell? ⟨g0, 2, none⟩ = some (.int .i64 c) ∧ v.cell? ⟨g0, 3, none⟩ = some (.int .i64 q) ∧ v.cell? ⟨g1, 1, none⟩ = some (.slice a0 n0 c0)))
    (P1 : ∀ v, Below w1.heap.size w1 v → Calls Try.prog 24 #[.agg #[.int .i64 k, .int .i64 r, .int .i64 c, .int .i64 q], .slice a0 n0 c0, .int .i64 ix] v fun e w' => ∃ ao ca bo cb, e = .returned (.tuple #[.agg #[.int .u8 ((y.kd.toNat : Nat) : Int), .int .i64 y.ix, .int .i64 y.ce, .int .i64 y.st, .slice ao y.vn ca, .slice bo y.dn cb], .bool b]) ∧ Got v.heap.size w' y ao ca bo cb ∧ Below v.heap.size v w')
    (Q : Exit → Act → World → Prop) (hQp : ∀ ch a v, Q (.panic ch) a v → False) (hQ : ∀ v g ao ca bo cb, Below w1.heap.size w1 v → At w1 v g #[.int .u8 ((y.kd.toNat : Nat) : Int), .int .i64 y.ix, .int .i64 y.ce, .int .i64 y.st, .slice ao y.vn ca, .slice bo y.dn cb] 31 → Got w1.heap.size v y ao ca bo cb → Q .normal { tmps := #[x0, x1, x2, .int .i64 ix, .pointer (some ⟨g0, 0, none⟩), .pointer (some ⟨g1, 0, none⟩), x6, x7, x8, x9, x10, x11, x12, x13, x14, .int .i64 1, .pointer (some ⟨g, 0, none⟩), .bool b, x18, x19, x20, x21, x22, x23, x24, x25, x26, x27, x28, x29, x30, .tuple #[.agg #[.int .u8 ((y.kd.toNat : Nat) : Int), .int .i64 y.ix, .int .i64 y.ce, .int .i64 y.st, .slice ao y.vn ca, .slice bo y.dn cb], .bool b], .agg #[.int .i64 k, .int .i64 r, .int .i64 c, .int .i64 q], .int .i64 1, .pointer (some ⟨g1, 1, none⟩), .slice a0 n0 c0, .int .i64 ix, .tuple #[.agg #[.int .u8 ((y.kd.toNat : Nat) : Int), .int .i64 y.ix, .int .i64 y.ce, .int .i64 y.st, .slice ao y.vn ca, .slice bo y.dn cb], .bool b], .agg #[.int .u8 ((y.kd.toNat : Nat) : Int), .int .i64 y.ix, .int .i64 y.ce, .int .i64 y.st, .slice ao y.vn ca, .slice bo y.dn cb], .bool b, x40, x41, x42, x43, x44, x45, x46, x47, x48, x49, x50, x51, x52, x53, x54, x55, x56, x57, x58, x59, x60], defers := [] } v) :
    Code.wp Try.prog (Code.region 9 wops true) Q { tmps := #[x0, x1, x2, .int .i64 ix, .pointer (some ⟨g0, 0, none⟩), .pointer (some ⟨g1, 0, none⟩), x6, x7, x8, x9, x10, x11, x12, x13, x14, .int .i64 1, x16, x17, x18, x19, x20, x21, x22, x23, x24, x25, x26, x27, x28, x29, x30, x31, x32, x33, x34, x35, x36, x37, x38, x39, x40, x41, x42, x43, x44, x45, x46, x47, x48, x49, x50, x51, x52, x53, x54, x55, x56, x57, x58, x59, x60], defers := [] } w1 := by
  have HQ : Hid (∀ v g ao ca bo cb, Below w1.heap.size w1 v → At w1 v g #[.int .u8 ((y.kd.toNat : Nat) : Int), .int .i64 y.ix, .int .i64 y.ce, .int .i64 y.st, .slice ao y.vn ca, .slice bo y.dn cb] 31 → Got w1.heap.size v y ao ca bo cb → Q .normal { tmps := #[x0, x1, x2, .int .i64 ix, .pointer (some ⟨g0, 0, none⟩), .pointer (some ⟨g1, 0, none⟩), x6, x7, x8, x9, x10, x11, x12, x13, x14, .int .i64 1, .pointer (some ⟨g, 0, none⟩), .bool b, x18, x19, x20, x21, x22, x23, x24, x25, x26, x27, x28, x29, x30, .tuple #[.agg #[.int .u8 ((y.kd.toNat : Nat) : Int), .int .i64 y.ix, .int .i64 y.ce, .int .i64 y.st, .slice ao y.vn ca, .slice bo y.dn cb], .bool b], .agg #[.int .i64 k, .int .i64 r, .int .i64 c, .int .i64 q], .int .i64 1, .pointer (some ⟨g1, 1, none⟩), .slice a0 n0 c0, .int .i64 ix, .tuple #[.agg #[.int .u8 ((y.kd.toNat : Nat) : Int), .int .i64 y.ix, .int .i64 y.ce, .int .i64 y.st, .slice ao y.vn ca, .slice bo y.dn cb], .bool b], .agg #[.int .u8 ((y.kd.toNat : Nat) : Int), .int .i64 y.ix, .int .i64 y.ce, .int .i64 y.st, .slice ao y.vn ca, .slice bo y.dn cb], .bool b, x40, x41, x42, x43, x44, x45, x46, x47, x48, x49, x50, x51, x52, x53, x54, x55, x56, x57, x58, x59, x60], defers := [] } v) := hQ
  obtain ⟨S, HS1, HS⟩ : ∃ S : World → Prop, Hid (∀ v, S v → (v.cell? ⟨g0, 0, none⟩ = some (.int .i64 k) ∧ v.cell? ⟨g0, 1, none⟩ = some (.int .i64 r) ∧ v.cell? ⟨g0, 2, none⟩ = some (.int .i64 c) ∧ v.cell? ⟨g0, 3, none⟩ = some (.int .i64 q) ∧ v.cell? ⟨g1, 1, none⟩ = some (.slice a0 n0 c0))) ∧ Hid (∀ v, Below w1.heap.size w1 v → S v) := ⟨fun v => v.cell? ⟨g0, 0, none⟩ = some (.int .i64 k) ∧ v.cell? ⟨g0, 1, none⟩ = some (.int .i64 r) ∧ v.cell? ⟨g0, 2, none⟩ = some (.int .i64 c) ∧ v.cell? ⟨g0, 3, none⟩ = some (.int .i64 q) ∧ v.cell? ⟨g1, 1, none⟩ = some (.slice a0 n0 c0), fun v h => h, hS⟩
  have HP1 : Hid (∀ v, Below w1.heap.size w1 v → Calls Try.prog 24 #[.agg #[.int .i64 k, .int .i64 r, .int .i64 c, .int .i64 q], .slice a0 n0 c0, .int .i64 ix] v fun e w' => ∃ ao ca bo cb, e = .returned (.tuple #[.agg #[.int .u8 ((y.kd.toNat : Nat) : Int), .int .i64 y.ix, .int .i64 y.ce, .int .i64 y.st, .slice ao y.vn ca, .slice bo y.dn cb], .bool b]) ∧ Got v.heap.size w' y ao ca bo cb ∧ Below v.heap.size v w') := P1
  clear hS hQ P1
  have H11 : Hid (∀ (v : World) (ao : Option Addr) (ca : Nat) (bo : Option Addr) (cb : Nat) (g : Nat), Below w1.heap.size w1 v → Got w1.heap.size v y ao ca bo cb → At w1 v g #[.int .u8 0, .int .i64 0, .int .i64 0, .int .i64 0, .slice none 0 0, .slice none 0 0] 31 → wpAnyH Try.prog .any wops Q S 2 #[true, true, true, true, true, true, true, true, true, true, false, false] { tmps := #[x0, x1, x2, .int .i64 ix, .pointer (some ⟨g0, 0, none⟩), .pointer (some ⟨g1, 0, none⟩), x6, x7, x8, x9, x10, x11, x12, x13, x14, .int .i64 1, .pointer (some ⟨g, 0, none⟩), x17, x18, x19, x20, x21, x22, x23, x24, x25, x26, x27, x28, x29, x30, .tuple #[.agg #[.int .u8 ((y.kd.toNat : Nat) : Int), .int .i64 y.ix, .int .i64 y.ce, .int .i64 y.st, .slice ao y.vn ca, .slice bo y.dn cb], .bool b], .agg #[.int .i64 k, .int .i64 r, .int .i64 c, .int .i64 q], .int .i64 1, .pointer (some ⟨g1, 1, none⟩), .slice a0 n0 c0, .int .i64 ix, .tuple #[.agg #[.int .u8 ((y.kd.toNat : Nat) : Int), .int .i64 y.ix, .int .i64 y.ce, .int .i64 y.st, .slice ao y.vn ca, .slice bo y.dn cb], .bool b], .agg #[.int .u8 ((y.kd.toNat : Nat) : Int), .int .i64 y.ix, .int .i64 y.ce, .int .i64 y.st, .slice ao y.vn ca, .slice bo y.dn cb], .bool b, x40, x41, x42, x43, x44, x45, x46, x47, x48, x49, x50, x51, x52, x53, x54, x55, x56, x57, x58, x59, x60], defers := [] } v) := fun v ao ca bo cb g hb hg f3 => by
    have c0 := f3.cell (i := 0) rfl
    have c1 := f3.cell (i := 1) rfl
    have c2 := f3.cell (i := 2) rfl
    have c3 := f3.cell (i := 3) rfl
    have c4 := f3.cell (i := 4) rfl
    have c5 := f3.cell (i := 5) rfl
    have cf := f3.free
    have hbb := b_lo hb f3.1 (.int .u8 ((y.kd.toNat : Nat) : Int)) (.int .i64 y.ix) (.int .i64 y.ce) (.int .i64 y.st) (.slice ao y.vn ca) (.slice bo y.dn cb)
    have ho := only_lo v g (.int .u8 ((y.kd.toNat : Nat) : Int)) (.int .i64 y.ix) (.int .i64 y.ce) (.int .i64 y.st) (.slice ao y.vn ca) (.slice bo y.dn cb)
    have hgg := hg.apart ho f3
    have hat := at_six f3 (.int .u8 ((y.kd.toNat : Nat) : Int)) (.int .i64 y.ix) (.int .i64 y.ce) (.int .i64 y.st) (.slice ao y.vn ca) (.slice bo y.dn cb)
    refine wpAnyH_ready (rs := [10]) (by kernel_rfl) (by simp) ?_
    refine AllReadyH.cons (o := { dst := none, op := Op.store 31 (Operand.tmp 16) (Operand.tmp 38), type := 0, pos := "ref.go:85", after := #[{ on := 9, ground := Ground.data }, { on := 7, ground := Ground.data }, { on := 5, ground := Ground.chain }, { on := 0, ground := Ground.phase }, { on := 1, ground := Ground.phase }, { on := 2, ground := Ground.phase }, { on := 3, ground := Ground.phase }, { on := 4, ground := Ground.phase }, { on := 5, ground := Ground.phase }, { on := 6, ground := Ground.phase }, { on := 7, ground := Ground.phase }, { on := 8, ground := Ground.textOnly Departure.lateStores }, { on := 9, ground := Ground.phase }], guard := none }) rfl (fun K hK => ?_) AllReadyH.nil
    go_simp
    refine hK.out _ _ (HS.out _ hbb) (fun hHeld => ?_)
    refine wpAnyH_take (i := 11) (oi := { dst := some 17, op := Op.assign (Operand.tmp 39), type := 4, pos := "ref.go:85", after := #[{ on := 8, ground := Ground.data }, { on := 10, ground := Ground.chain }, { on := 0, ground := Ground.phase }, { on := 1, ground := Ground.phase }, { on := 2, ground := Ground.phase }, { on := 3, ground := Ground.phase }, { on := 4, ground := Ground.phase }, { on := 5, ground := Ground.phase }, { on := 6, ground := Ground.phase }, { on := 7, ground := Ground.phase }, { on := 8, ground := Ground.phase }, { on := 9, ground := Ground.phase }, { on := 10, ground := Ground.phase }], guard := none }) (v := .bool b) rfl (by kernel_rfl) (by kernel_rfl) (by kernel_rfl) (fun _ _ _ h => (hQp _ _ _ h).elim) (Or.inl ⟨by kernel_rfl, ?_⟩) (HS.out _ hbb) ?_
    · intro w' hSw
      obtain ⟨s0, s1, s2, s3, s4⟩ := HS1.out _ hSw
      go_simp <;> first | with_reducible rfl | assumption
    refine wpAnyH_done (by kernel_rfl) ?_ _
    exact HQ.out _ g ao ca bo cb hbb hat hgg
  have H10 : Hid (∀ (v : World) (ao : Option Addr) (ca : Nat) (bo : Option Addr) (cb : Nat), Below w1.heap.size w1 v → Got w1.heap.size v y ao ca bo cb → wpAnyH Try.prog .any wops Q S 3 #[true, true, true, true, true, true, true, true, true, false, false, false] { tmps := #[x0, x1, x2, .int .i64 ix, .pointer (some ⟨g0, 0, none⟩), .pointer (some ⟨g1, 0, none⟩), x6, x7, x8, x9, x10, x11, x12, x13, x14, .int .i64 1, x16, x17, x18, x19, x20, x21, x22, x23, x24, x25, x26, x27, x28, x29, x30, .tuple #[.agg #[.int .u8 ((y.kd.toNat : Nat) : Int), .int .i64 y.ix, .int .i64 y.ce, .int .i64 y.st, .slice ao y.vn ca, .slice bo y.dn cb], .bool b], .agg #[.int .i64 k, .int .i64 r, .int .i64 c, .int .i64 q], .int .i64 1, .pointer (some ⟨g1, 1, none⟩), .slice a0 n0 c0, .int .i64 ix, .tuple #[.agg #[.int .u8 ((y.kd.toNat : Nat) : Int), .int .i64 y.ix, .int .i64 y.ce, .int .i64 y.st, .slice ao y.vn ca, .slice bo y.dn cb], .bool b], .agg #[.int .u8 ((y.kd.toNat : Nat) : Int), .int .i64 y.ix, .int .i64 y.ce, .int .i64 y.st, .slice ao y.vn ca, .slice bo y.dn cb], .bool b, x40, x41, x42, x43, x44, x45, x46, x47, x48, x49, x50, x51, x52, x53, x54, x55, x56, x57, x58, x59, x60], defers := [] } v) := fun v ao ca bo cb hb hg => by
    refine wpAnyH_ready (rs := [9]) (by kernel_rfl) (by simp) ?_
    refine AllReadyH.cons (o := { dst := some 16, op := Op.alloc 31, type := 0, pos := "ref.go:85", after := #[], guard := none }) rfl (fun K hK => ?_) AllReadyH.nil
    go_simp
    refine hK.out _ _ (HS.out _ (b_alloc hb _)) (fun hHeld => ?_)
    exact H11.out _ ao ca bo cb _ (b_alloc hb _) (hg.below (below_alloc _ _)) (at_new hb _ _)
  have H01 : Hid (∀ (v : World) (g : Nat), Below w1.heap.size w1 v → At w1 v g #[.int .u8 0, .int .i64 0, .int .i64 0, .int .i64 0, .slice none 0 0, .slice none 0 0] 31 → wpAnyH Try.prog .any wops Q S 6 #[true, true, true, true, true, false, false, false, false, true, false, false] { tmps := #[x0, x1, x2, .int .i64 ix, .pointer (some ⟨g0, 0, none⟩), .pointer (some ⟨g1, 0, none⟩), x6, x7, x8, x9, x10, x11, x12, x13, x14, .int .i64 1, .pointer (some ⟨g, 0, none⟩), x17, x18, x19, x20, x21, x22, x23, x24, x25, x26, x27, x28, x29, x30, x31, .agg #[.int .i64 k, .int .i64 r, .int .i64 c, .int .i64 q], .int .i64 1, .pointer (some ⟨g1, 1, none⟩), .slice a0 n0 c0, .int .i64 ix, x37, x38, x39, x40, x41, x42, x43, x44, x45, x46, x47, x48, x49, x50, x51, x52, x53, x54, x55, x56, x57, x58, x59, x60], defers := [] } v) := fun v g hb f3 => by
    refine wpAnyH_ready (rs := [5]) (by kernel_rfl) (by simp) ?_
    refine AllReadyH.cons (o := { dst := some 37, op := Op.call { callee := Callee.value (Operand.func 24), args := #[Operand.tmp 32, Operand.tmp 35, Operand.tmp 36], argTypes := #[23, 24, 3] }, type := 57, pos := "ref.go:85", after := #[{ on := 0, ground := Ground.data }, { on := 3, ground := Ground.data }, { on := 4, ground := Ground.data }], guard := none }) rfl (fun K hK => ?_) AllReadyH.nil
    go_simp
    refine (HP1.out _ hb).mono ?_
    rintro e w' ⟨ao, ca, bo, cb, rfl, hg, hw'⟩
    have hb' := below_then hb hw'
    have hg' := hg.mono hb.size
    refine hK.out _ _ (HS.out _ hb') (fun hHeld => ?_)
    refine wpAnyH_take (i := 6) (oi := { dst := some 31, op := Op.move (Operand.tmp 37), type := 57, pos := "ref.go:85", after := #[{ on := 5, ground := Ground.data }], guard := none }) (v := .tuple #[.agg #[.int .u8 ((y.kd.toNat : Nat) : Int), .int .i64 y.ix, .int .i64 y.ce, .int .i64 y.st, .slice ao y.vn ca, .slice bo y.dn cb], .bool b]) rfl (by kernel_rfl) (by kernel_rfl) (by kernel_rfl) (fun _ _ _ h => (hQp _ _ _ h).elim) (Or.inl ⟨by kernel_rfl, ?_⟩) (HS.out _ hb') ?_
    · intro w' hSw
      obtain ⟨s0, s1, s2, s3, s4⟩ := HS1.out _ hSw
      go_simp <;> first | with_reducible rfl | assumption
    show wpAnyH Try.prog .any wops Q S 4 #[true, true, true, true, true, true, true, false, false, true, false, false] { tmps := #[x0, x1, x2, .int .i64 ix, .pointer (some ⟨g0, 0, none⟩), .pointer (some ⟨g1, 0, none⟩), x6, x7, x8, x9, x10, x11, x12, x13, x14, .int .i64 1, .pointer (some ⟨g, 0, none⟩), x17, x18, x19, x20, x21, x22, x23, x24, x25, x26, x27, x28, x29, x30, .tuple #[.agg #[.int .u8 ((y.kd.toNat : Nat) : Int), .int .i64 y.ix, .int .i64 y.ce, .int .i64 y.st, .slice ao y.vn ca, .slice bo y.dn cb], .bool b], .agg #[.int .i64 k, .int .i64 r, .int .i64 c, .int .i64 q], .int .i64 1, .pointer (some ⟨g1, 1, none⟩), .slice a0 n0 c0, .int .i64 ix, .tuple #[.agg #[.int .u8 ((y.kd.toNat : Nat) : Int), .int .i64 y.ix, .int .i64 y.ce, .int .i64 y.st, .slice ao y.vn ca, .slice bo y.dn cb], .bool b], x38, x39, x40, x41, x42, x43, x44, x45, x46, x47, x48, x49, x50, x51, x52, x53, x54, x55, x56, x57, x58, x59, x60], defers := [] } w'
    refine wpAnyH_take (i := 7) (oi := { dst := some 38, op := Op.extract (Operand.tmp 31) 0, type := 31, pos := "ref.go:85", after := #[{ on := 6, ground := Ground.data }], guard := none }) (v := .agg #[.int .u8 ((y.kd.toNat : Nat) : Int), .int .i64 y.ix, .int .i64 y.ce, .int .i64 y.st, .slice ao y.vn ca, .slice bo y.dn cb]) rfl (by kernel_rfl) (by kernel_rfl) (by kernel_rfl) (fun _ _ _ h => (hQp _ _ _ h).elim) (Or.inl ⟨by kernel_rfl, ?_⟩) (HS.out _ hb') ?_
    · intro w' hSw
      obtain ⟨s0, s1, s2, s3, s4⟩ := HS1.out _ hSw
      go_simp <;> first | with_reducible rfl | assumption
    show wpAnyH Try.prog .any wops Q S 3 #[true, true, true, true, true, true, true, true, false, true, false, false] { tmps := #[x0, x1, x2, .int .i64 ix, .pointer (some ⟨g0, 0, none⟩), .pointer (some ⟨g1, 0, none⟩), x6, x7, x8, x9, x10, x11, x12, x13, x14, .int .i64 1, .pointer (some ⟨g, 0, none⟩), x17, x18, x19, x20, x21, x22, x23, x24, x25, x26, x27, x28, x29, x30, .tuple #[.agg #[.int .u8 ((y.kd.toNat : Nat) : Int), .int .i64 y.ix, .int .i64 y.ce, .int .i64 y.st, .slice ao y.vn ca, .slice bo y.dn cb], .bool b], .agg #[.int .i64 k, .int .i64 r, .int .i64 c, .int .i64 q], .int .i64 1, .pointer (some ⟨g1, 1, none⟩), .slice a0 n0 c0, .int .i64 ix, .tuple #[.agg #[.int .u8 ((y.kd.toNat : Nat) : Int), .int .i64 y.ix, .int .i64 y.ce, .int .i64 y.st, .slice ao y.vn ca, .slice bo y.dn cb], .bool b], .agg #[.int .u8 ((y.kd.toNat : Nat) : Int), .int .i64 y.ix, .int .i64 y.ce, .int .i64 y.st, .slice ao y.vn ca, .slice bo y.dn cb], x39, x40, x41, x42, x43, x44, x45, x46, x47, x48, x49, x50, x51, x52, x53, x54, x55, x56, x57, x58, x59, x60], defers := [] } w'
    refine wpAnyH_take (i := 8) (oi := { dst := some 39, op := Op.extract (Operand.tmp 31) 1, type := 4, pos := "ref.go:85", after := #[{ on := 6, ground := Ground.data }, { on := 10, ground := Ground.gcOnly Departure.lateStores }], guard := none }) (v := .bool b) rfl (by kernel_rfl) (by kernel_rfl) (by kernel_rfl) (fun _ _ _ h => (hQp _ _ _ h).elim) (Or.inl ⟨by kernel_rfl, ?_⟩) (HS.out _ hb') ?_
    · intro w' hSw
      obtain ⟨s0, s1, s2, s3, s4⟩ := HS1.out _ hSw
      go_simp <;> first | with_reducible rfl | assumption
    show wpAnyH Try.prog .any wops Q S 2 #[true, true, true, true, true, true, true, true, true, true, false, false] { tmps := #[x0, x1, x2, .int .i64 ix, .pointer (some ⟨g0, 0, none⟩), .pointer (some ⟨g1, 0, none⟩), x6, x7, x8, x9, x10, x11, x12, x13, x14, .int .i64 1, .pointer (some ⟨g, 0, none⟩), x17, x18, x19, x20, x21, x22, x23, x24, x25, x26, x27, x28, x29, x30, .tuple #[.agg #[.int .u8 ((y.kd.toNat : Nat) : Int), .int .i64 y.ix, .int .i64 y.ce, .int .i64 y.st, .slice ao y.vn ca, .slice bo y.dn cb], .bool b], .agg #[.int .i64 k, .int .i64 r, .int .i64 c, .int .i64 q], .int .i64 1, .pointer (some ⟨g1, 1, none⟩), .slice a0 n0 c0, .int .i64 ix, .tuple #[.agg #[.int .u8 ((y.kd.toNat : Nat) : Int), .int .i64 y.ix, .int .i64 y.ce, .int .i64 y.st, .slice ao y.vn ca, .slice bo y.dn cb], .bool b], .agg #[.int .u8 ((y.kd.toNat : Nat) : Int), .int .i64 y.ix, .int .i64 y.ce, .int .i64 y.st, .slice ao y.vn ca, .slice bo y.dn cb], .bool b, x40, x41, x42, x43, x44, x45, x46, x47, x48, x49, x50, x51, x52, x53, x54, x55, x56, x57, x58, x59, x60], defers := [] } w'
    exact H11.out _ ao ca bo cb g hb' hg' (f3.below hw')
  have H00 : Hid (∀ (v : World), Below w1.heap.size w1 v → wpAnyH Try.prog .any wops Q S 7 #[true, true, true, true, true, false, false, false, false, false, false, false] { tmps := #[x0, x1, x2, .int .i64 ix, .pointer (some ⟨g0, 0, none⟩), .pointer (some ⟨g1, 0, none⟩), x6, x7, x8, x9, x10, x11, x12, x13, x14, .int .i64 1, x16, x17, x18, x19, x20, x21, x22, x23, x24, x25, x26, x27, x28, x29, x30, x31, .agg #[.int .i64 k, .int .i64 r, .int .i64 c, .int .i64 q], .int .i64 1, .pointer (some ⟨g1, 1, none⟩), .slice a0 n0 c0, .int .i64 ix, x37, x38, x39, x40, x41, x42, x43, x44, x45, x46, x47, x48, x49, x50, x51, x52, x53, x54, x55, x56, x57, x58, x59, x60], defers := [] } v) := fun v hb => by
    refine wpAnyH_ready (rs := [5, 9]) (by kernel_rfl) (by simp) ?_
    refine AllReadyH.cons (o := { dst := some 37, op := Op.call { callee := Callee.value (Operand.func 24), args := #[Operand.tmp 32, Operand.tmp 35, Operand.tmp 36], argTypes := #[23, 24, 3] }, type := 57, pos := "ref.go:85", after := #[{ on := 0, ground := Ground.data }, { on := 3, ground := Ground.data }, { on := 4, ground := Ground.data }], guard := none }) rfl (fun K hK => ?_) ?_
    rotate_left
    refine AllReadyH.cons (o := { dst := some 16, op := Op.alloc 31, type := 0, pos := "ref.go:85", after := #[], guard := none }) rfl (fun K hK => ?_) AllReadyH.nil
    rotate_left
    · skip
      go_simp
      refine (HP1.out _ hb).mono ?_
      rintro e w' ⟨ao, ca, bo, cb, rfl, hg, hw'⟩
      have hb' := below_then hb hw'
      have hg' := hg.mono hb.size
      refine hK.out _ _ (HS.out _ hb') (fun hHeld => ?_)
      refine wpAnyH_take (i := 6) (oi := { dst := some 31, op := Op.move (Operand.tmp 37), type := 57, pos := "ref.go:85", after := #[{ on := 5, ground := Ground.data }], guard := none }) (v := .tuple #[.agg #[.int .u8 ((y.kd.toNat : Nat) : Int), .int .i64 y.ix, .int .i64 y.ce, .int .i64 y.st, .slice ao y.vn ca, .slice bo y.dn cb], .bool b]) rfl (by kernel_rfl) (by kernel_rfl) (by kernel_rfl) (fun _ _ _ h => (hQp _ _ _ h).elim) (Or.inl ⟨by kernel_rfl, ?_⟩) (HS.out _ hb') ?_
      · intro w' hSw
        obtain ⟨s0, s1, s2, s3, s4⟩ := HS1.out _ hSw
        go_simp <;> first | with_reducible rfl | assumption
      show wpAnyH Try.prog .any wops Q S 5 #[true, true, true, true, true, true, true, false, false, false, false, false] { tmps := #[x0, x1, x2, .int .i64 ix, .pointer (some ⟨g0, 0, none⟩), .pointer (some ⟨g1, 0, none⟩), x6, x7, x8, x9, x10, x11, x12, x13, x14, .int .i64 1, x16, x17, x18, x19, x20, x21, x22, x23, x24, x25, x26, x27, x28, x29, x30, .tuple #[.agg #[.int .u8 ((y.kd.toNat : Nat) : Int), .int .i64 y.ix, .int .i64 y.ce, .int .i64 y.st, .slice ao y.vn ca, .slice bo y.dn cb], .bool b], .agg #[.int .i64 k, .int .i64 r, .int .i64 c, .int .i64 q], .int .i64 1, .pointer (some ⟨g1, 1, none⟩), .slice a0 n0 c0, .int .i64 ix, .tuple #[.agg #[.int .u8 ((y.kd.toNat : Nat) : Int), .int .i64 y.ix, .int .i64 y.ce, .int .i64 y.st, .slice ao y.vn ca, .slice bo y.dn cb], .bool b], x38, x39, x40, x41, x42, x43, x44, x45, x46, x47, x48, x49, x50, x51, x52, x53, x54, x55, x56, x57, x58, x59, x60], defers := [] } w'
      refine wpAnyH_take (i := 7) (oi := { dst := some 38, op := Op.extract (Operand.tmp 31) 0, type := 31, pos := "ref.go:85", after := #[{ on := 6, ground := Ground.data }], guard := none }) (v := .agg #[.int .u8 ((y.kd.toNat : Nat) : Int), .int .i64 y.ix, .int .i64 y.ce, .int .i64 y.st, .slice ao y.vn ca, .slice bo y.dn cb]) rfl (by kernel_rfl) (by kernel_rfl) (by kernel_rfl) (fun _ _ _ h => (hQp _ _ _ h).elim) (Or.inl ⟨by kernel_rfl, ?_⟩) (HS.out _ hb') ?_
      · intro w' hSw
        obtain ⟨s0, s1, s2, s3, s4⟩ := HS1.out _ hSw
        go_simp <;> first | with_reducible rfl | assumption
      show wpAnyH Try.prog .any wops Q S 4 #[true, true, true, true, true, true, true, true, false, false, false, false] { tmps := #[x0, x1, x2, .int .i64 ix, .pointer (some ⟨g0, 0, none⟩), .pointer (some ⟨g1, 0, none⟩), x6, x7, x8, x9, x10, x11, x12, x13, x14, .int .i64 1, x16, x17, x18, x19, x20, x21, x22, x23, x24, x25, x26, x27, x28, x29, x30, .tuple #[.agg #[.int .u8 ((y.kd.toNat : Nat) : Int), .int .i64 y.ix, .int .i64 y.ce, .int .i64 y.st, .slice ao y.vn ca, .slice bo y.dn cb], .bool b], .agg #[.int .i64 k, .int .i64 r, .int .i64 c, .int .i64 q], .int .i64 1, .pointer (some ⟨g1, 1, none⟩), .slice a0 n0 c0, .int .i64 ix, .tuple #[.agg #[.int .u8 ((y.kd.toNat : Nat) : Int), .int .i64 y.ix, .int .i64 y.ce, .int .i64 y.st, .slice ao y.vn ca, .slice bo y.dn cb], .bool b], .agg #[.int .u8 ((y.kd.toNat : Nat) : Int), .int .i64 y.ix, .int .i64 y.ce, .int .i64 y.st, .slice ao y.vn ca, .slice bo y.dn cb], x39, x40, x41, x42, x43, x44, x45, x46, x47, x48, x49, x50, x51, x52, x53, x54, x55, x56, x57, x58, x59, x60], defers := [] } w'
      refine wpAnyH_take (i := 8) (oi := { dst := some 39, op := Op.extract (Operand.tmp 31) 1, type := 4, pos := "ref.go:85", after := #[{ on := 6, ground := Ground.data }, { on := 10, ground := Ground.gcOnly Departure.lateStores }], guard := none }) (v := .bool b) rfl (by kernel_rfl) (by kernel_rfl) (by kernel_rfl) (fun _ _ _ h => (hQp _ _ _ h).elim) (Or.inl ⟨by kernel_rfl, ?_⟩) (HS.out _ hb') ?_
      · intro w' hSw
        obtain ⟨s0, s1, s2, s3, s4⟩ := HS1.out _ hSw
        go_simp <;> first | with_reducible rfl | assumption
      show wpAnyH Try.prog .any wops Q S 3 #[true, true, true, true, true, true, true, true, true, false, false, false] { tmps := #[x0, x1, x2, .int .i64 ix, .pointer (some ⟨g0, 0, none⟩), .pointer (some ⟨g1, 0, none⟩), x6, x7, x8, x9, x10, x11, x12, x13, x14, .int .i64 1, x16, x17, x18, x19, x20, x21, x22, x23, x24, x25, x26, x27, x28, x29, x30, .tuple #[.agg #[.int .u8 ((y.kd.toNat : Nat) : Int), .int .i64 y.ix, .int .i64 y.ce, .int .i64 y.st, .slice ao y.vn ca, .slice bo y.dn cb], .bool b], .agg #[.int .i64 k, .int .i64 r, .int .i64 c, .int .i64 q], .int .i64 1, .pointer (some ⟨g1, 1, none⟩), .slice a0 n0 c0, .int .i64 ix, .tuple #[.agg #[.int .u8 ((y.kd.toNat : Nat) : Int), .int .i64 y.ix, .int .i64 y.ce, .int .i64 y.st, .slice ao y.vn ca, .slice bo y.dn cb], .bool b], .agg #[.int .u8 ((y.kd.toNat : Nat) : Int), .int .i64 y.ix, .int .i64 y.ce, .int .i64 y.st, .slice ao y.vn ca, .slice bo y.dn cb], .bool b, x40, x41, x42, x43, x44, x45, x46, x47, x48, x49, x50, x51, x52, x53, x54, x55, x56, x57, x58, x59, x60], defers := [] } w'
      exact H10.out _ ao ca bo cb hb' hg'
    · go_simp
      refine hK.out _ _ (HS.out _ (b_alloc hb _)) (fun hHeld => ?_)
      exact H01.out _ _ (b_alloc hb _) (at_new hb _ _)
  refine wp_region_held_drew (S := S) (by kernel_rfl) (HS.out _ (below_drew _ _)) (fun hHeld => ?_)
  have hb : Below w1.heap.size w1 w1.drew := below_drew _ _
  rw [show wops.size = 12 from by kernel_rfl, show Array.replicate 12 false = #[false, false, false, false, false, false, false, false, false, false, false, false] from by kernel_rfl]
  refine wpAnyH_take (i := 0) (oi := { dst := some 32, op := Op.load 23 (Operand.tmp 4), type := 23, pos := "ref.go:85", after := #[], guard := none }) (v := .agg #[.int .i64 k, .int .i64 r, .int .i64 c, .int .i64 q]) rfl (by kernel_rfl) (by kernel_rfl) (by kernel_rfl) (fun _ _ _ h => (hQp _ _ _ h).elim) (Or.inl ⟨by kernel_rfl, ?_⟩) (HS.out _ hb) ?_
  · intro w' hSw
    obtain ⟨s0, s1, s2, s3, s4⟩ := HS1.out _ hSw
    go_simp <;> first | with_reducible rfl | assumption
  show wpAnyH Try.prog .any wops Q S 11 #[true, false, false, false, false, false, false, false, false, false, false, false] { tmps := #[x0, x1, x2, .int .i64 ix, .pointer (some ⟨g0, 0, none⟩), .pointer (some ⟨g1, 0, none⟩), x6, x7, x8, x9, x10, x11, x12, x13, x14, .int .i64 1, x16, x17, x18, x19, x20, x21, x22, x23, x24, x25, x26, x27, x28, x29, x30, x31, .agg #[.int .i64 k, .int .i64 r, .int .i64 c, .int .i64 q], x33, x34, x35, x36, x37, x38, x39, x40, x41, x42, x43, x44, x45, x46, x47, x48, x49, x50, x51, x52, x53, x54, x55, x56, x57, x58, x59, x60], defers := [] } w1.drew
  refine wpAnyH_take (i := 1) (oi := { dst := some 33, op := Op.move (Operand.tmp 15), type := 3, pos := "ref.go:85", after := #[], guard := none }) (v := .int .i64 1) rfl (by kernel_rfl) (by kernel_rfl) (by kernel_rfl) (fun _ _ _ h => (hQp _ _ _ h).elim) (Or.inl ⟨by kernel_rfl, ?_⟩) (HS.out _ hb) ?_
  · intro w' hSw
    obtain ⟨s0, s1, s2, s3, s4⟩ := HS1.out _ hSw
    go_simp <;> first | with_reducible rfl | assumption
  show wpAnyH Try.prog .any wops Q S 10 #[true, true, false, false, false, false, false, false, false, false, false, false] { tmps := #[x0, x1, x2, .int .i64 ix, .pointer (some ⟨g0, 0, none⟩), .pointer (some ⟨g1, 0, none⟩), x6, x7, x8, x9, x10, x11, x12, x13, x14, .int .i64 1, x16, x17, x18, x19, x20, x21, x22, x23, x24, x25, x26, x27, x28, x29, x30, x31, .agg #[.int .i64 k, .int .i64 r, .int .i64 c, .int .i64 q], .int .i64 1, x34, x35, x36, x37, x38, x39, x40, x41, x42, x43, x44, x45, x46, x47, x48, x49, x50, x51, x52, x53, x54, x55, x56, x57, x58, x59, x60], defers := [] } w1.drew
  refine wpAnyH_take (i := 2) (oi := { dst := some 34, op := Op.indexAddr 26 (Operand.tmp 5) (Operand.tmp 33), type := 0, pos := "ref.go:85", after := #[{ on := 1, ground := Ground.data }], guard := none }) (v := .pointer (some ⟨g1, 1, none⟩)) rfl (by kernel_rfl) (by kernel_rfl) (by kernel_rfl) (fun _ _ _ h => (hQp _ _ _ h).elim) (Or.inl ⟨by kernel_rfl, ?_⟩) (HS.out _ hb) ?_
  · intro w' hSw
    obtain ⟨s0, s1, s2, s3, s4⟩ := HS1.out _ hSw
    go_simp <;> first | with_reducible rfl | assumption
  show wpAnyH Try.prog .any wops Q S 9 #[true, true, true, false, false, false, false, false, false, false, false, false] { tmps := #[x0, x1, x2, .int .i64 ix, .pointer (some ⟨g0, 0, none⟩), .pointer (some ⟨g1, 0, none⟩), x6, x7, x8, x9, x10, x11, x12, x13, x14, .int .i64 1, x16, x17, x18, x19, x20, x21, x22, x23, x24, x25, x26, x27, x28, x29, x30, x31, .agg #[.int .i64 k, .int .i64 r, .int .i64 c, .int .i64 q], .int .i64 1, .pointer (some ⟨g1, 1, none⟩), x35, x36, x37, x38, x39, x40, x41, x42, x43, x44, x45, x46, x47, x48, x49, x50, x51, x52, x53, x54, x55, x56, x57, x58, x59, x60], defers := [] } w1.drew
  refine wpAnyH_take (i := 3) (oi := { dst := some 35, op := Op.load 24 (Operand.tmp 34), type := 24, pos := "ref.go:85", after := #[{ on := 2, ground := Ground.data }], guard := none }) (v := .slice a0 n0 c0) rfl (by kernel_rfl) (by kernel_rfl) (by kernel_rfl) (fun _ _ _ h => (hQp _ _ _ h).elim) (Or.inl ⟨by kernel_rfl, ?_⟩) (HS.out _ hb) ?_
  · intro w' hSw
    obtain ⟨s0, s1, s2, s3, s4⟩ := HS1.out _ hSw
    go_simp <;> first | with_reducible rfl | assumption
  show wpAnyH Try.prog .any wops Q S 8 #[true, true, true, true, false, false, false, false, false, false, false, false] { tmps := #[x0, x1, x2, .int .i64 ix, .pointer (some ⟨g0, 0, none⟩), .pointer (some ⟨g1, 0, none⟩), x6, x7, x8, x9, x10, x11, x12, x13, x14, .int .i64 1, x16, x17, x18, x19, x20, x21, x22, x23, x24, x25, x26, x27, x28, x29, x30, x31, .agg #[.int .i64 k, .int .i64 r, .int .i64 c, .int .i64 q], .int .i64 1, .pointer (some ⟨g1, 1, none⟩), .slice a0 n0 c0, x36, x37, x38, x39, x40, x41, x42, x43, x44, x45, x46, x47, x48, x49, x50, x51, x52, x53, x54, x55, x56, x57, x58, x59, x60], defers := [] } w1.drew
  refine wpAnyH_take (i := 4) (oi := { dst := some 36, op := Op.move (Operand.tmp 3), type := 3, pos := "ref.go:85", after := #[], guard := none }) (v := .int .i64 ix) rfl (by kernel_rfl) (by kernel_rfl) (by kernel_rfl) (fun _ _ _ h => (hQp _ _ _ h).elim) (Or.inl ⟨by kernel_rfl, ?_⟩) (HS.out _ hb) ?_
  · intro w' hSw
    obtain ⟨s0, s1, s2, s3, s4⟩ := HS1.out _ hSw
    go_simp <;> first | with_reducible rfl | assumption
  show wpAnyH Try.prog .any wops Q S 7 #[true, true, true, true, true, false, false, false, false, false, false, false] { tmps := #[x0, x1, x2, .int .i64 ix, .pointer (some ⟨g0, 0, none⟩), .pointer (some ⟨g1, 0, none⟩), x6, x7, x8, x9, x10, x11, x12, x13, x14, .int .i64 1, x16, x17, x18, x19, x20, x21, x22, x23, x24, x25, x26, x27, x28, x29, x30, x31, .agg #[.int .i64 k, .int .i64 r, .int .i64 c, .int .i64 q], .int .i64 1, .pointer (some ⟨g1, 1, none⟩), .slice a0 n0 c0, .int .i64 ix, x37, x38, x39, x40, x41, x42, x43, x44, x45, x46, x47, x48, x49, x50, x51, x52, x53, x54, x55, x56, x57, x58, x59, x60], defers := [] } w1.drew
  exact H00.out _ hb
set_option maxHeartbeats 16000000 in
set_option maxRecDepth 100000 in
theorem RNewest_any {k r c q : Int} {N W : Nat} {x : Int} (h : Par k r c q N W x) (w : World) (a0 : Option Addr) (n0 c0 : Nat) (F0 : Nat → UInt8) (a1 : Option Addr) (n1 c1 : Nat) (F1 : Nat → UInt8) (h0 : Bec w a0 n0 c0 F0) (h1 : Bec w a1 n1 c1 F1) (l0 : n0 ≤ 9223372036854775807) (l1 : n1 ≤ 9223372036854775807) (kd : UInt8) (ix : Int) (E : Int) (hE : erC x N c n0 n1 ((kd.toNat : Nat) : Int) ix = E) (y0 y1 : Sl) (hy0 : he E N c ix n0 F0 = y0) (hy1 : he E N c ix n1 F1 = y1) :
    Calls Try.prog 12 #[.agg #[.int .i64 k, .int .i64 r, .int .i64 c, .int .i64 q], .agg #[.slice a0 n0 c0, .slice a1 n1 c1], .int .u8 ((kd.toNat : Nat) : Int), .int .i64 ix] w (AnsF w E (gN y0 y1 kd) (gZ y0 y1 kd) (gB y0 y1 kd)) := by
  obtain ⟨w0, hw0⟩ : ∃ w0, w0 = w.alloc (.cells #[.int .i64 k, .int .i64 r, .int .i64 c, .int .i64 q] 23) := ⟨_, rfl⟩
  have bw0 : Below w.heap.size w w0 := by rw [hw0]; exact below_alloc _ _
  have zw0 : w0.heap.size = w.heap.size + 1 := by rw [hw0]; simp
  obtain ⟨w1, hw1⟩ : ∃ w1, w1 = w0.alloc (.cells #[.slice a0 n0 c0, .slice a1 n1 c1] 26) := ⟨_, rfl⟩
  have bw1 : Below w0.heap.size w0 w1 := by rw [hw1]; exact below_alloc _ _
  have zw1 : w1.heap.size = w.heap.size + 1 + 1 := by rw [hw1]; simp [zw0]
  obtain ⟨w2, hw2⟩ : ∃ w2, w2 = w1.alloc (.cells #[.int .u8 0, .int .i64 0, .int .i64 0, .int .i64 0, .slice none 0 0, .slice none 0 0] 31) := ⟨_, rfl⟩
  have bw2 : Below w1.heap.size w1 w2 := by rw [hw2]; exact below_alloc _ _
  have zw2 : w2.heap.size = w.heap.size + 1 + 1 + 1 := by rw [hw2]; simp [zw1]
  have Bw : Hid (Below w.heap.size w w2) := (below_then (below_then bw0 bw1) bw2)
  have Lw0 : Hid (∀ v, Below w2.heap.size w2 v → At w v (w.heap.size) #[.int .i64 k, .int .i64 r, .int .i64 c, .int .i64 q] 23) := fun v hv => by exact (at_made (Below.refl _ _) hw0).below (below_then (below_then bw1 bw2) hv)
  have Lw1 : Hid (∀ v, Below w2.heap.size w2 v → At w v (w.heap.size + 1) #[.slice a0 n0 c0, .slice a1 n1 c1] 26) := fun v hv => by rw [← zw0]; exact (at_made bw0 hw1).below (below_then bw2 hv)
  have Lw2 : Hid (∀ v, Below w2.heap.size w2 v → At w v (w.heap.size + 1 + 1) #[.int .u8 0, .int .i64 0, .int .i64 0, .int .i64 0, .slice none 0 0, .slice none 0 0] 31) := fun v hv => by rw [← zw1]; exact (at_made (below_then bw0 bw1) hw2).below (below_then (Below.refl _ _) hv)
  have HAS : Hid (∀ u, Calls Try.prog 21 #[.agg #[.int .i64 k, .int .i64 r, .int .i64 c, .int .i64 q], .agg #[.slice a0 n0 c0, .slice a1 n1 c1], .int .u8 ((kd.toNat : Nat) : Int), .int .i64 ix] u fun e w' => e = .returned (.int .i64 E) ∧ Below u.heap.size u w') := fun u => by rw [← hE]; exact asked_any h u a0 n0 c0 a1 n1 c1 _ ix
  have HX : E = 0 → x = 0 := fun e => erQ_zero (erT_zero (erC_zero (hE.trans e)).1).1
  have HS2 : Hid (w2.heap.size = w.heap.size + 1 + 1 + 1) := zw2
  have HZ2 : Hid (¬ E = 0 → y0 = zSl ∧ y1 = zSl) := fun e => by
    rw [← hy0, ← hy1]; unfold he; rw [if_neg e, if_neg e]; exact ⟨rfl, rfl⟩
  clear hE
  unfold AnsF slv
  by_cases eC : E = 0
  · subst eC
    obtain rfl := HX rfl
    have u0 := he_nn hy0
    have u1 := he_nn hy1
    have HO0 : Hid (∀ v, Below w.heap.size w v → Calls Try.prog 24 #[.agg #[.int .i64 k, .int .i64 r, .int .i64 c, .int .i64 q], .slice a0 n0 c0, .int .i64 ix] v fun e w' => ∃ ao ca bo cb, e = .returned (.tuple #[slv y0 ao ca bo cb, .bool (decide (¬ y0.ce = 0))]) ∧ Got v.heap.size w' y0 ao ca bo cb ∧ Below v.heap.size v w') := fun v hv => Of_any h v a0 n0 c0 F0 (h0.below hv) l0 ix y0 hy0
    have HO1 : Hid (∀ v, Below w.heap.size w v → Calls Try.prog 24 #[.agg #[.int .i64 k, .int .i64 r, .int .i64 c, .int .i64 q], .slice a1 n1 c1, .int .i64 ix] v fun e w' => ∃ ao ca bo cb, e = .returned (.tuple #[slv y1 ao ca bo cb, .bool (decide (¬ y1.ce = 0))]) ∧ Got v.heap.size w' y1 ao ca bo cb ∧ Below v.heap.size v w') := fun v hv => Of_any h v a1 n1 c1 F1 (h1.below hv) l1 ix y1 hy1
    clear h h0 h1 l0 l1 hy0 hy1 HX HZ2
    unfold slv at HO0 HO1
    rcases gt_tests y0 kd 0 (Int.le_refl _) u0 with ⟨s0, s1⟩ | ⟨s0, s1, s2⟩ | ⟨s0, s1, s2, s3⟩ | ⟨s0, s1, s2, s3, s4⟩
    · rw [s1] at HO0
      have hb0 : ofK kd y0 = zSl := by
        unfold ofK at s0 ⊢
        by_cases e : y0.kd = kd
        · rw [if_pos e] at s0 ⊢
          exact u0.2 (by omega)
        · rw [if_neg e]
      rcases gt_tests y1 kd (0) (Int.le_refl _) u1 with ⟨t0, t1⟩ | ⟨t0, t1, t2⟩ | ⟨t0, t1, t2, t3⟩ | ⟨t0, t1, t2, t3, t4⟩
      · rw [t1] at HO1
        have hlt : ¬ (ofK kd y0).ce < (ofK kd y1).ce := by rw [hb0]; exact t0
        have hrs : gN y0 y1 kd = 0 ∧ gZ y0 y1 kd = zSl ∧ gB y0 y1 kd = false := by
          have hz : gZ y0 y1 kd = zSl := by unfold gZ; rw [if_neg hlt]; exact hb0
          refine ⟨by unfold gN; rw [if_neg hlt], hz, ?_⟩
          unfold gB
          rw [hz]
          exact rfl
        have HRES : Hid _ := hrs
        clear hrs hlt t0 t1 s0 s1 hb0 u0 u1
        go_enter Try.func12, Try.ntmps12
        go_wp2_with fail
        rw [← hw0, ← hw1, ← hw2]
        clear hw0 bw0 zw0 hw1 bw1 zw1 hw2 bw2 zw2
        refine (HAS.out _).mono ?_
        rintro e wa ⟨rfl, ha⟩
        have HA : Hid (Below w2.heap.size w2 wa) := ha
        clear ha HAS
        obtain ⟨wp, hwp⟩ : ∃ wp, wp = wa.alloc (.cells #[.int .u8 0, .int .i64 0, .int .i64 0, .int .i64 0, .slice none 0 0, .slice none 0 0] 31) := ⟨_, rfl⟩
        have HB : Hid (Below w2.heap.size w2 wp) := by show Below _ _ _; rw [hwp]; exact b_alloc HA.out _
        have HBK : Hid (At w2 wp (wa.heap.size) #[.int .u8 0, .int .i64 0, .int .i64 0, .int .i64 0, .slice none 0 0, .slice none 0 0] 31) := at_made HA.out hwp
        have HSZ : Hid (w2.heap.size + 1 ≤ wp.heap.size) := by show _ ≤ _; have := HBK.out.lt; have := HBK.out.1; omega
        go_wp2_with fail
        refine wp_loop_rounds 3 ?_
        rw [← hwp]
        clear hwp
        rw [rounds_succ]
        go_wp2_with fail
        have KS : Hid (∀ v, Below wp.heap.size wp v → v.cell? ⟨w.heap.size, 0, none⟩ = some (.int .i64 k) ∧ v.cell? ⟨w.heap.size, 1, none⟩ = some (.int .i64 r) ∧ v.cell? ⟨w.heap.size, 2, none⟩ = some (.int .i64 c) ∧ v.cell? ⟨w.heap.size, 3, none⟩ = some (.int .i64 q) ∧ v.cell? ⟨w.heap.size + 1, 0, none⟩ = some (.slice a0 n0 c0)) := fun v hv => by
          have q0 := (Lw0.out wp HB.out).below hv
          have q1 := (Lw1.out wp HB.out).below hv
          exact ⟨q0.cell (i := 0) rfl, q0.cell (i := 1) rfl, q0.cell (i := 2) rfl, q0.cell (i := 3) rfl, q1.cell (i := 0) rfl⟩
        refine wp_region_noPanic (new_reg0 wp k r c q ix (w.heap.size) (w.heap.size + 1) a0 n0 c0 y0 false _ _ _ _ _ _ _ _ _ _ _ _ _ _ _ _ _ _ _ _ _ _ _ _ _ _ _ _ _ _ _ _ _ _ _ _ _ _ _ _ _ _ _ _ _ _ _ _ _ _ _ _ _ _ _ _ _ (fun v hv => KS.out v hv) (fun v hv => HO0.out v (below_then Bw.out (below_then HB.out hv))) _ (fun _ _ _ h => h) (fun wb gwb aowb cawb bowb cbwb hb hat hgt => NoPanic.normal ?_))
        have HB2 : Hid (Below w2.heap.size w2 wb) := below_then HB.out hb
        have HGwb : Hid (Got wp.heap.size wb y0 aowb cawb bowb cbwb) := hgt
        have HSZwb : Hid (w2.heap.size + 1 ≤ wp.heap.size) := HSZ.out
        have HKB : Hid (At w2 wb (wa.heap.size) #[.int .u8 0, .int .i64 0, .int .i64 0, .int .i64 0, .slice none 0 0, .slice none 0 0] 31) := HBK.out.below hb
        have HSZ2 : Hid (w2.heap.size + 1 ≤ wb.heap.size) := Nat.le_trans HSZ.out hb.size
        have HDIF : Hid (¬ gwb = wa.heap.size) := by show ¬ _; have := hat.1; have := HBK.out.lt; omega
        clear hb hgt KS HB HBK HSZ
        have HB : Hid (Below w2.heap.size w2 wb) := HB2.out
        have HBK : Hid (At w2 wb (wa.heap.size) #[.int .u8 0, .int .i64 0, .int .i64 0, .int .i64 0, .slice none 0 0, .slice none 0 0] 31) := HKB.out
        have HSZ : Hid (w2.heap.size + 1 ≤ wb.heap.size) := HSZ2.out
        clear HB2 HKB HSZ2
        clear hat
        go_wp2_with fail
        clear HDIF
        clear HGwb HSZwb
        rw [rounds_succ]
        go_wp2_with fail
        have KS : Hid (∀ v, Below wb.heap.size wb v → v.cell? ⟨w.heap.size, 0, none⟩ = some (.int .i64 k) ∧ v.cell? ⟨w.heap.size, 1, none⟩ = some (.int .i64 r) ∧ v.cell? ⟨w.heap.size, 2, none⟩ = some (.int .i64 c) ∧ v.cell? ⟨w.heap.size, 3, none⟩ = some (.int .i64 q) ∧ v.cell? ⟨w.heap.size + 1, 1, none⟩ = some (.slice a1 n1 c1)) := fun v hv => by
          have q0 := (Lw0.out wb HB.out).below hv
          have q1 := (Lw1.out wb HB.out).below hv
          exact ⟨q0.cell (i := 0) rfl, q0.cell (i := 1) rfl, q0.cell (i := 2) rfl, q0.cell (i := 3) rfl, q1.cell (i := 1) rfl⟩
        refine wp_region_noPanic (new_reg1 wb k r c q ix (w.heap.size) (w.heap.size + 1) a1 n1 c1 y1 false _ _ _ _ _ _ _ _ _ _ _ _ _ _ _ _ _ _ _ _ _ _ _ _ _ _ _ _ _ _ _ _ _ _ _ _ _ _ _ _ _ _ _ _ _ _ _ _ _ _ _ _ _ _ _ _ _ (fun v hv => KS.out v hv) (fun v hv => HO1.out v (below_then Bw.out (below_then HB.out hv))) _ (fun _ _ _ h => h) (fun wc gwc aowc cawc bowc cbwc hb hat hgt => NoPanic.normal ?_))
        have HB2 : Hid (Below w2.heap.size w2 wc) := below_then HB.out hb
        have HGwc : Hid (Got wb.heap.size wc y1 aowc cawc bowc cbwc) := hgt
        have HSZwc : Hid (w2.heap.size + 1 ≤ wb.heap.size) := HSZ.out
        have HKB : Hid (At w2 wc (wa.heap.size) #[.int .u8 0, .int .i64 0, .int .i64 0, .int .i64 0, .slice none 0 0, .slice none 0 0] 31) := HBK.out.below hb
        have HSZ2 : Hid (w2.heap.size + 1 ≤ wc.heap.size) := Nat.le_trans HSZ.out hb.size
        have HDIF : Hid (¬ gwc = wa.heap.size) := by show ¬ _; have := hat.1; have := HBK.out.lt; omega
        clear hb hgt KS HB HBK HSZ
        have HB : Hid (Below w2.heap.size w2 wc) := HB2.out
        have HBK : Hid (At w2 wc (wa.heap.size) #[.int .u8 0, .int .i64 0, .int .i64 0, .int .i64 0, .slice none 0 0, .slice none 0 0] 31) := HKB.out
        have HSZ : Hid (w2.heap.size + 1 ≤ wc.heap.size) := HSZ2.out
        clear HB2 HKB HSZ2
        clear hat
        go_wp2_with fail
        clear HDIF
        clear HGwc HSZwc
        have q2 := Lw2.out wc HB.out
        have qb := HBK.out
        have r0 := q2.cell (i := 0) rfl
        have r1 := q2.cell (i := 1) rfl
        have r2 := q2.cell (i := 2) rfl
        have r3 := q2.cell (i := 3) rfl
        have r4 := q2.cell (i := 4) rfl
        have r5 := q2.cell (i := 5) rfl
        have rf := q2.free
        have b0 := qb.cell (i := 0) rfl
        have b1 := qb.cell (i := 1) rfl
        have b2 := qb.cell (i := 2) rfl
        have b3 := qb.cell (i := 3) rfl
        have b4 := qb.cell (i := 4) rfl
        have b5 := qb.cell (i := 5) rfl
        have nq : ¬ wa.heap.size = w.heap.size + 1 + 1 := by have := HA.out.size; have := HS2.out; omega
        have nq2 : ¬ w.heap.size + 1 + 1 = wa.heap.size := by omega
        clear q2 qb
        rw [rounds_succ]
        go_wp2_with fail
        go_region_held3 (fun v => v.cell? ⟨wa.heap.size, 0, none⟩ = some (.int .u8 0) ∧ v.cell? ⟨wa.heap.size, 1, none⟩ = some (.int .i64 0) ∧ v.cell? ⟨wa.heap.size, 2, none⟩ = some (.int .i64 0) ∧ v.cell? ⟨wa.heap.size, 3, none⟩ = some (.int .i64 0) ∧ v.cell? ⟨wa.heap.size, 4, none⟩ = some (.slice none 0 0) ∧ v.cell? ⟨wa.heap.size, 5, none⟩ = some (.slice none 0 0)) (go_keep) (fail)
        go_wp2_with fail
        refine bodyPost_ret (v := .tuple #[.int .i64 0, .agg #[.int .u8 0, .int .i64 0, .int .i64 0, .int .i64 0, .slice none 0 0, .slice none 0 0], .bool false, .int .i64 0]) (by simp [results, Try.results12, go_sem, r0, r1, r2, r3, r4, r5]) rfl ?_
        obtain ⟨g1, g2, g3⟩ := HRES.out
        rw [g1, g2, g3]
        have hal := below_then Bw.out HB.out
        have ho := (only_lo wc (w.heap.size + 1 + 1) (.int .u8 0) (.int .i64 0) (.int .i64 0) (.int .i64 0) (.slice none 0 0) (.slice none 0 0)).drew
        exact ⟨none, 0, none, 0, rfl, got_z _ _, hal.trans (ho.below (fun i hi => by omega) hal.size)⟩
      · rw [t1] at HO1
        have hlt : ¬ (ofK kd y0).ce < (ofK kd y1).ce := by rw [hb0]; exact t0
        have hrs : gN y0 y1 kd = 0 ∧ gZ y0 y1 kd = zSl ∧ gB y0 y1 kd = false := by
          have hz : gZ y0 y1 kd = zSl := by unfold gZ; rw [if_neg hlt]; exact hb0
          refine ⟨by unfold gN; rw [if_neg hlt], hz, ?_⟩
          unfold gB
          rw [hz]
          exact rfl
        have HRES : Hid _ := hrs
        clear hrs hlt t0 t1 s0 s1 hb0 u0 u1
        go_enter Try.func12, Try.ntmps12
        go_wp2_with fail
        rw [← hw0, ← hw1, ← hw2]
        clear hw0 bw0 zw0 hw1 bw1 zw1 hw2 bw2 zw2
        refine (HAS.out _).mono ?_
        rintro e wa ⟨rfl, ha⟩
        have HA : Hid (Below w2.heap.size w2 wa) := ha
        clear ha HAS
        obtain ⟨wp, hwp⟩ : ∃ wp, wp = wa.alloc (.cells #[.int .u8 0, .int .i64 0, .int .i64 0, .int .i64 0, .slice none 0 0, .slice none 0 0] 31) := ⟨_, rfl⟩
        have HB : Hid (Below w2.heap.size w2 wp) := by show Below _ _ _; rw [hwp]; exact b_alloc HA.out _
        have HBK : Hid (At w2 wp (wa.heap.size) #[.int .u8 0, .int .i64 0, .int .i64 0, .int .i64 0, .slice none 0 0, .slice none 0 0] 31) := at_made HA.out hwp
        have HSZ : Hid (w2.heap.size + 1 ≤ wp.heap.size) := by show _ ≤ _; have := HBK.out.lt; have := HBK.out.1; omega
        go_wp2_with fail
        refine wp_loop_rounds 3 ?_
        rw [← hwp]
        clear hwp
        rw [rounds_succ]
        go_wp2_with fail
        have KS : Hid (∀ v, Below wp.heap.size wp v → v.cell? ⟨w.heap.size, 0, none⟩ = some (.int .i64 k) ∧ v.cell? ⟨w.heap.size, 1, none⟩ = some (.int .i64 r) ∧ v.cell? ⟨w.heap.size, 2, none⟩ = some (.int .i64 c) ∧ v.cell? ⟨w.heap.size, 3, none⟩ = some (.int .i64 q) ∧ v.cell? ⟨w.heap.size + 1, 0, none⟩ = some (.slice a0 n0 c0)) := fun v hv => by
          have q0 := (Lw0.out wp HB.out).below hv
          have q1 := (Lw1.out wp HB.out).below hv
          exact ⟨q0.cell (i := 0) rfl, q0.cell (i := 1) rfl, q0.cell (i := 2) rfl, q0.cell (i := 3) rfl, q1.cell (i := 0) rfl⟩
        refine wp_region_noPanic (new_reg0 wp k r c q ix (w.heap.size) (w.heap.size + 1) a0 n0 c0 y0 false _ _ _ _ _ _ _ _ _ _ _ _ _ _ _ _ _ _ _ _ _ _ _ _ _ _ _ _ _ _ _ _ _ _ _ _ _ _ _ _ _ _ _ _ _ _ _ _ _ _ _ _ _ _ _ _ _ (fun v hv => KS.out v hv) (fun v hv => HO0.out v (below_then Bw.out (below_then HB.out hv))) _ (fun _ _ _ h => h) (fun wb gwb aowb cawb bowb cbwb hb hat hgt => NoPanic.normal ?_))
        have HB2 : Hid (Below w2.heap.size w2 wb) := below_then HB.out hb
        have HGwb : Hid (Got wp.heap.size wb y0 aowb cawb bowb cbwb) := hgt
        have HSZwb : Hid (w2.heap.size + 1 ≤ wp.heap.size) := HSZ.out
        have HKB : Hid (At w2 wb (wa.heap.size) #[.int .u8 0, .int .i64 0, .int .i64 0, .int .i64 0, .slice none 0 0, .slice none 0 0] 31) := HBK.out.below hb
        have HSZ2 : Hid (w2.heap.size + 1 ≤ wb.heap.size) := Nat.le_trans HSZ.out hb.size
        have HDIF : Hid (¬ gwb = wa.heap.size) := by show ¬ _; have := hat.1; have := HBK.out.lt; omega
        clear hb hgt KS HB HBK HSZ
        have HB : Hid (Below w2.heap.size w2 wb) := HB2.out
        have HBK : Hid (At w2 wb (wa.heap.size) #[.int .u8 0, .int .i64 0, .int .i64 0, .int .i64 0, .slice none 0 0, .slice none 0 0] 31) := HKB.out
        have HSZ : Hid (w2.heap.size + 1 ≤ wb.heap.size) := HSZ2.out
        clear HB2 HKB HSZ2
        clear hat
        go_wp2_with fail
        clear HDIF
        clear HGwb HSZwb
        rw [rounds_succ]
        go_wp2_with fail
        have KS : Hid (∀ v, Below wb.heap.size wb v → v.cell? ⟨w.heap.size, 0, none⟩ = some (.int .i64 k) ∧ v.cell? ⟨w.heap.size, 1, none⟩ = some (.int .i64 r) ∧ v.cell? ⟨w.heap.size, 2, none⟩ = some (.int .i64 c) ∧ v.cell? ⟨w.heap.size, 3, none⟩ = some (.int .i64 q) ∧ v.cell? ⟨w.heap.size + 1, 1, none⟩ = some (.slice a1 n1 c1)) := fun v hv => by
          have q0 := (Lw0.out wb HB.out).below hv
          have q1 := (Lw1.out wb HB.out).below hv
          exact ⟨q0.cell (i := 0) rfl, q0.cell (i := 1) rfl, q0.cell (i := 2) rfl, q0.cell (i := 3) rfl, q1.cell (i := 1) rfl⟩
        refine wp_region_noPanic (new_reg1 wb k r c q ix (w.heap.size) (w.heap.size + 1) a1 n1 c1 y1 true _ _ _ _ _ _ _ _ _ _ _ _ _ _ _ _ _ _ _ _ _ _ _ _ _ _ _ _ _ _ _ _ _ _ _ _ _ _ _ _ _ _ _ _ _ _ _ _ _ _ _ _ _ _ _ _ _ (fun v hv => KS.out v hv) (fun v hv => HO1.out v (below_then Bw.out (below_then HB.out hv))) _ (fun _ _ _ h => h) (fun wc gwc aowc cawc bowc cbwc hb hat hgt => NoPanic.normal ?_))
        have HB2 : Hid (Below w2.heap.size w2 wc) := below_then HB.out hb
        have HGwc : Hid (Got wb.heap.size wc y1 aowc cawc bowc cbwc) := hgt
        have HSZwc : Hid (w2.heap.size + 1 ≤ wb.heap.size) := HSZ.out
        have HKB : Hid (At w2 wc (wa.heap.size) #[.int .u8 0, .int .i64 0, .int .i64 0, .int .i64 0, .slice none 0 0, .slice none 0 0] 31) := HBK.out.below hb
        have HSZ2 : Hid (w2.heap.size + 1 ≤ wc.heap.size) := Nat.le_trans HSZ.out hb.size
        have HDIF : Hid (¬ gwc = wa.heap.size) := by show ¬ _; have := hat.1; have := HBK.out.lt; omega
        clear hb hgt KS HB HBK HSZ
        have HB : Hid (Below w2.heap.size w2 wc) := HB2.out
        have HBK : Hid (At w2 wc (wa.heap.size) #[.int .u8 0, .int .i64 0, .int .i64 0, .int .i64 0, .slice none 0 0, .slice none 0 0] 31) := HKB.out
        have HSZ : Hid (w2.heap.size + 1 ≤ wc.heap.size) := HSZ2.out
        clear HB2 HKB HSZ2
        have m0 := hat.cell (i := 0) rfl
        have m1 := hat.cell (i := 1) rfl
        have m2 := hat.cell (i := 2) rfl
        have m3 := hat.cell (i := 3) rfl
        have m4 := hat.cell (i := 4) rfl
        have m5 := hat.cell (i := 5) rfl
        have qb := HBK.out
        have b0 := qb.cell (i := 0) rfl
        have b1 := qb.cell (i := 1) rfl
        have b2 := qb.cell (i := 2) rfl
        have b3 := qb.cell (i := 3) rfl
        have b4 := qb.cell (i := 4) rfl
        have b5 := qb.cell (i := 5) rfl
        have bf := qb.free
        clear qb
        have nq := HDIF.out
        have nq2 : ¬ wa.heap.size = gwc := by omega
        clear hat
        go_wp2_with fail
        clear m0 m1 m2 m3 m4 m5 b0 b1 b2 b3 b4 b5 bf nq nq2
        clear HDIF
        clear HGwc HSZwc
        have q2 := Lw2.out wc HB.out
        have qb := HBK.out
        have r0 := q2.cell (i := 0) rfl
        have r1 := q2.cell (i := 1) rfl
        have r2 := q2.cell (i := 2) rfl
        have r3 := q2.cell (i := 3) rfl
        have r4 := q2.cell (i := 4) rfl
        have r5 := q2.cell (i := 5) rfl
        have rf := q2.free
        have b0 := qb.cell (i := 0) rfl
        have b1 := qb.cell (i := 1) rfl
        have b2 := qb.cell (i := 2) rfl
        have b3 := qb.cell (i := 3) rfl
        have b4 := qb.cell (i := 4) rfl
        have b5 := qb.cell (i := 5) rfl
        have nq : ¬ wa.heap.size = w.heap.size + 1 + 1 := by have := HA.out.size; have := HS2.out; omega
        have nq2 : ¬ w.heap.size + 1 + 1 = wa.heap.size := by omega
        clear q2 qb
        rw [rounds_succ]
        go_wp2_with fail
        go_region_held3 (fun v => v.cell? ⟨wa.heap.size, 0, none⟩ = some (.int .u8 0) ∧ v.cell? ⟨wa.heap.size, 1, none⟩ = some (.int .i64 0) ∧ v.cell? ⟨wa.heap.size, 2, none⟩ = some (.int .i64 0) ∧ v.cell? ⟨wa.heap.size, 3, none⟩ = some (.int .i64 0) ∧ v.cell? ⟨wa.heap.size, 4, none⟩ = some (.slice none 0 0) ∧ v.cell? ⟨wa.heap.size, 5, none⟩ = some (.slice none 0 0)) (go_keep) (fail)
        go_wp2_with fail
        refine bodyPost_ret (v := .tuple #[.int .i64 0, .agg #[.int .u8 0, .int .i64 0, .int .i64 0, .int .i64 0, .slice none 0 0, .slice none 0 0], .bool false, .int .i64 0]) (by simp [results, Try.results12, go_sem, r0, r1, r2, r3, r4, r5]) rfl ?_
        obtain ⟨g1, g2, g3⟩ := HRES.out
        rw [g1, g2, g3]
        have hal := below_then Bw.out HB.out
        have ho := (only_lo wc (w.heap.size + 1 + 1) (.int .u8 0) (.int .i64 0) (.int .i64 0) (.int .i64 0) (.slice none 0 0) (.slice none 0 0)).drew
        exact ⟨none, 0, none, 0, rfl, got_z _ _, hal.trans (ho.below (fun i hi => by omega) hal.size)⟩
      · rw [t1] at HO1
        exfalso
        have := of_decide_eq_true t1
        omega
      · rw [t1] at HO1
        have hlt : (ofK kd y0).ce < (ofK kd y1).ce := by rw [hb0]; exact t0
        have hrs : gN y0 y1 kd = 1 ∧ gZ y0 y1 kd = y1 ∧ gB y0 y1 kd = true := by
          have hz : gZ y0 y1 kd = y1 := by unfold gZ; rw [if_pos hlt]; exact t4
          refine ⟨by unfold gN; rw [if_pos hlt], hz, ?_⟩
          unfold gB
          rw [hz]
          exact decide_eq_true (by omega)
        have HRES : Hid _ := hrs
        clear hrs hlt t0 t1 s0 s1 hb0 u0 u1 t4
        go_enter Try.func12, Try.ntmps12
        go_wp2_with fail
        rw [← hw0, ← hw1, ← hw2]
        clear hw0 bw0 zw0 hw1 bw1 zw1 hw2 bw2 zw2
        refine (HAS.out _).mono ?_
        rintro e wa ⟨rfl, ha⟩
        have HA : Hid (Below w2.heap.size w2 wa) := ha
        clear ha HAS
        obtain ⟨wp, hwp⟩ : ∃ wp, wp = wa.alloc (.cells #[.int .u8 0, .int .i64 0, .int .i64 0, .int .i64 0, .slice none 0 0, .slice none 0 0] 31) := ⟨_, rfl⟩
        have HB : Hid (Below w2.heap.size w2 wp) := by show Below _ _ _; rw [hwp]; exact b_alloc HA.out _
        have HBK : Hid (At w2 wp (wa.heap.size) #[.int .u8 0, .int .i64 0, .int .i64 0, .int .i64 0, .slice none 0 0, .slice none 0 0] 31) := at_made HA.out hwp
        have HSZ : Hid (w2.heap.size + 1 ≤ wp.heap.size) := by show _ ≤ _; have := HBK.out.lt; have := HBK.out.1; omega
        go_wp2_with fail
        refine wp_loop_rounds 3 ?_
        rw [← hwp]
        clear hwp
        rw [rounds_succ]
        go_wp2_with fail
        have KS : Hid (∀ v, Below wp.heap.size wp v → v.cell? ⟨w.heap.size, 0, none⟩ = some (.int .i64 k) ∧ v.cell? ⟨w.heap.size, 1, none⟩ = some (.int .i64 r) ∧ v.cell? ⟨w.heap.size, 2, none⟩ = some (.int .i64 c) ∧ v.cell? ⟨w.heap.size, 3, none⟩ = some (.int .i64 q) ∧ v.cell? ⟨w.heap.size + 1, 0, none⟩ = some (.slice a0 n0 c0)) := fun v hv => by
          have q0 := (Lw0.out wp HB.out).below hv
          have q1 := (Lw1.out wp HB.out).below hv
          exact ⟨q0.cell (i := 0) rfl, q0.cell (i := 1) rfl, q0.cell (i := 2) rfl, q0.cell (i := 3) rfl, q1.cell (i := 0) rfl⟩
        refine wp_region_noPanic (new_reg0 wp k r c q ix (w.heap.size) (w.heap.size + 1) a0 n0 c0 y0 false _ _ _ _ _ _ _ _ _ _ _ _ _ _ _ _ _ _ _ _ _ _ _ _ _ _ _ _ _ _ _ _ _ _ _ _ _ _ _ _ _ _ _ _ _ _ _ _ _ _ _ _ _ _ _ _ _ (fun v hv => KS.out v hv) (fun v hv => HO0.out v (below_then Bw.out (below_then HB.out hv))) _ (fun _ _ _ h => h) (fun wb gwb aowb cawb bowb cbwb hb hat hgt => NoPanic.normal ?_))
        have HB2 : Hid (Below w2.heap.size w2 wb) := below_then HB.out hb
        have HGwb : Hid (Got wp.heap.size wb y0 aowb cawb bowb cbwb) := hgt
        have HSZwb : Hid (w2.heap.size + 1 ≤ wp.heap.size) := HSZ.out
        have HKB : Hid (At w2 wb (wa.heap.size) #[.int .u8 0, .int .i64 0, .int .i64 0, .int .i64 0, .slice none 0 0, .slice none 0 0] 31) := HBK.out.below hb
        have HSZ2 : Hid (w2.heap.size + 1 ≤ wb.heap.size) := Nat.le_trans HSZ.out hb.size
        have HDIF : Hid (¬ gwb = wa.heap.size) := by show ¬ _; have := hat.1; have := HBK.out.lt; omega
        clear hb hgt KS HB HBK HSZ
        have HB : Hid (Below w2.heap.size w2 wb) := HB2.out
        have HBK : Hid (At w2 wb (wa.heap.size) #[.int .u8 0, .int .i64 0, .int .i64 0, .int .i64 0, .slice none 0 0, .slice none 0 0] 31) := HKB.out
        have HSZ : Hid (w2.heap.size + 1 ≤ wb.heap.size) := HSZ2.out
        clear HB2 HKB HSZ2
        clear hat
        go_wp2_with fail
        clear HDIF
        clear HGwb HSZwb
        rw [rounds_succ]
        go_wp2_with fail
        have KS : Hid (∀ v, Below wb.heap.size wb v → v.cell? ⟨w.heap.size, 0, none⟩ = some (.int .i64 k) ∧ v.cell? ⟨w.heap.size, 1, none⟩ = some (.int .i64 r) ∧ v.cell? ⟨w.heap.size, 2, none⟩ = some (.int .i64 c) ∧ v.cell? ⟨w.heap.size, 3, none⟩ = some (.int .i64 q) ∧ v.cell? ⟨w.heap.size + 1, 1, none⟩ = some (.slice a1 n1 c1)) := fun v hv => by
          have q0 := (Lw0.out wb HB.out).below hv
          have q1 := (Lw1.out wb HB.out).below hv
          exact ⟨q0.cell (i := 0) rfl, q0.cell (i := 1) rfl, q0.cell (i := 2) rfl, q0.cell (i := 3) rfl, q1.cell (i := 1) rfl⟩
        refine wp_region_noPanic (new_reg1 wb k r c q ix (w.heap.size) (w.heap.size + 1) a1 n1 c1 y1 true _ _ _ _ _ _ _ _ _ _ _ _ _ _ _ _ _ _ _ _ _ _ _ _ _ _ _ _ _ _ _ _ _ _ _ _ _ _ _ _ _ _ _ _ _ _ _ _ _ _ _ _ _ _ _ _ _ (fun v hv => KS.out v hv) (fun v hv => HO1.out v (below_then Bw.out (below_then HB.out hv))) _ (fun _ _ _ h => h) (fun wc gwc aowc cawc bowc cbwc hb hat hgt => NoPanic.normal ?_))
        have HB2 : Hid (Below w2.heap.size w2 wc) := below_then HB.out hb
        have HGwc : Hid (Got wb.heap.size wc y1 aowc cawc bowc cbwc) := hgt
        have HSZwc : Hid (w2.heap.size + 1 ≤ wb.heap.size) := HSZ.out
        have HKB : Hid (At w2 wc (wa.heap.size) #[.int .u8 0, .int .i64 0, .int .i64 0, .int .i64 0, .slice none 0 0, .slice none 0 0] 31) := HBK.out.below hb
        have HSZ2 : Hid (w2.heap.size + 1 ≤ wc.heap.size) := Nat.le_trans HSZ.out hb.size
        have HDIF : Hid (¬ gwc = wa.heap.size) := by show ¬ _; have := hat.1; have := HBK.out.lt; omega
        clear hb hgt KS HB HBK HSZ
        have HB : Hid (Below w2.heap.size w2 wc) := HB2.out
        have HBK : Hid (At w2 wc (wa.heap.size) #[.int .u8 0, .int .i64 0, .int .i64 0, .int .i64 0, .slice none 0 0, .slice none 0 0] 31) := HKB.out
        have HSZ : Hid (w2.heap.size + 1 ≤ wc.heap.size) := HSZ2.out
        clear HB2 HKB HSZ2
        have m0 := hat.cell (i := 0) rfl
        have m1 := hat.cell (i := 1) rfl
        have m2 := hat.cell (i := 2) rfl
        have m3 := hat.cell (i := 3) rfl
        have m4 := hat.cell (i := 4) rfl
        have m5 := hat.cell (i := 5) rfl
        have qb := HBK.out
        have b0 := qb.cell (i := 0) rfl
        have b1 := qb.cell (i := 1) rfl
        have b2 := qb.cell (i := 2) rfl
        have b3 := qb.cell (i := 3) rfl
        have b4 := qb.cell (i := 4) rfl
        have b5 := qb.cell (i := 5) rfl
        have bf := qb.free
        clear qb
        have nq := HDIF.out
        have nq2 : ¬ wa.heap.size = gwc := by omega
        clear hat
        go_wp2_with fail
        clear m0 m1 m2 m3 m4 m5 b0 b1 b2 b3 b4 b5 bf nq nq2
        clear HDIF
        obtain ⟨wcs, hwcs⟩ : ∃ wcs, wcs = ((((((wc.setCell ⟨wa.heap.size, 0, none⟩ (.int .u8 ((y1.kd.toNat : Nat) : Int))).setCell ⟨wa.heap.size, 1, none⟩ (.int .i64 y1.ix)).setCell ⟨wa.heap.size, 2, none⟩ (.int .i64 y1.ce)).setCell ⟨wa.heap.size, 3, none⟩ (.int .i64 y1.st)).setCell ⟨wa.heap.size, 4, none⟩ (.slice aowc y1.vn cawc)).setCell ⟨wa.heap.size, 5, none⟩ (.slice bowc y1.dn cbwc)) := ⟨_, rfl⟩
        have HO : Hid (Only (fun x => x = wa.heap.size) wc wcs) := by show Only _ _ _; rw [hwcs]; exact only_lo wc (wa.heap.size) (.int .u8 ((y1.kd.toNat : Nat) : Int)) (.int .i64 y1.ix) (.int .i64 y1.ce) (.int .i64 y1.st) (.slice aowc y1.vn cawc) (.slice bowc y1.dn cbwc)
        have HBK2 : Hid (At w2 wcs (wa.heap.size) #[.int .u8 ((y1.kd.toNat : Nat) : Int), .int .i64 y1.ix, .int .i64 y1.ce, .int .i64 y1.st, .slice aowc y1.vn cawc, .slice bowc y1.dn cbwc] 31) := by show At _ _ _ _ _; rw [hwcs]; exact at_six HBK.out (.int .u8 ((y1.kd.toNat : Nat) : Int)) (.int .i64 y1.ix) (.int .i64 y1.ce) (.int .i64 y1.st) (.slice aowc y1.vn cawc) (.slice bowc y1.dn cbwc)
        have HB2 : Hid (Below w2.heap.size w2 wcs) := HB.out.trans (HO.out.below (fun i hi => by have := HA.out.size; omega) HB.out.size)
        have HSZ2 : Hid (w2.heap.size + 1 ≤ wcs.heap.size) := Nat.le_trans HSZ.out HO.out.size
        have HGB2 : Hid (Got w2.heap.size wcs y1 aowc cawc bowc cbwc) := (HGwc.out.mono (by have := HSZwc.out; omega)).apart HO.out HBK.out
        rw [← hwcs]
        clear hwcs HO HBK HB HSZ HGwc HSZwc
        have HBK : Hid (At w2 wcs (wa.heap.size) #[.int .u8 ((y1.kd.toNat : Nat) : Int), .int .i64 y1.ix, .int .i64 y1.ce, .int .i64 y1.st, .slice aowc y1.vn cawc, .slice bowc y1.dn cbwc] 31) := HBK2.out
        have HB : Hid (Below w2.heap.size w2 wcs) := HB2.out
        have HSZ : Hid (w2.heap.size + 1 ≤ wcs.heap.size) := HSZ2.out
        have HGB : Hid (Got w2.heap.size wcs y1 aowc cawc bowc cbwc) := HGB2.out
        clear HBK2 HB2 HSZ2 HGB2
        have q2 := Lw2.out wcs HB.out
        have qb := HBK.out
        have r0 := q2.cell (i := 0) rfl
        have r1 := q2.cell (i := 1) rfl
        have r2 := q2.cell (i := 2) rfl
        have r3 := q2.cell (i := 3) rfl
        have r4 := q2.cell (i := 4) rfl
        have r5 := q2.cell (i := 5) rfl
        have rf := q2.free
        have b0 := qb.cell (i := 0) rfl
        have b1 := qb.cell (i := 1) rfl
        have b2 := qb.cell (i := 2) rfl
        have b3 := qb.cell (i := 3) rfl
        have b4 := qb.cell (i := 4) rfl
        have b5 := qb.cell (i := 5) rfl
        have nq : ¬ wa.heap.size = w.heap.size + 1 + 1 := by have := HA.out.size; have := HS2.out; omega
        have nq2 : ¬ w.heap.size + 1 + 1 = wa.heap.size := by omega
        clear q2 qb
        rw [rounds_succ]
        go_wp2_with fail
        go_region_held3 (fun v => v.cell? ⟨wa.heap.size, 0, none⟩ = some (.int .u8 ((y1.kd.toNat : Nat) : Int)) ∧ v.cell? ⟨wa.heap.size, 1, none⟩ = some (.int .i64 y1.ix) ∧ v.cell? ⟨wa.heap.size, 2, none⟩ = some (.int .i64 y1.ce) ∧ v.cell? ⟨wa.heap.size, 3, none⟩ = some (.int .i64 y1.st) ∧ v.cell? ⟨wa.heap.size, 4, none⟩ = some (.slice aowc y1.vn cawc) ∧ v.cell? ⟨wa.heap.size, 5, none⟩ = some (.slice bowc y1.dn cbwc)) (go_keep) (fail)
        go_wp2_with fail
        refine bodyPost_ret (v := .tuple #[.int .i64 1, .agg #[.int .u8 ((y1.kd.toNat : Nat) : Int), .int .i64 y1.ix, .int .i64 y1.ce, .int .i64 y1.st, .slice aowc y1.vn cawc, .slice bowc y1.dn cbwc], .bool true, .int .i64 0]) (by simp [results, Try.results12, go_sem, r0, r1, r2, r3, r4, r5]) rfl ?_
        obtain ⟨g1, g2, g3⟩ := HRES.out
        rw [g1, g2, g3]
        have hal := below_then Bw.out HB.out
        have ho := (only_lo wcs (w.heap.size + 1 + 1) (.int .u8 ((y1.kd.toNat : Nat) : Int)) (.int .i64 y1.ix) (.int .i64 y1.ce) (.int .i64 y1.st) (.slice aowc y1.vn cawc) (.slice bowc y1.dn cbwc)).drew
        exact ⟨aowc, cawc, bowc, cbwc, rfl, (HGB.out.stay ho (by have := HS2.out; omega)).mono (by have := HS2.out; omega), hal.trans (ho.below (fun i hi => by omega) hal.size)⟩
    · rw [s1] at HO0
      have hb0 : ofK kd y0 = zSl := by
        unfold ofK at s0 ⊢
        by_cases e : y0.kd = kd
        · rw [if_pos e] at s0 ⊢
          exact u0.2 (by omega)
        · rw [if_neg e]
      rcases gt_tests y1 kd (0) (Int.le_refl _) u1 with ⟨t0, t1⟩ | ⟨t0, t1, t2⟩ | ⟨t0, t1, t2, t3⟩ | ⟨t0, t1, t2, t3, t4⟩
      · rw [t1] at HO1
        have hlt : ¬ (ofK kd y0).ce < (ofK kd y1).ce := by rw [hb0]; exact t0
        have hrs : gN y0 y1 kd = 0 ∧ gZ y0 y1 kd = zSl ∧ gB y0 y1 kd = false := by
          have hz : gZ y0 y1 kd = zSl := by unfold gZ; rw [if_neg hlt]; exact hb0
          refine ⟨by unfold gN; rw [if_neg hlt], hz, ?_⟩
          unfold gB
          rw [hz]
          exact rfl
        have HRES : Hid _ := hrs
        clear hrs hlt t0 t1 s0 s1 hb0 u0 u1
        go_enter Try.func12, Try.ntmps12
        go_wp2_with fail
        rw [← hw0, ← hw1, ← hw2]
        clear hw0 bw0 zw0 hw1 bw1 zw1 hw2 bw2 zw2
        refine (HAS.out _).mono ?_
        rintro e wa ⟨rfl, ha⟩
        have HA : Hid (Below w2.heap.size w2 wa) := ha
        clear ha HAS
        obtain ⟨wp, hwp⟩ : ∃ wp, wp = wa.alloc (.cells #[.int .u8 0, .int .i64 0, .int .i64 0, .int .i64 0, .slice none 0 0, .slice none 0 0] 31) := ⟨_, rfl⟩
        have HB : Hid (Below w2.heap.size w2 wp) := by show Below _ _ _; rw [hwp]; exact b_alloc HA.out _
        have HBK : Hid (At w2 wp (wa.heap.size) #[.int .u8 0, .int .i64 0, .int .i64 0, .int .i64 0, .slice none 0 0, .slice none 0 0] 31) := at_made HA.out hwp
        have HSZ : Hid (w2.heap.size + 1 ≤ wp.heap.size) := by show _ ≤ _; have := HBK.out.lt; have := HBK.out.1; omega
        go_wp2_with fail
        refine wp_loop_rounds 3 ?_
        rw [← hwp]
        clear hwp
        rw [rounds_succ]
        go_wp2_with fail
        have KS : Hid (∀ v, Below wp.heap.size wp v → v.cell? ⟨w.heap.size, 0, none⟩ = some (.int .i64 k) ∧ v.cell? ⟨w.heap.size, 1, none⟩ = some (.int .i64 r) ∧ v.cell? ⟨w.heap.size, 2, none⟩ = some (.int .i64 c) ∧ v.cell? ⟨w.heap.size, 3, none⟩ = some (.int .i64 q) ∧ v.cell? ⟨w.heap.size + 1, 0, none⟩ = some (.slice a0 n0 c0)) := fun v hv => by
          have q0 := (Lw0.out wp HB.out).below hv
          have q1 := (Lw1.out wp HB.out).below hv
          exact ⟨q0.cell (i := 0) rfl, q0.cell (i := 1) rfl, q0.cell (i := 2) rfl, q0.cell (i := 3) rfl, q1.cell (i := 0) rfl⟩
        refine wp_region_noPanic (new_reg0 wp k r c q ix (w.heap.size) (w.heap.size + 1) a0 n0 c0 y0 true _ _ _ _ _ _ _ _ _ _ _ _ _ _ _ _ _ _ _ _ _ _ _ _ _ _ _ _ _ _ _ _ _ _ _ _ _ _ _ _ _ _ _ _ _ _ _ _ _ _ _ _ _ _ _ _ _ (fun v hv => KS.out v hv) (fun v hv => HO0.out v (below_then Bw.out (below_then HB.out hv))) _ (fun _ _ _ h => h) (fun wb gwb aowb cawb bowb cbwb hb hat hgt => NoPanic.normal ?_))
        have HB2 : Hid (Below w2.heap.size w2 wb) := below_then HB.out hb
        have HGwb : Hid (Got wp.heap.size wb y0 aowb cawb bowb cbwb) := hgt
        have HSZwb : Hid (w2.heap.size + 1 ≤ wp.heap.size) := HSZ.out
        have HKB : Hid (At w2 wb (wa.heap.size) #[.int .u8 0, .int .i64 0, .int .i64 0, .int .i64 0, .slice none 0 0, .slice none 0 0] 31) := HBK.out.below hb
        have HSZ2 : Hid (w2.heap.size + 1 ≤ wb.heap.size) := Nat.le_trans HSZ.out hb.size
        have HDIF : Hid (¬ gwb = wa.heap.size) := by show ¬ _; have := hat.1; have := HBK.out.lt; omega
        clear hb hgt KS HB HBK HSZ
        have HB : Hid (Below w2.heap.size w2 wb) := HB2.out
        have HBK : Hid (At w2 wb (wa.heap.size) #[.int .u8 0, .int .i64 0, .int .i64 0, .int .i64 0, .slice none 0 0, .slice none 0 0] 31) := HKB.out
        have HSZ : Hid (w2.heap.size + 1 ≤ wb.heap.size) := HSZ2.out
        clear HB2 HKB HSZ2
        have m0 := hat.cell (i := 0) rfl
        have m1 := hat.cell (i := 1) rfl
        have m2 := hat.cell (i := 2) rfl
        have m3 := hat.cell (i := 3) rfl
        have m4 := hat.cell (i := 4) rfl
        have m5 := hat.cell (i := 5) rfl
        have qb := HBK.out
        have b0 := qb.cell (i := 0) rfl
        have b1 := qb.cell (i := 1) rfl
        have b2 := qb.cell (i := 2) rfl
        have b3 := qb.cell (i := 3) rfl
        have b4 := qb.cell (i := 4) rfl
        have b5 := qb.cell (i := 5) rfl
        have bf := qb.free
        clear qb
        have nq := HDIF.out
        have nq2 : ¬ wa.heap.size = gwb := by omega
        clear hat
        go_wp2_with fail
        clear m0 m1 m2 m3 m4 m5 b0 b1 b2 b3 b4 b5 bf nq nq2
        clear HDIF
        clear HGwb HSZwb
        rw [rounds_succ]
        go_wp2_with fail
        have KS : Hid (∀ v, Below wb.heap.size wb v → v.cell? ⟨w.heap.size, 0, none⟩ = some (.int .i64 k) ∧ v.cell? ⟨w.heap.size, 1, none⟩ = some (.int .i64 r) ∧ v.cell? ⟨w.heap.size, 2, none⟩ = some (.int .i64 c) ∧ v.cell? ⟨w.heap.size, 3, none⟩ = some (.int .i64 q) ∧ v.cell? ⟨w.heap.size + 1, 1, none⟩ = some (.slice a1 n1 c1)) := fun v hv => by
          have q0 := (Lw0.out wb HB.out).below hv
          have q1 := (Lw1.out wb HB.out).below hv
          exact ⟨q0.cell (i := 0) rfl, q0.cell (i := 1) rfl, q0.cell (i := 2) rfl, q0.cell (i := 3) rfl, q1.cell (i := 1) rfl⟩
        refine wp_region_noPanic (new_reg1 wb k r c q ix (w.heap.size) (w.heap.size + 1) a1 n1 c1 y1 false _ _ _ _ _ _ _ _ _ _ _ _ _ _ _ _ _ _ _ _ _ _ _ _ _ _ _ _ _ _ _ _ _ _ _ _ _ _ _ _ _ _ _ _ _ _ _ _ _ _ _ _ _ _ _ _ _ (fun v hv => KS.out v hv) (fun v hv => HO1.out v (below_then Bw.out (below_then HB.out hv))) _ (fun _ _ _ h => h) (fun wc gwc aowc cawc bowc cbwc hb hat hgt => NoPanic.normal ?_))
        have HB2 : Hid (Below w2.heap.size w2 wc) := below_then HB.out hb
        have HGwc : Hid (Got wb.heap.size wc y1 aowc cawc bowc cbwc) := hgt
        have HSZwc : Hid (w2.heap.size + 1 ≤ wb.heap.size) := HSZ.out
        have HKB : Hid (At w2 wc (wa.heap.size) #[.int .u8 0, .int .i64 0, .int .i64 0, .int .i64 0, .slice none 0 0, .slice none 0 0] 31) := HBK.out.below hb
        have HSZ2 : Hid (w2.heap.size + 1 ≤ wc.heap.size) := Nat.le_trans HSZ.out hb.size
        have HDIF : Hid (¬ gwc = wa.heap.size) := by show ¬ _; have := hat.1; have := HBK.out.lt; omega
        clear hb hgt KS HB HBK HSZ
        have HB : Hid (Below w2.heap.size w2 wc) := HB2.out
        have HBK : Hid (At w2 wc (wa.heap.size) #[.int .u8 0, .int .i64 0, .int .i64 0, .int .i64 0, .slice none 0 0, .slice none 0 0] 31) := HKB.out
        have HSZ : Hid (w2.heap.size + 1 ≤ wc.heap.size) := HSZ2.out
        clear HB2 HKB HSZ2
        clear hat
        go_wp2_with fail
        clear HDIF
        clear HGwc HSZwc
        have q2 := Lw2.out wc HB.out
        have qb := HBK.out
        have r0 := q2.cell (i := 0) rfl
        have r1 := q2.cell (i := 1) rfl
        have r2 := q2.cell (i := 2) rfl
        have r3 := q2.cell (i := 3) rfl
        have r4 := q2.cell (i := 4) rfl
        have r5 := q2.cell (i := 5) rfl
        have rf := q2.free
        have b0 := qb.cell (i := 0) rfl
        have b1 := qb.cell (i := 1) rfl
        have b2 := qb.cell (i := 2) rfl
        have b3 := qb.cell (i := 3) rfl
        have b4 := qb.cell (i := 4) rfl
        have b5 := qb.cell (i := 5) rfl
        have nq : ¬ wa.heap.size = w.heap.size + 1 + 1 := by have := HA.out.size; have := HS2.out; omega
        have nq2 : ¬ w.heap.size + 1 + 1 = wa.heap.size := by omega
        clear q2 qb
        rw [rounds_succ]
        go_wp2_with fail
        go_region_held3 (fun v => v.cell? ⟨wa.heap.size, 0, none⟩ = some (.int .u8 0) ∧ v.cell? ⟨wa.heap.size, 1, none⟩ = some (.int .i64 0) ∧ v.cell? ⟨wa.heap.size, 2, none⟩ = some (.int .i64 0) ∧ v.cell? ⟨wa.heap.size, 3, none⟩ = some (.int .i64 0) ∧ v.cell? ⟨wa.heap.size, 4, none⟩ = some (.slice none 0 0) ∧ v.cell? ⟨wa.heap.size, 5, none⟩ = some (.slice none 0 0)) (go_keep) (fail)
        go_wp2_with fail
        refine bodyPost_ret (v := .tuple #[.int .i64 0, .agg #[.int .u8 0, .int .i64 0, .int .i64 0, .int .i64 0, .slice none 0 0, .slice none 0 0], .bool false, .int .i64 0]) (by simp [results, Try.results12, go_sem, r0, r1, r2, r3, r4, r5]) rfl ?_
        obtain ⟨g1, g2, g3⟩ := HRES.out
        rw [g1, g2, g3]
        have hal := below_then Bw.out HB.out
        have ho := (only_lo wc (w.heap.size + 1 + 1) (.int .u8 0) (.int .i64 0) (.int .i64 0) (.int .i64 0) (.slice none 0 0) (.slice none 0 0)).drew
        exact ⟨none, 0, none, 0, rfl, got_z _ _, hal.trans (ho.below (fun i hi => by omega) hal.size)⟩
      · rw [t1] at HO1
        have hlt : ¬ (ofK kd y0).ce < (ofK kd y1).ce := by rw [hb0]; exact t0
        have hrs : gN y0 y1 kd = 0 ∧ gZ y0 y1 kd = zSl ∧ gB y0 y1 kd = false := by
          have hz : gZ y0 y1 kd = zSl := by unfold gZ; rw [if_neg hlt]; exact hb0
          refine ⟨by unfold gN; rw [if_neg hlt], hz, ?_⟩
          unfold gB
          rw [hz]
          exact rfl
        have HRES : Hid _ := hrs
        clear hrs hlt t0 t1 s0 s1 hb0 u0 u1
        go_enter Try.func12, Try.ntmps12
        go_wp2_with fail
        rw [← hw0, ← hw1, ← hw2]
        clear hw0 bw0 zw0 hw1 bw1 zw1 hw2 bw2 zw2
        refine (HAS.out _).mono ?_
        rintro e wa ⟨rfl, ha⟩
        have HA : Hid (Below w2.heap.size w2 wa) := ha
        clear ha HAS
        obtain ⟨wp, hwp⟩ : ∃ wp, wp = wa.alloc (.cells #[.int .u8 0, .int .i64 0, .int .i64 0, .int .i64 0, .slice none 0 0, .slice none 0 0] 31) := ⟨_, rfl⟩
        have HB : Hid (Below w2.heap.size w2 wp) := by show Below _ _ _; rw [hwp]; exact b_alloc HA.out _
        have HBK : Hid (At w2 wp (wa.heap.size) #[.int .u8 0, .int .i64 0, .int .i64 0, .int .i64 0, .slice none 0 0, .slice none 0 0] 31) := at_made HA.out hwp
        have HSZ : Hid (w2.heap.size + 1 ≤ wp.heap.size) := by show _ ≤ _; have := HBK.out.lt; have := HBK.out.1; omega
        go_wp2_with fail
        refine wp_loop_rounds 3 ?_
        rw [← hwp]
        clear hwp
        rw [rounds_succ]
        go_wp2_with fail
        have KS : Hid (∀ v, Below wp.heap.size wp v → v.cell? ⟨w.heap.size, 0, none⟩ = some (.int .i64 k) ∧ v.cell? ⟨w.heap.size, 1, none⟩ = some (.int .i64 r) ∧ v.cell? ⟨w.heap.size, 2, none⟩ = some (.int .i64 c) ∧ v.cell? ⟨w.heap.size, 3, none⟩ = some (.int .i64 q) ∧ v.cell? ⟨w.heap.size + 1, 0, none⟩ = some (.slice a0 n0 c0)) := fun v hv => by
          have q0 := (Lw0.out wp HB.out).below hv
          have q1 := (Lw1.out wp HB.out).below hv
          exact ⟨q0.cell (i := 0) rfl, q0.cell (i := 1) rfl, q0.cell (i := 2) rfl, q0.cell (i := 3) rfl, q1.cell (i := 0) rfl⟩
        refine wp_region_noPanic (new_reg0 wp k r c q ix (w.heap.size) (w.heap.size + 1) a0 n0 c0 y0 true _ _ _ _ _ _ _ _ _ _ _ _ _ _ _ _ _ _ _ _ _ _ _ _ _ _ _ _ _ _ _ _ _ _ _ _ _ _ _ _ _ _ _ _ _ _ _ _ _ _ _ _ _ _ _ _ _ (fun v hv => KS.out v hv) (fun v hv => HO0.out v (below_then Bw.out (below_then HB.out hv))) _ (fun _ _ _ h => h) (fun wb gwb aowb cawb bowb cbwb hb hat hgt => NoPanic.normal ?_))
        have HB2 : Hid (Below w2.heap.size w2 wb) := below_then HB.out hb
        have HGwb : Hid (Got wp.heap.size wb y0 aowb cawb bowb cbwb) := hgt
        have HSZwb : Hid (w2.heap.size + 1 ≤ wp.heap.size) := HSZ.out
        have HKB : Hid (At w2 wb (wa.heap.size) #[.int .u8 0, .int .i64 0, .int .i64 0, .int .i64 0, .slice none 0 0, .slice none 0 0] 31) := HBK.out.below hb
        have HSZ2 : Hid (w2.heap.size + 1 ≤ wb.heap.size) := Nat.le_trans HSZ.out hb.size
        have HDIF : Hid (¬ gwb = wa.heap.size) := by show ¬ _; have := hat.1; have := HBK.out.lt; omega
        clear hb hgt KS HB HBK HSZ
        have HB : Hid (Below w2.heap.size w2 wb) := HB2.out
        have HBK : Hid (At w2 wb (wa.heap.size) #[.int .u8 0, .int .i64 0, .int .i64 0, .int .i64 0, .slice none 0 0, .slice none 0 0] 31) := HKB.out
        have HSZ : Hid (w2.heap.size + 1 ≤ wb.heap.size) := HSZ2.out
        clear HB2 HKB HSZ2
        have m0 := hat.cell (i := 0) rfl
        have m1 := hat.cell (i := 1) rfl
        have m2 := hat.cell (i := 2) rfl
        have m3 := hat.cell (i := 3) rfl
        have m4 := hat.cell (i := 4) rfl
        have m5 := hat.cell (i := 5) rfl
        have qb := HBK.out
        have b0 := qb.cell (i := 0) rfl
        have b1 := qb.cell (i := 1) rfl
        have b2 := qb.cell (i := 2) rfl
        have b3 := qb.cell (i := 3) rfl
        have b4 := qb.cell (i := 4) rfl
        have b5 := qb.cell (i := 5) rfl
        have bf := qb.free
        clear qb
        have nq := HDIF.out
        have nq2 : ¬ wa.heap.size = gwb := by omega
        clear hat
        go_wp2_with fail
        clear m0 m1 m2 m3 m4 m5 b0 b1 b2 b3 b4 b5 bf nq nq2
        clear HDIF
        clear HGwb HSZwb
        rw [rounds_succ]
        go_wp2_with fail
        have KS : Hid (∀ v, Below wb.heap.size wb v → v.cell? ⟨w.heap.size, 0, none⟩ = some (.int .i64 k) ∧ v.cell? ⟨w.heap.size, 1, none⟩ = some (.int .i64 r) ∧ v.cell? ⟨w.heap.size, 2, none⟩ = some (.int .i64 c) ∧ v.cell? ⟨w.heap.size, 3, none⟩ = some (.int .i64 q) ∧ v.cell? ⟨w.heap.size + 1, 1, none⟩ = some (.slice a1 n1 c1)) := fun v hv => by
          have q0 := (Lw0.out wb HB.out).below hv
          have q1 := (Lw1.out wb HB.out).below hv
          exact ⟨q0.cell (i := 0) rfl, q0.cell (i := 1) rfl, q0.cell (i := 2) rfl, q0.cell (i := 3) rfl, q1.cell (i := 1) rfl⟩
        refine wp_region_noPanic (new_reg1 wb k r c q ix (w.heap.size) (w.heap.size + 1) a1 n1 c1 y1 true _ _ _ _ _ _ _ _ _ _ _ _ _ _ _ _ _ _ _ _ _ _ _ _ _ _ _ _ _ _ _ _ _ _ _ _ _ _ _ _ _ _ _ _ _ _ _ _ _ _ _ _ _ _ _ _ _ (fun v hv => KS.out v hv) (fun v hv => HO1.out v (below_then Bw.out (below_then HB.out hv))) _ (fun _ _ _ h => h) (fun wc gwc aowc cawc bowc cbwc hb hat hgt => NoPanic.normal ?_))
        have HB2 : Hid (Below w2.heap.size w2 wc) := below_then HB.out hb
        have HGwc : Hid (Got wb.heap.size wc y1 aowc cawc bowc cbwc) := hgt
        have HSZwc : Hid (w2.heap.size + 1 ≤ wb.heap.size) := HSZ.out
        have HKB : Hid (At w2 wc (wa.heap.size) #[.int .u8 0, .int .i64 0, .int .i64 0, .int .i64 0, .slice none 0 0, .slice none 0 0] 31) := HBK.out.below hb
        have HSZ2 : Hid (w2.heap.size + 1 ≤ wc.heap.size) := Nat.le_trans HSZ.out hb.size
        have HDIF : Hid (¬ gwc = wa.heap.size) := by show ¬ _; have := hat.1; have := HBK.out.lt; omega
        clear hb hgt KS HB HBK HSZ
        have HB : Hid (Below w2.heap.size w2 wc) := HB2.out
        have HBK : Hid (At w2 wc (wa.heap.size) #[.int .u8 0, .int .i64 0, .int .i64 0, .int .i64 0, .slice none 0 0, .slice none 0 0] 31) := HKB.out
        have HSZ : Hid (w2.heap.size + 1 ≤ wc.heap.size) := HSZ2.out
        clear HB2 HKB HSZ2
        have m0 := hat.cell (i := 0) rfl
        have m1 := hat.cell (i := 1) rfl
        have m2 := hat.cell (i := 2) rfl
        have m3 := hat.cell (i := 3) rfl
        have m4 := hat.cell (i := 4) rfl
        have m5 := hat.cell (i := 5) rfl
        have qb := HBK.out
        have b0 := qb.cell (i := 0) rfl
        have b1 := qb.cell (i := 1) rfl
        have b2 := qb.cell (i := 2) rfl
        have b3 := qb.cell (i := 3) rfl
        have b4 := qb.cell (i := 4) rfl
        have b5 := qb.cell (i := 5) rfl
        have bf := qb.free
        clear qb
        have nq := HDIF.out
        have nq2 : ¬ wa.heap.size = gwc := by omega
        clear hat
        go_wp2_with fail
        clear m0 m1 m2 m3 m4 m5 b0 b1 b2 b3 b4 b5 bf nq nq2
        clear HDIF
        clear HGwc HSZwc
        have q2 := Lw2.out wc HB.out
        have qb := HBK.out
        have r0 := q2.cell (i := 0) rfl
        have r1 := q2.cell (i := 1) rfl
        have r2 := q2.cell (i := 2) rfl
        have r3 := q2.cell (i := 3) rfl
        have r4 := q2.cell (i := 4) rfl
        have r5 := q2.cell (i := 5) rfl
        have rf := q2.free
        have b0 := qb.cell (i := 0) rfl
        have b1 := qb.cell (i := 1) rfl
        have b2 := qb.cell (i := 2) rfl
        have b3 := qb.cell (i := 3) rfl
        have b4 := qb.cell (i := 4) rfl
        have b5 := qb.cell (i := 5) rfl
        have nq : ¬ wa.heap.size = w.heap.size + 1 + 1 := by have := HA.out.size; have := HS2.out; omega
        have nq2 : ¬ w.heap.size + 1 + 1 = wa.heap.size := by omega
        clear q2 qb
        rw [rounds_succ]
        go_wp2_with fail
        go_region_held3 (fun v => v.cell? ⟨wa.heap.size, 0, none⟩ = some (.int .u8 0) ∧ v.cell? ⟨wa.heap.size, 1, none⟩ = some (.int .i64 0) ∧ v.cell? ⟨wa.heap.size, 2, none⟩ = some (.int .i64 0) ∧ v.cell? ⟨wa.heap.size, 3, none⟩ = some (.int .i64 0) ∧ v.cell? ⟨wa.heap.size, 4, none⟩ = some (.slice none 0 0) ∧ v.cell? ⟨wa.heap.size, 5, none⟩ = some (.slice none 0 0)) (go_keep) (fail)
        go_wp2_with fail
        refine bodyPost_ret (v := .tuple #[.int .i64 0, .agg #[.int .u8 0, .int .i64 0, .int .i64 0, .int .i64 0, .slice none 0 0, .slice none 0 0], .bool false, .int .i64 0]) (by simp [results, Try.results12, go_sem, r0, r1, r2, r3, r4, r5]) rfl ?_
        obtain ⟨g1, g2, g3⟩ := HRES.out
        rw [g1, g2, g3]
        have hal := below_then Bw.out HB.out
        have ho := (only_lo wc (w.heap.size + 1 + 1) (.int .u8 0) (.int .i64 0) (.int .i64 0) (.int .i64 0) (.slice none 0 0) (.slice none 0 0)).drew
        exact ⟨none, 0, none, 0, rfl, got_z _ _, hal.trans (ho.below (fun i hi => by omega) hal.size)⟩
      · rw [t1] at HO1
        exfalso
        have := of_decide_eq_true t1
        omega
      · rw [t1] at HO1
        have hlt : (ofK kd y0).ce < (ofK kd y1).ce := by rw [hb0]; exact t0
        have hrs : gN y0 y1 kd = 1 ∧ gZ y0 y1 kd = y1 ∧ gB y0 y1 kd = true := by
          have hz : gZ y0 y1 kd = y1 := by unfold gZ; rw [if_pos hlt]; exact t4
          refine ⟨by unfold gN; rw [if_pos hlt], hz, ?_⟩
          unfold gB
          rw [hz]
          exact decide_eq_true (by omega)
        have HRES : Hid _ := hrs
        clear hrs hlt t0 t1 s0 s1 hb0 u0 u1 t4
        go_enter Try.func12, Try.ntmps12
        go_wp2_with fail
        rw [← hw0, ← hw1, ← hw2]
        clear hw0 bw0 zw0 hw1 bw1 zw1 hw2 bw2 zw2
        refine (HAS.out _).mono ?_
        rintro e wa ⟨rfl, ha⟩
        have HA : Hid (Below w2.heap.size w2 wa) := ha
        clear ha HAS
        obtain ⟨wp, hwp⟩ : ∃ wp, wp = wa.alloc (.cells #[.int .u8 0, .int .i64 0, .int .i64 0, .int .i64 0, .slice none 0 0, .slice none 0 0] 31) := ⟨_, rfl⟩
        have HB : Hid (Below w2.heap.size w2 wp) := by show Below _ _ _; rw [hwp]; exact b_alloc HA.out _
        have HBK : Hid (At w2 wp (wa.heap.size) #[.int .u8 0, .int .i64 0, .int .i64 0, .int .i64 0, .slice none 0 0, .slice none 0 0] 31) := at_made HA.out hwp
        have HSZ : Hid (w2.heap.size + 1 ≤ wp.heap.size) := by show _ ≤ _; have := HBK.out.lt; have := HBK.out.1; omega
        go_wp2_with fail
        refine wp_loop_rounds 3 ?_
        rw [← hwp]
        clear hwp
        rw [rounds_succ]
        go_wp2_with fail
        have KS : Hid (∀ v, Below wp.heap.size wp v → v.cell? ⟨w.heap.size, 0, none⟩ = some (.int .i64 k) ∧ v.cell? ⟨w.heap.size, 1, none⟩ = some (.int .i64 r) ∧ v.cell? ⟨w.heap.size, 2, none⟩ = some (.int .i64 c) ∧ v.cell? ⟨w.heap.size, 3, none⟩ = some (.int .i64 q) ∧ v.cell? ⟨w.heap.size + 1, 0, none⟩ = some (.slice a0 n0 c0)) := fun v hv => by
          have q0 := (Lw0.out wp HB.out).below hv
          have q1 := (Lw1.out wp HB.out).below hv
          exact ⟨q0.cell (i := 0) rfl, q0.cell (i := 1) rfl, q0.cell (i := 2) rfl, q0.cell (i := 3) rfl, q1.cell (i := 0) rfl⟩
        refine wp_region_noPanic (new_reg0 wp k r c q ix (w.heap.size) (w.heap.size + 1) a0 n0 c0 y0 true _ _ _ _ _ _ _ _ _ _ _ _ _ _ _ _ _ _ _ _ _ _ _ _ _ _ _ _ _ _ _ _ _ _ _ _ _ _ _ _ _ _ _ _ _ _ _ _ _ _ _ _ _ _ _ _ _ (fun v hv => KS.out v hv) (fun v hv => HO0.out v (below_then Bw.out (below_then HB.out hv))) _ (fun _ _ _ h => h) (fun wb gwb aowb cawb bowb cbwb hb hat hgt => NoPanic.normal ?_))
        have HB2 : Hid (Below w2.heap.size w2 wb) := below_then HB.out hb
        have HGwb : Hid (Got wp.heap.size wb y0 aowb cawb bowb cbwb) := hgt
        have HSZwb : Hid (w2.heap.size + 1 ≤ wp.heap.size) := HSZ.out
        have HKB : Hid (At w2 wb (wa.heap.size) #[.int .u8 0, .int .i64 0, .int .i64 0, .int .i64 0, .slice none 0 0, .slice none 0 0] 31) := HBK.out.below hb
        have HSZ2 : Hid (w2.heap.size + 1 ≤ wb.heap.size) := Nat.le_trans HSZ.out hb.size
        have HDIF : Hid (¬ gwb = wa.heap.size) := by show ¬ _; have := hat.1; have := HBK.out.lt; omega
        clear hb hgt KS HB HBK HSZ
        have HB : Hid (Below w2.heap.size w2 wb) := HB2.out
        have HBK : Hid (At w2 wb (wa.heap.size) #[.int .u8 0, .int .i64 0, .int .i64 0, .int .i64 0, .slice none 0 0, .slice none 0 0] 31) := HKB.out
        have HSZ : Hid (w2.heap.size + 1 ≤ wb.heap.size) := HSZ2.out
        clear HB2 HKB HSZ2
        have m0 := hat.cell (i := 0) rfl
        have m1 := hat.cell (i := 1) rfl
        have m2 := hat.cell (i := 2) rfl
        have m3 := hat.cell (i := 3) rfl
        have m4 := hat.cell (i := 4) rfl
        have m5 := hat.cell (i := 5) rfl
        have qb := HBK.out
        have b0 := qb.cell (i := 0) rfl
        have b1 := qb.cell (i := 1) rfl
        have b2 := qb.cell (i := 2) rfl
        have b3 := qb.cell (i := 3) rfl
        have b4 := qb.cell (i := 4) rfl
        have b5 := qb.cell (i := 5) rfl
        have bf := qb.free
        clear qb
        have nq := HDIF.out
        have nq2 : ¬ wa.heap.size = gwb := by omega
        clear hat
        go_wp2_with fail
        clear m0 m1 m2 m3 m4 m5 b0 b1 b2 b3 b4 b5 bf nq nq2
        clear HDIF
        clear HGwb HSZwb
        rw [rounds_succ]
        go_wp2_with fail
        have KS : Hid (∀ v, Below wb.heap.size wb v → v.cell? ⟨w.heap.size, 0, none⟩ = some (.int .i64 k) ∧ v.cell? ⟨w.heap.size, 1, none⟩ = some (.int .i64 r) ∧ v.cell? ⟨w.heap.size, 2, none⟩ = some (.int .i64 c) ∧ v.cell? ⟨w.heap.size, 3, none⟩ = some (.int .i64 q) ∧ v.cell? ⟨w.heap.size + 1, 1, none⟩ = some (.slice a1 n1 c1)) := fun v hv => by
          have q0 := (Lw0.out wb HB.out).below hv
          have q1 := (Lw1.out wb HB.out).below hv
          exact ⟨q0.cell (i := 0) rfl, q0.cell (i := 1) rfl, q0.cell (i := 2) rfl, q0.cell (i := 3) rfl, q1.cell (i := 1) rfl⟩
        refine wp_region_noPanic (new_reg1 wb k r c q ix (w.heap.size) (w.heap.size + 1) a1 n1 c1 y1 true _ _ _ _ _ _ _ _ _ _ _ _ _ _ _ _ _ _ _ _ _ _ _ _ _ _ _ _ _ _ _ _ _ _ _ _ _ _ _ _ _ _ _ _ _ _ _ _ _ _ _ _ _ _ _ _ _ (fun v hv => KS.out v hv) (fun v hv => HO1.out v (below_then Bw.out (below_then HB.out hv))) _ (fun _ _ _ h => h) (fun wc gwc aowc cawc bowc cbwc hb hat hgt => NoPanic.normal ?_))
        have HB2 : Hid (Below w2.heap.size w2 wc) := below_then HB.out hb
        have HGwc : Hid (Got wb.heap.size wc y1 aowc cawc bowc cbwc) := hgt
        have HSZwc : Hid (w2.heap.size + 1 ≤ wb.heap.size) := HSZ.out
        have HKB : Hid (At w2 wc (wa.heap.size) #[.int .u8 0, .int .i64 0, .int .i64 0, .int .i64 0, .slice none 0 0, .slice none 0 0] 31) := HBK.out.below hb
        have HSZ2 : Hid (w2.heap.size + 1 ≤ wc.heap.size) := Nat.le_trans HSZ.out hb.size
        have HDIF : Hid (¬ gwc = wa.heap.size) := by show ¬ _; have := hat.1; have := HBK.out.lt; omega
        clear hb hgt KS HB HBK HSZ
        have HB : Hid (Below w2.heap.size w2 wc) := HB2.out
        have HBK : Hid (At w2 wc (wa.heap.size) #[.int .u8 0, .int .i64 0, .int .i64 0, .int .i64 0, .slice none 0 0, .slice none 0 0] 31) := HKB.out
        have HSZ : Hid (w2.heap.size + 1 ≤ wc.heap.size) := HSZ2.out
        clear HB2 HKB HSZ2
        have m0 := hat.cell (i := 0) rfl
        have m1 := hat.cell (i := 1) rfl
        have m2 := hat.cell (i := 2) rfl
        have m3 := hat.cell (i := 3) rfl
        have m4 := hat.cell (i := 4) rfl
        have m5 := hat.cell (i := 5) rfl
        have qb := HBK.out
        have b0 := qb.cell (i := 0) rfl
        have b1 := qb.cell (i := 1) rfl
        have b2 := qb.cell (i := 2) rfl
        have b3 := qb.cell (i := 3) rfl
        have b4 := qb.cell (i := 4) rfl
        have b5 := qb.cell (i := 5) rfl
        have bf := qb.free
        clear qb
        have nq := HDIF.out
        have nq2 : ¬ wa.heap.size = gwc := by omega
        clear hat
        go_wp2_with fail
        clear m0 m1 m2 m3 m4 m5 b0 b1 b2 b3 b4 b5 bf nq nq2
        clear HDIF
        obtain ⟨wcs, hwcs⟩ : ∃ wcs, wcs = ((((((wc.setCell ⟨wa.heap.size, 0, none⟩ (.int .u8 ((y1.kd.toNat : Nat) : Int))).setCell ⟨wa.heap.size, 1, none⟩ (.int .i64 y1.ix)).setCell ⟨wa.heap.size, 2, none⟩ (.int .i64 y1.ce)).setCell ⟨wa.heap.size, 3, none⟩ (.int .i64 y1.st)).setCell ⟨wa.heap.size, 4, none⟩ (.slice aowc y1.vn cawc)).setCell ⟨wa.heap.size, 5, none⟩ (.slice bowc y1.dn cbwc)) := ⟨_, rfl⟩
        have HO : Hid (Only (fun x => x = wa.heap.size) wc wcs) := by show Only _ _ _; rw [hwcs]; exact only_lo wc (wa.heap.size) (.int .u8 ((y1.kd.toNat : Nat) : Int)) (.int .i64 y1.ix) (.int .i64 y1.ce) (.int .i64 y1.st) (.slice aowc y1.vn cawc) (.slice bowc y1.dn cbwc)
        have HBK2 : Hid (At w2 wcs (wa.heap.size) #[.int .u8 ((y1.kd.toNat : Nat) : Int), .int .i64 y1.ix, .int .i64 y1.ce, .int .i64 y1.st, .slice aowc y1.vn cawc, .slice bowc y1.dn cbwc] 31) := by show At _ _ _ _ _; rw [hwcs]; exact at_six HBK.out (.int .u8 ((y1.kd.toNat : Nat) : Int)) (.int .i64 y1.ix) (.int .i64 y1.ce) (.int .i64 y1.st) (.slice aowc y1.vn cawc) (.slice bowc y1.dn cbwc)
        have HB2 : Hid (Below w2.heap.size w2 wcs) := HB.out.trans (HO.out.below (fun i hi => by have := HA.out.size; omega) HB.out.size)
        have HSZ2 : Hid (w2.heap.size + 1 ≤ wcs.heap.size) := Nat.le_trans HSZ.out HO.out.size
        have HGB2 : Hid (Got w2.heap.size wcs y1 aowc cawc bowc cbwc) := (HGwc.out.mono (by have := HSZwc.out; omega)).apart HO.out HBK.out
        rw [← hwcs]
        clear hwcs HO HBK HB HSZ HGwc HSZwc
        have HBK : Hid (At w2 wcs (wa.heap.size) #[.int .u8 ((y1.kd.toNat : Nat) : Int), .int .i64 y1.ix, .int .i64 y1.ce, .int .i64 y1.st, .slice aowc y1.vn cawc, .slice bowc y1.dn cbwc] 31) := HBK2.out
        have HB : Hid (Below w2.heap.size w2 wcs) := HB2.out
        have HSZ : Hid (w2.heap.size + 1 ≤ wcs.heap.size) := HSZ2.out
        have HGB : Hid (Got w2.heap.size wcs y1 aowc cawc bowc cbwc) := HGB2.out
        clear HBK2 HB2 HSZ2 HGB2
        have q2 := Lw2.out wcs HB.out
        have qb := HBK.out
        have r0 := q2.cell (i := 0) rfl
        have r1 := q2.cell (i := 1) rfl
        have r2 := q2.cell (i := 2) rfl
        have r3 := q2.cell (i := 3) rfl
        have r4 := q2.cell (i := 4) rfl
        have r5 := q2.cell (i := 5) rfl
        have rf := q2.free
        have b0 := qb.cell (i := 0) rfl
        have b1 := qb.cell (i := 1) rfl
        have b2 := qb.cell (i := 2) rfl
        have b3 := qb.cell (i := 3) rfl
        have b4 := qb.cell (i := 4) rfl
        have b5 := qb.cell (i := 5) rfl
        have nq : ¬ wa.heap.size = w.heap.size + 1 + 1 := by have := HA.out.size; have := HS2.out; omega
        have nq2 : ¬ w.heap.size + 1 + 1 = wa.heap.size := by omega
        clear q2 qb
        rw [rounds_succ]
        go_wp2_with fail
        go_region_held3 (fun v => v.cell? ⟨wa.heap.size, 0, none⟩ = some (.int .u8 ((y1.kd.toNat : Nat) : Int)) ∧ v.cell? ⟨wa.heap.size, 1, none⟩ = some (.int .i64 y1.ix) ∧ v.cell? ⟨wa.heap.size, 2, none⟩ = some (.int .i64 y1.ce) ∧ v.cell? ⟨wa.heap.size, 3, none⟩ = some (.int .i64 y1.st) ∧ v.cell? ⟨wa.heap.size, 4, none⟩ = some (.slice aowc y1.vn cawc) ∧ v.cell? ⟨wa.heap.size, 5, none⟩ = some (.slice bowc y1.dn cbwc)) (go_keep) (fail)
        go_wp2_with fail
        refine bodyPost_ret (v := .tuple #[.int .i64 1, .agg #[.int .u8 ((y1.kd.toNat : Nat) : Int), .int .i64 y1.ix, .int .i64 y1.ce, .int .i64 y1.st, .slice aowc y1.vn cawc, .slice bowc y1.dn cbwc], .bool true, .int .i64 0]) (by simp [results, Try.results12, go_sem, r0, r1, r2, r3, r4, r5]) rfl ?_
        obtain ⟨g1, g2, g3⟩ := HRES.out
        rw [g1, g2, g3]
        have hal := below_then Bw.out HB.out
        have ho := (only_lo wcs (w.heap.size + 1 + 1) (.int .u8 ((y1.kd.toNat : Nat) : Int)) (.int .i64 y1.ix) (.int .i64 y1.ce) (.int .i64 y1.st) (.slice aowc y1.vn cawc) (.slice bowc y1.dn cbwc)).drew
        exact ⟨aowc, cawc, bowc, cbwc, rfl, (HGB.out.stay ho (by have := HS2.out; omega)).mono (by have := HS2.out; omega), hal.trans (ho.below (fun i hi => by omega) hal.size)⟩
    · rw [s1] at HO0
      exfalso
      have := of_decide_eq_true s1
      omega
    · rw [s1] at HO0
      have hb0 : ofK kd y0 = y0 := s4
      have hm0 : 0 ≤ y0.ce := u0.1
      rcases gt_tests y1 kd (y0.ce) (hm0) u1 with ⟨t0, t1⟩ | ⟨t0, t1, t2⟩ | ⟨t0, t1, t2, t3⟩ | ⟨t0, t1, t2, t3, t4⟩
      · rw [t1] at HO1
        have hlt : ¬ (ofK kd y0).ce < (ofK kd y1).ce := by rw [hb0]; exact t0
        have hrs : gN y0 y1 kd = 0 ∧ gZ y0 y1 kd = y0 ∧ gB y0 y1 kd = true := by
          have hz : gZ y0 y1 kd = y0 := by unfold gZ; rw [if_neg hlt]; exact hb0
          refine ⟨by unfold gN; rw [if_neg hlt], hz, ?_⟩
          unfold gB
          rw [hz]
          exact decide_eq_true (by omega)
        have HRES : Hid _ := hrs
        clear hrs hlt t0 t1 s0 s1 hb0 u0 u1 hm0 s4
        go_enter Try.func12, Try.ntmps12
        go_wp2_with fail
        rw [← hw0, ← hw1, ← hw2]
        clear hw0 bw0 zw0 hw1 bw1 zw1 hw2 bw2 zw2
        refine (HAS.out _).mono ?_
        rintro e wa ⟨rfl, ha⟩
        have HA : Hid (Below w2.heap.size w2 wa) := ha
        clear ha HAS
        obtain ⟨wp, hwp⟩ : ∃ wp, wp = wa.alloc (.cells #[.int .u8 0, .int .i64 0, .int .i64 0, .int .i64 0, .slice none 0 0, .slice none 0 0] 31) := ⟨_, rfl⟩
        have HB : Hid (Below w2.heap.size w2 wp) := by show Below _ _ _; rw [hwp]; exact b_alloc HA.out _
        have HBK : Hid (At w2 wp (wa.heap.size) #[.int .u8 0, .int .i64 0, .int .i64 0, .int .i64 0, .slice none 0 0, .slice none 0 0] 31) := at_made HA.out hwp
        have HSZ : Hid (w2.heap.size + 1 ≤ wp.heap.size) := by show _ ≤ _; have := HBK.out.lt; have := HBK.out.1; omega
        go_wp2_with fail
        refine wp_loop_rounds 3 ?_
        rw [← hwp]
        clear hwp
        rw [rounds_succ]
        go_wp2_with fail
        have KS : Hid (∀ v, Below wp.heap.size wp v → v.cell? ⟨w.heap.size, 0, none⟩ = some (.int .i64 k) ∧ v.cell? ⟨w.heap.size, 1, none⟩ = some (.int .i64 r) ∧ v.cell? ⟨w.heap.size, 2, none⟩ = some (.int .i64 c) ∧ v.cell? ⟨w.heap.size, 3, none⟩ = some (.int .i64 q) ∧ v.cell? ⟨w.heap.size + 1, 0, none⟩ = some (.slice a0 n0 c0)) := fun v hv => by
          have q0 := (Lw0.out wp HB.out).below hv
          have q1 := (Lw1.out wp HB.out).below hv
          exact ⟨q0.cell (i := 0) rfl, q0.cell (i := 1) rfl, q0.cell (i := 2) rfl, q0.cell (i := 3) rfl, q1.cell (i := 0) rfl⟩
        refine wp_region_noPanic (new_reg0 wp k r c q ix (w.heap.size) (w.heap.size + 1) a0 n0 c0 y0 true _ _ _ _ _ _ _ _ _ _ _ _ _ _ _ _ _ _ _ _ _ _ _ _ _ _ _ _ _ _ _ _ _ _ _ _ _ _ _ _ _ _ _ _ _ _ _ _ _ _ _ _ _ _ _ _ _ (fun v hv => KS.out v hv) (fun v hv => HO0.out v (below_then Bw.out (below_then HB.out hv))) _ (fun _ _ _ h => h) (fun wb gwb aowb cawb bowb cbwb hb hat hgt => NoPanic.normal ?_))
        have HB2 : Hid (Below w2.heap.size w2 wb) := below_then HB.out hb
        have HGwb : Hid (Got wp.heap.size wb y0 aowb cawb bowb cbwb) := hgt
        have HSZwb : Hid (w2.heap.size + 1 ≤ wp.heap.size) := HSZ.out
        have HKB : Hid (At w2 wb (wa.heap.size) #[.int .u8 0, .int .i64 0, .int .i64 0, .int .i64 0, .slice none 0 0, .slice none 0 0] 31) := HBK.out.below hb
        have HSZ2 : Hid (w2.heap.size + 1 ≤ wb.heap.size) := Nat.le_trans HSZ.out hb.size
        have HDIF : Hid (¬ gwb = wa.heap.size) := by show ¬ _; have := hat.1; have := HBK.out.lt; omega
        clear hb hgt KS HB HBK HSZ
        have HB : Hid (Below w2.heap.size w2 wb) := HB2.out
        have HBK : Hid (At w2 wb (wa.heap.size) #[.int .u8 0, .int .i64 0, .int .i64 0, .int .i64 0, .slice none 0 0, .slice none 0 0] 31) := HKB.out
        have HSZ : Hid (w2.heap.size + 1 ≤ wb.heap.size) := HSZ2.out
        clear HB2 HKB HSZ2
        have m0 := hat.cell (i := 0) rfl
        have m1 := hat.cell (i := 1) rfl
        have m2 := hat.cell (i := 2) rfl
        have m3 := hat.cell (i := 3) rfl
        have m4 := hat.cell (i := 4) rfl
        have m5 := hat.cell (i := 5) rfl
        have qb := HBK.out
        have b0 := qb.cell (i := 0) rfl
        have b1 := qb.cell (i := 1) rfl
        have b2 := qb.cell (i := 2) rfl
        have b3 := qb.cell (i := 3) rfl
        have b4 := qb.cell (i := 4) rfl
        have b5 := qb.cell (i := 5) rfl
        have bf := qb.free
        clear qb
        have nq := HDIF.out
        have nq2 : ¬ wa.heap.size = gwb := by omega
        clear hat
        go_wp2_with fail
        clear m0 m1 m2 m3 m4 m5 b0 b1 b2 b3 b4 b5 bf nq nq2
        clear HDIF
        obtain ⟨wbs, hwbs⟩ : ∃ wbs, wbs = ((((((wb.setCell ⟨wa.heap.size, 0, none⟩ (.int .u8 ((y0.kd.toNat : Nat) : Int))).setCell ⟨wa.heap.size, 1, none⟩ (.int .i64 y0.ix)).setCell ⟨wa.heap.size, 2, none⟩ (.int .i64 y0.ce)).setCell ⟨wa.heap.size, 3, none⟩ (.int .i64 y0.st)).setCell ⟨wa.heap.size, 4, none⟩ (.slice aowb y0.vn cawb)).setCell ⟨wa.heap.size, 5, none⟩ (.slice bowb y0.dn cbwb)) := ⟨_, rfl⟩
        have HO : Hid (Only (fun x => x = wa.heap.size) wb wbs) := by show Only _ _ _; rw [hwbs]; exact only_lo wb (wa.heap.size) (.int .u8 ((y0.kd.toNat : Nat) : Int)) (.int .i64 y0.ix) (.int .i64 y0.ce) (.int .i64 y0.st) (.slice aowb y0.vn cawb) (.slice bowb y0.dn cbwb)
        have HBK2 : Hid (At w2 wbs (wa.heap.size) #[.int .u8 ((y0.kd.toNat : Nat) : Int), .int .i64 y0.ix, .int .i64 y0.ce, .int .i64 y0.st, .slice aowb y0.vn cawb, .slice bowb y0.dn cbwb] 31) := by show At _ _ _ _ _; rw [hwbs]; exact at_six HBK.out (.int .u8 ((y0.kd.toNat : Nat) : Int)) (.int .i64 y0.ix) (.int .i64 y0.ce) (.int .i64 y0.st) (.slice aowb y0.vn cawb) (.slice bowb y0.dn cbwb)
        have HB2 : Hid (Below w2.heap.size w2 wbs) := HB.out.trans (HO.out.below (fun i hi => by have := HA.out.size; omega) HB.out.size)
        have HSZ2 : Hid (w2.heap.size + 1 ≤ wbs.heap.size) := Nat.le_trans HSZ.out HO.out.size
        have HGB2 : Hid (Got w2.heap.size wbs y0 aowb cawb bowb cbwb) := (HGwb.out.mono (by have := HSZwb.out; omega)).apart HO.out HBK.out
        rw [← hwbs]
        clear hwbs HO HBK HB HSZ HGwb HSZwb
        have HBK : Hid (At w2 wbs (wa.heap.size) #[.int .u8 ((y0.kd.toNat : Nat) : Int), .int .i64 y0.ix, .int .i64 y0.ce, .int .i64 y0.st, .slice aowb y0.vn cawb, .slice bowb y0.dn cbwb] 31) := HBK2.out
        have HB : Hid (Below w2.heap.size w2 wbs) := HB2.out
        have HSZ : Hid (w2.heap.size + 1 ≤ wbs.heap.size) := HSZ2.out
        have HGB : Hid (Got w2.heap.size wbs y0 aowb cawb bowb cbwb) := HGB2.out
        clear HBK2 HB2 HSZ2 HGB2
        rw [rounds_succ]
        go_wp2_with fail
        have KS : Hid (∀ v, Below wbs.heap.size wbs v → v.cell? ⟨w.heap.size, 0, none⟩ = some (.int .i64 k) ∧ v.cell? ⟨w.heap.size, 1, none⟩ = some (.int .i64 r) ∧ v.cell? ⟨w.heap.size, 2, none⟩ = some (.int .i64 c) ∧ v.cell? ⟨w.heap.size, 3, none⟩ = some (.int .i64 q) ∧ v.cell? ⟨w.heap.size + 1, 1, none⟩ = some (.slice a1 n1 c1)) := fun v hv => by
          have q0 := (Lw0.out wbs HB.out).below hv
          have q1 := (Lw1.out wbs HB.out).below hv
          exact ⟨q0.cell (i := 0) rfl, q0.cell (i := 1) rfl, q0.cell (i := 2) rfl, q0.cell (i := 3) rfl, q1.cell (i := 1) rfl⟩
        refine wp_region_noPanic (new_reg1 wbs k r c q ix (w.heap.size) (w.heap.size + 1) a1 n1 c1 y1 false _ _ _ _ _ _ _ _ _ _ _ _ _ _ _ _ _ _ _ _ _ _ _ _ _ _ _ _ _ _ _ _ _ _ _ _ _ _ _ _ _ _ _ _ _ _ _ _ _ _ _ _ _ _ _ _ _ (fun v hv => KS.out v hv) (fun v hv => HO1.out v (below_then Bw.out (below_then HB.out hv))) _ (fun _ _ _ h => h) (fun wc gwc aowc cawc bowc cbwc hb hat hgt => NoPanic.normal ?_))
        have HB2 : Hid (Below w2.heap.size w2 wc) := below_then HB.out hb
        have HGwc : Hid (Got wbs.heap.size wc y1 aowc cawc bowc cbwc) := hgt
        have HSZwc : Hid (w2.heap.size + 1 ≤ wbs.heap.size) := HSZ.out
        have HKB : Hid (At w2 wc (wa.heap.size) #[.int .u8 ((y0.kd.toNat : Nat) : Int), .int .i64 y0.ix, .int .i64 y0.ce, .int .i64 y0.st, .slice aowb y0.vn cawb, .slice bowb y0.dn cbwb] 31) := HBK.out.below hb
        have HSZ2 : Hid (w2.heap.size + 1 ≤ wc.heap.size) := Nat.le_trans HSZ.out hb.size
        have HDIF : Hid (¬ gwc = wa.heap.size) := by show ¬ _; have := hat.1; have := HBK.out.lt; omega
        have HGB2 : Hid (Got w2.heap.size wc y0 aowb cawb bowb cbwb) := HGB.out.below hb
        clear HGB
        have HGB : Hid (Got w2.heap.size wc y0 aowb cawb bowb cbwb) := HGB2.out
        clear HGB2
        clear hb hgt KS HB HBK HSZ
        have HB : Hid (Below w2.heap.size w2 wc) := HB2.out
        have HBK : Hid (At w2 wc (wa.heap.size) #[.int .u8 ((y0.kd.toNat : Nat) : Int), .int .i64 y0.ix, .int .i64 y0.ce, .int .i64 y0.st, .slice aowb y0.vn cawb, .slice bowb y0.dn cbwb] 31) := HKB.out
        have HSZ : Hid (w2.heap.size + 1 ≤ wc.heap.size) := HSZ2.out
        clear HB2 HKB HSZ2
        clear hat
        go_wp2_with fail
        clear HDIF
        clear HGwc HSZwc
        have q2 := Lw2.out wc HB.out
        have qb := HBK.out
        have r0 := q2.cell (i := 0) rfl
        have r1 := q2.cell (i := 1) rfl
        have r2 := q2.cell (i := 2) rfl
        have r3 := q2.cell (i := 3) rfl
        have r4 := q2.cell (i := 4) rfl
        have r5 := q2.cell (i := 5) rfl
        have rf := q2.free
        have b0 := qb.cell (i := 0) rfl
        have b1 := qb.cell (i := 1) rfl
        have b2 := qb.cell (i := 2) rfl
        have b3 := qb.cell (i := 3) rfl
        have b4 := qb.cell (i := 4) rfl
        have b5 := qb.cell (i := 5) rfl
        have nq : ¬ wa.heap.size = w.heap.size + 1 + 1 := by have := HA.out.size; have := HS2.out; omega
        have nq2 : ¬ w.heap.size + 1 + 1 = wa.heap.size := by omega
        clear q2 qb
        rw [rounds_succ]
        go_wp2_with fail
        go_region_held3 (fun v => v.cell? ⟨wa.heap.size, 0, none⟩ = some (.int .u8 ((y0.kd.toNat : Nat) : Int)) ∧ v.cell? ⟨wa.heap.size, 1, none⟩ = some (.int .i64 y0.ix) ∧ v.cell? ⟨wa.heap.size, 2, none⟩ = some (.int .i64 y0.ce) ∧ v.cell? ⟨wa.heap.size, 3, none⟩ = some (.int .i64 y0.st) ∧ v.cell? ⟨wa.heap.size, 4, none⟩ = some (.slice aowb y0.vn cawb) ∧ v.cell? ⟨wa.heap.size, 5, none⟩ = some (.slice bowb y0.dn cbwb)) (go_keep) (fail)
        go_wp2_with fail
        refine bodyPost_ret (v := .tuple #[.int .i64 0, .agg #[.int .u8 ((y0.kd.toNat : Nat) : Int), .int .i64 y0.ix, .int .i64 y0.ce, .int .i64 y0.st, .slice aowb y0.vn cawb, .slice bowb y0.dn cbwb], .bool true, .int .i64 0]) (by simp [results, Try.results12, go_sem, r0, r1, r2, r3, r4, r5]) rfl ?_
        obtain ⟨g1, g2, g3⟩ := HRES.out
        rw [g1, g2, g3]
        have hal := below_then Bw.out HB.out
        have ho := (only_lo wc (w.heap.size + 1 + 1) (.int .u8 ((y0.kd.toNat : Nat) : Int)) (.int .i64 y0.ix) (.int .i64 y0.ce) (.int .i64 y0.st) (.slice aowb y0.vn cawb) (.slice bowb y0.dn cbwb)).drew
        exact ⟨aowb, cawb, bowb, cbwb, rfl, (HGB.out.stay ho (by have := HS2.out; omega)).mono (by have := HS2.out; omega), hal.trans (ho.below (fun i hi => by omega) hal.size)⟩
      · rw [t1] at HO1
        have hlt : ¬ (ofK kd y0).ce < (ofK kd y1).ce := by rw [hb0]; exact t0
        have hrs : gN y0 y1 kd = 0 ∧ gZ y0 y1 kd = y0 ∧ gB y0 y1 kd = true := by
          have hz : gZ y0 y1 kd = y0 := by unfold gZ; rw [if_neg hlt]; exact hb0
          refine ⟨by unfold gN; rw [if_neg hlt], hz, ?_⟩
          unfold gB
          rw [hz]
          exact decide_eq_true (by omega)
        have HRES : Hid _ := hrs
        clear hrs hlt t0 t1 s0 s1 hb0 u0 u1 hm0 s4
        go_enter Try.func12, Try.ntmps12
        go_wp2_with fail
        rw [← hw0, ← hw1, ← hw2]
        clear hw0 bw0 zw0 hw1 bw1 zw1 hw2 bw2 zw2
        refine (HAS.out _).mono ?_
        rintro e wa ⟨rfl, ha⟩
        have HA : Hid (Below w2.heap.size w2 wa) := ha
        clear ha HAS
        obtain ⟨wp, hwp⟩ : ∃ wp, wp = wa.alloc (.cells #[.int .u8 0, .int .i64 0, .int .i64 0, .int .i64 0, .slice none 0 0, .slice none 0 0] 31) := ⟨_, rfl⟩
        have HB : Hid (Below w2.heap.size w2 wp) := by show Below _ _ _; rw [hwp]; exact b_alloc HA.out _
        have HBK : Hid (At w2 wp (wa.heap.size) #[.int .u8 0, .int .i64 0, .int .i64 0, .int .i64 0, .slice none 0 0, .slice none 0 0] 31) := at_made HA.out hwp
        have HSZ : Hid (w2.heap.size + 1 ≤ wp.heap.size) := by show _ ≤ _; have := HBK.out.lt; have := HBK.out.1; omega
        go_wp2_with fail
        refine wp_loop_rounds 3 ?_
        rw [← hwp]
        clear hwp
        rw [rounds_succ]
        go_wp2_with fail
        have KS : Hid (∀ v, Below wp.heap.size wp v → v.cell? ⟨w.heap.size, 0, none⟩ = some (.int .i64 k) ∧ v.cell? ⟨w.heap.size, 1, none⟩ = some (.int .i64 r) ∧ v.cell? ⟨w.heap.size, 2, none⟩ = some (.int .i64 c) ∧ v.cell? ⟨w.heap.size, 3, none⟩ = some (.int .i64 q) ∧ v.cell? ⟨w.heap.size + 1, 0, none⟩ = some (.slice a0 n0 c0)) := fun v hv => by
          have q0 := (Lw0.out wp HB.out).below hv
          have q1 := (Lw1.out wp HB.out).below hv
          exact ⟨q0.cell (i := 0) rfl, q0.cell (i := 1) rfl, q0.cell (i := 2) rfl, q0.cell (i := 3) rfl, q1.cell (i := 0) rfl⟩
        refine wp_region_noPanic (new_reg0 wp k r c q ix (w.heap.size) (w.heap.size + 1) a0 n0 c0 y0 true _ _ _ _ _ _ _ _ _ _ _ _ _ _ _ _ _ _ _ _ _ _ _ _ _ _ _ _ _ _ _ _ _ _ _ _ _ _ _ _ _ _ _ _ _ _ _ _ _ _ _ _ _ _ _ _ _ (fun v hv => KS.out v hv) (fun v hv => HO0.out v (below_then Bw.out (below_then HB.out hv))) _ (fun _ _ _ h => h) (fun wb gwb aowb cawb bowb cbwb hb hat hgt => NoPanic.normal ?_))
        have HB2 : Hid (Below w2.heap.size w2 wb) := below_then HB.out hb
        have HGwb : Hid (Got wp.heap.size wb y0 aowb cawb bowb cbwb) := hgt
        have HSZwb : Hid (w2.heap.size + 1 ≤ wp.heap.size) := HSZ.out
        have HKB : Hid (At w2 wb (wa.heap.size) #[.int .u8 0, .int .i64 0, .int .i64 0, .int .i64 0, .slice none 0 0, .slice none 0 0] 31) := HBK.out.below hb
        have HSZ2 : Hid (w2.heap.size + 1 ≤ wb.heap.size) := Nat.le_trans HSZ.out hb.size
        have HDIF : Hid (¬ gwb = wa.heap.size) := by show ¬ _; have := hat.1; have := HBK.out.lt; omega
        clear hb hgt KS HB HBK HSZ
        have HB : Hid (Below w2.heap.size w2 wb) := HB2.out
        have HBK : Hid (At w2 wb (wa.heap.size) #[.int .u8 0, .int .i64 0, .int .i64 0, .int .i64 0, .slice none 0 0, .slice none 0 0] 31) := HKB.out
        have HSZ : Hid (w2.heap.size + 1 ≤ wb.heap.size) := HSZ2.out
        clear HB2 HKB HSZ2
        have m0 := hat.cell (i := 0) rfl
        have m1 := hat.cell (i := 1) rfl
        have m2 := hat.cell (i := 2) rfl
        have m3 := hat.cell (i := 3) rfl
        have m4 := hat.cell (i := 4) rfl
        have m5 := hat.cell (i := 5) rfl
        have qb := HBK.out
        have b0 := qb.cell (i := 0) rfl
        have b1 := qb.cell (i := 1) rfl
        have b2 := qb.cell (i := 2) rfl
        have b3 := qb.cell (i := 3) rfl
        have b4 := qb.cell (i := 4) rfl
        have b5 := qb.cell (i := 5) rfl
        have bf := qb.free
        clear qb
        have nq := HDIF.out
        have nq2 : ¬ wa.heap.size = gwb := by omega
        clear hat
        go_wp2_with fail
        clear m0 m1 m2 m3 m4 m5 b0 b1 b2 b3 b4 b5 bf nq nq2
        clear HDIF
        obtain ⟨wbs, hwbs⟩ : ∃ wbs, wbs = ((((((wb.setCell ⟨wa.heap.size, 0, none⟩ (.int .u8 ((y0.kd.toNat : Nat) : Int))).setCell ⟨wa.heap.size, 1, none⟩ (.int .i64 y0.ix)).setCell ⟨wa.heap.size, 2, none⟩ (.int .i64 y0.ce)).setCell ⟨wa.heap.size, 3, none⟩ (.int .i64 y0.st)).setCell ⟨wa.heap.size, 4, none⟩ (.slice aowb y0.vn cawb)).setCell ⟨wa.heap.size, 5, none⟩ (.slice bowb y0.dn cbwb)) := ⟨_, rfl⟩
        have HO : Hid (Only (fun x => x = wa.heap.size) wb wbs) := by show Only _ _ _; rw [hwbs]; exact only_lo wb (wa.heap.size) (.int .u8 ((y0.kd.toNat : Nat) : Int)) (.int .i64 y0.ix) (.int .i64 y0.ce) (.int .i64 y0.st) (.slice aowb y0.vn cawb) (.slice bowb y0.dn cbwb)
        have HBK2 : Hid (At w2 wbs (wa.heap.size) #[.int .u8 ((y0.kd.toNat : Nat) : Int), .int .i64 y0.ix, .int .i64 y0.ce, .int .i64 y0.st, .slice aowb y0.vn cawb, .slice bowb y0.dn cbwb] 31) := by show At _ _ _ _ _; rw [hwbs]; exact at_six HBK.out (.int .u8 ((y0.kd.toNat : Nat) : Int)) (.int .i64 y0.ix) (.int .i64 y0.ce) (.int .i64 y0.st) (.slice aowb y0.vn cawb) (.slice bowb y0.dn cbwb)
        have HB2 : Hid (Below w2.heap.size w2 wbs) := HB.out.trans (HO.out.below (fun i hi => by have := HA.out.size; omega) HB.out.size)
        have HSZ2 : Hid (w2.heap.size + 1 ≤ wbs.heap.size) := Nat.le_trans HSZ.out HO.out.size
        have HGB2 : Hid (Got w2.heap.size wbs y0 aowb cawb bowb cbwb) := (HGwb.out.mono (by have := HSZwb.out; omega)).apart HO.out HBK.out
        rw [← hwbs]
        clear hwbs HO HBK HB HSZ HGwb HSZwb
        have HBK : Hid (At w2 wbs (wa.heap.size) #[.int .u8 ((y0.kd.toNat : Nat) : Int), .int .i64 y0.ix, .int .i64 y0.ce, .int .i64 y0.st, .slice aowb y0.vn cawb, .slice bowb y0.dn cbwb] 31) := HBK2.out
        have HB : Hid (Below w2.heap.size w2 wbs) := HB2.out
        have HSZ : Hid (w2.heap.size + 1 ≤ wbs.heap.size) := HSZ2.out
        have HGB : Hid (Got w2.heap.size wbs y0 aowb cawb bowb cbwb) := HGB2.out
        clear HBK2 HB2 HSZ2 HGB2
        rw [rounds_succ]
        go_wp2_with fail
        have KS : Hid (∀ v, Below wbs.heap.size wbs v → v.cell? ⟨w.heap.size, 0, none⟩ = some (.int .i64 k) ∧ v.cell? ⟨w.heap.size, 1, none⟩ = some (.int .i64 r) ∧ v.cell? ⟨w.heap.size, 2, none⟩ = some (.int .i64 c) ∧ v.cell? ⟨w.heap.size, 3, none⟩ = some (.int .i64 q) ∧ v.cell? ⟨w.heap.size + 1, 1, none⟩ = some (.slice a1 n1 c1)) := fun v hv => by
          have q0 := (Lw0.out wbs HB.out).below hv
          have q1 := (Lw1.out wbs HB.out).below hv
          exact ⟨q0.cell (i := 0) rfl, q0.cell (i := 1) rfl, q0.cell (i := 2) rfl, q0.cell (i := 3) rfl, q1.cell (i := 1) rfl⟩
        refine wp_region_noPanic (new_reg1 wbs k r c q ix (w.heap.size) (w.heap.size + 1) a1 n1 c1 y1 true _ _ _ _ _ _ _ _ _ _ _ _ _ _ _ _ _ _ _ _ _ _ _ _ _ _ _ _ _ _ _ _ _ _ _ _ _ _ _ _ _ _ _ _ _ _ _ _ _ _ _ _ _ _ _ _ _ (fun v hv => KS.out v hv) (fun v hv => HO1.out v (below_then Bw.out (below_then HB.out hv))) _ (fun _ _ _ h => h) (fun wc gwc aowc cawc bowc cbwc hb hat hgt => NoPanic.normal ?_))
        have HB2 : Hid (Below w2.heap.size w2 wc) := below_then HB.out hb
        have HGwc : Hid (Got wbs.heap.size wc y1 aowc cawc bowc cbwc) := hgt
        have HSZwc : Hid (w2.heap.size + 1 ≤ wbs.heap.size) := HSZ.out
        have HKB : Hid (At w2 wc (wa.heap.size) #[.int .u8 ((y0.kd.toNat : Nat) : Int), .int .i64 y0.ix, .int .i64 y0.ce, .int .i64 y0.st, .slice aowb y0.vn cawb, .slice bowb y0.dn cbwb] 31) := HBK.out.below hb
        have HSZ2 : Hid (w2.heap.size + 1 ≤ wc.heap.size) := Nat.le_trans HSZ.out hb.size
        have HDIF : Hid (¬ gwc = wa.heap.size) := by show ¬ _; have := hat.1; have := HBK.out.lt; omega
        have HGB2 : Hid (Got w2.heap.size wc y0 aowb cawb bowb cbwb) := HGB.out.below hb
        clear HGB
        have HGB : Hid (Got w2.heap.size wc y0 aowb cawb bowb cbwb) := HGB2.out
        clear HGB2
        clear hb hgt KS HB HBK HSZ
        have HB : Hid (Below w2.heap.size w2 wc) := HB2.out
        have HBK : Hid (At w2 wc (wa.heap.size) #[.int .u8 ((y0.kd.toNat : Nat) : Int), .int .i64 y0.ix, .int .i64 y0.ce, .int .i64 y0.st, .slice aowb y0.vn cawb, .slice bowb y0.dn cbwb] 31) := HKB.out
        have HSZ : Hid (w2.heap.size + 1 ≤ wc.heap.size) := HSZ2.out
        clear HB2 HKB HSZ2
        have m0 := hat.cell (i := 0) rfl
        have m1 := hat.cell (i := 1) rfl
        have m2 := hat.cell (i := 2) rfl
        have m3 := hat.cell (i := 3) rfl
        have m4 := hat.cell (i := 4) rfl
        have m5 := hat.cell (i := 5) rfl
        have qb := HBK.out
        have b0 := qb.cell (i := 0) rfl
        have b1 := qb.cell (i := 1) rfl
        have b2 := qb.cell (i := 2) rfl
        have b3 := qb.cell (i := 3) rfl
        have b4 := qb.cell (i := 4) rfl
        have b5 := qb.cell (i := 5) rfl
        have bf := qb.free
        clear qb
        have nq := HDIF.out
        have nq2 : ¬ wa.heap.size = gwc := by omega
        clear hat
        go_wp2_with fail
        clear m0 m1 m2 m3 m4 m5 b0 b1 b2 b3 b4 b5 bf nq nq2
        clear HDIF
        clear HGwc HSZwc
        have q2 := Lw2.out wc HB.out
        have qb := HBK.out
        have r0 := q2.cell (i := 0) rfl
        have r1 := q2.cell (i := 1) rfl
        have r2 := q2.cell (i := 2) rfl
        have r3 := q2.cell (i := 3) rfl
        have r4 := q2.cell (i := 4) rfl
        have r5 := q2.cell (i := 5) rfl
        have rf := q2.free
        have b0 := qb.cell (i := 0) rfl
        have b1 := qb.cell (i := 1) rfl
        have b2 := qb.cell (i := 2) rfl
        have b3 := qb.cell (i := 3) rfl
        have b4 := qb.cell (i := 4) rfl
        have b5 := qb.cell (i := 5) rfl
        have nq : ¬ wa.heap.size = w.heap.size + 1 + 1 := by have := HA.out.size; have := HS2.out; omega
        have nq2 : ¬ w.heap.size + 1 + 1 = wa.heap.size := by omega
        clear q2 qb
        rw [rounds_succ]
        go_wp2_with fail
        go_region_held3 (fun v => v.cell? ⟨wa.heap.size, 0, none⟩ = some (.int .u8 ((y0.kd.toNat : Nat) : Int)) ∧ v.cell? ⟨wa.heap.size, 1, none⟩ = some (.int .i64 y0.ix) ∧ v.cell? ⟨wa.heap.size, 2, none⟩ = some (.int .i64 y0.ce) ∧ v.cell? ⟨wa.heap.size, 3, none⟩ = some (.int .i64 y0.st) ∧ v.cell? ⟨wa.heap.size, 4, none⟩ = some (.slice aowb y0.vn cawb) ∧ v.cell? ⟨wa.heap.size, 5, none⟩ = some (.slice bowb y0.dn cbwb)) (go_keep) (fail)
        go_wp2_with fail
        refine bodyPost_ret (v := .tuple #[.int .i64 0, .agg #[.int .u8 ((y0.kd.toNat : Nat) : Int), .int .i64 y0.ix, .int .i64 y0.ce, .int .i64 y0.st, .slice aowb y0.vn cawb, .slice bowb y0.dn cbwb], .bool true, .int .i64 0]) (by simp [results, Try.results12, go_sem, r0, r1, r2, r3, r4, r5]) rfl ?_
        obtain ⟨g1, g2, g3⟩ := HRES.out
        rw [g1, g2, g3]
        have hal := below_then Bw.out HB.out
        have ho := (only_lo wc (w.heap.size + 1 + 1) (.int .u8 ((y0.kd.toNat : Nat) : Int)) (.int .i64 y0.ix) (.int .i64 y0.ce) (.int .i64 y0.st) (.slice aowb y0.vn cawb) (.slice bowb y0.dn cbwb)).drew
        exact ⟨aowb, cawb, bowb, cbwb, rfl, (HGB.out.stay ho (by have := HS2.out; omega)).mono (by have := HS2.out; omega), hal.trans (ho.below (fun i hi => by omega) hal.size)⟩
      · rw [t1] at HO1
        have hlt : ¬ (ofK kd y0).ce < (ofK kd y1).ce := by rw [hb0]; exact t0
        have hrs : gN y0 y1 kd = 0 ∧ gZ y0 y1 kd = y0 ∧ gB y0 y1 kd = true := by
          have hz : gZ y0 y1 kd = y0 := by unfold gZ; rw [if_neg hlt]; exact hb0
          refine ⟨by unfold gN; rw [if_neg hlt], hz, ?_⟩
          unfold gB
          rw [hz]
          exact decide_eq_true (by omega)
        have HRES : Hid _ := hrs
        clear hrs hlt t0 t1 s0 s1 hb0 u0 u1 hm0 s4
        go_enter Try.func12, Try.ntmps12
        go_wp2_with fail
        rw [← hw0, ← hw1, ← hw2]
        clear hw0 bw0 zw0 hw1 bw1 zw1 hw2 bw2 zw2
        refine (HAS.out _).mono ?_
        rintro e wa ⟨rfl, ha⟩
        have HA : Hid (Below w2.heap.size w2 wa) := ha
        clear ha HAS
        obtain ⟨wp, hwp⟩ : ∃ wp, wp = wa.alloc (.cells #[.int .u8 0, .int .i64 0, .int .i64 0, .int .i64 0, .slice none 0 0, .slice none 0 0] 31) := ⟨_, rfl⟩
        have HB : Hid (Below w2.heap.size w2 wp) := by show Below _ _ _; rw [hwp]; exact b_alloc HA.out _
        have HBK : Hid (At w2 wp (wa.heap.size) #[.int .u8 0, .int .i64 0, .int .i64 0, .int .i64 0, .slice none 0 0, .slice none 0 0] 31) := at_made HA.out hwp
        have HSZ : Hid (w2.heap.size + 1 ≤ wp.heap.size) := by show _ ≤ _; have := HBK.out.lt; have := HBK.out.1; omega
        go_wp2_with fail
        refine wp_loop_rounds 3 ?_
        rw [← hwp]
        clear hwp
        rw [rounds_succ]
        go_wp2_with fail
        have KS : Hid (∀ v, Below wp.heap.size wp v → v.cell? ⟨w.heap.size, 0, none⟩ = some (.int .i64 k) ∧ v.cell? ⟨w.heap.size, 1, none⟩ = some (.int .i64 r) ∧ v.cell? ⟨w.heap.size, 2, none⟩ = some (.int .i64 c) ∧ v.cell? ⟨w.heap.size, 3, none⟩ = some (.int .i64 q) ∧ v.cell? ⟨w.heap.size + 1, 0, none⟩ = some (.slice a0 n0 c0)) := fun v hv => by
          have q0 := (Lw0.out wp HB.out).below hv
          have q1 := (Lw1.out wp HB.out).below hv
          exact ⟨q0.cell (i := 0) rfl, q0.cell (i := 1) rfl, q0.cell (i := 2) rfl, q0.cell (i := 3) rfl, q1.cell (i := 0) rfl⟩
        refine wp_region_noPanic (new_reg0 wp k r c q ix (w.heap.size) (w.heap.size + 1) a0 n0 c0 y0 true _ _ _ _ _ _ _ _ _ _ _ _ _ _ _ _ _ _ _ _ _ _ _ _ _ _ _ _ _ _ _ _ _ _ _ _ _ _ _ _ _ _ _ _ _ _ _ _ _ _ _ _ _ _ _ _ _ (fun v hv => KS.out v hv) (fun v hv => HO0.out v (below_then Bw.out (below_then HB.out hv))) _ (fun _ _ _ h => h) (fun wb gwb aowb cawb bowb cbwb hb hat hgt => NoPanic.normal ?_))
        have HB2 : Hid (Below w2.heap.size w2 wb) := below_then HB.out hb
        have HGwb : Hid (Got wp.heap.size wb y0 aowb cawb bowb cbwb) := hgt
        have HSZwb : Hid (w2.heap.size + 1 ≤ wp.heap.size) := HSZ.out
        have HKB : Hid (At w2 wb (wa.heap.size) #[.int .u8 0, .int .i64 0, .int .i64 0, .int .i64 0, .slice none 0 0, .slice none 0 0] 31) := HBK.out.below hb
        have HSZ2 : Hid (w2.heap.size + 1 ≤ wb.heap.size) := Nat.le_trans HSZ.out hb.size
        have HDIF : Hid (¬ gwb = wa.heap.size) := by show ¬ _; have := hat.1; have := HBK.out.lt; omega
        clear hb hgt KS HB HBK HSZ
        have HB : Hid (Below w2.heap.size w2 wb) := HB2.out
        have HBK : Hid (At w2 wb (wa.heap.size) #[.int .u8 0, .int .i64 0, .int .i64 0, .int .i64 0, .slice none 0 0, .slice none 0 0] 31) := HKB.out
        have HSZ : Hid (w2.heap.size + 1 ≤ wb.heap.size) := HSZ2.out
        clear HB2 HKB HSZ2
        have m0 := hat.cell (i := 0) rfl
        have m1 := hat.cell (i := 1) rfl
        have m2 := hat.cell (i := 2) rfl
        have m3 := hat.cell (i := 3) rfl
        have m4 := hat.cell (i := 4) rfl
        have m5 := hat.cell (i := 5) rfl
        have qb := HBK.out
        have b0 := qb.cell (i := 0) rfl
        have b1 := qb.cell (i := 1) rfl
        have b2 := qb.cell (i := 2) rfl
        have b3 := qb.cell (i := 3) rfl
        have b4 := qb.cell (i := 4) rfl
        have b5 := qb.cell (i := 5) rfl
        have bf := qb.free
        clear qb
        have nq := HDIF.out
        have nq2 : ¬ wa.heap.size = gwb := by omega
        clear hat
        go_wp2_with fail
        clear m0 m1 m2 m3 m4 m5 b0 b1 b2 b3 b4 b5 bf nq nq2
        clear HDIF
        obtain ⟨wbs, hwbs⟩ : ∃ wbs, wbs = ((((((wb.setCell ⟨wa.heap.size, 0, none⟩ (.int .u8 ((y0.kd.toNat : Nat) : Int))).setCell ⟨wa.heap.size, 1, none⟩ (.int .i64 y0.ix)).setCell ⟨wa.heap.size, 2, none⟩ (.int .i64 y0.ce)).setCell ⟨wa.heap.size, 3, none⟩ (.int .i64 y0.st)).setCell ⟨wa.heap.size, 4, none⟩ (.slice aowb y0.vn cawb)).setCell ⟨wa.heap.size, 5, none⟩ (.slice bowb y0.dn cbwb)) := ⟨_, rfl⟩
        have HO : Hid (Only (fun x => x = wa.heap.size) wb wbs) := by show Only _ _ _; rw [hwbs]; exact only_lo wb (wa.heap.size) (.int .u8 ((y0.kd.toNat : Nat) : Int)) (.int .i64 y0.ix) (.int .i64 y0.ce) (.int .i64 y0.st) (.slice aowb y0.vn cawb) (.slice bowb y0.dn cbwb)
        have HBK2 : Hid (At w2 wbs (wa.heap.size) #[.int .u8 ((y0.kd.toNat : Nat) : Int), .int .i64 y0.ix, .int .i64 y0.ce, .int .i64 y0.st, .slice aowb y0.vn cawb, .slice bowb y0.dn cbwb] 31) := by show At _ _ _ _ _; rw [hwbs]; exact at_six HBK.out (.int .u8 ((y0.kd.toNat : Nat) : Int)) (.int .i64 y0.ix) (.int .i64 y0.ce) (.int .i64 y0.st) (.slice aowb y0.vn cawb) (.slice bowb y0.dn cbwb)
        have HB2 : Hid (Below w2.heap.size w2 wbs) := HB.out.trans (HO.out.below (fun i hi => by have := HA.out.size; omega) HB.out.size)
        have HSZ2 : Hid (w2.heap.size + 1 ≤ wbs.heap.size) := Nat.le_trans HSZ.out HO.out.size
        have HGB2 : Hid (Got w2.heap.size wbs y0 aowb cawb bowb cbwb) := (HGwb.out.mono (by have := HSZwb.out; omega)).apart HO.out HBK.out
        rw [← hwbs]
        clear hwbs HO HBK HB HSZ HGwb HSZwb
        have HBK : Hid (At w2 wbs (wa.heap.size) #[.int .u8 ((y0.kd.toNat : Nat) : Int), .int .i64 y0.ix, .int .i64 y0.ce, .int .i64 y0.st, .slice aowb y0.vn cawb, .slice bowb y0.dn cbwb] 31) := HBK2.out
        have HB : Hid (Below w2.heap.size w2 wbs) := HB2.out
        have HSZ : Hid (w2.heap.size + 1 ≤ wbs.heap.size) := HSZ2.out
        have HGB : Hid (Got w2.heap.size wbs y0 aowb cawb bowb cbwb) := HGB2.out
        clear HBK2 HB2 HSZ2 HGB2
        rw [rounds_succ]
        go_wp2_with fail
        have KS : Hid (∀ v, Below wbs.heap.size wbs v → v.cell? ⟨w.heap.size, 0, none⟩ = some (.int .i64 k) ∧ v.cell? ⟨w.heap.size, 1, none⟩ = some (.int .i64 r) ∧ v.cell? ⟨w.heap.size, 2, none⟩ = some (.int .i64 c) ∧ v.cell? ⟨w.heap.size, 3, none⟩ = some (.int .i64 q) ∧ v.cell? ⟨w.heap.size + 1, 1, none⟩ = some (.slice a1 n1 c1)) := fun v hv => by
          have q0 := (Lw0.out wbs HB.out).below hv
          have q1 := (Lw1.out wbs HB.out).below hv
          exact ⟨q0.cell (i := 0) rfl, q0.cell (i := 1) rfl, q0.cell (i := 2) rfl, q0.cell (i := 3) rfl, q1.cell (i := 1) rfl⟩
        refine wp_region_noPanic (new_reg1 wbs k r c q ix (w.heap.size) (w.heap.size + 1) a1 n1 c1 y1 true _ _ _ _ _ _ _ _ _ _ _ _ _ _ _ _ _ _ _ _ _ _ _ _ _ _ _ _ _ _ _ _ _ _ _ _ _ _ _ _ _ _ _ _ _ _ _ _ _ _ _ _ _ _ _ _ _ (fun v hv => KS.out v hv) (fun v hv => HO1.out v (below_then Bw.out (below_then HB.out hv))) _ (fun _ _ _ h => h) (fun wc gwc aowc cawc bowc cbwc hb hat hgt => NoPanic.normal ?_))
        have HB2 : Hid (Below w2.heap.size w2 wc) := below_then HB.out hb
        have HGwc : Hid (Got wbs.heap.size wc y1 aowc cawc bowc cbwc) := hgt
        have HSZwc : Hid (w2.heap.size + 1 ≤ wbs.heap.size) := HSZ.out
        have HKB : Hid (At w2 wc (wa.heap.size) #[.int .u8 ((y0.kd.toNat : Nat) : Int), .int .i64 y0.ix, .int .i64 y0.ce, .int .i64 y0.st, .slice aowb y0.vn cawb, .slice bowb y0.dn cbwb] 31) := HBK.out.below hb
        have HSZ2 : Hid (w2.heap.size + 1 ≤ wc.heap.size) := Nat.le_trans HSZ.out hb.size
        have HDIF : Hid (¬ gwc = wa.heap.size) := by show ¬ _; have := hat.1; have := HBK.out.lt; omega
        have HGB2 : Hid (Got w2.heap.size wc y0 aowb cawb bowb cbwb) := HGB.out.below hb
        clear HGB
        have HGB : Hid (Got w2.heap.size wc y0 aowb cawb bowb cbwb) := HGB2.out
        clear HGB2
        clear hb hgt KS HB HBK HSZ
        have HB : Hid (Below w2.heap.size w2 wc) := HB2.out
        have HBK : Hid (At w2 wc (wa.heap.size) #[.int .u8 ((y0.kd.toNat : Nat) : Int), .int .i64 y0.ix, .int .i64 y0.ce, .int .i64 y0.st, .slice aowb y0.vn cawb, .slice bowb y0.dn cbwb] 31) := HKB.out
        have HSZ : Hid (w2.heap.size + 1 ≤ wc.heap.size) := HSZ2.out
        clear HB2 HKB HSZ2
        have m0 := hat.cell (i := 0) rfl
        have m1 := hat.cell (i := 1) rfl
        have m2 := hat.cell (i := 2) rfl
        have m3 := hat.cell (i := 3) rfl
        have m4 := hat.cell (i := 4) rfl
        have m5 := hat.cell (i := 5) rfl
        have qb := HBK.out
        have b0 := qb.cell (i := 0) rfl
        have b1 := qb.cell (i := 1) rfl
        have b2 := qb.cell (i := 2) rfl
        have b3 := qb.cell (i := 3) rfl
        have b4 := qb.cell (i := 4) rfl
        have b5 := qb.cell (i := 5) rfl
        have bf := qb.free
        clear qb
        have nq := HDIF.out
        have nq2 : ¬ wa.heap.size = gwc := by omega
        clear hat
        go_wp2_with fail
        clear m0 m1 m2 m3 m4 m5 b0 b1 b2 b3 b4 b5 bf nq nq2
        clear HDIF
        clear HGwc HSZwc
        have q2 := Lw2.out wc HB.out
        have qb := HBK.out
        have r0 := q2.cell (i := 0) rfl
        have r1 := q2.cell (i := 1) rfl
        have r2 := q2.cell (i := 2) rfl
        have r3 := q2.cell (i := 3) rfl
        have r4 := q2.cell (i := 4) rfl
        have r5 := q2.cell (i := 5) rfl
        have rf := q2.free
        have b0 := qb.cell (i := 0) rfl
        have b1 := qb.cell (i := 1) rfl
        have b2 := qb.cell (i := 2) rfl
        have b3 := qb.cell (i := 3) rfl
        have b4 := qb.cell (i := 4) rfl
        have b5 := qb.cell (i := 5) rfl
        have nq : ¬ wa.heap.size = w.heap.size + 1 + 1 := by have := HA.out.size; have := HS2.out; omega
        have nq2 : ¬ w.heap.size + 1 + 1 = wa.heap.size := by omega
        clear q2 qb
        rw [rounds_succ]
        go_wp2_with fail
        go_region_held3 (fun v => v.cell? ⟨wa.heap.size, 0, none⟩ = some (.int .u8 ((y0.kd.toNat : Nat) : Int)) ∧ v.cell? ⟨wa.heap.size, 1, none⟩ = some (.int .i64 y0.ix) ∧ v.cell? ⟨wa.heap.size, 2, none⟩ = some (.int .i64 y0.ce) ∧ v.cell? ⟨wa.heap.size, 3, none⟩ = some (.int .i64 y0.st) ∧ v.cell? ⟨wa.heap.size, 4, none⟩ = some (.slice aowb y0.vn cawb) ∧ v.cell? ⟨wa.heap.size, 5, none⟩ = some (.slice bowb y0.dn cbwb)) (go_keep) (fail)
        go_wp2_with fail
        refine bodyPost_ret (v := .tuple #[.int .i64 0, .agg #[.int .u8 ((y0.kd.toNat : Nat) : Int), .int .i64 y0.ix, .int .i64 y0.ce, .int .i64 y0.st, .slice aowb y0.vn cawb, .slice bowb y0.dn cbwb], .bool true, .int .i64 0]) (by simp [results, Try.results12, go_sem, r0, r1, r2, r3, r4, r5]) rfl ?_
        obtain ⟨g1, g2, g3⟩ := HRES.out
        rw [g1, g2, g3]
        have hal := below_then Bw.out HB.out
        have ho := (only_lo wc (w.heap.size + 1 + 1) (.int .u8 ((y0.kd.toNat : Nat) : Int)) (.int .i64 y0.ix) (.int .i64 y0.ce) (.int .i64 y0.st) (.slice aowb y0.vn cawb) (.slice bowb y0.dn cbwb)).drew
        exact ⟨aowb, cawb, bowb, cbwb, rfl, (HGB.out.stay ho (by have := HS2.out; omega)).mono (by have := HS2.out; omega), hal.trans (ho.below (fun i hi => by omega) hal.size)⟩
      · rw [t1] at HO1
        have hlt : (ofK kd y0).ce < (ofK kd y1).ce := by rw [hb0]; exact t0
        have hrs : gN y0 y1 kd = 1 ∧ gZ y0 y1 kd = y1 ∧ gB y0 y1 kd = decide (0 < y1.ce) := by
          have hz : gZ y0 y1 kd = y1 := by unfold gZ; rw [if_pos hlt]; exact t4
          refine ⟨by unfold gN; rw [if_pos hlt], hz, ?_⟩
          unfold gB
          rw [hz]
          exact (gB_pos u1.1).symm
        have HRES : Hid _ := hrs
        clear hrs hlt t0 t1 s0 s1 hb0 u0 u1 hm0 s4 t4
        go_enter Try.func12, Try.ntmps12
        go_wp2_with fail
        rw [← hw0, ← hw1, ← hw2]
        clear hw0 bw0 zw0 hw1 bw1 zw1 hw2 bw2 zw2
        refine (HAS.out _).mono ?_
        rintro e wa ⟨rfl, ha⟩
        have HA : Hid (Below w2.heap.size w2 wa) := ha
        clear ha HAS
        obtain ⟨wp, hwp⟩ : ∃ wp, wp = wa.alloc (.cells #[.int .u8 0, .int .i64 0, .int .i64 0, .int .i64 0, .slice none 0 0, .slice none 0 0] 31) := ⟨_, rfl⟩
        have HB : Hid (Below w2.heap.size w2 wp) := by show Below _ _ _; rw [hwp]; exact b_alloc HA.out _
        have HBK : Hid (At w2 wp (wa.heap.size) #[.int .u8 0, .int .i64 0, .int .i64 0, .int .i64 0, .slice none 0 0, .slice none 0 0] 31) := at_made HA.out hwp
        have HSZ : Hid (w2.heap.size + 1 ≤ wp.heap.size) := by show _ ≤ _; have := HBK.out.lt; have := HBK.out.1; omega
        go_wp2_with fail
        refine wp_loop_rounds 3 ?_
        rw [← hwp]
        clear hwp
        rw [rounds_succ]
        go_wp2_with fail
        have KS : Hid (∀ v, Below wp.heap.size wp v → v.cell? ⟨w.heap.size, 0, none⟩ = some (.int .i64 k) ∧ v.cell? ⟨w.heap.size, 1, none⟩ = some (.int .i64 r) ∧ v.cell? ⟨w.heap.size, 2, none⟩ = some (.int .i64 c) ∧ v.cell? ⟨w.heap.size, 3, none⟩ = some (.int .i64 q) ∧ v.cell? ⟨w.heap.size + 1, 0, none⟩ = some (.slice a0 n0 c0)) := fun v hv => by
          have q0 := (Lw0.out wp HB.out).below hv
          have q1 := (Lw1.out wp HB.out).below hv
          exact ⟨q0.cell (i := 0) rfl, q0.cell (i := 1) rfl, q0.cell (i := 2) rfl, q0.cell (i := 3) rfl, q1.cell (i := 0) rfl⟩
        refine wp_region_noPanic (new_reg0 wp k r c q ix (w.heap.size) (w.heap.size + 1) a0 n0 c0 y0 true _ _ _ _ _ _ _ _ _ _ _ _ _ _ _ _ _ _ _ _ _ _ _ _ _ _ _ _ _ _ _ _ _ _ _ _ _ _ _ _ _ _ _ _ _ _ _ _ _ _ _ _ _ _ _ _ _ (fun v hv => KS.out v hv) (fun v hv => HO0.out v (below_then Bw.out (below_then HB.out hv))) _ (fun _ _ _ h => h) (fun wb gwb aowb cawb bowb cbwb hb hat hgt => NoPanic.normal ?_))
        have HB2 : Hid (Below w2.heap.size w2 wb) := below_then HB.out hb
        have HGwb : Hid (Got wp.heap.size wb y0 aowb cawb bowb cbwb) := hgt
        have HSZwb : Hid (w2.heap.size + 1 ≤ wp.heap.size) := HSZ.out
        have HKB : Hid (At w2 wb (wa.heap.size) #[.int .u8 0, .int .i64 0, .int .i64 0, .int .i64 0, .slice none 0 0, .slice none 0 0] 31) := HBK.out.below hb
        have HSZ2 : Hid (w2.heap.size + 1 ≤ wb.heap.size) := Nat.le_trans HSZ.out hb.size
        have HDIF : Hid (¬ gwb = wa.heap.size) := by show ¬ _; have := hat.1; have := HBK.out.lt; omega
        clear hb hgt KS HB HBK HSZ
        have HB : Hid (Below w2.heap.size w2 wb) := HB2.out
        have HBK : Hid (At w2 wb (wa.heap.size) #[.int .u8 0, .int .i64 0, .int .i64 0, .int .i64 0, .slice none 0 0, .slice none 0 0] 31) := HKB.out
        have HSZ : Hid (w2.heap.size + 1 ≤ wb.heap.size) := HSZ2.out
        clear HB2 HKB HSZ2
        have m0 := hat.cell (i := 0) rfl
        have m1 := hat.cell (i := 1) rfl
        have m2 := hat.cell (i := 2) rfl
        have m3 := hat.cell (i := 3) rfl
        have m4 := hat.cell (i := 4) rfl
        have m5 := hat.cell (i := 5) rfl
        have qb := HBK.out
        have b0 := qb.cell (i := 0) rfl
        have b1 := qb.cell (i := 1) rfl
        have b2 := qb.cell (i := 2) rfl
        have b3 := qb.cell (i := 3) rfl
        have b4 := qb.cell (i := 4) rfl
        have b5 := qb.cell (i := 5) rfl
        have bf := qb.free
        clear qb
        have nq := HDIF.out
        have nq2 : ¬ wa.heap.size = gwb := by omega
        clear hat
        go_wp2_with fail
        clear m0 m1 m2 m3 m4 m5 b0 b1 b2 b3 b4 b5 bf nq nq2
        clear HDIF
        obtain ⟨wbs, hwbs⟩ : ∃ wbs, wbs = ((((((wb.setCell ⟨wa.heap.size, 0, none⟩ (.int .u8 ((y0.kd.toNat : Nat) : Int))).setCell ⟨wa.heap.size, 1, none⟩ (.int .i64 y0.ix)).setCell ⟨wa.heap.size, 2, none⟩ (.int .i64 y0.ce)).setCell ⟨wa.heap.size, 3, none⟩ (.int .i64 y0.st)).setCell ⟨wa.heap.size, 4, none⟩ (.slice aowb y0.vn cawb)).setCell ⟨wa.heap.size, 5, none⟩ (.slice bowb y0.dn cbwb)) := ⟨_, rfl⟩
        have HO : Hid (Only (fun x => x = wa.heap.size) wb wbs) := by show Only _ _ _; rw [hwbs]; exact only_lo wb (wa.heap.size) (.int .u8 ((y0.kd.toNat : Nat) : Int)) (.int .i64 y0.ix) (.int .i64 y0.ce) (.int .i64 y0.st) (.slice aowb y0.vn cawb) (.slice bowb y0.dn cbwb)
        have HBK2 : Hid (At w2 wbs (wa.heap.size) #[.int .u8 ((y0.kd.toNat : Nat) : Int), .int .i64 y0.ix, .int .i64 y0.ce, .int .i64 y0.st, .slice aowb y0.vn cawb, .slice bowb y0.dn cbwb] 31) := by show At _ _ _ _ _; rw [hwbs]; exact at_six HBK.out (.int .u8 ((y0.kd.toNat : Nat) : Int)) (.int .i64 y0.ix) (.int .i64 y0.ce) (.int .i64 y0.st) (.slice aowb y0.vn cawb) (.slice bowb y0.dn cbwb)
        have HB2 : Hid (Below w2.heap.size w2 wbs) := HB.out.trans (HO.out.below (fun i hi => by have := HA.out.size; omega) HB.out.size)
        have HSZ2 : Hid (w2.heap.size + 1 ≤ wbs.heap.size) := Nat.le_trans HSZ.out HO.out.size
        have HGB2 : Hid (Got w2.heap.size wbs y0 aowb cawb bowb cbwb) := (HGwb.out.mono (by have := HSZwb.out; omega)).apart HO.out HBK.out
        rw [← hwbs]
        clear hwbs HO HBK HB HSZ HGwb HSZwb
        have HBK : Hid (At w2 wbs (wa.heap.size) #[.int .u8 ((y0.kd.toNat : Nat) : Int), .int .i64 y0.ix, .int .i64 y0.ce, .int .i64 y0.st, .slice aowb y0.vn cawb, .slice bowb y0.dn cbwb] 31) := HBK2.out
        have HB : Hid (Below w2.heap.size w2 wbs) := HB2.out
        have HSZ : Hid (w2.heap.size + 1 ≤ wbs.heap.size) := HSZ2.out
        have HGB : Hid (Got w2.heap.size wbs y0 aowb cawb bowb cbwb) := HGB2.out
        clear HBK2 HB2 HSZ2 HGB2
        rw [rounds_succ]
        go_wp2_with fail
        have KS : Hid (∀ v, Below wbs.heap.size wbs v → v.cell? ⟨w.heap.size, 0, none⟩ = some (.int .i64 k) ∧ v.cell? ⟨w.heap.size, 1, none⟩ = some (.int .i64 r) ∧ v.cell? ⟨w.heap.size, 2, none⟩ = some (.int .i64 c) ∧ v.cell? ⟨w.heap.size, 3, none⟩ = some (.int .i64 q) ∧ v.cell? ⟨w.heap.size + 1, 1, none⟩ = some (.slice a1 n1 c1)) := fun v hv => by
          have q0 := (Lw0.out wbs HB.out).below hv
          have q1 := (Lw1.out wbs HB.out).below hv
          exact ⟨q0.cell (i := 0) rfl, q0.cell (i := 1) rfl, q0.cell (i := 2) rfl, q0.cell (i := 3) rfl, q1.cell (i := 1) rfl⟩
        refine wp_region_noPanic (new_reg1 wbs k r c q ix (w.heap.size) (w.heap.size + 1) a1 n1 c1 y1 true _ _ _ _ _ _ _ _ _ _ _ _ _ _ _ _ _ _ _ _ _ _ _ _ _ _ _ _ _ _ _ _ _ _ _ _ _ _ _ _ _ _ _ _ _ _ _ _ _ _ _ _ _ _ _ _ _ (fun v hv => KS.out v hv) (fun v hv => HO1.out v (below_then Bw.out (below_then HB.out hv))) _ (fun _ _ _ h => h) (fun wc gwc aowc cawc bowc cbwc hb hat hgt => NoPanic.normal ?_))
        have HB2 : Hid (Below w2.heap.size w2 wc) := below_then HB.out hb
        have HGwc : Hid (Got wbs.heap.size wc y1 aowc cawc bowc cbwc) := hgt
        have HSZwc : Hid (w2.heap.size + 1 ≤ wbs.heap.size) := HSZ.out
        have HKB : Hid (At w2 wc (wa.heap.size) #[.int .u8 ((y0.kd.toNat : Nat) : Int), .int .i64 y0.ix, .int .i64 y0.ce, .int .i64 y0.st, .slice aowb y0.vn cawb, .slice bowb y0.dn cbwb] 31) := HBK.out.below hb
        have HSZ2 : Hid (w2.heap.size + 1 ≤ wc.heap.size) := Nat.le_trans HSZ.out hb.size
        have HDIF : Hid (¬ gwc = wa.heap.size) := by show ¬ _; have := hat.1; have := HBK.out.lt; omega
        have HGB2 : Hid (Got w2.heap.size wc y0 aowb cawb bowb cbwb) := HGB.out.below hb
        clear HGB
        have HGB : Hid (Got w2.heap.size wc y0 aowb cawb bowb cbwb) := HGB2.out
        clear HGB2
        clear hb hgt KS HB HBK HSZ
        have HB : Hid (Below w2.heap.size w2 wc) := HB2.out
        have HBK : Hid (At w2 wc (wa.heap.size) #[.int .u8 ((y0.kd.toNat : Nat) : Int), .int .i64 y0.ix, .int .i64 y0.ce, .int .i64 y0.st, .slice aowb y0.vn cawb, .slice bowb y0.dn cbwb] 31) := HKB.out
        have HSZ : Hid (w2.heap.size + 1 ≤ wc.heap.size) := HSZ2.out
        clear HB2 HKB HSZ2
        have m0 := hat.cell (i := 0) rfl
        have m1 := hat.cell (i := 1) rfl
        have m2 := hat.cell (i := 2) rfl
        have m3 := hat.cell (i := 3) rfl
        have m4 := hat.cell (i := 4) rfl
        have m5 := hat.cell (i := 5) rfl
        have qb := HBK.out
        have b0 := qb.cell (i := 0) rfl
        have b1 := qb.cell (i := 1) rfl
        have b2 := qb.cell (i := 2) rfl
        have b3 := qb.cell (i := 3) rfl
        have b4 := qb.cell (i := 4) rfl
        have b5 := qb.cell (i := 5) rfl
        have bf := qb.free
        clear qb
        have nq := HDIF.out
        have nq2 : ¬ wa.heap.size = gwc := by omega
        clear hat
        go_wp2_with fail
        clear m0 m1 m2 m3 m4 m5 b0 b1 b2 b3 b4 b5 bf nq nq2
        clear HDIF
        obtain ⟨wcs, hwcs⟩ : ∃ wcs, wcs = ((((((wc.setCell ⟨wa.heap.size, 0, none⟩ (.int .u8 ((y1.kd.toNat : Nat) : Int))).setCell ⟨wa.heap.size, 1, none⟩ (.int .i64 y1.ix)).setCell ⟨wa.heap.size, 2, none⟩ (.int .i64 y1.ce)).setCell ⟨wa.heap.size, 3, none⟩ (.int .i64 y1.st)).setCell ⟨wa.heap.size, 4, none⟩ (.slice aowc y1.vn cawc)).setCell ⟨wa.heap.size, 5, none⟩ (.slice bowc y1.dn cbwc)) := ⟨_, rfl⟩
        have HO : Hid (Only (fun x => x = wa.heap.size) wc wcs) := by show Only _ _ _; rw [hwcs]; exact only_lo wc (wa.heap.size) (.int .u8 ((y1.kd.toNat : Nat) : Int)) (.int .i64 y1.ix) (.int .i64 y1.ce) (.int .i64 y1.st) (.slice aowc y1.vn cawc) (.slice bowc y1.dn cbwc)
        have HBK2 : Hid (At w2 wcs (wa.heap.size) #[.int .u8 ((y1.kd.toNat : Nat) : Int), .int .i64 y1.ix, .int .i64 y1.ce, .int .i64 y1.st, .slice aowc y1.vn cawc, .slice bowc y1.dn cbwc] 31) := by show At _ _ _ _ _; rw [hwcs]; exact at_six HBK.out (.int .u8 ((y1.kd.toNat : Nat) : Int)) (.int .i64 y1.ix) (.int .i64 y1.ce) (.int .i64 y1.st) (.slice aowc y1.vn cawc) (.slice bowc y1.dn cbwc)
        have HB2 : Hid (Below w2.heap.size w2 wcs) := HB.out.trans (HO.out.below (fun i hi => by have := HA.out.size; omega) HB.out.size)
        have HSZ2 : Hid (w2.heap.size + 1 ≤ wcs.heap.size) := Nat.le_trans HSZ.out HO.out.size
        have HGB2 : Hid (Got w2.heap.size wcs y1 aowc cawc bowc cbwc) := (HGwc.out.mono (by have := HSZwc.out; omega)).apart HO.out HBK.out
        rw [← hwcs]
        clear hwcs HO HBK HB HSZ HGwc HSZwc HGB
        have HBK : Hid (At w2 wcs (wa.heap.size) #[.int .u8 ((y1.kd.toNat : Nat) : Int), .int .i64 y1.ix, .int .i64 y1.ce, .int .i64 y1.st, .slice aowc y1.vn cawc, .slice bowc y1.dn cbwc] 31) := HBK2.out
        have HB : Hid (Below w2.heap.size w2 wcs) := HB2.out
        have HSZ : Hid (w2.heap.size + 1 ≤ wcs.heap.size) := HSZ2.out
        have HGB : Hid (Got w2.heap.size wcs y1 aowc cawc bowc cbwc) := HGB2.out
        clear HBK2 HB2 HSZ2 HGB2
        have q2 := Lw2.out wcs HB.out
        have qb := HBK.out
        have r0 := q2.cell (i := 0) rfl
        have r1 := q2.cell (i := 1) rfl
        have r2 := q2.cell (i := 2) rfl
        have r3 := q2.cell (i := 3) rfl
        have r4 := q2.cell (i := 4) rfl
        have r5 := q2.cell (i := 5) rfl
        have rf := q2.free
        have b0 := qb.cell (i := 0) rfl
        have b1 := qb.cell (i := 1) rfl
        have b2 := qb.cell (i := 2) rfl
        have b3 := qb.cell (i := 3) rfl
        have b4 := qb.cell (i := 4) rfl
        have b5 := qb.cell (i := 5) rfl
        have nq : ¬ wa.heap.size = w.heap.size + 1 + 1 := by have := HA.out.size; have := HS2.out; omega
        have nq2 : ¬ w.heap.size + 1 + 1 = wa.heap.size := by omega
        clear q2 qb
        rw [rounds_succ]
        go_wp2_with fail
        go_region_held3 (fun v => v.cell? ⟨wa.heap.size, 0, none⟩ = some (.int .u8 ((y1.kd.toNat : Nat) : Int)) ∧ v.cell? ⟨wa.heap.size, 1, none⟩ = some (.int .i64 y1.ix) ∧ v.cell? ⟨wa.heap.size, 2, none⟩ = some (.int .i64 y1.ce) ∧ v.cell? ⟨wa.heap.size, 3, none⟩ = some (.int .i64 y1.st) ∧ v.cell? ⟨wa.heap.size, 4, none⟩ = some (.slice aowc y1.vn cawc) ∧ v.cell? ⟨wa.heap.size, 5, none⟩ = some (.slice bowc y1.dn cbwc)) (go_keep) (fail)
        go_wp2_with fail
        refine bodyPost_ret (v := .tuple #[.int .i64 1, .agg #[.int .u8 ((y1.kd.toNat : Nat) : Int), .int .i64 y1.ix, .int .i64 y1.ce, .int .i64 y1.st, .slice aowc y1.vn cawc, .slice bowc y1.dn cbwc], .bool (decide (0 < y1.ce)), .int .i64 0]) (by simp [results, Try.results12, go_sem, r0, r1, r2, r3, r4, r5]) rfl ?_
        obtain ⟨g1, g2, g3⟩ := HRES.out
        rw [g1, g2, g3]
        have hal := below_then Bw.out HB.out
        have ho := (only_lo wcs (w.heap.size + 1 + 1) (.int .u8 ((y1.kd.toNat : Nat) : Int)) (.int .i64 y1.ix) (.int .i64 y1.ce) (.int .i64 y1.st) (.slice aowc y1.vn cawc) (.slice bowc y1.dn cbwc)).drew
        exact ⟨aowc, cawc, bowc, cbwc, rfl, (HGB.out.stay ho (by have := HS2.out; omega)).mono (by have := HS2.out; omega), hal.trans (ho.below (fun i hi => by omega) hal.size)⟩
  · have hq2 : (E != 0) = true := by simpa using eC
    clear h h0 h1 hy0 hy1 HX
    go_enter Try.func12, Try.ntmps12
    go_wp2_with fail
    rw [← hw0, ← hw1, ← hw2]
    clear hw0 bw0 zw0 hw1 bw1 zw1 hw2 bw2 zw2
    refine (HAS.out _).mono ?_
    rintro e wa ⟨rfl, ha⟩
    have HA : Hid (Below w2.heap.size w2 wa) := ha
    clear ha HAS
    have q2 := Lw2.out wa HA.out
    have r0 := q2.cell (i := 0) rfl
    have r1 := q2.cell (i := 1) rfl
    have r2 := q2.cell (i := 2) rfl
    have r3 := q2.cell (i := 3) rfl
    have r4 := q2.cell (i := 4) rfl
    have r5 := q2.cell (i := 5) rfl
    have rf := q2.free
    clear q2
    go_wp2_with fail
    refine bodyPost_ret (v := .tuple #[.int .i64 0, .agg #[.int .u8 0, .int .i64 0, .int .i64 0, .int .i64 0, .slice none 0 0, .slice none 0 0], .bool false, .int .i64 E]) (by simp [results, Try.results12, go_sem, r0, r1, r2, r3, r4, r5]) rfl ?_
    obtain ⟨rfl, rfl⟩ := HZ2.out (by first | assumption | decide | trivial)
    rw [(gin_z kd).1, (gin_z kd).2.1, (gin_z kd).2.2]
    have hal := below_then Bw.out HA.out
    exact ⟨none, 0, none, 0, rfl, got_z _ _, hal.trans ((only_lo wa (w.heap.size + 1 + 1) (.int .u8 0) (.int .i64 0) (.int .i64 0) (.int .i64 0) (.slice none 0 0) (.slice none 0 0)).below (fun i hi => by omega) hal.size)⟩
end Go.Proofs.Ytmdeadakbohpeaa
