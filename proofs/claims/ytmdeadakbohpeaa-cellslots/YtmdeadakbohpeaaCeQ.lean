/- The document's answer: the slot that holds a version. -/
import Derived.Test.YtmdeadakbohpeaaCeD
import Derived.Test.YtmdeadakbohpeaaCeP
namespace Go.Proofs.Ytmdeadakbohpeaa
open Go.RowKit

/-- The slot that holds a version, or none. -/
def hN (y0 y1 : Sl) (kd : UInt8) (v : Int) : Int := if hB y0 kd v = true then 0 else if hB y1 kd v = true then 1 else -1
/-- The tests of a slot: is there one, of the kind, with the version. -/
theorem hB_tests (y : Sl) (kd : UInt8) (v : Int) : (hB y kd v = false ∧ decide (¬ y.ce = 0) = false) ∨ (hB y kd v = false ∧ decide (¬ y.ce = 0) = true ∧ (((y.kd.toNat : Nat) : Int) == ((kd.toNat : Nat) : Int)) = false) ∨ (hB y kd v = false ∧ decide (¬ y.ce = 0) = true ∧ (((y.kd.toNat : Nat) : Int) == ((kd.toNat : Nat) : Int)) = true ∧ (y.ce == v) = false) ∨ (hB y kd v = true ∧ decide (¬ y.ce = 0) = true ∧ (((y.kd.toNat : Nat) : Int) == ((kd.toNat : Nat) : Int)) = true ∧ (y.ce == v) = true) := by
  unfold hB
  by_cases h1 : y.ce = 0
  · exact .inl ⟨decide_eq_false fun h => h.1 (by rw [← h.2.2]; exact h1), decide_eq_false fun h => h h1⟩
  · by_cases h2 : y.kd = kd
    · have e2 : (((y.kd.toNat : Nat) : Int) == ((kd.toNat : Nat) : Int)) = true := by rw [h2]; simp
      by_cases h3 : y.ce = v
      · exact .inr (.inr (.inr ⟨decide_eq_true ⟨by rw [← h3]; exact h1, h2, h3⟩, decide_eq_true h1, e2, by simpa using h3⟩))
      · exact .inr (.inr (.inl ⟨decide_eq_false fun h => h3 h.2.2, decide_eq_true h1, e2, by simpa using h3⟩))
    · refine .inr (.inl ⟨decide_eq_false fun h => h2 h.2.1, decide_eq_true h1, ?_⟩)
      simp only [beq_eq_false_iff_ne, ne_eq, Int.natCast_inj]
      exact fun e => h2 (UInt8.toNat_inj.1 e)

theorem b_lo {a v : World} {g : Nat} (h : Below a.heap.size a v) (hg : a.heap.size ≤ g) (u0 u1 u2 u3 u4 u5 : Value) : Below a.heap.size a ((((((v.setCell ⟨g, 0, none⟩ u0).setCell ⟨g, 1, none⟩ u1).setCell ⟨g, 2, none⟩ u2).setCell ⟨g, 3, none⟩ u3).setCell ⟨g, 4, none⟩ u4).setCell ⟨g, 5, none⟩ u5) := h.trans ((only_lo v g u0 u1 u2 u3 u4 u5).below (fun i hi => by omega) h.size)
theorem at_six {a v : World} {g : Nat} {t : TypeId} {x0 x1 x2 x3 x4 x5 : Value} (h : At a v g #[x0, x1, x2, x3, x4, x5] t) (u0 u1 u2 u3 u4 u5 : Value) : At a ((((((v.setCell ⟨g, 0, none⟩ u0).setCell ⟨g, 1, none⟩ u1).setCell ⟨g, 2, none⟩ u2).setCell ⟨g, 3, none⟩ u3).setCell ⟨g, 4, none⟩ u4).setCell ⟨g, 5, none⟩ u5) g #[u0, u1, u2, u3, u4, u5] t := (((((h.set 0 u0).set 1 u1).set 2 u2).set 3 u3).set 4 u4).set 5 u5
/-- A slot's slices lie in other blocks than a slot. -/
theorem Got.apart {a v v' : World} {B g : Nat} {s : Sl} {ao : Option Addr} {ca : Nat} {bo : Option Addr} {cb : Nat} {cs : Array Value} (h : Got B v s ao ca bo cb) (ho : Only (fun x => x = g) v v') (hg : At a v g cs 31) : Got B v' s ao ca bo cb := by
  refine ⟨⟨h.vec.1, ?_⟩, ⟨h.bec.1, ?_⟩⟩
  · rcases h.vec.2 with h1 | ⟨g', cap', cur, h1, h2, h3, h4⟩
    · exact .inl h1
    · refine .inr ⟨g', cap', cur, h1, h2, ?_, h4⟩
      rw [ho.block g' (Array.getElem?_eq_some_iff.1 h3).1 (fun e => by subst e; have := h3.symm.trans hg.2; simp at this)]
      exact h3
  · rcases h.bec.2 with h1 | ⟨g', cap', cur, h1, h2, h3, h4⟩
    · exact .inl h1
    · refine .inr ⟨g', cap', cur, h1, h2, ?_, h4⟩
      rw [ho.block g' (Array.getElem?_eq_some_iff.1 h3).1 (fun e => by subst e; have := h3.symm.trans hg.2; simp at this)]
      exact h3

def hops : Array Oper := #[{ dst := some 19, op := Op.load 23 (Operand.tmp 5), type := 23, pos := "ref.go:51", after := #[], guard := none }, { dst := some 20, op := Op.move (Operand.tmp 11), type := 3, pos := "ref.go:51", after := #[], guard := none }, { dst := some 21, op := Op.indexAddr 26 (Operand.tmp 6) (Operand.tmp 20), type := 0, pos := "ref.go:51", after := #[{ on := 1, ground := Ground.data }], guard := none }, { dst := some 22, op := Op.load 24 (Operand.tmp 21), type := 24, pos := "ref.go:51", after := #[{ on := 2, ground := Ground.data }], guard := none }, { dst := some 23, op := Op.move (Operand.tmp 3), type := 3, pos := "ref.go:51", after := #[], guard := none }, { dst := some 24, op := Op.call { callee := Callee.value (Operand.func 24), args := #[Operand.tmp 19, Operand.tmp 22, Operand.tmp 23], argTypes := #[23, 24, 3] }, type := 57, pos := "ref.go:51", after := #[{ on := 0, ground := Ground.data }, { on := 3, ground := Ground.data }, { on := 4, ground := Ground.data }], guard := none }, { dst := some 18, op := Op.move (Operand.tmp 24), type := 57, pos := "ref.go:51", after := #[{ on := 5, ground := Ground.data }], guard := none }, { dst := some 25, op := Op.extract (Operand.tmp 18) 0, type := 31, pos := "ref.go:51", after := #[{ on := 6, ground := Ground.data }], guard := none }, { dst := some 26, op := Op.extract (Operand.tmp 18) 1, type := 4, pos := "ref.go:51", after := #[{ on := 6, ground := Ground.data }, { on := 10, ground := Ground.gcOnly Departure.lateStores }], guard := none }, { dst := some 12, op := Op.alloc 31, type := 0, pos := "ref.go:51", after := #[], guard := none }, { dst := none, op := Op.store 31 (Operand.tmp 12) (Operand.tmp 25), type := 0, pos := "ref.go:51", after := #[{ on := 9, ground := Ground.data }, { on := 7, ground := Ground.data }, { on := 5, ground := Ground.chain }, { on := 0, ground := Ground.phase }, { on := 1, ground := Ground.phase }, { on := 2, ground := Ground.phase }, { on := 3, ground := Ground.phase }, { on := 4, ground := Ground.phase }, { on := 5, ground := Ground.phase }, { on := 6, ground := Ground.phase }, { on := 7, ground := Ground.phase }, { on := 8, ground := Ground.textOnly Departure.lateStores }, { on := 9, ground := Ground.phase }], guard := none }, { dst := some 13, op := Op.assign (Operand.tmp 26), type := 4, pos := "ref.go:51", after := #[{ on := 8, ground := Ground.data }, { on := 10, ground := Ground.chain }, { on := 0, ground := Ground.phase }, { on := 1, ground := Ground.phase }, { on := 2, ground := Ground.phase }, { on := 3, ground := Ground.phase }, { on := 4, ground := Ground.phase }, { on := 5, ground := Ground.phase }, { on := 6, ground := Ground.phase }, { on := 7, ground := Ground.phase }, { on := 8, ground := Ground.phase }, { on := 9, ground := Ground.phase }, { on := 10, ground := Ground.phase }], guard := none }]
set_option maxHeartbeats 8000000 in
set_option maxRecDepth 100000 in
theorem holds_reg0 (w1 : World) (k r c q ix : Int) (g0 g1 : Nat) (a0 : Option Addr) (n0 c0 : Nat) (y : Sl) (b : Bool) (x0 x1 x2 x4 x7 x8 x9 x10 x12 x13 x14 x15 x16 x17 x18 x19 x20 x21 x22 x23 x24 x25 x26 x27 x28 x29 x30 x31 x32 x33 x34 x35 x36 x37 x38 x39 x40 : Value)
    (hS : ∀ v, Below w1.heap.size w1 v → (v.cell? ⟨g0, 0, none⟩ = some (.int .i64 k) ∧ v.cell? ⟨g0, 1, none⟩ = some (.int .i64 r) ∧ v.cell? ⟨g0, 2, none⟩ = some (.int .i64 c) ∧ v.cell? ⟨g0, 3, none⟩ = some (.int .i64 q) ∧ v.cell? ⟨g1, 0, none⟩ = some (.slice a0 n0 c0)))
    (P1 : ∀ v, Below w1.heap.size w1 v → Calls Try.prog 24 #[.agg #[.int .i64 k, .int .i64 r, .int .i64 c, .int .i64 q], .slice a0 n0 c0, .int .i64 ix] v fun e w' => ∃ ao ca bo cb, e = .returned (.tuple #[.agg #[.int .u8 ((y.kd.toNat : Nat) : Int), .int .i64 y.ix, .int .i64 y.ce, .int .i64 y.st, .slice ao y.vn ca, .slice bo y.dn cb], .bool b]) ∧ Got v.heap.size w' y ao ca bo cb ∧ Below v.heap.size v w')
    (Q : Exit → Act → World → Prop) (hQp : ∀ ch a v, Q (.panic ch) a v → False) (hQ : ∀ v g ao ca bo cb, Below w1.heap.size w1 v → At w1 v g #[.int .u8 ((y.kd.toNat : Nat) : Int), .int .i64 y.ix, .int .i64 y.ce, .int .i64 y.st, .slice ao y.vn ca, .slice bo y.dn cb] 31 → Got w1.heap.size v y ao ca bo cb → Q .normal { tmps := #[x0, x1, x2, .int .i64 ix, x4, .pointer (some ⟨g0, 0, none⟩), .pointer (some ⟨g1, 0, none⟩), x7, x8, x9, x10, .int .i64 0, .pointer (some ⟨g, 0, none⟩), .bool b, x14, x15, x16, x17, .tuple #[.agg #[.int .u8 ((y.kd.toNat : Nat) : Int), .int .i64 y.ix, .int .i64 y.ce, .int .i64 y.st, .slice ao y.vn ca, .slice bo y.dn cb], .bool b], .agg #[.int .i64 k, .int .i64 r, .int .i64 c, .int .i64 q], .int .i64 0, .pointer (some ⟨g1, 0, none⟩), .slice a0 n0 c0, .int .i64 ix, .tuple #[.agg #[.int .u8 ((y.kd.toNat : Nat) : Int), .int .i64 y.ix, .int .i64 y.ce, .int .i64 y.st, .slice ao y.vn ca, .slice bo y.dn cb], .bool b], .agg #[.int .u8 ((y.kd.toNat : Nat) : Int), .int .i64 y.ix, .int .i64 y.ce, .int .i64 y.st, .slice ao y.vn ca, .slice bo y.dn cb], .bool b, x27, x28, x29, x30, x31, x32, x33, x34, x35, x36, x37, x38, x39, x40], defers := [] } v) :
    Code.wp Try.prog (Code.region 4 hops true) Q { tmps := #[x0, x1, x2, .int .i64 ix, x4, .pointer (some ⟨g0, 0, none⟩), .pointer (some ⟨g1, 0, none⟩), x7, x8, x9, x10, .int .i64 0, x12, x13, x14, x15, x16, x17, x18, x19, x20, x21, x22, x23, x24, x25, x26, x27, x28, x29, x30, x31, x32, x33, x34, x35, x36, x37, x38, x39, x40], defers := [] } w1 := by
  have HQ : Hid (∀ v g ao ca bo cb, Below w1.heap.size w1 v → At w1 v g #[.int .u8 ((y.kd.toNat : Nat) : Int), .int .i64 y.ix, .int .i64 y.ce, .int .i64 y.st, .slice ao y.vn ca, .slice bo y.dn cb] 31 → Got w1.heap.size v y ao ca bo cb → Q .normal { tmps := #[x0, x1, x2, .int .i64 ix, x4, .pointer (some ⟨g0, 0, none⟩), .pointer (some ⟨g1, 0, none⟩), x7, x8, x9, x10, .int .i64 0, .pointer (some ⟨g, 0, none⟩), .bool b, x14, x15, x16, x17, .tuple #[.agg #[.int .u8 ((y.kd.toNat : Nat) : Int), .int .i64 y.ix, .int .i64 y.ce, .int .i64 y.st, .slice ao y.vn ca, .slice bo y.dn cb], .bool b], .agg #[.int .i64 k, .int .i64 r, .int .i64 c, .int .i64 q], .int .i64 0, .pointer (some ⟨g1, 0, none⟩), .slice a0 n0 c0, .int .i64 ix, .tuple #[.agg #[.int .u8 ((y.kd.toNat : Nat) : Int), .int .i64 y.ix, .int .i64 y.ce, .int .i64 y.st, .slice ao y.vn ca, .slice bo y.dn cb], .bool b], .agg #[.int .u8 ((y.kd.toNat : Nat) : Int), .int .i64 y.ix, .int .i64 y.ce, .int .i64 y.st, .slice ao y.vn ca, .slice bo y.dn cb], .bool b, x27, x28, x29, x30, x31, x32, x33, x34, x35, x36, x37, x38, x39, x40], defers := [] } v) := hQ
  obtain ⟨S, HS1, HS⟩ : ∃ S : World → Prop, Hid (∀ v, S v → (v.cell? ⟨g0, 0, none⟩ = some (.int .i64 k) ∧ v.cell? ⟨g0, 1, none⟩ = some (.int .i64 r) ∧ v.cell? ⟨g0, 2, none⟩ = some (.int .i64 c) ∧ v.cell? ⟨g0, 3, none⟩ = some (.int .i64 q) ∧ v.cell? ⟨g1, 0, none⟩ = some (.slice a0 n0 c0))) ∧ Hid (∀ v, Below w1.heap.size w1 v → S v) := ⟨fun v => v.cell? ⟨g0, 0, none⟩ = some (.int .i64 k) ∧ v.cell? ⟨g0, 1, none⟩ = some (.int .i64 r) ∧ v.cell? ⟨g0, 2, none⟩ = some (.int .i64 c) ∧ v.cell? ⟨g0, 3, none⟩ = some (.int .i64 q) ∧ v.cell? ⟨g1, 0, none⟩ = some (.slice a0 n0 c0), fun v h => h, hS⟩
  have HP1 : Hid (∀ v, Below w1.heap.size w1 v → Calls Try.prog 24 #[.agg #[.int .i64 k, .int .i64 r, .int .i64 c, .int .i64 q], .slice a0 n0 c0, .int .i64 ix] v fun e w' => ∃ ao ca bo cb, e = .returned (.tuple #[.agg #[.int .u8 ((y.kd.toNat : Nat) : Int), .int .i64 y.ix, .int .i64 y.ce, .int .i64 y.st, .slice ao y.vn ca, .slice bo y.dn cb], .bool b]) ∧ Got v.heap.size w' y ao ca bo cb ∧ Below v.heap.size v w') := P1
  clear hS hQ P1
  have H11 : Hid (∀ (v : World) (ao : Option Addr) (ca : Nat) (bo : Option Addr) (cb : Nat) (g : Nat), Below w1.heap.size w1 v → Got w1.heap.size v y ao ca bo cb → At w1 v g #[.int .u8 0, .int .i64 0, .int .i64 0, .int .i64 0, .slice none 0 0, .slice none 0 0] 31 → wpAnyH Try.prog .any hops Q S 2 #[true, true, true, true, true, true, true, true, true, true, false, false] { tmps := #[x0, x1, x2, .int .i64 ix, x4, .pointer (some ⟨g0, 0, none⟩), .pointer (some ⟨g1, 0, none⟩), x7, x8, x9, x10, .int .i64 0, .pointer (some ⟨g, 0, none⟩), x13, x14, x15, x16, x17, .tuple #[.agg #[.int .u8 ((y.kd.toNat : Nat) : Int), .int .i64 y.ix, .int .i64 y.ce, .int .i64 y.st, .slice ao y.vn ca, .slice bo y.dn cb], .bool b], .agg #[.int .i64 k, .int .i64 r, .int .i64 c, .int .i64 q], .int .i64 0, .pointer (some ⟨g1, 0, none⟩), .slice a0 n0 c0, .int .i64 ix, .tuple #[.agg #[.int .u8 ((y.kd.toNat : Nat) : Int), .int .i64 y.ix, .int .i64 y.ce, .int .i64 y.st, .slice ao y.vn ca, .slice bo y.dn cb], .bool b], .agg #[.int .u8 ((y.kd.toNat : Nat) : Int), .int .i64 y.ix, .int .i64 y.ce, .int .i64 y.st, .slice ao y.vn ca, .slice bo y.dn cb], .bool b, x27, x28, x29, x30, x31, x32, x33, x34, x35, x36, x37, x38, x39, x40], defers := [] } v) := fun v ao ca bo cb g hb hg f3 => by
    have c0 := f3.cell (i := 0) rfl
    have c1 := f3.cell (i := 1) rfl
    have c2 := f3.cell (i := 2) rfl
    have c3 := f3.cell (i := 3) rfl
    have c4 := f3.cell (i := 4) rfl
    have c5 := f3.cell (i := 5) rfl
    have cf := f3.free
    have hbb := b_lo hb f3.1 (.int .u8 ((y.kd.toNat : Nat) : Int)) (.int .i64 y.ix) (.int .i64 y.ce) (.int .i64 y.st) (.slice ao y.vn ca) (.slice bo y.dn cb)
    have ho := only_lo v g (.int .u8 ((y.kd.toNat : Nat) : Int)) (.int .i64 y.ix) (.int .i64 y.ce) (.int .i64 y.st) (.slice ao y.vn ca) (.slice bo y.dn cb)
    have hgg := hg.apart ho f3
    have hat := at_six f3 (.int .u8 ((y.kd.toNat : Nat) : Int)) (.int .i64 y.ix) (.int .i64 y.ce) (.int .i64 y.st) (.slice ao y.vn ca) (.slice bo y.dn cb)
    refine wpAnyH_ready (rs := [10]) (by kernel_rfl) (by simp) ?_
    refine AllReadyH.cons (o := { dst := none, op := Op.store 31 (Operand.tmp 12) (Operand.tmp 25), type := 0, pos := "ref.go:51", after := #[{ on := 9, ground := Ground.data }, { on := 7, ground := Ground.data }, { on := 5, ground := Ground.chain }, { on := 0, ground := Ground.phase }, { on := 1, ground := Ground.phase }, { on := 2, ground := Ground.phase }, { on := 3, ground := Ground.phase }, { on := 4, ground := Ground.phase }, { on := 5, ground := Ground.phase }, { on := 6, ground := Ground.phase }, { on := 7, ground := Ground.phase }, { on := 8, ground := Ground.textOnly Departure.lateStores }, { on := 9, ground := Ground.phase }], guard := none }) rfl (fun K hK => ?_) AllReadyH.nil
    go_simp
    refine hK.out _ _ (HS.out _ hbb) (fun hHeld => ?_)
    refine wpAnyH_take (i := 11) (oi := { dst := some 13, op := Op.assign (Operand.tmp 26), type := 4, pos := "ref.go:51", after := #[{ on := 8, ground := Ground.data }, { on := 10, ground := Ground.chain }, { on := 0, ground := Ground.phase }, { on := 1, ground := Ground.phase }, { on := 2, ground := Ground.phase }, { on := 3, ground := Ground.phase }, { on := 4, ground := Ground.phase }, { on := 5, ground := Ground.phase }, { on := 6, ground := Ground.phase }, { on := 7, ground := Ground.phase }, { on := 8, ground := Ground.phase }, { on := 9, ground := Ground.phase }, { on := 10, ground := Ground.phase }], guard := none }) (v := .bool b) rfl (by kernel_rfl) (by kernel_rfl) (by kernel_rfl) (fun _ _ _ h => (hQp _ _ _ h).elim) (Or.inl ⟨by kernel_rfl, ?_⟩) (HS.out _ hbb) ?_
    · intro w' hSw
      obtain ⟨s0, s1, s2, s3, s4⟩ := HS1.out _ hSw
      go_simp <;> first | with_reducible rfl | assumption
    refine wpAnyH_done (by kernel_rfl) ?_ _
    exact HQ.out _ g ao ca bo cb hbb hat hgg
  have H10 : Hid (∀ (v : World) (ao : Option Addr) (ca : Nat) (bo : Option Addr) (cb : Nat), Below w1.heap.size w1 v → Got w1.heap.size v y ao ca bo cb → wpAnyH Try.prog .any hops Q S 3 #[true, true, true, true, true, true, true, true, true, false, false, false] { tmps := #[x0, x1, x2, .int .i64 ix, x4, .pointer (some ⟨g0, 0, none⟩), .pointer (some ⟨g1, 0, none⟩), x7, x8, x9, x10, .int .i64 0, x12, x13, x14, x15, x16, x17, .tuple #[.agg #[.int .u8 ((y.kd.toNat : Nat) : Int), .int .i64 y.ix, .int .i64 y.ce, .int .i64 y.st, .slice ao y.vn ca, .slice bo y.dn cb], .bool b], .agg #[.int .i64 k, .int .i64 r, .int .i64 c, .int .i64 q], .int .i64 0, .pointer (some ⟨g1, 0, none⟩), .slice a0 n0 c0, .int .i64 ix, .tuple #[.agg #[.int .u8 ((y.kd.toNat : Nat) : Int), .int .i64 y.ix, .int .i64 y.ce, .int .i64 y.st, .slice ao y.vn ca, .slice bo y.dn cb], .bool b], .agg #[.int .u8 ((y.kd.toNat : Nat) : Int), .int .i64 y.ix, .int .i64 y.ce, .int .i64 y.st, .slice ao y.vn ca, .slice bo y.dn cb], .bool b, x27, x28, x29, x30, x31, x32, x33, x34, x35, x36, x37, x38, x39, x40], defers := [] } v) := fun v ao ca bo cb hb hg => by
    refine wpAnyH_ready (rs := [9]) (by kernel_rfl) (by simp) ?_
    refine AllReadyH.cons (o := { dst := some 12, op := Op.alloc 31, type := 0, pos := "ref.go:51", after := #[], guard := none }) rfl (fun K hK => ?_) AllReadyH.nil
    go_simp
    refine hK.out _ _ (HS.out _ (b_alloc hb _)) (fun hHeld => ?_)
    exact H11.out _ ao ca bo cb _ (b_alloc hb _) (hg.below (below_alloc _ _)) (at_new hb _ _)
  have H01 : Hid (∀ (v : World) (g : Nat), Below w1.heap.size w1 v → At w1 v g #[.int .u8 0, .int .i64 0, .int .i64 0, .int .i64 0, .slice none 0 0, .slice none 0 0] 31 → wpAnyH Try.prog .any hops Q S 6 #[true, true, true, true, true, false, false, false, false, true, false, false] { tmps := #[x0, x1, x2, .int .i64 ix, x4, .pointer (some ⟨g0, 0, none⟩), .pointer (some ⟨g1, 0, none⟩), x7, x8, x9, x10, .int .i64 0, .pointer (some ⟨g, 0, none⟩), x13, x14, x15, x16, x17, x18, .agg #[.int .i64 k, .int .i64 r, .int .i64 c, .int .i64 q], .int .i64 0, .pointer (some ⟨g1, 0, none⟩), .slice a0 n0 c0, .int .i64 ix, x24, x25, x26, x27, x28, x29, x30, x31, x32, x33, x34, x35, x36, x37, x38, x39, x40], defers := [] } v) := fun v g hb f3 => by
    refine wpAnyH_ready (rs := [5]) (by kernel_rfl) (by simp) ?_
    refine AllReadyH.cons (o := { dst := some 24, op := Op.call { callee := Callee.value (Operand.func 24), args := #[Operand.tmp 19, Operand.tmp 22, Operand.tmp 23], argTypes := #[23, 24, 3] }, type := 57, pos := "ref.go:51", after := #[{ on := 0, ground := Ground.data }, { on := 3, ground := Ground.data }, { on := 4, ground := Ground.data }], guard := none }) rfl (fun K hK => ?_) AllReadyH.nil
    go_simp
    refine (HP1.out _ hb).mono ?_
    rintro e w' ⟨ao, ca, bo, cb, rfl, hg, hw'⟩
    have hb' := below_then hb hw'
    have hg' := hg.mono hb.size
    refine hK.out _ _ (HS.out _ hb') (fun hHeld => ?_)
    refine wpAnyH_take (i := 6) (oi := { dst := some 18, op := Op.move (Operand.tmp 24), type := 57, pos := "ref.go:51", after := #[{ on := 5, ground := Ground.data }], guard := none }) (v := .tuple #[.agg #[.int .u8 ((y.kd.toNat : Nat) : Int), .int .i64 y.ix, .int .i64 y.ce, .int .i64 y.st, .slice ao y.vn ca, .slice bo y.dn cb], .bool b]) rfl (by kernel_rfl) (by kernel_rfl) (by kernel_rfl) (fun _ _ _ h => (hQp _ _ _ h).elim) (Or.inl ⟨by kernel_rfl, ?_⟩) (HS.out _ hb') ?_
    · intro w' hSw
      obtain ⟨s0, s1, s2, s3, s4⟩ := HS1.out _ hSw
      go_simp <;> first | with_reducible rfl | assumption
    show wpAnyH Try.prog .any hops Q S 4 #[true, true, true, true, true, true, true, false, false, true, false, false] { tmps := #[x0, x1, x2, .int .i64 ix, x4, .pointer (some ⟨g0, 0, none⟩), .pointer (some ⟨g1, 0, none⟩), x7, x8, x9, x10, .int .i64 0, .pointer (some ⟨g, 0, none⟩), x13, x14, x15, x16, x17, .tuple #[.agg #[.int .u8 ((y.kd.toNat : Nat) : Int), .int .i64 y.ix, .int .i64 y.ce, .int .i64 y.st, .slice ao y.vn ca, .slice bo y.dn cb], .bool b], .agg #[.int .i64 k, .int .i64 r, .int .i64 c, .int .i64 q], .int .i64 0, .pointer (some ⟨g1, 0, none⟩), .slice a0 n0 c0, .int .i64 ix, .tuple #[.agg #[.int .u8 ((y.kd.toNat : Nat) : Int), .int .i64 y.ix, .int .i64 y.ce, .int .i64 y.st, .slice ao y.vn ca, .slice bo y.dn cb], .bool b], x25, x26, x27, x28, x29, x30, x31, x32, x33, x34, x35, x36, x37, x38, x39, x40], defers := [] } w'
    refine wpAnyH_take (i := 7) (oi := { dst := some 25, op := Op.extract (Operand.tmp 18) 0, type := 31, pos := "ref.go:51", after := #[{ on := 6, ground := Ground.data }], guard := none }) (v := .agg #[.int .u8 ((y.kd.toNat : Nat) : Int), .int .i64 y.ix, .int .i64 y.ce, .int .i64 y.st, .slice ao y.vn ca, .slice bo y.dn cb]) rfl (by kernel_rfl) (by kernel_rfl) (by kernel_rfl) (fun _ _ _ h => (hQp _ _ _ h).elim) (Or.inl ⟨by kernel_rfl, ?_⟩) (HS.out _ hb') ?_
    · intro w' hSw
      obtain ⟨s0, s1, s2, s3, s4⟩ := HS1.out _ hSw
      go_simp <;> first | with_reducible rfl | assumption
    show wpAnyH Try.prog .any hops Q S 3 #[true, true, true, true, true, true, true, true, false, true, false, false] { tmps := #[x0, x1, x2, .int .i64 ix, x4, .pointer (some ⟨g0, 0, none⟩), .pointer (some ⟨g1, 0, none⟩), x7, x8, x9, x10, .int .i64 0, .pointer (some ⟨g, 0, none⟩), x13, x14, x15, x16, x17, .tuple #[.agg #[.int .u8 ((y.kd.toNat : Nat) : Int), .int .i64 y.ix, .int .i64 y.ce, .int .i64 y.st, .slice ao y.vn ca, .slice bo y.dn cb], .bool b], .agg #[.int .i64 k, .int .i64 r, .int .i64 c, .int .i64 q], .int .i64 0, .pointer (some ⟨g1, 0, none⟩), .slice a0 n0 c0, .int .i64 ix, .tuple #[.agg #[.int .u8 ((y.kd.toNat : Nat) : Int), .int .i64 y.ix, .int .i64 y.ce, .int .i64 y.st, .slice ao y.vn ca, .slice bo y.dn cb], .bool b], .agg #[.int .u8 ((y.kd.toNat : Nat) : Int), .int .i64 y.ix, .int .i64 y.ce, .int .i64 y.st, .slice ao y.vn ca, .slice bo y.dn cb], x26, x27, x28, x29, x30, x31, x32, x33, x34, x35, x36, x37, x38, x39, x40], defers := [] } w'
    refine wpAnyH_take (i := 8) (oi := { dst := some 26, op := Op.extract (Operand.tmp 18) 1, type := 4, pos := "ref.go:51", after := #[{ on := 6, ground := Ground.data }, { on := 10, ground := Ground.gcOnly Departure.lateStores }], guard := none }) (v := .bool b) rfl (by kernel_rfl) (by kernel_rfl) (by kernel_rfl) (fun _ _ _ h => (hQp _ _ _ h).elim) (Or.inl ⟨by kernel_rfl, ?_⟩) (HS.out _ hb') ?_
    · intro w' hSw
      obtain ⟨s0, s1, s2, s3, s4⟩ := HS1.out _ hSw
      go_simp <;> first | with_reducible rfl | assumption
    show wpAnyH Try.prog .any hops Q S 2 #[true, true, true, true, true, true, true, true, true, true, false, false] { tmps := #[x0, x1, x2, .int .i64 ix, x4, .pointer (some ⟨g0, 0, none⟩), .pointer (some ⟨g1, 0, none⟩), x7, x8, x9, x10, .int .i64 0, .pointer (some ⟨g, 0, none⟩), x13, x14, x15, x16, x17, .tuple #[.agg #[.int .u8 ((y.kd.toNat : Nat) : Int), .int .i64 y.ix, .int .i64 y.ce, .int .i64 y.st, .slice ao y.vn ca, .slice bo y.dn cb], .bool b], .agg #[.int .i64 k, .int .i64 r, .int .i64 c, .int .i64 q], .int .i64 0, .pointer (some ⟨g1, 0, none⟩), .slice a0 n0 c0, .int .i64 ix, .tuple #[.agg #[.int .u8 ((y.kd.toNat : Nat) : Int), .int .i64 y.ix, .int .i64 y.ce, .int .i64 y.st, .slice ao y.vn ca, .slice bo y.dn cb], .bool b], .agg #[.int .u8 ((y.kd.toNat : Nat) : Int), .int .i64 y.ix, .int .i64 y.ce, .int .i64 y.st, .slice ao y.vn ca, .slice bo y.dn cb], .bool b, x27, x28, x29, x30, x31, x32, x33, x34, x35, x36, x37, x38, x39, x40], defers := [] } w'
    exact H11.out _ ao ca bo cb g hb' hg' (f3.below hw')
  have H00 : Hid (∀ (v : World), Below w1.heap.size w1 v → wpAnyH Try.prog .any hops Q S 7 #[true, true, true, true, true, false, false, false, false, false, false, false] { tmps := #[x0, x1, x2, .int .i64 ix, x4, .pointer (some ⟨g0, 0, none⟩), .pointer (some ⟨g1, 0, none⟩), x7, x8, x9, x10, .int .i64 0, x12, x13, x14, x15, x16, x17, x18, .agg #[.int .i64 k, .int .i64 r, .int .i64 c, .int .i64 q], .int .i64 0, .pointer (some ⟨g1, 0, none⟩), .slice a0 n0 c0, .int .i64 ix, x24, x25, x26, x27, x28, x29, x30, x31, x32, x33, x34, x35, x36, x37, x38, x39, x40], defers := [] } v) := fun v hb => by
    refine wpAnyH_ready (rs := [5, 9]) (by kernel_rfl) (by simp) ?_
    refine AllReadyH.cons (o := { dst := some 24, op := Op.call { callee := Callee.value (Operand.func 24), args := #[Operand.tmp 19, Operand.tmp 22, Operand.tmp 23], argTypes := #[23, 24, 3] }, type := 57, pos := "ref.go:51", after := #[{ on := 0, ground := Ground.data }, { on := 3, ground := Ground.data }, { on := 4, ground := Ground.data }], guard := none }) rfl (fun K hK => ?_) ?_
    rotate_left
    refine AllReadyH.cons (o := { dst := some 12, op := Op.alloc 31, type := 0, pos := "ref.go:51", after := #[], guard := none }) rfl (fun K hK => ?_) AllReadyH.nil
    rotate_left
    · skip
      go_simp
      refine (HP1.out _ hb).mono ?_
      rintro e w' ⟨ao, ca, bo, cb, rfl, hg, hw'⟩
      have hb' := below_then hb hw'
      have hg' := hg.mono hb.size
      refine hK.out _ _ (HS.out _ hb') (fun hHeld => ?_)
      refine wpAnyH_take (i := 6) (oi := { dst := some 18, op := Op.move (Operand.tmp 24), type := 57, pos := "ref.go:51", after := #[{ on := 5, ground := Ground.data }], guard := none }) (v := .tuple #[.agg #[.int .u8 ((y.kd.toNat : Nat) : Int), .int .i64 y.ix, .int .i64 y.ce, .int .i64 y.st, .slice ao y.vn ca, .slice bo y.dn cb], .bool b]) rfl (by kernel_rfl) (by kernel_rfl) (by kernel_rfl) (fun _ _ _ h => (hQp _ _ _ h).elim) (Or.inl ⟨by kernel_rfl, ?_⟩) (HS.out _ hb') ?_
      · intro w' hSw
        obtain ⟨s0, s1, s2, s3, s4⟩ := HS1.out _ hSw
        go_simp <;> first | with_reducible rfl | assumption
      show wpAnyH Try.prog .any hops Q S 5 #[true, true, true, true, true, true, true, false, false, false, false, false] { tmps := #[x0, x1, x2, .int .i64 ix, x4, .pointer (some ⟨g0, 0, none⟩), .pointer (some ⟨g1, 0, none⟩), x7, x8, x9, x10, .int .i64 0, x12, x13, x14, x15, x16, x17, .tuple #[.agg #[.int .u8 ((y.kd.toNat : Nat) : Int), .int .i64 y.ix, .int .i64 y.ce, .int .i64 y.st, .slice ao y.vn ca, .slice bo y.dn cb], .bool b], .agg #[.int .i64 k, .int .i64 r, .int .i64 c, .int .i64 q], .int .i64 0, .pointer (some ⟨g1, 0, none⟩), .slice a0 n0 c0, .int .i64 ix, .tuple #[.agg #[.int .u8 ((y.kd.toNat : Nat) : Int), .int .i64 y.ix, .int .i64 y.ce, .int .i64 y.st, .slice ao y.vn ca, .slice bo y.dn cb], .bool b], x25, x26, x27, x28, x29, x30, x31, x32, x33, x34, x35, x36, x37, x38, x39, x40], defers := [] } w'
      refine wpAnyH_take (i := 7) (oi := { dst := some 25, op := Op.extract (Operand.tmp 18) 0, type := 31, pos := "ref.go:51", after := #[{ on := 6, ground := Ground.data }], guard := none }) (v := .agg #[.int .u8 ((y.kd.toNat : Nat) : Int), .int .i64 y.ix, .int .i64 y.ce, .int .i64 y.st, .slice ao y.vn ca, .slice bo y.dn cb]) rfl (by kernel_rfl) (by kernel_rfl) (by kernel_rfl) (fun _ _ _ h => (hQp _ _ _ h).elim) (Or.inl ⟨by kernel_rfl, ?_⟩) (HS.out _ hb') ?_
      · intro w' hSw
        obtain ⟨s0, s1, s2, s3, s4⟩ := HS1.out _ hSw
        go_simp <;> first | with_reducible rfl | assumption
      show wpAnyH Try.prog .any hops Q S 4 #[true, true, true, true, true, true, true, true, false, false, false, false] { tmps := #[x0, x1, x2, .int .i64 ix, x4, .pointer (some ⟨g0, 0, none⟩), .pointer (some ⟨g1, 0, none⟩), x7, x8, x9, x10, .int .i64 0, x12, x13, x14, x15, x16, x17, .tuple #[.agg #[.int .u8 ((y.kd.toNat : Nat) : Int), .int .i64 y.ix, .int .i64 y.ce, .int .i64 y.st, .slice ao y.vn ca, .slice bo y.dn cb], .bool b], .agg #[.int .i64 k, .int .i64 r, .int .i64 c, .int .i64 q], .int .i64 0, .pointer (some ⟨g1, 0, none⟩), .slice a0 n0 c0, .int .i64 ix, .tuple #[.agg #[.int .u8 ((y.kd.toNat : Nat) : Int), .int .i64 y.ix, .int .i64 y.ce, .int .i64 y.st, .slice ao y.vn ca, .slice bo y.dn cb], .bool b], .agg #[.int .u8 ((y.kd.toNat : Nat) : Int), .int .i64 y.ix, .int .i64 y.ce, .int .i64 y.st, .slice ao y.vn ca, .slice bo y.dn cb], x26, x27, x28, x29, x30, x31, x32, x33, x34, x35, x36, x37, x38, x39, x40], defers := [] } w'
      refine wpAnyH_take (i := 8) (oi := { dst := some 26, op := Op.extract (Operand.tmp 18) 1, type := 4, pos := "ref.go:51", after := #[{ on := 6, ground := Ground.data }, { on := 10, ground := Ground.gcOnly Departure.lateStores }], guard := none }) (v := .bool b) rfl (by kernel_rfl) (by kernel_rfl) (by kernel_rfl) (fun _ _ _ h => (hQp _ _ _ h).elim) (Or.inl ⟨by kernel_rfl, ?_⟩) (HS.out _ hb') ?_
      · intro w' hSw
        obtain ⟨s0, s1, s2, s3, s4⟩ := HS1.out _ hSw
        go_simp <;> first | with_reducible rfl | assumption
      show wpAnyH Try.prog .any hops Q S 3 #[true, true, true, true, true, true, true, true, true, false, false, false] { tmps := #[x0, x1, x2, .int .i64 ix, x4, .pointer (some ⟨g0, 0, none⟩), .pointer (some ⟨g1, 0, none⟩), x7, x8, x9, x10, .int .i64 0, x12, x13, x14, x15, x16, x17, .tuple #[.agg #[.int .u8 ((y.kd.toNat : Nat) : Int), .int .i64 y.ix, .int .i64 y.ce, .int .i64 y.st, .slice ao y.vn ca, .slice bo y.dn cb], .bool b], .agg #[.int .i64 k, .int .i64 r, .int .i64 c, .int .i64 q], .int .i64 0, .pointer (some ⟨g1, 0, none⟩), .slice a0 n0 c0, .int .i64 ix, .tuple #[.agg #[.int .u8 ((y.kd.toNat : Nat) : Int), .int .i64 y.ix, .int .i64 y.ce, .int .i64 y.st, .slice ao y.vn ca, .slice bo y.dn cb], .bool b], .agg #[.int .u8 ((y.kd.toNat : Nat) : Int), .int .i64 y.ix, .int .i64 y.ce, .int .i64 y.st, .slice ao y.vn ca, .slice bo y.dn cb], .bool b, x27, x28, x29, x30, x31, x32, x33, x34, x35, x36, x37, x38, x39, x40], defers := [] } w'
      exact H10.out _ ao ca bo cb hb' hg'
    · go_simp
      refine hK.out _ _ (HS.out _ (b_alloc hb _)) (fun hHeld => ?_)
      exact H01.out _ _ (b_alloc hb _) (at_new hb _ _)
  refine wp_region_held_drew (S := S) (by kernel_rfl) (HS.out _ (below_drew _ _)) (fun hHeld => ?_)
  have hb : Below w1.heap.size w1 w1.drew := below_drew _ _
  rw [show hops.size = 12 from by kernel_rfl, show Array.replicate 12 false = #[false, false, false, false, false, false, false, false, false, false, false, false] from by kernel_rfl]
  refine wpAnyH_take (i := 0) (oi := { dst := some 19, op := Op.load 23 (Operand.tmp 5), type := 23, pos := "ref.go:51", after := #[], guard := none }) (v := .agg #[.int .i64 k, .int .i64 r, .int .i64 c, .int .i64 q]) rfl (by kernel_rfl) (by kernel_rfl) (by kernel_rfl) (fun _ _ _ h => (hQp _ _ _ h).elim) (Or.inl ⟨by kernel_rfl, ?_⟩) (HS.out _ hb) ?_
  · intro w' hSw
    obtain ⟨s0, s1, s2, s3, s4⟩ := HS1.out _ hSw
    go_simp <;> first | with_reducible rfl | assumption
  show wpAnyH Try.prog .any hops Q S 11 #[true, false, false, false, false, false, false, false, false, false, false, false] { tmps := #[x0, x1, x2, .int .i64 ix, x4, .pointer (some ⟨g0, 0, none⟩), .pointer (some ⟨g1, 0, none⟩), x7, x8, x9, x10, .int .i64 0, x12, x13, x14, x15, x16, x17, x18, .agg #[.int .i64 k, .int .i64 r, .int .i64 c, .int .i64 q], x20, x21, x22, x23, x24, x25, x26, x27, x28, x29, x30, x31, x32, x33, x34, x35, x36, x37, x38, x39, x40], defers := [] } w1.drew
  refine wpAnyH_take (i := 1) (oi := { dst := some 20, op := Op.move (Operand.tmp 11), type := 3, pos := "ref.go:51", after := #[], guard := none }) (v := .int .i64 0) rfl (by kernel_rfl) (by kernel_rfl) (by kernel_rfl) (fun _ _ _ h => (hQp _ _ _ h).elim) (Or.inl ⟨by kernel_rfl, ?_⟩) (HS.out _ hb) ?_
  · intro w' hSw
    obtain ⟨s0, s1, s2, s3, s4⟩ := HS1.out _ hSw
    go_simp <;> first | with_reducible rfl | assumption
  show wpAnyH Try.prog .any hops Q S 10 #[true, true, false, false, false, false, false, false, false, false, false, false] { tmps := #[x0, x1, x2, .int .i64 ix, x4, .pointer (some ⟨g0, 0, none⟩), .pointer (some ⟨g1, 0, none⟩), x7, x8, x9, x10, .int .i64 0, x12, x13, x14, x15, x16, x17, x18, .agg #[.int .i64 k, .int .i64 r, .int .i64 c, .int .i64 q], .int .i64 0, x21, x22, x23, x24, x25, x26, x27, x28, x29, x30, x31, x32, x33, x34, x35, x36, x37, x38, x39, x40], defers := [] } w1.drew
  refine wpAnyH_take (i := 2) (oi := { dst := some 21, op := Op.indexAddr 26 (Operand.tmp 6) (Operand.tmp 20), type := 0, pos := "ref.go:51", after := #[{ on := 1, ground := Ground.data }], guard := none }) (v := .pointer (some ⟨g1, 0, none⟩)) rfl (by kernel_rfl) (by kernel_rfl) (by kernel_rfl) (fun _ _ _ h => (hQp _ _ _ h).elim) (Or.inl ⟨by kernel_rfl, ?_⟩) (HS.out _ hb) ?_
  · intro w' hSw
    obtain ⟨s0, s1, s2, s3, s4⟩ := HS1.out _ hSw
    go_simp <;> first | with_reducible rfl | assumption
  show wpAnyH Try.prog .any hops Q S 9 #[true, true, true, false, false, false, false, false, false, false, false, false] { tmps := #[x0, x1, x2, .int .i64 ix, x4, .pointer (some ⟨g0, 0, none⟩), .pointer (some ⟨g1, 0, none⟩), x7, x8, x9, x10, .int .i64 0, x12, x13, x14, x15, x16, x17, x18, .agg #[.int .i64 k, .int .i64 r, .int .i64 c, .int .i64 q], .int .i64 0, .pointer (some ⟨g1, 0, none⟩), x22, x23, x24, x25, x26, x27, x28, x29, x30, x31, x32, x33, x34, x35, x36, x37, x38, x39, x40], defers := [] } w1.drew
  refine wpAnyH_take (i := 3) (oi := { dst := some 22, op := Op.load 24 (Operand.tmp 21), type := 24, pos := "ref.go:51", after := #[{ on := 2, ground := Ground.data }], guard := none }) (v := .slice a0 n0 c0) rfl (by kernel_rfl) (by kernel_rfl) (by kernel_rfl) (fun _ _ _ h => (hQp _ _ _ h).elim) (Or.inl ⟨by kernel_rfl, ?_⟩) (HS.out _ hb) ?_
  · intro w' hSw
    obtain ⟨s0, s1, s2, s3, s4⟩ := HS1.out _ hSw
    go_simp <;> first | with_reducible rfl | assumption
  show wpAnyH Try.prog .any hops Q S 8 #[true, true, true, true, false, false, false, false, false, false, false, false] { tmps := #[x0, x1, x2, .int .i64 ix, x4, .pointer (some ⟨g0, 0, none⟩), .pointer (some ⟨g1, 0, none⟩), x7, x8, x9, x10, .int .i64 0, x12, x13, x14, x15, x16, x17, x18, .agg #[.int .i64 k, .int .i64 r, .int .i64 c, .int .i64 q], .int .i64 0, .pointer (some ⟨g1, 0, none⟩), .slice a0 n0 c0, x23, x24, x25, x26, x27, x28, x29, x30, x31, x32, x33, x34, x35, x36, x37, x38, x39, x40], defers := [] } w1.drew
  refine wpAnyH_take (i := 4) (oi := { dst := some 23, op := Op.move (Operand.tmp 3), type := 3, pos := "ref.go:51", after := #[], guard := none }) (v := .int .i64 ix) rfl (by kernel_rfl) (by kernel_rfl) (by kernel_rfl) (fun _ _ _ h => (hQp _ _ _ h).elim) (Or.inl ⟨by kernel_rfl, ?_⟩) (HS.out _ hb) ?_
  · intro w' hSw
    obtain ⟨s0, s1, s2, s3, s4⟩ := HS1.out _ hSw
    go_simp <;> first | with_reducible rfl | assumption
  show wpAnyH Try.prog .any hops Q S 7 #[true, true, true, true, true, false, false, false, false, false, false, false] { tmps := #[x0, x1, x2, .int .i64 ix, x4, .pointer (some ⟨g0, 0, none⟩), .pointer (some ⟨g1, 0, none⟩), x7, x8, x9, x10, .int .i64 0, x12, x13, x14, x15, x16, x17, x18, .agg #[.int .i64 k, .int .i64 r, .int .i64 c, .int .i64 q], .int .i64 0, .pointer (some ⟨g1, 0, none⟩), .slice a0 n0 c0, .int .i64 ix, x24, x25, x26, x27, x28, x29, x30, x31, x32, x33, x34, x35, x36, x37, x38, x39, x40], defers := [] } w1.drew
  exact H00.out _ hb
set_option maxHeartbeats 8000000 in
set_option maxRecDepth 100000 in
theorem holds_reg1 (w1 : World) (k r c q ix : Int) (g0 g1 : Nat) (a0 : Option Addr) (n0 c0 : Nat) (y : Sl) (b : Bool) (x0 x1 x2 x4 x7 x8 x9 x10 x12 x13 x14 x15 x16 x17 x18 x19 x20 x21 x22 x23 x24 x25 x26 x27 x28 x29 x30 x31 x32 x33 x34 x35 x36 x37 x38 x39 x40 : Value)
    (hS : ∀ v, Below w1.heap.size w1 v → (v.cell? ⟨g0, 0, none⟩ = some (.int .i64 k) ∧ v.cell? ⟨g0, 1, none⟩ = some (.int .i64 r) ∧ v.cell? ⟨g0, 2, none⟩ = some (.int .i64 c) ∧ v.cell? ⟨g0, 3, none⟩ = some (.int .i64 q) ∧ v.cell? ⟨g1, 1, none⟩ = some (.slice a0 n0 c0)))
    (P1 : ∀ v, Below w1.heap.size w1 v → Calls Try.prog 24 #[.agg #[.int .i64 k, .int .i64 r, .int .i64 c, .int .i64 q], .slice a0 n0 c0, .int .i64 ix] v fun e w' => ∃ ao ca bo cb, e = .returned (.tuple #[.agg #[.int .u8 ((y.kd.toNat : Nat) : Int), .int .i64 y.ix, .int .i64 y.ce, .int .i64 y.st, .slice ao y.vn ca, .slice bo y.dn cb], .bool b]) ∧ Got v.heap.size w' y ao ca bo cb ∧ Below v.heap.size v w')
    (Q : Exit → Act → World → Prop) (hQp : ∀ ch a v, Q (.panic ch) a v → False) (hQ : ∀ v g ao ca bo cb, Below w1.heap.size w1 v → At w1 v g #[.int .u8 ((y.kd.toNat : Nat) : Int), .int .i64 y.ix, .int .i64 y.ce, .int .i64 y.st, .slice ao y.vn ca, .slice bo y.dn cb] 31 → Got w1.heap.size v y ao ca bo cb → Q .normal { tmps := #[x0, x1, x2, .int .i64 ix, x4, .pointer (some ⟨g0, 0, none⟩), .pointer (some ⟨g1, 0, none⟩), x7, x8, x9, x10, .int .i64 1, .pointer (some ⟨g, 0, none⟩), .bool b, x14, x15, x16, x17, .tuple #[.agg #[.int .u8 ((y.kd.toNat : Nat) : Int), .int .i64 y.ix, .int .i64 y.ce, .int .i64 y.st, .slice ao y.vn ca, .slice bo y.dn cb], .bool b], .agg #[.int .i64 k, .int .i64 r, .int .i64 c, .int .i64 q], .int .i64 1, .pointer (some ⟨g1, 1, none⟩), .slice a0 n0 c0, .int .i64 ix, .tuple #[.agg #[.int .u8 ((y.kd.toNat : Nat) : Int), .int .i64 y.ix, .int .i64 y.ce, .int .i64 y.st, .slice ao y.vn ca, .slice bo y.dn cb], .bool b], .agg #[.int .u8 ((y.kd.toNat : Nat) : Int), .int .i64 y.ix, .int .i64 y.ce, .int .i64 y.st, .slice ao y.vn ca, .slice bo y.dn cb], .bool b, x27, x28, x29, x30, x31, x32, x33, x34, x35, x36, x37, x38, x39, x40], defers := [] } v) :
    Code.wp Try.prog (Code.region 4 hops true) Q { tmps := #[x0, x1, x2, .int .i64 ix, x4, .pointer (some ⟨g0, 0, none⟩), .pointer (some ⟨g1, 0, none⟩), x7, x8, x9, x10, .int .i64 1, x12, x13, x14, x15, x16, x17, x18, x19, x20, x21, x22, x23, x24, x25, x26, x27, x28, x29, x30, x31, x32, x33, x34, x35, x36, x37, x38, x39, x40], defers := [] } w1 := by
  have HQ : Hid (∀ v g ao ca bo cb, Below w1.heap.size w1 v → At w1 v g #[.int .u8 ((y.kd.toNat : Nat) : Int), .int .i64 y.ix, .int .i64 y.ce, .int .i64 y.st, .slice ao y.vn ca, .slice bo y.dn cb] 31 → Got w1.heap.size v y ao ca bo cb → Q .normal { tmps := #[x0, x1, x2, .int .i64 ix, x4, .pointer (some ⟨g0, 0, none⟩), .pointer (some ⟨g1, 0, none⟩), x7, x8, x9, x10, .int .i64 1, .pointer (some ⟨g, 0, none⟩), .bool b, x14, x15, x16, x17, .tuple #[.agg #[.int .u8 ((y.kd.toNat : Nat) : Int), .int .i64 y.ix, .int .i64 y.ce, .int .i64 y.st, .slice ao y.vn ca, .slice bo y.dn cb], .bool b], .agg #[.int .i64 k, .int .i64 r, .int .i64 c, .int .i64 q], .int .i64 1, .pointer (some ⟨g1, 1, none⟩), .slice a0 n0 c0, .int .i64 ix, .tuple #[.agg #[.int .u8 ((y.kd.toNat : Nat) : Int), .int .i64 y.ix, .int .i64 y.ce, .int .i64 y.st, .slice ao y.vn ca, .slice bo y.dn cb], .bool b], .agg #[.int .u8 ((y.kd.toNat : Nat) : Int), .int .i64 y.ix, .int .i64 y.ce, .int .i64 y.st, .slice ao y.vn ca, .slice bo y.dn cb], .bool b, x27, x28, x29, x30, x31, x32, x33, x34, x35, x36, x37, x38, x39, x40], defers := [] } v) := hQ
  obtain ⟨S, HS1, HS⟩ : ∃ S : World → Prop, Hid (∀ v, S v → (v.cell? ⟨g0, 0, none⟩ = some (.int .i64 k) ∧ v.cell? ⟨g0, 1, none⟩ = some (.int .i64 r) ∧ v.cell? ⟨g0, 2, none⟩ = some (.int .i64 c) ∧ v.cell? ⟨g0, 3, none⟩ = some (.int .i64 q) ∧ v.cell? ⟨g1, 1, none⟩ = some (.slice a0 n0 c0))) ∧ Hid (∀ v, Below w1.heap.size w1 v → S v) := ⟨fun v => v.cell? ⟨g0, 0, none⟩ = some (.int .i64 k) ∧ v.cell? ⟨g0, 1, none⟩ = some (.int .i64 r) ∧ v.cell? ⟨g0, 2, none⟩ = some (.int .i64 c) ∧ v.cell? ⟨g0, 3, none⟩ = some (.int .i64 q) ∧ v.cell? ⟨g1, 1, none⟩ = some (.slice a0 n0 c0), fun v h => h, hS⟩
  have HP1 : Hid (∀ v, Below w1.heap.size w1 v → Calls Try.prog 24 #[.agg #[.int .i64 k, .int .i64 r, .int .i64 c, .int .i64 q], .slice a0 n0 c0, .int .i64 ix] v fun e w' => ∃ ao ca bo cb, e = .returned (.tuple #[.agg #[.int .u8 ((y.kd.toNat : Nat) : Int), .int .i64 y.ix, .int .i64 y.ce, .int .i64 y.st, .slice ao y.vn ca, .slice bo y.dn cb], .bool b]) ∧ Got v.heap.size w' y ao ca bo cb ∧ Below v.heap.size v w') := P1
  clear hS hQ P1
  have H11 : Hid (∀ (v : World) (ao : Option Addr) (ca : Nat) (bo : Option Addr) (cb : Nat) (g : Nat), Below w1.heap.size w1 v → Got w1.heap.size v y ao ca bo cb → At w1 v g #[.int .u8 0, .int .i64 0, .int .i64 0, .int .i64 0, .slice none 0 0, .slice none 0 0] 31 → wpAnyH Try.prog .any hops Q S 2 #[true, true, true, true, true, true, true, true, true, true, false, false] { tmps := #[x0, x1, x2, .int .i64 ix, x4, .pointer (some ⟨g0, 0, none⟩), .pointer (some ⟨g1, 0, none⟩), x7, x8, x9, x10, .int .i64 1, .pointer (some ⟨g, 0, none⟩), x13, x14, x15, x16, x17, .tuple #[.agg #[.int .u8 ((y.kd.toNat : Nat) : Int), .int .i64 y.ix, .int .i64 y.ce, .int .i64 y.st, .slice ao y.vn ca, .slice bo y.dn cb], .bool b], .agg #[.int .i64 k, .int .i64 r, .int .i64 c, .int .i64 q], .int .i64 1, .pointer (some ⟨g1, 1, none⟩), .slice a0 n0 c0, .int .i64 ix, .tuple #[.agg #[.int .u8 ((y.kd.toNat : Nat) : Int), .int .i64 y.ix, .int .i64 y.ce, .int .i64 y.st, .slice ao y.vn ca, .slice bo y.dn cb], .bool b], .agg #[.int .u8 ((y.kd.toNat : Nat) : Int), .int .i64 y.ix, .int .i64 y.ce, .int .i64 y.st, .slice ao y.vn ca, .slice bo y.dn cb], .bool b, x27, x28, x29, x30, x31, x32, x33, x34, x35, x36, x37, x38, x39, x40], defers := [] } v) := fun v ao ca bo cb g hb hg f3 => by
    have c0 := f3.cell (i := 0) rfl
    have c1 := f3.cell (i := 1) rfl
    have c2 := f3.cell (i := 2) rfl
    have c3 := f3.cell (i := 3) rfl
    have c4 := f3.cell (i := 4) rfl
    have c5 := f3.cell (i := 5) rfl
    have cf := f3.free
    have hbb := b_lo hb f3.1 (.int .u8 ((y.kd.toNat : Nat) : Int)) (.int .i64 y.ix) (.int .i64 y.ce) (.int .i64 y.st) (.slice ao y.vn ca) (.slice bo y.dn cb)
    have ho := only_lo v g (.int .u8 ((y.kd.toNat : Nat) : Int)) (.int .i64 y.ix) (.int .i64 y.ce) (.int .i64 y.st) (.slice ao y.vn ca) (.slice bo y.dn cb)
    have hgg := hg.apart ho f3
    have hat := at_six f3 (.int .u8 ((y.kd.toNat : Nat) : Int)) (.int .i64 y.ix) (.int .i64 y.ce) (.int .i64 y.st) (.slice ao y.vn ca) (.slice bo y.dn cb)
    refine wpAnyH_ready (rs := [10]) (by kernel_rfl) (by simp) ?_
    refine AllReadyH.cons (o := { dst := none, op := Op.store 31 (Operand.tmp 12) (Operand.tmp 25), type := 0, pos := "ref.go:51", after := #[{ on := 9, ground := Ground.data }, { on := 7, ground := Ground.data }, { on := 5, ground := Ground.chain }, { on := 0, ground := Ground.phase }, { on := 1, ground := Ground.phase }, { on := 2, ground := Ground.phase }, { on := 3, ground := Ground.phase }, { on := 4, ground := Ground.phase }, { on := 5, ground := Ground.phase }, { on := 6, ground := Ground.phase }, { on := 7, ground := Ground.phase }, { on := 8, ground := Ground.textOnly Departure.lateStores }, { on := 9, ground := Ground.phase }], guard := none }) rfl (fun K hK => ?_) AllReadyH.nil
    go_simp
    refine hK.out _ _ (HS.out _ hbb) (fun hHeld => ?_)
    refine wpAnyH_take (i := 11) (oi := { dst := some 13, op := Op.assign (Operand.tmp 26), type := 4, pos := "ref.go:51", after := #[{ on := 8, ground := Ground.data }, { on := 10, ground := Ground.chain }, { on := 0, ground := Ground.phase }, { on := 1, ground := Ground.phase }, { on := 2, ground := Ground.phase }, { on := 3, ground := Ground.phase }, { on := 4, ground := Ground.phase }, { on := 5, ground := Ground.phase }, { on := 6, ground := Ground.phase }, { on := 7, ground := Ground.phase }, { on := 8, ground := Ground.phase }, { on := 9, ground := Ground.phase }, { on := 10, ground := Ground.phase }], guard := none }) (v := .bool b) rfl (by kernel_rfl) (by kernel_rfl) (by kernel_rfl) (fun _ _ _ h => (hQp _ _ _ h).elim) (Or.inl ⟨by kernel_rfl, ?_⟩) (HS.out _ hbb) ?_
    · intro w' hSw
      obtain ⟨s0, s1, s2, s3, s4⟩ := HS1.out _ hSw
      go_simp <;> first | with_reducible rfl | assumption
    refine wpAnyH_done (by kernel_rfl) ?_ _
    exact HQ.out _ g ao ca bo cb hbb hat hgg
  have H10 : Hid (∀ (v : World) (ao : Option Addr) (ca : Nat) (bo : Option Addr) (cb : Nat), Below w1.heap.size w1 v → Got w1.heap.size v y ao ca bo cb → wpAnyH Try.prog .any hops Q S 3 #[true, true, true, true, true, true, true, true, true, false, false, false] { tmps := #[x0, x1, x2, .int .i64 ix, x4, .pointer (some ⟨g0, 0, none⟩), .pointer (some ⟨g1, 0, none⟩), x7, x8, x9, x10, .int .i64 1, x12, x13, x14, x15, x16, x17, .tuple #[.agg #[.int .u8 ((y.kd.toNat : Nat) : Int), .int .i64 y.ix, .int .i64 y.ce, .int .i64 y.st, .slice ao y.vn ca, .slice bo y.dn cb], .bool b], .agg #[.int .i64 k, .int .i64 r, .int .i64 c, .int .i64 q], .int .i64 1, .pointer (some ⟨g1, 1, none⟩), .slice a0 n0 c0, .int .i64 ix, .tuple #[.agg #[.int .u8 ((y.kd.toNat : Nat) : Int), .int .i64 y.ix, .int .i64 y.ce, .int .i64 y.st, .slice ao y.vn ca, .slice bo y.dn cb], .bool b], .agg #[.int .u8 ((y.kd.toNat : Nat) : Int), .int .i64 y.ix, .int .i64 y.ce, .int .i64 y.st, .slice ao y.vn ca, .slice bo y.dn cb], .bool b, x27, x28, x29, x30, x31, x32, x33, x34, x35, x36, x37, x38, x39, x40], defers := [] } v) := fun v ao ca bo cb hb hg => by
    refine wpAnyH_ready (rs := [9]) (by kernel_rfl) (by simp) ?_
    refine AllReadyH.cons (o := { dst := some 12, op := Op.alloc 31, type := 0, pos := "ref.go:51", after := #[], guard := none }) rfl (fun K hK => ?_) AllReadyH.nil
    go_simp
    refine hK.out _ _ (HS.out _ (b_alloc hb _)) (fun hHeld => ?_)
    exact H11.out _ ao ca bo cb _ (b_alloc hb _) (hg.below (below_alloc _ _)) (at_new hb _ _)
  have H01 : Hid (∀ (v : World) (g : Nat), Below w1.heap.size w1 v → At w1 v g #[.int .u8 0, .int .i64 0, .int .i64 0, .int .i64 0, .slice none 0 0, .slice none 0 0] 31 → wpAnyH Try.prog .any hops Q S 6 #[true, true, true, true, true, false, false, false, false, true, false, false] { tmps := #[x0, x1, x2, .int .i64 ix, x4, .pointer (some ⟨g0, 0, none⟩), .pointer (some ⟨g1, 0, none⟩), x7, x8, x9, x10, .int .i64 1, .pointer (some ⟨g, 0, none⟩), x13, x14, x15, x16, x17, x18, .agg #[.int .i64 k, .int .i64 r, .int .i64 c, .int .i64 q], .int .i64 1, .pointer (some ⟨g1, 1, none⟩), .slice a0 n0 c0, .int .i64 ix, x24, x25, x26, x27, x28, x29, x30, x31, x32, x33, x34, x35, x36, x37, x38, x39, x40], defers := [] } v) := fun v g hb f3 => by
    refine wpAnyH_ready (rs := [5]) (by kernel_rfl) (by simp) ?_
    refine AllReadyH.cons (o := { dst := some 24, op := Op.call { callee := Callee.value (Operand.func 24), args := #[Operand.tmp 19, Operand.tmp 22, Operand.tmp 23], argTypes := #[23, 24, 3] }, type := 57, pos := "ref.go:51", after := #[{ on := 0, ground := Ground.data }, { on := 3, ground := Ground.data }, { on := 4, ground := Ground.data }], guard := none }) rfl (fun K hK => ?_) AllReadyH.nil
    go_simp
    refine (HP1.out _ hb).mono ?_
    rintro e w' ⟨ao, ca, bo, cb, rfl, hg, hw'⟩
    have hb' := below_then hb hw'
    have hg' := hg.mono hb.size
    refine hK.out _ _ (HS.out _ hb') (fun hHeld => ?_)
    refine wpAnyH_take (i := 6) (oi := { dst := some 18, op := Op.move (Operand.tmp 24), type := 57, pos := "ref.go:51", after := #[{ on := 5, ground := Ground.data }], guard := none }) (v := .tuple #[.agg #[.int .u8 ((y.kd.toNat : Nat) : Int), .int .i64 y.ix, .int .i64 y.ce, .int .i64 y.st, .slice ao y.vn ca, .slice bo y.dn cb], .bool b]) rfl (by kernel_rfl) (by kernel_rfl) (by kernel_rfl) (fun _ _ _ h => (hQp _ _ _ h).elim) (Or.inl ⟨by kernel_rfl, ?_⟩) (HS.out _ hb') ?_
    · intro w' hSw
      obtain ⟨s0, s1, s2, s3, s4⟩ := HS1.out _ hSw
      go_simp <;> first | with_reducible rfl | assumption
    show wpAnyH Try.prog .any hops Q S 4 #[true, true, true, true, true, true, true, false, false, true, false, false] { tmps := #[x0, x1, x2, .int .i64 ix, x4, .pointer (some ⟨g0, 0, none⟩), .pointer (some ⟨g1, 0, none⟩), x7, x8, x9, x10, .int .i64 1, .pointer (some ⟨g, 0, none⟩), x13, x14, x15, x16, x17, .tuple #[.agg #[.int .u8 ((y.kd.toNat : Nat) : Int), .int .i64 y.ix, .int .i64 y.ce, .int .i64 y.st, .slice ao y.vn ca, .slice bo y.dn cb], .bool b], .agg #[.int .i64 k, .int .i64 r, .int .i64 c, .int .i64 q], .int .i64 1, .pointer (some ⟨g1, 1, none⟩), .slice a0 n0 c0, .int .i64 ix, .tuple #[.agg #[.int .u8 ((y.kd.toNat : Nat) : Int), .int .i64 y.ix, .int .i64 y.ce, .int .i64 y.st, .slice ao y.vn ca, .slice bo y.dn cb], .bool b], x25, x26, x27, x28, x29, x30, x31, x32, x33, x34, x35, x36, x37, x38, x39, x40], defers := [] } w'
    refine wpAnyH_take (i := 7) (oi := { dst := some 25, op := Op.extract (Operand.tmp 18) 0, type := 31, pos := "ref.go:51", after := #[{ on := 6, ground := Ground.data }], guard := none }) (v := .agg #[.int .u8 ((y.kd.toNat : Nat) : Int), .int .i64 y.ix, .int .i64 y.ce, .int .i64 y.st, .slice ao y.vn ca, .slice bo y.dn cb]) rfl (by kernel_rfl) (by kernel_rfl) (by kernel_rfl) (fun _ _ _ h => (hQp _ _ _ h).elim) (Or.inl ⟨by kernel_rfl, ?_⟩) (HS.out _ hb') ?_
    · intro w' hSw
      obtain ⟨s0, s1, s2, s3, s4⟩ := HS1.out _ hSw
      go_simp <;> first | with_reducible rfl | assumption
    show wpAnyH Try.prog .any hops Q S 3 #[true, true, true, true, true, true, true, true, false, true, false, false] { tmps := #[x0, x1, x2, .int .i64 ix, x4, .pointer (some ⟨g0, 0, none⟩), .pointer (some ⟨g1, 0, none⟩), x7, x8, x9, x10, .int .i64 1, .pointer (some ⟨g, 0, none⟩), x13, x14, x15, x16, x17, .tuple #[.agg #[.int .u8 ((y.kd.toNat : Nat) : Int), .int .i64 y.ix, .int .i64 y.ce, .int .i64 y.st, .slice ao y.vn ca, .slice bo y.dn cb], .bool b], .agg #[.int .i64 k, .int .i64 r, .int .i64 c, .int .i64 q], .int .i64 1, .pointer (some ⟨g1, 1, none⟩), .slice a0 n0 c0, .int .i64 ix, .tuple #[.agg #[.int .u8 ((y.kd.toNat : Nat) : Int), .int .i64 y.ix, .int .i64 y.ce, .int .i64 y.st, .slice ao y.vn ca, .slice bo y.dn cb], .bool b], .agg #[.int .u8 ((y.kd.toNat : Nat) : Int), .int .i64 y.ix, .int .i64 y.ce, .int .i64 y.st, .slice ao y.vn ca, .slice bo y.dn cb], x26, x27, x28, x29, x30, x31, x32, x33, x34, x35, x36, x37, x38, x39, x40], defers := [] } w'
    refine wpAnyH_take (i := 8) (oi := { dst := some 26, op := Op.extract (Operand.tmp 18) 1, type := 4, pos := "ref.go:51", after := #[{ on := 6, ground := Ground.data }, { on := 10, ground := Ground.gcOnly Departure.lateStores }], guard := none }) (v := .bool b) rfl (by kernel_rfl) (by kernel_rfl) (by kernel_rfl) (fun _ _ _ h => (hQp _ _ _ h).elim) (Or.inl ⟨by kernel_rfl, ?_⟩) (HS.out _ hb') ?_
    · intro w' hSw
      obtain ⟨s0, s1, s2, s3, s4⟩ := HS1.out _ hSw
      go_simp <;> first | with_reducible rfl | assumption
    show wpAnyH Try.prog .any hops Q S 2 #[true, true, true, true, true, true, true, true, true, true, false, false] { tmps := #[x0, x1, x2, .int .i64 ix, x4, .pointer (some ⟨g0, 0, none⟩), .pointer (some ⟨g1, 0, none⟩), x7, x8, x9, x10, .int .i64 1, .pointer (some ⟨g, 0, none⟩), x13, x14, x15, x16, x17, .tuple #[.agg #[.int .u8 ((y.kd.toNat : Nat) : Int), .int .i64 y.ix, .int .i64 y.ce, .int .i64 y.st, .slice ao y.vn ca, .slice bo y.dn cb], .bool b], .agg #[.int .i64 k, .int .i64 r, .int .i64 c, .int .i64 q], .int .i64 1, .pointer (some ⟨g1, 1, none⟩), .slice a0 n0 c0, .int .i64 ix, .tuple #[.agg #[.int .u8 ((y.kd.toNat : Nat) : Int), .int .i64 y.ix, .int .i64 y.ce, .int .i64 y.st, .slice ao y.vn ca, .slice bo y.dn cb], .bool b], .agg #[.int .u8 ((y.kd.toNat : Nat) : Int), .int .i64 y.ix, .int .i64 y.ce, .int .i64 y.st, .slice ao y.vn ca, .slice bo y.dn cb], .bool b, x27, x28, x29, x30, x31, x32, x33, x34, x35, x36, x37, x38, x39, x40], defers := [] } w'
    exact H11.out _ ao ca bo cb g hb' hg' (f3.below hw')
  have H00 : Hid (∀ (v : World), Below w1.heap.size w1 v → wpAnyH Try.prog .any hops Q S 7 #[true, true, true, true, true, false, false, false, false, false, false, false] { tmps := #[x0, x1, x2, .int .i64 ix, x4, .pointer (some ⟨g0, 0, none⟩), .pointer (some ⟨g1, 0, none⟩), x7, x8, x9, x10, .int .i64 1, x12, x13, x14, x15, x16, x17, x18, .agg #[.int .i64 k, .int .i64 r, .int .i64 c, .int .i64 q], .int .i64 1, .pointer (some ⟨g1, 1, none⟩), .slice a0 n0 c0, .int .i64 ix, x24, x25, x26, x27, x28, x29, x30, x31, x32, x33, x34, x35, x36, x37, x38, x39, x40], defers := [] } v) := fun v hb => by
    refine wpAnyH_ready (rs := [5, 9]) (by kernel_rfl) (by simp) ?_
    refine AllReadyH.cons (o := { dst := some 24, op := Op.call { callee := Callee.value (Operand.func 24), args := #[Operand.tmp 19, Operand.tmp 22, Operand.tmp 23], argTypes := #[23, 24, 3] }, type := 57, pos := "ref.go:51", after := #[{ on := 0, ground := Ground.data }, { on := 3, ground := Ground.data }, { on := 4, ground := Ground.data }], guard := none }) rfl (fun K hK => ?_) ?_
    rotate_left
    refine AllReadyH.cons (o := { dst := some 12, op := Op.alloc 31, type := 0, pos := "ref.go:51", after := #[], guard := none }) rfl (fun K hK => ?_) AllReadyH.nil
    rotate_left
    · skip
      go_simp
      refine (HP1.out _ hb).mono ?_
      rintro e w' ⟨ao, ca, bo, cb, rfl, hg, hw'⟩
      have hb' := below_then hb hw'
      have hg' := hg.mono hb.size
      refine hK.out _ _ (HS.out _ hb') (fun hHeld => ?_)
      refine wpAnyH_take (i := 6) (oi := { dst := some 18, op := Op.move (Operand.tmp 24), type := 57, pos := "ref.go:51", after := #[{ on := 5, ground := Ground.data }], guard := none }) (v := .tuple #[.agg #[.int .u8 ((y.kd.toNat : Nat) : Int), .int .i64 y.ix, .int .i64 y.ce, .int .i64 y.st, .slice ao y.vn ca, .slice bo y.dn cb], .bool b]) rfl (by kernel_rfl) (by kernel_rfl) (by kernel_rfl) (fun _ _ _ h => (hQp _ _ _ h).elim) (Or.inl ⟨by kernel_rfl, ?_⟩) (HS.out _ hb') ?_
      · intro w' hSw
        obtain ⟨s0, s1, s2, s3, s4⟩ := HS1.out _ hSw
        go_simp <;> first | with_reducible rfl | assumption
      show wpAnyH Try.prog .any hops Q S 5 #[true, true, true, true, true, true, true, false, false, false, false, false] { tmps := #[x0, x1, x2, .int .i64 ix, x4, .pointer (some ⟨g0, 0, none⟩), .pointer (some ⟨g1, 0, none⟩), x7, x8, x9, x10, .int .i64 1, x12, x13, x14, x15, x16, x17, .tuple #[.agg #[.int .u8 ((y.kd.toNat : Nat) : Int), .int .i64 y.ix, .int .i64 y.ce, .int .i64 y.st, .slice ao y.vn ca, .slice bo y.dn cb], .bool b], .agg #[.int .i64 k, .int .i64 r, .int .i64 c, .int .i64 q], .int .i64 1, .pointer (some ⟨g1, 1, none⟩), .slice a0 n0 c0, .int .i64 ix, .tuple #[.agg #[.int .u8 ((y.kd.toNat : Nat) : Int), .int .i64 y.ix, .int .i64 y.ce, .int .i64 y.st, .slice ao y.vn ca, .slice bo y.dn cb], .bool b], x25, x26, x27, x28, x29, x30, x31, x32, x33, x34, x35, x36, x37, x38, x39, x40], defers := [] } w'
      refine wpAnyH_take (i := 7) (oi := { dst := some 25, op := Op.extract (Operand.tmp 18) 0, type := 31, pos := "ref.go:51", after := #[{ on := 6, ground := Ground.data }], guard := none }) (v := .agg #[.int .u8 ((y.kd.toNat : Nat) : Int), .int .i64 y.ix, .int .i64 y.ce, .int .i64 y.st, .slice ao y.vn ca, .slice bo y.dn cb]) rfl (by kernel_rfl) (by kernel_rfl) (by kernel_rfl) (fun _ _ _ h => (hQp _ _ _ h).elim) (Or.inl ⟨by kernel_rfl, ?_⟩) (HS.out _ hb') ?_
      · intro w' hSw
        obtain ⟨s0, s1, s2, s3, s4⟩ := HS1.out _ hSw
        go_simp <;> first | with_reducible rfl | assumption
      show wpAnyH Try.prog .any hops Q S 4 #[true, true, true, true, true, true, true, true, false, false, false, false] { tmps := #[x0, x1, x2, .int .i64 ix, x4, .pointer (some ⟨g0, 0, none⟩), .pointer (some ⟨g1, 0, none⟩), x7, x8, x9, x10, .int .i64 1, x12, x13, x14, x15, x16, x17, .tuple #[.agg #[.int .u8 ((y.kd.toNat : Nat) : Int), .int .i64 y.ix, .int .i64 y.ce, .int .i64 y.st, .slice ao y.vn ca, .slice bo y.dn cb], .bool b], .agg #[.int .i64 k, .int .i64 r, .int .i64 c, .int .i64 q], .int .i64 1, .pointer (some ⟨g1, 1, none⟩), .slice a0 n0 c0, .int .i64 ix, .tuple #[.agg #[.int .u8 ((y.kd.toNat : Nat) : Int), .int .i64 y.ix, .int .i64 y.ce, .int .i64 y.st, .slice ao y.vn ca, .slice bo y.dn cb], .bool b], .agg #[.int .u8 ((y.kd.toNat : Nat) : Int), .int .i64 y.ix, .int .i64 y.ce, .int .i64 y.st, .slice ao y.vn ca, .slice bo y.dn cb], x26, x27, x28, x29, x30, x31, x32, x33, x34, x35, x36, x37, x38, x39, x40], defers := [] } w'
      refine wpAnyH_take (i := 8) (oi := { dst := some 26, op := Op.extract (Operand.tmp 18) 1, type := 4, pos := "ref.go:51", after := #[{ on := 6, ground := Ground.data }, { on := 10, ground := Ground.gcOnly Departure.lateStores }], guard := none }) (v := .bool b) rfl (by kernel_rfl) (by kernel_rfl) (by kernel_rfl) (fun _ _ _ h => (hQp _ _ _ h).elim) (Or.inl ⟨by kernel_rfl, ?_⟩) (HS.out _ hb') ?_
      · intro w' hSw
        obtain ⟨s0, s1, s2, s3, s4⟩ := HS1.out _ hSw
        go_simp <;> first | with_reducible rfl | assumption
      show wpAnyH Try.prog .any hops Q S 3 #[true, true, true, true, true, true, true, true, true, false, false, false] { tmps := #[x0, x1, x2, .int .i64 ix, x4, .pointer (some ⟨g0, 0, none⟩), .pointer (some ⟨g1, 0, none⟩), x7, x8, x9, x10, .int .i64 1, x12, x13, x14, x15, x16, x17, .tuple #[.agg #[.int .u8 ((y.kd.toNat : Nat) : Int), .int .i64 y.ix, .int .i64 y.ce, .int .i64 y.st, .slice ao y.vn ca, .slice bo y.dn cb], .bool b], .agg #[.int .i64 k, .int .i64 r, .int .i64 c, .int .i64 q], .int .i64 1, .pointer (some ⟨g1, 1, none⟩), .slice a0 n0 c0, .int .i64 ix, .tuple #[.agg #[.int .u8 ((y.kd.toNat : Nat) : Int), .int .i64 y.ix, .int .i64 y.ce, .int .i64 y.st, .slice ao y.vn ca, .slice bo y.dn cb], .bool b], .agg #[.int .u8 ((y.kd.toNat : Nat) : Int), .int .i64 y.ix, .int .i64 y.ce, .int .i64 y.st, .slice ao y.vn ca, .slice bo y.dn cb], .bool b, x27, x28, x29, x30, x31, x32, x33, x34, x35, x36, x37, x38, x39, x40], defers := [] } w'
      exact H10.out _ ao ca bo cb hb' hg'
    · go_simp
      refine hK.out _ _ (HS.out _ (b_alloc hb _)) (fun hHeld => ?_)
      exact H01.out _ _ (b_alloc hb _) (at_new hb _ _)
  refine wp_region_held_drew (S := S) (by kernel_rfl) (HS.out _ (below_drew _ _)) (fun hHeld => ?_)
  have hb : Below w1.heap.size w1 w1.drew := below_drew _ _
  rw [show hops.size = 12 from by kernel_rfl, show Array.replicate 12 false = #[false, false, false, false, false, false, false, false, false, false, false, false] from by kernel_rfl]
  refine wpAnyH_take (i := 0) (oi := { dst := some 19, op := Op.load 23 (Operand.tmp 5), type := 23, pos := "ref.go:51", after := #[], guard := none }) (v := .agg #[.int .i64 k, .int .i64 r, .int .i64 c, .int .i64 q]) rfl (by kernel_rfl) (by kernel_rfl) (by kernel_rfl) (fun _ _ _ h => (hQp _ _ _ h).elim) (Or.inl ⟨by kernel_rfl, ?_⟩) (HS.out _ hb) ?_
  · intro w' hSw
    obtain ⟨s0, s1, s2, s3, s4⟩ := HS1.out _ hSw
    go_simp <;> first | with_reducible rfl | assumption
  show wpAnyH Try.prog .any hops Q S 11 #[true, false, false, false, false, false, false, false, false, false, false, false] { tmps := #[x0, x1, x2, .int .i64 ix, x4, .pointer (some ⟨g0, 0, none⟩), .pointer (some ⟨g1, 0, none⟩), x7, x8, x9, x10, .int .i64 1, x12, x13, x14, x15, x16, x17, x18, .agg #[.int .i64 k, .int .i64 r, .int .i64 c, .int .i64 q], x20, x21, x22, x23, x24, x25, x26, x27, x28, x29, x30, x31, x32, x33, x34, x35, x36, x37, x38, x39, x40], defers := [] } w1.drew
  refine wpAnyH_take (i := 1) (oi := { dst := some 20, op := Op.move (Operand.tmp 11), type := 3, pos := "ref.go:51", after := #[], guard := none }) (v := .int .i64 1) rfl (by kernel_rfl) (by kernel_rfl) (by kernel_rfl) (fun _ _ _ h => (hQp _ _ _ h).elim) (Or.inl ⟨by kernel_rfl, ?_⟩) (HS.out _ hb) ?_
  · intro w' hSw
    obtain ⟨s0, s1, s2, s3, s4⟩ := HS1.out _ hSw
    go_simp <;> first | with_reducible rfl | assumption
  show wpAnyH Try.prog .any hops Q S 10 #[true, true, false, false, false, false, false, false, false, false, false, false] { tmps := #[x0, x1, x2, .int .i64 ix, x4, .pointer (some ⟨g0, 0, none⟩), .pointer (some ⟨g1, 0, none⟩), x7, x8, x9, x10, .int .i64 1, x12, x13, x14, x15, x16, x17, x18, .agg #[.int .i64 k, .int .i64 r, .int .i64 c, .int .i64 q], .int .i64 1, x21, x22, x23, x24, x25, x26, x27, x28, x29, x30, x31, x32, x33, x34, x35, x36, x37, x38, x39, x40], defers := [] } w1.drew
  refine wpAnyH_take (i := 2) (oi := { dst := some 21, op := Op.indexAddr 26 (Operand.tmp 6) (Operand.tmp 20), type := 0, pos := "ref.go:51", after := #[{ on := 1, ground := Ground.data }], guard := none }) (v := .pointer (some ⟨g1, 1, none⟩)) rfl (by kernel_rfl) (by kernel_rfl) (by kernel_rfl) (fun _ _ _ h => (hQp _ _ _ h).elim) (Or.inl ⟨by kernel_rfl, ?_⟩) (HS.out _ hb) ?_
  · intro w' hSw
    obtain ⟨s0, s1, s2, s3, s4⟩ := HS1.out _ hSw
    go_simp <;> first | with_reducible rfl | assumption
  show wpAnyH Try.prog .any hops Q S 9 #[true, true, true, false, false, false, false, false, false, false, false, false] { tmps := #[x0, x1, x2, .int .i64 ix, x4, .pointer (some ⟨g0, 0, none⟩), .pointer (some ⟨g1, 0, none⟩), x7, x8, x9, x10, .int .i64 1, x12, x13, x14, x15, x16, x17, x18, .agg #[.int .i64 k, .int .i64 r, .int .i64 c, .int .i64 q], .int .i64 1, .pointer (some ⟨g1, 1, none⟩), x22, x23, x24, x25, x26, x27, x28, x29, x30, x31, x32, x33, x34, x35, x36, x37, x38, x39, x40], defers := [] } w1.drew
  refine wpAnyH_take (i := 3) (oi := { dst := some 22, op := Op.load 24 (Operand.tmp 21), type := 24, pos := "ref.go:51", after := #[{ on := 2, ground := Ground.data }], guard := none }) (v := .slice a0 n0 c0) rfl (by kernel_rfl) (by kernel_rfl) (by kernel_rfl) (fun _ _ _ h => (hQp _ _ _ h).elim) (Or.inl ⟨by kernel_rfl, ?_⟩) (HS.out _ hb) ?_
  · intro w' hSw
    obtain ⟨s0, s1, s2, s3, s4⟩ := HS1.out _ hSw
    go_simp <;> first | with_reducible rfl | assumption
  show wpAnyH Try.prog .any hops Q S 8 #[true, true, true, true, false, false, false, false, false, false, false, false] { tmps := #[x0, x1, x2, .int .i64 ix, x4, .pointer (some ⟨g0, 0, none⟩), .pointer (some ⟨g1, 0, none⟩), x7, x8, x9, x10, .int .i64 1, x12, x13, x14, x15, x16, x17, x18, .agg #[.int .i64 k, .int .i64 r, .int .i64 c, .int .i64 q], .int .i64 1, .pointer (some ⟨g1, 1, none⟩), .slice a0 n0 c0, x23, x24, x25, x26, x27, x28, x29, x30, x31, x32, x33, x34, x35, x36, x37, x38, x39, x40], defers := [] } w1.drew
  refine wpAnyH_take (i := 4) (oi := { dst := some 23, op := Op.move (Operand.tmp 3), type := 3, pos := "ref.go:51", after := #[], guard := none }) (v := .int .i64 ix) rfl (by kernel_rfl) (by kernel_rfl) (by kernel_rfl) (fun _ _ _ h => (hQp _ _ _ h).elim) (Or.inl ⟨by kernel_rfl, ?_⟩) (HS.out _ hb) ?_
  · intro w' hSw
    obtain ⟨s0, s1, s2, s3, s4⟩ := HS1.out _ hSw
    go_simp <;> first | with_reducible rfl | assumption
  show wpAnyH Try.prog .any hops Q S 7 #[true, true, true, true, true, false, false, false, false, false, false, false] { tmps := #[x0, x1, x2, .int .i64 ix, x4, .pointer (some ⟨g0, 0, none⟩), .pointer (some ⟨g1, 0, none⟩), x7, x8, x9, x10, .int .i64 1, x12, x13, x14, x15, x16, x17, x18, .agg #[.int .i64 k, .int .i64 r, .int .i64 c, .int .i64 q], .int .i64 1, .pointer (some ⟨g1, 1, none⟩), .slice a0 n0 c0, .int .i64 ix, x24, x25, x26, x27, x28, x29, x30, x31, x32, x33, x34, x35, x36, x37, x38, x39, x40], defers := [] } w1.drew
  exact H00.out _ hb
set_option maxHeartbeats 16000000 in
set_option maxRecDepth 100000 in
theorem Holds_any {k r c q : Int} {N W : Nat} (h : Par k r c q N W 0) (w : World) (a0 : Option Addr) (n0 c0 : Nat) (F0 : Nat → UInt8) (a1 : Option Addr) (n1 c1 : Nat) (F1 : Nat → UInt8) (h0 : Bec w a0 n0 c0 F0) (h1 : Bec w a1 n1 c1 F1) (l0 : n0 ≤ 9223372036854775807) (l1 : n1 ≤ 9223372036854775807) (kd : UInt8) (ix v : Int) (y0 y1 : Sl) (hy0 : he 0 N c ix n0 F0 = y0) (hy1 : he 0 N c ix n1 F1 = y1) :
    Calls Try.prog 23 #[.agg #[.int .i64 k, .int .i64 r, .int .i64 c, .int .i64 q], .agg #[.slice a0 n0 c0, .slice a1 n1 c1], .int .u8 ((kd.toNat : Nat) : Int), .int .i64 ix, .int .i64 v] w fun e w' => e = .returned (.int .i64 (hN y0 y1 kd v)) ∧ Below w.heap.size w w' := by
  obtain ⟨w0, hw0⟩ : ∃ w0, w0 = w.alloc (.cells #[.int .i64 k, .int .i64 r, .int .i64 c, .int .i64 q] 23) := ⟨_, rfl⟩
  have bw0 : Below w.heap.size w w0 := by rw [hw0]; exact below_alloc _ _
  have zw0 : w0.heap.size = w.heap.size + 1 := by rw [hw0]; simp
  obtain ⟨w1, hw1⟩ : ∃ w1, w1 = w0.alloc (.cells #[.slice a0 n0 c0, .slice a1 n1 c1] 26) := ⟨_, rfl⟩
  have bw1 : Below w0.heap.size w0 w1 := by rw [hw1]; exact below_alloc _ _
  have zw1 : w1.heap.size = w.heap.size + 1 + 1 := by rw [hw1]; simp [zw0]
  have Bw : Hid (Below w.heap.size w w1) := (below_then bw0 bw1)
  have Lw0 : Hid (∀ v, Below w1.heap.size w1 v → At w v (w.heap.size) #[.int .i64 k, .int .i64 r, .int .i64 c, .int .i64 q] 23) := fun v hv => by exact (at_made (Below.refl _ _) hw0).below (below_then bw1 hv)
  have Lw1 : Hid (∀ v, Below w1.heap.size w1 v → At w v (w.heap.size + 1) #[.slice a0 n0 c0, .slice a1 n1 c1] 26) := fun v hv => by rw [← zw0]; exact (at_made bw0 hw1).below (below_then (Below.refl _ _) hv)
  have HO0 : Hid (∀ v, Below w.heap.size w v → Calls Try.prog 24 #[.agg #[.int .i64 k, .int .i64 r, .int .i64 c, .int .i64 q], .slice a0 n0 c0, .int .i64 ix] v fun e w' => ∃ ao ca bo cb, e = .returned (.tuple #[slv y0 ao ca bo cb, .bool (decide (¬ y0.ce = 0))]) ∧ Got v.heap.size w' y0 ao ca bo cb ∧ Below v.heap.size v w') := fun v hv => Of_any h v a0 n0 c0 F0 (h0.below hv) l0 ix y0 hy0
  have HO1 : Hid (∀ v, Below w.heap.size w v → Calls Try.prog 24 #[.agg #[.int .i64 k, .int .i64 r, .int .i64 c, .int .i64 q], .slice a1 n1 c1, .int .i64 ix] v fun e w' => ∃ ao ca bo cb, e = .returned (.tuple #[slv y1 ao ca bo cb, .bool (decide (¬ y1.ce = 0))]) ∧ Got v.heap.size w' y1 ao ca bo cb ∧ Below v.heap.size v w') := fun v hv => Of_any h v a1 n1 c1 F1 (h1.below hv) l1 ix y1 hy1
  clear h h0 h1 l0 l1 hy0 hy1
  unfold slv at HO0 HO1
  unfold hN
  rcases hB_tests y0 kd v with ⟨e0, e1⟩ | ⟨e0, e1, e2⟩ | ⟨e0, e1, e2, e3⟩ | ⟨e0, e1, e2, e3⟩
  · rw [e0]
    rw [e1] at HO0
    clear e0 e1
    rcases hB_tests y1 kd v with ⟨f0, f1⟩ | ⟨f0, f1, f2⟩ | ⟨f0, f1, f2, f3⟩ | ⟨f0, f1, f2, f3⟩
    · rw [f0]
      rw [f1] at HO1
      clear f0 f1
      go_enter Try.func23, Try.ntmps23
      go_wp2_with fail
      refine wp_loop_rounds 3 ?_
      rw [← hw0, ← hw1]
      clear hw0 bw0 zw0 hw1 bw1 zw1
      have HB : Hid (Below w1.heap.size w1 w1) := Below.refl _ _
      rw [rounds_succ]
      go_wp2_with fail
      have KS : Hid (∀ v, Below w1.heap.size w1 v → v.cell? ⟨w.heap.size, 0, none⟩ = some (.int .i64 k) ∧ v.cell? ⟨w.heap.size, 1, none⟩ = some (.int .i64 r) ∧ v.cell? ⟨w.heap.size, 2, none⟩ = some (.int .i64 c) ∧ v.cell? ⟨w.heap.size, 3, none⟩ = some (.int .i64 q) ∧ v.cell? ⟨w.heap.size + 1, 0, none⟩ = some (.slice a0 n0 c0)) := fun v hv => by
        have q0 := (Lw0.out w1 HB.out).below hv
        have q1 := (Lw1.out w1 HB.out).below hv
        exact ⟨q0.cell (i := 0) rfl, q0.cell (i := 1) rfl, q0.cell (i := 2) rfl, q0.cell (i := 3) rfl, q1.cell (i := 0) rfl⟩
      refine wp_region_noPanic (holds_reg0 w1 k r c q ix (w.heap.size) (w.heap.size + 1) a0 n0 c0 y0 false _ _ _ _ _ _ _ _ _ _ _ _ _ _ _ _ _ _ _ _ _ _ _ _ _ _ _ _ _ _ _ _ _ _ _ _ _ (fun v hv => KS.out v hv) (fun v hv => HO0.out v (below_then Bw.out (below_then HB.out hv))) _ (fun _ _ _ h => h) (fun wa gwa aowa cawa bowa cbwa hb hat hgt => NoPanic.normal ?_))
      have HB2 : Hid (Below w1.heap.size w1 wa) := below_then HB.out hb
      have HTwa : Hid (At w1 wa gwa #[.int .u8 ((y0.kd.toNat : Nat) : Int), .int .i64 y0.ix, .int .i64 y0.ce, .int .i64 y0.st, .slice aowa y0.vn cawa, .slice bowa y0.dn cbwa] 31) := hat
      have HGwa : Hid (Got w1.heap.size wa y0 aowa cawa bowa cbwa) := hgt
      clear hb hgt KS HB
      have HB : Hid (Below w1.heap.size w1 wa) := HB2.out
      clear HB2
      clear hat
      go_wp2_with fail
      clear HTwa HGwa
      rw [rounds_succ]
      go_wp2_with fail
      have KS : Hid (∀ v, Below wa.heap.size wa v → v.cell? ⟨w.heap.size, 0, none⟩ = some (.int .i64 k) ∧ v.cell? ⟨w.heap.size, 1, none⟩ = some (.int .i64 r) ∧ v.cell? ⟨w.heap.size, 2, none⟩ = some (.int .i64 c) ∧ v.cell? ⟨w.heap.size, 3, none⟩ = some (.int .i64 q) ∧ v.cell? ⟨w.heap.size + 1, 1, none⟩ = some (.slice a1 n1 c1)) := fun v hv => by
        have q0 := (Lw0.out wa HB.out).below hv
        have q1 := (Lw1.out wa HB.out).below hv
        exact ⟨q0.cell (i := 0) rfl, q0.cell (i := 1) rfl, q0.cell (i := 2) rfl, q0.cell (i := 3) rfl, q1.cell (i := 1) rfl⟩
      refine wp_region_noPanic (holds_reg1 wa k r c q ix (w.heap.size) (w.heap.size + 1) a1 n1 c1 y1 false _ _ _ _ _ _ _ _ _ _ _ _ _ _ _ _ _ _ _ _ _ _ _ _ _ _ _ _ _ _ _ _ _ _ _ _ _ (fun v hv => KS.out v hv) (fun v hv => HO1.out v (below_then Bw.out (below_then HB.out hv))) _ (fun _ _ _ h => h) (fun wb gwb aowb cawb bowb cbwb hb hat hgt => NoPanic.normal ?_))
      have HB2 : Hid (Below w1.heap.size w1 wb) := below_then HB.out hb
      have HTwb : Hid (At wa wb gwb #[.int .u8 ((y1.kd.toNat : Nat) : Int), .int .i64 y1.ix, .int .i64 y1.ce, .int .i64 y1.st, .slice aowb y1.vn cawb, .slice bowb y1.dn cbwb] 31) := hat
      have HGwb : Hid (Got wa.heap.size wb y1 aowb cawb bowb cbwb) := hgt
      clear hb hgt KS HB
      have HB : Hid (Below w1.heap.size w1 wb) := HB2.out
      clear HB2
      clear hat
      go_wp2_with fail
      clear HTwb HGwb
      rw [rounds_succ]
      go_wp2_with fail
      go_ret
      exact ⟨rfl, below_then Bw.out HB.out⟩
    · rw [f0]
      rw [f1] at HO1
      clear f0 f1
      go_enter Try.func23, Try.ntmps23
      go_wp2_with fail
      refine wp_loop_rounds 3 ?_
      rw [← hw0, ← hw1]
      clear hw0 bw0 zw0 hw1 bw1 zw1
      have HB : Hid (Below w1.heap.size w1 w1) := Below.refl _ _
      rw [rounds_succ]
      go_wp2_with fail
      have KS : Hid (∀ v, Below w1.heap.size w1 v → v.cell? ⟨w.heap.size, 0, none⟩ = some (.int .i64 k) ∧ v.cell? ⟨w.heap.size, 1, none⟩ = some (.int .i64 r) ∧ v.cell? ⟨w.heap.size, 2, none⟩ = some (.int .i64 c) ∧ v.cell? ⟨w.heap.size, 3, none⟩ = some (.int .i64 q) ∧ v.cell? ⟨w.heap.size + 1, 0, none⟩ = some (.slice a0 n0 c0)) := fun v hv => by
        have q0 := (Lw0.out w1 HB.out).below hv
        have q1 := (Lw1.out w1 HB.out).below hv
        exact ⟨q0.cell (i := 0) rfl, q0.cell (i := 1) rfl, q0.cell (i := 2) rfl, q0.cell (i := 3) rfl, q1.cell (i := 0) rfl⟩
      refine wp_region_noPanic (holds_reg0 w1 k r c q ix (w.heap.size) (w.heap.size + 1) a0 n0 c0 y0 false _ _ _ _ _ _ _ _ _ _ _ _ _ _ _ _ _ _ _ _ _ _ _ _ _ _ _ _ _ _ _ _ _ _ _ _ _ (fun v hv => KS.out v hv) (fun v hv => HO0.out v (below_then Bw.out (below_then HB.out hv))) _ (fun _ _ _ h => h) (fun wa gwa aowa cawa bowa cbwa hb hat hgt => NoPanic.normal ?_))
      have HB2 : Hid (Below w1.heap.size w1 wa) := below_then HB.out hb
      have HTwa : Hid (At w1 wa gwa #[.int .u8 ((y0.kd.toNat : Nat) : Int), .int .i64 y0.ix, .int .i64 y0.ce, .int .i64 y0.st, .slice aowa y0.vn cawa, .slice bowa y0.dn cbwa] 31) := hat
      have HGwa : Hid (Got w1.heap.size wa y0 aowa cawa bowa cbwa) := hgt
      clear hb hgt KS HB
      have HB : Hid (Below w1.heap.size w1 wa) := HB2.out
      clear HB2
      clear hat
      go_wp2_with fail
      clear HTwa HGwa
      rw [rounds_succ]
      go_wp2_with fail
      have KS : Hid (∀ v, Below wa.heap.size wa v → v.cell? ⟨w.heap.size, 0, none⟩ = some (.int .i64 k) ∧ v.cell? ⟨w.heap.size, 1, none⟩ = some (.int .i64 r) ∧ v.cell? ⟨w.heap.size, 2, none⟩ = some (.int .i64 c) ∧ v.cell? ⟨w.heap.size, 3, none⟩ = some (.int .i64 q) ∧ v.cell? ⟨w.heap.size + 1, 1, none⟩ = some (.slice a1 n1 c1)) := fun v hv => by
        have q0 := (Lw0.out wa HB.out).below hv
        have q1 := (Lw1.out wa HB.out).below hv
        exact ⟨q0.cell (i := 0) rfl, q0.cell (i := 1) rfl, q0.cell (i := 2) rfl, q0.cell (i := 3) rfl, q1.cell (i := 1) rfl⟩
      refine wp_region_noPanic (holds_reg1 wa k r c q ix (w.heap.size) (w.heap.size + 1) a1 n1 c1 y1 true _ _ _ _ _ _ _ _ _ _ _ _ _ _ _ _ _ _ _ _ _ _ _ _ _ _ _ _ _ _ _ _ _ _ _ _ _ (fun v hv => KS.out v hv) (fun v hv => HO1.out v (below_then Bw.out (below_then HB.out hv))) _ (fun _ _ _ h => h) (fun wb gwb aowb cawb bowb cbwb hb hat hgt => NoPanic.normal ?_))
      have HB2 : Hid (Below w1.heap.size w1 wb) := below_then HB.out hb
      have HTwb : Hid (At wa wb gwb #[.int .u8 ((y1.kd.toNat : Nat) : Int), .int .i64 y1.ix, .int .i64 y1.ce, .int .i64 y1.st, .slice aowb y1.vn cawb, .slice bowb y1.dn cbwb] 31) := hat
      have HGwb : Hid (Got wa.heap.size wb y1 aowb cawb bowb cbwb) := hgt
      clear hb hgt KS HB
      have HB : Hid (Below w1.heap.size w1 wb) := HB2.out
      clear HB2
      have m0 := hat.cell (i := 0) rfl
      have m2 := hat.cell (i := 2) rfl
      clear hat
      go_wp2_with fail
      clear HTwb HGwb m0 m2
      rw [rounds_succ]
      go_wp2_with fail
      go_ret
      exact ⟨rfl, below_then Bw.out HB.out⟩
    · rw [f0]
      rw [f1] at HO1
      clear f0 f1
      go_enter Try.func23, Try.ntmps23
      go_wp2_with fail
      refine wp_loop_rounds 3 ?_
      rw [← hw0, ← hw1]
      clear hw0 bw0 zw0 hw1 bw1 zw1
      have HB : Hid (Below w1.heap.size w1 w1) := Below.refl _ _
      rw [rounds_succ]
      go_wp2_with fail
      have KS : Hid (∀ v, Below w1.heap.size w1 v → v.cell? ⟨w.heap.size, 0, none⟩ = some (.int .i64 k) ∧ v.cell? ⟨w.heap.size, 1, none⟩ = some (.int .i64 r) ∧ v.cell? ⟨w.heap.size, 2, none⟩ = some (.int .i64 c) ∧ v.cell? ⟨w.heap.size, 3, none⟩ = some (.int .i64 q) ∧ v.cell? ⟨w.heap.size + 1, 0, none⟩ = some (.slice a0 n0 c0)) := fun v hv => by
        have q0 := (Lw0.out w1 HB.out).below hv
        have q1 := (Lw1.out w1 HB.out).below hv
        exact ⟨q0.cell (i := 0) rfl, q0.cell (i := 1) rfl, q0.cell (i := 2) rfl, q0.cell (i := 3) rfl, q1.cell (i := 0) rfl⟩
      refine wp_region_noPanic (holds_reg0 w1 k r c q ix (w.heap.size) (w.heap.size + 1) a0 n0 c0 y0 false _ _ _ _ _ _ _ _ _ _ _ _ _ _ _ _ _ _ _ _ _ _ _ _ _ _ _ _ _ _ _ _ _ _ _ _ _ (fun v hv => KS.out v hv) (fun v hv => HO0.out v (below_then Bw.out (below_then HB.out hv))) _ (fun _ _ _ h => h) (fun wa gwa aowa cawa bowa cbwa hb hat hgt => NoPanic.normal ?_))
      have HB2 : Hid (Below w1.heap.size w1 wa) := below_then HB.out hb
      have HTwa : Hid (At w1 wa gwa #[.int .u8 ((y0.kd.toNat : Nat) : Int), .int .i64 y0.ix, .int .i64 y0.ce, .int .i64 y0.st, .slice aowa y0.vn cawa, .slice bowa y0.dn cbwa] 31) := hat
      have HGwa : Hid (Got w1.heap.size wa y0 aowa cawa bowa cbwa) := hgt
      clear hb hgt KS HB
      have HB : Hid (Below w1.heap.size w1 wa) := HB2.out
      clear HB2
      clear hat
      go_wp2_with fail
      clear HTwa HGwa
      rw [rounds_succ]
      go_wp2_with fail
      have KS : Hid (∀ v, Below wa.heap.size wa v → v.cell? ⟨w.heap.size, 0, none⟩ = some (.int .i64 k) ∧ v.cell? ⟨w.heap.size, 1, none⟩ = some (.int .i64 r) ∧ v.cell? ⟨w.heap.size, 2, none⟩ = some (.int .i64 c) ∧ v.cell? ⟨w.heap.size, 3, none⟩ = some (.int .i64 q) ∧ v.cell? ⟨w.heap.size + 1, 1, none⟩ = some (.slice a1 n1 c1)) := fun v hv => by
        have q0 := (Lw0.out wa HB.out).below hv
        have q1 := (Lw1.out wa HB.out).below hv
        exact ⟨q0.cell (i := 0) rfl, q0.cell (i := 1) rfl, q0.cell (i := 2) rfl, q0.cell (i := 3) rfl, q1.cell (i := 1) rfl⟩
      refine wp_region_noPanic (holds_reg1 wa k r c q ix (w.heap.size) (w.heap.size + 1) a1 n1 c1 y1 true _ _ _ _ _ _ _ _ _ _ _ _ _ _ _ _ _ _ _ _ _ _ _ _ _ _ _ _ _ _ _ _ _ _ _ _ _ (fun v hv => KS.out v hv) (fun v hv => HO1.out v (below_then Bw.out (below_then HB.out hv))) _ (fun _ _ _ h => h) (fun wb gwb aowb cawb bowb cbwb hb hat hgt => NoPanic.normal ?_))
      have HB2 : Hid (Below w1.heap.size w1 wb) := below_then HB.out hb
      have HTwb : Hid (At wa wb gwb #[.int .u8 ((y1.kd.toNat : Nat) : Int), .int .i64 y1.ix, .int .i64 y1.ce, .int .i64 y1.st, .slice aowb y1.vn cawb, .slice bowb y1.dn cbwb] 31) := hat
      have HGwb : Hid (Got wa.heap.size wb y1 aowb cawb bowb cbwb) := hgt
      clear hb hgt KS HB
      have HB : Hid (Below w1.heap.size w1 wb) := HB2.out
      clear HB2
      have m0 := hat.cell (i := 0) rfl
      have m2 := hat.cell (i := 2) rfl
      clear hat
      go_wp2_with fail
      clear HTwb HGwb m0 m2
      rw [rounds_succ]
      go_wp2_with fail
      go_ret
      exact ⟨rfl, below_then Bw.out HB.out⟩
    · rw [f0]
      rw [f1] at HO1
      clear f0 f1
      go_enter Try.func23, Try.ntmps23
      go_wp2_with fail
      refine wp_loop_rounds 3 ?_
      rw [← hw0, ← hw1]
      clear hw0 bw0 zw0 hw1 bw1 zw1
      have HB : Hid (Below w1.heap.size w1 w1) := Below.refl _ _
      rw [rounds_succ]
      go_wp2_with fail
      have KS : Hid (∀ v, Below w1.heap.size w1 v → v.cell? ⟨w.heap.size, 0, none⟩ = some (.int .i64 k) ∧ v.cell? ⟨w.heap.size, 1, none⟩ = some (.int .i64 r) ∧ v.cell? ⟨w.heap.size, 2, none⟩ = some (.int .i64 c) ∧ v.cell? ⟨w.heap.size, 3, none⟩ = some (.int .i64 q) ∧ v.cell? ⟨w.heap.size + 1, 0, none⟩ = some (.slice a0 n0 c0)) := fun v hv => by
        have q0 := (Lw0.out w1 HB.out).below hv
        have q1 := (Lw1.out w1 HB.out).below hv
        exact ⟨q0.cell (i := 0) rfl, q0.cell (i := 1) rfl, q0.cell (i := 2) rfl, q0.cell (i := 3) rfl, q1.cell (i := 0) rfl⟩
      refine wp_region_noPanic (holds_reg0 w1 k r c q ix (w.heap.size) (w.heap.size + 1) a0 n0 c0 y0 false _ _ _ _ _ _ _ _ _ _ _ _ _ _ _ _ _ _ _ _ _ _ _ _ _ _ _ _ _ _ _ _ _ _ _ _ _ (fun v hv => KS.out v hv) (fun v hv => HO0.out v (below_then Bw.out (below_then HB.out hv))) _ (fun _ _ _ h => h) (fun wa gwa aowa cawa bowa cbwa hb hat hgt => NoPanic.normal ?_))
      have HB2 : Hid (Below w1.heap.size w1 wa) := below_then HB.out hb
      have HTwa : Hid (At w1 wa gwa #[.int .u8 ((y0.kd.toNat : Nat) : Int), .int .i64 y0.ix, .int .i64 y0.ce, .int .i64 y0.st, .slice aowa y0.vn cawa, .slice bowa y0.dn cbwa] 31) := hat
      have HGwa : Hid (Got w1.heap.size wa y0 aowa cawa bowa cbwa) := hgt
      clear hb hgt KS HB
      have HB : Hid (Below w1.heap.size w1 wa) := HB2.out
      clear HB2
      clear hat
      go_wp2_with fail
      clear HTwa HGwa
      rw [rounds_succ]
      go_wp2_with fail
      have KS : Hid (∀ v, Below wa.heap.size wa v → v.cell? ⟨w.heap.size, 0, none⟩ = some (.int .i64 k) ∧ v.cell? ⟨w.heap.size, 1, none⟩ = some (.int .i64 r) ∧ v.cell? ⟨w.heap.size, 2, none⟩ = some (.int .i64 c) ∧ v.cell? ⟨w.heap.size, 3, none⟩ = some (.int .i64 q) ∧ v.cell? ⟨w.heap.size + 1, 1, none⟩ = some (.slice a1 n1 c1)) := fun v hv => by
        have q0 := (Lw0.out wa HB.out).below hv
        have q1 := (Lw1.out wa HB.out).below hv
        exact ⟨q0.cell (i := 0) rfl, q0.cell (i := 1) rfl, q0.cell (i := 2) rfl, q0.cell (i := 3) rfl, q1.cell (i := 1) rfl⟩
      refine wp_region_noPanic (holds_reg1 wa k r c q ix (w.heap.size) (w.heap.size + 1) a1 n1 c1 y1 true _ _ _ _ _ _ _ _ _ _ _ _ _ _ _ _ _ _ _ _ _ _ _ _ _ _ _ _ _ _ _ _ _ _ _ _ _ (fun v hv => KS.out v hv) (fun v hv => HO1.out v (below_then Bw.out (below_then HB.out hv))) _ (fun _ _ _ h => h) (fun wb gwb aowb cawb bowb cbwb hb hat hgt => NoPanic.normal ?_))
      have HB2 : Hid (Below w1.heap.size w1 wb) := below_then HB.out hb
      have HTwb : Hid (At wa wb gwb #[.int .u8 ((y1.kd.toNat : Nat) : Int), .int .i64 y1.ix, .int .i64 y1.ce, .int .i64 y1.st, .slice aowb y1.vn cawb, .slice bowb y1.dn cbwb] 31) := hat
      have HGwb : Hid (Got wa.heap.size wb y1 aowb cawb bowb cbwb) := hgt
      clear hb hgt KS HB
      have HB : Hid (Below w1.heap.size w1 wb) := HB2.out
      clear HB2
      have m0 := hat.cell (i := 0) rfl
      have m2 := hat.cell (i := 2) rfl
      clear hat
      go_wp2_with fail
      clear HTwb HGwb m0 m2
      go_ret
      exact ⟨rfl, below_then Bw.out HB.out⟩
  · rw [e0]
    rw [e1] at HO0
    clear e0 e1
    rcases hB_tests y1 kd v with ⟨f0, f1⟩ | ⟨f0, f1, f2⟩ | ⟨f0, f1, f2, f3⟩ | ⟨f0, f1, f2, f3⟩
    · rw [f0]
      rw [f1] at HO1
      clear f0 f1
      go_enter Try.func23, Try.ntmps23
      go_wp2_with fail
      refine wp_loop_rounds 3 ?_
      rw [← hw0, ← hw1]
      clear hw0 bw0 zw0 hw1 bw1 zw1
      have HB : Hid (Below w1.heap.size w1 w1) := Below.refl _ _
      rw [rounds_succ]
      go_wp2_with fail
      have KS : Hid (∀ v, Below w1.heap.size w1 v → v.cell? ⟨w.heap.size, 0, none⟩ = some (.int .i64 k) ∧ v.cell? ⟨w.heap.size, 1, none⟩ = some (.int .i64 r) ∧ v.cell? ⟨w.heap.size, 2, none⟩ = some (.int .i64 c) ∧ v.cell? ⟨w.heap.size, 3, none⟩ = some (.int .i64 q) ∧ v.cell? ⟨w.heap.size + 1, 0, none⟩ = some (.slice a0 n0 c0)) := fun v hv => by
        have q0 := (Lw0.out w1 HB.out).below hv
        have q1 := (Lw1.out w1 HB.out).below hv
        exact ⟨q0.cell (i := 0) rfl, q0.cell (i := 1) rfl, q0.cell (i := 2) rfl, q0.cell (i := 3) rfl, q1.cell (i := 0) rfl⟩
      refine wp_region_noPanic (holds_reg0 w1 k r c q ix (w.heap.size) (w.heap.size + 1) a0 n0 c0 y0 true _ _ _ _ _ _ _ _ _ _ _ _ _ _ _ _ _ _ _ _ _ _ _ _ _ _ _ _ _ _ _ _ _ _ _ _ _ (fun v hv => KS.out v hv) (fun v hv => HO0.out v (below_then Bw.out (below_then HB.out hv))) _ (fun _ _ _ h => h) (fun wa gwa aowa cawa bowa cbwa hb hat hgt => NoPanic.normal ?_))
      have HB2 : Hid (Below w1.heap.size w1 wa) := below_then HB.out hb
      have HTwa : Hid (At w1 wa gwa #[.int .u8 ((y0.kd.toNat : Nat) : Int), .int .i64 y0.ix, .int .i64 y0.ce, .int .i64 y0.st, .slice aowa y0.vn cawa, .slice bowa y0.dn cbwa] 31) := hat
      have HGwa : Hid (Got w1.heap.size wa y0 aowa cawa bowa cbwa) := hgt
      clear hb hgt KS HB
      have HB : Hid (Below w1.heap.size w1 wa) := HB2.out
      clear HB2
      have m0 := hat.cell (i := 0) rfl
      have m2 := hat.cell (i := 2) rfl
      clear hat
      go_wp2_with fail
      clear HTwa HGwa m0 m2
      rw [rounds_succ]
      go_wp2_with fail
      have KS : Hid (∀ v, Below wa.heap.size wa v → v.cell? ⟨w.heap.size, 0, none⟩ = some (.int .i64 k) ∧ v.cell? ⟨w.heap.size, 1, none⟩ = some (.int .i64 r) ∧ v.cell? ⟨w.heap.size, 2, none⟩ = some (.int .i64 c) ∧ v.cell? ⟨w.heap.size, 3, none⟩ = some (.int .i64 q) ∧ v.cell? ⟨w.heap.size + 1, 1, none⟩ = some (.slice a1 n1 c1)) := fun v hv => by
        have q0 := (Lw0.out wa HB.out).below hv
        have q1 := (Lw1.out wa HB.out).below hv
        exact ⟨q0.cell (i := 0) rfl, q0.cell (i := 1) rfl, q0.cell (i := 2) rfl, q0.cell (i := 3) rfl, q1.cell (i := 1) rfl⟩
      refine wp_region_noPanic (holds_reg1 wa k r c q ix (w.heap.size) (w.heap.size + 1) a1 n1 c1 y1 false _ _ _ _ _ _ _ _ _ _ _ _ _ _ _ _ _ _ _ _ _ _ _ _ _ _ _ _ _ _ _ _ _ _ _ _ _ (fun v hv => KS.out v hv) (fun v hv => HO1.out v (below_then Bw.out (below_then HB.out hv))) _ (fun _ _ _ h => h) (fun wb gwb aowb cawb bowb cbwb hb hat hgt => NoPanic.normal ?_))
      have HB2 : Hid (Below w1.heap.size w1 wb) := below_then HB.out hb
      have HTwb : Hid (At wa wb gwb #[.int .u8 ((y1.kd.toNat : Nat) : Int), .int .i64 y1.ix, .int .i64 y1.ce, .int .i64 y1.st, .slice aowb y1.vn cawb, .slice bowb y1.dn cbwb] 31) := hat
      have HGwb : Hid (Got wa.heap.size wb y1 aowb cawb bowb cbwb) := hgt
      clear hb hgt KS HB
      have HB : Hid (Below w1.heap.size w1 wb) := HB2.out
      clear HB2
      clear hat
      go_wp2_with fail
      clear HTwb HGwb
      rw [rounds_succ]
      go_wp2_with fail
      go_ret
      exact ⟨rfl, below_then Bw.out HB.out⟩
    · rw [f0]
      rw [f1] at HO1
      clear f0 f1
      go_enter Try.func23, Try.ntmps23
      go_wp2_with fail
      refine wp_loop_rounds 3 ?_
      rw [← hw0, ← hw1]
      clear hw0 bw0 zw0 hw1 bw1 zw1
      have HB : Hid (Below w1.heap.size w1 w1) := Below.refl _ _
      rw [rounds_succ]
      go_wp2_with fail
      have KS : Hid (∀ v, Below w1.heap.size w1 v → v.cell? ⟨w.heap.size, 0, none⟩ = some (.int .i64 k) ∧ v.cell? ⟨w.heap.size, 1, none⟩ = some (.int .i64 r) ∧ v.cell? ⟨w.heap.size, 2, none⟩ = some (.int .i64 c) ∧ v.cell? ⟨w.heap.size, 3, none⟩ = some (.int .i64 q) ∧ v.cell? ⟨w.heap.size + 1, 0, none⟩ = some (.slice a0 n0 c0)) := fun v hv => by
        have q0 := (Lw0.out w1 HB.out).below hv
        have q1 := (Lw1.out w1 HB.out).below hv
        exact ⟨q0.cell (i := 0) rfl, q0.cell (i := 1) rfl, q0.cell (i := 2) rfl, q0.cell (i := 3) rfl, q1.cell (i := 0) rfl⟩
      refine wp_region_noPanic (holds_reg0 w1 k r c q ix (w.heap.size) (w.heap.size + 1) a0 n0 c0 y0 true _ _ _ _ _ _ _ _ _ _ _ _ _ _ _ _ _ _ _ _ _ _ _ _ _ _ _ _ _ _ _ _ _ _ _ _ _ (fun v hv => KS.out v hv) (fun v hv => HO0.out v (below_then Bw.out (below_then HB.out hv))) _ (fun _ _ _ h => h) (fun wa gwa aowa cawa bowa cbwa hb hat hgt => NoPanic.normal ?_))
      have HB2 : Hid (Below w1.heap.size w1 wa) := below_then HB.out hb
      have HTwa : Hid (At w1 wa gwa #[.int .u8 ((y0.kd.toNat : Nat) : Int), .int .i64 y0.ix, .int .i64 y0.ce, .int .i64 y0.st, .slice aowa y0.vn cawa, .slice bowa y0.dn cbwa] 31) := hat
      have HGwa : Hid (Got w1.heap.size wa y0 aowa cawa bowa cbwa) := hgt
      clear hb hgt KS HB
      have HB : Hid (Below w1.heap.size w1 wa) := HB2.out
      clear HB2
      have m0 := hat.cell (i := 0) rfl
      have m2 := hat.cell (i := 2) rfl
      clear hat
      go_wp2_with fail
      clear HTwa HGwa m0 m2
      rw [rounds_succ]
      go_wp2_with fail
      have KS : Hid (∀ v, Below wa.heap.size wa v → v.cell? ⟨w.heap.size, 0, none⟩ = some (.int .i64 k) ∧ v.cell? ⟨w.heap.size, 1, none⟩ = some (.int .i64 r) ∧ v.cell? ⟨w.heap.size, 2, none⟩ = some (.int .i64 c) ∧ v.cell? ⟨w.heap.size, 3, none⟩ = some (.int .i64 q) ∧ v.cell? ⟨w.heap.size + 1, 1, none⟩ = some (.slice a1 n1 c1)) := fun v hv => by
        have q0 := (Lw0.out wa HB.out).below hv
        have q1 := (Lw1.out wa HB.out).below hv
        exact ⟨q0.cell (i := 0) rfl, q0.cell (i := 1) rfl, q0.cell (i := 2) rfl, q0.cell (i := 3) rfl, q1.cell (i := 1) rfl⟩
      refine wp_region_noPanic (holds_reg1 wa k r c q ix (w.heap.size) (w.heap.size + 1) a1 n1 c1 y1 true _ _ _ _ _ _ _ _ _ _ _ _ _ _ _ _ _ _ _ _ _ _ _ _ _ _ _ _ _ _ _ _ _ _ _ _ _ (fun v hv => KS.out v hv) (fun v hv => HO1.out v (below_then Bw.out (below_then HB.out hv))) _ (fun _ _ _ h => h) (fun wb gwb aowb cawb bowb cbwb hb hat hgt => NoPanic.normal ?_))
      have HB2 : Hid (Below w1.heap.size w1 wb) := below_then HB.out hb
      have HTwb : Hid (At wa wb gwb #[.int .u8 ((y1.kd.toNat : Nat) : Int), .int .i64 y1.ix, .int .i64 y1.ce, .int .i64 y1.st, .slice aowb y1.vn cawb, .slice bowb y1.dn cbwb] 31) := hat
      have HGwb : Hid (Got wa.heap.size wb y1 aowb cawb bowb cbwb) := hgt
      clear hb hgt KS HB
      have HB : Hid (Below w1.heap.size w1 wb) := HB2.out
      clear HB2
      have m0 := hat.cell (i := 0) rfl
      have m2 := hat.cell (i := 2) rfl
      clear hat
      go_wp2_with fail
      clear HTwb HGwb m0 m2
      rw [rounds_succ]
      go_wp2_with fail
      go_ret
      exact ⟨rfl, below_then Bw.out HB.out⟩
    · rw [f0]
      rw [f1] at HO1
      clear f0 f1
      go_enter Try.func23, Try.ntmps23
      go_wp2_with fail
      refine wp_loop_rounds 3 ?_
      rw [← hw0, ← hw1]
      clear hw0 bw0 zw0 hw1 bw1 zw1
      have HB : Hid (Below w1.heap.size w1 w1) := Below.refl _ _
      rw [rounds_succ]
      go_wp2_with fail
      have KS : Hid (∀ v, Below w1.heap.size w1 v → v.cell? ⟨w.heap.size, 0, none⟩ = some (.int .i64 k) ∧ v.cell? ⟨w.heap.size, 1, none⟩ = some (.int .i64 r) ∧ v.cell? ⟨w.heap.size, 2, none⟩ = some (.int .i64 c) ∧ v.cell? ⟨w.heap.size, 3, none⟩ = some (.int .i64 q) ∧ v.cell? ⟨w.heap.size + 1, 0, none⟩ = some (.slice a0 n0 c0)) := fun v hv => by
        have q0 := (Lw0.out w1 HB.out).below hv
        have q1 := (Lw1.out w1 HB.out).below hv
        exact ⟨q0.cell (i := 0) rfl, q0.cell (i := 1) rfl, q0.cell (i := 2) rfl, q0.cell (i := 3) rfl, q1.cell (i := 0) rfl⟩
      refine wp_region_noPanic (holds_reg0 w1 k r c q ix (w.heap.size) (w.heap.size + 1) a0 n0 c0 y0 true _ _ _ _ _ _ _ _ _ _ _ _ _ _ _ _ _ _ _ _ _ _ _ _ _ _ _ _ _ _ _ _ _ _ _ _ _ (fun v hv => KS.out v hv) (fun v hv => HO0.out v (below_then Bw.out (below_then HB.out hv))) _ (fun _ _ _ h => h) (fun wa gwa aowa cawa bowa cbwa hb hat hgt => NoPanic.normal ?_))
      have HB2 : Hid (Below w1.heap.size w1 wa) := below_then HB.out hb
      have HTwa : Hid (At w1 wa gwa #[.int .u8 ((y0.kd.toNat : Nat) : Int), .int .i64 y0.ix, .int .i64 y0.ce, .int .i64 y0.st, .slice aowa y0.vn cawa, .slice bowa y0.dn cbwa] 31) := hat
      have HGwa : Hid (Got w1.heap.size wa y0 aowa cawa bowa cbwa) := hgt
      clear hb hgt KS HB
      have HB : Hid (Below w1.heap.size w1 wa) := HB2.out
      clear HB2
      have m0 := hat.cell (i := 0) rfl
      have m2 := hat.cell (i := 2) rfl
      clear hat
      go_wp2_with fail
      clear HTwa HGwa m0 m2
      rw [rounds_succ]
      go_wp2_with fail
      have KS : Hid (∀ v, Below wa.heap.size wa v → v.cell? ⟨w.heap.size, 0, none⟩ = some (.int .i64 k) ∧ v.cell? ⟨w.heap.size, 1, none⟩ = some (.int .i64 r) ∧ v.cell? ⟨w.heap.size, 2, none⟩ = some (.int .i64 c) ∧ v.cell? ⟨w.heap.size, 3, none⟩ = some (.int .i64 q) ∧ v.cell? ⟨w.heap.size + 1, 1, none⟩ = some (.slice a1 n1 c1)) := fun v hv => by
        have q0 := (Lw0.out wa HB.out).below hv
        have q1 := (Lw1.out wa HB.out).below hv
        exact ⟨q0.cell (i := 0) rfl, q0.cell (i := 1) rfl, q0.cell (i := 2) rfl, q0.cell (i := 3) rfl, q1.cell (i := 1) rfl⟩
      refine wp_region_noPanic (holds_reg1 wa k r c q ix (w.heap.size) (w.heap.size + 1) a1 n1 c1 y1 true _ _ _ _ _ _ _ _ _ _ _ _ _ _ _ _ _ _ _ _ _ _ _ _ _ _ _ _ _ _ _ _ _ _ _ _ _ (fun v hv => KS.out v hv) (fun v hv => HO1.out v (below_then Bw.out (below_then HB.out hv))) _ (fun _ _ _ h => h) (fun wb gwb aowb cawb bowb cbwb hb hat hgt => NoPanic.normal ?_))
      have HB2 : Hid (Below w1.heap.size w1 wb) := below_then HB.out hb
      have HTwb : Hid (At wa wb gwb #[.int .u8 ((y1.kd.toNat : Nat) : Int), .int .i64 y1.ix, .int .i64 y1.ce, .int .i64 y1.st, .slice aowb y1.vn cawb, .slice bowb y1.dn cbwb] 31) := hat
      have HGwb : Hid (Got wa.heap.size wb y1 aowb cawb bowb cbwb) := hgt
      clear hb hgt KS HB
      have HB : Hid (Below w1.heap.size w1 wb) := HB2.out
      clear HB2
      have m0 := hat.cell (i := 0) rfl
      have m2 := hat.cell (i := 2) rfl
      clear hat
      go_wp2_with fail
      clear HTwb HGwb m0 m2
      rw [rounds_succ]
      go_wp2_with fail
      go_ret
      exact ⟨rfl, below_then Bw.out HB.out⟩
    · rw [f0]
      rw [f1] at HO1
      clear f0 f1
      go_enter Try.func23, Try.ntmps23
      go_wp2_with fail
      refine wp_loop_rounds 3 ?_
      rw [← hw0, ← hw1]
      clear hw0 bw0 zw0 hw1 bw1 zw1
      have HB : Hid (Below w1.heap.size w1 w1) := Below.refl _ _
      rw [rounds_succ]
      go_wp2_with fail
      have KS : Hid (∀ v, Below w1.heap.size w1 v → v.cell? ⟨w.heap.size, 0, none⟩ = some (.int .i64 k) ∧ v.cell? ⟨w.heap.size, 1, none⟩ = some (.int .i64 r) ∧ v.cell? ⟨w.heap.size, 2, none⟩ = some (.int .i64 c) ∧ v.cell? ⟨w.heap.size, 3, none⟩ = some (.int .i64 q) ∧ v.cell? ⟨w.heap.size + 1, 0, none⟩ = some (.slice a0 n0 c0)) := fun v hv => by
        have q0 := (Lw0.out w1 HB.out).below hv
        have q1 := (Lw1.out w1 HB.out).below hv
        exact ⟨q0.cell (i := 0) rfl, q0.cell (i := 1) rfl, q0.cell (i := 2) rfl, q0.cell (i := 3) rfl, q1.cell (i := 0) rfl⟩
      refine wp_region_noPanic (holds_reg0 w1 k r c q ix (w.heap.size) (w.heap.size + 1) a0 n0 c0 y0 true _ _ _ _ _ _ _ _ _ _ _ _ _ _ _ _ _ _ _ _ _ _ _ _ _ _ _ _ _ _ _ _ _ _ _ _ _ (fun v hv => KS.out v hv) (fun v hv => HO0.out v (below_then Bw.out (below_then HB.out hv))) _ (fun _ _ _ h => h) (fun wa gwa aowa cawa bowa cbwa hb hat hgt => NoPanic.normal ?_))
      have HB2 : Hid (Below w1.heap.size w1 wa) := below_then HB.out hb
      have HTwa : Hid (At w1 wa gwa #[.int .u8 ((y0.kd.toNat : Nat) : Int), .int .i64 y0.ix, .int .i64 y0.ce, .int .i64 y0.st, .slice aowa y0.vn cawa, .slice bowa y0.dn cbwa] 31) := hat
      have HGwa : Hid (Got w1.heap.size wa y0 aowa cawa bowa cbwa) := hgt
      clear hb hgt KS HB
      have HB : Hid (Below w1.heap.size w1 wa) := HB2.out
      clear HB2
      have m0 := hat.cell (i := 0) rfl
      have m2 := hat.cell (i := 2) rfl
      clear hat
      go_wp2_with fail
      clear HTwa HGwa m0 m2
      rw [rounds_succ]
      go_wp2_with fail
      have KS : Hid (∀ v, Below wa.heap.size wa v → v.cell? ⟨w.heap.size, 0, none⟩ = some (.int .i64 k) ∧ v.cell? ⟨w.heap.size, 1, none⟩ = some (.int .i64 r) ∧ v.cell? ⟨w.heap.size, 2, none⟩ = some (.int .i64 c) ∧ v.cell? ⟨w.heap.size, 3, none⟩ = some (.int .i64 q) ∧ v.cell? ⟨w.heap.size + 1, 1, none⟩ = some (.slice a1 n1 c1)) := fun v hv => by
        have q0 := (Lw0.out wa HB.out).below hv
        have q1 := (Lw1.out wa HB.out).below hv
        exact ⟨q0.cell (i := 0) rfl, q0.cell (i := 1) rfl, q0.cell (i := 2) rfl, q0.cell (i := 3) rfl, q1.cell (i := 1) rfl⟩
      refine wp_region_noPanic (holds_reg1 wa k r c q ix (w.heap.size) (w.heap.size + 1) a1 n1 c1 y1 true _ _ _ _ _ _ _ _ _ _ _ _ _ _ _ _ _ _ _ _ _ _ _ _ _ _ _ _ _ _ _ _ _ _ _ _ _ (fun v hv => KS.out v hv) (fun v hv => HO1.out v (below_then Bw.out (below_then HB.out hv))) _ (fun _ _ _ h => h) (fun wb gwb aowb cawb bowb cbwb hb hat hgt => NoPanic.normal ?_))
      have HB2 : Hid (Below w1.heap.size w1 wb) := below_then HB.out hb
      have HTwb : Hid (At wa wb gwb #[.int .u8 ((y1.kd.toNat : Nat) : Int), .int .i64 y1.ix, .int .i64 y1.ce, .int .i64 y1.st, .slice aowb y1.vn cawb, .slice bowb y1.dn cbwb] 31) := hat
      have HGwb : Hid (Got wa.heap.size wb y1 aowb cawb bowb cbwb) := hgt
      clear hb hgt KS HB
      have HB : Hid (Below w1.heap.size w1 wb) := HB2.out
      clear HB2
      have m0 := hat.cell (i := 0) rfl
      have m2 := hat.cell (i := 2) rfl
      clear hat
      go_wp2_with fail
      clear HTwb HGwb m0 m2
      go_ret
      exact ⟨rfl, below_then Bw.out HB.out⟩
  · rw [e0]
    rw [e1] at HO0
    clear e0 e1
    rcases hB_tests y1 kd v with ⟨f0, f1⟩ | ⟨f0, f1, f2⟩ | ⟨f0, f1, f2, f3⟩ | ⟨f0, f1, f2, f3⟩
    · rw [f0]
      rw [f1] at HO1
      clear f0 f1
      go_enter Try.func23, Try.ntmps23
      go_wp2_with fail
      refine wp_loop_rounds 3 ?_
      rw [← hw0, ← hw1]
      clear hw0 bw0 zw0 hw1 bw1 zw1
      have HB : Hid (Below w1.heap.size w1 w1) := Below.refl _ _
      rw [rounds_succ]
      go_wp2_with fail
      have KS : Hid (∀ v, Below w1.heap.size w1 v → v.cell? ⟨w.heap.size, 0, none⟩ = some (.int .i64 k) ∧ v.cell? ⟨w.heap.size, 1, none⟩ = some (.int .i64 r) ∧ v.cell? ⟨w.heap.size, 2, none⟩ = some (.int .i64 c) ∧ v.cell? ⟨w.heap.size, 3, none⟩ = some (.int .i64 q) ∧ v.cell? ⟨w.heap.size + 1, 0, none⟩ = some (.slice a0 n0 c0)) := fun v hv => by
        have q0 := (Lw0.out w1 HB.out).below hv
        have q1 := (Lw1.out w1 HB.out).below hv
        exact ⟨q0.cell (i := 0) rfl, q0.cell (i := 1) rfl, q0.cell (i := 2) rfl, q0.cell (i := 3) rfl, q1.cell (i := 0) rfl⟩
      refine wp_region_noPanic (holds_reg0 w1 k r c q ix (w.heap.size) (w.heap.size + 1) a0 n0 c0 y0 true _ _ _ _ _ _ _ _ _ _ _ _ _ _ _ _ _ _ _ _ _ _ _ _ _ _ _ _ _ _ _ _ _ _ _ _ _ (fun v hv => KS.out v hv) (fun v hv => HO0.out v (below_then Bw.out (below_then HB.out hv))) _ (fun _ _ _ h => h) (fun wa gwa aowa cawa bowa cbwa hb hat hgt => NoPanic.normal ?_))
      have HB2 : Hid (Below w1.heap.size w1 wa) := below_then HB.out hb
      have HTwa : Hid (At w1 wa gwa #[.int .u8 ((y0.kd.toNat : Nat) : Int), .int .i64 y0.ix, .int .i64 y0.ce, .int .i64 y0.st, .slice aowa y0.vn cawa, .slice bowa y0.dn cbwa] 31) := hat
      have HGwa : Hid (Got w1.heap.size wa y0 aowa cawa bowa cbwa) := hgt
      clear hb hgt KS HB
      have HB : Hid (Below w1.heap.size w1 wa) := HB2.out
      clear HB2
      have m0 := hat.cell (i := 0) rfl
      have m2 := hat.cell (i := 2) rfl
      clear hat
      go_wp2_with fail
      clear HTwa HGwa m0 m2
      rw [rounds_succ]
      go_wp2_with fail
      have KS : Hid (∀ v, Below wa.heap.size wa v → v.cell? ⟨w.heap.size, 0, none⟩ = some (.int .i64 k) ∧ v.cell? ⟨w.heap.size, 1, none⟩ = some (.int .i64 r) ∧ v.cell? ⟨w.heap.size, 2, none⟩ = some (.int .i64 c) ∧ v.cell? ⟨w.heap.size, 3, none⟩ = some (.int .i64 q) ∧ v.cell? ⟨w.heap.size + 1, 1, none⟩ = some (.slice a1 n1 c1)) := fun v hv => by
        have q0 := (Lw0.out wa HB.out).below hv
        have q1 := (Lw1.out wa HB.out).below hv
        exact ⟨q0.cell (i := 0) rfl, q0.cell (i := 1) rfl, q0.cell (i := 2) rfl, q0.cell (i := 3) rfl, q1.cell (i := 1) rfl⟩
      refine wp_region_noPanic (holds_reg1 wa k r c q ix (w.heap.size) (w.heap.size + 1) a1 n1 c1 y1 false _ _ _ _ _ _ _ _ _ _ _ _ _ _ _ _ _ _ _ _ _ _ _ _ _ _ _ _ _ _ _ _ _ _ _ _ _ (fun v hv => KS.out v hv) (fun v hv => HO1.out v (below_then Bw.out (below_then HB.out hv))) _ (fun _ _ _ h => h) (fun wb gwb aowb cawb bowb cbwb hb hat hgt => NoPanic.normal ?_))
      have HB2 : Hid (Below w1.heap.size w1 wb) := below_then HB.out hb
      have HTwb : Hid (At wa wb gwb #[.int .u8 ((y1.kd.toNat : Nat) : Int), .int .i64 y1.ix, .int .i64 y1.ce, .int .i64 y1.st, .slice aowb y1.vn cawb, .slice bowb y1.dn cbwb] 31) := hat
      have HGwb : Hid (Got wa.heap.size wb y1 aowb cawb bowb cbwb) := hgt
      clear hb hgt KS HB
      have HB : Hid (Below w1.heap.size w1 wb) := HB2.out
      clear HB2
      clear hat
      go_wp2_with fail
      clear HTwb HGwb
      rw [rounds_succ]
      go_wp2_with fail
      go_ret
      exact ⟨rfl, below_then Bw.out HB.out⟩
    · rw [f0]
      rw [f1] at HO1
      clear f0 f1
      go_enter Try.func23, Try.ntmps23
      go_wp2_with fail
      refine wp_loop_rounds 3 ?_
      rw [← hw0, ← hw1]
      clear hw0 bw0 zw0 hw1 bw1 zw1
      have HB : Hid (Below w1.heap.size w1 w1) := Below.refl _ _
      rw [rounds_succ]
      go_wp2_with fail
      have KS : Hid (∀ v, Below w1.heap.size w1 v → v.cell? ⟨w.heap.size, 0, none⟩ = some (.int .i64 k) ∧ v.cell? ⟨w.heap.size, 1, none⟩ = some (.int .i64 r) ∧ v.cell? ⟨w.heap.size, 2, none⟩ = some (.int .i64 c) ∧ v.cell? ⟨w.heap.size, 3, none⟩ = some (.int .i64 q) ∧ v.cell? ⟨w.heap.size + 1, 0, none⟩ = some (.slice a0 n0 c0)) := fun v hv => by
        have q0 := (Lw0.out w1 HB.out).below hv
        have q1 := (Lw1.out w1 HB.out).below hv
        exact ⟨q0.cell (i := 0) rfl, q0.cell (i := 1) rfl, q0.cell (i := 2) rfl, q0.cell (i := 3) rfl, q1.cell (i := 0) rfl⟩
      refine wp_region_noPanic (holds_reg0 w1 k r c q ix (w.heap.size) (w.heap.size + 1) a0 n0 c0 y0 true _ _ _ _ _ _ _ _ _ _ _ _ _ _ _ _ _ _ _ _ _ _ _ _ _ _ _ _ _ _ _ _ _ _ _ _ _ (fun v hv => KS.out v hv) (fun v hv => HO0.out v (below_then Bw.out (below_then HB.out hv))) _ (fun _ _ _ h => h) (fun wa gwa aowa cawa bowa cbwa hb hat hgt => NoPanic.normal ?_))
      have HB2 : Hid (Below w1.heap.size w1 wa) := below_then HB.out hb
      have HTwa : Hid (At w1 wa gwa #[.int .u8 ((y0.kd.toNat : Nat) : Int), .int .i64 y0.ix, .int .i64 y0.ce, .int .i64 y0.st, .slice aowa y0.vn cawa, .slice bowa y0.dn cbwa] 31) := hat
      have HGwa : Hid (Got w1.heap.size wa y0 aowa cawa bowa cbwa) := hgt
      clear hb hgt KS HB
      have HB : Hid (Below w1.heap.size w1 wa) := HB2.out
      clear HB2
      have m0 := hat.cell (i := 0) rfl
      have m2 := hat.cell (i := 2) rfl
      clear hat
      go_wp2_with fail
      clear HTwa HGwa m0 m2
      rw [rounds_succ]
      go_wp2_with fail
      have KS : Hid (∀ v, Below wa.heap.size wa v → v.cell? ⟨w.heap.size, 0, none⟩ = some (.int .i64 k) ∧ v.cell? ⟨w.heap.size, 1, none⟩ = some (.int .i64 r) ∧ v.cell? ⟨w.heap.size, 2, none⟩ = some (.int .i64 c) ∧ v.cell? ⟨w.heap.size, 3, none⟩ = some (.int .i64 q) ∧ v.cell? ⟨w.heap.size + 1, 1, none⟩ = some (.slice a1 n1 c1)) := fun v hv => by
        have q0 := (Lw0.out wa HB.out).below hv
        have q1 := (Lw1.out wa HB.out).below hv
        exact ⟨q0.cell (i := 0) rfl, q0.cell (i := 1) rfl, q0.cell (i := 2) rfl, q0.cell (i := 3) rfl, q1.cell (i := 1) rfl⟩
      refine wp_region_noPanic (holds_reg1 wa k r c q ix (w.heap.size) (w.heap.size + 1) a1 n1 c1 y1 true _ _ _ _ _ _ _ _ _ _ _ _ _ _ _ _ _ _ _ _ _ _ _ _ _ _ _ _ _ _ _ _ _ _ _ _ _ (fun v hv => KS.out v hv) (fun v hv => HO1.out v (below_then Bw.out (below_then HB.out hv))) _ (fun _ _ _ h => h) (fun wb gwb aowb cawb bowb cbwb hb hat hgt => NoPanic.normal ?_))
      have HB2 : Hid (Below w1.heap.size w1 wb) := below_then HB.out hb
      have HTwb : Hid (At wa wb gwb #[.int .u8 ((y1.kd.toNat : Nat) : Int), .int .i64 y1.ix, .int .i64 y1.ce, .int .i64 y1.st, .slice aowb y1.vn cawb, .slice bowb y1.dn cbwb] 31) := hat
      have HGwb : Hid (Got wa.heap.size wb y1 aowb cawb bowb cbwb) := hgt
      clear hb hgt KS HB
      have HB : Hid (Below w1.heap.size w1 wb) := HB2.out
      clear HB2
      have m0 := hat.cell (i := 0) rfl
      have m2 := hat.cell (i := 2) rfl
      clear hat
      go_wp2_with fail
      clear HTwb HGwb m0 m2
      rw [rounds_succ]
      go_wp2_with fail
      go_ret
      exact ⟨rfl, below_then Bw.out HB.out⟩
    · rw [f0]
      rw [f1] at HO1
      clear f0 f1
      go_enter Try.func23, Try.ntmps23
      go_wp2_with fail
      refine wp_loop_rounds 3 ?_
      rw [← hw0, ← hw1]
      clear hw0 bw0 zw0 hw1 bw1 zw1
      have HB : Hid (Below w1.heap.size w1 w1) := Below.refl _ _
      rw [rounds_succ]
      go_wp2_with fail
      have KS : Hid (∀ v, Below w1.heap.size w1 v → v.cell? ⟨w.heap.size, 0, none⟩ = some (.int .i64 k) ∧ v.cell? ⟨w.heap.size, 1, none⟩ = some (.int .i64 r) ∧ v.cell? ⟨w.heap.size, 2, none⟩ = some (.int .i64 c) ∧ v.cell? ⟨w.heap.size, 3, none⟩ = some (.int .i64 q) ∧ v.cell? ⟨w.heap.size + 1, 0, none⟩ = some (.slice a0 n0 c0)) := fun v hv => by
        have q0 := (Lw0.out w1 HB.out).below hv
        have q1 := (Lw1.out w1 HB.out).below hv
        exact ⟨q0.cell (i := 0) rfl, q0.cell (i := 1) rfl, q0.cell (i := 2) rfl, q0.cell (i := 3) rfl, q1.cell (i := 0) rfl⟩
      refine wp_region_noPanic (holds_reg0 w1 k r c q ix (w.heap.size) (w.heap.size + 1) a0 n0 c0 y0 true _ _ _ _ _ _ _ _ _ _ _ _ _ _ _ _ _ _ _ _ _ _ _ _ _ _ _ _ _ _ _ _ _ _ _ _ _ (fun v hv => KS.out v hv) (fun v hv => HO0.out v (below_then Bw.out (below_then HB.out hv))) _ (fun _ _ _ h => h) (fun wa gwa aowa cawa bowa cbwa hb hat hgt => NoPanic.normal ?_))
      have HB2 : Hid (Below w1.heap.size w1 wa) := below_then HB.out hb
      have HTwa : Hid (At w1 wa gwa #[.int .u8 ((y0.kd.toNat : Nat) : Int), .int .i64 y0.ix, .int .i64 y0.ce, .int .i64 y0.st, .slice aowa y0.vn cawa, .slice bowa y0.dn cbwa] 31) := hat
      have HGwa : Hid (Got w1.heap.size wa y0 aowa cawa bowa cbwa) := hgt
      clear hb hgt KS HB
      have HB : Hid (Below w1.heap.size w1 wa) := HB2.out
      clear HB2
      have m0 := hat.cell (i := 0) rfl
      have m2 := hat.cell (i := 2) rfl
      clear hat
      go_wp2_with fail
      clear HTwa HGwa m0 m2
      rw [rounds_succ]
      go_wp2_with fail
      have KS : Hid (∀ v, Below wa.heap.size wa v → v.cell? ⟨w.heap.size, 0, none⟩ = some (.int .i64 k) ∧ v.cell? ⟨w.heap.size, 1, none⟩ = some (.int .i64 r) ∧ v.cell? ⟨w.heap.size, 2, none⟩ = some (.int .i64 c) ∧ v.cell? ⟨w.heap.size, 3, none⟩ = some (.int .i64 q) ∧ v.cell? ⟨w.heap.size + 1, 1, none⟩ = some (.slice a1 n1 c1)) := fun v hv => by
        have q0 := (Lw0.out wa HB.out).below hv
        have q1 := (Lw1.out wa HB.out).below hv
        exact ⟨q0.cell (i := 0) rfl, q0.cell (i := 1) rfl, q0.cell (i := 2) rfl, q0.cell (i := 3) rfl, q1.cell (i := 1) rfl⟩
      refine wp_region_noPanic (holds_reg1 wa k r c q ix (w.heap.size) (w.heap.size + 1) a1 n1 c1 y1 true _ _ _ _ _ _ _ _ _ _ _ _ _ _ _ _ _ _ _ _ _ _ _ _ _ _ _ _ _ _ _ _ _ _ _ _ _ (fun v hv => KS.out v hv) (fun v hv => HO1.out v (below_then Bw.out (below_then HB.out hv))) _ (fun _ _ _ h => h) (fun wb gwb aowb cawb bowb cbwb hb hat hgt => NoPanic.normal ?_))
      have HB2 : Hid (Below w1.heap.size w1 wb) := below_then HB.out hb
      have HTwb : Hid (At wa wb gwb #[.int .u8 ((y1.kd.toNat : Nat) : Int), .int .i64 y1.ix, .int .i64 y1.ce, .int .i64 y1.st, .slice aowb y1.vn cawb, .slice bowb y1.dn cbwb] 31) := hat
      have HGwb : Hid (Got wa.heap.size wb y1 aowb cawb bowb cbwb) := hgt
      clear hb hgt KS HB
      have HB : Hid (Below w1.heap.size w1 wb) := HB2.out
      clear HB2
      have m0 := hat.cell (i := 0) rfl
      have m2 := hat.cell (i := 2) rfl
      clear hat
      go_wp2_with fail
      clear HTwb HGwb m0 m2
      rw [rounds_succ]
      go_wp2_with fail
      go_ret
      exact ⟨rfl, below_then Bw.out HB.out⟩
    · rw [f0]
      rw [f1] at HO1
      clear f0 f1
      go_enter Try.func23, Try.ntmps23
      go_wp2_with fail
      refine wp_loop_rounds 3 ?_
      rw [← hw0, ← hw1]
      clear hw0 bw0 zw0 hw1 bw1 zw1
      have HB : Hid (Below w1.heap.size w1 w1) := Below.refl _ _
      rw [rounds_succ]
      go_wp2_with fail
      have KS : Hid (∀ v, Below w1.heap.size w1 v → v.cell? ⟨w.heap.size, 0, none⟩ = some (.int .i64 k) ∧ v.cell? ⟨w.heap.size, 1, none⟩ = some (.int .i64 r) ∧ v.cell? ⟨w.heap.size, 2, none⟩ = some (.int .i64 c) ∧ v.cell? ⟨w.heap.size, 3, none⟩ = some (.int .i64 q) ∧ v.cell? ⟨w.heap.size + 1, 0, none⟩ = some (.slice a0 n0 c0)) := fun v hv => by
        have q0 := (Lw0.out w1 HB.out).below hv
        have q1 := (Lw1.out w1 HB.out).below hv
        exact ⟨q0.cell (i := 0) rfl, q0.cell (i := 1) rfl, q0.cell (i := 2) rfl, q0.cell (i := 3) rfl, q1.cell (i := 0) rfl⟩
      refine wp_region_noPanic (holds_reg0 w1 k r c q ix (w.heap.size) (w.heap.size + 1) a0 n0 c0 y0 true _ _ _ _ _ _ _ _ _ _ _ _ _ _ _ _ _ _ _ _ _ _ _ _ _ _ _ _ _ _ _ _ _ _ _ _ _ (fun v hv => KS.out v hv) (fun v hv => HO0.out v (below_then Bw.out (below_then HB.out hv))) _ (fun _ _ _ h => h) (fun wa gwa aowa cawa bowa cbwa hb hat hgt => NoPanic.normal ?_))
      have HB2 : Hid (Below w1.heap.size w1 wa) := below_then HB.out hb
      have HTwa : Hid (At w1 wa gwa #[.int .u8 ((y0.kd.toNat : Nat) : Int), .int .i64 y0.ix, .int .i64 y0.ce, .int .i64 y0.st, .slice aowa y0.vn cawa, .slice bowa y0.dn cbwa] 31) := hat
      have HGwa : Hid (Got w1.heap.size wa y0 aowa cawa bowa cbwa) := hgt
      clear hb hgt KS HB
      have HB : Hid (Below w1.heap.size w1 wa) := HB2.out
      clear HB2
      have m0 := hat.cell (i := 0) rfl
      have m2 := hat.cell (i := 2) rfl
      clear hat
      go_wp2_with fail
      clear HTwa HGwa m0 m2
      rw [rounds_succ]
      go_wp2_with fail
      have KS : Hid (∀ v, Below wa.heap.size wa v → v.cell? ⟨w.heap.size, 0, none⟩ = some (.int .i64 k) ∧ v.cell? ⟨w.heap.size, 1, none⟩ = some (.int .i64 r) ∧ v.cell? ⟨w.heap.size, 2, none⟩ = some (.int .i64 c) ∧ v.cell? ⟨w.heap.size, 3, none⟩ = some (.int .i64 q) ∧ v.cell? ⟨w.heap.size + 1, 1, none⟩ = some (.slice a1 n1 c1)) := fun v hv => by
        have q0 := (Lw0.out wa HB.out).below hv
        have q1 := (Lw1.out wa HB.out).below hv
        exact ⟨q0.cell (i := 0) rfl, q0.cell (i := 1) rfl, q0.cell (i := 2) rfl, q0.cell (i := 3) rfl, q1.cell (i := 1) rfl⟩
      refine wp_region_noPanic (holds_reg1 wa k r c q ix (w.heap.size) (w.heap.size + 1) a1 n1 c1 y1 true _ _ _ _ _ _ _ _ _ _ _ _ _ _ _ _ _ _ _ _ _ _ _ _ _ _ _ _ _ _ _ _ _ _ _ _ _ (fun v hv => KS.out v hv) (fun v hv => HO1.out v (below_then Bw.out (below_then HB.out hv))) _ (fun _ _ _ h => h) (fun wb gwb aowb cawb bowb cbwb hb hat hgt => NoPanic.normal ?_))
      have HB2 : Hid (Below w1.heap.size w1 wb) := below_then HB.out hb
      have HTwb : Hid (At wa wb gwb #[.int .u8 ((y1.kd.toNat : Nat) : Int), .int .i64 y1.ix, .int .i64 y1.ce, .int .i64 y1.st, .slice aowb y1.vn cawb, .slice bowb y1.dn cbwb] 31) := hat
      have HGwb : Hid (Got wa.heap.size wb y1 aowb cawb bowb cbwb) := hgt
      clear hb hgt KS HB
      have HB : Hid (Below w1.heap.size w1 wb) := HB2.out
      clear HB2
      have m0 := hat.cell (i := 0) rfl
      have m2 := hat.cell (i := 2) rfl
      clear hat
      go_wp2_with fail
      clear HTwb HGwb m0 m2
      go_ret
      exact ⟨rfl, below_then Bw.out HB.out⟩
  · rw [e0]
    rw [e1] at HO0
    clear e0 e1
    go_enter Try.func23, Try.ntmps23
    go_wp2_with fail
    refine wp_loop_rounds 3 ?_
    rw [← hw0, ← hw1]
    clear hw0 bw0 zw0 hw1 bw1 zw1
    have HB : Hid (Below w1.heap.size w1 w1) := Below.refl _ _
    rw [rounds_succ]
    go_wp2_with fail
    have KS : Hid (∀ v, Below w1.heap.size w1 v → v.cell? ⟨w.heap.size, 0, none⟩ = some (.int .i64 k) ∧ v.cell? ⟨w.heap.size, 1, none⟩ = some (.int .i64 r) ∧ v.cell? ⟨w.heap.size, 2, none⟩ = some (.int .i64 c) ∧ v.cell? ⟨w.heap.size, 3, none⟩ = some (.int .i64 q) ∧ v.cell? ⟨w.heap.size + 1, 0, none⟩ = some (.slice a0 n0 c0)) := fun v hv => by
      have q0 := (Lw0.out w1 HB.out).below hv
      have q1 := (Lw1.out w1 HB.out).below hv
      exact ⟨q0.cell (i := 0) rfl, q0.cell (i := 1) rfl, q0.cell (i := 2) rfl, q0.cell (i := 3) rfl, q1.cell (i := 0) rfl⟩
    refine wp_region_noPanic (holds_reg0 w1 k r c q ix (w.heap.size) (w.heap.size + 1) a0 n0 c0 y0 true _ _ _ _ _ _ _ _ _ _ _ _ _ _ _ _ _ _ _ _ _ _ _ _ _ _ _ _ _ _ _ _ _ _ _ _ _ (fun v hv => KS.out v hv) (fun v hv => HO0.out v (below_then Bw.out (below_then HB.out hv))) _ (fun _ _ _ h => h) (fun wa gwa aowa cawa bowa cbwa hb hat hgt => NoPanic.normal ?_))
    have HB2 : Hid (Below w1.heap.size w1 wa) := below_then HB.out hb
    have HTwa : Hid (At w1 wa gwa #[.int .u8 ((y0.kd.toNat : Nat) : Int), .int .i64 y0.ix, .int .i64 y0.ce, .int .i64 y0.st, .slice aowa y0.vn cawa, .slice bowa y0.dn cbwa] 31) := hat
    have HGwa : Hid (Got w1.heap.size wa y0 aowa cawa bowa cbwa) := hgt
    clear hb hgt KS HB
    have HB : Hid (Below w1.heap.size w1 wa) := HB2.out
    clear HB2
    have m0 := hat.cell (i := 0) rfl
    have m2 := hat.cell (i := 2) rfl
    clear hat
    go_wp2_with fail
    clear HTwa HGwa m0 m2
    go_ret
    exact ⟨rfl, below_then Bw.out HB.out⟩
end Go.Proofs.Ytmdeadakbohpeaa
