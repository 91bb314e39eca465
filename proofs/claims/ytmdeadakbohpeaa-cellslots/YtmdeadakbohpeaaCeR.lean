/- The document's answer: what Find tells. -/
import Derived.Test.YtmdeadakbohpeaaCeQ
namespace Go.Proofs.Ytmdeadakbohpeaa
open Go.RowKit


def fops : Array Oper := #[{ dst := some 44, op := Op.load 23 (Operand.tmp 5), type := 23, pos := "ref.go:72", after := #[], guard := none }, { dst := some 45, op := Op.move (Operand.tmp 15), type := 3, pos := "ref.go:72", after := #[], guard := none }, { dst := some 46, op := Op.indexAddr 26 (Operand.tmp 6) (Operand.tmp 45), type := 0, pos := "ref.go:72", after := #[{ on := 1, ground := Ground.data }], guard := none }, { dst := some 47, op := Op.load 24 (Operand.tmp 46), type := 24, pos := "ref.go:72", after := #[{ on := 2, ground := Ground.data }], guard := none }, { dst := some 48, op := Op.move (Operand.tmp 3), type := 3, pos := "ref.go:72", after := #[], guard := none }, { dst := some 49, op := Op.call { callee := Callee.value (Operand.func 24), args := #[Operand.tmp 44, Operand.tmp 47, Operand.tmp 48], argTypes := #[23, 24, 3] }, type := 57, pos := "ref.go:72", after := #[{ on := 0, ground := Ground.data }, { on := 3, ground := Ground.data }, { on := 4, ground := Ground.data }], guard := none }, { dst := some 43, op := Op.move (Operand.tmp 49), type := 57, pos := "ref.go:72", after := #[{ on := 5, ground := Ground.data }], guard := none }, { dst := some 50, op := Op.extract (Operand.tmp 43) 0, type := 31, pos := "ref.go:72", after := #[{ on := 6, ground := Ground.data }], guard := none }, { dst := some 51, op := Op.extract (Operand.tmp 43) 1, type := 4, pos := "ref.go:72", after := #[{ on := 6, ground := Ground.data }, { on := 10, ground := Ground.gcOnly Departure.lateStores }], guard := none }, { dst := some 16, op := Op.alloc 31, type := 0, pos := "ref.go:72", after := #[], guard := none }, { dst := none, op := Op.store 31 (Operand.tmp 16) (Operand.tmp 50), type := 0, pos := "ref.go:72", after := #[{ on := 9, ground := Ground.data }, { on := 7, ground := Ground.data }, { on := 5, ground := Ground.chain }, { on := 0, ground := Ground.phase }, { on := 1, ground := Ground.phase }, { on := 2, ground := Ground.phase }, { on := 3, ground := Ground.phase }, { on := 4, ground := Ground.phase }, { on := 5, ground := Ground.phase }, { on := 6, ground := Ground.phase }, { on := 7, ground := Ground.phase }, { on := 8, ground := Ground.textOnly Departure.lateStores }, { on := 9, ground := Ground.phase }], guard := none }, { dst := some 17, op := Op.assign (Operand.tmp 51), type := 4, pos := "ref.go:72", after := #[{ on := 8, ground := Ground.data }, { on := 10, ground := Ground.chain }, { on := 0, ground := Ground.phase }, { on := 1, ground := Ground.phase }, { on := 2, ground := Ground.phase }, { on := 3, ground := Ground.phase }, { on := 4, ground := Ground.phase }, { on := 5, ground := Ground.phase }, { on := 6, ground := Ground.phase }, { on := 7, ground := Ground.phase }, { on := 8, ground := Ground.phase }, { on := 9, ground := Ground.phase }, { on := 10, ground := Ground.phase }], guard := none }]
set_option maxHeartbeats 8000000 in
set_option maxRecDepth 100000 in
theorem find_reg0 (w1 : World) (k r c q ix : Int) (g0 g1 : Nat) (a0 : Option Addr) (n0 c0 : Nat) (y : Sl) (b : Bool) (x0 x1 x2 x4 x7 x8 x9 x10 x11 x12 x13 x14 x16 x17 x18 x19 x20 x21 x22 x23 x24 x25 x26 x27 x28 x29 x30 x31 x32 x33 x34 x35 x36 x37 x38 x39 x40 x41 x42 x43 x44 x45 x46 x47 x48 x49 x50 x51 x52 x53 : Value)
    (hS : ∀ v, Below w1.heap.size w1 v → (v.cell? ⟨g0, 0, none⟩ = some (.int .i64 k) ∧ v.cell? ⟨g0, 1, none⟩ = some (.int .i64 r) ∧ v.cell? ⟨g0, 2, none⟩ = some (.int .i64 c) ∧ v.cell? ⟨g0, 3, none⟩ = some (.int .i64 q) ∧ v.cell? ⟨g1, 0, none⟩ = some (.slice a0 n0 c0)))
    (P1 : ∀ v, Below w1.heap.size w1 v → Calls Try.prog 24 #[.agg #[.int .i64 k, .int .i64 r, .int .i64 c, .int .i64 q], .slice a0 n0 c0, .int .i64 ix] v fun e w' => ∃ ao ca bo cb, e = .returned (.tuple #[.agg #[.int .u8 ((y.kd.toNat : Nat) : Int), .int .i64 y.ix, .int .i64 y.ce, .int .i64 y.st, .slice ao y.vn ca, .slice bo y.dn cb], .bool b]) ∧ Got v.heap.size w' y ao ca bo cb ∧ Below v.heap.size v w')
    (Q : Exit → Act → World → Prop) (hQp : ∀ ch a v, Q (.panic ch) a v → False) (hQ : ∀ v g ao ca bo cb, Below w1.heap.size w1 v → At w1 v g #[.int .u8 ((y.kd.toNat : Nat) : Int), .int .i64 y.ix, .int .i64 y.ce, .int .i64 y.st, .slice ao y.vn ca, .slice bo y.dn cb] 31 → Got w1.heap.size v y ao ca bo cb → Q .normal { tmps := #[x0, x1, x2, .int .i64 ix, x4, .pointer (some ⟨g0, 0, none⟩), .pointer (some ⟨g1, 0, none⟩), x7, x8, x9, x10, x11, x12, x13, x14, .int .i64 0, .pointer (some ⟨g, 0, none⟩), .bool b, x18, x19, x20, x21, x22, x23, x24, x25, x26, x27, x28, x29, x30, x31, x32, x33, x34, x35, x36, x37, x38, x39, x40, x41, x42, .tuple #[.agg #[.int .u8 ((y.kd.toNat : Nat) : Int), .int .i64 y.ix, .int .i64 y.ce, .int .i64 y.st, .slice ao y.vn ca, .slice bo y.dn cb], .bool b], .agg #[.int .i64 k, .int .i64 r, .int .i64 c, .int .i64 q], .int .i64 0, .pointer (some ⟨g1, 0, none⟩), .slice a0 n0 c0, .int .i64 ix, .tuple #[.agg #[.int .u8 ((y.kd.toNat : Nat) : Int), .int .i64 y.ix, .int .i64 y.ce, .int .i64 y.st, .slice ao y.vn ca, .slice bo y.dn cb], .bool b], .agg #[.int .u8 ((y.kd.toNat : Nat) : Int), .int .i64 y.ix, .int .i64 y.ce, .int .i64 y.st, .slice ao y.vn ca, .slice bo y.dn cb], .bool b, x52, x53], defers := [] } v) :
    Code.wp Try.prog (Code.region 9 fops true) Q { tmps := #[x0, x1, x2, .int .i64 ix, x4, .pointer (some ⟨g0, 0, none⟩), .pointer (some ⟨g1, 0, none⟩), x7, x8, x9, x10, x11, x12, x13, x14, .int .i64 0, x16, x17, x18, x19, x20, x21, x22, x23, x24, x25, x26, x27, x28, x29, x30, x31, x32, x33, x34, x35, x36, x37, x38, x39, x40, x41, x42, x43, x44, x45, x46, x47, x48, x49, x50, x51, x52, x53], defers := [] } w1 := by
  have HQ : Hid (∀ v g ao ca bo cb, Below w1.heap.size w1 v → At w1 v g #[.int .u8 ((y.kd.toNat : Nat) : Int), .int .i64 y.ix, .int .i64 y.ce, .int .i64 y.st, .slice ao y.vn ca, .slice bo y.dn cb] 31 → Got w1.heap.size v y ao ca bo cb → Q .normal { tmps := #[x0, x1, x2, .int .i64 ix, x4, .pointer (some ⟨g0, 0, none⟩), .pointer (some ⟨g1, 0, none⟩), x7, x8, x9, x10, x11, x12, x13, x14, .int .i64 0, .pointer (some ⟨g, 0, none⟩), .bool b, x18, x19, x20, x21, x22, x23, x24, x25, x26, x27, x28, x29, x30, x31, x32, x33, x34, x35, x36, x37, x38, x39, x40, x41, x42, .tuple #[.agg #[.int .u8 ((y.kd.toNat : Nat) : Int), .int .i64 y.ix, .int .i64 y.ce, .int .i64 y.st, .slice ao y.vn ca, .slice bo y.dn cb], .bool b], .agg #[.int .i64 k, .int .i64 r, .int .i64 c, .int .i64 q], .int .i64 0, .pointer (some ⟨g1, 0, none⟩), .slice a0 n0 c0, .int .i64 ix, .tuple #[.agg #[.int .u8 ((y.kd.toNat : Nat) : Int), .int .i64 y.ix, .int .i64 y.ce, .int .i64 y.st, .slice ao y.vn ca, .slice bo y.dn cb], .bool b], .agg #[.int .u8 ((y.kd.toNat : Nat) : Int), .int .i64 y.ix, .int .i64 y.ce, .int .i64 y.st, .slice ao y.vn ca, .slice bo y.dn cb], .bool b, x52, x53], defers := [] } v) := hQ
  obtain ⟨S, HS1, HS⟩ : ∃ S : World → Prop, Hid (∀ v, S v → (v.cell? ⟨g0, 0, none⟩ = some (.int .i64 k) ∧ v.cell? ⟨g0, 1, none⟩ = some (.int .i64 r) ∧ v.cell? ⟨g0, 2, none⟩ = some (.int .i64 c) ∧ v.cell? ⟨g0, 3, none⟩ = some (.int .i64 q) ∧ v.cell? ⟨g1, 0, none⟩ = some (.slice a0 n0 c0))) ∧ Hid (∀ v, Below w1.heap.size w1 v → S v) := ⟨fun v => v.cell? ⟨g0, 0, none⟩ = some (.int .i64 k) ∧ v.cell? ⟨g0, 1, none⟩ = some (.int .i64 r) ∧ v.cell? ⟨g0, 2, none⟩ = some (.int .i64 c) ∧ v.cell? ⟨g0, 3, none⟩ = some (.int .i64 q) ∧ v.cell? ⟨g1, 0, none⟩ = some (.slice a0 n0 c0), fun v h => h, hS⟩
  have HP1 : Hid (∀ v, Below w1.heap.size w1 v → Calls Try.prog 24 #[.agg #[.int .i64 k, .int .i64 r, .int .i64 c, .int .i64 q], .slice a0 n0 c0, .int .i64 ix] v fun e w' => ∃ ao ca bo cb, e = .returned (.tuple #[.agg #[.int .u8 ((y.kd.toNat : Nat) : Int), .int .i64 y.ix, .int .i64 y.ce, .int .i64 y.st, .slice ao y.vn ca, .slice bo y.dn cb], .bool b]) ∧ Got v.heap.size w' y ao ca bo cb ∧ Below v.heap.size v w') := P1
  clear hS hQ P1
  have H11 : Hid (∀ (v : World) (ao : Option Addr) (ca : Nat) (bo : Option Addr) (cb : Nat) (g : Nat), Below w1.heap.size w1 v → Got w1.heap.size v y ao ca bo cb → At w1 v g #[.int .u8 0, .int .i64 0, .int .i64 0, .int .i64 0, .slice none 0 0, .slice none 0 0] 31 → wpAnyH Try.prog .any fops Q S 2 #[true, true, true, true, true, true, true, true, true, true, false, false] { tmps := #[x0, x1, x2, .int .i64 ix, x4, .pointer (some ⟨g0, 0, none⟩), .pointer (some ⟨g1, 0, none⟩), x7, x8, x9, x10, x11, x12, x13, x14, .int .i64 0, .pointer (some ⟨g, 0, none⟩), x17, x18, x19, x20, x21, x22, x23, x24, x25, x26, x27, x28, x29, x30, x31, x32, x33, x34, x35, x36, x37, x38, x39, x40, x41, x42, .tuple #[.agg #[.int .u8 ((y.kd.toNat : Nat) : Int), .int .i64 y.ix, .int .i64 y.ce, .int .i64 y.st, .slice ao y.vn ca, .slice bo y.dn cb], .bool b], .agg #[.int .i64 k, .int .i64 r, .int .i64 c, .int .i64 q], .int .i64 0, .pointer (some ⟨g1, 0, none⟩), .slice a0 n0 c0, .int .i64 ix, .tuple #[.agg #[.int .u8 ((y.kd.toNat : Nat) : Int), .int .i64 y.ix, .int .i64 y.ce, .int .i64 y.st, .slice ao y.vn ca, .slice bo y.dn cb], .bool b], .agg #[.int .u8 ((y.kd.toNat : Nat) : Int), .int .i64 y.ix, .int .i64 y.ce, .int .i64 y.st, .slice ao y.vn ca, .slice bo y.dn cb], .bool b, x52, x53], defers := [] } v) := fun v ao ca bo cb g hb hg f3 => by
    have c0 := f3.cell (i := 0) rfl
    have c1 := f3.cell (i := 1) rfl
    have c2 := f3.cell (i := 2) rfl
    have c3 := f3.cell (i := 3) rfl
    have c4 := f3.cell (i := 4) rfl
    have c5 := f3.cell (i := 5) rfl
    have cf := f3.free
    have hbb := b_lo hb f3.1 (.int .u8 ((y.kd.toNat : Nat) : Int)) (.int .i64 y.ix) (.int .i64 y.ce) (.int .i64 y.st) (.slice ao y.vn ca) (.slice bo y.dn cb)
    have ho := only_lo v g (.int .u8 ((y.kd.toNat : Nat) : Int)) (.int .i64 y.ix) (.int .i64 y.ce) (.int .i64 y.st) (.slice ao y.vn ca) (.slice bo y.dn cb)
    have hgg := hg.apart ho f3
    have hat := at_six f3 (.int .u8 ((y.kd.toNat : Nat) : Int)) (.int .i64 y.ix) (.int .i64 y.ce) (.int .i64 y.st) (.slice ao y.vn ca) (.slice bo y.dn cb)
    refine wpAnyH_ready (rs := [10]) (by kernel_rfl) (by simp) ?_
    refine AllReadyH.cons (o := { dst := none, op := Op.store 31 (Operand.tmp 16) (Operand.tmp 50), type := 0, pos := "ref.go:72", after := #[{ on := 9, ground := Ground.data }, { on := 7, ground := Ground.data }, { on := 5, ground := Ground.chain }, { on := 0, ground := Ground.phase }, { on := 1, ground := Ground.phase }, { on := 2, ground := Ground.phase }, { on := 3, ground := Ground.phase }, { on := 4, ground := Ground.phase }, { on := 5, ground := Ground.phase }, { on := 6, ground := Ground.phase }, { on := 7, ground := Ground.phase }, { on := 8, ground := Ground.textOnly Departure.lateStores }, { on := 9, ground := Ground.phase }], guard := none }) rfl (fun K hK => ?_) AllReadyH.nil
    go_simp
    refine hK.out _ _ (HS.out _ hbb) (fun hHeld => ?_)
    refine wpAnyH_take (i := 11) (oi := { dst := some 17, op := Op.assign (Operand.tmp 51), type := 4, pos := "ref.go:72", after := #[{ on := 8, ground := Ground.data }, { on := 10, ground := Ground.chain }, { on := 0, ground := Ground.phase }, { on := 1, ground := Ground.phase }, { on := 2, ground := Ground.phase }, { on := 3, ground := Ground.phase }, { on := 4, ground := Ground.phase }, { on := 5, ground := Ground.phase }, { on := 6, ground := Ground.phase }, { on := 7, ground := Ground.phase }, { on := 8, ground := Ground.phase }, { on := 9, ground := Ground.phase }, { on := 10, ground := Ground.phase }], guard := none }) (v := .bool b) rfl (by kernel_rfl) (by kernel_rfl) (by kernel_rfl) (fun _ _ _ h => (hQp _ _ _ h).elim) (Or.inl ⟨by kernel_rfl, ?_⟩) (HS.out _ hbb) ?_
    · intro w' hSw
      obtain ⟨s0, s1, s2, s3, s4⟩ := HS1.out _ hSw
      go_simp <;> first | with_reducible rfl | assumption
    refine wpAnyH_done (by kernel_rfl) ?_ _
    exact HQ.out _ g ao ca bo cb hbb hat hgg
  have H10 : Hid (∀ (v : World) (ao : Option Addr) (ca : Nat) (bo : Option Addr) (cb : Nat), Below w1.heap.size w1 v → Got w1.heap.size v y ao ca bo cb → wpAnyH Try.prog .any fops Q S 3 #[true, true, true, true, true, true, true, true, true, false, false, false] { tmps := #[x0, x1, x2, .int .i64 ix, x4, .pointer (some ⟨g0, 0, none⟩), .pointer (some ⟨g1, 0, none⟩), x7, x8, x9, x10, x11, x12, x13, x14, .int .i64 0, x16, x17, x18, x19, x20, x21, x22, x23, x24, x25, x26, x27, x28, x29, x30, x31, x32, x33, x34, x35, x36, x37, x38, x39, x40, x41, x42, .tuple #[.agg #[.int .u8 ((y.kd.toNat : Nat) : Int), .int .i64 y.ix, .int .i64 y.ce, .int .i64 y.st, .slice ao y.vn ca, .slice bo y.dn cb], .bool b], .agg #[.int .i64 k, .int .i64 r, .int .i64 c, .int .i64 q], .int .i64 0, .pointer (some ⟨g1, 0, none⟩), .slice a0 n0 c0, .int .i64 ix, .tuple #[.agg #[.int .u8 ((y.kd.toNat : Nat) : Int), .int .i64 y.ix, .int .i64 y.ce, .int .i64 y.st, .slice ao y.vn ca, .slice bo y.dn cb], .bool b], .agg #[.int .u8 ((y.kd.toNat : Nat) : Int), .int .i64 y.ix, .int .i64 y.ce, .int .i64 y.st, .slice ao y.vn ca, .slice bo y.dn cb], .bool b, x52, x53], defers := [] } v) := fun v ao ca bo cb hb hg => by
    refine wpAnyH_ready (rs := [9]) (by kernel_rfl) (by simp) ?_
    refine AllReadyH.cons (o := { dst := some 16, op := Op.alloc 31, type := 0, pos := "ref.go:72", after := #[], guard := none }) rfl (fun K hK => ?_) AllReadyH.nil
    go_simp
    refine hK.out _ _ (HS.out _ (b_alloc hb _)) (fun hHeld => ?_)
    exact H11.out _ ao ca bo cb _ (b_alloc hb _) (hg.below (below_alloc _ _)) (at_new hb _ _)
  have H01 : Hid (∀ (v : World) (g : Nat), Below w1.heap.size w1 v → At w1 v g #[.int .u8 0, .int .i64 0, .int .i64 0, .int .i64 0, .slice none 0 0, .slice none 0 0] 31 → wpAnyH Try.prog .any fops Q S 6 #[true, true, true, true, true, false, false, false, false, true, false, false] { tmps := #[x0, x1, x2, .int .i64 ix, x4, .pointer (some ⟨g0, 0, none⟩), .pointer (some ⟨g1, 0, none⟩), x7, x8, x9, x10, x11, x12, x13, x14, .int .i64 0, .pointer (some ⟨g, 0, none⟩), x17, x18, x19, x20, x21, x22, x23, x24, x25, x26, x27, x28, x29, x30, x31, x32, x33, x34, x35, x36, x37, x38, x39, x40, x41, x42, x43, .agg #[.int .i64 k, .int .i64 r, .int .i64 c, .int .i64 q], .int .i64 0, .pointer (some ⟨g1, 0, none⟩), .slice a0 n0 c0, .int .i64 ix, x49, x50, x51, x52, x53], defers := [] } v) := fun v g hb f3 => by
    refine wpAnyH_ready (rs := [5]) (by kernel_rfl) (by simp) ?_
    refine AllReadyH.cons (o := { dst := some 49, op := Op.call { callee := Callee.value (Operand.func 24), args := #[Operand.tmp 44, Operand.tmp 47, Operand.tmp 48], argTypes := #[23, 24, 3] }, type := 57, pos := "ref.go:72", after := #[{ on := 0, ground := Ground.data }, { on := 3, ground := Ground.data }, { on := 4, ground := Ground.data }], guard := none }) rfl (fun K hK => ?_) AllReadyH.nil
    go_simp
    refine (HP1.out _ hb).mono ?_
    rintro e w' ⟨ao, ca, bo, cb, rfl, hg, hw'⟩
    have hb' := below_then hb hw'
    have hg' := hg.mono hb.size
    refine hK.out _ _ (HS.out _ hb') (fun hHeld => ?_)
    refine wpAnyH_take (i := 6) (oi := { dst := some 43, op := Op.move (Operand.tmp 49), type := 57, pos := "ref.go:72", after := #[{ on := 5, ground := Ground.data }], guard := none }) (v := .tuple #[.agg #[.int .u8 ((y.kd.toNat : Nat) : Int), .int .i64 y.ix, .int .i64 y.ce, .int .i64 y.st, .slice ao y.vn ca, .slice bo y.dn cb], .bool b]) rfl (by kernel_rfl) (by kernel_rfl) (by kernel_rfl) (fun _ _ _ h => (hQp _ _ _ h).elim) (Or.inl ⟨by kernel_rfl, ?_⟩) (HS.out _ hb') ?_
    · intro w' hSw
      obtain ⟨s0, s1, s2, s3, s4⟩ := HS1.out _ hSw
      go_simp <;> first | with_reducible rfl | assumption
    show wpAnyH Try.prog .any fops Q S 4 #[true, true, true, true, true, true, true, false, false, true, false, false] { tmps := #[x0, x1, x2, .int .i64 ix, x4, .pointer (some ⟨g0, 0, none⟩), .pointer (some ⟨g1, 0, none⟩), x7, x8, x9, x10, x11, x12, x13, x14, .int .i64 0, .pointer (some ⟨g, 0, none⟩), x17, x18, x19, x20, x21, x22, x23, x24, x25, x26, x27, x28, x29, x30, x31, x32, x33, x34, x35, x36, x37, x38, x39, x40, x41, x42, .tuple #[.agg #[.int .u8 ((y.kd.toNat : Nat) : Int), .int .i64 y.ix, .int .i64 y.ce, .int .i64 y.st, .slice ao y.vn ca, .slice bo y.dn cb], .bool b], .agg #[.int .i64 k, .int .i64 r, .int .i64 c, .int .i64 q], .int .i64 0, .pointer (some ⟨g1, 0, none⟩), .slice a0 n0 c0, .int .i64 ix, .tuple #[.agg #[.int .u8 ((y.kd.toNat : Nat) : Int), .int .i64 y.ix, .int .i64 y.ce, .int .i64 y.st, .slice ao y.vn ca, .slice bo y.dn cb], .bool b], x50, x51, x52, x53], defers := [] } w'
    refine wpAnyH_take (i := 7) (oi := { dst := some 50, op := Op.extract (Operand.tmp 43) 0, type := 31, pos := "ref.go:72", after := #[{ on := 6, ground := Ground.data }], guard := none }) (v := .agg #[.int .u8 ((y.kd.toNat : Nat) : Int), .int .i64 y.ix, .int .i64 y.ce, .int .i64 y.st, .slice ao y.vn ca, .slice bo y.dn cb]) rfl (by kernel_rfl) (by kernel_rfl) (by kernel_rfl) (fun _ _ _ h => (hQp _ _ _ h).elim) (Or.inl ⟨by kernel_rfl, ?_⟩) (HS.out _ hb') ?_
    · intro w' hSw
      obtain ⟨s0, s1, s2, s3, s4⟩ := HS1.out _ hSw
      go_simp <;> first | with_reducible rfl | assumption
    show wpAnyH Try.prog .any fops Q S 3 #[true, true, true, true, true, true, true, true, false, true, false, false] { tmps := #[x0, x1, x2, .int .i64 ix, x4, .pointer (some ⟨g0, 0, none⟩), .pointer (some ⟨g1, 0, none⟩), x7, x8, x9, x10, x11, x12, x13, x14, .int .i64 0, .pointer (some ⟨g, 0, none⟩), x17, x18, x19, x20, x21, x22, x23, x24, x25, x26, x27, x28, x29, x30, x31, x32, x33, x34, x35, x36, x37, x38, x39, x40, x41, x42, .tuple #[.agg #[.int .u8 ((y.kd.toNat : Nat) : Int), .int .i64 y.ix, .int .i64 y.ce, .int .i64 y.st, .slice ao y.vn ca, .slice bo y.dn cb], .bool b], .agg #[.int .i64 k, .int .i64 r, .int .i64 c, .int .i64 q], .int .i64 0, .pointer (some ⟨g1, 0, none⟩), .slice a0 n0 c0, .int .i64 ix, .tuple #[.agg #[.int .u8 ((y.kd.toNat : Nat) : Int), .int .i64 y.ix, .int .i64 y.ce, .int .i64 y.st, .slice ao y.vn ca, .slice bo y.dn cb], .bool b], .agg #[.int .u8 ((y.kd.toNat : Nat) : Int), .int .i64 y.ix, .int .i64 y.ce, .int .i64 y.st, .slice ao y.vn ca, .slice bo y.dn cb], x51, x52, x53], defers := [] } w'
    refine wpAnyH_take (i := 8) (oi := { dst := some 51, op := Op.extract (Operand.tmp 43) 1, type := 4, pos := "ref.go:72", after := #[{ on := 6, ground := Ground.data }, { on := 10, ground := Ground.gcOnly Departure.lateStores }], guard := none }) (v := .bool b) rfl (by kernel_rfl) (by kernel_rfl) (by kernel_rfl) (fun _ _ _ h => (hQp _ _ _ h).elim) (Or.inl ⟨by kernel_rfl, ?_⟩) (HS.out _ hb') ?_
    · intro w' hSw
      obtain ⟨s0, s1, s2, s3, s4⟩ := HS1.out _ hSw
      go_simp <;> first | with_reducible rfl | assumption
    show wpAnyH Try.prog .any fops Q S 2 #[true, true, true, true, true, true, true, true, true, true, false, false] { tmps := #[x0, x1, x2, .int .i64 ix, x4, .pointer (some ⟨g0, 0, none⟩), .pointer (some ⟨g1, 0, none⟩), x7, x8, x9, x10, x11, x12, x13, x14, .int .i64 0, .pointer (some ⟨g, 0, none⟩), x17, x18, x19, x20, x21, x22, x23, x24, x25, x26, x27, x28, x29, x30, x31, x32, x33, x34, x35, x36, x37, x38, x39, x40, x41, x42, .tuple #[.agg #[.int .u8 ((y.kd.toNat : Nat) : Int), .int .i64 y.ix, .int .i64 y.ce, .int .i64 y.st, .slice ao y.vn ca, .slice bo y.dn cb], .bool b], .agg #[.int .i64 k, .int .i64 r, .int .i64 c, .int .i64 q], .int .i64 0, .pointer (some ⟨g1, 0, none⟩), .slice a0 n0 c0, .int .i64 ix, .tuple #[.agg #[.int .u8 ((y.kd.toNat : Nat) : Int), .int .i64 y.ix, .int .i64 y.ce, .int .i64 y.st, .slice ao y.vn ca, .slice bo y.dn cb], .bool b], .agg #[.int .u8 ((y.kd.toNat : Nat) : Int), .int .i64 y.ix, .int .i64 y.ce, .int .i64 y.st, .slice ao y.vn ca, .slice bo y.dn cb], .bool b, x52, x53], defers := [] } w'
    exact H11.out _ ao ca bo cb g hb' hg' (f3.below hw')
  have H00 : Hid (∀ (v : World), Below w1.heap.size w1 v → wpAnyH Try.prog .any fops Q S 7 #[true, true, true, true, true, false, false, false, false, false, false, false] { tmps := #[x0, x1, x2, .int .i64 ix, x4, .pointer (some ⟨g0, 0, none⟩), .pointer (some ⟨g1, 0, none⟩), x7, x8, x9, x10, x11, x12, x13, x14, .int .i64 0, x16, x17, x18, x19, x20, x21, x22, x23, x24, x25, x26, x27, x28, x29, x30, x31, x32, x33, x34, x35, x36, x37, x38, x39, x40, x41, x42, x43, .agg #[.int .i64 k, .int .i64 r, .int .i64 c, .int .i64 q], .int .i64 0, .pointer (some ⟨g1, 0, none⟩), .slice a0 n0 c0, .int .i64 ix, x49, x50, x51, x52, x53], defers := [] } v) := fun v hb => by
    refine wpAnyH_ready (rs := [5, 9]) (by kernel_rfl) (by simp) ?_
    refine AllReadyH.cons (o := { dst := some 49, op := Op.call { callee := Callee.value (Operand.func 24), args := #[Operand.tmp 44, Operand.tmp 47, Operand.tmp 48], argTypes := #[23, 24, 3] }, type := 57, pos := "ref.go:72", after := #[{ on := 0, ground := Ground.data }, { on := 3, ground := Ground.data }, { on := 4, ground := Ground.data }], guard := none }) rfl (fun K hK => ?_) ?_
    rotate_left
    refine AllReadyH.cons (o := { dst := some 16, op := Op.alloc 31, type := 0, pos := "ref.go:72", after := #[], guard := none }) rfl (fun K hK => ?_) AllReadyH.nil
    rotate_left
    · skip
      go_simp
      refine (HP1.out _ hb).mono ?_
      rintro e w' ⟨ao, ca, bo, cb, rfl, hg, hw'⟩
      have hb' := below_then hb hw'
      have hg' := hg.mono hb.size
      refine hK.out _ _ (HS.out _ hb') (fun hHeld => ?_)
      refine wpAnyH_take (i := 6) (oi := { dst := some 43, op := Op.move (Operand.tmp 49), type := 57, pos := "ref.go:72", after := #[{ on := 5, ground := Ground.data }], guard := none }) (v := .tuple #[.agg #[.int .u8 ((y.kd.toNat : Nat) : Int), .int .i64 y.ix, .int .i64 y.ce, .int .i64 y.st, .slice ao y.vn ca, .slice bo y.dn cb], .bool b]) rfl (by kernel_rfl) (by kernel_rfl) (by kernel_rfl) (fun _ _ _ h => (hQp _ _ _ h).elim) (Or.inl ⟨by kernel_rfl, ?_⟩) (HS.out _ hb') ?_
      · intro w' hSw
        obtain ⟨s0, s1, s2, s3, s4⟩ := HS1.out _ hSw
        go_simp <;> first | with_reducible rfl | assumption
      show wpAnyH Try.prog .any fops Q S 5 #[true, true, true, true, true, true, true, false, false, false, false, false] { tmps := #[x0, x1, x2, .int .i64 ix, x4, .pointer (some ⟨g0, 0, none⟩), .pointer (some ⟨g1, 0, none⟩), x7, x8, x9, x10, x11, x12, x13, x14, .int .i64 0, x16, x17, x18, x19, x20, x21, x22, x23, x24, x25, x26, x27, x28, x29, x30, x31, x32, x33, x34, x35, x36, x37, x38, x39, x40, x41, x42, .tuple #[.agg #[.int .u8 ((y.kd.toNat : Nat) : Int), .int .i64 y.ix, .int .i64 y.ce, .int .i64 y.st, .slice ao y.vn ca, .slice bo y.dn cb], .bool b], .agg #[.int .i64 k, .int .i64 r, .int .i64 c, .int .i64 q], .int .i64 0, .pointer (some ⟨g1, 0, none⟩), .slice a0 n0 c0, .int .i64 ix, .tuple #[.agg #[.int .u8 ((y.kd.toNat : Nat) : Int), .int .i64 y.ix, .int .i64 y.ce, .int .i64 y.st, .slice ao y.vn ca, .slice bo y.dn cb], .bool b], x50, x51, x52, x53], defers := [] } w'
      refine wpAnyH_take (i := 7) (oi := { dst := some 50, op := Op.extract (Operand.tmp 43) 0, type := 31, pos := "ref.go:72", after := #[{ on := 6, ground := Ground.data }], guard := none }) (v := .agg #[.int .u8 ((y.kd.toNat : Nat) : Int), .int .i64 y.ix, .int .i64 y.ce, .int .i64 y.st, .slice ao y.vn ca, .slice bo y.dn cb]) rfl (by kernel_rfl) (by kernel_rfl) (by kernel_rfl) (fun _ _ _ h => (hQp _ _ _ h).elim) (Or.inl ⟨by kernel_rfl, ?_⟩) (HS.out _ hb') ?_
      · intro w' hSw
        obtain ⟨s0, s1, s2, s3, s4⟩ := HS1.out _ hSw
        go_simp <;> first | with_reducible rfl | assumption
      show wpAnyH Try.prog .any fops Q S 4 #[true, true, true, true, true, true, true, true, false, false, false, false] { tmps := #[x0, x1, x2, .int .i64 ix, x4, .pointer (some ⟨g0, 0, none⟩), .pointer (some ⟨g1, 0, none⟩), x7, x8, x9, x10, x11, x12, x13, x14, .int .i64 0, x16, x17, x18, x19, x20, x21, x22, x23, x24, x25, x26, x27, x28, x29, x30, x31, x32, x33, x34, x35, x36, x37, x38, x39, x40, x41, x42, .tuple #[.agg #[.int .u8 ((y.kd.toNat : Nat) : Int), .int .i64 y.ix, .int .i64 y.ce, .int .i64 y.st, .slice ao y.vn ca, .slice bo y.dn cb], .bool b], .agg #[.int .i64 k, .int .i64 r, .int .i64 c, .int .i64 q], .int .i64 0, .pointer (some ⟨g1, 0, none⟩), .slice a0 n0 c0, .int .i64 ix, .tuple #[.agg #[.int .u8 ((y.kd.toNat : Nat) : Int), .int .i64 y.ix, .int .i64 y.ce, .int .i64 y.st, .slice ao y.vn ca, .slice bo y.dn cb], .bool b], .agg #[.int .u8 ((y.kd.toNat : Nat) : Int), .int .i64 y.ix, .int .i64 y.ce, .int .i64 y.st, .slice ao y.vn ca, .slice bo y.dn cb], x51, x52, x53], defers := [] } w'
      refine wpAnyH_take (i := 8) (oi := { dst := some 51, op := Op.extract (Operand.tmp 43) 1, type := 4, pos := "ref.go:72", after := #[{ on := 6, ground := Ground.data }, { on := 10, ground := Ground.gcOnly Departure.lateStores }], guard := none }) (v := .bool b) rfl (by kernel_rfl) (by kernel_rfl) (by kernel_rfl) (fun _ _ _ h => (hQp _ _ _ h).elim) (Or.inl ⟨by kernel_rfl, ?_⟩) (HS.out _ hb') ?_
      · intro w' hSw
        obtain ⟨s0, s1, s2, s3, s4⟩ := HS1.out _ hSw
        go_simp <;> first | with_reducible rfl | assumption
      show wpAnyH Try.prog .any fops Q S 3 #[true, true, true, true, true, true, true, true, true, false, false, false] { tmps := #[x0, x1, x2, .int .i64 ix, x4, .pointer (some ⟨g0, 0, none⟩), .pointer (some ⟨g1, 0, none⟩), x7, x8, x9, x10, x11, x12, x13, x14, .int .i64 0, x16, x17, x18, x19, x20, x21, x22, x23, x24, x25, x26, x27, x28, x29, x30, x31, x32, x33, x34, x35, x36, x37, x38, x39, x40, x41, x42, .tuple #[.agg #[.int .u8 ((y.kd.toNat : Nat) : Int), .int .i64 y.ix, .int .i64 y.ce, .int .i64 y.st, .slice ao y.vn ca, .slice bo y.dn cb], .bool b], .agg #[.int .i64 k, .int .i64 r, .int .i64 c, .int .i64 q], .int .i64 0, .pointer (some ⟨g1, 0, none⟩), .slice a0 n0 c0, .int .i64 ix, .tuple #[.agg #[.int .u8 ((y.kd.toNat : Nat) : Int), .int .i64 y.ix, .int .i64 y.ce, .int .i64 y.st, .slice ao y.vn ca, .slice bo y.dn cb], .bool b], .agg #[.int .u8 ((y.kd.toNat : Nat) : Int), .int .i64 y.ix, .int .i64 y.ce, .int .i64 y.st, .slice ao y.vn ca, .slice bo y.dn cb], .bool b, x52, x53], defers := [] } w'
      exact H10.out _ ao ca bo cb hb' hg'
    · go_simp
      refine hK.out _ _ (HS.out _ (b_alloc hb _)) (fun hHeld => ?_)
      exact H01.out _ _ (b_alloc hb _) (at_new hb _ _)
  refine wp_region_held_drew (S := S) (by kernel_rfl) (HS.out _ (below_drew _ _)) (fun hHeld => ?_)
  have hb : Below w1.heap.size w1 w1.drew := below_drew _ _
  rw [show fops.size = 12 from by kernel_rfl, show Array.replicate 12 false = #[false, false, false, false, false, false, false, false, false, false, false, false] from by kernel_rfl]
  refine wpAnyH_take (i := 0) (oi := { dst := some 44, op := Op.load 23 (Operand.tmp 5), type := 23, pos := "ref.go:72", after := #[], guard := none }) (v := .agg #[.int .i64 k, .int .i64 r, .int .i64 c, .int .i64 q]) rfl (by kernel_rfl) (by kernel_rfl) (by kernel_rfl) (fun _ _ _ h => (hQp _ _ _ h).elim) (Or.inl ⟨by kernel_rfl, ?_⟩) (HS.out _ hb) ?_
  · intro w' hSw
    obtain ⟨s0, s1, s2, s3, s4⟩ := HS1.out _ hSw
    go_simp <;> first | with_reducible rfl | assumption
  show wpAnyH Try.prog .any fops Q S 11 #[true, false, false, false, false, false, false, false, false, false, false, false] { tmps := #[x0, x1, x2, .int .i64 ix, x4, .pointer (some ⟨g0, 0, none⟩), .pointer (some ⟨g1, 0, none⟩), x7, x8, x9, x10, x11, x12, x13, x14, .int .i64 0, x16, x17, x18, x19, x20, x21, x22, x23, x24, x25, x26, x27, x28, x29, x30, x31, x32, x33, x34, x35, x36, x37, x38, x39, x40, x41, x42, x43, .agg #[.int .i64 k, .int .i64 r, .int .i64 c, .int .i64 q], x45, x46, x47, x48, x49, x50, x51, x52, x53], defers := [] } w1.drew
  refine wpAnyH_take (i := 1) (oi := { dst := some 45, op := Op.move (Operand.tmp 15), type := 3, pos := "ref.go:72", after := #[], guard := none }) (v := .int .i64 0) rfl (by kernel_rfl) (by kernel_rfl) (by kernel_rfl) (fun _ _ _ h => (hQp _ _ _ h).elim) (Or.inl ⟨by kernel_rfl, ?_⟩) (HS.out _ hb) ?_
  · intro w' hSw
    obtain ⟨s0, s1, s2, s3, s4⟩ := HS1.out _ hSw
    go_simp <;> first | with_reducible rfl | assumption
  show wpAnyH Try.prog .any fops Q S 10 #[true, true, false, false, false, false, false, false, false, false, false, false] { tmps := #[x0, x1, x2, .int .i64 ix, x4, .pointer (some ⟨g0, 0, none⟩), .pointer (some ⟨g1, 0, none⟩), x7, x8, x9, x10, x11, x12, x13, x14, .int .i64 0, x16, x17, x18, x19, x20, x21, x22, x23, x24, x25, x26, x27, x28, x29, x30, x31, x32, x33, x34, x35, x36, x37, x38, x39, x40, x41, x42, x43, .agg #[.int .i64 k, .int .i64 r, .int .i64 c, .int .i64 q], .int .i64 0, x46, x47, x48, x49, x50, x51, x52, x53], defers := [] } w1.drew
  refine wpAnyH_take (i := 2) (oi := { dst := some 46, op := Op.indexAddr 26 (Operand.tmp 6) (Operand.tmp 45), type := 0, pos := "ref.go:72", after := #[{ on := 1, ground := Ground.data }], guard := none }) (v := .pointer (some ⟨g1, 0, none⟩)) rfl (by kernel_rfl) (by kernel_rfl) (by kernel_rfl) (fun _ _ _ h => (hQp _ _ _ h).elim) (Or.inl ⟨by kernel_rfl, ?_⟩) (HS.out _ hb) ?_
  · intro w' hSw
    obtain ⟨s0, s1, s2, s3, s4⟩ := HS1.out _ hSw
    go_simp <;> first | with_reducible rfl | assumption
  show wpAnyH Try.prog .any fops Q S 9 #[true, true, true, false, false, false, false, false, false, false, false, false] { tmps := #[x0, x1, x2, .int .i64 ix, x4, .pointer (some ⟨g0, 0, none⟩), .pointer (some ⟨g1, 0, none⟩), x7, x8, x9, x10, x11, x12, x13, x14, .int .i64 0, x16, x17, x18, x19, x20, x21, x22, x23, x24, x25, x26, x27, x28, x29, x30, x31, x32, x33, x34, x35, x36, x37, x38, x39, x40, x41, x42, x43, .agg #[.int .i64 k, .int .i64 r, .int .i64 c, .int .i64 q], .int .i64 0, .pointer (some ⟨g1, 0, none⟩), x47, x48, x49, x50, x51, x52, x53], defers := [] } w1.drew
  refine wpAnyH_take (i := 3) (oi := { dst := some 47, op := Op.load 24 (Operand.tmp 46), type := 24, pos := "ref.go:72", after := #[{ on := 2, ground := Ground.data }], guard := none }) (v := .slice a0 n0 c0) rfl (by kernel_rfl) (by kernel_rfl) (by kernel_rfl) (fun _ _ _ h => (hQp _ _ _ h).elim) (Or.inl ⟨by kernel_rfl, ?_⟩) (HS.out _ hb) ?_
  · intro w' hSw
    obtain ⟨s0, s1, s2, s3, s4⟩ := HS1.out _ hSw
    go_simp <;> first | with_reducible rfl | assumption
  show wpAnyH Try.prog .any fops Q S 8 #[true, true, true, true, false, false, false, false, false, false, false, false] { tmps := #[x0, x1, x2, .int .i64 ix, x4, .pointer (some ⟨g0, 0, none⟩), .pointer (some ⟨g1, 0, none⟩), x7, x8, x9, x10, x11, x12, x13, x14, .int .i64 0, x16, x17, x18, x19, x20, x21, x22, x23, x24, x25, x26, x27, x28, x29, x30, x31, x32, x33, x34, x35, x36, x37, x38, x39, x40, x41, x42, x43, .agg #[.int .i64 k, .int .i64 r, .int .i64 c, .int .i64 q], .int .i64 0, .pointer (some ⟨g1, 0, none⟩), .slice a0 n0 c0, x48, x49, x50, x51, x52, x53], defers := [] } w1.drew
  refine wpAnyH_take (i := 4) (oi := { dst := some 48, op := Op.move (Operand.tmp 3), type := 3, pos := "ref.go:72", after := #[], guard := none }) (v := .int .i64 ix) rfl (by kernel_rfl) (by kernel_rfl) (by kernel_rfl) (fun _ _ _ h => (hQp _ _ _ h).elim) (Or.inl ⟨by kernel_rfl, ?_⟩) (HS.out _ hb) ?_
  · intro w' hSw
    obtain ⟨s0, s1, s2, s3, s4⟩ := HS1.out _ hSw
    go_simp <;> first | with_reducible rfl | assumption
  show wpAnyH Try.prog .any fops Q S 7 #[true, true, true, true, true, false, false, false, false, false, false, false] { tmps := #[x0, x1, x2, .int .i64 ix, x4, .pointer (some ⟨g0, 0, none⟩), .pointer (some ⟨g1, 0, none⟩), x7, x8, x9, x10, x11, x12, x13, x14, .int .i64 0, x16, x17, x18, x19, x20, x21, x22, x23, x24, x25, x26, x27, x28, x29, x30, x31, x32, x33, x34, x35, x36, x37, x38, x39, x40, x41, x42, x43, .agg #[.int .i64 k, .int .i64 r, .int .i64 c, .int .i64 q], .int .i64 0, .pointer (some ⟨g1, 0, none⟩), .slice a0 n0 c0, .int .i64 ix, x49, x50, x51, x52, x53], defers := [] } w1.drew
  exact H00.out _ hb
set_option maxHeartbeats 8000000 in
set_option maxRecDepth 100000 in
theorem find_reg1 (w1 : World) (k r c q ix : Int) (g0 g1 : Nat) (a0 : Option Addr) (n0 c0 : Nat) (y : Sl) (b : Bool) (x0 x1 x2 x4 x7 x8 x9 x10 x11 x12 x13 x14 x16 x17 x18 x19 x20 x21 x22 x23 x24 x25 x26 x27 x28 x29 x30 x31 x32 x33 x34 x35 x36 x37 x38 x39 x40 x41 x42 x43 x44 x45 x46 x47 x48 x49 x50 x51 x52 x53 : Value)
    (hS : ∀ v, Below w1.heap.size w1 v → (v.cell? ⟨g0, 0, none⟩ = some (.int .i64 k) ∧ v.cell? ⟨g0, 1, none⟩ = some (.int .i64 r) ∧ v.cell? ⟨g0, 2, none⟩ = some (.int .i64 c) ∧ v.cell? ⟨g0, 3, none⟩ = some (.int .i64 q) ∧ v.cell? ⟨g1, 1, none⟩ = some (.slice a0 n0 c0)))
    (P1 : ∀ v, Below w1.heap.size w1 v → Calls Try.prog 24 #[.agg #[.int .i64 k, .int .i64 r, .int .i64 c, .int .i64 q], .slice a0 n0 c0, .int .i64 ix] v fun e w' => ∃ ao ca bo cb, e = .returned (.tuple #[.agg #[.int .u8 ((y.kd.toNat : Nat) : Int), .int .i64 y.ix, .int .i64 y.ce, .int .i64 y.st, .slice ao y.vn ca, .slice bo y.dn cb], .bool b]) ∧ Got v.heap.size w' y ao ca bo cb ∧ Below v.heap.size v w')
    (Q : Exit → Act → World → Prop) (hQp : ∀ ch a v, Q (.panic ch) a v → False) (hQ : ∀ v g ao ca bo cb, Below w1.heap.size w1 v → At w1 v g #[.int .u8 ((y.kd.toNat : Nat) : Int), .int .i64 y.ix, .int .i64 y.ce, .int .i64 y.st, .slice ao y.vn ca, .slice bo y.dn cb] 31 → Got w1.heap.size v y ao ca bo cb → Q .normal { tmps := #[x0, x1, x2, .int .i64 ix, x4, .pointer (some ⟨g0, 0, none⟩), .pointer (some ⟨g1, 0, none⟩), x7, x8, x9, x10, x11, x12, x13, x14, .int .i64 1, .pointer (some ⟨g, 0, none⟩), .bool b, x18, x19, x20, x21, x22, x23, x24, x25, x26, x27, x28, x29, x30, x31, x32, x33, x34, x35, x36, x37, x38, x39, x40, x41, x42, .tuple #[.agg #[.int .u8 ((y.kd.toNat : Nat) : Int), .int .i64 y.ix, .int .i64 y.ce, .int .i64 y.st, .slice ao y.vn ca, .slice bo y.dn cb], .bool b], .agg #[.int .i64 k, .int .i64 r, .int .i64 c, .int .i64 q], .int .i64 1, .pointer (some ⟨g1, 1, none⟩), .slice a0 n0 c0, .int .i64 ix, .tuple #[.agg #[.int .u8 ((y.kd.toNat : Nat) : Int), .int .i64 y.ix, .int .i64 y.ce, .int .i64 y.st, .slice ao y.vn ca, .slice bo y.dn cb], .bool b], .agg #[.int .u8 ((y.kd.toNat : Nat) : Int), .int .i64 y.ix, .int .i64 y.ce, .int .i64 y.st, .slice ao y.vn ca, .slice bo y.dn cb], .bool b, x52, x53], defers := [] } v) :
    Code.wp Try.prog (Code.region 9 fops true) Q { tmps := #[x0, x1, x2, .int .i64 ix, x4, .pointer (some ⟨g0, 0, none⟩), .pointer (some ⟨g1, 0, none⟩), x7, x8, x9, x10, x11, x12, x13, x14, .int .i64 1, x16, x17, x18, x19, x20, x21, x22, x23, x24, x25, x26, x27, x28, x29, x30, x31, x32, x33, x34, x35, x36, x37, x38, x39, x40, x41, x42, x43, x44, x45, x46, x47, x48, x49, x50, x51, x52, x53], defers := [] } w1 := by
  have HQ : Hid (∀ v g ao ca bo cb, Below w1.heap.size w1 v → At w1 v g #[.int .u8 ((y.kd.toNat : Nat) : Int), .int .i64 y.ix, .int .i64 y.ce, .int .i64 y.st, .slice ao y.vn ca, .slice bo y.dn cb] 31 → Got w1.heap.size v y ao ca bo cb → Q .normal { tmps := #[x0, x1, x2, .int .i64 ix, x4, .pointer (some ⟨g0, 0, none⟩), .pointer (some ⟨g1, 0, none⟩), x7, x8, x9, x10, x11, x12, x13, x14, .int .i64 1, .pointer (some ⟨g, 0, none⟩), .bool b, x18, x19, x20, x21, x22, x23, x24, x25, x26, x27, x28, x29, x30, x31, x32, x33, x34, x35, x36, x37, x38, x39, x40, x41, x42, .tuple #[.agg #[.int .u8 ((y.kd.toNat : Nat) : Int), .int .i64 y.ix, .int .i64 y.ce, .int .i64 y.st, .slice ao y.vn ca, .slice bo y.dn cb], .bool b], .agg #[.int .i64 k, .int .i64 r, .int .i64 c, .int .i64 q], .int .i64 1, .pointer (some ⟨g1, 1, none⟩), .slice a0 n0 c0, .int .i64 ix, .tuple #[.agg #[.int .u8 ((y.kd.toNat : Nat) : Int), .int .i64 y.ix, .int .i64 y.ce, .int .i64 y.st, .slice ao y.vn ca, .slice bo y.dn cb], .bool b], .agg #[.int .u8 ((y.kd.toNat : Nat) : Int), .int .i64 y.ix, .int .i64 y.ce, .int .i64 y.st, .slice ao y.vn ca, .slice bo y.dn cb], .bool b, x52, x53], defers := [] } v) := hQ
  obtain ⟨S, HS1, HS⟩ : ∃ S : World → Prop, Hid (∀ v, S v → (v.cell? ⟨g0, 0, none⟩ = some (.int .i64 k) ∧ v.cell? ⟨g0, 1, none⟩ = some (.int .i64 r) ∧ v.cell? ⟨g0, 2, none⟩ = some (.int .i64 c) ∧ v.cell? ⟨g0, 3, none⟩ = some (.int .i64 q) ∧ v.cell? ⟨g1, 1, none⟩ = some (.slice a0 n0 c0))) ∧ Hid (∀ v, Below w1.heap.size w1 v → S v) := ⟨fun v => v.cell? ⟨g0, 0, none⟩ = some (.int .i64 k) ∧ v.cell? ⟨g0, 1, none⟩ = some (.int .i64 r) ∧ v.cell? ⟨g0, 2, none⟩ = some (.int .i64 c) ∧ v.cell? ⟨g0, 3, none⟩ = some (.int .i64 q) ∧ v.cell? ⟨g1, 1, none⟩ = some (.slice a0 n0 c0), fun v h => h, hS⟩
  have HP1 : Hid (∀ v, Below w1.heap.size w1 v → Calls Try.prog 24 #[.agg #[.int .i64 k, .int .i64 r, .int .i64 c, .int .i64 q], .slice a0 n0 c0, .int .i64 ix] v fun e w' => ∃ ao ca bo cb, e = .returned (.tuple #[.agg #[.int .u8 ((y.kd.toNat : Nat) : Int), .int .i64 y.ix, .int .i64 y.ce, .int .i64 y.st, .slice ao y.vn ca, .slice bo y.dn cb], .bool b]) ∧ Got v.heap.size w' y ao ca bo cb ∧ Below v.heap.size v w') := P1
  clear hS hQ P1
  have H11 : Hid (∀ (v : World) (ao : Option Addr) (ca : Nat) (bo : Option Addr) (cb : Nat) (g : Nat), Below w1.heap.size w1 v → Got w1.heap.size v y ao ca bo cb → At w1 v g #[.int .u8 0, .int .i64 0, .int .i64 0, .int .i64 0, .slice none 0 0, .slice none 0 0] 31 → wpAnyH Try.prog .any fops Q S 2 #[true, true, true, true, true, true, true, true, true, true, false, false] { tmps := #[x0, x1, x2, .int .i64 ix, x4, .pointer (some ⟨g0, 0, none⟩), .pointer (some ⟨g1, 0, none⟩), x7, x8, x9, x10, x11, x12, x13, x14, .int .i64 1, .pointer (some ⟨g, 0, none⟩), x17, x18, x19, x20, x21, x22, x23, x24, x25, x26, x27, x28, x29, x30, x31, x32, x33, x34, x35, x36, x37, x38, x39, x40, x41, x42, .tuple #[.agg #[.int .u8 ((y.kd.toNat : Nat) : Int), .int .i64 y.ix, .int .i64 y.ce, .int .i64 y.st, .slice ao y.vn ca, .slice bo y.dn cb], .bool b], .agg #[.int .i64 k, .int .i64 r, .int .i64 c, .int .i64 q], .int .i64 1, .pointer (some ⟨g1, 1, none⟩), .slice a0 n0 c0, .int .i64 ix, .tuple #[.agg #[.int .u8 ((y.kd.toNat : Nat) : Int), .int .i64 y.ix, .int .i64 y.ce, .int .i64 y.st, .slice ao y.vn ca, .slice bo y.dn cb], .bool b], .agg #[.int .u8 ((y.kd.toNat : Nat) : Int), .int .i64 y.ix, .int .i64 y.ce, .int .i64 y.st, .slice ao y.vn ca, .slice bo y.dn cb], .bool b, x52, x53], defers := [] } v) := fun v ao ca bo cb g hb hg f3 => by
    have c0 := f3.cell (i := 0) rfl
    have c1 := f3.cell (i := 1) rfl
    have c2 := f3.cell (i := 2) rfl
    have c3 := f3.cell (i := 3) rfl
    have c4 := f3.cell (i := 4) rfl
    have c5 := f3.cell (i := 5) rfl
    have cf := f3.free
    have hbb := b_lo hb f3.1 (.int .u8 ((y.kd.toNat : Nat) : Int)) (.int .i64 y.ix) (.int .i64 y.ce) (.int .i64 y.st) (.slice ao y.vn ca) (.slice bo y.dn cb)
    have ho := only_lo v g (.int .u8 ((y.kd.toNat : Nat) : Int)) (.int .i64 y.ix) (.int .i64 y.ce) (.int .i64 y.st) (.slice ao y.vn ca) (.slice bo y.dn cb)
    have hgg := hg.apart ho f3
    have hat := at_six f3 (.int .u8 ((y.kd.toNat : Nat) : Int)) (.int .i64 y.ix) (.int .i64 y.ce) (.int .i64 y.st) (.slice ao y.vn ca) (.slice bo y.dn cb)
    refine wpAnyH_ready (rs := [10]) (by kernel_rfl) (by simp) ?_
    refine AllReadyH.cons (o := { dst := none, op := Op.store 31 (Operand.tmp 16) (Operand.tmp 50), type := 0, pos := "ref.go:72", after := #[{ on := 9, ground := Ground.data }, { on := 7, ground := Ground.data }, { on := 5, ground := Ground.chain }, { on := 0, ground := Ground.phase }, { on := 1, ground := Ground.phase }, { on := 2, ground := Ground.phase }, { on := 3, ground := Ground.phase }, { on := 4, ground := Ground.phase }, { on := 5, ground := Ground.phase }, { on := 6, ground := Ground.phase }, { on := 7, ground := Ground.phase }, { on := 8, ground := Ground.textOnly Departure.lateStores }, { on := 9, ground := Ground.phase }], guard := none }) rfl (fun K hK => ?_) AllReadyH.nil
    go_simp
    refine hK.out _ _ (HS.out _ hbb) (fun hHeld => ?_)
    refine wpAnyH_take (i := 11) (oi := { dst := some 17, op := Op.assign (Operand.tmp 51), type := 4, pos := "ref.go:72", after := #[{ on := 8, ground := Ground.data }, { on := 10, ground := Ground.chain }, { on := 0, ground := Ground.phase }, { on := 1, ground := Ground.phase }, { on := 2, ground := Ground.phase }, { on := 3, ground := Ground.phase }, { on := 4, ground := Ground.phase }, { on := 5, ground := Ground.phase }, { on := 6, ground := Ground.phase }, { on := 7, ground := Ground.phase }, { on := 8, ground := Ground.phase }, { on := 9, ground := Ground.phase }, { on := 10, ground := Ground.phase }], guard := none }) (v := .bool b) rfl (by kernel_rfl) (by kernel_rfl) (by kernel_rfl) (fun _ _ _ h => (hQp _ _ _ h).elim) (Or.inl ⟨by kernel_rfl, ?_⟩) (HS.out _ hbb) ?_
    · intro w' hSw
      obtain ⟨s0, s1, s2, s3, s4⟩ := HS1.out _ hSw
      go_simp <;> first | with_reducible rfl | assumption
    refine wpAnyH_done (by kernel_rfl) ?_ _
    exact HQ.out _ g ao ca bo cb hbb hat hgg
  have H10 : Hid (∀ (v : World) (ao : Option Addr) (ca : Nat) (bo : Option Addr) (cb : Nat), Below w1.heap.size w1 v → Got w1.heap.size v y ao ca bo cb → wpAnyH Try.prog .any fops Q S 3 #[true, true, true, true, true, true, true, true, true, false, false, false] { tmps := #[x0, x1, x2, .int .i64 ix, x4, .pointer (some ⟨g0, 0, none⟩), .pointer (some ⟨g1, 0, none⟩), x7, x8, x9, x10, x11, x12, x13, x14, .int .i64 1, x16, x17, x18, x19, x20, x21, x22, x23, x24, x25, x26, x27, x28, x29, x30, x31, x32, x33, x34, x35, x36, x37, x38, x39, x40, x41, x42, .tuple #[.agg #[.int .u8 ((y.kd.toNat : Nat) : Int), .int .i64 y.ix, .int .i64 y.ce, .int .i64 y.st, .slice ao y.vn ca, .slice bo y.dn cb], .bool b], .agg #[.int .i64 k, .int .i64 r, .int .i64 c, .int .i64 q], .int .i64 1, .pointer (some ⟨g1, 1, none⟩), .slice a0 n0 c0, .int .i64 ix, .tuple #[.agg #[.int .u8 ((y.kd.toNat : Nat) : Int), .int .i64 y.ix, .int .i64 y.ce, .int .i64 y.st, .slice ao y.vn ca, .slice bo y.dn cb], .bool b], .agg #[.int .u8 ((y.kd.toNat : Nat) : Int), .int .i64 y.ix, .int .i64 y.ce, .int .i64 y.st, .slice ao y.vn ca, .slice bo y.dn cb], .bool b, x52, x53], defers := [] } v) := fun v ao ca bo cb hb hg => by
    refine wpAnyH_ready (rs := [9]) (by kernel_rfl) (by simp) ?_
    refine AllReadyH.cons (o := { dst := some 16, op := Op.alloc 31, type := 0, pos := "ref.go:72", after := #[], guard := none }) rfl (fun K hK => ?_) AllReadyH.nil
    go_simp
    refine hK.out _ _ (HS.out _ (b_alloc hb _)) (fun hHeld => ?_)
    exact H11.out _ ao ca bo cb _ (b_alloc hb _) (hg.below (below_alloc _ _)) (at_new hb _ _)
  have H01 : Hid (∀ (v : World) (g : Nat), Below w1.heap.size w1 v → At w1 v g #[.int .u8 0, .int .i64 0, .int .i64 0, .int .i64 0, .slice none 0 0, .slice none 0 0] 31 → wpAnyH Try.prog .any fops Q S 6 #[true, true, true, true, true, false, false, false, false, true, false, false] { tmps := #[x0, x1, x2, .int .i64 ix, x4, .pointer (some ⟨g0, 0, none⟩), .pointer (some ⟨g1, 0, none⟩), x7, x8, x9, x10, x11, x12, x13, x14, .int .i64 1, .pointer (some ⟨g, 0, none⟩), x17, x18, x19, x20, x21, x22, x23, x24, x25, x26, x27, x28, x29, x30, x31, x32, x33, x34, x35, x36, x37, x38, x39, x40, x41, x42, x43, .agg #[.int .i64 k, .int .i64 r, .int .i64 c, .int .i64 q], .int .i64 1, .pointer (some ⟨g1, 1, none⟩), .slice a0 n0 c0, .int .i64 ix, x49, x50, x51, x52, x53], defers := [] } v) := fun v g hb f3 => by
    refine wpAnyH_ready (rs := [5]) (by kernel_rfl) (by simp) ?_
    refine AllReadyH.cons (o := { dst := some 49, op := Op.call { callee := Callee.value (Operand.func 24), args := #[Operand.tmp 44, Operand.tmp 47, Operand.tmp 48], argTypes := #[23, 24, 3] }, type := 57, pos := "ref.go:72", after := #[{ on := 0, ground := Ground.data }, { on := 3, ground := Ground.data }, { on := 4, ground := Ground.data }], guard := none }) rfl (fun K hK => ?_) AllReadyH.nil
    go_simp
    refine (HP1.out _ hb).mono ?_
    rintro e w' ⟨ao, ca, bo, cb, rfl, hg, hw'⟩
    have hb' := below_then hb hw'
    have hg' := hg.mono hb.size
    refine hK.out _ _ (HS.out _ hb') (fun hHeld => ?_)
    refine wpAnyH_take (i := 6) (oi := { dst := some 43, op := Op.move (Operand.tmp 49), type := 57, pos := "ref.go:72", after := #[{ on := 5, ground := Ground.data }], guard := none }) (v := .tuple #[.agg #[.int .u8 ((y.kd.toNat : Nat) : Int), .int .i64 y.ix, .int .i64 y.ce, .int .i64 y.st, .slice ao y.vn ca, .slice bo y.dn cb], .bool b]) rfl (by kernel_rfl) (by kernel_rfl) (by kernel_rfl) (fun _ _ _ h => (hQp _ _ _ h).elim) (Or.inl ⟨by kernel_rfl, ?_⟩) (HS.out _ hb') ?_
    · intro w' hSw
      obtain ⟨s0, s1, s2, s3, s4⟩ := HS1.out _ hSw
      go_simp <;> first | with_reducible rfl | assumption
    show wpAnyH Try.prog .any fops Q S 4 #[true, true, true, true, true, true, true, false, false, true, false, false] { tmps := #[x0, x1, x2, .int .i64 ix, x4, .pointer (some ⟨g0, 0, none⟩), .pointer (some ⟨g1, 0, none⟩), x7, x8, x9, x10, x11, x12, x13, x14, .int .i64 1, .pointer (some ⟨g, 0, none⟩), x17, x18, x19, x20, x21, x22, x23, x24, x25, x26, x27, x28, x29, x30, x31, x32, x33, x34, x35, x36, x37, x38, x39, x40, x41, x42, .tuple #[.agg #[.int .u8 ((y.kd.toNat : Nat) : Int), .int .i64 y.ix, .int .i64 y.ce, .int .i64 y.st, .slice ao y.vn ca, .slice bo y.dn cb], .bool b], .agg #[.int .i64 k, .int .i64 r, .int .i64 c, .int .i64 q], .int .i64 1, .pointer (some ⟨g1, 1, none⟩), .slice a0 n0 c0, .int .i64 ix, .tuple #[.agg #[.int .u8 ((y.kd.toNat : Nat) : Int), .int .i64 y.ix, .int .i64 y.ce, .int .i64 y.st, .slice ao y.vn ca, .slice bo y.dn cb], .bool b], x50, x51, x52, x53], defers := [] } w'
    refine wpAnyH_take (i := 7) (oi := { dst := some 50, op := Op.extract (Operand.tmp 43) 0, type := 31, pos := "ref.go:72", after := #[{ on := 6, ground := Ground.data }], guard := none }) (v := .agg #[.int .u8 ((y.kd.toNat : Nat) : Int), .int .i64 y.ix, .int .i64 y.ce, .int .i64 y.st, .slice ao y.vn ca, .slice bo y.dn cb]) rfl (by kernel_rfl) (by kernel_rfl) (by kernel_rfl) (fun _ _ _ h => (hQp _ _ _ h).elim) (Or.inl ⟨by kernel_rfl, ?_⟩) (HS.out _ hb') ?_
    · intro w' hSw
      obtain ⟨s0, s1, s2, s3, s4⟩ := HS1.out _ hSw
      go_simp <;> first | with_reducible rfl | assumption
    show wpAnyH Try.prog .any fops Q S 3 #[true, true, true, true, true, true, true, true, false, true, false, false] { tmps := #[x0, x1, x2, .int .i64 ix, x4, .pointer (some ⟨g0, 0, none⟩), .pointer (some ⟨g1, 0, none⟩), x7, x8, x9, x10, x11, x12, x13, x14, .int .i64 1, .pointer (some ⟨g, 0, none⟩), x17, x18, x19, x20, x21, x22, x23, x24, x25, x26, x27, x28, x29, x30, x31, x32, x33, x34, x35, x36, x37, x38, x39, x40, x41, x42, .tuple #[.agg #[.int .u8 ((y.kd.toNat : Nat) : Int), .int .i64 y.ix, .int .i64 y.ce, .int .i64 y.st, .slice ao y.vn ca, .slice bo y.dn cb], .bool b], .agg #[.int .i64 k, .int .i64 r, .int .i64 c, .int .i64 q], .int .i64 1, .pointer (some ⟨g1, 1, none⟩), .slice a0 n0 c0, .int .i64 ix, .tuple #[.agg #[.int .u8 ((y.kd.toNat : Nat) : Int), .int .i64 y.ix, .int .i64 y.ce, .int .i64 y.st, .slice ao y.vn ca, .slice bo y.dn cb], .bool b], .agg #[.int .u8 ((y.kd.toNat : Nat) : Int), .int .i64 y.ix, .int .i64 y.ce, .int .i64 y.st, .slice ao y.vn ca, .slice bo y.dn cb], x51, x52, x53], defers := [] } w'
    refine wpAnyH_take (i := 8) (oi := { dst := some 51, op := Op.extract (Operand.tmp 43) 1, type := 4, pos := "ref.go:72", after := #[{ on := 6, ground := Ground.data }, { on := 10, ground := Ground.gcOnly Departure.lateStores }], guard := none }) (v := .bool b) rfl (by kernel_rfl) (by kernel_rfl) (by kernel_rfl) (fun _ _ _ h => (hQp _ _ _ h).elim) (Or.inl ⟨by kernel_rfl, ?_⟩) (HS.out _ hb') ?_
    · intro w' hSw
      obtain ⟨s0, s1, s2, s3, s4⟩ := HS1.out _ hSw
      go_simp <;> first | with_reducible rfl | assumption
    show wpAnyH Try.prog .any fops Q S 2 #[true, true, true, true, true, true, true, true, true, true, false, false] { tmps := #[x0, x1, x2, .int .i64 ix, x4, .pointer (some ⟨g0, 0, none⟩), .pointer (some ⟨g1, 0, none⟩), x7, x8, x9, x10, x11, x12, x13, x14, .int .i64 1, .pointer (some ⟨g, 0, none⟩), x17, x18, x19, x20, x21, x22, x23, x24, x25, x26, x27, x28, x29, x30, x31, x32, x33, x34, x35, x36, x37, x38, x39, x40, x41, x42, .tuple #[.agg #[.int .u8 ((y.kd.toNat : Nat) : Int), .int .i64 y.ix, .int .i64 y.ce, .int .i64 y.st, .slice ao y.vn ca, .slice bo y.dn cb], .bool b], .agg #[.int .i64 k, .int .i64 r, .int .i64 c, .int .i64 q], .int .i64 1, .pointer (some ⟨g1, 1, none⟩), .slice a0 n0 c0, .int .i64 ix, .tuple #[.agg #[.int .u8 ((y.kd.toNat : Nat) : Int), .int .i64 y.ix, .int .i64 y.ce, .int .i64 y.st, .slice ao y.vn ca, .slice bo y.dn cb], .bool b], .agg #[.int .u8 ((y.kd.toNat : Nat) : Int), .int .i64 y.ix, .int .i64 y.ce, .int .i64 y.st, .slice ao y.vn ca, .slice bo y.dn cb], .bool b, x52, x53], defers := [] } w'
    exact H11.out _ ao ca bo cb g hb' hg' (f3.below hw')
  have H00 : Hid (∀ (v : World), Below w1.heap.size w1 v → wpAnyH Try.prog .any fops Q S 7 #[true, true, true, true, true, false, false, false, false, false, false, false] { tmps := #[x0, x1, x2, .int .i64 ix, x4, .pointer (some ⟨g0, 0, none⟩), .pointer (some ⟨g1, 0, none⟩), x7, x8, x9, x10, x11, x12, x13, x14, .int .i64 1, x16, x17, x18, x19, x20, x21, x22, x23, x24, x25, x26, x27, x28, x29, x30, x31, x32, x33, x34, x35, x36, x37, x38, x39, x40, x41, x42, x43, .agg #[.int .i64 k, .int .i64 r, .int .i64 c, .int .i64 q], .int .i64 1, .pointer (some ⟨g1, 1, none⟩), .slice a0 n0 c0, .int .i64 ix, x49, x50, x51, x52, x53], defers := [] } v) := fun v hb => by
    refine wpAnyH_ready (rs := [5, 9]) (by kernel_rfl) (by simp) ?_
    refine AllReadyH.cons (o := { dst := some 49, op := Op.call { callee := Callee.value (Operand.func 24), args := #[Operand.tmp 44, Operand.tmp 47, Operand.tmp 48], argTypes := #[23, 24, 3] }, type := 57, pos := "ref.go:72", after := #[{ on := 0, ground := Ground.data }, { on := 3, ground := Ground.data }, { on := 4, ground := Ground.data }], guard := none }) rfl (fun K hK => ?_) ?_
    rotate_left
    refine AllReadyH.cons (o := { dst := some 16, op := Op.alloc 31, type := 0, pos := "ref.go:72", after := #[], guard := none }) rfl (fun K hK => ?_) AllReadyH.nil
    rotate_left
    · skip
      go_simp
      refine (HP1.out _ hb).mono ?_
      rintro e w' ⟨ao, ca, bo, cb, rfl, hg, hw'⟩
      have hb' := below_then hb hw'
      have hg' := hg.mono hb.size
      refine hK.out _ _ (HS.out _ hb') (fun hHeld => ?_)
      refine wpAnyH_take (i := 6) (oi := { dst := some 43, op := Op.move (Operand.tmp 49), type := 57, pos := "ref.go:72", after := #[{ on := 5, ground := Ground.data }], guard := none }) (v := .tuple #[.agg #[.int .u8 ((y.kd.toNat : Nat) : Int), .int .i64 y.ix, .int .i64 y.ce, .int .i64 y.st, .slice ao y.vn ca, .slice bo y.dn cb], .bool b]) rfl (by kernel_rfl) (by kernel_rfl) (by kernel_rfl) (fun _ _ _ h => (hQp _ _ _ h).elim) (Or.inl ⟨by kernel_rfl, ?_⟩) (HS.out _ hb') ?_
      · intro w' hSw
        obtain ⟨s0, s1, s2, s3, s4⟩ := HS1.out _ hSw
        go_simp <;> first | with_reducible rfl | assumption
      show wpAnyH Try.prog .any fops Q S 5 #[true, true, true, true, true, true, true, false, false, false, false, false] { tmps := #[x0, x1, x2, .int .i64 ix, x4, .pointer (some ⟨g0, 0, none⟩), .pointer (some ⟨g1, 0, none⟩), x7, x8, x9, x10, x11, x12, x13, x14, .int .i64 1, x16, x17, x18, x19, x20, x21, x22, x23, x24, x25, x26, x27, x28, x29, x30, x31, x32, x33, x34, x35, x36, x37, x38, x39, x40, x41, x42, .tuple #[.agg #[.int .u8 ((y.kd.toNat : Nat) : Int), .int .i64 y.ix, .int .i64 y.ce, .int .i64 y.st, .slice ao y.vn ca, .slice bo y.dn cb], .bool b], .agg #[.int .i64 k, .int .i64 r, .int .i64 c, .int .i64 q], .int .i64 1, .pointer (some ⟨g1, 1, none⟩), .slice a0 n0 c0, .int .i64 ix, .tuple #[.agg #[.int .u8 ((y.kd.toNat : Nat) : Int), .int .i64 y.ix, .int .i64 y.ce, .int .i64 y.st, .slice ao y.vn ca, .slice bo y.dn cb], .bool b], x50, x51, x52, x53], defers := [] } w'
      refine wpAnyH_take (i := 7) (oi := { dst := some 50, op := Op.extract (Operand.tmp 43) 0, type := 31, pos := "ref.go:72", after := #[{ on := 6, ground := Ground.data }], guard := none }) (v := .agg #[.int .u8 ((y.kd.toNat : Nat) : Int), .int .i64 y.ix, .int .i64 y.ce, .int .i64 y.st, .slice ao y.vn ca, .slice bo y.dn cb]) rfl (by kernel_rfl) (by kernel_rfl) (by kernel_rfl) (fun _ _ _ h => (hQp _ _ _ h).elim) (Or.inl ⟨by kernel_rfl, ?_⟩) (HS.out _ hb') ?_
      · intro w' hSw
        obtain ⟨s0, s1, s2, s3, s4⟩ := HS1.out _ hSw
        go_simp <;> first | with_reducible rfl | assumption
      show wpAnyH Try.prog .any fops Q S 4 #[true, true, true, true, true, true, true, true, false, false, false, false] { tmps := #[x0, x1, x2, .int .i64 ix, x4, .pointer (some ⟨g0, 0, none⟩), .pointer (some ⟨g1, 0, none⟩), x7, x8, x9, x10, x11, x12, x13, x14, .int .i64 1, x16, x17, x18, x19, x20, x21, x22, x23, x24, x25, x26, x27, x28, x29, x30, x31, x32, x33, x34, x35, x36, x37, x38, x39, x40, x41, x42, .tuple #[.agg #[.int .u8 ((y.kd.toNat : Nat) : Int), .int .i64 y.ix, .int .i64 y.ce, .int .i64 y.st, .slice ao y.vn ca, .slice bo y.dn cb], .bool b], .agg #[.int .i64 k, .int .i64 r, .int .i64 c, .int .i64 q], .int .i64 1, .pointer (some ⟨g1, 1, none⟩), .slice a0 n0 c0, .int .i64 ix, .tuple #[.agg #[.int .u8 ((y.kd.toNat : Nat) : Int), .int .i64 y.ix, .int .i64 y.ce, .int .i64 y.st, .slice ao y.vn ca, .slice bo y.dn cb], .bool b], .agg #[.int .u8 ((y.kd.toNat : Nat) : Int), .int .i64 y.ix, .int .i64 y.ce, .int .i64 y.st, .slice ao y.vn ca, .slice bo y.dn cb], x51, x52, x53], defers := [] } w'
      refine wpAnyH_take (i := 8) (oi := { dst := some 51, op := Op.extract (Operand.tmp 43) 1, type := 4, pos := "ref.go:72", after := #[{ on := 6, ground := Ground.data }, { on := 10, ground := Ground.gcOnly Departure.lateStores }], guard := none }) (v := .bool b) rfl (by kernel_rfl) (by kernel_rfl) (by kernel_rfl) (fun _ _ _ h => (hQp _ _ _ h).elim) (Or.inl ⟨by kernel_rfl, ?_⟩) (HS.out _ hb') ?_
      · intro w' hSw
        obtain ⟨s0, s1, s2, s3, s4⟩ := HS1.out _ hSw
        go_simp <;> first | with_reducible rfl | assumption
      show wpAnyH Try.prog .any fops Q S 3 #[true, true, true, true, true, true, true, true, true, false, false, false] { tmps := #[x0, x1, x2, .int .i64 ix, x4, .pointer (some ⟨g0, 0, none⟩), .pointer (some ⟨g1, 0, none⟩), x7, x8, x9, x10, x11, x12, x13, x14, .int .i64 1, x16, x17, x18, x19, x20, x21, x22, x23, x24, x25, x26, x27, x28, x29, x30, x31, x32, x33, x34, x35, x36, x37, x38, x39, x40, x41, x42, .tuple #[.agg #[.int .u8 ((y.kd.toNat : Nat) : Int), .int .i64 y.ix, .int .i64 y.ce, .int .i64 y.st, .slice ao y.vn ca, .slice bo y.dn cb], .bool b], .agg #[.int .i64 k, .int .i64 r, .int .i64 c, .int .i64 q], .int .i64 1, .pointer (some ⟨g1, 1, none⟩), .slice a0 n0 c0, .int .i64 ix, .tuple #[.agg #[.int .u8 ((y.kd.toNat : Nat) : Int), .int .i64 y.ix, .int .i64 y.ce, .int .i64 y.st, .slice ao y.vn ca, .slice bo y.dn cb], .bool b], .agg #[.int .u8 ((y.kd.toNat : Nat) : Int), .int .i64 y.ix, .int .i64 y.ce, .int .i64 y.st, .slice ao y.vn ca, .slice bo y.dn cb], .bool b, x52, x53], defers := [] } w'
      exact H10.out _ ao ca bo cb hb' hg'
    · go_simp
      refine hK.out _ _ (HS.out _ (b_alloc hb _)) (fun hHeld => ?_)
      exact H01.out _ _ (b_alloc hb _) (at_new hb _ _)
  refine wp_region_held_drew (S := S) (by kernel_rfl) (HS.out _ (below_drew _ _)) (fun hHeld => ?_)
  have hb : Below w1.heap.size w1 w1.drew := below_drew _ _
  rw [show fops.size = 12 from by kernel_rfl, show Array.replicate 12 false = #[false, false, false, false, false, false, false, false, false, false, false, false] from by kernel_rfl]
  refine wpAnyH_take (i := 0) (oi := { dst := some 44, op := Op.load 23 (Operand.tmp 5), type := 23, pos := "ref.go:72", after := #[], guard := none }) (v := .agg #[.int .i64 k, .int .i64 r, .int .i64 c, .int .i64 q]) rfl (by kernel_rfl) (by kernel_rfl) (by kernel_rfl) (fun _ _ _ h => (hQp _ _ _ h).elim) (Or.inl ⟨by kernel_rfl, ?_⟩) (HS.out _ hb) ?_
  · intro w' hSw
    obtain ⟨s0, s1, s2, s3, s4⟩ := HS1.out _ hSw
    go_simp <;> first | with_reducible rfl | assumption
  show wpAnyH Try.prog .any fops Q S 11 #[true, false, false, false, false, false, false, false, false, false, false, false] { tmps := #[x0, x1, x2, .int .i64 ix, x4, .pointer (some ⟨g0, 0, none⟩), .pointer (some ⟨g1, 0, none⟩), x7, x8, x9, x10, x11, x12, x13, x14, .int .i64 1, x16, x17, x18, x19, x20, x21, x22, x23, x24, x25, x26, x27, x28, x29, x30, x31, x32, x33, x34, x35, x36, x37, x38, x39, x40, x41, x42, x43, .agg #[.int .i64 k, .int .i64 r, .int .i64 c, .int .i64 q], x45, x46, x47, x48, x49, x50, x51, x52, x53], defers := [] } w1.drew
  refine wpAnyH_take (i := 1) (oi := { dst := some 45, op := Op.move (Operand.tmp 15), type := 3, pos := "ref.go:72", after := #[], guard := none }) (v := .int .i64 1) rfl (by kernel_rfl) (by kernel_rfl) (by kernel_rfl) (fun _ _ _ h => (hQp _ _ _ h).elim) (Or.inl ⟨by kernel_rfl, ?_⟩) (HS.out _ hb) ?_
  · intro w' hSw
    obtain ⟨s0, s1, s2, s3, s4⟩ := HS1.out _ hSw
    go_simp <;> first | with_reducible rfl | assumption
  show wpAnyH Try.prog .any fops Q S 10 #[true, true, false, false, false, false, false, false, false, false, false, false] { tmps := #[x0, x1, x2, .int .i64 ix, x4, .pointer (some ⟨g0, 0, none⟩), .pointer (some ⟨g1, 0, none⟩), x7, x8, x9, x10, x11, x12, x13, x14, .int .i64 1, x16, x17, x18, x19, x20, x21, x22, x23, x24, x25, x26, x27, x28, x29, x30, x31, x32, x33, x34, x35, x36, x37, x38, x39, x40, x41, x42, x43, .agg #[.int .i64 k, .int .i64 r, .int .i64 c, .int .i64 q], .int .i64 1, x46, x47, x48, x49, x50, x51, x52, x53], defers := [] } w1.drew
  refine wpAnyH_take (i := 2) (oi := { dst := some 46, op := Op.indexAddr 26 (Operand.tmp 6) (Operand.tmp 45), type := 0, pos := "ref.go:72", after := #[{ on := 1, ground := Ground.data }], guard := none }) (v := .pointer (some ⟨g1, 1, none⟩)) rfl (by kernel_rfl) (by kernel_rfl) (by kernel_rfl) (fun _ _ _ h => (hQp _ _ _ h).elim) (Or.inl ⟨by kernel_rfl, ?_⟩) (HS.out _ hb) ?_
  · intro w' hSw
    obtain ⟨s0, s1, s2, s3, s4⟩ := HS1.out _ hSw
    go_simp <;> first | with_reducible rfl | assumption
  show wpAnyH Try.prog .any fops Q S 9 #[true, true, true, false, false, false, false, false, false, false, false, false] { tmps := #[x0, x1, x2, .int .i64 ix, x4, .pointer (some ⟨g0, 0, none⟩), .pointer (some ⟨g1, 0, none⟩), x7, x8, x9, x10, x11, x12, x13, x14, .int .i64 1, x16, x17, x18, x19, x20, x21, x22, x23, x24, x25, x26, x27, x28, x29, x30, x31, x32, x33, x34, x35, x36, x37, x38, x39, x40, x41, x42, x43, .agg #[.int .i64 k, .int .i64 r, .int .i64 c, .int .i64 q], .int .i64 1, .pointer (some ⟨g1, 1, none⟩), x47, x48, x49, x50, x51, x52, x53], defers := [] } w1.drew
  refine wpAnyH_take (i := 3) (oi := { dst := some 47, op := Op.load 24 (Operand.tmp 46), type := 24, pos := "ref.go:72", after := #[{ on := 2, ground := Ground.data }], guard := none }) (v := .slice a0 n0 c0) rfl (by kernel_rfl) (by kernel_rfl) (by kernel_rfl) (fun _ _ _ h => (hQp _ _ _ h).elim) (Or.inl ⟨by kernel_rfl, ?_⟩) (HS.out _ hb) ?_
  · intro w' hSw
    obtain ⟨s0, s1, s2, s3, s4⟩ := HS1.out _ hSw
    go_simp <;> first | with_reducible rfl | assumption
  show wpAnyH Try.prog .any fops Q S 8 #[true, true, true, true, false, false, false, false, false, false, false, false] { tmps := #[x0, x1, x2, .int .i64 ix, x4, .pointer (some ⟨g0, 0, none⟩), .pointer (some ⟨g1, 0, none⟩), x7, x8, x9, x10, x11, x12, x13, x14, .int .i64 1, x16, x17, x18, x19, x20, x21, x22, x23, x24, x25, x26, x27, x28, x29, x30, x31, x32, x33, x34, x35, x36, x37, x38, x39, x40, x41, x42, x43, .agg #[.int .i64 k, .int .i64 r, .int .i64 c, .int .i64 q], .int .i64 1, .pointer (some ⟨g1, 1, none⟩), .slice a0 n0 c0, x48, x49, x50, x51, x52, x53], defers := [] } w1.drew
  refine wpAnyH_take (i := 4) (oi := { dst := some 48, op := Op.move (Operand.tmp 3), type := 3, pos := "ref.go:72", after := #[], guard := none }) (v := .int .i64 ix) rfl (by kernel_rfl) (by kernel_rfl) (by kernel_rfl) (fun _ _ _ h => (hQp _ _ _ h).elim) (Or.inl ⟨by kernel_rfl, ?_⟩) (HS.out _ hb) ?_
  · intro w' hSw
    obtain ⟨s0, s1, s2, s3, s4⟩ := HS1.out _ hSw
    go_simp <;> first | with_reducible rfl | assumption
  show wpAnyH Try.prog .any fops Q S 7 #[true, true, true, true, true, false, false, false, false, false, false, false] { tmps := #[x0, x1, x2, .int .i64 ix, x4, .pointer (some ⟨g0, 0, none⟩), .pointer (some ⟨g1, 0, none⟩), x7, x8, x9, x10, x11, x12, x13, x14, .int .i64 1, x16, x17, x18, x19, x20, x21, x22, x23, x24, x25, x26, x27, x28, x29, x30, x31, x32, x33, x34, x35, x36, x37, x38, x39, x40, x41, x42, x43, .agg #[.int .i64 k, .int .i64 r, .int .i64 c, .int .i64 q], .int .i64 1, .pointer (some ⟨g1, 1, none⟩), .slice a0 n0 c0, .int .i64 ix, x49, x50, x51, x52, x53], defers := [] } w1.drew
  exact H00.out _ hb
theorem hB_there {y : Sl} {kd : UInt8} {v : Int} (h : hB y kd v = true) : ¬ y.ce = 0 := by
  have := of_decide_eq_true h
  rw [this.2.2]; exact this.1
set_option maxHeartbeats 16000000 in
set_option maxRecDepth 100000 in
theorem RFind_any {k r c q : Int} {N W : Nat} {x : Int} (h : Par k r c q N W x) (w : World) (a0 : Option Addr) (n0 c0 : Nat) (F0 : Nat → UInt8) (a1 : Option Addr) (n1 c1 : Nat) (F1 : Nat → UInt8) (h0 : Bec w a0 n0 c0 F0) (h1 : Bec w a1 n1 c1 F1) (l0 : n0 ≤ 9223372036854775807) (l1 : n1 ≤ 9223372036854775807) (kd : UInt8) (ix v : Int) (E : Int) (hE : erF (erC x N c n0 n1 ((kd.toNat : Nat) : Int) ix) v = E) (y0 y1 : Sl) (hy0 : he E N c ix n0 F0 = y0) (hy1 : he E N c ix n1 F1 = y1) :
    Calls Try.prog 9 #[.agg #[.int .i64 k, .int .i64 r, .int .i64 c, .int .i64 q], .agg #[.slice a0 n0 c0, .slice a1 n1 c1], .int .u8 ((kd.toNat : Nat) : Int), .int .i64 ix, .int .i64 v] w (AnsF w E (fN y0 y1 kd v) (fZ y0 y1 kd v) (fB y0 y1 kd v)) := by
  obtain ⟨w0, hw0⟩ : ∃ w0, w0 = w.alloc (.cells #[.int .i64 k, .int .i64 r, .int .i64 c, .int .i64 q] 23) := ⟨_, rfl⟩
  have bw0 : Below w.heap.size w w0 := by rw [hw0]; exact below_alloc _ _
  have zw0 : w0.heap.size = w.heap.size + 1 := by rw [hw0]; simp
  obtain ⟨w1, hw1⟩ : ∃ w1, w1 = w0.alloc (.cells #[.slice a0 n0 c0, .slice a1 n1 c1] 26) := ⟨_, rfl⟩
  have bw1 : Below w0.heap.size w0 w1 := by rw [hw1]; exact below_alloc _ _
  have zw1 : w1.heap.size = w.heap.size + 1 + 1 := by rw [hw1]; simp [zw0]
  obtain ⟨w2, hw2⟩ : ∃ w2, w2 = w1.alloc (.cells #[.int .u8 0, .int .i64 0, .int .i64 0, .int .i64 0, .slice none 0 0, .slice none 0 0] 31) := ⟨_, rfl⟩
  have bw2 : Below w1.heap.size w1 w2 := by rw [hw2]; exact below_alloc _ _
  have zw2 : w2.heap.size = w.heap.size + 1 + 1 + 1 := by rw [hw2]; simp [zw1]
  have Bw : Hid (Below w.heap.size w w2) := (below_then (below_then bw0 bw1) bw2)
  have Lw0 : Hid (∀ v, Below w2.heap.size w2 v → At w v (w.heap.size) #[.int .i64 k, .int .i64 r, .int .i64 c, .int .i64 q] 23) := fun v hv => by exact (at_made (Below.refl _ _) hw0).below (below_then (below_then bw1 bw2) hv)
  have Lw1 : Hid (∀ v, Below w2.heap.size w2 v → At w v (w.heap.size + 1) #[.slice a0 n0 c0, .slice a1 n1 c1] 26) := fun v hv => by rw [← zw0]; exact (at_made bw0 hw1).below (below_then bw2 hv)
  have Lw2 : Hid (∀ v, Below w2.heap.size w2 v → At w v (w.heap.size + 1 + 1) #[.int .u8 0, .int .i64 0, .int .i64 0, .int .i64 0, .slice none 0 0, .slice none 0 0] 31) := fun v hv => by rw [← zw1]; exact (at_made (below_then bw0 bw1) hw2).below (below_then (Below.refl _ _) hv)
  obtain ⟨C, hC⟩ : ∃ C, erC x N c n0 n1 ((kd.toNat : Nat) : Int) ix = C := ⟨_, rfl⟩
  have HAS : Hid (∀ u, Calls Try.prog 21 #[.agg #[.int .i64 k, .int .i64 r, .int .i64 c, .int .i64 q], .agg #[.slice a0 n0 c0, .slice a1 n1 c1], .int .u8 ((kd.toNat : Nat) : Int), .int .i64 ix] u fun e w' => e = .returned (.int .i64 C) ∧ Below u.heap.size u w') := fun u => by rw [← hC]; exact asked_any h u a0 n0 c0 a1 n1 c1 _ ix
  have HX : E = 0 → x = 0 := fun e => by
    have h3 : C = 0 := by
      rw [← hE, hC] at e; unfold erF at e
      by_cases q0 : C = 0
      · exact q0
      · rw [if_neg q0] at e; exact e
    exact erQ_zero (erT_zero (erC_zero (hC.trans h3)).1).1
  have HVE := fun u => Version_any v u
  have HS2 : Hid (w2.heap.size = w.heap.size + 1 + 1 + 1) := zw2
  have HZ2 : Hid (¬ E = 0 → y0 = zSl ∧ y1 = zSl) := fun e => by
    rw [← hy0, ← hy1]; unfold he; rw [if_neg e, if_neg e]; exact ⟨rfl, rfl⟩
  have HEE : E = if C = 0 then (if 1 ≤ v ∧ v ≤ 1073741824 then 0 else 2) else C := by rw [← hE, hC]; rfl
  clear hE hC
  unfold verB at HVE
  unfold AnsF slv
  by_cases eC : C = 0
  · subst eC
    rw [if_pos rfl] at HEE
    by_cases vv : 1 ≤ v ∧ v ≤ 1073741824
    · rw [if_pos vv] at HEE
      subst HEE
      obtain rfl := HX rfl
      have HH : Hid (∀ u, Below w.heap.size w u → Calls Try.prog 23 #[.agg #[.int .i64 k, .int .i64 r, .int .i64 c, .int .i64 q], .agg #[.slice a0 n0 c0, .slice a1 n1 c1], .int .u8 ((kd.toNat : Nat) : Int), .int .i64 ix, .int .i64 v] u fun e w' => e = .returned (.int .i64 (hN y0 y1 kd v)) ∧ Below u.heap.size u w') := fun u hu => Holds_any h u a0 n0 c0 F0 a1 n1 c1 F1 (h0.below hu) (h1.below hu) l0 l1 kd ix v y0 y1 hy0 hy1
      have HO0 : Hid (∀ v, Below w.heap.size w v → Calls Try.prog 24 #[.agg #[.int .i64 k, .int .i64 r, .int .i64 c, .int .i64 q], .slice a0 n0 c0, .int .i64 ix] v fun e w' => ∃ ao ca bo cb, e = .returned (.tuple #[slv y0 ao ca bo cb, .bool (decide (¬ y0.ce = 0))]) ∧ Got v.heap.size w' y0 ao ca bo cb ∧ Below v.heap.size v w') := fun v hv => Of_any h v a0 n0 c0 F0 (h0.below hv) l0 ix y0 hy0
      have HO1 : Hid (∀ v, Below w.heap.size w v → Calls Try.prog 24 #[.agg #[.int .i64 k, .int .i64 r, .int .i64 c, .int .i64 q], .slice a1 n1 c1, .int .i64 ix] v fun e w' => ∃ ao ca bo cb, e = .returned (.tuple #[slv y1 ao ca bo cb, .bool (decide (¬ y1.ce = 0))]) ∧ Got v.heap.size w' y1 ao ca bo cb ∧ Below v.heap.size v w') := fun v hv => Of_any h v a1 n1 c1 F1 (h1.below hv) l1 ix y1 hy1
      clear h h0 h1 l0 l1 hy0 hy1
      unfold slv at HO0 HO1
      simp only [decide_eq_true (p := 1 ≤ v ∧ v ≤ 1073741824) vv] at HVE
      have hrs : fN y0 y1 kd v = (if hB y0 kd v = true then 0 else if hB y1 kd v = true then 1 else 0) ∧ fZ y0 y1 kd v = (if hB y0 kd v = true then y0 else if hB y1 kd v = true then y1 else zSl) ∧ fB y0 y1 kd v = (hB y0 kd v || hB y1 kd v) := ⟨rfl, rfl, rfl⟩
      unfold hN at HH
      clear vv HX HZ2
      cases s0 : hB y0 kd v
      · rw [s0] at HH hrs
        cases s1 : hB y1 kd v
        · rw [s1] at HH hrs
          simp only [Bool.false_eq_true, if_false, Bool.or_self] at HH hrs
          have HRES : Hid _ := hrs
          clear s0 s1 hrs HO0 HO1
          go_enter Try.func9, Try.ntmps9
          go_wp2_with fail
          rw [← hw0, ← hw1, ← hw2]
          clear hw0 bw0 zw0 hw1 bw1 zw1 hw2 bw2 zw2
          refine (HAS.out _).mono ?_
          rintro e wa ⟨rfl, ha⟩
          have HB : Hid (Below w2.heap.size w2 wa) := ha
          clear ha HAS
          have q0 := Lw0.out wa HB.out
          have q1 := Lw1.out wa HB.out
          have q2 := Lw2.out wa HB.out
          have p0 := q0.cell (i := 0) rfl
          have p1 := q0.cell (i := 1) rfl
          have p2 := q0.cell (i := 2) rfl
          have p3 := q0.cell (i := 3) rfl
          have s0 := q1.cell (i := 0) rfl
          have s1 := q1.cell (i := 1) rfl
          have r0 := q2.cell (i := 0) rfl
          have r1 := q2.cell (i := 1) rfl
          have r2 := q2.cell (i := 2) rfl
          have r3 := q2.cell (i := 3) rfl
          have r4 := q2.cell (i := 4) rfl
          have r5 := q2.cell (i := 5) rfl
          have rf := q2.free
          clear q0 q1 q2
          go_wp2_with fail
          refine (HVE _).mono ?_
          rintro e w' ⟨rfl, hw'⟩
          obtain rfl := hw'.symm
          go_wp2_with fail
          refine (HH.out _ (below_then Bw.out HB.out)).mono ?_
          rintro e wb ⟨rfl, hb⟩
          have HB2 : Hid (Below w2.heap.size w2 wb) := below_then HB.out hb
          clear hb HH HB p0 p1 p2 p3 s0 s1 r0 r1 r2 r3 r4 r5 rf
          have HB : Hid (Below w2.heap.size w2 wb) := HB2.out
          clear HB2
          have q2 := Lw2.out wb HB.out
          have r0 := q2.cell (i := 0) rfl
          have r1 := q2.cell (i := 1) rfl
          have r2 := q2.cell (i := 2) rfl
          have r3 := q2.cell (i := 3) rfl
          have r4 := q2.cell (i := 4) rfl
          have r5 := q2.cell (i := 5) rfl
          have rf := q2.free
          clear q2
          go_wp2_with fail
          refine bodyPost_ret (v := .tuple #[.int .i64 0, .agg #[.int .u8 0, .int .i64 0, .int .i64 0, .int .i64 0, .slice none 0 0, .slice none 0 0], .bool false, .int .i64 0]) (by simp [results, Try.results9, go_sem, r0, r1, r2, r3, r4, r5]) rfl ?_
          obtain ⟨g1, g2, g3⟩ := HRES.out
          rw [g1, g2, g3]
          have hal := below_then Bw.out HB.out
          exact ⟨none, 0, none, 0, rfl, got_z _ _, hal.trans ((only_lo wb (w.heap.size + 1 + 1) (.int .u8 0) (.int .i64 0) (.int .i64 0) (.int .i64 0) (.slice none 0 0) (.slice none 0 0)).below (fun i hi => by omega) hal.size)⟩
        · have e1 := (hB_there s1)
          rw [decide_eq_true (p := ¬ y1.ce = 0) e1] at HO1
          rw [s1] at HH hrs
          simp only [Bool.false_eq_true, if_false, if_true, Bool.or_true] at HH hrs
          have HRES : Hid _ := hrs
          clear s0 s1 hrs HO0 e1
          go_enter Try.func9, Try.ntmps9
          go_wp2_with fail
          rw [← hw0, ← hw1, ← hw2]
          clear hw0 bw0 zw0 hw1 bw1 zw1 hw2 bw2 zw2
          refine (HAS.out _).mono ?_
          rintro e wa ⟨rfl, ha⟩
          have HB : Hid (Below w2.heap.size w2 wa) := ha
          clear ha HAS
          have q0 := Lw0.out wa HB.out
          have q1 := Lw1.out wa HB.out
          have q2 := Lw2.out wa HB.out
          have p0 := q0.cell (i := 0) rfl
          have p1 := q0.cell (i := 1) rfl
          have p2 := q0.cell (i := 2) rfl
          have p3 := q0.cell (i := 3) rfl
          have s0 := q1.cell (i := 0) rfl
          have s1 := q1.cell (i := 1) rfl
          have r0 := q2.cell (i := 0) rfl
          have r1 := q2.cell (i := 1) rfl
          have r2 := q2.cell (i := 2) rfl
          have r3 := q2.cell (i := 3) rfl
          have r4 := q2.cell (i := 4) rfl
          have r5 := q2.cell (i := 5) rfl
          have rf := q2.free
          clear q0 q1 q2
          go_wp2_with fail
          refine (HVE _).mono ?_
          rintro e w' ⟨rfl, hw'⟩
          obtain rfl := hw'.symm
          go_wp2_with fail
          refine (HH.out _ (below_then Bw.out HB.out)).mono ?_
          rintro e wb ⟨rfl, hb⟩
          have HB2 : Hid (Below w2.heap.size w2 wb) := below_then HB.out hb
          clear hb HH HB p0 p1 p2 p3 s0 s1 r0 r1 r2 r3 r4 r5 rf
          have HB : Hid (Below w2.heap.size w2 wb) := HB2.out
          clear HB2
          go_wp2_with fail
          have KS : Hid (∀ v, Below wb.heap.size wb v → v.cell? ⟨w.heap.size, 0, none⟩ = some (.int .i64 k) ∧ v.cell? ⟨w.heap.size, 1, none⟩ = some (.int .i64 r) ∧ v.cell? ⟨w.heap.size, 2, none⟩ = some (.int .i64 c) ∧ v.cell? ⟨w.heap.size, 3, none⟩ = some (.int .i64 q) ∧ v.cell? ⟨w.heap.size + 1, 1, none⟩ = some (.slice a1 n1 c1)) := fun v hv => by
            have q0 := (Lw0.out wb HB.out).below hv
            have q1 := (Lw1.out wb HB.out).below hv
            exact ⟨q0.cell (i := 0) rfl, q0.cell (i := 1) rfl, q0.cell (i := 2) rfl, q0.cell (i := 3) rfl, q1.cell (i := 1) rfl⟩
          refine wp_region_noPanic (find_reg1 wb k r c q ix (w.heap.size) (w.heap.size + 1) a1 n1 c1 y1 true _ _ _ _ _ _ _ _ _ _ _ _ _ _ _ _ _ _ _ _ _ _ _ _ _ _ _ _ _ _ _ _ _ _ _ _ _ _ _ _ _ _ _ _ _ _ _ _ _ _ (fun v hv => KS.out v hv) (fun v hv => HO1.out v (below_then Bw.out (below_then HB.out hv))) _ (fun _ _ _ h => h) (fun wc gwc ao ca bo cb hb hat hgt => NoPanic.normal ?_))
          have HB2 : Hid (Below w2.heap.size w2 wc) := below_then HB.out hb
          have HGwc : Hid (Got wb.heap.size wc y1 ao ca bo cb) := hgt
          have HSZ : Hid (w2.heap.size ≤ wb.heap.size) := HB.out.size
          have m0 := hat.cell (i := 0) rfl
          have m1 := hat.cell (i := 1) rfl
          have m2 := hat.cell (i := 2) rfl
          have m3 := hat.cell (i := 3) rfl
          have m4 := hat.cell (i := 4) rfl
          have m5 := hat.cell (i := 5) rfl
          clear hb hgt KS HB
          have HB : Hid (Below w2.heap.size w2 wc) := HB2.out
          clear HB2
          have q2 := Lw2.out wc HB.out
          have r0 := q2.cell (i := 0) rfl
          have r1 := q2.cell (i := 1) rfl
          have r2 := q2.cell (i := 2) rfl
          have r3 := q2.cell (i := 3) rfl
          have r4 := q2.cell (i := 4) rfl
          have r5 := q2.cell (i := 5) rfl
          have rf := q2.free
          have nq : ¬ gwc = w.heap.size + 1 + 1 := by have := hat.1; have := HSZ.out; have := HS2.out; omega
          have nq2 : ¬ w.heap.size + 1 + 1 = gwc := by omega
          clear q2 hat
          go_wp2_with fail
          refine wp_region_still_tail 3 (by kernel_rfl) (by kernel_rfl) ?_
          simp only [List.take_succ_cons, List.take_zero, List.drop_succ_cons, List.drop_zero]
          repeat (refine wpStill_step (fun K hK => ?_); go_simp; refine hK _ ?_; clear hK K)
          refine wpStill_nil ?_
          go_wp2_with fail
          refine bodyPost_ret (v := .tuple #[.int .i64 1, .agg #[.int .u8 ((y1.kd.toNat : Nat) : Int), .int .i64 y1.ix, .int .i64 y1.ce, .int .i64 y1.st, .slice ao y1.vn ca, .slice bo y1.dn cb], .bool true, .int .i64 0]) (by simp [results, Try.results9, go_sem, r0, r1, r2, r3, r4, r5]) rfl ?_
          obtain ⟨g1, g2, g3⟩ := HRES.out
          rw [g1, g2, g3]
          have hal := below_then Bw.out HB.out
          have ho := (only_lo wc (w.heap.size + 1 + 1) (.int .u8 ((y1.kd.toNat : Nat) : Int)) (.int .i64 y1.ix) (.int .i64 y1.ce) (.int .i64 y1.st) (.slice ao y1.vn ca) (.slice bo y1.dn cb)).drew
          exact ⟨ao, ca, bo, cb, rfl, (HGwc.out.stay ho (by have := HS2.out; have := HSZ.out; omega)).mono (by have := HS2.out; have := HSZ.out; omega), hal.trans (ho.below (fun i hi => by omega) hal.size)⟩
      · have e0 := (hB_there s0)
        rw [decide_eq_true (p := ¬ y0.ce = 0) e0] at HO0
        rw [s0] at HH hrs
        simp only [if_true, Bool.true_or] at HH hrs
        have HRES : Hid _ := hrs
        clear s0 hrs HO1 e0
        go_enter Try.func9, Try.ntmps9
        go_wp2_with fail
        rw [← hw0, ← hw1, ← hw2]
        clear hw0 bw0 zw0 hw1 bw1 zw1 hw2 bw2 zw2
        refine (HAS.out _).mono ?_
        rintro e wa ⟨rfl, ha⟩
        have HB : Hid (Below w2.heap.size w2 wa) := ha
        clear ha HAS
        have q0 := Lw0.out wa HB.out
        have q1 := Lw1.out wa HB.out
        have q2 := Lw2.out wa HB.out
        have p0 := q0.cell (i := 0) rfl
        have p1 := q0.cell (i := 1) rfl
        have p2 := q0.cell (i := 2) rfl
        have p3 := q0.cell (i := 3) rfl
        have s0 := q1.cell (i := 0) rfl
        have s1 := q1.cell (i := 1) rfl
        have r0 := q2.cell (i := 0) rfl
        have r1 := q2.cell (i := 1) rfl
        have r2 := q2.cell (i := 2) rfl
        have r3 := q2.cell (i := 3) rfl
        have r4 := q2.cell (i := 4) rfl
        have r5 := q2.cell (i := 5) rfl
        have rf := q2.free
        clear q0 q1 q2
        go_wp2_with fail
        refine (HVE _).mono ?_
        rintro e w' ⟨rfl, hw'⟩
        obtain rfl := hw'.symm
        go_wp2_with fail
        refine (HH.out _ (below_then Bw.out HB.out)).mono ?_
        rintro e wb ⟨rfl, hb⟩
        have HB2 : Hid (Below w2.heap.size w2 wb) := below_then HB.out hb
        clear hb HH HB p0 p1 p2 p3 s0 s1 r0 r1 r2 r3 r4 r5 rf
        have HB : Hid (Below w2.heap.size w2 wb) := HB2.out
        clear HB2
        go_wp2_with fail
        have KS : Hid (∀ v, Below wb.heap.size wb v → v.cell? ⟨w.heap.size, 0, none⟩ = some (.int .i64 k) ∧ v.cell? ⟨w.heap.size, 1, none⟩ = some (.int .i64 r) ∧ v.cell? ⟨w.heap.size, 2, none⟩ = some (.int .i64 c) ∧ v.cell? ⟨w.heap.size, 3, none⟩ = some (.int .i64 q) ∧ v.cell? ⟨w.heap.size + 1, 0, none⟩ = some (.slice a0 n0 c0)) := fun v hv => by
          have q0 := (Lw0.out wb HB.out).below hv
          have q1 := (Lw1.out wb HB.out).below hv
          exact ⟨q0.cell (i := 0) rfl, q0.cell (i := 1) rfl, q0.cell (i := 2) rfl, q0.cell (i := 3) rfl, q1.cell (i := 0) rfl⟩
        refine wp_region_noPanic (find_reg0 wb k r c q ix (w.heap.size) (w.heap.size + 1) a0 n0 c0 y0 true _ _ _ _ _ _ _ _ _ _ _ _ _ _ _ _ _ _ _ _ _ _ _ _ _ _ _ _ _ _ _ _ _ _ _ _ _ _ _ _ _ _ _ _ _ _ _ _ _ _ (fun v hv => KS.out v hv) (fun v hv => HO0.out v (below_then Bw.out (below_then HB.out hv))) _ (fun _ _ _ h => h) (fun wc gwc ao ca bo cb hb hat hgt => NoPanic.normal ?_))
        have HB2 : Hid (Below w2.heap.size w2 wc) := below_then HB.out hb
        have HGwc : Hid (Got wb.heap.size wc y0 ao ca bo cb) := hgt
        have HSZ : Hid (w2.heap.size ≤ wb.heap.size) := HB.out.size
        have m0 := hat.cell (i := 0) rfl
        have m1 := hat.cell (i := 1) rfl
        have m2 := hat.cell (i := 2) rfl
        have m3 := hat.cell (i := 3) rfl
        have m4 := hat.cell (i := 4) rfl
        have m5 := hat.cell (i := 5) rfl
        clear hb hgt KS HB
        have HB : Hid (Below w2.heap.size w2 wc) := HB2.out
        clear HB2
        have q2 := Lw2.out wc HB.out
        have r0 := q2.cell (i := 0) rfl
        have r1 := q2.cell (i := 1) rfl
        have r2 := q2.cell (i := 2) rfl
        have r3 := q2.cell (i := 3) rfl
        have r4 := q2.cell (i := 4) rfl
        have r5 := q2.cell (i := 5) rfl
        have rf := q2.free
        have nq : ¬ gwc = w.heap.size + 1 + 1 := by have := hat.1; have := HSZ.out; have := HS2.out; omega
        have nq2 : ¬ w.heap.size + 1 + 1 = gwc := by omega
        clear q2 hat
        go_wp2_with fail
        refine wp_region_still_tail 3 (by kernel_rfl) (by kernel_rfl) ?_
        simp only [List.take_succ_cons, List.take_zero, List.drop_succ_cons, List.drop_zero]
        repeat (refine wpStill_step (fun K hK => ?_); go_simp; refine hK _ ?_; clear hK K)
        refine wpStill_nil ?_
        go_wp2_with fail
        refine bodyPost_ret (v := .tuple #[.int .i64 0, .agg #[.int .u8 ((y0.kd.toNat : Nat) : Int), .int .i64 y0.ix, .int .i64 y0.ce, .int .i64 y0.st, .slice ao y0.vn ca, .slice bo y0.dn cb], .bool true, .int .i64 0]) (by simp [results, Try.results9, go_sem, r0, r1, r2, r3, r4, r5]) rfl ?_
        obtain ⟨g1, g2, g3⟩ := HRES.out
        rw [g1, g2, g3]
        have hal := below_then Bw.out HB.out
        have ho := (only_lo wc (w.heap.size + 1 + 1) (.int .u8 ((y0.kd.toNat : Nat) : Int)) (.int .i64 y0.ix) (.int .i64 y0.ce) (.int .i64 y0.st) (.slice ao y0.vn ca) (.slice bo y0.dn cb)).drew
        exact ⟨ao, ca, bo, cb, rfl, (HGwc.out.stay ho (by have := HS2.out; have := HSZ.out; omega)).mono (by have := HS2.out; have := HSZ.out; omega), hal.trans (ho.below (fun i hi => by omega) hal.size)⟩
    · rw [if_neg vv] at HEE
      subst HEE
      simp only [decide_eq_false (p := 1 ≤ v ∧ v ≤ 1073741824) vv] at HVE
      clear vv h h0 h1 hy0 hy1 HX
      go_enter Try.func9, Try.ntmps9
      go_wp2_with fail
      rw [← hw0, ← hw1, ← hw2]
      clear hw0 bw0 zw0 hw1 bw1 zw1 hw2 bw2 zw2
      refine (HAS.out _).mono ?_
      rintro e wa ⟨rfl, ha⟩
      have HB : Hid (Below w2.heap.size w2 wa) := ha
      clear ha HAS
      have q0 := Lw0.out wa HB.out
      have q1 := Lw1.out wa HB.out
      have q2 := Lw2.out wa HB.out
      have p0 := q0.cell (i := 0) rfl
      have p1 := q0.cell (i := 1) rfl
      have p2 := q0.cell (i := 2) rfl
      have p3 := q0.cell (i := 3) rfl
      have s0 := q1.cell (i := 0) rfl
      have s1 := q1.cell (i := 1) rfl
      have r0 := q2.cell (i := 0) rfl
      have r1 := q2.cell (i := 1) rfl
      have r2 := q2.cell (i := 2) rfl
      have r3 := q2.cell (i := 3) rfl
      have r4 := q2.cell (i := 4) rfl
      have r5 := q2.cell (i := 5) rfl
      have rf := q2.free
      clear q0 q1 q2
      go_wp2_with fail
      refine (HVE _).mono ?_
      rintro e w' ⟨rfl, hw'⟩
      obtain rfl := hw'.symm
      go_wp2_with fail
      refine bodyPost_ret (v := .tuple #[.int .i64 0, .agg #[.int .u8 0, .int .i64 0, .int .i64 0, .int .i64 0, .slice none 0 0, .slice none 0 0], .bool false, .int .i64 2]) (by simp [results, Try.results9, go_sem, r0, r1, r2, r3, r4, r5]) rfl ?_
      obtain ⟨rfl, rfl⟩ := HZ2.out (by first | assumption | decide | trivial)
      rw [(fin_z kd v).1, (fin_z kd v).2.1, (fin_z kd v).2.2]
      have hal := below_then Bw.out HB.out
      exact ⟨none, 0, none, 0, rfl, got_z _ _, hal.trans ((only_lo wa (w.heap.size + 1 + 1) (.int .u8 0) (.int .i64 0) (.int .i64 0) (.int .i64 0) (.slice none 0 0) (.slice none 0 0)).below (fun i hi => by omega) hal.size)⟩
  · rw [if_neg eC] at HEE
    subst HEE
    have hq : (E == 0) = false := by simpa using eC
    have hq2 : (E != 0) = true := by simpa using eC
    clear HVE h h0 h1 hy0 hy1 HX
    go_enter Try.func9, Try.ntmps9
    go_wp2_with fail
    rw [← hw0, ← hw1, ← hw2]
    clear hw0 bw0 zw0 hw1 bw1 zw1 hw2 bw2 zw2
    refine (HAS.out _).mono ?_
    rintro e wa ⟨rfl, ha⟩
    have HB : Hid (Below w2.heap.size w2 wa) := ha
    clear ha HAS
    have q0 := Lw0.out wa HB.out
    have q1 := Lw1.out wa HB.out
    have q2 := Lw2.out wa HB.out
    have p0 := q0.cell (i := 0) rfl
    have p1 := q0.cell (i := 1) rfl
    have p2 := q0.cell (i := 2) rfl
    have p3 := q0.cell (i := 3) rfl
    have s0 := q1.cell (i := 0) rfl
    have s1 := q1.cell (i := 1) rfl
    have r0 := q2.cell (i := 0) rfl
    have r1 := q2.cell (i := 1) rfl
    have r2 := q2.cell (i := 2) rfl
    have r3 := q2.cell (i := 3) rfl
    have r4 := q2.cell (i := 4) rfl
    have r5 := q2.cell (i := 5) rfl
    have rf := q2.free
    clear q0 q1 q2
    go_wp2_with fail
    refine bodyPost_ret (v := .tuple #[.int .i64 0, .agg #[.int .u8 0, .int .i64 0, .int .i64 0, .int .i64 0, .slice none 0 0, .slice none 0 0], .bool false, .int .i64 E]) (by simp [results, Try.results9, go_sem, r0, r1, r2, r3, r4, r5]) rfl ?_
    obtain ⟨rfl, rfl⟩ := HZ2.out (by first | assumption | decide | trivial)
    rw [(fin_z kd v).1, (fin_z kd v).2.1, (fin_z kd v).2.2]
    have hal := below_then Bw.out HB.out
    exact ⟨none, 0, none, 0, rfl, got_z _ _, hal.trans ((only_lo wa (w.heap.size + 1 + 1) (.int .u8 0) (.int .i64 0) (.int .i64 0) (.int .i64 0) (.slice none 0 0) (.slice none 0 0)).below (fun i hi => by omega) hal.size)⟩
end Go.Proofs.Ytmdeadakbohpeaa
