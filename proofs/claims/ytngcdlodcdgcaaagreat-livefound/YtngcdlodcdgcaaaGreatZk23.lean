import Derived.Test.YtngcdlodcdgcaaaGreatZk21
namespace Go.Proofs.YtngcdlodcdgcaaaGreat
open Go.RowKit
theorem b_alloc {a v : World} (h : Below a.heap.size a v) (o : Obj) : Below a.heap.size a (v.alloc o) := h.alloc h.size o
theorem b_set {a v : World} (h : Below a.heap.size a v) {p : Addr} (hp : a.heap.size <= p.block) (u : Value) : Below a.heap.size a (v.setCell p u) := h.setCell hp u
def At (a v : World) (g : Nat) (cs : Array Value) (t : TypeId) : Prop := a.heap.size <= g /\ v.heap[g]? = some (.cells cs t (0, 0))
theorem At.alloc {a v : World} {g : Nat} {cs : Array Value} {t : TypeId} (h : At a v g cs t) (o : Obj) : At a (v.alloc o) g cs t :=
  ⟨h.1, (Below.heap_alloc v o g (Array.getElem?_eq_some_iff.1 h.2).1).trans h.2⟩
theorem at_new {a v : World} (h : Below a.heap.size a v) (cs : Array Value) (t : TypeId) : At a (v.alloc (.cells cs t)) v.heap.size cs t := ⟨h.size, heap_alloc_new v _⟩
theorem At.cell {a v : World} {g : Nat} {cs : Array Value} {t : TypeId} (h : At a v g cs t) {i : Nat} {u : Value} (hi : cs[i]? = some u) : v.cell? ⟨g, i, none⟩ = some u := by
  rw [cell_of_row _ _ _ _ _ _ h.2]; exact hi
theorem At.free {a v : World} {g : Nat} {cs : Array Value} {t : TypeId} (h : At a v g cs t) (i : Nat) : v.frozen? ⟨g, i, none⟩ = false := by
  unfold World.frozen?; rw [h.2]; simp
theorem At.set {a v : World} {g : Nat} {cs : Array Value} {t : TypeId} (h : At a v g cs t) (i : Nat) (u : Value) : At a (v.setCell ⟨g, i, none⟩ u) g (cs.setIfInBounds i u) t := by
  refine ⟨h.1, ?_⟩
  simp [World.setCell, Array.getElem?_modify, h.2]
theorem At.far {a v : World} {g k : Nat} {cs : Array Value} {t : TypeId} (h : At a v g cs t) (hk : g ≠ k) (i : Nat) (u : Value) : At a (v.setCell ⟨k, i, none⟩ u) g cs t :=
  ⟨h.1, (Below.heap_setCell _ _ _ _ hk).trans h.2⟩
theorem At.ne {a v : World} {g k : Nat} {cs cs' : Array Value} {t t' : TypeId} (h : At a v g cs t) (h' : At a v k cs' t') (ht : t ≠ t') : g ≠ k := by
  rintro rfl
  have := h.2.symm.trans h'.2
  simp at this
  exact ht this.2
theorem At.drew {a v : World} {g : Nat} {cs : Array Value} {t : TypeId} (h : At a v g cs t) : At a v.drew g cs t := h
def rops : Array Oper := #[{ dst := some 5, op := Op.fieldAddr 119 (.tmp 1) 1, type := 0, pos := "parts.go:49", after := #[], guard := none }, { dst := some 6, op := Op.load 74 (.tmp 5), type := 74, pos := "parts.go:49", after := #[{ on := 0, ground := .data }], guard := none }, { dst := some 7, op := Op.indexAddr 74 (.tmp 6) (Operand.const (Value.int IntKind.i64 0)), type := 0, pos := "parts.go:49", after := #[{ on := 1, ground := .data }], guard := none }, { dst := some 8, op := Op.load 5 (.tmp 7), type := 5, pos := "parts.go:49", after := #[{ on := 2, ground := .data }], guard := none }, { dst := some 9, op := Op.fieldAddr 119 (.tmp 1) 2, type := 0, pos := "parts.go:49", after := #[], guard := none }, { dst := some 10, op := Op.load 74 (.tmp 9), type := 74, pos := "parts.go:49", after := #[{ on := 4, ground := .data }], guard := none }, { dst := some 11, op := Op.call { callee := Callee.value (Operand.func 94), args := #[.tmp 10], argTypes := #[74] }, type := 3, pos := "parts.go:51", after := #[{ on := 5, ground := .data }], guard := none }, { dst := some 12, op := Op.fieldAddr 119 (.tmp 1) 3, type := 0, pos := "parts.go:49", after := #[], guard := none }, { dst := some 13, op := Op.load 74 (.tmp 12), type := 74, pos := "parts.go:49", after := #[{ on := 7, ground := .data }], guard := none }, { dst := some 14, op := Op.call { callee := Callee.value (Operand.func 94), args := #[.tmp 13], argTypes := #[74] }, type := 3, pos := "parts.go:52", after := #[{ on := 8, ground := .data }, { on := 6, ground := Ground.chain }], guard := none }, { dst := some 15, op := Op.fieldAddr 119 (.tmp 1) 4, type := 0, pos := "parts.go:49", after := #[], guard := none }, { dst := some 16, op := Op.load 74 (.tmp 15), type := 74, pos := "parts.go:49", after := #[{ on := 10, ground := .data }], guard := none }, { dst := some 17, op := Op.call { callee := Callee.value (Operand.func 94), args := #[.tmp 16], argTypes := #[74] }, type := 3, pos := "parts.go:53", after := #[{ on := 11, ground := .data }, { on := 9, ground := Ground.chain }], guard := none }, { dst := some 18, op := Op.fieldAddr 119 (.tmp 1) 5, type := 0, pos := "parts.go:49", after := #[], guard := none }, { dst := some 19, op := Op.load 74 (.tmp 18), type := 74, pos := "parts.go:49", after := #[{ on := 13, ground := .data }], guard := none }, { dst := some 20, op := Op.call { callee := Callee.builtin Builtin.len, args := #[.tmp 19], argTypes := #[74] }, type := 3, pos := "parts.go:49", after := #[{ on := 14, ground := .data }], guard := none }, { dst := some 21, op := Op.binOp BinOp.quo 3 (.tmp 20) (Operand.const (Value.int IntKind.i64 4)) 3, type := 3, pos := "parts.go:49", after := #[{ on := 15, ground := .data }], guard := none }, { dst := some 22, op := Op.makeSlice 33 (.tmp 21) (.tmp 21), type := 33, pos := "parts.go:49", after := #[{ on := 16, ground := .data }, { on := 16, ground := .data }], guard := none }, { dst := some 23, op := Op.fieldAddr 119 (.tmp 1) 6, type := 0, pos := "parts.go:49", after := #[], guard := none }, { dst := some 24, op := Op.load 74 (.tmp 23), type := 74, pos := "parts.go:49", after := #[{ on := 18, ground := .data }], guard := none }, { dst := some 25, op := Op.call { callee := Callee.builtin Builtin.len, args := #[.tmp 24], argTypes := #[74] }, type := 3, pos := "parts.go:49", after := #[{ on := 19, ground := .data }], guard := none }, { dst := some 26, op := Op.makeSlice 74 (.tmp 25) (.tmp 25), type := 74, pos := "parts.go:49", after := #[{ on := 20, ground := .data }, { on := 20, ground := .data }], guard := none }, { dst := some 27, op := Op.build 83 #[(0, .tmp 8), (1, .tmp 11), (2, .tmp 14), (3, .tmp 17), (4, .tmp 22), (5, .tmp 26)], type := 83, pos := "parts.go:49", after := #[{ on := 3, ground := .data }, { on := 6, ground := .data }, { on := 9, ground := .data }, { on := 12, ground := .data }, { on := 17, ground := .data }, { on := 21, ground := .data }], guard := none }, { dst := some 3, op := Op.alloc 83, type := 0, pos := "parts.go:49", after := #[], guard := none }, { dst := none, op := Op.store 83 (.tmp 3) (.tmp 27), type := 0, pos := "parts.go:49", after := #[{ on := 23, ground := .data }, { on := 22, ground := .data }, { on := 12, ground := Ground.chain }, { on := 0, ground := Ground.phase }, { on := 1, ground := Ground.phase }, { on := 2, ground := Ground.phase }, { on := 3, ground := Ground.phase }, { on := 4, ground := Ground.phase }, { on := 5, ground := Ground.phase }, { on := 6, ground := Ground.phase }, { on := 7, ground := Ground.phase }, { on := 8, ground := Ground.phase }, { on := 9, ground := Ground.phase }, { on := 10, ground := Ground.phase }, { on := 11, ground := Ground.phase }, { on := 12, ground := Ground.phase }, { on := 13, ground := Ground.phase }, { on := 14, ground := Ground.phase }, { on := 15, ground := Ground.phase }, { on := 16, ground := Ground.phase }, { on := 17, ground := Ground.phase }, { on := 18, ground := Ground.phase }, { on := 19, ground := Ground.phase }, { on := 20, ground := Ground.phase }, { on := 21, ground := Ground.phase }, { on := 22, ground := Ground.phase }, { on := 23, ground := Ground.phase }], guard := none }]
set_option maxHeartbeats 8000000 in
set_option maxRecDepth 100000 in
theorem read_region (w1 : World) (q g o m d N kn x1 x2 x3 : Nat) (Z1 Z2 : Array Value) (a0 u0 : Value)
    (hS : ∀ v, Below w1.heap.size w1 v -> (v.cell? ⟨q, 1, none⟩ = some (.slice (some ⟨g, o + 2, none⟩) 1 1) /\ v.cell? ⟨q, 2, none⟩ = some (.slice (some ⟨g, o + 3, none⟩) 1 1) /\ v.cell? ⟨q, 3, none⟩ = some (.slice (some ⟨g, o + 4, none⟩) 4 4) /\ v.cell? ⟨q, 4, none⟩ = some (.slice (some ⟨g, o + 8, none⟩) 4 4) /\ v.cell? ⟨q, 5, none⟩ = some (.slice (some ⟨g, o + 12, none⟩) m m) /\ v.cell? ⟨q, 6, none⟩ = some (.slice (some ⟨g, o + 12 + m, none⟩) d d) /\ v.cell? ⟨g, o + 2, none⟩ = some (.int .u8 (kn : Int))))
    (P1 : ∀ v, Below w1.heap.size w1 v -> Calls Tryz.prog 94 #[.slice (some ⟨g, o + 3, none⟩) 1 1] v fun e w' => e = .returned (.int .i64 (x1 : Int)) /\ w' = v)
    (P2 : ∀ v, Below w1.heap.size w1 v -> Calls Tryz.prog 94 #[.slice (some ⟨g, o + 4, none⟩) 4 4] v fun e w' => e = .returned (.int .i64 (x2 : Int)) /\ w' = v)
    (P3 : ∀ v, Below w1.heap.size w1 v -> Calls Tryz.prog 94 #[.slice (some ⟨g, o + 8, none⟩) 4 4] v fun e w' => e = .returned (.int .i64 (x3 : Int)) /\ w' = v)
    (hmk1 : ∀ w, (Instr.makeSlice 33 (.int .i64 (N : Int)) (.int .i64 (N : Int))).run Tryz.prog w = .ok (.slice (some ⟨w.heap.size, 0, none⟩) N N) (w.alloc (.cells Z1 3)))
    (hmk2 : ∀ w, (Instr.makeSlice 74 (.int .i64 (d : Int)) (.int .i64 (d : Int))).run Tryz.prog w = .ok (.slice (some ⟨w.heap.size, 0, none⟩) d d) (w.alloc (.cells Z2 5)))
    (hwN : IntKind.i64.wrap (N : Int) = (N : Int)) (hm4 : (m : Int) / 4 = (N : Int))
    (Q : Exit -> Act -> World -> Prop) (hQp : ∀ ch a v, Q (.panic ch) a v -> False) (hQ : ∀ g1 g2 g3 v, Below w1.heap.size w1 v -> At w1 v g1 Z1 3 -> At w1 v g2 Z2 5 -> At w1 v g3 #[.int .u8 (kn : Int), .int .i64 (x1 : Int), .int .i64 (x2 : Int), .int .i64 (x3 : Int), .slice (some ⟨g1, 0, none⟩) N N, .slice (some ⟨g2, 0, none⟩) d d] 83 -> Q .normal { tmps := #[a0, .pointer (some ⟨q, 0, none⟩), .pointer (some ⟨q + 1, 0, none⟩), .pointer (some ⟨g3, 0, none⟩), u0, .pointer (some ⟨q, 1, none⟩), .slice (some ⟨g, o + 2, none⟩) 1 1, .pointer (some ⟨g, o + 2, none⟩), .int .u8 (kn : Int), .pointer (some ⟨q, 2, none⟩), .slice (some ⟨g, o + 3, none⟩) 1 1, .int .i64 (x1 : Int), .pointer (some ⟨q, 3, none⟩), .slice (some ⟨g, o + 4, none⟩) 4 4, .int .i64 (x2 : Int), .pointer (some ⟨q, 4, none⟩), .slice (some ⟨g, o + 8, none⟩) 4 4, .int .i64 (x3 : Int), .pointer (some ⟨q, 5, none⟩), .slice (some ⟨g, o + 12, none⟩) m m, .int .i64 (m : Int), .int .i64 (N : Int), .slice (some ⟨g1, 0, none⟩) N N, .pointer (some ⟨q, 6, none⟩), .slice (some ⟨g, o + 12 + m, none⟩) d d, .int .i64 (d : Int), .slice (some ⟨g2, 0, none⟩) d d, .agg #[.int .u8 (kn : Int), .int .i64 (x1 : Int), .int .i64 (x2 : Int), .int .i64 (x3 : Int), .slice (some ⟨g1, 0, none⟩) N N, .slice (some ⟨g2, 0, none⟩) d d], u0, u0, u0, u0, u0, u0, u0, u0, u0, u0, u0, u0, u0, u0, u0, u0, u0, u0, u0, u0, u0], defers := [] } v) :
    Code.wp Tryz.prog (Code.region 1 rops true) Q { tmps := #[a0, .pointer (some ⟨q, 0, none⟩), .pointer (some ⟨q + 1, 0, none⟩), u0, u0, u0, u0, u0, u0, u0, u0, u0, u0, u0, u0, u0, u0, u0, u0, u0, u0, u0, u0, u0, u0, u0, u0, u0, u0, u0, u0, u0, u0, u0, u0, u0, u0, u0, u0, u0, u0, u0, u0, u0, u0, u0, u0, u0, u0], defers := [] } w1 := by
  have HQ : Hid (∀ g1 g2 g3 v, Below w1.heap.size w1 v -> At w1 v g1 Z1 3 -> At w1 v g2 Z2 5 -> At w1 v g3 #[.int .u8 (kn : Int), .int .i64 (x1 : Int), .int .i64 (x2 : Int), .int .i64 (x3 : Int), .slice (some ⟨g1, 0, none⟩) N N, .slice (some ⟨g2, 0, none⟩) d d] 83 -> Q .normal { tmps := #[a0, .pointer (some ⟨q, 0, none⟩), .pointer (some ⟨q + 1, 0, none⟩), .pointer (some ⟨g3, 0, none⟩), u0, .pointer (some ⟨q, 1, none⟩), .slice (some ⟨g, o + 2, none⟩) 1 1, .pointer (some ⟨g, o + 2, none⟩), .int .u8 (kn : Int), .pointer (some ⟨q, 2, none⟩), .slice (some ⟨g, o + 3, none⟩) 1 1, .int .i64 (x1 : Int), .pointer (some ⟨q, 3, none⟩), .slice (some ⟨g, o + 4, none⟩) 4 4, .int .i64 (x2 : Int), .pointer (some ⟨q, 4, none⟩), .slice (some ⟨g, o + 8, none⟩) 4 4, .int .i64 (x3 : Int), .pointer (some ⟨q, 5, none⟩), .slice (some ⟨g, o + 12, none⟩) m m, .int .i64 (m : Int), .int .i64 (N : Int), .slice (some ⟨g1, 0, none⟩) N N, .pointer (some ⟨q, 6, none⟩), .slice (some ⟨g, o + 12 + m, none⟩) d d, .int .i64 (d : Int), .slice (some ⟨g2, 0, none⟩) d d, .agg #[.int .u8 (kn : Int), .int .i64 (x1 : Int), .int .i64 (x2 : Int), .int .i64 (x3 : Int), .slice (some ⟨g1, 0, none⟩) N N, .slice (some ⟨g2, 0, none⟩) d d], u0, u0, u0, u0, u0, u0, u0, u0, u0, u0, u0, u0, u0, u0, u0, u0, u0, u0, u0, u0, u0], defers := [] } v) := hQ
  obtain ⟨S, HS1, HS⟩ : ∃ S : World -> Prop, Hid (∀ v, S v -> (v.cell? ⟨q, 1, none⟩ = some (.slice (some ⟨g, o + 2, none⟩) 1 1) /\ v.cell? ⟨q, 2, none⟩ = some (.slice (some ⟨g, o + 3, none⟩) 1 1) /\ v.cell? ⟨q, 3, none⟩ = some (.slice (some ⟨g, o + 4, none⟩) 4 4) /\ v.cell? ⟨q, 4, none⟩ = some (.slice (some ⟨g, o + 8, none⟩) 4 4) /\ v.cell? ⟨q, 5, none⟩ = some (.slice (some ⟨g, o + 12, none⟩) m m) /\ v.cell? ⟨q, 6, none⟩ = some (.slice (some ⟨g, o + 12 + m, none⟩) d d) /\ v.cell? ⟨g, o + 2, none⟩ = some (.int .u8 (kn : Int)))) /\ Hid (∀ v, Below w1.heap.size w1 v -> S v) := ⟨fun v => v.cell? ⟨q, 1, none⟩ = some (.slice (some ⟨g, o + 2, none⟩) 1 1) /\ v.cell? ⟨q, 2, none⟩ = some (.slice (some ⟨g, o + 3, none⟩) 1 1) /\ v.cell? ⟨q, 3, none⟩ = some (.slice (some ⟨g, o + 4, none⟩) 4 4) /\ v.cell? ⟨q, 4, none⟩ = some (.slice (some ⟨g, o + 8, none⟩) 4 4) /\ v.cell? ⟨q, 5, none⟩ = some (.slice (some ⟨g, o + 12, none⟩) m m) /\ v.cell? ⟨q, 6, none⟩ = some (.slice (some ⟨g, o + 12 + m, none⟩) d d) /\ v.cell? ⟨g, o + 2, none⟩ = some (.int .u8 (kn : Int)), fun v h => h, hS⟩
  have HP1 : Hid (∀ v, Below w1.heap.size w1 v -> Calls Tryz.prog 94 #[.slice (some ⟨g, o + 3, none⟩) 1 1] v fun e w' => e = .returned (.int .i64 (x1 : Int)) /\ w' = v) := P1
  have HP2 : Hid (∀ v, Below w1.heap.size w1 v -> Calls Tryz.prog 94 #[.slice (some ⟨g, o + 4, none⟩) 4 4] v fun e w' => e = .returned (.int .i64 (x2 : Int)) /\ w' = v) := P2
  have HP3 : Hid (∀ v, Below w1.heap.size w1 v -> Calls Tryz.prog 94 #[.slice (some ⟨g, o + 8, none⟩) 4 4] v fun e w' => e = .returned (.int .i64 (x3 : Int)) /\ w' = v) := P3
  clear hS P1 P2 P3 hQ
  have HF : Hid (∀ (v : World) (g1 g2 g3 : Nat), Below w1.heap.size w1 v -> At w1 v g1 Z1 3 -> At w1 v g2 Z2 5 -> At w1 v g3 #[.int .u8 0, .int .i64 0, .int .i64 0, .int .i64 0, .slice none 0 0, .slice none 0 0] 83 -> wpAnyH Tryz.prog .any rops Q S 1 #[true, true, true, true, true, true, true, true, true, true, true, true, true, true, true, true, true, true, true, true, true, true, true, true, false] { tmps := #[a0, .pointer (some ⟨q, 0, none⟩), .pointer (some ⟨q + 1, 0, none⟩), .pointer (some ⟨g3, 0, none⟩), u0, .pointer (some ⟨q, 1, none⟩), .slice (some ⟨g, o + 2, none⟩) 1 1, .pointer (some ⟨g, o + 2, none⟩), .int .u8 (kn : Int), .pointer (some ⟨q, 2, none⟩), .slice (some ⟨g, o + 3, none⟩) 1 1, .int .i64 (x1 : Int), .pointer (some ⟨q, 3, none⟩), .slice (some ⟨g, o + 4, none⟩) 4 4, .int .i64 (x2 : Int), .pointer (some ⟨q, 4, none⟩), .slice (some ⟨g, o + 8, none⟩) 4 4, .int .i64 (x3 : Int), .pointer (some ⟨q, 5, none⟩), .slice (some ⟨g, o + 12, none⟩) m m, .int .i64 (m : Int), .int .i64 (N : Int), .slice (some ⟨g1, 0, none⟩) N N, .pointer (some ⟨q, 6, none⟩), .slice (some ⟨g, o + 12 + m, none⟩) d d, .int .i64 (d : Int), .slice (some ⟨g2, 0, none⟩) d d, .agg #[.int .u8 (kn : Int), .int .i64 (x1 : Int), .int .i64 (x2 : Int), .int .i64 (x3 : Int), .slice (some ⟨g1, 0, none⟩) N N, .slice (some ⟨g2, 0, none⟩) d d], u0, u0, u0, u0, u0, u0, u0, u0, u0, u0, u0, u0, u0, u0, u0, u0, u0, u0, u0, u0, u0], defers := [] } v) := fun v g1 g2 g3 hb f1 f2 f3 => by
    have n13 := f1.ne f3 (by decide)
    have n23 := f2.ne f3 (by decide)
    have c0 := f3.cell (i := 0) rfl
    have c1 := f3.cell (i := 1) rfl
    have c2 := f3.cell (i := 2) rfl
    have c3 := f3.cell (i := 3) rfl
    have c4 := f3.cell (i := 4) rfl
    have c5 := f3.cell (i := 5) rfl
    have cf := f3.free
    refine wpAnyH_ready (rs := [24]) (by kernel_rfl) (by simp) ?_
    refine AllReadyH.cons (o := { dst := none, op := Op.store 83 (.tmp 3) (.tmp 27), type := 0, pos := "parts.go:49", after := #[{ on := 23, ground := .data }, { on := 22, ground := .data }, { on := 12, ground := Ground.chain }, { on := 0, ground := Ground.phase }, { on := 1, ground := Ground.phase }, { on := 2, ground := Ground.phase }, { on := 3, ground := Ground.phase }, { on := 4, ground := Ground.phase }, { on := 5, ground := Ground.phase }, { on := 6, ground := Ground.phase }, { on := 7, ground := Ground.phase }, { on := 8, ground := Ground.phase }, { on := 9, ground := Ground.phase }, { on := 10, ground := Ground.phase }, { on := 11, ground := Ground.phase }, { on := 12, ground := Ground.phase }, { on := 13, ground := Ground.phase }, { on := 14, ground := Ground.phase }, { on := 15, ground := Ground.phase }, { on := 16, ground := Ground.phase }, { on := 17, ground := Ground.phase }, { on := 18, ground := Ground.phase }, { on := 19, ground := Ground.phase }, { on := 20, ground := Ground.phase }, { on := 21, ground := Ground.phase }, { on := 22, ground := Ground.phase }, { on := 23, ground := Ground.phase }], guard := none }) rfl (fun K hK => ?_) AllReadyH.nil
    go_simp
    refine hK.out _ _ (HS.out _ (b_set (b_set (b_set (b_set (b_set (b_set hb f3.1 _) f3.1 _) f3.1 _) f3.1 _) f3.1 _) f3.1 _)) (fun hHeld => ?_)
    refine wpAnyH_done (by kernel_rfl) ?_ _
    refine HQ.out g1 g2 g3 _ (b_set (b_set (b_set (b_set (b_set (b_set hb f3.1 _) f3.1 _) f3.1 _) f3.1 _) f3.1 _) f3.1 _) ?_ ?_ ?_
    · exact (((((f1.far n13 _ _).far n13 _ _).far n13 _ _).far n13 _ _).far n13 _ _).far n13 _ _
    · exact (((((f2.far n23 _ _).far n23 _ _).far n23 _ _).far n23 _ _).far n23 _ _).far n23 _ _
    · exact (((((f3.set 0 _).set 1 _).set 2 _).set 3 _).set 4 _).set 5 _
  have H3111 : Hid (∀ (v : World) (g1 g2 g3 : Nat), Below w1.heap.size w1 v -> At w1 v g1 Z1 3 -> At w1 v g2 Z2 5 -> At w1 v g3 #[.int .u8 0, .int .i64 0, .int .i64 0, .int .i64 0, .slice none 0 0, .slice none 0 0] 83 -> wpAnyH Tryz.prog .any rops Q S 2 #[true, true, true, true, true, true, true, true, true, true, true, true, true, true, true, true, true, true, true, true, true, true, false, true, false] { tmps := #[a0, .pointer (some ⟨q, 0, none⟩), .pointer (some ⟨q + 1, 0, none⟩), .pointer (some ⟨g3, 0, none⟩), u0, .pointer (some ⟨q, 1, none⟩), .slice (some ⟨g, o + 2, none⟩) 1 1, .pointer (some ⟨g, o + 2, none⟩), .int .u8 (kn : Int), .pointer (some ⟨q, 2, none⟩), .slice (some ⟨g, o + 3, none⟩) 1 1, .int .i64 (x1 : Int), .pointer (some ⟨q, 3, none⟩), .slice (some ⟨g, o + 4, none⟩) 4 4, .int .i64 (x2 : Int), .pointer (some ⟨q, 4, none⟩), .slice (some ⟨g, o + 8, none⟩) 4 4, .int .i64 (x3 : Int), .pointer (some ⟨q, 5, none⟩), .slice (some ⟨g, o + 12, none⟩) m m, .int .i64 (m : Int), .int .i64 (N : Int), .slice (some ⟨g1, 0, none⟩) N N, .pointer (some ⟨q, 6, none⟩), .slice (some ⟨g, o + 12 + m, none⟩) d d, .int .i64 (d : Int), .slice (some ⟨g2, 0, none⟩) d d, u0, u0, u0, u0, u0, u0, u0, u0, u0, u0, u0, u0, u0, u0, u0, u0, u0, u0, u0, u0, u0, u0], defers := [] } v) := fun v g1 g2 g3 hb f1 f2 f3 => by
    refine wpAnyH_take (i := 22) (oi := { dst := some 27, op := Op.build 83 #[(0, .tmp 8), (1, .tmp 11), (2, .tmp 14), (3, .tmp 17), (4, .tmp 22), (5, .tmp 26)], type := 83, pos := "parts.go:49", after := #[{ on := 3, ground := .data }, { on := 6, ground := .data }, { on := 9, ground := .data }, { on := 12, ground := .data }, { on := 17, ground := .data }, { on := 21, ground := .data }], guard := none }) (v := .agg #[.int .u8 (kn : Int), .int .i64 (x1 : Int), .int .i64 (x2 : Int), .int .i64 (x3 : Int), .slice (some ⟨g1, 0, none⟩) N N, .slice (some ⟨g2, 0, none⟩) d d]) rfl (by kernel_rfl) (by kernel_rfl) (by kernel_rfl) (fun _ _ _ h => (hQp _ _ _ h).elim) (Or.inl ⟨by kernel_rfl, ?_⟩) (HS.out _ hb) ?_
    · intro w' hSw
      obtain ⟨s1, s2, s3, s4, s5, s6, s7⟩ := HS1.out _ hSw
      go_simp <;> first | with_reducible rfl | assumption
    simp only [Act.put]
    exact HF.out _ g1 g2 g3 hb f1 f2 f3
  have H3011 : Hid (∀ (v : World) (g2 g3 : Nat), Below w1.heap.size w1 v -> At w1 v g2 Z2 5 -> At w1 v g3 #[.int .u8 0, .int .i64 0, .int .i64 0, .int .i64 0, .slice none 0 0, .slice none 0 0] 83 -> wpAnyH Tryz.prog .any rops Q S 3 #[true, true, true, true, true, true, true, true, true, true, true, true, true, true, true, true, true, false, true, true, true, true, false, true, false] { tmps := #[a0, .pointer (some ⟨q, 0, none⟩), .pointer (some ⟨q + 1, 0, none⟩), .pointer (some ⟨g3, 0, none⟩), u0, .pointer (some ⟨q, 1, none⟩), .slice (some ⟨g, o + 2, none⟩) 1 1, .pointer (some ⟨g, o + 2, none⟩), .int .u8 (kn : Int), .pointer (some ⟨q, 2, none⟩), .slice (some ⟨g, o + 3, none⟩) 1 1, .int .i64 (x1 : Int), .pointer (some ⟨q, 3, none⟩), .slice (some ⟨g, o + 4, none⟩) 4 4, .int .i64 (x2 : Int), .pointer (some ⟨q, 4, none⟩), .slice (some ⟨g, o + 8, none⟩) 4 4, .int .i64 (x3 : Int), .pointer (some ⟨q, 5, none⟩), .slice (some ⟨g, o + 12, none⟩) m m, .int .i64 (m : Int), .int .i64 (N : Int), u0, .pointer (some ⟨q, 6, none⟩), .slice (some ⟨g, o + 12 + m, none⟩) d d, .int .i64 (d : Int), .slice (some ⟨g2, 0, none⟩) d d, u0, u0, u0, u0, u0, u0, u0, u0, u0, u0, u0, u0, u0, u0, u0, u0, u0, u0, u0, u0, u0, u0], defers := [] } v) := fun v g2 g3 hb f2 f3 => by
    refine wpAnyH_ready (rs := [17]) (by kernel_rfl) (by simp) ?_
    refine AllReadyH.cons (o := { dst := some 22, op := Op.makeSlice 33 (.tmp 21) (.tmp 21), type := 33, pos := "parts.go:49", after := #[{ on := 16, ground := .data }, { on := 16, ground := .data }], guard := none }) rfl (fun K hK => ?_) AllReadyH.nil
    rotate_left

    · skip
      go_simp
      refine hK.out _ _ (HS.out _ (b_alloc hb _)) (fun hHeld => ?_)
      exact H3111.out _ _ g2 g3 (b_alloc hb _) (at_new hb _ _) (f2.alloc _) (f3.alloc _)
  have H3101 : Hid (∀ (v : World) (g1 g3 : Nat), Below w1.heap.size w1 v -> At w1 v g1 Z1 3 -> At w1 v g3 #[.int .u8 0, .int .i64 0, .int .i64 0, .int .i64 0, .slice none 0 0, .slice none 0 0] 83 -> wpAnyH Tryz.prog .any rops Q S 3 #[true, true, true, true, true, true, true, true, true, true, true, true, true, true, true, true, true, true, true, true, true, false, false, true, false] { tmps := #[a0, .pointer (some ⟨q, 0, none⟩), .pointer (some ⟨q + 1, 0, none⟩), .pointer (some ⟨g3, 0, none⟩), u0, .pointer (some ⟨q, 1, none⟩), .slice (some ⟨g, o + 2, none⟩) 1 1, .pointer (some ⟨g, o + 2, none⟩), .int .u8 (kn : Int), .pointer (some ⟨q, 2, none⟩), .slice (some ⟨g, o + 3, none⟩) 1 1, .int .i64 (x1 : Int), .pointer (some ⟨q, 3, none⟩), .slice (some ⟨g, o + 4, none⟩) 4 4, .int .i64 (x2 : Int), .pointer (some ⟨q, 4, none⟩), .slice (some ⟨g, o + 8, none⟩) 4 4, .int .i64 (x3 : Int), .pointer (some ⟨q, 5, none⟩), .slice (some ⟨g, o + 12, none⟩) m m, .int .i64 (m : Int), .int .i64 (N : Int), .slice (some ⟨g1, 0, none⟩) N N, .pointer (some ⟨q, 6, none⟩), .slice (some ⟨g, o + 12 + m, none⟩) d d, .int .i64 (d : Int), u0, u0, u0, u0, u0, u0, u0, u0, u0, u0, u0, u0, u0, u0, u0, u0, u0, u0, u0, u0, u0, u0, u0], defers := [] } v) := fun v g1 g3 hb f1 f3 => by
    refine wpAnyH_ready (rs := [21]) (by kernel_rfl) (by simp) ?_
    refine AllReadyH.cons (o := { dst := some 26, op := Op.makeSlice 74 (.tmp 25) (.tmp 25), type := 74, pos := "parts.go:49", after := #[{ on := 20, ground := .data }, { on := 20, ground := .data }], guard := none }) rfl (fun K hK => ?_) AllReadyH.nil
    rotate_left

    · skip
      go_simp
      refine hK.out _ _ (HS.out _ (b_alloc hb _)) (fun hHeld => ?_)
      exact H3111.out _ g1 _ g3 (b_alloc hb _) (f1.alloc _) (at_new hb _ _) (f3.alloc _)
  have H3110 : Hid (∀ (v : World) (g1 g2 : Nat), Below w1.heap.size w1 v -> At w1 v g1 Z1 3 -> At w1 v g2 Z2 5 -> wpAnyH Tryz.prog .any rops Q S 3 #[true, true, true, true, true, true, true, true, true, true, true, true, true, true, true, true, true, true, true, true, true, true, false, false, false] { tmps := #[a0, .pointer (some ⟨q, 0, none⟩), .pointer (some ⟨q + 1, 0, none⟩), u0, u0, .pointer (some ⟨q, 1, none⟩), .slice (some ⟨g, o + 2, none⟩) 1 1, .pointer (some ⟨g, o + 2, none⟩), .int .u8 (kn : Int), .pointer (some ⟨q, 2, none⟩), .slice (some ⟨g, o + 3, none⟩) 1 1, .int .i64 (x1 : Int), .pointer (some ⟨q, 3, none⟩), .slice (some ⟨g, o + 4, none⟩) 4 4, .int .i64 (x2 : Int), .pointer (some ⟨q, 4, none⟩), .slice (some ⟨g, o + 8, none⟩) 4 4, .int .i64 (x3 : Int), .pointer (some ⟨q, 5, none⟩), .slice (some ⟨g, o + 12, none⟩) m m, .int .i64 (m : Int), .int .i64 (N : Int), .slice (some ⟨g1, 0, none⟩) N N, .pointer (some ⟨q, 6, none⟩), .slice (some ⟨g, o + 12 + m, none⟩) d d, .int .i64 (d : Int), .slice (some ⟨g2, 0, none⟩) d d, u0, u0, u0, u0, u0, u0, u0, u0, u0, u0, u0, u0, u0, u0, u0, u0, u0, u0, u0, u0, u0, u0], defers := [] } v) := fun v g1 g2 hb f1 f2 => by
    refine wpAnyH_take (i := 22) (oi := { dst := some 27, op := Op.build 83 #[(0, .tmp 8), (1, .tmp 11), (2, .tmp 14), (3, .tmp 17), (4, .tmp 22), (5, .tmp 26)], type := 83, pos := "parts.go:49", after := #[{ on := 3, ground := .data }, { on := 6, ground := .data }, { on := 9, ground := .data }, { on := 12, ground := .data }, { on := 17, ground := .data }, { on := 21, ground := .data }], guard := none }) (v := .agg #[.int .u8 (kn : Int), .int .i64 (x1 : Int), .int .i64 (x2 : Int), .int .i64 (x3 : Int), .slice (some ⟨g1, 0, none⟩) N N, .slice (some ⟨g2, 0, none⟩) d d]) rfl (by kernel_rfl) (by kernel_rfl) (by kernel_rfl) (fun _ _ _ h => (hQp _ _ _ h).elim) (Or.inl ⟨by kernel_rfl, ?_⟩) (HS.out _ hb) ?_
    · intro w' hSw
      obtain ⟨s1, s2, s3, s4, s5, s6, s7⟩ := HS1.out _ hSw
      go_simp <;> first | with_reducible rfl | assumption
    simp only [Act.put]
    refine wpAnyH_ready (rs := [23]) (by kernel_rfl) (by simp) ?_
    refine AllReadyH.cons (o := { dst := some 3, op := Op.alloc 83, type := 0, pos := "parts.go:49", after := #[], guard := none }) rfl (fun K hK => ?_) AllReadyH.nil
    go_simp
    refine hK.out _ _ (HS.out _ (b_alloc hb _)) (fun hHeld => ?_)
    exact HF.out _ g1 g2 _ (b_alloc hb _) (f1.alloc _) (f2.alloc _) (at_new hb _ _)
  have H3001 : Hid (∀ (v : World) (g3 : Nat), Below w1.heap.size w1 v -> At w1 v g3 #[.int .u8 0, .int .i64 0, .int .i64 0, .int .i64 0, .slice none 0 0, .slice none 0 0] 83 -> wpAnyH Tryz.prog .any rops Q S 4 #[true, true, true, true, true, true, true, true, true, true, true, true, true, true, true, true, true, false, true, true, true, false, false, true, false] { tmps := #[a0, .pointer (some ⟨q, 0, none⟩), .pointer (some ⟨q + 1, 0, none⟩), .pointer (some ⟨g3, 0, none⟩), u0, .pointer (some ⟨q, 1, none⟩), .slice (some ⟨g, o + 2, none⟩) 1 1, .pointer (some ⟨g, o + 2, none⟩), .int .u8 (kn : Int), .pointer (some ⟨q, 2, none⟩), .slice (some ⟨g, o + 3, none⟩) 1 1, .int .i64 (x1 : Int), .pointer (some ⟨q, 3, none⟩), .slice (some ⟨g, o + 4, none⟩) 4 4, .int .i64 (x2 : Int), .pointer (some ⟨q, 4, none⟩), .slice (some ⟨g, o + 8, none⟩) 4 4, .int .i64 (x3 : Int), .pointer (some ⟨q, 5, none⟩), .slice (some ⟨g, o + 12, none⟩) m m, .int .i64 (m : Int), .int .i64 (N : Int), u0, .pointer (some ⟨q, 6, none⟩), .slice (some ⟨g, o + 12 + m, none⟩) d d, .int .i64 (d : Int), u0, u0, u0, u0, u0, u0, u0, u0, u0, u0, u0, u0, u0, u0, u0, u0, u0, u0, u0, u0, u0, u0, u0], defers := [] } v) := fun v g3 hb f3 => by
    refine wpAnyH_ready (rs := [17, 21]) (by kernel_rfl) (by simp) ?_
    refine AllReadyH.cons (o := { dst := some 22, op := Op.makeSlice 33 (.tmp 21) (.tmp 21), type := 33, pos := "parts.go:49", after := #[{ on := 16, ground := .data }, { on := 16, ground := .data }], guard := none }) rfl (fun K hK => ?_) ?_
    rotate_left
    refine AllReadyH.cons (o := { dst := some 26, op := Op.makeSlice 74 (.tmp 25) (.tmp 25), type := 74, pos := "parts.go:49", after := #[{ on := 20, ground := .data }, { on := 20, ground := .data }], guard := none }) rfl (fun K hK => ?_) AllReadyH.nil
    rotate_left

    · skip
      go_simp
      refine hK.out _ _ (HS.out _ (b_alloc hb _)) (fun hHeld => ?_)
      exact H3101.out _ _ g3 (b_alloc hb _) (at_new hb _ _) (f3.alloc _)
    · skip
      go_simp
      refine hK.out _ _ (HS.out _ (b_alloc hb _)) (fun hHeld => ?_)
      exact H3011.out _ _ g3 (b_alloc hb _) (at_new hb _ _) (f3.alloc _)
  have H3010 : Hid (∀ (v : World) (g2 : Nat), Below w1.heap.size w1 v -> At w1 v g2 Z2 5 -> wpAnyH Tryz.prog .any rops Q S 4 #[true, true, true, true, true, true, true, true, true, true, true, true, true, true, true, true, true, false, true, true, true, true, false, false, false] { tmps := #[a0, .pointer (some ⟨q, 0, none⟩), .pointer (some ⟨q + 1, 0, none⟩), u0, u0, .pointer (some ⟨q, 1, none⟩), .slice (some ⟨g, o + 2, none⟩) 1 1, .pointer (some ⟨g, o + 2, none⟩), .int .u8 (kn : Int), .pointer (some ⟨q, 2, none⟩), .slice (some ⟨g, o + 3, none⟩) 1 1, .int .i64 (x1 : Int), .pointer (some ⟨q, 3, none⟩), .slice (some ⟨g, o + 4, none⟩) 4 4, .int .i64 (x2 : Int), .pointer (some ⟨q, 4, none⟩), .slice (some ⟨g, o + 8, none⟩) 4 4, .int .i64 (x3 : Int), .pointer (some ⟨q, 5, none⟩), .slice (some ⟨g, o + 12, none⟩) m m, .int .i64 (m : Int), .int .i64 (N : Int), u0, .pointer (some ⟨q, 6, none⟩), .slice (some ⟨g, o + 12 + m, none⟩) d d, .int .i64 (d : Int), .slice (some ⟨g2, 0, none⟩) d d, u0, u0, u0, u0, u0, u0, u0, u0, u0, u0, u0, u0, u0, u0, u0, u0, u0, u0, u0, u0, u0, u0], defers := [] } v) := fun v g2 hb f2 => by
    refine wpAnyH_ready (rs := [17, 23]) (by kernel_rfl) (by simp) ?_
    refine AllReadyH.cons (o := { dst := some 22, op := Op.makeSlice 33 (.tmp 21) (.tmp 21), type := 33, pos := "parts.go:49", after := #[{ on := 16, ground := .data }, { on := 16, ground := .data }], guard := none }) rfl (fun K hK => ?_) ?_
    rotate_left
    refine AllReadyH.cons (o := { dst := some 3, op := Op.alloc 83, type := 0, pos := "parts.go:49", after := #[], guard := none }) rfl (fun K hK => ?_) AllReadyH.nil
    rotate_left

    · skip
      go_simp
      refine hK.out _ _ (HS.out _ (b_alloc hb _)) (fun hHeld => ?_)
      exact H3110.out _ _ g2 (b_alloc hb _) (at_new hb _ _) (f2.alloc _)
    · skip
      go_simp
      refine hK.out _ _ (HS.out _ (b_alloc hb _)) (fun hHeld => ?_)
      exact H3011.out _ g2 _ (b_alloc hb _) (f2.alloc _) (at_new hb _ _)
  have H3100 : Hid (∀ (v : World) (g1 : Nat), Below w1.heap.size w1 v -> At w1 v g1 Z1 3 -> wpAnyH Tryz.prog .any rops Q S 4 #[true, true, true, true, true, true, true, true, true, true, true, true, true, true, true, true, true, true, true, true, true, false, false, false, false] { tmps := #[a0, .pointer (some ⟨q, 0, none⟩), .pointer (some ⟨q + 1, 0, none⟩), u0, u0, .pointer (some ⟨q, 1, none⟩), .slice (some ⟨g, o + 2, none⟩) 1 1, .pointer (some ⟨g, o + 2, none⟩), .int .u8 (kn : Int), .pointer (some ⟨q, 2, none⟩), .slice (some ⟨g, o + 3, none⟩) 1 1, .int .i64 (x1 : Int), .pointer (some ⟨q, 3, none⟩), .slice (some ⟨g, o + 4, none⟩) 4 4, .int .i64 (x2 : Int), .pointer (some ⟨q, 4, none⟩), .slice (some ⟨g, o + 8, none⟩) 4 4, .int .i64 (x3 : Int), .pointer (some ⟨q, 5, none⟩), .slice (some ⟨g, o + 12, none⟩) m m, .int .i64 (m : Int), .int .i64 (N : Int), .slice (some ⟨g1, 0, none⟩) N N, .pointer (some ⟨q, 6, none⟩), .slice (some ⟨g, o + 12 + m, none⟩) d d, .int .i64 (d : Int), u0, u0, u0, u0, u0, u0, u0, u0, u0, u0, u0, u0, u0, u0, u0, u0, u0, u0, u0, u0, u0, u0, u0], defers := [] } v) := fun v g1 hb f1 => by
    refine wpAnyH_ready (rs := [21, 23]) (by kernel_rfl) (by simp) ?_
    refine AllReadyH.cons (o := { dst := some 26, op := Op.makeSlice 74 (.tmp 25) (.tmp 25), type := 74, pos := "parts.go:49", after := #[{ on := 20, ground := .data }, { on := 20, ground := .data }], guard := none }) rfl (fun K hK => ?_) ?_
    rotate_left
    refine AllReadyH.cons (o := { dst := some 3, op := Op.alloc 83, type := 0, pos := "parts.go:49", after := #[], guard := none }) rfl (fun K hK => ?_) AllReadyH.nil
    rotate_left

    · skip
      go_simp
      refine hK.out _ _ (HS.out _ (b_alloc hb _)) (fun hHeld => ?_)
      exact H3110.out _ g1 _ (b_alloc hb _) (f1.alloc _) (at_new hb _ _)
    · skip
      go_simp
      refine hK.out _ _ (HS.out _ (b_alloc hb _)) (fun hHeld => ?_)
      exact H3101.out _ g1 _ (b_alloc hb _) (f1.alloc _) (at_new hb _ _)
  have H3000 : Hid (∀ (v : World), Below w1.heap.size w1 v -> wpAnyH Tryz.prog .any rops Q S 5 #[true, true, true, true, true, true, true, true, true, true, true, true, true, true, true, true, true, false, true, true, true, false, false, false, false] { tmps := #[a0, .pointer (some ⟨q, 0, none⟩), .pointer (some ⟨q + 1, 0, none⟩), u0, u0, .pointer (some ⟨q, 1, none⟩), .slice (some ⟨g, o + 2, none⟩) 1 1, .pointer (some ⟨g, o + 2, none⟩), .int .u8 (kn : Int), .pointer (some ⟨q, 2, none⟩), .slice (some ⟨g, o + 3, none⟩) 1 1, .int .i64 (x1 : Int), .pointer (some ⟨q, 3, none⟩), .slice (some ⟨g, o + 4, none⟩) 4 4, .int .i64 (x2 : Int), .pointer (some ⟨q, 4, none⟩), .slice (some ⟨g, o + 8, none⟩) 4 4, .int .i64 (x3 : Int), .pointer (some ⟨q, 5, none⟩), .slice (some ⟨g, o + 12, none⟩) m m, .int .i64 (m : Int), .int .i64 (N : Int), u0, .pointer (some ⟨q, 6, none⟩), .slice (some ⟨g, o + 12 + m, none⟩) d d, .int .i64 (d : Int), u0, u0, u0, u0, u0, u0, u0, u0, u0, u0, u0, u0, u0, u0, u0, u0, u0, u0, u0, u0, u0, u0, u0], defers := [] } v) := fun v hb => by
    refine wpAnyH_ready (rs := [17, 21, 23]) (by kernel_rfl) (by simp) ?_
    refine AllReadyH.cons (o := { dst := some 22, op := Op.makeSlice 33 (.tmp 21) (.tmp 21), type := 33, pos := "parts.go:49", after := #[{ on := 16, ground := .data }, { on := 16, ground := .data }], guard := none }) rfl (fun K hK => ?_) ?_
    rotate_left
    refine AllReadyH.cons (o := { dst := some 26, op := Op.makeSlice 74 (.tmp 25) (.tmp 25), type := 74, pos := "parts.go:49", after := #[{ on := 20, ground := .data }, { on := 20, ground := .data }], guard := none }) rfl (fun K hK => ?_) ?_
    rotate_left
    refine AllReadyH.cons (o := { dst := some 3, op := Op.alloc 83, type := 0, pos := "parts.go:49", after := #[], guard := none }) rfl (fun K hK => ?_) AllReadyH.nil
    rotate_left

    · skip
      go_simp
      refine hK.out _ _ (HS.out _ (b_alloc hb _)) (fun hHeld => ?_)
      exact H3100.out _ _ (b_alloc hb _) (at_new hb _ _)
    · skip
      go_simp
      refine hK.out _ _ (HS.out _ (b_alloc hb _)) (fun hHeld => ?_)
      exact H3010.out _ _ (b_alloc hb _) (at_new hb _ _)
    · skip
      go_simp
      refine hK.out _ _ (HS.out _ (b_alloc hb _)) (fun hHeld => ?_)
      exact H3001.out _ _ (b_alloc hb _) (at_new hb _ _)
  have H2111 : Hid (∀ (v : World) (g1 g2 g3 : Nat), Below w1.heap.size w1 v -> At w1 v g1 Z1 3 -> At w1 v g2 Z2 5 -> At w1 v g3 #[.int .u8 0, .int .i64 0, .int .i64 0, .int .i64 0, .slice none 0 0, .slice none 0 0] 83 -> wpAnyH Tryz.prog .any rops Q S 3 #[true, true, true, true, true, true, true, true, true, true, true, true, false, true, true, true, true, true, true, true, true, true, false, true, false] { tmps := #[a0, .pointer (some ⟨q, 0, none⟩), .pointer (some ⟨q + 1, 0, none⟩), .pointer (some ⟨g3, 0, none⟩), u0, .pointer (some ⟨q, 1, none⟩), .slice (some ⟨g, o + 2, none⟩) 1 1, .pointer (some ⟨g, o + 2, none⟩), .int .u8 (kn : Int), .pointer (some ⟨q, 2, none⟩), .slice (some ⟨g, o + 3, none⟩) 1 1, .int .i64 (x1 : Int), .pointer (some ⟨q, 3, none⟩), .slice (some ⟨g, o + 4, none⟩) 4 4, .int .i64 (x2 : Int), .pointer (some ⟨q, 4, none⟩), .slice (some ⟨g, o + 8, none⟩) 4 4, u0, .pointer (some ⟨q, 5, none⟩), .slice (some ⟨g, o + 12, none⟩) m m, .int .i64 (m : Int), .int .i64 (N : Int), .slice (some ⟨g1, 0, none⟩) N N, .pointer (some ⟨q, 6, none⟩), .slice (some ⟨g, o + 12 + m, none⟩) d d, .int .i64 (d : Int), .slice (some ⟨g2, 0, none⟩) d d, u0, u0, u0, u0, u0, u0, u0, u0, u0, u0, u0, u0, u0, u0, u0, u0, u0, u0, u0, u0, u0, u0], defers := [] } v) := fun v g1 g2 g3 hb f1 f2 f3 => by
    refine wpAnyH_ready (rs := [12]) (by kernel_rfl) (by simp) ?_
    refine AllReadyH.cons (o := { dst := some 17, op := Op.call { callee := Callee.value (Operand.func 94), args := #[.tmp 16], argTypes := #[74] }, type := 3, pos := "parts.go:53", after := #[{ on := 11, ground := .data }, { on := 9, ground := Ground.chain }], guard := none }) rfl (fun K hK => ?_) AllReadyH.nil
    rotate_left

    · skip
      go_simp
      refine (HP3.out _ hb).mono ?_
      rintro e w' ⟨rfl, rfl⟩
      refine hK.out _ _ (HS.out _ hb) (fun hHeld => ?_)
      exact H3111.out _ g1 g2 g3 hb f1 f2 f3
  have H2011 : Hid (∀ (v : World) (g2 g3 : Nat), Below w1.heap.size w1 v -> At w1 v g2 Z2 5 -> At w1 v g3 #[.int .u8 0, .int .i64 0, .int .i64 0, .int .i64 0, .slice none 0 0, .slice none 0 0] 83 -> wpAnyH Tryz.prog .any rops Q S 4 #[true, true, true, true, true, true, true, true, true, true, true, true, false, true, true, true, true, false, true, true, true, true, false, true, false] { tmps := #[a0, .pointer (some ⟨q, 0, none⟩), .pointer (some ⟨q + 1, 0, none⟩), .pointer (some ⟨g3, 0, none⟩), u0, .pointer (some ⟨q, 1, none⟩), .slice (some ⟨g, o + 2, none⟩) 1 1, .pointer (some ⟨g, o + 2, none⟩), .int .u8 (kn : Int), .pointer (some ⟨q, 2, none⟩), .slice (some ⟨g, o + 3, none⟩) 1 1, .int .i64 (x1 : Int), .pointer (some ⟨q, 3, none⟩), .slice (some ⟨g, o + 4, none⟩) 4 4, .int .i64 (x2 : Int), .pointer (some ⟨q, 4, none⟩), .slice (some ⟨g, o + 8, none⟩) 4 4, u0, .pointer (some ⟨q, 5, none⟩), .slice (some ⟨g, o + 12, none⟩) m m, .int .i64 (m : Int), .int .i64 (N : Int), u0, .pointer (some ⟨q, 6, none⟩), .slice (some ⟨g, o + 12 + m, none⟩) d d, .int .i64 (d : Int), .slice (some ⟨g2, 0, none⟩) d d, u0, u0, u0, u0, u0, u0, u0, u0, u0, u0, u0, u0, u0, u0, u0, u0, u0, u0, u0, u0, u0, u0], defers := [] } v) := fun v g2 g3 hb f2 f3 => by
    refine wpAnyH_ready (rs := [12, 17]) (by kernel_rfl) (by simp) ?_
    refine AllReadyH.cons (o := { dst := some 17, op := Op.call { callee := Callee.value (Operand.func 94), args := #[.tmp 16], argTypes := #[74] }, type := 3, pos := "parts.go:53", after := #[{ on := 11, ground := .data }, { on := 9, ground := Ground.chain }], guard := none }) rfl (fun K hK => ?_) ?_
    rotate_left
    refine AllReadyH.cons (o := { dst := some 22, op := Op.makeSlice 33 (.tmp 21) (.tmp 21), type := 33, pos := "parts.go:49", after := #[{ on := 16, ground := .data }, { on := 16, ground := .data }], guard := none }) rfl (fun K hK => ?_) AllReadyH.nil
    rotate_left

    · skip
      go_simp
      refine (HP3.out _ hb).mono ?_
      rintro e w' ⟨rfl, rfl⟩
      refine hK.out _ _ (HS.out _ hb) (fun hHeld => ?_)
      exact H3011.out _ g2 g3 hb f2 f3
    · skip
      go_simp
      refine hK.out _ _ (HS.out _ (b_alloc hb _)) (fun hHeld => ?_)
      exact H2111.out _ _ g2 g3 (b_alloc hb _) (at_new hb _ _) (f2.alloc _) (f3.alloc _)
  have H2101 : Hid (∀ (v : World) (g1 g3 : Nat), Below w1.heap.size w1 v -> At w1 v g1 Z1 3 -> At w1 v g3 #[.int .u8 0, .int .i64 0, .int .i64 0, .int .i64 0, .slice none 0 0, .slice none 0 0] 83 -> wpAnyH Tryz.prog .any rops Q S 4 #[true, true, true, true, true, true, true, true, true, true, true, true, false, true, true, true, true, true, true, true, true, false, false, true, false] { tmps := #[a0, .pointer (some ⟨q, 0, none⟩), .pointer (some ⟨q + 1, 0, none⟩), .pointer (some ⟨g3, 0, none⟩), u0, .pointer (some ⟨q, 1, none⟩), .slice (some ⟨g, o + 2, none⟩) 1 1, .pointer (some ⟨g, o + 2, none⟩), .int .u8 (kn : Int), .pointer (some ⟨q, 2, none⟩), .slice (some ⟨g, o + 3, none⟩) 1 1, .int .i64 (x1 : Int), .pointer (some ⟨q, 3, none⟩), .slice (some ⟨g, o + 4, none⟩) 4 4, .int .i64 (x2 : Int), .pointer (some ⟨q, 4, none⟩), .slice (some ⟨g, o + 8, none⟩) 4 4, u0, .pointer (some ⟨q, 5, none⟩), .slice (some ⟨g, o + 12, none⟩) m m, .int .i64 (m : Int), .int .i64 (N : Int), .slice (some ⟨g1, 0, none⟩) N N, .pointer (some ⟨q, 6, none⟩), .slice (some ⟨g, o + 12 + m, none⟩) d d, .int .i64 (d : Int), u0, u0, u0, u0, u0, u0, u0, u0, u0, u0, u0, u0, u0, u0, u0, u0, u0, u0, u0, u0, u0, u0, u0], defers := [] } v) := fun v g1 g3 hb f1 f3 => by
    refine wpAnyH_ready (rs := [12, 21]) (by kernel_rfl) (by simp) ?_
    refine AllReadyH.cons (o := { dst := some 17, op := Op.call { callee := Callee.value (Operand.func 94), args := #[.tmp 16], argTypes := #[74] }, type := 3, pos := "parts.go:53", after := #[{ on := 11, ground := .data }, { on := 9, ground := Ground.chain }], guard := none }) rfl (fun K hK => ?_) ?_
    rotate_left
    refine AllReadyH.cons (o := { dst := some 26, op := Op.makeSlice 74 (.tmp 25) (.tmp 25), type := 74, pos := "parts.go:49", after := #[{ on := 20, ground := .data }, { on := 20, ground := .data }], guard := none }) rfl (fun K hK => ?_) AllReadyH.nil
    rotate_left

    · skip
      go_simp
      refine (HP3.out _ hb).mono ?_
      rintro e w' ⟨rfl, rfl⟩
      refine hK.out _ _ (HS.out _ hb) (fun hHeld => ?_)
      exact H3101.out _ g1 g3 hb f1 f3
    · skip
      go_simp
      refine hK.out _ _ (HS.out _ (b_alloc hb _)) (fun hHeld => ?_)
      exact H2111.out _ g1 _ g3 (b_alloc hb _) (f1.alloc _) (at_new hb _ _) (f3.alloc _)
  have H2110 : Hid (∀ (v : World) (g1 g2 : Nat), Below w1.heap.size w1 v -> At w1 v g1 Z1 3 -> At w1 v g2 Z2 5 -> wpAnyH Tryz.prog .any rops Q S 4 #[true, true, true, true, true, true, true, true, true, true, true, true, false, true, true, true, true, true, true, true, true, true, false, false, false] { tmps := #[a0, .pointer (some ⟨q, 0, none⟩), .pointer (some ⟨q + 1, 0, none⟩), u0, u0, .pointer (some ⟨q, 1, none⟩), .slice (some ⟨g, o + 2, none⟩) 1 1, .pointer (some ⟨g, o + 2, none⟩), .int .u8 (kn : Int), .pointer (some ⟨q, 2, none⟩), .slice (some ⟨g, o + 3, none⟩) 1 1, .int .i64 (x1 : Int), .pointer (some ⟨q, 3, none⟩), .slice (some ⟨g, o + 4, none⟩) 4 4, .int .i64 (x2 : Int), .pointer (some ⟨q, 4, none⟩), .slice (some ⟨g, o + 8, none⟩) 4 4, u0, .pointer (some ⟨q, 5, none⟩), .slice (some ⟨g, o + 12, none⟩) m m, .int .i64 (m : Int), .int .i64 (N : Int), .slice (some ⟨g1, 0, none⟩) N N, .pointer (some ⟨q, 6, none⟩), .slice (some ⟨g, o + 12 + m, none⟩) d d, .int .i64 (d : Int), .slice (some ⟨g2, 0, none⟩) d d, u0, u0, u0, u0, u0, u0, u0, u0, u0, u0, u0, u0, u0, u0, u0, u0, u0, u0, u0, u0, u0, u0], defers := [] } v) := fun v g1 g2 hb f1 f2 => by
    refine wpAnyH_ready (rs := [12, 23]) (by kernel_rfl) (by simp) ?_
    refine AllReadyH.cons (o := { dst := some 17, op := Op.call { callee := Callee.value (Operand.func 94), args := #[.tmp 16], argTypes := #[74] }, type := 3, pos := "parts.go:53", after := #[{ on := 11, ground := .data }, { on := 9, ground := Ground.chain }], guard := none }) rfl (fun K hK => ?_) ?_
    rotate_left
    refine AllReadyH.cons (o := { dst := some 3, op := Op.alloc 83, type := 0, pos := "parts.go:49", after := #[], guard := none }) rfl (fun K hK => ?_) AllReadyH.nil
    rotate_left

    · skip
      go_simp
      refine (HP3.out _ hb).mono ?_
      rintro e w' ⟨rfl, rfl⟩
      refine hK.out _ _ (HS.out _ hb) (fun hHeld => ?_)
      exact H3110.out _ g1 g2 hb f1 f2
    · skip
      go_simp
      refine hK.out _ _ (HS.out _ (b_alloc hb _)) (fun hHeld => ?_)
      exact H2111.out _ g1 g2 _ (b_alloc hb _) (f1.alloc _) (f2.alloc _) (at_new hb _ _)
  have H2001 : Hid (∀ (v : World) (g3 : Nat), Below w1.heap.size w1 v -> At w1 v g3 #[.int .u8 0, .int .i64 0, .int .i64 0, .int .i64 0, .slice none 0 0, .slice none 0 0] 83 -> wpAnyH Tryz.prog .any rops Q S 5 #[true, true, true, true, true, true, true, true, true, true, true, true, false, true, true, true, true, false, true, true, true, false, false, true, false] { tmps := #[a0, .pointer (some ⟨q, 0, none⟩), .pointer (some ⟨q + 1, 0, none⟩), .pointer (some ⟨g3, 0, none⟩), u0, .pointer (some ⟨q, 1, none⟩), .slice (some ⟨g, o + 2, none⟩) 1 1, .pointer (some ⟨g, o + 2, none⟩), .int .u8 (kn : Int), .pointer (some ⟨q, 2, none⟩), .slice (some ⟨g, o + 3, none⟩) 1 1, .int .i64 (x1 : Int), .pointer (some ⟨q, 3, none⟩), .slice (some ⟨g, o + 4, none⟩) 4 4, .int .i64 (x2 : Int), .pointer (some ⟨q, 4, none⟩), .slice (some ⟨g, o + 8, none⟩) 4 4, u0, .pointer (some ⟨q, 5, none⟩), .slice (some ⟨g, o + 12, none⟩) m m, .int .i64 (m : Int), .int .i64 (N : Int), u0, .pointer (some ⟨q, 6, none⟩), .slice (some ⟨g, o + 12 + m, none⟩) d d, .int .i64 (d : Int), u0, u0, u0, u0, u0, u0, u0, u0, u0, u0, u0, u0, u0, u0, u0, u0, u0, u0, u0, u0, u0, u0, u0], defers := [] } v) := fun v g3 hb f3 => by
    refine wpAnyH_ready (rs := [12, 17, 21]) (by kernel_rfl) (by simp) ?_
    refine AllReadyH.cons (o := { dst := some 17, op := Op.call { callee := Callee.value (Operand.func 94), args := #[.tmp 16], argTypes := #[74] }, type := 3, pos := "parts.go:53", after := #[{ on := 11, ground := .data }, { on := 9, ground := Ground.chain }], guard := none }) rfl (fun K hK => ?_) ?_
    rotate_left
    refine AllReadyH.cons (o := { dst := some 22, op := Op.makeSlice 33 (.tmp 21) (.tmp 21), type := 33, pos := "parts.go:49", after := #[{ on := 16, ground := .data }, { on := 16, ground := .data }], guard := none }) rfl (fun K hK => ?_) ?_
    rotate_left
    refine AllReadyH.cons (o := { dst := some 26, op := Op.makeSlice 74 (.tmp 25) (.tmp 25), type := 74, pos := "parts.go:49", after := #[{ on := 20, ground := .data }, { on := 20, ground := .data }], guard := none }) rfl (fun K hK => ?_) AllReadyH.nil
    rotate_left

    · skip
      go_simp
      refine (HP3.out _ hb).mono ?_
      rintro e w' ⟨rfl, rfl⟩
      refine hK.out _ _ (HS.out _ hb) (fun hHeld => ?_)
      exact H3001.out _ g3 hb f3
    · skip
      go_simp
      refine hK.out _ _ (HS.out _ (b_alloc hb _)) (fun hHeld => ?_)
      exact H2101.out _ _ g3 (b_alloc hb _) (at_new hb _ _) (f3.alloc _)
    · skip
      go_simp
      refine hK.out _ _ (HS.out _ (b_alloc hb _)) (fun hHeld => ?_)
      exact H2011.out _ _ g3 (b_alloc hb _) (at_new hb _ _) (f3.alloc _)
  have H2010 : Hid (∀ (v : World) (g2 : Nat), Below w1.heap.size w1 v -> At w1 v g2 Z2 5 -> wpAnyH Tryz.prog .any rops Q S 5 #[true, true, true, true, true, true, true, true, true, true, true, true, false, true, true, true, true, false, true, true, true, true, false, false, false] { tmps := #[a0, .pointer (some ⟨q, 0, none⟩), .pointer (some ⟨q + 1, 0, none⟩), u0, u0, .pointer (some ⟨q, 1, none⟩), .slice (some ⟨g, o + 2, none⟩) 1 1, .pointer (some ⟨g, o + 2, none⟩), .int .u8 (kn : Int), .pointer (some ⟨q, 2, none⟩), .slice (some ⟨g, o + 3, none⟩) 1 1, .int .i64 (x1 : Int), .pointer (some ⟨q, 3, none⟩), .slice (some ⟨g, o + 4, none⟩) 4 4, .int .i64 (x2 : Int), .pointer (some ⟨q, 4, none⟩), .slice (some ⟨g, o + 8, none⟩) 4 4, u0, .pointer (some ⟨q, 5, none⟩), .slice (some ⟨g, o + 12, none⟩) m m, .int .i64 (m : Int), .int .i64 (N : Int), u0, .pointer (some ⟨q, 6, none⟩), .slice (some ⟨g, o + 12 + m, none⟩) d d, .int .i64 (d : Int), .slice (some ⟨g2, 0, none⟩) d d, u0, u0, u0, u0, u0, u0, u0, u0, u0, u0, u0, u0, u0, u0, u0, u0, u0, u0, u0, u0, u0, u0], defers := [] } v) := fun v g2 hb f2 => by
    refine wpAnyH_ready (rs := [12, 17, 23]) (by kernel_rfl) (by simp) ?_
    refine AllReadyH.cons (o := { dst := some 17, op := Op.call { callee := Callee.value (Operand.func 94), args := #[.tmp 16], argTypes := #[74] }, type := 3, pos := "parts.go:53", after := #[{ on := 11, ground := .data }, { on := 9, ground := Ground.chain }], guard := none }) rfl (fun K hK => ?_) ?_
    rotate_left
    refine AllReadyH.cons (o := { dst := some 22, op := Op.makeSlice 33 (.tmp 21) (.tmp 21), type := 33, pos := "parts.go:49", after := #[{ on := 16, ground := .data }, { on := 16, ground := .data }], guard := none }) rfl (fun K hK => ?_) ?_
    rotate_left
    refine AllReadyH.cons (o := { dst := some 3, op := Op.alloc 83, type := 0, pos := "parts.go:49", after := #[], guard := none }) rfl (fun K hK => ?_) AllReadyH.nil
    rotate_left

    · skip
      go_simp
      refine (HP3.out _ hb).mono ?_
      rintro e w' ⟨rfl, rfl⟩
      refine hK.out _ _ (HS.out _ hb) (fun hHeld => ?_)
      exact H3010.out _ g2 hb f2
    · skip
      go_simp
      refine hK.out _ _ (HS.out _ (b_alloc hb _)) (fun hHeld => ?_)
      exact H2110.out _ _ g2 (b_alloc hb _) (at_new hb _ _) (f2.alloc _)
    · skip
      go_simp
      refine hK.out _ _ (HS.out _ (b_alloc hb _)) (fun hHeld => ?_)
      exact H2011.out _ g2 _ (b_alloc hb _) (f2.alloc _) (at_new hb _ _)
  have H2100 : Hid (∀ (v : World) (g1 : Nat), Below w1.heap.size w1 v -> At w1 v g1 Z1 3 -> wpAnyH Tryz.prog .any rops Q S 5 #[true, true, true, true, true, true, true, true, true, true, true, true, false, true, true, true, true, true, true, true, true, false, false, false, false] { tmps := #[a0, .pointer (some ⟨q, 0, none⟩), .pointer (some ⟨q + 1, 0, none⟩), u0, u0, .pointer (some ⟨q, 1, none⟩), .slice (some ⟨g, o + 2, none⟩) 1 1, .pointer (some ⟨g, o + 2, none⟩), .int .u8 (kn : Int), .pointer (some ⟨q, 2, none⟩), .slice (some ⟨g, o + 3, none⟩) 1 1, .int .i64 (x1 : Int), .pointer (some ⟨q, 3, none⟩), .slice (some ⟨g, o + 4, none⟩) 4 4, .int .i64 (x2 : Int), .pointer (some ⟨q, 4, none⟩), .slice (some ⟨g, o + 8, none⟩) 4 4, u0, .pointer (some ⟨q, 5, none⟩), .slice (some ⟨g, o + 12, none⟩) m m, .int .i64 (m : Int), .int .i64 (N : Int), .slice (some ⟨g1, 0, none⟩) N N, .pointer (some ⟨q, 6, none⟩), .slice (some ⟨g, o + 12 + m, none⟩) d d, .int .i64 (d : Int), u0, u0, u0, u0, u0, u0, u0, u0, u0, u0, u0, u0, u0, u0, u0, u0, u0, u0, u0, u0, u0, u0, u0], defers := [] } v) := fun v g1 hb f1 => by
    refine wpAnyH_ready (rs := [12, 21, 23]) (by kernel_rfl) (by simp) ?_
    refine AllReadyH.cons (o := { dst := some 17, op := Op.call { callee := Callee.value (Operand.func 94), args := #[.tmp 16], argTypes := #[74] }, type := 3, pos := "parts.go:53", after := #[{ on := 11, ground := .data }, { on := 9, ground := Ground.chain }], guard := none }) rfl (fun K hK => ?_) ?_
    rotate_left
    refine AllReadyH.cons (o := { dst := some 26, op := Op.makeSlice 74 (.tmp 25) (.tmp 25), type := 74, pos := "parts.go:49", after := #[{ on := 20, ground := .data }, { on := 20, ground := .data }], guard := none }) rfl (fun K hK => ?_) ?_
    rotate_left
    refine AllReadyH.cons (o := { dst := some 3, op := Op.alloc 83, type := 0, pos := "parts.go:49", after := #[], guard := none }) rfl (fun K hK => ?_) AllReadyH.nil
    rotate_left

    · skip
      go_simp
      refine (HP3.out _ hb).mono ?_
      rintro e w' ⟨rfl, rfl⟩
      refine hK.out _ _ (HS.out _ hb) (fun hHeld => ?_)
      exact H3100.out _ g1 hb f1
    · skip
      go_simp
      refine hK.out _ _ (HS.out _ (b_alloc hb _)) (fun hHeld => ?_)
      exact H2110.out _ g1 _ (b_alloc hb _) (f1.alloc _) (at_new hb _ _)
    · skip
      go_simp
      refine hK.out _ _ (HS.out _ (b_alloc hb _)) (fun hHeld => ?_)
      exact H2101.out _ g1 _ (b_alloc hb _) (f1.alloc _) (at_new hb _ _)
  have H2000 : Hid (∀ (v : World), Below w1.heap.size w1 v -> wpAnyH Tryz.prog .any rops Q S 6 #[true, true, true, true, true, true, true, true, true, true, true, true, false, true, true, true, true, false, true, true, true, false, false, false, false] { tmps := #[a0, .pointer (some ⟨q, 0, none⟩), .pointer (some ⟨q + 1, 0, none⟩), u0, u0, .pointer (some ⟨q, 1, none⟩), .slice (some ⟨g, o + 2, none⟩) 1 1, .pointer (some ⟨g, o + 2, none⟩), .int .u8 (kn : Int), .pointer (some ⟨q, 2, none⟩), .slice (some ⟨g, o + 3, none⟩) 1 1, .int .i64 (x1 : Int), .pointer (some ⟨q, 3, none⟩), .slice (some ⟨g, o + 4, none⟩) 4 4, .int .i64 (x2 : Int), .pointer (some ⟨q, 4, none⟩), .slice (some ⟨g, o + 8, none⟩) 4 4, u0, .pointer (some ⟨q, 5, none⟩), .slice (some ⟨g, o + 12, none⟩) m m, .int .i64 (m : Int), .int .i64 (N : Int), u0, .pointer (some ⟨q, 6, none⟩), .slice (some ⟨g, o + 12 + m, none⟩) d d, .int .i64 (d : Int), u0, u0, u0, u0, u0, u0, u0, u0, u0, u0, u0, u0, u0, u0, u0, u0, u0, u0, u0, u0, u0, u0, u0], defers := [] } v) := fun v hb => by
    refine wpAnyH_ready (rs := [12, 17, 21, 23]) (by kernel_rfl) (by simp) ?_
    refine AllReadyH.cons (o := { dst := some 17, op := Op.call { callee := Callee.value (Operand.func 94), args := #[.tmp 16], argTypes := #[74] }, type := 3, pos := "parts.go:53", after := #[{ on := 11, ground := .data }, { on := 9, ground := Ground.chain }], guard := none }) rfl (fun K hK => ?_) ?_
    rotate_left
    refine AllReadyH.cons (o := { dst := some 22, op := Op.makeSlice 33 (.tmp 21) (.tmp 21), type := 33, pos := "parts.go:49", after := #[{ on := 16, ground := .data }, { on := 16, ground := .data }], guard := none }) rfl (fun K hK => ?_) ?_
    rotate_left
    refine AllReadyH.cons (o := { dst := some 26, op := Op.makeSlice 74 (.tmp 25) (.tmp 25), type := 74, pos := "parts.go:49", after := #[{ on := 20, ground := .data }, { on := 20, ground := .data }], guard := none }) rfl (fun K hK => ?_) ?_
    rotate_left
    refine AllReadyH.cons (o := { dst := some 3, op := Op.alloc 83, type := 0, pos := "parts.go:49", after := #[], guard := none }) rfl (fun K hK => ?_) AllReadyH.nil
    rotate_left

    · skip
      go_simp
      refine (HP3.out _ hb).mono ?_
      rintro e w' ⟨rfl, rfl⟩
      refine hK.out _ _ (HS.out _ hb) (fun hHeld => ?_)
      exact H3000.out _  hb 
    · skip
      go_simp
      refine hK.out _ _ (HS.out _ (b_alloc hb _)) (fun hHeld => ?_)
      exact H2100.out _ _ (b_alloc hb _) (at_new hb _ _)
    · skip
      go_simp
      refine hK.out _ _ (HS.out _ (b_alloc hb _)) (fun hHeld => ?_)
      exact H2010.out _ _ (b_alloc hb _) (at_new hb _ _)
    · skip
      go_simp
      refine hK.out _ _ (HS.out _ (b_alloc hb _)) (fun hHeld => ?_)
      exact H2001.out _ _ (b_alloc hb _) (at_new hb _ _)
  have H1111 : Hid (∀ (v : World) (g1 g2 g3 : Nat), Below w1.heap.size w1 v -> At w1 v g1 Z1 3 -> At w1 v g2 Z2 5 -> At w1 v g3 #[.int .u8 0, .int .i64 0, .int .i64 0, .int .i64 0, .slice none 0 0, .slice none 0 0] 83 -> wpAnyH Tryz.prog .any rops Q S 4 #[true, true, true, true, true, true, true, true, true, false, true, true, false, true, true, true, true, true, true, true, true, true, false, true, false] { tmps := #[a0, .pointer (some ⟨q, 0, none⟩), .pointer (some ⟨q + 1, 0, none⟩), .pointer (some ⟨g3, 0, none⟩), u0, .pointer (some ⟨q, 1, none⟩), .slice (some ⟨g, o + 2, none⟩) 1 1, .pointer (some ⟨g, o + 2, none⟩), .int .u8 (kn : Int), .pointer (some ⟨q, 2, none⟩), .slice (some ⟨g, o + 3, none⟩) 1 1, .int .i64 (x1 : Int), .pointer (some ⟨q, 3, none⟩), .slice (some ⟨g, o + 4, none⟩) 4 4, u0, .pointer (some ⟨q, 4, none⟩), .slice (some ⟨g, o + 8, none⟩) 4 4, u0, .pointer (some ⟨q, 5, none⟩), .slice (some ⟨g, o + 12, none⟩) m m, .int .i64 (m : Int), .int .i64 (N : Int), .slice (some ⟨g1, 0, none⟩) N N, .pointer (some ⟨q, 6, none⟩), .slice (some ⟨g, o + 12 + m, none⟩) d d, .int .i64 (d : Int), .slice (some ⟨g2, 0, none⟩) d d, u0, u0, u0, u0, u0, u0, u0, u0, u0, u0, u0, u0, u0, u0, u0, u0, u0, u0, u0, u0, u0, u0], defers := [] } v) := fun v g1 g2 g3 hb f1 f2 f3 => by
    refine wpAnyH_ready (rs := [9]) (by kernel_rfl) (by simp) ?_
    refine AllReadyH.cons (o := { dst := some 14, op := Op.call { callee := Callee.value (Operand.func 94), args := #[.tmp 13], argTypes := #[74] }, type := 3, pos := "parts.go:52", after := #[{ on := 8, ground := .data }, { on := 6, ground := Ground.chain }], guard := none }) rfl (fun K hK => ?_) AllReadyH.nil
    rotate_left

    · skip
      go_simp
      refine (HP2.out _ hb).mono ?_
      rintro e w' ⟨rfl, rfl⟩
      refine hK.out _ _ (HS.out _ hb) (fun hHeld => ?_)
      exact H2111.out _ g1 g2 g3 hb f1 f2 f3
  have H1011 : Hid (∀ (v : World) (g2 g3 : Nat), Below w1.heap.size w1 v -> At w1 v g2 Z2 5 -> At w1 v g3 #[.int .u8 0, .int .i64 0, .int .i64 0, .int .i64 0, .slice none 0 0, .slice none 0 0] 83 -> wpAnyH Tryz.prog .any rops Q S 5 #[true, true, true, true, true, true, true, true, true, false, true, true, false, true, true, true, true, false, true, true, true, true, false, true, false] { tmps := #[a0, .pointer (some ⟨q, 0, none⟩), .pointer (some ⟨q + 1, 0, none⟩), .pointer (some ⟨g3, 0, none⟩), u0, .pointer (some ⟨q, 1, none⟩), .slice (some ⟨g, o + 2, none⟩) 1 1, .pointer (some ⟨g, o + 2, none⟩), .int .u8 (kn : Int), .pointer (some ⟨q, 2, none⟩), .slice (some ⟨g, o + 3, none⟩) 1 1, .int .i64 (x1 : Int), .pointer (some ⟨q, 3, none⟩), .slice (some ⟨g, o + 4, none⟩) 4 4, u0, .pointer (some ⟨q, 4, none⟩), .slice (some ⟨g, o + 8, none⟩) 4 4, u0, .pointer (some ⟨q, 5, none⟩), .slice (some ⟨g, o + 12, none⟩) m m, .int .i64 (m : Int), .int .i64 (N : Int), u0, .pointer (some ⟨q, 6, none⟩), .slice (some ⟨g, o + 12 + m, none⟩) d d, .int .i64 (d : Int), .slice (some ⟨g2, 0, none⟩) d d, u0, u0, u0, u0, u0, u0, u0, u0, u0, u0, u0, u0, u0, u0, u0, u0, u0, u0, u0, u0, u0, u0], defers := [] } v) := fun v g2 g3 hb f2 f3 => by
    refine wpAnyH_ready (rs := [9, 17]) (by kernel_rfl) (by simp) ?_
    refine AllReadyH.cons (o := { dst := some 14, op := Op.call { callee := Callee.value (Operand.func 94), args := #[.tmp 13], argTypes := #[74] }, type := 3, pos := "parts.go:52", after := #[{ on := 8, ground := .data }, { on := 6, ground := Ground.chain }], guard := none }) rfl (fun K hK => ?_) ?_
    rotate_left
    refine AllReadyH.cons (o := { dst := some 22, op := Op.makeSlice 33 (.tmp 21) (.tmp 21), type := 33, pos := "parts.go:49", after := #[{ on := 16, ground := .data }, { on := 16, ground := .data }], guard := none }) rfl (fun K hK => ?_) AllReadyH.nil
    rotate_left

    · skip
      go_simp
      refine (HP2.out _ hb).mono ?_
      rintro e w' ⟨rfl, rfl⟩
      refine hK.out _ _ (HS.out _ hb) (fun hHeld => ?_)
      exact H2011.out _ g2 g3 hb f2 f3
    · skip
      go_simp
      refine hK.out _ _ (HS.out _ (b_alloc hb _)) (fun hHeld => ?_)
      exact H1111.out _ _ g2 g3 (b_alloc hb _) (at_new hb _ _) (f2.alloc _) (f3.alloc _)
  have H1101 : Hid (∀ (v : World) (g1 g3 : Nat), Below w1.heap.size w1 v -> At w1 v g1 Z1 3 -> At w1 v g3 #[.int .u8 0, .int .i64 0, .int .i64 0, .int .i64 0, .slice none 0 0, .slice none 0 0] 83 -> wpAnyH Tryz.prog .any rops Q S 5 #[true, true, true, true, true, true, true, true, true, false, true, true, false, true, true, true, true, true, true, true, true, false, false, true, false] { tmps := #[a0, .pointer (some ⟨q, 0, none⟩), .pointer (some ⟨q + 1, 0, none⟩), .pointer (some ⟨g3, 0, none⟩), u0, .pointer (some ⟨q, 1, none⟩), .slice (some ⟨g, o + 2, none⟩) 1 1, .pointer (some ⟨g, o + 2, none⟩), .int .u8 (kn : Int), .pointer (some ⟨q, 2, none⟩), .slice (some ⟨g, o + 3, none⟩) 1 1, .int .i64 (x1 : Int), .pointer (some ⟨q, 3, none⟩), .slice (some ⟨g, o + 4, none⟩) 4 4, u0, .pointer (some ⟨q, 4, none⟩), .slice (some ⟨g, o + 8, none⟩) 4 4, u0, .pointer (some ⟨q, 5, none⟩), .slice (some ⟨g, o + 12, none⟩) m m, .int .i64 (m : Int), .int .i64 (N : Int), .slice (some ⟨g1, 0, none⟩) N N, .pointer (some ⟨q, 6, none⟩), .slice (some ⟨g, o + 12 + m, none⟩) d d, .int .i64 (d : Int), u0, u0, u0, u0, u0, u0, u0, u0, u0, u0, u0, u0, u0, u0, u0, u0, u0, u0, u0, u0, u0, u0, u0], defers := [] } v) := fun v g1 g3 hb f1 f3 => by
    refine wpAnyH_ready (rs := [9, 21]) (by kernel_rfl) (by simp) ?_
    refine AllReadyH.cons (o := { dst := some 14, op := Op.call { callee := Callee.value (Operand.func 94), args := #[.tmp 13], argTypes := #[74] }, type := 3, pos := "parts.go:52", after := #[{ on := 8, ground := .data }, { on := 6, ground := Ground.chain }], guard := none }) rfl (fun K hK => ?_) ?_
    rotate_left
    refine AllReadyH.cons (o := { dst := some 26, op := Op.makeSlice 74 (.tmp 25) (.tmp 25), type := 74, pos := "parts.go:49", after := #[{ on := 20, ground := .data }, { on := 20, ground := .data }], guard := none }) rfl (fun K hK => ?_) AllReadyH.nil
    rotate_left

    · skip
      go_simp
      refine (HP2.out _ hb).mono ?_
      rintro e w' ⟨rfl, rfl⟩
      refine hK.out _ _ (HS.out _ hb) (fun hHeld => ?_)
      exact H2101.out _ g1 g3 hb f1 f3
    · skip
      go_simp
      refine hK.out _ _ (HS.out _ (b_alloc hb _)) (fun hHeld => ?_)
      exact H1111.out _ g1 _ g3 (b_alloc hb _) (f1.alloc _) (at_new hb _ _) (f3.alloc _)
  have H1110 : Hid (∀ (v : World) (g1 g2 : Nat), Below w1.heap.size w1 v -> At w1 v g1 Z1 3 -> At w1 v g2 Z2 5 -> wpAnyH Tryz.prog .any rops Q S 5 #[true, true, true, true, true, true, true, true, true, false, true, true, false, true, true, true, true, true, true, true, true, true, false, false, false] { tmps := #[a0, .pointer (some ⟨q, 0, none⟩), .pointer (some ⟨q + 1, 0, none⟩), u0, u0, .pointer (some ⟨q, 1, none⟩), .slice (some ⟨g, o + 2, none⟩) 1 1, .pointer (some ⟨g, o + 2, none⟩), .int .u8 (kn : Int), .pointer (some ⟨q, 2, none⟩), .slice (some ⟨g, o + 3, none⟩) 1 1, .int .i64 (x1 : Int), .pointer (some ⟨q, 3, none⟩), .slice (some ⟨g, o + 4, none⟩) 4 4, u0, .pointer (some ⟨q, 4, none⟩), .slice (some ⟨g, o + 8, none⟩) 4 4, u0, .pointer (some ⟨q, 5, none⟩), .slice (some ⟨g, o + 12, none⟩) m m, .int .i64 (m : Int), .int .i64 (N : Int), .slice (some ⟨g1, 0, none⟩) N N, .pointer (some ⟨q, 6, none⟩), .slice (some ⟨g, o + 12 + m, none⟩) d d, .int .i64 (d : Int), .slice (some ⟨g2, 0, none⟩) d d, u0, u0, u0, u0, u0, u0, u0, u0, u0, u0, u0, u0, u0, u0, u0, u0, u0, u0, u0, u0, u0, u0], defers := [] } v) := fun v g1 g2 hb f1 f2 => by
    refine wpAnyH_ready (rs := [9, 23]) (by kernel_rfl) (by simp) ?_
    refine AllReadyH.cons (o := { dst := some 14, op := Op.call { callee := Callee.value (Operand.func 94), args := #[.tmp 13], argTypes := #[74] }, type := 3, pos := "parts.go:52", after := #[{ on := 8, ground := .data }, { on := 6, ground := Ground.chain }], guard := none }) rfl (fun K hK => ?_) ?_
    rotate_left
    refine AllReadyH.cons (o := { dst := some 3, op := Op.alloc 83, type := 0, pos := "parts.go:49", after := #[], guard := none }) rfl (fun K hK => ?_) AllReadyH.nil
    rotate_left

    · skip
      go_simp
      refine (HP2.out _ hb).mono ?_
      rintro e w' ⟨rfl, rfl⟩
      refine hK.out _ _ (HS.out _ hb) (fun hHeld => ?_)
      exact H2110.out _ g1 g2 hb f1 f2
    · skip
      go_simp
      refine hK.out _ _ (HS.out _ (b_alloc hb _)) (fun hHeld => ?_)
      exact H1111.out _ g1 g2 _ (b_alloc hb _) (f1.alloc _) (f2.alloc _) (at_new hb _ _)
  have H1001 : Hid (∀ (v : World) (g3 : Nat), Below w1.heap.size w1 v -> At w1 v g3 #[.int .u8 0, .int .i64 0, .int .i64 0, .int .i64 0, .slice none 0 0, .slice none 0 0] 83 -> wpAnyH Tryz.prog .any rops Q S 6 #[true, true, true, true, true, true, true, true, true, false, true, true, false, true, true, true, true, false, true, true, true, false, false, true, false] { tmps := #[a0, .pointer (some ⟨q, 0, none⟩), .pointer (some ⟨q + 1, 0, none⟩), .pointer (some ⟨g3, 0, none⟩), u0, .pointer (some ⟨q, 1, none⟩), .slice (some ⟨g, o + 2, none⟩) 1 1, .pointer (some ⟨g, o + 2, none⟩), .int .u8 (kn : Int), .pointer (some ⟨q, 2, none⟩), .slice (some ⟨g, o + 3, none⟩) 1 1, .int .i64 (x1 : Int), .pointer (some ⟨q, 3, none⟩), .slice (some ⟨g, o + 4, none⟩) 4 4, u0, .pointer (some ⟨q, 4, none⟩), .slice (some ⟨g, o + 8, none⟩) 4 4, u0, .pointer (some ⟨q, 5, none⟩), .slice (some ⟨g, o + 12, none⟩) m m, .int .i64 (m : Int), .int .i64 (N : Int), u0, .pointer (some ⟨q, 6, none⟩), .slice (some ⟨g, o + 12 + m, none⟩) d d, .int .i64 (d : Int), u0, u0, u0, u0, u0, u0, u0, u0, u0, u0, u0, u0, u0, u0, u0, u0, u0, u0, u0, u0, u0, u0, u0], defers := [] } v) := fun v g3 hb f3 => by
    refine wpAnyH_ready (rs := [9, 17, 21]) (by kernel_rfl) (by simp) ?_
    refine AllReadyH.cons (o := { dst := some 14, op := Op.call { callee := Callee.value (Operand.func 94), args := #[.tmp 13], argTypes := #[74] }, type := 3, pos := "parts.go:52", after := #[{ on := 8, ground := .data }, { on := 6, ground := Ground.chain }], guard := none }) rfl (fun K hK => ?_) ?_
    rotate_left
    refine AllReadyH.cons (o := { dst := some 22, op := Op.makeSlice 33 (.tmp 21) (.tmp 21), type := 33, pos := "parts.go:49", after := #[{ on := 16, ground := .data }, { on := 16, ground := .data }], guard := none }) rfl (fun K hK => ?_) ?_
    rotate_left
    refine AllReadyH.cons (o := { dst := some 26, op := Op.makeSlice 74 (.tmp 25) (.tmp 25), type := 74, pos := "parts.go:49", after := #[{ on := 20, ground := .data }, { on := 20, ground := .data }], guard := none }) rfl (fun K hK => ?_) AllReadyH.nil
    rotate_left

    · skip
      go_simp
      refine (HP2.out _ hb).mono ?_
      rintro e w' ⟨rfl, rfl⟩
      refine hK.out _ _ (HS.out _ hb) (fun hHeld => ?_)
      exact H2001.out _ g3 hb f3
    · skip
      go_simp
      refine hK.out _ _ (HS.out _ (b_alloc hb _)) (fun hHeld => ?_)
      exact H1101.out _ _ g3 (b_alloc hb _) (at_new hb _ _) (f3.alloc _)
    · skip
      go_simp
      refine hK.out _ _ (HS.out _ (b_alloc hb _)) (fun hHeld => ?_)
      exact H1011.out _ _ g3 (b_alloc hb _) (at_new hb _ _) (f3.alloc _)
  have H1010 : Hid (∀ (v : World) (g2 : Nat), Below w1.heap.size w1 v -> At w1 v g2 Z2 5 -> wpAnyH Tryz.prog .any rops Q S 6 #[true, true, true, true, true, true, true, true, true, false, true, true, false, true, true, true, true, false, true, true, true, true, false, false, false] { tmps := #[a0, .pointer (some ⟨q, 0, none⟩), .pointer (some ⟨q + 1, 0, none⟩), u0, u0, .pointer (some ⟨q, 1, none⟩), .slice (some ⟨g, o + 2, none⟩) 1 1, .pointer (some ⟨g, o + 2, none⟩), .int .u8 (kn : Int), .pointer (some ⟨q, 2, none⟩), .slice (some ⟨g, o + 3, none⟩) 1 1, .int .i64 (x1 : Int), .pointer (some ⟨q, 3, none⟩), .slice (some ⟨g, o + 4, none⟩) 4 4, u0, .pointer (some ⟨q, 4, none⟩), .slice (some ⟨g, o + 8, none⟩) 4 4, u0, .pointer (some ⟨q, 5, none⟩), .slice (some ⟨g, o + 12, none⟩) m m, .int .i64 (m : Int), .int .i64 (N : Int), u0, .pointer (some ⟨q, 6, none⟩), .slice (some ⟨g, o + 12 + m, none⟩) d d, .int .i64 (d : Int), .slice (some ⟨g2, 0, none⟩) d d, u0, u0, u0, u0, u0, u0, u0, u0, u0, u0, u0, u0, u0, u0, u0, u0, u0, u0, u0, u0, u0, u0], defers := [] } v) := fun v g2 hb f2 => by
    refine wpAnyH_ready (rs := [9, 17, 23]) (by kernel_rfl) (by simp) ?_
    refine AllReadyH.cons (o := { dst := some 14, op := Op.call { callee := Callee.value (Operand.func 94), args := #[.tmp 13], argTypes := #[74] }, type := 3, pos := "parts.go:52", after := #[{ on := 8, ground := .data }, { on := 6, ground := Ground.chain }], guard := none }) rfl (fun K hK => ?_) ?_
    rotate_left
    refine AllReadyH.cons (o := { dst := some 22, op := Op.makeSlice 33 (.tmp 21) (.tmp 21), type := 33, pos := "parts.go:49", after := #[{ on := 16, ground := .data }, { on := 16, ground := .data }], guard := none }) rfl (fun K hK => ?_) ?_
    rotate_left
    refine AllReadyH.cons (o := { dst := some 3, op := Op.alloc 83, type := 0, pos := "parts.go:49", after := #[], guard := none }) rfl (fun K hK => ?_) AllReadyH.nil
    rotate_left

    · skip
      go_simp
      refine (HP2.out _ hb).mono ?_
      rintro e w' ⟨rfl, rfl⟩
      refine hK.out _ _ (HS.out _ hb) (fun hHeld => ?_)
      exact H2010.out _ g2 hb f2
    · skip
      go_simp
      refine hK.out _ _ (HS.out _ (b_alloc hb _)) (fun hHeld => ?_)
      exact H1110.out _ _ g2 (b_alloc hb _) (at_new hb _ _) (f2.alloc _)
    · skip
      go_simp
      refine hK.out _ _ (HS.out _ (b_alloc hb _)) (fun hHeld => ?_)
      exact H1011.out _ g2 _ (b_alloc hb _) (f2.alloc _) (at_new hb _ _)
  have H1100 : Hid (∀ (v : World) (g1 : Nat), Below w1.heap.size w1 v -> At w1 v g1 Z1 3 -> wpAnyH Tryz.prog .any rops Q S 6 #[true, true, true, true, true, true, true, true, true, false, true, true, false, true, true, true, true, true, true, true, true, false, false, false, false] { tmps := #[a0, .pointer (some ⟨q, 0, none⟩), .pointer (some ⟨q + 1, 0, none⟩), u0, u0, .pointer (some ⟨q, 1, none⟩), .slice (some ⟨g, o + 2, none⟩) 1 1, .pointer (some ⟨g, o + 2, none⟩), .int .u8 (kn : Int), .pointer (some ⟨q, 2, none⟩), .slice (some ⟨g, o + 3, none⟩) 1 1, .int .i64 (x1 : Int), .pointer (some ⟨q, 3, none⟩), .slice (some ⟨g, o + 4, none⟩) 4 4, u0, .pointer (some ⟨q, 4, none⟩), .slice (some ⟨g, o + 8, none⟩) 4 4, u0, .pointer (some ⟨q, 5, none⟩), .slice (some ⟨g, o + 12, none⟩) m m, .int .i64 (m : Int), .int .i64 (N : Int), .slice (some ⟨g1, 0, none⟩) N N, .pointer (some ⟨q, 6, none⟩), .slice (some ⟨g, o + 12 + m, none⟩) d d, .int .i64 (d : Int), u0, u0, u0, u0, u0, u0, u0, u0, u0, u0, u0, u0, u0, u0, u0, u0, u0, u0, u0, u0, u0, u0, u0], defers := [] } v) := fun v g1 hb f1 => by
    refine wpAnyH_ready (rs := [9, 21, 23]) (by kernel_rfl) (by simp) ?_
    refine AllReadyH.cons (o := { dst := some 14, op := Op.call { callee := Callee.value (Operand.func 94), args := #[.tmp 13], argTypes := #[74] }, type := 3, pos := "parts.go:52", after := #[{ on := 8, ground := .data }, { on := 6, ground := Ground.chain }], guard := none }) rfl (fun K hK => ?_) ?_
    rotate_left
    refine AllReadyH.cons (o := { dst := some 26, op := Op.makeSlice 74 (.tmp 25) (.tmp 25), type := 74, pos := "parts.go:49", after := #[{ on := 20, ground := .data }, { on := 20, ground := .data }], guard := none }) rfl (fun K hK => ?_) ?_
    rotate_left
    refine AllReadyH.cons (o := { dst := some 3, op := Op.alloc 83, type := 0, pos := "parts.go:49", after := #[], guard := none }) rfl (fun K hK => ?_) AllReadyH.nil
    rotate_left

    · skip
      go_simp
      refine (HP2.out _ hb).mono ?_
      rintro e w' ⟨rfl, rfl⟩
      refine hK.out _ _ (HS.out _ hb) (fun hHeld => ?_)
      exact H2100.out _ g1 hb f1
    · skip
      go_simp
      refine hK.out _ _ (HS.out _ (b_alloc hb _)) (fun hHeld => ?_)
      exact H1110.out _ g1 _ (b_alloc hb _) (f1.alloc _) (at_new hb _ _)
    · skip
      go_simp
      refine hK.out _ _ (HS.out _ (b_alloc hb _)) (fun hHeld => ?_)
      exact H1101.out _ g1 _ (b_alloc hb _) (f1.alloc _) (at_new hb _ _)
  have H1000 : Hid (∀ (v : World), Below w1.heap.size w1 v -> wpAnyH Tryz.prog .any rops Q S 7 #[true, true, true, true, true, true, true, true, true, false, true, true, false, true, true, true, true, false, true, true, true, false, false, false, false] { tmps := #[a0, .pointer (some ⟨q, 0, none⟩), .pointer (some ⟨q + 1, 0, none⟩), u0, u0, .pointer (some ⟨q, 1, none⟩), .slice (some ⟨g, o + 2, none⟩) 1 1, .pointer (some ⟨g, o + 2, none⟩), .int .u8 (kn : Int), .pointer (some ⟨q, 2, none⟩), .slice (some ⟨g, o + 3, none⟩) 1 1, .int .i64 (x1 : Int), .pointer (some ⟨q, 3, none⟩), .slice (some ⟨g, o + 4, none⟩) 4 4, u0, .pointer (some ⟨q, 4, none⟩), .slice (some ⟨g, o + 8, none⟩) 4 4, u0, .pointer (some ⟨q, 5, none⟩), .slice (some ⟨g, o + 12, none⟩) m m, .int .i64 (m : Int), .int .i64 (N : Int), u0, .pointer (some ⟨q, 6, none⟩), .slice (some ⟨g, o + 12 + m, none⟩) d d, .int .i64 (d : Int), u0, u0, u0, u0, u0, u0, u0, u0, u0, u0, u0, u0, u0, u0, u0, u0, u0, u0, u0, u0, u0, u0, u0], defers := [] } v) := fun v hb => by
    refine wpAnyH_ready (rs := [9, 17, 21, 23]) (by kernel_rfl) (by simp) ?_
    refine AllReadyH.cons (o := { dst := some 14, op := Op.call { callee := Callee.value (Operand.func 94), args := #[.tmp 13], argTypes := #[74] }, type := 3, pos := "parts.go:52", after := #[{ on := 8, ground := .data }, { on := 6, ground := Ground.chain }], guard := none }) rfl (fun K hK => ?_) ?_
    rotate_left
    refine AllReadyH.cons (o := { dst := some 22, op := Op.makeSlice 33 (.tmp 21) (.tmp 21), type := 33, pos := "parts.go:49", after := #[{ on := 16, ground := .data }, { on := 16, ground := .data }], guard := none }) rfl (fun K hK => ?_) ?_
    rotate_left
    refine AllReadyH.cons (o := { dst := some 26, op := Op.makeSlice 74 (.tmp 25) (.tmp 25), type := 74, pos := "parts.go:49", after := #[{ on := 20, ground := .data }, { on := 20, ground := .data }], guard := none }) rfl (fun K hK => ?_) ?_
    rotate_left
    refine AllReadyH.cons (o := { dst := some 3, op := Op.alloc 83, type := 0, pos := "parts.go:49", after := #[], guard := none }) rfl (fun K hK => ?_) AllReadyH.nil
    rotate_left

    · skip
      go_simp
      refine (HP2.out _ hb).mono ?_
      rintro e w' ⟨rfl, rfl⟩
      refine hK.out _ _ (HS.out _ hb) (fun hHeld => ?_)
      exact H2000.out _  hb 
    · skip
      go_simp
      refine hK.out _ _ (HS.out _ (b_alloc hb _)) (fun hHeld => ?_)
      exact H1100.out _ _ (b_alloc hb _) (at_new hb _ _)
    · skip
      go_simp
      refine hK.out _ _ (HS.out _ (b_alloc hb _)) (fun hHeld => ?_)
      exact H1010.out _ _ (b_alloc hb _) (at_new hb _ _)
    · skip
      go_simp
      refine hK.out _ _ (HS.out _ (b_alloc hb _)) (fun hHeld => ?_)
      exact H1001.out _ _ (b_alloc hb _) (at_new hb _ _)
  have H0111 : Hid (∀ (v : World) (g1 g2 g3 : Nat), Below w1.heap.size w1 v -> At w1 v g1 Z1 3 -> At w1 v g2 Z2 5 -> At w1 v g3 #[.int .u8 0, .int .i64 0, .int .i64 0, .int .i64 0, .slice none 0 0, .slice none 0 0] 83 -> wpAnyH Tryz.prog .any rops Q S 5 #[true, true, true, true, true, true, false, true, true, false, true, true, false, true, true, true, true, true, true, true, true, true, false, true, false] { tmps := #[a0, .pointer (some ⟨q, 0, none⟩), .pointer (some ⟨q + 1, 0, none⟩), .pointer (some ⟨g3, 0, none⟩), u0, .pointer (some ⟨q, 1, none⟩), .slice (some ⟨g, o + 2, none⟩) 1 1, .pointer (some ⟨g, o + 2, none⟩), .int .u8 (kn : Int), .pointer (some ⟨q, 2, none⟩), .slice (some ⟨g, o + 3, none⟩) 1 1, u0, .pointer (some ⟨q, 3, none⟩), .slice (some ⟨g, o + 4, none⟩) 4 4, u0, .pointer (some ⟨q, 4, none⟩), .slice (some ⟨g, o + 8, none⟩) 4 4, u0, .pointer (some ⟨q, 5, none⟩), .slice (some ⟨g, o + 12, none⟩) m m, .int .i64 (m : Int), .int .i64 (N : Int), .slice (some ⟨g1, 0, none⟩) N N, .pointer (some ⟨q, 6, none⟩), .slice (some ⟨g, o + 12 + m, none⟩) d d, .int .i64 (d : Int), .slice (some ⟨g2, 0, none⟩) d d, u0, u0, u0, u0, u0, u0, u0, u0, u0, u0, u0, u0, u0, u0, u0, u0, u0, u0, u0, u0, u0, u0], defers := [] } v) := fun v g1 g2 g3 hb f1 f2 f3 => by
    refine wpAnyH_ready (rs := [6]) (by kernel_rfl) (by simp) ?_
    refine AllReadyH.cons (o := { dst := some 11, op := Op.call { callee := Callee.value (Operand.func 94), args := #[.tmp 10], argTypes := #[74] }, type := 3, pos := "parts.go:51", after := #[{ on := 5, ground := .data }], guard := none }) rfl (fun K hK => ?_) AllReadyH.nil
    rotate_left

    · skip
      go_simp
      refine (HP1.out _ hb).mono ?_
      rintro e w' ⟨rfl, rfl⟩
      refine hK.out _ _ (HS.out _ hb) (fun hHeld => ?_)
      exact H1111.out _ g1 g2 g3 hb f1 f2 f3
  have H0011 : Hid (∀ (v : World) (g2 g3 : Nat), Below w1.heap.size w1 v -> At w1 v g2 Z2 5 -> At w1 v g3 #[.int .u8 0, .int .i64 0, .int .i64 0, .int .i64 0, .slice none 0 0, .slice none 0 0] 83 -> wpAnyH Tryz.prog .any rops Q S 6 #[true, true, true, true, true, true, false, true, true, false, true, true, false, true, true, true, true, false, true, true, true, true, false, true, false] { tmps := #[a0, .pointer (some ⟨q, 0, none⟩), .pointer (some ⟨q + 1, 0, none⟩), .pointer (some ⟨g3, 0, none⟩), u0, .pointer (some ⟨q, 1, none⟩), .slice (some ⟨g, o + 2, none⟩) 1 1, .pointer (some ⟨g, o + 2, none⟩), .int .u8 (kn : Int), .pointer (some ⟨q, 2, none⟩), .slice (some ⟨g, o + 3, none⟩) 1 1, u0, .pointer (some ⟨q, 3, none⟩), .slice (some ⟨g, o + 4, none⟩) 4 4, u0, .pointer (some ⟨q, 4, none⟩), .slice (some ⟨g, o + 8, none⟩) 4 4, u0, .pointer (some ⟨q, 5, none⟩), .slice (some ⟨g, o + 12, none⟩) m m, .int .i64 (m : Int), .int .i64 (N : Int), u0, .pointer (some ⟨q, 6, none⟩), .slice (some ⟨g, o + 12 + m, none⟩) d d, .int .i64 (d : Int), .slice (some ⟨g2, 0, none⟩) d d, u0, u0, u0, u0, u0, u0, u0, u0, u0, u0, u0, u0, u0, u0, u0, u0, u0, u0, u0, u0, u0, u0], defers := [] } v) := fun v g2 g3 hb f2 f3 => by
    refine wpAnyH_ready (rs := [6, 17]) (by kernel_rfl) (by simp) ?_
    refine AllReadyH.cons (o := { dst := some 11, op := Op.call { callee := Callee.value (Operand.func 94), args := #[.tmp 10], argTypes := #[74] }, type := 3, pos := "parts.go:51", after := #[{ on := 5, ground := .data }], guard := none }) rfl (fun K hK => ?_) ?_
    rotate_left
    refine AllReadyH.cons (o := { dst := some 22, op := Op.makeSlice 33 (.tmp 21) (.tmp 21), type := 33, pos := "parts.go:49", after := #[{ on := 16, ground := .data }, { on := 16, ground := .data }], guard := none }) rfl (fun K hK => ?_) AllReadyH.nil
    rotate_left

    · skip
      go_simp
      refine (HP1.out _ hb).mono ?_
      rintro e w' ⟨rfl, rfl⟩
      refine hK.out _ _ (HS.out _ hb) (fun hHeld => ?_)
      exact H1011.out _ g2 g3 hb f2 f3
    · skip
      go_simp
      refine hK.out _ _ (HS.out _ (b_alloc hb _)) (fun hHeld => ?_)
      exact H0111.out _ _ g2 g3 (b_alloc hb _) (at_new hb _ _) (f2.alloc _) (f3.alloc _)
  have H0101 : Hid (∀ (v : World) (g1 g3 : Nat), Below w1.heap.size w1 v -> At w1 v g1 Z1 3 -> At w1 v g3 #[.int .u8 0, .int .i64 0, .int .i64 0, .int .i64 0, .slice none 0 0, .slice none 0 0] 83 -> wpAnyH Tryz.prog .any rops Q S 6 #[true, true, true, true, true, true, false, true, true, false, true, true, false, true, true, true, true, true, true, true, true, false, false, true, false] { tmps := #[a0, .pointer (some ⟨q, 0, none⟩), .pointer (some ⟨q + 1, 0, none⟩), .pointer (some ⟨g3, 0, none⟩), u0, .pointer (some ⟨q, 1, none⟩), .slice (some ⟨g, o + 2, none⟩) 1 1, .pointer (some ⟨g, o + 2, none⟩), .int .u8 (kn : Int), .pointer (some ⟨q, 2, none⟩), .slice (some ⟨g, o + 3, none⟩) 1 1, u0, .pointer (some ⟨q, 3, none⟩), .slice (some ⟨g, o + 4, none⟩) 4 4, u0, .pointer (some ⟨q, 4, none⟩), .slice (some ⟨g, o + 8, none⟩) 4 4, u0, .pointer (some ⟨q, 5, none⟩), .slice (some ⟨g, o + 12, none⟩) m m, .int .i64 (m : Int), .int .i64 (N : Int), .slice (some ⟨g1, 0, none⟩) N N, .pointer (some ⟨q, 6, none⟩), .slice (some ⟨g, o + 12 + m, none⟩) d d, .int .i64 (d : Int), u0, u0, u0, u0, u0, u0, u0, u0, u0, u0, u0, u0, u0, u0, u0, u0, u0, u0, u0, u0, u0, u0, u0], defers := [] } v) := fun v g1 g3 hb f1 f3 => by
    refine wpAnyH_ready (rs := [6, 21]) (by kernel_rfl) (by simp) ?_
    refine AllReadyH.cons (o := { dst := some 11, op := Op.call { callee := Callee.value (Operand.func 94), args := #[.tmp 10], argTypes := #[74] }, type := 3, pos := "parts.go:51", after := #[{ on := 5, ground := .data }], guard := none }) rfl (fun K hK => ?_) ?_
    rotate_left
    refine AllReadyH.cons (o := { dst := some 26, op := Op.makeSlice 74 (.tmp 25) (.tmp 25), type := 74, pos := "parts.go:49", after := #[{ on := 20, ground := .data }, { on := 20, ground := .data }], guard := none }) rfl (fun K hK => ?_) AllReadyH.nil
    rotate_left

    · skip
      go_simp
      refine (HP1.out _ hb).mono ?_
      rintro e w' ⟨rfl, rfl⟩
      refine hK.out _ _ (HS.out _ hb) (fun hHeld => ?_)
      exact H1101.out _ g1 g3 hb f1 f3
    · skip
      go_simp
      refine hK.out _ _ (HS.out _ (b_alloc hb _)) (fun hHeld => ?_)
      exact H0111.out _ g1 _ g3 (b_alloc hb _) (f1.alloc _) (at_new hb _ _) (f3.alloc _)
  have H0110 : Hid (∀ (v : World) (g1 g2 : Nat), Below w1.heap.size w1 v -> At w1 v g1 Z1 3 -> At w1 v g2 Z2 5 -> wpAnyH Tryz.prog .any rops Q S 6 #[true, true, true, true, true, true, false, true, true, false, true, true, false, true, true, true, true, true, true, true, true, true, false, false, false] { tmps := #[a0, .pointer (some ⟨q, 0, none⟩), .pointer (some ⟨q + 1, 0, none⟩), u0, u0, .pointer (some ⟨q, 1, none⟩), .slice (some ⟨g, o + 2, none⟩) 1 1, .pointer (some ⟨g, o + 2, none⟩), .int .u8 (kn : Int), .pointer (some ⟨q, 2, none⟩), .slice (some ⟨g, o + 3, none⟩) 1 1, u0, .pointer (some ⟨q, 3, none⟩), .slice (some ⟨g, o + 4, none⟩) 4 4, u0, .pointer (some ⟨q, 4, none⟩), .slice (some ⟨g, o + 8, none⟩) 4 4, u0, .pointer (some ⟨q, 5, none⟩), .slice (some ⟨g, o + 12, none⟩) m m, .int .i64 (m : Int), .int .i64 (N : Int), .slice (some ⟨g1, 0, none⟩) N N, .pointer (some ⟨q, 6, none⟩), .slice (some ⟨g, o + 12 + m, none⟩) d d, .int .i64 (d : Int), .slice (some ⟨g2, 0, none⟩) d d, u0, u0, u0, u0, u0, u0, u0, u0, u0, u0, u0, u0, u0, u0, u0, u0, u0, u0, u0, u0, u0, u0], defers := [] } v) := fun v g1 g2 hb f1 f2 => by
    refine wpAnyH_ready (rs := [6, 23]) (by kernel_rfl) (by simp) ?_
    refine AllReadyH.cons (o := { dst := some 11, op := Op.call { callee := Callee.value (Operand.func 94), args := #[.tmp 10], argTypes := #[74] }, type := 3, pos := "parts.go:51", after := #[{ on := 5, ground := .data }], guard := none }) rfl (fun K hK => ?_) ?_
    rotate_left
    refine AllReadyH.cons (o := { dst := some 3, op := Op.alloc 83, type := 0, pos := "parts.go:49", after := #[], guard := none }) rfl (fun K hK => ?_) AllReadyH.nil
    rotate_left

    · skip
      go_simp
      refine (HP1.out _ hb).mono ?_
      rintro e w' ⟨rfl, rfl⟩
      refine hK.out _ _ (HS.out _ hb) (fun hHeld => ?_)
      exact H1110.out _ g1 g2 hb f1 f2
    · skip
      go_simp
      refine hK.out _ _ (HS.out _ (b_alloc hb _)) (fun hHeld => ?_)
      exact H0111.out _ g1 g2 _ (b_alloc hb _) (f1.alloc _) (f2.alloc _) (at_new hb _ _)
  have H0001 : Hid (∀ (v : World) (g3 : Nat), Below w1.heap.size w1 v -> At w1 v g3 #[.int .u8 0, .int .i64 0, .int .i64 0, .int .i64 0, .slice none 0 0, .slice none 0 0] 83 -> wpAnyH Tryz.prog .any rops Q S 7 #[true, true, true, true, true, true, false, true, true, false, true, true, false, true, true, true, true, false, true, true, true, false, false, true, false] { tmps := #[a0, .pointer (some ⟨q, 0, none⟩), .pointer (some ⟨q + 1, 0, none⟩), .pointer (some ⟨g3, 0, none⟩), u0, .pointer (some ⟨q, 1, none⟩), .slice (some ⟨g, o + 2, none⟩) 1 1, .pointer (some ⟨g, o + 2, none⟩), .int .u8 (kn : Int), .pointer (some ⟨q, 2, none⟩), .slice (some ⟨g, o + 3, none⟩) 1 1, u0, .pointer (some ⟨q, 3, none⟩), .slice (some ⟨g, o + 4, none⟩) 4 4, u0, .pointer (some ⟨q, 4, none⟩), .slice (some ⟨g, o + 8, none⟩) 4 4, u0, .pointer (some ⟨q, 5, none⟩), .slice (some ⟨g, o + 12, none⟩) m m, .int .i64 (m : Int), .int .i64 (N : Int), u0, .pointer (some ⟨q, 6, none⟩), .slice (some ⟨g, o + 12 + m, none⟩) d d, .int .i64 (d : Int), u0, u0, u0, u0, u0, u0, u0, u0, u0, u0, u0, u0, u0, u0, u0, u0, u0, u0, u0, u0, u0, u0, u0], defers := [] } v) := fun v g3 hb f3 => by
    refine wpAnyH_ready (rs := [6, 17, 21]) (by kernel_rfl) (by simp) ?_
    refine AllReadyH.cons (o := { dst := some 11, op := Op.call { callee := Callee.value (Operand.func 94), args := #[.tmp 10], argTypes := #[74] }, type := 3, pos := "parts.go:51", after := #[{ on := 5, ground := .data }], guard := none }) rfl (fun K hK => ?_) ?_
    rotate_left
    refine AllReadyH.cons (o := { dst := some 22, op := Op.makeSlice 33 (.tmp 21) (.tmp 21), type := 33, pos := "parts.go:49", after := #[{ on := 16, ground := .data }, { on := 16, ground := .data }], guard := none }) rfl (fun K hK => ?_) ?_
    rotate_left
    refine AllReadyH.cons (o := { dst := some 26, op := Op.makeSlice 74 (.tmp 25) (.tmp 25), type := 74, pos := "parts.go:49", after := #[{ on := 20, ground := .data }, { on := 20, ground := .data }], guard := none }) rfl (fun K hK => ?_) AllReadyH.nil
    rotate_left

    · skip
      go_simp
      refine (HP1.out _ hb).mono ?_
      rintro e w' ⟨rfl, rfl⟩
      refine hK.out _ _ (HS.out _ hb) (fun hHeld => ?_)
      exact H1001.out _ g3 hb f3
    · skip
      go_simp
      refine hK.out _ _ (HS.out _ (b_alloc hb _)) (fun hHeld => ?_)
      exact H0101.out _ _ g3 (b_alloc hb _) (at_new hb _ _) (f3.alloc _)
    · skip
      go_simp
      refine hK.out _ _ (HS.out _ (b_alloc hb _)) (fun hHeld => ?_)
      exact H0011.out _ _ g3 (b_alloc hb _) (at_new hb _ _) (f3.alloc _)
  have H0010 : Hid (∀ (v : World) (g2 : Nat), Below w1.heap.size w1 v -> At w1 v g2 Z2 5 -> wpAnyH Tryz.prog .any rops Q S 7 #[true, true, true, true, true, true, false, true, true, false, true, true, false, true, true, true, true, false, true, true, true, true, false, false, false] { tmps := #[a0, .pointer (some ⟨q, 0, none⟩), .pointer (some ⟨q + 1, 0, none⟩), u0, u0, .pointer (some ⟨q, 1, none⟩), .slice (some ⟨g, o + 2, none⟩) 1 1, .pointer (some ⟨g, o + 2, none⟩), .int .u8 (kn : Int), .pointer (some ⟨q, 2, none⟩), .slice (some ⟨g, o + 3, none⟩) 1 1, u0, .pointer (some ⟨q, 3, none⟩), .slice (some ⟨g, o + 4, none⟩) 4 4, u0, .pointer (some ⟨q, 4, none⟩), .slice (some ⟨g, o + 8, none⟩) 4 4, u0, .pointer (some ⟨q, 5, none⟩), .slice (some ⟨g, o + 12, none⟩) m m, .int .i64 (m : Int), .int .i64 (N : Int), u0, .pointer (some ⟨q, 6, none⟩), .slice (some ⟨g, o + 12 + m, none⟩) d d, .int .i64 (d : Int), .slice (some ⟨g2, 0, none⟩) d d, u0, u0, u0, u0, u0, u0, u0, u0, u0, u0, u0, u0, u0, u0, u0, u0, u0, u0, u0, u0, u0, u0], defers := [] } v) := fun v g2 hb f2 => by
    refine wpAnyH_ready (rs := [6, 17, 23]) (by kernel_rfl) (by simp) ?_
    refine AllReadyH.cons (o := { dst := some 11, op := Op.call { callee := Callee.value (Operand.func 94), args := #[.tmp 10], argTypes := #[74] }, type := 3, pos := "parts.go:51", after := #[{ on := 5, ground := .data }], guard := none }) rfl (fun K hK => ?_) ?_
    rotate_left
    refine AllReadyH.cons (o := { dst := some 22, op := Op.makeSlice 33 (.tmp 21) (.tmp 21), type := 33, pos := "parts.go:49", after := #[{ on := 16, ground := .data }, { on := 16, ground := .data }], guard := none }) rfl (fun K hK => ?_) ?_
    rotate_left
    refine AllReadyH.cons (o := { dst := some 3, op := Op.alloc 83, type := 0, pos := "parts.go:49", after := #[], guard := none }) rfl (fun K hK => ?_) AllReadyH.nil
    rotate_left

    · skip
      go_simp
      refine (HP1.out _ hb).mono ?_
      rintro e w' ⟨rfl, rfl⟩
      refine hK.out _ _ (HS.out _ hb) (fun hHeld => ?_)
      exact H1010.out _ g2 hb f2
    · skip
      go_simp
      refine hK.out _ _ (HS.out _ (b_alloc hb _)) (fun hHeld => ?_)
      exact H0110.out _ _ g2 (b_alloc hb _) (at_new hb _ _) (f2.alloc _)
    · skip
      go_simp
      refine hK.out _ _ (HS.out _ (b_alloc hb _)) (fun hHeld => ?_)
      exact H0011.out _ g2 _ (b_alloc hb _) (f2.alloc _) (at_new hb _ _)
  have H0100 : Hid (∀ (v : World) (g1 : Nat), Below w1.heap.size w1 v -> At w1 v g1 Z1 3 -> wpAnyH Tryz.prog .any rops Q S 7 #[true, true, true, true, true, true, false, true, true, false, true, true, false, true, true, true, true, true, true, true, true, false, false, false, false] { tmps := #[a0, .pointer (some ⟨q, 0, none⟩), .pointer (some ⟨q + 1, 0, none⟩), u0, u0, .pointer (some ⟨q, 1, none⟩), .slice (some ⟨g, o + 2, none⟩) 1 1, .pointer (some ⟨g, o + 2, none⟩), .int .u8 (kn : Int), .pointer (some ⟨q, 2, none⟩), .slice (some ⟨g, o + 3, none⟩) 1 1, u0, .pointer (some ⟨q, 3, none⟩), .slice (some ⟨g, o + 4, none⟩) 4 4, u0, .pointer (some ⟨q, 4, none⟩), .slice (some ⟨g, o + 8, none⟩) 4 4, u0, .pointer (some ⟨q, 5, none⟩), .slice (some ⟨g, o + 12, none⟩) m m, .int .i64 (m : Int), .int .i64 (N : Int), .slice (some ⟨g1, 0, none⟩) N N, .pointer (some ⟨q, 6, none⟩), .slice (some ⟨g, o + 12 + m, none⟩) d d, .int .i64 (d : Int), u0, u0, u0, u0, u0, u0, u0, u0, u0, u0, u0, u0, u0, u0, u0, u0, u0, u0, u0, u0, u0, u0, u0], defers := [] } v) := fun v g1 hb f1 => by
    refine wpAnyH_ready (rs := [6, 21, 23]) (by kernel_rfl) (by simp) ?_
    refine AllReadyH.cons (o := { dst := some 11, op := Op.call { callee := Callee.value (Operand.func 94), args := #[.tmp 10], argTypes := #[74] }, type := 3, pos := "parts.go:51", after := #[{ on := 5, ground := .data }], guard := none }) rfl (fun K hK => ?_) ?_
    rotate_left
    refine AllReadyH.cons (o := { dst := some 26, op := Op.makeSlice 74 (.tmp 25) (.tmp 25), type := 74, pos := "parts.go:49", after := #[{ on := 20, ground := .data }, { on := 20, ground := .data }], guard := none }) rfl (fun K hK => ?_) ?_
    rotate_left
    refine AllReadyH.cons (o := { dst := some 3, op := Op.alloc 83, type := 0, pos := "parts.go:49", after := #[], guard := none }) rfl (fun K hK => ?_) AllReadyH.nil
    rotate_left

    · skip
      go_simp
      refine (HP1.out _ hb).mono ?_
      rintro e w' ⟨rfl, rfl⟩
      refine hK.out _ _ (HS.out _ hb) (fun hHeld => ?_)
      exact H1100.out _ g1 hb f1
    · skip
      go_simp
      refine hK.out _ _ (HS.out _ (b_alloc hb _)) (fun hHeld => ?_)
      exact H0110.out _ g1 _ (b_alloc hb _) (f1.alloc _) (at_new hb _ _)
    · skip
      go_simp
      refine hK.out _ _ (HS.out _ (b_alloc hb _)) (fun hHeld => ?_)
      exact H0101.out _ g1 _ (b_alloc hb _) (f1.alloc _) (at_new hb _ _)
  have H0000 : Hid (∀ (v : World), Below w1.heap.size w1 v -> wpAnyH Tryz.prog .any rops Q S 8 #[true, true, true, true, true, true, false, true, true, false, true, true, false, true, true, true, true, false, true, true, true, false, false, false, false] { tmps := #[a0, .pointer (some ⟨q, 0, none⟩), .pointer (some ⟨q + 1, 0, none⟩), u0, u0, .pointer (some ⟨q, 1, none⟩), .slice (some ⟨g, o + 2, none⟩) 1 1, .pointer (some ⟨g, o + 2, none⟩), .int .u8 (kn : Int), .pointer (some ⟨q, 2, none⟩), .slice (some ⟨g, o + 3, none⟩) 1 1, u0, .pointer (some ⟨q, 3, none⟩), .slice (some ⟨g, o + 4, none⟩) 4 4, u0, .pointer (some ⟨q, 4, none⟩), .slice (some ⟨g, o + 8, none⟩) 4 4, u0, .pointer (some ⟨q, 5, none⟩), .slice (some ⟨g, o + 12, none⟩) m m, .int .i64 (m : Int), .int .i64 (N : Int), u0, .pointer (some ⟨q, 6, none⟩), .slice (some ⟨g, o + 12 + m, none⟩) d d, .int .i64 (d : Int), u0, u0, u0, u0, u0, u0, u0, u0, u0, u0, u0, u0, u0, u0, u0, u0, u0, u0, u0, u0, u0, u0, u0], defers := [] } v) := fun v hb => by
    refine wpAnyH_ready (rs := [6, 17, 21, 23]) (by kernel_rfl) (by simp) ?_
    refine AllReadyH.cons (o := { dst := some 11, op := Op.call { callee := Callee.value (Operand.func 94), args := #[.tmp 10], argTypes := #[74] }, type := 3, pos := "parts.go:51", after := #[{ on := 5, ground := .data }], guard := none }) rfl (fun K hK => ?_) ?_
    rotate_left
    refine AllReadyH.cons (o := { dst := some 22, op := Op.makeSlice 33 (.tmp 21) (.tmp 21), type := 33, pos := "parts.go:49", after := #[{ on := 16, ground := .data }, { on := 16, ground := .data }], guard := none }) rfl (fun K hK => ?_) ?_
    rotate_left
    refine AllReadyH.cons (o := { dst := some 26, op := Op.makeSlice 74 (.tmp 25) (.tmp 25), type := 74, pos := "parts.go:49", after := #[{ on := 20, ground := .data }, { on := 20, ground := .data }], guard := none }) rfl (fun K hK => ?_) ?_
    rotate_left
    refine AllReadyH.cons (o := { dst := some 3, op := Op.alloc 83, type := 0, pos := "parts.go:49", after := #[], guard := none }) rfl (fun K hK => ?_) AllReadyH.nil
    rotate_left

    · skip
      go_simp
      refine (HP1.out _ hb).mono ?_
      rintro e w' ⟨rfl, rfl⟩
      refine hK.out _ _ (HS.out _ hb) (fun hHeld => ?_)
      exact H1000.out _  hb 
    · skip
      go_simp
      refine hK.out _ _ (HS.out _ (b_alloc hb _)) (fun hHeld => ?_)
      exact H0100.out _ _ (b_alloc hb _) (at_new hb _ _)
    · skip
      go_simp
      refine hK.out _ _ (HS.out _ (b_alloc hb _)) (fun hHeld => ?_)
      exact H0010.out _ _ (b_alloc hb _) (at_new hb _ _)
    · skip
      go_simp
      refine hK.out _ _ (HS.out _ (b_alloc hb _)) (fun hHeld => ?_)
      exact H0001.out _ _ (b_alloc hb _) (at_new hb _ _)
  refine wp_region_held_drew (S := S) (by kernel_rfl) (HS.out _ (below_drew _ _)) (fun hHeld => ?_)
  have hb : Below w1.heap.size w1 w1.drew := below_drew _ _
  rw [show rops.size = 25 from by kernel_rfl, show Array.replicate 25 false = #[false, false, false, false, false, false, false, false, false, false, false, false, false, false, false, false, false, false, false, false, false, false, false, false, false] from by kernel_rfl]
  refine wpAnyH_take (i := 0) (oi := { dst := some 5, op := Op.fieldAddr 119 (.tmp 1) 1, type := 0, pos := "parts.go:49", after := #[], guard := none }) (v := .pointer (some ⟨q, 1, none⟩)) rfl (by kernel_rfl) (by kernel_rfl) (by kernel_rfl) (fun _ _ _ h => (hQp _ _ _ h).elim) (Or.inl ⟨by kernel_rfl, ?_⟩) (HS.out _ hb) ?_
  · intro w' hSw
    obtain ⟨s1, s2, s3, s4, s5, s6, s7⟩ := HS1.out _ hSw
    go_simp <;> first | with_reducible rfl | assumption
  show wpAnyH Tryz.prog .any rops Q S 24 #[true, false, false, false, false, false, false, false, false, false, false, false, false, false, false, false, false, false, false, false, false, false, false, false, false] { tmps := #[a0, .pointer (some ⟨q, 0, none⟩), .pointer (some ⟨q + 1, 0, none⟩), u0, u0, .pointer (some ⟨q, 1, none⟩), u0, u0, u0, u0, u0, u0, u0, u0, u0, u0, u0, u0, u0, u0, u0, u0, u0, u0, u0, u0, u0, u0, u0, u0, u0, u0, u0, u0, u0, u0, u0, u0, u0, u0, u0, u0, u0, u0, u0, u0, u0, u0, u0], defers := [] } w1.drew
  refine wpAnyH_take (i := 1) (oi := { dst := some 6, op := Op.load 74 (.tmp 5), type := 74, pos := "parts.go:49", after := #[{ on := 0, ground := .data }], guard := none }) (v := .slice (some ⟨g, o + 2, none⟩) 1 1) rfl (by kernel_rfl) (by kernel_rfl) (by kernel_rfl) (fun _ _ _ h => (hQp _ _ _ h).elim) (Or.inl ⟨by kernel_rfl, ?_⟩) (HS.out _ hb) ?_
  · intro w' hSw
    obtain ⟨s1, s2, s3, s4, s5, s6, s7⟩ := HS1.out _ hSw
    go_simp <;> first | with_reducible rfl | assumption
  show wpAnyH Tryz.prog .any rops Q S 23 #[true, true, false, false, false, false, false, false, false, false, false, false, false, false, false, false, false, false, false, false, false, false, false, false, false] { tmps := #[a0, .pointer (some ⟨q, 0, none⟩), .pointer (some ⟨q + 1, 0, none⟩), u0, u0, .pointer (some ⟨q, 1, none⟩), .slice (some ⟨g, o + 2, none⟩) 1 1, u0, u0, u0, u0, u0, u0, u0, u0, u0, u0, u0, u0, u0, u0, u0, u0, u0, u0, u0, u0, u0, u0, u0, u0, u0, u0, u0, u0, u0, u0, u0, u0, u0, u0, u0, u0, u0, u0, u0, u0, u0, u0], defers := [] } w1.drew
  refine wpAnyH_take (i := 2) (oi := { dst := some 7, op := Op.indexAddr 74 (.tmp 6) (Operand.const (Value.int IntKind.i64 0)), type := 0, pos := "parts.go:49", after := #[{ on := 1, ground := .data }], guard := none }) (v := .pointer (some ⟨g, o + 2, none⟩)) rfl (by kernel_rfl) (by kernel_rfl) (by kernel_rfl) (fun _ _ _ h => (hQp _ _ _ h).elim) (Or.inl ⟨by kernel_rfl, ?_⟩) (HS.out _ hb) ?_
  · intro w' hSw
    obtain ⟨s1, s2, s3, s4, s5, s6, s7⟩ := HS1.out _ hSw
    go_simp <;> first | with_reducible rfl | assumption
  show wpAnyH Tryz.prog .any rops Q S 22 #[true, true, true, false, false, false, false, false, false, false, false, false, false, false, false, false, false, false, false, false, false, false, false, false, false] { tmps := #[a0, .pointer (some ⟨q, 0, none⟩), .pointer (some ⟨q + 1, 0, none⟩), u0, u0, .pointer (some ⟨q, 1, none⟩), .slice (some ⟨g, o + 2, none⟩) 1 1, .pointer (some ⟨g, o + 2, none⟩), u0, u0, u0, u0, u0, u0, u0, u0, u0, u0, u0, u0, u0, u0, u0, u0, u0, u0, u0, u0, u0, u0, u0, u0, u0, u0, u0, u0, u0, u0, u0, u0, u0, u0, u0, u0, u0, u0, u0, u0, u0], defers := [] } w1.drew
  refine wpAnyH_take (i := 3) (oi := { dst := some 8, op := Op.load 5 (.tmp 7), type := 5, pos := "parts.go:49", after := #[{ on := 2, ground := .data }], guard := none }) (v := .int .u8 (kn : Int)) rfl (by kernel_rfl) (by kernel_rfl) (by kernel_rfl) (fun _ _ _ h => (hQp _ _ _ h).elim) (Or.inl ⟨by kernel_rfl, ?_⟩) (HS.out _ hb) ?_
  · intro w' hSw
    obtain ⟨s1, s2, s3, s4, s5, s6, s7⟩ := HS1.out _ hSw
    go_simp <;> first | with_reducible rfl | assumption
  show wpAnyH Tryz.prog .any rops Q S 21 #[true, true, true, true, false, false, false, false, false, false, false, false, false, false, false, false, false, false, false, false, false, false, false, false, false] { tmps := #[a0, .pointer (some ⟨q, 0, none⟩), .pointer (some ⟨q + 1, 0, none⟩), u0, u0, .pointer (some ⟨q, 1, none⟩), .slice (some ⟨g, o + 2, none⟩) 1 1, .pointer (some ⟨g, o + 2, none⟩), .int .u8 (kn : Int), u0, u0, u0, u0, u0, u0, u0, u0, u0, u0, u0, u0, u0, u0, u0, u0, u0, u0, u0, u0, u0, u0, u0, u0, u0, u0, u0, u0, u0, u0, u0, u0, u0, u0, u0, u0, u0, u0, u0, u0], defers := [] } w1.drew
  refine wpAnyH_take (i := 4) (oi := { dst := some 9, op := Op.fieldAddr 119 (.tmp 1) 2, type := 0, pos := "parts.go:49", after := #[], guard := none }) (v := .pointer (some ⟨q, 2, none⟩)) rfl (by kernel_rfl) (by kernel_rfl) (by kernel_rfl) (fun _ _ _ h => (hQp _ _ _ h).elim) (Or.inl ⟨by kernel_rfl, ?_⟩) (HS.out _ hb) ?_
  · intro w' hSw
    obtain ⟨s1, s2, s3, s4, s5, s6, s7⟩ := HS1.out _ hSw
    go_simp <;> first | with_reducible rfl | assumption
  show wpAnyH Tryz.prog .any rops Q S 20 #[true, true, true, true, true, false, false, false, false, false, false, false, false, false, false, false, false, false, false, false, false, false, false, false, false] { tmps := #[a0, .pointer (some ⟨q, 0, none⟩), .pointer (some ⟨q + 1, 0, none⟩), u0, u0, .pointer (some ⟨q, 1, none⟩), .slice (some ⟨g, o + 2, none⟩) 1 1, .pointer (some ⟨g, o + 2, none⟩), .int .u8 (kn : Int), .pointer (some ⟨q, 2, none⟩), u0, u0, u0, u0, u0, u0, u0, u0, u0, u0, u0, u0, u0, u0, u0, u0, u0, u0, u0, u0, u0, u0, u0, u0, u0, u0, u0, u0, u0, u0, u0, u0, u0, u0, u0, u0, u0, u0, u0], defers := [] } w1.drew
  refine wpAnyH_take (i := 5) (oi := { dst := some 10, op := Op.load 74 (.tmp 9), type := 74, pos := "parts.go:49", after := #[{ on := 4, ground := .data }], guard := none }) (v := .slice (some ⟨g, o + 3, none⟩) 1 1) rfl (by kernel_rfl) (by kernel_rfl) (by kernel_rfl) (fun _ _ _ h => (hQp _ _ _ h).elim) (Or.inl ⟨by kernel_rfl, ?_⟩) (HS.out _ hb) ?_
  · intro w' hSw
    obtain ⟨s1, s2, s3, s4, s5, s6, s7⟩ := HS1.out _ hSw
    go_simp <;> first | with_reducible rfl | assumption
  show wpAnyH Tryz.prog .any rops Q S 19 #[true, true, true, true, true, true, false, false, false, false, false, false, false, false, false, false, false, false, false, false, false, false, false, false, false] { tmps := #[a0, .pointer (some ⟨q, 0, none⟩), .pointer (some ⟨q + 1, 0, none⟩), u0, u0, .pointer (some ⟨q, 1, none⟩), .slice (some ⟨g, o + 2, none⟩) 1 1, .pointer (some ⟨g, o + 2, none⟩), .int .u8 (kn : Int), .pointer (some ⟨q, 2, none⟩), .slice (some ⟨g, o + 3, none⟩) 1 1, u0, u0, u0, u0, u0, u0, u0, u0, u0, u0, u0, u0, u0, u0, u0, u0, u0, u0, u0, u0, u0, u0, u0, u0, u0, u0, u0, u0, u0, u0, u0, u0, u0, u0, u0, u0, u0, u0], defers := [] } w1.drew
  refine wpAnyH_take (i := 7) (oi := { dst := some 12, op := Op.fieldAddr 119 (.tmp 1) 3, type := 0, pos := "parts.go:49", after := #[], guard := none }) (v := .pointer (some ⟨q, 3, none⟩)) rfl (by kernel_rfl) (by kernel_rfl) (by kernel_rfl) (fun _ _ _ h => (hQp _ _ _ h).elim) (Or.inl ⟨by kernel_rfl, ?_⟩) (HS.out _ hb) ?_
  · intro w' hSw
    obtain ⟨s1, s2, s3, s4, s5, s6, s7⟩ := HS1.out _ hSw
    go_simp <;> first | with_reducible rfl | assumption
  show wpAnyH Tryz.prog .any rops Q S 18 #[true, true, true, true, true, true, false, true, false, false, false, false, false, false, false, false, false, false, false, false, false, false, false, false, false] { tmps := #[a0, .pointer (some ⟨q, 0, none⟩), .pointer (some ⟨q + 1, 0, none⟩), u0, u0, .pointer (some ⟨q, 1, none⟩), .slice (some ⟨g, o + 2, none⟩) 1 1, .pointer (some ⟨g, o + 2, none⟩), .int .u8 (kn : Int), .pointer (some ⟨q, 2, none⟩), .slice (some ⟨g, o + 3, none⟩) 1 1, u0, .pointer (some ⟨q, 3, none⟩), u0, u0, u0, u0, u0, u0, u0, u0, u0, u0, u0, u0, u0, u0, u0, u0, u0, u0, u0, u0, u0, u0, u0, u0, u0, u0, u0, u0, u0, u0, u0, u0, u0, u0, u0, u0], defers := [] } w1.drew
  refine wpAnyH_take (i := 8) (oi := { dst := some 13, op := Op.load 74 (.tmp 12), type := 74, pos := "parts.go:49", after := #[{ on := 7, ground := .data }], guard := none }) (v := .slice (some ⟨g, o + 4, none⟩) 4 4) rfl (by kernel_rfl) (by kernel_rfl) (by kernel_rfl) (fun _ _ _ h => (hQp _ _ _ h).elim) (Or.inl ⟨by kernel_rfl, ?_⟩) (HS.out _ hb) ?_
  · intro w' hSw
    obtain ⟨s1, s2, s3, s4, s5, s6, s7⟩ := HS1.out _ hSw
    go_simp <;> first | with_reducible rfl | assumption
  show wpAnyH Tryz.prog .any rops Q S 17 #[true, true, true, true, true, true, false, true, true, false, false, false, false, false, false, false, false, false, false, false, false, false, false, false, false] { tmps := #[a0, .pointer (some ⟨q, 0, none⟩), .pointer (some ⟨q + 1, 0, none⟩), u0, u0, .pointer (some ⟨q, 1, none⟩), .slice (some ⟨g, o + 2, none⟩) 1 1, .pointer (some ⟨g, o + 2, none⟩), .int .u8 (kn : Int), .pointer (some ⟨q, 2, none⟩), .slice (some ⟨g, o + 3, none⟩) 1 1, u0, .pointer (some ⟨q, 3, none⟩), .slice (some ⟨g, o + 4, none⟩) 4 4, u0, u0, u0, u0, u0, u0, u0, u0, u0, u0, u0, u0, u0, u0, u0, u0, u0, u0, u0, u0, u0, u0, u0, u0, u0, u0, u0, u0, u0, u0, u0, u0, u0, u0, u0], defers := [] } w1.drew
  refine wpAnyH_take (i := 10) (oi := { dst := some 15, op := Op.fieldAddr 119 (.tmp 1) 4, type := 0, pos := "parts.go:49", after := #[], guard := none }) (v := .pointer (some ⟨q, 4, none⟩)) rfl (by kernel_rfl) (by kernel_rfl) (by kernel_rfl) (fun _ _ _ h => (hQp _ _ _ h).elim) (Or.inl ⟨by kernel_rfl, ?_⟩) (HS.out _ hb) ?_
  · intro w' hSw
    obtain ⟨s1, s2, s3, s4, s5, s6, s7⟩ := HS1.out _ hSw
    go_simp <;> first | with_reducible rfl | assumption
  show wpAnyH Tryz.prog .any rops Q S 16 #[true, true, true, true, true, true, false, true, true, false, true, false, false, false, false, false, false, false, false, false, false, false, false, false, false] { tmps := #[a0, .pointer (some ⟨q, 0, none⟩), .pointer (some ⟨q + 1, 0, none⟩), u0, u0, .pointer (some ⟨q, 1, none⟩), .slice (some ⟨g, o + 2, none⟩) 1 1, .pointer (some ⟨g, o + 2, none⟩), .int .u8 (kn : Int), .pointer (some ⟨q, 2, none⟩), .slice (some ⟨g, o + 3, none⟩) 1 1, u0, .pointer (some ⟨q, 3, none⟩), .slice (some ⟨g, o + 4, none⟩) 4 4, u0, .pointer (some ⟨q, 4, none⟩), u0, u0, u0, u0, u0, u0, u0, u0, u0, u0, u0, u0, u0, u0, u0, u0, u0, u0, u0, u0, u0, u0, u0, u0, u0, u0, u0, u0, u0, u0, u0, u0, u0], defers := [] } w1.drew
  refine wpAnyH_take (i := 11) (oi := { dst := some 16, op := Op.load 74 (.tmp 15), type := 74, pos := "parts.go:49", after := #[{ on := 10, ground := .data }], guard := none }) (v := .slice (some ⟨g, o + 8, none⟩) 4 4) rfl (by kernel_rfl) (by kernel_rfl) (by kernel_rfl) (fun _ _ _ h => (hQp _ _ _ h).elim) (Or.inl ⟨by kernel_rfl, ?_⟩) (HS.out _ hb) ?_
  · intro w' hSw
    obtain ⟨s1, s2, s3, s4, s5, s6, s7⟩ := HS1.out _ hSw
    go_simp <;> first | with_reducible rfl | assumption
  show wpAnyH Tryz.prog .any rops Q S 15 #[true, true, true, true, true, true, false, true, true, false, true, true, false, false, false, false, false, false, false, false, false, false, false, false, false] { tmps := #[a0, .pointer (some ⟨q, 0, none⟩), .pointer (some ⟨q + 1, 0, none⟩), u0, u0, .pointer (some ⟨q, 1, none⟩), .slice (some ⟨g, o + 2, none⟩) 1 1, .pointer (some ⟨g, o + 2, none⟩), .int .u8 (kn : Int), .pointer (some ⟨q, 2, none⟩), .slice (some ⟨g, o + 3, none⟩) 1 1, u0, .pointer (some ⟨q, 3, none⟩), .slice (some ⟨g, o + 4, none⟩) 4 4, u0, .pointer (some ⟨q, 4, none⟩), .slice (some ⟨g, o + 8, none⟩) 4 4, u0, u0, u0, u0, u0, u0, u0, u0, u0, u0, u0, u0, u0, u0, u0, u0, u0, u0, u0, u0, u0, u0, u0, u0, u0, u0, u0, u0, u0, u0, u0, u0], defers := [] } w1.drew
  refine wpAnyH_take (i := 13) (oi := { dst := some 18, op := Op.fieldAddr 119 (.tmp 1) 5, type := 0, pos := "parts.go:49", after := #[], guard := none }) (v := .pointer (some ⟨q, 5, none⟩)) rfl (by kernel_rfl) (by kernel_rfl) (by kernel_rfl) (fun _ _ _ h => (hQp _ _ _ h).elim) (Or.inl ⟨by kernel_rfl, ?_⟩) (HS.out _ hb) ?_
  · intro w' hSw
    obtain ⟨s1, s2, s3, s4, s5, s6, s7⟩ := HS1.out _ hSw
    go_simp <;> first | with_reducible rfl | assumption
  show wpAnyH Tryz.prog .any rops Q S 14 #[true, true, true, true, true, true, false, true, true, false, true, true, false, true, false, false, false, false, false, false, false, false, false, false, false] { tmps := #[a0, .pointer (some ⟨q, 0, none⟩), .pointer (some ⟨q + 1, 0, none⟩), u0, u0, .pointer (some ⟨q, 1, none⟩), .slice (some ⟨g, o + 2, none⟩) 1 1, .pointer (some ⟨g, o + 2, none⟩), .int .u8 (kn : Int), .pointer (some ⟨q, 2, none⟩), .slice (some ⟨g, o + 3, none⟩) 1 1, u0, .pointer (some ⟨q, 3, none⟩), .slice (some ⟨g, o + 4, none⟩) 4 4, u0, .pointer (some ⟨q, 4, none⟩), .slice (some ⟨g, o + 8, none⟩) 4 4, u0, .pointer (some ⟨q, 5, none⟩), u0, u0, u0, u0, u0, u0, u0, u0, u0, u0, u0, u0, u0, u0, u0, u0, u0, u0, u0, u0, u0, u0, u0, u0, u0, u0, u0, u0, u0, u0], defers := [] } w1.drew
  refine wpAnyH_take (i := 14) (oi := { dst := some 19, op := Op.load 74 (.tmp 18), type := 74, pos := "parts.go:49", after := #[{ on := 13, ground := .data }], guard := none }) (v := .slice (some ⟨g, o + 12, none⟩) m m) rfl (by kernel_rfl) (by kernel_rfl) (by kernel_rfl) (fun _ _ _ h => (hQp _ _ _ h).elim) (Or.inl ⟨by kernel_rfl, ?_⟩) (HS.out _ hb) ?_
  · intro w' hSw
    obtain ⟨s1, s2, s3, s4, s5, s6, s7⟩ := HS1.out _ hSw
    go_simp <;> first | with_reducible rfl | assumption
  show wpAnyH Tryz.prog .any rops Q S 13 #[true, true, true, true, true, true, false, true, true, false, true, true, false, true, true, false, false, false, false, false, false, false, false, false, false] { tmps := #[a0, .pointer (some ⟨q, 0, none⟩), .pointer (some ⟨q + 1, 0, none⟩), u0, u0, .pointer (some ⟨q, 1, none⟩), .slice (some ⟨g, o + 2, none⟩) 1 1, .pointer (some ⟨g, o + 2, none⟩), .int .u8 (kn : Int), .pointer (some ⟨q, 2, none⟩), .slice (some ⟨g, o + 3, none⟩) 1 1, u0, .pointer (some ⟨q, 3, none⟩), .slice (some ⟨g, o + 4, none⟩) 4 4, u0, .pointer (some ⟨q, 4, none⟩), .slice (some ⟨g, o + 8, none⟩) 4 4, u0, .pointer (some ⟨q, 5, none⟩), .slice (some ⟨g, o + 12, none⟩) m m, u0, u0, u0, u0, u0, u0, u0, u0, u0, u0, u0, u0, u0, u0, u0, u0, u0, u0, u0, u0, u0, u0, u0, u0, u0, u0, u0, u0, u0], defers := [] } w1.drew
  refine wpAnyH_take (i := 15) (oi := { dst := some 20, op := Op.call { callee := Callee.builtin Builtin.len, args := #[.tmp 19], argTypes := #[74] }, type := 3, pos := "parts.go:49", after := #[{ on := 14, ground := .data }], guard := none }) (v := .int .i64 (m : Int)) rfl (by kernel_rfl) (by kernel_rfl) (by kernel_rfl) (fun _ _ _ h => (hQp _ _ _ h).elim) (Or.inl ⟨by kernel_rfl, ?_⟩) (HS.out _ hb) ?_
  · intro w' hSw
    obtain ⟨s1, s2, s3, s4, s5, s6, s7⟩ := HS1.out _ hSw
    go_simp <;> first | with_reducible rfl | assumption
  show wpAnyH Tryz.prog .any rops Q S 12 #[true, true, true, true, true, true, false, true, true, false, true, true, false, true, true, true, false, false, false, false, false, false, false, false, false] { tmps := #[a0, .pointer (some ⟨q, 0, none⟩), .pointer (some ⟨q + 1, 0, none⟩), u0, u0, .pointer (some ⟨q, 1, none⟩), .slice (some ⟨g, o + 2, none⟩) 1 1, .pointer (some ⟨g, o + 2, none⟩), .int .u8 (kn : Int), .pointer (some ⟨q, 2, none⟩), .slice (some ⟨g, o + 3, none⟩) 1 1, u0, .pointer (some ⟨q, 3, none⟩), .slice (some ⟨g, o + 4, none⟩) 4 4, u0, .pointer (some ⟨q, 4, none⟩), .slice (some ⟨g, o + 8, none⟩) 4 4, u0, .pointer (some ⟨q, 5, none⟩), .slice (some ⟨g, o + 12, none⟩) m m, .int .i64 (m : Int), u0, u0, u0, u0, u0, u0, u0, u0, u0, u0, u0, u0, u0, u0, u0, u0, u0, u0, u0, u0, u0, u0, u0, u0, u0, u0, u0, u0], defers := [] } w1.drew
  refine wpAnyH_take (i := 16) (oi := { dst := some 21, op := Op.binOp BinOp.quo 3 (.tmp 20) (Operand.const (Value.int IntKind.i64 4)) 3, type := 3, pos := "parts.go:49", after := #[{ on := 15, ground := .data }], guard := none }) (v := .int .i64 (N : Int)) rfl (by kernel_rfl) (by kernel_rfl) (by kernel_rfl) (fun _ _ _ h => (hQp _ _ _ h).elim) (Or.inl ⟨by kernel_rfl, ?_⟩) (HS.out _ hb) ?_
  · intro w' hSw
    obtain ⟨s1, s2, s3, s4, s5, s6, s7⟩ := HS1.out _ hSw
    go_simp <;> first | with_reducible rfl | assumption
  show wpAnyH Tryz.prog .any rops Q S 11 #[true, true, true, true, true, true, false, true, true, false, true, true, false, true, true, true, true, false, false, false, false, false, false, false, false] { tmps := #[a0, .pointer (some ⟨q, 0, none⟩), .pointer (some ⟨q + 1, 0, none⟩), u0, u0, .pointer (some ⟨q, 1, none⟩), .slice (some ⟨g, o + 2, none⟩) 1 1, .pointer (some ⟨g, o + 2, none⟩), .int .u8 (kn : Int), .pointer (some ⟨q, 2, none⟩), .slice (some ⟨g, o + 3, none⟩) 1 1, u0, .pointer (some ⟨q, 3, none⟩), .slice (some ⟨g, o + 4, none⟩) 4 4, u0, .pointer (some ⟨q, 4, none⟩), .slice (some ⟨g, o + 8, none⟩) 4 4, u0, .pointer (some ⟨q, 5, none⟩), .slice (some ⟨g, o + 12, none⟩) m m, .int .i64 (m : Int), .int .i64 (N : Int), u0, u0, u0, u0, u0, u0, u0, u0, u0, u0, u0, u0, u0, u0, u0, u0, u0, u0, u0, u0, u0, u0, u0, u0, u0, u0, u0], defers := [] } w1.drew
  refine wpAnyH_take (i := 18) (oi := { dst := some 23, op := Op.fieldAddr 119 (.tmp 1) 6, type := 0, pos := "parts.go:49", after := #[], guard := none }) (v := .pointer (some ⟨q, 6, none⟩)) rfl (by kernel_rfl) (by kernel_rfl) (by kernel_rfl) (fun _ _ _ h => (hQp _ _ _ h).elim) (Or.inl ⟨by kernel_rfl, ?_⟩) (HS.out _ hb) ?_
  · intro w' hSw
    obtain ⟨s1, s2, s3, s4, s5, s6, s7⟩ := HS1.out _ hSw
    go_simp <;> first | with_reducible rfl | assumption
  show wpAnyH Tryz.prog .any rops Q S 10 #[true, true, true, true, true, true, false, true, true, false, true, true, false, true, true, true, true, false, true, false, false, false, false, false, false] { tmps := #[a0, .pointer (some ⟨q, 0, none⟩), .pointer (some ⟨q + 1, 0, none⟩), u0, u0, .pointer (some ⟨q, 1, none⟩), .slice (some ⟨g, o + 2, none⟩) 1 1, .pointer (some ⟨g, o + 2, none⟩), .int .u8 (kn : Int), .pointer (some ⟨q, 2, none⟩), .slice (some ⟨g, o + 3, none⟩) 1 1, u0, .pointer (some ⟨q, 3, none⟩), .slice (some ⟨g, o + 4, none⟩) 4 4, u0, .pointer (some ⟨q, 4, none⟩), .slice (some ⟨g, o + 8, none⟩) 4 4, u0, .pointer (some ⟨q, 5, none⟩), .slice (some ⟨g, o + 12, none⟩) m m, .int .i64 (m : Int), .int .i64 (N : Int), u0, .pointer (some ⟨q, 6, none⟩), u0, u0, u0, u0, u0, u0, u0, u0, u0, u0, u0, u0, u0, u0, u0, u0, u0, u0, u0, u0, u0, u0, u0, u0, u0], defers := [] } w1.drew
  refine wpAnyH_take (i := 19) (oi := { dst := some 24, op := Op.load 74 (.tmp 23), type := 74, pos := "parts.go:49", after := #[{ on := 18, ground := .data }], guard := none }) (v := .slice (some ⟨g, o + 12 + m, none⟩) d d) rfl (by kernel_rfl) (by kernel_rfl) (by kernel_rfl) (fun _ _ _ h => (hQp _ _ _ h).elim) (Or.inl ⟨by kernel_rfl, ?_⟩) (HS.out _ hb) ?_
  · intro w' hSw
    obtain ⟨s1, s2, s3, s4, s5, s6, s7⟩ := HS1.out _ hSw
    go_simp <;> first | with_reducible rfl | assumption
  show wpAnyH Tryz.prog .any rops Q S 9 #[true, true, true, true, true, true, false, true, true, false, true, true, false, true, true, true, true, false, true, true, false, false, false, false, false] { tmps := #[a0, .pointer (some ⟨q, 0, none⟩), .pointer (some ⟨q + 1, 0, none⟩), u0, u0, .pointer (some ⟨q, 1, none⟩), .slice (some ⟨g, o + 2, none⟩) 1 1, .pointer (some ⟨g, o + 2, none⟩), .int .u8 (kn : Int), .pointer (some ⟨q, 2, none⟩), .slice (some ⟨g, o + 3, none⟩) 1 1, u0, .pointer (some ⟨q, 3, none⟩), .slice (some ⟨g, o + 4, none⟩) 4 4, u0, .pointer (some ⟨q, 4, none⟩), .slice (some ⟨g, o + 8, none⟩) 4 4, u0, .pointer (some ⟨q, 5, none⟩), .slice (some ⟨g, o + 12, none⟩) m m, .int .i64 (m : Int), .int .i64 (N : Int), u0, .pointer (some ⟨q, 6, none⟩), .slice (some ⟨g, o + 12 + m, none⟩) d d, u0, u0, u0, u0, u0, u0, u0, u0, u0, u0, u0, u0, u0, u0, u0, u0, u0, u0, u0, u0, u0, u0, u0, u0], defers := [] } w1.drew
  refine wpAnyH_take (i := 20) (oi := { dst := some 25, op := Op.call { callee := Callee.builtin Builtin.len, args := #[.tmp 24], argTypes := #[74] }, type := 3, pos := "parts.go:49", after := #[{ on := 19, ground := .data }], guard := none }) (v := .int .i64 (d : Int)) rfl (by kernel_rfl) (by kernel_rfl) (by kernel_rfl) (fun _ _ _ h => (hQp _ _ _ h).elim) (Or.inl ⟨by kernel_rfl, ?_⟩) (HS.out _ hb) ?_
  · intro w' hSw
    obtain ⟨s1, s2, s3, s4, s5, s6, s7⟩ := HS1.out _ hSw
    go_simp <;> first | with_reducible rfl | assumption
  show wpAnyH Tryz.prog .any rops Q S 8 #[true, true, true, true, true, true, false, true, true, false, true, true, false, true, true, true, true, false, true, true, true, false, false, false, false] { tmps := #[a0, .pointer (some ⟨q, 0, none⟩), .pointer (some ⟨q + 1, 0, none⟩), u0, u0, .pointer (some ⟨q, 1, none⟩), .slice (some ⟨g, o + 2, none⟩) 1 1, .pointer (some ⟨g, o + 2, none⟩), .int .u8 (kn : Int), .pointer (some ⟨q, 2, none⟩), .slice (some ⟨g, o + 3, none⟩) 1 1, u0, .pointer (some ⟨q, 3, none⟩), .slice (some ⟨g, o + 4, none⟩) 4 4, u0, .pointer (some ⟨q, 4, none⟩), .slice (some ⟨g, o + 8, none⟩) 4 4, u0, .pointer (some ⟨q, 5, none⟩), .slice (some ⟨g, o + 12, none⟩) m m, .int .i64 (m : Int), .int .i64 (N : Int), u0, .pointer (some ⟨q, 6, none⟩), .slice (some ⟨g, o + 12 + m, none⟩) d d, .int .i64 (d : Int), u0, u0, u0, u0, u0, u0, u0, u0, u0, u0, u0, u0, u0, u0, u0, u0, u0, u0, u0, u0, u0, u0, u0], defers := [] } w1.drew
  exact H0000.out _ hb
end Go.Proofs.YtngcdlodcdgcaaaGreat
