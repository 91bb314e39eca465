import Derived.Test.YtemlojjkokooeaaGreatTk
import Derived.Test.YtemlojjkokooeaaGreatTj43
import Derived.Test.YtemlojjkokooeaaGreatTj48
set_option maxHeartbeats 8000000
set_option maxRecDepth 100000
namespace Go.Proofs.YtemlojjkokooeaaGreat
open Go.RowKit Go.ChangeShapes
theorem infoPr : (Tryz.prog.info? 97).map (fun i => (i.zero, i.size, i.bytes)) = some (some (.agg #[.slice none 0 0, .slice none 0 0]), 2, 48) := by kernel_rfl
theorem mkcells2 (w : World) (x y : Value) (t : TypeId) : ∀ j u, [x, y][j]? = some u -> (w.alloc (.cells #[x, y] t)).cell? ((⟨w.heap.size, 0, none⟩ : Addr).add j) = some u := by
 intro j u hj
 match j, hj with
 | 0, hj =>
  simp at hj
  subst hj
  simp [Addr.add]
 | 1, hj =>
  simp at hj
  subst hj
  simp [Addr.add]
theorem conv_newz (v : World) (n : Nat) (F : Nat -> UInt8) : ∃ v' cc, (convert 9 36 (.string (sOf (lsF n F)))).run Tryz.prog v = .ok (.slice (some ⟨v.heap.size, 0, none⟩) n cc) v' /\ Bec v' (some ⟨v.heap.size, 0, none⟩) n cc F /\ Below v.heap.size v v' /\ v.heap.size < v'.heap.size := by
 have hrun := run_bytes_of_string (P := Tryz.prog) v 9 36 5 (sOf (lsF n F)) Tryz.underlying9 Tryz.underlying36 Tryz.underlying5
 have hsz : (sOf (lsF n F)).size = n := by simp [sOf, ByteArray.size, lsF_length]
 rw [hsz] at hrun
 refine ⟨_, _, hrun, ⟨fun _ => ⟨_, 0, rfl, fun j hj => ?_⟩, (fun e => by cases e), grownCap_ge _ _ _ _⟩, bth (bdw _ _) (bal v.drew _), by simp⟩
 rw [cell_of_row _ v.heap.size (0 + j) _ 5 _ (heap_alloc_new v.drew _), Nat.zero_add]
 have hj2 : j < (sOf (lsF n F)).data.size := by simp [sOf, lsF_length]; exact hj
 rw [bytesRow_at _ _ _ hj2]
 have : (sOf (lsF n F)).data[j] = F j := by simp [sOf, lsF]
 rw [this]
theorem step_conv {ops : Array Oper} {o : Oper} {a : Act} {w : World} {K : Act -> World -> Prop} {Q : Exit -> Act -> World -> Prop} {E : Prop} (hgd : o.guard = none) (s : Operand) (ho : o.op = .convert 9 36 s) (n : Nat) (F : Nat -> UInt8) (hs : a.eval s = .string (sOf (lsF n F)))
  (h : ∀ cc w', Bec w' (some ⟨w.heap.size, 0, none⟩) n cc F -> Below w.heap.size w w' -> w.heap.size < w'.heap.size -> K (a.put o.dst (.slice (some ⟨w.heap.size, 0, none⟩) n cc)) w') : if Region.wanted o (yielded ops a.tmps) = true then Oper.wp Tryz.prog o a w K Q else E := by
 have hw : Region.wanted o (yielded ops a.tmps) = true := by simp [Region.wanted, hgd]
 rw [if_pos hw]
 obtain ⟨v', cc, hr, h1, h2, h3⟩ := conv_newz w n F
 unfold Oper.wp execOp
 simp only [ho, Sem.run_bind, Sem.run_pure, Result.andThen_ok, hs, hr]
 exact h cc v' h1 h2 h3
theorem bec_stay {w w' : World} {ao : Option Addr} {n cap : Nat} {F : Nat -> UInt8} (h : Bec w ao n cap F) (hb : ∀ a, ao = some a -> w'.heap[a.block]? = w.heap[a.block]?) : Bec w' ao n cap F :=
 ⟨fun hn => by obtain ⟨b, off, rfl, hc⟩ := h.rd hn; exact ⟨b, off, rfl, fun j hj => (World.cell?_of_block (show w'.heap[(⟨b, off + j, none⟩ : Addr).block]? = w.heap[(⟨b, off + j, none⟩ : Addr).block]? from hb ⟨b, off, none⟩ rfl)).trans (hc j hj)⟩, h.nil, h.room⟩
def updT {α : Type} (j : Nat) (x : α) (f : Nat -> α) : Nat -> α := fun i => if i = j then x else f i
theorem updT_at {α : Type} (j : Nat) (x : α) (f : Nat -> α) : updT j x f j = x := if_pos rfl
theorem updT_ne {α : Type} {i j : Nat} (x : α) (f : Nat -> α) (h : i ≠ j) : updT j x f i = f i := if_neg h
def svp (A : Nat -> Option Addr) (L C : Nat -> Nat) : Nat -> List Value
  | 0 => []
  | n + 1 => svp A L C n ++ [.slice (A (2 * n)) (L (2 * n)) (C (2 * n)), .slice (A (2 * n + 1)) (L (2 * n + 1)) (C (2 * n + 1))]
theorem svp_length (A : Nat -> Option Addr) (L C : Nat -> Nat) : ∀ n, (svp A L C n).length = n * 2
 | 0 => rfl
 | n + 1 => by rw [svp, List.length_append, svp_length A L C n]; simp; omega
theorem svp_get (A : Nat -> Option Addr) (L C : Nat -> Nat) : ∀ n i, i < n -> (svp A L C n)[i * 2]? = some (.slice (A (2 * i)) (L (2 * i)) (C (2 * i))) /\ (svp A L C n)[i * 2 + 1]? = some (.slice (A (2 * i + 1)) (L (2 * i + 1)) (C (2 * i + 1)))
 | 0, i, h => absurd h (Nat.not_lt_zero i)
 | n + 1, i, h => by
  rw [svp]
  by_cases e : i = n
  ·subst e
   rw [List.getElem?_append_right (by rw [svp_length]; omega), svp_length, Nat.sub_self, List.getElem?_append_right (by rw [svp_length]; omega), svp_length, Nat.add_sub_cancel_left]
   exact ⟨rfl, rfl⟩
  ·rw [List.getElem?_append_left (by rw [svp_length]; omega), List.getElem?_append_left (by rw [svp_length]; omega)]; exact svp_get A L C n i (by omega)
theorem svp_congr {A A' : Nat -> Option Addr} {L C C' : Nat -> Nat} : ∀ n, (∀ i, i < 2 * n -> A i = A' i /\ C i = C' i) -> svp A L C n = svp A' L C' n
 | 0, _ => rfl
 | n + 1, h => by rw [svp, svp, svp_congr n (fun i hi => h i (by omega)), (h (2 * n) (by omega)).1, (h (2 * n) (by omega)).2, (h (2 * n + 1) (by omega)).1, (h (2 * n + 1) (by omega)).2]
structure Tw (w wr : World) (ao : Option Addr) (i cap : Nat) (A : Nat -> Option Addr) (L C : Nat -> Nat) (F : Nat -> Nat -> UInt8) : Prop where
  row : wr.ownsRow w.heap.size 97 2 (.slice ao i cap) i (svp A L C i)
  bec : ∀ j, j < 2 * i -> Bec wr (A j) (L j) (C j) (F j) /\ ∀ a, A j = some a -> w.heap.size <= a.block /\ a.block < wr.heap.size /\ ∀ d, ao = some d -> a.block ≠ d.block
  bel : Below w.heap.size w wr
theorem Tw.step {w wr wb wn : World} {ao : Option Addr} {i cap g0 g1 d0 d1 g2 cap2 : Nat} {A : Nat -> Option Addr} {L C : Nat -> Nat} {F : Nat -> Nat -> UInt8} {XS : List Value} (h : Tw w wr ao i cap A L C F)
  (hX : XS = svp A L C i) (hbb : Below wr.heap.size wr wb) (h0 : Bec wb (some ⟨g0, 0, none⟩) (L (2 * i)) d0 (F (2 * i))) (h1 : Bec wb (some ⟨g1, 0, none⟩) (L (2 * i + 1)) d1 (F (2 * i + 1)))
  (k0 : wr.heap.size <= g0 /\ g0 < wb.heap.size) (k1 : wr.heap.size <= g1 /\ g1 < wb.heap.size)
  (ho : wn.ownsRow w.heap.size 97 2 (.slice (some ⟨g2, 0, none⟩) (i + 1) cap2) (i + 1) (XS ++ [.slice (some ⟨g0, 0, none⟩) (L (2 * i)) d0, .slice (some ⟨g1, 0, none⟩) (L (2 * i + 1)) d1]))
  (hg : ∀ x, x < wb.heap.size -> (∀ a, ao = some a -> x ≠ a.block) -> wn.heap[x]? = wb.heap[x]?) (hw : (∃ a, ao = some a /\ a.block = g2) \/ g2 = wb.heap.size + 1) (hz : wb.heap.size + 1 <= wn.heap.size) (hf : wn.os = wb.os /\ wn.tape = wb.tape /\ wn.output = wb.output) :
  Tw w wn (some ⟨g2, 0, none⟩) (i + 1) cap2 (updT (2 * i) (some ⟨g0, 0, none⟩) (updT (2 * i + 1) (some ⟨g1, 0, none⟩) A)) L (updT (2 * i) d0 (updT (2 * i + 1) d1 C)) F := by
 have hs := hbb.size
 have hao : ∀ a, ao = some a -> w.heap.size <= a.block /\ a.block < wr.heap.size := fun a ha => h.row.lt a.block (by subst ha; rfl)
 have hz0 := h.bel.size
 have e1 : ∀ {α : Type} (x y : α) (f : Nat -> α), updT (2 * i) x (updT (2 * i + 1) y f) (2 * i + 1) = y := fun x y f => by rw [updT_ne _ _ (by omega), updT_at]
 have e2 : ∀ {α : Type} (x y : α) (f : Nat -> α) (j : Nat), j < 2 * i -> updT (2 * i) x (updT (2 * i + 1) y f) j = f j := fun x y f j hj => by rw [updT_ne _ _ (by omega), updT_ne _ _ (by omega)]
 have hnew : ∀ g, wr.heap.size <= g /\ g < wb.heap.size -> wn.heap[g]? = wb.heap[g]? := fun g k => hg g k.2 (fun a ha e => by have := (hao a ha).2; omega)
 have hapt : ∀ g, wr.heap.size <= g /\ g < wb.heap.size -> ∀ d : Addr, some (⟨g2, 0, none⟩ : Addr) = some d -> g ≠ d.block := fun g k d hd e => by
  cases hd
  simp only at e
  rcases hw with ⟨x, ex, e3⟩ | e3
  ·have := (hao x ex).2; omega
  ·omega
 refine ⟨?_, fun j hj => ?_, ?_⟩
 ·rw [show svp (updT (2 * i) (some ⟨g0, 0, none⟩) (updT (2 * i + 1) (some ⟨g1, 0, none⟩) A)) L (updT (2 * i) d0 (updT (2 * i + 1) d1 C)) (i + 1) = XS ++ [.slice (some ⟨g0, 0, none⟩) (L (2 * i)) d0, .slice (some ⟨g1, 0, none⟩) (L (2 * i + 1)) d1] by
   rw [svp, updT_at, updT_at, e1, e1, hX, svp_congr i fun j hj => ⟨e2 _ _ _ j hj, e2 _ _ _ j hj⟩]]
  exact ho
 ·by_cases c0 : j = 2 * i
  ·subst c0
   rw [updT_at, updT_at]
   exact ⟨bec_stay h0 (fun a ha => by cases ha; exact hnew _ k0), fun a ha => by cases ha; exact ⟨by show w.heap.size <= g0; omega, by show g0 < _; omega, hapt _ k0⟩⟩
  ·by_cases c1 : j = 2 * i + 1
   ·subst c1
    rw [e1, e1]
    exact ⟨bec_stay h1 (fun a ha => by cases ha; exact hnew _ k1), fun a ha => by cases ha; exact ⟨by show w.heap.size <= g1; omega, by show g1 < _; omega, hapt _ k1⟩⟩
   ·rw [e2 _ _ _ j (by omega), e2 _ _ _ j (by omega)]
    obtain ⟨q1, q2⟩ := h.bec j (by omega)
    refine ⟨bec_stay q1 (fun a ha => ?_), fun a ha => ?_⟩
    ·obtain ⟨q3, q4, q5⟩ := q2 a ha
     rw [hg _ (by omega) q5, hbb.block _ q4]
    ·obtain ⟨q3, q4, q5⟩ := q2 a ha
     refine ⟨q3, by omega, fun d hd e => ?_⟩
     cases hd
     simp only at e
     rcases hw with ⟨x, ex, e3⟩ | e3
     ·exact q5 x ex (by omega)
     ·omega
 ·refine ⟨hf.1.trans (hbb.os.trans h.bel.os), hf.2.1.trans (hbb.tape.trans h.bel.tape), hf.2.2.trans (hbb.output.trans h.bel.output), by omega, fun x hx => ?_⟩
  rw [hg x (by omega) (fun a ha e => by have := (hao a ha).1; omega), hbb.block x (by omega), h.bel.block x hx]
theorem Tw.rw {w wr : World} {ao : Option Addr} {i cap : Nat} {A : Nat -> Option Addr} {L C : Nat -> Nat} {F : Nat -> Nat -> UInt8} (h : Tw w wr ao i cap A L C F) : Rw wr ao i A L C F := by
 refine ⟨fun hp => ?_, fun j hj => (h.bec j hj).1⟩
 rcases h.row.2 with ⟨_, h2⟩ | ⟨g, cp, cur, h2, h3, h4, _⟩
 ·omega
 ·simp only [Value.slice.injEq] at h2
  obtain ⟨rfl, _, rfl⟩ := h2
  refine ⟨g, 0, rfl, fun j hj => ?_⟩
  rw [Nat.zero_add, World.ownsRow.cellAt h.row (j * 2) (by omega), World.ownsRow.cellAt h.row (j * 2 + 1) (by omega)]
  exact svp_get A L C i j hj
def tops : Array Oper := #[{ dst := some 11, op := .move (.tmp 3), type := 24, pos := "ref.go:289", after := #[], guard := none }, { dst := some 12, op := .move (.tmp 0), type := 24, pos := "ref.go:289", after := #[], guard := none }, { dst := some 13, op := .move (.tmp 4), type := 3, pos := "ref.go:289", after := #[], guard := none }, { dst := some 14, op := .indexAddr 24 (.tmp 12) (.tmp 13), type := 0, pos := "ref.go:289", after := #[{ on := 1, ground := .data }, { on := 2, ground := .data }], guard := none }, { dst := some 15, op := .indexAddr 97 (.tmp 14) (.const (.int .i64 0)), type := 0, pos := "ref.go:289", after := #[{ on := 3, ground := .data }], guard := none }, { dst := some 16, op := .load 36 (.tmp 15), type := 36, pos := "ref.go:289", after := #[{ on := 4, ground := .data }], guard := none }, { dst := some 17, op := .convert 36 9 (.tmp 16), type := 9, pos := "ref.go:289", after := #[{ on := 5, ground := .data }], guard := none }, { dst := some 18, op := .convert 9 36 (.tmp 17), type := 36, pos := "ref.go:289", after := #[{ on := 6, ground := .data }], guard := none }, { dst := some 19, op := .move (.tmp 0), type := 24, pos := "ref.go:289", after := #[], guard := none }, { dst := some 20, op := .move (.tmp 4), type := 3, pos := "ref.go:289", after := #[], guard := none }, { dst := some 21, op := .indexAddr 24 (.tmp 19) (.tmp 20), type := 0, pos := "ref.go:289", after := #[{ on := 8, ground := .data }, { on := 9, ground := .data }], guard := none }, { dst := some 22, op := .indexAddr 97 (.tmp 21) (.const (.int .i64 1)), type := 0, pos := "ref.go:289", after := #[{ on := 10, ground := .data }], guard := none }, { dst := some 23, op := .load 36 (.tmp 22), type := 36, pos := "ref.go:289", after := #[{ on := 11, ground := .data }], guard := none }, { dst := some 24, op := .convert 36 9 (.tmp 23), type := 9, pos := "ref.go:289", after := #[{ on := 12, ground := .data }], guard := none }, { dst := some 25, op := .convert 9 36 (.tmp 24), type := 36, pos := "ref.go:289", after := #[{ on := 13, ground := .data }], guard := none }, { dst := some 26, op := .build 97 #[(0, .tmp 18), (1, .tmp 25)], type := 97, pos := "ref.go:289", after := #[{ on := 7, ground := .data }, { on := 14, ground := .data }], guard := none }, { dst := some 27, op := .buildSlice 24 1 #[(0, .tmp 26)], type := 24, pos := "ref.go:289", after := #[{ on := 15, ground := .data }], guard := none }, { dst := some 28, op := .call { callee := Callee.builtin Builtin.append, args := #[.tmp 11, .tmp 27], argTypes := #[24, 24] }, type := 24, pos := "ref.go:289", after := #[{ on := 0, ground := .data }, { on := 16, ground := .data }], guard := none }, { dst := some 3, op := .assign (.tmp 28), type := 24, pos := "ref.go:289", after := #[{ on := 17, ground := .data }, { on := 17, ground := .chain }, { on := 0, ground := .phase }, { on := 1, ground := .phase }, { on := 2, ground := .phase }, { on := 3, ground := .phase }, { on := 4, ground := .phase }, { on := 5, ground := .phase }, { on := 6, ground := .phase }, { on := 7, ground := .phase }, { on := 8, ground := .phase }, { on := 9, ground := .phase }, { on := 10, ground := .phase }, { on := 11, ground := .phase }, { on := 12, ground := .phase }, { on := 13, ground := .phase }, { on := 14, ground := .phase }, { on := 15, ground := .phase }, { on := 16, ground := .phase }, { on := 17, ground := .phase }], guard := none }]
abbrev twinregFr (b : Nat) (off : Nat) (n : Nat) (rc : Nat) (x1 : Value) (x2 : Value) (i : Nat) (x5 : Value) (x6 : Value) (x7 : Value) (x8 : Value) (x9 : Value) (x10 : Value) (ao : Option Addr) (cap : Nat) (x29 : Value) (e1 e2 e3 e4 e5 e6 e7 e8 e9 e10 e11 e12 e13 e14 e15 : Value) : Act := { tmps := #[.slice (some ⟨b, off, none⟩) n rc, x1, x2, e1, .int .i64 (i : Int), x5, x6, x7, x8, x9, x10, .slice ao i cap, .slice (some ⟨b, off, none⟩) n rc, .int .i64 (i : Int), .pointer (some ⟨b, off + i * 2, none⟩), e2, e3, e4, e5, e6, e7, e8, e9, e10, e11, e12, e13, e14, e15, x29], defers := [] }
theorem twin_reg {x1 x2 x5 x6 x7 x8 x9 x10 x11 x12 x13 x14 x15 x16 x17 x18 x19 x20 x21 x22 x23 x24 x25 x26 x27 x28 x29 : Value} (w wr : World) (b off n rc i : Nat) (ao : Option Addr) (cap : Nat) (a0 : Option Addr) (n0 c0 : Nat) (F0 : Nat -> UInt8) (a1 : Option Addr) (n1 c1 : Nat) (F1 : Nat -> UInt8) (XS : List Value) (Tt : World -> Nat -> Nat -> Nat -> Nat -> Nat -> Nat -> Prop)
  (hS : ∀ v, Below w.heap.size w v -> (v.cell? ⟨b, off + i * 2, none⟩ = some (.slice a0 n0 c0) /\ v.cell? ⟨b, off + i * 2 + 1, none⟩ = some (.slice a1 n1 c1) /\ (convert 36 9 (.slice a0 n0 c0)).run Tryz.prog v = .ok (.string (sOf (lsF n0 F0))) v /\ (convert 36 9 (.slice a1 n1 c1)).run Tryz.prog v = .ok (.string (sOf (lsF n1 F1))) v)) (hbw : Below w.heap.size w wr) (hstep : ∀ wb wn g0 g1 d0 d1 g2 cap2, Below wr.heap.size wr wb -> Bec wb (some ⟨g0, 0, none⟩) n0 d0 F0 -> Bec wb (some ⟨g1, 0, none⟩) n1 d1 F1 -> (wr.heap.size <= g0 /\ g0 < wb.heap.size) -> (wr.heap.size <= g1 /\ g1 < wb.heap.size) -> wn.ownsRow w.heap.size 97 2 (.slice (some ⟨g2, 0, none⟩) (i + 1) cap2) (i + 1) (XS ++ [.slice (some ⟨g0, 0, none⟩) n0 d0, .slice (some ⟨g1, 0, none⟩) n1 d1]) -> (∀ x, x < wb.heap.size -> (∀ a, ao = some a -> x ≠ a.block) -> wn.heap[x]? = wb.heap[x]?) -> ((∃ a, ao = some a /\ a.block = g2) \/ g2 = wb.heap.size + 1) -> wb.heap.size + 1 <= wn.heap.size -> (wn.os = wb.os /\ wn.tape = wb.tape /\ wn.output = wb.output) -> Tt wn g0 g1 d0 d1 g2 cap2 /\ Below w.heap.size w wn) (hob : ∀ v o, Below wr.heap.size wr v -> (v.alloc o).ownsRow w.heap.size 97 2 (.slice ao i cap) i XS) (hi : (0 : Int) <= (i : Int)) (hi2 : (i : Int) < (n : Int)) (hn : n * 48 <= 140737488351232)
  (Q : Exit -> Act -> World -> Prop) (hQp : ∀ ch a v, Q (.panic ch) a v -> False) (hQ : ∀ (wb wn : World) (g0 g1 d0 d1 g2 cap2 : Nat), Tt wn g0 g1 d0 d1 g2 cap2 -> Q .normal { tmps := #[.slice (some ⟨b, off, none⟩) n rc, x1, x2, .slice (some ⟨g2, 0, none⟩) (i + 1) cap2, .int .i64 (i : Int), x5, x6, x7, x8, x9, x10, .slice ao i cap, .slice (some ⟨b, off, none⟩) n rc, .int .i64 (i : Int), .pointer (some ⟨b, off + i * 2, none⟩), .pointer (some ⟨b, off + i * 2, none⟩), .slice a0 n0 c0, .string (sOf (lsF n0 F0)), .slice (some ⟨g0, 0, none⟩) n0 d0, .slice (some ⟨b, off, none⟩) n rc, .int .i64 (i : Int), .pointer (some ⟨b, off + i * 2, none⟩), .pointer (some ⟨b, off + i * 2 + 1, none⟩), .slice a1 n1 c1, .string (sOf (lsF n1 F1)), .slice (some ⟨g1, 0, none⟩) n1 d1, .agg #[.slice (some ⟨g0, 0, none⟩) n0 d0, .slice (some ⟨g1, 0, none⟩) n1 d1], .slice (some ⟨wb.heap.size, 0, none⟩) 1 1, .slice (some ⟨g2, 0, none⟩) (i + 1) cap2, x29], defers := [] } wn) :
  Code.wp Tryz.prog (Code.region 5 tops true) Q { tmps := #[.slice (some ⟨b, off, none⟩) n rc, x1, x2, .slice ao i cap, .int .i64 (i : Int), x5, x6, x7, x8, x9, x10, x11, x12, x13, x14, x15, x16, x17, x18, x19, x20, x21, x22, x23, x24, x25, x26, x27, x28, x29], defers := [] } wr := by
 obtain ⟨i0, hin, hz0, hz1, hz2⟩ := info_parts infoPr
 have HQ : Hid _ := hQ
 have HST : Hid (∀ wb wn g0 g1 d0 d1 g2 cap2, Below wr.heap.size wr wb -> Bec wb (some ⟨g0, 0, none⟩) n0 d0 F0 -> Bec wb (some ⟨g1, 0, none⟩) n1 d1 F1 -> (wr.heap.size <= g0 /\ g0 < wb.heap.size) -> (wr.heap.size <= g1 /\ g1 < wb.heap.size) -> wn.ownsRow w.heap.size 97 2 (.slice (some ⟨g2, 0, none⟩) (i + 1) cap2) (i + 1) (XS ++ [.slice (some ⟨g0, 0, none⟩) n0 d0, .slice (some ⟨g1, 0, none⟩) n1 d1]) -> (∀ x, x < wb.heap.size -> (∀ a, ao = some a -> x ≠ a.block) -> wn.heap[x]? = wb.heap[x]?) -> ((∃ a, ao = some a /\ a.block = g2) \/ g2 = wb.heap.size + 1) -> wb.heap.size + 1 <= wn.heap.size -> (wn.os = wb.os /\ wn.tape = wb.tape /\ wn.output = wb.output) -> Tt wn g0 g1 d0 d1 g2 cap2 /\ Below w.heap.size w wn) := hstep
 have HOB : Hid (∀ v o, Below wr.heap.size wr v -> (v.alloc o).ownsRow w.heap.size 97 2 (.slice ao i cap) i XS) := hob
 have HBW : Hid (Below w.heap.size w wr) := hbw
 obtain ⟨S, HS1, HSW⟩ : ∃ S : World -> Prop, Hid (∀ v, S v -> (v.cell? ⟨b, off + i * 2, none⟩ = some (.slice a0 n0 c0) /\ v.cell? ⟨b, off + i * 2 + 1, none⟩ = some (.slice a1 n1 c1) /\ (convert 36 9 (.slice a0 n0 c0)).run Tryz.prog v = .ok (.string (sOf (lsF n0 F0))) v /\ (convert 36 9 (.slice a1 n1 c1)).run Tryz.prog v = .ok (.string (sOf (lsF n1 F1))) v)) /\ Hid (∀ v, Below w.heap.size w v -> S v) := ⟨fun v => v.cell? ⟨b, off + i * 2, none⟩ = some (.slice a0 n0 c0) /\ v.cell? ⟨b, off + i * 2 + 1, none⟩ = some (.slice a1 n1 c1) /\ (convert 36 9 (.slice a0 n0 c0)).run Tryz.prog v = .ok (.string (sOf (lsF n0 F0))) v /\ (convert 36 9 (.slice a1 n1 c1)).run Tryz.prog v = .ok (.string (sOf (lsF n1 F1))) v, fun v h => h, hS⟩
 have HS : Hid (∀ v, Below wr.heap.size wr v -> S v) := fun v hv => HSW.out v (bth HBW.out hv)
 clear hS hQ hstep hob hbw
 have HTL : Hid (∀ wb g0 g1 d0 d1, Below wr.heap.size wr wb -> Bec wb (some ⟨g0, 0, none⟩) n0 d0 F0 -> Bec wb (some ⟨g1, 0, none⟩) n1 d1 F1 -> (wr.heap.size <= g0 /\ g0 < wb.heap.size) -> (wr.heap.size <= g1 /\ g1 < wb.heap.size) -> wpAnyH Tryz.prog .any tops Q S 4 #[true, true, true, true, true, true, true, true, true, true, true, true, true, true, true, false, false, false, false] { tmps := #[.slice (some ⟨b, off, none⟩) n rc, x1, x2, .slice ao i cap, .int .i64 (i : Int), x5, x6, x7, x8, x9, x10, .slice ao i cap, .slice (some ⟨b, off, none⟩) n rc, .int .i64 (i : Int), .pointer (some ⟨b, off + i * 2, none⟩), .pointer (some ⟨b, off + i * 2, none⟩), .slice a0 n0 c0, .string (sOf (lsF n0 F0)), .slice (some ⟨g0, 0, none⟩) n0 d0, .slice (some ⟨b, off, none⟩) n rc, .int .i64 (i : Int), .pointer (some ⟨b, off + i * 2, none⟩), .pointer (some ⟨b, off + i * 2 + 1, none⟩), .slice a1 n1 c1, .string (sOf (lsF n1 F1)), .slice (some ⟨g1, 0, none⟩) n1 d1, x26, x27, x28, x29], defers := [] } wb) := by
  intro wb g0 g1 d0 d1 hb h0 h1 k0 k1
  have HB : Hid (Below wr.heap.size wr wb) := hb
  have HK : Hid (Bec wb (some ⟨g0, 0, none⟩) n0 d0 F0 /\ Bec wb (some ⟨g1, 0, none⟩) n1 d1 F1 /\ (wr.heap.size <= g0 /\ g0 < wb.heap.size) /\ (wr.heap.size <= g1 /\ g1 < wb.heap.size)) := ⟨h0, h1, k0, k1⟩
  clear h0 h1 k0 k1
  refine tkq hQp HS1 15 { dst := some 26, op := .build 97 #[(0, .tmp 18), (1, .tmp 25)], type := 97, pos := "ref.go:289", after := #[{ on := 7, ground := .data }, { on := 14, ground := .data }], guard := none } (.agg #[.slice (some ⟨g0, 0, none⟩) n0 d0, .slice (some ⟨g1, 0, none⟩) n1 d1]) (HS.out _ hb) ?_
  show wpAnyH Tryz.prog .any tops Q S 3 #[true, true, true, true, true, true, true, true, true, true, true, true, true, true, true, true, false, false, false] (twinregFr b off n rc x1 x2 i x5 x6 x7 x8 x9 x10 ao cap x29 (.slice ao i cap) (.pointer (some ⟨b, off + i * 2, none⟩)) (.slice a0 n0 c0) (.string (sOf (lsF n0 F0))) (.slice (some ⟨g0, 0, none⟩) n0 d0) (.slice (some ⟨b, off, none⟩) n rc) (.int .i64 (i : Int)) (.pointer (some ⟨b, off + i * 2, none⟩)) (.pointer (some ⟨b, off + i * 2 + 1, none⟩)) (.slice a1 n1 c1) (.string (sOf (lsF n1 F1))) (.slice (some ⟨g1, 0, none⟩) n1 d1) (.agg #[.slice (some ⟨g0, 0, none⟩) n0 d0, .slice (some ⟨g1, 0, none⟩) n1 d1]) x27 x28) wb
  dsimp only [twinregFr]
  refine wpAnyH_ready (rs := [16]) (by kernel_rfl) (by simp) ?_
  refine AllReadyH.cons (o := { dst := some 27, op := .buildSlice 24 1 #[(0, .tmp 26)], type := 24, pos := "ref.go:289", after := #[{ on := 15, ground := .data }], guard := none }) rfl (fun K hK => ?_) AllReadyH.nil
  go_simp
  refine hK.out _ _ (HS.out _ (bth hb (bal wb _))) (fun hHeld => ?_)
  clear hK K hHeld
  show wpAnyH Tryz.prog .any tops Q S 2 #[true, true, true, true, true, true, true, true, true, true, true, true, true, true, true, true, true, false, false] (twinregFr b off n rc x1 x2 i x5 x6 x7 x8 x9 x10 ao cap x29 (.slice ao i cap) (.pointer (some ⟨b, off + i * 2, none⟩)) (.slice a0 n0 c0) (.string (sOf (lsF n0 F0))) (.slice (some ⟨g0, 0, none⟩) n0 d0) (.slice (some ⟨b, off, none⟩) n rc) (.int .i64 (i : Int)) (.pointer (some ⟨b, off + i * 2, none⟩)) (.pointer (some ⟨b, off + i * 2 + 1, none⟩)) (.slice a1 n1 c1) (.string (sOf (lsF n1 F1))) (.slice (some ⟨g1, 0, none⟩) n1 d1) (.agg #[.slice (some ⟨g0, 0, none⟩) n0 d0, .slice (some ⟨g1, 0, none⟩) n1 d1]) (.slice (some ⟨wb.heap.size, 0, none⟩) 1 1) x28) (wb.alloc (.cells #[.slice (some ⟨g0, 0, none⟩) n0 d0, .slice (some ⟨g1, 0, none⟩) n1 d1] 97))
  dsimp only [twinregFr]
  refine wpAnyH_ready (rs := [17]) (by kernel_rfl) (by simp) ?_
  refine AllReadyH.cons (o := { dst := some 28, op := .call { callee := Callee.builtin Builtin.append, args := #[.tmp 11, .tmp 27], argTypes := #[24, 24] }, type := 24, pos := "ref.go:289", after := #[{ on := 0, ground := .data }, { on := 16, ground := .data }], guard := none }) rfl (fun K hK => ?_) AllReadyH.nil
  refine Go.step_append_lies _ (by rfl) (.tmp 11) (.tmp 27) 24 (by rfl) w.heap.size 97 i0 (.agg #[.slice none 0 0, .slice none 0 0]) 2 48 Tryz.underlying24 hin hz0 hz1 hz2 (by rfl) (by decide) (.slice ao i cap) i XS (by simp [Act.eval]) (HOB.out wb _ hb) ⟨wb.heap.size, 0, none⟩ 1 1 [.slice (some ⟨g0, 0, none⟩) n0 d0, .slice (some ⟨g1, 0, none⟩) n1 d1] (by simp [Act.eval]) (by rfl) (mkcells2 wb _ _ 97) (by simp [Value.oneCell']) (by decide) (by unfold maxLen; omega) (by omega) (by have := HBW.out.size; have := HB.out.size; simp; omega) (wb.heap.size + 1) (by simp) ?_
  intro g2 cap2 w2 hown2 hgrow2 hwh2 hlt2
  have HTT : Hid (Tt w2 g0 g1 d0 d1 g2 cap2 /\ Below w.heap.size w w2) := HST.out wb w2 g0 g1 d0 d1 g2 cap2 hb HK.out.1 HK.out.2.1 HK.out.2.2.1 HK.out.2.2.2 hown2
   (fun x hx hne => (hgrow2.block x (by simp; omega) (fun e => by cases ao with | none => cases e | some a => cases e; exact hne _ rfl rfl)).trans (Below.heap_alloc _ _ _ hx))
   (by
    rcases hwh2 with e | e
    ·cases ao with
     | none => cases e
     | some a => exact .inl ⟨a, rfl, Option.some.inj e⟩
    ·exact .inr e)
   (by have := hgrow2.size; simp at this; omega) ⟨hgrow2.os, hgrow2.tape, hgrow2.output⟩
  clear hown2 hgrow2 hwh2
  refine hK.out _ _ (HSW.out _ HTT.out.2) (fun hHeld => ?_)
  clear hK K hHeld
  show wpAnyH Tryz.prog .any tops Q S 1 #[true, true, true, true, true, true, true, true, true, true, true, true, true, true, true, true, true, true, false] (twinregFr b off n rc x1 x2 i x5 x6 x7 x8 x9 x10 ao cap x29 (.slice ao i cap) (.pointer (some ⟨b, off + i * 2, none⟩)) (.slice a0 n0 c0) (.string (sOf (lsF n0 F0))) (.slice (some ⟨g0, 0, none⟩) n0 d0) (.slice (some ⟨b, off, none⟩) n rc) (.int .i64 (i : Int)) (.pointer (some ⟨b, off + i * 2, none⟩)) (.pointer (some ⟨b, off + i * 2 + 1, none⟩)) (.slice a1 n1 c1) (.string (sOf (lsF n1 F1))) (.slice (some ⟨g1, 0, none⟩) n1 d1) (.agg #[.slice (some ⟨g0, 0, none⟩) n0 d0, .slice (some ⟨g1, 0, none⟩) n1 d1]) (.slice (some ⟨wb.heap.size, 0, none⟩) 1 1) (.slice (some ⟨g2, 0, none⟩) (i + 1) cap2)) w2
  dsimp only [twinregFr]
  refine wpAnyH_take (i := 18) (oi := { dst := some 3, op := .assign (.tmp 28), type := 24, pos := "ref.go:289", after := #[{ on := 17, ground := .data }, { on := 17, ground := .chain }, { on := 0, ground := .phase }, { on := 1, ground := .phase }, { on := 2, ground := .phase }, { on := 3, ground := .phase }, { on := 4, ground := .phase }, { on := 5, ground := .phase }, { on := 6, ground := .phase }, { on := 7, ground := .phase }, { on := 8, ground := .phase }, { on := 9, ground := .phase }, { on := 10, ground := .phase }, { on := 11, ground := .phase }, { on := 12, ground := .phase }, { on := 13, ground := .phase }, { on := 14, ground := .phase }, { on := 15, ground := .phase }, { on := 16, ground := .phase }, { on := 17, ground := .phase }], guard := none }) (v := .slice (some ⟨g2, 0, none⟩) (i + 1) cap2) rfl (by kernel_rfl) (by kernel_rfl) (by kernel_rfl) (fun _ _ _ h => (hQp _ _ _ h).elim) (Or.inl ⟨by kernel_rfl, ?_⟩) (HSW.out _ HTT.out.2) ?_
  ·intro w' hSw
   go_simp <;> first | with_reducible rfl | assumption
  show wpAnyH Tryz.prog .any tops Q S 0 #[true, true, true, true, true, true, true, true, true, true, true, true, true, true, true, true, true, true, true] (twinregFr b off n rc x1 x2 i x5 x6 x7 x8 x9 x10 ao cap x29 (.slice (some ⟨g2, 0, none⟩) (i + 1) cap2) (.pointer (some ⟨b, off + i * 2, none⟩)) (.slice a0 n0 c0) (.string (sOf (lsF n0 F0))) (.slice (some ⟨g0, 0, none⟩) n0 d0) (.slice (some ⟨b, off, none⟩) n rc) (.int .i64 (i : Int)) (.pointer (some ⟨b, off + i * 2, none⟩)) (.pointer (some ⟨b, off + i * 2 + 1, none⟩)) (.slice a1 n1 c1) (.string (sOf (lsF n1 F1))) (.slice (some ⟨g1, 0, none⟩) n1 d1) (.agg #[.slice (some ⟨g0, 0, none⟩) n0 d0, .slice (some ⟨g1, 0, none⟩) n1 d1]) (.slice (some ⟨wb.heap.size, 0, none⟩) 1 1) (.slice (some ⟨g2, 0, none⟩) (i + 1) cap2)) w2
  dsimp only [twinregFr]
  refine wpAnyH_done (by kernel_rfl) ?_ _
  exact HQ.out wb w2 g0 g1 d0 d1 g2 cap2 HTT.out.1
 refine wp_region_held_drew (S := S) (by kernel_rfl) (HS.out _ (bdw _ _)) (fun hHeld => ?_)
 have hb : Below wr.heap.size wr wr.drew := bdw _ _
 rw [show tops.size = 19 from by kernel_rfl, show Array.replicate 19 false = #[false, false, false, false, false, false, false, false, false, false, false, false, false, false, false, false, false, false, false] from by kernel_rfl]
 refine tkq hQp HS1 0 { dst := some 11, op := .move (.tmp 3), type := 24, pos := "ref.go:289", after := #[], guard := none } (.slice ao i cap) (HS.out _ hb) ?_
 refine tkq hQp HS1 1 { dst := some 12, op := .move (.tmp 0), type := 24, pos := "ref.go:289", after := #[], guard := none } (.slice (some ⟨b, off, none⟩) n rc) (HS.out _ hb) ?_
 refine tkq hQp HS1 2 { dst := some 13, op := .move (.tmp 4), type := 3, pos := "ref.go:289", after := #[], guard := none } (.int .i64 (i : Int)) (HS.out _ hb) ?_
 refine tkq hQp HS1 3 { dst := some 14, op := .indexAddr 24 (.tmp 12) (.tmp 13), type := 0, pos := "ref.go:289", after := #[{ on := 1, ground := .data }, { on := 2, ground := .data }], guard := none } (.pointer (some ⟨b, off + i * 2, none⟩)) (HS.out _ hb) ?_
 show wpAnyH Tryz.prog .any tops Q S 15 #[true, true, true, true, false, false, false, false, false, false, false, false, false, false, false, false, false, false, false] (twinregFr b off n rc x1 x2 i x5 x6 x7 x8 x9 x10 ao cap x29 (.slice ao i cap) x15 x16 x17 x18 x19 x20 x21 x22 x23 x24 x25 x26 x27 x28) wr.drew
 dsimp only [twinregFr]
 refine tkq hQp HS1 4 { dst := some 15, op := .indexAddr 97 (.tmp 14) (.const (.int .i64 0)), type := 0, pos := "ref.go:289", after := #[{ on := 3, ground := .data }], guard := none } (.pointer (some ⟨b, off + i * 2, none⟩)) (HS.out _ hb) ?_
 refine tkq hQp HS1 5 { dst := some 16, op := .load 36 (.tmp 15), type := 36, pos := "ref.go:289", after := #[{ on := 4, ground := .data }], guard := none } (.slice a0 n0 c0) (HS.out _ hb) ?_
 refine tkq hQp HS1 6 { dst := some 17, op := .convert 36 9 (.tmp 16), type := 9, pos := "ref.go:289", after := #[{ on := 5, ground := .data }], guard := none } (.string (sOf (lsF n0 F0))) (HS.out _ hb) ?_
 refine tkq hQp HS1 8 { dst := some 19, op := .move (.tmp 0), type := 24, pos := "ref.go:289", after := #[], guard := none } (.slice (some ⟨b, off, none⟩) n rc) (HS.out _ hb) ?_
 show wpAnyH Tryz.prog .any tops Q S 11 #[true, true, true, true, true, true, true, false, true, false, false, false, false, false, false, false, false, false, false] (twinregFr b off n rc x1 x2 i x5 x6 x7 x8 x9 x10 ao cap x29 (.slice ao i cap) (.pointer (some ⟨b, off + i * 2, none⟩)) (.slice a0 n0 c0) (.string (sOf (lsF n0 F0))) x18 (.slice (some ⟨b, off, none⟩) n rc) x20 x21 x22 x23 x24 x25 x26 x27 x28) wr.drew
 dsimp only [twinregFr]
 refine tkq hQp HS1 9 { dst := some 20, op := .move (.tmp 4), type := 3, pos := "ref.go:289", after := #[], guard := none } (.int .i64 (i : Int)) (HS.out _ hb) ?_
 refine tkq hQp HS1 10 { dst := some 21, op := .indexAddr 24 (.tmp 19) (.tmp 20), type := 0, pos := "ref.go:289", after := #[{ on := 8, ground := .data }, { on := 9, ground := .data }], guard := none } (.pointer (some ⟨b, off + i * 2, none⟩)) (HS.out _ hb) ?_
 refine tkq hQp HS1 11 { dst := some 22, op := .indexAddr 97 (.tmp 21) (.const (.int .i64 1)), type := 0, pos := "ref.go:289", after := #[{ on := 10, ground := .data }], guard := none } (.pointer (some ⟨b, off + i * 2 + 1, none⟩)) (HS.out _ hb) ?_
 refine tkq hQp HS1 12 { dst := some 23, op := .load 36 (.tmp 22), type := 36, pos := "ref.go:289", after := #[{ on := 11, ground := .data }], guard := none } (.slice a1 n1 c1) (HS.out _ hb) ?_
 show wpAnyH Tryz.prog .any tops Q S 7 #[true, true, true, true, true, true, true, false, true, true, true, true, true, false, false, false, false, false, false] (twinregFr b off n rc x1 x2 i x5 x6 x7 x8 x9 x10 ao cap x29 (.slice ao i cap) (.pointer (some ⟨b, off + i * 2, none⟩)) (.slice a0 n0 c0) (.string (sOf (lsF n0 F0))) x18 (.slice (some ⟨b, off, none⟩) n rc) (.int .i64 (i : Int)) (.pointer (some ⟨b, off + i * 2, none⟩)) (.pointer (some ⟨b, off + i * 2 + 1, none⟩)) (.slice a1 n1 c1) x24 x25 x26 x27 x28) wr.drew
 dsimp only [twinregFr]
 refine tkq hQp HS1 13 { dst := some 24, op := .convert 36 9 (.tmp 23), type := 9, pos := "ref.go:289", after := #[{ on := 12, ground := .data }], guard := none } (.string (sOf (lsF n1 F1))) (HS.out _ hb) ?_
 show wpAnyH Tryz.prog .any tops Q S 6 #[true, true, true, true, true, true, true, false, true, true, true, true, true, true, false, false, false, false, false] (twinregFr b off n rc x1 x2 i x5 x6 x7 x8 x9 x10 ao cap x29 (.slice ao i cap) (.pointer (some ⟨b, off + i * 2, none⟩)) (.slice a0 n0 c0) (.string (sOf (lsF n0 F0))) x18 (.slice (some ⟨b, off, none⟩) n rc) (.int .i64 (i : Int)) (.pointer (some ⟨b, off + i * 2, none⟩)) (.pointer (some ⟨b, off + i * 2 + 1, none⟩)) (.slice a1 n1 c1) (.string (sOf (lsF n1 F1))) x25 x26 x27 x28) wr.drew
 dsimp only [twinregFr]
 refine wpAnyH_ready (rs := [7, 14]) (by kernel_rfl) (by simp) ?_
 refine AllReadyH.cons (o := { dst := some 18, op := .convert 9 36 (.tmp 17), type := 36, pos := "ref.go:289", after := #[{ on := 6, ground := .data }], guard := none }) rfl (fun K hK => ?_) ?_
 ·refine step_conv (by rfl) (.tmp 17) (by rfl) n0 F0 (by simp [Act.eval]) ?_
  intro d0 wa hx hl hs
  obtain ⟨gA, hgA⟩ : ∃ g, g = wr.drew.heap.size := ⟨_, rfl⟩
  rw [<- hgA] at hx ⊢
  have HX : Hid (Bec wa (some ⟨gA, 0, none⟩) n0 d0 F0 /\ gA = wr.heap.size /\ wr.heap.size < wa.heap.size) := ⟨hx, hgA, hs⟩
  have hba : Below wr.heap.size wr wa := of_drew hl
  clear hx hgA hs hl
  refine hK.out _ _ (HS.out _ hba) (fun hHeld2 => ?_)
  clear hK K hHeld hHeld2
  show wpAnyH Tryz.prog .any tops Q S 5 #[true, true, true, true, true, true, true, true, true, true, true, true, true, true, false, false, false, false, false] (twinregFr b off n rc x1 x2 i x5 x6 x7 x8 x9 x10 ao cap x29 (.slice ao i cap) (.pointer (some ⟨b, off + i * 2, none⟩)) (.slice a0 n0 c0) (.string (sOf (lsF n0 F0))) (.slice (some ⟨gA, 0, none⟩) n0 d0) (.slice (some ⟨b, off, none⟩) n rc) (.int .i64 (i : Int)) (.pointer (some ⟨b, off + i * 2, none⟩)) (.pointer (some ⟨b, off + i * 2 + 1, none⟩)) (.slice a1 n1 c1) (.string (sOf (lsF n1 F1))) x25 x26 x27 x28) wa
  dsimp only [twinregFr]
  refine wpAnyH_ready (rs := [14]) (by kernel_rfl) (by simp) ?_
  refine AllReadyH.cons (o := { dst := some 25, op := .convert 9 36 (.tmp 24), type := 36, pos := "ref.go:289", after := #[{ on := 13, ground := .data }], guard := none }) rfl (fun K hK => ?_) AllReadyH.nil
  refine step_conv (by rfl) (.tmp 24) (by rfl) n1 F1 (by simp [Act.eval]) ?_
  intro d1 wb hx hl hs
  obtain ⟨gB, hgB⟩ : ∃ g, g = wa.heap.size := ⟨_, rfl⟩
  rw [<- hgB] at hx ⊢
  have hbb : Below wr.heap.size wr wb := bth hba hl
  refine hK.out _ _ (HS.out _ hbb) (fun hHeld2 => ?_)
  exact HTL.out wb gA gB d0 d1 hbb (HX.out.1.below hl) hx (by have := hl.size; have := HX.out.2.2; have := HX.out.2.1; omega) (by have := hba.size; omega)
 refine AllReadyH.cons (o := { dst := some 25, op := .convert 9 36 (.tmp 24), type := 36, pos := "ref.go:289", after := #[{ on := 13, ground := .data }], guard := none }) rfl (fun K hK => ?_) AllReadyH.nil
 ·refine step_conv (by rfl) (.tmp 24) (by rfl) n1 F1 (by simp [Act.eval]) ?_
  intro d1 wa hx hl hs
  obtain ⟨gA, hgA⟩ : ∃ g, g = wr.drew.heap.size := ⟨_, rfl⟩
  rw [<- hgA] at hx ⊢
  have HX : Hid (Bec wa (some ⟨gA, 0, none⟩) n1 d1 F1 /\ gA = wr.heap.size /\ wr.heap.size < wa.heap.size) := ⟨hx, hgA, hs⟩
  have hba : Below wr.heap.size wr wa := of_drew hl
  clear hx hgA hs hl
  refine hK.out _ _ (HS.out _ hba) (fun hHeld2 => ?_)
  clear hK K hHeld hHeld2
  show wpAnyH Tryz.prog .any tops Q S 5 #[true, true, true, true, true, true, true, false, true, true, true, true, true, true, true, false, false, false, false] (twinregFr b off n rc x1 x2 i x5 x6 x7 x8 x9 x10 ao cap x29 (.slice ao i cap) (.pointer (some ⟨b, off + i * 2, none⟩)) (.slice a0 n0 c0) (.string (sOf (lsF n0 F0))) x18 (.slice (some ⟨b, off, none⟩) n rc) (.int .i64 (i : Int)) (.pointer (some ⟨b, off + i * 2, none⟩)) (.pointer (some ⟨b, off + i * 2 + 1, none⟩)) (.slice a1 n1 c1) (.string (sOf (lsF n1 F1))) (.slice (some ⟨gA, 0, none⟩) n1 d1) x26 x27 x28) wa
  dsimp only [twinregFr]
  refine wpAnyH_ready (rs := [7]) (by kernel_rfl) (by simp) ?_
  refine AllReadyH.cons (o := { dst := some 18, op := .convert 9 36 (.tmp 17), type := 36, pos := "ref.go:289", after := #[{ on := 6, ground := .data }], guard := none }) rfl (fun K hK => ?_) AllReadyH.nil
  refine step_conv (by rfl) (.tmp 17) (by rfl) n0 F0 (by simp [Act.eval]) ?_
  intro d0 wb hx hl hs
  obtain ⟨gB, hgB⟩ : ∃ g, g = wa.heap.size := ⟨_, rfl⟩
  rw [<- hgB] at hx ⊢
  have hbb : Below wr.heap.size wr wb := bth hba hl
  refine hK.out _ _ (HS.out _ hbb) (fun hHeld2 => ?_)
  exact HTL.out wb gB gA d0 d1 hbb hx (HX.out.1.below hl) (by have := hba.size; omega) (by have := hl.size; have := HX.out.2.2; have := HX.out.2.1; omega)
theorem Twin_any (w : World) (ro : Option Addr) (n rc : Nat) (A : Nat -> Option Addr) (L C : Nat -> Nat) (F : Nat -> Nat -> UInt8) (hr : Rw w ro n A L C F) (hn : n * 48 <= 140737488351232) :
  Calls Tryz.prog 10 #[.slice ro n rc] w fun e w' => ∃ ao cap A' C', e = .returned (.slice ao n cap) /\ Tw w w' ao n cap A' L C' F := by
 obtain ⟨i0, hin, hz0, hz1, hz2⟩ := info_parts infoPr
 have HR : Hid (Rw w ro n A L C F) := hr
 clear hr
 go_enter Tryz.func10, Tryz.ntmps10
 go_wp2_with fail
 go_loopw [3, 4] (fun l x wr => ∃ (i : Nat) (ao : Option Addr) (cap : Nat) (A' : Nat -> Option Addr) (C' : Nat -> Nat), i <= n /\ x = .int .i64 i /\ l = .slice ao i cap /\ Hid (Tw w wr ao i cap A' L C' F)) (fun _ x _ => n - (intOf x).toNat)
 case atStart => exact ⟨0, none, 0, fun _ => none, fun _ => 0, Nat.zero_le _, rfl, rfl, ⟨World.ownsRow_nil _ _ _ _, fun j hj => absurd hj (Nat.not_lt_zero j), Below.refl _ _⟩⟩
 case round =>
  obtain ⟨i, ao, cap, A', C', hi, rfl, rfl, HTW⟩ := hrel
  by_cases hlt : i < n
  ·obtain ⟨b, off, rfl, hc⟩ := HR.out.at_ (by omega)
   obtain ⟨a0, ha0⟩ : ∃ t, t = A (2 * i) := ⟨_, rfl⟩
   obtain ⟨a1, ha1⟩ : ∃ t, t = A (2 * i + 1) := ⟨_, rfl⟩
   obtain ⟨n0, hn0⟩ : ∃ t, t = L (2 * i) := ⟨_, rfl⟩
   obtain ⟨n1, hn1⟩ : ∃ t, t = L (2 * i + 1) := ⟨_, rfl⟩
   obtain ⟨c0, hc0⟩ : ∃ t, t = C (2 * i) := ⟨_, rfl⟩
   obtain ⟨c1, hc1⟩ : ∃ t, t = C (2 * i + 1) := ⟨_, rfl⟩
   obtain ⟨F0, hF0⟩ : ∃ t, t = F (2 * i) := ⟨_, rfl⟩
   obtain ⟨F1, hF1⟩ : ∃ t, t = F (2 * i + 1) := ⟨_, rfl⟩
   have k0 := (hc i hlt).1
   have k1 := (hc i hlt).2
   have q0 := HR.out.bec (2 * i) (by omega)
   have q1 := HR.out.bec (2 * i + 1) (by omega)
   rw [<- ha0, <- hn0, <- hc0] at k0
   rw [<- ha1, <- hn1, <- hc1] at k1
   rw [<- ha0, <- hn0, <- hc0, <- hF0] at q0
   rw [<- ha1, <- hn1, <- hc1, <- hF1] at q1
   have HSW : Hid (∀ v, Below w.heap.size w v -> (v.cell? ⟨b, off + i * 2, none⟩ = some (.slice a0 n0 c0) /\ v.cell? ⟨b, off + i * 2 + 1, none⟩ = some (.slice a1 n1 c1) /\ (convert 36 9 (.slice a0 n0 c0)).run Tryz.prog v = .ok (.string (sOf (lsF n0 F0))) v /\ (convert 36 9 (.slice a1 n1 c1)).run Tryz.prog v = .ok (.string (sOf (lsF n1 F1))) v)) := fun v hv => ⟨held k0 hv, held k1 hv, conv_any (q0.below hv), conv_any (q1.below hv)⟩
   have HSS : Hid (∀ v, Below wr.heap.size wr v -> (v.cell? ⟨b, off + i * 2, none⟩ = some (.slice a0 n0 c0) /\ v.cell? ⟨b, off + i * 2 + 1, none⟩ = some (.slice a1 n1 c1) /\ (convert 36 9 (.slice a0 n0 c0)).run Tryz.prog v = .ok (.string (sOf (lsF n0 F0))) v /\ (convert 36 9 (.slice a1 n1 c1)).run Tryz.prog v = .ok (.string (sOf (lsF n1 F1))) v)) := fun v hv => HSW.out v (bth HTW.out.bel hv)
   obtain ⟨XS, hXS⟩ : ∃ XS, XS = svp A' L C' i := ⟨_, rfl⟩
   have HSTEP : Hid (∀ wb wn g0 g1 d0 d1 g2 cap2, Below wr.heap.size wr wb -> Bec wb (some ⟨g0, 0, none⟩) n0 d0 F0 -> Bec wb (some ⟨g1, 0, none⟩) n1 d1 F1 -> (wr.heap.size <= g0 /\ g0 < wb.heap.size) -> (wr.heap.size <= g1 /\ g1 < wb.heap.size) -> wn.ownsRow w.heap.size 97 2 (.slice (some ⟨g2, 0, none⟩) (i + 1) cap2) (i + 1) (XS ++ [.slice (some ⟨g0, 0, none⟩) n0 d0, .slice (some ⟨g1, 0, none⟩) n1 d1]) -> (∀ x, x < wb.heap.size -> (∀ a, ao = some a -> x ≠ a.block) -> wn.heap[x]? = wb.heap[x]?) -> ((∃ a, ao = some a /\ a.block = g2) \/ g2 = wb.heap.size + 1) -> wb.heap.size + 1 <= wn.heap.size -> (wn.os = wb.os /\ wn.tape = wb.tape /\ wn.output = wb.output) -> Tw w wn (some ⟨g2, 0, none⟩) (i + 1) cap2 (updT (2 * i) (some ⟨g0, 0, none⟩) (updT (2 * i + 1) (some ⟨g1, 0, none⟩) A')) L (updT (2 * i) d0 (updT (2 * i + 1) d1 C')) F) := by
    intro wb wn g0 g1 d0 d1 g2 cap2 t1 t2 t3 t4 t5 t6 t7 t8 t9 t10
    rw [hn0] at t2 t6
    rw [hF0] at t2
    rw [hn1] at t3 t6
    rw [hF1] at t3
    exact HTW.out.step hXS t1 t2 t3 t4 t5 t6 t7 t8 t9 t10
   have HOB : Hid (∀ v o, Below wr.heap.size wr v -> (v.alloc o).ownsRow w.heap.size 97 2 (.slice ao i cap) i XS) := fun v o hv => by
    rw [hXS]; exact (owns_below HTW.out.row hv).alloc o
   have i1 : (0 : Int) <= (i : Int) := by omega
   have i2 : (i : Int) < (n : Int) := by omega
   clear hc k0 k1 q0 q1 ha0 ha1 hn0 hn1 hc0 hc1 hF0 hF1 hXS
   have HN : Hid (n * 48 <= 140737488351232) := hn
   go_wp2_with fail
   refine wp_region_noPanic (twin_reg w wr b off n rc i ao cap a0 n0 c0 F0 a1 n1 c1 F1 XS (fun wn g0 g1 d0 d1 g2 cap2 => Tw w wn (some ⟨g2, 0, none⟩) (i + 1) cap2 (updT (2 * i) (some ⟨g0, 0, none⟩) (updT (2 * i + 1) (some ⟨g1, 0, none⟩) A')) L (updT (2 * i) d0 (updT (2 * i + 1) d1 C')) F) HSW.out HTW.out.bel (fun wb wn g0 g1 d0 d1 g2 cap2 t1 t2 t3 t4 t5 t6 t7 t8 t9 t10 => ⟨HSTEP.out wb wn g0 g1 d0 d1 g2 cap2 t1 t2 t3 t4 t5 t6 t7 t8 t9 t10, (HSTEP.out wb wn g0 g1 d0 d1 g2 cap2 t1 t2 t3 t4 t5 t6 t7 t8 t9 t10).bel⟩) HOB.out i1 i2 HN.out _ (fun _ _ _ h => h) (fun wb wn g0 g1 d0 d1 g2 cap2 ht => NoPanic.normal ?_))
   have HTT : Hid (Tw w wn (some ⟨g2, 0, none⟩) (i + 1) cap2 (updT (2 * i) (some ⟨g0, 0, none⟩) (updT (2 * i + 1) (some ⟨g1, 0, none⟩) A')) L (updT (2 * i) d0 (updT (2 * i + 1) d1 C')) F) := ht
   clear ht HSTEP HSW HSS HOB
   go_wp2_with fail
   go_roundw
   case rel => exact ⟨i + 1, some ⟨g2, 0, none⟩, cap2, _, _, by omega, by go_num, rfl, HTT⟩
   case measure => simp [intOf]; omega
  ·have i2 : ¬ (i : Int) < (n : Int) := by omega
   have HIN : Hid (i = n) := by show _ = _; omega
   go_wp2_with fail
   go_ret
   obtain rfl : i = n := HIN.out
   exact ⟨ao, cap, rfl, A', C', HTW.out⟩
end Go.Proofs.YtemlojjkokooeaaGreat
