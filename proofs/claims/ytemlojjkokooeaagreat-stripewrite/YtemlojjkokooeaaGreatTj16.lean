import Derived.Test.YtemlojjkokooeaaGreatTk
import Derived.Test.YtemlojjkokooeaaGreatTj8
import Derived.Test.YtemlojjkokooeaaGreatTj15
set_option maxHeartbeats 8000000
set_option maxRecDepth 100000
namespace Go.Proofs.YtemlojjkokooeaaGreat
open Go.RowKit
def nops : Array Oper := #[{ dst := some 27, op := .move (.tmp 1), type := 36, pos := "ref.go:89", after := #[], guard := none }, { dst := some 28, op := .indexAddr 36 (.tmp 27) (.const (.int .i64 2)), type := 0, pos := "ref.go:89", after := #[{ on := 0, ground := .data }], guard := none }, { dst := some 29, op := .load 5 (.tmp 28), type := 5, pos := "ref.go:89", after := #[{ on := 1, ground := .data }], guard := none }, { dst := some 30, op := .move (.tmp 1), type := 36, pos := "ref.go:89", after := #[], guard := none }, { dst := some 31, op := .indexAddr 36 (.tmp 30) (.const (.int .i64 3)), type := 0, pos := "ref.go:89", after := #[{ on := 3, ground := .data }], guard := none }, { dst := some 32, op := .load 5 (.tmp 31), type := 5, pos := "ref.go:89", after := #[{ on := 4, ground := .data }], guard := none }, { dst := some 33, op := .convert 5 3 (.tmp 32), type := 3, pos := "ref.go:89", after := #[{ on := 5, ground := .data }], guard := none }, { dst := some 34, op := .move (.tmp 1), type := 36, pos := "ref.go:89", after := #[], guard := none }, { dst := some 35, op := .call { callee := .value (.func 279), args := #[.tmp 34, .const (.int .i64 4)], argTypes := #[36, 3] }, type := 3, pos := "ref.go:89", after := #[{ on := 7, ground := .data }], guard := none }, { dst := some 36, op := .move (.tmp 1), type := 36, pos := "ref.go:89", after := #[], guard := none }, { dst := some 37, op := .call { callee := .value (.func 279), args := #[.tmp 36, .const (.int .i64 8)], argTypes := #[36, 3] }, type := 3, pos := "ref.go:89", after := #[{ on := 9, ground := .data }, { on := 8, ground := .chain }], guard := none }, { dst := some 38, op := .build 107 #[(0, .tmp 29), (1, .tmp 33), (2, .tmp 35), (3, .tmp 37)], type := 107, pos := "ref.go:89", after := #[{ on := 2, ground := .data }, { on := 6, ground := .data }, { on := 8, ground := .data }, { on := 10, ground := .data }], guard := none }, { dst := some 6, op := .alloc 107, type := 0, pos := "ref.go:89", after := #[], guard := none }, { dst := none, op := .store 107 (.tmp 6) (.tmp 38), type := 0, pos := "ref.go:89", after := #[{ on := 12, ground := .data }, { on := 11, ground := .data }, { on := 10, ground := .chain }, { on := 0, ground := .phase }, { on := 1, ground := .phase }, { on := 2, ground := .phase }, { on := 3, ground := .phase }, { on := 4, ground := .phase }, { on := 5, ground := .phase }, { on := 6, ground := .phase }, { on := 7, ground := .phase }, { on := 8, ground := .phase }, { on := 9, ground := .phase }, { on := 10, ground := .phase }, { on := 11, ground := .phase }, { on := 12, ground := .phase }], guard := none }]
abbrev numsregionFr (k : Int) (r : Int) (c : Int) (q : Int) (g : Nat) (o : Nat) (n : Nat) (cp : Nat) (t : Nat) (u : Value) (e1 e2 e3 e4 e5 e6 e7 e8 e9 e10 e11 e12 : Value) : Act := { tmps := #[.agg #[.int .i64 k, .int .i64 r, .int .i64 c, .int .i64 q], .slice (some ⟨g, o, none⟩) n cp, .pointer (some ⟨t, 0, none⟩), u, .pointer (some ⟨t + 1, 0, none⟩), .bool false, e1, u, u, .slice (some ⟨g, o, none⟩) n cp, .int .i64 (n : Int), .agg #[.int .i64 k, .int .i64 r, .int .i64 c, .int .i64 q], .int .i64 (n : Int), .bool false, .bool false, .slice (some ⟨g, o, none⟩) n cp, .pointer (some ⟨g, o, none⟩), .int .u8 84, .bool false, .bool false, .bool false, .slice (some ⟨g, o, none⟩) n cp, .pointer (some ⟨g, o + 1, none⟩), .int .u8 50, .bool false, .bool false, u, .slice (some ⟨g, o, none⟩) n cp, e2, e3, e4, e5, e6, e7, e8, e9, e10, e11, e12, u, u, u, u, u, u, u, u, u, u, u, u, u, u, u, u, u, u, u, u, u, u, u, u, u, u, u, u, u, u, u, u], defers := [] }
theorem nums_region {u : Value} (w1 : World) (k r c q : Int) (g o n cp t kn x1 x2 x3 : Nat)
  (hS : ∀ v, Below w1.heap.size w1 v -> (v.cell? ⟨g, o + 2, none⟩ = some (.int .u8 (kn : Int)) /\ v.cell? ⟨g, o + 3, none⟩ = some (.int .u8 (x1 : Int))))
  (P1 : ∀ v, Below w1.heap.size w1 v -> Calls Tryz.prog 279 #[.slice (some ⟨g, o, none⟩) n cp, .int .i64 4] v fun e w' => e = .returned (.int .i64 (x2 : Int)) /\ Below v.heap.size v w')
  (P2 : ∀ v, Below w1.heap.size w1 v -> Calls Tryz.prog 279 #[.slice (some ⟨g, o, none⟩) n cp, .int .i64 8] v fun e w' => e = .returned (.int .i64 (x3 : Int)) /\ Below v.heap.size v w')
  (h1 : (2 : Int) < (n : Int)) (h2 : (3 : Int) < (n : Int)) (h3 : x1 < 256)
  (Q : Exit -> Act -> World -> Prop) (hQp : ∀ ch a v, Q (.panic ch) a v -> False) (hQ : ∀ g3 v, Below w1.heap.size w1 v -> At w1 v g3 #[.int .u8 (kn : Int), .int .i64 (x1 : Int), .int .i64 (x2 : Int), .int .i64 (x3 : Int), .slice none 0 0, .slice none 0 0] 107 -> Q .normal { tmps := #[.agg #[.int .i64 k, .int .i64 r, .int .i64 c, .int .i64 q], .slice (some ⟨g, o, none⟩) n cp, .pointer (some ⟨t, 0, none⟩), u, .pointer (some ⟨t + 1, 0, none⟩), .bool false, .pointer (some ⟨g3, 0, none⟩), u, u, .slice (some ⟨g, o, none⟩) n cp, .int .i64 (n : Int), .agg #[.int .i64 k, .int .i64 r, .int .i64 c, .int .i64 q], .int .i64 (n : Int), .bool false, .bool false, .slice (some ⟨g, o, none⟩) n cp, .pointer (some ⟨g, o, none⟩), .int .u8 84, .bool false, .bool false, .bool false, .slice (some ⟨g, o, none⟩) n cp, .pointer (some ⟨g, o + 1, none⟩), .int .u8 50, .bool false, .bool false, u, .slice (some ⟨g, o, none⟩) n cp, .pointer (some ⟨g, o + 2, none⟩), .int .u8 (kn : Int), .slice (some ⟨g, o, none⟩) n cp, .pointer (some ⟨g, o + 3, none⟩), .int .u8 (x1 : Int), .int .i64 (x1 : Int), .slice (some ⟨g, o, none⟩) n cp, .int .i64 (x2 : Int), .slice (some ⟨g, o, none⟩) n cp, .int .i64 (x3 : Int), .agg #[.int .u8 (kn : Int), .int .i64 (x1 : Int), .int .i64 (x2 : Int), .int .i64 (x3 : Int), .slice none 0 0, .slice none 0 0], u, u, u, u, u, u, u, u, u, u, u, u, u, u, u, u, u, u, u, u, u, u, u, u, u, u, u, u, u, u, u, u], defers := [] } v) :
  Code.wp Tryz.prog (Code.region 3 nops true) Q { tmps := #[.agg #[.int .i64 k, .int .i64 r, .int .i64 c, .int .i64 q], .slice (some ⟨g, o, none⟩) n cp, .pointer (some ⟨t, 0, none⟩), u, .pointer (some ⟨t + 1, 0, none⟩), .bool false, u, u, u, .slice (some ⟨g, o, none⟩) n cp, .int .i64 (n : Int), .agg #[.int .i64 k, .int .i64 r, .int .i64 c, .int .i64 q], .int .i64 (n : Int), .bool false, .bool false, .slice (some ⟨g, o, none⟩) n cp, .pointer (some ⟨g, o, none⟩), .int .u8 84, .bool false, .bool false, .bool false, .slice (some ⟨g, o, none⟩) n cp, .pointer (some ⟨g, o + 1, none⟩), .int .u8 50, .bool false, .bool false, u, u, u, u, u, u, u, u, u, u, u, u, u, u, u, u, u, u, u, u, u, u, u, u, u, u, u, u, u, u, u, u, u, u, u, u, u, u, u, u, u, u, u, u, u], defers := [] } w1 := by
 have HQ : Hid _ := hQ
 obtain ⟨S, HS1, HS⟩ : ∃ S : World -> Prop, Hid (∀ v, S v -> (v.cell? ⟨g, o + 2, none⟩ = some (.int .u8 (kn : Int)) /\ v.cell? ⟨g, o + 3, none⟩ = some (.int .u8 (x1 : Int)))) /\ Hid (∀ v, Below w1.heap.size w1 v -> S v) := ⟨fun v => v.cell? ⟨g, o + 2, none⟩ = some (.int .u8 (kn : Int)) /\ v.cell? ⟨g, o + 3, none⟩ = some (.int .u8 (x1 : Int)), fun v h => h, hS⟩
 have HP1 : Hid _ := P1
 have HP2 : Hid _ := P2
 have hwx : IntKind.i64.wrap (x1 : Int) = (x1 : Int) := by rw [IntKind.wrap_i64]; omega
 have j1 : 2 < n := by omega
 have j2 : 3 < n := by omega
 clear hS hQ P1 P2
 have HF : Hid (∀ (v : World) (g3 : Nat), Below w1.heap.size w1 v -> At w1 v g3 #[.int .u8 0, .int .i64 0, .int .i64 0, .int .i64 0, .slice none 0 0, .slice none 0 0] 107 -> wpAnyH Tryz.prog .any nops Q S 1 #[true, true, true, true, true, true, true, true, true, true, true, true, true, false] (numsregionFr k r c q g o n cp t u (.pointer (some ⟨g3, 0, none⟩)) (.pointer (some ⟨g, o + 2, none⟩)) (.int .u8 (kn : Int)) (.slice (some ⟨g, o, none⟩) n cp) (.pointer (some ⟨g, o + 3, none⟩)) (.int .u8 (x1 : Int)) (.int .i64 (x1 : Int)) (.slice (some ⟨g, o, none⟩) n cp) (.int .i64 (x2 : Int)) (.slice (some ⟨g, o, none⟩) n cp) (.int .i64 (x3 : Int)) (.agg #[.int .u8 (kn : Int), .int .i64 (x1 : Int), .int .i64 (x2 : Int), .int .i64 (x3 : Int), .slice none 0 0, .slice none 0 0])) v) := fun v g3 hb f3 => by
  dsimp only [numsregionFr]
  have c0 := f3.cell (i := 0) rfl
  have c1 := f3.cell (i := 1) rfl
  have c2 := f3.cell (i := 2) rfl
  have c3 := f3.cell (i := 3) rfl
  have c4 := f3.cell (i := 4) rfl
  have c5 := f3.cell (i := 5) rfl
  have cf := f3.free
  refine wpAnyH_ready (rs := [13]) (by kernel_rfl) (by simp) ?_
  refine AllReadyH.cons (o := { dst := none, op := .store 107 (.tmp 6) (.tmp 38), type := 0, pos := "ref.go:89", after := #[{ on := 12, ground := .data }, { on := 11, ground := .data }, { on := 10, ground := .chain }, { on := 0, ground := .phase }, { on := 1, ground := .phase }, { on := 2, ground := .phase }, { on := 3, ground := .phase }, { on := 4, ground := .phase }, { on := 5, ground := .phase }, { on := 6, ground := .phase }, { on := 7, ground := .phase }, { on := 8, ground := .phase }, { on := 9, ground := .phase }, { on := 10, ground := .phase }, { on := 11, ground := .phase }, { on := 12, ground := .phase }], guard := none }) rfl (fun K hK => ?_) AllReadyH.nil
  go_simp
  refine hK.out _ _ (HS.out _ (b_set (b_set (b_set (b_set (b_set (b_set hb f3.1 _) f3.1 _) f3.1 _) f3.1 _) f3.1 _) f3.1 _)) (fun hHeld => ?_)
  refine wpAnyH_done (by kernel_rfl) ?_ _
  refine HQ.out g3 _ (b_set (b_set (b_set (b_set (b_set (b_set hb f3.1 _) f3.1 _) f3.1 _) f3.1 _) f3.1 _) f3.1 _) ?_
  exact (((((f3.set 0 _).set 1 _).set 2 _).set 3 _).set 4 _).set 5 _
 have H21 : Hid (∀ (v : World) (g3 : Nat), Below w1.heap.size w1 v -> At w1 v g3 #[.int .u8 0, .int .i64 0, .int .i64 0, .int .i64 0, .slice none 0 0, .slice none 0 0] 107 -> wpAnyH Tryz.prog .any nops Q S 2 #[true, true, true, true, true, true, true, true, true, true, true, false, true, false] (numsregionFr k r c q g o n cp t u (.pointer (some ⟨g3, 0, none⟩)) (.pointer (some ⟨g, o + 2, none⟩)) (.int .u8 (kn : Int)) (.slice (some ⟨g, o, none⟩) n cp) (.pointer (some ⟨g, o + 3, none⟩)) (.int .u8 (x1 : Int)) (.int .i64 (x1 : Int)) (.slice (some ⟨g, o, none⟩) n cp) (.int .i64 (x2 : Int)) (.slice (some ⟨g, o, none⟩) n cp) (.int .i64 (x3 : Int)) u) v) := fun v g3 hb f3 => by
  dsimp only [numsregionFr]
  refine tkq hQp HS1 11 { dst := some 38, op := .build 107 #[(0, .tmp 29), (1, .tmp 33), (2, .tmp 35), (3, .tmp 37)], type := 107, pos := "ref.go:89", after := #[{ on := 2, ground := .data }, { on := 6, ground := .data }, { on := 8, ground := .data }, { on := 10, ground := .data }], guard := none } (.agg #[.int .u8 (kn : Int), .int .i64 (x1 : Int), .int .i64 (x2 : Int), .int .i64 (x3 : Int), .slice none 0 0, .slice none 0 0]) (HS.out _ hb) ?_
  show wpAnyH Tryz.prog .any nops Q S 1 #[true, true, true, true, true, true, true, true, true, true, true, true, true, false] (numsregionFr k r c q g o n cp t u (.pointer (some ⟨g3, 0, none⟩)) (.pointer (some ⟨g, o + 2, none⟩)) (.int .u8 (kn : Int)) (.slice (some ⟨g, o, none⟩) n cp) (.pointer (some ⟨g, o + 3, none⟩)) (.int .u8 (x1 : Int)) (.int .i64 (x1 : Int)) (.slice (some ⟨g, o, none⟩) n cp) (.int .i64 (x2 : Int)) (.slice (some ⟨g, o, none⟩) n cp) (.int .i64 (x3 : Int)) (.agg #[.int .u8 (kn : Int), .int .i64 (x1 : Int), .int .i64 (x2 : Int), .int .i64 (x3 : Int), .slice none 0 0, .slice none 0 0])) v
  dsimp only [numsregionFr]
  exact HF.out _ g3 hb f3
 have H20 : Hid (∀ (v : World), Below w1.heap.size w1 v -> wpAnyH Tryz.prog .any nops Q S 3 #[true, true, true, true, true, true, true, true, true, true, true, false, false, false] (numsregionFr k r c q g o n cp t u u (.pointer (some ⟨g, o + 2, none⟩)) (.int .u8 (kn : Int)) (.slice (some ⟨g, o, none⟩) n cp) (.pointer (some ⟨g, o + 3, none⟩)) (.int .u8 (x1 : Int)) (.int .i64 (x1 : Int)) (.slice (some ⟨g, o, none⟩) n cp) (.int .i64 (x2 : Int)) (.slice (some ⟨g, o, none⟩) n cp) (.int .i64 (x3 : Int)) u) v) := fun v hb => by
  dsimp only [numsregionFr]
  refine tkq hQp HS1 11 { dst := some 38, op := .build 107 #[(0, .tmp 29), (1, .tmp 33), (2, .tmp 35), (3, .tmp 37)], type := 107, pos := "ref.go:89", after := #[{ on := 2, ground := .data }, { on := 6, ground := .data }, { on := 8, ground := .data }, { on := 10, ground := .data }], guard := none } (.agg #[.int .u8 (kn : Int), .int .i64 (x1 : Int), .int .i64 (x2 : Int), .int .i64 (x3 : Int), .slice none 0 0, .slice none 0 0]) (HS.out _ hb) ?_
  show wpAnyH Tryz.prog .any nops Q S 2 #[true, true, true, true, true, true, true, true, true, true, true, true, false, false] (numsregionFr k r c q g o n cp t u u (.pointer (some ⟨g, o + 2, none⟩)) (.int .u8 (kn : Int)) (.slice (some ⟨g, o, none⟩) n cp) (.pointer (some ⟨g, o + 3, none⟩)) (.int .u8 (x1 : Int)) (.int .i64 (x1 : Int)) (.slice (some ⟨g, o, none⟩) n cp) (.int .i64 (x2 : Int)) (.slice (some ⟨g, o, none⟩) n cp) (.int .i64 (x3 : Int)) (.agg #[.int .u8 (kn : Int), .int .i64 (x1 : Int), .int .i64 (x2 : Int), .int .i64 (x3 : Int), .slice none 0 0, .slice none 0 0])) v
  dsimp only [numsregionFr]
  refine wpAnyH_ready (rs := [12]) (by kernel_rfl) (by simp) ?_
  refine AllReadyH.cons (o := { dst := some 6, op := .alloc 107, type := 0, pos := "ref.go:89", after := #[], guard := none }) rfl (fun K hK => ?_) AllReadyH.nil
  go_simp
  refine hK.out _ _ (HS.out _ (b_alloc hb _)) (fun hHeld => ?_)
  exact HF.out _ _ (b_alloc hb _) (at_new hb _ _)
 have H11 : Hid (∀ (v : World) (g3 : Nat), Below w1.heap.size w1 v -> At w1 v g3 #[.int .u8 0, .int .i64 0, .int .i64 0, .int .i64 0, .slice none 0 0, .slice none 0 0] 107 -> wpAnyH Tryz.prog .any nops Q S 3 #[true, true, true, true, true, true, true, true, true, true, false, false, true, false] (numsregionFr k r c q g o n cp t u (.pointer (some ⟨g3, 0, none⟩)) (.pointer (some ⟨g, o + 2, none⟩)) (.int .u8 (kn : Int)) (.slice (some ⟨g, o, none⟩) n cp) (.pointer (some ⟨g, o + 3, none⟩)) (.int .u8 (x1 : Int)) (.int .i64 (x1 : Int)) (.slice (some ⟨g, o, none⟩) n cp) (.int .i64 (x2 : Int)) (.slice (some ⟨g, o, none⟩) n cp) u u) v) := fun v g3 hb f3 => by
  dsimp only [numsregionFr]
  refine wpAnyH_ready (rs := [10]) (by kernel_rfl) (by simp) ?_
  refine AllReadyH.cons (o := { dst := some 37, op := .call { callee := .value (.func 279), args := #[.tmp 36, .const (.int .i64 8)], argTypes := #[36, 3] }, type := 3, pos := "ref.go:89", after := #[{ on := 9, ground := .data }, { on := 8, ground := .chain }], guard := none }) rfl (fun K hK => ?_) AllReadyH.nil
  ·go_simp
   refine (HP2.out _ hb).mono ?_
   rintro e w' ⟨rfl, hw'⟩
   refine hK.out _ _ (HS.out _ (bth hb hw')) (fun hHeld => ?_)
   exact H21.out _ g3 (bth hb hw') (f3.below hw')
 have H10 : Hid (∀ (v : World), Below w1.heap.size w1 v -> wpAnyH Tryz.prog .any nops Q S 4 #[true, true, true, true, true, true, true, true, true, true, false, false, false, false] (numsregionFr k r c q g o n cp t u u (.pointer (some ⟨g, o + 2, none⟩)) (.int .u8 (kn : Int)) (.slice (some ⟨g, o, none⟩) n cp) (.pointer (some ⟨g, o + 3, none⟩)) (.int .u8 (x1 : Int)) (.int .i64 (x1 : Int)) (.slice (some ⟨g, o, none⟩) n cp) (.int .i64 (x2 : Int)) (.slice (some ⟨g, o, none⟩) n cp) u u) v) := fun v hb => by
  dsimp only [numsregionFr]
  refine wpAnyH_ready (rs := [10, 12]) (by kernel_rfl) (by simp) ?_
  refine AllReadyH.cons (o := { dst := some 37, op := .call { callee := .value (.func 279), args := #[.tmp 36, .const (.int .i64 8)], argTypes := #[36, 3] }, type := 3, pos := "ref.go:89", after := #[{ on := 9, ground := .data }, { on := 8, ground := .chain }], guard := none }) rfl (fun K hK => ?_) ?_
  rotate_left
  refine AllReadyH.cons (o := { dst := some 6, op := .alloc 107, type := 0, pos := "ref.go:89", after := #[], guard := none }) rfl (fun K hK => ?_) AllReadyH.nil
  rotate_left
  ·go_simp
   refine (HP2.out _ hb).mono ?_
   rintro e w' ⟨rfl, hw'⟩
   refine hK.out _ _ (HS.out _ (bth hb hw')) (fun hHeld => ?_)
   exact H20.out _ (bth hb hw')
  ·go_simp
   refine hK.out _ _ (HS.out _ (b_alloc hb _)) (fun hHeld => ?_)
   exact H11.out _ _ (b_alloc hb _) (at_new hb _ _)
 have H01 : Hid (∀ (v : World) (g3 : Nat), Below w1.heap.size w1 v -> At w1 v g3 #[.int .u8 0, .int .i64 0, .int .i64 0, .int .i64 0, .slice none 0 0, .slice none 0 0] 107 -> wpAnyH Tryz.prog .any nops Q S 4 #[true, true, true, true, true, true, true, true, false, true, false, false, true, false] (numsregionFr k r c q g o n cp t u (.pointer (some ⟨g3, 0, none⟩)) (.pointer (some ⟨g, o + 2, none⟩)) (.int .u8 (kn : Int)) (.slice (some ⟨g, o, none⟩) n cp) (.pointer (some ⟨g, o + 3, none⟩)) (.int .u8 (x1 : Int)) (.int .i64 (x1 : Int)) (.slice (some ⟨g, o, none⟩) n cp) u (.slice (some ⟨g, o, none⟩) n cp) u u) v) := fun v g3 hb f3 => by
  dsimp only [numsregionFr]
  refine wpAnyH_ready (rs := [8]) (by kernel_rfl) (by simp) ?_
  refine AllReadyH.cons (o := { dst := some 35, op := .call { callee := .value (.func 279), args := #[.tmp 34, .const (.int .i64 4)], argTypes := #[36, 3] }, type := 3, pos := "ref.go:89", after := #[{ on := 7, ground := .data }], guard := none }) rfl (fun K hK => ?_) AllReadyH.nil
  ·go_simp
   refine (HP1.out _ hb).mono ?_
   rintro e w' ⟨rfl, hw'⟩
   refine hK.out _ _ (HS.out _ (bth hb hw')) (fun hHeld => ?_)
   exact H11.out _ g3 (bth hb hw') (f3.below hw')
 have H00 : Hid (∀ (v : World), Below w1.heap.size w1 v -> wpAnyH Tryz.prog .any nops Q S 5 #[true, true, true, true, true, true, true, true, false, true, false, false, false, false] (numsregionFr k r c q g o n cp t u u (.pointer (some ⟨g, o + 2, none⟩)) (.int .u8 (kn : Int)) (.slice (some ⟨g, o, none⟩) n cp) (.pointer (some ⟨g, o + 3, none⟩)) (.int .u8 (x1 : Int)) (.int .i64 (x1 : Int)) (.slice (some ⟨g, o, none⟩) n cp) u (.slice (some ⟨g, o, none⟩) n cp) u u) v) := fun v hb => by
  dsimp only [numsregionFr]
  refine wpAnyH_ready (rs := [8, 12]) (by kernel_rfl) (by simp) ?_
  refine AllReadyH.cons (o := { dst := some 35, op := .call { callee := .value (.func 279), args := #[.tmp 34, .const (.int .i64 4)], argTypes := #[36, 3] }, type := 3, pos := "ref.go:89", after := #[{ on := 7, ground := .data }], guard := none }) rfl (fun K hK => ?_) ?_
  rotate_left
  refine AllReadyH.cons (o := { dst := some 6, op := .alloc 107, type := 0, pos := "ref.go:89", after := #[], guard := none }) rfl (fun K hK => ?_) AllReadyH.nil
  rotate_left
  ·go_simp
   refine (HP1.out _ hb).mono ?_
   rintro e w' ⟨rfl, hw'⟩
   refine hK.out _ _ (HS.out _ (bth hb hw')) (fun hHeld => ?_)
   exact H10.out _ (bth hb hw')
  ·go_simp
   refine hK.out _ _ (HS.out _ (b_alloc hb _)) (fun hHeld => ?_)
   exact H01.out _ _ (b_alloc hb _) (at_new hb _ _)
 refine wp_region_held_drew (S := S) (by kernel_rfl) (HS.out _ (bdw _ _)) (fun hHeld => ?_)
 have hb : Below w1.heap.size w1 w1.drew := bdw _ _
 rw [show nops.size = 14 from by kernel_rfl, show Array.replicate 14 false = #[false, false, false, false, false, false, false, false, false, false, false, false, false, false] from by kernel_rfl]
 refine tkq hQp HS1 0 { dst := some 27, op := .move (.tmp 1), type := 36, pos := "ref.go:89", after := #[], guard := none } (.slice (some ⟨g, o, none⟩) n cp) (HS.out _ hb) ?_
 show wpAnyH Tryz.prog .any nops Q S 13 #[true, false, false, false, false, false, false, false, false, false, false, false, false, false] (numsregionFr k r c q g o n cp t u u u u u u u u u u u u u) w1.drew
 dsimp only [numsregionFr]
 refine tkq hQp HS1 1 { dst := some 28, op := .indexAddr 36 (.tmp 27) (.const (.int .i64 2)), type := 0, pos := "ref.go:89", after := #[{ on := 0, ground := .data }], guard := none } (.pointer (some ⟨g, o + 2, none⟩)) (HS.out _ hb) ?_
 refine tkq hQp HS1 2 { dst := some 29, op := .load 5 (.tmp 28), type := 5, pos := "ref.go:89", after := #[{ on := 1, ground := .data }], guard := none } (.int .u8 (kn : Int)) (HS.out _ hb) ?_
 refine tkq hQp HS1 3 { dst := some 30, op := .move (.tmp 1), type := 36, pos := "ref.go:89", after := #[], guard := none } (.slice (some ⟨g, o, none⟩) n cp) (HS.out _ hb) ?_
 refine tkq hQp HS1 4 { dst := some 31, op := .indexAddr 36 (.tmp 30) (.const (.int .i64 3)), type := 0, pos := "ref.go:89", after := #[{ on := 3, ground := .data }], guard := none } (.pointer (some ⟨g, o + 3, none⟩)) (HS.out _ hb) ?_
 show wpAnyH Tryz.prog .any nops Q S 9 #[true, true, true, true, true, false, false, false, false, false, false, false, false, false] (numsregionFr k r c q g o n cp t u u (.pointer (some ⟨g, o + 2, none⟩)) (.int .u8 (kn : Int)) (.slice (some ⟨g, o, none⟩) n cp) (.pointer (some ⟨g, o + 3, none⟩)) u u u u u u u) w1.drew
 dsimp only [numsregionFr]
 refine tkq hQp HS1 5 { dst := some 32, op := .load 5 (.tmp 31), type := 5, pos := "ref.go:89", after := #[{ on := 4, ground := .data }], guard := none } (.int .u8 (x1 : Int)) (HS.out _ hb) ?_
 refine tkq hQp HS1 6 { dst := some 33, op := .convert 5 3 (.tmp 32), type := 3, pos := "ref.go:89", after := #[{ on := 5, ground := .data }], guard := none } (.int .i64 (x1 : Int)) (HS.out _ hb) ?_
 refine tkq hQp HS1 7 { dst := some 34, op := .move (.tmp 1), type := 36, pos := "ref.go:89", after := #[], guard := none } (.slice (some ⟨g, o, none⟩) n cp) (HS.out _ hb) ?_
 refine tkq hQp HS1 9 { dst := some 36, op := .move (.tmp 1), type := 36, pos := "ref.go:89", after := #[], guard := none } (.slice (some ⟨g, o, none⟩) n cp) (HS.out _ hb) ?_
 show wpAnyH Tryz.prog .any nops Q S 5 #[true, true, true, true, true, true, true, true, false, true, false, false, false, false] (numsregionFr k r c q g o n cp t u u (.pointer (some ⟨g, o + 2, none⟩)) (.int .u8 (kn : Int)) (.slice (some ⟨g, o, none⟩) n cp) (.pointer (some ⟨g, o + 3, none⟩)) (.int .u8 (x1 : Int)) (.int .i64 (x1 : Int)) (.slice (some ⟨g, o, none⟩) n cp) u (.slice (some ⟨g, o, none⟩) n cp) u u) w1.drew
 dsimp only [numsregionFr]
 exact H00.out _ hb
theorem At.grown {a v v' : World} {g : Nat} {cs : Array Value} {t : TypeId} (h : At a v g cs t) {row : Option Nat} (hg : v.grownBy v' row) (hr : row ≠ some g) : At a v' g cs t :=
 ⟨h.1, (hg.block g (Array.getElem?_eq_some_iff.1 h.2).1 (fun e => hr e.symm)).trans h.2⟩
theorem own_not {a v : World} {B g e n cap : Nat} {ao : Option Addr} {xs : List Value} {cs : Array Value} {t : TypeId} (h : v.ownsRow B e 1 (.slice ao n cap) n xs) (ha : At a v g cs t) (hne : e ≠ t) : (Value.slice ao n cap).ownBlock ≠ some g := by
 intro hh
 rcases h.2 with ⟨h1, _⟩ | ⟨g', cap', cur, h1, _, h3, _⟩
 ·cases h1; cases hh
 ·cases h1
  cases hh
  have := h3.symm.trans ha.2
  simp at this
  exact hne this.2
def vops : Array Oper := #[{ dst := some 46, op := .fieldAddr 107 (.tmp 6) 4, type := 0, pos := "ref.go:92", after := #[], guard := none }, { dst := some 47, op := .load 27 (.tmp 46), type := 27, pos := "ref.go:92", after := #[{ on := 0, ground := .data }], guard := none }, { dst := some 48, op := .move (.tmp 1), type := 36, pos := "ref.go:92", after := #[], guard := none }, { dst := some 49, op := .move (.tmp 8), type := 3, pos := "ref.go:92", after := #[], guard := none }, { dst := some 50, op := .binOp BinOp.mul 3 (.const (.int .i64 4)) (.tmp 49) 3, type := 3, pos := "ref.go:92", after := #[{ on := 3, ground := .data }], guard := none }, { dst := some 51, op := .binOp BinOp.add 3 (.const (.int .i64 12)) (.tmp 50) 3, type := 3, pos := "ref.go:92", after := #[{ on := 4, ground := .data }], guard := none }, { dst := some 52, op := .call { callee := .value (.func 279), args := #[.tmp 48, .tmp 51], argTypes := #[36, 3] }, type := 3, pos := "ref.go:92", after := #[{ on := 2, ground := .data }, { on := 5, ground := .data }], guard := none }, { dst := some 53, op := .buildSlice 27 1 #[(0, .tmp 52)], type := 27, pos := "ref.go:92", after := #[{ on := 6, ground := .data }], guard := none }, { dst := some 54, op := .call { callee := Callee.builtin Builtin.append, args := #[.tmp 47, .tmp 53], argTypes := #[27, 27] }, type := 27, pos := "ref.go:92", after := #[{ on := 1, ground := .data }, { on := 7, ground := .data }, { on := 6, ground := .chain }], guard := none }, { dst := some 55, op := .fieldAddr 107 (.tmp 6) 4, type := 0, pos := "ref.go:92", after := #[{ on := 0, ground := .phase }, { on := 1, ground := .phase }, { on := 2, ground := .phase }, { on := 3, ground := .phase }, { on := 4, ground := .phase }, { on := 5, ground := .phase }, { on := 6, ground := .phase }, { on := 7, ground := .phase }, { on := 8, ground := .phase }], guard := none }, { dst := none, op := .store 27 (.tmp 55) (.tmp 54), type := 0, pos := "ref.go:92", after := #[{ on := 9, ground := .data }, { on := 8, ground := .data }, { on := 8, ground := .chain }, { on := 0, ground := .phase }, { on := 1, ground := .phase }, { on := 2, ground := .phase }, { on := 3, ground := .phase }, { on := 4, ground := .phase }, { on := 5, ground := .phase }, { on := 6, ground := .phase }, { on := 7, ground := .phase }, { on := 8, ground := .phase }], guard := none }]
abbrev versregionFr (k : Int) (r : Int) (c : Int) (q : Int) (g : Nat) (o : Nat) (n : Nat) (cp : Nat) (t : Nat) (u : Value) (g3 : Nat) (N : Nat) (i : Nat) (kn : Nat) (x1 : Nat) (x2 : Nat) (x3 : Nat) (u44 : Value) (u45 : Value) (e1 e2 e3 e4 e5 e6 e7 e8 e9 : Value) : Act := { tmps := #[.agg #[.int .i64 k, .int .i64 r, .int .i64 c, .int .i64 q], .slice (some ⟨g, o, none⟩) n cp, .pointer (some ⟨t, 0, none⟩), u, .pointer (some ⟨t + 1, 0, none⟩), .bool false, .pointer (some ⟨g3, 0, none⟩), .int .i64 (N : Int), .int .i64 (i : Int), .slice (some ⟨g, o, none⟩) n cp, .int .i64 (n : Int), .agg #[.int .i64 k, .int .i64 r, .int .i64 c, .int .i64 q], .int .i64 (n : Int), .bool false, .bool false, .slice (some ⟨g, o, none⟩) n cp, .pointer (some ⟨g, o, none⟩), .int .u8 84, .bool false, .bool false, .bool false, .slice (some ⟨g, o, none⟩) n cp, .pointer (some ⟨g, o + 1, none⟩), .int .u8 50, .bool false, .bool false, u, .slice (some ⟨g, o, none⟩) n cp, .pointer (some ⟨g, o + 2, none⟩), .int .u8 (kn : Int), .slice (some ⟨g, o, none⟩) n cp, .pointer (some ⟨g, o + 3, none⟩), .int .u8 (x1 : Int), .int .i64 (x1 : Int), .slice (some ⟨g, o, none⟩) n cp, .int .i64 (x2 : Int), .slice (some ⟨g, o, none⟩) n cp, .int .i64 (x3 : Int), .agg #[.int .u8 (kn : Int), .int .i64 (x1 : Int), .int .i64 (x2 : Int), .int .i64 (x3 : Int), .slice none 0 0, .slice none 0 0], .agg #[.int .i64 k, .int .i64 r, .int .i64 c, .int .i64 q], .int .i64 (N : Int), .int .i64 (i : Int), .int .i64 (N : Int), .bool true, u44, u45, .pointer (some ⟨g3, 4, none⟩), e1, e2, e3, e4, e5, e6, e7, e8, e9, u, u, u, u, u, u, u, u, u, u, u, u, u, u, u], defers := [] }
theorem vers_region {u : Value} (w1 w2 : World) (k r c q : Int) (g o n cp t kn x1 x2 x3 N i vc g3 : Nat) (xi : Int) (vo : Option Addr) (R T : Nat -> Int) (u44 u45 u46 u47 u48 u49 u50 u51 u52 u53 u54 u55 : Value)
  (hb2 : Below w1.heap.size w1 w2) (hO2 : Own w1.heap.size w2 vo i vc R) (hA2 : At w1 w2 g3 #[.int .u8 (kn : Int), .int .i64 (x1 : Int), .int .i64 (x2 : Int), .int .i64 (x3 : Int), .slice vo i vc, .slice none 0 0] 107)
  (P1 : ∀ v, Below w1.heap.size w1 v -> Calls Tryz.prog 279 #[.slice (some ⟨g, o, none⟩) n cp, .int .i64 (12 + 4 * (i : Int))] v fun e w' => e = .returned (.int .i64 xi) /\ Below v.heap.size v w')
  (hi : i < 16) (hT : zOf i R ++ [.int .i64 xi] = zOf (i + 1) T)
  (Q : Exit -> Act -> World -> Prop) (hQp : ∀ ch a v, Q (.panic ch) a v -> False) (hQ : ∀ g2 c2 gb v, Below w1.heap.size w1 v -> Own w1.heap.size v (some ⟨g2, 0, none⟩) (i + 1) c2 T -> At w1 v g3 #[.int .u8 (kn : Int), .int .i64 (x1 : Int), .int .i64 (x2 : Int), .int .i64 (x3 : Int), .slice (some ⟨g2, 0, none⟩) (i + 1) c2, .slice none 0 0] 107 -> Q .normal { tmps := #[.agg #[.int .i64 k, .int .i64 r, .int .i64 c, .int .i64 q], .slice (some ⟨g, o, none⟩) n cp, .pointer (some ⟨t, 0, none⟩), u, .pointer (some ⟨t + 1, 0, none⟩), .bool false, .pointer (some ⟨g3, 0, none⟩), .int .i64 (N : Int), .int .i64 (i : Int), .slice (some ⟨g, o, none⟩) n cp, .int .i64 (n : Int), .agg #[.int .i64 k, .int .i64 r, .int .i64 c, .int .i64 q], .int .i64 (n : Int), .bool false, .bool false, .slice (some ⟨g, o, none⟩) n cp, .pointer (some ⟨g, o, none⟩), .int .u8 84, .bool false, .bool false, .bool false, .slice (some ⟨g, o, none⟩) n cp, .pointer (some ⟨g, o + 1, none⟩), .int .u8 50, .bool false, .bool false, u, .slice (some ⟨g, o, none⟩) n cp, .pointer (some ⟨g, o + 2, none⟩), .int .u8 (kn : Int), .slice (some ⟨g, o, none⟩) n cp, .pointer (some ⟨g, o + 3, none⟩), .int .u8 (x1 : Int), .int .i64 (x1 : Int), .slice (some ⟨g, o, none⟩) n cp, .int .i64 (x2 : Int), .slice (some ⟨g, o, none⟩) n cp, .int .i64 (x3 : Int), .agg #[.int .u8 (kn : Int), .int .i64 (x1 : Int), .int .i64 (x2 : Int), .int .i64 (x3 : Int), .slice none 0 0, .slice none 0 0], .agg #[.int .i64 k, .int .i64 r, .int .i64 c, .int .i64 q], .int .i64 (N : Int), .int .i64 (i : Int), .int .i64 (N : Int), .bool true, u44, u45, .pointer (some ⟨g3, 4, none⟩), .slice vo i vc, .slice (some ⟨g, o, none⟩) n cp, .int .i64 (i : Int), .int .i64 (4 * (i : Int)), .int .i64 (12 + 4 * (i : Int)), .int .i64 xi, .slice (some ⟨gb, 0, none⟩) 1 1, .slice (some ⟨g2, 0, none⟩) (i + 1) c2, .pointer (some ⟨g3, 4, none⟩), u, u, u, u, u, u, u, u, u, u, u, u, u, u, u], defers := [] } v) :
  Code.wp Tryz.prog (Code.region 8 vops true) Q { tmps := #[.agg #[.int .i64 k, .int .i64 r, .int .i64 c, .int .i64 q], .slice (some ⟨g, o, none⟩) n cp, .pointer (some ⟨t, 0, none⟩), u, .pointer (some ⟨t + 1, 0, none⟩), .bool false, .pointer (some ⟨g3, 0, none⟩), .int .i64 (N : Int), .int .i64 (i : Int), .slice (some ⟨g, o, none⟩) n cp, .int .i64 (n : Int), .agg #[.int .i64 k, .int .i64 r, .int .i64 c, .int .i64 q], .int .i64 (n : Int), .bool false, .bool false, .slice (some ⟨g, o, none⟩) n cp, .pointer (some ⟨g, o, none⟩), .int .u8 84, .bool false, .bool false, .bool false, .slice (some ⟨g, o, none⟩) n cp, .pointer (some ⟨g, o + 1, none⟩), .int .u8 50, .bool false, .bool false, u, .slice (some ⟨g, o, none⟩) n cp, .pointer (some ⟨g, o + 2, none⟩), .int .u8 (kn : Int), .slice (some ⟨g, o, none⟩) n cp, .pointer (some ⟨g, o + 3, none⟩), .int .u8 (x1 : Int), .int .i64 (x1 : Int), .slice (some ⟨g, o, none⟩) n cp, .int .i64 (x2 : Int), .slice (some ⟨g, o, none⟩) n cp, .int .i64 (x3 : Int), .agg #[.int .u8 (kn : Int), .int .i64 (x1 : Int), .int .i64 (x2 : Int), .int .i64 (x3 : Int), .slice none 0 0, .slice none 0 0], .agg #[.int .i64 k, .int .i64 r, .int .i64 c, .int .i64 q], .int .i64 (N : Int), .int .i64 (i : Int), .int .i64 (N : Int), .bool true, u44, u45, u46, u47, u48, u49, u50, u51, u52, u53, u54, u55, u, u, u, u, u, u, u, u, u, u, u, u, u, u, u], defers := [] } w2 := by
 have HQ : Hid _ := hQ
 obtain ⟨S, HS⟩ : ∃ S : World -> Prop, Hid (∀ v, S v) := ⟨fun _ => True, fun _ => trivial⟩
 have HP1 : Hid _ := P1
 have HT : Hid (zOf i R ++ [.int .i64 xi] = zOf (i + 1) T) := hT
 have HB2 : Hid (Below w1.heap.size w1 w2.drew) := b_drew hb2
 have HO2 : Hid (Own w1.heap.size w2.drew vo i vc R) := hO2.below (bdw _ _)
 have HA2 : Hid (At w1 w2.drew g3 #[.int .u8 (kn : Int), .int .i64 (x1 : Int), .int .i64 (x2 : Int), .int .i64 (x3 : Int), .slice vo i vc, .slice none 0 0] 107) := hA2.drew
 have e1 : IntKind.i64.wrap (4 * (i : Int)) = 4 * (i : Int) := by rw [IntKind.wrap_i64]; omega
 have e2 : IntKind.i64.wrap (12 + 4 * (i : Int)) = 12 + 4 * (i : Int) := by rw [IntKind.wrap_i64]; omega
 obtain ⟨i0, hi0, hz0, hz1, hz2⟩ := info_parts info3
 clear hQ P1 hT hb2 hO2 hA2
 have V12 : Hid (∀ (v : World) (gb : Nat), Below w1.heap.size w1 v -> Own w1.heap.size v vo i vc R -> At w1 v g3 #[.int .u8 (kn : Int), .int .i64 (x1 : Int), .int .i64 (x2 : Int), .int .i64 (x3 : Int), .slice vo i vc, .slice none 0 0] 107 -> v.heap[gb]? = some (.cells #[.int .i64 xi] 3 (0, 0)) -> wpAnyH Tryz.prog .any vops Q S 3 #[true, true, true, true, true, true, true, true, false, false, false] (versregionFr k r c q g o n cp t u g3 N i kn x1 x2 x3 u44 u45 (.slice vo i vc) (.slice (some ⟨g, o, none⟩) n cp) (.int .i64 (i : Int)) (.int .i64 (4 * (i : Int))) (.int .i64 (12 + 4 * (i : Int))) (.int .i64 xi) (.slice (some ⟨gb, 0, none⟩) 1 1) u54 u55) v) := fun v gb hb ho ha hg => by
  dsimp only [versregionFr]
  have hnb := own_not ho ha (by decide)
  refine wpAnyH_ready (rs := [8]) (by kernel_rfl) (by simp) ?_
  refine AllReadyH.cons (o := { dst := some 54, op := .call { callee := Callee.builtin Builtin.append, args := #[.tmp 47, .tmp 53], argTypes := #[27, 27] }, type := 27, pos := "ref.go:92", after := #[{ on := 1, ground := .data }, { on := 7, ground := .data }, { on := 6, ground := .chain }], guard := none }) rfl (fun K hK => ?_) AllReadyH.nil
  refine step_append_lies _ (by rfl) (.tmp 47) (.tmp 53) 27 (by rfl) w1.heap.size 3 i0 (.int .i64 0) 1 8 Tryz.underlying27 hi0 hz0 hz1 hz2 (by rfl) (by decide) (.slice vo i vc) i (zOf i R) (by rfl) ho ⟨gb, 0, none⟩ 1 1 [.int .i64 xi] (by rfl) (by rfl) (World.news_of_block hg) (by simp [Value.oneCell']) (by decide) (by unfold maxLen; omega) (by omega) hb.size v.heap.size rfl ?_
  intro g2 c2 wz hz hgr _ _
  have hoz : Own w1.heap.size wz (some ⟨g2, 0, none⟩) (i + 1) c2 T := by unfold Own; rw [<- HT.out]; exact hz
  have haz : At w1 wz g3 #[.int .u8 (kn : Int), .int .i64 (x1 : Int), .int .i64 (x2 : Int), .int .i64 (x3 : Int), .slice vo i vc, .slice none 0 0] 107 := ha.grown hgr hnb
  have hbz : Below w1.heap.size w1 wz := hb.grown hgr hb.size (fun k hk => (World.ownsRow.lt ho k hk).1)
  clear hz hgr
  refine hK.out _ _ (HS.out _) (fun hHeld => ?_)
  show wpAnyH Tryz.prog .any vops Q S 2 #[true, true, true, true, true, true, true, true, true, false, false] (versregionFr k r c q g o n cp t u g3 N i kn x1 x2 x3 u44 u45 (.slice vo i vc) (.slice (some ⟨g, o, none⟩) n cp) (.int .i64 (i : Int)) (.int .i64 (4 * (i : Int))) (.int .i64 (12 + 4 * (i : Int))) (.int .i64 xi) (.slice (some ⟨gb, 0, none⟩) 1 1) (.slice (some ⟨g2, 0, none⟩) (i + 1) c2) u55) wz
  dsimp only [versregionFr]
  refine wpAnyH_take (i := 9) (oi := { dst := some 55, op := .fieldAddr 107 (.tmp 6) 4, type := 0, pos := "ref.go:92", after := #[{ on := 0, ground := .phase }, { on := 1, ground := .phase }, { on := 2, ground := .phase }, { on := 3, ground := .phase }, { on := 4, ground := .phase }, { on := 5, ground := .phase }, { on := 6, ground := .phase }, { on := 7, ground := .phase }, { on := 8, ground := .phase }], guard := none }) (v := .pointer (some ⟨g3, 4, none⟩)) rfl (by kernel_rfl) (by kernel_rfl) (by kernel_rfl) (fun _ _ _ h => (hQp _ _ _ h).elim) (Or.inl ⟨by kernel_rfl, ?_⟩) (HS.out _) ?_
  ·intro w' hSw
   go_simp <;> first | with_reducible rfl | assumption
  show wpAnyH Tryz.prog .any vops Q S 1 #[true, true, true, true, true, true, true, true, true, true, false] (versregionFr k r c q g o n cp t u g3 N i kn x1 x2 x3 u44 u45 (.slice vo i vc) (.slice (some ⟨g, o, none⟩) n cp) (.int .i64 (i : Int)) (.int .i64 (4 * (i : Int))) (.int .i64 (12 + 4 * (i : Int))) (.int .i64 xi) (.slice (some ⟨gb, 0, none⟩) 1 1) (.slice (some ⟨g2, 0, none⟩) (i + 1) c2) (.pointer (some ⟨g3, 4, none⟩))) wz
  dsimp only [versregionFr]
  have c4 := haz.cell (i := 4) rfl
  have cf := haz.free
  have hne : g2 ≠ g3 := fun e => own_not hoz haz (by decide) (by rw [e]; rfl)
  refine wpAnyH_ready (rs := [10]) (by kernel_rfl) (by simp) ?_
  refine AllReadyH.cons (o := { dst := none, op := .store 27 (.tmp 55) (.tmp 54), type := 0, pos := "ref.go:92", after := #[{ on := 9, ground := .data }, { on := 8, ground := .data }, { on := 8, ground := .chain }, { on := 0, ground := .phase }, { on := 1, ground := .phase }, { on := 2, ground := .phase }, { on := 3, ground := .phase }, { on := 4, ground := .phase }, { on := 5, ground := .phase }, { on := 6, ground := .phase }, { on := 7, ground := .phase }, { on := 8, ground := .phase }], guard := none }) rfl (fun K hK => ?_) AllReadyH.nil
  go_simp
  refine hK.out _ _ (HS.out _) (fun hHeld => ?_)
  refine wpAnyH_done (by kernel_rfl) ?_ _
  refine HQ.out g2 c2 gb _ (b_set hbz haz.1 _) ?_ ?_
  ·exact ownsRow_setCell_other hoz (by simp [Value.ownBlock, hne]) _
  ·exact haz.set 4 _
 have V02 : Hid (∀ (v : World) (gb : Nat), Below w1.heap.size w1 v -> Own w1.heap.size v vo i vc R -> At w1 v g3 #[.int .u8 (kn : Int), .int .i64 (x1 : Int), .int .i64 (x2 : Int), .int .i64 (x3 : Int), .slice vo i vc, .slice none 0 0] 107 -> v.heap[gb]? = some (.cells #[.int .i64 xi] 3 (0, 0)) -> wpAnyH Tryz.prog .any vops Q S 4 #[true, false, true, true, true, true, true, true, false, false, false] (versregionFr k r c q g o n cp t u g3 N i kn x1 x2 x3 u44 u45 u47 (.slice (some ⟨g, o, none⟩) n cp) (.int .i64 (i : Int)) (.int .i64 (4 * (i : Int))) (.int .i64 (12 + 4 * (i : Int))) (.int .i64 xi) (.slice (some ⟨gb, 0, none⟩) 1 1) u54 u55) v) := fun v gb hb ho ha hg => by
  dsimp only [versregionFr]
  refine wpAnyH_ready (rs := [1]) (by kernel_rfl) (by simp) ?_
  refine AllReadyH.cons (o := { dst := some 47, op := .load 27 (.tmp 46), type := 27, pos := "ref.go:92", after := #[{ on := 0, ground := .data }], guard := none }) rfl (fun K hK => ?_) AllReadyH.nil
  ·skip
   have c4 := ha.cell (i := 4) rfl
   go_simp
   refine hK.out _ _ (HS.out _) (fun hHeld => ?_)
   exact V12.out _ gb hb ho ha hg
 have V11 : Hid (∀ (v : World), Below w1.heap.size w1 v -> Own w1.heap.size v vo i vc R -> At w1 v g3 #[.int .u8 (kn : Int), .int .i64 (x1 : Int), .int .i64 (x2 : Int), .int .i64 (x3 : Int), .slice vo i vc, .slice none 0 0] 107 -> wpAnyH Tryz.prog .any vops Q S 4 #[true, true, true, true, true, true, true, false, false, false, false] (versregionFr k r c q g o n cp t u g3 N i kn x1 x2 x3 u44 u45 (.slice vo i vc) (.slice (some ⟨g, o, none⟩) n cp) (.int .i64 (i : Int)) (.int .i64 (4 * (i : Int))) (.int .i64 (12 + 4 * (i : Int))) (.int .i64 xi) u53 u54 u55) v) := fun v hb ho ha => by
  dsimp only [versregionFr]
  refine wpAnyH_ready (rs := [7]) (by kernel_rfl) (by simp) ?_
  refine AllReadyH.cons (o := { dst := some 53, op := .buildSlice 27 1 #[(0, .tmp 52)], type := 27, pos := "ref.go:92", after := #[{ on := 6, ground := .data }], guard := none }) rfl (fun K hK => ?_) AllReadyH.nil
  ·skip
   go_simp
   refine hK.out _ _ (HS.out _) (fun hHeld => ?_)
   exact V12.out _ _ (b_alloc hb _) (ho.below (bal _ _)) (ha.alloc _) (heap_alloc_new v _)
 have V01 : Hid (∀ (v : World), Below w1.heap.size w1 v -> Own w1.heap.size v vo i vc R -> At w1 v g3 #[.int .u8 (kn : Int), .int .i64 (x1 : Int), .int .i64 (x2 : Int), .int .i64 (x3 : Int), .slice vo i vc, .slice none 0 0] 107 -> wpAnyH Tryz.prog .any vops Q S 5 #[true, false, true, true, true, true, true, false, false, false, false] (versregionFr k r c q g o n cp t u g3 N i kn x1 x2 x3 u44 u45 u47 (.slice (some ⟨g, o, none⟩) n cp) (.int .i64 (i : Int)) (.int .i64 (4 * (i : Int))) (.int .i64 (12 + 4 * (i : Int))) (.int .i64 xi) u53 u54 u55) v) := fun v hb ho ha => by
  dsimp only [versregionFr]
  refine wpAnyH_ready (rs := [1, 7]) (by kernel_rfl) (by simp) ?_
  refine AllReadyH.cons (o := { dst := some 47, op := .load 27 (.tmp 46), type := 27, pos := "ref.go:92", after := #[{ on := 0, ground := .data }], guard := none }) rfl (fun K hK => ?_) ?_
  rotate_left
  refine AllReadyH.cons (o := { dst := some 53, op := .buildSlice 27 1 #[(0, .tmp 52)], type := 27, pos := "ref.go:92", after := #[{ on := 6, ground := .data }], guard := none }) rfl (fun K hK => ?_) AllReadyH.nil
  rotate_left
  ·skip
   have c4 := ha.cell (i := 4) rfl
   go_simp
   refine hK.out _ _ (HS.out _) (fun hHeld => ?_)
   exact V11.out _ hb ho ha
  ·skip
   go_simp
   refine hK.out _ _ (HS.out _) (fun hHeld => ?_)
   exact V02.out _ _ (b_alloc hb _) (ho.below (bal _ _)) (ha.alloc _) (heap_alloc_new v _)
 have V10 : Hid (∀ (v : World), Below w1.heap.size w1 v -> Own w1.heap.size v vo i vc R -> At w1 v g3 #[.int .u8 (kn : Int), .int .i64 (x1 : Int), .int .i64 (x2 : Int), .int .i64 (x3 : Int), .slice vo i vc, .slice none 0 0] 107 -> wpAnyH Tryz.prog .any vops Q S 5 #[true, true, true, true, true, true, false, false, false, false, false] (versregionFr k r c q g o n cp t u g3 N i kn x1 x2 x3 u44 u45 (.slice vo i vc) (.slice (some ⟨g, o, none⟩) n cp) (.int .i64 (i : Int)) (.int .i64 (4 * (i : Int))) (.int .i64 (12 + 4 * (i : Int))) u52 u53 u54 u55) v) := fun v hb ho ha => by
  dsimp only [versregionFr]
  refine wpAnyH_ready (rs := [6]) (by kernel_rfl) (by simp) ?_
  refine AllReadyH.cons (o := { dst := some 52, op := .call { callee := .value (.func 279), args := #[.tmp 48, .tmp 51], argTypes := #[36, 3] }, type := 3, pos := "ref.go:92", after := #[{ on := 2, ground := .data }, { on := 5, ground := .data }], guard := none }) rfl (fun K hK => ?_) AllReadyH.nil
  ·skip
   go_simp
   refine (HP1.out _ hb).mono ?_
   rintro e w' ⟨rfl, hw'⟩
   refine hK.out _ _ (HS.out _) (fun hHeld => ?_)
   exact V11.out _ (bth hb hw') (ho.below hw') (ha.below hw')
 have V00 : Hid (∀ (v : World), Below w1.heap.size w1 v -> Own w1.heap.size v vo i vc R -> At w1 v g3 #[.int .u8 (kn : Int), .int .i64 (x1 : Int), .int .i64 (x2 : Int), .int .i64 (x3 : Int), .slice vo i vc, .slice none 0 0] 107 -> wpAnyH Tryz.prog .any vops Q S 6 #[true, false, true, true, true, true, false, false, false, false, false] (versregionFr k r c q g o n cp t u g3 N i kn x1 x2 x3 u44 u45 u47 (.slice (some ⟨g, o, none⟩) n cp) (.int .i64 (i : Int)) (.int .i64 (4 * (i : Int))) (.int .i64 (12 + 4 * (i : Int))) u52 u53 u54 u55) v) := fun v hb ho ha => by
  dsimp only [versregionFr]
  refine wpAnyH_ready (rs := [1, 6]) (by kernel_rfl) (by simp) ?_
  refine AllReadyH.cons (o := { dst := some 47, op := .load 27 (.tmp 46), type := 27, pos := "ref.go:92", after := #[{ on := 0, ground := .data }], guard := none }) rfl (fun K hK => ?_) ?_
  rotate_left
  refine AllReadyH.cons (o := { dst := some 52, op := .call { callee := .value (.func 279), args := #[.tmp 48, .tmp 51], argTypes := #[36, 3] }, type := 3, pos := "ref.go:92", after := #[{ on := 2, ground := .data }, { on := 5, ground := .data }], guard := none }) rfl (fun K hK => ?_) AllReadyH.nil
  rotate_left
  ·skip
   have c4 := ha.cell (i := 4) rfl
   go_simp
   refine hK.out _ _ (HS.out _) (fun hHeld => ?_)
   exact V10.out _ hb ho ha
  ·skip
   go_simp
   refine (HP1.out _ hb).mono ?_
   rintro e w' ⟨rfl, hw'⟩
   refine hK.out _ _ (HS.out _) (fun hHeld => ?_)
   exact V01.out _ (bth hb hw') (ho.below hw') (ha.below hw')
 refine wp_region_held_drew (S := S) (by kernel_rfl) (HS.out _) (fun hHeld => ?_)
 rw [show vops.size = 11 from by kernel_rfl, show Array.replicate 11 false = #[false, false, false, false, false, false, false, false, false, false, false] from by kernel_rfl]
 refine wpAnyH_take (i := 0) (oi := { dst := some 46, op := .fieldAddr 107 (.tmp 6) 4, type := 0, pos := "ref.go:92", after := #[], guard := none }) (v := .pointer (some ⟨g3, 4, none⟩)) rfl (by kernel_rfl) (by kernel_rfl) (by kernel_rfl) (fun _ _ _ h => (hQp _ _ _ h).elim) (Or.inl ⟨by kernel_rfl, ?_⟩) (HS.out _) ?_
 ·intro w' hSw
  go_simp <;> first | with_reducible rfl | assumption
 show wpAnyH Tryz.prog .any vops Q S 10 #[true, false, false, false, false, false, false, false, false, false, false] (versregionFr k r c q g o n cp t u g3 N i kn x1 x2 x3 u44 u45 u47 u48 u49 u50 u51 u52 u53 u54 u55) w2.drew
 dsimp only [versregionFr]
 refine wpAnyH_take (i := 2) (oi := { dst := some 48, op := .move (.tmp 1), type := 36, pos := "ref.go:92", after := #[], guard := none }) (v := .slice (some ⟨g, o, none⟩) n cp) rfl (by kernel_rfl) (by kernel_rfl) (by kernel_rfl) (fun _ _ _ h => (hQp _ _ _ h).elim) (Or.inl ⟨by kernel_rfl, ?_⟩) (HS.out _) ?_
 ·intro w' hSw
  go_simp <;> first | with_reducible rfl | assumption
 refine wpAnyH_take (i := 3) (oi := { dst := some 49, op := .move (.tmp 8), type := 3, pos := "ref.go:92", after := #[], guard := none }) (v := .int .i64 (i : Int)) rfl (by kernel_rfl) (by kernel_rfl) (by kernel_rfl) (fun _ _ _ h => (hQp _ _ _ h).elim) (Or.inl ⟨by kernel_rfl, ?_⟩) (HS.out _) ?_
 ·intro w' hSw
  go_simp <;> first | with_reducible rfl | assumption
 refine wpAnyH_take (i := 4) (oi := { dst := some 50, op := .binOp BinOp.mul 3 (.const (.int .i64 4)) (.tmp 49) 3, type := 3, pos := "ref.go:92", after := #[{ on := 3, ground := .data }], guard := none }) (v := .int .i64 (4 * (i : Int))) rfl (by kernel_rfl) (by kernel_rfl) (by kernel_rfl) (fun _ _ _ h => (hQp _ _ _ h).elim) (Or.inl ⟨by kernel_rfl, ?_⟩) (HS.out _) ?_
 ·intro w' hSw
  go_simp <;> first | with_reducible rfl | assumption
 refine wpAnyH_take (i := 5) (oi := { dst := some 51, op := .binOp BinOp.add 3 (.const (.int .i64 12)) (.tmp 50) 3, type := 3, pos := "ref.go:92", after := #[{ on := 4, ground := .data }], guard := none }) (v := .int .i64 (12 + 4 * (i : Int))) rfl (by kernel_rfl) (by kernel_rfl) (by kernel_rfl) (fun _ _ _ h => (hQp _ _ _ h).elim) (Or.inl ⟨by kernel_rfl, ?_⟩) (HS.out _) ?_
 ·intro w' hSw
  go_simp <;> first | with_reducible rfl | assumption
 show wpAnyH Tryz.prog .any vops Q S 6 #[true, false, true, true, true, true, false, false, false, false, false] (versregionFr k r c q g o n cp t u g3 N i kn x1 x2 x3 u44 u45 u47 (.slice (some ⟨g, o, none⟩) n cp) (.int .i64 (i : Int)) (.int .i64 (4 * (i : Int))) (.int .i64 (12 + 4 * (i : Int))) u52 u53 u54 u55) w2.drew
 dsimp only [versregionFr]
 exact V00.out _ HB2.out HO2.out HA2.out
def dops : Array Oper := #[{ dst := some 56, op := .fieldAddr 107 (.tmp 6) 5, type := 0, pos := "ref.go:94", after := #[], guard := none }, { dst := some 57, op := .load 36 (.tmp 56), type := 36, pos := "ref.go:94", after := #[{ on := 0, ground := .data }], guard := none }, { dst := some 58, op := .move (.tmp 1), type := 36, pos := "ref.go:94", after := #[], guard := none }, { dst := some 59, op := .move (.tmp 7), type := 3, pos := "ref.go:94", after := #[], guard := none }, { dst := some 60, op := .binOp BinOp.mul 3 (.const (.int .i64 4)) (.tmp 59) 3, type := 3, pos := "ref.go:94", after := #[{ on := 3, ground := .data }], guard := none }, { dst := some 61, op := .binOp BinOp.add 3 (.const (.int .i64 12)) (.tmp 60) 3, type := 3, pos := "ref.go:94", after := #[{ on := 4, ground := .data }], guard := none }, { dst := some 62, op := .slice 36 (.tmp 58) (some (.tmp 61)) none none, type := 36, pos := "ref.go:94", after := #[{ on := 2, ground := .data }, { on := 5, ground := .data }], guard := none }, { dst := some 63, op := .call { callee := Callee.builtin Builtin.append, args := #[.tmp 57, .tmp 62], argTypes := #[36, 36] }, type := 36, pos := "ref.go:94", after := #[{ on := 1, ground := .data }, { on := 6, ground := .data }], guard := none }, { dst := some 64, op := .fieldAddr 107 (.tmp 6) 5, type := 0, pos := "ref.go:94", after := #[{ on := 0, ground := .phase }, { on := 1, ground := .phase }, { on := 2, ground := .phase }, { on := 3, ground := .phase }, { on := 4, ground := .phase }, { on := 5, ground := .phase }, { on := 6, ground := .phase }, { on := 7, ground := .phase }], guard := none }, { dst := none, op := .store 36 (.tmp 64) (.tmp 63), type := 0, pos := "ref.go:94", after := #[{ on := 8, ground := .data }, { on := 7, ground := .data }, { on := 7, ground := .chain }, { on := 0, ground := .phase }, { on := 1, ground := .phase }, { on := 2, ground := .phase }, { on := 3, ground := .phase }, { on := 4, ground := .phase }, { on := 5, ground := .phase }, { on := 6, ground := .phase }, { on := 7, ground := .phase }], guard := none }]
abbrev dataregionFr (k : Int) (r : Int) (c : Int) (q : Int) (g : Nat) (o : Nat) (n : Nat) (cp : Nat) (t : Nat) (u : Value) (g3 : Nat) (N : Nat) (kn : Nat) (x1 : Nat) (x2 : Nat) (x3 : Nat) (u44 : Value) (u45 : Value) (u46 : Value) (u47 : Value) (u48 : Value) (u49 : Value) (u50 : Value) (u51 : Value) (u52 : Value) (u53 : Value) (u54 : Value) (u55 : Value) (e1 e2 e3 e4 e5 e6 e7 e8 : Value) : Act := { tmps := #[.agg #[.int .i64 k, .int .i64 r, .int .i64 c, .int .i64 q], .slice (some ⟨g, o, none⟩) n cp, .pointer (some ⟨t, 0, none⟩), u, .pointer (some ⟨t + 1, 0, none⟩), .bool false, .pointer (some ⟨g3, 0, none⟩), .int .i64 (N : Int), .int .i64 (N : Int), .slice (some ⟨g, o, none⟩) n cp, .int .i64 (n : Int), .agg #[.int .i64 k, .int .i64 r, .int .i64 c, .int .i64 q], .int .i64 (n : Int), .bool false, .bool false, .slice (some ⟨g, o, none⟩) n cp, .pointer (some ⟨g, o, none⟩), .int .u8 84, .bool false, .bool false, .bool false, .slice (some ⟨g, o, none⟩) n cp, .pointer (some ⟨g, o + 1, none⟩), .int .u8 50, .bool false, .bool false, u, .slice (some ⟨g, o, none⟩) n cp, .pointer (some ⟨g, o + 2, none⟩), .int .u8 (kn : Int), .slice (some ⟨g, o, none⟩) n cp, .pointer (some ⟨g, o + 3, none⟩), .int .u8 (x1 : Int), .int .i64 (x1 : Int), .slice (some ⟨g, o, none⟩) n cp, .int .i64 (x2 : Int), .slice (some ⟨g, o, none⟩) n cp, .int .i64 (x3 : Int), .agg #[.int .u8 (kn : Int), .int .i64 (x1 : Int), .int .i64 (x2 : Int), .int .i64 (x3 : Int), .slice none 0 0, .slice none 0 0], .agg #[.int .i64 k, .int .i64 r, .int .i64 c, .int .i64 q], .int .i64 (N : Int), .int .i64 (N : Int), .int .i64 (N : Int), .bool false, u44, u45, u46, u47, u48, u49, u50, u51, u52, u53, u54, u55, .pointer (some ⟨g3, 5, none⟩), e1, e2, e3, e4, e5, e6, e7, e8, u, u, u, u, u, u], defers := [] }
theorem data_region {u : Value} (w1 w2 : World) (k r c q : Int) (g o n cp t kn x1 x2 x3 N m d vc g3 : Nat) (vo : Option Addr) (R : Nat -> Int) (D : Nat -> UInt8) (u44 u45 u46 u47 u48 u49 u50 u51 u52 u53 u54 u55 : Value)
  (hb2 : Below w1.heap.size w1 w2) (hO2 : Own w1.heap.size w2 vo N vc R) (hA2 : At w1 w2 g3 #[.int .u8 (kn : Int), .int .i64 (x1 : Int), .int .i64 (x2 : Int), .int .i64 (x3 : Int), .slice vo N vc, .slice none 0 0] 107)
  (hD : ∀ j, j < d -> w1.cell? ⟨g, o + m + j, none⟩ = some (.int .u8 (((D j).toNat : Nat) : Int)))
  (hN : N <= 16) (hm : m = 12 + 4 * N) (hn : n = m + d) (hd : 8 <= d) (hd2 : d <= 64) (hcp : n <= cp)
  (Q : Exit -> Act -> World -> Prop) (hQp : ∀ ch a v, Q (.panic ch) a v -> False) (hQ : ∀ g2 c2 v, Below w1.heap.size w1 v -> Own w1.heap.size v vo N vc R -> OwU w1.heap.size v (some ⟨g2, 0, none⟩) d c2 D -> At w1 v g3 #[.int .u8 (kn : Int), .int .i64 (x1 : Int), .int .i64 (x2 : Int), .int .i64 (x3 : Int), .slice vo N vc, .slice (some ⟨g2, 0, none⟩) d c2] 107 -> Q .normal { tmps := #[.agg #[.int .i64 k, .int .i64 r, .int .i64 c, .int .i64 q], .slice (some ⟨g, o, none⟩) n cp, .pointer (some ⟨t, 0, none⟩), u, .pointer (some ⟨t + 1, 0, none⟩), .bool false, .pointer (some ⟨g3, 0, none⟩), .int .i64 (N : Int), .int .i64 (N : Int), .slice (some ⟨g, o, none⟩) n cp, .int .i64 (n : Int), .agg #[.int .i64 k, .int .i64 r, .int .i64 c, .int .i64 q], .int .i64 (n : Int), .bool false, .bool false, .slice (some ⟨g, o, none⟩) n cp, .pointer (some ⟨g, o, none⟩), .int .u8 84, .bool false, .bool false, .bool false, .slice (some ⟨g, o, none⟩) n cp, .pointer (some ⟨g, o + 1, none⟩), .int .u8 50, .bool false, .bool false, u, .slice (some ⟨g, o, none⟩) n cp, .pointer (some ⟨g, o + 2, none⟩), .int .u8 (kn : Int), .slice (some ⟨g, o, none⟩) n cp, .pointer (some ⟨g, o + 3, none⟩), .int .u8 (x1 : Int), .int .i64 (x1 : Int), .slice (some ⟨g, o, none⟩) n cp, .int .i64 (x2 : Int), .slice (some ⟨g, o, none⟩) n cp, .int .i64 (x3 : Int), .agg #[.int .u8 (kn : Int), .int .i64 (x1 : Int), .int .i64 (x2 : Int), .int .i64 (x3 : Int), .slice none 0 0, .slice none 0 0], .agg #[.int .i64 k, .int .i64 r, .int .i64 c, .int .i64 q], .int .i64 (N : Int), .int .i64 (N : Int), .int .i64 (N : Int), .bool false, u44, u45, u46, u47, u48, u49, u50, u51, u52, u53, u54, u55, .pointer (some ⟨g3, 5, none⟩), .slice none 0 0, .slice (some ⟨g, o, none⟩) n cp, .int .i64 (N : Int), .int .i64 (4 * (N : Int)), .int .i64 (m : Int), .slice (some ⟨g, o + m, none⟩) d (cp - m), .slice (some ⟨g2, 0, none⟩) d c2, .pointer (some ⟨g3, 5, none⟩), u, u, u, u, u, u], defers := [] } v) :
  Code.wp Tryz.prog (Code.region 9 dops true) Q { tmps := #[.agg #[.int .i64 k, .int .i64 r, .int .i64 c, .int .i64 q], .slice (some ⟨g, o, none⟩) n cp, .pointer (some ⟨t, 0, none⟩), u, .pointer (some ⟨t + 1, 0, none⟩), .bool false, .pointer (some ⟨g3, 0, none⟩), .int .i64 (N : Int), .int .i64 (N : Int), .slice (some ⟨g, o, none⟩) n cp, .int .i64 (n : Int), .agg #[.int .i64 k, .int .i64 r, .int .i64 c, .int .i64 q], .int .i64 (n : Int), .bool false, .bool false, .slice (some ⟨g, o, none⟩) n cp, .pointer (some ⟨g, o, none⟩), .int .u8 84, .bool false, .bool false, .bool false, .slice (some ⟨g, o, none⟩) n cp, .pointer (some ⟨g, o + 1, none⟩), .int .u8 50, .bool false, .bool false, u, .slice (some ⟨g, o, none⟩) n cp, .pointer (some ⟨g, o + 2, none⟩), .int .u8 (kn : Int), .slice (some ⟨g, o, none⟩) n cp, .pointer (some ⟨g, o + 3, none⟩), .int .u8 (x1 : Int), .int .i64 (x1 : Int), .slice (some ⟨g, o, none⟩) n cp, .int .i64 (x2 : Int), .slice (some ⟨g, o, none⟩) n cp, .int .i64 (x3 : Int), .agg #[.int .u8 (kn : Int), .int .i64 (x1 : Int), .int .i64 (x2 : Int), .int .i64 (x3 : Int), .slice none 0 0, .slice none 0 0], .agg #[.int .i64 k, .int .i64 r, .int .i64 c, .int .i64 q], .int .i64 (N : Int), .int .i64 (N : Int), .int .i64 (N : Int), .bool false, u44, u45, u46, u47, u48, u49, u50, u51, u52, u53, u54, u55, u, u, u, u, u, u, u, u, u, u, u, u, u, u, u], defers := [] } w2 := by
 have HQ : Hid _ := hQ
 obtain ⟨S, HS⟩ : ∃ S : World -> Prop, Hid (∀ v, S v) := ⟨fun _ => True, fun _ => trivial⟩
 have HDD : Hid (∀ j, j < d -> w1.cell? ⟨g, o + m + j, none⟩ = some (.int .u8 (((D j).toNat : Nat) : Int))) := hD
 have hb : Below w1.heap.size w1 w2.drew := b_drew hb2
 have ho : Own w1.heap.size w2.drew vo N vc R := hO2.below (bdw _ _)
 have ha : At w1 w2.drew g3 #[.int .u8 (kn : Int), .int .i64 (x1 : Int), .int .i64 (x2 : Int), .int .i64 (x3 : Int), .slice vo N vc, .slice none 0 0] 107 := hA2.drew
 have e1 : IntKind.i64.wrap (4 * (N : Int)) = 4 * (N : Int) := by rw [IntKind.wrap_i64]; omega
 have e2 : IntKind.i64.wrap (12 + 4 * (N : Int)) = (m : Int) := by rw [IntKind.wrap_i64]; omega
 have e3 : (m : Int) <= (n : Int) := by omega
 have e4 : ¬ cp = m := by omega
 have e5 : (0 : Int) <= (m : Int) := by omega
 have e6 : n - m = d := by omega
 have HNM : Hid (n = m + d /\ n <= cp /\ m <= 76) := ⟨hn, hcp, by omega⟩
 obtain ⟨i0, hi0, hz0, hz1, hz2⟩ := info_parts info5
 clear hQ hD hb2 hO2 hA2 hm hn
 refine wp_region_held_drew (S := S) (by kernel_rfl) (HS.out _) (fun hHeld => ?_)
 rw [show dops.size = 10 from by kernel_rfl, show Array.replicate 10 false = #[false, false, false, false, false, false, false, false, false, false] from by kernel_rfl]
 refine wpAnyH_take (i := 0) (oi := { dst := some 56, op := .fieldAddr 107 (.tmp 6) 5, type := 0, pos := "ref.go:94", after := #[], guard := none }) (v := .pointer (some ⟨g3, 5, none⟩)) rfl (by kernel_rfl) (by kernel_rfl) (by kernel_rfl) (fun _ _ _ h => (hQp _ _ _ h).elim) (Or.inl ⟨by kernel_rfl, ?_⟩) (HS.out _) ?_
 ·intro w' hSw
  go_simp <;> first | with_reducible rfl | assumption
 show wpAnyH Tryz.prog .any dops Q S 9 #[true, false, false, false, false, false, false, false, false, false] (dataregionFr k r c q g o n cp t u g3 N kn x1 x2 x3 u44 u45 u46 u47 u48 u49 u50 u51 u52 u53 u54 u55 u u u u u u u u) w2.drew
 dsimp only [dataregionFr]
 refine wpAnyH_take (i := 2) (oi := { dst := some 58, op := .move (.tmp 1), type := 36, pos := "ref.go:94", after := #[], guard := none }) (v := .slice (some ⟨g, o, none⟩) n cp) rfl (by kernel_rfl) (by kernel_rfl) (by kernel_rfl) (fun _ _ _ h => (hQp _ _ _ h).elim) (Or.inl ⟨by kernel_rfl, ?_⟩) (HS.out _) ?_
 ·intro w' hSw
  go_simp <;> first | with_reducible rfl | assumption
 refine wpAnyH_take (i := 3) (oi := { dst := some 59, op := .move (.tmp 7), type := 3, pos := "ref.go:94", after := #[], guard := none }) (v := .int .i64 (N : Int)) rfl (by kernel_rfl) (by kernel_rfl) (by kernel_rfl) (fun _ _ _ h => (hQp _ _ _ h).elim) (Or.inl ⟨by kernel_rfl, ?_⟩) (HS.out _) ?_
 ·intro w' hSw
  go_simp <;> first | with_reducible rfl | assumption
 refine wpAnyH_take (i := 4) (oi := { dst := some 60, op := .binOp BinOp.mul 3 (.const (.int .i64 4)) (.tmp 59) 3, type := 3, pos := "ref.go:94", after := #[{ on := 3, ground := .data }], guard := none }) (v := .int .i64 (4 * (N : Int))) rfl (by kernel_rfl) (by kernel_rfl) (by kernel_rfl) (fun _ _ _ h => (hQp _ _ _ h).elim) (Or.inl ⟨by kernel_rfl, ?_⟩) (HS.out _) ?_
 ·intro w' hSw
  go_simp <;> first | with_reducible rfl | assumption
 refine wpAnyH_take (i := 5) (oi := { dst := some 61, op := .binOp BinOp.add 3 (.const (.int .i64 12)) (.tmp 60) 3, type := 3, pos := "ref.go:94", after := #[{ on := 4, ground := .data }], guard := none }) (v := .int .i64 (m : Int)) rfl (by kernel_rfl) (by kernel_rfl) (by kernel_rfl) (fun _ _ _ h => (hQp _ _ _ h).elim) (Or.inl ⟨by kernel_rfl, ?_⟩) (HS.out _) ?_
 ·intro w' hSw
  go_simp <;> first | with_reducible rfl | assumption
 show wpAnyH Tryz.prog .any dops Q S 5 #[true, false, true, true, true, true, false, false, false, false] (dataregionFr k r c q g o n cp t u g3 N kn x1 x2 x3 u44 u45 u46 u47 u48 u49 u50 u51 u52 u53 u54 u55 u (.slice (some ⟨g, o, none⟩) n cp) (.int .i64 (N : Int)) (.int .i64 (4 * (N : Int))) (.int .i64 (m : Int)) u u u) w2.drew
 dsimp only [dataregionFr]
 refine wpAnyH_take (i := 6) (oi := { dst := some 62, op := .slice 36 (.tmp 58) (some (.tmp 61)) none none, type := 36, pos := "ref.go:94", after := #[{ on := 2, ground := .data }, { on := 5, ground := .data }], guard := none }) (v := .slice (some ⟨g, o + m, none⟩) d (cp - m)) rfl (by kernel_rfl) (by kernel_rfl) (by kernel_rfl) (fun _ _ _ h => (hQp _ _ _ h).elim) (Or.inl ⟨by kernel_rfl, ?_⟩) (HS.out _) ?_
 ·intro w' hSw
  go_simp <;> first | with_reducible rfl | assumption
 show wpAnyH Tryz.prog .any dops Q S 4 #[true, false, true, true, true, true, true, false, false, false] (dataregionFr k r c q g o n cp t u g3 N kn x1 x2 x3 u44 u45 u46 u47 u48 u49 u50 u51 u52 u53 u54 u55 u (.slice (some ⟨g, o, none⟩) n cp) (.int .i64 (N : Int)) (.int .i64 (4 * (N : Int))) (.int .i64 (m : Int)) (.slice (some ⟨g, o + m, none⟩) d (cp - m)) u u) w2.drew
 dsimp only [dataregionFr]
 have c5 := ha.cell (i := 5) rfl
 refine wpAnyH_ready (rs := [1]) (by kernel_rfl) (by simp) ?_
 refine AllReadyH.cons (o := { dst := some 57, op := .load 36 (.tmp 56), type := 36, pos := "ref.go:94", after := #[{ on := 0, ground := .data }], guard := none }) rfl (fun K hK => ?_) AllReadyH.nil
 go_simp
 refine hK.out _ _ (HS.out _) (fun hHeld => ?_)
 show wpAnyH Tryz.prog .any dops Q S 3 #[true, true, true, true, true, true, true, false, false, false] (dataregionFr k r c q g o n cp t u g3 N kn x1 x2 x3 u44 u45 u46 u47 u48 u49 u50 u51 u52 u53 u54 u55 (.slice none 0 0) (.slice (some ⟨g, o, none⟩) n cp) (.int .i64 (N : Int)) (.int .i64 (4 * (N : Int))) (.int .i64 (m : Int)) (.slice (some ⟨g, o + m, none⟩) d (cp - m)) u u) w2.drew
 dsimp only [dataregionFr]
 clear hK K
 refine wpAnyH_ready (rs := [7]) (by kernel_rfl) (by simp) ?_
 refine AllReadyH.cons (o := { dst := some 63, op := .call { callee := Callee.builtin Builtin.append, args := #[.tmp 57, .tmp 62], argTypes := #[36, 36] }, type := 36, pos := "ref.go:94", after := #[{ on := 1, ground := .data }, { on := 6, ground := .data }], guard := none }) rfl (fun K hK => ?_) AllReadyH.nil
 refine step_append_lies _ (by rfl) (.tmp 57) (.tmp 62) 36 (by rfl) w2.drew.heap.size 5 i0 (.int .u8 0) 1 1 Tryz.underlying36 hi0 hz0 hz1 hz2 (by rfl) (by decide) (.slice none 0 0) 0 [] (by rfl) (World.ownsRow_nil _ _ _ _) ⟨g, o + m, none⟩ d (cp - m) (byF d D) (by rfl) (by rw [byF_length, Nat.mul_one]) (fun j u hu => by have hj : j < d := list_lt (byF_length d D) hu; rw [byF_get _ _ _ hj] at hu; rw [Addr.add_lit, held (HDD.out j hj) hb]; exact hu) (byF_one _ _) (by omega) (by unfold maxLen; omega) (by omega) (Nat.le_refl _) w2.drew.heap.size rfl ?_
 intro g2 c2 wz hz hgr _ _
 rw [Nat.zero_add, List.nil_append] at hz
 have bz : Below w2.drew.heap.size w2.drew wz := (Below.refl _ _).grown hgr (Nat.le_refl _) (fun k e => by cases e)
 have hdz : OwU w2.drew.heap.size wz (some ⟨g2, 0, none⟩) d c2 D := hz
 have haz : At w1 wz g3 #[.int .u8 (kn : Int), .int .i64 (x1 : Int), .int .i64 (x2 : Int), .int .i64 (x3 : Int), .slice vo N vc, .slice none 0 0] 107 := ha.below bz
 have hoz : Own w1.heap.size wz vo N vc R := ho.below bz
 have hbz : Below w1.heap.size w1 wz := bth hb bz
 have c5 := haz.cell (i := 5) rfl
 have cf := haz.free
 have hlt := (Array.getElem?_eq_some_iff.1 ha.2).1
 have hge := (hdz.at_ (by omega))
 obtain ⟨g9, e9, hg9, _⟩ := hge
 cases e9
 clear hz hgr bz
 refine hK.out _ _ (HS.out _) (fun hHeld => ?_)
 clear hK K
 rw [Nat.zero_add]
 show wpAnyH Tryz.prog .any dops Q S 2 #[true, true, true, true, true, true, true, true, false, false] (dataregionFr k r c q g o n cp t u g3 N kn x1 x2 x3 u44 u45 u46 u47 u48 u49 u50 u51 u52 u53 u54 u55 (.slice none 0 0) (.slice (some ⟨g, o, none⟩) n cp) (.int .i64 (N : Int)) (.int .i64 (4 * (N : Int))) (.int .i64 (m : Int)) (.slice (some ⟨g, o + m, none⟩) d (cp - m)) (.slice (some ⟨g2, 0, none⟩) d c2) u) wz
 dsimp only [dataregionFr]
 refine wpAnyH_take (i := 8) (oi := { dst := some 64, op := .fieldAddr 107 (.tmp 6) 5, type := 0, pos := "ref.go:94", after := #[{ on := 0, ground := .phase }, { on := 1, ground := .phase }, { on := 2, ground := .phase }, { on := 3, ground := .phase }, { on := 4, ground := .phase }, { on := 5, ground := .phase }, { on := 6, ground := .phase }, { on := 7, ground := .phase }], guard := none }) (v := .pointer (some ⟨g3, 5, none⟩)) rfl (by kernel_rfl) (by kernel_rfl) (by kernel_rfl) (fun _ _ _ h => (hQp _ _ _ h).elim) (Or.inl ⟨by kernel_rfl, ?_⟩) (HS.out _) ?_
 ·intro w' hSw
  go_simp <;> first | with_reducible rfl | assumption
 show wpAnyH Tryz.prog .any dops Q S 1 #[true, true, true, true, true, true, true, true, true, false] (dataregionFr k r c q g o n cp t u g3 N kn x1 x2 x3 u44 u45 u46 u47 u48 u49 u50 u51 u52 u53 u54 u55 (.slice none 0 0) (.slice (some ⟨g, o, none⟩) n cp) (.int .i64 (N : Int)) (.int .i64 (4 * (N : Int))) (.int .i64 (m : Int)) (.slice (some ⟨g, o + m, none⟩) d (cp - m)) (.slice (some ⟨g2, 0, none⟩) d c2) (.pointer (some ⟨g3, 5, none⟩))) wz
 dsimp only [dataregionFr]
 refine wpAnyH_ready (rs := [9]) (by kernel_rfl) (by simp) ?_
 refine AllReadyH.cons (o := { dst := none, op := .store 36 (.tmp 64) (.tmp 63), type := 0, pos := "ref.go:94", after := #[{ on := 8, ground := .data }, { on := 7, ground := .data }, { on := 7, ground := .chain }, { on := 0, ground := .phase }, { on := 1, ground := .phase }, { on := 2, ground := .phase }, { on := 3, ground := .phase }, { on := 4, ground := .phase }, { on := 5, ground := .phase }, { on := 6, ground := .phase }, { on := 7, ground := .phase }], guard := none }) rfl (fun K hK => ?_) AllReadyH.nil
 go_simp
 refine hK.out _ _ (HS.out _) (fun hHeld => ?_)
 refine wpAnyH_done (by kernel_rfl) ?_ _
 refine HQ.out g2 c2 _ (b_set hbz haz.1 _) ?_ ?_ ?_
 ·exact ownsRow_setCell_other hoz (own_not hoz haz (by decide)) _
 ·exact OwU.mono (ownsRow_setCell_other hdz (by simp [Value.ownBlock]; omega) _) hb.size
 ·exact haz.set 5 _
end Go.Proofs.YtemlojjkokooeaaGreat
