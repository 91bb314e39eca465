import Derived.Test.YtemlojjkokooeaaGreatTk
import Derived.Test.YtemlojjkokooeaaGreatTj34
set_option maxHeartbeats 8000000
set_option maxRecDepth 100000
namespace Go.Proofs.YtemlojjkokooeaaGreat
open Go.RowKit
theorem only_grow {v v1 w' : World} {Y : Nat -> Prop} {row : Option Nat} (hb : Below v.heap.size v v1) (hg : v1.grownBy w' row) (hY : ∀ x, row = some x -> Y x) : Only Y v w' :=
 ⟨hg.os.trans hb.os, hg.tape.trans hb.tape, hg.output.trans hb.output, Nat.le_trans hb.size hg.size, fun i hi hy => (hg.block i (Nat.lt_of_lt_of_le hi hb.size) (fun e => hy (hY i e.symm))).trans (hb.block i hi)⟩
theorem info48 : (Tryz.prog.info? 56).map (fun i => (i.zero, i.size, i.bytes)) = some (some (.agg #[.int .i64 0, .int .i64 0, .int .i64 0, .slice none 0 0]), 4, 48) := by kernel_rfl
def pops : Array Oper := #[{ dst := some 31, op := .load 43 (.tmp 5), type := 43, pos := "stand.go:112", after := #[], guard := none }, { dst := some 32, op := .move (.tmp 0), type := 3, pos := "stand.go:112", after := #[], guard := none }, { dst := some 33, op := .load 3 (.tmp 6), type := 3, pos := "stand.go:112", after := #[], guard := none }, { dst := some 34, op := .move (.tmp 11), type := 3, pos := "stand.go:112", after := #[], guard := none }, { dst := some 35, op := .load 99 (.tmp 4), type := 99, pos := "stand.go:112", after := #[], guard := none }, { dst := some 36, op := .move (.tmp 0), type := 3, pos := "stand.go:112", after := #[], guard := none }, { dst := some 37, op := .load 27 (.tmp 7), type := 27, pos := "stand.go:112", after := #[], guard := none }, { dst := some 38, op := .load 33 (.tmp 3), type := 33, pos := "stand.go:112", after := #[], guard := none }, { dst := some 39, op := .move (.tmp 0), type := 3, pos := "stand.go:112", after := #[], guard := none }, { dst := some 40, op := .indexAddr 33 (.tmp 38) (.tmp 39), type := 0, pos := "stand.go:112", after := #[{ on := 7, ground := .data }, { on := 8, ground := .data }], guard := none }, { dst := some 41, op := .load 36 (.tmp 40), type := 36, pos := "stand.go:112", after := #[{ on := 9, ground := .data }], guard := none }, { dst := some 42, op := .call { callee := .value (.func 151), args := #[.tmp 35, .tmp 36, .tmp 37, .tmp 41], argTypes := #[99, 3, 27, 36] }, type := 36, pos := "stand.go:112", after := #[{ on := 4, ground := .data }, { on := 5, ground := .data }, { on := 6, ground := .data }, { on := 10, ground := .data }], guard := none }, { dst := some 43, op := .build 56 #[(0, .tmp 32), (1, .tmp 33), (2, .tmp 34), (3, .tmp 42)], type := 56, pos := "stand.go:112", after := #[{ on := 1, ground := .data }, { on := 2, ground := .data }, { on := 3, ground := .data }, { on := 11, ground := .data }], guard := none }, { dst := some 44, op := .buildSlice 43 1 #[(0, .tmp 43)], type := 43, pos := "stand.go:112", after := #[{ on := 12, ground := .data }], guard := none }, { dst := some 45, op := .call { callee := Callee.builtin Builtin.append, args := #[.tmp 31, .tmp 44], argTypes := #[43, 43] }, type := 43, pos := "stand.go:112", after := #[{ on := 0, ground := .data }, { on := 13, ground := .data }, { on := 11, ground := .chain }], guard := none }, { dst := none, op := .store 43 (.tmp 5) (.tmp 45), type := 0, pos := "stand.go:112", after := #[{ on := 14, ground := .data }, { on := 14, ground := .chain }, { on := 0, ground := .phase }, { on := 1, ground := .phase }, { on := 2, ground := .phase }, { on := 3, ground := .phase }, { on := 4, ground := .phase }, { on := 5, ground := .phase }, { on := 6, ground := .phase }, { on := 7, ground := .phase }, { on := 8, ground := .phase }, { on := 9, ground := .phase }, { on := 10, ground := .phase }, { on := 11, ground := .phase }, { on := 12, ground := .phase }, { on := 13, ground := .phase }, { on := 14, ground := .phase }], guard := none }]
abbrev putregionFr (d : Nat) (x1 : Value) (x2 : Value) (gc : Nat) (gi : Nat) (gp : Nat) (gn : Nat) (gv : Nat) (x8 : Value) (x9 : Value) (x10 : Value) (o : Nat) (x12 : Value) (x13 : Value) (x14 : Value) (x15 : Value) (x16 : Value) (x17 : Value) (x18 : Value) (x19 : Value) (x20 : Value) (x21 : Value) (x22 : Value) (x23 : Value) (x24 : Value) (x25 : Value) (x26 : Value) (x27 : Value) (x28 : Value) (x29 : Value) (x30 : Value) (e1 e2 e3 e4 e5 e6 e7 e8 e9 e10 e11 e12 e13 e14 : Value) : Act := { tmps := #[.int .i64 (d : Int), x1, x2, .pointer (some ⟨gc, 0, none⟩), .pointer (some ⟨gi, 0, none⟩), .pointer (some ⟨gp, 0, none⟩), .pointer (some ⟨gn, 0, none⟩), .pointer (some ⟨gv, 0, none⟩), x8, x9, x10, .int .i64 (o : Int), x12, x13, x14, x15, x16, x17, x18, x19, x20, x21, x22, x23, x24, x25, x26, x27, x28, x29, x30, e1, .int .i64 (d : Int), e2, e3, e4, e5, e6, e7, e8, e9, e10, e11, e12, e13, e14], defers := [] }
theorem put_region (wz w1 : World) (k r c q : Int) (ro : Option Addr) (rn rc : Nat) (kd : UInt8) (d o gc gi gp gn gv cb0 cof cn cc vn vc tn tu n m ca : Nat) (nu : Int) (vo to ao : Option Addr) (G : Nat -> UInt8) (xs : List Value) (Y : Nat -> Prop) (x1 x2 x8 x9 x10 x12 x13 x14 x15 x16 x17 x18 x19 x20 x21 x22 x23 x24 x25 x26 x27 x28 x29 x30 x31 x32 x33 x34 x35 x36 x37 x38 x39 x40 x41 x42 x43 x44 x45 : Value)
  (hS : ∀ v, Only Y w1 v -> (v.cell? ⟨gi, 0, none⟩ = some (.int .i64 k) /\ v.cell? ⟨gi, 1, none⟩ = some (.int .i64 r) /\ v.cell? ⟨gi, 2, none⟩ = some (.int .i64 c) /\ v.cell? ⟨gi, 3, none⟩ = some (.int .i64 q) /\ v.cell? ⟨gi, 4, none⟩ = some (.slice ro rn rc) /\ v.cell? ⟨gi, 5, none⟩ = some (.int .u8 ((kd.toNat : Nat) : Int)) /\ v.cell? ⟨gn, 0, none⟩ = some (.int .i64 nu) /\ v.cell? ⟨gv, 0, none⟩ = some (.slice vo vn vc) /\ v.cell? ⟨gc, 0, none⟩ = some (.slice (some ⟨cb0, cof, none⟩) cn cc) /\ v.cell? ⟨cb0, cof + d, none⟩ = some (.slice to tn tu)))
  (hA : At wz w1 gp #[.slice ao m ca] 43) (hO : w1.ownsRow wz.heap.size 56 4 (.slice ao m ca) m xs) (hY : ∀ g, Y g ↔ (g = gp \/ ∃ a : Addr, ao = some a /\ g = a.block)) (hm : m <= 1000) (hwz : wz.heap.size <= w1.heap.size)
  (hd : (0 : Int) <= (d : Int)) (hd2 : (d : Int) < (cn : Int))
  (P1 : ∀ v, Below w1.heap.size w1 v -> Calls Tryz.prog 151 #[.agg #[.int .i64 k, .int .i64 r, .int .i64 c, .int .i64 q, .slice ro rn rc, .int .u8 ((kd.toNat : Nat) : Int)], .int .i64 (d : Int), .slice vo vn vc, .slice to tn tu] v fun e w' => ∃ bo cb, e = .returned (.slice bo n cb) /\ OwU v.heap.size w' bo n cb G /\ Below v.heap.size v w')
  (Q : Exit -> Act -> World -> Prop) (hQp : ∀ ch a v, Q (.panic ch) a v -> False) (hQ : ∀ v' Y' bo cb g g5 cap5, Cap wz v' gp 43 56 4 (m + 1) (xs ++ [.int .i64 (d : Int), .int .i64 nu, .int .i64 (o : Int), .slice bo n cb]) Y' -> Only Y w1 v' -> (∀ x, Y' x -> Y x \/ w1.heap.size <= x) -> OwU w1.heap.size v' bo n cb G -> Q .normal { tmps := #[.int .i64 (d : Int), x1, x2, .pointer (some ⟨gc, 0, none⟩), .pointer (some ⟨gi, 0, none⟩), .pointer (some ⟨gp, 0, none⟩), .pointer (some ⟨gn, 0, none⟩), .pointer (some ⟨gv, 0, none⟩), x8, x9, x10, .int .i64 (o : Int), x12, x13, x14, x15, x16, x17, x18, x19, x20, x21, x22, x23, x24, x25, x26, x27, x28, x29, x30, .slice ao m ca, .int .i64 (d : Int), .int .i64 nu, .int .i64 (o : Int), .agg #[.int .i64 k, .int .i64 r, .int .i64 c, .int .i64 q, .slice ro rn rc, .int .u8 ((kd.toNat : Nat) : Int)], .int .i64 (d : Int), .slice vo vn vc, .slice (some ⟨cb0, cof, none⟩) cn cc, .int .i64 (d : Int), .pointer (some ⟨cb0, cof + d, none⟩), .slice to tn tu, .slice bo n cb, .agg #[.int .i64 (d : Int), .int .i64 nu, .int .i64 (o : Int), .slice bo n cb], .slice (some ⟨g, 0, none⟩) 1 1, .slice (some ⟨g5, 0, none⟩) (m + 1) cap5], defers := [] } v') :
  Code.wp Tryz.prog (Code.region 3 pops true) Q { tmps := #[.int .i64 (d : Int), x1, x2, .pointer (some ⟨gc, 0, none⟩), .pointer (some ⟨gi, 0, none⟩), .pointer (some ⟨gp, 0, none⟩), .pointer (some ⟨gn, 0, none⟩), .pointer (some ⟨gv, 0, none⟩), x8, x9, x10, .int .i64 (o : Int), x12, x13, x14, x15, x16, x17, x18, x19, x20, x21, x22, x23, x24, x25, x26, x27, x28, x29, x30, x31, x32, x33, x34, x35, x36, x37, x38, x39, x40, x41, x42, x43, x44, x45], defers := [] } w1 := by
 have HQ : Hid _ := hQ
 obtain ⟨S, HS1, HS⟩ : ∃ S : World -> Prop, Hid (∀ v, S v -> (v.cell? ⟨gi, 0, none⟩ = some (.int .i64 k) /\ v.cell? ⟨gi, 1, none⟩ = some (.int .i64 r) /\ v.cell? ⟨gi, 2, none⟩ = some (.int .i64 c) /\ v.cell? ⟨gi, 3, none⟩ = some (.int .i64 q) /\ v.cell? ⟨gi, 4, none⟩ = some (.slice ro rn rc) /\ v.cell? ⟨gi, 5, none⟩ = some (.int .u8 ((kd.toNat : Nat) : Int)) /\ v.cell? ⟨gn, 0, none⟩ = some (.int .i64 nu) /\ v.cell? ⟨gv, 0, none⟩ = some (.slice vo vn vc) /\ v.cell? ⟨gc, 0, none⟩ = some (.slice (some ⟨cb0, cof, none⟩) cn cc) /\ v.cell? ⟨cb0, cof + d, none⟩ = some (.slice to tn tu))) /\ Hid (∀ v, Only Y w1 v -> S v) := ⟨fun v => v.cell? ⟨gi, 0, none⟩ = some (.int .i64 k) /\ v.cell? ⟨gi, 1, none⟩ = some (.int .i64 r) /\ v.cell? ⟨gi, 2, none⟩ = some (.int .i64 c) /\ v.cell? ⟨gi, 3, none⟩ = some (.int .i64 q) /\ v.cell? ⟨gi, 4, none⟩ = some (.slice ro rn rc) /\ v.cell? ⟨gi, 5, none⟩ = some (.int .u8 ((kd.toNat : Nat) : Int)) /\ v.cell? ⟨gn, 0, none⟩ = some (.int .i64 nu) /\ v.cell? ⟨gv, 0, none⟩ = some (.slice vo vn vc) /\ v.cell? ⟨gc, 0, none⟩ = some (.slice (some ⟨cb0, cof, none⟩) cn cc) /\ v.cell? ⟨cb0, cof + d, none⟩ = some (.slice to tn tu), fun v h => h, hS⟩
 have HSB : Hid (∀ v, Below w1.heap.size w1 v -> S v) := fun v hv => HS.out v (.of_below hv)
 have HP1 : Hid _ := P1
 have HA : Hid (At wz w1 gp #[.slice ao m ca] 43) := hA
 have HO : Hid (w1.ownsRow wz.heap.size 56 4 (.slice ao m ca) m xs) := hO
 have HY : Hid (∀ g, Y g ↔ (g = gp \/ ∃ a : Addr, ao = some a /\ g = a.block)) := hY
 obtain ⟨j0, hj, hj0, hj1, hj2⟩ := info_parts info48
 clear hS hQ P1 hA hO hY
 have H12 : Hid (∀ (v : World) (bo : Option Addr) (cb : Nat) (g : Nat), Below w1.heap.size w1 v -> OwU w1.heap.size v bo n cb G -> At w1 v g #[.int .i64 (d : Int), .int .i64 nu, .int .i64 (o : Int), .slice bo n cb] 56 -> wpAnyH Tryz.prog .any pops Q S 2 #[true, true, true, true, true, true, true, true, true, true, true, true, true, true, false, false] (putregionFr d x1 x2 gc gi gp gn gv x8 x9 x10 o x12 x13 x14 x15 x16 x17 x18 x19 x20 x21 x22 x23 x24 x25 x26 x27 x28 x29 x30 (.slice ao m ca) (.int .i64 nu) (.int .i64 (o : Int)) (.agg #[.int .i64 k, .int .i64 r, .int .i64 c, .int .i64 q, .slice ro rn rc, .int .u8 ((kd.toNat : Nat) : Int)]) (.int .i64 (d : Int)) (.slice vo vn vc) (.slice (some ⟨cb0, cof, none⟩) cn cc) (.int .i64 (d : Int)) (.pointer (some ⟨cb0, cof + d, none⟩)) (.slice to tn tu) (.slice bo n cb) (.agg #[.int .i64 (d : Int), .int .i64 nu, .int .i64 (o : Int), .slice bo n cb]) (.slice (some ⟨g, 0, none⟩) 1 1) x45) v) := fun v bo cb g hb hg f3 => by
  dsimp only [putregionFr]
  refine wpAnyH_ready (rs := [14]) (by kernel_rfl) (by simp) ?_
  refine AllReadyH.cons (o := { dst := some 45, op := .call { callee := Callee.builtin Builtin.append, args := #[.tmp 31, .tmp 44], argTypes := #[43, 43] }, type := 43, pos := "stand.go:112", after := #[{ on := 0, ground := .data }, { on := 13, ground := .data }, { on := 11, ground := .chain }], guard := none }) rfl (fun K hK => ?_) AllReadyH.nil
  refine Go.step_append_lies _ (by rfl) (.tmp 31) (.tmp 44) 43 (by rfl) wz.heap.size 56 j0 (.agg #[.int .i64 0, .int .i64 0, .int .i64 0, .slice none 0 0]) 4 48 Tryz.underlying43 hj hj0 hj1 hj2 (by rfl) (by decide) (.slice ao m ca) m xs (by rfl) (owns_below HO.out hb) ⟨g, 0, none⟩ 1 1 [.int .i64 (d : Int), .int .i64 nu, .int .i64 (o : Int), .slice bo n cb] (by rfl) (by rfl) (World.news_of_block f3.2) (by simp [Value.oneCell']) (by decide) (by unfold maxLen; omega) (by omega) (by have := hb.size; omega) v.heap.size rfl ?_
  intro g5 cap5 w5 hown5 hgrow5 hgg5 _
  have hcv : Cap wz v gp 43 56 4 m xs Y := ⟨ao, ca, HA.out.below hb, owns_below HO.out hb, HY.out⟩
  have hall := cap_grow (by decide) (HA.out.below hb) (owns_below HO.out hb) HY.out (Below.refl _ _) hgrow5 hown5 hgg5
  have hOv := hall.2.1
  have hOw : Only Y w1 (w5.setCell ⟨gp, 0, none⟩ (.slice (some ⟨g5, 0, none⟩) (m + 1) cap5)) := (Only.of_below hb).trans hOv
  have hO5 : Only Y w1 w5 := only_grow hb hgrow5 (fun x hx => (HY.out x).2 (.inr (by cases ao with | none => cases hx | some a => cases hx; exact ⟨a, rfl, rfl⟩)))
  have hbl := hgrow5.block gp (by have := HA.out.lt; have := hb.size; omega) (fun e1 => by
   cases ao with
   | none => cases e1
   | some a =>
    cases e1
    obtain ⟨_, _, cur, hc⟩ := owns_at HO.out rfl
    rw [HA.out.2] at hc
    cases hc)
  have hAt5 : At wz w5 gp #[.slice ao m ca] 43 := ⟨HA.out.1, hbl.trans (HA.out.below hb).2⟩
  have t0 := hAt5.cell (i := 0) rfl
  have tf := hAt5.free
  have hgf := owu_stay hg hcv (by decide) (by decide) hOv
  refine hK.out _ _ (HS.out _ hO5) (fun hHeld => ?_)
  clear hK K
  show wpAnyH Tryz.prog .any pops Q S 1 #[true, true, true, true, true, true, true, true, true, true, true, true, true, true, true, false] (putregionFr d x1 x2 gc gi gp gn gv x8 x9 x10 o x12 x13 x14 x15 x16 x17 x18 x19 x20 x21 x22 x23 x24 x25 x26 x27 x28 x29 x30 (.slice ao m ca) (.int .i64 nu) (.int .i64 (o : Int)) (.agg #[.int .i64 k, .int .i64 r, .int .i64 c, .int .i64 q, .slice ro rn rc, .int .u8 ((kd.toNat : Nat) : Int)]) (.int .i64 (d : Int)) (.slice vo vn vc) (.slice (some ⟨cb0, cof, none⟩) cn cc) (.int .i64 (d : Int)) (.pointer (some ⟨cb0, cof + d, none⟩)) (.slice to tn tu) (.slice bo n cb) (.agg #[.int .i64 (d : Int), .int .i64 nu, .int .i64 (o : Int), .slice bo n cb]) (.slice (some ⟨g, 0, none⟩) 1 1) (.slice (some ⟨g5, 0, none⟩) (m + 1) cap5)) w5
  dsimp only [putregionFr]
  refine wpAnyH_ready (rs := [15]) (by kernel_rfl) (by simp) ?_
  refine AllReadyH.cons (o := { dst := none, op := .store 43 (.tmp 5) (.tmp 45), type := 0, pos := "stand.go:112", after := #[{ on := 14, ground := .data }, { on := 14, ground := .chain }, { on := 0, ground := .phase }, { on := 1, ground := .phase }, { on := 2, ground := .phase }, { on := 3, ground := .phase }, { on := 4, ground := .phase }, { on := 5, ground := .phase }, { on := 6, ground := .phase }, { on := 7, ground := .phase }, { on := 8, ground := .phase }, { on := 9, ground := .phase }, { on := 10, ground := .phase }, { on := 11, ground := .phase }, { on := 12, ground := .phase }, { on := 13, ground := .phase }, { on := 14, ground := .phase }], guard := none }) rfl (fun K hK => ?_) AllReadyH.nil
  go_simp
  refine hK.out _ _ (HS.out _ hOw) (fun hHeld => ?_)
  refine wpAnyH_done (by kernel_rfl) ?_ _
  exact HQ.out _ _ bo cb g g5 cap5 hall.1 hOw (fun x hx => by rcases hall.2.2 x hx with a | a; exact .inl a; exact .inr (Nat.le_trans hb.size a)) hgf
 have H02 : Hid (∀ (v : World) (bo : Option Addr) (cb : Nat) (g : Nat), Below w1.heap.size w1 v -> OwU w1.heap.size v bo n cb G -> At w1 v g #[.int .i64 (d : Int), .int .i64 nu, .int .i64 (o : Int), .slice bo n cb] 56 -> wpAnyH Tryz.prog .any pops Q S 3 #[false, true, true, true, true, true, true, true, true, true, true, true, true, true, false, false] (putregionFr d x1 x2 gc gi gp gn gv x8 x9 x10 o x12 x13 x14 x15 x16 x17 x18 x19 x20 x21 x22 x23 x24 x25 x26 x27 x28 x29 x30 x31 (.int .i64 nu) (.int .i64 (o : Int)) (.agg #[.int .i64 k, .int .i64 r, .int .i64 c, .int .i64 q, .slice ro rn rc, .int .u8 ((kd.toNat : Nat) : Int)]) (.int .i64 (d : Int)) (.slice vo vn vc) (.slice (some ⟨cb0, cof, none⟩) cn cc) (.int .i64 (d : Int)) (.pointer (some ⟨cb0, cof + d, none⟩)) (.slice to tn tu) (.slice bo n cb) (.agg #[.int .i64 (d : Int), .int .i64 nu, .int .i64 (o : Int), .slice bo n cb]) (.slice (some ⟨g, 0, none⟩) 1 1) x45) v) := fun v bo cb g hb hg f3 => by
  dsimp only [putregionFr]
  refine wpAnyH_ready (rs := [0]) (by kernel_rfl) (by simp) ?_
  refine AllReadyH.cons (o := { dst := some 31, op := .load 43 (.tmp 5), type := 43, pos := "stand.go:112", after := #[], guard := none }) rfl (fun K hK => ?_) AllReadyH.nil
  have l0 := (HA.out.below hb).cell (i := 0) rfl
  go_simp
  refine hK.out _ _ (HSB.out _ hb) (fun hHeld => ?_)
  exact H12.out _ bo cb g hb hg f3
 have H11 : Hid (∀ (v : World) (bo : Option Addr) (cb : Nat), Below w1.heap.size w1 v -> OwU w1.heap.size v bo n cb G -> wpAnyH Tryz.prog .any pops Q S 3 #[true, true, true, true, true, true, true, true, true, true, true, true, true, false, false, false] (putregionFr d x1 x2 gc gi gp gn gv x8 x9 x10 o x12 x13 x14 x15 x16 x17 x18 x19 x20 x21 x22 x23 x24 x25 x26 x27 x28 x29 x30 (.slice ao m ca) (.int .i64 nu) (.int .i64 (o : Int)) (.agg #[.int .i64 k, .int .i64 r, .int .i64 c, .int .i64 q, .slice ro rn rc, .int .u8 ((kd.toNat : Nat) : Int)]) (.int .i64 (d : Int)) (.slice vo vn vc) (.slice (some ⟨cb0, cof, none⟩) cn cc) (.int .i64 (d : Int)) (.pointer (some ⟨cb0, cof + d, none⟩)) (.slice to tn tu) (.slice bo n cb) (.agg #[.int .i64 (d : Int), .int .i64 nu, .int .i64 (o : Int), .slice bo n cb]) x44 x45) v) := fun v bo cb hb hg => by
  dsimp only [putregionFr]
  refine wpAnyH_ready (rs := [13]) (by kernel_rfl) (by simp) ?_
  refine AllReadyH.cons (o := { dst := some 44, op := .buildSlice 43 1 #[(0, .tmp 43)], type := 43, pos := "stand.go:112", after := #[{ on := 12, ground := .data }], guard := none }) rfl (fun K hK => ?_) AllReadyH.nil
  go_simp
  refine hK.out _ _ (HSB.out _ (b_alloc hb _)) (fun hHeld => ?_)
  exact H12.out _ bo cb _ (b_alloc hb _) (hg.below (bal _ _)) (at_new hb _ _)
 have H01 : Hid (∀ (v : World) (bo : Option Addr) (cb : Nat), Below w1.heap.size w1 v -> OwU w1.heap.size v bo n cb G -> wpAnyH Tryz.prog .any pops Q S 4 #[false, true, true, true, true, true, true, true, true, true, true, true, true, false, false, false] (putregionFr d x1 x2 gc gi gp gn gv x8 x9 x10 o x12 x13 x14 x15 x16 x17 x18 x19 x20 x21 x22 x23 x24 x25 x26 x27 x28 x29 x30 x31 (.int .i64 nu) (.int .i64 (o : Int)) (.agg #[.int .i64 k, .int .i64 r, .int .i64 c, .int .i64 q, .slice ro rn rc, .int .u8 ((kd.toNat : Nat) : Int)]) (.int .i64 (d : Int)) (.slice vo vn vc) (.slice (some ⟨cb0, cof, none⟩) cn cc) (.int .i64 (d : Int)) (.pointer (some ⟨cb0, cof + d, none⟩)) (.slice to tn tu) (.slice bo n cb) (.agg #[.int .i64 (d : Int), .int .i64 nu, .int .i64 (o : Int), .slice bo n cb]) x44 x45) v) := fun v bo cb hb hg => by
  dsimp only [putregionFr]
  refine wpAnyH_ready (rs := [0, 13]) (by kernel_rfl) (by simp) ?_
  refine AllReadyH.cons (o := { dst := some 31, op := .load 43 (.tmp 5), type := 43, pos := "stand.go:112", after := #[], guard := none }) rfl (fun K hK => ?_) ?_
  rotate_left
  refine AllReadyH.cons (o := { dst := some 44, op := .buildSlice 43 1 #[(0, .tmp 43)], type := 43, pos := "stand.go:112", after := #[{ on := 12, ground := .data }], guard := none }) rfl (fun K hK => ?_) AllReadyH.nil
  rotate_left
  ·skip
   have l0 := (HA.out.below hb).cell (i := 0) rfl
   go_simp
   refine hK.out _ _ (HSB.out _ hb) (fun hHeld => ?_)
   exact H11.out _ bo cb hb hg
  ·skip
   go_simp
   refine hK.out _ _ (HSB.out _ (b_alloc hb _)) (fun hHeld => ?_)
   exact H02.out _ bo cb _ (b_alloc hb _) (hg.below (bal _ _)) (at_new hb _ _)
 have H10 : Hid (∀ (v : World), Below w1.heap.size w1 v -> wpAnyH Tryz.prog .any pops Q S 5 #[true, true, true, true, true, true, true, true, true, true, true, false, false, false, false, false] (putregionFr d x1 x2 gc gi gp gn gv x8 x9 x10 o x12 x13 x14 x15 x16 x17 x18 x19 x20 x21 x22 x23 x24 x25 x26 x27 x28 x29 x30 (.slice ao m ca) (.int .i64 nu) (.int .i64 (o : Int)) (.agg #[.int .i64 k, .int .i64 r, .int .i64 c, .int .i64 q, .slice ro rn rc, .int .u8 ((kd.toNat : Nat) : Int)]) (.int .i64 (d : Int)) (.slice vo vn vc) (.slice (some ⟨cb0, cof, none⟩) cn cc) (.int .i64 (d : Int)) (.pointer (some ⟨cb0, cof + d, none⟩)) (.slice to tn tu) x42 x43 x44 x45) v) := fun v hb => by
  dsimp only [putregionFr]
  refine wpAnyH_ready (rs := [11]) (by kernel_rfl) (by simp) ?_
  refine AllReadyH.cons (o := { dst := some 42, op := .call { callee := .value (.func 151), args := #[.tmp 35, .tmp 36, .tmp 37, .tmp 41], argTypes := #[99, 3, 27, 36] }, type := 36, pos := "stand.go:112", after := #[{ on := 4, ground := .data }, { on := 5, ground := .data }, { on := 6, ground := .data }, { on := 10, ground := .data }], guard := none }) rfl (fun K hK => ?_) AllReadyH.nil
  go_simp
  refine (HP1.out _ hb).mono ?_
  rintro e w' ⟨bo, cb, rfl, hg, hw'⟩
  have hb' := bth hb hw'
  have hg' := hg.mono hb.size
  refine hK.out _ _ (HSB.out _ hb') (fun hHeld => ?_)
  show wpAnyH Tryz.prog .any pops Q S 4 #[true, true, true, true, true, true, true, true, true, true, true, true, false, false, false, false] (putregionFr d x1 x2 gc gi gp gn gv x8 x9 x10 o x12 x13 x14 x15 x16 x17 x18 x19 x20 x21 x22 x23 x24 x25 x26 x27 x28 x29 x30 (.slice ao m ca) (.int .i64 nu) (.int .i64 (o : Int)) (.agg #[.int .i64 k, .int .i64 r, .int .i64 c, .int .i64 q, .slice ro rn rc, .int .u8 ((kd.toNat : Nat) : Int)]) (.int .i64 (d : Int)) (.slice vo vn vc) (.slice (some ⟨cb0, cof, none⟩) cn cc) (.int .i64 (d : Int)) (.pointer (some ⟨cb0, cof + d, none⟩)) (.slice to tn tu) (.slice bo n cb) x43 x44 x45) w'
  dsimp only [putregionFr]
  refine tkq hQp HS1 12 { dst := some 43, op := .build 56 #[(0, .tmp 32), (1, .tmp 33), (2, .tmp 34), (3, .tmp 42)], type := 56, pos := "stand.go:112", after := #[{ on := 1, ground := .data }, { on := 2, ground := .data }, { on := 3, ground := .data }, { on := 11, ground := .data }], guard := none } (.agg #[.int .i64 (d : Int), .int .i64 nu, .int .i64 (o : Int), .slice bo n cb]) (HSB.out _ hb') ?_
  show wpAnyH Tryz.prog .any pops Q S 3 #[true, true, true, true, true, true, true, true, true, true, true, true, true, false, false, false] (putregionFr d x1 x2 gc gi gp gn gv x8 x9 x10 o x12 x13 x14 x15 x16 x17 x18 x19 x20 x21 x22 x23 x24 x25 x26 x27 x28 x29 x30 (.slice ao m ca) (.int .i64 nu) (.int .i64 (o : Int)) (.agg #[.int .i64 k, .int .i64 r, .int .i64 c, .int .i64 q, .slice ro rn rc, .int .u8 ((kd.toNat : Nat) : Int)]) (.int .i64 (d : Int)) (.slice vo vn vc) (.slice (some ⟨cb0, cof, none⟩) cn cc) (.int .i64 (d : Int)) (.pointer (some ⟨cb0, cof + d, none⟩)) (.slice to tn tu) (.slice bo n cb) (.agg #[.int .i64 (d : Int), .int .i64 nu, .int .i64 (o : Int), .slice bo n cb]) x44 x45) w'
  dsimp only [putregionFr]
  exact H11.out _ bo cb hb' hg'
 have H00 : Hid (∀ (v : World), Below w1.heap.size w1 v -> wpAnyH Tryz.prog .any pops Q S 6 #[false, true, true, true, true, true, true, true, true, true, true, false, false, false, false, false] (putregionFr d x1 x2 gc gi gp gn gv x8 x9 x10 o x12 x13 x14 x15 x16 x17 x18 x19 x20 x21 x22 x23 x24 x25 x26 x27 x28 x29 x30 x31 (.int .i64 nu) (.int .i64 (o : Int)) (.agg #[.int .i64 k, .int .i64 r, .int .i64 c, .int .i64 q, .slice ro rn rc, .int .u8 ((kd.toNat : Nat) : Int)]) (.int .i64 (d : Int)) (.slice vo vn vc) (.slice (some ⟨cb0, cof, none⟩) cn cc) (.int .i64 (d : Int)) (.pointer (some ⟨cb0, cof + d, none⟩)) (.slice to tn tu) x42 x43 x44 x45) v) := fun v hb => by
  dsimp only [putregionFr]
  refine wpAnyH_ready (rs := [0, 11]) (by kernel_rfl) (by simp) ?_
  refine AllReadyH.cons (o := { dst := some 31, op := .load 43 (.tmp 5), type := 43, pos := "stand.go:112", after := #[], guard := none }) rfl (fun K hK => ?_) ?_
  rotate_left
  refine AllReadyH.cons (o := { dst := some 42, op := .call { callee := .value (.func 151), args := #[.tmp 35, .tmp 36, .tmp 37, .tmp 41], argTypes := #[99, 3, 27, 36] }, type := 36, pos := "stand.go:112", after := #[{ on := 4, ground := .data }, { on := 5, ground := .data }, { on := 6, ground := .data }, { on := 10, ground := .data }], guard := none }) rfl (fun K hK => ?_) AllReadyH.nil
  rotate_left
  ·skip
   have l0 := (HA.out.below hb).cell (i := 0) rfl
   go_simp
   refine hK.out _ _ (HSB.out _ hb) (fun hHeld => ?_)
   exact H10.out _ hb
  ·skip
   go_simp
   refine (HP1.out _ hb).mono ?_
   rintro e w' ⟨bo, cb, rfl, hg, hw'⟩
   have hb' := bth hb hw'
   have hg' := hg.mono hb.size
   refine hK.out _ _ (HSB.out _ hb') (fun hHeld => ?_)
   show wpAnyH Tryz.prog .any pops Q S 5 #[false, true, true, true, true, true, true, true, true, true, true, true, false, false, false, false] (putregionFr d x1 x2 gc gi gp gn gv x8 x9 x10 o x12 x13 x14 x15 x16 x17 x18 x19 x20 x21 x22 x23 x24 x25 x26 x27 x28 x29 x30 x31 (.int .i64 nu) (.int .i64 (o : Int)) (.agg #[.int .i64 k, .int .i64 r, .int .i64 c, .int .i64 q, .slice ro rn rc, .int .u8 ((kd.toNat : Nat) : Int)]) (.int .i64 (d : Int)) (.slice vo vn vc) (.slice (some ⟨cb0, cof, none⟩) cn cc) (.int .i64 (d : Int)) (.pointer (some ⟨cb0, cof + d, none⟩)) (.slice to tn tu) (.slice bo n cb) x43 x44 x45) w'
   dsimp only [putregionFr]
   refine tkq hQp HS1 12 { dst := some 43, op := .build 56 #[(0, .tmp 32), (1, .tmp 33), (2, .tmp 34), (3, .tmp 42)], type := 56, pos := "stand.go:112", after := #[{ on := 1, ground := .data }, { on := 2, ground := .data }, { on := 3, ground := .data }, { on := 11, ground := .data }], guard := none } (.agg #[.int .i64 (d : Int), .int .i64 nu, .int .i64 (o : Int), .slice bo n cb]) (HSB.out _ hb') ?_
   show wpAnyH Tryz.prog .any pops Q S 4 #[false, true, true, true, true, true, true, true, true, true, true, true, true, false, false, false] (putregionFr d x1 x2 gc gi gp gn gv x8 x9 x10 o x12 x13 x14 x15 x16 x17 x18 x19 x20 x21 x22 x23 x24 x25 x26 x27 x28 x29 x30 x31 (.int .i64 nu) (.int .i64 (o : Int)) (.agg #[.int .i64 k, .int .i64 r, .int .i64 c, .int .i64 q, .slice ro rn rc, .int .u8 ((kd.toNat : Nat) : Int)]) (.int .i64 (d : Int)) (.slice vo vn vc) (.slice (some ⟨cb0, cof, none⟩) cn cc) (.int .i64 (d : Int)) (.pointer (some ⟨cb0, cof + d, none⟩)) (.slice to tn tu) (.slice bo n cb) (.agg #[.int .i64 (d : Int), .int .i64 nu, .int .i64 (o : Int), .slice bo n cb]) x44 x45) w'
   dsimp only [putregionFr]
   exact H01.out _ bo cb hb' hg'
 refine wp_region_held_drew (S := S) (by kernel_rfl) (HSB.out _ (bdw _ _)) (fun hHeld => ?_)
 have hb : Below w1.heap.size w1 w1.drew := bdw _ _
 rw [show pops.size = 16 from by kernel_rfl, show Array.replicate 16 false = #[false, false, false, false, false, false, false, false, false, false, false, false, false, false, false, false] from by kernel_rfl]
 refine tkq hQp HS1 1 { dst := some 32, op := .move (.tmp 0), type := 3, pos := "stand.go:112", after := #[], guard := none } (.int .i64 (d : Int)) (HSB.out _ hb) ?_
 show wpAnyH Tryz.prog .any pops Q S 15 #[false, true, false, false, false, false, false, false, false, false, false, false, false, false, false, false] (putregionFr d x1 x2 gc gi gp gn gv x8 x9 x10 o x12 x13 x14 x15 x16 x17 x18 x19 x20 x21 x22 x23 x24 x25 x26 x27 x28 x29 x30 x31 x33 x34 x35 x36 x37 x38 x39 x40 x41 x42 x43 x44 x45) w1.drew
 dsimp only [putregionFr]
 refine tkq hQp HS1 2 { dst := some 33, op := .load 3 (.tmp 6), type := 3, pos := "stand.go:112", after := #[], guard := none } (.int .i64 nu) (HSB.out _ hb) ?_
 refine tkq hQp HS1 3 { dst := some 34, op := .move (.tmp 11), type := 3, pos := "stand.go:112", after := #[], guard := none } (.int .i64 (o : Int)) (HSB.out _ hb) ?_
 refine tkq hQp HS1 4 { dst := some 35, op := .load 99 (.tmp 4), type := 99, pos := "stand.go:112", after := #[], guard := none } (.agg #[.int .i64 k, .int .i64 r, .int .i64 c, .int .i64 q, .slice ro rn rc, .int .u8 ((kd.toNat : Nat) : Int)]) (HSB.out _ hb) ?_
 refine tkq hQp HS1 5 { dst := some 36, op := .move (.tmp 0), type := 3, pos := "stand.go:112", after := #[], guard := none } (.int .i64 (d : Int)) (HSB.out _ hb) ?_
 show wpAnyH Tryz.prog .any pops Q S 11 #[false, true, true, true, true, true, false, false, false, false, false, false, false, false, false, false] (putregionFr d x1 x2 gc gi gp gn gv x8 x9 x10 o x12 x13 x14 x15 x16 x17 x18 x19 x20 x21 x22 x23 x24 x25 x26 x27 x28 x29 x30 x31 (.int .i64 nu) (.int .i64 (o : Int)) (.agg #[.int .i64 k, .int .i64 r, .int .i64 c, .int .i64 q, .slice ro rn rc, .int .u8 ((kd.toNat : Nat) : Int)]) (.int .i64 (d : Int)) x37 x38 x39 x40 x41 x42 x43 x44 x45) w1.drew
 dsimp only [putregionFr]
 refine tkq hQp HS1 6 { dst := some 37, op := .load 27 (.tmp 7), type := 27, pos := "stand.go:112", after := #[], guard := none } (.slice vo vn vc) (HSB.out _ hb) ?_
 refine tkq hQp HS1 7 { dst := some 38, op := .load 33 (.tmp 3), type := 33, pos := "stand.go:112", after := #[], guard := none } (.slice (some ⟨cb0, cof, none⟩) cn cc) (HSB.out _ hb) ?_
 refine tkq hQp HS1 8 { dst := some 39, op := .move (.tmp 0), type := 3, pos := "stand.go:112", after := #[], guard := none } (.int .i64 (d : Int)) (HSB.out _ hb) ?_
 refine tkq hQp HS1 9 { dst := some 40, op := .indexAddr 33 (.tmp 38) (.tmp 39), type := 0, pos := "stand.go:112", after := #[{ on := 7, ground := .data }, { on := 8, ground := .data }], guard := none } (.pointer (some ⟨cb0, cof + d, none⟩)) (HSB.out _ hb) ?_
 show wpAnyH Tryz.prog .any pops Q S 7 #[false, true, true, true, true, true, true, true, true, true, false, false, false, false, false, false] (putregionFr d x1 x2 gc gi gp gn gv x8 x9 x10 o x12 x13 x14 x15 x16 x17 x18 x19 x20 x21 x22 x23 x24 x25 x26 x27 x28 x29 x30 x31 (.int .i64 nu) (.int .i64 (o : Int)) (.agg #[.int .i64 k, .int .i64 r, .int .i64 c, .int .i64 q, .slice ro rn rc, .int .u8 ((kd.toNat : Nat) : Int)]) (.int .i64 (d : Int)) (.slice vo vn vc) (.slice (some ⟨cb0, cof, none⟩) cn cc) (.int .i64 (d : Int)) (.pointer (some ⟨cb0, cof + d, none⟩)) x41 x42 x43 x44 x45) w1.drew
 dsimp only [putregionFr]
 refine tkq hQp HS1 10 { dst := some 41, op := .load 36 (.tmp 40), type := 36, pos := "stand.go:112", after := #[{ on := 9, ground := .data }], guard := none } (.slice to tn tu) (HSB.out _ hb) ?_
 show wpAnyH Tryz.prog .any pops Q S 6 #[false, true, true, true, true, true, true, true, true, true, true, false, false, false, false, false] (putregionFr d x1 x2 gc gi gp gn gv x8 x9 x10 o x12 x13 x14 x15 x16 x17 x18 x19 x20 x21 x22 x23 x24 x25 x26 x27 x28 x29 x30 x31 (.int .i64 nu) (.int .i64 (o : Int)) (.agg #[.int .i64 k, .int .i64 r, .int .i64 c, .int .i64 q, .slice ro rn rc, .int .u8 ((kd.toNat : Nat) : Int)]) (.int .i64 (d : Int)) (.slice vo vn vc) (.slice (some ⟨cb0, cof, none⟩) cn cc) (.int .i64 (d : Int)) (.pointer (some ⟨cb0, cof + d, none⟩)) (.slice to tn tu) x42 x43 x44 x45) w1.drew
 dsimp only [putregionFr]
 exact H00.out _ hb
end Go.Proofs.YtemlojjkokooeaaGreat
