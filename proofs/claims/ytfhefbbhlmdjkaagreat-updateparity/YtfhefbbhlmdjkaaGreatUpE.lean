/- Two bytes meet two cells. -/
import Derived.Test.YtfhefbbhlmdjkaaGreatUpCh
namespace Go.Proofs.YtfhefbbhlmdjkaaGreat
open Go.RowKit

set_option maxHeartbeats 400000 in
theorem params_any (w : World) : Calls Tryz.prog 15 #[] w fun e w' => e = .returned (.agg #[.int .i64 2, .int .i64 1, .int .i64 16, .int .i64 8]) ∧ Below w.heap.size w w' := by
  go_enter Tryz.func15, Tryz.ntmps15
  go_wp2_with fail
  refine bodyPost_ret (v := .agg #[.int .i64 2, .int .i64 1, .int .i64 16, .int .i64 8]) (by simp [results, Tryz.results15, go_sem]) rfl ⟨rfl, ?_⟩
  exact below_alloc _ _
theorem par0 : Par 2 1 16 8 3 32 0 := .inl ⟨by decide, by decide, by decide, rfl⟩
def wops : Array Oper := #[{ dst := some 4, op := Op.call { callee := Callee.value (Operand.func 15), args := #[], argTypes := #[] }, type := 23, pos := "law.go:16", after := #[], guard := none }, { dst := some 5, op := Op.makeSlice 32 (Operand.const (Value.int IntKind.i64 32)) (Operand.const (Value.int IntKind.i64 32)), type := 32, pos := "law.go:16", after := #[], guard := none }, { dst := some 6, op := Op.buildSlice 32 2 #[(0, Operand.const (Value.int IntKind.u8 9)), (1, Operand.const (Value.int IntKind.u8 9))], type := 32, pos := "law.go:16", after := #[], guard := none }, { dst := some 7, op := Op.call { callee := Callee.value (Operand.func 14), args := #[Operand.tmp 4, Operand.tmp 5, Operand.const (Value.int IntKind.i64 15), Operand.tmp 6], argTypes := #[23, 32, 3, 32] }, type := 50, pos := "law.go:16", after := #[{ on := 0, ground := Ground.data }, { on := 1, ground := Ground.data }, { on := 2, ground := Ground.data }, { on := 0, ground := Ground.chain }], guard := none }, { dst := some 3, op := Op.move (Operand.tmp 7), type := 50, pos := "law.go:16", after := #[{ on := 3, ground := Ground.data }], guard := none }, { dst := some 8, op := Op.extract (Operand.tmp 3) 0, type := 25, pos := "law.go:16", after := #[{ on := 4, ground := Ground.data }], guard := none }, { dst := some 9, op := Op.extract (Operand.tmp 3) 1, type := 29, pos := "law.go:16", after := #[{ on := 4, ground := Ground.data }, { on := 7, ground := Ground.gcOnly Departure.lateStores }], guard := none }, { dst := some 1, op := Op.assign (Operand.tmp 8), type := 25, pos := "law.go:16", after := #[{ on := 5, ground := Ground.data }, { on := 3, ground := Ground.chain }, { on := 0, ground := Ground.phase }, { on := 1, ground := Ground.phase }, { on := 2, ground := Ground.phase }, { on := 3, ground := Ground.phase }, { on := 4, ground := Ground.phase }, { on := 5, ground := Ground.phase }, { on := 6, ground := Ground.textOnly Departure.lateStores }], guard := none }, { dst := some 2, op := Op.assign (Operand.tmp 9), type := 29, pos := "law.go:16", after := #[{ on := 6, ground := Ground.data }, { on := 7, ground := Ground.chain }, { on := 0, ground := Ground.phase }, { on := 1, ground := Ground.phase }, { on := 2, ground := Ground.phase }, { on := 3, ground := Ground.phase }, { on := 4, ground := Ground.phase }, { on := 5, ground := Ground.phase }, { on := 6, ground := Ground.phase }, { on := 7, ground := Ground.phase }], guard := none }]
theorem mk_bytes (w : World) : (Instr.makeSlice 32 (.int .i64 32) (.int .i64 32)).run Tryz.prog w = .ok (.slice (some ⟨w.heap.size, 0, none⟩) 32 32) (w.alloc (.cells (byF 32 (fun _ => 0)).toArray 5)) := by
  have h := run_make_row' (P := Tryz.prog) 32 5 (.int .u8 0) 1 Tryz.underlying32 info5 rfl .i64 .i64 32 (by decide) (by decide) w
  rw [show (byF 32 (fun _ => 0)).toArray = madeCells #[.int .u8 0] 32 from by kernel_rfl]
  exact h
theorem bec_zero {w1 v : World} {ga : Nat} (h : At w1 v ga (byF 32 (fun _ => 0)).toArray 5) : Bec v (some ⟨ga, 0, none⟩) 32 32 (fun _ => 0) :=
  (Bk.own (B := 0) (show Bk v ga 32 (fun _ => 0) from h.2) (Nat.zero_le _) (by decide)).bec
theorem bec_nine {w1 v : World} {gb : Nat} (h : At w1 v gb #[.int .u8 9, .int .u8 9] 5) : Bec v (some ⟨gb, 0, none⟩) 2 2 (fun _ => 9) :=
  (Bk.own (B := 0) (show Bk v gb 2 (fun _ => 9) from h.2) (Nat.zero_le _) (by decide)).bec
theorem at_new' {a b : World} (hb : Below a.heap.size a b) (cs : Array Value) (t : TypeId) : At a (b.alloc (.cells cs t)) b.heap.size cs t := ⟨hb.size, heap_alloc_new b _⟩
theorem b_alloc' {a b : World} (hb : Below a.heap.size a b) (o : Obj) : Below a.heap.size a (b.alloc o) := below_then hb (below_alloc _ _)
theorem at_bel {a v v' : World} {g : Nat} {cs : Array Value} {t : TypeId} (h : At a v g cs t) (hb : Below v.heap.size v v') : At a v' g cs t := ⟨h.1, (hb.block g (Array.getElem?_eq_some_iff.1 h.2).1).trans h.2⟩
theorem change0 (v : World) (ga gb : Nat) (hr : Bec v (some ⟨ga, 0, none⟩) 32 32 (fun _ => 0)) (hd : Bec v (some ⟨gb, 0, none⟩) 2 2 (fun _ => 9)) :
    Calls Tryz.prog 14 #[.agg #[.int .i64 2, .int .i64 1, .int .i64 16, .int .i64 8], .slice (some ⟨ga, 0, none⟩) 32 32, .int .i64 15, .slice (some ⟨gb, 0, none⟩) 2 2] v fun e w' => ∃ lo lc, e = .returned (.tuple #[.slice lo 2 lc, .int .i64 0]) ∧ (∃ T U H, Chs v.heap.size w' lo 2 lc (fun i => ((i : Nat) : Int)) T (fun _ => 16) U H) ∧ Below v.heap.size v w' := by
  refine (Changes_any par0 v _ 32 32 _ hr 15 _ 2 2 _ hd 0 (by decide)).mono ?_
  rintro e w' ⟨lo, lc, T, U, rfl, hp, hb⟩
  have e1 : lenE 0 (nCh (15 : Int).toNat 2 (16 : Int).toNat) = 2 := by decide
  rw [e1] at hp
  rw [e1]
  refine ⟨lo, lc, rfl, ⟨T, U, _, hp.congr (fun i _ => ?_) (fun _ _ _ _ => rfl)⟩, hb⟩
  show (((15 / 16 + i : Nat)) : Int) = _
  rw [show 15 / 16 = 0 from rfl, Nat.zero_add]
set_option maxHeartbeats 4000000 in
set_option maxRecDepth 100000 in
theorem awake_reg (w1 : World) (Q : Exit → Act → World → Prop) (hQp : ∀ ch a v, Q (.panic ch) a v → False) (hQ : ∀ v lo lc ga gb, Below w1.heap.size w1 v → (∃ T U H, Chs w1.heap.size v lo 2 lc (fun i => ((i : Nat) : Int)) T (fun _ => 16) U H) → Q .normal { tmps := #[.bool false, .slice lo 2 lc, .int .i64 0, .tuple #[.slice lo 2 lc, .int .i64 0], .agg #[.int .i64 2, .int .i64 1, .int .i64 16, .int .i64 8], .slice (some ⟨ga, 0, none⟩) 32 32, .slice (some ⟨gb, 0, none⟩) 2 2, .tuple #[.slice lo 2 lc, .int .i64 0], .slice lo 2 lc, .int .i64 0, undef, undef, undef, undef, undef, undef, undef, undef, undef, undef, undef, undef, undef, undef], defers := [] } v) :
    Code.wp Tryz.prog (Code.region 1 wops true) Q { tmps := #[.bool false, undef, undef, undef, undef, undef, undef, undef, undef, undef, undef, undef, undef, undef, undef, undef, undef, undef, undef, undef, undef, undef, undef, undef], defers := [] } w1 := by
  have HQ : Hid (∀ v lo lc ga gb, Below w1.heap.size w1 v → (∃ T U H, Chs w1.heap.size v lo 2 lc (fun i => ((i : Nat) : Int)) T (fun _ => 16) U H) → Q .normal { tmps := #[.bool false, .slice lo 2 lc, .int .i64 0, .tuple #[.slice lo 2 lc, .int .i64 0], .agg #[.int .i64 2, .int .i64 1, .int .i64 16, .int .i64 8], .slice (some ⟨ga, 0, none⟩) 32 32, .slice (some ⟨gb, 0, none⟩) 2 2, .tuple #[.slice lo 2 lc, .int .i64 0], .slice lo 2 lc, .int .i64 0, undef, undef, undef, undef, undef, undef, undef, undef, undef, undef, undef, undef, undef, undef], defers := [] } v) := hQ
  obtain ⟨S, HS1⟩ : ∃ S : World → Prop, Hid (∀ v, S v) := ⟨fun _ => True, fun _ => trivial⟩
  clear hQ
  have H111 : Hid (∀ (v : World) (ga gb : Nat), Below w1.heap.size w1 v → At w1 v ga (byF 32 (fun _ => 0)).toArray 5 → At w1 v gb #[.int .u8 9, .int .u8 9] 5 → wpAnyH Tryz.prog .any wops Q S 6 #[true, true, true, false, false, false, false, false, false] { tmps := #[.bool false, undef, undef, undef, .agg #[.int .i64 2, .int .i64 1, .int .i64 16, .int .i64 8], .slice (some ⟨ga, 0, none⟩) 32 32, .slice (some ⟨gb, 0, none⟩) 2 2, undef, undef, undef, undef, undef, undef, undef, undef, undef, undef, undef, undef, undef, undef, undef, undef, undef], defers := [] } v) := fun v ga gb hb fa fb => by
    refine wpAnyH_ready (rs := [3]) (by kernel_rfl) (by simp) ?_
    refine AllReadyH.cons (o := { dst := some 7, op := Op.call { callee := Callee.value (Operand.func 14), args := #[Operand.tmp 4, Operand.tmp 5, Operand.const (Value.int IntKind.i64 15), Operand.tmp 6], argTypes := #[23, 32, 3, 32] }, type := 50, pos := "law.go:16", after := #[{ on := 0, ground := Ground.data }, { on := 1, ground := Ground.data }, { on := 2, ground := Ground.data }, { on := 0, ground := Ground.chain }], guard := none }) rfl (fun K hK => ?_) AllReadyH.nil
    go_simp
    refine (change0 v ga gb (bec_zero fa) (bec_nine fb)).mono ?_
    rintro e w' ⟨lo, lc, rfl, ⟨T, U, H, hp⟩, hw'⟩
    refine hK.out _ _ (HS1.out _) (fun hHeld => ?_)
    show wpAnyH Tryz.prog .any wops Q S 5 #[true, true, true, true, false, false, false, false, false] { tmps := #[.bool false, undef, undef, undef, .agg #[.int .i64 2, .int .i64 1, .int .i64 16, .int .i64 8], .slice (some ⟨ga, 0, none⟩) 32 32, .slice (some ⟨gb, 0, none⟩) 2 2, .tuple #[.slice lo 2 lc, .int .i64 0], undef, undef, undef, undef, undef, undef, undef, undef, undef, undef, undef, undef, undef, undef, undef, undef], defers := [] } w'
    refine wpAnyH_take (i := 4) (oi := { dst := some 3, op := Op.move (Operand.tmp 7), type := 50, pos := "law.go:16", after := #[{ on := 3, ground := Ground.data }], guard := none }) (v := .tuple #[.slice lo 2 lc, .int .i64 0]) rfl (by kernel_rfl) (by kernel_rfl) (by kernel_rfl) (fun _ _ _ h => (hQp _ _ _ h).elim) (Or.inl ⟨by kernel_rfl, ?_⟩) (HS1.out _) ?_
    · intro w' hSw
      go_simp <;> first | with_reducible rfl | assumption
    show wpAnyH Tryz.prog .any wops Q S 4 #[true, true, true, true, true, false, false, false, false] { tmps := #[.bool false, undef, undef, .tuple #[.slice lo 2 lc, .int .i64 0], .agg #[.int .i64 2, .int .i64 1, .int .i64 16, .int .i64 8], .slice (some ⟨ga, 0, none⟩) 32 32, .slice (some ⟨gb, 0, none⟩) 2 2, .tuple #[.slice lo 2 lc, .int .i64 0], undef, undef, undef, undef, undef, undef, undef, undef, undef, undef, undef, undef, undef, undef, undef, undef], defers := [] } w'
    refine wpAnyH_take (i := 5) (oi := { dst := some 8, op := Op.extract (Operand.tmp 3) 0, type := 25, pos := "law.go:16", after := #[{ on := 4, ground := Ground.data }], guard := none }) (v := .slice lo 2 lc) rfl (by kernel_rfl) (by kernel_rfl) (by kernel_rfl) (fun _ _ _ h => (hQp _ _ _ h).elim) (Or.inl ⟨by kernel_rfl, ?_⟩) (HS1.out _) ?_
    · intro w' hSw
      go_simp <;> first | with_reducible rfl | assumption
    show wpAnyH Tryz.prog .any wops Q S 3 #[true, true, true, true, true, true, false, false, false] { tmps := #[.bool false, undef, undef, .tuple #[.slice lo 2 lc, .int .i64 0], .agg #[.int .i64 2, .int .i64 1, .int .i64 16, .int .i64 8], .slice (some ⟨ga, 0, none⟩) 32 32, .slice (some ⟨gb, 0, none⟩) 2 2, .tuple #[.slice lo 2 lc, .int .i64 0], .slice lo 2 lc, undef, undef, undef, undef, undef, undef, undef, undef, undef, undef, undef, undef, undef, undef, undef], defers := [] } w'
    refine wpAnyH_take (i := 6) (oi := { dst := some 9, op := Op.extract (Operand.tmp 3) 1, type := 29, pos := "law.go:16", after := #[{ on := 4, ground := Ground.data }, { on := 7, ground := Ground.gcOnly Departure.lateStores }], guard := none }) (v := .int .i64 0) rfl (by kernel_rfl) (by kernel_rfl) (by kernel_rfl) (fun _ _ _ h => (hQp _ _ _ h).elim) (Or.inl ⟨by kernel_rfl, ?_⟩) (HS1.out _) ?_
    · intro w' hSw
      go_simp <;> first | with_reducible rfl | assumption
    show wpAnyH Tryz.prog .any wops Q S 2 #[true, true, true, true, true, true, true, false, false] { tmps := #[.bool false, undef, undef, .tuple #[.slice lo 2 lc, .int .i64 0], .agg #[.int .i64 2, .int .i64 1, .int .i64 16, .int .i64 8], .slice (some ⟨ga, 0, none⟩) 32 32, .slice (some ⟨gb, 0, none⟩) 2 2, .tuple #[.slice lo 2 lc, .int .i64 0], .slice lo 2 lc, .int .i64 0, undef, undef, undef, undef, undef, undef, undef, undef, undef, undef, undef, undef, undef, undef], defers := [] } w'
    refine wpAnyH_take (i := 7) (oi := { dst := some 1, op := Op.assign (Operand.tmp 8), type := 25, pos := "law.go:16", after := #[{ on := 5, ground := Ground.data }, { on := 3, ground := Ground.chain }, { on := 0, ground := Ground.phase }, { on := 1, ground := Ground.phase }, { on := 2, ground := Ground.phase }, { on := 3, ground := Ground.phase }, { on := 4, ground := Ground.phase }, { on := 5, ground := Ground.phase }, { on := 6, ground := Ground.textOnly Departure.lateStores }], guard := none }) (v := .slice lo 2 lc) rfl (by kernel_rfl) (by kernel_rfl) (by kernel_rfl) (fun _ _ _ h => (hQp _ _ _ h).elim) (Or.inl ⟨by kernel_rfl, ?_⟩) (HS1.out _) ?_
    · intro w' hSw
      go_simp <;> first | with_reducible rfl | assumption
    show wpAnyH Tryz.prog .any wops Q S 1 #[true, true, true, true, true, true, true, true, false] { tmps := #[.bool false, .slice lo 2 lc, undef, .tuple #[.slice lo 2 lc, .int .i64 0], .agg #[.int .i64 2, .int .i64 1, .int .i64 16, .int .i64 8], .slice (some ⟨ga, 0, none⟩) 32 32, .slice (some ⟨gb, 0, none⟩) 2 2, .tuple #[.slice lo 2 lc, .int .i64 0], .slice lo 2 lc, .int .i64 0, undef, undef, undef, undef, undef, undef, undef, undef, undef, undef, undef, undef, undef, undef], defers := [] } w'
    refine wpAnyH_take (i := 8) (oi := { dst := some 2, op := Op.assign (Operand.tmp 9), type := 29, pos := "law.go:16", after := #[{ on := 6, ground := Ground.data }, { on := 7, ground := Ground.chain }, { on := 0, ground := Ground.phase }, { on := 1, ground := Ground.phase }, { on := 2, ground := Ground.phase }, { on := 3, ground := Ground.phase }, { on := 4, ground := Ground.phase }, { on := 5, ground := Ground.phase }, { on := 6, ground := Ground.phase }, { on := 7, ground := Ground.phase }], guard := none }) (v := .int .i64 0) rfl (by kernel_rfl) (by kernel_rfl) (by kernel_rfl) (fun _ _ _ h => (hQp _ _ _ h).elim) (Or.inl ⟨by kernel_rfl, ?_⟩) (HS1.out _) ?_
    · intro w' hSw
      go_simp <;> first | with_reducible rfl | assumption
    show wpAnyH Tryz.prog .any wops Q S 0 #[true, true, true, true, true, true, true, true, true] { tmps := #[.bool false, .slice lo 2 lc, .int .i64 0, .tuple #[.slice lo 2 lc, .int .i64 0], .agg #[.int .i64 2, .int .i64 1, .int .i64 16, .int .i64 8], .slice (some ⟨ga, 0, none⟩) 32 32, .slice (some ⟨gb, 0, none⟩) 2 2, .tuple #[.slice lo 2 lc, .int .i64 0], .slice lo 2 lc, .int .i64 0, undef, undef, undef, undef, undef, undef, undef, undef, undef, undef, undef, undef, undef, undef], defers := [] } w'
    refine wpAnyH_done (by kernel_rfl) ?_ _
    exact HQ.out _ lo lc ga gb (below_then hb hw') ⟨T, U, H, hp.mono hb.size⟩
  have H110 : Hid (∀ (v : World) (ga : Nat), Below w1.heap.size w1 v → At w1 v ga (byF 32 (fun _ => 0)).toArray 5 → wpAnyH Tryz.prog .any wops Q S 7 #[true, true, false, false, false, false, false, false, false] { tmps := #[.bool false, undef, undef, undef, .agg #[.int .i64 2, .int .i64 1, .int .i64 16, .int .i64 8], .slice (some ⟨ga, 0, none⟩) 32 32, undef, undef, undef, undef, undef, undef, undef, undef, undef, undef, undef, undef, undef, undef, undef, undef, undef, undef], defers := [] } v) := fun v ga hb fa => by
    refine wpAnyH_ready (rs := [2]) (by kernel_rfl) (by simp) ?_
    refine AllReadyH.cons (o := { dst := some 6, op := Op.buildSlice 32 2 #[(0, Operand.const (Value.int IntKind.u8 9)), (1, Operand.const (Value.int IntKind.u8 9))], type := 32, pos := "law.go:16", after := #[], guard := none }) rfl (fun K hK => ?_) AllReadyH.nil
    · skip
      go_simp
      refine hK.out _ _ (HS1.out _) (fun hHeld => ?_)
      exact H111.out _ ga _ (b_alloc' hb _) (fa.alloc _) (at_new' hb _ _)
  have H101 : Hid (∀ (v : World) (gb : Nat), Below w1.heap.size w1 v → At w1 v gb #[.int .u8 9, .int .u8 9] 5 → wpAnyH Tryz.prog .any wops Q S 7 #[true, false, true, false, false, false, false, false, false] { tmps := #[.bool false, undef, undef, undef, .agg #[.int .i64 2, .int .i64 1, .int .i64 16, .int .i64 8], undef, .slice (some ⟨gb, 0, none⟩) 2 2, undef, undef, undef, undef, undef, undef, undef, undef, undef, undef, undef, undef, undef, undef, undef, undef, undef], defers := [] } v) := fun v gb hb fb => by
    refine wpAnyH_ready (rs := [1]) (by kernel_rfl) (by simp) ?_
    refine AllReadyH.cons (o := { dst := some 5, op := Op.makeSlice 32 (Operand.const (Value.int IntKind.i64 32)) (Operand.const (Value.int IntKind.i64 32)), type := 32, pos := "law.go:16", after := #[], guard := none }) rfl (fun K hK => ?_) AllReadyH.nil
    · skip
      have hmk := mk_bytes v
      go_simp
      refine hK.out _ _ (HS1.out _) (fun hHeld => ?_)
      exact H111.out _ _ gb (b_alloc' hb _) (at_new' hb _ _) (fb.alloc _)
  have H011 : Hid (∀ (v : World) (ga gb : Nat), Below w1.heap.size w1 v → At w1 v ga (byF 32 (fun _ => 0)).toArray 5 → At w1 v gb #[.int .u8 9, .int .u8 9] 5 → wpAnyH Tryz.prog .any wops Q S 7 #[false, true, true, false, false, false, false, false, false] { tmps := #[.bool false, undef, undef, undef, undef, .slice (some ⟨ga, 0, none⟩) 32 32, .slice (some ⟨gb, 0, none⟩) 2 2, undef, undef, undef, undef, undef, undef, undef, undef, undef, undef, undef, undef, undef, undef, undef, undef, undef], defers := [] } v) := fun v ga gb hb fa fb => by
    refine wpAnyH_ready (rs := [0]) (by kernel_rfl) (by simp) ?_
    refine AllReadyH.cons (o := { dst := some 4, op := Op.call { callee := Callee.value (Operand.func 15), args := #[], argTypes := #[] }, type := 23, pos := "law.go:16", after := #[], guard := none }) rfl (fun K hK => ?_) AllReadyH.nil
    · skip
      go_simp
      refine (params_any v).mono ?_
      rintro e w' ⟨rfl, hw'⟩
      refine hK.out _ _ (HS1.out _) (fun hHeld => ?_)
      exact H111.out _ ga gb (below_then hb hw') (at_bel fa hw') (at_bel fb hw')
  have H100 : Hid (∀ (v : World), Below w1.heap.size w1 v → wpAnyH Tryz.prog .any wops Q S 8 #[true, false, false, false, false, false, false, false, false] { tmps := #[.bool false, undef, undef, undef, .agg #[.int .i64 2, .int .i64 1, .int .i64 16, .int .i64 8], undef, undef, undef, undef, undef, undef, undef, undef, undef, undef, undef, undef, undef, undef, undef, undef, undef, undef, undef], defers := [] } v) := fun v hb => by
    refine wpAnyH_ready (rs := [1, 2]) (by kernel_rfl) (by simp) ?_
    refine AllReadyH.cons (o := { dst := some 5, op := Op.makeSlice 32 (Operand.const (Value.int IntKind.i64 32)) (Operand.const (Value.int IntKind.i64 32)), type := 32, pos := "law.go:16", after := #[], guard := none }) rfl (fun K hK => ?_) ?_
    rotate_left
    refine AllReadyH.cons (o := { dst := some 6, op := Op.buildSlice 32 2 #[(0, Operand.const (Value.int IntKind.u8 9)), (1, Operand.const (Value.int IntKind.u8 9))], type := 32, pos := "law.go:16", after := #[], guard := none }) rfl (fun K hK => ?_) AllReadyH.nil
    rotate_left
    · skip
      have hmk := mk_bytes v
      go_simp
      refine hK.out _ _ (HS1.out _) (fun hHeld => ?_)
      exact H110.out _ _ (b_alloc' hb _) (at_new' hb _ _)
    · skip
      go_simp
      refine hK.out _ _ (HS1.out _) (fun hHeld => ?_)
      exact H101.out _ _ (b_alloc' hb _) (at_new' hb _ _)
  have H010 : Hid (∀ (v : World) (ga : Nat), Below w1.heap.size w1 v → At w1 v ga (byF 32 (fun _ => 0)).toArray 5 → wpAnyH Tryz.prog .any wops Q S 8 #[false, true, false, false, false, false, false, false, false] { tmps := #[.bool false, undef, undef, undef, undef, .slice (some ⟨ga, 0, none⟩) 32 32, undef, undef, undef, undef, undef, undef, undef, undef, undef, undef, undef, undef, undef, undef, undef, undef, undef, undef], defers := [] } v) := fun v ga hb fa => by
    refine wpAnyH_ready (rs := [0, 2]) (by kernel_rfl) (by simp) ?_
    refine AllReadyH.cons (o := { dst := some 4, op := Op.call { callee := Callee.value (Operand.func 15), args := #[], argTypes := #[] }, type := 23, pos := "law.go:16", after := #[], guard := none }) rfl (fun K hK => ?_) ?_
    rotate_left
    refine AllReadyH.cons (o := { dst := some 6, op := Op.buildSlice 32 2 #[(0, Operand.const (Value.int IntKind.u8 9)), (1, Operand.const (Value.int IntKind.u8 9))], type := 32, pos := "law.go:16", after := #[], guard := none }) rfl (fun K hK => ?_) AllReadyH.nil
    rotate_left
    · skip
      go_simp
      refine (params_any v).mono ?_
      rintro e w' ⟨rfl, hw'⟩
      refine hK.out _ _ (HS1.out _) (fun hHeld => ?_)
      exact H110.out _ ga (below_then hb hw') (at_bel fa hw')
    · skip
      go_simp
      refine hK.out _ _ (HS1.out _) (fun hHeld => ?_)
      exact H011.out _ ga _ (b_alloc' hb _) (fa.alloc _) (at_new' hb _ _)
  have H001 : Hid (∀ (v : World) (gb : Nat), Below w1.heap.size w1 v → At w1 v gb #[.int .u8 9, .int .u8 9] 5 → wpAnyH Tryz.prog .any wops Q S 8 #[false, false, true, false, false, false, false, false, false] { tmps := #[.bool false, undef, undef, undef, undef, undef, .slice (some ⟨gb, 0, none⟩) 2 2, undef, undef, undef, undef, undef, undef, undef, undef, undef, undef, undef, undef, undef, undef, undef, undef, undef], defers := [] } v) := fun v gb hb fb => by
    refine wpAnyH_ready (rs := [0, 1]) (by kernel_rfl) (by simp) ?_
    refine AllReadyH.cons (o := { dst := some 4, op := Op.call { callee := Callee.value (Operand.func 15), args := #[], argTypes := #[] }, type := 23, pos := "law.go:16", after := #[], guard := none }) rfl (fun K hK => ?_) ?_
    rotate_left
    refine AllReadyH.cons (o := { dst := some 5, op := Op.makeSlice 32 (Operand.const (Value.int IntKind.i64 32)) (Operand.const (Value.int IntKind.i64 32)), type := 32, pos := "law.go:16", after := #[], guard := none }) rfl (fun K hK => ?_) AllReadyH.nil
    rotate_left
    · skip
      go_simp
      refine (params_any v).mono ?_
      rintro e w' ⟨rfl, hw'⟩
      refine hK.out _ _ (HS1.out _) (fun hHeld => ?_)
      exact H101.out _ gb (below_then hb hw') (at_bel fb hw')
    · skip
      have hmk := mk_bytes v
      go_simp
      refine hK.out _ _ (HS1.out _) (fun hHeld => ?_)
      exact H011.out _ _ gb (b_alloc' hb _) (at_new' hb _ _) (fb.alloc _)
  have H000 : Hid (∀ (v : World), Below w1.heap.size w1 v → wpAnyH Tryz.prog .any wops Q S 9 #[false, false, false, false, false, false, false, false, false] { tmps := #[.bool false, undef, undef, undef, undef, undef, undef, undef, undef, undef, undef, undef, undef, undef, undef, undef, undef, undef, undef, undef, undef, undef, undef, undef], defers := [] } v) := fun v hb => by
    refine wpAnyH_ready (rs := [0, 1, 2]) (by kernel_rfl) (by simp) ?_
    refine AllReadyH.cons (o := { dst := some 4, op := Op.call { callee := Callee.value (Operand.func 15), args := #[], argTypes := #[] }, type := 23, pos := "law.go:16", after := #[], guard := none }) rfl (fun K hK => ?_) ?_
    rotate_left
    refine AllReadyH.cons (o := { dst := some 5, op := Op.makeSlice 32 (Operand.const (Value.int IntKind.i64 32)) (Operand.const (Value.int IntKind.i64 32)), type := 32, pos := "law.go:16", after := #[], guard := none }) rfl (fun K hK => ?_) ?_
    rotate_left
    refine AllReadyH.cons (o := { dst := some 6, op := Op.buildSlice 32 2 #[(0, Operand.const (Value.int IntKind.u8 9)), (1, Operand.const (Value.int IntKind.u8 9))], type := 32, pos := "law.go:16", after := #[], guard := none }) rfl (fun K hK => ?_) AllReadyH.nil
    rotate_left
    · skip
      go_simp
      refine (params_any v).mono ?_
      rintro e w' ⟨rfl, hw'⟩
      refine hK.out _ _ (HS1.out _) (fun hHeld => ?_)
      exact H100.out _ (below_then hb hw')
    · skip
      have hmk := mk_bytes v
      go_simp
      refine hK.out _ _ (HS1.out _) (fun hHeld => ?_)
      exact H010.out _ _ (b_alloc' hb _) (at_new' hb _ _)
    · skip
      go_simp
      refine hK.out _ _ (HS1.out _) (fun hHeld => ?_)
      exact H001.out _ _ (b_alloc' hb _) (at_new' hb _ _)
  refine wp_region_held_drew (S := S) (by kernel_rfl) (HS1.out _) (fun hHeld => ?_)
  have hb : Below w1.heap.size w1 w1.drew := below_drew _ _
  rw [show wops.size = 9 from by kernel_rfl, show Array.replicate 9 false = #[false, false, false, false, false, false, false, false, false] from by kernel_rfl]
  exact H000.out _ hb
set_option maxHeartbeats 4000000 in
set_option maxRecDepth 100000 in
theorem awake_any (w : World) : Calls Tryz.prog 5 #[] w fun e w' => e = .returned (.bool true) ∧ Below w.heap.size w w' := by
  go_enter Tryz.func5, Tryz.ntmps5
  go_wp2_with fail
  refine wp_region_noPanic (awake_reg w _ (fun _ _ _ h => h) (fun v lo lc ga gb hb ⟨T, U, H, hp⟩ => NoPanic.normal ?_))
  obtain ⟨gl, rfl, _, _, _, hc⟩ := hp.cells (by omega)
  have c1 : v.cell? ⟨gl, 2, none⟩ = some (.int .i64 1) := (hc 1 (by omega)).1
  clear hp hc
  go_wp2_with fail
  go_ret
  exact ⟨rfl, hb⟩
end Go.Proofs.YtfhefbbhlmdjkaaGreat
