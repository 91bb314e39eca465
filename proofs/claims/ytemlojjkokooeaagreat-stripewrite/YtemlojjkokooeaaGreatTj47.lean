import Derived.Test.YtemlojjkokooeaaGreatTj46
set_option maxHeartbeats 4000000
set_option maxRecDepth 100000
namespace Go.Proofs.YtemlojjkokooeaaGreat
open Go.RowKit
theorem Full_pl {k r c q : Int} {N W : Nat} {x : Int} (h : Par k r c q N W x) (w : World) (ro : Option Addr) (rn rc : Nat) (A : Nat -> Option Addr) (L C : Nat -> Nat) (F : Nat -> Nat -> UInt8) (hr : Rw w ro rn A L C F) (nu : Int) (kd : UInt8) (ke v : Int) (dob : Option Addr) (dn dc : Nat) (D : Nat -> UInt8) (hD : Bec w dob dn dc D) (E : Int) (hE : erD (erW (erK x N c rn L kd v) q nu ke) dn W = E) :
  Calls Tryz.prog 22 #[.agg #[.int .i64 k, .int .i64 r, .int .i64 c, .int .i64 q], .slice ro rn rc, .int .i64 nu, .int .u8 ((kd.toNat : Nat) : Int), .int .i64 ke, .int .i64 v, .slice dob dn dc] w (AnsL w E N N (fun _ => c.toNat) (osl N c L F kd ke) nu (sz N c) (fun i => enc (slC kd N (fun _ => v) c.toNat (dH k.toNat c.toNat D i) i))) :=
 (Fullf_any h w ro rn rc A L C F hr nu kd ke v dob dn dc D hD E hE).mono fun _ _ ⟨ao, cap, T, U, he, hp, hb⟩ => ⟨ao, cap, T, U, he, fun g => (hp g).pl, hb⟩
theorem info54 : (Tryz.prog.info? 97).map (fun i => (i.zero, i.size, i.bytes)) = some (some (.agg #[.slice none 0 0, .slice none 0 0]), 2, 48) := by kernel_rfl
theorem params_any (w : World) : Calls Tryz.prog 66 #[] w fun e w' => e = .returned (.agg #[.int .i64 2, .int .i64 1, .int .i64 16, .int .i64 8]) /\ Below w.heap.size w w' := by
 go_enter Tryz.func66, Tryz.ntmps66
 go_wp2_with fail
 refine bodyPost_ret (v := .agg #[.int .i64 2, .int .i64 1, .int .i64 16, .int .i64 8]) (by simp [results, Tryz.results66, go_sem]) rfl ⟨rfl, ?_⟩
 exact bal _ _
theorem par0 : Par 2 1 16 8 3 32 0 := .inl ⟨by decide, by decide, by decide, rfl⟩
def wops : Array Oper := #[{ dst := some 4, op := .call { callee := .value (.func 66), args := #[], argTypes := #[] }, type := 23, pos := "law.go:15", after := #[], guard := none }, { dst := some 5, op := .makeSlice 24 (.const (.int .i64 3)) (.const (.int .i64 3)), type := 24, pos := "law.go:15", after := #[], guard := none }, { dst := some 6, op := .makeSlice 36 (.const (.int .i64 32)) (.const (.int .i64 32)), type := 36, pos := "law.go:15", after := #[], guard := none }, { dst := some 7, op := .call { callee := .value (.func 22), args := #[.tmp 4, .tmp 5, .const (.int .i64 3), .const (.int .u8 1), .const (.int .i64 0), .const (.int .i64 7), .tmp 6], argTypes := #[23, 24, 3, 5, 3, 3, 36] }, type := 44, pos := "law.go:15", after := #[{ on := 0, ground := .data }, { on := 1, ground := .data }, { on := 2, ground := .data }, { on := 0, ground := .chain }], guard := none }, { dst := some 3, op := .move (.tmp 7), type := 44, pos := "law.go:15", after := #[{ on := 3, ground := .data }], guard := none }, { dst := some 8, op := .extract (.tmp 3) 0, type := 43, pos := "law.go:15", after := #[{ on := 4, ground := .data }], guard := none }, { dst := some 9, op := .extract (.tmp 3) 1, type := 28, pos := "law.go:15", after := #[{ on := 4, ground := .data }, { on := 7, ground := Ground.gcOnly Departure.lateStores }], guard := none }, { dst := some 1, op := .assign (.tmp 8), type := 43, pos := "law.go:15", after := #[{ on := 5, ground := .data }, { on := 3, ground := .chain }, { on := 0, ground := .phase }, { on := 1, ground := .phase }, { on := 2, ground := .phase }, { on := 3, ground := .phase }, { on := 4, ground := .phase }, { on := 5, ground := .phase }, { on := 6, ground := Ground.textOnly Departure.lateStores }], guard := none }, { dst := some 2, op := .assign (.tmp 9), type := 28, pos := "law.go:15", after := #[{ on := 6, ground := .data }, { on := 7, ground := .chain }, { on := 0, ground := .phase }, { on := 1, ground := .phase }, { on := 2, ground := .phase }, { on := 3, ground := .phase }, { on := 4, ground := .phase }, { on := 5, ground := .phase }, { on := 6, ground := .phase }, { on := 7, ground := .phase }], guard := none }]
def z6 : Array Value := #[.slice none 0 0, .slice none 0 0, .slice none 0 0, .slice none 0 0, .slice none 0 0, .slice none 0 0]
theorem mk_pairs (w : World) : (Instr.makeSlice 24 (.int .i64 3) (.int .i64 3)).run Tryz.prog w = .ok (.slice (some ⟨w.heap.size, 0, none⟩) 3 3) (w.alloc (.cells z6 97)) := by
 obtain ⟨i0, hi, hi0, hi1, hi2⟩ := info_parts info54
 have h := run_makeSlice (P := Tryz.prog) w 24 97 i0 (.agg #[.slice none 0 0, .slice none 0 0]) Tryz.underlying24 hi hi0 .i64 .i64 3 3 (by decide) (by decide) (by rw [hi1]; decide) (by rw [hi2]; decide) (by decide)
 rw [hi1, show madeCells (Value.agg #[Value.slice none 0 0, Value.slice none 0 0]).cells (Int.toNat 3 * 2) = z6 from by kernel_rfl] at h
 exact h
theorem mk_bytes (w : World) : (Instr.makeSlice 36 (.int .i64 32) (.int .i64 32)).run Tryz.prog w = .ok (.slice (some ⟨w.heap.size, 0, none⟩) 32 32) (w.alloc (.cells (byF 32 (fun _ => 0)).toArray 5)) := by
 have h := run_make_row' (P := Tryz.prog) 36 5 (.int .u8 0) 1 Tryz.underlying36 info5 rfl .i64 .i64 32 (by decide) (by decide) w
 rw [<- made_byF]; exact h
theorem rw_zero {w1 v : World} {ga : Nat} (h : At w1 v ga z6 97) : Rw v (some ⟨ga, 0, none⟩) 3 (fun _ => none) (fun _ => 0) (fun _ => 0) (fun _ _ => 0) := by
 refine ⟨fun _ => ⟨ga, 0, rfl, fun i hi => ?_⟩, fun _ _ => bec_nil _ _⟩
 rw [Nat.zero_add]
 rcases (show i = 0 \/ i = 1 \/ i = 2 by omega) with rfl | rfl | rfl
 ·exact ⟨h.cell (i := 0) rfl, h.cell (i := 1) rfl⟩
 ·exact ⟨h.cell (i := 2) rfl, h.cell (i := 3) rfl⟩
 ·exact ⟨h.cell (i := 4) rfl, h.cell (i := 5) rfl⟩
theorem bec_zero {w1 v : World} {gb : Nat} (h : At w1 v gb (byF 32 (fun _ => 0)).toArray 5) : Bec v (some ⟨gb, 0, none⟩) 32 32 (fun _ => 0) :=
 (Bk.own (B := 0) (show Bk v gb 32 (fun _ => 0) from h.2) (Nat.zero_le _) (by decide)).bec
theorem full0 (v : World) (ga gb : Nat) (hr : Rw v (some ⟨ga, 0, none⟩) 3 (fun _ => none) (fun _ => 0) (fun _ => 0) (fun _ _ => 0)) (hd : Bec v (some ⟨gb, 0, none⟩) 32 32 (fun _ => 0)) :
  Calls Tryz.prog 22 #[.agg #[.int .i64 2, .int .i64 1, .int .i64 16, .int .i64 8], .slice (some ⟨ga, 0, none⟩) 3 3, .int .i64 3, .int .u8 1, .int .i64 0, .int .i64 7, .slice (some ⟨gb, 0, none⟩) 32 32] v fun e w' => ∃ lo lc T U, e = .returned (.tuple #[.slice lo 3 lc, .int .i64 0]) /\ PL v.heap.size w' lo 3 lc 3 (fun _ => 16) (osl 3 16 (fun _ => 0) (fun _ _ => 0) 1 0) 3 (sz 3 16) T U (fun i => enc (slC 1 3 (fun _ => 7) 16 (dH 2 16 (fun _ => 0) i) i)) /\ Below v.heap.size v w' := by
 have hF := Full_pl par0 v _ 3 3 _ _ _ _ hr 3 1 0 7 _ 32 32 _ hd 0 (by decide)
 refine hF.mono ?_
 rintro e w' ⟨lo, lc, T, U, rfl, hp, hb⟩
 exact ⟨lo, lc, T, U, rfl, hp rfl, hb⟩
abbrev awakeregFr (e1 e2 e3 e4 e5 e6 e7 e8 e9 : Value) : Act := { tmps := #[.bool false, e1, e2, e3, e4, e5, e6, e7, e8, e9, undef, undef, undef, undef, undef, undef, undef, undef, undef, undef, undef, undef, undef, undef, undef, undef, undef, undef, undef, undef, undef], defers := [] }
theorem awake_reg (w1 : World) (Q : Exit -> Act -> World -> Prop) (hQp : ∀ ch a v, Q (.panic ch) a v -> False) (hQ : ∀ v lo lc T U ga gb, Below w1.heap.size w1 v -> PL w1.heap.size v lo 3 lc 3 (fun _ => 16) (osl 3 16 (fun _ => 0) (fun _ _ => 0) 1 0) 3 (sz 3 16) T U (fun i => enc (slC 1 3 (fun _ => 7) 16 (dH 2 16 (fun _ => 0) i) i)) -> Q .normal { tmps := #[.bool false, .slice lo 3 lc, .int .i64 0, .tuple #[.slice lo 3 lc, .int .i64 0], .agg #[.int .i64 2, .int .i64 1, .int .i64 16, .int .i64 8], .slice (some ⟨ga, 0, none⟩) 3 3, .slice (some ⟨gb, 0, none⟩) 32 32, .tuple #[.slice lo 3 lc, .int .i64 0], .slice lo 3 lc, .int .i64 0, undef, undef, undef, undef, undef, undef, undef, undef, undef, undef, undef, undef, undef, undef, undef, undef, undef, undef, undef, undef, undef], defers := [] } v) :
  Code.wp Tryz.prog (Code.region 1 wops true) Q { tmps := #[.bool false, undef, undef, undef, undef, undef, undef, undef, undef, undef, undef, undef, undef, undef, undef, undef, undef, undef, undef, undef, undef, undef, undef, undef, undef, undef, undef, undef, undef, undef, undef], defers := [] } w1 := by
 have HQ : Hid _ := hQ
 obtain ⟨S, HS1⟩ : ∃ S : World -> Prop, Hid (∀ v, S v) := ⟨fun _ => True, fun _ => trivial⟩
 clear hQ
 have H111 : Hid (∀ (v : World) (ga gb : Nat), Below w1.heap.size w1 v -> At w1 v ga z6 97 -> At w1 v gb (byF 32 (fun _ => 0)).toArray 5 -> wpAnyH Tryz.prog .any wops Q S 6 #[true, true, true, false, false, false, false, false, false] (awakeregFr undef undef undef (.agg #[.int .i64 2, .int .i64 1, .int .i64 16, .int .i64 8]) (.slice (some ⟨ga, 0, none⟩) 3 3) (.slice (some ⟨gb, 0, none⟩) 32 32) undef undef undef) v) := fun v ga gb hb fa fb => by
  dsimp only [awakeregFr]
  refine wpAnyH_ready (rs := [3]) (by kernel_rfl) (by simp) ?_
  refine AllReadyH.cons (o := { dst := some 7, op := .call { callee := .value (.func 22), args := #[.tmp 4, .tmp 5, .const (.int .i64 3), .const (.int .u8 1), .const (.int .i64 0), .const (.int .i64 7), .tmp 6], argTypes := #[23, 24, 3, 5, 3, 3, 36] }, type := 44, pos := "law.go:15", after := #[{ on := 0, ground := .data }, { on := 1, ground := .data }, { on := 2, ground := .data }, { on := 0, ground := .chain }], guard := none }) rfl (fun K hK => ?_) AllReadyH.nil
  go_simp
  refine (full0 v ga gb (rw_zero fa) (bec_zero fb)).mono ?_
  rintro e w' ⟨lo, lc, T, U, rfl, hp, hw'⟩
  refine hK.out _ _ (HS1.out _) (fun hHeld => ?_)
  show wpAnyH Tryz.prog .any wops Q S 5 #[true, true, true, true, false, false, false, false, false] (awakeregFr undef undef undef (.agg #[.int .i64 2, .int .i64 1, .int .i64 16, .int .i64 8]) (.slice (some ⟨ga, 0, none⟩) 3 3) (.slice (some ⟨gb, 0, none⟩) 32 32) (.tuple #[.slice lo 3 lc, .int .i64 0]) undef undef) w'
  dsimp only [awakeregFr]
  refine wpAnyH_take (i := 4) (oi := { dst := some 3, op := .move (.tmp 7), type := 44, pos := "law.go:15", after := #[{ on := 3, ground := .data }], guard := none }) (v := .tuple #[.slice lo 3 lc, .int .i64 0]) rfl (by kernel_rfl) (by kernel_rfl) (by kernel_rfl) (fun _ _ _ h => (hQp _ _ _ h).elim) (Or.inl ⟨by kernel_rfl, ?_⟩) (HS1.out _) ?_
  ·intro w' hSw
   go_simp <;> first | with_reducible rfl | assumption
  refine wpAnyH_take (i := 5) (oi := { dst := some 8, op := .extract (.tmp 3) 0, type := 43, pos := "law.go:15", after := #[{ on := 4, ground := .data }], guard := none }) (v := .slice lo 3 lc) rfl (by kernel_rfl) (by kernel_rfl) (by kernel_rfl) (fun _ _ _ h => (hQp _ _ _ h).elim) (Or.inl ⟨by kernel_rfl, ?_⟩) (HS1.out _) ?_
  ·intro w' hSw
   go_simp <;> first | with_reducible rfl | assumption
  refine wpAnyH_take (i := 6) (oi := { dst := some 9, op := .extract (.tmp 3) 1, type := 28, pos := "law.go:15", after := #[{ on := 4, ground := .data }, { on := 7, ground := Ground.gcOnly Departure.lateStores }], guard := none }) (v := .int .i64 0) rfl (by kernel_rfl) (by kernel_rfl) (by kernel_rfl) (fun _ _ _ h => (hQp _ _ _ h).elim) (Or.inl ⟨by kernel_rfl, ?_⟩) (HS1.out _) ?_
  ·intro w' hSw
   go_simp <;> first | with_reducible rfl | assumption
  refine wpAnyH_take (i := 7) (oi := { dst := some 1, op := .assign (.tmp 8), type := 43, pos := "law.go:15", after := #[{ on := 5, ground := .data }, { on := 3, ground := .chain }, { on := 0, ground := .phase }, { on := 1, ground := .phase }, { on := 2, ground := .phase }, { on := 3, ground := .phase }, { on := 4, ground := .phase }, { on := 5, ground := .phase }, { on := 6, ground := Ground.textOnly Departure.lateStores }], guard := none }) (v := .slice lo 3 lc) rfl (by kernel_rfl) (by kernel_rfl) (by kernel_rfl) (fun _ _ _ h => (hQp _ _ _ h).elim) (Or.inl ⟨by kernel_rfl, ?_⟩) (HS1.out _) ?_
  ·intro w' hSw
   go_simp <;> first | with_reducible rfl | assumption
  show wpAnyH Tryz.prog .any wops Q S 1 #[true, true, true, true, true, true, true, true, false] (awakeregFr (.slice lo 3 lc) undef (.tuple #[.slice lo 3 lc, .int .i64 0]) (.agg #[.int .i64 2, .int .i64 1, .int .i64 16, .int .i64 8]) (.slice (some ⟨ga, 0, none⟩) 3 3) (.slice (some ⟨gb, 0, none⟩) 32 32) (.tuple #[.slice lo 3 lc, .int .i64 0]) (.slice lo 3 lc) (.int .i64 0)) w'
  dsimp only [awakeregFr]
  refine wpAnyH_take (i := 8) (oi := { dst := some 2, op := .assign (.tmp 9), type := 28, pos := "law.go:15", after := #[{ on := 6, ground := .data }, { on := 7, ground := .chain }, { on := 0, ground := .phase }, { on := 1, ground := .phase }, { on := 2, ground := .phase }, { on := 3, ground := .phase }, { on := 4, ground := .phase }, { on := 5, ground := .phase }, { on := 6, ground := .phase }, { on := 7, ground := .phase }], guard := none }) (v := .int .i64 0) rfl (by kernel_rfl) (by kernel_rfl) (by kernel_rfl) (fun _ _ _ h => (hQp _ _ _ h).elim) (Or.inl ⟨by kernel_rfl, ?_⟩) (HS1.out _) ?_
  ·intro w' hSw
   go_simp <;> first | with_reducible rfl | assumption
  show wpAnyH Tryz.prog .any wops Q S 0 #[true, true, true, true, true, true, true, true, true] (awakeregFr (.slice lo 3 lc) (.int .i64 0) (.tuple #[.slice lo 3 lc, .int .i64 0]) (.agg #[.int .i64 2, .int .i64 1, .int .i64 16, .int .i64 8]) (.slice (some ⟨ga, 0, none⟩) 3 3) (.slice (some ⟨gb, 0, none⟩) 32 32) (.tuple #[.slice lo 3 lc, .int .i64 0]) (.slice lo 3 lc) (.int .i64 0)) w'
  dsimp only [awakeregFr]
  refine wpAnyH_done (by kernel_rfl) ?_ _
  exact HQ.out _ lo lc T U ga gb (bth hb hw') (hp.mono hb.size)
 have H110 : Hid (∀ (v : World) (ga : Nat), Below w1.heap.size w1 v -> At w1 v ga z6 97 -> wpAnyH Tryz.prog .any wops Q S 7 #[true, true, false, false, false, false, false, false, false] (awakeregFr undef undef undef (.agg #[.int .i64 2, .int .i64 1, .int .i64 16, .int .i64 8]) (.slice (some ⟨ga, 0, none⟩) 3 3) undef undef undef undef) v) := fun v ga hb fa => by
  dsimp only [awakeregFr]
  refine wpAnyH_ready (rs := [2]) (by kernel_rfl) (by simp) ?_
  refine AllReadyH.cons (o := { dst := some 6, op := .makeSlice 36 (.const (.int .i64 32)) (.const (.int .i64 32)), type := 36, pos := "law.go:15", after := #[], guard := none }) rfl (fun K hK => ?_) AllReadyH.nil
  ·skip
   have hmk := mk_bytes v
   go_simp
   refine hK.out _ _ (HS1.out _) (fun hHeld => ?_)
   exact H111.out _ ga _ (b_alloc hb _) (fa.alloc _) (at_new hb _ _)
 have H101 : Hid (∀ (v : World) (gb : Nat), Below w1.heap.size w1 v -> At w1 v gb (byF 32 (fun _ => 0)).toArray 5 -> wpAnyH Tryz.prog .any wops Q S 7 #[true, false, true, false, false, false, false, false, false] (awakeregFr undef undef undef (.agg #[.int .i64 2, .int .i64 1, .int .i64 16, .int .i64 8]) undef (.slice (some ⟨gb, 0, none⟩) 32 32) undef undef undef) v) := fun v gb hb fb => by
  dsimp only [awakeregFr]
  refine wpAnyH_ready (rs := [1]) (by kernel_rfl) (by simp) ?_
  refine AllReadyH.cons (o := { dst := some 5, op := .makeSlice 24 (.const (.int .i64 3)) (.const (.int .i64 3)), type := 24, pos := "law.go:15", after := #[], guard := none }) rfl (fun K hK => ?_) AllReadyH.nil
  ·skip
   have hmk := mk_pairs v
   go_simp
   refine hK.out _ _ (HS1.out _) (fun hHeld => ?_)
   exact H111.out _ _ gb (b_alloc hb _) (at_new hb _ _) (fb.alloc _)
 have H011 : Hid (∀ (v : World) (ga gb : Nat), Below w1.heap.size w1 v -> At w1 v ga z6 97 -> At w1 v gb (byF 32 (fun _ => 0)).toArray 5 -> wpAnyH Tryz.prog .any wops Q S 7 #[false, true, true, false, false, false, false, false, false] (awakeregFr undef undef undef undef (.slice (some ⟨ga, 0, none⟩) 3 3) (.slice (some ⟨gb, 0, none⟩) 32 32) undef undef undef) v) := fun v ga gb hb fa fb => by
  dsimp only [awakeregFr]
  refine wpAnyH_ready (rs := [0]) (by kernel_rfl) (by simp) ?_
  refine AllReadyH.cons (o := { dst := some 4, op := .call { callee := .value (.func 66), args := #[], argTypes := #[] }, type := 23, pos := "law.go:15", after := #[], guard := none }) rfl (fun K hK => ?_) AllReadyH.nil
  ·skip
   go_simp
   refine (params_any v).mono ?_
   rintro e w' ⟨rfl, hw'⟩
   refine hK.out _ _ (HS1.out _) (fun hHeld => ?_)
   exact H111.out _ ga gb (bth hb hw') (fa.below hw') (fb.below hw')
 have H100 : Hid (∀ (v : World), Below w1.heap.size w1 v -> wpAnyH Tryz.prog .any wops Q S 8 #[true, false, false, false, false, false, false, false, false] (awakeregFr undef undef undef (.agg #[.int .i64 2, .int .i64 1, .int .i64 16, .int .i64 8]) undef undef undef undef undef) v) := fun v hb => by
  dsimp only [awakeregFr]
  refine wpAnyH_ready (rs := [1, 2]) (by kernel_rfl) (by simp) ?_
  refine AllReadyH.cons (o := { dst := some 5, op := .makeSlice 24 (.const (.int .i64 3)) (.const (.int .i64 3)), type := 24, pos := "law.go:15", after := #[], guard := none }) rfl (fun K hK => ?_) ?_
  rotate_left
  refine AllReadyH.cons (o := { dst := some 6, op := .makeSlice 36 (.const (.int .i64 32)) (.const (.int .i64 32)), type := 36, pos := "law.go:15", after := #[], guard := none }) rfl (fun K hK => ?_) AllReadyH.nil
  rotate_left
  ·skip
   have hmk := mk_pairs v
   go_simp
   refine hK.out _ _ (HS1.out _) (fun hHeld => ?_)
   exact H110.out _ _ (b_alloc hb _) (at_new hb _ _)
  ·skip
   have hmk := mk_bytes v
   go_simp
   refine hK.out _ _ (HS1.out _) (fun hHeld => ?_)
   exact H101.out _ _ (b_alloc hb _) (at_new hb _ _)
 have H010 : Hid (∀ (v : World) (ga : Nat), Below w1.heap.size w1 v -> At w1 v ga z6 97 -> wpAnyH Tryz.prog .any wops Q S 8 #[false, true, false, false, false, false, false, false, false] (awakeregFr undef undef undef undef (.slice (some ⟨ga, 0, none⟩) 3 3) undef undef undef undef) v) := fun v ga hb fa => by
  dsimp only [awakeregFr]
  refine wpAnyH_ready (rs := [0, 2]) (by kernel_rfl) (by simp) ?_
  refine AllReadyH.cons (o := { dst := some 4, op := .call { callee := .value (.func 66), args := #[], argTypes := #[] }, type := 23, pos := "law.go:15", after := #[], guard := none }) rfl (fun K hK => ?_) ?_
  rotate_left
  refine AllReadyH.cons (o := { dst := some 6, op := .makeSlice 36 (.const (.int .i64 32)) (.const (.int .i64 32)), type := 36, pos := "law.go:15", after := #[], guard := none }) rfl (fun K hK => ?_) AllReadyH.nil
  rotate_left
  ·skip
   go_simp
   refine (params_any v).mono ?_
   rintro e w' ⟨rfl, hw'⟩
   refine hK.out _ _ (HS1.out _) (fun hHeld => ?_)
   exact H110.out _ ga (bth hb hw') (fa.below hw')
  ·skip
   have hmk := mk_bytes v
   go_simp
   refine hK.out _ _ (HS1.out _) (fun hHeld => ?_)
   exact H011.out _ ga _ (b_alloc hb _) (fa.alloc _) (at_new hb _ _)
 have H001 : Hid (∀ (v : World) (gb : Nat), Below w1.heap.size w1 v -> At w1 v gb (byF 32 (fun _ => 0)).toArray 5 -> wpAnyH Tryz.prog .any wops Q S 8 #[false, false, true, false, false, false, false, false, false] (awakeregFr undef undef undef undef undef (.slice (some ⟨gb, 0, none⟩) 32 32) undef undef undef) v) := fun v gb hb fb => by
  dsimp only [awakeregFr]
  refine wpAnyH_ready (rs := [0, 1]) (by kernel_rfl) (by simp) ?_
  refine AllReadyH.cons (o := { dst := some 4, op := .call { callee := .value (.func 66), args := #[], argTypes := #[] }, type := 23, pos := "law.go:15", after := #[], guard := none }) rfl (fun K hK => ?_) ?_
  rotate_left
  refine AllReadyH.cons (o := { dst := some 5, op := .makeSlice 24 (.const (.int .i64 3)) (.const (.int .i64 3)), type := 24, pos := "law.go:15", after := #[], guard := none }) rfl (fun K hK => ?_) AllReadyH.nil
  rotate_left
  ·skip
   go_simp
   refine (params_any v).mono ?_
   rintro e w' ⟨rfl, hw'⟩
   refine hK.out _ _ (HS1.out _) (fun hHeld => ?_)
   exact H101.out _ gb (bth hb hw') (fb.below hw')
  ·skip
   have hmk := mk_pairs v
   go_simp
   refine hK.out _ _ (HS1.out _) (fun hHeld => ?_)
   exact H011.out _ _ gb (b_alloc hb _) (at_new hb _ _) (fb.alloc _)
 have H000 : Hid (∀ (v : World), Below w1.heap.size w1 v -> wpAnyH Tryz.prog .any wops Q S 9 #[false, false, false, false, false, false, false, false, false] (awakeregFr undef undef undef undef undef undef undef undef undef) v) := fun v hb => by
  dsimp only [awakeregFr]
  refine wpAnyH_ready (rs := [0, 1, 2]) (by kernel_rfl) (by simp) ?_
  refine AllReadyH.cons (o := { dst := some 4, op := .call { callee := .value (.func 66), args := #[], argTypes := #[] }, type := 23, pos := "law.go:15", after := #[], guard := none }) rfl (fun K hK => ?_) ?_
  rotate_left
  refine AllReadyH.cons (o := { dst := some 5, op := .makeSlice 24 (.const (.int .i64 3)) (.const (.int .i64 3)), type := 24, pos := "law.go:15", after := #[], guard := none }) rfl (fun K hK => ?_) ?_
  rotate_left
  refine AllReadyH.cons (o := { dst := some 6, op := .makeSlice 36 (.const (.int .i64 32)) (.const (.int .i64 32)), type := 36, pos := "law.go:15", after := #[], guard := none }) rfl (fun K hK => ?_) AllReadyH.nil
  rotate_left
  ·skip
   go_simp
   refine (params_any v).mono ?_
   rintro e w' ⟨rfl, hw'⟩
   refine hK.out _ _ (HS1.out _) (fun hHeld => ?_)
   exact H100.out _ (bth hb hw')
  ·skip
   have hmk := mk_pairs v
   go_simp
   refine hK.out _ _ (HS1.out _) (fun hHeld => ?_)
   exact H010.out _ _ (b_alloc hb _) (at_new hb _ _)
  ·skip
   have hmk := mk_bytes v
   go_simp
   refine hK.out _ _ (HS1.out _) (fun hHeld => ?_)
   exact H001.out _ _ (b_alloc hb _) (at_new hb _ _)
 refine wp_region_held_drew (S := S) (by kernel_rfl) (HS1.out _) (fun hHeld => ?_)
 have hb : Below w1.heap.size w1 w1.drew := bdw _ _
 rw [show wops.size = 9 from by kernel_rfl, show Array.replicate 9 false = #[false, false, false, false, false, false, false, false, false] from by kernel_rfl]
 exact H000.out _ hb
theorem awake_any (w : World) : Calls Tryz.prog 9 #[] w fun e w' => e = .returned (.bool true) /\ Below w.heap.size w w' := by
 go_enter Tryz.func9, Tryz.ntmps9
 go_wp2_with fail
 refine wp_region_noPanic (awake_reg w _ (fun _ _ _ h => h) (fun v lo lc T U ga gb hb hp => NoPanic.normal ?_))
 obtain ⟨gl, rfl⟩ : ∃ gl, lo = some ⟨gl, 0, none⟩ := by
  rcases hp.out.2 with ⟨_, e⟩ | ⟨gl, _, _, e, _⟩
  ·omega
  ·cases e; exact ⟨gl, rfl⟩
 have c8 : v.cell? ⟨gl, 8, none⟩ = some (.int .i64 2) := by
  have := hp.out.cells (g := gl) rfl 8 (.int .i64 2) rfl; rw [Addr.add_lit, Nat.zero_add] at this; exact this
 have c9 : v.cell? ⟨gl, 9, none⟩ = some (.int .i64 3) := by
  have := hp.out.cells (g := gl) rfl 9 (.int .i64 3) rfl; rw [Addr.add_lit, Nat.zero_add] at this; exact this
 have HB : Hid (Below w.heap.size w v) := hb
 clear hp hb
 go_wp2_with fail
 go_ret
 exact ⟨rfl, HB.out⟩
end Go.Proofs.YtemlojjkokooeaaGreat
