import Derived.Test.YtngcdlodcdgcaaaGreatZk38
namespace Go.Proofs.YtngcdlodcdgcaaaGreat
open Go.RowKit
structure Cls (B : Nat) (w : World) (ao : Option Addr) (n cap m : Nat) (T : Nat -> Option Addr) (U : Nat -> Nat) (H : Nat -> Nat -> UInt8) : Prop where
  out : w.ownsRow B 74 1 (.slice ao n cap) n (Cod.rowsOf n T (fun _ => m) U)
  row : ∀ i, i < n -> OwU B w (T i) m (U i) (H i)
  apart : ∀ i j a b, i < n -> j < n -> i ≠ j -> T i = some a -> T j = some b -> a.block ≠ b.block
theorem cls_of {B : Nat} {w : World} {ao : Option Addr} {n cap m : Nat} {T : Nat -> Option Addr} {U : Nat -> Nat} {H : Cod.M} (h : Cod.Copied w B n (.slice ao n cap) T (fun _ => m) U H) : Cls B w ao n cap m T U (fun i b => bK (H i b)) :=
  ⟨h.out, fun i hi => by have := h.row i hi; rw [cells_bK] at this; exact this, h.apart⟩
theorem cls_nil (B : Nat) (w : World) (m : Nat) (T : Nat -> Option Addr) (U : Nat -> Nat) (H : Nat -> Nat -> UInt8) : Cls B w none 0 0 m T U H := ⟨World.ownsRow_nil _ _ _ _, fun i hi => absurd hi (by omega), fun i _ _ _ hi => absurd hi (by omega)⟩
theorem Cls.mono {B B' : Nat} {w : World} {ao : Option Addr} {n cap m : Nat} {T : Nat -> Option Addr} {U : Nat -> Nat} {H : Nat -> Nat -> UInt8} (h : Cls B w ao n cap m T U H) (hb : B' <= B) : Cls B' w ao n cap m T U H := by
  refine ⟨⟨h.out.1, ?_⟩, fun i hi => (h.row i hi).mono hb, h.apart⟩
  rcases h.out.2 with h1 | ⟨g, cap', cur, h1, h2, h3⟩
  · exact .inl h1
  · exact .inr ⟨g, cap', cur, h1, by omega, h3⟩
def AnsC (w : World) (E : Int) (n m : Nat) (H : Nat -> Nat -> UInt8) (e : Ending) (w' : World) : Prop :=
  ∃ ao cap T U, e = .returned (.tuple #[.slice ao (lenE E n) cap, .int .i64 E]) /\ Cls w.heap.size w' ao (lenE E n) cap m T U H /\ Below w.heap.size w w'
def erL (k : Nat) (z : Nat -> Sl) (N : Nat) : Int := if k <= Cod.cnt (Lz z) N then 0 else 5
structure Zok (N : Nat) (c : Int) (z : Nat -> Sl) : Prop where
  dn : ∀ i, i < N -> ((z i).ce = 0 /\ (z i).dn = 0) \/ ((z i).ce ≠ 0 /\ (z i).dn = c.toNat)
theorem zok_of {N : Nat} {c : Int} {L : Nat -> Nat} {F : Nat -> Nat -> UInt8} {kd : UInt8} {v : Int} : Zok N c (zv N c L F kd v) := ⟨fun i hi => by
  rcases zz_is (kd := kd) (yy_ok N c L F) (tS (yy N c L F) kd v (2 * N)) hi with h | ⟨h, _⟩
  · unfold zv; rw [h]; exact .inl ⟨rfl, rfl⟩
  · refine .inr ⟨(ok_of h.1).ne, ?_⟩
    have := (ok_of h.1).dn
    unfold zv
    omega⟩
set_option maxHeartbeats 1000000 in
theorem dec_ans {k r c q : Int} {N W : Nat} (h : Par k r c q N W 0) (z : Nat -> Sl) (hz : Zok N c z) (w : World) (lo : Option Addr) (cl : Nat) (T : Nat -> Option Addr) (U : Nat -> Nat) (hl : Cod.Lst w lo N T U (Lz z) (Hz z)) :
    Calls Tryz.prog 133 #[.int .i64 k, .int .i64 r, .slice lo N cl] w (AnsC w (erL k.toNat z N) N c.toNat (cH k.toNat z N)) := by
  have HD := Cod.Decode_any w k r lo N cl T U (Lz z) (Hz z) hl
  obtain ⟨hc1, hc2⟩ := h.cell rfl
  rcases h with ⟨hm, _, hN, _⟩ | ⟨_, _, _, h0⟩
  · obtain ⟨h1, h2, h3, h4, h5, h6, h7, h8, h9⟩ := may_true hm
    have hL : ∀ i, i < N -> Lz z i = 0 \/ Lz z i = c.toNat := fun i hi => by
      rcases hz.dn i hi with ⟨_, a⟩ | ⟨_, a⟩
      · exact .inl a
      · exact .inr a
    obtain ⟨g1, g2⟩ := Cod.okT_of (show c.toNat ≠ 0 by omega) (by omega) hL
    have e1 : Cod.mayB k r = true := decide_eq_true (by omega)
    have e2 : Cod.okC N (Lz z) (k + r) = true := by unfold Cod.okC; rw [g1]; simp; omega
    have e3 : k.toNat + r.toNat = N := by omega
    rw [e1, e2, e3] at HD
    unfold AnsC erL
    by_cases hk : k.toNat <= Cod.cnt (Lz z) N
    · have e4 : Cod.okDec N (Lz z) k r = true := by unfold Cod.okDec; rw [e1, e2]; simp; omega
      have e5 : Cod.len0 (Lz z) N = c.toNat := by
        rcases Cod.len0_sel (Lz z) N with ⟨e, _⟩ | ⟨_, _, e⟩
        · omega
        · exact g2.resolve_left e
      rw [e4, e5] at HD
      rw [if_pos hk]
      refine HD.mono ?_
      rintro e w' ⟨ao, cap, T', U', rfl, hcop, hb⟩
      exact ⟨ao, cap, T', U', rfl, cls_of hcop, hb⟩
    · have e4 : Cod.okDec N (Lz z) k r = false := by unfold Cod.okDec; rw [decide_eq_false (by omega)]; simp
      rw [e4] at HD
      rw [if_neg hk]
      refine HD.mono ?_
      rintro e w' ⟨ao, cap, T', U', rfl, hcop, hb⟩
      have hn : ao = none /\ cap = 0 \/ True := .inr trivial
      refine ⟨ao, cap, T', U', rfl, ⟨hcop.out, fun i hi => absurd hi (by show ¬ i < 0; omega), fun i _ _ _ hi => absurd hi (by show ¬ i < 0; omega)⟩, hb⟩
  · exact absurd h0 (by decide)
set_option maxHeartbeats 4000000 in
set_option maxRecDepth 100000 in
theorem cells_any {k r c q : Int} {N W : Nat} (h : Par k r c q N W 0) (w : World) (ro : Option Addr) (rc : Nat) (A : Nat -> Option Addr) (L C : Nat -> Nat) (F : Nat -> Nat -> UInt8) (hr : Rw w ro N A L C F) (hL : ∀ j, j < 2 * N -> L j = 0 \/ L j = sz N c) (kd : UInt8) (hk : kd = 1 \/ kd = 2) (v : Int) :
    Calls Tryz.prog 115 #[stv k r c q ro N rc kd, .int .i64 v] w (AnsC w (erL k.toNat (zv N c L F kd v) N) N c.toNat (cH k.toNat (zv N c L F kd v) N)) := by
  have hle := h.le
  obtain ⟨z, hz⟩ : ∃ z, z = zv N c L F kd v := ⟨_, rfl⟩
  have HEA : Hid (∀ wf gp, Below w.heap.size w wf -> Cap w wf gp 24 74 1 0 [] (fun x => x = gp) -> Calls Tryz.prog 131 #[stv k r c q ro N rc kd, .int .i64 v, .func (.func 132) #[] #[.pointer (some ⟨gp, 0, none⟩)]] wf fun e w' => e = .returned (.tuple #[]) /\ ∃ Y, Thr w gp z N w' Y /\ Only (fun x => x = gp) wf w' /\ ∀ g, Y g -> g = gp \/ wf.heap.size <= g) := fun wf gp hb hc => by
    rw [hz]
    refine each_any h w wf hb ro rc A L C F hr hL kd hk v _ rfl 132 _ (Thr w gp (zv N c L F kd v)) ⟨fun _ _ => rfl, fun d a b Y hI hb => ?_, fun d a Y hI g hg => ?_, fun d hd u Y B hI _ hB ao ca bo cb hg => ?_⟩ _ ⟨fun _ => none, fun _ => 0, hc, fun i hi => absurd hi (by omega)⟩
    · obtain ⟨T, U, h1, h2⟩ := hI
      exact ⟨T, U, h1.below hb, fun i hi => (h2 i hi).below hb⟩
    · obtain ⟨T, U, h1, _⟩ := hI
      exact h1.at_ g hg
    · exact cells1_any w u gp d B (zv N c L F kd v) Y _ _ _ (by omega) ao ca bo cb hI hg.bec hB
  have HDD : Hid (∀ u lo cl T U, Cod.Lst u lo N T U (Lz z) (Hz z) -> Calls Tryz.prog 133 #[.int .i64 k, .int .i64 r, .slice lo N cl] u (AnsC u (erL k.toNat z N) N c.toNat (cH k.toNat z N))) := fun u lo cl T U hl => dec_ans h z (by rw [hz]; exact zok_of) u lo cl T U hl
  rw [<- hz]
  obtain ⟨w0, hw0⟩ : ∃ w0, w0 = w.alloc (.cells #[.int .i64 k, .int .i64 r, .int .i64 c, .int .i64 q, .slice ro N rc, .int .u8 ((kd.toNat : Nat) : Int)] 186) := ⟨_, rfl⟩
  obtain ⟨w1, hw1⟩ : ∃ w1, w1 = w0.alloc (.cells #[.slice none 0 0] 24) := ⟨_, rfl⟩
  have b0 : Below w.heap.size w w0 := by rw [hw0]; exact below_alloc _ _
  have z0 : w0.heap.size = w.heap.size + 1 := by rw [hw0]; simp
  have b1 : Below w.heap.size w w1 := by rw [hw1]; exact below_then b0 (below_alloc _ _)
  have hE2 := HEA.out w1 (w.heap.size + 1) b1 (cap_new b0 hw1 z0)
  have HB1 : Hid (Below w.heap.size w w1) := b1
  have L0 : Hid (At w w1 w.heap.size #[.int .i64 k, .int .i64 r, .int .i64 c, .int .i64 q, .slice ro N rc, .int .u8 ((kd.toNat : Nat) : Int)] 186) := (at_made (Below.refl _ _) hw0).below (by rw [hw1]; exact below_alloc _ _)
  clear h hr hL hk hz b0 b1 z0 HEA
  unfold AnsC at HDD ⊢
  unfold stv at hE2 ⊢
  go_enter Tryz.func115, Tryz.ntmps115
  go_wp2_with fail
  rw [<- hw0, <- hw1]
  clear hw0 hw1
  refine hE2.mono ?_
  rintro e wf ⟨rfl, Y, ⟨T, U, ⟨ao, cap, hAt, hown, _⟩, hT⟩, hO, _⟩
  have q0 : At w wf w.heap.size _ 186 := L0.out.only hO (by omega)
  have p0 := q0.cell (i := 0) rfl
  have p1 := q0.cell (i := 1) rfl
  have s0 := hAt.cell (i := 0) rfl
  have hD := HDD.out wf ao cap T U (Cod.owns_lst hown (fun i hi => rd_toK (hT i hi).bec.rd))
  have HBF : Hid (Below w.heap.size w wf) := HB1.out.trans (hO.below (fun i hi => by omega) HB1.out.size)
  clear hO hAt hown hT q0
  go_wp2_with fail
  refine hD.mono ?_
  rintro e wd ⟨ao', cap', T', U', rfl, hc', hb'⟩
  go_wp2_with fail
  go_ret2
  exact ⟨ao', cap', T', U', rfl, hc'.mono HBF.out.size, below_then HBF.out hb'⟩
end Go.Proofs.YtngcdlodcdgcaaaGreat
namespace Go.Proofs.YtngcdlodcdgcaaaGreat
open Go.RowKit
def erV2 (E L : Int) : Int := if E = 0 then L else E
set_option maxHeartbeats 4000000 in
set_option maxRecDepth 100000 in
theorem Cells_any {k r c q : Int} {N W : Nat} {x : Int} (h : Par k r c q N W x) (w : World) (ro : Option Addr) (rn rc : Nat) (A : Nat -> Option Addr) (L C : Nat -> Nat) (F : Nat -> Nat -> UInt8) (hr : Rw w ro rn A L C F) (kd : UInt8) (v : Int) (E : Int) (hE : erV2 (erK x N c rn L kd v) (erL k.toNat (zv N c L F kd v) N) = E) :
    Calls Tryz.prog 101 #[.agg #[.int .i64 k, .int .i64 r, .int .i64 c, .int .i64 q], .slice ro rn rc, .int .u8 ((kd.toNat : Nat) : Int), .int .i64 v] w (AnsC w E N c.toNat (cH k.toNat (zv N c L F kd v) N)) := by
  obtain ⟨D, hD⟩ : ∃ D, erK x N c rn L kd v = D := ⟨_, rfl⟩
  have HA : Hid (∀ u, Below w.heap.size w u -> Calls Tryz.prog 114 #[.agg #[.int .i64 k, .int .i64 r, .int .i64 c, .int .i64 q], .slice ro rn rc, .int .u8 ((kd.toNat : Nat) : Int), .int .i64 v] u fun e w' => e = .returned (.tuple #[if D = 0 then stv k r c q ro rn rc kd else stz, .int .i64 D]) /\ Below u.heap.size u w') := fun u hu => asked_any h u ro rn rc A L C F (hr.below hu) kd v D hD
  rw [hD] at hE
  unfold erV2 at hE
  obtain ⟨w0, hw0⟩ : ∃ w0, w0 = w.alloc (.cells #[.int .i64 k, .int .i64 r, .int .i64 c, .int .i64 q] 23) := ⟨_, rfl⟩
  have B0 : Hid (Below w.heap.size w w0) := by show Below _ _ _; rw [hw0]; exact below_alloc _ _
  by_cases he : D = 0
  · subst he
    rw [if_pos rfl] at hE HA
    obtain ⟨hR, hk, _⟩ := erK_zero hD
    obtain ⟨rfl, rfl, hL⟩ := erR_zero hR
    have HC : Hid (∀ u, Below w.heap.size w u -> Calls Tryz.prog 115 #[stv k r c q ro rn rc kd, .int .i64 v] u (AnsC u E rn c.toNat (cH k.toNat (zv rn c L F kd v) rn))) := fun u hu => by
      rw [<- hE]; exact cells_any h u ro rc A L C F (hr.below hu) hL kd hk v
    generalize cH k.toNat (zv rn c L F kd v) rn = H at *
    clear h hr hE hD hR hL hk
    unfold stv at HA HC
    unfold AnsC at HC ⊢
    go_enter Tryz.func101, Tryz.ntmps101
    go_wp2_with fail
    rw [<- hw0]
    clear hw0
    refine (HA.out _ B0.out).mono ?_
    rintro e wa ⟨rfl, ha⟩
    obtain ⟨w2, hw2⟩ : ∃ w2, w2 = wa.alloc (.cells #[.int .i64 k, .int .i64 r, .int .i64 c, .int .i64 q, .slice ro rn rc, .int .u8 ((kd.toNat : Nat) : Int)] 186) := ⟨_, rfl⟩
    have HB2 : Hid (Below w.heap.size w w2) := by show Below _ _ _; rw [hw2]; exact below_then (below_then B0.out ha) (below_alloc _ _)
    go_wp2_with fail
    rw [<- hw2]
    clear hw2 ha
    refine (HC.out _ HB2.out).mono ?_
    rintro e wf ⟨ao, cap, T, U, rfl, hc, hb⟩
    go_wp2_with fail
    go_ret2
    exact ⟨ao, cap, T, U, rfl, hc.mono HB2.out.size, below_then HB2.out hb⟩
  · rw [if_neg he] at hE HA
    subst hE
    have e1 : (D != 0) = true := by simp [he]
    generalize cH k.toNat (zv N c L F kd v) N = H at *
    clear h hr hD
    unfold stz at HA
    unfold AnsC
    rw [show lenE D N = 0 from if_neg he]
    go_enter Tryz.func101, Tryz.ntmps101
    go_wp2_with fail
    rw [<- hw0]
    clear hw0
    refine (HA.out _ B0.out).mono ?_
    rintro e wa ⟨rfl, ha⟩
    go_wp2_with fail
    go_ret2
    exact ⟨none, 0, fun _ => none, fun _ => 0, rfl, cls_nil _ _ _ _ _ _, below_then (below_then B0.out ha) (below_alloc _ _)⟩
theorem wpList_append_bytes {w : World} {ops : Array Oper} {rest : List Oper} {o : Oper} {a : Act} {Q : Exit -> Act -> World -> Prop} (hgd : o.guard = none) (s x : Operand)
    (ho : o.op = .call { callee := .builtin .append, args := #[s, x], argTypes := #[74, 74] }) (B k n ca cb : Nat) (ao bo : Option Addr) (xs : List Value) (F : Nat -> UInt8)
    (hs : a.eval s = .slice ao k ca) (hx : a.eval x = .slice bo n cb) (h : w.ownsRow B 5 1 (.slice ao k ca) k xs) (hv : Bec w bo n cb F) (hk : k <= 100000) (hn : n <= 100000) (hB : B <= w.heap.size)
    (cont : ∀ ao' c' w', w'.ownsRow B 5 1 (.slice ao' (k + n) c') (k + n) (xs ++ byF n F) -> w.grownBy w' (Value.slice ao k ca).ownBlock -> wpList Tryz.prog ops Q rest (a.put o.dst (.slice ao' (k + n) c')) w') : wpList Tryz.prog ops Q (o :: rest) a w := by
  obtain ⟨j0, hj, hj0, hj1, hj2⟩ := info_parts info5
  cases bo with
  | none =>
    obtain ⟨rfl, rfl⟩ := hv.nil rfl
    have := cont ao ca w (by rw [show byF 0 F = [] from rfl, List.append_nil]; exact h) ⟨rfl, rfl, rfl, Nat.le_refl _, fun _ _ _ => rfl⟩
    exact wpList_append_own_none hgd s x 74 ho B 5 j0 1 Tryz.underlying74 hj (.slice ao k ca) k xs hs h hx this
  | some ad =>
    refine wpList_append_own w hgd s x 74 ho B 5 j0 (.int .u8 0) 1 1 Tryz.underlying74 hj hj0 hj1 hj2 rfl (by decide) (.slice ao k ca) k xs hs h ad n cb (byF n F) hx (by rw [byF_length, Nat.mul_one]) (bec_news hv) (byF_one _ _) (by unfold maxLen; omega) (by omega) hB ?_
    intro v' w' h1 h2 _
    obtain ⟨ao', c', rfl⟩ : ∃ ao' c', v' = .slice ao' (k + n) c' := by
      rcases h1.2 with ⟨rfl, e⟩ | ⟨g, cap, cur, rfl, _⟩
      · rw [e]; exact ⟨none, 0, rfl⟩
      · exact ⟨_, cap, rfl⟩
    exact cont ao' c' w' h1 h2
theorem zero_size5 (m n : Nat) : (Builtin.zeroCells (Value.int .u8 0).cells m ++ Builtin.zeroCells (Value.int .u8 0).cells n).size = (m + n) * 1 := by
  rw [Array.size_append, size_zeroCells, size_zeroCells]
  have : (Value.int .u8 0).cells.size = 1 := rfl
  rw [this]; omega
set_option maxHeartbeats 1000000 in
set_option maxRecDepth 100000 in
theorem grow_any (w : World) (n : Nat) (hn : n <= 10000) :
    Calls Tryz.prog 116 #[.slice none 0 0, .int .i64 (n : Int)] w fun e w' => ∃ ao cap, e = .returned (.slice ao 0 cap) /\ w'.ownsRow w.heap.size 5 1 (.slice ao 0 cap) 0 [] /\ Below w.heap.size w w' := by
  by_cases h0 : n = 0
  · subst h0
    go_enter Tryz.func116, Tryz.ntmps116
    go_wp2
    go_ret
    exact ⟨none, 0, rfl, World.ownsRow_nil _ _ _ _, Below.refl _ _⟩
  · obtain ⟨j0, hj, hj0, hj1, hj2⟩ := info_parts info5
    have hr := fun ty => Lib.run_append_nil_zeros (P := Tryz.prog) w 74 3 ty 5 j0 (.int .u8 0) .i64 .i64 Tryz.underlying74 Tryz.underlying3 hj hj0 n (by omega) (by rw [hj1]; decide) (by omega) (by rw [hj2]; omega)
    have hc1 := grownCap_ge w n 0 5
    have hc2 := grownCap_le_maxLen w n 0 5 (by unfold maxLen; omega)
    obtain ⟨cp, hcp⟩ : ∃ c, c = grownCap w n 0 5 := ⟨_, rfl⟩
    rw [<- hcp] at hr hc1 hc2
    obtain ⟨w1, hw1⟩ : ∃ w1, w1 = w.drew.alloc (.cells (Builtin.zeroCells (Value.int .u8 0).cells n ++ Builtin.zeroCells (Value.int .u8 0).cells (cp - n)) 5) := ⟨_, rfl⟩
    rw [<- hw1] at hr
    have HO : Hid (w1.ownsRow w.heap.size 5 1 (.slice (some ⟨w.heap.size, 0, none⟩) 0 cp) 0 []) := by
      refine ⟨rfl, .inr ⟨w.heap.size, cp, _, rfl, Nat.le_refl _, by rw [hw1]; exact heap_alloc_new w.drew _, Nat.zero_le _, hc2, ?_, by simp⟩⟩
      rw [zero_size5, Nat.add_sub_cancel' hc1]
    have HB : Hid (Below w.heap.size w w1) := by rw [hw1]; exact (below_drew _ w).alloc (Nat.le_refl _) _
    clear hw1 hcp hj hj0 hj1 hj2 hc2
    have hpos : (0 : Int) < (n : Int) := by omega
    go_enter Tryz.func116, Tryz.ntmps116
    go_wp2_with (at_builtin; refine Lib.wpList_append_run _ (by rfl) (.tmp 20) (.tmp 21) 74 3 (by rfl) (.slice none 0 0) (.int .i64 (n : Int)) (by rfl) (by rfl) _ _ (hr _) ?_)
    go_ret
    exact ⟨_, _, rfl, HO.out, HB.out⟩
def cat2 (m : Nat) (H : Nat -> Nat -> UInt8) (b : Nat) : UInt8 := H (b / m) (b % m)
theorem cat2_succ (m : Nat) (hm : 0 < m) (H : Nat -> Nat -> UInt8) (i : Nat) : byF (i * m + m) (cat2 m H) = byF (i * m) (cat2 m H) ++ byF m (H i) := by
  rw [byF_add]
  congr 1
  refine byF_congr fun b hb => ?_
  unfold cat2
  rw [Nat.mul_comm i m, Nat.mul_add_div hm, Nat.mul_add_mod, Nat.div_eq_of_lt hb, Nat.mod_eq_of_lt hb, Nat.add_zero]
theorem mul_le16 {i n m : Nat} (h : i <= n) (hn : n <= 16) (hm : m <= 64) : i * m <= 1024 := Nat.le_trans (Nat.mul_le_mul (Nat.le_trans h hn) hm) (by decide)
set_option maxHeartbeats 4000000 in
set_option maxRecDepth 100000 in
theorem concat_any (w : World) (lo : Option Addr) (n cl m : Nat) (T : Nat -> Option Addr) (U : Nat -> Nat) (H : Nat -> Nat -> UInt8) (hn : n <= 16) (hm0 : 0 < m) (hm : m <= 64) (hl : RdC w lo n T (fun _ => m) U) (hb : ∀ i, i < n -> Bec w (T i) m (U i) (H i)) :
    Calls Tryz.prog 102 #[.slice lo n cl] w fun e w' => ∃ ao cap, e = .returned (.slice ao (n * m) cap) /\ OwU w.heap.size w' ao (n * m) cap (cat2 m H) /\ Below w.heap.size w w' := by
  have HL : Hid (RdC w lo n T (fun _ => m) U) := hl
  have HB : Hid (∀ i, i < n -> Bec w (T i) m (U i) (H i)) := hb
  have HMU : Hid (∀ i, i <= n -> i * m <= 1024) := fun i hi => mul_le16 hi hn hm
  have HCS : Hid (∀ i, byF (i * m + m) (cat2 m H) = byF (i * m) (cat2 m H) ++ byF m (H i)) := cat2_succ m hm0 H
  clear hl hb
  go_enter Tryz.func102, Tryz.ntmps102
  go_wp2
  go_loop [3, 11] (fun s x => ∃ i : Nat, i <= n /\ x = .int .i64 (i : Int) /\ ∃ t : Nat, s = .int .i64 (t : Int) /\ Hid (t = i * m)) (fun _ x => n - (intOf x).toNat)
  case atStart => exact ⟨0, Nat.zero_le _, rfl, 0, rfl, by show _ = _; rw [Nat.zero_mul]⟩
  case round =>
    obtain ⟨i, hi, rfl, t, rfl, ht⟩ := hrel
    have htm : t <= 1024 := by rw [ht.out]; exact HMU.out i hi
    by_cases hlt : i < n
    · obtain ⟨b, off, rfl, hcc⟩ := HL.out (by omega)
      have ck := hcc i hlt
      have i1 : (0 : Int) <= (i : Int) := by omega
      have i2 : (i : Int) < (n : Int) := by omega
      have hneg : ¬ (t : Int) + (m : Int) < 0 := by omega
      clear hcc
      go_wp2
      go_round
      case rel => exact ⟨i + 1, by omega, by go_num, t + m, by go_num, by show _ = _; rw [ht.out, Nat.succ_mul]⟩
      case measure => simp [intOf]; omega
    · obtain rfl : i = n := by omega
      have HG := grow_any w t (by omega)
      go_wp2_with (go_at_call 116; refine HG.mono ?_; rintro e w1 ⟨ao, cap, rfl, hown, hb⟩)
      have HO1 : Hid (w1.ownsRow w.heap.size 5 1 (.slice ao 0 cap) 0 []) := hown
      have HB1 : Hid (Below w.heap.size w w1) := hb
      clear hown hb HG
      go_loopw [6, 27] (fun v x wr => ∃ j : Nat, j <= i /\ x = .int .i64 (j : Int) /\ ∃ s ao c, v = .slice ao s c /\ Hid (s = j * m) /\ Hid (wr.ownsRow w.heap.size 5 1 (.slice ao s c) s (byF (j * m) (cat2 m H))) /\ Hid (Below w.heap.size w wr)) (fun _ x _ => i - (intOf x).toNat)
      case atStart => exact ⟨0, Nat.zero_le _, rfl, 0, ao, cap, rfl, by show _ = _; rw [Nat.zero_mul], by rw [Nat.zero_mul]; exact HO1.out, HB1.out⟩
      case round =>
        obtain ⟨j, hj, rfl, s, ao, c, rfl, hs, hown, hbel⟩ := hrel
        by_cases hlt2 : j < i
        · obtain ⟨b, off, rfl, hcc⟩ := HL.out (by omega)
          have d0 : wr.cell? ⟨b, off + j, none⟩ = some (.slice (T j) m (U j)) := held (hcc j hlt2) hbel.out
          have hbec := (HB.out j hlt2).below hbel.out
          have HBE : Hid (Bec wr (T j) m (U j) (H j)) := hbec
          have hws := hbel.out.size
          have hsm : s <= 1024 := by rw [hs.out]; exact HMU.out j hj
          obtain ⟨XS, hXS⟩ : ∃ X, X = byF (j * m) (cat2 m H) := ⟨_, rfl⟩
          have HO : Hid (wr.ownsRow w.heap.size 5 1 (.slice ao s c) s XS) := by rw [hXS]; exact hown.out
          have HXS : Hid (XS ++ byF m (H j) = byF ((j + 1) * m) (cat2 m H)) := by show _ = _; rw [hXS, Nat.succ_mul, HCS.out]
          have i1 : (0 : Int) <= (j : Int) := by omega
          have i2 : (j : Int) < (i : Int) := by omega
          clear hXS hown hbec hcc
          go_wp2_with (at_builtin; refine wpList_append_bytes (by rfl) (.tmp 31) (.tmp 32) (by rfl) w.heap.size s m c (U j) ao (T j) XS (H j) (by rfl) (by rfl) HO.out HBE.out (by omega) (by omega) (by omega) ?_; intro ao' c' w' hown' hgrow')
          have HO2 : Hid (w'.ownsRow w.heap.size 5 1 (.slice ao' (s + m) c') (s + m) (byF ((j + 1) * m) (cat2 m H))) := by rw [<- HXS.out]; exact hown'
          have HB2 : Hid (Below w.heap.size w w') := hbel.out.grown hgrow' hws (fun r hr => (HO.out.lt r hr).1)
          clear hown' hgrow'
          go_roundw
          case rel => exact ⟨j + 1, by omega, by go_num, s + m, ao', c', rfl, by show _ = _; rw [hs.out, Nat.succ_mul], HO2.out, HB2.out⟩
          case measure => simp [intOf]; omega
        · obtain rfl : j = i := by omega
          go_wp2
          go_ret
          rw [<- hs.out]
          exact ⟨ao, c, rfl, by have := hown.out; rw [<- hs.out] at this; exact this, hbel.out⟩
end Go.Proofs.YtngcdlodcdgcaaaGreat
