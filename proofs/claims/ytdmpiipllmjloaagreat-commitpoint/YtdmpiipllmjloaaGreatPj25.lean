import Derived.Test.YtdmpiipllmjloaaGreatPj24
namespace Go.Proofs.YtdmpiipllmjloaaGreat
open Go.RowKit
theorem Cls.rdc {B : Nat} {w : World} {ao : Option Addr} {n cap m : Nat} {T : Nat -> Option Addr} {U : Nat -> Nat} {H : Nat -> Nat -> UInt8} (h : Cls B w ao n cap m T U H) {j : Nat} (hj : j <= n) : RdC w ao j T (fun _ => m) U := fun hp => by
  rcases h.out.2 with ⟨_, h1⟩ | ⟨g, cap', cur, h1, _⟩
  · omega
  · cases h1
    refine ⟨g, 0, rfl, fun i hi => ?_⟩
    have := h.out.cells (g := g) rfl i _ (Cod.rowsOf_get n T (fun _ => m) U i (by omega))
    rwa [Addr.add_lit] at this
theorem Cls.room {B : Nat} {w : World} {ao : Option Addr} {n cap m : Nat} {T : Nat -> Option Addr} {U : Nat -> Nat} {H : Nat -> Nat -> UInt8} (h : Cls B w ao n cap m T U H) : n <= cap := by
  rcases h.out.2 with ⟨h0, h1⟩ | ⟨g, cap', cur, h1, _, _, h4, _⟩
  · omega
  · cases h1; exact h4
set_option maxHeartbeats 4000000 in
set_option maxRecDepth 100000 in
theorem Read_any {k r c q : Int} {N W : Nat} {x : Int} (h : Par k r c q N W x) (w : World) (ro : Option Addr) (rn rc : Nat) (A : Nat -> Option Addr) (L C : Nat -> Nat) (F : Nat -> Nat -> UInt8) (hr : Rw w ro rn A L C F) (kd : UInt8) (v : Int) (E : Int) (hE : erV2 (erK x N c rn L kd v) (erL k.toNat (zv N c L F kd v) N) = E) :
    Calls Tryz.prog 22 #[.agg #[.int .i64 k, .int .i64 r, .int .i64 c, .int .i64 q], .slice ro rn rc, .int .u8 ((kd.toNat : Nat) : Int), .int .i64 v] w (AnsB w E (k.toNat * c.toNat) (cat2 c.toNat (cH k.toNat (zv N c L F kd v) N))) := by
  have HC : Hid (∀ u, Below w.heap.size w u -> Calls Tryz.prog 41 #[.agg #[.int .i64 k, .int .i64 r, .int .i64 c, .int .i64 q], .slice ro rn rc, .int .u8 ((kd.toNat : Nat) : Int), .int .i64 v] u (AnsC u E N c.toNat (cH k.toNat (zv N c L F kd v) N))) := fun u hu => Cells_any h u ro rn rc A L C F (hr.below hu) kd v E hE
  have hx : E = 0 -> 1 <= k /\ k <= N /\ N <= 16 /\ 8 <= c /\ c <= 64 := fun e => by
    have h0 : erK x N c rn L kd v = 0 := by
      unfold erV2 at hE
      by_cases g : erK x N c rn L kd v = 0
      · exact g
      · rw [if_neg g] at hE; rw [hE]; exact e
    obtain ⟨rfl, _⟩ := erR_zero (erK_zero h0).1
    have hle := h.le
    obtain ⟨c1, c2⟩ := h.cell rfl
    rcases h with ⟨hm, _, hN, _⟩ | ⟨_, _, _, h0⟩
    · obtain ⟨h1, h2, h3, h4, h5, h6, h7, h8, h9⟩ := may_true hm
      omega
    · exact absurd h0 (by decide)
  obtain ⟨w0, hw0⟩ : ∃ w0, w0 = w.alloc (.cells #[.int .i64 k, .int .i64 r, .int .i64 c, .int .i64 q] 23) := ⟨_, rfl⟩
  have B0 : Hid (Below w.heap.size w w0) := by show Below _ _ _; rw [hw0]; exact below_alloc _ _
  have L0 : Hid (∀ v, Below w0.heap.size w0 v -> At w v w.heap.size #[.int .i64 k, .int .i64 r, .int .i64 c, .int .i64 q] 23) := fun v hv => (at_made (Below.refl _ _) hw0).below hv
  generalize cH k.toNat (zv N c L F kd v) N = H at *
  clear h hr hE
  unfold AnsC at HC
  unfold AnsB
  by_cases he : E = 0
  · subst he
    obtain ⟨k1, k2, k3, c1, c2⟩ := hx rfl
    obtain ⟨K, rfl⟩ := Int.eq_ofNat_of_zero_le (show 0 <= k by omega)
    rw [Int.toNat_natCast]
    obtain ⟨m, hm⟩ : ∃ m, m = c.toNat := ⟨_, rfl⟩
    rw [<- hm] at HC ⊢
    have m1 : 0 < m := by omega
    have m2 : m <= 64 := by omega
    have e0 : lenE 0 N = N := if_pos rfl
    rw [e0] at HC
    rw [show lenE 0 (K * m) = K * m from if_pos rfl]
    clear hm hx e0
    go_enter Tryz.func22, Tryz.ntmps22
    go_wp2_with fail
    rw [<- hw0]
    clear hw0
    refine (HC.out _ B0.out).mono ?_
    rintro e wa ⟨ao, cap, T, U, rfl, hc, ha⟩
    have p0 := (L0.out wa ha).cell (i := 0) rfl
    have hroom := hc.room
    have hX := concat_any wa ao K cap m T U H (by omega) m1 m2 (hc.rdc (by omega)) (fun i hi => (hc.row i (by omega)).bec)
    have i1 : (0 : Int) <= (K : Int) := by omega
    have i2 : (K : Int) <= (cap : Int) := by omega
    have HBA : Hid (Below w.heap.size w wa) := below_then B0.out ha
    clear hc ha
    go_wp2_with fail
    refine hX.mono ?_
    rintro e wb ⟨bo, cb, rfl, hown, hb⟩
    go_wp2_with fail
    go_ret2
    exact ⟨bo, cb, rfl, hown.mono HBA.out.size, below_then HBA.out hb⟩
  · have e1 : (E != 0) = true := by simp [he]
    rw [show lenE E (k.toNat * c.toNat) = 0 from if_neg he]
    rw [show lenE E N = 0 from if_neg he] at HC
    clear hx
    go_enter Tryz.func22, Tryz.ntmps22
    go_wp2_with fail
    rw [<- hw0]
    clear hw0
    refine (HC.out _ B0.out).mono ?_
    rintro e wa ⟨ao, cap, T, U, rfl, hc, ha⟩
    go_wp2_with fail
    go_ret2
    exact ⟨none, 0, rfl, owu_nil _ _ _, below_then B0.out ha⟩
def slC (kd : UInt8) (N : Nat) (X : Nat -> Int) (m : Nat) (G : Nat -> UInt8) (i : Nat) : Sl := ⟨kd, (i : Int), X i, mx X N, N, X, m, G⟩
theorem slC_ok {N : Nat} {c : Int} {kd : UInt8} {X : Nat -> Int} {G : Nat -> UInt8} {i : Nat} (hk : kd = 1 \/ kd = 2) (hX : ∀ j, j < N -> 1 <= X j /\ X j <= 1073741824) (hi : i < N) (hc : 0 <= c) : Ok N c (slC kd N X c.toNat G i) :=
  ⟨rfl, hX, hk, ⟨by show (0 : Int) <= (i : Int); omega, by show (i : Int) < (N : Int); omega⟩, by show ((c.toNat : Nat) : Int) = c; omega, rfl, by show X i = X (i : Int).toNat; rw [Int.toNat_natCast]⟩
set_option maxHeartbeats 4000000 in
set_option maxRecDepth 100000 in
theorem bytes_any {k r c q : Int} {N W : Nat} (h : Par k r c q N W 0) (w : World) (ro : Option Addr) (rn rc : Nat) (kd : UInt8) (hk : kd = 1 \/ kd = 2) (i : Nat) (hi : i < N) (vo : Option Addr) (vc : Nat) (X : Nat -> Int) (hv : Vec w vo N vc X) (hX : ∀ j, j < N -> 1 <= X j /\ X j <= 1073741824) (bo : Option Addr) (cb : Nat) (G : Nat -> UInt8) (hb : Bec w bo c.toNat cb G) :
    Calls Tryz.prog 75 #[stv k r c q ro rn rc kd, .int .i64 (i : Int), .slice vo N vc, .slice bo c.toNat cb] w fun e w' => ∃ ao cap, e = .returned (.slice ao (sz N c) cap) /\ OwU w.heap.size w' ao (sz N c) cap (enc (slC kd N X c.toNat G i)) /\ Below w.heap.size w w' := by
  obtain ⟨hc1, hc2⟩ := h.cell rfl
  have hok : okS N c (slC kd N X c.toNat G i) = true := (slC_ok hk hX hi (by omega)).ok
  have HLA : Hid (∀ u, Below w.heap.size w u -> Calls Tryz.prog 87 #[.agg #[.int .i64 k, .int .i64 r, .int .i64 c, .int .i64 q], .slice vo N vc] u (TellI u 0 (mx X N))) := fun u hu => by
    refine Last_any h u vo N vc X (hv.below hu) 0 ?_
    unfold erV
    rw [if_pos rfl, if_pos]
    exact decide_eq_true ⟨rfl, hX⟩
  have HBY : Hid (∀ u, Below w.heap.size w u -> Calls Tryz.prog 104 #[.agg #[.int .i64 k, .int .i64 r, .int .i64 c, .int .i64 q], slv (slC kd N X c.toNat G i) vo vc bo cb] u (AnsB u 0 (sz N c) (enc (slC kd N X c.toNat G i)))) := fun u hu => by
    refine Bytes_any h u (slC kd N X c.toNat G i) vo vc bo cb ⟨hv.below hu, hb.below hu⟩ 0 ?_
    unfold erS
    rw [if_pos rfl, if_pos hok]
  obtain ⟨vb, voff, rfl, hvc⟩ := hv.rd (show 0 < N by omega)
  have cv := hvc i hi
  obtain ⟨w0, hw0⟩ : ∃ w0, w0 = w.alloc (.cells #[.int .i64 k, .int .i64 r, .int .i64 c, .int .i64 q, .slice ro rn rc, .int .u8 ((kd.toNat : Nat) : Int)] 90) := ⟨_, rfl⟩
  have B0 : Hid (Below w.heap.size w w0) := by show Below _ _ _; rw [hw0]; exact below_alloc _ _
  have L0 : Hid (∀ v, Below w0.heap.size w0 v -> At w v w.heap.size #[.int .i64 k, .int .i64 r, .int .i64 c, .int .i64 q, .slice ro rn rc, .int .u8 ((kd.toNat : Nat) : Int)] 90) := fun v hv => (at_made (Below.refl _ _) hw0).below hv
  have HCV : Hid (w.cell? ⟨vb, voff + i, none⟩ = some (.int .i64 (X i))) := cv
  generalize enc (slC kd N X c.toNat G i) = Q at *
  generalize hszz : sz N c = Z at *
  clear h hv hX hb hok hvc cv hk hszz
  obtain ⟨M, hM⟩ : ∃ M, M = mx X N := ⟨_, rfl⟩
  unfold TellI at HLA
  unfold slv slC AnsB at HBY
  rw [<- hM] at HLA
  simp only [<- hM] at HBY
  clear hM
  obtain ⟨m, hm⟩ : ∃ m, m = c.toNat := ⟨_, rfl⟩
  rw [<- hm] at HBY ⊢
  clear hm
  unfold stv
  have i1 : (0 : Int) <= (i : Int) := by omega
  have i2 : (i : Int) < (N : Int) := by omega
  go_enter Tryz.func75, Tryz.ntmps75
  go_wp2_with fail
  rw [<- hw0]
  have q0 := L0.out w0 (Below.refl _ _)
  have p0 := q0.cell (i := 0) rfl
  have p1 := q0.cell (i := 1) rfl
  have p2 := q0.cell (i := 2) rfl
  have p3 := q0.cell (i := 3) rfl
  clear q0 hw0
  go_wp2_with fail
  refine (HLA.out _ B0.out).mono ?_
  rintro e wa ⟨rfl, ha⟩
  have q0 := L0.out wa ha
  have r0 := q0.cell (i := 0) rfl
  have r1 := q0.cell (i := 1) rfl
  have r2 := q0.cell (i := 2) rfl
  have r3 := q0.cell (i := 3) rfl
  have r5 := q0.cell (i := 5) rfl
  have rv := held HCV.out (below_then B0.out ha)
  have HBA : Hid (Below w.heap.size w wa) := below_then B0.out ha
  have hBY := HBY.out _ (HBA.out.trans (below_drew _ _))
  have CH : Hid (∀ v, Below wa.heap.size wa v -> (v.cell? ⟨w.heap.size, 0, none⟩ = some (.int .i64 k) /\ v.cell? ⟨w.heap.size, 1, none⟩ = some (.int .i64 r) /\ v.cell? ⟨w.heap.size, 2, none⟩ = some (.int .i64 c) /\ v.cell? ⟨w.heap.size, 3, none⟩ = some (.int .i64 q) /\ v.cell? ⟨w.heap.size, 5, none⟩ = some (.int .u8 ((kd.toNat : Nat) : Int)) /\ v.cell? ⟨vb, voff + i, none⟩ = some (.int .i64 (X i)))) := fun v hv => by
    have q := (L0.out wa ha).below hv
    exact ⟨q.cell (i := 0) rfl, q.cell (i := 1) rfl, q.cell (i := 2) rfl, q.cell (i := 3) rfl, q.cell (i := 5) rfl, held HCV.out (below_then HBA.out hv)⟩
  clear q0 ha p0 p1 p2 p3
  go_wp2_with fail
  go_region_held3 (fun v => v.cell? ⟨w.heap.size, 0, none⟩ = some (.int .i64 k) /\ v.cell? ⟨w.heap.size, 1, none⟩ = some (.int .i64 r) /\ v.cell? ⟨w.heap.size, 2, none⟩ = some (.int .i64 c) /\ v.cell? ⟨w.heap.size, 3, none⟩ = some (.int .i64 q) /\ v.cell? ⟨w.heap.size, 5, none⟩ = some (.int .u8 ((kd.toNat : Nat) : Int)) /\ v.cell? ⟨vb, voff + i, none⟩ = some (.int .i64 (X i))) (go_keep) ((go_at_call 104; refine hBY.mono ?_; rintro e wf ⟨ao, cap, rfl, hown, hbb⟩; have HFB : Hid (Below wa.heap.size wa wf) := of_drew' hbb; have HFO : Hid (OwU wa.heap.size wf ao (lenE 0 Z) cap Q) := hown; obtain ⟨e0, e1, e2, e3, e5, ev⟩ := CH.out wf HFB.out; clear hbb hown))
  all_goals (
    go_wp2_with fail
    go_ret
    exact ⟨ao, cap, rfl, HFO.out.mono HBA.out.size, below_then HBA.out HFB.out⟩)
end Go.Proofs.YtdmpiipllmjloaaGreat
