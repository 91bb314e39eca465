/- What Read answers; data cut into cells; the bytes of a cell's slot. -/
import Derived.Test.YtfhefbbhlmdjkaaGreatStK
namespace Go.Proofs.YtfhefbbhlmdjkaaGreat
open Go.RowKit

theorem Cls.rdc {B : Nat} {w : World} {ao : Option Addr} {n cap m : Nat} {T : Nat → Option Addr} {U : Nat → Nat} {H : Nat → Nat → UInt8} (h : Cls B w ao n cap m T U H) {j : Nat} (hj : j ≤ n) : RdC w ao j T (fun _ => m) U := fun hp => by
  rcases h.out.2 with ⟨_, h1⟩ | ⟨g, cap', cur, h1, _⟩
  · omega
  · cases h1
    refine ⟨g, 0, rfl, fun i hi => ?_⟩
    have := h.out.cells (g := g) rfl i _ (Cod.rowsOf_get n T (fun _ => m) U i (by omega))
    rwa [Addr.add_lit] at this
theorem Cls.room {B : Nat} {w : World} {ao : Option Addr} {n cap m : Nat} {T : Nat → Option Addr} {U : Nat → Nat} {H : Nat → Nat → UInt8} (h : Cls B w ao n cap m T U H) : n ≤ cap := by
  rcases h.out.2 with ⟨h0, h1⟩ | ⟨g, cap', cur, h1, _, _, h4, _⟩
  · omega
  · cases h1; exact h4
set_option maxHeartbeats 4000000 in
set_option maxRecDepth 100000 in
theorem Read_any {k r c q : Int} {N W : Nat} {x : Int} (h : Par k r c q N W x) (w : World) (ro : Option Addr) (rn rc : Nat) (A : Nat → Option Addr) (L C : Nat → Nat) (F : Nat → Nat → UInt8) (hr : Rw w ro rn A L C F) (kd : UInt8) (v : Int) (E : Int) (hE : erV2 (erK x N c rn L kd v) (erL k.toNat (zv N c L F kd v) N) = E) :
    Calls Tryz.prog 8 #[.agg #[.int .i64 k, .int .i64 r, .int .i64 c, .int .i64 q], .slice ro rn rc, .int .u8 ((kd.toNat : Nat) : Int), .int .i64 v] w (AnsB w E (k.toNat * c.toNat) (cat2 c.toNat (cH k.toNat (zv N c L F kd v) N))) := by
  have HC : Hid (∀ u, Below w.heap.size w u → Calls Tryz.prog 12 #[.agg #[.int .i64 k, .int .i64 r, .int .i64 c, .int .i64 q], .slice ro rn rc, .int .u8 ((kd.toNat : Nat) : Int), .int .i64 v] u (AnsC u E N c.toNat (cH k.toNat (zv N c L F kd v) N))) := fun u hu => Cells_any h u ro rn rc A L C F (hr.below hu) kd v E hE
  have hx : E = 0 → 1 ≤ k ∧ k ≤ N ∧ N ≤ 16 ∧ 8 ≤ c ∧ c ≤ 64 := fun e => by
    have h0 : erK x N c rn L kd v = 0 := by
      unfold erV2 at hE
      by_cases g : erK x N c rn L kd v = 0
      · exact g
      · rw [if_neg g] at hE; rw [hE]; exact e
    obtain ⟨rfl, _⟩ := erR_zero (erK_zero h0).1
    have hle := h.le
    obtain ⟨c1, c2⟩ := h.cell rfl
    rcases h with ⟨hm, _, hN, _⟩ | ⟨_, _, _, h0⟩
    · obtain ⟨h1, h2, h3, h4, h5, h6, h7, h8, h9⟩ := may_true hm
      omega
    · exact absurd h0 (by decide)
  obtain ⟨w0, hw0⟩ : ∃ w0, w0 = w.alloc (.cells #[.int .i64 k, .int .i64 r, .int .i64 c, .int .i64 q] 23) := ⟨_, rfl⟩
  have B0 : Hid (Below w.heap.size w w0) := by show Below _ _ _; rw [hw0]; exact below_alloc _ _
  have L0 : Hid (∀ v, Below w0.heap.size w0 v → At w v w.heap.size #[.int .i64 k, .int .i64 r, .int .i64 c, .int .i64 q] 23) := fun v hv => (at_made (Below.refl _ _) hw0).below hv
  generalize cH k.toNat (zv N c L F kd v) N = H at *
  clear h hr hE
  unfold AnsC at HC
  unfold AnsB
  by_cases he : E = 0
  · subst he
    obtain ⟨k1, k2, k3, c1, c2⟩ := hx rfl
    obtain ⟨K, rfl⟩ := Int.eq_ofNat_of_zero_le (show 0 ≤ k by omega)
    rw [Int.toNat_natCast]
    obtain ⟨m, hm⟩ : ∃ m, m = c.toNat := ⟨_, rfl⟩
    rw [← hm] at HC ⊢
    have m1 : 0 < m := by omega
    have m2 : m ≤ 64 := by omega
    have e0 : lenE 0 N = N := if_pos rfl
    rw [e0] at HC
    rw [show lenE 0 (K * m) = K * m from if_pos rfl]
    clear hm hx e0
    go_enter Tryz.func8, Tryz.ntmps8
    go_wp2_with fail
    rw [← hw0]
    clear hw0
    refine (HC.out _ B0.out).mono ?_
    rintro e wa ⟨ao, cap, T, U, rfl, hc, ha⟩
    have p0 := (L0.out wa ha).cell (i := 0) rfl
    have hroom := hc.room
    have hX := concat_any wa ao K cap m T U H (by omega) m1 m2 (hc.rdc (by omega)) (fun i hi => (hc.row i (by omega)).bec)
    have i1 : (0 : Int) ≤ (K : Int) := by omega
    have i2 : (K : Int) ≤ (cap : Int) := by omega
    have HBA : Hid (Below w.heap.size w wa) := below_then B0.out ha
    clear hc ha
    go_wp2_with fail
    refine hX.mono ?_
    rintro e wb ⟨bo, cb, rfl, hown, hb⟩
    go_wp2_with fail
    go_ret2
    exact ⟨bo, cb, rfl, hown.mono HBA.out.size, below_then HBA.out hb⟩
  · have e1 : (E != 0) = true := by simp [he]
    rw [show lenE E (k.toNat * c.toNat) = 0 from if_neg he]
    rw [show lenE E N = 0 from if_neg he] at HC
    clear hx
    go_enter Tryz.func8, Tryz.ntmps8
    go_wp2_with fail
    rw [← hw0]
    clear hw0
    refine (HC.out _ B0.out).mono ?_
    rintro e wa ⟨ao, cap, T, U, rfl, hc, ha⟩
    go_wp2_with fail
    go_ret2
    exact ⟨none, 0, rfl, owu_nil _ _ _, below_then B0.out ha⟩
/-- The bytes of a cell's slot: the version is the greatest of its vector. -/
def slC (kd : UInt8) (N : Nat) (X : Nat → Int) (m : Nat) (G : Nat → UInt8) (i : Nat) : Sl := ⟨kd, (i : Int), X i, mx X N, N, X, m, G⟩
theorem slC_ok {N : Nat} {c : Int} {kd : UInt8} {X : Nat → Int} {G : Nat → UInt8} {i : Nat} (hk : kd = 1 ∨ kd = 2) (hX : ∀ j, j < N → 1 ≤ X j ∧ X j ≤ 1073741824) (hi : i < N) (hc : 0 ≤ c) : Ok N c (slC kd N X c.toNat G i) :=
  ⟨rfl, hX, hk, ⟨by show (0 : Int) ≤ (i : Int); omega, by show (i : Int) < (N : Int); omega⟩, by show ((c.toNat : Nat) : Int) = c; omega, rfl, by show X i = X (i : Int).toNat; rw [Int.toNat_natCast]⟩
end Go.Proofs.YtfhefbbhlmdjkaaGreat
