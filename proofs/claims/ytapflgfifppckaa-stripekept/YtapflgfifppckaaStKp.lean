/- StripeKept, for whatever comes in. -/
import Derived.Test.YtapflgfifppckaaStY
namespace Go.Proofs.Ytapflgfifppckaa
open Go.RowKit

theorem erD_zero {E : Int} {n W : Nat} (h : erD E n W = 0) : E = 0 ∧ n = W := by
  unfold erD at h
  by_cases e : E = 0
  · rw [if_pos e] at h
    by_cases g : n = W
    · exact ⟨e, g⟩
    · rw [if_neg g] at h; exact absurd h (by decide)
  · rw [if_neg e] at h; exact absurd h e
/-- What parameters that may be come to. -/
theorem Par.nums {k r c q : Int} {N W : Nat} (h : Par k r c q N W 0) : ∃ K m : Nat, k = (K : Int) ∧ c = (m : Int) ∧ 1 ≤ K ∧ K ≤ 12 ∧ K ≤ N ∧ N ≤ 16 ∧ 8 ≤ m ∧ m ≤ 64 ∧ W = K * m := by
  have hle := h.le
  rcases h with ⟨hm, hW, hN, _⟩ | ⟨_, _, _, h0⟩
  · obtain ⟨h1, h2, h3, h4, h5, h6, h7, h8, h9⟩ := may_true hm
    obtain ⟨K, rfl⟩ := Int.eq_ofNat_of_zero_le (show 0 ≤ k by omega)
    obtain ⟨m, rfl⟩ := Int.eq_ofNat_of_zero_le (show 0 ≤ c by omega)
    refine ⟨K, m, rfl, rfl, by omega, by omega, by omega, hle, by omega, by omega, ?_⟩
    rw [← Int.natCast_mul] at hW; omega
  · exact absurd h0 (by decide)
theorem lenE_z {E : Int} {n m : Nat} {b : Nat} (h : b < lenE E n) (hm : n = m) : E = 0 ∧ b < m := by
  unfold lenE at h
  by_cases e : E = 0
  · rw [if_pos e] at h; exact ⟨e, by omega⟩
  · rw [if_neg e] at h; omega
set_option maxHeartbeats 4000000 in
theorem kept_walk {k r c q : Int} {N W : Nat} {x : Int} (h : Par k r c q N W x) (w : World) (ro : Option Addr) (rn rc : Nat) (A : Nat → Option Addr) (L C : Nat → Nat) (F : Nat → Nat → UInt8) (hr : Rw w ro rn A L C F) (kd : UInt8) (ke v : Int) (dob : Option Addr) (dn dc : Nat) (D : Nat → UInt8) (hD : Bec w dob dn dc D) :
    Calls Try.prog 4 #[.agg #[.int .i64 k, .int .i64 r, .int .i64 c, .int .i64 q], .slice ro rn rc, .int .u8 ((kd.toNat : Nat) : Int), .int .i64 ke, .int .i64 v, .slice dob dn dc] w fun e w' => e = .returned (.bool true) ∧ Below w.heap.size w w' := by
  obtain ⟨E, hE⟩ : ∃ E, erD (erW (erK x N c rn L kd v) q 0 ke) dn W = E := ⟨_, rfl⟩
  have HF := fun u hu => Full_any h u ro rn rc A L C F (hr.below hu) 0 kd ke v dob dn dc D (hD.below hu) E hE
  by_cases he : E = 0
  · subst he
    obtain ⟨hW, hdw⟩ := erD_zero hE
    obtain ⟨hK, _, hke⟩ := erW_zero hW
    obtain ⟨hR, hk, hv⟩ := erK_zero hK
    obtain ⟨rfl, hrN, hL⟩ := erR_zero hR
    subst hrN hdw
    obtain ⟨K, m, rfl, rfl, k1, k2, k3, hN, m1, m2, hdn⟩ := h.nums
    have hm8 : (8 : Int) ≤ (m : Int) := by omega
    have hZk : ∀ L' F' (v' : Int), Zok rn (m : Int) (zv rn (m : Int) L' F' kd v') := fun _ _ _ => zok_of
    refine kept_good (K := K) (m := m) (Z := sz rn (m : Int)) w ro rn rc kd ke v dob dn dc D hD hN (by omega) (fun i => enc (slC kd rn (fun _ => v) m (dH K m D i) i)) (osl rn (m : Int) L F kd ke) L C A F (by omega) osl_lt hr (ct (zv rn (m : Int) L F kd ke) rn) (erL K (zv rn (m : Int) L F kd ke) rn) (cat2 m (cH K (zv rn (m : Int) L F kd ke) rn)) ?_ (abB rn (m : Int) L F v) (twB rn (m : Int) L F kd) ?_ ?_ ?_ ?_ ?_ ?_
    · unfold erL; split
      · exact .inl rfl
      · exact .inr rfl
    · intro u hu
      refine (HF u hu).mono ?_
      rintro e w' ⟨lo, lc, T, U, rfl, hp, hb⟩
      exact ⟨lo, lc, T, U, rfl, hp rfl, hb⟩
    · exact fun u hu => above_any h u ro rc A L C F (hr.below hu) hL v
    · intro u hu
      refine (once_any h u ro rc A L C F (hr.below hu) hL kd).mono ?_
      rintro e w' ⟨y, rfl, hy, hb⟩
      cases y
      · exact ⟨0, rfl, (fun a => absurd a (by decide)), hb⟩
      · exact ⟨1, rfl, (fun _ => hy rfl), hb⟩
    · intro hne u hu
      refine (Present_any h u ro rn rc A L C F (hr.below hu) kd ke 0 (erK_ok hL hk (by omega))).mono ?_
      rintro e w' ⟨ao, cap, rfl, _, hb⟩
      exact ⟨ao, cap, rfl, hb⟩
    · intro hne u hu
      refine (Read_any h u ro rn rc A L C F (hr.below hu) kd ke _ (show erV2 _ _ = erL K (zv rn (m : Int) L F kd ke) rn by unfold erV2; rw [erK_ok hL hk (by omega), if_pos rfl]; rfl)).mono ?_
      rintro e w' ⟨ao, cap, rfl, hown, hb⟩
      rw [Int.toNat_natCast, Int.toNat_natCast, ← hdn] at hown ⊢
      exact ⟨ao, cap, rfl, hown.bec, hb⟩
    · intro hab hon hne0 hne n hn u g cp A' C' hrw
      obtain ⟨q1, q2⟩ := kept_n (k := (K : Int)) (D := D) hN hm8 hk hv hne hab hon hn
      have hL' := row_n (n := rn) (os := osl rn (m : Int) L F kd ke) (fun _ => m) hL n
      simp only [Int.toNat_natCast] at q1 q2
      obtain ⟨r1, r2, r3⟩ := rd_congr (K := K) q1
      have c1 : ct (zv rn (m : Int) (bP (fun _ => m) (osl rn (m : Int) L F kd ke) rn L (fun _ => sz rn (m : Int)) n) (bP (fun _ => m) (osl rn (m : Int) L F kd ke) rn F (fun i => enc (slC kd rn (fun _ => v) m (dH K m D i) i)) n) kd v) rn = n := by
        rw [ct_of (P := fun i => decide (i < n)) (fun i hi => ?_), cnt_below hn]
        constructor
        · intro e
          refine decide_eq_false fun a => ?_
          exact new_ne ((q2 i hi).1 a) e
        · intro e
          rw [(q2 i hi).2 (of_decide_eq_false e)]; rfl
      have c2 := erL_ct (K := K) (hZk (bP (fun _ => m) (osl rn (m : Int) L F kd ke) rn L (fun _ => sz rn (m : Int)) n) (bP (fun _ => m) (osl rn (m : Int) L F kd ke) rn F (fun i => enc (slC kd rn (fun _ => v) m (dH K m D i) i)) n) v) hm8
      rw [c1] at c2
      refine ⟨?_, ?_, ?_, fun hKn => ?_, fun hKn => ?_⟩
      · refine (Present_any h u _ rn cp A' _ C' _ hrw kd ke 0 (erK_ok hL' hk (by omega))).mono ?_
        rintro e w' ⟨ao, cap, rfl, _, hb⟩
        rw [r3]
        exact ⟨ao, cap, rfl, hb⟩
      · refine (Read_any h u _ rn cp A' _ C' _ hrw kd ke _ (show erV2 _ _ = erL K (zv rn (m : Int) L F kd ke) rn by unfold erV2; rw [erK_ok hL' hk (by omega), if_pos rfl]; exact r1)).mono ?_
        rintro e w' ⟨ao, cap, rfl, hown, hb⟩
        rw [Int.toNat_natCast, Int.toNat_natCast, ← hdn] at hown ⊢
        refine ⟨ao, cap, rfl, hown.bec.congr fun b hb => ?_, hb⟩
        obtain ⟨e0, _⟩ := lenE_z hb rfl
        unfold cat2
        exact r2 e0 _ _
      · refine (Present_any h u _ rn cp A' _ C' _ hrw kd v 0 (erK_ok hL' hk hv)).mono ?_
        rintro e w' ⟨ao, cap, rfl, _, hb⟩
        rw [c1]
        exact ⟨ao, cap, rfl, hb⟩
      · rw [if_pos hKn] at c2
        refine (Read_any h u _ rn cp A' _ C' _ hrw kd v 0 (by unfold erV2; rw [erK_ok hL' hk hv, if_pos rfl]; exact c2)).mono ?_
        rintro e w' ⟨ao, cap, rfl, hown, hb⟩
        rw [Int.toNat_natCast, Int.toNat_natCast, ← hdn] at hown ⊢
        refine ⟨ao, cap, rfl, hown.bec.congr fun b hb => ?_, hb⟩
        obtain ⟨_, hbd⟩ := lenE_z hb rfl
        refine rd_new (c := (m : Int)) (kd := kd) (v := v) (X := fun _ => v) k2 hN rfl (by omega) (fun i hi => ?_) c2 b (show b < K * m by rw [← hdn]; exact hbd)
        by_cases e : i < n
        · exact .inr ((q2 i hi).1 e)
        · exact .inl ((q2 i hi).2 e)
      · rw [if_neg hKn] at c2
        refine (Read_any h u _ rn cp A' _ C' _ hrw kd v 5 (by unfold erV2; rw [erK_ok hL' hk hv, if_pos rfl]; exact c2)).mono ?_
        rintro e w' ⟨ao, cap, rfl, _, hb⟩
        exact ⟨ao, cap, rfl, hb⟩
  · refine kept_bad (N := N) w ro rn rc kd ke v dob dn dc E he ?_
    intro u hu
    refine (HF u hu).mono ?_
    rintro e w' ⟨lo, lc, T, U, rfl, _, hb⟩
    exact ⟨lo, lc, rfl, hb⟩
end Go.Proofs.Ytapflgfifppckaa
