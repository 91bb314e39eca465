/- StripeAny, for whatever comes in. -/
import Derived.Test.YtjnmhnkhaiggaaaStAn
namespace Go.Proofs.Ytjnmhnkhaiggaaa
open Go.RowKit

set_option maxHeartbeats 4000000 in
theorem any_walk {k r c q : Int} {N W : Nat} {x : Int} (h : Par k r c q N W x) (w : World) (ro : Option Addr) (rn rc : Nat) (A : Nat → Option Addr) (L C : Nat → Nat) (F : Nat → Nat → UInt8) (hr : Rw w ro rn A L C F) (kd : UInt8) (v : Int) (dob : Option Addr) (dn dc : Nat) (D : Nat → UInt8) (hD : Bec w dob dn dc D) (tob : Option Addr) (tn tc : Nat) (V : Nat → Bool) (hT : RdT w tob tn V) :
    Calls Try.prog 3 #[.agg #[.int .i64 k, .int .i64 r, .int .i64 c, .int .i64 q], .slice ro rn rc, .int .u8 ((kd.toNat : Nat) : Int), .int .i64 v, .slice dob dn dc, .slice tob tn tc] w fun e w' => e = .returned (.bool true) ∧ Below w.heap.size w w' := by
  obtain ⟨E, hE⟩ : ∃ E, erD (erW (erK x N c rn L kd v) q 0 0) dn W = E := ⟨_, rfl⟩
  have HF := fun u hu => Full_any h u ro rn rc A L C F (hr.below hu) 0 kd 0 v dob dn dc D (hD.below hu) E hE
  by_cases he : E = 0
  · subst he
    obtain ⟨hW, hdw⟩ := erD_zero hE
    obtain ⟨hK, _, _⟩ := erW_zero hW
    obtain ⟨hR, hk, hv⟩ := erK_zero hK
    obtain ⟨rfl, hrN, hL⟩ := erR_zero hR
    subst hrN hdw
    obtain ⟨K, m, rfl, rfl, k1, k2, k3, hN, m1, m2, hdn⟩ := h.nums
    have hm8 : (8 : Int) ≤ (m : Int) := by omega
    obtain ⟨P, hP⟩ : ∃ P : Nat → Bool, P = fun i => !(decide (i < tn) && V i) := ⟨_, rfl⟩
    refine any_good (K := K) (m := m) (Z := sz rn (m : Int)) w ro rn rc kd v dob dn dc D hD hN (by omega) (fun i => enc (slC kd rn (fun _ => v) m (dH K m D i) i)) (osl rn (m : Int) L F kd 0) L C A F (by omega) osl_lt hr tob tn tc V hT P (fun i => by rw [hP]) (abB rn (m : Int) L F v) ?_ ?_ ?_
    · intro u hu
      refine (HF u hu).mono ?_
      rintro e w' ⟨lo, lc, T, U, rfl, hp, hb⟩
      exact ⟨lo, lc, T, U, rfl, hp rfl, hb⟩
    · exact fun u hu => above_any h u ro rc A L C F (hr.below hu) hL v
    · intro hab u g cp A' C' hrw
      have q2 := any_n (k := (K : Int)) (D := D) (P := P) (os := osl rn (m : Int) L F kd 0) hN hm8 hk hv osl_lt hab
      have hL1 := row_n (n := rn) (os := osl rn (m : Int) L F kd 0) (fun _ => m) hL rn
      have hL' : ∀ j, j < 2 * rn → wp P 0 (bP (fun _ => m) (osl rn (m : Int) L F kd 0) rn L (fun _ => sz rn (m : Int)) rn) rn j = 0 ∨ wp P 0 (bP (fun _ => m) (osl rn (m : Int) L F kd 0) rn L (fun _ => sz rn (m : Int)) rn) rn j = sz rn (m : Int) := fun j hj => by
        by_cases g : j / 2 < rn ∧ P (j / 2) = false
        · exact .inl (if_pos g)
        · unfold wp; rw [if_neg g]; exact hL1 j hj
      simp only [Int.toNat_natCast] at q2
      have hZk : Zok rn (m : Int) (zv rn (m : Int) (wp P 0 (bP (fun _ => m) (osl rn (m : Int) L F kd 0) rn L (fun _ => sz rn (m : Int)) rn) rn) (bP (fun _ => m) (osl rn (m : Int) L F kd 0) rn F (fun i => enc (slC kd rn (fun _ => v) m (dH K m D i) i)) rn) kd v) := zok_of
      have c1 : ct (zv rn (m : Int) (wp P 0 (bP (fun _ => m) (osl rn (m : Int) L F kd 0) rn L (fun _ => sz rn (m : Int)) rn) rn) (bP (fun _ => m) (osl rn (m : Int) L F kd 0) rn F (fun i => enc (slC kd rn (fun _ => v) m (dH K m D i) i)) rn) kd v) rn = Cod.cnt (pL P) rn := by
        rw [ct_of (P := P) (fun i hi => ?_)]
        · rfl
        · constructor
          · intro e
            cases g : P i
            · rfl
            · exact absurd e (new_ne ((q2 i hi).1 g))
          · intro e
            rw [(q2 i hi).2 e]; rfl
      have c2 := erL_ct (K := K) hZk hm8
      rw [c1] at c2
      have hK' := erK_ok hL' hk hv
      refine ⟨?_, fun hKn => ?_, fun hKn => ?_⟩
      · refine (Present_any h u _ rn cp A' _ C' _ hrw kd v 0 hK').mono ?_
        rintro e w' ⟨ao, cap, rfl, _, hb⟩
        rw [c1]
        exact ⟨ao, cap, rfl, hb⟩
      · rw [if_pos hKn] at c2
        refine (Read_any h u _ rn cp A' _ C' _ hrw kd v 0 (by unfold erV2; rw [hK', if_pos rfl]; exact c2)).mono ?_
        rintro e w' ⟨ao, cap, rfl, hown, hb⟩
        rw [Int.toNat_natCast, Int.toNat_natCast, ← hdn] at hown ⊢
        refine ⟨ao, cap, rfl, hown.bec.congr fun b hb => ?_, hb⟩
        obtain ⟨_, hbd⟩ := lenE_z hb rfl
        refine rd_new (c := (m : Int)) (kd := kd) (v := v) (X := fun _ => v) k2 hN rfl (by omega) (fun i hi => ?_) c2 b (show b < K * m by rw [← hdn]; exact hbd)
        cases g : P i
        · exact .inl ((q2 i hi).2 g)
        · exact .inr ((q2 i hi).1 g)
      · rw [if_neg hKn] at c2
        refine (Read_any h u _ rn cp A' _ C' _ hrw kd v 5 (by unfold erV2; rw [hK', if_pos rfl]; exact c2)).mono ?_
        rintro e w' ⟨ao, cap, rfl, _, hb⟩
        exact ⟨ao, cap, rfl, hb⟩
  · refine any_bad (N := N) w ro rn rc kd v dob dn dc tob tn tc E he ?_
    intro u hu
    refine (HF u hu).mono ?_
    rintro e w' ⟨lo, lc, T, U, rfl, _, hb⟩
    exact ⟨lo, lc, rfl, hb⟩
end Go.Proofs.Ytjnmhnkhaiggaaa
