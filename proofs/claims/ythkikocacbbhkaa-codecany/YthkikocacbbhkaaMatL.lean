/- The walk of the statement that an inverse is one on both sides, and that there is one just if all rows are independent. -/
import Derived.Test.YthkikocacbbhkaaMatK
namespace Go.Proofs.Ythkikocacbbhkaa
open Go.RowKit

theorem okM_sq {n m : Nat} (h1 : 1 ≤ n) (h2 : n ≤ 32) (h3 : 1 ≤ m) (h4 : m ≤ 32) : okM n (fun _ => m) = true := decide_eq_true ⟨h1, h2, h3, h4, fun _ _ => rfl⟩
theorem Lst.len {w : World} {lo : Option Addr} {ll n : Nat} {A : Nat → Option Addr} {C L : Nat → Nat} {H : M} (h : Lst w lo ll A C L H) (e : ∀ i, i < ll → L i = n) : Lst w lo ll A C (fun _ => n) H := by
  refine ⟨fun i hi => by have := h.rd i hi; rwa [e i hi] at this, fun hp => ?_⟩
  obtain ⟨b, off, rfl, hc⟩ := h.at_ hp
  exact ⟨b, off, rfl, fun i hi => by rw [hc i hi, e i hi]⟩
theorem okMul_fit {n m q : Nat} (h1 : 1 ≤ n) (h2 : n ≤ 32) (h3 : 1 ≤ m) (h4 : m ≤ 32) (h5 : 1 ≤ q) (h6 : q ≤ 32) : okMul n (fun _ => m) m (fun _ => q) = true := by
  unfold okMul; rw [okM_sq h1 h2 h3 h4, okM_sq h3 h4 h5 h6]; simp
theorem okInv_of {n : Nat} {A V : M} (h1 : 1 ≤ n) (h2 : n ≤ 32) (h : IsInv n A V) : okInv n (fun _ => n) A = true := by
  unfold okInv okSq; rw [okM_sq h1 h2 h1 h2, invB_of h]; simp
theorem okN_of {n : Nat} {m : Int} (h1 : 1 ≤ n) (h2 : (n : Int) ≤ m) : okN (n : Int) m = true := decide_eq_true ⟨by omega, h2⟩
theorem drewN_below {w w' : World} (h : ∃ q, w' = w.drewN q) : Below w.heap.size w w' := by obtain ⟨q, rfl⟩ := h; exact below_drewN _ _ _

end Go.Proofs.Ythkikocacbbhkaa
