/- Whether two matrices are the same; whether one has more than is gone through; matrices that came in. -/
import Derived.Test.YtgflgmkaaidfnaaMatJ
import Derived.Laws.BytesArg
import Derived.OpenShut
import Derived.Deep.Matrix
namespace Go.Proofs.Ytgflgmkaaidfnaa
open Go.RowKit

/-- The string of n bytes. -/
def str (n : Nat) (f : Nat → K) : ByteArray := strOfNums ((List.range n).map fun i => ((f i).n : Int))
theorem str_congr {n : Nat} {f h : Nat → K} (e : ∀ i, i < n → f i = h i) : str n f = str n h := by
  unfold str
  congr 1
  apply List.map_congr_left
  intro i hi
  rw [e i (List.mem_range.1 hi)]
theorem conv_any {w : World} {ao : Option Addr} {n : Nat} {f : Nat → K} (h : Rd w ao n f) (cp : Nat) : (convert 23 9 (.slice ao n cp)).run Try.prog w = .ok (.string (str n f)) w := by
  by_cases hn : 0 < n
  · obtain ⟨b, off, rfl, hc⟩ := h hn
    exact run_convert_bytes_arg w 23 5 Try.underlying23 Try.underlying5 b off n cp _ (by simp) (fun i hi => by rw [hc i hi]; simp [hi]) 9 Try.underlying9
  · obtain rfl : n = 0 := by omega
    cases ao with
    | none => exact run_convert_bytes_nil w 23 5 Try.underlying23 Try.underlying5 0 cp 9 Try.underlying9
    | some a =>
      rw [run_convert_bytes_string w 23 9 5 _ 0 cp Try.underlying23 Try.underlying5 Try.underlying9, run_bytesToString w a 0 cp [] (by simp [loadCells, loadCellsFrom])]
      rfl

/-- What a walk is told of a list of slices that came in. -/
def IsLst (w : World) (a : Option Addr) (len cap : Nat) : Prop :=
  len ≤ 9223372036854775807 ∧ (a = none → len = 0 ∧ cap = 0) ∧
  ∃ (A : Nat → Option Addr) (C L : Nat → Nat) (H : M), Lst w a len A C L H ∧ ∀ i, i < len → (A i = none → L i = 0 ∧ C i = 0) ∧ L i ≤ 9223372036854775807
theorem spot_none {w : World} {x : Addr} {v : Value} (h : w.cell? x = some v) : x.spot = none := by
  unfold World.cell? at h
  split at h
  · split at h
    · cases h
    · rename_i hn
      simpa using hn
  · cases h
def ofInts (zs : List Int) (i : Nat) : K := K.of (zs.getD i 0).toNat

theorem isLst_of {H : Type} {enc : TypeId × Value → H} {w : World} {base : Nat} {held : Bool} {fuel : Nat} {a : Option Addr} {len cap : Nat} {x : DataW H × List MemPlace}
    (h : DataW.trod enc Try.prog w base (fun _ => true) held fuel 27 [.slice a len cap] = some x) : IsLst w a len cap := by
  rcases Go.Deep.open_int_rows Try.underlying27 Try.underlying23 Try.underlying5 (by kernel_rfl) (by kernel_rfl) h with ⟨hcs, _⟩ | ⟨ad, l, c, A, L, C, Z, hcs, _, hl, hm, _, hr⟩
  · simp at hcs
    obtain ⟨rfl, rfl, rfl⟩ := hcs
    exact ⟨by omega, fun _ => ⟨rfl, rfl⟩, fun _ => none, fun _ => 0, fun _ => 0, fun _ _ => 0, ⟨fun i hi => absurd hi (Nat.not_lt_zero i), fun hp => absurd hp (Nat.lt_irrefl 0)⟩, fun i hi => absurd hi (Nat.not_lt_zero i)⟩
  · simp at hcs
    obtain ⟨rfl, rfl, rfl⟩ := hcs
    have hb : ∀ r j, r < cap → 0 ≤ (Z r).getD j 0 ∧ (Z r).getD j 0 ≤ 255 := fun r j hrc => by
      rw [List.getD_eq_getElem?_getD]
      by_cases hi : j < (Z r).length
      · rw [List.getElem?_eq_getElem hi]
        exact Go.bounds_u8 ((hr r hrc).2.2.2.2.1 _ (List.getElem_mem hi))
      · rw [List.getElem?_eq_none (by omega)]; exact ⟨by decide, by decide⟩
    refine ⟨by unfold maxLen at hm; omega, (fun h => by cases h), A, C, L, fun r j => ofInts (Z r) j, ⟨fun i hi => ?_, fun hp => ?_⟩, fun i hi => ?_⟩
    · obtain ⟨_, h2, _, h4, _, h6, h7⟩ := hr i (by omega)
      intro hp
      cases hA : A i with
      | none => have := h6 hA; omega
      | some x =>
        obtain ⟨_, hc⟩ := h7 x hA
        obtain ⟨b, off, sp⟩ := x
        have hs : sp = none := by have := spot_none (hc 0 (by omega)); rw [Addr.add_zero'] at this; exact this
        subst hs
        refine ⟨b, off, rfl, fun j hj => ?_⟩
        have := hc j (by omega)
        rw [Addr.add_lit] at this
        have hbb := hb i j (by omega)
        show _ = some (Value.int .u8 ((ofInts (Z i) j).n : Int))
        rw [this, ofInts, K.of_n _ (by omega), Int.toNat_of_nonneg hbb.1]
    · obtain ⟨b, off, sp⟩ := ad
      have hs : sp = none := by have := spot_none (hr 0 (by omega)).1; rw [Addr.add_zero'] at this; exact this
      subst hs
      refine ⟨b, off, rfl, fun i hi => ?_⟩
      have := (hr i (by omega)).1
      rwa [Addr.add_lit] at this
    · obtain ⟨_, h2, h3, _, _, h6, _⟩ := hr i (by omega)
      refine ⟨fun hA => ?_, by unfold maxLen at h3; omega⟩
      have := h6 hA
      omega
end Go.Proofs.Ytgflgmkaaidfnaa

/- The walk of the statement that an inverse is one on both sides, and that there is one just if all rows are independent. -/
namespace Go.Proofs.Ytgflgmkaaidfnaa
open Go.RowKit

theorem okM_sq {n m : Nat} (h1 : 1 ≤ n) (h2 : n ≤ 32) (h3 : 1 ≤ m) (h4 : m ≤ 32) : okM n (fun _ => m) = true := decide_eq_true ⟨h1, h2, h3, h4, fun _ _ => rfl⟩
theorem Lst.len {w : World} {lo : Option Addr} {ll n : Nat} {A : Nat → Option Addr} {C L : Nat → Nat} {H : M} (h : Lst w lo ll A C L H) (e : ∀ i, i < ll → L i = n) : Lst w lo ll A C (fun _ => n) H := by
  refine ⟨fun i hi => by have := h.rd i hi; rwa [e i hi] at this, fun hp => ?_⟩
  obtain ⟨b, off, rfl, hc⟩ := h.at_ hp
  exact ⟨b, off, rfl, fun i hi => by rw [hc i hi, e i hi]⟩
theorem okMul_fit {n m q : Nat} (h1 : 1 ≤ n) (h2 : n ≤ 32) (h3 : 1 ≤ m) (h4 : m ≤ 32) (h5 : 1 ≤ q) (h6 : q ≤ 32) : okMul n (fun _ => m) m (fun _ => q) = true := by
  unfold okMul; rw [okM_sq h1 h2 h3 h4, okM_sq h3 h4 h5 h6]; simp
theorem okInv_of {n : Nat} {A V : M} (h1 : 1 ≤ n) (h2 : n ≤ 32) (h : IsInv n A V) : okInv n (fun _ => n) A = true := by
  unfold okInv okSq; rw [okM_sq h1 h2 h1 h2, invB_of h]; simp
theorem okN_of {n : Nat} {m : Int} (h1 : 1 ≤ n) (h2 : (n : Int) ≤ m) : okN (n : Int) m = true := decide_eq_true ⟨by omega, h2⟩
theorem drewN_below {w w' : World} (h : ∃ q, w' = w.drewN q) : Below w.heap.size w w' := by obtain ⟨q, rfl⟩ := h; exact below_drewN _ _ _

end Go.Proofs.Ytgflgmkaaidfnaa

