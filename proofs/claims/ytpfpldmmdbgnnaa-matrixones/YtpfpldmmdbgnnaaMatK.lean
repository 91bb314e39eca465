/- Whether two matrices are the same; whether one has more than is gone through; matrices that came in. -/
import Derived.Test.YtpfpldmmdbgnnaaMatJ
import Derived.Laws.BytesArg
import Derived.OpenShut
import Derived.Deep.Matrix
namespace Go.Proofs.Ytpfpldmmdbgnnaa
open Go.RowKit

/-- The string of n bytes. -/
def str (n : Nat) (f : Nat → K) : ByteArray := strOfNums ((List.range n).map fun i => ((f i).n : Int))
theorem str_congr {n : Nat} {f h : Nat → K} (e : ∀ i, i < n → f i = h i) : str n f = str n h := by
  unfold str
  congr 1
  apply List.map_congr_left
  intro i hi
  rw [e i (List.mem_range.1 hi)]
theorem conv_any {w : World} {ao : Option Addr} {n : Nat} {f : Nat → K} (h : Rd w ao n f) (cp : Nat) : (convert 34 9 (.slice ao n cp)).run Try.prog w = .ok (.string (str n f)) w := by
  by_cases hn : 0 < n
  · obtain ⟨b, off, rfl, hc⟩ := h hn
    exact run_convert_bytes_arg w 34 5 Try.underlying34 Try.underlying5 b off n cp _ (by simp) (fun i hi => by rw [hc i hi]; simp [hi]) 9 Try.underlying9
  · obtain rfl : n = 0 := by omega
    cases ao with
    | none => exact run_convert_bytes_nil w 34 5 Try.underlying34 Try.underlying5 0 cp 9 Try.underlying9
    | some a =>
      rw [run_convert_bytes_string w 34 9 5 _ 0 cp Try.underlying34 Try.underlying5 Try.underlying9, run_bytesToString w a 0 cp [] (by simp [loadCells, loadCellsFrom])]
      rfl

set_option maxHeartbeats 1000000 in
set_option maxRecDepth 100000 in
theorem same_any (w : World) (ao bo : Option Addr) (ll ca cb : Nat) (A B : Nat → Option Addr) (C D L L' : Nat → Nat) (H H' : M) (ha : Lst w ao ll A C L H) (hb : Lst w bo ll B D L' H') (hL : ∀ i, i < ll → L' i = L i) (hH : ∀ i j, i < ll → j < L i → H' i j = H i j) (hll : ll ≤ 1000000) :
    Calls Try.prog 16 #[.slice ao ll ca, .slice bo ll cb] w fun e w' => e = .returned (.bool true) ∧ ∃ q, w' = w.drewN q := by
  have HA : Hid (Lst w ao ll A C L H) := ha
  have HB : Hid (Lst w bo ll B D L' H') := hb
  have HL : Hid (∀ i, i < ll → L' i = L i) := hL
  have HH : Hid (∀ i j, i < ll → j < L i → H' i j = H i j) := hH
  clear ha hb hL hH
  have hbq : ((ll : Int) == (ll : Int)) = true := by simp
  go_enter Try.func16, Try.ntmps16
  go_wp2
  go_loopw [5] (fun i wr => ∃ k : Nat, k ≤ ll ∧ i = .int .i64 k ∧ Hid (∃ q, wr = w.drewN q)) (fun i _ => ll - (intOf i).toNat)
  case atStart => exact ⟨0, Nat.zero_le _, rfl, 0, rfl⟩
  case round =>
    obtain ⟨k, hk, rfl, hdr⟩ := hrel
    by_cases hlt : k < ll
    · have hbel : Below w.heap.size w wr := by obtain ⟨q, rfl⟩ := hdr.out; exact below_drewN _ _ _
      obtain ⟨b, off, rfl, hca⟩ := (HA.out.below hbel).at_ (by omega)
      obtain ⟨b', off', rfl, hcb⟩ := (HB.out.below hbel).at_ (by omega)
      have c1 := hca k hlt
      have c2 := hcb k hlt
      have v1 : ∀ m, (convert 34 9 (.slice (A k) (L k) (C k))).run Try.prog (wr.drewN m) = .ok (.string (str (L k) (H k))) (wr.drewN m) := fun m => conv_any (w := wr.drewN m) ((HA.out.below hbel).rd k hlt) (C k)
      have v2 : ∀ m, (convert 34 9 (.slice (B k) (L k) (D k))).run Try.prog (wr.drewN m) = .ok (.string (str (L k) (H k))) (wr.drewN m) := fun m => by
        have := conv_any (w := wr.drewN m) ((HB.out.below hbel).rd k hlt) (D k)
        rw [HL.out k hlt] at this
        rw [this, str_congr fun j hj => HH.out k j hlt hj]
      rw [HL.out k hlt] at c2
      clear hca hcb hbel
      have i1 : (0 : Int) ≤ (k : Int) := by omega
      have i2 : (k : Int) < (ll : Int) := by omega
      go_wp2
      go_quiet (fail)
      go_wp2
      go_roundw
      case rel =>
        obtain ⟨q, hq⟩ := hdr.out
        exact ⟨k + 1, by omega, by go_num, q + nq, by rw [hq]; simp [World.drewN, Nat.add_assoc]⟩
      case measure => simp [intOf]; omega
    · go_wp2
      go_ret
      exact ⟨rfl, hdr.out⟩

def fewB (ll : Nat) (L : Nat → Nat) : Bool := decide (ll ≤ 1000 ∧ ∀ i, i < ll → L i ≤ 1000)
set_option maxHeartbeats 1000000 in
set_option maxRecDepth 100000 in
theorem much_any (w : World) (lo : Option Addr) (ll cl : Nat) (A : Nat → Option Addr) (C L : Nat → Nat) (H : M) (hl : Lst w lo ll A C L H) :
    Calls Try.prog 17 #[.slice lo ll cl] w fun e w' => e = .returned (.bool (!fewB ll L)) ∧ w' = w := by
  by_cases h1 : ll ≤ 1000
  · by_cases h2 : ∀ i, i < ll → L i ≤ 1000
    · rw [show fewB ll L = true from decide_eq_true ⟨h1, h2⟩]
      have HL : Hid (Lst w lo ll A C L H) := hl
      have HS : Hid (∀ i, i < ll → L i ≤ 1000) := h2
      clear hl h2
      go_enter Try.func17, Try.ntmps17
      go_wp2
      go_loop [3] (fun i => ∃ k : Nat, k ≤ ll ∧ i = .int .i64 k) (fun i => ll - (intOf i).toNat)
      case atStart => exact ⟨0, Nat.zero_le _, rfl⟩
      case round =>
        obtain ⟨k, hk, rfl⟩ := hrel
        by_cases hlt : k < ll
        · obtain ⟨b, off, rfl, hcl⟩ := HL.out.at_ (by omega)
          have ck := hcl k hlt
          have hs := HS.out k hlt
          clear hcl
          go_wp2
          go_round
          case rel => exact ⟨k + 1, by omega, by go_num⟩
          case measure => simp [intOf]; omega
        · go_wp2
          go_ret
          exact ⟨rfl, rfl⟩
    · rw [show fewB ll L = false from decide_eq_false fun h => h2 h.2]
      obtain ⟨q, hq, hne, heq⟩ := first_not h2
      have HE : Hid (∀ i, i < q → L i ≤ 1000) := heq
      have HNE : Hid (¬ L q ≤ 1000) := hne
      obtain ⟨b, off, rfl, hcl⟩ := hl.at_ (by omega)
      have HCL : Hid (∀ i, i < ll → w.cell? ⟨b, off + i, none⟩ = some (.slice (A i) (L i) (C i))) := hcl
      clear hcl h2 heq hne hl
      go_enter Try.func17, Try.ntmps17
      go_wp2
      go_loop [3] (fun i => ∃ k : Nat, k ≤ q ∧ i = .int .i64 k) (fun i => ll - (intOf i).toNat)
      case atStart => exact ⟨0, Nat.zero_le _, rfl⟩
      case round =>
        obtain ⟨k, hk, rfl⟩ := hrel
        have ck := HCL.out k (by omega)
        by_cases hlt : k < q
        · have hs := HE.out k hlt
          go_wp2
          go_round
          case rel => exact ⟨k + 1, by omega, by go_num⟩
          case measure => simp [intOf]; omega
        · obtain rfl : k = q := by omega
          have hs := HNE.out
          go_wp2
          go_ret
          exact ⟨rfl, rfl⟩
  · rw [show fewB ll L = false from decide_eq_false fun h => h1 h.1]
    clear hl
    go_enter Try.func17, Try.ntmps17
    go_wp2
    go_ret
    exact ⟨rfl, rfl⟩

/-- What a walk is told of a list of slices that came in. -/
def IsLst (w : World) (a : Option Addr) (len cap : Nat) : Prop :=
  len ≤ 9223372036854775807 ∧ (a = none → len = 0 ∧ cap = 0) ∧
  ∃ (A : Nat → Option Addr) (C L : Nat → Nat) (H : M), Lst w a len A C L H ∧ ∀ i, i < len → (A i = none → L i = 0 ∧ C i = 0) ∧ L i ≤ 9223372036854775807
theorem spot_none {w : World} {x : Addr} {v : Value} (h : w.cell? x = some v) : x.spot = none := by
  unfold World.cell? at h
  split at h
  · split at h
    · cases h
    · rename_i hn
      simpa using hn
  · cases h
def ofInts (zs : List Int) (i : Nat) : K := K.of (zs.getD i 0).toNat

theorem isLst_of {H : Type} {enc : TypeId × Value → H} {w : World} {base : Nat} {held : Bool} {fuel : Nat} {a : Option Addr} {len cap : Nat} {x : DataW H × List MemPlace}
    (h : DataW.trod enc Try.prog w base (fun _ => true) held fuel 23 [.slice a len cap] = some x) : IsLst w a len cap := by
  rcases Go.Deep.open_int_rows Try.underlying23 Try.underlying34 Try.underlying5 (by kernel_rfl) (by kernel_rfl) h with ⟨hcs, _⟩ | ⟨ad, l, c, A, L, C, Z, hcs, _, hl, hm, _, hr⟩
  · simp at hcs
    obtain ⟨rfl, rfl, rfl⟩ := hcs
    exact ⟨by omega, fun _ => ⟨rfl, rfl⟩, fun _ => none, fun _ => 0, fun _ => 0, fun _ _ => 0, ⟨fun i hi => absurd hi (Nat.not_lt_zero i), fun hp => absurd hp (Nat.lt_irrefl 0)⟩, fun i hi => absurd hi (Nat.not_lt_zero i)⟩
  · simp at hcs
    obtain ⟨rfl, rfl, rfl⟩ := hcs
    have hb : ∀ r j, r < cap → 0 ≤ (Z r).getD j 0 ∧ (Z r).getD j 0 ≤ 255 := fun r j hrc => by
      rw [List.getD_eq_getElem?_getD]
      by_cases hi : j < (Z r).length
      · rw [List.getElem?_eq_getElem hi]
        exact Go.bounds_u8 ((hr r hrc).2.2.2.2.1 _ (List.getElem_mem hi))
      · rw [List.getElem?_eq_none (by omega)]; exact ⟨by decide, by decide⟩
    refine ⟨by unfold maxLen at hm; omega, (fun h => by cases h), A, C, L, fun r j => ofInts (Z r) j, ⟨fun i hi => ?_, fun hp => ?_⟩, fun i hi => ?_⟩
    · obtain ⟨_, h2, _, h4, _, h6, h7⟩ := hr i (by omega)
      intro hp
      cases hA : A i with
      | none => have := h6 hA; omega
      | some x =>
        obtain ⟨_, hc⟩ := h7 x hA
        obtain ⟨b, off, sp⟩ := x
        have hs : sp = none := by have := spot_none (hc 0 (by omega)); rw [Addr.add_zero'] at this; exact this
        subst hs
        refine ⟨b, off, rfl, fun j hj => ?_⟩
        have := hc j (by omega)
        rw [Addr.add_lit] at this
        have hbb := hb i j (by omega)
        show _ = some (Value.int .u8 ((ofInts (Z i) j).n : Int))
        rw [this, ofInts, K.of_n _ (by omega), Int.toNat_of_nonneg hbb.1]
    · obtain ⟨b, off, sp⟩ := ad
      have hs : sp = none := by have := spot_none (hr 0 (by omega)).1; rw [Addr.add_zero'] at this; exact this
      subst hs
      refine ⟨b, off, rfl, fun i hi => ?_⟩
      have := (hr i (by omega)).1
      rwa [Addr.add_lit] at this
    · obtain ⟨_, h2, h3, _, _, h6, _⟩ := hr i (by omega)
      refine ⟨fun hA => ?_, by unfold maxLen at h3; omega⟩
      have := h6 hA
      omega
end Go.Proofs.Ytpfpldmmdbgnnaa
