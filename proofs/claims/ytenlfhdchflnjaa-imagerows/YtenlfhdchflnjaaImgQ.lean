/- What the statements ask of images and raw writes that came in. -/
import Derived.Test.YtenlfhdchflnjaaImgP
namespace Go.Proofs.Ytenlfhdchflnjaa
open Go.RowKit

set_option maxHeartbeats 400000 in
theorem much_any (k r c q : Int) (lo : Option Addr) (n cl : Nat) (w : World) (x : Bool) (hx : x = decide (2000 < n)) :
    Calls Try.prog 18 #[.agg #[.int .i64 k, .int .i64 r, .int .i64 c, .int .i64 q, .slice lo n cl]] w fun e w' => e = .returned (.bool x) ∧ Below w.heap.size w w' := by
  have HX : Hid (decide ((2000 : Int) < (n : Int)) = x) := by show _ = _; rw [hx]; exact decide_eq_decide.2 (by omega)
  clear hx
  go_enter Try.func18, Try.ntmps18
  go_wp2
  go_ret
  exact ⟨ret_bool HX.out, below_alloc _ _⟩
/-- Is a list of raw writes long, or one of them? -/
def Hvy (D : Nat → Pt) (ln : Nat) (x : Bool) : Prop := (x = true ∧ (200 < ln ∨ ∃ i, i < ln ∧ 5000 < (D i).b.length)) ∨ (x = false ∧ ln ≤ 200 ∧ ∀ i, i < ln → (D i).b.length ≤ 5000)
theorem hvy_ex (D : Nat → Pt) (ln : Nat) : ∃ x, Hvy D ln x := by
  by_cases h : ln ≤ 200 ∧ ∀ i, i < ln → (D i).b.length ≤ 5000
  · exact ⟨false, .inr ⟨rfl, h⟩⟩
  · refine ⟨true, .inl ⟨rfl, ?_⟩⟩
    by_cases h1 : ln ≤ 200
    · refine .inr (Classical.byContradiction fun hn => h ⟨h1, fun i hi => ?_⟩)
      exact Classical.byContradiction fun h2 => hn ⟨i, hi, by omega⟩
    · exact .inl (by omega)
set_option maxHeartbeats 1000000 in
set_option maxRecDepth 100000 in
theorem heavy_any {D : Nat → Pt} {ln : Nat} {x : Bool} (hx : Hvy D ln x) (po : Option Addr) (pc : Nat) (B : Nat → Option Addr) (K : Nat → Nat) {Z : Nat → Prop} (w : World) (hp : Pts w Z po ln D B K) :
    Calls Try.prog 19 #[.slice po ln pc] w fun e w' => e = .returned (.bool x) ∧ w' = w := by
  have HP : Hid (Pts w Z po ln D B K) := hp
  have HX : Hid (Hvy D ln x) := hx
  clear hp hx
  by_cases h : 200 < ln
  · have h2 : (200 : Int) < (ln : Int) := by omega
    have HE : Hid (x = true) := by
      rcases HX.out with ⟨h, _⟩ | ⟨_, h3, _⟩
      · exact h
      · omega
    go_enter Try.func19, Try.ntmps19
    go_wp2
    go_ret
    exact ⟨ret_bool HE.out.symm, rfl⟩
  · have h2 : ¬ (200 : Int) < (ln : Int) := by omega
    go_enter Try.func19, Try.ntmps19
    go_wp2_with fail
    go_loop [3] (fun y => ∃ i : Nat, i ≤ ln ∧ y = .int .i64 i ∧ Hid (∀ j, j < i → (D j).b.length ≤ 5000)) (fun y => ln - (intOf y).toNat)
    case atStart => exact ⟨0, Nat.zero_le _, rfl, fun j hj => absurd hj (Nat.not_lt_zero j)⟩
    case round =>
      obtain ⟨i, hi, rfl, hg⟩ := hrel
      by_cases hlt : i < ln
      · obtain ⟨b, off, rfl, hc⟩ := HP.out.at_ (by omega)
        obtain ⟨k0, k1, k2, k3⟩ := hc i hlt
        obtain ⟨L, hL⟩ : ∃ L, L = (D i).b.length := ⟨_, rfl⟩
        have HL : Hid (L = (D i).b.length) := hL
        rw [← hL] at k3
        have i1 : (0 : Int) ≤ (i : Int) := by omega
        have i2 : (i : Int) < (ln : Int) := by omega
        clear hc hL k0 k1 k2
        by_cases h5 : 5000 < L
        · have h6 : (5000 : Int) < (L : Int) := by omega
          have HE : Hid (x = true) := by
            rcases HX.out with ⟨h, _⟩ | ⟨_, _, h3⟩
            · exact h
            · have := h3 i hlt; rw [← HL.out] at this; omega
          go_wp2_with fail
          go_ret
          exact ⟨ret_bool HE.out.symm, rfl⟩
        · have h6 : ¬ (5000 : Int) < (L : Int) := by omega
          go_wp2_with fail
          go_round
          case rel => exact ⟨i + 1, by omega, by go_num, fun j hj => by rcases Nat.lt_succ_iff_lt_or_eq.1 hj with g | rfl; exact hg.out j g; rw [← HL.out]; omega⟩
          case measure => simp [intOf]; omega
      · obtain rfl : i = ln := by omega
        have HE : Hid (x = false) := by
          rcases HX.out with ⟨_, h3 | ⟨j, h4, h5⟩⟩ | ⟨h, _⟩
          · omega
          · have := hg.out j h4; omega
          · exact h
        go_wp2_with fail
        go_ret
        exact ⟨ret_bool HE.out.symm, rfl⟩
theorem Lst.only {X : Nat → Prop} {w w' : World} {lo : Option Addr} {n : Nat} {A : Nat → Option Addr} {C : Nat → Nat} {F : Nat → List UInt8} (h : Lst w lo n A C F) (ho : Only X w w') (h1 : 0 < n → ∀ a, lo = some a → ¬ X a.block) (h2 : ∀ i a, i < n → A i = some a → F i ≠ [] → ¬ X a.block) : Lst w' lo n A C F :=
  ⟨fun hn => by obtain ⟨b, off, e, hc⟩ := h.at_ hn; exact ⟨b, off, e, fun i hi => ho.cell (hc i hi) (show ¬ X b from h1 hn ⟨b, off, none⟩ e)⟩, fun i hi => (h.rd i hi).only2 ho (fun hc a ha => h2 i a hi ha hc), h.nil⟩
theorem Lst.lt {w : World} {lo : Option Addr} {n : Nat} {A : Nat → Option Addr} {C : Nat → Nat} {F : Nat → List UInt8} (h : Lst w lo n A C F) : (0 < n → ∀ a, lo = some a → a.block < w.heap.size) ∧ ∀ i a, i < n → A i = some a → F i ≠ [] → a.block < w.heap.size :=
  ⟨fun hn a ha => by obtain ⟨b, off, e, hc⟩ := h.at_ hn; rw [ha] at e; cases e; exact World.block_lt_of_cell? w _ (hc 0 hn), fun i _ hi ha hc => (h.rd i hi).lt hc ha⟩
theorem Im.ge {B : Nat} {w : World} {lo : Option Addr} {n : Nat} {A : Nat → Option Addr} {C : Nat → Nat} {F : Nat → List UInt8} (h : Im B w lo n A C F) : (∀ a, lo = some a → B ≤ a.block) ∧ ∀ i a, i < n → A i = some a → B ≤ a.block := by
  rcases h with ⟨h0, h1⟩ | ⟨l, e, h1, _⟩
  · exact ⟨(fun a e => by rw [h1] at e; cases e), fun i a hi => by omega⟩
  · exact ⟨fun a ha => by rw [e] at ha; cases ha; exact h1.own, fun i a hi ha => (h1.at_ i a hi ha).1⟩
end Go.Proofs.Ytenlfhdchflnjaa
