/- What Xor, Plus and Scale of the program answer, whatever two slices and number: the sum, or the error. -/
import Derived.Test.YthkikocacbbhkaaKerC
namespace Go.Proofs.Ythkikocacbbhkaa.Ker
open Go.RowKit

/-- What a call answers: nothing, or a row of its own. -/
def Ans (w w' : World) (ro : Option Addr) (n : Nat) (f : Nat → Nat) : Prop :=
  (ro = none ∧ n = 0 ∧ ∀ i, f i < 256) ∨ ∃ g, ro = some ⟨g, 0, none⟩ ∧ w.heap.size ≤ g ∧ Own w' g n f
theorem Ans.rd {w w' : World} {ro : Option Addr} {n : Nat} {f : Nat → Nat} (h : Ans w w' ro n f) : Rd w' ro n f := by
  rcases h with ⟨rfl, rfl, hf⟩ | ⟨g, rfl, _, ho⟩
  · exact Rd.nil _ _ _ hf
  · exact ho.rd
theorem Ans.below {w w' w'' : World} {ro : Option Addr} {n : Nat} {f : Nat → Nat} (h : Ans w w' ro n f) (hb : Below w'.heap.size w' w'') : Ans w w'' ro n f := by
  rcases h with h | ⟨g, rfl, hg, ho⟩
  · exact .inl h
  · exact .inr ⟨g, rfl, hg, ho.below hb⟩
theorem Ans.older {w0 w w' : World} {ro : Option Addr} {n : Nat} {f : Nat → Nat} (h : Ans w w' ro n f) (hb : w0.heap.size ≤ w.heap.size) : Ans w0 w' ro n f := by
  rcases h with h | ⟨g, rfl, hg, ho⟩
  · exact .inl h
  · exact .inr ⟨g, rfl, by omega, ho⟩
theorem Ans.congr {w w' : World} {ro : Option Addr} {n : Nat} {f h : Nat → Nat} (r : Ans w w' ro n f) (hb : ∀ i, h i < 256) (e : ∀ i, i < n → f i = h i) : Ans w w' ro n h := by
  rcases r with ⟨h1, h2, _⟩ | ⟨g, h1, h2, h3⟩
  · exact .inl ⟨h1, h2, hb⟩
  · exact .inr ⟨g, h1, h2, h3.congr hb e⟩

def okP (la lb : Nat) : Bool := decide (la = lb) && decide (la ≤ 65536)
def lenB (b : Bool) (n : Nat) : Nat := if b then n else 0
def errB (b : Bool) : Int := if b then 0 else 20
theorem okP_true {la lb : Nat} (h : okP la lb = true) : la = lb ∧ la ≤ 65536 := by simpa [okP] using h
theorem okP_false {la lb : Nat} (h : okP la lb = false) : 65536 < la ∨ la ≠ lb := by
  by_cases h1 : la = lb
  · left
    by_cases h2 : la ≤ 65536
    · simp [okP, h1] at h; omega
    · omega
  · exact .inr h1

/-- Two things, by their number. -/
def two {α : Type} (a b : α) (i : Nat) : α := if i = 0 then a else b
theorem two_zero {α : Type} (a b : α) : two a b 0 = a := rfl
theorem two_one {α : Type} (a b : α) : two a b 1 = b := rfl

theorem terms2 (w : World) (c d : Nat) (ao bo : Option Addr) (la ca lb cb : Nat) (f h : Nat → Nat) (hc : c < 256) (hd : d < 256) (ha : Rd w ao la f) (hb : Rd w bo lb h) :
    Terms (w.alloc (.cells #[.int .u8 (c : Int), .slice ao la ca, .int .u8 (d : Int), .slice bo lb cb] 62)) w.heap.size 2 (two c d) (two ao bo) (two ca cb) (two la lb) (two f h) := by
  have hbel : Below w.heap.size w (w.alloc (.cells #[.int .u8 (c : Int), .slice ao la ca, .int .u8 (d : Int), .slice bo lb cb] 62)) := (Below.refl _ w).alloc (Nat.le_refl _) _
  refine ⟨by simp, fun i => by unfold two; split <;> assumption, fun i hi => ?_, fun i hi => ?_, fun i hi => ?_⟩
  all_goals (obtain rfl | rfl : i = 0 ∨ i = 1 := by omega)
  · exact ha.below hbel
  · exact hb.below hbel
  all_goals (rw [cell_of_row _ _ _ _ _ _ (heap_alloc_new w _)]; rfl)

theorem terms1 (w : World) (c : Nat) (ao : Option Addr) (la ca : Nat) (f : Nat → Nat) (hc : c < 256) (ha : Rd w ao la f) :
    Terms (w.alloc (.cells #[.int .u8 (c : Int), .slice ao la ca] 62)) w.heap.size 1 (fun _ => c) (fun _ => ao) (fun _ => ca) (fun _ => la) (fun _ => f) := by
  have hbel : Below w.heap.size w (w.alloc (.cells #[.int .u8 (c : Int), .slice ao la ca] 62)) := (Below.refl _ w).alloc (Nat.le_refl _) _
  refine ⟨by simp, fun _ => hc, fun i hi => ha.below hbel, fun i hi => ?_, fun i hi => ?_⟩
  all_goals (obtain rfl : i = 0 := by omega)
  all_goals (rw [cell_of_row _ _ _ _ _ _ (heap_alloc_new w _)]; rfl)

theorem zero_add (a : Nat) : Gf.add 0 a = a := by rw [Gf.add_comm, Gf.add_zero]
theorem tot2 (d : Nat) (f h : Nat → Nat) (hf : ∀ i, f i < 256) (i : Nat) : tot (two 1 d) (two f h) 2 i = plus f d h i := by
  show Gf.add (Gf.add 0 (Gf.mul 1 (f i))) (Gf.mul d (h i)) = _
  rw [zero_add, Gf.one_mul _ (hf i)]; rfl
/-- c times f. -/
def scl (c : Nat) (f : Nat → Nat) (i : Nat) : Nat := Gf.mul c (f i)
theorem scl_lt (c : Nat) (f : Nat → Nat) (hc : c < 256) (i : Nat) : scl c f i < 256 := Gf.mul_lt _ _ hc
theorem tot1 (c : Nat) (f : Nat → Nat) (i : Nat) : tot (fun _ => c) (fun _ => f) 1 i = scl c f i := zero_add _

/-- What a call that makes a slice of n bytes f comes to; b: may it be? -/
def Made (w : World) (b : Bool) (n : Nat) (f : Nat → Nat) (e : Ending) (w' : World) : Prop :=
  ∃ ro, e = .returned (.tuple #[.slice ro (lenB b n) (lenB b n), .int .i64 (errB b)]) ∧ Ans w w' ro (lenB b n) f ∧ Below w.heap.size w w'

theorem sum2 (w : World) (d : Nat) (ao bo : Option Addr) (la ca lb cb : Nat) (f h : Nat → Nat) (hd : d < 256) (ha : Rd w ao la f) (hb : Rd w bo lb h) :
    Calls Try.prog 36 #[.slice (some ⟨w.heap.size, 0, none⟩) 2 2] (w.alloc (.cells #[.int .u8 1, .slice ao la ca, .int .u8 (d : Int), .slice bo lb cb] 62)) (Made w (okP la lb) la (plus f d h)) := by
  have t := terms2 w 1 d ao bo la ca lb cb f h (by decide) hd ha hb
  have hbel : Below w.heap.size w (w.alloc (.cells #[.int .u8 1, .slice ao la ca, .int .u8 (d : Int), .slice bo lb cb] 62)) := (Below.refl _ w).alloc (Nat.le_refl _) _
  cases hok : okP la lb
  · refine (sum_bad _ _ _ 2 _ _ _ _ _ t (by decide) (by decide) ?_).mono ?_
    · rcases okP_false hok with h1 | h1
      · exact .inl h1
      · exact .inr ⟨1, by decide, fun e => h1 e.symm⟩
    · rintro e w' ⟨rfl, rfl⟩
      exact ⟨none, rfl, .inl ⟨rfl, rfl, plus_lt f d h ha.1 hd⟩, hbel⟩
  · obtain ⟨rfl, hl⟩ := okP_true hok
    refine (sum_ok _ _ _ 2 la _ _ _ _ _ t (by decide) hl (fun i _ => by unfold two; split <;> rfl) (fun h => absurd h (by decide))).mono ?_
    rintro e w' ⟨rfl, ho, hb'⟩
    exact ⟨_, rfl, .inr ⟨_, rfl, by simp, ho.congr (plus_lt f d h ha.1 hd) fun i _ => tot2 d f h ha.1 i⟩, below_step hbel hb' (by simp)⟩

theorem sum1 (w : World) (c : Nat) (ao : Option Addr) (la ca : Nat) (f : Nat → Nat) (hc : c < 256) (ha : Rd w ao la f) :
    Calls Try.prog 36 #[.slice (some ⟨w.heap.size, 0, none⟩) 1 1] (w.alloc (.cells #[.int .u8 (c : Int), .slice ao la ca] 62)) (Made w (okP la la) la (scl c f)) := by
  have t := terms1 w c ao la ca f hc ha
  have hbel : Below w.heap.size w (w.alloc (.cells #[.int .u8 (c : Int), .slice ao la ca] 62)) := (Below.refl _ w).alloc (Nat.le_refl _) _
  cases hok : okP la la
  · refine (sum_bad _ _ _ 1 _ _ _ _ _ t (by decide) (by decide) ?_).mono ?_
    · rcases okP_false hok with h1 | h1
      · exact .inl h1
      · exact absurd rfl h1
    · rintro e w' ⟨rfl, rfl⟩
      exact ⟨none, rfl, .inl ⟨rfl, rfl, scl_lt c f hc⟩, hbel⟩
  · obtain ⟨_, hl⟩ := okP_true hok
    refine (sum_ok _ _ _ 1 la _ _ _ _ _ t (by decide) hl (fun i _ => rfl) (fun h => absurd h (by decide))).mono ?_
    rintro e w' ⟨rfl, ho, hb'⟩
    exact ⟨_, rfl, .inr ⟨_, rfl, by simp, ho.congr (scl_lt c f hc) fun i _ => tot1 c f i⟩, below_step hbel hb' (by simp)⟩

set_option maxHeartbeats 400000 in
theorem xor_any (w : World) (ao bo : Option Addr) (la ca lb cb : Nat) (f h : Nat → Nat) (ha : Rd w ao la f) (hb : Rd w bo lb h) :
    Calls Try.prog 22 #[.slice ao la ca, .slice bo lb cb] w (Made w (okP la lb) la (plus f 1 h)) := by
  have HS := sum2 w 1 ao bo la ca lb cb f h (by decide) ha hb
  clear ha hb
  go_enter Try.func22, Try.ntmps22
  go_wp2_with (go_at_call 36; refine HS.mono ?_; rintro e w' ⟨ro, rfl, hans, hbel⟩)
  go_ret2
  exact ⟨ro, rfl, hans, hbel⟩

end Go.Proofs.Ythkikocacbbhkaa.Ker
