/- Drives wiped, told, forgotten; a disk that nobody made. -/
import Derived.Test.YtdicogmjjboilaaDskD
namespace Go.Proofs.Ytdicogmjjboilaa
open Go.RowKit

theorem slots_wipe {Y : Nat → Prop} {l n : Nat} : ∀ (m o : Nat) (w : World) (A : Nat → Option Addr) (C : Nat → Nat) (F : Nat → List UInt8), Slots w Y l n A C F →
    (∃ A' C', Slots (w.setCells l o (List.replicate m (.slice none 0 0))) Y l n A' C' (fun j => if o ≤ j ∧ j < o + m then [] else F j)) ∧ Only (fun x => x = l) w (w.setCells l o (List.replicate m (.slice none 0 0)))
  | 0, o, w, A, C, F, h => ⟨⟨A, C, h.congr fun i _ => by rw [if_neg (by omega)]⟩, Only.refl _ _⟩
  | m + 1, o, w, A, C, F, h => by
    have h1 := h.put o none 0 [] (rdb_nil _ _) (fun a ha => by cases ha) (fun _ => ⟨rfl, rfl⟩)
    obtain ⟨⟨A', C', h2⟩, h3⟩ := slots_wipe m (o + 1) _ _ _ _ h1
    refine ⟨⟨A', C', h2.congr fun j _ => ?_⟩, Only.trans (Only.setCell (X := fun x => x = l) (p := ⟨l, o, none⟩) (Only.refl _ _) rfl _) h3⟩
    by_cases e : j = o
    · subst e; rw [if_neg (by omega), upd_at, if_pos (by omega)]
    · rw [upd_ne _ _ e]
      by_cases h : o + 1 ≤ j ∧ j < o + 1 + m
      · rw [if_pos h, if_pos (by omega)]
      · rw [if_neg h, if_neg (by omega)]
set_option maxHeartbeats 400000 in
theorem nobodys_nil (w : World) : Calls Try.prog 45 #[.pointer none] w fun e w' => e = .returned (.bool true) ∧ w' = w := by
  go_enter Try.func45, Try.ntmps45
  go_wp2
  go_ret
  exact ⟨rfl, rfl⟩
set_option maxHeartbeats 400000 in
theorem nobodys_blank (w : World) (g : Nat) (lo : Option Addr) (cl : Nat) (c4 : w.cell? ⟨g, 4, none⟩ = some (.slice lo 0 cl)) : Calls Try.prog 45 #[.pointer (some ⟨g, 0, none⟩)] w fun e w' => e = .returned (.bool true) ∧ w' = w := by
  go_enter Try.func45, Try.ntmps45
  go_wp2
  go_ret
  exact ⟨rfl, rfl⟩
set_option maxHeartbeats 400000 in
theorem nobodys_not (w : World) (g : Nat) (lo : Option Addr) (n cl : Nat) (hn : 0 < n) (c4 : w.cell? ⟨g, 4, none⟩ = some (.slice lo n cl)) : Calls Try.prog 45 #[.pointer (some ⟨g, 0, none⟩)] w fun e w' => e = .returned (.bool false) ∧ w' = w := by
  have h1 : ((n : Int) == 0) = false := by simp; omega
  have h2 : ¬ n = 0 := by omega
  go_enter Try.func45, Try.ntmps45
  go_wp2
  go_ret
  exact ⟨rfl, rfl⟩
/-- The drives that are gone, of the first n. -/
def gl (n : Nat) (G : Nat → Bool) : List Int := ((List.range n).filter G).map fun (i : Nat) => (i : Int)
theorem gl_succ (n : Nat) (G : Nat → Bool) : gl (n + 1) G = gl n G ++ (if G n = true then [(n : Int)] else []) := by
  unfold gl
  rw [List.range_succ, List.filter_append, List.map_append]
  congr 1
  cases h : G n <;> simp [h]
theorem gl_len (n : Nat) (G : Nat → Bool) : (gl n G).length ≤ n := by
  induction n with
  | zero => exact Nat.le_refl _
  | succ n ih => rw [gl_succ, List.length_append]; split <;> simp <;> omega
def ints (L : List Int) : List Value := L.map fun x => .int .i64 x
theorem info3 : (Try.prog.info? 3).map (fun i => (i.zero, i.size, i.bytes)) = some (some (.int .i64 0), 1, 8) := by kernel_rfl
/-- A list of integers of the call's own. -/
def OwI (B : Nat) (w : World) (ao : Option Addr) (cap : Nat) (L : List Int) : Prop := w.ownsRow B 3 1 (.slice ao L.length cap) L.length (ints L)
def XSof (G : Nat → Bool) : Array Value := #[.bool (G 0), .bool (G 1), .bool (G 2), .bool (G 3), .bool (G 4), .bool (G 5), .bool (G 6), .bool (G 7), .bool (G 8), .bool (G 9), .bool (G 10), .bool (G 11), .bool (G 12), .bool (G 13), .bool (G 14), .bool (G 15)]
theorem lt16 {P : Nat → Prop} (h0 : P 0) (h1 : P 1) (h2 : P 2) (h3 : P 3) (h4 : P 4) (h5 : P 5) (h6 : P 6) (h7 : P 7) (h8 : P 8) (h9 : P 9) (h10 : P 10) (h11 : P 11) (h12 : P 12) (h13 : P 13) (h14 : P 14) (h15 : P 15) : ∀ i, i < 16 → P i := by
  intro i hi
  rcases (show i = 0 ∨ i = 1 ∨ i = 2 ∨ i = 3 ∨ i = 4 ∨ i = 5 ∨ i = 6 ∨ i = 7 ∨ i = 8 ∨ i = 9 ∨ i = 10 ∨ i = 11 ∨ i = 12 ∨ i = 13 ∨ i = 14 ∨ i = 15 by omega) with rfl | rfl | rfl | rfl | rfl | rfl | rfl | rfl | rfl | rfl | rfl | rfl | rfl | rfl | rfl | rfl <;> assumption
theorem idx_any (G : Nat → Bool) (w : World) : ∀ i : Nat, i < 16 → (Instr.index 67 (.agg (XSof G)) (.int .i64 (i : Int))).run Try.prog w = .ok (.bool (G i)) w :=
  lt16 (P := fun i : Nat => (Instr.index 67 (.agg (XSof G)) (.int .i64 (i : Int))).run Try.prog w = .ok (.bool (G i)) w) (by kernel_rfl) (by kernel_rfl) (by kernel_rfl) (by kernel_rfl) (by kernel_rfl) (by kernel_rfl) (by kernel_rfl) (by kernel_rfl) (by kernel_rfl) (by kernel_rfl) (by kernel_rfl) (by kernel_rfl) (by kernel_rfl) (by kernel_rfl) (by kernel_rfl) (by kernel_rfl)
theorem dkv_gone {k r c q : Int} {sl : Value} {gone : Nat → Bool} {off cut : Bool} {left wr : Int} : ∀ i : Nat, i < 16 → (dkv k r c q sl gone off cut left wr)[5 + i]? = some (.bool (gone i)) :=
  lt16 (P := fun i : Nat => (dkv k r c q sl gone off cut left wr)[5 + i]? = some (.bool (gone i))) rfl rfl rfl rfl rfl rfl rfl rfl rfl rfl rfl rfl rfl rfl rfl rfl
theorem dkv_set {k r c q : Int} {sl : Value} {gone : Nat → Bool} {off cut : Bool} {left wr : Int} : ∀ i : Nat, i < 16 → (dkv k r c q sl gone off cut left wr).set (5 + i) (.bool true) = dkv k r c q sl (upd i true gone) off cut left wr :=
  lt16 (P := fun i : Nat => (dkv k r c q sl gone off cut left wr).set (5 + i) (.bool true) = dkv k r c q sl (upd i true gone) off cut left wr) rfl rfl rfl rfl rfl rfl rfl rfl rfl rfl rfl rfl rfl rfl rfl rfl
end Go.Proofs.Ytdicogmjjboilaa
