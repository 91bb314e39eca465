/- The map of rows that a call has made: keys that are structs of three numbers, elements that are slices of bytes in memory of their own. -/
import Derived.Test.YthkikocacbbhkaaMatI
import Derived.Maps.OwnSet
import Derived.DeepKeys4
namespace Go.Proofs.Ythkikocacbbhkaa
open Go.RowKit
open Go.Maps (Keyed)

theorem laidOut : laidOutB Try.prog = true := by kernel_rfl
theorem row54 : (54 : TypeId) < Try.prog.types.size := of_decide_eq_true (by kernel_rfl)
theorem wide54 : (match Try.prog.underlying 54 with | some (.array _ _) | some (.struct _) => true | _ => false) = true := by kernel_rfl
theorem keyed : Keyed Try.prog 54 := Keyed.of_law (deep_law_laid laidOut (m := 3) (by omega) row54 (by kernel_rfl) wide54)
/-- A place: the key. -/
def key (k r c : Nat) : Value := .agg #[.int .i64 (k : Int), .int .i64 (r : Int), .int .i64 (c : Int)]
def keyLit (k r c : Nat) : Lit := .string (keyBytes [.int .i64 (k : Int), .int .i64 (r : Int), .int .i64 (c : Int)])
theorem keyType54 : Try.prog.keyType 54 = true := by kernel_rfl
theorem cells54 : Try.prog.cellsOf 54 = 3 := by kernel_rfl
theorem cells3 : Try.prog.cellsOf 3 = 1 := by kernel_rfl
theorem size_types : Try.prog.types.size = 108 := by kernel_rfl
theorem wf_small {n : Nat} (h : n ≤ 1000) : (Lit.int .i64 (n : Int)).wf = true := WalkArith.wf_i64 (by omega)
theorem lits3 (d n : Nat) (h : n ≤ 1000) : Try.prog.keyLits (d + 1) 3 [.int .i64 (n : Int)] = some [.int .i64 (n : Int)] := by
  unfold Program.keyLits
  rw [Try.underlying3]
  simp [wf_small h]
theorem keyOf_key (k r c : Nat) (hk : k ≤ 1000) (hr : r ≤ 1000) (hc : c ≤ 1000) : keyOf Try.prog 54 (key k r c) = some (keyLit k r c) := by
  have hf : (key k r c).formed Try.prog 54 = true := by
    obtain ⟨fs, hu⟩ : ∃ fs, Try.prog.underlying 54 = some (.struct fs) := ⟨_, Try.underlying54⟩
    simp [Value.formed, key, hu, cells54]
  obtain ⟨d, hd⟩ : ∃ d, Try.prog.types.size + 1 = d + 1 + 1 := ⟨107, by rw [size_types]⟩
  have e1 := lits3 d k hk
  have e2 := lits3 d r hr
  have e3 := lits3 d c hc
  have hl : Try.prog.keyLits (d + 1 + 1) 54 [.int .i64 (k : Int), .int .i64 (r : Int), .int .i64 (c : Int)] = some [.int .i64 (k : Int), .int .i64 (r : Int), .int .i64 (c : Int)] := by
    unfold Program.keyLits
    rw [Try.underlying54]
    simp [cells54, cells3, e1, e2, e3]
  unfold keyOf
  rw [Try.underlying54]
  simp only [keyType54, hf, Bool.and_self, if_true, hd]
  show Option.map _ (Try.prog.keyLits (d + 1 + 1) 54 [.int .i64 (k : Int), .int .i64 (r : Int), .int .i64 (c : Int)]) = _
  rw [hl]
  rfl
theorem keyLit_inj {k r c c' : Nat} (hk : k ≤ 1000) (hr : r ≤ 1000) (hc : c ≤ 1000) (hc' : c' ≤ 1000) (h : keyLit k r c = keyLit k r c') : c = c' := by
  have h1 := keyOf_key k r c hk hr hc
  have h2 := keyOf_key k r c' hk hr hc'
  rw [← h] at h2
  have := keyed.inj h1 h2
  simp [key] at this
  omega
theorem keyLit_is (k r c : Nat) (hk : k ≤ 1000) (hr : r ≤ 1000) (hc : c ≤ 1000) : WideAt.IsKeyLit (keyLit k r c) := keyed.key (keyOf_key k r c hk hr hc)

/-- How an element is told: where it begins, how many bytes it has, how much room. -/
def told (g n u : Nat) : DataW Unit := .agg [.lit (.int .i64 (g : Int)), .lit (.int .i64 (n : Int)), .lit (.int .i64 (u : Int))]
def elem : Value → Option (DataW Unit × List MemPlace)
  | .slice (some ⟨g, 0, none⟩) n u => some (told g n u, [])
  | .slice none 0 0 => some (.agg [], [])
  | _ => none
theorem elem_mk (g n u : Nat) : elem (.slice (some ⟨g, 0, none⟩) n u) = some (told g n u, []) := rfl
theorem elem_nil : elem (.slice none 0 0) = some (.agg [], []) := rfl
theorem elem_inv {v : Value} {g n u : Nat} {ps : List MemPlace} (h : elem v = some (told g n u, ps)) : v = .slice (some ⟨g, 0, none⟩) n u := by
  unfold elem at h
  split at h
  · rename_i g' n' u'
    simp only [told, Option.some.injEq, Prod.mk.injEq, DataW.agg.injEq, List.cons.injEq, DataW.lit.injEq, Lit.int.injEq, true_and, and_true, Int.natCast_inj] at h
    obtain ⟨⟨rfl, rfl, rfl⟩, _⟩ := h
    rfl
  · simp [told] at h
  · cases h
theorem zero23 (w : World) : (zeroValue 23).run Try.prog w = .ok (.slice none 0 0) w := by kernel_rfl
end Go.Proofs.Ythkikocacbbhkaa
