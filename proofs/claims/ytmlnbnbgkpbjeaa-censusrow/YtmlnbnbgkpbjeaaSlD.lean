/- A slot written into its parts. -/
import Derived.Test.YtmlnbnbgkpbjeaaSlC
import Derived.Lib.BufferWrite
namespace Go.Proofs.Ytmlnbnbgkpbjeaa
open Go.RowKit

theorem byF_splice {n o k : Nat} (G H : Nat → UInt8) (h : o + k ≤ n) : (byF n G).take o ++ (byF k H ++ (byF n G).drop (o + k)) = byF n (upR G o k H) := by
  have e1 : ((byF n G).take o).length = o := by rw [List.length_take, byF_length]; omega
  apply List.ext_getElem?
  intro j
  by_cases h1 : j < o
  · rw [List.getElem?_append_left (by omega), List.getElem?_take_of_lt h1, byF_get _ _ _ (by omega), byF_get _ _ _ (by omega), upR_out (by omega)]
  · rw [List.getElem?_append_right (by omega), e1]
    by_cases h2 : j < o + k
    · rw [List.getElem?_append_left (by rw [byF_length]; omega), byF_get _ _ _ (by omega), byF_get _ _ _ (by omega), upR_in (by omega)]
    · rw [List.getElem?_append_right (by rw [byF_length]; omega), byF_length, List.getElem?_drop, show o + k + (j - o - k) = j by omega]
      by_cases h3 : j < n
      · rw [byF_get _ _ _ h3, byF_get _ _ _ h3, upR_out (by omega)]
      · rw [List.getElem?_eq_none (by rw [byF_length]; omega), List.getElem?_eq_none (by rw [byF_length]; omega)]
theorem only_setRow (w : World) (g : Nat) (cs : Array Value) : Only (fun b => b = g) w (w.setRow g cs) := ⟨rfl, rfl, rfl, by simp [World.setRow], fun k _ hk => setRow_other w g k cs hk⟩
theorem run_copy_bk {w : World} {g n off k dC : Nat} {G H : Nat → UInt8} {bo : Option Addr} {cb : Nat} (h0 : 0 < k) (hg : Bk w g n G) (hb : Bec w bo k cb H) (hfit : off + k ≤ n) :
    ∃ w', (Builtin.copy_ #[45, 45] 3 #[.slice (some ⟨g, off, none⟩) k dC, .slice bo k cb]).run Try.prog w = .ok (goInt k) w' ∧ Bk w' g n (upR G off k H) ∧ Only (fun b => b = g) w w' := by
  obtain ⟨b, bof, rfl, hc⟩ := hb.rd h0
  have hl : (byF k H).length = Nat.min k k := by rw [byF_length]; exact (Nat.min_self k).symm
  have hrun := run_copy_row (P := Try.prog) w 45 45 3 5 g off k dC ⟨b, bof, none⟩ k cb (byF n G).toArray 5 (byF k H) Try.underlying45 (by kernel_rfl) hg hl (bec_news hb) (by simp [byF_length]; exact hfit) (byF_one k H)
  rw [byF_length] at hrun
  refine ⟨_, hrun, ?_, only_setRow _ _ _⟩
  unfold Bk
  rw [← byF_splice G H hfit]
  have := setRow_heap w g _ ((byF n G).take off ++ (byF k H ++ (byF n G).drop (off + k))).toArray 5 _ hg
  simpa using this
def mkF (i : Nat) : UInt8 := if i = 0 then 84 else 50
theorem run_copy_mark {w : World} {g n : Nat} {G : Nat → UInt8} (hg : Bk w g n G) (hfit : 2 ≤ n) :
    ∃ w', (Builtin.copy_ #[45, 9] 3 #[.slice (some ⟨g, 0, none⟩) 2 2, .string ⟨#[84, 50]⟩]).run Try.prog w = .ok (goInt 2) w' ∧ Bk w' g n (upR G 0 2 mkF) ∧ Only (fun b => b = g) w w' := by
  have hrun := Lib.run_copy_row_string (P := Try.prog) w 45 9 3 5 g 0 2 2 ⟨#[84, 50]⟩ (byF n G).toArray 5 Try.underlying45 (by kernel_rfl) hg (Nat.le_refl _) (by simp [byF_length]; exact hfit)
  refine ⟨_, hrun, ?_, only_setRow _ _ _⟩
  unfold Bk
  rw [← byF_splice G mkF (show 0 + 2 ≤ n by omega)]
  exact setRow_heap w g _ _ 5 _ hg
/-- The first cells of a block. -/
def Cel (w : World) (b : Nat) (cs : List Value) : Prop := ∀ i v, cs[i]? = some v → w.cell? ⟨b, i, none⟩ = some v
theorem Cel.only {X : Nat → Prop} {w w' : World} {b : Nat} {cs : List Value} (h : Cel w b cs) (ho : Only X w w') (hx : ¬ X b) : Cel w' b cs := fun i v hv => ho.cell (h i v hv) hx
theorem Cel.below {w w' : World} {b : Nat} {cs : List Value} (h : Cel w b cs) (ho : Below w.heap.size w w') : Cel w' b cs := fun i v hv => held (h i v hv) ho
theorem cel_new {w w0 : World} {cs : Array Value} {t : TypeId} (h0 : w0 = w.alloc (.cells cs t)) : Cel w0 w.heap.size cs.toList := fun i _ hv => blk_held h0 (Below.refl _ _) i (by simpa using hv)
theorem Vec.only {X : Nat → Prop} {w w' : World} {ao : Option Addr} {n cap : Nat} {R : Nat → Int} (h : Vec w ao n cap R) (ho : Only X w w') (hx : ∀ a, ao = some a → ¬ X a.block) : Vec w' ao n cap R :=
  ⟨fun hn => by obtain ⟨b, off, rfl, hc⟩ := h.rd hn; exact ⟨b, off, rfl, fun i hi => ho.cell (hc i hi) (hx ⟨b, off, none⟩ rfl)⟩, h.nil, h.room⟩
theorem Bec.only {X : Nat → Prop} {w w' : World} {ao : Option Addr} {n cap : Nat} {F : Nat → UInt8} (h : Bec w ao n cap F) (ho : Only X w w') (hx : ∀ a, ao = some a → ¬ X a.block) : Bec w' ao n cap F :=
  ⟨fun hn => by obtain ⟨b, off, rfl, hc⟩ := h.rd hn; exact ⟨b, off, rfl, fun i hi => ho.cell (hc i hi) (hx ⟨b, off, none⟩ rfl)⟩, h.nil, h.room⟩
/-- What has been written behind the vector's version i. -/
def wrF (s : Sl) (i : Nat) (G : Nat → UInt8) : Nat → UInt8 := fun j => if j < 12 + 4 * i then enc s j else G j
theorem wrF_succ {s : Sl} {i : Nat} (hi : i < s.vn) (G : Nat → UInt8) : upR (wrF s i G) (12 + 4 * i) 4 (fun t => dg (s.V i).toNat (4 - 1 - t)) = wrF s (i + 1) G := by
  funext j
  by_cases h : 12 + 4 * i ≤ j ∧ j < 12 + 4 * i + 4
  · rw [upR_in h]
    unfold wrF
    rw [if_pos (by omega), show j = 12 + 4 * i + (j - (12 + 4 * i)) by omega, enc_v hi (by omega), show 12 + 4 * i + (j - (12 + 4 * i)) - (12 + 4 * i) = j - (12 + 4 * i) by omega]
  · rw [upR_out h]
    unfold wrF
    by_cases h2 : j < 12 + 4 * i
    · rw [if_pos h2, if_pos (by omega)]
    · rw [if_neg h2, if_neg (by omega)]
theorem wrF_all {s : Sl} {n j : Nat} (G : Nat → UInt8) (hn : n = 12 + 4 * s.vn + s.dn) (hj : j < n) : upR (wrF s s.vn G) (12 + 4 * s.vn) s.dn s.D j = enc s j := by
  by_cases h : 12 + 4 * s.vn ≤ j ∧ j < 12 + 4 * s.vn + s.dn
  · rw [upR_in h]
    have := enc_d s (j - (12 + 4 * s.vn))
    rw [show 12 + 4 * s.vn + (j - (12 + 4 * s.vn)) = j by omega] at this
    exact this.symm
  · rw [upR_out h]; unfold wrF; rw [if_pos (by omega)]
/-- The head. -/
theorem wrF_head {s : Sl} (G : Nat → UInt8) (j : Nat) :
    upR (upR (upR (upR (upR G 0 2 mkF) 2 1 (fun i => dg s.kd.toNat (1 - 1 - i))) 3 1 (fun i => dg s.ix.toNat (1 - 1 - i))) 4 4 (fun i => dg s.ce.toNat (4 - 1 - i))) 8 4 (fun i => dg s.st.toNat (4 - 1 - i)) j = wrF s 0 G j := by
  unfold wrF
  by_cases h5 : 8 ≤ j ∧ j < 8 + 4
  · rw [upR_in h5, if_pos (by omega)]
    have := enc_s s (i := j - 8) (by omega)
    rw [show 8 + (j - 8) = j by omega] at this
    rw [this]
  rw [upR_out h5]
  by_cases h4 : 4 ≤ j ∧ j < 4 + 4
  · rw [upR_in h4, if_pos (by omega)]
    have := enc_c s (i := j - 4) (by omega)
    rw [show 4 + (j - 4) = j by omega] at this
    rw [this]
  rw [upR_out h4]
  by_cases h3 : 3 ≤ j ∧ j < 3 + 1
  · rw [upR_in h3, if_pos (by omega)]
    obtain rfl : j = 3 := by omega
    rfl
  rw [upR_out h3]
  by_cases h2 : 2 ≤ j ∧ j < 2 + 1
  · rw [upR_in h2, if_pos (by omega)]
    obtain rfl : j = 2 := by omega
    show dg s.kd.toNat 0 = s.kd
    apply UInt8.toNat_inj.1
    have := s.kd.toNat_lt
    rw [dg_toNat]
    simp
  rw [upR_out h2]
  by_cases h1 : 0 ≤ j ∧ j < 0 + 2
  · rw [upR_in h1, if_pos (by omega)]
    rcases (show j = 0 ∨ j = 1 by omega) with rfl | rfl <;> rfl
  rw [upR_out h1, if_neg (by omega)]
end Go.Proofs.Ytmlnbnbgkpbjeaa
