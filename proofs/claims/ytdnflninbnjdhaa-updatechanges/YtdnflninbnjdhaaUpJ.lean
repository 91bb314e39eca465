/- Changes that are read; whether two lists are the same; which cells the document finds met. -/
import Derived.Test.YtdnflninbnjdhaaUpH
namespace Go.Proofs.Ytdnflninbnjdhaa
open Go.RowKit

/-- Changes as they are read. -/
structure Rch (w : World) (ao : Option Addr) (n : Nat) (D : Nat → Int) (T : Nat → Option Addr) (L U : Nat → Nat) (H : Nat → Nat → UInt8) : Prop where
  at_ : 0 < n → ∃ g, ao = some ⟨g, 0, none⟩ ∧ ∀ i, i < n → w.cell? ⟨g, i * 2, none⟩ = some (.int .i64 (D i)) ∧ w.cell? ⟨g, i * 2 + 1, none⟩ = some (.slice (T i) (L i) (U i))
  bec : ∀ i, i < n → Bec w (T i) (L i) (U i) (H i)
theorem Chs.rch {B : Nat} {w : World} {ao : Option Addr} {n cap : Nat} {D : Nat → Int} {T : Nat → Option Addr} {L U : Nat → Nat} {H : Nat → Nat → UInt8} (h : Chs B w ao n cap D T L U H) : Rch w ao n D T L U H :=
  ⟨fun hn => by obtain ⟨g, e, _, _, _, hc⟩ := h.cells hn; exact ⟨g, e, hc⟩, fun _ hi => h.bec hi⟩
/-- Changes of the document's: the list is its own, the bytes are those of strings. -/
structure Chr (B : Nat) (w : World) (ao : Option Addr) (n cap : Nat) (D : Nat → Int) (T : Nat → Option Addr) (L U : Nat → Nat) (H : Nat → Nat → UInt8) : Prop where
  out : w.ownsRow B 33 2 (.slice ao n cap) n (chOf D T L U n)
  row : ∀ i, i < n → ∃ g, T i = some ⟨g, 0, none⟩ ∧ B ≤ g ∧ Bz w g (L i) (H i) ∧ L i ≤ U i
theorem chr_nil (B : Nat) (w : World) (D : Nat → Int) (T : Nat → Option Addr) (L U : Nat → Nat) (H : Nat → Nat → UInt8) : Chr B w none 0 0 D T L U H := ⟨World.ownsRow_nil _ _ _ _, fun i hi => absurd hi (by omega)⟩
theorem Chr.stay {B : Nat} {w w' : World} {ao : Option Addr} {n cap : Nat} {D : Nat → Int} {T : Nat → Option Addr} {L U : Nat → Nat} {H : Nat → Nat → UInt8} (h : Chr B w ao n cap D T L U H) (hb : ∀ g, B ≤ g → g < w.heap.size → w'.heap[g]? = w.heap[g]?) : Chr B w' ao n cap D T L U H :=
  ⟨owns_blocks h.out fun a ha => hb _ (owns_at h.out ha).1 (owns_at h.out ha).2.1, fun i hi => by
    obtain ⟨g, e, h1, h2, h3⟩ := h.row i hi
    exact ⟨g, e, h1, h2.stay (hb g h1 h2.lt), h3⟩⟩
theorem Chr.below {B : Nat} {w w' : World} {ao : Option Addr} {n cap : Nat} {D : Nat → Int} {T : Nat → Option Addr} {L U : Nat → Nat} {H : Nat → Nat → UInt8} (h : Chr B w ao n cap D T L U H) (hb : Below w.heap.size w w') : Chr B w' ao n cap D T L U H := h.stay fun g _ hg => hb.block g hg
theorem Chr.mono {B B' : Nat} {w : World} {ao : Option Addr} {n cap : Nat} {D : Nat → Int} {T : Nat → Option Addr} {L U : Nat → Nat} {H : Nat → Nat → UInt8} (h : Chr B w ao n cap D T L U H) (hb : B' ≤ B) : Chr B' w ao n cap D T L U H :=
  ⟨owns_mono h.out hb, fun i hi => by obtain ⟨g, e, h1, h2⟩ := h.row i hi; exact ⟨g, e, by omega, h2⟩⟩
theorem Chr.congr {B : Nat} {w : World} {ao : Option Addr} {n cap : Nat} {D D' : Nat → Int} {T : Nat → Option Addr} {L U : Nat → Nat} {H H' : Nat → Nat → UInt8} (h : Chr B w ao n cap D T L U H) (hd : ∀ i, i < n → D i = D' i) (hh : ∀ i, i < n → ∀ j, j < L i → H i j = H' i j) : Chr B w ao n cap D' T L U H' :=
  ⟨by rw [← chOf_congr (D := D) fun i hi => ⟨hd i hi, rfl, rfl, rfl⟩]; exact h.out, fun i hi => by obtain ⟨g, e, h1, h2, h3⟩ := h.row i hi; exact ⟨g, e, h1, h2.congr (hh i hi), h3⟩⟩
theorem Chr.rch {B : Nat} {w : World} {ao : Option Addr} {n cap : Nat} {D : Nat → Int} {T : Nat → Option Addr} {L U : Nat → Nat} {H : Nat → Nat → UInt8} (h : Chr B w ao n cap D T L U H) : Rch w ao n D T L U H := by
  refine ⟨fun hn => ?_, fun i hi => by obtain ⟨g, e, _, h2, h3⟩ := h.row i hi; rw [e]; exact h2.bec h3⟩
  rcases h.out.2 with ⟨_, e⟩ | ⟨g, c', cur, e, h1, h2, h3, _⟩
  · omega
  · cases e
    refine ⟨g, rfl, fun i hi => ?_⟩
    obtain ⟨a, b⟩ := chOf_get D T L U n i hi
    have c0 := h.out.cells (g := g) rfl _ _ a
    have c1 := h.out.cells (g := g) rfl _ _ b
    rw [Addr.add_lit, Nat.zero_add] at c0 c1
    exact ⟨c0, c1⟩
theorem Chr.push {B : Nat} {w w' : World} {ao : Option Addr} {n cap g cap' d u : Nat} {D : Nat → Int} {T : Nat → Option Addr} {U : Nat → Nat} {m : Nat} {H : Nat → Nat → UInt8} (h : Chr B w ao n cap D T (fun _ => m) U H) (hd : Bz w d m (H n)) (hu : m ≤ u) (hBd : B ≤ d)
    (hg : w.grownBy w' (Value.slice ao n cap).ownBlock) (ho : w'.ownsRow B 33 2 (.slice (some ⟨g, 0, none⟩) (n + 1) cap') (n + 1) (chOf D T (fun _ => m) U n ++ [.int .i64 (D n), .slice (some ⟨d, 0, none⟩) m u])) :
    Chr B w' (some ⟨g, 0, none⟩) (n + 1) cap' D (put n (some ⟨d, 0, none⟩) T) (fun _ => m) (put n u U) H := by
  have key : ∀ {x : Nat} {G : Nat → UInt8}, Bz w x m G → Bz w' x m G := fun {x G} hx => hx.stay (by
    obtain ⟨cur, fz, k1, _⟩ := hx
    refine hg.block x (Array.getElem?_eq_some_iff.1 k1).1 fun e => ?_
    cases ao with
    | none => cases e
    | some z =>
      have e2 : z.block = x := by simpa [Value.ownBlock] using e.symm
      obtain ⟨_, _, cur', k4⟩ := owns_at h.out (a := z) rfl
      rw [e2, k1] at k4
      cases k4)
  refine ⟨?_, fun i hi => ?_⟩
  · rw [chOf, put_at, put_at]
    rw [chOf_congr (D' := D) (T' := T) (L' := fun _ => m) (U' := U) fun i hi => ⟨rfl, put_ne _ _ (by omega), rfl, put_ne _ _ (by omega)⟩]
    exact ho
  · by_cases e : i = n
    · subst e; rw [put_at, put_at]; exact ⟨d, rfl, hBd, key hd, hu⟩
    · rw [put_ne _ _ e, put_ne _ _ e]
      obtain ⟨g', e', h1, h2, h3⟩ := h.row i (by omega)
      exact ⟨g', e', h1, key h2, h3⟩
/-- A cell in an interval: how many of the first i, the j-th. -/
theorem cU_int {P : Nat → Bool} {a n : Nat} (h : ∀ i, P i = true ↔ a ≤ i ∧ i < a + n) : ∀ i, cU P i = min (i - a) n
  | 0 => by simp [cU]
  | i + 1 => by
    have ih := cU_int h i
    cases e : P i
    · rw [cU_no e, ih]
      have := mt (h i).2 (by rw [e]; exact Bool.false_ne_true)
      omega
    · rw [cU_yes e, ih]
      have := (h i).1 e
      omega
theorem sU_int {P : Nat → Bool} {a n : Nat} (h : ∀ i, P i = true ↔ a ≤ i ∧ i < a + n) {K j : Nat} (hj : j < cU P K) : sU P K j = a + j := by
  obtain ⟨h1, h2⟩ := sU_is P K j hj
  have h3 := cU_sU P K j hj
  rw [cU_int h] at h3
  have := (h _).1 h2
  omega
/-- The document's test. -/
def mtB (m o nn i : Nat) : Bool := decide (0 < nn ∧ i * m < o + nn ∧ o < (i + 1) * m)
theorem mt_int {m o nn : Nat} (hm : 0 < m) (i : Nat) : mtB m o nn i = true ↔ o / m ≤ i ∧ i < o / m + nCh o nn m := by
  unfold mtB nCh
  rw [decide_eq_true_eq]
  by_cases e : nn = 0
  · rw [if_pos e]; omega
  · rw [if_neg e]
    have h1 : o < (i + 1) * m ↔ o / m < i + 1 := (Nat.div_lt_iff_lt_mul hm).symm
    have h2 : i * m < o + nn ↔ i ≤ (o + nn - 1) / m := by rw [Nat.le_div_iff_mul_le hm]; omega
    have h3 : o / m ≤ (o + nn - 1) / m := Nat.div_le_div_right (by omega)
    rw [h1, h2]
    omega
set_option maxHeartbeats 4000000 in
set_option maxRecDepth 100000 in
theorem same_any (w : World) (ao bo : Option Addr) (n ca cb : Nat) (D : Nat → Int) (T T' : Nat → Option Addr) (m : Nat) (U U' : Nat → Nat) (H : Nat → Nat → UInt8) (hn : n ≤ 1000) (ha : Rch w ao n D T (fun _ => m) U H) (hb : Rch w bo n D T' (fun _ => m) U' H) :
    Calls Try.prog 10 #[.slice ao n ca, .slice bo n cb] w fun e w' => e = .returned (.bool true) ∧ Below w.heap.size w w' := by
  have HA : Hid (Rch w ao n D T (fun _ => m) U H) := ha
  have HB : Hid (Rch w bo n D T' (fun _ => m) U' H) := hb
  have q1 : ((n : Int) != (n : Int)) = false := by simp
  clear ha hb
  go_enter Try.func10, Try.ntmps10
  go_wp2_with fail
  go_loopw [5] (fun y wr => ∃ i : Nat, i ≤ n ∧ y = .int .i64 (i : Int) ∧ Hid (Below w.heap.size w wr)) (fun y _ => n - (intOf y).toNat)
  case atStart => exact ⟨0, Nat.zero_le _, rfl, Below.refl _ _⟩
  case round =>
    obtain ⟨i, hi, rfl, hbw⟩ := hrel
    by_cases hlt : i < n
    · obtain ⟨g, rfl, hc⟩ := HA.out.at_ (by omega)
      obtain ⟨g', rfl, hc'⟩ := HB.out.at_ (by omega)
      have c0 := held (hc i hlt).1 hbw.out
      have c1 := held (hc i hlt).2 hbw.out
      have d0 := held (hc' i hlt).1 hbw.out
      have d1 := held (hc' i hlt).2 hbw.out
      have v1 : ∀ k, _ := fun k => conv_any ((HA.out.bec i hlt).below (below_then hbw.out (below_drewN wr.heap.size wr k)))
      have v2 : ∀ k, _ := fun k => conv_any ((HB.out.bec i hlt).below (below_then hbw.out (below_drewN wr.heap.size wr k)))
      have v3 := conv_any ((HA.out.bec i hlt).below hbw.out)
      have v4 := conv_any ((HB.out.bec i hlt).below hbw.out)
      have q2 : (D i != D i) = false := by simp
      have q3 : ((sOf (lsF m (H i))).toList != (sOf (lsF m (H i))).toList) = false := by simp
      have i1 : (0 : Int) ≤ (i : Int) := by omega
      have i2 : (i : Int) < (n : Int) := by omega
      clear hc hc'
      go_wp2_with fail
      go_big_quiet (fail)
      obtain ⟨wd, hwd⟩ : ∃ wd, wd = wr.drewN nq := ⟨_, rfl⟩
      have HD : Hid (Below w.heap.size w wd) := by show Below _ _ _; rw [hwd]; exact below_then hbw.out (below_drewN _ _ _)
      rw [← hwd]
      clear hwd c0 c1 d0 d1 v1 v2 v3 v4
      go_wp2_with fail
      go_roundw
      case rel => exact ⟨i + 1, by omega, by go_num, HD.out⟩
      case measure => simp [intOf]; omega
    · go_wp2_with fail
      go_ret
      exact ⟨rfl, hbw.out⟩
end Go.Proofs.Ytdnflninbnjdhaa
