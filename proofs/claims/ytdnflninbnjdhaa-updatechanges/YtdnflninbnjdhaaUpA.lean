/- Changes of cells in memory; a cell that is cut out, cloned, compared, written into. -/
import Derived.Test.YtdnflninbnjdhaaByA
namespace Go.Proofs.Ytdnflninbnjdhaa
open Go.RowKit

/-- Changes as they lie in memory: a cell's number, its bytes. -/
def chOf (D : Nat → Int) (T : Nat → Option Addr) (L U : Nat → Nat) : Nat → List Value
  | 0 => []
  | n + 1 => chOf D T L U n ++ [.int .i64 (D n), .slice (T n) (L n) (U n)]
theorem chOf_length (D : Nat → Int) (T : Nat → Option Addr) (L U : Nat → Nat) : ∀ n, (chOf D T L U n).length = n * 2
  | 0 => rfl
  | n + 1 => by rw [chOf, List.length_append, chOf_length D T L U n]; simp; omega
theorem chOf_get (D : Nat → Int) (T : Nat → Option Addr) (L U : Nat → Nat) : ∀ n i, i < n → (chOf D T L U n)[i * 2]? = some (.int .i64 (D i)) ∧ (chOf D T L U n)[i * 2 + 1]? = some (.slice (T i) (L i) (U i))
  | 0, i, h => absurd h (Nat.not_lt_zero i)
  | n + 1, i, h => by
    have hl := chOf_length D T L U n
    rw [chOf]
    by_cases e : i < n
    · rw [List.getElem?_append_left (by omega), List.getElem?_append_left (by omega)]
      exact chOf_get D T L U n i e
    · obtain rfl : i = n := by omega
      rw [List.getElem?_append_right (by omega), List.getElem?_append_right (by omega), hl, Nat.sub_self, show i * 2 + 1 - i * 2 = 1 by omega]
      exact ⟨rfl, rfl⟩
theorem chOf_congr {D D' : Nat → Int} {T T' : Nat → Option Addr} {L L' U U' : Nat → Nat} : ∀ {n : Nat}, (∀ i, i < n → D i = D' i ∧ T i = T' i ∧ L i = L' i ∧ U i = U' i) → chOf D T L U n = chOf D' T' L' U' n
  | 0, _ => rfl
  | n + 1, h => by
    obtain ⟨a, b, c, d⟩ := h n (by omega)
    rw [chOf, chOf, chOf_congr (n := n) fun i hi => h i (by omega), a, b, c, d]
/-- Changes of the call's own. -/
structure Chs (B : Nat) (w : World) (ao : Option Addr) (n cap : Nat) (D : Nat → Int) (T : Nat → Option Addr) (L U : Nat → Nat) (H : Nat → Nat → UInt8) : Prop where
  out : w.ownsRow B 33 2 (.slice ao n cap) n (chOf D T L U n)
  row : ∀ i, i < n → OwU B w (T i) (L i) (U i) (H i)
  apart : ∀ i j, i < j → j < n → ∀ a b, T i = some a → T j = some b → a.block ≠ b.block
theorem chs_nil (B : Nat) (w : World) (D : Nat → Int) (T : Nat → Option Addr) (L U : Nat → Nat) (H : Nat → Nat → UInt8) : Chs B w none 0 0 D T L U H := ⟨World.ownsRow_nil _ _ _ _, fun i hi => absurd hi (by omega), fun _ j _ hj => absurd hj (by omega)⟩
theorem Chs.below {B : Nat} {w w' : World} {ao : Option Addr} {n cap : Nat} {D : Nat → Int} {T : Nat → Option Addr} {L U : Nat → Nat} {H : Nat → Nat → UInt8} (h : Chs B w ao n cap D T L U H) (hb : Below w.heap.size w w') : Chs B w' ao n cap D T L U H :=
  ⟨owns_below h.out hb, fun i hi => (h.row i hi).below hb, h.apart⟩
theorem Chs.mono {B B' : Nat} {w : World} {ao : Option Addr} {n cap : Nat} {D : Nat → Int} {T : Nat → Option Addr} {L U : Nat → Nat} {H : Nat → Nat → UInt8} (h : Chs B w ao n cap D T L U H) (hb : B' ≤ B) : Chs B' w ao n cap D T L U H :=
  ⟨owns_mono h.out hb, fun i hi => (h.row i hi).mono hb, h.apart⟩
theorem Chs.congr {B : Nat} {w : World} {ao : Option Addr} {n cap : Nat} {D D' : Nat → Int} {T : Nat → Option Addr} {L U : Nat → Nat} {H H' : Nat → Nat → UInt8} (h : Chs B w ao n cap D T L U H) (hd : ∀ i, i < n → D i = D' i) (hh : ∀ i, i < n → ∀ j, j < L i → H i j = H' i j) : Chs B w ao n cap D' T L U H' :=
  ⟨by rw [← chOf_congr (D := D) fun i hi => ⟨hd i hi, rfl, rfl, rfl⟩]; exact h.out, fun i hi => (h.row i hi).congr (hh i hi), h.apart⟩
theorem Chs.cells {B : Nat} {w : World} {ao : Option Addr} {n cap : Nat} {D : Nat → Int} {T : Nat → Option Addr} {L U : Nat → Nat} {H : Nat → Nat → UInt8} (h : Chs B w ao n cap D T L U H) (hn : 0 < n) : ∃ g, ao = some ⟨g, 0, none⟩ ∧ B ≤ g ∧ g < w.heap.size ∧ n ≤ cap ∧ ∀ i, i < n → w.cell? ⟨g, i * 2, none⟩ = some (.int .i64 (D i)) ∧ w.cell? ⟨g, i * 2 + 1, none⟩ = some (.slice (T i) (L i) (U i)) := by
  rcases h.out.2 with ⟨_, e⟩ | ⟨g, c', cur, e, h1, h2, h3, _⟩
  · omega
  · cases e
    refine ⟨g, rfl, h1, (Array.getElem?_eq_some_iff.1 h2).1, h3, fun i hi => ?_⟩
    obtain ⟨a, b⟩ := chOf_get D T L U n i hi
    have c0 := h.out.cells (g := g) rfl _ _ a
    have c1 := h.out.cells (g := g) rfl _ _ b
    rw [Addr.add_lit, Nat.zero_add] at c0 c1
    exact ⟨c0, c1⟩
theorem info33 : (Try.prog.info? 33).map (fun i => (i.zero, i.size, i.bytes)) = some (some (.agg #[.int .i64 0, .slice none 0 0]), 2, 32) := by kernel_rfl
theorem owns_empty5 (w : World) : (w.alloc (.cells #[] 5)).ownsRow w.heap.size 5 1 (.slice (some ⟨w.heap.size, 0, none⟩) 0 0) 0 [] :=
  ⟨rfl, .inr ⟨w.heap.size, 0, #[], rfl, Nat.le_refl _, heap_alloc_new w _, Nat.le_refl _, Nat.zero_le _, rfl, rfl⟩⟩
theorem eqn_no (w : World) (a : Addr) (l c : Nat) : (binOp .eql 24 (.slice (some a) l c) (.slice none 0 0)).run Try.prog w = .ok (.bool false) w := Lib.run_eql_slice_nil w 24 5 (some a) l c 0 0 Try.underlying24
set_option maxHeartbeats 1000000 in
theorem bclone_any (w : World) (b off n ca : Nat) (F : Nat → UInt8) (hF : Bec w (some ⟨b, off, none⟩) n ca F) (hn1 : 1 ≤ n) (hn : n ≤ 1000) :
    Calls Try.prog 14 #[.slice (some ⟨b, off, none⟩) n ca] w fun e w' => ∃ g u, e = .returned (.slice (some ⟨g, 0, none⟩) n u) ∧ OwU w.heap.size w' (some ⟨g, 0, none⟩) n u F ∧ Below w.heap.size w w' := by
  have hnil := fun w => eqn_no w ⟨b, off, none⟩ n ca
  have HB : Hid (Bec (w.alloc (.cells #[] 5)) (some ⟨b, off, none⟩) n ca F) := hF.below (below_alloc _ _)
  clear hF
  go_enter Try.func14, Try.ntmps14
  go_wp2_with (at_builtin; refine wpList_append_bytes (by rfl) (.tmp 5) (.tmp 6) (by rfl) w.heap.size 0 n 0 ca (some ⟨w.heap.size, 0, none⟩) (some ⟨b, off, none⟩) [] F (by rfl) (by rfl) (owns_empty5 w) HB.out (by omega) (by omega) (by simp) ?_; intro ao' c' w' hown hgrow)
  go_ret
  rw [List.nil_append, Nat.zero_add] at hown
  obtain ⟨g, rfl, _, _⟩ := OwU.at_ (F := F) hown (by omega)
  exact ⟨g, c', rfl, hown, (below_alloc _ _).grown hgrow (by simp) (fun q hq => by cases hq; exact Nat.le_refl _)⟩
/-- Whether bytes are the same. -/
def eqB (n : Nat) (F G : Nat → UInt8) : Bool := decide (∀ j, j < n → F j = G j)
set_option maxHeartbeats 1000000 in
theorem bequal_any (w : World) (ao bo : Option Addr) (n ca cb : Nat) (F G : Nat → UInt8) (hF : Bec w ao n ca F) (hG : Bec w bo n cb G) :
    Calls Try.prog 19 #[.slice ao n ca, .slice bo n cb] w fun e w' => e = .returned (.bool (eqB n F G)) ∧ w' = w := by
  have v1 := conv_any hF
  have v2 := conv_any hG
  have HE : Hid (((sOf (lsF n F)).toList == (sOf (lsF n G)).toList) = eqB n F G) := by
    show _ = _
    rw [str_eq]
    unfold eqB
    exact decide_eq_decide.2 (lsF_eq.trans ⟨fun h => h.2, fun h => ⟨rfl, h⟩⟩)
  clear hF hG
  go_enter Try.func19, Try.ntmps19
  go_wp2
  go_ret
  exact ⟨ret_bool HE.out, rfl⟩
set_option maxHeartbeats 1000000 in
theorem ucut_any {K m : Nat} (r q : Int) (w : World) (b off dn dc i : Nat) (hi : i < K) (hK : K ≤ 12) (hm : m ≤ 64) (hdn : dn = K * m) (hdc : dn ≤ dc) (hm0 : 0 < m) :
    Calls Try.prog 15 #[.agg #[.int .i64 (K : Int), .int .i64 r, .int .i64 (m : Int), .int .i64 q], .slice (some ⟨b, off, none⟩) dn dc, .int .i64 (i : Int)] w fun e w' => e = .returned (.slice (some ⟨b, off + i * m, none⟩) m (dc - i * m)) ∧ Below w.heap.size w w' := by
  obtain ⟨w0, hw0⟩ : ∃ w0, w0 = w.alloc (.cells #[.int .i64 (K : Int), .int .i64 r, .int .i64 (m : Int), .int .i64 q] 23) := ⟨_, rfl⟩
  have b0 : Below w.heap.size w w0 := by rw [hw0]; exact below_alloc _ _
  obtain ⟨p, hp⟩ : ∃ p, p = i * m := ⟨_, rfl⟩
  have hp1 : p + m = (i + 1) * m := by rw [hp, Nat.succ_mul]
  have hp2 : p + m ≤ dn := by rw [hdn, hp1]; exact Nat.mul_le_mul_right m hi
  have hp3 : p + m ≤ 1024 := by rw [hp1]; exact Nat.le_trans (Nat.mul_le_mul (show i + 1 ≤ 12 by omega) hm) (by decide)
  obtain ⟨v1, v3⟩ := val_mul hp (by omega)
  obtain ⟨v2, v4⟩ := val_mul2 hp1 (by omega)
  have i1 : (0 : Int) ≤ (p : Int) := by omega
  have i2 : (p : Int) ≤ (p : Int) + (m : Int) := by omega
  have i3 : (p : Int) + (m : Int) ≤ (dc : Int) := by omega
  have i4 : ¬ (p : Int) + (m : Int) < 0 := by omega
  have i5 : ¬ dc = p := by omega
  rw [← hp]
  clear hp hp1 hdn
  go_enter Try.func15, Try.ntmps15
  go_wp2
  go_ret
  exact ⟨rfl, below_alloc _ _⟩
/-- Bytes copied into bytes of the call's own. -/
theorem run_copy_ow {w : World} {B g n cap off k kk dC : Nat} {G H : Nat → UInt8} {bo : Option Addr} {cb : Nat} (hg : OwU B w (some ⟨g, 0, none⟩) n cap G) (hb : Bec w bo kk cb H) (h0 : 0 < k) (hk : k ≤ kk) (hfit : off + k ≤ n) :
    ∃ w', (Builtin.copy_ #[24, 24] 3 #[.slice (some ⟨g, off, none⟩) k dC, .slice bo kk cb]).run Try.prog w = .ok (goInt k) w' ∧ OwU B w' (some ⟨g, 0, none⟩) n cap (upR G off k H) ∧ Only (fun b => b = g) w w' := by
  obtain ⟨b, bof, rfl, hc⟩ := hb.rd (by omega)
  have hl : (byF k H).length = Nat.min kk k := by rw [byF_length]; exact (Nat.min_eq_right hk).symm
  rcases hg.2 with ⟨e, _⟩ | ⟨g', c', cur, e, h1, h2, h3, h4, h5, h6⟩
  · cases e
  · cases e
    rw [Nat.mul_one] at h5 h6
    have hrun := run_copy_row (P := Try.prog) w 24 24 3 5 g off k dC ⟨b, bof, none⟩ kk cb cur 5 (byF k H) Try.underlying24 (by kernel_rfl) h2 hl
      (fun j v hv => by
        have hj := list_lt (byF_length k H) hv
        rw [byF_get _ _ _ hj] at hv
        rw [Addr.add_lit, hc j (by omega)]; exact hv) (by rw [byF_length]; omega) (byF_one k H)
    rw [byF_length] at hrun
    refine ⟨_, hrun, ?_, only_setRow _ _ _⟩
    have hh := setRow_heap w g _ (cur.toList.take off ++ byF k H ++ cur.toList.drop (off + k)).toArray 5 _ h2
    have hcl : cur.toList.length = cap := by simpa using h5
    refine ⟨by rw [byF_length, Nat.mul_one], .inr ⟨g, cap, _, rfl, h1, hh, h3, h4, ?_, ?_⟩⟩
    · simp [byF_length, h5]; omega
    · rw [Nat.mul_one, List.toList_toArray, ← byF_splice G H hfit, ← h6, List.append_assoc, List.take_append, List.take_take, Nat.min_eq_right (show off ≤ n by omega), List.take_take, Nat.min_eq_left (show off ≤ n by omega), List.length_take, hcl, Nat.min_eq_left (show off ≤ cap by omega), List.take_append, byF_length, List.take_of_length_le (l := byF k H) (by rw [byF_length]; omega), List.drop_take, show n - off - k = n - (off + k) by omega]
end Go.Proofs.Ytdnflninbnjdhaa
