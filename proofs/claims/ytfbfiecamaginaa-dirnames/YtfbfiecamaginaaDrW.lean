/- Lists that are too long; a list of one's own with a mark behind; bytes as a text; parameters by their numbers. -/
import Derived.Test.YtfbfiecamaginaaDrV
namespace Go.Proofs.Ytfbfiecamaginaa
open Go.RowKit Go.Sort

theorem text_reb {w : World} {ao : Option Addr} {b : List UInt8} {ca : Nat} (h : Reb w ao b ca) : (convert 25 9 (.slice ao b.length ca)).run Try.prog w = .ok (.string ⟨b.toArray⟩) w := by
  cases ao with
  | none =>
    obtain ⟨rfl, rfl⟩ := h.nil
    exact run_convert_bytes_nil w 25 5 Try.underlying25 Try.underlying5 0 0 9 Try.underlying9
  | some ad =>
    by_cases hb : b = []
    · subst hb
      have := run_convert_bytes_back w 25 9 5 ad ca [] Try.underlying25 Try.underlying5 Try.underlying9 (fun j hj => by simp at hj)
      exact this
    · obtain ⟨g, o, e, hc⟩ := h.at_ (List.length_pos_iff.2 hb)
      cases e
      exact text_of hc ca
theorem pp_par {k r c q : Int} {N W : Nat} {e : Int} (h : Par k r c q N W e) : PP k r c q (mst W) e := by
  refine ⟨?_, ?_, mst_le W, fun w => Most_any h w, fun w => ?_, fun w => ?_, ?_⟩
  · rcases h with ⟨_, _, _, h⟩ | ⟨_, _, _, h⟩ <;> omega
  · intro h0
    rcases h with ⟨h1, _, _, _⟩ | ⟨_, _, _, h⟩
    · obtain ⟨h1, h2, h3, h4, h5, h6, h7, h8, h9⟩ := may_true h1
      exact ⟨h8, h9⟩
    · omega
  · have := Check_any k r c q w
    rcases h with ⟨h1, _, _, h⟩ | ⟨h1, _, _, h⟩
    · rw [h, show (0 : Int) = erP k r c q by unfold erP; rw [if_pos h1]]; exact this
    · rw [h, show (2 : Int) = erP k r c q by unfold erP; rw [if_neg (by rw [h1]; decide)]]; exact this
  · have := May_any k r c q w
    rcases h with ⟨h1, _, _, h⟩ | ⟨h1, _, _, h⟩
    · rw [show decide (e = 0) = may k r c q by rw [h1]; simp [h]]; exact this
    · rw [show decide (e = 0) = may k r c q by rw [h1]; simp [h]]; exact this
  · intro h0 w
    have hw := h.wide
    rcases h with ⟨h1, h2, _, h⟩ | ⟨_, _, _, h⟩
    · obtain ⟨g1, g2, g3, g4, g5, g6, g7, g8, g9⟩ := may_true h1
      exact M_good k r c q w W (by rw [h2]; exact wrap_wide g1 g2 g5 g6) (by omega) hw
    · omega
def muE (l : List En) : Bool := decide (2000 < l.length) || l.any fun x => decide (2000 < x.1.length)
theorem mu_few {l : List En} (h : muE l = false) : l.length ≤ 2000 ∧ (∀ x ∈ l, x.1.length ≤ 2000) ∧ szE l ≤ 4006000 := by
  unfold muE at h
  rw [Bool.or_eq_false_iff] at h
  have h1 : l.length ≤ 2000 := by simpa using h.1
  have h2 : ∀ x ∈ l, x.1.length ≤ 2000 := by
    have := h.2
    rw [List.any_eq_false] at this
    exact fun x hx => by simpa using this x hx
  refine ⟨h1, h2, ?_⟩
  have := sz_bound h2
  have : l.length * (2000 + 3) ≤ 2000 * 2003 := Nat.mul_le_mul_right _ h1
  omega
theorem few_mu {l : List En} (h : muE l = false) : Few l := by
  obtain ⟨h1, h2, h3⟩ := mu_few h
  exact ⟨by omega, by omega, fun x hx => by have := h2 x hx; omega⟩
theorem few_ins {l : List En} {x : En} (h : muE l = false) (hx : x.1.length ≤ 2000) : Few (insE l x) := by
  obtain ⟨h1, h2, h3⟩ := mu_few h
  refine ⟨by rw [ins_length]; omega, by rw [sz_ins]; omega, fun z hz => ?_⟩
  rcases (ins_mem l x z).1 hz with rfl | hz
  · omega
  · have := h2 z hz; omega
theorem few_ins2 {l : List En} {x y : En} (h : muE l = false) (hx : x.1.length ≤ 2000) (hy : y.1.length ≤ 2000) : Few (insE (insE l x) y) := by
  obtain ⟨h1, h2, h3⟩ := mu_few h
  refine ⟨by rw [ins_length, ins_length]; omega, by rw [sz_ins, sz_ins]; omega, fun z hz => ?_⟩
  rcases (ins_mem _ y z).1 hz with rfl | hz
  · omega
  · rcases (ins_mem l x z).1 hz with rfl | hz
    · omega
    · have := h2 z hz; omega
set_option maxHeartbeats 1000000 in
set_option maxRecDepth 100000 in
theorem much_any (w : World) (ao : Option Addr) (l : List En) (ca : Nat) (hv : Ren w ao l ca) :
    Calls Try.prog 17 #[.slice ao l.length ca] w fun e w' => e = .returned (.bool (muE l)) ∧ RowKit.Below w.heap.size w w' := by
  have HV : Hid (Ren w ao l ca) := hv
  by_cases hbig : 2000 < l.length
  · have hb1 : (2000 : Int) < (l.length : Int) := by omega
    have HM : Hid (muE l = true) := by show _ = _; unfold muE; simp [hbig]
    clear hbig
    go_enter Try.func17, Try.ntmps17
    go_wp2
    go_ret
    exact ⟨ret_bool HM.out.symm, Below.refl _ _⟩
  · have hb1 : (l.length : Int) ≤ 2000 := by omega
    have HY : Hid ((∀ i, i < l.length → (gN l i).length ≤ 2000) → muE l = false) := fun h => by
      unfold muE
      rw [Bool.or_eq_false_iff]
      refine ⟨by simp; omega, ?_⟩
      rw [List.any_eq_false]
      intro x hx
      obtain ⟨i, hi, rfl⟩ := List.mem_iff_getElem.1 hx
      have := h i hi
      rw [gN_eq hi] at this
      simpa using this
    have HN : Hid (∀ i, i < l.length → 2000 < (gN l i).length → muE l = true) := fun i hi h => by
      unfold muE
      rw [Bool.or_eq_true]
      right
      rw [List.any_eq_true]
      exact ⟨l[i], List.getElem_mem hi, by rw [gN_eq hi] at h; simpa using h⟩
    clear hv hbig
    go_enter Try.func17, Try.ntmps17
    go_wp2_with fail
    go_loopw [3] (fun x wr => ∃ i : Nat, i ≤ l.length ∧ x = .int .i64 (i : Int) ∧ Hid (∀ j, j < i → (gN l j).length ≤ 2000) ∧ Hid (RowKit.Below w.heap.size w wr)) (fun x _ => l.length - (intOf x).toNat)
    case atStart => exact ⟨0, Nat.zero_le _, rfl, fun j hj => absurd hj (by omega), Below.refl _ _⟩
    case round =>
      obtain ⟨i, hi, rfl, hok, hbel⟩ := hrel
      by_cases hlt : i < l.length
      · obtain ⟨b, off, rfl, hc⟩ := (HV.out.below hbel.out).at_ (by omega)
        obtain ⟨c0, c1⟩ := hc i hlt
        have HNO := HN.out i hlt
        have HOK : Hid ((gN l i).length ≤ 2000 → ∀ j, j < i + 1 → (gN l j).length ≤ 2000) := fun h j hj => by
          by_cases e : j = i
          · rw [e]; exact h
          · exact hok.out j (by omega)
        obtain ⟨N, hN⟩ : ∃ N, N = gN l i := ⟨_, rfl⟩
        rw [← hN] at c0 HNO HOK
        have hs := str_size N
        have i1 : (0 : Int) ≤ (i : Int) := by omega
        have i2 : (i : Int) < (l.length : Int) := by omega
        clear hc hN c1
        by_cases hz : 2000 < N.length
        · have hz1 : (2000 : Int) < (N.length : Int) := by omega
          have HM : Hid (muE l = true) := HNO hz
          clear HNO
          go_wp2
          go_ret
          exact ⟨ret_bool HM.out.symm, hbel.out⟩
        · have hz1 : ¬ (2000 : Int) < (N.length : Int) := by omega
          have HT : Hid (∀ j, j < i + 1 → (gN l j).length ≤ 2000) := HOK.out (by omega)
          clear HNO
          go_wp2
          go_roundw
          case rel => exact ⟨i + 1, by omega, by go_num, HT, hbel⟩
          case measure => simp [intOf]; omega
      · obtain rfl : i = l.length := by omega
        have HM : Hid (muE l = false) := HY.out hok.out
        go_wp2
        go_ret
        exact ⟨ret_bool HM.out.symm, hbel.out⟩
def mk77 : En := ([], 77)
set_option maxHeartbeats 1000000 in
set_option maxRecDepth 100000 in
theorem lent_any (w : World) (ao : Option Addr) (l : List En) (ca : Nat) (hv : Ren w ao l ca) (hn : l.length ≤ 2000) :
    Calls Try.prog 18 #[.slice ao l.length ca] w fun e w' => ∃ xo xc, e = .returned (.slice xo l.length xc) ∧ OwE w.heap.size w' xo (l ++ [mk77]) xc ∧ RowKit.Below w.heap.size w w' := by
  have hn1 : (l.length : Int) ≤ 2000 := by omega
  go_enter Try.func18, Try.ntmps18
  go_wp2_with (first
    | (at_builtin; refine append_ents (by rfl) (.tmp 4) (.tmp 5) (by rfl) w.heap.size 0 ca none ao [] l (by rfl) (by rfl) (owe_nil _ _) hv (by simp; omega) (Nat.le_refl _) ?_; intro bo2 cb2 w2 L2 hL2 ho2 hg2; have HL2 : Hid (L2 = l) := hL2; have HB2 : Hid (RowKit.Below w.heap.size w w2) := (Below.refl _ _).grown hg2 (Nat.le_refl _) (fun k e => by cases e); have HO2 : Hid (OwE w.heap.size w2 bo2 L2 cb2) := ho2; have hk2 : L2.length = l.length := (by rw [hL2]; rfl); obtain ⟨w3, hw3⟩ : ∃ w3, w3 = w2.alloc (.cells #[.string ⟨#[]⟩, .int .i64 77] 34) := ⟨_, rfl⟩; have hb3 : RowKit.Below w2.heap.size w2 w3 := (by rw [hw3]; exact below_alloc _ _); have hlit : Ren w3 (some ⟨w2.heap.size, 0, none⟩) [mk77] 1 := ren_lit [] 77 hw3; have hown3 := HO2.out.below hb3; have HB3 : Hid (RowKit.Below w.heap.size w w3) := below_then HB2.out hb3; have hsz3 := HB3.out.size; have hone : L2.length + [mk77].length ≤ 10000000 := (by rw [hk2]; simp; omega); have HK2 : Hid (L2.length = l.length) := hk2; clear hL2 ho2 hg2 hb3 hk2)
    | (rw [← hw3]; at_builtin; refine append_ents (by rfl) (.tmp 7) (.tmp 9) (by rfl) w.heap.size cb2 1 bo2 (some ⟨w2.heap.size, 0, none⟩) L2 [mk77] (by rfl) (by rfl) hown3 hlit hone hsz3 ?_; intro bo4 cb4 w4 L4 hL4 ho4 hg4; have HL4 : Hid (L4 = l ++ [mk77]) := (by show _ = _; rw [hL4, HL2.out]); have HO4 : Hid (OwE w.heap.size w4 bo4 L4 cb4) := ho4; have HB4 : Hid (RowKit.Below w.heap.size w w4) := HB3.out.grown hg4 hsz3 hown3.ge; have hrm := Rev.room ho4.ren; have hk4 : L4.length = l.length + 1 := (by rw [hL4, List.length_append, HK2.out]; rfl); have r1 : (l.length : Int) ≤ (cb4 : Int) := (by omega); have r2 : (0 : Int) ≤ (l.length : Int) := (by omega); clear hL4 ho4 hg4 hw3 hlit hown3 hone hk4))
  go_ret
  exact ⟨bo4, cb4, rfl, by rw [← HL4.out]; exact HO4.out, HB4.out⟩
theorem mk_get (l : List En) : gN (l ++ [mk77]) l.length = [] ∧ gR (l ++ [mk77]) l.length = 77 := by
  constructor
  · rw [gN_eq (by simp)]; simp [mk77]
  · rw [gR_eq (by simp)]; simp [mk77]
set_option maxHeartbeats 1000000 in
set_option maxRecDepth 100000 in
theorem kept_any (w : World) (xo ao : Option Addr) (l : List En) (xc ca : Nat) (hx : Ren w xo (l ++ [mk77]) xc) (hv : Ren w ao l ca) (hn : l.length ≤ 2000) :
    Calls Try.prog 26 #[.slice xo l.length xc, .slice ao l.length ca] w fun e w' => e = .returned (.bool true) ∧ RowKit.Below w.heap.size w w' := by
  obtain ⟨b, off, rfl, hc⟩ := hx.at_ (by simp)
  obtain ⟨c0, c1⟩ := hc l.length (by simp)
  rw [(mk_get l).2] at c1
  have hx2 : Ren w (some ⟨b, off, none⟩) l xc := by
    have := hx.upto (p := l.length) (by simp)
    rw [List.take_left'  rfl] at this
    exact this
  have hS := Same_any w (some ⟨b, off, none⟩) ao l l xc ca hx2 hv (by omega)
  rw [decide_eq_true rfl] at hS
  have hroom := Rev.room hx
  rw [List.length_append] at hroom
  have hroom2 : l.length + 1 ≤ xc := hroom
  have r1 : (l.length : Int) + 1 ≤ (xc : Int) := by omega
  have r2 : (l.length : Int) ≤ 2000 := by omega
  have r3 : (0 : Int) ≤ (l.length : Int) := by omega
  clear hc c0 hx hv hx2 hroom hroom2
  go_enter Try.func26, Try.ntmps26
  go_wp2_with fail
  refine hS.mono ?_
  rintro _ w2 ⟨rfl, h2⟩
  have c2 := held c1 h2
  go_wp2
  go_ret
  exact ⟨rfl, h2⟩
end Go.Proofs.Ytfbfiecamaginaa
