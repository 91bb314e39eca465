/- Whether there are more cells than are gone through; and the walk of the statement that what is decoded fits. -/
import Derived.Test.YthkikocacbbhkaaCodK
namespace Go.Proofs.Ythkikocacbbhkaa
open Go.RowKit

def fewC (n : Nat) : Prop := n ≤ 3000 ∨ (65536 < n ∧ n ≤ 70000)
theorem fewC_dec (n : Nat) : fewC n ∨ (3000 < n ∧ n ≤ 65536) ∨ 70000 < n := by unfold fewC; omega
def fewB (ll : Nat) (L : Nat → Nat) : Bool := decide (ll ≤ 60 ∧ ∀ i, i < ll → L i ≤ 3000 ∨ (65536 < L i ∧ L i ≤ 70000))
theorem fewB_true {ll : Nat} {L : Nat → Nat} (h : fewB ll L = true) : ll ≤ 60 ∧ ∀ i, i < ll → L i ≤ 3000 ∨ (65536 < L i ∧ L i ≤ 70000) := of_decide_eq_true h
set_option maxHeartbeats 1000000 in
set_option maxRecDepth 100000 in
theorem much_any (w : World) (lo : Option Addr) (ll cl : Nat) (A : Nat → Option Addr) (C L : Nat → Nat) (H : M) (hl : Lst w lo ll A C L H) :
    Calls Try.prog 12 #[.slice lo ll cl] w fun e w' => e = .returned (.bool (!fewB ll L)) ∧ w' = w := by
  by_cases h1 : ll ≤ 60
  · by_cases h2 : ∀ i, i < ll → L i ≤ 3000 ∨ (65536 < L i ∧ L i ≤ 70000)
    · rw [show fewB ll L = true from decide_eq_true ⟨h1, h2⟩]
      have HL : Hid (Lst w lo ll A C L H) := hl
      have HS : Hid (∀ i, i < ll → L i ≤ 3000 ∨ (65536 < L i ∧ L i ≤ 70000)) := h2
      clear hl h2
      go_enter Try.func12, Try.ntmps12
      go_wp2
      go_loop [3] (fun i => ∃ k : Nat, k ≤ ll ∧ i = .int .i64 k) (fun i => ll - (intOf i).toNat)
      case atStart => exact ⟨0, Nat.zero_le _, rfl⟩
      case round =>
        obtain ⟨k, hk, rfl⟩ := hrel
        by_cases hlt : k < ll
        · obtain ⟨b, off, rfl, hcl⟩ := HL.out.at_ (by omega)
          have ck := hcl k hlt
          clear hcl
          rcases HS.out k hlt with hs | ⟨hs, hs'⟩
          · go_wp2
            go_round
            case rel => exact ⟨k + 1, by omega, by go_num⟩
            case measure => simp [intOf]; omega
          · go_wp2
            go_round
            case rel => exact ⟨k + 1, by omega, by go_num⟩
            case measure => simp [intOf]; omega
        · go_wp2
          go_ret
          exact ⟨rfl, rfl⟩
    · rw [show fewB ll L = false from decide_eq_false fun h => h2 h.2]
      obtain ⟨q, hq, hne, heq⟩ := first_not h2
      have HE : Hid (∀ i, i < q → L i ≤ 3000 ∨ (65536 < L i ∧ L i ≤ 70000)) := heq
      have HNE : Hid (¬ (L q ≤ 3000 ∨ (65536 < L q ∧ L q ≤ 70000))) := hne
      obtain ⟨b, off, rfl, hcl⟩ := hl.at_ (by omega)
      have HCL : Hid (∀ i, i < ll → w.cell? ⟨b, off + i, none⟩ = some (.slice (A i) (L i) (C i))) := hcl
      clear hcl h2 heq hne hl
      go_enter Try.func12, Try.ntmps12
      go_wp2
      go_loop [3] (fun i => ∃ k : Nat, k ≤ q ∧ i = .int .i64 k) (fun i => ll - (intOf i).toNat)
      case atStart => exact ⟨0, Nat.zero_le _, rfl⟩
      case round =>
        obtain ⟨k, hk, rfl⟩ := hrel
        have ck := HCL.out k (by omega)
        by_cases hlt : k < q
        · rcases HE.out k hlt with hs | ⟨hs, hs'⟩
          · go_wp2
            go_round
            case rel => exact ⟨k + 1, by omega, by go_num⟩
            case measure => simp [intOf]; omega
          · go_wp2
            go_round
            case rel => exact ⟨k + 1, by omega, by go_num⟩
            case measure => simp [intOf]; omega
        · obtain rfl : k = q := by omega
          have hn := HNE.out
          by_cases hs : L k ≤ 65536
          · have hs2 : 3000 < L k := by omega
            go_wp2
            go_ret
            exact ⟨rfl, rfl⟩
          · have hs2 : 70000 < L k := by omega
            go_wp2
            go_ret
            exact ⟨rfl, rfl⟩
  · rw [show fewB ll L = false from decide_eq_false fun h => h1 h.1]
    clear hl
    go_enter Try.func12, Try.ntmps12
    go_wp2
    go_ret
    exact ⟨rfl, rfl⟩
theorem okDec_true {ll : Nat} {L : Nat → Nat} {k r : Int} (h : okDec ll L k r = true) : mayB k r = true ∧ okC ll L (k + r) = true ∧ k ≤ (cnt L ll : Int) := by
  unfold okDec at h
  rw [Bool.and_eq_true, Bool.and_eq_true, decide_eq_true_eq] at h
  exact h
/-- Decode, where it answers cells: they are those of a code, in memory of their own. -/
theorem decode_good {w w' : World} {k r : Int} {ll : Nat} {L : Nat → Nat} {H : M} {e : Ending} (hok : okDec ll L k r = true) (h : Out w (okDec ll L k r) (errD (mayB k r) (okC ll L (k + r)) (okDec ll L k r)) (k.toNat + r.toNat) (len0 L ll) (enc k.toNat (dec k.toNat (sel L ll) H)) e w') :
    ∃ (k' r' m l cap : Nat) (G U : Nat → Nat), k = (k' : Int) ∧ r = (r' : Int) ∧ 1 ≤ k' ∧ k' ≤ 12 ∧ r' ≤ 4 ∧ ll = k' + r' ∧ m = len0 L ll ∧ 1 ≤ m ∧ m ≤ 65536 ∧ okT L ll = true ∧ k' ≤ cnt L ll ∧ e = .returned (.tuple #[.slice (some ⟨l, 0, none⟩) (k' + r') cap, .int .i64 0]) ∧ Mat w' w.heap.size w'.heap.size l cap (k' + r') m G U (enc k' (dec k' (sel L ll) H)) ∧ Below w.heap.size w w' := by
  obtain ⟨h1, h2, h3⟩ := okDec_true hok
  obtain ⟨g1, g2, g3, g4⟩ := mayB_true h1
  obtain ⟨hll, hT⟩ := okC_true h2
  obtain ⟨k, rfl⟩ := Int.eq_ofNat_of_zero_le (show 0 ≤ k by omega)
  obtain ⟨r, rfl⟩ := Int.eq_ofNat_of_zero_le g3
  obtain ⟨m1, m2, _⟩ := alike_of hT (by omega)
  rw [hok, h1, h2, Int.toNat_natCast, Int.toNat_natCast] at h
  obtain ⟨l, cap, G, U, he, hm, hb⟩ := h.mat (by omega) m1
  exact ⟨k, r, _, l, cap, G, U, rfl, rfl, by omega, by omega, by omega, by omega, rfl, m1, m2, hT, by omega, he, hm, hb⟩
theorem okVer_const {k r m : Nat} (hk1 : 1 ≤ k) (hk : k ≤ 12) (hr : r ≤ 4) (hm1 : 1 ≤ m) (hm : m ≤ 65536) : mayB k r = true ∧ okVer (k + r) (fun _ => m) k r = true := by
  have h1 : mayB k r = true := decide_eq_true (by omega)
  refine ⟨h1, ?_⟩
  unfold okVer okC
  rw [h1, okT_const (by omega) hm, cnt_const (by omega)]
  simp
theorem verify_enc (w : World) (k r m l cap B T : Nat) (G U : Nat → Nat) (D : M) (hk1 : 1 ≤ k) (hk : k ≤ 12) (hr : r ≤ 4) (hm1 : 1 ≤ m) (hm : m ≤ 65536) (h : Mat w B T l cap (k + r) m G U (enc k D)) :
    Calls Try.prog 11 #[.int .i64 (k : Int), .int .i64 (r : Int), .slice (some ⟨l, 0, none⟩) (k + r) cap] w fun e w' => e = .returned (.tuple #[.bool true, .int .i64 0]) ∧ Below w.heap.size w w' := by
  have HV := Verify_any w k r (some ⟨l, 0, none⟩) (k + r) cap _ _ _ _ h.lst_ h.room
  obtain ⟨h1, h2⟩ := okVer_const (k := k) (r := r) hk1 hk hr hm1 hm
  rw [h1, h2, Int.toNat_natCast, Int.toNat_natCast, ver_enc] at HV
  exact HV
theorem errD_no (a b : Bool) : errD a b false ≠ 0 := by cases a <;> cases b <;> decide
theorem sel_at {L : Nat → Nat} {i n : Nat} (hi : i < n) (h : L i ≠ 0) : sel L n (cnt L i) = i := by
  rw [sel_prefix L (show i + 1 ≤ n by omega) (by rw [cnt_take h]; omega), sel_take h, put_at]

set_option maxHeartbeats 2000000 in
set_option maxRecDepth 100000 in
theorem whole_walk (w : World) (k r : Int) (lo : Option Addr) (ll cl : Nat) (A : Nat → Option Addr) (C L : Nat → Nat) (H : M) (hl : Lst w lo ll A C L H) :
    Calls Try.prog 7 #[.int .i64 k, .int .i64 r, .slice lo ll cl] w fun e w' => e = .returned (.bool true) ∧ Below w.heap.size w w' := by
  have HL : Hid (Lst w lo ll A C L H) := hl
  clear hl
  go_enter Try.func7, Try.ntmps7
  go_wp2_with fail
  refine (alive_any w).mono ?_
  rintro e w1 ⟨rfl, b1⟩
  replace HL : Hid (Lst w1 lo ll A C L H) := HL.out.below b1
  go_wp2_with fail
  refine (much_any w1 lo ll cl A C L H HL.out).mono ?_
  rintro e w' ⟨rfl, hw'⟩
  obtain rfl := hw'.symm
  cases hfew : fewB ll L
  · go_wp2_with fail
    go_ret
    exact ⟨rfl, b1⟩
  · clear hfew
    go_wp2_with fail
    refine (Decode_any w1 k r lo ll cl A C L H HL.out).mono ?_
    cases hok : okDec ll L k r
    · obtain ⟨err, herr⟩ : ∃ err, err = errD (mayB k r) (okC ll L (k + r)) false := ⟨_, rfl⟩
      have hne : (err != 0) = true := by rw [herr]; exact bne_iff_ne.2 (errD_no _ _)
      rw [← herr]
      clear herr hok
      rintro e w2 ⟨ao, cap, T, U, rfl, _, b2⟩
      replace b1 := below_step b1 b2 b1.size
      have e1 : lenB false (k.toNat + r.toNat) = 0 := rfl
      clear b2
      go_wp2_with fail
      go_ret
      exact ⟨rfl, b1⟩
    · rw [← hok]
      intro e w2 h2
      obtain ⟨k, r, m, l, cap, G, U, rfl, rfl, hk1, hk, hr, rfl, hm, hm1, hm2, hT, hkc, rfl, hmat, b2⟩ := decode_good hok h2
      have HM : Hid (Mat w2 w1.heap.size w2.heap.size l cap (k + r) m G U (enc k (dec k (sel L (k + r)) H))) := hmat
      replace HL : Hid (Lst w2 lo (k + r) A C L H) := HL.out.below b2
      have HT : Hid (okT L (k + r) = true ∧ m = len0 L (k + r)) := ⟨hT, hm⟩
      replace b1 := below_step b1 b2 b1.size
      have hbq : ((k : Int) + (r : Int) != (k : Int) + (r : Int)) = false := by simp
      clear h2 hok hmat b2 hm hT
      go_wp2_with fail
      go_loopw [10, 11] (fun x y wr => ∃ i : Nat, i ≤ k + r ∧ y = .int .i64 i ∧ x = .int .i64 (cnt L i : Int) ∧ cnt L i ≤ k ∧ Hid (∃ q, wr = w2.drewN q)) (fun _ y _ => k + r - (intOf y).toNat)
      case atStart => exact ⟨0, Nat.zero_le _, rfl, rfl, Nat.zero_le _, 0, rfl⟩
      case round =>
        obtain ⟨i, hi, rfl, rfl, hci, hdr⟩ := hrel
        have hbel : Below w2.heap.size w2 wr := drewN_below hdr.out
        obtain ⟨ct, hct⟩ : ∃ ct, ct = cnt L i := ⟨_, rfl⟩
        by_cases hgo : i < k + r ∧ ct < k
        · obtain ⟨hg1, hg2⟩ := hgo
          obtain ⟨b, off, rfl, hcl⟩ := (HL.out.below hbel).at_ (by omega)
          have ck := hcl i hg1
          have i1 : (0 : Int) ≤ (i : Int) := by omega
          have i2 : (i : Int) < (k : Int) + (r : Int) := by omega
          have i3 : (ct : Int) < (k : Int) := by omega
          rw [← hct]
          by_cases hz : L i = 0
          · rw [hz] at ck
            have HCT : Hid (cnt L (i + 1) = ct) := by show _ = _; rw [cnt_skip hz, hct]
            clear hcl hz hct hbel
            go_wp2
            go_roundw
            case rel => exact ⟨i + 1, by omega, by go_num, by rw [HCT.out], by rw [HCT.out]; omega, hdr⟩
            case measure => simp [intOf]; omega
          · have HCT : Hid (cnt L (i + 1) = ct + 1) := by show _ = _; rw [cnt_take hz, hct]
            have hLi : L i = m := by
              have h1 := HT.out.2
              rcases okT_all HT.out.1 i hg1 with g | g
              · exact absurd g hz
              · rw [h1]; exact g.2
            have hmp : (0 : Int) < (m : Int) := by omega
            have HS : Hid (str m (enc k (dec k (sel L (k + r)) H) i) = str m (H i)) := by
              refine str_congr fun y _ => ?_
              have hse := sel_at hg1 hz
              have := dec_back H hk (show k + r ≤ 16 by omega) (fun s hs => (sel_is L (k + r)).lt s (by omega)) (fun s s' q1 q2 => (sel_is L (k + r)).rise s s' q1 (by omega)) (cnt L i) y (by omega)
              rwa [hse] at this
            have dk := held (HM.out.cell_l hg1) hbel
            rw [hLi] at ck
            have r1 := (HM.out.row i hg1).rd.below hbel
            have r2 := (HL.out.below hbel).rd i hg1
            rw [hLi] at r2
            have v1 : ∀ q, (convert 23 9 (.slice (some ⟨G i, 0, none⟩) m (U i))).run Try.prog (wr.drewN q) = .ok (.string (str m (H i))) (wr.drewN q) := fun q => by rw [← HS.out]; exact conv_any (w := wr.drewN q) r1 (U i)
            have v2 : ∀ q, (convert 23 9 (.slice (A i) m (C i))).run Try.prog (wr.drewN q) = .ok (.string (str m (H i))) (wr.drewN q) := fun q => conv_any (w := wr.drewN q) r2 (C i)
            clear hcl hz hct hbel hLi r1 r2
            go_wp2
            go_quiet (fail)
            go_wp2
            go_roundw
            case rel =>
              obtain ⟨q, hq⟩ := hdr.out
              exact ⟨i + 1, by omega, by go_num, by rw [HCT.out]; go_num, by rw [HCT.out]; omega, q + nq, by rw [hq]; simp [World.drewN, Nat.add_assoc]⟩
            case measure => simp [intOf]; omega
        · have hck : ct = k := by
            by_cases e : i < k + r
            · have : ¬ ct < k := fun g => hgo ⟨e, g⟩
              omega
            · obtain rfl : i = k + r := by omega
              omega
          have hnk : ¬ ((k : Int) < (k : Int)) := by omega
          rw [← hct, hck]
          have HV := verify_enc wr k r m l cap w1.heap.size w2.heap.size G U _ hk1 hk hr hm1 hm2 (HM.out.below hbel)
          have HB : Hid (Below w.heap.size w wr) := below_step b1 hbel b1.size
          have hbk : ((k : Int) == (k : Int)) = true := by simp
          clear hct hgo hck hci hbel
          by_cases hi2 : (i : Int) < (k : Int) + (r : Int)
          · go_wp2_with (go_at_call 11; refine HV.mono ?_; rintro e w3 ⟨rfl, b3⟩)
            go_ret
            exact ⟨rfl, below_step HB.out b3 HB.out.size⟩
          · go_wp2_with (go_at_call 11; refine HV.mono ?_; rintro e w3 ⟨rfl, b3⟩)
            go_ret
            exact ⟨rfl, below_step HB.out b3 HB.out.size⟩
end Go.Proofs.Ythkikocacbbhkaa
