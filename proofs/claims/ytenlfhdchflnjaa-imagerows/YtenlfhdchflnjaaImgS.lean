/- What makes one image of another one does so; rows that are the same. -/
import Derived.Test.YtenlfhdchflnjaaImgQ
namespace Go.Proofs.Ytenlfhdchflnjaa
open Go.RowKit

theorem dfs_mem {Q : Nat} {F G : Nat → List UInt8} : ∀ (i : Nat) (y : Pt), y ∈ dfs Q F G i ↔ ∃ m, m < i ∧ ¬ F m = G m ∧ y = ⟨((m / 2 / Q : Nat) : Int), ((m / 2 % Q : Nat) : Int), ((m % 2 : Nat) : Int), G m⟩
  | 0, y => by simp [dfs]
  | i + 1, y => by
    by_cases h : F i = G i
    · rw [dfs_same h, dfs_mem i y]
      constructor
      · rintro ⟨m, h1, h2⟩; exact ⟨m, by omega, h2⟩
      · rintro ⟨m, h1, h2, h3⟩
        rcases Nat.lt_succ_iff_lt_or_eq.1 h1 with g | rfl
        · exact ⟨m, g, h2, h3⟩
        · exact absurd h h2
    · rw [dfs_new h, List.mem_append, dfs_mem i y, List.mem_singleton]
      constructor
      · rintro (⟨m, h1, h2⟩ | e)
        · exact ⟨m, by omega, h2⟩
        · exact ⟨i, by omega, h, e⟩
      · rintro ⟨m, h1, h2, h3⟩
        rcases Nat.lt_succ_iff_lt_or_eq.1 h1 with g | rfl
        · exact .inl ⟨m, g, h2, h3⟩
        · exact .inr h3
theorem getD_mem {l : List Pt} {j : Nat} (h : j < l.length) : l.getD j p0 ∈ l := by
  rw [List.getD_eq_getElem?_getD, List.getElem?_eq_getElem h]; exact List.getElem_mem h
theorem mem_getD {l : List Pt} {y : Pt} (h : y ∈ l) : ∃ j, j < l.length ∧ l.getD j p0 = y := by
  obtain ⟨j, hj, e⟩ := List.mem_iff_getElem.1 h
  exact ⟨j, hj, by rw [List.getD_eq_getElem?_getD, List.getElem?_eq_getElem hj]; exact e⟩
theorem aft_congr {Q : Nat} {D D' : Nat → Pt} {F : Nat → List UInt8} : ∀ m, (∀ j, j < m → D j = D' j) → aft Q D m F = aft Q D' m F
  | 0, _ => rfl
  | m + 1, h => by rw [aft, aft, aft_congr m (fun j hj => h j (by omega)), h m (by omega)]
theorem plc_of (Q i : Nat) : plc Q ((i / 2 / Q : Nat) : Int) ((i / 2 % Q : Nat) : Int) ((i % 2 : Nat) : Int) = i := by
  unfold plc
  simp only [Int.toNat_natCast]
  have h1 := Nat.div_add_mod (i / 2) Q
  rw [Nat.mul_comm] at h1
  omega
theorem aft_dfs (Q : Nat) (F G : Nat → List UInt8) : ∀ i m, aft Q (fun j => (dfs Q F G i).getD j p0) (dfs Q F G i).length F m = if m < i then G m else F m
  | 0, m => by rw [if_neg (Nat.not_lt_zero m)]; rfl
  | i + 1, m => by
    have ih := aft_dfs Q F G i m
    by_cases h : F i = G i
    · rw [dfs_same h, ih]
      by_cases e : m = i
      · subst e; rw [if_neg (by omega), if_pos (by omega), h]
      · by_cases g : m < i
        · rw [if_pos g, if_pos (by omega)]
        · rw [if_neg g, if_neg (by omega)]
    · have e1 := dfs_new (Q := Q) h
      rw [e1, List.length_append]
      show aft Q _ ((dfs Q F G i).length + 1) F m = _
      rw [aft, ← getD_snoc _ _ _ (Nat.lt_succ_self _), upd_at]
      rw [aft_congr (D' := fun j => (dfs Q F G i).getD j p0) _ (fun j hj => by rw [← getD_snoc _ _ j (by omega), upd_ne _ _ (by omega)])]
      show upd (plc Q ((i / 2 / Q : Nat) : Int) ((i / 2 % Q : Nat) : Int) ((i % 2 : Nat) : Int)) (G i) _ m = _
      rw [plc_of]
      by_cases e : m = i
      · subst e; rw [upd_at, if_pos (by omega)]
      · rw [upd_ne _ _ e, ih]
        by_cases g : m < i
        · rw [if_pos g, if_pos (by omega)]
        · rw [if_neg g, if_neg (by omega)]
theorem div_drive {N Q i : Nat} (hQ : 0 < Q) (h : i < N * Q * 2) : i / 2 / Q < N := by
  rw [Nat.div_lt_iff_lt_mul hQ]
  omega
theorem dfs_take {k r c q : Int} {n : Nat} {F G : Nat → List UInt8} {N Q S : Nat} (hck : Ck k r c q n G 0 N Q S) (h : ∀ i, i < n → ¬ F i = G i → ¬ G i = []) : ∀ j, j < (dfs Q F G n).length → takB N Q S ((dfs Q F G n).getD j p0) = true := fun j hj => by
  obtain ⟨m, h1, h2, e⟩ := (dfs_mem n _).1 (getD_mem hj)
  obtain ⟨hpm, hne, hfit⟩ := hck.ok rfl
  obtain ⟨_, _, hQ1, _⟩ := hpm.bounds
  rw [e]
  have h3 : (G m).length = S := by
    rcases hfit m h1 with h4 | h4
    · exact absurd (List.length_eq_zero_iff.1 h4) (h m h1 h2)
    · exact h4
  have h4 := div_drive (N := N) (Q := Q) (i := m) (by omega) (by rw [← hne]; exact h1)
  have h5 := Nat.mod_lt (m / 2) (show 0 < Q by omega)
  unfold takB hasB
  simp only [Bool.and_eq_true, decide_eq_true_eq]
  exact ⟨⟨⟨Int.natCast_nonneg _, Int.ofNat_lt.2 h4⟩, ⟨Int.natCast_nonneg _, Int.ofNat_lt.2 h5⟩, Int.natCast_nonneg _, by omega⟩, h3⟩
theorem dfs_zero {Q : Nat} {F G : Nat → List UInt8} {n : Nat} : (dfs Q F G n).length = 0 ↔ ∀ i, i < n → F i = G i := by
  rw [List.length_eq_zero_iff]
  constructor
  · intro h i hi
    refine Classical.byContradiction fun hne => ?_
    have := (dfs_mem (Q := Q) n _).2 ⟨i, hi, hne, rfl⟩
    rw [h] at this
    simp at this
  · intro h
    refine List.eq_nil_iff_forall_not_mem.2 fun y hy => ?_
    obtain ⟨m, h1, h2, _⟩ := (dfs_mem n y).1 hy
    exact h2 (h m h1)
/-- The rows that are unlike are the rows that are met. -/
theorem mts_row {N Q n : Nat} {F G : Nat → List UInt8} (hQ : 0 < Q) (hn : n = N * Q * 2) (o : Nat) (ho : o < Q) : (o : Int) ∈ mts (fun j => (dfs Q F G n).getD j p0) (dfs Q F G n).length ↔ ∃ j, j < 2 * N ∧ ¬ rowF Q o F j = rowF Q o G j := by
  rw [(mts_spec _ _).2]
  constructor
  · rintro ⟨j, hj, e⟩
    obtain ⟨m, h1, h2, e2⟩ := (dfs_mem n _).1 (getD_mem hj)
    rw [e2] at e
    have h3 : m / 2 % Q = o := Int.ofNat_inj.1 (show ((m / 2 % Q : Nat) : Int) = ((o : Nat) : Int) from e)
    have h4 := div_drive (N := N) (Q := Q) (i := m) hQ (by rw [← hn]; exact h1)
    refine ⟨m / 2 / Q * 2 + m % 2, by omega, ?_⟩
    unfold rowF
    have h5 : (m / 2 / Q * 2 + m % 2) / 2 = m / 2 / Q := by omega
    have h6 : (m / 2 / Q * 2 + m % 2) % 2 = m % 2 := by omega
    have h7 := Nat.div_add_mod (m / 2) Q
    rw [Nat.mul_comm] at h7
    rw [h5, h6, show (m / 2 / Q * Q + o) * 2 + m % 2 = m by omega]
    exact h2
  · rintro ⟨j, hj, hne⟩
    unfold rowF at hne
    have hm : (j / 2 * Q + o) * 2 + j % 2 < n := by
      have a3 : (j / 2 + 1) * Q ≤ N * Q := Nat.mul_le_mul_right Q (by omega)
      rw [Nat.add_mul, Nat.one_mul] at a3
      rw [hn]; omega
    obtain ⟨i, hi, e⟩ := mem_getD ((dfs_mem (Q := Q) n _).2 ⟨_, hm, hne, rfl⟩)
    refine ⟨i, hi, ?_⟩
    rw [e]
    show (((((j / 2 * Q + o) * 2 + j % 2) / 2 % Q : Nat) : Int)) = _
    rw [show ((j / 2 * Q + o) * 2 + j % 2) / 2 = j / 2 * Q + o by omega, Nat.mul_comm, Nat.mul_add_mod, Nat.mod_eq_of_lt ho]
theorem mts_range {Q n : Nat} {F G : Nat → List UInt8} (hQ : 0 < Q) (x : Int) (h : x ∈ mts (fun j => (dfs Q F G n).getD j p0) (dfs Q F G n).length) : 0 ≤ x ∧ x < (Q : Int) := by
  obtain ⟨j, hj, e⟩ := ((mts_spec _ _).2 x).1 h
  obtain ⟨m, h1, h2, e2⟩ := (dfs_mem n _).1 (getD_mem hj)
  rw [e2] at e
  have := Nat.mod_lt (m / 2) hQ
  have e3 : ((m / 2 % Q : Nat) : Int) = x := e
  omega
/-- k rows of M are below o, the others from o on. -/
def Met (M : List Int) (o k : Nat) : Prop := k ≤ M.length ∧ (∀ j (h : j < M.length), j < k → M[j] < (o : Int)) ∧ ∀ j (h : j < M.length), k ≤ j → (o : Int) ≤ M[j]
theorem inc_lt {M : List Int} (h : Inc M) {i j : Nat} (hj : j < M.length) (hij : i < j) : M[i] < M[j] := List.pairwise_iff_getElem.1 h i j (by omega) hj hij
theorem met_yes {M : List Int} {o k : Nat} (hM : Inc M) (h : Met M o k) (ho : (o : Int) ∈ M) : ∃ hk : k < M.length, M[k] = (o : Int) ∧ Met M (o + 1) (k + 1) := by
  obtain ⟨h1, h2, h3⟩ := h
  obtain ⟨j, hj, e⟩ := List.mem_iff_getElem.1 ho
  have hkj : k ≤ j := Nat.le_of_not_lt fun g => by have := h2 j hj g; omega
  have hk : k < M.length := by omega
  have hek : M[k] = (o : Int) := by
    rcases Nat.eq_or_lt_of_le hkj with g | g
    · subst g; exact e
    · have a := inc_lt hM hj g
      have b := h3 k hk (Nat.le_refl _)
      omega
  refine ⟨hk, hek, by omega, fun i hi hik => ?_, fun i hi hik => ?_⟩
  · rcases Nat.lt_succ_iff_lt_or_eq.1 hik with g | rfl
    · have := h2 i hi g; omega
    · rw [hek]; omega
  · have a := inc_lt hM hi (show k < i by omega)
    omega
theorem met_no {M : List Int} {o k : Nat} (h : Met M o k) (ho : ¬ (o : Int) ∈ M) : Met M (o + 1) k := by
  obtain ⟨h1, h2, h3⟩ := h
  refine ⟨h1, fun j hj hk => by have := h2 j hj hk; omega, fun j hj hk => ?_⟩
  have a := h3 j hj hk
  have b : M[j] ≠ (o : Int) := fun e => ho (e ▸ List.getElem_mem hj)
  omega
theorem met_end {M : List Int} {o k : Nat} (h : Met M o k) (ho : ∀ x, x ∈ M → x < (o : Int)) : k = M.length := by
  obtain ⟨h1, h2, h3⟩ := h
  refine Classical.byContradiction fun hne => ?_
  have hk : k < M.length := by omega
  have a := h3 k hk (Nat.le_refl _)
  have b := ho _ (List.getElem_mem hk)
  omega
theorem below_q {w v : World} {q : Nat} (h : v = w.drewN q) : Below w.heap.size w v := by subst h; exact ⟨rfl, rfl, rfl, Nat.le_refl _, fun _ _ => rfl⟩
set_option maxHeartbeats 2000000 in
set_option maxRecDepth 100000 in
/-- Whether two rows are the same. -/
theorem SamePairs_any (lo1 lo2 : Option Addr) (n c1 c2 : Nat) (A1 A2 : Nat → Option Addr) (C1 C2 : Nat → Nat) (F1 F2 : Nat → List UInt8) (hn : n ≤ 1000000) (w : World) (h1 : Lst w lo1 (2 * n) A1 C1 F1) (h2 : Lst w lo2 (2 * n) A2 C2 F2) (x : Bool) (hx : (x = true ∧ ∀ j, j < 2 * n → F1 j = F2 j) ∨ (x = false ∧ ∃ j, j < 2 * n ∧ ¬ F1 j = F2 j)) :
    Calls Try.prog 33 #[.slice lo1 n c1, .slice lo2 n c2] w fun e w' => e = .returned (.bool x) ∧ Below w.heap.size w w' := by
  have HT1 : Hid (Lst w lo1 (2 * n) A1 C1 F1) := h1
  have HT2 : Hid (Lst w lo2 (2 * n) A2 C2 F2) := h2
  have HX : Hid ((x = true ∧ ∀ j, j < 2 * n → F1 j = F2 j) ∨ (x = false ∧ ∃ j, j < 2 * n ∧ ¬ F1 j = F2 j)) := hx
  have e6 : ((n : Int) != (n : Int)) = false := by simp
  clear h1 h2 hx
  go_enter Try.func33, Try.ntmps33
  go_wp2_with fail
  go_loopw [5] (fun y wr => ∃ i : Nat, i ≤ n ∧ y = .int .i64 i ∧ Hid (∃ q, wr = w.drewN q) ∧ Hid (∀ j, j < 2 * i → F1 j = F2 j)) (fun y _ => n - (intOf y).toNat)
  case atStart => exact ⟨0, Nat.zero_le _, rfl, ⟨0, rfl⟩, fun j hj => absurd hj (by omega)⟩
  case round =>
    obtain ⟨i, hi, rfl, hq, hg⟩ := hrel
    by_cases hlt : i < n
    · have hdr : ∀ a, wr.cell? a = w.cell? a := by obtain ⟨q, rfl⟩ := hq.out; exact fun _ => rfl
      have hbd : ∀ m, Below w.heap.size w (wr.drewN m) := by obtain ⟨q, rfl⟩ := hq.out; exact fun m => ⟨rfl, rfl, rfl, Nat.le_refl _, fun _ _ => rfl⟩
      obtain ⟨b1, o1, rfl, hc1⟩ := HT1.out.at_ (by omega)
      obtain ⟨b2, o2, rfl, hc2⟩ := HT2.out.at_ (by omega)
      have d1 : wr.cell? ⟨b1, o1 + i * 2, none⟩ = some (.slice (A1 (2 * i)) (F1 (2 * i)).length (C1 (2 * i))) := by rw [hdr, Nat.mul_comm i 2]; exact hc1 (2 * i) (by omega)
      have d2 : wr.cell? ⟨b2, o2 + i * 2, none⟩ = some (.slice (A2 (2 * i)) (F2 (2 * i)).length (C2 (2 * i))) := by rw [hdr, Nat.mul_comm i 2]; exact hc2 (2 * i) (by omega)
      have d3 : wr.cell? ⟨b1, o1 + i * 2 + 1, none⟩ = some (.slice (A1 (2 * i + 1)) (F1 (2 * i + 1)).length (C1 (2 * i + 1))) := by rw [hdr, Nat.mul_comm i 2, Nat.add_assoc]; exact hc1 (2 * i + 1) (by omega)
      have d4 : wr.cell? ⟨b2, o2 + i * 2 + 1, none⟩ = some (.slice (A2 (2 * i + 1)) (F2 (2 * i + 1)).length (C2 (2 * i + 1))) := by rw [hdr, Nat.mul_comm i 2, Nat.add_assoc]; exact hc2 (2 * i + 1) (by omega)
      have v1 : ∀ m, (convert 33 9 (.slice (A1 (2 * i)) (F1 (2 * i)).length (C1 (2 * i)))).run Try.prog (wr.drewN m) = .ok (.string (sOf (F1 (2 * i)))) (wr.drewN m) := fun m => conv_any ((HT1.out.rd _ (by omega)).below (hbd m)) _ _ rfl
      have v2 : ∀ m, (convert 33 9 (.slice (A2 (2 * i)) (F2 (2 * i)).length (C2 (2 * i)))).run Try.prog (wr.drewN m) = .ok (.string (sOf (F2 (2 * i)))) (wr.drewN m) := fun m => conv_any ((HT2.out.rd _ (by omega)).below (hbd m)) _ _ rfl
      have v3 : ∀ m, (convert 33 9 (.slice (A1 (2 * i + 1)) (F1 (2 * i + 1)).length (C1 (2 * i + 1)))).run Try.prog (wr.drewN m) = .ok (.string (sOf (F1 (2 * i + 1)))) (wr.drewN m) := fun m => conv_any ((HT1.out.rd _ (by omega)).below (hbd m)) _ _ rfl
      have v4 : ∀ m, (convert 33 9 (.slice (A2 (2 * i + 1)) (F2 (2 * i + 1)).length (C2 (2 * i + 1)))).run Try.prog (wr.drewN m) = .ok (.string (sOf (F2 (2 * i + 1)))) (wr.drewN m) := fun m => conv_any ((HT2.out.rd _ (by omega)).below (hbd m)) _ _ rfl
      have i1 : (0 : Int) ≤ (i : Int) := by omega
      have i2 : (i : Int) < (n : Int) := by omega
      clear hdr hbd hc1 hc2
      have HFX : Hid (∀ j, j < 2 * n → ¬ F1 j = F2 j → x = false) := fun j hj hne => by
        rcases HX.out with ⟨_, h⟩ | ⟨h, _⟩
        · exact absurd (h j hj) hne
        · exact h
      have s1 := str_eq (F1 (2 * i)) (F2 (2 * i))
      have s3 := str_eq (F1 (2 * i + 1)) (F2 (2 * i + 1))
      by_cases g1 : F1 (2 * i) = F2 (2 * i)
      · by_cases g2 : F1 (2 * i + 1) = F2 (2 * i + 1)
        · have HG : Hid (F1 (2 * i) = F2 (2 * i) ∧ F1 (2 * i + 1) = F2 (2 * i + 1)) := ⟨g1, g2⟩
          rw [decide_eq_true g1] at s1
          rw [decide_eq_true g2] at s3
          clear g1 g2
          go_wp2_with fail
          go_quiet (fail)
          go_wp2
          go_roundw
          case rel =>
            obtain ⟨q, hq2⟩ := hq.out
            refine ⟨i + 1, by omega, by go_num, ⟨q + nq, by rw [hq2]; simp [World.drewN, Nat.add_assoc]⟩, fun j hj => ?_⟩
            by_cases e0 : j = 2 * i
            · rw [e0]; exact HG.out.1
            · by_cases e1 : j = 2 * i + 1
              · rw [e1]; exact HG.out.2
              · exact hg.out j (by omega)
          case measure => simp [intOf]; omega
        · have HF : Hid (x = false) := HFX.out _ (by omega) g2
          rw [decide_eq_true g1] at s1
          rw [decide_eq_false g2] at s3
          clear g1 g2
          go_wp2_with fail
          go_quiet (fail)
          go_wp2
          go_ret
          obtain ⟨q, rfl⟩ := hq.out
          exact ⟨ret_bool HF.out.symm, below_then (below_q (q := q) rfl) ⟨rfl, rfl, rfl, Nat.le_refl _, fun _ _ => rfl⟩⟩
      · have HF : Hid (x = false) := HFX.out _ (by omega) g1
        rw [decide_eq_false g1] at s1
        clear g1
        go_wp2_with fail
        go_quiet (fail)
        go_wp2
        go_ret
        obtain ⟨q, rfl⟩ := hq.out
        exact ⟨ret_bool HF.out.symm, below_then (below_q (q := q) rfl) ⟨rfl, rfl, rfl, Nat.le_refl _, fun _ _ => rfl⟩⟩
    · obtain rfl : i = n := by omega
      have HF : Hid (x = true) := by
        rcases HX.out with ⟨h, _⟩ | ⟨_, j, hj, hne⟩
        · exact h
        · exact absurd (hg.out j hj) hne
      go_wp2
      go_ret
      obtain ⟨q, rfl⟩ := hq.out
      exact ⟨ret_bool HF.out.symm, below_q rfl⟩
end Go.Proofs.Ytenlfhdchflnjaa
