/- The numbers of a layout: widths, leaves, lengths rounded up, and where the parts of a range lie. No program here. -/
import Derived.WalkKit
namespace Go.Proofs.Ytfbfiecamaginaa

/-! ### parameters -/
def may (k r c q : Int) : Bool := decide (1 ≤ k ∧ k ≤ 12 ∧ 0 ≤ r ∧ r ≤ 4 ∧ 8 ≤ c ∧ c ≤ 64 ∧ 32 ≤ k * c ∧ 8 ≤ q ∧ q ≤ 256)
theorem may_true {k r c q : Int} (h : may k r c q = true) : 1 ≤ k ∧ k ≤ 12 ∧ 0 ≤ r ∧ r ≤ 4 ∧ 8 ≤ c ∧ c ≤ 64 ∧ 32 ≤ k * c ∧ 8 ≤ q ∧ q ≤ 256 := of_decide_eq_true h
theorem may_wide {k c : Int} (h1 : 1 ≤ k) (h2 : k ≤ 12) (h3 : 8 ≤ c) (h4 : c ≤ 64) : 8 ≤ k * c ∧ k * c ≤ 768 := by
  have a := Int.mul_le_mul h2 h4 (by omega) (by omega)
  have b := Int.mul_le_mul h1 h3 (by omega) (by omega)
  omega
theorem may_wideN {k c : Nat} (h2 : k ≤ 12) (h4 : c ≤ 64) : k * c ≤ 768 := Nat.mul_le_mul h2 h4

/-- Refs that a descriptor holds, and that a leaf holds, where a stripe has w bytes; the greatest length. -/
def dir (w : Nat) : Nat := (w - 7) / 6
def lea (w : Nat) : Nat := w / 6
def mst (w : Nat) : Nat := min 32768 (dir w * lea w * w)
theorem dir_le {w : Nat} (h : w ≤ 768) : dir w ≤ 126 := by unfold dir; omega
theorem dir_ge {w : Nat} (h : 32 ≤ w) : 4 ≤ dir w := by unfold dir; omega
theorem lea_le {w : Nat} (h : w ≤ 768) : lea w ≤ 128 := by unfold lea; omega
theorem lea_ge {w : Nat} (h : 32 ≤ w) : 5 ≤ lea w := by unfold lea; omega
theorem dir_lea (w : Nat) : dir w ≤ lea w := by unfold dir lea; omega
theorem dl_le {w : Nat} (h : w ≤ 768) : dir w * lea w ≤ 16128 := Nat.mul_le_mul (dir_le h) (lea_le h)
theorem dlw_le {w : Nat} (h : w ≤ 768) : dir w * lea w * w ≤ 12386304 := Nat.mul_le_mul (dl_le h) h
theorem mst_le (w : Nat) : mst w ≤ 32768 := Nat.min_le_left _ _
theorem mst_dlw (w : Nat) : mst w ≤ dir w * lea w * w := Nat.min_le_right _ _
theorem mst_ge {w : Nat} (h : 32 ≤ w) (h' : w ≤ 768) : w ≤ mst w := by
  have h1 : 1 * w ≤ dir w * lea w * w := Nat.mul_le_mul_right w (Nat.mul_le_mul (show 1 ≤ dir w from Nat.le_trans (by decide) (dir_ge h)) (show 1 ≤ lea w from Nat.le_trans (by decide) (lea_ge h)))
  unfold mst; omega

/-! ### rounded up -/
def up (a b : Nat) : Nat := (a + b - 1) / b
theorem up_room {a b : Nat} (hb : 0 < b) : a ≤ up a b * b := by
  unfold up
  have h := Nat.div_add_mod (a + b - 1) b
  have h2 := Nat.mod_lt (a + b - 1) hb
  rw [Nat.mul_comm] at h
  omega
theorem up_less {a b : Nat} (hb : 0 < b) (h0 : 0 < up a b) : (up a b - 1) * b < a := by
  unfold up at h0 ⊢
  have h := Nat.div_add_mod (a + b - 1) b
  rw [Nat.mul_comm] at h
  have e : ((a + b - 1) / b - 1) * b + b = (a + b - 1) / b * b := by
    rw [← Nat.succ_mul]; congr 1; omega
  omega
theorem up_mono {a a' b : Nat} (h : a ≤ a') : up a b ≤ up a' b := Nat.div_le_div_right (by omega)
theorem up_le {a b m : Nat} (h : a ≤ m * b) (hb : 0 < b) : up a b ≤ m := by
  unfold up
  have : (a + b - 1) / b < m + 1 := (Nat.div_lt_iff_lt_mul hb).2 (by rw [Nat.succ_mul]; omega)
  omega
theorem up_pos {a b : Nat} (ha : 0 < a) (hb : 0 < b) : 0 < up a b := Nat.div_pos (by omega) hb
theorem up_self (a b : Nat) (hb : 0 < b) : up a b ≤ a := up_le (Nat.le_mul_of_pos_right a hb) hb

/-- Leaves of an object of s stripes. -/
def lvs (w s : Nat) : Nat := if s ≤ dir w then 0 else up s (lea w)
theorem lvs_mono {w s t : Nat} (h : s ≤ t) : lvs w s ≤ lvs w t := by
  unfold lvs
  split
  · omega
  · rw [if_neg (by omega)]; exact up_mono h
theorem lvs_top {w : Nat} (h : 32 ≤ w) : lvs w (up (mst w) w) ≤ dir w := by
  unfold lvs
  split
  · omega
  · exact up_le (up_le (by rw [Nat.mul_assoc]; exact (by rw [← Nat.mul_assoc]; exact mst_dlw w)) (by omega)) (by have := lea_ge h; omega)
theorem lvs_pos {w s : Nat} (h : 32 ≤ w) : 0 < lvs w s ↔ dir w < s := by
  unfold lvs
  have := lea_ge h
  split
  · omega
  · exact ⟨fun _ => by omega, fun _ => up_pos (by omega) (by omega)⟩
theorem lvs_le {w s : Nat} (h : 32 ≤ w) : lvs w s ≤ s := by
  unfold lvs
  split
  · omega
  · exact up_self _ _ (by have := lea_ge h; omega)
theorem lvs_room {w s : Nat} (h : 32 ≤ w) (h0 : 0 < lvs w s) : s ≤ lvs w s * lea w ∧ (lvs w s - 1) * lea w < s := by
  have h1 := (lvs_pos h).1 h0
  have := lea_ge h
  unfold lvs at h0 ⊢
  rw [if_neg (by omega)] at h0 ⊢
  exact ⟨up_room (by omega), up_less (by omega) h0⟩

/-! ### the parts of a range: cells of c bytes, k in a stripe, the range from o to e -/
/-- Where part i begins. -/
def pos (o e c i : Nat) : Nat := if i = 0 then o else min e ((o / c + i) * c)
def frm (o c i : Nat) : Nat := if i = 0 then o % c else 0
def til (o e c i : Nat) : Nat := min c (e - (o / c + i) * c)
def stp (o c k i : Nat) : Nat := (o / c + i) / k
def cel (o c k i : Nat) : Nat := (o / c + i) % k
/-- n parts are the range. -/
def End (o e c n : Nat) : Prop := (e = o ∧ n = 0) ∨ (o < e ∧ 1 ≤ n ∧ o / c + n = (e - 1) / c + 1)
theorem End.uniq {o e c n m : Nat} (h : End o e c n) (k : End o e c m) : n = m := by
  rcases h with h | h <;> rcases k with k | k <;> omega
theorem pos_div {o e c i : Nat} (hc : 0 < c) (h : pos o e c i < e) : pos o e c i / c = o / c + i := by
  unfold pos at h ⊢
  split
  · subst i; rfl
  · rename_i h0
    rw [if_neg h0] at h
    rw [Nat.min_eq_right (by omega), Nat.mul_div_cancel _ hc]
theorem pos_mod {o e c i : Nat} (h : pos o e c i < e) : pos o e c i % c = frm o c i := by
  unfold pos at h ⊢; unfold frm
  split
  · rfl
  · rename_i h0
    rw [if_neg h0] at h
    rw [Nat.min_eq_right (by omega), Nat.mul_mod_left]
theorem pos_at {o e c i : Nat} (hc : 0 < c) (h : pos o e c i < e) : pos o e c i = (o / c + i) * c + frm o c i := by
  have := Nat.div_add_mod (pos o e c i) c
  rw [pos_div hc h, pos_mod h, Nat.mul_comm] at this
  exact this.symm
theorem frm_lt {o c i : Nat} (hc : 0 < c) : frm o c i < c := by
  unfold frm; split
  · exact Nat.mod_lt _ hc
  · exact hc
theorem pos_le {o e c i : Nat} (h : o ≤ e) : pos o e c i ≤ e := by unfold pos; split <;> omega
theorem pos_succ {o e c i : Nat} (hc : 0 < c) (h : pos o e c i < e) : pos o e c i + min (e - pos o e c i) (c - frm o c i) = pos o e c (i + 1) := by
  have h1 := pos_at hc h
  have h2 := frm_lt (o := o) (i := i) hc
  have h3 : pos o e c (i + 1) = min e ((o / c + i) * c + c) := by
    unfold pos; rw [if_neg (by omega), ← Nat.succ_mul]; rfl
  rw [h3]
  omega
theorem til_eq {o e c i : Nat} (hc : 0 < c) (h : pos o e c i < e) : frm o c i + min (e - pos o e c i) (c - frm o c i) = til o e c i := by
  have h1 := pos_at hc h
  have h2 := frm_lt (o := o) (i := i) hc
  unfold til
  omega
theorem til_gt {o e c i : Nat} (hc : 0 < c) (h : pos o e c i < e) : frm o c i < til o e c i := by
  rw [← til_eq hc h]
  have h2 := frm_lt (o := o) (i := i) hc
  omega
theorem til_le (o e c i : Nat) : til o e c i ≤ c := Nat.min_le_left _ _
theorem pos_til {o e c i : Nat} (hc : 0 < c) (h : pos o e c i < e) : pos o e c i + til o e c i - frm o c i = pos o e c (i + 1) := by
  rw [← til_eq hc h, ← pos_succ hc h]; omega
theorem pos_stp {o e c k i : Nat} (hc : 0 < c) (h : pos o e c i < e) : pos o e c i / (k * c) = stp o c k i := by
  rw [Nat.mul_comm, ← Nat.div_div_eq_div_mul, pos_div hc h]; rfl
theorem pos_cel {o e c k i : Nat} (hc : 0 < c) (h : pos o e c i < e) : pos o e c i % (k * c) / c = cel o c k i := by
  rw [Nat.mul_comm, Nat.mod_mul_right_div_self, pos_div hc h]; rfl
theorem stp_at {o e c k i : Nat} (hc : 0 < c) (h : pos o e c i < e) : stp o c k i * (k * c) + cel o c k i * c + frm o c i = pos o e c i := by
  rw [pos_at hc h, ← Nat.mul_assoc, ← Nat.add_mul]
  congr 2
  have := Nat.div_add_mod (o / c + i) k
  rw [Nat.mul_comm] at this
  exact this
theorem end_of {o e c n : Nat} (hc : 0 < c) (h1 : ∀ i, i < n → pos o e c i < e) (h2 : pos o e c n = e) : End o e c n := by
  by_cases h0 : n = 0
  · subst h0
    have : pos o e c 0 = o := by unfold pos; rw [if_pos rfl]
    exact .inl ⟨by omega, rfl⟩
  · right
    have h3 := h1 (n - 1) (by omega)
    have h4 := pos_at hc h3
    have h5 := h1 0 (by omega)
    have h6 : pos o e c 0 = o := by unfold pos; rw [if_pos rfl]
    refine ⟨by omega, by omega, ?_⟩
    have h7 : e ≤ (o / c + n) * c := by
      unfold pos at h2; rw [if_neg h0] at h2; omega
    have h8 : (o / c + n) * c = (o / c + (n - 1)) * c + c := by rw [← Nat.succ_mul]; congr 1; omega
    have h9 : (e - 1) / c = o / c + (n - 1) := by
      apply Nat.div_eq_of_lt_le
      · omega
      · rw [Nat.succ_mul]; omega
    omega
theorem end_pos {o e c n i : Nat} (h : End o e c n) (hi : i < n) : pos o e c i < e := by
  rcases h with h | ⟨h1, h2, h3⟩
  · omega
  · unfold pos
    split
    · exact h1
    · have h4 : (e - 1) / c * c ≤ e - 1 := Nat.div_mul_le_self _ _
      have h5 : (o / c + i) * c ≤ (e - 1) / c * c := Nat.mul_le_mul_right c (by omega)
      omega
theorem end_last {o e c n : Nat} (hc : 0 < c) (h : End o e c n) : pos o e c n = e := by
  rcases h with ⟨h1, h2⟩ | ⟨h1, h2, h3⟩
  · subst h2; unfold pos; rw [if_pos rfl]; exact h1.symm
  · unfold pos
    rw [if_neg (by omega), h3]
    have h4 := Nat.div_add_mod (e - 1) c
    have h5 := Nat.mod_lt (e - 1) hc
    rw [Nat.mul_comm] at h4
    rw [Nat.succ_mul]
    omega
/-- One byte more, in a new cell. -/
theorem end_new {o b c n : Nat} (hc : 0 < c) (h : End o b c n) (hn : b = o ∨ b % c = 0) : End o (b + 1) c (n + 1) ∧ o / c + n = b / c := by
  have e : b + 1 - 1 = b := rfl
  rcases h with ⟨h1, h2⟩ | ⟨h1, h2, h3⟩
  · subst h1; subst h2
    exact ⟨.inr ⟨by omega, by omega, by rw [e]⟩, rfl⟩
  · have h0 : b % c = 0 := by omega
    have h4 : (b - 1) / c + 1 = b / c := by
      obtain ⟨m, hm⟩ := Nat.dvd_of_mod_eq_zero h0
      subst hm
      rw [Nat.mul_div_cancel_left _ hc]
      have hm0 : 0 < m := by
        rcases Nat.eq_zero_or_pos m with rfl | h
        · omega
        · exact h
      have : (c * m - 1) / c = m - 1 := by
        apply Nat.div_eq_of_lt_le
        · have : (m - 1) * c + c = c * m := by rw [← Nat.succ_mul, Nat.mul_comm]; congr 1; omega
          omega
        · have : (m - 1 + 1) * c = c * m := by rw [Nat.mul_comm]; congr 1; omega
          have h9 : 0 < c * m := Nat.mul_pos hc hm0
          rw [this]; omega
      omega
    exact ⟨.inr ⟨by omega, by omega, by rw [e]; omega⟩, by omega⟩
/-- One byte more, in the same cell. -/
theorem end_same {o b c n : Nat} (hc : 0 < c) (h : End o b c n) (hn : b ≠ o) (h0 : b % c ≠ 0) : End o (b + 1) c n ∧ 1 ≤ n ∧ o / c + (n - 1) = b / c := by
  have e : b + 1 - 1 = b := rfl
  rcases h with ⟨h1, h2⟩ | ⟨h1, h2, h3⟩
  · omega
  · have h4 : (b - 1) / c = b / c := by
      have h5 := Nat.div_add_mod b c
      have h6 := Nat.mod_lt b hc
      rw [Nat.mul_comm] at h5
      apply Nat.div_eq_of_lt_le
      · omega
      · rw [Nat.succ_mul]; omega
    exact ⟨.inr ⟨by omega, by omega, by rw [e]; omega⟩, h2, by omega⟩
theorem til_last {o b c i : Nat} (hc : 0 < c) (h : o / c + i = b / c) : til o (b + 1) c i = b % c + 1 := by
  have h5 := Nat.div_add_mod b c
  have h6 := Nat.mod_lt b hc
  unfold til
  rw [h, Nat.mul_comm]
  omega
theorem til_less {o b c i : Nat} (h : o / c + i < b / c) : til o (b + 1) c i = c ∧ til o b c i = c := by
  have h1 : (o / c + i + 1) * c ≤ b / c * c := Nat.mul_le_mul_right c h
  have h2 := Nat.div_mul_le_self b c
  rw [Nat.succ_mul] at h1
  unfold til
  omega
theorem frm_new {o b c n : Nat} (h : End o b c n) (hn : b = o ∨ b % c = 0) : frm o c n = b % c := by
  unfold frm
  rcases h with ⟨h1, h2⟩ | ⟨h1, h2, h3⟩
  · rw [if_pos h2, h1]
  · rw [if_neg (by omega)]; omega
theorem end_le {o e c n : Nat} (hc : 0 < c) (h : End o e c n) : n ≤ e - o := by
  rcases h with ⟨h1, h2⟩ | ⟨h1, h2, h3⟩
  · omega
  · have h4 := Nat.div_add_mod (e - 1) c
    have h5 := Nat.div_add_mod o c
    have h6 := Nat.mod_lt o hc
    by_cases h7 : n = 1
    · omega
    · obtain ⟨d, hd⟩ : ∃ d, (e - 1) / c = o / c + d := ⟨(e - 1) / c - o / c, by omega⟩
      obtain ⟨q, rfl⟩ : ∃ q, d = q + 1 := ⟨d - 1, by omega⟩
      rw [hd, Nat.mul_add, Nat.mul_succ] at h4
      have h8 : q ≤ c * q := Nat.le_mul_of_pos_left q hc
      omega
end Go.Proofs.Ytfbfiecamaginaa
