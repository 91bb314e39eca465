/- Sizes and what is wrong first: the walk of ImageNames. -/
import Derived.Test.YtenlfhdchflnjaaImgQ
namespace Go.Proofs.Ytenlfhdchflnjaa
open Go.RowKit

theorem pmb : Pm 12 4 64 256 16 256 140 := ⟨by decide, by decide, by decide, by decide⟩
theorem ckb : Ck 12 4 64 256 8192 (fun _ => []) 0 16 256 140 := .inl ⟨rfl, pmb, rfl, fun _ _ => .inl rfl⟩
theorem nm_blank : Bln 12 4 64 256 0 12 4 64 256 8192 := .inr ⟨rfl, rfl, rfl, rfl, rfl, 16, 256, 140, pmb, rfl⟩
theorem nm_blank2 : Bln 12 4 64 257 2 0 0 0 0 0 := .inl ⟨rfl, by decide, rfl, rfl, rfl, rfl, rfl⟩
/-- Raw writes of no bytes. -/
def mp (j : Nat) : Pt := ⟨0, ((j % 3 : Nat) : Int), 0, []⟩
def mcell (i : Nat) (G : Nat → Option Addr) (q : Nat) : Value :=
  if q % 4 = 3 then .slice (if q / 4 < i then G (q / 4) else none) 0 0 else if q % 4 = 1 then .int .i64 (if q / 4 < i then ((q / 4 % 3 : Nat) : Int) else 0) else .int .i64 0
theorem mcell_zero (G : Nat → Option Addr) (q : Nat) : mcell 0 G q = if q % 4 = 3 then .slice none 0 0 else .int .i64 0 := by
  unfold mcell
  simp only [Nat.not_lt_zero, if_false]
  by_cases h : q % 4 = 3
  · rw [if_pos h, if_pos h]
  · rw [if_neg h, if_neg h]; split <;> rfl
theorem mcell_succ (i : Nat) (G : Nat → Option Addr) (a : Option Addr) (q : Nat) : mcell (i + 1) (upd i a G) q = if q = i * 4 + 1 then .int .i64 ((i % 3 : Nat) : Int) else if q = i * 4 + 3 then .slice a 0 0 else mcell i G q := by
  unfold mcell upd
  by_cases h3 : q % 4 = 3
  · have n1 : ¬ q = i * 4 + 1 := by omega
    by_cases hq : q = i * 4 + 3
    · have a1 : q / 4 < i + 1 := by omega
      have a2 : q / 4 = i := by omega
      rw [if_pos h3, if_pos a1, if_pos a2, if_neg n1, if_pos hq]
    · by_cases hl : q / 4 < i
      · have a1 : q / 4 < i + 1 := by omega
        have a2 : ¬ q / 4 = i := by omega
        rw [if_pos h3, if_pos a1, if_neg a2, if_neg n1, if_neg hq, if_pos h3, if_pos hl]
      · have a1 : ¬ q / 4 < i + 1 := by omega
        rw [if_pos h3, if_neg a1, if_neg n1, if_neg hq, if_pos h3, if_neg hl]
  · have n3 : ¬ q = i * 4 + 3 := by omega
    by_cases h1 : q % 4 = 1
    · by_cases hq : q = i * 4 + 1
      · have a1 : q / 4 < i + 1 := by omega
        have a2 : q / 4 = i := by omega
        rw [if_neg h3, if_pos h1, if_pos a1, if_pos hq, a2]
      · by_cases hl : q / 4 < i
        · have a1 : q / 4 < i + 1 := by omega
          rw [if_neg h3, if_pos h1, if_pos a1, if_neg hq, if_neg n3, if_neg h3, if_pos h1, if_pos hl]
        · have a1 : ¬ q / 4 < i + 1 := by omega
          rw [if_neg h3, if_pos h1, if_neg a1, if_neg hq, if_neg n3, if_neg h3, if_pos h1, if_neg hl]
    · have n1 : ¬ q = i * 4 + 1 := by omega
      rw [if_neg h3, if_neg h1, if_neg n1, if_neg n3, if_neg h3, if_neg h1]
theorem mts_many : mts mp 65536 = [0, 1, 2] := by
  obtain ⟨h1, h2⟩ := mts_spec mp 65536
  refine inc_unique _ _ h1 (by simp [Inc]) fun x => ?_
  rw [h2]
  constructor
  · rintro ⟨i, _, e⟩
    rw [← e]
    show ((i % 3 : Nat) : Int) ∈ [0, 1, 2]
    have : i % 3 = 0 ∨ i % 3 = 1 ∨ i % 3 = 2 := by omega
    rcases this with h | h | h <;> rw [h] <;> simp
  · intro h
    have : x = 0 ∨ x = 1 ∨ x = 2 := by simpa using h
    rcases this with rfl | rfl | rfl
    · exact ⟨0, by omega, rfl⟩
    · exact ⟨1, by omega, rfl⟩
    · exact ⟨2, by omega, rfl⟩
theorem nm_rows : Rws mp 65536 0 [0, 1, 2] := .inl ⟨Nat.le_refl _, rfl, mts_many.symm⟩
theorem nm_rows2 : Rws mp 65537 20 [] := .inr ⟨by omega, rfl, rfl⟩
theorem nm_after6 : Aft 2 1 16 8 48 (fun _ => []) mp 65537 (-1) 20 0 0 0 0 0 (fun _ => []) := ⟨0, 3, 8, 40, ck0 fit0, .inr ⟨⟨rfl, rfl, rfl, rfl, rfl, rfl⟩, .inr (.inl ⟨rfl, by omega, rfl⟩)⟩⟩
theorem nm_after7 : Aft 2 1 16 8 48 (fun _ => []) mp 1 (-1) 80 0 0 0 0 0 (fun _ => []) := ⟨0, 3, 8, 40, ck0 fit0, .inr ⟨⟨rfl, rfl, rfl, rfl, rfl, rfl⟩, .inr (.inr (.inl ⟨rfl, by omega, ⟨0, by omega, by unfold takB mp hasB; simp⟩, rfl⟩))⟩⟩
theorem nm_after8 : Aft 2 1 16 8 48 (fun _ => []) mp 0 1 2 0 0 0 0 0 (fun _ => []) := ⟨0, 3, 8, 40, ck0 fit0, .inr ⟨⟨rfl, rfl, rfl, rfl, rfl, rfl⟩, .inr (.inr (.inr ⟨rfl, by omega, fun i hi => absurd hi (Nat.not_lt_zero i), .inr (by decide), rfl⟩))⟩⟩
theorem ck47 : Ck 2 1 16 8 47 (fun _ => []) 90 0 0 0 := .inr (.inr ⟨rfl, rfl, rfl, rfl, 3, 8, 40, pm0, fun h => absurd h.1 (by decide)⟩)
theorem nm_after9 : Aft 2 1 16 8 47 (fun _ => []) mp 65537 (-1) 90 0 0 0 0 0 (fun _ => []) := ⟨90, 0, 0, 0, ck47, .inr ⟨⟨rfl, rfl, rfl, rfl, rfl, rfl⟩, .inl ⟨by decide, rfl⟩⟩⟩
theorem ckz : Ck 0 0 0 0 0 (fun _ => []) 2 0 0 0 := .inr (.inl ⟨rfl, by decide, rfl, rfl, rfl⟩)
theorem nm_diff10 : Dff 2 1 16 8 47 (fun _ => []) 0 0 0 0 0 (fun _ => []) 90 0 (fun _ => p0) := ⟨90, 0, 0, 0, 2, 0, 0, 0, ck47, ckz, .inr ⟨⟨rfl, rfl⟩, .inl ⟨by decide, rfl⟩⟩⟩
theorem nm_diff11 : Dff 2 1 16 8 48 (fun _ => []) 0 0 0 0 0 (fun _ => []) 2 0 (fun _ => p0) := ⟨0, 3, 8, 40, 2, 0, 0, 0, ck0 fit0, ckz, .inr ⟨⟨rfl, rfl⟩, .inr (.inl ⟨rfl, by decide, rfl⟩)⟩⟩
theorem nm_diff12 : Dff 2 1 16 8 48 (fun _ => []) 12 4 64 256 8192 (fun _ => []) 90 0 (fun _ => p0) := ⟨0, 3, 8, 40, 0, 16, 256, 140, ck0 fit0, ckb, .inr ⟨⟨rfl, rfl⟩, .inr (.inr (.inl ⟨rfl, rfl, fun h => absurd h.1 (by decide), rfl⟩))⟩⟩
theorem nm_row : Rww 2 1 16 8 48 (fun _ => []) (-1) 2 0 (fun _ => []) := ⟨0, 3, 8, 40, ck0 fit0, .inr ⟨⟨rfl, rfl⟩, .inr ⟨rfl, fun h => absurd h.1 (by decide), rfl⟩⟩⟩
theorem nm_wiped : Wip 2 1 16 8 48 (fun _ => []) (-1) 2 0 0 0 0 0 (fun _ => []) := ⟨0, 3, 8, 40, ck0 fit0, .inr ⟨⟨rfl, rfl, rfl, rfl, rfl, rfl⟩, .inr ⟨rfl, fun h => absurd h.1 (by decide), rfl⟩⟩⟩
theorem Lst.tail {w : World} {b off n : Nat} {A : Nat → Option Addr} {C : Nat → Nat} {F : Nat → List UInt8} (h : Lst w (some ⟨b, off, none⟩) (n + 1) A C F) : Lst w (some ⟨b, off + 1, none⟩) n (fun i => A (i + 1)) (fun i => C (i + 1)) (fun i => F (i + 1)) := by
  refine ⟨fun hn => ?_, fun i hi => h.rd (i + 1) (by omega), fun i hi => h.nil (i + 1) (by omega)⟩
  obtain ⟨b', off', e, hc⟩ := h.at_ (by omega)
  cases e
  refine ⟨b, off + 1, rfl, fun i hi => ?_⟩
  have := hc (i + 1) (by omega)
  rwa [show off + (i + 1) = off + 1 + i by omega] at this
theorem made_puts (n i : Nat) (h : i < n) : (madeCells #[Value.int .i64 0, .int .i64 0, .int .i64 0, .slice none 0 0] n)[i]? = some (if i % 4 = 3 then .slice none 0 0 else .int .i64 0) := by
  have : i % 4 = 0 ∨ i % 4 = 1 ∨ i % 4 = 2 ∨ i % 4 = 3 := by omega
  unfold madeCells
  rcases this with e | e | e | e <;> simp [h, e]
/-- As many raw writes as n, all zero. -/
theorem make_puts (n : Nat) (hn : n ≤ 65537) : ∃ Z, ∀ w : World, (Instr.makeSlice 32 (.int .i64 (n : Int)) (.int .i64 (n : Int))).run Try.prog w = .ok (.slice (some ⟨w.heap.size, 0, none⟩) n n) (w.alloc (.cells Z 35)) ∧ (w.alloc (.cells Z 35)).rowIs w.heap.size 35 (n * 4) (mcell 0 fun _ => none) := by
  obtain ⟨i0, hi0, hz0, hz1, hz2⟩ := info_parts info35
  refine ⟨madeCells #[Value.int .i64 0, .int .i64 0, .int .i64 0, .slice none 0 0] (n * 4), fun w => ?_⟩
  have hmk0 := run_make (P := Try.prog) w 32 35 i0 _ Try.underlying32 hi0 hz0 .i64 .i64 (n : Int) (n : Int) (by omega) (by omega) (by rw [hz2]; omega) (by omega)
  rw [hz1, Int.toNat_natCast] at hmk0
  refine ⟨hmk0, ?_⟩
  obtain ⟨Z, hZ⟩ : ∃ Z, Z = madeCells #[Value.int .i64 0, .int .i64 0, .int .i64 0, .slice none 0 0] (n * 4) := ⟨_, rfl⟩
  have hsz : Z.size = n * 4 := by rw [hZ, size_madeCells]
  have := World.rowIs_alloc w Z 35 (mcell 0 fun _ => none) fun i hi => by rw [hZ, mcell_zero]; exact made_puts _ _ (by omega)
  rw [hsz, hZ] at this
  exact this
theorem many_made : ∃ (n : Nat) (Z : Array Value), n = 65537 ∧ ∀ w : World, (Instr.makeSlice 32 (.int .i64 65537) (.int .i64 65537)).run Try.prog w = .ok (.slice (some ⟨w.heap.size, 0, none⟩) n n) (w.alloc (.cells Z 35)) ∧ (w.alloc (.cells Z 35)).rowIs w.heap.size 35 (n * 4) (mcell 0 fun _ => none) := by
  obtain ⟨Z, h⟩ := make_puts 65537 (Nat.le_refl _)
  exact ⟨65537, Z, rfl, h⟩
theorem only_one (v : World) (g i : Nat) (u : Value) : Only (fun x => x = g) v (v.setCell ⟨g, i, none⟩ u) := Only.setCell (X := fun x => x = g) (Only.refl _ v) (p := ⟨g, i, none⟩) rfl u
theorem row_below {w v : World} {g n : Nat} {t : TypeId} {f : Nat → Value} (h : w.rowIs g t n f) (hg : g < w.heap.size) (hb : Below w.heap.size w v) : v.rowIs g t n f := by
  obtain ⟨c, h1, h2, h3⟩ := h
  exact ⟨c, (hb.block g hg).trans h1, h2, h3⟩
theorem pts_none (w : World) : Pts w (fun _ => True) none 0 mp (fun _ => none) (fun _ => 0) := ⟨fun h => absurd h (Nat.lt_irrefl 0), fun i hi => absurd hi (Nat.not_lt_zero i), fun i hi => absurd hi (Nat.not_lt_zero i), fun _ h => absurd h (Nat.lt_irrefl 0), fun i _ hi => absurd hi (Nat.not_lt_zero i)⟩
theorem pts_many {w : World} {g n : Nat} {G : Nat → Option Addr} (h : w.rowIs g 35 (n * 4) (mcell n G)) (m : Nat) (hm : m ≤ n) : Pts w (fun _ => True) (some ⟨g, 0, none⟩) m mp G (fun _ => 0) := by
  refine ⟨fun _ => ⟨g, 0, rfl, fun i hi => ?_⟩, fun i hi => rdb_nil _ _, fun i _ _ => ⟨rfl, rfl⟩, fun _ _ _ => trivial, fun _ _ _ _ _ => trivial⟩
  have e : ∀ j, j < 4 → (0 + i * 4 + j) / 4 = i ∧ (0 + i * 4 + j) % 4 = j := fun j hj => by omega
  have e0 := e 0 (by omega)
  have e1 := e 1 (by omega)
  have e2 := e 2 (by omega)
  have e3 := e 3 (by omega)
  have c0 := h.cell (i := 0 + i * 4) (by omega)
  have c1 := h.cell (i := 0 + i * 4 + 1) (by omega)
  have c2 := h.cell (i := 0 + i * 4 + 2) (by omega)
  have c3 := h.cell (i := 0 + i * 4 + 3) (by omega)
  have hi2 : i < n := by omega
  refine ⟨c0.trans ?_, c1.trans ?_, c2.trans ?_, c3.trans ?_⟩
  · rw [Nat.add_zero] at e0; unfold mcell; rw [e0.2, if_neg (by decide), if_neg (by decide)]; rfl
  · unfold mcell; rw [e1.1, e1.2, if_neg (by decide), if_pos rfl, if_pos hi2]; rfl
  · unfold mcell; rw [e2.2, if_neg (by decide), if_neg (by decide)]; rfl
  · unfold mcell; rw [e3.1, e3.2, if_pos rfl, if_pos hi2]; rfl
end Go.Proofs.Ytenlfhdchflnjaa
