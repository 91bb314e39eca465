/- A row behind the first of some raw writes. -/
import Derived.Test.YtfhefbbhlmdjkaaGreatStPa
namespace Go.Proofs.YtfhefbbhlmdjkaaGreat
open Go.RowKit

theorem ptl_len (Lc os : Nat → Nat) (nu : Int) (n : Nat) (T : Nat → Option Addr) (U : Nat → Nat) : ∀ d, (ptl Lc os nu n T U d).length = 4 * Cod.cnt Lc d
  | 0 => rfl
  | d + 1 => by
    rw [ptl]
    by_cases h : Lc d = 0
    · rw [if_pos h, Cod.cnt_skip h]; exact ptl_len Lc os nu n T U d
    · rw [if_neg h, Cod.cnt_take h, List.length_append, ptl_len Lc os nu n T U d]; simp; omega
theorem ptl_get (Lc os : Nat → Nat) (nu : Int) (n : Nat) (T : Nat → Option Addr) (U : Nat → Nat) : ∀ d t, t < Cod.cnt Lc d →
    (ptl Lc os nu n T U d)[t * 4]? = some (.int .i64 ((Cod.sel Lc d t : Nat) : Int)) ∧ (ptl Lc os nu n T U d)[t * 4 + 2]? = some (.int .i64 ((os (Cod.sel Lc d t) : Nat) : Int)) ∧ (ptl Lc os nu n T U d)[t * 4 + 3]? = some (.slice (T (Cod.sel Lc d t)) n (U (Cod.sel Lc d t)))
  | 0, t, h => absurd h (Nat.not_lt_zero t)
  | d + 1, t, h => by
    rw [ptl]
    by_cases hz : Lc d = 0
    · rw [Cod.cnt_skip hz] at h
      rw [if_pos hz, Cod.sel_skip hz]; exact ptl_get Lc os nu n T U d t h
    · rw [Cod.cnt_take hz] at h
      have hl := ptl_len Lc os nu n T U d
      rw [if_neg hz]
      by_cases e : t = Cod.cnt Lc d
      · rw [Cod.sel_take hz, e, Cod.put_at, List.getElem?_append_right (by omega), List.getElem?_append_right (by omega), List.getElem?_append_right (by omega), hl, show Cod.cnt Lc d * 4 - 4 * Cod.cnt Lc d = 0 by omega, show Cod.cnt Lc d * 4 + 2 - 4 * Cod.cnt Lc d = 2 by omega, show Cod.cnt Lc d * 4 + 3 - 4 * Cod.cnt Lc d = 3 by omega]
        exact ⟨rfl, rfl, rfl⟩
      · have ht : t < Cod.cnt Lc d := by omega
        rw [List.getElem?_append_left (by omega), List.getElem?_append_left (by omega), List.getElem?_append_left (by omega), Cod.sel_prefix Lc (Nat.le_succ d) ht]
        exact ptl_get Lc os nu n T U d t ht
/-- What lies in the places of a row behind t raw writes. -/
def bP {α : Type} (Lc os : Nat → Nat) (N : Nat) (f g : Nat → α) : Nat → Nat → α
  | 0 => f
  | t + 1 => Cod.put (2 * Cod.sel Lc N t + os (Cod.sel Lc N t)) (g (Cod.sel Lc N t)) (bP Lc os N f g t)
theorem bP_out {α : Type} {Lc os : Nat → Nat} {N : Nat} {f g : Nat → α} {j : Nat} : ∀ {t : Nat}, (∀ s, s < t → 2 * Cod.sel Lc N s + os (Cod.sel Lc N s) ≠ j) → bP Lc os N f g t j = f j
  | 0, _ => rfl
  | t + 1, h => by rw [bP, Cod.put_ne _ _ (fun e => h t (by omega) e.symm)]; exact bP_out fun s hs => h s (by omega)
theorem bP_in {α : Type} {Lc os : Nat → Nat} {N : Nat} {f g : Nat → α} (ho : ∀ i, os i < 2) {s : Nat} : ∀ {t : Nat}, t ≤ Cod.cnt Lc N → s < t → bP Lc os N f g t (2 * Cod.sel Lc N s + os (Cod.sel Lc N s)) = g (Cod.sel Lc N s)
  | 0, _, h => absurd h (Nat.not_lt_zero s)
  | t + 1, ht, h => by
    rw [bP]
    by_cases e : s = t
    · rw [e, Cod.put_at]
    · have hr := (Cod.sel_is Lc N).rise s t (by omega) (by omega)
      have h1 := ho (Cod.sel Lc N s)
      have h2 := ho (Cod.sel Lc N t)
      rw [Cod.put_ne _ _ (by omega)]
      exact bP_in ho (by omega) (by omega)
theorem oN_lt (y0 y1 : Sl) (kd : UInt8) (v : Int) : oN y0 y1 kd v < 2 := by
  unfold oN
  split
  · omega
  · split
    · omega
    · split <;> omega
theorem info35 : (Tryz.prog.info? 67).map (fun i => (i.zero, i.size, i.bytes)) = some (some (.agg #[.slice none 0 0, .slice none 0 0]), 2, 48) := by kernel_rfl
/-- A row in a list of the call's own. -/
structure Rn (B : Nat) (w : World) (g rn cap : Nat) (A : Nat → Option Addr) (L C : Nat → Nat) (F : Nat → Nat → UInt8) : Prop where
  out : w.ownsRow B 67 2 (.slice (some ⟨g, 0, none⟩) rn cap) rn (Cod.rowsOf (2 * rn) A L C)
  bec : ∀ j, j < 2 * rn → Bec w (A j) (L j) (C j) (F j)
theorem Rn.cell {B : Nat} {w : World} {g rn cap : Nat} {A : Nat → Option Addr} {L C : Nat → Nat} {F : Nat → Nat → UInt8} (h : Rn B w g rn cap A L C F) {j : Nat} (hj : j < 2 * rn) : w.cell? ⟨g, j, none⟩ = some (.slice (A j) (L j) (C j)) := by
  have := h.out.cells (g := g) rfl j _ (Cod.rowsOf_get (2 * rn) A L C j hj)
  rw [Addr.add_lit, Nat.zero_add] at this
  exact this
theorem Rn.rw {B : Nat} {w : World} {g rn cap : Nat} {A : Nat → Option Addr} {L C : Nat → Nat} {F : Nat → Nat → UInt8} (h : Rn B w g rn cap A L C F) : Rw w (some ⟨g, 0, none⟩) rn A L C F :=
  ⟨fun _ => ⟨g, 0, rfl, fun i hi => by
    rw [Nat.zero_add, Nat.mul_comm i 2]
    exact ⟨h.cell (by omega), h.cell (by omega)⟩⟩, h.bec⟩
theorem Rn.below {B : Nat} {w w' : World} {g rn cap : Nat} {A : Nat → Option Addr} {L C : Nat → Nat} {F : Nat → Nat → UInt8} (h : Rn B w g rn cap A L C F) (hb : Below w.heap.size w w') : Rn B w' g rn cap A L C F :=
  ⟨owns_below h.out hb, fun j hj => (h.bec j hj).below hb⟩
theorem rw_news {w : World} {a : Addr} {rn : Nat} {A : Nat → Option Addr} {L C : Nat → Nat} {F : Nat → Nat → UInt8} (h : Rw w (some a) rn A L C F) (hn : 0 < rn) : ∀ j u, (Cod.rowsOf (2 * rn) A L C)[j]? = some u → w.cell? (a.add j) = some u := fun j u hu => by
  have hj : j < 2 * rn := list_lt (Cod.rowsOf_length _ _ _ _) hu
  rw [Cod.rowsOf_get _ _ _ _ _ hj] at hu
  obtain ⟨b, off, e, hc⟩ := h.at_ hn
  cases e
  rw [Addr.add_lit]
  obtain ⟨h0, h1⟩ := hc (j / 2) (by omega)
  rcases Nat.mod_two_eq_zero_or_one j with z | z
  · rw [show off + j = off + j / 2 * 2 by omega, h0, show 2 * (j / 2) = j by omega]; exact hu
  · rw [show off + j = off + j / 2 * 2 + 1 by omega, h1, show 2 * (j / 2) + 1 = j by omega]; exact hu
set_option maxHeartbeats 4000000 in
set_option maxRecDepth 100000 in
theorem behind_any (w : World) (ro : Option Addr) (rn rc : Nat) (A : Nat → Option Addr) (L C : Nat → Nat) (F : Nat → Nat → UInt8) (hr : Rw w ro rn A L C F) (hrn : 0 < rn) (hrn2 : rn ≤ 16) (B : Nat) (lo : Option Addr) (cap : Nat) (Lc os : Nat → Nat) (nu : Int) (nn : Nat) (T : Nat → Option Addr) (U : Nat → Nat) (G : Nat → Nat → UInt8) (hp : PL B w lo (Cod.cnt Lc rn) cap rn Lc os nu nn T U G) (ho : ∀ i, os i < 2) (n : Nat) (hn : n ≤ Cod.cnt Lc rn) :
    Calls Tryz.prog 11 #[.slice ro rn rc, .slice lo (Cod.cnt Lc rn) cap, .int .i64 (n : Int)] w fun e w' => ∃ g c', e = .returned (.slice (some ⟨g, 0, none⟩) rn c') ∧ Rn w.heap.size w' g rn c' (bP Lc os rn A T n) (bP Lc os rn L (fun _ => nn) n) (bP Lc os rn C U n) (bP Lc os rn F G n) ∧ Below w.heap.size w w' := by
  obtain ⟨j0, hj, hj0, hj1, hj2⟩ := info_parts info35
  obtain ⟨a, rfl⟩ : ∃ a, ro = some a := by obtain ⟨b, off, e, _⟩ := hr.at_ hrn; exact ⟨_, e⟩
  have hnw := rw_news hr hrn
  have HR : Hid (Rw w (some a) rn A L C F) := hr
  have HPL : Hid (PL B w lo (Cod.cnt Lc rn) cap rn Lc os nu nn T U G) := hp
  have HSEL : Hid (Cod.Sel Lc rn (Cod.cnt Lc rn) (Cod.sel Lc rn)) := Cod.sel_is Lc rn
  have HGET : Hid (∀ t, t < Cod.cnt Lc rn → (ptl Lc os nu nn T U rn)[t * 4]? = some (.int .i64 ((Cod.sel Lc rn t : Nat) : Int)) ∧ (ptl Lc os nu nn T U rn)[t * 4 + 2]? = some (.int .i64 ((os (Cod.sel Lc rn t) : Nat) : Int)) ∧ (ptl Lc os nu nn T U rn)[t * 4 + 3]? = some (.slice (T (Cod.sel Lc rn t)) nn (U (Cod.sel Lc rn t)))) := ptl_get Lc os nu nn T U rn
  have HOS : Hid (∀ i, os i < 2) := ho
  have HBEC : Hid (∀ t, t ≤ Cod.cnt Lc rn → ∀ j, j < 2 * rn → Bec w (bP Lc os rn A T t j) (bP Lc os rn L (fun _ => nn) t j) (bP Lc os rn C U t j) (bP Lc os rn F G t j)) := fun t => by
    induction t with
    | zero => exact fun _ j hj => hr.bec j hj
    | succ t ih =>
      intro ht j hj
      rw [bP, bP, bP, bP]
      by_cases e : j = 2 * Cod.sel Lc rn t + os (Cod.sel Lc rn t)
      · rw [e, Cod.put_at, Cod.put_at, Cod.put_at, Cod.put_at]
        exact (hp.row _ ((Cod.sel_is Lc rn).lt t (by omega)) ((Cod.sel_is Lc rn).there t (by omega))).bec
      · rw [Cod.put_ne _ _ e, Cod.put_ne _ _ e, Cod.put_ne _ _ e, Cod.put_ne _ _ e]; exact ih (by omega) j hj
  have hcl := Cod.cnt_le Lc rn
  obtain ⟨cm, hcm⟩ : ∃ cm, cm = Cod.cnt Lc rn := ⟨_, rfl⟩
  rw [← hcm] at HPL HSEL HGET HBEC hn hcl ⊢
  obtain ⟨xs, hxs⟩ : ∃ xs, xs = Cod.rowsOf (2 * rn) A L C := ⟨_, rfl⟩
  rw [← hxs] at hnw
  have hxl : xs.length = rn * 2 := by rw [hxs, Cod.rowsOf_length, Nat.mul_comm]
  have hx1 : ∀ u ∈ xs, u.oneCell' = true := by rw [hxs]; exact Cod.rowsOf_one _ _ _ _
  have HXS : Hid (xs = Cod.rowsOf (2 * rn) A L C) := hxs
  clear hr hp ho hcm hxs
  go_enter Tryz.func11, Tryz.ntmps11
  go_wp2_with (at_builtin; refine wpList_append_own w (by rfl) (.tmp 9) (.tmp 10) 24 (by rfl) w.heap.size 67 j0 (.agg #[.slice none 0 0, .slice none 0 0]) 2 48 Tryz.underlying24 hj hj0 hj1 hj2 (by rfl) (by decide) (.slice none 0 0) 0 [] (by rfl) (World.ownsRow_nil _ _ _ _) a rn rc xs (by rfl) hxl hnw hx1 (by unfold maxLen; omega) (by omega) (Nat.le_refl _) ?_; intro v5 w5 hown5 hgrow5 hnil5)
  obtain ⟨g, c5, rfl⟩ : ∃ g c5, v5 = .slice (some ⟨g, 0, none⟩) rn c5 := by
    rcases hown5.2 with ⟨_, e⟩ | ⟨g, c5, cur, e, _⟩
    · omega
    · rw [Nat.zero_add] at e; exact ⟨g, c5, e⟩
  rw [Nat.zero_add, List.nil_append] at hown5
  have HB5 : Hid (Below w.heap.size w w5) := (Below.refl _ _).grown hgrow5 (Nat.le_refl _) (fun r hr => by cases hr)
  have HO5 : Hid (w5.ownsRow w.heap.size 67 2 (.slice (some ⟨g, 0, none⟩) rn c5) rn (Cod.rowsOf (2 * rn) A L C)) := by rw [← HXS.out]; exact hown5
  clear hown5 hgrow5 hnil5 hnw hxl hx1
  go_wp2_with fail
  go_loopw [8] (fun y wr => ∃ t : Nat, t ≤ n ∧ y = .int .i64 (t : Int) ∧ Hid (Rn w.heap.size wr g rn c5 (bP Lc os rn A T t) (bP Lc os rn L (fun _ => nn) t) (bP Lc os rn C U t) (bP Lc os rn F G t)) ∧ Hid (Below w.heap.size w wr)) (fun y _ => n - (intOf y).toNat)
  case atStart => exact ⟨0, Nat.zero_le _, rfl, ⟨HO5.out, fun j hj => (HR.out.bec j hj).below HB5.out⟩, HB5.out⟩
  case round =>
    obtain ⟨t, ht, rfl, hrn3, hbw⟩ := hrel
    by_cases hlt : t < n
    · obtain ⟨D, hD⟩ : ∃ D, D = Cod.sel Lc rn t := ⟨_, rfl⟩
      obtain ⟨s, hs⟩ : ∃ s, s = os D := ⟨_, rfl⟩
      have hDl : D < rn := by rw [hD]; exact HSEL.out.lt t (by omega)
      have hs2 : s < 2 := by rw [hs]; exact HOS.out D
      obtain ⟨gl, rfl⟩ : ∃ gl, lo = some ⟨gl, 0, none⟩ := by
        rcases HPL.out.out.2 with ⟨_, e⟩ | ⟨gl, _, _, e, _⟩
        · omega
        · cases e; exact ⟨gl, rfl⟩
      have hb2 := (HPL.out.below hbw.out)
      obtain ⟨g0, g2, g3⟩ := HGET.out t (by omega)
      rw [← hD] at g0 g2 g3
      rw [← hs] at g2
      have c0 : wr.cell? ⟨gl, t * 4, none⟩ = some (.int .i64 (D : Int)) := by
        have := hb2.out.cells (g := gl) rfl _ _ g0; rw [Addr.add_lit, Nat.zero_add] at this; exact this
      have c2 : wr.cell? ⟨gl, t * 4 + 2, none⟩ = some (.int .i64 (s : Int)) := by
        have := hb2.out.cells (g := gl) rfl _ _ g2; rw [Addr.add_lit, Nat.zero_add] at this; exact this
      have c3 : wr.cell? ⟨gl, t * 4 + 3, none⟩ = some (.slice (T D) nn (U D)) := by
        have := hb2.out.cells (g := gl) rfl _ _ g3; rw [Addr.add_lit, Nat.zero_add] at this; exact this
      have hst := World.ownsRow.stored hrn3.out.out (D * 2 + s) (.slice (T D) nn (U D))
      rw [rows_set] at hst
      have hgg : w.heap.size ≤ g := (owns_at hrn3.out.out (a := ⟨g, 0, none⟩) rfl).1
      have ⟨gcur, hgc⟩ := (owns_at hrn3.out.out (a := ⟨g, 0, none⟩) rfl).2.2
      have hne : gl ≠ g := fun e => by
        obtain ⟨_, _, cur, hc⟩ := owns_at hb2.out (a := ⟨gl, 0, none⟩) rfl
        simp only at hc hgc
        rw [e, hgc] at hc
        cases hc
      have e1 : 2 * D + s = D * 2 + s := by omega
      have HNX : Hid (Rn w.heap.size (wr.setCell ⟨g, D * 2 + s, none⟩ (.slice (T D) nn (U D))) g rn c5 (bP Lc os rn A T (t + 1)) (bP Lc os rn L (fun _ => nn) (t + 1)) (bP Lc os rn C U (t + 1)) (bP Lc os rn F G (t + 1))) := by
        refine ⟨?_, fun j hj => ?_⟩
        · rw [bP, bP, bP, ← hD, ← hs, e1]; exact hst.1
        · exact (HBEC.out (t + 1) (by omega) j hj).below (hbw.out.setCell hgg _)
      have HNB : Hid (Below w.heap.size w (wr.setCell ⟨g, D * 2 + s, none⟩ (.slice (T D) nn (U D)))) := hbw.out.setCell hgg _
      have k0 := hrn3.out.cell (j := D * 2 + s) (by omega)
      have kf : wr.frozen? ⟨g, D * 2 + s, none⟩ = false := World.ownsRow.frozenAt hrn3.out.out _
      have i1 : (0 : Int) ≤ (t : Int) := by omega
      have i2 : (t : Int) < (cm : Int) := by omega
      have i3 : ¬ (D : Int) < 0 := by omega
      have i4 : ¬ (rn : Int) ≤ (D : Int) := by omega
      have i5 : ¬ (s : Int) < 0 := by omega
      have i6 : ¬ (1 : Int) < (s : Int) := by omega
      have i7 : (0 : Int) ≤ (D : Int) := by omega
      have i8 : (D : Int) < (rn : Int) := by omega
      have i9 : (0 : Int) ≤ (s : Int) := by omega
      have i10 : (s : Int) < 2 := by omega
      have n1 : ¬ g = gl := fun e => hne e.symm
      clear hst hb2 g0 g2 g3 hD hs hgc e1
      go_wp2_with fail
      go_region_held3 (fun u => u.cell? ⟨gl, t * 4, none⟩ = some (.int .i64 (D : Int)) ∧ u.cell? ⟨gl, t * 4 + 2, none⟩ = some (.int .i64 (s : Int)) ∧ u.cell? ⟨gl, t * 4 + 3, none⟩ = some (.slice (T D) nn (U D))) (go_keep) ((fail))
      go_wp2_with fail
      go_roundw
      case rel => exact ⟨t + 1, by omega, by go_num, HNX.out.below (below_drew _ _), HNB.out.trans (below_drew _ _)⟩
      case measure => simp [intOf]; omega
    · obtain rfl : t = n := by omega
      go_wp2_with fail
      go_ret
      exact ⟨g, c5, rfl, hrn3.out, hbw.out⟩
end Go.Proofs.YtfhefbbhlmdjkaaGreat
