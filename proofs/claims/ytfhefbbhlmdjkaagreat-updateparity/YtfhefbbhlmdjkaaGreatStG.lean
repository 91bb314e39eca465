/- A list that a closure appends to; the cells that are there. -/
import Derived.Test.YtfhefbbhlmdjkaaGreatStF
import Derived.Test.YtfhefbbhlmdjkaaGreatVecF
import Derived.Deep.DeepMust
namespace Go.Proofs.YtfhefbbhlmdjkaaGreat
open Go.RowKit

/-- A captured variable at block gp that holds a list of the call's own; Y: its blocks. -/
def Cap (wz v : World) (gp : Nat) (ty e sz m : Nat) (xs : List Value) (Y : Nat → Prop) : Prop :=
  ∃ ao cap, At wz v gp #[.slice ao m cap] ty ∧ v.ownsRow wz.heap.size e sz (.slice ao m cap) m xs ∧ ∀ g, Y g ↔ (g = gp ∨ ∃ a : Addr, ao = some a ∧ g = a.block)
theorem owns_at {w : World} {B e sz n cap : Nat} {ao : Option Addr} {xs : List Value} (h : w.ownsRow B e sz (.slice ao n cap) n xs) {a : Addr} (ha : ao = some a) : B ≤ a.block ∧ a.block < w.heap.size ∧ ∃ cur, w.heap[a.block]? = some (.cells cur e (0, 0)) := by
  rcases h.2 with ⟨h1, _⟩ | ⟨g, cap', cur, h1, h2, h3, _⟩
  · cases h1; cases ha
  · cases h1; cases ha; exact ⟨h2, (Array.getElem?_eq_some_iff.1 h3).1, cur, h3⟩
theorem owns_blocks {w w' : World} {B e sz n cap : Nat} {ao : Option Addr} {xs : List Value} (h : w.ownsRow B e sz (.slice ao n cap) n xs) (hb : ∀ a : Addr, ao = some a → w'.heap[a.block]? = w.heap[a.block]?) : w'.ownsRow B e sz (.slice ao n cap) n xs := by
  refine ⟨h.1, ?_⟩
  rcases h.2 with h1 | ⟨g, cap', cur, h1, h2, h3, h4⟩
  · exact .inl h1
  · cases h1; exact .inr ⟨g, cap, cur, rfl, h2, (hb ⟨g, 0, none⟩ rfl).trans h3, h4⟩
theorem owns_below {w w' : World} {B e sz n cap : Nat} {ao : Option Addr} {xs : List Value} (h : w.ownsRow B e sz (.slice ao n cap) n xs) (hb : Below w.heap.size w w') : w'.ownsRow B e sz (.slice ao n cap) n xs :=
  owns_blocks h fun _ ha => hb.block _ (owns_at h ha).2.1
theorem Cap.below {wz v v' : World} {gp ty e sz m : Nat} {xs : List Value} {Y : Nat → Prop} (h : Cap wz v gp ty e sz m xs Y) (hb : Below v.heap.size v v') : Cap wz v' gp ty e sz m xs Y := by
  obtain ⟨ao, cap, hA, hO, hY⟩ := h
  exact ⟨ao, cap, hA.below hb, owns_below hO hb, hY⟩
theorem Cap.at_ {wz v : World} {gp ty e sz m : Nat} {xs : List Value} {Y : Nat → Prop} (h : Cap wz v gp ty e sz m xs Y) (g : Nat) (hg : Y g) : wz.heap.size ≤ g ∧ g < v.heap.size := by
  obtain ⟨ao, cap, hA, hO, hY⟩ := h
  rcases (hY g).1 hg with rfl | ⟨a, ha, rfl⟩
  · exact ⟨hA.1, hA.lt⟩
  · exact ⟨(owns_at hO ha).1, (owns_at hO ha).2.1⟩
/-- The list is appended to, and the variable stored. -/
theorem cap_grow {wz v v1 w' : World} {gp ty e sz m cap g cap' : Nat} {ao : Option Addr} {xs xs' : List Value} {Y : Nat → Prop} (hty : ty ≠ e) (hA : At wz v gp #[.slice ao m cap] ty) (hO : v.ownsRow wz.heap.size e sz (.slice ao m cap) m xs) (hY : ∀ g, Y g ↔ (g = gp ∨ ∃ a : Addr, ao = some a ∧ g = a.block))
    (hb : Below v.heap.size v v1) (hg : v1.grownBy w' (Value.slice ao m cap).ownBlock) (ho : w'.ownsRow wz.heap.size e sz (.slice (some ⟨g, 0, none⟩) (m + 1) cap') (m + 1) xs') (hgg : (Value.slice ao m cap).ownBlock = some g ∨ g = v1.heap.size) :
    Cap wz (w'.setCell ⟨gp, 0, none⟩ (.slice (some ⟨g, 0, none⟩) (m + 1) cap')) gp ty e sz (m + 1) xs' (fun x => x = gp ∨ x = g) ∧ Only Y v (w'.setCell ⟨gp, 0, none⟩ (.slice (some ⟨g, 0, none⟩) (m + 1) cap')) ∧ ∀ x, (x = gp ∨ x = g) → Y x ∨ v.heap.size ≤ x := by
  have hs := hb.size
  have hlt := hA.lt
  have hne : ∀ a : Addr, ao = some a → a.block ≠ gp := fun a ha e1 => by
    obtain ⟨_, _, cur, hc⟩ := owns_at hO ha
    rw [e1, hA.2] at hc
    cases hc
    exact hty rfl
  have hgne : g ≠ gp := by
    rcases hgg with e1 | e1
    · cases ao with
      | none => cases e1
      | some a => cases e1; exact hne a rfl
    · omega
  have hA' : At wz w' gp #[.slice ao m cap] ty := ⟨hA.1, by
    rw [hg.block gp (by omega) (fun e1 => by
      cases ao with
      | none => cases e1
      | some a => cases e1; exact hne a rfl rfl), hb.block gp hlt]
    exact hA.2⟩
  refine ⟨⟨some ⟨g, 0, none⟩, cap', ?_, ?_, fun x => ?_⟩, ⟨?_, ?_, ?_, ?_, fun x hx hy => ?_⟩, fun x hx => ?_⟩
  · exact hA'.set 0 _
  · exact owns_blocks ho fun a ha => by cases ha; exact Below.heap_setCell _ _ _ _ (by simpa using hgne)
  · constructor
    · rintro (h | h)
      · exact .inl h
      · exact .inr ⟨_, rfl, h⟩
    · rintro (h | ⟨a, ha, h⟩)
      · exact .inl h
      · cases ha; exact .inr h
  · exact hg.os.trans hb.os
  · exact hg.tape.trans hb.tape
  · exact hg.output.trans hb.output
  · have := hg.size; simp [World.setCell]; omega
  · have hxgp : x ≠ gp := fun e1 => hy ((hY x).2 (.inl e1))
    rw [Below.heap_setCell _ _ _ _ (by simpa using hxgp), hg.block x (by omega) (fun e1 => by
      cases ao with
      | none => cases e1
      | some a => cases e1; exact hy ((hY _).2 (.inr ⟨a, rfl, rfl⟩))), hb.block x hx]
  · rcases hx with h | h
    · exact .inl ((hY x).2 (.inl h))
    · subst h
      rcases hgg with e1 | e1
      · cases ao with
        | none => cases e1
        | some a => cases e1; exact .inl ((hY _).2 (.inr ⟨a, rfl, rfl⟩))
      · exact .inr (by omega)

/-- Which cells are there. -/
def lz (z : Nat → Sl) (i : Nat) : Nat := if (z i).ce = 0 then 0 else 1
def ct (z : Nat → Sl) (d : Nat) : Nat := Cod.cnt (lz z) d
def se (z : Nat → Sl) (d : Nat) : Nat → Int := fun t => ((Cod.sel (lz z) d t : Nat) : Int)
theorem ct_le (z : Nat → Sl) (d : Nat) : ct z d ≤ d := Cod.cnt_le _ _
theorem se_skip {z : Nat → Sl} {d : Nat} (h : (z d).ce = 0) : ct z (d + 1) = ct z d ∧ se z (d + 1) = se z d := by
  have : lz z d = 0 := if_pos h
  refine ⟨Cod.cnt_skip this, ?_⟩
  unfold se; rw [Cod.sel_skip this]
theorem se_take {z : Nat → Sl} {d : Nat} (h : ¬ (z d).ce = 0) : ct z (d + 1) = ct z d + 1 ∧ zOf (ct z d + 1) (se z (d + 1)) = zOf (ct z d) (se z d) ++ [.int .i64 (d : Int)] := by
  have h1 : lz z d ≠ 0 := by unfold lz; rw [if_neg h]; decide
  refine ⟨Cod.cnt_take h1, ?_⟩
  rw [zOf_succ]
  have h2 : se z (d + 1) (ct z d) = (d : Int) := by
    unfold se ct; rw [Cod.sel_take h1, Cod.put_at]
  rw [h2]
  congr 1
  refine zOf_congr fun i hi => ?_
  unfold se
  rw [Cod.sel_prefix (lz z) (Nat.le_succ d) hi]
set_option maxHeartbeats 2000000 in
set_option maxRecDepth 100000 in
theorem present1_any (wz v : World) (gp d : Nat) (z : Nat → Sl) (Y : Nat → Prop) (x0 x1 : Value) (hd : d < 16) (ao : Option Addr) (ca : Nat) (bo : Option Addr) (cb : Nat) (h : Cap wz v gp 36 3 1 (ct z d) (zOf (ct z d) (se z d)) Y) :
    Calls Tryz.prog 25 #[.int .i64 (d : Int), .agg #[x0, x1], slv (z d) ao ca bo cb, .pointer (some ⟨gp, 0, none⟩)] v fun e v' => e = .returned (.tuple #[]) ∧ ∃ Y', Cap wz v' gp 36 3 1 (ct z (d + 1)) (zOf (ct z (d + 1)) (se z (d + 1))) Y' ∧ Only Y v v' ∧ ∀ g, Y' g → Y g ∨ v.heap.size ≤ g := by
  unfold slv
  obtain ⟨oo, cc, hA, hO, hY⟩ := h
  have hl := ct_le z d
  obtain ⟨v0, hv0⟩ : ∃ v0, v0 = v.alloc (.cells #[x0, x1] 67) := ⟨_, rfl⟩
  obtain ⟨v1, hv1⟩ : ∃ v1, v1 = v0.alloc (.cells #[.int .u8 (((z d).kd.toNat : Nat) : Int), .int .i64 (z d).ix, .int .i64 (z d).ce, .int .i64 (z d).st, .slice ao (z d).vn ca, .slice bo (z d).dn cb] 63) := ⟨_, rfl⟩
  have b0 : Below v.heap.size v v0 := by rw [hv0]; exact below_alloc _ _
  have b1 : Below v.heap.size v v1 := by rw [hv1]; exact below_then b0 (below_alloc _ _)
  have z0 : v0.heap.size = v.heap.size + 1 := by rw [hv0]; simp
  have s2 : v1.cell? ⟨v.heap.size + 1, 2, none⟩ = some (.int .i64 (z d).ce) := by rw [← z0]; exact blk_held hv1 (Below.refl _ _) 2 rfl
  have hsz : wz.heap.size ≤ v.heap.size := Nat.le_trans hA.1 (Nat.le_of_lt hA.lt)
  by_cases hz : (z d).ce = 0
  · obtain ⟨e1, e2⟩ := se_skip hz
    have hzb : ((z d).ce != 0) = false := by simp [hz]
    have HC : Hid (Cap wz v1 gp 36 3 1 (ct z (d + 1)) (zOf (ct z (d + 1)) (se z (d + 1))) Y) := by
      show Cap _ _ _ _ _ _ _ _ _
      rw [e1, e2]; exact Cap.below ⟨oo, cc, hA, hO, hY⟩ b1
    clear e1 e2 hz hA hO
    go_enter Tryz.func25, Tryz.ntmps25
    go_wp2_with fail
    rw [← hv0, ← hv1]
    clear hv0 hv1
    go_wp2_with fail
    exact bodyPost_end (results_none rfl _ _ _) rfl ⟨rfl, Y, HC.out, .of_below b1, fun g hg => .inl hg⟩
  · obtain ⟨e1, e2⟩ := se_take hz
    have hzb : ((z d).ce != 0) = true := by simp [hz]
    rw [e1, e2]
    obtain ⟨m, hm⟩ : ∃ m, m = ct z d := ⟨_, rfl⟩
    obtain ⟨xs, hxs⟩ : ∃ xs, xs = zOf (ct z d) (se z d) := ⟨_, rfl⟩
    rw [← hxs, ← hm] at hO ⊢
    rw [← hm] at hA hl
    obtain ⟨i0, hi, hi0, hi1, hi2⟩ := info_parts info3
    have HA : Hid (At wz v gp #[.slice oo m cc] 36) := hA
    have HO : Hid (v.ownsRow wz.heap.size 3 1 (.slice oo m cc) m xs) := hO
    have HY : Hid (∀ g, Y g ↔ (g = gp ∨ ∃ a : Addr, oo = some a ∧ g = a.block)) := hY
    have HB : Hid (Below v.heap.size v v1) := b1
    have HZ1 : Hid (v1.heap.size = v.heap.size + 1 + 1) := by show _ = _; rw [hv1]; simp [z0]
    have sg := fun o o' => ((hA.alloc o).alloc o').cell (i := 0) rfl
    clear e1 e2 hz hA hO hY hm hxs b0 b1 z0
    go_enter Tryz.func25, Tryz.ntmps25
    go_wp2_with (at_builtin; rw [← hv0, ← hv1]; clear hv0 hv1; refine wpList_append_lies _ (by rfl) (.tmp 10) (.tmp 12) 36 (by rfl) wz.heap.size 3 i0 (.int .i64 0) 1 8 Tryz.underlying36 hi hi0 hi1 hi2 (by rfl) (by decide) (.slice oo m cc) m xs (by rfl) (owns_below HO.out (below_then HB.out (below_alloc _ _))) ⟨v.heap.size + 1 + 1, 0, none⟩ 1 1 [.int .i64 (d : Int)] (by rfl) (by rfl) (by rw [← HZ1.out]; exact World.news_of_block (heap_alloc_new v1 _)) (by simp [Value.oneCell']) (by decide) (by unfold maxLen; omega) (by omega) (by have := HB.out.size; simp; omega) (v1.heap.size + 1) (by simp) ?_; intro g5 cap5 w5 hown5 hgrow5 hgg5 _
                 have hall := cap_grow (by decide) HA.out HO.out HY.out (below_then HB.out (below_alloc v1 _)) hgrow5 hown5 (by rcases hgg5 with a | a; exact .inl a; exact .inr (by rw [a]; simp))
                 have hg1 := hgrow5.block gp (by have := HA.out.lt; have := HB.out.size; simp; omega) (fun e1 => by
                   obtain ⟨_, ho, _⟩ := hall
                   cases oo with
                   | none => cases e1
                   | some a =>
                     cases e1
                     obtain ⟨_, _, cur, hc⟩ := owns_at HO.out rfl
                     rw [HA.out.2] at hc
                     cases hc)
                 have hAt5 : At wz w5 gp #[.slice oo m cc] 36 := ⟨HA.out.1, hg1.trans (((HA.out.below HB.out).alloc _).2)⟩
                 have t0 := hAt5.cell (i := 0) rfl
                 have tf := hAt5.free
                 have HALL : Hid _ := hall
                 clear hall hg1 hAt5 hown5 hgrow5 hgg5)
    refine bodyPost_end (results_none rfl _ _ _) rfl ?_
    exact ⟨rfl, _, HALL.out.1, HALL.out.2.1, HALL.out.2.2⟩
end Go.Proofs.YtfhefbbhlmdjkaaGreat
