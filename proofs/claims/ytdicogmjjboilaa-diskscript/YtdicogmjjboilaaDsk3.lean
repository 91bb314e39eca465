/- An image that is written over, and grown: what else stays. -/
import Derived.Test.YtdicogmjjboilaaDsk2
import Derived.Deep.RegionLaw
import Derived.Deep.RegionLawGrows
namespace Go.Proofs.Ytdicogmjjboilaa
open Go.RowKit

/-- Blocks but those of X stay; what lies in memory still does. -/
structure Kp (X : Nat → Prop) (w w' : World) : Prop where
  only : Only X w w'
  shape : ∀ a, (w.cell? a).isSome = true → (w'.cell? a).isSome = true ∧ w'.frozen? a = w.frozen? a
theorem Kp.refl (X : Nat → Prop) (w : World) : Kp X w w := ⟨Only.refl _ _, fun _ h => ⟨h, rfl⟩⟩
theorem Kp.trans {X : Nat → Prop} {a b c : World} (h : Kp X a b) (k : Kp X b c) : Kp X a c := ⟨h.only.trans k.only, fun x hx => ⟨(k.shape x (h.shape x hx).1).1, (k.shape x (h.shape x hx).1).2.trans (h.shape x hx).2⟩⟩
theorem Kp.of_below {X : Nat → Prop} {a b : World} (h : Below a.heap.size a b) : Kp X a b := ⟨.of_below h, fun x hx => by
  obtain ⟨v, hv⟩ := Option.isSome_iff_exists.1 hx
  have hl := World.block_lt_of_cell? a _ hv
  rw [h.cell hl, h.frozen hl]
  exact ⟨hx, rfl⟩⟩
theorem Kp.setCell {X : Nat → Prop} {a b : World} (h : Kp X a b) {p : Addr} (hp : X p.block) (v : Value) : Kp X a (b.setCell p v) := ⟨h.only.setCell hp v, fun x hx => by
  have h1 := h.shape x hx
  refine ⟨?_, (frozen_setC _ _ _ _).trans h1.2⟩
  by_cases e : p = x
  · subst e; rw [World.cell?_setCell_same' _ _ _ h1.1]; rfl
  · rw [World.cell?_setCell_other _ _ _ _ e]; exact h1.1⟩
theorem Kp.setCells {X : Nat → Prop} {a : World} {g : Nat} (hg : X g) : ∀ (vs : List Value) (o : Nat) {b : World}, Kp X a b → Kp X a (b.setCells g o vs)
  | [], _, _, h => h
  | v :: r, o, _, h => Kp.setCells hg r (o + 1) (h.setCell (p := ⟨g, o, none⟩) hg v)
/-- A list of slots that may be written over. -/
structure Spl (w : World) (X : Nat → Prop) (l n : Nat) (A : Nat → Option Addr) (Ls Cs : Nat → Nat) : Prop where
  cell : ∀ i, i < n → w.cell? ⟨l, i, none⟩ = some (.slice (A i) (Ls i) (Cs i))
  free : ∀ i, i < n → w.frozen? ⟨l, i, none⟩ = false
  own : X l
  lt : ∀ b, X b → b < w.heap.size
  le : ∀ i, i < n → Ls i ≤ 1000
  slot : ∀ i, i < n → (A i = none ∧ Ls i = 0 ∧ Cs i = 0) ∨ ∃ g, A i = some ⟨g, 0, none⟩ ∧ X g ∧ g ≠ l ∧ ∀ j, j < Ls i ∨ j < Cs i → (w.cell? ⟨g, j, none⟩).isSome = true ∧ w.frozen? ⟨g, j, none⟩ = false
theorem spl_next {X : Nat → Prop} {w0 wx w9 : World} {l n i : Nat} {A : Nat → Option Addr} {Ls Cs : Nat → Nat} {v : Value} (h1 : Kp X w0 wx) (h2 : Kp X wx w9) (_ : ∀ j, i ≤ j → j < n → wx.cell? ⟨l, j, none⟩ = some (.slice (A j) (Ls j) (Cs j))) (h3 : ∀ j, i ≤ j → j < n → w9.cell? ⟨l, j, none⟩ = some (.slice (A j) (Ls j) (Cs j))) (hX : X l) (_ : i < n) :
    Hid (Kp X w0 (w9.setCell ⟨l, i, none⟩ v)) ∧ Hid (∀ j, i + 1 ≤ j → j < n → (w9.setCell ⟨l, i, none⟩ v).cell? ⟨l, j, none⟩ = some (.slice (A j) (Ls j) (Cs j))) :=
  ⟨(h1.trans h2).setCell (p := ⟨l, i, none⟩) hX v, fun j hj hn => by rw [World.cell?_setCell_other _ _ _ _ (by intro e; cases e; omega)]; exact h3 j (by omega) hn⟩
set_option maxHeartbeats 4000000 in
set_option maxRecDepth 100000 in
theorem spoil_any (k r c q : Int) (w : World) (X : Nat → Prop) (l n cl : Nat) (A : Nat → Option Addr) (Ls Cs : Nat → Nat) (h : Spl w X l n A Ls Cs) (hn : n ≤ 1000000) :
    Calls Try.prog 15 #[.agg #[.int .i64 k, .int .i64 r, .int .i64 c, .int .i64 q, .slice (some ⟨l, 0, none⟩) n cl]] w fun e w' => e = .returned (.tuple #[]) ∧ Only X w w' := by
  obtain ⟨i0, hinf, hz0, hz1, hz2⟩ := info_parts info5
  obtain ⟨w0, hw0⟩ : ∃ w0, w0 = w.alloc (.cells #[.int .i64 k, .int .i64 r, .int .i64 c, .int .i64 q, .slice (some ⟨l, 0, none⟩) n cl] 26) := ⟨_, rfl⟩
  have b0 : Below w.heap.size w w0 := by rw [hw0]; exact below_alloc _ _
  have HX4 : Hid (w0.cell? ⟨w.heap.size, 4, none⟩ = some (.slice (some ⟨l, 0, none⟩) n cl)) := (img_held hw0 (Below.refl _ _)).2.2.2.2
  have HS : Hid (Spl w X l n A Ls Cs) := h
  have HOWN : Hid (X l) := h.own
  have hXb : ¬ X w.heap.size := fun hx => Nat.lt_irrefl _ (h.lt _ hx)
  have hlw : l < w.heap.size := h.lt _ h.own
  have HC0 : Hid (∀ j, 0 ≤ j → j < n → w0.cell? ⟨l, j, none⟩ = some (.slice (A j) (Ls j) (Cs j))) := fun j _ hj => held (h.cell j hj) b0
  have HK0 : Hid (Kp X w w0) := Kp.of_below b0
  clear h
  go_enter Try.func15, Try.ntmps15
  go_wp2_with fail
  rw [← hw0]
  clear hw0
  go_loopw [2, 3] (fun x _ wr => ∃ i : Nat, i ≤ n ∧ x = .int .i64 i ∧ Hid (Kp X w0 wr) ∧ Hid (∀ j, i ≤ j → j < n → wr.cell? ⟨l, j, none⟩ = some (.slice (A j) (Ls j) (Cs j)))) (fun x _ _ => n - (intOf x).toNat)
  case atStart => exact ⟨0, Nat.zero_le _, rfl, Kp.refl _ _, HC0.out⟩
  case round =>
    obtain ⟨i, hi, rfl, hk, hc⟩ := hrel
    have z4 : wr.cell? ⟨w.heap.size, 4, none⟩ = some (.slice (some ⟨l, 0, none⟩) n cl) := hk.out.only.cell HX4.out hXb
    by_cases hlt : i < n
    · obtain ⟨wm, rfl⟩ : ∃ x, x = wr := ⟨wr, rfl⟩
      have ci := hc.out i (Nat.le_refl _) hlt
      have hL := HS.out.le i hlt
      obtain ⟨L, hLs⟩ : ∃ L, L = Ls i := ⟨_, rfl⟩
      obtain ⟨C, hCs⟩ : ∃ C, C = Cs i := ⟨_, rfl⟩
      have i1 : (0 : Int) ≤ (i : Int) := by omega
      have i2 : (i : Int) < (n : Int) := by omega
      have HNEW : Hid (∀ (wx : World) j u, ([.int .u8 98] : List Value)[j]? = some u → (wx.alloc (.cells #[.int .u8 98] 5)).drew.cell? ((⟨wx.heap.size, 0, none⟩ : Addr).add j) = some u) := fun wx => World.news_of_block (heap_alloc_new wx _)
      have HFX0 : Hid (∀ wx, Kp X w0 wx → ∀ j, j < n → wx.frozen? ⟨l, j, none⟩ = false) := fun wx hx j hj => by
        have h1 := (HK0.out.trans hx).shape ⟨l, j, none⟩ (by rw [HS.out.cell j hj]; rfl)
        exact h1.2.trans (HS.out.free j hj)
      rcases HS.out.slot i hlt with ⟨a1, a2, a3⟩ | ⟨g, a1, hXg, hgl, hsl⟩
      · rw [a1, a2, a3] at ci
        have hao : A i = none := a1
        go_wp2_with fail
        go_loop [3] (fun x => x = .int .i64 0) (fun x => 0)
        case atStart => rfl
        case round =>
          obtain rfl := hrel
          obtain ⟨wx, hwx⟩ : ∃ wx, wx = wm := ⟨_, rfl⟩
          rw [← hwx] at hk hc z4 ci ⊢
          clear hwx
          have x4 := z4
          have y4 := fun o => held x4 (below_alloc wx o)
          have cj := fun o => held ci (below_alloc wx o)
          have HKX := hk
          have HLX := hc
          have HFX : Hid (∀ j, j < n → wx.frozen? ⟨l, j, none⟩ = false) := HFX0.out wx hk.out
          have HNEW := HNEW.out wx
          have HNEW : Hid (∀ j u, ([.int .u8 98] : List Value)[j]? = some u → (wx.alloc (.cells #[.int .u8 98] 5)).drew.cell? ((⟨wx.heap.size, 0, none⟩ : Addr).add j) = some u) := HNEW
          have hol : ([] : List Value).length = 0 * 1 := rfl
          have hfull : (0 : Nat) < 0 + 1 := by decide
          clear hk hc z4
          go_wp2_with fail
          refine wp_region_held_drew (S := fun v => v.cell? ⟨w.heap.size, 4, none⟩ = some (.slice (some ⟨l, 0, none⟩) n cl)) (by kernel_rfl) x4 (fun hHeld => ?_)
          refine wpAnyH_take (i := 0) (oi := _) (v := .pointer (some ⟨w.heap.size, 4, none⟩)) rfl (by kernel_rfl) (by kernel_rfl) (by kernel_rfl) (fun _ _ _ h => h) (Or.inl ⟨by rfl, ?_⟩) (by assumption) ?_
          · intro w' hSw
            try dsimp only at hSw
            go_simp <;> first | with_reducible rfl | assumption
          simp only [Act.put]
          refine wpAnyH_take (i := 1) (oi := _) (v := .slice (some ⟨l, 0, none⟩) n cl) rfl (by kernel_rfl) (by kernel_rfl) (by kernel_rfl) (fun _ _ _ h => h) (Or.inl ⟨by rfl, ?_⟩) (by assumption) ?_
          · intro w' hSw
            try dsimp only at hSw
            go_simp <;> first | with_reducible rfl | assumption
          simp only [Act.put]
          refine wpAnyH_take (i := 2) (oi := _) (v := .int .i64 (i : Int)) rfl (by kernel_rfl) (by kernel_rfl) (by kernel_rfl) (fun _ _ _ h => h) (Or.inl ⟨by rfl, ?_⟩) (by assumption) ?_
          · intro w' hSw
            try dsimp only at hSw
            go_simp <;> first | with_reducible rfl | assumption
          simp only [Act.put]
          refine wpAnyH_take (i := 3) (oi := _) (v := .pointer (some ⟨w.heap.size, 4, none⟩)) rfl (by kernel_rfl) (by kernel_rfl) (by kernel_rfl) (fun _ _ _ h => h) (Or.inl ⟨by rfl, ?_⟩) (by assumption) ?_
          · intro w' hSw
            try dsimp only at hSw
            go_simp <;> first | with_reducible rfl | assumption
          simp only [Act.put]
          refine wpAnyH_take (i := 4) (oi := _) (v := .slice (some ⟨l, 0, none⟩) n cl) rfl (by kernel_rfl) (by kernel_rfl) (by kernel_rfl) (fun _ _ _ h => h) (Or.inl ⟨by rfl, ?_⟩) (by assumption) ?_
          · intro w' hSw
            try dsimp only at hSw
            go_simp <;> first | with_reducible rfl | assumption
          simp only [Act.put]
          refine wpAnyH_take (i := 5) (oi := _) (v := .int .i64 (i : Int)) rfl (by kernel_rfl) (by kernel_rfl) (by kernel_rfl) (fun _ _ _ h => h) (Or.inl ⟨by rfl, ?_⟩) (by assumption) ?_
          · intro w' hSw
            try dsimp only at hSw
            go_simp <;> first | with_reducible rfl | assumption
          simp only [Act.put]
          refine wpAnyH_take (i := 6) (oi := _) (v := .pointer (some ⟨l, i, none⟩)) rfl (by kernel_rfl) (by kernel_rfl) (by kernel_rfl) (fun _ _ _ h => h) (Or.inl ⟨by rfl, ?_⟩) (by assumption) ?_
          · intro w' hSw
            try dsimp only at hSw
            go_simp <;> first | with_reducible rfl | assumption
          simp only [Act.put]
          refine wpAnyH_ready (rs := [7, 8]) (by kernel_rfl) (by simp) ?_
          refine AllReadyH.cons (o := _) rfl (fun K hK => ?_) (AllReadyH.cons (o := _) rfl (fun K hK => ?_) AllReadyH.nil)
          · go_simp
            refine hK.out _ _ x4 (fun hHeld => ?_)
            clear hK K
            try simp only [Act.put]
            refine wpAnyH_ready (rs := [8]) (by kernel_rfl) (by simp) ?_
            refine AllReadyH.cons (o := _) rfl (fun K hK => ?_) AllReadyH.nil
            go_simp
            refine hK.out _ _ (y4 _) (fun hHeld => ?_)
            clear hK K
            try simp only [Act.put]
            refine wpAnyH_ready (rs := [9]) (by kernel_rfl) (by simp) ?_
            refine AllReadyH.cons (o := _) rfl (fun K hK => ?_) AllReadyH.nil
            refine Go.step_append_grows (by rfl) (.tmp 35) (.tmp 36) 43 (by rfl) 5 i0 (.int .u8 0) 1 1 Try.underlying43 hinf hz0 hz1 hz2 (by rfl) (by decide) none 0 0 [] (by simp [Act.eval]) (fun _ => ⟨rfl, rfl⟩) hol (fun b e => by cases e) ⟨wx.heap.size, 0, none⟩ 1 1 [.int .u8 98] (by simp [Act.eval]) (by rfl) HNEW.out (by simp [Value.oneCell']) hfull (by unfold maxLen; omega) (by omega) ?_
            intro v' w9 hown9 hgrow9
            obtain ⟨ga, gn, gc, rfl⟩ : ∃ ga gn gc, v' = .slice ga gn gc := by
              rcases hown9.2 with ⟨rfl, _⟩ | ⟨g', cap', cur', rfl, _⟩
              · exact ⟨_, _, _, rfl⟩
              · exact ⟨_, _, _, rfl⟩
            clear hown9
            have HB9 : Hid (Below wx.heap.size wx w9) := (((Below.refl wx.heap.size wx).alloc (Nat.le_refl _) _).drew).grown hgrow9 (by show _ ≤ (wx.alloc _).heap.size; simp) (fun r hr => by cases hr)
            have HK9 : Hid (Kp X wx w9) := Kp.of_below HB9.out
            have e1 : w9.cell? ⟨w.heap.size, 4, none⟩ = some (.slice (some ⟨l, 0, none⟩) n cl) := held x4 HB9.out
            have HC9 : Hid (∀ j, i ≤ j → j < n → w9.cell? ⟨l, j, none⟩ = some (.slice (A j) (Ls j) (Cs j))) := fun j h1 h2 => held (HLX.out j h1 h2) HB9.out
            have e2 : w9.cell? ⟨l, i, none⟩ = some (.slice (A i) (Ls i) (Cs i)) := HC9.out i (Nat.le_refl _) hlt
            have ef : w9.frozen? ⟨l, i, none⟩ = false := by rw [(HK9.out.shape ⟨l, i, none⟩ (by rw [HLX.out i (Nat.le_refl _) hlt]; rfl)).2]; exact HFX.out i hlt
            have e3 : ∀ u, (w9.setCell ⟨l, i, none⟩ u).cell? ⟨w.heap.size, 4, none⟩ = some (.slice (some ⟨l, 0, none⟩) n cl) := fun u => set_cell e1 (by show w.heap.size ≠ l; omega) u
            have hin9 : i < n := hlt
            clear hgrow9
            refine hK.out _ _ e1 (fun hHeld => ?_)
            clear hK K
            try simp only [Act.put]
            refine wpAnyH_take (i := 10) (oi := _) (v := .pointer (some ⟨l, i, none⟩)) rfl (by kernel_rfl) (by kernel_rfl) (by kernel_rfl) (fun _ _ _ h => h) (Or.inl ⟨by rfl, ?_⟩) (by assumption) ?_
            · intro w' hSw
              try dsimp only at hSw
              go_simp <;> first | with_reducible rfl | assumption
            simp only [Act.put]
            refine wpAnyH_ready (rs := [11]) (by kernel_rfl) (by simp) ?_
            refine AllReadyH.cons (o := _) rfl (fun K hK => ?_) AllReadyH.nil
            go_simp
            refine hK.out _ _ (e3 _) (fun hHeld => ?_)
            clear hK K
            try simp only [Act.put]
            refine wpAnyH_done (by kernel_rfl) ?_ _
            go_wp2_with fail
            go_roundw
            case rel => exact ⟨i + 1, by omega, by go_num, spl_next HKX.out HK9.out HLX.out HC9.out HOWN.out hin9⟩
            case measure => simp [intOf]; omega
          · go_simp
            refine hK.out _ _ (y4 _) (fun hHeld => ?_)
            clear hK K
            try simp only [Act.put]
            refine wpAnyH_ready (rs := [7]) (by kernel_rfl) (by simp) ?_
            refine AllReadyH.cons (o := _) rfl (fun K hK => ?_) AllReadyH.nil
            go_simp
            refine hK.out _ _ (y4 _) (fun hHeld => ?_)
            clear hK K
            try simp only [Act.put]
            refine wpAnyH_ready (rs := [9]) (by kernel_rfl) (by simp) ?_
            refine AllReadyH.cons (o := _) rfl (fun K hK => ?_) AllReadyH.nil
            refine Go.step_append_grows (by rfl) (.tmp 35) (.tmp 36) 43 (by rfl) 5 i0 (.int .u8 0) 1 1 Try.underlying43 hinf hz0 hz1 hz2 (by rfl) (by decide) none 0 0 [] (by simp [Act.eval]) (fun _ => ⟨rfl, rfl⟩) hol (fun b e => by cases e) ⟨wx.heap.size, 0, none⟩ 1 1 [.int .u8 98] (by simp [Act.eval]) (by rfl) HNEW.out (by simp [Value.oneCell']) hfull (by unfold maxLen; omega) (by omega) ?_
            intro v' w9 hown9 hgrow9
            obtain ⟨ga, gn, gc, rfl⟩ : ∃ ga gn gc, v' = .slice ga gn gc := by
              rcases hown9.2 with ⟨rfl, _⟩ | ⟨g', cap', cur', rfl, _⟩
              · exact ⟨_, _, _, rfl⟩
              · exact ⟨_, _, _, rfl⟩
            clear hown9
            have HB9 : Hid (Below wx.heap.size wx w9) := (((Below.refl wx.heap.size wx).alloc (Nat.le_refl _) _).drew).grown hgrow9 (by show _ ≤ (wx.alloc _).heap.size; simp) (fun r hr => by cases hr)
            have HK9 : Hid (Kp X wx w9) := Kp.of_below HB9.out
            have e1 : w9.cell? ⟨w.heap.size, 4, none⟩ = some (.slice (some ⟨l, 0, none⟩) n cl) := held x4 HB9.out
            have HC9 : Hid (∀ j, i ≤ j → j < n → w9.cell? ⟨l, j, none⟩ = some (.slice (A j) (Ls j) (Cs j))) := fun j h1 h2 => held (HLX.out j h1 h2) HB9.out
            have e2 : w9.cell? ⟨l, i, none⟩ = some (.slice (A i) (Ls i) (Cs i)) := HC9.out i (Nat.le_refl _) hlt
            have ef : w9.frozen? ⟨l, i, none⟩ = false := by rw [(HK9.out.shape ⟨l, i, none⟩ (by rw [HLX.out i (Nat.le_refl _) hlt]; rfl)).2]; exact HFX.out i hlt
            have e3 : ∀ u, (w9.setCell ⟨l, i, none⟩ u).cell? ⟨w.heap.size, 4, none⟩ = some (.slice (some ⟨l, 0, none⟩) n cl) := fun u => set_cell e1 (by show w.heap.size ≠ l; omega) u
            have hin9 : i < n := hlt
            clear hgrow9
            refine hK.out _ _ e1 (fun hHeld => ?_)
            clear hK K
            try simp only [Act.put]
            refine wpAnyH_take (i := 10) (oi := _) (v := .pointer (some ⟨l, i, none⟩)) rfl (by kernel_rfl) (by kernel_rfl) (by kernel_rfl) (fun _ _ _ h => h) (Or.inl ⟨by rfl, ?_⟩) (by assumption) ?_
            · intro w' hSw
              try dsimp only at hSw
              go_simp <;> first | with_reducible rfl | assumption
            simp only [Act.put]
            refine wpAnyH_ready (rs := [11]) (by kernel_rfl) (by simp) ?_
            refine AllReadyH.cons (o := _) rfl (fun K hK => ?_) AllReadyH.nil
            go_simp
            refine hK.out _ _ (e3 _) (fun hHeld => ?_)
            clear hK K
            try simp only [Act.put]
            refine wpAnyH_done (by kernel_rfl) ?_ _
            go_wp2_with fail
            go_roundw
            case rel => exact ⟨i + 1, by omega, by go_num, spl_next HKX.out HK9.out HLX.out HC9.out HOWN.out hin9⟩
            case measure => simp [intOf]; omega
      · rw [a1, ← hLs, ← hCs] at ci
        rw [← hLs, ← hCs] at hsl
        rw [← hLs] at hL
        have hgw : g < w.heap.size := HS.out.lt _ hXg
        have HSL : Hid (∀ wx, Kp X w0 wx → ∀ j, j < L ∨ j < C → (wx.cell? ⟨g, j, none⟩).isSome = true ∧ wx.frozen? ⟨g, j, none⟩ = false) := fun wx hx j hj => by
          have h1 := hsl j hj
          have h2 := (HK0.out.trans hx).shape ⟨g, j, none⟩ h1.1
          exact ⟨h2.1, h2.2.trans h1.2⟩
        clear hsl
        go_wp2_with fail
        go_loopw [3] (fun x wx => ∃ t : Nat, t ≤ L ∧ x = .int .i64 t ∧ Hid (Kp X w0 wx) ∧ Hid (∀ j, i ≤ j → j < n → wx.cell? ⟨l, j, none⟩ = some (.slice (A j) (Ls j) (Cs j)))) (fun x _ => L - (intOf x).toNat)
        case atStart => exact ⟨0, Nat.zero_le _, rfl, hk, hc⟩
        case round =>
          obtain ⟨t, ht, rfl, hkx, hcx⟩ := hrel
          obtain ⟨wx, hwx⟩ : ∃ wx, wx = wr := ⟨_, rfl⟩
          rw [← hwx] at hkx hcx ⊢
          clear hwx
          have x4 : wx.cell? ⟨w.heap.size, 4, none⟩ = some (.slice (some ⟨l, 0, none⟩) n cl) := hkx.out.only.cell HX4.out hXb
          have ck : wx.cell? ⟨l, i, none⟩ = some (.slice (some ⟨g, 0, none⟩) L C) := by rw [hLs, hCs, ← a1]; exact hcx.out i (Nat.le_refl _) hlt
          clear hLs hCs a1
          by_cases htl : t < L
          · obtain ⟨s1, s2⟩ := HSL.out wx hkx.out t (.inl htl)
            obtain ⟨vv, hvv⟩ := Option.isSome_iff_exists.1 s1
            have t1 : (0 : Int) ≤ (t : Int) := by omega
            have t2 : (t : Int) < (L : Int) := by omega
            clear s1
            go_wp2_with fail
            go_roundw
            case rel =>
              refine ⟨t + 1, by omega, by go_num, hkx.out.setCell (p := ⟨g, t, none⟩) hXg _, fun j h1 h2 => ?_⟩
              exact set_cell (l := g) (p := t) (hcx.out j h1 h2) (fun e => hgl e.symm) _
            case measure => simp [intOf]; omega
          · obtain rfl : t = L := by omega
            have y4 := fun o => held x4 (below_alloc wx o)
            have cj := fun o => held ck (below_alloc wx o)
            have HKX := hkx
            have HLX := hcx
            have HFX : Hid (∀ j, j < n → wx.frozen? ⟨l, j, none⟩ = false) := HFX0.out wx hkx.out
            have HNEW := HNEW.out wx
            have HNEW : Hid (∀ j u, ([.int .u8 98] : List Value)[j]? = some u → (wx.alloc (.cells #[.int .u8 98] 5)).drew.cell? ((⟨wx.heap.size, 0, none⟩ : Addr).add j) = some u) := HNEW
            have hgx : g < wx.heap.size := Nat.lt_of_lt_of_le hgw (Nat.le_trans b0.size hkx.out.only.size)
            clear hkx hcx hk hc z4 ci
            by_cases hroom' : t < C
            · have hroom : t + 1 ≤ C := hroom'
              have HSP : Hid (∀ j, j < ([.int .u8 98] : List Value).length → ((wx.alloc (.cells #[.int .u8 98] 5)).drew.cell? ⟨g, 0 + t * 1 + j, none⟩).isSome = true ∧ (wx.alloc (.cells #[.int .u8 98] 5)).drew.frozen? ⟨g, 0 + t * 1 + j, none⟩ = false) := fun j hj => by
                obtain rfl : j = 0 := by simp at hj; omega
                rw [show 0 + t * 1 + 0 = t by omega]
                obtain ⟨s1, s2⟩ := HSL.out wx HKX.out t (.inr hroom')
                have h1 := (Kp.of_below (X := X) ((below_alloc wx (.cells #[.int .u8 98] 5)).drew)).shape ⟨g, t, none⟩ s1
                exact ⟨h1.1, h1.2.trans s2⟩
              go_wp2_with fail
              refine wp_region_held_drew (S := fun v => v.cell? ⟨w.heap.size, 4, none⟩ = some (.slice (some ⟨l, 0, none⟩) n cl)) (by kernel_rfl) x4 (fun hHeld => ?_)
              refine wpAnyH_take (i := 0) (oi := _) (v := .pointer (some ⟨w.heap.size, 4, none⟩)) rfl (by kernel_rfl) (by kernel_rfl) (by kernel_rfl) (fun _ _ _ h => h) (Or.inl ⟨by rfl, ?_⟩) (by assumption) ?_
              · intro w' hSw
                try dsimp only at hSw
                go_simp <;> first | with_reducible rfl | assumption
              simp only [Act.put]
              refine wpAnyH_take (i := 1) (oi := _) (v := .slice (some ⟨l, 0, none⟩) n cl) rfl (by kernel_rfl) (by kernel_rfl) (by kernel_rfl) (fun _ _ _ h => h) (Or.inl ⟨by rfl, ?_⟩) (by assumption) ?_
              · intro w' hSw
                try dsimp only at hSw
                go_simp <;> first | with_reducible rfl | assumption
              simp only [Act.put]
              refine wpAnyH_take (i := 2) (oi := _) (v := .int .i64 (i : Int)) rfl (by kernel_rfl) (by kernel_rfl) (by kernel_rfl) (fun _ _ _ h => h) (Or.inl ⟨by rfl, ?_⟩) (by assumption) ?_
              · intro w' hSw
                try dsimp only at hSw
                go_simp <;> first | with_reducible rfl | assumption
              simp only [Act.put]
              refine wpAnyH_take (i := 3) (oi := _) (v := .pointer (some ⟨w.heap.size, 4, none⟩)) rfl (by kernel_rfl) (by kernel_rfl) (by kernel_rfl) (fun _ _ _ h => h) (Or.inl ⟨by rfl, ?_⟩) (by assumption) ?_
              · intro w' hSw
                try dsimp only at hSw
                go_simp <;> first | with_reducible rfl | assumption
              simp only [Act.put]
              refine wpAnyH_take (i := 4) (oi := _) (v := .slice (some ⟨l, 0, none⟩) n cl) rfl (by kernel_rfl) (by kernel_rfl) (by kernel_rfl) (fun _ _ _ h => h) (Or.inl ⟨by rfl, ?_⟩) (by assumption) ?_
              · intro w' hSw
                try dsimp only at hSw
                go_simp <;> first | with_reducible rfl | assumption
              simp only [Act.put]
              refine wpAnyH_take (i := 5) (oi := _) (v := .int .i64 (i : Int)) rfl (by kernel_rfl) (by kernel_rfl) (by kernel_rfl) (fun _ _ _ h => h) (Or.inl ⟨by rfl, ?_⟩) (by assumption) ?_
              · intro w' hSw
                try dsimp only at hSw
                go_simp <;> first | with_reducible rfl | assumption
              simp only [Act.put]
              refine wpAnyH_take (i := 6) (oi := _) (v := .pointer (some ⟨l, i, none⟩)) rfl (by kernel_rfl) (by kernel_rfl) (by kernel_rfl) (fun _ _ _ h => h) (Or.inl ⟨by rfl, ?_⟩) (by assumption) ?_
              · intro w' hSw
                try dsimp only at hSw
                go_simp <;> first | with_reducible rfl | assumption
              simp only [Act.put]
              refine wpAnyH_ready (rs := [7, 8]) (by kernel_rfl) (by simp) ?_
              refine AllReadyH.cons (o := _) rfl (fun K hK => ?_) (AllReadyH.cons (o := _) rfl (fun K hK => ?_) AllReadyH.nil)
              · go_simp
                refine hK.out _ _ x4 (fun hHeld => ?_)
                clear hK K
                try simp only [Act.put]
                refine wpAnyH_ready (rs := [8]) (by kernel_rfl) (by simp) ?_
                refine AllReadyH.cons (o := _) rfl (fun K hK => ?_) AllReadyH.nil
                go_simp
                refine hK.out _ _ (y4 _) (fun hHeld => ?_)
                clear hK K
                try simp only [Act.put]
                refine wpAnyH_ready (rs := [9]) (by kernel_rfl) (by simp) ?_
                refine AllReadyH.cons (o := _) rfl (fun K hK => ?_) AllReadyH.nil
                refine Go.step_append_room (by rfl) (.tmp 35) (.tmp 36) 43 (by rfl) 5 i0 1 Try.underlying43 hinf hz1 g 0 t C (by simp [Act.eval]) ⟨wx.heap.size, 0, none⟩ 1 1 [.int .u8 98] (by simp [Act.eval]) (by rfl) HNEW.out (by simp [Value.oneCell']) hroom HSP.out ?_
                obtain ⟨w9, hw9⟩ : ∃ w9, w9 = (wx.alloc (.cells #[.int .u8 98] 5)).drew.setCells g (0 + t * 1) [.int .u8 98] := ⟨_, rfl⟩
                rw [← hw9]
                have HK9 : Hid (Kp X wx w9) := by rw [hw9]; exact Kp.setCells hXg _ _ (Kp.of_below ((below_alloc wx _).drew))
                have e1 : w9.cell? ⟨w.heap.size, 4, none⟩ = some (.slice (some ⟨l, 0, none⟩) n cl) := HK9.out.only.cell x4 hXb
                have HC9 : Hid (∀ j, i ≤ j → j < n → w9.cell? ⟨l, j, none⟩ = some (.slice (A j) (Ls j) (Cs j))) := fun j h1 h2 => by
                  have h3 : (wx.alloc (.cells #[.int .u8 98] 5)).drew.cell? ⟨l, j, none⟩ = some (.slice (A j) (Ls j) (Cs j)) := held (HLX.out j h1 h2) (below_alloc wx _).drew
                  rw [hw9, World.cell?_setCells_out _ _ _ _ _ (fun h _ => absurd (show l = g from h) (fun e => hgl e.symm))]
                  exact h3
                have e2 : w9.cell? ⟨l, i, none⟩ = some (.slice (A i) (Ls i) (Cs i)) := HC9.out i (Nat.le_refl _) hlt
                have ef : w9.frozen? ⟨l, i, none⟩ = false := by rw [(HK9.out.shape ⟨l, i, none⟩ (by rw [HLX.out i (Nat.le_refl _) hlt]; rfl)).2]; exact HFX.out i hlt
                have e3 : ∀ u, (w9.setCell ⟨l, i, none⟩ u).cell? ⟨w.heap.size, 4, none⟩ = some (.slice (some ⟨l, 0, none⟩) n cl) := fun u => set_cell e1 (by show w.heap.size ≠ l; omega) u
                have hin9 : i < n := hlt
                clear hw9
                refine hK.out _ _ e1 (fun hHeld => ?_)
                clear hK K
                try simp only [Act.put]
                refine wpAnyH_take (i := 10) (oi := _) (v := .pointer (some ⟨l, i, none⟩)) rfl (by kernel_rfl) (by kernel_rfl) (by kernel_rfl) (fun _ _ _ h => h) (Or.inl ⟨by rfl, ?_⟩) (by assumption) ?_
                · intro w' hSw
                  try dsimp only at hSw
                  go_simp <;> first | with_reducible rfl | assumption
                simp only [Act.put]
                refine wpAnyH_ready (rs := [11]) (by kernel_rfl) (by simp) ?_
                refine AllReadyH.cons (o := _) rfl (fun K hK => ?_) AllReadyH.nil
                go_simp
                refine hK.out _ _ (e3 _) (fun hHeld => ?_)
                clear hK K
                try simp only [Act.put]
                refine wpAnyH_done (by kernel_rfl) ?_ _
                go_wp2_with fail
                go_roundw
                case rel => exact ⟨i + 1, by omega, by go_num, spl_next HKX.out HK9.out HLX.out HC9.out HOWN.out hin9⟩
                case measure => simp [intOf]; omega
              · go_simp
                refine hK.out _ _ (y4 _) (fun hHeld => ?_)
                clear hK K
                try simp only [Act.put]
                refine wpAnyH_ready (rs := [7]) (by kernel_rfl) (by simp) ?_
                refine AllReadyH.cons (o := _) rfl (fun K hK => ?_) AllReadyH.nil
                go_simp
                refine hK.out _ _ (y4 _) (fun hHeld => ?_)
                clear hK K
                try simp only [Act.put]
                refine wpAnyH_ready (rs := [9]) (by kernel_rfl) (by simp) ?_
                refine AllReadyH.cons (o := _) rfl (fun K hK => ?_) AllReadyH.nil
                refine Go.step_append_room (by rfl) (.tmp 35) (.tmp 36) 43 (by rfl) 5 i0 1 Try.underlying43 hinf hz1 g 0 t C (by simp [Act.eval]) ⟨wx.heap.size, 0, none⟩ 1 1 [.int .u8 98] (by simp [Act.eval]) (by rfl) HNEW.out (by simp [Value.oneCell']) hroom HSP.out ?_
                obtain ⟨w9, hw9⟩ : ∃ w9, w9 = (wx.alloc (.cells #[.int .u8 98] 5)).drew.setCells g (0 + t * 1) [.int .u8 98] := ⟨_, rfl⟩
                rw [← hw9]
                have HK9 : Hid (Kp X wx w9) := by rw [hw9]; exact Kp.setCells hXg _ _ (Kp.of_below ((below_alloc wx _).drew))
                have e1 : w9.cell? ⟨w.heap.size, 4, none⟩ = some (.slice (some ⟨l, 0, none⟩) n cl) := HK9.out.only.cell x4 hXb
                have HC9 : Hid (∀ j, i ≤ j → j < n → w9.cell? ⟨l, j, none⟩ = some (.slice (A j) (Ls j) (Cs j))) := fun j h1 h2 => by
                  have h3 : (wx.alloc (.cells #[.int .u8 98] 5)).drew.cell? ⟨l, j, none⟩ = some (.slice (A j) (Ls j) (Cs j)) := held (HLX.out j h1 h2) (below_alloc wx _).drew
                  rw [hw9, World.cell?_setCells_out _ _ _ _ _ (fun h _ => absurd (show l = g from h) (fun e => hgl e.symm))]
                  exact h3
                have e2 : w9.cell? ⟨l, i, none⟩ = some (.slice (A i) (Ls i) (Cs i)) := HC9.out i (Nat.le_refl _) hlt
                have ef : w9.frozen? ⟨l, i, none⟩ = false := by rw [(HK9.out.shape ⟨l, i, none⟩ (by rw [HLX.out i (Nat.le_refl _) hlt]; rfl)).2]; exact HFX.out i hlt
                have e3 : ∀ u, (w9.setCell ⟨l, i, none⟩ u).cell? ⟨w.heap.size, 4, none⟩ = some (.slice (some ⟨l, 0, none⟩) n cl) := fun u => set_cell e1 (by show w.heap.size ≠ l; omega) u
                have hin9 : i < n := hlt
                clear hw9
                refine hK.out _ _ e1 (fun hHeld => ?_)
                clear hK K
                try simp only [Act.put]
                refine wpAnyH_take (i := 10) (oi := _) (v := .pointer (some ⟨l, i, none⟩)) rfl (by kernel_rfl) (by kernel_rfl) (by kernel_rfl) (fun _ _ _ h => h) (Or.inl ⟨by rfl, ?_⟩) (by assumption) ?_
                · intro w' hSw
                  try dsimp only at hSw
                  go_simp <;> first | with_reducible rfl | assumption
                simp only [Act.put]
                refine wpAnyH_ready (rs := [11]) (by kernel_rfl) (by simp) ?_
                refine AllReadyH.cons (o := _) rfl (fun K hK => ?_) AllReadyH.nil
                go_simp
                refine hK.out _ _ (e3 _) (fun hHeld => ?_)
                clear hK K
                try simp only [Act.put]
                refine wpAnyH_done (by kernel_rfl) ?_ _
                go_wp2_with fail
                go_roundw
                case rel => exact ⟨i + 1, by omega, by go_num, spl_next HKX.out HK9.out HLX.out HC9.out HOWN.out hin9⟩
                case measure => simp [intOf]; omega
            · obtain ⟨OLD, hOLD⟩ : ∃ OLD : List Value, OLD.length = t * 1 ∧ ∀ j u, OLD[j]? = some u → wx.cell? ⟨g, j, none⟩ = some u := by
                refine ⟨(List.range t).map fun j => (wx.cell? ⟨g, j, none⟩).getD undef, by simp, fun j u hu => ?_⟩
                have hj : j < t := by
                  rcases Nat.lt_or_ge j t with h | h
                  · exact h
                  · rw [List.getElem?_eq_none (by simpa using h)] at hu; cases hu
                obtain ⟨s1, _⟩ := HSL.out wx HKX.out j (.inl hj)
                obtain ⟨vv, hvv⟩ := Option.isSome_iff_exists.1 s1
                simp [hj, hvv] at hu
                rw [hvv, hu]
              have hol := hOLD.1
              have HOL : Hid (∀ b, some (⟨g, 0, none⟩ : Addr) = some b → ∀ j u, OLD[j]? = some u → (wx.alloc (.cells #[.int .u8 98] 5)).drew.cell? (b.add j) = some u) := fun b e j u hu => by
                cases e
                rw [Addr.add_lit, Nat.zero_add]
                exact held (hOLD.2 j u hu) (below_alloc wx _).drew
              have hfull : C < t + 1 := by omega
              clear hOLD
              go_wp2_with fail
              refine wp_region_held_drew (S := fun v => v.cell? ⟨w.heap.size, 4, none⟩ = some (.slice (some ⟨l, 0, none⟩) n cl)) (by kernel_rfl) x4 (fun hHeld => ?_)
              refine wpAnyH_take (i := 0) (oi := _) (v := .pointer (some ⟨w.heap.size, 4, none⟩)) rfl (by kernel_rfl) (by kernel_rfl) (by kernel_rfl) (fun _ _ _ h => h) (Or.inl ⟨by rfl, ?_⟩) (by assumption) ?_
              · intro w' hSw
                try dsimp only at hSw
                go_simp <;> first | with_reducible rfl | assumption
              simp only [Act.put]
              refine wpAnyH_take (i := 1) (oi := _) (v := .slice (some ⟨l, 0, none⟩) n cl) rfl (by kernel_rfl) (by kernel_rfl) (by kernel_rfl) (fun _ _ _ h => h) (Or.inl ⟨by rfl, ?_⟩) (by assumption) ?_
              · intro w' hSw
                try dsimp only at hSw
                go_simp <;> first | with_reducible rfl | assumption
              simp only [Act.put]
              refine wpAnyH_take (i := 2) (oi := _) (v := .int .i64 (i : Int)) rfl (by kernel_rfl) (by kernel_rfl) (by kernel_rfl) (fun _ _ _ h => h) (Or.inl ⟨by rfl, ?_⟩) (by assumption) ?_
              · intro w' hSw
                try dsimp only at hSw
                go_simp <;> first | with_reducible rfl | assumption
              simp only [Act.put]
              refine wpAnyH_take (i := 3) (oi := _) (v := .pointer (some ⟨w.heap.size, 4, none⟩)) rfl (by kernel_rfl) (by kernel_rfl) (by kernel_rfl) (fun _ _ _ h => h) (Or.inl ⟨by rfl, ?_⟩) (by assumption) ?_
              · intro w' hSw
                try dsimp only at hSw
                go_simp <;> first | with_reducible rfl | assumption
              simp only [Act.put]
              refine wpAnyH_take (i := 4) (oi := _) (v := .slice (some ⟨l, 0, none⟩) n cl) rfl (by kernel_rfl) (by kernel_rfl) (by kernel_rfl) (fun _ _ _ h => h) (Or.inl ⟨by rfl, ?_⟩) (by assumption) ?_
              · intro w' hSw
                try dsimp only at hSw
                go_simp <;> first | with_reducible rfl | assumption
              simp only [Act.put]
              refine wpAnyH_take (i := 5) (oi := _) (v := .int .i64 (i : Int)) rfl (by kernel_rfl) (by kernel_rfl) (by kernel_rfl) (fun _ _ _ h => h) (Or.inl ⟨by rfl, ?_⟩) (by assumption) ?_
              · intro w' hSw
                try dsimp only at hSw
                go_simp <;> first | with_reducible rfl | assumption
              simp only [Act.put]
              refine wpAnyH_take (i := 6) (oi := _) (v := .pointer (some ⟨l, i, none⟩)) rfl (by kernel_rfl) (by kernel_rfl) (by kernel_rfl) (fun _ _ _ h => h) (Or.inl ⟨by rfl, ?_⟩) (by assumption) ?_
              · intro w' hSw
                try dsimp only at hSw
                go_simp <;> first | with_reducible rfl | assumption
              simp only [Act.put]
              refine wpAnyH_ready (rs := [7, 8]) (by kernel_rfl) (by simp) ?_
              refine AllReadyH.cons (o := _) rfl (fun K hK => ?_) (AllReadyH.cons (o := _) rfl (fun K hK => ?_) AllReadyH.nil)
              · go_simp
                refine hK.out _ _ x4 (fun hHeld => ?_)
                clear hK K
                try simp only [Act.put]
                refine wpAnyH_ready (rs := [8]) (by kernel_rfl) (by simp) ?_
                refine AllReadyH.cons (o := _) rfl (fun K hK => ?_) AllReadyH.nil
                go_simp
                refine hK.out _ _ (y4 _) (fun hHeld => ?_)
                clear hK K
                try simp only [Act.put]
                refine wpAnyH_ready (rs := [9]) (by kernel_rfl) (by simp) ?_
                refine AllReadyH.cons (o := _) rfl (fun K hK => ?_) AllReadyH.nil
                refine Go.step_append_grows (by rfl) (.tmp 35) (.tmp 36) 43 (by rfl) 5 i0 (.int .u8 0) 1 1 Try.underlying43 hinf hz0 hz1 hz2 (by rfl) (by decide) (some ⟨g, 0, none⟩) t C OLD (by simp [Act.eval]) (fun e => by cases e) hol HOL.out ⟨wx.heap.size, 0, none⟩ 1 1 [.int .u8 98] (by simp [Act.eval]) (by rfl) HNEW.out (by simp [Value.oneCell']) hfull (by unfold maxLen; omega) (by omega) ?_
                intro v' w9 hown9 hgrow9
                obtain ⟨ga, gn, gc, rfl⟩ : ∃ ga gn gc, v' = .slice ga gn gc := by
                  rcases hown9.2 with ⟨rfl, _⟩ | ⟨g', cap', cur', rfl, _⟩
                  · exact ⟨_, _, _, rfl⟩
                  · exact ⟨_, _, _, rfl⟩
                clear hown9
                have HB9 : Hid (Below wx.heap.size wx w9) := (((Below.refl wx.heap.size wx).alloc (Nat.le_refl _) _).drew).grown hgrow9 (by show _ ≤ (wx.alloc _).heap.size; simp) (fun r hr => by cases hr)
                have HK9 : Hid (Kp X wx w9) := Kp.of_below HB9.out
                have e1 : w9.cell? ⟨w.heap.size, 4, none⟩ = some (.slice (some ⟨l, 0, none⟩) n cl) := held x4 HB9.out
                have HC9 : Hid (∀ j, i ≤ j → j < n → w9.cell? ⟨l, j, none⟩ = some (.slice (A j) (Ls j) (Cs j))) := fun j h1 h2 => held (HLX.out j h1 h2) HB9.out
                have e2 : w9.cell? ⟨l, i, none⟩ = some (.slice (A i) (Ls i) (Cs i)) := HC9.out i (Nat.le_refl _) hlt
                have ef : w9.frozen? ⟨l, i, none⟩ = false := by rw [(HK9.out.shape ⟨l, i, none⟩ (by rw [HLX.out i (Nat.le_refl _) hlt]; rfl)).2]; exact HFX.out i hlt
                have e3 : ∀ u, (w9.setCell ⟨l, i, none⟩ u).cell? ⟨w.heap.size, 4, none⟩ = some (.slice (some ⟨l, 0, none⟩) n cl) := fun u => set_cell e1 (by show w.heap.size ≠ l; omega) u
                have hin9 : i < n := hlt
                clear hgrow9
                refine hK.out _ _ e1 (fun hHeld => ?_)
                clear hK K
                try simp only [Act.put]
                refine wpAnyH_take (i := 10) (oi := _) (v := .pointer (some ⟨l, i, none⟩)) rfl (by kernel_rfl) (by kernel_rfl) (by kernel_rfl) (fun _ _ _ h => h) (Or.inl ⟨by rfl, ?_⟩) (by assumption) ?_
                · intro w' hSw
                  try dsimp only at hSw
                  go_simp <;> first | with_reducible rfl | assumption
                simp only [Act.put]
                refine wpAnyH_ready (rs := [11]) (by kernel_rfl) (by simp) ?_
                refine AllReadyH.cons (o := _) rfl (fun K hK => ?_) AllReadyH.nil
                go_simp
                refine hK.out _ _ (e3 _) (fun hHeld => ?_)
                clear hK K
                try simp only [Act.put]
                refine wpAnyH_done (by kernel_rfl) ?_ _
                go_wp2_with fail
                go_roundw
                case rel => exact ⟨i + 1, by omega, by go_num, spl_next HKX.out HK9.out HLX.out HC9.out HOWN.out hin9⟩
                case measure => simp [intOf]; omega
              · go_simp
                refine hK.out _ _ (y4 _) (fun hHeld => ?_)
                clear hK K
                try simp only [Act.put]
                refine wpAnyH_ready (rs := [7]) (by kernel_rfl) (by simp) ?_
                refine AllReadyH.cons (o := _) rfl (fun K hK => ?_) AllReadyH.nil
                go_simp
                refine hK.out _ _ (y4 _) (fun hHeld => ?_)
                clear hK K
                try simp only [Act.put]
                refine wpAnyH_ready (rs := [9]) (by kernel_rfl) (by simp) ?_
                refine AllReadyH.cons (o := _) rfl (fun K hK => ?_) AllReadyH.nil
                refine Go.step_append_grows (by rfl) (.tmp 35) (.tmp 36) 43 (by rfl) 5 i0 (.int .u8 0) 1 1 Try.underlying43 hinf hz0 hz1 hz2 (by rfl) (by decide) (some ⟨g, 0, none⟩) t C OLD (by simp [Act.eval]) (fun e => by cases e) hol HOL.out ⟨wx.heap.size, 0, none⟩ 1 1 [.int .u8 98] (by simp [Act.eval]) (by rfl) HNEW.out (by simp [Value.oneCell']) hfull (by unfold maxLen; omega) (by omega) ?_
                intro v' w9 hown9 hgrow9
                obtain ⟨ga, gn, gc, rfl⟩ : ∃ ga gn gc, v' = .slice ga gn gc := by
                  rcases hown9.2 with ⟨rfl, _⟩ | ⟨g', cap', cur', rfl, _⟩
                  · exact ⟨_, _, _, rfl⟩
                  · exact ⟨_, _, _, rfl⟩
                clear hown9
                have HB9 : Hid (Below wx.heap.size wx w9) := (((Below.refl wx.heap.size wx).alloc (Nat.le_refl _) _).drew).grown hgrow9 (by show _ ≤ (wx.alloc _).heap.size; simp) (fun r hr => by cases hr)
                have HK9 : Hid (Kp X wx w9) := Kp.of_below HB9.out
                have e1 : w9.cell? ⟨w.heap.size, 4, none⟩ = some (.slice (some ⟨l, 0, none⟩) n cl) := held x4 HB9.out
                have HC9 : Hid (∀ j, i ≤ j → j < n → w9.cell? ⟨l, j, none⟩ = some (.slice (A j) (Ls j) (Cs j))) := fun j h1 h2 => held (HLX.out j h1 h2) HB9.out
                have e2 : w9.cell? ⟨l, i, none⟩ = some (.slice (A i) (Ls i) (Cs i)) := HC9.out i (Nat.le_refl _) hlt
                have ef : w9.frozen? ⟨l, i, none⟩ = false := by rw [(HK9.out.shape ⟨l, i, none⟩ (by rw [HLX.out i (Nat.le_refl _) hlt]; rfl)).2]; exact HFX.out i hlt
                have e3 : ∀ u, (w9.setCell ⟨l, i, none⟩ u).cell? ⟨w.heap.size, 4, none⟩ = some (.slice (some ⟨l, 0, none⟩) n cl) := fun u => set_cell e1 (by show w.heap.size ≠ l; omega) u
                have hin9 : i < n := hlt
                clear hgrow9
                refine hK.out _ _ e1 (fun hHeld => ?_)
                clear hK K
                try simp only [Act.put]
                refine wpAnyH_take (i := 10) (oi := _) (v := .pointer (some ⟨l, i, none⟩)) rfl (by kernel_rfl) (by kernel_rfl) (by kernel_rfl) (fun _ _ _ h => h) (Or.inl ⟨by rfl, ?_⟩) (by assumption) ?_
                · intro w' hSw
                  try dsimp only at hSw
                  go_simp <;> first | with_reducible rfl | assumption
                simp only [Act.put]
                refine wpAnyH_ready (rs := [11]) (by kernel_rfl) (by simp) ?_
                refine AllReadyH.cons (o := _) rfl (fun K hK => ?_) AllReadyH.nil
                go_simp
                refine hK.out _ _ (e3 _) (fun hHeld => ?_)
                clear hK K
                try simp only [Act.put]
                refine wpAnyH_done (by kernel_rfl) ?_ _
                go_wp2_with fail
                go_roundw
                case rel => exact ⟨i + 1, by omega, by go_num, spl_next HKX.out HK9.out HLX.out HC9.out HOWN.out hin9⟩
                case measure => simp [intOf]; omega
    · obtain rfl : i = n := by omega
      go_wp2_with fail
      refine bodyPost_end (results_none rfl _ _ _) rfl ?_
      exact ⟨rfl, (HK0.out.trans hk.out).only⟩
end Go.Proofs.Ytdicogmjjboilaa
