/- An image behind raw writes, by the program: where all may be. -/
import Derived.Test.YtenlfhdchflnjaaImgF
namespace Go.Proofs.Ytenlfhdchflnjaa
open Go.RowKit

/-- A list of n slots in block l, each in memory of its own from block B on. -/
def ImR (B : Nat) (w : World) (l n : Nat) (A : Nat → Option Addr) (C : Nat → Nat) (F : Nat → List UInt8) : Prop := RSl w (fun b => B ≤ b) l n A C F ∧ ∀ i, i < n → OwC B w (A i) (C i) (F i)
theorem ImR.only {B : Nat} {X : Nat → Prop} {w w' : World} {l n : Nat} {A : Nat → Option Addr} {C : Nat → Nat} {F : Nat → List UInt8} (h : ImR B w l n A C F) (ho : Only X w w') (hx : ∀ b, B ≤ b → ¬ X b) : ImR B w' l n A C F :=
  ⟨h.1.only ho hx, fun i hi => (h.2 i hi).stay fun g hg hl => ho.block g hl (hx g hg)⟩
theorem ImR.below {B : Nat} {w w' : World} {l n : Nat} {A : Nat → Option Addr} {C : Nat → Nat} {F : Nat → List UInt8} (h : ImR B w l n A C F) (hb : Below w.heap.size w w') : ImR B w' l n A C F := h.only (X := fun _ => False) (.of_below hb) (fun _ _ h => h)
theorem ImR.mono {B B' : Nat} {w : World} {l n : Nat} {A : Nat → Option Addr} {C : Nat → Nat} {F : Nat → List UInt8} (h : ImR B w l n A C F) (hb : B' ≤ B) : ImR B' w l n A C F := ⟨h.1.mono fun _ h => Nat.le_trans hb h, fun i hi => (h.2 i hi).mono hb⟩
theorem OwC.set {B : Nat} {w : World} {ao : Option Addr} {cp : Nat} {c : List UInt8} (h : OwC B w ao cp c) {l : Nat} (hl : ∀ a, ao = some a → a.block ≠ l) (i : Nat) (u : Value) : OwC B (w.setCell ⟨l, i, none⟩ u) ao cp c := by
  rcases h with h | ⟨g, rfl, hB, h1, h2, hg⟩
  · exact .inl h
  · exact .inr ⟨g, rfl, hB, h1, h2, (Below.heap_setCell _ _ _ _ (hl ⟨g, 0, none⟩ rfl)).trans hg⟩
theorem ImR.put {B : Nat} {w : World} {l n : Nat} {A : Nat → Option Addr} {C : Nat → Nat} {F : Nat → List UInt8} (h : ImR B w l n A C F) (i : Nat) {ao : Option Addr} {cp : Nat} {x : List UInt8} (ho : OwC B w ao cp x) (hl : ∀ a, ao = some a → a.block ≠ l) :
    ImR B (w.setCell ⟨l, i, none⟩ (.slice ao x.length cp)) l n (upd i ao A) (upd i cp C) (upd i x F) := by
  refine ⟨h.1.put i ao cp x ho.rd (fun a ha => ⟨(ho.at_ ha).1, hl a ha⟩) ho.nil, fun j hj => ?_⟩
  by_cases e : j = i
  · subst e; rw [upd_at, upd_at, upd_at]; exact ho.set hl _ _
  · rw [upd_ne _ _ e, upd_ne _ _ e, upd_ne _ _ e]; exact (h.2 j hj).set (fun a ha => (h.1.at_ j a hj ha).2) _ _
section
variable {k r c q : Int} {n : Nat} {F : Nat → List UInt8} {D : Nat → Pt} {ln : Nat} {N Q S : Nat} {Z : Nat → Prop}
set_option maxHeartbeats 2000000 in
set_option maxRecDepth 100000 in
theorem After_ok (hck : Ck k r c q n F 0 N Q S) (hln : ln ≤ 65536) (ht : ∀ i, i < ln → takB N Q S (D i) = true) (m : Nat) (hm : m ≤ ln) (lo : Option Addr) (cl : Nat) (A : Nat → Option Addr) (C : Nat → Nat) (po : Option Addr) (pc : Nat) (B : Nat → Option Addr) (K : Nat → Nat) (w : World) (hl : Lst w lo n A C F) (hp : Pts w Z po ln D B K) (hpc : ln ≤ pc) :
    Calls Try.prog 13 #[.agg #[.int .i64 k, .int .i64 r, .int .i64 c, .int .i64 q, .slice lo n cl], .slice po ln pc, .int .i64 (m : Int)] w fun e w' => ∃ lo' A' C', e = .returned (.tuple #[.agg #[.int .i64 k, .int .i64 r, .int .i64 c, .int .i64 q, .slice lo' n n], .int .i64 0]) ∧ Im w.heap.size w' lo' n A' C' (aft Q D m F) ∧ Below w.heap.size w w' := by
  obtain ⟨hpm, hne, hfit⟩ := hck.ok rfl
  obtain ⟨hN1, hN2, hQ1, hQ, hS1, hS2, hn1, hn2⟩ := hpm.bounds
  rw [← hne] at hn1 hn2
  have HNE : Hid (n = N * Q * 2) := hne
  have hsl : ∀ i, i < n → (F i).length ≤ 1000000 := fun i hi => by have := hfit i hi; omega
  have HSL : Hid (∀ i, i < n → (F i).length ≤ 1000000) := hsl
  have HTK : Hid (∀ i, i < ln → takB N Q S (D i) = true) := ht
  have HLL : Hid (Lst w lo n A C F) := hl
  obtain ⟨w0, hw0⟩ : ∃ w0, w0 = w.alloc (.cells #[.int .i64 k, .int .i64 r, .int .i64 c, .int .i64 q, .slice lo n cl] 27) := ⟨_, rfl⟩
  obtain ⟨w1, hw1⟩ : ∃ w1, w1 = w0.alloc (.cells #[.int .i64 0, .int .i64 0, .int .i64 0, .int .i64 0, .slice none 0 0] 27) := ⟨_, rfl⟩
  have b0 : Below w.heap.size w w0 := by rw [hw0]; exact below_alloc _ _
  have b1 : Below w0.heap.size w0 w1 := by rw [hw1]; exact below_alloc _ _
  have z0 : w0.heap.size = w.heap.size + 1 := by rw [hw0]; simp
  have z1 : w.heap.size + 2 ≤ w1.heap.size := by rw [hw1]; simp; omega
  have SH : Hid (∀ v, Below w1.heap.size w1 v → v.cell? ⟨w.heap.size, 0, none⟩ = some (.int .i64 k) ∧ v.cell? ⟨w.heap.size, 1, none⟩ = some (.int .i64 r) ∧ v.cell? ⟨w.heap.size, 2, none⟩ = some (.int .i64 c) ∧ v.cell? ⟨w.heap.size, 3, none⟩ = some (.int .i64 q) ∧ v.cell? ⟨w.heap.size, 4, none⟩ = some (.slice lo n cl)) := fun v hv => img_held hw0 (below_then b1 hv)
  have MH : Hid (∀ v, Below w1.heap.size w1 v → (v.cell? ⟨w.heap.size + 1, 0, none⟩ = some (.int .i64 0) ∧ v.cell? ⟨w.heap.size + 1, 1, none⟩ = some (.int .i64 0) ∧ v.cell? ⟨w.heap.size + 1, 2, none⟩ = some (.int .i64 0) ∧ v.cell? ⟨w.heap.size + 1, 3, none⟩ = some (.int .i64 0) ∧ v.cell? ⟨w.heap.size + 1, 4, none⟩ = some (.slice none 0 0)) ∧ ∀ i, v.frozen? ⟨w.heap.size + 1, i, none⟩ = false) := fun v hv => by rw [← z0]; exact ⟨img_held hw1 hv, blk_free hw1 hv⟩
  have HB1 : Hid (Below w.heap.size w w1) := below_then b0 b1
  have HC := checked_any hck lo cl A C w1 (hl.below HB1.out)
  have hl2 : ¬ (65536 : Int) < (ln : Int) := by omega
  have HP : Hid (Pts w Z po ln D B K) := hp
  have hm1 : ¬ (m : Int) < 0 := by omega
  have hm2 : ¬ (ln : Int) < (m : Int) := by omega
  clear hck hl hp hpm hne hfit hsl
  go_enter Try.func13, Try.ntmps13
  go_wp2_with fail
  rw [← hw0, ← hw1]
  clear hw0 hw1 b0 b1 z0
  refine HC.mono ?_
  rintro e wa ⟨rfl, ha⟩
  obtain ⟨wb, hwb⟩ : ∃ wb, wb = wa.alloc (.cells #[.int .i64 (N : Int), .int .i64 (Q : Int), .int .i64 (S : Int)] 64) := ⟨_, rfl⟩
  have hab : Below wa.heap.size wa wb := by rw [hwb]; exact below_alloc _ _
  have HBb : Hid (Below w1.heap.size w1 wb) := below_then ha hab
  have SP : Hid (∀ v, Below wb.heap.size wb v → v.cell? ⟨wa.heap.size, 0, none⟩ = some (.int .i64 (N : Int)) ∧ v.cell? ⟨wa.heap.size, 1, none⟩ = some (.int .i64 (Q : Int)) ∧ v.cell? ⟨wa.heap.size, 2, none⟩ = some (.int .i64 (S : Int))) := fun v hv => shp_held hwb hv
  have HT := takesAll_any N Q S po ln pc D B K (by omega) wb (HP.out.below (below_then HB1.out HBb.out)) true (.inl ⟨rfl, ht⟩)
  clear HC ha
  go_wp2_with fail
  rw [← hwb]
  clear hwb hab
  refine HT.mono ?_
  rintro e wc ⟨rfl, hc⟩
  have HBc : Hid (Below w1.heap.size w1 wc) := below_then HBb.out hc
  obtain ⟨s0, s1, s2, s3, s4⟩ := SH.out wc HBc.out
  have HCI := copiedImage_any k r c q wc lo n cl A C F (by omega) (HLL.out.below (below_then HB1.out HBc.out)) HSL.out
  have SPc := SP.out wc hc
  have zc1 := HBb.out.size
  have zbc := hc.size
  have zca := World.block_lt_of_cell? wc _ SPc.1
  have HHC : Hid (Below wb.heap.size wb wc) := hc
  simp only at zca
  clear HT hc ht SPc
  go_wp2_with fail
  refine HCI.mono ?_
  rintro e wd ⟨l, A1, C1, rfl, h1, h2, hd⟩
  obtain ⟨we, hwe⟩ : ∃ we, we = wd.alloc (.cells #[.int .i64 k, .int .i64 r, .int .i64 c, .int .i64 q, .slice (some ⟨l, 0, none⟩) n n] 27) := ⟨_, rfl⟩
  have bde : Below wd.heap.size wd we := by rw [hwe]; exact below_alloc _ _
  have hcd := hd.size
  have zde : wd.heap.size < we.heap.size := by rw [hwe]; simp
  have hlc : wc.heap.size ≤ l := h1.own
  have hld : l < wd.heap.size := World.block_lt_of_cell? wd _ (h1.cell 0 (by omega))
  have HIR : Hid (ImR wc.heap.size we l n A1 C1 F) := (show ImR wc.heap.size wd l n A1 C1 F from ⟨h1, h2⟩).below bde
  have HWC : Hid (Below wc.heap.size wc we) := below_then hd bde
  have HWE : Hid (Below w.heap.size w we) := below_then HB1.out (below_then HBc.out HWC.out)
  have HVE : Hid (Blk we wd.heap.size 27 [.int .i64 k, .int .i64 r, .int .i64 c, .int .i64 q, .slice (some ⟨l, 0, none⟩) n n]) := by rw [hwe]; exact blk_new wd 27 _
  have SM : Hid (∀ v, Only (fun b => b = l) we v → (v.cell? ⟨w.heap.size + 1, 0, none⟩ = some (.int .i64 0) ∧ v.cell? ⟨w.heap.size + 1, 1, none⟩ = some (.int .i64 0) ∧ v.cell? ⟨w.heap.size + 1, 2, none⟩ = some (.int .i64 0) ∧ v.cell? ⟨w.heap.size + 1, 3, none⟩ = some (.int .i64 0) ∧ v.cell? ⟨w.heap.size + 1, 4, none⟩ = some (.slice none 0 0)) ∧ ∀ i, v.frozen? ⟨w.heap.size + 1, i, none⟩ = false) := fun v hv => by
    obtain ⟨⟨a0, a1, a2, a3, a4⟩, a5⟩ := MH.out we (below_then HBc.out HWC.out)
    have hne : ¬ (w.heap.size + 1 = l) := by omega
    exact ⟨⟨hv.cell a0 hne, hv.cell a1 hne, hv.cell a2 hne, hv.cell a3 hne, hv.cell a4 hne⟩, fun i => (World.frozen?_of_block (a := ⟨w.heap.size + 1, i, none⟩) (hv.block (w.heap.size + 1) (by omega) hne)).trans (a5 i)⟩
  have SV : Hid (∀ v, Only (fun b => b = l) we v → Blk v wd.heap.size 27 [.int .i64 k, .int .i64 r, .int .i64 c, .int .i64 q, .slice (some ⟨l, 0, none⟩) n n]) := fun v hv => HVE.out.only hv (by omega)
  have SS : Hid (∀ v, Only (fun b => b = l) we v → v.cell? ⟨wa.heap.size, 0, none⟩ = some (.int .i64 (N : Int)) ∧ v.cell? ⟨wa.heap.size, 1, none⟩ = some (.int .i64 (Q : Int)) ∧ v.cell? ⟨wa.heap.size, 2, none⟩ = some (.int .i64 (S : Int))) := fun v hv => by
    obtain ⟨a0, a1, a2⟩ := SP.out we (below_then HHC.out HWC.out)
    have hne : ¬ (wa.heap.size = l) := by omega
    exact ⟨hv.cell a0 hne, hv.cell a1 hne, hv.cell a2 hne⟩
  clear HCI h1 h2 hd bde s0 s1 s2 s3 s4 hm1 hm2 hl2
  by_cases h0 : ln = 0
  · obtain rfl : m = 0 := by omega
    by_cases hpc0 : pc = 0
    · go_wp2_with fail
      rw [← hwe]
      clear hwe
      go_loopw [12, 50] (fun _ x wr => ∃ i : Nat, i ≤ 0 ∧ x = .int .i64 i ∧ Hid (∃ A' C', ImR wc.heap.size wr l n A' C' (aft Q D i F)) ∧ Hid (Only (fun b => b = l) we wr)) (fun _ x _ => 0 - (intOf x).toNat)
      case atStart => exact ⟨0, Nat.zero_le _, rfl, ⟨_, _, HIR.out⟩, Only.refl _ _⟩
      case round =>
        obtain ⟨i, hi, rfl, hs, hb⟩ := hrel
        have hbw : Below w.heap.size w wr := HWE.out.trans (hb.out.below (fun i h => by omega) (by omega))
        by_cases hlt : i < 0
        · exact absurd hlt (by omega)
        · obtain rfl : i = 0 := by omega
          obtain ⟨⟨m0, m1, m2, m3, m4⟩, m5⟩ := SM.out wr hb.out
          have hv := SV.out wr hb.out
          have v0 : wr.cell? ⟨wd.heap.size, 0, none⟩ = some (.int .i64 k) := hv.cell rfl
          have v1 : wr.cell? ⟨wd.heap.size, 1, none⟩ = some (.int .i64 r) := hv.cell rfl
          have v2 : wr.cell? ⟨wd.heap.size, 2, none⟩ = some (.int .i64 c) := hv.cell rfl
          have v3 : wr.cell? ⟨wd.heap.size, 3, none⟩ = some (.int .i64 q) := hv.cell rfl
          have v4 : wr.cell? ⟨wd.heap.size, 4, none⟩ = some (.slice (some ⟨l, 0, none⟩) n n) := hv.cell rfl
          clear hv
          go_wp2_with fail
          refine bodyPost_ret (v := .tuple #[.agg #[.int .i64 k, .int .i64 r, .int .i64 c, .int .i64 q, .slice (some ⟨l, 0, none⟩) n n], .int .i64 0]) (by simp [results, Try.results13, go_sem, m0, m1, m2, m3, m4]) rfl ?_
          obtain ⟨A', C', hs1⟩ := hs.out
          have hO := only5 wr (w.heap.size + 1) (.int .i64 k) (.int .i64 r) (.int .i64 c) (.int .i64 q) (.slice (some ⟨l, 0, none⟩) n n)
          have hs2 := hs1.only hO (fun b h => by omega)
          exact ⟨some ⟨l, 0, none⟩, A', C', rfl, .inr ⟨l, rfl, (hs2.mono (by omega)).1, (hs2.mono (by omega)).2⟩, hbw.trans (hO.below (fun b h => by omega) hbw.size)⟩
    · go_wp2_with fail
      rw [← hwe]
      clear hwe
      go_loopw [12, 50] (fun _ x wr => ∃ i : Nat, i ≤ 0 ∧ x = .int .i64 i ∧ Hid (∃ A' C', ImR wc.heap.size wr l n A' C' (aft Q D i F)) ∧ Hid (Only (fun b => b = l) we wr)) (fun _ x _ => 0 - (intOf x).toNat)
      case atStart => exact ⟨0, Nat.zero_le _, rfl, ⟨_, _, HIR.out⟩, Only.refl _ _⟩
      case round =>
        obtain ⟨i, hi, rfl, hs, hb⟩ := hrel
        have hbw : Below w.heap.size w wr := HWE.out.trans (hb.out.below (fun i h => by omega) (by omega))
        by_cases hlt : i < 0
        · exact absurd hlt (by omega)
        · obtain rfl : i = 0 := by omega
          obtain ⟨⟨m0, m1, m2, m3, m4⟩, m5⟩ := SM.out wr hb.out
          have hv := SV.out wr hb.out
          have v0 : wr.cell? ⟨wd.heap.size, 0, none⟩ = some (.int .i64 k) := hv.cell rfl
          have v1 : wr.cell? ⟨wd.heap.size, 1, none⟩ = some (.int .i64 r) := hv.cell rfl
          have v2 : wr.cell? ⟨wd.heap.size, 2, none⟩ = some (.int .i64 c) := hv.cell rfl
          have v3 : wr.cell? ⟨wd.heap.size, 3, none⟩ = some (.int .i64 q) := hv.cell rfl
          have v4 : wr.cell? ⟨wd.heap.size, 4, none⟩ = some (.slice (some ⟨l, 0, none⟩) n n) := hv.cell rfl
          clear hv
          go_wp2_with fail
          refine bodyPost_ret (v := .tuple #[.agg #[.int .i64 k, .int .i64 r, .int .i64 c, .int .i64 q, .slice (some ⟨l, 0, none⟩) n n], .int .i64 0]) (by simp [results, Try.results13, go_sem, m0, m1, m2, m3, m4]) rfl ?_
          obtain ⟨A', C', hs1⟩ := hs.out
          have hO := only5 wr (w.heap.size + 1) (.int .i64 k) (.int .i64 r) (.int .i64 c) (.int .i64 q) (.slice (some ⟨l, 0, none⟩) n n)
          have hs2 := hs1.only hO (fun b h => by omega)
          exact ⟨some ⟨l, 0, none⟩, A', C', rfl, .inr ⟨l, rfl, (hs2.mono (by omega)).1, (hs2.mono (by omega)).2⟩, hbw.trans (hO.below (fun b h => by omega) hbw.size)⟩
  · obtain ⟨b, off, rfl, _⟩ := HP.out.at_ (by omega)
    have hpc0 : ¬ pc = 0 := by omega
    have hpi : (m : Int) ≤ (pc : Int) := by omega
    have hmi : (0 : Int) ≤ (m : Int) := by omega
    go_wp2_with fail
    rw [← hwe]
    clear hwe
    go_loopw [12, 50] (fun _ x wr => ∃ i : Nat, i ≤ m ∧ x = .int .i64 i ∧ Hid (∃ A' C', ImR wc.heap.size wr l n A' C' (aft Q D i F)) ∧ Hid (Only (fun b => b = l) we wr)) (fun _ x _ => m - (intOf x).toNat)
    case atStart => exact ⟨0, Nat.zero_le _, rfl, ⟨_, _, HIR.out⟩, Only.refl _ _⟩
    case round =>
      obtain ⟨i, hi, rfl, hs, hb⟩ := hrel
      have hbw : Below w.heap.size w wr := HWE.out.trans (hb.out.below (fun i h => by omega) (by omega))
      by_cases hlt : i < m
      · have hpw := HP.out.below hbw
        obtain ⟨b', off', e', hc'⟩ := hpw.at_ (by omega)
        cases e'
        obtain ⟨k0, k1, k2, k3⟩ := hc' i (by omega)
        obtain ⟨y, hy⟩ : ∃ y, y = D i := ⟨_, rfl⟩
        have HY : Hid (y = D i) := hy
        have hty := HTK.out i (by omega)
        rw [← hy] at k0 k1 k2 k3 hty
        obtain ⟨hh, hlen⟩ := tak_has hty
        obtain ⟨⟨d1, d2⟩, ⟨d3, d4⟩, d5, d6⟩ := has_true hh
        have hpl := plc_lt hh
        have i1 : (0 : Int) ≤ (i : Int) := by omega
        have i2 : (i : Int) < (m : Int) := by omega
        obtain ⟨wx, hwx⟩ : ∃ wx, wx = wr.alloc (.cells #[.int .i64 y.d, .int .i64 y.r, .int .i64 y.s, .slice (B i) y.b.length (K i)] 35) := ⟨_, rfl⟩
        have bx : Below wr.heap.size wr wx := by rw [hwx]; exact below_alloc _ _
        have zx : wr.heap.size < wx.heap.size := by rw [hwx]; simp
        have hzr := hb.out.size
        have CH : Hid (∀ v, Below wx.heap.size wx v → v.cell? ⟨wd.heap.size, 4, none⟩ = some (.slice (some ⟨l, 0, none⟩) n n) ∧ v.cell? ⟨wa.heap.size, 0, none⟩ = some (.int .i64 (N : Int)) ∧ v.cell? ⟨wa.heap.size, 1, none⟩ = some (.int .i64 (Q : Int)) ∧ v.cell? ⟨wa.heap.size, 2, none⟩ = some (.int .i64 (S : Int)) ∧ v.cell? ⟨wr.heap.size, 0, none⟩ = some (.int .i64 y.d) ∧ v.cell? ⟨wr.heap.size, 1, none⟩ = some (.int .i64 y.r) ∧ v.cell? ⟨wr.heap.size, 2, none⟩ = some (.int .i64 y.s) ∧ v.cell? ⟨wr.heap.size, 3, none⟩ = some (.slice (B i) y.b.length (K i))) := fun v hv => ⟨held ((SV.out wr hb.out).cell rfl) (below_then bx hv), held (SS.out wr hb.out).1 (below_then bx hv), held (SS.out wr hb.out).2.1 (below_then bx hv), held (SS.out wr hb.out).2.2 (below_then bx hv), par_held hwx hv⟩
        obtain ⟨c0, c1, c2, c3, c4, c5, c6, c7⟩ := CH.out wx (Below.refl _ _)
        have HAT : Hid (∀ v, Calls Try.prog 47 #[.agg #[.int .i64 (N : Int), .int .i64 (Q : Int), .int .i64 (S : Int)], .int .i64 y.d, .int .i64 y.r, .int .i64 y.s] v fun e w' => e = .returned (.int .i64 ((plc Q y.d y.r y.s : Nat) : Int)) ∧ Below v.heap.size v w') := fun v => at_any N Q S hQ y.d y.r y.s d1 (by omega) d3 (by omega) d5 (by omega) v
        have HCP : Hid (∀ v, Below wx.heap.size wx v → Calls Try.prog 46 #[.slice (B i) y.b.length (K i)] v fun e w' => ∃ ao' cap', e = .returned (.slice ao' y.b.length cap') ∧ OwC v.heap.size w' ao' cap' y.b ∧ Below v.heap.size v w') := fun v hv => copied_any v (B i) y.b.length (K i) y.b (by rw [HY.out]; exact (hpw.rd i (by omega)).below (below_then bx hv)) rfl (by omega)
        obtain ⟨pz, hpz⟩ : ∃ pz, pz = plc Q y.d y.r y.s := ⟨_, rfl⟩
        have HPZ : Hid (pz = plc Q y.d y.r y.s) := hpz
        rw [← hpz] at HAT hpl
        rw [← HNE.out] at hpl
        have j1 : (0 : Int) ≤ (pz : Int) := by omega
        have j2 : (pz : Int) < (n : Int) := by omega
        clear hpw hc' hy hty hh hlen d1 d2 d3 d4 d5 d6 hpz
        go_wp2_with fail
        rw [← hwx]
        clear hwx k0 k1 k2 k3
        go_region_held3 (fun v => v.cell? ⟨wd.heap.size, 4, none⟩ = some (.slice (some ⟨l, 0, none⟩) n n) ∧ v.cell? ⟨wa.heap.size, 0, none⟩ = some (.int .i64 (N : Int)) ∧ v.cell? ⟨wa.heap.size, 1, none⟩ = some (.int .i64 (Q : Int)) ∧ v.cell? ⟨wa.heap.size, 2, none⟩ = some (.int .i64 (S : Int)) ∧ v.cell? ⟨wr.heap.size, 0, none⟩ = some (.int .i64 y.d) ∧ v.cell? ⟨wr.heap.size, 1, none⟩ = some (.int .i64 y.r) ∧ v.cell? ⟨wr.heap.size, 2, none⟩ = some (.int .i64 y.s) ∧ v.cell? ⟨wr.heap.size, 3, none⟩ = some (.slice (B i) y.b.length (K i))) (go_keep)
          (first
            | (go_at_call 47; refine (HAT.out _).mono ?_; rintro e wf ⟨rfl, hf⟩; have HFf : Hid (Below wx.heap.size wx wf) := of_drew hf; obtain ⟨f0, f1, f2, f3, f4, f5, f6, f7⟩ := CH.out wf (of_drew hf); clear hf)
            | (go_at_call 46; refine (HCP.out wf HFf.out).mono ?_; rintro e wg ⟨ao, cap, rfl, ho, hg⟩; have HG : Hid (Below wx.heap.size wx wg) := below_then HFf.out hg; obtain ⟨g0, g1, g2, g3, g4, g5, g6, g7⟩ := CH.out wg HG.out; obtain ⟨A', C', hs1⟩ := hs.out; have HX : Hid (ImR wc.heap.size wg l n A' C' (aft Q D i F)) := hs1.below (below_then bx HG.out); have hzg := HFf.out.size; have HO : Hid (OwC wc.heap.size wg ao cap y.b ∧ ∀ a, ao = some a → a.block ≠ l) := ⟨ho.mono (by omega), fun a ha => by have := (ho.at_ ha).1; omega⟩; have cc := HX.out.1.cell pz hpl; have cf := HX.out.1.free pz hpl; have o0 : ∀ u, (wg.setCell ⟨l, pz, none⟩ u).cell? ⟨wd.heap.size, 4, none⟩ = some (.slice (some ⟨l, 0, none⟩) n n) := fun u => set_cell g0 (by show wd.heap.size ≠ l; omega) u; have o1 : ∀ u, (wg.setCell ⟨l, pz, none⟩ u).cell? ⟨wa.heap.size, 0, none⟩ = some (.int .i64 (N : Int)) := fun u => set_cell g1 (by show wa.heap.size ≠ l; omega) u; have o2 : ∀ u, (wg.setCell ⟨l, pz, none⟩ u).cell? ⟨wa.heap.size, 1, none⟩ = some (.int .i64 (Q : Int)) := fun u => set_cell g2 (by show wa.heap.size ≠ l; omega) u; have o3 : ∀ u, (wg.setCell ⟨l, pz, none⟩ u).cell? ⟨wa.heap.size, 2, none⟩ = some (.int .i64 (S : Int)) := fun u => set_cell g3 (by show wa.heap.size ≠ l; omega) u; have o4 : ∀ u, (wg.setCell ⟨l, pz, none⟩ u).cell? ⟨wr.heap.size, 0, none⟩ = some (.int .i64 y.d) := fun u => set_cell g4 (by show wr.heap.size ≠ l; omega) u; have o5 : ∀ u, (wg.setCell ⟨l, pz, none⟩ u).cell? ⟨wr.heap.size, 1, none⟩ = some (.int .i64 y.r) := fun u => set_cell g5 (by show wr.heap.size ≠ l; omega) u; have o6 : ∀ u, (wg.setCell ⟨l, pz, none⟩ u).cell? ⟨wr.heap.size, 2, none⟩ = some (.int .i64 y.s) := fun u => set_cell g6 (by show wr.heap.size ≠ l; omega) u; have o7 : ∀ u, (wg.setCell ⟨l, pz, none⟩ u).cell? ⟨wr.heap.size, 3, none⟩ = some (.slice (B i) y.b.length (K i)) := fun u => set_cell g7 (by show wr.heap.size ≠ l; omega) u; clear hs1 ho hg))
        all_goals
          go_wp2_with fail
          go_roundw
          case rel =>
            refine ⟨i + 1, by omega, by go_num, ⟨upd pz ao A', upd pz cap C', ?_⟩, ?_⟩
            · show ImR _ _ _ _ _ _ (upd (plc Q (D i).d (D i).r (D i).s) (D i).b (aft Q D i F))
              rw [← HY.out, ← HPZ.out]
              exact HX.out.put pz HO.out.1 HO.out.2
            · exact ((hb.out.then bx).then HG.out).setCell (p := ⟨l, pz, none⟩) rfl _
          case measure => simp [intOf]; omega
      · obtain rfl : i = m := by omega
        obtain ⟨⟨m0, m1, m2, m3, m4⟩, m5⟩ := SM.out wr hb.out
        have hv := SV.out wr hb.out
        have v0 : wr.cell? ⟨wd.heap.size, 0, none⟩ = some (.int .i64 k) := hv.cell rfl
        have v1 : wr.cell? ⟨wd.heap.size, 1, none⟩ = some (.int .i64 r) := hv.cell rfl
        have v2 : wr.cell? ⟨wd.heap.size, 2, none⟩ = some (.int .i64 c) := hv.cell rfl
        have v3 : wr.cell? ⟨wd.heap.size, 3, none⟩ = some (.int .i64 q) := hv.cell rfl
        have v4 : wr.cell? ⟨wd.heap.size, 4, none⟩ = some (.slice (some ⟨l, 0, none⟩) n n) := hv.cell rfl
        clear hv
        go_wp2_with fail
        refine bodyPost_ret (v := .tuple #[.agg #[.int .i64 k, .int .i64 r, .int .i64 c, .int .i64 q, .slice (some ⟨l, 0, none⟩) n n], .int .i64 0]) (by simp [results, Try.results13, go_sem, m0, m1, m2, m3, m4]) rfl ?_
        obtain ⟨A', C', hs1⟩ := hs.out
        have hO := only5 wr (w.heap.size + 1) (.int .i64 k) (.int .i64 r) (.int .i64 c) (.int .i64 q) (.slice (some ⟨l, 0, none⟩) n n)
        have hs2 := hs1.only hO (fun b h => by omega)
        exact ⟨some ⟨l, 0, none⟩, A', C', rfl, .inr ⟨l, rfl, (hs2.mono (by omega)).1, (hs2.mono (by omega)).2⟩, hbw.trans (hO.below (fun b h => by omega) hbw.size)⟩
end
end Go.Proofs.Ytenlfhdchflnjaa
