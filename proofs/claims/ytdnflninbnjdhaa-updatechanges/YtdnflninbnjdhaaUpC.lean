/- What Changes of the program answers. -/
import Derived.Test.YtdnflninbnjdhaaUpB
namespace Go.Proofs.Ytdnflninbnjdhaa
open Go.RowKit

theorem spOf_cells {w : World} {B n cap : Nat} {ao : Option Addr} {S C F T : Nat → Nat} (h : w.ownsRow B 42 4 (.slice ao n cap) n (spOf S C F T n)) (hn : 0 < n) : ∃ g, ao = some ⟨g, 0, none⟩ ∧ n ≤ cap ∧ ∀ i, i < n → w.cell? ⟨g, i * 4, none⟩ = some (.int .i64 (S i : Int)) ∧ w.cell? ⟨g, i * 4 + 1, none⟩ = some (.int .i64 (C i : Int)) ∧ w.cell? ⟨g, i * 4 + 2, none⟩ = some (.int .i64 (F i : Int)) ∧ w.cell? ⟨g, i * 4 + 3, none⟩ = some (.int .i64 (T i : Int)) := by
  rcases h.2 with ⟨_, e⟩ | ⟨g, c', cur, e, h1, h2, h3, _⟩
  · omega
  · cases e
    refine ⟨g, rfl, h3, fun i hi => ?_⟩
    obtain ⟨a, b, c, d⟩ := spOf_get S C F T n i hi
    have c0 := h.cells (g := g) rfl _ _ a
    have c1 := h.cells (g := g) rfl _ _ b
    have c2 := h.cells (g := g) rfl _ _ c
    have c3 := h.cells (g := g) rfl _ _ d
    rw [Addr.add_lit, Nat.zero_add] at c0 c1 c2 c3
    exact ⟨c0, c1, c2, c3⟩
/-- One change more. -/
theorem Chs.push {B B' : Nat} {w w' : World} {ao : Option Addr} {n cap g cap' d u : Nat} {D : Nat → Int} {T : Nat → Option Addr} {U : Nat → Nat} {m : Nat} {H : Nat → Nat → UInt8} (h : Chs B w ao n cap D T (fun _ => m) U H) (hd : OwU B' w (some ⟨d, 0, none⟩) m u (H n)) (hB : B ≤ B') (hlt : ∀ i, i < n → ∀ a, T i = some a → a.block < B')
    (hg : w.grownBy w' (Value.slice ao n cap).ownBlock) (ho : w'.ownsRow B 33 2 (.slice (some ⟨g, 0, none⟩) (n + 1) cap') (n + 1) (chOf D T (fun _ => m) U n ++ [.int .i64 (D n), .slice (some ⟨d, 0, none⟩) m u])) (hBd : B' ≤ d) :
    Chs B w' (some ⟨g, 0, none⟩) (n + 1) cap' D (put n (some ⟨d, 0, none⟩) T) (fun _ => m) (put n u U) H := by
  have key : ∀ {B2 : Nat} {x : Option Addr} {c : Nat} {G : Nat → UInt8}, OwU B2 w x m c G → OwU B2 w' x m c G := fun {B2 x c G} hx => owns_blocks hx fun a ha => by
    obtain ⟨_, k2, cur, k3⟩ := owns_at hx ha
    refine hg.block _ k2 fun e => ?_
    cases ao with
    | none => cases e
    | some z =>
      have e2 : z.block = a.block := by simpa [Value.ownBlock] using e.symm
      obtain ⟨_, _, cur', k4⟩ := owns_at h.out (a := z) rfl
      rw [e2, k3] at k4
      cases k4
  refine ⟨?_, fun i hi => ?_, fun i j hij hj a b ha hb => ?_⟩
  · rw [chOf, put_at, put_at]
    rw [chOf_congr (D' := D) (T' := T) (L' := fun _ => m) (U' := U) fun i hi => ⟨rfl, put_ne _ _ (by omega), rfl, put_ne _ _ (by omega)⟩]
    exact ho
  · by_cases e : i = n
    · subst e; rw [put_at, put_at]; exact (key hd).mono hB
    · rw [put_ne _ _ e, put_ne _ _ e]; exact key (h.row i (by omega))
  · rw [put_ne _ _ (show i ≠ n by omega)] at ha
    by_cases e : j = n
    · subst e
      rw [put_at] at hb
      cases hb
      have := hlt i hij a ha
      show a.block ≠ d
      omega
    · rw [put_ne _ _ e] at hb; exact h.apart i j hij (by omega) a b ha hb
theorem chs_lt {B : Nat} {w : World} {ao : Option Addr} {n cap : Nat} {D : Nat → Int} {T : Nat → Option Addr} {L U : Nat → Nat} {H : Nat → Nat → UInt8} (h : Chs B w ao n cap D T L U H) : ∀ i, i < n → ∀ a, T i = some a → a.block < w.heap.size := fun i hi _ ha => (owns_at (h.row i hi) ha).2.1
theorem bec_cut2 {w : World} {b off n cap cp : Nat} {D : Nat → UInt8} (h : Bec w (some ⟨b, off, none⟩) n cap D) {p m : Nat} (hp : p + m ≤ n) (hm : 0 < m) (hc : cp = cap - p := by rfl) : Bec w (some ⟨b, off + p, none⟩) m cp (fun j => D (p + j)) := by
  have h1 := bec_cut h hp (by omega)
  exact ⟨h1.rd, (fun e => by cases e), by have := h.room; omega⟩
set_option maxHeartbeats 8000000 in
set_option maxRecDepth 100000 in
theorem changes_good {K R m q : Nat} {N W : Nat} (h : Par (K : Int) (R : Int) (m : Int) (q : Int) N W 0) (w : World) (ob of on oc : Nat) (O : Nat → UInt8) (hO : Bec w (some ⟨ob, of, none⟩) on oc O) (o : Nat) (mo : Option Addr) (mn mc : Nat) (M : Nat → UInt8) (hM : Bec w mo mn mc M) (hon : on = W) (ho : o ≤ W) (hmn : mn ≤ W - o) (hWk : W = K * m) (hk : 1 ≤ K) (hK : K ≤ 12) (hc1 : 8 ≤ m) (hc2 : m ≤ 64) (hW32 : 32 ≤ W) :
    Calls Try.prog 6 #[.agg #[.int .i64 (K : Int), .int .i64 (R : Int), .int .i64 (m : Int), .int .i64 (q : Int)], .slice (some ⟨ob, of, none⟩) on oc, .int .i64 (o : Int), .slice mo mn mc] w (AnsCh w 0 (nCh o mn m) (fun i => ((o / m + i : Nat) : Int)) m (chB O M o mn m)) := by
  obtain ⟨j0, hj, hj0, hj1, hj2⟩ := info_parts info33
  have hWw := h.wide
  have HWI : Hid (∀ u, Calls Try.prog 12 #[.agg #[.int .i64 (K : Int), .int .i64 (R : Int), .int .i64 (m : Int), .int .i64 (q : Int)]] u fun e w' => e = .returned (.tuple #[.int .i64 (W : Int), .int .i64 0]) ∧ Below u.heap.size u w') := fun u => by
    refine (Width_any h u).mono ?_
    rintro e w' ⟨rfl, hb⟩
    exact ⟨rfl, hb⟩
  have HSP := And.intro trivial (fun u => spans_good h o mn u (by have := mst_ge hW32 hWw; omega) hWk hk hc1 hc2)
  have HSP : Hid _ := HSP
  obtain ⟨w0, hw0⟩ : ∃ w0, w0 = w.alloc (.cells #[.int .i64 (K : Int), .int .i64 (R : Int), .int .i64 (m : Int), .int .i64 (q : Int)] 23) := ⟨_, rfl⟩
  have B0 : Hid (Below w.heap.size w w0) := by show Below _ _ _; rw [hw0]; exact below_alloc _ _
  have HPAR : Hid (∀ v, Below w0.heap.size w0 v → v.cell? ⟨w.heap.size, 0, none⟩ = some (.int .i64 (K : Int)) ∧ v.cell? ⟨w.heap.size, 1, none⟩ = some (.int .i64 (R : Int)) ∧ v.cell? ⟨w.heap.size, 2, none⟩ = some (.int .i64 (m : Int)) ∧ v.cell? ⟨w.heap.size, 3, none⟩ = some (.int .i64 (q : Int))) := fun v hv => par_held hw0 hv
  have HOB : Hid (∀ v, Below w.heap.size w v → Bec v (some ⟨ob, of, none⟩) on oc O) := fun v hv => hO.below hv
  have HMB : Hid (∀ v, Below w.heap.size w v → Bec v mo mn mc M) := fun v hv => hM.below hv
  have HON : Hid (on = K * m) := by show _ = _; rw [hon]; exact hWk
  have HOC : Hid (on ≤ oc) := hO.room
  have HMR : Hid (mn ≤ mc) := hM.room
  have HW : Hid (o + mn ≤ K * m ∧ W = K * m) := by refine ⟨?_, hWk⟩; rw [← hWk]; omega
  subst hon
  have q1 : ((on : Int) != (on : Int)) = false := by simp
  have q2 : (0 : Int) ≤ (o : Int) := by omega
  have q3 : (o : Int) ≤ (on : Int) := by omega
  have q4 : (mn : Int) ≤ (on : Int) - (o : Int) := by omega
  have q5 : decide ((o : Int) < 0) = false := decide_eq_false (by omega)
  have q6 : decide ((on : Int) - (o : Int) < (mn : Int)) = false := decide_eq_false (by omega)
  clear hO hM h hWk
  go_enter Try.func6, Try.ntmps6
  go_wp2_with fail
  rw [← hw0]
  clear hw0
  refine (HWI.out _).mono ?_
  rintro e wa ⟨rfl, ha⟩
  obtain ⟨s0, s1, s2, s3⟩ := HPAR.out wa ha
  have HA : Hid (Below w0.heap.size w0 wa) := ha
  clear ha HWI
  go_wp2_with fail
  refine (HSP.out.2 _).mono ?_
  rintro e wb ⟨n, so, sc, rfl, hend, hsp, hb⟩
  have HB : Hid (Below w0.heap.size w0 wb) := below_then HA.out hb
  have HSPN : Hid (wb.ownsRow wa.heap.size 42 4 (.slice so n sc) n (spOf (stp o m K) (cel o m K) (frm o m) (til o (o + mn) m) n)) := hsp
  have HEND : Hid (End o (o + mn) m n) := hend
  have HNN : Hid (n = nCh o mn m) := end_nCh hend
  have hn16 : n ≤ 1000 := by have := end_le (show 0 < m by omega) hend; omega
  clear hend hsp hb s0 s1 s2 s3 HA HSP
  go_wp2_with fail
  go_loopw [3, 14, 57] (fun s l y wr => ∃ i : Nat, i ≤ n ∧ y = .int .i64 (i : Int) ∧ ∃ no nc ao cap T U, s = .slice no (mn - (pos o (o + mn) m i - o)) nc ∧ l = .slice ao i cap ∧ Hid (Bec wb no (mn - (pos o (o + mn) m i - o)) nc (fun j => M (pos o (o + mn) m i - o + j))) ∧ Hid (Chs wb.heap.size wr ao i cap (fun i => ((o / m + i : Nat) : Int)) T (fun _ => m) U (chB O M o mn m)) ∧ Hid (Below wb.heap.size wb wr)) (fun _ _ y _ => n - (intOf y).toNat)
  case atStart =>
    have e0 : pos o (o + mn) m 0 = o := if_pos rfl
    exact ⟨0, Nat.zero_le _, rfl, mo, mc, none, 0, fun _ => none, fun _ => 0, by rw [e0, Nat.sub_self, Nat.sub_zero], rfl, by rw [e0, Nat.sub_self, Nat.sub_zero]; exact (HMB.out wb (below_then B0.out HB.out)).congr fun j _ => by rw [Nat.zero_add], chs_nil _ _ _ _ _ _ _, Below.refl _ _⟩
  case round =>
    obtain ⟨i, hi, rfl, no, nc, ao, cap, T, U, rfl, rfl, hnow, hchs, hbel⟩ := hrel
    by_cases hlt : i < n
    · have hm0 : 0 < m := by omega
      have hpp := end_pos HEND.out hlt
      obtain ⟨gs, rfl, hsc, hcs⟩ := spOf_cells HSPN.out (by omega)
      obtain ⟨d0, d1, d2, d3⟩ := hcs i hlt
      have hci : o / m + i < K := ch_lt hm0 hpp HW.out.1
      have hcel : cel o m K i = o / m + i := Nat.mod_eq_of_lt hci
      have hft := til_gt hm0 hpp
      have htm := til_le o (o + mn) m i
      have hpg := pos_ge hm0 hpp
      have hps := pos_til hm0 hpp
      have hpl := pos_le (c := m) (i := i + 1) (show o ≤ o + mn by omega)
      have hby := fun j => ch_byte (O := O) (M := M) hm0 hpp (j := j)
      rw [hcel] at d1
      have e0 : wr.cell? ⟨gs, i * 4, none⟩ = some (.int .i64 ((stp o m K i : Nat) : Int)) := held d0 hbel.out
      have e1 : wr.cell? ⟨gs, i * 4 + 1, none⟩ = some (.int .i64 ((o / m + i : Nat) : Int)) := held d1 hbel.out
      have e2 : wr.cell? ⟨gs, i * 4 + 2, none⟩ = some (.int .i64 ((frm o m i : Nat) : Int)) := held d2 hbel.out
      have e3 : wr.cell? ⟨gs, i * 4 + 3, none⟩ = some (.int .i64 ((til o (o + mn) m i : Nat) : Int)) := held d3 hbel.out
      have i1 : (0 : Int) ≤ (i : Int) := by omega
      have i2 : (i : Int) < (n : Int) := by omega
      clear d0 d1 d2 d3 hcs hcel
      have HBY : Hid (∀ j, j < m → upR (fun b => O ((o / m + i) * m + b)) (frm o m i) (til o (o + mn) m i - frm o m i) (fun b => M (pos o (o + mn) m i - o + b)) j = chB O M o mn m i j) := hby
      clear hby
      have HPS : Hid (pos o (o + mn) m (i + 1) - o = pos o (o + mn) m i - o + (til o (o + mn) m i - frm o m i)) := by show _ = _; omega
      obtain ⟨ci, hci2⟩ : ∃ ci, ci = o / m + i := ⟨_, rfl⟩
      obtain ⟨f, hf⟩ : ∃ f, f = frm o m i := ⟨_, rfl⟩
      obtain ⟨t, ht⟩ : ∃ t, t = til o (o + mn) m i := ⟨_, rfl⟩
      obtain ⟨p, hp⟩ : ∃ p, p = pos o (o + mn) m i - o := ⟨_, rfl⟩
      obtain ⟨st, hst⟩ : ∃ st, st = stp o m K i := ⟨_, rfl⟩
      obtain ⟨p', hp'⟩ : ∃ p', p' = pos o (o + mn) m (i + 1) - o := ⟨_, rfl⟩
      have hr1 : t - f ≤ mn - p := by omega
      have hr2 : mn - p - (t - f) = mn - p' := by omega
      have hr3 : p' = p + (t - f) := by rw [hp', hp, hf, ht]; exact HPS.out
      have hfl : f < t := by omega
      have htl : t ≤ m := by omega
      rw [← hci2] at e1 hci
      rw [← hf] at e2
      rw [← ht] at e3
      rw [← hst] at e0
      rw [← hci2, ← hf, ← ht, ← hp] at HBY
      rw [← hp] at hnow ⊢
      have HP' : Hid (pos o (o + mn) m (i + 1) - o = p') := hp'.symm
      have HCI : Hid (((o / m + i : Nat) : Int) = (ci : Int)) := by show _ = _; rw [hci2]
      obtain ⟨wc, hwc⟩ : ∃ wc, wc = wr.alloc (.cells #[.int .i64 (st : Int), .int .i64 (ci : Int), .int .i64 (f : Int), .int .i64 (t : Int)] 42) := ⟨_, rfl⟩
      have HBR : Hid (Below wb.heap.size wb wr) := hbel.out
      have HC : Hid (Below wb.heap.size wb wc) := by show Below _ _ _; rw [hwc]; exact below_then hbel.out (below_alloc _ _)
      have HCC : Hid (∀ v, Below wc.heap.size wc v → v.cell? ⟨wr.heap.size, 0, none⟩ = some (.int .i64 (st : Int)) ∧ v.cell? ⟨wr.heap.size, 1, none⟩ = some (.int .i64 (ci : Int)) ∧ v.cell? ⟨wr.heap.size, 2, none⟩ = some (.int .i64 (f : Int)) ∧ v.cell? ⟨wr.heap.size, 3, none⟩ = some (.int .i64 (t : Int))) := fun v hv => par_held hwc hv
      have bc : Below wr.heap.size wr wc := by rw [hwc]; exact below_alloc _ _
      have HCH : Hid (Chs wb.heap.size wc ao i cap (fun i => ((o / m + i : Nat) : Int)) T (fun _ => m) U (chB O M o mn m)) := hchs.out.below bc
      have HNO : Hid (Bec wb no (mn - p) nc (fun j => M (p + j))) := hnow.out
      have HSR : Hid (wr.heap.size < wc.heap.size) := by show _ < _; rw [hwc]; simp
      clear hci2 hf ht hp hst hp' HPS hpp hpg hps hpl hft htm hchs hnow bc hbel
      have aa := HPAR.out wr (below_then HB.out HBR.out)
      have a0 := fun o => held aa.1 (below_alloc wr o)
      have a1 := fun o => held aa.2.1 (below_alloc wr o)
      have a2 := fun o => held aa.2.2.1 (below_alloc wr o)
      have a3 := fun o => held aa.2.2.2 (below_alloc wr o)
      clear aa
      go_wp2_with fail
      rw [← hwc]
      clear hwc a0 a1 a2 a3 e0 e1 e2 e3
      refine (ucut_any (K := K) (m := m) (R : Int) (q : Int) wc ob of on oc ci hci hK hc2 HON.out HOC.out (by omega)).mono ?_
      rintro e wd ⟨rfl, hd⟩
      have hcut : Bec wd (some ⟨ob, of + ci * m, none⟩) m (oc - ci * m) (fun j => O (ci * m + j)) := bec_cut2 (HOB.out wd (below_then B0.out (below_then HB.out (below_then HC.out hd)))) (by rw [HON.out, ← Nat.succ_mul]; exact Nat.mul_le_mul_right m hci) (by omega)
      have HCD : Hid (Below wc.heap.size wc wd) := hd
      go_wp2_with fail
      refine (bclone_any wd ob (of + ci * m) m (oc - ci * m) _ hcut (by omega) (by omega)).mono ?_
      rintro e we ⟨g, u, rfl, hg, he⟩
      have HCE : Hid (Below wc.heap.size wc we) := below_then HCD.out he
      have hno2 := HNO.out.below (below_then HC.out HCE.out)
      obtain ⟨wf, hrun, hof, honly⟩ := run_copy_ow (off := f) (k := t - f) (dC := u - f) hg hno2 (by omega) hr1 (by omega)
      have hgu : m ≤ u := hg.bec.room
      obtain ⟨_, c1, c2, c3⟩ := HCC.out we HCE.out
      have hgd : wd.heap.size ≤ g ∧ g < we.heap.size := by obtain ⟨g', e', k1, k2⟩ := hg.at_ (by omega); cases e'; exact ⟨k1, k2⟩
      have HWF : Hid (Below wb.heap.size wb wf) := by
        show Below _ _ _
        have hs1 := HC.out.size
        have hs2 := HCD.out.size
        exact (below_then HC.out HCE.out).trans (honly.below (fun _ e => by rw [e]; omega) (Nat.le_trans hs1 HCE.out.size))
      have bcf : Below wc.heap.size wc wf := HCE.out.trans (honly.below (fun _ e => by rw [e]; have := HCD.out.size; omega) HCE.out.size)
      have HCH2 : Hid (Chs wb.heap.size wf ao i cap (fun i => ((o / m + i : Nat) : Int)) T (fun _ => m) U (chB O M o mn m)) := HCH.out.below bcf
      have HOF : Hid (OwU wd.heap.size wf (some ⟨g, 0, none⟩) m u (chB O M o mn m i)) := hof.congr HBY.out
      have HLT : Hid (∀ i', i' < i → ∀ a, T i' = some a → a.block < wd.heap.size) := fun i' hi' a ha => Nat.lt_of_lt_of_le (chs_lt HCH.out i' hi' a ha) HCD.out.size
      have HGD : Hid (wd.heap.size ≤ g ∧ wb.heap.size ≤ wd.heap.size) := ⟨hgd.1, Nat.le_trans HC.out.size HCD.out.size⟩
      obtain ⟨f0, f1, f2, f3⟩ := HCC.out wf bcf
      have i3 : (0 : Int) ≤ (f : Int) := by omega
      have i4 : (f : Int) ≤ (t : Int) := by omega
      have i5 : (t : Int) ≤ (u : Int) := by omega
      clear hcut hd he hno2 hg hof honly hgd bcf HBY
      obtain ⟨xs, hxs⟩ : ∃ xs, xs = chOf (fun i => ((o / m + i : Nat) : Int)) T (fun _ => m) U i := ⟨_, rfl⟩
      have HXO : Hid (wf.ownsRow wb.heap.size 33 2 (.slice ao i cap) i xs) := by show World.ownsRow _ _ _ _ _ _ _; rw [hxs]; exact HCH2.out.out
      have HXS : Hid (xs = chOf (fun i => ((o / m + i : Nat) : Int)) T (fun _ => m) U i) := hxs
      obtain ⟨nb, nf, rfl⟩ : ∃ nb nf, no = some ⟨nb, nf, none⟩ := by obtain ⟨nb, nf, e, _⟩ := HNO.out.rd (by omega); exact ⟨nb, nf, e⟩
      have hnr : mn - p ≤ nc := HNO.out.room
      have HNEW : Hid ((nc = t - f → Bec wb (some ⟨nb, nf, none⟩) (mn - p') 0 (fun j => M (p' + j))) ∧ (¬ nc = t - f → Bec wb (some ⟨nb, nf + (t - f), none⟩) (mn - p') (nc - (t - f)) (fun j => M (p' + j)))) := by
        refine ⟨fun e => ?_, fun _ => ?_⟩
        · rw [show mn - p' = 0 by omega]
          exact ⟨fun h => absurd h (by omega), (fun e => by cases e), Nat.le_refl _⟩
        · refine ⟨fun hp => ⟨nb, nf + (t - f), rfl, fun j hj => ?_⟩, (fun e => by cases e), by omega⟩
          obtain ⟨b', f', e', hc⟩ := HNO.out.rd (by omega)
          cases e'
          have := hc (t - f + j) (by omega)
          rw [Nat.add_assoc, show p' + j = p + (t - f + j) by omega]
          exact this
      have HR3 : Hid (mn - (p + (t - f)) = mn - p') := by show _ = _; rw [hr3]
      have hi1000 : i ≤ 1000 := by omega
      clear hxs
      have ARM : Hid (∀ {w5 : World} {g5 cap5 : Nat}, w5.ownsRow wb.heap.size 33 2 (.slice (some ⟨g5, 0, none⟩) (i + 1) cap5) (i + 1) (xs ++ [.int .i64 (ci : Int), .slice (some ⟨g, 0, none⟩) m u]) → (wf.alloc (.cells #[.int .i64 (ci : Int), .slice (some ⟨g, 0, none⟩) m u] 33)).grownBy w5 (Value.slice ao i cap).ownBlock → Chs wb.heap.size w5 (some ⟨g5, 0, none⟩) (i + 1) cap5 (fun i => ((o / m + i : Nat) : Int)) (put i (some ⟨g, 0, none⟩) T) (fun _ => m) (put i u U) (chB O M o mn m) ∧ Below wb.heap.size wb w5) := by
        intro w5 g5 cap5 hown5 hgrow5
        rw [HXS.out, ← HCI.out] at hown5
        exact ⟨(HCH2.out.below (below_alloc _ _)).push (HOF.out.below (below_alloc _ _)) HGD.out.2 HLT.out hgrow5 hown5 HGD.out.1, (below_then HWF.out (below_alloc _ _)).grown hgrow5 (by have := HWF.out.size; simp; omega) (fun r hr => (HCH2.out.out.lt r hr).1)⟩
      by_cases hcap : nc = t - f
      · subst hcap
        go_wp2_with (at_builtin; refine wpList_append_lies _ (by rfl) (.tmp 77) (.tmp 82) 26 (by rfl) wb.heap.size 33 j0 (.agg #[.int .i64 0, .slice none 0 0]) 2 32 Try.underlying26 hj hj0 hj1 hj2 (by rfl) (by decide) (.slice ao i cap) i xs (by rfl) (owns_below HXO.out (below_alloc _ _)) ⟨wf.heap.size, 0, none⟩ 1 1 [.int .i64 (ci : Int), .slice (some ⟨g, 0, none⟩) m u] (by simp [Act.eval]) (by rfl) (World.news_of_block (heap_alloc_new wf _)) (by simp [Value.oneCell']) (by decide) (by unfold maxLen; omega) (by omega) (by have := HWF.out.size; simp; omega) (wf.heap.size + 1) (by simp) ?_; intro g5 cap5 w5 hown5 hgrow5 _ _
                     have HO5 : Hid _ := And.intro trivial (ARM.out hown5 hgrow5)
                     clear hown5 hgrow5)
        go_roundw
        case rel => exact ⟨i + 1, by omega, by go_num, some ⟨nb, nf, none⟩, 0, _, cap5, _, _, by rw [HP'.out, HR3.out], rfl, by rw [HP'.out]; exact HNEW.out.1 (by trivial), HO5.out.2.1, HO5.out.2.2⟩
        case measure => simp [intOf]; omega
      · go_wp2_with (at_builtin; refine wpList_append_lies _ (by rfl) (.tmp 77) (.tmp 82) 26 (by rfl) wb.heap.size 33 j0 (.agg #[.int .i64 0, .slice none 0 0]) 2 32 Try.underlying26 hj hj0 hj1 hj2 (by rfl) (by decide) (.slice ao i cap) i xs (by rfl) (owns_below HXO.out (below_alloc _ _)) ⟨wf.heap.size, 0, none⟩ 1 1 [.int .i64 (ci : Int), .slice (some ⟨g, 0, none⟩) m u] (by simp [Act.eval]) (by rfl) (World.news_of_block (heap_alloc_new wf _)) (by simp [Value.oneCell']) (by decide) (by unfold maxLen; omega) (by omega) (by have := HWF.out.size; simp; omega) (wf.heap.size + 1) (by simp) ?_; intro g5 cap5 w5 hown5 hgrow5 _ _
                     have HO5 : Hid _ := And.intro trivial (ARM.out hown5 hgrow5)
                     clear hown5 hgrow5)
        go_roundw
        case rel => exact ⟨i + 1, by omega, by go_num, some ⟨nb, nf + (t - f), none⟩, nc - (t - f), _, cap5, _, _, by rw [HP'.out, HR3.out], rfl, by rw [HP'.out]; exact HNEW.out.2 hcap, HO5.out.2.1, HO5.out.2.2⟩
        case measure => simp [intOf]; omega
    · obtain rfl : i = n := by omega
      have HL : Hid (lenE 0 (nCh o mn m) = i) := by show _ = _; rw [HNN.out]; exact if_pos rfl
      go_wp2_with fail
      go_ret2
      refine ⟨ao, cap, T, U, ?_, ?_, below_then B0.out (below_then HB.out hbel.out)⟩
      · rw [HL.out]; rfl
      · rw [HL.out]; exact hchs.out.mono (Nat.le_trans B0.out.size HB.out.size)
end Go.Proofs.Ytdnflninbnjdhaa
