/- Wiping drives never makes a newer version count: the statement's walk. -/
import Derived.Test.YtmlnbnbgkpbjeaaCnW
namespace Go.Proofs.Ytmlnbnbgkpbjeaa
open Go.RowKit Go.Maps Go.ChangeShapes

theorem erR_zero' {x : Int} {N : Nat} {c : Int} {rn : Nat} {L : Nat → Nat} (h : erR x N c rn L = 0) : x = 0 ∧ rn = N ∧ ∀ j, j < 2 * rn → L j = 0 ∨ L j = sz N c := by
  unfold erR at h
  by_cases hx : x = 0
  · rw [if_pos hx] at h
    by_cases g : rn = N ∧ ∀ j, j < 2 * rn → L j = 0 ∨ L j = sz N c
    · exact ⟨hx, g.1, g.2⟩
    · rw [if_neg g] at h; omega
  · rw [if_neg hx] at h; exact absurd h hx
theorem Par.nums {k r c q : Int} {N W : Nat} (h : Par k r c q N W 0) : 1 ≤ k ∧ (N : Int) = k + r := by
  rcases h with ⟨h, _, h0, _⟩ | ⟨_, _, _, h1⟩
  · obtain ⟨h1, _⟩ := may_true h
    exact ⟨h1, h0⟩
  · omega
/-- A row of the call's own, some drives wiped. -/
theorem rw_own {w : World} {B g rn cap : Nat} {A : Nat → Option Addr} {L C : Nat → Nat} {F : Nat → Nat → UInt8} {wi : Nat → Bool} (h : w.ownsRow B 47 2 (.slice (some ⟨g, 0, none⟩) rn cap) rn (prs (rn * 2) (wpx wi none rn A) (wpx wi 0 rn L) (wpx wi 0 rn C))) (hb : ∀ j, j < 2 * rn → Bec w (A j) (L j) (C j) (F j)) : Rw w (some ⟨g, 0, none⟩) rn (wpx wi none rn A) (wpx wi 0 rn L) (wpx wi 0 rn C) F := by
  refine ⟨fun _ => ⟨g, 0, rfl, fun i hi => ⟨?_, ?_⟩⟩, fun j hj => ?_⟩
  · rw [Nat.zero_add, World.ownsRow.cellAt h _ (by omega), prs_get _ _ _ (by omega), show i * 2 = 2 * i by omega]
  · rw [Nat.zero_add, World.ownsRow.cellAt h _ (by omega), prs_get _ _ _ (by omega), show i * 2 + 1 = 2 * i + 1 by omega]
  · unfold wpx
    by_cases e : j / 2 < rn ∧ wi (j / 2) = true
    · rw [if_pos e, if_pos e, if_pos e]; exact bec_nil _ _
    · rw [if_neg e, if_neg e, if_neg e]; exact hb j hj

set_option maxHeartbeats 20000000 in
set_option maxRecDepth 100000 in
theorem cw_law {k r c q : Int} {N W : Nat} {x : Int} (h : Par k r c q N W x) (w : World) (ro : Option Addr) (rn rc : Nat) (A : Nat → Option Addr) (L C : Nat → Nat) (F : Nat → Nat → UInt8) (hr : Rw w ro rn A L C F) (tob : Option Addr) (tn tc : Nat) (V : Nat → Bool) (hT : RdT w tob tn V) :
    Calls Try.prog 5 #[.agg #[.int .i64 k, .int .i64 r, .int .i64 c, .int .i64 q], .slice ro rn rc, .slice tob tn tc] w fun e w' => e = .returned (.bool true) ∧ Below w.heap.size w w' := by
  obtain ⟨E, hE⟩ : ∃ E, erR x N c rn L = E := ⟨_, rfl⟩
  obtain ⟨y0, hy0⟩ : ∃ y, rdv E (wins k (hP N c L F) (hQ N c L F) N) 0 = y := ⟨_, rfl⟩
  obtain ⟨z0, hz0⟩ : ∃ z, rdb E (wins k (hP N c L F) (hQ N c L F) N) 0 = z := ⟨_, rfl⟩
  have HWN : Hid (∀ u, Below w.heap.size w u → Calls Try.prog 10 #[.agg #[.int .i64 k, .int .i64 r, .int .i64 c, .int .i64 q], .slice ro rn rc] u fun e w' => e = .returned (.tuple #[.int .i64 y0, .bool z0, .int .i64 E]) ∧ Below u.heap.size u w') := fun u hu => Winner_any h u ro rn rc A L C F (hr.below hu) E hE y0 hy0 z0 hz0
  have HAW : Hid (∀ u, Calls Try.prog 6 #[] u fun e w' => e = .returned (.bool true) ∧ Below u.heap.size u w') := fun u => awake_any u
  obtain ⟨w0, hw0⟩ : ∃ w0, w0 = w.alloc (.cells #[.int .i64 k, .int .i64 r, .int .i64 c, .int .i64 q] 23) := ⟨_, rfl⟩
  have B0 : Hid (Below w.heap.size w w0) := by show Below _ _ _; rw [hw0]; exact below_alloc _ _
  have L0 : Hid (∀ v, Below w0.heap.size w0 v → At w v w.heap.size #[.int .i64 k, .int .i64 r, .int .i64 c, .int .i64 q] 23) := fun v hv => (at_made (Below.refl _ _) hw0).below hv
  have HC : Hid (∀ v, Below w0.heap.size w0 v → v.cell? ⟨w.heap.size, 0, none⟩ = some (.int .i64 k) ∧ v.cell? ⟨w.heap.size, 1, none⟩ = some (.int .i64 r) ∧ v.cell? ⟨w.heap.size, 2, none⟩ = some (.int .i64 c) ∧ v.cell? ⟨w.heap.size, 3, none⟩ = some (.int .i64 q)) := fun v hv => by
    have pq := L0.out v hv
    exact ⟨pq.cell (i := 0) rfl, pq.cell (i := 1) rfl, pq.cell (i := 2) rfl, pq.cell (i := 3) rfl⟩
  have HT : Hid (RdT w tob tn V) := hT
  have hle := h.le
  clear hT
  by_cases e0 : E = 0
  · subst e0
    obtain ⟨rfl, rfl, hsz⟩ := erR_zero' hE
    obtain ⟨hk, hkr⟩ := h.nums
    obtain ⟨wi, hwi⟩ : ∃ wi : Nat → Bool, wi = fun d => decide (d < tn) && V d := ⟨_, rfl⟩
    have hE' : erR 0 rn c rn (wpx wi 0 rn L) = 0 := by
      have hl : ∀ j, j < 2 * rn → wpx wi 0 rn L j = 0 ∨ wpx wi 0 rn L j = sz rn c := fun j hj => by
        unfold wpx
        split
        · exact .inl rfl
        · exact hsz j hj
      unfold erR
      rw [if_pos rfl, if_pos ⟨rfl, hl⟩]
    obtain ⟨y1, hy1⟩ : ∃ y, rdv 0 (wins k (hP rn c (wpx wi 0 rn L) F) (hQ rn c (wpx wi 0 rn L) F) rn) 0 = y := ⟨_, rfl⟩
    obtain ⟨z1, hz1⟩ : ∃ z, rdb 0 (wins k (hP rn c (wpx wi 0 rn L) F) (hQ rn c (wpx wi 0 rn L) F) rn) 0 = z := ⟨_, rfl⟩
    have HN2 : Hid (∀ u B g cap, Below w.heap.size w u → u.ownsRow B 47 2 (.slice (some ⟨g, 0, none⟩) rn cap) rn (prs (rn * 2) (wpx wi none rn A) (wpx wi 0 rn L) (wpx wi 0 rn C)) → Calls Try.prog 10 #[.agg #[.int .i64 k, .int .i64 r, .int .i64 c, .int .i64 q], .slice (some ⟨g, 0, none⟩) rn cap] u fun e w' => e = .returned (.tuple #[.int .i64 y1, .bool z1, .int .i64 0]) ∧ Below u.heap.size u w') := fun u B g cap hu ho => Winner_any h u _ rn cap _ _ _ F (rw_own ho fun j hj => (hr.bec j hj).below hu) 0 hE' y1 hy1 z1 hz1
    rw [wins_congr (P' := wpd wi (hP rn c L F)) (Q' := wpd wi (hQ rn c L F)) (fun i hi => ⟨(hP_wpx rn c wi L F hi).1, hQ_wpx rn c wi L F hi⟩)] at hy1 hz1
    obtain ⟨ml, hml⟩ : ∃ ml, ml = (dl (fun d => !hbv (hP rn c L F) (hQ rn c L F) y0 d) rn).length := ⟨_, rfl⟩
    have HMS : Hid (∀ u, Below w.heap.size w u → z0 = true → Calls Try.prog 16 #[.agg #[.int .i64 k, .int .i64 r, .int .i64 c, .int .i64 q], .slice ro rn rc, .int .i64 y0] u fun e w' => ∃ a cap, e = .returned (.tuple #[.slice a ml cap, .int .i64 0]) ∧ Below u.heap.size u w') := fun u hu e => by
      rw [e] at hz0
      have hlen := (of_decide_eq_true hz0).2
      have hin := head_mem (l := wins k (hP rn c L F) (hQ rn c L F) rn) (fun a => by rw [a] at hlen; simp at hlen)
      rw [show (wins k (hP rn c L F) (hQ rn c L F) rn).getD 0 0 = y0 from hy0] at hin
      have hb : 1 ≤ y0 ∧ y0 ≤ 1073741824 := by
        obtain ⟨n0, d, _, h2⟩ := mem_tvL.1 (List.mem_filter.1 hin).1
        rcases h2 with a | a
        · have := hP_bd rn c L F d; omega
        · have := hQ_bd rn c L F d; omega
      have hc := Missing_any h u ro rn rc A L C F (hr.below hu) 0 hE y0 0 (by unfold erF; rw [if_pos rfl, if_pos hb]) _ rfl
      rw [if_pos rfl] at hc
      unfold AnsI at hc
      rw [← hml] at hc
      refine hc.mono ?_
      rintro e w' ⟨a, cap, h1, _, h3⟩
      exact ⟨a, cap, h1, h3⟩
    have hfacts : (z0 = false ∧ z1 = false) ∨ (z0 = true ∧ z1 = false ∧ (ml = 0 → k + ((dl wi rn).length : Int) ≤ (rn : Int) → False)) ∨ (z0 = true ∧ z1 = true ∧ y1 ≤ y0 ∧ (dl wi rn).length ≠ rn ∧ (ml = 0 → k + ((dl wi rn).length : Int) ≤ (rn : Int) → y1 = y0)) := by
      have hy0' : (wins k (hP rn c L F) (hQ rn c L F) rn).getD 0 0 = y0 := hy0
      have hy1' : (wins k (wpd wi (hP rn c L F)) (wpd wi (hQ rn c L F)) rn).getD 0 0 = y1 := hy1
      by_cases a : wins k (wpd wi (hP rn c L F)) (wpd wi (hQ rn c L F)) rn = []
      · have z1f : z1 = false := by rw [← hz1, a]; rfl
        by_cases b : wins k (hP rn c L F) (hQ rn c L F) rn = []
        · exact .inl ⟨by rw [← hz0, b]; rfl, z1f⟩
        · refine .inr (.inl ⟨?_, z1f, fun m0 hg => ?_⟩)
          · rw [← hz0]; exact decide_eq_true ⟨rfl, List.length_pos_iff.2 b⟩
          · exact (wiped_few hk b (by rw [hy0', ← hml]; exact m0) hg).1 a
      · obtain ⟨b, hle2⟩ := wiped_less hk a
        rw [hy0', hy1'] at hle2
        refine .inr (.inr ⟨?_, ?_, hle2, fun g => a (wiped_all hk g), fun m0 hg => ?_⟩)
        · rw [← hz0]; exact decide_eq_true ⟨rfl, List.length_pos_iff.2 b⟩
        · rw [← hz1]; exact decide_eq_true ⟨rfl, List.length_pos_iff.2 a⟩
        · have := (wiped_few hk b (by rw [hy0', ← hml]; exact m0) hg).2
          rw [hy0', hy1'] at this; exact this
    obtain ⟨gl, hgl⟩ : ∃ gl, gl = (dl wi rn).length := ⟨_, rfl⟩
    rw [← hgl] at hfacts
    have HGL : Hid (gl = (dl wi rn).length) := hgl
    have HFA : Hid _ := And.intro trivial hfacts
    clear hgl
    have HWI : Hid (wi = fun d => decide (d < tn) && V d) := hwi
    have HR : Hid (Rw w ro rn A L C F) := hr
    have hrp : 1 ≤ rn := h.some rfl
    have hkr2 : (rn : Int) = k + r := hkr
    have HKR : Hid ((rn : Int) = k + r) := hkr
    obtain ⟨i0, hi0, ha0, ha1, ha2⟩ := info_parts info47
    clear hfacts hwi hr h hE hE' hy0 hy1 hz0 hz1 hml hsz hkr hkr2 hk
    go_enter Try.func5, Try.ntmps5
    go_wp2_with fail
    rw [← hw0]
    clear hw0
    refine (HAW.out _).mono ?_
    rintro e wa ⟨rfl, ha⟩
    have BA : Hid (Below w0.heap.size w0 wa) := ha
    obtain ⟨s0, s1, s2, s3⟩ := HC.out wa BA.out
    clear ha
    go_wp2_with fail
    refine (HWN.out _ (below_then B0.out BA.out)).mono ?_
    rintro e wb ⟨rfl, hb⟩
    have BB : Hid (Below w0.heap.size w0 wb) := below_then BA.out hb
    clear s0 s1 s2 s3 hb
    obtain ⟨b, off, rfl, hcc⟩ := HR.out.at_ (by omega)
    have hnews := prs_news (w := wb) (b := b) (off := off) (rn := rn) (A := A) (L := L) (C := C) (fun i hi => ⟨held (hcc i hi).1 (below_then B0.out BB.out), held (hcc i hi).2 (below_then B0.out BB.out)⟩)
    clear hcc
    go_wp2_with (first
      | (at_builtin; refine wpList_append_own_at _ rfl _ _ 24 rfl wb.heap.size 47 i0 (.agg #[.slice none 0 0, .slice none 0 0]) 2 48 Try.underlying24 hi0 ha0 ha1 ha2 rfl (by decide) _ _ _ rfl (World.ownsRow_nil _ _ _ _) ⟨b, off, none⟩ rn rc (prs (rn * 2) A L C) rfl (prs_length _ _ _ _) hnews prs_one (by unfold maxLen; omega) (by omega) (Nat.le_refl _) ?_; intro v' w1 hown1 hgrow hnil hloc)
      | go_in)
    have BW : Hid (Below wb.heap.size wb w1) := (Below.refl _ wb).grown hgrow (Nat.le_refl _) (fun j hj => by cases hj)
    rw [Nat.zero_add, List.nil_append] at hown1
    obtain ⟨g, cap, rfl⟩ : ∃ g cap, v' = .slice (some ⟨g, 0, none⟩) rn cap := by
      rcases hown1.2 with ⟨_, h2⟩ | ⟨g, cp, cur, h2, _⟩
      · omega
      · exact ⟨g, cp, h2⟩
    have HO1 : Hid (w1.ownsRow wb.heap.size 47 2 (.slice (some ⟨g, 0, none⟩) rn cap) rn (prs (rn * 2) A L C)) := hown1
    clear hown1 hgrow hnil hloc hnews
    go_loopw [12, 13] (fun gv y wr => ∃ (i gg : Nat), i ≤ rn ∧ y = .int .i64 (i : Int) ∧ gv = .int .i64 (gg : Int) ∧ gg ≤ i ∧ Hid (gg = (dl wi i).length) ∧ Hid (wr.ownsRow wb.heap.size 47 2 (.slice (some ⟨g, 0, none⟩) rn cap) rn (prs (rn * 2) (wpx wi none i A) (wpx wi 0 i L) (wpx wi 0 i C))) ∧ Hid (Below wb.heap.size wb wr)) (fun _ y _ => rn - (intOf y).toNat)
    case atStart =>
      refine ⟨0, 0, Nat.zero_le _, rfl, rfl, Nat.le_refl _, rfl, ?_, BW.out⟩
      show World.ownsRow _ _ _ _ _ _ _
      rw [wpx_0, wpx_0, wpx_0]; exact HO1.out
    case round =>
      obtain ⟨i, gg, hi, rfl, rfl, hgi, hgg, hown, hbw⟩ := hrel
      have BE : Hid (Below w0.heap.size w0 wr) := below_then BB.out hbw.out
      by_cases hlt : i < rn
      · have i1 : (0 : Int) ≤ (i : Int) := by omega
        have i2 : (i : Int) < (rn : Int) := by omega
        by_cases htn : i < tn
        · obtain ⟨tb, toff, rfl, htc⟩ := HT.out (by omega)
          have ct0 : wr.cell? ⟨tb, toff + i, none⟩ = some (.bool (V i)) := held (htc i htn) (below_then B0.out BE.out)
          have hwv : wi i = V i := by rw [HWI.out]; simp [htn]
          have i4 : (i : Int) < (tn : Int) := by omega
          clear htc
          cases hV : V i
          · rw [hV] at ct0 hwv
            have HWV : Hid (wi i = false) := hwv
            clear hwv hV
            go_wp2_with fail
            go_roundw
            case rel =>
              refine ⟨i + 1, gg, by omega, by go_num, rfl, by omega, ?_, ?_, hbw.out⟩
              · show _ = _
                rw [dl, HWV.out]; exact hgg.out
              · show World.ownsRow _ _ _ _ _ _ _
                rw [wpx_no _ _ HWV.out, wpx_no _ _ HWV.out, wpx_no _ _ HWV.out]; exact hown.out
            case measure => simp [intOf]; omega
          · rw [hV] at ct0 hwv
            have HWV : Hid (wi i = true) := hwv
            clear hwv hV
            have k0 : wr.cell? ⟨g, i * 2, none⟩ = some _ := (World.ownsRow.cellAt hown.out (i * 2) (by omega)).trans (prs_get _ _ _ (by omega))
            have k1 : wr.cell? ⟨g, i * 2 + 1, none⟩ = some _ := (World.ownsRow.cellAt hown.out (i * 2 + 1) (by omega)).trans (prs_get _ _ _ (by omega))
            have kf := fun j => World.ownsRow.frozenAt hown.out j
            have hgl2 := (World.ownsRow.lt hown.out g rfl)
            go_wp2_with fail
            go_roundw
            case rel =>
              refine ⟨i + 1, gg + 1, by omega, by go_num, by go_num, by omega, ?_, ?_, ?_⟩
              · show _ = _
                rw [dl, HWV.out, if_pos rfl, List.length_append, ← hgg.out]; rfl
              · show World.ownsRow _ _ _ _ _ _ _
                have q1 := (World.ownsRow.stored hown.out (i * 2) (.slice none 0 0)).1
                rw [prs_set] at q1
                have q2 := (World.ownsRow.stored q1 (i * 2 + 1) (.slice none 0 0)).1
                rw [prs_set, wpx_yes _ _ HWV.out, wpx_yes _ _ HWV.out, wpx_yes _ _ HWV.out] at q2
                exact q2
              · exact b_at (b_at hbw.out hgl2.1 _) hgl2.1 _
            case measure => simp [intOf]; omega
        · have i4 : ¬ (i : Int) < (tn : Int) := by omega
          have hoff : ∀ d, i ≤ d → d < rn → wi d = false := fun d h1 _ => by rw [HWI.out]; simp; omega
          have HGG : Hid (gg = gl) := by show _ = _; rw [hgg.out, HGL.out, dl_end (by omega) hoff]
          have HO : Hid (wr.ownsRow wb.heap.size 47 2 (.slice (some ⟨g, 0, none⟩) rn cap) rn (prs (rn * 2) (wpx wi none rn A) (wpx wi 0 rn L) (wpx wi 0 rn C))) := by
            show World.ownsRow _ _ _ _ _ _ _
            rw [← wpx_end none A (by omega) hoff, ← wpx_end 0 L (by omega) hoff, ← wpx_end 0 C (by omega) hoff]; exact hown.out
          clear hoff
          obtain ⟨s0, s1, s2, s3⟩ := HC.out wr BE.out
          go_wp2_with fail
          refine (HN2.out _ _ g cap (below_then B0.out BE.out) HO.out).mono ?_
          rintro e wc ⟨rfl, hc⟩
          have BC : Hid (Below wr.heap.size wr wc) := hc
          clear hc s0 s1 s2 s3
          obtain ⟨s0, s1, s2, s3⟩ := HC.out wc (below_then BE.out BC.out)
          rcases HFA.out.2 with ⟨rfl, rfl⟩ | ⟨rfl, rfl, hf⟩ | ⟨rfl, rfl, hyy, hgn, hf⟩
          · by_cases hg : gg = rn
            · have g1 : ((gg : Int) == (rn : Int)) = true := by simp; omega
              clear hg
              go_wp2_with fail
              go_ret
              exact ⟨rfl, below_then B0.out (below_then BE.out BC.out)⟩
            · have g1 : ((gg : Int) == (rn : Int)) = false := by simp; omega
              go_wp2_with fail
              go_ret
              exact ⟨rfl, below_then B0.out (below_then BE.out BC.out)⟩
          · by_cases hg : gg = rn
            · have g1 : ((gg : Int) == (rn : Int)) = true := by simp; omega
              clear hg
              go_wp2_with fail
              refine (HMS.out _ (below_then B0.out (below_then BE.out BC.out)) (by trivial)).mono ?_
              rintro e wd ⟨am, capm, rfl, hd⟩
              have BD : Hid (Below wc.heap.size wc wd) := hd
              clear hd s0 s1 s2 s3
              obtain ⟨s0, s1, s2, s3⟩ := HC.out wd (below_then BE.out (below_then BC.out BD.out))
              by_cases m0 : (0 : Int) < (ml : Int)
              · have m1 : decide ((0 : Int) < (ml : Int)) = true := decide_eq_true m0
                have m2 : 0 < ml := by omega
                go_wp2_with fail
                go_ret
                exact ⟨rfl, below_then B0.out (below_then BE.out (below_then BC.out BD.out))⟩
              · have m1 : decide ((0 : Int) < (ml : Int)) = false := decide_eq_false m0
                have m2 : ¬ 0 < ml := by omega
                by_cases r0 : r < (gg : Int)
                · have r1 : decide (r < (gg : Int)) = true := decide_eq_true r0
                  go_wp2_with fail
                  go_ret
                  exact ⟨rfl, below_then B0.out (below_then BE.out (below_then BC.out BD.out))⟩
                · have r1 : decide (r < (gg : Int)) = false := decide_eq_false r0
                  exact (hf (by omega) (by have := HKR.out; have := HGG.out; omega)).elim
            · have g1 : ((gg : Int) == (rn : Int)) = false := by simp; omega
              go_wp2_with fail
              refine (HMS.out _ (below_then B0.out (below_then BE.out BC.out)) (by trivial)).mono ?_
              rintro e wd ⟨am, capm, rfl, hd⟩
              have BD : Hid (Below wc.heap.size wc wd) := hd
              clear hd s0 s1 s2 s3
              obtain ⟨s0, s1, s2, s3⟩ := HC.out wd (below_then BE.out (below_then BC.out BD.out))
              by_cases m0 : (0 : Int) < (ml : Int)
              · have m1 : decide ((0 : Int) < (ml : Int)) = true := decide_eq_true m0
                have m2 : 0 < ml := by omega
                go_wp2_with fail
                go_ret
                exact ⟨rfl, below_then B0.out (below_then BE.out (below_then BC.out BD.out))⟩
              · have m1 : decide ((0 : Int) < (ml : Int)) = false := decide_eq_false m0
                have m2 : ¬ 0 < ml := by omega
                by_cases r0 : r < (gg : Int)
                · have r1 : decide (r < (gg : Int)) = true := decide_eq_true r0
                  go_wp2_with fail
                  go_ret
                  exact ⟨rfl, below_then B0.out (below_then BE.out (below_then BC.out BD.out))⟩
                · have r1 : decide (r < (gg : Int)) = false := decide_eq_false r0
                  exact (hf (by omega) (by have := HKR.out; have := HGG.out; omega)).elim
          · have g1 : ((gg : Int) == (rn : Int)) = false := by simp; have := HGG.out; omega
            have y3 : ¬ y0 < y1 := by omega
            go_wp2_with fail
            refine (HMS.out _ (below_then B0.out (below_then BE.out BC.out)) (by trivial)).mono ?_
            rintro e wd ⟨am, capm, rfl, hd⟩
            have BD : Hid (Below wc.heap.size wc wd) := hd
            clear hd s0 s1 s2 s3
            obtain ⟨s0, s1, s2, s3⟩ := HC.out wd (below_then BE.out (below_then BC.out BD.out))
            by_cases m0 : (0 : Int) < (ml : Int)
            · have m1 : decide ((0 : Int) < (ml : Int)) = true := decide_eq_true m0
              have m2 : 0 < ml := by omega
              go_wp2_with fail
              go_ret
              exact ⟨rfl, below_then B0.out (below_then BE.out (below_then BC.out BD.out))⟩
            · have m1 : decide ((0 : Int) < (ml : Int)) = false := decide_eq_false m0
              have m2 : ¬ 0 < ml := by omega
              by_cases r0 : r < (gg : Int)
              · have r1 : decide (r < (gg : Int)) = true := decide_eq_true r0
                go_wp2_with fail
                go_ret
                exact ⟨rfl, below_then B0.out (below_then BE.out (below_then BC.out BD.out))⟩
              · have r1 : decide (r < (gg : Int)) = false := decide_eq_false r0
                have y2 : (y1 == y0) = true := by
                  have := hf (by omega) (by have := HKR.out; have := HGG.out; omega)
                  simpa using this
                go_wp2_with fail
                go_ret
                exact ⟨rfl, below_then B0.out (below_then BE.out (below_then BC.out BD.out))⟩
      · have hie : i = rn := by omega
        have i4 : ¬ (i : Int) < (rn : Int) := by omega
        have HGG : Hid (gg = gl) := by show _ = _; rw [hgg.out, HGL.out, hie]
        have HO : Hid (wr.ownsRow wb.heap.size 47 2 (.slice (some ⟨g, 0, none⟩) rn cap) rn (prs (rn * 2) (wpx wi none rn A) (wpx wi 0 rn L) (wpx wi 0 rn C))) := by
          show World.ownsRow _ _ _ _ _ _ _
          rw [hie] at hown; exact hown.out
        clear hie
        obtain ⟨s0, s1, s2, s3⟩ := HC.out wr BE.out
        go_wp2_with fail
        refine (HN2.out _ _ g cap (below_then B0.out BE.out) HO.out).mono ?_
        rintro e wc ⟨rfl, hc⟩
        have BC : Hid (Below wr.heap.size wr wc) := hc
        clear hc s0 s1 s2 s3
        obtain ⟨s0, s1, s2, s3⟩ := HC.out wc (below_then BE.out BC.out)
        rcases HFA.out.2 with ⟨rfl, rfl⟩ | ⟨rfl, rfl, hf⟩ | ⟨rfl, rfl, hyy, hgn, hf⟩
        · by_cases hg : gg = rn
          · have g1 : ((gg : Int) == (rn : Int)) = true := by simp; omega
            clear hg
            go_wp2_with fail
            go_ret
            exact ⟨rfl, below_then B0.out (below_then BE.out BC.out)⟩
          · have g1 : ((gg : Int) == (rn : Int)) = false := by simp; omega
            go_wp2_with fail
            go_ret
            exact ⟨rfl, below_then B0.out (below_then BE.out BC.out)⟩
        · by_cases hg : gg = rn
          · have g1 : ((gg : Int) == (rn : Int)) = true := by simp; omega
            clear hg
            go_wp2_with fail
            refine (HMS.out _ (below_then B0.out (below_then BE.out BC.out)) (by trivial)).mono ?_
            rintro e wd ⟨am, capm, rfl, hd⟩
            have BD : Hid (Below wc.heap.size wc wd) := hd
            clear hd s0 s1 s2 s3
            obtain ⟨s0, s1, s2, s3⟩ := HC.out wd (below_then BE.out (below_then BC.out BD.out))
            by_cases m0 : (0 : Int) < (ml : Int)
            · have m1 : decide ((0 : Int) < (ml : Int)) = true := decide_eq_true m0
              have m2 : 0 < ml := by omega
              go_wp2_with fail
              go_ret
              exact ⟨rfl, below_then B0.out (below_then BE.out (below_then BC.out BD.out))⟩
            · have m1 : decide ((0 : Int) < (ml : Int)) = false := decide_eq_false m0
              have m2 : ¬ 0 < ml := by omega
              by_cases r0 : r < (gg : Int)
              · have r1 : decide (r < (gg : Int)) = true := decide_eq_true r0
                go_wp2_with fail
                go_ret
                exact ⟨rfl, below_then B0.out (below_then BE.out (below_then BC.out BD.out))⟩
              · have r1 : decide (r < (gg : Int)) = false := decide_eq_false r0
                exact (hf (by omega) (by have := HKR.out; have := HGG.out; omega)).elim
          · have g1 : ((gg : Int) == (rn : Int)) = false := by simp; omega
            go_wp2_with fail
            refine (HMS.out _ (below_then B0.out (below_then BE.out BC.out)) (by trivial)).mono ?_
            rintro e wd ⟨am, capm, rfl, hd⟩
            have BD : Hid (Below wc.heap.size wc wd) := hd
            clear hd s0 s1 s2 s3
            obtain ⟨s0, s1, s2, s3⟩ := HC.out wd (below_then BE.out (below_then BC.out BD.out))
            by_cases m0 : (0 : Int) < (ml : Int)
            · have m1 : decide ((0 : Int) < (ml : Int)) = true := decide_eq_true m0
              have m2 : 0 < ml := by omega
              go_wp2_with fail
              go_ret
              exact ⟨rfl, below_then B0.out (below_then BE.out (below_then BC.out BD.out))⟩
            · have m1 : decide ((0 : Int) < (ml : Int)) = false := decide_eq_false m0
              have m2 : ¬ 0 < ml := by omega
              by_cases r0 : r < (gg : Int)
              · have r1 : decide (r < (gg : Int)) = true := decide_eq_true r0
                go_wp2_with fail
                go_ret
                exact ⟨rfl, below_then B0.out (below_then BE.out (below_then BC.out BD.out))⟩
              · have r1 : decide (r < (gg : Int)) = false := decide_eq_false r0
                exact (hf (by omega) (by have := HKR.out; have := HGG.out; omega)).elim
        · have g1 : ((gg : Int) == (rn : Int)) = false := by simp; have := HGG.out; omega
          have y3 : ¬ y0 < y1 := by omega
          go_wp2_with fail
          refine (HMS.out _ (below_then B0.out (below_then BE.out BC.out)) (by trivial)).mono ?_
          rintro e wd ⟨am, capm, rfl, hd⟩
          have BD : Hid (Below wc.heap.size wc wd) := hd
          clear hd s0 s1 s2 s3
          obtain ⟨s0, s1, s2, s3⟩ := HC.out wd (below_then BE.out (below_then BC.out BD.out))
          by_cases m0 : (0 : Int) < (ml : Int)
          · have m1 : decide ((0 : Int) < (ml : Int)) = true := decide_eq_true m0
            have m2 : 0 < ml := by omega
            go_wp2_with fail
            go_ret
            exact ⟨rfl, below_then B0.out (below_then BE.out (below_then BC.out BD.out))⟩
          · have m1 : decide ((0 : Int) < (ml : Int)) = false := decide_eq_false m0
            have m2 : ¬ 0 < ml := by omega
            by_cases r0 : r < (gg : Int)
            · have r1 : decide (r < (gg : Int)) = true := decide_eq_true r0
              go_wp2_with fail
              go_ret
              exact ⟨rfl, below_then B0.out (below_then BE.out (below_then BC.out BD.out))⟩
            · have r1 : decide (r < (gg : Int)) = false := decide_eq_false r0
              have y2 : (y1 == y0) = true := by
                have := hf (by omega) (by have := HKR.out; have := HGG.out; omega)
                simpa using this
              go_wp2_with fail
              go_ret
              exact ⟨rfl, below_then B0.out (below_then BE.out (below_then BC.out BD.out))⟩
  · have hq : (E != 0) = true := by simpa using e0
    obtain rfl : z0 = false := by rw [← hz0]; exact decide_eq_false fun a => e0 a.1
    clear hy0 hz0 hr h
    go_enter Try.func5, Try.ntmps5
    go_wp2_with fail
    rw [← hw0]
    clear hw0
    refine (HAW.out _).mono ?_
    rintro e wa ⟨rfl, ha⟩
    have BA : Hid (Below w0.heap.size w0 wa) := ha
    obtain ⟨s0, s1, s2, s3⟩ := HC.out wa BA.out
    clear ha
    go_wp2_with fail
    refine (HWN.out _ (below_then B0.out BA.out)).mono ?_
    rintro e wb ⟨rfl, hb⟩
    have BB : Hid (Below w0.heap.size w0 wb) := below_then BA.out hb
    clear s0 s1 s2 s3 hb
    go_wp2_with fail
    go_ret
    exact ⟨rfl, below_then B0.out BB.out⟩
end Go.Proofs.Ytmlnbnbgkpbjeaa
