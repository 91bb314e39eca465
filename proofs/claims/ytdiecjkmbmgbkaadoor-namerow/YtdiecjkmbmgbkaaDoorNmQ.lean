/- NameRow's walk. -/
import Derived.Test.YtdiecjkmbmgbkaaDoorNmN
namespace Go.Proofs.YtdiecjkmbmgbkaaDoor
open Go.RowKit

/-- Whether a name was met among the first k. -/
def Met (L : List Nm) (y : Nm) (k : Nat) (b : Bool) : Prop := b = true ↔ ∃ j, ∃ hj : j < L.length, j < k ∧ L[j]'hj = y
theorem met_zero (L : List Nm) (y : Nm) : Met L y 0 false := by
  constructor
  · intro h; cases h
  · rintro ⟨j, _, h, _⟩; omega
theorem met_more {L : List Nm} {y : Nm} {k : Nat} (h : Met L y k true) : Met L y (k + 1) true := by
  constructor
  · intro _
    obtain ⟨j, hj, h1, h2⟩ := h.1 rfl
    exact ⟨j, hj, by omega, h2⟩
  · intro _; rfl
theorem met_hit {L : List Nm} {y : Nm} {k : Nat} (hk : k < L.length) (e : L[k] = y) : Met L y (k + 1) true := by
  constructor
  · intro _; exact ⟨k, hk, by omega, e⟩
  · intro _; rfl
theorem met_miss {L : List Nm} {y : Nm} {k : Nat} (h : Met L y k false) (hk : k < L.length) (e : L[k] ≠ y) : Met L y (k + 1) false := by
  constructor
  · intro h; cases h
  · rintro ⟨j, hj, h1, h2⟩
    by_cases g : j = k
    · subst g; exact absurd h2 e
    · exact h.2 ⟨j, hj, by omega, h2⟩
theorem met_end {L : List Nm} {y : Nm} {b : Bool} (h : Met L y L.length b) (hy : y ∈ L) : b = true := by
  obtain ⟨j, hj, e⟩ := List.mem_iff_getElem.1 hy
  exact h.2 ⟨j, hj, hj, e⟩
set_option maxHeartbeats 4000000 in
set_option maxRecDepth 100000 in
theorem row_law (w : World) (hsy : Syn w) (p : Option Addr) (len cap : Nat) (L : List Nm) (hL : L.length = len) (hr : RdS w p L) : Calls Tryd.prog 8 #[.slice p len cap] w fun e w' => e = .returned (.bool true) ∧ Below w.heap.size w w' := by
  subst hL
  have HA := alive_any w hsy
  by_cases hbig : L.length ≤ 300
  · have lb : (L.length : Int) ≤ 300 := by omega
    have HR : Hid (RdS w p L) := hr
    clear hr hsy
    go_enter Tryd.func8, Tryd.ntmps8
    go_wp2_with (fail)
    refine HA.mono ?_
    rintro _ w1 ⟨rfl, b1⟩
    clear HA
    go_wp2_with (fail)
    refine (Sort_any L (by omega) p cap w1 (HR.out.below b1)).mono ?_
    rintro _ w2 ⟨ao, cp, rfl, hcp, ho, b2⟩
    have HB : Hid (Below w.heap.size w w2) := below_then b1 b2
    have HR2 : Hid (RdS w2 p L) := HR.out.below HB.out
    clear b1 b2 HR
    by_cases hg : L.all may = true
    · have hE : erS L = 0 ∧ rowS L = srt L := erS_good (show L.length ≤ 65536 by omega) (fun j hj => List.all_eq_true.1 hg _ (List.getElem_mem hj))
      have hml := srt_mem L
      have hIn := srt_inc L
      have hSl := srt_length L
      have hSS : erS (srt L) = 0 ∧ rowS (srt L) = srt L := by
        obtain ⟨g1, g2⟩ := erS_good (L := srt L) (by omega) (fun j hj => List.all_eq_true.1 hg _ ((hml _).1 (List.getElem_mem hj)))
        exact ⟨g1, g2.trans (srt_srt L)⟩
      obtain ⟨S, hS⟩ : ∃ S, S = srt L := ⟨_, rfl⟩
      rw [hE.2, ← hS] at ho hcp
      rw [hE.1, hE.2, ← hS]
      rw [← hS] at hml hIn hSl hSS
      have HO : Hid (RdS w2 ao S) := ho.rd
      have HML : Hid (∀ z, z ∈ S ↔ z ∈ L) := hml
      have HIN : Hid (Inc S) := hIn
      have HSS : Hid (erS S = 0 ∧ rowS S = S) := hSS
      clear hE hml hIn hSS hS ho hg
      go_wp2_with (fail)
      go_loopw [6] (fun x wr => ∃ i : Nat, i ≤ S.length ∧ x = .int .i64 (i : Int) ∧ Hid (Below w2.heap.size w2 wr)) (fun x _ => S.length - (intOf x).toNat)
      case atStart => exact ⟨0, Nat.zero_le _, rfl, Below.refl _ _⟩
      case round =>
        obtain ⟨i, hi, rfl, hb⟩ := hrel
        have i0 : (0 : Int) ≤ (i : Int) := by omega
        by_cases hlt : i < S.length
        · have i1 : (i : Int) < (S.length : Int) := by omega
          obtain ⟨b, off, rfl, hc⟩ := HO.out.below hb.out (by intro e; rw [e] at hlt; simp at hlt)
          have ck := hc i hlt
          have HYS : Hid (S[i]'hlt ∈ S) := List.getElem_mem hlt
          have HCY : Hid (∀ u, Below w2.heap.size w2 u → u.cell? ⟨b, off + i, none⟩ = some (.string ⟨(S[i]'hlt).toArray⟩)) := by
            obtain ⟨b', off', e, hc'⟩ := HO.out (by intro e; rw [e] at hlt; simp at hlt)
            cases e
            exact fun u hu => held (hc' i hlt) hu
          by_cases hi0 : i = 0
          · obtain ⟨y, hy⟩ : ∃ y, y = S[i]'hlt := ⟨_, rfl⟩
            rw [← hy] at ck HYS HCY
            have i9 : (i : Int) ≤ 0 := by omega
            clear hc hy
            go_wp2_with (fail)
            go_quiet (fail)
            clear hi0
            obtain ⟨W, hW⟩ : ∃ W, W = wr.drewN nq := ⟨_, rfl⟩
            rw [← hW]
            have HBW : Hid (Below w2.heap.size w2 W) := by rw [hW]; exact hb.out.trans (below_drewN _ _ _)
            have HY : Hid (y ∈ L) := (HML.out y).1 HYS.out
            clear hW
            go_wp2_with (fail)
            go_loopw [7, 8] (fun z x wq => ∃ (k : Nat) (bb : Bool), k ≤ L.length ∧ z = .bool bb ∧ x = .int .i64 (k : Int) ∧ Hid (Met L y k bb) ∧ Hid (Below W.heap.size W wq)) (fun _ x _ => L.length - (intOf x).toNat)
            case atStart => exact ⟨0, false, Nat.zero_le _, rfl, rfl, met_zero L y, Below.refl _ _⟩
            case round =>
              obtain ⟨k, bb, hk, rfl, rfl, hbb, hbq⟩ := hrel
              have k0 : (0 : Int) ≤ (k : Int) := by omega
              have hB2 : Below w2.heap.size w2 wr := HBW.out.trans (hbq.out.mono HBW.out.size)
              by_cases hkl : k < L.length
              · have k1 : (k : Int) < (L.length : Int) := by omega
                obtain ⟨lb', lo', rfl, hcl⟩ := HR2.out.below hB2 (by intro e; rw [e] at hkl; simp at hkl)
                have cl := hcl k hkl
                have cs := HCY.out wr hB2
                clear hcl
                by_cases hbt : bb = true
                · subst hbt
                  have HN : Hid (Met L y (k + 1) true) := met_more hbb.out
                  clear hbb
                  go_wp2_with (fail)
                  go_quiet (fail)
                  go_wp2_with (fail)
                  go_roundw
                  case rel => exact ⟨k + 1, true, by omega, rfl, by go_num, HN, hbq.out.trans (below_drewN _ _ _)⟩
                  case measure => simp [intOf]; omega
                · have hbf : bb = false := by simpa using hbt
                  subst hbf
                  by_cases he : L[k]'hkl = y
                  · have HN : Hid (Met L y (k + 1) true) := met_hit hkl he
                    rw [he] at cl
                    clear hbb
                    go_wp2_with (fail)
                    go_quiet (fail)
                    go_wp2_with (fail)
                    go_roundw
                    case rel => exact ⟨k + 1, true, by omega, rfl, by go_num, HN, hbq.out.trans (below_drewN _ _ _)⟩
                    case measure => simp [intOf]; omega
                  · have HN : Hid (Met L y (k + 1) false) := met_miss hbb.out hkl he
                    obtain ⟨x, hx⟩ : ∃ x, x = L[k]'hkl := ⟨_, rfl⟩
                    rw [← hx] at cl he
                    have hxy : (x == y) = false := beq_eq_false_iff_ne.2 he
                    clear hbb hx he
                    go_wp2_with (fail)
                    go_quiet (fail)
                    go_wp2_with (fail)
                    go_roundw
                    case rel => exact ⟨k + 1, false, by omega, rfl, by go_num, HN, hbq.out.trans (below_drewN _ _ _)⟩
                    case measure => simp [intOf]; omega
              · obtain rfl : k = L.length := by omega
                have hbt : bb = true := met_end hbb.out HY.out
                subst hbt
                have HBE : Hid (Below w2.heap.size w2 wr) := hB2
                clear hbb
                go_wp2_with (fail)
                go_roundw
                case rel => exact ⟨i + 1, by omega, by go_num, HBE⟩
                case measure => simp [intOf]; omega
          · obtain ⟨m, hm⟩ : ∃ m, i = m + 1 := ⟨i - 1, by omega⟩
            have cm := hc m (by omega)
            have HLS : Hid (∀ u, Calls Tryd.prog 20 #[.string ⟨(S[m]'(by omega)).toArray⟩, .string ⟨(S[i]'hlt).toArray⟩] u fun e w' => e = .returned (.bool true) ∧ w' = u) := fun u => by
              have := Less_any (S[m]'(by omega)) (S[i]'hlt) u
              rw [decide_eq_true (List.pairwise_iff_getElem.1 HIN.out m i (by omega) hlt (by omega))] at this
              exact this
            obtain ⟨z, hz⟩ : ∃ z, z = S[m]'(by omega) := ⟨_, rfl⟩
            obtain ⟨y, hy⟩ : ∃ y, y = S[i]'hlt := ⟨_, rfl⟩
            rw [← hz] at cm HLS
            rw [← hy] at ck HYS HCY HLS
            have im : (i : Int) - 1 = (m : Int) := by omega
            have iw : IntKind.i64.wrap (m : Int) = (m : Int) := by rw [IntKind.wrap_i64]; omega
            have m0 : (0 : Int) ≤ (m : Int) := by omega
            have m1 : (m : Int) < (S.length : Int) := by omega
            have i9 : 0 < i := by omega
            have i8 : 0 < (i : Int) := by omega
            clear hc hy hz hm
            go_wp2_with (fail)
            go_quiet ((go_at_call 20; exact Calls.quiet_of_same (HLS.out _)))
            obtain ⟨W, hW⟩ : ∃ W, W = wr.drewN nq := ⟨_, rfl⟩
            rw [← hW]
            have HBW : Hid (Below w2.heap.size w2 W) := by rw [hW]; exact hb.out.trans (below_drewN _ _ _)
            have HY : Hid (y ∈ L) := (HML.out y).1 HYS.out
            clear hW
            go_wp2_with (fail)
            go_loopw [7, 8] (fun z x wq => ∃ (k : Nat) (bb : Bool), k ≤ L.length ∧ z = .bool bb ∧ x = .int .i64 (k : Int) ∧ Hid (Met L y k bb) ∧ Hid (Below W.heap.size W wq)) (fun _ x _ => L.length - (intOf x).toNat)
            case atStart => exact ⟨0, false, Nat.zero_le _, rfl, rfl, met_zero L y, Below.refl _ _⟩
            case round =>
              obtain ⟨k, bb, hk, rfl, rfl, hbb, hbq⟩ := hrel
              have k0 : (0 : Int) ≤ (k : Int) := by omega
              have hB2 : Below w2.heap.size w2 wr := HBW.out.trans (hbq.out.mono HBW.out.size)
              by_cases hkl : k < L.length
              · have k1 : (k : Int) < (L.length : Int) := by omega
                obtain ⟨lb', lo', rfl, hcl⟩ := HR2.out.below hB2 (by intro e; rw [e] at hkl; simp at hkl)
                have cl := hcl k hkl
                have cs := HCY.out wr hB2
                clear hcl
                by_cases hbt : bb = true
                · subst hbt
                  have HN : Hid (Met L y (k + 1) true) := met_more hbb.out
                  clear hbb
                  go_wp2_with (fail)
                  go_quiet (fail)
                  go_wp2_with (fail)
                  go_roundw
                  case rel => exact ⟨k + 1, true, by omega, rfl, by go_num, HN, hbq.out.trans (below_drewN _ _ _)⟩
                  case measure => simp [intOf]; omega
                · have hbf : bb = false := by simpa using hbt
                  subst hbf
                  by_cases he : L[k]'hkl = y
                  · have HN : Hid (Met L y (k + 1) true) := met_hit hkl he
                    rw [he] at cl
                    clear hbb
                    go_wp2_with (fail)
                    go_quiet (fail)
                    go_wp2_with (fail)
                    go_roundw
                    case rel => exact ⟨k + 1, true, by omega, rfl, by go_num, HN, hbq.out.trans (below_drewN _ _ _)⟩
                    case measure => simp [intOf]; omega
                  · have HN : Hid (Met L y (k + 1) false) := met_miss hbb.out hkl he
                    obtain ⟨x, hx⟩ : ∃ x, x = L[k]'hkl := ⟨_, rfl⟩
                    rw [← hx] at cl he
                    have hxy : (x == y) = false := beq_eq_false_iff_ne.2 he
                    clear hbb hx he
                    go_wp2_with (fail)
                    go_quiet (fail)
                    go_wp2_with (fail)
                    go_roundw
                    case rel => exact ⟨k + 1, false, by omega, rfl, by go_num, HN, hbq.out.trans (below_drewN _ _ _)⟩
                    case measure => simp [intOf]; omega
              · obtain rfl : k = L.length := by omega
                have hbt : bb = true := met_end hbb.out HY.out
                subst hbt
                have HBE : Hid (Below w2.heap.size w2 wr) := hB2
                clear hbb
                go_wp2_with (fail)
                go_roundw
                case rel => exact ⟨i + 1, by omega, by go_num, HBE⟩
                case measure => simp [intOf]; omega
        · obtain rfl : i = S.length := by omega
          have HBL : Hid (Below w2.heap.size w2 wr) := hb
          clear hb
          go_wp2_with (fail)
          go_loopw [9] (fun x wp => ∃ k : Nat, k ≤ L.length ∧ x = .int .i64 (k : Int) ∧ Hid (Below w2.heap.size w2 wp)) (fun x _ => L.length - (intOf x).toNat)
          case atStart => exact ⟨0, Nat.zero_le _, rfl, HBL.out⟩
          case round =>
            obtain ⟨k, hk, rfl, hb⟩ := hrel
            have k0 : (0 : Int) ≤ (k : Int) := by omega
            by_cases hkl : k < L.length
            · have k1 : (k : Int) < (L.length : Int) := by omega
              have hLne : L ≠ [] := by intro e; rw [e] at hkl; simp at hkl
              obtain ⟨b, off, rfl, hc⟩ := HR2.out hLne
              obtain ⟨y, hy⟩ : ∃ y, y = L[k]'hkl := ⟨_, rfl⟩
              have HCY : Hid (∀ u, Below w2.heap.size w2 u → u.cell? ⟨b, off + k, none⟩ = some (.string ⟨y.toArray⟩)) := fun u hu => by rw [hy]; exact held (hc k hkl) hu
              have HYS : Hid (y ∈ S) := by rw [hy]; exact (HML.out _).2 (List.getElem_mem hkl)
              clear hc hy
              go_wp2_with (fail)
              go_loopw [10, 11] (fun z x wq => ∃ (i : Nat) (bb : Bool), i ≤ S.length ∧ z = .bool bb ∧ x = .int .i64 (i : Int) ∧ Hid (Met S y i bb) ∧ Hid (Below w2.heap.size w2 wq)) (fun _ x _ => S.length - (intOf x).toNat)
              case atStart => exact ⟨0, false, Nat.zero_le _, rfl, rfl, met_zero S y, hb.out⟩
              case round =>
                obtain ⟨i, bb, hi, rfl, rfl, hbb, hbq⟩ := hrel
                have i0 : (0 : Int) ≤ (i : Int) := by omega
                by_cases hil : i < S.length
                · have i1 : (i : Int) < (S.length : Int) := by omega
                  obtain ⟨sb, so, rfl, hcs⟩ := HO.out.below hbq.out (by intro e; rw [e] at hil; simp at hil)
                  have cs := hcs i hil
                  have cl := HCY.out wr hbq.out
                  clear hcs
                  by_cases hbt : bb = true
                  · subst hbt
                    have HN : Hid (Met S y (i + 1) true) := met_more hbb.out
                    clear hbb
                    go_wp2_with (fail)
                    go_quiet (fail)
                    go_wp2_with (fail)
                    go_roundw
                    case rel => exact ⟨i + 1, true, by omega, rfl, by go_num, HN, hbq.out.trans (below_drewN _ _ _)⟩
                    case measure => simp [intOf]; omega
                  · have hbf : bb = false := by simpa using hbt
                    subst hbf
                    by_cases he : S[i]'hil = y
                    · have HN : Hid (Met S y (i + 1) true) := met_hit hil he
                      rw [he] at cs
                      clear hbb
                      go_wp2_with (fail)
                      go_quiet (fail)
                      go_wp2_with (fail)
                      go_roundw
                      case rel => exact ⟨i + 1, true, by omega, rfl, by go_num, HN, hbq.out.trans (below_drewN _ _ _)⟩
                      case measure => simp [intOf]; omega
                    · have HN : Hid (Met S y (i + 1) false) := met_miss hbb.out hil he
                      obtain ⟨x, hx⟩ : ∃ x, x = S[i]'hil := ⟨_, rfl⟩
                      rw [← hx] at cs he
                      have hxy : (y == x) = false := beq_eq_false_iff_ne.2 (fun e => he e.symm)
                      clear hbb hx he
                      go_wp2_with (fail)
                      go_quiet (fail)
                      go_wp2_with (fail)
                      go_roundw
                      case rel => exact ⟨i + 1, false, by omega, rfl, by go_num, HN, hbq.out.trans (below_drewN _ _ _)⟩
                      case measure => simp [intOf]; omega
                · obtain rfl : i = S.length := by omega
                  have hbt : bb = true := met_end hbb.out HYS.out
                  subst hbt
                  clear hbb
                  go_wp2_with (fail)
                  go_roundw
                  case rel => exact ⟨k + 1, by omega, by go_num, hbq⟩
                  case measure => simp [intOf]; omega
            · obtain rfl : k = L.length := by omega
              have HOb : RdS wr ao S := HO.out.below hb.out
              have HST := Sort_any S (by omega) ao cp wr HOb
              unfold AnsS at HST
              rw [HSS.out.1, HSS.out.2] at HST
              have HBF : Hid (Below w.heap.size w wr) := below_then HB.out hb.out
              clear HSS
              go_wp2_with (fail)
              refine HST.mono ?_
              rintro _ w4 ⟨ao2, cp2, rfl, _, ho2, b4⟩
              have HB4 : Hid (Below w.heap.size w w4) := below_then HBF.out b4
              have HSM := Same_any S S w4 ao2 ao cp2 cp ho2.rd (HOb.below b4) (by omega)
              rw [decide_eq_true rfl] at HSM
              clear HST ho2 b4 HOb
              go_wp2_with (fail)
              refine HSM.mono ?_
              rintro _ w5 ⟨rfl, q, rfl⟩
              go_wp2_with (fail)
              go_ret
              exact ⟨rfl, HB4.out.trans (below_drewN _ _ _)⟩
    · have hE : erS L = 6 ∧ rowS L = [] := by
        have : ∃ j, ∃ hj : j < L.length, may (L[j]'hj) = false := Classical.byContradiction fun h => hg (List.all_eq_true.2 fun x hx => by
          obtain ⟨j, hj, e⟩ := List.mem_iff_getElem.1 hx
          cases hm : may x
          · exact absurd ⟨j, hj, by rw [e]; exact hm⟩ h
          · rfl)
        obtain ⟨j, hj, hm⟩ := this
        exact erS_bad (by omega) hj hm
      rw [hE.1, hE.2]
      clear hE hg ho hcp
      go_wp2_with (fail)
      go_ret
      exact ⟨rfl, HB.out⟩
  · have lb : 300 < (L.length : Int) := by omega
    go_enter Tryd.func8, Tryd.ntmps8
    go_wp2_with (fail)
    refine HA.mono ?_
    rintro _ w1 ⟨rfl, b1⟩
    go_wp2_with (fail)
    go_ret
    exact ⟨rfl, b1⟩
end Go.Proofs.YtdiecjkmbmgbkaaDoor
