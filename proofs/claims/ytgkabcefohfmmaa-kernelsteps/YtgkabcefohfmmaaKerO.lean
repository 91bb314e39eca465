/- The walk of the statement that a sum of multiples can be made one by one. -/
import Derived.Test.YtgkabcefohfmmaaKerN
import Derived.Test.YtgkabcefohfmmaaKerJ
import Derived.Deep.RegionHeld3
import Derived.Deep.CutRange
import Derived.Deep.AppendLies
namespace Go.Proofs.Ytgkabcefohfmmaa
open Go.RowKit

/-- Numbers added one by one. -/
def addF (c d : Nat → Nat) (i : Nat) : Nat := Gf.add (c i) (d i)
theorem addF_lt {c d : Nat → Nat} (hc : ∀ i, c i < 256) (hd : ∀ i, d i < 256) (i : Nat) : addF c d i < 256 := Gf.add_lt _ _ (hc i) (hd i)
theorem add4 (a b c d : Nat) : Gf.add (Gf.add a b) (Gf.add c d) = Gf.add (Gf.add a c) (Gf.add b d) := Gf.xor4 a b c d
theorem tot_add (c d : Nat → Nat) (H : Nat → Nat → Nat) (k i : Nat) : tot (addF c d) H k i = Gf.add (tot c H k i) (tot d H k i) := by
  induction k generalizing i with
  | zero => exact (Gf.add_self 0).symm
  | succ k ih =>
    show Gf.add (tot (addF c d) H k i) (Gf.mul (Gf.add (c k) (d k)) (H k i)) = Gf.add (Gf.add (tot c H k i) (Gf.mul (c k) (H k i))) (Gf.add (tot d H k i) (Gf.mul (d k) (H k i)))
    rw [ih, show Gf.mul (Gf.add (c k) (d k)) (H k i) = Gf.add (Gf.mul (c k) (H k i)) (Gf.mul (d k) (H k i)) from Gf.xor_mul _ _ _, add4]

theorem cellsOf_succ (m : Nat) (f : Nat → Nat) : cellsOf (m + 1) f = cellsOf m f ++ [.int .u8 (f m : Int)] := by simp [cellsOf, List.range_succ]
theorem owns_rd {w : World} {base : Nat} {ao : Option Addr} {n cap : Nat} {f : Nat → Nat} (hf : ∀ i, f i < 256) (h : w.ownsRow base 5 1 (.slice ao n cap) n (cellsOf n f)) : Rd w ao n f := by
  refine ⟨hf, fun hp => ?_⟩
  rcases h.2 with ⟨_, h1⟩ | ⟨g, cap', cur, h1, _⟩
  · omega
  · cases h1
    refine ⟨g, 0, rfl, fun i hi => ?_⟩
    have := h.cells (g := g) rfl i _ (cellsOf_get n f i hi)
    rwa [Addr.add_lit] at this
theorem plus1' (f h : Nat → Nat) (hh : ∀ i, h i < 256) (i : Nat) : plus f 1 h i = Gf.add (f i) (h i) := by unfold plus; rw [Gf.one_mul _ (hh i)]
theorem Rd.nil0 (w : World) (ao : Option Addr) {n : Nat} (hn : n = 0) {f : Nat → Nat} (hf : ∀ i, f i < 256) : Rd w ao n f := by subst hn; exact Rd.nil _ _ _ hf

set_option maxHeartbeats 2000000 in
set_option maxRecDepth 100000 in
theorem steps_walk (w : World) (co do_ lo : Option Addr) (lc cc ld cd ll cl : Nat) (F D : Nat → Nat) (A : Nat → Option Addr) (C L : Nat → Nat) (H : Nat → Nat → Nat)
    (hc : Rd w co lc F) (hd : Rd w do_ ld D) (hl : Lst w lo ll A C L H) (hL : ∀ i, i < ll → L i ≤ 9223372036854775807) (hlc : lc ≤ 9223372036854775807) (hld : ld ≤ 9223372036854775807) (hll : ll ≤ 9223372036854775807) :
    Calls Try.prog 7 #[.slice co lc cc, .slice do_ ld cd, .slice lo ll cl] w fun e w' => e = .returned (.bool true) ∧ Below w.heap.size w w' := by
  have HC : Hid (Rd w co lc F) := hc
  have HD : Hid (Rd w do_ ld D) := hd
  have HL : Hid (Lst w lo ll A C L H) := hl
  have HM : Hid (∀ i, i < ll → L i ≤ 9223372036854775807) := hL
  clear hc hd hl hL
  by_cases h1 : ll ≤ 16
  · by_cases h2 : lc ≤ 100
    · by_cases h3 : ld ≤ 100
      · go_enter Try.func7, Try.ntmps7
        go_wp2_with fail
        refine (alive_any w).mono ?_
        rintro e w1 ⟨rfl, b1⟩
        replace HC : Hid (Rd w1 co lc F) := HC.out.below b1
        replace HD : Hid (Rd w1 do_ ld D) := HD.out.below b1
        replace HL : Hid (Lst w1 lo ll A C L H) := HL.out.below b1
        by_cases hbig : ∀ i, i < ll → L i ≤ 2000
        · have HS : Hid (∀ i, i < ll → L i ≤ 2000) := hbig
          clear hbig
          go_wp2
          go_loop [8] (fun i => ∃ k : Nat, k ≤ ll ∧ i = .int .i64 k) (fun i => ll - (intOf i).toNat)
          case atStart => exact ⟨0, Nat.zero_le _, rfl⟩
          case round =>
            obtain ⟨k, hk, rfl⟩ := hrel
            by_cases hlt : k < ll
            · obtain ⟨b, off, rfl, hcl⟩ := HL.out.at_ (by omega)
              have ck := hcl k hlt
              have hs := HS.out k hlt
              clear hcl
              go_wp2
              go_round
              case rel => exact ⟨k + 1, by omega, by go_num⟩
              case measure => simp [intOf]; omega
            · obtain rfl : k = ll := by omega
              go_wp2_with fail
              refine (dot_any w1 co lo lc cc k cl F A C L H (by omega) (by omega) HC.out HL.out).mono ?_
              obtain ⟨ok, hok⟩ : ∃ ok, ok = okL lc k L := ⟨_, rfl⟩
              obtain ⟨n, hn⟩ : ∃ n, n = n0 k L := ⟨_, rfl⟩
              rw [← hok, ← hn]
              rintro e w2 ⟨xo, rfl, hx, bn⟩
              replace HC : Hid (Rd w2 co lc F) := HC.out.below bn
              replace HD : Hid (Rd w2 do_ ld D) := HD.out.below bn
              replace HL : Hid (Lst w2 lo k A C L H) := HL.out.below bn
              have HX : Hid (Rd w2 xo (lenB ok n) (tot F H k)) := hx.rd
              replace b1 := below_step b1 bn b1.size
              have HK : Hid (okL lc k L = ok) := hok.symm
              have HN : Hid (n = n0 k L) := hn
              clear hx bn hok hn
              cases ok
              · rw [show lenB false n = 0 from rfl, show errB false = 20 from rfl]
                go_wp2_with fail
                go_ret
                exact ⟨rfl, b1⟩
              · rw [show lenB true n = n from rfl, show errB true = 0 from rfl]
                replace HX : Hid (Rd w2 xo n (tot F H k)) := HX.out
                obtain ⟨q1, q2, q3⟩ := okL_true HK.out
                subst q2
                have HQ : Hid (∀ i, i < k → L i = n) := fun i hi => by rw [HN.out, n0, if_neg (by omega)]; exact (q3 i hi).2
                have hn2 : n ≤ 2000 := by
                  rw [HN.out, n0]
                  split
                  · omega
                  · exact HS.out 0 (by omega)
                clear q3
                have hmk := run_make_row' (P := Try.prog) 23 5 (.int .u8 0) 1 Try.underlying23 info5 rfl .i64 .i64 n (by omega) (by omega)
                go_upto_if 62 with fail
                go_cut [11] from 60 to 67 (fun s wx => ∃ ro, s = .slice ro n n ∧ Hid (Rd wx ro n (tot F H 0)) ∧ Hid (Below w2.heap.size w2 wx))
                case first =>
                  by_cases hk0 : k = 0
                  · have hn0 : n = 0 := by rw [HN.out, n0, if_pos hk0]
                    subst hk0
                    go_wp2
                    go_meet
                    exact ⟨none, by rw [hn0], Rd.nil0 _ _ hn0 (tot_lt F H HC.out.1 0), Below.refl _ _⟩
                  · obtain ⟨b, off, rfl, hcl⟩ := HL.out.at_ (by omega)
                    have c0 := hcl 0 (by omega)
                    rw [HQ.out 0 (by omega), Nat.add_zero] at c0
                    clear hcl
                    go_wp2
                    go_meet
                    exact ⟨_, rfl, (own_made w2 n).rd, below_alloc _ _⟩
                obtain ⟨no, rfl, hno, bn⟩ := hcut
                obtain ⟨w3, rfl⟩ : ∃ x, x = wc := ⟨wc, rfl⟩
                replace HC : Hid (Rd w3 co k F) := HC.out.below bn.out
                replace HD : Hid (Rd w3 do_ ld D) := HD.out.below bn.out
                replace HL : Hid (Lst w3 lo k A C L H) := HL.out.below bn.out
                replace HX : Hid (Rd w3 xo n (tot F H k)) := HX.out.below bn.out
                replace b1 := below_step b1 bn.out b1.size
                clear bn hmk
                go_wp2
                go_loopw [11, 12] (fun v i wr => ∃ j : Nat, j ≤ k ∧ i = .int .i64 j ∧ (∃ ro, v = .slice ro n n ∧ Hid (Rd wr ro n (tot F H j))) ∧ Hid (Below w3.heap.size w3 wr)) (fun _ i _ => k - (intOf i).toNat)
                case atStart => exact ⟨0, Nat.zero_le _, rfl, ⟨no, rfl, hno⟩, Below.refl _ _⟩
                case round =>
                  obtain ⟨j, hj, rfl, ⟨ro, rfl, hro⟩, hbel⟩ := hrel
                  by_cases hlt : j < k
                  · obtain ⟨b, off, rfl, hcc⟩ := (HC.out.below hbel.out).2 (by omega)
                    obtain ⟨b', off', rfl, hcl⟩ := (HL.out.below hbel.out).at_ (by omega)
                    have c1 := hcc j hlt
                    have c2 := hcl j hlt
                    rw [HQ.out j hlt] at c2
                    have d1 := World.block_lt_of_cell? wr _ c1
                    have d2 := World.block_lt_of_cell? wr _ c2
                    simp only at d1 d2
                    have HR : Hid (Rd wr (A j) n (H j)) := by have := (HL.out.below hbel.out).rd j hlt; rwa [HQ.out j hlt] at this
                    have HF : Hid (F j < 256) := HC.out.1 j
                    have HP : Hid (Calls Try.prog 11 #[.slice ro n n, .int .u8 (F j : Int), .slice (A j) n (C j)] wr.drew fun e w' => ∃ ro', e = .returned (.tuple #[.slice ro' n n, .int .i64 0]) ∧ Rd w' ro' n (tot F H (j + 1)) ∧ Below wr.drew.heap.size wr.drew w') := by
                      have := plus_any wr.drew (F j) ro (A j) n n n (C j) (tot F H j) (H j) (HC.out.1 j) hro.out HR.out
                      rw [show okP n n = true by simp [okP]; omega] at this
                      exact this.mono fun e w' ⟨ro', he, hr, hb⟩ => ⟨ro', he, hr.rd, hb⟩
                    clear hcc hcl
                    have i1 : (0 : Int) ≤ (j : Int) := by omega
                    have i2 : (j : Int) < (k : Int) := by omega
                    go_wp2
                    go_region_held3 (fun w' => w'.cell? ⟨b, off + j, none⟩ = some (.int .u8 (F j : Int)) ∧ w'.cell? ⟨b', off' + j, none⟩ = some (.slice (A j) n (C j))) (go_keep)
                      ((go_at_call 11; refine HP.out.mono ?_; rintro e w' ⟨ro', rfl, hr', bn⟩; have k1 : w'.cell? ⟨b, off + j, none⟩ = some (.int .u8 (F j : Int)) := (bn.cell d1).trans c1; have k2 : w'.cell? ⟨b', off' + j, none⟩ = some (.slice (A j) n (C j)) := (bn.cell d2).trans c2))
                    have hr2 : Hid (Rd w' ro' n (tot F H (j + 1))) := hr'
                    have bn2 : Hid (Below w3.heap.size w3 w') := below_step hbel.out.drew bn hbel.out.size
                    clear hr' bn
                    go_wp2
                    go_roundw
                    case rel => exact ⟨j + 1, by omega, by go_num, ⟨_, rfl, hr2⟩, bn2⟩
                    case measure => simp [intOf]; omega
                  · obtain rfl : j = k := by omega
                    obtain ⟨w4, rfl⟩ : ∃ x, x = wr := ⟨wr, rfl⟩
                    replace HC : Hid (Rd w4 co j F) := HC.out.below hbel.out
                    replace HD : Hid (Rd w4 do_ ld D) := HD.out.below hbel.out
                    replace HL : Hid (Lst w4 lo j A C L H) := HL.out.below hbel.out
                    replace HX : Hid (Rd w4 xo n (tot F H j)) := HX.out.below hbel.out
                    replace b1 := below_step b1 hbel.out b1.size
                    have v1 := conv_any hro.out n
                    have v2 := conv_any HX.out n
                    clear hbel hno hro
                    go_wp2_with fail
                    refine (dot_any w4 do_ lo ld cd j cl D A C L H (by omega) (by omega) HD.out HL.out).mono ?_
                    obtain ⟨ok2, hok2⟩ : ∃ ok, ok = okL ld j L := ⟨_, rfl⟩
                    rw [← hok2, ← HN.out]
                    rintro e w5 ⟨yo, rfl, hy, bn⟩
                    clear v1 v2
                    cases ok2
                    · have hne : ((ld : Int) != (j : Int)) = true := by
                        have : ¬ ld = j := fun e => by rw [e, HK.out] at hok2; cases hok2
                        simp; omega
                      replace b1 := below_step b1 bn b1.size
                      rw [show lenB false n = 0 from rfl, show errB false = 20 from rfl]
                      clear hok2 hy bn
                      go_wp2_with fail
                      go_ret
                      exact ⟨rfl, b1⟩
                    · obtain ⟨_, p2, _⟩ := okL_true hok2.symm
                      subst p2
                      rw [show lenB true n = n from rfl, show errB true = 0 from rfl]
                      have HY : Hid (Rd w5 yo n (tot D H j)) := hy.rd
                      replace HC : Hid (Rd w5 co j F) := HC.out.below bn
                      replace HD : Hid (Rd w5 do_ j D) := HD.out.below bn
                      replace HL : Hid (Lst w5 lo j A C L H) := HL.out.below bn
                      replace HX : Hid (Rd w5 xo n (tot F H j)) := HX.out.below bn
                      replace b1 := below_step b1 bn b1.size
                      clear hok2 hy bn
                      go_wp2_with fail
                      obtain ⟨i0, hi, hz0, hz1, hz2⟩ := info_parts info5
                      go_loopw [16, 17] (fun v i wr => ∃ m : Nat, m ≤ j ∧ i = .int .i64 m ∧ (∃ ao cap, v = .slice ao m cap) ∧ Hid (wr.ownsRow w5.heap.size 5 1 v m (cellsOf m (addF F D))) ∧ Hid (Below w5.heap.size w5 wr)) (fun _ i _ => j - (intOf i).toNat)
                      case atStart => exact ⟨0, Nat.zero_le _, rfl, ⟨none, 0, rfl⟩, World.ownsRow_nil _ _ _ _, Below.refl _ _⟩
                      case round =>
                        obtain ⟨m, hm, rfl, ⟨ao, cap, rfl⟩, hown, hbel⟩ := hrel
                        by_cases hlt : m < j
                        · obtain ⟨b, off, rfl, hcc⟩ := HC.out.2 (by omega)
                          obtain ⟨b', off', rfl, hcd⟩ := HD.out.2 (by omega)
                          have d1 := World.block_lt_of_cell? w5 _ (hcc m hlt)
                          have d2 := World.block_lt_of_cell? w5 _ (hcd m hlt)
                          simp only at d1 d2
                          have c1 := (hbel.out.cell d1).trans (hcc m hlt)
                          have c2 := (hbel.out.cell d2).trans (hcd m hlt)
                          clear hcc hcd
                          have hsz := hbel.out.size
                          have i1 : (0 : Int) ≤ (m : Int) := by omega
                          have i2 : (m : Int) < (j : Int) := by omega
                          have hF := HC.out.1 m
                          have hD := HD.out.1 m
                          have HB : Hid (bits .xor .u8 (F m : Int) (D m : Int) = ((addF F D m : Nat) : Int)) := u8_xor_nat _ _ hF hD
                          obtain ⟨X, hX⟩ : ∃ X, X = cellsOf m (addF F D) := ⟨_, rfl⟩
                          have HXX : Hid (X = cellsOf m (addF F D)) := hX
                          replace hown : Hid (wr.ownsRow w5.heap.size 5 1 (.slice ao m cap) m X) := by rw [hX]; exact hown.out
                          have hne1 : ∀ r, Value.ownBlock (.slice ao m cap) = some r → r ≠ b := fun r hr e => by have := hown.out.lt r hr; omega
                          have hne2 : ∀ r, Value.ownBlock (.slice ao m cap) = some r → r ≠ b' := fun r hr e => by have := hown.out.lt r hr; omega
                          have HN1 : Hid (∀ r, Value.ownBlock (.slice ao m cap) = some r → r ≠ b) := hne1
                          have HN2 : Hid (∀ r, Value.ownBlock (.slice ao m cap) = some r → r ≠ b') := hne2
                          have n1 : ¬ b = wr.heap.size := by omega
                          have n2 : ¬ b' = wr.heap.size := by omega
                          clear hX hne1 hne2
                          go_wp2
                          go_region_held3 (fun w' => w'.cell? ⟨b, off + m, none⟩ = some (.int .u8 (F m : Int)) ∧ w'.cell? ⟨b', off' + m, none⟩ = some (.int .u8 (D m : Int))) (go_keep)
                            ((refine step_append_lies _ (by rfl) _ _ _ (by rfl) w5.heap.size 5 i0 (.int .u8 0) 1 1 Try.underlying23 hi hz0 hz1 hz2 (by rfl) (by decide) (.slice ao m cap) m X (by rfl) (by exact (hown.out.alloc _).drew) ⟨wr.heap.size, 0, none⟩ 1 1 [.int .u8 (bits .xor .u8 (F m : Int) (D m : Int))] (by rfl) (by rfl) (World.news_of_block (cs := #[.int .u8 (bits .xor .u8 (F m : Int) (D m : Int))]) (t := 5) (fr := (0, 0)) (heap_alloc_new wr _)) (by simp [Value.oneCell']) (by decide) (by unfold maxLen; omega) (by omega) (by simp; omega) (wr.heap.size + 1) (by simp) ?_; intro gg cap' w' hown' hgrow _ _; have k1 : w'.cell? ⟨b, off + m, none⟩ = some (.int .u8 (F m : Int)) := hgrow.cell (((below_alloc wr _).cell (by simp only; omega)).trans c1) (fun e => HN1.out _ e.symm rfl); have k2 : w'.cell? ⟨b', off' + m, none⟩ = some (.int .u8 (D m : Int)) := hgrow.cell (((below_alloc wr _).cell (by simp only; omega)).trans c2) (fun e => HN2.out _ e.symm rfl)))
                          have hown2 : Hid (w'.ownsRow w5.heap.size 5 1 (.slice (some ⟨gg, 0, none⟩) (m + 1) cap') (m + 1) (cellsOf (m + 1) (addF F D))) := by
                            rw [cellsOf_succ, ← HXX.out, ← HB.out]; exact hown'
                          have bn2 : Hid (Below w5.heap.size w5 w') := (hbel.out.alloc hsz _).drew.grown hgrow (by simp; omega) (fun r hr => (hown.out.lt r hr).1)
                          clear hown' hgrow
                          go_wp2
                          go_roundw
                          case rel => exact ⟨m + 1, by omega, by go_num, ⟨_, _, rfl⟩, hown2, bn2⟩
                          case measure => simp [intOf]; omega
                        · obtain rfl : m = j := by omega
                          have HO : Hid (Rd wr ao m (addF F D)) := owns_rd (addF_lt HC.out.1 HD.out.1) hown.out
                          replace HL : Hid (Lst wr lo m A C L H) := HL.out.below hbel.out
                          replace HX : Hid (Rd wr xo n (tot F H m)) := HX.out.below hbel.out
                          replace HY : Hid (Rd wr yo n (tot D H m)) := HY.out.below hbel.out
                          replace b1 := below_step b1 hbel.out b1.size
                          clear hbel hown
                          go_wp2_with fail
                          refine (dot_any wr ao lo m cap m cl (addF F D) A C L H (by omega) (by omega) HO.out HL.out).mono ?_
                          rw [HK.out, ← HN.out]
                          rintro e w6 ⟨zo, rfl, hz, bn⟩
                          have HZ : Hid (Rd w6 zo n (tot (addF F D) H m)) := hz.rd
                          replace HX : Hid (Rd w6 xo n (tot F H m)) := HX.out.below bn
                          replace HY : Hid (Rd w6 yo n (tot D H m)) := HY.out.below bn
                          replace b1 := below_step b1 bn b1.size
                          rw [show lenB true n = n from rfl, show errB true = 0 from rfl]
                          clear hz bn
                          go_wp2_with fail
                          refine (xor_any w6 xo yo n n n n (tot F H m) (tot D H m) HX.out HY.out).mono ?_
                          rw [show okP n n = true by simp [okP]; omega]
                          rintro e w7 ⟨so, rfl, hs, bn⟩
                          replace HZ : Hid (Rd w7 zo n (tot (addF F D) H m)) := HZ.out.below bn
                          have v1 := conv_any HZ.out n
                          have v2 := conv_any hs.rd n
                          rw [show lenB true n = n from rfl, str_congr (h := tot (addF F D) H m) (fun i _ => by rw [plus1' _ _ (tot_lt D H HD.out.1 m), tot_add])] at v2
                          rw [show lenB true n = n from rfl, show errB true = 0 from rfl]
                          replace b1 := below_step b1 bn b1.size
                          clear hs bn
                          go_wp2_with fail
                          go_ret
                          exact ⟨rfl, b1⟩
        · obtain ⟨q, hq, hne, heq⟩ : ∃ q, q < ll ∧ ¬ L q ≤ 2000 ∧ ∀ i, i < q → L i ≤ 2000 := by
            obtain ⟨i, hi⟩ := Classical.not_forall.1 hbig
            obtain ⟨p1, p2⟩ := Classical.not_imp.1 hi
            obtain ⟨k, hk, p3, p4⟩ := exists_first (p := fun i => L i ≤ 2000) i p2
            exact ⟨k, by omega, p3, p4⟩
          have HE : Hid (∀ i, i < q → L i ≤ 2000) := heq
          have HNE : Hid (¬ L q ≤ 2000) := hne
          clear hbig heq hne
          obtain ⟨b, off, rfl, hcl⟩ := HL.out.at_ (by omega)
          have HCL : Hid (∀ i, i < ll → w1.cell? ⟨b, off + i, none⟩ = some (.slice (A i) (L i) (C i))) := hcl
          clear hcl
          go_wp2
          go_loop [8] (fun i => ∃ k : Nat, k ≤ q ∧ i = .int .i64 k) (fun i => ll - (intOf i).toNat)
          case atStart => exact ⟨0, Nat.zero_le _, rfl⟩
          case round =>
            obtain ⟨k, hk, rfl⟩ := hrel
            have ck := HCL.out k (by omega)
            by_cases hlt : k < q
            · have hs := HE.out k hlt
              go_wp2
              go_round
              case rel => exact ⟨k + 1, by omega, by go_num⟩
              case measure => simp [intOf]; omega
            · obtain rfl : k = q := by omega
              have hs := HNE.out
              go_wp2
              go_ret
              exact ⟨rfl, b1⟩
      · go_enter Try.func7, Try.ntmps7
        go_wp2_with fail
        refine (alive_any w).mono ?_
        rintro e w1 ⟨rfl, b1⟩
        go_wp2_with fail
        go_ret
        exact ⟨rfl, b1⟩
    · go_enter Try.func7, Try.ntmps7
      go_wp2_with fail
      refine (alive_any w).mono ?_
      rintro e w1 ⟨rfl, b1⟩
      go_wp2_with fail
      go_ret
      exact ⟨rfl, b1⟩
  · go_enter Try.func7, Try.ntmps7
    go_wp2_with fail
    refine (alive_any w).mono ?_
    rintro e w1 ⟨rfl, b1⟩
    go_wp2_with fail
    go_ret
    exact ⟨rfl, b1⟩
end Go.Proofs.Ytgkabcefohfmmaa
