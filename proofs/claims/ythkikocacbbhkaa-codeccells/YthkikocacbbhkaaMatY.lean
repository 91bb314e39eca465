/- What the document's own rank and inverse come to. -/
import Derived.Test.YthkikocacbbhkaaMatW
namespace Go.Proofs.Ythkikocacbbhkaa
open Go.RowKit

theorem Red.diag_ne {z : Bool} {n : Nat} {A P : M} (h : Red z n A n n P) (i : Nat) (hi : i < n) : P i i ≠ 0 := by
  obtain ⟨p, d, hp, hid⟩ := h.piv
  obtain ⟨_, h2, _, h4⟩ := hp i hi
  have := h4 i hi
  rw [hid rfl i hi, if_pos rfl] at this
  rw [this]; exact h2
/-- What is there behind k rows of a matrix and of the unit matrix beside it. -/
def bes (n : Nat) (H : M) (k : Nat) : M := fun i j => if i < k then beside n H i j else 0
/-- .. and the first half of the next row. -/
def bes' (n : Nat) (H : M) (k : Nat) : M := fun i j => if i < k then beside n H i j else if i = k ∧ j < n then H k j else 0
theorem setRow_keeps (w : World) (g : Nat) (cs : Array Value) : Keeps g (g + 1) w (w.setRow g cs) := ⟨rfl, rfl, rfl, by simp [World.setRow], fun k _ hk => setRow_other w g k cs (by omega)⟩
/-- A row is copied over the beginning of another one. -/
theorem own_copied {w : World} {g n u m : Nat} {f h : Nat → K} {cur : Array Value} (ho : Own w g m u f) (hg : w.heap[g]? = some (.cells cur 5 (0, 0))) (hn : n ≤ m) :
    Own (w.setRow g (cur.toList.take 0 ++ (cellsOf n h ++ cur.toList.drop (0 + (cellsOf n h).length))).toArray) g m u (fun j => if j < n then h j else f j) := by
  obtain ⟨h1, h2, c, ⟨cur', hb, hs, hc⟩, hh⟩ := ho
  rw [hg] at hb
  cases hb
  have hlen : (cur.toList.take 0 ++ (cellsOf n h ++ cur.toList.drop (0 + (cellsOf n h).length))).length = u := by simp [cellsOf_length]; omega
  refine ⟨h1, h2, fun i => if i < n then .int .u8 ((h i).n : Int) else c i, ⟨_, setRow_heap w g _ _ 5 _ hg, by rw [List.size_toArray]; exact hlen, fun i hi => ?_⟩, fun i hi => ?_⟩
  · rw [List.getElem?_toArray, List.take_zero, List.nil_append, Nat.zero_add, cellsOf_length]
    by_cases e : i < n
    · rw [List.getElem?_append_left (by rw [cellsOf_length]; exact e), cellsOf_get _ _ _ e]; simp only [e, if_true]
    · rw [List.getElem?_append_right (by rw [cellsOf_length]; omega), cellsOf_length, List.getElem?_drop, show n + (i - n) = i by omega, Array.getElem?_toList, hc i hi]; simp only [e, if_false]
  · by_cases e : i < n
    · simp only [e, if_true]
    · simp only [e, if_false]; exact hh i hi

theorem wpList_copy_to {w : World} {ops : Array Oper} {rest : List Oper} {o : Oper} {a : Act} {Q : Exit → Act → World → Prop} (hgd : o.guard = none) (d s : Operand)
    (ho : o.op = .call { callee := .builtin .copy, args := #[d, s], argTypes := #[23, 23] }) (hsz : (Try.prog.info? 5).map (·.size) = some 1)
    (g dLen dCap : Nat) (ad : Addr) (sLen sCap : Nat) (hd : a.eval d = .slice (some ⟨g, 0, none⟩) dLen dCap) (hs : a.eval s = .slice (some ad) sLen sCap)
    (cur : Array Value) (hg : w.heap[g]? = some (.cells cur 5 (0, 0))) (cs : List Value) (hn : cs.length = Nat.min sLen dLen)
    (hsrc : ∀ j v, cs[j]? = some v → w.cell? (ad.add j) = some v) (hfit : 0 + cs.length ≤ cur.size) (h1 : ∀ v ∈ cs, v.oneCell' = true) (w3 : World) (hw3 : w3 = w.setRow g (cur.toList.take 0 ++ (cs ++ cur.toList.drop (0 + cs.length))).toArray)
    (h : wpList Try.prog ops Q rest (a.put o.dst (goInt cs.length)) w3) : wpList Try.prog ops Q (o :: rest) a w := by
  subst hw3
  exact wpList_copy_own hgd d s 23 23 ho 5 Try.underlying23 hsz g 0 dLen dCap ad sLen sCap hd hs cur 5 hg cs hn hsrc hfit h1 h

set_option maxHeartbeats 4000000 in
set_option maxRecDepth 100000 in
theorem rinverse_any (w : World) (lo : Option Addr) (ll cl : Nat) (A : Nat → Option Addr) (C L : Nat → Nat) (H : M) (hl : Lst w lo ll A C L H) :
    Calls Try.prog 34 #[.slice lo ll cl] w (Made w (okInv ll L H) (errM (okSq ll L) 5) ll ll (invOf ll H)) := by
  have CA := rcheck_any w lo ll cl A C L H hl
  have HL : Hid (Lst w lo ll A C L H) := hl
  clear hl
  cases hok : okM ll L
  · rw [show okInv ll L H = false by unfold okInv okSq; rw [hok]; rfl, show errM (okSq ll L) 5 = 30 by unfold okSq; rw [hok]; rfl]
    rw [hok] at CA
    go_enter Try.func34, Try.ntmps34
    go_wp2_with fail
    refine CA.mono ?_
    rintro e w1 ⟨rfl, hq⟩
    have b1 := drewN_below hq
    clear hq
    go_wp2_with fail
    go_ret2
    exact made_no b1
  rw [hok] at CA
  obtain ⟨h1, h2, h3, h4, h5⟩ := okM_true hok
  have e2 : errB true 30 = 0 := rfl
  obtain ⟨b, off, rfl, _⟩ := HL.out.at_ (by omega)
  have i0 : 0 < ll := by omega
  have i1 : (0 : Int) < (ll : Int) := by omega
  by_cases hsq : L 0 = ll
  · rw [show okInv ll L H = invB ll H by unfold okInv okSq; rw [hok, hsq]; simp, show errM (okSq ll L) 5 = 5 by unfold okSq; rw [hok, hsq]; simp [errM]]
    replace HL : Hid (Lst w (some ⟨b, off, none⟩) ll A C (fun _ => ll) H) := HL.out.len fun i hi => by rw [h5 i hi, hsq]
    have hbq : ((ll : Int) != (ll : Int)) = false := by simp
    clear h5 hsq hok h3 h4
    go_enter Try.func34, Try.ntmps34
    go_wp2_with fail
    refine CA.mono ?_
    rintro e w1 ⟨rfl, hq⟩
    have HB1 : Hid (Below w.heap.size w w1) := drewN_below hq
    replace HL : Hid (Lst w1 (some ⟨b, off, none⟩) ll A C (fun _ => ll) H) := HL.out.below (drewN_below hq)
    clear hq CA
    obtain ⟨b', off', e', hcl⟩ := HL.out.at_ (by omega)
    cases e'
    have c0 := hcl 0 (by omega)
    rw [Nat.add_zero] at c0
    clear hcl
    have HBL := blank_mat w1 ll (2 * ll) (by omega) (by omega) (by omega)
    rw [show ((2 * ll : Nat) : Int) = 2 * (ll : Int) by omega] at HBL
    go_wp2_with fail
    refine HBL.mono ?_
    rintro e w2 ⟨l, cap, G, rfl, hm, b2⟩
    obtain ⟨n2, hn2⟩ : ∃ n2, n2 = 2 * ll := ⟨_, rfl⟩
    rw [← hn2] at hm
    have hn3 : ll + ll ≤ n2 := by omega
    have hn4 : n2 ≤ 64 := by omega
    clear hn2
    have HM : Hid (Mat w2 w1.heap.size w2.heap.size l cap ll n2 G (fun _ => n2) (fun _ _ => 0)) := hm
    have HB2 : Hid (Below w1.heap.size w1 w2) := b2
    clear hm b2 c0 HBL
    go_wp2_with fail
    go_loopw [6] (fun i wr => ∃ p : Nat, p ≤ ll ∧ i = .int .i64 p ∧ Hid (Mat wr w1.heap.size w2.heap.size l cap ll n2 G (fun _ => n2) (bes ll H p)) ∧ Hid (Below w1.heap.size w1 wr ∧ w2.heap.size ≤ wr.heap.size)) (fun i _ => ll - (intOf i).toNat)
    case atStart => exact ⟨0, Nat.zero_le _, rfl, HM.out.congr (fun i j _ _ => by unfold bes; rw [if_neg (Nat.not_lt_zero i)]), HB2.out, Nat.le_refl _⟩
    case round =>
      obtain ⟨p, hp, rfl, hmat, hbel⟩ := hrel
      by_cases hlt : p < ll
      · have d1 := hmat.out.cell_l hlt
        obtain ⟨b', off', e', hcl⟩ := (HL.out.below hbel.out.1).at_ (by omega)
        cases e'
        have d2 := hcl p hlt
        clear hcl
        obtain ⟨ab, af, hAp, hsrc⟩ := (HL.out.below hbel.out.1).rd p hlt (by omega)
        rw [hAp] at d2
        obtain ⟨_, _, c, ⟨cur, hcur, hcs, _⟩, _⟩ := hmat.out.row p hlt
        have HCUR : Hid (wr.drew.heap[G p]? = some (.cells cur 5 (0, 0))) := hcur
        have HSRC : Hid (∀ j v, (cellsOf ll (H p))[j]? = some v → wr.drew.cell? ((⟨ab, af, none⟩ : Addr).add j) = some v) := fun j v hv => by
          have hj := list_lt (cellsOf_length ll (H p)) hv
          rw [cellsOf_get _ _ _ hj] at hv
          rw [Addr.add_lit]
          exact (hsrc j hj).trans hv
        obtain ⟨w3, hw3⟩ : ∃ w3, w3 = wr.drew.setRow (G p) (cur.toList.take 0 ++ (cellsOf ll (H p) ++ cur.toList.drop (0 + (cellsOf ll (H p)).length))).toArray := ⟨_, rfl⟩
        have hK3 : Keeps (G p) (G p + 1) wr.drew w3 := by rw [hw3]; exact setRow_keeps _ _ _
        have HM3 : Hid (Mat w3 w1.heap.size w2.heap.size l cap ll n2 G (fun _ => n2) (bes' ll H p)) := by
          have ho : Own w3 (G p) n2 n2 (fun j => if j < ll then H p j else bes ll H p p j) := by rw [hw3]; exact own_copied ((hmat.out.row p hlt).below (below_drew _ _)) hcur (by omega)
          refine ((hmat.out.below (below_drew _ _)).put hlt ho hK3).congr fun i j _ _ => ?_
          unfold bes' bes
          by_cases e : i = p
          · subst e
            simp only [if_true, Nat.lt_irrefl, if_false, true_and]
          · simp only [e, if_false, false_and]
        have HB3 : Hid (Below w1.heap.size w1 w3 ∧ w2.heap.size ≤ w3.heap.size) := ⟨hbel.out.1.drew.trans ((hK3.mono (hmat.out.los p hlt) (hmat.out.his p hlt)).below hbel.out.1.size (Nat.le_refl _)), Nat.le_trans hbel.out.2 hK3.size⟩
        have hsz : (Try.prog.info? 5).map (·.size) = some 1 := by kernel_rfl
        have j1 : (0 : Int) ≤ (p : Int) := by omega
        have j2 : (p : Int) < (ll : Int) := by omega
        have f1 := HM3.out.cell_l hlt
        have f2 := (HM3.out.row p hlt).cell (show ll + p < n2 by omega)
        have z2 := (HM3.out.row p hlt).frozen (ll + p)
        have j3 : (0 : Int) ≤ (ll : Int) + (p : Int) := by omega
        have j4 : (ll : Int) + (p : Int) < (n2 : Int) := by omega
        have j5 : ((ll : Int) + (p : Int)).toNat = ll + p := by omega
        have HCS : Hid (n2 = cur.size) := hcs.symm
        clear hcur hsrc hAp hcs hK3
        go_wp2
        refine wp_region_still_tail 8 (by kernel_rfl) (by kernel_rfl) ?_
        simp only [List.take_succ_cons, List.take_zero, List.drop_succ_cons, List.drop_zero]
        repeat still_step
        refine wpStill_nil ?_
        refine wpList_copy_to (by rfl) (.tmp 36) (.tmp 40) (by rfl) hsz (G p) n2 n2 ⟨ab, af, none⟩ ll (C p) (by rfl) (by rfl) cur HCUR.out (cellsOf ll (H p)) (by rw [cellsOf_length]; exact (Nat.min_eq_left (by omega)).symm) HSRC.out (by have := HCS.out; rw [cellsOf_length]; omega) (cellsOf_one _ _) w3 hw3 ?_
        clear hw3 HSRC HCUR d1 d2
        go_wp2
        go_roundw
        case rel => exact ⟨p + 1, by omega, by go_num, (HM3.out.store hlt 1).congr (fun i j _ _ => by
            unfold bes bes'
            by_cases e : i = p ∧ j = ll + p
            · rw [if_pos e, if_pos (by omega)]
              unfold beside
              rw [if_neg (by omega), show j - ll = i by omega, one_self]
            · rw [if_neg e]
              by_cases g1 : i < p
              · rw [if_pos g1, if_pos (by omega)]
              · rw [if_neg g1]
                by_cases g2 : i = p
                · subst g2
                  rw [if_pos (Nat.lt_succ_self i)]
                  unfold beside
                  by_cases g3 : j < ll
                  · rw [if_pos ⟨rfl, g3⟩, if_pos g3]
                  · rw [if_neg (by omega), if_neg g3, one_ne (by omega)]
                · rw [if_neg (by omega), if_neg (by omega)]), HM3.out.keep hlt HB3.out.1 HB3.out.1.size (ll + p) _, by rw [size_set]; exact HB3.out.2⟩
        case measure => simp [intOf]; omega
      · obtain rfl : p = ll := by omega
        have HM4 : Hid (Mat wr w1.heap.size w2.heap.size l cap p n2 G (fun _ => n2) (beside p H)) := hmat.out.congr fun i j hi _ => if_pos hi
        have HRD := steps_any wr _ _ l cap p n2 p G (fun _ => n2) (beside p H) (by omega) (by omega) (by omega) HM4.out
        have HBR : Hid (Below w.heap.size w wr) := below_step HB1.out hbel.out.1 HB1.out.size
        have hs1 := HB1.out.size
        have hs2 := hbel.out.1.size
        clear hmat HM4 HM
        go_wp2_with fail
        refine HRD.mono ?_
        rintro e w4 ⟨r, P, G', U', rfl, hred, hm4, hk4⟩
        have HRed : Hid (Red false p (beside p H) p r P) := hred
        have HMP : Hid (Mat w4 w1.heap.size w2.heap.size l cap p n2 G' U' P) := hm4
        have HB4 : Hid (Below w.heap.size w w4) := HBR.out.trans (hk4.below HBR.out.size hs1)
        have hs4 : w2.heap.size ≤ w4.heap.size := Nat.le_trans hbel.out.2 hk4.size
        have hrn : r ≤ p := hred.rows
        clear hred hm4 hk4 HRD HBR
        by_cases hr : r < p
        · have hI : Hid (invB p H = false) := by rw [invB_rk, rankOf_eq (beside_rk HRed.out.rk)]; exact decide_eq_false (by omega)
          go_wp2_with fail
          go_ret2
          rw [hI.out]
          exact made_no HB4.out
        · obtain rfl : r = p := by omega
          obtain ⟨V, hV⟩ : ∃ V : M, V = fun i j => (K.mul (P i (r + j)) ((P i i).inv)) := ⟨_, rfl⟩
          have HV : Hid (IsInv r H V) := by rw [hV]; exact HRed.out.inv
          have HVE : Hid (V = fun i j => (K.mul (P i (r + j)) ((P i i).inv))) := hV
          clear hV
          go_wp2_with fail
          refine (blank_mat w4 r r (by omega) (by omega) (by omega)).mono ?_
          rintro e w5 ⟨lo', cap', Go', rfl, hmo, b5⟩
          have HMO : Hid (Mat w5 w4.heap.size w5.heap.size lo' cap' r r Go' (fun _ => r) (fun _ _ => 0)) := hmo
          have HB5 : Hid (Below w4.heap.size w4 w5) := b5
          clear hmo b5
          go_wp2_with fail
          go_loopw [8] (fun i wr => ∃ s : Nat, s ≤ r ∧ i = .int .i64 s ∧ Hid (Mat wr w4.heap.size w5.heap.size lo' cap' r r Go' (fun _ => r) (fill V s 0)) ∧ Hid (Below w4.heap.size w4 wr ∧ w5.heap.size ≤ wr.heap.size)) (fun i _ => r - (intOf i).toNat)
          case atStart => exact ⟨0, Nat.zero_le _, rfl, by rw [fill_zero]; exact HMO.out, HB5.out, Nat.le_refl _⟩
          case round =>
            obtain ⟨s, hs, rfl, hmat, hbel3⟩ := hrel
            by_cases hsr : s < r
            · obtain ⟨w6, rfl⟩ : ∃ x, x = wr := ⟨wr, rfl⟩
              go_wp2
              go_loopw [9] (fun i wr => ∃ q : Nat, q ≤ r ∧ i = .int .i64 q ∧ Hid (Mat wr w4.heap.size w5.heap.size lo' cap' r r Go' (fun _ => r) (fill V s q)) ∧ Hid (Below w4.heap.size w4 wr ∧ w5.heap.size ≤ wr.heap.size)) (fun i _ => r - (intOf i).toNat)
              case atStart => exact ⟨0, Nat.zero_le _, rfl, hmat.out, hbel3.out⟩
              case round =>
                obtain ⟨q, hq, rfl, hmat2, hbel2⟩ := hrel
                by_cases hqr : q < r
                · have c1 := hmat2.out.cell_l hsr
                  have c2 := (hmat2.out.row s hsr).cell hqr
                  have z2 := (hmat2.out.row s hsr).frozen q
                  have hmp := HMP.out.below hbel2.out.1
                  have c3 := hmp.cell_l hsr
                  have c4 := (hmp.row s hsr).cell (show r + q < n2 by omega)
                  have c5 := (hmp.row s hsr).cell (show s < n2 by omega)
                  have HDV : Hid (∀ w', Calls Try.prog 47 #[.int .u8 ((P s (r + q)).n : Int), .int .u8 ((P s s).n : Int)] w' fun e w'' => e = .returned (.tuple #[.int .u8 ((V s q).n : Int), .int .i64 0]) ∧ w'' = w') := fun w' => by rw [HVE.out]; exact rdiv_k _ _ w' (HRed.out.diag_ne s hsr)
                  have kb : ∀ a : Addr, a.block ≠ Go' s → ∀ x v, wr.cell? a = some x → (wr.setCell ⟨Go' s, q, none⟩ v).cell? a = some x := fun a ha x v hx => (World.cell?_of_block (Below.heap_setCell _ _ _ _ (by simpa using ha))).trans hx
                  have lob := hmat2.out.los s hsr
                  have n1 : lo' ≠ Go' s := (hmat2.out.ne_l hsr).symm
                  have n2' : l ≠ Go' s := by have := HMP.out.lt_l; omega
                  have n3 : G' s ≠ Go' s := by have := (HMP.out.row s hsr).lt; omega
                  have k1 : ∀ v, (wr.setCell ⟨Go' s, q, none⟩ v).cell? ⟨lo', s, none⟩ = some (.slice (some ⟨Go' s, 0, none⟩) r r) := fun v => kb _ n1 _ v c1
                  have k2 : ∀ v, (wr.setCell ⟨Go' s, q, none⟩ v).cell? ⟨l, s, none⟩ = some (.slice (some ⟨G' s, 0, none⟩) n2 (U' s)) := fun v => kb _ n2' _ v c3
                  have k3 : ∀ v, (wr.setCell ⟨Go' s, q, none⟩ v).cell? ⟨G' s, r + q, none⟩ = some (.int .u8 ((P s (r + q)).n : Int)) := fun v => kb _ n3 _ v c4
                  have k4 : ∀ v, (wr.setCell ⟨Go' s, q, none⟩ v).cell? ⟨G' s, s, none⟩ = some (.int .u8 ((P s s).n : Int)) := fun v => kb _ n3 _ v c5
                  clear hmp kb
                  have m0 : IntKind.i64.wrap ((r : Int) + (q : Int)) = (r : Int) + (q : Int) := by rw [IntKind.wrap_i64]; omega
                  have m1 : ((r : Int) + (q : Int)).toNat = r + q := by omega
                  have t1 : (0 : Int) ≤ (s : Int) := by omega
                  have t2 : (s : Int) < (r : Int) := by omega
                  have t3 : (0 : Int) ≤ (q : Int) := by omega
                  have t4 : (q : Int) < (r : Int) := by omega
                  have t5 : (0 : Int) ≤ (r : Int) + (q : Int) := by omega
                  have t6 : (r : Int) + (q : Int) < (n2 : Int) := by omega
                  have t7 : (s : Int) < (n2 : Int) := by omega
                  obtain ⟨X, hX⟩ : ∃ X, X = V s q := ⟨_, rfl⟩
                  rw [← hX] at HDV
                  have HX : Hid (X = V s q) := hX
                  clear hX
                  go_wp2
                  go_region_held3 (fun w' => w'.cell? ⟨lo', s, none⟩ = some (.slice (some ⟨Go' s, 0, none⟩) r r) ∧ w'.cell? ⟨l, s, none⟩ = some (.slice (some ⟨G' s, 0, none⟩) n2 (U' s)) ∧ w'.cell? ⟨G' s, r + q, none⟩ = some (.int .u8 ((P s (r + q)).n : Int)) ∧ w'.cell? ⟨G' s, s, none⟩ = some (.int .u8 ((P s s).n : Int))) (go_keep)
                    ((go_at_call 47; refine (HDV.out _).mono ?_; rintro e w' ⟨rfl, hw'⟩; obtain rfl := hw'.symm))
                  go_wp2
                  go_roundw
                  case rel => exact ⟨q + 1, by omega, by go_num, ((hmat2.out.store hsr X).congr (fun i j _ _ => by rw [HX.out]; exact fill_store V s q i j)).below (below_drew _ _), below_step (hmat2.out.keep hsr hbel2.out.1 hbel2.out.1.size q _) (below_drew _ _) (by rw [size_set]; exact hbel2.out.1.size), by show _ ≤ (wr.setCell _ _).heap.size; rw [size_set]; exact hbel2.out.2⟩
                  case measure => simp [intOf]; omega
                · obtain rfl : q = r := by omega
                  go_wp2
                  go_roundw
                  case rel => exact ⟨s + 1, by omega, by go_num, hmat2.out.congr (fun i j _ hj => fill_row V s q i j hj), hbel2.out⟩
                  case measure => simp [intOf]; omega
            · obtain rfl : s = r := by omega
              go_wp2
              go_ret2
              rw [show invB s H = true from invB_of HV.out]
              refine ref_made ((hmat.out.congr fun i j hi hj => ?_).lower HB4.out.size) hbel3.out.2 (below_step HB4.out hbel3.out.1 HB4.out.size)
              rw [fill_all V s i j hi, invOf_eq HV.out i j hi hj]
  · rw [show okInv ll L H = false by unfold okInv okSq; rw [hok]; simp [hsq], show errM (okSq ll L) 5 = 30 by unfold okSq; rw [hok]; simp [hsq, errM]]
    have hbq : ((ll : Int) != (L 0 : Int)) = true := by simp; omega
    go_enter Try.func34, Try.ntmps34
    go_wp2_with fail
    refine CA.mono ?_
    rintro e w1 ⟨rfl, hq⟩
    have b1 := drewN_below hq
    replace HL : Hid (Lst w1 (some ⟨b, off, none⟩) ll A C L H) := HL.out.below b1
    clear hq
    obtain ⟨b', off', e', hcl⟩ := HL.out.at_ (by omega)
    cases e'
    have c0 := hcl 0 (by omega)
    rw [Nat.add_zero] at c0
    clear hcl h5
    go_wp2_with fail
    go_ret2
    exact made_no b1
end Go.Proofs.Ythkikocacbbhkaa
