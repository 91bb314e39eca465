import Derived.Test.YtngcdlodcdgcaaaGreatZk3
namespace Go.Proofs.YtngcdlodcdgcaaaGreat.Dr
open Go.RowKit Go.Sort
theorem evl_one1 (N : Nm) (R : Int) : evl [(N, R)] = [.string ⟨N.toArray⟩, .int .i64 R] := rfl
theorem ren_lit {w w0 : World} (N : Nm) (R : Int) (h0 : w0 = w.alloc (.cells #[.string ⟨N.toArray⟩, .int .i64 R] 42)) : Ren w0 (some ⟨w.heap.size, 0, none⟩) [(N, R)] 1 := by
 refine ⟨fun _ => ⟨_, _, rfl, fun j u hj => ?_⟩, (fun e => by cases e), Nat.le_refl _⟩
 rw [Nat.zero_add]
 refine blk_held h0 (Below.refl _ _) j ?_
 rw [evl_one1] at hj
 simpa using hj
theorem Reb.from {w : World} {g off : Nat} {b : List UInt8} {cap : Nat} (h : Reb w (some ⟨g, off, none⟩) b cap) {p : Nat} (hp : p <= b.length) : Reb w (if cap = p then some ⟨g, off, none⟩ else some ⟨g, off + p, none⟩) (b.drop p) (cap - p) := by
 have hroom := Rev.room h
 have hl : (b.drop p).length = b.length - p := List.length_drop
 by_cases e : cap = p
 ·rw [if_pos e]
  have : b.drop p = [] := List.drop_eq_nil_iff.2 (by omega)
  rw [this]
  exact ⟨fun h => absurd h (Nat.lt_irrefl 0), (fun e => by cases e), Nat.zero_le _⟩
 ·rw [if_neg e]
  refine ⟨fun hn => ⟨g, off + p, rfl, fun j u hj => ?_⟩, (fun e => by cases e), by omega⟩
  obtain ⟨g2, off2, e2, hc⟩ := Rev.rd h (by omega)
  cases e2
  rw [Nat.add_assoc]
  refine hc (p + j) u ?_
  unfold bvl at hj ⊢
  rw [List.getElem?_map, List.getElem?_drop] at hj
  rw [List.getElem?_map]
  exact hj
theorem ent_bytes {N : Nm} {R : Int} {t : List UInt8} (h : Wf (N, R)) {b : List UInt8} (hb : b = byE (N, R) ++ t) :
  b.length = N.length + 3 + t.length /\ ((b.getD 0 0).toNat : Int) = (N.length : Int) /\ (∀ j, j < N.length -> b.getD (1 + j) 0 = N.getD j 0) /\ ((b.getD (1 + N.length) 0).toNat : Int) * 256 + ((b.getD (1 + N.length + 1) 0).toNat : Int) = R /\ b.drop (N.length + 3) = t := by
 obtain ⟨h1, h2, h3⟩ := h
 simp only at h1 h2 h3
 have e : b = UInt8.ofNat N.length :: (N ++ (rb R ++ t)) := by rw [hb]; simp [byE]
 subst e
 have hr := rb_get h2 h3
 have hrl : (rb R).length = 2 := rfl
 refine ⟨by simp [hrl]; omega, ?_, ?_, ?_, ?_⟩
 ·simp; omega
 ·intro j hj
  rw [show 1 + j = j + 1 by omega]
  simp [List.getD_eq_getElem?_getD, List.getElem?_append_left hj]
 ·have e0 : (UInt8.ofNat N.length :: (N ++ (rb R ++ t))).getD (1 + N.length) 0 = (rb R).getD 0 0 := by
   rw [show 1 + N.length = N.length + 1 by omega]
   simp [List.getD_eq_getElem?_getD, rb]
  have e1 : (UInt8.ofNat N.length :: (N ++ (rb R ++ t))).getD (1 + N.length + 1) 0 = (rb R).getD 1 0 := by
   rw [show 1 + N.length + 1 = (N.length + 1) + 1 by omega]
   rw [List.getD_eq_getElem?_getD, List.getElem?_cons_succ, List.getElem?_append_right (by omega), show N.length + 1 - N.length = 1 by omega]
   rfl
  rw [e0, e1]; exact hr
 ·rw [show N.length + 3 = (N.length + 2) + 1 by omega, List.drop_succ_cons, List.drop_append, List.drop_of_length_le (by omega), show N.length + 2 - N.length = 2 by omega]
  rfl
theorem drop_ent {l : List En} {i : Nat} (h : i < l.length) : l.drop i = (gN l i, gR l i) :: l.drop (i + 1) := by
 rw [List.drop_eq_getElem_cons h, gN_eq h, gR_eq h]
theorem take_ent {l : List En} {i : Nat} (h : i < l.length) : l.take (i + 1) = l.take i ++ [(gN l i, gR l i)] := by
 rw [List.take_succ_eq_append_getElem h, gN_eq h, gR_eq h]
theorem text_of {w : World} {g o : Nat} {N : Nm} (hc : ∀ j, j < N.length -> w.cell? ⟨g, o + j, none⟩ = some (.int .u8 ((N.getD j 0).toNat : Int))) (cap : Nat) :
  (convert 74 9 (.slice (some ⟨g, o, none⟩) N.length cap)).run Tryz.prog w = .ok (.string ⟨N.toArray⟩) w :=
 run_convert_bytes_back w 74 9 5 ⟨g, o, none⟩ cap N Tryz.underlying74 Tryz.underlying5 Tryz.underlying9 fun j hj => by
  rw [alit, hc j hj, List.getD_eq_getElem?_getD, List.getElem?_eq_getElem hj]; rfl
def lenOf : Value -> Nat
  | .slice _ n _ => n
  | _ => 0
set_option maxHeartbeats 1000000 in
set_option maxRecDepth 100000 in
theorem entries_any (w : World) (ao : Option Addr) (b : List UInt8) (ca : Nat) (hv : Reb w ao b ca) (hn : b.length <= 100000) (l : List En) (rest : List UInt8) (hp : Prs b l rest) :
  Calls Tryz.prog 68 #[.slice ao b.length ca] w fun e' w' =>
   ∃ bo cb L ro rc, L = l /\ e' = .returned (.tuple #[.slice bo L.length cb, .slice ro rest.length rc]) /\ OwE w.heap.size w' bo L cb /\ RowKit.Below w.heap.size w w' := by
 have HP : Hid (Prs b l rest) := hp
 have hln : l.length <= 100000 := by have := prs_sz hp; have := sz_len l; omega
 have HV : Hid (Reb w ao b ca) := hv
 clear hp hv
 go_enter Tryz.func68, Tryz.ntmps68
 go_wp2_with fail
 apply wp_scope_straight
 apply wp_seq_k
 intro K hK
 apply wp_label
 refine hK _ _ ?_
 clear hK K
 go_wp2_with fail
 go_loopw [0, 2] (fun y v wr => ∃ (i : Nat) (co : Option Addr) (cc : Nat) (cur : List UInt8) (bo : Option Addr) (cb : Nat) (L : List En), i <= l.length /\ y = .slice co cur.length cc /\ v = .slice bo L.length cb /\ Hid (cur = bys (l.drop i) ++ rest) /\ Hid (Reb w co cur cc) /\ cur.length <= 100000 /\ Hid (L = l.take i) /\ Hid (OwE w.heap.size wr bo L cb) /\ Hid (RowKit.Below w.heap.size w wr)) (fun y _ _ => lenOf y)
 case atStart => exact ⟨0, ao, ca, b, none, 0, [], Nat.zero_le _, rfl, rfl, HP.out.1, HV, hn, rfl, owe_nil _ _, Below.refl _ _⟩
 case round =>
  obtain ⟨i, co, cc, cur, bo, cb, L, hi, rfl, rfl, hcur, hreb, hcl, hL, hown, hbel⟩ := hrel
  by_cases hlt : i < l.length
  ·have hc0 := hcur.out
   rw [drop_ent hlt, bys_cons, List.append_assoc] at hc0
   have hwf : Wf (gN l i, gR l i) := by rw [gN_eq hlt, gR_eq hlt]; exact HP.out.2.1 _ (List.getElem_mem hlt)
   have HLL : Hid (L ++ [(gN l i, gR l i)] = l.take (i + 1)) := by show _ = _; rw [take_ent hlt, hL.out]
   have hLn : L.length <= 100000 := by rw [hL.out, List.length_take]; omega
   obtain ⟨N, hN⟩ : ∃ N, N = gN l i := ⟨_, rfl⟩
   obtain ⟨R, hR⟩ : ∃ R, R = gR l i := ⟨_, rfl⟩
   rw [<- hN, <- hR] at hc0 hwf HLL
   obtain ⟨e1, e2, e3, e4, e5⟩ := ent_bytes hwf hc0
   have hn255 : N.length <= 255 := hwf.1
   obtain ⟨g, o, rfl, hc⟩ := hreb.out.at_ (by omega)
   have hroom := Rev.room hreb.out
   have c0 := held (hc 0 (by omega)) hbel.out
   rw [e2, Nat.add_zero] at c0
   obtain ⟨n, hnn⟩ : ∃ n, n = N.length := ⟨_, rfl⟩
   have HNN : Hid (n = N.length) := hnn
   have HTX : Hid (∀ u, RowKit.Below w.heap.size w u -> ∀ cap, (convert 74 9 (.slice (some ⟨g, o + 1, none⟩) n cap)).run Tryz.prog u = .ok (.string ⟨N.toArray⟩) u) := fun u hu cap => by
    rw [hnn]
    refine text_of (fun j hj => ?_) cap
    rw [Nat.add_assoc, held (hc (1 + j) (by omega)) hu, e3 j hj]
   have HRO : Hid (∀ u, RowKit.Below w.heap.size w u -> ∀ k cap, 2 <= k -> Calls Tryz.prog 59 #[.slice (some ⟨g, o + (1 + n), none⟩) k cap] u fun e w' => e = .returned (.int .i64 R) /\ RowKit.Below u.heap.size u w') := fun u hu k cap hk => by
    have := rowOf_any u g (o + (1 + n)) k cap (cur.getD (1 + N.length) 0) (cur.getD (1 + N.length + 1) 0) hk (by rw [hnn]; exact held (hc (1 + N.length) (by omega)) hu) (by rw [hnn, Nat.add_assoc]; exact held (hc (1 + N.length + 1) (by omega)) hu)
    rw [e4] at this
    exact this
   have HTL : Hid (Reb w (if cc = n + 3 then some ⟨g, o, none⟩ else some ⟨g, o + (n + 3), none⟩) (bys (l.drop (i + 1)) ++ rest) (cc - (n + 3))) := by
    have := hreb.out.from (p := n + 3) (by omega)
    rw [hnn, e5] at this
    rw [hnn]; exact this
   obtain ⟨T, hT⟩ : ∃ T, T = bys (l.drop (i + 1)) ++ rest := ⟨_, rfl⟩
   rw [<- hT] at HTL e1
   have HT : Hid (T = bys (l.drop (i + 1)) ++ rest) := hT
   rw [<- hnn] at e1 c0 hn255
   have k1 : (cur.length : Int) = (n : Int) + 3 + (T.length : Int) := by omega
   have k2 : cur.length - (n + 3) = T.length := by omega
   have HE1 : Hid (cur.length = n + 3 + T.length) := e1
   clear hc0 hwf hN hR e2 e3 e4 e5 hc hnn hT hi
   have b1 : (1 : Int) + (n : Int) = ((1 + n : Nat) : Int) := by omega
   have b2 : ((1 + n : Nat) : Int) + 2 = ((n + 3 : Nat) : Int) := by omega
   obtain ⟨m, hm⟩ : ∃ m, m = 1 + n := ⟨_, rfl⟩
   obtain ⟨p, hp⟩ : ∃ p, p = n + 3 := ⟨_, rfl⟩
   rw [<- hm] at b1 b2 HRO
   rw [<- hp] at b2 HTL k2
   have j1 : (0 : Int) < (cur.length : Int) := by omega
   have j2 : (p : Int) <= (cur.length : Int) := by omega
   have j3 : ¬ (cur.length : Int) < (p : Int) := by omega
   have j4 : (1 : Int) <= (m : Int) := by omega
   have j5 : (m : Int) <= (cc : Int) := by omega
   have j6 : (m : Int) <= (cur.length : Int) := by omega
   have j7 : (cur.length : Int) <= (cc : Int) := by omega
   have j8 : (0 : Int) <= (m : Int) := by omega
   have j9 : (1 : Int) <= (cc : Int) := by omega
   have j10 : (p : Int) <= (cc : Int) := by omega
   have j11 : (0 : Int) <= (p : Int) := by omega
   have m1 : m - 1 = n := by omega
   have m2 : ¬ cc = 1 := by omega
   have m3 : ¬ cc = m := by omega
   have HJ : Hid (2 <= cur.length - m /\ 2 <= cc - m) := ⟨by omega, by omega⟩
   have HMP : Hid (m = 1 + n /\ p = n + 3) := ⟨hm, hp⟩
   obtain ⟨sa, hsa⟩ : ∃ sa, (if cc = p then some (⟨g, o, none⟩ : Addr) else some ⟨g, o + p, none⟩) = sa := ⟨_, rfl⟩
   rw [hsa] at HTL
   have HBD : Hid (RowKit.Below w.heap.size w wr.drew) := hbel.out.trans (below_drew _ _)
   have tx := HTX.out wr.drew HBD.out (cc - 1)
   have hRO := HRO.out wr.drew HBD.out (cur.length - m) (cc - m) HJ.out.1
   have hownd := hown.out.below (below_drew _ wr)
   have hge := hown.out.ge
   clear hm hp k1 e1
   go_wp2_with fail
   go_region_held3 (fun u => (convert 74 9 (.slice (some ⟨g, o + 1, none⟩) n (cc - 1))).run Tryz.prog u = .ok (.string ⟨N.toArray⟩) u) (first | assumption | exact HTX.out _ HBD.out _ | exact HTX.out _ (below_then HB2.out (below_alloc _ _)) _) ((first
    | (go_at_call 59; refine hRO.mono ?_; rintro _ w2 ⟨rfl, h2⟩; have HB2 : Hid (RowKit.Below w.heap.size w w2) := below_then HBD.out h2; have hown2 := hownd.below h2; have tx2 := HTX.out w2 HB2.out (cc - 1); obtain ⟨w3, hw3⟩ : ∃ w3, w3 = w2.alloc (.cells #[.string ⟨N.toArray⟩, .int .i64 R] 42) := ⟨_, rfl⟩; have hb3 : RowKit.Below w2.heap.size w2 w3 := (by rw [hw3]; exact below_alloc _ _); have hlit : Ren w3 (some ⟨w2.heap.size, 0, none⟩) [(N, R)] 1 := ren_lit N R hw3; have HB3 : Hid (RowKit.Below w.heap.size w w3) := below_then HB2.out hb3; have hown3 := hown2.below hb3; have hsz3 := HB3.out.size; have tx3 := HTX.out w3 HB3.out (cc - 1); clear h2 hb3 hown2)
    | (rw [<- hw3]; refine step_ents (by rfl) (.tmp 13) (.tmp 23) (by rfl) w.heap.size cb 1 bo (some ⟨w2.heap.size, 0, none⟩) L [(N, R)] (by rfl) (by rfl) hown3 hlit (by simp) (by simp; omega) hsz3 ?_; intro bo4 cb4 w4 L4 hL4 hown4 hg4; have HL4 : Hid (L4 = L ++ [(N, R)]) := hL4; have HB4 : Hid (RowKit.Below w.heap.size w w4) := HB3.out.grown hg4 hsz3 hown3.ge; have tx4 := HTX.out w4 HB4.out (cc - 1); clear hL4)))
   go_wp2
   refine ⟨⟨i + 1, sa, cc - p, T, bo4, cb4, L4, by omega, rfl, rfl, HT, HTL, by have := HE1.out; omega, ?_, hown4, HB4⟩, ?_⟩
   ·show _ = _
    rw [<- HLL.out, HL4.out]
   ·show T.length < cur.length
    have := HE1.out
    omega
  ·obtain rfl : i = l.length := by omega
   have hcr : cur = rest := by rw [hcur.out, List.drop_length]; rfl
   subst hcr
   have HLE : Hid (L = l) := by show _ = _; rw [hL.out, List.take_length]
   rcases HP.out.2.2 with h0 | h0
   ·subst h0
    go_wp2
    simp only [Exit.noGoto_ret]
    go_ret2
    exact ⟨bo, cb, L, co, cc, HLE.out, rfl, hown.out, hbel.out⟩
   ·obtain ⟨h1, h2⟩ := h0
    have hpos := List.length_pos_iff.2 h1
    obtain ⟨g, o, rfl, hc⟩ := hreb.out.at_ hpos
    have c0 := held (hc 0 hpos) hbel.out
    rw [Nat.add_zero] at c0
    obtain ⟨n, hnn⟩ : ∃ n : Nat, n = (cur.getD 0 0).toNat := ⟨_, rfl⟩
    rw [<- hnn] at c0 h2
    have j1 : (0 : Int) < (cur.length : Int) := by omega
    have j2 : (cur.length : Int) < (n : Int) + 3 := by omega
    have j3 : (cur.length : Int) < 1 + (n : Int) + 2 := by omega
    have j4 : (n : Int) < 256 := by have := (cur.getD 0 0).toNat_lt; omega
    clear hc h1 h2 hnn
    go_wp2
    simp only [Exit.noGoto_ret]
    go_ret2
    exact ⟨bo, cb, L, _, cc, HLE.out, rfl, hown.out, hbel.out⟩
end Go.Proofs.YtngcdlodcdgcaaaGreat.Dr
namespace Go.Proofs.YtngcdlodcdgcaaaGreat.Dr
open Go.RowKit Go.Sort
theorem erB_no {e : Int} {M : Nat} {q : Int} {n : Nat} {l : List En} {rest : List UInt8} (h : e ≠ 0) : erB e M q n l rest = e := by unfold erB; rw [if_neg h]
theorem erB_big {M : Nat} {q : Int} {n : Nat} {l : List En} {rest : List UInt8} (h : M < n) : erB 0 M q n l rest = 3 := by unfold erB; rw [if_pos rfl, if_pos h]
theorem erB_cut {M : Nat} {q : Int} {n : Nat} {l : List En} {rest : List UInt8} (h : ¬ M < n) (g : rest ≠ []) : erB 0 M q n l rest = 220 := by unfold erB; rw [if_pos rfl, if_neg h, if_neg (fun x => g x.1)]
theorem erB_bad {M : Nat} {q : Int} {n : Nat} {l : List En} {rest : List UInt8} (h : ¬ M < n) (g : mayE q l = false) : erB 0 M q n l rest = 220 := by unfold erB; rw [if_pos rfl, if_neg h, if_neg (fun x => by rw [x.2] at g; cases g)]
theorem erB_good {M : Nat} {q : Int} {n : Nat} {l : List En} {rest : List UInt8} (h : ¬ M < n) (g : rest = []) (g2 : mayE q l = true) : erB 0 M q n l rest = 0 := by unfold erB; rw [if_pos rfl, if_neg h, if_pos ⟨g, g2⟩]
set_option maxHeartbeats 1000000 in
set_option maxRecDepth 100000 in
theorem Parse_any {k r c q : Int} {M : Nat} {e : Int} (hp : PP k r c q M e) (w : World) (ao : Option Addr) (b : List UInt8) (ca : Nat) (hv : Reb w ao b ca) (hn : b.length <= 100000) (l : List En) (rest : List UInt8) (hpr : Prs b l rest) :
  Calls Tryz.prog 37 #[.agg #[.int .i64 k, .int .i64 r, .int .i64 c, .int .i64 q], .slice ao b.length ca] w fun e' w' =>
   ∃ E bo cb L, E = erB e M q b.length l rest /\ L = (if E = 0 then l else []) /\ e' = .returned (.tuple #[.slice bo L.length cb, .int .i64 E]) /\ OwE w.heap.size w' bo L cb /\ RowKit.Below w.heap.size w w' := by
 obtain ⟨w0, hw0⟩ : ∃ w0, w0 = w.alloc (.cells #[.int .i64 k, .int .i64 r, .int .i64 c, .int .i64 q] 23) := ⟨_, rfl⟩
 have b0 : RowKit.Below w.heap.size w w0 := by rw [hw0]; exact below_alloc _ _
 have HPAR : Hid (∀ v, RowKit.Below w0.heap.size w0 v -> v.cell? ⟨w.heap.size, 0, none⟩ = some (.int .i64 k) /\ v.cell? ⟨w.heap.size, 1, none⟩ = some (.int .i64 r) /\ v.cell? ⟨w.heap.size, 2, none⟩ = some (.int .i64 c) /\ v.cell? ⟨w.heap.size, 3, none⟩ = some (.int .i64 q)) := fun v hv => par_held hw0 hv
 have HV : Hid (Reb w0 ao b ca) := hv.below b0
 have HB0 : Hid (RowKit.Below w.heap.size w w0) := b0
 have HC := hp.most
 obtain ⟨x0, x1, x2, x3⟩ := HPAR.out w0 (Below.refl _ _)
 have HEN : Hid (∀ u, RowKit.Below w0.heap.size w0 u -> Calls Tryz.prog 68 #[.slice ao b.length ca] u fun e' w' => ∃ bo cb L ro rc, L = l /\ e' = .returned (.tuple #[.slice bo L.length cb, .slice ro rest.length rc]) /\ OwE u.heap.size w' bo L cb /\ RowKit.Below u.heap.size u w') := fun u hu => entries_any u ao b ca (HV.out.below hu) hn l rest hpr
 have hln : l.length <= 100000 := by have := prs_sz hpr; have := sz_len l; omega
 have HM : Hid (∀ u uo uc, Ren u uo l uc -> Calls Tryz.prog 69 #[.agg #[.int .i64 k, .int .i64 r, .int .i64 c, .int .i64 q], .slice uo l.length uc] u fun e w' => e = .returned (.bool (mayE q l)) /\ RowKit.Below u.heap.size u w') := fun u uo uc hu => may_any k r c q u uo l uc hu (by omega)
 clear hv b0 hp hpr
 by_cases he : e = 0
 ·subst he
  by_cases hbig : M < b.length
  ·have hb1 : (M : Int) < (b.length : Int) := by omega
   have HBG : Hid (M < b.length) := hbig
   clear hbig
   go_enter Tryz.func37, Tryz.ntmps37
   go_wp2_with fail
   rw [<- hw0]
   clear hw0
   refine (HC _).mono ?_
   rintro _ w1 ⟨rfl, h1⟩
   go_wp2
   go_ret2
   exact ⟨3, none, 0, [], (erB_big HBG.out).symm, by rw [if_neg (by decide)], rfl, owe_nil _ _, below_then HB0.out h1⟩
  ·have hb1 : ¬ (M : Int) < (b.length : Int) := by omega
   have HBG : Hid (¬ M < b.length) := hbig
   clear hbig
   go_enter Tryz.func37, Tryz.ntmps37
   go_wp2_with fail
   rw [<- hw0]
   clear hw0
   refine (HC _).mono ?_
   rintro _ w1 ⟨rfl, h1⟩
   have HB1 : Hid (RowKit.Below w0.heap.size w0 w1) := h1
   have hEN := HEN.out w1 h1
   clear h1 HC x0 x1 x2 x3
   go_wp2_with fail
   refine hEN.mono ?_
   rintro _ w2 ⟨bo, cb, L, ro, rc, hL, rfl, hown, h2⟩
   subst hL
   have HB2 : Hid (RowKit.Below w0.heap.size w0 w2) := below_then HB1.out h2
   have HO2 : Hid (OwE w1.heap.size w2 bo L cb) := hown
   have HS1 : Hid (w.heap.size <= w1.heap.size) := (below_then HB0.out HB1.out).size
   have hM := HM.out w2 bo cb hown.ren
   clear h2 hown hEN
   obtain ⟨x0, x1, x2, x3⟩ := HPAR.out w2 HB2.out
   by_cases hr : rest = []
   ·have hr0 : rest.length = 0 := by rw [hr]; rfl
    have hr1 : ¬ (0 : Int) < (rest.length : Int) := by omega
    have HR : Hid (rest = []) := hr
    rw [hr0]
    clear hr hr0
    cases hm : mayE q L
    ·rw [hm] at hM
     have HMM : Hid (mayE q L = false) := hm
     clear hm
     go_wp2_with fail
     refine hM.mono ?_
     rintro _ w3 ⟨rfl, h3⟩
     go_wp2
     go_ret2
     exact ⟨220, none, 0, [], (erB_bad HBG.out HMM.out).symm, by rw [if_neg (by decide)], rfl, owe_nil _ _, below_then HB0.out (below_then HB2.out h3)⟩
    ·rw [hm] at hM
     have HMM : Hid (mayE q L = true) := hm
     clear hm
     go_wp2_with fail
     refine hM.mono ?_
     rintro _ w3 ⟨rfl, h3⟩
     go_wp2
     go_ret2
     exact ⟨0, bo, cb, L, (erB_good HBG.out HR.out HMM.out).symm, by rw [if_pos rfl], rfl, (HO2.out.below h3).mono HS1.out, below_then HB0.out (below_then HB2.out h3)⟩
   ·have hr0 : 0 < rest.length := List.length_pos_iff.2 hr
    have hr1 : (0 : Int) < (rest.length : Int) := by omega
    have HR : Hid (rest ≠ []) := hr
    clear hr
    go_wp2
    go_ret2
    exact ⟨220, none, 0, [], (erB_cut HBG.out HR.out).symm, by rw [if_neg (by decide)], rfl, owe_nil _ _, below_then HB0.out HB2.out⟩
 ·have hz : (e != 0) = true := by simpa using he
  have HE : Hid (e ≠ 0) := he
  clear he
  go_enter Tryz.func37, Tryz.ntmps37
  go_wp2_with fail
  rw [<- hw0]
  clear hw0
  refine (HC _).mono ?_
  rintro _ w1 ⟨rfl, h1⟩
  go_wp2
  go_ret2
  exact ⟨e, none, 0, [], (erB_no HE.out).symm, by rw [if_neg HE.out], rfl, owe_nil _ _, below_then HB0.out h1⟩
end Go.Proofs.YtngcdlodcdgcaaaGreat.Dr
