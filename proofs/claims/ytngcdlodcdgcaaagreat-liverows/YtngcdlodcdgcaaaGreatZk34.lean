import Derived.Test.YtngcdlodcdgcaaaGreatZk33
namespace Go.Proofs.YtngcdlodcdgcaaaGreat.Cod
open Go.RowKit
structure PickR (w : World) (B k t : Nat) (v : Value) (G U R : Nat -> Nat) : Prop where
  rows : w.ownsRow B 74 1 v t (rowsOf t (fun s => some ⟨G s, 0, none⟩) (fun _ => k) U)
  row : ∀ s, s < t -> Own w (G s) k (U s) (gen k (R s))
theorem PickR.stay {w w' : World} {B k t : Nat} {v : Value} {G U R : Nat -> Nat} (h : PickR w B k t v G U R) (hs : Stay w w') : PickR w' B k t v G U R :=
  ⟨owns_stay h.rows hs, fun s hs' => (h.row s hs').stay hs⟩
theorem PickR.start (w : World) (B k : Nat) (R : Nat -> Nat) : PickR w B k 0 (.slice none 0 0) (fun _ => 0) (fun _ => 0) R :=
  ⟨World.ownsRow_nil _ _ _ _, fun s hs => absurd hs (Nat.not_lt_zero s)⟩
theorem Own.grown {w w' : World} {g n u base m : Nat} {f : Nat -> K} {v : Value} {xs : List Value} (h : Own w g n u f) (ho : w.ownsRow base 74 1 v m xs) (hg : w.grownBy w' v.ownBlock) : Own w' g n u f :=
  h.of_block (hg.block g h.lt fun e => own_ne ho h e.symm)
theorem Own.alloc {w : World} {g n u : Nat} {f : Nat -> K} (h : Own w g n u f) (o : Obj) : Own (w.alloc o) g n u f := h.below ((Below.refl _ _).alloc (Nat.le_refl _) _)
theorem PickR.step {w1 w2 : World} {B k t g1 c1 gr ur : Nat} {v : Value} {G U R : Nat -> Nat} {o : Obj} (h : PickR w1 B k t v G U R) (hr : Own w1 gr k ur (gen k (R t)))
    (hg1 : (w1.alloc o).grownBy w2 v.ownBlock) (h1 : w2.ownsRow B 74 1 (.slice (some ⟨g1, 0, none⟩) (t + 1) c1) (t + 1) (rowsOf t (fun s => some ⟨G s, 0, none⟩) (fun _ => k) U ++ [.slice (some ⟨gr, 0, none⟩) k ur])) :
    PickR w2 B k (t + 1) (.slice (some ⟨g1, 0, none⟩) (t + 1) c1) (put t gr G) (put t ur U) R := by
  refine ⟨?_, fun s hs => ?_⟩
  · refine (congrArg (w2.ownsRow B 74 1 (.slice (some ⟨g1, 0, none⟩) (t + 1) c1) (t + 1)) ?_).mp h1
    have := rowsOf_put t (fun s => some ⟨G s, 0, none⟩) (fun _ => k) U (some ⟨gr, 0, none⟩) k ur
    rw [<- this]
    refine List.map_congr_left fun i _ => ?_
    by_cases e : i = t
    · subst e; simp only [put_at]
    · simp only [put_ne _ _ e]
  · have old : ∀ g u' f, Own w1 g k u' f -> Own w2 g k u' f := fun g u' f ho => (ho.alloc o).grown (h.rows.alloc o) hg1
    by_cases e : s = t
    · subst e; rw [put_at, put_at]; exact old _ _ _ hr
    · rw [put_ne _ _ e, put_ne _ _ e]; exact old _ _ _ (h.row s (by omega))
theorem PickR.lst {w : World} {B k t c1 : Nat} {a1 : Option Addr} {G U R : Nat -> Nat} (h : PickR w B k t (.slice a1 t c1) G U R) : Lst w a1 t (fun s => some ⟨G s, 0, none⟩) U (fun _ => k) (rowsR k R) :=
  ⟨fun s hs => (h.row s hs).rd, fun hp => by
    rcases h.rows.2 with ⟨_, h1⟩ | ⟨g, cap', cur, h1, _⟩
    · omega
    · cases h1
      refine ⟨g, 0, rfl, fun i hi => ?_⟩
      have := h.rows.cells (g := g) rfl i _ (rowsOf_get t _ _ _ i hi)
      rwa [Addr.add_lit] at this⟩
theorem pickC_lst {w : World} {B m t c2 : Nat} {a2 : Option Addr} {A : Nat -> Option Addr} {C R : Nat -> Nat} {H : M} (h : w.ownsRow B 74 1 (.slice a2 t c2) t (rowsOf t (fun s => A (R s)) (fun _ => m) (fun s => C (R s)))) (hr : ∀ s, s < t -> Rd w (A (R s)) m (H (R s))) : Lst w a2 t (fun s => A (R s)) (fun s => C (R s)) (fun _ => m) (fun s => H (R s)) :=
  ⟨hr, fun hp => by
    rcases h.2 with ⟨_, h1⟩ | ⟨g, cap', cur, h1, _⟩
    · omega
    · cases h1
      refine ⟨g, 0, rfl, fun i hi => ?_⟩
      have := h.cells (g := g) rfl i _ (rowsOf_get t _ _ _ i hi)
      rwa [Addr.add_lit] at this⟩
theorem Sel.low {L : Nat -> Nat} {n c : Nat} {R : Nat -> Nat} (h : Sel L n c R) {k : Nat} (hk : k <= c) (hr : R (k - 1) < k) {i : Nat} (hi : i < k) : L i ≠ 0 := by
  have h1 : ∀ j, j < k -> R (k - 1 - j) + j < k := by
    intro j
    induction j with
    | zero => intro _; simpa using hr
    | succ j ih =>
      intro hj
      have h2 := ih (by omega)
      have h3 := h.rise (k - 1 - (j + 1)) (k - 1 - j) (by omega) (by omega)
      omega
  have h2 := h1 (k - 1 - i) (by omega)
  have e : k - 1 - (k - 1 - i) = i := by omega
  rw [e] at h2
  have h3 := h.ge i (by omega)
  have h4 := h.there i (by omega)
  have e2 : R i = i := by omega
  rwa [e2] at h4
theorem Copied.base {w : World} {B B' k : Nat} {v : Value} {T : Nat -> Option Addr} {L U : Nat -> Nat} {H : M} (h : Copied w B k v T L U H) (hb : B' <= B) : Copied w B' k v T L U H :=
  ⟨owns_base h.out hb, fun i hi => owns_base (h.row i hi) hb, h.apart⟩
end Go.Proofs.YtngcdlodcdgcaaaGreat.Cod
namespace Go.Proofs.YtngcdlodcdgcaaaGreat.Cod
open Go.RowKit
set_option maxHeartbeats 4000000 in
set_option maxRecDepth 100000 in
theorem back_any (w : World) (b B k r n c cc : Nat) (co : Option Addr) (L R : Nat -> Nat) (hk1 : 1 <= k) (hk : k <= 12) (hr : r <= 4) (hn : n <= 5000) (hB : B <= w.heap.size)
    (hkept : Kept w b B k r n 0 0) (hsel : Sel L (k + r) c R) (hc : k <= c) (hco : RdI w co k (fun t => (R t : Int))) :
    Calls Tryz.prog 160 #[.map (some b), .int .i64 (k : Int), .int .i64 (r : Int), .slice co k cc] w fun e w' => Kept w' b B k r (n + 12 * k) 0 0 /\ Keeps b (b + 1) w w' /\ ((R (k - 1) < k /\ e = .returned (.slice none 0 0)) \/ ∃ lb cb Gb Ub, e = .returned (.slice (some ⟨lb, 0, none⟩) k cb) /\ ∃ B0, Mat w' B0 w'.heap.size lb cb k k Gb Ub (invOf k (rowsR k R))) := by
  obtain ⟨j0, hj, hj0, hj1, hj2⟩ := info_parts info23c
  have HK : Hid (Kept w b B k r n 0 0) := hkept
  have HSEL : Hid (Sel L (k + r) c R) := hsel
  obtain ⟨bc, oc, rfl, hcc⟩ := hco (by omega)
  have HCC : Hid (∀ i, i < k -> w.cell? ⟨bc, oc + i, none⟩ = some (.int .i64 (R i : Int))) := hcc
  have dl : w.cell? ⟨bc, oc + (k - 1), none⟩ = some (.int .i64 (R (k - 1) : Int)) := hcc (k - 1) (by omega)
  have i1 : (0 : Int) <= (k : Int) - 1 := by omega
  have i2 : (k : Int) - 1 < (k : Int) := by omega
  have iw : wrap64 ((k : Int) - 1) = (k : Int) - 1 := by unfold wrap64; omega
  obtain ⟨z, hz⟩ : ∃ z, z = R (k - 1) := ⟨_, rfl⟩
  have HZ : Hid (z = R (k - 1)) := hz
  rw [<- hz] at dl
  clear hkept hsel hco hcc hz
  by_cases hzk : z < k
  · have iz : (z : Int) < (k : Int) := by omega
    go_enter Tryz.func160, Tryz.ntmps160
    go_wp2
    go_ret
    exact ⟨HK.out.mono (by omega), Keeps.refl _ _ _, .inl ⟨by rw [<- HZ.out]; exact hzk, rfl⟩⟩
  have iz : ¬ (z : Int) < (k : Int) := by omega
  go_enter Tryz.func160, Tryz.ntmps160
  go_wp2
  go_loopw [9, 23] (fun v x wr => ∃ t : Nat, t <= k /\ x = .int .i64 t /\ (∃ a1 c1, v = .slice a1 t c1) /\ Hid (∃ G U, PickR wr w.heap.size k t v G U R) /\ Hid (Kept wr b B k r (n + 12 * t) 0 0) /\ Hid (Keeps b (b + 1) w wr)) (fun _ x _ => k - (intOf x).toNat)
  case atStart => exact ⟨0, Nat.zero_le _, rfl, ⟨none, 0, rfl⟩, ⟨_, _, PickR.start _ _ _ _⟩, HK.out, Keeps.refl _ _ _⟩
  case round =>
    obtain ⟨t, htk, rfl, ⟨a1, c1, rfl⟩, hpick, hkept, hkeep⟩ := hrel
    by_cases hlt : t < k
    · obtain ⟨G, U, hp⟩ := hpick.out
      have HP : Hid (PickR wr w.heap.size k t (.slice a1 t c1) G U R) := hp
      have hws := hkeep.out.size
      obtain ⟨q, hq⟩ : ∃ q, q = R t := ⟨_, rfl⟩
      have hqn : q < k + r := by rw [hq]; exact HSEL.out.lt t (by omega)
      have S0 : Hid (Stay w wr) := HK.out.stay hkeep.out
      have d1 : wr.cell? ⟨bc, oc + t, none⟩ = some (.int .i64 (q : Int)) := by rw [hq]; exact S0.out.cell (HCC.out t hlt)
      have HQ : Hid (q = R t) := hq
      have HR := row_any wr b B k r (n + 12 * t) q hk1 hk hr hqn (by omega) (by omega) hkept.out
      unfold key at HR
      have HRR : Hid (Calls Tryz.prog 163 #[.map (some b), .agg #[.int .i64 (k : Int), .int .i64 (r : Int), .int .i64 (q : Int)]] wr (RowOf wr b B k r (n + 12 * t) q)) := HR
      obtain ⟨XS, hXS⟩ : ∃ X, X = rowsOf t (fun s => some ⟨G s, 0, none⟩) (fun _ => k) U := ⟨_, rfl⟩
      have HXS : Hid (rowsOf t (fun s => some ⟨G s, 0, none⟩) (fun _ => k) U = XS) := hXS.symm
      have i3 : (0 : Int) <= (t : Int) := by omega
      have i4 : (t : Int) < (k : Int) := by omega
      clear hpick hp hXS HR hq dl i1 i2 iw iz
      go_wp2_with (first
        | (go_at_call 163; refine HRR.out.mono ?_; rintro e w1 ⟨g, u, rfl, hg, ho, hk1', hke1⟩
           have S1 : Hid (Stay wr w1) := hkept.out.stay hke1
           have HP1 : Hid (PickR w1 w.heap.size k t (.slice a1 t c1) G U R) := HP.out.stay S1.out
           have HO1 : Hid (Own w1 g k u (gen k (R t))) := (by rw [<- HQ.out]; exact ho)
           have HK1 : Hid (Kept w1 b B k r (n + 12 * t + 12) 0 0) := hk1'
           have HE1 : Hid (Keeps b (b + 1) w w1) := hkeep.out.trans hke1
           have HOV : Hid (w1.ownsRow w.heap.size 74 1 (.slice a1 t c1) t XS) := (by rw [<- HXS.out]; exact HP1.out.rows)
           have hs1 : w.heap.size <= w1.heap.size := Nat.le_trans hws hke1.size
           clear hg ho hk1' hke1 HRR)
        | (at_builtin; refine wpList_append_lies _ (by rfl) (.tmp 27) (.tmp 34) 24 (by rfl) w.heap.size 74 j0 (.slice none 0 0) 1 24 Tryz.underlying24 hj hj0 hj1 hj2 (by rfl) (by decide) (.slice a1 t c1) t XS (by rfl) (HOV.out.alloc _) ⟨w1.heap.size, 0, none⟩ 1 1 [.slice (some ⟨g, 0, none⟩) k u] (by rfl) (by rfl) (World.news_of_block (heap_alloc_new w1 _)) (by simp [Value.oneCell']) (by decide) (by unfold maxLen; omega) (by omega) (by simp; omega) (w1.heap.size + 1) (by simp) ?_; intro g2 cap2 w2 hown2 hgrow2 _ _))
      have HP3 : Hid (∃ G U, PickR w2 w.heap.size k (t + 1) (.slice (some ⟨g2, 0, none⟩) (t + 1) cap2) G U R) :=
        ⟨_, _, HP1.out.step HO1.out hgrow2 (by rw [HXS.out]; exact hown2)⟩
      have HK3 : Hid (Kept w2 b B k r (n + 12 * (t + 1)) 0 0) := ((HK1.out.below ((Below.refl _ _).alloc (Nat.le_refl _) _)).grown (HOV.out.alloc _) hgrow2).mono (by omega)
      have HE3 : Hid (Keeps b (b + 1) w w2) := (HE1.out.alloc _).grown2 hgrow2 (fun q hq => (HOV.out.lt q hq).1)
      clear hown2 hgrow2
      go_roundw
      case rel => exact ⟨t + 1, by omega, by go_num, ⟨_, _, rfl⟩, HP3, HK3, HE3⟩
      case measure => simp [intOf]; omega
    · obtain rfl : t = k := by omega
      obtain ⟨G, U, hp⟩ := hpick.out
      have HI := inverse_any wr a1 t c1 _ _ _ _ hp.lst
      rw [okInv_of hk1 (by omega) (rows_inv hk (show t + r <= 16 by omega) (fun s hs => HSEL.out.lt s (by omega)) (fun s s' h1 h2 => HSEL.out.rise s s' h1 (by omega)))] at HI
      have HII : Hid (Calls Tryz.prog 169 #[.slice a1 t c1] wr (Made wr true (errM (okSq t fun _ => t) 5) t t (invOf t (rowsR t R)))) := HI
      clear hpick hp HI dl i1 i2 iw iz
      go_wp2_with fail
      refine HII.out.mono ?_
      intro e wi hh
      obtain ⟨lb, cb, Gb, Ub, rfl, hmb, hbi⟩ := mat_of hh (by omega)
      have HMB : Hid (Mat wi wr.heap.size wi.heap.size lb cb t t Gb Ub (invOf t (rowsR t R))) := hmb
      have HKI : Hid (Kept wi b B t r (n + 12 * t) 0 0) := hkept.out.below hbi
      have HEI : Hid (Keeps b (b + 1) w wi) := hkeep.out.trans (Keeps.of_below hbi)
      clear hh hmb hbi hkept hkeep HII
      go_wp2_with fail
      go_ret
      exact ⟨HKI.out, HEI.out, .inr ⟨lb, cb, Gb, Ub, rfl, _, HMB.out⟩⟩
set_option maxHeartbeats 4000000 in
set_option maxRecDepth 100000 in
theorem data_any (w : World) (b B k r n m c cc : Nat) (lo co : Option Addr) (cl : Nat) (A : Nat -> Option Addr) (C L : Nat -> Nat) (H : M) (R : Nat -> Nat) (hk1 : 1 <= k) (hk : k <= 12) (hr : r <= 4) (hm1 : 1 <= m) (hm : m <= 65536) (hn : n <= 5000) (hB : B <= w.heap.size)
    (hkept : Kept w b B k r n 0 0) (hl : Lst w lo (k + r) A C L H) (hL : ∀ i, i < k + r -> L i = 0 \/ L i = m) (hsel : Sel L (k + r) c R) (hc : k <= c) (hco : RdI w co k (fun t => (R t : Int))) :
    Calls Tryz.prog 148 #[.map (some b), .int .i64 (k : Int), .int .i64 (r : Int), .slice lo (k + r) cl, .slice co k cc] w fun e w' => ∃ ao cap T U, e = .returned (.slice ao k cap) /\ Copied w' w.heap.size k (.slice ao k cap) T (fun _ => m) U (dec k R H) /\ Kept w' b B k r (n + 12 * k) 0 0 /\ Keeps b (b + 1) w w' := by
  obtain ⟨j0, hj, hj0, hj1, hj2⟩ := info_parts info23c
  have HK : Hid (Kept w b B k r n 0 0) := hkept
  have HL : Hid (Lst w lo (k + r) A C L H) := hl
  have HLL : Hid (∀ i, i < k + r -> L i = 0 \/ L i = m) := hL
  have HSEL : Hid (Sel L (k + r) c R) := hsel
  have HCO : Hid (RdI w co k (fun t => (R t : Int))) := hco
  obtain ⟨bl, ol, rfl, hcl⟩ := hl.at_ (by omega)
  have HCL : Hid (∀ i, i < k + r -> w.cell? ⟨bl, ol + i, none⟩ = some (.slice (A i) (L i) (C i))) := hcl
  obtain ⟨bc, oc, rfl, hcc⟩ := hco (by omega)
  have HCC : Hid (∀ i, i < k -> w.cell? ⟨bc, oc + i, none⟩ = some (.int .i64 (R i : Int))) := hcc
  clear hkept hl hL hsel hco hcl hcc
  go_enter Tryz.func148, Tryz.ntmps148
  go_wp2
  go_loopw [11, 19] (fun u x wr => ∃ t : Nat, t <= k /\ x = .int .i64 t /\ (∃ a2 c2, u = .slice a2 t c2) /\ Hid (wr.ownsRow w.heap.size 74 1 u t (rowsOf t (fun s => A (R s)) (fun _ => m) (fun s => C (R s)))) /\ Hid (Below w.heap.size w wr)) (fun _ x _ => k - (intOf x).toNat)
  case atStart => exact ⟨0, Nat.zero_le _, rfl, ⟨none, 0, rfl⟩, World.ownsRow_nil _ _ _ _, Below.refl _ _⟩
  case round =>
    obtain ⟨t, htk, rfl, ⟨a2, c2, rfl⟩, hpick, hkeep⟩ := hrel
    by_cases hlt : t < k
    · have hws := hkeep.out.size
      obtain ⟨q, hq⟩ : ∃ q, q = R t := ⟨_, rfl⟩
      have hqn : q < k + r := by rw [hq]; exact HSEL.out.lt t (by omega)
      have hLq : L q = m := by
        rcases HLL.out q hqn with e | e
        · exact absurd e (by rw [hq]; exact HSEL.out.there t (by omega))
        · exact e
      have d1 : wr.cell? ⟨bc, oc + t, none⟩ = some (.int .i64 (q : Int)) := by rw [hq]; exact held (HCC.out t hlt) hkeep.out
      have dq : wr.cell? ⟨bl, ol + q, none⟩ = some (.slice (A q) m (C q)) := by have := held (HCL.out q hqn) hkeep.out; rwa [hLq] at this
      have HQ : Hid (q = R t) := hq
      obtain ⟨YS, hYS⟩ : ∃ Y, Y = rowsOf t (fun s => A (R s)) (fun _ => m) (fun s => C (R s)) := ⟨_, rfl⟩
      have HYS : Hid (rowsOf t (fun s => A (R s)) (fun _ => m) (fun s => C (R s)) = YS) := hYS.symm
      have HOU : Hid (wr.ownsRow w.heap.size 74 1 (.slice a2 t c2) t YS) := (by rw [hYS]; exact hpick.out)
      have i1 : (0 : Int) <= (t : Int) := by omega
      have i2 : (t : Int) < (k : Int) := by omega
      have i3 : (0 : Int) <= (q : Int) := by omega
      have i4 : (q : Int) < (k : Int) + (r : Int) := by omega
      clear hpick hYS hq hLq
      go_wp2_with (at_builtin; refine wpList_append_lies _ (by rfl) (.tmp 23) (.tmp 28) 24 (by rfl) w.heap.size 74 j0 (.slice none 0 0) 1 24 Tryz.underlying24 hj hj0 hj1 hj2 (by rfl) (by decide) (.slice a2 t c2) t YS (by rfl) (HOU.out.alloc _) ⟨wr.heap.size, 0, none⟩ 1 1 [.slice (A q) m (C q)] (by rfl) (by rfl) (World.news_of_block (heap_alloc_new wr _)) (by simp [Value.oneCell']) (by decide) (by unfold maxLen; omega) (by omega) (by simp; omega) (wr.heap.size + 1) (by simp) ?_; intro g3 cap3 w3 hown3 hgrow3 _ _)
      have HP3 : Hid (w3.ownsRow w.heap.size 74 1 (.slice (some ⟨g3, 0, none⟩) (t + 1) cap3) (t + 1) (rowsOf (t + 1) (fun s => A (R s)) (fun _ => m) (fun s => C (R s)))) := by
        show w3.ownsRow _ _ _ _ _ _
        have h3 := hown3
        rw [<- HYS.out, HQ.out] at h3
        refine (congrArg (w3.ownsRow w.heap.size 74 1 (.slice (some ⟨g3, 0, none⟩) (t + 1) cap3) (t + 1)) ?_).mp h3
        simp [rowsOf, List.range_succ]
      have HE3 : Hid (Below w.heap.size w w3) := (hkeep.out.alloc hws _).grown hgrow3 (by simp; omega) (fun q hq => (HOU.out.lt q hq).1)
      clear hown3 hgrow3
      go_roundw
      case rel => exact ⟨t + 1, by omega, by go_num, ⟨_, _, rfl⟩, HP3, HE3⟩
      case measure => simp [intOf]; omega
    · obtain rfl : t = k := by omega
      have S0 : Hid (Stay w wr) := Stay.of_below hkeep.out
      have HKr : Hid (Kept wr b B t r n 0 0) := HK.out.below hkeep.out
      have HF : Hid (Lst wr a2 t (fun s => A (R s)) (fun s => C (R s)) (fun _ => m) (fun s => H (R s))) := pickC_lst hpick.out fun s hs => by
        have hqn := HSEL.out.lt s (by omega)
        have := (HL.out.rd (R s) hqn).stay S0.out
        rcases HLL.out (R s) hqn with e | e
        · exact absurd e (HSEL.out.there s (by omega))
        · rwa [e] at this
      have hwr := hkeep.out.size
      have HKW : Hid (Below w.heap.size w wr) := hkeep.out
      have HBK := back_any wr b B t r n c cc (some ⟨bc, oc, none⟩) L R hk1 hk hr hn (by omega) HKr.out HSEL.out hc (fun hp => ⟨bc, oc, rfl, fun i hi => held (HCC.out i hi) hkeep.out⟩)
      have HBB : Hid (Calls Tryz.prog 160 #[.map (some b), .int .i64 (t : Int), .int .i64 (r : Int), .slice (some ⟨bc, oc, none⟩) t cc] wr fun e w' => Kept w' b B t r (n + 12 * t) 0 0 /\ Keeps b (b + 1) wr w' /\ ((R (t - 1) < t /\ e = .returned (.slice none 0 0)) \/ ∃ lb cb Gb Ub, e = .returned (.slice (some ⟨lb, 0, none⟩) t cb) /\ ∃ B0, Mat w' B0 w'.heap.size lb cb t t Gb Ub (invOf t (rowsR t R)))) := HBK
      obtain ⟨wm, rfl⟩ : ∃ x, x = wr := ⟨wr, rfl⟩
      clear hpick hkeep HBK
      go_wp2_with fail
      refine HBB.out.mono ?_
      rintro e wi ⟨hki, hei, hc2⟩
      have HSM : Hid (Stay wm wi) := HKr.out.stay hei
      have HFI : Hid (Lst wi a2 t (fun s => A (R s)) (fun s => C (R s)) (fun _ => m) (fun s => H (R s))) := HF.out.stay HSM.out
      have HKI : Hid (Kept wi b B t r (n + 12 * t) 0 0) := hki
      have HEI : Hid (Keeps b (b + 1) w wi) := (Keeps.of_below HKW.out).trans hei
      have HSI : Hid (Stay w wi) := HK.out.stay HEI.out
      have hwi : w.heap.size <= wi.heap.size := HEI.out.size
      obtain ⟨vb, rfl, HMV⟩ : ∃ vb, e = .returned vb /\ Hid ((R (t - 1) < t /\ vb = .slice none 0 0) \/ ∃ lb cb Gb Ub, vb = .slice (some ⟨lb, 0, none⟩) t cb /\ ∃ B0, Mat wi B0 wi.heap.size lb cb t t Gb Ub (invOf t (rowsR t R))) := by
        rcases hc2 with ⟨h1, rfl⟩ | ⟨lb, cb, Gb, Ub, rfl, B0, hm0⟩
        · exact ⟨_, rfl, .inl ⟨h1, rfl⟩⟩
        · exact ⟨_, rfl, .inr ⟨lb, cb, Gb, Ub, rfl, B0, hm0⟩⟩
      clear hki hei hc2 S0 HF HBB HKr HKW
      go_wp2_with fail
      go_loopw [12, 37] (fun v x wr => ∃ i : Nat, i <= t /\ x = .int .i64 i /\ (∃ ao cap, v = .slice ao i cap) /\ Hid (∃ T U, Copied wr wi.heap.size i v T (fun _ => m) U (dec t R H)) /\ Hid (Below wi.heap.size wi wr)) (fun _ x _ => t - (intOf x).toNat)
      case atStart => exact ⟨0, Nat.zero_le _, rfl, ⟨none, 0, rfl⟩, ⟨fun _ => none, fun _ => 0, Copied.start _ _ _ _ _ _⟩, Below.refl _ _⟩
      case round =>
        obtain ⟨i, hit, rfl, ⟨ao, cap, rfl⟩, hcop, hbel⟩ := hrel
        by_cases hlt : i < t
        · obtain ⟨T, U', hcp⟩ := hcop.out
          have HCP : Hid (Copied wr wi.heap.size i (.slice ao i cap) T (fun _ => m) U' (dec t R H)) := hcp
          have hbw := hbel.out.size
          obtain ⟨XS, hXS⟩ : ∃ X, X = rowsOf i T (fun _ => m) U' := ⟨_, rfl⟩
          have HXS : Hid (rowsOf i T (fun _ => m) U' = XS) := hXS.symm
          have HST : Hid (Stay w wr) := HSI.out.trans (Stay.of_below hbel.out)
          have d1 := HST.out.cell (HCL.out i (by omega))
          have i1 : (0 : Int) <= (i : Int) := by omega
          have i2 : (i : Int) < (t : Int) + (r : Int) := by omega
          have i3 : (i : Int) < (t : Int) := by omega
          clear hcop hcp hXS
          rcases HLL.out i (by omega) with hz | hz
          · obtain ⟨lb, cb, Gb, Ub, rfl, B0, hm0⟩ : ∃ lb cb Gb Ub, vb = .slice (some ⟨lb, 0, none⟩) t cb /\ ∃ B0, Mat wi B0 wi.heap.size lb cb t t Gb Ub (invOf t (rowsR t R)) := by
              rcases HMV.out with ⟨h1, _⟩ | h1
              · exact absurd hz (HSEL.out.low hc h1 hlt)
              · exact h1
            have HMB : Hid (Mat wi B0 wi.heap.size lb cb t t Gb Ub (invOf t (rowsR t R))) := hm0
            clear hm0
            rw [hz] at d1
            have d2 := held (HMB.out.cell_l hlt) hbel.out
            have HS := sum_any wr (some ⟨Gb i, 0, none⟩) a2 t (Ub i) c2 m (invOf t (rowsR t R) i) _ _ _ _ hk1 (by omega) hm1 hm ((HMB.out.row i hlt).below hbel.out).rd (HFI.out.below hbel.out) (fun _ _ => rfl)
            have HSS : Hid (Calls Tryz.prog 162 #[.slice (some ⟨Gb i, 0, none⟩) t (Ub i), .slice a2 t c2] wr fun e w' => ∃ g, e = .returned (.slice (some ⟨g, 0, none⟩) m m) /\ wr.heap.size <= g /\ Own w' g m m (dec t R H i) /\ Below wr.heap.size wr w') := HS
            clear hz HS
            go_wp2_with (first
              | (go_at_call 162; refine HSS.out.mono ?_; rintro e w2 ⟨g2, rfl, hg2, ho2, hb2⟩
                 have HO2 : Hid (Own w2 g2 m m (dec t R H i)) := ho2
                 have HB2 : Hid (Below wr.heap.size wr w2) := hb2
                 have HC2 : Hid (Copied w2 wi.heap.size i (.slice ao i cap) T (fun _ => m) U' (dec t R H)) := HCP.out.stay (Stay.of_below hb2)
                 have HOV : Hid (w2.ownsRow wi.heap.size 74 1 (.slice ao i cap) i XS) := (by rw [<- HXS.out]; exact HC2.out.out)
                 have hs2 : wi.heap.size <= w2.heap.size := Nat.le_trans hbw hb2.size
                 clear ho2 hb2 HSS)
              | (at_builtin; refine wpList_append_lies _ (by rfl) (.tmp 54) (.tmp 61) 24 (by rfl) wi.heap.size 74 j0 (.slice none 0 0) 1 24 Tryz.underlying24 hj hj0 hj1 hj2 (by rfl) (by decide) (.slice ao i cap) i XS (by rfl) (HOV.out.alloc _) ⟨w2.heap.size, 0, none⟩ 1 1 [.slice (some ⟨g2, 0, none⟩) m m] (by rfl) (by rfl) (World.news_of_block (heap_alloc_new w2 _)) (by simp [Value.oneCell']) (by decide) (by unfold maxLen; omega) (by omega) (by simp; omega) (w2.heap.size + 1) (by simp) ?_; intro g3 cap3 w3 hown3 hgrow3 _ _))
            have HC3 : Hid (∃ T U, Copied w3 wi.heap.size (i + 1) (.slice (some ⟨g3, 0, none⟩) (i + 1) cap3) T (fun _ => m) U (dec t R H)) := by
              have hp := HC2.out.push (owns_base (own_owns HO2.out) (by omega)) (fun x a b hx ea eb => by
                have := HCP.out.old hx ea
                cases eb
                show a.block ≠ g2
                omega) hgrow3 (by rw [HXS.out]; exact hown3)
              exact ⟨_, _, hp.congr (fun _ _ => rfl) (fun x _ => put_self i x (fun _ => m)) (fun _ _ => rfl) (fun x _ => put_self i x (dec t R H))⟩
            have HB3 : Hid (Below wi.heap.size wi w3) := ((below_step hbel.out HB2.out hbw).alloc hs2 _).grown hgrow3 (by simp; omega) (fun q hq => (HOV.out.lt q hq).1)
            clear hown3 hgrow3
            go_roundw
            case rel => exact ⟨i + 1, by omega, by go_num, ⟨_, _, rfl⟩, HC3, HB3⟩
            case measure => simp [intOf]; omega
          · rw [hz] at d1
            have hmp : (0 : Int) < (m : Int) := by omega
            have HCN := clone_any wr (A i) m (C i) (H i) hm1 hm (by have := (HL.out.rd i (by omega)).stay HST.out; rwa [hz] at this)
            have HD : Hid (H i = dec t R H i) := by
              show _ = _
              obtain ⟨s, hs, hsi⟩ := HSEL.out.all i (by omega) (by omega)
              have hst := HSEL.out.ge s hs
              funext y
              rw [<- hsi]
              exact (dec_there H hk (show t + r <= 16 by omega) (fun s hs => HSEL.out.lt s (by omega)) (fun s s' h1 h2 => HSEL.out.rise s s' h1 (by omega)) s y (by omega) (by omega)).symm
            have HCC' : Hid (Calls Tryz.prog 161 #[.slice (A i) m (C i)] wr fun e w' => ∃ g u, e = .returned (.slice (some ⟨g, 0, none⟩) m u) /\ wr.heap.size <= g /\ Own w' g m u (H i) /\ Below wr.heap.size wr w') := HCN
            clear hz HCN
            go_wp2_with (first
              | (go_at_call 161; refine HCC'.out.mono ?_; rintro e w2 ⟨g2, u2, rfl, hg2, ho2, hb2⟩
                 have HO2 : Hid (Own w2 g2 m u2 (dec t R H i)) := (by rw [<- HD.out]; exact ho2)
                 have HB2 : Hid (Below wr.heap.size wr w2) := hb2
                 have HC2 : Hid (Copied w2 wi.heap.size i (.slice ao i cap) T (fun _ => m) U' (dec t R H)) := HCP.out.stay (Stay.of_below hb2)
                 have HOV : Hid (w2.ownsRow wi.heap.size 74 1 (.slice ao i cap) i XS) := (by rw [<- HXS.out]; exact HC2.out.out)
                 have hs2 : wi.heap.size <= w2.heap.size := Nat.le_trans hbw hb2.size
                 clear ho2 hb2 HCC')
              | (at_builtin; refine wpList_append_lies _ (by rfl) (.tmp 46) (.tmp 52) 24 (by rfl) wi.heap.size 74 j0 (.slice none 0 0) 1 24 Tryz.underlying24 hj hj0 hj1 hj2 (by rfl) (by decide) (.slice ao i cap) i XS (by rfl) (HOV.out.alloc _) ⟨w2.heap.size, 0, none⟩ 1 1 [.slice (some ⟨g2, 0, none⟩) m u2] (by rfl) (by rfl) (World.news_of_block (heap_alloc_new w2 _)) (by simp [Value.oneCell']) (by decide) (by unfold maxLen; omega) (by omega) (by simp; omega) (w2.heap.size + 1) (by simp) ?_; intro g3 cap3 w3 hown3 hgrow3 _ _))
            have HC3 : Hid (∃ T U, Copied w3 wi.heap.size (i + 1) (.slice (some ⟨g3, 0, none⟩) (i + 1) cap3) T (fun _ => m) U (dec t R H)) := by
              have hp := HC2.out.push (owns_base (own_owns HO2.out) (by omega)) (fun x a b hx ea eb => by
                have := HCP.out.old hx ea
                cases eb
                show a.block ≠ g2
                omega) hgrow3 (by rw [HXS.out]; exact hown3)
              exact ⟨_, _, hp.congr (fun _ _ => rfl) (fun x _ => put_self i x (fun _ => m)) (fun _ _ => rfl) (fun x _ => put_self i x (dec t R H))⟩
            have HB3 : Hid (Below wi.heap.size wi w3) := ((below_step hbel.out HB2.out hbw).alloc hs2 _).grown hgrow3 (by simp; omega) (fun q hq => (HOV.out.lt q hq).1)
            clear hown3 hgrow3
            go_roundw
            case rel => exact ⟨i + 1, by omega, by go_num, ⟨_, _, rfl⟩, HC3, HB3⟩
            case measure => simp [intOf]; omega
        · obtain rfl : i = t := by omega
          obtain ⟨T, U', hcp⟩ := hcop.out
          have HQ : Hid (Copied wr w.heap.size i (.slice ao i cap) T (fun _ => m) U' (dec i R H)) := hcp.base hwi
          clear hcop hcp
          go_wp2_with fail
          go_ret
          exact ⟨ao, cap, T, U', rfl, HQ.out, HKI.out.below hbel.out, HEI.out.trans (Keeps.of_below hbel.out)⟩
end Go.Proofs.YtngcdlodcdgcaaaGreat.Cod
namespace Go.Proofs.YtngcdlodcdgcaaaGreat.Cod
open Go.RowKit
theorem Kept.made (w : World) (k r : Nat) : Kept (w.alloc (.map #[] 0)) w.heap.size w.heap.size k r 0 0 0 :=
  ⟨.map [], World.ownsMap_made w Tryz.prog 249 elem, (fun c _ h => by cases h), fun c _ h => absurd h (Nat.not_lt_zero c)⟩
theorem below_map {w w' : World} (h : Keeps w.heap.size (w.heap.size + 1) (w.alloc (.map #[] 0)) w') : Below w.heap.size w w' :=
  ((Below.refl _ _).alloc (Nat.le_refl _) _).trans (h.below (by simp) (Nat.le_refl _))
def Out (w : World) (ok : Bool) (err : Int) (n m : Nat) (H : M) (e : Ending) (w' : World) : Prop :=
  ∃ ao cap T U, e = .returned (.tuple #[.slice ao (lenB ok n) cap, .int .i64 err]) /\ Copied w' w.heap.size (lenB ok n) (.slice ao (lenB ok n) cap) T (fun _ => m) U H /\ Below w.heap.size w w'
theorem Out.no {w w' : World} {err : Int} {n m : Nat} {H : M} (hb : Below w.heap.size w w') : Out w false err n m H (.returned (.tuple #[.slice none 0 0, .int .i64 err])) w' :=
  ⟨none, 0, fun _ => none, fun _ => 0, rfl, Copied.start _ _ _ _ _ _, hb⟩
theorem okC_true {ll : Nat} {L : Nat -> Nat} {many : Int} (h : okC ll L many = true) : (ll : Int) = many /\ okT L ll = true := by
  unfold okC at h
  rw [Bool.and_eq_true, decide_eq_true_eq] at h
  exact h
theorem alike_of {ll : Nat} {L : Nat -> Nat} (h : okT L ll = true) (hc : 1 <= cnt L ll) : 1 <= len0 L ll /\ len0 L ll <= 65536 /\ ∀ i, i < ll -> L i = 0 \/ L i = len0 L ll := by
  rcases len0_sel L ll with ⟨h1, _⟩ | ⟨h1, h2, h3⟩
  · omega
  · have hs := (sel_is L ll).lt 0 h1
    refine ⟨by omega, ?_, fun i hi => ?_⟩
    · rcases okT_all h _ hs with g | g
      · exact absurd g ((sel_is L ll).there 0 h1)
      · rw [h2]; exact g.1
    · rcases okT_all h i hi with g | g
      · exact .inl g
      · exact .inr g.2
end Go.Proofs.YtngcdlodcdgcaaaGreat.Cod
namespace Go.Proofs.YtngcdlodcdgcaaaGreat.Cod
open Go.RowKit
theorem rowsOf_join (k r : Nat) (T T' : Nat -> Option Addr) (L L' U U' : Nat -> Nat) : rowsOf (k + r) (join k T T') (join k L L') (join k U U') = rowsOf k T L U ++ rowsOf r T' L' U' := by
  apply List.ext_getElem?
  intro i
  by_cases e : i < k
  · rw [List.getElem?_append_left (by rw [rowsOf_length]; exact e), rowsOf_get _ _ _ _ _ e, rowsOf_get _ _ _ _ _ (by omega)]
    unfold join
    rw [if_pos e, if_pos e, if_pos e]
  · rw [List.getElem?_append_right (by rw [rowsOf_length]; omega), rowsOf_length]
    by_cases e2 : i - k < r
    · rw [rowsOf_get _ _ _ _ _ e2, rowsOf_get _ _ _ _ _ (by omega)]
      unfold join
      rw [if_neg e, if_neg e, if_neg e]
    · rw [List.getElem?_eq_none (by rw [rowsOf_length]; omega), List.getElem?_eq_none (by rw [rowsOf_length]; omega)]
theorem Copied.join {w w' : World} {B k r : Nat} {v u v' : Value} {T T' : Nat -> Option Addr} {L L' U U' : Nat -> Nat} {H H' : M} (h : Copied w B k v T L U H) (h' : Copied w B r u T' L' U' H') (hap : ∀ i j a b, i < k -> j < r -> T i = some a -> T' j = some b -> a.block ≠ b.block)
    (hg : w.grownBy w' v.ownBlock) (ho : w'.ownsRow B 74 1 v' (k + r) (rowsOf k T L U ++ rowsOf r T' L' U')) : Copied w' B (k + r) v' (join k T T') (join k L L') (join k U U') (join k H H') := by
  refine ⟨by rw [rowsOf_join]; exact ho, fun i hi => ?_, fun i j a b hi hj hne ea eb => ?_⟩
  · unfold YtngcdlodcdgcaaaGreat.Cod.join
    by_cases e : i < k
    · rw [if_pos e, if_pos e, if_pos e, if_pos e]
      exact (h.row i e).kept hg (owns_apart' (h.row i e) h.out)
    · rw [if_neg e, if_neg e, if_neg e, if_neg e]
      have := h'.row (i - k) (by omega)
      exact this.kept hg (owns_apart' this h.out)
  · unfold YtngcdlodcdgcaaaGreat.Cod.join at ea eb
    by_cases e : i < k
    · rw [if_pos e] at ea
      by_cases e' : j < k
      · rw [if_pos e'] at eb
        exact h.apart i j a b e e' hne ea eb
      · rw [if_neg e'] at eb
        exact hap i (j - k) a b e (by omega) ea eb
    · rw [if_neg e] at ea
      by_cases e' : j < k
      · rw [if_pos e'] at eb
        exact (hap j (i - k) b a e' (by omega) eb ea).symm
      · rw [if_neg e'] at eb
        exact h'.apart (i - k) (j - k) a b (by omega) (by omega) (by omega) ea eb
theorem join_enc (k : Nat) (D : M) (i : Nat) : YtngcdlodcdgcaaaGreat.Cod.join k D (par k D) i = enc k D i := by
  unfold YtngcdlodcdgcaaaGreat.Cod.join par
  by_cases e : i < k
  · rw [if_pos e]; funext b; exact (enc_data D e).symm
  · rw [if_neg e, show k + (i - k) = i by omega]
theorem join_const (k m i : Nat) : YtngcdlodcdgcaaaGreat.Cod.join k (fun _ => m) (fun _ => m) i = m := by unfold YtngcdlodcdgcaaaGreat.Cod.join; split <;> rfl
theorem grown_refl (w : World) (row : Option Nat) : w.grownBy w row := ⟨rfl, rfl, rfl, Nat.le_refl _, fun _ _ _ => rfl⟩
theorem wpList_append_join {w : World} {ops : Array Oper} {rest : List Oper} {o : Oper} {a : Act} {Q : Exit -> Act -> World -> Prop} (hgd : o.guard = none) (s x : Operand)
    (ho : o.op = .call { callee := .builtin .append, args := #[s, x], argTypes := #[24, 24] }) (B B' k r ca cb : Nat) (ao bo : Option Addr) (T T' : Nat -> Option Addr) (L L' U U' : Nat -> Nat) (H H' : M)
    (hs : a.eval s = .slice ao k ca) (hx : a.eval x = .slice bo r cb) (h : Copied w B k (.slice ao k ca) T L U H) (h' : Copied w B' r (.slice bo r cb) T' L' U' H') (hk : k <= 1000) (hr : r <= 1000) (hB : B <= w.heap.size) (hBB : B <= B') (hap : ∀ i j a b, i < k -> j < r -> T i = some a -> T' j = some b -> a.block ≠ b.block)
    (cont : ∀ ao' c' w', w.grownBy w' (Value.slice ao k ca).ownBlock -> Copied w' B (k + r) (.slice ao' (k + r) c') (YtngcdlodcdgcaaaGreat.Cod.join k T T') (YtngcdlodcdgcaaaGreat.Cod.join k L L') (YtngcdlodcdgcaaaGreat.Cod.join k U U') (YtngcdlodcdgcaaaGreat.Cod.join k H H') -> wpList Tryz.prog ops Q rest (a.put o.dst (.slice ao' (k + r) c')) w') : wpList Tryz.prog ops Q (o :: rest) a w := by
  obtain ⟨j0, hj, hj0, hj1, hj2⟩ := info_parts info23c
  rcases h'.out.2 with ⟨e, h0⟩ | ⟨g, cap, cur, e, _⟩
  · cases e
    have hc := h.join (h'.base hBB) hap (grown_refl w _) (by rw [show rowsOf 0 T' L' U' = [] from rfl, List.append_nil]; exact h.out)
    exact wpList_append_own_none hgd s x 24 ho B 74 j0 1 Tryz.underlying24 hj (.slice ao k ca) k (rowsOf k T L U) hs h.out hx (cont ao ca w (grown_refl w _) hc)
  · cases e
    refine wpList_append_own w hgd s x 24 ho B 74 j0 (.slice none 0 0) 1 24 Tryz.underlying24 hj hj0 hj1 hj2 rfl (by decide) (.slice ao k ca) k (rowsOf k T L U) hs h.out ⟨g, 0, none⟩ r cb (rowsOf r T' L' U') hx (by rw [rowsOf_length, Nat.mul_one]) (h'.out.cells (g := g) rfl) (rowsOf_one _ _ _ _) (by unfold maxLen; omega) (by omega) hB ?_
    intro v' w' h1 h2 _
    obtain ⟨ao', c', rfl⟩ := owns_form h1
    exact cont ao' c' w' h2 (h.join (h'.base hBB) hap h2 h1)
def okDec (ll : Nat) (L : Nat -> Nat) (k r : Int) : Bool := mayB k r && (okC ll L (k + r) && decide (k <= (cnt L ll : Int)))
def errD (may cells ok : Bool) : Int := if may then (if cells then (if ok then 0 else 5) else 40) else 2
set_option maxHeartbeats 2000000 in
set_option maxRecDepth 100000 in
theorem Decode_any (w : World) (k r : Int) (lo : Option Addr) (ll cl : Nat) (A : Nat -> Option Addr) (C L : Nat -> Nat) (H : M) (hl : Lst w lo ll A C L H) :
    Calls Tryz.prog 133 #[.int .i64 k, .int .i64 r, .slice lo ll cl] w (Out w (okDec ll L k r) (errD (mayB k r) (okC ll L (k + r)) (okDec ll L k r)) (k.toNat + r.toNat) (len0 L ll) (enc k.toNat (dec k.toNat (sel L ll) H))) := by
  have HM := may_any w k r
  cases hmay : mayB k r
  · rw [show okDec ll L k r = false by unfold okDec; rw [hmay]; rfl]
    rw [hmay] at HM
    clear hmay
    go_enter Tryz.func133, Tryz.ntmps133
    go_wp2_with (go_at_call 146; refine HM.mono ?_; rintro e w' ⟨rfl, rfl⟩)
    go_ret2
    exact Out.no (Below.refl _ _)
  · obtain ⟨h1, h2, h3, h4⟩ := mayB_true hmay
    rw [hmay] at HM
    have HT := there_any w lo ll cl A C L H (k + r) (by omega) hl
    cases hoc : okC ll L (k + r)
    · have HOK : Hid (okDec ll L k r = false) := by show _ = _; unfold okDec; rw [hoc, Bool.false_and, Bool.and_false]
      unfold There at HT
      rw [hoc] at HT
      have e1 : errB false 40 = 40 := rfl
      clear hmay hoc hl
      go_enter Tryz.func133, Tryz.ntmps133
      go_wp2_with (first | (go_at_call 146; refine HM.mono ?_; rintro e w' ⟨rfl, rfl⟩) | (go_at_call 147; refine HT.mono ?_; rintro e w1 ⟨ao, cap, rfl, _, _, _, hb⟩))
      go_ret2
      rw [HOK.out]
      exact Out.no hb
    · obtain ⟨hll, hokT⟩ := okC_true hoc
      obtain ⟨k, rfl⟩ := Int.eq_ofNat_of_zero_le (show 0 <= k by omega)
      obtain ⟨r, rfl⟩ := Int.eq_ofNat_of_zero_le h3
      obtain rfl : ll = k + r := by omega
      clear hll
      rw [Int.toNat_natCast, Int.toNat_natCast]
      unfold There at HT
      rw [hoc] at HT
      have e1 : errB true 40 = 0 := rfl
      have e2 : lenB true (cnt L (k + r)) = cnt L (k + r) := rfl
      obtain ⟨cn, hcn⟩ : ∃ cn, cn = cnt L (k + r) := ⟨_, rfl⟩
      rw [<- hcn] at HT e2
      by_cases hck : cn < k
      · have HOK : Hid (okDec (k + r) L k r = false) := by show _ = _; unfold okDec; rw [show decide ((k : Int) <= (cnt L (k + r) : Int)) = false from decide_eq_false (by omega), Bool.and_false, Bool.and_false]
        have hci : (cn : Int) < (k : Int) := by omega
        clear hmay hoc hl hokT hcn
        go_enter Tryz.func133, Tryz.ntmps133
        go_wp2_with (first | (go_at_call 146; refine HM.mono ?_; rintro e w' ⟨rfl, rfl⟩) | (go_at_call 147; refine HT.mono ?_; rintro e w1 ⟨ao, cap, rfl, _, _, _, hb⟩))
        go_ret2
        rw [HOK.out]
        exact Out.no hb
      · have HOK : Hid (okDec (k + r) L k r = true) := by show _ = _; unfold okDec; rw [hmay, hoc, show decide ((k : Int) <= (cnt L (k + r) : Int)) = true from decide_eq_true (by omega)]; rfl
        obtain ⟨m1, m2, m3⟩ := alike_of hokT (by omega)
        obtain ⟨m, hm⟩ : ∃ m, m = len0 L (k + r) := ⟨_, rfl⟩
        rw [<- hm] at m1 m2 m3 ⊢
        have HLm : Hid (∀ i, i < k + r -> L i = 0 \/ L i = m) := m3
        have HSEL : Hid (Sel L (k + r) cn (sel L (k + r))) := by rw [hcn]; exact sel_is L (k + r)
        obtain ⟨R, hR⟩ : ∃ R, R = sel L (k + r) := ⟨_, rfl⟩
        rw [<- hR] at HSEL HT ⊢
        have hmm := @run_makeMap Tryz.prog
        obtain ⟨j0, hj, hj0, hj1, hj2⟩ := info_parts info23c
        have HL : Hid (Lst w lo (k + r) A C L H) := hl
        clear hmay hoc hl hokT m3 hcn hm hR
        go_enter Tryz.func133, Tryz.ntmps133
        go_wp2_with (first
          | (go_at_call 146; refine HM.mono ?_; rintro e w' ⟨rfl, rfl⟩)
          | (go_at_call 147; refine HT.mono ?_; rintro e w1 ⟨ao, cap, rfl, hri, hcap, hcm, hb⟩
             obtain ⟨bn, on, rfl, hcc⟩ := hri (by rw [e2]; omega)
             have hk3 : (k : Int) <= (cap : Int) := (by rw [e2] at hcap; omega)
             have b1 : Below w1.heap.size w1 (w1.alloc (.map #[] 0)) := (Below.refl _ _).alloc (Nat.le_refl _) _
             have HLA : Hid (Lst (w1.alloc (.map #[] 0)) lo (k + r) A C L H) := (HL.out.below hb).below b1
             have HD := data_any (w1.alloc (.map #[] 0)) w1.heap.size w1.heap.size k r 0 m cn cap lo (some ⟨bn, on, none⟩) cl A C L H R (by omega) (by omega) (by omega) m1 m2 (by omega) (by simp) (Kept.made w1 k r) HLA.out HLm.out HSEL.out (by omega) (fun _ => ⟨bn, on, rfl, fun i hi => held (hcc i (by rw [e2]; omega)) b1⟩)
             clear hri hcc)
          | (go_at_call 148; refine HD.mono ?_; rintro e w2 ⟨ao2, cap2, T, U, rfl, hcop, hkept, hke⟩
             have HC2 : Hid (Copied w2 (w1.alloc (.map #[] 0)).heap.size k (.slice ao2 k cap2) T (fun _ => m) U (dec k R H)) := hcop
             have HKE : Hid (Keeps w1.heap.size (w1.heap.size + 1) (w1.alloc (.map #[] 0)) w2) := hke
             have HP := parity_any w2 w1.heap.size w1.heap.size k r (0 + 12 * k) m ao2 cap2 T U (fun _ => m) (dec k R H) (by omega) (by omega) (by omega) m1 m2 (by omega) (by have := hke.size; simp at this; omega) hkept hcop.lst (fun _ _ => rfl)
             have HKP : Hid (Kept w2 w1.heap.size w1.heap.size k r (0 + 12 * k) 0 0) := hkept
             clear hcop hkept hke)
          | (go_at_call 149; refine HP.mono ?_; rintro e w3 ⟨ao3, cap3, T3, U3, rfl, hcop3, _, hke3⟩
             have HC3 : Hid (Copied w3 w2.heap.size r (.slice ao3 r cap3) T3 (fun _ => m) U3 (par k (dec k R H))) := hcop3
             have HKE3 : Hid (Keeps w1.heap.size (w1.heap.size + 1) w2 w3) := hke3
             have HC2' : Hid (Copied w3 (w1.alloc (.map #[] 0)).heap.size k (.slice ao2 k cap2) T (fun _ => m) U (dec k R H)) := HC2.out.stay (HKP.out.stay hke3)
             have HAP : Hid (∀ i j a b, i < k -> j < r -> T i = some a -> T3 j = some b -> a.block ≠ b.block) := (fun i j a b hi hj ea eb => by
               have q1 := HC2.out.old hi ea
               have q2 := ((hcop3.row j hj).lt b.block (by rw [eb]; rfl)).1
               omega)
             clear hcop3 hke3)
          | (at_builtin; refine wpList_append_join (by rfl) (.tmp 40) (.tmp 45) (by rfl) (w1.alloc (.map #[] 0)).heap.size w2.heap.size k r cap2 cap3 ao2 ao3 T T3 (fun _ => m) (fun _ => m) U U3 (dec k R H) (par k (dec k R H)) (by rfl) (by rfl) HC2'.out HC3.out (by omega) (by omega) (Nat.le_trans HKE.out.size HKE3.out.size) HKE.out.size HAP.out ?_; intro ao4 cap4 w4 hg4 hc4))
        go_ret2
        rw [HOK.out]
        have hs1 := HKE.out.size
        refine ⟨ao4, cap4, _, _, rfl, (hc4.congr (fun _ _ => rfl) (fun i _ => join_const k m i) (fun _ _ => rfl) (fun i _ => join_enc k (dec k R H) i)).base (by have := hb.size; simp; omega), ?_⟩
        have b3 : Below w1.heap.size w1 w3 := below_map (HKE.out.trans HKE3.out)
        have b4 : Below w1.heap.size w1 w4 := b3.trans (grown_below hg4 b3.size (fun q hq => by have := (HC2'.out.out.lt q hq).1; simp at this; omega))
        exact below_step hb b4 hb.size
end Go.Proofs.YtngcdlodcdgcaaaGreat.Cod
namespace Go.Proofs.YtngcdlodcdgcaaaGreat.Cod
open Go.RowKit
end Go.Proofs.YtngcdlodcdgcaaaGreat.Cod
namespace Go.Proofs.YtngcdlodcdgcaaaGreat.Cod
open Go.RowKit
end Go.Proofs.YtngcdlodcdgcaaaGreat.Cod
namespace Go.Proofs.YtngcdlodcdgcaaaGreat.Cod
open Go.RowKit
theorem owns_lst {w : World} {base ll cap : Nat} {to : Option Addr} {T : Nat -> Option Addr} {L U : Nat -> Nat} {H : M} (h : w.ownsRow base 74 1 (.slice to ll cap) ll (rowsOf ll T L U)) (hr : ∀ i, i < ll -> Rd w (T i) (L i) (H i)) : Lst w to ll T U L H := by
  refine ⟨hr, fun hp => ?_⟩
  rcases h.2 with ⟨_, h1⟩ | ⟨g, cap', cur, h1, _⟩
  · omega
  · cases h1
    refine ⟨g, 0, rfl, fun i hi => ?_⟩
    have := h.cells (g := g) rfl i _ (rowsOf_get ll T L U i hi)
    rwa [Addr.add_lit] at this
theorem okT_of {L : Nat -> Nat} {m n : Nat} (hm : m ≠ 0) (h : m <= 65536) (hL : ∀ i, i < n -> L i = 0 \/ L i = m) : okT L n = true /\ (len0 L n = 0 \/ len0 L n = m) := by
  induction n with
  | zero => exact ⟨rfl, .inl rfl⟩
  | succ n ih =>
    obtain ⟨h1, h2⟩ := ih fun i hi => hL i (by omega)
    have h3 := hL n (by omega)
    have h4 : len0 L (n + 1) = 0 \/ len0 L (n + 1) = m := by
      rw [len0]
      rcases h2 with e | e
      · rw [if_pos e]; exact h3
      · rw [if_neg (by omega)]; exact .inr e
    refine ⟨okT_succ h1 ?_, h4⟩
    rcases h3 with e | e
    · exact .inl e
    · refine .inr ⟨by omega, ?_⟩
      rw [len0]
      rcases h2 with e' | e'
      · rw [if_pos e']
      · rw [if_neg (by omega), e, e']
end Go.Proofs.YtngcdlodcdgcaaaGreat.Cod
