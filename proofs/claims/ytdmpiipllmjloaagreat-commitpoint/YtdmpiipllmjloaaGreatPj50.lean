import Derived.Test.YtdmpiipllmjloaaGreatPj49
namespace Go.Proofs.YtdmpiipllmjloaaGreat
open Go.RowKit
def AnsRd (w : World) (E y A D : Int) (n : Nat) (R V : Nat -> Int) (e : Ending) (w' : World) : Prop :=
  ∃ ao cp, e = .returned (.tuple #[.agg #[.int .i64 (De.lenI E A), .int .i64 (De.lenI E D), .slice ao (lenE E n) cp], .int .i64 (De.lenI E y), .int .i64 E]) /\ De.OwR w.heap.size w' ao (lenE E n) cp R V /\ Below w.heap.size w w'
theorem below_two {B : Nat} {w v : World} {g : Nat} (h : Below B w v) (hg : B <= g) (u0 u1 u2 : Value) : Below B w (((v.setCell ⟨g, 0, none⟩ u0).setCell ⟨g, 1, none⟩ u1).setCell ⟨g, 2, none⟩ u2) := ((h.setCell hg _).setCell hg _).setCell hg _
set_option maxHeartbeats 4000000 in
set_option maxRecDepth 100000 in
theorem cRead_bad {k r c q : Int} (w : World) (ro : Option Addr) (rn rc : Nat) (y eL : Int) (hne : eL ≠ 0) (HA : Hid (∀ u, Below w.heap.size w u -> Calls Tryz.prog 21 #[.agg #[.int .i64 k, .int .i64 r, .int .i64 c, .int .i64 q], .slice ro rn rc, .func (.func 17) #[] #[]] u fun e w' => e = .returned (.tuple #[.int .i64 y, .int .i64 eL]) /\ Below u.heap.size u w')) (A D : Int) (n : Nat) (R V : Nat -> Int) (v : Int) :
    Calls Tryz.prog 7 #[.agg #[.int .i64 k, .int .i64 r, .int .i64 c, .int .i64 q], .slice ro rn rc] w (AnsRd w eL v A D n R V) := by
  have hz : (eL != 0) = true := by simpa using hne
  unfold AnsRd
  rw [lenE_ne n hne, De.lenI_not hne, De.lenI_not hne, De.lenI_not hne]
  clear hne
  obtain ⟨w0, hw0⟩ : ∃ w0, w0 = w.alloc (.cells #[.int .i64 k, .int .i64 r, .int .i64 c, .int .i64 q] 23) := ⟨_, rfl⟩
  obtain ⟨w1, hw1⟩ : ∃ w1, w1 = w0.alloc (.cells #[.int .i64 0, .int .i64 0, .slice none 0 0] 27) := ⟨_, rfl⟩
  have b0 : Below w.heap.size w w0 := by rw [hw0]; exact below_alloc _ _
  have b1 : Below w0.heap.size w0 w1 := by rw [hw1]; exact below_alloc _ _
  have z0 : w0.heap.size = w.heap.size + 1 := by rw [hw0]; simp
  go_enter Tryz.func7, Tryz.ntmps7
  go_wp2_with fail
  rw [<- hw0, <- hw1]
  refine (HA.out _ (below_then b0 b1)).mono ?_
  rintro e wa ⟨rfl, ha⟩
  have t0 := blk_held hw1 ha 0 rfl
  have t1 := blk_held hw1 ha 1 rfl
  have t2 := blk_held hw1 ha 2 rfl
  have f := blk_free hw1 ha
  rw [z0] at t0 t1 t2 f
  clear hw0 hw1
  go_wp2_with fail
  refine bodyPost_ret (v := .tuple #[.agg #[.int .i64 0, .int .i64 0, .slice none 0 0], .int .i64 0, .int .i64 eL]) (by simp [results, Tryz.results7, go_sem, t0, t1, t2]) rfl ⟨none, 0, rfl, De.owr_nil _ _ _ _, ?_⟩
  exact below_two (below_then (below_then b0 b1) ha) (Nat.le_succ _) _ _ _
set_option maxHeartbeats 4000000 in
set_option maxRecDepth 100000 in
theorem cRead_go {k r c q : Int} {W : Nat} (w : World) (ro : Option Addr) (rn rc : Nat) (y e1 e2 : Int) (F : Nat -> UInt8) (A D : Int) (n : Nat) (R V : Nat -> Int)
    (HA : Hid (∀ u, Below w.heap.size w u -> Calls Tryz.prog 21 #[.agg #[.int .i64 k, .int .i64 r, .int .i64 c, .int .i64 q], .slice ro rn rc, .func (.func 17) #[] #[]] u fun e w' => e = .returned (.tuple #[.int .i64 y, .int .i64 0]) /\ Below u.heap.size u w'))
    (HR : Hid (∀ u, Below w.heap.size w u -> Calls Tryz.prog 22 #[.agg #[.int .i64 k, .int .i64 r, .int .i64 c, .int .i64 q], .slice ro rn rc, .int .u8 2, .int .i64 y] u (AnsB u e1 W F)))
    (HP : Hid (e1 = 0 -> ∀ u bo bc, Bec u bo W bc F -> Calls Tryz.prog 23 #[.agg #[.int .i64 k, .int .i64 r, .int .i64 c, .int .i64 q], .slice bo W bc] u (De.AnsD u e2 A D n R V))) (E : Int) (hE : erV2 e1 e2 = E) :
    Calls Tryz.prog 7 #[.agg #[.int .i64 k, .int .i64 r, .int .i64 c, .int .i64 q], .slice ro rn rc] w (AnsRd w E y A D n R V) := by
  unfold erV2 at hE
  unfold AnsRd
  obtain ⟨w0, hw0⟩ : ∃ w0, w0 = w.alloc (.cells #[.int .i64 k, .int .i64 r, .int .i64 c, .int .i64 q] 23) := ⟨_, rfl⟩
  obtain ⟨w1, hw1⟩ : ∃ w1, w1 = w0.alloc (.cells #[.int .i64 0, .int .i64 0, .slice none 0 0] 27) := ⟨_, rfl⟩
  have b0 : Below w.heap.size w w0 := by rw [hw0]; exact below_alloc _ _
  have b1 : Below w0.heap.size w0 w1 := by rw [hw1]; exact below_alloc _ _
  have z0 : w0.heap.size = w.heap.size + 1 := by rw [hw0]; simp
  have HZ1 : Hid (w1.heap.size = w.heap.size + 2) := by show _ = _; rw [hw1]; simp [z0]
  have HQ : Hid (∀ u, Below w1.heap.size w1 u -> (u.cell? ⟨w.heap.size, 0, none⟩ = some (.int .i64 k) /\ u.cell? ⟨w.heap.size, 1, none⟩ = some (.int .i64 r) /\ u.cell? ⟨w.heap.size, 2, none⟩ = some (.int .i64 c) /\ u.cell? ⟨w.heap.size, 3, none⟩ = some (.int .i64 q)) /\ (u.cell? ⟨w.heap.size + 1, 0, none⟩ = some (.int .i64 0) /\ u.cell? ⟨w.heap.size + 1, 1, none⟩ = some (.int .i64 0) /\ u.cell? ⟨w.heap.size + 1, 2, none⟩ = some (.slice none 0 0)) /\ ∀ i, u.frozen? ⟨w.heap.size + 1, i, none⟩ = false) := fun u hu => ⟨par_held hw0 (below_then b1 hu), by rw [<- z0]; exact ⟨⟨blk_held hw1 hu 0 rfl, blk_held hw1 hu 1 rfl, blk_held hw1 hu 2 rfl⟩, blk_free hw1 hu⟩⟩
  have HBB : Hid (Below w.heap.size w w1) := below_then b0 b1
  by_cases h1 : e1 = 0
  · subst h1
    rw [if_pos rfl] at hE
    subst hE
    have HP1 := HP.out rfl
    unfold AnsB at HR
    rw [lenE_zero] at HR
    by_cases h2 : e2 = 0
    · subst h2
      rw [lenE_zero, De.lenI_zero, De.lenI_zero, De.lenI_zero]
      unfold De.AnsD at HP1
      rw [lenE_zero, De.lenI_zero, De.lenI_zero] at HP1
      go_enter Tryz.func7, Tryz.ntmps7
      go_wp2_with fail
      rw [<- hw0, <- hw1]
      clear hw0 hw1 z0 b0 b1
      refine (HA.out _ HBB.out).mono ?_
      rintro e wa ⟨rfl, ha⟩
      obtain ⟨⟨s0, s1, s2, s3⟩, _⟩ := HQ.out wa ha
      go_wp2_with fail
      refine (HR.out _ (below_then HBB.out ha)).mono ?_
      rintro e wb ⟨bo, bc, rfl, hob, hb⟩
      have hab := below_then ha hb
      clear s0 s1 s2 s3
      obtain ⟨⟨s0, s1, s2, s3⟩, _⟩ := HQ.out wb hab
      have hbec := hob.bec
      clear hob ha hb
      go_wp2_with fail
      refine (HP1 _ bo bc hbec).mono ?_
      rintro e wc ⟨ao, cp, rfl, how, hc⟩
      have HAC : Hid (Below w1.heap.size w1 wc) := below_then hab hc
      have HOW : Hid (De.OwR wb.heap.size wc ao n cp R V) := how
      have HZB : Hid (w.heap.size + 2 <= wb.heap.size) := by show _ <= _; rw [<- HZ1.out]; exact hab.size
      have t0 := fun o => (HQ.out (wc.alloc o) (below_then HAC.out (below_alloc _ o))).2.1.1
      have t1 := fun o => (HQ.out (wc.alloc o) (below_then HAC.out (below_alloc _ o))).2.1.2.1
      have t2 := fun o => (HQ.out (wc.alloc o) (below_then HAC.out (below_alloc _ o))).2.1.2.2
      have f := fun o i => (HQ.out (wc.alloc o) (below_then HAC.out (below_alloc _ o))).2.2 i
      clear s0 s1 s2 s3 hab hc how hbec HP1 HP HR HA
      go_wp2_with fail
      refine bodyPost_ret (v := .tuple #[.agg #[.int .i64 A, .int .i64 D, .slice ao n cp], .int .i64 y, .int .i64 0]) (by simp [results, Tryz.results7, go_sem, t0, t1, t2]) rfl ⟨ao, cp, rfl, ?_, ?_⟩
      · have h5 := HZB.out
        refine De.OwR.mono (B := wb.heap.size) ((HOW.out.below (below_alloc _ (.cells #[.int .i64 A, .int .i64 D, .slice ao n cp] 27))).stay fun t ht ht2 => ?_) (by omega)
        have hne : t ≠ w.heap.size + 1 := by omega
        rw [heap_setCell_other _ _ _ _ hne, heap_setCell_other _ _ _ _ hne, heap_setCell_other _ _ _ _ hne]
      · exact below_two (below_then (below_then HBB.out HAC.out) (below_alloc _ _)) (Nat.le_succ _) _ _ _
    · have hz : (e2 != 0) = true := by simpa using h2
      rw [lenE_ne n h2, De.lenI_not h2, De.lenI_not h2, De.lenI_not h2]
      unfold De.AnsD at HP1
      rw [lenE_ne n h2, De.lenI_not h2, De.lenI_not h2] at HP1
      clear h2
      go_enter Tryz.func7, Tryz.ntmps7
      go_wp2_with fail
      rw [<- hw0, <- hw1]
      clear hw0 hw1 z0 b0 b1
      refine (HA.out _ HBB.out).mono ?_
      rintro e wa ⟨rfl, ha⟩
      obtain ⟨⟨s0, s1, s2, s3⟩, _⟩ := HQ.out wa ha
      go_wp2_with fail
      refine (HR.out _ (below_then HBB.out ha)).mono ?_
      rintro e wb ⟨bo, bc, rfl, hob, hb⟩
      have hab := below_then ha hb
      clear s0 s1 s2 s3
      obtain ⟨⟨s0, s1, s2, s3⟩, _⟩ := HQ.out wb hab
      have hbec := hob.bec
      clear hob ha hb
      go_wp2_with fail
      refine (HP1 _ bo bc hbec).mono ?_
      rintro e wc ⟨ao, cp, rfl, _, hc⟩
      have HAC : Hid (Below w1.heap.size w1 wc) := below_then hab hc
      have t0 := fun o => (HQ.out (wc.alloc o) (below_then HAC.out (below_alloc _ o))).2.1.1
      have t1 := fun o => (HQ.out (wc.alloc o) (below_then HAC.out (below_alloc _ o))).2.1.2.1
      have t2 := fun o => (HQ.out (wc.alloc o) (below_then HAC.out (below_alloc _ o))).2.1.2.2
      have f := fun o i => (HQ.out (wc.alloc o) (below_then HAC.out (below_alloc _ o))).2.2 i
      clear s0 s1 s2 s3 hab hc hbec HP1 HP HR HA
      go_wp2_with fail
      refine bodyPost_ret (v := .tuple #[.agg #[.int .i64 0, .int .i64 0, .slice none 0 0], .int .i64 0, .int .i64 e2]) (by simp [results, Tryz.results7, go_sem, t0, t1, t2]) rfl ⟨none, 0, rfl, De.owr_nil _ _ _ _, ?_⟩
      exact below_two (below_then (below_then HBB.out HAC.out) (below_alloc _ _)) (Nat.le_succ _) _ _ _
  · have hz : (e1 != 0) = true := by simpa using h1
    rw [if_neg h1] at hE
    subst hE
    rw [lenE_ne n h1, De.lenI_not h1, De.lenI_not h1, De.lenI_not h1]
    go_enter Tryz.func7, Tryz.ntmps7
    go_wp2_with fail
    rw [<- hw0, <- hw1]
    clear hw0 hw1 z0 b0 b1 h1
    refine (HA.out _ HBB.out).mono ?_
    rintro e wa ⟨rfl, ha⟩
    obtain ⟨⟨s0, s1, s2, s3⟩, _⟩ := HQ.out wa ha
    go_wp2_with fail
    refine (HR.out _ (below_then HBB.out ha)).mono ?_
    rintro e wb ⟨bo, bc, rfl, _, hb⟩
    have HAC : Hid (Below w1.heap.size w1 wb) := below_then ha hb
    obtain ⟨_, ⟨t0, t1, t2⟩, f⟩ := HQ.out wb HAC.out
    clear s0 s1 s2 s3 ha hb HP HR HA
    go_wp2_with fail
    refine bodyPost_ret (v := .tuple #[.agg #[.int .i64 0, .int .i64 0, .slice none 0 0], .int .i64 0, .int .i64 e1]) (by simp [results, Tryz.results7, go_sem, t0, t1, t2]) rfl ⟨none, 0, rfl, De.owr_nil _ _ _ _, ?_⟩
    exact below_two (below_then HBB.out HAC.out) (Nat.le_succ _) _ _ _
def wnV (k : Int) (N : Nat) (c : Int) (L : Nat -> Nat) (F : Nat -> Nat -> UInt8) : Int := (Cn.wins k (Cn.hP N c L F) (Cn.hQ N c L F) N).getD 0 0
def wnB (k : Int) (N : Nat) (c : Int) (L : Nat -> Nat) (F : Nat -> Nat -> UInt8) : Bool := decide (0 < (Cn.wins k (Cn.hP N c L F) (Cn.hQ N c L F) N).length)
def wnD (k : Int) (N : Nat) (c : Int) (L : Nat -> Nat) (F : Nat -> Nat -> UInt8) : Nat -> UInt8 := cat2 c.toNat (cH k.toNat (zv N c L F 2 (wnV k N c L F)) N)
def erCR (x : Int) (W : Nat) (k c q : Int) (N rn : Nat) (L : Nat -> Nat) (F : Nat -> Nat -> UInt8) : Int :=
  if erOL (erR x N c rn L) (wnB k N c L F) = 0 then erV2 (erV2 (erK x N c rn L 2 (wnV k N c L F)) (erL k.toNat (zv N c L F 2 (wnV k N c L F)) N)) (De.erB x W q W (wnD k N c L F)) else erOL (erR x N c rn L) (wnB k N c L F)
set_option maxRecDepth 100000 in
theorem cRead_any {k r c q : Int} {N W : Nat} {x : Int} (h : Par k r c q N W x) (w : World) (ro : Option Addr) (rn rc : Nat) (A : Nat -> Option Addr) (L C : Nat -> Nat) (F : Nat -> Nat -> UInt8) (hr : Rw w ro rn A L C F) (E : Int) (hE : erCR x W k c q N rn L F = E) :
    Calls Tryz.prog 7 #[.agg #[.int .i64 k, .int .i64 r, .int .i64 c, .int .i64 q], .slice ro rn rc] w (AnsRd w E (wnV k N c L F) ((nm (wnD k N c L F) 0 4 : Nat) : Int) ((nm (wnD k N c L F) 4 1 : Nat) : Int) (nm (wnD k N c L F) 5 2) (De.rdR (wnD k N c L F) 7) (De.rdV (wnD k N c L F) 7)) := by
  obtain ⟨E0, hE0⟩ : ∃ E0, erR x N c rn L = E0 := ⟨_, rfl⟩
  obtain ⟨y, hy⟩ : ∃ y, Cn.rdv E0 (Cn.wins k (Cn.hP N c L F) (Cn.hQ N c L F) N) 0 = y := ⟨_, rfl⟩
  obtain ⟨z, hz⟩ : ∃ z, Cn.rdb E0 (Cn.wins k (Cn.hP N c L F) (Cn.hQ N c L F) N) 0 = z := ⟨_, rfl⟩
  have HA := fun u (hu : Below w.heap.size w u) => orLost_any 17 (fun _ _ => rfl) u ro rn rc y z E0 ((cwin_any h w ro rn rc A L C F hr E0 hE0 y hy z hz).below hu)
  unfold erCR at hE
  by_cases e0 : E0 = 0
  · subst e0
    have hzb : z = wnB k N c L F := by rw [<- hz]; unfold Cn.rdb wnB; simp
    have hyv : y = wnV k N c L F := by rw [<- hy]; unfold Cn.rdv wnV; rw [if_pos rfl]
    rw [hE0, <- hzb] at hE
    unfold erOL at hE HA
    rw [if_pos rfl] at hE HA
    cases z
    · rw [if_neg (by decide), if_neg (by decide)] at hE
      rw [if_neg (by decide)] at HA
      rw [<- hE]
      exact cRead_bad w ro rn rc _ 5 (by decide) HA _ _ _ _ _ _
    · rw [if_pos rfl, if_pos rfl] at hE
      rw [if_pos rfl] at HA
      unfold lenO at HA
      rw [if_neg (fun e => by cases e.2), hyv] at HA
      have hx : x = 0 := by
        unfold erR at hE0
        by_cases e : x = 0
        · exact e
        · rw [if_neg e] at hE0; exact hE0
      subst hx
      obtain ⟨e1, he1⟩ : ∃ e1, erV2 (erK 0 N c rn L 2 (wnV k N c L F)) (erL k.toNat (zv N c L F 2 (wnV k N c L F)) N) = e1 := ⟨_, rfl⟩
      have hW : k.toNat * c.toNat = W := by
        rcases h with ⟨hm, hW, _⟩ | ⟨_, _, _, h0⟩
        · obtain ⟨h1, h2, h3, h4, h5, h6, h7, h8, h9⟩ := may_true hm
          have e1 : k = (k.toNat : Int) := by omega
          have e2 : c = (c.toNat : Int) := by omega
          rw [e1, e2, <- Int.natCast_mul] at hW
          exact (Int.ofNat.inj hW).symm
        · exact absurd h0 (by decide)
      have HR := fun u (hu : Below w.heap.size w u) => Read_any h u ro rn rc A L C F (hr.below hu) 2 (wnV k N c L F) e1 he1
      rw [hW] at HR
      rw [he1] at hE
      exact cRead_go w ro rn rc (wnV k N c L F) e1 (De.erB 0 W q W (wnD k N c L F)) (wnD k N c L F) _ _ _ _ _ HA HR (fun _ u bo bc hb => De.Parse_any h u bo W bc _ hb _ rfl) E hE
  · rw [hE0] at hE
    have hne : erOL E0 (wnB k N c L F) = E0 := by unfold erOL; rw [if_neg e0]
    have hne2 : erOL E0 z = E0 := by unfold erOL; rw [if_neg e0]
    rw [hne, if_neg e0] at hE
    rw [hne2] at HA
    rw [<- hE]
    exact cRead_bad w ro rn rc _ E0 e0 HA _ _ _ _ _ _
end Go.Proofs.YtdmpiipllmjloaaGreat
