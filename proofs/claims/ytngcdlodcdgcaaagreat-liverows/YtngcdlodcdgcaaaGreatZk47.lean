import Derived.Test.YtngcdlodcdgcaaaGreatZk46
namespace Go.Proofs.YtngcdlodcdgcaaaGreat
open Go.RowKit
def AnsRd (w : World) (E y A D : Int) (n : Nat) (R V : Nat -> Int) (e : Ending) (w' : World) : Prop :=
  ∃ ao cp, e = .returned (.tuple #[.agg #[.int .i64 (De.lenI E A), .int .i64 (De.lenI E D), .slice ao (lenE E n) cp], .int .i64 (De.lenI E y), .int .i64 E]) /\ De.OwR w.heap.size w' ao (lenE E n) cp R V /\ Below w.heap.size w w'
theorem below_two {B : Nat} {w v : World} {g : Nat} (h : Below B w v) (hg : B <= g) (u0 u1 u2 : Value) : Below B w (((v.setCell ⟨g, 0, none⟩ u0).setCell ⟨g, 1, none⟩ u1).setCell ⟨g, 2, none⟩ u2) := ((h.setCell hg _).setCell hg _).setCell hg _
set_option maxHeartbeats 4000000 in
set_option maxRecDepth 100000 in
theorem cRead_bad {k r c q : Int} (w : World) (ro : Option Addr) (rn rc : Nat) (y eL : Int) (hne : eL ≠ 0) (HA : Hid (∀ u, Below w.heap.size w u -> Calls Tryz.prog 73 #[.agg #[.int .i64 k, .int .i64 r, .int .i64 c, .int .i64 q], .slice ro rn rc, .func (.func 74) #[] #[]] u fun e w' => e = .returned (.tuple #[.int .i64 y, .int .i64 eL]) /\ Below u.heap.size u w')) (A D : Int) (n : Nat) (R V : Nat -> Int) (v : Int) :
    Calls Tryz.prog 40 #[.agg #[.int .i64 k, .int .i64 r, .int .i64 c, .int .i64 q], .slice ro rn rc] w (AnsRd w eL v A D n R V) := by
  have hz : (eL != 0) = true := by simpa using hne
  unfold AnsRd
  rw [lenE_ne n hne, De.lenI_not hne, De.lenI_not hne, De.lenI_not hne]
  clear hne
  obtain ⟨w0, hw0⟩ : ∃ w0, w0 = w.alloc (.cells #[.int .i64 k, .int .i64 r, .int .i64 c, .int .i64 q] 23) := ⟨_, rfl⟩
  obtain ⟨w1, hw1⟩ : ∃ w1, w1 = w0.alloc (.cells #[.int .i64 0, .int .i64 0, .slice none 0 0] 62) := ⟨_, rfl⟩
  have b0 : Below w.heap.size w w0 := by rw [hw0]; exact below_alloc _ _
  have b1 : Below w0.heap.size w0 w1 := by rw [hw1]; exact below_alloc _ _
  have z0 : w0.heap.size = w.heap.size + 1 := by rw [hw0]; simp
  go_enter Tryz.func40, Tryz.ntmps40
  go_wp2_with fail
  rw [<- hw0, <- hw1]
  refine (HA.out _ (below_then b0 b1)).mono ?_
  rintro e wa ⟨rfl, ha⟩
  have t0 := blk_held hw1 ha 0 rfl
  have t1 := blk_held hw1 ha 1 rfl
  have t2 := blk_held hw1 ha 2 rfl
  have f := blk_free hw1 ha
  rw [z0] at t0 t1 t2 f
  clear hw0 hw1
  go_wp2_with fail
  refine bodyPost_ret (v := .tuple #[.agg #[.int .i64 0, .int .i64 0, .slice none 0 0], .int .i64 0, .int .i64 eL]) (by simp [results, Tryz.results40, go_sem, t0, t1, t2]) rfl ⟨none, 0, rfl, De.owr_nil _ _ _ _, ?_⟩
  exact below_two (below_then (below_then b0 b1) ha) (Nat.le_succ _) _ _ _
set_option maxHeartbeats 4000000 in
set_option maxRecDepth 100000 in
theorem cRead_go {k r c q : Int} {W : Nat} (w : World) (ro : Option Addr) (rn rc : Nat) (y e1 e2 : Int) (F : Nat -> UInt8) (A D : Int) (n : Nat) (R V : Nat -> Int)
    (HA : Hid (∀ u, Below w.heap.size w u -> Calls Tryz.prog 73 #[.agg #[.int .i64 k, .int .i64 r, .int .i64 c, .int .i64 q], .slice ro rn rc, .func (.func 74) #[] #[]] u fun e w' => e = .returned (.tuple #[.int .i64 y, .int .i64 0]) /\ Below u.heap.size u w'))
    (HR : Hid (∀ u, Below w.heap.size w u -> Calls Tryz.prog 75 #[.agg #[.int .i64 k, .int .i64 r, .int .i64 c, .int .i64 q], .slice ro rn rc, .int .u8 2, .int .i64 y] u (AnsB u e1 W F)))
    (HP : Hid (e1 = 0 -> ∀ u bo bc, Bec u bo W bc F -> Calls Tryz.prog 76 #[.agg #[.int .i64 k, .int .i64 r, .int .i64 c, .int .i64 q], .slice bo W bc] u (De.AnsD u e2 A D n R V))) (E : Int) (hE : erV2 e1 e2 = E) :
    Calls Tryz.prog 40 #[.agg #[.int .i64 k, .int .i64 r, .int .i64 c, .int .i64 q], .slice ro rn rc] w (AnsRd w E y A D n R V) := by
  unfold erV2 at hE
  unfold AnsRd
  obtain ⟨w0, hw0⟩ : ∃ w0, w0 = w.alloc (.cells #[.int .i64 k, .int .i64 r, .int .i64 c, .int .i64 q] 23) := ⟨_, rfl⟩
  obtain ⟨w1, hw1⟩ : ∃ w1, w1 = w0.alloc (.cells #[.int .i64 0, .int .i64 0, .slice none 0 0] 62) := ⟨_, rfl⟩
  have b0 : Below w.heap.size w w0 := by rw [hw0]; exact below_alloc _ _
  have b1 : Below w0.heap.size w0 w1 := by rw [hw1]; exact below_alloc _ _
  have z0 : w0.heap.size = w.heap.size + 1 := by rw [hw0]; simp
  have HZ1 : Hid (w1.heap.size = w.heap.size + 2) := by show _ = _; rw [hw1]; simp [z0]
  have HQ : Hid (∀ u, Below w1.heap.size w1 u -> (u.cell? ⟨w.heap.size, 0, none⟩ = some (.int .i64 k) /\ u.cell? ⟨w.heap.size, 1, none⟩ = some (.int .i64 r) /\ u.cell? ⟨w.heap.size, 2, none⟩ = some (.int .i64 c) /\ u.cell? ⟨w.heap.size, 3, none⟩ = some (.int .i64 q)) /\ (u.cell? ⟨w.heap.size + 1, 0, none⟩ = some (.int .i64 0) /\ u.cell? ⟨w.heap.size + 1, 1, none⟩ = some (.int .i64 0) /\ u.cell? ⟨w.heap.size + 1, 2, none⟩ = some (.slice none 0 0)) /\ ∀ i, u.frozen? ⟨w.heap.size + 1, i, none⟩ = false) := fun u hu => ⟨par_held hw0 (below_then b1 hu), by rw [<- z0]; exact ⟨⟨blk_held hw1 hu 0 rfl, blk_held hw1 hu 1 rfl, blk_held hw1 hu 2 rfl⟩, blk_free hw1 hu⟩⟩
  have HBB : Hid (Below w.heap.size w w1) := below_then b0 b1
  by_cases h1 : e1 = 0
  · subst h1
    rw [if_pos rfl] at hE
    subst hE
    have HP1 := HP.out rfl
    unfold AnsB at HR
    rw [lenE_zero] at HR
    by_cases h2 : e2 = 0
    · subst h2
      rw [lenE_zero, De.lenI_zero, De.lenI_zero, De.lenI_zero]
      unfold De.AnsD at HP1
      rw [lenE_zero, De.lenI_zero, De.lenI_zero] at HP1
      go_enter Tryz.func40, Tryz.ntmps40
      go_wp2_with fail
      rw [<- hw0, <- hw1]
      clear hw0 hw1 z0 b0 b1
      refine (HA.out _ HBB.out).mono ?_
      rintro e wa ⟨rfl, ha⟩
      obtain ⟨⟨s0, s1, s2, s3⟩, _⟩ := HQ.out wa ha
      go_wp2_with fail
      refine (HR.out _ (below_then HBB.out ha)).mono ?_
      rintro e wb ⟨bo, bc, rfl, hob, hb⟩
      have hab := below_then ha hb
      clear s0 s1 s2 s3
      obtain ⟨⟨s0, s1, s2, s3⟩, _⟩ := HQ.out wb hab
      have hbec := hob.bec
      clear hob ha hb
      go_wp2_with fail
      refine (HP1 _ bo bc hbec).mono ?_
      rintro e wc ⟨ao, cp, rfl, how, hc⟩
      have HAC : Hid (Below w1.heap.size w1 wc) := below_then hab hc
      have HOW : Hid (De.OwR wb.heap.size wc ao n cp R V) := how
      have HZB : Hid (w.heap.size + 2 <= wb.heap.size) := by show _ <= _; rw [<- HZ1.out]; exact hab.size
      have t0 := fun o => (HQ.out (wc.alloc o) (below_then HAC.out (below_alloc _ o))).2.1.1
      have t1 := fun o => (HQ.out (wc.alloc o) (below_then HAC.out (below_alloc _ o))).2.1.2.1
      have t2 := fun o => (HQ.out (wc.alloc o) (below_then HAC.out (below_alloc _ o))).2.1.2.2
      have f := fun o i => (HQ.out (wc.alloc o) (below_then HAC.out (below_alloc _ o))).2.2 i
      clear s0 s1 s2 s3 hab hc how hbec HP1 HP HR HA
      go_wp2_with fail
      refine bodyPost_ret (v := .tuple #[.agg #[.int .i64 A, .int .i64 D, .slice ao n cp], .int .i64 y, .int .i64 0]) (by simp [results, Tryz.results40, go_sem, t0, t1, t2]) rfl ⟨ao, cp, rfl, ?_, ?_⟩
      · have h5 := HZB.out
        refine De.OwR.mono (B := wb.heap.size) ((HOW.out.below (below_alloc _ (.cells #[.int .i64 A, .int .i64 D, .slice ao n cp] 62))).stay fun t ht ht2 => ?_) (by omega)
        have hne : t ≠ w.heap.size + 1 := by omega
        rw [heap_setCell_other _ _ _ _ hne, heap_setCell_other _ _ _ _ hne, heap_setCell_other _ _ _ _ hne]
      · exact below_two (below_then (below_then HBB.out HAC.out) (below_alloc _ _)) (Nat.le_succ _) _ _ _
    · have hz : (e2 != 0) = true := by simpa using h2
      rw [lenE_ne n h2, De.lenI_not h2, De.lenI_not h2, De.lenI_not h2]
      unfold De.AnsD at HP1
      rw [lenE_ne n h2, De.lenI_not h2, De.lenI_not h2] at HP1
      clear h2
      go_enter Tryz.func40, Tryz.ntmps40
      go_wp2_with fail
      rw [<- hw0, <- hw1]
      clear hw0 hw1 z0 b0 b1
      refine (HA.out _ HBB.out).mono ?_
      rintro e wa ⟨rfl, ha⟩
      obtain ⟨⟨s0, s1, s2, s3⟩, _⟩ := HQ.out wa ha
      go_wp2_with fail
      refine (HR.out _ (below_then HBB.out ha)).mono ?_
      rintro e wb ⟨bo, bc, rfl, hob, hb⟩
      have hab := below_then ha hb
      clear s0 s1 s2 s3
      obtain ⟨⟨s0, s1, s2, s3⟩, _⟩ := HQ.out wb hab
      have hbec := hob.bec
      clear hob ha hb
      go_wp2_with fail
      refine (HP1 _ bo bc hbec).mono ?_
      rintro e wc ⟨ao, cp, rfl, _, hc⟩
      have HAC : Hid (Below w1.heap.size w1 wc) := below_then hab hc
      have t0 := fun o => (HQ.out (wc.alloc o) (below_then HAC.out (below_alloc _ o))).2.1.1
      have t1 := fun o => (HQ.out (wc.alloc o) (below_then HAC.out (below_alloc _ o))).2.1.2.1
      have t2 := fun o => (HQ.out (wc.alloc o) (below_then HAC.out (below_alloc _ o))).2.1.2.2
      have f := fun o i => (HQ.out (wc.alloc o) (below_then HAC.out (below_alloc _ o))).2.2 i
      clear s0 s1 s2 s3 hab hc hbec HP1 HP HR HA
      go_wp2_with fail
      refine bodyPost_ret (v := .tuple #[.agg #[.int .i64 0, .int .i64 0, .slice none 0 0], .int .i64 0, .int .i64 e2]) (by simp [results, Tryz.results40, go_sem, t0, t1, t2]) rfl ⟨none, 0, rfl, De.owr_nil _ _ _ _, ?_⟩
      exact below_two (below_then (below_then HBB.out HAC.out) (below_alloc _ _)) (Nat.le_succ _) _ _ _
  · have hz : (e1 != 0) = true := by simpa using h1
    rw [if_neg h1] at hE
    subst hE
    rw [lenE_ne n h1, De.lenI_not h1, De.lenI_not h1, De.lenI_not h1]
    go_enter Tryz.func40, Tryz.ntmps40
    go_wp2_with fail
    rw [<- hw0, <- hw1]
    clear hw0 hw1 z0 b0 b1 h1
    refine (HA.out _ HBB.out).mono ?_
    rintro e wa ⟨rfl, ha⟩
    obtain ⟨⟨s0, s1, s2, s3⟩, _⟩ := HQ.out wa ha
    go_wp2_with fail
    refine (HR.out _ (below_then HBB.out ha)).mono ?_
    rintro e wb ⟨bo, bc, rfl, _, hb⟩
    have HAC : Hid (Below w1.heap.size w1 wb) := below_then ha hb
    obtain ⟨_, ⟨t0, t1, t2⟩, f⟩ := HQ.out wb HAC.out
    clear s0 s1 s2 s3 ha hb HP HR HA
    go_wp2_with fail
    refine bodyPost_ret (v := .tuple #[.agg #[.int .i64 0, .int .i64 0, .slice none 0 0], .int .i64 0, .int .i64 e1]) (by simp [results, Tryz.results40, go_sem, t0, t1, t2]) rfl ⟨none, 0, rfl, De.owr_nil _ _ _ _, ?_⟩
    exact below_two (below_then HBB.out HAC.out) (Nat.le_succ _) _ _ _
def wnV (k : Int) (N : Nat) (c : Int) (L : Nat -> Nat) (F : Nat -> Nat -> UInt8) : Int := (Cn.wins k (Cn.hP N c L F) (Cn.hQ N c L F) N).getD 0 0
def wnB (k : Int) (N : Nat) (c : Int) (L : Nat -> Nat) (F : Nat -> Nat -> UInt8) : Bool := decide (0 < (Cn.wins k (Cn.hP N c L F) (Cn.hQ N c L F) N).length)
def wnD (k : Int) (N : Nat) (c : Int) (L : Nat -> Nat) (F : Nat -> Nat -> UInt8) : Nat -> UInt8 := cat2 c.toNat (cH k.toNat (zv N c L F 2 (wnV k N c L F)) N)
def erCR (x : Int) (W : Nat) (k c q : Int) (N rn : Nat) (L : Nat -> Nat) (F : Nat -> Nat -> UInt8) : Int :=
  if erOL (erR x N c rn L) (wnB k N c L F) = 0 then erV2 (erV2 (erK x N c rn L 2 (wnV k N c L F)) (erL k.toNat (zv N c L F 2 (wnV k N c L F)) N)) (De.erB x W q W (wnD k N c L F)) else erOL (erR x N c rn L) (wnB k N c L F)
set_option maxRecDepth 100000 in
theorem cRead_any {k r c q : Int} {N W : Nat} {x : Int} (h : Par k r c q N W x) (w : World) (ro : Option Addr) (rn rc : Nat) (A : Nat -> Option Addr) (L C : Nat -> Nat) (F : Nat -> Nat -> UInt8) (hr : Rw w ro rn A L C F) (E : Int) (hE : erCR x W k c q N rn L F = E) :
    Calls Tryz.prog 40 #[.agg #[.int .i64 k, .int .i64 r, .int .i64 c, .int .i64 q], .slice ro rn rc] w (AnsRd w E (wnV k N c L F) ((nm (wnD k N c L F) 0 4 : Nat) : Int) ((nm (wnD k N c L F) 4 1 : Nat) : Int) (nm (wnD k N c L F) 5 2) (De.rdR (wnD k N c L F) 7) (De.rdV (wnD k N c L F) 7)) := by
  obtain ⟨E0, hE0⟩ : ∃ E0, erR x N c rn L = E0 := ⟨_, rfl⟩
  obtain ⟨y, hy⟩ : ∃ y, Cn.rdv E0 (Cn.wins k (Cn.hP N c L F) (Cn.hQ N c L F) N) 0 = y := ⟨_, rfl⟩
  obtain ⟨z, hz⟩ : ∃ z, Cn.rdb E0 (Cn.wins k (Cn.hP N c L F) (Cn.hQ N c L F) N) 0 = z := ⟨_, rfl⟩
  have HA := fun u (hu : Below w.heap.size w u) => orLost_any 74 (fun _ _ => rfl) u ro rn rc y z E0 ((cwin_any h w ro rn rc A L C F hr E0 hE0 y hy z hz).below hu)
  unfold erCR at hE
  by_cases e0 : E0 = 0
  · subst e0
    have hzb : z = wnB k N c L F := by rw [<- hz]; unfold Cn.rdb wnB; simp
    have hyv : y = wnV k N c L F := by rw [<- hy]; unfold Cn.rdv wnV; rw [if_pos rfl]
    rw [hE0, <- hzb] at hE
    unfold erOL at hE HA
    rw [if_pos rfl] at hE HA
    cases z
    · rw [if_neg (by decide), if_neg (by decide)] at hE
      rw [if_neg (by decide)] at HA
      rw [<- hE]
      exact cRead_bad w ro rn rc _ 5 (by decide) HA _ _ _ _ _ _
    · rw [if_pos rfl, if_pos rfl] at hE
      rw [if_pos rfl] at HA
      unfold lenO at HA
      rw [if_neg (fun e => by cases e.2), hyv] at HA
      have hx : x = 0 := by
        unfold erR at hE0
        by_cases e : x = 0
        · exact e
        · rw [if_neg e] at hE0; exact hE0
      subst hx
      obtain ⟨e1, he1⟩ : ∃ e1, erV2 (erK 0 N c rn L 2 (wnV k N c L F)) (erL k.toNat (zv N c L F 2 (wnV k N c L F)) N) = e1 := ⟨_, rfl⟩
      have hW : k.toNat * c.toNat = W := by
        rcases h with ⟨hm, hW, _⟩ | ⟨_, _, _, h0⟩
        · obtain ⟨h1, h2, h3, h4, h5, h6, h7, h8, h9⟩ := may_true hm
          have e1 : k = (k.toNat : Int) := by omega
          have e2 : c = (c.toNat : Int) := by omega
          rw [e1, e2, <- Int.natCast_mul] at hW
          exact (Int.ofNat.inj hW).symm
        · exact absurd h0 (by decide)
      have HR := fun u (hu : Below w.heap.size w u) => Read_any h u ro rn rc A L C F (hr.below hu) 2 (wnV k N c L F) e1 he1
      rw [hW] at HR
      rw [he1] at hE
      exact cRead_go w ro rn rc (wnV k N c L F) e1 (De.erB 0 W q W (wnD k N c L F)) (wnD k N c L F) _ _ _ _ _ HA HR (fun _ u bo bc hb => De.Parse_any h u bo W bc _ hb _ rfl) E hE
  · rw [hE0] at hE
    have hne : erOL E0 (wnB k N c L F) = E0 := by unfold erOL; rw [if_neg e0]
    have hne2 : erOL E0 z = E0 := by unfold erOL; rw [if_neg e0]
    rw [hne, if_neg e0] at hE
    rw [hne2] at HA
    rw [<- hE]
    exact cRead_bad w ro rn rc _ E0 e0 HA _ _ _ _ _ _
end Go.Proofs.YtngcdlodcdgcaaaGreat
namespace Go.Proofs.YtngcdlodcdgcaaaGreat
open Go.RowKit
def dW (k c : Int) (N Q : Nat) (F : Nat -> List UInt8) (o : Nat) : Nat -> UInt8 := wnD k N c (gL Q F o) (gF Q F o)
def dV (k c : Int) (N Q : Nat) (F : Nat -> List UInt8) (o : Nat) : Int := wnV k N c (gL Q F o) (gF Q F o)
def dE (k c q : Int) (N W Q : Nat) (F : Nat -> List UInt8) (o : Nat) : Int := erCR 0 W k c q N N (gL Q F o) (gF Q F o)
def Ob (k r c q : Int) (n : Nat) (F : Nat -> List UInt8) (o E A D : Int) (M : Nat) (R V : Nat -> Int) (y : Int) (l s : Nat) (SR SV : Nat -> Int) : Prop :=
  (E ≠ 0 /\ ∃ n' G, Im.Rww k r c q n F o E n' G) \/
  ∃ N W Q S, Par k r c q N W 0 /\ Im.Ck k r c q n F 0 N Q S /\ (0 <= o /\ o < (Q : Int)) /\
    (A = ((nm (dW k c N Q F o.toNat) 0 4 : Nat) : Int) /\ D = ((nm (dW k c N Q F o.toNat) 4 1 : Nat) : Int) /\ M = nm (dW k c N Q F o.toNat) 5 2 /\ R = De.rdR (dW k c N Q F o.toNat) 7 /\ V = De.rdV (dW k c N Q F o.toNat) 7 /\ y = dV k c N Q F o.toNat) /\
    ((dE k c q N W Q F o.toNat ≠ 0 /\ E = dE k c q N W Q F o.toNat) \/
     (dE k c q N W Q F o.toNat = 0 /\
       ((D = 0 /\ E = 0 /\ l = 0 /\ s = M /\ SR = R /\ SV = V) \/
        (D ≠ 0 /\ E = erLs (fun i => erLf k c q N W Q F (R i) (V i) (lfN W (up A.toNat W) i)) M /\ l = M /\ s = up A.toNat W /\ SR = sgR k c N W Q F R V /\ SV = sgV k c N W Q F R V))))
theorem ck_par {k r c q : Int} {n : Nat} {F : Nat -> List UInt8} {N Q S : Nat} (h : Im.Ck k r c q n F 0 N Q S) : ∃ W, Par k r c q N W 0 := by
  obtain ⟨⟨h0, hN, hQ, hS⟩, _⟩ := h.ok rfl
  obtain ⟨h1, h2, h3, h4, h5, h6, h7, h8, h9⟩ := may_true h0
  exact ⟨(k * c).toNat, .inl ⟨h0, by omega, hN, rfl⟩⟩
theorem ob_ex (k r c q : Int) (n : Nat) (F : Nat -> List UInt8) (o : Int) : ∃ E A D M R V y l s SR SV, Ob k r c q n F o E A D M R V y l s SR SV := by
  obtain ⟨x, n', G, h⟩ := Im.rww_ex k r c q n F o
  by_cases hx : x = 0
  · subst hx
    obtain ⟨y, N, Q, S, hck, ⟨rfl, h1, h2, _, _, _⟩ | ⟨_, ⟨h1, h2⟩ | ⟨_, _, h3⟩⟩⟩ := h
    · obtain ⟨W, hp⟩ := ck_par hck
      by_cases hE : dE k c q N W Q F o.toNat = 0
      · by_cases hD : nm (dW k c N Q F o.toNat) 4 1 = 0
        · exact ⟨0, _, _, _, _, _, _, 0, _, _, _, .inr ⟨N, W, Q, S, hp, hck, ⟨h1, h2⟩, ⟨rfl, rfl, rfl, rfl, rfl, rfl⟩, .inr ⟨hE, .inl ⟨by rw [hD]; rfl, rfl, rfl, rfl, rfl, rfl⟩⟩⟩⟩
        · exact ⟨_, _, _, _, _, _, _, _, _, _, _, .inr ⟨N, W, Q, S, hp, hck, ⟨h1, h2⟩, ⟨rfl, rfl, rfl, rfl, rfl, rfl⟩, .inr ⟨hE, .inr ⟨by omega, rfl, rfl, rfl, rfl, rfl⟩⟩⟩⟩
      · exact ⟨_, _, _, _, _, _, _, 0, 0, fun _ => 0, fun _ => 0, .inr ⟨N, W, Q, S, hp, hck, ⟨h1, h2⟩, ⟨rfl, rfl, rfl, rfl, rfl, rfl⟩, .inl ⟨hE, rfl⟩⟩⟩
    · exact absurd h2.symm h1
    · cases h3
  · exact ⟨x, 0, 0, 0, fun _ => 0, fun _ => 0, 0, 0, 0, fun _ => 0, fun _ => 0, .inl ⟨hx, n', G, h⟩⟩
end Go.Proofs.YtngcdlodcdgcaaaGreat
namespace Go.Proofs.YtngcdlodcdgcaaaGreat
open Go.RowKit
theorem owr_set {B : Nat} {w : World} {ao : Option Addr} {n cp : Nat} {R V : Nat -> Int} (h : De.OwR B w ao n cp R V) {g : Nat} (hg : g < B) (i : Nat) (v : Value) : De.OwR B (w.setCell ⟨g, i, none⟩ v) ao n cp R V :=
  h.stay fun t ht _ => by have hne : t ≠ g := by omega
                          exact heap_setCell_other _ _ _ _ hne
theorem im_set {B : Nat} {w : World} {lo : Option Addr} {n : Nat} {A : Nat -> Option Addr} {C : Nat -> Nat} {F : Nat -> List UInt8} (h : Im.Im B w lo n A C F) {g : Nat} (hg : g < B) (i : Nat) (v : Value) : Im.Im B (w.setCell ⟨g, i, none⟩ v) lo n A C F :=
  h.only (X := fun b => b = g) ((Im.Only.refl (fun b => b = g) w).setCell (p := ⟨g, i, none⟩) rfl v) (fun b hb e => by omega)
set_option maxHeartbeats 4000000 in
set_option maxRecDepth 100000 in
theorem obj_e2 {k r c q : Int} (w : World) (lo : Option Addr) (n cl N : Nat) (o x : Int) (hx : x ≠ 0) (G : Nat -> List UInt8) (A D : Int) (M : Nat) (R V : Nat -> Int) (y : Int)
    (HA : Hid (∀ u, Below w.heap.size w u -> Calls Tryz.prog 39 #[.agg #[.int .i64 k, .int .i64 r, .int .i64 c, .int .i64 q, .slice lo n cl], .int .i64 o] u fun e w' => ∃ lo' A' C', e = .returned (.tuple #[.slice lo' N N, .int .i64 0]) /\ Im.Im u.heap.size w' lo' (2 * N) A' C' G /\ Below u.heap.size u w'))
    (HR : Hid (∀ u ro A' C, Rw u ro N A' (fun j => (G j).length) C (fun j t => (G j).getD t 0) -> Calls Tryz.prog 40 #[.agg #[.int .i64 k, .int .i64 r, .int .i64 c, .int .i64 q], .slice ro N N] u (AnsRd u x y A D M R V))) (l s : Nat) (SR SV : Nat -> Int) :
    Calls Tryz.prog 27 #[.agg #[.int .i64 k, .int .i64 r, .int .i64 c, .int .i64 q, .slice lo n cl], .int .i64 o] w (AnsO w x A D M R V y l s SR SV) := by
  have hz : (x != 0) = true := by simpa using hx
  have HX : Hid (x ≠ 0) := hx
  unfold AnsRd at HR
  rw [lenE_ne M hx, De.lenI_not hx, De.lenI_not hx, De.lenI_not hx] at HR
  have HO : Hid (OB w w.heap.size (objW w k r c q lo n cl) k r c q lo n cl (.int .i64 0) (.int .i64 0) (.slice none 0 0) (.int .i64 0) (.slice none 0 0) (.slice none 0 0) (.int .i64 0)) := ob_new w k r c q lo n cl
  have hmf : ∀ (fn : Fn) (first cap : Array Value) (w : World), (Instr.makeFunc fn first cap).run Tryz.prog w = .ok (.func fn first cap) w := fun _ _ _ _ => rfl
  clear hx
  go_enter_defers Tryz.func27, Tryz.ntmps27
  go_wp2_with fail
  refine (HA.out (objW w k r c q lo n cl) HO.out.bel).mono ?_
  rintro e wa ⟨lo', A', C', rfl, hI, ha⟩
  have O1 := HO.out.below ha
  have hrw := rw_of (im_set hI (g := w.heap.size + 5) (by have := HO.out.siz.2; omega) 0 (.int .i64 0))
  have HO1 : Hid (OB w w.heap.size (wa.setCell ⟨w.heap.size + 5, 0, none⟩ (.int .i64 0)) k r c q lo n cl (.int .i64 0) (.int .i64 0) (.slice none 0 0) (.int .i64 0) (.slice none 0 0) (.slice none 0 0) (.int .i64 0)) := O1.setE _
  obtain ⟨⟨s0, s1, s2, s3, s4⟩, ⟨t0, t1, t2⟩, t3, t4, t5, t6⟩ := O1.cells
  obtain ⟨f1, f2, f3, f4, f5⟩ := O1.free
  clear O1 ha HA HO hI
  go_wp2_with fail
  refine (HR.out _ _ _ _ hrw).mono ?_
  rintro e wb ⟨ao, cp, rfl, _, hb⟩
  clear s0 s1 s2 s3 s4 t0 t1 t2 t3 t4 t5 t6 f1 f2 f3 f4 f5 hrw HR
  have O2 := HO1.out.below hb
  have HO2 : Hid (OB w w.heap.size wb k r c q lo n cl (.int .i64 0) (.int .i64 0) (.slice none 0 0) (.int .i64 0) (.slice none 0 0) (.slice none 0 0) (.int .i64 0)) := O2
  obtain ⟨⟨s0, s1, s2, s3, s4⟩, ⟨t0, t1, t2⟩, t3, t4, t5, t6⟩ := O2.cells
  obtain ⟨f1, f2, f3, f4, f5⟩ := O2.free
  clear O2 hb HO1
  go_wp2_with fail
  refine leaves_cons (f := 38) (args := #[.pointer (some ⟨w.heap.size + 5, 0, none⟩), .pointer (some ⟨w.heap.size + 1, 0, none⟩), .pointer (some ⟨w.heap.size + 2, 0, none⟩), .pointer (some ⟨w.heap.size + 3, 0, none⟩), .pointer (some ⟨w.heap.size + 4, 0, none⟩)]) (by simp) (by simp [go_sem]) ?_
  refine (obj_defer (((HO2.out.setD (.int .i64 0) (.int .i64 0) (.slice ao 0 cp)).setY (.int .i64 0)).setE (.int .i64 x)) .returning).mono ?_
  rintro e u' w'' ⟨rfl, rfl, ⟨h0, _⟩ | ⟨_, hO, _⟩⟩
  · exact absurd h0 HX.out
  · obtain ⟨_, ⟨v0, v1, v2⟩, v3, v4, v5, v6⟩ := hO.cells
    exact ⟨_, by simp [results, Tryz.results27, go_sem, v0, v1, v2, v3, v4, v5, v6], ansO_bad HX.out hO.bel _ _ _ _ _ _ _ _ _ _⟩
set_option maxHeartbeats 4000000 in
set_option maxRecDepth 100000 in
theorem obj_d0 {k r c q : Int} (w : World) (lo : Option Addr) (n cl N : Nat) (o : Int) (G : Nat -> List UInt8) (A : Int) (M : Nat) (hM : M <= 1000) (R V : Nat -> Int) (y : Int)
    (HA : Hid (∀ u, Below w.heap.size w u -> Calls Tryz.prog 39 #[.agg #[.int .i64 k, .int .i64 r, .int .i64 c, .int .i64 q, .slice lo n cl], .int .i64 o] u fun e w' => ∃ lo' A' C', e = .returned (.tuple #[.slice lo' N N, .int .i64 0]) /\ Im.Im u.heap.size w' lo' (2 * N) A' C' G /\ Below u.heap.size u w'))
    (HR : Hid (∀ u ro A' C, Rw u ro N A' (fun j => (G j).length) C (fun j t => (G j).getD t 0) -> Calls Tryz.prog 40 #[.agg #[.int .i64 k, .int .i64 r, .int .i64 c, .int .i64 q], .slice ro N N] u (AnsRd u 0 y A 0 M R V))) :
    Calls Tryz.prog 27 #[.agg #[.int .i64 k, .int .i64 r, .int .i64 c, .int .i64 q, .slice lo n cl], .int .i64 o] w (AnsO w 0 A 0 M R V y 0 M R V) := by
  unfold AnsRd at HR
  unfold AnsO
  rw [lenE_zero, De.lenI_zero, De.lenI_zero, De.lenI_zero] at HR
  rw [lenE_zero, lenE_zero, De.lenI_zero, De.lenI_zero, De.lenI_zero]
  have HO : Hid (OB w w.heap.size (objW w k r c q lo n cl) k r c q lo n cl (.int .i64 0) (.int .i64 0) (.slice none 0 0) (.int .i64 0) (.slice none 0 0) (.slice none 0 0) (.int .i64 0)) := ob_new w k r c q lo n cl
  have hmf : ∀ (fn : Fn) (first cap : Array Value) (w : World), (Instr.makeFunc fn first cap).run Tryz.prog w = .ok (.func fn first cap) w := fun _ _ _ _ => rfl
  go_enter_defers Tryz.func27, Tryz.ntmps27
  go_wp2_with fail
  refine (HA.out (objW w k r c q lo n cl) HO.out.bel).mono ?_
  rintro e wa ⟨lo', A', C', rfl, hI, ha⟩
  have O1 := HO.out.below ha
  have hrw := rw_of (im_set hI (g := w.heap.size + 5) (by have := HO.out.siz.2; omega) 0 (.int .i64 0))
  have HO1 : Hid (OB w w.heap.size (wa.setCell ⟨w.heap.size + 5, 0, none⟩ (.int .i64 0)) k r c q lo n cl (.int .i64 0) (.int .i64 0) (.slice none 0 0) (.int .i64 0) (.slice none 0 0) (.slice none 0 0) (.int .i64 0)) := O1.setE _
  obtain ⟨⟨s0, s1, s2, s3, s4⟩, ⟨t0, t1, t2⟩, t3, t4, t5, t6⟩ := O1.cells
  obtain ⟨f1, f2, f3, f4, f5⟩ := O1.free
  clear O1 ha HA HO hI
  go_wp2_with fail
  refine (HR.out _ _ _ _ hrw).mono ?_
  rintro e wb ⟨ao, cp, rfl, hown, hb⟩
  clear s0 s1 s2 s3 s4 t0 t1 t2 t3 t4 t5 t6 f1 f2 f3 f4 f5 hrw HR
  have O2 := HO1.out.below hb
  have HZ1 : Hid (w.heap.size + 6 <= (wa.setCell ⟨w.heap.size + 5, 0, none⟩ (.int .i64 0)).heap.size) := HO1.out.siz.2
  obtain ⟨Z, hZ⟩ : ∃ Z, Z = (wa.setCell ⟨w.heap.size + 5, 0, none⟩ (.int .i64 0)).heap.size := ⟨_, rfl⟩
  rw [<- hZ] at HZ1 hown
  clear hZ
  have HW1 := owr_set (owr_set (owr_set (owr_set (owr_set hown (g := w.heap.size + 1) (by have := HZ1.out; omega) 0 (.int .i64 A)) (g := w.heap.size + 1) (by have := HZ1.out; omega) 1 (.int .i64 0)) (g := w.heap.size + 1) (by have := HZ1.out; omega) 2 (.slice ao M cp)) (g := w.heap.size + 2) (by have := HZ1.out; omega) 0 (.int .i64 y)) (g := w.heap.size + 5) (by have := HZ1.out; omega) 0 (.int .i64 0)
  have O3 := ((O2.setD (.int .i64 A) (.int .i64 0) (.slice ao M cp)).setY (.int .i64 y)).setE (.int .i64 0)
  have HO3 : Hid (OB w w.heap.size _ k r c q lo n cl (.int .i64 A) (.int .i64 0) (.slice ao M cp) (.int .i64 y) (.slice none 0 0) (.slice none 0 0) (.int .i64 0)) := O3
  have HWW : Hid (De.OwR Z _ ao M cp R V) := HW1
  obtain ⟨⟨s0, s1, s2, s3, s4⟩, ⟨t0, t1, t2⟩, t3, t4, t5, t6⟩ := O2.cells
  obtain ⟨f1, f2, f3, f4, f5⟩ := O2.free
  clear O2 hb HO1 O3 HW1 hown
  go_wp2_with fail
  refine (cloneR_any _ ao M cp R V HWW.out.rec hM).mono ?_
  rintro e wc ⟨bo, cb, rfl, hob, hc⟩
  have O4 := HO3.out.below hc
  have HZ2 : Hid (w.heap.size + 6 <= _) := HO3.out.siz.2
  have HO4 : Hid (OB w w.heap.size wc k r c q lo n cl (.int .i64 A) (.int .i64 0) (.slice ao M cp) (.int .i64 y) (.slice none 0 0) (.slice none 0 0) (.int .i64 0)) := O4
  have HW4 : Hid (De.OwR w.heap.size (wc.setCell ⟨w.heap.size + 4, 0, none⟩ (.slice bo M cb)) ao M cp R V) := (owr_set (HWW.out.below hc) (g := w.heap.size + 4) (by have := HZ1.out; omega) 0 (.slice bo M cb)).mono (by have := HZ1.out; omega)
  have HV4 : Hid (De.OwR w.heap.size (wc.setCell ⟨w.heap.size + 4, 0, none⟩ (.slice bo M cb)) bo M cb R V) := (owr_set hob (g := w.heap.size + 4) (by have := HZ2.out; omega) 0 (.slice bo M cb)).mono (by have := HZ2.out; omega)
  clear s0 s1 s2 s3 s4 t0 t1 t2 t3 t4 t5 t6 f1 f2 f3 f4 f5 hob hc HWW HO3
  obtain ⟨⟨s0, s1, s2, s3, s4⟩, ⟨t0, t1, t2⟩, t3, t4, t5, t6⟩ := O4.cells
  obtain ⟨f1, f2, f3, f4, f5⟩ := O4.free
  clear O4
  go_wp2_with fail
  refine leaves_cons (f := 38) (args := #[.pointer (some ⟨w.heap.size + 5, 0, none⟩), .pointer (some ⟨w.heap.size + 1, 0, none⟩), .pointer (some ⟨w.heap.size + 2, 0, none⟩), .pointer (some ⟨w.heap.size + 3, 0, none⟩), .pointer (some ⟨w.heap.size + 4, 0, none⟩)]) (by simp) (by simp [go_sem]) ?_
  refine (obj_defer (HO4.out.setS (.slice bo M cb)) .returning).mono ?_
  rintro e u' w'' ⟨rfl, rfl, ⟨_, rfl⟩ | ⟨h0, _, _⟩⟩
  · have O5 := HO4.out.setS (.slice bo M cb)
    obtain ⟨_, ⟨v0, v1, v2⟩, v3, v4, v5, v6⟩ := O5.cells
    exact ⟨_, by simp [results, Tryz.results27, go_sem, v0, v1, v2, v3, v4, v5, v6], ao, cp, none, 0, bo, cb, rfl, HW4.out, De.owr_nil _ _ _ _, HV4.out, O5.bel⟩
  · exact absurd rfl h0
end Go.Proofs.YtngcdlodcdgcaaaGreat
