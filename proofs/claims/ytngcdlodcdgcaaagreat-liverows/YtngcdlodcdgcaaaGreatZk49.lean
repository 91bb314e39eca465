import Derived.Test.YtngcdlodcdgcaaaGreatZk40
namespace Go.Proofs.YtngcdlodcdgcaaaGreat
open Go.RowKit
set_option maxHeartbeats 4000000 in
set_option maxRecDepth 100000 in
theorem leaf_bad {k r c q : Int} (w : World) (lo : Option Addr) (n cl n' : Nat) (o v lf x : Int) (hx : x ≠ 0) (G : Nat -> List UInt8)
    (HA : Hid (∀ u, Below w.heap.size w u -> Calls Tryz.prog 39 #[.agg #[.int .i64 k, .int .i64 r, .int .i64 c, .int .i64 q, .slice lo n cl], .int .i64 o] u fun e w' => ∃ lo' A' C', e = .returned (.tuple #[.slice lo' n' n', .int .i64 x]) /\ Im.Im u.heap.size w' lo' (2 * n') A' C' G /\ Below u.heap.size u w')) (m : Nat) (R V : Nat -> Int) :
    Calls Tryz.prog 43 #[.agg #[.int .i64 k, .int .i64 r, .int .i64 c, .int .i64 q, .slice lo n cl], .agg #[.int .i64 o, .int .i64 v], .int .i64 lf] w (De.AnsR w x m R V) := by
  have hz : (x != 0) = true := by simpa using hx
  unfold De.AnsR
  rw [lenE_ne m hx]
  clear hx
  obtain ⟨w0, hw0⟩ : ∃ w0, w0 = w.alloc (.cells #[.int .i64 k, .int .i64 r, .int .i64 c, .int .i64 q, .slice lo n cl] 26) := ⟨_, rfl⟩
  obtain ⟨w1, hw1⟩ : ∃ w1, w1 = w0.alloc (.cells #[.int .i64 o, .int .i64 v] 67) := ⟨_, rfl⟩
  have b0 : Below w.heap.size w w0 := by rw [hw0]; exact below_alloc _ _
  have b1 : Below w0.heap.size w0 w1 := by rw [hw1]; exact below_alloc _ _
  go_enter Tryz.func43, Tryz.ntmps43
  go_wp2_with fail
  rw [<- hw0, <- hw1]
  refine (HA.out _ (below_then b0 b1)).mono ?_
  rintro e wa ⟨lo', A', C', rfl, _, ha⟩
  clear hw0 hw1 HA
  go_wp2_with fail
  go_ret2
  exact ⟨none, 0, rfl, De.owr_nil _ _ _ _, below_then (below_then b0 b1) ha⟩
set_option maxHeartbeats 4000000 in
set_option maxRecDepth 100000 in
theorem leaf_go {k r c q : Int} {N W : Nat} (hp : Par k r c q N W 0) (w : World) (lo : Option Addr) (n cl : Nat) (o v lf e1 : Int) (m : Nat) (hm : (if lf < ((lea W : Nat) : Int) then lf else ((lea W : Nat) : Int)) = (m : Int)) (G : Nat -> List UInt8) (D : Nat -> UInt8)
    (HA : Hid (∀ u, Below w.heap.size w u -> Calls Tryz.prog 39 #[.agg #[.int .i64 k, .int .i64 r, .int .i64 c, .int .i64 q, .slice lo n cl], .int .i64 o] u fun e w' => ∃ lo' A' C', e = .returned (.tuple #[.slice lo' N N, .int .i64 0]) /\ Im.Im u.heap.size w' lo' (2 * N) A' C' G /\ Below u.heap.size u w'))
    (HR : Hid (∀ u ro A C, Rw u ro N A (fun j => (G j).length) C (fun j t => (G j).getD t 0) -> Calls Tryz.prog 75 #[.agg #[.int .i64 k, .int .i64 r, .int .i64 c, .int .i64 q], .slice ro N N, .int .u8 1, .int .i64 v] u (AnsB u e1 W D)))
    (E : Int) (hE : erV2 e1 (De.erR 0 W q W (m : Int) D) = E) :
    Calls Tryz.prog 43 #[.agg #[.int .i64 k, .int .i64 r, .int .i64 c, .int .i64 q, .slice lo n cl], .agg #[.int .i64 o, .int .i64 v], .int .i64 lf] w (De.AnsR w E m (De.rdR D 0) (De.rdV D 0)) := by
  obtain ⟨w0, hw0⟩ : ∃ w0, w0 = w.alloc (.cells #[.int .i64 k, .int .i64 r, .int .i64 c, .int .i64 q, .slice lo n cl] 26) := ⟨_, rfl⟩
  obtain ⟨w1, hw1⟩ : ∃ w1, w1 = w0.alloc (.cells #[.int .i64 o, .int .i64 v] 67) := ⟨_, rfl⟩
  have b0 : Below w.heap.size w w0 := by rw [hw0]; exact below_alloc _ _
  have b1 : Below w0.heap.size w0 w1 := by rw [hw1]; exact below_alloc _ _
  have z0 : w0.heap.size = w.heap.size + 1 := by rw [hw0]; simp
  have HQ : Hid (∀ u, Below w1.heap.size w1 u -> (u.cell? ⟨w.heap.size, 0, none⟩ = some (.int .i64 k) /\ u.cell? ⟨w.heap.size, 1, none⟩ = some (.int .i64 r) /\ u.cell? ⟨w.heap.size, 2, none⟩ = some (.int .i64 c) /\ u.cell? ⟨w.heap.size, 3, none⟩ = some (.int .i64 q)) /\ u.cell? ⟨w.heap.size + 1, 1, none⟩ = some (.int .i64 v)) := fun u hu => ⟨⟨blk_held hw0 (below_then b1 hu) 0 rfl, blk_held hw0 (below_then b1 hu) 1 rfl, blk_held hw0 (below_then b1 hu) 2 rfl, blk_held hw0 (below_then b1 hu) 3 rfl⟩, by rw [<- z0]; exact blk_held hw1 hu 1 rfl⟩
  have HBB : Hid (Below w.heap.size w w1) := below_then b0 b1
  unfold erV2 at hE
  by_cases h1 : e1 = 0
  · subst h1
    rw [if_pos rfl] at hE
    unfold AnsB at HR
    rw [lenE_zero] at HR
    have HF := fun u bo bc (hb : Bec u bo W bc D) => De.Refs_any hp u bo W bc D hb (m : Int) E hE
    rw [Int.toNat_natCast] at HF
    have HL := fun u => Leaf_any hp u
    obtain ⟨la, hla⟩ : ∃ a : Int, a = ((lea W : Nat) : Int) := ⟨_, rfl⟩
    rw [<- hla] at hm HL
    clear hla
    unfold De.AnsR at HF ⊢
    go_enter Tryz.func43, Tryz.ntmps43
    go_wp2_with fail
    rw [<- hw0, <- hw1]
    clear hw0 hw1 z0 b0 b1
    refine (HA.out _ HBB.out).mono ?_
    rintro e wa ⟨lo', A', C', rfl, hI, ha⟩
    obtain ⟨⟨s0, s1, s2, s3⟩, s4⟩ := HQ.out wa ha
    have hrw := rw_of hI
    clear hI
    go_wp2_with fail
    refine (HR.out _ _ _ _ hrw).mono ?_
    rintro e wb ⟨bo, bc, rfl, hob, hb⟩
    have hab := below_then ha hb
    clear s0 s1 s2 s3 s4 hrw ha hb
    obtain ⟨⟨s0, s1, s2, s3⟩, _⟩ := HQ.out wb hab
    have hbec := hob.bec
    clear hob
    go_wp2_with fail
    refine (HL wb).mono ?_
    rintro e wc ⟨rfl, hc⟩
    have hac := below_then hab hc
    have hbec2 := hbec.below hc
    clear s0 s1 s2 s3 hab hc hbec
    obtain ⟨⟨s0, s1, s2, s3⟩, _⟩ := HQ.out wc hac
    go_wp2_with fail
    refine (HF wc bo bc hbec2).mono ?_
    rintro e wd ⟨ao, cp, rfl, how, hd⟩
    have HAD : Hid (Below w1.heap.size w1 wd) := below_then hac hd
    have HOW : Hid (De.OwR wc.heap.size wd ao (lenE E m) cp (De.rdR D 0) (De.rdV D 0)) := how
    have HZC : Hid (w.heap.size <= wc.heap.size) := (below_then HBB.out hac).size
    clear s0 s1 s2 s3 hac hd how hbec2 HF HL HR HA
    go_wp2_with fail
    go_ret2
    exact ⟨ao, cp, rfl, HOW.out.mono HZC.out, below_then HBB.out HAD.out⟩
  · have hz : (e1 != 0) = true := by simpa using h1
    rw [if_neg h1] at hE
    subst hE
    unfold De.AnsR
    rw [lenE_ne m h1]
    go_enter Tryz.func43, Tryz.ntmps43
    go_wp2_with fail
    rw [<- hw0, <- hw1]
    clear hw0 hw1 z0 b0 b1 h1
    refine (HA.out _ HBB.out).mono ?_
    rintro e wa ⟨lo', A', C', rfl, hI, ha⟩
    obtain ⟨⟨s0, s1, s2, s3⟩, s4⟩ := HQ.out wa ha
    have hrw := rw_of hI
    clear hI
    go_wp2_with fail
    refine (HR.out _ _ _ _ hrw).mono ?_
    rintro e wb ⟨bo, bc, rfl, _, hb⟩
    have hab := below_then ha hb
    clear s0 s1 s2 s3 s4 hrw ha hb
    go_wp2_with fail
    go_ret2
    exact ⟨none, 0, rfl, De.owr_nil _ _ _ _, below_then HBB.out hab⟩
end Go.Proofs.YtngcdlodcdgcaaaGreat
