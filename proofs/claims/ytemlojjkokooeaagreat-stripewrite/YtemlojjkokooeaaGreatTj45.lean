import Derived.Test.YtemlojjkokooeaaGreatTj44
set_option maxHeartbeats 4000000
set_option maxRecDepth 100000
namespace Go.Proofs.YtemlojjkokooeaaGreat
open Go.RowKit
theorem RAsked_any {k r c q : Int} {N W : Nat} {x : Int} (h : Par k r c q N W x) (w : World) (ro : Option Addr) (rn rc : Nat) (A : Nat -> Option Addr) (L C : Nat -> Nat) (F : Nat -> Nat -> UInt8) (hr : Rw w ro rn A L C F) (kd : UInt8) (v : Int) (E : Int) (hE : erK x N c rn L kd v = E) :
  Calls Tryz.prog 69 #[.agg #[.int .i64 k, .int .i64 r, .int .i64 c, .int .i64 q], .slice ro rn rc, .int .u8 ((kd.toNat : Nat) : Int), .int .i64 v] w fun e w' => e = .returned (.int .i64 E) /\ Below w.heap.size w w' := by
 obtain ⟨w0, hw0⟩ : ∃ w0, w0 = w.alloc (.cells #[.int .i64 k, .int .i64 r, .int .i64 c, .int .i64 q] 23) := ⟨_, rfl⟩
 have B0 : Hid (Below w.heap.size w w0) := by show Below _ _ _; rw [hw0]; exact bal _ _
 have L0 : Hid (∀ v, Below w0.heap.size w0 v -> At w v w.heap.size #[.int .i64 k, .int .i64 r, .int .i64 c, .int .i64 q] 23) := fun v hv => (at_made (Below.refl _ _) hw0).below hv
 obtain ⟨mb, hmb⟩ : ∃ mb, may k r c q = mb := ⟨_, rfl⟩
 have HM : Hid (∀ v, Calls Tryz.prog 110 #[.agg #[.int .i64 k, .int .i64 r, .int .i64 c, .int .i64 q]] v fun e w' => e = .returned (.bool mb) /\ Below v.heap.size v w') := fun v => by rw [<- hmb]; exact May_any k r c q v
 have hm2 := h.may
 rw [hmb] at hm2
 have hk1 := kd_one kd
 have hk2 := kd_two kd
 by_cases hx : x = 0
 ·subst hx
  obtain rfl : mb = true := by rw [hm2]; rfl
  obtain ⟨y, hy⟩ : ∃ y, decide (rn = N /\ ∀ j, j < 2 * rn -> L j = 0 \/ L j = sz N c) = y := ⟨_, rfl⟩
  have HRW : Hid (∀ u, Below w.heap.size w u -> Calls Tryz.prog 134 #[.agg #[.int .i64 k, .int .i64 r, .int .i64 c, .int .i64 q], .slice ro rn rc] u fun e w' => e = .returned (.bool y) /\ Below u.heap.size u w') := fun u hu => RRow_any h u ro rn rc A L C F (hr.below hu) y hy
  clear hr hmb hm2 h
  unfold erK erR at hE
  rw [if_pos rfl] at hE
  cases y
  ·rw [if_neg (of_decide_eq_false hy), if_neg (by decide)] at hE
   subst hE
   clear hy
   go_enter Tryz.func69, Tryz.ntmps69
   go_wp2_with fail
   rw [<- hw0]
   clear hw0
   refine (HM.out _).mono ?_
   rintro e wa ⟨rfl, ha⟩
   have BA : Hid (Below w0.heap.size w0 wa) := ha
   clear ha
   have pq := L0.out wa BA.out
   have s0 := pq.cell (i := 0) rfl
   have s1 := pq.cell (i := 1) rfl
   have s2 := pq.cell (i := 2) rfl
   have s3 := pq.cell (i := 3) rfl
   clear pq
   go_wp2_with fail
   refine (HRW.out _ (bth B0.out BA.out)).mono ?_
   rintro e wb ⟨rfl, hb⟩
   have BB : Hid (Below w0.heap.size w0 wb) := bth BA.out hb
   clear hb s0 s1 s2 s3
   go_wp2_with fail
   go_ret
   exact ⟨rfl, bth B0.out BB.out⟩
  ·rw [if_pos (of_decide_eq_true hy), if_pos rfl] at hE
   clear hy
   obtain ⟨vb, hvb⟩ : ∃ vb, verB v = vb := ⟨_, rfl⟩
   have HV : Hid (∀ u, Calls Tryz.prog 103 #[.int .i64 v] u fun e w' => e = .returned (.bool vb) /\ w' = u) := fun u => by rw [<- hvb]; exact Version_any v u
   have HE : Hid (((kd = 1 \/ kd = 2) -> vb = true -> E = 0) /\ ((kd = 1 \/ kd = 2) -> vb = false -> E = 2) /\ (¬ (kd = 1 \/ kd = 2) -> E = 2)) := by
    unfold verB at hvb
    refine ⟨fun a b => ?_, fun a b => ?_, fun a => ?_⟩
    ·rw [if_pos ⟨a, of_decide_eq_true (hvb.trans b)⟩] at hE; exact hE.symm
    ·rw [if_neg fun g => of_decide_eq_false (hvb.trans b) g.2] at hE; exact hE.symm
    ·rw [if_neg fun g => a g.1] at hE; exact hE.symm
   clear hE hvb
   by_cases g1 : kd = 1
   ·subst g1
    rw [show ((UInt8.toNat 1 : Nat) : Int) = 1 from rfl]
    cases vb
    ·obtain rfl : E = 2 := HE.out.2.1 (.inl rfl) rfl
     go_enter Tryz.func69, Tryz.ntmps69
     go_wp2_with fail
     rw [<- hw0]
     clear hw0
     refine (HM.out _).mono ?_
     rintro e wa ⟨rfl, ha⟩
     have BA : Hid (Below w0.heap.size w0 wa) := ha
     clear ha
     have pq := L0.out wa BA.out
     have s0 := pq.cell (i := 0) rfl
     have s1 := pq.cell (i := 1) rfl
     have s2 := pq.cell (i := 2) rfl
     have s3 := pq.cell (i := 3) rfl
     clear pq
     go_wp2_with fail
     refine (HRW.out _ (bth B0.out BA.out)).mono ?_
     rintro e wb ⟨rfl, hb⟩
     have BB : Hid (Below w0.heap.size w0 wb) := bth BA.out hb
     clear hb s0 s1 s2 s3
     go_wp2_with (go_at_call 103; refine (HV.out _).mono ?_; rintro e wc ⟨rfl, hc⟩; obtain rfl := hc)
     go_ret
     exact ⟨rfl, bth B0.out BB.out⟩
    ·obtain rfl : E = 0 := HE.out.1 (.inl rfl) rfl
     go_enter Tryz.func69, Tryz.ntmps69
     go_wp2_with fail
     rw [<- hw0]
     clear hw0
     refine (HM.out _).mono ?_
     rintro e wa ⟨rfl, ha⟩
     have BA : Hid (Below w0.heap.size w0 wa) := ha
     clear ha
     have pq := L0.out wa BA.out
     have s0 := pq.cell (i := 0) rfl
     have s1 := pq.cell (i := 1) rfl
     have s2 := pq.cell (i := 2) rfl
     have s3 := pq.cell (i := 3) rfl
     clear pq
     go_wp2_with fail
     refine (HRW.out _ (bth B0.out BA.out)).mono ?_
     rintro e wb ⟨rfl, hb⟩
     have BB : Hid (Below w0.heap.size w0 wb) := bth BA.out hb
     clear hb s0 s1 s2 s3
     go_wp2_with (go_at_call 103; refine (HV.out _).mono ?_; rintro e wc ⟨rfl, hc⟩; obtain rfl := hc)
     go_ret
     exact ⟨rfl, bth B0.out BB.out⟩
   ·by_cases g2 : kd = 2
    ·subst g2
     rw [show ((UInt8.toNat 2 : Nat) : Int) = 2 from rfl]
     cases vb
     ·obtain rfl : E = 2 := HE.out.2.1 (.inr rfl) rfl
      go_enter Tryz.func69, Tryz.ntmps69
      go_wp2_with fail
      rw [<- hw0]
      clear hw0
      refine (HM.out _).mono ?_
      rintro e wa ⟨rfl, ha⟩
      have BA : Hid (Below w0.heap.size w0 wa) := ha
      clear ha
      have pq := L0.out wa BA.out
      have s0 := pq.cell (i := 0) rfl
      have s1 := pq.cell (i := 1) rfl
      have s2 := pq.cell (i := 2) rfl
      have s3 := pq.cell (i := 3) rfl
      clear pq
      go_wp2_with fail
      refine (HRW.out _ (bth B0.out BA.out)).mono ?_
      rintro e wb ⟨rfl, hb⟩
      have BB : Hid (Below w0.heap.size w0 wb) := bth BA.out hb
      clear hb s0 s1 s2 s3
      go_wp2_with (go_at_call 103; refine (HV.out _).mono ?_; rintro e wc ⟨rfl, hc⟩; obtain rfl := hc)
      go_ret
      exact ⟨rfl, bth B0.out BB.out⟩
     ·obtain rfl : E = 0 := HE.out.1 (.inr rfl) rfl
      go_enter Tryz.func69, Tryz.ntmps69
      go_wp2_with fail
      rw [<- hw0]
      clear hw0
      refine (HM.out _).mono ?_
      rintro e wa ⟨rfl, ha⟩
      have BA : Hid (Below w0.heap.size w0 wa) := ha
      clear ha
      have pq := L0.out wa BA.out
      have s0 := pq.cell (i := 0) rfl
      have s1 := pq.cell (i := 1) rfl
      have s2 := pq.cell (i := 2) rfl
      have s3 := pq.cell (i := 3) rfl
      clear pq
      go_wp2_with fail
      refine (HRW.out _ (bth B0.out BA.out)).mono ?_
      rintro e wb ⟨rfl, hb⟩
      have BB : Hid (Below w0.heap.size w0 wb) := bth BA.out hb
      clear hb s0 s1 s2 s3
      go_wp2_with (go_at_call 103; refine (HV.out _).mono ?_; rintro e wc ⟨rfl, hc⟩; obtain rfl := hc)
      go_ret
      exact ⟨rfl, bth B0.out BB.out⟩
    ·obtain rfl : E = 2 := HE.out.2.2 fun a => a.elim g1 g2
     have hn1 : (((kd.toNat : Nat) : Int) != 1) = true := bne_iff_ne.2 fun a => g1 (hk1.1 a)
     have hn2 : (((kd.toNat : Nat) : Int) != 2) = true := bne_iff_ne.2 fun a => g2 (hk2.1 a)
     clear hk1 hk2
     go_enter Tryz.func69, Tryz.ntmps69
     go_wp2_with fail
     rw [<- hw0]
     clear hw0
     refine (HM.out _).mono ?_
     rintro e wa ⟨rfl, ha⟩
     have BA : Hid (Below w0.heap.size w0 wa) := ha
     clear ha
     have pq := L0.out wa BA.out
     have s0 := pq.cell (i := 0) rfl
     have s1 := pq.cell (i := 1) rfl
     have s2 := pq.cell (i := 2) rfl
     have s3 := pq.cell (i := 3) rfl
     clear pq
     go_wp2_with fail
     refine (HRW.out _ (bth B0.out BA.out)).mono ?_
     rintro e wb ⟨rfl, hb⟩
     have BB : Hid (Below w0.heap.size w0 wb) := bth BA.out hb
     clear hb s0 s1 s2 s3
     go_wp2_with fail
     go_ret
     exact ⟨rfl, bth B0.out BB.out⟩
 ·obtain rfl : mb = false := by rw [hm2]; exact decide_eq_false hx
  have h2 : x = 2 := by
   rcases h with ⟨_, _, _, e⟩ | ⟨_, _, _, e⟩
   ·exact absurd e hx
   ·exact e
  obtain rfl : E = 2 := by unfold erK at hE; rw [erR_two h2] at hE; exact hE.symm
  clear hr hmb hm2 h hE
  go_enter Tryz.func69, Tryz.ntmps69
  go_wp2_with fail
  rw [<- hw0]
  clear hw0
  refine (HM.out _).mono ?_
  rintro e wa ⟨rfl, ha⟩
  have BA : Hid (Below w0.heap.size w0 wa) := ha
  clear ha
  go_wp2_with fail
  go_ret
  exact ⟨rfl, bth B0.out BA.out⟩
theorem W_any (k r c q : Int) (w : World) :
  Calls Tryz.prog 85 #[.agg #[.int .i64 k, .int .i64 r, .int .i64 c, .int .i64 q]] w fun e w' => e = .returned (.int .i64 (wrap64 (k * c))) /\ Below w.heap.size w w' := by
 go_enter Tryz.func85, Tryz.ntmps85
 go_wp2
 go_ret
 exact ⟨rfl, bal _ _⟩
theorem RWritten_any {k r c q : Int} {N W : Nat} {x : Int} (h : Par k r c q N W x) (w : World) (ro : Option Addr) (rn rc : Nat) (A : Nat -> Option Addr) (L C : Nat -> Nat) (F : Nat -> Nat -> UInt8) (hr : Rw w ro rn A L C F) (nu : Int) (kd : UInt8) (ke v : Int) (E : Int) (hE : erW (erK x N c rn L kd v) q nu ke = E) :
  Calls Tryz.prog 84 #[.agg #[.int .i64 k, .int .i64 r, .int .i64 c, .int .i64 q], .slice ro rn rc, .int .i64 nu, .int .u8 ((kd.toNat : Nat) : Int), .int .i64 ke, .int .i64 v] w fun e w' => e = .returned (.int .i64 E) /\ Below w.heap.size w w' := by
 obtain ⟨D, hD⟩ : ∃ D, erK x N c rn L kd v = D := ⟨_, rfl⟩
 have HA : Hid (∀ u, Below w.heap.size w u -> Calls Tryz.prog 69 #[.agg #[.int .i64 k, .int .i64 r, .int .i64 c, .int .i64 q], .slice ro rn rc, .int .u8 ((kd.toNat : Nat) : Int), .int .i64 v] u fun e w' => e = .returned (.int .i64 D) /\ Below u.heap.size u w') := fun u hu => RAsked_any h u ro rn rc A L C F (hr.below hu) kd v D hD
 obtain ⟨w0, hw0⟩ : ∃ w0, w0 = w.alloc (.cells #[.int .i64 k, .int .i64 r, .int .i64 c, .int .i64 q] 23) := ⟨_, rfl⟩
 have B0 : Hid (Below w.heap.size w w0) := by show Below _ _ _; rw [hw0]; exact bal _ _
 have L0 : Hid (∀ v, Below w0.heap.size w0 v -> At w v w.heap.size #[.int .i64 k, .int .i64 r, .int .i64 c, .int .i64 q] 23) := fun v hv => (at_made (Below.refl _ _) hw0).below hv
 rw [hD] at hE
 unfold erW at hE
 clear h hr hD
 by_cases he : D = 0
 ·subst he
  rw [if_pos rfl] at hE
  by_cases h1 : nu < 0
  ·rw [if_neg (by omega)] at hE
   subst hE
   go_enter Tryz.func84, Tryz.ntmps84
   go_wp2_with fail
   rw [<- hw0]
   clear hw0
   refine (HA.out _ B0.out).mono ?_
   rintro e wa ⟨rfl, ha⟩
   have BA : Hid (Below w0.heap.size w0 wa) := ha
   clear ha
   have pq := L0.out wa BA.out
   have s0 := pq.cell (i := 0) rfl
   have s1 := pq.cell (i := 1) rfl
   have s2 := pq.cell (i := 2) rfl
   have s3 := pq.cell (i := 3) rfl
   clear pq
   go_wp2_with fail
   go_ret
   exact ⟨rfl, bth B0.out BA.out⟩
  ·by_cases h2 : q <= nu
   ·rw [if_neg (by omega)] at hE
    subst hE
    go_enter Tryz.func84, Tryz.ntmps84
    go_wp2_with fail
    rw [<- hw0]
    clear hw0
    refine (HA.out _ B0.out).mono ?_
    rintro e wa ⟨rfl, ha⟩
    have BA : Hid (Below w0.heap.size w0 wa) := ha
    clear ha
    have pq := L0.out wa BA.out
    have s0 := pq.cell (i := 0) rfl
    have s1 := pq.cell (i := 1) rfl
    have s2 := pq.cell (i := 2) rfl
    have s3 := pq.cell (i := 3) rfl
    clear pq
    go_wp2_with fail
    go_ret
    exact ⟨rfl, bth B0.out BA.out⟩
   ·by_cases h3 : ke = 0
    ·rw [if_pos (by omega)] at hE
     subst hE
     subst h3
     go_enter Tryz.func84, Tryz.ntmps84
     go_wp2_with fail
     rw [<- hw0]
     clear hw0
     refine (HA.out _ B0.out).mono ?_
     rintro e wa ⟨rfl, ha⟩
     have BA : Hid (Below w0.heap.size w0 wa) := ha
     clear ha
     have pq := L0.out wa BA.out
     have s0 := pq.cell (i := 0) rfl
     have s1 := pq.cell (i := 1) rfl
     have s2 := pq.cell (i := 2) rfl
     have s3 := pq.cell (i := 3) rfl
     clear pq
     go_wp2_with fail
     go_ret
     exact ⟨rfl, bth B0.out BA.out⟩
    ·obtain ⟨vb, hvb⟩ : ∃ vb, verB ke = vb := ⟨_, rfl⟩
     have HV : Hid (∀ u, Calls Tryz.prog 103 #[.int .i64 ke] u fun e w' => e = .returned (.bool vb) /\ w' = u) := fun u => by rw [<- hvb]; exact Version_any ke u
     have j3 : (ke != 0) = true := by simp [h3]
     unfold verB at hvb
     cases vb
     ·have := of_decide_eq_false hvb
      rw [if_neg (by omega)] at hE
      subst hE
      clear hvb this
      go_enter Tryz.func84, Tryz.ntmps84
      go_wp2_with fail
      rw [<- hw0]
      clear hw0
      refine (HA.out _ B0.out).mono ?_
      rintro e wa ⟨rfl, ha⟩
      have BA : Hid (Below w0.heap.size w0 wa) := ha
      clear ha
      have pq := L0.out wa BA.out
      have s0 := pq.cell (i := 0) rfl
      have s1 := pq.cell (i := 1) rfl
      have s2 := pq.cell (i := 2) rfl
      have s3 := pq.cell (i := 3) rfl
      clear pq
      go_wp2_with fail
      refine (HV.out _).mono ?_
      rintro e wv ⟨rfl, rfl⟩
      go_wp2_with fail
      go_ret
      exact ⟨rfl, bth B0.out BA.out⟩
     ·have := of_decide_eq_true hvb
      rw [if_pos (by omega)] at hE
      subst hE
      clear hvb this
      go_enter Tryz.func84, Tryz.ntmps84
      go_wp2_with fail
      rw [<- hw0]
      clear hw0
      refine (HA.out _ B0.out).mono ?_
      rintro e wa ⟨rfl, ha⟩
      have BA : Hid (Below w0.heap.size w0 wa) := ha
      clear ha
      have pq := L0.out wa BA.out
      have s0 := pq.cell (i := 0) rfl
      have s1 := pq.cell (i := 1) rfl
      have s2 := pq.cell (i := 2) rfl
      have s3 := pq.cell (i := 3) rfl
      clear pq
      go_wp2_with fail
      refine (HV.out _).mono ?_
      rintro e wv ⟨rfl, rfl⟩
      go_wp2_with fail
      go_ret
      exact ⟨rfl, bth B0.out BA.out⟩
 ·rw [if_neg he] at hE
  subst hE
  have e1 : (D == 0) = false := by simp [he]
  go_enter Tryz.func84, Tryz.ntmps84
  go_wp2_with fail
  rw [<- hw0]
  clear hw0
  refine (HA.out _ B0.out).mono ?_
  rintro e wa ⟨rfl, ha⟩
  have BA : Hid (Below w0.heap.size w0 wa) := ha
  clear ha
  have pq := L0.out wa BA.out
  have s0 := pq.cell (i := 0) rfl
  have s1 := pq.cell (i := 1) rfl
  have s2 := pq.cell (i := 2) rfl
  have s3 := pq.cell (i := 3) rfl
  clear pq
  go_wp2_with fail
  go_ret
  exact ⟨rfl, bth B0.out BA.out⟩
theorem erW_z2 {E q nu ke : Int} (h : erW E q nu ke = 0) : E = 0 /\ 0 <= ke := by
 unfold erW at h
 by_cases he : E = 0
 ·rw [if_pos he] at h
  refine ⟨he, ?_⟩
  by_cases g : (0 <= nu /\ nu <= q - 1) /\ 0 <= ke /\ ke <= 1073741824
  ·exact g.2.1
  ·rw [if_neg g] at h; exact absurd h (by decide)
 ·rw [if_neg he] at h; exact absurd h he
theorem told_none {N : Nat} {c : Int} {L : Nat -> Nat} {F : Nat -> Nat -> UInt8} {kd : UInt8} (hk : kd = 1 \/ kd = 2) {ke : Int} (h : ke <= 0) : (tS (yy N c L F) kd ke (2 * N)).vn = 0 := by
 rcases tS_is (v := ke) hk (yy_ok N c L F) (2 * N) (Nat.le_refl _) with ⟨a, _⟩ | ⟨j, hj, a2, a3, a4, _⟩
 ·rw [a]; rfl
 ·exfalso
  have h1 := (of_decide_eq_true a3).2
  have o := ok_of a4.1
  have h2 := o.le
  have h3 := o.ce
  have h4 := o.V _ (show (yy N c L F j).ix.toNat < N by have := o.ix; omega)
  omega
theorem RFull_any {k r c q : Int} {N W : Nat} {x : Int} (h : Par k r c q N W x) (w : World) (ro : Option Addr) (rn rc : Nat) (A : Nat -> Option Addr) (L C : Nat -> Nat) (F : Nat -> Nat -> UInt8) (hr : Rw w ro rn A L C F) (nu : Int) (kd : UInt8) (ke v : Int) (dob : Option Addr) (dn dc : Nat) (D : Nat -> UInt8) (hD : Bec w dob dn dc D) (E : Int) (hE : erD (erW (erK x N c rn L kd v) q nu ke) dn W = E) :
  Calls Tryz.prog 23 #[.agg #[.int .i64 k, .int .i64 r, .int .i64 c, .int .i64 q], .slice ro rn rc, .int .i64 nu, .int .u8 ((kd.toNat : Nat) : Int), .int .i64 ke, .int .i64 v, .slice dob dn dc] w (AnsL w E N N (fun _ => c.toNat) (osl N c L F kd ke) nu (sz N c) (fun i => enc (slC kd N (fun _ => v) c.toNat (dH k.toNat c.toNat D i) i))) := by
 obtain ⟨G, hG⟩ : ∃ G, erW (erK x N c rn L kd v) q nu ke = G := ⟨_, rfl⟩
 have HA : Hid (∀ u, Below w.heap.size w u -> Calls Tryz.prog 84 #[.agg #[.int .i64 k, .int .i64 r, .int .i64 c, .int .i64 q], .slice ro rn rc, .int .i64 nu, .int .u8 ((kd.toNat : Nat) : Int), .int .i64 ke, .int .i64 v] u fun e w' => e = .returned (.int .i64 G) /\ Below u.heap.size u w') := fun u hu => RWritten_any h u ro rn rc A L C F (hr.below hu) nu kd ke v G hG
 obtain ⟨w0, hw0⟩ : ∃ w0, w0 = w.alloc (.cells #[.int .i64 k, .int .i64 r, .int .i64 c, .int .i64 q] 23) := ⟨_, rfl⟩
 have B0 : Hid (Below w.heap.size w w0) := by show Below _ _ _; rw [hw0]; exact bal _ _
 have L0 : Hid (∀ v, Below w0.heap.size w0 v -> At w v w.heap.size #[.int .i64 k, .int .i64 r, .int .i64 c, .int .i64 q] 23) := fun v hv => (at_made (Below.refl _ _) hw0).below hv
 rw [hG] at hE
 unfold erD at hE
 unfold AnsL
 by_cases he : G = 0
 ·subst he
  rw [if_pos rfl] at hE
  obtain ⟨hK, hke⟩ := erW_z2 hG
  obtain ⟨hR, hk, hv⟩ := erK_zero hK
  obtain ⟨rfl, rfl, hL⟩ := erR_zero hR
  have HW : Hid (∀ u, Calls Tryz.prog 85 #[.agg #[.int .i64 k, .int .i64 r, .int .i64 c, .int .i64 q]] u fun e w' => e = .returned (.int .i64 (W : Int)) /\ Below u.heap.size u w') := fun u => by
   have hm : wrap64 (k * c) = (W : Int) := by
    rcases h with ⟨h0, h1, _⟩ | ⟨_, _, _, h0⟩
    ·obtain ⟨m1, m2, m3, m4, m5, m6, m7, m8, m9⟩ := may_true h0
     rw [h1]; exact wrap_wide m1 m2 m5 m6
    ·exact absurd h0 (by decide)
   have := W_any k r c q u
   rw [hm] at this
   exact this
  by_cases hw : dn = W
  ·rw [if_pos hw] at hE
   subst hE
   subst hw
   have HP : Hid (∀ u, Below w.heap.size w u -> Calls Tryz.prog 86 #[.agg #[.int .i64 k, .int .i64 r, .int .i64 c, .int .i64 q], .slice ro rn rc, .int .i64 nu, .int .u8 ((kd.toNat : Nat) : Int), .int .i64 ke, .int .i64 v, .slice dob dn dc] u (AnsPu u rn c.toNat (osl rn c L F kd ke) nu (sz rn c) (fun i => enc (slC kd rn (fun _ => v) c.toNat (dH k.toNat c.toNat D i) i)))) := fun u hu => RPuts_any h u ro rc A L C F (hr.below hu) hL nu kd hk ke v hv (fun g => told_none hk g) dob dc D (hD.below hu)
   clear h hr hG hK hR hk hL hD hv
   generalize osl rn c L F kd ke = OS at *
   generalize (fun i => enc (slC kd rn (fun _ => v) c.toNat (dH k.toNat c.toNat D i) i)) = EN at *
   unfold AnsPu at HP
   go_enter Tryz.func23, Tryz.ntmps23
   go_wp2_with fail
   rw [<- hw0]
   clear hw0
   refine (HA.out _ B0.out).mono ?_
   rintro e wa ⟨rfl, ha⟩
   have BA : Hid (Below w0.heap.size w0 wa) := ha
   clear ha
   have pq := L0.out wa BA.out
   have s0 := pq.cell (i := 0) rfl
   have s1 := pq.cell (i := 1) rfl
   have s2 := pq.cell (i := 2) rfl
   have s3 := pq.cell (i := 3) rfl
   clear pq
   go_wp2_with fail
   refine (HW.out _).mono ?_
   rintro e wv ⟨rfl, hv⟩
   have BV : Hid (Below w0.heap.size w0 wv) := bth BA.out hv
   have pq := L0.out wv BV.out
   have s0 := pq.cell (i := 0) rfl
   have s1 := pq.cell (i := 1) rfl
   have s2 := pq.cell (i := 2) rfl
   have s3 := pq.cell (i := 3) rfl
   clear pq hv
   go_wp2_with fail
   refine (HP.out _ (bth B0.out BV.out)).mono ?_
   rintro e wf ⟨ao, cap, T, U, rfl, hp, hb⟩
   have HPL : Hid (PL wv.heap.size wf ao rn cap rn (fun _ => c.toNat) OS nu (sz rn c) T U EN) := hp
   have BW : Hid (Below w.heap.size w wv) := bth B0.out BV.out
   clear hp
   go_wp2_with fail
   go_ret2
   exact ⟨ao, cap, T, U, rfl, fun _ => ⟨owns_mono HPL.out.out BW.out.size, fun i hi hn => (HPL.out.row i hi hn).mono BW.out.size⟩, bth BW.out hb⟩
  ·rw [if_neg hw] at hE
   subst hE
   have j1 : ((dn : Int) != (W : Int)) = true := by
    have : ¬ (dn : Int) = (W : Int) := by omega
    simp [this]
   rw [show lenE 20 rn = 0 from rfl]
   clear h hr hG hK hR hk hL hD hv
   go_enter Tryz.func23, Tryz.ntmps23
   go_wp2_with fail
   rw [<- hw0]
   clear hw0
   refine (HA.out _ B0.out).mono ?_
   rintro e wa ⟨rfl, ha⟩
   have BA : Hid (Below w0.heap.size w0 wa) := ha
   clear ha
   have pq := L0.out wa BA.out
   have s0 := pq.cell (i := 0) rfl
   have s1 := pq.cell (i := 1) rfl
   have s2 := pq.cell (i := 2) rfl
   have s3 := pq.cell (i := 3) rfl
   clear pq
   go_wp2_with fail
   refine (HW.out _).mono ?_
   rintro e wv ⟨rfl, hv⟩
   go_wp2_with fail
   go_ret2
   exact ⟨none, 0, fun _ => none, fun _ => 0, rfl, fun g => absurd g (by decide), bth B0.out (bth BA.out hv)⟩
 ·rw [if_neg he] at hE
  subst hE
  have e1 : (G != 0) = true := by simp [he]
  rw [show lenE G N = 0 from if_neg he]
  clear h hr hG hD
  go_enter Tryz.func23, Tryz.ntmps23
  go_wp2_with fail
  rw [<- hw0]
  clear hw0
  refine (HA.out _ B0.out).mono ?_
  rintro e wa ⟨rfl, ha⟩
  have BA : Hid (Below w0.heap.size w0 wa) := ha
  clear ha
  have pq := L0.out wa BA.out
  have s0 := pq.cell (i := 0) rfl
  have s1 := pq.cell (i := 1) rfl
  have s2 := pq.cell (i := 2) rfl
  have s3 := pq.cell (i := 3) rfl
  clear pq
  go_wp2_with fail
  go_ret2
  exact ⟨none, 0, fun _ => none, fun _ => 0, rfl, fun g => absurd g he, bth B0.out BA.out⟩
theorem RMend_any {k r c q : Int} {N W : Nat} {x : Int} (h : Par k r c q N W x) (w : World) (ro : Option Addr) (rn rc : Nat) (A : Nat -> Option Addr) (L C : Nat -> Nat) (F : Nat -> Nat -> UInt8) (hr : Rw w ro rn A L C F) (nu : Int) (kd : UInt8) (ke v : Int) (E : Int) (hE : erV2 (erW (erK x N c rn L kd v) q nu ke) (erL k.toNat (zv N c L F kd v) N) = E) :
  Calls Tryz.prog 25 #[.agg #[.int .i64 k, .int .i64 r, .int .i64 c, .int .i64 q], .slice ro rn rc, .int .i64 nu, .int .u8 ((kd.toNat : Nat) : Int), .int .i64 ke, .int .i64 v] w (AnsL w E (Cod.cnt (mis (zv N c L F kd v) c.toNat) N) N (mis (zv N c L F kd v) c.toNat) (osl N c L F kd ke) nu (sz N c) (fun i => enc (slC kd N (tS (yy N c L F) kd v (2 * N)).V c.toNat (cH k.toNat (zv N c L F kd v) N i) i))) := by
 obtain ⟨G, hG⟩ : ∃ G, erW (erK x N c rn L kd v) q nu ke = G := ⟨_, rfl⟩
 have HA : Hid (∀ u, Below w.heap.size w u -> Calls Tryz.prog 84 #[.agg #[.int .i64 k, .int .i64 r, .int .i64 c, .int .i64 q], .slice ro rn rc, .int .i64 nu, .int .u8 ((kd.toNat : Nat) : Int), .int .i64 ke, .int .i64 v] u fun e w' => e = .returned (.int .i64 G) /\ Below u.heap.size u w') := fun u hu => RWritten_any h u ro rn rc A L C F (hr.below hu) nu kd ke v G hG
 obtain ⟨w0, hw0⟩ : ∃ w0, w0 = w.alloc (.cells #[.int .i64 k, .int .i64 r, .int .i64 c, .int .i64 q] 23) := ⟨_, rfl⟩
 have B0 : Hid (Below w.heap.size w w0) := by show Below _ _ _; rw [hw0]; exact bal _ _
 have L0 : Hid (∀ v, Below w0.heap.size w0 v -> At w v w.heap.size #[.int .i64 k, .int .i64 r, .int .i64 c, .int .i64 q] 23) := fun v hv => (at_made (Below.refl _ _) hw0).below hv
 rw [hG] at hE
 unfold erV2 at hE
 by_cases he : G = 0
 ·subst he
  rw [if_pos rfl] at hE
  obtain ⟨hK, hke⟩ := erW_z2 hG
  obtain ⟨hR, hk, hv⟩ := erK_zero hK
  obtain ⟨rfl, rfl, hL⟩ := erR_zero hR
  obtain ⟨CN, hCN⟩ : ∃ y, y = Cod.cnt (mis (zv rn c L F kd v) c.toNat) rn := ⟨_, rfl⟩
  obtain ⟨MI, hMI⟩ : ∃ y, y = mis (zv rn c L F kd v) c.toNat := ⟨_, rfl⟩
  obtain ⟨OS, hOS⟩ : ∃ y, y = osl rn c L F kd ke := ⟨_, rfl⟩
  obtain ⟨EN, hEN⟩ : ∃ y : Nat -> Nat -> UInt8, y = (fun i => enc (slC kd rn (tS (yy rn c L F) kd v (2 * rn)).V c.toNat (cH k.toNat (zv rn c L F kd v) rn i) i)) := ⟨_, rfl⟩
  have HP : Hid (∀ u, Below w.heap.size w u -> Calls Tryz.prog 88 #[.agg #[.int .i64 k, .int .i64 r, .int .i64 c, .int .i64 q], .slice ro rn rc, .int .i64 nu, .int .u8 ((kd.toNat : Nat) : Int), .int .i64 ke, .int .i64 v] u (AnsL u E CN rn MI OS nu (sz rn c) EN)) := fun u hu => by
   rw [hCN, hMI, hOS, hEN]
   exact RMended_any h u ro rc A L C F (hr.below hu) hL nu kd hk ke v (fun g => told_none hk g) E hE
  rw [<- hCN, <- hMI, <- hOS, <- hEN]
  clear h hr hG hK hR hk hL hv hCN hMI hOS hEN hE
  unfold AnsL at HP ⊢
  go_enter Tryz.func25, Tryz.ntmps25
  go_wp2_with fail
  rw [<- hw0]
  clear hw0
  refine (HA.out _ B0.out).mono ?_
  rintro e wa ⟨rfl, ha⟩
  have BA : Hid (Below w0.heap.size w0 wa) := ha
  clear ha
  have pq := L0.out wa BA.out
  have s0 := pq.cell (i := 0) rfl
  have s1 := pq.cell (i := 1) rfl
  have s2 := pq.cell (i := 2) rfl
  have s3 := pq.cell (i := 3) rfl
  clear pq
  go_wp2_with fail
  refine (HP.out _ (bth B0.out BA.out)).mono ?_
  rintro e wf ⟨ao, cap, T, U, rfl, hp, hb⟩
  have HPL : Hid (E = 0 -> PL wa.heap.size wf ao CN cap rn MI OS nu (sz rn c) T U EN) := hp
  have BW : Hid (Below w.heap.size w wa) := bth B0.out BA.out
  clear hp
  go_wp2_with fail
  go_ret2
  exact ⟨ao, cap, T, U, rfl, fun g => ⟨owns_mono (HPL.out g).out BW.out.size, fun i hi hn => ((HPL.out g).row i hi hn).mono BW.out.size⟩, bth BW.out hb⟩
 ·rw [if_neg he] at hE
  subst hE
  have e1 : (G != 0) = true := by simp [he]
  generalize Cod.cnt (mis (zv N c L F kd v) c.toNat) N = CN at *
  generalize mis (zv N c L F kd v) c.toNat = MI at *
  unfold AnsL
  rw [show lenE G CN = 0 from if_neg he]
  clear h hr hG
  go_enter Tryz.func25, Tryz.ntmps25
  go_wp2_with fail
  rw [<- hw0]
  clear hw0
  refine (HA.out _ B0.out).mono ?_
  rintro e wa ⟨rfl, ha⟩
  have BA : Hid (Below w0.heap.size w0 wa) := ha
  clear ha
  have pq := L0.out wa BA.out
  have s0 := pq.cell (i := 0) rfl
  have s1 := pq.cell (i := 1) rfl
  have s2 := pq.cell (i := 2) rfl
  have s3 := pq.cell (i := 3) rfl
  clear pq
  go_wp2_with fail
  go_ret2
  exact ⟨none, 0, fun _ => none, fun _ => 0, rfl, fun g => absurd g he, bth B0.out BA.out⟩
end Go.Proofs.YtemlojjkokooeaaGreat
