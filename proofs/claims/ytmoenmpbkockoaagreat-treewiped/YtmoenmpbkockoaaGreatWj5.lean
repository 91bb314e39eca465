import Derived.Laws.MakeOwn
import Derived.Test.YtmoenmpbkockoaaGreatWj4
namespace Go.Proofs.YtmoenmpbkockoaaGreat.Im
open Go.RowKit
def upto (i : Nat) (F : Nat -> List UInt8) (j : Nat) : List UInt8 := if j < i then F j else []
theorem upto_zero (F : Nat -> List UInt8) : upto 0 F = fun _ => [] := by funext j; exact if_neg (Nat.not_lt_zero j)
theorem upto_all {n : Nat} (F : Nat -> List UInt8) (j : Nat) (h : j < n) : upto n F j = F j := if_pos h
theorem upto_succ (i : Nat) (F : Nat -> List UInt8) (j : Nat) : upd i (F i) (upto i F) j = upto (i + 1) F j := by
  unfold upd upto
  by_cases e : j = i
  · subst e; rw [if_pos rfl, if_pos (by omega)]
  · rw [if_neg e]
    by_cases h : j < i
    · rw [if_pos h, if_pos (by omega)]
    · rw [if_neg h, if_neg (by omega)]
theorem rsl_blank {Y : Nat -> Prop} {w : World} {l n : Nat} {t : TypeId} (h : w.rowIs l t n (fun _ => .slice none 0 0)) (hY : Y l) (F : Nat -> List UInt8) : RSl w Y l n (fun _ => none) (fun _ => 0) (upto 0 F) := by
  rw [upto_zero]
  exact ⟨fun i hi => h.cell hi, fun i _ => h.frozen i, fun i _ => rdb_nil _ _, (fun i a _ e => by cases e), fun _ _ _ => ⟨rfl, rfl⟩, hY⟩
end Go.Proofs.YtmoenmpbkockoaaGreat.Im
namespace Go.Proofs.YtmoenmpbkockoaaGreat.Im
open Go.RowKit
def Im (B : Nat) (w : World) (lo : Option Addr) (n : Nat) (A : Nat -> Option Addr) (C : Nat -> Nat) (F : Nat -> List UInt8) : Prop :=
  (n = 0 /\ lo = none) \/ ∃ l, lo = some ⟨l, 0, none⟩ /\ RSl w (fun b => B <= b) l n A C F /\ ∀ i, i < n -> OwC B w (A i) (C i) (F i)
theorem lst_none (w : World) (lo : Option Addr) (A : Nat -> Option Addr) (C : Nat -> Nat) (F : Nat -> List UInt8) : Lst w lo 0 A C F := ⟨fun h => absurd h (Nat.lt_irrefl 0), fun i hi => absurd hi (Nat.not_lt_zero i), fun i hi => absurd hi (Nat.not_lt_zero i)⟩
def ImR (B : Nat) (w : World) (l n : Nat) (A : Nat -> Option Addr) (C : Nat -> Nat) (F : Nat -> List UInt8) : Prop := RSl w (fun b => B <= b) l n A C F /\ ∀ i, i < n -> OwC B w (A i) (C i) (F i)
theorem ImR.only {B : Nat} {X : Nat -> Prop} {w w' : World} {l n : Nat} {A : Nat -> Option Addr} {C : Nat -> Nat} {F : Nat -> List UInt8} (h : ImR B w l n A C F) (ho : Only X w w') (hx : ∀ b, B <= b -> ¬ X b) : ImR B w' l n A C F :=
  ⟨h.1.only ho hx, fun i hi => (h.2 i hi).stay fun g hg hl => ho.block g hl (hx g hg)⟩
theorem ImR.below {B : Nat} {w w' : World} {l n : Nat} {A : Nat -> Option Addr} {C : Nat -> Nat} {F : Nat -> List UInt8} (h : ImR B w l n A C F) (hb : Below w.heap.size w w') : ImR B w' l n A C F := h.only (X := fun _ => False) (.of_below hb) (fun _ _ h => h)
theorem ImR.mono {B B' : Nat} {w : World} {l n : Nat} {A : Nat -> Option Addr} {C : Nat -> Nat} {F : Nat -> List UInt8} (h : ImR B w l n A C F) (hb : B' <= B) : ImR B' w l n A C F := ⟨h.1.mono fun _ h => Nat.le_trans hb h, fun i hi => (h.2 i hi).mono hb⟩
theorem OwC.set {B : Nat} {w : World} {ao : Option Addr} {cp : Nat} {c : List UInt8} (h : OwC B w ao cp c) {l : Nat} (hl : ∀ a, ao = some a -> a.block ≠ l) (i : Nat) (u : Value) : OwC B (w.setCell ⟨l, i, none⟩ u) ao cp c := by
  rcases h with h | ⟨g, rfl, hB, h1, h2, hg⟩
  · exact .inl h
  · exact .inr ⟨g, rfl, hB, h1, h2, (Below.heap_setCell _ _ _ _ (hl ⟨g, 0, none⟩ rfl)).trans hg⟩
theorem ImR.put {B : Nat} {w : World} {l n : Nat} {A : Nat -> Option Addr} {C : Nat -> Nat} {F : Nat -> List UInt8} (h : ImR B w l n A C F) (i : Nat) {ao : Option Addr} {cp : Nat} {x : List UInt8} (ho : OwC B w ao cp x) (hl : ∀ a, ao = some a -> a.block ≠ l) :
    ImR B (w.setCell ⟨l, i, none⟩ (.slice ao x.length cp)) l n (upd i ao A) (upd i cp C) (upd i x F) := by
  refine ⟨h.1.put i ao cp x ho.rd (fun a ha => ⟨(ho.at_ ha).1, hl a ha⟩) ho.nil, fun j hj => ?_⟩
  by_cases e : j = i
  · subst e; rw [upd_at, upd_at, upd_at]; exact ho.set hl _ _
  · rw [upd_ne _ _ e, upd_ne _ _ e, upd_ne _ _ e]; exact (h.2 j hj).set (fun a ha => (h.1.at_ j a hj ha).2) _ _
theorem Im.only {B : Nat} {X : Nat -> Prop} {w w' : World} {lo : Option Addr} {n : Nat} {A : Nat -> Option Addr} {C : Nat -> Nat} {F : Nat -> List UInt8} (h : Im B w lo n A C F) (ho : Only X w w') (hx : ∀ b, B <= b -> ¬ X b) : Im B w' lo n A C F := by
  rcases h with h | ⟨l, e, h1, h2⟩
  · exact .inl h
  · have h3 := (show ImR B w l n A C F from ⟨h1, h2⟩).only ho hx
    exact .inr ⟨l, e, h3.1, h3.2⟩
end Go.Proofs.YtmoenmpbkockoaaGreat.Im
namespace Go.Proofs.YtmoenmpbkockoaaGreat.Im
open Go.RowKit
theorem ImR.congr {B : Nat} {w : World} {l n : Nat} {A : Nat -> Option Addr} {C : Nat -> Nat} {F G : Nat -> List UInt8} (h : ImR B w l n A C F) (e : ∀ i, i < n -> F i = G i) : ImR B w l n A C G :=
  ⟨h.1.congr e, fun i hi => by rw [<- e i hi]; exact h.2 i hi⟩
section
variable {k r c q : Int} {n : Nat} {F : Nat -> List UInt8} {N Q S : Nat}
end
end Go.Proofs.YtmoenmpbkockoaaGreat.Im
namespace Go.Proofs.YtmoenmpbkockoaaGreat.Im
open Go.RowKit
theorem info59 : (Tryz.prog.info? 98).map (fun i => (i.zero, i.size, i.bytes)) = some (some (.agg #[.slice none 0 0, .slice none 0 0]), 2, 48) := by kernel_rfl
end Go.Proofs.YtmoenmpbkockoaaGreat.Im
namespace Go.Proofs.YtmoenmpbkockoaaGreat.Im
open Go.RowKit
set_option maxHeartbeats 1000000 in
set_option maxRecDepth 100000 in
theorem cell_any (k r c q : Int) (N Q S : Nat) (b off n cl : Nat) (d o : Nat) (hN : N <= 16) (hQ : Q <= 256) (hd : d < N) (ho : o < Q) (hn : n = N * Q * 2) (hcl : n <= cl) (w : World) :
    Calls Tryz.prog 70 #[.agg #[.int .i64 (N : Int), .int .i64 (Q : Int), .int .i64 (S : Int)], .agg #[.int .i64 k, .int .i64 r, .int .i64 c, .int .i64 q, .slice (some ⟨b, off, none⟩) n cl], .int .i64 (d : Int), .int .i64 (o : Int)] w fun e w' => e = .returned (.slice (some ⟨b, off + (d * Q + o) * 2, none⟩) 2 2) /\ Below w.heap.size w w' := by
  have hlt : (d * Q + o) * 2 + 2 <= n := by
    have a3 : (d + 1) * Q <= N * Q := Nat.mul_le_mul_right Q hd
    rw [Nat.add_mul, Nat.one_mul] at a3
    rw [hn]; omega
  have HAT : Hid (∀ v, Calls Tryz.prog 74 #[.agg #[.int .i64 (N : Int), .int .i64 (Q : Int), .int .i64 (S : Int)], .int .i64 (d : Int), .int .i64 (o : Int), .int .i64 0] v fun e w' => e = .returned (.int .i64 (((d * Q + o) * 2 : Nat) : Int)) /\ Below v.heap.size v w') := fun v => by
    have h := at_any N Q S hQ (d : Int) (o : Int) 0 (by omega) (by omega) (by omega) (by omega) (by decide) (by decide) v
    rwa [show plc Q (d : Int) (o : Int) 0 = (d * Q + o) * 2 by unfold plc; simp] at h
  have HAT2 : Hid (∀ v, Calls Tryz.prog 74 #[.agg #[.int .i64 (N : Int), .int .i64 (Q : Int), .int .i64 (S : Int)], .int .i64 (d : Int), .int .i64 (o : Int), .int .i64 2] v fun e w' => e = .returned (.int .i64 (((d * Q + o) * 2 + 2 : Nat) : Int)) /\ Below v.heap.size v w') := fun v => by
    have h := at_any N Q S hQ (d : Int) (o : Int) 2 (by omega) (by omega) (by omega) (by omega) (by decide) (by decide) v
    rwa [show plc Q (d : Int) (o : Int) 2 = (d * Q + o) * 2 + 2 by unfold plc; simp] at h
  obtain ⟨f, hf⟩ : ∃ f, f = (d * Q + o) * 2 := ⟨_, rfl⟩
  rw [<- hf] at HAT HAT2 hlt ⊢
  obtain ⟨en, hen⟩ : ∃ en, en = f + 2 := ⟨_, rfl⟩
  rw [<- hen] at HAT2 hlt
  have HEN : Hid (en = f + 2) := hen
  have i0 : (0 : Int) <= (f : Int) := by omega
  have i1 : (f : Int) <= (en : Int) := by omega
  have i2 : (en : Int) <= (n : Int) := by omega
  have i3 : (0 : Int) <= (en : Int) := by omega
  have i4 : ¬ en = f := by omega
  have i5 : (en : Int) <= (cl : Int) := by omega
  clear hf hen hn hd ho
  obtain ⟨w0, hw0⟩ : ∃ w0, w0 = w.alloc (.cells #[.int .i64 (N : Int), .int .i64 (Q : Int), .int .i64 (S : Int)] 124) := ⟨_, rfl⟩
  obtain ⟨w1, hw1⟩ : ∃ w1, w1 = w0.alloc (.cells #[.int .i64 k, .int .i64 r, .int .i64 c, .int .i64 q, .slice (some ⟨b, off, none⟩) n cl] 51) := ⟨_, rfl⟩
  have b0 : Below w.heap.size w w0 := by rw [hw0]; exact below_alloc _ _
  have b1 : Below w0.heap.size w0 w1 := by rw [hw1]; exact below_alloc _ _
  have z0 : w0.heap.size = w.heap.size + 1 := by rw [hw0]; simp
  have HB1 : Hid (Below w.heap.size w w1) := below_then b0 b1
  have CH : Hid (∀ v, Below w1.heap.size w1 v -> v.cell? ⟨w.heap.size, 0, none⟩ = some (.int .i64 (N : Int)) /\ v.cell? ⟨w.heap.size, 1, none⟩ = some (.int .i64 (Q : Int)) /\ v.cell? ⟨w.heap.size, 2, none⟩ = some (.int .i64 (S : Int))) := fun v hv => shp_held hw0 (below_then b1 hv)
  have C4 : Hid (∀ v, Below w1.heap.size w1 v -> v.cell? ⟨w.heap.size + 1, 4, none⟩ = some (.slice (some ⟨b, off, none⟩) n cl)) := fun v hv => by rw [<- z0]; exact (img_held hw1 hv).2.2.2.2
  obtain ⟨c0, c1, c2⟩ := CH.out w1 (Below.refl _ _)
  have tok1 : True := trivial
  go_enter Tryz.func70, Tryz.ntmps70
  go_wp2_with fail
  rw [<- hw0, <- hw1]
  clear hw0 hw1 b0 b1 z0
  go_region_held3 (fun v => v.cell? ⟨w.heap.size, 0, none⟩ = some (.int .i64 (N : Int)) /\ v.cell? ⟨w.heap.size, 1, none⟩ = some (.int .i64 (Q : Int)) /\ v.cell? ⟨w.heap.size, 2, none⟩ = some (.int .i64 (S : Int))) (go_keep)
    (first
      | (go_at_call 74; have _t := tok1; refine (HAT.out _).mono ?_; rintro e wf ⟨rfl, hf⟩; have HFf : Hid (Below w1.heap.size w1 wf) := of_drew hf; obtain ⟨f0, f1, f2⟩ := CH.out wf (of_drew hf); clear hf tok1)
      | (go_at_call 74; refine (HAT2.out _).mono ?_; rintro e wg ⟨rfl, hg⟩; have HG : Hid (Below w1.heap.size w1 wg) := below_then HFf.out hg; obtain ⟨g0, g1, g2⟩ := CH.out wg HG.out; clear hg))
  all_goals
    have g4 := C4.out wg HG.out
    go_wp2_with fail
    go_ret
    exact ⟨by rw [show en - f = 2 by have := HEN.out; omega]; rfl, below_then HB1.out HG.out⟩
theorem run_arr (a : Option Addr) (w : World) : (Instr.arrayAt 98 (.slice a 2 2)).run Tryz.prog w = .ok (.pointer a) w := by simp [Instr.arrayAt, run_underlying Tryz.underlying98]
theorem run_ix0 (a a' : Option Addr) (n n' c c' : Nat) (w : World) : (Instr.index 98 (.agg #[.slice a n c, .slice a' n' c']) (.int .i64 0)).run Tryz.prog w = .ok (.slice a n c) w := by simp [Instr.index, asIntOf, part, run_underlying Tryz.underlying98, Tryz.sizeOf75, Tryz.isAgg75]
theorem run_ix1 (a a' : Option Addr) (n n' c c' : Nat) (w : World) : (Instr.index 98 (.agg #[.slice a n c, .slice a' n' c']) (.int .i64 1)).run Tryz.prog w = .ok (.slice a' n' c') w := by simp [Instr.index, asIntOf, part, run_underlying Tryz.underlying98, Tryz.sizeOf75, Tryz.isAgg75]
set_option maxHeartbeats 1000000 in
set_option maxRecDepth 100000 in
theorem copiedPair_any (b p : Nat) (A0 A1 : Option Addr) (C0 C1 : Nat) (f0 f1 : List UInt8) (w : World) (h0 : w.cell? ⟨b, p, none⟩ = some (.slice A0 f0.length C0)) (h1 : w.cell? ⟨b, p + 1, none⟩ = some (.slice A1 f1.length C1)) (r0 : RdB w A0 f0) (r1 : RdB w A1 f1) (l0 : f0.length <= 1000000) (l1 : f1.length <= 1000000) :
    Calls Tryz.prog 69 #[.slice (some ⟨b, p, none⟩) 2 2] w fun e w' => ∃ a0 p0 a1 p1, e = .returned (.agg #[.slice a0 f0.length p0, .slice a1 f1.length p1]) /\ OwC w.heap.size w' a0 p0 f0 /\ OwC w.heap.size w' a1 p1 f1 /\ Below w.heap.size w w' := by
  obtain ⟨w1, hw1⟩ : ∃ w1, w1 = w.alloc (.cells #[.slice none 0 0, .slice none 0 0] 98) := ⟨_, rfl⟩
  obtain ⟨wz, hwz⟩ : ∃ wz, wz = w1.alloc (.cells #[.slice A0 f0.length C0, .slice A1 f1.length C1] 98) := ⟨_, rfl⟩
  have b1 : Below w.heap.size w w1 := by rw [hw1]; exact below_alloc _ _
  have b2 : Below w1.heap.size w1 wz := by rw [hwz]; exact below_alloc _ _
  have z1 : w1.heap.size = w.heap.size + 1 := by rw [hw1]; simp
  have z2 : w.heap.size + 2 <= wz.heap.size := by rw [hwz]; simp; omega
  have HBZ : Hid (Below w.heap.size w wz) := below_then b1 b2
  have HV : Hid (Blk wz (w.heap.size + 1) 98 [.slice A0 f0.length C0, .slice A1 f1.length C1]) := by rw [<- z1, hwz]; exact blk_new w1 98 _
  have HRB : Hid (Blk w1 w.heap.size 98 [.slice none 0 0, .slice none 0 0]) := by rw [hw1]; exact blk_new w 98 _
  have SM : Hid (∀ v, Only (fun x => x = w.heap.size + 1) wz v -> (v.cell? ⟨w.heap.size, 0, none⟩ = some (.slice none 0 0) /\ v.cell? ⟨w.heap.size, 1, none⟩ = some (.slice none 0 0)) /\ ∀ i, v.frozen? ⟨w.heap.size, i, none⟩ = false) := fun v hv => by
    have h := (HRB.out.below b2).only hv (by omega)
    exact ⟨⟨h.cell rfl, h.cell rfl⟩, h.free⟩
  have R0 : Hid (RdB w A0 f0) := r0
  have R1 : Hid (RdB w A1 f1) := r1
  have k0 := fun o => held h0 (below_alloc w o)
  have k1 := fun o => held h1 (below_alloc w o)
  have hix0 := fun w => run_ix0 A0 A1 f0.length f1.length C0 C1 w
  have hix1 := fun w => run_ix1 A0 A1 f0.length f1.length C0 C1 w
  have harr := fun w => run_arr (some ⟨b, p, none⟩) w
  clear r0 r1 h0 h1 z1 b1 b2
  go_enter Tryz.func69, Tryz.ntmps69
  go_wp2_with fail
  rw [<- hw1, <- hwz]
  clear hw1 hwz
  go_loopw [4, 5, 10] (fun _ _ x wr => ∃ (i : Nat) (a0 a1 : Option Addr) (p0 p1 : Nat), i <= 2 /\ x = .int .i64 i /\ Hid (Blk wr (w.heap.size + 1) 98 [.slice a0 f0.length p0, .slice a1 f1.length p1] /\ (1 <= i -> OwC wz.heap.size wr a0 p0 f0) /\ (2 <= i -> OwC wz.heap.size wr a1 p1 f1)) /\ Hid (Only (fun x => x = w.heap.size + 1) wz wr)) (fun _ _ x _ => 2 - (intOf x).toNat)
  case atStart => exact ⟨0, A0, A1, C0, C1, by omega, rfl, ⟨HV.out, fun h => absurd h (by omega), fun h => absurd h (by omega)⟩, Only.refl _ _⟩
  case round =>
    obtain ⟨i, a0, a1, p0, p1, hi, rfl, hs, hb⟩ := hrel
    have hbw : Below w.heap.size w wr := HBZ.out.trans (hb.out.below (fun i h => by omega) (by omega))
    have q0 : wr.cell? ⟨w.heap.size + 1, 0, none⟩ = some (.slice a0 f0.length p0) := hs.out.1.cell rfl
    have q1 : wr.cell? ⟨w.heap.size + 1, 1, none⟩ = some (.slice a1 f1.length p1) := hs.out.1.cell rfl
    have qf := hs.out.1.free
    have hzr := hb.out.size
    by_cases e0 : i = 0
    · subst e0
      have HC := copied_any wr A0 f0.length C0 f0 (R0.out.below hbw) rfl l0
      clear q0 q1 qf hbw
      go_wp2_with fail
      refine HC.mono ?_
      rintro e wa ⟨ao, cap, rfl, ho, ha⟩
      have HX : Hid (Blk wa (w.heap.size + 1) 98 [.slice a0 f0.length p0, .slice a1 f1.length p1]) := hs.out.1.below ha
      have HO : Hid (OwC wz.heap.size wa ao cap f0) := ho.mono hzr
      have HA : Hid (Below wr.heap.size wr wa) := ha
      have q0 : wa.cell? ⟨w.heap.size + 1, 0, none⟩ = some (.slice a0 f0.length p0) := HX.out.cell rfl
      have qf := HX.out.free
      clear ho ha HC
      go_wp2_with fail
      go_roundw
      case rel =>
        refine ⟨1, ao, a1, cap, p1, by omega, by go_num, ⟨HX.out.set 0 _, fun _ => HO.out.set (fun a ha => by have := (HO.out.at_ ha).1; omega) _ _, fun h => absurd h (by omega)⟩, (hb.out.then HA.out).setCell (p := ⟨w.heap.size + 1, 0, none⟩) rfl _⟩
      case measure => simp [intOf]
    · by_cases e1 : i = 1
      · subst e1
        have HC := copied_any wr A1 f1.length C1 f1 (R1.out.below hbw) rfl l1
        clear q0 q1 qf hbw
        go_wp2_with fail
        refine HC.mono ?_
        rintro e wa ⟨ao, cap, rfl, ho, ha⟩
        have HX : Hid (Blk wa (w.heap.size + 1) 98 [.slice a0 f0.length p0, .slice a1 f1.length p1]) := hs.out.1.below ha
        have HO : Hid (OwC wz.heap.size wa ao cap f1) := ho.mono hzr
        have HO0 : Hid (OwC wz.heap.size wa a0 p0 f0) := (hs.out.2.1 (by omega)).below ha
        have HA : Hid (Below wr.heap.size wr wa) := ha
        have q1 : wa.cell? ⟨w.heap.size + 1, 1, none⟩ = some (.slice a1 f1.length p1) := HX.out.cell rfl
        have qf := HX.out.free
        clear ho ha HC
        go_wp2_with fail
        go_roundw
        case rel =>
          refine ⟨2, a0, ao, p0, cap, by omega, by go_num, ⟨HX.out.set 1 _, fun _ => HO0.out.set (fun a ha => by have := (HO0.out.at_ ha).1; omega) _ _, fun _ => HO.out.set (fun a ha => by have := (HO.out.at_ ha).1; omega) _ _⟩, (hb.out.then HA.out).setCell (p := ⟨w.heap.size + 1, 1, none⟩) rfl _⟩
        case measure => simp [intOf]
      · obtain rfl : i = 2 := by omega
        obtain ⟨⟨m0, m1⟩, m5⟩ := SM.out wr hb.out
        have HBW : Hid (Below w.heap.size w wr) := hbw
        clear hbw
        go_wp2_with fail
        refine bodyPost_ret (v := .agg #[.slice a0 f0.length p0, .slice a1 f1.length p1]) (by simp [results, Tryz.results69, go_sem, m0, m1]) rfl ?_
        refine ⟨a0, p0, a1, p1, rfl, (((hs.out.2.1 (by omega)).set (fun a ha => by have := ((hs.out.2.1 (by omega)).at_ ha).1; omega) _ _).set (fun a ha => by have := ((hs.out.2.1 (by omega)).at_ ha).1; omega) _ _).mono (by omega), (((hs.out.2.2 (by omega)).set (fun a ha => by have := ((hs.out.2.2 (by omega)).at_ ha).1; omega) _ _).set (fun a ha => by have := ((hs.out.2.2 (by omega)).at_ ha).1; omega) _ _).mono (by omega), ?_⟩
        exact (HBW.out.setCell (Nat.le_refl _) _).setCell (Nat.le_refl _) _
end Go.Proofs.YtmoenmpbkockoaaGreat.Im
