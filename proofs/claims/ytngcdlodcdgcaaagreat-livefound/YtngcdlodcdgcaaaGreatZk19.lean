import Derived.Laws.MakeOwn
import Derived.Test.YtngcdlodcdgcaaaGreatZk18
namespace Go.Proofs.YtngcdlodcdgcaaaGreat.Im
open Go.RowKit
def upto (i : Nat) (F : Nat -> List UInt8) (j : Nat) : List UInt8 := if j < i then F j else []
theorem upto_zero (F : Nat -> List UInt8) : upto 0 F = fun _ => [] := by funext j; exact if_neg (Nat.not_lt_zero j)
theorem upto_all {n : Nat} (F : Nat -> List UInt8) (j : Nat) (h : j < n) : upto n F j = F j := if_pos h
theorem upto_succ (i : Nat) (F : Nat -> List UInt8) (j : Nat) : upd i (F i) (upto i F) j = upto (i + 1) F j := by
  unfold upd upto
  by_cases e : j = i
  · subst e; rw [if_pos rfl, if_pos (by omega)]
  · rw [if_neg e]
    by_cases h : j < i
    · rw [if_pos h, if_pos (by omega)]
    · rw [if_neg h, if_neg (by omega)]
theorem rsl_blank {Y : Nat -> Prop} {w : World} {l n : Nat} {t : TypeId} (h : w.rowIs l t n (fun _ => .slice none 0 0)) (hY : Y l) (F : Nat -> List UInt8) : RSl w Y l n (fun _ => none) (fun _ => 0) (upto 0 F) := by
  rw [upto_zero]
  exact ⟨fun i hi => h.cell hi, fun i _ => h.frozen i, fun i _ => rdb_nil _ _, (fun i a _ e => by cases e), fun _ _ _ => ⟨rfl, rfl⟩, hY⟩
end Go.Proofs.YtngcdlodcdgcaaaGreat.Im
namespace Go.Proofs.YtngcdlodcdgcaaaGreat.Im
open Go.RowKit
def Im (B : Nat) (w : World) (lo : Option Addr) (n : Nat) (A : Nat -> Option Addr) (C : Nat -> Nat) (F : Nat -> List UInt8) : Prop :=
  (n = 0 /\ lo = none) \/ ∃ l, lo = some ⟨l, 0, none⟩ /\ RSl w (fun b => B <= b) l n A C F /\ ∀ i, i < n -> OwC B w (A i) (C i) (F i)
theorem lst_none (w : World) (lo : Option Addr) (A : Nat -> Option Addr) (C : Nat -> Nat) (F : Nat -> List UInt8) : Lst w lo 0 A C F := ⟨fun h => absurd h (Nat.lt_irrefl 0), fun i hi => absurd hi (Nat.not_lt_zero i), fun i hi => absurd hi (Nat.not_lt_zero i)⟩
def ImR (B : Nat) (w : World) (l n : Nat) (A : Nat -> Option Addr) (C : Nat -> Nat) (F : Nat -> List UInt8) : Prop := RSl w (fun b => B <= b) l n A C F /\ ∀ i, i < n -> OwC B w (A i) (C i) (F i)
theorem ImR.only {B : Nat} {X : Nat -> Prop} {w w' : World} {l n : Nat} {A : Nat -> Option Addr} {C : Nat -> Nat} {F : Nat -> List UInt8} (h : ImR B w l n A C F) (ho : Only X w w') (hx : ∀ b, B <= b -> ¬ X b) : ImR B w' l n A C F :=
  ⟨h.1.only ho hx, fun i hi => (h.2 i hi).stay fun g hg hl => ho.block g hl (hx g hg)⟩
theorem ImR.below {B : Nat} {w w' : World} {l n : Nat} {A : Nat -> Option Addr} {C : Nat -> Nat} {F : Nat -> List UInt8} (h : ImR B w l n A C F) (hb : Below w.heap.size w w') : ImR B w' l n A C F := h.only (X := fun _ => False) (.of_below hb) (fun _ _ h => h)
theorem ImR.mono {B B' : Nat} {w : World} {l n : Nat} {A : Nat -> Option Addr} {C : Nat -> Nat} {F : Nat -> List UInt8} (h : ImR B w l n A C F) (hb : B' <= B) : ImR B' w l n A C F := ⟨h.1.mono fun _ h => Nat.le_trans hb h, fun i hi => (h.2 i hi).mono hb⟩
theorem OwC.set {B : Nat} {w : World} {ao : Option Addr} {cp : Nat} {c : List UInt8} (h : OwC B w ao cp c) {l : Nat} (hl : ∀ a, ao = some a -> a.block ≠ l) (i : Nat) (u : Value) : OwC B (w.setCell ⟨l, i, none⟩ u) ao cp c := by
  rcases h with h | ⟨g, rfl, hB, h1, h2, hg⟩
  · exact .inl h
  · exact .inr ⟨g, rfl, hB, h1, h2, (Below.heap_setCell _ _ _ _ (hl ⟨g, 0, none⟩ rfl)).trans hg⟩
theorem ImR.put {B : Nat} {w : World} {l n : Nat} {A : Nat -> Option Addr} {C : Nat -> Nat} {F : Nat -> List UInt8} (h : ImR B w l n A C F) (i : Nat) {ao : Option Addr} {cp : Nat} {x : List UInt8} (ho : OwC B w ao cp x) (hl : ∀ a, ao = some a -> a.block ≠ l) :
    ImR B (w.setCell ⟨l, i, none⟩ (.slice ao x.length cp)) l n (upd i ao A) (upd i cp C) (upd i x F) := by
  refine ⟨h.1.put i ao cp x ho.rd (fun a ha => ⟨(ho.at_ ha).1, hl a ha⟩) ho.nil, fun j hj => ?_⟩
  by_cases e : j = i
  · subst e; rw [upd_at, upd_at, upd_at]; exact ho.set hl _ _
  · rw [upd_ne _ _ e, upd_ne _ _ e, upd_ne _ _ e]; exact (h.2 j hj).set (fun a ha => (h.1.at_ j a hj ha).2) _ _
theorem Im.only {B : Nat} {X : Nat -> Prop} {w w' : World} {lo : Option Addr} {n : Nat} {A : Nat -> Option Addr} {C : Nat -> Nat} {F : Nat -> List UInt8} (h : Im B w lo n A C F) (ho : Only X w w') (hx : ∀ b, B <= b -> ¬ X b) : Im B w' lo n A C F := by
  rcases h with h | ⟨l, e, h1, h2⟩
  · exact .inl h
  · have h3 := (show ImR B w l n A C F from ⟨h1, h2⟩).only ho hx
    exact .inr ⟨l, e, h3.1, h3.2⟩
end Go.Proofs.YtngcdlodcdgcaaaGreat.Im
namespace Go.Proofs.YtngcdlodcdgcaaaGreat.Im
open Go.RowKit
theorem ImR.congr {B : Nat} {w : World} {l n : Nat} {A : Nat -> Option Addr} {C : Nat -> Nat} {F G : Nat -> List UInt8} (h : ImR B w l n A C F) (e : ∀ i, i < n -> F i = G i) : ImR B w l n A C G :=
  ⟨h.1.congr e, fun i hi => by rw [<- e i hi]; exact h.2 i hi⟩
section
variable {k r c q : Int} {n : Nat} {F : Nat -> List UInt8} {N Q S : Nat}
end
end Go.Proofs.YtngcdlodcdgcaaaGreat.Im
namespace Go.Proofs.YtngcdlodcdgcaaaGreat.Im
open Go.RowKit
theorem info59 : (Tryz.prog.info? 127).map (fun i => (i.zero, i.size, i.bytes)) = some (some (.agg #[.slice none 0 0, .slice none 0 0]), 2, 48) := by kernel_rfl
end Go.Proofs.YtngcdlodcdgcaaaGreat.Im
namespace Go.Proofs.YtngcdlodcdgcaaaGreat.Im
open Go.RowKit
set_option maxHeartbeats 1000000 in
set_option maxRecDepth 100000 in
theorem cell_any (k r c q : Int) (N Q S : Nat) (b off n cl : Nat) (d o : Nat) (hN : N <= 16) (hQ : Q <= 256) (hd : d < N) (ho : o < Q) (hn : n = N * Q * 2) (hcl : n <= cl) (w : World) :
    Calls Tryz.prog 72 #[.agg #[.int .i64 (N : Int), .int .i64 (Q : Int), .int .i64 (S : Int)], .agg #[.int .i64 k, .int .i64 r, .int .i64 c, .int .i64 q, .slice (some ⟨b, off, none⟩) n cl], .int .i64 (d : Int), .int .i64 (o : Int)] w fun e w' => e = .returned (.slice (some ⟨b, off + (d * Q + o) * 2, none⟩) 2 2) /\ Below w.heap.size w w' := by
  have hlt : (d * Q + o) * 2 + 2 <= n := by
    have a3 : (d + 1) * Q <= N * Q := Nat.mul_le_mul_right Q hd
    rw [Nat.add_mul, Nat.one_mul] at a3
    rw [hn]; omega
  have HAT : Hid (∀ v, Calls Tryz.prog 93 #[.agg #[.int .i64 (N : Int), .int .i64 (Q : Int), .int .i64 (S : Int)], .int .i64 (d : Int), .int .i64 (o : Int), .int .i64 0] v fun e w' => e = .returned (.int .i64 (((d * Q + o) * 2 : Nat) : Int)) /\ Below v.heap.size v w') := fun v => by
    have h := at_any N Q S hQ (d : Int) (o : Int) 0 (by omega) (by omega) (by omega) (by omega) (by decide) (by decide) v
    rwa [show plc Q (d : Int) (o : Int) 0 = (d * Q + o) * 2 by unfold plc; simp] at h
  have HAT2 : Hid (∀ v, Calls Tryz.prog 93 #[.agg #[.int .i64 (N : Int), .int .i64 (Q : Int), .int .i64 (S : Int)], .int .i64 (d : Int), .int .i64 (o : Int), .int .i64 2] v fun e w' => e = .returned (.int .i64 (((d * Q + o) * 2 + 2 : Nat) : Int)) /\ Below v.heap.size v w') := fun v => by
    have h := at_any N Q S hQ (d : Int) (o : Int) 2 (by omega) (by omega) (by omega) (by omega) (by decide) (by decide) v
    rwa [show plc Q (d : Int) (o : Int) 2 = (d * Q + o) * 2 + 2 by unfold plc; simp] at h
  obtain ⟨f, hf⟩ : ∃ f, f = (d * Q + o) * 2 := ⟨_, rfl⟩
  rw [<- hf] at HAT HAT2 hlt ⊢
  obtain ⟨en, hen⟩ : ∃ en, en = f + 2 := ⟨_, rfl⟩
  rw [<- hen] at HAT2 hlt
  have HEN : Hid (en = f + 2) := hen
  have i0 : (0 : Int) <= (f : Int) := by omega
  have i1 : (f : Int) <= (en : Int) := by omega
  have i2 : (en : Int) <= (n : Int) := by omega
  have i3 : (0 : Int) <= (en : Int) := by omega
  have i4 : ¬ en = f := by omega
  have i5 : (en : Int) <= (cl : Int) := by omega
  clear hf hen hn hd ho
  obtain ⟨w0, hw0⟩ : ∃ w0, w0 = w.alloc (.cells #[.int .i64 (N : Int), .int .i64 (Q : Int), .int .i64 (S : Int)] 79) := ⟨_, rfl⟩
  obtain ⟨w1, hw1⟩ : ∃ w1, w1 = w0.alloc (.cells #[.int .i64 k, .int .i64 r, .int .i64 c, .int .i64 q, .slice (some ⟨b, off, none⟩) n cl] 26) := ⟨_, rfl⟩
  have b0 : Below w.heap.size w w0 := by rw [hw0]; exact below_alloc _ _
  have b1 : Below w0.heap.size w0 w1 := by rw [hw1]; exact below_alloc _ _
  have z0 : w0.heap.size = w.heap.size + 1 := by rw [hw0]; simp
  have HB1 : Hid (Below w.heap.size w w1) := below_then b0 b1
  have CH : Hid (∀ v, Below w1.heap.size w1 v -> v.cell? ⟨w.heap.size, 0, none⟩ = some (.int .i64 (N : Int)) /\ v.cell? ⟨w.heap.size, 1, none⟩ = some (.int .i64 (Q : Int)) /\ v.cell? ⟨w.heap.size, 2, none⟩ = some (.int .i64 (S : Int))) := fun v hv => shp_held hw0 (below_then b1 hv)
  have C4 : Hid (∀ v, Below w1.heap.size w1 v -> v.cell? ⟨w.heap.size + 1, 4, none⟩ = some (.slice (some ⟨b, off, none⟩) n cl)) := fun v hv => by rw [<- z0]; exact (img_held hw1 hv).2.2.2.2
  obtain ⟨c0, c1, c2⟩ := CH.out w1 (Below.refl _ _)
  have tok1 : True := trivial
  go_enter Tryz.func72, Tryz.ntmps72
  go_wp2_with fail
  rw [<- hw0, <- hw1]
  clear hw0 hw1 b0 b1 z0
  go_region_held3 (fun v => v.cell? ⟨w.heap.size, 0, none⟩ = some (.int .i64 (N : Int)) /\ v.cell? ⟨w.heap.size, 1, none⟩ = some (.int .i64 (Q : Int)) /\ v.cell? ⟨w.heap.size, 2, none⟩ = some (.int .i64 (S : Int))) (go_keep)
    (first
      | (go_at_call 93; have _t := tok1; refine (HAT.out _).mono ?_; rintro e wf ⟨rfl, hf⟩; have HFf : Hid (Below w1.heap.size w1 wf) := of_drew hf; obtain ⟨f0, f1, f2⟩ := CH.out wf (of_drew hf); clear hf tok1)
      | (go_at_call 93; refine (HAT2.out _).mono ?_; rintro e wg ⟨rfl, hg⟩; have HG : Hid (Below w1.heap.size w1 wg) := below_then HFf.out hg; obtain ⟨g0, g1, g2⟩ := CH.out wg HG.out; clear hg))
  all_goals
    have g4 := C4.out wg HG.out
    go_wp2_with fail
    go_ret
    exact ⟨by rw [show en - f = 2 by have := HEN.out; omega]; rfl, below_then HB1.out HG.out⟩
theorem run_arr (a : Option Addr) (w : World) : (Instr.arrayAt 127 (.slice a 2 2)).run Tryz.prog w = .ok (.pointer a) w := by simp [Instr.arrayAt, run_underlying Tryz.underlying127]
theorem run_ix0 (a a' : Option Addr) (n n' c c' : Nat) (w : World) : (Instr.index 127 (.agg #[.slice a n c, .slice a' n' c']) (.int .i64 0)).run Tryz.prog w = .ok (.slice a n c) w := by simp [Instr.index, asIntOf, part, run_underlying Tryz.underlying127, Tryz.sizeOf74, Tryz.isAgg74]
theorem run_ix1 (a a' : Option Addr) (n n' c c' : Nat) (w : World) : (Instr.index 127 (.agg #[.slice a n c, .slice a' n' c']) (.int .i64 1)).run Tryz.prog w = .ok (.slice a' n' c') w := by simp [Instr.index, asIntOf, part, run_underlying Tryz.underlying127, Tryz.sizeOf74, Tryz.isAgg74]
set_option maxHeartbeats 1000000 in
set_option maxRecDepth 100000 in
theorem copiedPair_any (b p : Nat) (A0 A1 : Option Addr) (C0 C1 : Nat) (f0 f1 : List UInt8) (w : World) (h0 : w.cell? ⟨b, p, none⟩ = some (.slice A0 f0.length C0)) (h1 : w.cell? ⟨b, p + 1, none⟩ = some (.slice A1 f1.length C1)) (r0 : RdB w A0 f0) (r1 : RdB w A1 f1) (l0 : f0.length <= 1000000) (l1 : f1.length <= 1000000) :
    Calls Tryz.prog 71 #[.slice (some ⟨b, p, none⟩) 2 2] w fun e w' => ∃ a0 p0 a1 p1, e = .returned (.agg #[.slice a0 f0.length p0, .slice a1 f1.length p1]) /\ OwC w.heap.size w' a0 p0 f0 /\ OwC w.heap.size w' a1 p1 f1 /\ Below w.heap.size w w' := by
  obtain ⟨w1, hw1⟩ : ∃ w1, w1 = w.alloc (.cells #[.slice none 0 0, .slice none 0 0] 127) := ⟨_, rfl⟩
  obtain ⟨wz, hwz⟩ : ∃ wz, wz = w1.alloc (.cells #[.slice A0 f0.length C0, .slice A1 f1.length C1] 127) := ⟨_, rfl⟩
  have b1 : Below w.heap.size w w1 := by rw [hw1]; exact below_alloc _ _
  have b2 : Below w1.heap.size w1 wz := by rw [hwz]; exact below_alloc _ _
  have z1 : w1.heap.size = w.heap.size + 1 := by rw [hw1]; simp
  have z2 : w.heap.size + 2 <= wz.heap.size := by rw [hwz]; simp; omega
  have HBZ : Hid (Below w.heap.size w wz) := below_then b1 b2
  have HV : Hid (Blk wz (w.heap.size + 1) 127 [.slice A0 f0.length C0, .slice A1 f1.length C1]) := by rw [<- z1, hwz]; exact blk_new w1 127 _
  have HRB : Hid (Blk w1 w.heap.size 127 [.slice none 0 0, .slice none 0 0]) := by rw [hw1]; exact blk_new w 127 _
  have SM : Hid (∀ v, Only (fun x => x = w.heap.size + 1) wz v -> (v.cell? ⟨w.heap.size, 0, none⟩ = some (.slice none 0 0) /\ v.cell? ⟨w.heap.size, 1, none⟩ = some (.slice none 0 0)) /\ ∀ i, v.frozen? ⟨w.heap.size, i, none⟩ = false) := fun v hv => by
    have h := (HRB.out.below b2).only hv (by omega)
    exact ⟨⟨h.cell rfl, h.cell rfl⟩, h.free⟩
  have R0 : Hid (RdB w A0 f0) := r0
  have R1 : Hid (RdB w A1 f1) := r1
  have k0 := fun o => held h0 (below_alloc w o)
  have k1 := fun o => held h1 (below_alloc w o)
  have hix0 := fun w => run_ix0 A0 A1 f0.length f1.length C0 C1 w
  have hix1 := fun w => run_ix1 A0 A1 f0.length f1.length C0 C1 w
  have harr := fun w => run_arr (some ⟨b, p, none⟩) w
  clear r0 r1 h0 h1 z1 b1 b2
  go_enter Tryz.func71, Tryz.ntmps71
  go_wp2_with fail
  rw [<- hw1, <- hwz]
  clear hw1 hwz
  go_loopw [4, 5, 10] (fun _ _ x wr => ∃ (i : Nat) (a0 a1 : Option Addr) (p0 p1 : Nat), i <= 2 /\ x = .int .i64 i /\ Hid (Blk wr (w.heap.size + 1) 127 [.slice a0 f0.length p0, .slice a1 f1.length p1] /\ (1 <= i -> OwC wz.heap.size wr a0 p0 f0) /\ (2 <= i -> OwC wz.heap.size wr a1 p1 f1)) /\ Hid (Only (fun x => x = w.heap.size + 1) wz wr)) (fun _ _ x _ => 2 - (intOf x).toNat)
  case atStart => exact ⟨0, A0, A1, C0, C1, by omega, rfl, ⟨HV.out, fun h => absurd h (by omega), fun h => absurd h (by omega)⟩, Only.refl _ _⟩
  case round =>
    obtain ⟨i, a0, a1, p0, p1, hi, rfl, hs, hb⟩ := hrel
    have hbw : Below w.heap.size w wr := HBZ.out.trans (hb.out.below (fun i h => by omega) (by omega))
    have q0 : wr.cell? ⟨w.heap.size + 1, 0, none⟩ = some (.slice a0 f0.length p0) := hs.out.1.cell rfl
    have q1 : wr.cell? ⟨w.heap.size + 1, 1, none⟩ = some (.slice a1 f1.length p1) := hs.out.1.cell rfl
    have qf := hs.out.1.free
    have hzr := hb.out.size
    by_cases e0 : i = 0
    · subst e0
      have HC := copied_any wr A0 f0.length C0 f0 (R0.out.below hbw) rfl l0
      clear q0 q1 qf hbw
      go_wp2_with fail
      refine HC.mono ?_
      rintro e wa ⟨ao, cap, rfl, ho, ha⟩
      have HX : Hid (Blk wa (w.heap.size + 1) 127 [.slice a0 f0.length p0, .slice a1 f1.length p1]) := hs.out.1.below ha
      have HO : Hid (OwC wz.heap.size wa ao cap f0) := ho.mono hzr
      have HA : Hid (Below wr.heap.size wr wa) := ha
      have q0 : wa.cell? ⟨w.heap.size + 1, 0, none⟩ = some (.slice a0 f0.length p0) := HX.out.cell rfl
      have qf := HX.out.free
      clear ho ha HC
      go_wp2_with fail
      go_roundw
      case rel =>
        refine ⟨1, ao, a1, cap, p1, by omega, by go_num, ⟨HX.out.set 0 _, fun _ => HO.out.set (fun a ha => by have := (HO.out.at_ ha).1; omega) _ _, fun h => absurd h (by omega)⟩, (hb.out.then HA.out).setCell (p := ⟨w.heap.size + 1, 0, none⟩) rfl _⟩
      case measure => simp [intOf]
    · by_cases e1 : i = 1
      · subst e1
        have HC := copied_any wr A1 f1.length C1 f1 (R1.out.below hbw) rfl l1
        clear q0 q1 qf hbw
        go_wp2_with fail
        refine HC.mono ?_
        rintro e wa ⟨ao, cap, rfl, ho, ha⟩
        have HX : Hid (Blk wa (w.heap.size + 1) 127 [.slice a0 f0.length p0, .slice a1 f1.length p1]) := hs.out.1.below ha
        have HO : Hid (OwC wz.heap.size wa ao cap f1) := ho.mono hzr
        have HO0 : Hid (OwC wz.heap.size wa a0 p0 f0) := (hs.out.2.1 (by omega)).below ha
        have HA : Hid (Below wr.heap.size wr wa) := ha
        have q1 : wa.cell? ⟨w.heap.size + 1, 1, none⟩ = some (.slice a1 f1.length p1) := HX.out.cell rfl
        have qf := HX.out.free
        clear ho ha HC
        go_wp2_with fail
        go_roundw
        case rel =>
          refine ⟨2, a0, ao, p0, cap, by omega, by go_num, ⟨HX.out.set 1 _, fun _ => HO0.out.set (fun a ha => by have := (HO0.out.at_ ha).1; omega) _ _, fun _ => HO.out.set (fun a ha => by have := (HO.out.at_ ha).1; omega) _ _⟩, (hb.out.then HA.out).setCell (p := ⟨w.heap.size + 1, 1, none⟩) rfl _⟩
        case measure => simp [intOf]
      · obtain rfl : i = 2 := by omega
        obtain ⟨⟨m0, m1⟩, m5⟩ := SM.out wr hb.out
        have HBW : Hid (Below w.heap.size w wr) := hbw
        clear hbw
        go_wp2_with fail
        refine bodyPost_ret (v := .agg #[.slice a0 f0.length p0, .slice a1 f1.length p1]) (by simp [results, Tryz.results71, go_sem, m0, m1]) rfl ?_
        refine ⟨a0, p0, a1, p1, rfl, (((hs.out.2.1 (by omega)).set (fun a ha => by have := ((hs.out.2.1 (by omega)).at_ ha).1; omega) _ _).set (fun a ha => by have := ((hs.out.2.1 (by omega)).at_ ha).1; omega) _ _).mono (by omega), (((hs.out.2.2 (by omega)).set (fun a ha => by have := ((hs.out.2.2 (by omega)).at_ ha).1; omega) _ _).set (fun a ha => by have := ((hs.out.2.2 (by omega)).at_ ha).1; omega) _ _).mono (by omega), ?_⟩
        exact (HBW.out.setCell (Nat.le_refl _) _).setCell (Nat.le_refl _) _
end Go.Proofs.YtngcdlodcdgcaaaGreat.Im
namespace Go.Proofs.YtngcdlodcdgcaaaGreat.Im
open Go.RowKit
def rowF (Q o : Nat) (F : Nat -> List UInt8) (j : Nat) : List UInt8 := F ((j / 2 * Q + o) * 2 + j % 2)
theorem rowF_0 (Q o : Nat) (F : Nat -> List UInt8) (i : Nat) : rowF Q o F (2 * i) = F ((i * Q + o) * 2) := by unfold rowF; rw [show 2 * i / 2 = i by omega, show 2 * i % 2 = 0 by omega, Nat.add_zero]
theorem rowF_1 (Q o : Nat) (F : Nat -> List UInt8) (i : Nat) : rowF Q o F (2 * i + 1) = F ((i * Q + o) * 2 + 1) := by unfold rowF; rw [show (2 * i + 1) / 2 = i by omega, show (2 * i + 1) % 2 = 1 by omega]
def Rww (k r c q : Int) (n : Nat) (F : Nat -> List UInt8) (o x : Int) (n' : Nat) (G : Nat -> List UInt8) : Prop :=
  ∃ y N Q S, Ck k r c q n F y N Q S /\ ((y = 0 /\ 0 <= o /\ o < (Q : Int) /\ x = 0 /\ n' = N /\ G = rowF Q o.toNat F) \/ ((n' = 0 /\ G = fun _ => []) /\ ((¬ y = 0 /\ x = y) \/ (y = 0 /\ ¬ (0 <= o /\ o < (Q : Int)) /\ x = 2))))
theorem rww_ex (k r c q : Int) (n : Nat) (F : Nat -> List UInt8) (o : Int) : ∃ x n' G, Rww k r c q n F o x n' G := by
  obtain ⟨y, N, Q, S, h⟩ := ck_ex k r c q n F
  by_cases hy : y = 0
  · by_cases ho : 0 <= o /\ o < (Q : Int)
    · exact ⟨0, N, _, y, N, Q, S, h, .inl ⟨hy, ho.1, ho.2, rfl, rfl, rfl⟩⟩
    · exact ⟨2, 0, _, y, N, Q, S, h, .inr ⟨⟨rfl, rfl⟩, .inr ⟨hy, ho, rfl⟩⟩⟩
  · exact ⟨y, 0, _, y, N, Q, S, h, .inr ⟨⟨rfl, rfl⟩, .inl ⟨hy, rfl⟩⟩⟩
theorem made_pairs (n i : Nat) (h : i < n) : (madeCells #[Value.slice none 0 0, .slice none 0 0] n)[i]? = some (.slice none 0 0) := by
  have : i % 2 = 0 \/ i % 2 = 1 := by omega
  unfold madeCells
  rcases this with e | e <;> simp [h, e]
section
variable {k r c q : Int} {n : Nat} {F : Nat -> List UInt8} {N Q S : Nat}
set_option maxHeartbeats 1000000 in
set_option maxRecDepth 100000 in
theorem Row_e1 {x : Int} (hck : Ck k r c q n F x N Q S) (hx : ¬ x = 0) (o : Int) (lo : Option Addr) (cl : Nat) (A : Nat -> Option Addr) (C : Nat -> Nat) (w : World) (hl : Lst w lo n A C F) :
    Calls Tryz.prog 39 #[.agg #[.int .i64 k, .int .i64 r, .int .i64 c, .int .i64 q, .slice lo n cl], .int .i64 o] w fun e w' => ∃ lo' A' C', e = .returned (.tuple #[.slice lo' 0 0, .int .i64 x]) /\ Im w.heap.size w' lo' (2 * 0) A' C' (fun _ => []) /\ Below w.heap.size w w' := by
  obtain ⟨w0, hw0⟩ : ∃ w0, w0 = w.alloc (.cells #[.int .i64 k, .int .i64 r, .int .i64 c, .int .i64 q, .slice lo n cl] 26) := ⟨_, rfl⟩
  have b0 : Below w.heap.size w w0 := by rw [hw0]; exact below_alloc _ _
  have HC := checked_any hck lo cl A C w0 (hl.below b0)
  have hx2 : (x != 0) = true := by simp; exact hx
  clear hck hl hx
  go_enter Tryz.func39, Tryz.ntmps39
  go_wp2_with fail
  rw [<- hw0]
  clear hw0
  refine HC.mono ?_
  rintro e wa ⟨rfl, ha⟩
  clear HC
  go_wp2_with fail
  go_ret2
  exact ⟨none, fun _ => none, fun _ => 0, rfl, .inl ⟨rfl, rfl⟩, below_then b0 (below_then ha (below_alloc _ _))⟩
set_option maxHeartbeats 1000000 in
set_option maxRecDepth 100000 in
theorem Row_e2 (hck : Ck k r c q n F 0 N Q S) (o : Int) (ho : ¬ (0 <= o /\ o < (Q : Int))) (lo : Option Addr) (cl : Nat) (A : Nat -> Option Addr) (C : Nat -> Nat) (w : World) (hl : Lst w lo n A C F) :
    Calls Tryz.prog 39 #[.agg #[.int .i64 k, .int .i64 r, .int .i64 c, .int .i64 q, .slice lo n cl], .int .i64 o] w fun e w' => ∃ lo' A' C', e = .returned (.tuple #[.slice lo' 0 0, .int .i64 2]) /\ Im w.heap.size w' lo' (2 * 0) A' C' (fun _ => []) /\ Below w.heap.size w w' := by
  obtain ⟨w0, hw0⟩ : ∃ w0, w0 = w.alloc (.cells #[.int .i64 k, .int .i64 r, .int .i64 c, .int .i64 q, .slice lo n cl] 26) := ⟨_, rfl⟩
  have b0 : Below w.heap.size w w0 := by rw [hw0]; exact below_alloc _ _
  have HC := checked_any hck lo cl A C w0 (hl.below b0)
  have HW := fun w => inW_any o (Q : Int) w
  rw [decide_eq_false ho] at HW
  clear hck hl ho
  go_enter Tryz.func39, Tryz.ntmps39
  go_wp2_with fail
  rw [<- hw0]
  clear hw0
  refine HC.mono ?_
  rintro e wa ⟨rfl, ha⟩
  clear HC
  go_wp2_with (go_at_call 70; refine (HW _).mono ?_; rintro e w' ⟨rfl, hw'⟩; obtain rfl := hw'.symm)
  go_ret2
  exact ⟨none, fun _ => none, fun _ => 0, rfl, .inl ⟨rfl, rfl⟩, below_then b0 (below_then ha (below_alloc _ _))⟩
set_option maxHeartbeats 2000000 in
set_option maxRecDepth 100000 in
theorem Row_ok (hck : Ck k r c q n F 0 N Q S) (o : Nat) (ho : o < Q) (lo : Option Addr) (cl : Nat) (hcl : n <= cl) (A : Nat -> Option Addr) (C : Nat -> Nat) (w : World) (hl : Lst w lo n A C F) :
    Calls Tryz.prog 39 #[.agg #[.int .i64 k, .int .i64 r, .int .i64 c, .int .i64 q, .slice lo n cl], .int .i64 (o : Int)] w fun e w' => ∃ lo' A' C', e = .returned (.tuple #[.slice lo' N N, .int .i64 0]) /\ Im w.heap.size w' lo' (2 * N) A' C' (rowF Q o F) /\ Below w.heap.size w w' := by
  obtain ⟨hpm, hne, hfit⟩ := hck.ok rfl
  obtain ⟨hN1, hN2, hQ1, hQ, hS1, hS2, hn1, hn2⟩ := hpm.bounds
  rw [<- hne] at hn1 hn2
  have HNE : Hid (n = N * Q * 2) := hne
  have HSL : Hid (∀ i, i < n -> (F i).length <= 1000000) := fun i hi => by have := hfit i hi; omega
  obtain ⟨b, off, rfl, hcell⟩ := hl.at_ (by omega)
  have HLL : Hid (Lst w (some ⟨b, off, none⟩) n A C F) := hl
  clear hcell
  obtain ⟨w0, hw0⟩ : ∃ w0, w0 = w.alloc (.cells #[.int .i64 k, .int .i64 r, .int .i64 c, .int .i64 q, .slice (some ⟨b, off, none⟩) n cl] 26) := ⟨_, rfl⟩
  have b0 : Below w.heap.size w w0 := by rw [hw0]; exact below_alloc _ _
  have HC := checked_any hck (some ⟨b, off, none⟩) cl A C w0 (hl.below b0)
  have HW := fun w => inW_any (o : Int) (Q : Int) w
  rw [decide_eq_true (show 0 <= (o : Int) /\ (o : Int) < (Q : Int) by omega)] at HW
  obtain ⟨i0, hi0, hz0, hz1, hz2⟩ := info_parts info59
  have hmk0 := fun w => run_make (P := Tryz.prog) w 87 127 i0 _ Tryz.underlying87 hi0 hz0 .i64 .i64 (N : Int) (N : Int) (by omega) (by omega) (by rw [hz2]; omega) (by omega)
  rw [hz1, Int.toNat_natCast] at hmk0
  obtain ⟨Z, hZ⟩ : ∃ Z, Z = madeCells #[Value.slice none 0 0, .slice none 0 0] (N * 2) := ⟨_, rfl⟩
  have hmk : ∀ w, (Instr.makeSlice 87 (.int .i64 (N : Int)) (.int .i64 (N : Int))).run Tryz.prog w = .ok (.slice (some ⟨w.heap.size, 0, none⟩) N N) (w.alloc (.cells Z 127)) := fun w => by rw [hZ]; exact hmk0 w
  clear hmk0
  have HROW : Hid (∀ w : World, (w.alloc (.cells Z 127)).rowIs w.heap.size 127 (2 * N) (fun _ => .slice none 0 0)) := fun w => by
    have hsz : Z.size = 2 * N := by rw [hZ, size_madeCells]; omega
    rw [<- hsz]
    exact World.rowIs_alloc w Z 127 _ fun i hi => by rw [hZ]; exact made_pairs _ _ (by omega)
  clear hck hl hpm hne hfit hZ hz0 hz1 hz2 hi0
  go_enter Tryz.func39, Tryz.ntmps39
  go_wp2_with fail
  rw [<- hw0]
  refine HC.mono ?_
  rintro e wa ⟨rfl, ha⟩
  obtain ⟨wb, hwb⟩ : ∃ wb, wb = wa.alloc (.cells #[.int .i64 (N : Int), .int .i64 (Q : Int), .int .i64 (S : Int)] 79) := ⟨_, rfl⟩
  obtain ⟨wz, hwz⟩ : ∃ wz, wz = wb.alloc (.cells Z 127) := ⟨_, rfl⟩
  have hab : Below wa.heap.size wa wb := by rw [hwb]; exact below_alloc _ _
  have hbz : Below wb.heap.size wb wz := by rw [hwz]; exact below_alloc _ _
  have zab : wb.heap.size = wa.heap.size + 1 := by rw [hwb]; simp
  have zbz : wb.heap.size < wz.heap.size := by rw [hwz]; simp
  have HB0 : Hid (Below w0.heap.size w0 wz) := below_then ha (below_then hab hbz)
  have HBZ : Hid (Below w.heap.size w wz) := below_then b0 HB0.out
  have z0 : w.heap.size < w0.heap.size := by rw [hw0]; simp
  have z0a := ha.size
  have SP : Hid (∀ v, Only (fun x => x = (wa.heap.size + 1)) wz v -> v.cell? ⟨wa.heap.size, 0, none⟩ = some (.int .i64 (N : Int)) /\ v.cell? ⟨wa.heap.size, 1, none⟩ = some (.int .i64 (Q : Int)) /\ v.cell? ⟨wa.heap.size, 2, none⟩ = some (.int .i64 (S : Int))) := fun v hv => by
    obtain ⟨a0, a1, a2⟩ := shp_held hwb hbz
    have hne : ¬ (wa.heap.size = (wa.heap.size + 1)) := by omega
    exact ⟨hv.cell a0 hne, hv.cell a1 hne, hv.cell a2 hne⟩
  have SI : Hid (∀ v, Only (fun x => x = (wa.heap.size + 1)) wz v -> v.cell? ⟨w.heap.size, 0, none⟩ = some (.int .i64 k) /\ v.cell? ⟨w.heap.size, 1, none⟩ = some (.int .i64 r) /\ v.cell? ⟨w.heap.size, 2, none⟩ = some (.int .i64 c) /\ v.cell? ⟨w.heap.size, 3, none⟩ = some (.int .i64 q) /\ v.cell? ⟨w.heap.size, 4, none⟩ = some (.slice (some ⟨b, off, none⟩) n cl)) := fun v hv => by
    obtain ⟨a0, a1, a2, a3, a4⟩ := img_held hw0 HB0.out
    have hne : ¬ (w.heap.size = (wa.heap.size + 1)) := by omega
    exact ⟨hv.cell a0 hne, hv.cell a1 hne, hv.cell a2 hne, hv.cell a3 hne, hv.cell a4 hne⟩
  have HS : Hid (ImR (wa.heap.size + 1) wz (wa.heap.size + 1) (2 * N) (fun _ => none) (fun _ => 0) (upto (2 * 0) (rowF Q o F))) := ⟨by rw [hwz, <- zab]; exact rsl_blank (HROW.out wb) (Nat.le_refl _) _, fun i hi => .inl ⟨rfl, upto_zero (rowF Q o F) ▸ rfl, rfl⟩⟩
  have zab2 : wa.heap.size + 1 < wz.heap.size := by omega
  clear hw0 HC ha hab hbz HROW zab b0
  go_wp2_with (first | (go_at_call 70; refine (HW _).mono ?_; rintro e w' ⟨rfl, hw'⟩; obtain rfl := hw'.symm) | fail)
  rw [<- hwb, <- hwz]
  clear hwb hwz HW hmk
  go_loopw [9, 30] (fun _ x wr => ∃ i : Nat, i <= N /\ x = .int .i64 i /\ Hid (∃ A' C', ImR (wa.heap.size + 1) wr (wa.heap.size + 1) (2 * N) A' C' (upto (2 * i) (rowF Q o F))) /\ Hid (Only (fun x => x = (wa.heap.size + 1)) wz wr)) (fun _ x _ => N - (intOf x).toNat)
  case atStart => exact ⟨0, Nat.zero_le _, by first | rfl | go_num, ⟨_, _, HS.out⟩, Only.refl _ _⟩
  case round =>
    obtain ⟨i, hi, rfl, hs, hb⟩ := hrel
    have hbw : Below w.heap.size w wr := HBZ.out.trans (hb.out.below (fun i h => by omega) (by omega))
    by_cases hlt : i < N
    · obtain ⟨s0, s1, s2⟩ := SP.out wr hb.out
      obtain ⟨c0, c1, c2, c3, c4⟩ := SI.out wr hb.out
      have hzr := hb.out.size
      have i1 : (0 : Int) <= (i : Int) := by omega
      have i2 : (i : Int) < (N : Int) := by omega
      have hpl : (i * Q + o) * 2 + 1 < n := by
        have a3 : (i + 1) * Q <= N * Q := Nat.mul_le_mul_right Q hlt
        rw [Nat.add_mul, Nat.one_mul] at a3
        rw [HNE.out]; omega
      have HCE := cell_any k r c q N Q S b off n cl i o hN2 hQ hlt ho HNE.out hcl wr
      have HG : Hid (rowF Q o F (2 * i) = F ((i * Q + o) * 2) /\ rowF Q o F (2 * i + 1) = F ((i * Q + o) * 2 + 1)) := ⟨rowF_0 Q o F i, rowF_1 Q o F i⟩
      obtain ⟨f, hf⟩ : ∃ f, f = (i * Q + o) * 2 := ⟨_, rfl⟩
      rw [<- hf] at hpl HCE HG
      clear hf
      go_wp2_with fail
      refine HCE.mono ?_
      rintro e wf ⟨rfl, hwf⟩
      have HLF := HLL.out.below (below_then hbw hwf)
      obtain ⟨b', off', e', hc'⟩ := HLF.at_ (by omega)
      cases e'
      have HCP := copiedPair_any b (off + f) (A f) (A (f + 1)) (C f) (C (f + 1)) (F f) (F (f + 1)) wf (hc' f (by omega)) (by rw [Nat.add_assoc]; exact hc' (f + 1) hpl) (HLF.rd f (by omega)) (HLF.rd (f + 1) hpl) (HSL.out f (by omega)) (HSL.out (f + 1) hpl)
      clear HLF hc' HCE
      go_wp2_with fail
      refine HCP.mono ?_
      rintro e wg ⟨a0, p0, a1, p1, rfl, h0, h1, hwg⟩
      have HBG : Hid (Below wr.heap.size wr wg) := below_then hwf hwg
      have hzf := hwf.size
      have HO0 : Hid (OwC (wa.heap.size + 1) wg a0 p0 (F f) /\ ∀ a, a0 = some a -> a.block ≠ (wa.heap.size + 1)) := ⟨h0.mono (by omega), fun a ha => by have := (h0.at_ ha).1; omega⟩
      have HO1 : Hid (OwC (wa.heap.size + 1) wg a1 p1 (F (f + 1)) /\ ∀ a, a1 = some a -> a.block ≠ (wa.heap.size + 1)) := ⟨h1.mono (by omega), fun a ha => by have := (h1.at_ ha).1; omega⟩
      obtain ⟨A', C', hs1⟩ := hs.out
      have HX : Hid (ImR (wa.heap.size + 1) wg (wa.heap.size + 1) (2 * N) A' C' (upto (2 * i) (rowF Q o F))) := hs1.below HBG.out
      have k0 := HX.out.1.cell (2 * i) (by omega)
      have k1 := HX.out.1.cell (2 * i + 1) (by omega)
      have k2 := HX.out.1.free (2 * i) (by omega)
      have k3 := HX.out.1.free (2 * i + 1) (by omega)
      rw [Nat.mul_comm] at k0 k1 k2 k3
      clear HCP h0 h1 hwf hwg hs1 hbw
      go_wp2_with fail
      go_roundw
      case rel =>
        refine ⟨i + 1, by omega, by go_num, ⟨upd (2 * i + 1) a1 (upd (2 * i) a0 A'), upd (2 * i + 1) p1 (upd (2 * i) p0 C'), ?_⟩, ?_⟩
        · have h2 := HX.out.put (2 * i) HO0.out.1 HO0.out.2
          have h3 := h2.put (2 * i + 1) (HO1.out.1.set HO1.out.2 (2 * i) (.slice a0 (F f).length p0)) HO1.out.2
          rw [Nat.mul_comm 2 i] at h3 ⊢
          refine h3.congr fun j _ => ?_
          rw [<- HG.out.1, <- HG.out.2, Nat.mul_comm 2 i, show 2 * (i + 1) = i * 2 + 1 + 1 by omega, <- upto_succ]
          unfold upd
          by_cases e : j = i * 2 + 1
          · rw [if_pos e, if_pos e]
          · rw [if_neg e, if_neg e, <- upto_succ]; rfl
        · exact ((hb.out.then HBG.out).setCell (p := ⟨wa.heap.size + 1, i * 2, none⟩) rfl _).setCell (p := ⟨wa.heap.size + 1, i * 2 + 1, none⟩) rfl _
      case measure => simp [intOf]; omega
    · obtain rfl : i = N := by omega
      go_wp2_with fail
      go_ret2
      obtain ⟨A', C', hs1⟩ := hs.out
      have hs2 := (hs1.congr (G := rowF Q o F) fun j hj => upto_all _ j hj).mono (B' := w.heap.size) (by omega)
      exact ⟨some ⟨wa.heap.size + 1, 0, none⟩, A', C', rfl, .inr ⟨wa.heap.size + 1, rfl, hs2.1, hs2.2⟩, hbw⟩
end
theorem Row_any {k r c q : Int} {n : Nat} {F : Nat -> List UInt8} {o x : Int} {n' : Nat} {G : Nat -> List UInt8} (h : Rww k r c q n F o x n' G) (lo : Option Addr) (cl : Nat) (hcl : n <= cl) (A : Nat -> Option Addr) (C : Nat -> Nat) (w : World) (hl : Lst w lo n A C F) :
    Calls Tryz.prog 39 #[.agg #[.int .i64 k, .int .i64 r, .int .i64 c, .int .i64 q, .slice lo n cl], .int .i64 o] w fun e w' => ∃ lo' A' C', e = .returned (.tuple #[.slice lo' n' n', .int .i64 x]) /\ Im w.heap.size w' lo' (2 * n') A' C' G /\ Below w.heap.size w w' := by
  obtain ⟨y, N, Q, S, hck, hc⟩ := h
  rcases hc with ⟨rfl, h1, h2, rfl, rfl, rfl⟩ | ⟨⟨rfl, rfl⟩, hc⟩
  · obtain ⟨oo, rfl⟩ := Int.eq_ofNat_of_zero_le h1
    rw [Int.toNat_natCast]
    exact Row_ok hck oo (by omega) lo cl hcl A C w hl
  · rcases hc with ⟨h1, rfl⟩ | ⟨rfl, h1, rfl⟩
    · exact Row_e1 hck h1 o lo cl A C w hl
    · exact Row_e2 hck o h1 lo cl A C w hl
end Go.Proofs.YtngcdlodcdgcaaaGreat.Im
