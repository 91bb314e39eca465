import Derived.Test.YtngcdlodcdgcaaaGreatZk23
namespace Go.Proofs.YtngcdlodcdgcaaaGreat
open Go.RowKit
theorem of_drew' {w v : World} (h : Below w.drew.heap.size w.drew v) : Below w.heap.size w v := below_then (below_drew _ _) h
def AnsB (w : World) (E : Int) (n : Nat) (F : Nat -> UInt8) (e : Ending) (w' : World) : Prop :=
  ∃ ao cap, e = .returned (.tuple #[.slice ao (lenE E n) cap, .int .i64 E]) /\ OwU w.heap.size w' ao (lenE E n) cap F /\ Below w.heap.size w w'
theorem made_byF (n : Nat) : madeCells #[.int .u8 0] n = (byF n (fun _ => 0)).toArray := by
  apply Array.ext'
  unfold byF madeCells
  apply List.ext_getElem?
  intro i
  by_cases h : i < n
  · simp [h, Nat.mod_one]
  · simp [h]
end Go.Proofs.YtngcdlodcdgcaaaGreat
namespace Go.Proofs.YtngcdlodcdgcaaaGreat
open Go.RowKit
theorem nm_shift (F : Nat -> UInt8) (o : Nat) : ∀ k, nm (fun j => F (o + j)) 0 k = nm F o k := fun k => nm_congr fun i _ => by rw [Nat.zero_add]
theorem At.below {a v v' : World} {g : Nat} {cs : Array Value} {t : TypeId} (h : At a v g cs t) (hb : Below v.heap.size v v') : At a v' g cs t :=
  ⟨h.1, (hb.block g (Array.getElem?_eq_some_iff.1 h.2).1).trans h.2⟩
theorem At.only {X : Nat -> Prop} {a v v' : World} {g : Nat} {cs : Array Value} {t : TypeId} (h : At a v g cs t) (hb : Only X v v') (hx : ¬ X g) : At a v' g cs t :=
  ⟨h.1, (hb.block g (Array.getElem?_eq_some_iff.1 h.2).1 hx).trans h.2⟩
def vf (F : Nat -> UInt8) (i : Nat) : Nat -> Int := fun j => if j < i then ((nm F (12 + 4 * j) 4 : Nat) : Int) else 0
theorem vf_succ (F : Nat -> UInt8) (i : Nat) : put i ((nm F (12 + 4 * i) 4 : Nat) : Int) (vf F i) = vf F (i + 1) := by
  funext j
  unfold put vf
  by_cases e : j = i
  · subst e; rw [if_pos rfl, if_pos (by omega)]
  · rw [if_neg e]
    by_cases h : j < i
    · rw [if_pos h, if_pos (by omega)]
    · rw [if_neg h, if_neg (by omega)]
theorem own_made {a v : World} {B g N : Nat} (h : At a v g (madeCells #[.int .i64 0] N) 3) (hB : B <= g) (hN : N <= 1000) (F : Nat -> UInt8) : Own B v (some ⟨g, 0, none⟩) N N (vf F 0) := by
  refine own_row (f := fun _ => .int .i64 0) ⟨_, h.2, by simp [madeCells], fun i hi => ?_⟩ hB hN (fun i hi => ?_)
  · simp [madeCells, hi, Nat.mod_one]
  · unfold vf; rw [if_neg (by omega)]
set_option maxHeartbeats 8000000 in
set_option maxRecDepth 100000 in
theorem read_any {N : Nat} {c : Int} (w : World) (g o n : Nat) (F : Nat -> UInt8) (hN : 1 <= N) (hN2 : N <= 16) (hc : 8 <= c) (hc2 : c <= 64) (hn : n = sz N c) (hr : ∀ j, j < n -> w.cell? ⟨g, o + j, none⟩ = some (.int .u8 (((F j).toNat : Nat) : Int))) :
    Calls Tryz.prog 65 #[.agg (prt g o (4 * N) c.toNat)] w fun e w' => ∃ ao ca bo cb, e = .returned (slv (dec N c F) ao ca bo cb) /\ Got w.heap.size w' (dec N c F) ao ca bo cb /\ Below w.heap.size w w' := by
  obtain ⟨d, hd⟩ : ∃ d, d = c.toNat := ⟨_, rfl⟩
  have hd1 : 8 <= d := by omega
  have hd2 : d <= 64 := by omega
  have hnd : n = 12 + 4 * N + d := by rw [hd]; exact hn
  have HR : Hid (∀ j, j < n -> w.cell? ⟨g, o + j, none⟩ = some (.int .u8 (((F j).toNat : Nat) : Int))) := hr
  have HDD : Hid (∀ ao ca bo cb, slv (dec N c F) ao ca bo cb = .agg #[.int .u8 (((F 2).toNat : Nat) : Int), .int .i64 ((nm F 3 1 : Nat) : Int), .int .i64 ((nm F 4 4 : Nat) : Int), .int .i64 ((nm F 8 4 : Nat) : Int), .slice ao N ca, .slice bo d cb]) := fun _ _ _ _ => by rw [hd]; rfl
  have HGG : Hid (∀ v ao ca bo cb, Own w.heap.size v ao N ca (vf F N) -> OwU w.heap.size v bo d cb (fun j => F (12 + 4 * N + j)) -> Got w.heap.size v (dec N c F) ao ca bo cb) := fun v ao ca bo cb h1 h2 =>
    ⟨h1.congr fun i hi => by unfold vf; rw [if_pos hi]; rfl, by rw [hd] at h2; exact h2⟩
  obtain ⟨m, hm⟩ : ∃ m, m = 4 * N := ⟨_, rfl⟩
  rw [<- hd, <- hm]
  clear hr hn hd hc hc2
  obtain ⟨w0, hw0⟩ : ∃ w0, w0 = w.alloc (.cells (prt g o m d) 119) := ⟨_, rfl⟩
  obtain ⟨w1, hw1⟩ : ∃ w1, w1 = w0.alloc (.cells #[.int .u8 0, .int .i64 0, .int .i64 0, .int .i64 0, .slice none 0 0, .slice none 0 0] 83) := ⟨_, rfl⟩
  have b0 : Below w.heap.size w w0 := by rw [hw0]; exact below_alloc _ _
  have b1 : Below w0.heap.size w0 w1 := by rw [hw1]; exact below_alloc _ _
  have z0 : w0.heap.size = w.heap.size + 1 := by rw [hw0]; simp
  have z1 : w1.heap.size = w.heap.size + 2 := by rw [hw1]; simp [z0]
  have HB1 : Hid (Below w.heap.size w w1) := below_then b0 b1
  have C0 : Hid (Cel w1 w.heap.size (prt g o m d).toList) := (cel_new hw0).below b1
  have C1 : Hid (Cel w1 (w.heap.size + 1) [.int .u8 0, .int .i64 0, .int .i64 0, .int .i64 0, .slice none 0 0, .slice none 0 0]) := by show Cel _ _ _; rw [<- z0]; exact cel_new hw1
  have F1 : Hid (∀ v, Below w1.heap.size w1 v -> ∀ i, v.frozen? ⟨w.heap.size + 1, i, none⟩ = false) := fun v hv i => by rw [<- z0]; exact blk_free hw1 hv i
  have HR1 : Hid (∀ j, j < n -> w1.cell? ⟨g, o + j, none⟩ = some (.int .u8 (((F j).toNat : Nat) : Int))) := fun j hj => held (HR.out j hj) HB1.out
  unfold prt at C0 hw0 ⊢
  have y1 := C0.out 1 _ rfl
  have y2 := C0.out 2 _ rfl
  have y3 := C0.out 3 _ rfl
  have y4 := C0.out 4 _ rfl
  have y5 := C0.out 5 _ rfl
  have y6 := C0.out 6 _ rfl
  have yk := HR1.out 2 (by omega)
  obtain ⟨kn, hkn⟩ : ∃ kn : Nat, (F 2).toNat = kn := ⟨_, rfl⟩
  rw [hkn] at yk
  obtain ⟨x1, hx1⟩ : ∃ x1, x1 = nm F 3 1 := ⟨_, rfl⟩
  obtain ⟨x2, hx2⟩ : ∃ x2, x2 = nm F 4 4 := ⟨_, rfl⟩
  obtain ⟨x3, hx3⟩ : ∃ x3, x3 = nm F 8 4 := ⟨_, rfl⟩
  have KS : Hid (∀ v, Below w1.heap.size w1 v -> (v.cell? ⟨w.heap.size, 1, none⟩ = some (.slice (some ⟨g, o + 2, none⟩) 1 1) /\ v.cell? ⟨w.heap.size, 2, none⟩ = some (.slice (some ⟨g, o + 3, none⟩) 1 1) /\ v.cell? ⟨w.heap.size, 3, none⟩ = some (.slice (some ⟨g, o + 4, none⟩) 4 4) /\ v.cell? ⟨w.heap.size, 4, none⟩ = some (.slice (some ⟨g, o + 8, none⟩) 4 4) /\ v.cell? ⟨w.heap.size, 5, none⟩ = some (.slice (some ⟨g, o + 12, none⟩) m m) /\ v.cell? ⟨w.heap.size, 6, none⟩ = some (.slice (some ⟨g, o + 12 + m, none⟩) d d) /\ v.cell? ⟨g, o + 2, none⟩ = some (.int .u8 (kn : Int)))) := fun v hv => ⟨held y1 hv, held y2 hv, held y3 hv, held y4 hv, held y5 hv, held y6 hv, held yk hv⟩
  have P1 : Hid (∀ v, Below w1.heap.size w1 v -> Calls Tryz.prog 94 #[.slice (some ⟨g, o + 3, none⟩) 1 1] v fun e w' => e = .returned (.int .i64 (x1 : Int)) /\ w' = v) := fun v hv => by
    rw [hx1, <- nm_shift]
    exact putTogether_any v g (o + 3) 1 1 (fun j => F (3 + j)) (fun j hj => by rw [Nat.add_assoc]; exact held (HR1.out (3 + j) (by omega)) hv) (by omega)
  have P2 : Hid (∀ v, Below w1.heap.size w1 v -> Calls Tryz.prog 94 #[.slice (some ⟨g, o + 4, none⟩) 4 4] v fun e w' => e = .returned (.int .i64 (x2 : Int)) /\ w' = v) := fun v hv => by
    rw [hx2, <- nm_shift]
    exact putTogether_any v g (o + 4) 4 4 (fun j => F (4 + j)) (fun j hj => by rw [Nat.add_assoc]; exact held (HR1.out (4 + j) (by omega)) hv) (by omega)
  have P3 : Hid (∀ v, Below w1.heap.size w1 v -> Calls Tryz.prog 94 #[.slice (some ⟨g, o + 8, none⟩) 4 4] v fun e w' => e = .returned (.int .i64 (x3 : Int)) /\ w' = v) := fun v hv => by
    rw [hx3, <- nm_shift]
    exact putTogether_any v g (o + 8) 4 4 (fun j => F (8 + j)) (fun j hj => by rw [Nat.add_assoc]; exact held (HR1.out (8 + j) (by omega)) hv) (by omega)
  have PV : Hid (∀ v i, i < N -> Below w1.heap.size w1 v -> Calls Tryz.prog 94 #[.slice (some ⟨g, o + 12 + 4 * i, none⟩) 4 4] v fun e w' => e = .returned (.int .i64 ((nm F (12 + 4 * i) 4 : Nat) : Int)) /\ w' = v) := fun v i hi hv => by
    rw [<- nm_shift F (12 + 4 * i)]
    exact putTogether_any v g (o + 12 + 4 * i) 4 4 (fun j => F (12 + 4 * i + j)) (fun j hj => by rw [show o + 12 + 4 * i + j = o + (12 + 4 * i + j) by omega]; exact held (HR1.out (12 + 4 * i + j) (by omega)) hv) (by omega)
  have VE : Hid (∀ v i, i < N -> Calls Tryz.prog 95 #[.agg #[.slice (some ⟨g, o, none⟩) 2 2, .slice (some ⟨g, o + 2, none⟩) 1 1, .slice (some ⟨g, o + 3, none⟩) 1 1, .slice (some ⟨g, o + 4, none⟩) 4 4, .slice (some ⟨g, o + 8, none⟩) 4 4, .slice (some ⟨g, o + 12, none⟩) m m, .slice (some ⟨g, o + 12 + m, none⟩) d d], .int .i64 (i : Int)] v fun e w' => e = .returned (.slice (some ⟨g, o + 12 + 4 * i, none⟩) 4 4) /\ Below v.heap.size v w') := fun v i hi => by
    have := version_any v g o N d i hi hN2
    rw [<- hm] at this
    exact this
  have hm4 : (m : Int) / 4 = (N : Int) := by omega
  have HMM : Hid (m = 4 * N) := hm
  have hwN : IntKind.i64.wrap (N : Int) = (N : Int) := by rw [IntKind.wrap_i64]; omega
  have hq1 := run_make_row' (P := Tryz.prog) 33 3 (.int .i64 0) 8 Tryz.underlying33 info3 rfl .i64 .i64 N (by omega) (by omega)
  have hq2 := run_make_row' (P := Tryz.prog) 74 5 (.int .u8 0) 1 Tryz.underlying74 info5 rfl .i64 .i64 d (by omega) (by omega)
  rw [made_byF] at hq2
  have HX : Hid ((F 2).toNat = kn /\ x1 = nm F 3 1 /\ x2 = nm F 4 4 /\ x3 = nm F 8 4) := ⟨hkn, hx1, hx2, hx3⟩
  have HQ1 : Hid (∀ w, (Instr.makeSlice 33 (.int .i64 (N : Int)) (.int .i64 (N : Int))).run Tryz.prog w = .ok (.slice (some ⟨w.heap.size, 0, none⟩) N N) (w.alloc (.cells (madeCells #[.int .i64 0] N) 3))) := hq1
  have HQ2 : Hid (∀ w, (Instr.makeSlice 74 (.int .i64 (d : Int)) (.int .i64 (d : Int))).run Tryz.prog w = .ok (.slice (some ⟨w.heap.size, 0, none⟩) d d) (w.alloc (.cells (byF d (fun _ => 0)).toArray 5))) := hq2
  have HWN : Hid (IntKind.i64.wrap (N : Int) = (N : Int) /\ (m : Int) / 4 = (N : Int)) := ⟨hwN, hm4⟩
  have HZ1 : Hid (w1.heap.size = w.heap.size + 2) := z1
  clear hx1 hx2 hx3 hkn hm z1 hq1 hq2 hm4 hwN y1 y2 y3 y4 y5 y6 yk
  go_enter Tryz.func65, Tryz.ntmps65
  go_wp2_with fail
  rw [<- hw0, <- hw1]
  clear hw0 hw1 b0 b1 z0
  refine wp_region_noPanic (read_region w1 w.heap.size g o m d N kn x1 x2 x3 _ _ _ _ KS.out P1.out P2.out P3.out HQ1.out HQ2.out HWN.out.1 HWN.out.2 _ (fun _ _ _ h => h) (fun g1 g2 g3 v hb f1 f2 f3 => NoPanic.normal ?_))
  have n13 := f1.ne f3 (by decide)
  have n23 := f2.ne f3 (by decide)
  have n12 := f1.ne f2 (by decide)
  have HOW : Hid (Own w1.heap.size v (some ⟨g1, 0, none⟩) N N (vf F 0)) := own_made f1 f1.1 (by omega) F
  have HBK : Hid (Bk v g2 d (fun _ => 0)) := f2.2
  have HSL : Hid (At w1 v g3 #[.int .u8 (kn : Int), .int .i64 (x1 : Int), .int .i64 (x2 : Int), .int .i64 (x3 : Int), .slice (some ⟨g1, 0, none⟩) N N, .slice (some ⟨g2, 0, none⟩) d d] 83) := f3
  have HBV : Hid (Below w1.heap.size w1 v) := hb
  have HG1 : Hid (w1.heap.size <= g1 /\ w1.heap.size <= g2 /\ w1.heap.size <= g3) := ⟨f1.1, f2.1, f3.1⟩
  have t4 := f3.cell (i := 4) rfl
  clear f1 f2 f3 hb
  go_wp2_with fail
  go_loopw [31] (fun x wr => ∃ i : Nat, i <= N /\ x = .int .i64 (i : Int) /\ Hid (Own w1.heap.size wr (some ⟨g1, 0, none⟩) N N (vf F i)) /\ Hid (Bk wr g2 d (fun _ => 0)) /\ Hid (At w1 wr g3 #[.int .u8 (kn : Int), .int .i64 (x1 : Int), .int .i64 (x2 : Int), .int .i64 (x3 : Int), .slice (some ⟨g1, 0, none⟩) N N, .slice (some ⟨g2, 0, none⟩) d d] 83) /\ Hid (Below w1.heap.size w1 wr)) (fun x _ => N - (intOf x).toNat)
  case atStart => exact ⟨0, Nat.zero_le _, rfl, HOW, HBK, HSL, HBV⟩
  case round =>
    obtain ⟨i, hi, rfl, hO, hK, hA, hW⟩ := hrel
    by_cases hlt : i < N
    · have cc := C0.out.below hW.out
      have y0 := cc 0 _ rfl
      have y1 := cc 1 _ rfl
      have y2 := cc 2 _ rfl
      have y3 := cc 3 _ rfl
      have y4 := cc 4 _ rfl
      have y5 := cc 5 _ rfl
      have y6 := cc 6 _ rfl
      have u4 := hA.out.cell (i := 4) rfl
      have KS2 : Hid (∀ v, Below w1.heap.size w1 v -> At w1 v g3 #[.int .u8 (kn : Int), .int .i64 (x1 : Int), .int .i64 (x2 : Int), .int .i64 (x3 : Int), .slice (some ⟨g1, 0, none⟩) N N, .slice (some ⟨g2, 0, none⟩) d d] 83 -> (v.cell? ⟨w.heap.size, 0, none⟩ = some (.slice (some ⟨g, o, none⟩) 2 2) /\ v.cell? ⟨w.heap.size, 1, none⟩ = some (.slice (some ⟨g, o + 2, none⟩) 1 1) /\ v.cell? ⟨w.heap.size, 2, none⟩ = some (.slice (some ⟨g, o + 3, none⟩) 1 1) /\ v.cell? ⟨w.heap.size, 3, none⟩ = some (.slice (some ⟨g, o + 4, none⟩) 4 4) /\ v.cell? ⟨w.heap.size, 4, none⟩ = some (.slice (some ⟨g, o + 8, none⟩) 4 4) /\ v.cell? ⟨w.heap.size, 5, none⟩ = some (.slice (some ⟨g, o + 12, none⟩) m m) /\ v.cell? ⟨w.heap.size, 6, none⟩ = some (.slice (some ⟨g, o + 12 + m, none⟩) d d) /\ v.cell? ⟨g3, 4, none⟩ = some (.slice (some ⟨g1, 0, none⟩) N N))) := fun v hv ha => by
        have cc := C0.out.below hv
        exact ⟨cc 0 _ rfl, cc 1 _ rfl, cc 2 _ rfl, cc 3 _ rfl, cc 4 _ rfl, cc 5 _ rfl, cc 6 _ rfl, ha.cell (i := 4) rfl⟩
      have i1 : (0 : Int) <= (i : Int) := by omega
      have i2 : (i : Int) < (N : Int) := by omega
      obtain ⟨xi, hxi⟩ : ∃ xi : Int, xi = ((nm F (12 + 4 * i) 4 : Nat) : Int) := ⟨_, rfl⟩
      have PVi : Hid (∀ v, Below w1.heap.size w1 v -> Calls Tryz.prog 94 #[.slice (some ⟨g, o + 12 + 4 * i, none⟩) 4 4] v fun e w' => e = .returned (.int .i64 xi) /\ w' = v) := fun v hv => by rw [hxi]; exact PV.out v i hlt hv
      have HXI : Hid (xi = ((nm F (12 + 4 * i) 4 : Nat) : Int)) := hxi
      clear cc hxi
      go_wp2_with fail
      go_region_held3 (fun v => v.cell? ⟨w.heap.size, 0, none⟩ = some (.slice (some ⟨g, o, none⟩) 2 2) /\ v.cell? ⟨w.heap.size, 1, none⟩ = some (.slice (some ⟨g, o + 2, none⟩) 1 1) /\ v.cell? ⟨w.heap.size, 2, none⟩ = some (.slice (some ⟨g, o + 3, none⟩) 1 1) /\ v.cell? ⟨w.heap.size, 3, none⟩ = some (.slice (some ⟨g, o + 4, none⟩) 4 4) /\ v.cell? ⟨w.heap.size, 4, none⟩ = some (.slice (some ⟨g, o + 8, none⟩) 4 4) /\ v.cell? ⟨w.heap.size, 5, none⟩ = some (.slice (some ⟨g, o + 12, none⟩) m m) /\ v.cell? ⟨w.heap.size, 6, none⟩ = some (.slice (some ⟨g, o + 12 + m, none⟩) d d) /\ v.cell? ⟨g3, 4, none⟩ = some (.slice (some ⟨g1, 0, none⟩) N N)) ((first | (exact KS2.out _ (hW.out.trans (below_drew _ _)) hA.out.drew) | (exact KS2.out _ HWF.out HAF.out) | (exact KS2.out _ (b_set HWF.out HG1.out.1 _) (HAF.out.far n13.symm _ _))))
        ((first | (go_at_call 95; refine (VE.out _ i hlt).mono ?_; rintro e wf ⟨rfl, hf0⟩; have hf : Hid (Below wr.heap.size wr wf) := of_drew' hf0; clear hf0; have HWF : Hid (Below w1.heap.size w1 wf) := below_then hW.out hf.out; have HAF : Hid (At w1 wf g3 #[.int .u8 (kn : Int), .int .i64 (x1 : Int), .int .i64 (x2 : Int), .int .i64 (x3 : Int), .slice (some ⟨g1, 0, none⟩) N N, .slice (some ⟨g2, 0, none⟩) d d] 83) := hA.out.below hf.out; have HOF : Hid (Own w1.heap.size wf (some ⟨g1, 0, none⟩) N N (vf F i)) := hO.out.below hf.out; have HKF : Hid (Bk wf g2 d (fun _ => 0)) := hK.out.below hf.out; have ck := HOF.out.cell hlt; have fk := HOF.out.free i) | (go_at_call 94; refine (PVi.out _ HWF.out).mono ?_; rintro e wg ⟨rfl, rfl⟩)))
      all_goals (
        go_wp2_with fail
        go_roundw
        case rel => exact ⟨i + 1, by omega, by go_num, (by have := HOF.out.set i xi; rw [HXI.out, vf_succ] at this; rw [HXI.out]; exact this), (by show Bk _ _ _ _; exact (Below.heap_setCell _ _ _ _ n12.symm).trans HKF.out), HAF.out.far n13.symm _ _, b_set HWF.out HG1.out.1 _⟩
        case measure => simp [intOf]; omega)
    · obtain rfl : i = N := by omega
      have cc := C0.out.below hW.out
      have y6 := cc 6 _ rfl
      have hB6 : Bec wr (some ⟨g, o + 12 + m, none⟩) d d (fun j => F (12 + 4 * i + j)) := ⟨fun _ => ⟨g, o + 12 + m, rfl, fun j hj => by
        rw [show o + 12 + m + j = o + (12 + 4 * i + j) by rw [HMM.out]; omega]
        exact held (HR1.out (12 + 4 * i + j) (by omega)) hW.out⟩, (fun h => by cases h), Nat.le_refl _⟩
      obtain ⟨wh, hrun, gh, oh⟩ := run_copy_bk (off := 0) (dC := d) (show 0 < d by omega) hK.out hB6 (by omega)
      have u5 := hA.out.cell (i := 5) rfl
      have HAH : Hid (At w1 wh g3 #[.int .u8 (kn : Int), .int .i64 (x1 : Int), .int .i64 (x2 : Int), .int .i64 (x3 : Int), .slice (some ⟨g1, 0, none⟩) i i, .slice (some ⟨g2, 0, none⟩) d d] 83) := hA.out.only oh n23.symm
      have HWH : Hid (Below w1.heap.size w1 wh) := hW.out.trans (oh.below (fun j hj => by rw [hj]; exact HG1.out.2.1) hW.out.size)
      have HOH : Hid (Own w1.heap.size wh (some ⟨g1, 0, none⟩) i i (vf F i)) := by
        refine ⟨hO.out.1, ?_⟩
        rcases hO.out.2 with h1 | ⟨g', cap', cur, h1, h2, h3, h4⟩
        · exact .inl h1
        · cases h1
          exact .inr ⟨g1, _, cur, rfl, h2, (oh.block g1 (Array.getElem?_eq_some_iff.1 h3).1 n12).trans h3, h4⟩
      have HGH : Hid (Bk wh g2 d (fun j => F (12 + 4 * i + j))) := gh.congr fun j hj => by rw [upR_in (by omega), Nat.sub_zero]
      have v0 := HAH.out.cell (i := 0) rfl
      have v1 := HAH.out.cell (i := 1) rfl
      have v2 := HAH.out.cell (i := 2) rfl
      have v3 := HAH.out.cell (i := 3) rfl
      have v4 := HAH.out.cell (i := 4) rfl
      have v5 := HAH.out.cell (i := 5) rfl
      have ce := C1.out.below HWH.out
      have c0 := ce 0 _ rfl
      have c1 := ce 1 _ rfl
      have c2 := ce 2 _ rfl
      have c3 := ce 3 _ rfl
      have c4 := ce 4 _ rfl
      have c5 := ce 5 _ rfl
      have cf := F1.out wh HWH.out
      have q3 : ¬ g3 = w.heap.size + 1 := by have := HG1.out.2.2; have := HZ1.out; omega
      have q3' : ¬ w.heap.size + 1 = g3 := by omega
      clear cc gh oh hB6 ce
      go_wp2_with fail
      refine bodyPost_ret (v := .agg #[.int .u8 (kn : Int), .int .i64 (x1 : Int), .int .i64 (x2 : Int), .int .i64 (x3 : Int), .slice (some ⟨g1, 0, none⟩) i i, .slice (some ⟨g2, 0, none⟩) d d]) (by simp [results, Tryz.results65, go_sem, c0, c1, c2, c3, c4, c5]) rfl ?_
      refine ⟨some ⟨g1, 0, none⟩, i, some ⟨g2, 0, none⟩, d, ?_, ?_, ?_⟩
      · rw [HDD.out, <- HX.out.2.1, <- HX.out.2.2.1, <- HX.out.2.2.2, HX.out.1]
      · have hz := HZ1.out
        refine HGG.out _ _ _ _ _ ?_ ?_
        · refine (HOH.out.stay fun b hb _ => ?_).mono (by omega)
          rw [Below.heap_setCell _ _ _ _ (by simp only; omega), Below.heap_setCell _ _ _ _ (by simp only; omega), Below.heap_setCell _ _ _ _ (by simp only; omega), Below.heap_setCell _ _ _ _ (by simp only; omega), Below.heap_setCell _ _ _ _ (by simp only; omega), Below.heap_setCell _ _ _ _ (by simp only; omega)]
        · refine ((HGH.out.own (B := w1.heap.size) HG1.out.2.1 (by omega)).stay fun b hb _ => ?_).mono (by omega)
          rw [Below.heap_setCell _ _ _ _ (by simp only; omega), Below.heap_setCell _ _ _ _ (by simp only; omega), Below.heap_setCell _ _ _ _ (by simp only; omega), Below.heap_setCell _ _ _ _ (by simp only; omega), Below.heap_setCell _ _ _ _ (by simp only; omega), Below.heap_setCell _ _ _ _ (by simp only; omega)]
      · have := below_then HB1.out HWH.out
        exact (((((this.setCell (Nat.le_succ _) _).setCell (Nat.le_succ _) _).setCell (Nat.le_succ _) _).setCell (Nat.le_succ _) _).setCell (Nat.le_succ _) _).setCell (Nat.le_succ _) _
end Go.Proofs.YtngcdlodcdgcaaaGreat
