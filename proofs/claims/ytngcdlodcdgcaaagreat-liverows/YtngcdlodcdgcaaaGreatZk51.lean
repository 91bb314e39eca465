import Derived.Test.YtngcdlodcdgcaaaGreatZk24
namespace Go.Proofs.YtngcdlodcdgcaaaGreat
open Go.RowKit
theorem Bk.own2 {w : World} {B g n : Nat} {G : Nat -> UInt8} (h : Bk w g n G) (hB : B <= g) (hn : n <= 1000000) : OwU B w (some ⟨g, 0, none⟩) n n G := by
  refine ⟨by rw [byF_length, Nat.mul_one], .inr ⟨g, n, _, rfl, hB, h, Nat.le_refl _, by unfold maxLen; omega, by simp [byF_length], ?_⟩⟩
  rw [List.take_of_length_le (by rw [List.toList_toArray, byF_length]; omega)]
theorem run_copy_bk2 {w : World} {g n off k dn dC : Nat} {G H : Nat -> UInt8} {bo : Option Addr} {cb : Nat} (h0 : 0 < k) (hg : Bk w g n G) (hb : Bec w bo k cb H) (hfit : off + k <= n) (hdn : k <= dn) :
    ∃ w', (Builtin.copy_ #[74, 74] 3 #[.slice (some ⟨g, off, none⟩) dn dC, .slice bo k cb]).run Tryz.prog w = .ok (goInt k) w' /\ Bk w' g n (upR G off k H) /\ Only (fun b => b = g) w w' := by
  obtain ⟨b, bof, rfl, hc⟩ := hb.rd h0
  have hl : (byF k H).length = Nat.min k dn := by rw [byF_length]; exact (Nat.min_eq_left hdn).symm
  have hrun := run_copy_row (P := Tryz.prog) w 74 74 3 5 g off dn dC ⟨b, bof, none⟩ k cb (byF n G).toArray 5 (byF k H) Tryz.underlying74 (by kernel_rfl) hg hl (bec_news hb) (by simp [byF_length]; exact hfit) (byF_one k H)
  rw [byF_length] at hrun
  refine ⟨_, hrun, ?_, only_setRow _ _ _⟩
  unfold Bk
  rw [<- byF_splice G H hfit]
  have := setRow_heap w g _ ((byF n G).take off ++ (byF k H ++ (byF n G).drop (off + k))).toArray 5 _ hg
  simpa using this
set_option maxHeartbeats 8000000 in
set_option maxRecDepth 100000 in
theorem copy_reg (w1 : World) (g nn a f b st W b2 o2 cap : Nat) (G D : Nat -> UInt8) (haf : a <= f) (hsf : st <= f) (hfb : f < b) (hbs : b <= st + W) (hbn : b - a <= nn) (hcap : W <= cap) (hbig : b <= 2000000) (hnn : nn <= 1000000) (hB : Bk w1 g nn G) (hD : ∀ j, j < W -> w1.cell? ⟨b2, o2 + j, none⟩ = some (.int .u8 (((D j).toNat : Nat) : Int))) (x0 x1 x3 x4 x5 x6 x7 x8 x9 x10 x11 x13 x18 x19 x20 x21 x22 x23 x24 x25 x26 x27 x28 x29 x30 x31 x32 x33 x34 x35 x36 x37 x38 x39 x40 x41 x42 x43 x44 x45 x46 x47 x48 x49 x50 x51 x52 x53 x54 x55 x56 x57 x58 x59 x60 x61 x62 x63 x64 x65 x66 x67 x68 x69 x70 x71 x72 x73 x74 x75 x76 x77 x78 : Value)
    (Q : Exit -> Act -> World -> Prop) (HQ : Hid (∀ v y63 y64 y65 y66 y67 y68 y69 y70 y71 y72 y73 y74 y75 y76, Bk v g nn (upR G (f - a) (b - f) (fun j => D (f - st + j))) -> Only (fun b => b = g) w1 v -> Q .normal { tmps := #[x0, x1, .int .i64 (a : Int), x3, x4, x5, x6, x7, x8, x9, x10, x11, .slice (some ⟨g, 0, none⟩) nn nn, x13, .int .i64 (st : Int), .int .i64 (f : Int), .int .i64 (b : Int), .slice (some ⟨b2, o2, none⟩) W cap, x18, x19, x20, x21, x22, x23, x24, x25, x26, x27, x28, x29, x30, x31, x32, x33, x34, x35, x36, x37, x38, x39, x40, x41, x42, x43, x44, x45, x46, x47, x48, x49, x50, x51, x52, x53, x54, x55, x56, x57, x58, x59, x60, x61, x62, y63, y64, y65, y66, y67, y68, y69, y70, y71, y72, y73, y74, y75, y76, x77, x78], defers := [] } v)) :
    Code.wp Tryz.prog (Code.region 14 #[{ dst := some 63, op := Op.move (.tmp 12), type := 74, pos := "part.go:27", after := #[], guard := none }, { dst := some 64, op := Op.move (.tmp 15), type := 3, pos := "part.go:27", after := #[], guard := none }, { dst := some 65, op := Op.move (.tmp 2), type := 3, pos := "part.go:27", after := #[], guard := none }, { dst := some 66, op := Op.binOp BinOp.sub 3 (.tmp 64) (.tmp 65) 3, type := 3, pos := "part.go:27", after := #[{ on := 1, ground := .data }, { on := 2, ground := .data }], guard := none }, { dst := some 67, op := Op.slice 74 (.tmp 63) (some (.tmp 66)) none none, type := 74, pos := "part.go:27", after := #[{ on := 0, ground := .data }, { on := 3, ground := .data }], guard := none }, { dst := some 68, op := Op.move (.tmp 17), type := 74, pos := "part.go:27", after := #[], guard := none }, { dst := some 69, op := Op.move (.tmp 15), type := 3, pos := "part.go:27", after := #[], guard := none }, { dst := some 70, op := Op.move (.tmp 14), type := 3, pos := "part.go:27", after := #[], guard := none }, { dst := some 71, op := Op.binOp BinOp.sub 3 (.tmp 69) (.tmp 70) 3, type := 3, pos := "part.go:27", after := #[{ on := 6, ground := .data }, { on := 7, ground := .data }], guard := none }, { dst := some 72, op := Op.move (.tmp 16), type := 3, pos := "part.go:27", after := #[], guard := none }, { dst := some 73, op := Op.move (.tmp 14), type := 3, pos := "part.go:27", after := #[], guard := none }, { dst := some 74, op := Op.binOp BinOp.sub 3 (.tmp 72) (.tmp 73) 3, type := 3, pos := "part.go:27", after := #[{ on := 9, ground := .data }, { on := 10, ground := .data }], guard := none }, { dst := some 75, op := Op.slice 74 (.tmp 68) (some (.tmp 71)) (some (.tmp 74)) none, type := 74, pos := "part.go:27", after := #[{ on := 5, ground := .data }, { on := 8, ground := .data }, { on := 11, ground := .data }], guard := none }, { dst := some 76, op := Op.call { callee := Callee.builtin Builtin.copy, args := #[.tmp 67, .tmp 75], argTypes := #[74, 74] }, type := 3, pos := "part.go:27", after := #[{ on := 4, ground := .data }, { on := 12, ground := .data }], guard := none }] true) Q { tmps := #[x0, x1, .int .i64 (a : Int), x3, x4, x5, x6, x7, x8, x9, x10, x11, .slice (some ⟨g, 0, none⟩) nn nn, x13, .int .i64 (st : Int), .int .i64 (f : Int), .int .i64 (b : Int), .slice (some ⟨b2, o2, none⟩) W cap, x18, x19, x20, x21, x22, x23, x24, x25, x26, x27, x28, x29, x30, x31, x32, x33, x34, x35, x36, x37, x38, x39, x40, x41, x42, x43, x44, x45, x46, x47, x48, x49, x50, x51, x52, x53, x54, x55, x56, x57, x58, x59, x60, x61, x62, x63, x64, x65, x66, x67, x68, x69, x70, x71, x72, x73, x74, x75, x76, x77, x78], defers := [] } w1 := by
  have hbec : Bec w1.drew (some ⟨b2, o2 + (f - st), none⟩) (b - f) (cap - (f - st)) (fun j => D (f - st + j)) := ⟨fun _ => ⟨b2, o2 + (f - st), rfl, fun j hj => by
    rw [Nat.add_assoc]
    exact held (hD (f - st + j) (by omega)) (below_drew _ _)⟩, (fun h => by cases h), by omega⟩
  obtain ⟨we, hrun, gk, go⟩ := run_copy_bk2 (off := f - a) (dn := nn - (f - a)) (dC := nn - (f - a)) (show 0 < b - f by omega) (hB.below (below_drew _ _)) hbec (by omega) (by omega)
  have HGK : Hid (Bk we g nn (upR G (f - a) (b - f) (fun j => D (f - st + j)))) := gk
  have HGO : Hid (Only (fun b => b = g) w1 we) := (Only.of_below (below_drew _ _)).trans go
  clear hbec gk go hB hD
  have i1 : (a : Int) <= (f : Int) := by omega
  have i2 : (st : Int) <= (f : Int) := by omega
  have i3 : (f : Int) < (b : Int) := by omega
  have i4 : (b : Int) <= (st : Int) + (W : Int) := by omega
  have i5 : (b : Int) - (a : Int) <= (nn : Int) := by omega
  have i6 : (W : Int) <= (cap : Int) := by omega
  have i7 : (b : Int) <= 2000000 := by omega
  have w1' : IntKind.i64.wrap ((f : Int) - (a : Int)) = ((f - a : Nat) : Int) := by rw [IntKind.wrap_i64]; omega
  have w2' : IntKind.i64.wrap ((f : Int) - (st : Int)) = ((f - st : Nat) : Int) := by rw [IntKind.wrap_i64]; omega
  have w3' : IntKind.i64.wrap ((b : Int) - (st : Int)) = ((b - st : Nat) : Int) := by rw [IntKind.wrap_i64]; omega
  have e1 : b - st - (f - st) = b - f := by omega
  refine wp_region_still_tail 13 (by kernel_rfl) (by kernel_rfl) ?_
  simp only [List.take_succ_cons, List.take_zero, List.drop_succ_cons, List.drop_zero]
  have p1 : f <= nn + a := by omega
  have p2 : ¬ nn = f - a := by omega
  have p3 : b <= cap + st := by omega
  have p4 : f <= b - st + st := by omega
  have p5 : ¬ cap = f - st := by omega
  repeat (refine wpStill_step (fun K hK => ?_); go_simp; (try simp only [w1', w2', w3']); (try simp only [if_pos p1, if_neg p2, if_pos p3, if_pos p4, if_neg p5]); refine hK _ ?_; clear hK K)
  refine wpStill_nil ?_
  go_wp2
  exact HQ.out _ _ _ _ _ _ _ _ _ _ _ _ _ _ _ HGK.out HGO.out
end Go.Proofs.YtngcdlodcdgcaaaGreat
namespace Go.Proofs.YtngcdlodcdgcaaaGreat
open Go.RowKit
def obF (e : Nat -> Int) : Nat -> Int
  | 0 => 0
  | i + 1 => if obF e i = 0 then e i else obF e i
theorem obF_at {e : Nat -> Int} {i m : Nat} (h : obF e i = 0) (h1 : e i ≠ 0) (hm : i < m) : obF e m = e i := by
  induction m with
  | zero => omega
  | succ m ih =>
    by_cases g : i = m
    · subst g; rw [obF, if_pos h]
    · have := ih (by omega)
      rw [obF, if_neg (by rw [this]; exact h1), this]
def obH (e : Nat -> Int) (W a z i : Nat) : Int := if max a (i * W) < min z (i * W + W) then e i else 0
def ctn (W : Nat) (d : Nat -> Nat -> UInt8) (p : Nat) : UInt8 := d (p / W) (p % W)
def gi (W : Nat) (d : Nat -> Nat -> UInt8) (a i p : Nat) : UInt8 := if a + p < i * W then ctn W d (a + p) else 0
theorem gi_zero (W : Nat) (d : Nat -> Nat -> UInt8) (a p : Nat) : gi W d a 0 p = 0 := by unfold gi; rw [if_neg (by omega)]
theorem gi_skip {W : Nat} {d : Nat -> Nat -> UInt8} {a z i p : Nat} (h : ¬ max a (i * W) < min z (i * W + W)) (hp : p < z - a) : gi W d a i p = gi W d a (i + 1) p := by
  unfold gi
  rw [Nat.succ_mul]
  generalize i * W = st at *
  by_cases h1 : a + p < st
  · rw [if_pos h1, if_pos (by omega)]
  · rw [if_neg h1, if_neg (by omega)]
theorem gi_step {W : Nat} {d : Nat -> Nat -> UInt8} {a z i p f b : Nat} (hW : 0 < W) (hf : f = max a (i * W)) (hb : b = min z (i * W + W)) (h : f < b) (hp : p < z - a) :
    upR (gi W d a i) (f - a) (b - f) (fun j => d i (f - i * W + j)) p = gi W d a (i + 1) p := by
  have e0 : (i + 1) * W = i * W + W := Nat.succ_mul i W
  by_cases h1 : f - a <= p /\ p < f - a + (b - f)
  · rw [upR_in h1]
    unfold gi ctn
    have h2 : i * W <= a + p := by omega
    have h3 : a + p < i * W + W := by omega
    have e1 : (a + p) / W = i := Nat.div_eq_of_lt_le (by omega) (by rw [e0]; omega)
    have e2 : (a + p) % W = a + p - i * W := by
      have := Nat.div_add_mod (a + p) W
      rw [e1, Nat.mul_comm] at this
      omega
    rw [if_pos (by omega), e1, e2]
    show d i (f - i * W + (p - (f - a))) = _
    congr 1
    omega
  · rw [upR_out h1]
    unfold gi
    rw [e0]
    generalize i * W = st at *
    by_cases h2 : a + p < st
    · rw [if_pos h2, if_pos (by omega)]
    · rw [if_neg h2, if_neg (by omega)]
theorem gi_end {W : Nat} {d : Nat -> Nat -> UInt8} {a z s p : Nat} (hz : z <= s * W) (hp : p < z - a) : gi W d a s p = ctn W d (a + p) := by
  unfold gi; rw [if_pos (by omega)]
theorem val_mulN (i W : Nat) (h : i <= 1024) (h2 : W <= 768) : Value.int .i64 (wrap64 ((i : Int) * (W : Int))) = .int .i64 ((i * W : Nat) : Int) := by
  have h3 : i * W <= 1024 * 768 := Nat.mul_le_mul h h2
  rw [<- Int.natCast_mul, show wrap64 ((i * W : Nat) : Int) = ((i * W : Nat) : Int) by unfold wrap64; omega]
set_option maxHeartbeats 4000000 in
set_option maxRecDepth 100000 in
theorem between_go {k r c q : Int} (W : Nat) (hW : 0 < W) (hW2 : W <= 768) (w : World) (lo : Option Addr) (n cl : Nat) (so : Option Addr) (s sc : Nat) (hs : s <= 1024) (R V : Nat -> Int) (a z : Nat) (haz : a <= z) (hz : z <= s * W) (ev : Nat -> Int) (d : Nat -> Nat -> UInt8)
    (HC : Hid (∀ i, i < s -> ∃ b o, so = some ⟨b, o, none⟩ /\ w.cell? ⟨b, o + i * 2, none⟩ = some (.int .i64 (R i)) /\ w.cell? ⟨b, o + i * 2 + 1, none⟩ = some (.int .i64 (V i))))
    (HW : Hid (∀ u, Calls Tryz.prog 88 #[.agg #[.int .i64 k, .int .i64 r, .int .i64 c, .int .i64 q]] u fun e w' => e = .returned (.tuple #[.int .i64 (W : Int), .int .i64 0]) /\ Below u.heap.size u w'))
    (HR : Hid (∀ i, i < s -> ∀ u, Below w.heap.size w u -> Calls Tryz.prog 89 #[.agg #[.int .i64 k, .int .i64 r, .int .i64 c, .int .i64 q, .slice lo n cl], .agg #[.int .i64 (R i), .int .i64 (V i)]] u (AnsB u (ev i) W (d i)))) :
    Calls Tryz.prog 57 #[.agg #[.int .i64 k, .int .i64 r, .int .i64 c, .int .i64 q, .slice lo n cl], .slice so s sc, .int .i64 (a : Int), .int .i64 (z : Int)] w (AnsB w (obF (obH ev W a z) s) (z - a) (fun p => ctn W d (a + p))) := by
  obtain ⟨w0, hw0⟩ : ∃ w0, w0 = w.alloc (.cells #[.int .i64 k, .int .i64 r, .int .i64 c, .int .i64 q, .slice lo n cl] 26) := ⟨_, rfl⟩
  have b0 : Below w.heap.size w w0 := by rw [hw0]; exact below_alloc _ _
  have z0 : w0.heap.size = w.heap.size + 1 := by rw [hw0]; simp
  have HQ : Hid (∀ u, Below w0.heap.size w0 u -> u.cell? ⟨w.heap.size, 0, none⟩ = some (.int .i64 k) /\ u.cell? ⟨w.heap.size, 1, none⟩ = some (.int .i64 r) /\ u.cell? ⟨w.heap.size, 2, none⟩ = some (.int .i64 c) /\ u.cell? ⟨w.heap.size, 3, none⟩ = some (.int .i64 q) /\ u.cell? ⟨w.heap.size, 4, none⟩ = some (.slice lo n cl)) := fun u hu => ⟨blk_held hw0 hu 0 rfl, blk_held hw0 hu 1 rfl, blk_held hw0 hu 2 rfl, blk_held hw0 hu 3 rfl, blk_held hw0 hu 4 rfl⟩
  have HBB : Hid (Below w.heap.size w w0) := b0
  have HZ0 : Hid (w0.heap.size = w.heap.size + 1) := z0
  have hzs : s * W <= 1024 * 768 := Nat.mul_le_mul hs hW2
  have HZS : Hid (z <= s * W) := hz
  obtain ⟨nn, hnn⟩ : ∃ nn : Nat, nn = z - a := ⟨_, rfl⟩
  have hnb : nn <= 1000000 := by omega
  have hsub : (z : Int) - (a : Int) = (nn : Int) := by omega
  have hzb : (z : Int) <= 1000000 := by omega
  have hab : (a : Int) <= (z : Int) := by omega
  have HNN : Hid (nn = z - a) := hnn
  have hmk := run_make_row' (P := Tryz.prog) 74 5 (.int .u8 0) 1 Tryz.underlying74 info5 rfl .i64 .i64 nn (by omega) (by omega)
  rw [made_byF] at hmk
  obtain ⟨Z, hZ⟩ : ∃ Z, Z = (byF nn (fun _ => 0)).toArray := ⟨_, rfl⟩
  have HZV : Hid (Z = (byF nn (fun _ => 0)).toArray) := hZ
  rw [<- hZ] at hmk
  obtain ⟨EE, hEE⟩ : ∃ EE, EE = obF (obH ev W a z) s := ⟨_, rfl⟩
  have HEE : Hid (EE = obF (obH ev W a z) s) := hEE
  rw [<- hEE, <- hnn]
  unfold AnsB at HR ⊢
  clear hnn hZ hz hzs z0 b0 hEE
  go_enter Tryz.func57, Tryz.ntmps57
  go_wp2_with fail
  rw [<- hw0]
  clear hw0
  refine (HW.out _).mono ?_
  rintro e wa ⟨rfl, ha⟩
  obtain ⟨wb, hwb⟩ : ∃ wb, wb = wa.alloc (.cells Z 5) := ⟨_, rfl⟩
  have HBW : Hid (Below w0.heap.size w0 wb) := below_then ha (by rw [hwb]; exact below_alloc _ _)
  have HBK : Hid (Bk wb wa.heap.size nn (gi W d a 0)) := by
    show Bk _ _ _ _
    refine Bk.congr (G := fun _ => 0) ?_ (fun i _ => (gi_zero W d a i).symm)
    unfold Bk
    rw [hwb, <- HZV.out]
    exact heap_alloc_new wa _
  have HGE : Hid (w0.heap.size <= wa.heap.size) := ha.size
  obtain ⟨g, hg⟩ : ∃ g, g = wa.heap.size := ⟨_, rfl⟩
  rw [<- hg] at HBK HGE
  clear HW
  go_wp2_with fail
  rw [<- hwb, <- hg]
  clear hwb hg
  go_loopw [34] (fun x wr => ∃ i : Nat, i <= s /\ x = .int .i64 (i : Int) /\ Hid (Bk wr g nn (gi W d a i)) /\ Hid (Below w0.heap.size w0 wr) /\ Hid (obF (obH ev W a z) i = 0)) (fun x _ => s - (intOf x).toNat)
  case atStart => exact ⟨0, Nat.zero_le _, rfl, HBK, HBW, rfl⟩
  case round =>
    obtain ⟨i, hi, rfl, hK, hB, hE0⟩ := hrel
    by_cases hlt : i < s
    · have hmul := val_mulN i W (by omega) hW2
      obtain ⟨st, hst⟩ : ∃ st, st = i * W := ⟨_, rfl⟩
      have HST : Hid (st = i * W) := hst
      have hstb : st <= 1000000 := by rw [hst]; exact Nat.le_trans (Nat.mul_le_mul (show i <= 1024 by omega) hW2) (by decide)
      rw [<- hst] at hmul
      obtain ⟨f, hf⟩ : ∃ f, f = max a st := ⟨_, rfl⟩
      obtain ⟨b, hb⟩ : ∃ b, b = min z (st + W) := ⟨_, rfl⟩
      have HF : Hid (f = max a (i * W)) := by show f = _; rw [hf, hst]
      have HBH : Hid (b = min z (i * W + W)) := by show b = _; rw [hb, hst]
      have hcs : (a < st /\ f = st) \/ (st <= a /\ f = a) := by omega
      have hcb : ((z : Int) <= (st : Int) + (W : Int) /\ b = z) \/ ((b : Int) < (z : Int) /\ (st : Int) + (W : Int) = (b : Int)) := by omega
      have hbz : b <= z := by omega
      have haf : a <= f := by omega
      have hsf : st <= f := by omega
      have hbs : b <= st + W := by omega
      clear hst hf hb
      by_cases hfb : f < b
      · have hev : obH ev W a z i = ev i := by unfold obH; rw [if_pos (by rw [<- HF.out, <- HBH.out]; exact hfb)]
        have HEA : Hid (ev i ≠ 0 -> EE = ev i) := fun h => by rw [HEE.out]; exact (obF_at hE0.out (by rw [hev]; exact h) hlt).trans hev
        have HES : Hid (ev i = 0 -> obF (obH ev W a z) (i + 1) = 0) := fun h => by rw [obF, if_pos hE0.out, hev]; exact h
        obtain ⟨bb, oo, rfl, c0', c1'⟩ := HC.out i hlt
        have hww := below_then HBB.out hB.out
        have c0 := held c0' hww
        have c1 := held c1' hww
        have HRi := fun u hu => HR.out i hlt u (below_then hww hu)
        obtain ⟨s0, s1, s2, s3, s4⟩ := HQ.out wr hB.out
        obtain ⟨ei, hei⟩ : ∃ ei, ei = ev i := ⟨_, rfl⟩
        rw [<- hei] at HRi HEA HES
        obtain ⟨ri, hri⟩ : ∃ ri, ri = R i := ⟨_, rfl⟩
        obtain ⟨vi, hvi⟩ : ∃ vi, vi = V i := ⟨_, rfl⟩
        rw [<- hri] at c0 HRi
        rw [<- hvi] at c1 HRi
        have HRR : Hid (∀ u, Below wr.heap.size wr u -> Calls Tryz.prog 89 #[.agg #[.int .i64 k, .int .i64 r, .int .i64 c, .int .i64 q, .slice lo n cl], .agg #[.int .i64 ri, .int .i64 vi]] u fun e w' => ∃ ao cap, e = .returned (.tuple #[.slice ao (lenE ei W) cap, .int .i64 ei]) /\ OwU u.heap.size w' ao (lenE ei W) cap (d i) /\ Below u.heap.size u w') := HRi
        clear hev c0' c1' hww HRi hei hri hvi
        have i1 : (0 : Int) <= (i : Int) := by omega
        have i2 : (i : Int) < (s : Int) := by omega
        have hfb1 : (f : Int) < (b : Int) := by omega
        have hfb2 : ¬ (b : Int) <= (f : Int) := by omega
        have hst2 : (st : Int) <= 1000000 := by omega
        have hW3 : (W : Int) <= 768 := by omega
        have KS : Hid (∀ v, Below wr.heap.size wr v -> v.cell? ⟨w.heap.size, 0, none⟩ = some (.int .i64 k) /\ v.cell? ⟨w.heap.size, 1, none⟩ = some (.int .i64 r) /\ v.cell? ⟨w.heap.size, 2, none⟩ = some (.int .i64 c) /\ v.cell? ⟨w.heap.size, 3, none⟩ = some (.int .i64 q) /\ v.cell? ⟨w.heap.size, 4, none⟩ = some (.slice lo n cl) /\ v.cell? ⟨bb, oo + i * 2, none⟩ = some (.int .i64 ri) /\ v.cell? ⟨bb, oo + i * 2 + 1, none⟩ = some (.int .i64 vi)) := fun v hv => ⟨held s0 hv, held s1 hv, held s2 hv, held s3 hv, held s4 hv, held c0 hv, held c1 hv⟩
        have hcm : (f = st \/ f = a) /\ (b = z \/ (st : Int) + (W : Int) = (b : Int)) := by omega
        clear hcm
        by_cases he : ei = 0
        · subst he
          rw [lenE_zero] at HRR
          have HES0 : Hid (obF (obH ev W a z) (i + 1) = 0) := HES.out rfl
          have hfa : IntKind.i64.wrap ((f : Int) - (a : Int)) = (f : Int) - (a : Int) := by rw [IntKind.wrap_i64]; omega
          have hfs : IntKind.i64.wrap ((f : Int) - (st : Int)) = (f : Int) - (st : Int) := by rw [IntKind.wrap_i64]; omega
          have hbs2 : IntKind.i64.wrap ((b : Int) - (st : Int)) = (b : Int) - (st : Int) := by rw [IntKind.wrap_i64]; omega
          obtain ⟨GG, hGG⟩ : ∃ GG, GG = gi W d a (i + 1) := ⟨_, rfl⟩
          have HGQ : Hid (GG = gi W d a (i + 1)) := hGG
          have HGG : Hid (∀ p, p < z - a -> upR (gi W d a i) (f - a) (b - f) (fun j => d i (f - st + j)) p = GG p) := fun p hp => by
            have hg := gi_step (d := d) (p := p) hW HF.out HBH.out hfb hp
            rw [<- HST.out] at hg
            rw [hGG]; exact hg
          clear HEA HES hGG
          rcases hcs with ⟨hx1, hx2⟩ | ⟨hx1, hx2⟩ <;> rcases hcb with ⟨hy1, hy2⟩ | ⟨hy1, hy2⟩
          all_goals (
            subst hx2
            (try subst hy2)
            go_wp2_with fail
            go_region_held3 (fun v => v.cell? ⟨w.heap.size, 0, none⟩ = some (.int .i64 k) /\ v.cell? ⟨w.heap.size, 1, none⟩ = some (.int .i64 r) /\ v.cell? ⟨w.heap.size, 2, none⟩ = some (.int .i64 c) /\ v.cell? ⟨w.heap.size, 3, none⟩ = some (.int .i64 q) /\ v.cell? ⟨w.heap.size, 4, none⟩ = some (.slice lo n cl) /\ v.cell? ⟨bb, oo + i * 2, none⟩ = some (.int .i64 ri) /\ v.cell? ⟨bb, oo + i * 2 + 1, none⟩ = some (.int .i64 vi)) ((first | (exact KS.out _ (below_drew _ _)) | (exact KS.out _ HD.out)))
              ((go_at_call 89; refine (HRR.out _ (below_drew _ _)).mono ?_; rintro e wd ⟨ao, cap, rfl, how, hd0⟩; have HD : Hid (Below wr.heap.size wr wd) := of_drew' hd0; have HOW : Hid (OwU wr.heap.size wd ao W cap (d i)) := how; clear how hd0)))
          all_goals (
            obtain ⟨b2, o2, rfl, hcd⟩ := HOW.out.bec.rd hW
            have hcap := HOW.out.bec.room
            have hnI := HNN.out
            have HBKd := hK.out.below HD.out
            have HXD : Hid (Below w0.heap.size w0 wd) := below_then hB.out HD.out
            go_wp2_with fail
            refine wp_region_noPanic (copy_reg wd g nn _ _ _ _ W b2 o2 cap _ _ haf hsf hfb hbs (by omega) hcap (by omega) hnb HBKd hcd _ _ _ _ _ _ _ _ _ _ _ _ _ _ _ _ _ _ _ _ _ _ _ _ _ _ _ _ _ _ _ _ _ _ _ _ _ _ _ _ _ _ _ _ _ _ _ _ _ _ _ _ _ _ _ _ _ _ _ _ _ _ _ _ _ _ _ _ _ _ _ _ _ _ (fun v y63 y64 y65 y66 y67 y68 y69 y70 y71 y72 y73 y74 y75 y76 hbk hon => NoPanic.normal ?_)))
          all_goals (
            have HB2 : Hid (Below w0.heap.size w0 v) := HXD.out.trans (hon.below (fun j hj => by rw [hj]; exact HGE.out) HXD.out.size)
            have HK3 : Hid _ := hbk.congr (H := GG) (fun p hp => HGG.out p (by have := HNN.out; omega))
            clear hbk hon HBKd HXD hcd
            go_wp2_with fail
            go_roundw
            case rel => exact ⟨i + 1, by omega, by go_num, by have h := HK3.out; rw [HGQ.out] at h; exact h, HB2, HES0⟩
            case measure => simp [intOf]; omega)
        · have hez : (ei != 0) = true := by simpa using he
          have HX1 : Hid (EE = ei) := HEA.out he
          have HX0 : Hid (lenE EE nn = 0) := by show _ = _; rw [HX1.out]; exact lenE_ne nn he
          rw [lenE_ne W he] at HRR
          clear HEA HES he
          rcases hcs with ⟨hx1, hx2⟩ | ⟨hx1, hx2⟩ <;> rcases hcb with ⟨hy1, hy2⟩ | ⟨hy1, hy2⟩
          all_goals (
            subst hx2
            (try subst hy2)
            go_wp2_with fail
            go_region_held3 (fun v => v.cell? ⟨w.heap.size, 0, none⟩ = some (.int .i64 k) /\ v.cell? ⟨w.heap.size, 1, none⟩ = some (.int .i64 r) /\ v.cell? ⟨w.heap.size, 2, none⟩ = some (.int .i64 c) /\ v.cell? ⟨w.heap.size, 3, none⟩ = some (.int .i64 q) /\ v.cell? ⟨w.heap.size, 4, none⟩ = some (.slice lo n cl) /\ v.cell? ⟨bb, oo + i * 2, none⟩ = some (.int .i64 ri) /\ v.cell? ⟨bb, oo + i * 2 + 1, none⟩ = some (.int .i64 vi)) ((first | (exact KS.out _ (below_drew _ _)) | (exact KS.out _ HD.out)))
              ((go_at_call 89; refine (HRR.out _ (below_drew _ _)).mono ?_; rintro e wd ⟨ao, cap, rfl, _, hd0⟩; have HD : Hid (Below wr.heap.size wr wd) := of_drew' hd0; clear hd0)))
          all_goals (
            have HXD : Hid (Below w0.heap.size w0 wd) := below_then hB.out HD.out
            go_wp2_with fail
            go_ret2
            exact ⟨none, 0, by rw [HX0.out, HX1.out]; rfl, by rw [HX0.out]; exact owu_nil _ _ _, below_then HBB.out HXD.out⟩)
      · have HES0 : Hid (obF (obH ev W a z) (i + 1) = 0) := by
          show _ = _
          rw [obF, if_pos hE0.out]
          unfold obH
          rw [if_neg (by rw [<- HF.out, <- HBH.out]; exact hfb)]
        have HK3 : Hid (Bk wr g nn (gi W d a (i + 1))) := hK.out.congr (fun p hp => gi_skip (z := z) (by rw [<- HF.out, <- HBH.out]; exact hfb) (by have := HNN.out; omega))
        have hst2 : (st : Int) <= 1000000 := by omega
        have hW3 : (W : Int) <= 768 := by omega
        have hfb1 : ¬ (f : Int) < (b : Int) := by omega
        clear hK hE0
        rcases hcs with ⟨hx1, hx2⟩ | ⟨hx1, hx2⟩ <;> rcases hcb with ⟨hy1, hy2⟩ | ⟨hy1, hy2⟩
        all_goals (
          subst hx2
          (try subst hy2)
          go_wp2_with fail)
        all_goals (
          go_roundw
          case rel => exact ⟨i + 1, by omega, by go_num, HK3, hB, HES0⟩
          case measure => (simp [intOf]; try omega))
    · obtain rfl : i = s := by omega
      have HX1 : Hid (EE = 0) := by show _ = _; rw [HEE.out]; exact hE0.out
      have HK3 : Hid (OwU w.heap.size wr (some ⟨g, 0, none⟩) nn nn (fun p => ctn W d (a + p))) := Bk.own2 (hK.out.congr (fun p hp => gi_end (z := z) HZS.out (by have := HNN.out; omega))) (Nat.le_trans HBB.out.size HGE.out) hnb
      clear hK hE0
      go_wp2_with fail
      go_ret2
      exact ⟨some ⟨g, 0, none⟩, nn, by rw [HX1.out, lenE_zero]; rfl, by rw [HX1.out, lenE_zero]; exact HK3.out, below_then HBB.out hB.out⟩
end Go.Proofs.YtngcdlodcdgcaaaGreat
