import Derived.Deep.RegionHeld3
import Derived.Test.YtmoenmpbkockoaaGreatWj47
import Derived.Test.YtmoenmpbkockoaaGreatWj48
import Derived.Test.YtmoenmpbkockoaaGreatVj1
import Derived.Test.YtmoenmpbkockoaaGreatVj2
import Derived.Test.YtmoenmpbkockoaaGreatVj3
import Derived.Test.YtmoenmpbkockoaaGreatVj4
import Derived.Lib.SmallJoins
import Derived.Deep.Matrix
import Derived.Deep.FieldsWide
import Derived.OpenShut
namespace Go.Proofs.YtmoenmpbkockoaaGreat
open Go.RowKit
theorem dl_step (p : Nat -> Bool) (i : Nat) : (Cn.dl p (i + 1)).length = (Cn.dl p i).length + (if p i = true then 1 else 0) := by
  rw [Cn.dl]
  cases p i <;> simp
set_option maxHeartbeats 8000000 in
set_option maxRecDepth 100000 in
theorem told_go {k r c q : Int} {N W : Nat} (h : Par k r c q N W 0) (w : World) (lo : Option Addr) (n cl : Nat) (o v : Int) (kd : UInt8) (hkd : kd = 1 \/ kd = 2) (G : Nat -> List UInt8)
    (hL : ∀ j, j < 2 * N -> (G j).length = 0 \/ (G j).length = sz N c)
    (HA : Hid (∀ u, Below w.heap.size w u -> Calls Tryz.prog 29 #[.agg #[.int .i64 k, .int .i64 r, .int .i64 c, .int .i64 q, .slice lo n cl], .int .i64 o] u fun e w' => ∃ lo' A' C', e = .returned (.tuple #[.slice lo' N N, .int .i64 0]) /\ Im.Im u.heap.size w' lo' (2 * N) A' C' G /\ Below u.heap.size u w')) :
    Calls Tryz.prog 31 #[.agg #[.int .i64 k, .int .i64 r, .int .i64 c, .int .i64 q, .slice lo n cl], .agg #[.int .i64 o, .int .u8 ((kd.toNat : Nat) : Int), .int .i64 v]] w fun e w' => e = .returned (.int .i64 (((Cn.dl (tD (yy N c (fun j => (G j).length) (fun j t => (G j).getD t 0)) kd v) N).length : Nat) : Int)) /\ Below w.heap.size w w' := by
  have hle := h.le
  obtain ⟨L, hLe⟩ : ∃ L : Nat -> Nat, L = fun j => (G j).length := ⟨_, rfl⟩
  obtain ⟨F, hFe⟩ : ∃ F : Nat -> Nat -> UInt8, F = fun j t => (G j).getD t 0 := ⟨_, rfl⟩
  have hL' : ∀ j, j < 2 * N -> L j = 0 \/ L j = sz N c := fun j hj => by rw [hLe]; exact hL j hj
  rw [<- hLe, <- hFe]
  obtain ⟨w0, hw0⟩ : ∃ w0, w0 = w.alloc (.cells #[.int .i64 k, .int .i64 r, .int .i64 c, .int .i64 q, .slice lo n cl] 51) := ⟨_, rfl⟩
  obtain ⟨w1, hw1⟩ : ∃ w1, w1 = w0.alloc (.cells #[.int .i64 o, .int .u8 ((kd.toNat : Nat) : Int), .int .i64 v] 61) := ⟨_, rfl⟩
  have b0 : Below w.heap.size w w0 := by rw [hw0]; exact below_alloc _ _
  have b1 : Below w0.heap.size w0 w1 := by rw [hw1]; exact below_alloc _ _
  have z0 : w0.heap.size = w.heap.size + 1 := by rw [hw0]; simp
  have HBB : Hid (Below w.heap.size w w1) := below_then b0 b1
  have HQ : Hid (∀ u, Below w1.heap.size w1 u -> (u.cell? ⟨w.heap.size, 0, none⟩ = some (.int .i64 k) /\ u.cell? ⟨w.heap.size, 1, none⟩ = some (.int .i64 r) /\ u.cell? ⟨w.heap.size, 2, none⟩ = some (.int .i64 c) /\ u.cell? ⟨w.heap.size, 3, none⟩ = some (.int .i64 q)) /\ (u.cell? ⟨w.heap.size + 1, 1, none⟩ = some (.int .u8 ((kd.toNat : Nat) : Int)) /\ u.cell? ⟨w.heap.size + 1, 2, none⟩ = some (.int .i64 v))) := fun u hu => ⟨⟨blk_held hw0 (below_then b1 hu) 0 rfl, blk_held hw0 (below_then b1 hu) 1 rfl, blk_held hw0 (below_then b1 hu) 2 rfl, blk_held hw0 (below_then b1 hu) 3 rfl⟩, by rw [<- z0]; exact ⟨blk_held hw1 hu 1 rfl, blk_held hw1 hu 2 rfl⟩⟩
  obtain ⟨Y, hY⟩ : ∃ Y, Y = yy N c L F := ⟨_, rfl⟩
  have HTB : Hid (∀ j, tB (Y j) kd v = (isS N c (L j) (F j) && (decide ((zq N c L F j).kd = kd) && (decide ((zq N c L F j).ix = ((j / 2 : Nat) : Int)) && decide ((zq N c L F j).st = v))))) := fun j => by
    have h1 := yy_is (N := N) (c := c) (L := L) (F := F) hkd j
    rw [hY]
    unfold tB
    by_cases e : (yy N c L F j).kd = kd
    · have h2 := yy_zq hkd e
      obtain ⟨a1, a2, a3⟩ := h1.1 e
      rw [a1, decide_eq_true a2, decide_eq_true a3]
      simp only [Bool.true_and]
      apply decide_eq_decide.2
      rw [<- h2]
      exact ⟨fun x => x.2, fun x => ⟨e, x⟩⟩
    · rw [decide_eq_false (fun x => e x.1)]
      cases a1 : isS N c (L j) (F j)
      · rfl
      · by_cases a2 : (zq N c L F j).kd = kd
        · by_cases a3 : (zq N c L F j).ix = ((j / 2 : Nat) : Int)
          · exact absurd (h1.2 ⟨a1, a2, a3⟩) e
          · rw [decide_eq_false a3]; simp
        · rw [decide_eq_false a2]; simp
  have HPA : Hid (∀ u ro A C, Rw u ro N A L C F -> ∀ j, j < 2 * N -> Calls Tryz.prog 51 #[.agg #[.int .i64 k, .int .i64 r, .int .i64 c, .int .i64 q], .slice (A j) (L j) (C j)] u fun e w' => ∃ ao ca bo cb, e = .returned (.tuple #[.agg #[.int .u8 (((zq N c L F j).kd.toNat : Nat) : Int), .int .i64 (zq N c L F j).ix, .int .i64 (zq N c L F j).ce, .int .i64 (zq N c L F j).st, .slice ao (zq N c L F j).vn ca, .slice bo (zq N c L F j).dn cb], .bool (isS N c (L j) (F j)), .int .i64 0]) /\ Got u.heap.size w' (zq N c L F j) ao ca bo cb /\ Below u.heap.size u w') := fun u ro A C hr j hj => by
    refine (Parse_any h u _ _ _ _ (hr.bec j hj) 0 (by unfold erQ; rw [if_pos rfl, if_pos (hL' j hj)]) (isS N c (L j) (F j)) (by unfold isQ; simp) (zq N c L F j) rfl).mono ?_
    rintro e w' ⟨ao, ca, bo, cb, rfl, hg, hb⟩
    exact ⟨ao, ca, bo, cb, rfl, hg, hb⟩
  rw [<- hY]
  have HRW : Hid (∀ B u lo' A' C', Im.Im B u lo' (2 * N) A' C' G -> Rw u lo' N A' L C' F) := fun B u lo' A' C' hI => by rw [hLe, hFe]; exact rw_of hI
  clear hL h hY hLe hFe
  go_enter Tryz.func31, Tryz.ntmps31
  go_wp2_with fail
  rw [<- hw0, <- hw1]
  clear hw0 hw1 z0 b0 b1
  refine (HA.out _ HBB.out).mono ?_
  rintro e wb ⟨lo', A', C', rfl, hI, ha⟩
  have HR : Hid (Rw wb lo' N A' L C' F) := HRW.out _ _ _ _ _ hI
  have HBW : Hid (Below w.heap.size w wb) := below_then HBB.out ha
  have HQ2 : Hid (∀ u, Below wb.heap.size wb u -> (u.cell? ⟨w.heap.size, 0, none⟩ = some (.int .i64 k) /\ u.cell? ⟨w.heap.size, 1, none⟩ = some (.int .i64 r) /\ u.cell? ⟨w.heap.size, 2, none⟩ = some (.int .i64 c) /\ u.cell? ⟨w.heap.size, 3, none⟩ = some (.int .i64 q)) /\ (u.cell? ⟨w.heap.size + 1, 1, none⟩ = some (.int .u8 ((kd.toNat : Nat) : Int)) /\ u.cell? ⟨w.heap.size + 1, 2, none⟩ = some (.int .i64 v))) := fun u hu => HQ.out u (below_then ha hu)
  clear hI HA HRW ha HQ
  go_wp2_with fail
  go_loopw [7, 8] (fun m y wr => ∃ i : Nat, i <= N /\ y = .int .i64 (i : Int) /\ m = .int .i64 (((Cn.dl (tD Y kd v) i).length : Nat) : Int) /\ Hid (Below wb.heap.size wb wr)) (fun _ y _ => N - (intOf y).toNat)
  case atStart => exact ⟨0, Nat.zero_le _, rfl, rfl, Below.refl _ _⟩
  case round =>
    obtain ⟨i, hi, rfl, rfl, hbs⟩ := hrel
    by_cases hlt : i < N
    · obtain ⟨b, off, rfl, hcc⟩ := HR.out.at_ (by omega)
      have i1 : (0 : Int) <= (i : Int) := by omega
      have i2 : (i : Int) < (N : Int) := by omega
      have HCC : Hid (wb.cell? ⟨b, off + i * 2, none⟩ = some (.slice (A' (2 * i)) (L (2 * i)) (C' (2 * i))) /\ wb.cell? ⟨b, off + i * 2 + 1, none⟩ = some (.slice (A' (2 * i + 1)) (L (2 * i + 1)) (C' (2 * i + 1)))) := hcc i hlt
      have HST := dl_step (tD Y kd v) i
      have HFW := Cn.dl_few (tD Y kd v) i
      have HT0 := HTB.out (2 * i)
      have HT1 := HTB.out (2 * i + 1)
      rw [show 2 * i / 2 = i by omega] at HT0
      rw [show (2 * i + 1) / 2 = i by omega] at HT1
      unfold tD at HST
      rw [HT0, HT1] at HST
      have HS0 : Hid (∀ u, Below wr.heap.size wr u -> (u.cell? ⟨w.heap.size, 0, none⟩ = some (.int .i64 k) /\ u.cell? ⟨w.heap.size, 1, none⟩ = some (.int .i64 r) /\ u.cell? ⟨w.heap.size, 2, none⟩ = some (.int .i64 c) /\ u.cell? ⟨w.heap.size, 3, none⟩ = some (.int .i64 q) /\ u.cell? ⟨b, off + i * 2, none⟩ = some (.slice (A' (2 * i)) (L (2 * i)) (C' (2 * i))))) := fun u hu => by
        obtain ⟨⟨p0, p1, p2, p3⟩, _⟩ := HQ2.out u (below_then hbs.out hu)
        exact ⟨p0, p1, p2, p3, held HCC.out.1 (below_then hbs.out hu)⟩
      have HP0 : Hid (∀ u, Below wr.heap.size wr u -> _) := fun u (hu : Below wr.heap.size wr u) => HPA.out u _ A' C' (HR.out.below (below_then hbs.out hu)) (2 * i) (by omega)
      have HP1 : Hid (∀ u, Below wb.heap.size wb u -> _) := fun u (hu : Below wb.heap.size wb u) => HPA.out u _ A' C' (HR.out.below hu) (2 * i + 1) (by omega)
      obtain ⟨z, hz⟩ : ∃ z, z = zq N c L F (2 * i) := ⟨_, rfl⟩
      obtain ⟨y, hy⟩ : ∃ y, y = isS N c (L (2 * i)) (F (2 * i)) := ⟨_, rfl⟩
      obtain ⟨z', hz'⟩ : ∃ z, z = zq N c L F (2 * i + 1) := ⟨_, rfl⟩
      obtain ⟨y', hy'⟩ : ∃ y, y = isS N c (L (2 * i + 1)) (F (2 * i + 1)) := ⟨_, rfl⟩
      rw [<- hz, <- hy, <- hz', <- hy'] at HST
      rw [<- hz, <- hy] at HP0
      rw [<- hz', <- hy'] at HP1
      obtain ⟨ct, hct⟩ : ∃ ct, ct = (Cn.dl (fun i => tB (Y (2 * i)) kd v || tB (Y (2 * i + 1)) kd v) i).length := ⟨_, rfl⟩
      have HCT : Hid ((Cn.dl (tD Y kd v) i).length = ct) := by rw [hct]; rfl
      have hcl : ct <= 16 := by rw [hct]; exact Nat.le_trans HFW (by omega)
      have HST2 : Hid ((Cn.dl (tD Y kd v) (i + 1)).length = ct + (if ((y && (decide (z.kd = kd) && (decide (z.ix = (i : Int)) && decide (z.st = v)))) || (y' && (decide (z'.kd = kd) && (decide (z'.ix = (i : Int)) && decide (z'.st = v))))) = true then 1 else 0)) := by rw [hct]; exact HST
      rw [HCT.out]
      clear hz hy hz' hy' HT0 HT1 HST HFW hct hcc
      go_wp2_with fail
      refine told_reg0 wr k r c q w.heap.size b off N N i i1 i2 (A' (2 * i)) (L (2 * i)) (C' (2 * i)) z y 0 _ _ _ _ _ _ _ _ _ _ _ _ _ _ _ _ _ _ _ _ _ _ _ _ _ _ _ _ _ _ _ _ _ _ _ _ _ _ _ _ _ _ _ _ _ _ _ _ _ _ _ _ _ _ _ _ _ _ _ _ _ _ _ _ _ _ _ _ _ _ _ _ _ _ _ _ _ _ _ _ _ _ _ _ _ _ _ _ _ _ _ _ _ _ _ _ HS0 HP0 _ (fun v1 g ao ca bo cb hb3 hat hgot => ?_)
      have HB1 : Hid (Below wb.heap.size wb v1) := below_then hbs.out hb3
      have HAT : Hid (At wr v1 g #[.int .u8 ((z.kd.toNat : Nat) : Int), .int .i64 z.ix, .int .i64 z.ce, .int .i64 z.st, .slice ao z.vn ca, .slice bo z.dn cb] 94) := hat
      have HS1 : Hid (∀ u, Below v1.heap.size v1 u -> (u.cell? ⟨w.heap.size, 0, none⟩ = some (.int .i64 k) /\ u.cell? ⟨w.heap.size, 1, none⟩ = some (.int .i64 r) /\ u.cell? ⟨w.heap.size, 2, none⟩ = some (.int .i64 c) /\ u.cell? ⟨w.heap.size, 3, none⟩ = some (.int .i64 q) /\ u.cell? ⟨b, off + i * 2 + 1, none⟩ = some (.slice (A' (2 * i + 1)) (L (2 * i + 1)) (C' (2 * i + 1))))) := fun u hu => by
        obtain ⟨⟨p0, p1, p2, p3⟩, _⟩ := HQ2.out u (below_then HB1.out hu)
        exact ⟨p0, p1, p2, p3, held HCC.out.2 (below_then HB1.out hu)⟩
      have HP2 : Hid (∀ u, Below v1.heap.size v1 u -> _) := fun u hu => HP1.out u (below_then HB1.out hu)
      clear hb3 hat hgot HP0 HS0 hbs
      go_wp2_with fail
      refine told_reg1 v1 k r c q w.heap.size b off N N i i1 i2 (A' (2 * i + 1)) (L (2 * i + 1)) (C' (2 * i + 1)) z' y' 0 _ _ _ _ _ _ _ _ _ _ _ _ _ _ _ _ _ _ _ _ _ _ _ _ _ _ _ _ _ _ _ _ _ _ _ _ _ _ _ _ _ _ _ _ _ _ _ _ _ _ _ _ _ _ _ _ _ _ _ _ _ _ _ _ _ _ _ _ _ _ _ _ _ _ _ _ _ _ _ _ _ _ _ _ _ _ _ _ _ _ _ _ _ _ _ _ HS1 HP2 _ (fun v2 g' ao' ca' bo' cb' hb3 hat hgot => ?_)
      have HB2 : Hid (Below wb.heap.size wb v2) := below_then HB1.out hb3
      have hA := HAT.out.below hb3
      have c0 := hA.cell (i := 0) rfl
      have c1 := hA.cell (i := 1) rfl
      have c3 := hA.cell (i := 3) rfl
      have d0 := hat.cell (i := 0) rfl
      have d1 := hat.cell (i := 1) rfl
      have d3 := hat.cell (i := 3) rfl
      obtain ⟨_, q1, q2⟩ := HQ2.out v2 HB2.out
      have u0 := kd_beq z.kd kd
      have u1 := int_beq2 z.ix (i : Int)
      have u2 := int_beq2 z.st v
      have u3 := kd_beq z'.kd kd
      have u4 := int_beq2 z'.ix (i : Int)
      have u5 := int_beq2 z'.st v
      clear hb3 hat hgot hA HP1 HP2 HS1
      generalize decide (z.kd = kd) = p0 at HST2 u0
      generalize decide (z.ix = (i : Int)) = p1 at HST2 u1
      generalize decide (z.st = v) = p2 at HST2 u2
      generalize decide (z'.kd = kd) = p3 at HST2 u3
      generalize decide (z'.ix = (i : Int)) = p4 at HST2 u4
      generalize decide (z'.st = v) = p5 at HST2 u5
      have h1 : y = false \/ (y = true /\ p0 = false) \/ (y = true /\ p0 = true /\ p1 = false) \/ (y = true /\ p0 = true /\ p1 = true /\ p2 = false) \/ (y = true /\ p0 = true /\ p1 = true /\ p2 = true) := by cases y <;> cases p0 <;> cases p1 <;> cases p2 <;> simp
      have h2 : y' = false \/ (y' = true /\ p3 = false) \/ (y' = true /\ p3 = true /\ p4 = false) \/ (y' = true /\ p3 = true /\ p4 = true /\ p5 = false) \/ (y' = true /\ p3 = true /\ p4 = true /\ p5 = true) := by cases y' <;> cases p3 <;> cases p4 <;> cases p5 <;> simp
      rcases h1 with rfl | ⟨rfl, rfl⟩ | ⟨rfl, rfl, rfl⟩ | ⟨rfl, rfl, rfl, rfl⟩ | ⟨rfl, rfl, rfl, rfl⟩
      · rcases h2 with rfl | ⟨rfl, rfl⟩ | ⟨rfl, rfl, rfl⟩ | ⟨rfl, rfl, rfl, rfl⟩ | ⟨rfl, rfl, rfl, rfl⟩
        all_goals
          go_wp2_with fail
          go_roundw
          case rel => exact ⟨i + 1, by omega, by go_num, by rw [HST2.out]; simp, HB2⟩
          case measure => simp [intOf]; omega
      · rcases h2 with rfl | ⟨rfl, rfl⟩ | ⟨rfl, rfl, rfl⟩ | ⟨rfl, rfl, rfl, rfl⟩ | ⟨rfl, rfl, rfl, rfl⟩
        all_goals
          go_wp2_with fail
          go_roundw
          case rel => exact ⟨i + 1, by omega, by go_num, by rw [HST2.out]; simp, HB2⟩
          case measure => simp [intOf]; omega
      · rcases h2 with rfl | ⟨rfl, rfl⟩ | ⟨rfl, rfl, rfl⟩ | ⟨rfl, rfl, rfl, rfl⟩ | ⟨rfl, rfl, rfl, rfl⟩
        all_goals
          go_wp2_with fail
          go_roundw
          case rel => exact ⟨i + 1, by omega, by go_num, by rw [HST2.out]; simp, HB2⟩
          case measure => simp [intOf]; omega
      · rcases h2 with rfl | ⟨rfl, rfl⟩ | ⟨rfl, rfl, rfl⟩ | ⟨rfl, rfl, rfl, rfl⟩ | ⟨rfl, rfl, rfl, rfl⟩
        all_goals
          go_wp2_with fail
          go_roundw
          case rel => exact ⟨i + 1, by omega, by go_num, by rw [HST2.out]; simp, HB2⟩
          case measure => simp [intOf]; omega
      · clear h2
        go_wp2_with fail
        go_roundw
        case rel => exact ⟨i + 1, by omega, by go_num, by rw [HST2.out]; simp, HB2⟩
        case measure => simp [intOf]; omega
    · have hlt2 : ¬ ((i : Int) < (N : Int)) := by omega
      obtain rfl : i = N := by omega
      go_wp2_with fail
      go_ret
      exact ⟨rfl, below_then HBW.out hbs.out⟩
end Go.Proofs.YtmoenmpbkockoaaGreat
namespace Go.Proofs.YtmoenmpbkockoaaGreat
open Go.RowKit
set_option maxHeartbeats 8000000 in
set_option maxRecDepth 100000 in
theorem live_reg (w1 : World) (k r c q : Int) (lo : Option Addr) (n cl gi gv T vc i : Nat) (p kk t : Int) (tt : Nat) (PB : Bool -> Prop) (hi : (0 : Int) <= (i : Int)) (hi2 : (i : Int) < (T : Int)) (x0 x1 x2 x4 x5 x6 x7 x8 x9 x10 x11 x12 x14 x15 x16 x17 x18 x20 x21 x22 x23 x24 x25 x26 x27 x28 x29 x30 x31 x32 x33 x34 x35 x36 x37 x38 x39 x40 x41 x42 x43 x44 x45 x46 x47 x48 x49 x50 x51 x52 x53 x54 x55 x56 x57 x58 x59 x60 x61 x62 x63 x64 x65 x66 x67 x68 x69 x70 x71 x72 x73 x74 x75 x76 x77 x78 x79 x80 x81 x82 x83 x84 x85 x86 x87 x88 x89 x90 x91 x92 x93 x94 x95 x96 x97 x98 x99 x100 x101 x102 x103 x104 x105 x106 x107 x108 x109 x110 x111 x112 x113 x114 x115 x116 x117 x118 x119 x120 x121 x122 x123 x124 x125 x126 x127 x128 x129 x130 x131 x132 x133 x134 x135 x136 x137 x138 x139 x140 x141 x142 x143 x144 x145 x146 x147 x148 x149 x150 x151 x152 x153 x154 x155 x156 x157 x158 x159 x160 x161 x162 x163 x164 x165 x166 x167 x168 x169 x170 x171 x172 x173 x174 x175 x176 x177 x178 x179 x180 x181 x182 x183 x184 x185 x186 x187 x188 x189 x190 x191 x192 x193 x194 x195 x196 x197 x198 x199 x200 x201 x202 x203 x204 x205 x206 x207 x208 x209 x210 x211 x212 x213 x214 x215 x216 x217 : Value)
    (HS : Hid (∀ v, Below w1.heap.size w1 v -> (v.cell? ⟨gi, 0, none⟩ = some (.int .i64 k) /\ v.cell? ⟨gi, 1, none⟩ = some (.int .i64 r) /\ v.cell? ⟨gi, 2, none⟩ = some (.int .i64 c) /\ v.cell? ⟨gi, 3, none⟩ = some (.int .i64 q) /\ v.cell? ⟨gi, 4, none⟩ = some (.slice lo n cl) /\ v.cell? ⟨gv, i * 3, none⟩ = some (.int .i64 p) /\ v.cell? ⟨gv, i * 3 + 1, none⟩ = some (.int .u8 kk) /\ v.cell? ⟨gv, i * 3 + 2, none⟩ = some (.int .i64 t))))
    (HP1 : Hid (∀ v, Below w1.heap.size w1 v -> Calls Tryz.prog 30 #[.agg #[.int .i64 k, .int .i64 r, .int .i64 c, .int .i64 q, .slice lo n cl], .agg #[.int .i64 p, .int .u8 kk, .int .i64 t]] v fun e w' => ∃ b : Bool, e = .returned (.bool b) /\ PB b /\ Below v.heap.size v w'))
    (HP2 : Hid (∀ v, Below w1.heap.size w1 v -> Calls Tryz.prog 31 #[.agg #[.int .i64 k, .int .i64 r, .int .i64 c, .int .i64 q, .slice lo n cl], .agg #[.int .i64 p, .int .u8 kk, .int .i64 t]] v fun e w' => e = .returned (.int .i64 ((tt : Nat) : Int)) /\ Below v.heap.size v w'))
    (Q : Exit -> Act -> World -> Prop) (HPN : Hid (∀ e (a : Act) d (v : Value) w, Q (.panic e) (a.put d v) w -> Q (.panic e) a w)) (HQ : Hid (∀ v (cond : Bool) y106 y107 y108 y109 y110 y111 y112 y113 y114 y115 y116 y117 y118 y119 y120 y121 y122 y123, Below w1.heap.size w1 v -> (cond = true \/ (PB true /\ ¬ ((tt : Nat) : Int) <= r)) -> Q .normal { tmps := #[x0, x1, x2, .pointer (some ⟨gi, 0, none⟩), x4, x5, x6, x7, x8, x9, x10, x11, x12, .slice (some ⟨gv, 0, none⟩) T vc, x14, x15, x16, x17, x18, .int .i64 (i : Int), x20, x21, x22, x23, x24, x25, x26, x27, x28, x29, x30, x31, x32, x33, x34, x35, x36, x37, x38, x39, x40, x41, x42, x43, x44, x45, x46, x47, x48, x49, x50, x51, x52, x53, x54, x55, x56, x57, x58, x59, x60, x61, x62, x63, x64, x65, x66, x67, x68, x69, x70, x71, x72, x73, x74, x75, x76, x77, x78, x79, x80, x81, x82, x83, x84, x85, x86, x87, x88, x89, x90, x91, x92, x93, x94, x95, x96, x97, x98, x99, x100, x101, x102, x103, x104, x105, y106, y107, y108, y109, y110, y111, y112, y113, y114, y115, y116, y117, y118, y119, y120, y121, y122, y123, .bool cond, x125, x126, x127, x128, x129, x130, x131, x132, x133, x134, x135, x136, x137, x138, x139, x140, x141, x142, x143, x144, x145, x146, x147, x148, x149, x150, x151, x152, x153, x154, x155, x156, x157, x158, x159, x160, x161, x162, x163, x164, x165, x166, x167, x168, x169, x170, x171, x172, x173, x174, x175, x176, x177, x178, x179, x180, x181, x182, x183, x184, x185, x186, x187, x188, x189, x190, x191, x192, x193, x194, x195, x196, x197, x198, x199, x200, x201, x202, x203, x204, x205, x206, x207, x208, x209, x210, x211, x212, x213, x214, x215, x216, x217], defers := [] } v)) :
    Code.wp Tryz.prog (Code.region 19 #[{ dst := some 106, op := Op.load 51 (.tmp 3), type := 51, pos := "outright.go:155", after := #[], guard := none }, { dst := some 107, op := Op.move (.tmp 13), type := 56, pos := "outright.go:155", after := #[], guard := none }, { dst := some 108, op := Op.move (.tmp 19), type := 3, pos := "outright.go:155", after := #[], guard := none }, { dst := some 109, op := Op.indexAddr 56 (.tmp 107) (.tmp 108), type := 0, pos := "outright.go:155", after := #[{ on := 1, ground := .data }, { on := 2, ground := .data }], guard := none }, { dst := some 110, op := Op.load 61 (.tmp 109), type := 61, pos := "outright.go:155", after := #[{ on := 3, ground := .data }], guard := none }, { dst := some 111, op := Op.call { callee := Callee.value (Operand.func 30), args := #[.tmp 106, .tmp 110], argTypes := #[51, 61] }, type := 4, pos := "outright.go:155", after := #[{ on := 0, ground := .data }, { on := 4, ground := .data }], guard := none }, { dst := some 112, op := Op.unOp UnOp.not 4 (.tmp 111), type := 4, pos := "outright.go:155", after := #[{ on := 5, ground := .data }], guard := none }, { dst := some 113, op := Op.move (.tmp 112), type := 4, pos := "outright.go:155", after := #[{ on := 6, ground := .data }, { on := 5, ground := Ground.chain }], guard := none }, { dst := some 114, op := Op.load 51 (.tmp 3), type := 51, pos := "outright.go:155", after := #[{ on := 7, ground := Ground.guard }], guard := some (7, false) }, { dst := some 115, op := Op.move (.tmp 13), type := 56, pos := "outright.go:155", after := #[{ on := 7, ground := Ground.guard }], guard := some (7, false) }, { dst := some 116, op := Op.move (.tmp 19), type := 3, pos := "outright.go:155", after := #[{ on := 7, ground := Ground.guard }], guard := some (7, false) }, { dst := some 117, op := Op.indexAddr 56 (.tmp 115) (.tmp 116), type := 0, pos := "outright.go:155", after := #[{ on := 9, ground := .data }, { on := 10, ground := .data }, { on := 7, ground := Ground.guard }], guard := some (7, false) }, { dst := some 118, op := Op.load 61 (.tmp 117), type := 61, pos := "outright.go:155", after := #[{ on := 11, ground := .data }, { on := 7, ground := Ground.guard }], guard := some (7, false) }, { dst := some 119, op := Op.call { callee := Callee.value (Operand.func 31), args := #[.tmp 114, .tmp 118], argTypes := #[51, 61] }, type := 3, pos := "outright.go:155", after := #[{ on := 8, ground := .data }, { on := 12, ground := .data }, { on := 7, ground := Ground.chain }, { on := 7, ground := Ground.guard }], guard := some (7, false) }, { dst := some 120, op := Op.fieldAddr 51 (.tmp 3) 0, type := 0, pos := "outright.go:155", after := #[{ on := 7, ground := Ground.guard }], guard := some (7, false) }, { dst := some 121, op := Op.fieldAddr 23 (.tmp 120) 1, type := 0, pos := "outright.go:155", after := #[{ on := 14, ground := .data }, { on := 7, ground := Ground.guard }], guard := some (7, false) }, { dst := some 122, op := Op.load 3 (.tmp 121), type := 3, pos := "outright.go:155", after := #[{ on := 15, ground := .data }, { on := 7, ground := Ground.guard }], guard := some (7, false) }, { dst := some 123, op := Op.binOp BinOp.leq 3 (.tmp 119) (.tmp 122) 3, type := 4, pos := "outright.go:155", after := #[{ on := 13, ground := .data }, { on := 16, ground := .data }, { on := 7, ground := Ground.guard }], guard := some (7, false) }, { dst := some 124, op := Op.pick (.tmp 113) (Operand.const (Value.bool true)) (.tmp 123), type := 4, pos := "outright.go:155", after := #[{ on := 7, ground := .data }, { on := 17, ground := .data }], guard := none }] true) Q { tmps := #[x0, x1, x2, .pointer (some ⟨gi, 0, none⟩), x4, x5, x6, x7, x8, x9, x10, x11, x12, .slice (some ⟨gv, 0, none⟩) T vc, x14, x15, x16, x17, x18, .int .i64 (i : Int), x20, x21, x22, x23, x24, x25, x26, x27, x28, x29, x30, x31, x32, x33, x34, x35, x36, x37, x38, x39, x40, x41, x42, x43, x44, x45, x46, x47, x48, x49, x50, x51, x52, x53, x54, x55, x56, x57, x58, x59, x60, x61, x62, x63, x64, x65, x66, x67, x68, x69, x70, x71, x72, x73, x74, x75, x76, x77, x78, x79, x80, x81, x82, x83, x84, x85, x86, x87, x88, x89, x90, x91, x92, x93, x94, x95, x96, x97, x98, x99, x100, x101, x102, x103, x104, x105, x106, x107, x108, x109, x110, x111, x112, x113, x114, x115, x116, x117, x118, x119, x120, x121, x122, x123, x124, x125, x126, x127, x128, x129, x130, x131, x132, x133, x134, x135, x136, x137, x138, x139, x140, x141, x142, x143, x144, x145, x146, x147, x148, x149, x150, x151, x152, x153, x154, x155, x156, x157, x158, x159, x160, x161, x162, x163, x164, x165, x166, x167, x168, x169, x170, x171, x172, x173, x174, x175, x176, x177, x178, x179, x180, x181, x182, x183, x184, x185, x186, x187, x188, x189, x190, x191, x192, x193, x194, x195, x196, x197, x198, x199, x200, x201, x202, x203, x204, x205, x206, x207, x208, x209, x210, x211, x212, x213, x214, x215, x216, x217], defers := [] } w1 := by
  obtain ⟨s0, s1, s2, s3, s4, c0, c1, c2⟩ := HS.out w1 (Below.refl _ _)
  refine wp_region_held_drew (S := fun v => v.cell? ⟨gi, 0, none⟩ = some (.int .i64 k) /\ v.cell? ⟨gi, 1, none⟩ = some (.int .i64 r) /\ v.cell? ⟨gi, 2, none⟩ = some (.int .i64 c) /\ v.cell? ⟨gi, 3, none⟩ = some (.int .i64 q) /\ v.cell? ⟨gi, 4, none⟩ = some (.slice lo n cl) /\ v.cell? ⟨gv, i * 3, none⟩ = some (.int .i64 p) /\ v.cell? ⟨gv, i * 3 + 1, none⟩ = some (.int .u8 kk) /\ v.cell? ⟨gv, i * 3 + 2, none⟩ = some (.int .i64 t)) (by kernel_rfl) ⟨s0, s1, s2, s3, s4, c0, c1, c2⟩ (fun hHeld => ?_)
  refine wpAnyH_take (i := 0) (oi := _) (v := .agg #[.int .i64 k, .int .i64 r, .int .i64 c, .int .i64 q, .slice lo n cl]) rfl (by kernel_rfl) (by kernel_rfl) (by kernel_rfl) (fun _ _ _ h => HPN.out _ _ _ _ _ h) (Or.inl ⟨by kernel_rfl, ?_⟩) (by assumption) ?_
  · intro w' hSw
    try dsimp only at hSw
    go_simp <;> first | with_reducible rfl | assumption
  simp only [Act.put]
  refine wpAnyH_take (i := 1) (oi := _) (v := .slice (some ⟨gv, 0, none⟩) T vc) rfl (by kernel_rfl) (by kernel_rfl) (by kernel_rfl) (fun _ _ _ h => HPN.out _ _ _ _ _ h) (Or.inl ⟨by kernel_rfl, ?_⟩) (by assumption) ?_
  · intro w' hSw
    try dsimp only at hSw
    go_simp <;> first | with_reducible rfl | assumption
  simp only [Act.put]
  refine wpAnyH_take (i := 2) (oi := _) (v := .int .i64 (i : Int)) rfl (by kernel_rfl) (by kernel_rfl) (by kernel_rfl) (fun _ _ _ h => HPN.out _ _ _ _ _ h) (Or.inl ⟨by kernel_rfl, ?_⟩) (by assumption) ?_
  · intro w' hSw
    try dsimp only at hSw
    go_simp <;> first | with_reducible rfl | assumption
  simp only [Act.put]
  refine wpAnyH_take (i := 3) (oi := _) (v := .pointer (some ⟨gv, i * 3, none⟩)) rfl (by kernel_rfl) (by kernel_rfl) (by kernel_rfl) (fun _ _ _ h => HPN.out _ _ _ _ _ h) (Or.inl ⟨by kernel_rfl, ?_⟩) (by assumption) ?_
  · intro w' hSw
    try dsimp only at hSw
    go_simp <;> first | with_reducible rfl | assumption
  simp only [Act.put]
  refine wpAnyH_take (i := 4) (oi := _) (v := .agg #[.int .i64 p, .int .u8 kk, .int .i64 t]) rfl (by kernel_rfl) (by kernel_rfl) (by kernel_rfl) (fun _ _ _ h => HPN.out _ _ _ _ _ h) (Or.inl ⟨by kernel_rfl, ?_⟩) (by assumption) ?_
  · intro w' hSw
    try dsimp only at hSw
    go_simp <;> first | with_reducible rfl | assumption
  simp only [Act.put]
  refine wpAnyH_ready (rs := [5]) (by kernel_rfl) (by simp) ?_
  refine AllReadyH.cons (o := _) rfl (fun K hK => ?_) AllReadyH.nil
  go_simp
  refine (HP1.out _ (below_drew _ _)).mono ?_
  rintro e wp ⟨b, rfl, hbt, hpb⟩
  have HBp : Hid (Below w1.heap.size w1 wp) := below_then (below_drew _ _) hpb
  refine hK.out _ _ (HS.out wp HBp.out) (fun hHeld => ?_)
  clear hK K
  try simp only [Act.put]
  cases b
  · refine wpAnyH_take (i := 6) (oi := _) (v := .bool true) rfl (by kernel_rfl) (by kernel_rfl) (by kernel_rfl) (fun _ _ _ h => HPN.out _ _ _ _ _ h) (Or.inl ⟨by kernel_rfl, ?_⟩) (by assumption) ?_
    · intro w' hSw
      try dsimp only at hSw
      go_simp <;> first | with_reducible rfl | assumption
    simp only [Act.put]
    refine wpAnyH_take (i := 7) (oi := _) (v := .bool true) rfl (by kernel_rfl) (by kernel_rfl) (by kernel_rfl) (fun _ _ _ h => HPN.out _ _ _ _ _ h) (Or.inl ⟨by kernel_rfl, ?_⟩) (by assumption) ?_
    · intro w' hSw
      try dsimp only at hSw
      go_simp <;> first | with_reducible rfl | assumption
    simp only [Act.put]
    refine wpAnyH_take (i := 8) (oi := _) (v := undef) rfl (by kernel_rfl) (by kernel_rfl) (by kernel_rfl) (fun _ _ _ h => HPN.out _ _ _ _ _ h) (Or.inr ⟨by kernel_rfl, rfl⟩) (by assumption) ?_
    simp only [Act.put]
    refine wpAnyH_take (i := 9) (oi := _) (v := undef) rfl (by kernel_rfl) (by kernel_rfl) (by kernel_rfl) (fun _ _ _ h => HPN.out _ _ _ _ _ h) (Or.inr ⟨by kernel_rfl, rfl⟩) (by assumption) ?_
    simp only [Act.put]
    refine wpAnyH_take (i := 10) (oi := _) (v := undef) rfl (by kernel_rfl) (by kernel_rfl) (by kernel_rfl) (fun _ _ _ h => HPN.out _ _ _ _ _ h) (Or.inr ⟨by kernel_rfl, rfl⟩) (by assumption) ?_
    simp only [Act.put]
    refine wpAnyH_take (i := 14) (oi := _) (v := undef) rfl (by kernel_rfl) (by kernel_rfl) (by kernel_rfl) (fun _ _ _ h => HPN.out _ _ _ _ _ h) (Or.inr ⟨by kernel_rfl, rfl⟩) (by assumption) ?_
    simp only [Act.put]
    refine wpAnyH_take (i := 11) (oi := _) (v := undef) rfl (by kernel_rfl) (by kernel_rfl) (by kernel_rfl) (fun _ _ _ h => HPN.out _ _ _ _ _ h) (Or.inr ⟨by kernel_rfl, rfl⟩) (by assumption) ?_
    simp only [Act.put]
    refine wpAnyH_take (i := 12) (oi := _) (v := undef) rfl (by kernel_rfl) (by kernel_rfl) (by kernel_rfl) (fun _ _ _ h => HPN.out _ _ _ _ _ h) (Or.inr ⟨by kernel_rfl, rfl⟩) (by assumption) ?_
    simp only [Act.put]
    refine wpAnyH_take (i := 15) (oi := _) (v := undef) rfl (by kernel_rfl) (by kernel_rfl) (by kernel_rfl) (fun _ _ _ h => HPN.out _ _ _ _ _ h) (Or.inr ⟨by kernel_rfl, rfl⟩) (by assumption) ?_
    simp only [Act.put]
    refine wpAnyH_take (i := 16) (oi := _) (v := undef) rfl (by kernel_rfl) (by kernel_rfl) (by kernel_rfl) (fun _ _ _ h => HPN.out _ _ _ _ _ h) (Or.inr ⟨by kernel_rfl, rfl⟩) (by assumption) ?_
    simp only [Act.put]
    refine wpAnyH_ready (rs := [13]) (by kernel_rfl) (by simp) ?_
    refine AllReadyH.cons (o := _) rfl (fun K hK => ?_) AllReadyH.nil
    go_simp
    refine hK.out _ _ (HS.out wp HBp.out) (fun hHeld => ?_)
    clear hK K
    try simp only [Act.put]
    refine wpAnyH_take (i := 17) (oi := _) (v := undef) rfl (by kernel_rfl) (by kernel_rfl) (by kernel_rfl) (fun _ _ _ h => HPN.out _ _ _ _ _ h) (Or.inr ⟨by kernel_rfl, rfl⟩) (by assumption) ?_
    simp only [Act.put]
    refine wpAnyH_take (i := 18) (oi := _) (v := .bool true) rfl (by kernel_rfl) (by kernel_rfl) (by kernel_rfl) (fun _ _ _ h => HPN.out _ _ _ _ _ h) (Or.inl ⟨by kernel_rfl, ?_⟩) (by assumption) ?_
    · intro w' hSw
      try dsimp only at hSw
      go_simp <;> first | with_reducible rfl | assumption
    simp only [Act.put]
    refine wpAnyH_done (by kernel_rfl) ?_ _
    exact HQ.out _ true _ _ _ _ _ _ _ _ _ _ _ _ _ _ _ _ _ _ HBp.out (.inl rfl)
  · refine wpAnyH_take (i := 6) (oi := _) (v := .bool false) rfl (by kernel_rfl) (by kernel_rfl) (by kernel_rfl) (fun _ _ _ h => HPN.out _ _ _ _ _ h) (Or.inl ⟨by kernel_rfl, ?_⟩) (by assumption) ?_
    · intro w' hSw
      try dsimp only at hSw
      go_simp <;> first | with_reducible rfl | assumption
    simp only [Act.put]
    refine wpAnyH_take (i := 7) (oi := _) (v := .bool false) rfl (by kernel_rfl) (by kernel_rfl) (by kernel_rfl) (fun _ _ _ h => HPN.out _ _ _ _ _ h) (Or.inl ⟨by kernel_rfl, ?_⟩) (by assumption) ?_
    · intro w' hSw
      try dsimp only at hSw
      go_simp <;> first | with_reducible rfl | assumption
    simp only [Act.put]
    refine wpAnyH_take (i := 8) (oi := _) (v := .agg #[.int .i64 k, .int .i64 r, .int .i64 c, .int .i64 q, .slice lo n cl]) rfl (by kernel_rfl) (by kernel_rfl) (by kernel_rfl) (fun _ _ _ h => HPN.out _ _ _ _ _ h) (Or.inl ⟨by kernel_rfl, ?_⟩) (by assumption) ?_
    · intro w' hSw
      try dsimp only at hSw
      go_simp <;> first | with_reducible rfl | assumption
    simp only [Act.put]
    refine wpAnyH_take (i := 9) (oi := _) (v := .slice (some ⟨gv, 0, none⟩) T vc) rfl (by kernel_rfl) (by kernel_rfl) (by kernel_rfl) (fun _ _ _ h => HPN.out _ _ _ _ _ h) (Or.inl ⟨by kernel_rfl, ?_⟩) (by assumption) ?_
    · intro w' hSw
      try dsimp only at hSw
      go_simp <;> first | with_reducible rfl | assumption
    simp only [Act.put]
    refine wpAnyH_take (i := 10) (oi := _) (v := .int .i64 (i : Int)) rfl (by kernel_rfl) (by kernel_rfl) (by kernel_rfl) (fun _ _ _ h => HPN.out _ _ _ _ _ h) (Or.inl ⟨by kernel_rfl, ?_⟩) (by assumption) ?_
    · intro w' hSw
      try dsimp only at hSw
      go_simp <;> first | with_reducible rfl | assumption
    simp only [Act.put]
    refine wpAnyH_take (i := 11) (oi := _) (v := .pointer (some ⟨gv, i * 3, none⟩)) rfl (by kernel_rfl) (by kernel_rfl) (by kernel_rfl) (fun _ _ _ h => HPN.out _ _ _ _ _ h) (Or.inl ⟨by kernel_rfl, ?_⟩) (by assumption) ?_
    · intro w' hSw
      try dsimp only at hSw
      go_simp <;> first | with_reducible rfl | assumption
    simp only [Act.put]
    refine wpAnyH_take (i := 12) (oi := _) (v := .agg #[.int .i64 p, .int .u8 kk, .int .i64 t]) rfl (by kernel_rfl) (by kernel_rfl) (by kernel_rfl) (fun _ _ _ h => HPN.out _ _ _ _ _ h) (Or.inl ⟨by kernel_rfl, ?_⟩) (by assumption) ?_
    · intro w' hSw
      try dsimp only at hSw
      go_simp <;> first | with_reducible rfl | assumption
    simp only [Act.put]
    refine wpAnyH_take (i := 14) (oi := _) (v := .pointer (some ⟨gi, 0, none⟩)) rfl (by kernel_rfl) (by kernel_rfl) (by kernel_rfl) (fun _ _ _ h => HPN.out _ _ _ _ _ h) (Or.inl ⟨by kernel_rfl, ?_⟩) (by assumption) ?_
    · intro w' hSw
      try dsimp only at hSw
      go_simp <;> first | with_reducible rfl | assumption
    simp only [Act.put]
    refine wpAnyH_take (i := 15) (oi := _) (v := .pointer (some ⟨gi, 1, none⟩)) rfl (by kernel_rfl) (by kernel_rfl) (by kernel_rfl) (fun _ _ _ h => HPN.out _ _ _ _ _ h) (Or.inl ⟨by kernel_rfl, ?_⟩) (by assumption) ?_
    · intro w' hSw
      try dsimp only at hSw
      go_simp <;> first | with_reducible rfl | assumption
    simp only [Act.put]
    refine wpAnyH_take (i := 16) (oi := _) (v := .int .i64 r) rfl (by kernel_rfl) (by kernel_rfl) (by kernel_rfl) (fun _ _ _ h => HPN.out _ _ _ _ _ h) (Or.inl ⟨by kernel_rfl, ?_⟩) (by assumption) ?_
    · intro w' hSw
      try dsimp only at hSw
      go_simp <;> first | with_reducible rfl | assumption
    simp only [Act.put]
    refine wpAnyH_ready (rs := [13]) (by kernel_rfl) (by simp) ?_
    refine AllReadyH.cons (o := _) rfl (fun K hK => ?_) AllReadyH.nil
    go_simp
    refine (HP2.out _ HBp.out).mono ?_
    rintro e wq ⟨rfl, hqb⟩
    have HBq : Hid (Below w1.heap.size w1 wq) := below_then HBp.out hqb
    refine hK.out _ _ (HS.out wq HBq.out) (fun hHeld => ?_)
    clear hK K
    try simp only [Act.put]
    by_cases hle : ((tt : Nat) : Int) <= r
    · refine wpAnyH_take (i := 17) (oi := _) (v := .bool true) rfl (by kernel_rfl) (by kernel_rfl) (by kernel_rfl) (fun _ _ _ h => HPN.out _ _ _ _ _ h) (Or.inl ⟨by kernel_rfl, ?_⟩) (by assumption) ?_
      · intro w' hSw
        try dsimp only at hSw
        go_simp <;> first | with_reducible rfl | assumption
      simp only [Act.put]
      refine wpAnyH_take (i := 18) (oi := _) (v := .bool true) rfl (by kernel_rfl) (by kernel_rfl) (by kernel_rfl) (fun _ _ _ h => HPN.out _ _ _ _ _ h) (Or.inl ⟨by kernel_rfl, ?_⟩) (by assumption) ?_
      · intro w' hSw
        try dsimp only at hSw
        go_simp <;> first | with_reducible rfl | assumption
      simp only [Act.put]
      refine wpAnyH_done (by kernel_rfl) ?_ _
      exact HQ.out _ true _ _ _ _ _ _ _ _ _ _ _ _ _ _ _ _ _ _ HBq.out (.inl rfl)
    · refine wpAnyH_take (i := 17) (oi := _) (v := .bool false) rfl (by kernel_rfl) (by kernel_rfl) (by kernel_rfl) (fun _ _ _ h => HPN.out _ _ _ _ _ h) (Or.inl ⟨by kernel_rfl, ?_⟩) (by assumption) ?_
      · intro w' hSw
        try dsimp only at hSw
        go_simp <;> first | with_reducible rfl | assumption
      simp only [Act.put]
      refine wpAnyH_take (i := 18) (oi := _) (v := .bool false) rfl (by kernel_rfl) (by kernel_rfl) (by kernel_rfl) (fun _ _ _ h => HPN.out _ _ _ _ _ h) (Or.inl ⟨by kernel_rfl, ?_⟩) (by assumption) ?_
      · intro w' hSw
        try dsimp only at hSw
        go_simp <;> first | with_reducible rfl | assumption
      simp only [Act.put]
      refine wpAnyH_done (by kernel_rfl) ?_ _
      exact HQ.out _ false _ _ _ _ _ _ _ _ _ _ _ _ _ _ _ _ _ _ HBq.out (.inr ⟨hbt, hle⟩)
end Go.Proofs.YtmoenmpbkockoaaGreat
namespace Go.Proofs.YtmoenmpbkockoaaGreat.Cn
open Go.RowKit Go.Maps Go.ChangeShapes
set_option maxHeartbeats 4000000 in
set_option maxRecDepth 100000 in
theorem Missing_any {k r c q : Int} {N W : Nat} {x : Int} (h : Par k r c q N W x) (w : World) (ro : Option Addr) (rn rc : Nat) (A : Nat -> Option Addr) (L C : Nat -> Nat) (F : Nat -> Nat -> UInt8) (hr : Rw w ro rn A L C F) (E : Int) (hE : erR x N c rn L = E) (v : Int) (M : Int) (hM : erF E v = M) (zs : List Int) (hzs : (if M = 0 then dl (fun d => !hbv (hP N c L F) (hQ N c L F) v d) N else []) = zs) :
    Calls Tryz.prog 14 #[.agg #[.int .i64 k, .int .i64 r, .int .i64 c, .int .i64 q], .slice ro rn rc, .int .i64 v] w (AnsI w M zs) := by
  obtain ⟨w0, hw0⟩ : ∃ w0, w0 = w.alloc (.cells #[.int .i64 k, .int .i64 r, .int .i64 c, .int .i64 q] 23) := ⟨_, rfl⟩
  have b0 : Below w.heap.size w w0 := by rw [hw0]; exact below_alloc _ _
  have HH := holdings_any h w0 ro rn rc A L C F (hr.below b0) E hE
  unfold AnsH at HH
  have hle := h.le
  clear hr hE h
  generalize hP N c L F = P at *
  generalize hQ N c L F = Q at *
  have HHS := fun u a b => has_any u a b v
  obtain ⟨i0, hi0, hz0, hz1, hz2⟩ := info_parts info3
  unfold AnsI
  by_cases e0 : E = 0
  · subst e0
    rw [show lenE 0 N = N from rfl] at HH
    by_cases hv : 1 <= v /\ v <= 1073741824
    · obtain rfl : M = 0 := by rw [<- hM]; unfold erF; rw [if_pos rfl, if_pos hv]
      rw [if_pos rfl] at hzs
      have HZ : Hid (dl (fun d => !hbv P Q v d) N = zs) := hzs
      have v1 : ¬ v < 1 := by omega
      have v2 : ¬ 1073741824 < v := by omega
      clear hzs hM hv
      go_enter Tryz.func14, Tryz.ntmps14
      go_wp2_with fail
      rw [<- hw0]
      refine HH.mono ?_
      rintro e wa ⟨a, cap, rfl, hh, ha⟩
      have HT : Hid (Hol w0.heap.size wa a N cap P Q) := hh
      have BA : Hid (Below w.heap.size w wa) := below_then b0 ha
      clear hh ha b0 hw0 HH
      go_wp2_with fail
      go_loopw [10, 32] (fun l y wr => ∃ (i : Nat) (a2 : Option Addr) (n2 cap2 : Nat), i <= N /\ y = .int .i64 (i : Int) /\ l = .slice a2 n2 cap2 /\ n2 <= i /\ Hid (wr.ownsInts wa.heap.size 3 .i64 (.slice a2 n2 cap2) (dl (fun d => !hbv P Q v d) i)) /\ Hid (Below wa.heap.size wa wr)) (fun _ y _ => N - (intOf y).toNat)
      case atStart => exact ⟨0, none, 0, 0, Nat.zero_le _, rfl, rfl, Nat.le_refl _, World.ownsInts_nil _ _ _ _, Below.refl _ _⟩
      case round =>
        obtain ⟨i, a2, n2, cap2, hi, rfl, rfl, hn2, hown, hbw⟩ := hrel
        by_cases hlt : i < N
        · obtain ⟨g, rfl, _, hgl⟩ := HT.out.at_ (by omega)
          have c0 : wr.cell? ⟨g, i * 2, none⟩ = some (.int .i64 (P i)) := (hbw.out.cell hgl).trans (HT.out.c0 hlt)
          have c1 : wr.cell? ⟨g, i * 2 + 1, none⟩ = some (.int .i64 (Q i)) := (hbw.out.cell hgl).trans (HT.out.c1 hlt)
          have i1 : (0 : Int) <= (i : Int) := by omega
          have i2 : (i : Int) < (N : Int) := by omega
          obtain ⟨wd, hwd⟩ : ∃ wd, wd = wr.alloc (.cells #[.int .i64 (P i), .int .i64 (Q i)] 103) := ⟨_, rfl⟩
          have BD : Hid (Below wa.heap.size wa wd) := by show Below _ _ _; rw [hwd]; exact b_alloc hbw.out _
          have OD : Hid (wd.ownsInts wa.heap.size 3 .i64 (.slice a2 n2 cap2) (dl (fun d => !hbv P Q v d) i)) := by show World.ownsInts _ _ _ _ _ _; rw [hwd]; exact hown.out.alloc _
          have HX := HHS wd (P i) (Q i)
          cases hb : hbv P Q v i
          · rw [show decide (P i = v \/ Q i = v) = false from hb] at HX
            go_wp2_with fail
            rw [<- hwd]
            clear hwd c0 c1
            refine HX.mono ?_
            rintro e we ⟨rfl, hwe⟩
            have BE2 : Hid (Below wa.heap.size wa we) := below_step BD.out hwe BD.out.size
            have OE := ownsInts_below OD.out hwe
            clear hwe HX
            have HLL : Hid (n2 = (dl (fun d => !hbv P Q v d) i).length) := ints_len OE
            have hl2 : (dl (fun d => !hbv P Q v d) i).length <= 32 := by rw [<- HLL.out]; omega
            go_wp2_with (first
              | (at_builtin; refine wpList_append_own_at _ rfl _ _ 38 rfl wa.heap.size 3 i0 (.int .i64 0) 1 8 Tryz.underlying38 hi0 hz0 hz1 hz2 rfl (by decide) _ _ _ rfl (OE.1.alloc _) ⟨we.heap.size, 0, none⟩ 1 1 [.int .i64 (i : Int)] rfl rfl (cell_one_new _ _ _) (ints_oneCell .i64 [(i : Int)]) (by unfold maxLen; omega) (by omega) (by have := BE2.out.size; simp; omega) ?_; intro v' w2 hown2 hgrow hnil hloc)
              | go_in)
            obtain ⟨a3, cap3, rfl⟩ := own_form hown2
            have hap := OE.appended hown2 (WalkArith.wf_i64 (by omega))
            have hll := HLL.out
            rw [<- hll] at hap
            go_roundw
            case rel =>
              refine ⟨i + 1, a3, n2 + 1, cap3, by omega, by go_num, by rw [<- hll], by omega, ?_, ?_⟩
              · show World.ownsInts _ _ _ _ _ _
                rw [dl, hb, if_pos (by rfl)]; exact hap
              · exact (b_alloc BE2.out _).grown hgrow (by have := BE2.out.size; simp; omega) (fun j hj => (OE.1.lt j hj).1)
            case measure => simp [intOf]; omega
          · rw [show decide (P i = v \/ Q i = v) = true from hb] at HX
            go_wp2_with fail
            rw [<- hwd]
            clear hwd c0 c1
            refine HX.mono ?_
            rintro e we ⟨rfl, hwe⟩
            have BE2 : Hid (Below wa.heap.size wa we) := below_step BD.out hwe BD.out.size
            have OE : Hid (we.ownsInts wa.heap.size 3 .i64 (.slice a2 n2 cap2) (dl (fun d => !hbv P Q v d) i)) := ownsInts_below OD.out hwe
            clear hwe HX
            go_wp2_with fail
            go_roundw
            case rel =>
              refine ⟨i + 1, a2, n2, cap2, by omega, by go_num, rfl, by omega, ?_, BE2.out⟩
              show World.ownsInts _ _ _ _ _ _
              rw [dl, hb, if_neg (by decide)]; exact OE.out
            case measure => simp [intOf]; omega
        · obtain rfl : i = N := by omega
          obtain rfl : zs = dl (fun d => !hbv P Q v d) i := HZ.out.symm
          go_wp2_with fail
          go_ret2
          have hll := ints_len hown.out
          refine ⟨a2, cap2, by rw [<- hll]; rfl, ?_, below_step BA.out hbw.out BA.out.size⟩
          rw [<- hll]; exact ints_mono hown.out BA.out.size
    · obtain rfl : M = 2 := by rw [<- hM]; unfold erF; rw [if_pos rfl, if_neg hv]
      rw [if_neg (by decide)] at hzs
      subst hzs
      clear hM
      by_cases v1 : v < 1
      · clear hv
        go_enter Tryz.func14, Tryz.ntmps14
        go_wp2_with fail
        rw [<- hw0]
        refine HH.mono ?_
        rintro e wa ⟨a, cap, rfl, hh, ha⟩
        have BA : Hid (Below w.heap.size w wa) := below_then b0 ha
        clear hh ha b0 hw0 HH
        go_wp2_with fail
        go_ret2
        exact ⟨none, 0, rfl, World.ownsInts_nil _ _ _ _, BA.out⟩
      · have v2 : 1073741824 < v := by omega
        clear hv
        go_enter Tryz.func14, Tryz.ntmps14
        go_wp2_with fail
        rw [<- hw0]
        refine HH.mono ?_
        rintro e wa ⟨a, cap, rfl, hh, ha⟩
        have BA : Hid (Below w.heap.size w wa) := below_then b0 ha
        clear hh ha b0 hw0 HH
        go_wp2_with fail
        go_ret2
        exact ⟨none, 0, rfl, World.ownsInts_nil _ _ _ _, BA.out⟩
  · have hq : (E != 0) = true := by simpa using e0
    obtain rfl : E = M := by rw [<- hM]; unfold erF; rw [if_neg e0]
    rw [if_neg e0] at hzs
    subst hzs
    rw [show lenE E N = 0 from if_neg e0] at HH
    clear hM
    go_enter Tryz.func14, Tryz.ntmps14
    go_wp2_with fail
    rw [<- hw0]
    refine HH.mono ?_
    rintro e wa ⟨a, cap, rfl, hh, ha⟩
    have BA : Hid (Below w.heap.size w wa) := below_then b0 ha
    clear hh ha b0 hw0 HH
    go_wp2_with fail
    go_ret2
    exact ⟨none, 0, rfl, World.ownsInts_nil _ _ _ _, BA.out⟩
end Go.Proofs.YtmoenmpbkockoaaGreat.Cn
namespace Go.Proofs.YtmoenmpbkockoaaGreat
open Go.RowKit
theorem ob_facts {k r c q : Int} {n : Nat} {F : Nat -> List UInt8} {o A D : Int} {M : Nat} {R V : Nat -> Int} {y : Int} {l s : Nat} {SR SV : Nat -> Int} (h : Ob k r c q n F o 0 A D M R V y l s SR SV) :
    ∃ N Q S W, Par k r c q N W 0 /\ Im.Ck k r c q n F 0 N Q S /\ (0 <= o /\ o < (Q : Int)) /\ (1 <= y /\ y <= 1073741824) /\ ∀ i, i < l -> (0 <= R i /\ R i < (Q : Int)) /\ 1 <= V i /\ V i <= 1073741824 := by
  rcases h with ⟨hE, _⟩ | ⟨N, W, Q, S, hp, hck, ho, ⟨hA, hD, hM, hRR, hVV, hy⟩, ⟨hne, hE⟩ | ⟨h0, hc⟩⟩
  · exact absurd rfl hE
  · exact absurd hE.symm hne
  · refine ⟨N, Q, S, W, hp, hck, ho, by rw [hy]; exact (dE_parts h0).2.1, fun i hi => ?_⟩
    rcases hc with ⟨_, _, hl, _⟩ | ⟨_, hEl, hl, _⟩
    · omega
    · obtain ⟨a1, a2, _⟩ := lf_parts (erLs_all hEl.symm i (by omega))
      exact ⟨a1, a2⟩
section
variable {k r c q : Int} {n N Q S W cl l : Nat} {F : Nat -> List UInt8} {w : World} {lo : Option Addr} {A0 : Nat -> Option Addr} {C0 : Nat -> Nat} {o y : Int} {R V SR SV : Nat -> Int}
theorem live_in (hoQ : 0 <= o /\ o < (Q : Int)) (hyr : 1 <= y /\ y <= 1073741824) (hlv : ∀ i, i < l -> (0 <= R i /\ R i < (Q : Int)) /\ 1 <= V i /\ V i <= 1073741824) (i : Nat) (hi : i <= l) : (0 <= lvA o l R SR i /\ lvA o l R SR i < (Q : Int)) /\ 1 <= lvA y l V SV i /\ lvA y l V SV i <= 1073741824 := by
  unfold lvA De.apI
  by_cases e : i = 0
  · rw [if_pos e, if_pos e]; exact ⟨hoQ, hyr⟩
  · rw [if_neg e, if_neg e, if_pos (by omega), if_pos (by omega)]
    exact hlv (i - 1) (by omega)
theorem sound_live (hp : Par k r c q N W 0) (hck : Im.Ck k r c q n F 0 N Q S) (hl : Im.Lst w lo n A0 C0 F) (hcl : n <= cl) (hoQ : 0 <= o /\ o < (Q : Int)) (hyr : 1 <= y /\ y <= 1073741824) (hlv : ∀ i, i < l -> (0 <= R i /\ R i < (Q : Int)) /\ 1 <= V i /\ V i <= 1073741824) (u : World) (hu : Below w.heap.size w u) (i : Nat) (hi : i <= l) :
    Calls Tryz.prog 30 #[.agg #[.int .i64 k, .int .i64 r, .int .i64 c, .int .i64 q, .slice lo n cl], .agg #[.int .i64 (lvA o l R SR i), .int .u8 (if i = 0 then 2 else 1), .int .i64 (lvA y l V SV i)]] u fun e w' => ∃ b : Bool, e = .returned (.bool b) /\ (b = true -> ∃ t, Snd k.toNat r.toNat N c (yy N c (gL Q F (lvA o l R SR i).toNat) (gF Q F (lvA o l R SR i).toNat)) (if i = 0 then 2 else 1) (lvA y l V SV i) t) /\ Below u.heap.size u w' := by
  obtain ⟨h1, h2⟩ := live_in (SR := SR) (SV := SV) hoQ hyr hlv i hi
  have hrow : Im.Rww k r c q n F (lvA o l R SR i) 0 N (Im.rowF Q (lvA o l R SR i).toNat F) := ⟨0, N, Q, S, hck, .inl ⟨rfl, h1.1, h1.2, rfl, rfl, rfl⟩⟩
  have key := fun kd hkd => sound_go hp u lo n cl (lvA o l R SR i) (lvA y l V SV i) kd hkd h2 (Im.rowF Q (lvA o l R SR i).toNat F) (fit_row hck (by omega)) (fun u' hu' => Im.Row_any hrow lo cl hcl A0 C0 u' (hl.below (below_then hu hu')))
  by_cases e : i = 0
  · have h := key 2 (.inr rfl)
    rw [if_pos e, if_pos e]; exact h
  · have h := key 1 (.inl rfl)
    rw [if_neg e, if_neg e]; exact h
theorem told_live (hp : Par k r c q N W 0) (hck : Im.Ck k r c q n F 0 N Q S) (hl : Im.Lst w lo n A0 C0 F) (hcl : n <= cl) (hoQ : 0 <= o /\ o < (Q : Int)) (hyr : 1 <= y /\ y <= 1073741824) (hlv : ∀ i, i < l -> (0 <= R i /\ R i < (Q : Int)) /\ 1 <= V i /\ V i <= 1073741824) (u : World) (hu : Below w.heap.size w u) (i : Nat) (hi : i <= l) :
    Calls Tryz.prog 31 #[.agg #[.int .i64 k, .int .i64 r, .int .i64 c, .int .i64 q, .slice lo n cl], .agg #[.int .i64 (lvA o l R SR i), .int .u8 (if i = 0 then 2 else 1), .int .i64 (lvA y l V SV i)]] u fun e w' => e = .returned (.int .i64 (((Cn.dl (tD (yy N c (gL Q F (lvA o l R SR i).toNat) (gF Q F (lvA o l R SR i).toNat)) (if i = 0 then 2 else 1) (lvA y l V SV i)) N).length : Nat) : Int)) /\ Below u.heap.size u w' := by
  obtain ⟨h1, h2⟩ := live_in (SR := SR) (SV := SV) hoQ hyr hlv i hi
  have hrow : Im.Rww k r c q n F (lvA o l R SR i) 0 N (Im.rowF Q (lvA o l R SR i).toNat F) := ⟨0, N, Q, S, hck, .inl ⟨rfl, h1.1, h1.2, rfl, rfl, rfl⟩⟩
  have key := fun kd hkd => told_go hp u lo n cl (lvA o l R SR i) (lvA y l V SV i) kd hkd (Im.rowF Q (lvA o l R SR i).toNat F) (fit_row hck (by omega)) (fun u' hu' => Im.Row_any hrow lo cl hcl A0 C0 u' (hl.below (below_then hu hu')))
  by_cases e : i = 0
  · have h := key 2 (.inr rfl)
    rw [if_pos e, if_pos e]; exact h
  · have h := key 1 (.inl rfl)
    rw [if_neg e, if_neg e]; exact h
end
end Go.Proofs.YtmoenmpbkockoaaGreat
namespace Go.Proofs.YtmoenmpbkockoaaGreat
open Go.RowKit
theorem below_five {a v : World} {g : Nat} (h : Below a.heap.size a v) (hg : a.heap.size <= g) (u0 u1 u2 u3 u4 : Value) : Below a.heap.size a (((((v.setCell ⟨g, 0, none⟩ u0).setCell ⟨g, 1, none⟩ u1).setCell ⟨g, 2, none⟩ u2).setCell ⟨g, 3, none⟩ u3).setCell ⟨g, 4, none⟩ u4) :=
  ((((h.setCell (p := ⟨g, 0, none⟩) hg u0).setCell (p := ⟨g, 1, none⟩) hg u1).setCell (p := ⟨g, 2, none⟩) hg u2).setCell (p := ⟨g, 3, none⟩) hg u3).setCell (p := ⟨g, 4, none⟩) hg u4
theorem at_five {a v : World} {g : Nat} {t : TypeId} {x0 x1 x2 x3 x4 : Value} (h : At a v g #[x0, x1, x2, x3, x4] t) (u0 u1 u2 u3 u4 : Value) : At a (((((v.setCell ⟨g, 0, none⟩ u0).setCell ⟨g, 1, none⟩ u1).setCell ⟨g, 2, none⟩ u2).setCell ⟨g, 3, none⟩ u3).setCell ⟨g, 4, none⟩ u4) g #[u0, u1, u2, u3, u4] t :=
  ((((h.set 0 u0).set 1 u1).set 2 u2).set 3 u3).set 4 u4
theorem im_mono {B B' : Nat} {w : World} {lo : Option Addr} {n : Nat} {A : Nat -> Option Addr} {C : Nat -> Nat} {F : Nat -> List UInt8} (h : Im.Im B w lo n A C F) (hB : B' <= B) : Im.Im B' w lo n A C F := by
  rcases h with h | ⟨l, e, h1, h2⟩
  · exact .inl h
  · exact .inr ⟨l, e, h1.mono (fun b hb => Nat.le_trans hB hb), fun i hi => by
      rcases h2 i hi with h | ⟨g, e1, e2, e3⟩
      · exact .inl h
      · exact .inr ⟨g, e1, Nat.le_trans hB e2, e3⟩⟩
set_option maxHeartbeats 8000000 in
set_option maxRecDepth 100000 in
theorem wip_reg (w1 : World) (k r c q : Int) (lo : Option Addr) (n cl g0 xb xo xn xc i : Nat) (z x k' r' c' q' : Int) (n' : Nat) (F' : Nat -> List UInt8) (hi : (0 : Int) <= (i : Int)) (hi2 : (i : Int) < (xn : Int)) (x0 x1 x3 x4 x5 x6 x7 x8 x9 x10 x11 x12 x13 x14 x15 x16 x17 x18 x19 x22 x23 x24 x25 x26 x27 x28 x29 x30 x31 x32 x33 x34 x35 x36 x37 x38 x39 x40 x41 x42 x43 x44 x45 x46 x47 x48 x49 x50 x51 x52 x53 x54 x55 x56 x57 x58 x59 x60 x61 x62 x63 x64 x65 x66 x67 x68 x69 x70 x71 x72 x73 x74 x75 x76 x77 x78 x79 x80 x81 x82 x83 x84 x85 x86 x87 x88 x89 x90 x91 x92 x93 x94 x95 x96 x97 x98 x99 x100 x101 x102 x103 x104 x105 x106 x107 x108 x109 x110 x111 x112 x113 x114 x115 x116 x117 x118 x119 x120 x121 x122 x123 x124 x125 x126 x127 x128 x129 x130 x131 x132 x133 x134 x135 x136 x137 x138 x139 x140 x141 x142 x143 x144 x145 x146 x147 x148 x149 x150 x151 x152 x153 x154 x155 x156 x157 x158 x159 x160 x161 x162 x163 x164 x165 x166 x167 x168 x169 x170 x171 x172 x173 x174 x175 x176 x177 x178 x179 x180 x181 x182 x183 x184 x185 x186 x187 x188 x189 x190 x191 x192 x193 x194 x195 x196 x197 x198 x199 x200 x201 x202 x203 x204 x205 x206 x207 x208 x209 x210 x211 x212 x213 x214 x215 x216 x217 : Value)
    (HS : Hid (∀ v, Below w1.heap.size w1 v -> (v.cell? ⟨g0, 0, none⟩ = some (.int .i64 k) /\ v.cell? ⟨g0, 1, none⟩ = some (.int .i64 r) /\ v.cell? ⟨g0, 2, none⟩ = some (.int .i64 c) /\ v.cell? ⟨g0, 3, none⟩ = some (.int .i64 q) /\ v.cell? ⟨g0, 4, none⟩ = some (.slice lo n cl) /\ v.cell? ⟨xb, xo + i, none⟩ = some (.int .i64 z))))
    (HP1 : Hid (∀ v, Below w1.heap.size w1 v -> Calls Tryz.prog 32 #[.agg #[.int .i64 k, .int .i64 r, .int .i64 c, .int .i64 q, .slice lo n cl], .int .i64 z] v fun e w' => ∃ lo' A' C', e = .returned (.tuple #[.agg #[.int .i64 k', .int .i64 r', .int .i64 c', .int .i64 q', .slice lo' n' n'], .int .i64 x]) /\ Im.Im v.heap.size w' lo' n' A' C' F' /\ Below v.heap.size v w'))
    (Q : Exit -> Act -> World -> Prop) (HQ : Hid (∀ v g lo' A' C' y132 y133 y134 y135 y136 y137 y138 y139 y140, Below w1.heap.size w1 v -> At w1 v g #[.int .i64 k', .int .i64 r', .int .i64 c', .int .i64 q', .slice lo' n' n'] 51 -> Im.Im w1.heap.size v lo' n' A' C' F' -> Q .normal { tmps := #[x0, x1, .slice (some ⟨xb, xo, none⟩) xn xc, x3, x4, x5, x6, x7, x8, x9, x10, x11, x12, x13, x14, x15, x16, x17, x18, x19, .pointer (some ⟨g0, 0, none⟩), .int .i64 (i : Int), .pointer (some ⟨g, 0, none⟩), .int .i64 x, x24, x25, x26, x27, x28, x29, x30, x31, x32, x33, x34, x35, x36, x37, x38, x39, x40, x41, x42, x43, x44, x45, x46, x47, x48, x49, x50, x51, x52, x53, x54, x55, x56, x57, x58, x59, x60, x61, x62, x63, x64, x65, x66, x67, x68, x69, x70, x71, x72, x73, x74, x75, x76, x77, x78, x79, x80, x81, x82, x83, x84, x85, x86, x87, x88, x89, x90, x91, x92, x93, x94, x95, x96, x97, x98, x99, x100, x101, x102, x103, x104, x105, x106, x107, x108, x109, x110, x111, x112, x113, x114, x115, x116, x117, x118, x119, x120, x121, x122, x123, x124, x125, x126, x127, x128, x129, x130, x131, y132, y133, y134, y135, y136, y137, y138, y139, y140, x141, x142, x143, x144, x145, x146, x147, x148, x149, x150, x151, x152, x153, x154, x155, x156, x157, x158, x159, x160, x161, x162, x163, x164, x165, x166, x167, x168, x169, x170, x171, x172, x173, x174, x175, x176, x177, x178, x179, x180, x181, x182, x183, x184, x185, x186, x187, x188, x189, x190, x191, x192, x193, x194, x195, x196, x197, x198, x199, x200, x201, x202, x203, x204, x205, x206, x207, x208, x209, x210, x211, x212, x213, x214, x215, x216, x217], defers := [] } v)) :
    Code.wp Tryz.prog (Code.region 25 #[{ dst := some 133, op := Op.load 51 (.tmp 20), type := 51, pos := "outright.go:161", after := #[], guard := none }, { dst := some 134, op := Op.move (.tmp 2), type := 38, pos := "outright.go:161", after := #[], guard := none }, { dst := some 135, op := Op.move (.tmp 21), type := 3, pos := "outright.go:161", after := #[], guard := none }, { dst := some 136, op := Op.indexAddr 38 (.tmp 134) (.tmp 135), type := 0, pos := "outright.go:161", after := #[{ on := 1, ground := .data }, { on := 2, ground := .data }], guard := none }, { dst := some 137, op := Op.load 3 (.tmp 136), type := 3, pos := "outright.go:161", after := #[{ on := 3, ground := .data }], guard := none }, { dst := some 138, op := Op.call { callee := Callee.value (Operand.func 32), args := #[.tmp 133, .tmp 137], argTypes := #[51, 3] }, type := 70, pos := "outright.go:161", after := #[{ on := 0, ground := .data }, { on := 4, ground := .data }], guard := none }, { dst := some 132, op := Op.move (.tmp 138), type := 70, pos := "outright.go:161", after := #[{ on := 5, ground := .data }], guard := none }, { dst := some 139, op := Op.extract (.tmp 132) 0, type := 51, pos := "outright.go:161", after := #[{ on := 6, ground := .data }], guard := none }, { dst := some 140, op := Op.extract (.tmp 132) 1, type := 31, pos := "outright.go:161", after := #[{ on := 6, ground := .data }, { on := 10, ground := Ground.gcOnly Departure.lateStores }], guard := none }, { dst := some 22, op := Op.alloc 51, type := 0, pos := "outright.go:161", after := #[], guard := none }, { dst := none, op := Op.store 51 (.tmp 22) (.tmp 139), type := 0, pos := "outright.go:161", after := #[{ on := 9, ground := .data }, { on := 7, ground := .data }, { on := 5, ground := Ground.chain }, { on := 0, ground := Ground.phase }, { on := 1, ground := Ground.phase }, { on := 2, ground := Ground.phase }, { on := 3, ground := Ground.phase }, { on := 4, ground := Ground.phase }, { on := 5, ground := Ground.phase }, { on := 6, ground := Ground.phase }, { on := 7, ground := Ground.phase }, { on := 8, ground := Ground.textOnly Departure.lateStores }, { on := 9, ground := Ground.phase }], guard := none }, { dst := some 23, op := Op.assign (.tmp 140), type := 31, pos := "outright.go:161", after := #[{ on := 8, ground := .data }, { on := 10, ground := Ground.chain }, { on := 0, ground := Ground.phase }, { on := 1, ground := Ground.phase }, { on := 2, ground := Ground.phase }, { on := 3, ground := Ground.phase }, { on := 4, ground := Ground.phase }, { on := 5, ground := Ground.phase }, { on := 6, ground := Ground.phase }, { on := 7, ground := Ground.phase }, { on := 8, ground := Ground.phase }, { on := 9, ground := Ground.phase }, { on := 10, ground := Ground.phase }], guard := none }] true) Q { tmps := #[x0, x1, .slice (some ⟨xb, xo, none⟩) xn xc, x3, x4, x5, x6, x7, x8, x9, x10, x11, x12, x13, x14, x15, x16, x17, x18, x19, .pointer (some ⟨g0, 0, none⟩), .int .i64 (i : Int), x22, x23, x24, x25, x26, x27, x28, x29, x30, x31, x32, x33, x34, x35, x36, x37, x38, x39, x40, x41, x42, x43, x44, x45, x46, x47, x48, x49, x50, x51, x52, x53, x54, x55, x56, x57, x58, x59, x60, x61, x62, x63, x64, x65, x66, x67, x68, x69, x70, x71, x72, x73, x74, x75, x76, x77, x78, x79, x80, x81, x82, x83, x84, x85, x86, x87, x88, x89, x90, x91, x92, x93, x94, x95, x96, x97, x98, x99, x100, x101, x102, x103, x104, x105, x106, x107, x108, x109, x110, x111, x112, x113, x114, x115, x116, x117, x118, x119, x120, x121, x122, x123, x124, x125, x126, x127, x128, x129, x130, x131, x132, x133, x134, x135, x136, x137, x138, x139, x140, x141, x142, x143, x144, x145, x146, x147, x148, x149, x150, x151, x152, x153, x154, x155, x156, x157, x158, x159, x160, x161, x162, x163, x164, x165, x166, x167, x168, x169, x170, x171, x172, x173, x174, x175, x176, x177, x178, x179, x180, x181, x182, x183, x184, x185, x186, x187, x188, x189, x190, x191, x192, x193, x194, x195, x196, x197, x198, x199, x200, x201, x202, x203, x204, x205, x206, x207, x208, x209, x210, x211, x212, x213, x214, x215, x216, x217], defers := [] } w1 := by
  obtain ⟨s0, s1, s2, s3, s4, s5⟩ := HS.out w1 (Below.refl _ _)
  have hd0 : Below w1.heap.size w1 w1.drew := below_drew _ _
  have hda : ∀ o, Below w1.heap.size w1 (w1.alloc o).drew := fun o => b_drew (b_alloc (Below.refl _ _) o)
  go_region_held3 (fun v => v.cell? ⟨g0, 0, none⟩ = some (.int .i64 k) /\ v.cell? ⟨g0, 1, none⟩ = some (.int .i64 r) /\ v.cell? ⟨g0, 2, none⟩ = some (.int .i64 c) /\ v.cell? ⟨g0, 3, none⟩ = some (.int .i64 q) /\ v.cell? ⟨g0, 4, none⟩ = some (.slice lo n cl) /\ v.cell? ⟨xb, xo + i, none⟩ = some (.int .i64 z)) ((refine HS.out _ ?_; first | with_reducible exact hd0 | with_reducible exact hda _ | with_reducible exact hb' | with_reducible exact b_alloc hb' _ | with_reducible exact below_five hb' hgg _ _ _ _ _ | with_reducible exact below_five (b_alloc hb' _) hb'.size _ _ _ _ _)) ((first
    | (go_at_call 32; refine (HP1.out _ (hda _)).mono ?_; rintro e w' ⟨lo', A', C', rfl, hv, hw'⟩; have hb' := below_then (hda _) hw'; have hat : At w1 w' w1.heap.size #[.int .i64 0, .int .i64 0, .int .i64 0, .int .i64 0, .slice none 0 0] 51 := (at_new (a := w1) (Below.refl _ _) _ 51).drew.below hw'; have hgg := hat.1; have c0 := hat.cell (i := 0) rfl; have c1 := hat.cell (i := 1) rfl; have c2 := hat.cell (i := 2) rfl; have c3 := hat.cell (i := 3) rfl; have c4 := hat.cell (i := 4) rfl; have cf := hat.free; clear hw')
    | (go_at_call 32; refine (HP1.out _ hd0).mono ?_; rintro e w' ⟨lo', A', C', rfl, hv, hw'⟩; have hb' := below_then hd0 hw'; clear hw')))
  · refine HQ.out _ _ lo' A' C' _ _ _ _ _ _ _ _ _ ?_ ?_ ?_
    · exact b_alloc hb' _
    · exact at_new hb' _ _
    · exact hv.below (below_alloc _ _)
  · refine HQ.out _ _ lo' A' C' _ _ _ _ _ _ _ _ _ ?_ ?_ ?_
    · exact below_five hb' hgg _ _ _ _ _
    · exact at_five hat _ _ _ _ _
    · exact im_mono (hv.only (Im.only5 w' w1.heap.size _ _ _ _ _) (fun b hb e => by have e2 : b = w1.heap.size := e; have h2 : (w1.alloc (.cells #[.int .i64 0, .int .i64 0, .int .i64 0, .int .i64 0, .slice none 0 0] 51)).heap.size <= b := hb; simp at h2; omega)) (by show w1.heap.size <= (w1.alloc _).heap.size; simp)
end Go.Proofs.YtmoenmpbkockoaaGreat
namespace Go.Proofs.YtmoenmpbkockoaaGreat
open Go.RowKit
theorem lv_succ {o : Int} {l i : Nat} {R SR : Nat -> Int} (h : i < l) : lvA o l R SR (i + 1) = R i := by
  unfold lvA De.apI
  rw [if_neg (Nat.succ_ne_zero i), Nat.add_sub_cancel, if_pos h]
theorem ck_wF {k r c q : Int} {n : Nat} {F : Nat -> List UInt8} {N Q S : Nat} (Z : Nat -> Int) (h : Im.Ck k r c q n F 0 N Q S) : ∀ j, Im.Ck k r c q n (wF Q Z F j) 0 N Q S
  | 0 => h
  | j + 1 => by
    obtain ⟨h1, h2, h3⟩ := (ck_wF Z h j).ok rfl
    refine .inl ⟨rfl, h1, h2, fun i hi => ?_⟩
    show (Im.wpF Q (Z j).toNat (wF Q Z F j) i).length = 0 \/ (Im.wpF Q (Z j).toNat (wF Q Z F j) i).length = S
    unfold Im.wpF
    by_cases e : i / (2 * Q) = (Z j).toNat
    · rw [if_pos e]; exact .inl rfl
    · rw [if_neg e]; exact h3 i hi
theorem wip_two {k r c q : Int} {n : Nat} {F F0 : Nat -> List UInt8} {N Q S : Nat} {d x k' r' c' q' : Int} {n' : Nat} {F' : Nat -> List UInt8} (hck : Im.Ck k r c q n F0 0 N Q S) (hw : Im.Wip k r c q n F d x k' r' c' q' n' F') :
    (x = 0 /\ k' = k /\ r' = r /\ c' = c /\ q' = q /\ n' = n /\ F' = Im.wpF Q d.toNat F) \/ ¬ x = 0 := by
  obtain ⟨y, N', Q', S', h, hc⟩ := hw
  obtain ⟨⟨_, _, hQ, _⟩, _⟩ := hck.ok rfl
  rcases hc with ⟨rfl, h1, h2, h3, h4, h5, h6, h7, h8, h9⟩ | ⟨_, ⟨h1, rfl⟩ | ⟨_, _, rfl⟩⟩
  · obtain ⟨⟨_, _, hQ', _⟩, _⟩ := h.ok rfl
    obtain rfl : Q' = Q := by omega
    exact .inl ⟨h3, h4, h5, h6, h7, h8, h9⟩
  · exact .inr h1
  · exact .inr (by decide)
set_option maxHeartbeats 16000000 in
set_option maxRecDepth 100000 in
theorem wiped_good {k r c q : Int} {n : Nat} {F : Nat -> List UInt8} {o A D : Int} {M : Nat} {R V : Nat -> Int} {y : Int} {l s : Nat} {SR SV : Nat -> Int} (h : Ob k r c q n F o 0 A D M R V y l s SR SV) (w : World) (lo : Option Addr) (cl : Nat) (hcl : n <= cl) (A0 : Nat -> Option Addr) (C0 : Nat -> Nat) (hl : Im.Lst w lo n A0 C0 F) (xo : Option Addr) (xn xc : Nat) (Z : Nat -> Int) (hZ : RdI w xo xn Z) (hx : ¬ r < (xn : Int)) :
    Calls Tryz.prog 6 #[.agg #[.int .i64 k, .int .i64 r, .int .i64 c, .int .i64 q, .slice lo n cl], .int .i64 o, .slice xo xn xc] w fun e w' => e = .returned (.bool true) /\ Below w.heap.size w w' := by
  obtain ⟨NN, WW, hpar, hmade, hl1, hs1⟩ := ob_good h
  have HO : Hid (∀ u, Below w.heap.size w u -> Calls Tryz.prog 22 #[.agg #[.int .i64 k, .int .i64 r, .int .i64 c, .int .i64 q, .slice lo n cl], .int .i64 o] u (AnsO u 0 A D M R V y l s SR SV)) := fun u hu => Object_any h u lo cl hcl A0 C0 (hl.below hu)
  have HS : Hid (∀ u, Below w.heap.size w u -> Calls Tryz.prog 24 #[.agg #[.int .i64 k, .int .i64 r, .int .i64 c, .int .i64 q, .slice lo n cl], .int .i64 o] u (AnsLv u 0 (l + s + 1) (lvA o l R SR) (lvA y l V SV))) := fun u hu => Stripes_tr h u lo cl hcl A0 C0 (hl.below hu)
  have HA : Hid (∀ u, Calls Tryz.prog 20 #[] u fun e w' => e = .returned (.bool true) /\ Below u.heap.size u w') := fun u => awake_any u
  have HB : Hid (∀ u, Calls Tryz.prog 21 #[.agg #[.int .i64 k, .int .i64 r, .int .i64 c, .int .i64 q, .slice lo n cl]] u fun e w' => (∃ b, e = .returned (.bool b)) /\ Below u.heap.size u w') := fun u => big_any k r c q lo n cl u
  unfold AnsO at HO
  unfold AnsLv at HS
  rw [lenE_zero, lenE_zero, lenE_zero, De.lenI_zero, De.lenI_zero, De.lenI_zero] at HO
  rw [lenE_zero] at HS
  obtain ⟨N, Q, S, W, hp, hck, hoQ, hyr, hlv⟩ := ob_facts h
  have hnx : xn <= 16 := by
    have := hp.le
    rcases hp with ⟨hm, _, hN, _⟩ | ⟨_, _, _, h0⟩
    · obtain ⟨m1, m2, m3, m4, _⟩ := may_true hm; omega
    · exact absurd h0 (by decide)
  have hrow : Im.Rww k r c q n F o 0 N (Im.rowF Q o.toNat F) := ⟨0, N, Q, S, hck, .inl ⟨rfl, hoQ.1, hoQ.2, rfl, rfl, rfl⟩⟩
  have HRW : Hid (∀ u, Below w.heap.size w u -> Calls Tryz.prog 29 #[.agg #[.int .i64 k, .int .i64 r, .int .i64 c, .int .i64 q, .slice lo n cl], .int .i64 o] u fun e w' => ∃ lo' A' C', e = .returned (.tuple #[.slice lo' N N, .int .i64 0]) /\ Im.Im u.heap.size w' lo' (2 * N) A' C' (Im.rowF Q o.toNat F) /\ Below u.heap.size u w') := fun u hu => Im.Row_any hrow lo cl hcl A0 C0 u (hl.below hu)
  have HMI : Hid (∀ u ro A' C', Rw u ro N A' (gL Q F o.toNat) C' (gF Q F o.toNat) -> Calls Tryz.prog 14 #[.agg #[.int .i64 k, .int .i64 r, .int .i64 c, .int .i64 q], .slice ro N N, .int .i64 y] u (Cn.AnsI u 0 (Cn.dl (fun d => !Cn.hbv (Cn.hP N c (gL Q F o.toNat) (gF Q F o.toNat)) (Cn.hQ N c (gL Q F o.toNat) (gF Q F o.toNat)) y d) N))) := fun u ro A' C' hr => Cn.Missing_any hp u ro N N A' (gL Q F o.toNat) C' (gF Q F o.toNat) hr 0 (erR_ok (fit_row hck (by omega))) y 0 (by unfold erF; rw [if_pos rfl, if_pos hyr]) _ (by rw [if_pos rfl])
  have HSD : Hid (∀ u, Below w.heap.size w u -> ∀ i, i <= l -> Calls Tryz.prog 30 #[.agg #[.int .i64 k, .int .i64 r, .int .i64 c, .int .i64 q, .slice lo n cl], .agg #[.int .i64 (lvA o l R SR i), .int .u8 (if i = 0 then 2 else 1), .int .i64 (lvA y l V SV i)]] u fun e w' => ∃ b : Bool, e = .returned (.bool b) /\ (b = true -> ∃ t, Snd k.toNat r.toNat N c (yy N c (gL Q F (lvA o l R SR i).toNat) (gF Q F (lvA o l R SR i).toNat)) (if i = 0 then 2 else 1) (lvA y l V SV i) t) /\ Below u.heap.size u w') := fun u hu i hi => sound_live hp hck hl hcl hoQ hyr hlv u hu i hi
  have HTD : Hid (∀ u, Below w.heap.size w u -> ∀ i, i <= l -> Calls Tryz.prog 31 #[.agg #[.int .i64 k, .int .i64 r, .int .i64 c, .int .i64 q, .slice lo n cl], .agg #[.int .i64 (lvA o l R SR i), .int .u8 (if i = 0 then 2 else 1), .int .i64 (lvA y l V SV i)]] u fun e w' => e = .returned (.int .i64 (((Cn.dl (tD (yy N c (gL Q F (lvA o l R SR i).toNat) (gF Q F (lvA o l R SR i).toNat)) (if i = 0 then 2 else 1) (lvA y l V SV i)) N).length : Nat) : Int)) /\ Below u.heap.size u w') := fun u hu i hi => told_live hp hck hl hcl hoQ hyr hlv u hu i hi
  have HOB : Hid (Ob k r c q n F o 0 A D M R V y l s SR SV) := h
  have HCK : Hid (Par k r c q N W 0 /\ Im.Ck k r c q n F 0 N Q S) := ⟨hp, hck⟩
  have HLS : Hid (Im.Lst w lo n A0 C0 F) := hl
  have HZR : Hid (RdI w xo xn Z) := hZ
  clear h hl hpar hmade hp hck hrow hZ hlv hyr hoQ
  obtain ⟨w0, hw0⟩ : ∃ w0, w0 = w.alloc (.cells #[.int .i64 k, .int .i64 r, .int .i64 c, .int .i64 q, .slice lo n cl] 51) := ⟨_, rfl⟩
  have b0 : Below w.heap.size w w0 := by rw [hw0]; exact below_alloc _ _
  have HQ : Hid (∀ u, Below w0.heap.size w0 u -> u.cell? ⟨w.heap.size, 0, none⟩ = some (.int .i64 k) /\ u.cell? ⟨w.heap.size, 1, none⟩ = some (.int .i64 r) /\ u.cell? ⟨w.heap.size, 2, none⟩ = some (.int .i64 c) /\ u.cell? ⟨w.heap.size, 3, none⟩ = some (.int .i64 q) /\ u.cell? ⟨w.heap.size, 4, none⟩ = some (.slice lo n cl)) := fun u hu => mea_held hw0 hu
  have HB0 : Hid (Below w.heap.size w w0) := b0
  go_enter Tryz.func6, Tryz.ntmps6
  go_wp2_with fail
  rw [<- hw0]
  clear hw0 b0
  refine (HA.out _).mono ?_
  rintro e wa ⟨rfl, ha⟩
  obtain ⟨s0, s1, s2, s3, s4⟩ := HQ.out wa ha
  go_wp2_with fail
  refine (HB.out _).mono ?_
  rintro e wb ⟨⟨b, rfl⟩, hb⟩
  have hab := below_then ha hb
  clear s0 s1 s2 s3 s4 ha hb
  obtain ⟨s0, s1, s2, s3, s4⟩ := HQ.out wb hab
  cases b
  · go_wp2_with fail
    refine (HO.out _ (below_then HB0.out hab)).mono ?_
    rintro e wc ⟨ao, cp, lo', lc, so, sc, rfl, _, hlv, hst, hc⟩
    have hac := below_then hab hc
    obtain ⟨wd, hwd⟩ : ∃ wd, wd = wc.alloc (.cells #[.int .i64 A, .int .i64 D, .slice ao M cp] 27) := ⟨_, rfl⟩
    have bd : Below wc.heap.size wc wd := by rw [hwd]; exact below_alloc _ _
    have had := below_then hac bd
    have HD : Hid (∀ u, Below wd.heap.size wd u -> u.cell? ⟨wc.heap.size, 0, none⟩ = some (.int .i64 A) /\ u.cell? ⟨wc.heap.size, 1, none⟩ = some (.int .i64 D)) := fun u hu => ⟨blk_held hwd hu 0 rfl, blk_held hwd hu 1 rfl⟩
    have HL1 : Hid (De.OwR wb.heap.size wd lo' l lc R V) := hlv.below bd
    have HS1 : Hid (De.OwR wb.heap.size wd so s sc SR SV) := hst.below bd
    clear s0 s1 s2 s3 s4 hab hc bd hlv hst
    have s0 := fun o => (HQ.out (wc.alloc o) (below_then hac (below_alloc _ o))).1
    have s1 := fun o => (HQ.out (wc.alloc o) (below_then hac (below_alloc _ o))).2.1
    have s2 := fun o => (HQ.out (wc.alloc o) (below_then hac (below_alloc _ o))).2.2.1
    have s3 := fun o => (HQ.out (wc.alloc o) (below_then hac (below_alloc _ o))).2.2.2.1
    have s4 := fun o => (HQ.out (wc.alloc o) (below_then hac (below_alloc _ o))).2.2.2.2
    clear hac
    go_wp2_with fail
    rw [<- hwd]
    refine (HS.out _ (below_then HB0.out had)).mono ?_
    rintro e we ⟨vo, vc, rfl, hvv, he⟩
    have hae := below_then had he
    clear s0 s1 s2 s3 s4
    obtain ⟨s0, s1, s2, s3, s4⟩ := HQ.out we hae
    go_wp2_with fail
    refine (HRW.out _ (below_then HB0.out hae)).mono ?_
    rintro e wf ⟨po, A', C', rfl, hI, hf⟩
    have hrw := rw_of hI
    have haf := below_then hae hf
    clear s0 s1 s2 s3 s4 hI
    obtain ⟨s0, s1, s2, s3, s4⟩ := HQ.out wf haf
    go_wp2_with fail
    refine (HMI.out wf po A' C' hrw).mono ?_
    rintro e wi ⟨mo, mc, rfl, _, hm⟩
    have hai := below_then haf hm
    have hdi := below_then he (below_then hf hm)
    have HBI : Hid (Below w.heap.size w wi) := below_then HB0.out hai
    have HLi : Hid (De.OwR wb.heap.size wi lo' l lc R V) := HL1.out.below hdi
    have HSi : Hid (De.OwR wb.heap.size wi so s sc SR SV) := HS1.out.below hdi
    have HVi : Hid (OwV wd.heap.size wi vo (l + s + 1) vc (lvA o l R SR) (lvA y l V SV)) := hvv.below (below_then hf hm)
    have HDi : Hid (∀ u, Below wi.heap.size wi u -> u.cell? ⟨wc.heap.size, 0, none⟩ = some (.int .i64 A) /\ u.cell? ⟨wc.heap.size, 1, none⟩ = some (.int .i64 D)) := fun u hu => HD.out u (below_then hdi hu)
    have HQi : Hid (∀ u, Below wi.heap.size wi u -> u.cell? ⟨w.heap.size, 0, none⟩ = some (.int .i64 k) /\ u.cell? ⟨w.heap.size, 1, none⟩ = some (.int .i64 r) /\ u.cell? ⟨w.heap.size, 2, none⟩ = some (.int .i64 c) /\ u.cell? ⟨w.heap.size, 3, none⟩ = some (.int .i64 q) /\ u.cell? ⟨w.heap.size, 4, none⟩ = some (.slice lo n cl)) := fun u hu => HQ.out u (below_then hai hu)
    clear s0 s1 s2 s3 s4 hwd had he hae hf haf hm hai hdi hrw hvv HO HS HA HB HQ HD HL1 HS1 HRW HMI
    obtain ⟨gs, hgs⟩ : ∃ gs, gs = Cn.dl (fun d => !Cn.hbv (Cn.hP N c (gL Q F o.toNat) (gF Q F o.toNat)) (Cn.hQ N c (gL Q F o.toNat) (gF Q F o.toNat)) y d) N := ⟨_, rfl⟩
    rw [<- hgs]
    by_cases hg0 : gs.length = 0
    · have HALL : Hid (∀ i, i < N -> Cn.hbv (Cn.hP N c (gL Q F o.toNat) (gF Q F o.toNat)) (Cn.hQ N c (gL Q F o.toNat) (gF Q F o.toNat)) y i = true) := fun i hi => by
        rw [hgs] at hg0
        have := Cn.dl_nil hg0 hi
        simpa using this
      rw [hg0]
      clear hg0 hgs
      obtain ⟨gv, hgv, _, _, hcv⟩ := HVi.out.at_ (by omega)
      subst hgv
      have HCV : Hid (∀ u, Below wi.heap.size wi u -> ∀ i, i < l + s + 1 -> u.cell? ⟨gv, i * 3, none⟩ = some (.int .i64 (lvA o l R SR i)) /\ u.cell? ⟨gv, i * 3 + 1, none⟩ = some (.int .u8 (if i = 0 then 2 else 1)) /\ u.cell? ⟨gv, i * 3 + 2, none⟩ = some (.int .i64 (lvA y l V SV i))) := fun u hu i h => ⟨held (hcv i h).1 hu, held (hcv i h).2.1 hu, held (hcv i h).2.2 hu⟩
      obtain ⟨T, hT⟩ : ∃ T, T = l + s + 1 := ⟨_, rfl⟩
      have hTl : l < T := by omega
      rw [<- hT] at HCV HVi ⊢
      clear hcv hT
      go_wp2_with fail
      go_loopw [19] (fun x wr => ∃ i : Nat, i <= l + 1 /\ x = .int .i64 (i : Int) /\ Hid (Below wi.heap.size wi wr) /\ Hid (∀ j, j < i -> Sg k.toNat r.toNat N Q c F (lvA o l R SR j).toNat (if j = 0 then 2 else 1) (lvA y l V SV j))) (fun x _ => l + 1 - (intOf x).toNat)
      case atStart => exact ⟨0, Nat.zero_le _, rfl, Below.refl _ _, fun j hj => absurd hj (Nat.not_lt_zero _)⟩
      case round =>
        obtain ⟨i, hi, rfl, hb, hsg⟩ := hrel
        by_cases hlt : i <= l
        · have i1 : (0 : Int) <= (i : Int) := by omega
          have i2 : (i : Int) < (T : Int) := by omega
          have i3 : (i : Int) <= (l : Int) := by omega
          have HCC0 := fun u hu => HCV.out u hu i (by omega)
          have HSDi0 := fun u hu => HSD.out u hu i hlt
          have HTDi0 := fun u hu => HTD.out u hu i hlt
          obtain ⟨p, hp⟩ : ∃ p, p = lvA o l R SR i := ⟨_, rfl⟩
          obtain ⟨t, ht⟩ : ∃ t, t = lvA y l V SV i := ⟨_, rfl⟩
          obtain ⟨kk, hkk⟩ : ∃ kk : Int, kk = (if i = 0 then 2 else 1) := ⟨_, rfl⟩
          obtain ⟨tt, htt⟩ : ∃ tt, tt = (Cn.dl (tD (yy N c (gL Q F (lvA o l R SR i).toNat) (gF Q F (lvA o l R SR i).toNat)) (if i = 0 then 2 else 1) (lvA y l V SV i)) N).length := ⟨_, rfl⟩
          have HTT2 : Hid (tt = (Cn.dl (tD (yy N c (gL Q F (lvA o l R SR i).toNat) (gF Q F (lvA o l R SR i).toNat)) (if i = 0 then 2 else 1) (lvA y l V SV i)) N).length) := htt
          have HCC : Hid (∀ u, Below wi.heap.size wi u -> u.cell? ⟨gv, i * 3, none⟩ = some (.int .i64 p) /\ u.cell? ⟨gv, i * 3 + 1, none⟩ = some (.int .u8 kk) /\ u.cell? ⟨gv, i * 3 + 2, none⟩ = some (.int .i64 t)) := by rw [hp, ht, hkk]; exact HCC0
          have HSDi : Hid (∀ u, Below wi.heap.size wi u -> Calls Tryz.prog 30 #[.agg #[.int .i64 k, .int .i64 r, .int .i64 c, .int .i64 q, .slice lo n cl], .agg #[.int .i64 p, .int .u8 kk, .int .i64 t]] u fun e w' => ∃ b : Bool, e = .returned (.bool b) /\ (b = true -> ∃ t, Snd k.toNat r.toNat N c (yy N c (gL Q F (lvA o l R SR i).toNat) (gF Q F (lvA o l R SR i).toNat)) (if i = 0 then 2 else 1) (lvA y l V SV i) t) /\ Below u.heap.size u w') := fun u hu => by rw [hp, ht, hkk]; exact HSDi0 u (below_then HBI.out hu)
          have HTDi : Hid (∀ u, Below wi.heap.size wi u -> Calls Tryz.prog 31 #[.agg #[.int .i64 k, .int .i64 r, .int .i64 c, .int .i64 q, .slice lo n cl], .agg #[.int .i64 p, .int .u8 kk, .int .i64 t]] u fun e w' => e = .returned (.int .i64 ((tt : Nat) : Int)) /\ Below u.heap.size u w') := fun u hu => by rw [hp, ht, hkk, htt]; exact HTDi0 u (below_then HBI.out hu)
          have HBr : Hid (Below wi.heap.size wi wr) := hb.out
          clear HCC0 HSDi0 HTDi0 hp ht hkk htt hb
          go_wp2_with fail
          have HSX : Hid (∀ v, Below wr.heap.size wr v -> (v.cell? ⟨w.heap.size, 0, none⟩ = some (.int .i64 k) /\ v.cell? ⟨w.heap.size, 1, none⟩ = some (.int .i64 r) /\ v.cell? ⟨w.heap.size, 2, none⟩ = some (.int .i64 c) /\ v.cell? ⟨w.heap.size, 3, none⟩ = some (.int .i64 q) /\ v.cell? ⟨w.heap.size, 4, none⟩ = some (.slice lo n cl) /\ v.cell? ⟨gv, i * 3, none⟩ = some (.int .i64 p) /\ v.cell? ⟨gv, i * 3 + 1, none⟩ = some (.int .u8 kk) /\ v.cell? ⟨gv, i * 3 + 2, none⟩ = some (.int .i64 t))) := fun v hv => by
            obtain ⟨a0, a1, a2, a3, a4⟩ := HQi.out v (below_then HBr.out hv)
            obtain ⟨a5, a6, a7⟩ := HCC.out v (below_then HBr.out hv)
            exact ⟨a0, a1, a2, a3, a4, a5, a6, a7⟩
          refine wp_region_noPanic (live_reg wr k r c q lo n cl w.heap.size gv T vc i p kk t tt (fun b => b = true -> ∃ t, Snd k.toNat r.toNat N c (yy N c (gL Q F (lvA o l R SR i).toNat) (gF Q F (lvA o l R SR i).toNat)) (if i = 0 then 2 else 1) (lvA y l V SV i) t) i1 i2 _ _ _ _ _ _ _ _ _ _ _ _ _ _ _ _ _ _ _ _ _ _ _ _ _ _ _ _ _ _ _ _ _ _ _ _ _ _ _ _ _ _ _ _ _ _ _ _ _ _ _ _ _ _ _ _ _ _ _ _ _ _ _ _ _ _ _ _ _ _ _ _ _ _ _ _ _ _ _ _ _ _ _ _ _ _ _ _ _ _ _ _ _ _ _ _ _ _ _ _ _ _ _ _ _ _ _ _ _ _ _ _ _ _ _ _ _ _ _ _ _ _ _ _ _ _ _ _ _ _ _ _ _ _ _ _ _ _ _ _ _ _ _ _ _ _ _ _ _ _ _ _ _ _ _ _ _ _ _ _ _ _ _ _ _ _ _ _ _ _ _ _ _ _ _ _ _ _ _ _ _ _ _ _ _ _ _ _ _ _ _ _ _ _ _ _ _ _ _ _ _ _ _ _ _ _ _ _ _ _ _ _ _ _ _ HSX (fun u hu => HSDi.out u (below_then HBr.out hu)) (fun u hu => HTDi.out u (below_then HBr.out hu)) _ (fun _ _ _ _ _ h => h) (fun v' cond y106 y107 y108 y109 y110 y111 y112 y113 y114 y115 y116 y117 y118 y119 y120 y121 y122 y123 hb3 hcd => NoPanic.normal ?_))
          have HBq : Hid (Below wi.heap.size wi v') := below_then HBr.out hb3
          cases cond
          · have HSG : Hid (Sg k.toNat r.toNat N Q c F (lvA o l R SR i).toNat (if i = 0 then 2 else 1) (lvA y l V SV i)) := by
              rcases hcd with e | ⟨h1, h2⟩
              · cases e
              · obtain ⟨t, ht⟩ := h1 rfl
                exact ⟨t, ht, by rw [<- HTT2.out]; omega⟩
            clear hcd hb3
            go_wp2_with fail
            go_roundw
            case rel => exact ⟨i + 1, by omega, by go_num, HBq, fun j hj => by
              rcases Nat.lt_succ_iff_lt_or_eq.1 hj with g | g
              · exact hsg.out j g
              · subst g; exact HSG.out⟩
            case measure => simp [intOf]; omega
          · clear hcd hb3
            go_wp2_with fail
            go_ret
            exact ⟨rfl, below_then HBI.out HBq.out⟩
        · have i3 : ¬ (i : Int) <= (l : Int) := by omega
          have HBr : Hid (Below wi.heap.size wi wr) := hb.out
          have HSGs : Hid (∀ j, j <= l -> Sg k.toNat r.toNat N Q c F (lvA o l R SR j).toNat (if j = 0 then 2 else 1) (lvA y l V SV j)) := fun j hj => hsg.out j (by omega)
          obtain ⟨s0, s1, s2, s3, s4⟩ := HQi.out wr hb.out
          clear hb hsg HSD HTD HCV HVi
          by_cases i2 : (i : Int) < (T : Int)
          all_goals
            go_wp2_with fail
            obtain ⟨wz, hwz⟩ : ∃ wz, wz = wr.alloc (.cells #[.int .i64 k, .int .i64 r, .int .i64 c, .int .i64 q, .slice lo n cl] 51) := ⟨_, rfl⟩
            obtain ⟨g0, hg0⟩ : ∃ g0, g0 = wr.heap.size := ⟨_, rfl⟩
            have HBz : Hid (Below wi.heap.size wi wz) := below_then HBr.out (by rw [hwz]; exact below_alloc _ _)
            have HBK : Hid (Im.Blk wz g0 51 [.int .i64 k, .int .i64 r, .int .i64 c, .int .i64 q, .slice lo n cl]) := by rw [hwz, hg0]; exact heap_alloc_new wr _
            have HOW : Hid (∀ u, Im.Only (fun b => b = g0) wz u -> Below wi.heap.size wi u) := fun u hu => HBz.out.trans (hu.below (fun i e => by rw [e, hg0]; exact HBr.out.size) HBz.out.size)
            rw [<- hwz, <- hg0]
            clear hwz hg0 HBr HBz s0 s1 s2 s3 s4 i2 i3 hlt hi
            go_loopw [21] (fun x wr => ∃ j : Nat, j <= xn /\ x = .int .i64 (j : Int) /\ Hid (∃ lo2 cl2 A2 C2, n <= cl2 /\ Im.Blk wr g0 51 [.int .i64 k, .int .i64 r, .int .i64 c, .int .i64 q, .slice lo2 n cl2] /\ ∀ u, Im.Only (fun b => b = g0) wr u -> Im.Lst u lo2 n A2 C2 (wF Q Z F j)) /\ Hid (Im.Only (fun b => b = g0) wz wr)) (fun x _ => xn - (intOf x).toNat)
            case atStart => exact ⟨0, Nat.zero_le _, rfl, ⟨lo, cl, A0, C0, hcl, HBK.out, fun u hu => HLS.out.below (below_then HBI.out (HOW.out u hu))⟩, Im.Only.refl _ _⟩
            case round =>
              obtain ⟨j, hj, rfl, hin, ho⟩ := hrel
              have HIN := hin
              have HON : Hid (Im.Only (fun b => b = g0) wz wr) := ho.out
              clear hin ho
              by_cases hlt : j < xn
              · obtain ⟨xb, xf, rfl, hxc⟩ := HZR.out (by omega)
                obtain ⟨lo2, cl2, A2, C2, hcl2, hbk, hls⟩ := HIN.out
                obtain ⟨x, k', r', c', q', n', F', hwip⟩ := Im.wip_ex k r c q n (wF Q Z F j) (Z j)
                obtain ⟨z, hz⟩ : ∃ z, z = Z j := ⟨_, rfl⟩
                have HZJ : Hid (z = Z j) := hz
                have HTW := wip_two HCK.out.2 hwip
                rw [<- hz] at hwip HTW
                have HTW2 : Hid ((x = 0 /\ k' = k /\ r' = r /\ c' = c /\ q' = q /\ n' = n /\ F' = Im.wpF Q z.toNat (wF Q Z F j)) \/ ¬ x = 0) := HTW
                have HP1 : Hid (∀ v, Below wr.heap.size wr v -> Calls Tryz.prog 32 #[.agg #[.int .i64 k, .int .i64 r, .int .i64 c, .int .i64 q, .slice lo2 n cl2], .int .i64 z] v fun e w' => ∃ lo' A' C', e = .returned (.tuple #[.agg #[.int .i64 k', .int .i64 r', .int .i64 c', .int .i64 q', .slice lo' n' n'], .int .i64 x]) /\ Im.Im v.heap.size w' lo' n' A' C' F' /\ Below v.heap.size v w') := fun v hv => Im.Wiped_any hwip lo2 cl2 A2 C2 v (hls v (.of_below hv))
                have HSX : Hid (∀ v, Below wr.heap.size wr v -> (v.cell? ⟨g0, 0, none⟩ = some (.int .i64 k) /\ v.cell? ⟨g0, 1, none⟩ = some (.int .i64 r) /\ v.cell? ⟨g0, 2, none⟩ = some (.int .i64 c) /\ v.cell? ⟨g0, 3, none⟩ = some (.int .i64 q) /\ v.cell? ⟨g0, 4, none⟩ = some (.slice lo2 n cl2) /\ v.cell? ⟨xb, xf + j, none⟩ = some (.int .i64 z))) := fun v hv => ⟨(hbk.below hv).cell rfl, (hbk.below hv).cell rfl, (hbk.below hv).cell rfl, (hbk.below hv).cell rfl, (hbk.below hv).cell rfl, by rw [hz]; exact held (hxc j hlt) (below_then HBI.out (below_then (HOW.out wr HON.out) hv))⟩
                have HBKj : Hid (Im.Blk wr g0 51 [.int .i64 k, .int .i64 r, .int .i64 c, .int .i64 q, .slice lo2 n cl2]) := hbk
                have i1 : (0 : Int) <= (j : Int) := by omega
                have i2 : (j : Int) < (xn : Int) := by omega
                clear HTW hwip hz hbk hls hxc hcl2 HIN
                go_wp2_with fail
                refine wp_region_noPanic (wip_reg wr k r c q lo2 n cl2 g0 xb xf xn xc j z x k' r' c' q' n' F' i1 i2 _ _ _ _ _ _ _ _ _ _ _ _ _ _ _ _ _ _ _ _ _ _ _ _ _ _ _ _ _ _ _ _ _ _ _ _ _ _ _ _ _ _ _ _ _ _ _ _ _ _ _ _ _ _ _ _ _ _ _ _ _ _ _ _ _ _ _ _ _ _ _ _ _ _ _ _ _ _ _ _ _ _ _ _ _ _ _ _ _ _ _ _ _ _ _ _ _ _ _ _ _ _ _ _ _ _ _ _ _ _ _ _ _ _ _ _ _ _ _ _ _ _ _ _ _ _ _ _ _ _ _ _ _ _ _ _ _ _ _ _ _ _ _ _ _ _ _ _ _ _ _ _ _ _ _ _ _ _ _ _ _ _ _ _ _ _ _ _ _ _ _ _ _ _ _ _ _ _ _ _ _ _ _ _ _ _ _ _ _ _ _ _ _ _ _ _ _ _ _ _ _ _ _ _ _ _ _ _ _ _ _ _ _ _ _ HSX HP1 _ (fun v g lo3 A3 C3 y132 y133 y134 y135 y136 y137 y138 y139 y140 hbv hat him => NoPanic.normal ?_))
                have HBV : Hid (Below wr.heap.size wr v) := hbv
                have HIM : Hid (Im.Im wr.heap.size v lo3 n' A3 C3 F') := him
                have HAT : Hid (At wr v g #[.int .i64 k', .int .i64 r', .int .i64 c', .int .i64 q', .slice lo3 n' n'] 51) := hat
                clear hbv him hat HSX HP1
                rcases HTW2.out with ⟨h1, h2, h3, h4, h5, h6, h7⟩ | h1
                · subst h1 h2 h3 h4 h5 h6
                  have HF : Hid (F' = Im.wpF Q z.toNat (wF Q Z F j)) := h7
                  have a0 := HAT.out.cell (i := 0) rfl
                  have a1 := HAT.out.cell (i := 1) rfl
                  have a2 := HAT.out.cell (i := 2) rfl
                  have a3 := HAT.out.cell (i := 3) rfl
                  have a4 := HAT.out.cell (i := 4) rfl
                  have HBv : Hid (Im.Blk v g0 51 [.int .i64 k', .int .i64 r', .int .i64 c', .int .i64 q', .slice lo2 n' cl2]) := HBKj.out.below HBV.out
                  have b0 := HBv.out.cell (i := 0) rfl
                  have b1 := HBv.out.cell (i := 1) rfl
                  have b2 := HBv.out.cell (i := 2) rfl
                  have b3 := HBv.out.cell (i := 3) rfl
                  have b4 := HBv.out.cell (i := 4) rfl
                  have bf := HBv.out.free
                  clear h7 HTW2
                  go_wp2_with fail
                  go_roundw
                  case rel => exact ⟨j + 1, by omega, by go_num, ⟨lo3, n', A3, C3, Nat.le_refl _, ((((HBv.out.set 0 _).set 1 _).set 2 _).set 3 _).set 4 _, fun u hu => by
                    have h := (HIM.out.only ((Im.only5 v g0 _ _ _ _ _).trans hu) (fun b hb e => by have e2 : b = g0 := e; have := HBKj.out.lt; omega)).lst
                    rw [HF.out, HZJ.out] at h
                    exact h⟩, (HON.out.then HBV.out).trans (Im.only5 v g0 _ _ _ _ _)⟩
                  case measure => simp [intOf]; omega
                · clear HTW2
                  go_wp2_with fail
                  go_ret
                  exact ⟨rfl, below_then HBI.out (HOW.out v (HON.out.then HBV.out))⟩
              · have i2 : ¬ (j : Int) < (xn : Int) := by omega
                obtain rfl : j = xn := by omega
                obtain ⟨lo2, cl2, A2, C2, hcl2, hbk, hls⟩ := HIN.out
                obtain ⟨R2, V2, SR2, SV2, hob2, hsl, hss⟩ := ob_wiped HOB.out (K := k.toNat) (R := r.toNat) (by obtain ⟨⟨h0, _⟩, _⟩ := HCK.out.2.ok rfl; have := may_true h0; omega) (by omega) (ck_wF Z HCK.out.2 j) (wi_wF N Q Z F j) (by have := hit_few Z N j; omega) HALL.out (by have h := HSGs.out 0 (Nat.zero_le _); exact h) (fun i hi => by
                  have h := HSGs.out (i + 1) (by omega)
                  rw [lv_succ hi, lv_succ hi, if_neg (Nat.succ_ne_zero i)] at h
                  exact h)
                have HO2 : Hid (∀ u, Below wr.heap.size wr u -> Calls Tryz.prog 22 #[.agg #[.int .i64 k, .int .i64 r, .int .i64 c, .int .i64 q, .slice lo2 n cl2], .int .i64 o] u (AnsO u 0 A D M R2 V2 y l s SR2 SV2)) := fun u hu => Object_any hob2 u lo2 cl2 hcl2 A2 C2 (hls u (.of_below hu))
                unfold AnsO at HO2
                rw [lenE_zero, lenE_zero, lenE_zero, De.lenI_zero, De.lenI_zero, De.lenI_zero] at HO2
                have HSL : Hid (∀ i, i < l -> R2 i = R i /\ V2 i = V i) := hsl
                have HSS : Hid (∀ j, j < s -> SR2 j = SR j /\ SV2 j = SV j) := hss
                have HBq : Hid (Below wi.heap.size wi wr) := HOW.out wr HON.out
                have b0 := hbk.cell (i := 0) rfl
                have b1 := hbk.cell (i := 1) rfl
                have b2 := hbk.cell (i := 2) rfl
                have b3 := hbk.cell (i := 3) rfl
                have b4 := hbk.cell (i := 4) rfl
                clear HIN hbk hls hob2 hsl hss HOW HON HBK HSGs HCK HOB HALL HLS HZR
                go_wp2_with fail
                refine (HO2.out _ (Below.refl _ _)).mono ?_
                rintro e wx ⟨ao2, cp2, lo3, lc3, so3, sc3, rfl, _, hlv3, hst3, hc3⟩
                obtain ⟨wy, hwy⟩ : ∃ wy, wy = wx.alloc (.cells #[.int .i64 A, .int .i64 D, .slice ao2 M cp2] 27) := ⟨_, rfl⟩
                have bd2 : Below wx.heap.size wx wy := by rw [hwy]; exact below_alloc _ _
                have HBy : Hid (Below wi.heap.size wi wy) := below_then HBq.out (below_then hc3 bd2)
                have HD2 : Hid (∀ u, Below wy.heap.size wy u -> u.cell? ⟨wx.heap.size, 0, none⟩ = some (.int .i64 A) /\ u.cell? ⟨wx.heap.size, 1, none⟩ = some (.int .i64 D)) := fun u hu => ⟨blk_held hwy hu 0 rfl, blk_held hwy hu 1 rfl⟩
                have HL3 : Hid (De.OwR wr.heap.size wy lo3 l lc3 R2 V2) := hlv3.below bd2
                have HS3 : Hid (De.OwR wr.heap.size wy so3 s sc3 SR2 SV2) := hst3.below bd2
                have HLy : Hid (De.OwR wb.heap.size wy lo' l lc R V) := HLi.out.below HBy.out
                have HSy : Hid (De.OwR wb.heap.size wy so s sc SR SV) := HSi.out.below HBy.out
                have g1 := fun o => (HDi.out (wx.alloc o) (below_then HBq.out (below_then hc3 (below_alloc _ o)))).1
                have g2 := fun o => (HDi.out (wx.alloc o) (below_then HBq.out (below_then hc3 (below_alloc _ o)))).2
                clear b0 b1 b2 b3 b4 hlv3 hst3 hc3 bd2 HO2 HLi HSi
                go_wp2_with fail
                rw [<- hwy]
                clear hwy g1 g2
                go_loopw [28] (fun x wr => ∃ a : Nat, a <= l /\ x = .int .i64 (a : Int) /\ Hid (Below wy.heap.size wy wr)) (fun x _ => l - (intOf x).toNat)
                case atStart => exact ⟨0, Nat.zero_le _, rfl, Below.refl _ _⟩
                case round =>
                  obtain ⟨a, hi, rfl, hb⟩ := hrel
                  by_cases hlt : a < l
                  · obtain ⟨ga, rfl, hga1, hga2⟩ := HL3.out.at_ (by omega)
                    obtain ⟨gb, rfl, hgb1, hgb2⟩ := HLy.out.at_ (by omega)
                    obtain ⟨l0, l1⟩ := (HL3.out.below hb.out).cell hlt
                    obtain ⟨l2, l3⟩ := (HLy.out.below hb.out).cell hlt
                    rw [(HSL.out a hlt).1] at l0
                    rw [(HSL.out a hlt).2] at l1
                    obtain ⟨p, hp⟩ : ∃ p, p = R a := ⟨_, rfl⟩
                    obtain ⟨t, ht⟩ : ∃ t, t = V a := ⟨_, rfl⟩
                    rw [<- hp] at l0 l2
                    rw [<- ht] at l1 l3
                    have i1 : (0 : Int) <= (a : Int) := by omega
                    have i2 : (a : Int) < (l : Int) := by omega
                    have HBr : Hid (Below wy.heap.size wy wr) := hb.out
                    clear hp ht hb
                    go_wp2_with fail
                    go_big_quiet (fail)
                    have HBq2 : Hid (Below wy.heap.size wy (wr.drewN nq)) := below_then HBr.out (below_drewN _ _ _)
                    clear l0 l1 l2 l3
                    go_wp2_with fail
                    go_roundw
                    case rel => exact ⟨a + 1, by omega, by go_num, HBq2⟩
                    case measure => simp [intOf]; omega
                  · have i2 : ¬ (a : Int) < (l : Int) := by omega
                    have HB3 : Hid (Below wy.heap.size wy wr) := hb.out
                    clear hb hlt hi
                    go_wp2_with fail
                    clear i2
                    go_loopw [29] (fun x wr => ∃ a : Nat, a <= s /\ x = .int .i64 (a : Int) /\ Hid (Below wy.heap.size wy wr)) (fun x _ => s - (intOf x).toNat)
                    case atStart => exact ⟨0, Nat.zero_le _, rfl, HB3.out⟩
                    case round =>
                      obtain ⟨a, hi, rfl, hb⟩ := hrel
                      by_cases hlt : a < s
                      · obtain ⟨ga, rfl, hga1, hga2⟩ := HS3.out.at_ (by omega)
                        obtain ⟨gb, rfl, hgb1, hgb2⟩ := HSy.out.at_ (by omega)
                        obtain ⟨l0, l1⟩ := (HS3.out.below hb.out).cell hlt
                        obtain ⟨l2, l3⟩ := (HSy.out.below hb.out).cell hlt
                        rw [(HSS.out a hlt).1] at l0
                        rw [(HSS.out a hlt).2] at l1
                        obtain ⟨p, hp⟩ : ∃ p, p = SR a := ⟨_, rfl⟩
                        obtain ⟨t, ht⟩ : ∃ t, t = SV a := ⟨_, rfl⟩
                        rw [<- hp] at l0 l2
                        rw [<- ht] at l1 l3
                        have i1 : (0 : Int) <= (a : Int) := by omega
                        have i2 : (a : Int) < (s : Int) := by omega
                        have HBr : Hid (Below wy.heap.size wy wr) := hb.out
                        clear hp ht hb
                        go_wp2_with fail
                        go_big_quiet (fail)
                        have HBq2 : Hid (Below wy.heap.size wy (wr.drewN nq)) := below_then HBr.out (below_drewN _ _ _)
                        clear l0 l1 l2 l3
                        go_wp2_with fail
                        go_roundw
                        case rel => exact ⟨a + 1, by omega, by go_num, HBq2⟩
                        case measure => simp [intOf]; omega
                      · have i2 : ¬ (a : Int) < (s : Int) := by omega
                        have HB3 : Hid (Below wy.heap.size wy wr) := hb.out
                        clear hb hlt hi
                        go_wp2_with fail
                        go_ret
                        exact ⟨rfl, below_then HBI.out (below_then HBy.out HB3.out)⟩
    · have hg1 : (0 : Int) < (gs.length : Int) := by omega
      clear hgs hg0
      go_wp2_with fail
      go_ret
      exact ⟨rfl, HBI.out⟩
  · go_wp2_with fail
    go_ret
    exact ⟨rfl, below_then HB0.out hab⟩
end Go.Proofs.YtmoenmpbkockoaaGreat
namespace Go.Proofs.YtmoenmpbkockoaaGreat.Im
open Go.RowKit Go.ChangeShapes Go.WideShapes Go.Deep Go.Joins

section
variable {H : Type} {enc : TypeId × Value -> H} {w : World} {held : Bool}
theorem u8_of {z : Int} (h : (Lit.int .u8 z).wf = true) : ((UInt8.ofNat z.toNat).toNat : Int) = z := by
  have b := bounds_u8 h
  rw [UInt8.toNat_ofNat']
  omega
theorem open_bytes {fuel : Nat} {v : Value} {x : DataW H × List MemPlace} (h : DataW.trod enc Tryz.prog w 0 (fun _ => true) held fuel 75 [v] = some x) :
    ∃ ao cp c, v = .slice ao (List.length c) cp /\ RdB w ao c /\ (ao = none -> c = [] /\ cp = 0) /\ c.length <= 9223372036854775807 := by
  rcases open_ints Tryz.underlying75 Tryz.underlying5 (by kernel_rfl) h with ⟨hcs, _⟩ | ⟨a, l, cp, zs, hcs, _, hl, hm, hz, _, hcell, hwz⟩
  · simp at hcs
    exact ⟨none, 0, [], hcs, rdb_nil _ _, fun _ => ⟨rfl, rfl⟩, by decide⟩
  · simp at hcs
    simp only [if_true] at hz
    have hlen : ((zs.take l).map fun z => UInt8.ofNat z.toNat).length = l := by rw [List.length_map, List.length_take]; omega
    refine ⟨some a, cp, (zs.take l).map fun z => UInt8.ofNat z.toNat, by rw [hlen]; exact hcs, fun hne => ?_, (fun e => by cases e), by rw [hlen]; unfold maxLen at hm; omega⟩
    have hl0 : 0 < l := by rw [<- hlen]; exact List.length_pos_iff.2 hne
    have h0 := hcell 0 (by omega)
    obtain ⟨b, off, spot⟩ := a
    have hspot : spot = none := by simpa [Addr.add] using World.cell?_spot h0
    subst hspot
    refine ⟨b, off, rfl, fun j hj => ?_⟩
    rw [hlen] at hj
    have hj2 : j < zs.length := by omega
    have hc := hcell j hj2
    rw [add_plain] at hc
    rw [hc, List.getElem_map, List.getElem_take]
    rw [show zs.getD j 0 = zs[j] by simp [List.getD, hj2], u8_of (hwz _ (List.getElem_mem hj2))]
def IsLst (w : World) (lo : Option Addr) (n cl : Nat) (A : Nat -> Option Addr) (C : Nat -> Nat) (F : Nat -> List UInt8) : Prop :=
  Lst w lo n A C F /\ n <= cl /\ cl <= 9223372036854775807 /\ (lo = none -> n = 0) /\ ∀ i, i < n -> (F i).length <= 9223372036854775807
theorem open_lst {fuel : Nat} {v : Value} {x : DataW H × List MemPlace} (h : DataW.trod enc Tryz.prog w 0 (fun _ => true) held fuel 49 [v] = some x) :
    ∃ lo n cl A C F, v = .slice lo n cl /\ IsLst w lo n cl A C F /\ (x.1 = .nil \/ ∃ e s, x.1 = .slice e s /\ e.length + s.length = cl) := by
  rcases open_slice1 Tryz.underlying49 (by kernel_rfl) h with ⟨hcs, hx⟩ | ⟨a, len, cap, m, n, V, D, Pl, hcs, _, hl, hm, hmm, hx, hc⟩
  · simp at hcs
    exact ⟨none, 0, 0, fun _ => none, fun _ => 0, fun _ => [], hcs, ⟨⟨fun h => absurd h (Nat.lt_irrefl 0), fun i hi => absurd hi (Nat.not_lt_zero i), fun i hi => absurd hi (Nat.not_lt_zero i)⟩, Nat.le_refl _, by decide, fun _ => rfl, fun i hi => absurd hi (Nat.not_lt_zero i)⟩, .inl (by rw [hx])⟩
  · simp at hcs
    simp only [if_true] at hmm
    subst hmm
    have each : ∀ i, i < m -> ∃ y : Option Addr × Nat × List UInt8, V i = .slice y.1 y.2.2.length y.2.1 /\ RdB w y.1 y.2.2 /\ (y.1 = none -> y.2.2 = [] /\ y.2.1 = 0) /\ y.2.2.length <= 9223372036854775807 := by
      intro i hi
      obtain ⟨ao, cp, c, h1, h2, h3, h4⟩ := open_bytes (hc i hi).2
      exact ⟨(ao, cp, c), h1, h2, h3, h4⟩
    obtain ⟨y, hy⟩ := choose_lt each
    refine ⟨some a, len, m, fun i => (y i).1, fun i => (y i).2.1, fun i => (y i).2.2, hcs, ⟨⟨fun h0 => ?_, fun i hi => (hy i (by omega)).2.1, fun i hi => (hy i (by omega)).2.2.1⟩, hl, by unfold maxLen at hm; omega, (fun e => by cases e), fun i hi => (hy i (by omega)).2.2.2⟩, .inr ⟨_, _, by rw [hx], by simp; omega⟩⟩
    have k0 := (hc 0 (by omega)).1
    obtain ⟨b, off, spot⟩ := a
    have hspot : spot = none := by simpa [Addr.add] using World.cell?_spot k0
    subst hspot
    refine ⟨b, off, rfl, fun i hi => ?_⟩
    have := (hc i (by omega)).1
    rw [add_plain] at this
    rw [this, (hy i (by omega)).1]
theorem array5 {α : Type} {cs : Array α} (h : cs.size = 5) : ∃ c0 c1 c2 c3 c4, cs = #[c0, c1, c2, c3, c4] := by
  obtain ⟨l⟩ := cs
  match l, h with
  | [c0, c1, c2, c3, c4], _ => exact ⟨c0, c1, c2, c3, c4, rfl⟩
theorem cells23 : Tryz.prog.cellsOf 23 = 4 := by kernel_rfl
theorem cells24 : Tryz.prog.cellsOf 49 = 1 := by kernel_rfl
theorem cells26 : Tryz.prog.cellsOf 51 = 5 := by kernel_rfl
theorem cells3 : Tryz.prog.cellsOf 3 = 1 := by kernel_rfl
set_option maxRecDepth 100000 in
theorem open_img {r : Reach} {b0 : Nat} {v : Value} {d : DataW H} {p : List MemPlace} (hv : Value.okWide Tryz.prog w r b0 51 v) (h : DataW.Trod enc Tryz.prog w 0 (fun _ => true) held 51 v d p) :
    ∃ k ro c q lo n cl A C F, v = .agg #[.int .i64 k, .int .i64 ro, .int .i64 c, .int .i64 q, .slice lo n cl] /\ IsLst w lo n cl A C F /\ ∃ y z, d = .agg [y, z] /\ (z = .nil \/ ∃ e s, z = .slice e s /\ e.length + s.length = cl) := by
  obtain ⟨cs, rfl, hsz⟩ := okWide_struct Tryz.underlying51 hv
  obtain ⟨c0, c1, c2, c3, c4, rfl⟩ := array5 (hsz.trans cells26)
  obtain ⟨fuel, hf⟩ := h
  obtain ⟨y0, y1, n, hx, _, h0, h1⟩ := trod_struct2 Tryz.underlying51 hf
  simp only [Prod.mk.injEq] at hx
  simp [Value.cells, cells23, cells24] at h0 h1
  obtain ⟨z0, z1, z2, z3, m, _, _, t0, t1, t2, t3⟩ := trod_struct4 Tryz.underlying23 h0
  simp [cells3] at t0 t1 t2 t3
  obtain ⟨a0, e0, _, _⟩ := DataW.trod_int Tryz.underlying3 t0
  obtain ⟨a1, e1, _, _⟩ := DataW.trod_int Tryz.underlying3 t1
  obtain ⟨a2, e2, _, _⟩ := DataW.trod_int Tryz.underlying3 t2
  obtain ⟨a3, e3, _, _⟩ := DataW.trod_int Tryz.underlying3 t3
  obtain ⟨lo, nn, cl, A, C, F, e4, hl, hd⟩ := open_lst h1
  simp at e0 e1 e2 e3
  subst e0 e1 e2 e3 e4
  exact ⟨a0, a1, a2, a3, lo, nn, cl, A, C, F, rfl, hl, y0.1, y1.1, hx.1, hd⟩
end
end Go.Proofs.YtmoenmpbkockoaaGreat.Im
namespace Go.Proofs.YtmoenmpbkockoaaGreat
open Go.RowKit Go.ChangeShapes Go.WideShapes Go.Deep Go.Joins

section
variable {H : Type} {enc : TypeId × Value -> H} {w : World} {held : Bool}
theorem open_drives {fuel : Nat} {v : Value} {x : DataW H × List MemPlace} (h : DataW.trod enc Tryz.prog w 0 (fun _ => true) held fuel 38 [v] = some x) :
    ∃ ao n cp R, v = .slice ao n cp /\ RdI w ao n R := by
  rcases open_ints Tryz.underlying38 Tryz.underlying3 (by kernel_rfl) h with ⟨hcs, _⟩ | ⟨a, l, cp, zs, hcs, _, hl, hm, hz, _, hcell, hwz⟩
  · simp at hcs
    exact ⟨none, 0, 0, fun _ => 0, hcs, fun h => absurd h (Nat.lt_irrefl 0)⟩
  · simp at hcs
    simp only [if_true] at hz
    refine ⟨some a, l, cp, fun j => zs.getD j 0, hcs, fun hn => ?_⟩
    have h0 := hcell 0 (by omega)
    obtain ⟨b, off, spot⟩ := a
    have hspot : spot = none := by simpa [Addr.add] using World.cell?_spot h0
    subst hspot
    refine ⟨b, off, rfl, fun j hj => ?_⟩
    have hj2 : j < zs.length := by omega
    have hc := hcell j hj2
    rw [add_plain] at hc
    exact hc
end
theorem wiped_law {k r c q : Int} {n cl : Nat} {F : Nat -> List UInt8} {lo : Option Addr} {A : Nat -> Option Addr} {C : Nat -> Nat} (w : World) (h : Im.IsLst w lo n cl A C F) (o : Int) (xo : Option Addr) (xn xc : Nat) (Z : Nat -> Int) (hZ : RdI w xo xn Z) :
    Calls Tryz.prog 6 #[.agg #[.int .i64 k, .int .i64 r, .int .i64 c, .int .i64 q, .slice lo n cl], .int .i64 o, .slice xo xn xc] w fun e w' => e = .returned (.bool true) /\ Below w.heap.size w w' := by
  obtain ⟨E, A', D, M, R, V, y, l, s, SR, SV, hO⟩ := ob_ex k r c q n F o
  by_cases hE : E = 0
  · subst hE
    by_cases hx : r < (xn : Int)
    · exact wiped_far hO w lo cl h.2.1 A C h.1 xo xn xc hx
    · exact wiped_good hO w lo cl h.2.1 A C h.1 xo xn xc Z hZ hx
  · exact wiped_bad hO hE w lo cl h.2.1 A C h.1 xo xn xc
end Go.Proofs.YtmoenmpbkockoaaGreat
