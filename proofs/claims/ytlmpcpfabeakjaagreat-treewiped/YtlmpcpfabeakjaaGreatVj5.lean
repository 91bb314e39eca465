import Derived.Deep.RegionHeld3
import Derived.Test.YtlmpcpfabeakjaaGreatWj47
import Derived.Test.YtlmpcpfabeakjaaGreatWj48
import Derived.Test.YtlmpcpfabeakjaaGreatVj1
import Derived.Test.YtlmpcpfabeakjaaGreatVj2
import Derived.Test.YtlmpcpfabeakjaaGreatVj3
import Derived.Test.YtlmpcpfabeakjaaGreatVj4
namespace Go.Proofs.YtlmpcpfabeakjaaGreat
open Go.RowKit
theorem dl_step (p : Nat -> Bool) (i : Nat) : (Cn.dl p (i + 1)).length = (Cn.dl p i).length + (if p i = true then 1 else 0) := by
  rw [Cn.dl]
  cases p i <;> simp
set_option maxHeartbeats 8000000 in
set_option maxRecDepth 100000 in
theorem told_go {k r c q : Int} {N W : Nat} (h : Par k r c q N W 0) (w : World) (lo : Option Addr) (n cl : Nat) (o v : Int) (kd : UInt8) (hkd : kd = 1 \/ kd = 2) (G : Nat -> List UInt8)
    (hL : ∀ j, j < 2 * N -> (G j).length = 0 \/ (G j).length = sz N c)
    (HA : Hid (∀ u, Below w.heap.size w u -> Calls Tryz.prog 24 #[.agg #[.int .i64 k, .int .i64 r, .int .i64 c, .int .i64 q, .slice lo n cl], .int .i64 o] u fun e w' => ∃ lo' A' C', e = .returned (.tuple #[.slice lo' N N, .int .i64 0]) /\ Im.Im u.heap.size w' lo' (2 * N) A' C' G /\ Below u.heap.size u w')) :
    Calls Tryz.prog 27 #[.agg #[.int .i64 k, .int .i64 r, .int .i64 c, .int .i64 q, .slice lo n cl], .agg #[.int .i64 o, .int .u8 ((kd.toNat : Nat) : Int), .int .i64 v]] w fun e w' => e = .returned (.int .i64 (((Cn.dl (tD (yy N c (fun j => (G j).length) (fun j t => (G j).getD t 0)) kd v) N).length : Nat) : Int)) /\ Below w.heap.size w w' := by
  have hle := h.le
  obtain ⟨L, hLe⟩ : ∃ L : Nat -> Nat, L = fun j => (G j).length := ⟨_, rfl⟩
  obtain ⟨F, hFe⟩ : ∃ F : Nat -> Nat -> UInt8, F = fun j t => (G j).getD t 0 := ⟨_, rfl⟩
  have hL' : ∀ j, j < 2 * N -> L j = 0 \/ L j = sz N c := fun j hj => by rw [hLe]; exact hL j hj
  rw [<- hLe, <- hFe]
  obtain ⟨w0, hw0⟩ : ∃ w0, w0 = w.alloc (.cells #[.int .i64 k, .int .i64 r, .int .i64 c, .int .i64 q, .slice lo n cl] 26) := ⟨_, rfl⟩
  obtain ⟨w1, hw1⟩ : ∃ w1, w1 = w0.alloc (.cells #[.int .i64 o, .int .u8 ((kd.toNat : Nat) : Int), .int .i64 v] 57) := ⟨_, rfl⟩
  have b0 : Below w.heap.size w w0 := by rw [hw0]; exact below_alloc _ _
  have b1 : Below w0.heap.size w0 w1 := by rw [hw1]; exact below_alloc _ _
  have z0 : w0.heap.size = w.heap.size + 1 := by rw [hw0]; simp
  have HBB : Hid (Below w.heap.size w w1) := below_then b0 b1
  have HQ : Hid (∀ u, Below w1.heap.size w1 u -> (u.cell? ⟨w.heap.size, 0, none⟩ = some (.int .i64 k) /\ u.cell? ⟨w.heap.size, 1, none⟩ = some (.int .i64 r) /\ u.cell? ⟨w.heap.size, 2, none⟩ = some (.int .i64 c) /\ u.cell? ⟨w.heap.size, 3, none⟩ = some (.int .i64 q)) /\ (u.cell? ⟨w.heap.size + 1, 1, none⟩ = some (.int .u8 ((kd.toNat : Nat) : Int)) /\ u.cell? ⟨w.heap.size + 1, 2, none⟩ = some (.int .i64 v))) := fun u hu => ⟨⟨blk_held hw0 (below_then b1 hu) 0 rfl, blk_held hw0 (below_then b1 hu) 1 rfl, blk_held hw0 (below_then b1 hu) 2 rfl, blk_held hw0 (below_then b1 hu) 3 rfl⟩, by rw [<- z0]; exact ⟨blk_held hw1 hu 1 rfl, blk_held hw1 hu 2 rfl⟩⟩
  obtain ⟨Y, hY⟩ : ∃ Y, Y = yy N c L F := ⟨_, rfl⟩
  have HTB : Hid (∀ j, tB (Y j) kd v = (isS N c (L j) (F j) && (decide ((zq N c L F j).kd = kd) && (decide ((zq N c L F j).ix = ((j / 2 : Nat) : Int)) && decide ((zq N c L F j).st = v))))) := fun j => by
    have h1 := yy_is (N := N) (c := c) (L := L) (F := F) hkd j
    rw [hY]
    unfold tB
    by_cases e : (yy N c L F j).kd = kd
    · have h2 := yy_zq hkd e
      obtain ⟨a1, a2, a3⟩ := h1.1 e
      rw [a1, decide_eq_true a2, decide_eq_true a3]
      simp only [Bool.true_and]
      apply decide_eq_decide.2
      rw [<- h2]
      exact ⟨fun x => x.2, fun x => ⟨e, x⟩⟩
    · rw [decide_eq_false (fun x => e x.1)]
      cases a1 : isS N c (L j) (F j)
      · rfl
      · by_cases a2 : (zq N c L F j).kd = kd
        · by_cases a3 : (zq N c L F j).ix = ((j / 2 : Nat) : Int)
          · exact absurd (h1.2 ⟨a1, a2, a3⟩) e
          · rw [decide_eq_false a3]; simp
        · rw [decide_eq_false a2]; simp
  have HPA : Hid (∀ u ro A C, Rw u ro N A L C F -> ∀ j, j < 2 * N -> Calls Tryz.prog 51 #[.agg #[.int .i64 k, .int .i64 r, .int .i64 c, .int .i64 q], .slice (A j) (L j) (C j)] u fun e w' => ∃ ao ca bo cb, e = .returned (.tuple #[.agg #[.int .u8 (((zq N c L F j).kd.toNat : Nat) : Int), .int .i64 (zq N c L F j).ix, .int .i64 (zq N c L F j).ce, .int .i64 (zq N c L F j).st, .slice ao (zq N c L F j).vn ca, .slice bo (zq N c L F j).dn cb], .bool (isS N c (L j) (F j)), .int .i64 0]) /\ Got u.heap.size w' (zq N c L F j) ao ca bo cb /\ Below u.heap.size u w') := fun u ro A C hr j hj => by
    refine (Parse_any h u _ _ _ _ (hr.bec j hj) 0 (by unfold erQ; rw [if_pos rfl, if_pos (hL' j hj)]) (isS N c (L j) (F j)) (by unfold isQ; simp) (zq N c L F j) rfl).mono ?_
    rintro e w' ⟨ao, ca, bo, cb, rfl, hg, hb⟩
    exact ⟨ao, ca, bo, cb, rfl, hg, hb⟩
  rw [<- hY]
  have HRW : Hid (∀ B u lo' A' C', Im.Im B u lo' (2 * N) A' C' G -> Rw u lo' N A' L C' F) := fun B u lo' A' C' hI => by rw [hLe, hFe]; exact rw_of hI
  clear hL h hY hLe hFe
  go_enter Tryz.func27, Tryz.ntmps27
  go_wp2_with fail
  rw [<- hw0, <- hw1]
  clear hw0 hw1 z0 b0 b1
  refine (HA.out _ HBB.out).mono ?_
  rintro e wb ⟨lo', A', C', rfl, hI, ha⟩
  have HR : Hid (Rw wb lo' N A' L C' F) := HRW.out _ _ _ _ _ hI
  have HBW : Hid (Below w.heap.size w wb) := below_then HBB.out ha
  have HQ2 : Hid (∀ u, Below wb.heap.size wb u -> (u.cell? ⟨w.heap.size, 0, none⟩ = some (.int .i64 k) /\ u.cell? ⟨w.heap.size, 1, none⟩ = some (.int .i64 r) /\ u.cell? ⟨w.heap.size, 2, none⟩ = some (.int .i64 c) /\ u.cell? ⟨w.heap.size, 3, none⟩ = some (.int .i64 q)) /\ (u.cell? ⟨w.heap.size + 1, 1, none⟩ = some (.int .u8 ((kd.toNat : Nat) : Int)) /\ u.cell? ⟨w.heap.size + 1, 2, none⟩ = some (.int .i64 v))) := fun u hu => HQ.out u (below_then ha hu)
  clear hI HA HRW ha HQ
  go_wp2_with fail
  go_loopw [7, 8] (fun m y wr => ∃ i : Nat, i <= N /\ y = .int .i64 (i : Int) /\ m = .int .i64 (((Cn.dl (tD Y kd v) i).length : Nat) : Int) /\ Hid (Below wb.heap.size wb wr)) (fun _ y _ => N - (intOf y).toNat)
  case atStart => exact ⟨0, Nat.zero_le _, rfl, rfl, Below.refl _ _⟩
  case round =>
    obtain ⟨i, hi, rfl, rfl, hbs⟩ := hrel
    by_cases hlt : i < N
    · obtain ⟨b, off, rfl, hcc⟩ := HR.out.at_ (by omega)
      have i1 : (0 : Int) <= (i : Int) := by omega
      have i2 : (i : Int) < (N : Int) := by omega
      have HCC : Hid (wb.cell? ⟨b, off + i * 2, none⟩ = some (.slice (A' (2 * i)) (L (2 * i)) (C' (2 * i))) /\ wb.cell? ⟨b, off + i * 2 + 1, none⟩ = some (.slice (A' (2 * i + 1)) (L (2 * i + 1)) (C' (2 * i + 1)))) := hcc i hlt
      have HST := dl_step (tD Y kd v) i
      have HFW := Cn.dl_few (tD Y kd v) i
      have HT0 := HTB.out (2 * i)
      have HT1 := HTB.out (2 * i + 1)
      rw [show 2 * i / 2 = i by omega] at HT0
      rw [show (2 * i + 1) / 2 = i by omega] at HT1
      unfold tD at HST
      rw [HT0, HT1] at HST
      have HS0 : Hid (∀ u, Below wr.heap.size wr u -> (u.cell? ⟨w.heap.size, 0, none⟩ = some (.int .i64 k) /\ u.cell? ⟨w.heap.size, 1, none⟩ = some (.int .i64 r) /\ u.cell? ⟨w.heap.size, 2, none⟩ = some (.int .i64 c) /\ u.cell? ⟨w.heap.size, 3, none⟩ = some (.int .i64 q) /\ u.cell? ⟨b, off + i * 2, none⟩ = some (.slice (A' (2 * i)) (L (2 * i)) (C' (2 * i))))) := fun u hu => by
        obtain ⟨⟨p0, p1, p2, p3⟩, _⟩ := HQ2.out u (below_then hbs.out hu)
        exact ⟨p0, p1, p2, p3, held HCC.out.1 (below_then hbs.out hu)⟩
      have HP0 : Hid (∀ u, Below wr.heap.size wr u -> _) := fun u (hu : Below wr.heap.size wr u) => HPA.out u _ A' C' (HR.out.below (below_then hbs.out hu)) (2 * i) (by omega)
      have HP1 : Hid (∀ u, Below wb.heap.size wb u -> _) := fun u (hu : Below wb.heap.size wb u) => HPA.out u _ A' C' (HR.out.below hu) (2 * i + 1) (by omega)
      obtain ⟨z, hz⟩ : ∃ z, z = zq N c L F (2 * i) := ⟨_, rfl⟩
      obtain ⟨y, hy⟩ : ∃ y, y = isS N c (L (2 * i)) (F (2 * i)) := ⟨_, rfl⟩
      obtain ⟨z', hz'⟩ : ∃ z, z = zq N c L F (2 * i + 1) := ⟨_, rfl⟩
      obtain ⟨y', hy'⟩ : ∃ y, y = isS N c (L (2 * i + 1)) (F (2 * i + 1)) := ⟨_, rfl⟩
      rw [<- hz, <- hy, <- hz', <- hy'] at HST
      rw [<- hz, <- hy] at HP0
      rw [<- hz', <- hy'] at HP1
      obtain ⟨ct, hct⟩ : ∃ ct, ct = (Cn.dl (fun i => tB (Y (2 * i)) kd v || tB (Y (2 * i + 1)) kd v) i).length := ⟨_, rfl⟩
      have HCT : Hid ((Cn.dl (tD Y kd v) i).length = ct) := by rw [hct]; rfl
      have hcl : ct <= 16 := by rw [hct]; exact Nat.le_trans HFW (by omega)
      have HST2 : Hid ((Cn.dl (tD Y kd v) (i + 1)).length = ct + (if ((y && (decide (z.kd = kd) && (decide (z.ix = (i : Int)) && decide (z.st = v)))) || (y' && (decide (z'.kd = kd) && (decide (z'.ix = (i : Int)) && decide (z'.st = v))))) = true then 1 else 0)) := by rw [hct]; exact HST
      rw [HCT.out]
      clear hz hy hz' hy' HT0 HT1 HST HFW hct hcc
      go_wp2_with fail
      refine told_reg0 wr k r c q w.heap.size b off N N i i1 i2 (A' (2 * i)) (L (2 * i)) (C' (2 * i)) z y 0 _ _ _ _ _ _ _ _ _ _ _ _ _ _ _ _ _ _ _ _ _ _ _ _ _ _ _ _ _ _ _ _ _ _ _ _ _ _ _ _ _ _ _ _ _ _ _ _ _ _ _ _ _ _ _ _ _ _ _ _ _ _ _ _ _ _ _ _ _ _ _ _ _ _ _ _ _ _ _ _ _ _ _ _ _ _ _ _ _ _ _ _ _ _ _ _ HS0 HP0 _ (fun v1 g ao ca bo cb hb3 hat hgot => ?_)
      have HB1 : Hid (Below wb.heap.size wb v1) := below_then hbs.out hb3
      have HAT : Hid (At wr v1 g #[.int .u8 ((z.kd.toNat : Nat) : Int), .int .i64 z.ix, .int .i64 z.ce, .int .i64 z.st, .slice ao z.vn ca, .slice bo z.dn cb] 105) := hat
      have HS1 : Hid (∀ u, Below v1.heap.size v1 u -> (u.cell? ⟨w.heap.size, 0, none⟩ = some (.int .i64 k) /\ u.cell? ⟨w.heap.size, 1, none⟩ = some (.int .i64 r) /\ u.cell? ⟨w.heap.size, 2, none⟩ = some (.int .i64 c) /\ u.cell? ⟨w.heap.size, 3, none⟩ = some (.int .i64 q) /\ u.cell? ⟨b, off + i * 2 + 1, none⟩ = some (.slice (A' (2 * i + 1)) (L (2 * i + 1)) (C' (2 * i + 1))))) := fun u hu => by
        obtain ⟨⟨p0, p1, p2, p3⟩, _⟩ := HQ2.out u (below_then HB1.out hu)
        exact ⟨p0, p1, p2, p3, held HCC.out.2 (below_then HB1.out hu)⟩
      have HP2 : Hid (∀ u, Below v1.heap.size v1 u -> _) := fun u hu => HP1.out u (below_then HB1.out hu)
      clear hb3 hat hgot HP0 HS0 hbs
      go_wp2_with fail
      refine told_reg1 v1 k r c q w.heap.size b off N N i i1 i2 (A' (2 * i + 1)) (L (2 * i + 1)) (C' (2 * i + 1)) z' y' 0 _ _ _ _ _ _ _ _ _ _ _ _ _ _ _ _ _ _ _ _ _ _ _ _ _ _ _ _ _ _ _ _ _ _ _ _ _ _ _ _ _ _ _ _ _ _ _ _ _ _ _ _ _ _ _ _ _ _ _ _ _ _ _ _ _ _ _ _ _ _ _ _ _ _ _ _ _ _ _ _ _ _ _ _ _ _ _ _ _ _ _ _ _ _ _ _ HS1 HP2 _ (fun v2 g' ao' ca' bo' cb' hb3 hat hgot => ?_)
      have HB2 : Hid (Below wb.heap.size wb v2) := below_then HB1.out hb3
      have hA := HAT.out.below hb3
      have c0 := hA.cell (i := 0) rfl
      have c1 := hA.cell (i := 1) rfl
      have c3 := hA.cell (i := 3) rfl
      have d0 := hat.cell (i := 0) rfl
      have d1 := hat.cell (i := 1) rfl
      have d3 := hat.cell (i := 3) rfl
      obtain ⟨_, q1, q2⟩ := HQ2.out v2 HB2.out
      have u0 := kd_beq z.kd kd
      have u1 := int_beq2 z.ix (i : Int)
      have u2 := int_beq2 z.st v
      have u3 := kd_beq z'.kd kd
      have u4 := int_beq2 z'.ix (i : Int)
      have u5 := int_beq2 z'.st v
      clear hb3 hat hgot hA HP1 HP2 HS1
      generalize decide (z.kd = kd) = p0 at HST2 u0
      generalize decide (z.ix = (i : Int)) = p1 at HST2 u1
      generalize decide (z.st = v) = p2 at HST2 u2
      generalize decide (z'.kd = kd) = p3 at HST2 u3
      generalize decide (z'.ix = (i : Int)) = p4 at HST2 u4
      generalize decide (z'.st = v) = p5 at HST2 u5
      have h1 : y = false \/ (y = true /\ p0 = false) \/ (y = true /\ p0 = true /\ p1 = false) \/ (y = true /\ p0 = true /\ p1 = true /\ p2 = false) \/ (y = true /\ p0 = true /\ p1 = true /\ p2 = true) := by cases y <;> cases p0 <;> cases p1 <;> cases p2 <;> simp
      have h2 : y' = false \/ (y' = true /\ p3 = false) \/ (y' = true /\ p3 = true /\ p4 = false) \/ (y' = true /\ p3 = true /\ p4 = true /\ p5 = false) \/ (y' = true /\ p3 = true /\ p4 = true /\ p5 = true) := by cases y' <;> cases p3 <;> cases p4 <;> cases p5 <;> simp
      rcases h1 with rfl | ⟨rfl, rfl⟩ | ⟨rfl, rfl, rfl⟩ | ⟨rfl, rfl, rfl, rfl⟩ | ⟨rfl, rfl, rfl, rfl⟩
      · rcases h2 with rfl | ⟨rfl, rfl⟩ | ⟨rfl, rfl, rfl⟩ | ⟨rfl, rfl, rfl, rfl⟩ | ⟨rfl, rfl, rfl, rfl⟩
        all_goals
          go_wp2_with fail
          go_roundw
          case rel => exact ⟨i + 1, by omega, by go_num, by rw [HST2.out]; simp, HB2⟩
          case measure => simp [intOf]; omega
      · rcases h2 with rfl | ⟨rfl, rfl⟩ | ⟨rfl, rfl, rfl⟩ | ⟨rfl, rfl, rfl, rfl⟩ | ⟨rfl, rfl, rfl, rfl⟩
        all_goals
          go_wp2_with fail
          go_roundw
          case rel => exact ⟨i + 1, by omega, by go_num, by rw [HST2.out]; simp, HB2⟩
          case measure => simp [intOf]; omega
      · rcases h2 with rfl | ⟨rfl, rfl⟩ | ⟨rfl, rfl, rfl⟩ | ⟨rfl, rfl, rfl, rfl⟩ | ⟨rfl, rfl, rfl, rfl⟩
        all_goals
          go_wp2_with fail
          go_roundw
          case rel => exact ⟨i + 1, by omega, by go_num, by rw [HST2.out]; simp, HB2⟩
          case measure => simp [intOf]; omega
      · rcases h2 with rfl | ⟨rfl, rfl⟩ | ⟨rfl, rfl, rfl⟩ | ⟨rfl, rfl, rfl, rfl⟩ | ⟨rfl, rfl, rfl, rfl⟩
        all_goals
          go_wp2_with fail
          go_roundw
          case rel => exact ⟨i + 1, by omega, by go_num, by rw [HST2.out]; simp, HB2⟩
          case measure => simp [intOf]; omega
      · clear h2
        go_wp2_with fail
        go_roundw
        case rel => exact ⟨i + 1, by omega, by go_num, by rw [HST2.out]; simp, HB2⟩
        case measure => simp [intOf]; omega
    · have hlt2 : ¬ ((i : Int) < (N : Int)) := by omega
      obtain rfl : i = N := by omega
      go_wp2_with fail
      go_ret
      exact ⟨rfl, below_then HBW.out hbs.out⟩
end Go.Proofs.YtlmpcpfabeakjaaGreat
namespace Go.Proofs.YtlmpcpfabeakjaaGreat
open Go.RowKit
set_option maxHeartbeats 8000000 in
set_option maxRecDepth 100000 in
theorem live_reg (w1 : World) (k r c q : Int) (lo : Option Addr) (n cl gi gv T vc i : Nat) (p kk t : Int) (tt : Nat) (PB : Bool -> Prop) (hi : (0 : Int) <= (i : Int)) (hi2 : (i : Int) < (T : Int)) (x0 x1 x2 x4 x5 x6 x7 x8 x9 x10 x11 x12 x14 x15 x16 x17 x18 x20 x21 x22 x23 x24 x25 x26 x27 x28 x29 x30 x31 x32 x33 x34 x35 x36 x37 x38 x39 x40 x41 x42 x43 x44 x45 x46 x47 x48 x49 x50 x51 x52 x53 x54 x55 x56 x57 x58 x59 x60 x61 x62 x63 x64 x65 x66 x67 x68 x69 x70 x71 x72 x73 x74 x75 x76 x77 x78 x79 x80 x81 x82 x83 x84 x85 x86 x87 x88 x89 x90 x91 x92 x93 x94 x95 x96 x97 x98 x99 x100 x101 x102 x103 x104 x105 x106 x107 x108 x109 x110 x111 x112 x113 x114 x115 x116 x117 x118 x119 x120 x121 x122 x123 x124 x125 x126 x127 x128 x129 x130 x131 x132 x133 x134 x135 x136 x137 x138 x139 x140 x141 x142 x143 x144 x145 x146 x147 x148 x149 x150 x151 x152 x153 x154 x155 x156 x157 x158 x159 x160 x161 x162 x163 x164 x165 x166 x167 x168 x169 x170 x171 x172 x173 x174 x175 x176 x177 x178 x179 x180 x181 x182 x183 x184 x185 x186 x187 x188 x189 x190 x191 x192 x193 x194 x195 x196 x197 x198 x199 x200 x201 x202 x203 x204 x205 x206 x207 x208 x209 x210 x211 x212 x213 x214 x215 x216 x217 : Value)
    (HS : Hid (∀ v, Below w1.heap.size w1 v -> (v.cell? ⟨gi, 0, none⟩ = some (.int .i64 k) /\ v.cell? ⟨gi, 1, none⟩ = some (.int .i64 r) /\ v.cell? ⟨gi, 2, none⟩ = some (.int .i64 c) /\ v.cell? ⟨gi, 3, none⟩ = some (.int .i64 q) /\ v.cell? ⟨gi, 4, none⟩ = some (.slice lo n cl) /\ v.cell? ⟨gv, i * 3, none⟩ = some (.int .i64 p) /\ v.cell? ⟨gv, i * 3 + 1, none⟩ = some (.int .u8 kk) /\ v.cell? ⟨gv, i * 3 + 2, none⟩ = some (.int .i64 t))))
    (HP1 : Hid (∀ v, Below w1.heap.size w1 v -> Calls Tryz.prog 26 #[.agg #[.int .i64 k, .int .i64 r, .int .i64 c, .int .i64 q, .slice lo n cl], .agg #[.int .i64 p, .int .u8 kk, .int .i64 t]] v fun e w' => ∃ b : Bool, e = .returned (.bool b) /\ PB b /\ Below v.heap.size v w'))
    (HP2 : Hid (∀ v, Below w1.heap.size w1 v -> Calls Tryz.prog 27 #[.agg #[.int .i64 k, .int .i64 r, .int .i64 c, .int .i64 q, .slice lo n cl], .agg #[.int .i64 p, .int .u8 kk, .int .i64 t]] v fun e w' => e = .returned (.int .i64 ((tt : Nat) : Int)) /\ Below v.heap.size v w'))
    (Q : Exit -> Act -> World -> Prop) (HPN : Hid (∀ e (a : Act) d (v : Value) w, Q (.panic e) (a.put d v) w -> Q (.panic e) a w)) (HQ : Hid (∀ v (cond : Bool) y106 y107 y108 y109 y110 y111 y112 y113 y114 y115 y116 y117 y118 y119 y120 y121 y122 y123, Below w1.heap.size w1 v -> (cond = true \/ (PB true /\ ¬ ((tt : Nat) : Int) <= r)) -> Q .normal { tmps := #[x0, x1, x2, .pointer (some ⟨gi, 0, none⟩), x4, x5, x6, x7, x8, x9, x10, x11, x12, .slice (some ⟨gv, 0, none⟩) T vc, x14, x15, x16, x17, x18, .int .i64 (i : Int), x20, x21, x22, x23, x24, x25, x26, x27, x28, x29, x30, x31, x32, x33, x34, x35, x36, x37, x38, x39, x40, x41, x42, x43, x44, x45, x46, x47, x48, x49, x50, x51, x52, x53, x54, x55, x56, x57, x58, x59, x60, x61, x62, x63, x64, x65, x66, x67, x68, x69, x70, x71, x72, x73, x74, x75, x76, x77, x78, x79, x80, x81, x82, x83, x84, x85, x86, x87, x88, x89, x90, x91, x92, x93, x94, x95, x96, x97, x98, x99, x100, x101, x102, x103, x104, x105, y106, y107, y108, y109, y110, y111, y112, y113, y114, y115, y116, y117, y118, y119, y120, y121, y122, y123, .bool cond, x125, x126, x127, x128, x129, x130, x131, x132, x133, x134, x135, x136, x137, x138, x139, x140, x141, x142, x143, x144, x145, x146, x147, x148, x149, x150, x151, x152, x153, x154, x155, x156, x157, x158, x159, x160, x161, x162, x163, x164, x165, x166, x167, x168, x169, x170, x171, x172, x173, x174, x175, x176, x177, x178, x179, x180, x181, x182, x183, x184, x185, x186, x187, x188, x189, x190, x191, x192, x193, x194, x195, x196, x197, x198, x199, x200, x201, x202, x203, x204, x205, x206, x207, x208, x209, x210, x211, x212, x213, x214, x215, x216, x217], defers := [] } v)) :
    Code.wp Tryz.prog (Code.region 19 #[{ dst := some 106, op := Op.load 26 (.tmp 3), type := 26, pos := "outright.go:155", after := #[], guard := none }, { dst := some 107, op := Op.move (.tmp 13), type := 43, pos := "outright.go:155", after := #[], guard := none }, { dst := some 108, op := Op.move (.tmp 19), type := 3, pos := "outright.go:155", after := #[], guard := none }, { dst := some 109, op := Op.indexAddr 43 (.tmp 107) (.tmp 108), type := 0, pos := "outright.go:155", after := #[{ on := 1, ground := .data }, { on := 2, ground := .data }], guard := none }, { dst := some 110, op := Op.load 57 (.tmp 109), type := 57, pos := "outright.go:155", after := #[{ on := 3, ground := .data }], guard := none }, { dst := some 111, op := Op.call { callee := Callee.value (Operand.func 26), args := #[.tmp 106, .tmp 110], argTypes := #[26, 57] }, type := 4, pos := "outright.go:155", after := #[{ on := 0, ground := .data }, { on := 4, ground := .data }], guard := none }, { dst := some 112, op := Op.unOp UnOp.not 4 (.tmp 111), type := 4, pos := "outright.go:155", after := #[{ on := 5, ground := .data }], guard := none }, { dst := some 113, op := Op.move (.tmp 112), type := 4, pos := "outright.go:155", after := #[{ on := 6, ground := .data }, { on := 5, ground := Ground.chain }], guard := none }, { dst := some 114, op := Op.load 26 (.tmp 3), type := 26, pos := "outright.go:155", after := #[{ on := 7, ground := Ground.guard }], guard := some (7, false) }, { dst := some 115, op := Op.move (.tmp 13), type := 43, pos := "outright.go:155", after := #[{ on := 7, ground := Ground.guard }], guard := some (7, false) }, { dst := some 116, op := Op.move (.tmp 19), type := 3, pos := "outright.go:155", after := #[{ on := 7, ground := Ground.guard }], guard := some (7, false) }, { dst := some 117, op := Op.indexAddr 43 (.tmp 115) (.tmp 116), type := 0, pos := "outright.go:155", after := #[{ on := 9, ground := .data }, { on := 10, ground := .data }, { on := 7, ground := Ground.guard }], guard := some (7, false) }, { dst := some 118, op := Op.load 57 (.tmp 117), type := 57, pos := "outright.go:155", after := #[{ on := 11, ground := .data }, { on := 7, ground := Ground.guard }], guard := some (7, false) }, { dst := some 119, op := Op.call { callee := Callee.value (Operand.func 27), args := #[.tmp 114, .tmp 118], argTypes := #[26, 57] }, type := 3, pos := "outright.go:155", after := #[{ on := 8, ground := .data }, { on := 12, ground := .data }, { on := 7, ground := Ground.chain }, { on := 7, ground := Ground.guard }], guard := some (7, false) }, { dst := some 120, op := Op.fieldAddr 26 (.tmp 3) 0, type := 0, pos := "outright.go:155", after := #[{ on := 7, ground := Ground.guard }], guard := some (7, false) }, { dst := some 121, op := Op.fieldAddr 23 (.tmp 120) 1, type := 0, pos := "outright.go:155", after := #[{ on := 14, ground := .data }, { on := 7, ground := Ground.guard }], guard := some (7, false) }, { dst := some 122, op := Op.load 3 (.tmp 121), type := 3, pos := "outright.go:155", after := #[{ on := 15, ground := .data }, { on := 7, ground := Ground.guard }], guard := some (7, false) }, { dst := some 123, op := Op.binOp BinOp.leq 3 (.tmp 119) (.tmp 122) 3, type := 4, pos := "outright.go:155", after := #[{ on := 13, ground := .data }, { on := 16, ground := .data }, { on := 7, ground := Ground.guard }], guard := some (7, false) }, { dst := some 124, op := Op.pick (.tmp 113) (Operand.const (Value.bool true)) (.tmp 123), type := 4, pos := "outright.go:155", after := #[{ on := 7, ground := .data }, { on := 17, ground := .data }], guard := none }] true) Q { tmps := #[x0, x1, x2, .pointer (some ⟨gi, 0, none⟩), x4, x5, x6, x7, x8, x9, x10, x11, x12, .slice (some ⟨gv, 0, none⟩) T vc, x14, x15, x16, x17, x18, .int .i64 (i : Int), x20, x21, x22, x23, x24, x25, x26, x27, x28, x29, x30, x31, x32, x33, x34, x35, x36, x37, x38, x39, x40, x41, x42, x43, x44, x45, x46, x47, x48, x49, x50, x51, x52, x53, x54, x55, x56, x57, x58, x59, x60, x61, x62, x63, x64, x65, x66, x67, x68, x69, x70, x71, x72, x73, x74, x75, x76, x77, x78, x79, x80, x81, x82, x83, x84, x85, x86, x87, x88, x89, x90, x91, x92, x93, x94, x95, x96, x97, x98, x99, x100, x101, x102, x103, x104, x105, x106, x107, x108, x109, x110, x111, x112, x113, x114, x115, x116, x117, x118, x119, x120, x121, x122, x123, x124, x125, x126, x127, x128, x129, x130, x131, x132, x133, x134, x135, x136, x137, x138, x139, x140, x141, x142, x143, x144, x145, x146, x147, x148, x149, x150, x151, x152, x153, x154, x155, x156, x157, x158, x159, x160, x161, x162, x163, x164, x165, x166, x167, x168, x169, x170, x171, x172, x173, x174, x175, x176, x177, x178, x179, x180, x181, x182, x183, x184, x185, x186, x187, x188, x189, x190, x191, x192, x193, x194, x195, x196, x197, x198, x199, x200, x201, x202, x203, x204, x205, x206, x207, x208, x209, x210, x211, x212, x213, x214, x215, x216, x217], defers := [] } w1 := by
  obtain ⟨s0, s1, s2, s3, s4, c0, c1, c2⟩ := HS.out w1 (Below.refl _ _)
  refine wp_region_held_drew (S := fun v => v.cell? ⟨gi, 0, none⟩ = some (.int .i64 k) /\ v.cell? ⟨gi, 1, none⟩ = some (.int .i64 r) /\ v.cell? ⟨gi, 2, none⟩ = some (.int .i64 c) /\ v.cell? ⟨gi, 3, none⟩ = some (.int .i64 q) /\ v.cell? ⟨gi, 4, none⟩ = some (.slice lo n cl) /\ v.cell? ⟨gv, i * 3, none⟩ = some (.int .i64 p) /\ v.cell? ⟨gv, i * 3 + 1, none⟩ = some (.int .u8 kk) /\ v.cell? ⟨gv, i * 3 + 2, none⟩ = some (.int .i64 t)) (by kernel_rfl) ⟨s0, s1, s2, s3, s4, c0, c1, c2⟩ (fun hHeld => ?_)
  refine wpAnyH_take (i := 0) (oi := _) (v := .agg #[.int .i64 k, .int .i64 r, .int .i64 c, .int .i64 q, .slice lo n cl]) rfl (by kernel_rfl) (by kernel_rfl) (by kernel_rfl) (fun _ _ _ h => HPN.out _ _ _ _ _ h) (Or.inl ⟨by kernel_rfl, ?_⟩) (by assumption) ?_
  · intro w' hSw
    try dsimp only at hSw
    go_simp <;> first | with_reducible rfl | assumption
  simp only [Act.put]
  refine wpAnyH_take (i := 1) (oi := _) (v := .slice (some ⟨gv, 0, none⟩) T vc) rfl (by kernel_rfl) (by kernel_rfl) (by kernel_rfl) (fun _ _ _ h => HPN.out _ _ _ _ _ h) (Or.inl ⟨by kernel_rfl, ?_⟩) (by assumption) ?_
  · intro w' hSw
    try dsimp only at hSw
    go_simp <;> first | with_reducible rfl | assumption
  simp only [Act.put]
  refine wpAnyH_take (i := 2) (oi := _) (v := .int .i64 (i : Int)) rfl (by kernel_rfl) (by kernel_rfl) (by kernel_rfl) (fun _ _ _ h => HPN.out _ _ _ _ _ h) (Or.inl ⟨by kernel_rfl, ?_⟩) (by assumption) ?_
  · intro w' hSw
    try dsimp only at hSw
    go_simp <;> first | with_reducible rfl | assumption
  simp only [Act.put]
  refine wpAnyH_take (i := 3) (oi := _) (v := .pointer (some ⟨gv, i * 3, none⟩)) rfl (by kernel_rfl) (by kernel_rfl) (by kernel_rfl) (fun _ _ _ h => HPN.out _ _ _ _ _ h) (Or.inl ⟨by kernel_rfl, ?_⟩) (by assumption) ?_
  · intro w' hSw
    try dsimp only at hSw
    go_simp <;> first | with_reducible rfl | assumption
  simp only [Act.put]
  refine wpAnyH_take (i := 4) (oi := _) (v := .agg #[.int .i64 p, .int .u8 kk, .int .i64 t]) rfl (by kernel_rfl) (by kernel_rfl) (by kernel_rfl) (fun _ _ _ h => HPN.out _ _ _ _ _ h) (Or.inl ⟨by kernel_rfl, ?_⟩) (by assumption) ?_
  · intro w' hSw
    try dsimp only at hSw
    go_simp <;> first | with_reducible rfl | assumption
  simp only [Act.put]
  refine wpAnyH_ready (rs := [5]) (by kernel_rfl) (by simp) ?_
  refine AllReadyH.cons (o := _) rfl (fun K hK => ?_) AllReadyH.nil
  go_simp
  refine (HP1.out _ (below_drew _ _)).mono ?_
  rintro e wp ⟨b, rfl, hbt, hpb⟩
  have HBp : Hid (Below w1.heap.size w1 wp) := below_then (below_drew _ _) hpb
  refine hK.out _ _ (HS.out wp HBp.out) (fun hHeld => ?_)
  clear hK K
  try simp only [Act.put]
  cases b
  · refine wpAnyH_take (i := 6) (oi := _) (v := .bool true) rfl (by kernel_rfl) (by kernel_rfl) (by kernel_rfl) (fun _ _ _ h => HPN.out _ _ _ _ _ h) (Or.inl ⟨by kernel_rfl, ?_⟩) (by assumption) ?_
    · intro w' hSw
      try dsimp only at hSw
      go_simp <;> first | with_reducible rfl | assumption
    simp only [Act.put]
    refine wpAnyH_take (i := 7) (oi := _) (v := .bool true) rfl (by kernel_rfl) (by kernel_rfl) (by kernel_rfl) (fun _ _ _ h => HPN.out _ _ _ _ _ h) (Or.inl ⟨by kernel_rfl, ?_⟩) (by assumption) ?_
    · intro w' hSw
      try dsimp only at hSw
      go_simp <;> first | with_reducible rfl | assumption
    simp only [Act.put]
    refine wpAnyH_take (i := 8) (oi := _) (v := undef) rfl (by kernel_rfl) (by kernel_rfl) (by kernel_rfl) (fun _ _ _ h => HPN.out _ _ _ _ _ h) (Or.inr ⟨by kernel_rfl, rfl⟩) (by assumption) ?_
    simp only [Act.put]
    refine wpAnyH_take (i := 9) (oi := _) (v := undef) rfl (by kernel_rfl) (by kernel_rfl) (by kernel_rfl) (fun _ _ _ h => HPN.out _ _ _ _ _ h) (Or.inr ⟨by kernel_rfl, rfl⟩) (by assumption) ?_
    simp only [Act.put]
    refine wpAnyH_take (i := 10) (oi := _) (v := undef) rfl (by kernel_rfl) (by kernel_rfl) (by kernel_rfl) (fun _ _ _ h => HPN.out _ _ _ _ _ h) (Or.inr ⟨by kernel_rfl, rfl⟩) (by assumption) ?_
    simp only [Act.put]
    refine wpAnyH_take (i := 14) (oi := _) (v := undef) rfl (by kernel_rfl) (by kernel_rfl) (by kernel_rfl) (fun _ _ _ h => HPN.out _ _ _ _ _ h) (Or.inr ⟨by kernel_rfl, rfl⟩) (by assumption) ?_
    simp only [Act.put]
    refine wpAnyH_take (i := 11) (oi := _) (v := undef) rfl (by kernel_rfl) (by kernel_rfl) (by kernel_rfl) (fun _ _ _ h => HPN.out _ _ _ _ _ h) (Or.inr ⟨by kernel_rfl, rfl⟩) (by assumption) ?_
    simp only [Act.put]
    refine wpAnyH_take (i := 12) (oi := _) (v := undef) rfl (by kernel_rfl) (by kernel_rfl) (by kernel_rfl) (fun _ _ _ h => HPN.out _ _ _ _ _ h) (Or.inr ⟨by kernel_rfl, rfl⟩) (by assumption) ?_
    simp only [Act.put]
    refine wpAnyH_take (i := 15) (oi := _) (v := undef) rfl (by kernel_rfl) (by kernel_rfl) (by kernel_rfl) (fun _ _ _ h => HPN.out _ _ _ _ _ h) (Or.inr ⟨by kernel_rfl, rfl⟩) (by assumption) ?_
    simp only [Act.put]
    refine wpAnyH_take (i := 16) (oi := _) (v := undef) rfl (by kernel_rfl) (by kernel_rfl) (by kernel_rfl) (fun _ _ _ h => HPN.out _ _ _ _ _ h) (Or.inr ⟨by kernel_rfl, rfl⟩) (by assumption) ?_
    simp only [Act.put]
    refine wpAnyH_ready (rs := [13]) (by kernel_rfl) (by simp) ?_
    refine AllReadyH.cons (o := _) rfl (fun K hK => ?_) AllReadyH.nil
    go_simp
    refine hK.out _ _ (HS.out wp HBp.out) (fun hHeld => ?_)
    clear hK K
    try simp only [Act.put]
    refine wpAnyH_take (i := 17) (oi := _) (v := undef) rfl (by kernel_rfl) (by kernel_rfl) (by kernel_rfl) (fun _ _ _ h => HPN.out _ _ _ _ _ h) (Or.inr ⟨by kernel_rfl, rfl⟩) (by assumption) ?_
    simp only [Act.put]
    refine wpAnyH_take (i := 18) (oi := _) (v := .bool true) rfl (by kernel_rfl) (by kernel_rfl) (by kernel_rfl) (fun _ _ _ h => HPN.out _ _ _ _ _ h) (Or.inl ⟨by kernel_rfl, ?_⟩) (by assumption) ?_
    · intro w' hSw
      try dsimp only at hSw
      go_simp <;> first | with_reducible rfl | assumption
    simp only [Act.put]
    refine wpAnyH_done (by kernel_rfl) ?_ _
    exact HQ.out _ true _ _ _ _ _ _ _ _ _ _ _ _ _ _ _ _ _ _ HBp.out (.inl rfl)
  · refine wpAnyH_take (i := 6) (oi := _) (v := .bool false) rfl (by kernel_rfl) (by kernel_rfl) (by kernel_rfl) (fun _ _ _ h => HPN.out _ _ _ _ _ h) (Or.inl ⟨by kernel_rfl, ?_⟩) (by assumption) ?_
    · intro w' hSw
      try dsimp only at hSw
      go_simp <;> first | with_reducible rfl | assumption
    simp only [Act.put]
    refine wpAnyH_take (i := 7) (oi := _) (v := .bool false) rfl (by kernel_rfl) (by kernel_rfl) (by kernel_rfl) (fun _ _ _ h => HPN.out _ _ _ _ _ h) (Or.inl ⟨by kernel_rfl, ?_⟩) (by assumption) ?_
    · intro w' hSw
      try dsimp only at hSw
      go_simp <;> first | with_reducible rfl | assumption
    simp only [Act.put]
    refine wpAnyH_take (i := 8) (oi := _) (v := .agg #[.int .i64 k, .int .i64 r, .int .i64 c, .int .i64 q, .slice lo n cl]) rfl (by kernel_rfl) (by kernel_rfl) (by kernel_rfl) (fun _ _ _ h => HPN.out _ _ _ _ _ h) (Or.inl ⟨by kernel_rfl, ?_⟩) (by assumption) ?_
    · intro w' hSw
      try dsimp only at hSw
      go_simp <;> first | with_reducible rfl | assumption
    simp only [Act.put]
    refine wpAnyH_take (i := 9) (oi := _) (v := .slice (some ⟨gv, 0, none⟩) T vc) rfl (by kernel_rfl) (by kernel_rfl) (by kernel_rfl) (fun _ _ _ h => HPN.out _ _ _ _ _ h) (Or.inl ⟨by kernel_rfl, ?_⟩) (by assumption) ?_
    · intro w' hSw
      try dsimp only at hSw
      go_simp <;> first | with_reducible rfl | assumption
    simp only [Act.put]
    refine wpAnyH_take (i := 10) (oi := _) (v := .int .i64 (i : Int)) rfl (by kernel_rfl) (by kernel_rfl) (by kernel_rfl) (fun _ _ _ h => HPN.out _ _ _ _ _ h) (Or.inl ⟨by kernel_rfl, ?_⟩) (by assumption) ?_
    · intro w' hSw
      try dsimp only at hSw
      go_simp <;> first | with_reducible rfl | assumption
    simp only [Act.put]
    refine wpAnyH_take (i := 11) (oi := _) (v := .pointer (some ⟨gv, i * 3, none⟩)) rfl (by kernel_rfl) (by kernel_rfl) (by kernel_rfl) (fun _ _ _ h => HPN.out _ _ _ _ _ h) (Or.inl ⟨by kernel_rfl, ?_⟩) (by assumption) ?_
    · intro w' hSw
      try dsimp only at hSw
      go_simp <;> first | with_reducible rfl | assumption
    simp only [Act.put]
    refine wpAnyH_take (i := 12) (oi := _) (v := .agg #[.int .i64 p, .int .u8 kk, .int .i64 t]) rfl (by kernel_rfl) (by kernel_rfl) (by kernel_rfl) (fun _ _ _ h => HPN.out _ _ _ _ _ h) (Or.inl ⟨by kernel_rfl, ?_⟩) (by assumption) ?_
    · intro w' hSw
      try dsimp only at hSw
      go_simp <;> first | with_reducible rfl | assumption
    simp only [Act.put]
    refine wpAnyH_take (i := 14) (oi := _) (v := .pointer (some ⟨gi, 0, none⟩)) rfl (by kernel_rfl) (by kernel_rfl) (by kernel_rfl) (fun _ _ _ h => HPN.out _ _ _ _ _ h) (Or.inl ⟨by kernel_rfl, ?_⟩) (by assumption) ?_
    · intro w' hSw
      try dsimp only at hSw
      go_simp <;> first | with_reducible rfl | assumption
    simp only [Act.put]
    refine wpAnyH_take (i := 15) (oi := _) (v := .pointer (some ⟨gi, 1, none⟩)) rfl (by kernel_rfl) (by kernel_rfl) (by kernel_rfl) (fun _ _ _ h => HPN.out _ _ _ _ _ h) (Or.inl ⟨by kernel_rfl, ?_⟩) (by assumption) ?_
    · intro w' hSw
      try dsimp only at hSw
      go_simp <;> first | with_reducible rfl | assumption
    simp only [Act.put]
    refine wpAnyH_take (i := 16) (oi := _) (v := .int .i64 r) rfl (by kernel_rfl) (by kernel_rfl) (by kernel_rfl) (fun _ _ _ h => HPN.out _ _ _ _ _ h) (Or.inl ⟨by kernel_rfl, ?_⟩) (by assumption) ?_
    · intro w' hSw
      try dsimp only at hSw
      go_simp <;> first | with_reducible rfl | assumption
    simp only [Act.put]
    refine wpAnyH_ready (rs := [13]) (by kernel_rfl) (by simp) ?_
    refine AllReadyH.cons (o := _) rfl (fun K hK => ?_) AllReadyH.nil
    go_simp
    refine (HP2.out _ HBp.out).mono ?_
    rintro e wq ⟨rfl, hqb⟩
    have HBq : Hid (Below w1.heap.size w1 wq) := below_then HBp.out hqb
    refine hK.out _ _ (HS.out wq HBq.out) (fun hHeld => ?_)
    clear hK K
    try simp only [Act.put]
    by_cases hle : ((tt : Nat) : Int) <= r
    · refine wpAnyH_take (i := 17) (oi := _) (v := .bool true) rfl (by kernel_rfl) (by kernel_rfl) (by kernel_rfl) (fun _ _ _ h => HPN.out _ _ _ _ _ h) (Or.inl ⟨by kernel_rfl, ?_⟩) (by assumption) ?_
      · intro w' hSw
        try dsimp only at hSw
        go_simp <;> first | with_reducible rfl | assumption
      simp only [Act.put]
      refine wpAnyH_take (i := 18) (oi := _) (v := .bool true) rfl (by kernel_rfl) (by kernel_rfl) (by kernel_rfl) (fun _ _ _ h => HPN.out _ _ _ _ _ h) (Or.inl ⟨by kernel_rfl, ?_⟩) (by assumption) ?_
      · intro w' hSw
        try dsimp only at hSw
        go_simp <;> first | with_reducible rfl | assumption
      simp only [Act.put]
      refine wpAnyH_done (by kernel_rfl) ?_ _
      exact HQ.out _ true _ _ _ _ _ _ _ _ _ _ _ _ _ _ _ _ _ _ HBq.out (.inl rfl)
    · refine wpAnyH_take (i := 17) (oi := _) (v := .bool false) rfl (by kernel_rfl) (by kernel_rfl) (by kernel_rfl) (fun _ _ _ h => HPN.out _ _ _ _ _ h) (Or.inl ⟨by kernel_rfl, ?_⟩) (by assumption) ?_
      · intro w' hSw
        try dsimp only at hSw
        go_simp <;> first | with_reducible rfl | assumption
      simp only [Act.put]
      refine wpAnyH_take (i := 18) (oi := _) (v := .bool false) rfl (by kernel_rfl) (by kernel_rfl) (by kernel_rfl) (fun _ _ _ h => HPN.out _ _ _ _ _ h) (Or.inl ⟨by kernel_rfl, ?_⟩) (by assumption) ?_
      · intro w' hSw
        try dsimp only at hSw
        go_simp <;> first | with_reducible rfl | assumption
      simp only [Act.put]
      refine wpAnyH_done (by kernel_rfl) ?_ _
      exact HQ.out _ false _ _ _ _ _ _ _ _ _ _ _ _ _ _ _ _ _ _ HBq.out (.inr ⟨hbt, hle⟩)
end Go.Proofs.YtlmpcpfabeakjaaGreat
namespace Go.Proofs.YtlmpcpfabeakjaaGreat.Cn
open Go.RowKit Go.Maps Go.ChangeShapes
set_option maxHeartbeats 4000000 in
set_option maxRecDepth 100000 in
theorem Missing_any {k r c q : Int} {N W : Nat} {x : Int} (h : Par k r c q N W x) (w : World) (ro : Option Addr) (rn rc : Nat) (A : Nat -> Option Addr) (L C : Nat -> Nat) (F : Nat -> Nat -> UInt8) (hr : Rw w ro rn A L C F) (E : Int) (hE : erR x N c rn L = E) (v : Int) (M : Int) (hM : erF E v = M) (zs : List Int) (hzs : (if M = 0 then dl (fun d => !hbv (hP N c L F) (hQ N c L F) v d) N else []) = zs) :
    Calls Tryz.prog 25 #[.agg #[.int .i64 k, .int .i64 r, .int .i64 c, .int .i64 q], .slice ro rn rc, .int .i64 v] w (AnsI w M zs) := by
  obtain ⟨w0, hw0⟩ : ∃ w0, w0 = w.alloc (.cells #[.int .i64 k, .int .i64 r, .int .i64 c, .int .i64 q] 23) := ⟨_, rfl⟩
  have b0 : Below w.heap.size w w0 := by rw [hw0]; exact below_alloc _ _
  have HH := holdings_any h w0 ro rn rc A L C F (hr.below b0) E hE
  unfold AnsH at HH
  have hle := h.le
  clear hr hE h
  generalize hP N c L F = P at *
  generalize hQ N c L F = Q at *
  have HHS := fun u a b => has_any u a b v
  obtain ⟨i0, hi0, hz0, hz1, hz2⟩ := info_parts info3
  unfold AnsI
  by_cases e0 : E = 0
  · subst e0
    rw [show lenE 0 N = N from rfl] at HH
    by_cases hv : 1 <= v /\ v <= 1073741824
    · obtain rfl : M = 0 := by rw [<- hM]; unfold erF; rw [if_pos rfl, if_pos hv]
      rw [if_pos rfl] at hzs
      have HZ : Hid (dl (fun d => !hbv P Q v d) N = zs) := hzs
      have v1 : ¬ v < 1 := by omega
      have v2 : ¬ 1073741824 < v := by omega
      clear hzs hM hv
      go_enter Tryz.func25, Tryz.ntmps25
      go_wp2_with fail
      rw [<- hw0]
      refine HH.mono ?_
      rintro e wa ⟨a, cap, rfl, hh, ha⟩
      have HT : Hid (Hol w0.heap.size wa a N cap P Q) := hh
      have BA : Hid (Below w.heap.size w wa) := below_then b0 ha
      clear hh ha b0 hw0 HH
      go_wp2_with fail
      go_loopw [10, 32] (fun l y wr => ∃ (i : Nat) (a2 : Option Addr) (n2 cap2 : Nat), i <= N /\ y = .int .i64 (i : Int) /\ l = .slice a2 n2 cap2 /\ n2 <= i /\ Hid (wr.ownsInts wa.heap.size 3 .i64 (.slice a2 n2 cap2) (dl (fun d => !hbv P Q v d) i)) /\ Hid (Below wa.heap.size wa wr)) (fun _ y _ => N - (intOf y).toNat)
      case atStart => exact ⟨0, none, 0, 0, Nat.zero_le _, rfl, rfl, Nat.le_refl _, World.ownsInts_nil _ _ _ _, Below.refl _ _⟩
      case round =>
        obtain ⟨i, a2, n2, cap2, hi, rfl, rfl, hn2, hown, hbw⟩ := hrel
        by_cases hlt : i < N
        · obtain ⟨g, rfl, _, hgl⟩ := HT.out.at_ (by omega)
          have c0 : wr.cell? ⟨g, i * 2, none⟩ = some (.int .i64 (P i)) := (hbw.out.cell hgl).trans (HT.out.c0 hlt)
          have c1 : wr.cell? ⟨g, i * 2 + 1, none⟩ = some (.int .i64 (Q i)) := (hbw.out.cell hgl).trans (HT.out.c1 hlt)
          have i1 : (0 : Int) <= (i : Int) := by omega
          have i2 : (i : Int) < (N : Int) := by omega
          obtain ⟨wd, hwd⟩ : ∃ wd, wd = wr.alloc (.cells #[.int .i64 (P i), .int .i64 (Q i)] 100) := ⟨_, rfl⟩
          have BD : Hid (Below wa.heap.size wa wd) := by show Below _ _ _; rw [hwd]; exact b_alloc hbw.out _
          have OD : Hid (wd.ownsInts wa.heap.size 3 .i64 (.slice a2 n2 cap2) (dl (fun d => !hbv P Q v d) i)) := by show World.ownsInts _ _ _ _ _ _; rw [hwd]; exact hown.out.alloc _
          have HX := HHS wd (P i) (Q i)
          cases hb : hbv P Q v i
          · rw [show decide (P i = v \/ Q i = v) = false from hb] at HX
            go_wp2_with fail
            rw [<- hwd]
            clear hwd c0 c1
            refine HX.mono ?_
            rintro e we ⟨rfl, hwe⟩
            have BE2 : Hid (Below wa.heap.size wa we) := below_step BD.out hwe BD.out.size
            have OE := ownsInts_below OD.out hwe
            clear hwe HX
            have HLL : Hid (n2 = (dl (fun d => !hbv P Q v d) i).length) := ints_len OE
            have hl2 : (dl (fun d => !hbv P Q v d) i).length <= 32 := by rw [<- HLL.out]; omega
            go_wp2_with (first
              | (at_builtin; refine wpList_append_own_at _ rfl _ _ 40 rfl wa.heap.size 3 i0 (.int .i64 0) 1 8 Tryz.underlying40 hi0 hz0 hz1 hz2 rfl (by decide) _ _ _ rfl (OE.1.alloc _) ⟨we.heap.size, 0, none⟩ 1 1 [.int .i64 (i : Int)] rfl rfl (cell_one_new _ _ _) (ints_oneCell .i64 [(i : Int)]) (by unfold maxLen; omega) (by omega) (by have := BE2.out.size; simp; omega) ?_; intro v' w2 hown2 hgrow hnil hloc)
              | go_in)
            obtain ⟨a3, cap3, rfl⟩ := own_form hown2
            have hap := OE.appended hown2 (WalkArith.wf_i64 (by omega))
            have hll := HLL.out
            rw [<- hll] at hap
            go_roundw
            case rel =>
              refine ⟨i + 1, a3, n2 + 1, cap3, by omega, by go_num, by rw [<- hll], by omega, ?_, ?_⟩
              · show World.ownsInts _ _ _ _ _ _
                rw [dl, hb, if_pos (by rfl)]; exact hap
              · exact (b_alloc BE2.out _).grown hgrow (by have := BE2.out.size; simp; omega) (fun j hj => (OE.1.lt j hj).1)
            case measure => simp [intOf]; omega
          · rw [show decide (P i = v \/ Q i = v) = true from hb] at HX
            go_wp2_with fail
            rw [<- hwd]
            clear hwd c0 c1
            refine HX.mono ?_
            rintro e we ⟨rfl, hwe⟩
            have BE2 : Hid (Below wa.heap.size wa we) := below_step BD.out hwe BD.out.size
            have OE : Hid (we.ownsInts wa.heap.size 3 .i64 (.slice a2 n2 cap2) (dl (fun d => !hbv P Q v d) i)) := ownsInts_below OD.out hwe
            clear hwe HX
            go_wp2_with fail
            go_roundw
            case rel =>
              refine ⟨i + 1, a2, n2, cap2, by omega, by go_num, rfl, by omega, ?_, BE2.out⟩
              show World.ownsInts _ _ _ _ _ _
              rw [dl, hb, if_neg (by decide)]; exact OE.out
            case measure => simp [intOf]; omega
        · obtain rfl : i = N := by omega
          obtain rfl : zs = dl (fun d => !hbv P Q v d) i := HZ.out.symm
          go_wp2_with fail
          go_ret2
          have hll := ints_len hown.out
          refine ⟨a2, cap2, by rw [<- hll]; rfl, ?_, below_step BA.out hbw.out BA.out.size⟩
          rw [<- hll]; exact ints_mono hown.out BA.out.size
    · obtain rfl : M = 2 := by rw [<- hM]; unfold erF; rw [if_pos rfl, if_neg hv]
      rw [if_neg (by decide)] at hzs
      subst hzs
      clear hM
      by_cases v1 : v < 1
      · clear hv
        go_enter Tryz.func25, Tryz.ntmps25
        go_wp2_with fail
        rw [<- hw0]
        refine HH.mono ?_
        rintro e wa ⟨a, cap, rfl, hh, ha⟩
        have BA : Hid (Below w.heap.size w wa) := below_then b0 ha
        clear hh ha b0 hw0 HH
        go_wp2_with fail
        go_ret2
        exact ⟨none, 0, rfl, World.ownsInts_nil _ _ _ _, BA.out⟩
      · have v2 : 1073741824 < v := by omega
        clear hv
        go_enter Tryz.func25, Tryz.ntmps25
        go_wp2_with fail
        rw [<- hw0]
        refine HH.mono ?_
        rintro e wa ⟨a, cap, rfl, hh, ha⟩
        have BA : Hid (Below w.heap.size w wa) := below_then b0 ha
        clear hh ha b0 hw0 HH
        go_wp2_with fail
        go_ret2
        exact ⟨none, 0, rfl, World.ownsInts_nil _ _ _ _, BA.out⟩
  · have hq : (E != 0) = true := by simpa using e0
    obtain rfl : E = M := by rw [<- hM]; unfold erF; rw [if_neg e0]
    rw [if_neg e0] at hzs
    subst hzs
    rw [show lenE E N = 0 from if_neg e0] at HH
    clear hM
    go_enter Tryz.func25, Tryz.ntmps25
    go_wp2_with fail
    rw [<- hw0]
    refine HH.mono ?_
    rintro e wa ⟨a, cap, rfl, hh, ha⟩
    have BA : Hid (Below w.heap.size w wa) := below_then b0 ha
    clear hh ha b0 hw0 HH
    go_wp2_with fail
    go_ret2
    exact ⟨none, 0, rfl, World.ownsInts_nil _ _ _ _, BA.out⟩
end Go.Proofs.YtlmpcpfabeakjaaGreat.Cn
namespace Go.Proofs.YtlmpcpfabeakjaaGreat
open Go.RowKit
theorem ob_facts {k r c q : Int} {n : Nat} {F : Nat -> List UInt8} {o A D : Int} {M : Nat} {R V : Nat -> Int} {y : Int} {l s : Nat} {SR SV : Nat -> Int} (h : Ob k r c q n F o 0 A D M R V y l s SR SV) :
    ∃ N Q S W, Par k r c q N W 0 /\ Im.Ck k r c q n F 0 N Q S /\ (0 <= o /\ o < (Q : Int)) /\ (1 <= y /\ y <= 1073741824) /\ ∀ i, i < l -> (0 <= R i /\ R i < (Q : Int)) /\ 1 <= V i /\ V i <= 1073741824 := by
  rcases h with ⟨hE, _⟩ | ⟨N, W, Q, S, hp, hck, ho, ⟨hA, hD, hM, hRR, hVV, hy⟩, ⟨hne, hE⟩ | ⟨h0, hc⟩⟩
  · exact absurd rfl hE
  · exact absurd hE.symm hne
  · refine ⟨N, Q, S, W, hp, hck, ho, by rw [hy]; exact (dE_parts h0).2.1, fun i hi => ?_⟩
    rcases hc with ⟨_, _, hl, _⟩ | ⟨_, hEl, hl, _⟩
    · omega
    · obtain ⟨a1, a2, _⟩ := lf_parts (erLs_all hEl.symm i (by omega))
      exact ⟨a1, a2⟩
section
variable {k r c q : Int} {n N Q S W cl l : Nat} {F : Nat -> List UInt8} {w : World} {lo : Option Addr} {A0 : Nat -> Option Addr} {C0 : Nat -> Nat} {o y : Int} {R V SR SV : Nat -> Int}
theorem live_in (hoQ : 0 <= o /\ o < (Q : Int)) (hyr : 1 <= y /\ y <= 1073741824) (hlv : ∀ i, i < l -> (0 <= R i /\ R i < (Q : Int)) /\ 1 <= V i /\ V i <= 1073741824) (i : Nat) (hi : i <= l) : (0 <= lvA o l R SR i /\ lvA o l R SR i < (Q : Int)) /\ 1 <= lvA y l V SV i /\ lvA y l V SV i <= 1073741824 := by
  unfold lvA De.apI
  by_cases e : i = 0
  · rw [if_pos e, if_pos e]; exact ⟨hoQ, hyr⟩
  · rw [if_neg e, if_neg e, if_pos (by omega), if_pos (by omega)]
    exact hlv (i - 1) (by omega)
theorem sound_live (hp : Par k r c q N W 0) (hck : Im.Ck k r c q n F 0 N Q S) (hl : Im.Lst w lo n A0 C0 F) (hcl : n <= cl) (hoQ : 0 <= o /\ o < (Q : Int)) (hyr : 1 <= y /\ y <= 1073741824) (hlv : ∀ i, i < l -> (0 <= R i /\ R i < (Q : Int)) /\ 1 <= V i /\ V i <= 1073741824) (u : World) (hu : Below w.heap.size w u) (i : Nat) (hi : i <= l) :
    Calls Tryz.prog 26 #[.agg #[.int .i64 k, .int .i64 r, .int .i64 c, .int .i64 q, .slice lo n cl], .agg #[.int .i64 (lvA o l R SR i), .int .u8 (if i = 0 then 2 else 1), .int .i64 (lvA y l V SV i)]] u fun e w' => ∃ b : Bool, e = .returned (.bool b) /\ (b = true -> ∃ t, Snd k.toNat r.toNat N c (yy N c (gL Q F (lvA o l R SR i).toNat) (gF Q F (lvA o l R SR i).toNat)) (if i = 0 then 2 else 1) (lvA y l V SV i) t) /\ Below u.heap.size u w' := by
  obtain ⟨h1, h2⟩ := live_in (SR := SR) (SV := SV) hoQ hyr hlv i hi
  have hrow : Im.Rww k r c q n F (lvA o l R SR i) 0 N (Im.rowF Q (lvA o l R SR i).toNat F) := ⟨0, N, Q, S, hck, .inl ⟨rfl, h1.1, h1.2, rfl, rfl, rfl⟩⟩
  have key := fun kd hkd => sound_go hp u lo n cl (lvA o l R SR i) (lvA y l V SV i) kd hkd h2 (Im.rowF Q (lvA o l R SR i).toNat F) (fit_row hck (by omega)) (fun u' hu' => Im.Row_any hrow lo cl hcl A0 C0 u' (hl.below (below_then hu hu')))
  by_cases e : i = 0
  · have h := key 2 (.inr rfl)
    rw [if_pos e, if_pos e]; exact h
  · have h := key 1 (.inl rfl)
    rw [if_neg e, if_neg e]; exact h
theorem told_live (hp : Par k r c q N W 0) (hck : Im.Ck k r c q n F 0 N Q S) (hl : Im.Lst w lo n A0 C0 F) (hcl : n <= cl) (hoQ : 0 <= o /\ o < (Q : Int)) (hyr : 1 <= y /\ y <= 1073741824) (hlv : ∀ i, i < l -> (0 <= R i /\ R i < (Q : Int)) /\ 1 <= V i /\ V i <= 1073741824) (u : World) (hu : Below w.heap.size w u) (i : Nat) (hi : i <= l) :
    Calls Tryz.prog 27 #[.agg #[.int .i64 k, .int .i64 r, .int .i64 c, .int .i64 q, .slice lo n cl], .agg #[.int .i64 (lvA o l R SR i), .int .u8 (if i = 0 then 2 else 1), .int .i64 (lvA y l V SV i)]] u fun e w' => e = .returned (.int .i64 (((Cn.dl (tD (yy N c (gL Q F (lvA o l R SR i).toNat) (gF Q F (lvA o l R SR i).toNat)) (if i = 0 then 2 else 1) (lvA y l V SV i)) N).length : Nat) : Int)) /\ Below u.heap.size u w' := by
  obtain ⟨h1, h2⟩ := live_in (SR := SR) (SV := SV) hoQ hyr hlv i hi
  have hrow : Im.Rww k r c q n F (lvA o l R SR i) 0 N (Im.rowF Q (lvA o l R SR i).toNat F) := ⟨0, N, Q, S, hck, .inl ⟨rfl, h1.1, h1.2, rfl, rfl, rfl⟩⟩
  have key := fun kd hkd => told_go hp u lo n cl (lvA o l R SR i) (lvA y l V SV i) kd hkd (Im.rowF Q (lvA o l R SR i).toNat F) (fit_row hck (by omega)) (fun u' hu' => Im.Row_any hrow lo cl hcl A0 C0 u' (hl.below (below_then hu hu')))
  by_cases e : i = 0
  · have h := key 2 (.inr rfl)
    rw [if_pos e, if_pos e]; exact h
  · have h := key 1 (.inl rfl)
    rw [if_neg e, if_neg e]; exact h
end
end Go.Proofs.YtlmpcpfabeakjaaGreat
namespace Go.Proofs.YtlmpcpfabeakjaaGreat
open Go.RowKit
theorem below_five {a v : World} {g : Nat} (h : Below a.heap.size a v) (hg : a.heap.size <= g) (u0 u1 u2 u3 u4 : Value) : Below a.heap.size a (((((v.setCell ⟨g, 0, none⟩ u0).setCell ⟨g, 1, none⟩ u1).setCell ⟨g, 2, none⟩ u2).setCell ⟨g, 3, none⟩ u3).setCell ⟨g, 4, none⟩ u4) :=
  ((((h.setCell (p := ⟨g, 0, none⟩) hg u0).setCell (p := ⟨g, 1, none⟩) hg u1).setCell (p := ⟨g, 2, none⟩) hg u2).setCell (p := ⟨g, 3, none⟩) hg u3).setCell (p := ⟨g, 4, none⟩) hg u4
theorem at_five {a v : World} {g : Nat} {t : TypeId} {x0 x1 x2 x3 x4 : Value} (h : At a v g #[x0, x1, x2, x3, x4] t) (u0 u1 u2 u3 u4 : Value) : At a (((((v.setCell ⟨g, 0, none⟩ u0).setCell ⟨g, 1, none⟩ u1).setCell ⟨g, 2, none⟩ u2).setCell ⟨g, 3, none⟩ u3).setCell ⟨g, 4, none⟩ u4) g #[u0, u1, u2, u3, u4] t :=
  ((((h.set 0 u0).set 1 u1).set 2 u2).set 3 u3).set 4 u4
theorem im_mono {B B' : Nat} {w : World} {lo : Option Addr} {n : Nat} {A : Nat -> Option Addr} {C : Nat -> Nat} {F : Nat -> List UInt8} (h : Im.Im B w lo n A C F) (hB : B' <= B) : Im.Im B' w lo n A C F := by
  rcases h with h | ⟨l, e, h1, h2⟩
  · exact .inl h
  · exact .inr ⟨l, e, h1.mono (fun b hb => Nat.le_trans hB hb), fun i hi => by
      rcases h2 i hi with h | ⟨g, e1, e2, e3⟩
      · exact .inl h
      · exact .inr ⟨g, e1, Nat.le_trans hB e2, e3⟩⟩
set_option maxHeartbeats 8000000 in
set_option maxRecDepth 100000 in
theorem wip_reg (w1 : World) (k r c q : Int) (lo : Option Addr) (n cl g0 xb xo xn xc i : Nat) (z x k' r' c' q' : Int) (n' : Nat) (F' : Nat -> List UInt8) (hi : (0 : Int) <= (i : Int)) (hi2 : (i : Int) < (xn : Int)) (x0 x1 x3 x4 x5 x6 x7 x8 x9 x10 x11 x12 x13 x14 x15 x16 x17 x18 x19 x22 x23 x24 x25 x26 x27 x28 x29 x30 x31 x32 x33 x34 x35 x36 x37 x38 x39 x40 x41 x42 x43 x44 x45 x46 x47 x48 x49 x50 x51 x52 x53 x54 x55 x56 x57 x58 x59 x60 x61 x62 x63 x64 x65 x66 x67 x68 x69 x70 x71 x72 x73 x74 x75 x76 x77 x78 x79 x80 x81 x82 x83 x84 x85 x86 x87 x88 x89 x90 x91 x92 x93 x94 x95 x96 x97 x98 x99 x100 x101 x102 x103 x104 x105 x106 x107 x108 x109 x110 x111 x112 x113 x114 x115 x116 x117 x118 x119 x120 x121 x122 x123 x124 x125 x126 x127 x128 x129 x130 x131 x132 x133 x134 x135 x136 x137 x138 x139 x140 x141 x142 x143 x144 x145 x146 x147 x148 x149 x150 x151 x152 x153 x154 x155 x156 x157 x158 x159 x160 x161 x162 x163 x164 x165 x166 x167 x168 x169 x170 x171 x172 x173 x174 x175 x176 x177 x178 x179 x180 x181 x182 x183 x184 x185 x186 x187 x188 x189 x190 x191 x192 x193 x194 x195 x196 x197 x198 x199 x200 x201 x202 x203 x204 x205 x206 x207 x208 x209 x210 x211 x212 x213 x214 x215 x216 x217 : Value)
    (HS : Hid (∀ v, Below w1.heap.size w1 v -> (v.cell? ⟨g0, 0, none⟩ = some (.int .i64 k) /\ v.cell? ⟨g0, 1, none⟩ = some (.int .i64 r) /\ v.cell? ⟨g0, 2, none⟩ = some (.int .i64 c) /\ v.cell? ⟨g0, 3, none⟩ = some (.int .i64 q) /\ v.cell? ⟨g0, 4, none⟩ = some (.slice lo n cl) /\ v.cell? ⟨xb, xo + i, none⟩ = some (.int .i64 z))))
    (HP1 : Hid (∀ v, Below w1.heap.size w1 v -> Calls Tryz.prog 28 #[.agg #[.int .i64 k, .int .i64 r, .int .i64 c, .int .i64 q, .slice lo n cl], .int .i64 z] v fun e w' => ∃ lo' A' C', e = .returned (.tuple #[.agg #[.int .i64 k', .int .i64 r', .int .i64 c', .int .i64 q', .slice lo' n' n'], .int .i64 x]) /\ Im.Im v.heap.size w' lo' n' A' C' F' /\ Below v.heap.size v w'))
    (Q : Exit -> Act -> World -> Prop) (HQ : Hid (∀ v g lo' A' C' y132 y133 y134 y135 y136 y137 y138 y139 y140, Below w1.heap.size w1 v -> At w1 v g #[.int .i64 k', .int .i64 r', .int .i64 c', .int .i64 q', .slice lo' n' n'] 26 -> Im.Im w1.heap.size v lo' n' A' C' F' -> Q .normal { tmps := #[x0, x1, .slice (some ⟨xb, xo, none⟩) xn xc, x3, x4, x5, x6, x7, x8, x9, x10, x11, x12, x13, x14, x15, x16, x17, x18, x19, .pointer (some ⟨g0, 0, none⟩), .int .i64 (i : Int), .pointer (some ⟨g, 0, none⟩), .int .i64 x, x24, x25, x26, x27, x28, x29, x30, x31, x32, x33, x34, x35, x36, x37, x38, x39, x40, x41, x42, x43, x44, x45, x46, x47, x48, x49, x50, x51, x52, x53, x54, x55, x56, x57, x58, x59, x60, x61, x62, x63, x64, x65, x66, x67, x68, x69, x70, x71, x72, x73, x74, x75, x76, x77, x78, x79, x80, x81, x82, x83, x84, x85, x86, x87, x88, x89, x90, x91, x92, x93, x94, x95, x96, x97, x98, x99, x100, x101, x102, x103, x104, x105, x106, x107, x108, x109, x110, x111, x112, x113, x114, x115, x116, x117, x118, x119, x120, x121, x122, x123, x124, x125, x126, x127, x128, x129, x130, x131, y132, y133, y134, y135, y136, y137, y138, y139, y140, x141, x142, x143, x144, x145, x146, x147, x148, x149, x150, x151, x152, x153, x154, x155, x156, x157, x158, x159, x160, x161, x162, x163, x164, x165, x166, x167, x168, x169, x170, x171, x172, x173, x174, x175, x176, x177, x178, x179, x180, x181, x182, x183, x184, x185, x186, x187, x188, x189, x190, x191, x192, x193, x194, x195, x196, x197, x198, x199, x200, x201, x202, x203, x204, x205, x206, x207, x208, x209, x210, x211, x212, x213, x214, x215, x216, x217], defers := [] } v)) :
    Code.wp Tryz.prog (Code.region 25 #[{ dst := some 133, op := Op.load 26 (.tmp 20), type := 26, pos := "outright.go:161", after := #[], guard := none }, { dst := some 134, op := Op.move (.tmp 2), type := 40, pos := "outright.go:161", after := #[], guard := none }, { dst := some 135, op := Op.move (.tmp 21), type := 3, pos := "outright.go:161", after := #[], guard := none }, { dst := some 136, op := Op.indexAddr 40 (.tmp 134) (.tmp 135), type := 0, pos := "outright.go:161", after := #[{ on := 1, ground := .data }, { on := 2, ground := .data }], guard := none }, { dst := some 137, op := Op.load 3 (.tmp 136), type := 3, pos := "outright.go:161", after := #[{ on := 3, ground := .data }], guard := none }, { dst := some 138, op := Op.call { callee := Callee.value (Operand.func 28), args := #[.tmp 133, .tmp 137], argTypes := #[26, 3] }, type := 65, pos := "outright.go:161", after := #[{ on := 0, ground := .data }, { on := 4, ground := .data }], guard := none }, { dst := some 132, op := Op.move (.tmp 138), type := 65, pos := "outright.go:161", after := #[{ on := 5, ground := .data }], guard := none }, { dst := some 139, op := Op.extract (.tmp 132) 0, type := 26, pos := "outright.go:161", after := #[{ on := 6, ground := .data }], guard := none }, { dst := some 140, op := Op.extract (.tmp 132) 1, type := 33, pos := "outright.go:161", after := #[{ on := 6, ground := .data }, { on := 10, ground := Ground.gcOnly Departure.lateStores }], guard := none }, { dst := some 22, op := Op.alloc 26, type := 0, pos := "outright.go:161", after := #[], guard := none }, { dst := none, op := Op.store 26 (.tmp 22) (.tmp 139), type := 0, pos := "outright.go:161", after := #[{ on := 9, ground := .data }, { on := 7, ground := .data }, { on := 5, ground := Ground.chain }, { on := 0, ground := Ground.phase }, { on := 1, ground := Ground.phase }, { on := 2, ground := Ground.phase }, { on := 3, ground := Ground.phase }, { on := 4, ground := Ground.phase }, { on := 5, ground := Ground.phase }, { on := 6, ground := Ground.phase }, { on := 7, ground := Ground.phase }, { on := 8, ground := Ground.textOnly Departure.lateStores }, { on := 9, ground := Ground.phase }], guard := none }, { dst := some 23, op := Op.assign (.tmp 140), type := 33, pos := "outright.go:161", after := #[{ on := 8, ground := .data }, { on := 10, ground := Ground.chain }, { on := 0, ground := Ground.phase }, { on := 1, ground := Ground.phase }, { on := 2, ground := Ground.phase }, { on := 3, ground := Ground.phase }, { on := 4, ground := Ground.phase }, { on := 5, ground := Ground.phase }, { on := 6, ground := Ground.phase }, { on := 7, ground := Ground.phase }, { on := 8, ground := Ground.phase }, { on := 9, ground := Ground.phase }, { on := 10, ground := Ground.phase }], guard := none }] true) Q { tmps := #[x0, x1, .slice (some ⟨xb, xo, none⟩) xn xc, x3, x4, x5, x6, x7, x8, x9, x10, x11, x12, x13, x14, x15, x16, x17, x18, x19, .pointer (some ⟨g0, 0, none⟩), .int .i64 (i : Int), x22, x23, x24, x25, x26, x27, x28, x29, x30, x31, x32, x33, x34, x35, x36, x37, x38, x39, x40, x41, x42, x43, x44, x45, x46, x47, x48, x49, x50, x51, x52, x53, x54, x55, x56, x57, x58, x59, x60, x61, x62, x63, x64, x65, x66, x67, x68, x69, x70, x71, x72, x73, x74, x75, x76, x77, x78, x79, x80, x81, x82, x83, x84, x85, x86, x87, x88, x89, x90, x91, x92, x93, x94, x95, x96, x97, x98, x99, x100, x101, x102, x103, x104, x105, x106, x107, x108, x109, x110, x111, x112, x113, x114, x115, x116, x117, x118, x119, x120, x121, x122, x123, x124, x125, x126, x127, x128, x129, x130, x131, x132, x133, x134, x135, x136, x137, x138, x139, x140, x141, x142, x143, x144, x145, x146, x147, x148, x149, x150, x151, x152, x153, x154, x155, x156, x157, x158, x159, x160, x161, x162, x163, x164, x165, x166, x167, x168, x169, x170, x171, x172, x173, x174, x175, x176, x177, x178, x179, x180, x181, x182, x183, x184, x185, x186, x187, x188, x189, x190, x191, x192, x193, x194, x195, x196, x197, x198, x199, x200, x201, x202, x203, x204, x205, x206, x207, x208, x209, x210, x211, x212, x213, x214, x215, x216, x217], defers := [] } w1 := by
  obtain ⟨s0, s1, s2, s3, s4, s5⟩ := HS.out w1 (Below.refl _ _)
  have hd0 : Below w1.heap.size w1 w1.drew := below_drew _ _
  have hda : ∀ o, Below w1.heap.size w1 (w1.alloc o).drew := fun o => b_drew (b_alloc (Below.refl _ _) o)
  go_region_held3 (fun v => v.cell? ⟨g0, 0, none⟩ = some (.int .i64 k) /\ v.cell? ⟨g0, 1, none⟩ = some (.int .i64 r) /\ v.cell? ⟨g0, 2, none⟩ = some (.int .i64 c) /\ v.cell? ⟨g0, 3, none⟩ = some (.int .i64 q) /\ v.cell? ⟨g0, 4, none⟩ = some (.slice lo n cl) /\ v.cell? ⟨xb, xo + i, none⟩ = some (.int .i64 z)) ((refine HS.out _ ?_; first | with_reducible exact hd0 | with_reducible exact hda _ | with_reducible exact hb' | with_reducible exact b_alloc hb' _ | with_reducible exact below_five hb' hgg _ _ _ _ _ | with_reducible exact below_five (b_alloc hb' _) hb'.size _ _ _ _ _)) ((first
    | (go_at_call 28; refine (HP1.out _ (hda _)).mono ?_; rintro e w' ⟨lo', A', C', rfl, hv, hw'⟩; have hb' := below_then (hda _) hw'; have hat : At w1 w' w1.heap.size #[.int .i64 0, .int .i64 0, .int .i64 0, .int .i64 0, .slice none 0 0] 26 := (at_new (a := w1) (Below.refl _ _) _ 26).drew.below hw'; have hgg := hat.1; have c0 := hat.cell (i := 0) rfl; have c1 := hat.cell (i := 1) rfl; have c2 := hat.cell (i := 2) rfl; have c3 := hat.cell (i := 3) rfl; have c4 := hat.cell (i := 4) rfl; have cf := hat.free; clear hw')
    | (go_at_call 28; refine (HP1.out _ hd0).mono ?_; rintro e w' ⟨lo', A', C', rfl, hv, hw'⟩; have hb' := below_then hd0 hw'; clear hw')))
  · refine HQ.out _ _ lo' A' C' _ _ _ _ _ _ _ _ _ ?_ ?_ ?_
    · exact b_alloc hb' _
    · exact at_new hb' _ _
    · exact hv.below (below_alloc _ _)
  · refine HQ.out _ _ lo' A' C' _ _ _ _ _ _ _ _ _ ?_ ?_ ?_
    · exact below_five hb' hgg _ _ _ _ _
    · exact at_five hat _ _ _ _ _
    · exact im_mono (hv.only (Im.only5 w' w1.heap.size _ _ _ _ _) (fun b hb e => by have e2 : b = w1.heap.size := e; have h2 : (w1.alloc (.cells #[.int .i64 0, .int .i64 0, .int .i64 0, .int .i64 0, .slice none 0 0] 26)).heap.size <= b := hb; simp at h2; omega)) (by show w1.heap.size <= (w1.alloc _).heap.size; simp)
end Go.Proofs.YtlmpcpfabeakjaaGreat
